import Derived.Test.YtkchnomkiboihaaGreatPack20
import Derived.Test.YtkchnomkiboihaaGreatWithRoute
set_option linter.unusedSimpArgs false
set_option maxHeartbeats 8000000
namespace Go.Proofs.YtkchnomkiboihaaGreat
open Value renaming slice→za,int→zc
open IntKind renaming i64→zb
open Obj renaming cells→zd
open Proofs.Tryz renaming prog→ze
open Go renaming World→zg
open World renaming ownsRow→zk
open Go.RowKit
open Q
def zG7(w:zg)(R:List RT)(L:List Int)(id:Int)(r:RT)(at_:Nat)(e:Ending)(w':zg):Prop:=
 ∃(g c g2 c2 k:Nat) (rs:Value),e=.returned (.agg #[rs,za (some ⟨g2,0,none⟩) (L.length+1) c2])/\Below w.heap.size w w'/\AtI L id k∧
  w'.ownsRow w.heap.size 2 1 (za (some ⟨g,0,none⟩) (zk9 r.ids at_).length c) (zk9 r.ids at_).length ((zk9 r.ids at_).map (zc zb))∧
  w'.ownsRow w.heap.size 80 2 rs (wrL R ⟨r.v,some ⟨g,0,none⟩,zk9 r.ids at_,c⟩).length (zg5 (wrL R ⟨r.v,some ⟨g,0,none⟩,zk9 r.ids at_,c⟩))∧
  w'.ownsRow w.heap.size 2 1 (za (some ⟨g2,0,none⟩) (L.length+1) c2) (L.length+1) ((insL L k id).map (zc zb))
theorem zn7{w1 X:zg}{b o:Nat}{v:Value}(hc:w1.cell? ⟨b,o,none⟩=some v)(hb:Below w1.heap.size w1 X):X.cell? ⟨b,o,none⟩=some v:=by
 rw[hb.cell (p:=⟨b,o,none⟩) (zT hc)];exact hc
theorem zf1{W:zg}{base size n:Nat}{e:TypeId}{v:Value}{xs:List Value}(h:W.ownsRow base e size v n xs){b:Nat}(j:Nat)(x:Value)(hb:v.ownBlock≠some b):(W.setCell ⟨b,j,none⟩ x).ownsRow base e size v n xs:=h.kept (ze2 W b j x) (.inr hb)
theorem zh9{w:zg}{base n size:Nat}{e:TypeId}{v:Value}{xs:List Value}(h:w.ownsRow base e size v n xs):∃a c,v=za a n c:=by
 rcases own_kinds h with⟨h1,h2⟩|⟨g9,c9,h1,_⟩
 ·exact⟨none,0,by rw[h1,h2]⟩
 ·exact⟨_,c9,h1⟩
theorem y81{W:zg}{base size n:Nat}{e:TypeId}{v:Value}{xs:List Value}{z:Nat}(h:W.ownsRow base e size v n xs)(hz:v.ownBlock=some z):∃cs,W.heap[z]? =some (.cells cs e (0,0)):=by
 obtain⟨_,⟨h1,_⟩|⟨g,cap,cur,h2,_,h4,_⟩⟩:=h
 ·subst h1;cases hz
 ·subst h2;cases hz;exact⟨cur,h4⟩
theorem yC3:(Tryz.prog.info? 33).map (·.size)=some 2:=by kernel_rfl
set_option maxRecDepth 20000 in
theorem yb4(ra la:Option Addr)(n rc l lc k:Nat)(R:List RT)(L:List Int)(id:Int)(w:zg)(hR:za9 w ra R)(hn:R.length=n)(bn:n<=100)(hS:zg1 R)(hra:(ra=none/\R.length=0)∨∃b off,ra=some ⟨b,off,none⟩)(hL:za3 w la L)(hl:L.length=l)(bl:l<=12)(hU:UpI L)(hla:(la=none/\l=0)∨∃b off,la=some ⟨b,off,none⟩)
 (hids:∀j,j<R.length->(R.getD j rt0).ids.length<=12) (hk:k<R.length) (hno:∀j,j<k->zB9 (R.getD j rt0).ids (R.getD j rt0).ids.length id<0) (at_:Nat) (hat:zB9 (R.getD k rt0).ids (R.getD k rt0).ids.length id=at_) (hin:at_<(R.getD k rt0).ids.length):
 Calls ze 115 #[.agg #[za ra n rc,za la l lc],zc zb id] w (zG7 w R L id (R.getD k rt0) at_):=by
 have B0:Hid (Below w.heap.size w ((w.alloc (zd #[za ra n rc,za la l lc] 33)).alloc (zd #[za none 0 0,za none 0 0] 33))):=(zK _).alloc (by simp) _;have P0:Hid (((w.alloc (zd #[za ra n rc,za la l lc] 33)).alloc (zd #[za none 0 0,za none 0 0] 33)).heap[w.heap.size]? =some (zd #[za ra n rc,za la l lc] 33 (0,0))):=xb _ _ _;have Q0:Hid (((w.alloc (zd #[za ra n rc,za la l lc] 33)).alloc (zd #[za none 0 0,za none 0 0] 33)).heap[w.heap.size+1]? =some (zd #[za none 0 0,za none 0 0] 33 (0,0))):=y8 _ _ _;have HR:=za4 hR;have HL:=za4 hL;have HN:=za4 hn;have HLL:=za4 hl;have HS:=za4 hS;have HU:=za4 hU;have HRA:=za4 hra;have HLA:=za4 hla;have ST:Hid (∀W,Below w.heap.size w W->Calls ze 143 #[.agg #[za ra n rc,za la l lc],zc zb id] W fun e w'=>e=.returned (.tuple #[.agg #[zc zb (R.getD k rt0).v,.slice (R.getD k rt0).a (R.getD k rt0).ids.length (R.getD k rt0).c],zc zb at_,.bool true])/\Below W.heap.size W w'):=fun W hW=>by
  have h:=zL2 ra la rc l lc R id W (HR.X.below hW) (by rw[HN.X];omega) (fun j hj=>by have:=hids j hj;omega);rw[HN.X]at h;refine h.mono fun e w' ⟨hs,hb⟩=>⟨?_,hb⟩;rcases hs with⟨k',hk',hno',hy',he⟩|⟨hno',he⟩
  ·have hkk:k'=k:=by
    rcases Nat.lt_trichotomy k' k with h1|h1|h1
    ·have:=hno k' h1;omega
    ·exact h1
    ·have:=hno' k h1;omega
   subst hkk;rw[he,hat]
  ·have:=hno' k hk
   omega
 obtain⟨b,off,e0,c0,c1,hI0⟩:=HR.X k hk;clear c0 c1 e0 b off;have HI0:=za4 hI0;have h12:=hids k hk;clear hI0 hids hno hk hR hL hS hU hra hla hn hl hat;generalize R.getD k rt0=r at*;obtain⟨rv,xa,ids,xc⟩:=r;simp only at ST HI0 h12 hin⊢;obtain⟨sl,HSL⟩:=nmd ids.length;obtain⟨M,HM⟩:=nmd (zk9 ids at_);obtain⟨rl,HRL⟩:=nmd M.length;have hrl:rl<=12:=by
  rw[<-HRL.X,<-HM.X,zl4 hin];omega
 rw[HSL.X]at ST;have TK:Hid (∀W p,Below w.heap.size w W->W.cell? ⟨p,0,none⟩=some (zc zb at_)->Calls ze 169 #[za xa sl xc,.pointer (some ⟨p,0,none⟩)] W fun e w'=>∃g cap,e=.returned (.tuple #[za (some ⟨g,0,none⟩) rl cap,.bool true])/\Below W.heap.size W w'/\w'.ownsRow W.heap.size 2 1 (za (some ⟨g,0,none⟩) rl cap) rl (M.map (zc zb))):=fun W p hW hp=>by
  have h:=zD8 p at_ xa xc ids W hp (HI0.X.below hW) (by omega);have hb:inB (at_:Int) 0 ((ids.length:Int) - 1)=true:=zf3 (by omega);rw[hb,yk,HM.X,HSL.X]at h;refine h.mono ?_;rintro e w' ⟨hb,⟨h,_⟩|⟨_,g,cap,he,ho⟩⟩
  ·cases h
  ·rw[HRL.X]at he ho
   exact⟨g,cap,he,hb,ho⟩
 have WR:Hid (∀W g cap,Below w.heap.size w W->Calls ze 145 #[.agg #[za ra n rc,za la l lc],.agg #[zc zb rv,za (some ⟨g,0,none⟩) rl cap]] W fun e w'=>∃sl,e=.returned (.agg #[sl,za la l lc])/\Below W.heap.size W w'/\w'.ownsRow W.heap.size 80 2 sl (wrL R ⟨rv,some ⟨g,0,none⟩,M,cap⟩).length (zg5 (wrL R ⟨rv,some ⟨g,0,none⟩,M,cap⟩))):=fun W g cap hW=>by
  have h:=zp3 ra la rc l lc R ⟨rv,some ⟨g,0,none⟩,M,cap⟩ W (HR.X.below hW) (by rw[HN.X];omega) HS.X HRA.X (by show M.length<=1000;rw[HRL.X];omega);simp only[HN.X,HRL.X]at h;exact h
 have BS:Hid (∀W,Below w.heap.size w W->Calls ze 146 #[za la l lc,zc zb id] W (yI3 L id W)):=fun W hW=>yf8 la l lc L id W (HL.X.below hW) HLL.X (by omega) HU.X
 have CL:Hid (∀W,Below w.heap.size w W->Calls ze 83 #[za la l lc] W fun e w'=>∃sl,e=.returned sl/\Below W.heap.size W w'/\w'.ownsRow W.heap.size 2 1 sl l (L.map (zc zb))):=fun W hW=>z59 la lc l L W (HL.X.below hW) HLL.X (by omega) HLA.X
 obtain⟨p1,p2⟩:=za1 P0.X;go_enter Tryz.func115,Tryz.ntmps115
 go_wp2_with fail
 clear p1 p2;generalize(w.alloc (zd #[za ra n rc,za la l lc] 33)).alloc (zd #[za none 0 0,za none 0 0] 33)=W0 at*;obtain⟨q,HQ⟩:=nmd w.heap.size;obtain⟨q1,HQ1⟩:=nmd (w.heap.size+1);rw[HQ1.X]at Q0⊢;rw[HQ.X]at P0
 try rw[HQ.X]
 refine(ST.X W0 B0.X).mono ?_;rintro e w1 ⟨rfl,hb⟩;have A2:Below w1.heap.size w1 (w1.alloc (zd #[zc zb rv,za xa sl xc] 80)):=zK _;have b2:Below W0.heap.size W0 (w1.alloc (zd #[zc zb rv,za xa sl xc] 80)):=hb.trans (A2.mono hb.size);have B2:Hid (Below w.heap.size w (w1.alloc (zd #[zc zb rv,za xa sl xc] 80))):=B0.X.trans (b2.mono B0.X.size);have P2:=za4 (za0 b2 (za2 P0.X) P0.X);have Q2:=za4 (za0 b2 (za2 Q0.X) Q0.X);have R2:Hid ((w1.alloc (zd #[zc zb rv,za xa sl xc] 80)).heap[w1.heap.size]? =some (zd #[zc zb rv,za xa sl xc] 80 (0,0))):=zN _ _;clear hb A2 b2 P0 Q0 ST
 go_wp2_with fail
 generalize w1.alloc (zd #[zc zb rv,za xa sl xc] 80)=W2 at*;generalize w1.heap.size=b5 at*;obtain⟨x0,x1⟩:=za1 R2.X;have kS:=x1
 go_region_held3 (fun W=>W.cell? ⟨b5,1,none⟩=some (za xa sl xc)) (first|with_reducible exact kS|go_keep) ((first
  |(go_at_call 144
    with_reducible refine(z36 at_ W2.drew).mono ?_
    rintro e w3 ⟨p,hp,rfl,hb,hc⟩;have D3:Hid (Below W2.heap.size W2 w3):=(yV _ _).drew.trans (show Below W2.heap.size W2.drew w3 from hb);have C3:=za4 hc;have kS:=zn7 x1 D3.X;clear hb hc)
  |(go_at_call 169
    with_reducible refine(TK.X w3 p (B2.X.trans (D3.X.mono B2.X.size)) C3.X).mono ?_
    rintro e w4 ⟨g,cg,rfl,hb,ho⟩;have D4:Hid (Below W2.heap.size W2 w4):=D3.X.trans (hb.mono D3.X.size);have M4:Hid (w4.ownsRow w.heap.size 2 1 (za (some ⟨g,0,none⟩) rl cg) rl (M.map (zc zb))):=yd5 ho (B2.X.trans (D3.X.mono B2.X.size)).size;have kS:=zn7 x1 D4.X;clear hb ho)))
 all_goals
  clear kS x0 x1;have B4:Hid (Below w.heap.size w w4):=B2.X.trans (D4.X.mono B2.X.size);have P4:=za4 (za0 D4.X (za2 P2.X) P2.X);have Q4:=za4 (za0 D4.X (za2 Q2.X) Q2.X);have R4:=za4 (za0 D4.X (za2 R2.X) R2.X);clear B2 P2 Q2 R2 D4;obtain⟨p1,p2⟩:=za1 P4.X;obtain⟨x0,x1⟩:=za1 R4.X
  go_wp2_with fail
  clear p1 p2 x0 x1;refine(WR.X w4 g cg B4.X).mono ?_;rintro e w5 ⟨rs,rfl,hb,ho⟩;obtain⟨N9,HN9⟩:=nmd (wrL R ⟨rv,some ⟨g,0,none⟩,M,cg⟩);rw[HN9.X]at ho;obtain⟨n9,HN9L⟩:=nmd N9.length;rw[HN9L.X]at ho;obtain⟨ra9,rc9,hrs⟩:=zh9 ho;subst hrs;have A5:Below w5.heap.size w5 (w5.alloc (zd #[za ra9 n9 rc9,za la l lc] 33)):=zK _;have b5':Below w4.heap.size w4 (w5.alloc (zd #[za ra9 n9 rc9,za la l lc] 33)):=hb.trans (A5.mono hb.size);have B5:Hid (Below w.heap.size w (w5.alloc (zd #[za ra9 n9 rc9,za la l lc] 33))):=B4.X.trans (b5'.mono B4.X.size);have P5:=za4 (za0 b5' (za2 P4.X) P4.X);have Q5:=za4 (za0 b5' (za2 Q4.X) Q4.X);have N5:Hid ((w5.alloc (zd #[za ra9 n9 rc9,za la l lc] 33)).heap[w5.heap.size]? =some (zd #[za ra9 n9 rc9,za la l lc] 33 (0,0))):=zN _ _;have M5:Hid ((w5.alloc (zd #[za ra9 n9 rc9,za la l lc] 33)).ownsRow w.heap.size 2 1 (za (some ⟨g,0,none⟩) rl cg) rl (M.map (zc zb))):=zI5 M4.X b5';have O5:Hid ((w5.alloc (zd #[za ra9 n9 rc9,za la l lc] 33)).ownsRow w.heap.size 80 2 (za ra9 n9 rc9) n9 (zg5 N9)):=zI5 (yd5 ho B4.X.size) A5;have LM:Hid (∀z,(za (some ⟨g,0,none⟩) rl cg).ownBlock=some z->w.heap.size<=z/\z<w5.heap.size/\z≠q1):=fun z hz=>by
   have h1:=M4.X.lt z hz;have h2:=hb.size;refine⟨h1.1,by omega,fun e=> ?_⟩;subst e;obtain⟨g',h3⟩:=y81 M4.X hz;rw[Q4.X]at h3;cases h3
  have LO5:Hid (∀z,(za ra9 n9 rc9).ownBlock=some z->w4.heap.size<=z/\z<w5.heap.size):=fun z hz=>ho.lt z hz;have SZ:Hid (q1<w4.heap.size/\w4.heap.size<=w5.heap.size):=⟨za2 Q4.X,hb.size⟩;clear hb ho A5 b5' B4 P4 Q4 R4 M4;obtain⟨p1,p2⟩:=za1 P5.X
  go_wp2_with fail
  clear p1 p2;have SW5:Hid ((w5.alloc (zd #[za ra9 n9 rc9,za la l lc] 33)).heap.size=w5.heap.size+1):=by show _=_;simp
  generalize w5.alloc (zd #[za ra9 n9 rc9,za la l lc] 33)=W5 at*;generalize w5.heap.size=b10 at*;refine(BS.X W5 B5.X).mono ?_;rintro e wq ⟨kp,bf,rfl,hat9,hw⟩;rw[hw];clear hw wq;have HAT:=za4 hat9;clear hat9;obtain⟨p1,p2⟩:=za1 P5.X
  go_wp2_with fail
  clear p1 p2;refine(CL.X W5 B5.X).mono ?_;rintro e w7 ⟨sl7,rfl,hb7,ho7⟩;obtain⟨la7,lc7,hsl⟩:=zh9 ho7;subst hsl;have V7:Hid ((w7.alloc (zd #[zc zb id] 2)).heap[w7.heap.size]? =some (zd #[zc zb id] 2 (0,0))):=zN _ _;have A7:Below w7.heap.size w7 (w7.alloc (zd #[zc zb id] 2)):=zK _;have D7:Hid (Below W5.heap.size W5 (w7.alloc (zd #[zc zb id] 2))):=hb7.trans (A7.mono hb7.size);have O7:Hid ((w7.alloc (zd #[zc zb id] 2)).ownsRow W5.heap.size 2 1 (za la7 l lc7) l (L.map (zc zb))):=zI5 ho7 A7;have H7:Hid ((za la7 l lc7).ownBlock≠some w7.heap.size):=fun e=>by have:=(ho7.lt _ e).2;omega
  clear A7 hb7 ho7
  go_wp2_with fail
  generalize w7.alloc (zd #[zc zb id] 2)=W7 at*;generalize w7.heap.size=b7 at*;refine(z75 (za la7 l lc7) kp b7 W5.heap.size l id L W7 HLL.X O7.X D7.X.size V7.X H7.X (by have:=HAT.X.le;rw[HLL.X]at this;exact this) (by omega)).mono ?_;rintro e w8 ⟨g2,c2,rfl,hb8,ho8⟩;have D8:Hid (Below W5.heap.size W5 w8):=D7.X.trans hb8;have L8:=za4 ho8;clear hb8 ho8 O7 D7 V7 H7;have Q8:=za4 (za0 D8.X (za2 Q5.X) Q5.X);have N8:=za4 (za0 D8.X (za2 N5.X) N5.X);have hqb:q1≠b10:=by have:=SZ.X;omega
  have hqw:w.heap.size<=q1:=by have:=HQ1.X;omega
  have hbw:w.heap.size<=b10:=by have:=SZ.X;omega
  obtain⟨l1,HL1⟩:=nmd (l+1);have N9':Hid ((w8.setCell ⟨b10,1,none⟩ (za (some ⟨g2,0,none⟩) l1 c2)).heap[b10]? =some (zd #[za ra9 n9 rc9,za (some ⟨g2,0,none⟩) l1 c2] 33 (0,0))):=by
   have:=zP w8 b10 1 _ _ (za (some ⟨g2,0,none⟩) l1 c2) N8.X;show _=_;simpa using this
  have Q9:Hid ((w8.setCell ⟨b10,1,none⟩ (za (some ⟨g2,0,none⟩) l1 c2)).heap[q1]? =some (zd #[za none 0 0,za none 0 0] 33 (0,0))):=zb9 (ze2 w8 b10 1 _) Q8.X (fun e=>by injection e with e;exact hqb e);have ROW:Hid ((((w8.setCell ⟨b10,1,none⟩ (za (some ⟨g2,0,none⟩) l1 c2)).setCell ⟨q1,0,none⟩ (za ra9 n9 rc9)).setCell ⟨q1,1,none⟩ (za (some ⟨g2,0,none⟩) l1 c2)).heap[q1]? =some (zd #[za ra9 n9 rc9,za (some ⟨g2,0,none⟩) l1 c2] 33 (0,0))):=by
   have:=zP _ q1 1 _ _ (za (some ⟨g2,0,none⟩) l1 c2) (zP _ q1 0 _ _ (za ra9 n9 rc9) Q9.X);show _=_;simpa using this
  have TOLD:Hid (zG7 w R L id ⟨rv,xa,ids,xc⟩ at_ (.returned (.agg #[za ra9 n9 rc9,za (some ⟨g2,0,none⟩) l1 c2])) (((w8.setCell ⟨b10,1,none⟩ (za (some ⟨g2,0,none⟩) l1 c2)).setCell ⟨q1,0,none⟩ (za ra9 n9 rc9)).setCell ⟨q1,1,none⟩ (za (some ⟨g2,0,none⟩) l1 c2))):=by
   have m8:=zI5 M5.X D8.X;have o8:=zI5 O5.X D8.X;have l8:=L8.X;rw[HL1.X]at l8;have nm:∀z,(za (some ⟨g,0,none⟩) rl cg).ownBlock=some z->z≠b10/\z≠q1:=fun z hz=>by have:=LM.X z hz;exact⟨by omega,this.2.2⟩
   have no:∀z,(za ra9 n9 rc9).ownBlock=some z->z≠b10/\z≠q1:=fun z hz=>by have:=LO5.X z hz;have:=SZ.X;exact⟨by omega,by omega⟩
   have nl:∀z,(za (some ⟨g2,0,none⟩) l1 c2).ownBlock=some z->z≠b10/\z≠q1:=fun z hz=>by have:=(l8.lt z hz).1;have:=SW5.X;have:=SZ.X;exact⟨by omega,by omega⟩
   refine⟨g,cg,g2,c2,kp,za ra9 n9 rc9,by rw[HLL.X,HL1.X],?_,HAT.X,?_,?_,?_⟩
   ·exact((B5.X.trans (D8.X.mono B5.X.size)).setCell hbw _).setCell hqw _ |>.setCell hqw _
   ·show zk _ _ _ _ (za (some ⟨g,0,none⟩) (zk9 ids at_).length cg) (zk9 ids at_).length ((zk9 ids at_).map (zc zb))
    rw[HM.X,HRL.X];exact zf1 (zf1 (zf1 m8 _ _ (fun e=>(nm _ e).1 rfl)) _ _ (fun e=>(nm _ e).2 rfl)) _ _ (fun e=>(nm _ e).2 rfl)
   ·show zk _ _ _ _ _ (wrL R ⟨rv,some ⟨g,0,none⟩,zk9 ids at_,cg⟩).length (zg5 (wrL R ⟨rv,some ⟨g,0,none⟩,zk9 ids at_,cg⟩))
    rw[HM.X,HN9.X,HN9L.X];exact zf1 (zf1 (zf1 o8 _ _ (fun e=>(no _ e).1 rfl)) _ _ (fun e=>(no _ e).2 rfl)) _ _ (fun e=>(no _ e).2 rfl)
   ·rw[HLL.X,HL1.X]
    exact yd5 (zf1 (zf1 (zf1 l8 _ _ (fun e=>(nl _ e).1 rfl)) _ _ (fun e=>(nl _ e).2 rfl)) _ _ (fun e=>(nl _ e).2 rfl)) B5.X.size
  obtain⟨y0,y1⟩:=za1 N8.X;have yf:=fun i=>yU _ _ i _ _ N8.X;obtain⟨z0,z1⟩:=za1 N9'.X;obtain⟨v0,v1⟩:=za1 Q9.X;have vf:=fun i=>yU _ _ i _ _ Q9.X;rw[HL1.X];clear Q8 N8 Q9 N9' Q5 N5 M5 O5 L8 D8 LM LO5;go_wp2;exact yX (v:=.agg #[za ra9 n9 rc9,za (some ⟨g2,0,none⟩) l1 c2]) (results_cell_row Tryz.results115 _ _ q1 33 _ (0,0) _ (by rfl) ROW.X Tryz.underlying33 rfl yC3) (by rfl) TOLD.X
