import Derived.Test.YtkchnomkiboihaaGreatPack17
import Derived.Test.YtkchnomkiboihaaGreatWithRoute
set_option linter.unusedSimpArgs false
set_option maxHeartbeats 8000000
namespace Go.Proofs.YtkchnomkiboihaaGreat
open RowKit renaming Below→Za,Hid→Zb
open Value renaming slice→za,int→ze
open IntKind renaming i64→zd
open Obj renaming cells→zg
open Proofs.Tryz renaming prog→zh
open Go renaming World→zi
open World renaming ownsRow→zk
open Go.RowKit
open Q
def zJ5(w:zi)(R:List RT)(L:List Int)(id:Int)(r:RT)(at_:Nat)(e:Ending)(w':zi):Prop:=
 ∃(g c g2 c2 k:Nat) (rs:Value),e=.returned (.agg #[rs,za (some ⟨g2,0,none⟩) (L.length+1) c2])/\Za w.heap.size w w'/\AtI L id k∧
  w'.ownsRow w.heap.size 2 1 (za (some ⟨g,0,none⟩) (zl2 r.ids at_).length c) (zl2 r.ids at_).length ((zl2 r.ids at_).map (ze zd))∧
  w'.ownsRow w.heap.size 80 2 rs (wrL R ⟨r.v,some ⟨g,0,none⟩,zl2 r.ids at_,c⟩).length (zj5 (wrL R ⟨r.v,some ⟨g,0,none⟩,zl2 r.ids at_,c⟩))∧
  w'.ownsRow w.heap.size 2 1 (za (some ⟨g2,0,none⟩) (L.length+1) c2) (L.length+1) ((insL L k id).map (ze zd))
theorem keepL{w1 X:zi}{b o:Nat}{v:Value}(hc:w1.cell? ⟨b,o,none⟩=some v)(hb:Za w1.heap.size w1 X):X.cell? ⟨b,o,none⟩=some v:=by
 rw[hb.cell (p:=⟨b,o,none⟩) (zV hc)];exact hc
theorem zf1{W:zi}{base size n:Nat}{e:TypeId}{v:Value}{xs:List Value}(h:W.ownsRow base e size v n xs){b:Nat}(j:Nat)(x:Value)(hb:v.ownBlock≠some b):(W.setCell ⟨b,j,none⟩ x).ownsRow base e size v n xs:=h.kept (zb3 W b j x) (.inr hb)
theorem zg7{w:zi}{base n size:Nat}{e:TypeId}{v:Value}{xs:List Value}(h:w.ownsRow base e size v n xs):∃a c,v=za a n c:=by
 rcases own_kinds h with⟨h1,h2⟩|⟨g9,c9,h1,_⟩
 ·exact⟨none,0,by rw[h1,h2]⟩
 ·exact⟨_,c9,h1⟩
theorem y95{W:zi}{base size n:Nat}{e:TypeId}{v:Value}{xs:List Value}{z:Nat}(h:W.ownsRow base e size v n xs)(hz:v.ownBlock=some z):∃cs,W.heap[z]? =some (.cells cs e (0,0)):=by
 obtain⟨_,⟨h1,_⟩|⟨g,ac,az,h2,_,h4,_⟩⟩:=h
 ·subst h1;cases hz
 ·subst h2;cases hz;exact⟨az,h4⟩
theorem yE7:(Tryz.prog.info? 33).map (·.size)=some 2:=by kernel_rfl
set_option maxRecDepth 20000 in
theorem yg1(ra la:Option Addr)(n rc l lc k:Nat)(R:List RT)(L:List Int)(id:Int)(w:zi)(hR:za9 w ra R)(hn:R.length=n)(bn:n<=100)(hS:zf7 R)(oG:(ra=none/\R.length=0)∨∃b off,ra=some ⟨b,off,none⟩)(hL:za3 w la L)(hl:L.length=l)(bl:l<=12)(hU:UpI L)(kQ:(la=none/\l=0)∨∃b off,la=some ⟨b,off,none⟩)
 (ua:∀j,j<R.length->(R.getD j rt0).ids.length<=12) (hk:k<R.length) (a_:∀j,j<k->zC0 (R.getD j rt0).ids (R.getD j rt0).ids.length id<0) (at_:Nat) (gV:zC0 (R.getD k rt0).ids (R.getD k rt0).ids.length id=at_) (be:at_<(R.getD k rt0).ids.length):
 Calls zh 115 #[.agg #[za ra n rc,za la l lc],ze zd id] w (zJ5 w R L id (R.getD k rt0) at_):=by
 have B0:Zb (Za w.heap.size w ((w.alloc (zg #[za ra n rc,za la l lc] 33)).alloc (zg #[za none 0 0,za none 0 0] 33))):=(zP _).alloc (by simp) _;have P0:Zb (((w.alloc (zg #[za ra n rc,za la l lc] 33)).alloc (zg #[za none 0 0,za none 0 0] 33)).heap[w.heap.size]? =some (zg #[za ra n rc,za la l lc] 33 (0,0))):=xm _ _ _;have Q0:Zb (((w.alloc (zg #[za ra n rc,za la l lc] 33)).alloc (zg #[za none 0 0,za none 0 0] 33)).heap[w.heap.size+1]? =some (zg #[za none 0 0,za none 0 0] 33 (0,0))):=xh _ _ _;have HR:=za4 hR;have HL:=za4 hL;have HN:=za4 hn;have ec:=za4 hl;have HS:=za4 hS;have HU:=za4 hU;have pN:=za4 oG;have n_:=za4 kQ;have ST:Zb (∀W,Za w.heap.size w W->Calls zh 143 #[.agg #[za ra n rc,za la l lc],ze zd id] W fun e w'=>e=.returned (.tuple #[.agg #[ze zd (R.getD k rt0).v,.slice (R.getD k rt0).a (R.getD k rt0).ids.length (R.getD k rt0).c],ze zd at_,.bool true])/\Za W.heap.size W w'):=fun W hW=>by
  have h:=zM3 ra la rc l lc R id W (HR.X.below hW) (by rw[HN.X];omega) (fun j hj=>by have:=ua j hj;omega);rw[HN.X]at h;refine h.mono fun e w' ⟨hs,hb⟩=>⟨?_,hb⟩;rcases hs with⟨k',JP,hno',hy',he⟩|⟨hno',he⟩
  ·have Ph:k'=k:=by
    rcases Nat.lt_trichotomy k' k with h1|h1|h1
    ·have:=a_ k' h1;omega
    ·exact h1
    ·have:=hno' k h1;omega
   subst Ph;rw[he,gV]
  ·have:=hno' k hk
   omega
 obtain⟨b,off,e0,c0,c1,Dq⟩:=HR.X k hk;clear c0 c1 e0 b off;have vE:=za4 Dq;have bJ:=ua k hk;clear Dq ua a_ hk hR hL hS hU oG kQ hn hl gV;generalize R.getD k rt0=r at*;obtain⟨rv,xa,ids,xc⟩:=r;simp only at ST vE bJ be⊢;obtain⟨sl,me⟩:=nmd ids.length;obtain⟨M,HM⟩:=nmd (zl2 ids at_);obtain⟨rl,cu⟩:=nmd M.length;have oS:rl<=12:=by
  rw[<-cu.X,<-HM.X,zk8 be];omega
 rw[me.X]at ST;have TK:Zb (∀W p,Za w.heap.size w W->W.cell? ⟨p,0,none⟩=some (ze zd at_)->Calls zh 169 #[za xa sl xc,.pointer (some ⟨p,0,none⟩)] W fun e w'=>∃g ac,e=.returned (.tuple #[za (some ⟨g,0,none⟩) rl ac,.bool true])/\Za W.heap.size W w'/\w'.ownsRow W.heap.size 2 1 (za (some ⟨g,0,none⟩) rl ac) rl (M.map (ze zd))):=fun W p hW hp=>by
  have h:=zG7 p at_ xa xc ids W hp (vE.X.below hW) (by omega);have hb:inB (at_:Int) 0 ((ids.length:Int) - 1)=true:=zf0 (by omega);rw[hb,yu,HM.X,me.X]at h;refine h.mono ?_;rintro e w' ⟨hb,⟨h,_⟩|⟨_,g,ac,he,ho⟩⟩
  ·cases h
  ·rw[cu.X]at he ho
   exact⟨g,ac,he,hb,ho⟩
 have WR:Zb (∀W g ac,Za w.heap.size w W->Calls zh 145 #[.agg #[za ra n rc,za la l lc],.agg #[ze zd rv,za (some ⟨g,0,none⟩) rl ac]] W fun e w'=>∃sl,e=.returned (.agg #[sl,za la l lc])/\Za W.heap.size W w'/\w'.ownsRow W.heap.size 80 2 sl (wrL R ⟨rv,some ⟨g,0,none⟩,M,ac⟩).length (zj5 (wrL R ⟨rv,some ⟨g,0,none⟩,M,ac⟩))):=fun W g ac hW=>by
  have h:=zp3 ra la rc l lc R ⟨rv,some ⟨g,0,none⟩,M,ac⟩ W (HR.X.below hW) (by rw[HN.X];omega) HS.X pN.X (by show M.length<=1000;rw[cu.X];omega);simp only[HN.X,cu.X]at h;exact h
 have BS:Zb (∀W,Za w.heap.size w W->Calls zh 146 #[za la l lc,ze zd id] W (yI4 L id W)):=fun W hW=>yf6 la l lc L id W (HL.X.below hW) ec.X (by omega) HU.X
 have CL:Zb (∀W,Za w.heap.size w W->Calls zh 83 #[za la l lc] W fun e w'=>∃sl,e=.returned sl/\Za W.heap.size W w'/\w'.ownsRow W.heap.size 2 1 sl l (L.map (ze zd))):=fun W hW=>z45 la lc l L W (HL.X.below hW) ec.X (by omega) n_.X
 obtain⟨p1,p2⟩:=za1 P0.X;go_enter Tryz.func115,Tryz.ntmps115
 go_wp2_with fail
 clear p1 p2;generalize(w.alloc _).alloc _=W0 at*;obtain⟨q,HQ⟩:=nmd w.heap.size;obtain⟨q1,gI⟩:=nmd (w.heap.size+1);rw[gI.X]at Q0⊢;rw[HQ.X]at P0
 try rw[HQ.X]
 refine(ST.X W0 B0.X).mono ?_;rintro e w1 ⟨rfl,hb⟩;have A2:Za w1.heap.size w1 (w1.alloc (zg #[ze zd rv,za xa sl xc] 80)):=zP _;have b2:Za W0.heap.size W0 (w1.alloc (zg #[ze zd rv,za xa sl xc] 80)):=hb.trans (A2.mono hb.size);have B2:=za4 (B0.X.trans (b2.mono B0.X.size));have P2:=za4 (za0 b2 (za2 P0.X) P0.X);have Q2:=za4 (za0 b2 (za2 Q0.X) Q0.X);have R2:=za4 (zS w1 (zg #[ze zd rv,za xa sl xc] 80));clear hb A2 b2 P0 Q0 ST
 go_wp2_with fail
 generalize w1.alloc _=W2 at*;generalize w1.heap.size=b5 at*;obtain⟨x0,x1⟩:=za1 R2.X;have kS:=x1
 go_region_held3 (fun W=>W.cell? ⟨b5,1,none⟩=some (za xa sl xc)) (first|with_reducible exact kS|go_keep) ((first
  |(go_at_call 144
    with_reducible refine(z50 at_ W2.drew).mono ?_
    rintro e w3 ⟨p,hp,rfl,hb,hc⟩;have D3:Zb (Za W2.heap.size W2 w3):=(y5 _ _).drew.trans (show Za W2.heap.size W2.drew w3 from hb);have C3:=za4 hc;have kS:=keepL x1 D3.X;clear hb hc)
  |(go_at_call 169
    with_reducible refine(TK.X w3 p (B2.X.trans (D3.X.mono B2.X.size)) C3.X).mono ?_
    rintro e w4 ⟨g,cg,rfl,hb,ho⟩;have D4:=za4 (D3.X.trans (hb.mono D3.X.size));have M4:=za4 (yc3 ho (B2.X.trans (D3.X.mono B2.X.size)).size);have kS:=keepL x1 D4.X;clear hb ho)))
 all_goals
  clear kS x0 x1;have B4:=za4 (B2.X.trans (D4.X.mono B2.X.size));have P4:=za4 (za0 D4.X (za2 P2.X) P2.X);have Q4:=za4 (za0 D4.X (za2 Q2.X) Q2.X);have R4:=za4 (za0 D4.X (za2 R2.X) R2.X);clear B2 P2 Q2 R2 D4;obtain⟨p1,p2⟩:=za1 P4.X;obtain⟨x0,x1⟩:=za1 R4.X
  go_wp2_with fail
  clear p1 p2 x0 x1;refine(WR.X w4 g cg B4.X).mono ?_;rintro e w5 ⟨rs,rfl,hb,ho⟩;obtain⟨N9,ns⟩:=nmd (wrL R ⟨rv,some ⟨g,0,none⟩,M,cg⟩);rw[ns.X]at ho;obtain⟨n9,wJ⟩:=nmd N9.length;rw[wJ.X]at ho;obtain⟨aO,bg,Mh⟩:=zg7 ho;subst Mh;have A5:Za w5.heap.size w5 (w5.alloc (zg #[za aO n9 bg,za la l lc] 33)):=zP _;have wL:Za w4.heap.size w4 (w5.alloc (zg #[za aO n9 bg,za la l lc] 33)):=hb.trans (A5.mono hb.size);have B5:=za4 (B4.X.trans (wL.mono B4.X.size));have P5:=za4 (za0 wL (za2 P4.X) P4.X);have Q5:=za4 (za0 wL (za2 Q4.X) Q4.X);have N5:=za4 (zS w5 (zg #[za aO n9 bg,za la l lc] 33));have M5:=za4 (zI0 M4.X wL);have O5:=za4 (zI0 (yc3 ho B4.X.size) A5);have LM:Zb (∀z,(za (some ⟨g,0,none⟩) rl cg).ownBlock=some z->w.heap.size<=z/\z<w5.heap.size/\z≠q1):=fun z hz=>by
   have h1:=M4.X.lt z hz;have h2:=hb.size;refine⟨h1.1,by omega,fun e=> ?_⟩;subst e;obtain⟨g',h3⟩:=y95 M4.X hz;rw[Q4.X]at h3;cases h3
  have KF:Zb (∀z,(za aO n9 bg).ownBlock=some z->w4.heap.size<=z/\z<w5.heap.size):=fun z hz=>ho.lt z hz;have SZ:Zb (q1<w4.heap.size/\w4.heap.size<=w5.heap.size):=⟨za2 Q4.X,hb.size⟩;clear hb ho A5 wL B4 P4 Q4 R4 M4;obtain⟨p1,p2⟩:=za1 P5.X
  go_wp2_with fail
  clear p1 p2;have Oq:Zb ((w5.alloc (zg #[za aO n9 bg,za la l lc] 33)).heap.size=w5.heap.size+1):=by show _=_;simp
  generalize w5.alloc _=W5 at*;generalize w5.heap.size=b10 at*;refine(BS.X W5 B5.X).mono ?_;rintro e wq ⟨kp,bf,rfl,z',hw⟩;rw[hw];clear hw wq;have j0:=za4 z';clear z';obtain⟨p1,p2⟩:=za1 P5.X
  go_wp2_with fail
  clear p1 p2;refine(CL.X W5 B5.X).mono ?_;rintro e w7 ⟨Rp,rfl,jQ,rE⟩;obtain⟨Jl,iJ,bh⟩:=zg7 rE;subst bh;have V7:=za4 (zS w7 (zg #[ze zd id] 2));have A7:Za w7.heap.size w7 (w7.alloc (zg #[ze zd id] 2)):=zP _;have D7:=za4 (jQ.trans (A7.mono jQ.size));have O7:=za4 (zI0 rE A7);have H7:Zb ((za Jl l iJ).ownBlock≠some w7.heap.size):=fun e=>by have:=(rE.lt _ e).2;omega
  clear A7 jQ rE
  go_wp2_with fail
  generalize w7.alloc _=W7 at*;generalize w7.heap.size=b7 at*;refine(z79 (za Jl l iJ) kp b7 W5.heap.size l id L W7 ec.X O7.X D7.X.size V7.X H7.X (by have:=j0.X.le;rw[ec.X]at this;exact this) (by omega)).mono ?_;rintro e w8 ⟨g2,c2,rfl,iM,jy⟩;have D8:=za4 (D7.X.trans iM);have L8:=za4 jy;clear iM jy O7 D7 V7 H7;have Q8:=za4 (za0 D8.X (za2 Q5.X) Q5.X);have N8:=za4 (za0 D8.X (za2 N5.X) N5.X);have rF:q1≠b10:=by have:=SZ.X;omega
  have pV:w.heap.size<=q1:=by have:=gI.X;omega
  have dx:w.heap.size<=b10:=by have:=SZ.X;omega
  obtain⟨l1,lm⟩:=nmd (l+1);have I':Zb ((w8.setCell ⟨b10,1,none⟩ (za (some ⟨g2,0,none⟩) l1 c2)).heap[b10]? =some (zg #[za aO n9 bg,za (some ⟨g2,0,none⟩) l1 c2] 33 (0,0))):=by
   have:=xb w8 b10 1 _ _ (za (some ⟨g2,0,none⟩) l1 c2) N8.X;show _=_;simpa using this
  have Q9:Zb ((w8.setCell ⟨b10,1,none⟩ (za (some ⟨g2,0,none⟩) l1 c2)).heap[q1]? =some (zg #[za none 0 0,za none 0 0] 33 (0,0))):=za6 (zb3 w8 b10 1 _) Q8.X (fun e=>by injection e with e;exact rF e);have bF:Zb ((((w8.setCell ⟨b10,1,none⟩ (za (some ⟨g2,0,none⟩) l1 c2)).setCell ⟨q1,0,none⟩ (za aO n9 bg)).setCell ⟨q1,1,none⟩ (za (some ⟨g2,0,none⟩) l1 c2)).heap[q1]? =some (zg #[za aO n9 bg,za (some ⟨g2,0,none⟩) l1 c2] 33 (0,0))):=by
   have:=xb _ q1 1 _ _ (za (some ⟨g2,0,none⟩) l1 c2) (xb _ q1 0 _ _ (za aO n9 bg) Q9.X);show _=_;simpa using this
  have mE:Zb (zJ5 w R L id ⟨rv,xa,ids,xc⟩ at_ (.returned (.agg #[za aO n9 bg,za (some ⟨g2,0,none⟩) l1 c2])) (((w8.setCell ⟨b10,1,none⟩ (za (some ⟨g2,0,none⟩) l1 c2)).setCell ⟨q1,0,none⟩ (za aO n9 bg)).setCell ⟨q1,1,none⟩ (za (some ⟨g2,0,none⟩) l1 c2))):=by
   have m8:=zI0 M5.X D8.X;have o8:=zI0 O5.X D8.X;have l8:=L8.X;rw[lm.X]at l8;have nm:∀z,(za (some ⟨g,0,none⟩) rl cg).ownBlock=some z->z≠b10/\z≠q1:=fun z hz=>by have:=LM.X z hz;exact⟨by omega,this.2.2⟩
   have no:∀z,(za aO n9 bg).ownBlock=some z->z≠b10/\z≠q1:=fun z hz=>by have:=KF.X z hz;have:=SZ.X;exact⟨by omega,by omega⟩
   have nl:∀z,(za (some ⟨g2,0,none⟩) l1 c2).ownBlock=some z->z≠b10/\z≠q1:=fun z hz=>by have:=(l8.lt z hz).1;have:=Oq.X;have:=SZ.X;exact⟨by omega,by omega⟩
   refine⟨g,cg,g2,c2,kp,za aO n9 bg,by rw[ec.X,lm.X],?_,j0.X,?_,?_,?_⟩
   ·exact((B5.X.trans (D8.X.mono B5.X.size)).setCell dx _).setCell pV _ |>.setCell pV _
   ·show zk _ _ _ _ (za (some ⟨g,0,none⟩) (zl2 ids at_).length cg) (zl2 ids at_).length ((zl2 ids at_).map (ze zd))
    rw[HM.X,cu.X];exact zf1 (zf1 (zf1 m8 _ _ (fun e=>(nm _ e).1 rfl)) _ _ (fun e=>(nm _ e).2 rfl)) _ _ (fun e=>(nm _ e).2 rfl)
   ·show zk _ _ _ _ _ (wrL R ⟨rv,some ⟨g,0,none⟩,zl2 ids at_,cg⟩).length (zj5 (wrL R ⟨rv,some ⟨g,0,none⟩,zl2 ids at_,cg⟩))
    rw[HM.X,ns.X,wJ.X];exact zf1 (zf1 (zf1 o8 _ _ (fun e=>(no _ e).1 rfl)) _ _ (fun e=>(no _ e).2 rfl)) _ _ (fun e=>(no _ e).2 rfl)
   ·rw[ec.X,lm.X]
    exact yc3 (zf1 (zf1 (zf1 l8 _ _ (fun e=>(nl _ e).1 rfl)) _ _ (fun e=>(nl _ e).2 rfl)) _ _ (fun e=>(nl _ e).2 rfl)) B5.X.size
  obtain⟨y0,y1⟩:=za1 N8.X;have yf:=fun i=>yZ _ _ i _ _ N8.X;obtain⟨z0,z1⟩:=za1 I'.X;obtain⟨v0,v1⟩:=za1 Q9.X;have vf:=fun i=>yZ _ _ i _ _ Q9.X;rw[lm.X];clear Q8 N8 Q9 I' Q5 N5 M5 O5 L8 D8 LM KF;go_wp2;exact xe (v:=.agg #[za aO n9 bg,za (some ⟨g2,0,none⟩) l1 c2]) (results_cell_row Tryz.results115 _ _ q1 33 _ (0,0) _ (by rfl) bF.X Tryz.underlying33 rfl yE7) (by rfl) mE.X
