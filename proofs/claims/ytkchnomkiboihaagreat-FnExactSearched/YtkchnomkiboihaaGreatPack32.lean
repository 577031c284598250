import Derived.Test.YtkchnomkiboihaaGreatPack21
import Derived.Test.YtkchnomkiboihaaGreatPack28
import Derived.Test.YtkchnomkiboihaaGreatPack31
set_option linter.unusedSimpArgs false
set_option maxHeartbeats 4000000
namespace Go.Proofs.YtkchnomkiboihaaGreat
theorem qR:type_of% @Go.AllReadyH.cons:=@Go.AllReadyH.cons
theorem qS:type_of% @Go.AllReadyH.nil:=@Go.AllReadyH.nil
theorem qT:type_of% @Go.wpAnyH_ready:=@Go.wpAnyH_ready
theorem qU:type_of% @Go.wpAnyH_done:=@Go.wpAnyH_done
theorem qV:type_of% @Go.wp_region_held_drew:=@Go.wp_region_held_drew
open Value renaming slice→za,int→zc,oneCell'→zr
open IntKind renaming i64→zb
open Obj renaming cells→zd
open Proofs.Tryz renaming prog→ze
open Go renaming World→zg
open Act renaming put→zi
open World renaming ownsRow→zk
open Go.RowKit
open Q
theorem yw7{W:zg}{k:Nat}{T:TypeId}{a1 a2:Option Addr}{n1 c1 n2 c2:Nat}(hr:W.heap[k]? =some (zd #[za a1 n1 c1,za a2 n2 c2] T (0,0))){o:Nat}{x:Int}(h:W.cell? ⟨k,o,none⟩=some (zc zb x)):False:=by
 obtain⟨p0,p1⟩:=za1 hr;rcases o with _|_|o
 ·rw[p0]at h;cases h
 ·rw[p1]at h;cases h
 ·simp[World.cell?,hr]at h
theorem zj6{W:zg}{k:Nat}{T:TypeId}{a1 a2 a:Option Addr}{n1 c1 n2 c2:Nat}{zs:List Int}(h:za3 W a zs)(hr:W.heap[k]? =some (zd #[za a1 n1 c1,za a2 n2 c2] T (0,0)))(i:Nat)(x:Value):za3 (W.setCell ⟨k,i,none⟩ x) a zs:=fun j hj=>by
 obtain⟨b,off,e,hc⟩:=h j hj;exact⟨b,off,e,(World.cell?_setCell_far W ⟨k,i,none⟩ ⟨b,off+j,none⟩ x (fun e9=>by subst e9;exact yw7 hr hc)).trans hc⟩
theorem ze7{W:zg}{k:Nat}{T:TypeId}{a1 a2 ra:Option Addr}{n1 c1 n2 c2:Nat}{R:List RT}(h:za9 W ra R)(hr:W.heap[k]? =some (zd #[za a1 n1 c1,za a2 n2 c2] T (0,0)))(i:Nat)(x:Value):za9 (W.setCell ⟨k,i,none⟩ x) ra R:=fun j hj=>by
 obtain⟨b,off,e,h1,h2,h3⟩:=h j hj;have hne:k≠b:=fun e9=>by subst e9;exact yw7 hr h1
 exact⟨b,off,e,(World.cell?_setCell_far W ⟨k,i,none⟩ ⟨b,off+j*2,none⟩ x hne).trans h1,(World.cell?_setCell_far W ⟨k,i,none⟩ ⟨b,off+j*2+1,none⟩ x hne).trans h2,zj6 h3 hr i x⟩
def lvF(S P:List Int)(R:List RT)(L:List Int):Nat->List RT×List Int
 |0=>(R,L)
 |i+1=>(lvR (lvF S P R L i).1 (pkd S P i),zz7 (lvF S P R L i).2 (pkd S P i))
structure DL(W4 W:zg)(S P:List Int)(R0:List RT)(L0:List Int)(ra0 la0:Option Addr)(i:Nat)(ra:Option Addr)(n rc:Nat)(la:Option Addr)(l lc:Nat)(R:List RT)(L:List Int):Prop where
 b:Below W4.heap.size W4 W
 x:W.heap[W4.heap.size]? =some (zd #[za ra n rc,za la l lc] 33 (0,0))
 r:za9 W ra R
 rn:R.length=n
 s:za3 W la L
 ln:L.length=l
 iv:LvI S P L0.length i R L
 kr:R.map RT.key=(lvF S P R0 L0 i).1.map RT.key
 kl:L=(lvF S P R0 L0 i).2
 fr:(ra=none/\R.length=0)∨∃b off,ra=some ⟨b,off,none⟩
 fl:(la=none/\l=0)∨∃b off,la=some ⟨b,off,none⟩
 c:∀r∈R,r.ids.length<=r.c
 o:∀k,k<W4.heap.size->zj0 k ra0 la0 R0 L0->zj0 k ra la R L
theorem DL.below{W4 W W':zg}{S P:List Int}{R0 R:List RT}{L0 L:List Int}{i n rc l lc:Nat}{ra la ra0 la0:Option Addr}(h:DL W4 W S P R0 L0 ra0 la0 i ra n rc la l lc R L)(hb:Below W.heap.size W W'):DL W4 W' S P R0 L0 ra0 la0 i ra n rc la l lc R L:=
 ⟨h.b.trans (hb.mono h.b.size),za0 hb (za2 h.x) h.x,h.r.below hb,h.rn,h.s.below hb,h.ln,h.iv,h.kr,h.kl,h.fr,h.fl,h.c,h.o⟩
theorem DL.step{W4 W w1:zg}{S P:List Int}{R0 R:List RT}{L0 L:List Int}{i n rc l lc k at_:Nat}{ra la ra0 la0:Option Addr}{e:Ending}(h:DL W4 W S P R0 L0 ra0 la0 i ra n rc la l lc R L)(hd:∀i j,i<j->j<P.length->pkd S P i≠pkd S P j)(hi:i<P.length)(hk:k<R.length)(hin:at_<(R.getD k rt0).ids.length)(hid:(R.getD k rt0).ids.getD at_ 0=pkd S P i)(ht:zG7 W R L (pkd S P i) (R.getD k rt0) at_ e w1):
 ∃(ra2:Option Addr) (n2 rc2:Nat) (la2:Option Addr) (l2 lc2:Nat) (R2:List RT) (L2:List Int),e=.returned (.agg #[za ra2 n2 rc2,za la2 l2 lc2])/\Below W.heap.size W w1∧
  DL W4 ((w1.setCell ⟨W4.heap.size,0,none⟩ (za ra2 n2 rc2)).setCell ⟨W4.heap.size,1,none⟩ (za la2 l2 lc2)) S P R0 L0 ra0 la0 (i+1) ra2 n2 rc2 la2 l2 lc2 R2 L2:=by
 obtain⟨g,c,g2,c2,kp,rs,rfl,hb,hat,ho1,ho2,ho3⟩:=ht;obtain⟨ra2,rc2,rfl⟩:=zh9 ho2;have hx:=za0 hb (za2 h.x) h.x;have hx1:(w1.setCell ⟨W4.heap.size,0,none⟩ (za ra2 (wrL R ⟨(R.getD k rt0).v,some ⟨g,0,none⟩,zk9 (R.getD k rt0).ids at_,c⟩).length rc2)).heap[W4.heap.size]? =some (zd #[za ra2 (wrL R ⟨(R.getD k rt0).v,some ⟨g,0,none⟩,zk9 (R.getD k rt0).ids at_,c⟩).length rc2,za la l lc] 33 (0,0)):=by
  have:=zP w1 W4.heap.size 0 _ _ (za ra2 (wrL R ⟨(R.getD k rt0).v,some ⟨g,0,none⟩,zk9 (R.getD k rt0).ids at_,c⟩).length rc2) hx;simpa using this
 have hx2:=zP _ W4.heap.size 1 _ _ (za (some ⟨g2,0,none⟩) (L.length+1) c2) hx1;have hkey:=zM3 h.iv.rs hk h.iv.ne h.iv.nd hin hid (some ⟨g,0,none⟩) c;have hR:za9 w1 ra2 (wrL R ⟨(R.getD k rt0).v,some ⟨g,0,none⟩,zk9 (R.getD k rt0).ids at_,c⟩):=zm1 ho2 (fun s hs=>by
  rcases zy8 hs with hs|rfl
  ·obtain⟨j,hj,rfl⟩:=zo5 hs
   obtain⟨_,_,_,_,_,h3⟩:=h.r j hj;exact h3.below hb
  ·exact zg7 ho1)
 have hL:=zg7 ho3;rw[y77 hat]at hL;refine⟨ra2,_,rc2,some ⟨g2,0,none⟩,L.length+1,c2,_,zz7 L (pkd S P i),rfl,hb,⟨?_,by simpa using hx2,ze7 (ze7 hR hx 0 _) hx1 1 _,rfl,zj6 (zj6 hL hx 0 _) hx1 1 _,by rw[z43],(h.iv.step hd hi).key hkey,?_,?_,?_,.inr ⟨g2,0,rfl⟩,fun r hr=> ?_,fun q hq h0=>⟨fun _ b o e=>by have:=z83 ho2 b o e;have:=h.b.size;omega,fun _ b o e=>by have:=z83 ho3 b o e;have:=h.b.size;omega,fun r hr hne b o e=> ?_⟩⟩⟩
 ·exact((h.b.trans (hb.mono h.b.size)).setCell (zQ _) _).setCell (zQ _) _
 ·rw[hkey,lvF]
  exact zG5 h.kr _
 ·rw[lvF,<-h.kl]
 ·rcases own_kinds ho2 with⟨h1,h2⟩|⟨g9,c9,h1,_⟩
  ·injection h1 with h1 _ _
   exact .inl ⟨h1,h2⟩
  ·injection h1 with h1 _ _
   exact .inr ⟨g9,0,h1⟩
 ·rcases zy8 hr with hr|rfl
  ·exact h.c r hr
  ·exact z60 ho1
 ·rcases zy8 hr with hr|rfl
  ·exact(h.o q hq h0).2.2 r hr hne b o e
  ·have:=z83 ho1 b o e
   have:=h.b.size;omega
def zx6(S:List RT)(la:Option Addr):Prop:=(la::S.map RT.a).Nodup
theorem zx6.apt{S:List RT}{la:Option Addr}(h:zx6 S la):Apt S la:=(show(la::S.map RT.a).Pairwise (· ≠·)from h).imp (fun h=>.inr h)
theorem zx6.nil(la:Option Addr):zx6 [] la:=by simp[zx6]
theorem zx6.add{S:List RT}{la:Option Addr}{r:RT}(h:zx6 S la)(hn:r.a∉la::S.map RT.a):zx6 (S++[r]) la:=by
 unfold zx6 at h⊢;rw[xX,<-yR];refine yB.2 ⟨h,by simp,fun a ha b hb e=> ?_⟩;have:b=r.a:=by simpa using hb
 exact hn (by rw[<-this,<-e];exact ha)
theorem PO.blk{w:zg}{base m lc:Nat}{rs:Value}{la:Option Addr}{S:List RT}{L:List Int}(h:PO w base rs S (za la m lc) L)(hm:L.length=m):∀a∈la::S.map RT.a,∀g,a=some ⟨g,0,none⟩->g<w.heap.size:=fun a ha g e=>by
 rcases yn.1 ha with h1|h1
 ·have h2:=h.l
  rw[hm]at h2;exact(h2.lt g (by rw[<-h1,e];rfl)).2
 ·obtain⟨s,hs,e2⟩:=yy.1 h1
  exact((h.s s hs).lt g (by rw[e2,e];rfl)).2
def yI0(w:zg)(R:List RT)(L:List Int)(e:Ending)(w':zg):Prop:=∃ra rc la lc S,e=.returned (.agg #[za ra R.length rc,za la L.length lc])/\Below w.heap.size w w'/\S.map RT.key=R.map RT.key/\PO w' (w.heap.size+2) (za ra R.length rc) S (za la L.length lc) L/\zx6 S la
theorem zJ6(ra la:Option Addr)(rc lc:Nat)(R:List RT)(L:List Int)(w:zg)(hR:za9 w ra R)(hL:za3 w la L)(hla:(la=none/\L.length=0)∨∃b off,la=some ⟨b,off,none⟩)(hn:R.length<=500)(hi:∀r∈R,r.ids≠[]/\r.ids.length<=12)(hl:L.length<=500):
 Calls ze 37 #[.agg #[za ra R.length rc,za la L.length lc]] w (yI0 w R L):=by
 have HR:=za4 hR;have HL:=za4 hL;have HLA:Hid _:=hla;have HI:Hid _:=hi;clear hR hL hi hla;obtain⟨n,HN⟩:=nmd R.length;obtain⟨m,HM⟩:=nmd L.length;rw[HN.X]at hn⊢;rw[HM.X]at hl⊢;have B1:Hid (Below w.heap.size w ((w.alloc (zd #[za ra n rc,za la m lc] 33)).alloc (zd #[za none 0 0,za none 0 0] 33))):=(zK _).alloc (by simp) _;have P1:Hid (((w.alloc (zd #[za ra n rc,za la m lc] 33)).alloc (zd #[za none 0 0,za none 0 0] 33)).heap[w.heap.size]? =some (zd #[za ra n rc,za la m lc] 33 (0,0))):=xb _ _ _;have A1:Hid (((w.alloc (zd #[za ra n rc,za la m lc] 33)).alloc (zd #[za none 0 0,za none 0 0] 33)).heap[w.heap.size+1]? =some (zd #[za none 0 0,za none 0 0] 33 (0,0))):=y8 _ _ _;have CL:=z59 la lc m L ((w.alloc (zd #[za ra n rc,za la m lc] 33)).alloc (zd #[za none 0 0,za none 0 0] 33)) (HL.X.below B1.X) HM.X (by omega) (by rw[<-HM.X];exact HLA.X);go_enter Tryz.func37,Tryz.ntmps37;obtain⟨p0,p1⟩:=za1 P1.X
 go_wp2_with fail
 generalize(w.alloc (zd #[za ra n rc,za la m lc] 33)).alloc (zd #[za none 0 0,za none 0 0] 33)=W0 at*;refine CL.mono ?_;rintro e w2 ⟨sl,rfl,hb,ho⟩;obtain⟨la2,lc2,e⟩:=zp4 ho;subst e;have Q2:Hid (CQ w (w2.alloc (zd #[za none 0 0,za la2 m lc2] 33)) w2.heap.size (za ra n rc) (za la m lc) (za none 0 0) (za la2 m lc2) [] L):=by
  have hb2:=B1.X.trans (hb.mono B1.X.size);have ha:Below w2.heap.size w2 (w2.alloc (zd #[za none 0 0,za la2 m lc2] 33)):=zK _;have hp2:=za0 hb (za2 P1.X) P1.X;have ha2:=za0 hb (za2 A1.X) A1.X;refine⟨hb2.trans (ha.mono hb2.size),za0 ha (za2 hp2) hp2,za0 ha (za2 ha2) ha2,zN _ _,za2 ha2,⟨qA _ _ _ _,(fun s hs=>by cases hs),?_⟩⟩;rw[HM.X];exact zc4 (ho.alloc _) (za2 A1.X)
 have P2:Hid _:=za0 hb (za2 P1.X) P1.X;clear hb ho CL p0 p1 B1 P1 A1;obtain⟨p0,p1⟩:=za1 P2.X;obtain⟨p2,p3⟩:=za1 Q2.X.p
 go_wp2_with fail
 clear p0 p1 P2 p2 p3;obtain⟨kb,HKB⟩:=nmd w2.heap.size;rw[HKB.X]at Q2⊢;generalize w2.alloc (zd #[za none 0 0,za la2 m lc2] 33)=W2 at*;go_loopw[13] (fun t wr=>∃(k:Nat) (rs:Value) (S:List RT),k<=n/\t=zc zb k/\S.map RT.key=(R.take k).map RT.key/\CQ w wr kb (za ra n rc) (za la m lc) rs (za la2 m lc2) S L/\zx6 S la2) (fun t _=>n - (intOf t).toNat)
 case atStart=>exact⟨0,za none 0 0,[],yZ _,rfl,rfl,Q2.X,zx6.nil _⟩
 case round=>
  clear Q2;obtain⟨k,rs,S,hk,rfl,hkey,hQ,hap⟩:=hrel;have Q3:Hid _:=hQ;have HKY:Hid _:=hkey;have hSk:S.length=k:=by
   have:=congrArg List.length hkey;simp only[qn,zZ,HN.X]at this;omega
  have HSK:=za4 hSk;have HAP:=za4 hap;clear hQ hkey hSk hap;obtain⟨p0,p1⟩:=za1 Q3.X.p;by_cases hlt:k<n
  ·have hkI:(k:Int)<(n:Int):=by omega
   have hkR:k<R.length:=by rw[HN.X];exact hlt
   obtain⟨b,off,e,r1,r2,i3⟩:=(HR.X.below Q3.X.b) k hkR;have hmem:R.getD k rt0∈R:=by rw[zM,zO hkR];simp
   obtain⟨hne,h500⟩:=HI.X _ hmem;have HRC:Hid (∀W,Below w.heap.size w W->W.cell? ⟨b,off+k*2,none⟩=some (zc zb (R.getD k rt0).v)/\W.cell? ⟨b,off+k*2+1,none⟩=some (.slice (R.getD k rt0).a (R.getD k rt0).ids.length (R.getD k rt0).c)):=fun W hW=>by
    obtain⟨b2,off2,e2,q1,q2,_⟩:=(HR.X.below hW) k hkR;rw[e]at e2;simp only[xV,xZ,qb]at e2;obtain⟨rfl,rfl⟩:=e2;exact⟨q1,q2⟩
   have HTK:Hid (R.take (k+1)=R.take k++[R.getD k rt0]):=by
    show _=_;rw[yd hkR];simp[List.getD,hkR]
   subst e;generalize R.getD k rt0=r at*;obtain⟨rv,rra,rids,rcc⟩:=r;simp only at r1 r2 i3 hne h500;have hpos:=xL.2 hne;obtain⟨b',off',e',-⟩:=i3 0 hpos;subst e';have I3:=za4 i3;obtain⟨q,HQ⟩:=nmd rids.length;simp only[HQ.X]at r2 h500 hpos HRC;clear i3 hne hmem;have hkb:=za2 Q3.X.o;have HSB:Hid _:=Q3.X.q.blk HM.X;have HNB:Hid (rs.ownBlock≠some wr.heap.size):=yD7 Q3.X.q.r (.inr (zQ _));have Q1:Hid (CQ w (wr.alloc (zd #[zc zb rv,za (some ⟨b',off',none⟩) q rcc] 80)).drew kb (za (some ⟨b,off,none⟩) n rc) (za la m lc) rs (za la2 m lc2) S L):=Q3.X.below (zK _).drew;have I1:Hid (za3 (wr.alloc (zd #[zc zb rv,za (some ⟨b',off',none⟩) q rcc] 80)).drew (some ⟨b',off',none⟩) rids):=I3.X.below (zK _).drew;have RB1:Hid ((wr.alloc (zd #[zc zb rv,za (some ⟨b',off',none⟩) q rcc] 80)).drew.heap[wr.heap.size]? =some (zd #[zc zb rv,za (some ⟨b',off',none⟩) q rcc] 80 (0,0))):=zN wr _
   go_wp2_with fail
   clear p0 p1 r1 r2 Q3 I3;obtain⟨rb,HRB⟩:=nmd wr.heap.size;rw[HRB.X]at RB1 HNB HSB hkb⊢;have kS:=za1 RB1.X;have CR:=zE3 rv b' off' rcc rids _ I1.X (by rw[HQ.X];exact h500);rw[HQ.X]at CR;obtain⟨o0,o1⟩:=za1 Q1.X.o;generalize hW1:(wr.alloc (zd #[zc zb rv,za (some ⟨b',off',none⟩) q rcc] 80))=W1 at*;clear hW1
   -- REGION
   refine qV (S:=(fun W=>W.cell? ⟨rb,0,none⟩=some (zc zb rv)/\W.cell? ⟨rb,1,none⟩=some (za (some ⟨b',off',none⟩) q rcc))) (by kernel_rfl) ?_ (fun hHeld=> ?_)
   ·exact kS
   refine tkH 0 hHeld ?_;refine tkH 2 hHeld ?_;refine qT (rs:=[1,3]) (by kernel_rfl) (by simp) ?_;refine qR rfl (fun K hK=> ?_) ?_
   ·skip
    go_simp;refine hK.out _ _ ?_ (fun hHeld=> ?_)
    ·exact hHeld
    clear hK K;refine qT (rs:=[3]) (by kernel_rfl) (by simp) ?_;refine qR rfl (fun K hK=> ?_) qS;go_simp;refine CR.mono ?_;rintro e w3 ⟨g3,c3,rfl,hb,ho⟩;have Q4:Hid _:=Q1.X.below hb;have O4:Hid (w3.ownsRow (w.heap.size+2) 2 1 (za (some ⟨g3,0,none⟩) q c3) q (rids.map (zc zb))):=zc4 ho (by have:=za2 Q1.X.a;omega);have HG3:Hid (rb<g3):=by have h1:=(ho.lt g3 rfl).1;have h2:=za2 RB1.X;show rb<g3;omega
    have RB3:Hid _:=za0 hb (za2 RB1.X) RB1.X;have kS3:=za1 RB3.X;have QB:Hid (CQ w (w3.alloc (zd #[zc zb rv,za (some ⟨g3,0,none⟩) q c3] 80)) kb (za (some ⟨b,off,none⟩) n rc) (za la m lc) rs (za la2 m lc2) S L):=Q4.X.below (zK _);have OB:Hid (zk (w3.alloc (zd #[zc zb rv,za (some ⟨g3,0,none⟩) q c3] 80)) (w.heap.size+2) 2 1 (za (some ⟨g3,0,none⟩) q c3) q (rids.map (zc zb))):=O4.X.alloc _;have RBb:Hid ((w3.alloc (zd #[zc zb rv,za (some ⟨g3,0,none⟩) q c3] 80)).heap[rb]? =some (zd #[zc zb rv,za (some ⟨b',off',none⟩) q rcc] 80 (0,0))):=(yY _ _ (za2 RB3.X)).trans RB3.X;have kSb:=za1 RBb.X;obtain⟨x0,x1⟩:=za1 Q4.X.o;obtain⟨xa0,xa1⟩:=za1 QB.X.o;clear hb ho
    (try go_wp2_with fail)
    refine hK.out _ _ ?_ (fun hHeld=> ?_)
    ·exact kS3
    clear hK K;refine qT (rs:=[4]) (by kernel_rfl) (by simp) ?_;refine qR rfl (fun K hK=> ?_) qS
    (try simp only[zi,xB])
    go_simp;refine hK.out _ _ ?_ (fun hHeld=> ?_)
    ·exact kSb
    clear hK K;refine qT (rs:=[5]) (by kernel_rfl) (by simp) ?_;refine qR rfl (fun K hK=> ?_) qS;refine zd8 ql zp2 (by rfl) (by omega) rfl (.tmp 18) (.tmp 21) rfl (w.heap.size+2) rs k (zg5 S) rfl (by rw[<-HSK.X];exact QB.X.q.r) w3.heap.size 0 1 1 [zc zb rv,za (some ⟨g3,0,none⟩) q c3] rfl rfl (zf9 _ _ _ _ _ rfl) (by simp[zr]) (by omega) (by omega) (by have:=za2 Q4.X.a;simp;omega) ?_;intro v' w4 ho hg hbk hn;rcases own_kinds ho with⟨_,e0⟩|⟨g4,c4,e4,-,-⟩
    ·omega
    subst e4;have Q5:Hid _:=QB.X.more HQ.X HSK.X OB.X hg ho;have X4:=QB.X.moreO hg;have R4:=zb9 hg RBb.X (fun e=>HNB.X e.symm);have kS4:=za1 R4;obtain⟨x4,y4⟩:=za1 X4.2.1;have xf:=fun i=>yU _ _ i _ _ X4.2.1;have kS5:(fun W=>W.cell? ⟨rb,0,none⟩=some (zc zb rv)/\W.cell? ⟨rb,1,none⟩=some (za (some ⟨b',off',none⟩) q rcc)) (w4.setCell ⟨kb,0,none⟩ (za (some ⟨g4,0,none⟩) (k+1) c4)):=⟨za5 kS4.1 (by show rb≠kb;omega),za5 kS4.2 (by show rb≠kb;omega)⟩;clear ho hg hbk hn X4 R4;refine hK.out _ _ ?_ (fun hHeld=> ?_)
    ·exact kS4
    clear hK K;change wpAnyH _ _ _ _ _ _ _ (zi _ (some 22) _) _;simp only[zi,xB,zL,xC];refine tkH 6 hHeld ?_;refine qT (rs:=[7]) (by kernel_rfl) (by simp) ?_;refine qR rfl (fun K hK=> ?_) qS;go_simp;refine hK.out _ _ ?_ (fun hHeld=> ?_)
    ·exact kS5
    clear hK K;refine qU (by kernel_rfl) ?_ _;clear hHeld kS5 xf x4 y4 kS4 x0 x1 xa0 xa1 kSb kS3 o0 o1 QB OB Q4 O4 Q1 RB1 RB3 RBb CR;generalize w4.setCell ⟨kb,0,none⟩ (za (some ⟨g4,0,none⟩) (k+1) c4)=W5 at*;go_wp2;go_roundw
    case rel=>
     refine⟨k+1,_,_,by omega,by first|rfl|go_num,?_,Q5.X,HAP.X.add (r:=⟨rv,some ⟨g3,0,none⟩,rids,c3⟩) (fun h=>by have:=HSB.X _ h g3 rfl;have:=HG3.X;omega)⟩;rw[HTK.X,xX,xX,HKY.X];rfl
    case measure=>simp[intOf];omega
   refine qR rfl (fun K hK=> ?_) qS;go_simp;refine CR.mono ?_;rintro e w3 ⟨g3,c3,rfl,hb,ho⟩;have Q4:Hid _:=Q1.X.below hb;have O4:Hid (w3.ownsRow (w.heap.size+2) 2 1 (za (some ⟨g3,0,none⟩) q c3) q (rids.map (zc zb))):=zc4 ho (by have:=za2 Q1.X.a;omega);have HG3:Hid (rb<g3):=by have h1:=(ho.lt g3 rfl).1;have h2:=za2 RB1.X;show rb<g3;omega
   have RB3:Hid _:=za0 hb (za2 RB1.X) RB1.X;have kS3:=za1 RB3.X;have QB:Hid (CQ w (w3.alloc (zd #[zc zb rv,za (some ⟨g3,0,none⟩) q c3] 80)) kb (za (some ⟨b,off,none⟩) n rc) (za la m lc) rs (za la2 m lc2) S L):=Q4.X.below (zK _);have OB:Hid (zk (w3.alloc (zd #[zc zb rv,za (some ⟨g3,0,none⟩) q c3] 80)) (w.heap.size+2) 2 1 (za (some ⟨g3,0,none⟩) q c3) q (rids.map (zc zb))):=O4.X.alloc _;have RBb:Hid ((w3.alloc (zd #[zc zb rv,za (some ⟨g3,0,none⟩) q c3] 80)).heap[rb]? =some (zd #[zc zb rv,za (some ⟨b',off',none⟩) q rcc] 80 (0,0))):=(yY _ _ (za2 RB3.X)).trans RB3.X;have kSb:=za1 RBb.X;obtain⟨x0,x1⟩:=za1 Q4.X.o;obtain⟨xa0,xa1⟩:=za1 QB.X.o;clear hb ho
   (try go_wp2_with fail)
   refine hK.out _ _ ?_ (fun hHeld=> ?_)
   ·exact kS3
   clear hK K;refine qT (rs:=[1,4]) (by kernel_rfl) (by simp) ?_;refine qR rfl (fun K hK=> ?_) ?_
   ·skip
    go_simp;refine hK.out _ _ ?_ (fun hHeld=> ?_)
    ·exact kS3
    clear hK K;refine qT (rs:=[4]) (by kernel_rfl) (by simp) ?_;refine qR rfl (fun K hK=> ?_) qS
    (try simp only[zi,xB])
    go_simp;refine hK.out _ _ ?_ (fun hHeld=> ?_)
    ·exact kSb
    clear hK K;refine qT (rs:=[5]) (by kernel_rfl) (by simp) ?_;refine qR rfl (fun K hK=> ?_) qS;refine zd8 ql zp2 (by rfl) (by omega) rfl (.tmp 18) (.tmp 21) rfl (w.heap.size+2) rs k (zg5 S) rfl (by rw[<-HSK.X];exact QB.X.q.r) w3.heap.size 0 1 1 [zc zb rv,za (some ⟨g3,0,none⟩) q c3] rfl rfl (zf9 _ _ _ _ _ rfl) (by simp[zr]) (by omega) (by omega) (by have:=za2 Q4.X.a;simp;omega) ?_;intro v' w4 ho hg hbk hn;rcases own_kinds ho with⟨_,e0⟩|⟨g4,c4,e4,-,-⟩
    ·omega
    subst e4;have Q5:Hid _:=QB.X.more HQ.X HSK.X OB.X hg ho;have X4:=QB.X.moreO hg;have R4:=zb9 hg RBb.X (fun e=>HNB.X e.symm);have kS4:=za1 R4;obtain⟨x4,y4⟩:=za1 X4.2.1;have xf:=fun i=>yU _ _ i _ _ X4.2.1;have kS5:(fun W=>W.cell? ⟨rb,0,none⟩=some (zc zb rv)/\W.cell? ⟨rb,1,none⟩=some (za (some ⟨b',off',none⟩) q rcc)) (w4.setCell ⟨kb,0,none⟩ (za (some ⟨g4,0,none⟩) (k+1) c4)):=⟨za5 kS4.1 (by show rb≠kb;omega),za5 kS4.2 (by show rb≠kb;omega)⟩;clear ho hg hbk hn X4 R4;refine hK.out _ _ ?_ (fun hHeld=> ?_)
    ·exact kS4
    clear hK K;change wpAnyH _ _ _ _ _ _ _ (zi _ (some 22) _) _;simp only[zi,xB,zL,xC];refine tkH 6 hHeld ?_;refine qT (rs:=[7]) (by kernel_rfl) (by simp) ?_;refine qR rfl (fun K hK=> ?_) qS;go_simp;refine hK.out _ _ ?_ (fun hHeld=> ?_)
    ·exact kS5
    clear hK K;refine qU (by kernel_rfl) ?_ _;clear hHeld kS5 xf x4 y4 kS4 x0 x1 xa0 xa1 kSb kS3 o0 o1 QB OB Q4 O4 Q1 RB1 RB3 RBb CR;generalize w4.setCell ⟨kb,0,none⟩ (za (some ⟨g4,0,none⟩) (k+1) c4)=W5 at*;go_wp2;go_roundw
    case rel=>
     refine⟨k+1,_,_,by omega,by first|rfl|go_num,?_,Q5.X,HAP.X.add (r:=⟨rv,some ⟨g3,0,none⟩,rids,c3⟩) (fun h=>by have:=HSB.X _ h g3 rfl;have:=HG3.X;omega)⟩;rw[HTK.X,xX,xX,HKY.X];rfl
    case measure=>simp[intOf];omega
   refine qR rfl (fun K hK=> ?_) qS
   (try simp only[zi,xB])
   go_simp;refine hK.out _ _ ?_ (fun hHeld=> ?_)
   ·exact kSb
   clear hK K;refine qT (rs:=[1]) (by kernel_rfl) (by simp) ?_;refine qR rfl (fun K hK=> ?_) qS;go_simp;refine hK.out _ _ ?_ (fun hHeld=> ?_)
   ·exact kSb
   clear hK K;refine qT (rs:=[5]) (by kernel_rfl) (by simp) ?_;refine qR rfl (fun K hK=> ?_) qS;refine zd8 ql zp2 (by rfl) (by omega) rfl (.tmp 18) (.tmp 21) rfl (w.heap.size+2) rs k (zg5 S) rfl (by rw[<-HSK.X];exact QB.X.q.r) w3.heap.size 0 1 1 [zc zb rv,za (some ⟨g3,0,none⟩) q c3] rfl rfl (zf9 _ _ _ _ _ rfl) (by simp[zr]) (by omega) (by omega) (by have:=za2 Q4.X.a;simp;omega) ?_;intro v' w4 ho hg hbk hn;rcases own_kinds ho with⟨_,e0⟩|⟨g4,c4,e4,-,-⟩
   ·omega
   subst e4;have Q5:Hid _:=QB.X.more HQ.X HSK.X OB.X hg ho;have X4:=QB.X.moreO hg;have R4:=zb9 hg RBb.X (fun e=>HNB.X e.symm);have kS4:=za1 R4;obtain⟨x4,y4⟩:=za1 X4.2.1;have xf:=fun i=>yU _ _ i _ _ X4.2.1;have kS5:(fun W=>W.cell? ⟨rb,0,none⟩=some (zc zb rv)/\W.cell? ⟨rb,1,none⟩=some (za (some ⟨b',off',none⟩) q rcc)) (w4.setCell ⟨kb,0,none⟩ (za (some ⟨g4,0,none⟩) (k+1) c4)):=⟨za5 kS4.1 (by show rb≠kb;omega),za5 kS4.2 (by show rb≠kb;omega)⟩;clear ho hg hbk hn X4 R4;refine hK.out _ _ ?_ (fun hHeld=> ?_)
   ·exact kS4
   clear hK K;change wpAnyH _ _ _ _ _ _ _ (zi _ (some 22) _) _;simp only[zi,xB,zL,xC];refine tkH 6 hHeld ?_;refine qT (rs:=[7]) (by kernel_rfl) (by simp) ?_;refine qR rfl (fun K hK=> ?_) qS;go_simp;refine hK.out _ _ ?_ (fun hHeld=> ?_)
   ·exact kS5
   clear hK K;refine qU (by kernel_rfl) ?_ _;clear hHeld kS5 xf x4 y4 kS4 x0 x1 xa0 xa1 kSb kS3 o0 o1 QB OB Q4 O4 Q1 RB1 RB3 RBb CR;generalize w4.setCell ⟨kb,0,none⟩ (za (some ⟨g4,0,none⟩) (k+1) c4)=W5 at*;go_wp2;go_roundw
   case rel=>
    refine⟨k+1,_,_,by omega,by first|rfl|go_num,?_,Q5.X,HAP.X.add (r:=⟨rv,some ⟨g3,0,none⟩,rids,c3⟩) (fun h=>by have:=HSB.X _ h g3 rfl;have:=HG3.X;omega)⟩;rw[HTK.X,xX,xX,HKY.X];rfl
   case measure=>simp[intOf];omega
   -- NOIGER
  ·have hkI:¬((k:Int)<(n:Int)):=by omega
   have hke:k=n:=by omega
   obtain⟨a0,a1⟩:=za1 Q3.X.a;have af:=fun i=>yU _ _ i _ _ Q3.X.a;obtain⟨o0,o1⟩:=za1 Q3.X.o;have HKE:Hid (S.map RT.key=R.map RT.key):=by
    show _=_;rw[HKY.X,hke,<-HN.X,yc]
   have hSn:S.length=n:=by rw[HSK.X];exact hke
   obtain⟨ga,ca,e⟩:∃ga ca,rs=za ga n ca:=by
    rcases Q3.X.q.rv with⟨e,h0⟩|⟨g,c,e,_,_⟩
    ·exact⟨none,0,by rw[e,<-hSn,h0]⟩
    ·exact⟨_,c,by rw[e,hSn]⟩
   subst e;clear hke hSn HSK HKY;go_wp2;refine yX (v:=.agg #[za ga n ca,za la2 m lc2]) (by simp[results,Tryz.results37,go_sem,a0,a1]) rfl ⟨ga,ca,la2,lc2,S,by rw[HN.X,HM.X],?_,HKE.X,?_,HAP.X⟩
   ·repeat(first|with_reducible exact Q3.X.b|refine xd ?_ (by simp<;>omega) _)
   ·rw[HN.X,HM.X]
    repeat(first|with_reducible exact Q3.X.q|refine PO.set ?_ (by omega))
theorem yl7{p:Nat->Prop}[DecidablePred p]:∀n,(∃k,k<n/\p k)->∃k,k<n/\p k/\∀j,j<k->¬p j
 |0,h=>by obtain⟨k,hk,_⟩:=h;omega
 |n+1,h=>by
  by_cases h2:∃k,k<n/\p k
  ·obtain⟨k,h3,h4,h5⟩:=yl7 n h2
   exact⟨k,by omega,h4,h5⟩
  ·obtain⟨k,h3,h4⟩:=h
   by_cases hk:k<n
   ·exact absurd ⟨k,hk,h4⟩ h2
   ·have:k=n:=by omega
    subst this;exact⟨k,h3,h4,fun j hj h6=>h2 ⟨j,hj,h6⟩⟩
theorem zD9{R:List RT}{x:Int}(hx:x∈za8 R R.length):∃k,k<R.length/\x∈(R.getD k rt0).ids/\∀j,j<k->x∉(R.getD j rt0).ids:=by
 rw[zb6]at hx;obtain⟨r,hr,hxr⟩:=qG.1 hx;obtain⟨k,hk,e⟩:=zo5 hr;exact yl7 (p:=fun k=>x∈(R.getD k rt0).ids) R.length ⟨k,hk,by show x∈(R.getD k rt0).ids;rw[e];exact hxr⟩
def NP(w:zg)(T:List RT)(L:List Int)(e:Ending)(w':zg):Prop:=∃(ra:Option Addr) (n rc gl lc:Nat) (S:List RT),e=.returned (.agg #[za ra n rc,za (some ⟨gl,0,none⟩) L.length lc])/\Below w.heap.size w w'/\S.length=n/\S.map RT.key=T.map RT.key/\PO w' w.heap.size (za ra n rc) S (za (some ⟨gl,0,none⟩) L.length lc) L
theorem zK7{S P:List Int}{l0 i:Nat}(ra:Option Addr)(n rc bl ol l lc g cg cl k:Nat)(R:List RT)(L:List Int)(x:Int)(w:zg)(hI:LvI S P l0 i R L)(hl:L.length<=100)(hL:L.length=l)(hn:R.length=n)(hR:za9 w ra R)(hLA:za3 w (some ⟨bl,ol,none⟩) L)(hk:k<R.length)(hm:x∈(R.getD k rt0).ids)(hcl:(cutP (R.getD k rt0).ids x).length=cl)(hX:za3 w (some ⟨g,0,none⟩) (cutP (R.getD k rt0).ids x)):
 Calls ze 72 #[.agg #[za ra n rc,(za (some ⟨bl,ol,none⟩) l lc)],.agg #[zc zb (R.getD k rt0).v,za (some ⟨g,0,none⟩) cl cg]] w (NP w (lvR R x) L):=by
 have hi:∀r∈R,r.ids≠[]/\r.ids.length<=500:=fun r hr=>⟨hI.ne r hr,by have:=hI.sm r hr;omega⟩
 have h4:R.length<=400:=by have:=hI.ln;omega
 subst hn hL hcl;by_cases hc:cutP (R.getD k rt0).ids x=[]
 ·have h:=y76 ra (some ⟨g,0,none⟩) bl ol rc lc cg R L (R.getD k rt0).v w hR hLA h4 hi (by omega)
  rw[hc];refine h.mono ?_;rintro e w' ⟨ra2,rc2,g2,lc2,S2,rfl,hb,hk2,ho⟩;have h9:=yr1 hI.rs hk hI.ne hI.nd hm hc;exact⟨ra2,_,rc2,g2,lc2,S2,rfl,hb,rfl,by rw[hk2,<-h9];rfl,ho⟩
 ·have hlen:(cutP (R.getD k rt0).ids x).length<=500:=by
   have h1:(cutP (R.getD k rt0).ids x).length<=(R.getD k rt0).ids.length:=by unfold cutP;exact yj _ _
   have h2:=hI.sm _ (zh2 hk);omega
  have h:=z41 ra bl ol rc lc g 0 cg R L (R.getD k rt0).v (cutP (R.getD k rt0).ids x) w hR hLA hX h4 hi (by omega) ⟨hc,hlen⟩;refine h.mono ?_;rintro e w' ⟨ra2,rc2,g2,lc2,S2,rfl,hb,hk2,ho⟩;exact⟨ra2,_,rc2,g2,lc2,S2,rfl,hb,rfl,hk2.trans (yo1 hI.rs hk hI.ne hI.nd hm hc _ _),ho⟩
theorem yq8{S P:List Int}{l0 i:Nat}(ra:Option Addr)(n rc gl l lc g cg cl k:Nat)(R:List RT)(L:List Int)(x:Int)(w:zg)(hI:LvI S P l0 i R L)(hl:L.length<=100)(hL:L.length=l)(hn:R.length=n)(hR:za9 w ra R)(hLA:za3 w (some ⟨gl,0,none⟩) L)(hk:k<R.length)(hm:x∈(R.getD k rt0).ids)(hcl:(cutP (R.getD k rt0).ids x).length=cl)(hX:za3 w (some ⟨g,0,none⟩) (cutP (R.getD k rt0).ids x)):
 Calls ze 72 #[.agg #[za ra n rc,za (some ⟨gl,0,none⟩) l lc],.agg #[zc zb (R.getD k rt0).v,za (some ⟨g,0,none⟩) cl cg]] w (NP w (lvR R x) L):=zK7 ra n rc gl 0 l lc g cg cl k R L x w hI hl hL hn hR hLA hk hm hcl hX
structure DS(w4 W:zg)(b0:Nat)(S P:List Int)(R0:List RT)(L0:List Int)(i:Nat)(ra:Option Addr)(n rc gl l lc:Nat)(R:List RT)(L:List Int):Prop where
 b:Below w4.heap.size w4 W
 x:W.heap[w4.heap.size]? =some (zd #[za ra n rc,za (some ⟨gl,0,none⟩) l lc] 33 (0,0))
 o:PO W b0 (za ra n rc) R (za (some ⟨gl,0,none⟩) l lc) L
 rn:R.length=n
 ln:L.length=l
 iv:LvI S P L0.length i R L
 kr:R.map RT.key=(lvF S P R0 L0 i).1.map RT.key
 kl:L=(lvF S P R0 L0 i).2
theorem DS.below{w4 W W':zg}{b0:Nat}{S P:List Int}{R0 R:List RT}{L0 L:List Int}{i n rc gl l lc:Nat}{ra:Option Addr}(h:DS w4 W b0 S P R0 L0 i ra n rc gl l lc R L)(hb:Below W.heap.size W W'):DS w4 W' b0 S P R0 L0 i ra n rc gl l lc R L:=
 ⟨h.b.trans (hb.mono h.b.size),za0 hb (za2 h.x) h.x,h.o.below hb,h.rn,h.ln,h.iv,h.kr,h.kl⟩
structure DM(w4 W:zg)(b0:Nat)(id:Int)(ra:Option Addr)(n rc gl l lc:Nat)(Rm R:List RT)(L:List Int):Prop where
 b:Below w4.heap.size w4 W
 x:W.heap[w4.heap.size]? =some (zd #[za ra n rc,za (some ⟨gl,0,none⟩) l lc] 33 (0,0))
 o:PO W b0 (za ra n rc) R (za (some ⟨gl,0,none⟩) l lc) L
 rn:R.length=n
 ln:L.length=l
 kr:R.map RT.key=(lvR Rm id).map RT.key
theorem DS.mid{w4 W w1 w2:zg}{b0:Nat}{S P:List Int}{R0 R:List RT}{L0 L:List Int}{i n rc gl l lc:Nat}{ra:Option Addr}{x:Int}{e:Ending}(h:DS w4 W b0 S P R0 L0 i ra n rc gl l lc R L)(h0:b0<=w4.heap.size)(hb1:Below W.heap.size W w1)(ht:NP w1 (lvR R x) L e w2):
 ∃(ra2:Option Addr) (n2 rc2 g2 lc2:Nat) (R2:List RT),e=.returned (.agg #[za ra2 n2 rc2,za (some ⟨g2,0,none⟩) l lc2])/\Below W.heap.size W w2/\DM w4 ((w2.setCell ⟨w4.heap.size,0,none⟩ (za ra2 n2 rc2)).setCell ⟨w4.heap.size,1,none⟩ (za (some ⟨g2,0,none⟩) l lc2)) b0 x ra2 n2 rc2 g2 l lc2 R R2 L:=by
 obtain⟨ra2,n2,rc2,g2,lc2,S2,rfl,hb,hn,hk,ho⟩:=ht;rw[h.ln]at ho⊢;have hb2:=hb1.trans (hb.mono hb1.size);have hx:=za0 hb2 (za2 h.x) h.x;have s1:=zP w2 w4.heap.size 0 _ _ (za ra2 n2 rc2) hx;simp only[xB,zL]at s1;have s2:=zP _ w4.heap.size 1 _ _ (za (some ⟨g2,0,none⟩) l lc2) s1;simp only[xB,zL,xC]at s2;have ho':=ho.base (y7 h0 (y7 h.b.size hb1.size));exact⟨ra2,n2,rc2,g2,lc2,S2,rfl,hb2,((h.b.trans (hb2.mono h.b.size)).setCell (zQ _) _).setCell (zQ _) _,s2,(ho'.box hx).box s1,hn,h.ln,hk⟩
theorem DM.below{w4 W W':zg}{b0 n rc gl l lc:Nat}{x:Int}{ra:Option Addr}{Rm R:List RT}{L:List Int}(h:DM w4 W b0 x ra n rc gl l lc Rm R L)(hb:Below W.heap.size W W'):DM w4 W' b0 x ra n rc gl l lc Rm R L:=
 ⟨h.b.trans (hb.mono h.b.size),za0 hb (za2 h.x) h.x,h.o.below hb,h.rn,h.ln,h.kr⟩
theorem DM.put{w4 W w1:zg}{b0 g cc:Nat}{S P:List Int}{R0 Rm R:List RT}{L0 L:List Int}{i n rc gl l lc:Nat}{ra:Option Addr}(h:DM w4 W b0 (pkd S P i) ra n rc gl l lc Rm R L)(h0:b0<=w4.heap.size)(hd:∀i j,i<j->j<P.length->pkd S P i≠pkd S P j)(hi:i<P.length)(hv:LvI S P L0.length i Rm L)(hkr:Rm.map RT.key=(lvF S P R0 L0 i).1.map RT.key)(hkl:L=(lvF S P R0 L0 i).2)(hb:Below W.heap.size W w1)(ho:w1.ownsRow W.heap.size 2 1 (za (some ⟨g,0,none⟩) (l+1) cc) (l+1) ((zz7 L (pkd S P i)).map (zc zb))):
 DS w4 (w1.setCell ⟨w4.heap.size,1,none⟩ (za (some ⟨g,0,none⟩) (l+1) cc)) b0 S P R0 L0 (i+1) ra n rc g (l+1) cc R (zz7 L (pkd S P i)):=by
 have h1:=h.below hb;have s2:=zP _ w4.heap.size 1 _ _ (za (some ⟨g,0,none⟩) (l+1) cc) h1.x;simp only[xB,zL,xC]at s2;have hl:(zz7 L (pkd S P i)).length=l+1:=by rw[z43,h.ln]
 have hp:PO w1 b0 (za ra n rc) R (za (some ⟨g,0,none⟩) (l+1) cc) (zz7 L (pkd S P i)):=⟨h1.o.r,h1.o.s,by rw[hl];exact zc4 ho (y7 h0 h.b.size)⟩;refine⟨h1.b.setCell (zQ _) _,s2,hp.box h1.x,h.rn,hl,(hv.step hd hi).key h.kr,?_,?_⟩
 ·rw[h.kr,lvF]
  exact zG5 hkr _
 ·rw[lvF,<-hkl]
def yw2(w:zg)(v:Int)(f:Bool)(T:List RT)(L:List Int)(e:Ending)(w':zg):Prop:=∃ra rn rc la ln lc S,e=.returned (.tuple #[.agg #[za ra rn rc,za la ln lc],zc zb v,.bool f])/\Below w.heap.size w w'/\S.length=rn/\L.length=ln/\S.map RT.key=T.map RT.key/\PO w' w.heap.size (za ra rn rc) S (za la ln lc) L
def z89(w:zg)(v:Int)(T:List RT)(L:List Int)(e:Ending)(w':zg):Prop:=∃ra rn rc la ln lc S,e=.returned (.tuple #[.agg #[za ra rn rc,za la ln lc],zc zb v])/\Below w.heap.size w w'/\S.length=rn/\L.length=ln/\S.map RT.key=T.map RT.key/\PO w' w.heap.size (za ra rn rc) S (za la ln lc) L
