import Derived.Test.YtkchnomkiboihaaGreatPack22
import Derived.Test.YtkchnomkiboihaaGreatPack37
set_option linter.unusedSimpArgs false
set_option maxHeartbeats 4000000
namespace Go.Proofs.YtkchnomkiboihaaGreat
open RowKit renaming Below→Za,Hid→Zb
open Go renaming Addr→Zd
open Value renaming slice→za,int→ze,oneCell'→zq
open IntKind renaming i64→zd
open Obj renaming cells→zg
open Proofs.Tryz renaming prog→zh
open Go renaming World→zi
open World renaming ownsRow→zk
open Go.RowKit
open Q
theorem y19{W:zi}{k:Nat}{T:TypeId}{a1 a2:Option Zd}{n1 c1 n2 c2:Nat}(hr:W.heap[k]? =some (zg #[za a1 n1 c1,za a2 n2 c2] T (0,0))){o:Nat}{x:Int}(h:W.cell? ⟨k,o,none⟩=some (ze zd x)):False:=by
 obtain⟨p0,p1⟩:=za1 hr;rcases o with _|_|o
 ·rw[p0]at h;cases h
 ·rw[p1]at h;cases h
 ·simp[World.cell?,hr]at h
theorem zj1{W:zi}{k:Nat}{T:TypeId}{a1 a2 a:Option Zd}{n1 c1 n2 c2:Nat}{zs:List Int}(h:za3 W a zs)(hr:W.heap[k]? =some (zg #[za a1 n1 c1,za a2 n2 c2] T (0,0)))(i:Nat)(x:Value):za3 (W.setCell ⟨k,i,none⟩ x) a zs:=fun j hj=>by
 obtain⟨b,off,e,hc⟩:=h j hj;exact⟨b,off,e,(World.cell?_setCell_far W ⟨k,i,none⟩ ⟨b,off+j,none⟩ x (fun e9=>by subst e9;exact y19 hr hc)).trans hc⟩
theorem ze7{W:zi}{k:Nat}{T:TypeId}{a1 a2 ra:Option Zd}{n1 c1 n2 c2:Nat}{R:List RT}(h:za9 W ra R)(hr:W.heap[k]? =some (zg #[za a1 n1 c1,za a2 n2 c2] T (0,0)))(i:Nat)(x:Value):za9 (W.setCell ⟨k,i,none⟩ x) ra R:=fun j hj=>by
 obtain⟨b,off,e,h1,h2,h3⟩:=h j hj;have aq:k≠b:=fun e9=>by subst e9;exact y19 hr h1
 exact⟨b,off,e,(World.cell?_setCell_far W ⟨k,i,none⟩ ⟨b,off+j*2,none⟩ x aq).trans h1,(World.cell?_setCell_far W ⟨k,i,none⟩ ⟨b,off+j*2+1,none⟩ x aq).trans h2,zj1 h3 hr i x⟩
def lvF(S P:List Int)(R:List RT)(L:List Int):Nat->List RT×List Int
 |0=>(R,L)
 |i+1=>(lvR (lvF S P R L i).1 (pkd S P i),zz3 (lvF S P R L i).2 (pkd S P i))
structure DL(W4 W:zi)(S P:List Int)(R0:List RT)(L0:List Int)(iu uG:Option Zd)(i:Nat)(ra:Option Zd)(n rc:Nat)(la:Option Zd)(l lc:Nat)(R:List RT)(L:List Int):Prop where
 b:Za W4.heap.size W4 W
 x:W.heap[W4.heap.size]? =some (zg #[za ra n rc,za la l lc] 33 (0,0))
 r:za9 W ra R
 rn:R.length=n
 s:za3 W la L
 ln:L.length=l
 iv:LvI S P L0.length i R L
 kr:R.map RT.key=(lvF S P R0 L0 i).1.map RT.key
 kl:L=(lvF S P R0 L0 i).2
 fr:(ra=none/\R.length=0)∨∃b off,ra=some ⟨b,off,none⟩
 fl:(la=none/\l=0)∨∃b off,la=some ⟨b,off,none⟩
 c:∀r∈R,r.ids.length<=r.c
 o:∀k,k<W4.heap.size->zi8 k iu uG R0 L0->zi8 k ra la R L
theorem DL.below{W4 W W':zi}{S P:List Int}{R0 R:List RT}{L0 L:List Int}{i n rc l lc:Nat}{ra la iu uG:Option Zd}(h:DL W4 W S P R0 L0 iu uG i ra n rc la l lc R L)(hb:Za W.heap.size W W'):DL W4 W' S P R0 L0 iu uG i ra n rc la l lc R L:=
 ⟨h.b.trans (hb.mono h.b.size),za0 hb (za2 h.x) h.x,h.r.below hb,h.rn,h.s.below hb,h.ln,h.iv,h.kr,h.kl,h.fr,h.fl,h.c,h.o⟩
theorem DL.step{W4 W w1:zi}{S P:List Int}{R0 R:List RT}{L0 L:List Int}{i n rc l lc k at_:Nat}{ra la iu uG:Option Zd}{e:Ending}(h:DL W4 W S P R0 L0 iu uG i ra n rc la l lc R L)(hd:∀i j,i<j->j<P.length->pkd S P i≠pkd S P j)(hi:i<P.length)(hk:k<R.length)(be:at_<(R.getD k rt0).ids.length)(cz:(R.getD k rt0).ids.getD at_ 0=pkd S P i)(ht:zJ5 W R L (pkd S P i) (R.getD k rt0) at_ e w1):
 ∃(ag:Option Zd) (n2 ai:Nat) (ak:Option Zd) (l2 aj:Nat) (R2:List RT) (L2:List Int),e=.returned (.agg #[za ag n2 ai,za ak l2 aj])/\Za W.heap.size W w1∧
  DL W4 ((w1.setCell ⟨W4.heap.size,0,none⟩ (za ag n2 ai)).setCell ⟨W4.heap.size,1,none⟩ (za ak l2 aj)) S P R0 L0 iu uG (i+1) ag n2 ai ak l2 aj R2 L2:=by
 obtain⟨g,c,g2,c2,kp,rs,rfl,hb,gV,ir,fd,f'⟩:=ht;obtain⟨ag,ai,rfl⟩:=zg7 fd;have hx:=za0 hb (za2 h.x) h.x;have ci:(w1.setCell ⟨W4.heap.size,0,none⟩ (za ag (wrL R ⟨(R.getD k rt0).v,some ⟨g,0,none⟩,zl2 (R.getD k rt0).ids at_,c⟩).length ai)).heap[W4.heap.size]? =some (zg #[za ag (wrL R ⟨(R.getD k rt0).v,some ⟨g,0,none⟩,zl2 (R.getD k rt0).ids at_,c⟩).length ai,za la l lc] 33 (0,0)):=by
  have:=xb w1 W4.heap.size 0 _ _ (za ag (wrL R ⟨(R.getD k rt0).v,some ⟨g,0,none⟩,zl2 (R.getD k rt0).ids at_,c⟩).length ai) hx;simpa using this
 have lV:=xb _ W4.heap.size 1 _ _ (za (some ⟨g2,0,none⟩) (L.length+1) c2) ci;have dg:=zN9 h.iv.rs hk h.iv.ne h.iv.nd be cz (some ⟨g,0,none⟩) c;have hR:za9 w1 ag (wrL R ⟨(R.getD k rt0).v,some ⟨g,0,none⟩,zl2 (R.getD k rt0).ids at_,c⟩):=zl9 fd (fun s hs=>by
  rcases zy0 hs with hs|rfl
  ·obtain⟨j,hj,rfl⟩:=zo3 hs
   obtain⟨_,_,_,_,_,h3⟩:=h.r j hj;exact h3.below hb
  ·exact ze8 ir)
 have hL:=ze8 f';rw[y91 gV]at hL;refine⟨ag,_,ai,some ⟨g2,0,none⟩,L.length+1,c2,_,zz3 L (pkd S P i),rfl,hb,⟨?_,by simpa using lV,ze7 (ze7 hR hx 0 _) ci 1 _,rfl,zj1 (zj1 hL hx 0 _) ci 1 _,by rw[z47],(h.iv.step hd hi).key dg,?_,?_,?_,.inr ⟨g2,0,rfl⟩,fun r hr=> ?_,fun q hq h0=>⟨fun _ b o e=>by have:=z91 fd b o e;have:=h.b.size;omega,fun _ b o e=>by have:=z91 f' b o e;have:=h.b.size;omega,fun r hr aq b o e=> ?_⟩⟩⟩
 ·exact((h.b.trans (hb.mono h.b.size)).setCell (zT _) _).setCell (zT _) _
 ·rw[dg,lvF]
  exact zF2 h.kr _
 ·rw[lvF,<-h.kl]
 ·rcases own_kinds fd with⟨h1,h2⟩|⟨g9,c9,h1,_⟩
  ·injection h1 with h1 _ _
   exact .inl ⟨h1,h2⟩
  ·injection h1 with h1 _ _
   exact .inr ⟨g9,0,h1⟩
 ·rcases zy0 hr with hr|rfl
  ·exact h.c r hr
  ·exact zy6 ir
 ·rcases zy0 hr with hr|rfl
  ·exact(h.o q hq h0).2.2 r hr aq b o e
  ·have:=z91 ir b o e
   have:=h.b.size;omega
def z48(S:List RT)(la:Option Zd):Prop:=(la::S.map RT.a).Nodup
theorem z48.nil(la:Option Zd):z48 [] la:=by simp[z48]
theorem z48.add{S:List RT}{la:Option Zd}{r:RT}(h:z48 S la)(hn:r.a∉la::S.map RT.a):z48 (S++[r]) la:=by
 unfold z48 at h⊢;rw[qJ,<-yW];refine yJ.2 ⟨h,by simp,fun a ha b hb e=> ?_⟩;have:b=r.a:=by simpa using hb
 exact hn (by rw[<-this,<-e];exact ha)
theorem PO.blk{w:zi}{base m lc:Nat}{rs:Value}{la:Option Zd}{S:List RT}{L:List Int}(h:PO w base rs S (za la m lc) L)(hm:L.length=m):∀a∈la::S.map RT.a,∀g,a=some ⟨g,0,none⟩->g<w.heap.size:=fun a ha g e=>by
 rcases yx.1 ha with h1|h1
 ·have h2:=h.l
  rw[hm]at h2;exact(h2.lt g (by rw[<-h1,e];rfl)).2
 ·obtain⟨s,hs,e2⟩:=yF.1 h1
  exact((h.s s hs).lt g (by rw[e2,e];rfl)).2
def yI7(w:zi)(R:List RT)(L:List Int)(e:Ending)(w':zi):Prop:=∃ra rc la lc S,e=.returned (.agg #[za ra R.length rc,za la L.length lc])/\Za w.heap.size w w'/\S.map RT.key=R.map RT.key/\PO w' (w.heap.size+2) (za ra R.length rc) S (za la L.length lc) L/\z48 S la
theorem zK6(ra la:Option Zd)(rc lc:Nat)(R:List RT)(L:List Int)(w:zi)(hR:za9 w ra R)(hL:za3 w la L)(kQ:(la=none/\L.length=0)∨∃b off,la=some ⟨b,off,none⟩)(hn:R.length<=500)(hi:∀r∈R,r.ids≠[]/\r.ids.length<=12)(hl:L.length<=500):
 Calls zh 37 #[.agg #[za ra R.length rc,za la L.length lc]] w (yI7 w R L):=by
 have HR:=za4 hR;have HL:=za4 hL;have n_:Zb _:=kQ;have HI:Zb _:=hi;clear hR hL hi kQ;obtain⟨n,HN⟩:=nmd R.length;obtain⟨m,HM⟩:=nmd L.length;rw[HN.X]at hn⊢;rw[HM.X]at hl⊢;have B1:Zb (Za w.heap.size w ((w.alloc (zg #[za ra n rc,za la m lc] 33)).alloc (zg #[za none 0 0,za none 0 0] 33))):=(zP _).alloc (by simp) _;have P1:Zb (((w.alloc (zg #[za ra n rc,za la m lc] 33)).alloc (zg #[za none 0 0,za none 0 0] 33)).heap[w.heap.size]? =some (zg #[za ra n rc,za la m lc] 33 (0,0))):=xm _ _ _;have A1:Zb (((w.alloc (zg #[za ra n rc,za la m lc] 33)).alloc (zg #[za none 0 0,za none 0 0] 33)).heap[w.heap.size+1]? =some (zg #[za none 0 0,za none 0 0] 33 (0,0))):=xh _ _ _;have CL:=z45 la lc m L ((w.alloc (zg #[za ra n rc,za la m lc] 33)).alloc (zg #[za none 0 0,za none 0 0] 33)) (HL.X.below B1.X) HM.X (by omega) (by rw[<-HM.X];exact n_.X);go_enter Tryz.func37,Tryz.ntmps37;obtain⟨p0,p1⟩:=za1 P1.X
 go_wp2_with fail
 generalize(w.alloc _).alloc _=W0 at*;refine CL.mono ?_;rintro e w2 ⟨sl,rfl,hb,ho⟩;obtain⟨ak,aj,e⟩:=zp4 ho;subst e;have Q2:Zb (CQ w (w2.alloc (zg #[za none 0 0,za ak m aj] 33)) w2.heap.size (za ra n rc) (za la m lc) (za none 0 0) (za ak m aj) [] L):=by
  have aC:=B1.X.trans (hb.mono B1.X.size);have ha:Za w2.heap.size w2 (w2.alloc (zg #[za none 0 0,za ak m aj] 33)):=zP _;have dR:=za0 hb (za2 P1.X) P1.X;have j7:=za0 hb (za2 A1.X) A1.X;refine⟨aC.trans (ha.mono aC.size),za0 ha (za2 dR) dR,za0 ha (za2 j7) j7,zS _ _,za2 j7,⟨xZ _ _ _ _,(fun s hs=>by cases hs),?_⟩⟩;rw[HM.X];exact zb5 (ho.alloc _) (za2 A1.X)
 have P2:Zb _:=za0 hb (za2 P1.X) P1.X;clear hb ho CL p0 p1 B1 P1 A1;obtain⟨p0,p1⟩:=za1 P2.X;obtain⟨p2,p3⟩:=za1 Q2.X.p
 go_wp2_with fail
 clear p0 p1 P2 p2 p3;obtain⟨kb,fs⟩:=nmd w2.heap.size;rw[fs.X]at Q2⊢;generalize w2.alloc _=W2 at*;go_loopw[13] (fun t wr=>∃(k:Nat) (rs:Value) (S:List RT),k<=n/\t=ze zd k/\S.map RT.key=(R.take k).map RT.key/\CQ w wr kb (za ra n rc) (za la m lc) rs (za ak m aj) S L/\z48 S ak) (fun t _=>n - (intOf t).toNat)
 case atStart=>exact⟨0,za none 0 0,[],xi _,rfl,rfl,Q2.X,z48.nil _⟩
 case round=>
  clear Q2;obtain⟨k,rs,S,hk,rfl,dg,hQ,AW⟩:=hrel;have Q3:Zb _:=hQ;have nz:Zb _:=dg;have Be:S.length=k:=by
   have:=congrArg List.length dg;simp only[qz,yh,HN.X]at this;omega
  have lQ:=za4 Be;have oK:=za4 AW;clear hQ dg Be AW;obtain⟨p0,p1⟩:=za1 Q3.X.p;by_cases ah:k<n
  ·have ik:(k:Int)<(n:Int):=by omega
   have dt:k<R.length:=by rw[HN.X];exact ah
   obtain⟨b,off,e,r1,r2,i3⟩:=(HR.X.below Q3.X.b) k dt;have bI:R.getD k rt0∈R:=by rw[zQ,zR dt];simp
   obtain⟨aq,ly⟩:=HI.X _ bI;have bw:Zb (∀W,Za w.heap.size w W->W.cell? ⟨b,off+k*2,none⟩=some (ze zd (R.getD k rt0).v)/\W.cell? ⟨b,off+k*2+1,none⟩=some (.slice (R.getD k rt0).a (R.getD k rt0).ids.length (R.getD k rt0).c)):=fun W hW=>by
    obtain⟨b2,cW,e2,q1,q2,_⟩:=(HR.X.below hW) k dt;rw[e]at e2;simp only[jf,qg,qt]at e2;obtain⟨rfl,rfl⟩:=e2;exact⟨q1,q2⟩
   have lF:Zb (R.take (k+1)=R.take k++[R.getD k rt0]):=by
    show _=_;rw[yq dt];simp[List.getD,dt]
   subst e;generalize R.getD k rt0=r at*;obtain⟨rv,iA,ay,dE⟩:=r;simp only at r1 r2 i3 aq ly;have fO:=xV.2 aq;obtain⟨b',aR,e',-⟩:=i3 0 fO;subst e';have I3:=za4 i3;obtain⟨q,HQ⟩:=nmd ay.length;simp only[HQ.X]at r2 ly fO bw;clear i3 aq bI;have dA:=za2 Q3.X.o;have oL:Zb _:=Q3.X.q.blk HM.X;have Ce:Zb (rs.ownBlock≠some wr.heap.size):=zR8 Q3.X.q.r (.inr (zT _));have Q1:Zb (CQ w (wr.alloc (zg #[ze zd rv,za (some ⟨b',aR,none⟩) q dE] 80)).drew kb (za (some ⟨b,off,none⟩) n rc) (za la m lc) rs (za ak m aj) S L):=Q3.X.below (zP _).drew;have I1:Zb (za3 (wr.alloc (zg #[ze zd rv,za (some ⟨b',aR,none⟩) q dE] 80)).drew (some ⟨b',aR,none⟩) ay):=I3.X.below (zP _).drew;have nh:Zb ((wr.alloc (zg #[ze zd rv,za (some ⟨b',aR,none⟩) q dE] 80)).drew.heap[wr.heap.size]? =some (zg #[ze zd rv,za (some ⟨b',aR,none⟩) q dE] 80 (0,0))):=zS wr _
   go_wp2_with fail
   clear p0 p1 r1 r2 Q3 I3;obtain⟨rb,Fk⟩:=nmd wr.heap.size;rw[Fk.X]at nh Ce oL dA⊢;have kS:=za1 nh.X;have CR:=zE7 rv b' aR dE ay _ I1.X (by rw[HQ.X];exact ly);rw[HQ.X]at CR;obtain⟨o0,o1⟩:=za1 Q1.X.o;generalize eE:(wr.alloc (zg #[ze zd rv,za (some ⟨b',aR,none⟩) q dE] 80))=W1 at*;clear eE
   -- REGION
   refine qG (S:=(fun W=>W.cell? ⟨rb,0,none⟩=some (ze zd rv)/\W.cell? ⟨rb,1,none⟩=some (za (some ⟨b',aR,none⟩) q dE))) (by kernel_rfl) ?_ fun aa=> ?_
   ·exact kS
   refine tkH 0 aa ?_;refine tkH 2 aa ?_;refine xQ (rs:=[1,3]) (by kernel_rfl) (by simp) ?_;refine xL rfl (fun K hK=> ?_) ?_
   ·skip
    go_simp;refine hoW hK aa fun aa=> ?_;clear hK K;refine rdH 3 fun K hK=> ?_;go_simp;refine CR.mono ?_;rintro e w3 ⟨g3,c3,rfl,hb,ho⟩;have Q4:Zb _:=Q1.X.below hb;have O4:Zb (w3.ownsRow (w.heap.size+2) 2 1 (za (some ⟨g3,0,none⟩) q c3) q (ay.map (ze zd))):=zb5 ho (by have:=za2 Q1.X.a;omega);have Dc:Zb (rb<g3):=by have h1:=(ho.lt g3 rfl).1;have h2:=za2 nh.X;show rb<g3;omega
    have oD:Zb _:=za0 hb (za2 nh.X) nh.X;have ot:=za1 oD.X;have QB:Zb (CQ w (w3.alloc (zg #[ze zd rv,za (some ⟨g3,0,none⟩) q c3] 80)) kb (za (some ⟨b,off,none⟩) n rc) (za la m lc) rs (za ak m aj) S L):=Q4.X.below (zP _);have OB:Zb (zk (w3.alloc (zg #[ze zd rv,za (some ⟨g3,0,none⟩) q c3] 80)) (w.heap.size+2) 2 1 (za (some ⟨g3,0,none⟩) q c3) q (ay.map (ze zd))):=O4.X.alloc _;have pe:Zb ((w3.alloc (zg #[ze zd rv,za (some ⟨g3,0,none⟩) q c3] 80)).heap[rb]? =some (zg #[ze zd rv,za (some ⟨b',aR,none⟩) q dE] 80 (0,0))):=(xg _ _ (za2 oD.X)).trans oD.X;have nM:=za1 pe.X;obtain⟨x0,x1⟩:=za1 Q4.X.o;obtain⟨vd,vG⟩:=za1 QB.X.o;clear hb ho
    (try go_wp2_with fail)
    refine hoW hK ot fun aa=> ?_;clear hK K;refine rdH 4 fun K hK=> ?_;go_simp;refine hoW hK nM fun aa=> ?_;clear hK K;refine rdH 5 fun K hK=> ?_;refine zd3 qB zm8 (by rfl) (by omega) rfl (.tmp 18) (.tmp 21) rfl (w.heap.size+2) rs k (zj5 S) rfl (by rw[<-lQ.X];exact QB.X.q.r) w3.heap.size 0 1 1 [ze zd rv,za (some ⟨g3,0,none⟩) q c3] rfl rfl (ze0 _ _ _ _ _ rfl) (by simp[zq]) (by omega) (by omega) (by have:=za2 Q4.X.a;simp;omega) ?_;intro v' w4 ho hg bd hn;rcases own_kinds ho with⟨_,e0⟩|⟨g4,c4,e4,-,-⟩
    ·omega
    subst e4;have Q5:Zb _:=QB.X.more HQ.X lQ.X OB.X hg ho;have X4:=QB.X.moreO hg;have R4:=za6 hg pe.X (fun e=>Ce.X e.symm);have em:=za1 R4;obtain⟨x4,y4⟩:=za1 X4.2.1;have xf:=fun i=>yZ _ _ i _ _ X4.2.1;have kR:(fun W=>W.cell? ⟨rb,0,none⟩=some (ze zd rv)/\W.cell? ⟨rb,1,none⟩=some (za (some ⟨b',aR,none⟩) q dE)) (w4.setCell ⟨kb,0,none⟩ (za (some ⟨g4,0,none⟩) (k+1) c4)):=⟨za5 em.1 (by show rb≠kb;omega),za5 em.2 (by show rb≠kb;omega)⟩;clear ho hg bd hn X4 R4;refine hoW hK em fun aa=> ?_;clear hK K;refine tkH 6 aa ?_;refine rdH 7 fun K hK=> ?_;go_simp;refine hoW hK kR fun aa=> ?_;clear hK K;refine qF (by kernel_rfl) ?_ _;clear aa kR xf x4 y4 em x0 x1 vd vG nM ot o0 o1 QB OB Q4 O4 Q1 nh oD pe CR;generalize w4.setCell ⟨kb,0,none⟩ _=W5 at*;go_wp2;go_roundw
    case rel=>
     refine⟨k+1,_,_,by omega,by first|rfl|go_num,?_,Q5.X,oK.X.add (r:=⟨rv,some ⟨g3,0,none⟩,ay,c3⟩) (fun h=>by have:=oL.X _ h g3 rfl;have:=Dc.X;omega)⟩;rw[lF.X,qJ,qJ,nz.X];rfl
    case measure=>simp[intOf];omega
   refine xL rfl (fun K hK=> ?_) xP;go_simp;refine CR.mono ?_;rintro e w3 ⟨g3,c3,rfl,hb,ho⟩;have Q4:Zb _:=Q1.X.below hb;have O4:Zb (w3.ownsRow (w.heap.size+2) 2 1 (za (some ⟨g3,0,none⟩) q c3) q (ay.map (ze zd))):=zb5 ho (by have:=za2 Q1.X.a;omega);have Dc:Zb (rb<g3):=by have h1:=(ho.lt g3 rfl).1;have h2:=za2 nh.X;show rb<g3;omega
   have oD:Zb _:=za0 hb (za2 nh.X) nh.X;have ot:=za1 oD.X;have QB:Zb (CQ w (w3.alloc (zg #[ze zd rv,za (some ⟨g3,0,none⟩) q c3] 80)) kb (za (some ⟨b,off,none⟩) n rc) (za la m lc) rs (za ak m aj) S L):=Q4.X.below (zP _);have OB:Zb (zk (w3.alloc (zg #[ze zd rv,za (some ⟨g3,0,none⟩) q c3] 80)) (w.heap.size+2) 2 1 (za (some ⟨g3,0,none⟩) q c3) q (ay.map (ze zd))):=O4.X.alloc _;have pe:Zb ((w3.alloc (zg #[ze zd rv,za (some ⟨g3,0,none⟩) q c3] 80)).heap[rb]? =some (zg #[ze zd rv,za (some ⟨b',aR,none⟩) q dE] 80 (0,0))):=(xg _ _ (za2 oD.X)).trans oD.X;have nM:=za1 pe.X;obtain⟨x0,x1⟩:=za1 Q4.X.o;obtain⟨vd,vG⟩:=za1 QB.X.o;clear hb ho
   (try go_wp2_with fail)
   refine hoW hK ot fun aa=> ?_;clear hK K;refine xQ (rs:=[1,4]) (by kernel_rfl) (by simp) ?_;refine xL rfl (fun K hK=> ?_) ?_
   ·skip
    go_simp;refine hoW hK ot fun aa=> ?_;clear hK K;refine rdH 4 fun K hK=> ?_;go_simp;refine hoW hK nM fun aa=> ?_;clear hK K;refine rdH 5 fun K hK=> ?_;refine zd3 qB zm8 (by rfl) (by omega) rfl (.tmp 18) (.tmp 21) rfl (w.heap.size+2) rs k (zj5 S) rfl (by rw[<-lQ.X];exact QB.X.q.r) w3.heap.size 0 1 1 [ze zd rv,za (some ⟨g3,0,none⟩) q c3] rfl rfl (ze0 _ _ _ _ _ rfl) (by simp[zq]) (by omega) (by omega) (by have:=za2 Q4.X.a;simp;omega) ?_;intro v' w4 ho hg bd hn;rcases own_kinds ho with⟨_,e0⟩|⟨g4,c4,e4,-,-⟩
    ·omega
    subst e4;have Q5:Zb _:=QB.X.more HQ.X lQ.X OB.X hg ho;have X4:=QB.X.moreO hg;have R4:=za6 hg pe.X (fun e=>Ce.X e.symm);have em:=za1 R4;obtain⟨x4,y4⟩:=za1 X4.2.1;have xf:=fun i=>yZ _ _ i _ _ X4.2.1;have kR:(fun W=>W.cell? ⟨rb,0,none⟩=some (ze zd rv)/\W.cell? ⟨rb,1,none⟩=some (za (some ⟨b',aR,none⟩) q dE)) (w4.setCell ⟨kb,0,none⟩ (za (some ⟨g4,0,none⟩) (k+1) c4)):=⟨za5 em.1 (by show rb≠kb;omega),za5 em.2 (by show rb≠kb;omega)⟩;clear ho hg bd hn X4 R4;refine hoW hK em fun aa=> ?_;clear hK K;refine tkH 6 aa ?_;refine rdH 7 fun K hK=> ?_;go_simp;refine hoW hK kR fun aa=> ?_;clear hK K;refine qF (by kernel_rfl) ?_ _;clear aa kR xf x4 y4 em x0 x1 vd vG nM ot o0 o1 QB OB Q4 O4 Q1 nh oD pe CR;generalize w4.setCell ⟨kb,0,none⟩ _=W5 at*;go_wp2;go_roundw
    case rel=>
     refine⟨k+1,_,_,by omega,by first|rfl|go_num,?_,Q5.X,oK.X.add (r:=⟨rv,some ⟨g3,0,none⟩,ay,c3⟩) (fun h=>by have:=oL.X _ h g3 rfl;have:=Dc.X;omega)⟩;rw[lF.X,qJ,qJ,nz.X];rfl
    case measure=>simp[intOf];omega
   refine xL rfl (fun K hK=> ?_) xP;go_simp;refine hoW hK nM fun aa=> ?_;clear hK K;refine rdH 1 fun K hK=> ?_;go_simp;refine hoW hK nM fun aa=> ?_;clear hK K;refine rdH 5 fun K hK=> ?_;refine zd3 qB zm8 (by rfl) (by omega) rfl (.tmp 18) (.tmp 21) rfl (w.heap.size+2) rs k (zj5 S) rfl (by rw[<-lQ.X];exact QB.X.q.r) w3.heap.size 0 1 1 [ze zd rv,za (some ⟨g3,0,none⟩) q c3] rfl rfl (ze0 _ _ _ _ _ rfl) (by simp[zq]) (by omega) (by omega) (by have:=za2 Q4.X.a;simp;omega) ?_;intro v' w4 ho hg bd hn;rcases own_kinds ho with⟨_,e0⟩|⟨g4,c4,e4,-,-⟩
   ·omega
   subst e4;have Q5:Zb _:=QB.X.more HQ.X lQ.X OB.X hg ho;have X4:=QB.X.moreO hg;have R4:=za6 hg pe.X (fun e=>Ce.X e.symm);have em:=za1 R4;obtain⟨x4,y4⟩:=za1 X4.2.1;have xf:=fun i=>yZ _ _ i _ _ X4.2.1;have kR:(fun W=>W.cell? ⟨rb,0,none⟩=some (ze zd rv)/\W.cell? ⟨rb,1,none⟩=some (za (some ⟨b',aR,none⟩) q dE)) (w4.setCell ⟨kb,0,none⟩ (za (some ⟨g4,0,none⟩) (k+1) c4)):=⟨za5 em.1 (by show rb≠kb;omega),za5 em.2 (by show rb≠kb;omega)⟩;clear ho hg bd hn X4 R4;refine hoW hK em fun aa=> ?_;clear hK K;refine tkH 6 aa ?_;refine rdH 7 fun K hK=> ?_;go_simp;refine hoW hK kR fun aa=> ?_;clear hK K;refine qF (by kernel_rfl) ?_ _;clear aa kR xf x4 y4 em x0 x1 vd vG nM ot o0 o1 QB OB Q4 O4 Q1 nh oD pe CR;generalize w4.setCell ⟨kb,0,none⟩ _=W5 at*;go_wp2;go_roundw
   case rel=>
    refine⟨k+1,_,_,by omega,by first|rfl|go_num,?_,Q5.X,oK.X.add (r:=⟨rv,some ⟨g3,0,none⟩,ay,c3⟩) (fun h=>by have:=oL.X _ h g3 rfl;have:=Dc.X;omega)⟩;rw[lF.X,qJ,qJ,nz.X];rfl
   case measure=>simp[intOf];omega
   -- NOIGER
  ·have ik:¬((k:Int)<(n:Int)):=by omega
   have cV:k=n:=by omega
   obtain⟨a0,a1⟩:=za1 Q3.X.a;have af:=fun i=>yZ _ _ i _ _ Q3.X.a;obtain⟨o0,o1⟩:=za1 Q3.X.o;have o7:Zb (S.map RT.key=R.map RT.key):=by
    show _=_;rw[nz.X,cV,<-HN.X,ym]
   have tg:S.length=n:=by rw[lQ.X];exact cV
   obtain⟨ga,ca,e⟩:∃ga ca,rs=za ga n ca:=by
    rcases Q3.X.q.rv with⟨e,h0⟩|⟨g,c,e,_,_⟩
    ·exact⟨none,0,by rw[e,<-tg,h0]⟩
    ·exact⟨_,c,by rw[e,tg]⟩
   subst e;clear cV tg lQ nz;go_wp2;refine xe (v:=.agg #[za ga n ca,za ak m aj]) (by simp[results,Tryz.results37,go_sem,a0,a1]) rfl ⟨ga,ca,ak,aj,S,by rw[HN.X,HM.X],?_,o7.X,?_,oK.X⟩
   ·repeat(first|with_reducible exact Q3.X.b|refine xq ?_ (by simp<;>omega) _)
   ·rw[HN.X,HM.X]
    repeat(first|with_reducible exact Q3.X.q|refine PO.set ?_ (by omega))
theorem yj4{p:Nat->Prop}[DecidablePred p]:∀n,(∃k,k<n/\p k)->∃k,k<n/\p k/\∀j,j<k->¬p j
 |0,h=>by obtain⟨k,hk,_⟩:=h;omega
 |n+1,h=>by
  by_cases h2:∃k,k<n/\p k
  ·obtain⟨k,h3,h4,h5⟩:=yj4 n h2
   exact⟨k,by omega,h4,h5⟩
  ·obtain⟨k,h3,h4⟩:=h
   by_cases hk:k<n
   ·exact absurd ⟨k,hk,h4⟩ h2
   ·have:k=n:=by omega
    subst this;exact⟨k,h3,h4,fun j hj h6=>h2 ⟨j,hj,h6⟩⟩
theorem zH6{R:List RT}{x:Int}(hx:x∈zb0 R R.length):∃k,k<R.length/\x∈(R.getD k rt0).ids/\∀j,j<k->x∉(R.getD j rt0).ids:=by
 rw[zb8]at hx;obtain⟨r,hr,pz⟩:=jh.1 hx;obtain⟨k,hk,e⟩:=zo3 hr;exact yj4 (p:=fun k=>x∈(R.getD k rt0).ids) R.length ⟨k,hk,by show x∈(R.getD k rt0).ids;rw[e];exact pz⟩
def NP(w:zi)(T:List RT)(L:List Int)(e:Ending)(w':zi):Prop:=∃(ra:Option Zd) (n rc gl lc:Nat) (S:List RT),e=.returned (.agg #[za ra n rc,za (some ⟨gl,0,none⟩) L.length lc])/\Za w.heap.size w w'/\S.length=n/\S.map RT.key=T.map RT.key/\PO w' w.heap.size (za ra n rc) S (za (some ⟨gl,0,none⟩) L.length lc) L
theorem zM6{S P:List Int}{l0 i:Nat}(ra:Option Zd)(n rc bl ol l lc g cg cl k:Nat)(R:List RT)(L:List Int)(x:Int)(w:zi)(hI:LvI S P l0 i R L)(hl:L.length<=100)(hL:L.length=l)(hn:R.length=n)(hR:za9 w ra R)(Dm:za3 w (some ⟨bl,ol,none⟩) L)(hk:k<R.length)(hm:x∈(R.getD k rt0).ids)(jI:(cutP (R.getD k rt0).ids x).length=cl)(hX:za3 w (some ⟨g,0,none⟩) (cutP (R.getD k rt0).ids x)):
 Calls zh 72 #[.agg #[za ra n rc,(za (some ⟨bl,ol,none⟩) l lc)],.agg #[ze zd (R.getD k rt0).v,za (some ⟨g,0,none⟩) cl cg]] w (NP w (lvR R x) L):=by
 have hi:∀r∈R,r.ids≠[]/\r.ids.length<=500:=fun r hr=>⟨hI.ne r hr,by have:=hI.sm r hr;omega⟩
 have h4:R.length<=400:=by have:=hI.ln;omega
 subst hn hL jI;by_cases hc:cutP (R.getD k rt0).ids x=[]
 ·have h:=y36 ra (some ⟨g,0,none⟩) bl ol rc lc cg R L (R.getD k rt0).v w hR Dm h4 hi (by omega)
  rw[hc];refine h.mono ?_;rintro e w' ⟨ag,ai,g2,aj,S2,rfl,hb,cN,ho⟩;have h9:=yn8 hI.rs hk hI.ne hI.nd hm hc;exact⟨ag,_,ai,g2,aj,S2,rfl,hb,rfl,by rw[cN,<-h9];rfl,ho⟩
 ·have aL:(cutP (R.getD k rt0).ids x).length<=500:=by
   have h1:(cutP (R.getD k rt0).ids x).length<=(R.getD k rt0).ids.length:=by unfold cutP;exact yp _ _
   have h2:=hI.sm _ (zh7 hk);omega
  have h:=zw6 ra bl ol rc lc g 0 cg R L (R.getD k rt0).v (cutP (R.getD k rt0).ids x) w hR Dm hX h4 hi (by omega) ⟨hc,aL⟩;refine h.mono ?_;rintro e w' ⟨ag,ai,g2,aj,S2,rfl,hb,cN,ho⟩;exact⟨ag,_,ai,g2,aj,S2,rfl,hb,rfl,cN.trans (yp8 hI.rs hk hI.ne hI.nd hm hc _ _),ho⟩
theorem yr2{S P:List Int}{l0 i:Nat}(ra:Option Zd)(n rc gl l lc g cg cl k:Nat)(R:List RT)(L:List Int)(x:Int)(w:zi)(hI:LvI S P l0 i R L)(hl:L.length<=100)(hL:L.length=l)(hn:R.length=n)(hR:za9 w ra R)(Dm:za3 w (some ⟨gl,0,none⟩) L)(hk:k<R.length)(hm:x∈(R.getD k rt0).ids)(jI:(cutP (R.getD k rt0).ids x).length=cl)(hX:za3 w (some ⟨g,0,none⟩) (cutP (R.getD k rt0).ids x)):
 Calls zh 72 #[.agg #[za ra n rc,za (some ⟨gl,0,none⟩) l lc],.agg #[ze zd (R.getD k rt0).v,za (some ⟨g,0,none⟩) cl cg]] w (NP w (lvR R x) L):=zM6 ra n rc gl 0 l lc g cg cl k R L x w hI hl hL hn hR Dm hk hm jI hX
structure DS(w4 W:zi)(b0:Nat)(S P:List Int)(R0:List RT)(L0:List Int)(i:Nat)(ra:Option Zd)(n rc gl l lc:Nat)(R:List RT)(L:List Int):Prop where
 b:Za w4.heap.size w4 W
 x:W.heap[w4.heap.size]? =some (zg #[za ra n rc,za (some ⟨gl,0,none⟩) l lc] 33 (0,0))
 o:PO W b0 (za ra n rc) R (za (some ⟨gl,0,none⟩) l lc) L
 rn:R.length=n
 ln:L.length=l
 iv:LvI S P L0.length i R L
 kr:R.map RT.key=(lvF S P R0 L0 i).1.map RT.key
 kl:L=(lvF S P R0 L0 i).2
theorem DS.below{w4 W W':zi}{b0:Nat}{S P:List Int}{R0 R:List RT}{L0 L:List Int}{i n rc gl l lc:Nat}{ra:Option Zd}(h:DS w4 W b0 S P R0 L0 i ra n rc gl l lc R L)(hb:Za W.heap.size W W'):DS w4 W' b0 S P R0 L0 i ra n rc gl l lc R L:=
 ⟨h.b.trans (hb.mono h.b.size),za0 hb (za2 h.x) h.x,h.o.below hb,h.rn,h.ln,h.iv,h.kr,h.kl⟩
structure DM(w4 W:zi)(b0:Nat)(id:Int)(ra:Option Zd)(n rc gl l lc:Nat)(Rm R:List RT)(L:List Int):Prop where
 b:Za w4.heap.size w4 W
 x:W.heap[w4.heap.size]? =some (zg #[za ra n rc,za (some ⟨gl,0,none⟩) l lc] 33 (0,0))
 o:PO W b0 (za ra n rc) R (za (some ⟨gl,0,none⟩) l lc) L
 rn:R.length=n
 ln:L.length=l
 kr:R.map RT.key=(lvR Rm id).map RT.key
theorem DS.mid{w4 W w1 w2:zi}{b0:Nat}{S P:List Int}{R0 R:List RT}{L0 L:List Int}{i n rc gl l lc:Nat}{ra:Option Zd}{x:Int}{e:Ending}(h:DS w4 W b0 S P R0 L0 i ra n rc gl l lc R L)(h0:b0<=w4.heap.size)(gj:Za W.heap.size W w1)(ht:NP w1 (lvR R x) L e w2):
 ∃(ag:Option Zd) (n2 ai g2 aj:Nat) (R2:List RT),e=.returned (.agg #[za ag n2 ai,za (some ⟨g2,0,none⟩) l aj])/\Za W.heap.size W w2/\DM w4 ((w2.setCell ⟨w4.heap.size,0,none⟩ (za ag n2 ai)).setCell ⟨w4.heap.size,1,none⟩ (za (some ⟨g2,0,none⟩) l aj)) b0 x ag n2 ai g2 l aj R R2 L:=by
 obtain⟨ag,n2,ai,g2,aj,S2,rfl,hb,hn,hk,ho⟩:=ht;rw[h.ln]at ho⊢;have aC:=gj.trans (hb.mono gj.size);have hx:=za0 aC (za2 h.x) h.x;have s1:=xb w2 w4.heap.size 0 _ _ (za ag n2 ai) hx;simp only[xM,xN]at s1;have s2:=xb _ w4.heap.size 1 _ _ (za (some ⟨g2,0,none⟩) l aj) s1;simp only[xM,xN,xO]at s2;have De:=ho.base (xj h0 (xj h.b.size gj.size));exact⟨ag,n2,ai,g2,aj,S2,rfl,aC,((h.b.trans (aC.mono h.b.size)).setCell (zT _) _).setCell (zT _) _,s2,(De.box hx).box s1,hn,h.ln,hk⟩
theorem DM.below{w4 W W':zi}{b0 n rc gl l lc:Nat}{x:Int}{ra:Option Zd}{Rm R:List RT}{L:List Int}(h:DM w4 W b0 x ra n rc gl l lc Rm R L)(hb:Za W.heap.size W W'):DM w4 W' b0 x ra n rc gl l lc Rm R L:=
 ⟨h.b.trans (hb.mono h.b.size),za0 hb (za2 h.x) h.x,h.o.below hb,h.rn,h.ln,h.kr⟩
theorem DM.put{w4 W w1:zi}{b0 g cc:Nat}{S P:List Int}{R0 Rm R:List RT}{L0 L:List Int}{i n rc gl l lc:Nat}{ra:Option Zd}(h:DM w4 W b0 (pkd S P i) ra n rc gl l lc Rm R L)(h0:b0<=w4.heap.size)(hd:∀i j,i<j->j<P.length->pkd S P i≠pkd S P j)(hi:i<P.length)(hv:LvI S P L0.length i Rm L)(uv:Rm.map RT.key=(lvF S P R0 L0 i).1.map RT.key)(bz:L=(lvF S P R0 L0 i).2)(hb:Za W.heap.size W w1)(ho:w1.ownsRow W.heap.size 2 1 (za (some ⟨g,0,none⟩) (l+1) cc) (l+1) ((zz3 L (pkd S P i)).map (ze zd))):
 DS w4 (w1.setCell ⟨w4.heap.size,1,none⟩ (za (some ⟨g,0,none⟩) (l+1) cc)) b0 S P R0 L0 (i+1) ra n rc g (l+1) cc R (zz3 L (pkd S P i)):=by
 have h1:=h.below hb;have s2:=xb _ w4.heap.size 1 _ _ (za (some ⟨g,0,none⟩) (l+1) cc) h1.x;simp only[xM,xN,xO]at s2;have hl:(zz3 L (pkd S P i)).length=l+1:=by rw[z47,h.ln]
 have hp:PO w1 b0 (za ra n rc) R (za (some ⟨g,0,none⟩) (l+1) cc) (zz3 L (pkd S P i)):=⟨h1.o.r,h1.o.s,by rw[hl];exact zb5 ho (xj h0 h.b.size)⟩;refine⟨h1.b.setCell (zT _) _,s2,hp.box h1.x,h.rn,hl,(hv.step hd hi).key h.kr,?_,?_⟩
 ·rw[h.kr,lvF]
  exact zF2 uv _
 ·rw[lvF,<-bz]
def yv4(w:zi)(v:Int)(f:Bool)(T:List RT)(L:List Int)(e:Ending)(w':zi):Prop:=∃ra rn rc la ln lc S,e=.returned (.tuple #[.agg #[za ra rn rc,za la ln lc],ze zd v,.bool f])/\Za w.heap.size w w'/\S.length=rn/\L.length=ln/\S.map RT.key=T.map RT.key/\PO w' w.heap.size (za ra rn rc) S (za la ln lc) L
def z97(w:zi)(v:Int)(T:List RT)(L:List Int)(e:Ending)(w':zi):Prop:=∃ra rn rc la ln lc S,e=.returned (.tuple #[.agg #[za ra rn rc,za la ln lc],ze zd v])/\Za w.heap.size w w'/\S.length=rn/\L.length=ln/\S.map RT.key=T.map RT.key/\PO w' w.heap.size (za ra rn rc) S (za la ln lc) L
