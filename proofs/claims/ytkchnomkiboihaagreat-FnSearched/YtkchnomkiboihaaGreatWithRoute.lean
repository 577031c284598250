import Derived.Test.YtkchnomkiboihaaGreatPack31
import Derived.Test.YtkchnomkiboihaaGreatDeleteR
set_option maxHeartbeats 2000000
namespace Go.Proofs.YtkchnomkiboihaaGreat
open Value renaming slice→za,int→ze
open IntKind renaming i64→zd
open Obj renaming cells→zg
open List renaming length→zo
open Go.RowKit
open Q
structure WQ(w W:World)(ra la:Option Addr)(n rc ln lc:Nat)(xv:Int)(xa:Option Addr)(xl xc:Nat):Prop where
 b:Below w.heap.size w W
 p:W.heap[w.heap.size]? =some (zg #[za ra n rc,za la ln lc] 33 (0,0))
 r:W.heap[w.heap.size+1]? =some (zg #[ze zd xv,za xa xl xc] 80 (0,0))
 o:W.heap[w.heap.size+2]? =some (zg #[za none 0 0,za none 0 0] 33 (0,0))
theorem WQ.below{w W W':World}{ra la:Option Addr}{n rc ln lc:Nat}{xv:Int}{xa:Option Addr}{xl xc base:Nat}(h:WQ w W ra la n rc ln lc xv xa xl xc)(hs:w.heap.size+3<=base)(hb:Below base W W'):WQ w W' ra la n rc ln lc xv xa xl xc:=
 ⟨h.b.trans (hb.mono (by omega)),(za0 hb (by omega) h.p),(za0 hb (by omega) h.r),(za0 hb (by omega) h.o)⟩
theorem WQ.size{w W:World}{ra la:Option Addr}{n rc ln lc:Nat}{xv:Int}{xa:Option Addr}{xl xc:Nat}(h:WQ w W ra la n rc ln lc xv xa xl xc):w.heap.size+3<=W.heap.size:=za2 h.o
theorem zC9{w:World}{base k b:Nat}{v u1 u2:Value}{e:TypeId}{size:Nat}{xs:List Value}(h:w.ownsRow base e size v k xs)(hb:b<base):((w.setCell ⟨b,0,none⟩ u1).setCell ⟨b,1,none⟩ u2).ownsRow base e size v k xs:=qu (qu h hb u1) hb u2
set_option maxRecDepth 10000 in
theorem zp3(ra la:Option Addr)(rc ln lc:Nat)(R:List RT)(r:RT)(w:World)(hR:za9 w ra R)(hn:R.length<=100)(hS:zf7 R)(oG:(ra=none/\R.length=0)∨∃b off,ra=some ⟨b,off,none⟩)(oS:r.ids.length<=1000):
 Calls Tryz.prog 145 #[.agg #[za ra R.length rc,za la ln lc],.agg #[ze zd r.v,za r.a r.ids.length r.c]] w fun e w'=>∃sl,e=.returned (.agg #[sl,za la ln lc])/\Below w.heap.size w w'/\w'.ownsRow w.heap.size 80 2 sl (wrL R r).length (zj5 (wrL R r)):=by
 have HR:=za4 hR;have HS:=za4 hS;have pN:Hid _:=oG;clear hR hS oG;obtain⟨n,HN⟩:=nmd R.length;rw[HN.X]at hn⊢;have iI:Hid (∀k,y30 R r.v k->wrL R r=R.take k++((if r.ids=[]then []else [r])++R.drop (k+yr5 R r.v k))):=fun k hk=>yB3 HS.X hk;obtain⟨L9,Mj⟩:=nmd (wrL R r);rw[Mj.X]at iI⊢;obtain⟨xv,xa,cF,xc⟩:=r;simp only at oS iI⊢;obtain⟨xl,aY⟩:=nmd cF.length;rw[aY.X]at oS⊢;have Q0:Hid (WQ w (((w.alloc (zg #[za ra n rc,za la ln lc] 33)).alloc (zg #[ze zd xv,za xa xl xc] 80)).alloc (zg #[za none 0 0,za none 0 0] 33)) ra la n rc ln lc xv xa xl xc):=by
  refine⟨((zP _).alloc (by simp) _).alloc (by simp;omega) _,?_,?_,?_⟩
  ·exact(xg _ _ (by simp;omega)).trans (xm _ _ _)
  ·exact(xg _ _ (by simp)).trans (xh _ _ _)
  ·have:=zS ((w.alloc (zg #[za ra n rc,za la ln lc] 33)).alloc (zg #[ze zd xv,za xa xl xc] 80)) (zg #[za none 0 0,za none 0 0] 33)
   simpa using this
 have FR:=z54 ra la rc ln lc R xv _ (HR.X.below Q0.X.b) (by rw[HN.X];omega) HS.X;rw[HN.X]at FR;obtain⟨p0,p1⟩:=za1 Q0.X.p;obtain⟨r0,r1⟩:=za1 Q0.X.r;go_enter Tryz.func145,Tryz.ntmps145
 go_wp2_with fail
 generalize((w.alloc _).alloc _).alloc _=W0 at*;refine FR.mono ?_;rintro e w1 ⟨k,rfl,hk,hb⟩;have HK:=za4 hk;have cL:k<=n:=by rw[<-HN.X];exact hk.le
 have Q1:Hid _:=Q0.X.below (xj Q0.X.size (zT _)) hb;clear hk hb FR p0 p1 r0 r1 Q0;obtain⟨p0,p1⟩:=za1 Q1.X.p;have CL:=yH9 ra rc n R w1 (HR.X.below Q1.X.b) HN.X (by omega) (by rw[<-HN.X];exact pN.X);obtain⟨f,HF⟩:=nmd (yo3 R xv k);rw[HF.X]
 go_wp2_with fail
 refine CL.mono ?_;rintro e w2 ⟨sl,rfl,hb,ho⟩;obtain⟨sa,sc,e⟩:=zp4 ho;subst e;have Q2:Hid _:=Q1.X.below Q1.X.size hb;have O2:=za4 ho;have d8:Hid _:=Q1.X.size;have FB:Hid _:=hb.size;clear hb ho CL p0 p1 Q1;cases f
 ·have oh:Hid (yr5 R xv k=0):=by show _=_;unfold yr5;rw[ye (by rw[HF.X];simp)]
  obtain⟨m,HM⟩:=nmd n;have Dw:n=m:=HM.X;have iH:k<=m:=by omega
  rw[Dw];have fY:Hid _:=FB.X;have Q3:=Q2;have O3:Hid (w2.ownsRow w1.heap.size 80 2 (za sa m sc) m (zj5 (R.take k++R.drop (k+0)))):=by
   rw[Nat.add_zero,q7,<-Dw];exact O2.X
  clear Q2 O2;have mp:Hid ((R.take k++R.drop (k+0)).length=m):=by show _=_;rw[xY,yh,qj,HN.X];omega
  obtain⟨p0,p1⟩:=za1 Q3.X.p;obtain⟨r0,r1⟩:=za1 Q3.X.r;obtain⟨o0,o1⟩:=za1 Q3.X.o;have BF:=fun i=>yZ _ _ i _ _ Q3.X.o;by_cases hz:xl=0
  ·have HE:Hid (L9=R.take k++R.drop (k+0)):=by
    have h1:=iI.X k HK.X;have h2:cF=[]:=jg.1 (aY.X.trans hz);rw[z7 h2,oh.X,yw]at h1;exact h1
   subst hz;go_wp2;refine xe (v:=.agg #[za sa m sc,za la ln lc]) (by simp[results,Tryz.results145,go_sem,o0,o1]) rfl ⟨_,rfl,?_,?_⟩
   ·repeat(first|with_reducible exact Q3.X.b|refine xq ?_ (by simp<;>omega) _)
   ·rw[HE.X,mp.X]
    exact zb5 (zC9 O3.X (by have:=d8.X;omega)) (by have:=d8.X;omega)
  ·have HE:Hid (L9=(R.take k++R.drop (k+0)).take k++([⟨xv,xa,cF,xc⟩]++(R.take k++R.drop (k+0)).drop k)):=by
    have h1:=iI.X k HK.X;have h2:¬(cF=[]):=fun e=>hz (by rw[<-aY.X,e];rfl)
    have h3:(R.take k).length=k:=by rw[yh,HN.X];omega
    rw[ye h2,oh.X]at h1;show _=_;rw[h1,List.take_left' h3,List.drop_left' h3]
   have HV:Hid ((w2.alloc (zg #[ze zd xv,za xa xl xc] 80)).heap[w2.heap.size]? =some (.cells [ze zd xv,za xa xl xc].toArray 80 (0,0))):=zS _ _;have dx:=fY.X;have wt:=yx5 (za sa m sc) k w2.heap.size w1.heap.size m (zj5 (R.take k++R.drop (k+0))) [ze zd xv,za xa xl xc] (w2.alloc (zg #[ze zd xv,za xa xl xc] 80)) (by rw[zg6,mp.X]) rfl (zE0 _) (by intro v hv;simp at hv;rcases hv with rfl|rfl<;>rfl) (O3.X.alloc _) (by simp;omega) HV.X (fun e=>by have:=(O3.X.lt _ e).2;omega) iH (by omega);have MH:(0:Int)<(xl:Int):=by omega
   have QA:Hid (WQ w (w2.alloc (zg #[ze zd xv,za xa xl xc] 80)) ra la n rc ln lc xv xa xl xc):=Q3.X.below (xj d8.X dx) ((y5 _ _).alloc (by omega) _);clear dx
   go_wp2_with fail
   refine wt.mono ?_;rintro e w5 ⟨Pj,rfl,fk,ed⟩;obtain⟨wH,A',e⟩:=zp4 ed;subst e;have Q5:Hid _:=QA.X.below d8.X fk;have O5:Hid (w5.ownsRow w1.heap.size 80 2 (za wH (m+1) A') L9.length (zj5 L9)):=by
    have e1:zV3 (zj5 (R.take k++R.drop (k+0))) (k*2) [ze zd xv,za xa xl xc]=zj5 L9:=by
     rw[HE.X];unfold zV3;rw[zJ0,zG2,zp7,zp7];have:zj5 [⟨xv,xa,cF,xc⟩]=[ze zd xv,za xa xl xc]:=by simp[zj5,zq1,aY.X]
     rw[this]
    have e2:L9.length=m+1:=by
     have:=congrArg zo e1;rw[zg6,zt6 (by rw[zg6,mp.X];omega),zg6,mp.X]at this;simp at this;omega
    rw[e1]at ed;rw[e2];exact ed
   clear fk ed wt HV QA p0 p1 r0 r1 o0 o1 BF;obtain⟨p0,p1⟩:=za1 Q5.X.p;obtain⟨o0,o1⟩:=za1 Q5.X.o;have BF:=fun i=>yZ _ _ i _ _ Q5.X.o;go_wp2;refine xe (v:=.agg #[za wH (m+1) A',za la ln lc]) (by simp[results,Tryz.results145,go_sem,o0,o1]) rfl ⟨_,rfl,?_,?_⟩
   ·repeat(first|with_reducible exact Q5.X.b|refine xq ?_ (by simp<;>omega) _)
   ·exact zb5 (zC9 O5.X (by have:=d8.X;omega)) (by have:=d8.X;omega)
 ·have oh:Hid (yr5 R xv k=1):=by show _=_;unfold yr5;rw[z7 HF.X]
  have bz:k<n:=by rw[<-HN.X];exact(zZ HF.X).1
  obtain⟨m,rfl⟩:∃m,n=m+1:=⟨n - 1,by omega⟩;have iH:k<=m:=by omega
  rcases own_kinds O2.X with⟨_,h0⟩|⟨g,c9,e,-,-⟩
  ·omega
  simp only[qA,true_and]at e;obtain⟨rfl,rfl⟩:=e;have Fy:=yC9 g sc k w1.heap.size (m+1) (zj5 R) w2 (by rw[zg6,HN.X]) (zE0 _) O2.X bz (by omega);have e9:(zj5 R).take (k*2)++(zj5 R).drop ((k+1)*2)=zj5 (R.take k++R.drop (k+1)):=by rw[zJ0,zG2,zp7]
  rw[e9,yU]at Fy;have Nt:IntKind.i64.wrap ((k:Int)+1)=(k:Int)+1:=by rw[xu];omega
  clear e9
  go_wp2_with fail
  refine Fy.mono ?_;rintro e w3 ⟨rfl,hb,ho⟩;have Q3:Hid _:=Q2.X.below d8.X hb;have O3:=za4 ho;have lJ:Hid _:=xj FB.X hb.size;clear hb ho Q2 O2 Fy Nt FB;have mp:Hid ((R.take k++R.drop (k+1)).length=m):=by show _=_;rw[xY,yh,qj,HN.X];omega
  obtain⟨p0,p1⟩:=za1 Q3.X.p;obtain⟨r0,r1⟩:=za1 Q3.X.r;obtain⟨o0,o1⟩:=za1 Q3.X.o;have BF:=fun i=>yZ _ _ i _ _ Q3.X.o;by_cases hz:xl=0
  ·have HE:Hid (L9=R.take k++R.drop (k+1)):=by
    have h1:=iI.X k HK.X;have h2:cF=[]:=jg.1 (aY.X.trans hz);rw[z7 h2,oh.X,yw]at h1;exact h1
   subst hz;go_wp2;refine xe (v:=.agg #[za (some ⟨g,0,none⟩) m sc,za la ln lc]) (by simp[results,Tryz.results145,go_sem,o0,o1]) rfl ⟨_,rfl,?_,?_⟩
   ·repeat(first|with_reducible exact Q3.X.b|refine xq ?_ (by simp<;>omega) _)
   ·rw[HE.X,mp.X]
    exact zb5 (zC9 O3.X (by have:=d8.X;omega)) (by have:=d8.X;omega)
  ·have HE:Hid (L9=(R.take k++R.drop (k+1)).take k++([⟨xv,xa,cF,xc⟩]++(R.take k++R.drop (k+1)).drop k)):=by
    have h1:=iI.X k HK.X;have h2:¬(cF=[]):=fun e=>hz (by rw[<-aY.X,e];rfl)
    have h3:(R.take k).length=k:=by rw[yh,HN.X];omega
    rw[ye h2,oh.X]at h1;show _=_;rw[h1,List.take_left' h3,List.drop_left' h3]
   have HV:Hid ((w3.alloc (zg #[ze zd xv,za xa xl xc] 80)).heap[w3.heap.size]? =some (.cells [ze zd xv,za xa xl xc].toArray 80 (0,0))):=zS _ _;have dx:=lJ.X;have wt:=yx5 (za (some ⟨g,0,none⟩) m sc) k w3.heap.size w1.heap.size m (zj5 (R.take k++R.drop (k+1))) [ze zd xv,za xa xl xc] (w3.alloc (zg #[ze zd xv,za xa xl xc] 80)) (by rw[zg6,mp.X]) rfl (zE0 _) (by intro v hv;simp at hv;rcases hv with rfl|rfl<;>rfl) (O3.X.alloc _) (by simp;omega) HV.X (fun e=>by have:=(O3.X.lt _ e).2;omega) iH (by omega);have MH:(0:Int)<(xl:Int):=by omega
   have QA:Hid (WQ w (w3.alloc (zg #[ze zd xv,za xa xl xc] 80)) ra la (m+1) rc ln lc xv xa xl xc):=Q3.X.below (xj d8.X dx) ((y5 _ _).alloc (by omega) _);clear dx
   go_wp2_with fail
   refine wt.mono ?_;rintro e w5 ⟨Pj,rfl,fk,ed⟩;obtain⟨wH,A',e⟩:=zp4 ed;subst e;have Q5:Hid _:=QA.X.below d8.X fk;have O5:Hid (w5.ownsRow w1.heap.size 80 2 (za wH (m+1) A') L9.length (zj5 L9)):=by
    have e1:zV3 (zj5 (R.take k++R.drop (k+1))) (k*2) [ze zd xv,za xa xl xc]=zj5 L9:=by
     rw[HE.X];unfold zV3;rw[zJ0,zG2,zp7,zp7];have:zj5 [⟨xv,xa,cF,xc⟩]=[ze zd xv,za xa xl xc]:=by simp[zj5,zq1,aY.X]
     rw[this]
    have e2:L9.length=m+1:=by
     have:=congrArg zo e1;rw[zg6,zt6 (by rw[zg6,mp.X];omega),zg6,mp.X]at this;simp at this;omega
    rw[e1]at ed;rw[e2];exact ed
   clear fk ed wt HV QA p0 p1 r0 r1 o0 o1 BF;obtain⟨p0,p1⟩:=za1 Q5.X.p;obtain⟨o0,o1⟩:=za1 Q5.X.o;have BF:=fun i=>yZ _ _ i _ _ Q5.X.o;go_wp2;refine xe (v:=.agg #[za wH (m+1) A',za la ln lc]) (by simp[results,Tryz.results145,go_sem,o0,o1]) rfl ⟨_,rfl,?_,?_⟩
   ·repeat(first|with_reducible exact Q5.X.b|refine xq ?_ (by simp<;>omega) _)
   ·exact zb5 (zC9 O5.X (by have:=d8.X;omega)) (by have:=d8.X;omega)
