import Derived.Test.YtkchnomkiboihaaGreatPack18
import Derived.Test.YtkchnomkiboihaaGreatDeleteR
set_option maxHeartbeats 2000000
namespace Go.Proofs.YtkchnomkiboihaaGreat
open Value renaming slice→za,int→zc
open IntKind renaming i64→zb
open Obj renaming cells→zd
open List renaming length→zj
open Go.RowKit
open Q
structure WQ(w W:World)(ra la:Option Addr)(n rc ln lc:Nat)(xv:Int)(xa:Option Addr)(xl xc:Nat):Prop where
 b:Below w.heap.size w W
 p:W.heap[w.heap.size]? =some (zd #[za ra n rc,za la ln lc] 33 (0,0))
 r:W.heap[w.heap.size+1]? =some (zd #[zc zb xv,za xa xl xc] 80 (0,0))
 o:W.heap[w.heap.size+2]? =some (zd #[za none 0 0,za none 0 0] 33 (0,0))
theorem WQ.below{w W W':World}{ra la:Option Addr}{n rc ln lc:Nat}{xv:Int}{xa:Option Addr}{xl xc base:Nat}(h:WQ w W ra la n rc ln lc xv xa xl xc)(hs:w.heap.size+3<=base)(hb:Below base W W'):WQ w W' ra la n rc ln lc xv xa xl xc:=
 ⟨h.b.trans (hb.mono (by omega)),(za0 hb (by omega) h.p),(za0 hb (by omega) h.r),(za0 hb (by omega) h.o)⟩
theorem WQ.size{w W:World}{ra la:Option Addr}{n rc ln lc:Nat}{xv:Int}{xa:Option Addr}{xl xc:Nat}(h:WQ w W ra la n rc ln lc xv xa xl xc):w.heap.size+3<=W.heap.size:=za2 h.o
theorem zC6{w:World}{base k b:Nat}{v u1 u2:Value}{e:TypeId}{size:Nat}{xs:List Value}(h:w.ownsRow base e size v k xs)(hb:b<base):((w.setCell ⟨b,0,none⟩ u1).setCell ⟨b,1,none⟩ u2).ownsRow base e size v k xs:=ownsRow_setCell_below (ownsRow_setCell_below h hb u1) hb u2
set_option maxRecDepth 10000 in
theorem zp3(ra la:Option Addr)(rc ln lc:Nat)(R:List RT)(r:RT)(w:World)(hR:za9 w ra R)(hn:R.length<=100)(hS:zg1 R)(hra:(ra=none/\R.length=0)∨∃b off,ra=some ⟨b,off,none⟩)(hrl:r.ids.length<=1000):
 Calls Tryz.prog 145 #[.agg #[za ra R.length rc,za la ln lc],.agg #[zc zb r.v,za r.a r.ids.length r.c]] w fun e w'=>∃sl,e=.returned (.agg #[sl,za la ln lc])/\Below w.heap.size w w'/\w'.ownsRow w.heap.size 80 2 sl (wrL R r).length (zg5 (wrL R r)):=by
 have HR:=za4 hR;have HS:=za4 hS;have HRA:Hid _:=hra;clear hR hS hra;obtain⟨n,HN⟩:=nmd R.length;rw[HN.X]at hn⊢;have HWL:Hid (∀k,y26 R r.v k->wrL R r=R.take k++((if r.ids=[]then []else [r])++R.drop (k+yr7 R r.v k))):=fun k hk=>y98 HS.X hk;obtain⟨L9,HL9⟩:=nmd (wrL R r);rw[HL9.X]at HWL⊢;obtain⟨xv,xa,xids,xc⟩:=r;simp only at hrl HWL⊢;obtain⟨xl,HXL⟩:=nmd xids.length;rw[HXL.X]at hrl⊢;have Q0:Hid (WQ w (((w.alloc (zd #[za ra n rc,za la ln lc] 33)).alloc (zd #[zc zb xv,za xa xl xc] 80)).alloc (zd #[za none 0 0,za none 0 0] 33)) ra la n rc ln lc xv xa xl xc):=by
  refine⟨((zK _).alloc (by simp) _).alloc (by simp;omega) _,?_,?_,?_⟩
  ·exact(yY _ _ (by simp;omega)).trans (xb _ _ _)
  ·exact(yY _ _ (by simp)).trans (y8 _ _ _)
  ·have:=zN ((w.alloc (zd #[za ra n rc,za la ln lc] 33)).alloc (zd #[zc zb xv,za xa xl xc] 80)) (zd #[za none 0 0,za none 0 0] 33)
   simpa using this
 have FR:=z61 ra la rc ln lc R xv _ (HR.X.below Q0.X.b) (by rw[HN.X];omega) HS.X;rw[HN.X]at FR;obtain⟨p0,p1⟩:=za1 Q0.X.p;obtain⟨r0,r1⟩:=za1 Q0.X.r;go_enter Tryz.func145,Tryz.ntmps145
 go_wp2_with fail
 generalize((w.alloc (zd #[za ra n rc,za la ln lc] 33)).alloc (zd #[zc zb xv,za xa xl xc] 80)).alloc (zd #[za none 0 0,za none 0 0] 33)=W0 at*;refine FR.mono ?_;rintro e w1 ⟨k,rfl,hk,hb⟩;have HK:=za4 hk;have hkn:k<=n:=by rw[<-HN.X];exact hk.le
 have Q1:Hid _:=Q0.X.below (y7 Q0.X.size (zQ _)) hb;clear hk hb FR p0 p1 r0 r1 Q0;obtain⟨p0,p1⟩:=za1 Q1.X.p;have CL:=yH9 ra rc n R w1 (HR.X.below Q1.X.b) HN.X (by omega) (by rw[<-HN.X];exact HRA.X);obtain⟨f,HF⟩:=nmd (yn9 R xv k);rw[HF.X]
 go_wp2_with fail
 refine CL.mono ?_;rintro e w2 ⟨sl,rfl,hb,ho⟩;obtain⟨sa,sc,e⟩:=zp4 ho;subst e;have Q2:Hid _:=Q1.X.below Q1.X.size hb;have O2:=za4 ho;have hs1:Hid _:=Q1.X.size;have HBS:Hid _:=hb.size;clear hb ho CL p0 p1 Q1;cases f
 ·have HFN:Hid (yr7 R xv k=0):=by show _=_;unfold yr7;rw[zW (by rw[HF.X];simp)]
  obtain⟨m,HM⟩:=nmd n;have hmn:n=m:=HM.X;have hkm:k<=m:=by omega
  rw[hmn];have HB2:Hid _:=HBS.X;have Q3:=Q2;have O3:Hid (w2.ownsRow w1.heap.size 80 2 (za sa m sc) m (zg5 (R.take k++R.drop (k+0)))):=by
   rw[Nat.add_zero,qH,<-hmn];exact O2.X
  clear Q2 O2;have HS3:Hid ((R.take k++R.drop (k+0)).length=m):=by show _=_;rw[xU,zZ,x7,HN.X];omega
  obtain⟨p0,p1⟩:=za1 Q3.X.p;obtain⟨r0,r1⟩:=za1 Q3.X.r;obtain⟨o0,o1⟩:=za1 Q3.X.o;have of3:=fun i=>yU _ _ i _ _ Q3.X.o;by_cases hz:xl=0
  ·have HE:Hid (L9=R.take k++R.drop (k+0)):=by
    have h1:=HWL.X k HK.X;have h2:xids=[]:=qz.1 (HXL.X.trans hz);rw[zV h2,HFN.X,yo]at h1;exact h1
   subst hz;go_wp2;refine yX (v:=.agg #[za sa m sc,za la ln lc]) (by simp[results,Tryz.results145,go_sem,o0,o1]) rfl ⟨_,rfl,?_,?_⟩
   ·repeat(first|with_reducible exact Q3.X.b|refine xd ?_ (by simp<;>omega) _)
   ·rw[HE.X,HS3.X]
    exact zc4 (zC6 O3.X (by have:=hs1.X;omega)) (by have:=hs1.X;omega)
  ·have HE:Hid (L9=(R.take k++R.drop (k+0)).take k++([⟨xv,xa,xids,xc⟩]++(R.take k++R.drop (k+0)).drop k)):=by
    have h1:=HWL.X k HK.X;have h2:¬(xids=[]):=fun e=>hz (by rw[<-HXL.X,e];rfl)
    have h3:(R.take k).length=k:=by rw[zZ,HN.X];omega
    rw[zW h2,HFN.X]at h1;show _=_;rw[h1,List.take_left' h3,List.drop_left' h3]
   have HV:Hid ((w2.alloc (zd #[zc zb xv,za xa xl xc] 80)).heap[w2.heap.size]? =some (.cells [zc zb xv,za xa xl xc].toArray 80 (0,0))):=zN _ _;have hbw:=HB2.X;have INS:=y15 (za sa m sc) k w2.heap.size w1.heap.size m (zg5 (R.take k++R.drop (k+0))) [zc zb xv,za xa xl xc] (w2.alloc (zd #[zc zb xv,za xa xl xc] 80)) (by rw[ze5,HS3.X]) rfl (zC1 _) (by intro v hv;simp at hv;rcases hv with rfl|rfl<;>rfl) (O3.X.alloc _) (by simp;omega) HV.X (fun e=>by have:=(O3.X.lt _ e).2;omega) hkm (by omega);have hxI:(0:Int)<(xl:Int):=by omega
   have QA:Hid (WQ w (w2.alloc (zd #[zc zb xv,za xa xl xc] 80)) ra la n rc ln lc xv xa xl xc):=Q3.X.below (y7 hs1.X hbw) ((yV _ _).alloc (by omega) _);clear hbw
   go_wp2_with fail
   refine INS.mono ?_;rintro e w5 ⟨sl5,rfl,hb5,ho5⟩;obtain⟨sa5,sc5,e⟩:=zp4 ho5;subst e;have Q5:Hid _:=QA.X.below hs1.X hb5;have O5:Hid (w5.ownsRow w1.heap.size 80 2 (za sa5 (m+1) sc5) L9.length (zg5 L9)):=by
    have e1:zT9 (zg5 (R.take k++R.drop (k+0))) (k*2) [zc zb xv,za xa xl xc]=zg5 L9:=by
     rw[HE.X];unfold zT9;rw[zF3,zF9,zk1,zk1];have:zg5 [⟨xv,xa,xids,xc⟩]=[zc zb xv,za xa xl xc]:=by simp[zg5,zq8,HXL.X]
     rw[this]
    have e2:L9.length=m+1:=by
     have:=congrArg zj e1;rw[ze5,zw0 (by rw[ze5,HS3.X];omega),ze5,HS3.X]at this;simp at this;omega
    rw[e1]at ho5;rw[e2];exact ho5
   clear hb5 ho5 INS HV QA p0 p1 r0 r1 o0 o1 of3;obtain⟨p0,p1⟩:=za1 Q5.X.p;obtain⟨o0,o1⟩:=za1 Q5.X.o;have of3:=fun i=>yU _ _ i _ _ Q5.X.o;go_wp2;refine yX (v:=.agg #[za sa5 (m+1) sc5,za la ln lc]) (by simp[results,Tryz.results145,go_sem,o0,o1]) rfl ⟨_,rfl,?_,?_⟩
   ·repeat(first|with_reducible exact Q5.X.b|refine xd ?_ (by simp<;>omega) _)
   ·exact zc4 (zC6 O5.X (by have:=hs1.X;omega)) (by have:=hs1.X;omega)
 ·have HFN:Hid (yr7 R xv k=1):=by show _=_;unfold yr7;rw[zV HF.X]
  have hkl:k<n:=by rw[<-HN.X];exact(zX HF.X).1
  obtain⟨m,rfl⟩:∃m,n=m+1:=⟨n - 1,by omega⟩;have hkm:k<=m:=by omega
  rcases own_kinds O2.X with⟨_,h0⟩|⟨g,c9,e,-,-⟩
  ·omega
  simp only[xW,qg]at e;obtain⟨rfl,rfl⟩:=e;have DEL:=yD2 g sc k w1.heap.size (m+1) (zg5 R) w2 (by rw[ze5,HN.X]) (zC1 _) O2.X hkl (by omega);have e9:(zg5 R).take (k*2)++(zg5 R).drop ((k+1)*2)=zg5 (R.take k++R.drop (k+1)):=by rw[zF3,zF9,zk1]
  rw[e9,yO]at DEL;have hw9:IntKind.i64.wrap ((k:Int)+1)=(k:Int)+1:=by rw[xk];omega
  clear e9
  go_wp2_with fail
  refine DEL.mono ?_;rintro e w3 ⟨rfl,hb,ho⟩;have Q3:Hid _:=Q2.X.below hs1.X hb;have O3:=za4 ho;have HB3:Hid _:=y7 HBS.X hb.size;clear hb ho Q2 O2 DEL hw9 HBS;have HS3:Hid ((R.take k++R.drop (k+1)).length=m):=by show _=_;rw[xU,zZ,x7,HN.X];omega
  obtain⟨p0,p1⟩:=za1 Q3.X.p;obtain⟨r0,r1⟩:=za1 Q3.X.r;obtain⟨o0,o1⟩:=za1 Q3.X.o;have of3:=fun i=>yU _ _ i _ _ Q3.X.o;by_cases hz:xl=0
  ·have HE:Hid (L9=R.take k++R.drop (k+1)):=by
    have h1:=HWL.X k HK.X;have h2:xids=[]:=qz.1 (HXL.X.trans hz);rw[zV h2,HFN.X,yo]at h1;exact h1
   subst hz;go_wp2;refine yX (v:=.agg #[za (some ⟨g,0,none⟩) m sc,za la ln lc]) (by simp[results,Tryz.results145,go_sem,o0,o1]) rfl ⟨_,rfl,?_,?_⟩
   ·repeat(first|with_reducible exact Q3.X.b|refine xd ?_ (by simp<;>omega) _)
   ·rw[HE.X,HS3.X]
    exact zc4 (zC6 O3.X (by have:=hs1.X;omega)) (by have:=hs1.X;omega)
  ·have HE:Hid (L9=(R.take k++R.drop (k+1)).take k++([⟨xv,xa,xids,xc⟩]++(R.take k++R.drop (k+1)).drop k)):=by
    have h1:=HWL.X k HK.X;have h2:¬(xids=[]):=fun e=>hz (by rw[<-HXL.X,e];rfl)
    have h3:(R.take k).length=k:=by rw[zZ,HN.X];omega
    rw[zW h2,HFN.X]at h1;show _=_;rw[h1,List.take_left' h3,List.drop_left' h3]
   have HV:Hid ((w3.alloc (zd #[zc zb xv,za xa xl xc] 80)).heap[w3.heap.size]? =some (.cells [zc zb xv,za xa xl xc].toArray 80 (0,0))):=zN _ _;have hbw:=HB3.X;have INS:=y15 (za (some ⟨g,0,none⟩) m sc) k w3.heap.size w1.heap.size m (zg5 (R.take k++R.drop (k+1))) [zc zb xv,za xa xl xc] (w3.alloc (zd #[zc zb xv,za xa xl xc] 80)) (by rw[ze5,HS3.X]) rfl (zC1 _) (by intro v hv;simp at hv;rcases hv with rfl|rfl<;>rfl) (O3.X.alloc _) (by simp;omega) HV.X (fun e=>by have:=(O3.X.lt _ e).2;omega) hkm (by omega);have hxI:(0:Int)<(xl:Int):=by omega
   have QA:Hid (WQ w (w3.alloc (zd #[zc zb xv,za xa xl xc] 80)) ra la (m+1) rc ln lc xv xa xl xc):=Q3.X.below (y7 hs1.X hbw) ((yV _ _).alloc (by omega) _);clear hbw
   go_wp2_with fail
   refine INS.mono ?_;rintro e w5 ⟨sl5,rfl,hb5,ho5⟩;obtain⟨sa5,sc5,e⟩:=zp4 ho5;subst e;have Q5:Hid _:=QA.X.below hs1.X hb5;have O5:Hid (w5.ownsRow w1.heap.size 80 2 (za sa5 (m+1) sc5) L9.length (zg5 L9)):=by
    have e1:zT9 (zg5 (R.take k++R.drop (k+1))) (k*2) [zc zb xv,za xa xl xc]=zg5 L9:=by
     rw[HE.X];unfold zT9;rw[zF3,zF9,zk1,zk1];have:zg5 [⟨xv,xa,xids,xc⟩]=[zc zb xv,za xa xl xc]:=by simp[zg5,zq8,HXL.X]
     rw[this]
    have e2:L9.length=m+1:=by
     have:=congrArg zj e1;rw[ze5,zw0 (by rw[ze5,HS3.X];omega),ze5,HS3.X]at this;simp at this;omega
    rw[e1]at ho5;rw[e2];exact ho5
   clear hb5 ho5 INS HV QA p0 p1 r0 r1 o0 o1 of3;obtain⟨p0,p1⟩:=za1 Q5.X.p;obtain⟨o0,o1⟩:=za1 Q5.X.o;have of3:=fun i=>yU _ _ i _ _ Q5.X.o;go_wp2;refine yX (v:=.agg #[za sa5 (m+1) sc5,za la ln lc]) (by simp[results,Tryz.results145,go_sem,o0,o1]) rfl ⟨_,rfl,?_,?_⟩
   ·repeat(first|with_reducible exact Q5.X.b|refine xd ?_ (by simp<;>omega) _)
   ·exact zc4 (zC6 O5.X (by have:=hs1.X;omega)) (by have:=hs1.X;omega)
