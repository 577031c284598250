import Derived.Test.YtjobhigmdaiinaaGreatPack17
import Derived.Test.YtjobhigmdaiinaaGreatPack18
import Derived.Test.YtjobhigmdaiinaaGreatDeleteR
import Derived.Test.YtjobhigmdaiinaaGreatCloneR
namespace Go.Proofs.YtjobhigmdaiinaaGreat
open Go.RowKit
structure WQ(w W:World)(ra la:Option Addr)(n rc ln lc:Nat)(xv:Int)(xa:Option Addr)(xl xc:Nat):Prop where
 b:Below w.heap.size w W
 p:W.heap[w.heap.size]? =some (.cells #[.slice ra n rc,.slice la ln lc] 33 (0,0))
 r:W.heap[w.heap.size+1]? =some (.cells #[.int .i64 xv,.slice xa xl xc] 43 (0,0))
 o:W.heap[w.heap.size+2]? =some (.cells #[.slice none 0 0,.slice none 0 0] 33 (0,0))
theorem WQ.below{w W W':World}{ra la:Option Addr}{n rc ln lc:Nat}{xv:Int}{xa:Option Addr}{xl xc base:Nat}(h:WQ w W ra la n rc ln lc xv xa xl xc)(hs:w.heap.size+3<=base)(hb:Below base W W'):WQ w W' ra la n rc ln lc xv xa xl xc:=
 ⟨h.b.trans (hb.mono (by omega)),(za1 hb (by omega) h.p),(za1 hb (by omega) h.r),(za1 hb (by omega) h.o)⟩
theorem WQ.size{w W:World}{ra la:Option Addr}{n rc ln lc:Nat}{xv:Int}{xa:Option Addr}{xl xc:Nat}(h:WQ w W ra la n rc ln lc xv xa xl xc):w.heap.size+3<=W.heap.size:=za3 h.o
theorem z28{w:World}{base k b:Nat}{v u1 u2:Value}{e:TypeId}{size:Nat}{xs:List Value}(h:w.ownsRow base e size v k xs)(hb:b<base):((w.setCell ⟨b,0,none⟩ u1).setCell ⟨b,1,none⟩ u2).ownsRow base e size v k xs:=ownsRow_setCell_below (ownsRow_setCell_below h hb u1) hb u2
set_option maxRecDepth 10000 in
set_option maxHeartbeats 2000000 in
theorem zC2(ra la:Option Addr)(rc ln lc:Nat)(R:List RT)(r:RT)(w:World)(hR:za6 w ra R)(hn:R.length<=100)(hS:ze1 R)(hra:(ra=none/\R.length=0)∨∃b off,ra=some ⟨b,off,none⟩)(hrl:r.ids.length<=1000):
 Calls Tryz.prog 63 #[.agg #[.slice ra R.length rc,.slice la ln lc],.agg #[.int .i64 r.v,.slice r.a r.ids.length r.c]] w fun e w'=>∃sl,e=.returned (.agg #[sl,.slice la ln lc])/\Below w.heap.size w w'/\w'.ownsRow w.heap.size 43 2 sl (wrL R r).length (zg9 (wrL R r)):=by
 have HR:Hid (za6 w ra R):=hR;have HS:Hid (ze1 R):=hS;have HRA:Hid _:=hra;clear hR hS hra;obtain⟨n,HN⟩:=nmd R.length;rw[HN.out]at hn⊢;have HWL:Hid (∀k,yg5 R r.v k->wrL R r=R.take k++((if r.ids=[]then []else [r])++R.drop (k+yh2 R r.v k))):=fun k hk=>yt4 HS.out hk;obtain⟨L9,HL9⟩:=nmd (wrL R r);rw[HL9.out]at HWL⊢;obtain⟨xv,xa,xids,xc⟩:=r;simp only at hrl HWL⊢;obtain⟨xl,HXL⟩:=nmd xids.length;rw[HXL.out]at hrl⊢;have Q0:Hid (WQ w (((w.alloc (.cells #[.slice ra n rc,.slice la ln lc] 33)).alloc (.cells #[.int .i64 xv,.slice xa xl xc] 43)).alloc (.cells #[.slice none 0 0,.slice none 0 0] 33)) ra la n rc ln lc xv xa xl xc):=by
  refine⟨(((Below.refl _ _).alloc (Nat.le_refl _) _).alloc (by simp) _).alloc (by simp;omega) _,?_,?_,?_⟩
  ·exact(heap_alloc_old _ _ (by simp;omega)).trans (heap_alloc2_old _ _ _)
  ·exact(heap_alloc_old _ _ (by simp)).trans (heap_alloc2_new _ _ _)
  ·have:=heap_alloc_new ((w.alloc (.cells #[.slice ra n rc,.slice la ln lc] 33)).alloc (.cells #[.int .i64 xv,.slice xa xl xc] 43)) (.cells #[.slice none 0 0,.slice none 0 0] 33)
   simpa using this
 have FR:=zy2 ra la rc ln lc R xv _ (HR.out.below Q0.out.b) (by rw[HN.out];omega) HS.out;rw[HN.out]at FR;obtain⟨p0,p1⟩:=za2 Q0.out.p;obtain⟨r0,r1⟩:=za2 Q0.out.r;go_enter Tryz.func63,Tryz.ntmps63
 go_wp2_with fail
 generalize((w.alloc (.cells #[.slice ra n rc,.slice la ln lc] 33)).alloc (.cells #[.int .i64 xv,.slice xa xl xc] 43)).alloc (.cells #[.slice none 0 0,.slice none 0 0] 33)=W0 at*;refine FR.mono ?_;rintro e w1 ⟨k,rfl,hk,hb⟩;have HK:Hid (yg5 R xv k):=hk;have hkn:k<=n:=by rw[<-HN.out];exact hk.le
 have Q1:Hid _:=Q0.out.below (Nat.le_trans Q0.out.size (Nat.le_refl _)) hb;clear hk hb FR p0 p1 r0 r1 Q0;obtain⟨p0,p1⟩:=za2 Q1.out.p;have CL:=yr8 ra rc n R w1 (HR.out.below Q1.out.b) HN.out (by omega) (by rw[<-HN.out];exact HRA.out);obtain⟨f,HF⟩:=nmd (zX2 R xv k);rw[HF.out]
 go_wp2_with fail
 refine CL.mono ?_;rintro e w2 ⟨sl,rfl,hb,ho⟩;obtain⟨sa,sc,e⟩:=zn4 ho;subst e;have Q2:Hid _:=Q1.out.below Q1.out.size hb;have O2:Hid (w2.ownsRow w1.heap.size 43 2 (.slice sa n sc) n (zg9 R)):=ho;have hs1:Hid _:=Q1.out.size;have HBS:Hid _:=hb.size;clear hb ho CL p0 p1 Q1;cases f
 ·have HFN:Hid (yh2 R xv k=0):=by show _=_;unfold yh2;rw[if_neg (by rw[HF.out];simp)]
  obtain⟨m,HM⟩:=nmd n;have hmn:n=m:=HM.out;have hkm:k<=m:=by omega
  rw[hmn];have HB2:Hid _:=HBS.out;have Q3:=Q2;have O3:Hid (w2.ownsRow w1.heap.size 43 2 (.slice sa m sc) m (zg9 (R.take k++R.drop (k+0)))):=by
   rw[Nat.add_zero,List.take_append_drop,<-hmn];exact O2.out
  clear Q2 O2;have HS3:Hid ((R.take k++R.drop (k+0)).length=m):=by show _=_;rw[List.length_append,List.length_take,List.length_drop,HN.out];omega
  obtain⟨p0,p1⟩:=za2 Q3.out.p;obtain⟨r0,r1⟩:=za2 Q3.out.r;obtain⟨o0,o1⟩:=za2 Q3.out.o;have of3:=fun i=>frozen_of_row _ _ i _ _ Q3.out.o;by_cases hz:xl=0
  ·have HE:Hid (L9=R.take k++R.drop (k+0)):=by
    have h1:=HWL.out k HK.out;have h2:xids=[]:=List.length_eq_zero_iff.1 (HXL.out.trans hz);rw[if_pos h2,HFN.out,List.nil_append]at h1;exact h1
   subst hz;go_wp2;refine bodyPost_ret (v:=.agg #[.slice sa m sc,.slice la ln lc]) (by simp[results,Tryz.results63,go_sem,o0,o1]) rfl ⟨_,rfl,?_,?_⟩
   ·repeat(first|with_reducible exact Q3.out.b|refine Below.setCell ?_ (by simp<;>omega) _)
   ·rw[HE.out,HS3.out]
    exact zb7 (z28 O3.out (by have:=hs1.out;omega)) (by have:=hs1.out;omega)
  ·have HE:Hid (L9=(R.take k++R.drop (k+0)).take k++([⟨xv,xa,xids,xc⟩]++(R.take k++R.drop (k+0)).drop k)):=by
    have h1:=HWL.out k HK.out;have h2:¬(xids=[]):=fun e=>hz (by rw[<-HXL.out,e];rfl)
    have h3:(R.take k).length=k:=by rw[List.length_take,HN.out];omega
    rw[if_neg h2,HFN.out]at h1;show _=_;rw[h1,List.take_left' h3,List.drop_left' h3]
   have HV:Hid ((w2.alloc (.cells #[.int .i64 xv,.slice xa xl xc] 43)).heap[w2.heap.size]? =some (.cells [Value.int .i64 xv,.slice xa xl xc].toArray 43 (0,0))):=heap_alloc_new _ _;have hbw:=HB2.out;have INS:=ye7 (.slice sa m sc) k w2.heap.size w1.heap.size m (zg9 (R.take k++R.drop (k+0))) [.int .i64 xv,.slice xa xl xc] (w2.alloc (.cells #[.int .i64 xv,.slice xa xl xc] 43)) (by rw[ze7,HS3.out]) rfl (z27 _) (by intro v hv;simp at hv;rcases hv with rfl|rfl<;>rfl) (O3.out.alloc _) (by simp;omega) HV.out (fun e=>by have:=(O3.out.lt _ e).2;omega) hkm (by omega);have hxI:(0:Int)<(xl:Int):=by omega
   have QA:Hid (WQ w (w2.alloc (.cells #[.int .i64 xv,.slice xa xl xc] 43)) ra la n rc ln lc xv xa xl xc):=Q3.out.below (Nat.le_trans hs1.out hbw) ((Below.refl _ _).alloc (by omega) _);clear hbw
   go_wp2_with fail
   refine INS.mono ?_;rintro e w5 ⟨sl5,rfl,hb5,ho5⟩;obtain⟨sa5,sc5,e⟩:=zn4 ho5;subst e;have Q5:Hid _:=QA.out.below hs1.out hb5;have O5:Hid (w5.ownsRow w1.heap.size 43 2 (.slice sa5 (m+1) sc5) L9.length (zg9 L9)):=by
    have e1:zK7 (zg9 (R.take k++R.drop (k+0))) (k*2) [.int .i64 xv,.slice xa xl xc]=zg9 L9:=by
     rw[HE.out];unfold zK7;rw[z62,z45,zl1,zl1];have:zg9 [⟨xv,xa,xids,xc⟩]=[.int .i64 xv,.slice xa xl xc]:=by simp[zg9,zm5,HXL.out]
     rw[this]
    have e2:L9.length=m+1:=by
     have:=congrArg List.length e1;rw[ze7,zp1 (by rw[ze7,HS3.out];omega),ze7,HS3.out]at this;simp at this;omega
    rw[e1]at ho5;rw[e2];exact ho5
   clear hb5 ho5 INS HV QA p0 p1 r0 r1 o0 o1 of3;obtain⟨p0,p1⟩:=za2 Q5.out.p;obtain⟨o0,o1⟩:=za2 Q5.out.o;have of3:=fun i=>frozen_of_row _ _ i _ _ Q5.out.o;go_wp2;refine bodyPost_ret (v:=.agg #[.slice sa5 (m+1) sc5,.slice la ln lc]) (by simp[results,Tryz.results63,go_sem,o0,o1]) rfl ⟨_,rfl,?_,?_⟩
   ·repeat(first|with_reducible exact Q5.out.b|refine Below.setCell ?_ (by simp<;>omega) _)
   ·exact zb7 (z28 O5.out (by have:=hs1.out;omega)) (by have:=hs1.out;omega)
 ·have HFN:Hid (yh2 R xv k=1):=by show _=_;unfold yh2;rw[if_pos HF.out]
  have hkl:k<n:=by rw[<-HN.out];exact(of_decide_eq_true HF.out).1
  obtain⟨m,rfl⟩:∃m,n=m+1:=⟨n - 1,by omega⟩;have hkm:k<=m:=by omega
  rcases own_kinds O2.out with⟨_,h0⟩|⟨g,c9,e,-,-⟩
  ·omega
  simp only[Value.slice.injEq,true_and]at e;obtain⟨rfl,rfl⟩:=e;have DEL:=yo0 g sc k w1.heap.size (m+1) (zg9 R) w2 (by rw[ze7,HN.out]) (z27 _) O2.out hkl (by omega);have e9:(zg9 R).take (k*2)++(zg9 R).drop ((k+1)*2)=zg9 (R.take k++R.drop (k+1)):=by rw[z62,z45,zl1]
  rw[e9,Nat.add_sub_cancel]at DEL;have hw9:IntKind.i64.wrap ((k:Int)+1)=(k:Int)+1:=by rw[IntKind.wrap_i64];omega
  clear e9
  go_wp2_with fail
  refine DEL.mono ?_;rintro e w3 ⟨rfl,hb,ho⟩;have Q3:Hid _:=Q2.out.below hs1.out hb;have O3:Hid (w3.ownsRow w1.heap.size 43 2 (.slice (some ⟨g,0,none⟩) m sc) m (zg9 (R.take k++R.drop (k+1)))):=ho;have HB3:Hid _:=Nat.le_trans HBS.out hb.size;clear hb ho Q2 O2 DEL hw9 HBS;have HS3:Hid ((R.take k++R.drop (k+1)).length=m):=by show _=_;rw[List.length_append,List.length_take,List.length_drop,HN.out];omega
  obtain⟨p0,p1⟩:=za2 Q3.out.p;obtain⟨r0,r1⟩:=za2 Q3.out.r;obtain⟨o0,o1⟩:=za2 Q3.out.o;have of3:=fun i=>frozen_of_row _ _ i _ _ Q3.out.o;by_cases hz:xl=0
  ·have HE:Hid (L9=R.take k++R.drop (k+1)):=by
    have h1:=HWL.out k HK.out;have h2:xids=[]:=List.length_eq_zero_iff.1 (HXL.out.trans hz);rw[if_pos h2,HFN.out,List.nil_append]at h1;exact h1
   subst hz;go_wp2;refine bodyPost_ret (v:=.agg #[.slice (some ⟨g,0,none⟩) m sc,.slice la ln lc]) (by simp[results,Tryz.results63,go_sem,o0,o1]) rfl ⟨_,rfl,?_,?_⟩
   ·repeat(first|with_reducible exact Q3.out.b|refine Below.setCell ?_ (by simp<;>omega) _)
   ·rw[HE.out,HS3.out]
    exact zb7 (z28 O3.out (by have:=hs1.out;omega)) (by have:=hs1.out;omega)
  ·have HE:Hid (L9=(R.take k++R.drop (k+1)).take k++([⟨xv,xa,xids,xc⟩]++(R.take k++R.drop (k+1)).drop k)):=by
    have h1:=HWL.out k HK.out;have h2:¬(xids=[]):=fun e=>hz (by rw[<-HXL.out,e];rfl)
    have h3:(R.take k).length=k:=by rw[List.length_take,HN.out];omega
    rw[if_neg h2,HFN.out]at h1;show _=_;rw[h1,List.take_left' h3,List.drop_left' h3]
   have HV:Hid ((w3.alloc (.cells #[.int .i64 xv,.slice xa xl xc] 43)).heap[w3.heap.size]? =some (.cells [Value.int .i64 xv,.slice xa xl xc].toArray 43 (0,0))):=heap_alloc_new _ _;have hbw:=HB3.out;have INS:=ye7 (.slice (some ⟨g,0,none⟩) m sc) k w3.heap.size w1.heap.size m (zg9 (R.take k++R.drop (k+1))) [.int .i64 xv,.slice xa xl xc] (w3.alloc (.cells #[.int .i64 xv,.slice xa xl xc] 43)) (by rw[ze7,HS3.out]) rfl (z27 _) (by intro v hv;simp at hv;rcases hv with rfl|rfl<;>rfl) (O3.out.alloc _) (by simp;omega) HV.out (fun e=>by have:=(O3.out.lt _ e).2;omega) hkm (by omega);have hxI:(0:Int)<(xl:Int):=by omega
   have QA:Hid (WQ w (w3.alloc (.cells #[.int .i64 xv,.slice xa xl xc] 43)) ra la (m+1) rc ln lc xv xa xl xc):=Q3.out.below (Nat.le_trans hs1.out hbw) ((Below.refl _ _).alloc (by omega) _);clear hbw
   go_wp2_with fail
   refine INS.mono ?_;rintro e w5 ⟨sl5,rfl,hb5,ho5⟩;obtain⟨sa5,sc5,e⟩:=zn4 ho5;subst e;have Q5:Hid _:=QA.out.below hs1.out hb5;have O5:Hid (w5.ownsRow w1.heap.size 43 2 (.slice sa5 (m+1) sc5) L9.length (zg9 L9)):=by
    have e1:zK7 (zg9 (R.take k++R.drop (k+1))) (k*2) [.int .i64 xv,.slice xa xl xc]=zg9 L9:=by
     rw[HE.out];unfold zK7;rw[z62,z45,zl1,zl1];have:zg9 [⟨xv,xa,xids,xc⟩]=[.int .i64 xv,.slice xa xl xc]:=by simp[zg9,zm5,HXL.out]
     rw[this]
    have e2:L9.length=m+1:=by
     have:=congrArg List.length e1;rw[ze7,zp1 (by rw[ze7,HS3.out];omega),ze7,HS3.out]at this;simp at this;omega
    rw[e1]at ho5;rw[e2];exact ho5
   clear hb5 ho5 INS HV QA p0 p1 r0 r1 o0 o1 of3;obtain⟨p0,p1⟩:=za2 Q5.out.p;obtain⟨o0,o1⟩:=za2 Q5.out.o;have of3:=fun i=>frozen_of_row _ _ i _ _ Q5.out.o;go_wp2;refine bodyPost_ret (v:=.agg #[.slice sa5 (m+1) sc5,.slice la ln lc]) (by simp[results,Tryz.results63,go_sem,o0,o1]) rfl ⟨_,rfl,?_,?_⟩
   ·repeat(first|with_reducible exact Q5.out.b|refine Below.setCell ?_ (by simp<;>omega) _)
   ·exact zb7 (z28 O5.out (by have:=hs1.out;omega)) (by have:=hs1.out;omega)
end Go.Proofs.YtjobhigmdaiinaaGreat
