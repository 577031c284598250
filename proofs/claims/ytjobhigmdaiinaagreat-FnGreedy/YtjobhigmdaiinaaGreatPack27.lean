import Derived.Test.YtjobhigmdaiinaaGreatPack17
import Derived.Test.YtjobhigmdaiinaaGreatPack24
import Derived.Test.YtjobhigmdaiinaaGreatPack25
import Derived.Test.YtjobhigmdaiinaaGreatInsOne
namespace Go.Proofs.YtjobhigmdaiinaaGreat
open Go.RowKit Go.Lib
set_option maxHeartbeats 2000000 in
theorem zL2(p q:Nat)(at_ x:Int)(bi:Option Addr)(c2:Nat)(ids:List Int)(w:World)(hp:w.cell? ⟨p,0,none⟩=some (.int .i64 at_))(hq:w.cell? ⟨q,0,none⟩=some (.int .i64 x))(hI:za0 w bi ids)(hl:ids.length<=12)(hbi:(bi=none/\ids.length=0)∨∃b off,bi=some ⟨b,off,none⟩):
 Calls Tryz.prog 80 #[.slice bi ids.length c2,.pointer (some ⟨p,0,none⟩),.pointer (some ⟨q,0,none⟩)] w (yp7 w (inB at_ 0 (ids.length:Int)) (insL ids at_.toNat x)):=by
 have HI:Hid (za0 w bi ids):=hI;have HBI:Hid _:=hbi;clear hI hbi;obtain⟨v,HV⟩:=nmd (inB at_ 0 (ids.length:Int));rw[HV.out];cases v
 ·go_enter Tryz.func80,Tryz.ntmps80
  go_wp2_with(first|(go_at_call 44;refine(zJ9 at_ 0 (ids.length:Int) w false HV.out).mono ?_;rintro e w1 ⟨rfl,rfl⟩))
  go_ret2;exact⟨Below.refl _ _,.inl ⟨rfl,rfl⟩⟩
 ·have h1:=zd6 HV.out
  obtain⟨i,rfl⟩:∃i:Nat,at_=i:=⟨at_.toNat,by omega⟩;have hi:i<=ids.length:=by omega
  rw[show((i:Int)).toNat=i by omega];have HLI:Hid _:=zp0 x hi;obtain⟨n,HN⟩:=nmd ids.length;rw[HN.out]at hl hi HLI HBI⊢;have HCL:Hid (∀W:World,Below w.heap.size w W->Calls Tryz.prog 53 #[.slice bi n c2] W fun e w'=>∃sl,e=.returned sl/\Below W.heap.size W w'/\w'.ownsRow W.heap.size 2 1 sl n (ids.map (Value.int .i64))):=fun W hW=>z68 bi c2 n ids W (HI.out.below hW) HN.out (by omega) HBI.out
  go_enter Tryz.func80,Tryz.ntmps80
  go_wp2_with(first|(go_at_call 44;refine(zJ9 i 0 (n:Int) w true (by rw[<-HN.out];exact HV.out)).mono ?_;rintro e w1 ⟨rfl,rfl⟩))
  have KS:Hid (∀W:World,Below w1.heap.size w1 W->W.cell? ⟨p,0,none⟩=some (.int .i64 (i:Int))/\W.cell? ⟨q,0,none⟩=some (.int .i64 x)):=fun W hW=>⟨(hW.cell (p:=⟨p,0,none⟩) (block_lt_of_cell hp)).trans hp,(hW.cell (p:=⟨q,0,none⟩) (block_lt_of_cell hq)).trans hq⟩;have k0:=KS.out _ (Below.refl _ _).drew;have k1:=KS.out _ ((Below.refl _ _).alloc (Nat.le_refl _) (Obj.cells #[Value.int .i64 x] 2)).drew
  go_region_held3 (fun W=>W.cell? ⟨p,0,none⟩=some (.int .i64 (i:Int))/\W.cell? ⟨q,0,none⟩=some (.int .i64 x)) (first|with_reducible exact k0|with_reducible exact k1|with_reducible exact kS|with_reducible exact kB|go_keep) ((first
   |(go_at_call 53
     with_reducible refine(HCL.out w1.drew (Below.refl _ _).drew).mono ?_
     rintro e w2 ⟨sl,rfl,hb,ho⟩;have B2:Hid (Below w1.heap.size w1 w2):=(Below.refl _ _).drew.trans hb;have O2:Hid ((w2.alloc (Obj.cells #[Value.int .i64 x] 2)).ownsRow w1.heap.size 2 1 sl n (ids.map (Value.int .i64))):=ho.alloc _;have V2:Hid ((w2.alloc (Obj.cells #[Value.int .i64 x] 2)).heap[w2.heap.size]? =some (.cells #[.int .i64 x] 2 (0,0))):=heap_alloc_new _ _;have N2:Hid (sl.ownBlock≠some w2.heap.size):=fun e9=>by have:=(ho.lt _ e9).2;omega
     have B2':Hid (Below w1.heap.size w1 (w2.alloc (Obj.cells #[Value.int .i64 x] 2))):=B2.out.alloc B2.out.size _;have kS:=KS.out _ B2.out;have kB:=KS.out _ B2'.out;clear hb ho)
   |(go_at_call 53
     with_reducible refine(HCL.out (w1.alloc (Obj.cells #[Value.int .i64 x] 2)).drew ((Below.refl _ _).alloc (Nat.le_refl _) _).drew).mono ?_
     rintro e w2 ⟨sl,rfl,hb,ho⟩;have B2':Hid _:=((Below.refl _ _).alloc (Nat.le_refl _) _).drew.trans (hb.mono (by simp));have O2:Hid (w2.ownsRow w1.heap.size 2 1 sl n (ids.map (Value.int .i64))):=zb7 ho (by simp);have V2:Hid _:=za1 hb (by simp) (heap_alloc_new _ _);have N2:Hid (sl.ownBlock≠some w1.heap.size):=fun e9=>by have h9:=(ho.lt _ e9).1;simp at h9;omega
     have kS:=KS.out _ B2'.out;clear hb ho)
   |(go_at_call 81
     with_reducible refine(zA3 sl i w2.heap.size w1.heap.size n x ids (w2.alloc (Obj.cells #[Value.int .i64 x] 2)) HN.out O2.out B2'.out.size V2.out N2.out hi (by omega)).mono ?_
     rintro e w3 ⟨g3,c3,rfl,hb,ho⟩;have B3:Hid _:=B2'.out.trans hb;have O3:Hid (w3.ownsRow w1.heap.size 2 1 (.slice (some ⟨g3,0,none⟩) (n+1) c3) (n+1) ((insL ids i x).map (Value.int .i64))):=ho;have kS:=KS.out _ B3.out;clear hb ho)
   |(go_at_call 81
     with_reducible refine(zA3 sl i w1.heap.size w1.heap.size n x ids w2 HN.out O2.out B2'.out.size V2.out N2.out hi (by omega)).mono ?_
     rintro e w3 ⟨g3,c3,rfl,hb,ho⟩;have B3:Hid _:=B2'.out.trans hb;have O3:Hid (w3.ownsRow w1.heap.size 2 1 (.slice (some ⟨g3,0,none⟩) (n+1) c3) (n+1) ((insL ids i x).map (Value.int .i64))):=ho;have kS:=KS.out _ B3.out;clear hb ho)))
  all_goals
   go_wp2;go_ret2;refine⟨B3.out,.inr ⟨rfl,g3,c3,?_,?_⟩⟩
   ·rw[HLI.out];rfl
   ·rw[HLI.out]
    exact O3.out
end Go.Proofs.YtjobhigmdaiinaaGreat
namespace Go.Proofs.YtjobhigmdaiinaaGreat
open Go.RowKit
theorem ze6(x y:Int)(w:World):
 Calls Tryz.prog 37 #[.int .i64 x,.int .i64 y] w fun e w'=>∃p q,e=.returned (.func (.func 80) #[] #[.pointer (some ⟨p,0,none⟩),.pointer (some ⟨q,0,none⟩)])/\Below w.heap.size w w'/\w'.cell? ⟨p,0,none⟩=some (.int .i64 y)/\w'.cell? ⟨q,0,none⟩=some (.int .i64 x):=by
 have hmf:∀(fn:Fn) (first cap:Array Value) (w:World),(Instr.makeFunc fn first cap).run Tryz.prog w=.ok (.func fn first cap) w:=fun _ _ _ _=>rfl;have h1:=cell_of_row _ _ 0 _ _ _ (heap_alloc2_old w (.cells #[Value.int .i64 x] 2) (.cells #[Value.int .i64 y] 2));have h2:=cell_of_row _ _ 0 _ _ _ (heap_alloc2_new w (.cells #[Value.int .i64 x] 2) (.cells #[Value.int .i64 y] 2));have H1:Hid _:=h1;have H2:Hid _:=h2;clear h1 h2;go_enter Tryz.func37,Tryz.ntmps37;go_wp2;go_ret;exact⟨w.heap.size+1,w.heap.size,rfl,((Below.refl _ _).alloc (Nat.le_refl _) _).alloc (by simp) _,H2.out,H1.out⟩
end Go.Proofs.YtjobhigmdaiinaaGreat
