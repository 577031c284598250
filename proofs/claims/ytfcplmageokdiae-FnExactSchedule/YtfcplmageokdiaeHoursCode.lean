import Derived.Test.YtfcplmageokdiaeHome
import Derived.RangeFuncNested
import Derived.RangeFuncBound
import Derived.RangeFuncCalls
import Derived.RangeFuncLeaves
import Derived.Shelf.Abstract
import Derived.Shelf.RegionOpen
import Derived.OwnWalkIn
import Derived.TacticsInMore
import Derived.LoopNIn
import Derived.LoopIn
import Derived.Deep.Cut
namespace Go.Proofs.Ytfcplmageokdiae
open Go.RowKit Go.Shelf
attribute [local go_sem] Oper.semAt_some

/-- Inside hoursCode: the tour's box and the code's. -/
def HoursAt (w W : World) (ts : Array Value) (c : Int) : Prop :=
  Below w.heap.size w W ∧ W.heap[w.heap.size]? = some (.cells ts 88 (0, 0)) ∧ W.heap[w.heap.size + 1]? = some (.cells #[.int .i64 c] 2 (0, 0))
theorem HoursAt.new (w : World) (ts : Array Value) (c : Int) : HoursAt w ((w.alloc (.cells ts 88)).alloc (.cells #[.int .i64 c] 2)) ts c :=
  ⟨((Below.refl _ _).alloc (Nat.le_refl _) _).alloc (by simp) _, heap_alloc2_old _ _ _, heap_alloc2_new _ _ _⟩
theorem HoursAt.below {w W W' : World} {ts : Array Value} {c : Int} (h : HoursAt w W ts c) (hb : Below W.heap.size W W') : HoursAt w W' ts c :=
  ⟨h.1.trans (hb.mono h.1.size), below_row hb (row_lt h.2.1) h.2.1, below_row hb (row_lt h.2.2) h.2.2⟩
theorem HoursAt.set {w W : World} {ts : Array Value} {c : Int} (h : HoursAt w W ts c) (c' : Int) : HoursAt w (W.setCell ⟨w.heap.size + 1, 0, none⟩ (.int .i64 c')) ts c' :=
  ⟨h.1.setCell (by simp) _, row_set' h.2.1 (by omega), heap_setCell_same _ _ _ _ _ _ h.2.2⟩
theorem HoursAt.own {β : Type} (w : World) (ts : Array Value) (c : Int) (B : Nat) (hB : w.heap.size ≤ B) : OwnFrom B (fun (_ : β) W => HoursAt w W ts c) := fun _ W W' row hs hg hr =>
  ⟨ownFrom_below (Nat.le_refl _) hB () W W' row hs.1 hg hr, row_own (cs := fun _ : Unit => ts) () W W' row hs.2.1 hg hr, row_own (cs := fun _ : Unit => #[.int .i64 c]) () W W' row hs.2.2 hg hr⟩
theorem home_is (n v0 home v2 frm to : Int) (a ar : Option Addr) (cap m cr : Nat) (zs ros : List Int) (w : World) (d : Int) (hd : homeV n zs ros m home frm = d) (hm : matB n zs = true) (hA : IntsAt w a zs) (hR : IntsAt w ar ros) (hl : ros.length = m * 6) (hbd : RosBd n ros m) (hh : 0 ≤ home ∧ home < n) (hf : 0 ≤ frm ∧ frm ≤ 1000000) (hm12 : m ≤ 12) :
    Calls Try.prog 52 #[.agg #[.int .i64 n, .slice a zs.length cap, .int .i64 v0, .int .i64 home, .int .i64 v2, .int .i64 frm, .int .i64 to, .slice ar m cr]] w fun e w' => e = .returned (.int .i64 d) ∧ Below w.heap.size w w' := hd ▸ home_any n v0 home v2 frm to a ar cap m cr zs ros w hm hA hR hl hbd hh hf hm12
theorem all_in {m : Nat} {ys : List (Fin m)} {k : Nat} (h : ys.map Fin.val = List.range k) {j : Nat} (hj : j < k) : ∃ x, x ∈ ys ∧ x.val = j := by
  have : j ∈ ys.map Fin.val := by rw [h]; simpa using hj
  simpa using this

set_option maxRecDepth 100000 in
set_option maxHeartbeats 2000000 in
theorem hoursCode_any (n v0 home v2 frm to : Int) (a ar : Option Addr) (cap m cr : Nat) (zs ros : List Int) (w : World) (hm : matB n zs = true) (hA : IntsAt w a zs) (hR : IntsAt w ar ros) (hl : ros.length = m * 6) (hbd : RosBd n ros m) (hh : 0 ≤ home ∧ home < n) (hf : 0 ≤ frm ∧ frm ≤ 1000000) (hm12 : m ≤ 12) :
    Calls Try.prog 94 #[.agg #[.int .i64 n, .slice a zs.length cap, .int .i64 v0, .int .i64 home, .int .i64 v2, .int .i64 frm, .int .i64 to, .slice ar m cr]] w fun e w' => e = .returned (.int .i64 (hoursV n zs ros m home frm to)) ∧ Below w.heap.size w w' := by
  have HM : Hid (matB n zs = true) := hm
  have HA : Hid (IntsAt w a zs) := hA
  have HR : Hid (IntsAt w ar ros) := hR
  have HL : Hid (ros.length = m * 6) := hl
  have HBD : Hid (RosBd n ros m) := hbd
  have HH : Hid (0 ≤ home ∧ home < n) := hh
  have HF : Hid (0 ≤ frm ∧ frm ≤ 1000000) := hf
  have HX : Hid (HoursAt w ((w.alloc (Obj.cells #[Value.int IntKind.i64 n, Value.slice a zs.length cap, Value.int IntKind.i64 v0, Value.int IntKind.i64 home, Value.int IntKind.i64 v2, Value.int IntKind.i64 frm, Value.int IntKind.i64 to, Value.slice ar m cr] 88)).alloc (Obj.cells #[Value.int IntKind.i64 0] 2)) #[Value.int IntKind.i64 n, Value.slice a zs.length cap, Value.int IntKind.i64 v0, Value.int IntKind.i64 home, Value.int IntKind.i64 v2, Value.int IntKind.i64 frm, Value.int IntKind.i64 to, Value.slice ar m cr] 0) := HoursAt.new w _ 0
  clear hm hA hR hl hbd hh hf
  obtain ⟨r, HV⟩ : ∃ r, Hid (hoursV n zs ros m home frm to = r) := ⟨_, rfl⟩
  rw [HV.out]
  refine (callsIn_wide (n := 3)).1 ?_
  refine callsIn_of_wp_marks Try.func94 rfl trivial ?_ rfl
  simp only [Try.ntmps94, List.size_toArray, List.length_cons, List.length_nil, Nat.reduceAdd, Nat.reduceSub, Array.replicate_succ, Array.replicate_zero, List.push_toArray, List.append_toArray, List.nil_append, List.cons_append]
  refine wpIn_wide.2 ?_
  obtain ⟨t0, t1, t2, t3, t4, t5, t6, t7⟩ := cells8 HX.out.2.1
  go_wp2_with fail
  clear t0 t1 t2 t3 t4 t5 t6 t7
  have HZ : Hid (w.heap.size + 1 < ((w.alloc (Obj.cells #[Value.int IntKind.i64 n, Value.slice a zs.length cap, Value.int IntKind.i64 v0, Value.int IntKind.i64 home, Value.int IntKind.i64 v2, Value.int IntKind.i64 frm, Value.int IntKind.i64 to, Value.slice ar m cr] 88)).alloc (Obj.cells #[Value.int IntKind.i64 0] 2)).heap.size) := row_lt HX.out.2.2
  generalize ((w.alloc (Obj.cells #[Value.int IntKind.i64 n, Value.slice a zs.length cap, Value.int IntKind.i64 v0, Value.int IntKind.i64 home, Value.int IntKind.i64 v2, Value.int IntKind.i64 frm, Value.int IntKind.i64 to, Value.slice ar m cr] 88)).alloc (Obj.cells #[Value.int IntKind.i64 0] 2)) = W1 at *
  refine (visits_any n v0 home v2 frm to a ar cap m cr zs W1).mono ?_
  rintro e w2 ⟨rfl, rfl⟩
  have HX2 : Hid (HoursAt w (W1.alloc (.cells #[Value.int IntKind.i64 n, Value.slice a zs.length cap, Value.int IntKind.i64 v0, Value.int IntKind.i64 home, Value.int IntKind.i64 v2, Value.int IntKind.i64 frm, Value.int IntKind.i64 to, Value.slice ar m cr] 88)) #[Value.int IntKind.i64 n, Value.slice a zs.length cap, Value.int IntKind.i64 v0, Value.int IntKind.i64 home, Value.int IntKind.i64 v2, Value.int IntKind.i64 frm, Value.int IntKind.i64 to, Value.slice ar m cr] 0) := HX.out.below ((Below.refl _ _).alloc (Nat.le_refl _) _)
  have HT2 : Hid ((W1.alloc (.cells #[Value.int IntKind.i64 n, Value.slice a zs.length cap, Value.int IntKind.i64 v0, Value.int IntKind.i64 home, Value.int IntKind.i64 v2, Value.int IntKind.i64 frm, Value.int IntKind.i64 to, Value.slice ar m cr] 88)).heap[W1.heap.size]? = some (.cells #[Value.int IntKind.i64 n, Value.slice a zs.length cap, Value.int IntKind.i64 v0, Value.int IntKind.i64 home, Value.int IntKind.i64 v2, Value.int IntKind.i64 frm, Value.int IntKind.i64 to, Value.slice ar m cr] 88 (0, 0))) := heap_alloc_new _ _
  go_wp2_with fail
  refine (wpIn_wide (n := 3)).1 ?_
  refine wpIn_rangeFunc_ownH rfl (by omega) (gf := 78) (lb := #[.pointer (some ⟨W1.heap.size, 0, none⟩)]) rfl trivial (enters_of Try.func78 (by kernel_rfl) rfl)
    (visits_stops 2 (by omega) W1.heap.size w.heap.size n v0 home v2 frm to a ar cap m cr zs ros w _ (Nat.le_refl _) HX2.out.1 HT2.out HM.out HA.out HR.out HL.out HBD.out HH.out HF.out hm12)
    KpT.trans (KpT.putObj rfl HX2.out.1.size) (Below.refl _ _) (fun _ => rfl)
    (fun pre W => (HoursAt w W #[Value.int IntKind.i64 n, Value.slice a zs.length cap, Value.int IntKind.i64 v0, Value.int IntKind.i64 home, Value.int IntKind.i64 v2, Value.int IntKind.i64 frm, Value.int IntKind.i64 to, Value.slice ar m cr] 0 ∧ W1.heap.size < W.heap.size) ∧ ∀ x ∈ pre, startV n zs ros home frm x.val ≤ og6 ros x.val 4)
    (fun c pre W => (HoursAt w W #[Value.int IntKind.i64 n, Value.slice a zs.length cap, Value.int IntKind.i64 v0, Value.int IntKind.i64 home, Value.int IntKind.i64 v2, Value.int IntKind.i64 frm, Value.int IntKind.i64 to, Value.slice ar m cr] 5 ∧ c = .ret) ∧ ∃ x ∈ pre, og6 ros x.val 4 < startV n zs ros home frm x.val)
    (OwnFrom.and (OwnFrom.and (HoursAt.own w _ 0 _ HX2.out.1.size) (fun _ _ _ _ hs hg _ => Nat.lt_of_lt_of_le hs hg.size)) (ownFrom_pure _ _))
    (fun c => OwnFrom.and (OwnFrom.and (HoursAt.own w _ 5 _ HX2.out.1.size) (ownFrom_pure _ _)) (ownFrom_pure _ _))
    ⟨⟨HX2.out, by simp⟩, fun x hx => by cases hx⟩
    (fun x a' W => ∃ Bo Bv, W1.heap.size < Bo ∧ W1.heap.size < Bv ∧ W.heap[Bo]? = some (.cells #[.int .i64 (og6 ros x.val 0), .int .i64 (og6 ros x.val 1), .int .i64 (og6 ros x.val 2), .int .i64 (og6 ros x.val 3), .int .i64 (og6 ros x.val 4), .int .i64 (og6 ros x.val 5)] 78 (0, 0)) ∧ W.heap[Bv]? = some (.cells #[.int .i64 (og6 ros x.val 0), .int .i64 (arrV n zs ros home frm x.val), .int .i64 (startV n zs ros home frm x.val), .int .i64 (nowT n zs ros home frm (x.val + 1))] 83 (0, 0)) ∧ a' = { tmps := #[.agg #[.int .i64 n, .slice a zs.length cap, .int .i64 v0, .int .i64 home, .int .i64 v2, .int .i64 frm, .int .i64 to, .slice ar m cr], .pointer (some ⟨w.heap.size, 0, none⟩), .pointer (some ⟨w.heap.size + 1, 0, none⟩), .pointer (some ⟨Bo, 0, none⟩), .pointer (some ⟨Bv, 0, none⟩), .agg #[.int .i64 n, .slice a zs.length cap, .int .i64 v0, .int .i64 home, .int .i64 v2, .int .i64 frm, .int .i64 to, .slice ar m cr], .func (.func 78) #[] #[.pointer (some ⟨W1.heap.size, 0, none⟩)], .agg #[.int .i64 (og6 ros x.val 0), .int .i64 (og6 ros x.val 1), .int .i64 (og6 ros x.val 2), .int .i64 (og6 ros x.val 3), .int .i64 (og6 ros x.val 4), .int .i64 (og6 ros x.val 5)], .agg #[.int .i64 (og6 ros x.val 0), .int .i64 (arrV n zs ros home frm x.val), .int .i64 (startV n zs ros home frm x.val), .int .i64 (nowT n zs ros home frm (x.val + 1))], undef, undef, undef, undef, undef, undef, undef, undef, undef, undef, undef], defers := [] })
    (fun x a' _ X Y row hs hg hr => by
      obtain ⟨Bo, Bv, g1, g2, g3, g4, g5⟩ := hs
      exact ⟨Bo, Bv, g1, g2, row_own (cs := fun _ : Unit => _) () X Y row g3 hg hr, row_own (cs := fun _ : Unit => _) () X Y row g4 hg hr, g5⟩)
    ?assign ?body ?done ?stop
  case assign =>
    rintro l pre x W K ⟨⟨hi, hsz⟩, hp⟩ hK
    gi_wp2
    refine hK _ _ (((KeepsOthers.alloc _ _).trans (KeepsOthers.alloc _ _)).from _) ((KpT.alloc _ _ hi.1.size).trans (KpT.alloc _ _ (Nat.le_trans hi.1.size (by simp)))) ⟨⟨(hi.below ((Below.refl _ _).alloc (Nat.le_refl _) _)).below ((Below.refl _ _).alloc (Nat.le_refl _) _), by simp; omega⟩, hp⟩ ⟨W.heap.size, W.heap.size + 1, hsz, by omega, ?_, ?_, rfl⟩
    · exact heap_alloc2_old _ _ _
    · exact heap_alloc2_new _ _ _
  case body =>
    rintro l pre x a' W hl hlr ⟨⟨hi, hsz⟩, hp⟩ ⟨Bo, Bv, g1, g2, g3, g4, rfl⟩ hlt
    have HI : Hid (HoursAt w W _ _) := hi
    have HP : Hid _ := hp
    obtain ⟨i0, i1, i2, i3, i4, i5⟩ := cells6 g3
    have j2 : W.cell? ⟨Bv, 2, none⟩ = some (.int .i64 (startV n zs ros home frm x.val)) := by rw [cell_of_row _ _ 2 _ _ _ g4]; simp
    have cc : W.cell? ⟨w.heap.size + 1, 0, none⟩ = some (.int .i64 0) := by rw [cell_of_row _ _ 0 _ _ _ hi.2.2]; simp
    have fc := fun i => frozen_of_row _ _ i _ _ hi.2.2
    clear hi hp g3 g4 i0 i1 i2 i3 i5
    by_cases hlate : og6 ros x.val 4 < startV n zs ros home frm x.val
    · have HLT : Hid _ := hlate
      gi_wp2
      exact ⟨(KeepsOthers.setCell _ _ _).from _, ⟨HI.out.set 5, rfl⟩, x, by simp, HLT.out⟩
    · have hle : startV n zs ros home frm x.val ≤ og6 ros x.val 4 := by omega
      have HLE : Hid _ := hle
      clear hlate
      gi_wp2
      refine ⟨KeepsFrom.refl _ _, ⟨Below.refl _ _, fun h => h⟩, ⟨HI.out, hsz⟩, fun y hy => ?_⟩
      rcases List.mem_append.1 hy with h | h
      · exact HP.out y h
      · obtain rfl : y = x := by simpa using h
        exact HLE.out
  case done =>
    rintro D ys W hD hS ⟨⟨hi, hsz⟩, hp⟩ hK
    have HI : Hid (HoursAt w W _ _) := hi
    have HK : Hid (W.heap[D]? = some (.deferred (some []))) := hK
    have HD : Hid (w.heap.size + 1 < D) := Nat.lt_of_lt_of_le (Nat.lt_trans HZ.out (by simp)) hD
    have HTM : Hid (timelyTo n zs ros home frm m) := fun j hj => by
      obtain ⟨x, hx, rfl⟩ := all_in hS hj
      exact hp x hx
    obtain ⟨t0, t1, t2, t3, t4, t5, t6, t7⟩ := cells8 HI.out.2.1
    clear hi hK hD hS hsz hp
    obtain ⟨d, HDD⟩ : ∃ t, Hid (homeV n zs ros m home frm = t) := ⟨_, rfl⟩
    go_wp2_with fail
    have e0 := fun s : Kin W => s.cell t0
    have e1 := fun s : Kin W => s.cell t1
    have e2 := fun s : Kin W => s.cell t2
    have e3 := fun s : Kin W => s.cell t3
    have e4 := fun s : Kin W => s.cell t4
    have e5 := fun s : Kin W => s.cell t5
    have e6 := fun s : Kin W => s.cell t6
    have e7 := fun s : Kin W => s.cell t7
    have hkin := Kin.there W
    refine wp_region_kin (by kernel_rfl) (by kernel_rfl) ?_
    repeat (go_big_quiet_step ((first
      | (go_at_call 52; exact Kin.call (home_is n v0 home v2 frm to a ar cap m cr zs ros _ d HDD.out HM.out ((HA.out.below HI.out.1).below (Kin.below _)) ((HR.out.below HI.out.1).below (Kin.below _)) HL.out HBD.out HH.out HF.out hm12)))))
    refine wpQuiet_nil ?_
    rintro _ ⟨s, rfl⟩
    have HI2 : Hid (HoursAt w s.w _ _) := HI.out.below s.below
    have HK2 : Hid (s.w.heap[D]? = some (.deferred (some []))) := below_row s.below (Array.getElem?_eq_some_iff.1 HK.out).1 HK.out
    clear t0 t1 t2 t3 t4 t5 t6 t7 e0 e1 e2 e3 e4 e5 e6 e7 hkin
    generalize s.w = W2 at *
    have cc : W2.cell? ⟨w.heap.size + 1, 0, none⟩ = some (.int .i64 0) := by rw [cell_of_row _ _ 0 _ _ _ HI2.out.2.2]; simp
    have fc := fun i => frozen_of_row _ _ i _ _ HI2.out.2.2
    by_cases hto : to < d
    · have HN : Hid (r = 6) := HV.out.symm.trans (hoursV_home HTM.out (by rw [HDD.out]; exact hto))
      go_wp2
      rw [HN.out]
      have HI3 := HI2.out.set 6
      have HK3 : (W2.setCell ⟨w.heap.size + 1, 0, none⟩ (.int .i64 6)).heap[D]? = some (.deferred (some [])) := row_set' HK2.out (Nat.ne_of_gt HD.out)
      refine ⟨by simp, .inl ⟨_, _, rfl, run_takeDeferred HK3, ?_⟩⟩
      have hc := cell_kept (show (W2.setCell ⟨w.heap.size + 1, 0, none⟩ (.int .i64 6)).cell? ⟨w.heap.size + 1, 0, none⟩ = some (.int .i64 6) by rw [cell_of_row _ _ 0 _ _ _ HI3.2.2]; simp) (grownBy_putObj' _ D (.deferred none)) (fun r e => by cases e; exact ⟨_, HK3, rfl⟩)
      exact ⟨_, by simp [results, Try.results94, go_sem, hc], rfl, HI3.1.trans (belowK_b (w := w) (Nat.le_refl _) _ D _ _ (by have := HD.out; omega) HK3 rfl rfl)⟩
    · have HN : Hid (r = 0) := HV.out.symm.trans (hoursV_ok HTM.out (by rw [HDD.out]; exact hto))
      go_wp2
      rw [HN.out]
      have HI3 := HI2.out.set 0
      have HK3 : (W2.setCell ⟨w.heap.size + 1, 0, none⟩ (.int .i64 0)).heap[D]? = some (.deferred (some [])) := row_set' HK2.out (Nat.ne_of_gt HD.out)
      refine ⟨by simp, .inl ⟨_, _, rfl, run_takeDeferred HK3, ?_⟩⟩
      have hc := cell_kept (show (W2.setCell ⟨w.heap.size + 1, 0, none⟩ (.int .i64 0)).cell? ⟨w.heap.size + 1, 0, none⟩ = some (.int .i64 0) by rw [cell_of_row _ _ 0 _ _ _ HI3.2.2]; simp) (grownBy_putObj' _ D (.deferred none)) (fun r e => by cases e; exact ⟨_, HK3, rfl⟩)
      exact ⟨_, by simp [results, Try.results94, go_sem, hc], rfl, HI3.1.trans (belowK_b (w := w) (Nat.le_refl _) _ D _ _ (by have := HD.out; omega) HK3 rfl rfl)⟩
  case stop =>
    rintro D c pre W hD hS ⟨⟨hi, rfl⟩, x, hx, hlate⟩ hK
    have HN : Hid (r = 5) := HV.out.symm.trans (hoursV_late x.isLt hlate)
    have HD : Hid (w.heap.size + 1 < D) := Nat.lt_of_lt_of_le (Nat.lt_trans HZ.out (by simp)) hD
    refine wpIn_wide.2 ?_
    go_wp2
    rw [HN.out]
    refine ⟨by simp, .inl ⟨_, _, rfl, run_takeDeferred hK, ?_⟩⟩
    have hc := cell_kept (show W.cell? ⟨w.heap.size + 1, 0, none⟩ = some (.int .i64 5) by rw [cell_of_row _ _ 0 _ _ _ hi.2.2]; simp) (grownBy_putObj' _ D (.deferred none)) (fun r e => by cases e; exact ⟨_, hK, rfl⟩)
    exact ⟨_, by simp [results, Try.results94, go_sem, hc], rfl, hi.1.trans (belowK_b (w := w) (Nat.le_refl _) _ D _ _ (by have := HD.out; omega) hK rfl rfl)⟩

end Go.Proofs.Ytfcplmageokdiae
