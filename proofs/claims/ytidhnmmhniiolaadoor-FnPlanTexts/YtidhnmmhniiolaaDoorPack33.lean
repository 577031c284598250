import Derived.Test.YtidhnmmhniiolaaDoorTakePlan
import Derived.Defers
import Derived.Recover
import Derived.Laws.Pointers
namespace Go.Proofs.YtidhnmmhniiolaaDoor
open Go.RowKit

theorem txt_none (r : List UInt8) : (txt r).toList.isEmpty = decide (r = []) := by
  have e0 : (txt []).toList = [] := by
    unfold ByteArray.toList
    unfold ByteArray.toList.loop
    simp [txt_size]
  by_cases h : r = []
  · subst h
    rw [e0]
    rfl
  · rw [decide_eq_false h]
    have := str_ne (f := txt r) (t := txt []) (fun e => h (txt_inj e))
    rw [e0] at this
    cases hl : (txt r).toList with
    | nil => rw [hl] at this; cases this
    | cons x l => rfl
/-- What a deferred look leaves when the reader gave up: no plan, and false. -/
def gaveW (w : World) (p o : Nat) : World := (((w.setCell ⟨p, 0, none⟩ (.slice none 0 0)).setCell ⟨p, 1, none⟩ (.slice none 0 0)).setCell ⟨o, 0, none⟩ (.bool false)).alloc (.cells #[.slice none 0 0, .slice none 0 0] 27)

set_option maxHeartbeats 1000000 in
theorem catch_gave (p o : Nat) (v0 v1 b : Value) (w : World) (hp : w.heap[p]? = some (.cells #[v0, v1] 27 (0, 0))) (ho : w.heap[o]? = some (.cells #[b] 4 (0, 0))) (hpo : o ≠ p) :
    CallsD Tryd.prog 46 #[.pointer (some ⟨p, 0, none⟩), .pointer (some ⟨o, 0, none⟩)] (.panicking GV) w fun e u' w' =>
      e = .returned (.tuple #[]) ∧ u' = .panicking [{ v := .iface 115 (.agg #[]), recovered := true }] ∧ w' = gaveW w p o := by
  have hlp := row_lt hp
  have hlo := row_lt ho
  obtain ⟨c0, c1⟩ := cells2 hp
  have f0 := fun i => frozen_of_row _ _ i _ _ hp
  have b0 : w.cell? ⟨o, 0, none⟩ = some b := by rw [cell_of_row _ _ _ _ _ _ ho]; rfl
  have f1 := fun i => frozen_of_row _ _ i _ _ ho
  have np : p ≠ w.heap.size := by omega
  have no : o ≠ w.heap.size := by omega
  refine callsD_of_wpS Tryd.func46 rfl fun c₀ cs hu => ?_
  apply wpS_seq
  apply wpS_region
  simp [wpOpsS, go_sem, recoverD, hu, Tryd.ntmps46, Exit.thenS, GV]
  refine wpS_cond (t := true) (by simp [Act.eval, Array.replicate]) ?_
  simp only [if_true]
  refine wpS_of_wp ?_
  rw [show #[Value.pointer (some ⟨p, 0, none⟩), Value.pointer (some ⟨o, 0, none⟩)] ++ ((Array.replicate 4 undef).setIfInBounds 1 (Value.iface 115 (Value.agg #[]))).setIfInBounds 2 (Value.bool true) = #[Value.pointer (some ⟨p, 0, none⟩), Value.pointer (some ⟨o, 0, none⟩), undef, Value.iface 115 (Value.agg #[]), Value.bool true, undef] from rfl]
  go_wp2
  simp [bodyPostS, results, Tryd.results46, gaveW]

theorem catch_idle (p o : Value) (w : World) :
    CallsD Tryd.prog 46 #[p, o] .returning w fun e u' w' => e = .returned (.tuple #[]) ∧ u' = .returning ∧ w' = w := by
  refine callsD_of_wpS Tryd.func46 rfl fun c₀ cs hu => ?_
  apply wpS_seq
  apply wpS_region
  simp [wpOpsS, go_sem, recoverD, hu, Tryd.ntmps46, Exit.thenS]
  refine wpS_cond (t := false) (by simp [Act.eval, Array.replicate]) ?_
  simp only [Bool.false_eq_true, if_false]
  refine wpS_of_wp (wp_skip ?_)
  cases c₀
  simp_all [bodyPostS, results, Tryd.results46]

/-- What readWhole answers: the plan of the call's own, and true; no plan, and false. -/
def ReadOk (w : World) (s : List UInt8) (e : Ending) (w' : World) : Prop :=
  (∃ S rs ls L, readF s = some (S.map bare, L) ∧ e = .returned (.tuple #[.agg #[rs, ls], .bool true]) ∧ Below w.heap.size w w' ∧ PO w' (w.heap.size + 3) rs S ls L ∧ ∃ la lc, ls = .slice la L.length lc ∧ Apt S la) ∨ (readF s = none ∧ e = .returned (.tuple #[.agg #[.slice none 0 0, .slice none 0 0], .bool false]) ∧ Below w.heap.size w w')

/-- What gaveW leaves. -/
theorem gave_rows {w w4 : World} {v0 v1 b : Value} (hB : Below w.heap.size w w4) (hT : w4.heap[w.heap.size]? = some (.cells #[v0, v1] 27 (0, 0))) (hO : w4.heap[w.heap.size + 1]? = some (.cells #[b] 4 (0, 0))) :
    Below w.heap.size w (gaveW w4 w.heap.size (w.heap.size + 1)) ∧ (gaveW w4 w.heap.size (w.heap.size + 1)).heap[w.heap.size]? = some (.cells #[.slice none 0 0, .slice none 0 0] 27 (0, 0)) ∧ (gaveW w4 w.heap.size (w.heap.size + 1)).heap[w.heap.size + 1]? = some (.cells #[.bool false] 4 (0, 0)) := by
  have h1 := row_lt hO
  have hT1 : ((w4.setCell ⟨w.heap.size, 0, none⟩ (.slice none 0 0)).setCell ⟨w.heap.size, 1, none⟩ (.slice none 0 0)).heap[w.heap.size]? = some (.cells #[.slice none 0 0, .slice none 0 0] 27 (0, 0)) := heap_setCell_same _ _ _ _ _ _ (heap_setCell_same _ _ _ _ _ _ hT)
  have hO1 : ((w4.setCell ⟨w.heap.size, 0, none⟩ (.slice none 0 0)).setCell ⟨w.heap.size, 1, none⟩ (.slice none 0 0)).heap[w.heap.size + 1]? = some (.cells #[b] 4 (0, 0)) := set_row (set_row hO (by omega)) (by omega)
  refine ⟨?_, ?_, ?_⟩
  · unfold gaveW
    refine Below.alloc (Below.setCell (Below.setCell (Below.setCell hB (by simp) _) (by simp) _) (by simp) _) ?_ _
    simp
    omega
  · unfold gaveW
    rw [heap_alloc_old _ _ (by simp; omega)]
    exact set_row hT1 (by omega)
  · unfold gaveW
    rw [heap_alloc_old _ _ (by simp; omega)]
    exact heap_setCell_same _ _ _ _ _ _ hO1

set_option maxHeartbeats 1000000 in
/-- The reader gave up: the deferred look makes it no plan, and false. -/
theorem gave_end {w w4 : World} {s : List UInt8} {v0 v1 b : Value} {tmps : Array Value} (hB : Below w.heap.size w w4) (hT : w4.heap[w.heap.size]? = some (.cells #[v0, v1] 27 (0, 0))) (hO : w4.heap[w.heap.size + 1]? = some (.cells #[b] 4 (0, 0))) (hr : readF s = none)
    (h4 : tmps[4]? = some (.pointer (some ⟨w.heap.size, 0, none⟩))) (h5 : tmps[5]? = some (.pointer (some ⟨w.heap.size + 1, 0, none⟩))) :
    bodyPostD Tryd.prog Tryd.f20 (ReadOk w s) (Exit.panic GV) { tmps := tmps, defers := [{ target := Target.fn (Fn.func 46) #[.pointer (some ⟨w.heap.size, 0, none⟩), .pointer (some ⟨w.heap.size + 1, 0, none⟩)], args := #[] }] } w4 := by
  obtain ⟨hB2, hT2, hO2⟩ := gave_rows hB hT hO
  refine leaves_cons (f := 46) (args := #[.pointer (some ⟨w.heap.size, 0, none⟩), .pointer (some ⟨w.heap.size + 1, 0, none⟩)]) (by simp) (by simp [go_sem]) ?_
  refine (catch_gave w.heap.size (w.heap.size + 1) _ _ _ w4 hT hO (by omega)).mono ?_
  rintro e u' w'' ⟨rfl, rfl, rfl⟩
  obtain ⟨c0, c1⟩ := cells2 hT2
  have b0 : (gaveW w4 w.heap.size (w.heap.size + 1)).cell? ⟨w.heap.size + 1, 0, none⟩ = some (.bool false) := by rw [cell_of_row _ _ _ _ _ _ hO2]; rfl
  generalize gaveW w4 w.heap.size (w.heap.size + 1) = G at *
  simp [Leaves, settle, results, Tryd.results20, go_sem, c0, c1, b0, h4, h5]
  exact .inr ⟨hr, rfl, hB2⟩

set_option maxHeartbeats 2000000 in
set_option maxRecDepth 10000 in
theorem readWhole_any (s : List UInt8) (w : World) (hs : s.length ≤ 1000000000) :
    Calls Tryd.prog 20 #[.string (txt s), .func (.func 21) #[] #[]] w (ReadOk w s) := by
  have hmf : ∀ (fn : Fn) (first cap : Array Value) (w : World), (Instr.makeFunc fn first cap).run Tryd.prog w = .ok (.func fn first cap) w := fun _ _ _ _ => rfl
  have B3 : Hid (Below w.heap.size w (((w.alloc (.cells #[.slice none 0 0, .slice none 0 0] 27)).alloc (.cells #[.bool false] 4)).alloc (.cells #[.string (txt s)] 95))) := (((Below.refl _ _).alloc (Nat.le_refl _) _).alloc (by simp) _).alloc (by simp; omega) _
  have T3 : Hid ((((w.alloc (.cells #[.slice none 0 0, .slice none 0 0] 27)).alloc (.cells #[.bool false] 4)).alloc (.cells #[.string (txt s)] 95)).heap[w.heap.size]? = some (.cells #[.slice none 0 0, .slice none 0 0] 27 (0, 0))) := (heap_alloc_old _ _ (by simp; omega)).trans (heap_alloc2_old _ _ _)
  have O3 : Hid ((((w.alloc (.cells #[.slice none 0 0, .slice none 0 0] 27)).alloc (.cells #[.bool false] 4)).alloc (.cells #[.string (txt s)] 95)).heap[w.heap.size + 1]? = some (.cells #[.bool false] 4 (0, 0))) := (heap_alloc_old _ _ (by simp)).trans (heap_alloc2_new _ _ _)
  have R3 : Hid (RX (((w.alloc (.cells #[.slice none 0 0, .slice none 0 0] 27)).alloc (.cells #[.bool false] 4)).alloc (.cells #[.string (txt s)] 95)) (w.heap.size + 1 + 1) s) := by
    show _ = _
    have := heap_alloc_new ((w.alloc (.cells #[.slice none 0 0, .slice none 0 0] 27)).alloc (.cells #[.bool false] 4)) (.cells #[.string (txt s)] 95)
    simpa using this
  have Z3 : Hid ((((w.alloc (.cells #[.slice none 0 0, .slice none 0 0] 27)).alloc (.cells #[.bool false] 4)).alloc (.cells #[.string (txt s)] 95)).heap.size = w.heap.size + 3) := by show _ = _; simp
  have HRF : Hid (readF s = match planF s with | none => none | some (R, L, r) => if r = [] then some (R, L) else none) := rfl
  go_enter_defers Tryd.func20, Tryd.ntmps20
  go_wp2_with fail
  generalize (((w.alloc (.cells #[.slice none 0 0, .slice none 0 0] 27)).alloc (.cells #[.bool false] 4)).alloc (.cells #[.string (txt s)] 95)) = W3 at *
  refine (takePlan_any (w.heap.size + 1 + 1) s W3 R3.out hs).mono ?_
  rintro e w4 (⟨S, rs, ls, L, r, hp, rfl, hr, hg, ho, la, lc, e2, hap⟩ | ⟨hp, rfl, hg⟩)
  · obtain ⟨ra, rc, e1, -⟩ := own_sl ho.r
    subst e1 e2
    have AP : Hid (Apt S la) := hap
    clear hap
    obtain ⟨n1, HN1⟩ : ∃ n, Hid (S.length = n) := ⟨_, rfl⟩
    obtain ⟨n2, HN2⟩ : ∃ n, Hid (L.length = n) := ⟨_, rfl⟩
    rw [HN1.out, HN2.out] at ho
    rw [HN1.out, HN2.out]
    have HP : Hid (planF s = some (S.map bare, L, r)) := hp
    have P4 : Hid (PO w4 (W3.heap.size + 2) (.slice ra n1 rc) S (.slice la n2 lc) L) := ho
    have R4 : Hid (RX w4 (w.heap.size + 1 + 1) r) := hr
    have T4 : Hid (w4.heap[w.heap.size]? = some (.cells #[.slice none 0 0, .slice none 0 0] 27 (0, 0))) := grown_row hg T3.out (by simp; omega)
    have O4 : Hid (w4.heap[w.heap.size + 1]? = some (.cells #[.bool false] 4 (0, 0))) := grown_row hg O3.out (by simp)
    have B4 : Hid (Below w.heap.size w w4) := B3.out.grown hg (by rw [Z3.out]; omega) (fun k e => by simp at e; omega)
    clear hp ho hr hg B3 T3 O3 R3
    obtain ⟨c0, c1⟩ := cells2 T4.out
    have f0 := fun i => frozen_of_row _ _ i _ _ T4.out
    have q0 := R4.out.cell
    have nq : w.heap.size + 1 + 1 ≠ w.heap.size := by omega
    have T5 : Hid (((w4.setCell ⟨w.heap.size, 0, none⟩ (.slice ra n1 rc)).setCell ⟨w.heap.size, 1, none⟩ (.slice la n2 lc)).heap[w.heap.size]? = some (.cells #[.slice ra n1 rc, .slice la n2 lc] 27 (0, 0))) := heap_setCell_same _ _ _ _ _ _ (heap_setCell_same _ _ _ _ _ _ T4.out)
    have O5 : Hid (((w4.setCell ⟨w.heap.size, 0, none⟩ (.slice ra n1 rc)).setCell ⟨w.heap.size, 1, none⟩ (.slice la n2 lc)).heap[w.heap.size + 1]? = some (.cells #[.bool false] 4 (0, 0))) := set_row (set_row O4.out (by omega)) (by omega)
    have B5 : Hid (Below w.heap.size w ((w4.setCell ⟨w.heap.size, 0, none⟩ (.slice ra n1 rc)).setCell ⟨w.heap.size, 1, none⟩ (.slice la n2 lc))) := Below.setCell (Below.setCell B4.out (by simp) _) (by simp) _
    have P5 : Hid (PO ((w4.setCell ⟨w.heap.size, 0, none⟩ (.slice ra n1 rc)).setCell ⟨w.heap.size, 1, none⟩ (.slice la n2 lc)) (W3.heap.size + 2) (.slice ra n1 rc) S (.slice la n2 lc) L) := (P4.out.set (by rw [Z3.out]; omega)).set (by rw [Z3.out]; omega)
    go_wp2_with fail
    rw [txt_none]
    by_cases h0 : r = []
    · have HR : Hid (readF s = some (S.map bare, L)) := by show _ = _; rw [HRF.out, HP.out]; simp [h0]
      rw [decide_eq_true h0]
      refine (must_yes _ _).mono ?_
      rintro e w' ⟨rfl, rfl⟩
      clear c0 c1 f0 q0
      obtain ⟨c0, c1⟩ := cells2 T5.out
      have f0 := fun i => frozen_of_row _ _ i _ _ T5.out
      have b0 : ((w4.setCell ⟨w.heap.size, 0, none⟩ (.slice ra n1 rc)).setCell ⟨w.heap.size, 1, none⟩ (.slice la n2 lc)).cell? ⟨w.heap.size + 1, 0, none⟩ = some (.bool false) := by rw [cell_of_row _ _ _ _ _ _ O5.out]; rfl
      have f1 := fun i => frozen_of_row _ _ i _ _ O5.out
      generalize (w4.setCell ⟨w.heap.size, 0, none⟩ (.slice ra n1 rc)).setCell ⟨w.heap.size, 1, none⟩ (.slice la n2 lc) = W5 at *
      have nb : w.heap.size + 1 ≠ w.heap.size := by omega
      have T6 : Hid ((((W5.setCell ⟨w.heap.size, 0, none⟩ (.slice ra n1 rc)).setCell ⟨w.heap.size, 1, none⟩ (.slice la n2 lc)).setCell ⟨w.heap.size + 1, 0, none⟩ (.bool true)).heap[w.heap.size]? = some (.cells #[.slice ra n1 rc, .slice la n2 lc] 27 (0, 0))) := set_row (heap_setCell_same _ _ _ _ _ _ (heap_setCell_same _ _ _ _ _ _ T5.out)) (by omega)
      have O6 : Hid ((((W5.setCell ⟨w.heap.size, 0, none⟩ (.slice ra n1 rc)).setCell ⟨w.heap.size, 1, none⟩ (.slice la n2 lc)).setCell ⟨w.heap.size + 1, 0, none⟩ (.bool true)).heap[w.heap.size + 1]? = some (.cells #[.bool true] 4 (0, 0))) := heap_setCell_same _ _ _ _ _ _ (set_row (set_row O5.out (by omega)) (by omega))
      have B6 : Hid (Below w.heap.size w (((W5.setCell ⟨w.heap.size, 0, none⟩ (.slice ra n1 rc)).setCell ⟨w.heap.size, 1, none⟩ (.slice la n2 lc)).setCell ⟨w.heap.size + 1, 0, none⟩ (.bool true))) := Below.setCell (Below.setCell (Below.setCell B5.out (by simp) _) (by simp) _) (by simp) _
      have P6 : Hid (PO (((W5.setCell ⟨w.heap.size, 0, none⟩ (.slice ra n1 rc)).setCell ⟨w.heap.size, 1, none⟩ (.slice la n2 lc)).setCell ⟨w.heap.size + 1, 0, none⟩ (.bool true)) (W3.heap.size + 2) (.slice ra n1 rc) S (.slice la n2 lc) L) := ((P5.out.set (by rw [Z3.out]; omega)).set (by rw [Z3.out]; omega)).set (by rw [Z3.out]; omega)
      go_wp2
      clear c0 c1 b0 f0 f1
      generalize ((W5.setCell ⟨w.heap.size, 0, none⟩ (.slice ra n1 rc)).setCell ⟨w.heap.size, 1, none⟩ (.slice la n2 lc)).setCell ⟨w.heap.size + 1, 0, none⟩ (.bool true) = W6 at *
      refine leaves_cons (f := 46) (args := #[.pointer (some ⟨w.heap.size, 0, none⟩), .pointer (some ⟨w.heap.size + 1, 0, none⟩)]) (by simp) (by simp [go_sem]) ?_
      refine (catch_idle _ _ _).mono ?_
      rintro e u' w'' ⟨rfl, rfl, rfl⟩
      obtain ⟨c0, c1⟩ := cells2 T6.out
      have b0 : w''.cell? ⟨w.heap.size + 1, 0, none⟩ = some (.bool true) := by rw [cell_of_row _ _ _ _ _ _ O6.out]; rfl
      simp [Leaves, settle, results, Tryd.results20, go_sem, c0, c1, b0]
      exact .inl ⟨S, _, _, L, HR.out, rfl, B6.out, P6.out.base (by rw [Z3.out]; omega), la, lc, by rw [HN2.out], AP.out⟩
    · rw [decide_eq_false h0]
      refine (must_no _ _).mono ?_
      rintro e w' ⟨rfl, rfl⟩
      exact gave_end B5.out T5.out O5.out (by rw [HRF.out, HP.out]; simp [h0]) rfl rfl
  · have T4 : w4.heap[w.heap.size]? = some (.cells #[.slice none 0 0, .slice none 0 0] 27 (0, 0)) := grown_row hg T3.out (by simp; omega)
    have O4 : w4.heap[w.heap.size + 1]? = some (.cells #[.bool false] 4 (0, 0)) := grown_row hg O3.out (by simp)
    have B4 : Below w.heap.size w w4 := B3.out.grown hg (by rw [Z3.out]; omega) (fun k e => by simp at e; omega)
    exact gave_end B4 T4 O4 (by rw [HRF.out, hp]) rfl rfl

end Go.Proofs.YtidhnmmhniiolaaDoor

namespace Go.Proofs.YtidhnmmhniiolaaDoor
open Go.RowKit

set_option maxHeartbeats 2000000 in
theorem implReadPlan_any (s : List UInt8) (w : World) (hs : s.length ≤ 1000000000) :
    Calls Tryd.prog 7 #[.string (txt s)] w (ReadOk w s) := by
  have B0 : Hid (Below w.heap.size w (w.alloc (.cells #[.slice none 0 0, .slice none 0 0] 27))) := (Below.refl _ _).alloc (Nat.le_refl _) _
  have Z0 : Hid ((w.alloc (.cells #[.slice none 0 0, .slice none 0 0] 27)).heap[w.heap.size]? = some (.cells #[.slice none 0 0, .slice none 0 0] 27 (0, 0))) := heap_alloc_new _ _
  have S0 : Hid ((w.alloc (.cells #[.slice none 0 0, .slice none 0 0] 27)).heap.size = w.heap.size + 1) := by show _ = _; simp
  go_enter Tryd.func7, Tryd.ntmps7
  go_wp2_with fail
  generalize w.alloc (.cells #[.slice none 0 0, .slice none 0 0] 27) = W0 at *
  refine (readWhole_any s W0 hs).mono ?_
  rintro e w1 (⟨S, rs, ls, L, hr, rfl, hb, ho, la, lc, e2, hap⟩ | ⟨hr, rfl, hb⟩)
  · obtain ⟨ra, rc, e1, -⟩ := own_sl ho.r
    subst e1 e2
    have AP : Hid (Apt S la) := hap
    clear hap
    have HR : Hid (readF s = some (S.map bare, L)) := hr
    have B1 : Hid (Below w.heap.size w w1) := B0.out.trans (hb.mono B0.out.size)
    have Z1 : Hid (w1.heap[w.heap.size]? = some (.cells #[.slice none 0 0, .slice none 0 0] 27 (0, 0))) := below_row hb (row_lt Z0.out) Z0.out
    have P1 : Hid (PO w1 (W0.heap.size + 3) (.slice ra S.length rc) S (.slice la L.length lc) L) := ho
    clear hr hb ho B0 Z0
    obtain ⟨c0, c1⟩ := cells2 Z1.out
    have f0 := fun i => frozen_of_row _ _ i _ _ Z1.out
    go_wp2
    refine bodyPost_ret (v := .tuple #[.agg #[.slice ra S.length rc, .slice la L.length lc], .bool true]) (by simp [results, Tryd.results7, go_sem, c0, c1]) rfl ?_
    refine .inl ⟨S, _, _, L, HR.out, rfl, ?_, ?_, la, lc, rfl, AP.out⟩
    · exact Below.setCell (Below.setCell B1.out (by simp) _) (by simp) _
    · exact ((P1.out.base (by rw [S0.out]; omega)).set (by omega)).set (by omega)
  · have HR : Hid (readF s = none) := hr
    have B1 : Hid (Below w.heap.size w w1) := B0.out.trans (hb.mono B0.out.size)
    have Z1 : Hid (w1.heap[w.heap.size]? = some (.cells #[.slice none 0 0, .slice none 0 0] 27 (0, 0))) := below_row hb (row_lt Z0.out) Z0.out
    clear hr hb B0 Z0
    obtain ⟨c0, c1⟩ := cells2 Z1.out
    have f0 := fun i => frozen_of_row _ _ i _ _ Z1.out
    go_wp2
    refine bodyPost_ret (v := .tuple #[.agg #[.slice none 0 0, .slice none 0 0], .bool false]) (by simp [results, Tryd.results7, go_sem, c0, c1]) rfl ?_
    refine .inr ⟨HR.out, rfl, ?_⟩
    exact Below.setCell (Below.setCell B1.out (by simp) _) (by simp) _

end Go.Proofs.YtidhnmmhniiolaaDoor
