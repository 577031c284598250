import Derived.Test.YtaofpbmdloihgaaDoorPack8
import Derived.Test.YtaofpbmdloihgaaDoorTakeCase
import Derived.Defers
import Derived.Recover
import Derived.Laws.Pointers
namespace Go.Proofs.YtaofpbmdloihgaaDoor
open Go.RowKit

theorem txt_noneC (r : List UInt8) : (txt r).toList.isEmpty = decide (r = []) := by
  have e0 : (txt []).toList = [] := by
    unfold ByteArray.toList
    unfold ByteArray.toList.loop
    simp [txt_size]
  by_cases h : r = []
  · subst h
    rw [e0]
    rfl
  · rw [decide_eq_false h]
    have := str_ne (f := txt r) (t := txt []) (fun e => h (txt_inj e))
    rw [e0] at this
    cases hl : (txt r).toList with
    | nil => rw [hl] at this; cases this
    | cons x l => rfl
theorem CO.set {w : World} {base b i : Nat} {zl ol vl u : Value} {c : CV} (h : CO w base zl ol vl c) (hb : b < base) : CO (w.setCell ⟨b, i, none⟩ u) base zl ol vl c := ⟨owns_set h.z hb, owns_set h.o hb, owns_set h.v hb⟩
theorem CO.base {w : World} {base b0 : Nat} {zl ol vl : Value} {c : CV} (h : CO w base zl ol vl c) (hb : b0 ≤ base) : CO w b0 zl ol vl c := ⟨owns_base h.z hb, owns_base h.o hb, owns_base h.v hb⟩
theorem CO.below {w w' : World} {base : Nat} {zl ol vl : Value} {c : CV} (h : CO w base zl ol vl c) (hb : Below w.heap.size w w') : CO w' base zl ol vl c := ⟨owns_below h.z hb, owns_below h.o hb, owns_below h.v hb⟩
/-- What a deferred look leaves when the reader gave up: no case, and false. -/
def gaveWC (w : World) (p o : Nat) : World := ((((((w.setCell ⟨p, 0, none⟩ (.int .i64 0)).setCell ⟨p, 1, none⟩ (.slice none 0 0)).setCell ⟨p, 2, none⟩ (.slice none 0 0)).setCell ⟨p, 3, none⟩ (.slice none 0 0)).setCell ⟨p, 4, none⟩ (.int .i64 0)).setCell ⟨o, 0, none⟩ (.bool false)).alloc (.cells #[.int .i64 0, .slice none 0 0, .slice none 0 0, .slice none 0 0, .int .i64 0] 30)

set_option maxHeartbeats 1000000 in
theorem catch_gaveC (p o : Nat) (v0 v1 v2 v3 v4 b : Value) (w : World) (hp : w.heap[p]? = some (.cells #[v0, v1, v2, v3, v4] 30 (0, 0))) (ho : w.heap[o]? = some (.cells #[b] 4 (0, 0))) (hpo : o ≠ p) :
    CallsD Tryd.prog 34 #[.pointer (some ⟨p, 0, none⟩), .pointer (some ⟨o, 0, none⟩)] (.panicking GV) w fun e u' w' =>
      e = .returned (.tuple #[]) ∧ u' = .panicking [{ v := .iface 99 (.agg #[]), recovered := true }] ∧ w' = gaveWC w p o := by
  have hlp := row_lt hp
  have hlo := row_lt ho
  obtain ⟨c0, c1, c2, c3, c4⟩ := cells5 hp
  have f0 := fun i => frozen_of_row _ _ i _ _ hp
  have b0 : w.cell? ⟨o, 0, none⟩ = some b := by rw [cell_of_row _ _ _ _ _ _ ho]; rfl
  have f1 := fun i => frozen_of_row _ _ i _ _ ho
  have np : p ≠ w.heap.size := by omega
  have no : o ≠ w.heap.size := by omega
  refine callsD_of_wpS Tryd.func34 rfl fun c₀ cs hu => ?_
  apply wpS_seq
  apply wpS_region
  simp [wpOpsS, go_sem, recoverD, hu, Tryd.ntmps34, Exit.thenS, GV]
  refine wpS_cond (t := true) (by simp [Act.eval, Array.replicate]) ?_
  simp only [if_true]
  refine wpS_of_wp ?_
  rw [show #[Value.pointer (some ⟨p, 0, none⟩), Value.pointer (some ⟨o, 0, none⟩)] ++ ((Array.replicate 4 undef).setIfInBounds 1 (Value.iface 99 (Value.agg #[]))).setIfInBounds 2 (Value.bool true) = #[Value.pointer (some ⟨p, 0, none⟩), Value.pointer (some ⟨o, 0, none⟩), undef, Value.iface 99 (Value.agg #[]), Value.bool true, undef] from rfl]
  go_wp2
  simp [bodyPostS, results, Tryd.results34, gaveWC]

theorem catch_idleC (p o : Value) (w : World) :
    CallsD Tryd.prog 34 #[p, o] .returning w fun e u' w' => e = .returned (.tuple #[]) ∧ u' = .returning ∧ w' = w := by
  refine callsD_of_wpS Tryd.func34 rfl fun c₀ cs hu => ?_
  apply wpS_seq
  apply wpS_region
  simp [wpOpsS, go_sem, recoverD, hu, Tryd.ntmps34, Exit.thenS]
  refine wpS_cond (t := false) (by simp [Act.eval, Array.replicate]) ?_
  simp only [Bool.false_eq_true, if_false]
  refine wpS_of_wp (wp_skip ?_)
  cases c₀
  simp_all [bodyPostS, results, Tryd.results34]

/-- What readWhole answers: the case of the call's own, and true; no case, and false. -/
def ReadOkC (w : World) (s : List UInt8) (e : Ending) (w' : World) : Prop :=
  (∃ c zl ol vl, readC s = some c ∧ e = .returned (.tuple #[.agg #[.int .i64 c.n, zl, ol, vl, .int .i64 c.f], .bool true]) ∧ Below w.heap.size w w' ∧ CO w' (w.heap.size + 3) zl ol vl c) ∨ (readC s = none ∧ e = .returned (.tuple #[.agg #[.int .i64 0, .slice none 0 0, .slice none 0 0, .slice none 0 0, .int .i64 0], .bool false]) ∧ Below w.heap.size w w')

/-- What gaveWC leaves. -/
theorem gave_rowsC {w w4 : World} {v0 v1 v2 v3 v4 b : Value} (hB : Below w.heap.size w w4) (hT : w4.heap[w.heap.size]? = some (.cells #[v0, v1, v2, v3, v4] 30 (0, 0))) (hO : w4.heap[w.heap.size + 1]? = some (.cells #[b] 4 (0, 0))) :
    Below w.heap.size w (gaveWC w4 w.heap.size (w.heap.size + 1)) ∧ (gaveWC w4 w.heap.size (w.heap.size + 1)).heap[w.heap.size]? = some (.cells #[.int .i64 0, .slice none 0 0, .slice none 0 0, .slice none 0 0, .int .i64 0] 30 (0, 0)) ∧ (gaveWC w4 w.heap.size (w.heap.size + 1)).heap[w.heap.size + 1]? = some (.cells #[.bool false] 4 (0, 0)) := by
  have h1 := row_lt hO
  have hT1 : (((((w4.setCell ⟨w.heap.size, 0, none⟩ (.int .i64 0)).setCell ⟨w.heap.size, 1, none⟩ (.slice none 0 0)).setCell ⟨w.heap.size, 2, none⟩ (.slice none 0 0)).setCell ⟨w.heap.size, 3, none⟩ (.slice none 0 0)).setCell ⟨w.heap.size, 4, none⟩ (.int .i64 0)).heap[w.heap.size]? = some (.cells #[.int .i64 0, .slice none 0 0, .slice none 0 0, .slice none 0 0, .int .i64 0] 30 (0, 0)) := (heap_setCell_same _ _ _ _ _ _ (heap_setCell_same _ _ _ _ _ _ (heap_setCell_same _ _ _ _ _ _ (heap_setCell_same _ _ _ _ _ _ (heap_setCell_same _ _ _ _ _ _ hT)))))
  have hO1 : (((((w4.setCell ⟨w.heap.size, 0, none⟩ (.int .i64 0)).setCell ⟨w.heap.size, 1, none⟩ (.slice none 0 0)).setCell ⟨w.heap.size, 2, none⟩ (.slice none 0 0)).setCell ⟨w.heap.size, 3, none⟩ (.slice none 0 0)).setCell ⟨w.heap.size, 4, none⟩ (.int .i64 0)).heap[w.heap.size + 1]? = some (.cells #[b] 4 (0, 0)) := (set_rowM (set_rowM (set_rowM (set_rowM (set_rowM hO (by omega)) (by omega)) (by omega)) (by omega)) (by omega))
  refine ⟨?_, ?_, ?_⟩
  · unfold gaveWC
    refine Below.alloc (Below.setCell (Below.setCell (Below.setCell (Below.setCell (Below.setCell (Below.setCell hB (by simp) _) (by simp) _) (by simp) _) (by simp) _) (by simp) _) (by simp) _) ?_ _
    simp
    omega
  · unfold gaveWC
    rw [heap_alloc_old _ _ (by simp; omega)]
    exact set_rowM hT1 (by omega)
  · unfold gaveWC
    rw [heap_alloc_old _ _ (by simp; omega)]
    exact heap_setCell_same _ _ _ _ _ _ hO1

set_option maxHeartbeats 1000000 in
/-- The reader gave up: the deferred look makes it no case, and false. -/
theorem gave_endC {w w4 : World} {s : List UInt8} {v0 v1 v2 v3 v4 b : Value} {tmps : Array Value} (hB : Below w.heap.size w w4) (hT : w4.heap[w.heap.size]? = some (.cells #[v0, v1, v2, v3, v4] 30 (0, 0))) (hO : w4.heap[w.heap.size + 1]? = some (.cells #[b] 4 (0, 0))) (hr : readC s = none)
    (h4 : tmps[4]? = some (.pointer (some ⟨w.heap.size, 0, none⟩))) (h5 : tmps[5]? = some (.pointer (some ⟨w.heap.size + 1, 0, none⟩))) :
    bodyPostD Tryd.prog Tryd.f16 (ReadOkC w s) (Exit.panic GV) { tmps := tmps, defers := [{ target := Target.fn (Fn.func 34) #[.pointer (some ⟨w.heap.size, 0, none⟩), .pointer (some ⟨w.heap.size + 1, 0, none⟩)], args := #[] }] } w4 := by
  obtain ⟨hB2, hT2, hO2⟩ := gave_rowsC hB hT hO
  refine leaves_cons (f := 34) (args := #[.pointer (some ⟨w.heap.size, 0, none⟩), .pointer (some ⟨w.heap.size + 1, 0, none⟩)]) (by simp) (by simp [go_sem]) ?_
  refine (catch_gaveC w.heap.size (w.heap.size + 1) _ _ _ _ _ _ w4 hT hO (by omega)).mono ?_
  rintro e u' w'' ⟨rfl, rfl, rfl⟩
  obtain ⟨c0, c1, c2, c3, c4⟩ := cells5 hT2
  have b0 : (gaveWC w4 w.heap.size (w.heap.size + 1)).cell? ⟨w.heap.size + 1, 0, none⟩ = some (.bool false) := by rw [cell_of_row _ _ _ _ _ _ hO2]; rfl
  generalize gaveWC w4 w.heap.size (w.heap.size + 1) = G at *
  simp [Leaves, settle, results, Tryd.results16, go_sem, c0, c1, c2, c3, c4, b0, h4, h5]
  exact .inr ⟨hr, rfl, hB2⟩

set_option maxHeartbeats 2000000 in
set_option maxRecDepth 10000 in
theorem readWholeC_any (s : List UInt8) (w : World) (hs : s.length ≤ 1000000000) :
    Calls Tryd.prog 16 #[.string (txt s), .func (.func 17) #[] #[]] w (ReadOkC w s) := by
  have hmf : ∀ (fn : Fn) (first cap : Array Value) (w : World), (Instr.makeFunc fn first cap).run Tryd.prog w = .ok (.func fn first cap) w := fun _ _ _ _ => rfl
  have B3 : Hid (Below w.heap.size w (((w.alloc (.cells #[.int .i64 0, .slice none 0 0, .slice none 0 0, .slice none 0 0, .int .i64 0] 30)).alloc (.cells #[.bool false] 4)).alloc (.cells #[.string (txt s)] 76))) := (((Below.refl _ _).alloc (Nat.le_refl _) _).alloc (by simp) _).alloc (by simp; omega) _
  have T3 : Hid ((((w.alloc (.cells #[.int .i64 0, .slice none 0 0, .slice none 0 0, .slice none 0 0, .int .i64 0] 30)).alloc (.cells #[.bool false] 4)).alloc (.cells #[.string (txt s)] 76)).heap[w.heap.size]? = some (.cells #[.int .i64 0, .slice none 0 0, .slice none 0 0, .slice none 0 0, .int .i64 0] 30 (0, 0))) := (heap_alloc_old _ _ (by simp; omega)).trans (heap_alloc2_old _ _ _)
  have O3 : Hid ((((w.alloc (.cells #[.int .i64 0, .slice none 0 0, .slice none 0 0, .slice none 0 0, .int .i64 0] 30)).alloc (.cells #[.bool false] 4)).alloc (.cells #[.string (txt s)] 76)).heap[w.heap.size + 1]? = some (.cells #[.bool false] 4 (0, 0))) := (heap_alloc_old _ _ (by simp)).trans (heap_alloc2_new _ _ _)
  have R3 : Hid (RX (((w.alloc (.cells #[.int .i64 0, .slice none 0 0, .slice none 0 0, .slice none 0 0, .int .i64 0] 30)).alloc (.cells #[.bool false] 4)).alloc (.cells #[.string (txt s)] 76)) (w.heap.size + 1 + 1) s) := by
    show _ = _
    have := heap_alloc_new ((w.alloc (.cells #[.int .i64 0, .slice none 0 0, .slice none 0 0, .slice none 0 0, .int .i64 0] 30)).alloc (.cells #[.bool false] 4)) (.cells #[.string (txt s)] 76)
    simpa using this
  have Z3 : Hid ((((w.alloc (.cells #[.int .i64 0, .slice none 0 0, .slice none 0 0, .slice none 0 0, .int .i64 0] 30)).alloc (.cells #[.bool false] 4)).alloc (.cells #[.string (txt s)] 76)).heap.size = w.heap.size + 3) := by show _ = _; simp
  have HRF : Hid (readC s = match caseF s with | none => none | some (c, r) => if r = [] then some c else none) := rfl
  go_enter_defers Tryd.func16, Tryd.ntmps16
  go_wp2_with fail
  generalize (((w.alloc (.cells #[.int .i64 0, .slice none 0 0, .slice none 0 0, .slice none 0 0, .int .i64 0] 30)).alloc (.cells #[.bool false] 4)).alloc (.cells #[.string (txt s)] 76)) = W3 at *
  refine (takeCase_any (w.heap.size + 1 + 1) s W3 R3.out hs).mono ?_
  rintro e w4 (⟨c, r, zl, ol, vl, hp, rfl, hr, hg, ho⟩ | ⟨hp, rfl, hg⟩)
  · obtain ⟨za, zc, e1, -⟩ := own_sl ho.z
    obtain ⟨oa, oc, e2, -⟩ := own_sl ho.o
    obtain ⟨va, vc, e3, -⟩ := own_sl ho.v
    subst e1 e2 e3
    obtain ⟨nz, HN1⟩ : ∃ n, Hid (c.zs.length = n) := ⟨_, rfl⟩
    obtain ⟨no, HN2⟩ : ∃ n, Hid (c.ko = n) := ⟨_, rfl⟩
    obtain ⟨nv, HN3⟩ : ∃ n, Hid (c.kv = n) := ⟨_, rfl⟩
    rw [HN1.out, HN2.out, HN3.out] at ho
    rw [HN1.out, HN2.out, HN3.out]
    have HP : Hid (caseF s = some (c, r)) := hp
    have P4 : Hid (CO w4 (W3.heap.size + 1) (.slice za nz zc) (.slice oa no oc) (.slice va nv vc) c) := ho
    have R4 : Hid (RX w4 (w.heap.size + 1 + 1) r) := hr
    have T4 : Hid (w4.heap[w.heap.size]? = some (.cells #[.int .i64 0, .slice none 0 0, .slice none 0 0, .slice none 0 0, .int .i64 0] 30 (0, 0))) := grown_row hg T3.out (by simp; omega)
    have O4 : Hid (w4.heap[w.heap.size + 1]? = some (.cells #[.bool false] 4 (0, 0))) := grown_row hg O3.out (by simp)
    have B4 : Hid (Below w.heap.size w w4) := B3.out.grown hg (by rw [Z3.out]; omega) (fun k e => by simp at e; omega)
    have hz3 := Z3.out
    clear hp ho hr hg B3 T3 O3 R3
    obtain ⟨c0, c1, c2, c3, c4⟩ := cells5 T4.out
    have f0 := fun i => frozen_of_row _ _ i _ _ T4.out
    have q0 := R4.out.cell
    have nq : w.heap.size + 1 + 1 ≠ w.heap.size := by omega
    have T5 : Hid ((((((w4.setCell ⟨w.heap.size, 0, none⟩ (.int .i64 c.n)).setCell ⟨w.heap.size, 1, none⟩ (.slice za nz zc)).setCell ⟨w.heap.size, 2, none⟩ (.slice oa no oc)).setCell ⟨w.heap.size, 3, none⟩ (.slice va nv vc)).setCell ⟨w.heap.size, 4, none⟩ (.int .i64 c.f)).heap[w.heap.size]? = some (.cells #[.int .i64 c.n, .slice za nz zc, .slice oa no oc, .slice va nv vc, .int .i64 c.f] 30 (0, 0))) := (heap_setCell_same _ _ _ _ _ _ (heap_setCell_same _ _ _ _ _ _ (heap_setCell_same _ _ _ _ _ _ (heap_setCell_same _ _ _ _ _ _ (heap_setCell_same _ _ _ _ _ _ T4.out)))))
    have O5 : Hid ((((((w4.setCell ⟨w.heap.size, 0, none⟩ (.int .i64 c.n)).setCell ⟨w.heap.size, 1, none⟩ (.slice za nz zc)).setCell ⟨w.heap.size, 2, none⟩ (.slice oa no oc)).setCell ⟨w.heap.size, 3, none⟩ (.slice va nv vc)).setCell ⟨w.heap.size, 4, none⟩ (.int .i64 c.f)).heap[w.heap.size + 1]? = some (.cells #[.bool false] 4 (0, 0))) := (set_rowM (set_rowM (set_rowM (set_rowM (set_rowM O4.out (by omega)) (by omega)) (by omega)) (by omega)) (by omega))
    have B5 : Hid (Below w.heap.size w (((((w4.setCell ⟨w.heap.size, 0, none⟩ (.int .i64 c.n)).setCell ⟨w.heap.size, 1, none⟩ (.slice za nz zc)).setCell ⟨w.heap.size, 2, none⟩ (.slice oa no oc)).setCell ⟨w.heap.size, 3, none⟩ (.slice va nv vc)).setCell ⟨w.heap.size, 4, none⟩ (.int .i64 c.f))) := (Below.setCell (Below.setCell (Below.setCell (Below.setCell (Below.setCell B4.out (by simp) _) (by simp) _) (by simp) _) (by simp) _) (by simp) _)
    have P5 : Hid (CO (((((w4.setCell ⟨w.heap.size, 0, none⟩ (.int .i64 c.n)).setCell ⟨w.heap.size, 1, none⟩ (.slice za nz zc)).setCell ⟨w.heap.size, 2, none⟩ (.slice oa no oc)).setCell ⟨w.heap.size, 3, none⟩ (.slice va nv vc)).setCell ⟨w.heap.size, 4, none⟩ (.int .i64 c.f)) (W3.heap.size + 1) (.slice za nz zc) (.slice oa no oc) (.slice va nv vc) c) := (CO.set (CO.set (CO.set (CO.set (CO.set P4.out (by omega)) (by omega)) (by omega)) (by omega)) (by omega))
    go_wp2_with fail
    rw [txt_noneC]
    by_cases h0 : r = []
    · have HR : Hid (readC s = some c) := by show _ = _; rw [HRF.out, HP.out]; simp [h0]
      rw [decide_eq_true h0]
      refine (must_yes _ _).mono ?_
      rintro e w' ⟨rfl, rfl⟩
      clear c0 c1 c2 c3 c4 f0 q0
      obtain ⟨c0, c1, c2, c3, c4⟩ := cells5 T5.out
      have f0 := fun i => frozen_of_row _ _ i _ _ T5.out
      have b0 : (((((w4.setCell ⟨w.heap.size, 0, none⟩ (.int .i64 c.n)).setCell ⟨w.heap.size, 1, none⟩ (.slice za nz zc)).setCell ⟨w.heap.size, 2, none⟩ (.slice oa no oc)).setCell ⟨w.heap.size, 3, none⟩ (.slice va nv vc)).setCell ⟨w.heap.size, 4, none⟩ (.int .i64 c.f)).cell? ⟨w.heap.size + 1, 0, none⟩ = some (.bool false) := by rw [cell_of_row _ _ _ _ _ _ O5.out]; rfl
      have f1 := fun i => frozen_of_row _ _ i _ _ O5.out
      generalize (((((w4.setCell ⟨w.heap.size, 0, none⟩ (.int .i64 c.n)).setCell ⟨w.heap.size, 1, none⟩ (.slice za nz zc)).setCell ⟨w.heap.size, 2, none⟩ (.slice oa no oc)).setCell ⟨w.heap.size, 3, none⟩ (.slice va nv vc)).setCell ⟨w.heap.size, 4, none⟩ (.int .i64 c.f)) = W5 at *
      have nb : w.heap.size + 1 ≠ w.heap.size := by omega
      have T6 : Hid (((((((W5.setCell ⟨w.heap.size, 0, none⟩ (.int .i64 c.n)).setCell ⟨w.heap.size, 1, none⟩ (.slice za nz zc)).setCell ⟨w.heap.size, 2, none⟩ (.slice oa no oc)).setCell ⟨w.heap.size, 3, none⟩ (.slice va nv vc)).setCell ⟨w.heap.size, 4, none⟩ (.int .i64 c.f)).setCell ⟨w.heap.size + 1, 0, none⟩ (.bool true)).heap[w.heap.size]? = some (.cells #[.int .i64 c.n, .slice za nz zc, .slice oa no oc, .slice va nv vc, .int .i64 c.f] 30 (0, 0))) := set_rowM (heap_setCell_same _ _ _ _ _ _ (heap_setCell_same _ _ _ _ _ _ (heap_setCell_same _ _ _ _ _ _ (heap_setCell_same _ _ _ _ _ _ (heap_setCell_same _ _ _ _ _ _ T5.out))))) (by omega)
      have O6 : Hid (((((((W5.setCell ⟨w.heap.size, 0, none⟩ (.int .i64 c.n)).setCell ⟨w.heap.size, 1, none⟩ (.slice za nz zc)).setCell ⟨w.heap.size, 2, none⟩ (.slice oa no oc)).setCell ⟨w.heap.size, 3, none⟩ (.slice va nv vc)).setCell ⟨w.heap.size, 4, none⟩ (.int .i64 c.f)).setCell ⟨w.heap.size + 1, 0, none⟩ (.bool true)).heap[w.heap.size + 1]? = some (.cells #[.bool true] 4 (0, 0))) := heap_setCell_same _ _ _ _ _ _ (set_rowM (set_rowM (set_rowM (set_rowM (set_rowM O5.out (by omega)) (by omega)) (by omega)) (by omega)) (by omega))
      have B6 : Hid (Below w.heap.size w ((((((W5.setCell ⟨w.heap.size, 0, none⟩ (.int .i64 c.n)).setCell ⟨w.heap.size, 1, none⟩ (.slice za nz zc)).setCell ⟨w.heap.size, 2, none⟩ (.slice oa no oc)).setCell ⟨w.heap.size, 3, none⟩ (.slice va nv vc)).setCell ⟨w.heap.size, 4, none⟩ (.int .i64 c.f)).setCell ⟨w.heap.size + 1, 0, none⟩ (.bool true))) := Below.setCell (Below.setCell (Below.setCell (Below.setCell (Below.setCell (Below.setCell B5.out (by simp) _) (by simp) _) (by simp) _) (by simp) _) (by simp) _) (by simp) _
      have P6 : Hid (CO ((((((W5.setCell ⟨w.heap.size, 0, none⟩ (.int .i64 c.n)).setCell ⟨w.heap.size, 1, none⟩ (.slice za nz zc)).setCell ⟨w.heap.size, 2, none⟩ (.slice oa no oc)).setCell ⟨w.heap.size, 3, none⟩ (.slice va nv vc)).setCell ⟨w.heap.size, 4, none⟩ (.int .i64 c.f)).setCell ⟨w.heap.size + 1, 0, none⟩ (.bool true)) (W3.heap.size + 1) (.slice za nz zc) (.slice oa no oc) (.slice va nv vc) c) := CO.set (CO.set (CO.set (CO.set (CO.set (CO.set P5.out (by omega)) (by omega)) (by omega)) (by omega)) (by omega)) (by omega)
      go_wp2
      clear c0 c1 c2 c3 c4 b0 f0 f1
      generalize (((((W5.setCell ⟨w.heap.size, 0, none⟩ (.int .i64 c.n)).setCell ⟨w.heap.size, 1, none⟩ (.slice za nz zc)).setCell ⟨w.heap.size, 2, none⟩ (.slice oa no oc)).setCell ⟨w.heap.size, 3, none⟩ (.slice va nv vc)).setCell ⟨w.heap.size, 4, none⟩ (.int .i64 c.f)).setCell ⟨w.heap.size + 1, 0, none⟩ (.bool true) = W6 at *
      refine leaves_cons (f := 34) (args := #[.pointer (some ⟨w.heap.size, 0, none⟩), .pointer (some ⟨w.heap.size + 1, 0, none⟩)]) (by simp) (by simp [go_sem]) ?_
      refine (catch_idleC _ _ _).mono ?_
      rintro e u' w'' ⟨rfl, rfl, rfl⟩
      obtain ⟨c0, c1, c2, c3, c4⟩ := cells5 T6.out
      have b0 : w''.cell? ⟨w.heap.size + 1, 0, none⟩ = some (.bool true) := by rw [cell_of_row _ _ _ _ _ _ O6.out]; rfl
      simp [Leaves, settle, results, Tryd.results16, go_sem, c0, c1, c2, c3, c4, b0]
      exact .inl ⟨c, _, _, _, HR.out, rfl, B6.out, P6.out.base (by omega)⟩
    · rw [decide_eq_false h0]
      refine (must_no _ _).mono ?_
      rintro e w' ⟨rfl, rfl⟩
      exact gave_endC B5.out T5.out O5.out (by rw [HRF.out, HP.out]; simp [h0]) rfl rfl
  · have T4 : w4.heap[w.heap.size]? = some (.cells #[.int .i64 0, .slice none 0 0, .slice none 0 0, .slice none 0 0, .int .i64 0] 30 (0, 0)) := grown_row hg T3.out (by simp; omega)
    have O4 : w4.heap[w.heap.size + 1]? = some (.cells #[.bool false] 4 (0, 0)) := grown_row hg O3.out (by simp)
    have B4 : Below w.heap.size w w4 := B3.out.grown hg (by rw [Z3.out]; omega) (fun k e => by simp at e; omega)
    exact gave_endC B4 T4 O4 (by rw [HRF.out, hp]) rfl rfl

end Go.Proofs.YtaofpbmdloihgaaDoor

namespace Go.Proofs.YtaofpbmdloihgaaDoor
open Go.RowKit

set_option maxHeartbeats 2000000 in
theorem implReadCase_any (s : List UInt8) (w : World) (hs : s.length ≤ 1000000000) :
    Calls Tryd.prog 7 #[.string (txt s)] w (ReadOkC w s) := by
  have B0 : Hid (Below w.heap.size w (w.alloc (.cells #[.int .i64 0, .slice none 0 0, .slice none 0 0, .slice none 0 0, .int .i64 0] 30))) := (Below.refl _ _).alloc (Nat.le_refl _) _
  have Z0 : Hid ((w.alloc (.cells #[.int .i64 0, .slice none 0 0, .slice none 0 0, .slice none 0 0, .int .i64 0] 30)).heap[w.heap.size]? = some (.cells #[.int .i64 0, .slice none 0 0, .slice none 0 0, .slice none 0 0, .int .i64 0] 30 (0, 0))) := heap_alloc_new _ _
  have S0 : Hid ((w.alloc (.cells #[.int .i64 0, .slice none 0 0, .slice none 0 0, .slice none 0 0, .int .i64 0] 30)).heap.size = w.heap.size + 1) := by show _ = _; simp
  go_enter Tryd.func7, Tryd.ntmps7
  go_wp2_with fail
  generalize w.alloc (.cells #[.int .i64 0, .slice none 0 0, .slice none 0 0, .slice none 0 0, .int .i64 0] 30) = W0 at *
  refine (readWholeC_any s W0 hs).mono ?_
  rintro e w1 (⟨c, zl, ol, vl, hr, rfl, hb, ho⟩ | ⟨hr, rfl, hb⟩)
  · obtain ⟨za, zc, e1, -⟩ := own_sl ho.z
    obtain ⟨oa, oc, e2, -⟩ := own_sl ho.o
    obtain ⟨va, vc, e3, -⟩ := own_sl ho.v
    subst e1 e2 e3
    obtain ⟨nz, HN1⟩ : ∃ n, Hid (c.zs.length = n) := ⟨_, rfl⟩
    obtain ⟨no, HN2⟩ : ∃ n, Hid (c.ko = n) := ⟨_, rfl⟩
    obtain ⟨nv, HN3⟩ : ∃ n, Hid (c.kv = n) := ⟨_, rfl⟩
    rw [HN1.out, HN2.out, HN3.out] at ho
    rw [HN1.out, HN2.out, HN3.out]
    have HR : Hid (readC s = some c) := hr
    have B1 : Hid (Below w.heap.size w w1) := B0.out.trans (hb.mono B0.out.size)
    have Z1 : Hid (w1.heap[w.heap.size]? = some (.cells #[.int .i64 0, .slice none 0 0, .slice none 0 0, .slice none 0 0, .int .i64 0] 30 (0, 0))) := below_row hb (row_lt Z0.out) Z0.out
    have P1 : Hid (CO w1 (w.heap.size + 3) (.slice za nz zc) (.slice oa no oc) (.slice va nv vc) c) := ho.base (by rw [S0.out]; omega)
    clear hr hb ho B0 Z0
    obtain ⟨c0, c1, c2, c3, c4⟩ := cells5 Z1.out
    have f0 := fun i => frozen_of_row _ _ i _ _ Z1.out
    go_wp2
    refine bodyPost_ret (v := .tuple #[.agg #[.int .i64 c.n, .slice za nz zc, .slice oa no oc, .slice va nv vc, .int .i64 c.f], .bool true]) (by simp [results, Tryd.results7, go_sem, c0, c1, c2, c3, c4]) rfl ?_
    refine .inl ⟨c, _, _, _, HR.out, rfl, ?_, ?_⟩
    · exact (Below.setCell (Below.setCell (Below.setCell (Below.setCell (Below.setCell B1.out (by simp) _) (by simp) _) (by simp) _) (by simp) _) (by simp) _)
    · exact (CO.set (CO.set (CO.set (CO.set (CO.set P1.out (by omega)) (by omega)) (by omega)) (by omega)) (by omega))
  · have HR : Hid (readC s = none) := hr
    have B1 : Hid (Below w.heap.size w w1) := B0.out.trans (hb.mono B0.out.size)
    have Z1 : Hid (w1.heap[w.heap.size]? = some (.cells #[.int .i64 0, .slice none 0 0, .slice none 0 0, .slice none 0 0, .int .i64 0] 30 (0, 0))) := below_row hb (row_lt Z0.out) Z0.out
    clear hr hb B0 Z0
    obtain ⟨c0, c1, c2, c3, c4⟩ := cells5 Z1.out
    have f0 := fun i => frozen_of_row _ _ i _ _ Z1.out
    go_wp2
    refine bodyPost_ret (v := .tuple #[.agg #[.int .i64 0, .slice none 0 0, .slice none 0 0, .slice none 0 0, .int .i64 0], .bool false]) (by simp [results, Tryd.results7, go_sem, c0, c1, c2, c3, c4]) rfl ?_
    refine .inr ⟨HR.out, rfl, ?_⟩
    exact (Below.setCell (Below.setCell (Below.setCell (Below.setCell (Below.setCell B1.out (by simp) _) (by simp) _) (by simp) _) (by simp) _) (by simp) _)

end Go.Proofs.YtaofpbmdloihgaaDoor

namespace Go.Proofs.YtaofpbmdloihgaaDoor
open Go.RowKit

theorem but_own {S : Nat → Prop} {w w' : World} {base size n : Nat} {e : TypeId} {v : Value} {xs : List Value} (h : GrownBut S w w') (ho : w.ownsRow base e size v n xs) (hs : ∀ b, v.ownBlock = some b → ¬ S b) : w'.ownsRow base e size v n xs := by
  obtain ⟨h1, h2 | ⟨g, cap, cur, h2, h3, h4, h5⟩⟩ := ho
  · exact ⟨h1, .inl h2⟩
  · exact ⟨h1, .inr ⟨g, cap, cur, h2, h3, h.row h4 (hs g (by rw [h2]; rfl)), h5⟩⟩
/-- The blocks of three rows. -/
def caseBl (zl ol vl : Value) (b : Nat) : Prop := zl.ownBlock = some b ∨ ol.ownBlock = some b ∨ vl.ownBlock = some b

end Go.Proofs.YtaofpbmdloihgaaDoor
