import Derived.Test.YtfcplmageokdiafSzMat
import Derived.Test.YtfcplmageokdiafToMat
import Derived.Test.YtfcplmageokdiafEqMat
import Derived.Test.YtfcplmageokdiafOrders
import Derived.Test.YtfcplmageokdiafVehicles
namespace Go.Proofs.Ytfcplmageokdiaf
open Go.RowKit

/-- What szCase answers. -/
def szV (left : Int) (lt ko kv : Nat) : Int := if left < lt then -1 else if left - lt < ko then -1 else if left - lt - ko < kv then -1 else left - lt - ko - kv
theorem szV_neg {lt ko kv : Nat} (h : ¬ (lt + ko + kv ≤ 1048576)) : szV 1048576 lt ko kv = -1 := by
  unfold szV
  split
  · rfl
  · split
    · rfl
    · split
      · rfl
      · omega
theorem szV_pos {lt ko kv : Nat} (h : lt + ko + kv ≤ 1048576) : szV 1048576 lt ko kv = 1048576 - lt - ko - kv := by
  unfold szV
  rw [if_neg (by omega), if_neg (by omega), if_neg (by omega)]

set_option maxHeartbeats 1000000 in
theorem szCase_any (n fine left : Int) (a ao av : Option Addr) (lt cap ko co kv cv : Nat) (w : World) (h0 : 0 ≤ left) (h1 : left ≤ 1048576) (hlt : lt ≤ 9223372036854775807) (hko : ko ≤ 9223372036854775807) (hkv : kv ≤ 9223372036854775807) :
    Calls Try.prog 6 #[.agg #[.int .i64 n, .slice a lt cap, .slice ao ko co, .slice av kv cv, .int .i64 fine], .int .i64 left] w fun e w' => e = .returned (.int .i64 (szV left lt ko kv)) ∧ Below w.heap.size w w' := by
  obtain ⟨r, HR⟩ : ∃ r, Hid (szV left lt ko kv = r) := ⟨_, rfl⟩
  rw [HR.out]
  go_enter Try.func6, Try.ntmps6
  go_wp2_with fail
  refine (szMat_any n a lt cap left _ h0 h1 hlt).mono ?_
  rintro e w1 ⟨rfl, hb⟩
  obtain ⟨b1, r1⟩ := box5 hb
  obtain ⟨c0, c1, c2, c3, c4⟩ := cells5 r1
  clear hb r1
  by_cases ha : left < lt
  · rw [if_pos ha]
    have HV : Hid (szV left lt ko kv = -1) := by
      show _ = _
      unfold szV; rw [if_pos ha]
    go_wp2
    go_ret
    exact ⟨ret_int (HV.out.symm.trans HR.out), b1⟩
  · rw [if_neg ha]
    have hl1 : (lt : Int) ≤ left := by omega
    by_cases hb : left - lt < ko
    · have HV : Hid (szV left lt ko kv = -1) := by
        show _ = _
        unfold szV; rw [if_neg ha, if_pos hb]
      go_wp2_with (go_at_call 22; refine (szOrder_any _ _ _ _ _ (by omega) (by omega) hko).mono ?_; rintro e w' ⟨rfl, rfl⟩; rw [if_pos (by omega)])
      go_ret
      exact ⟨ret_int (HV.out.symm.trans HR.out), b1⟩
    · have hl2 : (ko : Int) ≤ left - lt := by omega
      by_cases hc : left - lt - ko < kv
      · have HV : Hid (szV left lt ko kv = -1) := by
          show _ = _
          unfold szV; rw [if_neg ha, if_neg hb, if_pos hc]
        go_wp2_with (first
          | (go_at_call 22; refine (szOrder_any _ _ _ _ _ (by omega) (by omega) hko).mono ?_; rintro e w' ⟨rfl, rfl⟩; rw [if_neg (by omega)])
          | (go_at_call 23; refine (szVehicle_any _ _ _ _ _ (by omega) (by omega) hkv).mono ?_; rintro e w' ⟨rfl, rfl⟩; rw [if_pos (by omega)]))
        go_ret
        exact ⟨ret_int (HV.out.symm.trans HR.out), b1⟩
      · have hl3 : (kv : Int) ≤ left - lt - ko := by omega
        have HV : Hid (szV left lt ko kv = left - lt - ko - kv) := by
          show _ = _
          unfold szV; rw [if_neg ha, if_neg hb, if_neg hc]
        go_wp2_with (first
          | (go_at_call 22; refine (szOrder_any _ _ _ _ _ (by omega) (by omega) hko).mono ?_; rintro e w' ⟨rfl, rfl⟩; rw [if_neg (by omega)])
          | (go_at_call 23; refine (szVehicle_any _ _ _ _ _ (by omega) (by omega) hkv).mono ?_; rintro e w' ⟨rfl, rfl⟩; rw [if_neg (by omega)]))
        go_ret
        exact ⟨ret_int (HV.out.symm.trans HR.out), b1⟩

/-- A case that a call has made lies in this world: three rows of its own. -/
def CaseAt (w : World) (g go gv : Nat) (zs os vs : List Int) : Prop :=
  w.heap[g]? = some (.cells (cellsOf zs) 2 (0, 0)) ∧ w.heap[go]? = some (.cells (cellsOf os) 60 (0, 0)) ∧ w.heap[gv]? = some (.cells (cellsOf vs) 92 (0, 0))
theorem CaseAt.below {w w' : World} {g go gv : Nat} {zs os vs : List Int} (h : CaseAt w g go gv zs os vs) (hb : Below w.heap.size w w') : CaseAt w' g go gv zs os vs :=
  ⟨below_row hb (row_lt h.1) h.1, below_row hb (row_lt h.2.1) h.2.1, below_row hb (row_lt h.2.2) h.2.2⟩
theorem CaseAt.t {w : World} {g go gv : Nat} {zs os vs : List Int} (h : CaseAt w g go gv zs os vs) : IntsAt w (some ⟨g, 0, none⟩) zs := IntsAt.of_row h.1
theorem CaseAt.o {w : World} {g go gv : Nat} {zs os vs : List Int} (h : CaseAt w g go gv zs os vs) : IntsAt w (some ⟨go, 0, none⟩) os := IntsAt.of_row h.2.1
theorem CaseAt.v {w : World} {g go gv : Nat} {zs os vs : List Int} (h : CaseAt w g go gv zs os vs) : IntsAt w (some ⟨gv, 0, none⟩) vs := IntsAt.of_row h.2.2

/-- Inside toCase: the argument's box, the result's cells, the case in the making. -/
def TC (w W : World) (src z out : Array Value) : Prop :=
  Below w.heap.size w W ∧ W.heap[w.heap.size]? = some (.cells src 28 (0, 0)) ∧ W.heap[w.heap.size + 1]? = some (.cells z 39 (0, 0)) ∧ W.heap[w.heap.size + 1 + 1]? = some (.cells out 39 (0, 0))
theorem TC.below {w W W' : World} {src z out : Array Value} (h : TC w W src z out) (hb : Below W.heap.size W W') : TC w W' src z out :=
  ⟨h.1.trans (hb.mono h.1.size), below_row hb (row_lt h.2.1) h.2.1, below_row hb (row_lt h.2.2.1) h.2.2.1, below_row hb (row_lt h.2.2.2) h.2.2.2⟩
theorem TC.set {w W : World} {src z out : Array Value} (h : TC w W src z out) (i : Nat) (v : Value) : TC w (W.setCell ⟨w.heap.size + 1 + 1, i, none⟩ v) src z (out.setIfInBounds i v) := by
  refine ⟨h.1.setCell (by simp <;> omega) _, ?_, ?_, heap_setCell_same _ _ _ _ _ _ h.2.2.2⟩
  · rw [heap_setCell_other _ _ _ _ (by simp <;> omega)]; exact h.2.1
  · rw [heap_setCell_other _ _ _ _ (by simp <;> omega)]; exact h.2.2.1
theorem row_set {W : World} {g k i : Nat} {o : Obj} {v : Value} (h : W.heap[g]? = some o) (hne : g ≠ k) : (W.setCell ⟨k, i, none⟩ v).heap[g]? = some o := by
  rw [heap_setCell_other _ _ _ _ (by simpa using hne)]; exact h

set_option maxHeartbeats 1000000 in
theorem toCase_any (n fine : Int) (a ao av : Option Addr) (cap ko co kv cv : Nat) (zs os vs : List Int) (w : World) (hA : IntsAt w a zs) (hO : IntsAt w ao os) (hV : IntsAt w av vs) (hlo : os.length = ko * 6) (hlv : vs.length = kv * 5) (hlt : zs.length ≤ 1048576) (hko : ko ≤ 1048576) (hkv : kv ≤ 1048576) :
    Calls Try.prog 8 #[.agg #[.int .i64 n, .slice a zs.length cap, .slice ao ko co, .slice av kv cv, .int .i64 fine]] w fun e w' => ∃ g go gv, w.heap.size ≤ g ∧ w.heap.size ≤ go ∧ w.heap.size ≤ gv ∧ e = .returned (.agg #[.int .i64 n, .slice (some ⟨g, 0, none⟩) zs.length zs.length, .slice (some ⟨go, 0, none⟩) ko ko, .slice (some ⟨gv, 0, none⟩) kv kv, .int .i64 fine]) ∧ Below w.heap.size w w' ∧ CaseAt w' g go gv zs os vs := by
  have HA : Hid (IntsAt w a zs) := hA
  have HO : Hid (IntsAt w ao os) := hO
  have HV : Hid (IntsAt w av vs) := hV
  have HLO : Hid _ := hlo
  have HLV : Hid _ := hlv
  clear hA hO hV hlo hlv
  go_enter Try.func8, Try.ntmps8
  go_wp2_with fail
  have B0 : Hid (Below w.heap.size w (((w.alloc (Obj.cells #[Value.int IntKind.i64 n, Value.slice a zs.length cap, Value.slice ao ko co, Value.slice av kv cv, Value.int IntKind.i64 fine] 28)).alloc (Obj.cells #[Value.int IntKind.i64 0, Value.slice none 0 0, Value.slice none 0 0, Value.slice none 0 0, Value.int IntKind.i64 0] 39)).alloc (Obj.cells #[Value.int IntKind.i64 0, Value.slice none 0 0, Value.slice none 0 0, Value.slice none 0 0, Value.int IntKind.i64 0] 39))) :=
    (((Below.refl _ _).alloc (Nat.le_refl _) _).alloc (by simp) _).alloc (by simp <;> omega) _
  have R0 : Hid ((((w.alloc (Obj.cells #[Value.int IntKind.i64 n, Value.slice a zs.length cap, Value.slice ao ko co, Value.slice av kv cv, Value.int IntKind.i64 fine] 28)).alloc (Obj.cells #[Value.int IntKind.i64 0, Value.slice none 0 0, Value.slice none 0 0, Value.slice none 0 0, Value.int IntKind.i64 0] 39)).alloc (Obj.cells #[Value.int IntKind.i64 0, Value.slice none 0 0, Value.slice none 0 0, Value.slice none 0 0, Value.int IntKind.i64 0] 39)).heap[w.heap.size]? = some (.cells #[Value.int IntKind.i64 n, Value.slice a zs.length cap, Value.slice ao ko co, Value.slice av kv cv, Value.int IntKind.i64 fine] 28 (0, 0))) := by
    show _ = _
    rw [heap_alloc_old _ _ (by simp <;> omega)]
    exact heap_alloc2_old _ _ _
  have R1 : Hid ((((w.alloc (Obj.cells #[Value.int IntKind.i64 n, Value.slice a zs.length cap, Value.slice ao ko co, Value.slice av kv cv, Value.int IntKind.i64 fine] 28)).alloc (Obj.cells #[Value.int IntKind.i64 0, Value.slice none 0 0, Value.slice none 0 0, Value.slice none 0 0, Value.int IntKind.i64 0] 39)).alloc (Obj.cells #[Value.int IntKind.i64 0, Value.slice none 0 0, Value.slice none 0 0, Value.slice none 0 0, Value.int IntKind.i64 0] 39)).heap[w.heap.size + 1]? = some (.cells #[Value.int IntKind.i64 0, Value.slice none 0 0, Value.slice none 0 0, Value.slice none 0 0, Value.int IntKind.i64 0] 39 (0, 0))) := by
    show _ = _
    rw [heap_alloc_old _ _ (by simp <;> omega)]
    exact heap_alloc2_new _ _ _
  have R2 : Hid ((((w.alloc (Obj.cells #[Value.int IntKind.i64 n, Value.slice a zs.length cap, Value.slice ao ko co, Value.slice av kv cv, Value.int IntKind.i64 fine] 28)).alloc (Obj.cells #[Value.int IntKind.i64 0, Value.slice none 0 0, Value.slice none 0 0, Value.slice none 0 0, Value.int IntKind.i64 0] 39)).alloc (Obj.cells #[Value.int IntKind.i64 0, Value.slice none 0 0, Value.slice none 0 0, Value.slice none 0 0, Value.int IntKind.i64 0] 39)).heap[w.heap.size + 1 + 1]? = some (.cells #[Value.int IntKind.i64 0, Value.slice none 0 0, Value.slice none 0 0, Value.slice none 0 0, Value.int IntKind.i64 0] 39 (0, 0))) := by
    have := heap_alloc_new ((w.alloc (Obj.cells #[Value.int IntKind.i64 n, Value.slice a zs.length cap, Value.slice ao ko co, Value.slice av kv cv, Value.int IntKind.i64 fine] 28)).alloc (Obj.cells #[Value.int IntKind.i64 0, Value.slice none 0 0, Value.slice none 0 0, Value.slice none 0 0, Value.int IntKind.i64 0] 39)) (Obj.cells #[Value.int IntKind.i64 0, Value.slice none 0 0, Value.slice none 0 0, Value.slice none 0 0, Value.int IntKind.i64 0] 39)
    show _ = _
    simpa using this
  have T0 : Hid (TC w (((w.alloc (Obj.cells #[Value.int IntKind.i64 n, Value.slice a zs.length cap, Value.slice ao ko co, Value.slice av kv cv, Value.int IntKind.i64 fine] 28)).alloc (Obj.cells #[Value.int IntKind.i64 0, Value.slice none 0 0, Value.slice none 0 0, Value.slice none 0 0, Value.int IntKind.i64 0] 39)).alloc (Obj.cells #[Value.int IntKind.i64 0, Value.slice none 0 0, Value.slice none 0 0, Value.slice none 0 0, Value.int IntKind.i64 0] 39)) #[Value.int IntKind.i64 n, Value.slice a zs.length cap, Value.slice ao ko co, Value.slice av kv cv, Value.int IntKind.i64 fine] #[Value.int IntKind.i64 0, Value.slice none 0 0, Value.slice none 0 0, Value.slice none 0 0, Value.int IntKind.i64 0] #[Value.int IntKind.i64 0, Value.slice none 0 0, Value.slice none 0 0, Value.slice none 0 0, Value.int IntKind.i64 0]) := ⟨B0.out, R0.out, R1.out, R2.out⟩
  clear B0 R0 R1 R2
  generalize ((w.alloc (Obj.cells #[Value.int IntKind.i64 n, Value.slice a zs.length cap, Value.slice ao ko co, Value.slice av kv cv, Value.int IntKind.i64 fine] 28)).alloc (Obj.cells #[Value.int IntKind.i64 0, Value.slice none 0 0, Value.slice none 0 0, Value.slice none 0 0, Value.int IntKind.i64 0] 39)).alloc (Obj.cells #[Value.int IntKind.i64 0, Value.slice none 0 0, Value.slice none 0 0, Value.slice none 0 0, Value.int IntKind.i64 0] 39) = W0 at *
  have hW0 := row_lt T0.out.2.2.2
  -- the times
  refine (toMat_any n a cap zs _ (HA.out.below T0.out.1) hlt).mono ?_
  rintro e w1 ⟨g, hg0, rfl, hb, hg⟩
  have T1 : Hid _ := T0.out.below hb
  have hg1 : w.heap.size + 1 + 1 < g := by omega
  have G1 : Hid _ := hg
  clear T0 hb hg hg0 hW0 W0
  obtain ⟨c0, c1, c2, c3, c4⟩ := cells5 T1.out.2.1
  obtain ⟨x0, x1, x2, x3, x4⟩ := cells5 T1.out.2.2.2
  have f0 := fun i => frozen_of_row _ _ i _ _ T1.out.2.2.2
  go_wp2_with fail
  have T2 : Hid (TC w ((w1.setCell ⟨w.heap.size + 1 + 1, 0, none⟩ (.int .i64 n)).setCell ⟨w.heap.size + 1 + 1, 1, none⟩ (.slice (some ⟨g, 0, none⟩) zs.length zs.length)) #[Value.int IntKind.i64 n, Value.slice a zs.length cap, Value.slice ao ko co, Value.slice av kv cv, Value.int IntKind.i64 fine] #[Value.int IntKind.i64 0, Value.slice none 0 0, Value.slice none 0 0, Value.slice none 0 0, Value.int IntKind.i64 0] #[Value.int IntKind.i64 n, Value.slice (some ⟨g, 0, none⟩) zs.length zs.length, Value.slice none 0 0, Value.slice none 0 0, Value.int IntKind.i64 0]) := by
    have := TC.set (TC.set T1.out 0 (.int .i64 n)) 1 (.slice (some ⟨g, 0, none⟩) zs.length zs.length)
    change TC w _ _ _ _
    simpa using this
  have G2 : Hid (((w1.setCell ⟨w.heap.size + 1 + 1, 0, none⟩ (.int .i64 n)).setCell ⟨w.heap.size + 1 + 1, 1, none⟩ (.slice (some ⟨g, 0, none⟩) zs.length zs.length)).heap[g]? = _) := row_set (row_set G1.out (by omega)) (by omega)
  clear T1 G1 c0 c1 c2 c3 c4 x0 x1 x2 x3 x4 f0
  generalize (w1.setCell ⟨w.heap.size + 1 + 1, 0, none⟩ (.int .i64 n)).setCell ⟨w.heap.size + 1 + 1, 1, none⟩ (.slice (some ⟨g, 0, none⟩) zs.length zs.length) = W2 at *
  -- the orders
  have hW2 := row_lt T2.out.2.2.2
  refine (toOrderS_any ao ko co os _ (HO.out.below T2.out.1) HLO.out hko).mono ?_
  rintro e w3 ⟨rfl, hb, hg⟩
  have T3 : Hid _ := T2.out.below hb
  have G3 : Hid _ := below_row hb (row_lt G2.out) G2.out
  have O3 : Hid _ := hg
  obtain ⟨go, HGO⟩ : ∃ go, Hid (W2.heap.size = go) := ⟨_, rfl⟩
  rw [HGO.out] at O3 hW2 ⊢
  clear T2 G2 hb hg HGO W2 w1
  obtain ⟨c0, c1, c2, c3, c4⟩ := cells5 T3.out.2.1
  obtain ⟨x0, x1, x2, x3, x4⟩ := cells5 T3.out.2.2.2
  have f0 := fun i => frozen_of_row _ _ i _ _ T3.out.2.2.2
  go_wp2_with fail
  have T4 : Hid (TC w (w3.setCell ⟨w.heap.size + 1 + 1, 2, none⟩ (.slice (some ⟨go, 0, none⟩) ko ko)) #[Value.int IntKind.i64 n, Value.slice a zs.length cap, Value.slice ao ko co, Value.slice av kv cv, Value.int IntKind.i64 fine] #[Value.int IntKind.i64 0, Value.slice none 0 0, Value.slice none 0 0, Value.slice none 0 0, Value.int IntKind.i64 0] #[Value.int IntKind.i64 n, Value.slice (some ⟨g, 0, none⟩) zs.length zs.length, Value.slice (some ⟨go, 0, none⟩) ko ko, Value.slice none 0 0, Value.int IntKind.i64 0]) := by
    have := TC.set T3.out 2 (.slice (some ⟨go, 0, none⟩) ko ko)
    change TC w _ _ _ _
    simpa using this
  have G4 : Hid ((w3.setCell ⟨w.heap.size + 1 + 1, 2, none⟩ (.slice (some ⟨go, 0, none⟩) ko ko)).heap[g]? = _) := row_set G3.out (by omega)
  have O4 : Hid ((w3.setCell ⟨w.heap.size + 1 + 1, 2, none⟩ (.slice (some ⟨go, 0, none⟩) ko ko)).heap[go]? = _) := row_set O3.out (by omega)
  clear T3 G3 O3 c0 c1 c2 c3 c4 x0 x1 x2 x3 x4 f0
  generalize w3.setCell ⟨w.heap.size + 1 + 1, 2, none⟩ (.slice (some ⟨go, 0, none⟩) ko ko) = W4 at *
  -- the vehicles
  have hW4 := row_lt T4.out.2.2.2
  refine (toVehicleS_any av kv cv vs _ (HV.out.below T4.out.1) HLV.out hkv).mono ?_
  rintro e w5 ⟨rfl, hb, hg⟩
  have T5 : Hid _ := T4.out.below hb
  have G5 : Hid _ := below_row hb (row_lt G4.out) G4.out
  have O5 : Hid _ := below_row hb (row_lt O4.out) O4.out
  have V5 : Hid _ := hg
  obtain ⟨gv, HGV⟩ : ∃ gv, Hid (W4.heap.size = gv) := ⟨_, rfl⟩
  rw [HGV.out] at V5 hW4 ⊢
  clear T4 G4 O4 hb hg HGV W4 w3
  obtain ⟨c0, c1, c2, c3, c4⟩ := cells5 T5.out.2.1
  obtain ⟨z0, z1, z2, z3, z4⟩ := cells5 T5.out.2.2.1
  obtain ⟨x0, x1, x2, x3, x4⟩ := cells5 T5.out.2.2.2
  have f0 := fun i => frozen_of_row _ _ i _ _ T5.out.2.2.2
  have f1 := fun i => frozen_of_row _ _ i _ _ T5.out.2.2.1
  go_wp2
  refine bodyPost_ret (v := .agg #[.int .i64 n, .slice (some ⟨g, 0, none⟩) zs.length zs.length, .slice (some ⟨go, 0, none⟩) ko ko, .slice (some ⟨gv, 0, none⟩) kv kv, .int .i64 fine]) (by simp [results, Try.results8, go_sem, z0, z1, z2, z3, z4]) rfl ⟨g, go, gv, by omega, by omega, by omega, rfl, ?_, ?_⟩
  · repeat (first | with_reducible exact T5.out.1 | refine Below.setCell ?_ (by simp <;> omega) _)
  · refine ⟨?_, ?_, ?_⟩
    · repeat (first | with_reducible exact G5.out | refine row_set ?_ (by omega))
    · repeat (first | with_reducible exact O5.out | refine row_set ?_ (by omega))
    · repeat (first | with_reducible exact V5.out | refine row_set ?_ (by omega))

set_option maxHeartbeats 1000000 in
theorem eqCase_same (n fine : Int) (a ao av a' ao' av' : Option Addr) (cap ko co kv cv cap' co' cv' : Nat) (zs os vs : List Int) (w : World) (hA : IntsAt w a zs) (hO : IntsAt w ao os) (hV : IntsAt w av vs) (hA' : IntsAt w a' zs) (hO' : IntsAt w ao' os) (hV' : IntsAt w av' vs) (hlo : os.length = ko * 6) (hlv : vs.length = kv * 5) (hlt : zs.length ≤ 1125899906842624) (hko : ko ≤ 9223372036854775807) (hkv : kv ≤ 9223372036854775807) :
    Calls Try.prog 11 #[.agg #[.int .i64 n, .slice a zs.length cap, .slice ao ko co, .slice av kv cv, .int .i64 fine], .agg #[.int .i64 n, .slice a' zs.length cap', .slice ao' ko co', .slice av' kv cv', .int .i64 fine]] w fun e w' => e = .returned (.bool true) ∧ Below w.heap.size w w' := by
  have HA : Hid (IntsAt w a zs) := hA
  have HO : Hid (IntsAt w ao os) := hO
  have HV : Hid (IntsAt w av vs) := hV
  have HA' : Hid (IntsAt w a' zs) := hA'
  have HO' : Hid (IntsAt w ao' os) := hO'
  have HV' : Hid (IntsAt w av' vs) := hV'
  have HLO : Hid _ := hlo
  have HLV : Hid _ := hlv
  clear hA hO hV hA' hO' hV' hlo hlv
  have hff : (fine != fine) = false := by simp
  go_enter Try.func11, Try.ntmps11
  go_wp2_with fail
  have B0 : Hid (Below w.heap.size w ((w.alloc (Obj.cells #[Value.int IntKind.i64 n, Value.slice a zs.length cap, Value.slice ao ko co, Value.slice av kv cv, Value.int IntKind.i64 fine] 39)).alloc (Obj.cells #[Value.int IntKind.i64 n, Value.slice a' zs.length cap', Value.slice ao' ko co', Value.slice av' kv cv', Value.int IntKind.i64 fine] 39))) := ((Below.refl _ _).alloc (Nat.le_refl _) _).alloc (by simp) _
  have P0 : Hid (((w.alloc (Obj.cells #[Value.int IntKind.i64 n, Value.slice a zs.length cap, Value.slice ao ko co, Value.slice av kv cv, Value.int IntKind.i64 fine] 39)).alloc (Obj.cells #[Value.int IntKind.i64 n, Value.slice a' zs.length cap', Value.slice ao' ko co', Value.slice av' kv cv', Value.int IntKind.i64 fine] 39)).heap[w.heap.size]? = _) := heap_alloc2_old _ _ _
  have Q0 : Hid (((w.alloc (Obj.cells #[Value.int IntKind.i64 n, Value.slice a zs.length cap, Value.slice ao ko co, Value.slice av kv cv, Value.int IntKind.i64 fine] 39)).alloc (Obj.cells #[Value.int IntKind.i64 n, Value.slice a' zs.length cap', Value.slice ao' ko co', Value.slice av' kv cv', Value.int IntKind.i64 fine] 39)).heap[w.heap.size + 1]? = _) := heap_alloc2_new _ _ _
  generalize (w.alloc (Obj.cells #[Value.int IntKind.i64 n, Value.slice a zs.length cap, Value.slice ao ko co, Value.slice av kv cv, Value.int IntKind.i64 fine] 39)).alloc (Obj.cells #[Value.int IntKind.i64 n, Value.slice a' zs.length cap', Value.slice ao' ko co', Value.slice av' kv cv', Value.int IntKind.i64 fine] 39) = W0 at *
  refine (eqMat_same n a a' cap cap' zs _ (HA.out.below B0.out) (HA'.out.below B0.out) hlt).mono ?_
  rintro e w1 ⟨rfl, hb⟩
  have B1 : Hid (Below w.heap.size w w1) := B0.out.trans (hb.mono B0.out.size)
  have P1 : Hid _ := below_row hb (row_lt P0.out) P0.out
  have Q1 : Hid _ := below_row hb (row_lt Q0.out) Q0.out
  clear hb B0 P0 Q0
  obtain ⟨c0, c1, c2, c3, c4⟩ := cells5 P1.out
  obtain ⟨d0, d1, d2, d3, d4⟩ := cells5 Q1.out
  go_wp2_with fail
  refine (eqOrderS_same ao ao' ko co co' os _ (HO.out.below B1.out) (HO'.out.below B1.out) HLO.out hko).mono ?_
  rintro e w2 ⟨rfl, hb⟩
  have B2 : Hid (Below w.heap.size w w2) := B1.out.trans (hb.mono B1.out.size)
  have P2 : Hid _ := below_row hb (row_lt P1.out) P1.out
  have Q2 : Hid _ := below_row hb (row_lt Q1.out) Q1.out
  clear hb B1 P1 Q1 c0 c1 c2 c3 c4 d0 d1 d2 d3 d4
  obtain ⟨c0, c1, c2, c3, c4⟩ := cells5 P2.out
  obtain ⟨d0, d1, d2, d3, d4⟩ := cells5 Q2.out
  go_wp2_with fail
  refine (eqVehicleS_same av av' kv cv cv' vs _ (HV.out.below B2.out) (HV'.out.below B2.out) HLV.out hkv).mono ?_
  rintro e w3 ⟨rfl, hb⟩
  have B3 : Hid (Below w.heap.size w w3) := B2.out.trans (hb.mono B2.out.size)
  have P3 : Hid _ := below_row hb (row_lt P2.out) P2.out
  have Q3 : Hid _ := below_row hb (row_lt Q2.out) Q2.out
  clear hb B2 P2 Q2 c0 c1 c2 c3 c4 d0 d1 d2 d3 d4
  obtain ⟨c0, c1, c2, c3, c4⟩ := cells5 P3.out
  obtain ⟨d0, d1, d2, d3, d4⟩ := cells5 Q3.out
  go_wp2
  go_ret
  exact ⟨rfl, B3.out⟩

end Go.Proofs.Ytfcplmageokdiaf
