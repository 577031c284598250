import Derived.Test.YtiojgkebdjdgbaaPack0
import Derived.Test.YtiojgkebdjdgbaaPack2
import Derived.Test.YtiojgkebdjdgbaaPack5
import Derived.Deep.Cut
import Derived.Laws.EntriesVeiled
namespace Go.Proofs.Ytiojgkebdjdgbaa
open Go.RowKit

theorem pad_nil : cellsOf (padL []) = #[.int .i64 0, .int .i64 0, .int .i64 0, .int .i64 0, .int .i64 0, .int .i64 0] := rfl

/-- The world inside rowsOf, ahead of its store. -/
def W3 (w : World) (c : Nat) : World := ((w.alloc (.cells #[.int .i64 c] 2)).alloc (.cells #[.slice none 0 0] 56)).alloc (.cells #[.nilFunc] 78)
theorem W3.rows (w : World) (c : Nat) : (W3 w c).heap[w.heap.size]? = some (.cells #[.int .i64 c] 2 (0, 0)) ∧ (W3 w c).heap[w.heap.size + 1]? = some (.cells #[.slice none 0 0] 56 (0, 0)) ∧ (W3 w c).heap[w.heap.size + 1 + 1]? = some (.cells #[.nilFunc] 78 (0, 0)) := by
  unfold W3
  refine ⟨?_, ?_, ?_⟩
  · rw [heap_alloc_old _ _ (by simp; omega)]
    exact heap_alloc2_old _ _ _
  · rw [heap_alloc_old _ _ (by simp)]
    exact heap_alloc2_new _ _ _
  · have := heap_alloc_new ((w.alloc (.cells #[.int .i64 c] 2)).alloc (.cells #[.slice none 0 0] 56)) (.cells #[.nilFunc] 78)
    simpa using this
theorem W3.below (w : World) (c : Nat) : Below w.heap.size w (W3 w c) := (((Below.refl _ _).alloc (Nat.le_refl _) _).alloc (by simp) _).alloc (by simp; omega) _
theorem GB.start (w : World) (c : Nat) : GB ((W3 w c).setCell ⟨w.heap.size + 1 + 1, 0, none⟩ (.func (.func 58) #[] #[.pointer (some ⟨w.heap.size, 0, none⟩), .pointer (some ⟨w.heap.size + 1, 0, none⟩), .pointer (some ⟨w.heap.size + 1 + 1, 0, none⟩)])) c w.heap.size (.slice none 0 0) [] := by
  obtain ⟨h1, h2, h3⟩ := W3.rows w c
  refine ⟨?_, ?_, ?_, World.ownsRow_nil _ _ _ _⟩
  · rw [heap_setCell_other _ _ _ _ (by simp; omega)]; exact h1
  · rw [heap_setCell_other _ _ _ _ (by simp)]; exact h2
  · show _ = _
    rw [show w.heap.size + 2 = w.heap.size + 1 + 1 from rfl, heap_setCell_same _ _ _ _ _ _ h3]; rfl

set_option maxHeartbeats 1000000 in
theorem rowsOf_any (c : Nat) (hc : c ≤ 6) (w : World) :
    Calls Try.prog 37 #[.int .i64 c] w fun e w' => ∃ sl, e = .returned sl ∧ Below w.heap.size w w' ∧ w'.ownsRow (w.heap.size + 3) 55 6 sl (facN c) ((flatR (gen c c [])).map (Value.int .i64)) := by
  have HC : Hid (∀ W, GB W c w.heap.size (.slice none 0 0) [] → Calls Try.prog 58 #[.agg #[.int .i64 0, .int .i64 0, .int .i64 0, .int .i64 0, .int .i64 0, .int .i64 0], .int .i64 0, .pointer (some ⟨w.heap.size, 0, none⟩), .pointer (some ⟨w.heap.size + 1, 0, none⟩), .pointer (some ⟨w.heap.size + 1 + 1, 0, none⟩)] W fun e w' => e = .returned (.tuple #[]) ∧ ∃ sl', GB w' c w.heap.size sl' (gen c c []) ∧ RF W w' w.heap.size (.slice none 0 0) sl') :=
    fun W h => grow_any c hc w.heap.size c [] (.slice none 0 0) [] W (by simp) (by rw [av_nil]; simp) (by have := facN_bd c hc; simpa using this) h
  have HS : Hid (GB ((W3 w c).setCell ⟨w.heap.size + 1 + 1, 0, none⟩ (.func (.func 58) #[] #[.pointer (some ⟨w.heap.size, 0, none⟩), .pointer (some ⟨w.heap.size + 1, 0, none⟩), .pointer (some ⟨w.heap.size + 1 + 1, 0, none⟩)])) c w.heap.size (.slice none 0 0) []) := GB.start w c
  have HB : Hid (Below w.heap.size w ((W3 w c).setCell ⟨w.heap.size + 1 + 1, 0, none⟩ (.func (.func 58) #[] #[.pointer (some ⟨w.heap.size, 0, none⟩), .pointer (some ⟨w.heap.size + 1, 0, none⟩), .pointer (some ⟨w.heap.size + 1 + 1, 0, none⟩)]))) := (W3.below w c).setCell (by simp; omega) _
  obtain ⟨x0, x1, x2⟩ := HS.out.cells
  have x2' : (((W3 w c).setCell ⟨w.heap.size + 1 + 1, 0, none⟩ (.func (.func 58) #[] #[.pointer (some ⟨w.heap.size, 0, none⟩), .pointer (some ⟨w.heap.size + 1, 0, none⟩), .pointer (some ⟨w.heap.size + 1 + 1, 0, none⟩)])).cell? ⟨w.heap.size + 1 + 1, 0, none⟩) = some (.func (.func 58) #[] #[.pointer (some ⟨w.heap.size, 0, none⟩), .pointer (some ⟨w.heap.size + 1, 0, none⟩), .pointer (some ⟨w.heap.size + 1 + 1, 0, none⟩)]) := x2
  have y1 := cell_of_row _ _ 0 _ _ _ (W3.rows w c).2.2
  have y2 := frozen_of_row _ _ 0 _ _ (W3.rows w c).2.2
  simp only [List.getElem?_toArray, List.getElem?_cons_zero] at y1
  clear x0 x1 x2
  have HW : Hid (W3 w c = ((w.alloc (.cells #[.int .i64 c] 2)).alloc (.cells #[.slice none 0 0] 56)).alloc (.cells #[.nilFunc] 78)) := rfl
  go_enter Try.func37, Try.ntmps37
  go_upto_region 3 with fail
  rw [← HW.out]
  clear HW
  generalize W3 w c = W0 at *
  go_wp2_with (
    go_at_call 58
    refine (HC.out _ HS.out).mono ?_
    rintro e w1 ⟨rfl, sl, hg, hr⟩
    have HG : Hid (GB w1 c w.heap.size sl (gen c c [])) := hg
    have HR : Hid (Below w.heap.size w w1) := HB.out.trans hr.1
    obtain ⟨_, d1, _⟩ := hg.cells
    clear hg hr)
  go_ret
  refine ⟨_, rfl, HR.out, ?_⟩
  have := HG.out.o
  rwa [gen_len] at this

theorem cells_lit (c0 c1 c2 c3 c4 c5 : Int) : cellsOf [c0, c1, c2, c3, c4, c5] = #[.int .i64 c0, .int .i64 c1, .int .i64 c2, .int .i64 c3, .int .i64 c4, .int .i64 c5] := rfl

/-- The row m of those that rowsOf tells, cell by cell. -/
theorem row_cells {w : World} {g c m : Nat} {c0 c1 c2 c3 c4 c5 : Int} (h : IntsAt w (some ⟨g, 0, none⟩) (flatR (gen c c []))) (hm : m < facN c) (hp : padL (rowN c m) = [c0, c1, c2, c3, c4, c5]) :
    w.cell? ⟨g, m * 6, none⟩ = some (.int .i64 c0) ∧ w.cell? ⟨g, m * 6 + 1, none⟩ = some (.int .i64 c1) ∧ w.cell? ⟨g, m * 6 + 2, none⟩ = some (.int .i64 c2) ∧ w.cell? ⟨g, m * 6 + 3, none⟩ = some (.int .i64 c3) ∧ w.cell? ⟨g, m * 6 + 4, none⟩ = some (.int .i64 c4) ∧ w.cell? ⟨g, m * 6 + 5, none⟩ = some (.int .i64 c5) := by
  have key : ∀ j, j < 6 → w.cell? ⟨g, m * 6 + j, none⟩ = some (.int .i64 ([c0, c1, c2, c3, c4, c5].getD j 0)) := by
    intro j hj
    obtain ⟨_, _, e, hc⟩ := h (m * 6 + j) (by rw [flatR_length, gen_len]; omega)
    simp at e
    obtain ⟨rfl, rfl⟩ := e
    rw [Nat.zero_add] at hc
    rw [hc, flatR_at (gen_at hm) hj, hp]
  exact ⟨key 0 (by omega), key 1 (by omega), key 2 (by omega), key 3 (by omega), key 4 (by omega), key 5 (by omega)⟩

end Go.Proofs.Ytiojgkebdjdgbaa

namespace Go.Proofs.Ytiojgkebdjdgbaa
open Go.RowKit

/-- The answer's box, and the box of the best row so far. -/
def LQ (w W : World) (L : List Int) : Prop := Below w.heap.size w W ∧ W.heap[w.heap.size]? = some (.cells #[.int .i64 0, .int .i64 0, .int .i64 0, .int .i64 0, .int .i64 0, .int .i64 0] 55 (0, 0)) ∧ W.heap[w.heap.size + 1]? = some (.cells (cellsOf L) 55 (0, 0))
theorem LQ.b {w W : World} {L : List Int} (h : LQ w W L) : Below w.heap.size w W := h.1
theorem LQ.below {w W W' : World} {L : List Int} (h : LQ w W L) (hb : Below W.heap.size W W') : LQ w W' L := ⟨h.1.trans (hb.mono h.1.size), below_row hb (row_lt h.2.1) h.2.1, below_row hb (row_lt h.2.2) h.2.2⟩
/-- A row is written whole. -/
def setAll (W : World) (g : Nat) (c0 c1 c2 c3 c4 c5 : Int) : World := (((((W.setCell ⟨g, 0, none⟩ (.int .i64 c0)).setCell ⟨g, 1, none⟩ (.int .i64 c1)).setCell ⟨g, 2, none⟩ (.int .i64 c2)).setCell ⟨g, 3, none⟩ (.int .i64 c3)).setCell ⟨g, 4, none⟩ (.int .i64 c4)).setCell ⟨g, 5, none⟩ (.int .i64 c5)
theorem LQ.put {w W : World} {L : List Int} (h : LQ w W L) (hl : L.length = 6) (c0 c1 c2 c3 c4 c5 : Int) : LQ w (setAll W (w.heap.size + 1) c0 c1 c2 c3 c4 c5) [c0, c1, c2, c3, c4, c5] := by
  obtain ⟨b0, b1, b2, b3, b4, b5, rfl⟩ := list6 hl
  have s0 := heap_setCell_same W (w.heap.size + 1) 0 _ _ (Value.int .i64 c0) h.2.2
  have s1 := heap_setCell_same _ (w.heap.size + 1) 1 _ _ (Value.int .i64 c1) s0
  have s2 := heap_setCell_same _ (w.heap.size + 1) 2 _ _ (Value.int .i64 c2) s1
  have s3 := heap_setCell_same _ (w.heap.size + 1) 3 _ _ (Value.int .i64 c3) s2
  have s4 := heap_setCell_same _ (w.heap.size + 1) 4 _ _ (Value.int .i64 c4) s3
  have s5 := heap_setCell_same _ (w.heap.size + 1) 5 _ _ (Value.int .i64 c5) s4
  refine ⟨((((((h.1.setCell (by simp) _).setCell (by simp) _).setCell (by simp) _).setCell (by simp) _).setCell (by simp) _).setCell (by simp) _), ?_, ?_⟩
  · unfold setAll
    rw [heap_setCell_other _ _ _ _ (by simp), heap_setCell_other _ _ _ _ (by simp), heap_setCell_other _ _ _ _ (by simp), heap_setCell_other _ _ _ _ (by simp), heap_setCell_other _ _ _ _ (by simp), heap_setCell_other _ _ _ _ (by simp)]
    exact h.2.1
  · unfold setAll
    rw [s5]
    simp [cellsOf]
theorem row6 {w : World} {k : Nat} {c0 c1 c2 c3 c4 c5 : Value} {T : TypeId} (r : w.heap[k]? = some (.cells #[c0, c1, c2, c3, c4, c5] T (0, 0))) :
    w.cell? ⟨k, 0, none⟩ = some c0 ∧ w.cell? ⟨k, 1, none⟩ = some c1 ∧ w.cell? ⟨k, 2, none⟩ = some c2 ∧ w.cell? ⟨k, 3, none⟩ = some c3 ∧ w.cell? ⟨k, 4, none⟩ = some c4 ∧ w.cell? ⟨k, 5, none⟩ = some c5 := by
  refine ⟨?_, ?_, ?_, ?_, ?_, ?_⟩
  · rw [cell_of_row _ _ 0 _ _ _ r]; simp
  · rw [cell_of_row _ _ 1 _ _ _ r]; simp
  · rw [cell_of_row _ _ 2 _ _ _ r]; simp
  · rw [cell_of_row _ _ 3 _ _ _ r]; simp
  · rw [cell_of_row _ _ 4 _ _ _ r]; simp
  · rw [cell_of_row _ _ 5 _ _ _ r]; simp
def z6 : List Int := [0, 0, 0, 0, 0, 0]
/-- The best row of the first k. -/
def bestL (c : Nat) (f : Nat → Int) (k : Nat) : List Int := if k = 0 then z6 else padL (rowN c (lst f k).1)
theorem bestL_length (c : Nat) (f : Nat → Int) (k : Nat) : (bestL c f k).length = 6 := by
  unfold bestL
  split
  · rfl
  · exact padL_length _

set_option maxHeartbeats 2000000 in
theorem leastRow_any (g cg p1 p2 c m : Nat) (f : Nat → Int) (w : World) (hI : IntsAt w (some ⟨g, 0, none⟩) (flatR (gen c c []))) (hm : facN c = m) (hm7 : m ≤ 720)
    (hcl : ∀ (W : World) (k : Nat) (c0 c1 c2 c3 c4 c5 : Int), k < m → Below w.heap.size w W → padL (rowN c k) = [c0, c1, c2, c3, c4, c5] → Calls Try.prog 61 #[.agg #[.int .i64 c0, .int .i64 c1, .int .i64 c2, .int .i64 c3, .int .i64 c4, .int .i64 c5], .pointer (some ⟨p1, 0, none⟩), .pointer (some ⟨p2, 0, none⟩)] W fun e w' => e = .returned (.tuple #[.int .i64 (f k), .bool true]) ∧ Below W.heap.size W w') :
    Calls Try.prog 60 #[.slice (some ⟨g, 0, none⟩) m cg, .func (.func 61) #[] #[.pointer (some ⟨p1, 0, none⟩), .pointer (some ⟨p2, 0, none⟩)]] w fun e w' => e = .returned (.tuple #[.agg (cellsOf (padL (rowN c (lst f m).1))), .int .i64 (lst f m).2, .bool true]) ∧ Below w.heap.size w w' := by
  have HI : Hid (IntsAt w (some ⟨g, 0, none⟩) (flatR (gen c c []))) := hI
  have HM : Hid (facN c = m) := hm
  have HC : Hid (∀ (W : World) (k : Nat) (c0 c1 c2 c3 c4 c5 : Int), k < m → Below w.heap.size w W → padL (rowN c k) = [c0, c1, c2, c3, c4, c5] → Calls Try.prog 61 #[.agg #[.int .i64 c0, .int .i64 c1, .int .i64 c2, .int .i64 c3, .int .i64 c4, .int .i64 c5], .pointer (some ⟨p1, 0, none⟩), .pointer (some ⟨p2, 0, none⟩)] W fun e w' => e = .returned (.tuple #[.int .i64 (f k), .bool true]) ∧ Below W.heap.size W w') := hcl
  have hm0 : 0 < m := by rw [← hm]; exact facN_pos c
  clear hI hcl hm
  obtain ⟨V, HV0⟩ : ∃ v, Hid ((lst f m).2 = v) := ⟨_, rfl⟩
  obtain ⟨z0, z1, z2, z3, z4, z5, hzl⟩ := list6 (padL_length (rowN c (lst f m).1))
  have HZL : Hid (padL (rowN c (lst f m).1) = [z0, z1, z2, z3, z4, z5]) := hzl
  rw [hzl, cells_lit, HV0.out]
  clear hzl
  have B0 : Hid (LQ w ((w.alloc (.cells #[.int .i64 0, .int .i64 0, .int .i64 0, .int .i64 0, .int .i64 0, .int .i64 0] 55)).alloc (.cells #[.int .i64 0, .int .i64 0, .int .i64 0, .int .i64 0, .int .i64 0, .int .i64 0] 55)) z6) := ⟨((Below.refl _ _).alloc (Nat.le_refl _) _).alloc (by simp) _, heap_alloc2_old _ _ _, heap_alloc2_new _ _ _⟩
  go_enter Try.func60, Try.ntmps60
  go_wp2_with fail
  go_loopw [8, 9, 16] (fun tv tf t wr => ∃ k : Nat, k ≤ m ∧ t = .int .i64 k ∧ tv = .int .i64 (lst f k).2 ∧ tf = .bool (decide (0 < k)) ∧ LQ w wr (bestL c f k)) (fun _ _ t _ => m - (intOf t).toNat)
  case atStart => exact ⟨0, Nat.zero_le _, rfl, rfl, rfl, B0.out⟩
  case round =>
    clear B0
    obtain ⟨k, hk, rfl, rfl, rfl, hL⟩ := hrel
    have L1 : Hid (LQ w wr (bestL c f k)) := hL
    clear hL
    obtain ⟨lv, HLV⟩ : ∃ v, Hid ((lst f k).2 = v) := ⟨_, rfl⟩
    rw [HLV.out]
    by_cases hlt : k < m
    · obtain ⟨c0, c1, c2, c3, c4, c5, hpl⟩ := list6 (padL_length (rowN c k))
      have HPL : Hid (padL (rowN c k) = [c0, c1, c2, c3, c4, c5]) := hpl
      clear hpl
      obtain ⟨r0, r1, r2, r3, r4, r5⟩ := row_cells (HI.out.below L1.out.b) (by rw [HM.out]; exact hlt) HPL.out
      have N1 : Hid ((wr.alloc (.cells #[.int .i64 c0, .int .i64 c1, .int .i64 c2, .int .i64 c3, .int .i64 c4, .int .i64 c5] 55)).heap[wr.heap.size]? = some (.cells #[.int .i64 c0, .int .i64 c1, .int .i64 c2, .int .i64 c3, .int .i64 c4, .int .i64 c5] 55 (0, 0))) := heap_alloc_new _ _
      have L2 : Hid (LQ w (wr.alloc (.cells #[.int .i64 c0, .int .i64 c1, .int .i64 c2, .int .i64 c3, .int .i64 c4, .int .i64 c5] 55)) (bestL c f k)) := L1.out.below ((Below.refl _ _).alloc (Nat.le_refl _) _)
      go_wp2_with fail
      clear r0 r1 r2 r3 r4 r5
      refine (HC.out _ k c0 c1 c2 c3 c4 c5 hlt L2.out.b HPL.out).mono ?_
      rintro e w2 ⟨rfl, hb⟩
      obtain ⟨fk, HFK⟩ : ∃ v, Hid (f k = v) := ⟨_, rfl⟩
      rw [HFK.out]
      have L3 : Hid (LQ w w2 (bestL c f k)) := L2.out.below hb
      have N3 : Hid (w2.heap[wr.heap.size]? = some (.cells #[.int .i64 c0, .int .i64 c1, .int .i64 c2, .int .i64 c3, .int .i64 c4, .int .i64 c5] 55 (0, 0))) := below_row hb (row_lt N1.out) N1.out
      clear hb N1 L2 L1
      obtain ⟨eb, HEB⟩ : ∃ n, Hid (wr.heap.size = n) := ⟨_, rfl⟩
      rw [HEB.out] at N3 ⊢
      obtain ⟨n0, n1, n2, n3, n4, n5⟩ := row6 N3.out
      obtain ⟨b0, b1, b2, b3, b4, b5, hbl⟩ := list6 (bestL_length c f k)
      have L3' := L3.out.2.2
      rw [hbl, cells_lit] at L3'
      obtain ⟨q0, q1, q2, q3, q4, q5⟩ := row6 L3'
      have qf := fun i => frozen_of_row _ _ i _ _ L3'
      clear L3' hbl
      have LP : Hid (LQ w (setAll w2 (w.heap.size + 1) c0 c1 c2 c3 c4 c5) [c0, c1, c2, c3, c4, c5]) := L3.out.put (bestL_length c f k) c0 c1 c2 c3 c4 c5
      have UPD : Hid (k = 0 ∨ fk < lv → bestL c f (k + 1) = [c0, c1, c2, c3, c4, c5] ∧ (lst f (k + 1)).2 = fk) := fun h => by
        have e := lst_yes (f := f) (k := k) (by rw [HFK.out, HLV.out]; exact h)
        refine ⟨?_, by rw [e]; exact HFK.out⟩
        unfold bestL
        rw [if_neg (by omega), e]
        exact HPL.out
      have SAME : Hid (¬ (k = 0 ∨ fk < lv) → bestL c f (k + 1) = bestL c f k ∧ (lst f (k + 1)).2 = lv) := fun h => by
        have e := lst_no (f := f) (k := k) (by rw [HFK.out, HLV.out]; exact h)
        refine ⟨?_, by rw [e]; exact HLV.out⟩
        unfold bestL
        rw [if_neg (by omega), if_neg (fun e => h (Or.inl e)), e]
      by_cases hk0 : k = 0
      · obtain ⟨u1, u2⟩ := UPD.out (Or.inl hk0)
        have U1 : Hid (bestL c f (k + 1) = [c0, c1, c2, c3, c4, c5]) := u1
        have U2 : Hid ((lst f (k + 1)).2 = fk) := u2
        have hkd : decide (0 < k) = false := by simp [hk0]
        rw [hkd]
        clear u1 u2 UPD SAME hkd hk0
        go_wp2
        go_roundw
        case rel => exact ⟨k + 1, by omega, by first | rfl | go_num, by rw [U2.out], by simp, by rw [U1.out]; exact LP.out⟩
        case measure => simp [intOf]; omega
      · have hkd : decide (0 < k) = true := by simp; omega
        rw [hkd]
        by_cases hlv : fk < lv
        · obtain ⟨u1, u2⟩ := UPD.out (Or.inr hlv)
          have U1 : Hid (bestL c f (k + 1) = [c0, c1, c2, c3, c4, c5]) := u1
          have U2 : Hid ((lst f (k + 1)).2 = fk) := u2
          clear u1 u2 UPD SAME hkd hk0
          go_wp2
          go_roundw
          case rel => exact ⟨k + 1, by omega, by first | rfl | go_num, by rw [U2.out], by simp, by rw [U1.out]; exact LP.out⟩
          case measure => simp [intOf]; omega
        · obtain ⟨u1, u2⟩ := SAME.out (fun h => h.elim hk0 hlv)
          have U1 : Hid (bestL c f (k + 1) = bestL c f k) := u1
          have U2 : Hid ((lst f (k + 1)).2 = lv) := u2
          clear u1 u2 UPD SAME hkd hk0 LP
          go_wp2
          go_roundw
          case rel => exact ⟨k + 1, by omega, by first | rfl | go_num, by rw [U2.out], by simp, by rw [U1.out]; exact L3.out⟩
          case measure => simp [intOf]; omega
    · have hke : k = m := by omega
      have hkd : decide (0 < k) = true := by simp; omega
      have HV : Hid (lv = V) := by show lv = V; rw [← HLV.out, ← HV0.out, hke]
      have L2 : Hid (LQ w wr [z0, z1, z2, z3, z4, z5]) := by
        have h := L1.out
        unfold bestL at h
        rw [if_neg (by omega), hke, HZL.out] at h
        exact h
      rw [hkd]
      have L3' := L2.out.2.2
      rw [cells_lit] at L3'
      obtain ⟨q0, q1, q2, q3, q4, q5⟩ := row6 L3'
      obtain ⟨t0, t1, t2, t3, t4, t5⟩ := row6 L2.out.2.1
      have tf := fun i => frozen_of_row _ _ i _ _ L2.out.2.1
      clear hke hkd L3' L1
      go_wp2
      refine bodyPost_ret (v := .tuple #[.agg #[.int .i64 z0, .int .i64 z1, .int .i64 z2, .int .i64 z3, .int .i64 z4, .int .i64 z5], .int .i64 lv, .bool true]) (by simp [results, Try.results60, go_sem, t0, t1, t2, t3, t4, t5]) rfl ⟨by rw [HV.out], ?_⟩
      repeat (first | with_reducible exact L2.out.b | refine Below.setCell ?_ (by simp <;> omega) _)

end Go.Proofs.Ytiojgkebdjdgbaa

namespace Go.Proofs.Ytiojgkebdjdgbaa
open Go.RowKit

/-- A whole row is loaded, in a walk that only reads. -/
theorem quiet_load_row {P : Program} {C : World → Prop} {o : Oper} {a : Act} {K : Act → Prop} (ty : TypeId) (x : Operand) (ho : o.op = .load ty x) (g : Nat) (hx : a.eval x = .pointer (some ⟨g, 0, none⟩)) (t : TypeId) (cs : Array Value) (d : TypeDesc)
    (hg : ∀ w, C w → w.heap[g]? = some (.cells cs t (0, 0))) (hu : P.underlying ty = some d) (hd : (match d with | .struct _ | .array _ _ => true | _ => false) = true) (hi : (P.info? ty).map (·.size) = some cs.size)
    (hk : K (a.put o.dst (.agg cs))) : o.quiet P a C K :=
  ⟨_, fun w hw => by
    have hr := run_loadVar_row (P := P) w g t ty cs (0, 0) d (hg w hw) hu hd hi
    have : (execOp a.eval o).run P w = .ok (.value (.agg cs)) w := by
      unfold execOp
      simp only [ho, hx, Instr.loadAt, Instr.sureAddr, Sem.run_bind, Sem.run_pure, Result.andThen_ok, hr]
    unfold Oper.quietAt
    rw [this]
    exact ⟨rfl, rfl⟩, hk⟩

set_option maxHeartbeats 1000000 in
/-- The closure: what a row costs. -/
theorem costOne_any (c : Nat) (cs : List Int) (k p1 p2 : Nat) (c0 c1 c2 c3 c4 c5 : Int) (W : World) (hc : c ≤ 6) (hf : feeTo cs (c * c)) (hk : k < facN c) (hp : padL (rowN c k) = [c0, c1, c2, c3, c4, c5])
    (h1 : W.heap[p1]? = some (.cells (cellsOf (feesTo c cs (c * c))) 61 (0, 0))) (h2 : W.heap[p2]? = some (.cells #[.int .i64 c] 2 (0, 0))) :
    Calls Try.prog 61 #[.agg #[.int .i64 c0, .int .i64 c1, .int .i64 c2, .int .i64 c3, .int .i64 c4, .int .i64 c5], .pointer (some ⟨p1, 0, none⟩), .pointer (some ⟨p2, 0, none⟩)] W fun e w' => e = .returned (.tuple #[.int .i64 (costK c cs k), .bool true]) ∧ Below W.heap.size W w' := by
  obtain ⟨gr, HGR⟩ : ∃ gr, Hid (cellsOf (feesTo c cs (c * c)) = gr) := ⟨_, rfl⟩
  rw [HGR.out] at h1
  have HSZ : Hid ((Try.prog.info? 61).map (·.size) = some gr.size) := by show _ = _; rw [← HGR.out]; exact sizeFees_of (feesTo_length _ _ _)
  obtain ⟨V, HV⟩ : ∃ v, Hid (costK c cs k = v) := ⟨_, rfl⟩
  rw [HV.out]
  have HT : Hid (∀ X, IntsAt X (some ⟨W.heap.size, 0, none⟩) [c0, c1, c2, c3, c4, c5] → Calls Try.prog 43 #[.agg gr, .slice (some ⟨W.heap.size, 0, none⟩) c 6] X fun e w' => e = .returned (.int .i64 V) ∧ Below X.heap.size X w') := by
    intro X hX
    have := total_any c (some ⟨W.heap.size, 0, none⟩) 6 c cs [c0, c1, c2, c3, c4, c5] X hc hf hX (Nat.le_refl _) (by simpa using hc) (by rw [← hp]; exact row_cols hc hk)
    rw [HGR.out, ← hp] at this
    rw [← HV.out]
    exact this
  have HW1 : Hid ((W.alloc (.cells #[.int .i64 c0, .int .i64 c1, .int .i64 c2, .int .i64 c3, .int .i64 c4, .int .i64 c5] 55)).heap[p1]? = some (.cells gr 61 (0, 0))) := (heap_alloc_old _ _ (row_lt h1)).trans h1
  have HW2 : Hid ((W.alloc (.cells #[.int .i64 c0, .int .i64 c1, .int .i64 c2, .int .i64 c3, .int .i64 c4, .int .i64 c5] 55)).heap[p2]? = some (.cells #[.int .i64 c] 2 (0, 0))) := (heap_alloc_old _ _ (row_lt h2)).trans h2
  have HW3 : Hid (IntsAt (W.alloc (.cells #[.int .i64 c0, .int .i64 c1, .int .i64 c2, .int .i64 c3, .int .i64 c4, .int .i64 c5] 55)) (some ⟨W.heap.size, 0, none⟩) [c0, c1, c2, c3, c4, c5]) := IntsAt.of_row (by rw [cells_lit]; exact heap_alloc_new _ _)
  have HB : Hid (Below W.heap.size W (W.alloc (.cells #[.int .i64 c0, .int .i64 c1, .int .i64 c2, .int .i64 c3, .int .i64 c4, .int .i64 c5] 55))) := (Below.refl _ _).alloc (Nat.le_refl _) _
  clear h1 h2 hf hk hp
  go_enter Try.func61, Try.ntmps61
  go_wp2_with fail
  generalize W.alloc (Obj.cells #[Value.int IntKind.i64 c0, Value.int IntKind.i64 c1, Value.int IntKind.i64 c2, Value.int IntKind.i64 c3, Value.int IntKind.i64 c4, Value.int IntKind.i64 c5] 55) = W1 at *
  have hkin := Kin.there W1
  have hcc := cell_of_row _ _ 0 _ _ _ HW2.out
  have hcd : W1.cell? ⟨p2, 0, none⟩ = some (.int .i64 c) := by rw [hcc]; simp
  have hck := fun s : Kin W1 => s.cell hcd
  have hsl := fun X : World => slice_row X W.heap.size c hc
  clear hcc hcd
  refine wp_region_kin (by kernel_rfl) (by kernel_rfl) ?_
  refine BigFrame.wpQuiet_want (by simp [Region.wanted]) fun K hK => quiet_load_row _ _ rfl p1 rfl _ gr _ (fun w' hw' => by obtain ⟨s, rfl⟩ := hw'; exact below_row s.below (row_lt HW1.out) HW1.out) Try.underlying61 rfl HSZ.out (hK _ ?_)
  change wpQuiet _ _ _ _ _ (Act.mk #[.agg #[.int .i64 c0, .int .i64 c1, .int .i64 c2, .int .i64 c3, .int .i64 c4, .int .i64 c5], .pointer (some ⟨p1, 0, none⟩), .pointer (some ⟨p2, 0, none⟩), .pointer (some ⟨W.heap.size, 0, none⟩), .int .i64 0, .bool false, .agg gr, undef, undef, undef] [])
  repeat (go_big_quiet_step ((go_at_call 43; exact Kin.call (HT.out _ (HW3.out.below (Kin.below _))))))
  refine wpQuiet_nil ?_
  rintro _ ⟨s, rfl⟩
  have HS2 := HB.out.trans (s.below.mono HB.out.size)
  generalize s.w = w2 at *
  go_wp2
  refine bodyPost_ret (v := .tuple #[.int .i64 V, .bool true]) (by simp [results, Try.results61, go_sem]) rfl ⟨rfl, HS2⟩

end Go.Proofs.Ytiojgkebdjdgbaa

namespace Go.Proofs.Ytiojgkebdjdgbaa
open Go.RowKit

theorem own_at0 {g n c k : Nat} (e : (Value.slice (some ⟨g, 0, none⟩) n c).ownBlock = some k) : g ≤ k := by
  have : g = k := by injection e
  omega

set_option maxHeartbeats 400000 in
/-- slices.Clone of numbers. -/
theorem clone_own (b off n c : Nat) (ids : List Int) (w : World) (hI : IntsAt w (some ⟨b, off, none⟩) ids) (hn : ids.length = n) (hl : n ≤ 1000) :
    Calls Try.prog 49 #[.slice (some ⟨b, off, none⟩) n c] w fun e w' => ∃ sl, e = .returned sl ∧ Below w.heap.size w w' ∧ w'.ownsRow w.heap.size 2 1 sl n (ids.map (Value.int .i64)) := by
  have HI : Hid (IntsAt w (some ⟨b, off, none⟩) ids) := hI
  have HN : Hid (ids.length = n) := hn
  have OB : Hid (Below w.heap.size w (w.alloc (.cells #[] 2))) := (Below.refl _ _).alloc (Nat.le_refl _) _
  clear hI hn
  have hnil := fun (W : World) => Lib.run_eql_slice_nil (P := Try.prog) W 24 _ (some ⟨b, off, none⟩) n c 0 0 Try.underlying24
  go_enter Try.func49, Try.ntmps49
  go_wp2_with (
    at_builtin
    refine append_many _ rfl _ _ rfl w.heap.size _ 0 [] rfl (World.ownsRow_made w #[] 0 (Nat.le_refl _) (by unfold maxLen; omega) (by simp)) b off n c ids rfl HN.out (HI.out.below OB.out) (by omega) (by omega) (by simp) ?_
    intro sl w2 hown hg _ _
    have O2 : Hid (w2.ownsRow w.heap.size 2 1 sl n (ids.map (Value.int .i64))) := by rw [Nat.zero_add, List.nil_append] at hown; exact hown
    have B2 : Hid (Below w.heap.size w w2) := OB.out.grown hg OB.out.size (fun k e => own_at0 e)
    clear hown hg)
  go_ret
  exact ⟨_, rfl, B2.out, O2.out⟩

/-- The first c of a box with the row are the row's numbers. -/
theorem box_row {W : World} {g c k : Nat} {c0 c1 c2 c3 c4 c5 : Int} (hc : c ≤ 6) (hk : k < facN c) (hp : padL (rowN c k) = [c0, c1, c2, c3, c4, c5]) (h : W.heap[g]? = some (.cells #[.int .i64 c0, .int .i64 c1, .int .i64 c2, .int .i64 c3, .int .i64 c4, .int .i64 c5] 55 (0, 0))) : IntsAt W (some ⟨g, 0, none⟩) (rowL c k) := by
  have hb : IntsAt W (some ⟨g, 0, none⟩) (padL (rowN c k)) := by rw [hp]; exact IntsAt.of_row (by rw [cells_lit]; exact h)
  intro j hj
  rw [rowL_length hk] at hj
  obtain ⟨b, off, e, hcc⟩ := hb j (by rw [padL_length]; omega)
  refine ⟨b, off, e, ?_⟩
  rw [hcc, rowL_get hc hk j hj]

set_option maxHeartbeats 2000000 in
theorem assigned_any (c : Nat) (cs : List Int) (w : World) (hc : c ≤ 6) (hf : feeTo cs (c * c)) :
    Calls Try.prog 46 #[.agg (cellsOf (feesTo c cs (c * c))), .int .i64 c] w fun e w' => ∃ sl, e = .returned (.tuple #[sl, .int .i64 (costK c cs (bestK c cs))]) ∧ Below w.heap.size w w' ∧ w'.ownsRow w.heap.size 2 1 sl c ((rowL c (bestK c cs)).map (Value.int .i64)) := by
  have HF : Hid (feeTo cs (c * c)) := hf
  clear hf
  obtain ⟨gr, HGR⟩ : ∃ gr, Hid (cellsOf (feesTo c cs (c * c)) = gr) := ⟨_, rfl⟩
  rw [HGR.out]
  have hbk := bestK_lt c cs
  have HBK : Hid (bestK c cs < facN c) := hbk
  have HV0 : Hid ((lst (costK c cs) (facN c)).2 = costK c cs (bestK c cs)) := lst_is _ (facN_pos c)
  obtain ⟨V, HV⟩ : ∃ v, Hid (costK c cs (bestK c cs) = v) := ⟨_, rfl⟩
  rw [HV.out]
  obtain ⟨z0, z1, z2, z3, z4, z5, hzl⟩ := list6 (padL_length (rowN c (bestK c cs)))
  have HZL : Hid (padL (rowN c (bestK c cs)) = [z0, z1, z2, z3, z4, z5]) := hzl
  clear hzl
  have hfb := facN_bd c hc
  have hfp := facN_pos c
  obtain ⟨m, HM⟩ : ∃ m, Hid (facN c = m) := ⟨_, rfl⟩
  rw [HM.out] at hfb hfp
  clear hbk
  have HB2 : Hid (Below w.heap.size w ((w.alloc (.cells gr 61)).alloc (.cells #[.int .i64 c] 2))) := ((Below.refl _ _).alloc (Nat.le_refl _) _).alloc (by simp) _
  have H21 : Hid (((w.alloc (.cells gr 61)).alloc (.cells #[.int .i64 c] 2)).heap[w.heap.size]? = some (.cells gr 61 (0, 0))) := heap_alloc2_old _ _ _
  have H22 : Hid (((w.alloc (.cells gr 61)).alloc (.cells #[.int .i64 c] 2)).heap[w.heap.size + 1]? = some (.cells #[.int .i64 c] 2 (0, 0))) := heap_alloc2_new _ _ _
  go_enter Try.func46, Try.ntmps46
  go_wp2_with fail
  generalize (w.alloc (.cells gr 61)).alloc (.cells #[.int .i64 c] 2) = W2 at *
  refine (rowsOf_any c hc W2).mono ?_
  rintro e w1 ⟨sl, rfl, hb, ho⟩
  rw [HM.out] at ho
  obtain ⟨g, cg, rfl⟩ : ∃ g cg, sl = .slice (some ⟨g, 0, none⟩) m cg := by
    rcases own_shape ho with e | e
    · obtain ⟨_, ⟨_, h3⟩ | ⟨g, cap, cur, h2, _⟩⟩ := ho
      · omega
      · exact ⟨g, cap, h2⟩
    · exact e
  have I1 : Hid (IntsAt w1 (some ⟨g, 0, none⟩) (flatR (gen c c []))) := owns_ints ho
  have B1 : Hid (Below w.heap.size w w1) := HB2.out.trans (hb.mono HB2.out.size)
  have R1 : Hid (w1.heap[w.heap.size]? = some (.cells gr 61 (0, 0))) := below_row hb (row_lt H21.out) H21.out
  have R2 : Hid (w1.heap[w.heap.size + 1]? = some (.cells #[.int .i64 c] 2 (0, 0))) := below_row hb (row_lt H22.out) H22.out
  clear hb ho HB2 H21 H22
  have HLR : Hid (Calls Try.prog 60 #[.slice (some ⟨g, 0, none⟩) m cg, .func (.func 61) #[] #[.pointer (some ⟨w.heap.size, 0, none⟩), .pointer (some ⟨w.heap.size + 1, 0, none⟩)]] w1 fun e w' => e = .returned (.tuple #[.agg #[.int .i64 z0, .int .i64 z1, .int .i64 z2, .int .i64 z3, .int .i64 z4, .int .i64 z5], .int .i64 V, .bool true]) ∧ Below w1.heap.size w1 w') := by
    have h := leastRow_any g cg w.heap.size (w.heap.size + 1) c m (costK c cs) w1 I1.out HM.out hfb (fun W k c0 c1 c2 c3 c4 c5 hk hW hp => costOne_any c cs k _ _ c0 c1 c2 c3 c4 c5 W hc HF.out (by rw [HM.out]; exact hk) hp (by rw [HGR.out]; exact below_row hW (row_lt R1.out) R1.out) (below_row hW (row_lt R2.out) R2.out))
    have e1 : (lst (costK c cs) m).1 = bestK c cs := by rw [← HM.out]; rfl
    have e2 : (lst (costK c cs) m).2 = V := by rw [← HM.out, HV0.out]; exact HV.out
    rw [e1, e2, HZL.out, cells_lit] at h
    exact h
  have hsl := fun X : World => fun G : Nat => slice_row X G c hc
  have hcc : w1.cell? ⟨w.heap.size + 1, 0, none⟩ = some (.int .i64 c) := by rw [cell_of_row _ _ 0 _ _ _ R2.out]; simp
  go_wp2_with fail
  refine HLR.out.mono ?_
  rintro e w3 ⟨rfl, hb⟩
  have B3 : Hid (Below w.heap.size w w3) := B1.out.trans (hb.mono B1.out.size)
  have R3 : Hid (w3.heap[w.heap.size + 1]? = some (.cells #[.int .i64 c] 2 (0, 0))) := below_row hb (row_lt R2.out) R2.out
  have B4 : Hid (Below w.heap.size w (w3.alloc (.cells #[.int .i64 z0, .int .i64 z1, .int .i64 z2, .int .i64 z3, .int .i64 z4, .int .i64 z5] 55))) := B3.out.alloc B3.out.size _
  have I4 : Hid (IntsAt (w3.alloc (.cells #[.int .i64 z0, .int .i64 z1, .int .i64 z2, .int .i64 z3, .int .i64 z4, .int .i64 z5] 55)) (some ⟨w3.heap.size, 0, none⟩) (rowL c (bestK c cs))) := box_row hc HBK.out HZL.out (heap_alloc_new _ _)
  have c4 : (w3.alloc (.cells #[.int .i64 z0, .int .i64 z1, .int .i64 z2, .int .i64 z3, .int .i64 z4, .int .i64 z5] 55)).cell? ⟨w.heap.size + 1, 0, none⟩ = some (.int .i64 c) := by
    have := (heap_alloc_old _ (.cells #[.int .i64 z0, .int .i64 z1, .int .i64 z2, .int .i64 z3, .int .i64 z4, .int .i64 z5] 55) (row_lt R3.out)).trans R3.out
    rw [cell_of_row _ _ 0 _ _ _ this]; simp
  clear hb hcc HLR R1 R2 I1 B1
  go_wp2_with (
    go_at_call 49
    refine (clone_own _ _ c 6 (rowL c (bestK c cs)) _ I4.out (rowL_length HBK.out) (by omega)).mono ?_
    rintro e w5 ⟨sl, rfl, hb5, ho5⟩
    have B5 : Hid (Below w.heap.size w w5) := B4.out.trans (hb5.mono B4.out.size)
    have O5 : Hid (w5.ownsRow w.heap.size 2 1 sl c ((rowL c (bestK c cs)).map (Value.int .i64))) := owns_base ho5 B4.out.size
    clear hb5 ho5)
  refine bodyPost_ret (v := .tuple #[sl, .int .i64 V]) (by simp [results, Try.results46, go_sem]) rfl ⟨_, rfl, B5.out, O5.out⟩

end Go.Proofs.Ytiojgkebdjdgbaa

namespace Go.Proofs.Ytiojgkebdjdgbaa
open Go.RowKit

set_option maxHeartbeats 1000000 in
theorem implAssigned_any (n : Int) (a1 : Option Addr) (c1 : Nat) (cs : List Int) (w : World) (hA : IntsAt w a1 cs) :
    Calls Try.prog 18 #[.int .i64 n, .slice a1 cs.length c1] w fun e w' => ∃ sl, e = .returned (.tuple #[sl, .int .i64 (asgV n cs), .bool (costsB n cs)]) ∧ Below w.heap.size w w' ∧ w'.ownsRow w.heap.size 2 1 sl (asgL n cs).length ((asgL n cs).map (Value.int .i64)) := by
  have HA : Hid (IntsAt w a1 cs) := hA
  clear hA
  have hz := (zero_of_info Try.infoFees).1
  generalize hz0 : cellsOf z36 = z0 at hz
  have HZ : Hid (cellsOf z36 = z0) := hz0
  clear hz0
  obtain ⟨V, HV⟩ : ∃ v, Hid (asgV n cs = v) := ⟨_, rfl⟩
  obtain ⟨R, HR⟩ : ∃ v, Hid (asgL n cs = v) := ⟨_, rfl⟩
  obtain ⟨cb, HCB⟩ : ∃ cb, Hid (costsB n cs = cb) := ⟨_, rfl⟩
  rw [HV.out, HR.out, HCB.out]
  go_enter Try.func18, Try.ntmps18
  go_wp2_with fail
  refine (fees_any n a1 c1 cs _ HA.out).mono ?_
  rintro e w1 ⟨rfl, hb⟩
  have B1 : Hid (Below w.heap.size w w1) := hb
  clear hb
  obtain ⟨gr, HGR⟩ : ∃ gr, Hid (cellsOf (feeRes n cs) = gr) := ⟨_, rfl⟩
  have BW : Hid (Below w.heap.size w (w1.alloc (Obj.cells gr 61))) := B1.out.alloc B1.out.size _
  have GW : Hid ((w1.alloc (Obj.cells gr 61)).heap[w1.heap.size]? = some (.cells gr 61 (0, 0))) := heap_alloc_new _ _
  have hsz : (Try.prog.info? 61).map (·.size) = some gr.size := by rw [← HGR.out]; exact sizeFees_of (feeRes_length _ _)
  have HSZ : Hid _ := hsz
  have hone : gr.all (·.oneCell') = true := by rw [← HGR.out]; exact cellsOf_one _
  have hzz : z0.size = gr.size := by rw [← HZ.out, ← HGR.out, cellsOf_size, cellsOf_size, z36_length, feeRes_length]
  have HON : Hid _ := hone
  have HZZ : Hid _ := hzz
  clear hsz hone hzz
  rw [HGR.out, HCB.out]
  cases cb
  · obtain ⟨q1, q2⟩ := asg_no HCB.out
    have HV1 : Hid (V = 0) := HV.out.symm.trans q2
    have HR1 : Hid (R = []) := HR.out.symm.trans q1
    clear q1 q2
    go_wp2_with (first
      | (with_reducible refine wpList_store_row ?_ 61 (.tmp 7) (.tmp 15) ?_ w1.heap.size gr ?_ ?_ 61 z0 ?_ ?_ ?_ ?_ ?_
         · rfl
         · rfl
         · rfl
         · rfl
         · exact heap_alloc_new _ _
         · exact HSZ.out
         · exact HZZ.out
         · exact HON.out
         rw [World.setRow_alloc_new]
         generalize w1.alloc (Obj.cells gr 61) = W at *))
    refine bodyPost_ret (v := .tuple #[.slice none 0 0, .int .i64 0, .bool false]) (by simp [results, Try.results18, go_sem]) rfl ⟨_, by rw [HV1.out], BW.out, by rw [HR1.out]; exact World.ownsRow_nil _ _ _ _⟩
  · obtain ⟨m, hnm, h1, h2, hl, hf⟩ := costsB_nat HCB.out
    subst hnm
    obtain ⟨q1, q2⟩ := asg_yes HCB.out
    have HR1 : Hid (R = rowL m (bestK m cs)) := HR.out.symm.trans q1
    have HV1 : Hid (costK m cs (bestK m cs) = V) := q2.symm.trans HV.out
    have HRL : Hid (R.length = m) := by show _ = _; rw [HR1.out]; exact rowL_length (bestK_lt m cs)
    have HC : Hid (∀ W, Calls Try.prog 46 #[.agg gr, .int .i64 m] W fun e w' => ∃ sl, e = .returned (.tuple #[sl, .int .i64 V]) ∧ Below W.heap.size W w' ∧ w'.ownsRow W.heap.size 2 1 sl m (R.map (Value.int .i64))) := by
      intro W
      have := assigned_any m cs W h2 hf
      rw [HV1.out, ← HR1.out, ← feeRes_true HCB.out, HGR.out] at this
      exact this
    clear q1 q2 hl hf
    go_wp2_with (first
      | (with_reducible refine wpList_store_row ?_ 61 (.tmp 7) (.tmp 15) ?_ w1.heap.size gr ?_ ?_ 61 z0 ?_ ?_ ?_ ?_ ?_
         · rfl
         · rfl
         · rfl
         · rfl
         · exact heap_alloc_new _ _
         · exact HSZ.out
         · exact HZZ.out
         · exact HON.out
         rw [World.setRow_alloc_new]
         generalize w1.alloc (Obj.cells gr 61) = W at *)
      | (with_reducible refine wpList_load_row ?_ 61 (.tmp 7) ?_ (w1.heap.size) ?_ 61 gr (0, 0) _ ?_ Try.underlying61 ?_ ?_ ?_
         · rfl
         · rfl
         · rfl
         · exact GW.out
         · rfl
         · exact HSZ.out)
      | (go_at_call 46
         refine (HC.out _).mono ?_
         rintro e w3 ⟨sl, rfl, hb3, ho3⟩
         have B3 : Hid (Below w.heap.size w w3) := BW.out.trans (hb3.mono BW.out.size)
         have O3 : Hid (w3.ownsRow w.heap.size 2 1 sl R.length (R.map (Value.int .i64))) := by rw [HRL.out]; exact owns_base ho3 BW.out.size
         clear hb3 ho3))
    refine bodyPost_ret (v := .tuple #[sl, .int .i64 V, .bool true]) (by simp [results, Try.results18, go_sem]) rfl ⟨_, rfl, B3.out, O3.out⟩

end Go.Proofs.Ytiojgkebdjdgbaa
