import Derived.Test.YtchdcifhccjheaaPack1
import Derived.Test.YtchdcifhccjheaaPack2
import Derived.Test.YtchdcifhccjheaaImplClosed
import Derived.Test.YtchdcifhccjheaaSpecClosed
namespace Go.Proofs.Ytchdcifhccjheaa
open Go.RowKit

/-- How many places the closed matrix has. -/
def cloN (n : Int) (zs : List Int) : Int := if matB n zs = true then n else 0
/-- Its times. -/
def cloL (n : Int) (zs : List Int) : List Int := if matB n zs = true then clo n.toNat zs else []
theorem cloL_yes {n : Nat} {zs : List Int} (h : matB n zs = true) : cloL n zs = clo n zs := by unfold cloL; rw [if_pos h]; simp
theorem cloL_no {n : Int} {zs : List Int} (h : matB n zs = false) : cloL n zs = [] := by unfold cloL; rw [h]; simp
theorem cloN_yes {n : Int} {zs : List Int} (h : matB n zs = true) : cloN n zs = n := by unfold cloN; rw [if_pos h]
theorem cloN_no {n : Int} {zs : List Int} (h : matB n zs = false) : cloN n zs = 0 := by unfold cloN; rw [h]; simp
theorem clo_len' {n : Nat} {zs : List Int} (h : matB n zs = true) : (clo n zs).length = n * n := by
  have := (matB_true h).2.2.1
  rw [← Int.natCast_mul] at this
  unfold clo
  rw [cloTo_length]
  omega
theorem cloL_len (n : Int) (zs : List Int) : (cloL n zs).length ≤ 256 := by
  cases h : matB n zs
  · rw [cloL_no h]; simp
  · obtain ⟨m, rfl⟩ := Int.eq_ofNat_of_zero_le (show 0 ≤ n by have := (matB_true h).1; omega)
    rw [cloL_yes h, clo_len' h]
    have := (matB_true h).2.1
    exact mul_bd m m (by omega) (by omega)
theorem implClosed_any (n : Int) (a : Option Addr) (cap : Nat) (zs : List Int) (w : World) (hA : IntsAt w a zs) :
    Calls Try.prog 7 #[.agg #[.int .i64 n, .slice a zs.length cap]] w fun e w' => ∃ sl, e = .returned (.agg #[.int .i64 (cloN n zs), sl]) ∧ Below w.heap.size w w' ∧ w'.ownsRow w.heap.size 2 1 sl (cloL n zs).length ((cloL n zs).map (Value.int .i64)) := by
  cases h : matB n zs
  · rw [cloL_no h, cloN_no h]
    refine (implClosed_no n a cap zs w hA h).mono ?_
    rintro e w' ⟨rfl, hb⟩
    exact ⟨_, rfl, hb, by simp, .inl ⟨rfl, rfl⟩⟩
  · obtain ⟨m, rfl⟩ := Int.eq_ofNat_of_zero_le (show 0 ≤ n by have := (matB_true h).1; omega)
    rw [cloL_yes h, cloN_yes h, clo_len' h]
    refine (implClosed_yes m a cap zs w hA h).mono ?_
    rintro e w' ⟨g, c, rfl, hb, ho⟩
    exact ⟨_, rfl, hb, ho⟩
theorem specClosed_any (n : Int) (a : Option Addr) (cap : Nat) (zs : List Int) (w : World) (hA : IntsAt w a zs) :
    Calls Try.prog 8 #[.agg #[.int .i64 n, .slice a zs.length cap]] w fun e w' => ∃ wa wc, e = .returned (.agg #[.int .i64 (cloN n zs), .slice wa (cloL n zs).length wc]) ∧ Below w.heap.size w w' ∧ IntsAt w' wa (cloL n zs) ∧ ∀ b, (Value.slice wa 0 0).ownBlock = some b → w.heap.size ≤ b ∧ b < w'.heap.size := by
  cases h : matB n zs
  · rw [cloL_no h, cloN_no h]
    refine (specClosed_no n a cap zs w hA h).mono ?_
    rintro e w' ⟨rfl, hb⟩
    exact ⟨none, 0, rfl, hb, fun j hj => by simp at hj, fun b e => by cases e⟩
  · obtain ⟨m, rfl⟩ := Int.eq_ofNat_of_zero_le (show 0 ≤ n by have := (matB_true h).1; omega)
    rw [cloL_yes h, cloN_yes h, clo_len' h]
    refine (specClosed_yes m a cap zs w hA h).mono ?_
    rintro e w' ⟨g, c, r, hg, rfl, _, hb, hr⟩
    exact ⟨some ⟨g, 0, none⟩, c, rfl, hb, IntsAt.pre (IntsAt.of_row hr), fun b e => by
      have e' : g = b := by injection e
      subst e'
      exact ⟨hg, row_lt hr⟩⟩

end Go.Proofs.Ytchdcifhccjheaa

namespace Go.Proofs.Ytchdcifhccjheaa
open Go.RowKit

set_option maxHeartbeats 400000 in
theorem lawClosed_big (n : Int) (a : Option Addr) (cap len : Nat) (w : World) (hlen : len ≤ 9223372036854775807) (hbig : 1048576 < len) :
    Calls Try.prog 4 #[.agg #[.int .i64 n, .slice a len cap]] w fun e w' => e = .returned (.bool true) ∧ Below w.heap.size w w' := by
  have HB0 : Hid (Below w.heap.size w (w.alloc (Obj.cells #[Value.int IntKind.i64 n, Value.slice a len cap] 34))) :=
    (Below.refl _ _).alloc (Nat.le_refl _) _
  go_enter Try.func4, Try.ntmps4
  go_wp2_with fail
  refine (szMat_any n a len cap 1048576 _ (by omega) (by omega) hlen).mono ?_
  rintro e w1 ⟨rfl, hb⟩
  rw [if_pos (by omega)]
  go_wp2
  go_ret
  exact ⟨rfl, HB0.out.trans (hb.mono (by simp <;> omega))⟩

/-- A box of a matrix. -/
def MBx (W : World) (k : Nat) (n : Int) (sl : Value) (T : TypeId) : Prop := W.heap[k]? = some (.cells #[.int .i64 n, sl] T (0, 0))
theorem MBx.below {W W' : World} {k : Nat} {n : Int} {sl : Value} {T : TypeId} (h : MBx W k n sl T) (hb : Below W.heap.size W W') : MBx W' k n sl T := below_row hb (row_lt h) h
theorem MBx.grown {W W' : World} {k : Nat} {n : Int} {sl : Value} {T : TypeId} {r : Option Nat} (h : MBx W k n sl T) (hg : W.grownBy W' r) (hne : some k ≠ r) : MBx W' k n sl T := grown_row hg h hne
theorem MBx.cells {W : World} {k : Nat} {n : Int} {sl : Value} {T : TypeId} (h : MBx W k n sl T) : W.cell? ⟨k, 0, none⟩ = some (.int .i64 n) ∧ W.cell? ⟨k, 1, none⟩ = some sl := by
  have h0 := cell_of_row _ _ 0 _ _ _ h
  have h1 := cell_of_row _ _ 1 _ _ _ h
  simp at h0 h1
  exact ⟨h0, h1⟩

set_option maxRecDepth 10000 in
set_option maxHeartbeats 4000000 in
theorem lawClosed (n : Int) (a : Option Addr) (cap : Nat) (zs : List Int) (w : World) (hA : IntsAt w a zs) (hsm : zs.length ≤ 1048576) :
    Calls Try.prog 4 #[.agg #[.int .i64 n, .slice a zs.length cap]] w fun e w' => e = .returned (.bool true) ∧ Below w.heap.size w w' := by
  have HB0 : Hid (Below w.heap.size w (w.alloc (Obj.cells #[Value.int IntKind.i64 n, Value.slice a zs.length cap] 34))) :=
    (Below.refl _ _).alloc (Nat.le_refl _) _
  have HA : Hid (IntsAt w a zs) := hA
  clear hA
  have hp6 := cloL_len n zs
  obtain ⟨p, HP⟩ : ∃ p, Hid (cloL n zs = p) := ⟨_, rfl⟩
  obtain ⟨v, HV⟩ : ∃ v, Hid (cloN n zs = v) := ⟨_, rfl⟩
  rw [HP.out] at hp6
  obtain ⟨zl, HZL⟩ : ∃ zl, Hid (zs.length = zl) := ⟨_, rfl⟩
  obtain ⟨pl, HPL⟩ : ∃ pl, Hid (p.length = pl) := ⟨_, rfl⟩
  have TOM : Hid (∀ W, Below w.heap.size w W → Calls Try.prog 17 #[.agg #[.int .i64 n, .slice a zl cap]] W fun e w' => ∃ g, W.heap.size ≤ g ∧ e = .returned (.agg #[.int .i64 n, .slice (some ⟨g, 0, none⟩) zl zl]) ∧ Below W.heap.size W w' ∧ w'.heap[g]? = some (.cells (cellsOf zs) 2 (0, 0))) := fun W hB => by
    have := toMat_any n a cap zs W (HA.out.below hB) hsm
    rw [HZL.out] at this
    exact this
  have EQW : Hid (∀ W ga gc wa wc, IntsAt W ga p → IntsAt W wa p → Calls Try.prog 18 #[.agg #[.int .i64 v, .slice ga pl gc], .agg #[.int .i64 v, .slice wa pl wc]] W fun e w' => e = .returned (.bool true) ∧ Below W.heap.size W w') := fun W ga gc wa wc h1 h2 => by
    have := eqMat_same v ga wa gc wc p W h1 h2 (by omega)
    rw [HPL.out] at this
    exact this
  have EQX : Hid (∀ W ga gc wa wc, IntsAt W ga zs → IntsAt W wa zs → Calls Try.prog 18 #[.agg #[.int .i64 n, .slice ga zl gc], .agg #[.int .i64 n, .slice wa zl wc]] W fun e w' => e = .returned (.bool true) ∧ Below W.heap.size W w') := fun W ga gc wa wc h1 h2 => by
    have := eqMat_same n ga wa gc wc zs W h1 h2 (by omega)
    rw [HZL.out] at this
    exact this
  have IMP : Hid (∀ W g, IntsAt W (some ⟨g, 0, none⟩) zs → Calls Try.prog 7 #[.agg #[.int .i64 n, .slice (some ⟨g, 0, none⟩) zl zl]] W fun e w' => ∃ ga gc, e = .returned (.agg #[.int .i64 v, .slice ga pl gc]) ∧ Below W.heap.size W w' ∧ IntsAt w' ga p ∧ w'.ownsRow W.heap.size 2 1 (.slice ga pl gc) pl (p.map (Value.int .i64))) := fun W g h => by
    have := implClosed_any n (some ⟨g, 0, none⟩) zl zs W h
    rw [HZL.out, HP.out, HV.out] at this
    refine this.mono ?_
    rintro e w' ⟨sl, rfl, hb, ho⟩
    obtain ⟨ga, gc, rfl, _, hi⟩ := owns_at1 ho
    rw [HPL.out] at ho ⊢
    exact ⟨ga, gc, rfl, hb, hi, ho⟩
  go_enter Try.func4, Try.ntmps4
  go_wp2_with fail
  refine (szMat_any n a zs.length cap 1048576 _ (by omega) (by omega) (by omega)).mono ?_
  rintro e w1 ⟨rfl, hb⟩
  rw [if_neg (by omega)]
  have R1 : Hid (MBx w1 w.heap.size n (.slice a zl cap) 34) := by show MBx _ _ _ _ _; rw [← HZL.out]; exact below_row hb (by simp) (heap_alloc_new _ _)
  have B1 : Hid (Below w.heap.size w w1) := HB0.out.trans (hb.mono (by simp))
  clear hb HB0
  rw [HZL.out] at hsm ⊢
  rw [HPL.out] at hp6
  obtain ⟨c0, c1⟩ := R1.out.cells
  -- the model
  go_wp2_with fail
  refine (TOM.out _ B1.out).mono ?_
  rintro e w2 ⟨g, -, rfl, hb, hg⟩
  have G2 : Hid (IntsAt w2 (some ⟨g, 0, none⟩) zs) := IntsAt.of_row hg
  have R2 : Hid (MBx w2 w.heap.size n (.slice a zl cap) 34) := R1.out.below hb
  have B2 : Hid (Below w.heap.size w w2) := B1.out.trans (hb.mono B1.out.size)
  clear hb hg R1 B1 c0 c1
  go_wp2_with fail
  have SPC : Calls Try.prog 8 #[.agg #[.int .i64 n, .slice (some ⟨g, 0, none⟩) zl zl]] w2 fun e w' => ∃ wa wc, e = .returned (.agg #[.int .i64 v, .slice wa pl wc]) ∧ Below w2.heap.size w2 w' ∧ IntsAt w' wa p ∧ ∀ b, (Value.slice wa 0 0).ownBlock = some b → w2.heap.size ≤ b ∧ b < w'.heap.size := by
    have := specClosed_any n (some ⟨g, 0, none⟩) zl zs w2 G2.out
    rw [HZL.out, HP.out, HV.out, HPL.out] at this
    exact this
  refine SPC.mono ?_
  rintro e w3 ⟨wa, wc, rfl, hb, hi, hw⟩
  have ha : Below w3.heap.size w3 (w3.alloc (Obj.cells #[Value.int IntKind.i64 v, Value.slice wa pl wc] 26)) := (Below.refl _ _).alloc (Nat.le_refl _) _
  have R3 : Hid (MBx (w3.alloc (Obj.cells #[Value.int IntKind.i64 v, Value.slice wa pl wc] 26)) w.heap.size n (.slice a zl cap) 34) := (R2.out.below hb).below ha
  have B3 : Hid (Below w.heap.size w (w3.alloc (Obj.cells #[Value.int IntKind.i64 v, Value.slice wa pl wc] 26))) := (B2.out.trans (hb.mono B2.out.size)).trans (ha.mono (B2.out.trans (hb.mono B2.out.size)).size)
  have Q3 : Hid (MBx (w3.alloc (Obj.cells #[Value.int IntKind.i64 v, Value.slice wa pl wc] 26)) w3.heap.size v (.slice wa pl wc) 26) := heap_alloc_new _ _
  have W3 : Hid (IntsAt (w3.alloc (Obj.cells #[Value.int IntKind.i64 v, Value.slice wa pl wc] 26)) wa p) := hi.below ha
  have WB : Hid (∀ b, (Value.slice wa 0 0).ownBlock = some b → b < w3.heap.size) := fun b e => (hw b e).2
  have L3 : Hid (w.heap.size < w3.heap.size) := row_lt (R2.out.below hb)
  clear hb hi hw ha R2 B2 G2 SPC
  obtain ⟨c0, c1⟩ := R3.out.cells
  have hsz3 : (w3.alloc (Obj.cells #[Value.int IntKind.i64 v, Value.slice wa pl wc] 26)).heap.size = w3.heap.size + 1 := by simp
  go_wp2_with fail
  generalize w3.alloc (Obj.cells #[Value.int IntKind.i64 v, Value.slice wa pl wc] 26) = v3 at *
  obtain ⟨kw, HKW⟩ : ∃ k, Hid (w3.heap.size = k) := ⟨_, rfl⟩
  rw [HKW.out] at Q3 WB L3 hsz3 ⊢
  have HS3 : Hid (v3.heap.size = kw + 1) := hsz3
  clear hsz3
  -- the argument's copy
  refine (TOM.out _ B3.out).mono ?_
  rintro e w4 ⟨gx, hgx, rfl, hb, hg⟩
  have ha : Below w4.heap.size w4 (w4.alloc (Obj.cells #[Value.int IntKind.i64 n, Value.slice (some ⟨gx, 0, none⟩) zl zl] 26)) := (Below.refl _ _).alloc (Nat.le_refl _) _
  have R4 : Hid (MBx (w4.alloc (Obj.cells #[Value.int IntKind.i64 n, Value.slice (some ⟨gx, 0, none⟩) zl zl] 26)) w.heap.size n (.slice a zl cap) 34) := (R3.out.below hb).below ha
  have B4 : Hid (Below w.heap.size w (w4.alloc (Obj.cells #[Value.int IntKind.i64 n, Value.slice (some ⟨gx, 0, none⟩) zl zl] 26))) := (B3.out.trans (hb.mono B3.out.size)).trans (ha.mono (B3.out.trans (hb.mono B3.out.size)).size)
  have Q4 : Hid (MBx (w4.alloc (Obj.cells #[Value.int IntKind.i64 n, Value.slice (some ⟨gx, 0, none⟩) zl zl] 26)) kw v (.slice wa pl wc) 26) := (Q3.out.below hb).below ha
  have W4 : Hid (IntsAt (w4.alloc (Obj.cells #[Value.int IntKind.i64 n, Value.slice (some ⟨gx, 0, none⟩) zl zl] 26)) wa p) := (W3.out.below hb).below ha
  have X4 : Hid (MBx (w4.alloc (Obj.cells #[Value.int IntKind.i64 n, Value.slice (some ⟨gx, 0, none⟩) zl zl] 26)) w4.heap.size n (.slice (some ⟨gx, 0, none⟩) zl zl) 26) := heap_alloc_new _ _
  have Y4 : Hid ((w4.alloc (Obj.cells #[Value.int IntKind.i64 n, Value.slice (some ⟨gx, 0, none⟩) zl zl] 26)).heap[gx]? = some (.cells (cellsOf zs) 2 (0, 0))) := below_row ha (row_lt hg) hg
  have LX : Hid (kw < gx ∧ gx < w4.heap.size) := ⟨by have := HS3.out; omega, row_lt hg⟩
  clear hb hg hgx ha R3 B3 Q3 W3 HS3 c0 c1
  obtain ⟨x0, x1⟩ := X4.out.cells
  have hsz4 : (w4.alloc (Obj.cells #[Value.int IntKind.i64 n, Value.slice (some ⟨gx, 0, none⟩) zl zl] 26)).heap.size = w4.heap.size + 1 := by simp
  go_wp2_with fail
  generalize w4.alloc (Obj.cells #[Value.int IntKind.i64 n, Value.slice (some ⟨gx, 0, none⟩) zl zl] 26) = v4 at *
  obtain ⟨kx, HKX⟩ : ∃ k, Hid (w4.heap.size = k) := ⟨_, rfl⟩
  rw [HKX.out] at X4 LX hsz4 ⊢
  have HS4 : Hid (v4.heap.size = kx + 1) := hsz4
  clear hsz4
  -- the program
  refine (IMP.out _ gx (IntsAt.of_row Y4.out)).mono ?_
  rintro e w5 ⟨ga, gc, rfl, hb, hi, ho⟩
  have ha : Below w5.heap.size w5 (w5.alloc (Obj.cells #[Value.int IntKind.i64 v, Value.slice ga pl gc] 26)) := (Below.refl _ _).alloc (Nat.le_refl _) _
  have R5 : Hid (MBx (w5.alloc (Obj.cells #[Value.int IntKind.i64 v, Value.slice ga pl gc] 26)) w.heap.size n (.slice a zl cap) 34) := (R4.out.below hb).below ha
  have B5 : Hid (Below w.heap.size w (w5.alloc (Obj.cells #[Value.int IntKind.i64 v, Value.slice ga pl gc] 26))) := (B4.out.trans (hb.mono B4.out.size)).trans (ha.mono (B4.out.trans (hb.mono B4.out.size)).size)
  have Q5 : Hid (MBx (w5.alloc (Obj.cells #[Value.int IntKind.i64 v, Value.slice ga pl gc] 26)) kw v (.slice wa pl wc) 26) := (Q4.out.below hb).below ha
  have W5 : Hid (IntsAt (w5.alloc (Obj.cells #[Value.int IntKind.i64 v, Value.slice ga pl gc] 26)) wa p) := (W4.out.below hb).below ha
  have X5 : Hid (MBx (w5.alloc (Obj.cells #[Value.int IntKind.i64 v, Value.slice ga pl gc] 26)) kx n (.slice (some ⟨gx, 0, none⟩) zl zl) 26) := (X4.out.below hb).below ha
  have Y5 : Hid ((w5.alloc (Obj.cells #[Value.int IntKind.i64 v, Value.slice ga pl gc] 26)).heap[gx]? = some (.cells (cellsOf zs) 2 (0, 0))) := below_row ha (by have := row_lt Y4.out; have := hb.size; omega) (below_row hb (row_lt Y4.out) Y4.out)
  have Z5 : Hid (MBx (w5.alloc (Obj.cells #[Value.int IntKind.i64 v, Value.slice ga pl gc] 26)) w5.heap.size v (.slice ga pl gc) 26) := heap_alloc_new _ _
  have O5 : Hid ((w5.alloc (Obj.cells #[Value.int IntKind.i64 v, Value.slice ga pl gc] 26)).ownsRow (kx + 1) 2 1 (.slice ga pl gc) pl (p.map (Value.int .i64))) := by
    have := owns_below ho ha
    rw [HS4.out] at this
    exact this
  have G5 : Hid (IntsAt (w5.alloc (Obj.cells #[Value.int IntKind.i64 v, Value.slice ga pl gc] 26)) ga p) := hi.below ha
  have OL : Hid (∀ b, (Value.slice ga pl gc).ownBlock = some b → kx + 1 ≤ b ∧ b < w5.heap.size) := fun b e => by have := ho.lt b e; rw [HS4.out] at this; exact this
  have L5 : Hid (kx < w5.heap.size) := row_lt (X4.out.below hb)
  clear hb hi ho ha R4 B4 Q4 W4 X4 Y4 HS4 x0 x1
  obtain ⟨z0, z1⟩ := Z5.out.cells
  obtain ⟨q0, q1⟩ := Q5.out.cells
  go_wp2_with fail
  generalize w5.alloc (Obj.cells #[Value.int IntKind.i64 v, Value.slice ga pl gc] 26) = v5 at *
  obtain ⟨kg, HKG⟩ : ∃ k, Hid (w5.heap.size = k) := ⟨_, rfl⟩
  rw [HKG.out] at Z5 OL L5 ⊢
  refine (EQW.out _ _ _ _ _ G5.out W5.out).mono ?_
  rintro e w6 ⟨rfl, hb⟩
  have R6 : Hid (MBx w6 w.heap.size n (.slice a zl cap) 34) := R5.out.below hb
  have B6 : Hid (Below w.heap.size w w6) := B5.out.trans (hb.mono B5.out.size)
  have Q6 : Hid (MBx w6 kw v (.slice wa pl wc) 26) := Q5.out.below hb
  have W6 : Hid (IntsAt w6 wa p) := W5.out.below hb
  have X6 : Hid (MBx w6 kx n (.slice (some ⟨gx, 0, none⟩) zl zl) 26) := X5.out.below hb
  have Y6 : Hid (w6.heap[gx]? = some (.cells (cellsOf zs) 2 (0, 0))) := below_row hb (row_lt Y5.out) Y5.out
  have Z6 : Hid (MBx w6 kg v (.slice ga pl gc) 26) := Z5.out.below hb
  have O6 : Hid (w6.ownsRow (kx + 1) 2 1 (.slice ga pl gc) pl (p.map (Value.int .i64))) := owns_below O5.out hb
  clear hb R5 B5 Q5 W5 X5 Y5 Z5 O5 G5 z0 z1 q0 q1
  -- the argument is as it was
  obtain ⟨c0, c1⟩ := R6.out.cells
  obtain ⟨x0, x1⟩ := X6.out.cells
  have HI6 : Hid (IntsAt w6 (some ⟨gx, 0, none⟩) zs) := IntsAt.of_row Y6.out
  have hlt6 := row_lt X6.out
  go_wp2_with fail
  go_region_with (first
    | (go_at_call 17; refine (TOM.out _ (by exact B6.out.drew)).mono ?_; rintro e w7 ⟨g7, hg07, rfl, hb7, hg7⟩; have x07 := cell_of_row _ _ 0 _ _ _ (below_row hb7 (k := kx) hlt6 X6.out); have x17 := cell_of_row _ _ 1 _ _ _ (below_row hb7 (k := kx) hlt6 X6.out); simp at x07 x17; have HB7 : Hid _ := hb7; have HG7 : Hid _ := hg7; clear hb7 hg7 hg07)
    | (go_at_call 18; refine (EQX.out _ _ _ _ _ (by exact (HI6.out.below ((Below.refl _ _).drew)).below HB7.out) (by exact IntsAt.of_row HG7.out)).mono ?_; rintro e w8 ⟨rfl, hb8⟩))
  all_goals
    have hb6 : Below w6.heap.size w6 w8 := ((Below.refl w6.heap.size w6).drew.trans HB7.out).trans (hb8.mono ((Below.refl w6.heap.size w6).drew.trans HB7.out).size)
    have R8 : Hid (MBx w8 w.heap.size n (.slice a zl cap) 34) := R6.out.below hb6
    have B8 : Hid (Below w.heap.size w w8) := B6.out.trans (hb6.mono B6.out.size)
    have Q8 : Hid (MBx w8 kw v (.slice wa pl wc) 26) := Q6.out.below hb6
    have W8 : Hid (IntsAt w8 wa p) := W6.out.below hb6
    have X8 : Hid (MBx w8 kx n (.slice (some ⟨gx, 0, none⟩) zl zl) 26) := X6.out.below hb6
    have Y8 : Hid (w8.heap[gx]? = some (.cells (cellsOf zs) 2 (0, 0))) := below_row hb6 (row_lt Y6.out) Y6.out
    have Z8 : Hid (MBx w8 kg v (.slice ga pl gc) 26) := Z6.out.below hb6
    have O8 : Hid (w8.ownsRow (kx + 1) 2 1 (.slice ga pl gc) pl (p.map (Value.int .i64))) := owns_below O6.out hb6
    clear hb6 hb8 HB7 HG7 R6 B6 Q6 W6 X6 Y6 Z6 O6 HI6 hlt6 c0 c1 x0 x1 x07 x17
    -- the argument's marks
    obtain ⟨x0, x1⟩ := X8.out.cells
    go_wp2_with fail
    have MKX : Calls Try.prog 19 #[.agg #[.int .i64 n, .slice (some ⟨gx, 0, none⟩) zl zl], .int .i64 1] w8 fun e w' => e = .returned (.int .i64 (1 + (zl : Int))) ∧ w8.grownBy w' (some gx) := by
      have := markMatX n gx zl zs w8 Y8.out (by rw [HZL.out]; exact hsm)
      rw [HZL.out] at this
      exact this
    refine MKX.mono ?_
    rintro e w9 ⟨rfl, hg⟩
    have lx := LX.out
    have l5 := L5.out
    have l3 := L3.out
    have R9 : Hid (MBx w9 w.heap.size n (.slice a zl cap) 34) := R8.out.grown hg (fun e => by injection e with e; omega)
    have B9 : Hid (Below w.heap.size w w9) := B8.out.grown hg B8.out.size (fun k e => by injection e with e; omega)
    have Q9 : Hid (MBx w9 kw v (.slice wa pl wc) 26) := Q8.out.grown hg (fun e => by injection e with e; omega)
    have W9 : Hid (IntsAt w9 wa p) := ints_grown W8.out hg (fun b e e2 => by injection e2 with e2; have := WB.out b e; omega)
    have Z9 : Hid (MBx w9 kg v (.slice ga pl gc) 26) := Z8.out.grown hg (fun e => by injection e with e; omega)
    have O9 : Hid (w9.ownsRow (kx + 1) 2 1 (.slice ga pl gc) pl (p.map (Value.int .i64))) := O8.out.kept hg (.inr fun e => by have := (O8.out.lt _ e).1; omega)
    clear hg MKX R8 B8 Q8 W8 X8 Y8 Z8 O8 x0 x1 lx l5 l3
    obtain ⟨km, HKM⟩ : ∃ q, Hid ((1 : Int) + (zl : Int) = q) := ⟨_, rfl⟩
    have hkm : 0 ≤ km := by have := HKM.out; omega
    have hkn : ¬ km < 0 := by omega
    rw [HKM.out]
    have G9 : Hid (IntsAt w9 ga p) := by
      obtain ⟨a', c', e, _, hi⟩ := owns_at1 O9.out
      have e2 : ga = a' := by injection e
      rw [e2]; exact hi
    obtain ⟨z0, z1⟩ := Z9.out.cells
    obtain ⟨q0, q1⟩ := Q9.out.cells
    go_wp2_with fail
    refine (EQW.out _ _ _ _ _ G9.out W9.out).mono ?_
    rintro e w10 ⟨rfl, hb⟩
    have R10 : Hid (MBx w10 w.heap.size n (.slice a zl cap) 34) := R9.out.below hb
    have B10 : Hid (Below w.heap.size w w10) := B9.out.trans (hb.mono B9.out.size)
    have Q10 : Hid (MBx w10 kw v (.slice wa pl wc) 26) := Q9.out.below hb
    have W10 : Hid (IntsAt w10 wa p) := W9.out.below hb
    have Z10 : Hid (MBx w10 kg v (.slice ga pl gc) 26) := Z9.out.below hb
    have O10 : Hid (w10.ownsRow (kx + 1) 2 1 (.slice ga pl gc) pl (p.map (Value.int .i64))) := owns_below O9.out hb
    clear hb R9 B9 Q9 W9 Z9 O9 G9 z0 z1 q0 q1
    -- the answer's marks
    obtain ⟨z0, z1⟩ := Z10.out.cells
    go_wp2_with fail
    refine (markMatO v ga pl gc _ p _ O10.out (by omega)).mono ?_
    rintro e w11 ⟨rfl, hg, hm⟩
    have lx := LX.out
    have l5 := L5.out
    have l3 := L3.out
    have R11 : Hid (MBx w11 w.heap.size n (.slice a zl cap) 34) := R10.out.grown hg (fun e => by have := OL.out _ e.symm; omega)
    have B11 : Hid (Below w.heap.size w w11) := B10.out.grown hg B10.out.size (fun k e => by have := OL.out _ e; omega)
    have Q11 : Hid (MBx w11 kw v (.slice wa pl wc) 26) := Q10.out.grown hg (fun e => by have := OL.out _ e.symm; omega)
    have W11 : Hid (IntsAt w11 wa p) := ints_grown W10.out hg (fun b e e2 => by have := OL.out _ e2.symm; have := WB.out b e; omega)
    have Z11 : Hid (MBx w11 kg v (.slice ga pl gc) 26) := Z10.out.grown hg (fun e => by have := OL.out _ e.symm; omega)
    have M11 : Hid (Marked1 w11 ga pl) := hm
    clear hg hm R10 B10 Q10 W10 Z10 O10 z0 z1 lx l5 l3
    obtain ⟨gm, HGM⟩ : ∃ q, Hid ((1 : Int) + (pl : Int) = q) := ⟨_, rfl⟩
    have hgm : 0 ≤ gm := by have := HGM.out; omega
    have hgn : ¬ gm < 0 := by omega
    have hgg : (gm != gm) = false := by simp
    rw [HGM.out]
    obtain ⟨z0, z1⟩ := Z11.out.cells
    go_wp2_with fail
    refine (heldMatU v ga pl gc _ M11.out (by omega)).mono ?_
    rintro e w12 ⟨rfl, hb⟩
    rw [HGM.out]
    have R12 : Hid (MBx w12 w.heap.size n (.slice a zl cap) 34) := R11.out.below hb
    have B12 : Hid (Below w.heap.size w w12) := B11.out.trans (hb.mono B11.out.size)
    have Q12 : Hid (MBx w12 kw v (.slice wa pl wc) 26) := Q11.out.below hb
    have W12 : Hid (IntsAt w12 wa p) := W11.out.below hb
    have Z12 : Hid (MBx w12 kg v (.slice ga pl gc) 26) := Z11.out.below hb
    have M12 : Hid (Marked1 w12 ga pl) := M11.out.below hb
    clear hb R11 B11 Q11 W11 Z11 M11 z0 z1
    -- once more
    obtain ⟨c0, c1⟩ := R12.out.cells
    go_wp2_with fail
    refine (TOM.out _ B12.out).mono ?_
    rintro e w13 ⟨g13, -, rfl, hb, hg⟩
    have I13 : Hid (IntsAt w13 (some ⟨g13, 0, none⟩) zs) := IntsAt.of_row hg
    have B13 : Hid (Below w.heap.size w w13) := B12.out.trans (hb.mono B12.out.size)
    have Q13 : Hid (MBx w13 kw v (.slice wa pl wc) 26) := Q12.out.below hb
    have W13 : Hid (IntsAt w13 wa p) := W12.out.below hb
    have Z13 : Hid (MBx w13 kg v (.slice ga pl gc) 26) := Z12.out.below hb
    have M13 : Hid (Marked1 w13 ga pl) := M12.out.below hb
    clear hb hg R12 B12 Q12 W12 Z12 M12 c0 c1
    go_wp2_with fail
    refine (IMP.out _ g13 I13.out).mono ?_
    rintro e w14 ⟨ha1, hc1, rfl, hb, hi, ho⟩
    have ha : Below w14.heap.size w14 (w14.alloc (Obj.cells #[Value.int IntKind.i64 v, Value.slice ha1 pl hc1] 26)) := (Below.refl _ _).alloc (Nat.le_refl _) _
    have hb2 : Below w13.heap.size w13 (w14.alloc (Obj.cells #[Value.int IntKind.i64 v, Value.slice ha1 pl hc1] 26)) := hb.trans (ha.mono hb.size)
    have B14 : Hid (Below w.heap.size w (w14.alloc (Obj.cells #[Value.int IntKind.i64 v, Value.slice ha1 pl hc1] 26))) := B13.out.trans (hb2.mono B13.out.size)
    have Q14 : Hid (MBx (w14.alloc (Obj.cells #[Value.int IntKind.i64 v, Value.slice ha1 pl hc1] 26)) kw v (.slice wa pl wc) 26) := Q13.out.below hb2
    have W14 : Hid (IntsAt (w14.alloc (Obj.cells #[Value.int IntKind.i64 v, Value.slice ha1 pl hc1] 26)) wa p) := W13.out.below hb2
    have Z14 : Hid (MBx (w14.alloc (Obj.cells #[Value.int IntKind.i64 v, Value.slice ha1 pl hc1] 26)) kg v (.slice ga pl gc) 26) := Z13.out.below hb2
    have M14 : Hid (Marked1 (w14.alloc (Obj.cells #[Value.int IntKind.i64 v, Value.slice ha1 pl hc1] 26)) ga pl) := M13.out.below hb2
    have H14 : Hid (MBx (w14.alloc (Obj.cells #[Value.int IntKind.i64 v, Value.slice ha1 pl hc1] 26)) w14.heap.size v (.slice ha1 pl hc1) 26) := heap_alloc_new _ _
    have J14 : Hid (IntsAt (w14.alloc (Obj.cells #[Value.int IntKind.i64 v, Value.slice ha1 pl hc1] 26)) ha1 p) := hi.below ha
    clear hb hb2 ha hi ho I13 B13 Q13 W13 Z13 M13
    obtain ⟨h0, h1⟩ := H14.out.cells
    obtain ⟨q0, q1⟩ := Q14.out.cells
    go_wp2_with fail
    generalize w14.alloc (Obj.cells #[Value.int IntKind.i64 v, Value.slice ha1 pl hc1] 26) = v14 at *
    refine (EQW.out _ _ _ _ _ J14.out W14.out).mono ?_
    rintro e w15 ⟨rfl, hb⟩
    have B15 : Hid (Below w.heap.size w w15) := B14.out.trans (hb.mono B14.out.size)
    have Z15 : Hid (MBx w15 kg v (.slice ga pl gc) 26) := Z14.out.below hb
    have M15 : Hid (Marked1 w15 ga pl) := M14.out.below hb
    clear hb B14 Q14 W14 Z14 M14 H14 J14 h0 h1 q0 q1
    obtain ⟨z0, z1⟩ := Z15.out.cells
    go_wp2_with fail
    refine (heldMatU v ga pl gc _ M15.out (by omega)).mono ?_
    rintro e w16 ⟨rfl, hb⟩
    rw [HGM.out]
    have B16 : Hid (Below w.heap.size w w16) := B15.out.trans (hb.mono B15.out.size)
    clear hb B15 Z15 M15 z0 z1
    go_wp2
    go_ret
    exact ⟨rfl, B16.out⟩

theorem lawClosed_all (n : Int) (a : Option Addr) (cap : Nat) (zs : List Int) (w : World) (hA : IntsAt w a zs) (hl : zs.length ≤ 9223372036854775807) :
    Calls Try.prog 4 #[.agg #[.int .i64 n, .slice a zs.length cap]] w fun e w' => e = .returned (.bool true) ∧ Below w.heap.size w w' := by
  by_cases h : zs.length ≤ 1048576
  · exact lawClosed n a cap zs w hA h
  · exact lawClosed_big n a cap _ w hl (by omega)

end Go.Proofs.Ytchdcifhccjheaa
