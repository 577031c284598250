import Derived.Test.YtaehhlkpbhmdfaaPack1
import Derived.Test.YtaehhlkpbhmdfaaPack2
import Derived.Test.YtaehhlkpbhmdfaaPack3
import Derived.Test.YtaehhlkpbhmdfaaSpecSpan
import Derived.Test.YtaehhlkpbhmdfaaPack6
namespace Go.Proofs.Ytaehhlkpbhmdfaa
open Go.RowKit

/-- What SpanTree answers for this matrix: the cells of its edges, how many they are. -/
def Tr (n : Int) (zs : List Int) (p : List Int) (pl : Nat) : Prop := (symB n zs = false ∧ p = [] ∧ pl = 0) ∨ ∃ (m : Nat) (l : List ED) (ins : Nat → Bool), n = (m : Int) ∧ symB n zs = true ∧ PTr m (tmG zs m) l ins ∧ l.length + 1 = m ∧ p = flE l ∧ pl = l.length
theorem symB_mat {n : Int} {zs : List Int} (h : symB n zs = true) : matB n zs = true := (of_decide_eq_true h).1
theorem mat_nat {n : Int} {zs : List Int} (h : matB n zs = true) : ∃ m : Nat, n = (m : Int) ∧ m ≤ 16 := by
  obtain ⟨h1, h2, _⟩ := matB_true h
  exact ⟨n.toNat, by omega, by omega⟩
theorem Tr.small {n : Int} {zs p : List Int} {pl : Nat} (h : Tr n zs p pl) : p.length = pl * 3 ∧ pl ≤ 16 := by
  rcases h with ⟨_, rfl, rfl⟩ | ⟨m, l, ins, hn, hs, ht, hl, rfl, rfl⟩
  · exact ⟨rfl, by omega⟩
  · obtain ⟨m', e, h16⟩ := mat_nat (symB_mat hs)
    exact ⟨flE_len l, by omega⟩
theorem own_intsE {w : World} {base n c : Nat} {a : Option Addr} {l : List Int} (h : w.ownsRow base 32 3 (.slice a n c) n (l.map (Value.int .i64))) : IntsAt w a l := fun j hj => by
  rcases own_kinds h with ⟨_, h2⟩ | ⟨g, c', h2, _⟩
  · have := h.1
    rw [List.length_map, h2] at this
    omega
  · simp only [Value.slice.injEq, true_and] at h2
    obtain ⟨rfl, rfl⟩ := h2
    refine ⟨g, 0, rfl, ?_⟩
    rw [Nat.zero_add]
    refine (own_cellV h ?_).1
    rw [List.getElem?_map, List.getElem?_eq_getElem hj, List.getD_eq_getElem?_getD, List.getElem?_eq_getElem hj]
    rfl
theorem specSpan_tr (n : Int) (a : Option Addr) (cap : Nat) (zs : List Int) (w : World) (hA : IntsAt w a zs) :
    Calls Try.prog 9 #[.agg #[.int .i64 n, .slice a zs.length cap]] w fun e w' => ∃ p pl wa wc, Tr n zs p pl ∧ e = .returned (.slice wa pl wc) ∧ Below w.heap.size w w' ∧ IntsAt w' wa p ∧ ∀ b, (Value.slice wa 0 0).ownBlock = some b → 0 < pl → w.heap.size ≤ b ∧ b < w'.heap.size := by
  cases hs : symB n zs
  · refine (specSpan_no n a cap zs w hA hs).mono ?_
    rintro e w' ⟨b, rfl, hb⟩
    exact ⟨[], 0, _, _, .inl ⟨hs, rfl, rfl⟩, rfl, hb, fun j hj => (by simp at hj), fun b _ h => by omega⟩
  · obtain ⟨m, rfl, _⟩ := mat_nat (symB_mat hs)
    refine (specSpan_any m a cap zs w hA (symB_mat hs) hs).mono ?_
    rintro e w' ⟨ls, l, ins, rfl, hb, ho, ht, hl⟩
    obtain ⟨wa, wc, e1⟩ : ∃ wa wc, ls = .slice wa l.length wc := by
      rcases own_kinds ho with ⟨h1, h2⟩ | ⟨g9, c9, h1, _⟩
      · exact ⟨none, 0, by rw [h1, h2]⟩
      · exact ⟨_, c9, h1⟩
    subst e1
    refine ⟨flE l, l.length, wa, wc, .inr ⟨m, l, ins, rfl, hs, ht, hl, rfl, rfl⟩, rfl, hb, own_intsE ho, fun b e _ => ho.lt b ?_⟩
    cases wa with
    | none => cases e
    | some ad => exact e
theorem implSpan_tr (n : Int) (a : Option Addr) (cap : Nat) (zs p : List Int) (pl : Nat) (w : World) (hA : IntsAt w a zs) (hT : Tr n zs p pl) :
    Calls Try.prog 8 #[.agg #[.int .i64 n, .slice a zs.length cap]] w fun e w' => ∃ ga gc, e = .returned (.slice ga pl gc) ∧ Below w.heap.size w w' ∧ IntsAt w' ga p ∧ w'.ownsRow w.heap.size 32 3 (.slice ga pl gc) pl (p.map (Value.int .i64)) := by
  rcases hT with ⟨hs, rfl, rfl⟩ | ⟨m, l, ins, rfl, hs, ht, hl, rfl, rfl⟩
  · refine (implSpan_no n a cap zs w hA hs).mono ?_
    rintro e w' ⟨rfl, hb⟩
    exact ⟨none, 0, rfl, hb, fun j hj => (by simp at hj), ⟨rfl, .inl ⟨rfl, rfl⟩⟩⟩
  · refine (implSpan_any m a cap zs w hA (symB_mat hs) hs).mono ?_
    rintro e w' ⟨ls, l', ins', rfl, hb, ho, ht', hl'⟩
    obtain ⟨e1, -⟩ := ht.one ht' (by omega)
    subst e1
    obtain ⟨wa, wc, e1⟩ : ∃ wa wc, ls = .slice wa l'.length wc := by
      rcases own_kinds ho with ⟨h1, h2⟩ | ⟨g9, c9, h1, _⟩
      · exact ⟨none, 0, by rw [h1, h2]⟩
      · exact ⟨_, c9, h1⟩
    subst e1
    exact ⟨wa, wc, rfl, hb, own_intsE ho, ho⟩

end Go.Proofs.Ytaehhlkpbhmdfaa

namespace Go.Proofs.Ytaehhlkpbhmdfaa
open Go.RowKit

theorem ints_but {S : Nat → Prop} {w w' : World} {a : Option Addr} {zs : List Int} (h : IntsAt w a zs) (hg : GrownBut S w w') (hs : ∀ b, (Value.slice a 0 0).ownBlock = some b → ¬ S b) : IntsAt w' a zs := fun j hj => by
  obtain ⟨b, off, e, hc⟩ := h j hj
  refine ⟨b, off, e, ?_⟩
  rw [← hc]
  exact World.cell?_of_block (hg.block b (block_lt_of_cell hc) (hs b (by rw [e]; rfl)))

set_option maxHeartbeats 400000 in
theorem lawSpan_big (n : Int) (a : Option Addr) (cap len : Nat) (w : World) (hlen : len ≤ 9223372036854775807) (hbig : 1048576 < len) :
    Calls Try.prog 5 #[.agg #[.int .i64 n, .slice a len cap]] w fun e w' => e = .returned (.bool true) ∧ Below w.heap.size w w' := by
  have HB0 : Hid (Below w.heap.size w (w.alloc (Obj.cells #[Value.int IntKind.i64 n, Value.slice a len cap] 42))) :=
    (Below.refl _ _).alloc (Nat.le_refl _) _
  go_enter Try.func5, Try.ntmps5
  go_wp2_with fail
  refine (szMat_any n a len cap 1048576 _ (by omega) (by omega) hlen).mono ?_
  rintro e w1 ⟨rfl, hb⟩
  rw [if_pos (by omega)]
  go_wp2
  go_ret
  exact ⟨rfl, HB0.out.trans (hb.mono (by simp <;> omega))⟩

set_option maxRecDepth 10000 in
set_option maxHeartbeats 4000000 in
theorem lawSpan (n : Int) (a : Option Addr) (cap : Nat) (zs : List Int) (w : World) (hA : IntsAt w a zs) (hsm : zs.length ≤ 1048576) :
    Calls Try.prog 5 #[.agg #[.int .i64 n, .slice a zs.length cap]] w fun e w' => e = .returned (.bool true) ∧ Below w.heap.size w w' := by
  have HB0 : Hid (Below w.heap.size w (w.alloc (Obj.cells #[Value.int IntKind.i64 n, Value.slice a zs.length cap] 42))) :=
    (Below.refl _ _).alloc (Nat.le_refl _) _
  have HA : Hid (IntsAt w a zs) := hA
  clear hA
  obtain ⟨zl, HZL⟩ : ∃ zl, Hid (zs.length = zl) := ⟨_, rfl⟩
  have TOM : Hid (∀ W, Below w.heap.size w W → Calls Try.prog 21 #[.agg #[.int .i64 n, .slice a zl cap]] W fun e w' => ∃ g, W.heap.size ≤ g ∧ e = .returned (.agg #[.int .i64 n, .slice (some ⟨g, 0, none⟩) zl zl]) ∧ Below W.heap.size W w' ∧ w'.heap[g]? = some (.cells (cellsOf zs) 2 (0, 0))) := fun W hB => by
    have := toMat_any n a cap zs W (HA.out.below hB) hsm
    rw [HZL.out] at this
    exact this
  have EQX : Hid (∀ W ga gc wa wc, IntsAt W ga zs → IntsAt W wa zs → Calls Try.prog 23 #[.agg #[.int .i64 n, .slice ga zl gc], .agg #[.int .i64 n, .slice wa zl wc]] W fun e w' => e = .returned (.bool true) ∧ Below W.heap.size W w') := fun W ga gc wa wc h1 h2 => by
    have := eqMat_same n ga wa gc wc zs W h1 h2 (by omega)
    rw [HZL.out] at this
    exact this
  go_enter Try.func5, Try.ntmps5
  go_wp2_with fail
  refine (szMat_any n a zs.length cap 1048576 _ (by omega) (by omega) (by omega)).mono ?_
  rintro e w1 ⟨rfl, hb⟩
  rw [if_neg (by omega)]
  have R1 : Hid (MBx w1 w.heap.size n (.slice a zl cap) 42) := by show MBx _ _ _ _ _; rw [← HZL.out]; exact below_row hb (by simp) (heap_alloc_new _ _)
  have B1 : Hid (Below w.heap.size w w1) := HB0.out.trans (hb.mono (by simp))
  clear hb HB0
  rw [HZL.out] at hsm ⊢
  obtain ⟨c0, c1⟩ := R1.out.cells
  -- the model
  go_wp2_with fail
  refine (TOM.out _ B1.out).mono ?_
  rintro e w2 ⟨g, -, rfl, hb, hg⟩
  have G2 : Hid (IntsAt w2 (some ⟨g, 0, none⟩) zs) := IntsAt.of_row hg
  have R2 : Hid (MBx w2 w.heap.size n (.slice a zl cap) 42) := R1.out.below hb
  have B2 : Hid (Below w.heap.size w w2) := B1.out.trans (hb.mono B1.out.size)
  clear hb hg R1 B1 c0 c1
  go_wp2_with fail
  have SPC := specSpan_tr n (some ⟨g, 0, none⟩) zl zs w2 G2.out
  rw [HZL.out] at SPC
  refine SPC.mono ?_
  rintro e w3 ⟨p, pl, wa, wc, hT, rfl, hb, hi, hw⟩
  obtain ⟨hpl, hp16⟩ := hT.small
  have HPL : Hid (p.length = pl * 3) := hpl
  have HT : Hid (Tr n zs p pl) := hT
  have EQW : Hid (∀ W ga gc wa wc, IntsAt W ga p → IntsAt W wa p → Calls Try.prog 22 #[.slice ga pl gc, .slice wa pl wc] W fun e w' => e = .returned (.bool true) ∧ Below W.heap.size W w') := fun W ga gc wa wc h1 h2 => eqEdgeS_same ga wa pl gc wc p W h1 h2 HPL.out (by omega)
  have IMP : Hid (∀ W g, IntsAt W (some ⟨g, 0, none⟩) zs → Calls Try.prog 8 #[.agg #[.int .i64 n, .slice (some ⟨g, 0, none⟩) zl zl]] W fun e w' => ∃ ga gc, e = .returned (.slice ga pl gc) ∧ Below W.heap.size W w' ∧ IntsAt w' ga p ∧ w'.ownsRow W.heap.size 32 3 (.slice ga pl gc) pl (p.map (Value.int .i64))) := fun W g h => by
    have := implSpan_tr n (some ⟨g, 0, none⟩) zl zs p pl W h HT.out
    rw [HZL.out] at this
    exact this
  have R3 : Hid (MBx w3 w.heap.size n (.slice a zl cap) 42) := R2.out.below hb
  have B3 : Hid (Below w.heap.size w w3) := B2.out.trans (hb.mono B2.out.size)
  have W3 : Hid (IntsAt w3 wa p) := hi
  have WB : Hid (0 < pl → ∀ b, (Value.slice wa 0 0).ownBlock = some b → b < w3.heap.size) := fun h b e => (hw b e h).2
  have L3 : Hid (w.heap.size < w3.heap.size) := row_lt R3.out
  clear hb hi hw R2 B2 G2 SPC hT hpl
  obtain ⟨c0, c1⟩ := R3.out.cells
  go_wp2_with fail
  obtain ⟨kw, HKW⟩ : ∃ k, Hid (w3.heap.size = k) := ⟨_, rfl⟩
  rw [HKW.out] at WB L3
  -- the argument's copy
  refine (TOM.out _ B3.out).mono ?_
  rintro e w4 ⟨gx, hgx, rfl, hb, hg⟩
  have ha : Below w4.heap.size w4 (w4.alloc (.cells #[.int .i64 n, .slice (some ⟨gx, 0, none⟩) zl zl] 26)) := (Below.refl _ _).alloc (Nat.le_refl _) _
  have R4 : Hid (MBx (w4.alloc (.cells #[.int .i64 n, .slice (some ⟨gx, 0, none⟩) zl zl] 26)) w.heap.size n (.slice a zl cap) 42) := (R3.out.below hb).below ha
  have B4 : Hid (Below w.heap.size w (w4.alloc (.cells #[.int .i64 n, .slice (some ⟨gx, 0, none⟩) zl zl] 26))) := (B3.out.trans (hb.mono B3.out.size)).trans (ha.mono (B3.out.trans (hb.mono B3.out.size)).size)
  have W4 : Hid (IntsAt (w4.alloc (.cells #[.int .i64 n, .slice (some ⟨gx, 0, none⟩) zl zl] 26)) wa p) := (W3.out.below hb).below ha
  have X4 : Hid (MBx (w4.alloc (.cells #[.int .i64 n, .slice (some ⟨gx, 0, none⟩) zl zl] 26)) w4.heap.size n (.slice (some ⟨gx, 0, none⟩) zl zl) 26) := heap_alloc_new _ _
  have Y4 : Hid ((w4.alloc (.cells #[.int .i64 n, .slice (some ⟨gx, 0, none⟩) zl zl] 26)).heap[gx]? = some (.cells (cellsOf zs) 2 (0, 0))) := below_row ha (row_lt hg) hg
  have LX : Hid (kw ≤ gx ∧ gx < w4.heap.size) := ⟨by have := HKW.out; omega, row_lt hg⟩
  clear hb hg hgx ha R3 B3 W3 c0 c1
  obtain ⟨x0, x1⟩ := X4.out.cells
  have hsz4 : (w4.alloc (.cells #[.int .i64 n, .slice (some ⟨gx, 0, none⟩) zl zl] 26)).heap.size = w4.heap.size + 1 := by simp
  go_wp2_with fail
  generalize w4.alloc (.cells #[.int .i64 n, .slice (some ⟨gx, 0, none⟩) zl zl] 26) = v4 at *
  obtain ⟨kx, HKX⟩ : ∃ k, Hid (w4.heap.size = k) := ⟨_, rfl⟩
  rw [HKX.out] at X4 LX hsz4 ⊢
  have HS4 : Hid (v4.heap.size = kx + 1) := hsz4
  clear hsz4
  -- the program
  refine (IMP.out _ gx (IntsAt.of_row Y4.out)).mono ?_
  rintro e w5 ⟨ga, gc, rfl, hb, hi, ho⟩
  have R5 : Hid (MBx w5 w.heap.size n (.slice a zl cap) 42) := R4.out.below hb
  have B5 : Hid (Below w.heap.size w w5) := B4.out.trans (hb.mono B4.out.size)
  have W5 : Hid (IntsAt w5 wa p) := W4.out.below hb
  have X5 : Hid (MBx w5 kx n (.slice (some ⟨gx, 0, none⟩) zl zl) 26) := X4.out.below hb
  have Y5 : Hid (w5.heap[gx]? = some (.cells (cellsOf zs) 2 (0, 0))) := below_row hb (row_lt Y4.out) Y4.out
  have O5 : Hid (w5.ownsRow (kx + 1) 32 3 (.slice ga pl gc) pl (p.map (Value.int .i64))) := by rw [HS4.out] at ho; exact ho
  have G5 : Hid (IntsAt w5 ga p) := hi
  have OL : Hid (∀ b, (Value.slice ga pl gc).ownBlock = some b → kx + 1 ≤ b ∧ b < w5.heap.size) := fun b e => by have := ho.lt b e; rw [HS4.out] at this; exact this
  have L5 : Hid (kx < w5.heap.size) := row_lt X5.out
  clear hb hi ho R4 B4 W4 X4 Y4 HS4 x0 x1
  go_wp2_with fail
  refine (EQW.out _ _ _ _ _ G5.out W5.out).mono ?_
  rintro e w6 ⟨rfl, hb⟩
  have R6 : Hid (MBx w6 w.heap.size n (.slice a zl cap) 42) := R5.out.below hb
  have B6 : Hid (Below w.heap.size w w6) := B5.out.trans (hb.mono B5.out.size)
  have W6 : Hid (IntsAt w6 wa p) := W5.out.below hb
  have X6 : Hid (MBx w6 kx n (.slice (some ⟨gx, 0, none⟩) zl zl) 26) := X5.out.below hb
  have Y6 : Hid (w6.heap[gx]? = some (.cells (cellsOf zs) 2 (0, 0))) := below_row hb (row_lt Y5.out) Y5.out
  have O6 : Hid (w6.ownsRow (kx + 1) 32 3 (.slice ga pl gc) pl (p.map (Value.int .i64))) := owns_below O5.out hb
  clear hb R5 B5 W5 X5 Y5 O5 G5
  -- the argument is as it was
  obtain ⟨c0, c1⟩ := R6.out.cells
  obtain ⟨x0, x1⟩ := X6.out.cells
  have HI6 : Hid (IntsAt w6 (some ⟨gx, 0, none⟩) zs) := IntsAt.of_row Y6.out
  have hlt6 := row_lt X6.out
  go_wp2_with fail
  go_region_with (first
    | (go_at_call 21; refine (TOM.out _ (by exact B6.out.drew)).mono ?_; rintro e w7 ⟨g7, hg07, rfl, hb7, hg7⟩; have x07 := cell_of_row _ _ 0 _ _ _ (below_row hb7 (k := kx) hlt6 X6.out); have x17 := cell_of_row _ _ 1 _ _ _ (below_row hb7 (k := kx) hlt6 X6.out); simp at x07 x17; have HB7 : Hid _ := hb7; have HG7 : Hid _ := hg7; clear hb7 hg7 hg07)
    | (go_at_call 23; refine (EQX.out _ _ _ _ _ (by exact (HI6.out.below ((Below.refl _ _).drew)).below HB7.out) (by exact IntsAt.of_row HG7.out)).mono ?_; rintro e w8 ⟨rfl, hb8⟩))
  all_goals
    have hb6 : Below w6.heap.size w6 w8 := ((Below.refl w6.heap.size w6).drew.trans HB7.out).trans (hb8.mono ((Below.refl w6.heap.size w6).drew.trans HB7.out).size)
    have R8 : Hid (MBx w8 w.heap.size n (.slice a zl cap) 42) := R6.out.below hb6
    have B8 : Hid (Below w.heap.size w w8) := B6.out.trans (hb6.mono B6.out.size)
    have W8 : Hid (IntsAt w8 wa p) := W6.out.below hb6
    have X8 : Hid (MBx w8 kx n (.slice (some ⟨gx, 0, none⟩) zl zl) 26) := X6.out.below hb6
    have Y8 : Hid (w8.heap[gx]? = some (.cells (cellsOf zs) 2 (0, 0))) := below_row hb6 (row_lt Y6.out) Y6.out
    have O8 : Hid (w8.ownsRow (kx + 1) 32 3 (.slice ga pl gc) pl (p.map (Value.int .i64))) := owns_below O6.out hb6
    clear hb6 hb8 HB7 HG7 R6 B6 W6 X6 Y6 O6 HI6 hlt6 c0 c1 x0 x1 x07 x17
    -- the argument's marks
    obtain ⟨x0, x1⟩ := X8.out.cells
    go_wp2_with fail
    have MKX : Calls Try.prog 24 #[.agg #[.int .i64 n, .slice (some ⟨gx, 0, none⟩) zl zl], .int .i64 1] w8 fun e w' => e = .returned (.int .i64 (1 + (zl : Int))) ∧ w8.grownBy w' (some gx) := by
      have := markMatX n gx zl zs w8 Y8.out (by rw [HZL.out]; exact hsm)
      rw [HZL.out] at this
      exact this
    refine MKX.mono ?_
    rintro e w9 ⟨rfl, hg⟩
    have lx := LX.out
    have l5 := L5.out
    have l3 := L3.out
    have R9 : Hid (MBx w9 w.heap.size n (.slice a zl cap) 42) := R8.out.grown hg (fun e => by injection e with e; omega)
    have B9 : Hid (Below w.heap.size w w9) := B8.out.grown hg B8.out.size (fun k e => by injection e with e; omega)
    have W9 : Hid (IntsAt w9 wa p) := by
      by_cases h0 : 0 < pl
      · exact ints_grown W8.out hg (fun b e e2 => by injection e2 with e2; have := WB.out h0 b e; omega)
      · have hp0 : p = [] := List.length_eq_zero_iff.1 (by rw [HPL.out]; omega)
        rw [hp0]
        exact fun j hj => (by simp at hj)
    have O9 : Hid (w9.ownsRow (kx + 1) 32 3 (.slice ga pl gc) pl (p.map (Value.int .i64))) := O8.out.kept hg (.inr fun e => by have := (O8.out.lt _ e).1; omega)
    clear hg MKX R8 B8 W8 X8 Y8 O8 x0 x1 lx l5 l3
    obtain ⟨km, HKM⟩ : ∃ q, Hid ((1 : Int) + (zl : Int) = q) := ⟨_, rfl⟩
    have hkm : 0 ≤ km := by have := HKM.out; omega
    have hkn : ¬ km < 0 := by omega
    rw [HKM.out]
    have G9 : Hid (IntsAt w9 ga p) := own_intsE O9.out
    go_wp2_with fail
    refine (EQW.out _ _ _ _ _ G9.out W9.out).mono ?_
    rintro e w10 ⟨rfl, hb⟩
    have R10 : Hid (MBx w10 w.heap.size n (.slice a zl cap) 42) := R9.out.below hb
    have B10 : Hid (Below w.heap.size w w10) := B9.out.trans (hb.mono B9.out.size)
    have W10 : Hid (IntsAt w10 wa p) := W9.out.below hb
    have O10 : Hid (w10.ownsRow (kx + 1) 32 3 (.slice ga pl gc) pl (p.map (Value.int .i64))) := owns_below O9.out hb
    clear hb R9 B9 W9 O9 G9
    -- the answer's marks
    go_wp2_with fail
    refine (markE_own ga pl gc (kx + 1) 1 _ _ O10.out (by omega) (by omega) (by omega)).mono ?_
    rintro e w11 ⟨rfl, hg, hm⟩
    have lx := LX.out
    have l5 := L5.out
    have l3 := L3.out
    have R11 : Hid (MBx w11 w.heap.size n (.slice a zl cap) 42) := hg.row R10.out (fun e => by have := OL.out _ e; omega)
    have B11 : Hid (Below w.heap.size w w11) := B10.out.trans (hg.below B10.out.size (fun k e => by have := OL.out _ e; omega))
    have W11 : Hid (IntsAt w11 wa p) := by
      by_cases h0 : 0 < pl
      · exact ints_but W10.out hg (fun b e e2 => by have := OL.out _ e2; have := WB.out h0 b e; omega)
      · have hp0 : p = [] := List.length_eq_zero_iff.1 (by rw [HPL.out]; omega)
        rw [hp0]
        exact fun j hj => (by simp at hj)
    have M11 : Hid (w11.ownsRow (kx + 1) 32 3 (.slice ga pl gc) pl ((seqL 1 (pl * 3)).map (Value.int .i64))) := hm
    clear hg hm R10 B10 W10 O10 lx l5 l3
    obtain ⟨gm, HGM⟩ : ∃ q, Hid ((1 : Int) + ((pl * 3 : Nat) : Int) = q) := ⟨_, rfl⟩
    have hgm : 0 ≤ gm := by have := HGM.out; omega
    have hgn : ¬ gm < 0 := by omega
    have hgg : (gm != gm) = false := by simp
    rw [HGM.out]
    have HEL : Hid (∀ W, W.ownsRow (kx + 1) 32 3 (.slice ga pl gc) pl ((seqL 1 (pl * 3)).map (Value.int .i64)) → Calls Try.prog 26 #[.slice ga pl gc, .int .i64 1] W fun e w' => e = .returned (.int .i64 gm) ∧ w' = W) := fun W hW => by
      have := heldE_own ga pl gc (kx + 1) 1 W hW (by omega) (by omega) (by omega)
      rw [HGM.out] at this
      exact this
    go_wp2_with fail
    refine (HEL.out w11 M11.out).mono ?_
    rintro e w12 ⟨rfl, hb⟩
    subst hb
    -- once more
    obtain ⟨c0, c1⟩ := R11.out.cells
    go_wp2_with fail
    refine (TOM.out _ B11.out).mono ?_
    rintro e w13 ⟨g13, -, rfl, hb, hg⟩
    have I13 : Hid (IntsAt w13 (some ⟨g13, 0, none⟩) zs) := IntsAt.of_row hg
    have B13 : Hid (Below w.heap.size w w13) := B11.out.trans (hb.mono B11.out.size)
    have W13 : Hid (IntsAt w13 wa p) := W11.out.below hb
    have M13 : Hid (w13.ownsRow (kx + 1) 32 3 (.slice ga pl gc) pl ((seqL 1 (pl * 3)).map (Value.int .i64))) := owns_below M11.out hb
    clear hb hg R11 B11 W11 M11 c0 c1
    go_wp2_with fail
    refine (IMP.out _ g13 I13.out).mono ?_
    rintro e w14 ⟨ha1, hc1, rfl, hb, hi, -⟩
    have B14 : Hid (Below w.heap.size w w14) := B13.out.trans (hb.mono B13.out.size)
    have W14 : Hid (IntsAt w14 wa p) := W13.out.below hb
    have M14 : Hid (w14.ownsRow (kx + 1) 32 3 (.slice ga pl gc) pl ((seqL 1 (pl * 3)).map (Value.int .i64))) := owns_below M13.out hb
    have J14 : Hid (IntsAt w14 ha1 p) := hi
    clear hb hi I13 B13 W13 M13
    go_wp2_with fail
    refine (EQW.out _ _ _ _ _ J14.out W14.out).mono ?_
    rintro e w15 ⟨rfl, hb⟩
    have B15 : Hid (Below w.heap.size w w15) := B14.out.trans (hb.mono B14.out.size)
    have M15 : Hid (w15.ownsRow (kx + 1) 32 3 (.slice ga pl gc) pl ((seqL 1 (pl * 3)).map (Value.int .i64))) := owns_below M14.out hb
    clear hb B14 W14 M14 J14
    go_wp2_with fail
    refine (HEL.out w15 M15.out).mono ?_
    rintro e w16 ⟨rfl, hb⟩
    subst hb
    go_wp2
    go_ret
    exact ⟨rfl, B15.out⟩

theorem lawSpan_all (n : Int) (a : Option Addr) (cap : Nat) (zs : List Int) (w : World) (hA : IntsAt w a zs) (hl : zs.length ≤ 9223372036854775807) :
    Calls Try.prog 5 #[.agg #[.int .i64 n, .slice a zs.length cap]] w fun e w' => e = .returned (.bool true) ∧ Below w.heap.size w w' := by
  by_cases h : zs.length ≤ 1048576
  · exact lawSpan n a cap zs w hA h
  · exact lawSpan_big n a cap _ w hl (by omega)

end Go.Proofs.Ytaehhlkpbhmdfaa
