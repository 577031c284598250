import Derived.Test.YtdnfgeojagagnahW9
namespace Go.Proofs.Ytdnfgeojagagnah
open Go.RowKit

set_option maxHeartbeats 1000000 in
theorem lawPathTime_big (n : Int) (a b : Option Addr) (len cap len2 c2 : Nat) (w : World) (hlen : len ≤ 9223372036854775807) (hlen2 : len2 ≤ 9223372036854775807) (h : ¬ (len ≤ 1048576 ∧ len2 ≤ 1048576)) :
    Calls Try.prog 5 #[.agg #[.int .i64 n, .slice a len cap], .slice b len2 c2] w fun e w' => e = .returned (.bool true) ∧ Below w.heap.size w w' := by
  have HB0 : Hid (Below w.heap.size w (w.alloc (Obj.cells #[Value.int IntKind.i64 n, Value.slice a len cap] 24))) :=
    (Below.refl _ _).alloc (Nat.le_refl _) _
  by_cases hp : 1048576 < len2
  · clear h
    go_enter Try.func5, Try.ntmps5
    go_wp2
    go_ret
    exact ⟨rfl, HB0.out⟩
  · have hb : 1048576 < len := by omega
    clear h
    go_enter Try.func5, Try.ntmps5
    go_wp2_with fail
    refine (szMat_any n a len cap 1048576 _ (by omega) (by omega) hlen).mono ?_
    rintro e w1 ⟨rfl, hb⟩
    rw [if_pos (by omega)]
    go_wp2
    go_ret
    exact ⟨rfl, HB0.out.trans (hb.mono (by simp <;> omega))⟩

set_option maxHeartbeats 1000000 in
theorem lawPathTime (n : Int) (a b : Option Addr) (cap c2 : Nat) (zs ps : List Int) (w : World) (hA : IntsAt w a zs) (hP : IntsAt w b ps) (hlen : zs.length ≤ 1048576) (hlen2 : ps.length ≤ 1048576) :
    Calls Try.prog 5 #[.agg #[.int .i64 n, .slice a zs.length cap], .slice b ps.length c2] w fun e w' => e = .returned (.bool true) ∧ Below w.heap.size w w' := by
  have HA : Hid (IntsAt w a zs) := hA
  have HP : Hid (IntsAt w b ps) := hP
  clear hA hP
  go_enter Try.func5, Try.ntmps5
  go_wp2_with fail
  refine (szMat_any n a zs.length cap 1048576 _ (by omega) (by omega) (by omega)).mono ?_
  rintro e w1 ⟨rfl, hb⟩
  rw [if_neg (by omega)]
  obtain ⟨b1, r1, c0, c1⟩ := box2 hb
  have B1 : Hid _ := b1
  have R1 : Hid _ := r1
  clear hb b1 r1
  -- the model
  go_wp2_with fail
  refine (toMat_any n a cap zs _ (HA.out.below B1.out) hlen).mono ?_
  rintro e w2 ⟨g2, _, rfl, hb, hg⟩
  obtain ⟨b2, r2, _, _⟩ := box2_more hb B1.out R1.out
  have G2 : Hid (w2.heap[g2]? = _) := hg
  have B2 : Hid _ := b2
  have R2 : Hid _ := r2
  clear hb hg b2 r2 R1 B1 c0 c1
  go_wp2_with fail
  refine (toInts_any b c2 ps _ (HP.out.below B2.out) hlen2).mono ?_
  rintro e w3 ⟨rfl, hb, _, hg⟩
  obtain ⟨b3, r3, _, _⟩ := box2_more hb B2.out R2.out
  have G3 : Hid (IntsAt w3 (some ⟨g2, 0, none⟩) zs) := (IntsAt.of_row G2.out).below hb
  have Q3 : Hid (IntsAt w3 (some ⟨w2.heap.size, 0, none⟩) ps) := IntsAt.of_row hg
  have B3 : Hid _ := b3
  have R3 : Hid _ := r3
  clear hb hg b3 r3 R2 B2 G2
  go_wp2_with fail
  refine (specPath_any n _ _ _ _ zs ps _ G3.out Q3.out (by omega)).mono ?_
  rintro e w4 ⟨rfl, hb⟩
  obtain ⟨b4, r4, c0, c1⟩ := box2_more hb B3.out R3.out
  have B4 : Hid _ := b4
  have R4 : Hid _ := r4
  clear hb b4 r4 B3 R3 G3 Q3
  obtain ⟨t, HT⟩ : ∃ t, Hid (pathV n zs ps = t) := ⟨_, rfl⟩
  rw [HT.out]
  -- the program
  go_wp2_with fail
  refine (toMat_any n a cap zs _ (HA.out.below B4.out) hlen).mono ?_
  rintro e w5 ⟨g5, _, rfl, hb, hg⟩
  obtain ⟨b5, r5, _, _⟩ := box2_more hb B4.out R4.out
  have X5 : Hid (Below w5.heap.size w5 (w5.alloc (Obj.cells #[Value.int IntKind.i64 n, Value.slice (some ⟨g5, 0, none⟩) zs.length zs.length] 27))) := (Below.refl _ _).alloc (Nat.le_refl _) _
  have G5 : Hid (IntsAt w5 (some ⟨g5, 0, none⟩) zs) := IntsAt.of_row hg
  have B5 : Hid _ := b5
  have R5 : Hid _ := r5
  clear hb hg b5 r5 B4 R4 c0 c1
  go_wp2_with fail
  refine (toInts_any b c2 ps _ (HP.out.below (B5.out.trans (X5.out.mono B5.out.size))) hlen2).mono ?_
  rintro e w6 ⟨rfl, hb, _, hg⟩
  obtain ⟨b6, x6, y0, y1⟩ := box2 hb
  obtain ⟨b6', r6, c0, c1⟩ := box2_more b6 B5.out R5.out
  have G6 : Hid (IntsAt w6 (some ⟨g5, 0, none⟩) zs) := G5.out.below b6
  have Q6 : Hid (IntsAt w6 (some ⟨w5.heap.size + 1, 0, none⟩) ps) := IntsAt.of_row (by simpa using hg)
  have B6 : Hid _ := b6'
  have X6 : Hid _ := x6
  have R6 : Hid _ := r6
  clear hb hg b6 b6' x6 r6 X5 G5 B5 R5
  go_wp2_with fail
  refine (implPath_any n _ _ _ _ zs ps _ G6.out (by simpa using Q6.out) (by omega)).mono ?_
  rintro e w7 ⟨rfl, hb⟩
  rw [HT.out]
  obtain ⟨b7, r7, c0', c1'⟩ := box2_more hb B6.out R6.out
  obtain ⟨_, x7, y0', y1'⟩ := box2_more hb B6.out X6.out
  have hlt7 := row_lt x7
  have G7 : Hid (IntsAt w7 (some ⟨g5, 0, none⟩) zs) := G6.out.below hb
  have Q7 : Hid (IntsAt w7 (some ⟨w5.heap.size + 1, 0, none⟩) ps) := Q6.out.below hb
  have B7 : Hid _ := b7
  have X7 : Hid _ := x7
  have R7 : Hid _ := r7
  clear hb b7 x7 r7 c0 c1 y0 y1 G6 Q6 B6 X6 R6
  have htt : (t != t) = false := by simp
  go_wp2_with fail
  go_region_with (first
    | (go_at_call 8; refine (toMat_any n a cap zs _ (by exact HA.out.below B7.out.drew) hlen).mono ?_; rintro e w8 ⟨g8, _, rfl, hb8, hg8⟩; have x08 := cell_of_row _ _ 0 _ _ _ (below_row hb8 (k := w5.heap.size) hlt7 X7.out); have x18 := cell_of_row _ _ 1 _ _ _ (below_row hb8 (k := w5.heap.size) hlt7 X7.out); simp at x08 x18; have HB8 : Hid _ := hb8; have HG8 : Hid _ := hg8; clear hb8 hg8)
    | (go_at_call 10; refine (eqMat_same n _ _ _ _ zs _ (by exact (G7.out.below ((Below.refl _ _).drew)).below HB8.out) (by exact IntsAt.of_row HG8.out) (by omega)).mono ?_; rintro e w9 ⟨rfl, hb9⟩; have HB9 : Hid _ := hb9; clear hb9))
  all_goals
    have B8 : Hid (Below w.heap.size w w8) := B7.out.drew.trans (HB8.out.mono B7.out.size)
    have B9 : Hid (Below w.heap.size w w9) := B8.out.trans (HB9.out.mono B8.out.size)
    have Q9 : Hid (IntsAt w9 (some ⟨w5.heap.size + 1, 0, none⟩) ps) := ((Q7.out.below ((Below.refl _ _).drew)).below HB8.out).below HB9.out
    go_wp2_with fail
    refine (toInts_any b c2 ps _ (HP.out.below B9.out) hlen2).mono ?_
    rintro e w10 ⟨rfl, hb, _, hg⟩
    have B10 : Hid (Below w.heap.size w w10) := B9.out.trans (hb.mono B9.out.size)
    have Q10 : Hid (IntsAt w10 (some ⟨w5.heap.size + 1, 0, none⟩) ps) := Q9.out.below hb
    have HG : Hid _ := hg
    clear hb hg
    go_wp2_with fail
    refine (eqInts_any _ _ _ _ ps ps _ (by simpa using Q10.out) (IntsAt.of_row HG.out) (by omega)).mono ?_
    rintro e w11 ⟨rfl, hb⟩
    have hd : decide (ps = ps) = true := by simp
    rw [hd]
    clear hd
    go_wp2
    go_ret
    exact ⟨rfl, B10.out.trans (hb.mono B10.out.size)⟩

end Go.Proofs.Ytdnfgeojagagnah
