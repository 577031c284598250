import Derived.Test.YtpahhhocgpohbaaPack11
import Derived.Laws.StructEq
namespace Go.Proofs.Ytpahhhocgpohbaa
open Go.RowKit

theorem eqlF (x y x' y' : ByteArray) (b : Bool) (hb : decide ((x, y) = ((x', y') : FI)) = b) (w : World) : (Op.equalIn 10000 55 (.agg #[.string x, .string y]) (.agg #[.string x', .string y'])).run Try.prog w = .ok b w := by
  have u3 := Try.underlying9
  have a3 := Try.isAgg9
  have z3 := Try.sizeOf9
  have hS : Try.prog.underlying 55 = some (.struct (Try.prog.fieldsOf 55)) := by kernel_rfl
  have hp : Try.prog.stoodInHeld 55 = false := by kernel_rfl
  rw [show (10000 : Nat) = 9999 + 1 from rfl, run_equalIn_agg w 9999 55 _ _ hS hp]
  simp only [Program.fieldsOf, Try.underlying55]
  subst hb
  by_cases h1 : x = x'
  · by_cases h2 : y = y'
    · have e1 := str_eq h1
      have e2 := str_eq h2
      rw [decide_eq_true (by rw [h1, h2])]
      go_simp
    · have e1 := str_eq h1
      have e2 := str_ne h2
      rw [decide_eq_false (fun e => h2 (Prod.mk.inj e).2)]
      go_simp
  · have e1 := str_ne h1
    rw [decide_eq_false (fun e => h1 (Prod.mk.inj e).1)]
    go_simp
theorem sameF_step {A B : List FI} {i : Nat} (h : A.take i = B.take i) (hA : i < A.length) (hB : i < B.length) (he : A.getD i fi0 = B.getD i fi0) : A.take (i + 1) = B.take (i + 1) := by
  rw [take_snocF A i hA, take_snocF B i hB, h, he]

set_option maxHeartbeats 1000000 in
theorem l12Same_any (a1 a2 : Option Addr) (c1 c2 : Nat) (A B : List FI) (w : World) (h1 : FilesAt w a1 A) (h2 : FilesAt w a2 B) (hn : A.length ≤ 1048576) (hm : B.length ≤ 1048576) :
    Calls Try.prog 27 #[.slice a1 A.length c1, .slice a2 B.length c2] w fun e w' => e = .returned (.bool (decide (A = B))) ∧ Below w.heap.size w w' := by
  have H1 : Hid (FilesAt w a1 A) := h1
  have H2 : Hid (FilesAt w a2 B) := h2
  clear h1 h2
  obtain ⟨r, HR⟩ : ∃ r, Hid (decide (A = B) = r) := ⟨_, rfl⟩
  rw [HR.out]
  obtain ⟨n, HN⟩ : ∃ n, Hid (A.length = n) := ⟨_, rfl⟩
  obtain ⟨m, HM⟩ : ∃ m, Hid (B.length = m) := ⟨_, rfl⟩
  rw [HN.out] at hn ⊢
  rw [HM.out] at hm ⊢
  by_cases hnm : n = m
  · subst hnm
    have hnn : ((n : Int) != (n : Int)) = false := by simp
    go_enter Try.func27, Try.ntmps27
    go_wp2_with fail
    go_loopw [5] (fun ti wr => ∃ i : Nat, i ≤ n ∧ ti = .int .i64 i ∧ A.take i = B.take i ∧ Below w.heap.size w wr) (fun ti _ => n - (intOf ti).toNat)
    case atStart => exact ⟨0, Nat.zero_le _, rfl, by simp, Below.refl _ _⟩
    case round =>
      obtain ⟨i, hi, rfl, ht, hb⟩ := hrel
      have HT : Hid (A.take i = B.take i) := ht
      have B1 : Hid (Below w.heap.size w wr) := hb
      clear ht hb
      by_cases hlt : i < n
      · have hin : (i : Int) < n := by omega
        obtain ⟨b, off, e, p1, p2⟩ := (H1.out.below B1.out) i (by rw [HN.out]; exact hlt)
        obtain ⟨b', off', e', q1, q2⟩ := (H2.out.below B1.out) i (by rw [HM.out]; exact hlt)
        subst e e'
        have HS : Hid (A.getD i fi0 = B.getD i fi0 → A.take (i + 1) = B.take (i + 1)) := fun h => sameF_step HT.out (by rw [HN.out]; exact hlt) (by rw [HM.out]; exact hlt) h
        have HNO : Hid (A.getD i fi0 ≠ B.getD i fi0 → r = false) := fun h => by
          rw [← HR.out]
          exact decide_eq_false (fun e => h (by rw [e]))
        generalize A.getD i fi0 = f at *
        generalize B.getD i fi0 = g at *
        obtain ⟨x, y⟩ := f
        obtain ⟨x', y'⟩ := g
        simp only at p1 p2 q1 q2
        have z1 := fun s : Kin wr => s.cell p1
        have z2 := fun s : Kin wr => s.cell p2
        have z3 := fun s : Kin wr => s.cell q1
        have z4 := fun s : Kin wr => s.cell q2
        have hkin := Kin.there wr
        by_cases he : (x, y) = ((x', y') : FI)
        · have HS2 : Hid (A.take (i + 1) = B.take (i + 1)) := HS.out he
          have hEQ := eqlF x y x' y' true (decide_eq_true he)
          clear HS HNO he
          go_wp2_with fail
          refine wp_region_kin (by kernel_rfl) (by kernel_rfl) ?_
          repeat (go_big_quiet_step (fail))
          refine wpQuiet_nil ?_
          rintro _ ⟨s1, rfl⟩
          have B2 : Hid (Below w.heap.size w s1.w) := B1.out.trans (s1.below.mono B1.out.size)
          clear z1 z2 z3 z4 hkin
          generalize s1.w = w2 at *
          go_wp2
          go_roundw
          case rel => exact ⟨i + 1, by omega, by first | rfl | go_num, HS2.out, B2.out⟩
          case measure => simp [intOf]; omega
        · have hr : r = false := HNO.out he
          subst hr
          have hEQ := eqlF x y x' y' false (decide_eq_false he)
          clear HS HNO he
          go_wp2_with fail
          refine wp_region_kin (by kernel_rfl) (by kernel_rfl) ?_
          repeat (go_big_quiet_step (fail))
          refine wpQuiet_nil ?_
          rintro _ ⟨s1, rfl⟩
          have B2 : Hid (Below w.heap.size w s1.w) := B1.out.trans (s1.below.mono B1.out.size)
          clear z1 z2 z3 z4 hkin
          generalize s1.w = w2 at *
          go_wp2
          go_ret
          exact ⟨rfl, B2.out⟩
      · have hin : i = n := by omega
        subst hin
        have hr : r = true := by
          rw [← HR.out]
          have := HT.out
          rw [List.take_of_length_le (by rw [HN.out]; exact Nat.le_refl _), List.take_of_length_le (by rw [HM.out]; exact Nat.le_refl _)] at this
          exact decide_eq_true this
        subst hr
        go_wp2
        go_ret
        exact ⟨rfl, B1.out⟩
  · have hnn : ((n : Int) != (m : Int)) = true := by simp; omega
    have hr : r = false := by
      rw [← HR.out]
      exact decide_eq_false (fun e => hnm (by rw [← HN.out, ← HM.out, e]))
    subst hr
    go_enter Try.func27, Try.ntmps27
    go_wp2
    go_ret
    exact ⟨rfl, Below.refl _ _⟩

end Go.Proofs.Ytpahhhocgpohbaa

namespace Go.Proofs.Ytpahhhocgpohbaa
open Go.RowKit

set_option maxHeartbeats 1000000 in
theorem equalFiles_any (a1 a2 : Option Addr) (c1 c2 : Nat) (A B : List FI) (w : World) (h1 : FilesAt w a1 A) (h2 : FilesAt w a2 B) (hn : A.length ≤ 1048576) (hm : B.length ≤ 1048576) :
    Calls Try.prog 48 #[.slice a1 A.length c1, .slice a2 B.length c2] w fun e w' => e = .returned (.bool (decide (A = B))) ∧ Below w.heap.size w w' := by
  have H1 : Hid (FilesAt w a1 A) := h1
  have H2 : Hid (FilesAt w a2 B) := h2
  clear h1 h2
  obtain ⟨r, HR⟩ : ∃ r, Hid (decide (A = B) = r) := ⟨_, rfl⟩
  rw [HR.out]
  obtain ⟨n, HN⟩ : ∃ n, Hid (A.length = n) := ⟨_, rfl⟩
  obtain ⟨m, HM⟩ : ∃ m, Hid (B.length = m) := ⟨_, rfl⟩
  rw [HN.out] at hn ⊢
  rw [HM.out] at hm ⊢
  by_cases hnm : n = m
  · subst hnm
    have hnn : ((n : Int) != (n : Int)) = false := by simp
    go_enter Try.func48, Try.ntmps48
    go_wp2_with fail
    go_loopw [13] (fun ti wr => ∃ i : Nat, i ≤ n ∧ ti = .int .i64 i ∧ A.take i = B.take i ∧ Below w.heap.size w wr) (fun ti _ => n - (intOf ti).toNat)
    case atStart => exact ⟨0, Nat.zero_le _, rfl, by simp, Below.refl _ _⟩
    case round =>
      obtain ⟨i, hi, rfl, ht, hb⟩ := hrel
      have HT : Hid (A.take i = B.take i) := ht
      have B1 : Hid (Below w.heap.size w wr) := hb
      clear ht hb
      by_cases hlt : i < n
      · have hin : (i : Int) < n := by omega
        obtain ⟨b, off, e, p1, p2⟩ := (H1.out.below B1.out) i (by rw [HN.out]; exact hlt)
        obtain ⟨b', off', e', q1, q2⟩ := (H2.out.below B1.out) i (by rw [HM.out]; exact hlt)
        subst e e'
        have HS : Hid (A.getD i fi0 = B.getD i fi0 → A.take (i + 1) = B.take (i + 1)) := fun h => sameF_step HT.out (by rw [HN.out]; exact hlt) (by rw [HM.out]; exact hlt) h
        have HNO : Hid (A.getD i fi0 ≠ B.getD i fi0 → r = false) := fun h => by
          rw [← HR.out]
          exact decide_eq_false (fun e => h (by rw [e]))
        generalize A.getD i fi0 = f at *
        generalize B.getD i fi0 = g at *
        obtain ⟨x, y⟩ := f
        obtain ⟨x', y'⟩ := g
        simp only at p1 p2 q1 q2
        have z1 := fun s : Kin wr => s.cell p1
        have z2 := fun s : Kin wr => s.cell p2
        have z3 := fun s : Kin wr => s.cell q1
        have z4 := fun s : Kin wr => s.cell q2
        have hkin := Kin.there wr
        by_cases he : (x, y) = ((x', y') : FI)
        · have HS2 : Hid (A.take (i + 1) = B.take (i + 1)) := HS.out he
          have hEQ := eqlF x y x' y' true (decide_eq_true he)
          clear HS HNO he
          go_wp2_with fail
          refine wp_region_kin (by kernel_rfl) (by kernel_rfl) ?_
          repeat (go_big_quiet_step (fail))
          refine wpQuiet_nil ?_
          rintro _ ⟨s1, rfl⟩
          have B2 : Hid (Below w.heap.size w s1.w) := B1.out.trans (s1.below.mono B1.out.size)
          clear z1 z2 z3 z4 hkin
          generalize s1.w = w2 at *
          go_wp2
          go_roundw
          case rel => exact ⟨i + 1, by omega, by first | rfl | go_num, HS2.out, B2.out⟩
          case measure => simp [intOf]; omega
        · have hr : r = false := HNO.out he
          subst hr
          have hEQ := eqlF x y x' y' false (decide_eq_false he)
          clear HS HNO he
          go_wp2_with fail
          refine wp_region_kin (by kernel_rfl) (by kernel_rfl) ?_
          repeat (go_big_quiet_step (fail))
          refine wpQuiet_nil ?_
          rintro _ ⟨s1, rfl⟩
          have B2 : Hid (Below w.heap.size w s1.w) := B1.out.trans (s1.below.mono B1.out.size)
          clear z1 z2 z3 z4 hkin
          generalize s1.w = w2 at *
          go_wp2
          go_ret
          exact ⟨rfl, B2.out⟩
      · have hin : i = n := by omega
        subst hin
        have hr : r = true := by
          rw [← HR.out]
          have := HT.out
          rw [List.take_of_length_le (by rw [HN.out]; exact Nat.le_refl _), List.take_of_length_le (by rw [HM.out]; exact Nat.le_refl _)] at this
          exact decide_eq_true this
        subst hr
        go_wp2
        go_ret
        exact ⟨rfl, B1.out⟩
  · have hnn : ((n : Int) != (m : Int)) = true := by simp; omega
    have hr : r = false := by
      rw [← HR.out]
      exact decide_eq_false (fun e => hnm (by rw [← HN.out, ← HM.out, e]))
    subst hr
    go_enter Try.func48, Try.ntmps48
    go_wp2
    go_ret
    exact ⟨rfl, Below.refl _ _⟩

end Go.Proofs.Ytpahhhocgpohbaa

namespace Go.Proofs.Ytpahhhocgpohbaa
open Go.RowKit

/-- What may be asked of files: few, short. -/
structure FOk (F : List FI) : Prop where
  n : F.length ≤ 1048576
  t : totL F ≤ 1000000
  s : Shrt F
  u : totL F ≤ 4000000
theorem runF_some {S : List FI} {O : List OP} {k : Nat} {F : List FI} (h : runF S O (k + 1) = some F) : ∃ G, runF S O k = some G ∧ F = doF G (O.getD k op0) ∧ filB F = true := by
  rw [runF] at h
  cases hq : runF S O k with
  | none => rw [hq] at h; cases h
  | some G =>
    rw [hq] at h
    simp only at h
    split at h
    · rename_i hc
      simp only [Bool.and_eq_true] at hc
      injection h with h
      exact ⟨G, rfl, h.symm, by rw [← h]; exact hc.2.2⟩
    · cases h
theorem dskB_no {L S : List FI} {O : List OP} {k : Nat} (hk : k ≤ O.length) (h : runF S O k = none) : dskB L S O = false := by
  unfold dskB
  have := runF_no h (O.length - k)
  rw [show k + (O.length - k) = O.length by omega] at this
  rw [this]
  simp
theorem dskB_end {L S F : List FI} {O : List OP} (h1 : filB L = true) (h2 : filB S = true) (h3 : O.length ≤ 200) (h : runF S O O.length = some F) : dskB L S O = decide (F = L) := by
  unfold dskB
  rw [h1, h2, decide_eq_true h3, h]
  rfl
/-- The ops are not too long. -/
def OOk (O : List OP) : Prop := ∀ j, j < O.length → (O.getD j op0).n.size ≤ 1048576 ∧ (O.getD j op0).t.size ≤ 1048576 ∧ (O.getD j op0).d.size ≤ 1048576

set_option maxHeartbeats 4000000 in
set_option maxRecDepth 20000 in
theorem specDisk_any (la sa oa : Option Addr) (lc sc oc : Nat) (L S : List FI) (O : List OP) (w : World) (hL : FilesAt w la L) (hS : FilesAt w sa S) (hO : OpsAt w oa O)
    (hLn : L.length ≤ 1048576) (hSn : S.length ≤ 1048576) (hOn : O.length ≤ 1048576) (hLt : totL L ≤ 1048576) (hSt : totL S ≤ 1048576) (hLs : Shrt L) (hSs : Shrt S) (hOs : OOk O) :
    Calls Try.prog 9 #[.agg #[.slice la L.length lc, .slice sa S.length sc, .slice oa O.length oc]] w fun e w' => e = .returned (.bool (dskB L S O)) ∧ Below w.heap.size w w' := by
  obtain ⟨r, HR⟩ : ∃ r, Hid (dskB L S O = r) := ⟨_, rfl⟩
  rw [HR.out]
  obtain ⟨ln, HLN⟩ : ∃ n, Hid (L.length = n) := ⟨_, rfl⟩
  obtain ⟨sn, HSN⟩ : ∃ n, Hid (S.length = n) := ⟨_, rfl⟩
  obtain ⟨on, HON⟩ : ∃ n, Hid (O.length = n) := ⟨_, rfl⟩
  have LF : Hid (∀ W, FilesAt W la L → ∀ b, filB L = b → Calls Try.prog 24 #[.slice la ln lc] W fun e w' => e = .returned (.bool b) ∧ Below W.heap.size W w') := fun W h b hb => by
    have := l12Files_any la lc L W h hLn (by rw [totTo_all]; omega) (fun j hj => shrt_at hLs j hj)
    rw [HLN.out, hb] at this
    exact this
  have SF : Hid (∀ W, FilesAt W sa S → ∀ b, filB S = b → Calls Try.prog 24 #[.slice sa sn sc] W fun e w' => e = .returned (.bool b) ∧ Below W.heap.size W w') := fun W h b hb => by
    have := l12Files_any sa sc S W h hSn (by rw [totTo_all]; omega) (fun j hj => shrt_at hSs j hj)
    rw [HSN.out, hb] at this
    exact this
  rw [HLN.out, HSN.out, HON.out]
  have B0 : Hid (Below w.heap.size w (w.alloc (.cells #[.slice la ln lc, .slice sa sn sc, .slice oa on oc] 27))) := (Below.refl _ _).alloc (Nat.le_refl _) _
  have R0 : Hid ((w.alloc (.cells #[.slice la ln lc, .slice sa sn sc, .slice oa on oc] 27)).heap[w.heap.size]? = some (.cells #[.slice la ln lc, .slice sa sn sc, .slice oa on oc] 27 (0, 0))) := heap_alloc_new _ _
  obtain ⟨c0, c1, c2⟩ := cells3 R0.out
  have FL : Hid (FilesAt (w.alloc (.cells #[.slice la ln lc, .slice sa sn sc, .slice oa on oc] 27)) la L) := hL.below B0.out
  have FS : Hid (FilesAt (w.alloc (.cells #[.slice la ln lc, .slice sa sn sc, .slice oa on oc] 27)) sa S) := hS.below B0.out
  have FO : Hid (OpsAt (w.alloc (.cells #[.slice la ln lc, .slice sa sn sc, .slice oa on oc] 27)) oa O) := hO.below B0.out
  clear hL hS hO
  have HLS : Hid (Shrt L) := hLs
  have HSS : Hid (Shrt S) := hSs
  have HOS : Hid (OOk O) := hOs
  clear hLs hSs hOs
  rw [HLN.out] at hLn
  rw [HSN.out] at hSn
  rw [HON.out] at hOn
  obtain ⟨W0, HW0⟩ : ∃ W, Hid (w.alloc (.cells #[.slice la ln lc, .slice sa sn sc, .slice oa on oc] 27) = W) := ⟨_, rfl⟩
  go_enter Try.func9, Try.ntmps9
  cases hfl : filB L
  · have hr : r = false := by rw [← HR.out]; unfold dskB; rw [hfl]; rfl
    subst hr
    go_wp2_with (first
      | (go_at_call 24
         with_reducible refine (LF.out _ FL.out _ hfl).mono ?_
         rintro e w1 ⟨rfl, hb1⟩
         have B1 : Hid (Below w.heap.size w w1) := B0.out.trans (hb1.mono B0.out.size)
         clear hb1))
    go_ret
    exact ⟨rfl, B1.out⟩
  cases hfs : filB S
  · have hr : r = false := by rw [← HR.out]; unfold dskB; rw [hfl, hfs]; rfl
    subst hr
    go_wp2_with (first
      | (go_at_call 24
         with_reducible refine (LF.out _ FL.out _ hfl).mono ?_
         rintro e w1 ⟨rfl, hb1⟩
         have B1 : Hid (Below w.heap.size w w1) := B0.out.trans (hb1.mono B0.out.size)
         have S1 : Hid (FilesAt w1 sa S) := FS.out.below hb1
         obtain ⟨d0, d1, d2⟩ := cells3 (below_row hb1 (row_lt R0.out) R0.out)
         clear hb1)
      | (go_at_call 24
         with_reducible refine (SF.out w1 S1.out _ hfs).mono ?_
         rintro e w2 ⟨rfl, hb2⟩
         have B2 : Hid (Below w.heap.size w w2) := B1.out.trans (hb2.mono B1.out.size)
         clear hb2))
    go_ret
    exact ⟨rfl, B2.out⟩
  by_cases h200 : 200 < on
  · have h200' : (200 : Int) < on := by omega
    have hr : r = false := by rw [← HR.out]; unfold dskB; rw [HON.out, decide_eq_false (show ¬ on ≤ 200 by omega)]; simp
    subst hr
    go_wp2_with (first
      | (go_at_call 24
         with_reducible refine (LF.out _ FL.out _ hfl).mono ?_
         rintro e w1 ⟨rfl, hb1⟩
         have B1 : Hid (Below w.heap.size w w1) := B0.out.trans (hb1.mono B0.out.size)
         have S1 : Hid (FilesAt w1 sa S) := FS.out.below hb1
         have R1 : Hid (w1.heap[w.heap.size]? = some (.cells #[.slice la ln lc, .slice sa sn sc, .slice oa on oc] 27 (0, 0))) := below_row hb1 (row_lt R0.out) R0.out
         obtain ⟨d0, d1, d2⟩ := cells3 R1.out
         clear hb1)
      | (go_at_call 24
         with_reducible refine (SF.out w1 S1.out _ hfs).mono ?_
         rintro e w2 ⟨rfl, hb2⟩
         have B2 : Hid (Below w.heap.size w w2) := B1.out.trans (hb2.mono B1.out.size)
         obtain ⟨e0, e1, e2⟩ := cells3 (below_row hb2 (row_lt R1.out) R1.out)
         clear hb2))
    go_ret
    exact ⟨rfl, B2.out⟩
  have h200' : ¬ ((200 : Int) < on) := by omega
  go_wp2_with (first
    | fail
    | (go_at_call 24
       with_reducible refine (LF.out _ FL.out _ hfl).mono ?_
       rintro e w1 ⟨rfl, hb1⟩
       have B1 : Hid (Below w.heap.size w w1) := B0.out.trans (hb1.mono B0.out.size)
       have L1 : Hid (FilesAt w1 la L) := FL.out.below hb1
       have S1 : Hid (FilesAt w1 sa S) := FS.out.below hb1
       have O1 : Hid (OpsAt w1 oa O) := FO.out.below hb1
       have R1 : Hid (w1.heap[w.heap.size]? = some (.cells #[.slice la ln lc, .slice sa sn sc, .slice oa on oc] 27 (0, 0))) := below_row hb1 (row_lt R0.out) R0.out
       obtain ⟨d0, d1, d2⟩ := cells3 R1.out
       clear hb1)
    | (go_at_call 24
       with_reducible refine (SF.out w1 S1.out _ hfs).mono ?_
       rintro e w2 ⟨rfl, hb2⟩
       have B2 : Hid (Below w.heap.size w w2) := B1.out.trans (hb2.mono B1.out.size)
       have L2 : Hid (FilesAt w2 la L) := L1.out.below hb2
       have S2 : Hid (FilesAt w2 sa S) := S1.out.below hb2
       have O2 : Hid (OpsAt w2 oa O) := O1.out.below hb2
       have R2 : Hid (w2.heap[w.heap.size]? = some (.cells #[.slice la ln lc, .slice sa sn sc, .slice oa on oc] 27 (0, 0))) := below_row hb2 (row_lt R1.out) R1.out
       obtain ⟨e0, e1, e2⟩ := cells3 R2.out
       clear hb2))
  clear c0 c1 c2 d0 d1 d2 e0 e1 e2 L1 S1 O1 R1 B1 FL FS FO R0 B0 HW0 LF SF
  go_loopw [3, 4] (fun tn ti wr => ∃ (i na nc : _) (F : List FI), i ≤ on ∧ ti = .int .i64 (i : Nat) ∧ tn = .slice na F.length nc ∧ runF S O i = some F ∧ filB F = true ∧ FilesAt wr na F ∧ Shrt F ∧ Below w2.heap.size w2 wr) (fun _ ti _ => on - (intOf ti).toNat)
  case atStart => exact ⟨0, sa, sc, S, Nat.zero_le _, rfl, by rw [HSN.out], rfl, hfs, S2.out, HSS.out, Below.refl _ _⟩
  case round =>
    obtain ⟨i, na, nc, F, hi, rfl, rfl, hrun, hff, hfa, hsh, hb⟩ := hrel
    have HRUN : Hid (runF S O i = some F) := hrun
    have HFF : Hid (filB F = true) := hff
    have HFA : Hid (FilesAt wr na F) := hfa
    have HSH : Hid (Shrt F) := hsh
    have BR : Hid (Below w2.heap.size w2 wr) := hb
    clear hrun hff hfa hsh hb
    obtain ⟨f60, ffil, ftot⟩ := filB_true.1 HFF.out
    rw [totTo_all] at ftot
    have HRIS : Hid (RisF F) := risF_of F ffil
    clear ffil
    have RR : Hid (wr.heap[w.heap.size]? = some (.cells #[.slice la ln lc, .slice sa sn sc, .slice oa on oc] 27 (0, 0))) := below_row BR.out (row_lt R2.out) R2.out
    obtain ⟨g0, g1, g2⟩ := cells3 RR.out
    obtain ⟨fn, HFN⟩ : ∃ n, Hid (F.length = n) := ⟨_, rfl⟩
    by_cases hlt : i < on
    · have hin : (i : Int) < on := by omega
      have hiO : i < O.length := by rw [HON.out]; exact hlt
      obtain ⟨ob, oo, e, o0, o1, o2, o3⟩ := (O2.out.below BR.out) i hiO
      subst e
      obtain ⟨z1, z2, z3⟩ := HOS.out i hiO
      have HNO : Hid (runF S O (i + 1) = none → r = false) := fun h => by rw [← HR.out]; exact dskB_no hiO h
      have HRN : Hid (runF S O (i + 1) = if okF F (O.getD i op0) && (frmB (O.getD i op0) && filB (doF F (O.getD i op0))) then some (doF F (O.getD i op0)) else none) := by
        show _ = _
        rw [runF, HRUN.out]
      generalize O.getD i op0 = o at *
      have LD : Hid (∀ b, okF F o = b → Calls Try.prog 25 #[.slice na fn nc, .agg #[.int .i64 o.k, .string o.n, .string o.t, .string o.d]] wr fun e w' => ∃ v, e = .returned (.tuple #[v, .bool b]) ∧ Below wr.heap.size wr w' ∧ w'.ownsRow wr.heap.size 55 2 v (doF F o).length (rowF (doF F o))) := fun b hb => by
        have := l12Do_any na nc F o wr HFA.out (by omega) HRIS.out (by omega) (by omega)
        rw [HFN.out, hb] at this
        exact this
      have hdl := doF_len F o
      have hdt := totL_do F o
      have HDS : Hid (Shrt (doF F o)) := shrt_do HSH.out o (by omega) (by omega)
      have LFm : Hid (∀ W b, frmB o = b → Calls Try.prog 26 #[.agg #[.int .i64 o.k, .string o.n, .string o.t, .string o.d]] W fun e w' => e = .returned (.bool b) ∧ Below W.heap.size W w') := fun W b hb => by
        have := l12Form_any o W (by omega) (by omega)
        rw [hb] at this
        exact this
      have LFi : Hid (∀ W da dc b, FilesAt W da (doF F o) → filB (doF F o) = b → Calls Try.prog 24 #[.slice da (doF F o).length dc] W fun e w' => e = .returned (.bool b) ∧ Below W.heap.size W w') := fun W da dc b h hb => by
        have := l12Files_any da dc (doF F o) W h (by omega) (by rw [totTo_all]; omega) (fun j hj => shrt_at HDS.out j hj)
        rw [hb] at this
        exact this
      rw [HFN.out]
      obtain ⟨ok, on', ot, od⟩ := o
      simp only at o0 o1 o2 o3 LD LFm
      obtain ⟨D, HD⟩ : ∃ D, Hid (doF F ⟨ok, on', ot, od⟩ = D) := ⟨_, rfl⟩
      rw [HD.out] at LD LFi HRN HDS hdl hdt
      obtain ⟨dn, HDN⟩ : ∃ n, Hid (D.length = n) := ⟨_, rfl⟩
      rw [HDN.out] at LD LFi hdl
      cases hok : okF F ⟨ok, on', ot, od⟩
      · have hr : r = false := HNO.out (by rw [HRN.out, hok]; rfl)
        subst hr
        go_wp2_with fail
        refine (LD.out _ hok).mono ?_
        rintro e w3 ⟨v, rfl, hb3, -⟩
        have B3 : Hid (Below w.heap.size w w3) := B2.out.trans ((BR.out.trans (hb3.mono BR.out.size)).mono B2.out.size)
        clear hb3
        go_wp2
        go_ret
        exact ⟨rfl, B3.out⟩
      go_wp2_with fail
      refine (LD.out _ hok).mono ?_
      rintro e w3 ⟨v, rfl, hb3, ho3⟩
      have B3 : Hid (Below w.heap.size w w3) := B2.out.trans ((BR.out.trans (hb3.mono BR.out.size)).mono B2.out.size)
      have BR3 : Hid (Below w2.heap.size w2 w3) := BR.out.trans (hb3.mono BR.out.size)
      have R3 : Hid (w3.heap[w.heap.size]? = some (.cells #[.slice la ln lc, .slice sa sn sc, .slice (some ⟨ob, oo, none⟩) on oc] 27 (0, 0))) := below_row hb3 (row_lt RR.out) RR.out
      obtain ⟨k0, k1, k2⟩ := cells3 R3.out
      have m0 := (hb3.cell (p := ⟨ob, oo + i * 4, none⟩) (block_lt_of_cell o0)).trans o0
      have m1 := (hb3.cell (p := ⟨ob, oo + i * 4 + 1, none⟩) (block_lt_of_cell o1)).trans o1
      have m2 := (hb3.cell (p := ⟨ob, oo + i * 4 + 2, none⟩) (block_lt_of_cell o2)).trans o2
      have m3 := (hb3.cell (p := ⟨ob, oo + i * 4 + 3, none⟩) (block_lt_of_cell o3)).trans o3
      obtain ⟨va, vc, rfl, hvf⟩ := own_files ho3 HDN.out
      have V3 : Hid (FilesAt w3 va D) := hvf
      clear hb3 ho3 hvf g0 g1 g2 o0 o1 o2 o3
      cases hfm : frmB ⟨ok, on', ot, od⟩
      · have hr : r = false := HNO.out (by rw [HRN.out, hok, hfm]; rfl)
        subst hr
        go_wp2_with (first
          | (go_at_call 26
             with_reducible refine (LFm.out _ _ hfm).mono ?_
             rintro e w4 ⟨rfl, hb4⟩
             have B4 : Hid (Below w.heap.size w w4) := B3.out.trans (hb4.mono B3.out.size)
             clear hb4))
        go_ret
        exact ⟨rfl, B4.out⟩
      cases hfd : filB D
      · have hr : r = false := HNO.out (by rw [HRN.out, hok, hfm, hfd]; rfl)
        subst hr
        go_wp2_with (first
          | (go_at_call 26
             with_reducible refine (LFm.out _ _ hfm).mono ?_
             rintro e w4 ⟨rfl, hb4⟩
             have B4 : Hid (Below w.heap.size w w4) := B3.out.trans (hb4.mono B3.out.size)
             have V4 : Hid (FilesAt w4 va D) := V3.out.below hb4
             clear hb4)
          | (go_at_call 24
             with_reducible refine (LFi.out _ _ _ _ V4.out hfd).mono ?_
             rintro e w5 ⟨rfl, hb5⟩
             have B5 : Hid (Below w.heap.size w w5) := B4.out.trans (hb5.mono B4.out.size)
             clear hb5))
        go_ret
        exact ⟨rfl, B5.out⟩
      have HRX : Hid (runF S O (i + 1) = some D) := by show _ = _; rw [HRN.out, hok, hfm, hfd]; rfl
      have HFD : Hid (filB D = true) := hfd
      go_wp2_with (first
        | (go_at_call 26
           with_reducible refine (LFm.out _ _ hfm).mono ?_
           rintro e w4 ⟨rfl, hb4⟩
           have B4 : Hid (Below w2.heap.size w2 w4) := BR3.out.trans (hb4.mono BR3.out.size)
           have V4 : Hid (FilesAt w4 va D) := V3.out.below hb4
           clear hb4)
        | (go_at_call 24
           with_reducible refine (LFi.out _ _ _ _ V4.out hfd).mono ?_
           rintro e w5 ⟨rfl, hb5⟩
           have B5 : Hid (Below w2.heap.size w2 w5) := B4.out.trans (hb5.mono B4.out.size)
           have V5 : Hid (FilesAt w5 va D) := V4.out.below hb5
           clear hb5))
      go_roundw
      case rel => exact ⟨i + 1, va, vc, D, by omega, by first | rfl | go_num, by rw [HDN.out], HRX.out, HFD.out, V5.out, HDS.out, B5.out⟩
      case measure => simp [intOf]; omega
    · have hin : i = on := by omega
      subst hin
      have HE : Hid (r = decide (F = L)) := by
        show _ = _
        rw [← HR.out]
        exact dskB_end hfl hfs (by rw [HON.out]; omega) (by rw [HON.out]; exact HRUN.out)
      have LS : Hid (Calls Try.prog 27 #[.slice na fn nc, .slice la ln lc] wr fun e w' => e = .returned (.bool r) ∧ Below wr.heap.size wr w') := by
        have := l12Same_any na la nc lc F L wr HFA.out (L2.out.below BR.out) (by omega) (by rw [HLN.out]; exact hLn)
        rw [HFN.out, HLN.out, ← HE.out] at this
        exact this
      rw [HFN.out]
      go_wp2_with fail
      refine LS.out.mono ?_
      rintro e w3 ⟨rfl, hb3⟩
      have B3 : Hid (Below w.heap.size w w3) := B2.out.trans ((BR.out.trans (hb3.mono BR.out.size)).mono B2.out.size)
      clear hb3
      go_wp2
      go_ret
      exact ⟨rfl, B3.out⟩

end Go.Proofs.Ytpahhhocgpohbaa

namespace Go.Proofs.Ytpahhhocgpohbaa
open Go.RowKit

set_option maxHeartbeats 1000000 in
theorem sameFiles_any (a1 a2 : Option Addr) (c1 c2 : Nat) (A B : List FI) (w : World) (h1 : FilesAt w a1 A) (h2 : FilesAt w a2 B) (hn : A.length ≤ 1048576) (hm : B.length ≤ 1048576) :
    Calls Try.prog 12 #[.slice a1 A.length c1, .slice a2 B.length c2] w fun e w' => e = .returned (.bool (decide (A = B))) ∧ Below w.heap.size w w' := by
  have H1 : Hid (FilesAt w a1 A) := h1
  have H2 : Hid (FilesAt w a2 B) := h2
  clear h1 h2
  obtain ⟨r, HR⟩ : ∃ r, Hid (decide (A = B) = r) := ⟨_, rfl⟩
  rw [HR.out]
  obtain ⟨n, HN⟩ : ∃ n, Hid (A.length = n) := ⟨_, rfl⟩
  obtain ⟨m, HM⟩ : ∃ m, Hid (B.length = m) := ⟨_, rfl⟩
  rw [HN.out] at hn ⊢
  rw [HM.out] at hm ⊢
  by_cases hnm : n = m
  · subst hnm
    have hnn : ((n : Int) != (n : Int)) = false := by simp
    go_enter Try.func12, Try.ntmps12
    go_wp2_with fail
    go_loopw [5] (fun ti wr => ∃ i : Nat, i ≤ n ∧ ti = .int .i64 i ∧ A.take i = B.take i ∧ Below w.heap.size w wr) (fun ti _ => n - (intOf ti).toNat)
    case atStart => exact ⟨0, Nat.zero_le _, rfl, by simp, Below.refl _ _⟩
    case round =>
      obtain ⟨i, hi, rfl, ht, hb⟩ := hrel
      have HT : Hid (A.take i = B.take i) := ht
      have B1 : Hid (Below w.heap.size w wr) := hb
      clear ht hb
      by_cases hlt : i < n
      · have hin : (i : Int) < n := by omega
        obtain ⟨b, off, e, p1, p2⟩ := (H1.out.below B1.out) i (by rw [HN.out]; exact hlt)
        obtain ⟨b', off', e', q1, q2⟩ := (H2.out.below B1.out) i (by rw [HM.out]; exact hlt)
        subst e e'
        have HS : Hid (A.getD i fi0 = B.getD i fi0 → A.take (i + 1) = B.take (i + 1)) := fun h => sameF_step HT.out (by rw [HN.out]; exact hlt) (by rw [HM.out]; exact hlt) h
        have HNO : Hid (A.getD i fi0 ≠ B.getD i fi0 → r = false) := fun h => by
          rw [← HR.out]
          exact decide_eq_false (fun e => h (by rw [e]))
        generalize A.getD i fi0 = f at *
        generalize B.getD i fi0 = g at *
        obtain ⟨x, y⟩ := f
        obtain ⟨x', y'⟩ := g
        simp only at p1 p2 q1 q2
        have z1 := fun s : Kin wr => s.cell p1
        have z2 := fun s : Kin wr => s.cell p2
        have z3 := fun s : Kin wr => s.cell q1
        have z4 := fun s : Kin wr => s.cell q2
        have hkin := Kin.there wr
        by_cases he : (x, y) = ((x', y') : FI)
        · have HS2 : Hid (A.take (i + 1) = B.take (i + 1)) := HS.out he
          have hEQ := eqlF x y x' y' true (decide_eq_true he)
          clear HS HNO he
          go_wp2_with fail
          refine wp_region_kin (by kernel_rfl) (by kernel_rfl) ?_
          repeat (go_big_quiet_step (fail))
          refine wpQuiet_nil ?_
          rintro _ ⟨s1, rfl⟩
          have B2 : Hid (Below w.heap.size w s1.w) := B1.out.trans (s1.below.mono B1.out.size)
          clear z1 z2 z3 z4 hkin
          generalize s1.w = w2 at *
          go_wp2
          go_roundw
          case rel => exact ⟨i + 1, by omega, by first | rfl | go_num, HS2.out, B2.out⟩
          case measure => simp [intOf]; omega
        · have hr : r = false := HNO.out he
          subst hr
          have hEQ := eqlF x y x' y' false (decide_eq_false he)
          clear HS HNO he
          go_wp2_with fail
          refine wp_region_kin (by kernel_rfl) (by kernel_rfl) ?_
          repeat (go_big_quiet_step (fail))
          refine wpQuiet_nil ?_
          rintro _ ⟨s1, rfl⟩
          have B2 : Hid (Below w.heap.size w s1.w) := B1.out.trans (s1.below.mono B1.out.size)
          clear z1 z2 z3 z4 hkin
          generalize s1.w = w2 at *
          go_wp2
          go_ret
          exact ⟨rfl, B2.out⟩
      · have hin : i = n := by omega
        subst hin
        have hr : r = true := by
          rw [← HR.out]
          have := HT.out
          rw [List.take_of_length_le (by rw [HN.out]; exact Nat.le_refl _), List.take_of_length_le (by rw [HM.out]; exact Nat.le_refl _)] at this
          exact decide_eq_true this
        subst hr
        go_wp2
        go_ret
        exact ⟨rfl, B1.out⟩
  · have hnn : ((n : Int) != (m : Int)) = true := by simp; omega
    have hr : r = false := by
      rw [← HR.out]
      exact decide_eq_false (fun e => hnm (by rw [← HN.out, ← HM.out, e]))
    subst hr
    go_enter Try.func12, Try.ntmps12
    go_wp2
    go_ret
    exact ⟨rfl, Below.refl _ _⟩

end Go.Proofs.Ytpahhhocgpohbaa
