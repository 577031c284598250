import Derived.Test.YtiojgkebdjdgbaaPack0
import Derived.Test.YtiojgkebdjdgbaaPack1
import Derived.Test.YtiojgkebdjdgbaaPack3
import Derived.Test.YtiojgkebdjdgbaaPack4
import Derived.Test.YtiojgkebdjdgbaaPack8
namespace Go.Proofs.Ytiojgkebdjdgbaa
open Go.RowKit

set_option maxHeartbeats 400000 in
theorem lawFnAssigned_big (a : Option Addr) (c len : Nat) (w : World) (hl : len ≤ 9223372036854775807) (h : 1048576 < len) :
    Calls Try.prog 4 #[.slice a len c] w fun e w' => e = .returned (.bool true) ∧ Below w.heap.size w w' := by
  have hd : decide (1048576 < len) = true := decide_eq_true h
  go_enter Try.func4, Try.ntmps4
  go_wp2_with (go_at_call 8; refine (big_any a c len w hl).mono ?_; rintro e w1 ⟨rfl, hw1⟩; subst w1; rw [hd])
  go_ret
  exact ⟨rfl, Below.refl _ _⟩

/-- What the law asks of the best row. -/
theorem best_facts {n : Int} {cs : List Int} (h : costsB n cs = true) : assignT n cs (asgL n cs) = true ∧ assignV n cs (asgL n cs) = asgV n cs ∧ 0 < (asgL n cs).length ∧ (asgL n cs).length ≤ 6 ∧ ∀ ls, assignT n cs ls = true → asgV n cs ≤ assignV n cs ls := by
  obtain ⟨m, rfl, h1, h2, _, _⟩ := costsB_nat h
  obtain ⟨e1, e2⟩ := asg_yes h
  have hbk := bestK_lt m cs
  obtain ⟨f1, f2⟩ := assign_row h2 h hbk
  rw [e1, e2, rowL_length hbk]
  refine ⟨f1, f2, by omega, h2, fun ls ht => ?_⟩
  have hc : colsB m ls = true := by
    cases hc : colsB m ls
    · rw [(assign_no (n := m) (cs := cs) (ls := ls) (Or.inr hc)).1] at ht
      cases ht
    · rfl
  obtain ⟨k, hk, rfl, hle⟩ := best_least cs hc
  rw [(assign_row h2 h hk).2]
  exact hle

set_option maxRecDepth 10000 in
set_option maxHeartbeats 4000000 in
theorem lawFnAssigned (a : Option Addr) (ca : Nat) (bs : List Int) (w : World) (hA : CodeAt w a bs) (hl : bs.length ≤ 1048576) :
    Calls Try.prog 4 #[.slice a bs.length ca] w fun e w' => e = .returned (.bool true) ∧ Below w.heap.size w w' := by
  have HA : Hid (CodeAt w a bs) := hA
  clear hA
  have hd : decide (1048576 < bs.length) = false := decide_eq_false (by omega)
  go_enter Try.func4, Try.ntmps4
  go_wp2_with fail
  refine (big_any a ca bs.length w (by omega)).mono ?_
  rintro e w1 ⟨rfl, hw1⟩
  subst w1
  rw [hd]
  clear hd
  go_wp2_with fail
  refine (drawAssign_any a ca bs w HA.out hl).mono ?_
  rintro e w1 ⟨n, g1, c1, g2, c2, cs, ls, rfl, hc16, hcap, hl9, hb, hi1, hi2⟩
  have B1 : Hid (Below w.heap.size w w1) := hb
  have I1 : Hid (IntsAt w1 (some ⟨g1, 0, none⟩) cs) := hi1
  have J1 : Hid (IntsAt w1 (some ⟨g2, 0, none⟩) ls) := hi2
  clear hb hi1 hi2
  obtain ⟨xv, HXV⟩ : ∃ v, Hid (assignV n cs ls = v) := ⟨_, rfl⟩
  obtain ⟨xt, HXT⟩ : ∃ v, Hid (assignT n cs ls = v) := ⟨_, rfl⟩
  obtain ⟨av, HAV⟩ : ∃ v, Hid (asgV n cs = v) := ⟨_, rfl⟩
  obtain ⟨p, HP⟩ : ∃ v, Hid (asgL n cs = v) := ⟨_, rfl⟩
  have q1 : (xv != xv) = false := by simp
  have q2 : (xt != xt) = false := by simp
  have q3 : (av != av) = false := by simp
  have q4 : (xv == xv) = true := by simp
  have q5 : (xt == xt) = true := by simp
  have q6 : (av == av) = true := by simp
  go_wp2_with fail
  refine (implAssign_any n _ _ c1 c2 cs ls _ I1.out J1.out hcap (by omega)).mono ?_
  rintro e w2 ⟨rfl, hb⟩
  have B2 : Hid (Below w.heap.size w w2) := B1.out.trans (hb.mono B1.out.size)
  have I2 : Hid (IntsAt w2 (some ⟨g1, 0, none⟩) cs) := I1.out.below hb
  have J2 : Hid (IntsAt w2 (some ⟨g2, 0, none⟩) ls) := J1.out.below hb
  rw [HXV.out, HXT.out]
  clear hb B1 I1 J1
  go_wp2_with fail
  refine (specAssign_any n _ _ c1 c2 cs ls _ I2.out J2.out hcap).mono ?_
  rintro e w3 ⟨rfl, hb⟩
  have B3 : Hid (Below w.heap.size w w3) := B2.out.trans (hb.mono B2.out.size)
  have I3 : Hid (IntsAt w3 (some ⟨g1, 0, none⟩) cs) := I2.out.below hb
  rw [HXV.out, HXT.out]
  clear hb B2 I2 J2
  cases hcb : costsB n cs
  · have HCB : Hid (costsB n cs = false) := hcb
    have HPN : Hid (p = []) := HP.out.symm.trans (asg_no hcb).1
    clear hcb
    go_wp2_with fail
    refine (implAssigned_any n _ c1 cs _ I3.out).mono ?_
    rintro e w4 ⟨sl, rfl, hb, ho⟩
    rw [HP.out, HPN.out] at ho
    obtain ⟨ba, bc, rfl, -, hi⟩ := owns_at1 ho
    have B4 : Hid (Below w.heap.size w w4) := B3.out.trans (hb.mono B3.out.size)
    have I4 : Hid (IntsAt w4 (some ⟨g1, 0, none⟩) cs) := I3.out.below hb
    have P4 : Hid (IntsAt w4 ba []) := hi
    rw [HAV.out, HCB.out]
    clear hb ho hi B3 I3
    go_wp2_with fail
    refine (specAssigned_any n _ c1 cs _ I4.out).mono ?_
    rintro e w5 ⟨sl, rfl, hb, ho⟩
    rw [HP.out, HPN.out] at ho
    obtain ⟨ra, rc, rfl, -, hi⟩ := owns_at1 ho
    have B5 : Hid (Below w.heap.size w w5) := B4.out.trans (hb.mono B4.out.size)
    have P5 : Hid (IntsAt w5 ba []) := P4.out.below hb
    have Q5 : Hid (IntsAt w5 ra []) := hi
    rw [HAV.out, HCB.out]
    clear hb ho hi B4 I4 P4
    go_wp2_with (
      go_at_call 13
      refine (sameInts_any _ _ _ _ [] [] _ P5.out Q5.out (by simp)).mono ?_
      rintro e w6 ⟨rfl, hb⟩
      have B6 : Hid (Below w.heap.size w w6) := B5.out.trans (hb.mono B5.out.size)
      rw [show decide (([] : List Int) = []) = true by simp]
      clear hb)
    go_ret
    exact ⟨rfl, B6.out⟩
  · have HCB : Hid (costsB n cs = true) := hcb
    obtain ⟨f1, f2, f3, f4, f5⟩ := best_facts hcb
    have HLE : Hid (xt = true → av ≤ xv) := fun h => by rw [← HAV.out, ← HXV.out]; exact f5 ls (HXT.out.trans h)
    rw [HP.out] at f1 f2 f3 f4
    rw [HAV.out] at f2
    have HAT : Hid (assignT n cs p = true) := f1
    have HAW : Hid (assignV n cs p = av) := f2
    clear hcb f1 f2 f5
    go_wp2_with fail
    refine (implAssigned_any n _ c1 cs _ I3.out).mono ?_
    rintro e w4 ⟨sl, rfl, hb, ho⟩
    rw [HP.out] at ho
    obtain ⟨bg, bc, rfl⟩ := own_pos0 ho f3
    have hbc := own_cap ho
    have B4 : Hid (Below w.heap.size w w4) := B3.out.trans (hb.mono B3.out.size)
    have I4 : Hid (IntsAt w4 (some ⟨g1, 0, none⟩) cs) := I3.out.below hb
    have P4 : Hid (IntsAt w4 (some ⟨bg, 0, none⟩) p) := owns_ints ho
    rw [HAV.out, HCB.out]
    clear hb ho B3 I3
    go_wp2_with fail
    refine (specAssigned_any n _ c1 cs _ I4.out).mono ?_
    rintro e w5 ⟨sl, rfl, hb, ho⟩
    rw [HP.out] at ho
    obtain ⟨ra, rc, rfl, -, hi⟩ := owns_at1 ho
    have B5 : Hid (Below w.heap.size w w5) := B4.out.trans (hb.mono B4.out.size)
    have I5 : Hid (IntsAt w5 (some ⟨g1, 0, none⟩) cs) := I4.out.below hb
    have P5 : Hid (IntsAt w5 (some ⟨bg, 0, none⟩) p) := P4.out.below hb
    have Q5 : Hid (IntsAt w5 ra p) := hi
    rw [HAV.out, HCB.out]
    clear hb ho hi B4 I4 P4
    go_wp2_with fail
    refine (sameInts_any _ _ _ _ p p _ P5.out Q5.out (by omega)).mono ?_
    rintro e w6 ⟨rfl, hb⟩
    have B6 : Hid (Below w.heap.size w w6) := B5.out.trans (hb.mono B5.out.size)
    have I6 : Hid (IntsAt w6 (some ⟨g1, 0, none⟩) cs) := I5.out.below hb
    have P6 : Hid (IntsAt w6 (some ⟨bg, 0, none⟩) p) := P5.out.below hb
    rw [show decide (p = p) = true by simp]
    clear hb B5 I5 P5 Q5
    go_wp2_with fail
    refine (implAssign_any n _ _ c1 bc cs p _ I6.out P6.out hbc (by omega)).mono ?_
    rintro e w7 ⟨rfl, hb⟩
    have B7 : Hid (Below w.heap.size w w7) := B6.out.trans (hb.mono B6.out.size)
    rw [HAW.out, HAT.out]
    clear hb B6 I6 P6
    cases xt
    · go_wp2
      go_ret
      exact ⟨by first | rfl | simp, B7.out⟩
    · have hle : av ≤ xv := HLE.out rfl
      go_wp2
      go_ret
      exact ⟨by first | rfl | (simp; omega), B7.out⟩

theorem lawFnAssigned_all (a : Option Addr) (c : Nat) (bs : List Int) (w : World) (hA : CodeAt w a bs) (hl : bs.length ≤ 9223372036854775807) :
    Calls Try.prog 4 #[.slice a bs.length c] w fun e w' => e = .returned (.bool true) ∧ Below w.heap.size w w' := by
  by_cases h : bs.length ≤ 1048576
  · exact lawFnAssigned a c bs w hA h
  · exact lawFnAssigned_big a c _ w hl (by omega)

end Go.Proofs.Ytiojgkebdjdgbaa
