import Derived.Test.YtiojgkebdjdgbaaPack1
import Derived.Test.YtiojgkebdjdgbaaPack2
import Derived.Test.YtiojgkebdjdgbaaPack5
import Derived.Test.YtiojgkebdjdgbaaPack6
import Derived.Test.YtiojgkebdjdgbaaPack8
namespace Go.Proofs.Ytiojgkebdjdgbaa
open Go.RowKit

set_option maxHeartbeats 400000 in
theorem lawFnProved_big (a : Option Addr) (c len : Nat) (w : World) (hl : len ≤ 9223372036854775807) (h : 1048576 < len) :
    Calls Try.prog 6 #[.slice a len c] w fun e w' => e = .returned (.bool true) ∧ Below w.heap.size w w' := by
  have hd : decide (1048576 < len) = true := decide_eq_true h
  go_enter Try.func6, Try.ntmps6
  go_wp2_with (go_at_call 8; refine (big_any a c len w hl).mono ?_; rintro e w1 ⟨rfl, hw1⟩; subst w1; rw [hd])
  go_ret
  exact ⟨rfl, Below.refl _ _⟩

set_option maxRecDepth 10000 in
set_option maxHeartbeats 4000000 in
theorem lawFnProved (a : Option Addr) (ca : Nat) (bs : List Int) (w : World) (hA : CodeAt w a bs) (hl : bs.length ≤ 1048576) :
    Calls Try.prog 6 #[.slice a bs.length ca] w fun e w' => e = .returned (.bool true) ∧ Below w.heap.size w w' := by
  have HA : Hid (CodeAt w a bs) := hA
  clear hA
  have hd : decide (1048576 < bs.length) = false := decide_eq_false (by omega)
  go_enter Try.func6, Try.ntmps6
  go_wp2_with fail
  refine (big_any a ca bs.length w (by omega)).mono ?_
  rintro e w1 ⟨rfl, hw1⟩
  subst w1
  rw [hd]
  clear hd
  go_wp2_with fail
  refine (drawProve_any a ca bs w HA.out hl).mono ?_
  rintro e w1 ⟨n, g1, c1, ra, qa, rc, qc, cs, rs, qs, rfl, hc16, hr6, hq6, hb, hi1, hi2, hi3⟩
  have B1 : Hid (Below w.heap.size w w1) := hb
  have I1 : Hid (IntsAt w1 (some ⟨g1, 0, none⟩) cs) := hi1
  have J1 : Hid (IntsAt w1 ra rs) := hi2
  have K1 : Hid (IntsAt w1 qa qs) := hi3
  clear hb hi1 hi2 hi3
  obtain ⟨xv, HXV⟩ : ∃ v, Hid (provesV n cs rs qs = v) := ⟨_, rfl⟩
  obtain ⟨xt, HXT⟩ : ∃ v, Hid (provesT n cs rs qs = v) := ⟨_, rfl⟩
  obtain ⟨av, HAV⟩ : ∃ v, Hid (asgV n cs = v) := ⟨_, rfl⟩
  have HW : Hid (xt = true → costsB n cs = true ∧ xv ≤ av) := fun h => by
    have := weak_dual (HXT.out.trans h)
    rw [HXV.out, HAV.out] at this
    exact this
  have q1 : (xv != xv) = false := by simp
  have q2 : (xt != xt) = false := by simp
  have q4 : (xv == xv) = true := by simp
  have q5 : (xt == xt) = true := by simp
  go_wp2_with fail
  refine (implProves_any n _ _ _ c1 rc qc cs rs qs _ I1.out J1.out K1.out (by omega) (by omega)).mono ?_
  rintro e w2 ⟨rfl, hb⟩
  have B2 : Hid (Below w.heap.size w w2) := B1.out.trans (hb.mono B1.out.size)
  have I2 : Hid (IntsAt w2 (some ⟨g1, 0, none⟩) cs) := I1.out.below hb
  have J2 : Hid (IntsAt w2 ra rs) := J1.out.below hb
  have K2 : Hid (IntsAt w2 qa qs) := K1.out.below hb
  rw [HXV.out, HXT.out]
  clear hb B1 I1 J1 K1
  go_wp2_with fail
  refine (specProves_any n _ _ _ c1 rc qc cs rs qs _ I2.out J2.out K2.out).mono ?_
  rintro e w3 ⟨rfl, hb⟩
  have B3 : Hid (Below w.heap.size w w3) := B2.out.trans (hb.mono B2.out.size)
  have I3 : Hid (IntsAt w3 (some ⟨g1, 0, none⟩) cs) := I2.out.below hb
  rw [HXV.out, HXT.out]
  clear hb B2 I2 J2 K2
  cases xt
  · go_wp2
    go_ret
    exact ⟨by first | rfl | simp, B3.out⟩
  · obtain ⟨hcb, hle⟩ := HW.out rfl
    have HCB : Hid (costsB n cs = true) := hcb
    clear hcb
    go_wp2_with fail
    refine (implAssigned_any n _ c1 cs _ I3.out).mono ?_
    rintro e w4 ⟨sl, rfl, hb, -⟩
    have B4 : Hid (Below w.heap.size w w4) := B3.out.trans (hb.mono B3.out.size)
    rw [HAV.out, HCB.out]
    clear hb B3 I3
    go_wp2
    go_ret
    exact ⟨by first | rfl | (simp; omega), B4.out⟩

theorem lawFnProved_all (a : Option Addr) (c : Nat) (bs : List Int) (w : World) (hA : CodeAt w a bs) (hl : bs.length ≤ 9223372036854775807) :
    Calls Try.prog 6 #[.slice a bs.length c] w fun e w' => e = .returned (.bool true) ∧ Below w.heap.size w w' := by
  by_cases h : bs.length ≤ 1048576
  · exact lawFnProved a c bs w hA h
  · exact lawFnProved_big a c _ w hl (by omega)

end Go.Proofs.Ytiojgkebdjdgbaa
