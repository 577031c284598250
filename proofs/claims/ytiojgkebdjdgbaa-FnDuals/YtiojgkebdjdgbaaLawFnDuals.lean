import Derived.Test.YtiojgkebdjdgbaaPack1
import Derived.Test.YtiojgkebdjdgbaaPack2
import Derived.Test.YtiojgkebdjdgbaaPack3
import Derived.Test.YtiojgkebdjdgbaaPack6
import Derived.Test.YtiojgkebdjdgbaaImplDuals
import Derived.Test.YtiojgkebdjdgbaaSpecDuals
import Derived.Test.YtiojgkebdjdgbaaPack10
namespace Go.Proofs.Ytiojgkebdjdgbaa
open Go.RowKit

set_option maxHeartbeats 1000000 in
theorem drawDuals_any (a : Option Addr) (c : Nat) (bs : List Int) (w : World) (h : CodeAt w a bs) (hl : bs.length ≤ 1048576) :
    Calls Try.prog 20 #[.slice a bs.length c] w fun e w' => ∃ (n : Int) (g1 c1 : Nat) (cs : List Int), e = .returned (.tuple #[.int .i64 n, .slice (some ⟨g1, 0, none⟩) cs.length c1]) ∧ cs.length ≤ 16 ∧ Below w.heap.size w w' ∧ IntsAt w' (some ⟨g1, 0, none⟩) cs := by
  have H : Hid (CodeAt w a bs) := h
  clear h
  go_enter Try.func20, Try.ntmps20
  go_wp2_with fail
  refine (l1Open_any a c bs w H.out hl).mono ?_
  rintro e w1 ⟨rfl, hb, hr⟩
  obtain ⟨q, HQ⟩ : ∃ q, Hid (w.heap.size = q) := ⟨_, rfl⟩
  have B1 : Hid (Below w.heap.size w w1) := hb
  have R1 : Hid (RD w1 q a bs c 0) := by have := hr; rw [HQ.out] at this; exact this
  clear hb hr
  rw [HQ.out]
  go_wp2_with fail
  refine (costs_any q 0 c a bs w1 R1.out).mono ?_
  rintro e w2 ⟨n, g1, c1, cs, rfl, -, hcs, hcl⟩
  have B2 : Hid (Below w.heap.size w w2) := grown_below B1.out (by rw [HQ.out]; exact Nat.le_refl _) hcl.g
  have I2 : Hid (IntsAt w2 (some ⟨g1, 0, none⟩) cs) := owns_ints hcl.o
  clear hcl B1 R1
  go_wp2
  refine bodyPost_ret (v := .tuple #[.int .i64 n, .slice (some ⟨g1, 0, none⟩) cs.length c1]) (by simp [results, Try.results20, go_sem]) rfl ⟨n, g1, c1, cs, rfl, hcs, B2.out, I2.out⟩

set_option maxHeartbeats 400000 in
theorem lawFnDuals_big (a : Option Addr) (c len : Nat) (w : World) (hl : len ≤ 9223372036854775807) (h : 1048576 < len) :
    Calls Try.prog 5 #[.slice a len c] w fun e w' => e = .returned (.bool true) ∧ Below w.heap.size w w' := by
  have hd : decide (1048576 < len) = true := decide_eq_true h
  go_enter Try.func5, Try.ntmps5
  go_wp2_with (go_at_call 8; refine (big_any a c len w hl).mono ?_; rintro e w1 ⟨rfl, hw1⟩; subst w1; rw [hd])
  go_ret
  exact ⟨rfl, Below.refl _ _⟩

set_option maxRecDepth 10000 in
set_option maxHeartbeats 4000000 in
theorem lawFnDuals (a : Option Addr) (ca : Nat) (bs : List Int) (w : World) (hA : CodeAt w a bs) (hl : bs.length ≤ 1048576) :
    Calls Try.prog 5 #[.slice a bs.length ca] w fun e w' => e = .returned (.bool true) ∧ Below w.heap.size w w' := by
  have HA : Hid (CodeAt w a bs) := hA
  clear hA
  have hd : decide (1048576 < bs.length) = false := decide_eq_false (by omega)
  go_enter Try.func5, Try.ntmps5
  go_wp2_with fail
  refine (big_any a ca bs.length w (by omega)).mono ?_
  rintro e w1 ⟨rfl, hw1⟩
  subst w1
  rw [hd]
  clear hd
  go_wp2_with fail
  refine (drawDuals_any a ca bs w HA.out hl).mono ?_
  rintro e w1 ⟨n, g1, c1, cs, rfl, hc16, hb, hi⟩
  have B1 : Hid (Below w.heap.size w w1) := hb
  have I1 : Hid (IntsAt w1 (some ⟨g1, 0, none⟩) cs) := hi
  clear hb hi
  obtain ⟨hl1, hl2⟩ := du_len n cs
  obtain ⟨t, HT⟩ : ∃ v, Hid (costsB n cs = v) := ⟨_, rfl⟩
  have HSD : Hid (t = true → provesT n cs (duR n cs) (duC n cs) = true ∧ provesV n cs (duR n cs) (duC n cs) = asgV n cs) := fun h => strong_dual (HT.out.trans h)
  obtain ⟨p, HP⟩ : ∃ v, Hid (duR n cs = v) := ⟨_, rfl⟩
  obtain ⟨r, HR⟩ : ∃ v, Hid (duC n cs = v) := ⟨_, rfl⟩
  obtain ⟨av, HAV⟩ : ∃ v, Hid (asgV n cs = v) := ⟨_, rfl⟩
  rw [HP.out, HR.out] at hl1 HSD
  rw [HR.out] at hl2
  rw [HAV.out] at HSD
  have htt : (t != t) = false := by simp
  have htt2 : (t == t) = true := by simp
  have haa : (av == av) = true := by simp
  obtain ⟨K, HK⟩ : ∃ k, Hid (r.length = k) := ⟨_, rfl⟩
  have HKP : Hid (p.length = K) := hl1.trans HK.out
  rw [HK.out] at hl2
  clear hl1
  have SMP : Hid (∀ (W : World) (b1 b2 : Option Addr) (c1 c2 : Nat), IntsAt W b1 p → IntsAt W b2 p → Calls Try.prog 13 #[.slice b1 K c1, .slice b2 K c2] W fun e w' => e = .returned (.bool true) ∧ Below W.heap.size W w') := by
    intro W b1 b2 c1 c2 h1 h2
    have := sameInts_any b1 b2 c1 c2 p p W h1 h2 (by rw [HKP.out]; omega)
    rw [HKP.out, show decide (p = p) = true by simp] at this
    exact this
  have SMR : Hid (∀ (W : World) (b1 b2 : Option Addr) (c1 c2 : Nat), IntsAt W b1 r → IntsAt W b2 r → Calls Try.prog 13 #[.slice b1 K c1, .slice b2 K c2] W fun e w' => e = .returned (.bool true) ∧ Below W.heap.size W w') := by
    intro W b1 b2 c1 c2 h1 h2
    have := sameInts_any b1 b2 c1 c2 r r W h1 h2 (by rw [HK.out]; omega)
    rw [HK.out, show decide (r = r) = true by simp] at this
    exact this
  have PRV : Hid (∀ (W : World) (b1 b2 : Option Addr) (d1 d2 : Nat), IntsAt W (some ⟨g1, 0, none⟩) cs → IntsAt W b1 p → IntsAt W b2 r → Calls Try.prog 23 #[.int .i64 n, .slice (some ⟨g1, 0, none⟩) cs.length c1, .slice b1 K d1, .slice b2 K d2] W fun e w' => e = .returned (.tuple #[.int .i64 (provesV n cs p r), .bool (provesT n cs p r)]) ∧ Below W.heap.size W w') := by
    intro W b1 b2 d1 d2 h1 h2 h3
    have := implProves_any n (some ⟨g1, 0, none⟩) b1 b2 c1 d1 d2 cs p r W h1 h2 h3 (by rw [HKP.out]; omega) (by rw [HK.out]; omega)
    rw [HKP.out, HK.out] at this
    exact this
  go_wp2_with fail
  refine (implDuals_any n _ c1 cs _ I1.out).mono ?_
  rintro e w2 ⟨s1, s2, rfl, hb, ho1, ho2, -⟩
  rw [HP.out, HKP.out] at ho1
  rw [HR.out, HK.out] at ho2
  obtain ⟨ga, gc, rfl, -, hi1⟩ := owns_at1 ho1
  obtain ⟨ha, hc, rfl, -, hi2⟩ := owns_at1 ho2
  have B2 : Hid (Below w.heap.size w w2) := B1.out.trans (hb.mono B1.out.size)
  have I2 : Hid (IntsAt w2 (some ⟨g1, 0, none⟩) cs) := I1.out.below hb
  have P2 : Hid (IntsAt w2 ga p) := hi1
  have Q2 : Hid (IntsAt w2 ha r) := hi2
  rw [HT.out, HKP.out, HK.out]
  clear hb ho1 ho2 hi1 hi2 B1 I1
  go_wp2_with fail
  refine (specDuals_any n _ c1 cs _ I2.out).mono ?_
  rintro e w3 ⟨s1, s2, rfl, hb, ho1, ho2, -⟩
  rw [HP.out, HKP.out] at ho1
  rw [HR.out, HK.out] at ho2
  obtain ⟨wa, wc, rfl, -, hi1⟩ := owns_at1 ho1
  obtain ⟨xa, xc, rfl, -, hi2⟩ := owns_at1 ho2
  have B3 : Hid (Below w.heap.size w w3) := B2.out.trans (hb.mono B2.out.size)
  have I3 : Hid (IntsAt w3 (some ⟨g1, 0, none⟩) cs) := I2.out.below hb
  have P3 : Hid (IntsAt w3 ga p) := P2.out.below hb
  have Q3 : Hid (IntsAt w3 ha r) := Q2.out.below hb
  have W3 : Hid (IntsAt w3 wa p) := hi1
  have X3 : Hid (IntsAt w3 xa r) := hi2
  rw [HT.out, HKP.out, HK.out]
  clear hb ho1 ho2 hi1 hi2 B2 I2 P2 Q2
  go_wp2_with fail
  refine (SMP.out _ _ _ _ _ P3.out W3.out).mono ?_
  rintro e w4 ⟨rfl, hb⟩
  have B4 : Hid (Below w.heap.size w w4) := B3.out.trans (hb.mono B3.out.size)
  have I4 : Hid (IntsAt w4 (some ⟨g1, 0, none⟩) cs) := I3.out.below hb
  have P4 : Hid (IntsAt w4 ga p) := P3.out.below hb
  have Q4 : Hid (IntsAt w4 ha r) := Q3.out.below hb
  have W4 : Hid (IntsAt w4 wa p) := W3.out.below hb
  have X4 : Hid (IntsAt w4 xa r) := X3.out.below hb
  clear hb B3 I3 P3 Q3 W3 X3
  go_wp2_with fail
  refine (SMR.out _ _ _ _ _ Q4.out X4.out).mono ?_
  rintro e w5 ⟨rfl, hb⟩
  have B5 : Hid (Below w.heap.size w w5) := B4.out.trans (hb.mono B4.out.size)
  have I5 : Hid (IntsAt w5 (some ⟨g1, 0, none⟩) cs) := I4.out.below hb
  have P5 : Hid (IntsAt w5 ga p) := P4.out.below hb
  have Q5 : Hid (IntsAt w5 ha r) := Q4.out.below hb
  have W5 : Hid (IntsAt w5 wa p) := W4.out.below hb
  have X5 : Hid (IntsAt w5 xa r) := X4.out.below hb
  clear hb B4 I4 P4 Q4 W4 X4
  cases t
  · go_wp2_with fail
    refine (SMP.out _ _ _ _ _ P5.out W5.out).mono ?_
    rintro e w6 ⟨rfl, hb⟩
    have B6 : Hid (Below w.heap.size w w6) := B5.out.trans (hb.mono B5.out.size)
    have Q6 : Hid (IntsAt w6 ha r) := Q5.out.below hb
    have X6 : Hid (IntsAt w6 xa r) := X5.out.below hb
    clear hb B5
    go_wp2_with fail
    refine (SMR.out _ _ _ _ _ Q6.out X6.out).mono ?_
    rintro e w7 ⟨rfl, hb⟩
    have B7 : Hid (Below w.heap.size w w7) := B6.out.trans (hb.mono B6.out.size)
    clear hb
    go_wp2
    go_ret
    exact ⟨by first | rfl | simp, B7.out⟩
  · obtain ⟨e1, e2⟩ := HSD.out rfl
    have HE1 : Hid (provesT n cs p r = true) := e1
    have HE2 : Hid (provesV n cs p r = av) := e2
    clear e1 e2
    go_wp2_with fail
    refine (implAssigned_any n _ c1 cs _ I5.out).mono ?_
    rintro e w6 ⟨sl, rfl, hb, -⟩
    have B6 : Hid (Below w.heap.size w w6) := B5.out.trans (hb.mono B5.out.size)
    have I6 : Hid (IntsAt w6 (some ⟨g1, 0, none⟩) cs) := I5.out.below hb
    have P6 : Hid (IntsAt w6 ga p) := P5.out.below hb
    have Q6 : Hid (IntsAt w6 ha r) := Q5.out.below hb
    rw [HAV.out, HT.out]
    clear hb B5
    go_wp2_with fail
    refine (PRV.out _ _ _ _ _ I6.out P6.out Q6.out).mono ?_
    rintro e w7 ⟨rfl, hb⟩
    have B7 : Hid (Below w.heap.size w w7) := B6.out.trans (hb.mono B6.out.size)
    rw [HE1.out, HE2.out]
    clear hb
    go_wp2
    go_ret
    exact ⟨by first | rfl | simp, B7.out⟩

theorem lawFnDuals_all (a : Option Addr) (c : Nat) (bs : List Int) (w : World) (hA : CodeAt w a bs) (hl : bs.length ≤ 9223372036854775807) :
    Calls Try.prog 5 #[.slice a bs.length c] w fun e w' => e = .returned (.bool true) ∧ Below w.heap.size w w' := by
  by_cases h : bs.length ≤ 1048576
  · exact lawFnDuals a c bs w hA h
  · exact lawFnDuals_big a c _ w hl (by omega)

end Go.Proofs.Ytiojgkebdjdgbaa
