import Derived.Test.YtonopidjkcmlmaaPack0
import Derived.Test.YtonopidjkcmlmaaPack1
namespace Go.Proofs.Ytonopidjkcmlmaa
open Go.RowKit

set_option maxHeartbeats 400000 in
theorem sameInts_any (a b : Option Addr) (c1 c2 : Nat) (xs ys : List Int) (w : World) (hA : IntsAt w a xs) (hB : IntsAt w b ys) (hl1 : xs.length ≤ 1125899906842624) :
    Calls Try.prog 12 #[.slice a xs.length c1, .slice b ys.length c2] w fun e w' => e = .returned (.bool (decide (xs = ys))) ∧ Below w.heap.size w w' := by
  by_cases hl : xs.length = ys.length
  · have HA : Hid (IntsAt w a xs) := hA
    have HB : Hid (IntsAt w b ys) := hB
    have HL : Hid (xs.length = ys.length) := hl
    rw [hl] at hl1 ⊢
    clear hA hB hl
    go_enter Try.func12, Try.ntmps12
    go_wp2_with fail
    go_loopw [5] (fun t wr => ∃ k : Nat, k ≤ ys.length ∧ t = .int .i64 k ∧ Below w.heap.size w wr ∧ xs.take k = ys.take k) (fun t _ => ys.length - (intOf t).toNat)
    case atStart => exact ⟨0, Nat.zero_le _, rfl, Below.refl _ _, by simp⟩
    case round =>
      obtain ⟨k, hk, rfl, hb, he⟩ := hrel
      have HE : Hid (xs.take k = ys.take k) := he
      clear he
      by_cases hlt : k < ys.length
      · have hxk : k < xs.length := by rw [HL.out]; exact hlt
        obtain ⟨b1, o1, rfl, hc1⟩ := IntsAt.some (IntsAt.below HA.out hb) hxk
        obtain ⟨b2, o2, rfl, hc2⟩ := IntsAt.some (IntsAt.below HB.out hb) hlt
        have ct1 := hc1 k hxk
        have ct2 := hc2 k hlt
        clear hc1 hc2
        generalize ht1 : xs.getD k 0 = t1 at ct1
        generalize ht2 : ys.getD k 0 = t2 at ct2
        have H1 : Hid (xs.getD k 0 = t1) := ht1
        have H2 : Hid (ys.getD k 0 = t2) := ht2
        clear ht1 ht2
        by_cases ht : t1 = t2
        · have htb : (t1 != t2) = false := by simp [ht]
          have HT : Hid (t1 = t2) := ht
          clear ht
          go_wp2
          go_quiet (fail)
          go_wp2
          refine ⟨⟨k + 1, by omega, by go_num, below_drewN hb _, ?_⟩, by simp [intOf]; omega⟩
          rw [take_snoc xs k hxk, take_snoc ys k hlt, HE.out, H1.out, H2.out, HT.out]
        · have htb : (t1 != t2) = true := by simp [ht]
          have HN : Hid (decide (xs = ys) = false) := by
            apply decide_eq_false
            intro e
            exact ht (by rw [← H1.out, ← H2.out, e])
          clear ht
          go_wp2
          go_quiet (fail)
          go_wp2
          go_ret
          exact ⟨ret_bool HN.out.symm, below_drewN hb _⟩
      · have HN : Hid (decide (xs = ys) = true) := by
          apply decide_eq_true
          have h := HE.out
          rwa [List.take_of_length_le (by rw [HL.out]; omega), List.take_of_length_le (by omega)] at h
        go_wp2
        go_ret
        exact ⟨ret_bool HN.out.symm, hb⟩
  · have HN : Hid (decide (xs = ys) = false) := decide_eq_false fun e => hl (by rw [e])
    have hne : ((xs.length : Int) != (ys.length : Int)) = true := by rw [bne_iff_ne]; omega
    clear hA hB hl
    go_enter Try.func12, Try.ntmps12
    go_wp2
    go_ret
    exact ⟨ret_bool HN.out.symm, Below.refl _ _⟩

end Go.Proofs.Ytonopidjkcmlmaa

namespace Go.Proofs.Ytonopidjkcmlmaa
open Go.RowKit

theorem noTo_step2 {zs : List Int} {id : Int} {k : Nat} (h : ∀ j, j < k → zs.getD j 0 ≠ id) (hk : zs.getD k 0 ≠ id) : ∀ j, j < k + 1 → zs.getD j 0 ≠ id := by
  intro j hj
  by_cases e : j = k
  · rw [e]; exact hk
  · exact h j (by omega)

set_option maxHeartbeats 400000 in
theorem lawsHas_any (a : Option Addr) (m cap : Nat) (id : Int) (zs : List Int) (w : World) (hA : IntsAt w a zs) (hm : m ≤ zs.length) (hlen : m ≤ 9223372036854775807) :
    Calls Try.prog 16 #[.slice a m cap, .int .i64 id] w fun e w' => e = .returned (.bool (hasTo zs m id)) ∧ w' = w := by
  have HA : Hid (IntsAt w a zs) := hA
  clear hA
  obtain ⟨r, HR⟩ : ∃ r, Hid (hasTo zs m id = r) := ⟨_, rfl⟩
  rw [HR.out]
  go_enter Try.func16, Try.ntmps16
  go_wp2_with fail
  go_loop [5] (fun t => ∃ k : Nat, k ≤ m ∧ t = .int .i64 k ∧ ∀ j, j < k → zs.getD j 0 ≠ id) (fun t => m - (intOf t).toNat)
  case atStart => exact ⟨0, Nat.zero_le _, rfl, fun j hj => by omega⟩
  case round =>
    obtain ⟨k, hk, rfl, hno⟩ := hrel
    have HN : Hid (∀ j, j < k → zs.getD j 0 ≠ id) := hno
    clear hno
    by_cases hlt : k < m
    · obtain ⟨b, off, rfl, hcs⟩ := IntsAt.some HA.out (j := k) (by omega)
      have ct := hcs k (by omega)
      clear hcs
      obtain ⟨t, HT⟩ : ∃ t, Hid (zs.getD k 0 = t) := ⟨_, rfl⟩
      rw [HT.out] at ct
      by_cases he : t = id
      · have heb : (t == id) = true := by simp [he]
        have HV : Hid (r = true) := HR.out.symm.trans (hasTo_yes hlt (HT.out.trans he))
        clear he
        go_wp2
        go_ret
        exact ⟨ret_bool HV.out.symm, rfl⟩
      · have heb : (t == id) = false := by simp [he]
        have HS : Hid (∀ j, j < k + 1 → zs.getD j 0 ≠ id) := noTo_step2 HN.out (by rw [HT.out]; exact he)
        clear he
        go_wp2
        exact ⟨⟨k + 1, by omega, by go_num, HS.out⟩, by simp [intOf]; omega⟩
    · have hkl : k = m := by omega
      have HV : Hid (r = false) := HR.out.symm.trans (hasTo_no (hkl ▸ HN.out))
      clear hkl
      go_wp2
      go_ret
      exact ⟨ret_bool HV.out.symm, rfl⟩

end Go.Proofs.Ytonopidjkcmlmaa
