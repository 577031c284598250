import Derived.Test.YtiojgkebdjdgbaaPack0
import Derived.Test.YtiojgkebdjdgbaaRows
import Derived.WalkKit
import Derived.WalkSpells
import Derived.WalkLawsBesides
import Derived.Deep.QuietTactic
import Derived.BigQuiet
import Derived.Deep.RegionWith
import Derived.Deep.RegionHeld3
import Derived.Deep.WholeRow
namespace Go.Proofs.Ytiojgkebdjdgbaa
end Go.Proofs.Ytiojgkebdjdgbaa

namespace Go.Proofs.Ytiojgkebdjdgbaa
open Go.RowKit

theorem cells2 {w : World} {k : Nat} {c0 c1 : Value} {T : TypeId} (r : w.heap[k]? = some (.cells #[c0, c1] T (0, 0))) :
    w.cell? ⟨k, 0, none⟩ = some c0 ∧ w.cell? ⟨k, 1, none⟩ = some c1 := by
  refine ⟨?_, ?_⟩
  · rw [cell_of_row _ _ 0 _ _ _ r]; simp
  · rw [cell_of_row _ _ 1 _ _ _ r]; simp

end Go.Proofs.Ytiojgkebdjdgbaa

namespace Go.Proofs.Ytiojgkebdjdgbaa
open Go.RowKit

theorem Try.info2 : (Try.prog.info? 2).map (fun i => (i.zero, i.size, i.bytes)) = some (some (.int .i64 0), 1, 8) := by kernel_rfl

theorem make_ints (W : World) (len : Nat) (hlen : len ≤ 1048576) :
    (Instr.makeSlice 24 (.int .i64 len) (.int .i64 len)).run Try.prog W = .ok (.slice (some ⟨W.heap.size, 0, none⟩) len len) (W.alloc (.cells (cellsOf (List.replicate len 0)) 2)) := by
  have h := Try.info2
  cases hq : Try.prog.info? 2 with
  | none => simp [hq] at h
  | some i =>
    simp [hq] at h
    obtain ⟨hz, hs, hb⟩ := h
    have := run_make (P := Try.prog) W 24 2 i (.int .i64 0) Try.underlying24 hq hz .i64 .i64 len len (by omega) (by omega) (by rw [hb]; omega) (by omega)
    rw [this, hs]
    simp only [Int.toNat_natCast, made_zero]

end Go.Proofs.Ytiojgkebdjdgbaa

namespace Go.Proofs.Ytiojgkebdjdgbaa
open Go.RowKit

set_option maxHeartbeats 400000 in
theorem l1In_any (n lo hi : Int) (w : World) :
    Calls Try.prog 39 #[.int .i64 n, .int .i64 lo, .int .i64 hi] w fun e w' => e = .returned (.bool (inB n lo hi)) ∧ w' = w := by
  by_cases h1 : lo ≤ n
  · by_cases h2 : n ≤ hi
    · have h3 : inB n lo hi = true := inB_mk ⟨h1, h2⟩
      rw [h3]
      go_enter Try.func39, Try.ntmps39
      go_wp2
      go_ret
      exact ⟨by simp, rfl⟩
    · have h3 : inB n lo hi = false := inB_not (by omega)
      rw [h3]
      go_enter Try.func39, Try.ntmps39
      go_wp2
      go_ret
      exact ⟨by simp, rfl⟩
  · have h3 : inB n lo hi = false := inB_not (by omega)
    rw [h3]
    go_enter Try.func39, Try.ntmps39
    go_wp2
    go_ret
    exact ⟨by simp, rfl⟩

end Go.Proofs.Ytiojgkebdjdgbaa

namespace Go.Proofs.Ytiojgkebdjdgbaa
open Go.RowKit

theorem wrap_small {v : Int} (h1 : 0 ≤ v) (h2 : v ≤ 1000000) : wrap64 v = v := by unfold wrap64; omega

set_option maxHeartbeats 400000 in
theorem specCount_any (n : Int) (w : World) :
    Calls Try.prog 14 #[.int .i64 n] w fun e w' => e = .returned (.int .i64 (countV n)) ∧ w' = w := by
  obtain ⟨r, HR⟩ : ∃ r, Hid (countV n = r) := ⟨_, rfl⟩
  rw [HR.out]
  cases hin : inB n 0 6
  · have HV : Hid (r = -1) := HR.out.symm.trans (countV_no hin)
    go_enter Try.func14, Try.ntmps14
    go_wp2_with (go_at_call 39; refine (l1In_any _ _ _ _).mono ?_; rintro e w' ⟨rfl, rfl⟩)
    go_ret
    exact ⟨ret_int HV.out.symm, rfl⟩
  · have hb := inB_true hin
    obtain ⟨n, rfl⟩ := Int.eq_ofNat_of_zero_le hb.1
    have hn : n ≤ 6 := by omega
    have HV : Hid (r = fac n) := HR.out.symm.trans (countV_yes hn)
    clear hb
    go_enter Try.func14, Try.ntmps14
    go_wp2_with (go_at_call 39; refine (l1In_any _ _ _ _).mono ?_; rintro e w' ⟨rfl, rfl⟩)
    clear hin
    go_loop [3, 4] (fun sm t => ∃ k : Nat, 1 ≤ k ∧ (k = 1 ∨ k ≤ n) ∧ t = .int .i64 ((k : Int) + 1) ∧ sm = .int .i64 (fac k)) (fun _ t => 8 - (intOf t).toNat)
    case atStart => exact ⟨1, by omega, Or.inl rfl, rfl, rfl⟩
    case round =>
      obtain ⟨k, hk1, hk, rfl, rfl⟩ := hrel
      by_cases hlt : k + 1 ≤ n
      · obtain ⟨h1, h2, h3, h4, h5⟩ := fac_step (k := k) (by omega)
        obtain ⟨f0, H0⟩ : ∃ f, Hid (fac k = f) := ⟨_, rfl⟩
        obtain ⟨f1, H1⟩ : ∃ f, Hid (fac (k + 1) = f) := ⟨_, rfl⟩
        rw [H0.out] at h1 h2 h3 ⊢
        rw [H1.out] at h3 h4 h5
        have hm : wrap64 (f0 * ((k : Int) + 1)) = f1 := by rw [h3]; unfold wrap64; omega
        clear h3
        go_wp2
        refine ⟨⟨k + 1, by omega, by omega, by go_num, by rw [H1.out, hm]⟩, by simp [intOf]; omega⟩
      · have HF : Hid (fac k = fac n) := by
          show _ = _
          by_cases e : k = n
          · rw [e]
          · have : k = 1 ∧ n = 0 := by omega
            obtain ⟨rfl, rfl⟩ := this
            rfl
        rw [HF.out]
        obtain ⟨f0, H0⟩ : ∃ f, Hid (fac n = f) := ⟨_, rfl⟩
        rw [H0.out] at HV ⊢
        go_wp2
        go_ret
        exact ⟨ret_int HV.out.symm, rfl⟩

end Go.Proofs.Ytiojgkebdjdgbaa

namespace Go.Proofs.Ytiojgkebdjdgbaa
open Go.RowKit

theorem noTo_step {zs : List Int} {id : Int} {k : Nat} (h : ∀ j, j < k → zs.getD j 0 ≠ id) (hk : zs.getD k 0 ≠ id) : ∀ j, j < k + 1 → zs.getD j 0 ≠ id := by
  intro j hj
  by_cases e : j = k
  · rw [e]; exact hk
  · exact h j (by omega)

set_option maxHeartbeats 400000 in
theorem l3Has_any (a : Option Addr) (m cap : Nat) (id : Int) (zs : List Int) (w : World) (hA : IntsAt w a zs) (hm : m ≤ zs.length) (hlen : m ≤ 9223372036854775807) :
    Calls Try.prog 45 #[.slice a m cap, .int .i64 id] w fun e w' => e = .returned (.bool (hasTo zs m id)) ∧ w' = w := by
  have HA : Hid (IntsAt w a zs) := hA
  clear hA
  obtain ⟨r, HR⟩ : ∃ r, Hid (hasTo zs m id = r) := ⟨_, rfl⟩
  rw [HR.out]
  go_enter Try.func45, Try.ntmps45
  go_wp2_with fail
  go_loop [5] (fun t => ∃ k : Nat, k ≤ m ∧ t = .int .i64 k ∧ ∀ j, j < k → zs.getD j 0 ≠ id) (fun t => m - (intOf t).toNat)
  case atStart => exact ⟨0, Nat.zero_le _, rfl, fun j hj => by omega⟩
  case round =>
    obtain ⟨k, hk, rfl, hno⟩ := hrel
    have HN : Hid (∀ j, j < k → zs.getD j 0 ≠ id) := hno
    clear hno
    by_cases hlt : k < m
    · obtain ⟨b, off, rfl, hcs⟩ := IntsAt.some HA.out (j := k) (by omega)
      have ct := hcs k (by omega)
      clear hcs
      obtain ⟨t, HT⟩ : ∃ t, Hid (zs.getD k 0 = t) := ⟨_, rfl⟩
      rw [HT.out] at ct
      by_cases he : t = id
      · have heb : (t == id) = true := by simp [he]
        have HV : Hid (r = true) := HR.out.symm.trans (hasTo_yes hlt (HT.out.trans he))
        clear he
        go_wp2
        go_ret
        exact ⟨ret_bool HV.out.symm, rfl⟩
      · have heb : (t == id) = false := by simp [he]
        have HS : Hid (∀ j, j < k + 1 → zs.getD j 0 ≠ id) := noTo_step HN.out (by rw [HT.out]; exact he)
        clear he
        go_wp2
        exact ⟨⟨k + 1, by omega, by go_num, HS.out⟩, by simp [intOf]; omega⟩
    · have hkl : k = m := by omega
      have HV : Hid (r = false) := HR.out.symm.trans (hasTo_no (hkl ▸ HN.out))
      clear hkl
      go_wp2
      go_ret
      exact ⟨ret_bool HV.out.symm, rfl⟩

theorem l3Has_is (a : Option Addr) (m cap : Nat) (id : Int) (zs : List Int) (w : World) (v : Bool) (hv : hasTo zs m id = v) (hA : IntsAt w a zs) (hm : m ≤ zs.length) (hlen : m ≤ 9223372036854775807) :
    Calls Try.prog 45 #[.slice a m cap, .int .i64 id] w fun e w' => e = .returned (.bool v) ∧ w' = w := hv ▸ l3Has_any a m cap id zs w hA hm hlen

/-- The place that slices.Index tells. -/
def idxV (zs : List Int) (m : Nat) (id : Int) : Int := match (List.range m).find? (fun i => zs.getD i 0 == id) with
  | some i => i
  | none => -1
theorem idxV_at {zs : List Int} {m : Nat} {id : Int} {i : Nat} (hi : i < m) (h : zs.getD i 0 = id) (hno : ∀ j, j < i → zs.getD j 0 ≠ id) : idxV zs m id = i := by
  have : (List.range m).find? (fun i => zs.getD i 0 == id) = some i := by
    rw [List.find?_range_eq_some]
    exact ⟨by rw [h]; simp, by simpa using hi, fun j hj => by have := hno j hj; simpa using this⟩
  unfold idxV
  rw [this]
theorem idxV_none {zs : List Int} {m : Nat} {id : Int} (hno : ∀ j, j < m → zs.getD j 0 ≠ id) : idxV zs m id = -1 := by
  have : (List.range m).find? (fun i => zs.getD i 0 == id) = none := by
    rw [List.find?_eq_none]
    intro j hj
    have := hno j (by simpa using hj)
    simpa using this
  unfold idxV
  rw [this]
theorem idxV_has (zs : List Int) (m : Nat) (id : Int) : decide (0 ≤ idxV zs m id) = hasTo zs m id := by
  unfold idxV
  cases hf : (List.range m).find? (fun i => zs.getD i 0 == id) with
  | none =>
    rw [List.find?_eq_none] at hf
    rw [hasTo_no (fun j hj => by have := hf j (by simpa using hj); simpa using this)]
    rfl
  | some i =>
    rw [List.find?_range_eq_some] at hf
    rw [hasTo_yes (by simpa using hf.2.1) (by simpa using hf.1)]
    simp

set_option maxHeartbeats 400000 in
theorem index_any (a : Option Addr) (m cap : Nat) (id : Int) (zs : List Int) (w : World) (hA : IntsAt w a zs) (hm : m ≤ zs.length) (hlen : m ≤ 9223372036854775807) :
    Calls Try.prog 63 #[.slice a m cap, .int .i64 id] w fun e w' => e = .returned (.int .i64 (idxV zs m id)) ∧ w' = w := by
  have HA : Hid (IntsAt w a zs) := hA
  clear hA
  obtain ⟨r, HR⟩ : ∃ r, Hid (idxV zs m id = r) := ⟨_, rfl⟩
  rw [HR.out]
  go_enter Try.func63, Try.ntmps63
  go_wp2_with fail
  go_loop [8] (fun t => ∃ k : Nat, k ≤ m ∧ t = .int .i64 k ∧ ∀ j, j < k → zs.getD j 0 ≠ id) (fun t => m - (intOf t).toNat)
  case atStart => exact ⟨0, Nat.zero_le _, rfl, fun j hj => by omega⟩
  case round =>
    obtain ⟨k, hk, rfl, hno⟩ := hrel
    have HN : Hid (∀ j, j < k → zs.getD j 0 ≠ id) := hno
    clear hno
    by_cases hlt : k < m
    · obtain ⟨b, off, rfl, hcs⟩ := IntsAt.some HA.out (j := k) (by omega)
      have ct := hcs k (by omega)
      clear hcs
      obtain ⟨t, HT⟩ : ∃ t, Hid (zs.getD k 0 = t) := ⟨_, rfl⟩
      rw [HT.out] at ct
      by_cases he : id = t
      · have heb : (id == t) = true := by simp [he]
        have HV : Hid (r = k) := HR.out.symm.trans (idxV_at hlt (HT.out.trans he.symm) HN.out)
        clear he
        go_wp2
        go_ret
        exact ⟨ret_int HV.out.symm, rfl⟩
      · have heb : (id == t) = false := by simp [he]
        have HS : Hid (∀ j, j < k + 1 → zs.getD j 0 ≠ id) := noTo_step HN.out (by rw [HT.out]; exact fun x => he x.symm)
        clear he
        go_wp2
        exact ⟨⟨k + 1, by omega, by go_num, HS.out⟩, by simp [intOf]; omega⟩
    · have hkl : k = m := by omega
      have HV : Hid (r = -1) := HR.out.symm.trans (idxV_none (hkl ▸ HN.out))
      clear hkl
      go_wp2
      go_ret
      exact ⟨ret_int HV.out.symm, rfl⟩

set_option maxHeartbeats 400000 in
theorem contains_any (a : Option Addr) (m cap : Nat) (id : Int) (zs : List Int) (w : World) (hA : IntsAt w a zs) (hm : m ≤ zs.length) (hlen : m ≤ 9223372036854775807) :
    Calls Try.prog 59 #[.slice a m cap, .int .i64 id] w fun e w' => e = .returned (.bool (hasTo zs m id)) ∧ w' = w := by
  have HA : Hid (IntsAt w a zs) := hA
  clear hA
  rw [← idxV_has]
  obtain ⟨t, HT⟩ : ∃ t, Hid (idxV zs m id = t) := ⟨_, rfl⟩
  rw [HT.out]
  go_enter Try.func59, Try.ntmps59
  go_wp2_with fail
  refine (index_any a m cap id zs w HA.out hm hlen).mono ?_
  rintro e w1 ⟨rfl, rfl⟩
  rw [HT.out]
  go_wp2
  go_ret
  exact ⟨by simp, rfl⟩

end Go.Proofs.Ytiojgkebdjdgbaa

namespace Go.Proofs.Ytiojgkebdjdgbaa
open Go.RowKit

set_option maxHeartbeats 400000 in
theorem within_any (n lo hi : Int) (w : World) :
    Calls Try.prog 36 #[.int .i64 n, .int .i64 lo, .int .i64 hi] w fun e w' => e = .returned (.bool (inB n lo hi)) ∧ w' = w := by
  by_cases h1 : lo ≤ n
  · by_cases h2 : n ≤ hi
    · have h3 : inB n lo hi = true := inB_mk ⟨h1, h2⟩
      rw [h3]
      go_enter Try.func36, Try.ntmps36
      go_wp2
      go_ret
      exact ⟨by simp, rfl⟩
    · have h3 : inB n lo hi = false := inB_not (by omega)
      rw [h3]
      go_enter Try.func36, Try.ntmps36
      go_wp2
      go_ret
      exact ⟨by simp, rfl⟩
  · have h3 : inB n lo hi = false := inB_not (by omega)
    rw [h3]
    go_enter Try.func36, Try.ntmps36
    go_wp2
    go_ret
    exact ⟨by simp, rfl⟩

end Go.Proofs.Ytiojgkebdjdgbaa

namespace Go.Proofs.Ytiojgkebdjdgbaa
open Go.RowKit

set_option maxHeartbeats 400000 in
theorem implCount_any (n : Int) (w : World) :
    Calls Try.prog 12 #[.int .i64 n] w fun e w' => e = .returned (.int .i64 (countV n)) ∧ w' = w := by
  obtain ⟨r, HR⟩ : ∃ r, Hid (countV n = r) := ⟨_, rfl⟩
  rw [HR.out]
  cases hin : inB n 0 6
  · have HV : Hid (r = -1) := HR.out.symm.trans (countV_no hin)
    go_enter Try.func12, Try.ntmps12
    go_wp2_with (go_at_call 36; refine (within_any _ _ _ _).mono ?_; rintro e w' ⟨rfl, rfl⟩)
    go_ret
    exact ⟨ret_int HV.out.symm, rfl⟩
  · have hb := inB_true hin
    obtain ⟨n, rfl⟩ := Int.eq_ofNat_of_zero_le hb.1
    have hn : n ≤ 6 := by omega
    have HV : Hid (r = fac n) := HR.out.symm.trans (countV_yes hn)
    clear hb
    go_enter Try.func12, Try.ntmps12
    go_wp2_with (go_at_call 36; refine (within_any _ _ _ _).mono ?_; rintro e w' ⟨rfl, rfl⟩)
    clear hin
    go_loop [3, 9] (fun sm t => ∃ k : Nat, k ≤ n ∧ t = .int .i64 k ∧ sm = .int .i64 (fac k)) (fun _ t => n - (intOf t).toNat)
    case atStart => exact ⟨0, by omega, rfl, rfl⟩
    case round =>
      obtain ⟨k, hk, rfl, rfl⟩ := hrel
      by_cases hlt : k < n
      · obtain ⟨h1, h2, h3, h4, h5⟩ := fac_step (k := k) (by omega)
        obtain ⟨f0, H0⟩ : ∃ f, Hid (fac k = f) := ⟨_, rfl⟩
        obtain ⟨f1, H1⟩ : ∃ f, Hid (fac (k + 1) = f) := ⟨_, rfl⟩
        rw [H0.out] at h1 h2 h3 ⊢
        rw [H1.out] at h3 h4 h5
        have hm : wrap64 (f0 * ((k : Int) + 1)) = f1 := by rw [h3]; unfold wrap64; omega
        clear h3
        go_wp2
        refine ⟨⟨k + 1, by omega, by go_num, by rw [H1.out, hm]⟩, by simp [intOf]; omega⟩
      · have hkn : k = n := by omega
        rw [hkn]
        obtain ⟨f0, H0⟩ : ∃ f, Hid (fac n = f) := ⟨_, rfl⟩
        rw [H0.out] at HV ⊢
        clear hkn
        go_wp2
        go_ret
        exact ⟨ret_int HV.out.symm, rfl⟩

end Go.Proofs.Ytiojgkebdjdgbaa

namespace Go.Proofs.Ytiojgkebdjdgbaa
open Go.RowKit

theorem wrap_rand {s : Int} (h1 : 0 ≤ s) (h2 : s ≤ 2147483647) : wrap64 (s * 1103515245) = s * 1103515245 ∧ wrap64 (s * 1103515245 + 12345) = s * 1103515245 + 12345 := by
  unfold wrap64; omega

set_option maxHeartbeats 400000 in
theorem specRand_any (s : Int) (w : World) :
    Calls Try.prog 30 #[.int .i64 s] w fun e w' => e = .returned (.int .i64 (randV s)) ∧ w' = w := by
  obtain ⟨r, HR⟩ : ∃ r, Hid (randV s = r) := ⟨_, rfl⟩
  rw [HR.out]
  cases hin : inB s 0 2147483647
  · have HV : Hid (r = 0) := HR.out.symm.trans (randV_no hin)
    go_enter Try.func30, Try.ntmps30
    go_wp2_with (go_at_call 39; refine (l1In_any _ _ _ _).mono ?_; rintro e w' ⟨rfl, rfl⟩)
    go_ret
    exact ⟨ret_int HV.out.symm, rfl⟩
  · have hb := inB_true hin
    have HV : Hid (r = (s * 1103515245 + 12345) % 2147483648) := HR.out.symm.trans (randV_yes hin)
    obtain ⟨m1, m2⟩ := wrap_rand hb.1 hb.2
    go_enter Try.func30, Try.ntmps30
    go_wp2_with (go_at_call 39; refine (l1In_any _ _ _ _).mono ?_; rintro e w' ⟨rfl, rfl⟩)
    go_ret
    exact ⟨ret_int HV.out.symm, rfl⟩

end Go.Proofs.Ytiojgkebdjdgbaa

namespace Go.Proofs.Ytiojgkebdjdgbaa
open Go.RowKit

set_option maxHeartbeats 400000 in
theorem isSeed_any (n : Int) (w : World) :
    Calls Try.prog 53 #[.int .i64 n] w fun e w' => e = .returned (.bool (inB n 0 2147483647)) ∧ w' = w := by
  go_enter Try.func53, Try.ntmps53
  go_wp2_with (go_at_call 36; refine (within_any _ _ _ _).mono ?_; rintro e w' ⟨rfl, rfl⟩)
  go_ret
  exact ⟨rfl, rfl⟩

set_option maxHeartbeats 400000 in
theorem implRand_any (s : Int) (w : World) :
    Calls Try.prog 29 #[.int .i64 s] w fun e w' => e = .returned (.int .i64 (randV s)) ∧ w' = w := by
  obtain ⟨r, HR⟩ : ∃ r, Hid (randV s = r) := ⟨_, rfl⟩
  rw [HR.out]
  cases hin : inB s 0 2147483647
  · have HV : Hid (r = 0) := HR.out.symm.trans (randV_no hin)
    go_enter Try.func29, Try.ntmps29
    go_wp2_with (go_at_call 53; refine (isSeed_any _ _).mono ?_; rintro e w' ⟨rfl, rfl⟩)
    go_ret
    exact ⟨ret_int HV.out.symm, rfl⟩
  · have hb := inB_true hin
    have HV : Hid (r = (s * 1103515245 + 12345) % 2147483648) := HR.out.symm.trans (randV_yes hin)
    obtain ⟨m1, m2⟩ := wrap_rand hb.1 hb.2
    go_enter Try.func29, Try.ntmps29
    go_wp2_with (go_at_call 53; refine (isSeed_any _ _).mono ?_; rintro e w' ⟨rfl, rfl⟩)
    go_ret
    exact ⟨ret_int HV.out.symm, rfl⟩

end Go.Proofs.Ytiojgkebdjdgbaa

namespace Go.Proofs.Ytiojgkebdjdgbaa
open Go.RowKit

set_option maxHeartbeats 400000 in
theorem sameInts_any (a b : Option Addr) (c1 c2 : Nat) (xs ys : List Int) (w : World) (hA : IntsAt w a xs) (hB : IntsAt w b ys) (hl1 : xs.length ≤ 1125899906842624) :
    Calls Try.prog 13 #[.slice a xs.length c1, .slice b ys.length c2] w fun e w' => e = .returned (.bool (decide (xs = ys))) ∧ Below w.heap.size w w' := by
  by_cases hl : xs.length = ys.length
  · have HA : Hid (IntsAt w a xs) := hA
    have HB : Hid (IntsAt w b ys) := hB
    have HL : Hid (xs.length = ys.length) := hl
    rw [hl] at hl1 ⊢
    clear hA hB hl
    go_enter Try.func13, Try.ntmps13
    go_wp2_with fail
    go_loopw [5] (fun t wr => ∃ k : Nat, k ≤ ys.length ∧ t = .int .i64 k ∧ Below w.heap.size w wr ∧ xs.take k = ys.take k) (fun t _ => ys.length - (intOf t).toNat)
    case atStart => exact ⟨0, Nat.zero_le _, rfl, Below.refl _ _, by simp⟩
    case round =>
      obtain ⟨k, hk, rfl, hb, he⟩ := hrel
      have HE : Hid (xs.take k = ys.take k) := he
      clear he
      by_cases hlt : k < ys.length
      · have hxk : k < xs.length := by rw [HL.out]; exact hlt
        obtain ⟨b1, o1, rfl, hc1⟩ := IntsAt.some (IntsAt.below HA.out hb) hxk
        obtain ⟨b2, o2, rfl, hc2⟩ := IntsAt.some (IntsAt.below HB.out hb) hlt
        have ct1 := hc1 k hxk
        have ct2 := hc2 k hlt
        clear hc1 hc2
        generalize ht1 : xs.getD k 0 = t1 at ct1
        generalize ht2 : ys.getD k 0 = t2 at ct2
        have H1 : Hid (xs.getD k 0 = t1) := ht1
        have H2 : Hid (ys.getD k 0 = t2) := ht2
        clear ht1 ht2
        by_cases ht : t1 = t2
        · have htb : (t1 != t2) = false := by simp [ht]
          have HT : Hid (t1 = t2) := ht
          clear ht
          go_wp2
          go_quiet (fail)
          go_wp2
          refine ⟨⟨k + 1, by omega, by go_num, below_drewN hb _, ?_⟩, by simp [intOf]; omega⟩
          rw [take_snoc xs k hxk, take_snoc ys k hlt, HE.out, H1.out, H2.out, HT.out]
        · have htb : (t1 != t2) = true := by simp [ht]
          have HN : Hid (decide (xs = ys) = false) := by
            apply decide_eq_false
            intro e
            exact ht (by rw [← H1.out, ← H2.out, e])
          clear ht
          go_wp2
          go_quiet (fail)
          go_wp2
          go_ret
          exact ⟨ret_bool HN.out.symm, below_drewN hb _⟩
      · have HN : Hid (decide (xs = ys) = true) := by
          apply decide_eq_true
          have h := HE.out
          rwa [List.take_of_length_le (by rw [HL.out]; omega), List.take_of_length_le (by omega)] at h
        go_wp2
        go_ret
        exact ⟨ret_bool HN.out.symm, hb⟩
  · have HN : Hid (decide (xs = ys) = false) := decide_eq_false fun e => hl (by rw [e])
    have hne : ((xs.length : Int) != (ys.length : Int)) = true := by rw [bne_iff_ne]; omega
    clear hA hB hl
    go_enter Try.func13, Try.ntmps13
    go_wp2
    go_ret
    exact ⟨ret_bool HN.out.symm, Below.refl _ _⟩

end Go.Proofs.Ytiojgkebdjdgbaa

namespace Go.Proofs.Ytiojgkebdjdgbaa
open Go.RowKit

theorem noTo_step2 {zs : List Int} {id : Int} {k : Nat} (h : ∀ j, j < k → zs.getD j 0 ≠ id) (hk : zs.getD k 0 ≠ id) : ∀ j, j < k + 1 → zs.getD j 0 ≠ id := by
  intro j hj
  by_cases e : j = k
  · rw [e]; exact hk
  · exact h j (by omega)

set_option maxHeartbeats 400000 in
theorem lawsHas_any (a : Option Addr) (m cap : Nat) (id : Int) (zs : List Int) (w : World) (hA : IntsAt w a zs) (hm : m ≤ zs.length) (hlen : m ≤ 9223372036854775807) :
    Calls Try.prog 31 #[.slice a m cap, .int .i64 id] w fun e w' => e = .returned (.bool (hasTo zs m id)) ∧ w' = w := by
  have HA : Hid (IntsAt w a zs) := hA
  clear hA
  obtain ⟨r, HR⟩ : ∃ r, Hid (hasTo zs m id = r) := ⟨_, rfl⟩
  rw [HR.out]
  go_enter Try.func31, Try.ntmps31
  go_wp2_with fail
  go_loop [5] (fun t => ∃ k : Nat, k ≤ m ∧ t = .int .i64 k ∧ ∀ j, j < k → zs.getD j 0 ≠ id) (fun t => m - (intOf t).toNat)
  case atStart => exact ⟨0, Nat.zero_le _, rfl, fun j hj => by omega⟩
  case round =>
    obtain ⟨k, hk, rfl, hno⟩ := hrel
    have HN : Hid (∀ j, j < k → zs.getD j 0 ≠ id) := hno
    clear hno
    by_cases hlt : k < m
    · obtain ⟨b, off, rfl, hcs⟩ := IntsAt.some HA.out (j := k) (by omega)
      have ct := hcs k (by omega)
      clear hcs
      obtain ⟨t, HT⟩ : ∃ t, Hid (zs.getD k 0 = t) := ⟨_, rfl⟩
      rw [HT.out] at ct
      by_cases he : t = id
      · have heb : (t == id) = true := by simp [he]
        have HV : Hid (r = true) := HR.out.symm.trans (hasTo_yes hlt (HT.out.trans he))
        clear he
        go_wp2
        go_ret
        exact ⟨ret_bool HV.out.symm, rfl⟩
      · have heb : (t == id) = false := by simp [he]
        have HS : Hid (∀ j, j < k + 1 → zs.getD j 0 ≠ id) := noTo_step2 HN.out (by rw [HT.out]; exact he)
        clear he
        go_wp2
        exact ⟨⟨k + 1, by omega, by go_num, HS.out⟩, by simp [intOf]; omega⟩
    · have hkl : k = m := by omega
      have HV : Hid (r = false) := HR.out.symm.trans (hasTo_no (hkl ▸ HN.out))
      clear hkl
      go_wp2
      go_ret
      exact ⟨ret_bool HV.out.symm, rfl⟩

end Go.Proofs.Ytiojgkebdjdgbaa
