import Derived.Test.YtiojgkebdjdgbaaPack0
import Derived.Test.YtiojgkebdjdgbaaPack1
import Derived.Test.YtiojgkebdjdgbaaRows
import Derived.WalkKit
import Derived.WalkSpells
import Derived.WalkLawsBesides
import Derived.Deep.QuietTactic
import Derived.BigQuiet
import Derived.Deep.RegionWith
import Derived.Deep.RegionHeld3
import Derived.Deep.WholeRow
namespace Go.Proofs.Ytiojgkebdjdgbaa
end Go.Proofs.Ytiojgkebdjdgbaa

namespace Go.Proofs.Ytiojgkebdjdgbaa
open Go.RowKit

theorem cells2 {w : World} {k : Nat} {c0 c1 : Value} {T : TypeId} (r : w.heap[k]? = some (.cells #[c0, c1] T (0, 0))) :
    w.cell? ⟨k, 0, none⟩ = some c0 ∧ w.cell? ⟨k, 1, none⟩ = some c1 := by
  refine ⟨?_, ?_⟩
  · rw [cell_of_row _ _ 0 _ _ _ r]; simp
  · rw [cell_of_row _ _ 1 _ _ _ r]; simp

end Go.Proofs.Ytiojgkebdjdgbaa

namespace Go.Proofs.Ytiojgkebdjdgbaa
open Go.RowKit

theorem Try.info2 : (Try.prog.info? 2).map (fun i => (i.zero, i.size, i.bytes)) = some (some (.int .i64 0), 1, 8) := by kernel_rfl

theorem make_ints (W : World) (len : Nat) (hlen : len ≤ 1048576) :
    (Instr.makeSlice 24 (.int .i64 len) (.int .i64 len)).run Try.prog W = .ok (.slice (some ⟨W.heap.size, 0, none⟩) len len) (W.alloc (.cells (cellsOf (List.replicate len 0)) 2)) := by
  have h := Try.info2
  cases hq : Try.prog.info? 2 with
  | none => simp [hq] at h
  | some i =>
    simp [hq] at h
    obtain ⟨hz, hs, hb⟩ := h
    have := run_make (P := Try.prog) W 24 2 i (.int .i64 0) Try.underlying24 hq hz .i64 .i64 len len (by omega) (by omega) (by rw [hb]; omega) (by omega)
    rw [this, hs]
    simp only [Int.toNat_natCast, made_zero]

end Go.Proofs.Ytiojgkebdjdgbaa

namespace Go.Proofs.Ytiojgkebdjdgbaa
open Go.RowKit

set_option maxHeartbeats 400000 in
theorem l1In_any (n lo hi : Int) (w : World) :
    Calls Try.prog 39 #[.int .i64 n, .int .i64 lo, .int .i64 hi] w fun e w' => e = .returned (.bool (inB n lo hi)) ∧ w' = w := by
  by_cases h1 : lo ≤ n
  · by_cases h2 : n ≤ hi
    · have h3 : inB n lo hi = true := inB_mk ⟨h1, h2⟩
      rw [h3]
      go_enter Try.func39, Try.ntmps39
      go_wp2
      go_ret
      exact ⟨by simp, rfl⟩
    · have h3 : inB n lo hi = false := inB_not (by omega)
      rw [h3]
      go_enter Try.func39, Try.ntmps39
      go_wp2
      go_ret
      exact ⟨by simp, rfl⟩
  · have h3 : inB n lo hi = false := inB_not (by omega)
    rw [h3]
    go_enter Try.func39, Try.ntmps39
    go_wp2
    go_ret
    exact ⟨by simp, rfl⟩

end Go.Proofs.Ytiojgkebdjdgbaa

namespace Go.Proofs.Ytiojgkebdjdgbaa
open Go.RowKit

theorem wrap_small {v : Int} (h1 : 0 ≤ v) (h2 : v ≤ 1000000) : wrap64 v = v := by unfold wrap64; omega

set_option maxHeartbeats 400000 in
theorem specCount_any (n : Int) (w : World) :
    Calls Try.prog 14 #[.int .i64 n] w fun e w' => e = .returned (.int .i64 (countV n)) ∧ w' = w := by
  obtain ⟨r, HR⟩ : ∃ r, Hid (countV n = r) := ⟨_, rfl⟩
  rw [HR.out]
  cases hin : inB n 0 6
  · have HV : Hid (r = -1) := HR.out.symm.trans (countV_no hin)
    go_enter Try.func14, Try.ntmps14
    go_wp2_with (go_at_call 39; refine (l1In_any _ _ _ _).mono ?_; rintro e w' ⟨rfl, rfl⟩)
    go_ret
    exact ⟨ret_int HV.out.symm, rfl⟩
  · have hb := inB_true hin
    obtain ⟨n, rfl⟩ := Int.eq_ofNat_of_zero_le hb.1
    have hn : n ≤ 6 := by omega
    have HV : Hid (r = fac n) := HR.out.symm.trans (countV_yes hn)
    clear hb
    go_enter Try.func14, Try.ntmps14
    go_wp2_with (go_at_call 39; refine (l1In_any _ _ _ _).mono ?_; rintro e w' ⟨rfl, rfl⟩)
    clear hin
    go_loop [3, 4] (fun sm t => ∃ k : Nat, 1 ≤ k ∧ (k = 1 ∨ k ≤ n) ∧ t = .int .i64 ((k : Int) + 1) ∧ sm = .int .i64 (fac k)) (fun _ t => 8 - (intOf t).toNat)
    case atStart => exact ⟨1, by omega, Or.inl rfl, rfl, rfl⟩
    case round =>
      obtain ⟨k, hk1, hk, rfl, rfl⟩ := hrel
      by_cases hlt : k + 1 ≤ n
      · obtain ⟨h1, h2, h3, h4, h5⟩ := fac_step (k := k) (by omega)
        obtain ⟨f0, H0⟩ : ∃ f, Hid (fac k = f) := ⟨_, rfl⟩
        obtain ⟨f1, H1⟩ : ∃ f, Hid (fac (k + 1) = f) := ⟨_, rfl⟩
        rw [H0.out] at h1 h2 h3 ⊢
        rw [H1.out] at h3 h4 h5
        have hm : wrap64 (f0 * ((k : Int) + 1)) = f1 := by rw [h3]; unfold wrap64; omega
        clear h3
        go_wp2
        refine ⟨⟨k + 1, by omega, by omega, by go_num, by rw [H1.out, hm]⟩, by simp [intOf]; omega⟩
      · have HF : Hid (fac k = fac n) := by
          show _ = _
          by_cases e : k = n
          · rw [e]
          · have : k = 1 ∧ n = 0 := by omega
            obtain ⟨rfl, rfl⟩ := this
            rfl
        rw [HF.out]
        obtain ⟨f0, H0⟩ : ∃ f, Hid (fac n = f) := ⟨_, rfl⟩
        rw [H0.out] at HV ⊢
        go_wp2
        go_ret
        exact ⟨ret_int HV.out.symm, rfl⟩

end Go.Proofs.Ytiojgkebdjdgbaa

namespace Go.Proofs.Ytiojgkebdjdgbaa
open Go.RowKit

set_option maxHeartbeats 400000 in
theorem within_any (n lo hi : Int) (w : World) :
    Calls Try.prog 36 #[.int .i64 n, .int .i64 lo, .int .i64 hi] w fun e w' => e = .returned (.bool (inB n lo hi)) ∧ w' = w := by
  by_cases h1 : lo ≤ n
  · by_cases h2 : n ≤ hi
    · have h3 : inB n lo hi = true := inB_mk ⟨h1, h2⟩
      rw [h3]
      go_enter Try.func36, Try.ntmps36
      go_wp2
      go_ret
      exact ⟨by simp, rfl⟩
    · have h3 : inB n lo hi = false := inB_not (by omega)
      rw [h3]
      go_enter Try.func36, Try.ntmps36
      go_wp2
      go_ret
      exact ⟨by simp, rfl⟩
  · have h3 : inB n lo hi = false := inB_not (by omega)
    rw [h3]
    go_enter Try.func36, Try.ntmps36
    go_wp2
    go_ret
    exact ⟨by simp, rfl⟩

end Go.Proofs.Ytiojgkebdjdgbaa

namespace Go.Proofs.Ytiojgkebdjdgbaa
open Go.RowKit

theorem Try.infoFees : (Try.prog.info? 61).map (fun i => (i.zero, i.size)) = some (some (.agg (cellsOf z36)), 36) := by kernel_rfl
theorem sizeFees : (Try.prog.info? 61).map (·.size) = some 36 := (zero_of_info Try.infoFees).2
theorem sizeFees_of {l : List Int} (h : l.length = 36) : (Try.prog.info? 61).map (·.size) = some (cellsOf l).size := by
  rw [cellsOf_size, h]; exact sizeFees

/-- The world inside feesOf: the result's cells, the fees'. -/
def FW (w wr : World) (z0 : Array Value) (gl : List Int) : Prop :=
  wr.heap.size = w.heap.size + 2 ∧ Below w.heap.size w wr ∧ wr.heap[w.heap.size]? = some (.cells z0 61 (0, 0)) ∧ wr.heap[w.heap.size + 1]? = some (.cells (cellsOf gl) 61 (0, 0))

theorem FW.step {w wr : World} {n : Nat} {z0 : Array Value} {cs : List Int} {k : Nat} {t : Int} (h : FW w wr z0 (feesTo n cs k)) (hk : k < n * n) (hn : n ≤ 6) (ht : cs.getD k 0 = t) :
    FW w (wr.setCell ⟨w.heap.size + 1, k / n * 6 + k % n, none⟩ (.int .i64 t)) z0 (feesTo n cs (k + 1)) := by
  obtain ⟨g1, g2, g4, g5⟩ := h
  refine ⟨by simpa [World.setCell] using g1, g2.setCell (by simp) _, ?_, ?_⟩
  · rw [heap_setCell_other _ _ _ _ (by simp)]; exact g4
  · rw [heap_setCell_same _ _ _ _ _ _ g5, cellsOf_set, ← ht, feesTo_step n cs k hk hn]
theorem FW.drew {w wr : World} {z0 : Array Value} {gl : List Int} (h : FW w wr z0 gl) : FW w wr.drew z0 gl := ⟨h.1, h.2.1.drew, h.2.2.1, h.2.2.2⟩

theorem ret_fees (tmps : Array Value) (W : World) (g : Nat) (l : List Int) (b : Bool) (hl : l.length = 36)
    (hp : tmps.getD 4 undef = .pointer (some ⟨g, 0, none⟩)) (hb : tmps.getD 5 undef = .bool b) (hg : W.heap[g]? = some (.cells (cellsOf l) 61 (0, 0))) :
    (results Try.f41 tmps).run Try.prog W = .ok (.tuple #[.agg (cellsOf l), .bool b]) W := by
  rw [results_cell_tmp Try.results41, hp, hb]
  simp only [asAddr, Sem.run_pure, Result.andThen_ok, run_loadVar_row W g 61 61 (cellsOf l) (0, 0) _ hg Try.underlying61 rfl (sizeFees_of hl)]

set_option maxHeartbeats 1000000 in
theorem fees_out (n : Int) (a : Option Addr) (len cap : Nat) (w : World) (h : ¬ (1 ≤ n ∧ n ≤ 6 ∧ (len : Int) = n * n)) :
    Calls Try.prog 41 #[.int .i64 n, .slice a len cap] w fun e w' => e = .returned (.tuple #[.agg (cellsOf z36), .bool false]) ∧ Below w.heap.size w w' := by
  have hz := (zero_of_info Try.infoFees).1
  generalize hz0 : cellsOf z36 = z0 at hz
  have HZ : Hid (cellsOf z36 = z0) := hz0
  clear hz0
  have HG4 : Hid ((((w.alloc (Obj.cells z0 61)).alloc (Obj.cells z0 61)).heap)[w.heap.size]? = some (.cells z0 61 (0, 0))) := by
    show _ = _
    rw [heap_alloc_old _ _ (by simp)]
    exact heap_alloc_new _ _
  by_cases hn : 1 ≤ n ∧ n ≤ 6
  · obtain ⟨m, rfl⟩ := Int.eq_ofNat_of_zero_le (show 0 ≤ n by omega)
    have hnn : m * m ≤ 36 := mul_bd6 m m (by omega) (by omega)
    have hd1 : inB (m : Int) 1 6 = true := inB_mk hn
    have hnw : wrap64 ((m : Int) * (m : Int)) = (m : Int) * (m : Int) := IntWalk.wrap64_in _ (by rw [← Int.natCast_mul]; omega)
    have hne : ((len : Int) != (m : Int) * (m : Int)) = true := by
      rw [bne_iff_ne]; exact fun e => h ⟨hn.1, hn.2, e⟩
    clear h
    go_enter Try.func41, Try.ntmps41
    go_wp2_with fail
    refine (within_any _ _ _ _).mono ?_
    rintro e w1 ⟨rfl, hw1⟩
    subst w1
    go_wp2_with (
      with_reducible refine wpList_store_row ?_ 61 (.tmp 4) (.tmp 20) ?_ (w.heap.size) z0 ?_ ?_ 61 z0 ?_ ?_ ?_ ?_ ?_
      · rfl
      · rfl
      · rfl
      · rfl
      · exact HG4.out
      · rw [← HZ.out]; exact sizeFees_of z36_length
      · rfl
      · rw [← HZ.out]; exact cellsOf_one _)
    refine bodyPost_ret (v := .tuple #[.agg (cellsOf z36), .bool false]) (ret_fees _ _ (w.heap.size) z36 false z36_length rfl rfl ?_) rfl ⟨by rw [HZ.out], ?_⟩
    · rw [HZ.out]; exact setRow_heap _ _ _ _ _ _ HG4.out
    · exact below_setRow (((Below.refl _ _).alloc (Nat.le_refl _) _).alloc (by simp) _) (by omega) _
  · have hd1 : inB n 1 6 = false := inB_not hn
    clear h hn
    go_enter Try.func41, Try.ntmps41
    go_wp2_with fail
    refine (within_any _ _ _ _).mono ?_
    rintro e w1 ⟨rfl, hw1⟩
    subst w1
    go_wp2_with (
      with_reducible refine wpList_store_row ?_ 61 (.tmp 4) (.tmp 20) ?_ (w.heap.size) z0 ?_ ?_ 61 z0 ?_ ?_ ?_ ?_ ?_
      · rfl
      · rfl
      · rfl
      · rfl
      · exact HG4.out
      · rw [← HZ.out]; exact sizeFees_of z36_length
      · rfl
      · rw [← HZ.out]; exact cellsOf_one _)
    refine bodyPost_ret (v := .tuple #[.agg (cellsOf z36), .bool false]) (ret_fees _ _ (w.heap.size) z36 false z36_length rfl rfl ?_) rfl ⟨by rw [HZ.out], ?_⟩
    · rw [HZ.out]; exact setRow_heap _ _ _ _ _ _ HG4.out
    · exact below_setRow (((Below.refl _ _).alloc (Nat.le_refl _) _).alloc (by simp) _) (by omega) _

set_option maxHeartbeats 1000000 in
theorem fees_loop (n : Nat) (a : Option Addr) (cap : Nat) (cs : List Int) (w : World) (h1 : 1 ≤ n) (h2 : n ≤ 6) (hl : cs.length = n * n) (hA : IntsAt w a cs) :
    Calls Try.prog 41 #[.int .i64 n, .slice a cs.length cap] w fun e w' => e = .returned (.tuple #[.agg (cellsOf (feeRes n cs)), .bool (costsB n cs)]) ∧ Below w.heap.size w w' := by
  have hz := (zero_of_info Try.infoFees).1
  generalize hz0 : cellsOf z36 = z0 at hz
  have HZ : Hid (cellsOf z36 = z0) := hz0
  clear hz0
  have hnn : n * n ≤ 36 := mul_bd6 n n h2 h2
  have hd1 : inB (n : Int) 1 6 = true := inB_mk (by omega)
  have hnw : wrap64 ((n : Int) * (n : Int)) = (n : Int) * (n : Int) := IntWalk.wrap64_in _ (by rw [← Int.natCast_mul]; omega)
  have hne : (((n * n : Nat) : Int) != (n : Int) * (n : Int)) = false := by simp
  have HA : Hid (IntsAt w a cs) := hA
  clear hA
  rw [hl]
  have HL : Hid (cs.length = n * n) := hl
  clear hl
  obtain ⟨m, HM⟩ : ∃ m, Hid (n * n = m) := ⟨_, rfl⟩
  rw [HM.out] at hnn hne ⊢
  go_enter Try.func41, Try.ntmps41
  go_wp2_with (go_at_call 36; refine (within_any _ _ _ _).mono ?_; rintro e w' ⟨rfl, rfl⟩)
  clear hne hd1 hnw
  go_loopw [23] (fun t wr => ∃ k : Nat, k ≤ m ∧ t = .int .i64 k ∧ FW w wr z0 (feesTo n cs k) ∧ feeTo cs k) (fun t _ => m - (intOf t).toNat)
  case atStart =>
    refine ⟨0, Nat.zero_le _, rfl, ⟨by simp, ?_, ?_, ?_⟩, feeTo_zero _⟩
    · exact ((Below.refl _ _).alloc (Nat.le_refl _) _).alloc (by simp) _
    · rw [heap_alloc_old _ _ (by simp)]
      exact heap_alloc_new _ _
    · rw [feesTo_zero, HZ.out]
      exact heap_alloc2_new _ _ _
  case round =>
    obtain ⟨k, hk, rfl, hG, hok⟩ := hrel
    have HG : Hid (FW w wr z0 (feesTo n cs k)) := hG
    have HO : Hid (feeTo cs k) := hok
    obtain ⟨g1, g2, g4, g5⟩ := hG
    have HG4 : Hid _ := g4
    have HG5 : Hid _ := g5
    have HB : Hid _ := g2
    clear hok
    by_cases hlt : k < m
    · have hlt' : k < n * n := by rw [HM.out]; exact hlt
      obtain ⟨bb, off, rfl, hcs⟩ := IntsAt.some (IntsAt.below HA.out g2) (j := k) (by rw [HL.out]; exact hlt')
      have ct := hcs k (by rw [HL.out]; exact hlt')
      clear hcs
      obtain ⟨t, HT⟩ : ∃ t, Hid (cs.getD k 0 = t) := ⟨_, rfl⟩
      rw [HT.out] at ct
      cases hin : inB t (-1000000) 1000000
      · have HC : Hid (costsB n cs = false) := costsB_bad (by rw [HL.out]; exact hlt') (by rw [HT.out]; exact hin)
        clear g1 g2 g4 g5
        go_wp2_with fail
        refine (within_any _ _ _ _).mono ?_
        rintro e w1 ⟨rfl, hw1⟩
        subst w1
        go_wp2_with (
          with_reducible refine wpList_store_row ?_ 61 (.tmp 4) (.tmp 31) ?_ (w.heap.size) z0 ?_ ?_ 61 z0 ?_ ?_ ?_ ?_ ?_
          · rfl
          · rfl
          · rfl
          · rfl
          · exact HG4.out
          · rw [← HZ.out]; exact sizeFees_of z36_length
          · rfl
          · rw [← HZ.out]; exact cellsOf_one _)
        refine bodyPost_ret (v := .tuple #[.agg (cellsOf z36), .bool false]) (ret_fees _ _ (w.heap.size) z36 false z36_length rfl rfl ?_) rfl ⟨ret_fees_eq (by rw [feeRes_false HC.out]) HC.out.symm, ?_⟩
        · rw [HZ.out]; exact setRow_heap _ _ _ _ _ _ HG4.out
        · exact below_setRow HB.out (by omega) _
      · have HS : Hid (feeTo cs (k + 1)) := feeTo_step HO.out (by rw [HT.out]; exact hin)
        obtain ⟨d1, d2, _⟩ := at_div_mod n k hlt'
        have hq0 : (k : Int).tdiv (n : Int) = ((k / n : Nat) : Int) := by rw [Int.tdiv_eq_ediv_of_nonneg (by omega)]; simp
        have hr0 : (k : Int).tmod (n : Int) = ((k % n : Nat) : Int) := by rw [Int.tmod_eq_emod_of_nonneg (by omega)]; simp
        have HSt : Hid (FW w (wr.setCell ⟨w.heap.size + 1, k / n * 6 + k % n, none⟩ (.int .i64 t)) z0 (feesTo n cs (k + 1))) := HG.out.step hlt' h2 HT.out
        obtain ⟨q, HQ⟩ : ∃ q, Hid (k / n = q) := ⟨_, rfl⟩
        obtain ⟨r, HR⟩ : ∃ q, Hid (k % n = q) := ⟨_, rfl⟩
        rw [HQ.out] at d1 hq0 HSt
        rw [HR.out] at d2 hr0 HSt
        have cg := cell_of_row _ _ (q * 6 + r) _ _ _ g5
        rw [cellsOf_get _ _ (by rw [feesTo_length]; omega)] at cg
        have fg := frozen_of_row _ _ (q * 6 + r) _ _ g5
        have hq1 : wrap64 ((q : Nat) : Int) = q := by unfold wrap64; omega
        clear g1 g2 g4 g5 hlt'
        obtain ⟨cv, HCV⟩ : ∃ c, Hid ((feesTo n cs k).getD (q * 6 + r) 0 = c) := ⟨_, rfl⟩
        rw [HCV.out] at cg
        go_wp2_with (go_at_call 36; refine (within_any _ _ _ _).mono ?_; rintro e w' ⟨rfl, rfl⟩)
        go_region
        all_goals
          go_wp2
          refine ⟨⟨k + 1, by omega, by go_num, HSt.out.drew, HS.out⟩, by simp [intOf]; omega⟩
    · have hkm : k = m := by omega
      have HC : Hid (costsB n cs = true) := costsB_yes h1 h2 HL.out (by rw [HM.out, ← hkm]; exact HO.out)
      have HF : Hid (feeRes n cs = feesTo n cs k) := by
        show _ = _
        rw [feeRes_true HC.out, HM.out, hkm]
      clear g1 g2 g4 g5 hkm
      go_wp2_with (first
        | (with_reducible refine wpList_load_row ?_ 61 (.tmp 6) ?_ (w.heap.size + 1) ?_ 61 (cellsOf (feesTo n cs k)) (0, 0) _ ?_ Try.underlying61 ?_ ?_ ?_
           · rfl
           · rfl
           · rfl
           · exact HG5.out
           · rfl
           · exact sizeFees_of (feesTo_length _ _ _))
        | (with_reducible refine wpList_store_row ?_ 61 (.tmp 4) (.tmp 42) ?_ (w.heap.size) (cellsOf (feesTo n cs k)) ?_ ?_ 61 z0 ?_ ?_ ?_ ?_ ?_
           · rfl
           · rfl
           · rfl
           · rfl
           · exact HG4.out
           · exact sizeFees_of (feesTo_length _ _ _)
           · rw [← HZ.out, cellsOf_size, cellsOf_size, z36_length, feesTo_length]
           · exact cellsOf_one _))
      refine bodyPost_ret (v := .tuple #[.agg (cellsOf (feesTo n cs k)), .bool true]) (ret_fees _ _ (w.heap.size) (feesTo n cs k) true (feesTo_length _ _ _) rfl rfl ?_) rfl ⟨ret_fees_eq (by rw [HF.out]) HC.out.symm, ?_⟩
      · exact setRow_heap _ _ _ _ _ _ HG4.out
      · exact below_setRow HB.out (by omega) _

theorem fees_any (n : Int) (a : Option Addr) (cap : Nat) (cs : List Int) (w : World) (hA : IntsAt w a cs) :
    Calls Try.prog 41 #[.int .i64 n, .slice a cs.length cap] w fun e w' => e = .returned (.tuple #[.agg (cellsOf (feeRes n cs)), .bool (costsB n cs)]) ∧ Below w.heap.size w w' := by
  by_cases h : 1 ≤ n ∧ n ≤ 6 ∧ (cs.length : Int) = n * n
  · obtain ⟨m, rfl⟩ := Int.eq_ofNat_of_zero_le (show 0 ≤ n by omega)
    exact fees_loop m a cap cs w (by omega) (by omega) (by have := h.2.2; rw [← Int.natCast_mul] at this; omega) hA
  · rw [feeRes_false (costsB_not h), costsB_not h]
    exact fees_out n a _ cap w h

end Go.Proofs.Ytiojgkebdjdgbaa

namespace Go.Proofs.Ytiojgkebdjdgbaa
open Go.RowKit

theorem noTo_step {zs : List Int} {id : Int} {k : Nat} (h : ∀ j, j < k → zs.getD j 0 ≠ id) (hk : zs.getD k 0 ≠ id) : ∀ j, j < k + 1 → zs.getD j 0 ≠ id := by
  intro j hj
  by_cases e : j = k
  · rw [e]; exact hk
  · exact h j (by omega)

set_option maxHeartbeats 400000 in
theorem l3Has_any (a : Option Addr) (m cap : Nat) (id : Int) (zs : List Int) (w : World) (hA : IntsAt w a zs) (hm : m ≤ zs.length) (hlen : m ≤ 9223372036854775807) :
    Calls Try.prog 45 #[.slice a m cap, .int .i64 id] w fun e w' => e = .returned (.bool (hasTo zs m id)) ∧ w' = w := by
  have HA : Hid (IntsAt w a zs) := hA
  clear hA
  obtain ⟨r, HR⟩ : ∃ r, Hid (hasTo zs m id = r) := ⟨_, rfl⟩
  rw [HR.out]
  go_enter Try.func45, Try.ntmps45
  go_wp2_with fail
  go_loop [5] (fun t => ∃ k : Nat, k ≤ m ∧ t = .int .i64 k ∧ ∀ j, j < k → zs.getD j 0 ≠ id) (fun t => m - (intOf t).toNat)
  case atStart => exact ⟨0, Nat.zero_le _, rfl, fun j hj => by omega⟩
  case round =>
    obtain ⟨k, hk, rfl, hno⟩ := hrel
    have HN : Hid (∀ j, j < k → zs.getD j 0 ≠ id) := hno
    clear hno
    by_cases hlt : k < m
    · obtain ⟨b, off, rfl, hcs⟩ := IntsAt.some HA.out (j := k) (by omega)
      have ct := hcs k (by omega)
      clear hcs
      obtain ⟨t, HT⟩ : ∃ t, Hid (zs.getD k 0 = t) := ⟨_, rfl⟩
      rw [HT.out] at ct
      by_cases he : t = id
      · have heb : (t == id) = true := by simp [he]
        have HV : Hid (r = true) := HR.out.symm.trans (hasTo_yes hlt (HT.out.trans he))
        clear he
        go_wp2
        go_ret
        exact ⟨ret_bool HV.out.symm, rfl⟩
      · have heb : (t == id) = false := by simp [he]
        have HS : Hid (∀ j, j < k + 1 → zs.getD j 0 ≠ id) := noTo_step HN.out (by rw [HT.out]; exact he)
        clear he
        go_wp2
        exact ⟨⟨k + 1, by omega, by go_num, HS.out⟩, by simp [intOf]; omega⟩
    · have hkl : k = m := by omega
      have HV : Hid (r = false) := HR.out.symm.trans (hasTo_no (hkl ▸ HN.out))
      clear hkl
      go_wp2
      go_ret
      exact ⟨ret_bool HV.out.symm, rfl⟩

theorem l3Has_is (a : Option Addr) (m cap : Nat) (id : Int) (zs : List Int) (w : World) (v : Bool) (hv : hasTo zs m id = v) (hA : IntsAt w a zs) (hm : m ≤ zs.length) (hlen : m ≤ 9223372036854775807) :
    Calls Try.prog 45 #[.slice a m cap, .int .i64 id] w fun e w' => e = .returned (.bool v) ∧ w' = w := hv ▸ l3Has_any a m cap id zs w hA hm hlen

/-- The place that slices.Index tells. -/
def idxV (zs : List Int) (m : Nat) (id : Int) : Int := match (List.range m).find? (fun i => zs.getD i 0 == id) with
  | some i => i
  | none => -1
theorem idxV_at {zs : List Int} {m : Nat} {id : Int} {i : Nat} (hi : i < m) (h : zs.getD i 0 = id) (hno : ∀ j, j < i → zs.getD j 0 ≠ id) : idxV zs m id = i := by
  have : (List.range m).find? (fun i => zs.getD i 0 == id) = some i := by
    rw [List.find?_range_eq_some]
    exact ⟨by rw [h]; simp, by simpa using hi, fun j hj => by have := hno j hj; simpa using this⟩
  unfold idxV
  rw [this]
theorem idxV_none {zs : List Int} {m : Nat} {id : Int} (hno : ∀ j, j < m → zs.getD j 0 ≠ id) : idxV zs m id = -1 := by
  have : (List.range m).find? (fun i => zs.getD i 0 == id) = none := by
    rw [List.find?_eq_none]
    intro j hj
    have := hno j (by simpa using hj)
    simpa using this
  unfold idxV
  rw [this]
theorem idxV_has (zs : List Int) (m : Nat) (id : Int) : decide (0 ≤ idxV zs m id) = hasTo zs m id := by
  unfold idxV
  cases hf : (List.range m).find? (fun i => zs.getD i 0 == id) with
  | none =>
    rw [List.find?_eq_none] at hf
    rw [hasTo_no (fun j hj => by have := hf j (by simpa using hj); simpa using this)]
    rfl
  | some i =>
    rw [List.find?_range_eq_some] at hf
    rw [hasTo_yes (by simpa using hf.2.1) (by simpa using hf.1)]
    simp

set_option maxHeartbeats 400000 in
theorem index_any (a : Option Addr) (m cap : Nat) (id : Int) (zs : List Int) (w : World) (hA : IntsAt w a zs) (hm : m ≤ zs.length) (hlen : m ≤ 9223372036854775807) :
    Calls Try.prog 63 #[.slice a m cap, .int .i64 id] w fun e w' => e = .returned (.int .i64 (idxV zs m id)) ∧ w' = w := by
  have HA : Hid (IntsAt w a zs) := hA
  clear hA
  obtain ⟨r, HR⟩ : ∃ r, Hid (idxV zs m id = r) := ⟨_, rfl⟩
  rw [HR.out]
  go_enter Try.func63, Try.ntmps63
  go_wp2_with fail
  go_loop [8] (fun t => ∃ k : Nat, k ≤ m ∧ t = .int .i64 k ∧ ∀ j, j < k → zs.getD j 0 ≠ id) (fun t => m - (intOf t).toNat)
  case atStart => exact ⟨0, Nat.zero_le _, rfl, fun j hj => by omega⟩
  case round =>
    obtain ⟨k, hk, rfl, hno⟩ := hrel
    have HN : Hid (∀ j, j < k → zs.getD j 0 ≠ id) := hno
    clear hno
    by_cases hlt : k < m
    · obtain ⟨b, off, rfl, hcs⟩ := IntsAt.some HA.out (j := k) (by omega)
      have ct := hcs k (by omega)
      clear hcs
      obtain ⟨t, HT⟩ : ∃ t, Hid (zs.getD k 0 = t) := ⟨_, rfl⟩
      rw [HT.out] at ct
      by_cases he : id = t
      · have heb : (id == t) = true := by simp [he]
        have HV : Hid (r = k) := HR.out.symm.trans (idxV_at hlt (HT.out.trans he.symm) HN.out)
        clear he
        go_wp2
        go_ret
        exact ⟨ret_int HV.out.symm, rfl⟩
      · have heb : (id == t) = false := by simp [he]
        have HS : Hid (∀ j, j < k + 1 → zs.getD j 0 ≠ id) := noTo_step HN.out (by rw [HT.out]; exact fun x => he x.symm)
        clear he
        go_wp2
        exact ⟨⟨k + 1, by omega, by go_num, HS.out⟩, by simp [intOf]; omega⟩
    · have hkl : k = m := by omega
      have HV : Hid (r = -1) := HR.out.symm.trans (idxV_none (hkl ▸ HN.out))
      clear hkl
      go_wp2
      go_ret
      exact ⟨ret_int HV.out.symm, rfl⟩

set_option maxHeartbeats 400000 in
theorem contains_any (a : Option Addr) (m cap : Nat) (id : Int) (zs : List Int) (w : World) (hA : IntsAt w a zs) (hm : m ≤ zs.length) (hlen : m ≤ 9223372036854775807) :
    Calls Try.prog 59 #[.slice a m cap, .int .i64 id] w fun e w' => e = .returned (.bool (hasTo zs m id)) ∧ w' = w := by
  have HA : Hid (IntsAt w a zs) := hA
  clear hA
  rw [← idxV_has]
  obtain ⟨t, HT⟩ : ∃ t, Hid (idxV zs m id = t) := ⟨_, rfl⟩
  rw [HT.out]
  go_enter Try.func59, Try.ntmps59
  go_wp2_with fail
  refine (index_any a m cap id zs w HA.out hm hlen).mono ?_
  rintro e w1 ⟨rfl, rfl⟩
  rw [HT.out]
  go_wp2
  go_ret
  exact ⟨by simp, rfl⟩

end Go.Proofs.Ytiojgkebdjdgbaa

namespace Go.Proofs.Ytiojgkebdjdgbaa
open Go.RowKit

set_option maxHeartbeats 400000 in
theorem total_any (n : Nat) (a : Option Addr) (cap m : Nat) (cs ls : List Int) (w : World) (h2 : n ≤ 6) (hF : feeTo cs (n * n)) (hA : IntsAt w a ls) (hm : m ≤ n) (hml : m ≤ ls.length) (hC : colsTo n ls m) :
    Calls Try.prog 43 #[.agg (cellsOf (feesTo n cs (n * n))), .slice a m cap] w fun e w' => e = .returned (.int .i64 (sumTo n cs ls m)) ∧ Below w.heap.size w w' := by
  have HA : Hid (IntsAt w a ls) := hA
  have HF : Hid (feeTo cs (n * n)) := hF
  have HC : Hid (colsTo n ls m) := hC
  clear hA hF hC
  obtain ⟨gr, HGR⟩ : ∃ gr, Hid (cellsOf (feesTo n cs (n * n)) = gr) := ⟨_, rfl⟩
  rw [HGR.out]
  go_enter Try.func43, Try.ntmps43
  go_wp2_with fail
  go_loopw [5, 10] (fun sm t wr => ∃ k : Nat, k ≤ m ∧ t = .int .i64 k ∧ sm = .int .i64 (sumTo n cs ls k) ∧ Below w.heap.size w wr ∧ wr.heap[w.heap.size]? = some (.cells gr 61 (0, 0))) (fun _ t _ => m - (intOf t).toNat)
  case atStart => exact ⟨0, Nat.zero_le _, rfl, rfl, (Below.refl _ _).alloc (Nat.le_refl _) _, heap_alloc_new _ _⟩
  case round =>
    obtain ⟨k, hk, rfl, rfl, hb, hg⟩ := hrel
    have HBw : Hid (Below w.heap.size w wr) := hb
    have HGw : Hid (wr.heap[w.heap.size]? = some (.cells gr 61 (0, 0))) := hg
    clear hb hg
    have hbd := sumTo_bd (ls := ls) HF.out k (by omega) (fun j hj => HC.out j (by omega))
    obtain ⟨s0, HS0⟩ : ∃ s, Hid (sumTo n cs ls k = s) := ⟨_, rfl⟩
    rw [HS0.out] at hbd ⊢
    by_cases hlt : k < m
    · obtain ⟨b, off, rfl, hcs⟩ := IntsAt.some (HA.out.below HBw.out) (j := k) (by omega)
      have ct := hcs k (by omega)
      clear hcs
      have hp := place_nat (HC.out k hlt).1
      obtain ⟨t, HT⟩ : ∃ t, Hid (ls.getD k 0 = t) := ⟨_, rfl⟩
      rw [HT.out] at ct hp
      obtain ⟨c, HCc⟩ : ∃ c, Hid (t.toNat = c) := ⟨_, rfl⟩
      rw [HCc.out] at hp
      obtain ⟨hp1, hp2⟩ := hp
      subst hp1
      have hfb := fee_bd HF.out (x := k) (y := c) (by omega) hp2
      have cg := fee_cell (HGR.out.symm ▸ HGw.out) (cs := cs) (x := k) (y := c) (n := n) (by omega) hp2 h2
      obtain ⟨f, HFf⟩ : ∃ f, Hid (fee n cs k c = f) := ⟨_, rfl⟩
      rw [HFf.out] at hfb cg
      have HS1 : Hid (sumTo n cs ls (k + 1) = s0 + f) := by
        show _ = _
        unfold sumTo
        rw [HS0.out, HT.out, HCc.out, HFf.out]
      go_wp2
      refine ⟨⟨k + 1, by omega, by go_num, by rw [HS1.out], HBw.out, HGw.out⟩, by simp [intOf]; omega⟩
    · have hkl : k = m := by omega
      have HV : Hid (sumTo n cs ls m = s0) := by rw [← hkl]; exact HS0.out
      clear hkl
      go_wp2
      go_ret
      exact ⟨ret_int HV.out.symm, HBw.out⟩

end Go.Proofs.Ytiojgkebdjdgbaa

namespace Go.Proofs.Ytiojgkebdjdgbaa
open Go.RowKit

/-- The worlds in which all that was there is as it was. -/
def Kin (wr : World) : Type := { x : World // Below wr.heap.size wr x }
/-- One of them, as a world. -/
def Kin.w {wr : World} (s : Kin wr) : World := s.1
theorem Kin.there (wr : World) : Nonempty (Kin wr) := ⟨⟨wr, Below.refl _ _⟩⟩
theorem Kin.below {wr : World} (s : Kin wr) : Below wr.heap.size wr s.w := s.2
theorem Kin.cell {wr : World} (s : Kin wr) {b o : Nat} {v : Value} (h : wr.cell? ⟨b, o, none⟩ = some v) : s.w.cell? ⟨b, o, none⟩ = some v := by
  rw [s.below.cell (p := ⟨b, o, none⟩) (block_lt_of_cell h)]; exact h

/-- A region that draws its order, whose operations read and whose callees leave what was there: one walk, in the text's order. -/
theorem wp_region_kin {P : Program} {id : Nat} {Q : Exit → Act → World → Prop} {a : Act} {w : World} {l : List Oper} (hm : P.follows .mixedOrders = true) (hB : Region.lexB .any l.toArray = true)
    (h : wpQuiet P l.toArray (fun w' => ∃ s : Kin w, w' = s.w) (fun a' => ∀ w', (∃ s : Kin w, w' = s.w) → Q .normal a' w') l a) : (Code.region id l.toArray true).wp P Q a w :=
  wp_region_quiet (C := fun w' => ∃ s : Kin w, w' = s.w) hm hB ⟨⟨_, (Below.refl _ _).drew⟩, rfl⟩ (by simpa using h)

theorem Kin.call {P : Program} {f : FuncId} {args : Array Value} {wr : World} {s : Kin wr} {v : Value}
    (h : Calls P f args s.w fun e w' => e = .returned v ∧ Below s.w.heap.size s.w w') : Calls P f args s.w fun e w'' => e = .returned v ∧ ∃ s' : Kin wr, w'' = s'.w :=
  h.mono fun _ w' ⟨he, hb⟩ => ⟨he, ⟨w', s.below.trans (hb.mono s.below.size)⟩, rfl⟩
theorem Kin.call_same {P : Program} {f : FuncId} {args : Array Value} {wr : World} {s : Kin wr} {v : Value}
    (h : Calls P f args s.w fun e w' => e = .returned v ∧ w' = s.w) : Calls P f args s.w fun e w'' => e = .returned v ∧ ∃ s' : Kin wr, w'' = s'.w :=
  h.mono fun _ _ ⟨he, hb⟩ => ⟨he, s, hb⟩

end Go.Proofs.Ytiojgkebdjdgbaa

namespace Go.Proofs.Ytiojgkebdjdgbaa
open Go.RowKit

set_option maxHeartbeats 400000 in
theorem l8Ok_out (n : Int) (a : Option Addr) (len cap : Nat) (w : World) (h : ¬ (1 ≤ n ∧ n ≤ 6 ∧ (len : Int) = n * n)) :
    Calls Try.prog 44 #[.int .i64 n, .slice a len cap] w fun e w' => e = .returned (.bool false) ∧ w' = w := by
  by_cases hn : 1 ≤ n ∧ n ≤ 6
  · obtain ⟨m, rfl⟩ := Int.eq_ofNat_of_zero_le (show 0 ≤ n by omega)
    have hnn : m * m ≤ 36 := mul_bd6 m m (by omega) (by omega)
    have hd1 : inB (m : Int) 1 6 = true := inB_mk hn
    have hnw : wrap64 ((m : Int) * (m : Int)) = (m : Int) * (m : Int) := IntWalk.wrap64_in _ (by rw [← Int.natCast_mul]; omega)
    have hne : ((len : Int) != (m : Int) * (m : Int)) = true := by
      rw [bne_iff_ne]; exact fun e => h ⟨hn.1, hn.2, e⟩
    clear h
    go_enter Try.func44, Try.ntmps44
    go_wp2_with (go_at_call 39; refine (l1In_any _ _ _ _).mono ?_; rintro e w' ⟨rfl, rfl⟩)
    go_ret
    exact ⟨rfl, rfl⟩
  · have hd1 : inB n 1 6 = false := inB_not hn
    clear h hn
    go_enter Try.func44, Try.ntmps44
    go_wp2_with (go_at_call 39; refine (l1In_any _ _ _ _).mono ?_; rintro e w' ⟨rfl, rfl⟩)
    go_ret
    exact ⟨rfl, rfl⟩

set_option maxHeartbeats 400000 in
theorem l8Ok_loop (n : Nat) (a : Option Addr) (cap : Nat) (cs : List Int) (w : World) (h1 : 1 ≤ n) (h2 : n ≤ 6) (hl : cs.length = n * n) (hA : IntsAt w a cs) :
    Calls Try.prog 44 #[.int .i64 n, .slice a cs.length cap] w fun e w' => e = .returned (.bool (costsB n cs)) ∧ w' = w := by
  obtain ⟨r, HR⟩ : ∃ r, Hid (costsB n cs = r) := ⟨_, rfl⟩
  rw [HR.out]
  have hnn : n * n ≤ 36 := mul_bd6 n n h2 h2
  have hd1 : inB (n : Int) 1 6 = true := inB_mk (by omega)
  have hnw : wrap64 ((n : Int) * (n : Int)) = (n : Int) * (n : Int) := IntWalk.wrap64_in _ (by rw [← Int.natCast_mul]; omega)
  have hne : (((n * n : Nat) : Int) != (n : Int) * (n : Int)) = false := by simp
  have HA : Hid (IntsAt w a cs) := hA
  clear hA
  rw [hl]
  have HL : Hid (cs.length = n * n) := hl
  clear hl
  obtain ⟨m, HM⟩ : ∃ m, Hid (n * n = m) := ⟨_, rfl⟩
  rw [HM.out] at hnn hne ⊢
  go_enter Try.func44, Try.ntmps44
  go_wp2_with (go_at_call 39; refine (l1In_any _ _ _ _).mono ?_; rintro e w' ⟨rfl, rfl⟩)
  clear hne hd1 hnw
  go_loop [5] (fun t => ∃ k : Nat, k ≤ m ∧ t = .int .i64 k ∧ feeTo cs k) (fun t => m - (intOf t).toNat)
  case atStart => exact ⟨0, Nat.zero_le _, rfl, feeTo_zero _⟩
  case round =>
    obtain ⟨k, hk, rfl, hok⟩ := hrel
    have HO : Hid (feeTo cs k) := hok
    clear hok
    by_cases hlt : k < m
    · have hlt' : k < cs.length := by rw [HL.out, HM.out]; exact hlt
      obtain ⟨bb, off, rfl, hcs⟩ := IntsAt.some HA.out hlt'
      have ct := hcs k hlt'
      clear hcs
      obtain ⟨t, HT⟩ : ∃ t, Hid (cs.getD k 0 = t) := ⟨_, rfl⟩
      rw [HT.out] at ct
      cases hin : inB t (-1000000) 1000000
      · have HC : Hid (r = false) := HR.out.symm.trans (costsB_bad hlt' (by rw [HT.out]; exact hin))
        clear hlt'
        go_wp2_with (go_at_call 39; refine (l1In_any _ _ _ _).mono ?_; rintro e w' ⟨rfl, rfl⟩)
        go_ret
        exact ⟨ret_bool HC.out.symm, rfl⟩
      · have HS : Hid (feeTo cs (k + 1)) := feeTo_step HO.out (by rw [HT.out]; exact hin)
        clear hlt'
        go_wp2_with (go_at_call 39; refine (l1In_any _ _ _ _).mono ?_; rintro e w' ⟨rfl, rfl⟩)
        refine ⟨⟨k + 1, by omega, by go_num, HS.out⟩, by simp [intOf]; omega⟩
    · have hkm : k = m := by omega
      have HC : Hid (r = true) := HR.out.symm.trans (costsB_yes h1 h2 HL.out (by rw [HM.out, ← hkm]; exact HO.out))
      clear hkm
      go_wp2
      go_ret
      exact ⟨ret_bool HC.out.symm, rfl⟩

theorem l8Ok_any (n : Int) (a : Option Addr) (cap : Nat) (cs : List Int) (w : World) (hA : IntsAt w a cs) :
    Calls Try.prog 44 #[.int .i64 n, .slice a cs.length cap] w fun e w' => e = .returned (.bool (costsB n cs)) ∧ w' = w := by
  by_cases h : 1 ≤ n ∧ n ≤ 6 ∧ (cs.length : Int) = n * n
  · obtain ⟨m, rfl⟩ := Int.eq_ofNat_of_zero_le (show 0 ≤ n by omega)
    exact l8Ok_loop m a cap cs w (by omega) (by omega) (by have := h.2.2; rw [← Int.natCast_mul] at this; omega) hA
  · rw [costsB_not h]
    exact l8Ok_out n a _ cap w h

end Go.Proofs.Ytiojgkebdjdgbaa

namespace Go.Proofs.Ytiojgkebdjdgbaa
open Go.RowKit

set_option maxHeartbeats 1000000 in
theorem specAssign_loop (n : Nat) (b1 o1 b2 o2 c1 c2 : Nat) (cs ls : List Int) (w : World) (hA : IntsAt w (some ⟨b1, o1, none⟩) cs) (hB : IntsAt w (some ⟨b2, o2, none⟩) ls) (hcap : ls.length ≤ c2) (hC : costsB n cs = true) (hl : ls.length = n) :
    Calls Try.prog 17 #[.int .i64 n, .slice (some ⟨b1, o1, none⟩) cs.length c1, .slice (some ⟨b2, o2, none⟩) ls.length c2] w fun e w' => e = .returned (.tuple #[.int .i64 (assignV n cs ls), .bool (assignT n cs ls)]) ∧ Below w.heap.size w w' := by
  have HA : Hid (IntsAt w (some ⟨b1, o1, none⟩) cs) := hA
  have HB : Hid (IntsAt w (some ⟨b2, o2, none⟩) ls) := hB
  have HC : Hid (costsB n cs = true) := hC
  obtain ⟨h1, h2, hlc, hf⟩ : 1 ≤ n ∧ n ≤ 6 ∧ cs.length = n * n ∧ feeTo cs (n * n) := by
    obtain ⟨m, hm, q1, q2, q3, q4⟩ := costsB_nat hC
    obtain rfl : n = m := by omega
    exact ⟨q1, q2, q3, q4⟩
  have HF : Hid (feeTo cs (n * n)) := hf
  have HL : Hid (ls.length = n) := hl
  have HLC : Hid (cs.length = n * n) := hlc
  have hnn : n * n ≤ 36 := mul_bd6 n n h2 h2
  rw [hl] at hcap ⊢
  have hne : ((n : Int) != (n : Int)) = false := by simp
  clear hA hB hC hf hl hlc
  obtain ⟨v, HV⟩ : ∃ v, Hid (assignV n cs ls = v) := ⟨_, rfl⟩
  obtain ⟨t, HT⟩ : ∃ v, Hid (assignT n cs ls = v) := ⟨_, rfl⟩
  rw [HV.out, HT.out]
  go_enter Try.func17, Try.ntmps17
  go_wp2_with fail
  refine (l8Ok_any n _ _ cs _ HA.out).mono ?_
  rintro e w1 ⟨rfl, hw1⟩
  subst w1
  rw [HC.out, HLC.out]
  obtain ⟨m, HM⟩ : ∃ m, Hid (n * n = m) := ⟨_, rfl⟩
  rw [HM.out] at hnn ⊢
  go_wp2_with fail
  clear hne
  go_loopw [8, 9] (fun sm t wr => ∃ k : Nat, k ≤ n ∧ t = .int .i64 k ∧ sm = .int .i64 (sumTo n cs ls k) ∧ colsTo n ls k ∧ Below w.heap.size w wr) (fun _ t _ => n - (intOf t).toNat)
  case atStart => exact ⟨0, Nat.zero_le _, rfl, rfl, colsTo_zero _ _, Below.refl _ _⟩
  case round =>
    obtain ⟨k, hk, rfl, rfl, hc, hb⟩ := hrel
    have hbd := sumTo_bd (ls := ls) HF.out k (by omega) hc
    have HCk : Hid (colsTo n ls k) := hc
    have HBw : Hid (Below w.heap.size w wr) := hb
    clear hc hb
    obtain ⟨s0, HS0⟩ : ∃ s, Hid (sumTo n cs ls k = s) := ⟨_, rfl⟩
    rw [HS0.out] at hbd ⊢
    by_cases hlt : k < n
    · have HBr : Hid (IntsAt wr (some ⟨b2, o2, none⟩) ls) := HB.out.below HBw.out
      obtain ⟨_, _, e2, hcs⟩ := IntsAt.some HBr.out (j := k) (by rw [HL.out]; exact hlt)
      simp at e2
      obtain ⟨rfl, rfl⟩ := e2
      have ct := hcs k (by rw [HL.out]; exact hlt)
      clear hcs
      obtain ⟨x, HX⟩ : ∃ t, Hid (ls.getD k 0 = t) := ⟨_, rfl⟩
      rw [HX.out] at ct
      cases hin : inB x 0 ((n : Int) - 1)
      · obtain ⟨q1, q2⟩ := assign_no (n := n) (cs := cs) (ls := ls) (Or.inr (colsB_bad (k := k) (by rw [HL.out]; exact hlt) (by rw [HX.out, hin]; simp)))
        have HV1 : Hid (v = 0) := HV.out.symm.trans q2
        have HT1 : Hid (t = false) := HT.out.symm.trans q1
        clear q1 q2
        go_wp2
        go_quiet ((first
          | (go_at_call 39; exact Calls.quiet_of_same (l1In_any _ _ _ _))
          | (go_at_call 45; exact Calls.quiet_of_same (l3Has_any _ k _ _ ls _ (by exact HBr.out.below (below_drewN (Below.refl _ _) _)) (by rw [HL.out]; omega) (by omega)))))
        go_wp2
        refine bodyPost_ret (v := .tuple #[.int .i64 0, .bool false]) (by simp [results, Try.results17, go_sem]) rfl ⟨ret_ib HV1.out.symm HT1.out.symm, below_drewN HBw.out _⟩
      · have hp := place_nat hin
        obtain ⟨c, HCc⟩ : ∃ c, Hid (x.toNat = c) := ⟨_, rfl⟩
        rw [HCc.out] at hp
        obtain ⟨hp1, hp2⟩ := hp
        subst hp1
        have hin2 : inB (c : Int) 0 (IntKind.i64.wrap ((n : Int) - 1)) = true := by
          rw [show IntKind.i64.wrap ((n : Int) - 1) = (n : Int) - 1 by rw [IntKind.wrap_i64]; omega]
          exact hin
        have hkc : k ≤ c2 := by omega
        cases hh : hasTo ls k (c : Int)
        · have HC1 : Hid (colsTo n ls (k + 1)) := colsTo_step HCk.out (by rw [HX.out]; exact hin) (by rw [HX.out]; exact hh)
          have HH : Hid _ := hh
          clear hh
          have hfb := fee_bd HF.out (x := k) (y := c) hlt hp2
          have hsq := in_sq hlt hp2
          rw [HM.out] at hsq
          obtain ⟨_, _, e1, hcs⟩ := IntsAt.some (HA.out.below HBw.out) (j := k * n + c) (by rw [HLC.out, HM.out]; exact hsq)
          simp at e1
          obtain ⟨rfl, rfl⟩ := e1
          have cf : wr.cell? ⟨b1, o1 + (k * n + c), none⟩ = some (.int .i64 (fee n cs k c)) := hcs (k * n + c) (by rw [HLC.out, HM.out]; exact hsq)
          clear hcs
          obtain ⟨f, HFf⟩ : ∃ f, Hid (fee n cs k c = f) := ⟨_, rfl⟩
          rw [HFf.out] at hfb cf
          have HS1 : Hid (sumTo n cs ls (k + 1) = s0 + f) := by
            show _ = _
            unfold sumTo
            rw [HS0.out, HX.out, HCc.out, HFf.out]
          have hkn : (k : Int) * (n : Int) = ((k * n : Nat) : Int) := by simp
          obtain ⟨kn, HKN⟩ : ∃ q, Hid (k * n = q) := ⟨_, rfl⟩
          rw [HKN.out] at hkn hsq cf
          have hw1 : wrap64 ((k : Int) * (n : Int)) = (kn : Int) := by rw [hkn]; unfold wrap64; omega
          clear hkn
          go_wp2
          go_quiet ((first
            | (go_at_call 39; exact Calls.quiet_of_same (l1In_any _ _ _ _))
            | (go_at_call 45; exact Calls.quiet_of_same (l3Has_is _ k _ _ ls _ false HH.out (by exact HBr.out.below (below_drewN (Below.refl _ _) _)) (by rw [HL.out]; omega) (by omega)))))
          go_wp2
          refine ⟨⟨k + 1, by omega, by go_num, by rw [HS1.out], HC1.out, below_drewN HBw.out _⟩, by simp [intOf]; omega⟩
        · obtain ⟨q1, q2⟩ := assign_no (n := n) (cs := cs) (ls := ls) (Or.inr (colsB_bad (k := k) (by rw [HL.out]; exact hlt) (by rw [HX.out, hh]; simp)))
          have HV1 : Hid (v = 0) := HV.out.symm.trans q2
          have HT1 : Hid (t = false) := HT.out.symm.trans q1
          have HH : Hid _ := hh
          clear q1 q2 hh
          go_wp2
          go_quiet ((first
            | (go_at_call 39; exact Calls.quiet_of_same (l1In_any _ _ _ _))
            | (go_at_call 45; exact Calls.quiet_of_same (l3Has_is _ k _ _ ls _ true HH.out (by exact HBr.out.below (below_drewN (Below.refl _ _) _)) (by rw [HL.out]; omega) (by omega)))))
          go_wp2
          refine bodyPost_ret (v := .tuple #[.int .i64 0, .bool false]) (by simp [results, Try.results17, go_sem]) rfl ⟨ret_ib HV1.out.symm HT1.out.symm, below_drewN HBw.out _⟩
    · have hkl : k = n := by omega
      obtain ⟨q1, q2⟩ := assign_yes (n := n) (cs := cs) (ls := ls) HC.out (colsB_yes (by rw [HL.out]) (by rw [HL.out, ← hkl]; exact hkl ▸ HCk.out))
      have HV1 : Hid (v = s0) := HV.out.symm.trans (q2.trans (by rw [← hkl]; exact hkl ▸ HS0.out))
      have HT1 : Hid (t = true) := HT.out.symm.trans q1
      clear q1 q2 hkl
      go_wp2
      refine bodyPost_ret (v := .tuple #[.int .i64 s0, .bool true]) (by simp [results, Try.results17, go_sem]) rfl ⟨ret_ib HV1.out.symm HT1.out.symm, HBw.out⟩

set_option maxHeartbeats 400000 in
theorem specAssign_no (n : Int) (a1 a2 : Option Addr) (c1 c2 len : Nat) (cs : List Int) (w : World) (hA : IntsAt w a1 cs) (h : costsB n cs = false ∨ (len : Int) ≠ n) :
    Calls Try.prog 17 #[.int .i64 n, .slice a1 cs.length c1, .slice a2 len c2] w fun e w' => e = .returned (.tuple #[.int .i64 0, .bool false]) ∧ Below w.heap.size w w' := by
  have HA : Hid (IntsAt w a1 cs) := hA
  clear hA
  cases hc : costsB n cs
  · have HC : Hid (costsB n cs = false) := hc
    clear h hc
    go_enter Try.func17, Try.ntmps17
    go_wp2_with (go_at_call 44; refine (l8Ok_any n _ _ cs _ HA.out).mono ?_; rintro e w' ⟨rfl, rfl⟩; rw [HC.out])
    refine bodyPost_ret (v := .tuple #[.int .i64 0, .bool false]) (by simp [results, Try.results17, go_sem]) rfl ⟨rfl, Below.refl _ _⟩
  · have HC : Hid (costsB n cs = true) := hc
    have hne : ((len : Int) != n) = true := by
      rcases h with h | h
      · rw [hc] at h; cases h
      · simpa using h
    clear h hc
    go_enter Try.func17, Try.ntmps17
    go_wp2_with (go_at_call 44; refine (l8Ok_any n _ _ cs _ HA.out).mono ?_; rintro e w' ⟨rfl, rfl⟩; rw [HC.out])
    refine bodyPost_ret (v := .tuple #[.int .i64 0, .bool false]) (by simp [results, Try.results17, go_sem]) rfl ⟨rfl, Below.refl _ _⟩

theorem ints_some {w : World} {a : Option Addr} {zs : List Int} (h : IntsAt w a zs) (hl : 0 < zs.length) : ∃ b o, a = some ⟨b, o, none⟩ := by
  obtain ⟨b, o, e, _⟩ := h 0 hl
  exact ⟨b, o, e⟩

theorem specAssign_any (n : Int) (a1 a2 : Option Addr) (c1 c2 : Nat) (cs ls : List Int) (w : World) (hA : IntsAt w a1 cs) (hB : IntsAt w a2 ls) (hcap : ls.length ≤ c2) :
    Calls Try.prog 17 #[.int .i64 n, .slice a1 cs.length c1, .slice a2 ls.length c2] w fun e w' => e = .returned (.tuple #[.int .i64 (assignV n cs ls), .bool (assignT n cs ls)]) ∧ Below w.heap.size w w' := by
  by_cases hc : costsB n cs = true
  · by_cases hl : (ls.length : Int) = n
    · obtain ⟨m, rfl, h1, h2, hlc, _⟩ := costsB_nat hc
      have hl' : ls.length = m := by omega
      obtain ⟨b1, o1, rfl⟩ := ints_some hA (by rw [hlc]; exact Nat.mul_pos h1 h1)
      obtain ⟨b2, o2, rfl⟩ := ints_some hB (by omega)
      exact specAssign_loop m b1 o1 b2 o2 c1 c2 cs ls w hA hB hcap hc hl'
    · obtain ⟨q1, q2⟩ := assign_no (n := n) (cs := cs) (ls := ls) (Or.inr (colsB_len hl))
      rw [q1, q2]
      exact specAssign_no n a1 a2 c1 c2 _ cs w hA (Or.inr hl)
  · have hc' : costsB n cs = false := by simpa using hc
    obtain ⟨q1, q2⟩ := assign_no (n := n) (cs := cs) (ls := ls) (Or.inl hc')
    rw [q1, q2]
    exact specAssign_no n a1 a2 c1 c2 _ cs w hA (Or.inl hc')

end Go.Proofs.Ytiojgkebdjdgbaa

namespace Go.Proofs.Ytiojgkebdjdgbaa
open Go.RowKit

set_option maxHeartbeats 400000 in
theorem arePrices_any (n : Int) (a : Option Addr) (cap : Nat) (ls : List Int) (w : World) (hA : IntsAt w a ls) (hlen : ls.length ≤ 9223372036854775807) :
    Calls Try.prog 50 #[.int .i64 n, .slice a ls.length cap] w fun e w' => e = .returned (.bool (pricesB n ls)) ∧ w' = w := by
  have HA : Hid (IntsAt w a ls) := hA
  clear hA
  obtain ⟨r, HR⟩ : ∃ r, Hid (pricesB n ls = r) := ⟨_, rfl⟩
  rw [HR.out]
  by_cases hl : (ls.length : Int) = n
  · have hne : ((ls.length : Int) != n) = false := by simp [hl]
    have HL : Hid ((ls.length : Int) = n) := hl
    clear hl
    go_enter Try.func50, Try.ntmps50
    go_wp2_with fail
    clear hne
    go_loop [13] (fun t => ∃ k : Nat, k ≤ ls.length ∧ t = .int .i64 k ∧ priceTo ls k) (fun t => ls.length - (intOf t).toNat)
    case atStart => exact ⟨0, Nat.zero_le _, rfl, priceTo_zero _⟩
    case round =>
      obtain ⟨k, hk, rfl, hc⟩ := hrel
      have HC : Hid (priceTo ls k) := hc
      clear hc
      by_cases hlt : k < ls.length
      · obtain ⟨b, off, rfl, hcs⟩ := IntsAt.some HA.out hlt
        have ct := hcs k hlt
        clear hcs
        obtain ⟨t, HT⟩ : ∃ t, Hid (ls.getD k 0 = t) := ⟨_, rfl⟩
        rw [HT.out] at ct
        cases hin : inB t (-100000000) 100000000
        · have HV : Hid (r = false) := HR.out.symm.trans (pricesB_bad hlt (by rw [HT.out]; exact hin))
          go_wp2_with (go_at_call 36; refine (within_any _ _ _ _).mono ?_; rintro e w' ⟨rfl, rfl⟩)
          go_ret
          exact ⟨ret_bool HV.out.symm, rfl⟩
        · have HC1 : Hid (priceTo ls (k + 1)) := priceTo_step HC.out (by rw [HT.out]; exact hin)
          go_wp2_with (go_at_call 36; refine (within_any _ _ _ _).mono ?_; rintro e w' ⟨rfl, rfl⟩)
          refine ⟨⟨k + 1, by omega, by go_num, HC1.out⟩, by simp [intOf]; omega⟩
      · have hkl : k = ls.length := by omega
        have HV : Hid (r = true) := HR.out.symm.trans (pricesB_yes HL.out (hkl ▸ HC.out))
        clear hkl
        go_wp2
        go_ret
        exact ⟨ret_bool HV.out.symm, rfl⟩
  · have HV : Hid (r = false) := HR.out.symm.trans (pricesB_len hl)
    have hne : ((ls.length : Int) != n) = true := by simpa using hl
    clear hl
    go_enter Try.func50, Try.ntmps50
    go_wp2
    go_ret
    exact ⟨ret_bool HV.out.symm, rfl⟩

set_option maxHeartbeats 1000000 in
theorem bound_any (n : Nat) (b1 o1 b2 o2 c1 c2 : Nat) (cs rs qs : List Int) (w : World) (h2 : n ≤ 6) (hF : feeTo cs (n * n)) (hR : IntsAt w (some ⟨b1, o1, none⟩) rs) (hQ : IntsAt w (some ⟨b2, o2, none⟩) qs) (hr : rs.length = n) (hq : qs.length = n) (hpr : priceTo rs n) (hpq : priceTo qs n) :
    Calls Try.prog 51 #[.agg (cellsOf (feesTo n cs (n * n))), .slice (some ⟨b1, o1, none⟩) n c1, .slice (some ⟨b2, o2, none⟩) n c2] w fun e w' => e = .returned (.tuple #[.int .i64 (boundV n cs rs qs), .bool (fitB n cs rs qs)]) ∧ Below w.heap.size w w' := by
  have HR : Hid (IntsAt w (some ⟨b1, o1, none⟩) rs) := hR
  have HQ : Hid (IntsAt w (some ⟨b2, o2, none⟩) qs) := hQ
  have HLR : Hid (rs.length = n) := hr
  have HLQ : Hid (qs.length = n) := hq
  have HF : Hid (feeTo cs (n * n)) := hF
  have HPR : Hid (priceTo rs n) := hpr
  have HPQ : Hid (priceTo qs n) := hpq
  clear hR hQ hF hpr hpq hr hq
  obtain ⟨v, HV⟩ : ∃ v, Hid (boundV n cs rs qs = v) := ⟨_, rfl⟩
  obtain ⟨t, HT⟩ : ∃ v, Hid (fitB n cs rs qs = v) := ⟨_, rfl⟩
  rw [HV.out, HT.out]
  obtain ⟨gr, HGR⟩ : ∃ gr, Hid (cellsOf (feesTo n cs (n * n)) = gr) := ⟨_, rfl⟩
  rw [HGR.out]
  go_enter Try.func51, Try.ntmps51
  go_wp2_with fail
  go_loopw [8, 13] (fun sm t wr => ∃ k : Nat, k ≤ n ∧ t = .int .i64 k ∧ sm = .int .i64 (dualTo rs qs k) ∧ (∀ i, i < k → ∀ j, j < n → fits n cs rs qs i j) ∧ Below w.heap.size w wr ∧ wr.heap[w.heap.size]? = some (.cells gr 61 (0, 0))) (fun _ t _ => n - (intOf t).toNat)
  case atStart => exact ⟨0, Nat.zero_le _, rfl, rfl, fun i hi => by omega, (Below.refl _ _).alloc (Nat.le_refl _) _, heap_alloc_new _ _⟩
  case round =>
    obtain ⟨k, hk, rfl, rfl, hok, hb, hg⟩ := hrel
    have HOK : Hid (∀ i, i < k → ∀ j, j < n → fits n cs rs qs i j) := hok
    have HBw : Hid (Below w.heap.size w wr) := hb
    have HGw : Hid (wr.heap[w.heap.size]? = some (.cells gr 61 (0, 0))) := hg
    have hbd := dualTo_bd (rs := rs) (qs := qs) k (fun j hj => HPR.out j (by omega)) (fun j hj => HPQ.out j (by omega))
    clear hok hb hg
    obtain ⟨s0, HS0⟩ : ∃ s, Hid (dualTo rs qs k = s) := ⟨_, rfl⟩
    rw [HS0.out] at hbd ⊢
    by_cases hlt : k < n
    · go_wp2_with fail
      go_loopw [18] (fun t wr => ∃ j : Nat, j ≤ n ∧ t = .int .i64 j ∧ (∀ y, y < j → fits n cs rs qs k y) ∧ Below w.heap.size w wr ∧ wr.heap[w.heap.size]? = some (.cells gr 61 (0, 0))) (fun t _ => n - (intOf t).toNat)
      case atStart => exact ⟨0, Nat.zero_le _, rfl, fun y hy => by omega, HBw.out, HGw.out⟩
      case round =>
        clear HBw HGw
        obtain ⟨j, hj, rfl, hok, hb, hg⟩ := hrel
        have HOJ : Hid (∀ y, y < j → fits n cs rs qs k y) := hok
        have HBw : Hid (Below w.heap.size w wr) := hb
        have HGw : Hid (wr.heap[w.heap.size]? = some (.cells gr 61 (0, 0))) := hg
        clear hok hb hg
        have cr : wr.cell? ⟨b1, o1 + k, none⟩ = some (.int .i64 (rs.getD k 0)) := by
          obtain ⟨_, _, e, h⟩ := HR.out.below HBw.out k (by rw [HLR.out]; exact hlt)
          simp at e
          obtain ⟨rfl, rfl⟩ := e
          exact h
        have hrb := price_bd HPR.out hlt
        by_cases hjlt : j < n
        · have cq : wr.cell? ⟨b2, o2 + j, none⟩ = some (.int .i64 (qs.getD j 0)) := by
            obtain ⟨_, _, e, h⟩ := HQ.out.below HBw.out j (by rw [HLQ.out]; exact hjlt)
            simp at e
            obtain ⟨rfl, rfl⟩ := e
            exact h
          have hqb := price_bd HPQ.out hjlt
          have hfb := fee_bd HF.out hlt hjlt
          have cg := fee_cell (HGR.out.symm ▸ HGw.out) (cs := cs) (n := n) hlt hjlt h2
          obtain ⟨r, HRr⟩ : ∃ f, Hid (rs.getD k 0 = f) := ⟨_, rfl⟩
          obtain ⟨q, HQq⟩ : ∃ f, Hid (qs.getD j 0 = f) := ⟨_, rfl⟩
          obtain ⟨f, HFf⟩ : ∃ f, Hid (fee n cs k j = f) := ⟨_, rfl⟩
          rw [HRr.out] at cr hrb
          rw [HQq.out] at cq hqb
          rw [HFf.out] at cg hfb
          by_cases hgt : f < r + q
          · have HN : Hid (fitB n cs rs qs = false) := fitB_no hlt hjlt (by unfold fits; rw [HRr.out, HQq.out, HFf.out]; omega)
            have HV1 : Hid (v = 0) := HV.out.symm.trans (boundV_no HN.out)
            have HT1 : Hid (t = false) := HT.out.symm.trans HN.out
            go_wp2
            go_quiet (fail)
            go_wp2
            refine bodyPost_ret (v := .tuple #[.int .i64 0, .bool false]) (by simp [results, Try.results51, go_sem]) rfl ⟨ret_ib' HV1.out.symm HT1.out.symm, below_drewN HBw.out _⟩
          · have HOJ1 : Hid (∀ y, y < j + 1 → fits n cs rs qs k y) := by
              intro y hy
              by_cases e : y = j
              · rw [e]; unfold fits; rw [HRr.out, HQq.out, HFf.out]; omega
              · exact HOJ.out y (by omega)
            have hgt' : r + q ≤ f := by omega
            clear hgt
            go_wp2
            go_quiet (fail)
            go_wp2
            refine ⟨⟨j + 1, by omega, by go_num, HOJ1.out, below_drewN HBw.out _, HGw.out⟩, by simp [intOf]; omega⟩
        · have hjn : j = n := by omega
          have HOK1 : Hid (∀ i, i < k + 1 → ∀ j, j < n → fits n cs rs qs i j) := by
            intro i hi y hy
            by_cases e : i = k
            · rw [e]; exact HOJ.out y (by omega)
            · exact HOK.out i (by omega) y hy
          have cq : wr.cell? ⟨b2, o2 + k, none⟩ = some (.int .i64 (qs.getD k 0)) := by
            obtain ⟨_, _, e, h⟩ := HQ.out.below HBw.out k (by rw [HLQ.out]; exact hlt)
            simp at e
            obtain ⟨rfl, rfl⟩ := e
            exact h
          have hqb := price_bd HPQ.out hlt
          obtain ⟨r, HRr⟩ : ∃ f, Hid (rs.getD k 0 = f) := ⟨_, rfl⟩
          obtain ⟨q, HQq⟩ : ∃ f, Hid (qs.getD k 0 = f) := ⟨_, rfl⟩
          rw [HRr.out] at cr hrb
          rw [HQq.out] at cq hqb
          have HS1 : Hid (dualTo rs qs (k + 1) = s0 + (r + q)) := by
            show _ = _
            unfold dualTo
            rw [HS0.out, HRr.out, HQq.out]
          clear hjn
          go_wp2
          go_quiet (fail)
          go_wp2
          refine ⟨⟨k + 1, by omega, by go_num, by rw [HS1.out], HOK1.out, below_drewN HBw.out _, HGw.out⟩, by simp [intOf]; omega⟩
    · have hkn : k = n := by omega
      have HY : Hid (fitB n cs rs qs = true) := fitB_yes (hkn ▸ HOK.out)
      have HV1 : Hid (v = s0) := HV.out.symm.trans ((boundV_yes HY.out).trans (by rw [← hkn]; exact hkn ▸ HS0.out))
      have HT1 : Hid (t = true) := HT.out.symm.trans HY.out
      clear hkn
      go_wp2
      refine bodyPost_ret (v := .tuple #[.int .i64 s0, .bool true]) (by simp [results, Try.results51, go_sem]) rfl ⟨ret_ib' HV1.out.symm HT1.out.symm, HBw.out⟩

end Go.Proofs.Ytiojgkebdjdgbaa

namespace Go.Proofs.Ytiojgkebdjdgbaa
open Go.RowKit

theorem ints_some' {w : World} {a : Option Addr} {zs : List Int} (h : IntsAt w a zs) (hl : 0 < zs.length) : ∃ b o, a = some ⟨b, o, none⟩ := by
  obtain ⟨b, o, e, _⟩ := h 0 hl
  exact ⟨b, o, e⟩

set_option maxHeartbeats 1000000 in
theorem implProves_any (n : Int) (a1 a2 a3 : Option Addr) (c1 c2 c3 : Nat) (cs rs qs : List Int) (w : World) (hA : IntsAt w a1 cs) (hR : IntsAt w a2 rs) (hQ : IntsAt w a3 qs) (hlr : rs.length ≤ 9223372036854775807) (hlq : qs.length ≤ 9223372036854775807) :
    Calls Try.prog 23 #[.int .i64 n, .slice a1 cs.length c1, .slice a2 rs.length c2, .slice a3 qs.length c3] w fun e w' => e = .returned (.tuple #[.int .i64 (provesV n cs rs qs), .bool (provesT n cs rs qs)]) ∧ Below w.heap.size w w' := by
  have HA : Hid (IntsAt w a1 cs) := hA
  have HR : Hid (IntsAt w a2 rs) := hR
  have HQ : Hid (IntsAt w a3 qs) := hQ
  clear hA hR hQ
  obtain ⟨v, HV⟩ : ∃ v, Hid (provesV n cs rs qs = v) := ⟨_, rfl⟩
  obtain ⟨t, HT⟩ : ∃ v, Hid (provesT n cs rs qs = v) := ⟨_, rfl⟩
  rw [HV.out, HT.out]
  have hz := (zero_of_info Try.infoFees).1
  generalize hz0 : cellsOf z36 = z0 at hz
  have HZ : Hid (cellsOf z36 = z0) := hz0
  clear hz0
  go_enter Try.func23, Try.ntmps23
  go_wp2_with fail
  refine (fees_any n a1 c1 cs _ HA.out).mono ?_
  rintro e w1 ⟨rfl, hb⟩
  have B1 : Hid (Below w.heap.size w w1) := hb
  clear hb
  obtain ⟨gr, HGR⟩ : ∃ gr, Hid (cellsOf (feeRes n cs) = gr) := ⟨_, rfl⟩
  obtain ⟨cb, HCB⟩ : ∃ cb, Hid (costsB n cs = cb) := ⟨_, rfl⟩
  have BW : Hid (Below w.heap.size w (w1.alloc (Obj.cells gr 61))) := B1.out.alloc B1.out.size _
  have GW : Hid ((w1.alloc (Obj.cells gr 61)).heap[w1.heap.size]? = some (.cells gr 61 (0, 0))) := heap_alloc_new _ _
  have hsz : (Try.prog.info? 61).map (·.size) = some gr.size := by rw [← HGR.out]; exact sizeFees_of (feeRes_length _ _)
  have HSZ : Hid _ := hsz
  have hone : gr.all (·.oneCell') = true := by rw [← HGR.out]; exact cellsOf_one _
  have hzz : z0.size = gr.size := by rw [← HZ.out, ← HGR.out, cellsOf_size, cellsOf_size, z36_length, feeRes_length]
  have HON : Hid _ := hone
  have HZZ : Hid _ := hzz
  clear hsz hone hzz
  obtain ⟨pr, HPR⟩ : ∃ cb, Hid (pricesB n rs = cb) := ⟨_, rfl⟩
  obtain ⟨pq, HPQ⟩ : ∃ cb, Hid (pricesB n qs = cb) := ⟨_, rfl⟩
  rw [HGR.out, HCB.out]
  cases cb
  · obtain ⟨q1, q2⟩ := proves_no (n := n) (cs := cs) (rs := rs) (qs := qs) (Or.inl HCB.out)
    have HV1 : Hid (v = 0) := HV.out.symm.trans q2
    have HT1 : Hid (t = false) := HT.out.symm.trans q1
    clear q1 q2
    go_wp2_with (first
      | (with_reducible refine wpList_store_row ?_ 61 (.tmp 10) (.tmp 16) ?_ w1.heap.size gr ?_ ?_ 61 z0 ?_ ?_ ?_ ?_ ?_
         · rfl
         · rfl
         · rfl
         · rfl
         · exact heap_alloc_new _ _
         · exact HSZ.out
         · exact HZZ.out
         · exact HON.out
         rw [World.setRow_alloc_new]
         generalize w1.alloc (Obj.cells gr 61) = W at *)
      | (go_at_call 50; first
         | (with_reducible refine (arePrices_any _ a2 _ rs _ (HR.out.below BW.out) hlr).mono ?_; rintro e w2 ⟨rfl, rfl⟩; rw [HPR.out])
         | (with_reducible refine (arePrices_any _ a3 _ qs _ (HQ.out.below BW.out) hlq).mono ?_; rintro e w2 ⟨rfl, rfl⟩; rw [HPQ.out])))
    refine bodyPost_ret (v := .tuple #[.int .i64 0, .bool false]) (by simp [results, Try.results23, go_sem]) rfl ⟨ret_ib' HV1.out.symm HT1.out.symm, BW.out⟩
  · cases pr
    · obtain ⟨q1, q2⟩ := proves_no (n := n) (cs := cs) (rs := rs) (qs := qs) (Or.inr (Or.inl HPR.out))
      have HV1 : Hid (v = 0) := HV.out.symm.trans q2
      have HT1 : Hid (t = false) := HT.out.symm.trans q1
      clear q1 q2
      go_wp2_with (first
        | (with_reducible refine wpList_store_row ?_ 61 (.tmp 10) (.tmp 16) ?_ w1.heap.size gr ?_ ?_ 61 z0 ?_ ?_ ?_ ?_ ?_
           · rfl
           · rfl
           · rfl
           · rfl
           · exact heap_alloc_new _ _
           · exact HSZ.out
           · exact HZZ.out
           · exact HON.out
           rw [World.setRow_alloc_new]
           generalize w1.alloc (Obj.cells gr 61) = W at *)
        | (go_at_call 50; first
           | (with_reducible refine (arePrices_any _ a2 _ rs _ (HR.out.below BW.out) hlr).mono ?_; rintro e w2 ⟨rfl, rfl⟩; rw [HPR.out])
           | (with_reducible refine (arePrices_any _ a3 _ qs _ (HQ.out.below BW.out) hlq).mono ?_; rintro e w2 ⟨rfl, rfl⟩; rw [HPQ.out])))
      refine bodyPost_ret (v := .tuple #[.int .i64 0, .bool false]) (by simp [results, Try.results23, go_sem]) rfl ⟨ret_ib' HV1.out.symm HT1.out.symm, BW.out⟩
    · cases pq
      · obtain ⟨q1, q2⟩ := proves_no (n := n) (cs := cs) (rs := rs) (qs := qs) (Or.inr (Or.inr (Or.inl HPQ.out)))
        have HV1 : Hid (v = 0) := HV.out.symm.trans q2
        have HT1 : Hid (t = false) := HT.out.symm.trans q1
        clear q1 q2
        go_wp2_with (first
          | (with_reducible refine wpList_store_row ?_ 61 (.tmp 10) (.tmp 16) ?_ w1.heap.size gr ?_ ?_ 61 z0 ?_ ?_ ?_ ?_ ?_
             · rfl
             · rfl
             · rfl
             · rfl
             · exact heap_alloc_new _ _
             · exact HSZ.out
             · exact HZZ.out
             · exact HON.out
             rw [World.setRow_alloc_new]
             generalize w1.alloc (Obj.cells gr 61) = W at *)
          | (go_at_call 50; first
             | (with_reducible refine (arePrices_any _ a2 _ rs _ (HR.out.below BW.out) hlr).mono ?_; rintro e w2 ⟨rfl, rfl⟩; rw [HPR.out])
             | (with_reducible refine (arePrices_any _ a3 _ qs _ (HQ.out.below BW.out) hlq).mono ?_; rintro e w2 ⟨rfl, rfl⟩; rw [HPQ.out])))
        refine bodyPost_ret (v := .tuple #[.int .i64 0, .bool false]) (by simp [results, Try.results23, go_sem]) rfl ⟨ret_ib' HV1.out.symm HT1.out.symm, BW.out⟩
      · obtain ⟨m, hnm, h1, h2, hl, hf⟩ := costsB_nat HCB.out
        subst hnm
        have HF : Hid (feeTo cs (m * m)) := hf
        have HGR2 : Hid (cellsOf (feesTo m cs (m * m)) = gr) := by show _ = _; rw [← feeRes_true HCB.out]; exact HGR.out
        obtain ⟨l1, l2⟩ := pricesB_true HPR.out
        obtain ⟨l3, l4⟩ := pricesB_true HPQ.out
        have HLR : Hid (rs.length = m) := by show _ = _; omega
        have HLQ : Hid (qs.length = m) := by show _ = _; omega
        have HTR : Hid (priceTo rs m) := by have := l2; rw [HLR.out] at this; exact this
        have HTQ : Hid (priceTo qs m) := by have := l4; rw [HLQ.out] at this; exact this
        obtain ⟨b1, o1, rfl⟩ := ints_some' HR.out (by rw [HLR.out]; omega)
        obtain ⟨b2, o2, rfl⟩ := ints_some' HQ.out (by rw [HLQ.out]; omega)
        have HV1 : Hid (v = boundV m cs rs qs ∧ t = fitB m cs rs qs) := by
          cases hf : fitB m cs rs qs
          · obtain ⟨q1, q2⟩ := proves_fit_no hf
            exact ⟨HV.out.symm.trans (q2.trans (boundV_no hf).symm), HT.out.symm.trans q1⟩
          · obtain ⟨q1, q2⟩ := proves_yes (n := m) (cs := cs) (rs := rs) (qs := qs) HCB.out HPR.out HPQ.out hf
            exact ⟨HV.out.symm.trans (q2.trans (boundV_yes hf).symm), HT.out.symm.trans q1⟩
        clear hl hf l1 l2 l3 l4
        obtain ⟨bv, HBV⟩ : ∃ v, Hid (boundV m cs rs qs = v) := ⟨_, rfl⟩
        obtain ⟨ft, HFT⟩ : ∃ v, Hid (fitB m cs rs qs = v) := ⟨_, rfl⟩
        go_wp2_with (first
          | (with_reducible refine wpList_store_row ?_ 61 (.tmp 10) (.tmp 16) ?_ w1.heap.size gr ?_ ?_ 61 z0 ?_ ?_ ?_ ?_ ?_
             · rfl
             · rfl
             · rfl
             · rfl
             · exact heap_alloc_new _ _
             · exact HSZ.out
             · exact HZZ.out
             · exact HON.out
             rw [World.setRow_alloc_new]
             generalize w1.alloc (Obj.cells gr 61) = W at *)
          | (with_reducible refine wpList_load_row ?_ 61 (.tmp 10) ?_ (w1.heap.size) ?_ 61 gr (0, 0) _ ?_ Try.underlying61 ?_ ?_ ?_
             · rfl
             · rfl
             · rfl
             · exact GW.out
             · rfl
             · exact HSZ.out)
          | (go_at_call 50; first
             | (with_reducible refine (arePrices_any _ _ _ rs _ (HR.out.below BW.out) hlr).mono ?_; rintro e w2 ⟨rfl, rfl⟩; rw [HPR.out])
             | (with_reducible refine (arePrices_any _ _ _ qs _ (HQ.out.below BW.out) hlq).mono ?_; rintro e w2 ⟨rfl, rfl⟩; rw [HPQ.out]))
          | (go_at_call 51; rw [← HGR2.out, HLR.out, HLQ.out]; refine (bound_any m _ _ _ _ _ _ cs rs qs _ h2 HF.out (HR.out.below BW.out) (HQ.out.below BW.out) HLR.out HLQ.out HTR.out HTQ.out).mono ?_; rintro e w3 ⟨rfl, hb3⟩; rw [HBV.out, HFT.out]))
        refine bodyPost_ret (v := .tuple #[.int .i64 bv, .bool ft]) (by simp [results, Try.results23, go_sem]) rfl ⟨ret_ib' (HBV.out.symm.trans HV1.out.1.symm) (HFT.out.symm.trans HV1.out.2.symm), BW.out.trans (hb3.mono BW.out.size)⟩

end Go.Proofs.Ytiojgkebdjdgbaa

namespace Go.Proofs.Ytiojgkebdjdgbaa
open Go.RowKit

theorem wrap_rand {s : Int} (h1 : 0 ≤ s) (h2 : s ≤ 2147483647) : wrap64 (s * 1103515245) = s * 1103515245 ∧ wrap64 (s * 1103515245 + 12345) = s * 1103515245 + 12345 := by
  unfold wrap64; omega

set_option maxHeartbeats 400000 in
theorem specRand_any (s : Int) (w : World) :
    Calls Try.prog 30 #[.int .i64 s] w fun e w' => e = .returned (.int .i64 (randV s)) ∧ w' = w := by
  obtain ⟨r, HR⟩ : ∃ r, Hid (randV s = r) := ⟨_, rfl⟩
  rw [HR.out]
  cases hin : inB s 0 2147483647
  · have HV : Hid (r = 0) := HR.out.symm.trans (randV_no hin)
    go_enter Try.func30, Try.ntmps30
    go_wp2_with (go_at_call 39; refine (l1In_any _ _ _ _).mono ?_; rintro e w' ⟨rfl, rfl⟩)
    go_ret
    exact ⟨ret_int HV.out.symm, rfl⟩
  · have hb := inB_true hin
    have HV : Hid (r = (s * 1103515245 + 12345) % 2147483648) := HR.out.symm.trans (randV_yes hin)
    obtain ⟨m1, m2⟩ := wrap_rand hb.1 hb.2
    go_enter Try.func30, Try.ntmps30
    go_wp2_with (go_at_call 39; refine (l1In_any _ _ _ _).mono ?_; rintro e w' ⟨rfl, rfl⟩)
    go_ret
    exact ⟨ret_int HV.out.symm, rfl⟩

end Go.Proofs.Ytiojgkebdjdgbaa

namespace Go.Proofs.Ytiojgkebdjdgbaa
open Go.RowKit

set_option maxHeartbeats 400000 in
theorem isSeed_any (n : Int) (w : World) :
    Calls Try.prog 53 #[.int .i64 n] w fun e w' => e = .returned (.bool (inB n 0 2147483647)) ∧ w' = w := by
  go_enter Try.func53, Try.ntmps53
  go_wp2_with (go_at_call 36; refine (within_any _ _ _ _).mono ?_; rintro e w' ⟨rfl, rfl⟩)
  go_ret
  exact ⟨rfl, rfl⟩

set_option maxHeartbeats 400000 in
theorem implRand_any (s : Int) (w : World) :
    Calls Try.prog 29 #[.int .i64 s] w fun e w' => e = .returned (.int .i64 (randV s)) ∧ w' = w := by
  obtain ⟨r, HR⟩ : ∃ r, Hid (randV s = r) := ⟨_, rfl⟩
  rw [HR.out]
  cases hin : inB s 0 2147483647
  · have HV : Hid (r = 0) := HR.out.symm.trans (randV_no hin)
    go_enter Try.func29, Try.ntmps29
    go_wp2_with (go_at_call 53; refine (isSeed_any _ _).mono ?_; rintro e w' ⟨rfl, rfl⟩)
    go_ret
    exact ⟨ret_int HV.out.symm, rfl⟩
  · have hb := inB_true hin
    have HV : Hid (r = (s * 1103515245 + 12345) % 2147483648) := HR.out.symm.trans (randV_yes hin)
    obtain ⟨m1, m2⟩ := wrap_rand hb.1 hb.2
    go_enter Try.func29, Try.ntmps29
    go_wp2_with (go_at_call 53; refine (isSeed_any _ _).mono ?_; rintro e w' ⟨rfl, rfl⟩)
    go_ret
    exact ⟨ret_int HV.out.symm, rfl⟩

end Go.Proofs.Ytiojgkebdjdgbaa

namespace Go.Proofs.Ytiojgkebdjdgbaa
open Go.RowKit

set_option maxHeartbeats 400000 in
theorem sameInts_any (a b : Option Addr) (c1 c2 : Nat) (xs ys : List Int) (w : World) (hA : IntsAt w a xs) (hB : IntsAt w b ys) (hl1 : xs.length ≤ 1125899906842624) :
    Calls Try.prog 13 #[.slice a xs.length c1, .slice b ys.length c2] w fun e w' => e = .returned (.bool (decide (xs = ys))) ∧ Below w.heap.size w w' := by
  by_cases hl : xs.length = ys.length
  · have HA : Hid (IntsAt w a xs) := hA
    have HB : Hid (IntsAt w b ys) := hB
    have HL : Hid (xs.length = ys.length) := hl
    rw [hl] at hl1 ⊢
    clear hA hB hl
    go_enter Try.func13, Try.ntmps13
    go_wp2_with fail
    go_loopw [5] (fun t wr => ∃ k : Nat, k ≤ ys.length ∧ t = .int .i64 k ∧ Below w.heap.size w wr ∧ xs.take k = ys.take k) (fun t _ => ys.length - (intOf t).toNat)
    case atStart => exact ⟨0, Nat.zero_le _, rfl, Below.refl _ _, by simp⟩
    case round =>
      obtain ⟨k, hk, rfl, hb, he⟩ := hrel
      have HE : Hid (xs.take k = ys.take k) := he
      clear he
      by_cases hlt : k < ys.length
      · have hxk : k < xs.length := by rw [HL.out]; exact hlt
        obtain ⟨b1, o1, rfl, hc1⟩ := IntsAt.some (IntsAt.below HA.out hb) hxk
        obtain ⟨b2, o2, rfl, hc2⟩ := IntsAt.some (IntsAt.below HB.out hb) hlt
        have ct1 := hc1 k hxk
        have ct2 := hc2 k hlt
        clear hc1 hc2
        generalize ht1 : xs.getD k 0 = t1 at ct1
        generalize ht2 : ys.getD k 0 = t2 at ct2
        have H1 : Hid (xs.getD k 0 = t1) := ht1
        have H2 : Hid (ys.getD k 0 = t2) := ht2
        clear ht1 ht2
        by_cases ht : t1 = t2
        · have htb : (t1 != t2) = false := by simp [ht]
          have HT : Hid (t1 = t2) := ht
          clear ht
          go_wp2
          go_quiet (fail)
          go_wp2
          refine ⟨⟨k + 1, by omega, by go_num, below_drewN hb _, ?_⟩, by simp [intOf]; omega⟩
          rw [take_snoc xs k hxk, take_snoc ys k hlt, HE.out, H1.out, H2.out, HT.out]
        · have htb : (t1 != t2) = true := by simp [ht]
          have HN : Hid (decide (xs = ys) = false) := by
            apply decide_eq_false
            intro e
            exact ht (by rw [← H1.out, ← H2.out, e])
          clear ht
          go_wp2
          go_quiet (fail)
          go_wp2
          go_ret
          exact ⟨ret_bool HN.out.symm, below_drewN hb _⟩
      · have HN : Hid (decide (xs = ys) = true) := by
          apply decide_eq_true
          have h := HE.out
          rwa [List.take_of_length_le (by rw [HL.out]; omega), List.take_of_length_le (by omega)] at h
        go_wp2
        go_ret
        exact ⟨ret_bool HN.out.symm, hb⟩
  · have HN : Hid (decide (xs = ys) = false) := decide_eq_false fun e => hl (by rw [e])
    have hne : ((xs.length : Int) != (ys.length : Int)) = true := by rw [bne_iff_ne]; omega
    clear hA hB hl
    go_enter Try.func13, Try.ntmps13
    go_wp2
    go_ret
    exact ⟨ret_bool HN.out.symm, Below.refl _ _⟩

end Go.Proofs.Ytiojgkebdjdgbaa

namespace Go.Proofs.Ytiojgkebdjdgbaa
open Go.RowKit

theorem noTo_step2 {zs : List Int} {id : Int} {k : Nat} (h : ∀ j, j < k → zs.getD j 0 ≠ id) (hk : zs.getD k 0 ≠ id) : ∀ j, j < k + 1 → zs.getD j 0 ≠ id := by
  intro j hj
  by_cases e : j = k
  · rw [e]; exact hk
  · exact h j (by omega)

set_option maxHeartbeats 400000 in
theorem lawsHas_any (a : Option Addr) (m cap : Nat) (id : Int) (zs : List Int) (w : World) (hA : IntsAt w a zs) (hm : m ≤ zs.length) (hlen : m ≤ 9223372036854775807) :
    Calls Try.prog 31 #[.slice a m cap, .int .i64 id] w fun e w' => e = .returned (.bool (hasTo zs m id)) ∧ w' = w := by
  have HA : Hid (IntsAt w a zs) := hA
  clear hA
  obtain ⟨r, HR⟩ : ∃ r, Hid (hasTo zs m id = r) := ⟨_, rfl⟩
  rw [HR.out]
  go_enter Try.func31, Try.ntmps31
  go_wp2_with fail
  go_loop [5] (fun t => ∃ k : Nat, k ≤ m ∧ t = .int .i64 k ∧ ∀ j, j < k → zs.getD j 0 ≠ id) (fun t => m - (intOf t).toNat)
  case atStart => exact ⟨0, Nat.zero_le _, rfl, fun j hj => by omega⟩
  case round =>
    obtain ⟨k, hk, rfl, hno⟩ := hrel
    have HN : Hid (∀ j, j < k → zs.getD j 0 ≠ id) := hno
    clear hno
    by_cases hlt : k < m
    · obtain ⟨b, off, rfl, hcs⟩ := IntsAt.some HA.out (j := k) (by omega)
      have ct := hcs k (by omega)
      clear hcs
      obtain ⟨t, HT⟩ : ∃ t, Hid (zs.getD k 0 = t) := ⟨_, rfl⟩
      rw [HT.out] at ct
      by_cases he : t = id
      · have heb : (t == id) = true := by simp [he]
        have HV : Hid (r = true) := HR.out.symm.trans (hasTo_yes hlt (HT.out.trans he))
        clear he
        go_wp2
        go_ret
        exact ⟨ret_bool HV.out.symm, rfl⟩
      · have heb : (t == id) = false := by simp [he]
        have HS : Hid (∀ j, j < k + 1 → zs.getD j 0 ≠ id) := noTo_step2 HN.out (by rw [HT.out]; exact he)
        clear he
        go_wp2
        exact ⟨⟨k + 1, by omega, by go_num, HS.out⟩, by simp [intOf]; omega⟩
    · have hkl : k = m := by omega
      have HV : Hid (r = false) := HR.out.symm.trans (hasTo_no (hkl ▸ HN.out))
      clear hkl
      go_wp2
      go_ret
      exact ⟨ret_bool HV.out.symm, rfl⟩

end Go.Proofs.Ytiojgkebdjdgbaa
