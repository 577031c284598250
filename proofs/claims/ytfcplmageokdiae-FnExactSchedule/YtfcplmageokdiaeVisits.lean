import Derived.Test.YtfcplmageokdiaeTourKeeps
import Derived.Test.YtfcplmageokdiaePlainSched
import Derived.RangeFuncNested
import Derived.RangeFuncBound
import Derived.RangeFuncCalls
import Derived.RangeFuncLeaves
import Derived.Shelf.Abstract
import Derived.Shelf.RegionOpen
import Derived.OwnWalkIn
import Derived.TacticsInMore
import Derived.LoopNIn
import Derived.LoopIn
import Derived.Deep.Cut
namespace Go.Proofs.Ytfcplmageokdiae
open Go.RowKit Go.Shelf
attribute [local go_sem] Oper.semAt_some

theorem grown_of {w w' : World} (h : Below w.heap.size w w') : w.grownBy w' none := ⟨h.os, h.tape, h.output, h.size, fun k hk _ => h.block k hk⟩

/-- What a round of a loop over the visits keeps: all that lay below n₀, and the tour's box. -/
def KpT (n₀ Bt : Nat) (o : Obj) (W W' : World) : Prop := Below n₀ W W' ∧ (W.heap[Bt]? = some o → W'.heap[Bt]? = some o)
theorem KpT.trans {n₀ Bt : Nat} {o : Obj} {A B C : World} (h : KpT n₀ Bt o A B) (g : KpT n₀ Bt o B C) : KpT n₀ Bt o A C := ⟨h.1.trans g.1, fun x => g.2 (h.2 x)⟩

/-- (impl.tour).visits hands back its closure over the tour in a box. -/
theorem visits_any (n v0 home v2 frm to : Int) (a ar : Option Addr) (cap m cr : Nat) (zs : List Int) (w : World) :
    Calls Try.prog 51 #[.agg #[.int .i64 n, .slice a zs.length cap, .int .i64 v0, .int .i64 home, .int .i64 v2, .int .i64 frm, .int .i64 to, .slice ar m cr]] w fun e w' => e = .returned (.func (.func 78) #[] #[.pointer (some ⟨w.heap.size, 0, none⟩)]) ∧ w' = w.alloc (.cells #[Value.int IntKind.i64 n, Value.slice a zs.length cap, Value.int IntKind.i64 v0, Value.int IntKind.i64 home, Value.int IntKind.i64 v2, Value.int IntKind.i64 frm, Value.int IntKind.i64 to, Value.slice ar m cr] 88) := by
  go_enter Try.func51, Try.ntmps51
  go_wp2
  go_ret
  exact ⟨rfl, rfl⟩

set_option maxHeartbeats 2000000 in
/-- The closure: each order with its visit, for whatever loop body that keeps the tour. -/
theorem visits1_in (nf : Nat) (hnf : 1 ≤ nf) (l Bt n₀ : Nat) (n v0 home v2 frm to : Int) (a ar : Option Addr) (cap m cr : Nat) (zs ros : List Int) (J Jx : List (Fin m) → World → Prop)
    (hY : ∀ pre x W, J pre W → pre.length < m → YieldAt Fence.wide (nf - 1) Try.prog l #[.agg #[.int .i64 (og6 ros x.val 0), .int .i64 (og6 ros x.val 1), .int .i64 (og6 ros x.val 2), .int .i64 (og6 ros x.val 3), .int .i64 (og6 ros x.val 4), .int .i64 (og6 ros x.val 5)], .agg #[.int .i64 (og6 ros x.val 0), .int .i64 (arrV n zs ros home frm x.val), .int .i64 (startV n zs ros home frm x.val), .int .i64 (nowT n zs ros home frm (x.val + 1))]] W fun e W' =>
      (e = .returned (.bool true) ∧ J (pre ++ [x]) W' ∧ KpT n₀ Bt (.cells #[Value.int IntKind.i64 n, Value.slice a zs.length cap, Value.int IntKind.i64 v0, Value.int IntKind.i64 home, Value.int IntKind.i64 v2, Value.int IntKind.i64 frm, Value.int IntKind.i64 to, Value.slice ar m cr] 88 (0, 0)) W W') ∨ (e = .returned (.bool false) ∧ Jx (pre ++ [x]) W'))
    (w W : World) (hJA : AbidesFrom W.heap.size J) (hn₀ : w.heap.size ≤ n₀) (hwW : Below w.heap.size w W) (hT : W.heap[Bt]? = some (.cells #[Value.int IntKind.i64 n, Value.slice a zs.length cap, Value.int IntKind.i64 v0, Value.int IntKind.i64 home, Value.int IntKind.i64 v2, Value.int IntKind.i64 frm, Value.int IntKind.i64 to, Value.slice ar m cr] 88 (0, 0))) (hm : matB n zs = true) (hA : IntsAt w a zs) (hR : IntsAt w ar ros) (hl : ros.length = m * 6) (hbd : RosBd n ros m) (hh : 0 ≤ home ∧ home < n) (hf : 0 ≤ frm ∧ frm ≤ 1000000) (hm12 : m ≤ 12) (h0 : J [] W) :
    Calls Try.prog 78 #[.func (.yield l) #[] #[], .pointer (some ⟨Bt, 0, none⟩)] W fun e W' => (∃ v, e = .returned v) ∧
      ((∃ ys : List (Fin m), ys.map Fin.val = List.range m ∧ J ys W') ∨ (∃ pre : List (Fin m), (∃ k, k ≤ m ∧ pre.map Fin.val = List.range k) ∧ Jx pre W')) := by
  have HM : Hid (matB n zs = true) := hm
  have HA : Hid (IntsAt w a zs) := hA
  have HR : Hid (IntsAt w ar ros) := hR
  have HL : Hid (ros.length = m * 6) := hl
  have HBD : Hid (RosBd n ros m) := hbd
  have HH : Hid (0 ≤ home ∧ home < n) := hh
  have HF : Hid (0 ≤ frm ∧ frm ≤ 1000000) := hf
  have HY : Hid _ := hY
  have HJA : Hid (AbidesFrom W.heap.size J) := hJA
  have HB0 : Hid (Below w.heap.size w W) := hwW
  have HT0 : Hid (W.heap[Bt]? = _) := hT
  have HJ0 : Hid (J [] W) := h0
  clear hm hA hR hl hbd hh hf hY hJA hwW hT h0
  go_enter Try.func78, Try.ntmps78
  obtain ⟨t0, t1, t2, t3, t4, t5, t6, t7⟩ := cells8 HT0.out
  have u3 := fun s : Kin W => s.cell t3
  have u5 := fun s : Kin W => s.cell t5
  go_wp2_with fail
  have hkin := Kin.there W
  refine wp_region_kin (by kernel_rfl) (by kernel_rfl) ?_
  repeat (go_big_quiet_step ((fail)))
  refine wpQuiet_nil ?_
  rintro _ ⟨s, rfl⟩
  have HB1 : Hid (Below w.heap.size w s.w) := HB0.out.trans (s.below.mono HB0.out.size)
  have HT1 : Hid (s.w.heap[Bt]? = _) := below_row s.below (row_lt HT0.out) HT0.out
  have HJ1 : Hid (J [] s.w) := HJA.out _ _ _ none HJ0.out (grown_of s.below) (fun r e => by cases e)
  have HSZ : Hid (W.heap.size ≤ s.w.heap.size) := s.below.size
  clear t0 t1 t2 t3 t4 t5 t6 t7 u3 u5 HB0 HT0 HJ0 hkin
  generalize s.w = W1 at *
  obtain ⟨t0, t1, t2, t3, t4, t5, t6, t7⟩ := cells8 HT1.out
  go_wp2_with fail
  clear t0 t1 t2 t3 t4 t5 t6 t7
  go_loopw [3, 4, 18] (fun pl nw t wr => ∃ (k : Nat) (pre : List (Fin m)), k ≤ m ∧ t = .int .i64 k ∧ pl = .int .i64 (plc ros home k) ∧ nw = .int .i64 (nowT n zs ros home frm k) ∧ pre.map Fin.val = List.range k ∧ J pre wr ∧ Below w.heap.size w wr ∧ W.heap.size ≤ wr.heap.size ∧ wr.heap[Bt]? = some (.cells #[Value.int IntKind.i64 n, Value.slice a zs.length cap, Value.int IntKind.i64 v0, Value.int IntKind.i64 home, Value.int IntKind.i64 v2, Value.int IntKind.i64 frm, Value.int IntKind.i64 to, Value.slice ar m cr] 88 (0, 0))) (fun _ _ t _ => m - (intOf t).toNat)
  case atStart => exact ⟨0, [], Nat.zero_le _, rfl, rfl, rfl, rfl, HJ1.out, HB1.out, HSZ.out, HT1.out⟩
  case round =>
    clear HB1 HT1 HJ1 HSZ
    obtain ⟨k, pre, hk, rfl, rfl, rfl, hpre, hj, hb, hsz, ht⟩ := hrel
    have hpl := plc_bd HBD.out HH.out.1 HH.out.2 k hk
    have hnw := nowT_bd (home := home) HM.out HBD.out HF.out k hk
    have HPRE : Hid (pre.map Fin.val = List.range k) := hpre
    have HJ : Hid (J pre wr) := hj
    have HB : Hid (Below w.heap.size w wr) := hb
    have HSZ : Hid (W.heap.size ≤ wr.heap.size) := hsz
    have HT : Hid (wr.heap[Bt]? = _) := ht
    obtain ⟨t0, t1, t2, t3, t4, t5, t6, t7⟩ := cells8 ht
    obtain ⟨p, HPL⟩ : ∃ t, Hid (plc ros home k = t) := ⟨_, rfl⟩
    obtain ⟨f, HFR⟩ : ∃ t, Hid (nowT n zs ros home frm k = t) := ⟨_, rfl⟩
    rw [HPL.out] at hpl
    rw [HFR.out] at hnw
    rw [HPL.out, HFR.out]
    have HPB : Hid (0 ≤ p ∧ p < n) := hpl
    clear hpre hj hb hsz ht hpl
    by_cases hlt : k < m
    · obtain ⟨b, off, rfl, hcs⟩ := IntsAt.some (IntsAt.below HR.out HB.out) (j := k * 6) (by rw [HL.out]; omega)
      obtain ⟨r0, r1, r2, r3, r4, r5⟩ := row6_at hcs HL.out k hlt
      clear hcs
      obtain ⟨h1b, h2b, h3b, h4b, h5b⟩ := HBD.out k hlt
      have HO1 : Hid (0 ≤ og6 ros k 1 ∧ og6 ros k 1 < n) := h1b
      have hY1 := HY.out pre ⟨k, hlt⟩
      clear h1b h2b
      obtain ⟨o0, H0⟩ : ∃ t, Hid (og6 ros k 0 = t) := ⟨_, rfl⟩
      obtain ⟨o1, H1⟩ : ∃ t, Hid (og6 ros k 1 = t) := ⟨_, rfl⟩
      obtain ⟨o2, H2⟩ : ∃ t, Hid (og6 ros k 2 = t) := ⟨_, rfl⟩
      obtain ⟨o3, H3⟩ : ∃ t, Hid (og6 ros k 3 = t) := ⟨_, rfl⟩
      obtain ⟨o4, H4⟩ : ∃ t, Hid (og6 ros k 4 = t) := ⟨_, rfl⟩
      obtain ⟨o5, H5⟩ : ∃ t, Hid (og6 ros k 5 = t) := ⟨_, rfl⟩
      rw [H3.out] at h3b
      rw [H4.out] at h4b
      rw [H5.out] at h5b
      rw [H1.out] at HO1
      rw [H0.out] at r0
      rw [H1.out] at r1
      rw [H2.out] at r2
      rw [H3.out] at r3
      rw [H4.out] at r4
      rw [H5.out] at r5
      obtain ⟨d, HD⟩ : ∃ t, Hid (tmI n zs p o1 = t) := ⟨_, rfl⟩
      have hdb := tmI_bd HM.out p o1
      rw [HD.out] at hdb
      have HAR : Hid (arrV n zs ros home frm k = f + d) := by
        show _ = _
        unfold arrV
        rw [HFR.out, HPL.out, H1.out, HD.out]
      have HSTV : Hid (startV n zs ros home frm k = max (f + d) o3) := by
        show _ = _
        unfold startV
        rw [HAR.out, H3.out]
      have HNX : Hid (nowT n zs ros home frm (k + 1) = max (f + d) o3 + o5) := by
        show _ = _
        rw [nowT_succ, HSTV.out, H5.out]
      obtain ⟨mx, HMX⟩ : ∃ t, Hid (max (f + d) o3 = t) := ⟨_, rfl⟩
      rw [HMX.out] at HSTV HNX
      have hmb : 0 ≤ mx ∧ mx ≤ 3000000 := by
        have := HMX.out
        omega
      dsimp only at hY1
      rw [H0.out, H1.out, H2.out, H3.out, H4.out, H5.out, HAR.out, HSTV.out, HNX.out] at hY1
      have HY1 : Hid (∀ W, J pre W → pre.length < m → YieldAt Fence.wide (nf - 1) Try.prog l #[.agg #[.int .i64 o0, .int .i64 o1, .int .i64 o2, .int .i64 o3, .int .i64 o4, .int .i64 o5], .agg #[.int .i64 o0, .int .i64 (f + d), .int .i64 mx, .int .i64 (mx + o5)]] W _) := hY1
      clear hY1
      have HBA : Hid (Below w.heap.size w (wr.alloc (Obj.cells #[Value.int IntKind.i64 o0, Value.int IntKind.i64 o1, Value.int IntKind.i64 o2, Value.int IntKind.i64 o3, Value.int IntKind.i64 o4, Value.int IntKind.i64 o5] 78))) := HB.out.alloc HB.out.size _
      have HTA : Hid ((wr.alloc (Obj.cells #[Value.int IntKind.i64 o0, Value.int IntKind.i64 o1, Value.int IntKind.i64 o2, Value.int IntKind.i64 o3, Value.int IntKind.i64 o4, Value.int IntKind.i64 o5] 78)).heap[Bt]? = _) := (heap_alloc_old _ _ (row_lt HT.out)).trans HT.out
      have HRO : Hid ((wr.alloc (Obj.cells #[Value.int IntKind.i64 o0, Value.int IntKind.i64 o1, Value.int IntKind.i64 o2, Value.int IntKind.i64 o3, Value.int IntKind.i64 o4, Value.int IntKind.i64 o5] 78)).heap[wr.heap.size]? = _) := heap_alloc_new _ _
      have HJA2 : Hid (J pre (wr.alloc (Obj.cells #[Value.int IntKind.i64 o0, Value.int IntKind.i64 o1, Value.int IntKind.i64 o2, Value.int IntKind.i64 o3, Value.int IntKind.i64 o4, Value.int IntKind.i64 o5] 78))) := HJA.out _ _ _ none HJ.out (World.grownBy_alloc wr _ none) (fun r e => by cases e)
      have HSA : Hid (W.heap.size ≤ (wr.alloc (Obj.cells #[Value.int IntKind.i64 o0, Value.int IntKind.i64 o1, Value.int IntKind.i64 o2, Value.int IntKind.i64 o3, Value.int IntKind.i64 o4, Value.int IntKind.i64 o5] 78)).heap.size) := Nat.le_trans HSZ.out (by simp)
      obtain ⟨i0, i1, i2, i3, i4, i5⟩ := cells6 HRO.out
      obtain ⟨s0, s1, s2, s3, s4, s5, s6, s7⟩ := cells8 HTA.out
      go_wp2_with fail
      clear r0 r1 r2 r3 r4 r5 t0 t1 t2 t3 t4 t5 t6 t7 i0 i1 i2 i3 i4 i5 s0 s1 s2 s3 s4 s5 s6 s7
      generalize wr.alloc (Obj.cells #[Value.int IntKind.i64 o0, Value.int IntKind.i64 o1, Value.int IntKind.i64 o2, Value.int IntKind.i64 o3, Value.int IntKind.i64 o4, Value.int IntKind.i64 o5] 78) = W2 at *
      generalize wr.heap.size = g at *
      refine (drive_is n p o1 v0 home v2 frm to _ _ _ _ _ zs _ d HD.out HM.out HPB.out HO1.out (HA.out.below HBA.out)).mono ?_
      rintro e W3 ⟨rfl, hb3⟩
      have HB3 : Hid (Below w.heap.size w W3) := HBA.out.trans (hb3.mono HBA.out.size)
      have HT3 : Hid (W3.heap[Bt]? = _) := below_row hb3 (row_lt HTA.out) HTA.out
      have HR3 : Hid (W3.heap[g]? = _) := below_row hb3 (row_lt HRO.out) HRO.out
      have HJ3 : Hid (J pre W3) := HJA.out _ _ _ none HJA2.out (grown_of hb3) (fun r e => by cases e)
      have HS3 : Hid (W.heap.size ≤ W3.heap.size) := Nat.le_trans HSA.out hb3.size
      clear hb3 HBA HTA HRO HJA2 HSA
      obtain ⟨i0, i1, i2, i3, i4, i5⟩ := cells6 HR3.out
      have hor : (f + d < o3 ∧ mx = o3) ∨ (o3 ≤ f + d ∧ mx = f + d) := by
        have := HMX.out
        omega
      rcases hor with ⟨hmx, rfl⟩ | ⟨hmx, rfl⟩
      all_goals
        clear HMX
        go_wp2_with fail
        have e1 := fun s : Kin W3 => s.cell i1
        have e5 := fun s : Kin W3 => s.cell i5
        have hkin := Kin.there W3
        refine wp_region_kin (by kernel_rfl) (by kernel_rfl) ?_
        repeat (go_big_quiet_step ((fail)))
        refine wpQuiet_nil ?_
        rintro _ ⟨s2, rfl⟩
        have HB4 : Hid (Below w.heap.size w s2.w) := HB3.out.trans (s2.below.mono HB3.out.size)
        have HT4 : Hid (s2.w.heap[Bt]? = _) := below_row s2.below (row_lt HT3.out) HT3.out
        have HR4 : Hid (s2.w.heap[g]? = _) := below_row s2.below (row_lt HR3.out) HR3.out
        have HJ4 : Hid (J pre s2.w) := HJA.out _ _ _ none HJ3.out (grown_of s2.below) (fun r e => by cases e)
        have HS4 : Hid (W.heap.size ≤ s2.w.heap.size) := Nat.le_trans HS3.out s2.below.size
        clear i0 i1 i2 i3 i4 i5 e1 e5 hkin HB3 HT3 HR3 HJ3 HS3
        generalize s2.w = W4 at *
        obtain ⟨i0, i1, i2, i3, i4, i5⟩ := cells6 HR4.out
        have hpl : pre.length < m := by
          have := congrArg List.length HPRE.out
          simp at this
          omega
        go_upto_region 7 with (fail)
        refine (wpIn_wide (n := nf)).1 ?_
        obtain ⟨fn, tmps, assign, body, hy, hR⟩ := HY1.out W4 HJ4.out hpl
        have HRND : Hid (RoundIn Fence.wide (nf - 1) Try.prog l fn tmps assign body W4 _) := hR
        clear hR
        gi_wp2
        refine HRND.out.mono ?_
        rintro e W5 (⟨rfl, hJ5, hk5⟩ | ⟨rfl, hJx5⟩)
        · have HJ5 : Hid (J (pre ++ [⟨k, hlt⟩]) W5) := hJ5
          have HB5 : Hid (Below w.heap.size w W5) := HB4.out.trans (hk5.1.mono hn₀)
          have HT5 : Hid (W5.heap[Bt]? = _) := hk5.2 HT4.out
          have HS5 : Hid (W.heap.size ≤ W5.heap.size) := Nat.le_trans HS4.out hk5.1.size
          have HPRE5 : Hid ((pre ++ [(⟨k, hlt⟩ : Fin m)]).map Fin.val = List.range (k + 1)) := by
            show _ = _
            rw [List.map_append, HPRE.out, List.range_succ]
            rfl
          clear hJ5 hk5 hy HRND
          gi_wp2
          go_wp2
          go_roundw
          case rel => exact ⟨k + 1, _, by omega, by go_num, by rw [← H1.out]; rfl, by rw [HNX.out], HPRE5.out, HJ5.out, HB5.out, HS5.out, HT5.out⟩
          case measure => simp [intOf]; omega
        · have HJx5 : Hid (Jx (pre ++ [⟨k, hlt⟩]) W5) := hJx5
          have HPRE5 : Hid ((pre ++ [(⟨k, hlt⟩ : Fin m)]).map Fin.val = List.range (k + 1)) := by
            show _ = _
            rw [List.map_append, HPRE.out, List.range_succ]
            rfl
          clear hJx5 hy HRND
          gi_wp2
          go_wp2
          refine bodyPost_ret (results_none rfl _ _ _) rfl ?_
          exact ⟨⟨_, rfl⟩, .inr ⟨_, ⟨k + 1, hlt, HPRE5.out⟩, HJx5.out⟩⟩
    · obtain rfl : k = m := by omega
      go_wp2
      go_end0
      exact ⟨⟨_, rfl⟩, .inl ⟨_, HPRE.out, HJ.out⟩⟩

end Go.Proofs.Ytfcplmageokdiae
