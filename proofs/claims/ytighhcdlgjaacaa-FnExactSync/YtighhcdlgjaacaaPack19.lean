import Derived.Test.YtighhcdlgjaacaaPack1
import Derived.Test.YtighhcdlgjaacaaPack3
namespace Go.Proofs.Ytighhcdlgjaacaa
open Go.RowKit

theorem nmB_in (s : ByteArray) : inB (s.size : Int) 1 100 = nmB s := by
  unfold inB nmB
  congr 1
  exact propext ⟨fun h => by omega, fun h => by omega⟩
theorem isFileName_any (s : ByteArray) (w : World) :
    Calls Try.prog 62 #[.string s] w fun e w' => e = .returned (.bool (nmB s)) ∧ w' = w := by
  have WI : Hid (Calls Try.prog 76 #[.int .i64 (s.size : Int), .int .i64 1, .int .i64 100] w fun e w' => e = .returned (.bool (nmB s)) ∧ w' = w) := by
    have := within_any (s.size : Int) 1 100 w
    rw [nmB_in] at this
    exact this
  generalize nmB s = b at *
  go_enter Try.func62, Try.ntmps62
  go_wp2_with fail
  refine WI.out.mono ?_
  rintro e w' ⟨rfl, hw⟩
  subst hw
  go_wp2
  go_ret
  exact ⟨rfl, rfl⟩
/-- The name ahead of a place. -/
def lastN (F : List FI) (i : Nat) : ByteArray := if i = 0 then ⟨#[]⟩ else (F.getD (i - 1) fi0).1
theorem emp_lt {s : ByteArray} (h : nmB s = true) : ltT ⟨#[]⟩ s = true := by
  have h1 : 1 ≤ s.size := by
    unfold nmB at h
    have := of_decide_eq_true h
    omega
  unfold ltT
  rw [show (ByteArray.mk #[]).toList = [] by rw [ByteArray.toList_eq]]
  cases hq : s.toList with
  | nil =>
    rw [ByteArray.toList_eq] at hq
    have : s.size = 0 := by
      have h2 : s.data.toList.length = s.size := Array.length_toList
      rw [hq] at h2
      simpa using h2.symm
    omega
  | cons a l => rfl
theorem stpB_last (F : List FI) (i : Nat) (h : nmB (F.getD i fi0).1 = true) : stpB F i = ltT (lastN F i) (F.getD i fi0).1 := by
  unfold stpB lastN
  rw [h, Bool.true_and]
  by_cases e : i = 0
  · rw [if_pos e, decide_eq_true e, emp_lt h]; rfl
  · rw [if_neg e, decide_eq_false e]; rfl

set_option maxHeartbeats 2000000 in
theorem filesOk_any (a : Option Addr) (c : Nat) (F : List FI) (w : World) (hF : FilesAt w a F) (hn : F.length ≤ 1048576) (ht : totTo F F.length ≤ 1000000000) (hnm : ∀ j, j < F.length → (F.getD j fi0).1.size ≤ 1000000000) :
    Calls Try.prog 39 #[.slice a F.length c] w fun e w' => e = .returned (.bool (filB F)) ∧ Below w.heap.size w w' := by
  have HF : Hid (FilesAt w a F) := hF
  have HNM : Hid (∀ j, j < F.length → (F.getD j fi0).1.size ≤ 1000000000) := hnm
  clear hF hnm
  obtain ⟨r, HR⟩ : ∃ r, Hid (filB F = r) := ⟨_, rfl⟩
  rw [HR.out]
  obtain ⟨n, HN⟩ : ∃ n, Hid (F.length = n) := ⟨_, rfl⟩
  rw [HN.out] at hn ht ⊢
  by_cases h60 : 60 < n
  · have h60' : (60 : Int) < n := by omega
    have hr : r = false := by rw [← HR.out]; exact filB_long (by rw [HN.out]; exact h60)
    subst hr
    go_enter Try.func39, Try.ntmps39
    go_wp2
    go_ret
    exact ⟨rfl, Below.refl _ _⟩
  have h60' : ¬ ((60 : Int) < n) := by omega
  go_enter Try.func39, Try.ntmps39
  go_wp2_with fail
  go_loopw [3, 4, 12] (fun tl tn ti wr => ∃ i : Nat, i ≤ n ∧ ti = .int .i64 i ∧ tn = .int .i64 (totTo F i : Nat) ∧ tl = .string (lastN F i) ∧ filTo F i = true ∧ totTo F i ≤ 200000 ∧ Below w.heap.size w wr) (fun _ _ ti _ => n - (intOf ti).toNat)
  case atStart => exact ⟨0, Nat.zero_le _, rfl, rfl, rfl, rfl, Nat.zero_le _, Below.refl _ _⟩
  case round =>
    obtain ⟨i, hi, rfl, rfl, rfl, hfi, ht2, hb⟩ := hrel
    have HFI : Hid (filTo F i = true) := hfi
    have B1 : Hid (Below w.heap.size w wr) := hb
    clear hfi hb
    by_cases hlt : i < n
    · have hin : (i : Int) < n := by omega
      have hiF : i < F.length := by rw [HN.out]; exact hlt
      obtain ⟨b, off, e, c1, c2⟩ := (HF.out.below B1.out) i hiF
      subst e
      have ht1 : totTo F (i + 1) ≤ 1000000000 := Nat.le_trans (totTo_le F hlt) ht
      have hsz := HNM.out i hiF
      have HT1 : Hid (totTo F (i + 1) = totTo F i + (F.getD i fi0).2.size) := rfl
      rw [HT1.out] at ht1
      have HBIG : Hid (200000 < totTo F i + (F.getD i fi0).2.size → r = false) := fun h => by rw [← HR.out]; exact filB_tot (k := i + 1) hiF (by rw [HT1.out]; exact h)
      have HST : Hid (filTo F (i + 1) = stpB F i) := by show _ = _; rw [filTo, HFI.out]; rfl
      have HNO : Hid (stpB F i = false → r = false) := fun h => by rw [← HR.out]; exact filB_step hiF h
      have HNN : Hid (nmB (F.getD i fi0).1 = false → stpB F i = false) := fun h => by unfold stpB; rw [h]; rfl
      have HLT : Hid (nmB (F.getD i fi0).1 = true → stpB F i = ltT (lastN F i) (F.getD i fi0).1) := stpB_last F i
      have HLN : Hid (lastN F (i + 1) = (F.getD i fi0).1) := by show _ = _; unfold lastN; rw [if_neg (by omega)]; rfl
      obtain ⟨l, HL⟩ : ∃ l, Hid (lastN F i = l) := ⟨_, rfl⟩
      rw [HL.out] at HLT ⊢
      generalize F.getD i fi0 = f at *
      obtain ⟨x, y⟩ := f
      simp only at c1 c2 hsz ht1 HT1 HNN HLT HLN HBIG
      have IN : Hid (∀ W b, nmB x = b → Calls Try.prog 62 #[.string x] W fun e w' => e = .returned (.bool b) ∧ w' = W) := fun W b hb => by
        have := isFileName_any x W
        rw [hb] at this
        exact this
      have R2 : Hid ((wr.alloc (.cells #[.string x, .string y] 72)).heap[wr.heap.size]? = some (.cells #[.string x, .string y] 72 (0, 0))) := heap_alloc_new _ _
      obtain ⟨k0, k1⟩ := cells2 R2.out
      have B2 : Hid (Below w.heap.size w (wr.alloc (.cells #[.string x, .string y] 72))) := B1.out.alloc B1.out.size _
      generalize totTo F i = t at *
      cases hnm : nmB x
      · have hr : r = false := HNO.out (HNN.out hnm)
        subst hr
        go_wp2_with (first
          | (go_at_call 62
             with_reducible refine (IN.out _ _ hnm).mono ?_
             rintro e w' ⟨rfl, hw⟩
             subst hw))
        go_ret
        exact ⟨rfl, B2.out⟩
      · cases hl2 : ltT l x
        · have hr : r = false := HNO.out ((HLT.out hnm).trans hl2)
          subst hr
          have hle : (Op.bytesLess x.toList l.toList || x.toList == l.toList) = true := by
            cases hq : ltT x l
            · rw [str_eq (ltT_tri hq hl2), Bool.or_true]
            · unfold ltT at hq
              rw [hq, Bool.true_or]
          clear hl2 HLT HST HNO
          go_wp2_with (first
            | (go_at_call 62
               with_reducible refine (IN.out _ _ hnm).mono ?_
               rintro e w' ⟨rfl, hw⟩
               subst hw))
          go_ret
          exact ⟨rfl, B2.out⟩
        · have HY : Hid (filTo F (i + 1) = true) := HST.out.trans ((HLT.out hnm).trans hl2)
          have hle : (Op.bytesLess x.toList l.toList || x.toList == l.toList) = false := by
            have h1 := ltT_asym hl2
            unfold ltT at h1
            rw [h1, str_ne (fun e => ltT_ne hl2 e.symm)]
            rfl
          clear hl2 HLT HST HNO
          by_cases hbig : 200000 < t + y.size
          · have hr : r = false := HBIG.out hbig
            subst hr
            have hbg : (200000 : Int) < (t : Int) + y.size := by omega
            go_wp2_with (first
              | (go_at_call 62
                 with_reducible refine (IN.out _ _ hnm).mono ?_
                 rintro e w' ⟨rfl, hw⟩
                 subst hw))
            go_ret
            exact ⟨rfl, B2.out⟩
          · have hbg : ¬ ((200000 : Int) < (t : Int) + y.size) := by omega
            go_wp2_with (first
              | (go_at_call 62
                 with_reducible refine (IN.out _ _ hnm).mono ?_
                 rintro e w' ⟨rfl, hw⟩
                 subst hw))
            go_roundw
            case rel => exact ⟨i + 1, by omega, by first | rfl | go_num, by rw [HT1.out]; first | rfl | go_num, by rw [HLN.out], HY.out, by rw [HT1.out]; omega, B2.out⟩
            case measure => simp [intOf]; omega
    · have hin : i = n := by omega
      subst hin
      have hr : r = true := by
        rw [← HR.out, filB_end (by rw [HN.out]; omega) (by rw [HN.out]; exact HFI.out), HN.out]
        exact decide_eq_true ht2
      subst hr
      generalize totTo F i = t at *
      go_wp2
      go_ret
      exact ⟨rfl, B1.out⟩

end Go.Proofs.Ytighhcdlgjaacaa

namespace Go.Proofs.Ytighhcdlgjaacaa
open Go.RowKit

/-- What does an op of its form. -/
def deedV (o : OP) : Value :=
  if o.k = 1 then .iface 104 (.agg #[.string o.n, .string o.d]) else if o.k = 2 then .iface 106 (.agg #[.string o.n, .string o.t]) else .iface 108 (.agg #[.string o.n])
/-- What deedOf looks at first. -/
def preB (o : OP) : Bool := nmB o.n && ((decide (o.k = 2) || decide (o.t = ⟨#[]⟩)) && (decide (o.k = 1) || decide (o.d = ⟨#[]⟩)))
theorem frm_pre {o : OP} (h : preB o = false) : frmB o = false := by
  unfold preB at h
  unfold frmB
  cases hn : nmB o.n
  · simp
  · rw [hn, Bool.true_and] at h
    by_cases h2 : o.k = 2
    · rw [if_pos h2]
      rw [decide_eq_true h2, Bool.true_or, Bool.true_and, decide_eq_false (by omega), Bool.false_or] at h
      rw [h]
      simp
    · rw [if_neg h2]
      rw [decide_eq_false h2, Bool.false_or] at h
      rw [h]
      simp
theorem frm_one {o : OP} (h : preB o = true) (hk : o.k = 1) : frmB o = true := by
  unfold preB at h
  unfold frmB
  simp only [Bool.and_eq_true, Bool.or_eq_true, decide_eq_true_eq] at h ⊢
  rw [if_neg (by omega)]
  simp only [Bool.and_eq_true, Bool.or_eq_true, decide_eq_true_eq]
  exact ⟨by omega, h.1, by rcases h.2.1 with h1 | h1; omega; exact h1, .inl hk⟩
theorem frm_two {o : OP} (h : preB o = true) (hk : o.k = 2) : frmB o = nmB o.t := by
  unfold preB at h
  unfold frmB
  simp only [Bool.and_eq_true, Bool.or_eq_true, decide_eq_true_eq] at h
  rw [if_pos hk, h.1, decide_eq_true (by omega : 1 ≤ o.k ∧ o.k ≤ 3), decide_eq_true (by rcases h.2.2 with h1 | h1; omega; exact h1)]
  simp
theorem frm_three {o : OP} (h : preB o = true) (hk : o.k = 3) : frmB o = true := by
  unfold preB at h
  unfold frmB
  simp only [Bool.and_eq_true, Bool.or_eq_true, decide_eq_true_eq] at h ⊢
  rw [if_neg (by omega)]
  simp only [Bool.and_eq_true, Bool.or_eq_true, decide_eq_true_eq]
  exact ⟨by omega, h.1, by rcases h.2.1 with h1 | h1; omega; exact h1, by rcases h.2.2 with h1 | h1; omega; exact .inr h1⟩
theorem frm_none {o : OP} (h1 : o.k ≠ 1) (h2 : o.k ≠ 2) (h3 : o.k ≠ 3) : frmB o = false := by
  unfold frmB
  rw [decide_eq_false (by omega)]
  rfl

set_option maxHeartbeats 4000000 in
theorem deedOf_any (o : OP) (w : World) :
    Calls Try.prog 64 #[.agg #[.int .i64 o.k, .string o.n, .string o.t, .string o.d]] w fun e w' => ∃ v, e = .returned (.tuple #[v, .bool (frmB o)]) ∧ (frmB o = true → v = deedV o) ∧ Below w.heap.size w w' := by
  have HP1 : Hid (preB o = false → frmB o = false) := frm_pre
  have HP2 : Hid (preB o = true → o.k = 1 → frmB o = true) := frm_one
  have HP3 : Hid (preB o = true → o.k = 2 → frmB o = nmB o.t) := frm_two
  have HP4 : Hid (preB o = true → o.k = 3 → frmB o = true) := frm_three
  have HP5 : Hid (o.k ≠ 1 → o.k ≠ 2 → o.k ≠ 3 → frmB o = false) := frm_none
  have HV1 : Hid (o.k = 1 → deedV o = .iface 104 (.agg #[.string o.n, .string o.d])) := fun h => by unfold deedV; rw [if_pos h]
  have HV2 : Hid (o.k = 2 → deedV o = .iface 106 (.agg #[.string o.n, .string o.t])) := fun h => by unfold deedV; rw [if_neg (by omega), if_pos h]
  have HV3 : Hid (o.k = 3 → deedV o = .iface 108 (.agg #[.string o.n])) := fun h => by unfold deedV; rw [if_neg (by omega), if_neg (by omega)]
  have HPD : Hid (preB o = (nmB o.n && ((decide (o.k = 2) || decide (o.t = ⟨#[]⟩)) && (decide (o.k = 1) || decide (o.d = ⟨#[]⟩))))) := rfl
  obtain ⟨dv, HDV⟩ : ∃ v, Hid (deedV o = v) := ⟨_, rfl⟩
  rw [HDV.out] at HV1 HV2 HV3 ⊢
  obtain ⟨r, HR⟩ : ∃ r, Hid (frmB o = r) := ⟨_, rfl⟩
  rw [HR.out] at HP1 HP2 HP3 HP4 HP5 ⊢
  obtain ⟨p, HPB⟩ : ∃ r, Hid (preB o = r) := ⟨_, rfl⟩
  rw [HPB.out] at HP1 HP2 HP3 HP4 HPD
  clear HDV HR HPB
  obtain ⟨k, n, t, d⟩ := o
  simp only at HP1 HP2 HP3 HP4 HP5 HV1 HV2 HV3 HPD ⊢
  have B0 : Hid (Below w.heap.size w (w.alloc (.cells #[.int .i64 k, .string n, .string t, .string d] 40))) := (Below.refl _ _).alloc (Nat.le_refl _) _
  have hr : (w.alloc (.cells #[.int .i64 k, .string n, .string t, .string d] 40)).heap[w.heap.size]? = some (.cells #[.int .i64 k, .string n, .string t, .string d] 40 (0, 0)) := heap_alloc_new _ _
  obtain ⟨c0, c1, c2, c3⟩ := cells4 hr
  clear hr
  have IN : Hid (∀ W x b, nmB x = b → Calls Try.prog 62 #[.string x] W fun e w' => e = .returned (.bool b) ∧ w' = W) := fun W x b hb => by
    have := isFileName_any x W
    rw [hb] at this
    exact this
  have ed := emp_eq d
  have et := emp_eq t
  -- CASES
  cases hn : nmB n
  · skip
    have hrr : r = false := HP1.out (by rw [HPD.out, hn]; rfl)
    subst hrr
    go_enter Try.func64, Try.ntmps64
    go_wp2_with (first
      | (go_at_call 62; with_reducible refine (IN.out _ n _ hn).mono ?_; rintro e w' ⟨rfl, hw⟩; subst hw))
    go_ret2
    exact ⟨_, rfl, fun h => (by cases h), B0.out⟩
  · by_cases k1 : k = 1
    · subst k1
      cases ht : decide (t = ⟨#[]⟩)
      · rw [ht] at et
        have hrr : r = false := HP1.out (by rw [HPD.out, hn, ht]; rfl)
        subst hrr
        go_enter Try.func64, Try.ntmps64
        go_wp2_with (first
          | (go_at_call 62; with_reducible refine (IN.out _ n _ hn).mono ?_; rintro e w' ⟨rfl, hw⟩; subst hw))
        go_ret2
        exact ⟨_, rfl, fun h => (by cases h), B0.out⟩
      · rw [ht] at et
        have hp : p = true := by rw [HPD.out, hn, ht]; rfl
        have hrr : r = true := HP2.out hp rfl
        have hv := HV1.out rfl
        subst hrr hv
        go_enter Try.func64, Try.ntmps64
        go_wp2_with (first
          | (go_at_call 62; with_reducible refine (IN.out _ n _ hn).mono ?_; rintro e w' ⟨rfl, hw⟩; subst hw))
        go_ret2
        exact ⟨_, rfl, fun _ => rfl, B0.out⟩
    · by_cases k2 : k = 2
      · subst k2
        cases hd : decide (d = ⟨#[]⟩)
        · rw [hd] at ed
          have hrr : r = false := HP1.out (by rw [HPD.out, hn, hd]; rfl)
          subst hrr
          go_enter Try.func64, Try.ntmps64
          go_wp2_with (first
            | (go_at_call 62; with_reducible refine (IN.out _ n _ hn).mono ?_; rintro e w' ⟨rfl, hw⟩; subst hw))
          go_ret2
          exact ⟨_, rfl, fun h => (by cases h), B0.out⟩
        · rw [hd] at ed
          have hp : p = true := by rw [HPD.out, hn, hd]; rfl
          have hrr : r = nmB t := HP3.out hp rfl
          have hv := HV2.out rfl
          subst hrr hv
          obtain ⟨b, hb⟩ : ∃ b, nmB t = b := ⟨_, rfl⟩
          rw [hb]
          have hkin := Kin.there (w.alloc (.cells #[.int .i64 2, .string n, .string t, .string d] 40))
          have z1 := fun s : Kin (w.alloc (.cells #[.int .i64 2, .string n, .string t, .string d] 40)) => s.cell c1
          have z2 := fun s : Kin (w.alloc (.cells #[.int .i64 2, .string n, .string t, .string d] 40)) => s.cell c2
          go_enter Try.func64, Try.ntmps64
          go_wp2_with (first
            | (go_at_call 62; with_reducible refine (IN.out _ n _ hn).mono ?_; rintro e w' ⟨rfl, hw⟩; subst hw))
          refine wp_region_kin (by kernel_rfl) (by kernel_rfl) ?_
          repeat (go_big_quiet_step ((go_at_call 62; with_reducible exact Kin.call_same (IN.out _ t _ hb))))
          refine wpQuiet_nil ?_
          rintro _ ⟨s1, rfl⟩
          clear z1 z2 hkin
          have B1 : Hid (Below w.heap.size w s1.w) := B0.out.trans (s1.below.mono B0.out.size)
          go_wp2
          go_ret2
          exact ⟨_, rfl, fun _ => rfl, B1.out⟩
      · have k1b : (k == 1) = false := by simp [k1]
        have k2b : (k == 2) = false := by simp [k2]
        have dk1 : decide (k = 1) = false := decide_eq_false k1
        have dk2 : decide (k = 2) = false := decide_eq_false k2
        cases ht : decide (t = ⟨#[]⟩)
        · rw [ht] at et
          have hrr : r = false := HP1.out (by rw [HPD.out, hn, dk2, ht]; rfl)
          subst hrr
          go_enter Try.func64, Try.ntmps64
          go_wp2_with (first
            | (go_at_call 62; with_reducible refine (IN.out _ n _ hn).mono ?_; rintro e w' ⟨rfl, hw⟩; subst hw))
          go_ret2
          exact ⟨_, rfl, fun h => (by cases h), B0.out⟩
        · rw [ht] at et
          cases hd : decide (d = ⟨#[]⟩)
          · rw [hd] at ed
            have hrr : r = false := HP1.out (by rw [HPD.out, hn, dk2, ht, dk1, hd]; rfl)
            subst hrr
            go_enter Try.func64, Try.ntmps64
            go_wp2_with (first
              | (go_at_call 62; with_reducible refine (IN.out _ n _ hn).mono ?_; rintro e w' ⟨rfl, hw⟩; subst hw))
            go_ret2
            exact ⟨_, rfl, fun h => (by cases h), B0.out⟩
          · rw [hd] at ed
            have hp : p = true := by rw [HPD.out, hn, dk2, ht, dk1, hd]; rfl
            by_cases k3 : k = 3
            · subst k3
              have hrr : r = true := HP4.out hp rfl
              have hv := HV3.out rfl
              subst hrr hv
              go_enter Try.func64, Try.ntmps64
              go_wp2_with (first
                | (go_at_call 62; with_reducible refine (IN.out _ n _ hn).mono ?_; rintro e w' ⟨rfl, hw⟩; subst hw))
              go_ret2
              exact ⟨_, rfl, fun _ => rfl, B0.out⟩
            · have k3b : (k == 3) = false := by simp [k3]
              have hrr : r = false := HP5.out k1 k2 k3
              subst hrr
              go_enter Try.func64, Try.ntmps64
              go_wp2_with (first
                | (go_at_call 62; with_reducible refine (IN.out _ n _ hn).mono ?_; rintro e w' ⟨rfl, hw⟩; subst hw))
              go_ret2
              exact ⟨_, rfl, fun h => (by cases h), B0.out⟩

end Go.Proofs.Ytighhcdlgjaacaa
