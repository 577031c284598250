import Derived.Test.YtonopidjkcmlmaaPack2
import Derived.Test.YtonopidjkcmlmaaPack5
namespace Go.Proofs.Ytonopidjkcmlmaa
open Go.RowKit

/-- What is left behind the sizes of a plan's routes; of a plan. -/
def szRS (R : List RT) (left : Int) : Int := if left < (R.length : Int) then -1 else szR R (left - R.length) R.length
def szPl (R : List RT) (ln : Nat) (left : Int) : Int := if szRS R left < 0 then -1 else if szRS R left < (ln : Int) then -1 else szRS R left - ln
theorem szR_neg (R : List RT) (left : Int) {k : Nat} (h : szR R left k = -1) : szR R left (k + 1) = -1 := by
  have e : szR R left (k + 1) = if szR R left k < 0 then -1 else if szR R left k < ((R.getD k rt0).ids.length : Int) then -1 else szR R left k - (R.getD k rt0).ids.length := rfl
  rw [e, h, if_pos (by omega)]
theorem szR_stuck (R : List RT) (left : Int) (k : Nat) (h : szR R left k = -1) : ∀ m, szR R left (k + m) = -1
  | 0 => h
  | m + 1 => szR_neg R left (szR_stuck R left k h m)
theorem szR_down (R : List RT) (left : Int) {k n : Nat} (h : k ≤ n) (hk : szR R left k = -1) : szR R left n = -1 ∨ k = n := by
  rcases Nat.lt_or_ge k n with h' | h'
  · left
    have := szR_stuck R left k hk (n - k)
    rwa [show k + (n - k) = n by omega] at this
  · exact .inr (by omega)

set_option maxHeartbeats 1000000 in
theorem szRouteS_any (ra : Option Addr) (rc : Nat) (R : List RT) (left : Int) (w : World) (hA : RoutesAt w ra R) (h0 : 0 ≤ left) (h1 : left ≤ 1048576) (hn : R.length ≤ 9223372036854775807) (hi : ∀ r ∈ R, r.ids.length ≤ 9223372036854775807) :
    Calls Try.prog 51 #[.slice ra R.length rc, .int .i64 left] w fun e w' => e = .returned (.int .i64 (szRS R left)) ∧ Below w.heap.size w w' := by
  have HA : Hid (RoutesAt w ra R) := hA
  have HI : Hid (∀ r ∈ R, r.ids.length ≤ 9223372036854775807) := hi
  clear hA hi
  obtain ⟨n, HN⟩ : ∃ n, Hid (R.length = n) := ⟨_, rfl⟩
  rw [HN.out] at hn ⊢
  by_cases hl : left < n
  · have HS : Hid (szRS R left = -1) := by show _ = _; unfold szRS; rw [HN.out, if_pos hl]
    have hl2 : left - (n : Int) < 0 := by omega
    go_enter Try.func51, Try.ntmps51
    go_wp2
    go_ret
    exact ⟨by rw [HS.out]; rfl, Below.refl _ _⟩
  · obtain ⟨l0, HL0⟩ : ∃ l, Hid (left - (n : Int) = l) := ⟨_, rfl⟩
    have HS : Hid (szRS R left = szR R l0 n) := by show _ = _; unfold szRS; rw [HN.out, if_neg hl, HL0.out]
    have hl0 : 0 ≤ l0 ∧ l0 ≤ 1048576 := by have := HL0.out; omega
    have hl0e := HL0.out
    have hw1 : IntKind.i64.wrap (left - (n : Int)) = l0 := by rw [hl0e]; exact IntWalk.i64_in _ (by omega)
    have hn0 : ¬ (l0 < 0) := by omega
    go_enter Try.func51, Try.ntmps51
    go_wp2_with fail
    clear hw1 hl0e
    go_loopw [1, 5] (fun tl ti wr => ∃ k : Nat, k ≤ n ∧ ti = .int .i64 k ∧ tl = .int .i64 (szR R l0 k) ∧ 0 ≤ szR R l0 k ∧ Below w.heap.size w wr) (fun _ ti _ => n - (intOf ti).toNat)
    case atStart => exact ⟨0, Nat.zero_le _, rfl, rfl, hl0.1, Below.refl _ _⟩
    case round =>
      obtain ⟨k, hk, rfl, rfl, hs0, hb⟩ := hrel
      have B1 : Hid (Below w.heap.size w wr) := hb
      clear hb
      have hsl := (szR_le R l0 hl0.1 k).1
      have HNX : Hid (szR R l0 (k + 1) = if szR R l0 k < ((R.getD k rt0).ids.length : Int) then -1 else szR R l0 k - (R.getD k rt0).ids.length) := by
        show _ = _
        simp only [szR]
        rw [if_neg (by omega)]
      obtain ⟨s, HSK⟩ : ∃ s, Hid (szR R l0 k = s) := ⟨_, rfl⟩
      rw [HSK.out] at hs0 hsl HNX ⊢
      by_cases hlt : k < n
      · have hkn : (k : Int) < n := by omega
        obtain ⟨b, off, e, c1, c2, _⟩ := (HA.out.below B1.out) k (by rw [HN.out]; exact hlt)
        have him : (R.getD k rt0).ids.length ≤ 9223372036854775807 := HI.out _ (by
          have : k < R.length := by rw [HN.out]; exact hlt
          rw [List.getD_eq_getElem?_getD, List.getElem?_eq_getElem this]; simp)
        subst e
        generalize R.getD k rt0 = r at *
        obtain ⟨rv, rra, rids, rcc⟩ := r
        simp only at c1 c2 HNX him
        generalize rids.length = m at *
        go_wp2_with fail
        refine (szRoute_any rv rra m rcc s wr hs0 (by omega) him).mono ?_
        rintro e w2 ⟨rfl, hb2⟩
        have B2 : Hid (Below w.heap.size w w2) := B1.out.trans (hb2.mono B1.out.size)
        clear hb2 B1
        by_cases hms : s < m
        · rw [if_pos hms] at HNX ⊢
          have HSN : Hid (szR R l0 n = -1) := by
            rcases szR_down R l0 (show k + 1 ≤ n by omega) HNX.out with h | h
            · exact h
            · rw [← h]; exact HNX.out
          go_wp2
          go_ret
          exact ⟨by rw [HS.out, HSN.out]; rfl, B2.out⟩
        · rw [if_neg hms] at HNX ⊢
          obtain ⟨s2, HS2⟩ : ∃ t, Hid (s - (m : Int) = t) := ⟨_, rfl⟩
          have hs2 : ¬ (s2 < 0) := by have := HS2.out; omega
          rw [HS2.out] at HNX ⊢
          clear hms
          go_wp2
          first
            | exact ⟨⟨k + 1, by omega, by first | rfl | go_num, by rw [HNX.out], by rw [HNX.out]; omega, B2.out⟩, by simp [intOf]; omega⟩
            | (go_roundw
               case rel => exact ⟨k + 1, by omega, by first | rfl | go_num, by rw [HNX.out], by rw [HNX.out]; omega, B2.out⟩
               case measure => simp [intOf]; omega)
      · have hkn : k = n := by omega
        subst hkn
        have HSF : Hid (szRS R left = s) := HS.out.trans HSK.out
        clear HS HSK HNX
        go_wp2
        go_ret
        exact ⟨by rw [HSF.out]; rfl, B1.out⟩

set_option maxHeartbeats 1000000 in
theorem szPlan_any (ra la : Option Addr) (rc ln lc : Nat) (R : List RT) (left : Int) (w : World) (hA : RoutesAt w ra R) (h0 : 0 ≤ left) (h1 : left ≤ 1048576) (hn : R.length ≤ 9223372036854775807) (hln : ln ≤ 9223372036854775807) (hi : ∀ r ∈ R, r.ids.length ≤ 9223372036854775807) :
    Calls Try.prog 23 #[.agg #[.slice ra R.length rc, .slice la ln lc], .int .i64 left] w fun e w' => e = .returned (.int .i64 (szPl R ln left)) ∧ Below w.heap.size w w' := by
  have HA : Hid (RoutesAt w ra R) := hA
  clear hA
  have B0 : Hid (Below w.heap.size w (w.alloc (.cells #[.slice ra R.length rc, .slice la ln lc] 56))) := (Below.refl _ _).alloc (Nat.le_refl _) _
  have G0 : Hid ((w.alloc (.cells #[.slice ra R.length rc, .slice la ln lc] 56)).heap[w.heap.size]? = some (.cells #[.slice ra R.length rc, .slice la ln lc] 56 (0, 0))) := heap_alloc_new _ _
  have A0 : Hid (RoutesAt (w.alloc (.cells #[.slice ra R.length rc, .slice la ln lc] 56)) ra R) := HA.out.below B0.out
  have hsb : szRS R left ≤ 1048576 ∧ -1 ≤ szRS R left := by
    unfold szRS
    split
    · omega
    · have := szR_le R (left - R.length) (by omega) R.length
      omega
  go_enter Try.func23, Try.ntmps23
  obtain ⟨d0, d1⟩ := cells2 G0.out
  go_wp2_with fail
  clear d0 d1
  generalize w.alloc (.cells #[.slice ra R.length rc, .slice la ln lc] 56) = W0 at *
  refine (szRouteS_any ra rc R left W0 A0.out h0 h1 hn hi).mono ?_
  rintro e w1 ⟨rfl, hb⟩
  have B1 : Hid (Below w.heap.size w w1) := B0.out.trans (hb.mono B0.out.size)
  have G1 := below_row hb (row_lt G0.out) G0.out
  clear hb A0 B0 G0
  have HP : Hid (szPl R ln left = if szRS R left < 0 then -1 else if szRS R left < (ln : Int) then -1 else szRS R left - ln) := rfl
  generalize szRS R left = s at *
  by_cases hs : s < 0
  · rw [if_pos hs] at HP
    clear G1
    go_wp2
    go_ret
    exact ⟨by rw [HP.out]; rfl, B1.out⟩
  · rw [if_neg hs] at HP
    obtain ⟨d0, d1⟩ := cells2 G1
    have hs0 : 0 ≤ s := by omega
    go_wp2_with fail
    clear d0 d1 G1
    refine (szInts_any la ln lc s w1 hs0 hsb.1 hln).mono ?_
    rintro e w2 ⟨rfl, rfl⟩
    have B2 : Hid (Below w.heap.size w w2) := B1.out
    clear B1
    obtain ⟨f, HF⟩ : ∃ f, Hid (szPl R ln left = f) := ⟨_, rfl⟩
    rw [← HP.out, HF.out]
    rw [HF.out] at HP
    by_cases hf : f < 0
    · have hfe : f = -1 := by
        have := HP.out
        split at this <;> omega
      subst hfe
      clear hf
      go_wp2
      go_ret
      exact ⟨by rw [HF.out]; rfl, B2.out⟩
    · go_wp2
      go_ret
      exact ⟨by rw [HF.out]; rfl, B2.out⟩

end Go.Proofs.Ytonopidjkcmlmaa

namespace Go.Proofs.Ytonopidjkcmlmaa
open Go.RowKit

theorem key_at {R S : List RT} (h : S.map RT.key = R.map RT.key) (j : Nat) : (S.getD j rt0).v = (R.getD j rt0).v ∧ (S.getD j rt0).ids = (R.getD j rt0).ids := by
  have hl : S.length = R.length := by simpa using congrArg List.length h
  rcases Nat.lt_or_ge j R.length with hj | hj
  · have e : (S.map RT.key)[j]? = (R.map RT.key)[j]? := by rw [h]
    rw [List.getElem?_map, List.getElem?_map, List.getElem?_eq_getElem (by omega), List.getElem?_eq_getElem hj] at e
    simp only [Option.map_some, Option.some.injEq, RT.key, Prod.mk.injEq] at e
    simp only [List.getD_eq_getElem?_getD, List.getElem?_eq_getElem hj, List.getElem?_eq_getElem (show j < S.length by omega), Option.getD_some]
    exact e
  · have e1 : R.getD j rt0 = rt0 := by rw [List.getD_eq_getElem?_getD, List.getElem?_eq_none hj]; rfl
    have e2 : S.getD j rt0 = rt0 := by rw [List.getD_eq_getElem?_getD, List.getElem?_eq_none (show S.length ≤ j by omega)]; rfl
    rw [e1, e2]
    exact ⟨rfl, rfl⟩

set_option maxHeartbeats 1000000 in
theorem eqRouteS_same (ra sa : Option Addr) (rc sc n : Nat) (R S : List RT) (w : World) (hA : RoutesAt w ra R) (hB : RoutesAt w sa S) (hk : S.map RT.key = R.map RT.key) (hR : R.length = n) (hn : n ≤ 1048576) (hi : ∀ r ∈ R, r.ids.length ≤ 1048576) :
    Calls Try.prog 61 #[.slice ra n rc, .slice sa n sc] w fun e w' => e = .returned (.bool true) ∧ Below w.heap.size w w' := by
  have HA : Hid (RoutesAt w ra R) := hA
  have HB : Hid (RoutesAt w sa S) := hB
  have HK : Hid (S.map RT.key = R.map RT.key) := hk
  have HR : Hid (R.length = n) := hR
  have HS : Hid (S.length = n) := by show _ = _; rw [← hR]; simpa using congrArg List.length hk
  have HI : Hid (∀ r ∈ R, r.ids.length ≤ 1048576) := hi
  clear hA hB hk hR hi
  go_enter Try.func61, Try.ntmps61
  go_wp2_with fail
  go_loopw [5] (fun ti wr => ∃ i : Nat, i ≤ n ∧ ti = .int .i64 i ∧ Below w.heap.size w wr) (fun ti _ => n - (intOf ti).toNat)
  case atStart => exact ⟨0, Nat.zero_le _, rfl, Below.refl _ _⟩
  case round =>
    obtain ⟨i, hi, rfl, hb⟩ := hrel
    have B1 : Hid (Below w.heap.size w wr) := hb
    clear hb
    by_cases hlt : i < n
    · obtain ⟨b1, o1, e1, c1, c2, i1⟩ := (HA.out.below B1.out) i (by rw [HR.out]; exact hlt)
      obtain ⟨b2, o2, e2, d1, d2, i2⟩ := (HB.out.below B1.out) i (by rw [HS.out]; exact hlt)
      have hkey := key_at HK.out i
      have him : (R.getD i rt0).ids.length ≤ 1048576 := HI.out _ (by
        have : i < R.length := by rw [HR.out]; exact hlt
        rw [List.getD_eq_getElem?_getD, List.getElem?_eq_getElem this]; simp)
      subst e1 e2
      generalize R.getD i rt0 = r at *
      generalize S.getD i rt0 = s at *
      obtain ⟨rv, rra, rids, rcc⟩ := r
      obtain ⟨sv, ssa, sids, scc⟩ := s
      simp only at hkey c1 c2 i1 d1 d2 i2 him
      obtain ⟨rfl, rfl⟩ := hkey
      have ER : Hid (∀ W, Below wr.heap.size wr W → Calls Try.prog 93 #[.agg #[.int .i64 sv, .slice rra sids.length rcc], .agg #[.int .i64 sv, .slice ssa sids.length scc]] W fun e w' => e = .returned (.bool true) ∧ Below W.heap.size W w') := fun W hb => eqRoute_same sv rra ssa rcc scc sids W (i1.below hb) (i2.below hb) (by omega)
      clear i1 i2
      have hin : (i : Int) < n := by omega
      have z1 := fun s : Kin wr => s.cell c1
      have z2 := fun s : Kin wr => s.cell c2
      have z3 := fun s : Kin wr => s.cell d1
      have z4 := fun s : Kin wr => s.cell d2
      have hkin := Kin.there wr
      generalize sids.length = m at *
      go_wp2_with fail
      refine wp_region_kin (by kernel_rfl) (by kernel_rfl) ?_
      repeat (go_big_quiet_step ((go_at_call 93; with_reducible exact Kin.call (ER.out _ (Kin.below _)))))
      refine wpQuiet_nil ?_
      rintro _ ⟨s1, rfl⟩
      clear z1 z2 z3 z4 hkin
      go_wp2
      go_roundw
      case rel => exact ⟨i + 1, by omega, by first | rfl | go_num, B1.out.trans (s1.below.mono B1.out.size)⟩
      case measure => simp [intOf]; omega
    · have hin : ¬ ((i : Int) < n) := by omega
      go_wp2
      go_ret
      exact ⟨rfl, B1.out⟩

set_option maxHeartbeats 1000000 in
theorem eqPlan_same (ra sa la ma : Option Addr) (rc sc n lc mc : Nat) (R S : List RT) (L : List Int) (w : World) (hA : RoutesAt w ra R) (hB : RoutesAt w sa S) (hk : S.map RT.key = R.map RT.key) (hR : R.length = n) (hn : n ≤ 1048576) (hi : ∀ r ∈ R, r.ids.length ≤ 1048576) (hL : IntsAt w la L) (hM : IntsAt w ma L) (hll : L.length ≤ 1048576) :
    Calls Try.prog 27 #[.agg #[.slice ra n rc, .slice la L.length lc], .agg #[.slice sa n sc, .slice ma L.length mc]] w fun e w' => e = .returned (.bool true) ∧ Below w.heap.size w w' := by
  have HA : Hid (RoutesAt w ra R) := hA
  have HB : Hid (RoutesAt w sa S) := hB
  have HL : Hid (IntsAt w la L) := hL
  have HM : Hid (IntsAt w ma L) := hM
  have B0 : Hid (Below w.heap.size w ((w.alloc (.cells #[.slice ra n rc, .slice la L.length lc] 33)).alloc (.cells #[.slice sa n sc, .slice ma L.length mc] 33))) := ((Below.refl _ _).alloc (Nat.le_refl _) _).alloc (by simp) _
  have G0 : Hid (((w.alloc (.cells #[.slice ra n rc, .slice la L.length lc] 33)).alloc (.cells #[.slice sa n sc, .slice ma L.length mc] 33)).heap[w.heap.size]? = some (.cells #[.slice ra n rc, .slice la L.length lc] 33 (0, 0))) := heap_alloc2_old _ _ _
  have G1 : Hid (((w.alloc (.cells #[.slice ra n rc, .slice la L.length lc] 33)).alloc (.cells #[.slice sa n sc, .slice ma L.length mc] 33)).heap[w.heap.size + 1]? = some (.cells #[.slice sa n sc, .slice ma L.length mc] 33 (0, 0))) := heap_alloc2_new _ _ _
  clear hA hB hL hM
  obtain ⟨c0, c1⟩ := cells2 G0.out
  obtain ⟨d0, d1⟩ := cells2 G1.out
  go_enter Try.func27, Try.ntmps27
  go_wp2_with fail
  clear c0 c1 d0 d1
  generalize (w.alloc (.cells #[.slice ra n rc, .slice la L.length lc] 33)).alloc (.cells #[.slice sa n sc, .slice ma L.length mc] 33) = W0 at *
  refine (eqRouteS_same ra sa rc sc n R S W0 (HA.out.below B0.out) (HB.out.below B0.out) hk hR hn hi).mono ?_
  rintro e w1 ⟨rfl, hb⟩
  have B1 : Hid (Below w.heap.size w w1) := B0.out.trans (hb.mono B0.out.size)
  obtain ⟨c0, c1⟩ := cells2 (below_row hb (row_lt G0.out) G0.out)
  obtain ⟨d0, d1⟩ := cells2 (below_row hb (row_lt G1.out) G1.out)
  clear hb B0 G0 G1
  go_wp2_with fail
  clear c0 c1 d0 d1
  refine (eqInts_any la ma lc mc L L w1 (HL.out.below B1.out) (HM.out.below B1.out) (by omega)).mono ?_
  rintro e w2 ⟨rfl, hb⟩
  have B2 : Hid (Below w.heap.size w w2) := B1.out.trans (hb.mono B1.out.size)
  clear hb
  rw [show decide (L = L) = true from decide_eq_true rfl]
  go_wp2
  go_ret
  exact ⟨rfl, B2.out⟩

end Go.Proofs.Ytonopidjkcmlmaa
