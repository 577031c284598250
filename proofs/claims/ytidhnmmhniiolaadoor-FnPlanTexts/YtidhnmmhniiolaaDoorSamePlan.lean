import Derived.Test.YtidhnmmhniiolaaDoorPack8
import Derived.Test.YtidhnmmhniiolaaDoorPack15
namespace Go.Proofs.YtidhnmmhniiolaaDoor
open Go.RowKit

theorem key_same {R S : List RT} (h : S.map RT.key = R.map RT.key) (j : Nat) : (S.getD j rt0).v = (R.getD j rt0).v ∧ (S.getD j rt0).ids = (R.getD j rt0).ids := by
  have hl : S.length = R.length := by simpa using congrArg List.length h
  rcases Nat.lt_or_ge j R.length with hj | hj
  · have e : (S.map RT.key)[j]? = (R.map RT.key)[j]? := by rw [h]
    rw [List.getElem?_map, List.getElem?_map, List.getElem?_eq_getElem (by omega), List.getElem?_eq_getElem hj] at e
    simp only [Option.map_some, Option.some.injEq, RT.key, Prod.mk.injEq] at e
    simp only [List.getD_eq_getElem?_getD, List.getElem?_eq_getElem hj, List.getElem?_eq_getElem (show j < S.length by omega), Option.getD_some]
    exact e
  · have e1 : R.getD j rt0 = rt0 := by rw [List.getD_eq_getElem?_getD, List.getElem?_eq_none hj]; rfl
    have e2 : S.getD j rt0 = rt0 := by rw [List.getD_eq_getElem?_getD, List.getElem?_eq_none (show S.length ≤ j by omega)]; rfl
    rw [e1, e2]
    exact ⟨rfl, rfl⟩

set_option maxHeartbeats 2000000 in
theorem samePlan_same (ra sa la ma : Option Addr) (rc sc n lc mc m : Nat) (R S : List RT) (L : List Int) (w : World) (hA : RoutesAt w ra R) (hB : RoutesAt w sa S) (hk : S.map RT.key = R.map RT.key) (hR : R.length = n) (hn : n ≤ 1048576) (hi : ∀ r ∈ R, r.ids.length ≤ 1000) (hL : IntsAt w la L) (hM : IntsAt w ma L) (hm : L.length = m) (hll : m ≤ 1048576) :
    Calls Tryd.prog 9 #[.agg #[.slice ra n rc, .slice la m lc], .agg #[.slice sa n sc, .slice ma m mc]] w fun e w' => e = .returned (.bool true) ∧ Below w.heap.size w w' := by
  have HA : Hid (RoutesAt w ra R) := hA
  have HB : Hid (RoutesAt w sa S) := hB
  have HL : Hid (IntsAt w la L) := hL
  have HM : Hid (IntsAt w ma L) := hM
  have HK : Hid (S.map RT.key = R.map RT.key) := hk
  have HR : Hid (R.length = n) := hR
  have HS : Hid (S.length = n) := by show _ = _; rw [← hR]; simpa using congrArg List.length hk
  have HI : Hid (∀ r ∈ R, r.ids.length ≤ 1000) := hi
  have HML : Hid (L.length = m) := hm
  have B0 : Hid (Below w.heap.size w ((w.alloc (.cells #[.slice ra n rc, .slice la m lc] 27)).alloc (.cells #[.slice sa n sc, .slice ma m mc] 27))) := ((Below.refl _ _).alloc (Nat.le_refl _) _).alloc (by simp) _
  have G0 : Hid (((w.alloc (.cells #[.slice ra n rc, .slice la m lc] 27)).alloc (.cells #[.slice sa n sc, .slice ma m mc] 27)).heap[w.heap.size]? = some (.cells #[.slice ra n rc, .slice la m lc] 27 (0, 0))) := heap_alloc2_old _ _ _
  have G1 : Hid (((w.alloc (.cells #[.slice ra n rc, .slice la m lc] 27)).alloc (.cells #[.slice sa n sc, .slice ma m mc] 27)).heap[w.heap.size + 1]? = some (.cells #[.slice sa n sc, .slice ma m mc] 27 (0, 0))) := heap_alloc2_new _ _ _
  clear hA hB hL hM hk hR hi hm
  have SI : Hid (∀ W, IntsAt W la L → IntsAt W ma L → Calls Tryd.prog 24 #[.slice la m lc, .slice ma m mc] W fun e w' => e = .returned (.bool true) ∧ Below W.heap.size W w') := fun W h1 h2 => by
    have := sameInts_any la ma lc mc L L W h1 h2 (by rw [HML.out]; omega)
    rw [show decide (L = L) = true from decide_eq_true rfl, HML.out] at this
    exact this
  obtain ⟨c0, c1⟩ := cells2 G0.out
  obtain ⟨d0, d1⟩ := cells2 G1.out
  go_enter Tryd.func9, Tryd.ntmps9
  go_wp2_with fail
  clear c0 c1 d0 d1
  generalize (w.alloc (.cells #[.slice ra n rc, .slice la m lc] 27)).alloc (.cells #[.slice sa n sc, .slice ma m mc] 27) = W0 at *
  refine (SI.out W0 (HL.out.below B0.out) (HM.out.below B0.out)).mono ?_
  rintro e w1 ⟨rfl, hb⟩
  have B1 : Hid (Below w.heap.size w w1) := B0.out.trans (hb.mono B0.out.size)
  have F0 : Hid (w1.heap[w.heap.size]? = some (.cells #[.slice ra n rc, .slice la m lc] 27 (0, 0))) := below_row hb (row_lt G0.out) G0.out
  have F1 : Hid (w1.heap[w.heap.size + 1]? = some (.cells #[.slice sa n sc, .slice ma m mc] 27 (0, 0))) := below_row hb (row_lt G1.out) G1.out
  clear hb B0 G0 G1
  go_wp2_with fail
  go_loopw [5] (fun ti wr => ∃ i : Nat, i ≤ n ∧ ti = .int .i64 i ∧ Below w1.heap.size w1 wr) (fun ti _ => n - (intOf ti).toNat)
  case atStart => exact ⟨0, Nat.zero_le _, rfl, Below.refl _ _⟩
  case round =>
    obtain ⟨i, hi, rfl, hb⟩ := hrel
    have BW : Hid (Below w1.heap.size w1 wr) := hb
    have C1 : Hid (Below w.heap.size w wr) := B1.out.trans (hb.mono B1.out.size)
    clear hb
    obtain ⟨c0, c1⟩ := cells2 (below_row BW.out (row_lt F0.out) F0.out)
    obtain ⟨d0, d1⟩ := cells2 (below_row BW.out (row_lt F1.out) F1.out)
    by_cases hlt : i < n
    · obtain ⟨b1, o1, e1, k1, k2, i1⟩ := (HA.out.below C1.out) i (by rw [HR.out]; exact hlt)
      obtain ⟨b2, o2, e2, j1, j2, i2⟩ := (HB.out.below C1.out) i (by rw [HS.out]; exact hlt)
      have hkey := key_same HK.out i
      have him : (R.getD i rt0).ids.length ≤ 1000 := HI.out _ (by
        have : i < R.length := by rw [HR.out]; exact hlt
        rw [List.getD_eq_getElem?_getD, List.getElem?_eq_getElem this]; simp)
      subst e1 e2
      generalize R.getD i rt0 = r at *
      generalize S.getD i rt0 = s at *
      obtain ⟨rv, rra, rids, rcc⟩ := r
      obtain ⟨sv, ssa, sids, scc⟩ := s
      simp only at hkey k1 k2 i1 j1 j2 i2 him
      obtain ⟨rfl, rfl⟩ := hkey
      have ER : Hid (∀ W, Below wr.heap.size wr W → Calls Tryd.prog 25 #[.agg #[.int .i64 sv, .slice rra sids.length rcc], .agg #[.int .i64 sv, .slice ssa sids.length scc]] W fun e w' => e = .returned (.bool true) ∧ Below W.heap.size W w') := fun W hb => sameRoute_same sv rra ssa rcc scc sids W (i1.below hb) (i2.below hb) (by omega)
      clear i1 i2
      have hin : (i : Int) < n := by omega
      have z1 := fun s : Kin wr => s.cell k1
      have z2 := fun s : Kin wr => s.cell k2
      have z3 := fun s : Kin wr => s.cell j1
      have z4 := fun s : Kin wr => s.cell j2
      have z5 := fun s : Kin wr => s.cell c0
      have z6 := fun s : Kin wr => s.cell d0
      have hkin := Kin.there wr
      generalize sids.length = m at *
      go_wp2_with fail
      refine wp_region_kin (by kernel_rfl) (by kernel_rfl) ?_
      repeat (go_big_quiet_step ((go_at_call 25; with_reducible exact Kin.call (ER.out _ (Kin.below _)))))
      refine wpQuiet_nil ?_
      rintro _ ⟨s1, rfl⟩
      clear z1 z2 z3 z4 z5 z6 hkin
      go_wp2
      go_roundw
      case rel => exact ⟨i + 1, by omega, by first | rfl | go_num, BW.out.trans (s1.below.mono BW.out.size)⟩
      case measure => simp [intOf]; omega
    · have hin : ¬ ((i : Int) < n) := by omega
      go_wp2
      go_ret
      exact ⟨rfl, C1.out⟩

end Go.Proofs.YtidhnmmhniiolaaDoor
