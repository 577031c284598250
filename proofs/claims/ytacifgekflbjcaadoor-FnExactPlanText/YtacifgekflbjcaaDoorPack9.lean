import Derived.Test.YtacifgekflbjcaaDoorPack1
import Derived.Test.YtacifgekflbjcaaDoorPack2
import Derived.Test.YtacifgekflbjcaaDoorPack8
namespace Go.Proofs.YtacifgekflbjcaaDoor
open Go.RowKit

def idsTo (ids : List Int) (k : Nat) : Bool := (ids.take k).all fun x => inB x 1 1000000000
/-- Numbers that may be those of orders. -/
def idsB (ids : List Int) : Bool := decide (ids.length ≤ 12) && idsTo ids ids.length
theorem idsTo_zero (ids : List Int) : idsTo ids 0 = true := by simp [idsTo]
theorem idsTo_succ (ids : List Int) (k : Nat) (h : k < ids.length) : idsTo ids (k + 1) = (idsTo ids k && inB (ids.getD k 0) 1 1000000000) := by
  unfold idsTo
  rw [take_snoc ids k h, List.all_append]
  simp
theorem idsB_bad {ids : List Int} {k : Nat} (h : k < ids.length) (hb : inB (ids.getD k 0) 1 1000000000 = false) : idsB ids = false := by
  unfold idsB idsTo
  rw [List.take_length]
  rw [Bool.and_eq_false_iff]
  right
  rw [List.all_eq_false]
  refine ⟨ids.getD k 0, ?_, by rw [hb]; simp⟩
  rw [List.getD_eq_getElem?_getD, List.getElem?_eq_getElem h]
  simp
theorem idsB_small {ids : List Int} (h : idsB ids = true) : ids.length ≤ 12 ∧ Small ids := by
  unfold idsB idsTo at h
  rw [List.take_length] at h
  simp only [Bool.and_eq_true, decide_eq_true_eq, List.all_eq_true] at h
  refine ⟨h.1, fun x hx => ?_⟩
  have := h.2 x hx
  unfold inB at this
  simp at this
  omega
def rtsTo (R : List RT) (k : Nat) : Bool := (R.take k).all fun r => inB r.v 1 1000000000 && idsB r.ids
/-- Can a plan be written? -/
def formB (R : List RT) (L : List Int) : Bool := decide (R.length ≤ 5) && idsB L && rtsTo R R.length
theorem rtsTo_zero (R : List RT) : rtsTo R 0 = true := by simp [rtsTo]
theorem rtsTo_succ (R : List RT) (k : Nat) (h : k < R.length) : rtsTo R (k + 1) = (rtsTo R k && (inB (R.getD k rt0).v 1 1000000000 && idsB (R.getD k rt0).ids)) := by
  unfold rtsTo
  have e : R.take (k + 1) = R.take k ++ [R.getD k rt0] := by
    rw [List.take_add_one, List.getD_eq_getElem?_getD, List.getElem?_eq_getElem h]
    simp
  rw [e, List.all_append]
  simp
theorem formB_bad {R : List RT} {L : List Int} {k : Nat} (h : k < R.length) (hb : (inB (R.getD k rt0).v 1 1000000000 && idsB (R.getD k rt0).ids) = false) : formB R L = false := by
  unfold formB rtsTo
  rw [List.take_length, Bool.and_eq_false_iff]
  right
  rw [List.all_eq_false]
  refine ⟨R.getD k rt0, ?_, by rw [hb]; simp⟩
  rw [List.getD_eq_getElem?_getD, List.getElem?_eq_getElem h]
  simp
theorem formB_parts {R : List RT} {L : List Int} (h : formB R L = true) : R.length ≤ 5 ∧ idsB L = true ∧ ∀ k, k < R.length → inB (R.getD k rt0).v 1 1000000000 = true ∧ idsB (R.getD k rt0).ids = true := by
  unfold formB rtsTo at h
  rw [List.take_length] at h
  simp only [Bool.and_eq_true, decide_eq_true_eq, List.all_eq_true] at h
  refine ⟨h.1.1, h.1.2, fun k hk => ?_⟩
  have hm : R.getD k rt0 ∈ R := by rw [List.getD_eq_getElem?_getD, List.getElem?_eq_getElem hk]; simp
  exact h.2 _ hm
theorem formB_is {R : List RT} {L : List Int} (h1 : R.length ≤ 5) (h2 : idsB L = true) (h3 : rtsTo R R.length = true) : formB R L = true := by
  unfold formB
  rw [h2, h3]
  simp [h1]
theorem formB_many {R : List RT} {L : List Int} (h1 : ¬ R.length ≤ 5) : formB R L = false := by
  unfold formB
  simp only [h1, decide_false, Bool.false_and]
theorem formB_left {R : List RT} {L : List Int} (h1 : idsB L = false) : formB R L = false := by
  unfold formB
  rw [h1]
  simp
theorem formB_key {R S : List RT} (L : List Int) (h : S.map RT.key = R.map RT.key) : formB S L = formB R L := by
  have hl : S.length = R.length := by have := congrArg List.length h; simpa using this
  have : ∀ T : List RT, T.all (fun r => inB r.v 1 1000000000 && idsB r.ids) = (T.map RT.key).all (fun q => inB q.1 1 1000000000 && idsB q.2) := fun T => by
    rw [List.all_map]
    rfl
  unfold formB rtsTo
  rw [List.take_length, List.take_length, this S, this R, h, hl]

def wRoute : List UInt8 := [114, 111, 117, 116, 101]
def wLeft : List UInt8 := [108, 101, 102, 116]
def routesL (R : List RT) : Nat → List UInt8
  | 0 => []
  | k + 1 => routesL R k ++ lineL wRoute ((R.getD k rt0).v :: (R.getD k rt0).ids)
/-- What PlanText writes of a plan that can be written. -/
def planL (R : List RT) (L : List Int) : List UInt8 := routesL R R.length ++ lineL wLeft L
theorem routesL_key {R S : List RT} (h : S.map RT.key = R.map RT.key) : ∀ k, routesL S k = routesL R k
  | 0 => rfl
  | k + 1 => by
    have e : RT.key (S.getD k rt0) = RT.key (R.getD k rt0) := by
      have h2 := congrArg (fun l : List (Int × List Int) => l[k]?) h
      simp only [List.getElem?_map] at h2
      rw [List.getD_eq_getElem?_getD, List.getD_eq_getElem?_getD]
      cases h3 : S[k]? <;> cases h4 : R[k]? <;> simp [h3, h4] at h2 ⊢
      exact h2
    unfold RT.key at e
    simp only [Prod.mk.injEq] at e
    simp only [routesL]
    rw [routesL_key h k, e.1, e.2]
theorem planL_key {R S : List RT} (L : List Int) (h : S.map RT.key = R.map RT.key) : planL S L = planL R L := by
  have hl : S.length = R.length := by have := congrArg List.length h; simpa using this
  unfold planL
  rw [routesL_key h, hl]
theorem row_smallR {R : List RT} {L : List Int} (h : formB R L = true) {k : Nat} (hk : k < R.length) : Small ((R.getD k rt0).v :: (R.getD k rt0).ids) ∧ (R.getD k rt0).ids.length ≤ 12 := by
  obtain ⟨h1, h2⟩ := (formB_parts h).2.2 k hk
  obtain ⟨h3, h4⟩ := idsB_small h2
  refine ⟨fun x hx => ?_, h3⟩
  rcases List.mem_cons.1 hx with rfl | hx
  · unfold inB at h1
    simp only [decide_eq_true_eq] at h1
    omega
  · exact h4 x hx
theorem routesL_len {R : List RT} {L : List Int} (h : formB R L = true) : ∀ k, k ≤ R.length → (routesL R k).length ≤ 400 * k
  | 0, _ => by simp [routesL]
  | k + 1, hk => by
    have ih := routesL_len h k (by omega)
    obtain ⟨h1, h2⟩ := row_smallR h (show k < R.length by omega)
    have hl := lineL_len wRoute _ h1
    have hw : wRoute.length = 5 := rfl
    simp only [routesL]
    rw [List.length_append]
    simp only [List.length_cons] at hl
    omega

end Go.Proofs.YtacifgekflbjcaaDoor

namespace Go.Proofs.YtacifgekflbjcaaDoor
open Go.RowKit

/-- A plan in its box. -/
def PX (w W : World) (cs : Array Value) : Prop := Below w.heap.size w W ∧ W.heap[w.heap.size]? = some (.cells cs 46 (0, 0))
theorem PX.new (w : World) (cs : Array Value) : PX w (w.alloc (.cells cs 46)) cs := ⟨(Below.refl _ _).alloc (Nat.le_refl _) _, heap_alloc_new _ _⟩
theorem PX.below {w W W' : World} {cs : Array Value} (h : PX w W cs) (hb : Below W.heap.size W W') : PX w W' cs := ⟨h.1.trans (hb.mono h.1.size), below_row hb (row_lt h.2) h.2⟩

set_option maxHeartbeats 1000000 in
theorem l4Ids_any (a : Option Addr) (cap : Nat) (ids : List Int) (w : World) (hA : IntsAt w a ids) (hn : ids.length ≤ 1048576) :
    Calls Tryd.prog 56 #[.slice a ids.length cap] w fun e w' => e = .returned (.bool (idsB ids)) ∧ w' = w := by
  have HA : Hid (IntsAt w a ids) := hA
  clear hA
  obtain ⟨n, HN⟩ : ∃ n, Hid (ids.length = n) := ⟨_, rfl⟩
  rw [HN.out] at hn ⊢
  obtain ⟨x, HX⟩ : ∃ x, Hid (idsB ids = x) := ⟨_, rfl⟩
  rw [HX.out]
  go_enter Tryd.func56, Tryd.ntmps56
  go_wp2_with fail
  go_loop [3] (fun t => ∃ k : Nat, k ≤ n ∧ t = .int .i64 k ∧ idsTo ids k = true) (fun t => n - (intOf t).toNat)
  case atStart => exact ⟨0, Nat.zero_le _, rfl, idsTo_zero _⟩
  case round =>
    obtain ⟨k, hk, rfl, ht⟩ := hrel
    have HT : Hid (idsTo ids k = true) := ht
    clear ht
    by_cases hlt : k < n
    · have hkl : k < ids.length := by rw [HN.out]; exact hlt
      obtain ⟨b, off, rfl, hc⟩ := HA.out k hkl
      have HS : Hid (idsTo ids (k + 1) = (idsTo ids k && inB (ids.getD k 0) 1 1000000000)) := idsTo_succ ids k hkl
      have HBAD : Hid (inB (ids.getD k 0) 1 1000000000 = false → idsB ids = false) := idsB_bad hkl
      obtain ⟨v, HV⟩ : ∃ v, Hid (ids.getD k 0 = v) := ⟨_, rfl⟩
      rw [HV.out] at hc HS HBAD
      clear hkl
      have C := l1In_any v 1 1000000000 w
      cases h1 : inB v 1 1000000000
      · rw [h1] at C
        have hx : x = false := by rw [← HX.out]; exact HBAD.out h1
        subst hx
        clear h1
        go_wp2_with (go_at_call 40; refine C.mono ?_; rintro e w' ⟨rfl, rfl⟩)
        go_ret
        exact ⟨rfl, rfl⟩
      · rw [h1] at C
        have HS2 : Hid (idsTo ids (k + 1) = true) := by show _ = _; rw [HS.out, HT.out, h1]; rfl
        clear h1
        go_wp2_with (go_at_call 40; refine C.mono ?_; rintro e w' ⟨rfl, rfl⟩)
        go_round
        case rel => exact ⟨k + 1, by omega, by go_num, HS2.out⟩
        case measure => simp [intOf]; omega
    · have hkm : k = n := by omega
      have HE : Hid (x = decide ((n : Int) ≤ 12)) := by
        show _ = _
        rw [← HX.out]
        unfold idsB
        rw [HN.out, ← hkm, HT.out, Bool.and_true]
        by_cases h : k ≤ 12
        · rw [decide_eq_true h, decide_eq_true (by omega)]
        · rw [decide_eq_false h, decide_eq_false (by omega)]
      clear hkm
      go_wp2
      go_ret
      exact ⟨by rw [HE.out]; rfl, rfl⟩

set_option maxHeartbeats 1000000 in
theorem idsOk_any (a : Option Addr) (cap : Nat) (ids : List Int) (w : World) (hA : IntsAt w a ids) (hn : ids.length ≤ 1048576) :
    Calls Tryd.prog 58 #[.slice a ids.length cap] w fun e w' => e = .returned (.bool (idsB ids)) ∧ w' = w := by
  have HA : Hid (IntsAt w a ids) := hA
  clear hA
  obtain ⟨n, HN⟩ : ∃ n, Hid (ids.length = n) := ⟨_, rfl⟩
  rw [HN.out] at hn ⊢
  obtain ⟨x, HX⟩ : ∃ x, Hid (idsB ids = x) := ⟨_, rfl⟩
  rw [HX.out]
  by_cases hm : (12 : Int) < n
  · have hx : x = false := by rw [← HX.out]; unfold idsB; rw [HN.out, decide_eq_false (by omega)]; rfl
    subst hx
    go_enter Tryd.func58, Tryd.ntmps58
    go_wp2
    go_ret
    exact ⟨rfl, rfl⟩
  go_enter Tryd.func58, Tryd.ntmps58
  go_wp2_with fail
  go_loop [10] (fun t => ∃ k : Nat, k ≤ n ∧ t = .int .i64 k ∧ idsTo ids k = true) (fun t => n - (intOf t).toNat)
  case atStart => exact ⟨0, Nat.zero_le _, rfl, idsTo_zero _⟩
  case round =>
    obtain ⟨k, hk, rfl, ht⟩ := hrel
    have HT : Hid (idsTo ids k = true) := ht
    clear ht
    by_cases hlt : k < n
    · have hkl : k < ids.length := by rw [HN.out]; exact hlt
      obtain ⟨b, off, rfl, hc⟩ := HA.out k hkl
      have HS : Hid (idsTo ids (k + 1) = (idsTo ids k && inB (ids.getD k 0) 1 1000000000)) := idsTo_succ ids k hkl
      have HBAD : Hid (inB (ids.getD k 0) 1 1000000000 = false → idsB ids = false) := idsB_bad hkl
      obtain ⟨v, HV⟩ : ∃ v, Hid (ids.getD k 0 = v) := ⟨_, rfl⟩
      rw [HV.out] at hc HS HBAD
      clear hkl
      have C := within_any v 1 1000000000 w
      cases h1 : inB v 1 1000000000
      · rw [h1] at C
        have hx : x = false := by rw [← HX.out]; exact HBAD.out h1
        subst hx
        clear h1
        go_wp2_with (go_at_call 49; refine C.mono ?_; rintro e w' ⟨rfl, rfl⟩)
        go_ret
        exact ⟨rfl, rfl⟩
      · rw [h1] at C
        have HS2 : Hid (idsTo ids (k + 1) = true) := by show _ = _; rw [HS.out, HT.out, h1]; rfl
        clear h1
        go_wp2_with (go_at_call 49; refine C.mono ?_; rintro e w' ⟨rfl, rfl⟩)
        go_round
        case rel => exact ⟨k + 1, by omega, by go_num, HS2.out⟩
        case measure => simp [intOf]; omega
    · have hkm : k = n := by omega
      have hx : x = true := by
        rw [← HX.out]
        unfold idsB
        rw [HN.out, ← hkm, HT.out, Bool.and_true, decide_eq_true (by omega)]
      subst hx
      clear hkm
      go_wp2
      go_ret
      exact ⟨rfl, rfl⟩

end Go.Proofs.YtacifgekflbjcaaDoor

namespace Go.Proofs.YtacifgekflbjcaaDoor
open Go.RowKit

set_option maxHeartbeats 2000000 in
theorem l4Form_any (ra la : Option Addr) (rc lc : Nat) (R : List RT) (L : List Int) (w : World) (hR : RoutesAt w ra R) (hL : IntsAt w la L) (hn : R.length ≤ 1048576) (hl : L.length ≤ 1048576) (hi : ∀ r ∈ R, r.ids.length ≤ 1048576) :
    Calls Tryd.prog 31 #[.agg #[.slice ra R.length rc, .slice la L.length lc]] w fun e w' => e = .returned (.bool (formB R L)) ∧ Below w.heap.size w w' := by
  have HR : Hid (RoutesAt w ra R) := hR
  have HL : Hid (IntsAt w la L) := hL
  have HI : Hid (∀ r ∈ R, r.ids.length ≤ 1048576) := hi
  have HLB : Hid (L.length ≤ 1048576) := hl
  clear hR hL hi
  obtain ⟨n, HN⟩ : ∃ n, Hid (R.length = n) := ⟨_, rfl⟩
  obtain ⟨l, HLL⟩ : ∃ l, Hid (L.length = l) := ⟨_, rfl⟩
  rw [HN.out] at hn ⊢
  rw [HLL.out] at hl ⊢
  obtain ⟨x, HX⟩ : ∃ x, Hid (formB R L = x) := ⟨_, rfl⟩
  rw [HX.out]
  have C0 : Hid (PX w (w.alloc (.cells #[.slice ra n rc, .slice la l lc] 46)) #[.slice ra n rc, .slice la l lc]) := PX.new w _
  obtain ⟨c0, c1⟩ := cells2 C0.out.2
  have CL := l4Ids_any la lc L (w.alloc (.cells #[.slice ra n rc, .slice la l lc] 46)) (HL.out.below C0.out.1) HLB.out
  rw [HLL.out] at CL
  by_cases hm : (5 : Int) < n
  · have hx : x = false := by rw [← HX.out]; exact formB_many (by rw [HN.out]; omega)
    subst hx
    clear CL
    go_enter Tryd.func31, Tryd.ntmps31
    go_wp2
    go_ret
    exact ⟨rfl, C0.out.1⟩
  cases hl1 : idsB L
  · have hx : x = false := by rw [← HX.out]; exact formB_left hl1
    subst hx
    rw [hl1] at CL
    clear hl1
    go_enter Tryd.func31, Tryd.ntmps31
    go_wp2_with (go_at_call 56; refine CL.mono ?_; rintro e w' ⟨rfl, rfl⟩)
    go_ret
    exact ⟨rfl, C0.out.1⟩
  have HLI : Hid (idsB L = true) := hl1
  rw [hl1] at CL
  clear hl1
  go_enter Tryd.func31, Tryd.ntmps31
  go_wp2_with (go_at_call 56; refine CL.mono ?_; rintro e w' ⟨rfl, rfl⟩)
  clear c0 c1 CL
  generalize w.alloc (.cells #[.slice ra n rc, .slice la l lc] 46) = W0 at *
  go_loopw [3] (fun t wr => ∃ k : Nat, k ≤ n ∧ t = .int .i64 k ∧ rtsTo R k = true ∧ PX w wr #[.slice ra n rc, .slice la l lc]) (fun t _ => n - (intOf t).toNat)
  case atStart => exact ⟨0, Nat.zero_le _, rfl, rtsTo_zero _, C0.out⟩
  case round =>
    clear C0
    obtain ⟨k, hk, rfl, ht, hp⟩ := hrel
    have HT : Hid (rtsTo R k = true) := ht
    have CW : Hid (PX w wr #[.slice ra n rc, .slice la l lc]) := hp
    clear ht hp
    obtain ⟨c0, c1⟩ := cells2 CW.out.2
    by_cases hlt : k < n
    · have hkl : k < R.length := by rw [HN.out]; exact hlt
      have hkn : (k : Int) < n := by omega
      obtain ⟨b, off, rfl, r0, r1, hI⟩ := (HR.out.below CW.out.1) k hkl
      have HS : Hid (rtsTo R (k + 1) = (rtsTo R k && (inB (R.getD k rt0).v 1 1000000000 && idsB (R.getD k rt0).ids))) := rtsTo_succ R k hkl
      have HBAD : Hid ((inB (R.getD k rt0).v 1 1000000000 && idsB (R.getD k rt0).ids) = false → formB R L = false) := formB_bad hkl
      have hil : (R.getD k rt0).ids.length ≤ 1048576 := HI.out _ (by rw [List.getD_eq_getElem?_getD, List.getElem?_eq_getElem hkl]; simp)
      generalize R.getD k rt0 = r at *
      obtain ⟨rv, rra, rids, rcc⟩ := r
      simp only at r0 r1 hI hil HS HBAD
      clear hkl
      have C1 := l1In_any rv 1 1000000000 wr
      have C2 := l4Ids_any rra rcc rids wr (hI) hil
      have HBW : Hid (Below wr.heap.size wr wr) := Below.refl _ _
      clear hI
      obtain ⟨m, HM⟩ : ∃ m, Hid (rids.length = m) := ⟨_, rfl⟩
      rw [HM.out] at r1 hil C2
      cases h1 : inB rv 1 1000000000
      · rw [h1] at C1
        have hx : x = false := by rw [← HX.out]; exact HBAD.out (by rw [h1]; rfl)
        subst hx
        clear h1 C2
        go_wp2_with (go_at_call 40; refine C1.mono ?_; rintro e w' ⟨rfl, rfl⟩)
        go_ret
        exact ⟨rfl, (CW.out.below HBW.out).1⟩
      · rw [h1] at C1 HS HBAD
        clear h1
        cases h2 : idsB rids
        · rw [h2] at C2
          have hx : x = false := by rw [← HX.out]; exact HBAD.out (by rw [h2]; rfl)
          subst hx
          clear h2
          go_wp2_with (first | (go_at_call 40; refine C1.mono ?_; rintro e w' ⟨rfl, rfl⟩) | (go_at_call 56; refine C2.mono ?_; rintro e w' ⟨rfl, rfl⟩))
          go_ret
          exact ⟨rfl, (CW.out.below HBW.out).1⟩
        · rw [h2] at C2
          have HS2 : Hid (rtsTo R (k + 1) = true) := by show _ = _; rw [HS.out, HT.out, h2]; rfl
          clear h2
          go_wp2_with (first | (go_at_call 40; refine C1.mono ?_; rintro e w' ⟨rfl, rfl⟩) | (go_at_call 56; refine C2.mono ?_; rintro e w' ⟨rfl, rfl⟩))
          go_roundw
          case rel => exact ⟨k + 1, by omega, by go_num, HS2.out, CW.out.below HBW.out⟩
          case measure => simp [intOf]; omega
    · have hkm : k = n := by omega
      have hx : x = true := by
        rw [← HX.out]
        exact formB_is (by rw [HN.out]; omega) HLI.out (by rw [HN.out, ← hkm]; exact HT.out)
      subst hx
      have hnlt : ¬ ((k : Int) < (n : Int)) := by omega
      clear hkm
      go_wp2
      go_ret
      exact ⟨rfl, CW.out.1⟩

set_option maxHeartbeats 2000000 in
theorem canBe_any (ra la : Option Addr) (rc lc : Nat) (R : List RT) (L : List Int) (w : World) (hR : RoutesAt w ra R) (hL : IntsAt w la L) (hn : R.length ≤ 1048576) (hl : L.length ≤ 1048576) (hi : ∀ r ∈ R, r.ids.length ≤ 1048576) :
    Calls Tryd.prog 34 #[.agg #[.slice ra R.length rc, .slice la L.length lc]] w fun e w' => e = .returned (.bool (formB R L)) ∧ Below w.heap.size w w' := by
  have HR : Hid (RoutesAt w ra R) := hR
  have HL : Hid (IntsAt w la L) := hL
  have HI : Hid (∀ r ∈ R, r.ids.length ≤ 1048576) := hi
  have HLB : Hid (L.length ≤ 1048576) := hl
  clear hR hL hi
  obtain ⟨n, HN⟩ : ∃ n, Hid (R.length = n) := ⟨_, rfl⟩
  obtain ⟨l, HLL⟩ : ∃ l, Hid (L.length = l) := ⟨_, rfl⟩
  rw [HN.out] at hn ⊢
  rw [HLL.out] at hl ⊢
  obtain ⟨x, HX⟩ : ∃ x, Hid (formB R L = x) := ⟨_, rfl⟩
  rw [HX.out]
  have C0 : Hid (PX w (w.alloc (.cells #[.slice ra n rc, .slice la l lc] 46)) #[.slice ra n rc, .slice la l lc]) := PX.new w _
  obtain ⟨c0, c1⟩ := cells2 C0.out.2
  have CL := idsOk_any la lc L (w.alloc (.cells #[.slice ra n rc, .slice la l lc] 46)) (HL.out.below C0.out.1) HLB.out
  rw [HLL.out] at CL
  by_cases hm : (5 : Int) < n
  · have hx : x = false := by rw [← HX.out]; exact formB_many (by rw [HN.out]; omega)
    subst hx
    clear CL
    go_enter Tryd.func34, Tryd.ntmps34
    go_wp2
    go_ret
    exact ⟨rfl, C0.out.1⟩
  cases hl1 : idsB L
  · have hx : x = false := by rw [← HX.out]; exact formB_left hl1
    subst hx
    rw [hl1] at CL
    clear hl1
    go_enter Tryd.func34, Tryd.ntmps34
    go_wp2_with (go_at_call 58; refine CL.mono ?_; rintro e w' ⟨rfl, rfl⟩)
    go_ret
    exact ⟨rfl, C0.out.1⟩
  have HLI : Hid (idsB L = true) := hl1
  rw [hl1] at CL
  clear hl1
  go_enter Tryd.func34, Tryd.ntmps34
  go_wp2_with (go_at_call 58; refine CL.mono ?_; rintro e w' ⟨rfl, rfl⟩)
  clear c0 c1 CL
  generalize w.alloc (.cells #[.slice ra n rc, .slice la l lc] 46) = W0 at *
  go_loopw [18] (fun t wr => ∃ k : Nat, k ≤ n ∧ t = .int .i64 k ∧ rtsTo R k = true ∧ PX w wr #[.slice ra n rc, .slice la l lc]) (fun t _ => n - (intOf t).toNat)
  case atStart => exact ⟨0, Nat.zero_le _, rfl, rtsTo_zero _, C0.out⟩
  case round =>
    clear C0
    obtain ⟨k, hk, rfl, ht, hp⟩ := hrel
    have HT : Hid (rtsTo R k = true) := ht
    have CW : Hid (PX w wr #[.slice ra n rc, .slice la l lc]) := hp
    clear ht hp
    obtain ⟨c0, c1⟩ := cells2 CW.out.2
    by_cases hlt : k < n
    · have hkl : k < R.length := by rw [HN.out]; exact hlt
      have hkn : (k : Int) < n := by omega
      obtain ⟨b, off, rfl, r0, r1, hI⟩ := (HR.out.below CW.out.1) k hkl
      have HS : Hid (rtsTo R (k + 1) = (rtsTo R k && (inB (R.getD k rt0).v 1 1000000000 && idsB (R.getD k rt0).ids))) := rtsTo_succ R k hkl
      have HBAD : Hid ((inB (R.getD k rt0).v 1 1000000000 && idsB (R.getD k rt0).ids) = false → formB R L = false) := formB_bad hkl
      have hil : (R.getD k rt0).ids.length ≤ 1048576 := HI.out _ (by rw [List.getD_eq_getElem?_getD, List.getElem?_eq_getElem hkl]; simp)
      generalize R.getD k rt0 = r at *
      obtain ⟨rv, rra, rids, rcc⟩ := r
      simp only at r0 r1 hI hil HS HBAD
      clear hkl
      have C1 := within_any rv 1 1000000000 (wr.alloc (.cells #[.int .i64 rv, .slice rra rids.length rcc] 75))
      have C2 := idsOk_any rra rcc rids (wr.alloc (.cells #[.int .i64 rv, .slice rra rids.length rcc] 75)) (hI.below ((Below.refl _ _).alloc (Nat.le_refl _) _)) hil
      have HBW : Hid (Below wr.heap.size wr (wr.alloc (.cells #[.int .i64 rv, .slice rra rids.length rcc] 75))) := (Below.refl _ _).alloc (Nat.le_refl _) _
      clear hI
      obtain ⟨m, HM⟩ : ∃ m, Hid (rids.length = m) := ⟨_, rfl⟩
      rw [HM.out] at r1 hil C2
      rw [HM.out] at C1 HBW
      cases h1 : inB rv 1 1000000000
      · rw [h1] at C1
        have hx : x = false := by rw [← HX.out]; exact HBAD.out (by rw [h1]; rfl)
        subst hx
        clear h1 C2
        go_wp2_with (go_at_call 49; refine C1.mono ?_; rintro e w' ⟨rfl, rfl⟩)
        go_ret
        exact ⟨rfl, (CW.out.below HBW.out).1⟩
      · rw [h1] at C1 HS HBAD
        clear h1
        cases h2 : idsB rids
        · rw [h2] at C2
          have hx : x = false := by rw [← HX.out]; exact HBAD.out (by rw [h2]; rfl)
          subst hx
          clear h2
          go_wp2_with (first | (go_at_call 49; refine C1.mono ?_; rintro e w' ⟨rfl, rfl⟩) | (go_at_call 58; refine C2.mono ?_; rintro e w' ⟨rfl, rfl⟩))
          go_ret
          exact ⟨rfl, (CW.out.below HBW.out).1⟩
        · rw [h2] at C2
          have HS2 : Hid (rtsTo R (k + 1) = true) := by show _ = _; rw [HS.out, HT.out, h2]; rfl
          clear h2
          go_wp2_with (first | (go_at_call 49; refine C1.mono ?_; rintro e w' ⟨rfl, rfl⟩) | (go_at_call 58; refine C2.mono ?_; rintro e w' ⟨rfl, rfl⟩))
          go_roundw
          case rel => exact ⟨k + 1, by omega, by go_num, HS2.out, CW.out.below HBW.out⟩
          case measure => simp [intOf]; omega
    · have hkm : k = n := by omega
      have hx : x = true := by
        rw [← HX.out]
        exact formB_is (by rw [HN.out]; omega) HLI.out (by rw [HN.out, ← hkm]; exact HT.out)
      subst hx
      have hnlt : ¬ ((k : Int) < (n : Int)) := by omega
      clear hkm
      go_wp2
      go_ret
      exact ⟨rfl, CW.out.1⟩


end Go.Proofs.YtacifgekflbjcaaDoor
