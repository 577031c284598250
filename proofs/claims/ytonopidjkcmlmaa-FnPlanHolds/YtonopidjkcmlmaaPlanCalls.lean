import Derived.Test.YtonopidjkcmlmaaPack5
import Derived.Test.YtonopidjkcmlmaaPack27
import Derived.Test.YtonopidjkcmlmaaSpecPlan
namespace Go.Proofs.Ytonopidjkcmlmaa
open Go.RowKit

theorem key_len {R S : List RT} (h : S.map RT.key = R.map RT.key) : S.length = R.length := by
  have := congrArg List.length h
  simpa using this
theorem allTo_key {R S : List RT} (h : S.map RT.key = R.map RT.key) (k : Nat) : allTo S k = allTo R k := by
  have e : ∀ T : List RT, allTo T k = ((T.map RT.key).take k).flatMap (fun x => x.2) := fun T => by
    unfold allTo
    rw [← List.map_take, List.flatMap_map]
    rfl
  rw [e S, e R, h]
theorem RtsOk_key {n : Int} {zs os vs : List Int} {ko kv : Nat} {R S : List RT} (h : S.map RT.key = R.map RT.key) (k : Nat) : RtsOk n zs os vs ko kv S k ↔ RtsOk n zs os vs ko kv R k := by
  have e : ∀ j, (S.getD j rt0).v = (R.getD j rt0).v ∧ (S.getD j rt0).ids = (R.getD j rt0).ids := key_at h
  unfold RtsOk
  constructor
  · intro H j hj
    have := H j hj
    rw [(e j).1, (e j).2, (e (j - 1)).1] at this
    exact this
  · intro H j hj
    have := H j hj
    rw [(e j).1, (e j).2, (e (j - 1)).1]
    exact this
theorem planV_key {n : Int} {zs os vs : List Int} {ko kv : Nat} {fine : Int} {R S : List RT} (L : List Int) (h : S.map RT.key = R.map RT.key) : planV n zs os vs ko kv fine S L = planV n zs os vs ko kv fine R L := by
  unfold planV
  rw [key_len h, allTo_key h]
  by_cases hc : caseB n zs os vs ko kv fine = true
  · rw [if_pos hc, if_pos hc]
    by_cases hr : RtsOk n zs os vs ko kv R R.length
    · rw [if_pos hr, if_pos ((RtsOk_key h _).2 hr)]
    · rw [if_neg hr, if_neg (fun x => hr ((RtsOk_key h _).1 x))]
  · rw [if_neg hc, if_neg hc]
/-- A plan that toPlan made: rows of its own, the same vehicles and stops as R, L. -/
def PlanAt (w : World) (g gl : Nat) (S R : List RT) (L : List Int) : Prop := w.heap[g]? = some (.cells (rowR S).toArray 46 (0, 0)) ∧ NewR w (g + 1) R S ∧ w.heap[gl]? = some (.cells (cellsOf L) 2 (0, 0))
theorem PlanAt.below {w w' : World} {g gl : Nat} {S R : List RT} {L : List Int} (h : PlanAt w g gl S R L) (hb : Below w.heap.size w w') : PlanAt w' g gl S R L :=
  ⟨below_row hb (row_lt h.1) h.1, h.2.1.below hb, below_row hb (row_lt h.2.2) h.2.2⟩
theorem PlanAt.r {w : World} {g gl : Nat} {S R : List RT} {L : List Int} (h : PlanAt w g gl S R L) : RoutesAt w (some ⟨g, 0, none⟩) S := RoutesAt.of_row h.1 h.2.1.ints
theorem PlanAt.l {w : World} {g gl : Nat} {S R : List RT} {L : List Int} (h : PlanAt w g gl S R L) : IntsAt w (some ⟨gl, 0, none⟩) L := IntsAt.of_row h.2.2
theorem PlanAt.k {w : World} {g gl : Nat} {S R : List RT} {L : List Int} (h : PlanAt w g gl S R L) : S.map RT.key = R.map RT.key := h.2.1.1
theorem PlanAt.room {w : World} {g gl : Nat} {S R : List RT} {L : List Int} (h : PlanAt w g gl S R L) : ∀ s ∈ S, s.ids.length ≤ s.c := fun s hs => by
  obtain ⟨_, _, _, hc, _⟩ := h.2.1.2 s hs
  omega
theorem key_ids {R S : List RT} (h : S.map RT.key = R.map RT.key) {b : Nat} (hi : ∀ r ∈ R, r.ids.length ≤ b) : ∀ s ∈ S, s.ids.length ≤ b := fun s hs => by
  have : s.key ∈ S.map RT.key := List.mem_map_of_mem hs
  rw [h] at this
  obtain ⟨r, hr, e⟩ := List.mem_map.1 this
  have := hi r hr
  unfold RT.key at e
  simp at e
  rw [← e.2]
  exact this
/-- What szPlan's yes tells. -/
theorem szR_sum (R : List RT) (left : Int) : ∀ k, k ≤ R.length → 0 ≤ szR R left k → ((allTo R k).length : Int) + szR R left k = left
  | 0, _, _ => by rw [allTo_zero]; simp [szR]
  | k + 1, hk, h => by
    have e : szR R left (k + 1) = if szR R left k < 0 then -1 else if szR R left k < ((R.getD k rt0).ids.length : Int) then -1 else szR R left k - (R.getD k rt0).ids.length := rfl
    rw [e] at h ⊢
    by_cases c1 : szR R left k < 0
    · rw [if_pos c1] at h; omega
    · rw [if_neg c1] at h ⊢
      by_cases c2 : szR R left k < ((R.getD k rt0).ids.length : Int)
      · rw [if_pos c2] at h; omega
      · rw [if_neg c2]
        have ih := szR_sum R left k (by omega) (by omega)
        rw [allTo_succ (by omega), List.length_append]
        omega
theorem szPl_small {R : List RT} {ln : Nat} {left : Int} (h0 : 0 ≤ left) (h1 : left ≤ 1048576) (h : 0 ≤ szPl R ln left) : R.length ≤ 1048576 ∧ (∀ r ∈ R, r.ids.length ≤ 1048576) ∧ ln ≤ 1048576 ∧ (allTo R R.length).length ≤ 1048576 := by
  unfold szPl at h
  by_cases c1 : szRS R left < 0
  · rw [if_pos c1] at h; omega
  · rw [if_neg c1] at h
    by_cases c2 : szRS R left < (ln : Int)
    · rw [if_pos c2] at h; omega
    · rw [if_neg c2] at h
      unfold szRS at c1 c2
      by_cases c3 : left < (R.length : Int)
      · rw [if_pos c3] at c1; omega
      · rw [if_neg c3] at c1 c2
        have hsum := szR_sum R (left - R.length) R.length (Nat.le_refl _) (by omega)
        have hids := szR_ids R (left - R.length) (by omega) R.length
        have hle := szR_le R (left - R.length) (by omega) R.length
        refine ⟨by omega, fun r hr => ?_, by omega, by omega⟩
        obtain ⟨j, hj, e⟩ := List.getElem_of_mem hr
        have := hids j hj (by omega)
        rw [List.getD_eq_getElem?_getD, List.getElem?_eq_getElem hj] at this
        simp only [Option.getD_some, e] at this
        omega
theorem specPlan_at (n fine : Int) (a ao av : Option Addr) (cap ko co kv cv g gl : Nat) (zs os vs L : List Int) (S R : List RT) (w : World) (hA : IntsAt w a zs) (hO : IntsAt w ao os) (hV : IntsAt w av vs) (hP : PlanAt w g gl S R L) (hlo : os.length = ko * 6) (hlv : vs.length = kv * 5) (hko : ko ≤ 9223372036854775807) (hkv : kv ≤ 9223372036854775807) (hn : R.length ≤ 1048576) (hi : ∀ r ∈ R, r.ids.length ≤ 1048576) (hll : L.length ≤ 1048576) (hal : (allTo R R.length).length ≤ 1048576) :
    Calls Try.prog 11 #[.agg #[.int .i64 n, .slice a zs.length cap, .slice ao ko co, .slice av kv cv, .int .i64 fine], .agg #[.slice (some ⟨g, 0, none⟩) R.length R.length, .slice (some ⟨gl, 0, none⟩) L.length L.length]] w fun e w' => e = .returned (.int .i64 (planV n zs os vs ko kv fine R L)) ∧ Below w.heap.size w w' := by
  have hk := key_len hP.k
  have := specPlan_any n fine a ao av (some ⟨g, 0, none⟩) (some ⟨gl, 0, none⟩) cap ko co kv cv R.length L.length zs os vs L S w hA hO hV hP.r hP.l hlo hlv hko hkv (by omega) (key_ids hP.k hi) hP.room hll (by rw [allTo_key hP.k, hk]; exact hal)
  rw [hk, planV_key L hP.k] at this
  exact this
theorem implPlan_at (n fine : Int) (a ao av : Option Addr) (cap ko co kv cv g gl : Nat) (zs os vs L : List Int) (S R : List RT) (w : World) (hA : IntsAt w a zs) (hO : IntsAt w ao os) (hV : IntsAt w av vs) (hP : PlanAt w g gl S R L) (hlo : os.length = ko * 6) (hlv : vs.length = kv * 5) (hko : ko ≤ 9223372036854775807) (hkv : kv ≤ 9223372036854775807) (hn : R.length ≤ 1048576) (hi : ∀ r ∈ R, r.ids.length ≤ 1048576) (hll : L.length ≤ 1048576) (hal : (allTo R R.length).length ≤ 1048576) (hwl : ∀ x ∈ L, (Lit.int .i64 x).wf = true) :
    Calls Try.prog 9 #[.agg #[.int .i64 n, .slice a zs.length cap, .slice ao ko co, .slice av kv cv, .int .i64 fine], .agg #[.slice (some ⟨g, 0, none⟩) R.length R.length, .slice (some ⟨gl, 0, none⟩) L.length L.length]] w fun e w' => e = .returned (.int .i64 (planV n zs os vs ko kv fine R L)) ∧ Below w.heap.size w w' := by
  have hk := key_len hP.k
  have := implPlan_any n fine a ao av (some ⟨g, 0, none⟩) (some ⟨gl, 0, none⟩) cap ko co kv cv R.length L.length zs os vs L S w hA hO hV hP.r hP.l hlo hlv hko hkv (by omega) (key_ids hP.k hi) hP.room hll (by rw [allTo_key hP.k, hk]; exact hal) hwl
  rw [hk, planV_key L hP.k] at this
  exact this
theorem eqPlan_at (g gl g2 gl2 : Nat) (S S2 R : List RT) (L : List Int) (w : World) (hP : PlanAt w g gl S R L) (hQ : PlanAt w g2 gl2 S2 R L) (hn : R.length ≤ 1048576) (hi : ∀ r ∈ R, r.ids.length ≤ 1048576) (hll : L.length ≤ 1048576) :
    Calls Try.prog 27 #[.agg #[.slice (some ⟨g, 0, none⟩) R.length R.length, .slice (some ⟨gl, 0, none⟩) L.length L.length], .agg #[.slice (some ⟨g2, 0, none⟩) R.length R.length, .slice (some ⟨gl2, 0, none⟩) L.length L.length]] w fun e w' => e = .returned (.bool true) ∧ Below w.heap.size w w' :=
  eqPlan_same _ _ _ _ _ _ R.length _ _ S S2 L w hP.r hQ.r (hQ.k.trans hP.k.symm) (key_len hP.k) hn (key_ids hP.k hi) hP.l hQ.l hll
theorem toPlan_at (ra la : Option Addr) (rc lc : Nat) (R : List RT) (L : List Int) (w : World) (hA : RoutesAt w ra R) (hL : IntsAt w la L) (hn : R.length ≤ 1048576) (hi : ∀ r ∈ R, r.ids.length ≤ 1048576) (hll : L.length ≤ 1048576) :
    Calls Try.prog 25 #[.agg #[.slice ra R.length rc, .slice la L.length lc]] w fun e w' => ∃ g gl S, e = .returned (.agg #[.slice (some ⟨g, 0, none⟩) R.length R.length, .slice (some ⟨gl, 0, none⟩) L.length L.length]) ∧ Below w.heap.size w w' ∧ PlanAt w' g gl S R L :=
  (toPlan_any ra la rc lc R L w hA hL hn hi hll).mono fun _ _ ⟨g, gl, S, h1, h2, _, _, h5, h6, h7⟩ => ⟨g, gl, S, h1, h2, h5, h6, h7⟩

end Go.Proofs.Ytonopidjkcmlmaa
