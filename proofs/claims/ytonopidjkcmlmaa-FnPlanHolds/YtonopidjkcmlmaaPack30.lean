import Derived.Test.YtonopidjkcmlmaaPack0
import Derived.Test.YtonopidjkcmlmaaPack1
import Derived.Test.YtonopidjkcmlmaaPack2
import Derived.Test.YtonopidjkcmlmaaPack8
import Derived.Test.YtonopidjkcmlmaaPack25
import Derived.Test.YtonopidjkcmlmaaPack27
import Derived.Test.YtonopidjkcmlmaaSpecPlan
import Derived.Test.YtonopidjkcmlmaaPack29
namespace Go.Proofs.Ytonopidjkcmlmaa
open Go.RowKit

theorem key_len {R S : List RT} (h : S.map RT.key = R.map RT.key) : S.length = R.length := by
  have := congrArg List.length h
  simpa using this
theorem allTo_key {R S : List RT} (h : S.map RT.key = R.map RT.key) (k : Nat) : allTo S k = allTo R k := by
  have e : ∀ T : List RT, allTo T k = ((T.map RT.key).take k).flatMap (fun x => x.2) := fun T => by
    unfold allTo
    rw [← List.map_take, List.flatMap_map]
    rfl
  rw [e S, e R, h]
theorem RtsOk_key {n : Int} {zs os vs : List Int} {ko kv : Nat} {R S : List RT} (h : S.map RT.key = R.map RT.key) (k : Nat) : RtsOk n zs os vs ko kv S k ↔ RtsOk n zs os vs ko kv R k := by
  have e : ∀ j, (S.getD j rt0).v = (R.getD j rt0).v ∧ (S.getD j rt0).ids = (R.getD j rt0).ids := key_at h
  unfold RtsOk
  constructor
  · intro H j hj
    have := H j hj
    rw [(e j).1, (e j).2, (e (j - 1)).1] at this
    exact this
  · intro H j hj
    have := H j hj
    rw [(e j).1, (e j).2, (e (j - 1)).1]
    exact this
theorem planV_key {n : Int} {zs os vs : List Int} {ko kv : Nat} {fine : Int} {R S : List RT} (L : List Int) (h : S.map RT.key = R.map RT.key) : planV n zs os vs ko kv fine S L = planV n zs os vs ko kv fine R L := by
  unfold planV
  rw [key_len h, allTo_key h]
  by_cases hc : caseB n zs os vs ko kv fine = true
  · rw [if_pos hc, if_pos hc]
    by_cases hr : RtsOk n zs os vs ko kv R R.length
    · rw [if_pos hr, if_pos ((RtsOk_key h _).2 hr)]
    · rw [if_neg hr, if_neg (fun x => hr ((RtsOk_key h _).1 x))]
  · rw [if_neg hc, if_neg hc]
/-- A plan that toPlan made: rows of its own, the same vehicles and stops as R, L. -/
def PlanAt (w : World) (g gl : Nat) (S R : List RT) (L : List Int) : Prop := w.heap[g]? = some (.cells (rowR S).toArray 46 (0, 0)) ∧ NewR w (g + 1) R S ∧ w.heap[gl]? = some (.cells (cellsOf L) 2 (0, 0))
theorem PlanAt.below {w w' : World} {g gl : Nat} {S R : List RT} {L : List Int} (h : PlanAt w g gl S R L) (hb : Below w.heap.size w w') : PlanAt w' g gl S R L :=
  ⟨below_row hb (row_lt h.1) h.1, h.2.1.below hb, below_row hb (row_lt h.2.2) h.2.2⟩
theorem PlanAt.r {w : World} {g gl : Nat} {S R : List RT} {L : List Int} (h : PlanAt w g gl S R L) : RoutesAt w (some ⟨g, 0, none⟩) S := RoutesAt.of_row h.1 h.2.1.ints
theorem PlanAt.l {w : World} {g gl : Nat} {S R : List RT} {L : List Int} (h : PlanAt w g gl S R L) : IntsAt w (some ⟨gl, 0, none⟩) L := IntsAt.of_row h.2.2
theorem PlanAt.k {w : World} {g gl : Nat} {S R : List RT} {L : List Int} (h : PlanAt w g gl S R L) : S.map RT.key = R.map RT.key := h.2.1.1
theorem PlanAt.room {w : World} {g gl : Nat} {S R : List RT} {L : List Int} (h : PlanAt w g gl S R L) : ∀ s ∈ S, s.ids.length ≤ s.c := fun s hs => by
  obtain ⟨_, _, _, hc, _⟩ := h.2.1.2 s hs
  omega
theorem key_ids {R S : List RT} (h : S.map RT.key = R.map RT.key) {b : Nat} (hi : ∀ r ∈ R, r.ids.length ≤ b) : ∀ s ∈ S, s.ids.length ≤ b := fun s hs => by
  have : s.key ∈ S.map RT.key := List.mem_map_of_mem hs
  rw [h] at this
  obtain ⟨r, hr, e⟩ := List.mem_map.1 this
  have := hi r hr
  unfold RT.key at e
  simp at e
  rw [← e.2]
  exact this
/-- What szPlan's yes tells. -/
theorem szR_sum (R : List RT) (left : Int) : ∀ k, k ≤ R.length → 0 ≤ szR R left k → ((allTo R k).length : Int) + szR R left k = left
  | 0, _, _ => by rw [allTo_zero]; simp [szR]
  | k + 1, hk, h => by
    have e : szR R left (k + 1) = if szR R left k < 0 then -1 else if szR R left k < ((R.getD k rt0).ids.length : Int) then -1 else szR R left k - (R.getD k rt0).ids.length := rfl
    rw [e] at h ⊢
    by_cases c1 : szR R left k < 0
    · rw [if_pos c1] at h; omega
    · rw [if_neg c1] at h ⊢
      by_cases c2 : szR R left k < ((R.getD k rt0).ids.length : Int)
      · rw [if_pos c2] at h; omega
      · rw [if_neg c2]
        have ih := szR_sum R left k (by omega) (by omega)
        rw [allTo_succ (by omega), List.length_append]
        omega
theorem szPl_small {R : List RT} {ln : Nat} {left : Int} (h0 : 0 ≤ left) (h1 : left ≤ 1048576) (h : 0 ≤ szPl R ln left) : R.length ≤ 1048576 ∧ (∀ r ∈ R, r.ids.length ≤ 1048576) ∧ ln ≤ 1048576 ∧ (allTo R R.length).length ≤ 1048576 := by
  unfold szPl at h
  by_cases c1 : szRS R left < 0
  · rw [if_pos c1] at h; omega
  · rw [if_neg c1] at h
    by_cases c2 : szRS R left < (ln : Int)
    · rw [if_pos c2] at h; omega
    · rw [if_neg c2] at h
      unfold szRS at c1 c2
      by_cases c3 : left < (R.length : Int)
      · rw [if_pos c3] at c1; omega
      · rw [if_neg c3] at c1 c2
        have hsum := szR_sum R (left - R.length) R.length (Nat.le_refl _) (by omega)
        have hids := szR_ids R (left - R.length) (by omega) R.length
        have hle := szR_le R (left - R.length) (by omega) R.length
        refine ⟨by omega, fun r hr => ?_, by omega, by omega⟩
        obtain ⟨j, hj, e⟩ := List.getElem_of_mem hr
        have := hids j hj (by omega)
        rw [List.getD_eq_getElem?_getD, List.getElem?_eq_getElem hj] at this
        simp only [Option.getD_some, e] at this
        omega
theorem specPlan_at (n fine : Int) (a ao av : Option Addr) (cap ko co kv cv g gl : Nat) (zs os vs L : List Int) (S R : List RT) (w : World) (hA : IntsAt w a zs) (hO : IntsAt w ao os) (hV : IntsAt w av vs) (hP : PlanAt w g gl S R L) (hlo : os.length = ko * 6) (hlv : vs.length = kv * 5) (hko : ko ≤ 9223372036854775807) (hkv : kv ≤ 9223372036854775807) (hn : R.length ≤ 1048576) (hi : ∀ r ∈ R, r.ids.length ≤ 1048576) (hll : L.length ≤ 1048576) (hal : (allTo R R.length).length ≤ 1048576) :
    Calls Try.prog 11 #[.agg #[.int .i64 n, .slice a zs.length cap, .slice ao ko co, .slice av kv cv, .int .i64 fine], .agg #[.slice (some ⟨g, 0, none⟩) R.length R.length, .slice (some ⟨gl, 0, none⟩) L.length L.length]] w fun e w' => e = .returned (.int .i64 (planV n zs os vs ko kv fine R L)) ∧ Below w.heap.size w w' := by
  have hk := key_len hP.k
  have := specPlan_any n fine a ao av (some ⟨g, 0, none⟩) (some ⟨gl, 0, none⟩) cap ko co kv cv R.length L.length zs os vs L S w hA hO hV hP.r hP.l hlo hlv hko hkv (by omega) (key_ids hP.k hi) hP.room hll (by rw [allTo_key hP.k, hk]; exact hal)
  rw [hk, planV_key L hP.k] at this
  exact this
theorem implPlan_at (n fine : Int) (a ao av : Option Addr) (cap ko co kv cv g gl : Nat) (zs os vs L : List Int) (S R : List RT) (w : World) (hA : IntsAt w a zs) (hO : IntsAt w ao os) (hV : IntsAt w av vs) (hP : PlanAt w g gl S R L) (hlo : os.length = ko * 6) (hlv : vs.length = kv * 5) (hko : ko ≤ 9223372036854775807) (hkv : kv ≤ 9223372036854775807) (hn : R.length ≤ 1048576) (hi : ∀ r ∈ R, r.ids.length ≤ 1048576) (hll : L.length ≤ 1048576) (hal : (allTo R R.length).length ≤ 1048576) (hwl : ∀ x ∈ L, (Lit.int .i64 x).wf = true) :
    Calls Try.prog 9 #[.agg #[.int .i64 n, .slice a zs.length cap, .slice ao ko co, .slice av kv cv, .int .i64 fine], .agg #[.slice (some ⟨g, 0, none⟩) R.length R.length, .slice (some ⟨gl, 0, none⟩) L.length L.length]] w fun e w' => e = .returned (.int .i64 (planV n zs os vs ko kv fine R L)) ∧ Below w.heap.size w w' := by
  have hk := key_len hP.k
  have := implPlan_any n fine a ao av (some ⟨g, 0, none⟩) (some ⟨gl, 0, none⟩) cap ko co kv cv R.length L.length zs os vs L S w hA hO hV hP.r hP.l hlo hlv hko hkv (by omega) (key_ids hP.k hi) hP.room hll (by rw [allTo_key hP.k, hk]; exact hal) hwl
  rw [hk, planV_key L hP.k] at this
  exact this
theorem eqPlan_at (g gl g2 gl2 : Nat) (S S2 R : List RT) (L : List Int) (w : World) (hP : PlanAt w g gl S R L) (hQ : PlanAt w g2 gl2 S2 R L) (hn : R.length ≤ 1048576) (hi : ∀ r ∈ R, r.ids.length ≤ 1048576) (hll : L.length ≤ 1048576) :
    Calls Try.prog 27 #[.agg #[.slice (some ⟨g, 0, none⟩) R.length R.length, .slice (some ⟨gl, 0, none⟩) L.length L.length], .agg #[.slice (some ⟨g2, 0, none⟩) R.length R.length, .slice (some ⟨gl2, 0, none⟩) L.length L.length]] w fun e w' => e = .returned (.bool true) ∧ Below w.heap.size w w' :=
  eqPlan_same _ _ _ _ _ _ R.length _ _ S S2 L w hP.r hQ.r (hQ.k.trans hP.k.symm) (key_len hP.k) hn (key_ids hP.k hi) hP.l hQ.l hll
theorem toPlan_at (ra la : Option Addr) (rc lc : Nat) (R : List RT) (L : List Int) (w : World) (hA : RoutesAt w ra R) (hL : IntsAt w la L) (hn : R.length ≤ 1048576) (hi : ∀ r ∈ R, r.ids.length ≤ 1048576) (hll : L.length ≤ 1048576) :
    Calls Try.prog 25 #[.agg #[.slice ra R.length rc, .slice la L.length lc]] w fun e w' => ∃ g gl S, e = .returned (.agg #[.slice (some ⟨g, 0, none⟩) R.length R.length, .slice (some ⟨gl, 0, none⟩) L.length L.length]) ∧ Below w.heap.size w w' ∧ PlanAt w' g gl S R L :=
  (toPlan_any ra la rc lc R L w hA hL hn hi hll).mono fun _ _ ⟨g, gl, S, h1, h2, _, _, h5, h6, h7⟩ => ⟨g, gl, S, h1, h2, h5, h6, h7⟩

end Go.Proofs.Ytonopidjkcmlmaa

namespace Go.Proofs.Ytonopidjkcmlmaa
open Go.RowKit

/-- What a route costs. -/
def rideR (n : Int) (zs os vs : List Int) (ko kv : Nat) (r : RT) : Int := rideV n zs (rosOf os ko r.ids) r.ids.length (fnd5F vs kv r.v 1)
/-- z and what the first k routes cost. -/
def costR (n : Int) (zs os vs : List Int) (ko kv : Nat) (R : List RT) (z : Int) : Nat → Int
  | 0 => z
  | k + 1 => costR n zs os vs ko kv R z k + rideR n zs os vs ko kv (R.getD k rt0)
open Classical in
/-- What PlanCost answers. -/
noncomputable def planC (n : Int) (zs os vs : List Int) (ko kv : Nat) (fine : Int) (R : List RT) (L : List Int) : Int :=
  if planV n zs os vs ko kv fine R L = 0 then costR n zs os vs ko kv R (fine * L.length) R.length else -1
theorem rideR_bd {n : Int} {zs os vs : List Int} {ko kv : Nat} {fine : Int} {R : List RT} {k m : Nat} (hc : caseB n zs os vs ko kv fine = true) (h : RtsOk n zs os vs ko kv R m) (hk : k < m) : 0 ≤ rideR n zs os vs ko kv (R.getD k rt0) ∧ rideR n zs os vs ko kv (R.getD k rt0) ≤ 130000 :=
  rideV_bd (caseB_parts hc).1 _ _ (stopsB_true (formV_zero (codeV_zero (h k hk).2.2).1).2.2).1 _
theorem costR_bd {n : Int} {zs os vs : List Int} {ko kv : Nat} {fine : Int} {R : List RT} {m : Nat} (hc : caseB n zs os vs ko kv fine = true) (h : RtsOk n zs os vs ko kv R m) (z : Int) : ∀ k, k ≤ m → z ≤ costR n zs os vs ko kv R z k ∧ costR n zs os vs ko kv R z k ≤ z + 130000 * k
  | 0, _ => by simp [costR]
  | k + 1, hk => by
    have ih := costR_bd hc h z k (by omega)
    have h1 := rideR_bd hc h (show k < m by omega)
    simp only [costR]
    omega
theorem rts_len {n : Int} {zs os vs : List Int} {ko kv : Nat} {R : List RT} : ∀ {k : Nat}, k ≤ R.length → RtsOk n zs os vs ko kv R k → k ≤ (allTo R k).length
  | 0, _, _ => Nat.zero_le _
  | k + 1, hk, h => by
    have ih := rts_len (k := k) (by omega) (fun j hj => h j (by omega))
    have h2 := (h k (by omega)).2.1
    have h3 : 0 < (R.getD k rt0).ids.length := List.length_pos_iff.2 h2
    rw [allTo_succ (by omega), List.length_append]
    omega
/-- What a plan that holds bounds. -/
theorem plan_small {n : Int} {zs os vs : List Int} {ko kv : Nat} {fine : Int} {R : List RT} {L : List Int} (h : planV n zs os vs ko kv fine R L = 0) : R.length ≤ 12 ∧ L.length ≤ 12 ∧ 0 ≤ fine * L.length ∧ fine * L.length ≤ 12000000 := by
  obtain ⟨h1, h2, _, _, h5⟩ := planV_zero h
  have h6 := rts_len (Nat.le_refl _) h2
  have h7 := (ordsB_true (caseB_parts h1).2.1).1
  obtain ⟨_, _, _, _, h8, h9⟩ := caseB_parts h1
  refine ⟨by omega, by omega, Int.mul_nonneg h8 (by omega), ?_⟩
  have := Int.mul_le_mul h9 (show (L.length : Int) ≤ 12 by omega) (by omega) (by omega)
  omega
theorem costR_key {n : Int} {zs os vs : List Int} {ko kv : Nat} {R S : List RT} (h : S.map RT.key = R.map RT.key) (z : Int) : ∀ k, costR n zs os vs ko kv S z k = costR n zs os vs ko kv R z k
  | 0 => rfl
  | k + 1 => by
    simp only [costR, costR_key h z k, rideR, (key_at h k).1, (key_at h k).2]
theorem planC_key {n : Int} {zs os vs : List Int} {ko kv : Nat} {fine : Int} {R S : List RT} (L : List Int) (h : S.map RT.key = R.map RT.key) : planC n zs os vs ko kv fine S L = planC n zs os vs ko kv fine R L := by
  unfold planC
  rw [planV_key L h, key_len h, costR_key h]

set_option maxHeartbeats 2000000 in
theorem implCosts_any (n fine : Int) (a ao av ra la : Option Addr) (cap ko co kv cv rc lc : Nat) (zs os vs L : List Int) (R : List RT) (w : World) (hA : IntsAt w a zs) (hO : IntsAt w ao os) (hV : IntsAt w av vs) (hR : RoutesAt w ra R) (hlo : os.length = ko * 6) (hlv : vs.length = kv * 5) (hko : ko ≤ 9223372036854775807) (hkv : kv ≤ 9223372036854775807) (hrc : ∀ r ∈ R, r.ids.length ≤ r.c) (hpl : planV n zs os vs ko kv fine R L = 0) :
    Calls Try.prog 44 #[.agg #[.int .i64 n, .slice a zs.length cap, .slice ao ko co, .slice av kv cv, .int .i64 fine], .agg #[.slice ra R.length rc, .slice la L.length lc]] w fun e w' => e = .returned (.int .i64 (costR n zs os vs ko kv R (fine * L.length) R.length)) ∧ Below w.heap.size w w' := by
  have HA : Hid (IntsAt w a zs) := hA
  have HO : Hid (IntsAt w ao os) := hO
  have HV : Hid (IntsAt w av vs) := hV
  have HR : Hid (RoutesAt w ra R) := hR
  have HLO : Hid _ := hlo
  have HLV : Hid _ := hlv
  have HRC : Hid (∀ r ∈ R, r.ids.length ≤ r.c) := hrc
  obtain ⟨hcB, hrts, _, _, _⟩ := planV_zero hpl
  obtain ⟨hs1, hs2, hs3, hs4⟩ := plan_small hpl
  have HC : Hid (caseB n zs os vs ko kv fine = true) := hcB
  have HRTS : Hid (RtsOk n zs os vs ko kv R R.length) := hrts
  clear hA hO hV hR hlo hlv hrc hcB hrts hpl
  obtain ⟨m, HN⟩ : ∃ n, Hid (R.length = n) := ⟨_, rfl⟩
  obtain ⟨ml, HM⟩ : ∃ n, Hid (L.length = n) := ⟨_, rfl⟩
  rw [HN.out] at hs1 HRTS ⊢
  rw [HM.out] at hs2 hs3 hs4 ⊢
  obtain ⟨z, HZ⟩ : ∃ z, Hid (fine * (ml : Int) = z) := ⟨_, rfl⟩
  rw [HZ.out] at hs3 hs4 ⊢
  have hwz : wrap64 (fine * (ml : Int)) = z := by rw [HZ.out]; exact IntWalk.wrap64_in _ (by omega)
  have hwz2 : IntKind.i64.wrap (fine * (ml : Int)) = z := by rw [HZ.out]; exact IntWalk.i64_in _ (by omega)
  have HBD : Hid (∀ k, k ≤ m → z ≤ costR n zs os vs ko kv R z k ∧ costR n zs os vs ko kv R z k ≤ z + 130000 * k) := costR_bd HC.out HRTS.out z
  have C0 : Hid (CP w ((w.alloc (.cells #[.int .i64 n, .slice a zs.length cap, .slice ao ko co, .slice av kv cv, .int .i64 fine] 30)).alloc (.cells #[.slice ra m rc, .slice la ml lc] 33)) _ _) := CP.new w _ _
  obtain ⟨c0, c1, c2, c3, c4⟩ := cells5 C0.out.2.1
  obtain ⟨d0, d1⟩ := cells2 C0.out.2.2
  go_enter Try.func44, Try.ntmps44
  go_wp2_with fail
  clear c0 c1 c2 c3 c4 d0 d1 hwz hwz2
  generalize (w.alloc (.cells #[.int .i64 n, .slice a zs.length cap, .slice ao ko co, .slice av kv cv, .int .i64 fine] 30)).alloc (.cells #[.slice ra m rc, .slice la ml lc] 33) = W0 at *
  go_loopw [5, 19] (fun ts ti wr => ∃ k : Nat, k ≤ m ∧ ti = .int .i64 k ∧ ts = .int .i64 (costR n zs os vs ko kv R z k) ∧ CP w wr #[.int .i64 n, .slice a zs.length cap, .slice ao ko co, .slice av kv cv, .int .i64 fine] #[.slice ra m rc, .slice la ml lc]) (fun _ ti _ => m - (intOf ti).toNat)
  case atStart => exact ⟨0, Nat.zero_le _, rfl, rfl, C0.out⟩
  case round =>
    clear C0
    obtain ⟨k, hk, rfl, rfl, hcp⟩ := hrel
    have CW : Hid (CP w wr #[.int .i64 n, .slice a zs.length cap, .slice ao ko co, .slice av kv cv, .int .i64 fine] #[.slice ra m rc, .slice la ml lc]) := hcp
    clear hcp
    by_cases hlt : k < m
    · have hkl : k < R.length := by rw [HN.out]; exact hlt
      have hmem : R.getD k rt0 ∈ R := by rw [List.getD_eq_getElem?_getD, List.getElem?_eq_getElem hkl]; simp
      obtain ⟨b, off, rfl, h1, h2, h3⟩ := (HR.out.below CW.out.1) k hkl
      have HRCL : Hid _ := HRC.out _ hmem
      have hcode := (HRTS.out k hlt).2.2
      have hbd := HBD.out (k + 1) (by omega)
      have hb0 := HBD.out k hk
      have h12 := (stopsB_true (formV_zero (codeV_zero hcode).1).2.2).1
      have HNX : Hid (costR n zs os vs ko kv R z (k + 1) = costR n zs os vs ko kv R z k + rideR n zs os vs ko kv (R.getD k rt0)) := rfl
      rw [HNX.out] at hbd
      unfold rideR at HNX hbd
      obtain ⟨r, HRT⟩ : ∃ r, Hid (R.getD k rt0 = r) := ⟨_, rfl⟩
      rw [HRT.out] at h1 h2 h3 HRCL hcode h12 HNX hbd
      have HCODE : Hid _ := hcode
      have IR : Hid (IntsAt wr r.a r.ids) := h3
      obtain ⟨hmat, hords, hvehs, hn1, _⟩ := caseB_parts HC.out
      have hvb := (fnd5F_bd hvehs hn1 r.v)
      have HVB : Hid (0 ≤ fnd5F vs kv r.v 1 ∧ fnd5F vs kv r.v 1 < n) := hvb.1
      have HMAT : Hid (matB n zs = true) := hmat
      have HRB : Hid (RosBd n (rosOf os ko r.ids) r.ids.length) := rosBd_of hords hn1 _
      clear h3 hmem hkl hcode hmat hords hvehs hn1 hvb
      obtain ⟨f0, F0⟩ : ∃ t, Hid (fnd5F vs kv r.v 0 = t) := ⟨_, rfl⟩
      obtain ⟨f1, F1⟩ : ∃ t, Hid (fnd5F vs kv r.v 1 = t) := ⟨_, rfl⟩
      obtain ⟨f2, F2⟩ : ∃ t, Hid (fnd5F vs kv r.v 2 = t) := ⟨_, rfl⟩
      obtain ⟨f3, F3⟩ : ∃ t, Hid (fnd5F vs kv r.v 3 = t) := ⟨_, rfl⟩
      obtain ⟨f4, F4⟩ : ∃ t, Hid (fnd5F vs kv r.v 4 = t) := ⟨_, rfl⟩
      rw [F1.out] at HVB HNX hbd
      obtain ⟨s, HS⟩ : ∃ s, Hid (costR n zs os vs ko kv R z k = s) := ⟨_, rfl⟩
      obtain ⟨rd, HRD⟩ : ∃ s, Hid (rideV n zs (rosOf os ko r.ids) r.ids.length f1 = s) := ⟨_, rfl⟩
      rw [HS.out] at HNX hbd hb0
      rw [HRD.out] at HNX hbd
      rw [HS.out]
      have hws : wrap64 (s + rd) = s + rd := IntWalk.wrap64_in _ (by omega)
      have BX : Hid (Below wr.heap.size wr (wr.alloc (.cells #[Value.int IntKind.i64 r.v, Value.slice r.a r.ids.length r.c] 46))) := (Below.refl _ _).alloc (Nat.le_refl _) _
      have GX : Hid ((wr.alloc (.cells #[Value.int IntKind.i64 r.v, Value.slice r.a r.ids.length r.c] 46)).heap[wr.heap.size]? = _) := heap_alloc_new _ _
      have CX : Hid (CP w (wr.alloc (.cells #[Value.int IntKind.i64 r.v, Value.slice r.a r.ids.length r.c] 46)) _ _) := CW.out.below BX.out
      obtain ⟨c0, c1, c2, c3, c4⟩ := cells5 CX.out.2.1
      obtain ⟨d0, d1⟩ := cells2 GX.out
      go_wp2_with fail
      clear c0 c1 c2 c3 c4 d0 d1 h1 h2
      generalize (wr.alloc (.cells #[Value.int IntKind.i64 r.v, Value.slice r.a r.ids.length r.c] 46)) = W1 at *
      refine (tourOf_any n fine r.v a ao av r.a cap ko co kv cv r.c zs os vs r.ids W1 (HA.out.below CX.out.1) (HO.out.below CX.out.1) (HV.out.below CX.out.1) (IR.out.below BX.out) HLO.out HLV.out hko hkv (by omega) HRCL.out HC.out).mono ?_
      rintro e w2 ⟨hb, ⟨hcode, rfl⟩ | ⟨-, g, -, rfl, hros⟩⟩
      · exact absurd HCODE.out hcode
      have C2 : Hid (CP w w2 _ _) := CX.out.below hb
      have I2 : Hid (IntsAt w2 (some ⟨g, 0, none⟩) (rosOf os ko r.ids)) := hros
      rw [F0.out, F1.out, F2.out, F3.out, F4.out]
      clear hb hros CX GX BX IR CW
      have BY : Hid (Below w2.heap.size w2 (w2.alloc (.cells #[.int .i64 n, .slice a zs.length cap, .int .i64 f0, .int .i64 f1, .int .i64 f2, .int .i64 f3, .int .i64 f4, .slice (some ⟨g, 0, none⟩) r.ids.length r.ids.length] 83))) := (Below.refl _ _).alloc (Nat.le_refl _) _
      have GY : Hid ((w2.alloc (.cells #[.int .i64 n, .slice a zs.length cap, .int .i64 f0, .int .i64 f1, .int .i64 f2, .int .i64 f3, .int .i64 f4, .slice (some ⟨g, 0, none⟩) r.ids.length r.ids.length] 83)).heap[w2.heap.size]? = _) := heap_alloc_new _ _
      obtain ⟨t0, t1, t2, t3, t4, t5, t6, t7⟩ := cells8 GY.out
      go_wp2_with fail
      clear t0 t1 t2 t3 t4 t5 t6 t7
      generalize (w2.alloc (.cells #[.int .i64 n, .slice a zs.length cap, .int .i64 f0, .int .i64 f1, .int .i64 f2, .int .i64 f3, .int .i64 f4, .slice (some ⟨g, 0, none⟩) r.ids.length r.ids.length] 83)) = W3 at *
      have C3 : Hid (CP w W3 _ _) := C2.out.below BY.out
      refine (tourCost_any n f0 f1 f2 f3 f4 a _ cap r.ids.length _ zs (rosOf os ko r.ids) W3 HMAT.out (HA.out.below C3.out.1) (I2.out.below BY.out) (rosOf_length os ko r.ids) HRB.out HVB.out h12).mono ?_
      rintro e w4 ⟨rfl, hb⟩
      rw [HRD.out]
      have C4 : Hid (CP w w4 _ _) := C3.out.below hb
      clear hb C3 C2 BY GY I2
      go_wp2
      first
        | exact ⟨⟨k + 1, by omega, by go_num, by rw [HNX.out], C4.out⟩, by simp [intOf]; omega⟩
        | (go_roundw
           case rel => exact ⟨k + 1, by omega, by go_num, by rw [HNX.out], C4.out⟩
           case measure => simp [intOf]; omega)
    · have hkm : k = m := by omega
      subst hkm
      go_wp2
      go_ret
      exact ⟨rfl, CW.out.1⟩

end Go.Proofs.Ytonopidjkcmlmaa

namespace Go.Proofs.Ytonopidjkcmlmaa
open Go.RowKit

set_option maxRecDepth 10000 in
set_option maxHeartbeats 2000000 in
theorem l4Cost_any (n fine : Int) (a ao av ra la : Option Addr) (cap ko co kv cv rc lc : Nat) (zs os vs L : List Int) (R : List RT) (w : World) (hA : IntsAt w a zs) (hO : IntsAt w ao os) (hV : IntsAt w av vs) (hR : RoutesAt w ra R) (hlo : os.length = ko * 6) (hlv : vs.length = kv * 5) (hko : ko ≤ 9223372036854775807) (hkv : kv ≤ 9223372036854775807) (hpl : planV n zs os vs ko kv fine R L = 0) :
    Calls Try.prog 45 #[.agg #[.int .i64 n, .slice a zs.length cap, .slice ao ko co, .slice av kv cv, .int .i64 fine], .agg #[.slice ra R.length rc, .slice la L.length lc]] w fun e w' => e = .returned (.int .i64 (costR n zs os vs ko kv R (fine * L.length) R.length)) ∧ Below w.heap.size w w' := by
  have HA : Hid (IntsAt w a zs) := hA
  have HO : Hid (IntsAt w ao os) := hO
  have HV : Hid (IntsAt w av vs) := hV
  have HR : Hid (RoutesAt w ra R) := hR
  have HLO : Hid _ := hlo
  have HLV : Hid _ := hlv
  obtain ⟨hcB, hrts, _, _, _⟩ := planV_zero hpl
  obtain ⟨hs1, hs2, hs3, hs4⟩ := plan_small hpl
  have HC : Hid (caseB n zs os vs ko kv fine = true) := hcB
  have HRTS : Hid (RtsOk n zs os vs ko kv R R.length) := hrts
  clear hA hO hV hR hlo hlv hcB hrts hpl
  obtain ⟨m, HN⟩ : ∃ n, Hid (R.length = n) := ⟨_, rfl⟩
  obtain ⟨ml, HM⟩ : ∃ n, Hid (L.length = n) := ⟨_, rfl⟩
  rw [HN.out] at hs1 HRTS ⊢
  rw [HM.out] at hs2 hs3 hs4 ⊢
  obtain ⟨z, HZ⟩ : ∃ z, Hid (fine * (ml : Int) = z) := ⟨_, rfl⟩
  rw [HZ.out] at hs3 hs4 ⊢
  have hwz : wrap64 (fine * (ml : Int)) = z := by rw [HZ.out]; exact IntWalk.wrap64_in _ (by omega)
  have hwz2 : IntKind.i64.wrap (fine * (ml : Int)) = z := by rw [HZ.out]; exact IntWalk.i64_in _ (by omega)
  have HBD : Hid (∀ k, k ≤ m → z ≤ costR n zs os vs ko kv R z k ∧ costR n zs os vs ko kv R z k ≤ z + 130000 * k) := costR_bd HC.out HRTS.out z
  have C0 : Hid (CP w ((w.alloc (.cells #[.int .i64 n, .slice a zs.length cap, .slice ao ko co, .slice av kv cv, .int .i64 fine] 30)).alloc (.cells #[.slice ra m rc, .slice la ml lc] 33)) _ _) := CP.new w _ _
  obtain ⟨c0, c1, c2, c3, c4⟩ := cells5 C0.out.2.1
  obtain ⟨d0, d1⟩ := cells2 C0.out.2.2
  go_enter Try.func45, Try.ntmps45
  go_wp2_with fail
  clear c0 c1 c2 c3 c4 d0 d1 hwz hwz2
  generalize (w.alloc (.cells #[.int .i64 n, .slice a zs.length cap, .slice ao ko co, .slice av kv cv, .int .i64 fine] 30)).alloc (.cells #[.slice ra m rc, .slice la ml lc] 33) = W0 at *
  go_loopw [5, 6] (fun ts ti wr => ∃ k : Nat, k ≤ m ∧ ti = .int .i64 k ∧ ts = .int .i64 (costR n zs os vs ko kv R z k) ∧ CP w wr #[.int .i64 n, .slice a zs.length cap, .slice ao ko co, .slice av kv cv, .int .i64 fine] #[.slice ra m rc, .slice la ml lc]) (fun _ ti _ => m - (intOf ti).toNat)
  case atStart => exact ⟨0, Nat.zero_le _, rfl, rfl, C0.out⟩
  case round =>
    clear C0
    obtain ⟨k, hk, rfl, rfl, hcp⟩ := hrel
    have CW : Hid (CP w wr #[.int .i64 n, .slice a zs.length cap, .slice ao ko co, .slice av kv cv, .int .i64 fine] #[.slice ra m rc, .slice la ml lc]) := hcp
    clear hcp
    obtain ⟨c0, c1, c2, c3, c4⟩ := cells5 CW.out.2.1
    obtain ⟨d0, d1⟩ := cells2 CW.out.2.2
    by_cases hlt : k < m
    · have hkl : k < R.length := by rw [HN.out]; exact hlt
      obtain ⟨b, off, rfl, h1, h2, h3⟩ := (HR.out.below CW.out.1) k hkl
      have hcode := (HRTS.out k hlt).2.2
      have hbd := HBD.out (k + 1) (by omega)
      have hb0 := HBD.out k hk
      have h12 := (stopsB_true (formV_zero (codeV_zero hcode).1).2.2).1
      have HNX : Hid (costR n zs os vs ko kv R z (k + 1) = costR n zs os vs ko kv R z k + rideR n zs os vs ko kv (R.getD k rt0)) := rfl
      rw [HNX.out] at hbd
      unfold rideR at HNX hbd
      obtain ⟨r, HRT⟩ : ∃ r, Hid (R.getD k rt0 = r) := ⟨_, rfl⟩
      rw [HRT.out] at h1 h2 h3 hcode h12 HNX hbd
      have HCODE : Hid (codeV true n zs os vs ko kv r.v r.ids = 0) := hcode
      have IR : Hid (IntsAt wr r.a r.ids) := h3
      clear h3 hkl hcode
      obtain ⟨s, HS⟩ : ∃ s, Hid (costR n zs os vs ko kv R z k = s) := ⟨_, rfl⟩
      obtain ⟨rd, HRD⟩ : ∃ s, Hid (rideV n zs (rosOf os ko r.ids) r.ids.length (fnd5F vs kv r.v 1) = s) := ⟨_, rfl⟩
      rw [HS.out] at HNX hbd hb0
      rw [HRD.out] at HNX hbd
      rw [HS.out]
      have hws : wrap64 (s + rd) = s + rd := IntWalk.wrap64_in _ (by omega)
      have hws2 : IntKind.i64.wrap (s + rd) = s + rd := IntWalk.i64_in _ (by omega)
      have HCALL : Hid (∀ S : Kin wr, Calls Try.prog 85 #[.agg #[.int .i64 n, .slice a zs.length cap, .slice ao ko co, .slice av kv cv, .int .i64 fine], .agg #[.int .i64 r.v, .slice r.a r.ids.length r.c]] S.w fun e w' => e = .returned (.int .i64 rd) ∧ ∃ s' : Kin wr, w' = s'.w) := fun S => by
        have := l3Cost_any n fine r.v a ao av r.a cap ko co kv cv r.c zs os vs r.ids S.w ((HA.out.below CW.out.1).below S.below) ((HO.out.below CW.out.1).below S.below) ((HV.out.below CW.out.1).below S.below) (IR.out.below S.below) HLO.out HLV.out hko hkv (by omega) (by rw [HC.out]; exact HCODE.out)
        rw [HRD.out] at this
        exact Kin.call this
      have s0 := fun s : Kin wr => s.cell c0
      have s1 := fun s : Kin wr => s.cell c1
      have s2 := fun s : Kin wr => s.cell c2
      have s3 := fun s : Kin wr => s.cell c3
      have s4 := fun s : Kin wr => s.cell c4
      have t0 := fun s : Kin wr => s.cell d0
      have y0 := fun s : Kin wr => s.cell h1
      have y1 := fun s : Kin wr => s.cell h2
      have hkin := Kin.there wr
      go_wp2_with fail
      clear c0 c1 c2 c3 c4 d0 d1 h1 h2
      refine wp_region_kin (by kernel_rfl) (by kernel_rfl) ?_
      repeat (go_big_quiet_step ((go_at_call 85; exact HCALL.out _)))
      refine wpQuiet_nil ?_
      rintro _ ⟨S, rfl⟩
      have C3 : Hid (CP w S.w #[.int .i64 n, .slice a zs.length cap, .slice ao ko co, .slice av kv cv, .int .i64 fine] #[.slice (some ⟨b, off, none⟩) m rc, .slice la ml lc]) := CW.out.below S.below
      generalize S.w = w3 at *
      clear s0 s1 s2 s3 s4 t0 y0 y1 hkin CW IR HCALL
      go_wp2
      first
        | exact ⟨⟨k + 1, by omega, by go_num, by rw [HNX.out], C3.out⟩, by simp [intOf]; omega⟩
        | (go_roundw
           case rel => exact ⟨k + 1, by omega, by go_num, by rw [HNX.out], C3.out⟩
           case measure => simp [intOf]; omega)
    · have hkm : k = m := by omega
      subst hkm
      go_wp2
      go_ret
      exact ⟨rfl, CW.out.1⟩

end Go.Proofs.Ytonopidjkcmlmaa

namespace Go.Proofs.Ytonopidjkcmlmaa
open Go.RowKit

set_option maxHeartbeats 2000000 in
theorem implPlanCost_any (n fine : Int) (a ao av ra la : Option Addr) (cap ko co kv cv rc lc : Nat) (zs os vs L : List Int) (R : List RT) (w : World) (hA : IntsAt w a zs) (hO : IntsAt w ao os) (hV : IntsAt w av vs) (hR : RoutesAt w ra R) (hL : IntsAt w la L) (hlo : os.length = ko * 6) (hlv : vs.length = kv * 5) (hko : ko ≤ 9223372036854775807) (hkv : kv ≤ 9223372036854775807) (hn : R.length ≤ 1048576) (hi : ∀ r ∈ R, r.ids.length ≤ 1048576) (hrc : ∀ r ∈ R, r.ids.length ≤ r.c) (hll : L.length ≤ 1048576) (hal : (allTo R R.length).length ≤ 1048576) (hwl : ∀ x ∈ L, (Lit.int .i64 x).wf = true) :
    Calls Try.prog 19 #[.agg #[.int .i64 n, .slice a zs.length cap, .slice ao ko co, .slice av kv cv, .int .i64 fine], .agg #[.slice ra R.length rc, .slice la L.length lc]] w fun e w' => e = .returned (.int .i64 (planC n zs os vs ko kv fine R L)) ∧ Below w.heap.size w w' := by
  have HA : Hid (IntsAt w a zs) := hA
  have HO : Hid (IntsAt w ao os) := hO
  have HV : Hid (IntsAt w av vs) := hV
  have HR : Hid (RoutesAt w ra R) := hR
  have HL : Hid (IntsAt w la L) := hL
  have HLO : Hid _ := hlo
  have HLV : Hid _ := hlv
  have HN : Hid _ := hn
  have HLL : Hid _ := hll
  have HAL : Hid _ := hal
  have HI : Hid (∀ r ∈ R, r.ids.length ≤ 1048576) := hi
  have HRC : Hid (∀ r ∈ R, r.ids.length ≤ r.c) := hrc
  have HWL : Hid (∀ x ∈ L, (Lit.int .i64 x).wf = true) := hwl
  clear hA hO hV hR hL hlo hlv hi hrc hn hll hal hwl
  obtain ⟨x, HX⟩ : ∃ x, Hid (planC n zs os vs ko kv fine R L = x) := ⟨_, rfl⟩
  rw [HX.out]
  have C0 : Hid (CP w ((w.alloc (.cells #[.int .i64 n, .slice a zs.length cap, .slice ao ko co, .slice av kv cv, .int .i64 fine] 30)).alloc (.cells #[.slice ra R.length rc, .slice la L.length lc] 33)) _ _) := CP.new w _ _
  obtain ⟨c0, c1, c2, c3, c4⟩ := cells5 C0.out.2.1
  obtain ⟨d0, d1⟩ := cells2 C0.out.2.2
  go_enter Try.func19, Try.ntmps19
  go_wp2_with fail
  clear c0 c1 c2 c3 c4 d0 d1
  generalize (w.alloc (.cells #[.int .i64 n, .slice a zs.length cap, .slice ao ko co, .slice av kv cv, .int .i64 fine] 30)).alloc (.cells #[.slice ra R.length rc, .slice la L.length lc] 33) = W0 at *
  refine (implPlan_any n fine a ao av ra la cap ko co kv cv rc lc zs os vs L R W0 (HA.out.below C0.out.1) (HO.out.below C0.out.1) (HV.out.below C0.out.1) (HR.out.below C0.out.1) (HL.out.below C0.out.1) HLO.out HLV.out hko hkv HN.out HI.out HRC.out HLL.out HAL.out HWL.out).mono ?_
  rintro e w1 ⟨rfl, hb⟩
  have C1 : Hid (CP w w1 _ _) := C0.out.below hb
  clear hb C0
  by_cases hz : planV n zs os vs ko kv fine R L = 0
  · have HZ : Hid (planV n zs os vs ko kv fine R L = 0) := hz
    have HE : Hid (x = costR n zs os vs ko kv R (fine * L.length) R.length) := HX.out.symm.trans (if_pos hz)
    rw [hz]
    clear hz
    obtain ⟨c0, c1, c2, c3, c4⟩ := cells5 C1.out.2.1
    obtain ⟨d0, d1⟩ := cells2 C1.out.2.2
    go_wp2_with fail
    clear c0 c1 c2 c3 c4 d0 d1
    refine (implCosts_any n fine a ao av ra la cap ko co kv cv rc lc zs os vs L R w1 (HA.out.below C1.out.1) (HO.out.below C1.out.1) (HV.out.below C1.out.1) (HR.out.below C1.out.1) HLO.out HLV.out hko hkv HRC.out HZ.out).mono ?_
    rintro e w2 ⟨rfl, hb⟩
    have HB : Hid (Below w.heap.size w w2) := C1.out.1.trans (hb.mono C1.out.1.size)
    clear hb
    go_wp2
    go_ret
    exact ⟨by rw [HE.out]; rfl, HB.out⟩
  · have HE : Hid (x = -1) := HX.out.symm.trans (if_neg hz)
    obtain ⟨v, HVV⟩ : ∃ v, Hid (planV n zs os vs ko kv fine R L = v) := ⟨_, rfl⟩
    rw [HVV.out] at hz ⊢
    have hzb : (v != 0) = true := by simp [hz]
    go_wp2
    go_ret
    exact ⟨by rw [HE.out]; rfl, C1.out.1⟩

theorem implPlanCost_at (n fine : Int) (a ao av : Option Addr) (cap ko co kv cv g gl : Nat) (zs os vs L : List Int) (S R : List RT) (w : World) (hA : IntsAt w a zs) (hO : IntsAt w ao os) (hV : IntsAt w av vs) (hP : PlanAt w g gl S R L) (hlo : os.length = ko * 6) (hlv : vs.length = kv * 5) (hko : ko ≤ 9223372036854775807) (hkv : kv ≤ 9223372036854775807) (hn : R.length ≤ 1048576) (hi : ∀ r ∈ R, r.ids.length ≤ 1048576) (hll : L.length ≤ 1048576) (hal : (allTo R R.length).length ≤ 1048576) (hwl : ∀ x ∈ L, (Lit.int .i64 x).wf = true) :
    Calls Try.prog 19 #[.agg #[.int .i64 n, .slice a zs.length cap, .slice ao ko co, .slice av kv cv, .int .i64 fine], .agg #[.slice (some ⟨g, 0, none⟩) R.length R.length, .slice (some ⟨gl, 0, none⟩) L.length L.length]] w fun e w' => e = .returned (.int .i64 (planC n zs os vs ko kv fine R L)) ∧ Below w.heap.size w w' := by
  have hk := key_len hP.k
  have := implPlanCost_any n fine a ao av (some ⟨g, 0, none⟩) (some ⟨gl, 0, none⟩) cap ko co kv cv R.length L.length zs os vs L S w hA hO hV hP.r hP.l hlo hlv hko hkv (by omega) (key_ids hP.k hi) hP.room hll (by rw [allTo_key hP.k, hk]; exact hal) hwl
  rw [hk, planC_key L hP.k] at this
  exact this

set_option maxHeartbeats 2000000 in
theorem specPlanCost_any (n fine : Int) (a ao av ra la : Option Addr) (cap ko co kv cv rc lc : Nat) (zs os vs L : List Int) (R : List RT) (w : World) (hA : IntsAt w a zs) (hO : IntsAt w ao os) (hV : IntsAt w av vs) (hR : RoutesAt w ra R) (hL : IntsAt w la L) (hlo : os.length = ko * 6) (hlv : vs.length = kv * 5) (hko : ko ≤ 9223372036854775807) (hkv : kv ≤ 9223372036854775807) (hn : R.length ≤ 1048576) (hi : ∀ r ∈ R, r.ids.length ≤ 1048576) (hrc : ∀ r ∈ R, r.ids.length ≤ r.c) (hll : L.length ≤ 1048576) (hal : (allTo R R.length).length ≤ 1048576) :
    Calls Try.prog 20 #[.agg #[.int .i64 n, .slice a zs.length cap, .slice ao ko co, .slice av kv cv, .int .i64 fine], .agg #[.slice ra R.length rc, .slice la L.length lc]] w fun e w' => e = .returned (.int .i64 (planC n zs os vs ko kv fine R L)) ∧ Below w.heap.size w w' := by
  have HA : Hid (IntsAt w a zs) := hA
  have HO : Hid (IntsAt w ao os) := hO
  have HV : Hid (IntsAt w av vs) := hV
  have HR : Hid (RoutesAt w ra R) := hR
  have HL : Hid (IntsAt w la L) := hL
  have HLO : Hid _ := hlo
  have HLV : Hid _ := hlv
  have HN : Hid _ := hn
  have HLL : Hid _ := hll
  have HAL : Hid _ := hal
  have HI : Hid (∀ r ∈ R, r.ids.length ≤ 1048576) := hi
  have HRC : Hid (∀ r ∈ R, r.ids.length ≤ r.c) := hrc
  clear hA hO hV hR hL hlo hlv hi hrc hn hll hal
  obtain ⟨x, HX⟩ : ∃ x, Hid (planC n zs os vs ko kv fine R L = x) := ⟨_, rfl⟩
  rw [HX.out]
  have C0 : Hid (CP w ((w.alloc (.cells #[.int .i64 n, .slice a zs.length cap, .slice ao ko co, .slice av kv cv, .int .i64 fine] 30)).alloc (.cells #[.slice ra R.length rc, .slice la L.length lc] 33)) _ _) := CP.new w _ _
  obtain ⟨c0, c1, c2, c3, c4⟩ := cells5 C0.out.2.1
  obtain ⟨d0, d1⟩ := cells2 C0.out.2.2
  go_enter Try.func20, Try.ntmps20
  go_wp2_with fail
  clear c0 c1 c2 c3 c4 d0 d1
  generalize (w.alloc (.cells #[.int .i64 n, .slice a zs.length cap, .slice ao ko co, .slice av kv cv, .int .i64 fine] 30)).alloc (.cells #[.slice ra R.length rc, .slice la L.length lc] 33) = W0 at *
  refine (specPlan_any n fine a ao av ra la cap ko co kv cv rc lc zs os vs L R W0 (HA.out.below C0.out.1) (HO.out.below C0.out.1) (HV.out.below C0.out.1) (HR.out.below C0.out.1) (HL.out.below C0.out.1) HLO.out HLV.out hko hkv HN.out HI.out HRC.out HLL.out HAL.out).mono ?_
  rintro e w1 ⟨rfl, hb⟩
  have C1 : Hid (CP w w1 _ _) := C0.out.below hb
  clear hb C0
  by_cases hz : planV n zs os vs ko kv fine R L = 0
  · have HZ : Hid (planV n zs os vs ko kv fine R L = 0) := hz
    have HE : Hid (x = costR n zs os vs ko kv R (fine * L.length) R.length) := HX.out.symm.trans (if_pos hz)
    rw [hz]
    clear hz
    obtain ⟨c0, c1, c2, c3, c4⟩ := cells5 C1.out.2.1
    obtain ⟨d0, d1⟩ := cells2 C1.out.2.2
    go_wp2_with fail
    clear c0 c1 c2 c3 c4 d0 d1
    refine (l4Cost_any n fine a ao av ra la cap ko co kv cv rc lc zs os vs L R w1 (HA.out.below C1.out.1) (HO.out.below C1.out.1) (HV.out.below C1.out.1) (HR.out.below C1.out.1) HLO.out HLV.out hko hkv HZ.out).mono ?_
    rintro e w2 ⟨rfl, hb⟩
    have HB : Hid (Below w.heap.size w w2) := C1.out.1.trans (hb.mono C1.out.1.size)
    clear hb
    go_wp2
    go_ret
    exact ⟨by rw [HE.out]; rfl, HB.out⟩
  · have HE : Hid (x = -1) := HX.out.symm.trans (if_neg hz)
    obtain ⟨v, HVV⟩ : ∃ v, Hid (planV n zs os vs ko kv fine R L = v) := ⟨_, rfl⟩
    rw [HVV.out] at hz ⊢
    have hzb : (v != 0) = true := by simp [hz]
    go_wp2
    go_ret
    exact ⟨by rw [HE.out]; rfl, C1.out.1⟩

theorem specPlanCost_at (n fine : Int) (a ao av : Option Addr) (cap ko co kv cv g gl : Nat) (zs os vs L : List Int) (S R : List RT) (w : World) (hA : IntsAt w a zs) (hO : IntsAt w ao os) (hV : IntsAt w av vs) (hP : PlanAt w g gl S R L) (hlo : os.length = ko * 6) (hlv : vs.length = kv * 5) (hko : ko ≤ 9223372036854775807) (hkv : kv ≤ 9223372036854775807) (hn : R.length ≤ 1048576) (hi : ∀ r ∈ R, r.ids.length ≤ 1048576) (hll : L.length ≤ 1048576) (hal : (allTo R R.length).length ≤ 1048576) :
    Calls Try.prog 20 #[.agg #[.int .i64 n, .slice a zs.length cap, .slice ao ko co, .slice av kv cv, .int .i64 fine], .agg #[.slice (some ⟨g, 0, none⟩) R.length R.length, .slice (some ⟨gl, 0, none⟩) L.length L.length]] w fun e w' => e = .returned (.int .i64 (planC n zs os vs ko kv fine R L)) ∧ Below w.heap.size w w' := by
  have hk := key_len hP.k
  have := specPlanCost_any n fine a ao av (some ⟨g, 0, none⟩) (some ⟨gl, 0, none⟩) cap ko co kv cv R.length L.length zs os vs L S w hA hO hV hP.r hP.l hlo hlv hko hkv (by omega) (key_ids hP.k hi) hP.room hll (by rw [allTo_key hP.k, hk]; exact hal)
  rw [hk, planC_key L hP.k] at this
  exact this

end Go.Proofs.Ytonopidjkcmlmaa
