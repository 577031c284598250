import Derived.Test.YtonopidjkcmlmaaPack2
import Derived.Test.YtonopidjkcmlmaaPack3
import Derived.Test.YtonopidjkcmlmaaPack4
import Derived.Test.YtonopidjkcmlmaaPack5
namespace Go.Proofs.Ytonopidjkcmlmaa
open Go.RowKit

/-- A plan of the call's own: its routes, their stops, what is left. -/
structure PO (w : World) (base : Nat) (rs : Value) (S : List RT) (ls : Value) (L : List Int) : Prop where
  r : w.ownsRow base 46 2 rs S.length (rowR S)
  s : ∀ s ∈ S, w.ownsRow base 2 1 (.slice s.a s.ids.length s.c) s.ids.length (s.ids.map (Value.int .i64))
  l : w.ownsRow base 2 1 ls L.length (L.map (Value.int .i64))
theorem PO.below {w w' : World} {base : Nat} {rs ls : Value} {S : List RT} {L : List Int} (h : PO w base rs S ls L) (hb : Below w.heap.size w w') : PO w' base rs S ls L :=
  ⟨owns_below h.r hb, fun s hs => owns_below (h.s s hs) hb, owns_below h.l hb⟩
theorem PO.base {w : World} {base b0 : Nat} {rs ls : Value} {S : List RT} {L : List Int} (h : PO w base rs S ls L) (hb : b0 ≤ base) : PO w b0 rs S ls L :=
  ⟨owns_base h.r hb, fun s hs => owns_base (h.s s hs) hb, owns_base h.l hb⟩
theorem PO.set {w : World} {base b i : Nat} {rs ls u : Value} {S : List RT} {L : List Int} (h : PO w base rs S ls L) (hb : b < base) : PO (w.setCell ⟨b, i, none⟩ u) base rs S ls L :=
  ⟨owns_set h.r hb, fun s hs => owns_set (h.s s hs) hb, owns_set h.l hb⟩
theorem own_grown {w w' : World} {base size n q : Nat} {e : TypeId} {v : Value} {xs : List Value} (h : w.ownsRow base e size v n xs) (hg : w.grownBy w' (some q)) (hq : v.ownBlock ≠ some q) : w'.ownsRow base e size v n xs := by
  obtain ⟨h1, h2 | ⟨g, cap, cur, h2, h3, h4, h5⟩⟩ := h
  · exact ⟨h1, .inl h2⟩
  · refine ⟨h1, .inr ⟨g, cap, cur, h2, h3, grown_row hg h4 (fun e => hq ?_), h5⟩⟩
    rw [h2]
    exact e
theorem own_not {w : World} {base size n q : Nat} {e : TypeId} {v : Value} {xs : List Value} (h : w.ownsRow base e size v n xs) (hq : q < base ∨ w.heap.size ≤ q) : v.ownBlock ≠ some q := fun e => by
  have := h.lt q e
  omega
theorem PO.other {w w' : World} {base q : Nat} {rs ls : Value} {S : List RT} {L : List Int} (h : PO w base rs S ls L) (hg : w.grownBy w' (some q)) (hq : q < base ∨ w.heap.size ≤ q) : PO w' base rs S ls L :=
  ⟨own_grown h.r hg (own_not h.r hq), fun s hs => own_grown (h.s s hs) hg (own_not (h.s s hs) hq), own_grown h.l hg (own_not h.l hq)⟩
theorem PO.rv {w : World} {base : Nat} {rs ls : Value} {S : List RT} {L : List Int} (h : PO w base rs S ls L) : (rs = .slice none 0 0 ∧ S.length = 0) ∨ ∃ g c, rs = .slice (some ⟨g, 0, none⟩) S.length c ∧ base ≤ g ∧ g < w.heap.size := own_kinds h.r
theorem PO.ints {w : World} {base : Nat} {rs ls : Value} {S : List RT} {L : List Int} (h : PO w base rs S ls L) : ∀ s ∈ S, IntsAt w s.a s.ids ∧ s.ids.length ≤ s.c := fun s hs => by
  have ho := h.s s hs
  have hoc := ho
  obtain ⟨a', c', e, _, hi⟩ := owns_at1 ho
  have e2 : s.a = a' := by injection e
  refine ⟨by rw [e2]; exact hi, ?_⟩
  obtain ⟨_, ⟨h1, h2⟩ | ⟨g', cap, cur, h2, _, _, h3, _⟩⟩ := hoc
  · omega
  · injection h2 with _ _ e3
    omega
theorem PO.at {w : World} {base rc : Nat} {ra : Option Addr} {ls : Value} {S : List RT} {L : List Int} (h : PO w base (.slice ra S.length rc) S ls L) : RoutesAt w ra S := fun j hj => by
  rcases h.rv with ⟨_, h0⟩ | ⟨g, c, e, _, _⟩
  · omega
  · simp only [Value.slice.injEq] at e
    obtain ⟨rfl, _, rfl⟩ := e
    obtain ⟨q1, q2⟩ := rowR_at S j hj
    have c1 := (own_cellV h.r q1).1
    have c2 := (own_cellV h.r q2).1
    have hm : S.getD j rt0 ∈ S := by rw [List.getD_eq_getElem?_getD, List.getElem?_eq_getElem hj]; simp
    exact ⟨g, 0, rfl, by rw [Nat.zero_add]; exact c1, by rw [Nat.zero_add]; exact c2, (h.ints _ hm).1⟩
theorem PO.lv {w : World} {base : Nat} {rs ls : Value} {S : List RT} {L : List Int} (h : PO w base rs S ls L) : ∃ la lc, ls = .slice la L.length lc ∧ IntsAt w la L := by
  obtain ⟨a, c, e, _, hi⟩ := owns_at1 h.l
  exact ⟨a, c, e, hi⟩
/-- A vehicle's route in a plan, an empty one if it has none. -/
def rtOf (R : List RT) (veh : Int) : RT := (R.find? (fun r => r.v == veh)).getD ⟨veh, none, [], 0⟩
theorem rtOf_v (R : List RT) (veh : Int) : (rtOf R veh).v = veh := by
  unfold rtOf
  cases h : R.find? (fun r => r.v == veh) with
  | none => rfl
  | some r => simpa using List.find?_some h
theorem rtOf_mem (R : List RT) (veh : Int) : rtOf R veh ∈ R ∨ rtOf R veh = ⟨veh, none, [], 0⟩ := by
  unfold rtOf
  cases h : R.find? (fun r => r.v == veh) with
  | none => exact .inr rfl
  | some r => exact .inl (List.mem_of_find?_eq_some h)
theorem find_at {R : List RT} {veh : Int} {k : Nat} (hk : k < R.length) (h1 : ∀ j, j < k → (R.getD j rt0).v ≠ veh) (h2 : (R.getD k rt0).v = veh) : rtOf R veh = R.getD k rt0 := by
  induction R generalizing k with
  | nil => simp at hk
  | cons r R ih =>
    unfold rtOf
    cases k with
    | zero =>
      have : r.v = veh := by simpa using h2
      simp [this]
    | succ k =>
      have h0 : r.v ≠ veh := by simpa using h1 0 (by omega)
      have := ih (k := k) (by simpa using hk) (fun j hj => by simpa using h1 (j + 1) (by omega)) (by simpa using h2)
      unfold rtOf at this
      have hb : (r.v == veh) = false := by simp [h0]
      rw [List.find?_cons, hb]
      simpa using this
theorem find_no {R : List RT} {veh : Int} (h1 : ∀ j, j < R.length → (R.getD j rt0).v ≠ veh) : rtOf R veh = ⟨veh, none, [], 0⟩ := by
  unfold rtOf
  rw [List.find?_eq_none.2]
  · rfl
  · intro r hr
    obtain ⟨j, hj, e⟩ := List.getElem_of_mem hr
    have := h1 j hj
    rw [List.getD_eq_getElem?_getD, List.getElem?_eq_getElem hj] at this
    simp only [Option.getD_some, e] at this
    simp [this]

set_option maxHeartbeats 2000000 in
theorem l4Route_any (ra la : Option Addr) (rc ln lc : Nat) (R : List RT) (veh : Int) (w : World) (hR : RoutesAt w ra R) (hn : R.length ≤ 1048576) :
    Calls Try.prog 68 #[.agg #[.slice ra R.length rc, .slice la ln lc], .int .i64 veh] w fun e w' => e = .returned (.agg #[.int .i64 veh, .slice (rtOf R veh).a (rtOf R veh).ids.length (rtOf R veh).c]) ∧ Below w.heap.size w w' := by
  have HR : Hid (RoutesAt w ra R) := hR
  clear hR
  obtain ⟨n, HN⟩ : ∃ n, Hid (R.length = n) := ⟨_, rfl⟩
  rw [HN.out] at hn ⊢
  have hRV := rtOf_v R veh
  obtain ⟨r0, HR0⟩ : ∃ r, Hid (rtOf R veh = r) := ⟨_, rfl⟩
  rw [HR0.out] at hRV ⊢
  have HRV : Hid (r0.v = veh) := hRV
  clear hRV
  have B0 : Hid (Below w.heap.size w ((w.alloc (.cells #[.slice ra n rc, .slice la ln lc] 33)).alloc (.cells #[Value.int IntKind.i64 0, Value.slice none 0 0] 46))) := ((Below.refl _ _).alloc (Nat.le_refl _) _).alloc (by simp) _
  have P0 : Hid (((w.alloc (.cells #[.slice ra n rc, .slice la ln lc] 33)).alloc (.cells #[Value.int IntKind.i64 0, Value.slice none 0 0] 46)).heap[w.heap.size]? = some (.cells #[.slice ra n rc, .slice la ln lc] 33 (0, 0))) := heap_alloc2_old _ _ _
  have T0 : Hid (((w.alloc (.cells #[.slice ra n rc, .slice la ln lc] 33)).alloc (.cells #[Value.int IntKind.i64 0, Value.slice none 0 0] 46)).heap[w.heap.size + 1]? = some (.cells #[Value.int IntKind.i64 0, Value.slice none 0 0] 46 (0, 0))) := heap_alloc2_new _ _ _
  go_enter Try.func68, Try.ntmps68
  go_wp2_with fail
  generalize (w.alloc (.cells #[.slice ra n rc, .slice la ln lc] 33)).alloc (.cells #[Value.int IntKind.i64 0, Value.slice none 0 0] 46) = W0 at *
  go_loop [5] (fun t => ∃ k : Nat, k ≤ n ∧ t = .int .i64 k ∧ ∀ j, j < k → (R.getD j rt0).v ≠ veh) (fun t => n - (intOf t).toNat)
  case atStart => exact ⟨0, Nat.zero_le _, rfl, fun j hj => by omega⟩
  case round =>
    obtain ⟨k, hk, rfl, hj⟩ := hrel
    have HJ : Hid (∀ j, j < k → (R.getD j rt0).v ≠ veh) := hj
    clear hj
    obtain ⟨p0, p1⟩ := cells2 P0.out
    obtain ⟨t0, t1⟩ := cells2 T0.out
    have tf := fun i => frozen_of_row _ _ i _ _ T0.out
    by_cases hlt : k < n
    · have hkI : (k : Int) < (n : Int) := by omega
      have hkR : k < R.length := by rw [HN.out]; exact hlt
      obtain ⟨b, off, e, c1, c2, -⟩ := (HR.out.below B0.out) k hkR
      subst e
      have HST : Hid ((R.getD k rt0).v ≠ veh → ∀ j, j < k + 1 → (R.getD j rt0).v ≠ veh) := fun h j hj => by
        by_cases e : j = k
        · rw [e]; exact h
        · exact HJ.out j (by omega)
      have HAT : Hid ((R.getD k rt0).v = veh → r0 = R.getD k rt0) := fun h => by rw [← HR0.out]; exact find_at hkR HJ.out h
      obtain ⟨r, HRK⟩ : ∃ r, Hid (R.getD k rt0 = r) := ⟨_, rfl⟩
      rw [HRK.out] at c1 c2 HST HAT
      by_cases hv : r.v = veh
      · have HE : Hid (r0 = r) := HAT.out hv
        rw [hv] at c1
        have hvv : (veh == veh) = true := by simp
        obtain ⟨rv, rra, rids, rcc⟩ := r
        simp only at hv c2
        obtain ⟨rl, HRL⟩ : ∃ x, Hid (rids.length = x) := ⟨_, rfl⟩
        rw [HRL.out] at c2
        clear hv
        go_wp2
        refine bodyPost_ret (v := .agg #[.int .i64 veh, .slice rra rl rcc]) (by simp [results, Try.results68, go_sem, t0, t1]) rfl ⟨by rw [HE.out]; simp only; rw [HRL.out], ?_⟩
        repeat (first | with_reducible exact B0.out | refine Below.setCell ?_ (by simp <;> omega) _)
      · have hvv : (r.v == veh) = false := by simp [hv]
        have HJ2 : Hid (∀ j, j < k + 1 → (R.getD j rt0).v ≠ veh) := HST.out hv
        obtain ⟨rv, HRV2⟩ : ∃ x, Hid (r.v = x) := ⟨_, rfl⟩
        rw [HRV2.out] at c1 hvv
        clear hv c2
        go_wp2
        go_round
        case rel => exact ⟨k + 1, by omega, by go_num, HJ2.out⟩
        case measure => simp [intOf]; omega
    · have hkI : ¬ ((k : Int) < (n : Int)) := by omega
      have HE : Hid (r0 = ⟨veh, none, [], 0⟩) := by
        show _ = _
        rw [← HR0.out]
        exact find_no (fun j hj => HJ.out j (by rw [HN.out] at hj; omega))
      go_wp2
      refine bodyPost_ret (v := .agg #[.int .i64 veh, .slice none 0 0]) (by simp [results, Try.results68, go_sem, t0, t1]) rfl ⟨by rw [HE.out]; rfl, ?_⟩
      repeat (first | with_reducible exact B0.out | refine Below.setCell ?_ (by simp <;> omega) _)

end Go.Proofs.Ytonopidjkcmlmaa

namespace Go.Proofs.Ytonopidjkcmlmaa
open Go.RowKit

/-- As many unlike numbers as there are: each is among them. -/
theorem mem_of_full : ∀ {A B : List Int}, A.Nodup → (∀ x ∈ A, x ∈ B) → B.length ≤ A.length → ∀ y ∈ B, y ∈ A
  | [], B, _, _, hl, y, hy => by
    have : B = [] := List.length_eq_zero_iff.1 (by simpa using hl)
    rw [this] at hy
    cases hy
  | a :: A, B, hA, hs, hl, y, hy => by
    obtain ⟨h1, h2⟩ := List.nodup_cons.1 hA
    by_cases e : y = a
    · rw [e]; exact List.mem_cons_self
    · have haB : a ∈ B := hs a List.mem_cons_self
      have hlen : (B.erase a).length = B.length - 1 := List.length_erase_of_mem haB
      refine List.mem_cons_of_mem _ (mem_of_full (B := B.erase a) h2 (fun x hx => ?_) ?_ y ((List.mem_erase_of_ne e).2 hy))
      · exact (List.mem_erase_of_ne (fun e2 => h1 (by rw [← e2]; exact hx))).2 (hs x (List.mem_cons_of_mem _ hx))
      · simp only [List.length_cons] at hl
        omega
/-- In how many of the first k routes a number stands. -/
def manyTo (R : List RT) (id : Int) : Nat → Int
  | 0 => 0
  | k + 1 => manyTo R id k + (if id ∈ (R.getD k rt0).ids then 1 else 0)
theorem manyTo_once {R : List RT} (id : Int) : ∀ k, k ≤ R.length → (allTo R k).Nodup → manyTo R id k = if id ∈ allTo R k then 1 else 0
  | 0, _, _ => by simp [manyTo, allTo_zero]
  | k + 1, hk, hn => by
    rw [allTo_succ (by omega)] at hn ⊢
    obtain ⟨h1, _, h3⟩ := List.nodup_append.1 hn
    have ih := manyTo_once id k (by omega) h1
    unfold manyTo
    rw [ih]
    by_cases ha : id ∈ allTo R k
    · have hb : id ∉ (R.getD k rt0).ids := fun hb => h3 id ha id hb rfl
      rw [if_pos ha, if_neg hb, if_pos (List.mem_append.2 (.inl ha))]
      rfl
    · rw [if_neg ha]
      by_cases hb : id ∈ (R.getD k rt0).ids
      · rw [if_pos hb, if_pos (List.mem_append.2 (.inr hb))]
        rfl
      · rw [if_neg hb, if_neg (fun h => (List.mem_append.1 h).elim ha hb)]
        rfl
theorem manyTo_bd (R : List RT) (id : Int) : ∀ k, 0 ≤ manyTo R id k ∧ manyTo R id k ≤ k
  | 0 => by simp [manyTo]
  | k + 1 => by
    have := manyTo_bd R id k
    unfold manyTo
    split <;> omega
theorem allTo_mem {R : List RT} {x : Int} : ∀ k, k ≤ R.length → (x ∈ allTo R k ↔ ∃ j, j < k ∧ x ∈ (R.getD j rt0).ids)
  | 0, _ => by simp [allTo_zero]
  | k + 1, hk => by
    rw [allTo_succ (by omega), List.mem_append, allTo_mem k (by omega)]
    constructor
    · rintro (⟨j, h1, h2⟩ | h)
      · exact ⟨j, by omega, h2⟩
      · exact ⟨k, by omega, h⟩
    · rintro ⟨j, h1, h2⟩
      by_cases e : j = k
      · rw [e] at h2; exact .inr h2
      · exact .inl ⟨j, by omega, h2⟩
/-- Numbers that rise are unlike. -/
theorem rise_nodup : ∀ {L : List Int}, (∀ j, j + 1 < L.length → L.getD j 0 < L.getD (j + 1) 0) → L.Nodup ∧ ∀ x ∈ L, L.getD 0 0 ≤ x
  | [], _ => ⟨List.nodup_nil, fun x hx => by cases hx⟩
  | a :: L, h => by
    have ih := rise_nodup (L := L) (fun j hj => by
      have := h (j + 1) (by simp; omega)
      simpa using this)
    have h0 : ∀ x ∈ L, a < x := fun x hx => by
      have hl : 0 < L.length := List.length_pos_of_mem hx
      have h1 := h 0 (by simp; omega)
      have h2 := ih.2 x hx
      simp only [List.getD_cons_zero, Nat.zero_add, List.getD_cons_succ] at h1
      omega
    refine ⟨List.nodup_cons.2 ⟨fun hm => by have := h0 a hm; omega, ih.1⟩, fun x hx => ?_⟩
    rcases List.mem_cons.1 hx with e | hx
    · rw [e]; simp
    · have := h0 x hx
      simp
      omega

theorem fnd6_ids {os : List Int} {ko : Nat} {id : Int} (h : fnd6T os ko id = true) : id ∈ idsL os ko := by
  unfold fnd6T at h
  cases hf : fnd6 os ko id with
  | none => rw [hf] at h; cases h
  | some i =>
    unfold fnd6 at hf
    have h1 := List.find?_some hf
    have h2 : i < ko := by simpa using List.mem_of_find?_eq_some hf
    simp at h1
    unfold idsL
    exact List.mem_map.2 ⟨i, List.mem_range.2 h2, h1⟩
theorem getD_of_mem {l : List Int} {x : Int} (h : x ∈ l) : ∃ j, j < l.length ∧ l.getD j 0 = x := by
  obtain ⟨j, hj, e⟩ := List.getElem_of_mem h
  exact ⟨j, hj, by rw [List.getD_eq_getElem?_getD, List.getElem?_eq_getElem hj]; simpa using e⟩
/-- In a plan that holds every order stands in one route or is left, not both, not twice. -/
theorem holds_all {n : Int} {zs os vs : List Int} {ko kv : Nat} {fine : Int} {R : List RT} {L : List Int} (h : planV n zs os vs ko kv fine R L = 0) : ∀ id ∈ idsL os ko, manyTo R id R.length + (if id ∈ L then 1 else 0) = 1 ∧ (id ∈ allTo R R.length ↔ id ∉ L) := by
  obtain ⟨_, hr, ho, hl, hc⟩ := planV_zero h
  have hLn : L.Nodup := (rise_nodup (fun j hj => by
    have := (hl (j + 1) hj).2 (by omega)
    simpa using this)).1
  have hA : (allTo R R.length ++ L).Nodup := List.nodup_append.2 ⟨ho.1, hLn, fun a ha b hb e => ho.2 b hb (by rw [← e]; exact ha)⟩
  have hsub : ∀ x ∈ allTo R R.length ++ L, x ∈ idsL os ko := fun x hx => by
    rcases List.mem_append.1 hx with hx | hx
    · obtain ⟨j, hj, hm⟩ := (allTo_mem R.length (Nat.le_refl _)).1 hx
      obtain ⟨i, hi, e⟩ := getD_of_mem hm
      have := (stopsB_true (formV_zero (codeV_zero (hr j hj).2.2).1).2.2).2 i hi
      rw [← e]
      unfold stopB at this
      simp only [Bool.and_eq_true] at this
      exact fnd6_ids this.1
    · obtain ⟨j, hj, e⟩ := getD_of_mem hx
      rw [← e]
      exact fnd6_ids (hl j hj).1
  have hfull := mem_of_full hA hsub (by rw [idsL_length, List.length_append]; omega)
  intro id hid
  rw [manyTo_once id _ (Nat.le_refl _) ho.1]
  by_cases hb : id ∈ L
  · have ha : id ∉ allTo R R.length := ho.2 id hb
    rw [if_neg ha, if_pos hb]
    exact ⟨rfl, ⟨fun h => absurd h ha, fun h => absurd hb h⟩⟩
  · have ha : id ∈ allTo R R.length := (List.mem_append.1 (hfull id hid)).elim (fun h => h) (fun h => absurd h hb)
    rw [if_pos ha, if_neg hb]
    exact ⟨rfl, ⟨fun _ => hb, fun _ => ha⟩⟩

/-- The empty plan of a right case holds. -/
theorem empty_holds {n : Int} {zs os vs : List Int} {ko kv : Nat} {fine : Int} (h : caseB n zs os vs ko kv fine = true) : planV n zs os vs ko kv fine [] (idsL os ko) = 0 := by
  have ht := (ordsB_true (caseB_parts h).2.1).2
  have hg : ∀ j, j < ko → (idsL os ko).getD j 0 = og6 os j 0 := fun j hj => by
    unfold idsL
    rw [List.getD_eq_getElem?_getD, List.getElem?_map, List.getElem?_range hj]
    rfl
  refine planV_0 h (fun j hj => by simp at hj) ⟨by simp [allTo], fun x _ => by simp [allTo]⟩ (fun j hj => ?_) (by simp [allTo, idsL_length])
  rw [idsL_length] at hj
  rw [hg j hj]
  refine ⟨?_, fun h0 => ?_⟩
  · have hx : ∃ i, fnd6 os ko (og6 os j 0) = some i := by
      cases hf : fnd6 os ko (og6 os j 0) with
      | some i => exact ⟨i, rfl⟩
      | none =>
        unfold fnd6 at hf
        rw [List.find?_eq_none] at hf
        have := hf j (List.mem_range.2 hj)
        simp at this
    obtain ⟨i, hi⟩ := hx
    exact fnd6T_at hi
  · rw [hg (j - 1) (by omega)]
    exact (ht j hj).2 h0

end Go.Proofs.Ytonopidjkcmlmaa
