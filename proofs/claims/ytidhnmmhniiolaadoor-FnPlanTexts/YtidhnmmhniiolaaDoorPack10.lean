import Derived.Test.YtidhnmmhniiolaaDoorPack1
import Derived.Test.YtidhnmmhniiolaaDoorPack8
import Derived.Test.YtidhnmmhniiolaaDoorPack9
namespace Go.Proofs.YtidhnmmhniiolaaDoor
open Go.RowKit

/-- A plan of the call's own: its routes, their stops, what is left. -/
structure PO (w : World) (base : Nat) (rs : Value) (S : List RT) (ls : Value) (L : List Int) : Prop where
  r : w.ownsRow base 49 2 rs S.length (rowR S)
  s : ∀ s ∈ S, w.ownsRow base 2 1 (.slice s.a s.ids.length s.c) s.ids.length (s.ids.map (Value.int .i64))
  l : w.ownsRow base 2 1 ls L.length (L.map (Value.int .i64))
theorem PO.below {w w' : World} {base : Nat} {rs ls : Value} {S : List RT} {L : List Int} (h : PO w base rs S ls L) (hb : Below w.heap.size w w') : PO w' base rs S ls L :=
  ⟨owns_below h.r hb, fun s hs => owns_below (h.s s hs) hb, owns_below h.l hb⟩
theorem PO.base {w : World} {base b0 : Nat} {rs ls : Value} {S : List RT} {L : List Int} (h : PO w base rs S ls L) (hb : b0 ≤ base) : PO w b0 rs S ls L :=
  ⟨owns_base h.r hb, fun s hs => owns_base (h.s s hs) hb, owns_base h.l hb⟩
theorem PO.set {w : World} {base b i : Nat} {rs ls u : Value} {S : List RT} {L : List Int} (h : PO w base rs S ls L) (hb : b < base) : PO (w.setCell ⟨b, i, none⟩ u) base rs S ls L :=
  ⟨owns_set h.r hb, fun s hs => owns_set (h.s s hs) hb, owns_set h.l hb⟩
theorem own_grown {w w' : World} {base size n q : Nat} {e : TypeId} {v : Value} {xs : List Value} (h : w.ownsRow base e size v n xs) (hg : w.grownBy w' (some q)) (hq : v.ownBlock ≠ some q) : w'.ownsRow base e size v n xs := by
  obtain ⟨h1, h2 | ⟨g, cap, cur, h2, h3, h4, h5⟩⟩ := h
  · exact ⟨h1, .inl h2⟩
  · refine ⟨h1, .inr ⟨g, cap, cur, h2, h3, grown_row hg h4 (fun e => hq ?_), h5⟩⟩
    rw [h2]
    exact e
theorem own_not {w : World} {base size n q : Nat} {e : TypeId} {v : Value} {xs : List Value} (h : w.ownsRow base e size v n xs) (hq : q < base ∨ w.heap.size ≤ q) : v.ownBlock ≠ some q := fun e => by
  have := h.lt q e
  omega
theorem PO.other {w w' : World} {base q : Nat} {rs ls : Value} {S : List RT} {L : List Int} (h : PO w base rs S ls L) (hg : w.grownBy w' (some q)) (hq : q < base ∨ w.heap.size ≤ q) : PO w' base rs S ls L :=
  ⟨own_grown h.r hg (own_not h.r hq), fun s hs => own_grown (h.s s hs) hg (own_not (h.s s hs) hq), own_grown h.l hg (own_not h.l hq)⟩
theorem PO.rv {w : World} {base : Nat} {rs ls : Value} {S : List RT} {L : List Int} (h : PO w base rs S ls L) : (rs = .slice none 0 0 ∧ S.length = 0) ∨ ∃ g c, rs = .slice (some ⟨g, 0, none⟩) S.length c ∧ base ≤ g ∧ g < w.heap.size := own_kinds h.r
theorem PO.ints {w : World} {base : Nat} {rs ls : Value} {S : List RT} {L : List Int} (h : PO w base rs S ls L) : ∀ s ∈ S, IntsAt w s.a s.ids ∧ s.ids.length ≤ s.c := fun s hs => by
  have ho := h.s s hs
  have hoc := ho
  obtain ⟨a', c', e, _, hi⟩ := owns_at1 ho
  have e2 : s.a = a' := by injection e
  refine ⟨by rw [e2]; exact hi, ?_⟩
  obtain ⟨_, ⟨h1, h2⟩ | ⟨g', cap, cur, h2, _, _, h3, _⟩⟩ := hoc
  · omega
  · injection h2 with _ _ e3
    omega
theorem PO.at {w : World} {base rc : Nat} {ra : Option Addr} {ls : Value} {S : List RT} {L : List Int} (h : PO w base (.slice ra S.length rc) S ls L) : RoutesAt w ra S := fun j hj => by
  rcases h.rv with ⟨_, h0⟩ | ⟨g, c, e, _, _⟩
  · omega
  · simp only [Value.slice.injEq] at e
    obtain ⟨rfl, _, rfl⟩ := e
    obtain ⟨q1, q2⟩ := rowR_at S j hj
    have c1 := (own_cellV h.r q1).1
    have c2 := (own_cellV h.r q2).1
    have hm : S.getD j rt0 ∈ S := by rw [List.getD_eq_getElem?_getD, List.getElem?_eq_getElem hj]; simp
    exact ⟨g, 0, rfl, by rw [Nat.zero_add]; exact c1, by rw [Nat.zero_add]; exact c2, (h.ints _ hm).1⟩
theorem PO.lv {w : World} {base : Nat} {rs ls : Value} {S : List RT} {L : List Int} (h : PO w base rs S ls L) : ∃ la lc, ls = .slice la L.length lc ∧ IntsAt w la L := by
  obtain ⟨a, c, e, _, hi⟩ := owns_at1 h.l
  exact ⟨a, c, e, hi⟩
/-- A vehicle's route in a plan, an empty one if it has none. -/
def rtOf (R : List RT) (veh : Int) : RT := (R.find? (fun r => r.v == veh)).getD ⟨veh, none, [], 0⟩
theorem rtOf_v (R : List RT) (veh : Int) : (rtOf R veh).v = veh := by
  unfold rtOf
  cases h : R.find? (fun r => r.v == veh) with
  | none => rfl
  | some r => simpa using List.find?_some h
theorem rtOf_mem (R : List RT) (veh : Int) : rtOf R veh ∈ R ∨ rtOf R veh = ⟨veh, none, [], 0⟩ := by
  unfold rtOf
  cases h : R.find? (fun r => r.v == veh) with
  | none => exact .inr rfl
  | some r => exact .inl (List.mem_of_find?_eq_some h)
theorem find_at {R : List RT} {veh : Int} {k : Nat} (hk : k < R.length) (h1 : ∀ j, j < k → (R.getD j rt0).v ≠ veh) (h2 : (R.getD k rt0).v = veh) : rtOf R veh = R.getD k rt0 := by
  induction R generalizing k with
  | nil => simp at hk
  | cons r R ih =>
    unfold rtOf
    cases k with
    | zero =>
      have : r.v = veh := by simpa using h2
      simp [this]
    | succ k =>
      have h0 : r.v ≠ veh := by simpa using h1 0 (by omega)
      have := ih (k := k) (by simpa using hk) (fun j hj => by simpa using h1 (j + 1) (by omega)) (by simpa using h2)
      unfold rtOf at this
      have hb : (r.v == veh) = false := by simp [h0]
      rw [List.find?_cons, hb]
      simpa using this
theorem find_no {R : List RT} {veh : Int} (h1 : ∀ j, j < R.length → (R.getD j rt0).v ≠ veh) : rtOf R veh = ⟨veh, none, [], 0⟩ := by
  unfold rtOf
  rw [List.find?_eq_none.2]
  · rfl
  · intro r hr
    obtain ⟨j, hj, e⟩ := List.getElem_of_mem hr
    have := h1 j hj
    rw [List.getD_eq_getElem?_getD, List.getElem?_eq_getElem hj] at this
    simp only [Option.getD_some, e] at this
    simp [this]

end Go.Proofs.YtidhnmmhniiolaaDoor

namespace Go.Proofs.YtidhnmmhniiolaaDoor
open Go.RowKit

set_option maxHeartbeats 2000000 in
theorem l4Route_any (ra la : Option Addr) (rc ln lc : Nat) (R : List RT) (veh : Int) (w : World) (hR : RoutesAt w ra R) (hn : R.length ≤ 1048576) :
    Calls Tryd.prog 31 #[.agg #[.slice ra R.length rc, .slice la ln lc], .int .i64 veh] w fun e w' => e = .returned (.agg #[.int .i64 veh, .slice (rtOf R veh).a (rtOf R veh).ids.length (rtOf R veh).c]) ∧ Below w.heap.size w w' := by
  have HR : Hid (RoutesAt w ra R) := hR
  clear hR
  obtain ⟨n, HN⟩ : ∃ n, Hid (R.length = n) := ⟨_, rfl⟩
  rw [HN.out] at hn ⊢
  have hRV := rtOf_v R veh
  obtain ⟨r0, HR0⟩ : ∃ r, Hid (rtOf R veh = r) := ⟨_, rfl⟩
  rw [HR0.out] at hRV ⊢
  have HRV : Hid (r0.v = veh) := hRV
  clear hRV
  have B0 : Hid (Below w.heap.size w ((w.alloc (.cells #[.slice ra n rc, .slice la ln lc] 27)).alloc (.cells #[Value.int IntKind.i64 0, Value.slice none 0 0] 49))) := ((Below.refl _ _).alloc (Nat.le_refl _) _).alloc (by simp) _
  have P0 : Hid (((w.alloc (.cells #[.slice ra n rc, .slice la ln lc] 27)).alloc (.cells #[Value.int IntKind.i64 0, Value.slice none 0 0] 49)).heap[w.heap.size]? = some (.cells #[.slice ra n rc, .slice la ln lc] 27 (0, 0))) := heap_alloc2_old _ _ _
  have T0 : Hid (((w.alloc (.cells #[.slice ra n rc, .slice la ln lc] 27)).alloc (.cells #[Value.int IntKind.i64 0, Value.slice none 0 0] 49)).heap[w.heap.size + 1]? = some (.cells #[Value.int IntKind.i64 0, Value.slice none 0 0] 49 (0, 0))) := heap_alloc2_new _ _ _
  go_enter Tryd.func31, Tryd.ntmps31
  go_wp2_with fail
  generalize (w.alloc (.cells #[.slice ra n rc, .slice la ln lc] 27)).alloc (.cells #[Value.int IntKind.i64 0, Value.slice none 0 0] 49) = W0 at *
  go_loop [5] (fun t => ∃ k : Nat, k ≤ n ∧ t = .int .i64 k ∧ ∀ j, j < k → (R.getD j rt0).v ≠ veh) (fun t => n - (intOf t).toNat)
  case atStart => exact ⟨0, Nat.zero_le _, rfl, fun j hj => by omega⟩
  case round =>
    obtain ⟨k, hk, rfl, hj⟩ := hrel
    have HJ : Hid (∀ j, j < k → (R.getD j rt0).v ≠ veh) := hj
    clear hj
    obtain ⟨p0, p1⟩ := cells2 P0.out
    obtain ⟨t0, t1⟩ := cells2 T0.out
    have tf := fun i => frozen_of_row _ _ i _ _ T0.out
    by_cases hlt : k < n
    · have hkI : (k : Int) < (n : Int) := by omega
      have hkR : k < R.length := by rw [HN.out]; exact hlt
      obtain ⟨b, off, e, c1, c2, -⟩ := (HR.out.below B0.out) k hkR
      subst e
      have HST : Hid ((R.getD k rt0).v ≠ veh → ∀ j, j < k + 1 → (R.getD j rt0).v ≠ veh) := fun h j hj => by
        by_cases e : j = k
        · rw [e]; exact h
        · exact HJ.out j (by omega)
      have HAT : Hid ((R.getD k rt0).v = veh → r0 = R.getD k rt0) := fun h => by rw [← HR0.out]; exact find_at hkR HJ.out h
      obtain ⟨r, HRK⟩ : ∃ r, Hid (R.getD k rt0 = r) := ⟨_, rfl⟩
      rw [HRK.out] at c1 c2 HST HAT
      by_cases hv : r.v = veh
      · have HE : Hid (r0 = r) := HAT.out hv
        rw [hv] at c1
        have hvv : (veh == veh) = true := by simp
        obtain ⟨rv, rra, rids, rcc⟩ := r
        simp only at hv c2
        obtain ⟨rl, HRL⟩ : ∃ x, Hid (rids.length = x) := ⟨_, rfl⟩
        rw [HRL.out] at c2
        clear hv
        go_wp2
        refine bodyPost_ret (v := .agg #[.int .i64 veh, .slice rra rl rcc]) (by simp [results, Tryd.results31, go_sem, t0, t1]) rfl ⟨by rw [HE.out]; simp only; rw [HRL.out], ?_⟩
        repeat (first | with_reducible exact B0.out | refine Below.setCell ?_ (by simp <;> omega) _)
      · have hvv : (r.v == veh) = false := by simp [hv]
        have HJ2 : Hid (∀ j, j < k + 1 → (R.getD j rt0).v ≠ veh) := HST.out hv
        obtain ⟨rv, HRV2⟩ : ∃ x, Hid (r.v = x) := ⟨_, rfl⟩
        rw [HRV2.out] at c1 hvv
        clear hv c2
        go_wp2
        go_round
        case rel => exact ⟨k + 1, by omega, by go_num, HJ2.out⟩
        case measure => simp [intOf]; omega
    · have hkI : ¬ ((k : Int) < (n : Int)) := by omega
      have HE : Hid (r0 = ⟨veh, none, [], 0⟩) := by
        show _ = _
        rw [← HR0.out]
        exact find_no (fun j hj => HJ.out j (by rw [HN.out] at hj; omega))
      go_wp2
      refine bodyPost_ret (v := .agg #[.int .i64 veh, .slice none 0 0]) (by simp [results, Tryd.results31, go_sem, t0, t1]) rfl ⟨by rw [HE.out]; rfl, ?_⟩
      repeat (first | with_reducible exact B0.out | refine Below.setCell ?_ (by simp <;> omega) _)

end Go.Proofs.YtidhnmmhniiolaaDoor

namespace Go.Proofs.YtidhnmmhniiolaaDoor
open Go.RowKit

theorem own_typ {w : World} {base size n k : Nat} {e T : TypeId} {v : Value} {xs : List Value} {cs : Array Value} (h : w.ownsRow base e size v n xs) (hr : w.heap[k]? = some (.cells cs T (0, 0))) (hT : T ≠ e) : v.ownBlock ≠ some k := fun he => by
  rcases h.2 with ⟨rfl, _⟩ | ⟨g, c, cur, rfl, _, hg, _⟩
  · cases he
  · simp [Value.ownBlock] at he
    rw [he, hr] at hg
    simp at hg
    exact hT hg.2
theorem own_box_of {w : World} {base size n k i : Nat} {e T : TypeId} {v u : Value} {xs : List Value} {cs : Array Value} (h : w.ownsRow base e size v n xs) (hr : w.heap[k]? = some (.cells cs T (0, 0))) (hT : T ≠ e) : (w.setCell ⟨k, i, none⟩ u).ownsRow base e size v n xs := own_grown h (grown_set w k i u) (own_typ h hr hT)

end Go.Proofs.YtidhnmmhniiolaaDoor
