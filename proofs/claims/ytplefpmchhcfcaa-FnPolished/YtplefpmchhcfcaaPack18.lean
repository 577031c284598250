import Derived.Test.YtplefpmchhcfcaaPack2
import Derived.Test.YtplefpmchhcfcaaSpecSched
import Derived.Test.YtplefpmchhcfcaaPack12
import Derived.Test.YtplefpmchhcfcaaPack17
namespace Go.Proofs.Ytplefpmchhcfcaa
open Go.RowKit

/-- What a change of stops answers: new stops of its own, or nothing. -/
def HowOk (w : World) (ok : Bool) (ids' : List Int) (e : Ending) (w' : World) : Prop :=
  Below w.heap.size w w' ∧ ((ok = false ∧ e = .returned (.tuple #[.slice none 0 0, .bool false])) ∨
    (ok = true ∧ ∃ g cap, e = .returned (.tuple #[.slice (some ⟨g, 0, none⟩) ids'.length cap, .bool true]) ∧ w'.ownsRow w.heap.size 2 1 (.slice (some ⟨g, 0, none⟩) ids'.length cap) ids'.length (ids'.map (Value.int .i64))))

theorem delete_ints' (g cap i base : Nat) (x : Int) (ids : List Int) (w : World) (ho : w.ownsRow base 2 1 (.slice (some ⟨g, 0, none⟩) ids.length cap) ids.length (ids.map (Value.int .i64))) (hi : i < ids.length) (hx : x = i + 1) :
    Calls Try.prog 69 #[.slice (some ⟨g, 0, none⟩) ids.length cap, .int .i64 (i : Nat), .int .i64 x] w fun e w' => e = .returned (.slice (some ⟨g, 0, none⟩) (remL ids i).length cap) ∧ Below base w w' ∧ w'.ownsRow base 2 1 (.slice (some ⟨g, 0, none⟩) (remL ids i).length cap) (remL ids i).length ((remL ids i).map (Value.int .i64)) := by
  subst hx
  rw [remL_length hi]
  exact delete_ints g cap i base ids w ho hi

set_option maxHeartbeats 1000000 in
theorem takeOut_any (p : Nat) (at_ : Int) (bi : Option Addr) (c2 : Nat) (ids : List Int) (w : World) (hp : w.cell? ⟨p, 0, none⟩ = some (.int .i64 at_)) (hI : IntsAt w bi ids) (hl : ids.length ≤ 12) :
    Calls Try.prog 68 #[.slice bi ids.length c2, .pointer (some ⟨p, 0, none⟩)] w (HowOk w (inB at_ 0 ((ids.length : Int) - 1)) (remL ids at_.toNat)) := by
  have HI : Hid (IntsAt w bi ids) := hI
  clear hI
  obtain ⟨v, HV⟩ : ∃ t, Hid (inB at_ 0 ((ids.length : Int) - 1) = t) := ⟨_, rfl⟩
  rw [HV.out]
  cases v
  · go_enter Try.func68, Try.ntmps68
    go_wp2_with (first | (go_at_call 61; refine (within_is at_ 0 ((ids.length : Int) - 1) w false HV.out).mono ?_; rintro e w1 ⟨rfl, rfl⟩))
    go_ret2
    exact ⟨Below.refl _ _, .inl ⟨rfl, rfl⟩⟩
  · have h1 := inB_true HV.out
    obtain ⟨i, rfl⟩ : ∃ i : Nat, at_ = i := ⟨at_.toNat, by omega⟩
    have hi : i < ids.length := by omega
    rw [show ((i : Int)).toNat = i by omega]
    obtain ⟨b, off, rfl, _⟩ := HI.out.some hi
    go_enter Try.func68, Try.ntmps68
    go_wp2_with (first | (go_at_call 61; refine (within_is i 0 ((ids.length : Int) - 1) w true HV.out).mono ?_; rintro e w1 ⟨rfl, rfl⟩))
    have hwr : IntKind.i64.wrap ((i : Int) + 1) = i + 1 := IntWalk.i64_in _ (by omega)
    go_region_held3 (fun W => W.cell? ⟨p, 0, none⟩ = some (.int .i64 (i : Int))) (first | with_reducible exact kS | go_keep) ((first
      | (go_at_call 63
         with_reducible refine (clone_ints b off c2 ids w1.drew (HI.out.below (Below.refl _ _).drew) (by omega)).mono ?_
         rintro e w2 ⟨g, cap, rfl, hb, ho⟩
         have B2 : Hid (Below w1.heap.size w1 w2) := (Below.refl _ _).drew.trans hb
         have O2 : Hid (w2.ownsRow w1.heap.size 2 1 (.slice (some ⟨g, 0, none⟩) ids.length cap) ids.length (ids.map (Value.int .i64))) := ho
         have kS : w2.cell? ⟨p, 0, none⟩ = some (.int .i64 (i : Int)) := (B2.out.cell (p := ⟨p, 0, none⟩) (block_lt_of_cell hp)).trans hp
         clear hb ho)
      | (go_at_call 69
         with_reducible refine (delete_ints' g cap i w1.heap.size _ ids w2 O2.out hi rfl).mono ?_
         rintro e w3 ⟨rfl, hb, ho⟩
         have B3 : Hid (Below w1.heap.size w1 w3) := B2.out.trans hb
         have O3 : Hid (w3.ownsRow w1.heap.size 2 1 (.slice (some ⟨g, 0, none⟩) (remL ids i).length cap) (remL ids i).length ((remL ids i).map (Value.int .i64))) := ho
         have kS : w3.cell? ⟨p, 0, none⟩ = some (.int .i64 (i : Int)) := (B3.out.cell (p := ⟨p, 0, none⟩) (block_lt_of_cell hp)).trans hp
         clear hb ho)))
    all_goals
      go_wp2
      go_ret2
      exact ⟨B3.out, .inr ⟨rfl, g, cap, rfl, O3.out⟩⟩

end Go.Proofs.Ytplefpmchhcfcaa

namespace Go.Proofs.Ytplefpmchhcfcaa
open Go.RowKit

/-- Whether i and j are places of stops that can be turned round. -/
def turnB (i j : Int) (n : Nat) : Bool := decide (0 ≤ i ∧ i < j ∧ j < n)
theorem turnB_true {i j : Int} {n : Nat} (h : turnB i j n = true) : 0 ≤ i ∧ i < j ∧ j < n := of_decide_eq_true h
theorem turnB_false {i j : Int} {n : Nat} (h : turnB i j n = false) : ¬ (0 ≤ i ∧ i < j ∧ j < n) := of_decide_eq_false h

set_option maxHeartbeats 1000000 in
theorem turnRound_any (p : Nat) (x y : Int) (bi : Option Addr) (c2 : Nat) (ids : List Int) (w : World) (hp0 : w.cell? ⟨p, 0, none⟩ = some (.int .i64 x)) (hp1 : w.cell? ⟨p, 1, none⟩ = some (.int .i64 y)) (hI : IntsAt w bi ids) (hl : ids.length ≤ 12) :
    Calls Try.prog 79 #[.slice bi ids.length c2, .pointer (some ⟨p, 0, none⟩)] w (HowOk w (turnB x y ids.length) (revL ids x.toNat y.toNat)) := by
  have HI : Hid (IntsAt w bi ids) := hI
  clear hI
  obtain ⟨v, HV⟩ : ∃ t, Hid (turnB x y ids.length = t) := ⟨_, rfl⟩
  rw [HV.out]
  cases v
  · have h1 := turnB_false HV.out
    rcases (show x < 0 ∨ (0 ≤ x ∧ y ≤ x) ∨ (0 ≤ x ∧ x < y ∧ (ids.length : Int) ≤ y) from by omega) with h | ⟨h, h'⟩ | ⟨h, h', h''⟩
    all_goals
      clear h1
      go_enter Try.func79, Try.ntmps79
      go_wp2
      go_ret2
      exact ⟨Below.refl _ _, .inl ⟨rfl, rfl⟩⟩
  · obtain ⟨h1, h2, h3⟩ := turnB_true HV.out
    obtain ⟨i, rfl⟩ : ∃ i : Nat, x = i := ⟨x.toNat, by omega⟩
    obtain ⟨j, rfl⟩ : ∃ j : Nat, y = j := ⟨y.toNat, by omega⟩
    have hij : i < j := by omega
    have hj : j < ids.length := by omega
    have er : (revL ids i j).length = ids.length := revL_length (by omega) hj
    rw [show ((i : Int)).toNat = i by omega, show ((j : Int)).toNat = j by omega]
    obtain ⟨b, off, rfl, _⟩ := HI.out.some hj
    have HR : Hid (HowOk w true (revL ids i j) = HowOk w true (revL ids i j)) := rfl
    go_enter Try.func79, Try.ntmps79
    go_wp2_with fail
    refine (clone_ints b off c2 ids w HI.out (by omega)).mono ?_
    rintro e w2 ⟨g, cap, rfl, hb, ho⟩
    obtain ⟨_, _, e1, _, _, hcap, hcm, _⟩ := Go.Lib.holds_of_ownsRow (enc := Value.int .i64) ho (by simp)
    simp at e1
    obtain ⟨rfl, rfl⟩ := e1
    have hcm' : cap ≤ 9223372036854775807 := by unfold maxLen at hcm; omega
    clear hcm
    have B2 : Hid (Below w.heap.size w w2) := hb
    have O2 : Hid (w2.ownsRow w.heap.size 2 1 (.slice (some ⟨g, 0, none⟩) ids.length cap) ids.length (ids.map (Value.int .i64))) := ho
    have k0 : w2.cell? ⟨p, 0, none⟩ = some (.int .i64 (i : Int)) := (B2.out.cell (p := ⟨p, 0, none⟩) (block_lt_of_cell hp0)).trans hp0
    have k1 : w2.cell? ⟨p, 1, none⟩ = some (.int .i64 (j : Int)) := (B2.out.cell (p := ⟨p, 1, none⟩) (block_lt_of_cell hp1)).trans hp1
    clear hb ho
    have hwr : IntKind.i64.wrap ((j : Int) + 1) = j + 1 := IntWalk.i64_in _ (by omega)
    go_wp2_with fail
    refine (reverse_ints g cap _ i j w.heap.size ids w2 O2.out (by omega) hj (by omega) _ (by omega)).mono ?_
    rintro e w3 ⟨rfl, hb, ho⟩
    have B3 : Hid (Below w.heap.size w w3) := B2.out.trans hb
    have O3 : Hid (w3.ownsRow w.heap.size 2 1 (.slice (some ⟨g, 0, none⟩) ids.length cap) ids.length ((revL ids i j).map (Value.int .i64))) := ho
    clear hb ho
    go_wp2
    go_ret2
    refine ⟨B3.out, .inr ⟨rfl, g, cap, ?_, ?_⟩⟩
    · rw [er]; rfl
    · rw [er]; exact O3.out

end Go.Proofs.Ytplefpmchhcfcaa

namespace Go.Proofs.Ytplefpmchhcfcaa
open Go.RowKit

/-- The best turn so far: whether there is one, its places, how much more it costs. -/
structure BS where
  f : Bool
  i : Nat
  j : Nat
  v : Int
def bs0 : BS := ⟨false, 0, 0, 0⟩
def bstep (ok : Nat → Nat → Bool) (dl : Nat → Nat → Int) (s : BS) (p : Nat × Nat) : BS := if ok p.1 p.2 = true ∧ dl p.1 p.2 < s.v then ⟨true, p.1, p.2, dl p.1 p.2⟩ else s
def bst (ok : Nat → Nat → Bool) (dl : Nat → Nat → Int) (l : List (Nat × Nat)) : BS := l.foldl (bstep ok dl) bs0
theorem bst_snoc (ok : Nat → Nat → Bool) (dl : Nat → Nat → Int) (l : List (Nat × Nat)) (p : Nat × Nat) : bst ok dl (l ++ [p]) = bstep ok dl (bst ok dl l) p := by
  simp [bst, List.foldl_append]
theorem bstep_yes {ok : Nat → Nat → Bool} {dl : Nat → Nat → Int} {s : BS} {i j : Nat} (h1 : ok i j = true) (h2 : dl i j < s.v) : bstep ok dl s (i, j) = ⟨true, i, j, dl i j⟩ := if_pos ⟨h1, h2⟩
theorem bstep_no1 {ok : Nat → Nat → Bool} {dl : Nat → Nat → Int} {s : BS} {i j : Nat} (h1 : ok i j = false) : bstep ok dl s (i, j) = s := if_neg fun h => by have := h.1; rw [h1] at this; cases this
theorem bstep_no2 {ok : Nat → Nat → Bool} {dl : Nat → Nat → Int} {s : BS} {i j : Nat} (h2 : ¬ dl i j < s.v) : bstep ok dl s (i, j) = s := if_neg fun h => h2 h.2
theorem bst_none {ok : Nat → Nat → Bool} {dl : Nat → Nat → Int} (h : ∀ i j, ok i j = false) (l : List (Nat × Nat)) : bst ok dl l = bs0 := by
  unfold bst
  induction l with
  | nil => rfl
  | cons p l ih =>
    rw [List.foldl_cons, show bstep ok dl bs0 p = bs0 from bstep_no1 (h p.1 p.2)]
    exact ih
/-- The pairs of places in their order: those whose first is below i; and those of i up to j. -/
def prsTo (n : Nat) : Nat → List (Nat × Nat)
  | 0 => []
  | i + 1 => prsTo n i ++ (List.range (n - (i + 1))).map fun k => (i, i + 1 + k)
def prsIJ (n i j : Nat) : List (Nat × Nat) := prsTo n i ++ (List.range (j - (i + 1))).map fun k => (i, i + 1 + k)
theorem prsIJ_start (n i : Nat) : prsIJ n i (i + 1) = prsTo n i := by simp [prsIJ]
theorem prsIJ_end (n i : Nat) : prsIJ n i n = prsTo n (i + 1) := rfl
theorem prsIJ_succ (n i j : Nat) (h : i + 1 ≤ j) : prsIJ n i (j + 1) = prsIJ n i j ++ [(i, j)] := by
  unfold prsIJ
  rw [show j + 1 - (i + 1) = (j - (i + 1)) + 1 by omega, List.range_succ, List.map_append, ← List.append_assoc]
  simp only [List.map_cons, List.map_nil]
  rw [show i + 1 + (j - (i + 1)) = j by omega]
/-- What is told of the best one. -/
def bsA (s : BS) : Int := if s.f then (s.i : Int) else -1
def bsB (s : BS) : Int := if s.f then (s.j : Int) else -1
theorem bst_v {ok : Nat → Nat → Bool} {dl : Nat → Nat → Int} (lo : Int) (h0 : lo ≤ 0) (h : ∀ i j, lo ≤ dl i j) (l : List (Nat × Nat)) : lo ≤ (bst ok dl l).v ∧ (bst ok dl l).v ≤ 0 ∧ ((bst ok dl l).f = false → (bst ok dl l).v = 0) ∧ ((bst ok dl l).f = true → (bst ok dl l).v < 0) := by
  unfold bst
  suffices hs : ∀ s : BS, (lo ≤ s.v ∧ s.v ≤ 0 ∧ (s.f = false → s.v = 0) ∧ (s.f = true → s.v < 0)) → let t := l.foldl (bstep ok dl) s; (lo ≤ t.v ∧ t.v ≤ 0 ∧ (t.f = false → t.v = 0) ∧ (t.f = true → t.v < 0)) from
    hs bs0 ⟨h0, Int.le_refl _, fun _ => rfl, fun e => by cases e⟩
  induction l with
  | nil => intro s hs; exact hs
  | cons p l ih =>
    intro s hs
    rw [List.foldl_cons]
    apply ih
    unfold bstep
    split
    · rename_i hc
      have := h p.1 p.2
      exact ⟨this, by show dl p.1 p.2 ≤ 0; omega, fun e => (by cases e), fun _ => by show dl p.1 p.2 < 0; omega⟩
    · exact hs
theorem bst_ij {ok : Nat → Nat → Bool} {dl : Nat → Nat → Int} (n : Nat) (l : List (Nat × Nat)) (hl : ∀ p ∈ l, p.1 < n ∧ p.2 < n) : (bst ok dl l).i ≤ n ∧ (bst ok dl l).j ≤ n := by
  unfold bst
  suffices hs : ∀ s : BS, (s.i ≤ n ∧ s.j ≤ n) → (l.foldl (bstep ok dl) s).i ≤ n ∧ (l.foldl (bstep ok dl) s).j ≤ n from hs bs0 ⟨Nat.zero_le _, Nat.zero_le _⟩
  induction l with
  | nil => intro s hs; exact hs
  | cons p l ih =>
    intro s hs
    rw [List.foldl_cons]
    apply ih (fun q hq => hl q (List.mem_cons_of_mem _ hq))
    have := hl p (List.mem_cons_self ..)
    unfold bstep
    split
    · exact ⟨by show p.1 ≤ n; omega, by show p.2 ≤ n; omega⟩
    · exact hs
/-- The turns of a route: whether one can be made, and how much more it costs. -/
def trB (c : Bool) (n : Int) (zs os vs : List Int) (ko kv : Nat) (veh : Int) (ids : List Int) (i j : Nat) : Bool := chB c n zs os vs ko kv veh ids (turnB (i : Int) (j : Int) ids.length) (revL ids i j)
def trD (c : Bool) (n : Int) (zs os vs : List Int) (ko kv : Nat) (veh : Int) (ids : List Int) (i j : Nat) : Int := chD (trB c n zs os vs ko kv veh ids i j) n zs os vs ko kv veh ids (revL ids i j)
theorem trD_bd {c : Bool} {n : Int} {zs : List Int} (hz : matB n zs = true) (os vs : List Int) (ko kv : Nat) (veh : Int) (ids : List Int) (i j : Nat) : -130000 ≤ trD c n zs os vs ko kv veh ids i j ∧ trD c n zs os vs ko kv veh ids i j ≤ 130000 := by
  unfold trD chD
  have h1 := rcV_bd hz os vs ko kv veh ids
  have h2 := rcV_bd hz os vs ko kv veh (revL ids i j)
  split <;> omega
theorem trB_no {c : Bool} {n : Int} {zs os vs : List Int} {ko kv : Nat} {veh : Int} {ids : List Int} (h : codeV c n zs os vs ko kv veh ids ≠ 0) (i j : Nat) : trB c n zs os vs ko kv veh ids i j = false := chB_no1 h _ _
theorem trD_no {c : Bool} {n : Int} {zs os vs : List Int} {ko kv : Nat} {veh : Int} {ids : List Int} {i j : Nat} (h : trB c n zs os vs ko kv veh ids i j = false) : trD c n zs os vs ko kv veh ids i j = 0 := by
  unfold trD
  rw [h]
  rfl
/-- The best turn of a route. -/
def btV (c : Bool) (n : Int) (zs os vs : List Int) (ko kv : Nat) (veh : Int) (ids : List Int) : BS := bst (trB c n zs os vs ko kv veh ids) (trD c n zs os vs ko kv veh ids) (prsTo (min ids.length 12) (min ids.length 12))

end Go.Proofs.Ytplefpmchhcfcaa

namespace Go.Proofs.Ytplefpmchhcfcaa
open Go.RowKit

/-- The best so far is one that can be made, at the cost that is told. -/
theorem bst_made {ok : Nat → Nat → Bool} {dl : Nat → Nat → Int} (l : List (Nat × Nat)) (h : (bst ok dl l).f = true) : ok (bst ok dl l).i (bst ok dl l).j = true ∧ dl (bst ok dl l).i (bst ok dl l).j = (bst ok dl l).v := by
  unfold bst at *
  suffices hs : ∀ s : BS, (s.f = true → ok s.i s.j = true ∧ dl s.i s.j = s.v) → (l.foldl (bstep ok dl) s).f = true → ok (l.foldl (bstep ok dl) s).i (l.foldl (bstep ok dl) s).j = true ∧ dl (l.foldl (bstep ok dl) s).i (l.foldl (bstep ok dl) s).j = (l.foldl (bstep ok dl) s).v from
    hs bs0 (fun e => by cases e) h
  clear h
  induction l with
  | nil => intro s hs h; exact hs h
  | cons p l ih =>
    intro s hs h
    rw [List.foldl_cons] at h ⊢
    refine ih _ ?_ h
    unfold bstep
    split
    · rename_i hc
      intro _
      exact ⟨hc.1, rfl⟩
    · exact hs
/-- A polished route's stops: the best turn made again and again, k times at most. -/
def polN (n : Int) (zs os vs : List Int) (ko kv : Nat) (veh : Int) : Nat → List Int → List Int
  | 0, ids => ids
  | k + 1, ids => if (btV true n zs os vs ko kv veh ids).f = true then polN n zs os vs ko kv veh k (revL ids (btV true n zs os vs ko kv veh ids).i (btV true n zs os vs ko kv veh ids).j) else ids
theorem polN_stop {n : Int} {zs os vs : List Int} {ko kv : Nat} {veh : Int} {ids : List Int} (h : (btV true n zs os vs ko kv veh ids).f = false) : ∀ k, polN n zs os vs ko kv veh k ids = ids
  | 0 => rfl
  | k + 1 => by simp only [polN]; rw [if_neg (by rw [h]; simp)]
theorem polN_succ {n : Int} {zs os vs : List Int} {ko kv : Nat} {veh : Int} {ids : List Int} (k : Nat) (h : (btV true n zs os vs ko kv veh ids).f = true) : polN n zs os vs ko kv veh (k + 1) ids = polN n zs os vs ko kv veh k (revL ids (btV true n zs os vs ko kv veh ids).i (btV true n zs os vs ko kv veh ids).j) := by
  simp only [polN]
  rw [if_pos h]
/-- A turn that is made: the route can be driven still, has as many stops, and costs just that less. -/
theorem bt_made {n : Int} {zs os vs : List Int} {ko kv : Nat} {veh : Int} {ids : List Int} (h : (btV true n zs os vs ko kv veh ids).f = true) :
    codeV true n zs os vs ko kv veh (revL ids (btV true n zs os vs ko kv veh ids).i (btV true n zs os vs ko kv veh ids).j) = 0 ∧ turnB ((btV true n zs os vs ko kv veh ids).i : Int) ((btV true n zs os vs ko kv veh ids).j : Int) ids.length = true ∧ trB true n zs os vs ko kv veh ids (btV true n zs os vs ko kv veh ids).i (btV true n zs os vs ko kv veh ids).j = true ∧
    rcV n zs os vs ko kv veh (revL ids (btV true n zs os vs ko kv veh ids).i (btV true n zs os vs ko kv veh ids).j) - rcV n zs os vs ko kv veh ids = (btV true n zs os vs ko kv veh ids).v := by
  obtain ⟨h1, h2⟩ := bst_made _ h
  have h1' : trB true n zs os vs ko kv veh ids (btV true n zs os vs ko kv veh ids).i (btV true n zs os vs ko kv veh ids).j = true := h1
  have h2' : trD true n zs os vs ko kv veh ids (btV true n zs os vs ko kv veh ids).i (btV true n zs os vs ko kv veh ids).j = (btV true n zs os vs ko kv veh ids).v := h2
  obtain ⟨_, a2, a3⟩ := chB_true h1'
  refine ⟨a3, a2, h1', ?_⟩
  rw [← h2']
  unfold trD
  rw [h1']
  rfl
theorem bt_v {n : Int} {zs os vs : List Int} {ko kv : Nat} {veh : Int} {ids : List Int} (hz : matB n zs = true) : -130000 ≤ (btV true n zs os vs ko kv veh ids).v ∧ (btV true n zs os vs ko kv veh ids).v ≤ 0 ∧ ((btV true n zs os vs ko kv veh ids).f = false → (btV true n zs os vs ko kv veh ids).v = 0) ∧ ((btV true n zs os vs ko kv veh ids).f = true → (btV true n zs os vs ko kv veh ids).v < 0) :=
  bst_v (-130000) (by omega) (fun i j => (trD_bd hz os vs ko kv veh ids i j).1) _
/-- Enough turns are enough. -/
theorem polN_more {n : Int} {zs os vs : List Int} {ko kv : Nat} {veh : Int} (hz : matB n zs = true) : ∀ (k : Nat) (ids : List Int), rcV n zs os vs ko kv veh ids ≤ k → ∀ m, k ≤ m → polN n zs os vs ko kv veh m ids = polN n zs os vs ko kv veh k ids
  | 0, ids, h, m, _ => by
    have hf : (btV true n zs os vs ko kv veh ids).f = false := by
      cases hf : (btV true n zs os vs ko kv veh ids).f
      · rfl
      · have h1 := (bt_made hf).2.2.2
        have h2 := (bt_v hz).2.2.2 hf
        have h3 := rcV_bd hz os vs ko kv veh (revL ids (btV true n zs os vs ko kv veh ids).i (btV true n zs os vs ko kv veh ids).j)
        omega
    rw [polN_stop hf, polN_stop hf]
  | k + 1, ids, h, m, hm => by
    obtain ⟨m', rfl⟩ : ∃ m', m = m' + 1 := ⟨m - 1, by omega⟩
    simp only [polN]
    cases hf : (btV true n zs os vs ko kv veh ids).f
    · simp
    · rw [if_pos rfl, if_pos rfl]
      have h1 := (bt_made hf).2.2.2
      have h2 := (bt_v hz).2.2.2 hf
      exact polN_more hz k _ (by omega) m' (by omega)
/-- A polished route's stops. -/
def polV (n : Int) (zs os vs : List Int) (ko kv : Nat) (veh : Int) (ids : List Int) : List Int := polN n zs os vs ko kv veh 130000 ids
theorem polV_stop {n : Int} {zs os vs : List Int} {ko kv : Nat} {veh : Int} {ids : List Int} (h : (btV true n zs os vs ko kv veh ids).f = false) : polV n zs os vs ko kv veh ids = ids := polN_stop h _
theorem polV_step {n : Int} {zs os vs : List Int} {ko kv : Nat} {veh : Int} {ids : List Int} (hz : matB n zs = true) (h : (btV true n zs os vs ko kv veh ids).f = true) : polV n zs os vs ko kv veh ids = polV n zs os vs ko kv veh (revL ids (btV true n zs os vs ko kv veh ids).i (btV true n zs os vs ko kv veh ids).j) := by
  have hb := rcV_bd hz os vs ko kv veh ids
  have h1 := (bt_made h).2.2.2
  have h2 := (bt_v hz).2.2.2 h
  have e : polV n zs os vs ko kv veh ids = polN n zs os vs ko kv veh 129999 (revL ids (btV true n zs os vs ko kv veh ids).i (btV true n zs os vs ko kv veh ids).j) := by
    have := polN_succ 129999 h
    exact this
  rw [e]
  unfold polV
  exact (polN_more hz 129999 _ (by omega) 130000 (by omega)).symm
/-- At no cost there is no turn that saves. -/
theorem bt_free {n : Int} {zs os vs : List Int} {ko kv : Nat} {veh : Int} {ids : List Int} (hz : matB n zs = true) (h : rcV n zs os vs ko kv veh ids ≤ 0) : (btV true n zs os vs ko kv veh ids).f = false := by
  cases hf : (btV true n zs os vs ko kv veh ids).f
  · rfl
  · have h1 := (bt_made hf).2.2.2
    have h2 := (bt_v hz).2.2.2 hf
    have h3 := rcV_bd hz os vs ko kv veh (revL ids (btV true n zs os vs ko kv veh ids).i (btV true n zs os vs ko kv veh ids).j)
    omega

end Go.Proofs.Ytplefpmchhcfcaa

namespace Go.Proofs.Ytplefpmchhcfcaa
open Go.RowKit

/-- Pairs as numbers, two each. -/
def flatP : List (Nat × Nat) → List Int
  | [] => []
  | p :: l => (p.1 : Int) :: (p.2 : Int) :: flatP l
theorem flatP_length : ∀ l : List (Nat × Nat), (flatP l).length = l.length * 2
  | [] => rfl
  | p :: l => by simp [flatP, flatP_length l]; omega
theorem flatP_append : ∀ (l m : List (Nat × Nat)), flatP (l ++ m) = flatP l ++ flatP m
  | [], m => rfl
  | p :: l, m => by simp [flatP, flatP_append l m]
theorem flatP_at : ∀ (l : List (Nat × Nat)) (k : Nat) (p : Nat × Nat), l[k]? = some p → (flatP l).getD (k * 2) 0 = (p.1 : Int) ∧ (flatP l).getD (k * 2 + 1) 0 = (p.2 : Int)
  | [], k, p, h => by simp at h
  | q :: l, 0, p, h => by
    simp at h
    subst h
    simp [flatP]
  | q :: l, k + 1, p, h => by
    have ih := flatP_at l k p (by simpa using h)
    have e1 : (k + 1) * 2 = k * 2 + 1 + 1 := by omega
    rw [e1]
    simpa [flatP] using ih
theorem prsTo_len (n : Nat) : ∀ i, (prsTo n i).length ≤ i * n
  | 0 => by simp [prsTo]
  | i + 1 => by
    have := prsTo_len n i
    simp only [prsTo, List.length_append, List.length_map, List.length_range]
    rw [Nat.add_mul]
    omega
theorem prsIJ_len (n i j : Nat) (hi : i ≤ 12) (hn : n ≤ 12) (hj : j ≤ 12) : (prsIJ n i j).length ≤ 200 := by
  have h := prsTo_len n i
  have h2 : i * n ≤ 12 * 12 := Nat.mul_le_mul hi hn
  simp only [prsIJ, List.length_append, List.length_map, List.length_range]
  omega
theorem prsTo_mem (n : Nat) : ∀ i, i ≤ n → ∀ p ∈ prsTo n i, p.1 < n ∧ p.2 < n
  | 0, _, p, h => by simp [prsTo] at h
  | i + 1, hi, p, h => by
    simp only [prsTo, List.mem_append, List.mem_map, List.mem_range] at h
    rcases h with h | ⟨k, hk, rfl⟩
    · exact prsTo_mem n i (by omega) p h
    · exact ⟨by show i < n; omega, by show i + 1 + k < n; omega⟩

theorem infoTurn : (Try.prog.info? 83).map (fun i => (i.zero, i.size, i.bytes)) = some (some (.agg #[Value.int IntKind.i64 0, Value.int IntKind.i64 0]), 2, 16) := by kernel_rfl
theorem append_turns (w : World) {ops : Array Oper} {rest : List Oper} {o : Oper} {a : Act} {Q : Exit → Act → World → Prop}
    (hg : o.guard = none) (s x : Operand) (hop : o.op = Op.call { callee := Callee.builtin Builtin.append, args := #[s, x], argTypes := #[114, 114] })
    (base : Nat) (v : Value) (k : Nat) (xs : List Value) (hs : a.eval s = v) (hown : w.ownsRow base 83 2 v k xs) (ad : Addr) (c : Nat) (news : List Value) (hx : a.eval x = .slice (some ad) 1 c) (hn : news.length = 2)
    (hc : ∀ j u, news[j]? = some u → w.cell? (ad.add j) = some u) (h1c : ∀ u ∈ news, u.oneCell' = true) (b1 : k ≤ 1000) (hb : base ≤ w.heap.size)
    (hK : ∀ v' w', w'.ownsRow base 83 2 v' (k + 1) (xs ++ news) → w.grownBy w' v.ownBlock → wpList Try.prog ops Q rest (a.put o.dst v') w') :
    wpList Try.prog ops Q (o :: rest) a w := by
  obtain ⟨i0, hi, hz0, hz1, hz2⟩ := info_parts infoTurn
  exact wpList_append_own w hg s x _ hop base _ i0 _ 2 16 Try.underlying114 hi hz0 hz1 hz2 rfl (by decide) v k xs hs hown ad 1 c news hx (by rw [hn]) hc h1c (by unfold maxLen; omega) (by omega) hb (fun v' w' h1 h2 _ => hK v' w' h1 h2)
theorem cells2_new (W : World) (o0 o1 : Value) (T : TypeId) (g : Nat) (hg : W.heap.size = g) : ∀ j u, [o0, o1][j]? = some u → (W.alloc (.cells #[o0, o1] T)).cell? ((⟨g, 0, none⟩ : Addr).add j) = some u := by
  intro j u hu
  subst hg
  have hadd : (⟨W.heap.size, 0, none⟩ : Addr).add j = ⟨W.heap.size, j, none⟩ := by unfold Addr.add; split <;> simp_all
  rw [hadd, cell_of_row _ _ j _ _ _ (heap_alloc_new W (.cells #[o0, o1] T))]
  simpa using hu

theorem own_turn {w : World} {base m i j : Nat} {v : Value} (hj : i + 1 ≤ j) (h : w.ownsRow base 83 2 v ((prsIJ m i j).length + 1) ((flatP (prsIJ m i j)).map (Value.int .i64) ++ [Value.int .i64 i, Value.int .i64 j])) :
    w.ownsRow base 83 2 v (prsIJ m i (j + 1)).length ((flatP (prsIJ m i (j + 1))).map (Value.int .i64)) := by
  rw [prsIJ_succ m i j hj, flatP_append, List.length_append, List.map_append]
  exact h

set_option maxHeartbeats 2000000 in
theorem turnsOf_any (veh : Int) (bi : Option Addr) (c2 m : Nat) (w : World) (h12 : m ≤ 12) :
    Calls Try.prog 73 #[.agg #[.int .i64 veh, .slice bi m c2]] w fun e w' => ∃ sl, e = .returned sl ∧ Below w.heap.size w w' ∧ w'.ownsRow w.heap.size 83 2 sl (prsTo m m).length ((flatP (prsTo m m)).map (Value.int .i64)) := by
  have B0 : Hid (Below w.heap.size w (w.alloc (.cells #[Value.int IntKind.i64 veh, Value.slice bi m c2] 32))) := (Below.refl _ _).alloc (Nat.le_refl _) _
  have R0 : Hid ((w.alloc (.cells #[Value.int IntKind.i64 veh, Value.slice bi m c2] 32)).heap[w.heap.size]? = some (.cells #[Value.int IntKind.i64 veh, Value.slice bi m c2] 32 (0, 0))) := heap_alloc_new _ _
  go_enter Try.func73, Try.ntmps73
  obtain ⟨d0, d1⟩ := cells2 R0.out
  go_wp2_with fail
  clear d0 d1
  go_loopw [3, 9] (fun tl t wr => ∃ i : Nat, i ≤ m ∧ t = .int .i64 i ∧ wr.ownsRow (w.heap.size + 1) 83 2 tl (prsTo m i).length ((flatP (prsTo m i)).map (Value.int .i64)) ∧ Below w.heap.size w wr ∧ wr.heap[w.heap.size]? = some (.cells #[Value.int IntKind.i64 veh, Value.slice bi m c2] 32 (0, 0))) (fun _ t _ => m - (intOf t).toNat)
  case atStart => exact ⟨0, Nat.zero_le _, rfl, World.ownsRow_nil _ _ _ _, B0.out, R0.out⟩
  case round =>
    clear B0 R0
    obtain ⟨i, hi, rfl, ho, hb, hr⟩ := hrel
    have O1 : Hid (wr.ownsRow (w.heap.size + 1) 83 2 _ (prsTo m i).length ((flatP (prsTo m i)).map (Value.int .i64))) := ho
    have B1 : Hid (Below w.heap.size w wr) := hb
    have R1 : Hid (wr.heap[w.heap.size]? = _) := hr
    clear ho hb hr
    by_cases hlt : i < m
    · have hlt' : (i : Int) < (m : Int) := by omega
      have hwr : IntKind.i64.wrap ((i : Int) + 1) = ((i + 1 : Nat) : Int) := by rw [IntWalk.i64_in _ (by omega)]; omega
      go_wp2_with fail
      go_loopw [3, 5] (fun tl t wr => ∃ j : Nat, i + 1 ≤ j ∧ j ≤ m ∧ t = .int .i64 j ∧ wr.ownsRow (w.heap.size + 1) 83 2 tl (prsIJ m i j).length ((flatP (prsIJ m i j)).map (Value.int .i64)) ∧ Below w.heap.size w wr ∧ wr.heap[w.heap.size]? = some (.cells #[Value.int IntKind.i64 veh, Value.slice bi m c2] 32 (0, 0))) (fun _ t _ => m - (intOf t).toNat)
      case atStart => exact ⟨i + 1, Nat.le_refl _, hlt, rfl, by rw [prsIJ_start]; exact O1.out, B1.out, R1.out⟩
      case round =>
        clear O1 B1 R1
        obtain ⟨j, hj1, hj2, rfl, ho, hb, hr⟩ := hrel
        have O1 : Hid (wr.ownsRow (w.heap.size + 1) 83 2 _ (prsIJ m i j).length ((flatP (prsIJ m i j)).map (Value.int .i64))) := ho
        have B1 : Hid (Below w.heap.size w wr) := hb
        have R1 : Hid (wr.heap[w.heap.size]? = _) := hr
        clear ho hb hr
        obtain ⟨d0, d1⟩ := cells2 R1.out
        by_cases hlj : j < m
        · have h3 : (j : Int) < (m : Int) := by omega
          have hwj : IntKind.i64.wrap ((j : Int) + 1) = ((j + 1 : Nat) : Int) := by rw [IntWalk.i64_in _ (by omega)]; omega
          have hlen : (prsIJ m i j).length ≤ 1000 := by have := prsIJ_len m i j (by omega) h12 (by omega); omega
          have HLE : Hid (w.heap.size + 1 ≤ wr.heap.size) := row_lt R1.out
          have BA : Hid (Below w.heap.size w (wr.alloc (.cells #[Value.int IntKind.i64 i, Value.int IntKind.i64 j] 83))) := B1.out.alloc B1.out.size _
          have RA : Hid ((wr.alloc (.cells #[Value.int IntKind.i64 i, Value.int IntKind.i64 j] 83)).heap[w.heap.size]? = _) := (heap_alloc_old _ _ (row_lt R1.out)).trans R1.out
          go_wp2_with (first
            | (at_builtin
               refine append_turns _ rfl _ _ rfl (w.heap.size + 1) u3 (prsIJ m i j).length _ rfl (O1.out.alloc _) _ 1 _ rfl rfl (cells2_new _ _ _ _ _ (by simp)) (by simp [Value.oneCell']) hlen (Nat.le_trans HLE.out (by simp)) ?_
               intro v' w4 hown hg
               have O4 : Hid (w4.ownsRow (w.heap.size + 1) 83 2 v' (prsIJ m i (j + 1)).length ((flatP (prsIJ m i (j + 1))).map (Value.int .i64))) := own_turn hj1 hown
               have B4 : Hid (Below w.heap.size w w4) := BA.out.grown hg BA.out.size (fun k e => by have := (O1.out.lt k e).1; omega)
               have R4 : Hid (w4.heap[w.heap.size]? = _) := (hg.block _ (row_lt RA.out) (fun e => by have := (O1.out.lt _ e.symm).1; omega)).trans RA.out
               clear hown hg))
          go_roundw
          case rel => exact ⟨j + 1, by omega, by omega, by first | rfl | go_num, O4.out, B4.out, R4.out⟩
          case measure => simp [intOf]; omega
        · have hje : j = m := by omega
          subst hje
          have h3 : ¬ ((j : Int) < (j : Int)) := by omega
          go_wp2
          go_roundw
          case rel => exact ⟨i + 1, by omega, by first | rfl | go_num, by rw [← prsIJ_end]; exact O1.out, B1.out, R1.out⟩
          case measure => simp [intOf]; omega
    · have hie : i = m := by omega
      subst hie
      go_wp2
      go_ret
      exact ⟨_, rfl, B1.out, owns_base O1.out (by omega)⟩

end Go.Proofs.Ytplefpmchhcfcaa

namespace Go.Proofs.Ytplefpmchhcfcaa
open Go.RowKit

/-- The answer's box, and the box of the best turn so far. -/
def LB (w W : World) (i j : Nat) : Prop := Below w.heap.size w W ∧ W.heap[w.heap.size]? = some (.cells #[Value.int IntKind.i64 0, Value.int IntKind.i64 0] 83 (0, 0)) ∧ W.heap[w.heap.size + 1]? = some (.cells #[Value.int IntKind.i64 i, Value.int IntKind.i64 j] 83 (0, 0))
theorem LB.below {w W W' : World} {i j : Nat} (h : LB w W i j) (hb : Below W.heap.size W W') : LB w W' i j := ⟨h.1.trans (hb.mono h.1.size), below_row hb (row_lt h.2.1) h.2.1, below_row hb (row_lt h.2.2) h.2.2⟩
theorem LB.b {w W : World} {i j : Nat} (h : LB w W i j) : Below w.heap.size w W := h.1
theorem LB.put {w W : World} {i j : Nat} (h : LB w W i j) (i' j' : Nat) : LB w ((W.setCell ⟨w.heap.size + 1, 0, none⟩ (.int .i64 i')).setCell ⟨w.heap.size + 1, 1, none⟩ (.int .i64 j')) i' j' := by
  have s1 := heap_setCell_same W (w.heap.size + 1) 0 _ _ (Value.int .i64 i') h.2.2
  have s2 := heap_setCell_same _ (w.heap.size + 1) 1 _ _ (Value.int .i64 j') s1
  exact ⟨(h.1.setCell (by simp) _).setCell (by simp) _, row_set' (row_set' h.2.1 (by omega)) (by omega), by simpa using s2⟩
theorem flat_row {W : World} {b off : Nat} {ps : List (Nat × Nat)} (h : IntsAt W (some ⟨b, off, none⟩) (flatP ps)) {k : Nat} {p : Nat × Nat} (hk : ps[k]? = some p) :
    W.cell? ⟨b, off + k * 2, none⟩ = some (.int .i64 (p.1 : Int)) ∧ W.cell? ⟨b, off + k * 2 + 1, none⟩ = some (.int .i64 (p.2 : Int)) := by
  have hlt : k < ps.length := by
    rcases Nat.lt_or_ge k ps.length with h' | h'
    · exact h'
    · rw [List.getElem?_eq_none h'] at hk; cases hk
  have hl := flatP_length ps
  have ha := flatP_at ps k p hk
  refine ⟨ints_cell h (by omega) ha.1, ?_⟩
  have := ints_cell h (j := k * 2 + 1) (by omega) ha.2
  rw [← Nat.add_assoc] at this
  exact this

set_option maxHeartbeats 2000000 in
theorem leastTurn_any (ad : Option Addr) (c pm pt : Nat) (ps : List (Nat × Nat)) (ok : Nat → Nat → Bool) (dl : Nat → Nat → Int) (w : World) (hI : IntsAt w ad (flatP ps)) (hl : ps.length ≤ 1000)
    (hcl : ∀ (W : World) (i j : Nat), Below w.heap.size w W → Calls Try.prog 76 #[.agg #[.int .i64 (i : Int), .int .i64 (j : Int)], .pointer (some ⟨pm, 0, none⟩), .pointer (some ⟨pt, 0, none⟩)] W fun e w' => e = .returned (.tuple #[.int .i64 (dl i j), .bool (ok i j && decide (dl i j < 0))]) ∧ Below W.heap.size W w')
    (hd : ∀ i j, -130000 ≤ dl i j) (s0 : BS) (hs0 : bst ok dl ps = s0) :
    Calls Try.prog 75 #[.slice ad ps.length c, .func (.func 76) #[] #[.pointer (some ⟨pm, 0, none⟩), .pointer (some ⟨pt, 0, none⟩)]] w fun e w' => e = .returned (.tuple #[.agg #[.int .i64 (s0.i : Int), .int .i64 (s0.j : Int)], .int .i64 s0.v, .bool s0.f]) ∧ Below w.heap.size w w' := by
  have HI : Hid (IntsAt w ad (flatP ps)) := hI
  have HC : Hid (∀ (W : World) (i j : Nat), Below w.heap.size w W → Calls Try.prog 76 #[.agg #[.int .i64 (i : Int), .int .i64 (j : Int)], .pointer (some ⟨pm, 0, none⟩), .pointer (some ⟨pt, 0, none⟩)] W fun e w' => e = .returned (.tuple #[.int .i64 (dl i j), .bool (ok i j && decide (dl i j < 0))]) ∧ Below W.heap.size W w') := hcl
  have HD : Hid (∀ i j, -130000 ≤ dl i j) := hd
  have HS0 : Hid (bst ok dl ps = s0) := hs0
  clear hI hcl hd hs0
  have B0 : Hid (LB w ((w.alloc (.cells #[Value.int IntKind.i64 0, Value.int IntKind.i64 0] 83)).alloc (.cells #[Value.int IntKind.i64 0, Value.int IntKind.i64 0] 83)) 0 0) := ⟨((Below.refl _ _).alloc (Nat.le_refl _) _).alloc (by simp) _, heap_alloc2_old _ _ _, heap_alloc2_new _ _ _⟩
  go_enter Try.func75, Try.ntmps75
  go_wp2_with fail
  go_loopw [8, 9, 16] (fun tv tf t wr => ∃ k : Nat, k ≤ ps.length ∧ t = .int .i64 k ∧ tv = .int .i64 (bst ok dl (ps.take k)).v ∧ tf = .bool (bst ok dl (ps.take k)).f ∧ LB w wr (bst ok dl (ps.take k)).i (bst ok dl (ps.take k)).j) (fun _ _ t _ => ps.length - (intOf t).toNat)
  case atStart => exact ⟨0, Nat.zero_le _, rfl, rfl, rfl, B0.out⟩
  case round =>
    clear B0
    obtain ⟨k, hk, rfl, rfl, rfl, hL⟩ := hrel
    by_cases hlt : k < ps.length
    · obtain ⟨p, hp⟩ : ∃ p, ps[k]? = some p := ⟨ps[k], List.getElem?_eq_getElem hlt⟩
      obtain ⟨i, j⟩ := p
      have hfl := flatP_length ps
      obtain ⟨b, off, rfl, hcs⟩ := (HI.out.below hL.1).some (j := k * 2) (by omega)
      clear hcs
      obtain ⟨f0, f1⟩ := flat_row (HI.out.below hL.1) hp
      have hn : bst ok dl (ps.take (k + 1)) = bstep ok dl (bst ok dl (ps.take k)) (i, j) := by
        rw [List.take_add_one, hp, ← bst_snoc]
        rfl
      have hv := bst_v (ok := ok) (dl := dl) (-130000) (by omega) HD.out (ps.take k)
      obtain ⟨s, HS⟩ : ∃ t, Hid (bst ok dl (ps.take k) = t) := ⟨_, rfl⟩
      rw [HS.out] at hn hv hL
      rw [HS.out]
      have HN : Hid (bst ok dl (ps.take (k + 1)) = bstep ok dl s (i, j)) := hn
      have L1 : Hid (LB w wr s.i s.j) := hL
      clear hn hL
      obtain ⟨sf, si, sj, sv⟩ := s
      simp only at hv L1 ⊢
      obtain ⟨D, HDD⟩ : ∃ t, Hid (dl i j = t) := ⟨_, rfl⟩
      obtain ⟨o, HOO⟩ : ∃ t, Hid (ok i j = t) := ⟨_, rfl⟩
      have hDb := HD.out i j
      rw [HDD.out] at hDb
      have N1 : Hid ((wr.alloc (.cells #[Value.int IntKind.i64 i, Value.int IntKind.i64 j] 83)).heap[wr.heap.size]? = some (.cells #[Value.int IntKind.i64 i, Value.int IntKind.i64 j] 83 (0, 0))) := heap_alloc_new _ _
      have L2 : Hid (LB w (wr.alloc (.cells #[Value.int IntKind.i64 i, Value.int IntKind.i64 j] 83)) si sj) := L1.out.below ((Below.refl _ _).alloc (Nat.le_refl _) _)
      have hkl : (k : Int) < (ps.length : Int) := by omega
      obtain ⟨n0, n1⟩ := cells2 N1.out
      go_wp2_with fail
      clear f0 f1 n0 n1
      refine (HC.out (wr.alloc (.cells #[Value.int IntKind.i64 i, Value.int IntKind.i64 j] 83)) i j (L1.out.b.alloc L1.out.b.size _)).mono ?_
      rintro e w2 ⟨rfl, hb⟩
      rw [HDD.out, HOO.out]
      have L3 : Hid (LB w w2 si sj) := L2.out.below hb
      have N3 : Hid (w2.heap[wr.heap.size]? = _) := below_row hb (row_lt N1.out) N1.out
      clear hb N1 L2
      have hwk : IntKind.i64.wrap ((k : Int) + 1) = ((k + 1 : Nat) : Int) := by rw [IntWalk.i64_in _ (by omega)]; omega
      obtain ⟨n0, n1⟩ := cells2 N3.out
      obtain ⟨q0, q1⟩ := cells2 L3.out.2.2
      have qf := fun i => frozen_of_row _ _ i _ _ L3.out.2.2
      have same : (o && decide (D < 0)) = false ∨ (o && decide (D < 0)) = true := by cases (o && decide (D < 0)) <;> simp
      rcases same with hsm | hsm
      · have HNS : Hid (bst ok dl (ps.take (k + 1)) = ⟨sf, si, sj, sv⟩) := by
          show bst ok dl (ps.take (k + 1)) = _
          rw [HN.out]
          cases ho : o
          · exact bstep_no1 (by rw [HOO.out, ho])
          · rw [ho] at hsm
            have hD0 : ¬ D < 0 := by simpa using hsm
            exact bstep_no2 (by rw [HDD.out]; show ¬ D < sv; omega)
        rw [hsm]
        clear hsm
        go_wp2
        go_roundw
        case rel => exact ⟨k + 1, by omega, by first | rfl | go_num, by rw [HNS.out], by rw [HNS.out], by rw [HNS.out]; exact L3.out⟩
        case measure => simp [intOf]; omega
      · have ho : o = true := by cases o <;> simp at hsm ⊢
        have hD0 : D < 0 := by rw [ho] at hsm; simpa using hsm
        have upd : D < sv → Hid (bst ok dl (ps.take (k + 1)) = ⟨true, i, j, D⟩) := fun h => by
          show bst ok dl (ps.take (k + 1)) = _
          rw [HN.out, ← HDD.out]
          exact bstep_yes (by rw [HOO.out, ho]) (by rw [HDD.out]; exact h)
        rw [hsm]
        clear hsm
        have L4 : Hid (LB w _ i j) := L3.out.put i j
        cases sf
        · have h0 : sv = 0 := hv.2.2.1 rfl
          have HNS := upd (by omega)
          clear upd
          go_wp2
          go_roundw
          case rel => exact ⟨k + 1, by omega, by first | rfl | go_num, by rw [HNS.out], by rw [HNS.out], by rw [HNS.out]; exact L4.out⟩
          case measure => simp [intOf]; omega
        · by_cases hdv : D < sv
          · have HNS := upd hdv
            clear upd
            go_wp2
            go_roundw
            case rel => exact ⟨k + 1, by omega, by first | rfl | go_num, by rw [HNS.out], by rw [HNS.out], by rw [HNS.out]; exact L4.out⟩
            case measure => simp [intOf]; omega
          · have HNS : Hid (bst ok dl (ps.take (k + 1)) = ⟨true, si, sj, sv⟩) := by
              show bst ok dl (ps.take (k + 1)) = _
              rw [HN.out]
              exact bstep_no2 (by rw [HDD.out]; exact hdv)
            clear upd
            go_wp2
            go_roundw
            case rel => exact ⟨k + 1, by omega, by first | rfl | go_num, by rw [HNS.out], by rw [HNS.out], by rw [HNS.out]; exact L3.out⟩
            case measure => simp [intOf]; omega
    · have hke : k = ps.length := by omega
      subst hke
      have he : bst ok dl (ps.take ps.length) = s0 := by rw [List.take_length]; exact HS0.out
      rw [he] at hL
      rw [he]
      have L1 : Hid (LB w wr s0.i s0.j) := hL
      clear hL he
      obtain ⟨sf, si, sj, sv⟩ := s0
      simp only at L1 ⊢
      have h3 : ¬ ((ps.length : Int) < (ps.length : Int)) := by omega
      obtain ⟨t0, t1⟩ := cells2 L1.out.2.1
      have tf := fun i => frozen_of_row _ _ i _ _ L1.out.2.1
      obtain ⟨q0, q1⟩ := cells2 L1.out.2.2
      go_wp2
      refine bodyPost_ret (v := .tuple #[.agg #[.int .i64 si, .int .i64 sj], .int .i64 sv, .bool sf]) (by simp [results, Try.results75, go_sem, t0, t1]) rfl ⟨rfl, ?_⟩
      repeat (first | with_reducible exact L1.out.b | refine Below.setCell ?_ (by simp <;> omega) _)

end Go.Proofs.Ytplefpmchhcfcaa
