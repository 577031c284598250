import Derived.Test.YtpfikhegmmpogaaPack0
import Derived.Test.YtpfikhegmmpogaaPack1
import Derived.Test.YtpfikhegmmpogaaPack2
import Derived.Test.YtpfikhegmmpogaaSliceLays
namespace Go.Proofs.Ytpfikhegmmpogaa
open Go.RowKit Go.Sort Go.Lib

/-- slices.Clone of numbers. -/
theorem clone_ints (b off c : Nat) (ids : List Int) (w : World) (hI : IntsAt w (some ⟨b, off, none⟩) ids) (hl : ids.length ≤ 1048576) :
    Calls Try.prog 109 #[.slice (some ⟨b, off, none⟩) ids.length c] w fun e w' => ∃ g cap, e = .returned (.slice (some ⟨g, 0, none⟩) ids.length cap) ∧ Below w.heap.size w w' ∧ w'.ownsRow w.heap.size 2 1 (.slice (some ⟨g, 0, none⟩) ids.length cap) ids.length (ids.map (Value.int .i64)) := by
  have hi := infoI64
  cases hq : Try.prog.info? 2 with
  | none => rw [hq] at hi; simp at hi
  | some i0 =>
    rw [hq] at hi
    simp only [Option.map_some, Option.some.injEq, Prod.mk.injEq] at hi
    refine (AnyE.slices_Clone Try.lClone i0 (Value.int .i64 0) 1 8 hq hi.1 hi.2.1 hi.2.2 rfl (by omega) Try.sizeOf2 b off ids.length c (ids.map (Value.int .i64)) w (by simp) (by unfold maxLen; omega) (by omega) ?_ ?_).mono ?_
    · intro j u hu
      have hj : j < ids.length := by
        rcases Nat.lt_or_ge j ids.length with h' | h'
        · exact h'
        · simp [List.getElem?_eq_none (by simpa using h' : (ids.map (Value.int .i64)).length ≤ j)] at hu
      obtain ⟨b', off', e, hc⟩ := hI j hj
      simp at e
      obtain ⟨rfl, rfl⟩ := e
      rw [hc, ← hu]
      simp [List.getD, hj]
    · intro u hu
      simp only [List.mem_map] at hu
      obtain ⟨x, _, rfl⟩ := hu
      rfl
    · rintro e w' ⟨v', rfl, ho, hne, hb⟩
      have ho' : w'.ownsRow w.heap.size 2 1 v' ids.length (ids.map (Value.int .i64)) := ho
      obtain ⟨g, cap, rfl, _⟩ := holds_of_ownsRow (enc := Value.int .i64) ho' hne
      exact ⟨g, cap, rfl, hb, ho'⟩

theorem putRow_part {w : World} {base g n cap q i : Nat} {zs ys : List Int} (h : w.ownsRow base 2 1 (.slice (some ⟨g, 0, none⟩) n cap) n (zs.map (Value.int .i64))) (hk : i + ys.length ≤ n) :
    (putRow (Value.int .i64) (Sort.ahead w q) g i ys.toArray).ownsRow base 2 1 (.slice (some ⟨g, 0, none⟩) n cap) n ((zs.take i ++ ys ++ zs.drop (i + ys.length)).map (Value.int .i64)) := by
  have hz : zs.length = n := by simpa using h.1
  rcases h.2 with ⟨e0, _⟩ | ⟨g', cap', cur, e0, hb, hg, hn, hm, hs, ht⟩
  · cases e0
  · injection e0 with e1 _ e3
    injection e1 with e1
    injection e1 with e1
    subst e1; subst e3
    refine ⟨by simp; omega, .inr ⟨g, cap, putCells (Value.int .i64) i ys.toArray cur, rfl, hb, ?_, hn, hm, by simpa [putCells] using hs, ?_⟩⟩
    · simp [putRow, mapBlock, Sort.ahead, Array.getElem?_modify, hg, onCells]
    · apply List.ext_getElem?
      intro j
      have e1 : ∀ j, j < n → cur[j]? = (zs.map (Value.int .i64))[j]? := fun j hj => by
        have : (cur.toList.take (n * 1))[j]? = (zs.map (Value.int .i64))[j]? := by rw [ht]
        rw [List.getElem?_take, if_pos (by omega), Array.getElem?_toList] at this
        exact this
      rw [List.getElem?_take, Array.getElem?_toList]
      by_cases hj : j < n
      · have hjc : j < cur.size := by omega
        rw [if_pos (by omega)]
        simp only [putCells, Array.getElem?_mapIdx, List.size_toArray]
        by_cases h1 : j < i
        · rw [e1 j hj, List.append_assoc, List.map_append, List.getElem?_append_left (by simp; omega)]
          simp only [List.getElem?_map, List.getElem?_take, if_pos h1]
          rw [List.getElem?_eq_getElem (by omega)]
          simp; omega
        · by_cases h2 : j < i + ys.length
          · rw [Array.getElem?_eq_getElem hjc, Option.map_some, if_pos (by omega), List.append_assoc, List.map_append, List.getElem?_append_right (by simp; omega), List.map_append, List.getElem?_append_left (by simp; omega)]
            have e4 : j - (List.map (Value.int IntKind.i64) (List.take i zs)).length = j - i := by simp; omega
            rw [e4, List.getElem?_map, List.getElem?_eq_getElem (by omega)]
            simp [getElem!_pos, show j - i < ys.length by omega]
          · rw [e1 j hj, List.map_append, List.getElem?_append_right (by simp; omega)]
            have e4 : j - (List.map (Value.int IntKind.i64) (List.take i zs ++ ys)).length = j - (i + ys.length) := by simp; omega
            rw [e4, List.getElem?_map, List.getElem?_map, List.getElem?_drop, show i + ys.length + (j - (i + ys.length)) = j by omega, List.getElem?_eq_getElem (by omega)]
            simp; omega
      · rw [if_neg (by omega), List.getElem?_eq_none (by simp; omega)]

/-- slices.Reverse of the part from i to j of a slice of the call's own. -/
theorem reverse_ints (g cap c2 i j base : Nat) (ids : List Int) (w : World) (ho : w.ownsRow base 2 1 (.slice (some ⟨g, 0, none⟩) ids.length cap) ids.length (ids.map (Value.int .i64))) (hi : i ≤ j) (hj : j < ids.length) (hl : ids.length ≤ 1048576) (m : Nat) (hm : m = j + 1 - i) :
    Calls Try.prog 126 #[.slice (some ⟨g, i, none⟩) m c2] w fun e w' => e = .returned (.tuple #[]) ∧ Below base w w' ∧ w'.ownsRow base 2 1 (.slice (some ⟨g, 0, none⟩) ids.length cap) ids.length ((revL ids i j).map (Value.int .i64)) := by
  obtain ⟨g', cap', e1, hb, hlt, hn, hmx, _, hH⟩ := holds_of_ownsRow (enc := Value.int .i64) ho (by simp)
  simp at e1
  obtain ⟨rfl, rfl⟩ := e1
  have hlen : ((ids.drop i).take (j + 1 - i)).length = m := by simp; omega
  have hc := AnyE.slices_Reverse Try.lReverse (Value.int .i64) (fun _ => rfl) g i c2 ((ids.drop i).take (j + 1 - i)) w (fun k hk => by
    have hk' : k < m := by simpa [hlen] using hk
    have := hH (i + k) (by simp; omega)
    rw [Nat.zero_add] at this
    refine ⟨this.1.trans ?_, this.2⟩
    simp [getElem!_pos, show i + k < ids.length by omega, show k < j + 1 - i by omega]) (by omega)
  rw [hlen] at hc
  refine hc.mono ?_
  rintro e w' ⟨rfl, q, rfl⟩
  refine ⟨rfl, ?_, ?_⟩
  · exact ⟨rfl, rfl, rfl, by simp [putRow, mapBlock, Sort.ahead], fun k hk => by simp [putRow, mapBlock, Sort.ahead, Array.getElem?_modify, show g ≠ k by omega]⟩
  · have hh := putRow_part (q := q) (i := i) (ys := ((ids.drop i).take (j + 1 - i)).reverse) ho (by simp; omega)
    have e5 : i + ((ids.drop i).take (j + 1 - i)).reverse.length = j + 1 := by simp; omega
    rw [e5] at hh
    exact hh

end Go.Proofs.Ytpfikhegmmpogaa

namespace Go.Proofs.Ytpfikhegmmpogaa
open Go.RowKit

/-- What a change of stops answers: new stops of its own, or nothing. -/
def HowOk (w : World) (ok : Bool) (ids' : List Int) (e : Ending) (w' : World) : Prop :=
  Below w.heap.size w w' ∧ ((ok = false ∧ e = .returned (.tuple #[.slice none 0 0, .bool false])) ∨
    (ok = true ∧ ∃ g cap, e = .returned (.tuple #[.slice (some ⟨g, 0, none⟩) ids'.length cap, .bool true]) ∧ w'.ownsRow w.heap.size 2 1 (.slice (some ⟨g, 0, none⟩) ids'.length cap) ids'.length (ids'.map (Value.int .i64))))


end Go.Proofs.Ytpfikhegmmpogaa

namespace Go.Proofs.Ytpfikhegmmpogaa
open Go.RowKit

/-- Whether i and j are places of stops that can be turned round. -/
def turnB (i j : Int) (n : Nat) : Bool := decide (0 ≤ i ∧ i < j ∧ j < n)
theorem turnB_true {i j : Int} {n : Nat} (h : turnB i j n = true) : 0 ≤ i ∧ i < j ∧ j < n := of_decide_eq_true h
theorem turnB_false {i j : Int} {n : Nat} (h : turnB i j n = false) : ¬ (0 ≤ i ∧ i < j ∧ j < n) := of_decide_eq_false h

set_option maxHeartbeats 1000000 in
theorem turnRound_any (p : Nat) (x y : Int) (bi : Option Addr) (c2 : Nat) (ids : List Int) (w : World) (hp0 : w.cell? ⟨p, 0, none⟩ = some (.int .i64 x)) (hp1 : w.cell? ⟨p, 1, none⟩ = some (.int .i64 y)) (hI : IntsAt w bi ids) (hl : ids.length ≤ 12) :
    Calls Try.prog 125 #[.slice bi ids.length c2, .pointer (some ⟨p, 0, none⟩)] w (HowOk w (turnB x y ids.length) (revL ids x.toNat y.toNat)) := by
  have HI : Hid (IntsAt w bi ids) := hI
  clear hI
  obtain ⟨v, HV⟩ : ∃ t, Hid (turnB x y ids.length = t) := ⟨_, rfl⟩
  rw [HV.out]
  cases v
  · have h1 := turnB_false HV.out
    rcases (show x < 0 ∨ (0 ≤ x ∧ y ≤ x) ∨ (0 ≤ x ∧ x < y ∧ (ids.length : Int) ≤ y) from by omega) with h | ⟨h, h'⟩ | ⟨h, h', h''⟩
    all_goals
      clear h1
      go_enter Try.func125, Try.ntmps125
      go_wp2
      go_ret2
      exact ⟨Below.refl _ _, .inl ⟨rfl, rfl⟩⟩
  · obtain ⟨h1, h2, h3⟩ := turnB_true HV.out
    obtain ⟨i, rfl⟩ : ∃ i : Nat, x = i := ⟨x.toNat, by omega⟩
    obtain ⟨j, rfl⟩ : ∃ j : Nat, y = j := ⟨y.toNat, by omega⟩
    have hij : i < j := by omega
    have hj : j < ids.length := by omega
    have er : (revL ids i j).length = ids.length := revL_length (by omega) hj
    rw [show ((i : Int)).toNat = i by omega, show ((j : Int)).toNat = j by omega]
    obtain ⟨b, off, rfl, _⟩ := HI.out.some hj
    have HR : Hid (HowOk w true (revL ids i j) = HowOk w true (revL ids i j)) := rfl
    go_enter Try.func125, Try.ntmps125
    go_wp2_with fail
    refine (clone_ints b off c2 ids w HI.out (by omega)).mono ?_
    rintro e w2 ⟨g, cap, rfl, hb, ho⟩
    obtain ⟨_, _, e1, _, _, hcap, hcm, _⟩ := Go.Lib.holds_of_ownsRow (enc := Value.int .i64) ho (by simp)
    simp at e1
    obtain ⟨rfl, rfl⟩ := e1
    have hcm' : cap ≤ 9223372036854775807 := by unfold maxLen at hcm; omega
    clear hcm
    have B2 : Hid (Below w.heap.size w w2) := hb
    have O2 : Hid (w2.ownsRow w.heap.size 2 1 (.slice (some ⟨g, 0, none⟩) ids.length cap) ids.length (ids.map (Value.int .i64))) := ho
    have k0 : w2.cell? ⟨p, 0, none⟩ = some (.int .i64 (i : Int)) := (B2.out.cell (p := ⟨p, 0, none⟩) (block_lt_of_cell hp0)).trans hp0
    have k1 : w2.cell? ⟨p, 1, none⟩ = some (.int .i64 (j : Int)) := (B2.out.cell (p := ⟨p, 1, none⟩) (block_lt_of_cell hp1)).trans hp1
    clear hb ho
    have hwr : IntKind.i64.wrap ((j : Int) + 1) = j + 1 := IntWalk.i64_in _ (by omega)
    go_wp2_with fail
    refine (reverse_ints g cap _ i j w.heap.size ids w2 O2.out (by omega) hj (by omega) _ (by omega)).mono ?_
    rintro e w3 ⟨rfl, hb, ho⟩
    have B3 : Hid (Below w.heap.size w w3) := B2.out.trans hb
    have O3 : Hid (w3.ownsRow w.heap.size 2 1 (.slice (some ⟨g, 0, none⟩) ids.length cap) ids.length ((revL ids i j).map (Value.int .i64))) := ho
    clear hb ho
    go_wp2
    go_ret2
    refine ⟨B3.out, .inr ⟨rfl, g, cap, ?_, ?_⟩⟩
    · rw [er]; rfl
    · rw [er]; exact O3.out

end Go.Proofs.Ytpfikhegmmpogaa

namespace Go.Proofs.Ytpfikhegmmpogaa
open Go.RowKit

/-- The best turn so far: whether there is one, its places, how much more it costs. -/
structure BS where
  f : Bool
  i : Nat
  j : Nat
  v : Int
def bs0 : BS := ⟨false, 0, 0, 0⟩
def bstep (ok : Nat → Nat → Bool) (dl : Nat → Nat → Int) (s : BS) (p : Nat × Nat) : BS := if ok p.1 p.2 = true ∧ dl p.1 p.2 < s.v then ⟨true, p.1, p.2, dl p.1 p.2⟩ else s
def bst (ok : Nat → Nat → Bool) (dl : Nat → Nat → Int) (l : List (Nat × Nat)) : BS := l.foldl (bstep ok dl) bs0
theorem bst_snoc (ok : Nat → Nat → Bool) (dl : Nat → Nat → Int) (l : List (Nat × Nat)) (p : Nat × Nat) : bst ok dl (l ++ [p]) = bstep ok dl (bst ok dl l) p := by
  simp [bst, List.foldl_append]
theorem bstep_yes {ok : Nat → Nat → Bool} {dl : Nat → Nat → Int} {s : BS} {i j : Nat} (h1 : ok i j = true) (h2 : dl i j < s.v) : bstep ok dl s (i, j) = ⟨true, i, j, dl i j⟩ := if_pos ⟨h1, h2⟩
theorem bstep_no1 {ok : Nat → Nat → Bool} {dl : Nat → Nat → Int} {s : BS} {i j : Nat} (h1 : ok i j = false) : bstep ok dl s (i, j) = s := if_neg fun h => by have := h.1; rw [h1] at this; cases this
theorem bstep_no2 {ok : Nat → Nat → Bool} {dl : Nat → Nat → Int} {s : BS} {i j : Nat} (h2 : ¬ dl i j < s.v) : bstep ok dl s (i, j) = s := if_neg fun h => h2 h.2
theorem bst_none {ok : Nat → Nat → Bool} {dl : Nat → Nat → Int} (h : ∀ i j, ok i j = false) (l : List (Nat × Nat)) : bst ok dl l = bs0 := by
  unfold bst
  induction l with
  | nil => rfl
  | cons p l ih =>
    rw [List.foldl_cons, show bstep ok dl bs0 p = bs0 from bstep_no1 (h p.1 p.2)]
    exact ih
/-- The pairs of places in their order: those whose first is below i; and those of i up to j. -/
def prsTo (n : Nat) : Nat → List (Nat × Nat)
  | 0 => []
  | i + 1 => prsTo n i ++ (List.range (n - (i + 1))).map fun k => (i, i + 1 + k)
def prsIJ (n i j : Nat) : List (Nat × Nat) := prsTo n i ++ (List.range (j - (i + 1))).map fun k => (i, i + 1 + k)
theorem prsIJ_start (n i : Nat) : prsIJ n i (i + 1) = prsTo n i := by simp [prsIJ]
theorem prsIJ_end (n i : Nat) : prsIJ n i n = prsTo n (i + 1) := rfl
theorem prsIJ_succ (n i j : Nat) (h : i + 1 ≤ j) : prsIJ n i (j + 1) = prsIJ n i j ++ [(i, j)] := by
  unfold prsIJ
  rw [show j + 1 - (i + 1) = (j - (i + 1)) + 1 by omega, List.range_succ, List.map_append, ← List.append_assoc]
  simp only [List.map_cons, List.map_nil]
  rw [show i + 1 + (j - (i + 1)) = j by omega]
/-- What is told of the best one. -/
def bsA (s : BS) : Int := if s.f then (s.i : Int) else -1
def bsB (s : BS) : Int := if s.f then (s.j : Int) else -1
theorem bst_v {ok : Nat → Nat → Bool} {dl : Nat → Nat → Int} (lo : Int) (h0 : lo ≤ 0) (h : ∀ i j, lo ≤ dl i j) (l : List (Nat × Nat)) : lo ≤ (bst ok dl l).v ∧ (bst ok dl l).v ≤ 0 ∧ ((bst ok dl l).f = false → (bst ok dl l).v = 0) ∧ ((bst ok dl l).f = true → (bst ok dl l).v < 0) := by
  unfold bst
  suffices hs : ∀ s : BS, (lo ≤ s.v ∧ s.v ≤ 0 ∧ (s.f = false → s.v = 0) ∧ (s.f = true → s.v < 0)) → let t := l.foldl (bstep ok dl) s; (lo ≤ t.v ∧ t.v ≤ 0 ∧ (t.f = false → t.v = 0) ∧ (t.f = true → t.v < 0)) from
    hs bs0 ⟨h0, Int.le_refl _, fun _ => rfl, fun e => by cases e⟩
  induction l with
  | nil => intro s hs; exact hs
  | cons p l ih =>
    intro s hs
    rw [List.foldl_cons]
    apply ih
    unfold bstep
    split
    · rename_i hc
      have := h p.1 p.2
      exact ⟨this, by show dl p.1 p.2 ≤ 0; omega, fun e => (by cases e), fun _ => by show dl p.1 p.2 < 0; omega⟩
    · exact hs
theorem bst_ij {ok : Nat → Nat → Bool} {dl : Nat → Nat → Int} (n : Nat) (l : List (Nat × Nat)) (hl : ∀ p ∈ l, p.1 < n ∧ p.2 < n) : (bst ok dl l).i ≤ n ∧ (bst ok dl l).j ≤ n := by
  unfold bst
  suffices hs : ∀ s : BS, (s.i ≤ n ∧ s.j ≤ n) → (l.foldl (bstep ok dl) s).i ≤ n ∧ (l.foldl (bstep ok dl) s).j ≤ n from hs bs0 ⟨Nat.zero_le _, Nat.zero_le _⟩
  induction l with
  | nil => intro s hs; exact hs
  | cons p l ih =>
    intro s hs
    rw [List.foldl_cons]
    apply ih (fun q hq => hl q (List.mem_cons_of_mem _ hq))
    have := hl p (List.mem_cons_self ..)
    unfold bstep
    split
    · exact ⟨by show p.1 ≤ n; omega, by show p.2 ≤ n; omega⟩
    · exact hs
/-- The turns of a route: whether one can be made, and how much more it costs. -/
def trB (c : Bool) (n : Int) (zs os vs : List Int) (ko kv : Nat) (veh : Int) (ids : List Int) (i j : Nat) : Bool := chB c n zs os vs ko kv veh ids (turnB (i : Int) (j : Int) ids.length) (revL ids i j)
def trD (c : Bool) (n : Int) (zs os vs : List Int) (ko kv : Nat) (veh : Int) (ids : List Int) (i j : Nat) : Int := chD (trB c n zs os vs ko kv veh ids i j) n zs os vs ko kv veh ids (revL ids i j)
theorem trD_bd {c : Bool} {n : Int} {zs : List Int} (hz : matB n zs = true) (os vs : List Int) (ko kv : Nat) (veh : Int) (ids : List Int) (i j : Nat) : -130000 ≤ trD c n zs os vs ko kv veh ids i j ∧ trD c n zs os vs ko kv veh ids i j ≤ 130000 := by
  unfold trD chD
  have h1 := rcV_bd hz os vs ko kv veh ids
  have h2 := rcV_bd hz os vs ko kv veh (revL ids i j)
  split <;> omega
theorem trB_no {c : Bool} {n : Int} {zs os vs : List Int} {ko kv : Nat} {veh : Int} {ids : List Int} (h : codeV c n zs os vs ko kv veh ids ≠ 0) (i j : Nat) : trB c n zs os vs ko kv veh ids i j = false := chB_no1 h _ _
theorem trD_no {c : Bool} {n : Int} {zs os vs : List Int} {ko kv : Nat} {veh : Int} {ids : List Int} {i j : Nat} (h : trB c n zs os vs ko kv veh ids i j = false) : trD c n zs os vs ko kv veh ids i j = 0 := by
  unfold trD
  rw [h]
  rfl
/-- The best turn of a route. -/
def btV (c : Bool) (n : Int) (zs os vs : List Int) (ko kv : Nat) (veh : Int) (ids : List Int) : BS := bst (trB c n zs os vs ko kv veh ids) (trD c n zs os vs ko kv veh ids) (prsTo (min ids.length 12) (min ids.length 12))

end Go.Proofs.Ytpfikhegmmpogaa

namespace Go.Proofs.Ytpfikhegmmpogaa
open Go.RowKit

/-- The best so far is one that can be made, at the cost that is told. -/
theorem bst_made {ok : Nat → Nat → Bool} {dl : Nat → Nat → Int} (l : List (Nat × Nat)) (h : (bst ok dl l).f = true) : ok (bst ok dl l).i (bst ok dl l).j = true ∧ dl (bst ok dl l).i (bst ok dl l).j = (bst ok dl l).v := by
  unfold bst at *
  suffices hs : ∀ s : BS, (s.f = true → ok s.i s.j = true ∧ dl s.i s.j = s.v) → (l.foldl (bstep ok dl) s).f = true → ok (l.foldl (bstep ok dl) s).i (l.foldl (bstep ok dl) s).j = true ∧ dl (l.foldl (bstep ok dl) s).i (l.foldl (bstep ok dl) s).j = (l.foldl (bstep ok dl) s).v from
    hs bs0 (fun e => by cases e) h
  clear h
  induction l with
  | nil => intro s hs h; exact hs h
  | cons p l ih =>
    intro s hs h
    rw [List.foldl_cons] at h ⊢
    refine ih _ ?_ h
    unfold bstep
    split
    · rename_i hc
      intro _
      exact ⟨hc.1, rfl⟩
    · exact hs
/-- A polished route's stops: the best turn made again and again, k times at most. -/
def polN (n : Int) (zs os vs : List Int) (ko kv : Nat) (veh : Int) : Nat → List Int → List Int
  | 0, ids => ids
  | k + 1, ids => if (btV true n zs os vs ko kv veh ids).f = true then polN n zs os vs ko kv veh k (revL ids (btV true n zs os vs ko kv veh ids).i (btV true n zs os vs ko kv veh ids).j) else ids
theorem polN_stop {n : Int} {zs os vs : List Int} {ko kv : Nat} {veh : Int} {ids : List Int} (h : (btV true n zs os vs ko kv veh ids).f = false) : ∀ k, polN n zs os vs ko kv veh k ids = ids
  | 0 => rfl
  | k + 1 => by simp only [polN]; rw [if_neg (by rw [h]; simp)]
theorem polN_succ {n : Int} {zs os vs : List Int} {ko kv : Nat} {veh : Int} {ids : List Int} (k : Nat) (h : (btV true n zs os vs ko kv veh ids).f = true) : polN n zs os vs ko kv veh (k + 1) ids = polN n zs os vs ko kv veh k (revL ids (btV true n zs os vs ko kv veh ids).i (btV true n zs os vs ko kv veh ids).j) := by
  simp only [polN]
  rw [if_pos h]
/-- A turn that is made: the route can be driven still, has as many stops, and costs just that less. -/
theorem bt_made {n : Int} {zs os vs : List Int} {ko kv : Nat} {veh : Int} {ids : List Int} (h : (btV true n zs os vs ko kv veh ids).f = true) :
    codeV true n zs os vs ko kv veh (revL ids (btV true n zs os vs ko kv veh ids).i (btV true n zs os vs ko kv veh ids).j) = 0 ∧ turnB ((btV true n zs os vs ko kv veh ids).i : Int) ((btV true n zs os vs ko kv veh ids).j : Int) ids.length = true ∧ trB true n zs os vs ko kv veh ids (btV true n zs os vs ko kv veh ids).i (btV true n zs os vs ko kv veh ids).j = true ∧
    rcV n zs os vs ko kv veh (revL ids (btV true n zs os vs ko kv veh ids).i (btV true n zs os vs ko kv veh ids).j) - rcV n zs os vs ko kv veh ids = (btV true n zs os vs ko kv veh ids).v := by
  obtain ⟨h1, h2⟩ := bst_made _ h
  have h1' : trB true n zs os vs ko kv veh ids (btV true n zs os vs ko kv veh ids).i (btV true n zs os vs ko kv veh ids).j = true := h1
  have h2' : trD true n zs os vs ko kv veh ids (btV true n zs os vs ko kv veh ids).i (btV true n zs os vs ko kv veh ids).j = (btV true n zs os vs ko kv veh ids).v := h2
  obtain ⟨_, a2, a3⟩ := chB_true h1'
  refine ⟨a3, a2, h1', ?_⟩
  rw [← h2']
  unfold trD
  rw [h1']
  rfl
theorem bt_v {n : Int} {zs os vs : List Int} {ko kv : Nat} {veh : Int} {ids : List Int} (hz : matB n zs = true) : -130000 ≤ (btV true n zs os vs ko kv veh ids).v ∧ (btV true n zs os vs ko kv veh ids).v ≤ 0 ∧ ((btV true n zs os vs ko kv veh ids).f = false → (btV true n zs os vs ko kv veh ids).v = 0) ∧ ((btV true n zs os vs ko kv veh ids).f = true → (btV true n zs os vs ko kv veh ids).v < 0) :=
  bst_v (-130000) (by omega) (fun i j => (trD_bd hz os vs ko kv veh ids i j).1) _
/-- Enough turns are enough. -/
theorem polN_more {n : Int} {zs os vs : List Int} {ko kv : Nat} {veh : Int} (hz : matB n zs = true) : ∀ (k : Nat) (ids : List Int), rcV n zs os vs ko kv veh ids ≤ k → ∀ m, k ≤ m → polN n zs os vs ko kv veh m ids = polN n zs os vs ko kv veh k ids
  | 0, ids, h, m, _ => by
    have hf : (btV true n zs os vs ko kv veh ids).f = false := by
      cases hf : (btV true n zs os vs ko kv veh ids).f
      · rfl
      · have h1 := (bt_made hf).2.2.2
        have h2 := (bt_v hz).2.2.2 hf
        have h3 := rcV_bd hz os vs ko kv veh (revL ids (btV true n zs os vs ko kv veh ids).i (btV true n zs os vs ko kv veh ids).j)
        omega
    rw [polN_stop hf, polN_stop hf]
  | k + 1, ids, h, m, hm => by
    obtain ⟨m', rfl⟩ : ∃ m', m = m' + 1 := ⟨m - 1, by omega⟩
    simp only [polN]
    cases hf : (btV true n zs os vs ko kv veh ids).f
    · simp
    · rw [if_pos rfl, if_pos rfl]
      have h1 := (bt_made hf).2.2.2
      have h2 := (bt_v hz).2.2.2 hf
      exact polN_more hz k _ (by omega) m' (by omega)
/-- A polished route's stops. -/
def polV (n : Int) (zs os vs : List Int) (ko kv : Nat) (veh : Int) (ids : List Int) : List Int := polN n zs os vs ko kv veh 130000 ids
theorem polV_stop {n : Int} {zs os vs : List Int} {ko kv : Nat} {veh : Int} {ids : List Int} (h : (btV true n zs os vs ko kv veh ids).f = false) : polV n zs os vs ko kv veh ids = ids := polN_stop h _
theorem polV_step {n : Int} {zs os vs : List Int} {ko kv : Nat} {veh : Int} {ids : List Int} (hz : matB n zs = true) (h : (btV true n zs os vs ko kv veh ids).f = true) : polV n zs os vs ko kv veh ids = polV n zs os vs ko kv veh (revL ids (btV true n zs os vs ko kv veh ids).i (btV true n zs os vs ko kv veh ids).j) := by
  have hb := rcV_bd hz os vs ko kv veh ids
  have h1 := (bt_made h).2.2.2
  have h2 := (bt_v hz).2.2.2 h
  have e : polV n zs os vs ko kv veh ids = polN n zs os vs ko kv veh 129999 (revL ids (btV true n zs os vs ko kv veh ids).i (btV true n zs os vs ko kv veh ids).j) := by
    have := polN_succ 129999 h
    exact this
  rw [e]
  unfold polV
  exact (polN_more hz 129999 _ (by omega) 130000 (by omega)).symm
/-- At no cost there is no turn that saves. -/
theorem bt_free {n : Int} {zs os vs : List Int} {ko kv : Nat} {veh : Int} {ids : List Int} (hz : matB n zs = true) (h : rcV n zs os vs ko kv veh ids ≤ 0) : (btV true n zs os vs ko kv veh ids).f = false := by
  cases hf : (btV true n zs os vs ko kv veh ids).f
  · rfl
  · have h1 := (bt_made hf).2.2.2
    have h2 := (bt_v hz).2.2.2 hf
    have h3 := rcV_bd hz os vs ko kv veh (revL ids (btV true n zs os vs ko kv veh ids).i (btV true n zs os vs ko kv veh ids).j)
    omega

end Go.Proofs.Ytpfikhegmmpogaa
