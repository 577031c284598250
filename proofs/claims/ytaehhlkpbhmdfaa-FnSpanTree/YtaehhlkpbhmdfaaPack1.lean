import Derived.Test.YtaehhlkpbhmdfaaPack0
import Derived.Test.YtaehhlkpbhmdfaaRows
import Derived.WalkKit
import Derived.WalkSpells
import Derived.WalkLawsBesides
import Derived.Deep.QuietTactic
import Derived.BigQuiet
import Derived.Deep.RegionWith
import Derived.Deep.RegionHeld3
import Derived.Deep.WholeRow
namespace Go.Proofs.Ytaehhlkpbhmdfaa
end Go.Proofs.Ytaehhlkpbhmdfaa

namespace Go.Proofs.Ytaehhlkpbhmdfaa
open Go.RowKit

/-- An edge. -/
structure ED where
  a : Int
  b : Int
  t : Int
def e0 : ED := ⟨0, 0, 0⟩
/-- Which of two edges comes first. -/
def ltB (x y : ED) : Bool := decide (x.t < y.t ∨ (x.t = y.t ∧ (x.a < y.a ∨ (x.a = y.a ∧ x.b < y.b))))
def leE (x y : ED) : Prop := ltB y x = false
theorem leE_iff (x y : ED) : leE x y ↔ ¬ (y.t < x.t ∨ (y.t = x.t ∧ (y.a < x.a ∨ (y.a = x.a ∧ y.b < x.b)))) := by
  unfold leE ltB
  rw [decide_eq_false_iff_not]
theorem ltB_iff (x y : ED) : ltB x y = true ↔ (x.t < y.t ∨ (x.t = y.t ∧ (x.a < y.a ∨ (x.a = y.a ∧ x.b < y.b)))) := by
  unfold ltB
  rw [decide_eq_true_iff]
theorem leE.rf (x : ED) : leE x x := (leE_iff x x).2 (by omega)
theorem leE.tr {x y z : ED} (h : leE x y) (k : leE y z) : leE x z := by
  rw [leE_iff] at *
  omega
theorem leE.lt {x y : ED} (h : ltB x y = true) : leE x y := by
  rw [ltB_iff] at h
  rw [leE_iff]
  omega
theorem leE.anti {x y : ED} (h : leE x y) (k : leE y x) : x = y := by
  rw [leE_iff] at *
  obtain ⟨a, b, t⟩ := x
  obtain ⟨a', b', t'⟩ := y
  simp only at *
  have e1 : t = t' := by omega
  have e2 : a = a' := by omega
  have e3 : b = b' := by omega
  subst e1 e2 e3
  rfl
theorem mem_at {L : List ED} {x : ED} : x ∈ L ↔ ∃ k, k < L.length ∧ L.getD k e0 = x := by
  constructor
  · intro h
    obtain ⟨k, hk, e⟩ := List.getElem_of_mem h
    exact ⟨k, hk, by rw [List.getD_eq_getElem?_getD, List.getElem?_eq_getElem hk]; simpa using e⟩
  · rintro ⟨k, hk, rfl⟩
    rw [List.getD_eq_getElem?_getD, List.getElem?_eq_getElem hk]
    exact List.getElem_mem hk
/-- Two edges change their places. -/
def swp (L : List ED) (i j : Nat) : List ED := (L.set i (L.getD j e0)).set j (L.getD i e0)
theorem swp_len (L : List ED) (i j : Nat) : (swp L i j).length = L.length := by simp [swp]
theorem swp_at (L : List ED) {i j : Nat} (hi : i < L.length) (hj : j < L.length) (k : Nat) : (swp L i j).getD k e0 = if k = j then L.getD i e0 else if k = i then L.getD j e0 else L.getD k e0 := by
  unfold swp
  rw [List.getD_eq_getElem?_getD, List.getElem?_set]
  by_cases h1 : j = k
  · rw [if_pos h1, if_pos h1.symm, if_pos (by rw [List.length_set]; exact hj)]
    rfl
  · rw [if_neg h1, if_neg (fun e => h1 e.symm), List.getElem?_set]
    by_cases h2 : i = k
    · rw [if_pos h2, if_pos h2.symm, if_pos hi]
      rfl
    · rw [if_neg h2, if_neg (fun e => h2 e.symm), ← List.getD_eq_getElem?_getD]
theorem swp_mem {L : List ED} {i j : Nat} (hi : i < L.length) (hj : j < L.length) (x : ED) : x ∈ swp L i j ↔ x ∈ L := by
  rw [mem_at, mem_at]
  constructor
  · rintro ⟨k, hk, e⟩
    rw [swp_at L hi hj] at e
    rw [swp_len] at hk
    split at e
    · exact ⟨i, hi, e⟩
    · split at e
      · exact ⟨j, hj, e⟩
      · exact ⟨k, hk, e⟩
  · rintro ⟨k, hk, e⟩
    by_cases h1 : k = i
    · refine ⟨j, by rw [swp_len]; exact hj, ?_⟩
      rw [swp_at L hi hj, if_pos rfl, ← h1, e]
    · by_cases h2 : k = j
      · refine ⟨i, by rw [swp_len]; exact hi, ?_⟩
        rw [swp_at L hi hj]
        by_cases h3 : i = j
        · exact absurd (h2.trans h3.symm) h1
        · rw [if_neg h3, if_pos rfl, ← h2, e]
      · refine ⟨k, by rw [swp_len]; exact hk, ?_⟩
        rw [swp_at L hi hj, if_neg h2, if_neg h1, e]
/-- The one above k. -/
def par (k : Nat) : Nat := (k - 1) / 2
def isHp (L : List ED) : Prop := ∀ k, 0 < k → k < L.length → leE (L.getD (par k) e0) (L.getD k e0)
def upI (L : List ED) (j : Nat) : Prop := (∀ k, 0 < k → k < L.length → k ≠ j → leE (L.getD (par k) e0) (L.getD k e0)) ∧ (∀ k, 0 < k → k < L.length → par k = j → 0 < j → leE (L.getD (par j) e0) (L.getD k e0))
def dnI (L : List ED) (i : Nat) : Prop := (∀ k, 0 < k → k < L.length → par k ≠ i → leE (L.getD (par k) e0) (L.getD k e0)) ∧ (∀ k, 0 < k → k < L.length → par k = i → 0 < i → leE (L.getD (par i) e0) (L.getD k e0))
theorem par_lt {k : Nat} (h : 0 < k) : par k < k := by unfold par; omega
theorem up_step {L : List ED} {j : Nat} (h : upI L j) (h0 : 0 < j) (hj : j < L.length) (hl : ltB (L.getD j e0) (L.getD (par j) e0) = true) : upI (swp L (par j) j) (par j) := by
  have hp := par_lt h0
  have hi : par j < L.length := by omega
  have hle := leE.lt hl
  refine ⟨fun k k0 kl hk => ?_, fun k k0 kl hk hpj => ?_⟩
  · rw [swp_len] at kl
    rw [swp_at L hi hj, swp_at L hi hj]
    by_cases h1 : k = j
    · subst h1
      rw [if_neg (by omega), if_pos rfl, if_pos rfl]
      exact hle
    · rw [if_neg h1, if_neg hk]
      by_cases h2 : par k = j
      · rw [if_pos h2]
        exact h.2 k k0 kl h2 h0
      · rw [if_neg h2]
        by_cases h3 : par k = par j
        · rw [if_pos h3]
          have := h.1 k k0 kl h1
          rw [h3] at this
          exact hle.tr this
        · rw [if_neg h3]
          exact h.1 k k0 kl h1
  · rw [swp_len] at kl
    have hpp := par_lt hpj
    have h5 := h.1 (par j) hpj hi (by omega)
    rw [swp_at L hi hj, swp_at L hi hj, if_neg (by omega), if_neg (by omega)]
    by_cases h1 : k = j
    · rw [if_pos h1]
      exact h5
    · rw [if_neg h1]
      have hk2 : k ≠ par j := fun e => by rw [e] at hk; omega
      rw [if_neg hk2]
      have := h.1 k k0 kl h1
      rw [hk] at this
      exact h5.tr this
theorem up_end {L : List ED} {j : Nat} (h : upI L j) (hl : par j = j ∨ ltB (L.getD j e0) (L.getD (par j) e0) = false) : isHp L := fun k k0 kl => by
  by_cases h1 : k = j
  · subst h1
    rcases hl with h2 | h2
    · have := par_lt k0; omega
    · exact h2
  · exact h.1 k k0 kl h1
theorem up_new {L : List ED} (h : isHp L) (x : ED) : upI (L ++ [x]) L.length := by
  have at1 : ∀ k, k < L.length → (L ++ [x]).getD k e0 = L.getD k e0 := fun k hk => by
    rw [List.getD_eq_getElem?_getD, List.getD_eq_getElem?_getD, List.getElem?_append_left hk]
  refine ⟨fun k k0 kl hk => ?_, fun k k0 kl hk _ => ?_⟩
  · rw [List.length_append, List.length_singleton] at kl
    have := par_lt k0
    rw [at1 _ (by omega), at1 _ (by omega)]
    exact h k k0 (by omega)
  · rw [List.length_append, List.length_singleton] at kl
    have := par_lt k0
    omega
/-- The lesser one below i is j. -/
theorem dn_step {L : List ED} {i j : Nat} (h : dnI L i) (h0 : 0 < j) (hj : j < L.length) (hp : par j = i) (hm : ∀ k, 0 < k → k < L.length → par k = i → leE (L.getD j e0) (L.getD k e0)) (hl : ltB (L.getD j e0) (L.getD i e0) = true) : dnI (swp L i j) j := by
  have hij : i < j := by rw [← hp]; exact par_lt h0
  have hi : i < L.length := by omega
  have hle := leE.lt hl
  refine ⟨fun k k0 kl hk => ?_, fun k k0 kl hk _ => ?_⟩
  · rw [swp_len] at kl
    rw [swp_at L hi hj, swp_at L hi hj, if_neg hk]
    by_cases h3 : par k = i
    · rw [if_pos h3]
      by_cases h1 : k = j
      · rw [if_pos h1]
        exact hle
      · rw [if_neg h1]
        have hki : k ≠ i := fun e => by have := par_lt k0; omega
        rw [if_neg hki]
        exact hm k k0 kl h3
    · rw [if_neg h3]
      by_cases h1 : k = j
      · subst h1
        exact absurd hp h3
      · rw [if_neg h1]
        by_cases h4 : k = i
        · subst h4
          rw [if_pos rfl]
          exact h.2 j h0 hj hp k0
        · rw [if_neg h4]
          exact h.1 k k0 kl h3
  · rw [swp_len] at kl
    have hkj : j < k := by rw [← hk]; exact par_lt k0
    rw [swp_at L hi hj, swp_at L hi hj, hp, if_neg (by omega), if_pos rfl, if_neg (by omega), if_neg (by omega)]
    have := h.1 k k0 kl (by omega)
    rw [hk] at this
    exact this
theorem dn_end {L : List ED} {i : Nat} (h : dnI L i) (hm : ∀ k, 0 < k → k < L.length → par k = i → leE (L.getD i e0) (L.getD k e0)) : isHp L := fun k k0 kl => by
  by_cases h1 : par k = i
  · rw [h1]
    exact hm k k0 kl h1
  · exact h.1 k k0 kl h1
theorem hp_top {L : List ED} (h : isHp L) : ∀ k, k < L.length → leE (L.getD 0 e0) (L.getD k e0) := by
  intro k
  induction k using Nat.strongRecOn with
  | _ k ih =>
    intro hk
    by_cases h0 : k = 0
    · rw [h0]; exact leE.rf _
    · have hp := par_lt (show 0 < k by omega)
      exact (ih (par k) hp (by omega)).tr (h k (by omega) hk)
theorem hp_min {L : List ED} (h : isHp L) {x : ED} (hx : x ∈ L) : leE (L.getD 0 e0) x := by
  obtain ⟨k, hk, rfl⟩ := mem_at.1 hx
  exact hp_top h k hk
theorem take_at (L : List ED) {n k : Nat} (h : k < n) : (L.take n).getD k e0 = L.getD k e0 := by
  rw [List.getD_eq_getElem?_getD, List.getD_eq_getElem?_getD, List.getElem?_take, if_pos h]
/-- What is left when the first one and the last one have changed their places. -/
theorem pop_dn {L : List ED} {n : Nat} (h : isHp L) (hn : L.length = n + 1) : dnI ((swp L 0 n).take n) 0 := by
  have hi : 0 < L.length := by omega
  have hj : n < L.length := by omega
  have hl : ((swp L 0 n).take n).length = n := by rw [List.length_take, swp_len]; omega
  refine ⟨fun k k0 kl hk => ?_, fun k _ _ _ h0 => absurd h0 (Nat.lt_irrefl _)⟩
  rw [hl] at kl
  have hp := par_lt k0
  rw [take_at _ (by omega), take_at _ kl, swp_at L hi hj, swp_at L hi hj, if_neg (by omega), if_neg hk, if_neg (by omega), if_neg (by omega)]
  exact h k k0 (by omega)
theorem pop_mem {L : List ED} {n : Nat} (hn : L.length = n + 1) (x : ED) : x ∈ L ↔ x = L.getD 0 e0 ∨ x ∈ (swp L 0 n).take n := by
  have hi : 0 < L.length := by omega
  have hj : n < L.length := by omega
  have hl : ((swp L 0 n).take n).length = n := by rw [List.length_take, swp_len]; omega
  rw [← swp_mem hi hj x, mem_at, mem_at, hl, swp_len]
  constructor
  · rintro ⟨k, hk, e⟩
    by_cases h1 : k = n
    · left
      rw [← e, swp_at L hi hj, if_pos h1]
    · right
      exact ⟨k, by omega, by rw [take_at _ (by omega), e]⟩
  · rintro (e | ⟨k, hk, e⟩)
    · exact ⟨n, hj, by rw [swp_at L hi hj, if_pos rfl, e]⟩
    · rw [take_at _ hk] at e
      exact ⟨k, by omega, e⟩
theorem swp_last (L : List ED) {n : Nat} (hn : L.length = n + 1) : swp L 0 n = (swp L 0 n).take n ++ [L.getD 0 e0] := by
  have hl : (swp L 0 n).length = n + 1 := by rw [swp_len, hn]
  have h1 : (swp L 0 n).drop n = [L.getD 0 e0] := by
    have h2 := swp_at L (show 0 < L.length by omega) (show n < L.length by omega) n
    rw [if_pos rfl, List.getD_eq_getElem?_getD, List.getElem?_eq_getElem (by omega)] at h2
    rw [List.drop_eq_getElem_cons (by omega), List.drop_eq_nil_of_le (by omega)]
    simpa using h2
  rw [← h1, List.take_append_drop]
theorem swp_app (M : List ED) (x : ED) {i j : Nat} (hi : i < M.length) (hj : j < M.length) : swp (M ++ [x]) i j = swp M i j ++ [x] := by
  unfold swp
  have g1 : (M ++ [x]).getD j e0 = M.getD j e0 := by rw [List.getD_eq_getElem?_getD, List.getD_eq_getElem?_getD, List.getElem?_append_left hj]
  have g2 : (M ++ [x]).getD i e0 = M.getD i e0 := by rw [List.getD_eq_getElem?_getD, List.getD_eq_getElem?_getD, List.getElem?_append_left hi]
  rw [g1, g2, List.set_append_left _ _ hi, List.set_append_left _ _ (by rw [List.length_set]; exact hj)]
/-- The cells of edges. -/
def flE (L : List ED) : List Int := L.flatMap (fun e => [e.a, e.b, e.t])
theorem flE_cons (e : ED) (L : List ED) : flE (e :: L) = e.a :: e.b :: e.t :: flE L := rfl
theorem flE_len (L : List ED) : (flE L).length = L.length * 3 := by
  induction L with
  | nil => rfl
  | cons e L ih => rw [flE_cons]; simp [ih]; omega
theorem flE_app (L M : List ED) : flE (L ++ M) = flE L ++ flE M := by unfold flE; rw [List.flatMap_append]
theorem flE_at (L : List ED) (k : Nat) (h : k < L.length) : (flE L)[k * 3]? = some (L.getD k e0).a ∧ (flE L)[k * 3 + 1]? = some (L.getD k e0).b ∧ (flE L)[k * 3 + 2]? = some (L.getD k e0).t := by
  induction L generalizing k with
  | nil => simp at h
  | cons e L ih =>
    cases k with
    | zero => exact ⟨rfl, rfl, rfl⟩
    | succ k =>
      obtain ⟨h1, h2, h3⟩ := ih k (by simpa using h)
      rw [flE_cons, show (k + 1) * 3 = k * 3 + 3 by omega]
      exact ⟨h1, h2, h3⟩
theorem flE_set (L : List ED) (k : Nat) (e : ED) : (((flE L).set (k * 3) e.a).set (k * 3 + 1) e.b).set (k * 3 + 2) e.t = flE (L.set k e) ∨ L.length ≤ k := by
  induction L generalizing k with
  | nil => right; simp
  | cons x L ih =>
    cases k with
    | zero => left; rfl
    | succ k =>
      rcases ih k with h | h
      · left
        rw [List.set_cons_succ, flE_cons, flE_cons, ← h, show (k + 1) * 3 = k * 3 + 3 by omega]
        rfl
      · right; simp; omega

end Go.Proofs.Ytaehhlkpbhmdfaa

namespace Go.Proofs.Ytaehhlkpbhmdfaa
open Go.RowKit

theorem own_shp {w : World} {base k : Nat} {v : Value} {e : TypeId} {size : Nat} {xs : List Value} (h : w.ownsRow base e size v k xs) : v = .slice none 0 0 ∨ ∃ g c, v = .slice (some ⟨g, 0, none⟩) k c := by
  obtain ⟨_, ⟨h1, _⟩ | ⟨g, cap, cur, h2, _⟩⟩ := h
  · exact .inl h1
  · exact .inr ⟨g, cap, h2⟩
theorem own_blw {w w' : World} {base size n : Nat} {e : TypeId} {v : Value} {xs : List Value} (h : w.ownsRow base e size v n xs) (hb : Below w.heap.size w w') : w'.ownsRow base e size v n xs := by
  obtain ⟨h1, h2 | ⟨g, cap, cur, h2, h3, h4, h5⟩⟩ := h
  · exact ⟨h1, .inl h2⟩
  · exact ⟨h1, .inr ⟨g, cap, cur, h2, h3, below_row hb (row_lt h4) h4, h5⟩⟩

theorem own_bse {w : World} {base b0 k : Nat} {v : Value} {e : TypeId} {size : Nat} {xs : List Value} (h : w.ownsRow base e size v k xs) (hb : b0 ≤ base) : w.ownsRow b0 e size v k xs := by
  obtain ⟨h0, h1 | ⟨g, cap, cur, h2, h3, h4⟩⟩ := h
  · exact ⟨h0, .inl h1⟩
  · exact ⟨h0, .inr ⟨g, cap, cur, h2, Nat.le_trans hb h3, h4⟩⟩
theorem own_smg {w : World} {base k : Nat} {v : Value} {e : TypeId} {size : Nat} {xs : List Value} (h : w.ownsRow base e size v k xs) (hne : v ≠ .slice none 0 0) : ∃ g c, v = .slice (some ⟨g, 0, none⟩) k c := by
  rcases own_shp h with e | e
  · exact absurd e hne
  · exact e
theorem not_nilg {v v' : Value} {m : Nat} (h : v' = .slice none 0 0 ↔ v = .slice none 0 0 ∧ m = 0) (hv : ∃ g n c, v = .slice (some ⟨g, 0, none⟩) n c) : v' ≠ .slice none 0 0 := by
  intro e
  obtain ⟨g, n, c, rfl⟩ := hv
  have := (h.1 e).1
  simp at this
theorem own_capg {w : World} {base k g c : Nat} {e : TypeId} {size : Nat} {xs : List Value} (h : w.ownsRow base e size (.slice (some ⟨g, 0, none⟩) k c) k xs) : k ≤ c := by
  obtain ⟨_, ⟨h1, _⟩ | ⟨g', cap, cur, h2, _, _, h3, _⟩⟩ := h
  · cases h1
  · injection h2 with e1 e2 e3
    omega
/-- Where an append to a slice of the call's own ends: in the row that was, or in a new block. -/
theorem append_blk {P : Program} (w : World) (base : Nat) (t ty e : TypeId) (i : TypeInfo) (z : Value) (size bytes : Nat) (ht : P.underlying t = some (.slice e)) (hi : P.info? e = some i) (hz : i.zero = some z)
    (hsize : i.size = size) (hby : i.bytes = bytes) (v : Value) (n : Nat) (xs : List Value) (hown : w.ownsRow base e size v n xs)
    (a : Addr) (m c : Nat) (news : List Value) (hl : news.length = m * size) (hnews : ∀ j u, news[j]? = some u → w.cell? (a.add j) = some u) (h1 : ∀ u ∈ news, u.oneCell' = true)
    (h63 : n + m ≤ maxLen) (hbytes : (n + m) * bytes ≤ 140737488355328) {v' : Value} {w' : World} (hrun : (Builtin.append_ #[t, t] ty #[v, .slice (some a) m c]).run P w = .ok v' w') : v'.ownBlock = v.ownBlock ∨ v'.ownBlock = some w.heap.size := by
  subst hsize
  subst hby
  have hsmall : n + m ≤ 9223372036854775807 := by simp only [maxLen] at h63; omega
  rcases hown.2 with ⟨rfl, rfl⟩ | ⟨g, cap, cur, rfl, hbg, hg, hnc, hcm, hcs, htake⟩
  · by_cases hm : m = 0
    · subst hm
      have hn : news = [] := List.eq_nil_of_length_eq_zero (by simpa using hl)
      subst hn
      simp [Builtin.append_, run_underlying ht, sizeOf, typeInfo, hi, Builtin.lenOf, Builtin.firstCells, loadCells, loadCellsFrom] at hrun
      rw [← hrun.1]
      exact .inl rfl
    · have hr := run_append_nil (P := P) w t ty e i z ht hi hz a m c news hl hnews (by omega) (by omega) (by have hb := hbytes; simp only [Nat.zero_add] at hb; omega)
      rw [hr] at hrun
      injection hrun with e1 e2
      rw [← e1]
      exact .inr rfl
  · by_cases hroom : n + m ≤ cap
    · have hfit : n * i.size + news.length ≤ cur.size := by rw [hl, hcs, ← Nat.add_mul]; exact Nat.mul_le_mul_right _ hroom
      have hr := run_append_room (P := P) w t ty e i ht hi g n cap cur hg a m c news hl hnews h1 hroom hfit
      rw [hr] at hrun
      injection hrun with e1 e2
      rw [← e1]
      exact .inl rfl
    · have holds : ∀ j u, xs[j]? = some u → w.cell? ((⟨g, 0, none⟩ : Addr).add j) = some u := hown.cells (g := g) rfl
      have hr := run_append_grow (P := P) w t ty e i z ht hi hz ⟨g, 0, none⟩ n cap xs hown.1 holds a m c news hl hnews (by omega) (by omega) (growslice_fits (by omega) hbytes)
      rw [hr] at hrun
      injection hrun with e1 e2
      rw [← e1]
      exact .inr rfl

theorem exec_app {P : Program} {o : Oper} {a : Act} {w w' : World} {v : Value} (s x : Operand) (t : TypeId) (vs vx : Value) (ho : o.op = .call { callee := .builtin .append, args := #[s, x], argTypes := #[t, t] })
    (hs : a.eval s = vs) (hx : a.eval x = vx) (hr : (Builtin.append_ #[t, t] o.type #[vs, vx]).run P w = .ok v w') : (execOp a.eval o).run P w = .ok (.value v) w' := by
  unfold execOp
  simp only [ho, resolve, invoke, builtin, Sem.run_bind, Sem.run_pure, Result.andThen_ok, List.map_toArray, List.map_cons, List.map_nil, hs, hx, hr]

end Go.Proofs.Ytaehhlkpbhmdfaa

namespace Go.Proofs.Ytaehhlkpbhmdfaa
open Go.RowKit

theorem own_putV {w : World} {base n g c k size m : Nat} {e : TypeId} {xs : List Value} (v : Value) (h : w.ownsRow base e size (.slice (some ⟨g, 0, none⟩) m c) n xs) : (w.setCell ⟨g, k, none⟩ v).ownsRow base e size (.slice (some ⟨g, 0, none⟩) m c) n (xs.set k v) := by
  obtain ⟨h0, ⟨h1, _⟩ | ⟨g', cap, cur, h2, h3, h4, h5, h6, h7, h8⟩⟩ := h
  · cases h1
  · simp at h2
    obtain ⟨rfl, rfl, rfl⟩ := h2
    refine ⟨by simpa using h0, .inr ⟨g, c, cur.setIfInBounds k v, rfl, h3, heap_setCell_same w g k cur e _ h4, h5, h6, by simpa using h7, ?_⟩⟩
    rw [Array.toList_setIfInBounds, List.take_set, h8]
theorem own_cellV {w : World} {base n g c k size m : Nat} {e : TypeId} {xs : List Value} {x : Value} (h : w.ownsRow base e size (.slice (some ⟨g, 0, none⟩) m c) n xs) (hk : xs[k]? = some x) : w.cell? ⟨g, k, none⟩ = some x ∧ w.frozen? ⟨g, k, none⟩ = false := by
  refine ⟨?_, ?_⟩
  · have := h.cells (g := g) rfl k x hk
    have hadd : (⟨g, 0, none⟩ : Addr).add k = ⟨g, k, none⟩ := by unfold Addr.add; split <;> simp_all
    rw [hadd] at this
    exact this
  · obtain ⟨h0, ⟨h1, _⟩ | ⟨g', cap, cur, h2, h3, h4, h5⟩⟩ := h
    · cases h1
    · simp at h2
      obtain ⟨rfl, rfl, rfl⟩ := h2
      exact frozen_of_row _ _ k _ _ h4
/-- What a slice of the call's own is: nil, or a row of its own. -/
theorem own_kinds {w : World} {base n size : Nat} {e : TypeId} {v : Value} {xs : List Value} (h : w.ownsRow base e size v n xs) : (v = .slice none 0 0 ∧ n = 0) ∨ ∃ g c, v = .slice (some ⟨g, 0, none⟩) n c ∧ base ≤ g ∧ g < w.heap.size := by
  obtain ⟨_, ⟨h1, h2⟩ | ⟨g, cap, cur, h2, h3, h4, _⟩⟩ := h
  · exact .inl ⟨h1, h2⟩
  · exact .inr ⟨g, cap, h2, h3, row_lt h4⟩

end Go.Proofs.Ytaehhlkpbhmdfaa

namespace Go.Proofs.Ytaehhlkpbhmdfaa
open Go.RowKit

/-- The worlds in which all that was there is as it was. -/
def Kin (wr : World) : Type := { x : World // Below wr.heap.size wr x }
/-- One of them, as a world. -/
def Kin.w {wr : World} (s : Kin wr) : World := s.1
theorem Kin.there (wr : World) : Nonempty (Kin wr) := ⟨⟨wr, Below.refl _ _⟩⟩
theorem Kin.below {wr : World} (s : Kin wr) : Below wr.heap.size wr s.w := s.2
theorem Kin.cell {wr : World} (s : Kin wr) {b o : Nat} {v : Value} (h : wr.cell? ⟨b, o, none⟩ = some v) : s.w.cell? ⟨b, o, none⟩ = some v := by
  rw [s.below.cell (p := ⟨b, o, none⟩) (block_lt_of_cell h)]; exact h

/-- A region that draws its order, whose operations read and whose callees leave what was there: one walk, in the text's order. -/
theorem wp_region_kin {P : Program} {id : Nat} {Q : Exit → Act → World → Prop} {a : Act} {w : World} {l : List Oper} (hm : P.follows .mixedOrders = true) (hB : Region.lexB .any l.toArray = true)
    (h : wpQuiet P l.toArray (fun w' => ∃ s : Kin w, w' = s.w) (fun a' => ∀ w', (∃ s : Kin w, w' = s.w) → Q .normal a' w') l a) : (Code.region id l.toArray true).wp P Q a w :=
  wp_region_quiet (C := fun w' => ∃ s : Kin w, w' = s.w) hm hB ⟨⟨_, (Below.refl _ _).drew⟩, rfl⟩ (by simpa using h)

theorem Kin.call {P : Program} {f : FuncId} {args : Array Value} {wr : World} {s : Kin wr} {v : Value}
    (h : Calls P f args s.w fun e w' => e = .returned v ∧ Below s.w.heap.size s.w w') : Calls P f args s.w fun e w'' => e = .returned v ∧ ∃ s' : Kin wr, w'' = s'.w :=
  h.mono fun _ w' ⟨he, hb⟩ => ⟨he, ⟨w', s.below.trans (hb.mono s.below.size)⟩, rfl⟩
theorem Kin.call_same {P : Program} {f : FuncId} {args : Array Value} {wr : World} {s : Kin wr} {v : Value}
    (h : Calls P f args s.w fun e w' => e = .returned v ∧ w' = s.w) : Calls P f args s.w fun e w'' => e = .returned v ∧ ∃ s' : Kin wr, w'' = s'.w :=
  h.mono fun _ _ ⟨he, hb⟩ => ⟨he, s, hb⟩

end Go.Proofs.Ytaehhlkpbhmdfaa

namespace Go.Proofs.Ytaehhlkpbhmdfaa
open Go.RowKit

theorem isNaN_any (x : Int) (w : World) : Calls Try.prog 89 #[.int .i64 x] w fun e w' => e = .returned (.bool false) ∧ w' = w := by
  have hx : (x != x) = false := by simp
  go_enter Try.func89, Try.ntmps89
  go_wp2
  go_ret
  exact ⟨by first | rfl | simp, rfl⟩

end Go.Proofs.Ytaehhlkpbhmdfaa

namespace Go.Proofs.Ytaehhlkpbhmdfaa
open Go.RowKit

/-- What cmp.Compare tells of two numbers. -/
def cmpV (x y : Int) : Int := if x < y then -1 else if y < x then 1 else 0
theorem compare_any (x y : Int) (w : World) : Calls Try.prog 88 #[.int .i64 x, .int .i64 y] w fun e w' => e = .returned (.int .i64 (cmpV x y)) ∧ w' = w := by
  unfold cmpV
  by_cases h1 : x < y
  · rw [if_pos h1]
    go_enter Try.func88, Try.ntmps88
    go_wp2_with (go_at_call 89; refine (isNaN_any _ _).mono ?_; rintro e w' ⟨rfl, hw⟩; subst hw)
    go_ret
    exact ⟨rfl, rfl⟩
  · rw [if_neg h1]
    by_cases h2 : y < x
    · rw [if_pos h2]
      go_enter Try.func88, Try.ntmps88
      go_wp2_with (go_at_call 89; refine (isNaN_any _ _).mono ?_; rintro e w' ⟨rfl, hw⟩; subst hw)
      go_ret
      exact ⟨rfl, rfl⟩
    · rw [if_neg h2]
      go_enter Try.func88, Try.ntmps88
      go_wp2_with (go_at_call 89; refine (isNaN_any _ _).mono ?_; rintro e w' ⟨rfl, hw⟩; subst hw)
      go_ret
      exact ⟨rfl, rfl⟩

end Go.Proofs.Ytaehhlkpbhmdfaa

namespace Go.Proofs.Ytaehhlkpbhmdfaa
open Go.RowKit

theorem Try.info2 : (Try.prog.info? 2).map (fun i => (i.zero, i.size, i.bytes)) = some (some (.int .i64 0), 1, 8) := by kernel_rfl

theorem make_ints (W : World) (len : Nat) (hlen : len ≤ 1048576) :
    (Instr.makeSlice 24 (.int .i64 len) (.int .i64 len)).run Try.prog W = .ok (.slice (some ⟨W.heap.size, 0, none⟩) len len) (W.alloc (.cells (cellsOf (List.replicate len 0)) 2)) := by
  have h := Try.info2
  cases hq : Try.prog.info? 2 with
  | none => simp [hq] at h
  | some i =>
    simp [hq] at h
    obtain ⟨hz, hs, hb⟩ := h
    have := run_make (P := Try.prog) W 24 2 i (.int .i64 0) Try.underlying24 hq hz .i64 .i64 len len (by omega) (by omega) (by rw [hb]; omega) (by omega)
    rw [this, hs]
    simp only [Int.toNat_natCast, made_zero]

end Go.Proofs.Ytaehhlkpbhmdfaa

namespace Go.Proofs.Ytaehhlkpbhmdfaa
open Go.RowKit

theorem cells2 {w : World} {k : Nat} {c0 c1 : Value} {T : TypeId} (r : w.heap[k]? = some (.cells #[c0, c1] T (0, 0))) :
    w.cell? ⟨k, 0, none⟩ = some c0 ∧ w.cell? ⟨k, 1, none⟩ = some c1 := by
  refine ⟨?_, ?_⟩
  · rw [cell_of_row _ _ 0 _ _ _ r]; simp
  · rw [cell_of_row _ _ 1 _ _ _ r]; simp

end Go.Proofs.Ytaehhlkpbhmdfaa

namespace Go.Proofs.Ytaehhlkpbhmdfaa
open Go.RowKit

theorem grown_set (W : World) (g i : Nat) (v : Value) : W.grownBy (W.setCell ⟨g, i, none⟩ v) (some g) :=
  ⟨rfl, rfl, rfl, by simp [World.setCell], fun b _ hne => heap_setCell_other W ⟨g, i, none⟩ b v (fun e => hne (by rw [e]))⟩
theorem grown_trans {w w1 w2 : World} {g : Nat} (h1 : w.grownBy w1 (some g)) (h2 : w1.grownBy w2 (some g)) : w.grownBy w2 (some g) :=
  ⟨h2.os.trans h1.os, h2.tape.trans h1.tape, h2.output.trans h1.output, Nat.le_trans h1.size h2.size, fun b hb hne => (h2.block b (Nat.lt_of_lt_of_le hb h1.size) hne).trans (h1.block b hb hne)⟩
theorem grown_refl (w : World) (g : Nat) : w.grownBy w (some g) := ⟨rfl, rfl, rfl, Nat.le_refl _, fun _ _ _ => rfl⟩

end Go.Proofs.Ytaehhlkpbhmdfaa

namespace Go.Proofs.Ytaehhlkpbhmdfaa
open Go.RowKit

/-- One more place is in. -/
def inS (ins : Nat → Bool) (p q : Nat) : Bool := if q = p then true else ins q
theorem inS_self (ins : Nat → Bool) (p : Nat) : inS ins p p = true := by simp [inS]
theorem inS_ne (ins : Nat → Bool) {p q : Nat} (h : q ≠ p) : inS ins p q = ins q := by simp [inS, h]
theorem inS_of (ins : Nat → Bool) {p q : Nat} (h : ins q = true) : inS ins p q = true := by unfold inS; split <;> simp [h]
def in0 : Nat → Bool := inS (fun _ => false) 0
/-- The edge from x to y. -/
def edg (G : Nat → Nat → Int) (x y : Nat) : ED := ⟨(x : Int), (y : Int), G x y⟩
theorem edg_inj {G : Nat → Nat → Int} {x y x' y' : Nat} (h : edg G x y = edg G x' y') : x = x' ∧ y = y' := by
  have h1 := congrArg ED.a h
  have h2 := congrArg ED.b h
  simp only [edg] at h1 h2
  omega
/-- The first of all edges that leave the places that are in. -/
def bestP (n : Nat) (G : Nat → Nat → Int) (ins : Nat → Bool) (e : ED) : Prop := (∃ x y, x < n ∧ y < n ∧ ins x = true ∧ ins y = false ∧ e = edg G x y) ∧ ∀ x y, x < n → y < n → ins x = true → ins y = false → leE e (edg G x y)
theorem bestP_one {n : Nat} {G : Nat → Nat → Int} {ins : Nat → Bool} {e f : ED} (h : bestP n G ins e) (k : bestP n G ins f) : e = f := by
  obtain ⟨⟨x, y, h1, h2, h3, h4, rfl⟩, h5⟩ := h
  obtain ⟨⟨x', y', k1, k2, k3, k4, rfl⟩, k5⟩ := k
  exact leE.anti (h5 x' y' k1 k2 k3 k4) (k5 x y h1 h2 h3 h4)
/-- The tree as it grows: its edges, and which places are in. -/
inductive PTr (n : Nat) (G : Nat → Nat → Int) : List ED → (Nat → Bool) → Prop
  | nil : PTr n G [] in0
  | snoc {l : List ED} {ins : Nat → Bool} {e : ED} : PTr n G l ins → bestP n G ins e → PTr n G (l ++ [e]) (inS ins e.b.toNat)
theorem PTr.one {n : Nat} {G : Nat → Nat → Int} {l : List ED} {ins : Nat → Bool} (h : PTr n G l ins) : ∀ {l' : List ED} {ins' : Nat → Bool}, PTr n G l' ins' → l'.length = l.length → l' = l ∧ ins' = ins := by
  induction h with
  | nil =>
    intro l' ins' k hl
    cases k with
    | nil => exact ⟨rfl, rfl⟩
    | snoc k1 k2 => simp at hl
  | snoc h1 h2 ih =>
    intro l' ins' k hl
    cases k with
    | nil => simp at hl
    | snoc k1 k2 =>
      obtain ⟨e1, e2⟩ := ih k1 (by simpa using hl)
      subst e1 e2
      have e3 := bestP_one h2 k2
      subst e3
      exact ⟨rfl, rfl⟩
/-- How many places are in. -/
def cntI (ins : Nat → Bool) : Nat → Nat
  | 0 => 0
  | n + 1 => cntI ins n + (if ins n = true then 1 else 0)
theorem cntI_le (ins : Nat → Bool) : ∀ n, cntI ins n ≤ n
  | 0 => Nat.le_refl _
  | n + 1 => by have := cntI_le ins n; unfold cntI; split <;> omega
theorem cntI_more {ins : Nat → Bool} {p : Nat} (hp : ins p = false) : ∀ n, cntI (inS ins p) n = cntI ins n + (if p < n then 1 else 0)
  | 0 => by simp [cntI]
  | n + 1 => by
    unfold cntI
    rw [cntI_more hp n]
    by_cases h1 : n = p
    · subst h1
      rw [inS_self, hp]
      simp
    · rw [inS_ne ins h1]
      have e : (p < n + 1) ↔ (p < n) := by omega
      simp only [e]
      omega
theorem cntI_all {ins : Nat → Bool} : ∀ n, (∀ p, p < n → ins p = true) → cntI ins n = n
  | 0, _ => rfl
  | n + 1, h => by unfold cntI; rw [cntI_all n (fun p hp => h p (by omega)), h n (by omega)]; simp
theorem cntI_zero : ∀ n, 1 ≤ n → cntI in0 n = 1 := fun n hn => by
  unfold in0
  rw [cntI_more rfl n, if_pos (by omega)]
  have : ∀ m, cntI (fun _ => false) m = 0 := fun m => by
    induction m with
    | zero => rfl
    | succ m ih => unfold cntI; rw [ih]; simp
  rw [this]
theorem PTr.cnt {n : Nat} {G : Nat → Nat → Int} {l : List ED} {ins : Nat → Bool} (h : PTr n G l ins) (hn : 1 ≤ n) : cntI ins n = l.length + 1 ∧ ins 0 = true := by
  induction h with
  | nil => exact ⟨cntI_zero n hn, rfl⟩
  | snoc h1 h2 ih =>
    obtain ⟨⟨x, y, k1, k2, k3, k4, rfl⟩, _⟩ := h2
    have e : (edg G x y).b.toNat = y := by simp [edg]
    rw [e]
    refine ⟨?_, inS_of _ ih.2⟩
    rw [cntI_more k4 n, if_pos k2, ih.1, List.length_append]
    rfl
theorem PTr.end {n : Nat} {G : Nat → Nat → Int} {l : List ED} {ins : Nat → Bool} (h : PTr n G l ins) (hn : 1 ≤ n) (hno : ∀ x y, x < n → y < n → ins x = true → ins y = true) : l.length + 1 = n := by
  have h1 := (h.cnt hn).1
  rw [cntI_all n (fun p hp => hno 0 p (by omega) hp (h.cnt hn).2)] at h1
  exact h1.symm
theorem PTr.len {n : Nat} {G : Nat → Nat → Int} {l : List ED} {ins : Nat → Bool} (h : PTr n G l ins) (hn : 1 ≤ n) : l.length + 1 ≤ n := by
  have := (h.cnt hn).1
  have := cntI_le ins n
  omega
/-- Where a place is not in yet there is an edge to it. -/
theorem PTr.more {n : Nat} {G : Nat → Nat → Int} {l : List ED} {ins : Nat → Bool} (h : PTr n G l ins) (hn : 1 ≤ n) (hl : l.length + 1 < n) : ∃ y, y < n ∧ ins y = false := by
  refine Classical.byContradiction fun hno => ?_
  have := h.end hn (fun x y _ hy _ => by
    cases e : ins y with
    | true => rfl
    | false => exact absurd ⟨y, hy, e⟩ hno)
  omega
/-- The edges among which the next one is looked for. -/
structure QI (n : Nat) (G : Nat → Nat → Int) (ins : Nat → Bool) (ok : Bool) (e : ED) (L : List ED) : Prop where
  qf : ∀ y ∈ L, ∃ x t, x < n ∧ t < n ∧ ins x = true ∧ y = edg G x t
  qc : ∀ x t, x < n → t < n → ins x = true → ins t = false → edg G x t ∈ L ∨ (ok = true ∧ e = edg G x t)
  qe : ok = true → ∃ x t, x < n ∧ t < n ∧ ins x = true ∧ e = edg G x t
  ql : ok = true → ∀ y ∈ L, leE e y
theorem QI.best {n : Nat} {G : Nat → Nat → Int} {ins : Nat → Bool} {L : List ED} {x t : Nat} (h : QI n G ins true (edg G x t) L) (hx : x < n) (ht : t < n) (hi : ins x = true) (hn : ins t = false) : bestP n G ins (edg G x t) := by
  refine ⟨⟨x, t, hx, ht, hi, hn, rfl⟩, fun x' t' h1 h2 h3 h4 => ?_⟩
  rcases h.qc x' t' h1 h2 h3 h4 with h5 | ⟨_, h5⟩
  · exact h.ql rfl _ h5
  · rw [h5]; exact leE.rf _
/-- Behind a place that came in. -/
theorem QI.enter {n : Nat} {G : Nat → Nat → Int} {ins : Nat → Bool} {L L' : List ED} {x t : Nat} {o : Bool} {e' : ED} (h : QI n G ins true (edg G x t) L) (ht : t < n) (hm : ∀ y, y ∈ L' ↔ y ∈ L ∨ ∃ s, s < n ∧ inS ins t s = false ∧ y = edg G t s) (ho : o = false) : QI n G (inS ins t) o e' L' := by
  subst ho
  refine ⟨fun y hy => ?_, fun x' s h1 h2 h3 h4 => .inl ?_, fun h => (by cases h), fun h => (by cases h)⟩
  · rcases (hm y).1 hy with h5 | ⟨s, h5, h6, h7⟩
    · obtain ⟨x', s, k1, k2, k3, k4⟩ := h.qf y h5
      exact ⟨x', s, k1, k2, inS_of _ k3, k4⟩
    · exact ⟨t, s, ht, h5, inS_self _ _, h7⟩
  · rw [hm]
    by_cases e1 : x' = t
    · subst e1
      exact .inr ⟨s, h2, h4, rfl⟩
    · rw [inS_ne ins e1] at h3
      have e2 : s ≠ t := fun e => by rw [e, inS_self] at h4; cases h4
      rw [inS_ne ins e2] at h4
      rcases h.qc x' s h1 h2 h3 h4 with h5 | ⟨_, h5⟩
      · exact .inl h5
      · exact absurd (edg_inj h5).2.symm e2
/-- Where the place was in already. -/
theorem QI.skip {n : Nat} {G : Nat → Nat → Int} {ins : Nat → Bool} {L : List ED} {x t : Nat} {e' : ED} (h : QI n G ins true (edg G x t) L) (hi : ins t = true) : QI n G ins false e' L := by
  refine ⟨h.qf, fun x' s h1 h2 h3 h4 => .inl ?_, fun h => (by cases h), fun h => (by cases h)⟩
  rcases h.qc x' s h1 h2 h3 h4 with h5 | ⟨_, h5⟩
  · exact h5
  · have := (edg_inj h5).2
    rw [← this, hi] at h4
    cases h4
/-- The first one is taken. -/
theorem QI.take {n : Nat} {G : Nat → Nat → Int} {ins : Nat → Bool} {L L' : List ED} {e' : ED} (h : QI n G ins false e' L) (hp : isHp L) (hm : ∀ y, y ∈ L ↔ y = L.getD 0 e0 ∨ y ∈ L') : QI n G ins true (L.getD 0 e0) L' := by
  have hin : L.getD 0 e0 ∈ L := (hm _).2 (.inl rfl)
  refine ⟨fun y hy => h.qf y ((hm y).2 (.inr hy)), fun x t h1 h2 h3 h4 => ?_, fun _ => h.qf _ hin, fun _ y hy => hp_min hp ((hm y).2 (.inr hy))⟩
  rcases h.qc x t h1 h2 h3 h4 with h5 | ⟨h5, _⟩
  · rcases (hm _).1 h5 with h6 | h6
    · exact .inr ⟨rfl, h6.symm⟩
    · exact .inl h6
  · cases h5
theorem QI.start {n : Nat} {G : Nat → Nat → Int} {L : List ED} {e' : ED} (hn : 1 ≤ n) (hm : ∀ y, y ∈ L ↔ ∃ s, s < n ∧ in0 s = false ∧ y = edg G 0 s) : QI n G in0 false e' L := by
  refine ⟨fun y hy => ?_, fun x s h1 h2 h3 h4 => .inl ?_, fun h => (by cases h), fun h => (by cases h)⟩
  · obtain ⟨s, h1, h2, h3⟩ := (hm y).1 hy
    exact ⟨0, s, by omega, h1, rfl, h3⟩
  · have e : x = 0 := by
      unfold in0 inS at h3
      split at h3
      · assumption
      · cases h3
    subst e
    exact (hm _).2 ⟨s, h2, h4, rfl⟩
theorem QI.end {n : Nat} {G : Nat → Nat → Int} {ins : Nat → Bool} {e' : ED} (h : QI n G ins false e' []) : ∀ x y, x < n → y < n → ins x = true → ins y = true := fun x y hx hy hi => by
  cases e : ins y with
  | true => rfl
  | false =>
    rcases h.qc x y hx hy hi e with h5 | ⟨h5, _⟩
    · cases h5
    · cases h5

end Go.Proofs.Ytaehhlkpbhmdfaa

namespace Go.Proofs.Ytaehhlkpbhmdfaa
open Go.RowKit

set_option maxHeartbeats 400000 in
theorem within_any (n lo hi : Int) (w : World) :
    Calls Try.prog 38 #[.int .i64 n, .int .i64 lo, .int .i64 hi] w fun e w' => e = .returned (.bool (inB n lo hi)) ∧ w' = w := by
  by_cases h1 : lo ≤ n
  · by_cases h2 : n ≤ hi
    · have h3 : inB n lo hi = true := inB_mk ⟨h1, h2⟩
      rw [h3]
      go_enter Try.func38, Try.ntmps38
      go_wp2
      go_ret
      exact ⟨by simp, rfl⟩
    · have h3 : inB n lo hi = false := inB_not (by omega)
      rw [h3]
      go_enter Try.func38, Try.ntmps38
      go_wp2
      go_ret
      exact ⟨by simp, rfl⟩
  · have h3 : inB n lo hi = false := inB_not (by omega)
    rw [h3]
    go_enter Try.func38, Try.ntmps38
    go_wp2
    go_ret
    exact ⟨by simp, rfl⟩

end Go.Proofs.Ytaehhlkpbhmdfaa

namespace Go.Proofs.Ytaehhlkpbhmdfaa
open Go.RowKit

theorem Try.info41 : (Try.prog.info? 55).map (fun i => (i.zero, i.size)) = some (some (.agg (cellsOf zeros)), 256) := by kernel_rfl

/-- The world inside gridOf: the boxed matrix, the result's cells, the grid's. -/
def GW (w wr : World) (n : Nat) (a : Option Addr) (cap : Nat) (z0 : Array Value) (gl : List Int) : Prop :=
  wr.heap.size = w.heap.size + 3 ∧ Below w.heap.size w wr ∧ wr.heap[w.heap.size]? = some (.cells #[.int .i64 n, .slice a (n * n) cap] 26 (0, 0)) ∧
  wr.heap[w.heap.size + 1]? = some (.cells z0 55 (0, 0)) ∧ wr.heap[w.heap.size + 1 + 1]? = some (.cells (cellsOf gl) 55 (0, 0))

theorem GW.step {w wr : World} {n : Nat} {a : Option Addr} {cap : Nat} {z0 : Array Value} {zs : List Int} {x y : Nat} {t : Int} (h : GW w wr n a cap z0 (gridTo n zs x y)) (hx : x < n) (hy : y < n) (hn : n ≤ 16) (ht : zs.getD (x * n + y) 0 = t) :
    GW w (wr.setCell ⟨w.heap.size + 1 + 1, x * 16 + y, none⟩ (.int .i64 t)) n a cap z0 (gridTo n zs x (y + 1)) := by
  obtain ⟨g1, g2, g3, g4, g5⟩ := h
  refine ⟨by simpa [World.setCell] using g1, g2.setCell (by simp; omega) _, ?_, ?_, ?_⟩
  · rw [heap_setCell_other _ _ _ _ (by simp; omega)]; exact g3
  · rw [heap_setCell_other _ _ _ _ (by simp)]; exact g4
  · rw [heap_setCell_same _ _ _ _ _ _ g5, cellsOf_set, ← ht, gridTo_step n zs x y hx hy hn]

theorem size41 : (Try.prog.info? 55).map (·.size) = some 256 := (zero_of_info Try.info41).2

theorem size41_of {l : List Int} (h : l.length = 256) : (Try.prog.info? 55).map (·.size) = some (cellsOf l).size := by
  rw [cellsOf_size, h]; exact size41

theorem ret_grid (tmps : Array Value) (W : World) (g : Nat) (l : List Int) (b : Bool) (hl : l.length = 256)
    (hp : tmps.getD 2 undef = .pointer (some ⟨g, 0, none⟩)) (hb : tmps.getD 3 undef = .bool b) (hg : W.heap[g]? = some (.cells (cellsOf l) 55 (0, 0))) :
    (results Try.f30 tmps).run Try.prog W = .ok (.tuple #[.agg (cellsOf l), .bool b]) W := by
  rw [results_cell_tmp Try.results30, hp, hb]
  simp only [asAddr, Sem.run_pure, Result.andThen_ok, run_loadVar_row W g 55 55 (cellsOf l) (0, 0) _ hg Try.underlying55 rfl (size41_of hl)]

set_option maxHeartbeats 1000000 in
theorem grid_loop (n : Nat) (a : Option Addr) (cap : Nat) (zs : List Int) (w : World) (h1 : 1 ≤ n) (h2 : n ≤ 16) (hl : zs.length = n * n) (hA : IntsAt w a zs) :
    Calls Try.prog 30 #[.agg #[.int .i64 n, .slice a zs.length cap]] w fun e w' => e = .returned (.tuple #[.agg (cellsOf (gridRes n zs)), .bool (matB n zs)]) ∧ Below w.heap.size w w' := by
    have hz := (zero_of_info Try.info41).1
    generalize hz0 : cellsOf zeros = z0 at hz
    have HZ : Hid (cellsOf zeros = z0) := hz0
    clear hz0
    have hnn : n * n ≤ 256 := mul_bd n n h2 h2
    have hd1 : inB (n : Int) 1 16 = true := inB_mk (by omega)
    have hnw : wrap64 ((n : Int) * (n : Int)) = (n : Int) * (n : Int) := IntWalk.wrap64_in _ (by rw [← Int.natCast_mul]; omega)
    have HA : Hid (IntsAt w a zs) := hA
    clear hA
    rw [hl]
    have HL : Hid (zs.length = n * n) := hl
    clear hl
    go_enter Try.func30, Try.ntmps30
    go_wp2_with (go_at_call 38; refine (within_any _ _ _ _).mono ?_; rintro e w' ⟨rfl, rfl⟩)
    go_loopw [26] (fun t wr => ∃ x : Nat, x ≤ n ∧ t = .int .i64 x ∧ GW w wr n a cap z0 (gridTo n zs x 0) ∧ okTo n zs x 0) (fun t _ => n - (intOf t).toNat)
    case atStart =>
      refine ⟨0, Nat.zero_le _, rfl, ⟨by simp, ?_, ?_, ?_, ?_⟩, okTo_zero _ _⟩
      · exact (((Below.refl _ _).alloc (Nat.le_refl _) _).alloc (by simp) _).alloc (by simp; omega) _
      · rw [heap_alloc_old _ _ (by simp; omega), heap_alloc_old _ _ (by simp)]
        exact heap_alloc_new _ _
      · rw [heap_alloc_old _ _ (by simp)]
        exact heap_alloc2_new _ _ _
      · rw [gridTo_zero, HZ.out]
        have := heap_alloc_new ((w.alloc (Obj.cells #[Value.int IntKind.i64 n, Value.slice a (n * n) cap] 26)).alloc (Obj.cells z0 55)) (Obj.cells z0 55)
        simpa using this
    case round =>
      obtain ⟨x, hx, rfl, hG, hok⟩ := hrel
      obtain ⟨g1, g2, g3, g4, g5⟩ := hG
      have c0 := cell_of_row _ _ 0 _ _ _ g3
      have c1 := cell_of_row _ _ 1 _ _ _ g3
      simp at c0 c1
      by_cases hlt : x < n
      · have G4 : Hid _ := g4
        have G5 : Hid _ := g5
        have HO : Hid _ := hok
        clear g4 g5 hok
        go_wp2_with fail
        go_loopw [31] (fun t wr => ∃ y : Nat, y ≤ n ∧ t = .int .i64 y ∧ GW w wr n a cap z0 (gridTo n zs x y) ∧ okTo n zs x y) (fun t _ => n - (intOf t).toNat)
        case atStart => exact ⟨0, Nat.zero_le _, rfl, ⟨g1, g2, g3, G4.out, G5.out⟩, HO.out⟩
        case round =>
          clear g1 g2 g3 c0 c1 G4 G5 HO
          obtain ⟨y, hy, rfl, hG, hok⟩ := hrel
          have HG : Hid (GW w wr n a cap z0 (gridTo n zs x y)) := hG
          obtain ⟨g1, g2, g3, g4, g5⟩ := hG
          have c0 := cell_of_row _ _ 0 _ _ _ g3
          have c1 := cell_of_row _ _ 1 _ _ _ g3
          simp at c0 c1
          by_cases hylt : y < n
          · have hxy : x * n + y < n * n := by
              have := Nat.mul_le_mul_right n (show x + 1 ≤ n by omega)
              rw [Nat.add_mul] at this
              omega
            obtain ⟨bb, off, rfl, hcs⟩ := IntsAt.some (IntsAt.below HA.out g2) (j := x * n + y) (by rw [HL.out]; exact hxy)
            have ct := hcs (x * n + y) (by rw [HL.out]; exact hxy)
            clear hcs
            generalize htt : zs.getD (x * n + y) 0 = t at ct
            have HT : Hid (zs.getD (x * n + y) 0 = t) := htt
            clear htt
            have cg := cell_of_row _ _ (x * 16 + y) _ _ _ g5
            rw [cellsOf_get _ _ (by rw [gridTo_length]; omega)] at cg
            have fg := frozen_of_row _ _ (x * 16 + y) _ _ g5
            have HO : Hid (okTo n zs x y) := hok
            clear hok
            have hwm : wrap64 ((x : Int) * (n : Int)) = (x : Int) * (n : Int) := IntWalk.wrap64_in _ (by rw [← Int.natCast_mul]; omega)
            by_cases hgood : 0 ≤ t ∧ t ≤ 10000 ∧ (x = y → t = 0)
            · have hvd : inB t 0 10000 = true := inB_mk (by omega)
              have HS : Hid (okTo n zs x (y + 1)) := okTo_step HO.out (by rw [HT.out]; exact hgood.1) (by rw [HT.out]; exact hgood.2.1) (by rw [HT.out]; exact hgood.2.2)
              clear HO g3 g4 g5 g2 g1
              by_cases hxe : x = y
              · have hne : ((x : Int) == (y : Int)) = true := by simp; omega
                have hne' : ((y : Int) == (y : Int)) = true := by simp
                have ht0 : (t != 0) = false := by simp [hgood.2.2 hxe]
                have HXE : Hid (x = y) := hxe
                clear hgood hxe
                go_wp2_with (first
                  | (go_at_call 38; refine (within_any _ _ _ _).mono ?_; rintro e w' ⟨rfl, rfl⟩))
                refine ⟨⟨y + 1, by omega, by go_num, HG.out.step hlt hylt h2 HT.out, HS.out⟩, by simp [intOf]; omega⟩
              · have hne : ((x : Int) == (y : Int)) = false := by simp; omega
                clear hgood hxe
                go_wp2_with (first
                  | (go_at_call 38; refine (within_any _ _ _ _).mono ?_; rintro e w' ⟨rfl, rfl⟩))
                refine ⟨⟨y + 1, by omega, by go_num, HG.out.step hlt hylt h2 HT.out, HS.out⟩, by simp [intOf]; omega⟩
            · have HB : Hid (matB n zs = false) := matB_bad n zs x y hlt hylt HL.out (by rw [HT.out]; exact hgood)
              have hzz : ∀ (wr : World), wr.heap[w.heap.size + 1]? = some (.cells z0 55 (0, 0)) → True := fun _ _ => trivial
              clear HO g3 g5 g1 hzz
              by_cases hv : 0 ≤ t ∧ t ≤ 10000
              · have hvd : inB t 0 10000 = true := inB_mk (by omega)
                have hxe : x = y := by omega
                have hne : ((x : Int) == (y : Int)) = true := by simp; omega
                have ht0 : (t != 0) = true := by simp; omega
                clear hgood hxe hv
                go_wp2_with (first
                  | (go_at_call 38; refine (within_any _ _ _ _).mono ?_; rintro e w' ⟨rfl, rfl⟩)
                  | (refine wpList_store_row rfl 55 (.tmp 2) (.tmp 56) rfl (w.heap.size + 1) z0 rfl rfl 55 z0 g4 (by rw [← HZ.out]; exact size41_of zeros_length) rfl (by rw [← HZ.out]; exact cellsOf_one _) ?_))
                refine bodyPost_ret (v := .tuple #[.agg (cellsOf zeros), .bool false]) (ret_grid _ _ (w.heap.size + 1) zeros false zeros_length rfl rfl ?_) rfl ⟨?_, ?_⟩
                · rw [HZ.out]; exact setRow_heap _ _ _ _ _ _ g4
                · exact ret_grid_eq (by rw [gridRes_false HB.out]) HB.out.symm
                · exact below_setRow g2 (by omega) _
              · have hvd : inB t 0 10000 = false := inB_not hv
                clear hgood hv
                go_wp2_with (first
                  | (go_at_call 38; refine (within_any _ _ _ _).mono ?_; rintro e w' ⟨rfl, rfl⟩)
                  | (refine wpList_store_row rfl 55 (.tmp 2) (.tmp 56) rfl (w.heap.size + 1) z0 rfl rfl 55 z0 g4 (by rw [← HZ.out]; exact size41_of zeros_length) rfl (by rw [← HZ.out]; exact cellsOf_one _) ?_))
                refine bodyPost_ret (v := .tuple #[.agg (cellsOf zeros), .bool false]) (ret_grid _ _ (w.heap.size + 1) zeros false zeros_length rfl rfl ?_) rfl ⟨?_, ?_⟩
                · rw [HZ.out]; exact setRow_heap _ _ _ _ _ _ g4
                · exact ret_grid_eq (by rw [gridRes_false HB.out]) HB.out.symm
                · exact below_setRow g2 (by omega) _
          · have hye : y = n := by omega
            have HO : Hid (okTo n zs (x + 1) 0) := okTo_row (hye ▸ hok)
            have HG' : Hid (GW w wr n a cap z0 (gridTo n zs (x + 1) 0)) := by
              have := HG.out
              rw [hye, gridTo_row] at this
              exact this
            clear hok hye HG g3 g4 g5
            go_wp2_with fail
            refine ⟨⟨x + 1, by omega, by go_num, HG'.out, HO.out⟩, by simp [intOf]; omega⟩
      · have hge : n ≤ x := by omega
        have Hxn : Hid (x = n) := by show x = n; omega
        go_wp2_with (first
          | (refine wpList_load_row rfl 55 (.tmp 4) rfl (w.heap.size + 1 + 1) rfl 55 (cellsOf (gridTo n zs x 0)) (0, 0) _ g5 Try.underlying55 rfl (size41_of (gridTo_length _ _ _ _)) ?_)
          | (refine wpList_store_row rfl 55 (.tmp 2) (.tmp 64) rfl (w.heap.size + 1) (cellsOf (gridTo n zs x 0)) rfl rfl 55 z0 g4 (size41_of (gridTo_length _ _ _ _)) (by rw [← HZ.out, cellsOf_size, cellsOf_size, zeros_length, gridTo_length]) (cellsOf_one _) ?_))
        refine bodyPost_ret (v := .tuple #[.agg (cellsOf (gridTo n zs x 0)), .bool true]) (ret_grid _ _ (w.heap.size + 1) (gridTo n zs x 0) true (gridTo_length _ _ _ _) rfl rfl ?_) rfl ⟨?_, ?_⟩
        · exact setRow_heap _ _ _ _ _ _ g4
        · have e := Hxn.out
          have hm := matB_of_okTo n zs h1 h2 HL.out (e ▸ hok)
          exact ret_grid_eq (by rw [gridRes_true hm, e]) hm.symm
        · exact below_setRow g2 (by omega) _

set_option maxHeartbeats 1000000 in
theorem grid_out (n : Int) (a : Option Addr) (len cap : Nat) (w : World) (hn : ¬ (1 ≤ n ∧ n ≤ 16)) :
    Calls Try.prog 30 #[.agg #[.int .i64 n, .slice a len cap]] w fun e w' => e = .returned (.tuple #[.agg (cellsOf zeros), .bool false]) ∧ Below w.heap.size w w' := by
  have hz := (zero_of_info Try.info41).1
  generalize hz0 : cellsOf zeros = z0 at hz
  have HZ : Hid (cellsOf zeros = z0) := hz0
  clear hz0
  have hd1 : inB n 1 16 = false := inB_not hn
  clear hn
  go_enter Try.func30, Try.ntmps30
  go_wp2_with fail
  refine (within_any _ _ _ _).mono ?_; rintro e w' ⟨rfl, rfl⟩
  have HG4 : Hid (((((w.alloc (Obj.cells #[Value.int IntKind.i64 n, Value.slice a len cap] 26)).alloc (Obj.cells z0 55)).alloc (Obj.cells z0 55)).heap)[w.heap.size + 1]? = some (.cells z0 55 (0, 0))) := by
    show _ = _
    rw [heap_alloc_old _ _ (by simp)]
    exact heap_alloc2_new _ _ _
  go_wp2_with (
    with_reducible refine wpList_store_row ?_ 55 (.tmp 2) (.tmp 23) ?_ (w.heap.size + 1) z0 ?_ ?_ 55 z0 ?_ ?_ ?_ ?_ ?_
    · rfl
    · rfl
    · rfl
    · rfl
    · exact HG4.out
    · rw [← HZ.out]; exact size41_of zeros_length
    · rfl
    · rw [← HZ.out]; exact cellsOf_one _)
  refine bodyPost_ret (v := .tuple #[.agg (cellsOf zeros), .bool false]) (ret_grid _ _ (w.heap.size + 1) zeros false zeros_length rfl rfl ?_) rfl ⟨by rw [HZ.out], ?_⟩
  · rw [HZ.out]; exact setRow_heap _ _ _ _ _ _ HG4.out
  · exact below_setRow ((((Below.refl _ _).alloc (Nat.le_refl _) _).alloc (by simp) _).alloc (by simp; omega) _) (by omega) _

set_option maxHeartbeats 1000000 in
theorem grid_len (n : Nat) (a : Option Addr) (len cap : Nat) (w : World) (h1 : 1 ≤ n) (h2 : n ≤ 16) (hl : len ≠ n * n) :
    Calls Try.prog 30 #[.agg #[.int .i64 n, .slice a len cap]] w fun e w' => e = .returned (.tuple #[.agg (cellsOf zeros), .bool false]) ∧ Below w.heap.size w w' := by
  have hz := (zero_of_info Try.info41).1
  generalize hz0 : cellsOf zeros = z0 at hz
  have HZ : Hid (cellsOf zeros = z0) := hz0
  clear hz0
  have hnn : n * n ≤ 256 := mul_bd n n h2 h2
  have hd1 : inB (n : Int) 1 16 = true := inB_mk (by omega)
  have hnw : wrap64 ((n : Int) * (n : Int)) = (n : Int) * (n : Int) := IntWalk.wrap64_in _ (by rw [← Int.natCast_mul]; omega)
  have hne : ((len : Int) != (n : Int) * (n : Int)) = true := by rw [bne_iff_ne, ← Int.natCast_mul]; omega
  have G4 : ((((w.alloc (Obj.cells #[Value.int IntKind.i64 n, .slice a len cap] 26)).alloc (Obj.cells z0 55)).alloc (Obj.cells z0 55)).heap)[w.heap.size + 1]? = some (.cells z0 55 (0, 0)) := by
    rw [heap_alloc_old _ _ (by simp)]
    exact heap_alloc2_new _ _ _
  have HG4 : Hid _ := G4
  clear G4 hl
  go_enter Try.func30, Try.ntmps30
  go_wp2_with (first
    | (go_at_call 38; refine (within_any _ _ _ _).mono ?_; rintro e w' ⟨rfl, rfl⟩)
    | (refine wpList_store_row rfl 55 (.tmp 2) (.tmp 23) rfl (w.heap.size + 1) z0 rfl rfl 55 z0 HG4.out (by rw [← HZ.out]; exact size41_of zeros_length) rfl (by rw [← HZ.out]; exact cellsOf_one _) ?_))
  refine bodyPost_ret (v := .tuple #[.agg (cellsOf zeros), .bool false]) (ret_grid _ _ (w.heap.size + 1) zeros false zeros_length rfl rfl ?_) rfl ⟨by rw [HZ.out], ?_⟩
  · rw [HZ.out]; exact setRow_heap _ _ _ _ _ _ HG4.out
  · exact below_setRow ((((Below.refl _ _).alloc (Nat.le_refl _) _).alloc (by simp) _).alloc (by simp; omega) _) (by omega) _

theorem grid_any (n : Int) (a : Option Addr) (cap : Nat) (zs : List Int) (w : World) (hA : IntsAt w a zs) :
    Calls Try.prog 30 #[.agg #[.int .i64 n, .slice a zs.length cap]] w fun e w' => e = .returned (.tuple #[.agg (cellsOf (gridRes n zs)), .bool (matB n zs)]) ∧ Below w.heap.size w w' := by
  by_cases hn : 1 ≤ n ∧ n ≤ 16
  · obtain ⟨m, rfl⟩ := Int.eq_ofNat_of_zero_le (show 0 ≤ n by omega)
    by_cases hl : zs.length = m * m
    · exact grid_loop m a cap zs w (by omega) (by omega) hl hA
    · have hm : matB (m : Int) zs = false := matB_not fun h => hl (by have := h.2.2.1; rw [← Int.natCast_mul] at this; omega)
      rw [gridRes_false hm, hm]
      exact grid_len m a zs.length cap w (by omega) (by omega) hl
  · have hm : matB n zs = false := matB_not fun h => hn ⟨h.1, h.2.1⟩
    rw [gridRes_false hm, hm]
    exact grid_out n _ _ _ w hn

end Go.Proofs.Ytaehhlkpbhmdfaa

namespace Go.Proofs.Ytaehhlkpbhmdfaa
open Go.RowKit

/-- The time from x to y. -/
def tmG (zs : List Int) (n x y : Nat) : Int := zs.getD (x * n + y) 0

end Go.Proofs.Ytaehhlkpbhmdfaa

namespace Go.Proofs.Ytaehhlkpbhmdfaa
open Go.RowKit

/-- The world behind 'g, ok := gridOf(m)': the boxed matrix, and the grid in a block of its own. -/
theorem grid_world {w w1 : World} {c0 c1 : Value} {T : TypeId} (gr : Array Value) (b1 : Below w.heap.size w w1) (r1 : w1.heap[w.heap.size]? = some (.cells #[c0, c1] T (0, 0))) :
    Below w.heap.size w (w1.alloc (.cells gr 55)) ∧ (w1.alloc (.cells gr 55)).heap[w.heap.size]? = some (.cells #[c0, c1] T (0, 0)) ∧
    (w1.alloc (.cells gr 55)).heap[w1.heap.size]? = some (.cells gr 55 (0, 0)) :=
  ⟨b1.alloc b1.size _, by rw [heap_alloc_old _ _ (row_lt r1)]; exact r1, heap_alloc_new _ _⟩

end Go.Proofs.Ytaehhlkpbhmdfaa

namespace Go.Proofs.Ytaehhlkpbhmdfaa
open Go.RowKit

set_option maxHeartbeats 1000000 in
theorem implSym_no (n : Int) (a : Option Addr) (cap : Nat) (zs : List Int) (w : World) (hA : IntsAt w a zs) (hm : matB n zs = false) :
    Calls Try.prog 29 #[.agg #[.int .i64 n, .slice a zs.length cap]] w fun e w' => e = .returned (.bool false) ∧ Below w.heap.size w w' := by
  have HA0 : Hid (IntsAt (w.alloc (Obj.cells #[Value.int IntKind.i64 n, Value.slice a zs.length cap] 26)) a zs) := hA.below ((Below.refl _ _).alloc (Nat.le_refl _) _)
  have HM : Hid _ := hm
  have hz := (zero_of_info Try.info41).1
  generalize hz0 : cellsOf zeros = z0 at hz
  have HZ : Hid (cellsOf zeros = z0) := hz0
  clear hz0
  clear hA hm
  go_enter Try.func29, Try.ntmps29
  go_wp2_with fail
  refine (grid_any n a cap zs _ HA0.out).mono ?_
  rintro e w1 ⟨rfl, hb⟩
  rw [HM.out]
  obtain ⟨b1, r1, c0, c1⟩ := box2 hb
  obtain ⟨bW, rW, gW⟩ := grid_world (cellsOf (gridRes n zs)) b1 r1
  have BW : Hid _ := bW
  have RW : Hid _ := rW
  have GW : Hid _ := gW
  clear hb r1 b1 c0 c1 bW rW gW
  obtain ⟨gr, HGR⟩ : ∃ gr, Hid (cellsOf (gridRes n zs) = gr) := ⟨_, rfl⟩
  rw [HGR.out] at BW RW GW ⊢
  go_wp2_with (
    with_reducible refine wpList_store_row ?_ 55 (.tmp 3) (.tmp 10) ?_ w1.heap.size gr ?_ ?_ 55 z0 ?_ ?_ ?_ ?_ ?_
    · rfl
    · rfl
    · rfl
    · rfl
    · exact heap_alloc_new _ _
    · rw [← HGR.out]; exact size41_of (gridRes_length _ _)
    · rw [← HZ.out, ← HGR.out, cellsOf_size, cellsOf_size, zeros_length, gridRes_length]
    · rw [← HGR.out]; exact cellsOf_one _
    rw [World.setRow_alloc_new]
    have c0 := cell_of_row _ _ 0 _ _ _ RW.out
    have c1 := cell_of_row _ _ 1 _ _ _ RW.out
    simp only [List.getElem?_toArray, List.getElem?_cons_zero, List.getElem?_cons_succ] at c0 c1
    generalize w1.alloc (Obj.cells gr 55) = W at *)
  go_ret
  exact ⟨rfl, BW.out⟩

set_option maxHeartbeats 2000000 in
theorem implSym_loop (n : Nat) (a : Option Addr) (cap : Nat) (zs : List Int) (w : World) (hA : IntsAt w a zs) (hm : matB n zs = true) :
    Calls Try.prog 29 #[.agg #[.int .i64 n, .slice a zs.length cap]] w fun e w' => e = .returned (.bool (symB n zs)) ∧ Below w.heap.size w w' := by
  have HA0 : Hid (IntsAt (w.alloc (Obj.cells #[Value.int IntKind.i64 n, Value.slice a zs.length cap] 26)) a zs) := hA.below ((Below.refl _ _).alloc (Nat.le_refl _) _)
  have HM : Hid _ := hm
  have hz := (zero_of_info Try.info41).1
  generalize hz0 : cellsOf zeros = z0 at hz
  have HZ : Hid (cellsOf zeros = z0) := hz0
  clear hz0
  obtain ⟨hn1, hn2, hl, _⟩ := matB_true hm
  clear hA hm hl
  go_enter Try.func29, Try.ntmps29
  go_wp2_with fail
  refine (grid_any n a cap zs _ HA0.out).mono ?_
  rintro e w1 ⟨rfl, hb⟩
  rw [HM.out]
  obtain ⟨b1, r1, c0, c1⟩ := box2 hb
  obtain ⟨bW, rW, gW⟩ := grid_world (cellsOf (gridRes n zs)) b1 r1
  have BW : Hid _ := bW
  have RW : Hid _ := rW
  have GW : Hid _ := gW
  clear hb r1 b1 c0 c1 bW rW gW
  obtain ⟨gr, HGR⟩ : ∃ gr, Hid (cellsOf (gridRes n zs) = gr) := ⟨_, rfl⟩
  rw [HGR.out] at BW RW GW ⊢
  go_wp2_with (
    with_reducible refine wpList_store_row ?_ 55 (.tmp 3) (.tmp 10) ?_ w1.heap.size gr ?_ ?_ 55 z0 ?_ ?_ ?_ ?_ ?_
    · rfl
    · rfl
    · rfl
    · rfl
    · exact heap_alloc_new _ _
    · rw [← HGR.out]; exact size41_of (gridRes_length _ _)
    · rw [← HZ.out, ← HGR.out, cellsOf_size, cellsOf_size, zeros_length, gridRes_length]
    · rw [← HGR.out]; exact cellsOf_one _
    rw [World.setRow_alloc_new]
    have c0 := cell_of_row _ _ 0 _ _ _ RW.out
    have c1 := cell_of_row _ _ 1 _ _ _ RW.out
    simp only [List.getElem?_toArray, List.getElem?_cons_zero, List.getElem?_cons_succ] at c0 c1
    generalize w1.alloc (Obj.cells gr 55) = W at *)
  clear hz c0 c1
  obtain ⟨gk, HGK⟩ : ∃ gk, Hid (w1.heap.size = gk) := ⟨_, rfl⟩
  rw [HGK.out] at GW ⊢
  go_loopw [16] (fun t wr => ∃ x : Nat, x ≤ n ∧ t = .int .i64 x ∧ symTo n zs x 0 ∧ Below w.heap.size w wr ∧ wr.heap[gk]? = some (.cells gr 55 (0, 0))) (fun t _ => n - (intOf t).toNat)
  case atStart => exact ⟨0, Nat.zero_le _, rfl, symTo_zero _ _, BW.out, GW.out⟩
  case round =>
    clear BW RW GW
    obtain ⟨x, hx, rfl, hs, hb, g4⟩ := hrel
    have HS : Hid _ := hs
    have G4 : Hid _ := g4
    have HB : Hid _ := hb
    clear hs g4 hb
    by_cases hlt : x < n
    · go_wp2_with fail
      go_loopw [20] (fun t wr => ∃ y : Nat, y ≤ x ∧ t = .int .i64 y ∧ symTo n zs x y ∧ Below w.heap.size w wr ∧ wr.heap[gk]? = some (.cells gr 55 (0, 0))) (fun t _ => x - (intOf t).toNat)
      case atStart => exact ⟨0, Nat.zero_le _, rfl, HS.out, HB.out, G4.out⟩
      case round =>
        clear HS HB G4
        obtain ⟨y, hy, rfl, hs, hb, g4⟩ := hrel
        have HS : Hid _ := hs
        have G4 : Hid _ := g4
        have HB : Hid _ := hb
        clear hs g4 hb
        by_cases hylt : y < x
        · have cg1 := grid_cell (HGR.out.symm ▸ G4.out) HM.out (x := x) (y := y) (by omega) (by omega) (by omega)
          have cg2 := grid_cell (HGR.out.symm ▸ G4.out) HM.out (x := y) (y := x) (by omega) (by omega) (by omega)
          rw [tm_def] at cg1 cg2
          by_cases he : tm n zs x y = tm n zs y x
          · have hne : (tm n zs x y != tm n zs y x) = false := by simp [he]
            have HS1 : Hid _ := symTo_step HS.out he
            clear he HS
            go_wp2_with fail
            go_quiet (fail)
            go_wp2
            refine ⟨⟨y + 1, by omega, by go_num, HS1.out, below_drewN HB.out _, G4.out⟩, by simp [intOf]; omega⟩
          · have hne : (tm n zs x y != tm n zs y x) = true := by simp [he]
            have HN : Hid (symB n zs = false) := symB_bad hlt hylt he
            clear he HS
            go_wp2_with fail
            go_quiet (fail)
            go_wp2
            go_ret
            exact ⟨ret_bool HN.out.symm, below_drewN HB.out _⟩
        · have hyx : y = x := by omega
          have HS1 : Hid (symTo n zs (x + 1) 0) := symTo_row (hyx ▸ HS.out)
          clear hyx HS
          go_wp2
          refine ⟨⟨x + 1, by omega, by go_num, HS1.out, HB.out, G4.out⟩, by simp [intOf]; omega⟩
    · have hxn : x = n := by omega
      have HN : Hid (symB n zs = true) := symB_yes HM.out (hxn ▸ HS.out)
      clear hxn HS
      go_wp2
      go_ret
      exact ⟨ret_bool HN.out.symm, HB.out⟩

theorem implSym_any (n : Int) (a : Option Addr) (cap : Nat) (zs : List Int) (w : World) (hA : IntsAt w a zs) :
    Calls Try.prog 29 #[.agg #[.int .i64 n, .slice a zs.length cap]] w fun e w' => e = .returned (.bool (symB n zs)) ∧ Below w.heap.size w w' := by
  cases h : matB n zs
  · rw [symB_no h]; exact implSym_no n a cap zs w hA h
  · obtain ⟨m, rfl⟩ := Int.eq_ofNat_of_zero_le (show 0 ≤ n by have := (matB_true h).1; omega)
    exact implSym_loop m a cap zs w hA h

end Go.Proofs.Ytaehhlkpbhmdfaa

namespace Go.Proofs.Ytaehhlkpbhmdfaa
open Go.RowKit

set_option maxHeartbeats 400000 in
theorem l1In_any (n lo hi : Int) (w : World) :
    Calls Try.prog 39 #[.int .i64 n, .int .i64 lo, .int .i64 hi] w fun e w' => e = .returned (.bool (inB n lo hi)) ∧ w' = w := by
  by_cases h1 : lo ≤ n
  · by_cases h2 : n ≤ hi
    · have h3 : inB n lo hi = true := inB_mk ⟨h1, h2⟩
      rw [h3]
      go_enter Try.func39, Try.ntmps39
      go_wp2
      go_ret
      exact ⟨by simp, rfl⟩
    · have h3 : inB n lo hi = false := inB_not (by omega)
      rw [h3]
      go_enter Try.func39, Try.ntmps39
      go_wp2
      go_ret
      exact ⟨by simp, rfl⟩
  · have h3 : inB n lo hi = false := inB_not (by omega)
    rw [h3]
    go_enter Try.func39, Try.ntmps39
    go_wp2
    go_ret
    exact ⟨by simp, rfl⟩

end Go.Proofs.Ytaehhlkpbhmdfaa

namespace Go.Proofs.Ytaehhlkpbhmdfaa
open Go.RowKit

set_option maxHeartbeats 1000000 in
theorem specMat_loop (n : Nat) (a : Option Addr) (cap : Nat) (zs : List Int) (w : World) (h1 : 1 ≤ n) (h2 : n ≤ 16) (hl : zs.length = n * n) (hA : IntsAt w a zs) :
    Calls Try.prog 34 #[.agg #[.int .i64 n, .slice a zs.length cap]] w fun e w' => e = .returned (.bool (matB n zs)) ∧ Below w.heap.size w w' := by
  have hnn : n * n ≤ 256 := mul_bd n n h2 h2
  have hd1 : inB (n : Int) 1 16 = true := inB_mk (by omega)
  have hnw : wrap64 ((n : Int) * (n : Int)) = (n : Int) * (n : Int) := IntWalk.wrap64_in _ (by rw [← Int.natCast_mul]; omega)
  have hn0 : ¬ n = 0 := by omega
  have HA : Hid (IntsAt w a zs) := hA
  clear hA
  rw [hl]
  have HL : Hid (zs.length = n * n) := hl
  clear hl
  go_enter Try.func34, Try.ntmps34
  go_wp2_with (go_at_call 39; refine (l1In_any _ _ _ _).mono ?_; rintro e w' ⟨rfl, rfl⟩)
  go_loopw [3] (fun t wr => ∃ k : Nat, k ≤ n * n ∧ t = .int .i64 k ∧ Below w.heap.size w wr ∧ wr.heap[w.heap.size]? = some (.cells #[.int .i64 n, .slice a (n * n) cap] 26 (0, 0)) ∧ (∀ i, i < k → 0 ≤ zs.getD i 0 ∧ zs.getD i 0 ≤ 10000 ∧ (i / n = i % n → zs.getD i 0 = 0))) (fun t _ => n * n - (intOf t).toNat)
  case atStart => exact ⟨0, Nat.zero_le _, rfl, (Below.refl _ _).alloc (Nat.le_refl _) _, heap_alloc_new _ _, fun i hi => by omega⟩
  case round =>
    obtain ⟨k, hk, rfl, hb, g3, hok⟩ := hrel
    have c0 := cell_of_row _ _ 0 _ _ _ g3
    have c1 := cell_of_row _ _ 1 _ _ _ g3
    simp at c0 c1
    have HO : Hid (∀ i, i < k → 0 ≤ zs.getD i 0 ∧ zs.getD i 0 ≤ 10000 ∧ (i / n = i % n → zs.getD i 0 = 0)) := hok
    have G3 : Hid _ := g3
    have HB : Hid _ := hb
    clear hok
    by_cases hlt : k < n * n
    · obtain ⟨bb, off, rfl, hcs⟩ := IntsAt.some (IntsAt.below HA.out hb) (j := k) (by rw [HL.out]; exact hlt)
      have ct := hcs k (by rw [HL.out]; exact hlt)
      clear hcs
      generalize htt : zs.getD k 0 = t at ct
      have HT : Hid (zs.getD k 0 = t) := htt
      clear htt g3 hb
      have hw1 : IntKind.i64.wrap ((k : Int) / (n : Int)) = (k : Int) / (n : Int) := by
        rw [IntKind.wrap_i64, ← Int.natCast_ediv]
        have hq := Nat.div_le_self k n
        generalize k / n = q at hq
        omega
      have hw2 : (k : Int).tmod (n : Int) = (k : Int) % (n : Int) := Int.tmod_eq_emod_of_nonneg (by omega)
      have hlt' : (k : Int) < (n : Int) * (n : Int) := by rw [← Int.natCast_mul]; omega
      by_cases hv : 0 ≤ t ∧ t ≤ 10000
      · have hvd : inB t 0 10000 = true := inB_mk hv
        by_cases hq : k / n = k % n
        · have hqb : ((k : Int) / (n : Int) == (k : Int) % (n : Int)) = true := by simp; omega
          by_cases ht0 : t = 0
          · have htb : (t != 0) = false := by simp [ht0]
            have HS : Hid (∀ i, i < k + 1 → 0 ≤ zs.getD i 0 ∧ zs.getD i 0 ≤ 10000 ∧ (i / n = i % n → zs.getD i 0 = 0)) := by
              intro i hi
              by_cases e : i = k
              · rw [e, HT.out]; exact ⟨hv.1, hv.2, fun _ => ht0⟩
              · exact HO.out i (by omega)
            clear HO hq ht0
            go_wp2
            go_quiet ((go_at_call 39; exact Calls.quiet_of_same (l1In_any _ _ _ _)))
            go_wp2
            refine ⟨⟨k + 1, by omega, by go_num, below_drewN HB.out _, G3.out, HS.out⟩, by simp [intOf]; omega⟩
          · have htb : (t != 0) = true := by simp [ht0]
            have HN : Hid (matB n zs = false) := matB_at n zs HL.out k hlt (by rw [HT.out]; exact fun h => ht0 (h.2.2 hq))
            clear HO hq ht0
            go_wp2
            go_quiet ((go_at_call 39; exact Calls.quiet_of_same (l1In_any _ _ _ _)))
            go_wp2
            go_ret
            exact ⟨ret_bool HN.out.symm, below_drewN HB.out _⟩
        · have hqb : ((k : Int) / (n : Int) == (k : Int) % (n : Int)) = false := by simp; omega
          have HS : Hid (∀ i, i < k + 1 → 0 ≤ zs.getD i 0 ∧ zs.getD i 0 ≤ 10000 ∧ (i / n = i % n → zs.getD i 0 = 0)) := by
            intro i hi
            by_cases e : i = k
            · rw [e, HT.out]; exact ⟨hv.1, hv.2, fun h => absurd h hq⟩
            · exact HO.out i (by omega)
          clear HO hq
          go_wp2
          go_quiet ((go_at_call 39; exact Calls.quiet_of_same (l1In_any _ _ _ _)))
          go_wp2
          refine ⟨⟨k + 1, by omega, by go_num, below_drewN HB.out _, G3.out, HS.out⟩, by simp [intOf]; omega⟩
      · have hvd : inB t 0 10000 = false := inB_not hv
        have HN : Hid (matB n zs = false) := matB_at n zs HL.out k hlt (by rw [HT.out]; exact fun h => hv ⟨h.1, h.2.1⟩)
        clear HO hv
        go_wp2
        go_quiet ((go_at_call 39; exact Calls.quiet_of_same (l1In_any _ _ _ _)))
        go_wp2
        go_ret
        exact ⟨ret_bool HN.out.symm, below_drewN HB.out _⟩
    · have hge' : (n : Int) * (n : Int) ≤ (k : Int) := by rw [← Int.natCast_mul]; omega
      have HN : Hid (matB n zs = true) := matB_all n zs h1 h2 HL.out (fun i hi => HO.out i (by omega))
      clear HO g3
      go_wp2
      go_ret
      exact ⟨ret_bool HN.out.symm, HB.out⟩

set_option maxHeartbeats 1000000 in
theorem specMat_no (n : Int) (a : Option Addr) (len cap : Nat) (w : World) (h : ¬ (1 ≤ n ∧ n ≤ 16 ∧ (len : Int) = n * n)) :
    Calls Try.prog 34 #[.agg #[.int .i64 n, .slice a len cap]] w fun e w' => e = .returned (.bool false) ∧ Below w.heap.size w w' := by
  by_cases hn : 1 ≤ n ∧ n ≤ 16
  · obtain ⟨m, rfl⟩ := Int.eq_ofNat_of_zero_le (show 0 ≤ n by omega)
    have hnn : m * m ≤ 256 := mul_bd m m (by omega) (by omega)
    have hd1 : inB (m : Int) 1 16 = true := inB_mk hn
    have hnw : wrap64 ((m : Int) * (m : Int)) = (m : Int) * (m : Int) := IntWalk.wrap64_in _ (by rw [← Int.natCast_mul]; omega)
    have hne : ((len : Int) != (m : Int) * (m : Int)) = true := by
      rw [bne_iff_ne]; exact fun e => h ⟨hn.1, hn.2, e⟩
    clear h
    go_enter Try.func34, Try.ntmps34
    go_wp2_with (go_at_call 39; refine (l1In_any _ _ _ _).mono ?_; rintro e w' ⟨rfl, rfl⟩)
    go_ret
    exact ⟨rfl, (Below.refl _ _).alloc (Nat.le_refl _) _⟩
  · have hd1 : inB n 1 16 = false := inB_not hn
    clear h hn
    go_enter Try.func34, Try.ntmps34
    go_wp2_with (go_at_call 39; refine (l1In_any _ _ _ _).mono ?_; rintro e w' ⟨rfl, rfl⟩)
    go_ret
    exact ⟨rfl, (Below.refl _ _).alloc (Nat.le_refl _) _⟩

theorem specMat_any (n : Int) (a : Option Addr) (cap : Nat) (zs : List Int) (w : World) (hA : IntsAt w a zs) :
    Calls Try.prog 34 #[.agg #[.int .i64 n, .slice a zs.length cap]] w fun e w' => e = .returned (.bool (matB n zs)) ∧ Below w.heap.size w w' := by
  by_cases h : 1 ≤ n ∧ n ≤ 16 ∧ (zs.length : Int) = n * n
  · obtain ⟨m, rfl⟩ := Int.eq_ofNat_of_zero_le (show 0 ≤ n by omega)
    exact specMat_loop m a cap zs w (by omega) (by omega) (by have := h.2.2; rw [← Int.natCast_mul] at this; omega) hA
  · have hm : matB n zs = false := matB_not fun k => h ⟨k.1, k.2.1, k.2.2.1⟩
    rw [hm]
    exact specMat_no n a _ cap w h

end Go.Proofs.Ytaehhlkpbhmdfaa

namespace Go.Proofs.Ytaehhlkpbhmdfaa
open Go.RowKit

set_option maxHeartbeats 400000 in
theorem l1Time_any (n x y : Nat) (a : Option Addr) (len cap : Nat) (zs : List Int) (w : World) (hn : n ≤ 16) (hx : x < n) (hy : y < n) (hl : zs.length = n * n) (hlen : len = n * n) (hA : IntsAt w a zs) :
    Calls Try.prog 33 #[.agg #[.int .i64 n, .slice a len cap], .int .i64 x, .int .i64 y] w fun e w' => e = .returned (.int .i64 (zs.getD (x * n + y) 0)) ∧ Below w.heap.size w w' := by
  subst hlen
  have hnn : n * n ≤ 256 := mul_bd n n hn hn
  have hxy : x * n + y < n * n := by
    have := Nat.mul_le_mul_right n (show x + 1 ≤ n by omega)
    rw [Nat.add_mul] at this
    omega
  obtain ⟨bb, off, rfl, hcs⟩ := hA.some (j := x * n + y) (by omega)
  have ct := hcs (x * n + y) (by omega)
  have hlt := block_lt_of_cell ct
  clear hcs hA
  generalize zs.getD (x * n + y) 0 = t at ct
  have hwm : wrap64 ((x : Int) * (n : Int)) = (x : Int) * (n : Int) := IntWalk.wrap64_in _ (by rw [← Int.natCast_mul]; omega)
  simp at hlt
  clear hl
  go_enter Try.func33, Try.ntmps33
  go_wp2
  go_ret
  exact ⟨rfl, (Below.refl _ _).alloc (Nat.le_refl _) _⟩

theorem l1Time_tm (n x y : Nat) (a : Option Addr) (cap : Nat) (zs : List Int) (w : World) (hn : n ≤ 16) (hx : x < n) (hy : y < n) (hl : zs.length = n * n) (hA : IntsAt w a zs) :
    Calls Try.prog 33 #[.agg #[.int .i64 n, .slice a zs.length cap], .int .i64 x, .int .i64 y] w fun e w' => e = .returned (.int .i64 (tm n zs x y)) ∧ Below w.heap.size w w' :=
  l1Time_any n x y a zs.length cap zs w hn hx hy hl hl hA

end Go.Proofs.Ytaehhlkpbhmdfaa

namespace Go.Proofs.Ytaehhlkpbhmdfaa
open Go.RowKit

set_option maxHeartbeats 1000000 in
theorem specSym_no (n : Int) (a : Option Addr) (cap : Nat) (zs : List Int) (w : World) (hA : IntsAt w a zs) (hm : matB n zs = false) :
    Calls Try.prog 10 #[.agg #[.int .i64 n, .slice a zs.length cap]] w fun e w' => e = .returned (.bool false) ∧ Below w.heap.size w w' := by
  have HA0 : Hid (IntsAt (w.alloc (Obj.cells #[Value.int IntKind.i64 n, Value.slice a zs.length cap] 26)) a zs) := hA.below ((Below.refl _ _).alloc (Nat.le_refl _) _)
  have HM : Hid _ := hm
  clear hA hm
  go_enter Try.func10, Try.ntmps10
  go_wp2_with fail
  refine (specMat_any n a cap zs _ HA0.out).mono ?_
  rintro e w1 ⟨rfl, hb⟩
  rw [HM.out]
  obtain ⟨b1, r1, c0, c1⟩ := box2 hb
  clear hb r1
  go_wp2
  go_ret
  exact ⟨rfl, b1⟩

set_option maxHeartbeats 2000000 in
theorem specSym_loop (n : Nat) (a : Option Addr) (cap : Nat) (zs : List Int) (w : World) (hA : IntsAt w a zs) (hm : matB n zs = true) :
    Calls Try.prog 10 #[.agg #[.int .i64 n, .slice a zs.length cap]] w fun e w' => e = .returned (.bool (symB n zs)) ∧ Below w.heap.size w w' := by
  have HA0 : Hid (IntsAt (w.alloc (Obj.cells #[Value.int IntKind.i64 n, Value.slice a zs.length cap] 26)) a zs) := hA.below ((Below.refl _ _).alloc (Nat.le_refl _) _)
  have HA : Hid (IntsAt w a zs) := hA
  obtain ⟨hn1, hn2, hl, _⟩ := matB_true hm
  have HL : Hid (zs.length = n * n) := by
    rw [← Int.natCast_mul] at hl
    show _ = _
    omega
  have HM : Hid _ := hm
  clear hA hm hl
  go_enter Try.func10, Try.ntmps10
  go_wp2_with fail
  refine (specMat_any n a cap zs _ HA0.out).mono ?_
  rintro e w1 ⟨rfl, hb⟩
  rw [HM.out]
  obtain ⟨b1, r1, c0, c1⟩ := box2 hb
  have BW : Hid _ := b1
  have RW : Hid _ := r1
  clear hb r1 b1
  go_wp2_with fail
  clear c0 c1
  go_loopw [3] (fun t wr => ∃ x : Nat, x ≤ n ∧ t = .int .i64 x ∧ symTo n zs x 0 ∧ Below w.heap.size w wr ∧ wr.heap[w.heap.size]? = some (.cells #[.int .i64 n, .slice a zs.length cap] 26 (0, 0))) (fun t _ => n - (intOf t).toNat)
  case atStart => exact ⟨0, Nat.zero_le _, rfl, symTo_zero _ _, BW.out, RW.out⟩
  case round =>
    clear BW RW
    obtain ⟨x, hx, rfl, hs, hb, g3⟩ := hrel
    have c0 := cell_of_row _ _ 0 _ _ _ g3
    have c1 := cell_of_row _ _ 1 _ _ _ g3
    simp at c0 c1
    have HS : Hid _ := hs
    have G3 : Hid _ := g3
    have HB : Hid _ := hb
    clear hs g3 hb
    by_cases hlt : x < n
    · go_wp2_with fail
      clear c0 c1
      go_loopw [4] (fun t wr => ∃ y : Nat, y ≤ x ∧ t = .int .i64 y ∧ symTo n zs x y ∧ Below w.heap.size w wr ∧ wr.heap[w.heap.size]? = some (.cells #[.int .i64 n, .slice a zs.length cap] 26 (0, 0))) (fun t _ => x - (intOf t).toNat)
      case atStart => exact ⟨0, Nat.zero_le _, rfl, HS.out, HB.out, G3.out⟩
      case round =>
        clear HS HB G3
        obtain ⟨y, hy, rfl, hs, hb, g3⟩ := hrel
        have c0 := cell_of_row _ _ 0 _ _ _ g3
        have c1 := cell_of_row _ _ 1 _ _ _ g3
        simp at c0 c1
        have HS : Hid _ := hs
        have G3 : Hid (wr.drew.heap[w.heap.size]? = _) := g3
        have HB : Hid (Below w.heap.size w wr.drew) := hb.drew
        have HBr : Hid (Below w.heap.size w wr) := hb
        clear hs g3 hb
        by_cases hylt : y < x
        · by_cases he : tm n zs x y = tm n zs y x
          · have hne : (tm n zs x y != tm n zs y x) = false := by simp [he]
            have HS1 : Hid _ := symTo_step HS.out he
            clear he HS
            go_wp2_with fail
            go_region_held3 (fun W => W.cell? ⟨w.heap.size, 0, none⟩ = some (.int .i64 n) ∧ W.cell? ⟨w.heap.size, 1, none⟩ = some (.slice a zs.length cap)) (first | go_keep | exact ⟨c0', c1'⟩) ((
              go_at_call 33
              refine (l1Time_tm n _ _ a cap zs _ (by omega) (by omega) (by omega) HL.out (by exact HA.out.below HB.out)).mono ?_
              rintro e w2 ⟨rfl, hb2⟩
              obtain ⟨HB', G3', c0', c1'⟩ := box2_more hb2 HB.out G3.out
              clear HB G3 hb2
              have HB : Hid _ := HB'
              have G3 : Hid _ := G3'
              clear HB' G3'))
            all_goals
              go_wp2
              refine ⟨⟨y + 1, by omega, by go_num, HS1.out, HB.out, G3.out⟩, by simp [intOf]; omega⟩
          · have hne : (tm n zs x y != tm n zs y x) = true := by simp [he]
            have HN : Hid (symB n zs = false) := symB_bad hlt hylt he
            clear he HS
            go_wp2_with fail
            go_region_held3 (fun W => W.cell? ⟨w.heap.size, 0, none⟩ = some (.int .i64 n) ∧ W.cell? ⟨w.heap.size, 1, none⟩ = some (.slice a zs.length cap)) (first | go_keep | exact ⟨c0', c1'⟩) ((
              go_at_call 33
              refine (l1Time_tm n _ _ a cap zs _ (by omega) (by omega) (by omega) HL.out (by exact HA.out.below HB.out)).mono ?_
              rintro e w2 ⟨rfl, hb2⟩
              obtain ⟨HB', G3', c0', c1'⟩ := box2_more hb2 HB.out G3.out
              clear HB G3 hb2
              have HB : Hid _ := HB'
              have G3 : Hid _ := G3'
              clear HB' G3'))
            all_goals
              go_wp2
              go_ret
              exact ⟨ret_bool HN.out.symm, HB.out⟩
        · have hyx : y = x := by omega
          have HS1 : Hid (symTo n zs (x + 1) 0) := symTo_row (hyx ▸ HS.out)
          clear hyx HS
          go_wp2
          refine ⟨⟨x + 1, by omega, by go_num, HS1.out, HBr.out, G3.out⟩, by simp [intOf]; omega⟩
    · have hxn : x = n := by omega
      have HN : Hid (symB n zs = true) := symB_yes HM.out (hxn ▸ HS.out)
      clear hxn HS
      go_wp2
      go_ret
      exact ⟨ret_bool HN.out.symm, HB.out⟩

theorem specSym_any (n : Int) (a : Option Addr) (cap : Nat) (zs : List Int) (w : World) (hA : IntsAt w a zs) :
    Calls Try.prog 10 #[.agg #[.int .i64 n, .slice a zs.length cap]] w fun e w' => e = .returned (.bool (symB n zs)) ∧ Below w.heap.size w w' := by
  cases h : matB n zs
  · rw [symB_no h]; exact specSym_no n a cap zs w hA h
  · obtain ⟨m, rfl⟩ := Int.eq_ofNat_of_zero_le (show 0 ≤ n by have := (matB_true h).1; omega)
    exact specSym_loop m a cap zs w hA h

end Go.Proofs.Ytaehhlkpbhmdfaa

namespace Go.Proofs.Ytaehhlkpbhmdfaa
open Go.RowKit

theorem noTo_step {zs : List Int} {id : Int} {k : Nat} (h : ∀ j, j < k → zs.getD j 0 ≠ id) (hk : zs.getD k 0 ≠ id) : ∀ j, j < k + 1 → zs.getD j 0 ≠ id := by
  intro j hj
  by_cases e : j = k
  · rw [e]; exact hk
  · exact h j (by omega)

set_option maxHeartbeats 400000 in
theorem l3Has_any (a : Option Addr) (m cap : Nat) (id : Int) (zs : List Int) (w : World) (hA : IntsAt w a zs) (hm : m ≤ zs.length) (hlen : m ≤ 9223372036854775807) :
    Calls Try.prog 32 #[.slice a m cap, .int .i64 id] w fun e w' => e = .returned (.bool (hasTo zs m id)) ∧ w' = w := by
  have HA : Hid (IntsAt w a zs) := hA
  clear hA
  obtain ⟨r, HR⟩ : ∃ r, Hid (hasTo zs m id = r) := ⟨_, rfl⟩
  rw [HR.out]
  go_enter Try.func32, Try.ntmps32
  go_wp2_with fail
  go_loop [5] (fun t => ∃ k : Nat, k ≤ m ∧ t = .int .i64 k ∧ ∀ j, j < k → zs.getD j 0 ≠ id) (fun t => m - (intOf t).toNat)
  case atStart => exact ⟨0, Nat.zero_le _, rfl, fun j hj => by omega⟩
  case round =>
    obtain ⟨k, hk, rfl, hno⟩ := hrel
    have HN : Hid (∀ j, j < k → zs.getD j 0 ≠ id) := hno
    clear hno
    by_cases hlt : k < m
    · obtain ⟨b, off, rfl, hcs⟩ := IntsAt.some HA.out (j := k) (by omega)
      have ct := hcs k (by omega)
      clear hcs
      obtain ⟨t, HT⟩ : ∃ t, Hid (zs.getD k 0 = t) := ⟨_, rfl⟩
      rw [HT.out] at ct
      by_cases he : t = id
      · have heb : (t == id) = true := by simp [he]
        have HV : Hid (r = true) := HR.out.symm.trans (hasTo_yes hlt (HT.out.trans he))
        clear he
        go_wp2
        go_ret
        exact ⟨ret_bool HV.out.symm, rfl⟩
      · have heb : (t == id) = false := by simp [he]
        have HS : Hid (∀ j, j < k + 1 → zs.getD j 0 ≠ id) := noTo_step HN.out (by rw [HT.out]; exact he)
        clear he
        go_wp2
        exact ⟨⟨k + 1, by omega, by go_num, HS.out⟩, by simp [intOf]; omega⟩
    · have hkl : k = m := by omega
      have HV : Hid (r = false) := HR.out.symm.trans (hasTo_no (hkl ▸ HN.out))
      clear hkl
      go_wp2
      go_ret
      exact ⟨ret_bool HV.out.symm, rfl⟩

theorem l3Has_is (a : Option Addr) (m cap : Nat) (id : Int) (zs : List Int) (w : World) (v : Bool) (hv : hasTo zs m id = v) (hA : IntsAt w a zs) (hm : m ≤ zs.length) (hlen : m ≤ 9223372036854775807) :
    Calls Try.prog 32 #[.slice a m cap, .int .i64 id] w fun e w' => e = .returned (.bool v) ∧ w' = w := hv ▸ l3Has_any a m cap id zs w hA hm hlen

/-- The place that slices.Index tells. -/
def idxV (zs : List Int) (m : Nat) (id : Int) : Int := match (List.range m).find? (fun i => zs.getD i 0 == id) with
  | some i => i
  | none => -1
theorem idxV_at {zs : List Int} {m : Nat} {id : Int} {i : Nat} (hi : i < m) (h : zs.getD i 0 = id) (hno : ∀ j, j < i → zs.getD j 0 ≠ id) : idxV zs m id = i := by
  have : (List.range m).find? (fun i => zs.getD i 0 == id) = some i := by
    rw [List.find?_range_eq_some]
    exact ⟨by rw [h]; simp, by simpa using hi, fun j hj => by have := hno j hj; simpa using this⟩
  unfold idxV
  rw [this]
theorem idxV_none {zs : List Int} {m : Nat} {id : Int} (hno : ∀ j, j < m → zs.getD j 0 ≠ id) : idxV zs m id = -1 := by
  have : (List.range m).find? (fun i => zs.getD i 0 == id) = none := by
    rw [List.find?_eq_none]
    intro j hj
    have := hno j (by simpa using hj)
    simpa using this
  unfold idxV
  rw [this]
theorem idxV_has (zs : List Int) (m : Nat) (id : Int) : decide (0 ≤ idxV zs m id) = hasTo zs m id := by
  unfold idxV
  cases hf : (List.range m).find? (fun i => zs.getD i 0 == id) with
  | none =>
    rw [List.find?_eq_none] at hf
    rw [hasTo_no (fun j hj => by have := hf j (by simpa using hj); simpa using this)]
    rfl
  | some i =>
    rw [List.find?_range_eq_some] at hf
    rw [hasTo_yes (by simpa using hf.2.1) (by simpa using hf.1)]
    simp

end Go.Proofs.Ytaehhlkpbhmdfaa

namespace Go.Proofs.Ytaehhlkpbhmdfaa
open Go.RowKit

/-- This edge leads from x to y, or back. -/
def jn (f : Nat × Nat) (x y : Nat) : Prop := f = (x, y) ∨ f = (y, x)
theorem jn.sym {f : Nat × Nat} {x y : Nat} (h : jn f x y) : jn f y x := h.elim .inr .inl
/-- From z these edges lead to a place that is in. -/
inductive Rch (E : List (Nat × Nat)) (S : Nat → Bool) : Nat → Prop
  | base {z : Nat} : S z = true → Rch E S z
  | step {z y : Nat} {f : Nat × Nat} : f ∈ E → jn f z y → Rch E S y → Rch E S z
/-- These edges lead from a to b outside. -/
inductive Lnk (E : List (Nat × Nat)) (S : Nat → Bool) : Nat → Nat → Prop
  | refl {a : Nat} : S a = false → Lnk E S a a
  | step {a b c : Nat} {f : Nat × Nat} : Lnk E S a b → f ∈ E → jn f b c → S b = false → S c = false → Lnk E S a c
theorem Lnk.out {E : List (Nat × Nat)} {S : Nat → Bool} {a b : Nat} (h : Lnk E S a b) : S a = false ∧ S b = false := by
  induction h with
  | refl h => exact ⟨h, h⟩
  | step _ _ _ _ h2 ih => exact ⟨ih.1, h2⟩
/-- From a place outside the edges lead to one that crosses. -/
theorem Rch.cross {E : List (Nat × Nat)} {S : Nat → Bool} {z : Nat} (h : Rch E S z) : ∀ a, Lnk E S a z → ∃ u v f, f ∈ E ∧ jn f u v ∧ S u = false ∧ S v = true ∧ Lnk E S a u := by
  induction h with
  | base h =>
    intro a hl
    have := hl.out.2
    rw [h] at this
    cases this
  | @step z y f hf hj _ ih =>
    intro a hl
    cases hy : S y with
    | true => exact ⟨z, y, f, hf, hj, hl.out.2, hy, hl⟩
    | false => exact ih a (Lnk.step hl hf hj hl.out.2 hy)
theorem Rch.mono {E F : List (Nat × Nat)} {S T : Nat → Bool} {z : Nat} (h : Rch E S z) (hE : ∀ f ∈ E, f ∈ F) (hS : ∀ x, S x = true → T x = true) : Rch F T z := by
  induction h with
  | base h => exact .base (hS _ h)
  | step hf hj _ ih => exact .step (hE _ hf) hj ih
/-- Along a link back to its beginning. -/
theorem Lnk.back {E F : List (Nat × Nat)} {S T : Nat → Bool} {a b : Nat} (h : Lnk E S a b) (hF : ∀ f ∈ E, ∀ x y, jn f x y → S x = false → S y = false → f ∈ F) (ha : Rch F T a) : Rch F T b := by
  induction h with
  | refl _ => exact ha
  | @step b c f hl hf hj h1 h2 ih => exact .step (hF f hf b c hj h1 h2) hj.sym ih
def wt (G : Nat → Nat → Int) (E : List (Nat × Nat)) : Int := (E.map (fun f => G f.1 f.2)).sum
theorem wt_erase (G : Nat → Nat → Int) {E : List (Nat × Nat)} {f : Nat × Nat} (h : f ∈ E) : wt G (E.erase f) + G f.1 f.2 = wt G E := by
  unfold wt
  induction E with
  | nil => cases h
  | cons e E ih =>
    by_cases he : e = f
    · subst he
      rw [List.erase_cons_head, List.map_cons, List.sum_cons]
      omega
    · rw [List.erase_cons_tail (by simpa using he), List.map_cons, List.map_cons, List.sum_cons, List.sum_cons]
      have := ih (by
        rcases List.mem_cons.1 h with h1 | h1
        · exact absurd h1.symm he
        · exact h1)
      omega
theorem wt_nonneg {G : Nat → Nat → Int} {E : List (Nat × Nat)} (h : ∀ f ∈ E, 0 ≤ G f.1 f.2) : 0 ≤ wt G E := by
  unfold wt
  induction E with
  | nil => simp
  | cons e E ih =>
    rw [List.map_cons, List.sum_cons]
    have h1 := h e (List.mem_cons_self ..)
    have h2 := ih (fun f hf => h f (List.mem_cons_of_mem _ hf))
    omega
/-- What the edges take. -/
def sumE (l : List ED) : Int := (l.map ED.t).sum
theorem sumE_snoc (l : List ED) (e : ED) : sumE (l ++ [e]) = sumE l + e.t := by simp [sumE]
/-- With each edge of the tree an edge of the others goes that takes no less. -/
theorem mst_step {n : Nat} {G : Nat → Nat → Int} {l : List ED} {ins : Nat → Bool} (h : PTr n G l ins) (hG : ∀ x y, x < n → y < n → G x y = G y x) (E : List (Nat × Nat)) (hE : ∀ f ∈ E, f.1 < n ∧ f.2 < n) (hc : ∀ z, z < n → Rch E in0 z) : ∃ F : List (Nat × Nat), wt G F + sumE l ≤ wt G E ∧ (∀ f ∈ F, f ∈ E) ∧ ∀ z, z < n → Rch F ins z := by
  induction h with
  | nil => exact ⟨E, by simp [sumE], fun f hf => hf, hc⟩
  | @snoc l ins e h1 h2 ih =>
    obtain ⟨F, hw, hs, hr⟩ := ih
    obtain ⟨⟨x, y, hx, hy, hix, hiy, rfl⟩, hb⟩ := h2
    obtain ⟨u, v, f, hf, hj, hu, hv, hl⟩ := (hr y hy).cross y (.refl hiy)
    have hfn := hE f (hs f hf)
    have huv : u < n ∧ v < n := by
      rcases hj with rfl | rfl
      · exact hfn
      · exact ⟨hfn.2, hfn.1⟩
    have hwf : G x y ≤ G f.1 f.2 := by
      have h3 := hb v u huv.2 huv.1 hv hu
      rw [leE_iff] at h3
      simp only [edg] at h3
      have h4 : G x y ≤ G v u := by omega
      rcases hj with rfl | rfl
      · rw [hG u v huv.1 huv.2]; exact h4
      · exact h4
    have ey : (edg G x y).b.toNat = y := by simp [edg]
    rw [ey]
    have hsub : ∀ g ∈ F, ∀ a b, jn g a b → ins a = false → ins b = false → g ∈ F.erase f := fun g hg a b hab ha hb' => by
      refine (List.mem_erase_of_ne ?_).2 hg
      rintro rfl
      rcases hab with rfl | rfl <;> rcases hj with h5 | h5 <;> (simp only [Prod.mk.injEq] at h5; obtain ⟨rfl, rfl⟩ := h5)
      · rw [hv] at hb'; cases hb'
      · rw [hv] at ha; cases ha
      · rw [hv] at ha; cases ha
      · rw [hv] at hb'; cases hb'
    have hu2 : Rch (F.erase f) (inS ins y) u := hl.back hsub (.base (inS_self _ _))
    refine ⟨F.erase f, ?_, fun g hg => hs g (List.mem_of_mem_erase hg), fun z hz => ?_⟩
    · have h6 := wt_erase G hf
      rw [sumE_snoc]
      show _ + (_ + G x y) ≤ _
      omega
    · have hz2 := hr z hz
      clear hz
      induction hz2 with
      | base h => exact .base (inS_of _ h)
      | @step z y' g hg hj' _ ih2 =>
        by_cases e : g = f
        · subst e
          have hcase : z = v ∨ z = u := by
            rcases hj with rfl | rfl <;> rcases hj' with h7 | h7 <;> (simp only [Prod.mk.injEq] at h7; obtain ⟨h8, h9⟩ := h7)
            · exact .inr h8.symm
            · exact .inl h9.symm
            · exact .inl h8.symm
            · exact .inr h9.symm
          rcases hcase with rfl | rfl
          · exact .base (inS_of _ hv)
          · exact hu2
        · exact .step ((List.mem_erase_of_ne e).2 hg) hj' ih2
/-- No edges that join all places take less than the tree. -/
theorem mst_least {n : Nat} {G : Nat → Nat → Int} {l : List ED} {ins : Nat → Bool} (h : PTr n G l ins) (hG : ∀ x y, x < n → y < n → G x y = G y x) (h0 : ∀ x y, x < n → y < n → 0 ≤ G x y) (E : List (Nat × Nat)) (hE : ∀ f ∈ E, f.1 < n ∧ f.2 < n) (hc : ∀ z, z < n → Rch E in0 z) : sumE l ≤ wt G E := by
  obtain ⟨F, hw, hs, _⟩ := mst_step h hG E hE hc
  have := wt_nonneg (G := G) (E := F) (fun f hf => h0 _ _ (hE f (hs f hf)).1 (hE f (hs f hf)).2)
  omega
/-- The steps of a path. -/
def pairs : List Nat → List (Nat × Nat)
  | a :: b :: r => (a, b) :: pairs (b :: r)
  | _ => []
theorem pairs_lt {n : Nat} : ∀ (P : List Nat), (∀ x ∈ P, x < n) → ∀ f ∈ pairs P, f.1 < n ∧ f.2 < n
  | [], _, f, hf => by cases hf
  | [a], _, f, hf => by cases hf
  | a :: b :: r, h, f, hf => by
    rcases List.mem_cons.1 hf with rfl | hf
    · exact ⟨h a (by simp), h b (by simp)⟩
    · exact pairs_lt (b :: r) (fun x hx => h x (by simp [hx])) f hf
theorem pairs_reach {F : List (Nat × Nat)} {S : Nat → Bool} : ∀ (P : List Nat), (∀ f ∈ pairs P, f ∈ F) → (∃ x ∈ P, Rch F S x) → ∀ z ∈ P, Rch F S z
  | [], _, _, z, hz => by cases hz
  | [a], _, ⟨x, hx, hr⟩, z, hz => by
    simp only [List.mem_singleton] at hx hz
    rw [hz, ← hx]
    exact hr
  | a :: b :: r, hF, ⟨x, hx, hr⟩, z, hz => by
    have hab : (a, b) ∈ F := hF _ (List.mem_cons_self ..)
    have hF2 : ∀ f ∈ pairs (b :: r), f ∈ F := fun f hf => hF f (List.mem_cons_of_mem _ hf)
    have hsome : ∃ x ∈ b :: r, Rch F S x := by
      rcases List.mem_cons.1 hx with rfl | hx
      · exact ⟨b, List.mem_cons_self .., .step hab (.inr rfl) hr⟩
      · exact ⟨x, hx, hr⟩
    have hall := pairs_reach (b :: r) hF2 hsome
    rcases List.mem_cons.1 hz with rfl | hz
    · exact .step hab (.inl rfl) (hall b (List.mem_cons_self ..))
    · exact hall z hz
/-- A path through all places takes no less time than the tree. -/
theorem path_least {n : Nat} {G : Nat → Nat → Int} {l : List ED} {ins : Nat → Bool} (h : PTr n G l ins) (hn : 1 ≤ n) (hG : ∀ x y, x < n → y < n → G x y = G y x) (h0 : ∀ x y, x < n → y < n → 0 ≤ G x y) (P : List Nat) (hP : ∀ x ∈ P, x < n) (hall : ∀ x, x < n → x ∈ P) : sumE l ≤ wt G (pairs P) :=
  mst_least h hG h0 (pairs P) (pairs_lt P hP) (fun z hz => pairs_reach P (fun f hf => hf) ⟨0, hall 0 (by omega), .base rfl⟩ z (hall z hz))

end Go.Proofs.Ytaehhlkpbhmdfaa

namespace Go.Proofs.Ytaehhlkpbhmdfaa
open Go.RowKit

theorem next_round {n y : Nat} (hy : y < n) (P : Nat → Prop) (h : P (y + 1)) :
    (∃ k, k ≤ n ∧ Value.int IntKind.i64 ((y : Int) + 1) = Value.int IntKind.i64 (k : Int) ∧ P k) ∧ n - (intOf (Value.int IntKind.i64 ((y : Int) + 1))).toNat < n - (intOf (Value.int IntKind.i64 (y : Int))).toNat := by
  have e : ((y : Int) + 1) = ((y + 1 : Nat) : Int) := by simp
  rw [e]
  refine ⟨⟨y + 1, hy, rfl, h⟩, ?_⟩
  simp [intOf]
  omega

end Go.Proofs.Ytaehhlkpbhmdfaa

namespace Go.Proofs.Ytaehhlkpbhmdfaa
open Go.RowKit

set_option maxHeartbeats 400000 in
theorem isPlace_any (n p : Int) (s : Value) (w : World) (h1 : 1 ≤ n) (h2 : n ≤ 16) :
    Calls Try.prog 35 #[.agg #[.int .i64 n, s], .int .i64 p] w fun e w' => e = .returned (.bool (inB p 0 (n - 1))) ∧ Below w.heap.size w w' := by
  go_enter Try.func35, Try.ntmps35
  go_wp2_with (go_at_call 38; refine (within_any _ _ _ _).mono ?_; rintro e w' ⟨rfl, rfl⟩)
  go_ret
  exact ⟨rfl, (Below.refl _ _).alloc (Nat.le_refl _) _⟩

end Go.Proofs.Ytaehhlkpbhmdfaa
