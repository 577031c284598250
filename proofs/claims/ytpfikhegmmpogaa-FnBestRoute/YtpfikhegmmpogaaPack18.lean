import Derived.Test.YtpfikhegmmpogaaPack0
namespace Go.Proofs.Ytpfikhegmmpogaa
open Go.RowKit

/-- The first k are unlike columns. -/
def colsTo (n : Int) (ls : List Int) (k : Nat) : Prop := ∀ i, i < k → inB (ls.getD i 0) 0 (n - 1) = true ∧ hasTo ls i (ls.getD i 0) = false
/-- The list is n unlike columns. -/
def colsB (n : Int) (ls : List Int) : Bool := decide ((ls.length : Int) = n ∧ ∀ i, i < ls.length → inB (ls.getD i 0) 0 (n - 1) = true ∧ hasTo ls i (ls.getD i 0) = false)
theorem colsB_len {n : Int} {ls : List Int} (h : (ls.length : Int) ≠ n) : colsB n ls = false := decide_eq_false fun x => h x.1
theorem colsB_bad {n : Int} {ls : List Int} {k : Nat} (hk : k < ls.length) (h : ¬ (inB (ls.getD k 0) 0 (n - 1) = true ∧ hasTo ls k (ls.getD k 0) = false)) : colsB n ls = false :=
  decide_eq_false fun x => h (x.2 k hk)
theorem colsB_yes {n : Int} {ls : List Int} (hl : (ls.length : Int) = n) (h : colsTo n ls ls.length) : colsB n ls = true := by
  unfold colsB
  exact decide_eq_true ⟨hl, h⟩
theorem colsB_true {n : Int} {ls : List Int} (h : colsB n ls = true) : (ls.length : Int) = n ∧ colsTo n ls ls.length := by
  unfold colsB at h
  have := of_decide_eq_true h
  exact ⟨this.1, this.2⟩
theorem colsTo_zero (n : Int) (ls : List Int) : colsTo n ls 0 := fun i hi => by omega
theorem colsTo_step {n : Int} {ls : List Int} {k : Nat} (h : colsTo n ls k) (h1 : inB (ls.getD k 0) 0 (n - 1) = true) (h2 : hasTo ls k (ls.getD k 0) = false) : colsTo n ls (k + 1) := by
  intro j hj
  by_cases e : j = k
  · rw [e]; exact ⟨h1, h2⟩
  · exact h j (by omega)
/-- What the first k columns cost. -/
def sumTo (n : Nat) (cs ls : List Int) : Nat → Int
  | 0 => 0
  | k + 1 => sumTo n cs ls k + fee n cs k (ls.getD k 0).toNat
theorem sumTo_bd {n : Nat} {cs ls : List Int} (h : feeTo cs (n * n)) : ∀ k, k ≤ n → colsTo n ls k → -1000000 * (k : Int) ≤ sumTo n cs ls k ∧ sumTo n cs ls k ≤ 1000000 * k
  | 0, _, _ => by simp [sumTo]
  | k + 1, hk, hc => by
    have ih := sumTo_bd (ls := ls) h k (by omega) (fun j hj => hc j (by omega))
    have h1 := inB_true (hc k (by omega)).1
    have := fee_bd h (x := k) (y := (ls.getD k 0).toNat) (by omega) (by omega)
    unfold sumTo
    omega
/-- What AssignCost answers. -/
def assignT (n : Int) (cs ls : List Int) : Bool := costsB n cs && colsB n ls
def assignV (n : Int) (cs ls : List Int) : Int := if assignT n cs ls = true then sumTo n.toNat cs ls ls.length else 0
theorem assign_no {n : Int} {cs ls : List Int} (h : costsB n cs = false ∨ colsB n ls = false) : assignT n cs ls = false ∧ assignV n cs ls = 0 := by
  have : assignT n cs ls = false := by unfold assignT; rcases h with h | h <;> rw [h] <;> simp
  exact ⟨this, by unfold assignV; rw [this]; simp⟩
theorem assign_yes {n : Nat} {cs ls : List Int} (h : costsB n cs = true) (h2 : colsB n ls = true) : assignT n cs ls = true ∧ assignV n cs ls = sumTo n cs ls n := by
  have : assignT n cs ls = true := by unfold assignT; rw [h, h2]; rfl
  have hl : ls.length = n := by have := (colsB_true h2).1; omega
  exact ⟨this, by unfold assignV; rw [if_pos this, hl]; simp⟩
theorem ret_ib {k : IntKind} {a b : Int} {p q : Bool} (h : a = b) (h2 : p = q) : Ending.returned (.tuple #[.int k a, .bool p]) = .returned (.tuple #[.int k b, .bool q]) := by rw [h, h2]

end Go.Proofs.Ytpfikhegmmpogaa

namespace Go.Proofs.Ytpfikhegmmpogaa
open Go.RowKit

/-- The first of the first k that costs least, and what it costs. -/
def lst (f : Nat → Int) : Nat → Nat × Int
  | 0 => (0, 0)
  | k + 1 => if k = 0 ∨ f k < (lst f k).2 then (k, f k) else lst f k
theorem lst_yes {f : Nat → Int} {k : Nat} (h : k = 0 ∨ f k < (lst f k).2) : lst f (k + 1) = (k, f k) := by
  show (if k = 0 ∨ f k < (lst f k).2 then (k, f k) else lst f k) = _
  rw [if_pos h]
theorem lst_no {f : Nat → Int} {k : Nat} (h : ¬ (k = 0 ∨ f k < (lst f k).2)) : lst f (k + 1) = lst f k := by
  show (if k = 0 ∨ f k < (lst f k).2 then (k, f k) else lst f k) = _
  rw [if_neg h]
theorem lst_lt {f : Nat → Int} : ∀ k, 0 < k → (lst f k).1 < k
  | 0, h => by omega
  | k + 1, _ => by
    by_cases h : k = 0 ∨ f k < (lst f k).2
    · rw [lst_yes h]; exact Nat.lt_succ_self k
    · rw [lst_no h]
      have := lst_lt (f := f) k (by omega)
      omega
theorem lst_is {f : Nat → Int} : ∀ k, 0 < k → (lst f k).2 = f (lst f k).1
  | 0, h => by omega
  | k + 1, _ => by
    by_cases h : k = 0 ∨ f k < (lst f k).2
    · rw [lst_yes h]
    · rw [lst_no h]; exact lst_is k (by omega)

theorem nodup_inj {α : Type} {l : List α} (h : l.Nodup) {i j : Nat} (hi : i < l.length) (hj : j < l.length) (e : l[i] = l[j]) : i = j := by
  have hp := List.pairwise_iff_getElem.1 h
  rcases Nat.lt_trichotomy i j with c | c | c
  · exact absurd e (hp i j hi hj c)
  · exact c
  · exact absurd e.symm (hp j i hj hi c)
theorem erase_nodup {α : Type} {l : List α} (h : l.Nodup) (k : Nat) : (l.eraseIdx k).Nodup := h.sublist (List.eraseIdx_sublist l k)
theorem erase_out {α : Type} {l : List α} (h : l.Nodup) {k : Nat} {x : α} (hx : l[k]? = some x) : x ∉ l.eraseIdx k := by
  intro hm
  obtain ⟨j, hj⟩ := List.getElem?_of_mem hm
  rw [List.getElem?_eraseIdx] at hj
  obtain ⟨hk, ek⟩ := List.getElem?_eq_some_iff.1 hx
  split at hj
  · obtain ⟨hj1, ej⟩ := List.getElem?_eq_some_iff.1 hj
    have := nodup_inj h hj1 hk (ej.trans ek.symm)
    omega
  · obtain ⟨hj1, ej⟩ := List.getElem?_eq_some_iff.1 hj
    have := nodup_inj h hj1 hk (ej.trans ek.symm)
    omega
theorem unr_nodup {α : Type} : ∀ (d : Nat) (l : List α) (n : Nat), l.Nodup → (unr d l n).Nodup
  | 0, _, _, _ => List.nodup_nil
  | d + 1, l, n, h => by
    cases h2 : l[n / facN d]? with
    | none => unfold unr; rw [h2]; exact List.nodup_nil
    | some x =>
      rw [unr_some h2]
      exact List.nodup_cons.2 ⟨fun hm => erase_out h h2 (unr_mem d _ _ x hm), unr_nodup d _ _ (erase_nodup h _)⟩
theorem rowN_nodup (c n : Nat) : (rowN c n).Nodup := unr_nodup c _ n List.nodup_range
/-- A row of all places is unlike columns. -/
theorem row_cols {c n : Nat} (hc : c ≤ 6) (hn : n < facN c) : colsTo c (padL (rowN c n)) c := by
  have hl := rowN_length hn
  intro i hi
  have hi' : i < (rowN c n).length := by omega
  have hg : ∀ j, j < c → (padL (rowN c n)).getD j 0 = (((rowN c n).getD j 0 : Nat) : Int) := fun j hj => padL_get _ j (by omega) (by omega)
  have hx : ∀ j (hj : j < c), (rowN c n).getD j 0 = (rowN c n)[j]'(by omega) := fun j hj => by simp [List.getD, show j < (rowN c n).length by omega]
  refine ⟨?_, ?_⟩
  · rw [hg i hi, hx i hi]
    have := rowN_lt (List.getElem_mem hi')
    exact inB_mk (by omega)
  · refine hasTo_no fun j hj => ?_
    rw [hg j (by omega), hg i hi, hx j (by omega), hx i hi]
    intro e
    have e' : (rowN c n)[j]'(by omega) = (rowN c n)[i]'(by omega) := by omega
    have := nodup_inj (rowN_nodup c n) _ _ e'
    omega
/-- What the row k costs. -/
def costK (c : Nat) (cs : List Int) (k : Nat) : Int := sumTo c cs (padL (rowN c k)) c
theorem sumTo_congr {n : Nat} {cs ls ms : List Int} : ∀ k, (∀ i, i < k → ls.getD i 0 = ms.getD i 0) → sumTo n cs ls k = sumTo n cs ms k
  | 0, _ => rfl
  | k + 1, h => by unfold sumTo; rw [sumTo_congr k (fun i hi => h i (by omega)), h k (by omega)]
theorem costK_bd {c : Nat} {cs : List Int} (hc : c ≤ 6) (hf : feeTo cs (c * c)) {k : Nat} (hk : k < facN c) : -6000000 ≤ costK c cs k ∧ costK c cs k ≤ 6000000 := by
  have := sumTo_bd hf c (Nat.le_refl _) (row_cols hc hk)
  unfold costK
  omega
/-- The row k as a list of numbers. -/
def rowL (c k : Nat) : List Int := (rowN c k).map fun (p : Nat) => (p : Int)
theorem rowL_length {c k : Nat} (hk : k < facN c) : (rowL c k).length = c := by simp [rowL, rowN_length hk]
theorem rowL_get {c k : Nat} (hc : c ≤ 6) (hk : k < facN c) (i : Nat) (hi : i < c) : (padL (rowN c k)).getD i 0 = (rowL c k).getD i 0 := by
  rw [padL_get _ i (by rw [rowN_length hk]; exact hi) (by omega)]
  simp [rowL, List.getD, show i < (rowN c k).length by rw [rowN_length hk]; exact hi]
/-- The numbers 0 .. c - 1. -/
def allL (c : Nat) : List Int := (List.range c).map fun (p : Nat) => (p : Int)
theorem allL_length (c : Nat) : (allL c).length = c := by simp [allL]
theorem allL_succ (c : Nat) : allL (c + 1) = allL c ++ [(c : Int)] := by simp [allL, List.range_succ]
theorem unr_all (c k : Nat) : unr c (allL c) k = rowL c k := by unfold allL rowL rowN; rw [unr_map]
theorem permV_all {c k : Nat} (hc : c ≤ 6) (hk : k < facN c) : permV (allL c) (k : Int) = rowL c k ∧ permT (allL c) (k : Int) = true := by
  have ht : permT (allL c) (k : Int) = true := by
    unfold permT
    rw [allL_length, countV_yes hc, fac_nat]
    exact inB_mk (by omega)
  obtain ⟨m, e, _, _, h⟩ := permT_nat ht
  have : k = m := by omega
  subst this
  rw [allL_length] at h
  exact ⟨h.trans (unr_all c k), ht⟩
theorem assign_row {c k : Nat} {cs : List Int} (hc : c ≤ 6) (hC : costsB c cs = true) (hk : k < facN c) : assignT c cs (rowL c k) = true ∧ assignV c cs (rowL c k) = costK c cs k := by
  have hl := rowL_length hk
  have hcols : colsB c (rowL c k) = true := by
    refine colsB_yes (by rw [hl]) ?_
    rw [hl]
    intro i hi
    have h1 := row_cols hc hk i hi
    rw [rowL_get hc hk i hi] at h1
    refine ⟨h1.1, ?_⟩
    have h2 := h1.2
    refine hasTo_no fun j hj e => ?_
    rw [← rowL_get hc hk j (by omega)] at e
    rw [hasTo_yes hj e] at h2
    cases h2
  obtain ⟨a1, a2⟩ := assign_yes hC hcols
  refine ⟨a1, a2.trans ?_⟩
  unfold costK
  exact sumTo_congr c (fun i hi => (rowL_get hc hk i hi).symm)
/-- What Assigned answers. -/
def bestK (c : Nat) (cs : List Int) : Nat := (lst (costK c cs) (facN c)).1
theorem bestK_lt (c : Nat) (cs : List Int) : bestK c cs < facN c := lst_lt _ (facN_pos c)
def asgL (n : Int) (cs : List Int) : List Int := if costsB n cs = true then rowL n.toNat (bestK n.toNat cs) else []
def asgV (n : Int) (cs : List Int) : Int := if costsB n cs = true then costK n.toNat cs (bestK n.toNat cs) else 0
theorem asg_no {n : Int} {cs : List Int} (h : costsB n cs = false) : asgL n cs = [] ∧ asgV n cs = 0 := by
  unfold asgL asgV
  rw [h]
  simp
theorem asg_yes {n : Nat} {cs : List Int} (h : costsB n cs = true) : asgL n cs = rowL n (bestK n cs) ∧ asgV n cs = costK n cs (bestK n cs) := by
  unfold asgL asgV
  rw [if_pos h, if_pos h]
  simp

end Go.Proofs.Ytpfikhegmmpogaa

namespace Go.Proofs.Ytpfikhegmmpogaa

/-- Every row of unlike things of the list is one of the rows that are told. -/
theorem unr_all_of : ∀ (d : Nat) (l ys : List Int), l.length = d → ys.length = d → ys.Nodup → (∀ y ∈ ys, y ∈ l) → ∃ n, n < facN d ∧ unr d l n = ys
  | 0, _, ys, _, hy, _, _ => ⟨0, by decide, by
      have : ys = [] := List.eq_nil_of_length_eq_zero hy
      rw [this]; rfl⟩
  | d + 1, l, [], _, hy, _, _ => by simp at hy
  | d + 1, l, y :: ys, hl, hy, hn, hm => by
    rw [List.nodup_cons] at hn
    obtain ⟨i, hi, e⟩ := List.getElem_of_mem (hm y (by simp))
    have hle : (l.eraseIdx i).length = d := by rw [List.length_eraseIdx_of_lt hi, hl]; omega
    have hsub : ∀ z ∈ ys, z ∈ l.eraseIdx i := by
      intro z hz
      have hne : z ≠ y := fun h => hn.1 (h ▸ hz)
      obtain ⟨j, hj, ej⟩ := List.getElem_of_mem (hm z (by simp [hz]))
      rw [List.mem_eraseIdx_iff_getElem]
      refine ⟨j, hj, fun h => hne ?_, ej⟩
      subst h
      rw [← ej, ← e]
    obtain ⟨n, h1, h2⟩ := unr_all_of d (l.eraseIdx i) ys hle (by simpa using hy) hn.2 hsub
    have hfp := facN_pos d
    have hdv : (i * facN d + n) / facN d = i := by
      rw [Nat.mul_comm, Nat.mul_add_div hfp, Nat.div_eq_of_lt h1]; rfl
    have hmd : (i * facN d + n) % facN d = n := by
      rw [Nat.mul_comm, Nat.mul_add_mod, Nat.mod_eq_of_lt h1]
    refine ⟨i * facN d + n, ?_, ?_⟩
    · have : i * facN d + n < (i + 1) * facN d := by rw [Nat.add_mul]; omega
      have h3 : (i + 1) * facN d ≤ (d + 1) * facN d := Nat.mul_le_mul_right _ (by omega)
      show _ < facN d * (d + 1)
      rw [Nat.mul_comm (facN d)]
      omega
    · have hg : l[(i * facN d + n) / facN d]? = some y := by rw [hdv, List.getElem?_eq_getElem hi, e]
      rw [unr_some hg, hdv, hmd, h2]

theorem lst_le (f : Nat → Int) : ∀ m k, k < m → (lst f m).2 ≤ f k := by
  intro m
  induction m with
  | zero => intro k hk; omega
  | succ m ih =>
    intro k hk
    by_cases h : m = 0 ∨ f m < (lst f m).2
    · rw [lst_yes h]
      by_cases e : k = m
      · rw [e]; exact Int.le_refl _
      · have h1 := ih k (by omega)
        rcases h with h | h
        · omega
        · exact Int.le_trans (Int.le_of_lt h) h1
    · rw [lst_no h]
      by_cases e : k = m
      · rw [e]
        exact Int.not_lt.1 fun hx => h (.inr hx)
      · exact ih k (by omega)

/-- No list of columns costs less than the best row. -/
theorem best_least {c : Nat} (cs : List Int) {ls : List Int} (hl : colsB c ls = true) : ∃ k, k < facN c ∧ ls = rowL c k ∧ costK c cs (bestK c cs) ≤ costK c cs k := by
  obtain ⟨h1, h2⟩ := colsB_true hl
  have hlen : ls.length = c := by omega
  have hnd : ls.Nodup := by
    refine List.pairwise_iff_getElem.2 fun i j hi hj hij e => ?_
    have := (h2 j hj).2
    rw [hasTo_yes hij (by rw [List.getD_eq_getElem?_getD, List.getD_eq_getElem?_getD, List.getElem?_eq_getElem hi, List.getElem?_eq_getElem hj]; simpa using e)] at this
    cases this
  have hmem : ∀ y ∈ ls, y ∈ allL c := by
    intro y hy
    obtain ⟨i, hi, e⟩ := List.getElem_of_mem hy
    have hb := inB_true (h2 i hi).1
    rw [List.getD_eq_getElem?_getD, List.getElem?_eq_getElem hi] at hb
    simp only [Option.getD_some] at hb
    rw [e] at hb
    unfold allL
    simp only [List.mem_map, List.mem_range]
    exact ⟨y.toNat, by omega, by omega⟩
  obtain ⟨k, hk, e⟩ := unr_all_of c (allL c) ls (allL_length c) hlen hnd hmem
  rw [unr_all] at e
  refine ⟨k, hk, e.symm, ?_⟩
  have := lst_le (costK c cs) (facN c) k hk
  rw [lst_is _ (facN_pos c)] at this
  exact this

end Go.Proofs.Ytpfikhegmmpogaa

namespace Go.Proofs.Ytpfikhegmmpogaa
open Go.RowKit

theorem rise_lt {f : Nat → Int} {k : Nat} (h : ∀ i, i < k → 0 < i → f (i - 1) < f i) : ∀ i j, i < j → j < k → f i < f j
  | i, 0, hij, _ => by omega
  | i, j + 1, hij, hj => by
    have h1 := h (j + 1) hj (by omega)
    simp only [Nat.add_sub_cancel] at h1
    by_cases e : i = j
    · subst e; exact h1
    · have := rise_lt h i j (by omega) (by omega)
      omega
theorem caseB_vehs {n : Int} {zs os vs : List Int} {ko kv : Nat} {fine : Int} (h : caseB n zs os vs ko kv fine = true) : vehsB n vs kv = true := by
  unfold caseB at h
  simp only [Bool.and_eq_true] at h
  exact h.1.2
/-- In a right case each order is found by its number. -/
theorem found6 {n : Int} {zs os vs : List Int} {ko kv : Nat} {fine : Int} (h : caseB n zs os vs ko kv fine = true) {i : Nat} (hi : i < ko) : got6T true os ko (og6 os i 0) = true ∧ ∀ f, got6F true os ko (og6 os i 0) f = og6 os i f := by
  have ho := (ordsB_true (caseB_ords h)).2
  have hlt := rise_lt (f := fun i => og6 os i 0) (k := ko) (fun i hi h0 => (ho i hi).2 h0)
  have hf : fnd6 os ko (og6 os i 0) = some i := fnd6_at hi rfl (fun j hj e => by have := hlt j i hj hi; omega)
  refine ⟨?_, fun f => ?_⟩
  · unfold got6T fnd6T
    rw [hf]
    rfl
  · unfold got6F fnd6F
    rw [if_pos rfl, hf]
/-- In a right case each vehicle is found by its number. -/
theorem found5 {n : Int} {zs os vs : List Int} {ko kv : Nat} {fine : Int} (h : caseB n zs os vs ko kv fine = true) {i : Nat} (hi : i < kv) : got5T true vs kv (og5 vs i 0) = true ∧ ∀ f, got5F true vs kv (og5 vs i 0) f = og5 vs i f := by
  have ho := (vehsB_true (caseB_vehs h)).2
  have hlt := rise_lt (f := fun i => og5 vs i 0) (k := kv) (fun i hi h0 => (ho i hi).2 h0)
  have hf : fnd5 vs kv (og5 vs i 0) = some i := fnd5_at hi rfl (fun j hj e => by have := hlt j i hj hi; omega)
  refine ⟨?_, fun f => ?_⟩
  · unfold got5T fnd5T
    rw [hf]
    rfl
  · unfold got5F fnd5F
    rw [if_pos rfl, hf]
theorem loadTo_congr {os : List Int} {ko : Nat} {xs ys : List Int} : ∀ k, (∀ i, i < k → xs.getD i 0 = ys.getD i 0) → loadTo os ko xs k = loadTo os ko ys k
  | 0, _ => rfl
  | k + 1, h => by
    unfold loadTo
    rw [loadTo_congr k (fun i hi => h i (by omega)), h k (by omega)]
theorem loadTo_drop {os : List Int} {ko : Nat} {xs : List Int} (k : Nat) : ∀ j, loadTo os ko (xs.drop k) j = loadTo os ko xs (k + j) - loadTo os ko xs k
  | 0 => by simp [loadTo]
  | j + 1 => by
    have ih := loadTo_drop (os := os) (ko := ko) (xs := xs) k j
    have e : (xs.drop k).getD j 0 = xs.getD (k + j) 0 := by rw [List.getD_eq_getElem?_getD, List.getD_eq_getElem?_getD, List.getElem?_drop]
    have s1 : loadTo os ko (xs.drop k) (j + 1) = loadTo os ko (xs.drop k) j + fnd6F os ko ((xs.drop k).getD j 0) 2 := rfl
    have s2 : loadTo os ko xs (k + (j + 1)) = loadTo os ko xs (k + j) + fnd6F os ko (xs.getD (k + j) 0) 2 := rfl
    rw [s1, s2, ih, e]
    omega
/-- Orders in two parts have the load of both. -/
theorem load_parts {n : Int} {zs os vs : List Int} {ko kv : Nat} {fine : Int} {ids : List Int} {k : Nat} (hc : caseB n zs os vs ko kv fine = true) (ht : 0 ≤ loadV true os ko ids) (hk : k ≤ ids.length) :
    loadV true os ko (ids.take k) + loadV true os ko (ids.drop k) = loadV true os ko ids ∧ (0 ≤ loadV true os ko (ids.take k) ∧ loadV true os ko (ids.take k) ≤ 1000000) ∧ (0 ≤ loadV true os ko (ids.drop k) ∧ loadV true os ko (ids.drop k) ≤ 1000000) := by
  by_cases h : true = true ∧ ids.length ≤ 12 ∧ (∀ j, j < ids.length → fnd6T os ko (ids.getD j 0) = true)
  · obtain ⟨_, h2, h3⟩ := h
    have l1 : (ids.take k).length = k := by rw [List.length_take]; omega
    have l2 : (ids.drop k).length = ids.length - k := List.length_drop
    have g1 : ∀ j, j < k → (ids.take k).getD j 0 = ids.getD j 0 := fun j hj => by rw [List.getD_eq_getElem?_getD, List.getD_eq_getElem?_getD, List.getElem?_take, if_pos hj]
    have g2 : ∀ j, (ids.drop k).getD j 0 = ids.getD (k + j) 0 := fun j => by rw [List.getD_eq_getElem?_getD, List.getD_eq_getElem?_getD, List.getElem?_drop]
    rw [loadV_yes rfl h2 h3, loadV_yes rfl (by omega) (fun j hj => by rw [l1] at hj; rw [g1 j hj]; exact h3 j (by omega)), loadV_yes rfl (by omega) (fun j hj => by rw [l2] at hj; rw [g2 j]; exact h3 _ (by omega))]
    have b1 := loadTo_bd (caseB_ords hc) (ids.take k) (ids.take k).length
    have b2 := loadTo_bd (caseB_ords hc) (ids.drop k) (ids.drop k).length
    refine ⟨?_, ⟨b1.1, by omega⟩, ⟨b2.1, by omega⟩⟩
    rw [l1, l2, loadTo_congr k g1, loadTo_drop k (ids.length - k), show k + (ids.length - k) = ids.length by omega]
    omega
  · rw [loadV_no h] at ht
    omega

end Go.Proofs.Ytpfikhegmmpogaa
