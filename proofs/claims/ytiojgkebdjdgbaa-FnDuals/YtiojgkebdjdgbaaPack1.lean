import Derived.Test.YtiojgkebdjdgbaaPack0
namespace Go.Proofs.Ytiojgkebdjdgbaa
open Go.RowKit

/-- n prices. -/
def priceTo (ps : List Int) (k : Nat) : Prop := ∀ i, i < k → inB (ps.getD i 0) (-100000000) 100000000 = true
def pricesB (n : Int) (ps : List Int) : Bool := decide ((ps.length : Int) = n ∧ ∀ i, i < ps.length → inB (ps.getD i 0) (-100000000) 100000000 = true)
theorem pricesB_len {n : Int} {ps : List Int} (h : (ps.length : Int) ≠ n) : pricesB n ps = false := decide_eq_false fun x => h x.1
theorem pricesB_bad {n : Int} {ps : List Int} {k : Nat} (hk : k < ps.length) (h : inB (ps.getD k 0) (-100000000) 100000000 = false) : pricesB n ps = false :=
  decide_eq_false fun x => by have := x.2 k hk; rw [h] at this; cases this
theorem pricesB_yes {n : Int} {ps : List Int} (hl : (ps.length : Int) = n) (h : priceTo ps ps.length) : pricesB n ps = true := by
  unfold pricesB
  exact decide_eq_true ⟨hl, h⟩
theorem pricesB_true {n : Int} {ps : List Int} (h : pricesB n ps = true) : (ps.length : Int) = n ∧ priceTo ps ps.length := by
  unfold pricesB at h
  have := of_decide_eq_true h
  exact ⟨this.1, this.2⟩
theorem priceTo_zero (ps : List Int) : priceTo ps 0 := fun i hi => by omega
theorem priceTo_step {ps : List Int} {k : Nat} (h : priceTo ps k) (h1 : inB (ps.getD k 0) (-100000000) 100000000 = true) : priceTo ps (k + 1) := by
  intro j hj
  by_cases e : j = k
  · rw [e]; exact h1
  · exact h j (by omega)
theorem price_bd {ps : List Int} {k : Nat} (h : priceTo ps k) {i : Nat} (hi : i < k) : -100000000 ≤ ps.getD i 0 ∧ ps.getD i 0 ≤ 100000000 := inB_true (h i hi)
/-- The first k prices of rows and columns, together. -/
def dualTo (rs qs : List Int) : Nat → Int
  | 0 => 0
  | k + 1 => dualTo rs qs k + (rs.getD k 0 + qs.getD k 0)
theorem dualTo_bd {rs qs : List Int} : ∀ k, priceTo rs k → priceTo qs k → -200000000 * (k : Int) ≤ dualTo rs qs k ∧ dualTo rs qs k ≤ 200000000 * k
  | 0, _, _ => by simp [dualTo]
  | k + 1, h1, h2 => by
    have ih := dualTo_bd (rs := rs) (qs := qs) k (fun j hj => h1 j (by omega)) (fun j hj => h2 j (by omega))
    have a1 := price_bd h1 (show k < k + 1 by omega)
    have a2 := price_bd h2 (show k < k + 1 by omega)
    unfold dualTo
    omega
/-- The prices are right for the row i and the column j. -/
def fits (n : Nat) (cs rs qs : List Int) (i j : Nat) : Prop := rs.getD i 0 + qs.getD j 0 ≤ fee n cs i j
/-- The prices are right. -/
def fitB (n : Nat) (cs rs qs : List Int) : Bool := decide (∀ i, i < n → ∀ j, j < n → rs.getD i 0 + qs.getD j 0 ≤ fee n cs i j)
theorem fitB_yes {n : Nat} {cs rs qs : List Int} (h : ∀ i, i < n → ∀ j, j < n → fits n cs rs qs i j) : fitB n cs rs qs = true := decide_eq_true h
theorem fitB_no {n : Nat} {cs rs qs : List Int} {i j : Nat} (hi : i < n) (hj : j < n) (h : ¬ fits n cs rs qs i j) : fitB n cs rs qs = false := decide_eq_false fun x => h (x i hi j hj)
/-- What Proves answers. -/
def provesT (n : Int) (cs rs qs : List Int) : Bool := costsB n cs && pricesB n rs && pricesB n qs && fitB n.toNat cs rs qs
def provesV (n : Int) (cs rs qs : List Int) : Int := if provesT n cs rs qs = true then dualTo rs qs n.toNat else 0
theorem proves_no {n : Int} {cs rs qs : List Int} (h : costsB n cs = false ∨ pricesB n rs = false ∨ pricesB n qs = false ∨ fitB n.toNat cs rs qs = false) : provesT n cs rs qs = false ∧ provesV n cs rs qs = 0 := by
  have : provesT n cs rs qs = false := by unfold provesT; rcases h with h | h | h | h <;> rw [h] <;> simp
  exact ⟨this, by unfold provesV; rw [this]; simp⟩
theorem proves_yes {n : Nat} {cs rs qs : List Int} (h1 : costsB n cs = true) (h2 : pricesB n rs = true) (h3 : pricesB n qs = true) (h4 : fitB n cs rs qs = true) : provesT n cs rs qs = true ∧ provesV n cs rs qs = dualTo rs qs n := by
  have : provesT n cs rs qs = true := by unfold provesT; rw [h1, h2, h3, Int.toNat_natCast, h4]; rfl
  exact ⟨this, by unfold provesV; rw [if_pos this]; simp⟩
theorem proves_fit_no {n : Nat} {cs rs qs : List Int} (h : fitB n cs rs qs = false) : provesT n cs rs qs = false ∧ provesV n cs rs qs = 0 :=
  proves_no (Or.inr (Or.inr (Or.inr (by rw [Int.toNat_natCast]; exact h))))
/-- What bound answers. -/
def boundV (n : Nat) (cs rs qs : List Int) : Int := if fitB n cs rs qs = true then dualTo rs qs n else 0
theorem boundV_yes {n : Nat} {cs rs qs : List Int} (h : fitB n cs rs qs = true) : boundV n cs rs qs = dualTo rs qs n := by unfold boundV; rw [if_pos h]
theorem boundV_no {n : Nat} {cs rs qs : List Int} (h : fitB n cs rs qs = false) : boundV n cs rs qs = 0 := by unfold boundV; rw [h]; simp
theorem ret_ib' {k : IntKind} {a b : Int} {p q : Bool} (h : a = b) (h2 : p = q) : Ending.returned (.tuple #[.int k a, .bool p]) = .returned (.tuple #[.int k b, .bool q]) := by rw [h, h2]

end Go.Proofs.Ytiojgkebdjdgbaa

namespace Go.Proofs.Ytiojgkebdjdgbaa

def sumI : List Int → Int
  | [] => 0
  | x :: xs => x + sumI xs
theorem sumI_perm {l m : List Int} (h : l.Perm m) : sumI l = sumI m := by
  induction h with
  | nil => rfl
  | cons x _ ih => simp only [sumI, ih]
  | swap x y l => simp only [sumI]; omega
  | trans _ _ ih1 ih2 => rw [ih1, ih2]
theorem sumI_append (l m : List Int) : sumI (l ++ m) = sumI l + sumI m := by
  induction l with
  | nil => simp [sumI]
  | cons x l ih => simp only [List.cons_append, sumI, ih]; omega
theorem cons_erase_perm {α : Type} : ∀ (l : List α) (i : Nat) (h : i < l.length), (l[i] :: l.eraseIdx i).Perm l
  | [], i, h => by simp at h
  | a :: l, 0, _ => List.Perm.refl _
  | a :: l, i + 1, h => by
    have ih := cons_erase_perm l i (by simpa using h)
    simp only [List.getElem_cons_succ, List.eraseIdx_cons_succ]
    exact (List.Perm.swap _ _ _).trans (List.Perm.cons _ ih)
theorem unr_perm {α : Type} : ∀ (d : Nat) (l : List α) (n : Nat), l.length = d → n < facN d → (unr d l n).Perm l
  | 0, l, _, hl, _ => by
    have : l = [] := List.eq_nil_of_length_eq_zero hl
    rw [this]
    exact List.Perm.refl _
  | d + 1, l, n, hl, hn => by
    have hk : n / facN d < d + 1 := by rw [Nat.div_lt_iff_lt_mul (facN_pos d), Nat.mul_comm]; exact hn
    have hk' : n / facN d < l.length := by omega
    have h : l[n / facN d]? = some (l[n / facN d]) := List.getElem?_eq_getElem hk'
    rw [unr_some h]
    have ih := unr_perm d (l.eraseIdx (n / facN d)) (n % facN d) (by rw [List.length_eraseIdx_of_lt hk', hl]; omega) (Nat.mod_lt _ (facN_pos d))
    exact (List.Perm.cons _ ih).trans (cons_erase_perm l _ hk')
/-- The sum of the first k, each by its place. -/
def sumF (f : Nat → Int) : Nat → Int
  | 0 => 0
  | k + 1 => sumF f k + f k
theorem sumF_list (f : Nat → Int) : ∀ k, sumF f k = sumI ((List.range k).map f)
  | 0 => rfl
  | k + 1 => by
    rw [List.range_succ, List.map_append, sumI_append, ← sumF_list f k]
    simp [sumF, sumI]
theorem sumF_congr {f g : Nat → Int} : ∀ k, (∀ i, i < k → f i = g i) → sumF f k = sumF g k
  | 0, _ => rfl
  | k + 1, h => by unfold sumF; rw [sumF_congr k (fun i hi => h i (by omega)), h k (by omega)]
/-- The sum in the order of a row is the sum. -/
theorem sumF_row (f : Nat → Int) {c k : Nat} (hk : k < facN c) : sumF (fun i => f ((rowN c k).getD i 0)) c = sumF f c := by
  have hl := rowN_length hk
  have hp : (rowN c k).Perm (List.range c) := unr_perm c (List.range c) k (by simp) hk
  rw [sumF_list, sumF_list, ← sumI_perm (hp.map f)]
  congr 1
  apply List.ext_getElem
  · simp [hl]
  · intro i h1 h2
    have hi : i < (rowN c k).length := by simpa using h2
    simp [List.getD, hi]
theorem dual_sums (rs qs : List Int) : ∀ k, dualTo rs qs k = sumF (fun i => rs.getD i 0) k + sumF (fun i => qs.getD i 0) k
  | 0 => rfl
  | k + 1 => by unfold dualTo sumF; rw [dual_sums rs qs k]; omega
theorem cost_sum {c k : Nat} (cs : List Int) (hc : c ≤ 6) (hk : k < facN c) : costK c cs k = sumF (fun i => fee c cs i ((rowN c k).getD i 0)) c := by
  have : ∀ m, m ≤ c → sumTo c cs (padL (rowN c k)) m = sumF (fun i => fee c cs i ((rowN c k).getD i 0)) m := by
    intro m
    induction m with
    | zero => intro _; rfl
    | succ m ih =>
      intro hm
      unfold sumTo sumF
      rw [ih (by omega), padL_get _ m (by rw [rowN_length hk]; omega) (by omega)]
      simp
  exact this c (Nat.le_refl _)
theorem sumF_le {f g : Nat → Int} : ∀ k, (∀ i, i < k → f i ≤ g i) → sumF f k ≤ sumF g k
  | 0, _ => Int.le_refl _
  | k + 1, h => by
    have h1 := sumF_le k (fun i hi => h i (by omega))
    have h2 := h k (by omega)
    unfold sumF
    omega
theorem sumF_add (f g : Nat → Int) : ∀ k, sumF (fun i => f i + g i) k = sumF f k + sumF g k
  | 0 => rfl
  | k + 1 => by unfold sumF; rw [sumF_add f g k]; omega
/-- Whatever prices are right: their sum is no more than the best row costs. -/
theorem weak_dual {n : Int} {cs rs qs : List Int} (h : provesT n cs rs qs = true) : costsB n cs = true ∧ provesV n cs rs qs ≤ asgV n cs := by
  have hT := h
  unfold provesT at h
  simp only [Bool.and_eq_true] at h
  obtain ⟨⟨⟨hC, _⟩, _⟩, hfit⟩ := h
  refine ⟨hC, ?_⟩
  obtain ⟨m, rfl, _, h2, _, _⟩ := costsB_nat hC
  have hbk := bestK_lt m cs
  have e : provesV (m : Int) cs rs qs = dualTo rs qs m := by unfold provesV; rw [if_pos hT]; simp
  rw [e, (asg_yes hC).2, cost_sum cs h2 hbk, dual_sums, ← sumF_row (fun i => qs.getD i 0) hbk, ← sumF_add]
  refine sumF_le m fun i hi => ?_
  have hi' : i < (rowN m (bestK m cs)).length := by rw [rowN_length hbk]; exact hi
  have hr : (rowN m (bestK m cs)).getD i 0 < m := by
    rw [List.getD_eq_getElem?_getD, List.getElem?_eq_getElem hi']
    exact rowN_lt (List.getElem_mem hi')
  have hf : ∀ i, i < m → ∀ j, j < m → rs.getD i 0 + qs.getD j 0 ≤ fee m cs i j := by
    unfold fitB at hfit
    rw [Int.toNat_natCast] at hfit
    exact of_decide_eq_true hfit
  exact hf i hi _ hr

end Go.Proofs.Ytiojgkebdjdgbaa

namespace Go.Proofs.Ytiojgkebdjdgbaa
open Go.RowKit

/-- The column of row i. -/
def own (ls : List Int) (i : Nat) : Nat := (ls.getD i 0).toNat
def wayV (m : Nat) (cs ls : List Int) (i j : Nat) (P : List Int) : Int := P.getD (own ls i) 0 + fee m cs i j - fee m cs i (own ls i)
def stp (m : Nat) (cs ls : List Int) (i j : Nat) (P : List Int) : List Int := P.set j (min (P.getD j 0) (wayV m cs ls i j P))
def jS (m : Nat) (cs ls : List Int) (i : Nat) (P : List Int) : Nat → List Int
  | 0 => P
  | j + 1 => stp m cs ls i j (jS m cs ls i P j)
def iS (m : Nat) (cs ls : List Int) (P : List Int) : Nat → List Int
  | 0 => P
  | i + 1 => jS m cs ls i (iS m cs ls P i) m
def kS (m : Nat) (cs ls : List Int) (P : List Int) : Nat → List Int
  | 0 => P
  | k + 1 => iS m cs ls (kS m cs ls P k) m

theorem stp_length (m : Nat) (cs ls : List Int) (i j : Nat) (P : List Int) : (stp m cs ls i j P).length = P.length := by simp [stp]
theorem jS_length (m : Nat) (cs ls : List Int) (i : Nat) (P : List Int) (j : Nat) : (jS m cs ls i P j).length = P.length := by
  induction j with
  | zero => rfl
  | succ j ih => rw [jS, stp_length, ih]
theorem iS_length (m : Nat) (cs ls : List Int) (P : List Int) (i : Nat) : (iS m cs ls P i).length = P.length := by
  induction i with
  | zero => rfl
  | succ i ih => rw [iS, jS_length, ih]
theorem kS_length (m : Nat) (cs ls : List Int) (P : List Int) (k : Nat) : (kS m cs ls P k).length = P.length := by
  induction k with
  | zero => rfl
  | succ k ih => rw [kS, iS_length, ih]

/-- All prices lie between -B and 0. -/
def bdP (B : Int) (P : List Int) : Prop := ∀ j, -B ≤ P.getD j 0 ∧ P.getD j 0 ≤ 0
theorem getD_set (P : List Int) (j x : Nat) (v : Int) : (P.set j v).getD x 0 = if j = x ∧ x < P.length then v else P.getD x 0 := by
  by_cases e : j = x
  · subst e
    by_cases h : j < P.length
    · rw [if_pos ⟨rfl, h⟩]; simp [List.getD, h]
    · rw [if_neg (by omega)]; simp [List.getD, h]
  · rw [if_neg (by omega)]; simp [List.getD, e]
theorem bd_stp {m : Nat} {cs ls : List Int} {i j : Nat} {P : List Int} {B : Int} (h : bdP B P) (hf : feeTo cs (m * m)) (hi : i < m) (hj : j < m) (ho : own ls i < m) : bdP (B + 2000000) (stp m cs ls i j P) := by
  intro x
  unfold stp
  rw [getD_set]
  have h1 := h x
  have h2 := h j
  have h3 := h (own ls i)
  have f1 := fee_bd hf hi hj
  have f2 := fee_bd hf hi ho
  by_cases e : j = x ∧ x < P.length
  · rw [if_pos e]
    unfold wayV
    omega
  · rw [if_neg e]; omega
theorem bd_jS {m : Nat} {cs ls : List Int} {i : Nat} {P : List Int} {B : Int} (h : bdP B P) (hf : feeTo cs (m * m)) (hi : i < m) (ho : own ls i < m) (j : Nat) (hj : j ≤ m) : bdP (B + 2000000 * j) (jS m cs ls i P j) := by
  induction j with
  | zero => simpa [jS] using h
  | succ j ih =>
    have := bd_stp (ih (by omega)) hf hi (show j < m by omega) ho
    have e : B + 2000000 * (j : Int) + 2000000 = B + 2000000 * ((j + 1 : Nat) : Int) := by omega
    rw [e] at this
    exact this
theorem bdP_mono {B B' : Int} {P : List Int} (h : bdP B P) (hb : B ≤ B') : bdP B' P := fun j => by have := h j; omega
theorem bd_iS {m : Nat} {cs ls : List Int} {P : List Int} {B : Int} (h : bdP B P) (hf : feeTo cs (m * m)) (hm : m ≤ 6) (ho : ∀ i, i < m → own ls i < m) (i : Nat) (hi : i ≤ m) : bdP (B + 12000000 * i) (iS m cs ls P i) := by
  induction i with
  | zero => simpa [iS] using h
  | succ i ih =>
    exact bdP_mono (bd_jS (ih (by omega)) hf (show i < m by omega) (ho i (by omega)) m (Nat.le_refl _)) (by omega)
theorem bd_kS {m : Nat} {cs ls : List Int} {P : List Int} (h : bdP 0 P) (hf : feeTo cs (m * m)) (hm : m ≤ 6) (ho : ∀ i, i < m → own ls i < m) (k : Nat) : bdP (72000000 * k) (kS m cs ls P k) := by
  induction k with
  | zero => simpa [kS] using h
  | succ k ih => exact bdP_mono (bd_iS ih hf hm ho m (Nat.le_refl _)) (by omega)
theorem bd_zero (n : Nat) : bdP 0 (List.replicate n 0) := by
  intro j
  have : (List.replicate n (0 : Int)).getD j 0 = 0 := by
    rw [List.getD_eq_getElem?_getD, List.getElem?_replicate]
    by_cases h : j < n
    · rw [if_pos h]; rfl
    · rw [if_neg h]; rfl
  omega

theorem getD_take (P : List Int) (m x : Nat) (h : x < m) : (P.take m).getD x 0 = P.getD x 0 := by
  rw [List.getD_eq_getElem?_getD, List.getD_eq_getElem?_getD, List.getElem?_take, if_pos h]
theorem stp_take {m : Nat} {cs ls : List Int} {i j : Nat} {P : List Int} (hj : j < m) (ho : own ls i < m) : (stp m cs ls i j P).take m = stp m cs ls i j (P.take m) := by
  unfold stp wayV
  rw [List.take_set, getD_take P m j hj, getD_take P m _ ho]
theorem jS_take {m : Nat} {cs ls : List Int} {i : Nat} {P : List Int} (ho : own ls i < m) (j : Nat) (hj : j ≤ m) : (jS m cs ls i P j).take m = jS m cs ls i (P.take m) j := by
  induction j with
  | zero => rfl
  | succ j ih => rw [jS, stp_take (by omega) ho, ih (by omega)]; rfl
theorem iS_take {m : Nat} {cs ls : List Int} {P : List Int} (ho : ∀ i, i < m → own ls i < m) (i : Nat) (hi : i ≤ m) : (iS m cs ls P i).take m = iS m cs ls (P.take m) i := by
  induction i with
  | zero => rfl
  | succ i ih => rw [iS, jS_take (ho i (by omega)) m (Nat.le_refl _), ih (by omega)]; rfl
theorem kS_take {m : Nat} {cs ls : List Int} {P : List Int} (ho : ∀ i, i < m → own ls i < m) (k : Nat) : (kS m cs ls P k).take m = kS m cs ls (P.take m) k := by
  induction k with
  | zero => rfl
  | succ k ih => rw [kS, iS_take ho m (Nat.le_refl _), ih]; rfl

/-- The price of row i. -/
def rowV (m : Nat) (cs ls P : List Int) (i : Nat) : Int := fee m cs i (own ls i) - P.getD (own ls i) 0
/-- The rows' prices, the first i of them, behind them noughts. -/
def rS (m : Nat) (cs ls P : List Int) (Z : List Int) : Nat → List Int
  | 0 => Z
  | i + 1 => (rS m cs ls P Z i).set i (rowV m cs ls P i)
theorem rS_length (m : Nat) (cs ls P Z : List Int) (i : Nat) : (rS m cs ls P Z i).length = Z.length := by
  induction i with
  | zero => rfl
  | succ i ih => rw [rS, List.length_set, ih]
theorem rS_take {m : Nat} {cs ls P Z : List Int} (ho : ∀ i, i < m → own ls i < m) (i : Nat) (hi : i ≤ m) : (rS m cs ls P Z i).take m = rS m cs ls (P.take m) (Z.take m) i := by
  induction i with
  | zero => rfl
  | succ i ih =>
    rw [rS, List.take_set, ih (by omega)]
    unfold rS rowV
    rw [getD_take P m _ (ho i (by omega))]
    cases i <;> rfl
theorem rowV_bd {m : Nat} {cs ls P : List Int} {B : Int} (h : bdP B P) (hf : feeTo cs (m * m)) {i : Nat} (hi : i < m) (ho : own ls i < m) : -1000000 ≤ rowV m cs ls P i ∧ rowV m cs ls P i ≤ B + 1000000 := by
  have h1 := h (own ls i)
  have h2 := fee_bd hf hi ho
  unfold rowV
  omega

/-- The columns' and the rows' prices. -/
def colP (m : Nat) (cs ls : List Int) : List Int := kS m cs ls (List.replicate m 0) m
def rowP (m : Nat) (cs ls : List Int) : List Int := rS m cs ls (colP m cs ls) (List.replicate m 0) m
theorem colP_length (m : Nat) (cs ls : List Int) : (colP m cs ls).length = m := by unfold colP; rw [kS_length]; simp
theorem rowP_length (m : Nat) (cs ls : List Int) : (rowP m cs ls).length = m := by unfold rowP; rw [rS_length]; simp
theorem take6 {m : Nat} (h : m ≤ 6) : (List.replicate 6 (0 : Int)).take m = List.replicate m 0 := by rw [List.take_replicate, Nat.min_eq_left h]
/-- What the program reckons with six prices. -/
theorem cprice6 {m : Nat} {cs ls : List Int} (h : m ≤ 6) (ho : ∀ i, i < m → own ls i < m) : (kS m cs ls (List.replicate 6 0) m).take m = colP m cs ls := by rw [kS_take ho, take6 h]; rfl
theorem rprice6 {m : Nat} {cs ls : List Int} (h : m ≤ 6) (ho : ∀ i, i < m → own ls i < m) : (rS m cs ls (kS m cs ls (List.replicate 6 0) m) (List.replicate 6 0) m).take m = rowP m cs ls := by rw [rS_take ho m (Nat.le_refl _), cprice6 h ho, take6 h]; rfl

def duC (n : Int) (cs : List Int) : List Int := bif costsB n cs then colP n.toNat cs (asgL n cs) else []
def duR (n : Int) (cs : List Int) : List Int := bif costsB n cs then rowP n.toNat cs (asgL n cs) else []
theorem du_no {n : Int} {cs : List Int} (h : costsB n cs = false) : duR n cs = [] ∧ duC n cs = [] := by unfold duR duC; rw [h]; exact ⟨rfl, rfl⟩
theorem du_yes {m : Nat} {cs : List Int} (h : costsB (m : Int) cs = true) : duR m cs = rowP m cs (rowL m (bestK m cs)) ∧ duC m cs = colP m cs (rowL m (bestK m cs)) := by
  unfold duR duC
  rw [h, (asg_yes h).1]
  exact ⟨rfl, rfl⟩
theorem du_len (n : Int) (cs : List Int) : (duR n cs).length = (duC n cs).length ∧ (duC n cs).length ≤ 6 := by
  cases h : costsB n cs
  · rw [(du_no h).1, (du_no h).2]; simp
  · obtain ⟨m, rfl, _, h2, _⟩ := costsB_nat h
    rw [(du_yes h).1, (du_yes h).2, rowP_length, colP_length]
    exact ⟨rfl, h2⟩

end Go.Proofs.Ytiojgkebdjdgbaa

namespace Go.Proofs.Ytiojgkebdjdgbaa

/-- Every row of unlike things of the list is one of the rows that are told (of whatever things). -/
theorem unr_all_of' {α : Type} : ∀ (d : Nat) (l ys : List α), l.length = d → ys.length = d → ys.Nodup → (∀ y ∈ ys, y ∈ l) → ∃ n, n < facN d ∧ unr d l n = ys
  | 0, _, ys, _, hy, _, _ => ⟨0, by decide, by
      have : ys = [] := List.eq_nil_of_length_eq_zero hy
      rw [this]; rfl⟩
  | d + 1, l, [], _, hy, _, _ => by simp at hy
  | d + 1, l, y :: ys, hl, hy, hn, hm => by
    rw [List.nodup_cons] at hn
    obtain ⟨i, hi, e⟩ := List.getElem_of_mem (hm y (by simp))
    have hle : (l.eraseIdx i).length = d := by rw [List.length_eraseIdx_of_lt hi, hl]; omega
    have hsub : ∀ z ∈ ys, z ∈ l.eraseIdx i := by
      intro z hz
      have hne : z ≠ y := fun h => hn.1 (h ▸ hz)
      obtain ⟨j, hj, ej⟩ := List.getElem_of_mem (hm z (by simp [hz]))
      rw [List.mem_eraseIdx_iff_getElem]
      refine ⟨j, hj, fun h => hne ?_, ej⟩
      subst h
      rw [← ej, ← e]
    obtain ⟨n, h1, h2⟩ := unr_all_of' d (l.eraseIdx i) ys hle (by simpa using hy) hn.2 hsub
    have hfp := facN_pos d
    have hdv : (i * facN d + n) / facN d = i := by
      rw [Nat.mul_comm, Nat.mul_add_div hfp, Nat.div_eq_of_lt h1]; rfl
    have hmd : (i * facN d + n) % facN d = n := by
      rw [Nat.mul_comm, Nat.mul_add_mod, Nat.mod_eq_of_lt h1]
    refine ⟨i * facN d + n, ?_, ?_⟩
    · have : i * facN d + n < (i + 1) * facN d := by rw [Nat.add_mul]; omega
      have h3 : (i + 1) * facN d ≤ (d + 1) * facN d := Nat.mul_le_mul_right _ (by omega)
      show _ < facN d * (d + 1)
      rw [Nat.mul_comm (facN d)]
      omega
    · have hg : l[(i * facN d + n) / facN d]? = some y := by rw [hdv, List.getElem?_eq_getElem hi, e]
      rw [unr_some hg, hdv, hmd, h2]

/-- The first of l that is z: its like in l'. -/
def assoc : List Nat → List Nat → Nat → Nat
  | x :: xs, y :: ys, z => if z = x then y else assoc xs ys z
  | [], _, z => z
  | _ :: _, [], z => z
theorem assoc_out : ∀ (l l' : List Nat) (z : Nat), z ∉ l → assoc l l' z = z
  | [], _, _, _ => rfl
  | _ :: _, [], _, _ => rfl
  | x :: xs, y :: ys, z, h => by
    simp only [List.mem_cons, not_or] at h
    simp only [assoc, if_neg h.1]
    exact assoc_out xs ys z h.2
theorem assoc_map : ∀ (l l' : List Nat), l.Nodup → l.length = l'.length → l.map (assoc l l') = l'
  | [], [], _, _ => rfl
  | [], _ :: _, _, h => by simp at h
  | _ :: _, [], _, h => by simp at h
  | x :: xs, y :: ys, hn, hl => by
    rw [List.nodup_cons] at hn
    have ih := assoc_map xs ys hn.2 (by simpa using hl)
    have e : xs.map (assoc (x :: xs) (y :: ys)) = xs.map (assoc xs ys) := by
      apply List.map_congr_left
      intro z hz
      have : z ≠ x := fun h => hn.1 (h ▸ hz)
      simp only [assoc, if_neg this]
    rw [List.map_cons, e, ih]
    simp [assoc]
theorem assoc_sum (g : Nat → Nat → Int) : ∀ (l l' : List Nat), l.Nodup → l.length = l'.length → sumI (l.map fun z => g z (assoc l l' z)) = sumI (List.zipWith g l l')
  | [], [], _, _ => rfl
  | [], _ :: _, _, h => by simp at h
  | _ :: _, [], _, h => by simp at h
  | x :: xs, y :: ys, hn, hl => by
    rw [List.nodup_cons] at hn
    have ih := assoc_sum g xs ys hn.2 (by simpa using hl)
    have e : xs.map (fun z => g z (assoc (x :: xs) (y :: ys) z)) = xs.map (fun z => g z (assoc xs ys z)) := by
      apply List.map_congr_left
      intro z hz
      have : z ≠ x := fun h => hn.1 (h ▸ hz)
      simp only [assoc, if_neg this]
    rw [List.map_cons, e, List.zipWith_cons_cons]
    simp only [sumI, ih]
    simp [assoc]

/-- What a path of columns costs, its end first. -/
def pw (c : Nat → Nat → Int) : List Nat → Int
  | [] => 0
  | [_] => 0
  | b :: a :: l => c a b + pw c (a :: l)
theorem pw_cut (c : Nat → Nat → Int) : ∀ (q : List Nat) (j : Nat) (r : List Nat), pw c (q ++ j :: r) = pw c (q ++ [j]) + pw c (j :: r)
  | [], j, r => by simp [pw]
  | [b], j, r => by simp [pw]
  | b :: b' :: q, j, r => by
    have ih := pw_cut c (b' :: q) j r
    simp only [List.cons_append, pw] at ih ⊢
    omega
theorem pw_zip (c : Nat → Nat → Int) : ∀ (rest : List Nat) (y : Nat), pw c (y :: rest) = sumI (List.zipWith c rest (y :: rest))
  | [], _ => rfl
  | z :: r, y => by
    rw [List.zipWith_cons_cons]
    simp only [pw, sumI]
    rw [pw_zip c r z]
theorem zip_short {g : Nat → Nat → Int} : ∀ (l l2 l3 : List Nat), l.length = l2.length → List.zipWith g l (l2 ++ l3) = List.zipWith g l l2
  | [], [], _, _ => by simp
  | [], _ :: _, _, h => by simp at h
  | _ :: _, [], _, h => by simp at h
  | x :: xs, y :: ys, l3, h => by
    simp only [List.cons_append, List.zipWith_cons_cons]
    rw [zip_short xs ys l3 (by simpa using h)]
/-- Steps that come back. -/
theorem cycle_zip (c : Nat → Nat → Int) (a : Nat) (q : List Nat) (j : Nat) : sumI (List.zipWith c (a :: q ++ [j]) (j :: a :: q)) = c a j + pw c (a :: q ++ [j]) := by
  rw [List.cons_append, List.zipWith_cons_cons]
  simp only [sumI]
  rw [pw_zip, show a :: (q ++ [j]) = (a :: q) ++ [j] from rfl, zip_short (q ++ [j]) (a :: q) [j] (by simp)]

theorem nodup_len : ∀ (l t : List Nat), l.Nodup → (∀ x ∈ l, x ∈ t) → l.length ≤ t.length
  | [], _, _, _ => by simp
  | x :: l, t, hn, hm => by
    rw [List.nodup_cons] at hn
    have hx := hm x (by simp)
    have ih := nodup_len l (t.erase x) hn.2 (fun y hy => by
      have hne : y ≠ x := fun h => hn.1 (h ▸ hy)
      exact (List.mem_erase_of_ne hne).2 (hm y (by simp [hy])))
    rw [List.length_erase_of_mem hx] at ih
    have : 0 < t.length := List.length_pos_of_mem hx
    simp only [List.length_cons]
    omega

end Go.Proofs.Ytiojgkebdjdgbaa

namespace Go.Proofs.Ytiojgkebdjdgbaa

def posOf : List Nat → Nat → Nat
  | [], _ => 0
  | y :: ys, x => if x = y then 0 else posOf ys x + 1
theorem posOf_at : ∀ (l : List Nat) (i : Nat) (h : i < l.length), l.Nodup → posOf l l[i] = i
  | [], _, h, _ => by simp at h
  | y :: ys, 0, _, _ => by simp [posOf]
  | y :: ys, i + 1, h, hn => by
    rw [List.nodup_cons] at hn
    have hi : i < ys.length := by simpa using h
    have hne : ys[i] ≠ y := fun e => hn.1 (e ▸ List.getElem_mem hi)
    simp only [List.getElem_cons_succ, posOf, if_neg hne]
    rw [posOf_at ys i hi hn.2]

/-- What a step from the column x to y costs: x's row takes y. -/
def cW (F : Nat → Nat → Int) (rn : List Nat) (x y : Nat) : Int := F (posOf rn x) y - F (posOf rn x) x
theorem cW_self (F : Nat → Nat → Int) (rn : List Nat) (x : Nat) : cW F rn x x = 0 := by unfold cW; omega
theorem cW_at (F : Nat → Nat → Int) {rn : List Nat} (hn : rn.Nodup) {i : Nat} (hi : i < rn.length) (y : Nat) : cW F rn rn[i] y = F i y - F i rn[i] := by unfold cW; rw [posOf_at rn i hi hn]

theorem sum_sub (g : Nat → Int) : ∀ (L rn : List Nat), L.Nodup → rn.Nodup → (∀ x ∈ L, x ∈ rn) → (∀ y ∈ rn, y ∉ L → g y = 0) → sumI (rn.map g) = sumI (L.map g)
  | [], rn, _, _, _, h0 => by
    have : ∀ l : List Nat, (∀ y ∈ l, g y = 0) → sumI (l.map g) = 0 := by
      intro l
      induction l with
      | nil => intro _; rfl
      | cons y l ih =>
        intro h
        simp only [List.map_cons, sumI]
        rw [h y (by simp), ih (fun z hz => h z (by simp [hz]))]
        rfl
    rw [this rn (fun y hy => h0 y hy (by simp))]
    rfl
  | x :: L, rn, hL, hR, hs, h0 => by
    rw [List.nodup_cons] at hL
    have hx := hs x (by simp)
    have hp := List.perm_cons_erase hx
    have hne : (rn.erase x).Nodup := hR.erase x
    rw [sumI_perm (hp.map g)]
    simp only [List.map_cons, sumI]
    rw [sum_sub g L (rn.erase x) hL.2 hne (fun y hy => by
      have : y ≠ x := fun e => hL.1 (e ▸ hy)
      exact (List.mem_erase_of_ne this).2 (hs y (by simp [hy]))) (fun y hy hyL => by
      have h1 : y ≠ x := fun e => by
        subst e
        exact (List.Nodup.not_mem_erase hR) hy
      exact h0 y ((List.mem_erase_of_ne h1).1 hy) (by simp [h1, hyL]))]

theorem map_inj {f : Nat → Nat} : ∀ (l : List Nat), (l.map f).Nodup → ∀ x ∈ l, ∀ y ∈ l, f x = f y → x = y
  | [], _, x, hx, _, _, _ => by simp at hx
  | a :: l, hn, x, hx, y, hy, e => by
    simp only [List.map_cons, List.nodup_cons] at hn
    simp only [List.mem_cons] at hx hy
    rcases hx with rfl | hx <;> rcases hy with rfl | hy
    · rfl
    · exact absurd (List.mem_map.2 ⟨y, hy, e.symm⟩) hn.1
    · exact absurd (List.mem_map.2 ⟨x, hx, e⟩) hn.1
    · exact map_inj l hn.2 x hx y hy e
theorem nodup_map_of {f : Nat → Nat} : ∀ (l : List Nat), l.Nodup → (∀ x ∈ l, ∀ y ∈ l, f x = f y → x = y) → (l.map f).Nodup
  | [], _, _ => by simp
  | a :: l, hn, h => by
    rw [List.nodup_cons] at hn
    simp only [List.map_cons, List.nodup_cons]
    refine ⟨fun hm => ?_, nodup_map_of l hn.2 (fun x hx y hy => h x (by simp [hx]) y (by simp [hy]))⟩
    obtain ⟨z, hz, e⟩ := List.mem_map.1 hm
    exact hn.1 (h z (by simp [hz]) a (by simp) e ▸ hz)

/-- The best row: no row of all the columns costs less. -/
def Best (F : Nat → Nat → Int) (m : Nat) (rn : List Nat) : Prop := rn.Nodup ∧ rn.length = m ∧ (∀ x ∈ rn, x < m) ∧ (∀ x, x < m → x ∈ rn) ∧ ∀ ys : List Nat, ys.Nodup → ys.length = m → (∀ y ∈ ys, y < m) → sumF (fun i => F i (rn.getD i 0)) m ≤ sumF (fun i => F i (ys.getD i 0)) m

theorem sum_list (g : Nat → Int) (rn : List Nat) : sumI (rn.map g) = sumF (fun i => g (rn.getD i 0)) rn.length := by
  rw [sumF_list]
  congr 1
  apply List.ext_getElem
  · simp
  · intro i h1 h2
    have hi : i < rn.length := by simpa using h1
    simp [List.getD, hi]
theorem sumF_sub (f g : Nat → Int) : ∀ k, sumF (fun i => f i - g i) k = sumF f k - sumF g k
  | 0 => rfl
  | k + 1 => by unfold sumF; rw [sumF_sub f g k]; omega

/-- No steps that come back to where they began cost less than 0. -/
theorem cycle_nonneg {F : Nat → Nat → Int} {m : Nat} {rn : List Nat} (hB : Best F m rn) {a j : Nat} {q : List Nat} (hn : (a :: q ++ [j]).Nodup) (hm : ∀ x ∈ a :: q ++ [j], x < m) : 0 ≤ cW F rn a j + pw (cW F rn) (a :: q ++ [j]) := by
  obtain ⟨b1, b2, b3, b4, b5⟩ := hB
  have hlen : (a :: q ++ [j]).length = (j :: a :: q).length := by simp
  have hn' : (j :: a :: q).Nodup := by
    have : (a :: q ++ [j]).Perm (j :: a :: q) := List.perm_append_comm
    exact this.nodup_iff.1 hn
  have hmem : ∀ x, x ∈ j :: a :: q ↔ x ∈ a :: q ++ [j] := fun x => by simp; constructor <;> (rintro (h | h | h) <;> simp [h])
  rw [← cycle_zip]
  generalize hL : a :: q ++ [j] = L at *
  generalize hL' : j :: a :: q = L' at *
  have hin : ∀ x ∈ rn, assoc L L' x < m := by
    intro x hx
    by_cases h : x ∈ L
    · have : assoc L L' x ∈ L.map (assoc L L') := List.mem_map.2 ⟨x, h, rfl⟩
      rw [assoc_map L L' hn hlen] at this
      exact hm _ ((hmem _).1 this)
    · rw [assoc_out L L' x h]; exact b3 x hx
  have hinj : ∀ x ∈ rn, ∀ y ∈ rn, assoc L L' x = assoc L L' y → x = y := by
    intro x _ y _ e
    have hin2 : ∀ z, z ∈ L → assoc L L' z ∈ L := fun z h => by
      have : assoc L L' z ∈ L.map (assoc L L') := List.mem_map.2 ⟨z, h, rfl⟩
      rw [assoc_map L L' hn hlen] at this
      exact (hmem _).1 this
    by_cases h1 : x ∈ L
    · by_cases h2 : y ∈ L
      · exact map_inj L (by rw [assoc_map L L' hn hlen]; exact hn') x h1 y h2 e
      · have := hin2 x h1
        rw [e, assoc_out L L' y h2] at this
        exact absurd this h2
    · by_cases h2 : y ∈ L
      · have := hin2 y h2
        rw [← e, assoc_out L L' x h1] at this
        exact absurd this h1
      · rw [assoc_out L L' x h1, assoc_out L L' y h2] at e
        exact e
  have hopt := b5 (rn.map (assoc L L')) (nodup_map_of rn b1 hinj) (by rw [List.length_map, b2]) (fun y hy => by
    obtain ⟨x, hx, rfl⟩ := List.mem_map.1 hy
    exact hin x hx)
  have h1 : sumI (rn.map fun x => cW F rn x (assoc L L' x)) = sumI (L.map fun x => cW F rn x (assoc L L' x)) :=
    sum_sub _ L rn hn b1 (fun x hx => b4 x (hm x hx)) (fun y _ hy => by rw [assoc_out L L' y hy, cW_self])
  rw [← assoc_sum (cW F rn) L L' hn hlen, ← h1, sum_list, b2]
  have h2 : sumF (fun i => cW F rn (rn.getD i 0) (assoc L L' (rn.getD i 0))) m = sumF (fun i => F i ((rn.map (assoc L L')).getD i 0) - F i (rn.getD i 0)) m := by
    apply sumF_congr
    intro i hi
    have hi' : i < rn.length := by omega
    have e1 : rn.getD i 0 = rn[i] := by simp [List.getD, hi']
    have e2 : (rn.map (assoc L L')).getD i 0 = assoc L L' rn[i] := by simp [List.getD, hi']
    rw [e1, e2, cW_at F b1 hi']
  rw [h2, sumF_sub]
  omega

/-- A path of unlike columns. -/
def SP (m : Nat) (l : List Nat) : Prop := l.Nodup ∧ ∀ x ∈ l, x < m
theorem SP.len {m : Nat} {l : List Nat} (h : SP m l) : l.length ≤ m := by
  have := nodup_len l (List.range m) h.1 (fun x hx => List.mem_range.2 (h.2 x hx))
  simpa using this
/-- One step more: a path of unlike columns that costs no more. -/
theorem path_step {F : Nat → Nat → Int} {m : Nat} {rn : List Nat} (hB : Best F m rn) {a j : Nat} {l : List Nat} (h : SP m (a :: l)) (hj : j < m) : ∃ l', SP m (j :: l') ∧ pw (cW F rn) (j :: l') ≤ pw (cW F rn) (a :: l) + cW F rn a j := by
  by_cases hm : j ∈ a :: l
  · obtain ⟨s, t, e⟩ := List.append_of_mem hm
    have hs : SP m (j :: t) := by
      rw [e] at h
      exact ⟨(List.nodup_append.1 h.1).2.1, fun x hx => h.2 x (List.mem_append.2 (.inr hx))⟩
    refine ⟨t, hs, ?_⟩
    rw [e, pw_cut]
    cases s with
    | nil =>
      have : a = j := by simp at e; exact e.1
      subst this
      rw [cW_self]
      simp [pw]
    | cons b q =>
      have hb : a = b := by simp at e; exact e.1
      subst hb
      have hsub : (a :: q ++ [j]).Sublist (a :: q ++ j :: t) := List.Sublist.append_left (List.Sublist.cons_cons j (List.nil_sublist t)) _
      rw [e] at h
      have := cycle_nonneg hB (h.1.sublist hsub) (fun x hx => h.2 x (hsub.subset hx))
      omega
  · refine ⟨a :: l, ⟨List.nodup_cons.2 ⟨hm, h.1⟩, fun x hx => ?_⟩, ?_⟩
    · rcases List.mem_cons.1 hx with rfl | hx
      · exact hj
      · exact h.2 x hx
    · simp only [pw]; omega

end Go.Proofs.Ytiojgkebdjdgbaa

namespace Go.Proofs.Ytiojgkebdjdgbaa

/-- Nowhere more. -/
def leP (P Q : List Int) : Prop := ∀ x, P.getD x 0 ≤ Q.getD x 0
theorem leP.refl (P : List Int) : leP P P := fun _ => Int.le_refl _
theorem leP.trans {P Q R : List Int} (h : leP P Q) (k : leP Q R) : leP P R := fun x => Int.le_trans (h x) (k x)
theorem stp_le (m : Nat) (cs ls : List Int) (i j : Nat) (P : List Int) : leP (stp m cs ls i j P) P := by
  intro x
  unfold stp
  rw [getD_set]
  by_cases e : j = x ∧ x < P.length
  · rw [if_pos e, e.1]; omega
  · rw [if_neg e]; exact Int.le_refl _
theorem jS_le (m : Nat) (cs ls : List Int) (i : Nat) (P : List Int) (j : Nat) : ∀ d, leP (jS m cs ls i P (j + d)) (jS m cs ls i P j)
  | 0 => leP.refl _
  | d + 1 => (stp_le m cs ls i (j + d) _).trans (jS_le m cs ls i P j d)
theorem iS_le (m : Nat) (cs ls : List Int) (P : List Int) (i : Nat) : ∀ d, leP (iS m cs ls P (i + d)) (iS m cs ls P i)
  | 0 => leP.refl _
  | d + 1 => by
    have h := jS_le m cs ls (i + d) (iS m cs ls P (i + d)) 0 m
    rw [Nat.zero_add] at h
    exact leP.trans h (iS_le m cs ls P i d)

section
variable {m : Nat} {cs ls : List Int} {rn : List Nat}
/-- The list is the row. -/
def RowIs (m : Nat) (ls : List Int) (rn : List Nat) : Prop := ∀ i, i < m → own ls i = rn.getD i 0
theorem way_is (hB : Best (fee m cs) m rn) (hR : RowIs m ls rn) {i : Nat} (hi : i < m) (j : Nat) (P : List Int) : wayV m cs ls i j P = P.getD (rn.getD i 0) 0 + cW (fee m cs) rn (rn.getD i 0) j := by
  have hi' : i < rn.length := by rw [hB.2.1]; exact hi
  have e : rn.getD i 0 = rn[i] := by simp [List.getD, hi']
  unfold wayV
  rw [hR i hi, e, cW_at (fee m cs) hB.1 hi']
  omega
theorem own_lt (hB : Best (fee m cs) m rn) {i : Nat} (hi : i < m) : rn.getD i 0 < m := by
  have hi' : i < rn.length := by rw [hB.2.1]; exact hi
  have e : rn.getD i 0 = rn[i] := by simp [List.getD, hi']
  rw [e]
  exact hB.2.2.1 _ (List.getElem_mem hi')

/-- Each price is at least what some path costs. -/
def LoP (m : Nat) (c : Nat → Nat → Int) (P : List Int) : Prop := ∀ j, j < m → ∃ l, SP m (j :: l) ∧ pw c (j :: l) ≤ P.getD j 0
theorem lo_stp (hB : Best (fee m cs) m rn) (hR : RowIs m ls rn) {P : List Int} (h : LoP m (cW (fee m cs) rn) P) {i j : Nat} (hi : i < m) : LoP m (cW (fee m cs) rn) (stp m cs ls i j P) := by
  intro x hx
  unfold stp
  rw [getD_set]
  by_cases e : j = x ∧ x < P.length
  · obtain ⟨rfl, _⟩ := e
    rw [if_pos ⟨rfl, by assumption⟩, way_is hB hR hi]
    obtain ⟨l1, s1, p1⟩ := h j hx
    obtain ⟨la, sa, pa⟩ := h (rn.getD i 0) (own_lt hB hi)
    by_cases hlt : P.getD j 0 ≤ P.getD (rn.getD i 0) 0 + cW (fee m cs) rn (rn.getD i 0) j
    · exact ⟨l1, s1, by omega⟩
    · obtain ⟨l', s', p'⟩ := path_step hB sa hx
      exact ⟨l', s', by omega⟩
  · rw [if_neg e]; exact h x hx
theorem lo_jS (hB : Best (fee m cs) m rn) (hR : RowIs m ls rn) {P : List Int} (h : LoP m (cW (fee m cs) rn) P) {i : Nat} (hi : i < m) (j : Nat) : LoP m (cW (fee m cs) rn) (jS m cs ls i P j) := by
  induction j with
  | zero => exact h
  | succ j ih => exact lo_stp hB hR ih hi
theorem lo_iS (hB : Best (fee m cs) m rn) (hR : RowIs m ls rn) {P : List Int} (h : LoP m (cW (fee m cs) rn) P) (i : Nat) (hi : i ≤ m) : LoP m (cW (fee m cs) rn) (iS m cs ls P i) := by
  induction i with
  | zero => exact h
  | succ i ih => exact lo_jS hB hR (ih (by omega)) (by omega) m
theorem lo_kS (hB : Best (fee m cs) m rn) (hR : RowIs m ls rn) {P : List Int} (h : LoP m (cW (fee m cs) rn) P) (k : Nat) : LoP m (cW (fee m cs) rn) (kS m cs ls P k) := by
  induction k with
  | zero => exact h
  | succ k ih => exact lo_iS hB hR ih m (Nat.le_refl _)
theorem zero_get (n j : Nat) : (List.replicate n (0 : Int)).getD j 0 = 0 := by
  rw [List.getD_eq_getElem?_getD, List.getElem?_replicate]
  by_cases h : j < n
  · rw [if_pos h]; rfl
  · rw [if_neg h]; rfl
theorem lo_zero (c : Nat → Nat → Int) : LoP m c (List.replicate m 0) := by
  intro j hj
  refine ⟨[], ⟨by simp, fun x hx => ?_⟩, ?_⟩
  · simp at hx; omega
  · rw [zero_get]; simp [pw]

/-- Behind a round no price is above the one of a column with a step to it. -/
theorem round_le (hB : Best (fee m cs) m rn) (hR : RowIs m ls rn) {P : List Int} (hP : P.length = m) {a j : Nat} (ha : a < m) (hj : j < m) : (iS m cs ls P m).getD j 0 ≤ P.getD a 0 + cW (fee m cs) rn a j := by
  obtain ⟨i, hi, e⟩ := List.getElem_of_mem (hB.2.2.2.1 a ha)
  have him : i < m := by rw [← hB.2.1]; exact hi
  have ea : rn.getD i 0 = a := by simp [List.getD, hi, e]
  have h1 := iS_le m cs ls P (i + 1) (m - (i + 1)) j
  rw [show i + 1 + (m - (i + 1)) = m by omega] at h1
  have h2 := jS_le m cs ls i (iS m cs ls P i) (j + 1) (m - (j + 1)) j
  rw [show j + 1 + (m - (j + 1)) = m by omega] at h2
  have h3 : (jS m cs ls i (iS m cs ls P i) (j + 1)).getD j 0 ≤ wayV m cs ls i j (jS m cs ls i (iS m cs ls P i) j) := by
    show (stp m cs ls i j _).getD j 0 ≤ _
    unfold stp
    rw [getD_set, if_pos ⟨rfl, by rw [jS_length, iS_length, hP]; exact hj⟩]
    omega
  rw [way_is hB hR him, ea] at h3
  have h4 := jS_le m cs ls i (iS m cs ls P i) 0 j a
  have h5 := iS_le m cs ls P 0 i a
  rw [Nat.zero_add] at h4 h5
  have h6 : (iS m cs ls P (i + 1)).getD j 0 = (jS m cs ls i (iS m cs ls P i) m).getD j 0 := rfl
  have h7 : (jS m cs ls i (iS m cs ls P i) 0).getD a 0 = (iS m cs ls P i).getD a 0 := rfl
  have h8 : (iS m cs ls P 0).getD a 0 = P.getD a 0 := rfl
  omega
/-- Behind k rounds no price is above what a path of as many steps costs. -/
theorem up_kS (hB : Best (fee m cs) m rn) (hR : RowIs m ls rn) (hf : feeTo cs (m * m)) (h6 : m ≤ 6) (ho : ∀ i, i < m → own ls i < m) : ∀ (k : Nat) (l : List Nat) (j : Nat), SP m (j :: l) → l.length ≤ k → (kS m cs ls (List.replicate m 0) k).getD j 0 ≤ pw (cW (fee m cs) rn) (j :: l)
  | k, [], j, _, _ => by
    have := (bd_kS (bd_zero m) hf h6 ho k j).2
    simpa [pw] using this
  | 0, _ :: _, _, _, h => by simp at h
  | k + 1, a :: l, j, hs, h => by
    have hs' : SP m (a :: l) := ⟨(List.nodup_cons.1 hs.1).2, fun x hx => hs.2 x (List.mem_cons_of_mem _ hx)⟩
    have ih := up_kS hB hR hf h6 ho k l a hs' (by simpa using h)
    have hr := round_le hB hR (P := kS m cs ls (List.replicate m 0) k) (by rw [kS_length]; simp) (hs.2 a (by simp)) (hs.2 j (by simp))
    simp only [pw]
    show (iS m cs ls _ m).getD j 0 ≤ _
    omega
end

end Go.Proofs.Ytiojgkebdjdgbaa

namespace Go.Proofs.Ytiojgkebdjdgbaa

theorem best_is {m : Nat} (cs : List Int) (h6 : m ≤ 6) : Best (fee m cs) m (rowN m (bestK m cs)) := by
  have hbk := bestK_lt m cs
  refine ⟨rowN_nodup _ _, rowN_length hbk, fun x hx => rowN_lt hx, fun x hx => ?_, fun ys hn hl hm => ?_⟩
  · have hp : (rowN m (bestK m cs)).Perm (List.range m) := unr_perm m (List.range m) _ (by simp) hbk
    exact hp.mem_iff.2 (List.mem_range.2 hx)
  · obtain ⟨k, hk, e⟩ := unr_all_of' m (List.range m) ys (by simp) hl hn (fun y hy => List.mem_range.2 (hm y hy))
    have e' : rowN m k = ys := e
    have h1 := lst_le (costK m cs) (facN m) k hk
    rw [lst_is _ (facN_pos m)] at h1
    have h2 : costK m cs (bestK m cs) ≤ costK m cs k := h1
    rw [cost_sum cs h6 hbk, cost_sum cs h6 hk, e'] at h2
    exact h2
theorem own_rowN {m k : Nat} (hk : k < facN m) : RowIs m (rowL m k) (rowN m k) := by
  intro i hi
  unfold own
  have hi' : i < (rowN m k).length := by rw [rowN_length hk]; exact hi
  simp [rowL, List.getD, hi']
theorem rS_get (m : Nat) (cs ls P Z : List Int) : ∀ k i, i < k → k ≤ Z.length → (rS m cs ls P Z k).getD i 0 = rowV m cs ls P i
  | 0, _, h, _ => by omega
  | k + 1, i, h, hk => by
    unfold rS
    rw [getD_set, rS_length]
    by_cases e : k = i
    · rw [if_pos ⟨e, by omega⟩, e]
    · rw [if_neg (by omega)]
      exact rS_get m cs ls P Z k i (by omega) (by omega)
theorem cW_bd {m : Nat} {cs : List Int} {rn : List Nat} (hf : feeTo cs (m * m)) (hB : Best (fee m cs) m rn) {x y : Nat} (hx : x < m) (hy : y < m) : -2000000 ≤ cW (fee m cs) rn x y := by
  obtain ⟨i, hi, e⟩ := List.getElem_of_mem (hB.2.2.2.1 x hx)
  have him : i < m := by rw [← hB.2.1]; exact hi
  have h1 := fee_bd hf him hy
  have h2 := fee_bd hf him hx
  subst e
  rw [cW_at (fee m cs) hB.1 hi]
  omega
theorem pw_bd {m : Nat} {cs : List Int} {rn : List Nat} (hf : feeTo cs (m * m)) (hB : Best (fee m cs) m rn) : ∀ (l : List Nat) (j : Nat), (∀ x ∈ j :: l, x < m) → -2000000 * (l.length : Int) ≤ pw (cW (fee m cs) rn) (j :: l)
  | [], j, _ => by simp [pw]
  | a :: l, j, h => by
    have ih := pw_bd hf hB l a (fun x hx => h x (List.mem_cons_of_mem _ hx))
    have := cW_bd hf hB (h a (by simp)) (h j (by simp))
    simp only [pw, List.length_cons]
    omega

/-- The prices are right, and their sum is what the best row costs. -/
theorem strong_dual {n : Int} {cs : List Int} (hC : costsB n cs = true) : provesT n cs (duR n cs) (duC n cs) = true ∧ provesV n cs (duR n cs) (duC n cs) = asgV n cs := by
  obtain ⟨m, rfl, h1, h6, _, hf⟩ := costsB_nat hC
  obtain ⟨e1, e2⟩ := du_yes hC
  have hbk := bestK_lt m cs
  have hB := best_is cs h6
  have hR := own_rowN hbk
  rw [e1, e2]
  have ho : ∀ i, i < m → own (rowL m (bestK m cs)) i < m := fun i hi => by rw [hR i hi]; exact own_lt hB hi
  have hlo : LoP m (cW (fee m cs) (rowN m (bestK m cs))) (colP m cs (rowL m (bestK m cs))) := lo_kS hB hR (lo_zero _) m
  have hup : ∀ (l : List Nat) (j : Nat), SP m (j :: l) → (colP m cs (rowL m (bestK m cs))).getD j 0 ≤ pw (cW (fee m cs) (rowN m (bestK m cs))) (j :: l) := fun l j hs => up_kS hB hR hf h6 ho m l j hs (by have := hs.len; simp at this; omega)
  have hpos : ∀ j, (colP m cs (rowL m (bestK m cs))).getD j 0 ≤ 0 := fun j => (bd_kS (bd_zero m) hf h6 ho m j).2
  have hneg : ∀ j, j < m → -10000000 ≤ (colP m cs (rowL m (bestK m cs))).getD j 0 := by
    intro j hj
    obtain ⟨l, hs, hp⟩ := hlo j hj
    have hlen := hs.len
    simp at hlen
    have := pw_bd hf hB l j hs.2
    omega
  have hrow : ∀ i, i < m → (rowP m cs (rowL m (bestK m cs))).getD i 0 = fee m cs i ((rowN m (bestK m cs)).getD i 0) - (colP m cs (rowL m (bestK m cs))).getD ((rowN m (bestK m cs)).getD i 0) 0 := by
    intro i hi
    unfold rowP
    rw [rS_get _ _ _ _ _ m i hi (by simp)]
    unfold rowV
    rw [hR i hi]
  have hrl : (rowP m cs (rowL m (bestK m cs))).length = m := rowP_length _ _ _
  have hcl : (colP m cs (rowL m (bestK m cs))).length = m := colP_length _ _ _
  have p1 : pricesB m (rowP m cs (rowL m (bestK m cs))) = true := pricesB_yes (by rw [hrl]) (fun i hi => inB_mk (by
    rw [hrl] at hi
    have h3 := own_lt hB hi
    have h4 := fee_bd hf hi h3
    have h5 := hneg _ h3
    have h7 := hpos ((rowN m (bestK m cs)).getD i 0)
    rw [hrow i hi]
    omega))
  have p2 : pricesB m (colP m cs (rowL m (bestK m cs))) = true := pricesB_yes (by rw [hcl]) (fun i hi => inB_mk (by
    rw [hcl] at hi
    have h5 := hneg _ hi
    have h7 := hpos i
    omega))
  have p3 : fitB m cs (rowP m cs (rowL m (bestK m cs))) (colP m cs (rowL m (bestK m cs))) = true := fitB_yes (fun i hi j hj => by
    unfold fits
    rw [hrow i hi]
    have ha := own_lt hB hi
    obtain ⟨l, hs, hp⟩ := hlo _ ha
    obtain ⟨l', hs', hp'⟩ := path_step hB hs hj
    have h3 := hup l' j hs'
    have hi' : i < (rowN m (bestK m cs)).length := by rw [hB.2.1]; exact hi
    have e : (rowN m (bestK m cs)).getD i 0 = (rowN m (bestK m cs))[i] := by simp [List.getD, hi']
    rw [e] at hp hp' ⊢
    rw [cW_at (fee m cs) hB.1 hi'] at hp'
    omega)
  obtain ⟨f1, f2⟩ := proves_yes hC p1 p2 p3
  refine ⟨f1, ?_⟩
  rw [f2, (asg_yes hC).2, cost_sum cs h6 hbk, dual_sums]
  have g1 : sumF (fun i => (rowP m cs (rowL m (bestK m cs))).getD i 0) m = sumF (fun i => fee m cs i ((rowN m (bestK m cs)).getD i 0)) m - sumF (fun i => (colP m cs (rowL m (bestK m cs))).getD ((rowN m (bestK m cs)).getD i 0) 0) m := by
    rw [← sumF_sub]
    exact sumF_congr m hrow
  have g2 := sumF_row (fun j => (colP m cs (rowL m (bestK m cs))).getD j 0) hbk
  rw [g1, ← g2]
  omega

end Go.Proofs.Ytiojgkebdjdgbaa

namespace Go.Proofs.Ytiojgkebdjdgbaa
open Go.RowKit

/-- When the vehicle is free behind the first k stops. -/
def nowT (n : Int) (zs ros : List Int) (home frm : Int) : Nat → Int
  | 0 => frm
  | k + 1 => max (nowT n zs ros home frm k + tmI n zs (plc ros home k) (og6 ros k 1)) (og6 ros k 3) + og6 ros k 5
/-- When it arrives at the stop k, and when it starts there. -/
def arrV (n : Int) (zs ros : List Int) (home frm : Int) (k : Nat) : Int := nowT n zs ros home frm k + tmI n zs (plc ros home k) (og6 ros k 1)
def startV (n : Int) (zs ros : List Int) (home frm : Int) (k : Nat) : Int := max (arrV n zs ros home frm k) (og6 ros k 3)
theorem nowT_succ (n : Int) (zs ros : List Int) (home frm : Int) (k : Nat) : nowT n zs ros home frm (k + 1) = startV n zs ros home frm k + og6 ros k 5 := rfl
/-- When it is home behind m stops. -/
def homeV (n : Int) (zs ros : List Int) (m : Nat) (home frm : Int) : Int := nowT n zs ros home frm m + tmI n zs (plc ros home m) home
theorem nowT_bd {n : Int} {zs ros : List Int} {m : Nat} {home frm : Int} (hz : matB n zs = true) (h : RosBd n ros m) (hf : 0 ≤ frm ∧ frm ≤ 1000000) : ∀ k, k ≤ m → 0 ≤ nowT n zs ros home frm k ∧ nowT n zs ros home frm k ≤ 1000000 + 20000 * k
  | 0, _ => by simp only [nowT]; omega
  | k + 1, hk => by
    have ih := nowT_bd (home := home) hz h hf k (by omega)
    have h1 := tmI_bd hz (plc ros home k) (og6 ros k 1)
    have h2 := h k (by omega)
    simp only [nowT]
    omega
theorem arrV_bd {n : Int} {zs ros : List Int} {m : Nat} {home frm : Int} (hz : matB n zs = true) (h : RosBd n ros m) (hf : 0 ≤ frm ∧ frm ≤ 1000000) (hm : m ≤ 12) {k : Nat} (hk : k < m) : 0 ≤ arrV n zs ros home frm k ∧ arrV n zs ros home frm k ≤ 2000000 ∧ arrV n zs ros home frm k ≤ startV n zs ros home frm k ∧ startV n zs ros home frm k ≤ 2000000 := by
  have h0 := nowT_bd (home := home) hz h hf k (by omega)
  have h1 := tmI_bd hz (plc ros home k) (og6 ros k 1)
  have h2 := h k hk
  unfold startV arrV
  omega
/-- None of the first k stops is late. -/
def timelyTo (n : Int) (zs ros : List Int) (home frm : Int) (k : Nat) : Prop := ∀ j, j < k → startV n zs ros home frm j ≤ og6 ros j 4
theorem timelyTo_step {n : Int} {zs ros : List Int} {home frm : Int} {k : Nat} (h : timelyTo n zs ros home frm k) (h1 : startV n zs ros home frm k ≤ og6 ros k 4) : timelyTo n zs ros home frm (k + 1) := by
  intro j hj
  by_cases e : j = k
  · rw [e]; exact h1
  · exact h j (by omega)
/-- What of the hours is wrong. -/
def hoursV (n : Int) (zs ros : List Int) (m : Nat) (home frm to : Int) : Int :=
  if ∀ j, j < m → startV n zs ros home frm j ≤ og6 ros j 4 then (if to < homeV n zs ros m home frm then 6 else 0) else 5
theorem hoursV_late {n : Int} {zs ros : List Int} {m : Nat} {home frm to : Int} {k : Nat} (hk : k < m) (h : og6 ros k 4 < startV n zs ros home frm k) : hoursV n zs ros m home frm to = 5 := by
  unfold hoursV
  rw [if_neg (fun x => by have := x k hk; omega)]
theorem hoursV_home {n : Int} {zs ros : List Int} {m : Nat} {home frm to : Int} (h : timelyTo n zs ros home frm m) (h2 : to < homeV n zs ros m home frm) : hoursV n zs ros m home frm to = 6 := by
  have h : ∀ j, j < m → startV n zs ros home frm j ≤ og6 ros j 4 := h
  unfold hoursV
  rw [if_pos h, if_pos h2]
theorem hoursV_ok {n : Int} {zs ros : List Int} {m : Nat} {home frm to : Int} (h : timelyTo n zs ros home frm m) (h2 : ¬ to < homeV n zs ros m home frm) : hoursV n zs ros m home frm to = 0 := by
  have h : ∀ j, j < m → startV n zs ros home frm j ≤ og6 ros j 4 := h
  unfold hoursV
  rw [if_pos h, if_neg h2]
theorem hoursV_zero {n : Int} {zs ros : List Int} {m : Nat} {home frm to : Int} (h : hoursV n zs ros m home frm to = 0) : timelyTo n zs ros home frm m ∧ homeV n zs ros m home frm ≤ to := by
  unfold hoursV at h
  by_cases c1 : ∀ j, j < m → startV n zs ros home frm j ≤ og6 ros j 4
  · rw [if_pos c1] at h
    by_cases c2 : to < homeV n zs ros m home frm
    · rw [if_pos c2] at h; omega
    · exact ⟨c1, by omega⟩
  · rw [if_neg c1] at h; omega
/-- Schedule's code. -/
def codeV (c : Bool) (n : Int) (zs os vs : List Int) (ko kv : Nat) (veh : Int) (ids : List Int) : Int :=
  if formV c vs os kv ko veh ids = 0 then hoursV n zs (rosOf os ko ids) ids.length (fnd5F vs kv veh 1) (fnd5F vs kv veh 3) (fnd5F vs kv veh 4) else formV c vs os kv ko veh ids
theorem codeV_form {c : Bool} {n : Int} {zs os vs : List Int} {ko kv : Nat} {veh : Int} {ids : List Int} (h : formV c vs os kv ko veh ids ≠ 0) : codeV c n zs os vs ko kv veh ids = formV c vs os kv ko veh ids := by
  unfold codeV; rw [if_neg h]
theorem codeV_hours {c : Bool} {n : Int} {zs os vs : List Int} {ko kv : Nat} {veh : Int} {ids : List Int} (h : formV c vs os kv ko veh ids = 0) : codeV c n zs os vs ko kv veh ids = hoursV n zs (rosOf os ko ids) ids.length (fnd5F vs kv veh 1) (fnd5F vs kv veh 3) (fnd5F vs kv veh 4) := by
  unfold codeV; rw [if_pos h]
theorem codeV_zero {c : Bool} {n : Int} {zs os vs : List Int} {ko kv : Nat} {veh : Int} {ids : List Int} (h : codeV c n zs os vs ko kv veh ids = 0) : formV c vs os kv ko veh ids = 0 ∧ hoursV n zs (rosOf os ko ids) ids.length (fnd5F vs kv veh 1) (fnd5F vs kv veh 3) (fnd5F vs kv veh 4) = 0 := by
  by_cases h1 : formV c vs os kv ko veh ids = 0
  · exact ⟨h1, by rw [codeV_hours h1] at h; exact h⟩
  · exact absurd (by rw [codeV_form h1] at h; exact h) h1

/-- The times that the first k drives take; what CostOf answers. -/
def costTo (n : Int) (zs ros : List Int) (home : Int) : Nat → Int
  | 0 => 0
  | k + 1 => costTo n zs ros home k + tmI n zs (plc ros home k) (og6 ros k 1)
theorem costTo_bd {n : Int} {zs ros : List Int} {home : Int} (hz : matB n zs = true) : ∀ k : Nat, 0 ≤ costTo n zs ros home k ∧ costTo n zs ros home k ≤ 10000 * k
  | 0 => by simp only [costTo]; omega
  | k + 1 => by
    have ih := costTo_bd (ros := ros) (home := home) hz k
    have h1 := tmI_bd hz (plc ros home k) (og6 ros k 1)
    simp only [costTo]
    omega
def rideV (n : Int) (zs ros : List Int) (m : Nat) (home : Int) : Int := costTo n zs ros home m + tmI n zs (plc ros home m) home
def costV (c : Bool) (n : Int) (zs os vs : List Int) (ko kv : Nat) (veh : Int) (ids : List Int) : Int :=
  if codeV c n zs os vs ko kv veh ids = 0 then rideV n zs (rosOf os ko ids) ids.length (fnd5F vs kv veh 1) else -1
theorem costV_no {c : Bool} {n : Int} {zs os vs : List Int} {ko kv : Nat} {veh : Int} {ids : List Int} (h : codeV c n zs os vs ko kv veh ids ≠ 0) : costV c n zs os vs ko kv veh ids = -1 := by
  unfold costV; rw [if_neg h]
theorem costV_yes {c : Bool} {n : Int} {zs os vs : List Int} {ko kv : Nat} {veh : Int} {ids : List Int} (h : codeV c n zs os vs ko kv veh ids = 0) : costV c n zs os vs ko kv veh ids = rideV n zs (rosOf os ko ids) ids.length (fnd5F vs kv veh 1) := by
  unfold costV; rw [if_pos h]
/-- The waiting at the first k stops; what WaitOf answers. -/
def waitTo (n : Int) (zs ros : List Int) (home frm : Int) : Nat → Int
  | 0 => 0
  | k + 1 => waitTo n zs ros home frm k + (startV n zs ros home frm k - arrV n zs ros home frm k)
def waitV (c : Bool) (n : Int) (zs os vs : List Int) (ko kv : Nat) (veh : Int) (ids : List Int) : Int :=
  if codeV c n zs os vs ko kv veh ids = 0 then waitTo n zs (rosOf os ko ids) (fnd5F vs kv veh 1) (fnd5F vs kv veh 3) ids.length else -1
theorem waitV_no {c : Bool} {n : Int} {zs os vs : List Int} {ko kv : Nat} {veh : Int} {ids : List Int} (h : codeV c n zs os vs ko kv veh ids ≠ 0) : waitV c n zs os vs ko kv veh ids = -1 := by
  unfold waitV; rw [if_neg h]
theorem waitV_yes {c : Bool} {n : Int} {zs os vs : List Int} {ko kv : Nat} {veh : Int} {ids : List Int} (h : codeV c n zs os vs ko kv veh ids = 0) : waitV c n zs os vs ko kv veh ids = waitTo n zs (rosOf os ko ids) (fnd5F vs kv veh 1) (fnd5F vs kv veh 3) ids.length := by
  unfold waitV; rw [if_pos h]

end Go.Proofs.Ytiojgkebdjdgbaa

namespace Go.Proofs.Ytiojgkebdjdgbaa
open Go.RowKit

/-- The stops without the one at i; with id put in at i; with those from i to j turned round. -/
def remL (ids : List Int) (i : Nat) : List Int := ids.take i ++ ids.drop (i + 1)
def insL (ids : List Int) (i : Nat) (id : Int) : List Int := ids.take i ++ id :: ids.drop i
def revL (ids : List Int) (i j : Nat) : List Int := ids.take i ++ ((ids.drop i).take (j + 1 - i)).reverse ++ ids.drop (j + 1)
theorem remL_length {ids : List Int} {i : Nat} (h : i < ids.length) : (remL ids i).length = ids.length - 1 := by
  simp [remL]; omega
theorem insL_length {ids : List Int} {i : Nat} (id : Int) (h : i ≤ ids.length) : (insL ids i id).length = ids.length + 1 := by
  simp [insL]; omega
theorem revL_length {ids : List Int} {i j : Nat} (hi : i ≤ j) (h : j < ids.length) : (revL ids i j).length = ids.length := by
  simp [revL]; omega

/-- What a route costs, 0 where it has a code. -/
def rcV (n : Int) (zs os vs : List Int) (ko kv : Nat) (veh : Int) (ids : List Int) : Int :=
  if codeV true n zs os vs ko kv veh ids = 0 then rideV n zs (rosOf os ko ids) ids.length (fnd5F vs kv veh 1) else 0
theorem rcV_no {n : Int} {zs os vs : List Int} {ko kv : Nat} {veh : Int} {ids : List Int} (h : codeV true n zs os vs ko kv veh ids ≠ 0) : rcV n zs os vs ko kv veh ids = 0 := by
  unfold rcV; rw [if_neg h]
theorem rcV_yes {n : Int} {zs os vs : List Int} {ko kv : Nat} {veh : Int} {ids : List Int} (h : codeV true n zs os vs ko kv veh ids = 0) : rcV n zs os vs ko kv veh ids = rideV n zs (rosOf os ko ids) ids.length (fnd5F vs kv veh 1) := by
  unfold rcV; rw [if_pos h]
theorem code12 {c : Bool} {n : Int} {zs os vs : List Int} {ko kv : Nat} {veh : Int} {ids : List Int} (h : codeV c n zs os vs ko kv veh ids = 0) : ids.length ≤ 12 :=
  (stopsB_true (formV_zero (codeV_zero h).1).2.2).1
theorem code_case {c : Bool} {n : Int} {zs os vs : List Int} {ko kv : Nat} {veh : Int} {ids : List Int} (h : codeV c n zs os vs ko kv veh ids = 0) : c = true :=
  (formV_zero (codeV_zero h).1).1
theorem rideV_bd {n : Int} {zs : List Int} (hz : matB n zs = true) (ros : List Int) (m : Nat) (hm : m ≤ 12) (home : Int) : 0 ≤ rideV n zs ros m home ∧ rideV n zs ros m home ≤ 130000 := by
  have h1 := costTo_bd (ros := ros) (home := home) hz m
  have h2 := tmI_bd hz (plc ros home m) home
  unfold rideV
  omega
theorem rcV_bd {n : Int} {zs : List Int} (hz : matB n zs = true) (os vs : List Int) (ko kv : Nat) (veh : Int) (ids : List Int) : 0 ≤ rcV n zs os vs ko kv veh ids ∧ rcV n zs os vs ko kv veh ids ≤ 130000 := by
  by_cases h : codeV true n zs os vs ko kv veh ids = 0
  · rw [rcV_yes h]
    exact rideV_bd hz _ _ (code12 h) _
  · rw [rcV_no h]; omega

/-- Whether a change of a route can be made: both routes can be driven, and the place is one. -/
def chB (c : Bool) (n : Int) (zs os vs : List Int) (ko kv : Nat) (veh : Int) (ids : List Int) (ok : Bool) (ids' : List Int) : Bool :=
  decide (codeV c n zs os vs ko kv veh ids = 0) && (ok && decide (codeV c n zs os vs ko kv veh ids' = 0))
/-- Its answer: the vehicle, the stops, how much more it costs. -/
def chI (ch : Bool) (v : Int) : Int := if ch then v else 0
def chL (ch : Bool) (ids' : List Int) : List Int := if ch then ids' else []
def chD (ch : Bool) (n : Int) (zs os vs : List Int) (ko kv : Nat) (veh : Int) (ids ids' : List Int) : Int :=
  if ch then rcV n zs os vs ko kv veh ids' - rcV n zs os vs ko kv veh ids else 0
theorem chB_no1 {c : Bool} {n : Int} {zs os vs : List Int} {ko kv : Nat} {veh : Int} {ids : List Int} (h : codeV c n zs os vs ko kv veh ids ≠ 0) (ok : Bool) (ids' : List Int) : chB c n zs os vs ko kv veh ids ok ids' = false := by
  unfold chB; rw [decide_eq_false h]; rfl
theorem chB_no2 {c : Bool} {n : Int} {zs os vs : List Int} {ko kv : Nat} {veh : Int} {ids : List Int} {ok : Bool} (h : ok = false) (ids' : List Int) : chB c n zs os vs ko kv veh ids ok ids' = false := by
  unfold chB; rw [h]; simp
theorem chB_no3 {c : Bool} {n : Int} {zs os vs : List Int} {ko kv : Nat} {veh : Int} {ids ids' : List Int} (ok : Bool) (h : codeV c n zs os vs ko kv veh ids' ≠ 0) : chB c n zs os vs ko kv veh ids ok ids' = false := by
  unfold chB; rw [decide_eq_false h]; simp
theorem chB_yes {c : Bool} {n : Int} {zs os vs : List Int} {ko kv : Nat} {veh : Int} {ids ids' : List Int} {ok : Bool} (h : codeV c n zs os vs ko kv veh ids = 0) (ho : ok = true) (h' : codeV c n zs os vs ko kv veh ids' = 0) : chB c n zs os vs ko kv veh ids ok ids' = true := by
  unfold chB; rw [decide_eq_true h, ho, decide_eq_true h']; rfl
theorem chB_true {c : Bool} {n : Int} {zs os vs : List Int} {ko kv : Nat} {veh : Int} {ids ids' : List Int} {ok : Bool} (h : chB c n zs os vs ko kv veh ids ok ids' = true) : codeV c n zs os vs ko kv veh ids = 0 ∧ ok = true ∧ codeV c n zs os vs ko kv veh ids' = 0 := by
  unfold chB at h
  simp only [Bool.and_eq_true, decide_eq_true_eq] at h
  exact ⟨h.1, h.2.1, h.2.2⟩
theorem chL_le {c : Bool} {n : Int} {zs os vs : List Int} {ko kv : Nat} {veh : Int} {ids ids' : List Int} {ok : Bool} : (chL (chB c n zs os vs ko kv veh ids ok ids') ids').length ≤ 12 := by
  cases h : chB c n zs os vs ko kv veh ids ok ids'
  · simp [chL]
  · exact code12 (chB_true h).2.2

end Go.Proofs.Ytiojgkebdjdgbaa

namespace Go.Proofs.Ytiojgkebdjdgbaa

/-- The list without v. -/
def cutL (l : List Int) (v : Int) : List Int := l.filter fun x => x != v
theorem cutL_not {l : List Int} {v : Int} (h : v ∉ l) : cutL l v = l := by
  unfold cutL
  rw [List.filter_eq_self]
  intro a ha
  have : a ≠ v := fun e => h (e ▸ ha)
  simpa using this
theorem cutL_rem {l : List Int} (h : l.Nodup) : ∀ {i : Nat}, i < l.length → cutL l (l.getD i 0) = remL l i := by
  induction l with
  | nil => intro i hi; simp at hi
  | cons a l ih =>
    intro i hi
    rw [List.nodup_cons] at h
    cases i with
    | zero =>
      show cutL (a :: l) a = _
      have e : cutL (a :: l) a = cutL l a := by simp [cutL]
      rw [e, cutL_not h.1]
      simp [remL]
    | succ i =>
      have hi' : i < l.length := by simpa using hi
      have e1 : (a :: l).getD (i + 1) 0 = l.getD i 0 := rfl
      have hne : a ≠ l.getD i 0 := by
        intro e
        apply h.1
        rw [e, List.getD_eq_getElem?_getD, List.getElem?_eq_getElem hi']
        simp
      have e2 : cutL (a :: l) (l.getD i 0) = a :: cutL l (l.getD i 0) := by
        unfold cutL
        rw [List.filter_cons_of_pos (by simpa using hne)]
      rw [e1, e2, ih h.2 hi']
      simp [remL]
theorem cutL_take_succ (l : List Int) (v : Int) (k : Nat) (h : k < l.length) : cutL (l.take (k + 1)) v = if l.getD k 0 = v then cutL (l.take k) v else cutL (l.take k) v ++ [l.getD k 0] := by
  have e : l.take (k + 1) = l.take k ++ [l.getD k 0] := by
    rw [List.take_add_one, List.getD_eq_getElem?_getD, List.getElem?_eq_getElem h]; rfl
  rw [e]
  unfold cutL
  rw [List.filter_append]
  by_cases hv : l.getD k 0 = v
  · rw [if_pos hv, hv]; simp
  · rw [if_neg hv]
    congr 1
    rw [List.filter_cons_of_pos (by simpa using hv)]; rfl
theorem cutL_le (l : List Int) (v : Int) : (cutL l v).length ≤ l.length := List.length_filter_le _ _
theorem remL_nodup {l : List Int} (h : l.Nodup) (i : Nat) : (remL l i).Nodup := by
  have : (remL l i).Sublist l := by
    unfold remL
    rw [← List.eraseIdx_eq_take_drop_succ]
    exact List.eraseIdx_sublist l i
  exact h.sublist this
theorem allL_nodup (c : Nat) : (allL c).Nodup := by
  unfold allL
  exact (List.pairwise_map.2 (List.nodup_range.imp fun h => by omega))

/-- Where the next one is picked of m things. -/
def pkAt (s : Int) (m : Nat) : Nat := (s / 65536 % (m : Int)).toNat
theorem pkAt_lt {s : Int} {m : Nat} (h : 0 < m) : pkAt s m < m := by
  have h1 := Int.emod_lt_of_pos (s / 65536) (show (0 : Int) < m by omega)
  have h2 := Int.emod_nonneg (s / 65536) (show (m : Int) ≠ 0 by omega)
  unfold pkAt
  omega
theorem pkAt_is {s : Int} {m : Nat} (h : 0 < m) : s / 65536 % (m : Int) = (pkAt s m : Nat) := by
  have h2 := Int.emod_nonneg (s / 65536) (show (m : Int) ≠ 0 by omega)
  unfold pkAt
  omega
/-- k picks of the list: what is picked, and the last seed. -/
def pkL : Nat → List Int → Int → List Int × Int
  | 0, _, s => ([], s)
  | k + 1, L, s => (L.getD (pkAt (randV s) L.length) 0 :: (pkL k (remL L (pkAt (randV s) L.length)) (randV s)).1, (pkL k (remL L (pkAt (randV s) L.length)) (randV s)).2)
theorem pkL_length (k : Nat) : ∀ L s, (pkL k L s).1.length = k := by
  induction k with
  | zero => intro L s; rfl
  | succ k ih => intro L s; simp [pkL, ih]

def pickB (s n k : Int) : Bool := inB n 0 64 && inB k 0 n && inB s 0 2147483647
def pickV (s n k : Int) : List Int := bif pickB s n k then (pkL k.toNat (allL n.toNat) s).1 else []
def pickS (s n k : Int) : Int := bif pickB s n k then (pkL k.toNat (allL n.toNat) s).2 else -1
theorem pick_no {s n k : Int} (h : pickB s n k = false) : pickV s n k = [] ∧ pickS s n k = -1 := by unfold pickV pickS; rw [h]; exact ⟨rfl, rfl⟩
theorem pick_yes {s : Int} {n k : Nat} (h : pickB s n k = true) : pickV s n k = (pkL k (allL n) s).1 ∧ pickS s n k = (pkL k (allL n) s).2 := by unfold pickV pickS; rw [h]; exact ⟨rfl, rfl⟩
theorem pickB_nat {s n k : Int} (h : pickB s n k = true) : ∃ n' k' : Nat, n = n' ∧ k = k' ∧ n' ≤ 64 ∧ k' ≤ n' ∧ 0 ≤ s ∧ s ≤ 2147483647 := by
  unfold pickB at h
  simp only [Bool.and_eq_true] at h
  have h1 := inB_true h.1.1
  have h2 := inB_true h.1.2
  have h3 := inB_true h.2
  exact ⟨n.toNat, k.toNat, by omega, by omega, by omega, by omega, by omega, by omega⟩
theorem pickV_length (s n k : Int) : (pickV s n k).length ≤ 64 := by
  cases h : pickB s n k
  · rw [(pick_no h).1]; simp
  · obtain ⟨n', k', rfl, rfl, h1, h2, _⟩ := pickB_nat h
    rw [(pick_yes h).1, pkL_length]
    omega

end Go.Proofs.Ytiojgkebdjdgbaa

namespace Go.Proofs.Ytiojgkebdjdgbaa

theorem getD_mem {L : List Int} {i : Nat} (h : i < L.length) : L.getD i 0 ∈ L := by
  rw [List.getD_eq_getElem?_getD, List.getElem?_eq_getElem h]; simp
theorem remL_sub {L : List Int} {i : Nat} {x : Int} (h : x ∈ remL L i) : x ∈ L := by
  unfold remL at h
  rcases List.mem_append.1 h with h | h
  · exact List.mem_of_mem_take h
  · exact List.mem_of_mem_drop h
theorem pkL_mem (k : Nat) : ∀ (L : List Int) (s : Int), k ≤ L.length → ∀ x ∈ (pkL k L s).1, x ∈ L := by
  induction k with
  | zero => intro L s _ x hx; simp [pkL] at hx
  | succ k ih =>
    intro L s hk x hx
    have hat : pkAt (randV s) L.length < L.length := pkAt_lt (by omega)
    simp only [pkL, List.mem_cons] at hx
    rcases hx with rfl | hx
    · exact getD_mem hat
    · exact remL_sub (ih _ _ (by rw [remL_length hat]; omega) x hx)
theorem pkL_nodup (k : Nat) : ∀ (L : List Int) (s : Int), L.Nodup → k ≤ L.length → (pkL k L s).1.Nodup := by
  induction k with
  | zero => intro L s _ _; simp [pkL]
  | succ k ih =>
    intro L s hn hk
    have hat : pkAt (randV s) L.length < L.length := pkAt_lt (by omega)
    have hr : k ≤ (remL L (pkAt (randV s) L.length)).length := by rw [remL_length hat]; omega
    simp only [pkL, List.nodup_cons]
    refine ⟨fun h => ?_, ih _ _ (remL_nodup hn _) hr⟩
    have h2 := pkL_mem k _ _ hr _ h
    rw [← cutL_rem hn hat] at h2
    unfold cutL at h2
    simp at h2
theorem pkL_take (k : Nat) : ∀ (j : Nat) (L : List Int) (s : Int), j ≤ k → (pkL j L s).1 = (pkL k L s).1.take j := by
  induction k with
  | zero =>
    intro j L s hj
    have : j = 0 := by omega
    subst this
    rfl
  | succ k ih =>
    intro j L s hj
    cases j with
    | zero => rfl
    | succ j => simp only [pkL, List.take_succ_cons]; rw [ih j _ _ (by omega)]
theorem pkL_seed (k : Nat) : ∀ (L : List Int) (s : Int), 0 ≤ s → 0 ≤ (pkL k L s).2 := by
  induction k with
  | zero => intro L s h; exact h
  | succ k ih => intro L s _; exact ih _ _ (inB_true (randV_in s)).1

theorem mem_allL {N : Nat} {x : Int} (h : x ∈ allL N) : ∃ y : Nat, y < N ∧ (y : Int) = x := by
  unfold allL at h
  simp only [List.mem_map, List.mem_range] at h
  exact h
/-- What is picked. -/
theorem pick_facts {s : Int} {N K : Nat} (h : pickB s N K = true) : K ≤ N ∧ N ≤ 64 ∧ (pickV s N K).length = K ∧ 0 ≤ pickS s N K ∧ (∀ i, i < K → 0 ≤ (pickV s N K).getD i 0 ∧ (pickV s N K).getD i 0 < N ∧ hasTo (pickV s N K) i ((pickV s N K).getD i 0) = false) ∧ pickV s N ((K / 2 : Nat) : Int) = (pickV s N K).take (K / 2) ∧ pickB s N ((K / 2 : Nat) : Int) = true := by
  obtain ⟨N', K', e1, e2, h1, h2, h3, h4⟩ := pickB_nat h
  have : N = N' := by omega
  subst this
  have : K = K' := by omega
  subst this
  have hb2 : pickB s N ((K / 2 : Nat) : Int) = true := by
    unfold pickB
    rw [inB_mk (show (0 : Int) ≤ N ∧ (N : Int) ≤ 64 by omega), inB_mk (show (0 : Int) ≤ ((K / 2 : Nat) : Int) ∧ ((K / 2 : Nat) : Int) ≤ N by omega), inB_mk (show 0 ≤ s ∧ s ≤ 2147483647 by omega)]
    rfl
  rw [(pick_yes h).1, (pick_yes h).2, (pick_yes hb2).1]
  have hl : (pkL K (allL N) s).1.length = K := pkL_length K _ _
  have hm := pkL_mem K (allL N) s (by rw [allL_length]; exact h2)
  have hn := pkL_nodup K (allL N) s (allL_nodup N) (by rw [allL_length]; exact h2)
  refine ⟨h2, h1, hl, pkL_seed _ _ _ h3, ?_, pkL_take K (K / 2) _ _ (by omega), hb2⟩
  intro i hi
  have hx := hm _ (getD_mem (i := i) (by rw [hl]; exact hi))
  obtain ⟨y, hy, e⟩ := mem_allL hx
  clear hx
  refine ⟨by omega, by omega, hasTo_no fun j hj e2 => ?_⟩
  have hi' : i < (pkL K (allL N) s).1.length := by omega
  have hj' : j < (pkL K (allL N) s).1.length := by omega
  rw [List.getD_eq_getElem?_getD, List.getD_eq_getElem?_getD, List.getElem?_eq_getElem hi', List.getElem?_eq_getElem hj'] at e2
  simp only [Option.getD_some] at e2
  exact List.pairwise_iff_getElem.1 hn j i hj' hi' hj e2

end Go.Proofs.Ytiojgkebdjdgbaa
