import Derived.Test.YtimieikdngoppaaPack0
namespace Go.Proofs.Ytimieikdngoppaa
open Go.RowKit

/-- The column of row i. -/
def own (ls : List Int) (i : Nat) : Nat := (ls.getD i 0).toNat
def wayV (m : Nat) (cs ls : List Int) (i j : Nat) (P : List Int) : Int := P.getD (own ls i) 0 + fee m cs i j - fee m cs i (own ls i)
def stp (m : Nat) (cs ls : List Int) (i j : Nat) (P : List Int) : List Int := P.set j (min (P.getD j 0) (wayV m cs ls i j P))
def jS (m : Nat) (cs ls : List Int) (i : Nat) (P : List Int) : Nat → List Int
  | 0 => P
  | j + 1 => stp m cs ls i j (jS m cs ls i P j)
def iS (m : Nat) (cs ls : List Int) (P : List Int) : Nat → List Int
  | 0 => P
  | i + 1 => jS m cs ls i (iS m cs ls P i) m
def kS (m : Nat) (cs ls : List Int) (P : List Int) : Nat → List Int
  | 0 => P
  | k + 1 => iS m cs ls (kS m cs ls P k) m

theorem stp_length (m : Nat) (cs ls : List Int) (i j : Nat) (P : List Int) : (stp m cs ls i j P).length = P.length := by simp [stp]
theorem jS_length (m : Nat) (cs ls : List Int) (i : Nat) (P : List Int) (j : Nat) : (jS m cs ls i P j).length = P.length := by
  induction j with
  | zero => rfl
  | succ j ih => rw [jS, stp_length, ih]
theorem iS_length (m : Nat) (cs ls : List Int) (P : List Int) (i : Nat) : (iS m cs ls P i).length = P.length := by
  induction i with
  | zero => rfl
  | succ i ih => rw [iS, jS_length, ih]
theorem kS_length (m : Nat) (cs ls : List Int) (P : List Int) (k : Nat) : (kS m cs ls P k).length = P.length := by
  induction k with
  | zero => rfl
  | succ k ih => rw [kS, iS_length, ih]

/-- All prices lie between -B and 0. -/
def bdP (B : Int) (P : List Int) : Prop := ∀ j, -B ≤ P.getD j 0 ∧ P.getD j 0 ≤ 0
theorem getD_set (P : List Int) (j x : Nat) (v : Int) : (P.set j v).getD x 0 = if j = x ∧ x < P.length then v else P.getD x 0 := by
  by_cases e : j = x
  · subst e
    by_cases h : j < P.length
    · rw [if_pos ⟨rfl, h⟩]; simp [List.getD, h]
    · rw [if_neg (by omega)]; simp [List.getD, h]
  · rw [if_neg (by omega)]; simp [List.getD, e]
theorem bd_stp {m : Nat} {cs ls : List Int} {i j : Nat} {P : List Int} {B : Int} (h : bdP B P) (hf : feeTo cs (m * m)) (hi : i < m) (hj : j < m) (ho : own ls i < m) : bdP (B + 2000000) (stp m cs ls i j P) := by
  intro x
  unfold stp
  rw [getD_set]
  have h1 := h x
  have h2 := h j
  have h3 := h (own ls i)
  have f1 := fee_bd hf hi hj
  have f2 := fee_bd hf hi ho
  by_cases e : j = x ∧ x < P.length
  · rw [if_pos e]
    unfold wayV
    omega
  · rw [if_neg e]; omega
theorem bd_jS {m : Nat} {cs ls : List Int} {i : Nat} {P : List Int} {B : Int} (h : bdP B P) (hf : feeTo cs (m * m)) (hi : i < m) (ho : own ls i < m) (j : Nat) (hj : j ≤ m) : bdP (B + 2000000 * j) (jS m cs ls i P j) := by
  induction j with
  | zero => simpa [jS] using h
  | succ j ih =>
    have := bd_stp (ih (by omega)) hf hi (show j < m by omega) ho
    have e : B + 2000000 * (j : Int) + 2000000 = B + 2000000 * ((j + 1 : Nat) : Int) := by omega
    rw [e] at this
    exact this
theorem bdP_mono {B B' : Int} {P : List Int} (h : bdP B P) (hb : B ≤ B') : bdP B' P := fun j => by have := h j; omega
theorem bd_iS {m : Nat} {cs ls : List Int} {P : List Int} {B : Int} (h : bdP B P) (hf : feeTo cs (m * m)) (hm : m ≤ 6) (ho : ∀ i, i < m → own ls i < m) (i : Nat) (hi : i ≤ m) : bdP (B + 12000000 * i) (iS m cs ls P i) := by
  induction i with
  | zero => simpa [iS] using h
  | succ i ih =>
    exact bdP_mono (bd_jS (ih (by omega)) hf (show i < m by omega) (ho i (by omega)) m (Nat.le_refl _)) (by omega)
theorem bd_kS {m : Nat} {cs ls : List Int} {P : List Int} (h : bdP 0 P) (hf : feeTo cs (m * m)) (hm : m ≤ 6) (ho : ∀ i, i < m → own ls i < m) (k : Nat) : bdP (72000000 * k) (kS m cs ls P k) := by
  induction k with
  | zero => simpa [kS] using h
  | succ k ih => exact bdP_mono (bd_iS ih hf hm ho m (Nat.le_refl _)) (by omega)
theorem bd_zero (n : Nat) : bdP 0 (List.replicate n 0) := by
  intro j
  have : (List.replicate n (0 : Int)).getD j 0 = 0 := by
    rw [List.getD_eq_getElem?_getD, List.getElem?_replicate]
    by_cases h : j < n
    · rw [if_pos h]; rfl
    · rw [if_neg h]; rfl
  omega

theorem getD_take (P : List Int) (m x : Nat) (h : x < m) : (P.take m).getD x 0 = P.getD x 0 := by
  rw [List.getD_eq_getElem?_getD, List.getD_eq_getElem?_getD, List.getElem?_take, if_pos h]
theorem stp_take {m : Nat} {cs ls : List Int} {i j : Nat} {P : List Int} (hj : j < m) (ho : own ls i < m) : (stp m cs ls i j P).take m = stp m cs ls i j (P.take m) := by
  unfold stp wayV
  rw [List.take_set, getD_take P m j hj, getD_take P m _ ho]
theorem jS_take {m : Nat} {cs ls : List Int} {i : Nat} {P : List Int} (ho : own ls i < m) (j : Nat) (hj : j ≤ m) : (jS m cs ls i P j).take m = jS m cs ls i (P.take m) j := by
  induction j with
  | zero => rfl
  | succ j ih => rw [jS, stp_take (by omega) ho, ih (by omega)]; rfl
theorem iS_take {m : Nat} {cs ls : List Int} {P : List Int} (ho : ∀ i, i < m → own ls i < m) (i : Nat) (hi : i ≤ m) : (iS m cs ls P i).take m = iS m cs ls (P.take m) i := by
  induction i with
  | zero => rfl
  | succ i ih => rw [iS, jS_take (ho i (by omega)) m (Nat.le_refl _), ih (by omega)]; rfl
theorem kS_take {m : Nat} {cs ls : List Int} {P : List Int} (ho : ∀ i, i < m → own ls i < m) (k : Nat) : (kS m cs ls P k).take m = kS m cs ls (P.take m) k := by
  induction k with
  | zero => rfl
  | succ k ih => rw [kS, iS_take ho m (Nat.le_refl _), ih]; rfl

/-- The price of row i. -/
def rowV (m : Nat) (cs ls P : List Int) (i : Nat) : Int := fee m cs i (own ls i) - P.getD (own ls i) 0
/-- The rows' prices, the first i of them, behind them noughts. -/
def rS (m : Nat) (cs ls P : List Int) (Z : List Int) : Nat → List Int
  | 0 => Z
  | i + 1 => (rS m cs ls P Z i).set i (rowV m cs ls P i)
theorem rS_length (m : Nat) (cs ls P Z : List Int) (i : Nat) : (rS m cs ls P Z i).length = Z.length := by
  induction i with
  | zero => rfl
  | succ i ih => rw [rS, List.length_set, ih]
theorem rS_take {m : Nat} {cs ls P Z : List Int} (ho : ∀ i, i < m → own ls i < m) (i : Nat) (hi : i ≤ m) : (rS m cs ls P Z i).take m = rS m cs ls (P.take m) (Z.take m) i := by
  induction i with
  | zero => rfl
  | succ i ih =>
    rw [rS, List.take_set, ih (by omega)]
    unfold rS rowV
    rw [getD_take P m _ (ho i (by omega))]
    cases i <;> rfl
theorem rowV_bd {m : Nat} {cs ls P : List Int} {B : Int} (h : bdP B P) (hf : feeTo cs (m * m)) {i : Nat} (hi : i < m) (ho : own ls i < m) : -1000000 ≤ rowV m cs ls P i ∧ rowV m cs ls P i ≤ B + 1000000 := by
  have h1 := h (own ls i)
  have h2 := fee_bd hf hi ho
  unfold rowV
  omega

/-- The columns' and the rows' prices. -/
def colP (m : Nat) (cs ls : List Int) : List Int := kS m cs ls (List.replicate m 0) m
def rowP (m : Nat) (cs ls : List Int) : List Int := rS m cs ls (colP m cs ls) (List.replicate m 0) m
theorem colP_length (m : Nat) (cs ls : List Int) : (colP m cs ls).length = m := by unfold colP; rw [kS_length]; simp
theorem rowP_length (m : Nat) (cs ls : List Int) : (rowP m cs ls).length = m := by unfold rowP; rw [rS_length]; simp
theorem take6 {m : Nat} (h : m ≤ 6) : (List.replicate 6 (0 : Int)).take m = List.replicate m 0 := by rw [List.take_replicate, Nat.min_eq_left h]
/-- What the program reckons with six prices. -/
theorem cprice6 {m : Nat} {cs ls : List Int} (h : m ≤ 6) (ho : ∀ i, i < m → own ls i < m) : (kS m cs ls (List.replicate 6 0) m).take m = colP m cs ls := by rw [kS_take ho, take6 h]; rfl
theorem rprice6 {m : Nat} {cs ls : List Int} (h : m ≤ 6) (ho : ∀ i, i < m → own ls i < m) : (rS m cs ls (kS m cs ls (List.replicate 6 0) m) (List.replicate 6 0) m).take m = rowP m cs ls := by rw [rS_take ho m (Nat.le_refl _), cprice6 h ho, take6 h]; rfl

def duC (n : Int) (cs : List Int) : List Int := bif costsB n cs then colP n.toNat cs (asgL n cs) else []
def duR (n : Int) (cs : List Int) : List Int := bif costsB n cs then rowP n.toNat cs (asgL n cs) else []
theorem du_no {n : Int} {cs : List Int} (h : costsB n cs = false) : duR n cs = [] ∧ duC n cs = [] := by unfold duR duC; rw [h]; exact ⟨rfl, rfl⟩
theorem du_yes {m : Nat} {cs : List Int} (h : costsB (m : Int) cs = true) : duR m cs = rowP m cs (rowL m (bestK m cs)) ∧ duC m cs = colP m cs (rowL m (bestK m cs)) := by
  unfold duR duC
  rw [h, (asg_yes h).1]
  exact ⟨rfl, rfl⟩
theorem du_len (n : Int) (cs : List Int) : (duR n cs).length = (duC n cs).length ∧ (duC n cs).length ≤ 6 := by
  cases h : costsB n cs
  · rw [(du_no h).1, (du_no h).2]; simp
  · obtain ⟨m, rfl, _, h2, _⟩ := costsB_nat h
    rw [(du_yes h).1, (du_yes h).2, rowP_length, colP_length]
    exact ⟨rfl, h2⟩

end Go.Proofs.Ytimieikdngoppaa
