import Derived.Test.YtighhcdlgjaacaaOpsMake
namespace Go.Proofs.Ytighhcdlgjaacaa
open Go.RowKit

/-- What 'Do' answers for a disk that is right. -/
def actK (L : List FI) (O : List OP) (o : OP) : Int := if frmB o = true then (if okF L o = true then (if O.length = 200 ∨ filB (doF L o) = false then 4 else 0) else 3) else 2
def actL (L : List FI) (O : List OP) (o : OP) : List FI := if actK L O o = 0 then doF L o else L
def actO (L : List FI) (O : List OP) (o : OP) : List OP := if actK L O o = 0 then O ++ [o] else O
theorem act_cases (L : List FI) (O : List OP) (o : OP) :
    (frmB o = false ∧ actK L O o = 2 ∧ actL L O o = L ∧ actO L O o = O) ∨
    (frmB o = true ∧ okF L o = false ∧ actK L O o = 3 ∧ actL L O o = L ∧ actO L O o = O) ∨
    (frmB o = true ∧ okF L o = true ∧ O.length = 200 ∧ actK L O o = 4 ∧ actL L O o = L ∧ actO L O o = O) ∨
    (frmB o = true ∧ okF L o = true ∧ O.length ≠ 200 ∧ filB (doF L o) = false ∧ actK L O o = 4 ∧ actL L O o = L ∧ actO L O o = O) ∨
    (frmB o = true ∧ okF L o = true ∧ O.length ≠ 200 ∧ filB (doF L o) = true ∧ actK L O o = 0 ∧ actL L O o = doF L o ∧ actO L O o = O ++ [o]) := by
  unfold actL actO
  have hA : frmB o = false → actK L O o = 2 := fun h => by unfold actK; rw [if_neg (by rw [h]; decide)]
  have hB : frmB o = true → okF L o = false → actK L O o = 3 := fun h h2 => by unfold actK; rw [if_pos h, if_neg (by rw [h2]; decide)]
  have hC : frmB o = true → okF L o = true → (O.length = 200 ∨ filB (doF L o) = false) → actK L O o = 4 := fun h h2 h3 => by unfold actK; rw [if_pos h, if_pos h2, if_pos h3]
  have hD : frmB o = true → okF L o = true → ¬ (O.length = 200 ∨ filB (doF L o) = false) → actK L O o = 0 := fun h h2 h3 => by unfold actK; rw [if_pos h, if_pos h2, if_neg h3]
  cases h1 : frmB o
  · have e := hA h1
    exact .inl ⟨rfl, e, by rw [e, if_neg (by omega)], by rw [e, if_neg (by omega)]⟩
  cases h2 : okF L o
  · have e := hB h1 h2
    exact .inr (.inl ⟨rfl, rfl, e, by rw [e, if_neg (by omega)], by rw [e, if_neg (by omega)]⟩)
  by_cases h3 : O.length = 200
  · have e := hC h1 h2 (.inl h3)
    exact .inr (.inr (.inl ⟨rfl, rfl, h3, e, by rw [e, if_neg (by omega)], by rw [e, if_neg (by omega)]⟩))
  cases h4 : filB (doF L o)
  · have e := hC h1 h2 (.inr h4)
    exact .inr (.inr (.inr (.inl ⟨rfl, rfl, h3, rfl, e, by rw [e, if_neg (by omega)], by rw [e, if_neg (by omega)]⟩)))
  · have e := hD h1 h2 (fun h => by rcases h with h | h; exact h3 h; rw [h4] at h; cases h)
    exact .inr (.inr (.inr (.inr ⟨rfl, rfl, h3, rfl, e, by rw [e, if_pos rfl], by rw [e, if_pos rfl]⟩)))
/-- What may be asked of what an op makes of right files. -/
theorem do_ok {L : List FI} {o : OP} (h : filB L = true) (h1 : o.n.size ≤ 1048576) (h2 : o.t.size ≤ 1048576) (h3 : o.d.size ≤ 1048576) : (doF L o).length ≤ 61 ∧ totL (doF L o) ≤ 4000000 ∧ Shrt (doF L o) ∧ RisF L ∧ totL L ≤ 200000 := by
  obtain ⟨ha, hb, hc⟩ := filB_true.1 h
  rw [totTo_all] at hc
  have := doF_len L o
  have := totL_do L o
  refine ⟨by omega, by omega, shrt_do (fun f hf => ?_) o (by omega) (by omega), risF_of L hb, hc⟩
  have := nmF_of h f hf
  unfold nmB at this
  rw [decide_eq_true_eq] at this
  omega
theorem rowO_snoc (O : List OP) (o : OP) : rowO (O ++ [o]) = rowO O ++ [.int .i64 o.k, .string o.n, .string o.t, .string o.d] := by
  induction O with
  | nil => rfl
  | cons p O ih => show rowO (p :: (O ++ [o])) = _; unfold rowO at *; simp only [List.flatMap_cons, List.flatMap_append, List.append_assoc] at *; first | rfl | simp

end Go.Proofs.Ytighhcdlgjaacaa
