import Derived.Test.YtighhcdlgjaacaaOpsMake
namespace Go.Proofs.Ytighhcdlgjaacaa
open Go.RowKit

/-- What 'Do' answers for a disk that is right. -/
def actK (L : List FI) (O : List OP) (o : OP) : Int := if frmB o = true then (if okF L o = true then (if O.length = 200 ∨ filB (doF L o) = false then 4 else 0) else 3) else 2
def actL (L : List FI) (O : List OP) (o : OP) : List FI := if actK L O o = 0 then doF L o else L
def actO (L : List FI) (O : List OP) (o : OP) : List OP := if actK L O o = 0 then O ++ [o] else O
theorem act_cases (L : List FI) (O : List OP) (o : OP) :
    (frmB o = false ∧ actK L O o = 2 ∧ actL L O o = L ∧ actO L O o = O) ∨
    (frmB o = true ∧ okF L o = false ∧ actK L O o = 3 ∧ actL L O o = L ∧ actO L O o = O) ∨
    (frmB o = true ∧ okF L o = true ∧ O.length = 200 ∧ actK L O o = 4 ∧ actL L O o = L ∧ actO L O o = O) ∨
    (frmB o = true ∧ okF L o = true ∧ O.length ≠ 200 ∧ filB (doF L o) = false ∧ actK L O o = 4 ∧ actL L O o = L ∧ actO L O o = O) ∨
    (frmB o = true ∧ okF L o = true ∧ O.length ≠ 200 ∧ filB (doF L o) = true ∧ actK L O o = 0 ∧ actL L O o = doF L o ∧ actO L O o = O ++ [o]) := by
  unfold actL actO
  have hA : frmB o = false → actK L O o = 2 := fun h => by unfold actK; rw [if_neg (by rw [h]; decide)]
  have hB : frmB o = true → okF L o = false → actK L O o = 3 := fun h h2 => by unfold actK; rw [if_pos h, if_neg (by rw [h2]; decide)]
  have hC : frmB o = true → okF L o = true → (O.length = 200 ∨ filB (doF L o) = false) → actK L O o = 4 := fun h h2 h3 => by unfold actK; rw [if_pos h, if_pos h2, if_pos h3]
  have hD : frmB o = true → okF L o = true → ¬ (O.length = 200 ∨ filB (doF L o) = false) → actK L O o = 0 := fun h h2 h3 => by unfold actK; rw [if_pos h, if_pos h2, if_neg h3]
  cases h1 : frmB o
  · have e := hA h1
    exact .inl ⟨rfl, e, by rw [e, if_neg (by omega)], by rw [e, if_neg (by omega)]⟩
  cases h2 : okF L o
  · have e := hB h1 h2
    exact .inr (.inl ⟨rfl, rfl, e, by rw [e, if_neg (by omega)], by rw [e, if_neg (by omega)]⟩)
  by_cases h3 : O.length = 200
  · have e := hC h1 h2 (.inl h3)
    exact .inr (.inr (.inl ⟨rfl, rfl, h3, e, by rw [e, if_neg (by omega)], by rw [e, if_neg (by omega)]⟩))
  cases h4 : filB (doF L o)
  · have e := hC h1 h2 (.inr h4)
    exact .inr (.inr (.inr (.inl ⟨rfl, rfl, h3, rfl, e, by rw [e, if_neg (by omega)], by rw [e, if_neg (by omega)]⟩)))
  · have e := hD h1 h2 (fun h => by rcases h with h | h; exact h3 h; rw [h4] at h; cases h)
    exact .inr (.inr (.inr (.inr ⟨rfl, rfl, h3, rfl, e, by rw [e, if_pos rfl], by rw [e, if_pos rfl]⟩)))
/-- What may be asked of what an op makes of right files. -/
theorem do_ok {L : List FI} {o : OP} (h : filB L = true) (h1 : o.n.size ≤ 2000000) (h2 : o.t.size ≤ 2000000) (h3 : o.d.size ≤ 1048576) : (doF L o).length ≤ 61 ∧ totL (doF L o) ≤ 4000000 ∧ Shrt (doF L o) ∧ RisF L ∧ totL L ≤ 200000 := by
  obtain ⟨ha, hb, hc⟩ := filB_true.1 h
  rw [totTo_all] at hc
  have := doF_len L o
  have := totL_do L o
  refine ⟨by omega, by omega, shrt_do (fun f hf => ?_) o (by omega) (by omega), risF_of L hb, hc⟩
  have := nmF_of h f hf
  unfold nmB at this
  rw [decide_eq_true_eq] at this
  omega
theorem rowO_snoc (O : List OP) (o : OP) : rowO (O ++ [o]) = rowO O ++ [.int .i64 o.k, .string o.n, .string o.t, .string o.d] := by
  induction O with
  | nil => rfl
  | cons p O ih => show rowO (p :: (O ++ [o])) = _; unfold rowO at *; simp only [List.flatMap_cons, List.flatMap_append, List.append_assoc] at *; first | rfl | simp

end Go.Proofs.Ytighhcdlgjaacaa

namespace Go.Proofs.Ytighhcdlgjaacaa
open Go.RowKit

/-- What a file is called while it is not yet the one that it replaces. -/
def dft (n : ByteArray) : ByteArray := n ++ ⟨#[46, 110, 101, 119]⟩
/-- The ops of a replacement. -/
def repO (L : List FI) (n d : ByteArray) : List OP := (if hasF L (dft n) = true then [⟨3, dft n, ⟨#[]⟩, ⟨#[]⟩⟩] else []) ++ [⟨1, dft n, ⟨#[]⟩, d⟩, ⟨2, dft n, n, ⟨#[]⟩⟩]
/-- Ops, one behind the other, until one cannot be done: its code, and the files and ops that it met. -/
def runR (L : List FI) (O : List OP) : List OP → Int × List FI × List OP
  | [] => (0, L, O)
  | o :: r => if actK L O o = 0 then runR (actL L O o) (actO L O o) r else (actK L O o, L, O)
theorem runR_go {L : List FI} {O : List OP} {o : OP} {r : List OP} (h : actK L O o = 0) : runR L O (o :: r) = runR (actL L O o) (actO L O o) r := by rw [runR, if_pos h]
theorem runR_no {L : List FI} {O : List OP} {o : OP} {r : List OP} (h : actK L O o ≠ 0) : runR L O (o :: r) = (actK L O o, L, O) := by rw [runR, if_neg h]
theorem act_fil {L : List FI} {O : List OP} {o : OP} (h : actK L O o = 0) : filB (actL L O o) = true := by
  rcases act_cases L O o with ⟨_, e, _⟩ | ⟨_, _, e, _⟩ | ⟨_, _, _, e, _⟩ | ⟨_, _, _, _, e, _⟩ | ⟨_, _, _, hf, _, e, _⟩
  · omega
  · omega
  · omega
  · omega
  · rw [e]; exact hf
theorem actO_len {L : List FI} {O : List OP} {o : OP} (h : actK L O o = 0) : (actO L O o).length = O.length + 1 := by
  unfold actO
  rw [if_pos h, List.length_append]
  rfl
theorem runR_ok : ∀ (r : List OP) (L : List FI) (O : List OP), filB L = true → filB (runR L O r).2.1 = true ∧ (runR L O r).2.2.length ≤ O.length + r.length
  | [], L, O, h => ⟨h, by simp [runR]⟩
  | o :: r, L, O, h => by
    by_cases hk : actK L O o = 0
    · rw [runR_go hk]
      have := runR_ok r (actL L O o) (actO L O o) (act_fil hk)
      rw [actO_len hk] at this
      refine ⟨this.1, ?_⟩
      have := this.2
      simp only [List.length_cons]
      omega
    · rw [runR_no hk]
      exact ⟨h, by simp⟩
theorem repO_len (L : List FI) (n d : ByteArray) : (repO L n d).length ≤ 3 := by
  unfold repO
  split <;> simp
theorem repO_sz (L : List FI) (n d : ByteArray) (hn : n.size ≤ 1048576) (hd : d.size ≤ 1048576) : ∀ o ∈ repO L n d, o.n.size ≤ 2000000 ∧ o.t.size ≤ 2000000 ∧ o.d.size ≤ 1048576 := by
  have h : (dft n).size ≤ 2000000 := by
    unfold dft
    rw [ByteArray.size_append]
    have : (ByteArray.mk #[46, 110, 101, 119]).size = 4 := rfl
    omega
  have h0 : (ByteArray.mk #[]).size = 0 := rfl
  intro o ho
  unfold repO at ho
  split at ho
  · simp only [List.singleton_append, List.mem_cons, List.not_mem_nil, or_false] at ho
    rcases ho with rfl | rfl | rfl <;> refine ⟨?_, ?_, ?_⟩ <;> simp only <;> omega
  · simp only [List.nil_append, List.mem_cons, List.not_mem_nil, or_false] at ho
    rcases ho with rfl | rfl <;> refine ⟨?_, ?_, ?_⟩ <;> simp only <;> omega
/-- What 'Replace' answers. -/
def rpK (L S : List FI) (O : List OP) (n d : ByteArray) : Int := if dskB L S O = true then (runR L O (repO L n d)).1 else 1
def rpL (L S : List FI) (O : List OP) (n d : ByteArray) : List FI := if dskB L S O = true then (if (runR L O (repO L n d)).1 = 0 then (runR L O (repO L n d)).2.1 else L) else []
def rpS (L S : List FI) (O : List OP) : List FI := if dskB L S O = true then S else []
def rpO (L S : List FI) (O : List OP) (n d : ByteArray) : List OP := if dskB L S O = true then (if (runR L O (repO L n d)).1 = 0 then (runR L O (repO L n d)).2.2 else O) else []

end Go.Proofs.Ytighhcdlgjaacaa
