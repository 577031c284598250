import Derived.Test.YtpahhhocgpohbaaPack25
import Derived.Test.YtpahhhocgpohbaaImplCrash12
namespace Go.Proofs.Ytpahhhocgpohbaa
open Go.RowKit

/-- 0, 1, .. -/
def idL (n : Nat) : List Int := (List.range n).map fun (i : Nat) => (i : Int)
theorem idL_len (n : Nat) : (idL n).length = n := by simp [idL]
theorem idL_succ (n : Nat) : idL (n + 1) = idL n ++ [(n : Int)] := by simp [idL, List.range_succ]
theorem idL_at {n i : Nat} (h : i < n) : (idL n).getD i 0 = i := by simp [idL, List.getD_eq_getElem?_getD, h]
theorem ris_id (n b : Nat) (h : n ≤ b) : ∀ k, k ≤ n → risTo (idL n) b k = true
  | 0, _ => rfl
  | k + 1, hk => by
    rw [risTo, ris_id n b h k (by omega)]
    have h1 := idL_at (n := n) (i := k) (by omega)
    unfold risS prvK
    rw [h1]
    by_cases h0 : k = 0
    · subst h0
      simp
      omega
    · rw [if_neg h0, idL_at (by omega)]
      simp
      omega
theorem run_some {S L : List FI} {O : List OP} (h : runF S O O.length = some L) {k : Nat} (hk : k ≤ O.length) : ∃ F, runF S O k = some F := by
  cases hr : runF S O k with
  | some F => exact ⟨F, rfl⟩
  | none =>
    have := runF_no hr (O.length - k)
    rw [show k + (O.length - k) = O.length by omega, h] at this
    cases this
theorem cr_run {S L : List FI} {O : List OP} {t : Nat} (h : runF S O O.length = some L) (hO : OOk O) (ht : 1048576 ≤ t) : ∀ i, i ≤ O.length → runF S O i = some (crF S O (idL O.length) O.length t i)
  | 0, _ => rfl
  | i + 1, hi => by
    obtain ⟨F, hF⟩ := run_some h hi
    obtain ⟨G, hG, hFG, _⟩ := runF_some hF
    rw [cr_run h hO ht i (by omega)] at hG
    injection hG with hG
    rw [hF, crF, hFG, ← hG]
    have hid := idL_at (n := O.length) (i := i) (by omega)
    have : crO O (idL O.length) O.length t i = O.getD i op0 := by
      unfold crO
      rw [hid]
      show (if i + 1 = O.length then torO (O.getD i op0) t else O.getD i op0) = _
      split
      · have := (hO i (by omega)).2.2
        unfold torO
        rw [if_neg (by omega)]
      · rfl
    rw [this]
/-- All ops are kept, whole. -/
theorem crash_all {L S : List FI} {O : List OP} (h : dskB L S O = true) (hO : OOk O) : crB L S O (idL O.length) 1099511627776 = true ∧ crL L S O (idL O.length) 1099511627776 = L := by
  have hr := dsk_run h
  have h1 := cr_run hr hO (t := (1099511627776 : Int).toNat) (by decide) O.length (Nat.le_refl _)
  rw [hr] at h1
  injection h1 with h1
  have hb : crB L S O (idL O.length) 1099511627776 = true := by
    unfold crB
    rw [h, idL_len, ← h1, (dsk_parts h).1, ris_id _ _ (Nat.le_refl _) _ (Nat.le_refl _)]
    rfl
  exact ⟨hb, by rw [crL_yes hb, idL_len, ← h1]⟩
/-- None is kept. -/
theorem crash_none {L S : List FI} {O : List OP} (h : dskB L S O = true) : crB L S O [] 0 = true ∧ crL L S O [] 0 = S := by
  have hb : crB L S O [] 0 = true := by
    unfold crB
    rw [h]
    show (true && (decide ((0 : Int) ≤ 0) && (true && filB S))) = true
    rw [(dsk_parts h).2.1]
    rfl
  exact ⟨hb, by rw [crL_yes hb]; rfl⟩
theorem crash_no {L S : List FI} {O : List OP} {K : List Int} {t : Int} (h : dskB L S O = false) : crB L S O K t = false ∧ crL L S O K t = [] := by
  have hb : crB L S O K t = false := by unfold crB; rw [h]; rfl
  exact ⟨hb, crL_no hb⟩

end Go.Proofs.Ytpahhhocgpohbaa
