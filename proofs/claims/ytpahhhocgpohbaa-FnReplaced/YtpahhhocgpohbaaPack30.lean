import Derived.Test.YtpahhhocgpohbaaPack25
import Derived.Test.YtpahhhocgpohbaaImplCrash12
namespace Go.Proofs.Ytpahhhocgpohbaa
open Go.RowKit

/-- 0, 1, .. -/
def idL (n : Nat) : List Int := (List.range n).map fun (i : Nat) => (i : Int)
theorem idL_len (n : Nat) : (idL n).length = n := by simp [idL]
theorem idL_succ (n : Nat) : idL (n + 1) = idL n ++ [(n : Int)] := by simp [idL, List.range_succ]
theorem idL_at {n i : Nat} (h : i < n) : (idL n).getD i 0 = i := by simp [idL, List.getD_eq_getElem?_getD, h]
theorem ris_id (n b : Nat) (h : n ≤ b) : ∀ k, k ≤ n → risTo (idL n) b k = true
  | 0, _ => rfl
  | k + 1, hk => by
    rw [risTo, ris_id n b h k (by omega)]
    have h1 := idL_at (n := n) (i := k) (by omega)
    unfold risS prvK
    rw [h1]
    by_cases h0 : k = 0
    · subst h0
      simp
      omega
    · rw [if_neg h0, idL_at (by omega)]
      simp
      omega
theorem run_some {S L : List FI} {O : List OP} (h : runF S O O.length = some L) {k : Nat} (hk : k ≤ O.length) : ∃ F, runF S O k = some F := by
  cases hr : runF S O k with
  | some F => exact ⟨F, rfl⟩
  | none =>
    have := runF_no hr (O.length - k)
    rw [show k + (O.length - k) = O.length by omega, h] at this
    cases this
theorem cr_run {S L : List FI} {O : List OP} {t : Nat} (h : runF S O O.length = some L) (hO : OOk O) (ht : 1048576 ≤ t) : ∀ i, i ≤ O.length → runF S O i = some (crF S O (idL O.length) O.length t i)
  | 0, _ => rfl
  | i + 1, hi => by
    obtain ⟨F, hF⟩ := run_some h hi
    obtain ⟨G, hG, hFG, _⟩ := runF_some hF
    rw [cr_run h hO ht i (by omega)] at hG
    injection hG with hG
    rw [hF, crF, hFG, ← hG]
    have hid := idL_at (n := O.length) (i := i) (by omega)
    have : crO O (idL O.length) O.length t i = O.getD i op0 := by
      unfold crO
      rw [hid]
      show (if i + 1 = O.length then torO (O.getD i op0) t else O.getD i op0) = _
      split
      · have := (hO i (by omega)).2.2
        unfold torO
        rw [if_neg (by omega)]
      · rfl
    rw [this]
/-- All ops are kept, whole. -/
theorem crash_all {L S : List FI} {O : List OP} (h : dskB L S O = true) (hO : OOk O) : crB L S O (idL O.length) 1099511627776 = true ∧ crL L S O (idL O.length) 1099511627776 = L := by
  have hr := dsk_run h
  have h1 := cr_run hr hO (t := (1099511627776 : Int).toNat) (by decide) O.length (Nat.le_refl _)
  rw [hr] at h1
  injection h1 with h1
  have hb : crB L S O (idL O.length) 1099511627776 = true := by
    unfold crB
    rw [h, idL_len, ← h1, (dsk_parts h).1, ris_id _ _ (Nat.le_refl _) _ (Nat.le_refl _)]
    rfl
  exact ⟨hb, by rw [crL_yes hb, idL_len, ← h1]⟩
/-- None is kept. -/
theorem crash_none {L S : List FI} {O : List OP} (h : dskB L S O = true) : crB L S O [] 0 = true ∧ crL L S O [] 0 = S := by
  have hb : crB L S O [] 0 = true := by
    unfold crB
    rw [h]
    show (true && (decide ((0 : Int) ≤ 0) && (true && filB S))) = true
    rw [(dsk_parts h).2.1]
    rfl
  exact ⟨hb, by rw [crL_yes hb]; rfl⟩
theorem crash_no {L S : List FI} {O : List OP} {K : List Int} {t : Int} (h : dskB L S O = false) : crB L S O K t = false ∧ crL L S O K t = [] := by
  have hb : crB L S O K t = false := by unfold crB; rw [h]; rfl
  exact ⟨hb, crL_no hb⟩

end Go.Proofs.Ytpahhhocgpohbaa

namespace Go.Proofs.Ytpahhhocgpohbaa
open Go.RowKit

theorem dft_ne (n : ByteArray) : n ≠ dft n := fun h => by
  have h1 : n.size = (dft n).size := congrArg ByteArray.size h
  unfold dft at h1
  rw [ByteArray.size_append] at h1
  have : (ByteArray.mk #[46, 110, 101, 119]).size = 4 := rfl
  omega
abbrev rO1 (n d : ByteArray) : OP := ⟨1, dft n, ⟨#[]⟩, d⟩
abbrev rO2 (n : ByteArray) : OP := ⟨2, dft n, n, ⟨#[]⟩⟩
/-- What a replacement makes. -/
def rXL (L : List FI) (n d : ByteArray) : List FI := doF (doF L (rO1 n d)) (rO2 n)
theorem rep_parts {L : List FI} {n d : ByteArray} (hL : dskB L L [] = true) (hf : hasF L (dft n) = false) (h0 : rpK L L [] n d = 0) :
    (actK L [] (rO1 n d) = 0 ∧ actK (doF L (rO1 n d)) [rO1 n d] (rO2 n) = 0) ∧ rpL L L [] n d = rXL L n d ∧ rpO L L [] n d = [rO1 n d, rO2 n] ∧ rpS L L [] = L := by
  have hr : repO L n d = [rO1 n d, rO2 n] := by unfold repO; rw [hf]; rfl
  have e0 : rpK L L [] n d = (runR L [] [rO1 n d, rO2 n]).1 := by unfold rpK; rw [if_pos hL, hr]
  have e1 : rpL L L [] n d = (if (runR L [] [rO1 n d, rO2 n]).1 = 0 then (runR L [] [rO1 n d, rO2 n]).2.1 else L) := by unfold rpL; rw [if_pos hL, hr]
  have e2 : rpO L L [] n d = (if (runR L [] [rO1 n d, rO2 n]).1 = 0 then (runR L [] [rO1 n d, rO2 n]).2.2 else []) := by unfold rpO; rw [if_pos hL, hr]
  have e3 : rpS L L [] = L := by unfold rpS; rw [if_pos hL]
  rw [e0] at h0
  rw [e1, e2, e3, if_pos h0, if_pos h0]
  by_cases k1 : actK L [] (rO1 n d) = 0
  · have a1 : actL L [] (rO1 n d) = doF L (rO1 n d) := by unfold actL; rw [if_pos k1]
    have a2 : actO L [] (rO1 n d) = [rO1 n d] := by unfold actO; rw [if_pos k1]; rfl
    rw [runR_go k1, a1, a2] at h0 ⊢
    by_cases k2 : actK (doF L (rO1 n d)) [rO1 n d] (rO2 n) = 0
    · have b1 : actL (doF L (rO1 n d)) [rO1 n d] (rO2 n) = rXL L n d := by unfold actL; rw [if_pos k2]; rfl
      have b2 : actO (doF L (rO1 n d)) [rO1 n d] (rO2 n) = [rO1 n d, rO2 n] := by unfold actO; rw [if_pos k2]; rfl
      rw [runR_go k2, b1, b2]
      exact ⟨⟨k1, k2⟩, rfl, rfl, rfl⟩
    · rw [runR_no k2] at h0
      exact absurd h0 k2
  · rw [runR_no k1] at h0
    exact absurd h0 k1
theorem rep_right {L : List FI} {n d : ByteArray} (hL : dskB L L [] = true) (k1 : actK L [] (rO1 n d) = 0) (k2 : actK (doF L (rO1 n d)) [rO1 n d] (rO2 n) = 0) : dskB (rXL L n d) L [rO1 n d, rO2 n] = true := by
  have a1 : actL L [] (rO1 n d) = doF L (rO1 n d) := by unfold actL; rw [if_pos k1]
  have a2 : actO L [] (rO1 n d) = [rO1 n d] := by unfold actO; rw [if_pos k1]; rfl
  have h1 := dsk_act hL k1
  rw [a1, a2] at h1
  have h2 := dsk_act h1 k2
  have b1 : actL (doF L (rO1 n d)) [rO1 n d] (rO2 n) = rXL L n d := by unfold actL; rw [if_pos k2]; rfl
  have b2 : actO (doF L (rO1 n d)) [rO1 n d] (rO2 n) = [rO1 n d, rO2 n] := by unfold actO; rw [if_pos k2]; rfl
  rw [b1, b2] at h2
  exact h2
theorem dat_none {L : List FI} {m : ByteArray} (h : hasF L m = false) : fndF L m = none ∧ datF L m = ⟨#[]⟩ := by
  rw [has_fnd] at h
  cases hf : fndF L m with
  | some f => rw [hf] at h; cases h
  | none => exact ⟨rfl, by rw [dat_fnd, hf]; rfl⟩
theorem emp_app (d : ByteArray) : (⟨#[]⟩ : ByteArray) ++ d = d := by
  apply ByteArray.ext
  simp
/-- The new file. -/
theorem rep_new {L : List FI} {n d : ByteArray} (hf : hasF L (dft n) = false) : fndF (rXL L n d) n = some (n, d) := by
  have hh : hasF (doF L (rO1 n d)) (dft n) = true := by rw [has_fnd, fnd_do1, if_pos rfl]; rfl
  unfold rXL
  rw [fnd_do2 _ _ _ _ _ hh, if_pos rfl, dat_fnd, fnd_do1, if_pos rfl]
  show some (n, datF L (dft n) ++ d) = _
  rw [(dat_none hf).2, emp_app]
theorem torO_no2 {k : Int} {n t d : ByteArray} {x : Nat} (h : ¬ x < d.size) : torO ⟨k, n, t, d⟩ x = ⟨k, n, t, d⟩ := by
  unfold torO
  simp only
  rw [if_neg h]
def KSet (K : List Int) : Prop := K = [] ∨ K = [0] ∨ K = [1] ∨ K = [0, 1]
theorem put_len (F : List FI) (n d e : ByteArray) : (putF F n d).length = (putF F n e).length := by unfold putF; simp
theorem tot_put (F : List FI) (n d e : ByteArray) (h : d.size ≤ e.size) : totL (putF F n d) ≤ totL (putF F n e) := by
  unfold putF
  rw [totL_app, totL_app, totL_cons, totL_cons]
  show _ + (d.size + _) ≤ _ + (e.size + _)
  omega
theorem tor_put {L : List FI} {n d : ByteArray} {t : Nat} (hd : filB L = true) (hfr : frmB (rO1 n d) = true) (h : filB (doF L (rO1 n d)) = true) : filB (doF L (torO (rO1 n d) t)) = true := by
  have e1 : doF L (rO1 n d) = putF L (dft n) (datF L (dft n) ++ d) := by unfold doF; rw [if_pos rfl]
  have e2 : doF L (torO (rO1 n d) t) = putF L (dft n) (datF L (dft n) ++ (if t < d.size then d.extract 0 t else d)) := by unfold doF torO; rw [if_pos rfl]
  have hr := risF_of L (filB_true.1 hd).2.1
  have hn := nmF_of hd
  rw [filB_fit (nmF_do hn (frm_tor hfr t)) (risF_do hr _)]
  rw [filB_fit (nmF_do hn hfr) (risF_do hr _)] at h
  rw [Bool.and_eq_true, decide_eq_true_eq, decide_eq_true_eq] at h ⊢
  rw [e1] at h
  rw [e2]
  refine ⟨by rw [put_len _ _ _ (datF L (dft n) ++ d)]; exact h.1, Nat.le_trans (tot_put _ _ _ _ ?_) h.2⟩
  rw [ByteArray.size_append, ByteArray.size_append]
  split
  · rw [ByteArray.size_extract]; omega
  · omega
/-- Behind any loss of power the file is the old one or the new one. -/
theorem crash_rep {L : List FI} {n d : ByteArray} (hL : dskB L L [] = true) (hf : hasF L (dft n) = false) (k1 : actK L [] (rO1 n d) = 0) (k2 : actK (doF L (rO1 n d)) [rO1 n d] (rO2 n) = 0) {K : List Int} (hK : KSet K) (t : Nat) :
    ∃ F, crB (rXL L n d) L [rO1 n d, rO2 n] K t = true ∧ crL (rXL L n d) L [rO1 n d, rO2 n] K t = F ∧ filB F = true ∧ (fndF F n = fndF L n ∨ fndF F n = some (n, d)) := by
  have hd := rep_right hL k1 k2
  have hl := (dsk_parts hL).1
  have main : ∀ F, risTo K 2 K.length = true → crF L [rO1 n d, rO2 n] K K.length t K.length = F → filB F = true → crB (rXL L n d) L [rO1 n d, rO2 n] K t = true ∧ crL (rXL L n d) L [rO1 n d, rO2 n] K t = F := fun F h1 h2 h3 => by
    have hb : crB (rXL L n d) L [rO1 n d, rO2 n] K t = true := by
      unfold crB
      show (dskB _ _ _ && (decide ((0 : Int) ≤ t) && (risTo K (2 : Int) K.length && filB (crF L [rO1 n d, rO2 n] K K.length t K.length)))) = true
      rw [hd, h1, h2, h3, decide_eq_true (by omega)]
      rfl
    exact ⟨hb, by rw [crL_yes hb]; exact h2⟩
  have ht2 : torO (rO2 n) t = rO2 n := torO_no2 (by show ¬ t < 0; omega)
  have hno : doF L (rO2 n) = L := by
    unfold doF
    rw [if_neg (by show ¬ (2 : Int) = 1; decide), hf]
    rfl
  rcases hK with rfl | rfl | rfl | rfl
  · obtain ⟨a, b⟩ := main L rfl rfl hl
    exact ⟨L, a, b, hl, .inl rfl⟩
  · have hfl := tor_put (t := t) hl (act_zero k1).1 (act_zero k1).2.2.2
    obtain ⟨a, b⟩ := main (doF L (torO (rO1 n d) t)) rfl rfl hfl
    refine ⟨_, a, b, hfl, .inl ?_⟩
    show fndF (doF L ⟨1, dft n, ⟨#[]⟩, _⟩) n = _
    rw [fnd_do1, if_neg (dft_ne n)]
  · obtain ⟨a, b⟩ := main L rfl (by show doF L (torO (rO2 n) t) = L; rw [ht2, hno]) hl
    exact ⟨L, a, b, hl, .inl rfl⟩
  · have hfx := (act_zero k2).2.2.2
    obtain ⟨a, b⟩ := main (rXL L n d) rfl (by show doF (doF L (rO1 n d)) (torO (rO2 n) t) = _; rw [ht2]; rfl) hfx
    exact ⟨_, a, b, hfx, .inr (rep_new hf)⟩

end Go.Proofs.Ytpahhhocgpohbaa
