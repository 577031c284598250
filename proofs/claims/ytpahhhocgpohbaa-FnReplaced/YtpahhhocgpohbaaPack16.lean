import Derived.Test.YtpahhhocgpohbaaPack1
import Derived.Test.YtpahhhocgpohbaaOpsMake
namespace Go.Proofs.Ytpahhhocgpohbaa
open Go.RowKit

/-- What 'Do' answers for a disk that is right. -/
def actK (L : List FI) (O : List OP) (o : OP) : Int := if frmB o = true then (if okF L o = true then (if O.length = 200 ∨ filB (doF L o) = false then 4 else 0) else 3) else 2
def actL (L : List FI) (O : List OP) (o : OP) : List FI := if actK L O o = 0 then doF L o else L
def actO (L : List FI) (O : List OP) (o : OP) : List OP := if actK L O o = 0 then O ++ [o] else O
theorem act_cases (L : List FI) (O : List OP) (o : OP) :
    (frmB o = false ∧ actK L O o = 2 ∧ actL L O o = L ∧ actO L O o = O) ∨
    (frmB o = true ∧ okF L o = false ∧ actK L O o = 3 ∧ actL L O o = L ∧ actO L O o = O) ∨
    (frmB o = true ∧ okF L o = true ∧ O.length = 200 ∧ actK L O o = 4 ∧ actL L O o = L ∧ actO L O o = O) ∨
    (frmB o = true ∧ okF L o = true ∧ O.length ≠ 200 ∧ filB (doF L o) = false ∧ actK L O o = 4 ∧ actL L O o = L ∧ actO L O o = O) ∨
    (frmB o = true ∧ okF L o = true ∧ O.length ≠ 200 ∧ filB (doF L o) = true ∧ actK L O o = 0 ∧ actL L O o = doF L o ∧ actO L O o = O ++ [o]) := by
  unfold actL actO
  have hA : frmB o = false → actK L O o = 2 := fun h => by unfold actK; rw [if_neg (by rw [h]; decide)]
  have hB : frmB o = true → okF L o = false → actK L O o = 3 := fun h h2 => by unfold actK; rw [if_pos h, if_neg (by rw [h2]; decide)]
  have hC : frmB o = true → okF L o = true → (O.length = 200 ∨ filB (doF L o) = false) → actK L O o = 4 := fun h h2 h3 => by unfold actK; rw [if_pos h, if_pos h2, if_pos h3]
  have hD : frmB o = true → okF L o = true → ¬ (O.length = 200 ∨ filB (doF L o) = false) → actK L O o = 0 := fun h h2 h3 => by unfold actK; rw [if_pos h, if_pos h2, if_neg h3]
  cases h1 : frmB o
  · have e := hA h1
    exact .inl ⟨rfl, e, by rw [e, if_neg (by omega)], by rw [e, if_neg (by omega)]⟩
  cases h2 : okF L o
  · have e := hB h1 h2
    exact .inr (.inl ⟨rfl, rfl, e, by rw [e, if_neg (by omega)], by rw [e, if_neg (by omega)]⟩)
  by_cases h3 : O.length = 200
  · have e := hC h1 h2 (.inl h3)
    exact .inr (.inr (.inl ⟨rfl, rfl, h3, e, by rw [e, if_neg (by omega)], by rw [e, if_neg (by omega)]⟩))
  cases h4 : filB (doF L o)
  · have e := hC h1 h2 (.inr h4)
    exact .inr (.inr (.inr (.inl ⟨rfl, rfl, h3, rfl, e, by rw [e, if_neg (by omega)], by rw [e, if_neg (by omega)]⟩)))
  · have e := hD h1 h2 (fun h => by rcases h with h | h; exact h3 h; rw [h4] at h; cases h)
    exact .inr (.inr (.inr (.inr ⟨rfl, rfl, h3, rfl, e, by rw [e, if_pos rfl], by rw [e, if_pos rfl]⟩)))
/-- What may be asked of what an op makes of right files. -/
theorem do_ok {L : List FI} {o : OP} (h : filB L = true) (h1 : o.n.size ≤ 2000000) (h2 : o.t.size ≤ 2000000) (h3 : o.d.size ≤ 1048576) : (doF L o).length ≤ 61 ∧ totL (doF L o) ≤ 4000000 ∧ Shrt (doF L o) ∧ RisF L ∧ totL L ≤ 200000 := by
  obtain ⟨ha, hb, hc⟩ := filB_true.1 h
  rw [totTo_all] at hc
  have := doF_len L o
  have := totL_do L o
  refine ⟨by omega, by omega, shrt_do (fun f hf => ?_) o (by omega) (by omega), risF_of L hb, hc⟩
  have := nmF_of h f hf
  unfold nmB at this
  rw [decide_eq_true_eq] at this
  omega
theorem rowO_snoc (O : List OP) (o : OP) : rowO (O ++ [o]) = rowO O ++ [.int .i64 o.k, .string o.n, .string o.t, .string o.d] := by
  induction O with
  | nil => rfl
  | cons p O ih => show rowO (p :: (O ++ [o])) = _; unfold rowO at *; simp only [List.flatMap_cons, List.flatMap_append, List.append_assoc] at *; first | rfl | simp

end Go.Proofs.Ytpahhhocgpohbaa

namespace Go.Proofs.Ytpahhhocgpohbaa
open Go.RowKit

/-- An op whose data is torn. -/
def torO (o : OP) (t : Nat) : OP := ⟨o.k, o.n, o.t, if t < o.d.size then o.d.extract 0 t else o.d⟩
/-- The op that is kept at a place. -/
def crO (O : List OP) (K : List Int) (kn t i : Nat) : OP := if i + 1 = kn then torO (O.getD (K.getD i 0).toNat op0) t else O.getD (K.getD i 0).toNat op0
/-- The files behind the first ops that are kept. -/
def crF (S : List FI) (O : List OP) (K : List Int) (kn t : Nat) : Nat → List FI
  | 0 => S
  | i + 1 => doF (crF S O K kn t i) (crO O K kn t i)
/-- Whether a crash is told. -/
def crB (L S : List FI) (O : List OP) (K : List Int) (t : Int) : Bool := dskB L S O && (decide (0 ≤ t) && (risTo K O.length K.length && filB (crF S O K K.length t.toNat K.length)))
def crL (L S : List FI) (O : List OP) (K : List Int) (t : Int) : List FI := if crB L S O K t = true then crF S O K K.length t.toNat K.length else []

theorem tot_parts (n : ByteArray) : ∀ F : List FI, totL (F.filter (fun f => ltT f.1 n)) + totL (F.filter (fun f => ltT n f.1)) + (datF F n).size ≤ totL F
  | [] => by show 0 + 0 + 0 ≤ 0; omega
  | f :: F => by
    have ih := tot_parts n F
    have h2 := totL_split (fun f => ltT f.1 n) (fun f => ltT n f.1) (fun f h => ltT_asym h) F
    by_cases e : f.1 = n
    · have e1 : datF (f :: F) n = f.2 := by unfold datF; rw [List.find?_cons_of_pos (by simp [e])]; rfl
      rw [e1, List.filter_cons_of_neg (by rw [e, ltT_irr]; simp), List.filter_cons_of_neg (by rw [e, ltT_irr]; simp), totL_cons]
      omega
    · have e1 : datF (f :: F) n = datF F n := by unfold datF; rw [List.find?_cons_of_neg (by simp [e])]
      rw [e1, totL_cons]
      cases h3 : ltT f.1 n
      · rw [List.filter_cons_of_neg (by rw [h3]; simp)]
        cases h4 : ltT n f.1
        · rw [List.filter_cons_of_neg (by rw [h4]; simp)]
          omega
        · rw [List.filter_cons_of_pos (by rw [h4]), totL_cons]
          omega
      · rw [List.filter_cons_of_pos (by rw [h3]), totL_cons, List.filter_cons_of_neg (by rw [ltT_asym h3]; simp)]
        omega
theorem tot_cut (n : ByteArray) : ∀ F : List FI, totL (cutF F n) + (datF F n).size ≤ totL F
  | [] => by show 0 + 0 ≤ 0; omega
  | f :: F => by
    have ih := tot_cut n F
    have h2 := totL_cut F n
    unfold cutF at ih h2 ⊢
    by_cases e : f.1 = n
    · have e1 : datF (f :: F) n = f.2 := by unfold datF; rw [List.find?_cons_of_pos (by simp [e])]; rfl
      rw [e1, List.filter_cons_of_neg (by simp [e]), totL_cons]
      omega
    · have e1 : datF (f :: F) n = datF F n := by unfold datF; rw [List.find?_cons_of_neg (by simp [e])]
      rw [e1, List.filter_cons_of_pos (by simp [e]), totL_cons, totL_cons]
      omega
/-- An op makes no more bytes than it brings. -/
theorem tot_do (F : List FI) (o : OP) : totL (doF F o) ≤ totL F + o.d.size := by
  unfold doF
  split
  · have := tot_parts o.n F
    have e : totL (putF F o.n (datF F o.n ++ o.d)) = totL (F.filter (fun f => ltT f.1 o.n)) + ((datF F o.n ++ o.d).size + totL (F.filter (fun f => ltT o.n f.1))) := by
      unfold putF
      rw [totL_app, totL_cons]
    rw [e, ByteArray.size_append]
    omega
  · split
    · split
      · have h1 := tot_cut o.n F
        have h2 := totL_put (cutF F o.n) o.t (datF F o.n)
        omega
      · have := totL_cut F o.n
        omega
    · omega

theorem frm_data {o : OP} (h : frmB o = true) : o.k ≠ 1 → o.d = ⟨#[]⟩ := fun hk => by
  unfold frmB at h
  rw [Bool.and_eq_true, Bool.and_eq_true] at h
  have h2 := h.2.2
  split at h2
  · rw [Bool.and_eq_true] at h2
    exact of_decide_eq_true h2.2
  · rw [Bool.and_eq_true, Bool.or_eq_true] at h2
    rcases h2.2 with h3 | h3
    · exact absurd (of_decide_eq_true h3) hk
    · exact of_decide_eq_true h3
theorem frm_tor {o : OP} (h : frmB o = true) (t : Nat) : frmB (torO o t) = true := by
  by_cases hk : o.k = 1
  · unfold frmB at h ⊢
    unfold torO
    simp only [hk] at h ⊢
    simpa using h
  · have hd := frm_data h hk
    have : torO o t = o := by
      unfold torO
      rw [if_neg (by rw [hd]; show ¬ t < 0; omega)]
    rw [this]
    exact h
theorem run_frm {S : List FI} {O : List OP} : ∀ (k : Nat) {F : List FI}, runF S O k = some F → ∀ j, j < k → frmB (O.getD j op0) = true
  | 0, _, _, j, hj => by omega
  | k + 1, F, h, j, hj => by
    rw [runF] at h
    cases hr : runF S O k with
    | none => rw [hr] at h; cases h
    | some G =>
      rw [hr] at h
      simp only at h
      by_cases e : j = k
      · subst e
        cases hf : frmB (O.getD j op0)
        · rw [hf] at h
          simp at h
        · rfl
      · exact run_frm k hr j (by omega)
theorem dsk_frm {L S : List FI} {O : List OP} (h : dskB L S O = true) : ∀ j, j < O.length → frmB (O.getD j op0) = true := by
  unfold dskB at h
  rw [Bool.and_eq_true, Bool.and_eq_true, Bool.and_eq_true] at h
  have h2 := h.2.2.2
  cases hr : runF S O O.length with
  | none => rw [hr] at h2; cases h2
  | some F => exact run_frm _ hr
theorem ris_at {K : List Int} {b : Int} : ∀ (m : Nat), risTo K b m = true → ∀ i, i < m → (i : Int) ≤ K.getD i 0 ∧ K.getD i 0 < b
  | 0, _, i, hi => by omega
  | m + 1, h, i, hi => by
    rw [risTo, Bool.and_eq_true] at h
    by_cases e : i = m
    · subst e
      have h2 := h.2
      unfold risS at h2
      rw [decide_eq_true_eq] at h2
      unfold prvK at h2
      by_cases h0 : i = 0
      · subst h0
        rw [if_pos rfl] at h2
        exact ⟨by omega, h2.2⟩
      · rw [if_neg h0] at h2
        have := ris_at i h.1 (i - 1) (by omega)
        exact ⟨by omega, h2.2⟩
    · exact ris_at m h.1 i (by omega)
theorem ris_len {K : List Int} {b m : Nat} (h : risTo K b m = true) : m ≤ b := by
  rcases Nat.eq_zero_or_pos m with e | e
  · omega
  · have := ris_at m h (m - 1) (by omega)
    omega
/-- What is known of ops that are kept. -/
structure OpK (o : OP) : Prop where
  f : frmB o = true
  n : o.n.size ≤ 1048576
  t : o.t.size ≤ 1048576
  d : o.d.size ≤ 1048576
theorem opK_tor {o : OP} (h : OpK o) (t : Nat) : OpK (torO o t) := by
  refine ⟨frm_tor h.f t, h.n, h.t, ?_⟩
  have := h.d
  unfold torO
  simp only
  split
  · rw [ByteArray.size_extract]; omega
  · exact h.d
theorem crO_ok {L S : List FI} {O : List OP} {K : List Int} {kn t i : Nat} (hd : dskB L S O = true) (hO : OOk O) (hr : risTo K O.length kn = true) (hi : i < kn) : OpK (crO O K kn t i) ∧ OpK (O.getD (K.getD i 0).toNat op0) := by
  have h := ris_at kn hr i hi
  have hj : (K.getD i 0).toNat < O.length := by omega
  obtain ⟨h1, h2, h3⟩ := hO _ hj
  have h0 : OpK (O.getD (K.getD i 0).toNat op0) := ⟨dsk_frm hd _ hj, h1, h2, h3⟩
  refine ⟨?_, h0⟩
  unfold crO
  split
  · exact opK_tor h0 t
  · exact h0
/-- What is known of files on the way. -/
structure CrK (F : List FI) (i : Nat) : Prop where
  n : NmF F
  r : RisF F
  l : F.length ≤ 60 + i
  t : totL F ≤ 200000 + i * 1048576
theorem CrK.shrt {F : List FI} {i : Nat} (h : CrK F i) : Shrt F := fun f hf => by
  have := h.n f hf
  unfold nmB at this
  rw [decide_eq_true_eq] at this
  omega
theorem crF_ok {L S : List FI} {O : List OP} {K : List Int} {kn t : Nat} (hd : dskB L S O = true) (hS : filB S = true) (hO : OOk O) (hr : risTo K O.length kn = true) : ∀ i, i ≤ kn → CrK (crF S O K kn t i) i
  | 0, _ => by
    obtain ⟨a, b, c⟩ := filB_true.1 hS
    exact ⟨nmF_of hS, risF_of S b, by rw [crF]; omega, by rw [crF, ← totTo_all]; omega⟩
  | i + 1, hi => by
    have ih := crF_ok (t := t) hd hS hO hr i (by omega)
    have ho := (crO_ok (t := t) hd hO hr (show i < kn by omega)).1
    rw [crF]
    have h1 := tot_do (crF S O K kn t i) (crO O K kn t i)
    have h2 := doF_len (crF S O K kn t i) (crO O K kn t i)
    have h3 := ih.l
    have h4 := ih.t
    have h5 := ho.d
    exact ⟨nmF_do ih.n ho.f, risF_do ih.r _, by omega, by omega⟩
theorem CrK.fit {F : List FI} {i : Nat} (h : CrK F i) : filB F = (decide (F.length ≤ 60) && decide (totL F ≤ 200000)) := filB_fit h.n h.r

end Go.Proofs.Ytpahhhocgpohbaa

namespace Go.Proofs.Ytpahhhocgpohbaa
open Go.RowKit

/-- What a file is called while it is not yet the one that it replaces. -/
def dft (n : ByteArray) : ByteArray := n ++ ⟨#[46, 110, 101, 119]⟩
/-- The ops of a replacement. -/
def repO (L : List FI) (n d : ByteArray) : List OP := (if hasF L (dft n) = true then [⟨3, dft n, ⟨#[]⟩, ⟨#[]⟩⟩] else []) ++ [⟨1, dft n, ⟨#[]⟩, d⟩, ⟨2, dft n, n, ⟨#[]⟩⟩]
/-- Ops, one behind the other, until one cannot be done: its code, and the files and ops that it met. -/
def runR (L : List FI) (O : List OP) : List OP → Int × List FI × List OP
  | [] => (0, L, O)
  | o :: r => if actK L O o = 0 then runR (actL L O o) (actO L O o) r else (actK L O o, L, O)
theorem runR_go {L : List FI} {O : List OP} {o : OP} {r : List OP} (h : actK L O o = 0) : runR L O (o :: r) = runR (actL L O o) (actO L O o) r := by rw [runR, if_pos h]
theorem runR_no {L : List FI} {O : List OP} {o : OP} {r : List OP} (h : actK L O o ≠ 0) : runR L O (o :: r) = (actK L O o, L, O) := by rw [runR, if_neg h]
theorem act_fil {L : List FI} {O : List OP} {o : OP} (h : actK L O o = 0) : filB (actL L O o) = true := by
  rcases act_cases L O o with ⟨_, e, _⟩ | ⟨_, _, e, _⟩ | ⟨_, _, _, e, _⟩ | ⟨_, _, _, _, e, _⟩ | ⟨_, _, _, hf, _, e, _⟩
  · omega
  · omega
  · omega
  · omega
  · rw [e]; exact hf
theorem actO_len {L : List FI} {O : List OP} {o : OP} (h : actK L O o = 0) : (actO L O o).length = O.length + 1 := by
  unfold actO
  rw [if_pos h, List.length_append]
  rfl
theorem runR_ok : ∀ (r : List OP) (L : List FI) (O : List OP), filB L = true → filB (runR L O r).2.1 = true ∧ (runR L O r).2.2.length ≤ O.length + r.length
  | [], L, O, h => ⟨h, by simp [runR]⟩
  | o :: r, L, O, h => by
    by_cases hk : actK L O o = 0
    · rw [runR_go hk]
      have := runR_ok r (actL L O o) (actO L O o) (act_fil hk)
      rw [actO_len hk] at this
      refine ⟨this.1, ?_⟩
      have := this.2
      simp only [List.length_cons]
      omega
    · rw [runR_no hk]
      exact ⟨h, by simp⟩
theorem repO_len (L : List FI) (n d : ByteArray) : (repO L n d).length ≤ 3 := by
  unfold repO
  split <;> simp
theorem repO_sz (L : List FI) (n d : ByteArray) (hn : n.size ≤ 1048576) (hd : d.size ≤ 1048576) : ∀ o ∈ repO L n d, o.n.size ≤ 2000000 ∧ o.t.size ≤ 2000000 ∧ o.d.size ≤ 1048576 := by
  have h : (dft n).size ≤ 2000000 := by
    unfold dft
    rw [ByteArray.size_append]
    have : (ByteArray.mk #[46, 110, 101, 119]).size = 4 := rfl
    omega
  have h0 : (ByteArray.mk #[]).size = 0 := rfl
  intro o ho
  unfold repO at ho
  split at ho
  · simp only [List.singleton_append, List.mem_cons, List.not_mem_nil, or_false] at ho
    rcases ho with rfl | rfl | rfl <;> refine ⟨?_, ?_, ?_⟩ <;> simp only <;> omega
  · simp only [List.nil_append, List.mem_cons, List.not_mem_nil, or_false] at ho
    rcases ho with rfl | rfl <;> refine ⟨?_, ?_, ?_⟩ <;> simp only <;> omega
/-- What 'Replace' answers. -/
def rpK (L S : List FI) (O : List OP) (n d : ByteArray) : Int := if dskB L S O = true then (runR L O (repO L n d)).1 else 1
def rpL (L S : List FI) (O : List OP) (n d : ByteArray) : List FI := if dskB L S O = true then (if (runR L O (repO L n d)).1 = 0 then (runR L O (repO L n d)).2.1 else L) else []
def rpS (L S : List FI) (O : List OP) : List FI := if dskB L S O = true then S else []
def rpO (L S : List FI) (O : List OP) (n d : ByteArray) : List OP := if dskB L S O = true then (if (runR L O (repO L n d)).1 = 0 then (runR L O (repO L n d)).2.2 else O) else []

end Go.Proofs.Ytpahhhocgpohbaa
