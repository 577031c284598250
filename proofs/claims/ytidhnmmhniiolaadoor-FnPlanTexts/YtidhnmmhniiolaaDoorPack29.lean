import Derived.Test.YtidhnmmhniiolaaDoorPack0
import Derived.Test.YtidhnmmhniiolaaDoorPack1
import Derived.Test.YtidhnmmhniiolaaDoorPack2
import Derived.Test.YtidhnmmhniiolaaDoorPack8
namespace Go.Proofs.YtidhnmmhniiolaaDoor
open Go.RowKit

def idsTo (ids : List Int) (k : Nat) : Bool := (ids.take k).all fun x => inB x 1 1000000000
/-- Numbers that may be those of orders. -/
def idsB (ids : List Int) : Bool := decide (ids.length ≤ 12) && idsTo ids ids.length
theorem idsTo_zero (ids : List Int) : idsTo ids 0 = true := by simp [idsTo]
theorem idsTo_succ (ids : List Int) (k : Nat) (h : k < ids.length) : idsTo ids (k + 1) = (idsTo ids k && inB (ids.getD k 0) 1 1000000000) := by
  unfold idsTo
  rw [take_snoc ids k h, List.all_append]
  simp
theorem idsB_bad {ids : List Int} {k : Nat} (h : k < ids.length) (hb : inB (ids.getD k 0) 1 1000000000 = false) : idsB ids = false := by
  unfold idsB idsTo
  rw [List.take_length]
  rw [Bool.and_eq_false_iff]
  right
  rw [List.all_eq_false]
  refine ⟨ids.getD k 0, ?_, by rw [hb]; simp⟩
  rw [List.getD_eq_getElem?_getD, List.getElem?_eq_getElem h]
  simp
theorem idsB_small {ids : List Int} (h : idsB ids = true) : ids.length ≤ 12 ∧ Small ids := by
  unfold idsB idsTo at h
  rw [List.take_length] at h
  simp only [Bool.and_eq_true, decide_eq_true_eq, List.all_eq_true] at h
  refine ⟨h.1, fun x hx => ?_⟩
  have := h.2 x hx
  unfold inB at this
  simp at this
  omega
def rtsTo (R : List RT) (k : Nat) : Bool := (R.take k).all fun r => inB r.v 1 1000000000 && idsB r.ids
/-- Can a plan be written? -/
def formB (R : List RT) (L : List Int) : Bool := decide (R.length ≤ 5) && idsB L && rtsTo R R.length
theorem rtsTo_zero (R : List RT) : rtsTo R 0 = true := by simp [rtsTo]
theorem rtsTo_succ (R : List RT) (k : Nat) (h : k < R.length) : rtsTo R (k + 1) = (rtsTo R k && (inB (R.getD k rt0).v 1 1000000000 && idsB (R.getD k rt0).ids)) := by
  unfold rtsTo
  have e : R.take (k + 1) = R.take k ++ [R.getD k rt0] := by
    rw [List.take_add_one, List.getD_eq_getElem?_getD, List.getElem?_eq_getElem h]
    simp
  rw [e, List.all_append]
  simp
theorem formB_bad {R : List RT} {L : List Int} {k : Nat} (h : k < R.length) (hb : (inB (R.getD k rt0).v 1 1000000000 && idsB (R.getD k rt0).ids) = false) : formB R L = false := by
  unfold formB rtsTo
  rw [List.take_length, Bool.and_eq_false_iff]
  right
  rw [List.all_eq_false]
  refine ⟨R.getD k rt0, ?_, by rw [hb]; simp⟩
  rw [List.getD_eq_getElem?_getD, List.getElem?_eq_getElem h]
  simp
theorem formB_parts {R : List RT} {L : List Int} (h : formB R L = true) : R.length ≤ 5 ∧ idsB L = true ∧ ∀ k, k < R.length → inB (R.getD k rt0).v 1 1000000000 = true ∧ idsB (R.getD k rt0).ids = true := by
  unfold formB rtsTo at h
  rw [List.take_length] at h
  simp only [Bool.and_eq_true, decide_eq_true_eq, List.all_eq_true] at h
  refine ⟨h.1.1, h.1.2, fun k hk => ?_⟩
  have hm : R.getD k rt0 ∈ R := by rw [List.getD_eq_getElem?_getD, List.getElem?_eq_getElem hk]; simp
  exact h.2 _ hm
theorem formB_is {R : List RT} {L : List Int} (h1 : R.length ≤ 5) (h2 : idsB L = true) (h3 : rtsTo R R.length = true) : formB R L = true := by
  unfold formB
  rw [h2, h3]
  simp [h1]
theorem formB_many {R : List RT} {L : List Int} (h1 : ¬ R.length ≤ 5) : formB R L = false := by
  unfold formB
  simp only [h1, decide_false, Bool.false_and]
theorem formB_left {R : List RT} {L : List Int} (h1 : idsB L = false) : formB R L = false := by
  unfold formB
  rw [h1]
  simp
theorem formB_key {R S : List RT} (L : List Int) (h : S.map RT.key = R.map RT.key) : formB S L = formB R L := by
  have hl : S.length = R.length := by have := congrArg List.length h; simpa using this
  have : ∀ T : List RT, T.all (fun r => inB r.v 1 1000000000 && idsB r.ids) = (T.map RT.key).all (fun q => inB q.1 1 1000000000 && idsB q.2) := fun T => by
    rw [List.all_map]
    rfl
  unfold formB rtsTo
  rw [List.take_length, List.take_length, this S, this R, h, hl]

def wRoute : List UInt8 := [114, 111, 117, 116, 101]
def wLeft : List UInt8 := [108, 101, 102, 116]
def routesL (R : List RT) : Nat → List UInt8
  | 0 => []
  | k + 1 => routesL R k ++ lineL wRoute ((R.getD k rt0).v :: (R.getD k rt0).ids)
/-- What PlanText writes of a plan that can be written. -/
def planL (R : List RT) (L : List Int) : List UInt8 := routesL R R.length ++ lineL wLeft L
theorem routesL_key {R S : List RT} (h : S.map RT.key = R.map RT.key) : ∀ k, routesL S k = routesL R k
  | 0 => rfl
  | k + 1 => by
    have e : RT.key (S.getD k rt0) = RT.key (R.getD k rt0) := by
      have h2 := congrArg (fun l : List (Int × List Int) => l[k]?) h
      simp only [List.getElem?_map] at h2
      rw [List.getD_eq_getElem?_getD, List.getD_eq_getElem?_getD]
      cases h3 : S[k]? <;> cases h4 : R[k]? <;> simp [h3, h4] at h2 ⊢
      exact h2
    unfold RT.key at e
    simp only [Prod.mk.injEq] at e
    simp only [routesL]
    rw [routesL_key h k, e.1, e.2]
theorem planL_key {R S : List RT} (L : List Int) (h : S.map RT.key = R.map RT.key) : planL S L = planL R L := by
  have hl : S.length = R.length := by have := congrArg List.length h; simpa using this
  unfold planL
  rw [routesL_key h, hl]
theorem row_smallR {R : List RT} {L : List Int} (h : formB R L = true) {k : Nat} (hk : k < R.length) : Small ((R.getD k rt0).v :: (R.getD k rt0).ids) ∧ (R.getD k rt0).ids.length ≤ 12 := by
  obtain ⟨h1, h2⟩ := (formB_parts h).2.2 k hk
  obtain ⟨h3, h4⟩ := idsB_small h2
  refine ⟨fun x hx => ?_, h3⟩
  rcases List.mem_cons.1 hx with rfl | hx
  · unfold inB at h1
    simp only [decide_eq_true_eq] at h1
    omega
  · exact h4 x hx
theorem routesL_len {R : List RT} {L : List Int} (h : formB R L = true) : ∀ k, k ≤ R.length → (routesL R k).length ≤ 400 * k
  | 0, _ => by simp [routesL]
  | k + 1, hk => by
    have ih := routesL_len h k (by omega)
    obtain ⟨h1, h2⟩ := row_smallR h (show k < R.length by omega)
    have hl := lineL_len wRoute _ h1
    have hw : wRoute.length = 5 := rfl
    simp only [routesL]
    rw [List.length_append]
    simp only [List.length_cons] at hl
    omega

end Go.Proofs.YtidhnmmhniiolaaDoor

namespace Go.Proofs.YtidhnmmhniiolaaDoor
open Go.RowKit

/-! Numbers in texts. -/
def isDg (c : UInt8) : Bool := decide (48 ≤ c.toNat ∧ c.toNat ≤ 57)
def dval (d : List UInt8) : Nat := d.foldl (fun n c => n * 10 + (c.toNat - 48)) 0
/-- Digits that stand for a number: at least one, at most ten, no nought ahead. -/
def okDg (d : List UInt8) : Bool := decide (0 < d.length ∧ d.length ≤ 10 ∧ (d.length = 1 ∨ d.headD 0 ≠ 48))
theorem dval_snoc (l : List UInt8) (c : UInt8) : dval (l ++ [c]) = dval l * 10 + (c.toNat - 48) := by simp [dval]
theorem decS {j : Nat} (h : j < 10) : Lib.decDigits j = [UInt8.ofNat (48 + j)] := by rw [Lib.decDigits, dif_pos h]
theorem decB {j : Nat} (h : ¬ j < 10) : Lib.decDigits j = Lib.decDigits (j / 10) ++ [UInt8.ofNat (48 + j % 10)] := by rw [Lib.decDigits, dif_neg h]
theorem ofNat_toNat {j : Nat} (h : j < 10) : (UInt8.ofNat (48 + j)).toNat = 48 + j := by
  rw [UInt8.toNat_ofNat']
  omega
theorem dec_parts : ∀ (m n : Nat), n ≤ m → (∀ c ∈ Lib.decDigits n, isDg c = true) ∧ dval (Lib.decDigits n) = n ∧ 0 < (Lib.decDigits n).length ∧ ((Lib.decDigits n).length = 1 ∨ (Lib.decDigits n).headD 0 ≠ 48)
  | m, n, hm => by
    by_cases h : n < 10
    · rw [decS h]
      refine ⟨fun c hc => ?_, ?_, by simp, .inl (by simp)⟩
      · rw [List.mem_singleton] at hc
        subst hc
        unfold isDg
        rw [ofNat_toNat h]
        simp
        omega
      · simp only [dval, List.foldl_cons, List.foldl_nil]
        rw [ofNat_toNat h]
        omega
    · match m, hm with
      | 0, hm => omega
      | m + 1, hm =>
        obtain ⟨h1, h2, h3, h4⟩ := dec_parts m (n / 10) (by omega)
        have h9 : n % 10 < 10 := Nat.mod_lt _ (by omega)
        rw [decB h]
        refine ⟨fun c hc => ?_, ?_, by simp, .inr ?_⟩
        · rcases List.mem_append.1 hc with hc | hc
          · exact h1 c hc
          · rw [List.mem_singleton] at hc
            subst hc
            unfold isDg
            rw [ofNat_toNat h9]
            simp
            omega
        · rw [dval_snoc, h2, ofNat_toNat h9]
          omega
        · by_cases hs : n / 10 < 10
          · rw [decS hs]
            simp only [List.cons_append, List.headD_cons]
            intro e
            have := congrArg UInt8.toNat e
            rw [ofNat_toNat hs] at this
            have : (48 : UInt8).toNat = 48 := rfl
            omega
          · rcases h4 with h4 | h4
            · rw [decB hs] at h4
              have := (dec_parts m (n / 10 / 10) (by omega)).2.2.1
              simp at h4
              rw [h4] at this
              simp at this
            · cases hd : Lib.decDigits (n / 10) with
              | nil => rw [hd] at h3; simp at h3
              | cons x xs => rw [hd] at h4; simpa using h4
theorem dval_lt : ∀ (m : Nat) (d : List UInt8), d.length = m → (∀ c ∈ d, isDg c = true) → dval d < 10 ^ m
  | 0, d, hl, _ => by
    obtain rfl : d = [] := List.length_eq_zero_iff.1 hl
    simp [dval]
  | m + 1, d, hl, hd => by
    obtain ⟨l, c, rfl⟩ : ∃ l c, d = l ++ [c] := ⟨d.dropLast, d.getLast (by intro e; simp [e] at hl), (List.dropLast_concat_getLast _).symm⟩
    have ih := dval_lt m l (by simp at hl; omega) (fun x hx => hd x (by simp [hx]))
    have hc := hd c (by simp)
    unfold isDg at hc
    simp at hc
    rw [dval_snoc, Nat.pow_succ]
    omega
theorem dec_len10 {n : Nat} (h : n < 10000000000) : (Lib.decDigits n).length ≤ 10 := by
  have key : ∀ (m n : Nat), n < 10 ^ (m + 1) → (Lib.decDigits n).length ≤ m + 1 := by
    intro m
    induction m with
    | zero => intro n h; rw [decS (by simpa using h)]; simp
    | succ m ih =>
      intro n h
      by_cases hj : n < 10
      · rw [decS hj]; simp
      · rw [decB hj, List.length_append]
        have := ih (n / 10) (by rw [Nat.div_lt_iff_lt_mul (by omega)]; rw [Nat.pow_succ] at h; exact h)
        simp
        omega
  exact key 9 n (by simpa using h)
/-- The digits of what digits stand for are these digits. -/
theorem dec_dval : ∀ (m : Nat) (d : List UInt8), d.length = m + 1 → (∀ c ∈ d, isDg c = true) → (d.length = 1 ∨ d.headD 0 ≠ 48) → Lib.decDigits (dval d) = d ∧ (d.headD 0 ≠ 48 → 0 < dval d)
  | 0, d, hl, hd, _ => by
    obtain ⟨c, rfl⟩ : ∃ c, d = [c] := List.length_eq_one_iff.1 hl
    have hc := hd c (by simp)
    unfold isDg at hc
    simp at hc
    have e : dval [c] = c.toNat - 48 := by simp [dval]
    rw [e, decS (by omega)]
    refine ⟨?_, fun h => ?_⟩
    · congr 1
      rw [show 48 + (c.toNat - 48) = c.toNat by omega]
      simp
    · simp at h
      have : c.toNat ≠ 48 := fun e => h (by rw [← UInt8.toNat_inj]; exact e)
      omega
  | m + 1, d, hl, hd, hz => by
    obtain ⟨l, c, rfl⟩ : ∃ l c, d = l ++ [c] := ⟨d.dropLast, d.getLast (by intro e; simp [e] at hl), (List.dropLast_concat_getLast _).symm⟩
    have hll : l.length = m + 1 := by simp at hl; omega
    have hh : l.headD 0 ≠ 48 := by
      rcases hz with hz | hz
      · omega
      · cases l with
        | nil => simp at hll
        | cons x xs => simpa using hz
    obtain ⟨h1, h2⟩ := dec_dval m l hll (fun x hx => hd x (by simp [hx])) (.inr hh)
    have h3 := h2 hh
    have hc := hd c (by simp)
    unfold isDg at hc
    simp at hc
    have e : dval (l ++ [c]) = dval l * 10 + (c.toNat - 48) := dval_snoc l c
    rw [e, decB (by omega)]
    refine ⟨?_, fun _ => by omega⟩
    rw [show (dval l * 10 + (c.toNat - 48)) / 10 = dval l by omega, h1, show (dval l * 10 + (c.toNat - 48)) % 10 = c.toNat - 48 by omega, show 48 + (c.toNat - 48) = c.toNat by omega]
    simp
theorem takeWhile_all : ∀ (s : List UInt8), ∀ c ∈ s.takeWhile isDg, isDg c = true
  | [], c, h => by simp at h
  | x :: s, c, h => by
    rw [List.takeWhile_cons] at h
    split at h
    · rename_i hx
      rcases List.mem_cons.1 h with rfl | h
      · exact hx
      · exact takeWhile_all s c h
    · simp at h
theorem drop_takeWhile : ∀ (s : List UInt8), s.drop (s.takeWhile isDg).length = s.dropWhile isDg
  | [] => by simp
  | x :: s => by
    rw [List.takeWhile_cons, List.dropWhile_cons]
    split
    · simp [drop_takeWhile s]
    · simp
/-- No digit stands at the beginning. -/
def noDg (s : List UInt8) : Bool := match s with | [] => true | c :: _ => !isDg c
theorem noDg_drop : ∀ (s : List UInt8), noDg (s.dropWhile isDg) = true
  | [] => rfl
  | x :: s => by
    rw [List.dropWhile_cons]
    split
    · exact noDg_drop s
    · rename_i h
      simp [noDg, h]
/-- A number at the beginning of a text, and what stands behind it. -/
def numF (s : List UInt8) : Option (Nat × List UInt8) := if okDg (s.takeWhile isDg) = true then some (dval (s.takeWhile isDg), s.drop (s.takeWhile isDg).length) else none
theorem takeWhile_dg {d r : List UInt8} (hd : ∀ c ∈ d, isDg c = true) (hr : noDg r = true) : (d ++ r).takeWhile isDg = d := by
  rw [List.takeWhile_append_of_pos hd]
  cases r with
  | nil => simp
  | cons c r => simp [noDg] at hr; simp [hr]
theorem itoa_nat (n : Nat) : Lib.itoa (n : Int) = Lib.decDigits n := by unfold Lib.itoa; rw [if_neg (by omega)]; simp
theorem numF_of {n : Nat} {r : List UInt8} (h : n < 10000000000) (hr : noDg r = true) : numF (Lib.decDigits n ++ r) = some (n, r) := by
  obtain ⟨h1, h2, h3, h4⟩ := dec_parts n n (Nat.le_refl _)
  unfold numF
  rw [takeWhile_dg h1 hr, if_pos (by unfold okDg; exact decide_eq_true ⟨h3, dec_len10 h, h4⟩), h2]
  simp
theorem numF_is {s : List UInt8} {n : Nat} {r : List UInt8} (h : numF s = some (n, r)) : s = Lib.decDigits n ++ r ∧ n < 10000000000 ∧ noDg r = true := by
  unfold numF at h
  split at h
  · rename_i ho
    simp only [Option.some.injEq, Prod.mk.injEq] at h
    obtain ⟨rfl, rfl⟩ := h
    unfold okDg at ho
    have ho := of_decide_eq_true ho
    have hall : ∀ c ∈ s.takeWhile isDg, isDg c = true := takeWhile_all s
    obtain ⟨h1, _⟩ := dec_dval ((s.takeWhile isDg).length - 1) (s.takeWhile isDg) (by omega) hall ho.2.2
    refine ⟨?_, ?_, ?_⟩
    · rw [h1]
      have := List.takeWhile_append_dropWhile (p := isDg) (l := s)
      rw [drop_takeWhile] 
      exact this.symm
    · have := dval_lt _ _ rfl hall
      exact Nat.lt_of_lt_of_le this (Nat.pow_le_pow_right (by omega) ho.2.1)
    · rw [drop_takeWhile]
      exact noDg_drop s
  · cases h

/-! Ids, routes, plans in texts. -/
/-- Ids up to the line's end, at most so many. -/
def idsF : Nat → List UInt8 → Option (List Int × List UInt8)
  | _, [] => none
  | k, c :: s =>
    if c = 32 then
      match k with
      | 0 => none
      | k + 1 => match numF s with
        | none => none
        | some (n, r) => if inB n 1 1000000000 = true then (match idsF k r with | none => none | some (l, r2) => some ((n : Int) :: l, r2)) else none
    else if c = 10 then some ([], s) else none
def idsT (ids : List Int) : List UInt8 := ids.flatMap fun n => 32 :: Lib.itoa n
theorem idsT_nums (ids : List Int) : numsTo ids ids.length = idsT ids := by unfold numsTo idsT; rw [List.take_length]
theorem noDg_ids (ids : List Int) (r : List UInt8) : noDg (idsT ids ++ 10 :: r) = true := by
  cases ids with
  | nil => rfl
  | cons n ids => rfl
theorem inB_nat {n : Int} (h : inB n 1 1000000000 = true) : ∃ m : Nat, n = (m : Int) ∧ m < 10000000000 := by
  unfold inB at h
  simp only [decide_eq_true_eq] at h
  exact ⟨n.toNat, by omega, by omega⟩
theorem idsF_of : ∀ (ids : List Int) (k : Nat) (r : List UInt8), ids.length ≤ k → (∀ x ∈ ids, inB x 1 1000000000 = true) → idsF k (idsT ids ++ 10 :: r) = some (ids, r)
  | [], k, r, _, _ => by
    show idsF k (10 :: r) = _
    cases k <;> simp [idsF]
  | n :: ids, 0, r, h, _ => by simp at h
  | n :: ids, k + 1, r, h, ha => by
    obtain ⟨m, rfl, hm⟩ := inB_nat (ha n (by simp))
    have ih := idsF_of ids k r (by simp at h; omega) (fun x hx => ha x (by simp [hx]))
    have e : idsT ((m : Int) :: ids) ++ 10 :: r = 32 :: (Lib.decDigits m ++ (idsT ids ++ 10 :: r)) := by
      unfold idsT
      rw [List.flatMap_cons, itoa_nat]
      simp
    rw [e]
    simp only [idsF, if_pos]
    rw [numF_of hm (noDg_ids ids r)]
    simp only [ha m (by simp), if_pos, ih]
theorem idsF_is : ∀ (k : Nat) (s : List UInt8) (ids : List Int) (r : List UInt8), idsF k s = some (ids, r) → s = idsT ids ++ 10 :: r ∧ ids.length ≤ k ∧ ∀ x ∈ ids, inB x 1 1000000000 = true
  | _, [], ids, r, h => by simp [idsF] at h
  | k, c :: s, ids, r, h => by
    by_cases hc : c = 32
    · subst hc
      match k, h with
      | 0, h => simp [idsF] at h
      | k + 1, h =>
        simp only [idsF, if_pos] at h
        cases hn : numF s with
        | none => rw [hn] at h; cases h
        | some q =>
          obtain ⟨n, r1⟩ := q
          rw [hn] at h
          simp only at h
          split at h
          · rename_i hi
            cases hq : idsF k r1 with
            | none => rw [hq] at h; cases h
            | some z =>
              obtain ⟨l, r2⟩ := z
              rw [hq] at h
              simp only [Option.some.injEq, Prod.mk.injEq] at h
              obtain ⟨rfl, rfl⟩ := h
              obtain ⟨h1, h2, h3⟩ := idsF_is k r1 l r2 hq
              obtain ⟨h4, _, _⟩ := numF_is hn
              refine ⟨?_, by simp; omega, fun x hx => ?_⟩
              · rw [h4, h1]
                unfold idsT
                rw [List.flatMap_cons, itoa_nat]
                simp
              · rcases List.mem_cons.1 hx with rfl | hx
                · exact hi
                · exact h3 x hx
          · cases h
    · have e : idsF k (c :: s) = if c = 10 then some ([], s) else none := by cases k <;> simp [idsF, hc]
      rw [e] at h
      split at h
      · rename_i h10
        simp only [Option.some.injEq, Prod.mk.injEq] at h
        obtain ⟨rfl, rfl⟩ := h
        subst h10
        exact ⟨rfl, by simp, by simp⟩
      · cases h
def wRouteB : List UInt8 := [114, 111, 117, 116, 101, 32]
/-- An Id. -/
def idF (s : List UInt8) : Option (Int × List UInt8) := match numF s with | none => none | some (n, r) => if inB n 1 1000000000 = true then some ((n : Int), r) else none
def routesF : Nat → List UInt8 → Option (List RT × List UInt8)
  | k, s =>
    if wRouteB.isPrefixOf s = true then
      match k with
      | 0 => none
      | k + 1 => match idF (s.drop 6) with
        | none => none
        | some (v, r) => match idsF 12 r with
          | none => none
          | some (ids, r2) => match routesF k r2 with
            | none => none
            | some (R, r3) => some (⟨v, none, ids, 0⟩ :: R, r3)
    else some ([], s)
def planF (s : List UInt8) : Option (List RT × List Int × List UInt8) := match routesF 5 s with
  | none => none
  | some (R, r) => if wLeft.isPrefixOf r = true then (match idsF 12 (r.drop 4) with | none => none | some (L, r2) => some (R, L, r2)) else none
/-- What ReadPlan reads. -/
def readF (s : List UInt8) : Option (List RT × List Int) := match planF s with | none => none | some (R, L, r) => if r = [] then some (R, L) else none
def rtsT (R : List RT) : List UInt8 := R.flatMap fun r => lineL wRoute (r.v :: r.ids)
theorem rtsT_routes (R : List RT) : routesL R R.length = rtsT R := by
  have key : ∀ k, k ≤ R.length → routesL R k = rtsT (R.take k) := by
    intro k
    induction k with
    | zero => intro _; simp [routesL, rtsT]
    | succ k ih =>
      intro h
      have e : R.take (k + 1) = R.take k ++ [R.getD k rt0] := by
        rw [List.take_add_one, List.getD_eq_getElem?_getD, List.getElem?_eq_getElem (by omega)]
        simp
      rw [e]
      simp only [routesL]
      rw [ih (by omega)]
      simp [rtsT]
  have := key R.length (Nat.le_refl _)
  rw [List.take_length] at this
  exact this
def bare (r : RT) : RT := ⟨r.v, none, r.ids, 0⟩
theorem line_route (v : Int) (ids : List Int) (s : List UInt8) : lineL wRoute (v :: ids) ++ s = wRouteB ++ (Lib.itoa v ++ (idsT ids ++ 10 :: s)) := by
  unfold lineL
  rw [idsT_nums]
  unfold idsT wRoute wRouteB
  simp
theorem prefix_app (a s : List UInt8) : a.isPrefixOf (a ++ s) = true := by
  rw [List.isPrefixOf_iff_prefix]
  exact List.prefix_append _ _
theorem prefix_is {a s : List UInt8} (h : a.isPrefixOf s = true) : s = a ++ s.drop a.length := by
  rw [List.isPrefixOf_iff_prefix] at h
  obtain ⟨t, rfl⟩ := h
  simp
def rtOk (r : RT) : Prop := inB r.v 1 1000000000 = true ∧ r.ids.length ≤ 12 ∧ ∀ x ∈ r.ids, inB x 1 1000000000 = true
theorem idF_of {v : Int} {r : List UInt8} (h : inB v 1 1000000000 = true) (hr : noDg r = true) : idF (Lib.itoa v ++ r) = some (v, r) := by
  obtain ⟨m, rfl, hm⟩ := inB_nat h
  unfold idF
  rw [itoa_nat, numF_of hm hr]
  simp only [h, if_pos]
theorem idF_is {s : List UInt8} {v : Int} {r : List UInt8} (h : idF s = some (v, r)) : s = Lib.itoa v ++ r ∧ inB v 1 1000000000 = true := by
  unfold idF at h
  cases hn : numF s with
  | none => rw [hn] at h; cases h
  | some q =>
    obtain ⟨n, r1⟩ := q
    rw [hn] at h
    simp only at h
    split at h
    · rename_i hi
      simp only [Option.some.injEq, Prod.mk.injEq] at h
      obtain ⟨rfl, rfl⟩ := h
      rw [itoa_nat]
      exact ⟨(numF_is hn).1, hi⟩
    · cases h
theorem routesF_of : ∀ (R : List RT) (k : Nat) (s : List UInt8), R.length ≤ k → (∀ r ∈ R, rtOk r) → wRouteB.isPrefixOf s = false → routesF k (rtsT R ++ s) = some (R.map bare, s)
  | [], k, s, _, _, hs => by
    unfold rtsT
    rw [List.flatMap_nil, List.nil_append]
    unfold routesF
    rw [if_neg (by rw [hs]; simp)]
    rfl
  | r :: R, 0, s, h, _, _ => by simp at h
  | r :: R, k + 1, s, h, ha, hs => by
    have ih := routesF_of R k s (by simp at h; omega) (fun x hx => ha x (by simp [hx])) hs
    obtain ⟨h1, h2, h3⟩ := ha r (by simp)
    have e : rtsT (r :: R) ++ s = wRouteB ++ (Lib.itoa r.v ++ (idsT r.ids ++ 10 :: (rtsT R ++ s))) := by
      rw [← line_route]
      simp [rtsT]
    rw [e]
    unfold routesF
    rw [if_pos (prefix_app _ _)]
    have e2 : (wRouteB ++ (Lib.itoa r.v ++ (idsT r.ids ++ 10 :: (rtsT R ++ s)))).drop 6 = Lib.itoa r.v ++ (idsT r.ids ++ 10 :: (rtsT R ++ s)) := rfl
    rw [e2, idF_of h1 (noDg_ids _ _)]
    simp only
    rw [idsF_of r.ids 12 _ h2 h3]
    simp only
    rw [ih]
    rfl
theorem routesF_is : ∀ (k : Nat) (s : List UInt8) (R : List RT) (r : List UInt8), routesF k s = some (R, r) → s = rtsT R ++ r ∧ R.length ≤ k ∧ (∀ x ∈ R, rtOk x) ∧ R.map bare = R
  | k, s, R, r, h => by
    unfold routesF at h
    split at h
    · rename_i hp
      match k, h with
      | 0, h => cases h
      | k + 1, h =>
        simp only at h
        cases h1 : idF (s.drop 6) with
        | none => rw [h1] at h; cases h
        | some q =>
          obtain ⟨v, r1⟩ := q
          rw [h1] at h
          simp only at h
          cases h2 : idsF 12 r1 with
          | none => rw [h2] at h; cases h
          | some q =>
            obtain ⟨ids, r2⟩ := q
            rw [h2] at h
            simp only at h
            cases h3 : routesF k r2 with
            | none => rw [h3] at h; cases h
            | some q =>
              obtain ⟨R2, r3⟩ := q
              rw [h3] at h
              simp only [Option.some.injEq, Prod.mk.injEq] at h
              obtain ⟨rfl, rfl⟩ := h
              obtain ⟨i1, i2, i3, i4⟩ := routesF_is k r2 R2 r3 h3
              obtain ⟨j1, j2⟩ := idF_is h1
              obtain ⟨k1, k2, k3⟩ := idsF_is 12 r1 ids r2 h2
              refine ⟨?_, by simp; omega, fun x hx => ?_, by rw [List.map_cons, i4]; rfl⟩
              · have e := prefix_is hp
                have e6 : wRouteB.length = 6 := rfl
                rw [e6, j1, k1, i1] at e
                rw [e]
                have := line_route v ids (rtsT R2 ++ r3)
                rw [← this]
                simp [rtsT]
              · rcases List.mem_cons.1 hx with rfl | hx
                · exact ⟨j2, k2, k3⟩
                · exact i3 x hx
    · simp only [Option.some.injEq, Prod.mk.injEq] at h
      obtain ⟨rfl, rfl⟩ := h
      exact ⟨by simp [rtsT], by simp, by simp, rfl⟩
theorem idsB_iff (ids : List Int) : idsB ids = true ↔ ids.length ≤ 12 ∧ ∀ x ∈ ids, inB x 1 1000000000 = true := by
  unfold idsB idsTo
  rw [List.take_length]
  simp
theorem formB_iff (R : List RT) (L : List Int) : formB R L = true ↔ R.length ≤ 5 ∧ idsB L = true ∧ ∀ r ∈ R, rtOk r := by
  unfold formB rtsTo
  rw [List.take_length]
  simp only [Bool.and_eq_true, decide_eq_true_eq, List.all_eq_true]
  constructor
  · rintro ⟨⟨h1, h2⟩, h3⟩
    exact ⟨h1, h2, fun r hr => ⟨(h3 r hr).1, (idsB_iff _).1 (h3 r hr).2⟩⟩
  · rintro ⟨h1, h2, h3⟩
    exact ⟨⟨h1, h2⟩, fun r hr => ⟨(h3 r hr).1, (idsB_iff _).2 (h3 r hr).2⟩⟩
theorem line_left (L : List Int) : lineL wLeft L = wLeft ++ (idsT L ++ [10]) := by
  unfold lineL
  rw [idsT_nums]
  simp
/-- A plan that can be written is read from its text. -/
theorem readF_of {R : List RT} {L : List Int} (h : formB R L = true) : readF (planL R L) = some (R.map bare, L) := by
  obtain ⟨h1, h2, h3⟩ := (formB_iff R L).1 h
  obtain ⟨h4, h5⟩ := (idsB_iff L).1 h2
  unfold readF planF planL
  rw [rtsT_routes, line_left, routesF_of R 5 _ h1 h3 (by rfl)]
  simp only
  rw [if_pos (prefix_app _ _)]
  have e : (wLeft ++ (idsT L ++ [10])).drop 4 = idsT L ++ 10 :: [] := rfl
  rw [e, idsF_of L 12 [] h4 h5]
  simp
/-- What is read is a plan that can be written, from its own text. -/
theorem readF_is {s : List UInt8} {R : List RT} {L : List Int} (h : readF s = some (R, L)) : formB R L = true ∧ s = planL R L ∧ R.map bare = R := by
  unfold readF planF at h
  cases h1 : routesF 5 s with
  | none => rw [h1] at h; cases h
  | some q =>
    obtain ⟨R2, r⟩ := q
    rw [h1] at h
    simp only at h
    by_cases hl : wLeft.isPrefixOf r = true
    · rw [if_pos hl] at h
      cases h2 : idsF 12 (r.drop 4) with
      | none => rw [h2] at h; cases h
      | some q =>
        obtain ⟨L2, r2⟩ := q
        rw [h2] at h
        simp only at h
        split at h
        · rename_i h0
          simp only [Option.some.injEq, Prod.mk.injEq] at h
          obtain ⟨rfl, rfl⟩ := h
          subst h0
          obtain ⟨i1, i2, i3, i4⟩ := routesF_is 5 s R2 r h1
          obtain ⟨k1, k2, k3⟩ := idsF_is 12 _ L2 [] h2
          refine ⟨(formB_iff _ _).2 ⟨i2, (idsB_iff _).2 ⟨k2, k3⟩, i3⟩, ?_, i4⟩
          have e := prefix_is hl
          have e4 : wLeft.length = 4 := rfl
          rw [e4, k1] at e
          unfold planL
          rw [rtsT_routes, line_left, i1, e]
        · cases h
    · rw [if_neg hl] at h
      cases h

end Go.Proofs.YtidhnmmhniiolaaDoor

namespace Go.Proofs.YtidhnmmhniiolaaDoor
open Go.RowKit

/-- A reader in its box: what is left of the text. -/
def RX (w : World) (q : Nat) (s : List UInt8) : Prop := w.heap[q]? = some (.cells #[.string (txt s)] 95 (0, 0))
/-- How a reader gives up. -/
def GV : List PanicEntry := [{ v := .iface 115 (.agg #[]), recovered := false }]
theorem RX.cell {w : World} {q : Nat} {s : List UInt8} (h : RX w q s) : w.cell? ⟨q, 0, none⟩ = some (.string (txt s)) := by
  rw [cell_of_row _ _ _ _ _ _ h]
  rfl
theorem RX.frozen {w : World} {q : Nat} {s : List UInt8} (h : RX w q s) (i : Nat) : w.frozen? ⟨q, i, none⟩ = false := frozen_of_row _ _ i _ _ h
theorem RX.set {w : World} {q : Nat} {s : List UInt8} (h : RX w q s) (t : List UInt8) : RX (w.setCell ⟨q, 0, none⟩ (.string (txt t))) q t := by
  unfold RX at *
  simp [World.setCell, Array.getElem?_modify, h]
theorem txt_drop (s : List UInt8) (k : Nat) : (txt s).extract k s.length = txt (s.drop k) := by
  apply ByteArray.ext
  simp [txt]
  exact List.take_of_length_le (by simp)
theorem txt_take (s : List UInt8) (k : Nat) : (txt s).extract 0 k = txt (s.take k) := by
  apply ByteArray.ext
  simp [txt]
theorem txt_inj {a b : List UInt8} (h : txt a = txt b) : a = b := by
  have := congrArg (fun x : ByteArray => x.data.toList) h
  simpa [txt] using this

theorem must_yes (p : Value) (w : World) : Calls Tryd.prog 47 #[p, .bool true] w fun e w' => e = .returned (.tuple #[]) ∧ w' = w := by
  go_enter Tryd.func47, Tryd.ntmps47
  go_wp2
  first | refine bodyPost_end (results_none rfl _ _ _) rfl ?_ | refine bodyPost_ret (results_none rfl _ _ _) rfl ?_
  exact ⟨rfl, rfl⟩
theorem must_no (p : Value) (w : World) : Calls Tryd.prog 47 #[p, .bool false] w fun e w' => e = .panicked GV ∧ w' = w := by
  go_enter Tryd.func47, Tryd.ntmps47
  go_wp2
  exact ⟨rfl, rfl, rfl⟩

theorem prefix_take (s t : List UInt8) (h : t.length ≤ s.length) : t.isPrefixOf s = decide (s.take t.length = t) := by
  by_cases e : s.take t.length = t
  · rw [decide_eq_true e, List.isPrefixOf_iff_prefix]
    exact ⟨s.drop t.length, by have := List.take_append_drop t.length s; rw [e] at this; exact this⟩
  · rw [decide_eq_false e]
    cases hp : t.isPrefixOf s with
    | false => rfl
    | true =>
      rw [List.isPrefixOf_iff_prefix] at hp
      obtain ⟨r, rfl⟩ := hp
      exact absurd (by simp) e
theorem prefix_long {s t : List UInt8} (h : ¬ t.length ≤ s.length) : t.isPrefixOf s = false := by
  cases hp : t.isPrefixOf s with
  | false => rfl
  | true =>
    rw [List.isPrefixOf_iff_prefix] at hp
    exact absurd hp.length_le h

set_option maxHeartbeats 1000000 in
theorem litePrefix_any (s t : List UInt8) (w : World) (hs : s.length ≤ 1000000000) :
    Calls Tryd.prog 85 #[.string (txt s), .string (txt t)] w fun e w' => e = .returned (.bool (t.isPrefixOf s)) ∧ w' = w := by
  have HS : Hid ((txt s).size = s.length) := txt_size s
  have HT : Hid ((txt t).size = t.length) := txt_size t
  by_cases hl : t.length ≤ s.length
  · have hl2 : (txt t).size ≤ (txt s).size := by rw [HS.out, HT.out]; exact hl
    have hl3 : ((txt t).size : Int) ≤ (txt s).size := by omega
    have hs2 : (txt s).size ≤ 1000000000 := by rw [HS.out]; exact hs
    have HX : Hid ((((txt s).extract 0 (txt t).size).toList == (txt t).toList) = t.isPrefixOf s) := by
      show _ = _
      rw [HT.out, txt_take, prefix_take s t hl]
      by_cases e : s.take t.length = t
      · rw [decide_eq_true e, str_eq (congrArg txt e)]
      · rw [decide_eq_false e, str_ne (fun h => e (txt_inj h))]
    generalize t.isPrefixOf s = x at *
    generalize txt s = a at *
    generalize txt t = b at *
    have hx := HX.out
    go_enter Tryd.func85, Tryd.ntmps85
    go_wp2
    go_ret
    exact ⟨rfl, rfl⟩
  · have hl2 : ¬ (((txt t).size : Int) ≤ (txt s).size) := by rw [HS.out, HT.out]; omega
    rw [prefix_long hl]
    generalize txt s = a at *
    generalize txt t = b at *
    go_enter Tryd.func85, Tryd.ntmps85
    go_wp2
    go_ret
    exact ⟨rfl, rfl⟩

theorem hasPrefix_any (s t : List UInt8) (w : World) (hs : s.length ≤ 1000000000) :
    Calls Tryd.prog 70 #[.string (txt s), .string (txt t)] w fun e w' => e = .returned (.bool (t.isPrefixOf s)) ∧ w' = w := by
  have C := litePrefix_any s t w hs
  generalize t.isPrefixOf s = x at *
  generalize txt s = a at *
  generalize txt t = b at *
  go_enter Tryd.func70, Tryd.ntmps70
  go_wp2_with (go_at_call 85; refine C.mono ?_; rintro e w' ⟨rfl, rfl⟩)
  go_ret
  exact ⟨rfl, rfl⟩

set_option maxHeartbeats 1000000 in
/-- A text is taken that stands there. -/
theorem take_yes (q : Nat) (s t : List UInt8) (w : World) (h : RX w q s) (hs : s.length ≤ 1000000000) (hp : t.isPrefixOf s = true) :
    Calls Tryd.prog 49 #[.pointer (some ⟨q, 0, none⟩), .string (txt t)] w fun e w' => e = .returned (.tuple #[]) ∧ RX w' q (s.drop t.length) ∧ w.grownBy w' (some q) := by
  have C := hasPrefix_any s t w hs
  rw [hp] at C
  have HR : Hid (RX w q s) := h
  have c0 := h.cell
  have f0 := h.frozen
  have HS : Hid ((txt s).size = s.length) := txt_size s
  have HT : Hid ((txt t).size = t.length) := txt_size t
  have hlt : t.length ≤ s.length := by
    rw [List.isPrefixOf_iff_prefix] at hp
    exact hp.length_le
  have hl2 : (txt t).size ≤ (txt s).size := by rw [HS.out, HT.out]; exact hlt
  have hl3 : ((txt t).size : Int) ≤ (txt s).size := by omega
  have hs2 : (txt s).size ≤ 1000000000 := by rw [HS.out]; exact hs
  have HX : Hid ((txt s).extract (txt t).size (txt s).size = txt (s.drop t.length)) := by show _ = _; rw [HS.out, HT.out, txt_drop]
  have HN : Hid (∀ v, v = txt (s.drop t.length) → RX (w.setCell ⟨q, 0, none⟩ (.string v)) q (s.drop t.length)) := fun v hv => by rw [hv]; exact HR.out.set _
  generalize txt (s.drop t.length) = x at *
  generalize txt s = a at *
  generalize txt t = b at *
  clear h hp
  go_enter Tryd.func49, Tryd.ntmps49
  go_wp2_with (first | (go_at_call 70; refine C.mono ?_; rintro e w' ⟨rfl, rfl⟩) | (go_at_call 47; refine (must_yes _ _).mono ?_; rintro e w' ⟨rfl, rfl⟩))
  first | refine bodyPost_end (results_none rfl _ _ _) rfl ?_ | refine bodyPost_ret (results_none rfl _ _ _) rfl ?_
  exact ⟨rfl, HN.out _ HX.out, grown_set _ _ _ _⟩
set_option maxHeartbeats 1000000 in
theorem take_no (q : Nat) (s t : List UInt8) (w : World) (h : RX w q s) (hs : s.length ≤ 1000000000) (hp : t.isPrefixOf s = false) :
    Calls Tryd.prog 49 #[.pointer (some ⟨q, 0, none⟩), .string (txt t)] w fun e w' => e = .panicked GV ∧ w' = w := by
  have C := hasPrefix_any s t w hs
  rw [hp] at C
  have c0 := h.cell
  generalize txt s = a at *
  generalize txt t = b at *
  clear h hp
  go_enter Tryd.func49, Tryd.ntmps49
  go_wp2_with (first | (go_at_call 70; refine C.mono ?_; rintro e w' ⟨rfl, rfl⟩) | (go_at_call 47; refine (must_no _ _).mono ?_; rintro e w' ⟨rfl, rfl⟩))
  all_goals exact ⟨rfl, rfl, rfl⟩

set_option maxHeartbeats 1000000 in
theorem atLine_any (q : Nat) (s t : List UInt8) (w : World) (h : RX w q s) (hs : s.length ≤ 1000000000) (ht : t.length ≤ 1000) :
    Calls Tryd.prog 48 #[.pointer (some ⟨q, 0, none⟩), .string (txt t)] w fun e w' => e = .returned (.bool ((t ++ [32]).isPrefixOf s)) ∧ w' = w := by
  have C := hasPrefix_any s (t ++ [32]) w hs
  have c0 := h.cell
  have HT : Hid (txt (t ++ [32]) = txt t ++ ByteArray.mk #[32]) := by show _ = _; rw [← txt_app]; rfl
  have hst : (txt t).size ≤ 1000 := by rw [txt_size]; exact ht
  have h32 : (ByteArray.mk #[32]).size = 1 := rfl
  rw [HT.out] at C
  generalize (t ++ [32]).isPrefixOf s = x at *
  generalize txt s = a at *
  generalize txt t = b at *
  clear h HT
  go_enter Tryd.func48, Tryd.ntmps48
  go_wp2_with (go_at_call 70; refine C.mono ?_; rintro e w' ⟨rfl, rfl⟩)
  go_ret
  exact ⟨rfl, rfl⟩

end Go.Proofs.YtidhnmmhniiolaaDoor

namespace Go.Proofs.YtidhnmmhniiolaaDoor
open Go.RowKit

/-! The model's reading: lines, words, numbers. -/
def sepS (p : UInt8) (st : List (List UInt8) × List UInt8) (c : UInt8) : List (List UInt8) × List UInt8 := if c = p then (st.1 ++ [st.2], []) else (st.1, st.2 ++ [c])
/-- What stands ahead of each mark, and behind the last one. -/
def sepF (p : UInt8) (s : List UInt8) : List (List UInt8) × List UInt8 := s.foldl (sepS p) ([], [])
theorem sepF_snoc (p : UInt8) (s : List UInt8) (c : UInt8) : sepF p (s ++ [c]) = sepS p (sepF p s) c := by simp [sepF]
theorem sep_body {p : UInt8} : ∀ (b : List UInt8) (o : List (List UInt8)) (l : List UInt8), (∀ c ∈ b, c ≠ p) → b.foldl (sepS p) (o, l) = (o, l ++ b)
  | [], o, l, _ => by simp
  | c :: b, o, l, h => by
    rw [List.foldl_cons]
    have e : sepS p (o, l) c = (o, l ++ [c]) := by simp [sepS, h c (by simp)]
    rw [e, sep_body b o _ (fun x hx => h x (by simp [hx]))]
    simp
theorem sep_len {p : UInt8} : ∀ (s : List UInt8) (o : List (List UInt8)) (l : List UInt8), (s.foldl (sepS p) (o, l)).1.length ≤ o.length + s.length ∧ (s.foldl (sepS p) (o, l)).2.length ≤ l.length + s.length
  | [], o, l => by simp
  | c :: s, o, l => by
    rw [List.foldl_cons]
    by_cases h : c = p
    · have e : sepS p (o, l) c = (o ++ [l], []) := by simp [sepS, h]
      rw [e]
      obtain ⟨h1, h2⟩ := sep_len (p := p) s (o ++ [l]) []
      simp at h1 h2 ⊢
      omega
    · have e : sepS p (o, l) c = (o, l ++ [c]) := by simp [sepS, h]
      rw [e]
      obtain ⟨h1, h2⟩ := sep_len (p := p) s o (l ++ [c])
      simp at h1 h2 ⊢
      omega
def intF (w : List UInt8) : Option Nat := if okDg w = true ∧ w.all isDg = true then some (dval w) else none
/-- The numbers of words. -/
def intsF : List (List UInt8) → Option (List Int)
  | [] => some []
  | w :: ws => match intF w with | none => none | some n => match intsF ws with | none => none | some l => some ((n : Int) :: l)
def cutF (s : List UInt8) : Option (List UInt8 × List Int) := match (sepF 32 s).1 ++ [(sepF 32 s).2] with
  | [] => none
  | w :: ws => match intsF ws with | none => none | some l => some (w, l)
theorem dg_no32 {c : UInt8} (h : isDg c = true) : c ≠ 32 ∧ c ≠ 10 := by
  unfold isDg at h
  simp at h
  refine ⟨fun e => ?_, fun e => ?_⟩
  · subst e
    have : (32 : UInt8).toNat = 32 := rfl
    omega
  · subst e
    have : (10 : UInt8).toNat = 10 := rfl
    omega
def natB (n : Int) : Prop := ∃ m : Nat, n = (m : Int) ∧ m < 10000000000
theorem itoa_dg {n : Int} (h : natB n) : (∀ c ∈ Lib.itoa n, isDg c = true) ∧ intF (Lib.itoa n) = some n.toNat := by
  obtain ⟨m, rfl, hm⟩ := h
  obtain ⟨h1, h2, h3, h4⟩ := dec_parts m m (Nat.le_refl _)
  rw [itoa_nat]
  refine ⟨h1, ?_⟩
  unfold intF okDg
  rw [if_pos ⟨decide_eq_true ⟨h3, dec_len10 hm, h4⟩, List.all_eq_true.2 h1⟩, h2]
  simp
theorem words_ids : ∀ (ns : List Int) (o : List (List UInt8)) (l : List UInt8), (∀ n ∈ ns, natB n) → ∃ o2 l2, (idsT ns).foldl (sepS 32) (o, l) = (o2, l2) ∧ o2 ++ [l2] = o ++ [l] ++ ns.map Lib.itoa
  | [], o, l, _ => ⟨o, l, rfl, by simp⟩
  | n :: ns, o, l, h => by
    have e : idsT (n :: ns) = 32 :: (Lib.itoa n ++ idsT ns) := by simp [idsT]
    rw [e, List.foldl_cons, List.foldl_append]
    have e2 : sepS 32 (o, l) 32 = (o ++ [l], []) := by simp [sepS]
    rw [e2, sep_body (Lib.itoa n) _ _ (fun c hc => (dg_no32 ((itoa_dg (h n (by simp))).1 c hc)).1)]
    obtain ⟨o2, l2, h1, h2⟩ := words_ids ns (o ++ [l]) ([] ++ Lib.itoa n) (fun x hx => h x (by simp [hx]))
    exact ⟨o2, l2, h1, by rw [h2]; simp⟩
theorem intsF_itoa : ∀ (ns : List Int), (∀ n ∈ ns, natB n) → intsF (ns.map Lib.itoa) = some ns
  | [], _ => rfl
  | n :: ns, h => by
    have h1 := (itoa_dg (h n (by simp))).2
    have ih := intsF_itoa ns (fun x hx => h x (by simp [hx]))
    have hn : ((n.toNat : Nat) : Int) = n := by obtain ⟨m, rfl, _⟩ := h n (by simp); simp
    simp only [List.map_cons, intsF, h1, ih, hn]
theorem cutF_of {w : List UInt8} {ns : List Int} (hw : ∀ c ∈ w, c ≠ 32) (hn : ∀ n ∈ ns, natB n) : cutF (w ++ idsT ns) = some (w, ns) := by
  obtain ⟨o2, l2, h1, h2⟩ := words_ids ns [] w hn
  have e : sepF 32 (w ++ idsT ns) = (o2, l2) := by
    unfold sepF
    rw [List.foldl_append, sep_body w [] [] hw, List.nil_append, h1]
  unfold cutF
  rw [e]
  simp only
  rw [h2]
  simp only [List.nil_append, List.cons_append]
  rw [intsF_itoa ns hn]
/-- One line more. -/
def lineS (st : Option (List RT × List Int)) (ln : List UInt8) : Option (List RT × List Int) := match st with
  | none => none
  | some (R, L) => match cutF ln with
    | none => none
    | some (w, l) => if w = wRoute ∧ l ≠ [] then some (R ++ [⟨l.headD 0, none, l.tail, 0⟩], L) else if w = wLeft then some (R, L ++ l) else some (R, L)
def linesF (ls : List (List UInt8)) : Option (List RT × List Int) := ls.foldl lineS (some ([], []))
/-- What the model reads, ahead of holding it against the text. -/
def specF (s : List UInt8) : Option (List RT × List Int) := if (sepF 10 s).2 = [] ∧ s.length ≤ 2000 then linesF (sepF 10 s).1 else none
theorem ids_no10 {ns : List Int} (h : ∀ n ∈ ns, natB n) : ∀ c ∈ idsT ns, c ≠ 10 := fun c hc => by
  unfold idsT at hc
  rw [List.mem_flatMap] at hc
  obtain ⟨n, hn, hc⟩ := hc
  rcases List.mem_cons.1 hc with rfl | hc
  · decide
  · exact (dg_no32 ((itoa_dg (h n hn)).1 c hc)).2
theorem rt_nat {r : RT} (h : rtOk r) : ∀ n ∈ r.v :: r.ids, natB n := fun n hn => by
  rcases List.mem_cons.1 hn with rfl | hn
  · exact inB_nat h.1
  · exact inB_nat (h.2.2 n hn)
theorem rtsT_cons (r : RT) (R : List RT) : rtsT (r :: R) = (wRoute ++ idsT (r.v :: r.ids)) ++ 10 :: rtsT R := by
  unfold rtsT
  rw [List.flatMap_cons]
  unfold lineL
  rw [idsT_nums]
  simp
theorem sep_routes : ∀ (R : List RT) (o : List (List UInt8)) (s : List UInt8), (∀ r ∈ R, rtOk r) → (rtsT R ++ s).foldl (sepS 10) (o, []) = s.foldl (sepS 10) (o ++ R.map (fun r => wRoute ++ idsT (r.v :: r.ids)), [])
  | [], o, s, _ => by simp [rtsT]
  | r :: R, o, s, h => by
    have e : rtsT (r :: R) ++ s = (wRoute ++ idsT (r.v :: r.ids)) ++ (10 :: (rtsT R ++ s)) := by
      rw [rtsT_cons]
      simp
    rw [e, List.foldl_append, sep_body _ o [] ?_, List.foldl_cons]
    · have e2 : sepS 10 (o, [] ++ (wRoute ++ idsT (r.v :: r.ids))) 10 = (o ++ [wRoute ++ idsT (r.v :: r.ids)], []) := by simp [sepS]
      rw [e2, sep_routes R _ s (fun x hx => h x (by simp [hx]))]
      simp
    · intro c hc
      rcases List.mem_append.1 hc with hc | hc
      · intro e
        subst e
        simp [wRoute] at hc
      · exact ids_no10 (rt_nat (h r (by simp))) c hc
theorem lines_routes : ∀ (R : List RT) (R0 : List RT) (L0 : List Int), (∀ r ∈ R, rtOk r) → (R.map (fun r => wRoute ++ idsT (r.v :: r.ids))).foldl lineS (some (R0, L0)) = some (R0 ++ R.map bare, L0)
  | [], R0, L0, _ => by simp
  | r :: R, R0, L0, h => by
    rw [List.map_cons, List.foldl_cons]
    have e : lineS (some (R0, L0)) (wRoute ++ idsT (r.v :: r.ids)) = some (R0 ++ [bare r], L0) := by
      unfold lineS
      simp only
      rw [cutF_of (by decide) (rt_nat (h r (by simp)))]
      simp [bare]
    rw [e, lines_routes R _ L0 (fun x hx => h x (by simp [hx]))]
    simp
theorem planL_len {R : List RT} {L : List Int} (h : formB R L = true) : (planL R L).length ≤ 2000 := by
  obtain ⟨h1, h2, h3⟩ := (formB_iff R L).1 h
  have key : ∀ (T : List RT), (∀ r ∈ T, rtOk r) → (rtsT T).length ≤ 170 * T.length := by
    have hid : ∀ (ns : List Int), (∀ n ∈ ns, natB n) → (idsT ns).length ≤ 11 * ns.length := by
      intro ns
      induction ns with
      | nil => intro _; simp [idsT]
      | cons n ns ih =>
        intro hn
        have e : idsT (n :: ns) = 32 :: (Lib.itoa n ++ idsT ns) := by simp [idsT]
        have := ih (fun x hx => hn x (by simp [hx]))
        obtain ⟨m, rfl, hm⟩ := hn n (by simp)
        have h5 := dec_len10 hm
        rw [e, itoa_nat]
        simp
        omega
    intro T
    induction T with
    | nil => intro _; simp [rtsT]
    | cons r T ih =>
      intro hT
      have := ih (fun x hx => hT x (by simp [hx]))
      have h4 := hid (r.v :: r.ids) (rt_nat (hT r (by simp)))
      have h5 := (hT r (by simp)).2.1
      rw [rtsT_cons, List.length_append]
      simp [wRoute] at h4 ⊢
      omega
  have hl : (lineL wLeft L).length ≤ 300 := by
    obtain ⟨h4, h5⟩ := idsB_small h2
    have := lineL_len wLeft L h5
    have e : wLeft.length = 4 := rfl
    omega
  have := key R h3
  unfold planL
  rw [rtsT_routes, List.length_append]
  omega
/-- The model reads a plan that can be written from its text. -/
theorem specF_of {R : List RT} {L : List Int} (h : formB R L = true) : specF (planL R L) = some (R.map bare, L) := by
  obtain ⟨h1, h2, h3⟩ := (formB_iff R L).1 h
  obtain ⟨h4, h5⟩ := (idsB_iff L).1 h2
  have hn : ∀ n ∈ L, natB n := fun n hn => inB_nat (h5 n hn)
  have e : sepF 10 (planL R L) = (R.map (fun r => wRoute ++ idsT (r.v :: r.ids)) ++ [wLeft ++ idsT L], []) := by
    unfold planL sepF
    rw [rtsT_routes, line_left, sep_routes R [] _ h3]
    have e2 : wLeft ++ (idsT L ++ [10]) = (wLeft ++ idsT L) ++ [10] := by simp
    rw [e2, List.foldl_append, sep_body _ _ [] ?_]
    · simp [sepS]
    · intro c hc
      rcases List.mem_append.1 hc with hc | hc
      · intro e
        subst e
        simp [wLeft] at hc
      · exact ids_no10 hn c hc
  unfold specF
  rw [e]
  simp only
  rw [if_pos ⟨trivial, planL_len h⟩]
  unfold linesF
  rw [List.foldl_append, lines_routes R [] [] h3]
  simp only [List.foldl_cons, List.foldl_nil, List.nil_append]
  unfold lineS
  simp only
  rw [cutF_of (by decide) hn]
  simp [wLeft, wRoute]
/-- What PlanText answers. -/
def ptxt (R : List RT) (L : List Int) : List UInt8 := if formB R L = true then planL R L else []
/-- What the model answers: the plan, if its text is the text. -/
def specRead (s : List UInt8) : Option (List RT × List Int) := match specF s with | none => none | some (R, L) => if ptxt R L = s then some (R, L) else none
theorem specRead_is (s : List UInt8) : specRead s = readF s := by
  cases hr : readF s with
  | some q =>
    obtain ⟨R, L⟩ := q
    obtain ⟨h1, h2, h3⟩ := readF_is hr
    unfold specRead
    rw [h2, specF_of h1, h3]
    simp [ptxt, h1]
  | none =>
    unfold specRead
    cases hs : specF s with
    | none => rfl
    | some q =>
      obtain ⟨R, L⟩ := q
      simp only
      rw [if_neg]
      intro e
      unfold ptxt at e
      by_cases hf : formB R L = true
      · rw [if_pos hf] at e
        rw [← e, readF_of hf] at hr
        cases hr
      · rw [if_neg hf] at e
        subst e
        have : specF [] = some ([], []) := by simp [specF, sepF, linesF]
        rw [this] at hs
        simp only [Option.some.injEq, Prod.mk.injEq] at hs
        obtain ⟨rfl, rfl⟩ := hs
        exact hf (by decide)

end Go.Proofs.YtidhnmmhniiolaaDoor

namespace Go.Proofs.YtidhnmmhniiolaaDoor
open Go.RowKit

/-- How many bytes the lines have. -/
def lnSum (ls : List (List UInt8)) : Nat := (ls.map List.length).sum
theorem lnSum_snoc (ls : List (List UInt8)) (x : List UInt8) : lnSum (ls ++ [x]) = lnSum ls + x.length := by simp [lnSum]
theorem sep_sum {p : UInt8} : ∀ (s : List UInt8) (o : List (List UInt8)) (l : List UInt8), lnSum (s.foldl (sepS p) (o, l)).1 + (s.foldl (sepS p) (o, l)).2.length ≤ lnSum o + l.length + s.length
  | [], o, l => by simp
  | c :: s, o, l => by
    rw [List.foldl_cons]
    by_cases h : c = p
    · have e : sepS p (o, l) c = (o ++ [l], []) := by simp [sepS, h]
      rw [e]
      have := sep_sum (p := p) s (o ++ [l]) []
      rw [lnSum_snoc] at this
      simp at this ⊢
      omega
    · have e : sepS p (o, l) c = (o, l ++ [c]) := by simp [sepS, h]
      rw [e]
      have := sep_sum (p := p) s o (l ++ [c])
      simp at this ⊢
      omega
theorem lines_sum (s : List UInt8) : lnSum (sepF 10 s).1 ≤ s.length := by
  have := sep_sum (p := 10) s [] []
  unfold sepF
  simp [lnSum] at this ⊢
  omega
theorem take_sum (ls : List (List UInt8)) (j : Nat) : lnSum (ls.take j) ≤ lnSum ls := by
  conv => rhs; rw [← List.take_append_drop j ls]
  unfold lnSum
  rw [List.map_append, List.sum_append]
  omega
theorem intsF_len : ∀ (ws : List (List UInt8)) (l : List Int), intsF ws = some l → l.length = ws.length
  | [], l, h => by simp [intsF] at h; subst h; rfl
  | w :: ws, l, h => by
    simp only [intsF] at h
    cases h1 : intF w with
    | none => rw [h1] at h; cases h
    | some n =>
      rw [h1] at h
      simp only at h
      cases h2 : intsF ws with
      | none => rw [h2] at h; cases h
      | some l2 =>
        rw [h2] at h
        simp only [Option.some.injEq] at h
        subst h
        simp [intsF_len ws l2 h2]
theorem cutF_len {s wd : List UInt8} {l : List Int} (h : cutF s = some (wd, l)) : l.length ≤ s.length ∧ wd.length ≤ s.length := by
  have hl := sep_len (p := 32) s [] []
  have hsum := sep_sum (p := 32) s [] []
  unfold cutF at h
  have e : s.foldl (sepS 32) ([], []) = sepF 32 s := rfl
  rw [e] at hl hsum
  generalize sepF 32 s = q at *
  obtain ⟨o, r⟩ := q
  simp only at h hl hsum
  cases o with
  | nil =>
    simp only [List.nil_append, intsF, Option.some.injEq, Prod.mk.injEq] at h
    obtain ⟨rfl, rfl⟩ := h
    simp at hl
    exact ⟨by simp, by omega⟩
  | cons x o =>
    simp only [List.cons_append] at h
    cases h2 : intsF (o ++ [r]) with
    | none => rw [h2] at h; cases h
    | some l2 =>
      rw [h2] at h
      simp only [Option.some.injEq, Prod.mk.injEq] at h
      obtain ⟨rfl, rfl⟩ := h
      have := intsF_len _ _ h2
      simp [lnSum] at hl this hsum
      exact ⟨by omega, by omega⟩
theorem linesF_snoc (ls : List (List UInt8)) (x : List UInt8) : linesF (ls ++ [x]) = lineS (linesF ls) x := by simp [linesF]
theorem lineS_none (x : List UInt8) : lineS none x = none := rfl
theorem linesF_bad (ls ms : List (List UInt8)) (h : linesF ls = none) : linesF (ls ++ ms) = none := by
  unfold linesF at *
  rw [List.foldl_append, h]
  induction ms with
  | nil => rfl
  | cons m ms ih => rw [List.foldl_cons]; exact ih

end Go.Proofs.YtidhnmmhniiolaaDoor

namespace Go.Proofs.YtidhnmmhniiolaaDoor
open Go.RowKit

/-- A plan in its box. -/
def PX (w W : World) (cs : Array Value) : Prop := Below w.heap.size w W ∧ W.heap[w.heap.size]? = some (.cells cs 27 (0, 0))
theorem PX.new (w : World) (cs : Array Value) : PX w (w.alloc (.cells cs 27)) cs := ⟨(Below.refl _ _).alloc (Nat.le_refl _) _, heap_alloc_new _ _⟩
theorem PX.below {w W W' : World} {cs : Array Value} (h : PX w W cs) (hb : Below W.heap.size W W') : PX w W' cs := ⟨h.1.trans (hb.mono h.1.size), below_row hb (row_lt h.2) h.2⟩

set_option maxHeartbeats 1000000 in
theorem l4Ids_any (a : Option Addr) (cap : Nat) (ids : List Int) (w : World) (hA : IntsAt w a ids) (hn : ids.length ≤ 1048576) :
    Calls Tryd.prog 52 #[.slice a ids.length cap] w fun e w' => e = .returned (.bool (idsB ids)) ∧ w' = w := by
  have HA : Hid (IntsAt w a ids) := hA
  clear hA
  obtain ⟨n, HN⟩ : ∃ n, Hid (ids.length = n) := ⟨_, rfl⟩
  rw [HN.out] at hn ⊢
  obtain ⟨x, HX⟩ : ∃ x, Hid (idsB ids = x) := ⟨_, rfl⟩
  rw [HX.out]
  go_enter Tryd.func52, Tryd.ntmps52
  go_wp2_with fail
  go_loop [3] (fun t => ∃ k : Nat, k ≤ n ∧ t = .int .i64 k ∧ idsTo ids k = true) (fun t => n - (intOf t).toNat)
  case atStart => exact ⟨0, Nat.zero_le _, rfl, idsTo_zero _⟩
  case round =>
    obtain ⟨k, hk, rfl, ht⟩ := hrel
    have HT : Hid (idsTo ids k = true) := ht
    clear ht
    by_cases hlt : k < n
    · have hkl : k < ids.length := by rw [HN.out]; exact hlt
      obtain ⟨b, off, rfl, hc⟩ := HA.out k hkl
      have HS : Hid (idsTo ids (k + 1) = (idsTo ids k && inB (ids.getD k 0) 1 1000000000)) := idsTo_succ ids k hkl
      have HBAD : Hid (inB (ids.getD k 0) 1 1000000000 = false → idsB ids = false) := idsB_bad hkl
      obtain ⟨v, HV⟩ : ∃ v, Hid (ids.getD k 0 = v) := ⟨_, rfl⟩
      rw [HV.out] at hc HS HBAD
      clear hkl
      have C := l1In_any v 1 1000000000 w
      cases h1 : inB v 1 1000000000
      · rw [h1] at C
        have hx : x = false := by rw [← HX.out]; exact HBAD.out h1
        subst hx
        clear h1
        go_wp2_with (go_at_call 53; refine C.mono ?_; rintro e w' ⟨rfl, rfl⟩)
        go_ret
        exact ⟨rfl, rfl⟩
      · rw [h1] at C
        have HS2 : Hid (idsTo ids (k + 1) = true) := by show _ = _; rw [HS.out, HT.out, h1]; rfl
        clear h1
        go_wp2_with (go_at_call 53; refine C.mono ?_; rintro e w' ⟨rfl, rfl⟩)
        go_round
        case rel => exact ⟨k + 1, by omega, by go_num, HS2.out⟩
        case measure => simp [intOf]; omega
    · have hkm : k = n := by omega
      have HE : Hid (x = decide ((n : Int) ≤ 12)) := by
        show _ = _
        rw [← HX.out]
        unfold idsB
        rw [HN.out, ← hkm, HT.out, Bool.and_true]
        by_cases h : k ≤ 12
        · rw [decide_eq_true h, decide_eq_true (by omega)]
        · rw [decide_eq_false h, decide_eq_false (by omega)]
      clear hkm
      go_wp2
      go_ret
      exact ⟨by rw [HE.out]; rfl, rfl⟩

set_option maxHeartbeats 2000000 in
theorem l4Form_any (ra la : Option Addr) (rc lc : Nat) (R : List RT) (L : List Int) (w : World) (hR : RoutesAt w ra R) (hL : IntsAt w la L) (hn : R.length ≤ 1048576) (hl : L.length ≤ 1048576) (hi : ∀ r ∈ R, r.ids.length ≤ 1048576) :
    Calls Tryd.prog 22 #[.agg #[.slice ra R.length rc, .slice la L.length lc]] w fun e w' => e = .returned (.bool (formB R L)) ∧ Below w.heap.size w w' := by
  have HR : Hid (RoutesAt w ra R) := hR
  have HL : Hid (IntsAt w la L) := hL
  have HI : Hid (∀ r ∈ R, r.ids.length ≤ 1048576) := hi
  have HLB : Hid (L.length ≤ 1048576) := hl
  clear hR hL hi
  obtain ⟨n, HN⟩ : ∃ n, Hid (R.length = n) := ⟨_, rfl⟩
  obtain ⟨l, HLL⟩ : ∃ l, Hid (L.length = l) := ⟨_, rfl⟩
  rw [HN.out] at hn ⊢
  rw [HLL.out] at hl ⊢
  obtain ⟨x, HX⟩ : ∃ x, Hid (formB R L = x) := ⟨_, rfl⟩
  rw [HX.out]
  have C0 : Hid (PX w (w.alloc (.cells #[.slice ra n rc, .slice la l lc] 27)) #[.slice ra n rc, .slice la l lc]) := PX.new w _
  obtain ⟨c0, c1⟩ := cells2 C0.out.2
  have CL := l4Ids_any la lc L (w.alloc (.cells #[.slice ra n rc, .slice la l lc] 27)) (HL.out.below C0.out.1) HLB.out
  rw [HLL.out] at CL
  by_cases hm : (5 : Int) < n
  · have hx : x = false := by rw [← HX.out]; exact formB_many (by rw [HN.out]; omega)
    subst hx
    clear CL
    go_enter Tryd.func22, Tryd.ntmps22
    go_wp2
    go_ret
    exact ⟨rfl, C0.out.1⟩
  cases hl1 : idsB L
  · have hx : x = false := by rw [← HX.out]; exact formB_left hl1
    subst hx
    rw [hl1] at CL
    clear hl1
    go_enter Tryd.func22, Tryd.ntmps22
    go_wp2_with (go_at_call 52; refine CL.mono ?_; rintro e w' ⟨rfl, rfl⟩)
    go_ret
    exact ⟨rfl, C0.out.1⟩
  have HLI : Hid (idsB L = true) := hl1
  rw [hl1] at CL
  clear hl1
  go_enter Tryd.func22, Tryd.ntmps22
  go_wp2_with (go_at_call 52; refine CL.mono ?_; rintro e w' ⟨rfl, rfl⟩)
  clear c0 c1 CL
  generalize w.alloc (.cells #[.slice ra n rc, .slice la l lc] 27) = W0 at *
  go_loopw [3] (fun t wr => ∃ k : Nat, k ≤ n ∧ t = .int .i64 k ∧ rtsTo R k = true ∧ PX w wr #[.slice ra n rc, .slice la l lc]) (fun t _ => n - (intOf t).toNat)
  case atStart => exact ⟨0, Nat.zero_le _, rfl, rtsTo_zero _, C0.out⟩
  case round =>
    clear C0
    obtain ⟨k, hk, rfl, ht, hp⟩ := hrel
    have HT : Hid (rtsTo R k = true) := ht
    have CW : Hid (PX w wr #[.slice ra n rc, .slice la l lc]) := hp
    clear ht hp
    obtain ⟨c0, c1⟩ := cells2 CW.out.2
    by_cases hlt : k < n
    · have hkl : k < R.length := by rw [HN.out]; exact hlt
      have hkn : (k : Int) < n := by omega
      obtain ⟨b, off, rfl, r0, r1, hI⟩ := (HR.out.below CW.out.1) k hkl
      have HS : Hid (rtsTo R (k + 1) = (rtsTo R k && (inB (R.getD k rt0).v 1 1000000000 && idsB (R.getD k rt0).ids))) := rtsTo_succ R k hkl
      have HBAD : Hid ((inB (R.getD k rt0).v 1 1000000000 && idsB (R.getD k rt0).ids) = false → formB R L = false) := formB_bad hkl
      have hil : (R.getD k rt0).ids.length ≤ 1048576 := HI.out _ (by rw [List.getD_eq_getElem?_getD, List.getElem?_eq_getElem hkl]; simp)
      generalize R.getD k rt0 = r at *
      obtain ⟨rv, rra, rids, rcc⟩ := r
      simp only at r0 r1 hI hil HS HBAD
      clear hkl
      have C1 := l1In_any rv 1 1000000000 wr
      have C2 := l4Ids_any rra rcc rids wr (hI) hil
      have HBW : Hid (Below wr.heap.size wr wr) := Below.refl _ _
      clear hI
      obtain ⟨m, HM⟩ : ∃ m, Hid (rids.length = m) := ⟨_, rfl⟩
      rw [HM.out] at r1 hil C2
      cases h1 : inB rv 1 1000000000
      · rw [h1] at C1
        have hx : x = false := by rw [← HX.out]; exact HBAD.out (by rw [h1]; rfl)
        subst hx
        clear h1 C2
        go_wp2_with (go_at_call 53; refine C1.mono ?_; rintro e w' ⟨rfl, rfl⟩)
        go_ret
        exact ⟨rfl, (CW.out.below HBW.out).1⟩
      · rw [h1] at C1 HS HBAD
        clear h1
        cases h2 : idsB rids
        · rw [h2] at C2
          have hx : x = false := by rw [← HX.out]; exact HBAD.out (by rw [h2]; rfl)
          subst hx
          clear h2
          go_wp2_with (first | (go_at_call 53; refine C1.mono ?_; rintro e w' ⟨rfl, rfl⟩) | (go_at_call 52; refine C2.mono ?_; rintro e w' ⟨rfl, rfl⟩))
          go_ret
          exact ⟨rfl, (CW.out.below HBW.out).1⟩
        · rw [h2] at C2
          have HS2 : Hid (rtsTo R (k + 1) = true) := by show _ = _; rw [HS.out, HT.out, h2]; rfl
          clear h2
          go_wp2_with (first | (go_at_call 53; refine C1.mono ?_; rintro e w' ⟨rfl, rfl⟩) | (go_at_call 52; refine C2.mono ?_; rintro e w' ⟨rfl, rfl⟩))
          go_roundw
          case rel => exact ⟨k + 1, by omega, by go_num, HS2.out, CW.out.below HBW.out⟩
          case measure => simp [intOf]; omega
    · have hkm : k = n := by omega
      have hx : x = true := by
        rw [← HX.out]
        exact formB_is (by rw [HN.out]; omega) HLI.out (by rw [HN.out, ← hkm]; exact HT.out)
      subst hx
      have hnlt : ¬ ((k : Int) < (n : Int)) := by omega
      clear hkm
      go_wp2
      go_ret
      exact ⟨rfl, CW.out.1⟩


end Go.Proofs.YtidhnmmhniiolaaDoor

namespace Go.Proofs.YtidhnmmhniiolaaDoor
open Go.RowKit

set_option maxHeartbeats 1000000 in
theorem idsOk_any (a : Option Addr) (cap : Nat) (ids : List Int) (w : World) (hA : IntsAt w a ids) (hn : ids.length ≤ 1048576) :
    Calls Tryd.prog 39 #[.slice a ids.length cap] w fun e w' => e = .returned (.bool (idsB ids)) ∧ w' = w := by
  have HA : Hid (IntsAt w a ids) := hA
  clear hA
  obtain ⟨n, HN⟩ : ∃ n, Hid (ids.length = n) := ⟨_, rfl⟩
  rw [HN.out] at hn ⊢
  obtain ⟨x, HX⟩ : ∃ x, Hid (idsB ids = x) := ⟨_, rfl⟩
  rw [HX.out]
  by_cases hm : (12 : Int) < n
  · have hx : x = false := by rw [← HX.out]; unfold idsB; rw [HN.out, decide_eq_false (by omega)]; rfl
    subst hx
    go_enter Tryd.func39, Tryd.ntmps39
    go_wp2
    go_ret
    exact ⟨rfl, rfl⟩
  go_enter Tryd.func39, Tryd.ntmps39
  go_wp2_with fail
  go_loop [10] (fun t => ∃ k : Nat, k ≤ n ∧ t = .int .i64 k ∧ idsTo ids k = true) (fun t => n - (intOf t).toNat)
  case atStart => exact ⟨0, Nat.zero_le _, rfl, idsTo_zero _⟩
  case round =>
    obtain ⟨k, hk, rfl, ht⟩ := hrel
    have HT : Hid (idsTo ids k = true) := ht
    clear ht
    by_cases hlt : k < n
    · have hkl : k < ids.length := by rw [HN.out]; exact hlt
      obtain ⟨b, off, rfl, hc⟩ := HA.out k hkl
      have HS : Hid (idsTo ids (k + 1) = (idsTo ids k && inB (ids.getD k 0) 1 1000000000)) := idsTo_succ ids k hkl
      have HBAD : Hid (inB (ids.getD k 0) 1 1000000000 = false → idsB ids = false) := idsB_bad hkl
      obtain ⟨v, HV⟩ : ∃ v, Hid (ids.getD k 0 = v) := ⟨_, rfl⟩
      rw [HV.out] at hc HS HBAD
      clear hkl
      have C := within_any v 1 1000000000 w
      cases h1 : inB v 1 1000000000
      · rw [h1] at C
        have hx : x = false := by rw [← HX.out]; exact HBAD.out h1
        subst hx
        clear h1
        go_wp2_with (go_at_call 40; refine C.mono ?_; rintro e w' ⟨rfl, rfl⟩)
        go_ret
        exact ⟨rfl, rfl⟩
      · rw [h1] at C
        have HS2 : Hid (idsTo ids (k + 1) = true) := by show _ = _; rw [HS.out, HT.out, h1]; rfl
        clear h1
        go_wp2_with (go_at_call 40; refine C.mono ?_; rintro e w' ⟨rfl, rfl⟩)
        go_round
        case rel => exact ⟨k + 1, by omega, by go_num, HS2.out⟩
        case measure => simp [intOf]; omega
    · have hkm : k = n := by omega
      have hx : x = true := by
        rw [← HX.out]
        unfold idsB
        rw [HN.out, ← hkm, HT.out, Bool.and_true, decide_eq_true (by omega)]
      subst hx
      clear hkm
      go_wp2
      go_ret
      exact ⟨rfl, rfl⟩

set_option maxHeartbeats 2000000 in
theorem canBe_any (ra la : Option Addr) (rc lc : Nat) (R : List RT) (L : List Int) (w : World) (hR : RoutesAt w ra R) (hL : IntsAt w la L) (hn : R.length ≤ 1048576) (hl : L.length ≤ 1048576) (hi : ∀ r ∈ R, r.ids.length ≤ 1048576) :
    Calls Tryd.prog 15 #[.agg #[.slice ra R.length rc, .slice la L.length lc]] w fun e w' => e = .returned (.bool (formB R L)) ∧ Below w.heap.size w w' := by
  have HR : Hid (RoutesAt w ra R) := hR
  have HL : Hid (IntsAt w la L) := hL
  have HI : Hid (∀ r ∈ R, r.ids.length ≤ 1048576) := hi
  have HLB : Hid (L.length ≤ 1048576) := hl
  clear hR hL hi
  obtain ⟨n, HN⟩ : ∃ n, Hid (R.length = n) := ⟨_, rfl⟩
  obtain ⟨l, HLL⟩ : ∃ l, Hid (L.length = l) := ⟨_, rfl⟩
  rw [HN.out] at hn ⊢
  rw [HLL.out] at hl ⊢
  obtain ⟨x, HX⟩ : ∃ x, Hid (formB R L = x) := ⟨_, rfl⟩
  rw [HX.out]
  have C0 : Hid (PX w (w.alloc (.cells #[.slice ra n rc, .slice la l lc] 27)) #[.slice ra n rc, .slice la l lc]) := PX.new w _
  obtain ⟨c0, c1⟩ := cells2 C0.out.2
  have CL := idsOk_any la lc L (w.alloc (.cells #[.slice ra n rc, .slice la l lc] 27)) (HL.out.below C0.out.1) HLB.out
  rw [HLL.out] at CL
  by_cases hm : (5 : Int) < n
  · have hx : x = false := by rw [← HX.out]; exact formB_many (by rw [HN.out]; omega)
    subst hx
    clear CL
    go_enter Tryd.func15, Tryd.ntmps15
    go_wp2
    go_ret
    exact ⟨rfl, C0.out.1⟩
  cases hl1 : idsB L
  · have hx : x = false := by rw [← HX.out]; exact formB_left hl1
    subst hx
    rw [hl1] at CL
    clear hl1
    go_enter Tryd.func15, Tryd.ntmps15
    go_wp2_with (go_at_call 39; refine CL.mono ?_; rintro e w' ⟨rfl, rfl⟩)
    go_ret
    exact ⟨rfl, C0.out.1⟩
  have HLI : Hid (idsB L = true) := hl1
  rw [hl1] at CL
  clear hl1
  go_enter Tryd.func15, Tryd.ntmps15
  go_wp2_with (go_at_call 39; refine CL.mono ?_; rintro e w' ⟨rfl, rfl⟩)
  clear c0 c1 CL
  generalize w.alloc (.cells #[.slice ra n rc, .slice la l lc] 27) = W0 at *
  go_loopw [18] (fun t wr => ∃ k : Nat, k ≤ n ∧ t = .int .i64 k ∧ rtsTo R k = true ∧ PX w wr #[.slice ra n rc, .slice la l lc]) (fun t _ => n - (intOf t).toNat)
  case atStart => exact ⟨0, Nat.zero_le _, rfl, rtsTo_zero _, C0.out⟩
  case round =>
    clear C0
    obtain ⟨k, hk, rfl, ht, hp⟩ := hrel
    have HT : Hid (rtsTo R k = true) := ht
    have CW : Hid (PX w wr #[.slice ra n rc, .slice la l lc]) := hp
    clear ht hp
    obtain ⟨c0, c1⟩ := cells2 CW.out.2
    by_cases hlt : k < n
    · have hkl : k < R.length := by rw [HN.out]; exact hlt
      have hkn : (k : Int) < n := by omega
      obtain ⟨b, off, rfl, r0, r1, hI⟩ := (HR.out.below CW.out.1) k hkl
      have HS : Hid (rtsTo R (k + 1) = (rtsTo R k && (inB (R.getD k rt0).v 1 1000000000 && idsB (R.getD k rt0).ids))) := rtsTo_succ R k hkl
      have HBAD : Hid ((inB (R.getD k rt0).v 1 1000000000 && idsB (R.getD k rt0).ids) = false → formB R L = false) := formB_bad hkl
      have hil : (R.getD k rt0).ids.length ≤ 1048576 := HI.out _ (by rw [List.getD_eq_getElem?_getD, List.getElem?_eq_getElem hkl]; simp)
      generalize R.getD k rt0 = r at *
      obtain ⟨rv, rra, rids, rcc⟩ := r
      simp only at r0 r1 hI hil HS HBAD
      clear hkl
      have C1 := within_any rv 1 1000000000 (wr.alloc (.cells #[.int .i64 rv, .slice rra rids.length rcc] 49))
      have C2 := idsOk_any rra rcc rids (wr.alloc (.cells #[.int .i64 rv, .slice rra rids.length rcc] 49)) (hI.below ((Below.refl _ _).alloc (Nat.le_refl _) _)) hil
      have HBW : Hid (Below wr.heap.size wr (wr.alloc (.cells #[.int .i64 rv, .slice rra rids.length rcc] 49))) := (Below.refl _ _).alloc (Nat.le_refl _) _
      clear hI
      obtain ⟨m, HM⟩ : ∃ m, Hid (rids.length = m) := ⟨_, rfl⟩
      rw [HM.out] at r1 hil C2
      rw [HM.out] at C1 HBW
      cases h1 : inB rv 1 1000000000
      · rw [h1] at C1
        have hx : x = false := by rw [← HX.out]; exact HBAD.out (by rw [h1]; rfl)
        subst hx
        clear h1 C2
        go_wp2_with (go_at_call 40; refine C1.mono ?_; rintro e w' ⟨rfl, rfl⟩)
        go_ret
        exact ⟨rfl, (CW.out.below HBW.out).1⟩
      · rw [h1] at C1 HS HBAD
        clear h1
        cases h2 : idsB rids
        · rw [h2] at C2
          have hx : x = false := by rw [← HX.out]; exact HBAD.out (by rw [h2]; rfl)
          subst hx
          clear h2
          go_wp2_with (first | (go_at_call 40; refine C1.mono ?_; rintro e w' ⟨rfl, rfl⟩) | (go_at_call 39; refine C2.mono ?_; rintro e w' ⟨rfl, rfl⟩))
          go_ret
          exact ⟨rfl, (CW.out.below HBW.out).1⟩
        · rw [h2] at C2
          have HS2 : Hid (rtsTo R (k + 1) = true) := by show _ = _; rw [HS.out, HT.out, h2]; rfl
          clear h2
          go_wp2_with (first | (go_at_call 40; refine C1.mono ?_; rintro e w' ⟨rfl, rfl⟩) | (go_at_call 39; refine C2.mono ?_; rintro e w' ⟨rfl, rfl⟩))
          go_roundw
          case rel => exact ⟨k + 1, by omega, by go_num, HS2.out, CW.out.below HBW.out⟩
          case measure => simp [intOf]; omega
    · have hkm : k = n := by omega
      have hx : x = true := by
        rw [← HX.out]
        exact formB_is (by rw [HN.out]; omega) HLI.out (by rw [HN.out, ← hkm]; exact HT.out)
      subst hx
      have hnlt : ¬ ((k : Int) < (n : Int)) := by omega
      clear hkm
      go_wp2
      go_ret
      exact ⟨rfl, CW.out.1⟩


end Go.Proofs.YtidhnmmhniiolaaDoor
