import Derived.Test.YtcapkcallaajaaaGreatDoorPack0
import Derived.Test.YtcapkcallaajaaaGreatDoorPack1
import Derived.Test.YtcapkcallaajaaaGreatDoorPack2
import Derived.Test.YtcapkcallaajaaaGreatDoorPack3
namespace Go.Proofs.YtcapkcallaajaaaGreatDoor
open Go.RowKit
def idsTo (ids : List Int) (k : Nat) : Bool := (ids.take k).all fun x => inB x 1 1000000000
def idsB (ids : List Int) : Bool := decide (ids.length <= 12) && idsTo ids ids.length
theorem idsTo_zero (ids : List Int) : idsTo ids 0 = true := by simp [idsTo]
theorem idsTo_succ (ids : List Int) (k : Nat) (h : k < ids.length) : idsTo ids (k + 1) = (idsTo ids k && inB (ids.getD k 0) 1 1000000000) := by
 unfold idsTo
 rw [take_snoc ids k h, List.all_append]
 simp
theorem idsB_bad {ids : List Int} {k : Nat} (h : k < ids.length) (hb : inB (ids.getD k 0) 1 1000000000 = false) : idsB ids = false := by
 unfold idsB idsTo
 rw [List.take_length]
 rw [Bool.and_eq_false_iff]
 right
 rw [List.all_eq_false]
 refine ⟨ids.getD k 0, ?_, by rw [hb]; simp⟩
 rw [List.getD_eq_getElem?_getD, List.getElem?_eq_getElem h]
 simp
theorem idsB_small {ids : List Int} (h : idsB ids = true) : ids.length <= 12 /\ Small ids := by
 unfold idsB idsTo at h
 rw [List.take_length] at h
 simp only [Bool.and_eq_true, decide_eq_true_eq, List.all_eq_true] at h
 refine ⟨h.1, fun x hx => ?_⟩
 have := h.2 x hx
 unfold inB at this
 simp at this
 omega
def rtsTo (R : List RT) (k : Nat) : Bool := (R.take k).all fun r => inB r.v 1 1000000000 && idsB r.ids
def formB (R : List RT) (L : List Int) : Bool := decide (R.length <= 5) && idsB L && rtsTo R R.length
theorem rtsTo_zero (R : List RT) : rtsTo R 0 = true := by simp [rtsTo]
theorem rtsTo_succ (R : List RT) (k : Nat) (h : k < R.length) : rtsTo R (k + 1) = (rtsTo R k && (inB (R.getD k rt0).v 1 1000000000 && idsB (R.getD k rt0).ids)) := by
 unfold rtsTo
 have e : R.take (k + 1) = R.take k ++ [R.getD k rt0] := by
  rw [List.take_add_one, List.getD_eq_getElem?_getD, List.getElem?_eq_getElem h]
  simp
 rw [e, List.all_append]
 simp
theorem formB_bad {R : List RT} {L : List Int} {k : Nat} (h : k < R.length) (hb : (inB (R.getD k rt0).v 1 1000000000 && idsB (R.getD k rt0).ids) = false) : formB R L = false := by
 unfold formB rtsTo
 rw [List.take_length, Bool.and_eq_false_iff]
 right
 rw [List.all_eq_false]
 refine ⟨R.getD k rt0, ?_, by rw [hb]; simp⟩
 rw [List.getD_eq_getElem?_getD, List.getElem?_eq_getElem h]
 simp
theorem formB_parts {R : List RT} {L : List Int} (h : formB R L = true) : R.length <= 5 /\ idsB L = true /\ ∀ k, k < R.length -> inB (R.getD k rt0).v 1 1000000000 = true /\ idsB (R.getD k rt0).ids = true := by
 unfold formB rtsTo at h
 rw [List.take_length] at h
 simp only [Bool.and_eq_true, decide_eq_true_eq, List.all_eq_true] at h
 refine ⟨h.1.1, h.1.2, fun k hk => ?_⟩
 have hm : R.getD k rt0 ∈ R := by rw [List.getD_eq_getElem?_getD, List.getElem?_eq_getElem hk]; simp
 exact h.2 _ hm
theorem formB_is {R : List RT} {L : List Int} (h1 : R.length <= 5) (h2 : idsB L = true) (h3 : rtsTo R R.length = true) : formB R L = true := by
 unfold formB
 rw [h2, h3]
 simp [h1]
theorem formB_many {R : List RT} {L : List Int} (h1 : ¬ R.length <= 5) : formB R L = false := by
 unfold formB
 simp only [h1, decide_false, Bool.false_and]
theorem formB_left {R : List RT} {L : List Int} (h1 : idsB L = false) : formB R L = false := by
 unfold formB
 rw [h1]
 simp
theorem formB_key {R S : List RT} (L : List Int) (h : S.map RT.key = R.map RT.key) : formB S L = formB R L := by
 have hl : S.length = R.length := by have := congrArg List.length h; simpa using this
 have : ∀ T : List RT, T.all (fun r => inB r.v 1 1000000000 && idsB r.ids) = (T.map RT.key).all (fun q => inB q.1 1 1000000000 && idsB q.2) := fun T => by
  rw [List.all_map]
  rfl
 unfold formB rtsTo
 rw [List.take_length, List.take_length, this S, this R, h, hl]
def wRoute : List UInt8 := [114, 111, 117, 116, 101]
def wLeft : List UInt8 := [108, 101, 102, 116]
def routesL (R : List RT) : Nat -> List UInt8
 | 0 => []
 | k + 1 => routesL R k ++ lineL wRoute ((R.getD k rt0).v :: (R.getD k rt0).ids)
def planL (R : List RT) (L : List Int) : List UInt8 := routesL R R.length ++ lineL wLeft L
theorem routesL_key {R S : List RT} (h : S.map RT.key = R.map RT.key) : ∀ k, routesL S k = routesL R k
 | 0 => rfl
 | k + 1 => by
   have e : RT.key (S.getD k rt0) = RT.key (R.getD k rt0) := by
    have h2 := congrArg (fun l : List (Int × List Int) => l[k]?) h
    simp only [List.getElem?_map] at h2
    rw [List.getD_eq_getElem?_getD, List.getD_eq_getElem?_getD]
    cases h3 : S[k]? <;> cases h4 : R[k]? <;> simp [h3, h4] at h2 ⊢
    exact h2
   unfold RT.key at e
   simp only [Prod.mk.injEq] at e
   simp only [routesL]
   rw [routesL_key h k, e.1, e.2]
theorem planL_key {R S : List RT} (L : List Int) (h : S.map RT.key = R.map RT.key) : planL S L = planL R L := by
 have hl : S.length = R.length := by have := congrArg List.length h; simpa using this
 unfold planL
 rw [routesL_key h, hl]
theorem row_smallR {R : List RT} {L : List Int} (h : formB R L = true) {k : Nat} (hk : k < R.length) : Small ((R.getD k rt0).v :: (R.getD k rt0).ids) /\ (R.getD k rt0).ids.length <= 12 := by
 obtain ⟨h1, h2⟩ := (formB_parts h).2.2 k hk
 obtain ⟨h3, h4⟩ := idsB_small h2
 refine ⟨fun x hx => ?_, h3⟩
 rcases List.mem_cons.1 hx with rfl | hx
 · unfold inB at h1
   simp only [decide_eq_true_eq] at h1
   omega
 · exact h4 x hx
theorem routesL_len {R : List RT} {L : List Int} (h : formB R L = true) : ∀ k, k <= R.length -> (routesL R k).length <= 400 * k
 | 0, _ => by simp [routesL]
 | k + 1, hk => by
   have ih := routesL_len h k (by omega)
   obtain ⟨h1, h2⟩ := row_smallR h (show k < R.length by omega)
   have hl := lineL_len wRoute _ h1
   have hw : wRoute.length = 5 := rfl
   simp only [routesL]
   rw [List.length_append]
   simp only [List.length_cons] at hl
   omega
def isDg (c : UInt8) : Bool := decide (48 <= c.toNat /\ c.toNat <= 57)
def dval (d : List UInt8) : Nat := d.foldl (fun n c => n * 10 + (c.toNat - 48)) 0
def okDg (d : List UInt8) : Bool := decide (0 < d.length /\ d.length <= 10 /\ (d.length = 1 ∨ d.headD 0 ≠ 48))
theorem dval_snoc (l : List UInt8) (c : UInt8) : dval (l ++ [c]) = dval l * 10 + (c.toNat - 48) := by simp [dval]
theorem decS {j : Nat} (h : j < 10) : Lib.decDigits j = [UInt8.ofNat (48 + j)] := by rw [Lib.decDigits, dif_pos h]
theorem decB {j : Nat} (h : ¬ j < 10) : Lib.decDigits j = Lib.decDigits (j / 10) ++ [UInt8.ofNat (48 + j % 10)] := by rw [Lib.decDigits, dif_neg h]
theorem ofNat_toNat {j : Nat} (h : j < 10) : (UInt8.ofNat (48 + j)).toNat = 48 + j := by
 rw [UInt8.toNat_ofNat']
 omega
theorem dec_parts : ∀ (m n : Nat), n <= m -> (∀ c ∈ Lib.decDigits n, isDg c = true) /\ dval (Lib.decDigits n) = n /\ 0 < (Lib.decDigits n).length /\ ((Lib.decDigits n).length = 1 ∨ (Lib.decDigits n).headD 0 ≠ 48)
 | m, n, hm => by
   by_cases h : n < 10
   · rw [decS h]
     refine ⟨fun c hc => ?_, ?_, by simp, .inl (by simp)⟩
     · rw [List.mem_singleton] at hc
       subst hc
       unfold isDg
       rw [ofNat_toNat h]
       simp
       omega
     · simp only [dval, List.foldl_cons, List.foldl_nil]
       rw [ofNat_toNat h]
       omega
   · match m, hm with
     | 0, hm => omega
     | m + 1, hm =>
       obtain ⟨h1, h2, h3, h4⟩ := dec_parts m (n / 10) (by omega)
       have h9 : n % 10 < 10 := Nat.mod_lt _ (by omega)
       rw [decB h]
       refine ⟨fun c hc => ?_, ?_, by simp, .inr ?_⟩
       · rcases List.mem_append.1 hc with hc | hc
         · exact h1 c hc
         · rw [List.mem_singleton] at hc
           subst hc
           unfold isDg
           rw [ofNat_toNat h9]
           simp
           omega
       · rw [dval_snoc, h2, ofNat_toNat h9]
         omega
       · by_cases hs : n / 10 < 10
         · rw [decS hs]
           simp only [List.cons_append, List.headD_cons]
           intro e
           have := congrArg UInt8.toNat e
           rw [ofNat_toNat hs] at this
           have : (48 : UInt8).toNat = 48 := rfl
           omega
         · rcases h4 with h4 | h4
           · rw [decB hs] at h4
             have := (dec_parts m (n / 10 / 10) (by omega)).2.2.1
             simp at h4
             rw [h4] at this
             simp at this
           · cases hd : Lib.decDigits (n / 10) with
             | nil => rw [hd] at h3; simp at h3
             | cons x xs => rw [hd] at h4; simpa using h4
theorem dval_lt : ∀ (m : Nat) (d : List UInt8), d.length = m -> (∀ c ∈ d, isDg c = true) -> dval d < 10 ^ m
 | 0, d, hl, _ => by
   obtain rfl : d = [] := List.length_eq_zero_iff.1 hl
   simp [dval]
 | m + 1, d, hl, hd => by
   obtain ⟨l, c, rfl⟩ : ∃ l c, d = l ++ [c] := ⟨d.dropLast, d.getLast (by intro e; simp [e] at hl), (List.dropLast_concat_getLast _).symm⟩
   have ih := dval_lt m l (by simp at hl; omega) (fun x hx => hd x (by simp [hx]))
   have hc := hd c (by simp)
   unfold isDg at hc
   simp at hc
   rw [dval_snoc, Nat.pow_succ]
   omega
theorem dec_len10 {n : Nat} (h : n < 10000000000) : (Lib.decDigits n).length <= 10 := by
 have key : ∀ (m n : Nat), n < 10 ^ (m + 1) -> (Lib.decDigits n).length <= m + 1 := by
  intro m
  induction m with
  | zero => intro n h; rw [decS (by simpa using h)]; simp
  | succ m ih =>
    intro n h
    by_cases hj : n < 10
    · rw [decS hj]; simp
    · rw [decB hj, List.length_append]
      have := ih (n / 10) (by rw [Nat.div_lt_iff_lt_mul (by omega)]; rw [Nat.pow_succ] at h; exact h)
      simp
      omega
 exact key 9 n (by simpa using h)
theorem dec_dval : ∀ (m : Nat) (d : List UInt8), d.length = m + 1 -> (∀ c ∈ d, isDg c = true) -> (d.length = 1 ∨ d.headD 0 ≠ 48) -> Lib.decDigits (dval d) = d /\ (d.headD 0 ≠ 48 -> 0 < dval d)
 | 0, d, hl, hd, _ => by
   obtain ⟨c, rfl⟩ : ∃ c, d = [c] := List.length_eq_one_iff.1 hl
   have hc := hd c (by simp)
   unfold isDg at hc
   simp at hc
   have e : dval [c] = c.toNat - 48 := by simp [dval]
   rw [e, decS (by omega)]
   refine ⟨?_, fun h => ?_⟩
   · congr 1
     rw [show 48 + (c.toNat - 48) = c.toNat by omega]
     simp
   · simp at h
     have : c.toNat ≠ 48 := fun e => h (by rw [<- UInt8.toNat_inj]; exact e)
     omega
 | m + 1, d, hl, hd, hz => by
   obtain ⟨l, c, rfl⟩ : ∃ l c, d = l ++ [c] := ⟨d.dropLast, d.getLast (by intro e; simp [e] at hl), (List.dropLast_concat_getLast _).symm⟩
   have hll : l.length = m + 1 := by simp at hl; omega
   have hh : l.headD 0 ≠ 48 := by
    rcases hz with hz | hz
    · omega
    · cases l with
      | nil => simp at hll
      | cons x xs => simpa using hz
   obtain ⟨h1, h2⟩ := dec_dval m l hll (fun x hx => hd x (by simp [hx])) (.inr hh)
   have h3 := h2 hh
   have hc := hd c (by simp)
   unfold isDg at hc
   simp at hc
   have e : dval (l ++ [c]) = dval l * 10 + (c.toNat - 48) := dval_snoc l c
   rw [e, decB (by omega)]
   refine ⟨?_, fun _ => by omega⟩
   rw [show (dval l * 10 + (c.toNat - 48)) / 10 = dval l by omega, h1, show (dval l * 10 + (c.toNat - 48)) % 10 = c.toNat - 48 by omega, show 48 + (c.toNat - 48) = c.toNat by omega]
   simp
theorem takeWhile_all : ∀ (s : List UInt8), ∀ c ∈ s.takeWhile isDg, isDg c = true
 | [], c, h => by simp at h
 | x :: s, c, h => by
   rw [List.takeWhile_cons] at h
   split at h
   · rename_i hx
     rcases List.mem_cons.1 h with rfl | h
     · exact hx
     · exact takeWhile_all s c h
   · simp at h
theorem drop_takeWhile : ∀ (s : List UInt8), s.drop (s.takeWhile isDg).length = s.dropWhile isDg
 | [] => by simp
 | x :: s => by
   rw [List.takeWhile_cons, List.dropWhile_cons]
   split
   · simp [drop_takeWhile s]
   · simp
def noDg (s : List UInt8) : Bool := match s with | [] => true | c :: _ => !isDg c
theorem noDg_drop : ∀ (s : List UInt8), noDg (s.dropWhile isDg) = true
 | [] => rfl
 | x :: s => by
   rw [List.dropWhile_cons]
   split
   · exact noDg_drop s
   · rename_i h
     simp [noDg, h]
def numF (s : List UInt8) : Option (Nat × List UInt8) := if okDg (s.takeWhile isDg) = true then some (dval (s.takeWhile isDg), s.drop (s.takeWhile isDg).length) else none
theorem takeWhile_dg {d r : List UInt8} (hd : ∀ c ∈ d, isDg c = true) (hr : noDg r = true) : (d ++ r).takeWhile isDg = d := by
 rw [List.takeWhile_append_of_pos hd]
 cases r with
 | nil => simp
 | cons c r => simp [noDg] at hr; simp [hr]
theorem itoa_nat (n : Nat) : Lib.itoa (n : Int) = Lib.decDigits n := by unfold Lib.itoa; rw [if_neg (by omega)]; simp
theorem numF_of {n : Nat} {r : List UInt8} (h : n < 10000000000) (hr : noDg r = true) : numF (Lib.decDigits n ++ r) = some (n, r) := by
 obtain ⟨h1, h2, h3, h4⟩ := dec_parts n n (Nat.le_refl _)
 unfold numF
 rw [takeWhile_dg h1 hr, if_pos (by unfold okDg; exact decide_eq_true ⟨h3, dec_len10 h, h4⟩), h2]
 simp
theorem numF_is {s : List UInt8} {n : Nat} {r : List UInt8} (h : numF s = some (n, r)) : s = Lib.decDigits n ++ r /\ n < 10000000000 /\ noDg r = true := by
 unfold numF at h
 split at h
 · rename_i ho
   simp only [Option.some.injEq, Prod.mk.injEq] at h
   obtain ⟨rfl, rfl⟩ := h
   unfold okDg at ho
   have ho := of_decide_eq_true ho
   have hall : ∀ c ∈ s.takeWhile isDg, isDg c = true := takeWhile_all s
   obtain ⟨h1, _⟩ := dec_dval ((s.takeWhile isDg).length - 1) (s.takeWhile isDg) (by omega) hall ho.2.2
   refine ⟨?_, ?_, ?_⟩
   · rw [h1]
     have := List.takeWhile_append_dropWhile (p := isDg) (l := s)
     rw [drop_takeWhile] 
     exact this.symm
   · have := dval_lt _ _ rfl hall
     exact Nat.lt_of_lt_of_le this (Nat.pow_le_pow_right (by omega) ho.2.1)
   · rw [drop_takeWhile]
     exact noDg_drop s
 · cases h
def idsF : Nat -> List UInt8 -> Option (List Int × List UInt8)
 | _, [] => none
 | k, c :: s =>
   if c = 32 then
    match k with
    | 0 => none
    | k + 1 => match numF s with
      | none => none
      | some (n, r) => if inB n 1 1000000000 = true then (match idsF k r with | none => none | some (l, r2) => some ((n : Int) :: l, r2)) else none
   else if c = 10 then some ([], s) else none
def idsT (ids : List Int) : List UInt8 := ids.flatMap fun n => 32 :: Lib.itoa n
theorem idsT_nums (ids : List Int) : numsTo ids ids.length = idsT ids := by unfold numsTo idsT; rw [List.take_length]
theorem noDg_ids (ids : List Int) (r : List UInt8) : noDg (idsT ids ++ 10 :: r) = true := by
 cases ids with
 | nil => rfl
 | cons n ids => rfl
theorem inB_nat {n : Int} (h : inB n 1 1000000000 = true) : ∃ m : Nat, n = (m : Int) /\ m < 10000000000 := by
 unfold inB at h
 simp only [decide_eq_true_eq] at h
 exact ⟨n.toNat, by omega, by omega⟩
theorem idsF_of : ∀ (ids : List Int) (k : Nat) (r : List UInt8), ids.length <= k -> (∀ x ∈ ids, inB x 1 1000000000 = true) -> idsF k (idsT ids ++ 10 :: r) = some (ids, r)
 | [], k, r, _, _ => by
   show idsF k (10 :: r) = _
   cases k <;> simp [idsF]
 | n :: ids, 0, r, h, _ => by simp at h
 | n :: ids, k + 1, r, h, ha => by
   obtain ⟨m, rfl, hm⟩ := inB_nat (ha n (by simp))
   have ih := idsF_of ids k r (by simp at h; omega) (fun x hx => ha x (by simp [hx]))
   have e : idsT ((m : Int) :: ids) ++ 10 :: r = 32 :: (Lib.decDigits m ++ (idsT ids ++ 10 :: r)) := by
    unfold idsT
    rw [List.flatMap_cons, itoa_nat]
    simp
   rw [e]
   simp only [idsF, if_pos]
   rw [numF_of hm (noDg_ids ids r)]
   simp only [ha m (by simp), if_pos, ih]
theorem idsF_is : ∀ (k : Nat) (s : List UInt8) (ids : List Int) (r : List UInt8), idsF k s = some (ids, r) -> s = idsT ids ++ 10 :: r /\ ids.length <= k /\ ∀ x ∈ ids, inB x 1 1000000000 = true
 | _, [], ids, r, h => by simp [idsF] at h
 | k, c :: s, ids, r, h => by
   by_cases hc : c = 32
   · subst hc
     match k, h with
     | 0, h => simp [idsF] at h
     | k + 1, h =>
       simp only [idsF, if_pos] at h
       cases hn : numF s with
       | none => rw [hn] at h; cases h
       | some q =>
         obtain ⟨n, r1⟩ := q
         rw [hn] at h
         simp only at h
         split at h
         · rename_i hi
           cases hq : idsF k r1 with
           | none => rw [hq] at h; cases h
           | some z =>
             obtain ⟨l, r2⟩ := z
             rw [hq] at h
             simp only [Option.some.injEq, Prod.mk.injEq] at h
             obtain ⟨rfl, rfl⟩ := h
             obtain ⟨h1, h2, h3⟩ := idsF_is k r1 l r2 hq
             obtain ⟨h4, _, _⟩ := numF_is hn
             refine ⟨?_, by simp; omega, fun x hx => ?_⟩
             · rw [h4, h1]
               unfold idsT
               rw [List.flatMap_cons, itoa_nat]
               simp
             · rcases List.mem_cons.1 hx with rfl | hx
               · exact hi
               · exact h3 x hx
         · cases h
   · have e : idsF k (c :: s) = if c = 10 then some ([], s) else none := by cases k <;> simp [idsF, hc]
     rw [e] at h
     split at h
     · rename_i h10
       simp only [Option.some.injEq, Prod.mk.injEq] at h
       obtain ⟨rfl, rfl⟩ := h
       subst h10
       exact ⟨rfl, by simp, by simp⟩
     · cases h
def wRouteB : List UInt8 := [114, 111, 117, 116, 101, 32]
def idF (s : List UInt8) : Option (Int × List UInt8) := match numF s with | none => none | some (n, r) => if inB n 1 1000000000 = true then some ((n : Int), r) else none
def routesF : Nat -> List UInt8 -> Option (List RT × List UInt8)
 | k, s =>
   if wRouteB.isPrefixOf s = true then
    match k with
    | 0 => none
    | k + 1 => match idF (s.drop 6) with
      | none => none
      | some (v, r) => match idsF 12 r with
        | none => none
        | some (ids, r2) => match routesF k r2 with
          | none => none
          | some (R, r3) => some (⟨v, none, ids, 0⟩ :: R, r3)
   else some ([], s)
def planF (s : List UInt8) : Option (List RT × List Int × List UInt8) := match routesF 5 s with
 | none => none
 | some (R, r) => if wLeft.isPrefixOf r = true then (match idsF 12 (r.drop 4) with | none => none | some (L, r2) => some (R, L, r2)) else none
def readF (s : List UInt8) : Option (List RT × List Int) := match planF s with | none => none | some (R, L, r) => if r = [] then some (R, L) else none
def rtsT (R : List RT) : List UInt8 := R.flatMap fun r => lineL wRoute (r.v :: r.ids)
theorem rtsT_routes (R : List RT) : routesL R R.length = rtsT R := by
 have key : ∀ k, k <= R.length -> routesL R k = rtsT (R.take k) := by
  intro k
  induction k with
  | zero => intro _; simp [routesL, rtsT]
  | succ k ih =>
    intro h
    have e : R.take (k + 1) = R.take k ++ [R.getD k rt0] := by
     rw [List.take_add_one, List.getD_eq_getElem?_getD, List.getElem?_eq_getElem (by omega)]
     simp
    rw [e]
    simp only [routesL]
    rw [ih (by omega)]
    simp [rtsT]
 have := key R.length (Nat.le_refl _)
 rw [List.take_length] at this
 exact this
def bare (r : RT) : RT := ⟨r.v, none, r.ids, 0⟩
theorem line_route (v : Int) (ids : List Int) (s : List UInt8) : lineL wRoute (v :: ids) ++ s = wRouteB ++ (Lib.itoa v ++ (idsT ids ++ 10 :: s)) := by
 unfold lineL
 rw [idsT_nums]
 unfold idsT wRoute wRouteB
 simp
theorem prefix_app (a s : List UInt8) : a.isPrefixOf (a ++ s) = true := by
 rw [List.isPrefixOf_iff_prefix]
 exact List.prefix_append _ _
theorem prefix_is {a s : List UInt8} (h : a.isPrefixOf s = true) : s = a ++ s.drop a.length := by
 rw [List.isPrefixOf_iff_prefix] at h
 obtain ⟨t, rfl⟩ := h
 simp
def rtOk (r : RT) : Prop := inB r.v 1 1000000000 = true /\ r.ids.length <= 12 /\ ∀ x ∈ r.ids, inB x 1 1000000000 = true
theorem idF_of {v : Int} {r : List UInt8} (h : inB v 1 1000000000 = true) (hr : noDg r = true) : idF (Lib.itoa v ++ r) = some (v, r) := by
 obtain ⟨m, rfl, hm⟩ := inB_nat h
 unfold idF
 rw [itoa_nat, numF_of hm hr]
 simp only [h, if_pos]
theorem idF_is {s : List UInt8} {v : Int} {r : List UInt8} (h : idF s = some (v, r)) : s = Lib.itoa v ++ r /\ inB v 1 1000000000 = true := by
 unfold idF at h
 cases hn : numF s with
 | none => rw [hn] at h; cases h
 | some q =>
   obtain ⟨n, r1⟩ := q
   rw [hn] at h
   simp only at h
   split at h
   · rename_i hi
     simp only [Option.some.injEq, Prod.mk.injEq] at h
     obtain ⟨rfl, rfl⟩ := h
     rw [itoa_nat]
     exact ⟨(numF_is hn).1, hi⟩
   · cases h
theorem routesF_of : ∀ (R : List RT) (k : Nat) (s : List UInt8), R.length <= k -> (∀ r ∈ R, rtOk r) -> wRouteB.isPrefixOf s = false -> routesF k (rtsT R ++ s) = some (R.map bare, s)
 | [], k, s, _, _, hs => by
   unfold rtsT
   rw [List.flatMap_nil, List.nil_append]
   unfold routesF
   rw [if_neg (by rw [hs]; simp)]
   rfl
 | r :: R, 0, s, h, _, _ => by simp at h
 | r :: R, k + 1, s, h, ha, hs => by
   have ih := routesF_of R k s (by simp at h; omega) (fun x hx => ha x (by simp [hx])) hs
   obtain ⟨h1, h2, h3⟩ := ha r (by simp)
   have e : rtsT (r :: R) ++ s = wRouteB ++ (Lib.itoa r.v ++ (idsT r.ids ++ 10 :: (rtsT R ++ s))) := by
    rw [<- line_route]
    simp [rtsT]
   rw [e]
   unfold routesF
   rw [if_pos (prefix_app _ _)]
   have e2 : (wRouteB ++ (Lib.itoa r.v ++ (idsT r.ids ++ 10 :: (rtsT R ++ s)))).drop 6 = Lib.itoa r.v ++ (idsT r.ids ++ 10 :: (rtsT R ++ s)) := rfl
   rw [e2, idF_of h1 (noDg_ids _ _)]
   simp only
   rw [idsF_of r.ids 12 _ h2 h3]
   simp only
   rw [ih]
   rfl
theorem routesF_is : ∀ (k : Nat) (s : List UInt8) (R : List RT) (r : List UInt8), routesF k s = some (R, r) -> s = rtsT R ++ r /\ R.length <= k /\ (∀ x ∈ R, rtOk x) /\ R.map bare = R
 | k, s, R, r, h => by
   unfold routesF at h
   split at h
   · rename_i hp
     match k, h with
     | 0, h => cases h
     | k + 1, h =>
       simp only at h
       cases h1 : idF (s.drop 6) with
       | none => rw [h1] at h; cases h
       | some q =>
         obtain ⟨v, r1⟩ := q
         rw [h1] at h
         simp only at h
         cases h2 : idsF 12 r1 with
         | none => rw [h2] at h; cases h
         | some q =>
           obtain ⟨ids, r2⟩ := q
           rw [h2] at h
           simp only at h
           cases h3 : routesF k r2 with
           | none => rw [h3] at h; cases h
           | some q =>
             obtain ⟨R2, r3⟩ := q
             rw [h3] at h
             simp only [Option.some.injEq, Prod.mk.injEq] at h
             obtain ⟨rfl, rfl⟩ := h
             obtain ⟨i1, i2, i3, i4⟩ := routesF_is k r2 R2 r3 h3
             obtain ⟨j1, j2⟩ := idF_is h1
             obtain ⟨k1, k2, k3⟩ := idsF_is 12 r1 ids r2 h2
             refine ⟨?_, by simp; omega, fun x hx => ?_, by rw [List.map_cons, i4]; rfl⟩
             · have e := prefix_is hp
               have e6 : wRouteB.length = 6 := rfl
               rw [e6, j1, k1, i1] at e
               rw [e]
               have := line_route v ids (rtsT R2 ++ r3)
               rw [<- this]
               simp [rtsT]
             · rcases List.mem_cons.1 hx with rfl | hx
               · exact ⟨j2, k2, k3⟩
               · exact i3 x hx
   · simp only [Option.some.injEq, Prod.mk.injEq] at h
     obtain ⟨rfl, rfl⟩ := h
     exact ⟨by simp [rtsT], by simp, by simp, rfl⟩
theorem idsB_iff (ids : List Int) : idsB ids = true ↔ ids.length <= 12 /\ ∀ x ∈ ids, inB x 1 1000000000 = true := by
 unfold idsB idsTo
 rw [List.take_length]
 simp
theorem formB_iff (R : List RT) (L : List Int) : formB R L = true ↔ R.length <= 5 /\ idsB L = true /\ ∀ r ∈ R, rtOk r := by
 unfold formB rtsTo
 rw [List.take_length]
 simp only [Bool.and_eq_true, decide_eq_true_eq, List.all_eq_true]
 constructor
 · rintro ⟨⟨h1, h2⟩, h3⟩
   exact ⟨h1, h2, fun r hr => ⟨(h3 r hr).1, (idsB_iff _).1 (h3 r hr).2⟩⟩
 · rintro ⟨h1, h2, h3⟩
   exact ⟨⟨h1, h2⟩, fun r hr => ⟨(h3 r hr).1, (idsB_iff _).2 (h3 r hr).2⟩⟩
theorem line_left (L : List Int) : lineL wLeft L = wLeft ++ (idsT L ++ [10]) := by
 unfold lineL
 rw [idsT_nums]
 simp
theorem readF_of {R : List RT} {L : List Int} (h : formB R L = true) : readF (planL R L) = some (R.map bare, L) := by
 obtain ⟨h1, h2, h3⟩ := (formB_iff R L).1 h
 obtain ⟨h4, h5⟩ := (idsB_iff L).1 h2
 unfold readF planF planL
 rw [rtsT_routes, line_left, routesF_of R 5 _ h1 h3 (by rfl)]
 simp only
 rw [if_pos (prefix_app _ _)]
 have e : (wLeft ++ (idsT L ++ [10])).drop 4 = idsT L ++ 10 :: [] := rfl
 rw [e, idsF_of L 12 [] h4 h5]
 simp
theorem readF_is {s : List UInt8} {R : List RT} {L : List Int} (h : readF s = some (R, L)) : formB R L = true /\ s = planL R L /\ R.map bare = R := by
 unfold readF planF at h
 cases h1 : routesF 5 s with
 | none => rw [h1] at h; cases h
 | some q =>
   obtain ⟨R2, r⟩ := q
   rw [h1] at h
   simp only at h
   by_cases hl : wLeft.isPrefixOf r = true
   · rw [if_pos hl] at h
     cases h2 : idsF 12 (r.drop 4) with
     | none => rw [h2] at h; cases h
     | some q =>
       obtain ⟨L2, r2⟩ := q
       rw [h2] at h
       simp only at h
       split at h
       · rename_i h0
         simp only [Option.some.injEq, Prod.mk.injEq] at h
         obtain ⟨rfl, rfl⟩ := h
         subst h0
         obtain ⟨i1, i2, i3, i4⟩ := routesF_is 5 s R2 r h1
         obtain ⟨k1, k2, k3⟩ := idsF_is 12 _ L2 [] h2
         refine ⟨(formB_iff _ _).2 ⟨i2, (idsB_iff _).2 ⟨k2, k3⟩, i3⟩, ?_, i4⟩
         have e := prefix_is hl
         have e4 : wLeft.length = 4 := rfl
         rw [e4, k1] at e
         unfold planL
         rw [rtsT_routes, line_left, i1, e]
       · cases h
   · rw [if_neg hl] at h
     cases h
def RX (w : World) (q : Nat) (s : List UInt8) : Prop := w.heap[q]? = some (.cells #[.string (txt s)] 71 (0, 0))
def GV : List PanicEntry := [{ v := .iface 98 (.agg #[]), recovered := false }]
theorem RX.cell {w : World} {q : Nat} {s : List UInt8} (h : RX w q s) : w.cell? ⟨q, 0, none⟩ = some (.string (txt s)) := by
 rw [cell_of_row _ _ _ _ _ _ h]
 rfl
theorem RX.frozen {w : World} {q : Nat} {s : List UInt8} (h : RX w q s) (i : Nat) : w.frozen? ⟨q, i, none⟩ = false := frozen_of_row _ _ i _ _ h
theorem RX.set {w : World} {q : Nat} {s : List UInt8} (h : RX w q s) (t : List UInt8) : RX (w.setCell ⟨q, 0, none⟩ (.string (txt t))) q t := by
 unfold RX at *
 simp [World.setCell, Array.getElem?_modify, h]
theorem txt_drop (s : List UInt8) (k : Nat) : (txt s).extract k s.length = txt (s.drop k) := by
 apply ByteArray.ext
 simp [txt]
 exact List.take_of_length_le (by simp)
theorem txt_take (s : List UInt8) (k : Nat) : (txt s).extract 0 k = txt (s.take k) := by
 apply ByteArray.ext
 simp [txt]
theorem txt_inj {a b : List UInt8} (h : txt a = txt b) : a = b := by
 have := congrArg (fun x : ByteArray => x.data.toList) h
 simpa [txt] using this
theorem must_yes (p : Value) (w : World) : Calls Tryz.prog 30 #[p, .bool true] w fun e w' => e = .returned (.tuple #[]) /\ w' = w := by
 go_enter Tryz.func30, Tryz.ntmps30
 go_wp2
 first | refine bodyPost_end (results_none rfl _ _ _) rfl ?_ | refine bodyPost_ret (results_none rfl _ _ _) rfl ?_
 exact ⟨rfl, rfl⟩
theorem must_no (p : Value) (w : World) : Calls Tryz.prog 30 #[p, .bool false] w fun e w' => e = .panicked GV /\ w' = w := by
 go_enter Tryz.func30, Tryz.ntmps30
 go_wp2
 exact ⟨rfl, rfl, rfl⟩
theorem prefix_take (s t : List UInt8) (h : t.length <= s.length) : t.isPrefixOf s = decide (s.take t.length = t) := by
 by_cases e : s.take t.length = t
 · rw [decide_eq_true e, List.isPrefixOf_iff_prefix]
   exact ⟨s.drop t.length, by have := List.take_append_drop t.length s; rw [e] at this; exact this⟩
 · rw [decide_eq_false e]
   cases hp : t.isPrefixOf s with
   | false => rfl
   | true =>
     rw [List.isPrefixOf_iff_prefix] at hp
     obtain ⟨r, rfl⟩ := hp
     exact absurd (by simp) e
theorem prefix_long {s t : List UInt8} (h : ¬ t.length <= s.length) : t.isPrefixOf s = false := by
 cases hp : t.isPrefixOf s with
 | false => rfl
 | true =>
   rw [List.isPrefixOf_iff_prefix] at hp
   exact absurd hp.length_le h
set_option maxHeartbeats 1000000 in
theorem litePrefix_any (s t : List UInt8) (w : World) (hs : s.length <= 1000000000) :
 Calls Tryz.prog 76 #[.string (txt s), .string (txt t)] w fun e w' => e = .returned (.bool (t.isPrefixOf s)) /\ w' = w := by
 have HS : Hid ((txt s).size = s.length) := txt_size s
 have HT : Hid ((txt t).size = t.length) := txt_size t
 by_cases hl : t.length <= s.length
 · have hl2 : (txt t).size <= (txt s).size := by rw [HS.out, HT.out]; exact hl
   have hl3 : ((txt t).size : Int) <= (txt s).size := by omega
   have hs2 : (txt s).size <= 1000000000 := by rw [HS.out]; exact hs
   have HX : Hid ((((txt s).extract 0 (txt t).size).toList == (txt t).toList) = t.isPrefixOf s) := by
    show _ = _
    rw [HT.out, txt_take, prefix_take s t hl]
    by_cases e : s.take t.length = t
    · rw [decide_eq_true e, str_eq (congrArg txt e)]
    · rw [decide_eq_false e, str_ne (fun h => e (txt_inj h))]
   generalize t.isPrefixOf s = x at *
   generalize txt s = a at *
   generalize txt t = b at *
   have hx := HX.out
   go_enter Tryz.func76, Tryz.ntmps76
   go_wp2
   go_ret
   exact ⟨rfl, rfl⟩
 · have hl2 : ¬ (((txt t).size : Int) <= (txt s).size) := by rw [HS.out, HT.out]; omega
   rw [prefix_long hl]
   generalize txt s = a at *
   generalize txt t = b at *
   go_enter Tryz.func76, Tryz.ntmps76
   go_wp2
   go_ret
   exact ⟨rfl, rfl⟩
theorem hasPrefix_any (s t : List UInt8) (w : World) (hs : s.length <= 1000000000) :
 Calls Tryz.prog 57 #[.string (txt s), .string (txt t)] w fun e w' => e = .returned (.bool (t.isPrefixOf s)) /\ w' = w := by
 have C := litePrefix_any s t w hs
 generalize t.isPrefixOf s = x at *
 generalize txt s = a at *
 generalize txt t = b at *
 go_enter Tryz.func57, Tryz.ntmps57
 go_wp2_with (go_at_call 76; refine C.mono ?_; rintro e w' ⟨rfl, rfl⟩)
 go_ret
 exact ⟨rfl, rfl⟩
set_option maxHeartbeats 1000000 in
theorem take_yes (q : Nat) (s t : List UInt8) (w : World) (h : RX w q s) (hs : s.length <= 1000000000) (hp : t.isPrefixOf s = true) :
 Calls Tryz.prog 58 #[.pointer (some ⟨q, 0, none⟩), .string (txt t)] w fun e w' => e = .returned (.tuple #[]) /\ RX w' q (s.drop t.length) /\ w.grownBy w' (some q) := by
 have C := hasPrefix_any s t w hs
 rw [hp] at C
 have HR : Hid (RX w q s) := h
 have c0 := h.cell
 have f0 := h.frozen
 have HS : Hid ((txt s).size = s.length) := txt_size s
 have HT : Hid ((txt t).size = t.length) := txt_size t
 have hlt : t.length <= s.length := by
  rw [List.isPrefixOf_iff_prefix] at hp
  exact hp.length_le
 have hl2 : (txt t).size <= (txt s).size := by rw [HS.out, HT.out]; exact hlt
 have hl3 : ((txt t).size : Int) <= (txt s).size := by omega
 have hs2 : (txt s).size <= 1000000000 := by rw [HS.out]; exact hs
 have HX : Hid ((txt s).extract (txt t).size (txt s).size = txt (s.drop t.length)) := by show _ = _; rw [HS.out, HT.out, txt_drop]
 have HN : Hid (∀ v, v = txt (s.drop t.length) -> RX (w.setCell ⟨q, 0, none⟩ (.string v)) q (s.drop t.length)) := fun v hv => by rw [hv]; exact HR.out.set _
 generalize txt (s.drop t.length) = x at *
 generalize txt s = a at *
 generalize txt t = b at *
 clear h hp
 go_enter Tryz.func58, Tryz.ntmps58
 go_wp2_with (first | (go_at_call 57; refine C.mono ?_; rintro e w' ⟨rfl, rfl⟩) | (go_at_call 30; refine (must_yes _ _).mono ?_; rintro e w' ⟨rfl, rfl⟩))
 first | refine bodyPost_end (results_none rfl _ _ _) rfl ?_ | refine bodyPost_ret (results_none rfl _ _ _) rfl ?_
 exact ⟨rfl, HN.out _ HX.out, grown_set _ _ _ _⟩
set_option maxHeartbeats 1000000 in
theorem take_no (q : Nat) (s t : List UInt8) (w : World) (h : RX w q s) (hs : s.length <= 1000000000) (hp : t.isPrefixOf s = false) :
 Calls Tryz.prog 58 #[.pointer (some ⟨q, 0, none⟩), .string (txt t)] w fun e w' => e = .panicked GV /\ w' = w := by
 have C := hasPrefix_any s t w hs
 rw [hp] at C
 have c0 := h.cell
 generalize txt s = a at *
 generalize txt t = b at *
 clear h hp
 go_enter Tryz.func58, Tryz.ntmps58
 go_wp2_with (first | (go_at_call 57; refine C.mono ?_; rintro e w' ⟨rfl, rfl⟩) | (go_at_call 30; refine (must_no _ _).mono ?_; rintro e w' ⟨rfl, rfl⟩))
 all_goals exact ⟨rfl, rfl, rfl⟩
set_option maxHeartbeats 1000000 in
theorem atLine_any (q : Nat) (s t : List UInt8) (w : World) (h : RX w q s) (hs : s.length <= 1000000000) (ht : t.length <= 1000) :
 Calls Tryz.prog 31 #[.pointer (some ⟨q, 0, none⟩), .string (txt t)] w fun e w' => e = .returned (.bool ((t ++ [32]).isPrefixOf s)) /\ w' = w := by
 have C := hasPrefix_any s (t ++ [32]) w hs
 have c0 := h.cell
 have HT : Hid (txt (t ++ [32]) = txt t ++ ByteArray.mk #[32]) := by show _ = _; rw [<- txt_app]; rfl
 have hst : (txt t).size <= 1000 := by rw [txt_size]; exact ht
 have h32 : (ByteArray.mk #[32]).size = 1 := rfl
 rw [HT.out] at C
 generalize (t ++ [32]).isPrefixOf s = x at *
 generalize txt s = a at *
 generalize txt t = b at *
 clear h HT
 go_enter Tryz.func31, Tryz.ntmps31
 go_wp2_with (go_at_call 57; refine C.mono ?_; rintro e w' ⟨rfl, rfl⟩)
 go_ret
 exact ⟨rfl, rfl⟩
def numsF : Nat -> List UInt8 -> Option (List Int × List UInt8)
 | 0, s => if List.isPrefixOf [10] s = true then some ([], s.drop 1) else none
 | k + 1, s => if List.isPrefixOf [32] s = true then (match numF (s.drop 1) with
   | none => none
   | some (n, r) => match numsF k r with | none => none | some (l, r2) => some ((n : Int) :: l, r2)) else none
def natI (x : Int) : Prop := 0 <= x /\ x < 10000000000
theorem natI_nat {n : Int} (h : natI n) : ∃ m : Nat, n = (m : Int) /\ m < 10000000000 := ⟨n.toNat, by unfold natI at h; omega, by unfold natI at h; omega⟩
theorem numsF_of : ∀ (l : List Int) (r : List UInt8), (∀ x ∈ l, natI x) -> numsF l.length (idsT l ++ 10 :: r) = some (l, r)
 | [], r, _ => by simp [numsF, idsT]
 | n :: l, r, ha => by
   obtain ⟨m, rfl, hm⟩ := natI_nat (ha n (by simp))
   have ih := numsF_of l r (fun x hx => ha x (by simp [hx]))
   have e : idsT ((m : Int) :: l) ++ 10 :: r = 32 :: (Lib.decDigits m ++ (idsT l ++ 10 :: r)) := by
    unfold idsT
    rw [List.flatMap_cons, itoa_nat]
    simp
   rw [e]
   show numsF (l.length + 1) _ = _
   simp only [numsF, List.drop_succ_cons, List.drop_zero]
   rw [if_pos (by simp), numF_of hm (noDg_ids l r)]
   simp only [ih]
theorem numsF_is : ∀ (k : Nat) (s : List UInt8) (l : List Int) (r : List UInt8), numsF k s = some (l, r) -> s = idsT l ++ 10 :: r /\ l.length = k /\ ∀ x ∈ l, natI x
 | 0, s, l, r, h => by
   unfold numsF at h
   split at h
   · rename_i hp
     have := prefix_is hp
     simp only [Option.some.injEq, Prod.mk.injEq] at h
     obtain ⟨rfl, rfl⟩ := h
     exact ⟨by simpa [idsT] using this, rfl, fun x hx => by simp at hx⟩
   · cases h
 | k + 1, s, l, r, h => by
   unfold numsF at h
   split at h
   · rename_i hp
     have hs := prefix_is hp
     cases hn : numF (s.drop 1) with
     | none => rw [hn] at h; cases h
     | some q =>
       obtain ⟨n, r1⟩ := q
       rw [hn] at h
       simp only at h
       cases hq : numsF k r1 with
       | none => rw [hq] at h; cases h
       | some z =>
         obtain ⟨l1, r2⟩ := z
         rw [hq] at h
         simp only [Option.some.injEq, Prod.mk.injEq] at h
         obtain ⟨rfl, rfl⟩ := h
         obtain ⟨h1, h2, h3⟩ := numsF_is k r1 l1 r2 hq
         obtain ⟨h4, h5, _⟩ := numF_is hn
         refine ⟨?_, by simp; omega, fun x hx => ?_⟩
         · rw [hs, List.length_singleton, h4, h1]
           unfold idsT
           rw [List.flatMap_cons, itoa_nat]
           simp
         · rcases List.mem_cons.1 hx with rfl | hx
           · exact ⟨by omega, by omega⟩
           · exact h3 x hx
   · cases h
def lineF (w : List UInt8) (k : Nat) (s : List UInt8) : Option (List Int × List UInt8) := if w.isPrefixOf s = true then numsF k (s.drop w.length) else none
theorem lineL_app (w : List UInt8) (l : List Int) (r : List UInt8) : lineL w l ++ r = w ++ (idsT l ++ 10 :: r) := by
 unfold lineL
 rw [idsT_nums]
 simp
theorem lineF_of (w : List UInt8) (l : List Int) (r : List UInt8) (h : ∀ x ∈ l, natI x) : lineF w l.length (lineL w l ++ r) = some (l, r) := by
 unfold lineF
 rw [lineL_app, if_pos (prefix_app _ _)]
 rw [List.drop_left, numsF_of l r h]
theorem lineF_is {w : List UInt8} {k : Nat} {s : List UInt8} {l : List Int} {r : List UInt8} (h : lineF w k s = some (l, r)) : s = lineL w l ++ r /\ l.length = k /\ ∀ x ∈ l, natI x := by
 unfold lineF at h
 split at h
 · rename_i hp
   obtain ⟨h1, h2, h3⟩ := numsF_is _ _ _ _ h
   refine ⟨?_, h2, h3⟩
   rw [lineL_app, <- h1]
   exact prefix_is hp
 · cases h
def linesT (w : List UInt8) (X : List (List Int)) : List UInt8 := X.flatMap (lineL w)
def lnsF (w : List UInt8) (k : Nat) : Nat -> List UInt8 -> Option (List (List Int) × List UInt8)
 | 0, s => some ([], s)
 | m + 1, s => match lineF w k s with
   | none => none
   | some (l, r) => match lnsF w k m r with | none => none | some (X, r2) => some (l :: X, r2)
theorem linesT_cons (w : List UInt8) (l : List Int) (X : List (List Int)) (s : List UInt8) : linesT w (l :: X) ++ s = lineL w l ++ (linesT w X ++ s) := by unfold linesT; rw [List.flatMap_cons]; simp
theorem lnsF_of (w : List UInt8) (k : Nat) : ∀ (X : List (List Int)) (s : List UInt8), (∀ l ∈ X, l.length = k /\ ∀ x ∈ l, natI x) -> lnsF w k X.length (linesT w X ++ s) = some (X, s)
 | [], s, _ => rfl
 | l :: X, s, h => by
   have ih := lnsF_of w k X s (fun l hl => h l (by simp [hl]))
   obtain ⟨h1, h2⟩ := h l (by simp)
   have e := lineF_of w l (linesT w X ++ s) h2
   rw [h1] at e
   show lnsF w k (X.length + 1) _ = _
   rw [linesT_cons]
   simp only [lnsF, e, ih]
theorem lnsF_is (w : List UInt8) (k : Nat) : ∀ (m : Nat) (s : List UInt8) (X : List (List Int)) (r : List UInt8), lnsF w k m s = some (X, r) -> s = linesT w X ++ r /\ X.length = m /\ ∀ l ∈ X, l.length = k /\ ∀ x ∈ l, natI x
 | 0, s, X, r, h => by
   simp only [lnsF, Option.some.injEq, Prod.mk.injEq] at h
   obtain ⟨rfl, rfl⟩ := h
   exact ⟨rfl, rfl, fun l hl => by simp at hl⟩
 | m + 1, s, X, r, h => by
   simp only [lnsF] at h
   cases h1 : lineF w k s with
   | none => rw [h1] at h; cases h
   | some q =>
     obtain ⟨l, r1⟩ := q
     rw [h1] at h
     simp only at h
     cases h2 : lnsF w k m r1 with
     | none => rw [h2] at h; cases h
     | some z =>
       obtain ⟨Y, r2⟩ := z
       rw [h2] at h
       simp only [Option.some.injEq, Prod.mk.injEq] at h
       obtain ⟨rfl, rfl⟩ := h
       obtain ⟨a1, a2, a3⟩ := lnsF_is w k m r1 Y r2 h2
       obtain ⟨b1, b2⟩ := lineF_is h1
       refine ⟨by rw [linesT_cons, <- a1]; exact b1, by simp; omega, fun l' hl => ?_⟩
       rcases List.mem_cons.1 hl with rfl | hl
       · exact b2
       · exact a3 l' hl
def whileF (w : List UInt8) (k : Nat) : Nat -> List UInt8 -> Option (List (List Int) × List UInt8)
 | 0, s => if (w ++ [32]).isPrefixOf s = true then none else some ([], s)
 | m + 1, s => if (w ++ [32]).isPrefixOf s = true then (match lineF w k s with
   | none => none
   | some (l, r) => match whileF w k m r with | none => none | some (X, r2) => some (l :: X, r2)) else some ([], s)
theorem whileF_of (w : List UInt8) (k : Nat) (hk : 0 < k) : ∀ (X : List (List Int)) (m : Nat) (s : List UInt8), X.length <= m -> (∀ l ∈ X, l.length = k /\ ∀ x ∈ l, natI x) -> (w ++ [32]).isPrefixOf s = false -> whileF w k m (linesT w X ++ s) = some (X, s)
 | [], m, s, _, _, hs => by
   show whileF w k m s = _
   cases m <;> simp [whileF, hs]
 | l :: X, 0, s, h, _, _ => by simp at h
 | l :: X, m + 1, s, h, ha, hs => by
   have ih := whileF_of w k hk X m s (by simp at h; omega) (fun l hl => ha l (by simp [hl])) hs
   obtain ⟨h1, h2⟩ := ha l (by simp)
   have e := lineF_of w l (linesT w X ++ s) h2
   rw [h1] at e
   have hp : (w ++ [32]).isPrefixOf (lineL w l ++ (linesT w X ++ s)) = true := by
    cases l with
    | nil => simp at h1; omega
    | cons n l =>
      rw [lineL_app]
      have : w ++ (idsT (n :: l) ++ 10 :: (linesT w X ++ s)) = (w ++ [32]) ++ (Lib.itoa n ++ (idsT l ++ 10 :: (linesT w X ++ s))) := by
       unfold idsT
       rw [List.flatMap_cons]
       simp
      rw [this]
      exact prefix_app _ _
   rw [linesT_cons]
   simp only [whileF, hp, if_pos, e, ih]
theorem whileF_is (w : List UInt8) (k : Nat) : ∀ (m : Nat) (s : List UInt8) (X : List (List Int)) (r : List UInt8), whileF w k m s = some (X, r) -> s = linesT w X ++ r /\ X.length <= m /\ ∀ l ∈ X, l.length = k /\ ∀ x ∈ l, natI x
 | 0, s, X, r, h => by
   simp only [whileF] at h
   split at h
   · cases h
   · simp only [Option.some.injEq, Prod.mk.injEq] at h
     obtain ⟨rfl, rfl⟩ := h
     exact ⟨rfl, by simp, fun l hl => by simp at hl⟩
 | m + 1, s, X, r, h => by
   simp only [whileF] at h
   split at h
   · cases h1 : lineF w k s with
     | none => rw [h1] at h; cases h
     | some q =>
       obtain ⟨l, r1⟩ := q
       rw [h1] at h
       simp only at h
       cases h2 : whileF w k m r1 with
       | none => rw [h2] at h; cases h
       | some z =>
         obtain ⟨Y, r2⟩ := z
         rw [h2] at h
         simp only [Option.some.injEq, Prod.mk.injEq] at h
         obtain ⟨rfl, rfl⟩ := h
         obtain ⟨a1, a2, a3⟩ := whileF_is w k m r1 Y r2 h2
         obtain ⟨b1, b2⟩ := lineF_is h1
         refine ⟨by rw [linesT_cons, <- a1]; exact b1, by simp; omega, fun l' hl => ?_⟩
         rcases List.mem_cons.1 hl with rfl | hl
         · exact b2
         · exact a3 l' hl
   · simp only [Option.some.injEq, Prod.mk.injEq] at h
     obtain ⟨rfl, rfl⟩ := h
     exact ⟨rfl, by simp, fun l hl => by simp at hl⟩
def sepS (p : UInt8) (st : List (List UInt8) × List UInt8) (c : UInt8) : List (List UInt8) × List UInt8 := if c = p then (st.1 ++ [st.2], []) else (st.1, st.2 ++ [c])
def sepF (p : UInt8) (s : List UInt8) : List (List UInt8) × List UInt8 := s.foldl (sepS p) ([], [])
theorem sepF_snoc (p : UInt8) (s : List UInt8) (c : UInt8) : sepF p (s ++ [c]) = sepS p (sepF p s) c := by simp [sepF]
theorem sep_body {p : UInt8} : ∀ (b : List UInt8) (o : List (List UInt8)) (l : List UInt8), (∀ c ∈ b, c ≠ p) -> b.foldl (sepS p) (o, l) = (o, l ++ b)
 | [], o, l, _ => by simp
 | c :: b, o, l, h => by
   rw [List.foldl_cons]
   have e : sepS p (o, l) c = (o, l ++ [c]) := by simp [sepS, h c (by simp)]
   rw [e, sep_body b o _ (fun x hx => h x (by simp [hx]))]
   simp
theorem sep_len {p : UInt8} : ∀ (s : List UInt8) (o : List (List UInt8)) (l : List UInt8), (s.foldl (sepS p) (o, l)).1.length <= o.length + s.length /\ (s.foldl (sepS p) (o, l)).2.length <= l.length + s.length
 | [], o, l => by simp
 | c :: s, o, l => by
   rw [List.foldl_cons]
   by_cases h : c = p
   · have e : sepS p (o, l) c = (o ++ [l], []) := by simp [sepS, h]
     rw [e]
     obtain ⟨h1, h2⟩ := sep_len (p := p) s (o ++ [l]) []
     simp at h1 h2 ⊢
     omega
   · have e : sepS p (o, l) c = (o, l ++ [c]) := by simp [sepS, h]
     rw [e]
     obtain ⟨h1, h2⟩ := sep_len (p := p) s o (l ++ [c])
     simp at h1 h2 ⊢
     omega
def intF (w : List UInt8) : Option Nat := if okDg w = true /\ w.all isDg = true then some (dval w) else none
def intsF : List (List UInt8) -> Option (List Int)
 | [] => some []
 | w :: ws => match intF w with | none => none | some n => match intsF ws with | none => none | some l => some ((n : Int) :: l)
def cutF (s : List UInt8) : Option (List UInt8 × List Int) := match (sepF 32 s).1 ++ [(sepF 32 s).2] with
 | [] => none
 | w :: ws => match intsF ws with | none => none | some l => some (w, l)
theorem dg_no32 {c : UInt8} (h : isDg c = true) : c ≠ 32 /\ c ≠ 10 := by
 unfold isDg at h
 simp at h
 refine ⟨fun e => ?_, fun e => ?_⟩
 · subst e
   have : (32 : UInt8).toNat = 32 := rfl
   omega
 · subst e
   have : (10 : UInt8).toNat = 10 := rfl
   omega
def natB (n : Int) : Prop := ∃ m : Nat, n = (m : Int) /\ m < 10000000000
theorem itoa_dg {n : Int} (h : natB n) : (∀ c ∈ Lib.itoa n, isDg c = true) /\ intF (Lib.itoa n) = some n.toNat := by
 obtain ⟨m, rfl, hm⟩ := h
 obtain ⟨h1, h2, h3, h4⟩ := dec_parts m m (Nat.le_refl _)
 rw [itoa_nat]
 refine ⟨h1, ?_⟩
 unfold intF okDg
 rw [if_pos ⟨decide_eq_true ⟨h3, dec_len10 hm, h4⟩, List.all_eq_true.2 h1⟩, h2]
 simp
theorem words_ids : ∀ (ns : List Int) (o : List (List UInt8)) (l : List UInt8), (∀ n ∈ ns, natB n) -> ∃ o2 l2, (idsT ns).foldl (sepS 32) (o, l) = (o2, l2) /\ o2 ++ [l2] = o ++ [l] ++ ns.map Lib.itoa
 | [], o, l, _ => ⟨o, l, rfl, by simp⟩
 | n :: ns, o, l, h => by
   have e : idsT (n :: ns) = 32 :: (Lib.itoa n ++ idsT ns) := by simp [idsT]
   rw [e, List.foldl_cons, List.foldl_append]
   have e2 : sepS 32 (o, l) 32 = (o ++ [l], []) := by simp [sepS]
   rw [e2, sep_body (Lib.itoa n) _ _ (fun c hc => (dg_no32 ((itoa_dg (h n (by simp))).1 c hc)).1)]
   obtain ⟨o2, l2, h1, h2⟩ := words_ids ns (o ++ [l]) ([] ++ Lib.itoa n) (fun x hx => h x (by simp [hx]))
   exact ⟨o2, l2, h1, by rw [h2]; simp⟩
theorem intsF_itoa : ∀ (ns : List Int), (∀ n ∈ ns, natB n) -> intsF (ns.map Lib.itoa) = some ns
 | [], _ => rfl
 | n :: ns, h => by
   have h1 := (itoa_dg (h n (by simp))).2
   have ih := intsF_itoa ns (fun x hx => h x (by simp [hx]))
   have hn : ((n.toNat : Nat) : Int) = n := by obtain ⟨m, rfl, _⟩ := h n (by simp); simp
   simp only [List.map_cons, intsF, h1, ih, hn]
theorem cutF_of {w : List UInt8} {ns : List Int} (hw : ∀ c ∈ w, c ≠ 32) (hn : ∀ n ∈ ns, natB n) : cutF (w ++ idsT ns) = some (w, ns) := by
 obtain ⟨o2, l2, h1, h2⟩ := words_ids ns [] w hn
 have e : sepF 32 (w ++ idsT ns) = (o2, l2) := by
  unfold sepF
  rw [List.foldl_append, sep_body w [] [] hw, List.nil_append, h1]
 unfold cutF
 rw [e]
 simp only
 rw [h2]
 simp only [List.nil_append, List.cons_append]
 rw [intsF_itoa ns hn]
def lineS (st : Option (List RT × List Int)) (ln : List UInt8) : Option (List RT × List Int) := match st with
 | none => none
 | some (R, L) => match cutF ln with
   | none => none
   | some (w, l) => if w = wRoute /\ l ≠ [] then some (R ++ [⟨l.headD 0, none, l.tail, 0⟩], L) else if w = wLeft then some (R, L ++ l) else some (R, L)
def linesF (ls : List (List UInt8)) : Option (List RT × List Int) := ls.foldl lineS (some ([], []))
def specF (s : List UInt8) : Option (List RT × List Int) := if (sepF 10 s).2 = [] /\ s.length <= 2000 then linesF (sepF 10 s).1 else none
theorem ids_no10 {ns : List Int} (h : ∀ n ∈ ns, natB n) : ∀ c ∈ idsT ns, c ≠ 10 := fun c hc => by
 unfold idsT at hc
 rw [List.mem_flatMap] at hc
 obtain ⟨n, hn, hc⟩ := hc
 rcases List.mem_cons.1 hc with rfl | hc
 · decide
 · exact (dg_no32 ((itoa_dg (h n hn)).1 c hc)).2
theorem rt_nat {r : RT} (h : rtOk r) : ∀ n ∈ r.v :: r.ids, natB n := fun n hn => by
 rcases List.mem_cons.1 hn with rfl | hn
 · exact inB_nat h.1
 · exact inB_nat (h.2.2 n hn)
theorem rtsT_cons (r : RT) (R : List RT) : rtsT (r :: R) = (wRoute ++ idsT (r.v :: r.ids)) ++ 10 :: rtsT R := by
 unfold rtsT
 rw [List.flatMap_cons]
 unfold lineL
 rw [idsT_nums]
 simp
theorem sep_routes : ∀ (R : List RT) (o : List (List UInt8)) (s : List UInt8), (∀ r ∈ R, rtOk r) -> (rtsT R ++ s).foldl (sepS 10) (o, []) = s.foldl (sepS 10) (o ++ R.map (fun r => wRoute ++ idsT (r.v :: r.ids)), [])
 | [], o, s, _ => by simp [rtsT]
 | r :: R, o, s, h => by
   have e : rtsT (r :: R) ++ s = (wRoute ++ idsT (r.v :: r.ids)) ++ (10 :: (rtsT R ++ s)) := by
    rw [rtsT_cons]
    simp
   rw [e, List.foldl_append, sep_body _ o [] ?_, List.foldl_cons]
   · have e2 : sepS 10 (o, [] ++ (wRoute ++ idsT (r.v :: r.ids))) 10 = (o ++ [wRoute ++ idsT (r.v :: r.ids)], []) := by simp [sepS]
     rw [e2, sep_routes R _ s (fun x hx => h x (by simp [hx]))]
     simp
   · intro c hc
     rcases List.mem_append.1 hc with hc | hc
     · intro e
       subst e
       simp [wRoute] at hc
     · exact ids_no10 (rt_nat (h r (by simp))) c hc
theorem lines_routes : ∀ (R : List RT) (R0 : List RT) (L0 : List Int), (∀ r ∈ R, rtOk r) -> (R.map (fun r => wRoute ++ idsT (r.v :: r.ids))).foldl lineS (some (R0, L0)) = some (R0 ++ R.map bare, L0)
 | [], R0, L0, _ => by simp
 | r :: R, R0, L0, h => by
   rw [List.map_cons, List.foldl_cons]
   have e : lineS (some (R0, L0)) (wRoute ++ idsT (r.v :: r.ids)) = some (R0 ++ [bare r], L0) := by
    unfold lineS
    simp only
    rw [cutF_of (by decide) (rt_nat (h r (by simp)))]
    simp [bare]
   rw [e, lines_routes R _ L0 (fun x hx => h x (by simp [hx]))]
   simp
theorem planL_len {R : List RT} {L : List Int} (h : formB R L = true) : (planL R L).length <= 2000 := by
 obtain ⟨h1, h2, h3⟩ := (formB_iff R L).1 h
 have key : ∀ (T : List RT), (∀ r ∈ T, rtOk r) -> (rtsT T).length <= 170 * T.length := by
  have hid : ∀ (ns : List Int), (∀ n ∈ ns, natB n) -> (idsT ns).length <= 11 * ns.length := by
   intro ns
   induction ns with
   | nil => intro _; simp [idsT]
   | cons n ns ih =>
     intro hn
     have e : idsT (n :: ns) = 32 :: (Lib.itoa n ++ idsT ns) := by simp [idsT]
     have := ih (fun x hx => hn x (by simp [hx]))
     obtain ⟨m, rfl, hm⟩ := hn n (by simp)
     have h5 := dec_len10 hm
     rw [e, itoa_nat]
     simp
     omega
  intro T
  induction T with
  | nil => intro _; simp [rtsT]
  | cons r T ih =>
    intro hT
    have := ih (fun x hx => hT x (by simp [hx]))
    have h4 := hid (r.v :: r.ids) (rt_nat (hT r (by simp)))
    have h5 := (hT r (by simp)).2.1
    rw [rtsT_cons, List.length_append]
    simp [wRoute] at h4 ⊢
    omega
 have hl : (lineL wLeft L).length <= 300 := by
  obtain ⟨h4, h5⟩ := idsB_small h2
  have := lineL_len wLeft L h5
  have e : wLeft.length = 4 := rfl
  omega
 have := key R h3
 unfold planL
 rw [rtsT_routes, List.length_append]
 omega
theorem specF_of {R : List RT} {L : List Int} (h : formB R L = true) : specF (planL R L) = some (R.map bare, L) := by
 obtain ⟨h1, h2, h3⟩ := (formB_iff R L).1 h
 obtain ⟨h4, h5⟩ := (idsB_iff L).1 h2
 have hn : ∀ n ∈ L, natB n := fun n hn => inB_nat (h5 n hn)
 have e : sepF 10 (planL R L) = (R.map (fun r => wRoute ++ idsT (r.v :: r.ids)) ++ [wLeft ++ idsT L], []) := by
  unfold planL sepF
  rw [rtsT_routes, line_left, sep_routes R [] _ h3]
  have e2 : wLeft ++ (idsT L ++ [10]) = (wLeft ++ idsT L) ++ [10] := by simp
  rw [e2, List.foldl_append, sep_body _ _ [] ?_]
  · simp [sepS]
  · intro c hc
    rcases List.mem_append.1 hc with hc | hc
    · intro e
      subst e
      simp [wLeft] at hc
    · exact ids_no10 hn c hc
 unfold specF
 rw [e]
 simp only
 rw [if_pos ⟨trivial, planL_len h⟩]
 unfold linesF
 rw [List.foldl_append, lines_routes R [] [] h3]
 simp only [List.foldl_cons, List.foldl_nil, List.nil_append]
 unfold lineS
 simp only
 rw [cutF_of (by decide) hn]
 simp [wLeft, wRoute]
def ptxt (R : List RT) (L : List Int) : List UInt8 := if formB R L = true then planL R L else []
def specRead (s : List UInt8) : Option (List RT × List Int) := match specF s with | none => none | some (R, L) => if ptxt R L = s then some (R, L) else none
theorem specRead_is (s : List UInt8) : specRead s = readF s := by
 cases hr : readF s with
 | some q =>
   obtain ⟨R, L⟩ := q
   obtain ⟨h1, h2, h3⟩ := readF_is hr
   unfold specRead
   rw [h2, specF_of h1, h3]
   simp [ptxt, h1]
 | none =>
   unfold specRead
   cases hs : specF s with
   | none => rfl
   | some q =>
     obtain ⟨R, L⟩ := q
     simp only
     rw [if_neg]
     intro e
     unfold ptxt at e
     by_cases hf : formB R L = true
     · rw [if_pos hf] at e
       rw [<- e, readF_of hf] at hr
       cases hr
     · rw [if_neg hf] at e
       subst e
       have : specF [] = some ([], []) := by simp [specF, sepF, linesF]
       rw [this] at hs
       simp only [Option.some.injEq, Prod.mk.injEq] at hs
       obtain ⟨rfl, rfl⟩ := hs
       exact hf (by decide)
def chunk (F : List Int) (n i : Nat) : List Int := (F.drop (i * n)).take n
theorem chunk_flat (F : List Int) (n : Nat) : ∀ k, ((List.range k).map (chunk F n)).flatten = F.take (k * n)
 | 0 => by simp
 | k + 1 => by
   rw [List.range_succ, List.map_append, List.flatten_append, chunk_flat F n k]
   simp only [List.map_cons, List.map_nil, List.flatten_cons, List.flatten_nil, List.append_nil]
   rw [Nat.add_mul, Nat.one_mul, List.take_add]
   rfl
theorem chunk_of (n : Nat) : ∀ (X : List (List Int)), (∀ l ∈ X, l.length = n) -> (List.range X.length).map (chunk X.flatten n) = X
 | [], _ => rfl
 | l :: X, h => by
   have hl := h l (by simp)
   have ih := chunk_of n X (fun x hx => h x (by simp [hx]))
   rw [List.length_cons, List.range_succ_eq_map, List.map_cons, List.map_map, List.flatten_cons]
   congr 1
   · unfold chunk
     rw [Nat.zero_mul, List.drop_zero, <- hl, List.take_left]
   · refine Eq.trans (List.map_congr_left fun i _ => ?_) ih
     show chunk (l ++ X.flatten) n (i + 1) = chunk X.flatten n i
     unfold chunk
     rw [Nat.add_mul, Nat.one_mul, Nat.add_comm]
     have : (l ++ X.flatten).drop (n + i * n) = X.flatten.drop (i * n) := by
      rw [<- List.drop_drop, <- hl, List.drop_left]
     rw [this]
theorem flat_len {n : Nat} : ∀ (X : List (List Int)), (∀ l ∈ X, l.length = n) -> X.flatten.length = X.length * n
 | [], _ => by simp
 | l :: X, h => by
   rw [List.flatten_cons, List.length_append, flat_len X (fun x hx => h x (by simp [hx])), h l (by simp), List.length_cons, Nat.add_mul]
   omega
theorem getD_drop (F : List Int) (a j : Nat) : (F.drop a).getD j 0 = F.getD (a + j) 0 := by
 rw [List.getD_eq_getElem?_getD, List.getD_eq_getElem?_getD, List.getElem?_drop]
theorem take_list : ∀ (n : Nat) (F : List Int), n <= F.length -> F.take n = (List.range n).map (fun j => F.getD j 0)
 | 0, F, _ => by simp
 | n + 1, [], h => by simp at h
 | n + 1, x :: F, h => by
   rw [List.take_succ_cons, take_list n F (by simp at h; omega), List.range_succ_eq_map, List.map_cons, List.map_map]
   rfl
theorem chunk6 {F : List Int} {i : Nat} (h : (i + 1) * 6 <= F.length) : ordF F i = chunk F 6 i := by
 unfold chunk
 rw [take_list 6 _ (by rw [List.length_drop]; omega)]
 simp only [getD_drop]
 rfl
theorem chunk5 {F : List Int} {i : Nat} (h : (i + 1) * 5 <= F.length) : vehF F i = chunk F 5 i := by
 unfold chunk
 rw [take_list 5 _ (by rw [List.length_drop]; omega)]
 simp only [getD_drop]
 rfl
theorem linesT_app (w : List UInt8) (X Y : List (List Int)) : linesT w (X ++ Y) = linesT w X ++ linesT w Y := by unfold linesT; rw [List.flatMap_append]
theorem linesT_one (w : List UInt8) (l : List Int) : linesT w [l] = lineL w l := by simp [linesT]
theorem timesL_is (zs : List Int) (n : Nat) : ∀ k, timesL zs n k = linesT wTimes ((List.range k).map (chunk zs n))
 | 0 => by simp [timesL, linesT]
 | k + 1 => by
   rw [timesL, timesL_is zs n k, List.range_succ, List.map_append, linesT_app, List.map_cons, List.map_nil, linesT_one]
   rfl
theorem ordersL_is (os : List Int) : ∀ k, k * 6 <= os.length -> ordersL os k = linesT wOrder ((List.range k).map (chunk os 6))
 | 0, _ => by simp [ordersL, linesT]
 | k + 1, h => by
   rw [ordersL, ordersL_is os k (by omega), List.range_succ, List.map_append, linesT_app, List.map_cons, List.map_nil, linesT_one, chunk6 h]
theorem vehiclesL_is (vs : List Int) : ∀ k, k * 5 <= vs.length -> vehiclesL vs k = linesT wVehicle ((List.range k).map (chunk vs 5))
 | 0, _ => by simp [vehiclesL, linesT]
 | k + 1, h => by
   rw [vehiclesL, vehiclesL_is vs k (by omega), List.range_succ, List.map_append, linesT_app, List.map_cons, List.map_nil, linesT_one, chunk5 h]
structure CV where
 n : Int
 f : Int
 zs : List Int
 os : List Int
 vs : List Int
 ko : Nat
 kv : Nat
def CV.ok (c : CV) : Bool := caseB c.n c.zs c.os c.vs c.ko c.kv c.f
def CV.lens (c : CV) : Prop := c.os.length = c.ko * 6 /\ c.vs.length = c.kv * 5
def CV.tx (c : CV) : List UInt8 := caseL c.n c.f c.zs c.os c.vs c.ko c.kv
def headF (s : List UInt8) : Option (Int × Int × List UInt8) := match lineF wCase 2 s with
 | none => none
 | some (l, r) => some (l.getD 0 0, l.getD 1 0, r)
def mkCV (n f : Int) (X Y Z : List (List Int)) : CV := ⟨n, f, X.flatten, Y.flatten, Z.flatten, Y.length, Z.length⟩
def caseF (s : List UInt8) : Option (CV × List UInt8) := match headF s with
 | none => none
 | some (n, f, r) => if inB n 1 16 = true then (match lnsF wTimes n.toNat n.toNat r with
   | none => none
   | some (X, r2) => match whileF wOrder 6 12 r2 with
     | none => none
     | some (Y, r3) => match whileF wVehicle 5 5 r3 with
       | none => none
       | some (Z, r4) => if (mkCV n f X Y Z).ok = true then some (mkCV n f X Y Z, r4) else none) else none
def readC (s : List UInt8) : Option CV := match caseF s with | none => none | some (c, r) => if r = [] then some c else none
theorem caseF_is {s : List UInt8} {c : CV} {r : List UInt8} (h : caseF s = some (c, r)) : c.ok = true /\ c.lens /\ s = c.tx ++ r := by
 unfold caseF headF at h
 cases h0 : lineF wCase 2 s with
 | none => rw [h0] at h; cases h
 | some q =>
   obtain ⟨l, r1⟩ := q
   rw [h0] at h
   simp only at h
   split at h
   · rename_i hin
     obtain ⟨a1, a2, a3⟩ := lineF_is h0
     obtain ⟨n, f, rfl⟩ : ∃ n f, l = [n, f] := by
      match l, a2 with
      | [n, f], _ => exact ⟨n, f, rfl⟩
     simp only [List.getD_cons_zero, List.getD_cons_succ] at h hin
     cases h1 : lnsF wTimes n.toNat n.toNat r1 with
     | none => rw [h1] at h; cases h
     | some q =>
       obtain ⟨X, r2⟩ := q
       rw [h1] at h
       simp only at h
       cases h2 : whileF wOrder 6 12 r2 with
       | none => rw [h2] at h; cases h
       | some q =>
         obtain ⟨Y, r3⟩ := q
         rw [h2] at h
         simp only at h
         cases h3 : whileF wVehicle 5 5 r3 with
         | none => rw [h3] at h; cases h
         | some q =>
           obtain ⟨Z, r4⟩ := q
           rw [h3] at h
           simp only at h
           split at h
           · rename_i hok
             simp only [Option.some.injEq, Prod.mk.injEq] at h
             obtain ⟨rfl, rfl⟩ := h
             obtain ⟨b1, b2, b3⟩ := lnsF_is _ _ _ _ _ _ h1
             obtain ⟨c1, c2, c3⟩ := whileF_is _ _ _ _ _ _ h2
             obtain ⟨d1, d2, d3⟩ := whileF_is _ _ _ _ _ _ h3
             have lY := flat_len Y (fun l hl => (c3 l hl).1)
             have lZ := flat_len Z (fun l hl => (d3 l hl).1)
             refine ⟨hok, ⟨lY, lZ⟩, ?_⟩
             show s = caseL n f X.flatten Y.flatten Z.flatten Y.length Z.length ++ r4
             unfold caseL headL
             rw [timesL_is, ordersL_is _ _ (by omega), vehiclesL_is _ _ (by omega), chunk_of 6 Y (fun l hl => (c3 l hl).1), chunk_of 5 Z (fun l hl => (d3 l hl).1)]
             have : (List.range n.toNat).map (chunk X.flatten n.toNat) = X := by
              have e := chunk_of n.toNat X (fun l hl => (b3 l hl).1)
              rw [b2] at e
              exact e
             rw [this, a1, b1, c1, d1]
             simp
           · cases h
   · cases h
theorem small_nat {l : List Int} (h : Small l) : ∀ x ∈ l, natI x := fun x hx => by have := h x hx; unfold natI; omega
theorem word_no (w : List UInt8) (X : List (List Int)) (s v : List UInt8) (h0 : v.isPrefixOf s = false) (h1 : ∀ l, (v.isPrefixOf (w ++ l)) = false) : v.isPrefixOf (linesT w X ++ s) = false := by
 cases X with
 | nil => exact h0
 | cons l X => rw [linesT_cons, lineL_app]; exact h1 _
theorem caseB_four {n : Int} {zs os vs : List Int} {ko kv : Nat} {f : Int} (h : caseB n zs os vs ko kv f = true) : matB n zs = true /\ ordsB n os ko = true /\ vehsB n vs kv = true /\ inB f 0 1000000 = true := by
 unfold caseB at h
 simp only [Bool.and_eq_true] at h
 exact ⟨h.1.1.1, h.1.1.2, h.1.2, h.2⟩
theorem caseF_of {c : CV} (h : c.ok = true) (hl : c.lens) : caseF c.tx = some (c, []) := by
 obtain ⟨n, f, zs, os, vs, ko, kv⟩ := c
 obtain ⟨ho, hv⟩ := hl
 simp only at ho hv
 have hc : caseB n zs os vs ko kv f = true := h
 obtain ⟨h1, h2, h3, h4⟩ := caseB_four hc
 obtain ⟨m1, m2, m3, _⟩ := matB_true h1
 have hn : (n.toNat : Int) = n := by omega
 have hzl : zs.length = n.toNat * n.toNat := by
  have e : ((n.toNat * n.toNat : Nat) : Int) = n * n := by rw [Int.natCast_mul, hn]
  omega
 have hn16 : n <= 16 := by omega
 show caseF (caseL n f zs os vs ko kv) = _
 unfold caseL headL
 rw [timesL_is, ordersL_is _ _ (by omega), vehiclesL_is _ _ (by omega)]
 have eX : ((List.range n.toNat).map (chunk zs n.toNat)).flatten = zs := by rw [chunk_flat, <- hzl, List.take_length]
 have eY : ((List.range ko).map (chunk os 6)).flatten = os := by rw [chunk_flat, <- ho, List.take_length]
 have eZ : ((List.range kv).map (chunk vs 5)).flatten = vs := by rw [chunk_flat, <- hv, List.take_length]
 have pX : ∀ l ∈ (List.range n.toNat).map (chunk zs n.toNat), l.length = n.toNat /\ ∀ x ∈ l, natI x := fun l hl => by
  obtain ⟨i, hi, rfl⟩ := List.mem_map.1 hl
  exact ⟨row_len hzl (List.mem_range.1 hi), small_nat (row_small h1 i)⟩
 have pY : ∀ l ∈ (List.range ko).map (chunk os 6), l.length = 6 /\ ∀ x ∈ l, natI x := fun l hl => by
  obtain ⟨i, hi, rfl⟩ := List.mem_map.1 hl
  have hi := List.mem_range.1 hi
  rw [<- chunk6 (by omega)]
  exact ⟨rfl, small_nat (ord_small h2 hn16 hi)⟩
 have pZ : ∀ l ∈ (List.range kv).map (chunk vs 5), l.length = 5 /\ ∀ x ∈ l, natI x := fun l hl => by
  obtain ⟨i, hi, rfl⟩ := List.mem_map.1 hl
  have hi := List.mem_range.1 hi
  rw [<- chunk5 (by omega)]
  exact ⟨rfl, small_nat (veh_small h3 hn16 hi)⟩
 have lX : ((List.range n.toNat).map (chunk zs n.toNat)).length = n.toNat := by simp
 have lY : ((List.range ko).map (chunk os 6)).length = ko := by simp
 have lZ : ((List.range kv).map (chunk vs 5)).length = kv := by simp
 generalize (List.range n.toNat).map (chunk zs n.toNat) = X at *
 generalize (List.range ko).map (chunk os 6) = Y at *
 generalize (List.range kv).map (chunk vs 5) = Z at *
 have hk := (ordsB_true h2).1
 have hk2 := (vehsB_true h3).1
 have e1 := lineF_of wCase [n, f] (linesT wTimes X ++ (linesT wOrder Y ++ linesT wVehicle Z)) (fun x hx => by
  unfold inB at h4
  simp only [decide_eq_true_eq] at h4
  unfold natI
  rcases List.mem_cons.1 hx with rfl | hx
  · omega
  · rcases List.mem_cons.1 hx with rfl | hx
    · omega
    · simp at hx)
 have e2 := lnsF_of wTimes n.toNat X (linesT wOrder Y ++ linesT wVehicle Z) pX
 rw [lX] at e2
 have e4 := whileF_of wVehicle 5 (by omega) Z 5 [] (by omega) pZ (by decide)
 rw [List.append_nil] at e4
 have e3 := whileF_of wOrder 6 (by omega) Y 12 (linesT wVehicle Z) (by omega) pY (by
  have := word_no wVehicle Z [] (wOrder ++ [32]) (by decide) (fun l => rfl)
  rwa [List.append_nil] at this)
 have hin : inB n 1 16 = true := by unfold inB; simp only [decide_eq_true_eq]; omega
 unfold caseF headF
 rw [show lineL wCase [n, f] ++ linesT wTimes X ++ linesT wOrder Y ++ linesT wVehicle Z = lineL wCase [n, f] ++ (linesT wTimes X ++ (linesT wOrder Y ++ linesT wVehicle Z)) by simp]
 have e1' : lineF wCase 2 (lineL wCase [n, f] ++ (linesT wTimes X ++ (linesT wOrder Y ++ linesT wVehicle Z))) = some ([n, f], linesT wTimes X ++ (linesT wOrder Y ++ linesT wVehicle Z)) := e1
 rw [e1']
 simp only [List.getD_cons_zero, List.getD_cons_succ, hin, if_pos, e2, e3, e4]
 have hm : mkCV n f X Y Z = ⟨n, f, zs, os, vs, ko, kv⟩ := by unfold mkCV; rw [eX, eY, eZ, lY, lZ]
 rw [hm, if_pos h]
theorem readC_of {c : CV} (h : c.ok = true) (hl : c.lens) : readC c.tx = some c := by unfold readC; rw [caseF_of h hl]; simp
theorem readC_is {s : List UInt8} {c : CV} (h : readC s = some c) : c.ok = true /\ c.lens /\ s = c.tx := by
 unfold readC at h
 cases h1 : caseF s with
 | none => rw [h1] at h; cases h
 | some q =>
   obtain ⟨d, r⟩ := q
   rw [h1] at h
   simp only at h
   split at h
   · rename_i hr
     cases h
     subst hr
     have := caseF_is h1
     rw [List.append_nil] at this
     exact this
   · cases h
def cv0 : CV := ⟨0, 0, [], [], [], 0, 0⟩
def stepC (c : CV) (w : List UInt8) (l : List Int) : CV :=
 if w = wCase /\ l.length = 2 then { c with n := l.getD 0 0, f := l.getD 1 0 }
 else if w = wTimes then { c with zs := c.zs ++ l }
 else if w = wOrder /\ l.length = 6 then { c with os := c.os ++ l, ko := c.ko + 1 }
 else if w = wVehicle /\ l.length = 5 then { c with vs := c.vs ++ l, kv := c.kv + 1 }
 else c
def lineC (st : Option CV) (ln : List UInt8) : Option CV := match st with
 | none => none
 | some c => match cutF ln with | none => none | some (w, l) => some (stepC c w l)
def lnsC (ls : List (List UInt8)) : Option CV := ls.foldl lineC (some cv0)
def specFC (s : List UInt8) : Option CV := if (sepF 10 s).2 = [] /\ s.length <= 20000 then lnsC (sepF 10 s).1 else none
def CV.txt0 (c : CV) : List UInt8 := if c.ok = true then c.tx else []
def specC (s : List UInt8) : Option CV := match specFC s with | none => none | some c => if s ≠ [] /\ c.txt0 = s then some c else none
theorem lineC_none (ls : List (List UInt8)) : ls.foldl lineC none = none := by
 induction ls with
 | nil => rfl
 | cons l ls ih => exact ih
theorem step_lens (c : CV) (w : List UInt8) (l : List Int) (h : c.lens) : (stepC c w l).lens := by
 obtain ⟨h1, h2⟩ := h
 unfold stepC
 split
 · exact ⟨h1, h2⟩
 split
 · exact ⟨h1, h2⟩
 split
 · rename_i hl
   refine ⟨?_, h2⟩
   show (c.os ++ l).length = (c.ko + 1) * 6
   rw [List.length_append, hl.2, h1]
   omega
 split
 · rename_i hl
   refine ⟨h1, ?_⟩
   show (c.vs ++ l).length = (c.kv + 1) * 5
   rw [List.length_append, hl.2, h2]
   omega
 · exact ⟨h1, h2⟩
theorem lnsC_lens : ∀ (ls : List (List UInt8)) (c d : CV), c.lens -> ls.foldl lineC (some c) = some d -> d.lens
 | [], c, d, h, e => by cases e; exact h
 | ln :: ls, c, d, h, e => by
   rw [List.foldl_cons] at e
   cases hc : cutF ln with
   | none =>
     have : lineC (some c) ln = none := by simp [lineC, hc]
     rw [this, lineC_none] at e
     cases e
   | some q =>
     obtain ⟨w, l⟩ := q
     have : lineC (some c) ln = some (stepC c w l) := by simp [lineC, hc]
     rw [this] at e
     exact lnsC_lens ls _ d (step_lens c w l h) e
theorem natI_B {l : List Int} (h : ∀ x ∈ l, natI x) : ∀ x ∈ l, natB x := fun x hx => natI_nat (h x hx)
theorem sep_line (w : List UInt8) (l : List Int) (o : List (List UInt8)) (s : List UInt8) (hw : ∀ c ∈ w, c ≠ 10) (h : ∀ x ∈ l, natI x) : (lineL w l ++ s).foldl (sepS 10) (o, []) = s.foldl (sepS 10) (o ++ [w ++ idsT l], []) := by
 have e : lineL w l ++ s = (w ++ idsT l) ++ (10 :: s) := by rw [lineL_app]; simp
 rw [e, List.foldl_append, sep_body _ o [] ?_, List.foldl_cons]
 · have e2 : sepS 10 (o, [] ++ (w ++ idsT l)) 10 = (o ++ [w ++ idsT l], []) := by simp [sepS]
   rw [e2]
 · intro c hc
   rcases List.mem_append.1 hc with hc | hc
   · exact hw c hc
   · exact ids_no10 (natI_B h) c hc
theorem sep_lines (w : List UInt8) (hw : ∀ c ∈ w, c ≠ 10) : ∀ (X : List (List Int)) (o : List (List UInt8)) (s : List UInt8), (∀ l ∈ X, ∀ x ∈ l, natI x) -> (linesT w X ++ s).foldl (sepS 10) (o, []) = s.foldl (sepS 10) (o ++ X.map (fun l => w ++ idsT l), [])
 | [], o, s, _ => by simp [linesT]
 | l :: X, o, s, h => by
   rw [linesT_cons, sep_line w l o _ hw (h l (by simp)), sep_lines w hw X _ s (fun l hl => h l (by simp [hl]))]
   simp
theorem lineC_of (c : CV) (w : List UInt8) (l : List Int) (hw : ∀ c ∈ w, c ≠ 32) (h : ∀ x ∈ l, natI x) : lineC (some c) (w ++ idsT l) = some (stepC c w l) := by
 unfold lineC
 simp only
 rw [cutF_of hw (natI_B h)]
theorem fold_times : ∀ (X : List (List Int)) (c : CV), (∀ l ∈ X, ∀ x ∈ l, natI x) -> (X.map (fun l => wTimes ++ idsT l)).foldl lineC (some c) = some { c with zs := c.zs ++ X.flatten }
 | [], c, _ => by simp
 | l :: X, c, h => by
   rw [List.map_cons, List.foldl_cons, lineC_of c wTimes l (by decide) (h l (by simp))]
   have e : stepC c wTimes l = { c with zs := c.zs ++ l } := by simp [stepC, wTimes, wCase]
   rw [e, fold_times X _ (fun l hl => h l (by simp [hl]))]
   simp
theorem fold_orders : ∀ (X : List (List Int)) (c : CV), (∀ l ∈ X, l.length = 6 /\ ∀ x ∈ l, natI x) -> (X.map (fun l => wOrder ++ idsT l)).foldl lineC (some c) = some { c with os := c.os ++ X.flatten, ko := c.ko + X.length }
 | [], c, _ => by simp
 | l :: X, c, h => by
   rw [List.map_cons, List.foldl_cons, lineC_of c wOrder l (by decide) (h l (by simp)).2]
   have e : stepC c wOrder l = { c with os := c.os ++ l, ko := c.ko + 1 } := by simp [stepC, wTimes, wCase, wOrder, (h l (by simp)).1]
   rw [e, fold_orders X _ (fun l hl => h l (by simp [hl]))]
   simp
   omega
theorem fold_vehs : ∀ (X : List (List Int)) (c : CV), (∀ l ∈ X, l.length = 5 /\ ∀ x ∈ l, natI x) -> (X.map (fun l => wVehicle ++ idsT l)).foldl lineC (some c) = some { c with vs := c.vs ++ X.flatten, kv := c.kv + X.length }
 | [], c, _ => by simp
 | l :: X, c, h => by
   rw [List.map_cons, List.foldl_cons, lineC_of c wVehicle l (by decide) (h l (by simp)).2]
   have e : stepC c wVehicle l = { c with vs := c.vs ++ l, kv := c.kv + 1 } := by simp [stepC, wTimes, wCase, wOrder, wVehicle, (h l (by simp)).1]
   rw [e, fold_vehs X _ (fun l hl => h l (by simp [hl]))]
   simp
   omega
theorem tx_len {c : CV} (h : c.ok = true) : c.tx.length <= 20000 := by
 obtain ⟨n, f, zs, os, vs, ko, kv⟩ := c
 have hc : caseB n zs os vs ko kv f = true := h
 obtain ⟨h1, h2, h3, h4⟩ := caseB_four hc
 obtain ⟨m1, m2, m3, _⟩ := matB_true h1
 have hk := (ordsB_true h2).1
 have hk2 := (vehsB_true h3).1
 have a1 := timesL_len h1 n.toNat (Nat.le_refl _)
 have a2 := ordersL_len h2 (by omega) ko (Nat.le_refl _)
 have a3 := vehiclesL_len h3 (by omega) kv (Nat.le_refl _)
 unfold inB at h4
 simp only [decide_eq_true_eq] at h4
 have a4 := lineL_len wCase [n, f] (fun v hv => by
  rcases List.mem_cons.1 hv with rfl | hv
  · omega
  · rcases List.mem_cons.1 hv with rfl | hv
    · omega
    · simp at hv)
 have hw : wCase.length = 4 := rfl
 have h2' : [n, f].length = 2 := rfl
 rw [hw, h2'] at a4
 show (caseL n f zs os vs ko kv).length <= 20000
 unfold caseL headL
 simp only [List.length_append]
 omega
theorem specFC_of {s : List UInt8} {c : CV} (h : readC s = some c) : specFC s = some c := by
 obtain ⟨hok, hl, hs⟩ := readC_is h
 have hlen := tx_len hok
 unfold readC at h
 cases hf : caseF s with
 | none => rw [hf] at h; cases h
 | some q =>
   obtain ⟨d, r⟩ := q
   rw [hf] at h
   simp only at h
   split at h
   · rename_i hr
     cases h
     subst hr
     unfold caseF headF at hf
     cases h0 : lineF wCase 2 s with
     | none => rw [h0] at hf; cases hf
     | some q =>
       obtain ⟨l, r1⟩ := q
       rw [h0] at hf
       simp only at hf
       split at hf
       · obtain ⟨a1, a2, a3⟩ := lineF_is h0
         obtain ⟨n, f, rfl⟩ : ∃ n f, l = [n, f] := by
          match l, a2 with
          | [n, f], _ => exact ⟨n, f, rfl⟩
         simp only [List.getD_cons_zero, List.getD_cons_succ] at hf
         cases h1 : lnsF wTimes n.toNat n.toNat r1 with
         | none => rw [h1] at hf; cases hf
         | some q =>
           obtain ⟨X, r2⟩ := q
           rw [h1] at hf
           simp only at hf
           cases h2 : whileF wOrder 6 12 r2 with
           | none => rw [h2] at hf; cases hf
           | some q =>
             obtain ⟨Y, r3⟩ := q
             rw [h2] at hf
             simp only at hf
             cases h3 : whileF wVehicle 5 5 r3 with
             | none => rw [h3] at hf; cases hf
             | some q =>
               obtain ⟨Z, r4⟩ := q
               rw [h3] at hf
               simp only at hf
               split at hf
               · simp only [Option.some.injEq, Prod.mk.injEq] at hf
                 obtain ⟨rfl, rfl⟩ := hf
                 obtain ⟨b1, b2, b3⟩ := lnsF_is _ _ _ _ _ _ h1
                 obtain ⟨c1, c2, c3⟩ := whileF_is _ _ _ _ _ _ h2
                 obtain ⟨d1, d2, d3⟩ := whileF_is _ _ _ _ _ _ h3
                 have es : sepF 10 s = ([wCase ++ idsT [n, f]] ++ X.map (fun l => wTimes ++ idsT l) ++ Y.map (fun l => wOrder ++ idsT l) ++ Z.map (fun l => wVehicle ++ idsT l), []) := by
                  unfold sepF
                  rw [a1, sep_line wCase _ [] _ (by decide) a3, b1, sep_lines wTimes (by decide) X _ _ (fun l hl => (b3 l hl).2), c1, sep_lines wOrder (by decide) Y _ _ (fun l hl => (c3 l hl).2), d1, sep_lines wVehicle (by decide) Z _ _ (fun l hl => (d3 l hl).2)]
                  simp
                 unfold specFC
                 rw [es, if_pos ⟨rfl, by rw [hs]; exact hlen⟩]
                 unfold lnsC
                 simp only [List.foldl_append, List.foldl_cons, List.foldl_nil]
                 rw [lineC_of cv0 wCase [n, f] (by decide) a3]
                 have e0 : stepC cv0 wCase [n, f] = ⟨n, f, [], [], [], 0, 0⟩ := by simp [stepC, cv0]
                 rw [e0, fold_times X _ (fun l hl => (b3 l hl).2), fold_orders Y _ c3, fold_vehs Z _ d3]
                 simp [mkCV]
               · cases hf
       · cases hf
   · cases h
theorem specC_is (s : List UInt8) : specC s = readC s := by
 cases hr : readC s with
 | some c =>
   obtain ⟨h1, h2, h3⟩ := readC_is hr
   unfold specC
   rw [specFC_of hr]
   simp only
   have ht : c.txt0 = s := by unfold CV.txt0; rw [if_pos h1, h3]
   have hne : s ≠ [] := by
    rw [h3]
    intro e
    unfold CV.tx caseL headL lineL wCase at e
    simp at e
   rw [if_pos ⟨hne, ht⟩]
 | none =>
   unfold specC
   cases hs : specFC s with
   | none => rfl
   | some c =>
     simp only
     rw [if_neg]
     rintro ⟨hne, e⟩
     unfold CV.txt0 at e
     by_cases hf : c.ok = true
     · rw [if_pos hf] at e
       unfold specFC at hs
       split at hs
       · have hl := lnsC_lens _ cv0 c ⟨rfl, rfl⟩ hs
         rw [<- e, readC_of hf hl] at hr
         cases hr
       · cases hs
     · rw [if_neg hf] at e
       exact hne e.symm
def isLt (c : UInt8) : Bool := decide (97 <= c.toNat /\ c.toNat <= 122)
def nmB (l : List UInt8) : Bool := decide (1 <= l.length /\ l.length <= 12) && l.all isLt
def wSnap : List UInt8 := [115, 110, 97, 112]
def wPlan : List UInt8 := [112, 108, 97, 110]
def wSearch : List UInt8 := [115, 101, 97, 114, 99, 104]
def wPublish : List UInt8 := [112, 117, 98, 108, 105, 115, 104]
def wSweep : List UInt8 := [115, 119, 101, 101, 112]
def namedF (w : List UInt8) (k : Nat) (s : List UInt8) : Option (List UInt8 × List Int × List UInt8) :=
 if (w ++ [32]).isPrefixOf s = true then
  (if nmB ((s.drop (w.length + 1)).takeWhile isLt) = true then
    (match numsF k ((s.drop (w.length + 1)).drop ((s.drop (w.length + 1)).takeWhile isLt).length) with
      | none => none
      | some (l, r) => some ((s.drop (w.length + 1)).takeWhile isLt, l, r))
    else none)
  else none
structure QV where
 kind : Int
 name : List UInt8
 id : Int
 seed : Int
 steps : Int
 c : CV
 R : List RT
 L : List Int
def noC (c : CV) : Bool := decide (c.n = 0 /\ c.zs.length = 0 /\ c.ko = 0 /\ c.kv = 0 /\ c.f = 0)
def QV.bare (q : QV) : Bool := decide (q.R.length = 0 /\ q.L.length = 0)
def QV.calm (q : QV) : Bool := decide (q.seed = 0 /\ q.steps = 0)
def QV.ok (q : QV) : Bool := nmB q.name &&
 (if q.kind = 1 then q.c.ok && (q.bare && (q.calm && decide (q.id = 0)))
 else if q.kind = 2 then noC q.c && (formB q.R q.L && (q.calm && inB q.id 1 1000000000))
 else if q.kind = 3 then noC q.c && (q.bare && (inB q.seed 0 2147483647 && (inB q.steps 0 60 && inB q.id 1 1000000000)))
 else if q.kind = 4 then noC q.c && (q.bare && (q.calm && inB q.id 1 1000000000))
 else if q.kind = 5 then noC q.c && (q.bare && (q.calm && decide (q.id = 0)))
 else false)
def wOf (k : Int) : List UInt8 := if k = 1 then wSnap else if k = 2 then wPlan else if k = 3 then wSearch else if k = 4 then wPublish else wSweep
def QV.nums (q : QV) : List Int := if q.kind = 2 ∨ q.kind = 4 then [q.id] else if q.kind = 3 then [q.id, q.seed, q.steps] else []
def QV.rest (q : QV) : List UInt8 := if q.kind = 1 then q.c.tx else if q.kind = 2 then planL q.R q.L else []
def QV.tx (q : QV) : List UInt8 := lineL (wOf q.kind ++ 32 :: q.name) q.nums ++ q.rest
def QV.txt (q : QV) : List UInt8 := if q.ok = true then q.tx else []
def reqF (s : List UInt8) : Option (QV × List UInt8) :=
 if (wSnap ++ [32]).isPrefixOf s = true then (match namedF wSnap 0 s with
  | none => none
  | some (nm, _, r) => match caseF r with
    | none => none
    | some (c, r2) => some (⟨1, nm, 0, 0, 0, c, [], []⟩, r2))
 else if (wPlan ++ [32]).isPrefixOf s = true then (match namedF wPlan 1 s with
  | none => none
  | some (nm, l, r) => match planF r with
    | none => none
    | some (R, L, r2) => if inB (l.getD 0 0) 1 1000000000 = true then some (⟨2, nm, l.getD 0 0, 0, 0, cv0, R, L⟩, r2) else none)
 else if (wSearch ++ [32]).isPrefixOf s = true then (match namedF wSearch 3 s with
  | none => none
  | some (nm, l, r) => if (inB (l.getD 0 0) 1 1000000000 && (inB (l.getD 1 0) 0 2147483647 && inB (l.getD 2 0) 0 60)) = true then some (⟨3, nm, l.getD 0 0, l.getD 1 0, l.getD 2 0, cv0, [], []⟩, r) else none)
 else if (wPublish ++ [32]).isPrefixOf s = true then (match namedF wPublish 1 s with
  | none => none
  | some (nm, l, r) => if inB (l.getD 0 0) 1 1000000000 = true then some (⟨4, nm, l.getD 0 0, 0, 0, cv0, [], []⟩, r) else none)
 else if (wSweep ++ [32]).isPrefixOf s = true then (match namedF wSweep 0 s with
  | none => none
  | some (nm, _, r) => some (⟨5, nm, 0, 0, 0, cv0, [], []⟩, r))
 else none
def readQ (s : List UInt8) : Option QV := match reqF s with | none => none | some (q, r) => if r = [] then some q else none
theorem takeLt_app {d r : List UInt8} (hd : d.all isLt = true) (hr : ∀ c t, r = c :: t -> isLt c = false) : (d ++ r).takeWhile isLt = d := by
 rw [List.takeWhile_append_of_pos (fun c hc => List.all_eq_true.1 hd c hc)]
 cases r with
 | nil => simp
 | cons c r => rw [List.takeWhile_cons, hr c r rfl]; simp
theorem ids_head (l : List Int) (r : List UInt8) : ∀ c t, idsT l ++ 10 :: r = c :: t -> isLt c = false := fun c t h => by
 cases l with
 | nil => injection h with h1 h2; subst h1; rfl
 | cons n l => injection h with h1 h2; subst h1; rfl
theorem lt_drop (s : List UInt8) : s.takeWhile isLt ++ s.drop (s.takeWhile isLt).length = s := by
 have : ∀ t : List UInt8, t.drop (t.takeWhile isLt).length = t.dropWhile isLt := fun t => by
  induction t with
  | nil => simp
  | cons x t ih => rw [List.takeWhile_cons, List.dropWhile_cons]; split <;> simp [ih]
 rw [this, List.takeWhile_append_dropWhile]
theorem named_tx (w nm : List UInt8) (l : List Int) (r : List UInt8) : lineL (w ++ 32 :: nm) l ++ r = (w ++ [32]) ++ (nm ++ (idsT l ++ 10 :: r)) := by
 rw [lineL_app]
 simp
theorem namedF_of {w nm : List UInt8} {l : List Int} {r : List UInt8} (hn : nmB nm = true) (hl : ∀ x ∈ l, natI x) : namedF w l.length (lineL (w ++ 32 :: nm) l ++ r) = some (nm, l, r) := by
 have ha : nm.all isLt = true := by unfold nmB at hn; simp only [Bool.and_eq_true] at hn; exact hn.2
 have hd : (lineL (w ++ 32 :: nm) l ++ r).drop (w.length + 1) = nm ++ (idsT l ++ 10 :: r) := by
  have e9 : w.length + 1 = (w ++ [32]).length := by simp
  rw [named_tx, e9, List.drop_left]
 have ht := takeLt_app (r := idsT l ++ 10 :: r) ha (ids_head l r)
 unfold namedF
 rw [hd, ht, hn, List.drop_left, numsF_of l r hl, if_pos rfl, if_pos]
 rw [named_tx]
 exact prefix_app _ _
theorem namedF_is {w : List UInt8} {k : Nat} {s nm : List UInt8} {l : List Int} {r : List UInt8} (h : namedF w k s = some (nm, l, r)) : nmB nm = true /\ s = lineL (w ++ 32 :: nm) l ++ r /\ l.length = k /\ ∀ x ∈ l, natI x := by
 unfold namedF at h
 by_cases hp : (w ++ [32]).isPrefixOf s = true
 · rw [if_pos hp] at h
   have hs := prefix_is hp
   have e9 : (w ++ [32]).length = w.length + 1 := by simp
   rw [e9] at hs
   generalize s.drop (w.length + 1) = t at *
   by_cases hn : nmB (t.takeWhile isLt) = true
   · rw [if_pos hn] at h
     cases hm : numsF k (t.drop (t.takeWhile isLt).length) with
     | none => rw [hm] at h; cases h
     | some x =>
       obtain ⟨l', r'⟩ := x
       rw [hm] at h
       injection h with h
       injection h with h1 h2
       injection h2 with h2 h3
       subst h1 h2 h3
       obtain ⟨g1, g2, g3⟩ := numsF_is _ _ _ _ hm
       refine ⟨hn, ?_, g2, g3⟩
       rw [named_tx, <- g1, lt_drop]
       exact hs
   · rw [if_neg hn] at h; cases h
 · rw [if_neg hp] at h; cases h
theorem readF_eq {r : List UInt8} {R : List RT} {L : List Int} : readF r = some (R, L) ↔ planF r = some (R, L, []) := by
 unfold readF
 cases planF r with
 | none => simp
 | some x => obtain ⟨R', L', r'⟩ := x; simp only [Option.some.injEq, Prod.mk.injEq]; split <;> simp_all
theorem inB_natI {n hi : Int} {lo : Int} (h : inB n lo hi = true) (h0 : 0 <= lo) (h1 : hi < 10000000000) : natI n := by
 have := inB_true h
 unfold natI
 omega
theorem len1 {l : List Int} (h : l.length = 1) : l = [l.getD 0 0] := by
 match l, h with
 | [a], _ => rfl
theorem len3 {l : List Int} (h : l.length = 3) : l = [l.getD 0 0, l.getD 1 0, l.getD 2 0] := by
 match l, h with
 | [a, b, c], _ => rfl
theorem cv0_no : noC cv0 = true := by decide
theorem cv0_lens : cv0.lens := ⟨rfl, rfl⟩
theorem readQ_is {s : List UInt8} {q : QV} (h : readQ s = some q) : q.ok = true /\ q.c.lens /\ q.R.map bare = q.R /\ s = q.tx := by
 unfold readQ at h
 cases hr : reqF s with
 | none => rw [hr] at h; cases h
 | some x =>
   obtain ⟨q', r⟩ := x
   rw [hr] at h
   simp only at h
   split at h
   · rename_i e
     subst e
     injection h with h
     subst h
     unfold reqF at hr
     split at hr
     · cases hm : namedF wSnap 0 s with
       | none => rw [hm] at hr; cases hr
       | some y =>
         obtain ⟨nm, l, r⟩ := y
         rw [hm] at hr
         simp only at hr
         cases hc : caseF r with
         | none => rw [hc] at hr; cases hr
         | some z =>
           obtain ⟨c, r2⟩ := z
           rw [hc] at hr
           injection hr with hr
           injection hr with h1 h2
           subst h1 h2
           obtain ⟨g1, g2, g3, g4⟩ := namedF_is hm
           obtain ⟨c1, c2, c3⟩ := caseF_is hc
           obtain rfl := List.eq_nil_of_length_eq_zero g3
           refine ⟨?_, c2, rfl, ?_⟩
           · simp [QV.ok, g1, c1, QV.bare, QV.calm]
           · rw [g2, c3, List.append_nil]; rfl
     · split at hr
       · cases hm : namedF wPlan 1 s with
         | none => rw [hm] at hr; cases hr
         | some y =>
           obtain ⟨nm, l, r⟩ := y
           rw [hm] at hr
           simp only at hr
           cases hc : planF r with
           | none => rw [hc] at hr; cases hr
           | some z =>
             obtain ⟨R, L, r2⟩ := z
             rw [hc] at hr
             simp only at hr
             split at hr
             · rename_i hid
               injection hr with hr
               injection hr with h1 h2
               subst h1 h2
               obtain ⟨g1, g2, g3, g4⟩ := namedF_is hm
               obtain ⟨c1, c2, c3⟩ := readF_is (readF_eq.2 hc)
               have g5 := len1 g3
               refine ⟨?_, cv0_lens, c3, ?_⟩
               · simp [QV.ok, g1, c1, QV.calm, cv0_no]; exact hid
               · rw [g2, c2, g5]; rfl
             · cases hr
       · split at hr
         · cases hm : namedF wSearch 3 s with
           | none => rw [hm] at hr; cases hr
           | some y =>
             obtain ⟨nm, l, r⟩ := y
             rw [hm] at hr
             simp only at hr
             split at hr
             · rename_i hid
               injection hr with hr
               injection hr with h1 h2
               subst h1 h2
               obtain ⟨g1, g2, g3, g4⟩ := namedF_is hm
               have g5 := len3 g3
               simp only [Bool.and_eq_true] at hid
               refine ⟨?_, cv0_lens, rfl, ?_⟩
               · simp [QV.ok, g1, QV.bare, cv0_no]; exact ⟨hid.2.1, hid.2.2, hid.1⟩
               · rw [g2, g5]; rfl
             · cases hr
         · split at hr
           · cases hm : namedF wPublish 1 s with
             | none => rw [hm] at hr; cases hr
             | some y =>
               obtain ⟨nm, l, r⟩ := y
               rw [hm] at hr
               simp only at hr
               split at hr
               · rename_i hid
                 injection hr with hr
                 injection hr with h1 h2
                 subst h1 h2
                 obtain ⟨g1, g2, g3, g4⟩ := namedF_is hm
                 have g5 := len1 g3
                 refine ⟨?_, cv0_lens, rfl, ?_⟩
                 · simp [QV.ok, g1, QV.bare, QV.calm, cv0_no]; exact hid
                 · rw [g2, g5]; rfl
               · cases hr
           · split at hr
             · cases hm : namedF wSweep 0 s with
               | none => rw [hm] at hr; cases hr
               | some y =>
                 obtain ⟨nm, l, r⟩ := y
                 rw [hm] at hr
                 injection hr with hr
                 injection hr with h1 h2
                 subst h1 h2
                 obtain ⟨g1, g2, g3, g4⟩ := namedF_is hm
                 obtain rfl := List.eq_nil_of_length_eq_zero g3
                 refine ⟨?_, cv0_lens, rfl, ?_⟩
                 · simp [QV.ok, g1, QV.bare, QV.calm, cv0_no]
                 · rw [g2]; rfl
             · cases hr
   · cases h
theorem noC_cv0 {c : CV} (h : noC c = true) (hl : c.lens) : c = cv0 := by
 obtain ⟨n, zs, os, vs, ko, kv, f⟩ := c
 unfold noC at h
 simp only [decide_eq_true_eq] at h
 obtain ⟨h1, h2, h3, h4, h5⟩ := h
 obtain ⟨l1, l2⟩ := hl
 simp only at *
 subst h1 h3 h4 h5
 obtain rfl := List.eq_nil_of_length_eq_zero h2
 obtain rfl := List.eq_nil_of_length_eq_zero (by simpa using l1)
 obtain rfl := List.eq_nil_of_length_eq_zero (by simpa using l2)
 rfl
theorem no_pre (w v nm : List UInt8) (l : List Int) (r : List UInt8) (h : v.isPrefixOf (w ++ [32]) = false) (hl : v.length <= w.length + 1) : v.isPrefixOf (lineL (w ++ 32 :: nm) l ++ r) = false := by
 rw [named_tx]
 cases hp : v.isPrefixOf ((w ++ [32]) ++ (nm ++ (idsT l ++ 10 :: r))) with
 | false => rfl
 | true =>
   rw [List.isPrefixOf_iff_prefix] at hp
   have h9 := List.prefix_of_prefix_length_le hp (List.prefix_append (w ++ [32]) _) (by simp; omega)
   rw [<- List.isPrefixOf_iff_prefix, h] at h9
   cases h9
def PX (w W : World) (cs : Array Value) : Prop := Below w.heap.size w W /\ W.heap[w.heap.size]? = some (.cells cs 31 (0, 0))
theorem PX.new (w : World) (cs : Array Value) : PX w (w.alloc (.cells cs 31)) cs := ⟨(Below.refl _ _).alloc (Nat.le_refl _) _, heap_alloc_new _ _⟩
theorem PX.below {w W W' : World} {cs : Array Value} (h : PX w W cs) (hb : Below W.heap.size W W') : PX w W' cs := ⟨h.1.trans (hb.mono h.1.size), below_row hb (row_lt h.2) h.2⟩
set_option maxHeartbeats 1000000 in
theorem l4Ids_any (a : Option Addr) (cap : Nat) (ids : List Int) (w : World) (hA : IntsAt w a ids) (hn : ids.length <= 1048576) :
 Calls Tryz.prog 75 #[.slice a ids.length cap] w fun e w' => e = .returned (.bool (idsB ids)) /\ w' = w := by
 have HA : Hid (IntsAt w a ids) := hA
 clear hA
 obtain ⟨n, HN⟩ : ∃ n, Hid (ids.length = n) := ⟨_, rfl⟩
 rw [HN.out] at hn ⊢
 obtain ⟨x, HX⟩ : ∃ x, Hid (idsB ids = x) := ⟨_, rfl⟩
 rw [HX.out]
 go_enter Tryz.func75, Tryz.ntmps75
 go_wp2_with fail
 go_loop [3] (fun t => ∃ k : Nat, k <= n /\ t = .int .i64 k /\ idsTo ids k = true) (fun t => n - (intOf t).toNat)
 case atStart => exact ⟨0, Nat.zero_le _, rfl, idsTo_zero _⟩
 case round =>
  obtain ⟨k, hk, rfl, ht⟩ := hrel
  have HT : Hid (idsTo ids k = true) := ht
  clear ht
  by_cases hlt : k < n
  · have hkl : k < ids.length := by rw [HN.out]; exact hlt
    obtain ⟨b, off, rfl, hc⟩ := HA.out k hkl
    have HS : Hid (idsTo ids (k + 1) = (idsTo ids k && inB (ids.getD k 0) 1 1000000000)) := idsTo_succ ids k hkl
    have HBAD : Hid (inB (ids.getD k 0) 1 1000000000 = false -> idsB ids = false) := idsB_bad hkl
    obtain ⟨v, HV⟩ : ∃ v, Hid (ids.getD k 0 = v) := ⟨_, rfl⟩
    rw [HV.out] at hc HS HBAD
    clear hkl
    have C := l1In_any v 1 1000000000 w
    cases h1 : inB v 1 1000000000
    · rw [h1] at C
      have hx : x = false := by rw [<- HX.out]; exact HBAD.out h1
      subst hx
      clear h1
      go_wp2_with (go_at_call 54; refine C.mono ?_; rintro e w' ⟨rfl, rfl⟩)
      go_ret
      exact ⟨rfl, rfl⟩
    · rw [h1] at C
      have HS2 : Hid (idsTo ids (k + 1) = true) := by show _ = _; rw [HS.out, HT.out, h1]; rfl
      clear h1
      go_wp2_with (go_at_call 54; refine C.mono ?_; rintro e w' ⟨rfl, rfl⟩)
      go_round
      case rel => exact ⟨k + 1, by omega, by go_num, HS2.out⟩
      case measure => simp [intOf]; omega
  · have hkm : k = n := by omega
    have HE : Hid (x = decide ((n : Int) <= 12)) := by
     show _ = _
     rw [<- HX.out]
     unfold idsB
     rw [HN.out, <- hkm, HT.out, Bool.and_true]
     by_cases h : k <= 12
     · rw [decide_eq_true h, decide_eq_true (by omega)]
     · rw [decide_eq_false h, decide_eq_false (by omega)]
    clear hkm
    go_wp2
    go_ret
    exact ⟨by rw [HE.out]; rfl, rfl⟩
set_option maxHeartbeats 2000000 in
theorem l4Form_any (ra la : Option Addr) (rc lc : Nat) (R : List RT) (L : List Int) (w : World) (hR : RoutesAt w ra R) (hL : IntsAt w la L) (hn : R.length <= 1048576) (hl : L.length <= 1048576) (hi : ∀ r ∈ R, r.ids.length <= 1048576) :
 Calls Tryz.prog 52 #[.agg #[.slice ra R.length rc, .slice la L.length lc]] w fun e w' => e = .returned (.bool (formB R L)) /\ Below w.heap.size w w' := by
 have HR : Hid (RoutesAt w ra R) := hR
 have HL : Hid (IntsAt w la L) := hL
 have HI : Hid (∀ r ∈ R, r.ids.length <= 1048576) := hi
 have HLB : Hid (L.length <= 1048576) := hl
 clear hR hL hi
 obtain ⟨n, HN⟩ : ∃ n, Hid (R.length = n) := ⟨_, rfl⟩
 obtain ⟨l, HLL⟩ : ∃ l, Hid (L.length = l) := ⟨_, rfl⟩
 rw [HN.out] at hn ⊢
 rw [HLL.out] at hl ⊢
 obtain ⟨x, HX⟩ : ∃ x, Hid (formB R L = x) := ⟨_, rfl⟩
 rw [HX.out]
 have C0 : Hid (PX w (w.alloc (.cells #[.slice ra n rc, .slice la l lc] 31)) #[.slice ra n rc, .slice la l lc]) := PX.new w _
 obtain ⟨c0, c1⟩ := cells2 C0.out.2
 have CL := l4Ids_any la lc L (w.alloc (.cells #[.slice ra n rc, .slice la l lc] 31)) (HL.out.below C0.out.1) HLB.out
 rw [HLL.out] at CL
 by_cases hm : (5 : Int) < n
 · have hx : x = false := by rw [<- HX.out]; exact formB_many (by rw [HN.out]; omega)
   subst hx
   clear CL
   go_enter Tryz.func52, Tryz.ntmps52
   go_wp2
   go_ret
   exact ⟨rfl, C0.out.1⟩
 cases hl1 : idsB L
 · have hx : x = false := by rw [<- HX.out]; exact formB_left hl1
   subst hx
   rw [hl1] at CL
   clear hl1
   go_enter Tryz.func52, Tryz.ntmps52
   go_wp2_with (go_at_call 75; refine CL.mono ?_; rintro e w' ⟨rfl, rfl⟩)
   go_ret
   exact ⟨rfl, C0.out.1⟩
 have HLI : Hid (idsB L = true) := hl1
 rw [hl1] at CL
 clear hl1
 go_enter Tryz.func52, Tryz.ntmps52
 go_wp2_with (go_at_call 75; refine CL.mono ?_; rintro e w' ⟨rfl, rfl⟩)
 clear c0 c1 CL
 generalize w.alloc (.cells #[.slice ra n rc, .slice la l lc] 31) = W0 at *
 go_loopw [3] (fun t wr => ∃ k : Nat, k <= n /\ t = .int .i64 k /\ rtsTo R k = true /\ PX w wr #[.slice ra n rc, .slice la l lc]) (fun t _ => n - (intOf t).toNat)
 case atStart => exact ⟨0, Nat.zero_le _, rfl, rtsTo_zero _, C0.out⟩
 case round =>
  clear C0
  obtain ⟨k, hk, rfl, ht, hp⟩ := hrel
  have HT : Hid (rtsTo R k = true) := ht
  have CW : Hid (PX w wr #[.slice ra n rc, .slice la l lc]) := hp
  clear ht hp
  obtain ⟨c0, c1⟩ := cells2 CW.out.2
  by_cases hlt : k < n
  · have hkl : k < R.length := by rw [HN.out]; exact hlt
    have hkn : (k : Int) < n := by omega
    obtain ⟨b, off, rfl, r0, r1, hI⟩ := (HR.out.below CW.out.1) k hkl
    have HS : Hid (rtsTo R (k + 1) = (rtsTo R k && (inB (R.getD k rt0).v 1 1000000000 && idsB (R.getD k rt0).ids))) := rtsTo_succ R k hkl
    have HBAD : Hid ((inB (R.getD k rt0).v 1 1000000000 && idsB (R.getD k rt0).ids) = false -> formB R L = false) := formB_bad hkl
    have hil : (R.getD k rt0).ids.length <= 1048576 := HI.out _ (by rw [List.getD_eq_getElem?_getD, List.getElem?_eq_getElem hkl]; simp)
    generalize R.getD k rt0 = r at *
    obtain ⟨rv, rra, rids, rcc⟩ := r
    simp only at r0 r1 hI hil HS HBAD
    clear hkl
    have C1 := l1In_any rv 1 1000000000 wr
    have C2 := l4Ids_any rra rcc rids wr (hI) hil
    have HBW : Hid (Below wr.heap.size wr wr) := Below.refl _ _
    clear hI
    obtain ⟨m, HM⟩ : ∃ m, Hid (rids.length = m) := ⟨_, rfl⟩
    rw [HM.out] at r1 hil C2
    cases h1 : inB rv 1 1000000000
    · rw [h1] at C1
      have hx : x = false := by rw [<- HX.out]; exact HBAD.out (by rw [h1]; rfl)
      subst hx
      clear h1 C2
      go_wp2_with (go_at_call 54; refine C1.mono ?_; rintro e w' ⟨rfl, rfl⟩)
      go_ret
      exact ⟨rfl, (CW.out.below HBW.out).1⟩
    · rw [h1] at C1 HS HBAD
      clear h1
      cases h2 : idsB rids
      · rw [h2] at C2
        have hx : x = false := by rw [<- HX.out]; exact HBAD.out (by rw [h2]; rfl)
        subst hx
        clear h2
        go_wp2_with (first | (go_at_call 54; refine C1.mono ?_; rintro e w' ⟨rfl, rfl⟩) | (go_at_call 75; refine C2.mono ?_; rintro e w' ⟨rfl, rfl⟩))
        go_ret
        exact ⟨rfl, (CW.out.below HBW.out).1⟩
      · rw [h2] at C2
        have HS2 : Hid (rtsTo R (k + 1) = true) := by show _ = _; rw [HS.out, HT.out, h2]; rfl
        clear h2
        go_wp2_with (first | (go_at_call 54; refine C1.mono ?_; rintro e w' ⟨rfl, rfl⟩) | (go_at_call 75; refine C2.mono ?_; rintro e w' ⟨rfl, rfl⟩))
        go_roundw
        case rel => exact ⟨k + 1, by omega, by go_num, HS2.out, CW.out.below HBW.out⟩
        case measure => simp [intOf]; omega
  · have hkm : k = n := by omega
    have hx : x = true := by
     rw [<- HX.out]
     exact formB_is (by rw [HN.out]; omega) HLI.out (by rw [HN.out, <- hkm]; exact HT.out)
    subst hx
    have hnlt : ¬ ((k : Int) < (n : Int)) := by omega
    clear hkm
    go_wp2
    go_ret
    exact ⟨rfl, CW.out.1⟩
set_option maxHeartbeats 1000000 in
theorem idsOk_any (a : Option Addr) (cap : Nat) (ids : List Int) (w : World) (hA : IntsAt w a ids) (hn : ids.length <= 1048576) :
 Calls Tryz.prog 110 #[.slice a ids.length cap] w fun e w' => e = .returned (.bool (idsB ids)) /\ w' = w := by
 have HA : Hid (IntsAt w a ids) := hA
 clear hA
 obtain ⟨n, HN⟩ : ∃ n, Hid (ids.length = n) := ⟨_, rfl⟩
 rw [HN.out] at hn ⊢
 obtain ⟨x, HX⟩ : ∃ x, Hid (idsB ids = x) := ⟨_, rfl⟩
 rw [HX.out]
 by_cases hm : (12 : Int) < n
 · have hx : x = false := by rw [<- HX.out]; unfold idsB; rw [HN.out, decide_eq_false (by omega)]; rfl
   subst hx
   go_enter Tryz.func110, Tryz.ntmps110
   go_wp2
   go_ret
   exact ⟨rfl, rfl⟩
 go_enter Tryz.func110, Tryz.ntmps110
 go_wp2_with fail
 go_loop [10] (fun t => ∃ k : Nat, k <= n /\ t = .int .i64 k /\ idsTo ids k = true) (fun t => n - (intOf t).toNat)
 case atStart => exact ⟨0, Nat.zero_le _, rfl, idsTo_zero _⟩
 case round =>
  obtain ⟨k, hk, rfl, ht⟩ := hrel
  have HT : Hid (idsTo ids k = true) := ht
  clear ht
  by_cases hlt : k < n
  · have hkl : k < ids.length := by rw [HN.out]; exact hlt
    obtain ⟨b, off, rfl, hc⟩ := HA.out k hkl
    have HS : Hid (idsTo ids (k + 1) = (idsTo ids k && inB (ids.getD k 0) 1 1000000000)) := idsTo_succ ids k hkl
    have HBAD : Hid (inB (ids.getD k 0) 1 1000000000 = false -> idsB ids = false) := idsB_bad hkl
    obtain ⟨v, HV⟩ : ∃ v, Hid (ids.getD k 0 = v) := ⟨_, rfl⟩
    rw [HV.out] at hc HS HBAD
    clear hkl
    have C := within_any v 1 1000000000 w
    cases h1 : inB v 1 1000000000
    · rw [h1] at C
      have hx : x = false := by rw [<- HX.out]; exact HBAD.out h1
      subst hx
      clear h1
      go_wp2_with (go_at_call 77; refine C.mono ?_; rintro e w' ⟨rfl, rfl⟩)
      go_ret
      exact ⟨rfl, rfl⟩
    · rw [h1] at C
      have HS2 : Hid (idsTo ids (k + 1) = true) := by show _ = _; rw [HS.out, HT.out, h1]; rfl
      clear h1
      go_wp2_with (go_at_call 77; refine C.mono ?_; rintro e w' ⟨rfl, rfl⟩)
      go_round
      case rel => exact ⟨k + 1, by omega, by go_num, HS2.out⟩
      case measure => simp [intOf]; omega
  · have hkm : k = n := by omega
    have hx : x = true := by
     rw [<- HX.out]
     unfold idsB
     rw [HN.out, <- hkm, HT.out, Bool.and_true, decide_eq_true (by omega)]
    subst hx
    clear hkm
    go_wp2
    go_ret
    exact ⟨rfl, rfl⟩
set_option maxHeartbeats 2000000 in
theorem canBe_any (ra la : Option Addr) (rc lc : Nat) (R : List RT) (L : List Int) (w : World) (hR : RoutesAt w ra R) (hL : IntsAt w la L) (hn : R.length <= 1048576) (hl : L.length <= 1048576) (hi : ∀ r ∈ R, r.ids.length <= 1048576) :
 Calls Tryz.prog 109 #[.agg #[.slice ra R.length rc, .slice la L.length lc]] w fun e w' => e = .returned (.bool (formB R L)) /\ Below w.heap.size w w' := by
 have HR : Hid (RoutesAt w ra R) := hR
 have HL : Hid (IntsAt w la L) := hL
 have HI : Hid (∀ r ∈ R, r.ids.length <= 1048576) := hi
 have HLB : Hid (L.length <= 1048576) := hl
 clear hR hL hi
 obtain ⟨n, HN⟩ : ∃ n, Hid (R.length = n) := ⟨_, rfl⟩
 obtain ⟨l, HLL⟩ : ∃ l, Hid (L.length = l) := ⟨_, rfl⟩
 rw [HN.out] at hn ⊢
 rw [HLL.out] at hl ⊢
 obtain ⟨x, HX⟩ : ∃ x, Hid (formB R L = x) := ⟨_, rfl⟩
 rw [HX.out]
 have C0 : Hid (PX w (w.alloc (.cells #[.slice ra n rc, .slice la l lc] 31)) #[.slice ra n rc, .slice la l lc]) := PX.new w _
 obtain ⟨c0, c1⟩ := cells2 C0.out.2
 have CL := idsOk_any la lc L (w.alloc (.cells #[.slice ra n rc, .slice la l lc] 31)) (HL.out.below C0.out.1) HLB.out
 rw [HLL.out] at CL
 by_cases hm : (5 : Int) < n
 · have hx : x = false := by rw [<- HX.out]; exact formB_many (by rw [HN.out]; omega)
   subst hx
   clear CL
   go_enter Tryz.func109, Tryz.ntmps109
   go_wp2
   go_ret
   exact ⟨rfl, C0.out.1⟩
 cases hl1 : idsB L
 · have hx : x = false := by rw [<- HX.out]; exact formB_left hl1
   subst hx
   rw [hl1] at CL
   clear hl1
   go_enter Tryz.func109, Tryz.ntmps109
   go_wp2_with (go_at_call 110; refine CL.mono ?_; rintro e w' ⟨rfl, rfl⟩)
   go_ret
   exact ⟨rfl, C0.out.1⟩
 have HLI : Hid (idsB L = true) := hl1
 rw [hl1] at CL
 clear hl1
 go_enter Tryz.func109, Tryz.ntmps109
 go_wp2_with (go_at_call 110; refine CL.mono ?_; rintro e w' ⟨rfl, rfl⟩)
 clear c0 c1 CL
 generalize w.alloc (.cells #[.slice ra n rc, .slice la l lc] 31) = W0 at *
 go_loopw [18] (fun t wr => ∃ k : Nat, k <= n /\ t = .int .i64 k /\ rtsTo R k = true /\ PX w wr #[.slice ra n rc, .slice la l lc]) (fun t _ => n - (intOf t).toNat)
 case atStart => exact ⟨0, Nat.zero_le _, rfl, rtsTo_zero _, C0.out⟩
 case round =>
  clear C0
  obtain ⟨k, hk, rfl, ht, hp⟩ := hrel
  have HT : Hid (rtsTo R k = true) := ht
  have CW : Hid (PX w wr #[.slice ra n rc, .slice la l lc]) := hp
  clear ht hp
  obtain ⟨c0, c1⟩ := cells2 CW.out.2
  by_cases hlt : k < n
  · have hkl : k < R.length := by rw [HN.out]; exact hlt
    have hkn : (k : Int) < n := by omega
    obtain ⟨b, off, rfl, r0, r1, hI⟩ := (HR.out.below CW.out.1) k hkl
    have HS : Hid (rtsTo R (k + 1) = (rtsTo R k && (inB (R.getD k rt0).v 1 1000000000 && idsB (R.getD k rt0).ids))) := rtsTo_succ R k hkl
    have HBAD : Hid ((inB (R.getD k rt0).v 1 1000000000 && idsB (R.getD k rt0).ids) = false -> formB R L = false) := formB_bad hkl
    have hil : (R.getD k rt0).ids.length <= 1048576 := HI.out _ (by rw [List.getD_eq_getElem?_getD, List.getElem?_eq_getElem hkl]; simp)
    generalize R.getD k rt0 = r at *
    obtain ⟨rv, rra, rids, rcc⟩ := r
    simp only at r0 r1 hI hil HS HBAD
    clear hkl
    have C1 := within_any rv 1 1000000000 (wr.alloc (.cells #[.int .i64 rv, .slice rra rids.length rcc] 65))
    have C2 := idsOk_any rra rcc rids (wr.alloc (.cells #[.int .i64 rv, .slice rra rids.length rcc] 65)) (hI.below ((Below.refl _ _).alloc (Nat.le_refl _) _)) hil
    have HBW : Hid (Below wr.heap.size wr (wr.alloc (.cells #[.int .i64 rv, .slice rra rids.length rcc] 65))) := (Below.refl _ _).alloc (Nat.le_refl _) _
    clear hI
    obtain ⟨m, HM⟩ : ∃ m, Hid (rids.length = m) := ⟨_, rfl⟩
    rw [HM.out] at r1 hil C2
    rw [HM.out] at C1 HBW
    cases h1 : inB rv 1 1000000000
    · rw [h1] at C1
      have hx : x = false := by rw [<- HX.out]; exact HBAD.out (by rw [h1]; rfl)
      subst hx
      clear h1 C2
      go_wp2_with (go_at_call 77; refine C1.mono ?_; rintro e w' ⟨rfl, rfl⟩)
      go_ret
      exact ⟨rfl, (CW.out.below HBW.out).1⟩
    · rw [h1] at C1 HS HBAD
      clear h1
      cases h2 : idsB rids
      · rw [h2] at C2
        have hx : x = false := by rw [<- HX.out]; exact HBAD.out (by rw [h2]; rfl)
        subst hx
        clear h2
        go_wp2_with (first | (go_at_call 77; refine C1.mono ?_; rintro e w' ⟨rfl, rfl⟩) | (go_at_call 110; refine C2.mono ?_; rintro e w' ⟨rfl, rfl⟩))
        go_ret
        exact ⟨rfl, (CW.out.below HBW.out).1⟩
      · rw [h2] at C2
        have HS2 : Hid (rtsTo R (k + 1) = true) := by show _ = _; rw [HS.out, HT.out, h2]; rfl
        clear h2
        go_wp2_with (first | (go_at_call 77; refine C1.mono ?_; rintro e w' ⟨rfl, rfl⟩) | (go_at_call 110; refine C2.mono ?_; rintro e w' ⟨rfl, rfl⟩))
        go_roundw
        case rel => exact ⟨k + 1, by omega, by go_num, HS2.out, CW.out.below HBW.out⟩
        case measure => simp [intOf]; omega
  · have hkm : k = n := by omega
    have hx : x = true := by
     rw [<- HX.out]
     exact formB_is (by rw [HN.out]; omega) HLI.out (by rw [HN.out, <- hkm]; exact HT.out)
    subst hx
    have hnlt : ¬ ((k : Int) < (n : Int)) := by omega
    clear hkm
    go_wp2
    go_ret
    exact ⟨rfl, CW.out.1⟩
def rdLen (w : World) (q : Nat) : Nat := match w.cell? ⟨q, 0, none⟩ with | some (.string t) => t.size | _ => 0
theorem RX.len {w : World} {q : Nat} {s : List UInt8} (h : RX w q s) : rdLen w q = s.length := by
 unfold rdLen
 rw [h.cell]
 exact txt_size s
def fstF (p : UInt8) (s : List UInt8) : List UInt8 × List UInt8 := (s.takeWhile (fun c => c != p), (s.dropWhile (fun c => c != p)).drop 1)
theorem fstF_at {p : UInt8} : ∀ (s : List UInt8) (k : Nat), k <= s.length -> (∀ j, j < k -> s.getD j 0 ≠ p) -> (k = s.length ∨ s.getD k 0 = p) -> fstF p s = (s.take k, s.drop (k + 1))
 | [], k, hk, _, _ => by
   have : k = 0 := by simpa using hk
   subst this
   rfl
 | c :: s, 0, _, _, hn => by
   have hc : c = p := by
    rcases hn with hn | hn
    · simp at hn
    · exact hn
   subst hc
   simp [fstF]
 | c :: s, k + 1, hk, hd, hn => by
   have h0 : c ≠ p := hd 0 (by omega)
   have ih := fstF_at s k (by simpa using hk) (fun j hj => hd (j + 1) (by omega)) (by
    rcases hn with hn | hn
    · left; simpa using hn
    · right; exact hn)
   have hb : (c != p) = true := by simpa using h0
   unfold fstF at ih ⊢
   rw [List.takeWhile_cons, List.dropWhile_cons, if_pos hb, if_pos hb, List.take_succ_cons, List.drop_succ_cons]
   simp only [Prod.mk.injEq] at ih
   rw [ih.1, ih.2]
theorem fstF_of {p : UInt8} {a b : List UInt8} (h : ∀ c ∈ a, c ≠ p) : fstF p (a ++ p :: b) = (a, b) := by
 rw [fstF_at (a ++ p :: b) a.length (by simp) (fun j hj => by
  rw [List.getD_eq_getElem?_getD, List.getElem?_append_left hj, List.getElem?_eq_getElem hj]
  exact h _ (List.getElem_mem hj)) (.inr (by simp [List.getD_eq_getElem?_getD])), List.take_left, <- List.drop_drop, List.drop_left]
 rfl
theorem fstF_no {p : UInt8} {a : List UInt8} (h : ∀ c ∈ a, c ≠ p) : fstF p a = (a, []) := by
 rw [fstF_at a a.length (Nat.le_refl _) (fun j hj => by
  rw [List.getD_eq_getElem?_getD, List.getElem?_eq_getElem hj]
  exact h _ (List.getElem_mem hj)) (.inl rfl)]
 simp
theorem fstF_len (p : UInt8) (s : List UInt8) : (fstF p s).1.length <= s.length /\ (fstF p s).2.length <= s.length := by
 have e := congrArg List.length (List.takeWhile_append_dropWhile (p := fun c => c != p) (l := s))
 rw [List.length_append] at e
 unfold fstF
 simp only [List.length_drop]
 omega
def kOf (w : List UInt8) : Int := if w = wSnap then 1 else if w = wPlan then 2 else if w = wSearch then 3 else if w = wPublish then 4 else if w = wSweep then 5 else 0
def lOf (m : List UInt8) : List Int := match cutF m with | some (_, l) => l | none => []
def cOf (r : List UInt8) : CV := (readC r).getD cv0
def pOf (r : List UInt8) : List RT × List Int := (readF r).getD ([], [])
def mkQ (w nm : List UInt8) (l : List Int) (r : List UInt8) : QV :=
 ⟨kOf w, nm, l.getD 0 0, if w = wSearch /\ l.length = 3 then l.getD 1 0 else 0, if w = wSearch /\ l.length = 3 then l.getD 2 0 else 0, if w = wSnap then cOf r else cv0, if w = wPlan then (pOf r).1 else [], if w = wPlan then (pOf r).2 else []⟩
def sq (s : List UInt8) : QV := mkQ (fstF 32 (fstF 10 s).1).1 (fstF 32 (fstF 32 (fstF 10 s).1).2).1 (lOf (fstF 32 (fstF 10 s).1).2) (fstF 10 s).2
def specReq (s : List UInt8) : Option QV := if s ≠ [] /\ (sq s).txt = s then some (sq s) else none
theorem lt_no {nm : List UInt8} (h : nmB nm = true) : ∀ c ∈ nm, c ≠ 32 /\ c ≠ 10 := fun c hc => by
 unfold nmB at h
 simp only [Bool.and_eq_true] at h
 have := List.all_eq_true.1 h.2 c hc
 unfold isLt at this
 simp only [decide_eq_true_eq] at this
 refine ⟨fun e => ?_, fun e => ?_⟩
 · subst e
   have : (32 : UInt8).toNat = 32 := rfl
   omega
 · subst e
   have : (10 : UInt8).toNat = 10 := rfl
   omega
theorem sq_of {w nm : List UInt8} {l : List Int} {r : List UInt8} (hw : ∀ c ∈ w, c ≠ 32 /\ c ≠ 10) (hn : nmB nm = true) (hl : ∀ x ∈ l, natI x) : sq (lineL (w ++ 32 :: nm) l ++ r) = mkQ w nm l r := by
 have hN := lt_no hn
 have h0 : lineL (w ++ 32 :: nm) l ++ r = (w ++ 32 :: (nm ++ idsT l)) ++ 10 :: r := by rw [named_tx]; simp
 have h1 : fstF 10 (lineL (w ++ 32 :: nm) l ++ r) = (w ++ 32 :: (nm ++ idsT l), r) := by
  rw [h0]
  exact fstF_of fun c hc => by
   rw [List.mem_append, List.mem_cons, List.mem_append] at hc
   rcases hc with hc | hc | hc | hc
   · exact (hw c hc).2
   · subst hc; decide
   · exact (hN c hc).2
   · exact ids_no10 (natI_B hl) c hc
 have h2 : fstF 32 (w ++ 32 :: (nm ++ idsT l)) = (w, nm ++ idsT l) := fstF_of fun c hc => (hw c hc).1
 have h3 : (fstF 32 (nm ++ idsT l)).1 = nm := by
  cases l with
  | nil =>
    have e : nm ++ idsT [] = nm := by simp [idsT]
    rw [e, fstF_no (fun c hc => (hN c hc).1)]
  | cons n l =>
    have e : nm ++ idsT (n :: l) = nm ++ 32 :: (Lib.itoa n ++ idsT l) := by simp [idsT]
    rw [e, fstF_of (fun c hc => (hN c hc).1)]
 have h4 : lOf (nm ++ idsT l) = l := by
  unfold lOf
  rw [cutF_of (fun c hc => (hN c hc).1) (natI_B hl)]
 unfold sq
 rw [h1, h2, h3, h4]
theorem bare_nil {q : QV} (h : q.bare = true) : q.R = [] /\ q.L = [] := by
 unfold QV.bare at h
 simp only [decide_eq_true_eq] at h
 exact ⟨List.eq_nil_of_length_eq_zero h.1, List.eq_nil_of_length_eq_zero h.2⟩
theorem calm_zero {q : QV} (h : q.calm = true) : q.seed = 0 /\ q.steps = 0 := by
 unfold QV.calm at h
 simpa only [decide_eq_true_eq] using h
theorem no_pre2 (w v nm : List UInt8) (l : List Int) (r : List UInt8) (k : Nat) (h : (v.take k).isPrefixOf (w ++ [32]) = false) (hl : (v.take k).length <= w.length + 1) : v.isPrefixOf (lineL (w ++ 32 :: nm) l ++ r) = false := by
 cases hp : v.isPrefixOf (lineL (w ++ 32 :: nm) l ++ r) with
 | false => rfl
 | true =>
   have h1 := no_pre w (v.take k) nm l r h hl
   rw [List.isPrefixOf_iff_prefix] at hp
   have h2 := (List.take_prefix k v).trans hp
   rw [<- List.isPrefixOf_iff_prefix, h1] at h2
   cases h2
theorem nil_nat : ∀ x ∈ ([] : List Int), natI x := fun x hx => by simp at hx
theorem readQ_of {q : QV} (h : q.ok = true) (hl : q.c.lens) (hb : q.R.map bare = q.R) : readQ q.tx = some q /\ sq q.tx = q := by
 obtain ⟨kind, nm, id, seed, steps, c, R, L⟩ := q
 have h' := h
 unfold QV.ok at h'
 simp only [Bool.and_eq_true] at h'
 obtain ⟨hn, hk⟩ := h'
 by_cases k1 : kind = 1
 · subst k1
   simp only [if_true, Bool.and_eq_true, decide_eq_true_eq] at hk
   obtain ⟨hc, hbr, hcm, hid⟩ := hk
   obtain ⟨b1, b2⟩ := bare_nil hbr
   obtain ⟨b3, b4⟩ := calm_zero hcm
   simp only at b1 b2 b3 b4 hid hl hc hn
   subst b1 b2 b3 b4 hid
   have et : QV.tx ⟨1, nm, 0, 0, 0, c, [], []⟩ = lineL (wSnap ++ 32 :: nm) [] ++ c.tx := rfl
   rw [et]
   refine ⟨?_, ?_⟩
   · have e1 : (wSnap ++ [32]).isPrefixOf (lineL (wSnap ++ 32 :: nm) [] ++ c.tx) = true := by rw [named_tx]; exact prefix_app _ _
     have e2 := namedF_of (w := wSnap) (r := c.tx) hn nil_nat
     unfold readQ reqF
     rw [if_pos e1]
     simp only [List.length_nil] at e2
     rw [e2]
     simp only
     rw [caseF_of hc hl]
     simp
   · rw [sq_of (by decide) hn nil_nat]
     have : cOf c.tx = c := by unfold cOf; rw [readC_of hc hl]; rfl
     unfold mkQ
     rw [if_pos rfl, this]
     rfl
 rw [if_neg k1] at hk
 by_cases k2 : kind = 2
 · subst k2
   simp only [if_true, Bool.and_eq_true] at hk
   obtain ⟨hnc, hf, hcm, hid⟩ := hk
   obtain ⟨b3, b4⟩ := calm_zero hcm
   simp only at b3 b4 hid hl hn hnc hf hb
   subst b3 b4
   obtain rfl := noC_cv0 hnc hl
   have hnat : ∀ x ∈ [id], natI x := fun x hx => by rw [List.mem_singleton] at hx; subst hx; exact inB_natI hid (by omega) (by omega)
   have et : QV.tx ⟨2, nm, id, 0, 0, cv0, R, L⟩ = lineL (wPlan ++ 32 :: nm) [id] ++ planL R L := rfl
   rw [et]
   refine ⟨?_, ?_⟩
   · have e0 := no_pre wPlan (wSnap ++ [32]) nm [id] (planL R L) (by decide) (by decide)
     have e1 : (wPlan ++ [32]).isPrefixOf (lineL (wPlan ++ 32 :: nm) [id] ++ planL R L) = true := by rw [named_tx]; exact prefix_app _ _
     have e2 := namedF_of (w := wPlan) (r := planL R L) hn hnat
     have e3 := readF_eq.1 (readF_of hf)
     unfold readQ reqF
     rw [if_neg (by rw [e0]; simp), if_pos e1]
     simp only [List.length_cons, List.length_nil, Nat.zero_add] at e2
     rw [e2]
     simp only
     rw [e3]
     simp only [List.getD_cons_zero, hid, if_true, hb]
   · rw [sq_of (by decide) hn hnat]
     have : pOf (planL R L) = (R, L) := by unfold pOf; rw [readF_of hf, hb]; rfl
     unfold mkQ
     rw [if_pos rfl, if_pos rfl, this]
     rfl
 rw [if_neg k2] at hk
 by_cases k3 : kind = 3
 · subst k3
   simp only [if_true, Bool.and_eq_true] at hk
   obtain ⟨hnc, hbr, hsd, hst, hid⟩ := hk
   obtain ⟨b1, b2⟩ := bare_nil hbr
   simp only at b1 b2 hid hl hn hnc hsd hst
   subst b1 b2
   obtain rfl := noC_cv0 hnc hl
   have hnat : ∀ x ∈ [id, seed, steps], natI x := fun x hx => by
    simp only [List.mem_cons, List.not_mem_nil, or_false] at hx
    rcases hx with e | e | e
    · subst e; exact inB_natI hid (by omega) (by omega)
    · subst e; exact inB_natI hsd (by omega) (by omega)
    · subst e; exact inB_natI hst (by omega) (by omega)
   have et : QV.tx ⟨3, nm, id, seed, steps, cv0, [], []⟩ = lineL (wSearch ++ 32 :: nm) [id, seed, steps] ++ [] := rfl
   rw [et]
   refine ⟨?_, ?_⟩
   · have e0 := no_pre wSearch (wSnap ++ [32]) nm [id, seed, steps] [] (by decide) (by decide)
     have e9 := no_pre wSearch (wPlan ++ [32]) nm [id, seed, steps] [] (by decide) (by decide)
     have e1 : (wSearch ++ [32]).isPrefixOf (lineL (wSearch ++ 32 :: nm) [id, seed, steps] ++ []) = true := by rw [named_tx]; exact prefix_app _ _
     have e2 := namedF_of (w := wSearch) (r := []) hn hnat
     unfold readQ reqF
     rw [if_neg (by rw [e0]; simp), if_neg (by rw [e9]; simp), if_pos e1]
     simp only [List.length_cons, List.length_nil, Nat.zero_add] at e2
     rw [e2]
     simp [hid, hsd, hst]
   · rw [sq_of (by decide) hn hnat]
     rfl
 rw [if_neg k3] at hk
 by_cases k4 : kind = 4
 · subst k4
   simp only [if_true, Bool.and_eq_true] at hk
   obtain ⟨hnc, hbr, hcm, hid⟩ := hk
   obtain ⟨b1, b2⟩ := bare_nil hbr
   obtain ⟨b3, b4⟩ := calm_zero hcm
   simp only at b1 b2 b3 b4 hid hl hn hnc
   subst b1 b2 b3 b4
   obtain rfl := noC_cv0 hnc hl
   have hnat : ∀ x ∈ [id], natI x := fun x hx => by rw [List.mem_singleton] at hx; subst hx; exact inB_natI hid (by omega) (by omega)
   have et : QV.tx ⟨4, nm, id, 0, 0, cv0, [], []⟩ = lineL (wPublish ++ 32 :: nm) [id] ++ [] := rfl
   rw [et]
   refine ⟨?_, ?_⟩
   · have e0 := no_pre wPublish (wSnap ++ [32]) nm [id] [] (by decide) (by decide)
     have e9 := no_pre wPublish (wPlan ++ [32]) nm [id] [] (by decide) (by decide)
     have e8 := no_pre wPublish (wSearch ++ [32]) nm [id] [] (by decide) (by decide)
     have e1 : (wPublish ++ [32]).isPrefixOf (lineL (wPublish ++ 32 :: nm) [id] ++ []) = true := by rw [named_tx]; exact prefix_app _ _
     have e2 := namedF_of (w := wPublish) (r := []) hn hnat
     unfold readQ reqF
     rw [if_neg (by rw [e0]; simp), if_neg (by rw [e9]; simp), if_neg (by rw [e8]; simp), if_pos e1]
     simp only [List.length_cons, List.length_nil, Nat.zero_add] at e2
     rw [e2]
     simp [hid]
   · rw [sq_of (by decide) hn hnat]
     rfl
 rw [if_neg k4] at hk
 by_cases k5 : kind = 5
 · subst k5
   simp only [if_true, Bool.and_eq_true, decide_eq_true_eq] at hk
   obtain ⟨hnc, hbr, hcm, hid⟩ := hk
   obtain ⟨b1, b2⟩ := bare_nil hbr
   obtain ⟨b3, b4⟩ := calm_zero hcm
   simp only at b1 b2 b3 b4 hid hl hn hnc
   subst b1 b2 b3 b4 hid
   obtain rfl := noC_cv0 hnc hl
   have et : QV.tx ⟨5, nm, 0, 0, 0, cv0, [], []⟩ = lineL (wSweep ++ 32 :: nm) [] ++ [] := rfl
   rw [et]
   refine ⟨?_, ?_⟩
   · have e0 := no_pre wSweep (wSnap ++ [32]) nm [] [] (by decide) (by decide)
     have e9 := no_pre wSweep (wPlan ++ [32]) nm [] [] (by decide) (by decide)
     have e8 := no_pre2 wSweep (wSearch ++ [32]) nm [] [] 2 (by decide) (by decide)
     have e7 := no_pre2 wSweep (wPublish ++ [32]) nm [] [] 2 (by decide) (by decide)
     have e1 : (wSweep ++ [32]).isPrefixOf (lineL (wSweep ++ 32 :: nm) [] ++ []) = true := by rw [named_tx]; exact prefix_app _ _
     have e2 := namedF_of (w := wSweep) (r := []) hn nil_nat
     unfold readQ reqF
     rw [if_neg (by rw [e0]; simp), if_neg (by rw [e9]; simp), if_neg (by rw [e8]; simp), if_neg (by rw [e7]; simp), if_pos e1]
     simp only [List.length_nil] at e2
     rw [e2]
     simp
   · rw [sq_of (by decide) hn nil_nat]
     rfl
 rw [if_neg k5] at hk
 cases hk
theorem sq_lens (s : List UInt8) : (sq s).c.lens /\ (sq s).R.map bare = (sq s).R := by
 unfold sq mkQ
 generalize (fstF 32 (fstF 10 s).1).1 = w
 generalize (fstF 10 s).2 = r
 refine ⟨?_, ?_⟩
 · show CV.lens (if w = wSnap then cOf r else cv0)
   split
   · unfold cOf
     cases h : readC r with
     | none => exact cv0_lens
     | some c => exact (readC_is h).2.1
   · exact cv0_lens
 · show List.map bare (if w = wPlan then (pOf r).1 else []) = if w = wPlan then (pOf r).1 else []
   split
   · unfold pOf
     cases h : readF r with
     | none => rfl
     | some x =>
       obtain ⟨R, L⟩ := x
       exact (readF_is h).2.2
   · rfl
theorem tx_ne (q : QV) : q.tx ≠ [] := by
 unfold QV.tx
 intro h
 have := congrArg List.length h
 have e := named_tx (wOf q.kind) q.name q.nums q.rest
 rw [e] at this
 simp at this
theorem specReq_is (s : List UInt8) : specReq s = readQ s := by
 cases h : readQ s with
 | some q =>
   obtain ⟨h1, h2, h3, rfl⟩ := readQ_is h
   have e := (readQ_of h1 h2 h3).2
   unfold specReq
   rw [e, if_pos ⟨tx_ne q, by unfold QV.txt; rw [if_pos h1]⟩]
 | none =>
   unfold specReq
   split
   · rename_i hh
     obtain ⟨h1, h2⟩ := hh
     unfold QV.txt at h2
     split at h2
     · rename_i hok
       have e := (readQ_of hok (sq_lens s).1 (sq_lens s).2).1
       rw [h2, h] at e
       cases e
     · exact absurd h2.symm h1
   · rfl
def lnSum (ls : List (List UInt8)) : Nat := (ls.map List.length).sum
theorem lnSum_snoc (ls : List (List UInt8)) (x : List UInt8) : lnSum (ls ++ [x]) = lnSum ls + x.length := by simp [lnSum]
theorem sep_sum {p : UInt8} : ∀ (s : List UInt8) (o : List (List UInt8)) (l : List UInt8), lnSum (s.foldl (sepS p) (o, l)).1 + (s.foldl (sepS p) (o, l)).2.length <= lnSum o + l.length + s.length
 | [], o, l => by simp
 | c :: s, o, l => by
   rw [List.foldl_cons]
   by_cases h : c = p
   · have e : sepS p (o, l) c = (o ++ [l], []) := by simp [sepS, h]
     rw [e]
     have := sep_sum (p := p) s (o ++ [l]) []
     rw [lnSum_snoc] at this
     simp at this ⊢
     omega
   · have e : sepS p (o, l) c = (o, l ++ [c]) := by simp [sepS, h]
     rw [e]
     have := sep_sum (p := p) s o (l ++ [c])
     simp at this ⊢
     omega
theorem lines_sum (s : List UInt8) : lnSum (sepF 10 s).1 <= s.length := by
 have := sep_sum (p := 10) s [] []
 unfold sepF
 simp [lnSum] at this ⊢
 omega
theorem take_sum (ls : List (List UInt8)) (j : Nat) : lnSum (ls.take j) <= lnSum ls := by
 conv => rhs; rw [<- List.take_append_drop j ls]
 unfold lnSum
 rw [List.map_append, List.sum_append]
 omega
theorem intsF_len : ∀ (ws : List (List UInt8)) (l : List Int), intsF ws = some l -> l.length = ws.length
 | [], l, h => by simp [intsF] at h; subst h; rfl
 | w :: ws, l, h => by
   simp only [intsF] at h
   cases h1 : intF w with
   | none => rw [h1] at h; cases h
   | some n =>
     rw [h1] at h
     simp only at h
     cases h2 : intsF ws with
     | none => rw [h2] at h; cases h
     | some l2 =>
       rw [h2] at h
       simp only [Option.some.injEq] at h
       subst h
       simp [intsF_len ws l2 h2]
theorem cutF_len {s wd : List UInt8} {l : List Int} (h : cutF s = some (wd, l)) : l.length <= s.length /\ wd.length <= s.length := by
 have hl := sep_len (p := 32) s [] []
 have hsum := sep_sum (p := 32) s [] []
 unfold cutF at h
 have e : s.foldl (sepS 32) ([], []) = sepF 32 s := rfl
 rw [e] at hl hsum
 generalize sepF 32 s = q at *
 obtain ⟨o, r⟩ := q
 simp only at h hl hsum
 cases o with
 | nil =>
   simp only [List.nil_append, intsF, Option.some.injEq, Prod.mk.injEq] at h
   obtain ⟨rfl, rfl⟩ := h
   simp at hl
   exact ⟨by simp, by omega⟩
 | cons x o =>
   simp only [List.cons_append] at h
   cases h2 : intsF (o ++ [r]) with
   | none => rw [h2] at h; cases h
   | some l2 =>
     rw [h2] at h
     simp only [Option.some.injEq, Prod.mk.injEq] at h
     obtain ⟨rfl, rfl⟩ := h
     have := intsF_len _ _ h2
     simp [lnSum] at hl this hsum
     exact ⟨by omega, by omega⟩
theorem linesF_snoc (ls : List (List UInt8)) (x : List UInt8) : linesF (ls ++ [x]) = lineS (linesF ls) x := by simp [linesF]
theorem linesF_bad (ls ms : List (List UInt8)) (h : linesF ls = none) : linesF (ls ++ ms) = none := by
 unfold linesF at *
 rw [List.foldl_append, h]
 induction ms with
 | nil => rfl
 | cons m ms ih => rw [List.foldl_cons]; exact ih
end Go.Proofs.YtcapkcallaajaaaGreatDoor
