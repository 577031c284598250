import Derived.Test.YtehfjfmfpdgibaaGreatDoorPack0
import Derived.Test.YtehfjfmfpdgibaaGreatDoorPack1
import Derived.Test.YtehfjfmfpdgibaaGreatDoorPack2
import Derived.Test.YtehfjfmfpdgibaaGreatDoorPack3
namespace Go.Proofs.YtehfjfmfpdgibaaGreatDoor
open Go.RowKit
def idsTo (ids : List Int) (k : Nat) : Bool := (ids.take k).all fun x => inB x 1 1000000000
def idsB (ids : List Int) : Bool := decide (ids.length <= 12) && idsTo ids ids.length
theorem idsTo_zero (ids : List Int) : idsTo ids 0 = true := by simp [idsTo]
theorem idsTo_succ (ids : List Int) (k : Nat) (h : k < ids.length) : idsTo ids (k + 1) = (idsTo ids k && inB (ids.getD k 0) 1 1000000000) := by
 unfold idsTo
 rw [take_snoc ids k h, List.all_append]
 simp
theorem idsB_bad {ids : List Int} {k : Nat} (h : k < ids.length) (hb : inB (ids.getD k 0) 1 1000000000 = false) : idsB ids = false := by
 unfold idsB idsTo
 rw [List.take_length]
 rw [Bool.and_eq_false_iff]
 right
 rw [List.all_eq_false]
 refine ⟨ids.getD k 0, ?_, by rw [hb]; simp⟩
 rw [List.getD_eq_getElem?_getD, List.getElem?_eq_getElem h]
 simp
theorem idsB_small {ids : List Int} (h : idsB ids = true) : ids.length <= 12 /\ Small ids := by
 unfold idsB idsTo at h
 rw [List.take_length] at h
 simp only [Bool.and_eq_true, decide_eq_true_eq, List.all_eq_true] at h
 refine ⟨h.1, fun x hx => ?_⟩
 have := h.2 x hx
 unfold inB at this
 simp at this
 omega
def rtsTo (R : List RT) (k : Nat) : Bool := (R.take k).all fun r => inB r.v 1 1000000000 && idsB r.ids
def formB (R : List RT) (L : List Int) : Bool := decide (R.length <= 5) && idsB L && rtsTo R R.length
theorem rtsTo_zero (R : List RT) : rtsTo R 0 = true := by simp [rtsTo]
theorem rtsTo_succ (R : List RT) (k : Nat) (h : k < R.length) : rtsTo R (k + 1) = (rtsTo R k && (inB (R.getD k rt0).v 1 1000000000 && idsB (R.getD k rt0).ids)) := by
 unfold rtsTo
 have e : R.take (k + 1) = R.take k ++ [R.getD k rt0] := by
  rw [List.take_add_one, List.getD_eq_getElem?_getD, List.getElem?_eq_getElem h]
  simp
 rw [e, List.all_append]
 simp
theorem formB_bad {R : List RT} {L : List Int} {k : Nat} (h : k < R.length) (hb : (inB (R.getD k rt0).v 1 1000000000 && idsB (R.getD k rt0).ids) = false) : formB R L = false := by
 unfold formB rtsTo
 rw [List.take_length, Bool.and_eq_false_iff]
 right
 rw [List.all_eq_false]
 refine ⟨R.getD k rt0, ?_, by rw [hb]; simp⟩
 rw [List.getD_eq_getElem?_getD, List.getElem?_eq_getElem h]
 simp
theorem formB_parts {R : List RT} {L : List Int} (h : formB R L = true) : R.length <= 5 /\ idsB L = true /\ ∀ k, k < R.length -> inB (R.getD k rt0).v 1 1000000000 = true /\ idsB (R.getD k rt0).ids = true := by
 unfold formB rtsTo at h
 rw [List.take_length] at h
 simp only [Bool.and_eq_true, decide_eq_true_eq, List.all_eq_true] at h
 refine ⟨h.1.1, h.1.2, fun k hk => ?_⟩
 have hm : R.getD k rt0 ∈ R := by rw [List.getD_eq_getElem?_getD, List.getElem?_eq_getElem hk]; simp
 exact h.2 _ hm
theorem formB_is {R : List RT} {L : List Int} (h1 : R.length <= 5) (h2 : idsB L = true) (h3 : rtsTo R R.length = true) : formB R L = true := by
 unfold formB
 rw [h2, h3]
 simp [h1]
theorem formB_many {R : List RT} {L : List Int} (h1 : ¬ R.length <= 5) : formB R L = false := by
 unfold formB
 simp only [h1, decide_false, Bool.false_and]
theorem formB_left {R : List RT} {L : List Int} (h1 : idsB L = false) : formB R L = false := by
 unfold formB
 rw [h1]
 simp
theorem formB_key {R S : List RT} (L : List Int) (h : S.map RT.key = R.map RT.key) : formB S L = formB R L := by
 have hl : S.length = R.length := by have := congrArg List.length h; simpa using this
 have : ∀ T : List RT, T.all (fun r => inB r.v 1 1000000000 && idsB r.ids) = (T.map RT.key).all (fun q => inB q.1 1 1000000000 && idsB q.2) := fun T => by
  rw [List.all_map]
  rfl
 unfold formB rtsTo
 rw [List.take_length, List.take_length, this S, this R, h, hl]
def wRoute : List UInt8 := [114, 111, 117, 116, 101]
def wLeft : List UInt8 := [108, 101, 102, 116]
def routesL (R : List RT) : Nat -> List UInt8
 | 0 => []
 | k + 1 => routesL R k ++ lineL wRoute ((R.getD k rt0).v :: (R.getD k rt0).ids)
def planL (R : List RT) (L : List Int) : List UInt8 := routesL R R.length ++ lineL wLeft L
theorem routesL_key {R S : List RT} (h : S.map RT.key = R.map RT.key) : ∀ k, routesL S k = routesL R k
 | 0 => rfl
 | k + 1 => by
   have e : RT.key (S.getD k rt0) = RT.key (R.getD k rt0) := by
    have h2 := congrArg (fun l : List (Int × List Int) => l[k]?) h
    simp only [List.getElem?_map] at h2
    rw [List.getD_eq_getElem?_getD, List.getD_eq_getElem?_getD]
    cases h3 : S[k]? <;> cases h4 : R[k]? <;> simp [h3, h4] at h2 ⊢
    exact h2
   unfold RT.key at e
   simp only [Prod.mk.injEq] at e
   simp only [routesL]
   rw [routesL_key h k, e.1, e.2]
theorem planL_key {R S : List RT} (L : List Int) (h : S.map RT.key = R.map RT.key) : planL S L = planL R L := by
 have hl : S.length = R.length := by have := congrArg List.length h; simpa using this
 unfold planL
 rw [routesL_key h, hl]
theorem row_smallR {R : List RT} {L : List Int} (h : formB R L = true) {k : Nat} (hk : k < R.length) : Small ((R.getD k rt0).v :: (R.getD k rt0).ids) /\ (R.getD k rt0).ids.length <= 12 := by
 obtain ⟨h1, h2⟩ := (formB_parts h).2.2 k hk
 obtain ⟨h3, h4⟩ := idsB_small h2
 refine ⟨fun x hx => ?_, h3⟩
 rcases List.mem_cons.1 hx with rfl | hx
 · unfold inB at h1
   simp only [decide_eq_true_eq] at h1
   omega
 · exact h4 x hx
theorem routesL_len {R : List RT} {L : List Int} (h : formB R L = true) : ∀ k, k <= R.length -> (routesL R k).length <= 400 * k
 | 0, _ => by simp [routesL]
 | k + 1, hk => by
   have ih := routesL_len h k (by omega)
   obtain ⟨h1, h2⟩ := row_smallR h (show k < R.length by omega)
   have hl := lineL_len wRoute _ h1
   have hw : wRoute.length = 5 := rfl
   simp only [routesL]
   rw [List.length_append]
   simp only [List.length_cons] at hl
   omega
def isDg (c : UInt8) : Bool := decide (48 <= c.toNat /\ c.toNat <= 57)
def dval (d : List UInt8) : Nat := d.foldl (fun n c => n * 10 + (c.toNat - 48)) 0
theorem dval_snoc (l : List UInt8) (c : UInt8) : dval (l ++ [c]) = dval l * 10 + (c.toNat - 48) := by simp [dval]
theorem decS {j : Nat} (h : j < 10) : Lib.decDigits j = [UInt8.ofNat (48 + j)] := by rw [Lib.decDigits, dif_pos h]
theorem decB {j : Nat} (h : ¬ j < 10) : Lib.decDigits j = Lib.decDigits (j / 10) ++ [UInt8.ofNat (48 + j % 10)] := by rw [Lib.decDigits, dif_neg h]
theorem ofNat_toNat {j : Nat} (h : j < 10) : (UInt8.ofNat (48 + j)).toNat = 48 + j := by
 rw [UInt8.toNat_ofNat']
 omega
theorem dec_parts : ∀ (m n : Nat), n <= m -> (∀ c ∈ Lib.decDigits n, isDg c = true) /\ dval (Lib.decDigits n) = n /\ 0 < (Lib.decDigits n).length /\ ((Lib.decDigits n).length = 1 ∨ (Lib.decDigits n).headD 0 ≠ 48)
 | m, n, hm => by
   by_cases h : n < 10
   · rw [decS h]
     refine ⟨fun c hc => ?_, ?_, by simp, .inl (by simp)⟩
     · rw [List.mem_singleton] at hc
       subst hc
       unfold isDg
       rw [ofNat_toNat h]
       simp
       omega
     · simp only [dval, List.foldl_cons, List.foldl_nil]
       rw [ofNat_toNat h]
       omega
   · match m, hm with
     | 0, hm => omega
     | m + 1, hm =>
       obtain ⟨h1, h2, h3, h4⟩ := dec_parts m (n / 10) (by omega)
       have h9 : n % 10 < 10 := Nat.mod_lt _ (by omega)
       rw [decB h]
       refine ⟨fun c hc => ?_, ?_, by simp, .inr ?_⟩
       · rcases List.mem_append.1 hc with hc | hc
         · exact h1 c hc
         · rw [List.mem_singleton] at hc
           subst hc
           unfold isDg
           rw [ofNat_toNat h9]
           simp
           omega
       · rw [dval_snoc, h2, ofNat_toNat h9]
         omega
       · by_cases hs : n / 10 < 10
         · rw [decS hs]
           simp only [List.cons_append, List.headD_cons]
           intro e
           have := congrArg UInt8.toNat e
           rw [ofNat_toNat hs] at this
           have : (48 : UInt8).toNat = 48 := rfl
           omega
         · rcases h4 with h4 | h4
           · rw [decB hs] at h4
             have := (dec_parts m (n / 10 / 10) (by omega)).2.2.1
             simp at h4
             rw [h4] at this
             simp at this
           · cases hd : Lib.decDigits (n / 10) with
             | nil => rw [hd] at h3; simp at h3
             | cons x xs => rw [hd] at h4; simpa using h4
theorem dec_len10 {n : Nat} (h : n < 10000000000) : (Lib.decDigits n).length <= 10 := by
 have key : ∀ (m n : Nat), n < 10 ^ (m + 1) -> (Lib.decDigits n).length <= m + 1 := by
  intro m
  induction m with
  | zero => intro n h; rw [decS (by simpa using h)]; simp
  | succ m ih =>
    intro n h
    by_cases hj : n < 10
    · rw [decS hj]; simp
    · rw [decB hj, List.length_append]
      have := ih (n / 10) (by rw [Nat.div_lt_iff_lt_mul (by omega)]; rw [Nat.pow_succ] at h; exact h)
      simp
      omega
 exact key 9 n (by simpa using h)
theorem itoa_nat (n : Nat) : Lib.itoa (n : Int) = Lib.decDigits n := by unfold Lib.itoa; rw [if_neg (by omega)]; simp
def idsT (ids : List Int) : List UInt8 := ids.flatMap fun n => 32 :: Lib.itoa n
theorem idsT_nums (ids : List Int) : numsTo ids ids.length = idsT ids := by unfold numsTo idsT; rw [List.take_length]
theorem inB_nat {n : Int} (h : inB n 1 1000000000 = true) : ∃ m : Nat, n = (m : Int) /\ m < 10000000000 := by
 unfold inB at h
 simp only [decide_eq_true_eq] at h
 exact ⟨n.toNat, by omega, by omega⟩
def rtsT (R : List RT) : List UInt8 := R.flatMap fun r => lineL wRoute (r.v :: r.ids)
theorem rtsT_routes (R : List RT) : routesL R R.length = rtsT R := by
 have key : ∀ k, k <= R.length -> routesL R k = rtsT (R.take k) := by
  intro k
  induction k with
  | zero => intro _; simp [routesL, rtsT]
  | succ k ih =>
    intro h
    have e : R.take (k + 1) = R.take k ++ [R.getD k rt0] := by
     rw [List.take_add_one, List.getD_eq_getElem?_getD, List.getElem?_eq_getElem (by omega)]
     simp
    rw [e]
    simp only [routesL]
    rw [ih (by omega)]
    simp [rtsT]
 have := key R.length (Nat.le_refl _)
 rw [List.take_length] at this
 exact this
def rtOk (r : RT) : Prop := inB r.v 1 1000000000 = true /\ r.ids.length <= 12 /\ ∀ x ∈ r.ids, inB x 1 1000000000 = true
theorem idsB_iff (ids : List Int) : idsB ids = true ↔ ids.length <= 12 /\ ∀ x ∈ ids, inB x 1 1000000000 = true := by
 unfold idsB idsTo
 rw [List.take_length]
 simp
theorem formB_iff (R : List RT) (L : List Int) : formB R L = true ↔ R.length <= 5 /\ idsB L = true /\ ∀ r ∈ R, rtOk r := by
 unfold formB rtsTo
 rw [List.take_length]
 simp only [Bool.and_eq_true, decide_eq_true_eq, List.all_eq_true]
 constructor
 · rintro ⟨⟨h1, h2⟩, h3⟩
   exact ⟨h1, h2, fun r hr => ⟨(h3 r hr).1, (idsB_iff _).1 (h3 r hr).2⟩⟩
 · rintro ⟨h1, h2, h3⟩
   exact ⟨⟨h1, h2⟩, fun r hr => ⟨(h3 r hr).1, (idsB_iff _).2 (h3 r hr).2⟩⟩
def natB (n : Int) : Prop := ∃ m : Nat, n = (m : Int) /\ m < 10000000000
theorem rt_nat {r : RT} (h : rtOk r) : ∀ n ∈ r.v :: r.ids, natB n := fun n hn => by
 rcases List.mem_cons.1 hn with rfl | hn
 · exact inB_nat h.1
 · exact inB_nat (h.2.2 n hn)
theorem rtsT_cons (r : RT) (R : List RT) : rtsT (r :: R) = (wRoute ++ idsT (r.v :: r.ids)) ++ 10 :: rtsT R := by
 unfold rtsT
 rw [List.flatMap_cons]
 unfold lineL
 rw [idsT_nums]
 simp
theorem planL_len {R : List RT} {L : List Int} (h : formB R L = true) : (planL R L).length <= 2000 := by
 obtain ⟨h1, h2, h3⟩ := (formB_iff R L).1 h
 have key : ∀ (T : List RT), (∀ r ∈ T, rtOk r) -> (rtsT T).length <= 170 * T.length := by
  have hid : ∀ (ns : List Int), (∀ n ∈ ns, natB n) -> (idsT ns).length <= 11 * ns.length := by
   intro ns
   induction ns with
   | nil => intro _; simp [idsT]
   | cons n ns ih =>
     intro hn
     have e : idsT (n :: ns) = 32 :: (Lib.itoa n ++ idsT ns) := by simp [idsT]
     have := ih (fun x hx => hn x (by simp [hx]))
     obtain ⟨m, rfl, hm⟩ := hn n (by simp)
     have h5 := dec_len10 hm
     rw [e, itoa_nat]
     simp
     omega
  intro T
  induction T with
  | nil => intro _; simp [rtsT]
  | cons r T ih =>
    intro hT
    have := ih (fun x hx => hT x (by simp [hx]))
    have h4 := hid (r.v :: r.ids) (rt_nat (hT r (by simp)))
    have h5 := (hT r (by simp)).2.1
    rw [rtsT_cons, List.length_append]
    simp [wRoute] at h4 ⊢
    omega
 have hl : (lineL wLeft L).length <= 300 := by
  obtain ⟨h4, h5⟩ := idsB_small h2
  have := lineL_len wLeft L h5
  have e : wLeft.length = 4 := rfl
  omega
 have := key R h3
 unfold planL
 rw [rtsT_routes, List.length_append]
 omega
structure CV where
 n : Int
 f : Int
 zs : List Int
 os : List Int
 vs : List Int
 ko : Nat
 kv : Nat
def CV.ok (c : CV) : Bool := caseB c.n c.zs c.os c.vs c.ko c.kv c.f
def CV.tx (c : CV) : List UInt8 := caseL c.n c.f c.zs c.os c.vs c.ko c.kv
structure SN where
 id : Int
 c : CV
 za : Option Addr
 oa : Option Addr
 va : Option Addr
 zc : Nat
 oc : Nat
 vc : Nat
structure VN where
 id : Int
 sn : Int
 R : List RT
 L : List Int
 ra : Option Addr
 la : Option Addr
 rc : Nat
 lc : Nat
structure TN where
 nm : List UInt8
 nx : Int
 S : List SN
 V : List VN
 pub : Int
 sa : Option Addr
 va : Option Addr
 sc : Nat
 vc : Nat
def sn0 : SN := ⟨0, ⟨0, 0, [], [], [], 0, 0⟩, none, none, none, 0, 0, 0⟩
def vn0 : VN := ⟨0, 0, [], [], none, none, 0, 0⟩
def tn0 : TN := ⟨[], 0, [], [], 0, none, none, 0, 0⟩
def snCells (s : SN) : List Value := [.int .i64 s.id, .int .i64 s.c.n, .slice s.za s.c.zs.length s.zc, .slice s.oa s.c.ko s.oc, .slice s.va s.c.kv s.vc, .int .i64 s.c.f]
def vnCells (v : VN) : List Value := [.int .i64 v.id, .int .i64 v.sn, .slice v.ra v.R.length v.rc, .slice v.la v.L.length v.lc]
def tnCells (t : TN) : List Value := [.string (txt t.nm), .int .i64 t.nx, .slice t.sa t.S.length t.sc, .slice t.va t.V.length t.vc, .int .i64 t.pub]
def RowAt {α : Type} (k : Nat) (cells : α -> List Value) (w : World) (a : Option Addr) (l : List α) : Prop := ∀ j (hj : j < l.length), ∃ b off, a = some ⟨b, off, none⟩ /\ ∀ i v, (cells l[j])[i]? = some v -> w.cell? ⟨b, off + j * k + i, none⟩ = some v
theorem RowAt.below {α : Type} {k : Nat} {cells : α -> List Value} {w w' : World} {a : Option Addr} {l : List α} (h : RowAt k cells w a l) (hb : Below w.heap.size w w') : RowAt k cells w' a l := fun j hj => by
 obtain ⟨b, off, e, hc⟩ := h j hj
 exact ⟨b, off, e, fun i v hv => (hb.cell (p := ⟨b, off + j * k + i, none⟩) (block_lt_of_cell (hc i v hv))).trans (hc i v hv)⟩
def rowX {α : Type} (cells : α -> List Value) (l : List α) : List Value := l.flatMap cells
theorem rowX_len {α : Type} {k : Nat} {cells : α -> List Value} (hk : ∀ x, (cells x).length = k) : ∀ l : List α, (rowX cells l).length = l.length * k
 | [] => by simp [rowX]
 | x :: l => by
   have := rowX_len hk l
   unfold rowX at this ⊢
   rw [List.flatMap_cons, List.length_append, this, hk, List.length_cons, Nat.succ_mul]
   omega
theorem rowX_at {α : Type} {k : Nat} {cells : α -> List Value} (hk : ∀ x, (cells x).length = k) : ∀ (l : List α) (j i : Nat) (hj : j < l.length) (v : Value), (cells l[j])[i]? = some v -> (rowX cells l)[j * k + i]? = some v
 | x :: l, 0, i, _, v, h => by
   have hi : i < k := by rw [<- hk x]; exact (List.getElem?_eq_some_iff.1 h).1
   unfold rowX
   rw [List.flatMap_cons, Nat.zero_mul, Nat.zero_add, List.getElem?_append_left (by rw [hk]; exact hi)]
   exact h
 | x :: l, j + 1, i, hj, v, h => by
   have ih := rowX_at hk l j i (by simpa using hj) v (by simpa using h)
   unfold rowX at ih ⊢
   rw [List.flatMap_cons, List.getElem?_append_right (by rw [hk, Nat.succ_mul]; omega), hk, show (j + 1) * k + i - k = j * k + i by rw [Nat.succ_mul]; omega]
   exact ih
theorem RowAt.of_row {α : Type} {k g : Nat} {cells : α -> List Value} {w : World} {T : TypeId} {l : List α} (hk : ∀ x, (cells x).length = k) (h : w.heap[g]? = some (.cells (rowX cells l).toArray T (0, 0))) : RowAt k cells w (some ⟨g, 0, none⟩) l := fun j hj => by
 refine ⟨g, 0, rfl, fun i v hv => ?_⟩
 rw [cell_of_row _ _ _ _ _ _ h, Nat.zero_add]
 simpa using rowX_at hk l j i hj v hv
theorem sn_len (s : SN) : (snCells s).length = 6 := rfl
theorem vn_len (v : VN) : (vnCells v).length = 4 := rfl
theorem tn_len (t : TN) : (tnCells t).length = 5 := rfl
structure SNAt (w : World) (s : SN) : Prop where
 z : IntsAt w s.za s.c.zs
 o : IntsAt w s.oa s.c.os
 v : IntsAt w s.va s.c.vs
structure VNAt (w : World) (v : VN) : Prop where
 r : RoutesAt w v.ra v.R
 l : IntsAt w v.la v.L
theorem SNAt.below {w w' : World} {s : SN} (h : SNAt w s) (hb : Below w.heap.size w w') : SNAt w' s := ⟨h.z.below hb, h.o.below hb, h.v.below hb⟩
theorem VNAt.below {w w' : World} {v : VN} (h : VNAt w v) (hb : Below w.heap.size w w') : VNAt w' v := ⟨h.r.below hb, h.l.below hb⟩
def SnapsAt (w : World) (a : Option Addr) (S : List SN) : Prop := RowAt 6 snCells w a S /\ ∀ s ∈ S, SNAt w s
def VersAt (w : World) (a : Option Addr) (V : List VN) : Prop := RowAt 4 vnCells w a V /\ ∀ v ∈ V, VNAt w v
theorem SnapsAt.below {w w' : World} {a : Option Addr} {S : List SN} (h : SnapsAt w a S) (hb : Below w.heap.size w w') : SnapsAt w' a S := ⟨h.1.below hb, fun s hs => (h.2 s hs).below hb⟩
theorem VersAt.below {w w' : World} {a : Option Addr} {V : List VN} (h : VersAt w a V) (hb : Below w.heap.size w w') : VersAt w' a V := ⟨h.1.below hb, fun s hs => (h.2 s hs).below hb⟩
structure TNAt (w : World) (t : TN) : Prop where
 s : SnapsAt w t.sa t.S
 v : VersAt w t.va t.V
theorem TNAt.below {w w' : World} {t : TN} (h : TNAt w t) (hb : Below w.heap.size w w') : TNAt w' t := ⟨h.s.below hb, h.v.below hb⟩
def TensAt (w : World) (a : Option Addr) (T : List TN) : Prop := RowAt 5 tnCells w a T /\ ∀ t ∈ T, TNAt w t
theorem TensAt.below {w w' : World} {a : Option Addr} {T : List TN} (h : TensAt w a T) (hb : Below w.heap.size w w') : TensAt w' a T := ⟨h.1.below hb, fun s hs => (h.2 s hs).below hb⟩
theorem SnapsAt.at {w : World} {a : Option Addr} {S : List SN} (h : SnapsAt w a S) {j : Nat} (hj : j < S.length) : ∃ b off, a = some ⟨b, off, none⟩ /\ w.cell? ⟨b, off + j * 6, none⟩ = some (.int .i64 S[j].id) /\ w.cell? ⟨b, off + j * 6 + 1, none⟩ = some (.int .i64 S[j].c.n) /\ w.cell? ⟨b, off + j * 6 + 2, none⟩ = some (.slice S[j].za S[j].c.zs.length S[j].zc) /\ w.cell? ⟨b, off + j * 6 + 3, none⟩ = some (.slice S[j].oa S[j].c.ko S[j].oc) /\ w.cell? ⟨b, off + j * 6 + 4, none⟩ = some (.slice S[j].va S[j].c.kv S[j].vc) /\ w.cell? ⟨b, off + j * 6 + 5, none⟩ = some (.int .i64 S[j].c.f) := by
 obtain ⟨b, off, e, hc⟩ := h.1 j hj
 exact ⟨b, off, e, hc 0 _ rfl, hc 1 _ rfl, hc 2 _ rfl, hc 3 _ rfl, hc 4 _ rfl, hc 5 _ rfl⟩
theorem VersAt.at {w : World} {a : Option Addr} {V : List VN} (h : VersAt w a V) {j : Nat} (hj : j < V.length) : ∃ b off, a = some ⟨b, off, none⟩ /\ w.cell? ⟨b, off + j * 4, none⟩ = some (.int .i64 V[j].id) /\ w.cell? ⟨b, off + j * 4 + 1, none⟩ = some (.int .i64 V[j].sn) /\ w.cell? ⟨b, off + j * 4 + 2, none⟩ = some (.slice V[j].ra V[j].R.length V[j].rc) /\ w.cell? ⟨b, off + j * 4 + 3, none⟩ = some (.slice V[j].la V[j].L.length V[j].lc) := by
 obtain ⟨b, off, e, hc⟩ := h.1 j hj
 exact ⟨b, off, e, hc 0 _ rfl, hc 1 _ rfl, hc 2 _ rfl, hc 3 _ rfl⟩
theorem TensAt.at {w : World} {a : Option Addr} {T : List TN} (h : TensAt w a T) {j : Nat} (hj : j < T.length) : ∃ b off, a = some ⟨b, off, none⟩ /\ w.cell? ⟨b, off + j * 5, none⟩ = some (.string (txt T[j].nm)) /\ w.cell? ⟨b, off + j * 5 + 1, none⟩ = some (.int .i64 T[j].nx) /\ w.cell? ⟨b, off + j * 5 + 2, none⟩ = some (.slice T[j].sa T[j].S.length T[j].sc) /\ w.cell? ⟨b, off + j * 5 + 3, none⟩ = some (.slice T[j].va T[j].V.length T[j].vc) /\ w.cell? ⟨b, off + j * 5 + 4, none⟩ = some (.int .i64 T[j].pub) := by
 obtain ⟨b, off, e, hc⟩ := h.1 j hj
 exact ⟨b, off, e, hc 0 _ rfl, hc 1 _ rfl, hc 2 _ rfl, hc 3 _ rfl, hc 4 _ rfl⟩
def RT.plain (r : RT) : RT := ⟨r.v, none, r.ids, 0⟩
def SN.plain (s : SN) : SN := ⟨s.id, s.c, none, none, none, 0, 0, 0⟩
def VN.plain (v : VN) : VN := ⟨v.id, v.sn, v.R.map RT.plain, v.L, none, none, 0, 0⟩
def TN.plain (t : TN) : TN := ⟨t.nm, t.nx, t.S.map SN.plain, t.V.map VN.plain, t.pub, none, none, 0, 0⟩
structure SNOk (m : Nat) (s : SN) : Prop where
 o : s.c.os.length = s.c.ko * 6
 v : s.c.vs.length = s.c.kv * 5
 zm : s.c.zs.length <= m
 om : s.c.ko <= m
 vm : s.c.kv <= m
structure VNOk (m : Nat) (v : VN) : Prop where
 n : v.R.length <= m
 i : ∀ r ∈ v.R, r.ids.length <= m
 l : v.L.length <= m
 w : ∀ x ∈ v.L, (Lit.int .i64 x).wf = true
structure TNOk (m : Nat) (t : TN) : Prop where
 n : t.nm.length <= m
 s : t.S.length <= m
 v : t.V.length <= m
 os : ∀ s ∈ t.S, SNOk m s
 ov : ∀ v ∈ t.V, VNOk m v
def isLt (c : UInt8) : Bool := decide (97 <= c.toNat /\ c.toNat <= 122)
def nmB (l : List UInt8) : Bool := decide (1 <= l.length /\ l.length <= 12) && l.all isLt
def wSnap : List UInt8 := [115, 110, 97, 112]
def findS (S : List SN) (id : Int) : Option SN := S.find? (fun s => decide (s.id = id))
def findV (V : List VN) (id : Int) : Option VN := V.find? (fun v => decide (v.id = id))
theorem find_at {α : Type} (p : α -> Bool) {S : List α} {k : Nat} (hk : k < S.length) (h0 : ∀ s ∈ S.take k, p s = false) (h1 : p S[k] = true) : S.find? p = some S[k] := by
 have e : S = S.take k ++ S[k] :: S.drop (k + 1) := by rw [List.getElem_cons_drop, List.take_append_drop]
 have h2 : (S.take k).find? p = none := List.find?_eq_none.2 (fun s hs => by rw [h0 s hs]; simp)
 have h3 : S.find? p = (S.take k ++ S[k] :: S.drop (k + 1)).find? p := congrArg (List.find? p) e
 rw [h3, List.find?_append, h2, List.find?_cons_of_pos h1]
 rfl
theorem find_no {α : Type} (p : α -> Bool) {S : List α} (h0 : ∀ s ∈ S, p s = false) : S.find? p = none := List.find?_eq_none.2 (fun s hs => by rw [h0 s hs]; simp)
theorem take_step {α : Type} (P : α -> Prop) {S : List α} {k : Nat} (hk : k < S.length) (h0 : ∀ s ∈ S.take k, P s) (h1 : P S[k]) : ∀ s ∈ S.take (k + 1), P s := fun s hs => by
 rw [List.take_succ_eq_append_getElem hk] at hs
 rcases List.mem_append.1 hs with hs | hs
 · exact h0 s hs
 · rw [List.mem_singleton.1 hs]; exact h1
def stepK (nx : Int) (ids : List Int) (i : Nat) : Bool := inB (ids.getD i 0) 1 (nx - 1) && (decide (i = 0) || decide (ids.getD (i - 1) 0 < ids.getD i 0))
def kTo (nx : Int) (ids : List Int) : Nat -> Bool
 | 0 => true
 | k + 1 => kTo nx ids k && stepK nx ids k
def allB {α : Type} (f : α -> Bool) (l : List α) : Nat -> Bool
 | 0 => true
 | k + 1 => allB f l k && (l[k]?.map f).getD true
def sOk (s : SN) : Bool := s.c.ok
noncomputable def vOk (S : List SN) (v : VN) : Bool := (findS S v.sn).isSome && decide (planV ((findS S v.sn).getD sn0).c.n ((findS S v.sn).getD sn0).c.zs ((findS S v.sn).getD sn0).c.os ((findS S v.sn).getD sn0).c.vs ((findS S v.sn).getD sn0).c.ko ((findS S v.sn).getD sn0).c.kv ((findS S v.sn).getD sn0).c.f v.R v.L = 0)
def rowB9 (nx : Int) (ids : List Int) : Bool := decide (ids.length <= 8) && kTo nx ids ids.length
def snapsB (t : TN) : Bool := rowB9 t.nx (t.S.map SN.id) && allB sOk t.S t.S.length
noncomputable def versB (t : TN) : Bool := rowB9 t.nx (t.V.map VN.id) && allB (vOk t.S) t.V t.V.length
def pubB (t : TN) : Bool := decide (t.pub = 0) || (findV t.V t.pub).isSome
noncomputable def tenB (t : TN) : Bool := nmB t.nm && (inB t.nx 1 1000000000 && (snapsB t && (versB t && pubB t)))
noncomputable def stepT (T : List TN) (i : Nat) : Bool := tenB (T.getD i tn0) && (decide (i = 0) || ltT (txt (T.getD (i - 1) tn0).nm) (txt (T.getD i tn0).nm))
noncomputable def tTo (T : List TN) : Nat -> Bool
 | 0 => true
 | k + 1 => tTo T k && stepT T k
noncomputable def storeB (T : List TN) : Bool := decide (T.length <= 5) && tTo T T.length
theorem kTo_no {nx : Int} {ids : List Int} {i : Nat} (h : stepK nx ids i = false) : ∀ k, i < k -> kTo nx ids k = false
 | k + 1, hk => by
   by_cases e : i = k
   · subst e; simp [kTo, h]
   · simp [kTo, kTo_no h k (by omega)]
theorem tTo_no {T : List TN} {i : Nat} (h : stepT T i = false) : ∀ k, i < k -> tTo T k = false
 | k + 1, hk => by
   by_cases e : i = k
   · subst e; simp [tTo, h]
   · simp [tTo, tTo_no h k (by omega)]
theorem allB_no {α : Type} {f : α -> Bool} {l : List α} {i : Nat} (hi : i < l.length) (h : f l[i] = false) : ∀ k, i < k -> allB f l k = false
 | k + 1, hk => by
   by_cases e : i = k
   · subst e; simp [allB, hi, h]
   · simp [allB, allB_no hi h k (by omega)]
theorem allB_succ {α : Type} {f : α -> Bool} {l : List α} {k : Nat} (hk : k < l.length) (h0 : allB f l k = true) (h : f l[k] = true) : allB f l (k + 1) = true := by simp [allB, h0, hk, h]
theorem allB_mem {α : Type} {f : α -> Bool} {l : List α} : ∀ {k : Nat}, allB f l k = true -> ∀ i, (hi : i < k) -> (hl : i < l.length) -> f l[i] = true
 | k + 1, h, i, hi, hl => by
   simp only [allB, Bool.and_eq_true] at h
   by_cases e : i = k
   · subst e; simpa [hl] using h.2
   · exact allB_mem h.1 i (by omega) hl
def prevI (ids : List Int) (i : Nat) : Int := if i = 0 then 0 else ids.getD (i - 1) 0
theorem kTo_prev {nx : Int} {ids : List Int} : ∀ {i : Nat}, kTo nx ids i = true -> 0 <= prevI ids i /\ (0 < i -> prevI ids i <= nx - 1)
 | 0, _ => by simp [prevI]
 | i + 1, h => by
   simp only [kTo, Bool.and_eq_true, stepK, inB, decide_eq_true_eq] at h
   simp only [prevI, Nat.add_sub_cancel, if_neg (Nat.succ_ne_zero i)]
   exact ⟨by omega, fun _ => by omega⟩
theorem stepK_prev {nx : Int} {ids : List Int} {i : Nat} (h : kTo nx ids i = true) : stepK nx ids i = inB (ids.getD i 0) (prevI ids i + 1) (nx - 1) := by
 have hp := kTo_prev h
 unfold stepK inB
 by_cases e : i = 0
 · subst e
   simp [prevI]
 · have hr : prevI ids i = ids.getD (i - 1) 0 := by simp [prevI, e]
   rw [hr] at hp ⊢
   rw [decide_eq_false e, Bool.false_or, <- Bool.decide_and]
   congr 1
   apply propext
   constructor
   · intro h; omega
   · intro h; omega
theorem rowB9_long {nx : Int} {ids : List Int} (h : 8 < ids.length) : rowB9 nx ids = false := by unfold rowB9; rw [decide_eq_false (by omega)]; rfl
theorem rowB9_no {nx : Int} {ids : List Int} {i : Nat} (hi : i < ids.length) (h : stepK nx ids i = false) : rowB9 nx ids = false := by unfold rowB9; rw [kTo_no h _ hi, Bool.and_false]
theorem rowB9_yes {nx : Int} {ids : List Int} (h8 : ids.length <= 8) (h : kTo nx ids ids.length = true) : rowB9 nx ids = true := by unfold rowB9; rw [decide_eq_true h8, h]; rfl
theorem tenB_name {t : TN} (h : nmB t.nm = false) : tenB t = false := by unfold tenB; rw [h, Bool.false_and]
theorem tenB_next {t : TN} (h : inB t.nx 1 1000000000 = false) : tenB t = false := by unfold tenB; rw [h, Bool.false_and, Bool.and_false]
theorem tenB_snaps {t : TN} (h : snapsB t = false) : tenB t = false := by unfold tenB; rw [h, Bool.false_and, Bool.and_false, Bool.and_false]
theorem tenB_vers {t : TN} (h : versB t = false) : tenB t = false := by unfold tenB; rw [h, Bool.false_and, Bool.and_false, Bool.and_false, Bool.and_false]
theorem tenB_all {t : TN} (h1 : nmB t.nm = true) (h2 : inB t.nx 1 1000000000 = true) (h3 : snapsB t = true) (h4 : versB t = true) : tenB t = pubB t := by unfold tenB; rw [h1, h2, h3, h4]; rfl
theorem getD_map {α : Type} {f : α -> Int} {S : List α} {i : Nat} (hi : i < S.length) : (S.map f).getD i 0 = f S[i] := by
 rw [List.getD_eq_getElem?_getD, List.getElem?_map, List.getElem?_eq_getElem hi]; rfl
theorem stepK_at {α : Type} {f : α -> Int} {nx : Int} {S : List α} {i : Nat} (hi : i < S.length) (h0 : i = 0) : stepK nx (S.map f) i = inB (f S[i]) 1 (nx - 1) := by
 unfold stepK
 rw [getD_map hi, decide_eq_true h0, Bool.true_or, Bool.and_true]
theorem stepK_in {α : Type} {f : α -> Int} {nx : Int} {S : List α} {i : Nat} (hi : i < S.length) (h0 : 0 < i) : stepK nx (S.map f) i = (inB (f S[i]) 1 (nx - 1) && decide (f (S[i - 1]'(by omega)) < f S[i])) := by
 unfold stepK
 rw [getD_map hi, getD_map (by omega), decide_eq_false (by omega), Bool.false_or]
theorem stepK_out {α : Type} {f : α -> Int} {nx : Int} {S : List α} {i : Nat} (hi : i < S.length) (h : inB (f S[i]) 1 (nx - 1) = false) : stepK nx (S.map f) i = false := by
 unfold stepK
 rw [getD_map hi, h, Bool.false_and]
theorem stepT_at {T : List TN} {i : Nat} (hi : i < T.length) (h0 : i = 0) : stepT T i = tenB T[i] := by
 unfold stepT
 rw [List.getD_eq_getElem?_getD, List.getElem?_eq_getElem hi, decide_eq_true h0, Bool.true_or, Bool.and_true]; rfl
theorem stepT_in {T : List TN} {i : Nat} (hi : i < T.length) (h0 : 0 < i) : stepT T i = (tenB T[i] && ltT (txt (T[i - 1]'(by omega)).nm) (txt T[i].nm)) := by
 unfold stepT
 rw [List.getD_eq_getElem?_getD, List.getElem?_eq_getElem hi, List.getD_eq_getElem?_getD, List.getElem?_eq_getElem (show i - 1 < T.length by omega), decide_eq_false (by omega), Bool.false_or]; rfl
theorem storeB_no {T : List TN} {i : Nat} (hi : i < T.length) (h : stepT T i = false) : storeB T = false := by unfold storeB; rw [tTo_no h _ hi, Bool.and_false]
theorem storeB_long {T : List TN} (h : 5 < T.length) : storeB T = false := by unfold storeB; rw [decide_eq_false (by omega), Bool.false_and]
theorem storeB_yes {T : List TN} (h5 : T.length <= 5) (h : tTo T T.length = true) : storeB T = true := by unfold storeB; rw [decide_eq_true h5, h]; rfl
theorem find_map9 {α β : Type} (f : α -> β) (p : β -> Bool) : ∀ S : List α, (S.map f).find? p = (S.find? (fun x => p (f x))).map f
 | [] => rfl
 | x :: S => by
   rw [List.map_cons, List.find?_cons, List.find?_cons]
   split
   · rfl
   · exact find_map9 f p S
theorem findS_plain (S : List SN) (id : Int) : findS (S.map SN.plain) id = (findS S id).map SN.plain := find_map9 _ _ S
theorem findV_plain (V : List VN) (id : Int) : findV (V.map VN.plain) id = (findV V id).map VN.plain := find_map9 _ _ V
theorem planV_plain {n : Int} {zs os vs : List Int} {ko kv : Nat} {f : Int} (R : List RT) (L : List Int) : planV n zs os vs ko kv f (R.map RT.plain) L = planV n zs os vs ko kv f R L := planV_key L (by rw [List.map_map]; rfl)
theorem allB_map {α β : Type} (g : α -> β) (f : β -> Bool) (l : List α) : ∀ k, allB f (l.map g) k = allB (fun x => f (g x)) l k
 | 0 => rfl
 | k + 1 => by
   rw [allB, allB, allB_map g f l k, List.getElem?_map, Option.map_map]
   rfl
theorem vOk_plain (S : List SN) (v : VN) : vOk (S.map SN.plain) v.plain = vOk S v := by
 unfold vOk
 rw [show v.plain.sn = v.sn from rfl, show v.plain.R = v.R.map RT.plain from rfl, show v.plain.L = v.L from rfl, findS_plain, planV_plain]
 cases findS S v.sn <;> rfl
theorem tenB_plain (t : TN) : tenB t.plain = tenB t := by
 have e1 : (t.S.map SN.plain).map SN.id = t.S.map SN.id := by rw [List.map_map]; rfl
 have e2 : (t.V.map VN.plain).map VN.id = t.V.map VN.id := by rw [List.map_map]; rfl
 have e3 : ∀ k, allB sOk (t.S.map SN.plain) k = allB sOk t.S k := fun k => allB_map _ _ _ k
 have e4 : ∀ k, allB (vOk (t.S.map SN.plain)) (t.V.map VN.plain) k = allB (vOk t.S) t.V k := fun k => by
  rw [allB_map]
  congr 1
  funext v
  exact vOk_plain t.S v
 unfold tenB snapsB versB pubB TN.plain
 simp only [e1, e2, e3, e4, List.length_map, findV_plain, Option.isSome_map]
theorem stepT_plain (T : List TN) (i : Nat) : stepT (T.map TN.plain) i = stepT T i := by
 have e : ∀ j, (T.map TN.plain).getD j tn0 = (T.getD j tn0).plain := fun j => by
  rw [List.getD_eq_getElem?_getD, List.getD_eq_getElem?_getD, List.getElem?_map]
  cases T[j]? <;> rfl
 unfold stepT
 rw [e, e, tenB_plain]
 rfl
theorem tTo_plain (T : List TN) : ∀ k, tTo (T.map TN.plain) k = tTo T k
 | 0 => rfl
 | k + 1 => by rw [tTo, tTo, tTo_plain T k, stepT_plain]
theorem storeB_plain (T : List TN) : storeB (T.map TN.plain) = storeB T := by unfold storeB; rw [List.length_map, tTo_plain]
theorem storeB_same {S T : List TN} (h : S.map TN.plain = T.map TN.plain) : storeB S = storeB T := by rw [<- storeB_plain S, h, storeB_plain]
def KA (base : Nat) (w : World) (P : World -> Prop) : Prop := ∀ W, (∀ b o, base <= b -> w.heap[b]? = some o -> W.heap[b]? = some o) -> P W
theorem KA.now {base : Nat} {w : World} {P : World -> Prop} (h : KA base w P) : P w := h w (fun _ _ _ h => h)
theorem KA.below {base : Nat} {w w' : World} {P : World -> Prop} (h : KA base w P) (hb : Below w.heap.size w w') : KA base w' P := fun W hW => h W (fun b o h1 h2 => hW b o h1 (below_row hb (row_lt h2) h2))
theorem KA.set {base g i : Nat} {v : Value} {w : World} {P : World -> Prop} (h : KA base w P) (hg : g < base) : KA base (w.setCell ⟨g, i, none⟩ v) P := fun W hW => h W (fun b o h1 h2 => hW b o h1 (by rw [heap_setCell_other _ _ _ _ (by show b ≠ g; omega)]; exact h2))
theorem KA.base {base b0 : Nat} {w : World} {P : World -> Prop} (h : KA base w P) (hb : b0 <= base) : KA b0 w P := fun W hW => h W (fun b o h1 h2 => hW b o (by omega) h2)
theorem KA.and {base : Nat} {w : World} {P Q : World -> Prop} (h : KA base w P) (k : KA base w Q) : KA base w (fun W => P W /\ Q W) := fun W hW => ⟨h W hW, k W hW⟩
theorem KA.mono {base : Nat} {w : World} {P Q : World -> Prop} (h : KA base w P) (k : ∀ W, P W -> Q W) : KA base w Q := fun _ hW => k _ (h _ hW)
theorem KA.row {base g : Nat} {w : World} {o : Obj} (h : w.heap[g]? = some o) (hg : base <= g) : KA base w (fun W => W.heap[g]? = some o) := fun _ hW => hW g o hg h
theorem KA.ints {base g : Nat} {w : World} {zs : List Int} {T : TypeId} (h : w.heap[g]? = some (.cells (cellsOf zs) T (0, 0))) (hg : base <= g) : KA base w (fun W => IntsAt W (some ⟨g, 0, none⟩) zs) := (KA.row h hg).mono fun _ h => IntsAt.of_row h
def putX (g : Nat) : List Value -> Nat -> World -> World
 | [], _, w => w
 | v :: l, i, w => putX g l (i + 1) (w.setCell ⟨g, i, none⟩ v)
theorem putX_row {g : Nat} {T : TypeId} : ∀ (l z A B : List Value) (i : Nat) (w : World), w.heap[g]? = some (.cells (A ++ (z ++ B)).toArray T (0, 0)) -> A.length = i -> l.length = z.length -> (putX g l i w).heap[g]? = some (.cells (A ++ (l ++ B)).toArray T (0, 0))
 | [], [], A, B, i, w, h, _, _ => h
 | [], y :: z, A, B, i, w, _, _, hl => by simp at hl
 | v :: l, [], A, B, i, w, _, _, hl => by simp at hl
 | v :: l, y :: z, A, B, i, w, h, hA, hl => by
   have h2 : (w.setCell ⟨g, i, none⟩ v).heap[g]? = some (.cells ((A ++ [v]) ++ (z ++ B)).toArray T (0, 0)) := by
    rw [heap_setCell_same _ _ _ _ _ _ h, List.setIfInBounds_toArray]
    subst hA
    rw [List.set_append_right _ _ (Nat.le_refl _), Nat.sub_self, List.cons_append, List.set_cons_zero, List.append_assoc]
    rfl
   have := putX_row l z (A ++ [v]) B (i + 1) _ h2 (by simp [hA]) (by simpa using hl)
   rw [List.append_assoc] at this
   exact this
theorem putX_below {g B : Nat} {w : World} : ∀ (l : List Value) (i : Nat) (W : World), Below B w W -> B <= g -> Below B w (putX g l i W)
 | [], _, _, h, _ => h
 | _ :: l, i, _, h, hg => putX_below l (i + 1) _ (h.setCell hg _) hg
theorem putX_keep {g base : Nat} {P : World -> Prop} : ∀ (l : List Value) (i : Nat) (W : World), KA base W P -> g < base -> KA base (putX g l i W) P
 | [], _, _, h, _ => h
 | _ :: l, i, _, h, hg => putX_keep l (i + 1) _ (h.set hg) hg
theorem rowX_app {α : Type} (cells : α -> List Value) (S Z : List α) : rowX cells (S ++ Z) = rowX cells S ++ rowX cells Z := by simp [rowX]
theorem rowX_cons {α : Type} (cells : α -> List Value) (x : α) (Z : List α) : rowX cells (x :: Z) = cells x ++ rowX cells Z := by simp [rowX]
theorem putX_thing {α : Type} {k g j : Nat} {cells : α -> List Value} (hk : ∀ x, (cells x).length = k) {T : TypeId} {S Z : List α} {z x : α} {w : World} (h : w.heap[g]? = some (.cells (rowX cells (S ++ z :: Z)).toArray T (0, 0))) (hj : S.length = j) : (putX g (cells x) (j * k) w).heap[g]? = some (.cells (rowX cells ((S ++ [x]) ++ Z)).toArray T (0, 0)) := by
 rw [rowX_app, rowX_cons] at h
 have := putX_row (cells x) (cells z) (rowX cells S) (rowX cells Z) (j * k) w h (by rw [rowX_len hk, hj]) (by rw [hk, hk])
 rw [List.append_assoc, List.cons_append, List.nil_append, rowX_app, rowX_cons]
 exact this
theorem made_x {α : Type} {k : Nat} {cells : α -> List Value} (hk : ∀ x, (cells x).length = k) (hk0 : 0 < k) (x0 : α) (z : Array Value) (hz : z.toList = cells x0) (n : Nat) : madeCells z (n * k) = (rowX cells (List.replicate n x0)).toArray := by
 have hzs : z.size = k := by rw [<- hk x0, <- hz]; simp
 apply Array.ext
 · simp [madeCells, rowX_len hk]
 · intro i h1 h2
   have hi : i < n * k := by simpa [madeCells] using h1
   have hr : i % k < k := Nat.mod_lt _ hk0
   have hj : i / k < n := (Nat.div_lt_iff_lt_mul hk0).2 hi
   have e : i = i / k * k + i % k := by have := Nat.div_add_mod i k; rw [Nat.mul_comm] at this; omega
   have hx := rowX_at hk (List.replicate n x0) (i / k) (i % k) (by simpa using hj) (z[i % k]'(by omega)) (by
    rw [List.getElem_replicate, <- hz, List.getElem?_eq_getElem (by simpa using (show i % k < z.size by omega))]
    simp)
   rw [<- e] at hx
   have := (List.getElem?_eq_some_iff.1 hx).2
   simp only [List.getElem_toArray]
   rw [this]
   simp only [madeCells, Array.getElem_map, Array.getElem_range, hzs]
   exact getElem!_pos z (i % k) (by omega)
structure TB (T1 T2 : TypeId) (w W : World) (src z out : Array Value) : Prop where
 b : Below w.heap.size w W
 s : W.heap[w.heap.size]? = some (.cells src T1 (0, 0))
 z : W.heap[w.heap.size + 1]? = some (.cells z T2 (0, 0))
 o : W.heap[w.heap.size + 1 + 1]? = some (.cells out T2 (0, 0))
theorem TB.below {T1 T2 : TypeId} {w W W' : World} {src z out : Array Value} (h : TB T1 T2 w W src z out) (hb : Below W.heap.size W W') : TB T1 T2 w W' src z out :=
 ⟨h.b.trans (hb.mono h.b.size), below_row hb (row_lt h.s) h.s, below_row hb (row_lt h.z) h.z, below_row hb (row_lt h.o) h.o⟩
theorem TB.set {T1 T2 : TypeId} {w W : World} {src z out : Array Value} (h : TB T1 T2 w W src z out) (i : Nat) (v : Value) : TB T1 T2 w (W.setCell ⟨w.heap.size + 1 + 1, i, none⟩ v) src z (out.setIfInBounds i v) :=
 ⟨h.b.setCell (by simp; omega) _, by rw [heap_setCell_other _ _ _ _ (by simp; omega)]; exact h.s, by rw [heap_setCell_other _ _ _ _ (by simp)]; exact h.z, heap_setCell_same _ _ _ _ _ _ h.o⟩
theorem TB.new (T1 T2 : TypeId) (w : World) (src z out : Array Value) : TB T1 T2 w (((w.alloc (.cells src T1)).alloc (.cells z T2)).alloc (.cells out T2)) src z out := by
 have h2 := heap_alloc_new ((w.alloc (.cells src T1)).alloc (.cells z T2)) (.cells out T2)
 have ha : Below (w.heap.size + 1 + 1) ((w.alloc (.cells src T1)).alloc (.cells z T2)) (((w.alloc (.cells src T1)).alloc (.cells z T2)).alloc (.cells out T2)) := (Below.refl _ _).alloc (by simp) _
 exact ⟨(((Below.refl _ _).alloc (Nat.le_refl _) _).alloc (by simp) _).alloc (by simp; omega) _, (ha.block _ (by omega)).trans (heap_alloc2_old _ _ _), (ha.block _ (by omega)).trans (heap_alloc2_new _ _ _), by simpa using h2⟩
def szW (l : Int) (u : Nat) : Int := if (u : Int) <= l then l - u else -1
def useS (s : SN) : Nat := s.c.zs.length + s.c.ko + s.c.kv
def useV (v : VN) : Nat := v.R.length + (allTo v.R v.R.length).length + v.L.length
def sumF9 {α : Type} (f : α -> Nat) (l : List α) : Nat := (l.map f).sum
def preF {α : Type} (f : α -> Nat) (l : List α) (k : Nat) : Nat := sumF9 f (l.take k)
theorem preF_zero {α : Type} (f : α -> Nat) (l : List α) : preF f l 0 = 0 := by simp [preF, sumF9]
theorem preF_succ {α : Type} (f : α -> Nat) (l : List α) {k : Nat} (h : k < l.length) : preF f l (k + 1) = preF f l k + f l[k] := by
 unfold preF sumF9
 rw [List.take_succ_eq_append_getElem h, List.map_append, List.sum_append, List.map_cons, List.map_nil, List.sum_cons, List.sum_nil, Nat.add_zero]
theorem preF_all {α : Type} (f : α -> Nat) (l : List α) : preF f l l.length = sumF9 f l := by unfold preF; rw [List.take_length]
theorem preF_le {α : Type} (f : α -> Nat) (l : List α) {k : Nat} (h : k <= l.length) : preF f l k <= sumF9 f l := by
 rw [<- preF_all f l]
 obtain ⟨d, e⟩ : ∃ d, l.length = k + d := ⟨l.length - k, by omega⟩
 rw [e]
 induction d generalizing k with
 | zero => exact Nat.le_refl _
 | succ d ih =>
   have h1 := preF_succ f l (k := k) (by omega)
   have h2 := ih (k := k + 1) (by omega) (by omega)
   rw [show k + (d + 1) = k + 1 + d by omega]
   omega
theorem sumF9_mem {α : Type} (f : α -> Nat) : ∀ (l : List α) (x : α), x ∈ l -> f x <= sumF9 f l
 | y :: l, x, h => by
   unfold sumF9
   rw [List.map_cons, List.sum_cons]
   rcases List.mem_cons.1 h with h | h
   · subst h; omega
   · have := sumF9_mem f l x h
     unfold sumF9 at this
     omega
def useSs (S : List SN) : Nat := S.length + sumF9 useS S
def useVs (V : List VN) : Nat := V.length + sumF9 useV V
def useT (t : TN) : Nat := t.nm.length + useSs t.S + useVs t.V
def useTs (T : List TN) : Nat := T.length + sumF9 useT T
theorem szV_is (l : Int) (a b c : Nat) : szV l a b c = szW l (a + b + c) := by
 unfold szV szW
 split
 · rw [if_neg (by omega)]
 · split
   · rw [if_neg (by omega)]
   · split
     · rw [if_neg (by omega)]
     · rw [if_pos (by omega)]
       omega
theorem szR_is (R : List RT) (left : Int) (h0 : 0 <= left) : ∀ k, k <= R.length -> szR R left k = szW left (allTo R k).length
 | 0, _ => by rw [allTo_zero]; unfold szR szW; rw [if_pos (by simpa using h0)]; simp
 | k + 1, hk => by
   have ih := szR_is R left h0 k (by omega)
   have e : szR R left (k + 1) = if szR R left k < 0 then -1 else if szR R left k < ((R.getD k rt0).ids.length : Int) then -1 else szR R left k - (R.getD k rt0).ids.length := rfl
   rw [e, ih, allTo_succ (by omega), List.length_append]
   generalize (allTo R k).length = x
   generalize (R.getD k rt0).ids.length = y
   unfold szW
   by_cases c1 : (x : Int) <= left
   · rw [if_pos c1, if_neg (by omega)]
     by_cases c2 : ((x + y : Nat) : Int) <= left
     · rw [if_pos c2, if_neg (by omega)]; omega
     · rw [if_neg c2, if_pos (by omega)]
   · rw [if_neg c1, if_pos (by omega), if_neg (by omega)]
theorem szPl_is (R : List RT) (ln : Nat) (left : Int) : szPl R ln left = szW left (R.length + (allTo R R.length).length + ln) := by
 unfold szPl szRS
 by_cases c : left < (R.length : Int)
 · rw [if_pos c]
   unfold szW
   rw [if_pos (by omega), if_neg (by omega)]
 · rw [if_neg c, szR_is R _ (by omega) _ (Nat.le_refl _)]
   unfold szW
   split
   · rw [if_neg (by omega)]
     split
     · rw [if_neg (by omega)]
     · rw [if_pos (by omega)]; omega
   · rw [if_pos (by omega), if_neg (by omega)]
theorem cells4v {w : World} {g : Nat} {T : TypeId} {v0 v1 v2 v3 : Value} (h : w.heap[g]? = some (.cells #[v0, v1, v2, v3] T (0, 0))) : w.cell? ⟨g, 0, none⟩ = some v0 /\ w.cell? ⟨g, 1, none⟩ = some v1 /\ w.cell? ⟨g, 2, none⟩ = some v2 /\ w.cell? ⟨g, 3, none⟩ = some v3 := by
 refine ⟨?_, ?_, ?_, ?_⟩ <;> (rw [cell_of_row _ _ _ _ _ _ h]; rfl)
theorem szW_lt {l : Int} {u : Nat} (h : ¬ ((u : Int) <= l)) : szW l u = -1 := if_neg h
theorem szW_le {l : Int} {u : Nat} (h : (u : Int) <= l) : szW l u = l - u := if_pos h
set_option maxHeartbeats 1000000 in
theorem szSnapshot_any (s : SN) (l : Int) (w : World) (h0 : 0 <= l) (h1 : l <= 1048576) (ho : SNOk 9223372036854775807 s) :
 Calls Tryz.prog 159 #[.agg #[.int .i64 s.id, .int .i64 s.c.n, .slice s.za s.c.zs.length s.zc, .slice s.oa s.c.ko s.oc, .slice s.va s.c.kv s.vc, .int .i64 s.c.f], .int .i64 l] w fun e w' => e = .returned (.int .i64 (szW l (useS s))) /\ Below w.heap.size w w' := by
 obtain ⟨id, ⟨cn, cf, zs, os, vs, ko, kv⟩, za, oa, va, zc, oc, vc⟩ := s
 have CZ := fun W => szCase_any cn cf l za oa va zs.length zc ko oc kv vc W h0 h1 ho.zm ho.om ho.vm
 rw [szV_is] at CZ
 have HR : Hid (zs.length + ko + kv = useS ⟨id, ⟨cn, cf, zs, os, vs, ko, kv⟩, za, oa, va, zc, oc, vc⟩) := rfl
 rw [HR.out] at CZ
 simp only
 generalize zs.length = nz at *
 obtain ⟨r, HW⟩ := nmd (szW l (useS ⟨id, ⟨cn, cf, zs, os, vs, ko, kv⟩, za, oa, va, zc, oc, vc⟩))
 have hr : r = -1 ∨ 0 <= r := by have := HW.out; unfold szW at this; split at this <;> omega
 rw [HW.out] at CZ ⊢
 clear HR HW ho
 have B0 := hdn ((Below.refl w.heap.size w).alloc (Nat.le_refl _) (.cells #[.int .i64 id, .int .i64 cn, .slice za nz zc, .slice oa ko oc, .slice va kv vc, .int .i64 cf] 208))
 obtain ⟨c0, c1, c2, c3, c4, c5⟩ := cells6 (heap_alloc_new w (.cells #[.int .i64 id, .int .i64 cn, .slice za nz zc, .slice oa ko oc, .slice va kv vc, .int .i64 cf] 208))
 go_enter Tryz.func159, Tryz.ntmps159
 go_wp2_with fail
 clear c0 c1 c2 c3 c4 c5
 refine (CZ _).mono ?_
 rintro e w1 ⟨rfl, hb⟩
 have B1 := hdn (B0.out.trans (hb.mono B0.out.size))
 clear hb CZ
 rcases hr with rfl | hr
 · go_wp2
   go_ret
   exact ⟨rfl, B1.out⟩
 · have hn : ¬ (r < 0) := by omega
   go_wp2
   go_ret
   exact ⟨rfl, B1.out⟩
set_option maxHeartbeats 1000000 in
theorem szVersion_any (v : VN) (l : Int) (w : World) (h0 : 0 <= l) (h1 : l <= 1048576) (ho : VNOk 9223372036854775807 v) (hA : VNAt w v) :
 Calls Tryz.prog 160 #[.agg #[.int .i64 v.id, .int .i64 v.sn, .slice v.ra v.R.length v.rc, .slice v.la v.L.length v.lc], .int .i64 l] w fun e w' => e = .returned (.int .i64 (szW l (useV v))) /\ Below w.heap.size w w' := by
 obtain ⟨id, sn, R, L, ra, la, rc, lc⟩ := v
 have CZ := fun W (h : RoutesAt W ra R) => szPlan_any ra la rc L.length lc R l W h h0 h1 ho.n ho.l ho.i
 rw [szPl_is R L.length l] at CZ
 have HR : Hid (R.length + (allTo R R.length).length + L.length = useV ⟨id, sn, R, L, ra, la, rc, lc⟩) := rfl
 rw [HR.out] at CZ
 have HA := hdn hA
 simp only
 obtain ⟨r, HW⟩ := nmd (szW l (useV ⟨id, sn, R, L, ra, la, rc, lc⟩))
 have hr : r = -1 ∨ 0 <= r := by have := HW.out; unfold szW at this; split at this <;> omega
 rw [HW.out] at CZ ⊢
 clear HR HW ho hA
 obtain ⟨nr, HNR⟩ := nmd R.length
 obtain ⟨nl, HNL⟩ := nmd L.length
 rw [HNR.out, HNL.out] at CZ ⊢
 have B0 := hdn ((Below.refl w.heap.size w).alloc (Nat.le_refl _) (.cells #[.int .i64 id, .int .i64 sn, .slice ra nr rc, .slice la nl lc] 214))
 obtain ⟨c0, c1, c2, c3⟩ := cells4v (heap_alloc_new w (.cells #[.int .i64 id, .int .i64 sn, .slice ra nr rc, .slice la nl lc] 214))
 go_enter Tryz.func160, Tryz.ntmps160
 go_wp2_with fail
 clear c0 c1 c2 c3
 refine (CZ _ (HA.out.r.below B0.out)).mono ?_
 rintro e w1 ⟨rfl, hb⟩
 have B1 := hdn (B0.out.trans (hb.mono B0.out.size))
 clear hb CZ
 rcases hr with rfl | hr
 · go_wp2
   go_ret
   exact ⟨rfl, B1.out⟩
 · have hn : ¬ (r < 0) := by omega
   go_wp2
   go_ret
   exact ⟨rfl, B1.out⟩
set_option maxHeartbeats 2000000 in
theorem szSnapshotS_any (a : Option Addr) (c : Nat) (X : List SN) (left : Int) (w : World) (hA : SnapsAt w a X) (h0 : 0 <= left) (h1 : left <= 1048576) (hn : X.length <= 9223372036854775807) (hok : ∀ x ∈ X, SNOk 9223372036854775807 x) :
 Calls Tryz.prog 117 #[.slice a X.length c, .int .i64 left] w fun e w' => e = .returned (.int .i64 (szW left (useSs X))) /\ Below w.heap.size w w' := by
 have HA := hdn hA
 have HOK := hdn hok
 have HU : Hid (useSs X = X.length + sumF9 useS X) := rfl
 clear hA hok
 obtain ⟨n, HN⟩ := nmd X.length
 rw [HN.out] at hn HU ⊢
 by_cases hl : left < n
 · have HS : Hid (szW left (useSs X) = -1) := szW_lt (by have := HU.out; omega)
   have hl2 : left - (n : Int) < 0 := by omega
   rw [HS.out]
   go_enter Tryz.func117, Tryz.ntmps117
   go_wp2
   go_ret
   exact ⟨rfl, Below.refl _ _⟩
 · obtain ⟨l0, HL0⟩ := nmd (left - (n : Int))
   have hl0 : 0 <= l0 /\ l0 <= 1048576 := by have := HL0.out; omega
   have hl0e := HL0.out
   have hw1 : IntKind.i64.wrap (left - (n : Int)) = l0 := by rw [hl0e]; exact IntWalk.i64_in _ (by omega)
   have hn0 : ¬ (l0 < 0) := by omega
   obtain ⟨r, HR⟩ := nmd (szW left (useSs X))
   have HRY : Hid ((sumF9 useS X : Int) <= l0 -> r = l0 - sumF9 useS X) := fun h => by rw [<- HR.out, szW_le (by have := HU.out; have := HL0.out; omega)]; have := HU.out; have := HL0.out; omega
   have HRN : Hid (l0 < (sumF9 useS X : Int) -> r = -1) := fun h => by rw [<- HR.out, szW_lt (by have := HU.out; have := HL0.out; omega)]
   rw [HR.out]
   clear HR HU
   go_enter Tryz.func117, Tryz.ntmps117
   go_wp2_with fail
   clear hw1 hl0e
   go_loopw [1, 5] (fun tl ti wr => ∃ (k : Nat) (s : Int), k <= n /\ ti = .int .i64 k /\ tl = .int .i64 s /\ Hid (s = l0 - preF useS X k) /\ 0 <= s /\ Below w.heap.size w wr) (fun _ ti _ => n - (intOf ti).toNat)
   case atStart => exact ⟨0, l0, Nat.zero_le _, rfl, rfl, by show _ = _; rw [preF_zero]; omega, hl0.1, Below.refl _ _⟩
   case round =>
    obtain ⟨k, s, hk, rfl, rfl, HSK, hs0, hb⟩ := hrel
    have B1 := hdn hb
    clear hb
    by_cases hlt : k < n
    · have hkn : (k : Int) < n := by omega
      have hkX : k < X.length := by rw [HN.out]; exact hlt
      obtain ⟨b, off, e, c0, c1, c2, c3, c4, c5⟩ := (HA.out.below B1.out).at hkX
      have HNX := hdn (preF_succ useS X hkX)
      have HLE := hdn (preF_le useS X (show k + 1 <= X.length by omega))
      have hmem : X[k] ∈ X := List.getElem_mem hkX
      have HE := hdn (HOK.out _ hmem)
      have HEA := hdn ((HA.out.below B1.out).2 _ hmem)
      have hs1 : s <= 1048576 := by have := HSK.out; omega
      subst e
      generalize X[k] = x at *
      have CE := szSnapshot_any x s wr hs0 hs1 HE.out
      have hu : Hid ((useS x : Int) <= s -> szW s (useS x) = s - useS x) := szW_le
      have hu2 : Hid (s < (useS x : Int) -> szW s (useS x) = -1) := fun h => szW_lt (by omega)
      generalize szW s (useS x) = q at *
      generalize useS x = u at *
      obtain ⟨id, ⟨cn, cf, zs, os, vs, ko, kv⟩, za, oa, va, zc, oc, vc⟩ := x
      simp only at c0 c1 c2 c3 c4 c5 CE
      clear HE HEA hmem
      generalize zs.length = nz at *
      go_wp2_with fail
      clear c0 c1 c2 c3 c4 c5
      refine CE.mono ?_
      rintro e w2 ⟨rfl, hb2⟩
      have B2 := hdn (B1.out.trans (hb2.mono B1.out.size))
      clear hb2 B1 CE
      by_cases hms : (u : Int) <= s
      · have hq := hu.out hms
        have hq0 : ¬ (q < 0) := by omega
        have HQ : Hid (q = l0 - preF useS X (k + 1)) := by have := HSK.out; have := HNX.out; show _ = _; omega
        have HQ0 : Hid (0 <= q) := by show _ <= _; omega
        clear hq hu hu2 HSK HNX HLE
        go_wp2
        first
         | exact ⟨⟨k + 1, q, by omega, by first | rfl | go_num, rfl, HQ, HQ0.out, B2.out⟩, by simp [intOf]; omega⟩
         | (go_roundw
            case rel => exact ⟨k + 1, q, by omega, by first | rfl | go_num, rfl, HQ, HQ0.out, B2.out⟩
            case measure => simp [intOf]; omega)
      · have hq := hu2.out (by omega)
        have HF := hdn (HRN.out (by have := HSK.out; have := HNX.out; have := HLE.out; omega))
        subst hq
        clear hu hu2 HSK HNX HLE
        go_wp2
        go_ret
        exact ⟨by rw [HF.out]; rfl, B2.out⟩
    · have hkn : k = n := by omega
      subst hkn
      have HE : Hid (preF useS X k = sumF9 useS X) := by show _ = _; rw [<- HN.out]; exact preF_all _ _
      have HF := hdn (HRY.out (by have := HSK.out; have := HE.out; omega))
      have HF2 : Hid (r = s) := by have := HSK.out; have := HE.out; have := HF.out; show _ = _; omega
      clear HF HE HSK
      go_wp2
      go_ret
      exact ⟨by rw [HF2.out]; rfl, B1.out⟩
set_option maxHeartbeats 2000000 in
theorem szVersionS_any (a : Option Addr) (c : Nat) (X : List VN) (left : Int) (w : World) (hA : VersAt w a X) (h0 : 0 <= left) (h1 : left <= 1048576) (hn : X.length <= 9223372036854775807) (hok : ∀ x ∈ X, VNOk 9223372036854775807 x) :
 Calls Tryz.prog 118 #[.slice a X.length c, .int .i64 left] w fun e w' => e = .returned (.int .i64 (szW left (useVs X))) /\ Below w.heap.size w w' := by
 have HA := hdn hA
 have HOK := hdn hok
 have HU : Hid (useVs X = X.length + sumF9 useV X) := rfl
 clear hA hok
 obtain ⟨n, HN⟩ := nmd X.length
 rw [HN.out] at hn HU ⊢
 by_cases hl : left < n
 · have HS : Hid (szW left (useVs X) = -1) := szW_lt (by have := HU.out; omega)
   have hl2 : left - (n : Int) < 0 := by omega
   rw [HS.out]
   go_enter Tryz.func118, Tryz.ntmps118
   go_wp2
   go_ret
   exact ⟨rfl, Below.refl _ _⟩
 · obtain ⟨l0, HL0⟩ := nmd (left - (n : Int))
   have hl0 : 0 <= l0 /\ l0 <= 1048576 := by have := HL0.out; omega
   have hl0e := HL0.out
   have hw1 : IntKind.i64.wrap (left - (n : Int)) = l0 := by rw [hl0e]; exact IntWalk.i64_in _ (by omega)
   have hn0 : ¬ (l0 < 0) := by omega
   obtain ⟨r, HR⟩ := nmd (szW left (useVs X))
   have HRY : Hid ((sumF9 useV X : Int) <= l0 -> r = l0 - sumF9 useV X) := fun h => by rw [<- HR.out, szW_le (by have := HU.out; have := HL0.out; omega)]; have := HU.out; have := HL0.out; omega
   have HRN : Hid (l0 < (sumF9 useV X : Int) -> r = -1) := fun h => by rw [<- HR.out, szW_lt (by have := HU.out; have := HL0.out; omega)]
   rw [HR.out]
   clear HR HU
   go_enter Tryz.func118, Tryz.ntmps118
   go_wp2_with fail
   clear hw1 hl0e
   go_loopw [1, 5] (fun tl ti wr => ∃ (k : Nat) (s : Int), k <= n /\ ti = .int .i64 k /\ tl = .int .i64 s /\ Hid (s = l0 - preF useV X k) /\ 0 <= s /\ Below w.heap.size w wr) (fun _ ti _ => n - (intOf ti).toNat)
   case atStart => exact ⟨0, l0, Nat.zero_le _, rfl, rfl, by show _ = _; rw [preF_zero]; omega, hl0.1, Below.refl _ _⟩
   case round =>
    obtain ⟨k, s, hk, rfl, rfl, HSK, hs0, hb⟩ := hrel
    have B1 := hdn hb
    clear hb
    by_cases hlt : k < n
    · have hkn : (k : Int) < n := by omega
      have hkX : k < X.length := by rw [HN.out]; exact hlt
      obtain ⟨b, off, e, c0, c1, c2, c3⟩ := (HA.out.below B1.out).at hkX
      have HNX := hdn (preF_succ useV X hkX)
      have HLE := hdn (preF_le useV X (show k + 1 <= X.length by omega))
      have hmem : X[k] ∈ X := List.getElem_mem hkX
      have HE := hdn (HOK.out _ hmem)
      have HEA := hdn ((HA.out.below B1.out).2 _ hmem)
      have hs1 : s <= 1048576 := by have := HSK.out; omega
      subst e
      generalize X[k] = x at *
      have CE := szVersion_any x s wr hs0 hs1 HE.out HEA.out
      have hu : Hid ((useV x : Int) <= s -> szW s (useV x) = s - useV x) := szW_le
      have hu2 : Hid (s < (useV x : Int) -> szW s (useV x) = -1) := fun h => szW_lt (by omega)
      generalize szW s (useV x) = q at *
      generalize useV x = u at *
      obtain ⟨id, sn, R, L, ra, la, rc, lc⟩ := x
      simp only at c0 c1 c2 c3 CE
      clear HE HEA hmem
      generalize R.length = nr at *
      generalize L.length = nl at *
      go_wp2_with fail
      clear c0 c1 c2 c3
      refine CE.mono ?_
      rintro e w2 ⟨rfl, hb2⟩
      have B2 := hdn (B1.out.trans (hb2.mono B1.out.size))
      clear hb2 B1 CE
      by_cases hms : (u : Int) <= s
      · have hq := hu.out hms
        have hq0 : ¬ (q < 0) := by omega
        have HQ : Hid (q = l0 - preF useV X (k + 1)) := by have := HSK.out; have := HNX.out; show _ = _; omega
        have HQ0 : Hid (0 <= q) := by show _ <= _; omega
        clear hq hu hu2 HSK HNX HLE
        go_wp2
        first
         | exact ⟨⟨k + 1, q, by omega, by first | rfl | go_num, rfl, HQ, HQ0.out, B2.out⟩, by simp [intOf]; omega⟩
         | (go_roundw
            case rel => exact ⟨k + 1, q, by omega, by first | rfl | go_num, rfl, HQ, HQ0.out, B2.out⟩
            case measure => simp [intOf]; omega)
      · have hq := hu2.out (by omega)
        have HF := hdn (HRN.out (by have := HSK.out; have := HNX.out; have := HLE.out; omega))
        subst hq
        clear hu hu2 HSK HNX HLE
        go_wp2
        go_ret
        exact ⟨by rw [HF.out]; rfl, B2.out⟩
    · have hkn : k = n := by omega
      subst hkn
      have HE : Hid (preF useV X k = sumF9 useV X) := by show _ = _; rw [<- HN.out]; exact preF_all _ _
      have HF := hdn (HRY.out (by have := HSK.out; have := HE.out; omega))
      have HF2 : Hid (r = s) := by have := HSK.out; have := HE.out; have := HF.out; show _ = _; omega
      clear HF HE HSK
      go_wp2
      go_ret
      exact ⟨by rw [HF2.out]; rfl, B1.out⟩
set_option maxHeartbeats 400000 in
theorem szTenant_any (t : TN) (l : Int) (w : World) (h0 : 0 <= l) (h1 : l <= 1048576) (ho : TNOk 9223372036854775807 t) (hA : TNAt w t) :
 Calls Tryz.prog 74 #[.agg #[.string (txt t.nm), .int .i64 t.nx, .slice t.sa t.S.length t.sc, .slice t.va t.V.length t.vc, .int .i64 t.pub], .int .i64 l] w fun e w' => e = .returned (.int .i64 (szW l (useT t))) /\ Below w.heap.size w w' := by
 obtain ⟨nm, nx, S, V, pub, sa, va, sc, vc⟩ := t
 have HA := hdn hA
 have HO := hdn ho
 have HU : Hid (useT ⟨nm, nx, S, V, pub, sa, va, sc, vc⟩ = nm.length + useSs S + useVs V) := rfl
 simp only
 obtain ⟨r, HR⟩ := nmd (szW l (useT ⟨nm, nx, S, V, pub, sa, va, sc, vc⟩))
 rw [HR.out]
 have htz : (txt nm).size = nm.length := txt_size nm
 have hno := ho.n
 simp only at hno
 generalize txt nm = b at *
 generalize nm.length = ln at *
 have HSV := hdn ho.s
 have HVV := hdn ho.v
 have CS := fun W (h : SnapsAt W sa S) q (q0 : 0 <= q) (q1 : q <= 1048576) => szSnapshotS_any sa sc S q W h q0 q1 ho.s ho.os
 have CV := fun W (h : VersAt W va V) q (q0 : 0 <= q) (q1 : q <= 1048576) => szVersionS_any va vc V q W h q0 q1 ho.v ho.ov
 clear hA ho
 obtain ⟨uS, HUS⟩ := nmd (useSs S)
 obtain ⟨uV, HUV⟩ := nmd (useVs V)
 rw [HUS.out] at HU CS
 rw [HUV.out] at HU CV
 generalize S.length = nS at *
 generalize V.length = nV at *
 have HYES : Hid ((ln + uS + uV : Int) <= l -> r = l - ln - uS - uV) := fun h => by rw [<- HR.out, szW_le (by have := HU.out; omega)]; have := HU.out; omega
 have HNO : Hid (l < (ln + uS + uV : Int) -> r = -1) := fun h => by rw [<- HR.out, szW_lt (by have := HU.out; omega)]
 have HCS := hdn CS
 have HCV := hdn CV
 clear HR HU CS CV
 have B0 := hdn ((Below.refl w.heap.size w).alloc (Nat.le_refl _) (.cells #[.string b, .int .i64 nx, .slice sa nS sc, .slice va nV vc, .int .i64 pub] 117))
 have X0 : Hid ((w.alloc (.cells #[.string b, .int .i64 nx, .slice sa nS sc, .slice va nV vc, .int .i64 pub] 117)).heap[w.heap.size]? = some (.cells #[.string b, .int .i64 nx, .slice sa nS sc, .slice va nV vc, .int .i64 pub] 117 (0, 0))) := heap_alloc_new _ _
 obtain ⟨c0, c1, c2, c3, c4⟩ := cells5 X0.out
 by_cases a1 : (ln : Int) <= l
 · obtain ⟨l1, HL1⟩ := nmd (l - (ln : Int))
   have hl1 : 0 <= l1 /\ l1 <= 1048576 := by have := HL1.out; omega
   obtain ⟨hl10, hl11⟩ := hl1
   have hl1e := HL1.out
   have hw1 : IntKind.i64.wrap (l - (ln : Int)) = l1 := by rw [hl1e]; exact IntWalk.i64_in _ (by omega)
   have hn1 : ¬ (l1 < 0) := by omega
   go_enter Tryz.func74, Tryz.ntmps74
   go_wp2_with fail
   clear c0 c1 c2 c3 c4 hw1 hl1e
   generalize (w.alloc (.cells #[.string b, .int .i64 nx, .slice sa nS sc, .slice va nV vc, .int .i64 pub] 117)) = W0 at *
   refine (HCS.out _ (HA.out.s.below B0.out) l1 hl10 hl11).mono ?_
   rintro e w1 ⟨rfl, hb⟩
   have B1 := hdn (B0.out.trans (hb.mono B0.out.size))
   have X1 := hdn (below_row hb (row_lt X0.out) X0.out)
   clear hb B0 X0
   by_cases a2 : (uS : Int) <= l1
   · rw [szW_le a2]
     obtain ⟨l2, HL2⟩ := nmd (l1 - (uS : Int))
     have hl2 : 0 <= l2 /\ l2 <= 1048576 := by have := HL2.out; omega
     obtain ⟨hl20, hl21⟩ := hl2
     rw [HL2.out]
     have hn2 : ¬ (l2 < 0) := by omega
     obtain ⟨c0, c1, c2, c3, c4⟩ := cells5 X1.out
     go_wp2_with fail
     clear c0 c1 c2 c3 c4
     refine (HCV.out _ (HA.out.v.below B1.out) l2 hl20 hl21).mono ?_
     rintro e w2 ⟨rfl, hb⟩
     have B2 := hdn (B1.out.trans (hb.mono B1.out.size))
     clear hb B1 X1
     by_cases a3 : (uV : Int) <= l2
     · have HF := hdn (HYES.out (by have := HL1.out; have := HL2.out; omega))
       rw [szW_le a3]
       have HF2 : Hid (r = l2 - (uV : Int)) := by have := HF.out; have := HL1.out; have := HL2.out; show _ = _; omega
       rw [<- HF2.out]
       have hn3 : ¬ (r < 0) := by have := HF2.out; omega
       clear HF HF2
       go_wp2
       go_ret
       exact ⟨rfl, B2.out⟩
     · have HF := hdn (HNO.out (by have := HL1.out; have := HL2.out; omega))
       rw [szW_lt a3]
       go_wp2
       go_ret
       exact ⟨by rw [HF.out]; rfl, B2.out⟩
   · have HF := hdn (HNO.out (by have := HL1.out; omega))
     rw [szW_lt a2]
     go_wp2
     go_ret
     exact ⟨by rw [HF.out]; rfl, B1.out⟩
 · have HF := hdn (HNO.out (by omega))
   have hn1 : l - (ln : Int) < 0 := by omega
   go_enter Tryz.func74, Tryz.ntmps74
   go_wp2
   go_ret
   exact ⟨by rw [HF.out]; rfl, B0.out⟩
set_option maxHeartbeats 2000000 in
theorem szTenantS_any (a : Option Addr) (c : Nat) (X : List TN) (left : Int) (w : World) (hA : TensAt w a X) (h0 : 0 <= left) (h1 : left <= 1048576) (hn : X.length <= 9223372036854775807) (hok : ∀ x ∈ X, TNOk 9223372036854775807 x) :
 Calls Tryz.prog 29 #[.slice a X.length c, .int .i64 left] w fun e w' => e = .returned (.int .i64 (szW left (useTs X))) /\ Below w.heap.size w w' := by
 have HA := hdn hA
 have HOK := hdn hok
 have HU : Hid (useTs X = X.length + sumF9 useT X) := rfl
 clear hA hok
 obtain ⟨n, HN⟩ := nmd X.length
 rw [HN.out] at hn HU ⊢
 by_cases hl : left < n
 · have HS : Hid (szW left (useTs X) = -1) := szW_lt (by have := HU.out; omega)
   have hl2 : left - (n : Int) < 0 := by omega
   rw [HS.out]
   go_enter Tryz.func29, Tryz.ntmps29
   go_wp2
   go_ret
   exact ⟨rfl, Below.refl _ _⟩
 · obtain ⟨l0, HL0⟩ := nmd (left - (n : Int))
   have hl0 : 0 <= l0 /\ l0 <= 1048576 := by have := HL0.out; omega
   have hl0e := HL0.out
   have hw1 : IntKind.i64.wrap (left - (n : Int)) = l0 := by rw [hl0e]; exact IntWalk.i64_in _ (by omega)
   have hn0 : ¬ (l0 < 0) := by omega
   obtain ⟨r, HR⟩ := nmd (szW left (useTs X))
   have HRY : Hid ((sumF9 useT X : Int) <= l0 -> r = l0 - sumF9 useT X) := fun h => by rw [<- HR.out, szW_le (by have := HU.out; have := HL0.out; omega)]; have := HU.out; have := HL0.out; omega
   have HRN : Hid (l0 < (sumF9 useT X : Int) -> r = -1) := fun h => by rw [<- HR.out, szW_lt (by have := HU.out; have := HL0.out; omega)]
   rw [HR.out]
   clear HR HU
   go_enter Tryz.func29, Tryz.ntmps29
   go_wp2_with fail
   clear hw1 hl0e
   go_loopw [1, 5] (fun tl ti wr => ∃ (k : Nat) (s : Int), k <= n /\ ti = .int .i64 k /\ tl = .int .i64 s /\ Hid (s = l0 - preF useT X k) /\ 0 <= s /\ Below w.heap.size w wr) (fun _ ti _ => n - (intOf ti).toNat)
   case atStart => exact ⟨0, l0, Nat.zero_le _, rfl, rfl, by show _ = _; rw [preF_zero]; omega, hl0.1, Below.refl _ _⟩
   case round =>
    obtain ⟨k, s, hk, rfl, rfl, HSK, hs0, hb⟩ := hrel
    have B1 := hdn hb
    clear hb
    by_cases hlt : k < n
    · have hkn : (k : Int) < n := by omega
      have hkX : k < X.length := by rw [HN.out]; exact hlt
      obtain ⟨b, off, e, c0, c1, c2, c3, c4⟩ := (HA.out.below B1.out).at hkX
      have HNX := hdn (preF_succ useT X hkX)
      have HLE := hdn (preF_le useT X (show k + 1 <= X.length by omega))
      have hmem : X[k] ∈ X := List.getElem_mem hkX
      have HE := hdn (HOK.out _ hmem)
      have HEA := hdn ((HA.out.below B1.out).2 _ hmem)
      have hs1 : s <= 1048576 := by have := HSK.out; omega
      subst e
      generalize X[k] = x at *
      have CE := szTenant_any x s wr hs0 hs1 HE.out HEA.out
      have hu : Hid ((useT x : Int) <= s -> szW s (useT x) = s - useT x) := szW_le
      have hu2 : Hid (s < (useT x : Int) -> szW s (useT x) = -1) := fun h => szW_lt (by omega)
      generalize szW s (useT x) = q at *
      generalize useT x = u at *
      obtain ⟨nm, nx, S, V, pub, sa, va, sc, vc⟩ := x
      simp only at c0 c1 c2 c3 c4 CE
      clear HE HEA hmem
      generalize txt nm = nb at *
      generalize S.length = nS at *
      generalize V.length = nV at *
      go_wp2_with fail
      clear c0 c1 c2 c3 c4
      refine CE.mono ?_
      rintro e w2 ⟨rfl, hb2⟩
      have B2 := hdn (B1.out.trans (hb2.mono B1.out.size))
      clear hb2 B1 CE
      by_cases hms : (u : Int) <= s
      · have hq := hu.out hms
        have hq0 : ¬ (q < 0) := by omega
        have HQ : Hid (q = l0 - preF useT X (k + 1)) := by have := HSK.out; have := HNX.out; show _ = _; omega
        have HQ0 : Hid (0 <= q) := by show _ <= _; omega
        clear hq hu hu2 HSK HNX HLE
        go_wp2
        first
         | exact ⟨⟨k + 1, q, by omega, by first | rfl | go_num, rfl, HQ, HQ0.out, B2.out⟩, by simp [intOf]; omega⟩
         | (go_roundw
            case rel => exact ⟨k + 1, q, by omega, by first | rfl | go_num, rfl, HQ, HQ0.out, B2.out⟩
            case measure => simp [intOf]; omega)
      · have hq := hu2.out (by omega)
        have HF := hdn (HRN.out (by have := HSK.out; have := HNX.out; have := HLE.out; omega))
        subst hq
        clear hu hu2 HSK HNX HLE
        go_wp2
        go_ret
        exact ⟨by rw [HF.out]; rfl, B2.out⟩
    · have hkn : k = n := by omega
      subst hkn
      have HE : Hid (preF useT X k = sumF9 useT X) := by show _ = _; rw [<- HN.out]; exact preF_all _ _
      have HF := hdn (HRY.out (by have := HSK.out; have := HE.out; omega))
      have HF2 : Hid (r = s) := by have := HSK.out; have := HE.out; have := HF.out; show _ = _; omega
      clear HF HE HSK
      go_wp2
      go_ret
      exact ⟨by rw [HF2.out]; rfl, B1.out⟩
set_option maxHeartbeats 1000000 in
theorem szStore_any (a : Option Addr) (c : Nat) (X : List TN) (l : Int) (w : World) (hA : TensAt w a X) (h0 : 0 <= l) (h1 : l <= 1048576) (hn : X.length <= 9223372036854775807) (hok : ∀ x ∈ X, TNOk 9223372036854775807 x) :
 Calls Tryz.prog 8 #[.agg #[.slice a X.length c], .int .i64 l] w fun e w' => e = .returned (.int .i64 (szW l (useTs X))) /\ Below w.heap.size w w' := by
 have CT := fun W (h : TensAt W a X) => szTenantS_any a c X l W h h0 h1 hn hok
 have HA := hdn hA
 obtain ⟨r, HR⟩ := nmd (szW l (useTs X))
 have hr : r = -1 ∨ 0 <= r := by have := HR.out; unfold szW at this; split at this <;> omega
 rw [HR.out] at CT ⊢
 clear hA hok HR
 obtain ⟨n, HN⟩ := nmd X.length
 rw [HN.out] at CT hn ⊢
 have B0 := hdn ((Below.refl w.heap.size w).alloc (Nat.le_refl _) (.cells #[.slice a n c] 24))
 have c0 : (w.alloc (.cells #[.slice a n c] 24)).cell? ⟨w.heap.size, 0, none⟩ = some (.slice a n c) := by rw [cell_of_row _ _ _ _ _ _ (heap_alloc_new w _)]; rfl
 go_enter Tryz.func8, Tryz.ntmps8
 go_wp2_with fail
 clear c0
 refine (CT _ (HA.out.below B0.out)).mono ?_
 rintro e w1 ⟨rfl, hb⟩
 have B1 := hdn (B0.out.trans (hb.mono B0.out.size))
 clear hb CT
 rcases hr with rfl | hr
 · go_wp2
   go_ret
   exact ⟨rfl, B1.out⟩
 · have hn : ¬ (r < 0) := by omega
   go_wp2
   go_ret
   exact ⟨rfl, B1.out⟩
theorem cells6v {w : World} {g : Nat} {T : TypeId} {v0 v1 v2 v3 v4 v5 : Value} (h : w.heap[g]? = some (.cells #[v0, v1, v2, v3, v4, v5] T (0, 0))) : w.cell? ⟨g, 0, none⟩ = some v0 /\ w.cell? ⟨g, 1, none⟩ = some v1 /\ w.cell? ⟨g, 2, none⟩ = some v2 /\ w.cell? ⟨g, 3, none⟩ = some v3 /\ w.cell? ⟨g, 4, none⟩ = some v4 /\ w.cell? ⟨g, 5, none⟩ = some v5 := by
 refine ⟨?_, ?_, ?_, ?_, ?_, ?_⟩ <;> (rw [cell_of_row _ _ _ _ _ _ h]; rfl)
theorem RT.plain_key {R S : List RT} (h : S.map RT.key = R.map RT.key) : S.map RT.plain = R.map RT.plain := by
 have e : ∀ T : List RT, T.map RT.plain = (T.map RT.key).map (fun x => (⟨x.1, none, x.2, 0⟩ : RT)) := fun T => by rw [List.map_map]; rfl
 rw [e S, e R, h]
theorem infoSn : (Tryz.prog.info? 86).map (fun i => (i.zero, i.size, decide (i.bytes <= 1000))) = some (some (.agg #[.int .i64 0, .int .i64 0, .slice none 0 0, .slice none 0 0, .slice none 0 0, .int .i64 0]), 6, true) := by kernel_rfl
theorem makeSn (W : World) (len : Nat) (hlen : len <= 1048576) :
 (Instr.makeSlice 33 (.int .i64 len) (.int .i64 len)).run Tryz.prog W = .ok (.slice (some ⟨W.heap.size, 0, none⟩) len len) (W.alloc (.cells (rowX snCells (List.replicate len sn0)).toArray 86)) := by
 have h := infoSn
 cases hq : Tryz.prog.info? 86 with
 | none => simp [hq] at h
 | some i =>
   simp [hq] at h
   obtain ⟨hz, hs, hb⟩ := h
   have := run_make (P := Tryz.prog) W 33 86 i (.agg #[.int .i64 0, .int .i64 0, .slice none 0 0, .slice none 0 0, .slice none 0 0, .int .i64 0]) Tryz.underlying33 hq hz .i64 .i64 len len (by omega) (by omega) (by have : (i.bytes : Int) * (len : Int) <= 1000 * 1048576 := Int.mul_le_mul (by omega) (by omega) (by omega) (by omega); omega) (by omega)
   rw [this, hs]
   simp only [Int.toNat_natCast]
   rw [show (Value.agg #[.int .i64 0, .int .i64 0, .slice none 0 0, .slice none 0 0, .slice none 0 0, .int .i64 0]).cells = #[.int .i64 0, .int .i64 0, .slice none 0 0, .slice none 0 0, .slice none 0 0, .int .i64 0] from rfl, made_x sn_len (by omega) sn0 #[.int .i64 0, .int .i64 0, .slice none 0 0, .slice none 0 0, .slice none 0 0, .int .i64 0] rfl len]
theorem infoVn : (Tryz.prog.info? 70).map (fun i => (i.zero, i.size, decide (i.bytes <= 1000))) = some (some (.agg #[.int .i64 0, .int .i64 0, .slice none 0 0, .slice none 0 0]), 4, true) := by kernel_rfl
theorem makeVn (W : World) (len : Nat) (hlen : len <= 1048576) :
 (Instr.makeSlice 34 (.int .i64 len) (.int .i64 len)).run Tryz.prog W = .ok (.slice (some ⟨W.heap.size, 0, none⟩) len len) (W.alloc (.cells (rowX vnCells (List.replicate len vn0)).toArray 70)) := by
 have h := infoVn
 cases hq : Tryz.prog.info? 70 with
 | none => simp [hq] at h
 | some i =>
   simp [hq] at h
   obtain ⟨hz, hs, hb⟩ := h
   have := run_make (P := Tryz.prog) W 34 70 i (.agg #[.int .i64 0, .int .i64 0, .slice none 0 0, .slice none 0 0]) Tryz.underlying34 hq hz .i64 .i64 len len (by omega) (by omega) (by have : (i.bytes : Int) * (len : Int) <= 1000 * 1048576 := Int.mul_le_mul (by omega) (by omega) (by omega) (by omega); omega) (by omega)
   rw [this, hs]
   simp only [Int.toNat_natCast]
   rw [show (Value.agg #[.int .i64 0, .int .i64 0, .slice none 0 0, .slice none 0 0]).cells = #[.int .i64 0, .int .i64 0, .slice none 0 0, .slice none 0 0] from rfl, made_x vn_len (by omega) vn0 #[.int .i64 0, .int .i64 0, .slice none 0 0, .slice none 0 0] rfl len]
theorem infoTn : (Tryz.prog.info? 36).map (fun i => (i.zero, i.size, decide (i.bytes <= 1000))) = some (some (.agg #[.string ⟨#[]⟩, .int .i64 0, .slice none 0 0, .slice none 0 0, .int .i64 0]), 5, true) := by kernel_rfl
theorem makeTn (W : World) (len : Nat) (hlen : len <= 1048576) :
 (Instr.makeSlice 27 (.int .i64 len) (.int .i64 len)).run Tryz.prog W = .ok (.slice (some ⟨W.heap.size, 0, none⟩) len len) (W.alloc (.cells (rowX tnCells (List.replicate len tn0)).toArray 36)) := by
 have h := infoTn
 cases hq : Tryz.prog.info? 36 with
 | none => simp [hq] at h
 | some i =>
   simp [hq] at h
   obtain ⟨hz, hs, hb⟩ := h
   have := run_make (P := Tryz.prog) W 27 36 i (.agg #[.string ⟨#[]⟩, .int .i64 0, .slice none 0 0, .slice none 0 0, .int .i64 0]) Tryz.underlying27 hq hz .i64 .i64 len len (by omega) (by omega) (by have : (i.bytes : Int) * (len : Int) <= 1000 * 1048576 := Int.mul_le_mul (by omega) (by omega) (by omega) (by omega); omega) (by omega)
   rw [this, hs]
   simp only [Int.toNat_natCast]
   rw [show (Value.agg #[.string ⟨#[]⟩, .int .i64 0, .slice none 0 0, .slice none 0 0, .int .i64 0]).cells = #[.string ⟨#[]⟩, .int .i64 0, .slice none 0 0, .slice none 0 0, .int .i64 0] from rfl, made_x tn_len (by omega) tn0 #[.string ⟨#[]⟩, .int .i64 0, .slice none 0 0, .slice none 0 0, .int .i64 0] rfl len]
set_option maxHeartbeats 2000000 in
theorem toSnapshot_any (s : SN) (w : World) (ho : SNOk 1048576 s) (hA : SNAt w s) :
 Calls Tryz.prog 162 #[.agg #[.int .i64 s.id, .int .i64 s.c.n, .slice s.za s.c.zs.length s.zc, .slice s.oa s.c.ko s.oc, .slice s.va s.c.kv s.vc, .int .i64 s.c.f]] w fun e w' => ∃ s' : SN, e = .returned (.agg #[.int .i64 s'.id, .int .i64 s'.c.n, .slice s'.za s'.c.zs.length s'.zc, .slice s'.oa s'.c.ko s'.oc, .slice s'.va s'.c.kv s'.vc, .int .i64 s'.c.f]) /\ (s'.plain = s.plain /\ s'.c.zs.length <= s'.zc) /\ Below w.heap.size w w' /\ KA w.heap.size w' (fun W => SNAt W s') := by
 obtain ⟨id, ⟨cn, cf, zs, os, vs, ko, kv⟩, za, oa, va, zc, oc, vc⟩ := s
 have HA := hdn hA
 have CZ : Hid (∀ W, SNAt W ⟨id, ⟨cn, cf, zs, os, vs, ko, kv⟩, za, oa, va, zc, oc, vc⟩ -> Calls Tryz.prog 192 #[.agg #[.int .i64 cn, .slice za zs.length zc, .slice oa ko oc, .slice va kv vc, .int .i64 cf]] W _) := fun W h => toCase_any cn cf za oa va zc ko oc kv vc zs os vs W h.z h.o h.v ho.o ho.v ho.zm ho.om ho.vm
 clear hA ho
 simp only at CZ ⊢
 obtain ⟨nz, HNZ⟩ := nmd zs.length
 rw [HNZ.out] at CZ ⊢
 have T0 := hdn (TB.new 208 86 w #[.int .i64 id, .int .i64 cn, .slice za nz zc, .slice oa ko oc, .slice va kv vc, .int .i64 cf] #[.int .i64 0, .int .i64 0, .slice none 0 0, .slice none 0 0, .slice none 0 0, .int .i64 0] #[.int .i64 0, .int .i64 0, .slice none 0 0, .slice none 0 0, .slice none 0 0, .int .i64 0])
 go_enter Tryz.func162, Tryz.ntmps162
 obtain ⟨c0, c1, c2, c3, c4, c5⟩ := cells6v T0.out.s
 obtain ⟨x0, x1, x2, x3, x4, x5⟩ := cells6v T0.out.o
 have f0 := fun i => frozen_of_row _ _ i _ _ T0.out.o
 go_wp2_with fail
 clear c0 c1 c2 c3 c4 c5 x0 x1 x2 x3 x4 x5 f0
 have T1 := hdn (TB.new 208 86 w #[.int .i64 id, .int .i64 cn, .slice za nz zc, .slice oa ko oc, .slice va kv vc, .int .i64 cf] #[.int .i64 0, .int .i64 0, .slice none 0 0, .slice none 0 0, .slice none 0 0, .int .i64 0] #[.int .i64 id, .int .i64 0, .slice none 0 0, .slice none 0 0, .slice none 0 0, .int .i64 0])
 clear T0
 generalize (((w.alloc (.cells #[.int .i64 id, .int .i64 cn, .slice za nz zc, .slice oa ko oc, .slice va kv vc, .int .i64 cf] 208)).alloc (.cells #[.int .i64 0, .int .i64 0, .slice none 0 0, .slice none 0 0, .slice none 0 0, .int .i64 0] 86)).alloc (.cells #[.int .i64 id, .int .i64 0, .slice none 0 0, .slice none 0 0, .slice none 0 0, .int .i64 0] 86)) = W0 at *
 have hW0 := row_lt T1.out.o
 refine (CZ.out W0 (HA.out.below T1.out.b)).mono ?_
 rintro e w1 ⟨g, go, gv, hg, hgo, hgv, rfl, hb, hc⟩
 have T2 := hdn (T1.out.below hb)
 have K2 : Hid (KA (w.heap.size + 3) w1 (fun W => SNAt W ⟨id, ⟨cn, cf, zs, os, vs, ko, kv⟩, some ⟨g, 0, none⟩, some ⟨go, 0, none⟩, some ⟨gv, 0, none⟩, nz, ko, kv⟩)) := ((KA.ints hc.1 (by omega)).and ((KA.ints hc.2.1 (by omega)).and (KA.ints hc.2.2 (by omega)))).mono fun _ h => ⟨h.1, h.2.1, h.2.2⟩
 clear hb hc hg hgo hgv T1 CZ HA hW0
 obtain ⟨x0, x1, x2, x3, x4, x5⟩ := cells6v T2.out.o
 obtain ⟨z0, z1, z2, z3, z4, z5⟩ := cells6v T2.out.z
 have f0 := fun i => frozen_of_row _ _ i _ _ T2.out.o
 have f1 := fun i => frozen_of_row _ _ i _ _ T2.out.z
 go_wp2
 refine bodyPost_ret (v := .agg #[.int .i64 id, .int .i64 cn, .slice (some ⟨g, 0, none⟩) nz nz, .slice (some ⟨go, 0, none⟩) ko ko, .slice (some ⟨gv, 0, none⟩) kv kv, .int .i64 cf]) (by simp [results, Tryz.results162, go_sem, z0, z1, z2, z3, z4, z5]) rfl ⟨⟨id, ⟨cn, cf, zs, os, vs, ko, kv⟩, some ⟨g, 0, none⟩, some ⟨go, 0, none⟩, some ⟨gv, 0, none⟩, nz, ko, kv⟩, by simp only [HNZ.out], ⟨rfl, Nat.le_of_eq HNZ.out⟩, ?_, ?_⟩
 · repeat (first | with_reducible exact T2.out.b | refine Below.setCell ?_ (by simp <;> omega) _)
 · refine KA.base (b0 := w.heap.size) (base := w.heap.size + 3) ?_ (by omega)
   repeat (first | with_reducible exact K2.out | refine KA.set ?_ (by omega))
set_option maxHeartbeats 2000000 in
theorem toVersion_any (v : VN) (w : World) (ho : VNOk 1048576 v) (hA : VNAt w v) :
 Calls Tryz.prog 163 #[.agg #[.int .i64 v.id, .int .i64 v.sn, .slice v.ra v.R.length v.rc, .slice v.la v.L.length v.lc]] w fun e w' => ∃ v' : VN, e = .returned (.agg #[.int .i64 v'.id, .int .i64 v'.sn, .slice v'.ra v'.R.length v'.rc, .slice v'.la v'.L.length v'.lc]) /\ (v'.plain = v.plain /\ ∀ r ∈ v'.R, r.ids.length <= r.c /\ ∃ g, r.a = some ⟨g, 0, none⟩) /\ Below w.heap.size w w' /\ KA w.heap.size w' (fun W => VNAt W v') := by
 obtain ⟨id, sn, R, L, ra, la, rc, lc⟩ := v
 have HA := hdn hA
 have CZ : Hid (∀ W, VNAt W ⟨id, sn, R, L, ra, la, rc, lc⟩ -> Calls Tryz.prog 193 #[.agg #[.slice ra R.length rc, .slice la L.length lc]] W _) := fun W h => toPlan_any ra la rc lc R L W h.r h.l ho.n ho.i ho.l
 clear hA ho
 simp only at CZ ⊢
 obtain ⟨nr, HNR⟩ := nmd R.length
 obtain ⟨nl, HNL⟩ := nmd L.length
 rw [HNR.out, HNL.out] at CZ ⊢
 have T0 := hdn (TB.new 214 70 w #[.int .i64 id, .int .i64 sn, .slice ra nr rc, .slice la nl lc] #[.int .i64 0, .int .i64 0, .slice none 0 0, .slice none 0 0] #[.int .i64 0, .int .i64 0, .slice none 0 0, .slice none 0 0])
 go_enter Tryz.func163, Tryz.ntmps163
 obtain ⟨c0, c1, c2, c3⟩ := cells4v T0.out.s
 obtain ⟨x0, x1, x2, x3⟩ := cells4v T0.out.o
 have f0 := fun i => frozen_of_row _ _ i _ _ T0.out.o
 go_wp2_with fail
 clear c0 c1 c2 c3 x0 x1 x2 x3 f0
 have T1 := hdn (TB.new 214 70 w #[.int .i64 id, .int .i64 sn, .slice ra nr rc, .slice la nl lc] #[.int .i64 0, .int .i64 0, .slice none 0 0, .slice none 0 0] #[.int .i64 id, .int .i64 sn, .slice none 0 0, .slice none 0 0])
 clear T0
 generalize (((w.alloc (.cells #[.int .i64 id, .int .i64 sn, .slice ra nr rc, .slice la nl lc] 214)).alloc (.cells #[.int .i64 0, .int .i64 0, .slice none 0 0, .slice none 0 0] 70)).alloc (.cells #[.int .i64 id, .int .i64 sn, .slice none 0 0, .slice none 0 0] 70)) = W0 at *
 have hW0 := row_lt T1.out.o
 refine (CZ.out W0 (HA.out.below T1.out.b)).mono ?_
 rintro e w1 ⟨g, gl, S, rfl, hb, hg, hgl, hr, hN, hl⟩
 have T2 := hdn (T1.out.below hb)
 have K2 : Hid (KA (w.heap.size + 3) w1 (fun W => VNAt W ⟨id, sn, S, L, some ⟨g, 0, none⟩, some ⟨gl, 0, none⟩, nr, nl⟩)) := fun W hW => ⟨RoutesAt.of_row (hW _ _ (by omega) hr) (fun s hs => by
  obtain ⟨q, h1, h2, _, h4⟩ := hN.2 s hs
  rw [h1]
  exact IntsAt.of_row (hW _ _ (by omega) h4)), IntsAt.of_row (hW _ _ (by omega) hl)⟩
 have HPL : Hid (VN.plain ⟨id, sn, S, L, some ⟨g, 0, none⟩, some ⟨gl, 0, none⟩, nr, nl⟩ = VN.plain ⟨id, sn, R, L, ra, la, rc, lc⟩) := by
  show _ = _
  unfold VN.plain
  simp only [RT.plain_key hN.1]
 have HRM : Hid (∀ r ∈ S, r.ids.length <= r.c /\ ∃ g, r.a = some ⟨g, 0, none⟩) := fun r hr => by
  obtain ⟨q, h1, _, h3, _⟩ := hN.2 r hr
  exact ⟨by omega, q, h1⟩
 have HSL : Hid (S.length = nr) := (key_len hN.1).trans HNR.out
 clear hb hr hN hl hg hgl T1 CZ HA hW0
 obtain ⟨x0, x1, x2, x3⟩ := cells4v T2.out.o
 obtain ⟨z0, z1, z2, z3⟩ := cells4v T2.out.z
 have f0 := fun i => frozen_of_row _ _ i _ _ T2.out.o
 have f1 := fun i => frozen_of_row _ _ i _ _ T2.out.z
 go_wp2
 refine bodyPost_ret (v := .agg #[.int .i64 id, .int .i64 sn, .slice (some ⟨g, 0, none⟩) nr nr, .slice (some ⟨gl, 0, none⟩) nl nl]) (by simp [results, Tryz.results163, go_sem, z0, z1, z2, z3]) rfl ⟨⟨id, sn, S, L, some ⟨g, 0, none⟩, some ⟨gl, 0, none⟩, nr, nl⟩, by simp only [HSL.out, HNL.out], ⟨HPL.out, HRM.out⟩, ?_, ?_⟩
 · repeat (first | with_reducible exact T2.out.b | refine Below.setCell ?_ (by simp <;> omega) _)
 · refine KA.base (b0 := w.heap.size) (base := w.heap.size + 3) ?_ (by omega)
   repeat (first | with_reducible exact K2.out | refine KA.set ?_ (by omega))
def VN.room (v : VN) : Prop := ∀ r ∈ v.R, r.ids.length <= r.c /\ ∃ g, r.a = some ⟨g, 0, none⟩
def SN.room (s : SN) : Prop := s.c.zs.length <= s.zc
def TN.room (t : TN) : Prop := (∀ v ∈ t.V, v.room) /\ ∀ s ∈ t.S, s.room
set_option maxHeartbeats 4000000 in
theorem toSnapshotS_any (a : Option Addr) (c : Nat) (X : List SN) (w : World) (hA : SnapsAt w a X) (hn : X.length <= 1048576) (hok : ∀ x ∈ X, SNOk 1048576 x) :
 Calls Tryz.prog 125 #[.slice a X.length c] w fun e w' => ∃ S : List SN, e = .returned (.slice (some ⟨w.heap.size, 0, none⟩) X.length X.length) /\ (S.map SN.plain = X.map SN.plain /\ ∀ s ∈ S, SN.room s) /\ Below w.heap.size w w' /\ KA w.heap.size w' (fun W => SnapsAt W (some ⟨w.heap.size, 0, none⟩) S) := by
 have HA := hdn hA
 have HOK := hdn hok
 clear hA hok
 obtain ⟨n, HN⟩ := nmd X.length
 rw [HN.out] at hn ⊢
 have hmk := fun W => makeSn W n hn
 go_enter Tryz.func125, Tryz.ntmps125
 go_wp2_with fail
 clear hmk
 go_loopw [4] (fun t wr => ∃ (k : Nat) (S : List SN), k <= n /\ t = .int .i64 k /\ Below w.heap.size w wr /\ w.heap.size < wr.heap.size /\ S.length = k /\ (S.map SN.plain = (X.take k).map SN.plain /\ ∀ s ∈ S, SN.room s) /\ KA (w.heap.size + 1) wr (fun W => ∀ s ∈ S, SNAt W s) /\ wr.heap[w.heap.size]? = some (.cells (rowX snCells (S ++ List.replicate (n - k) sn0)).toArray 86 (0, 0))) (fun t _ => n - (intOf t).toNat)
 case atStart =>
  refine ⟨0, [], Nat.zero_le _, rfl, (Below.refl _ _).alloc (Nat.le_refl _) _, by simp, rfl, by simp, fun W hW s hs => by simp at hs, ?_⟩
  rw [List.nil_append, Nat.sub_zero]
  exact heap_alloc_new w _
 case round =>
  obtain ⟨k, S, hk, rfl, hb, hsz, hS, hP, hK, hg⟩ := hrel
  have B1 := hdn hb
  have K1 := hdn hK
  have G1 := hdn hg
  have P1 := hdn hP
  have HSk : Hid (S.length = k) := hS
  clear hb hK hg hS hP
  by_cases hlt : k < n
  · have hkn : (k : Int) < n := by omega
    have hkX : k < X.length := by rw [HN.out]; exact hlt
    obtain ⟨b, off, e, c0, c1, c2, c3, c4, c5⟩ := (HA.out.below B1.out).at hkX
    have hmem : X[k] ∈ X := List.getElem_mem hkX
    have HE := hdn (HOK.out _ hmem)
    have HEA := hdn ((HA.out.below B1.out).2 _ hmem)
    have HTK : Hid ((X.take (k + 1)).map SN.plain = (X.take k).map SN.plain ++ [X[k].plain]) := by
     show _ = _
     rw [List.take_succ_eq_append_getElem hkX, List.map_append]
     rfl
    subst e
    generalize X[k] = x at *
    have CE := toSnapshot_any x wr HE.out HEA.out
    have HPX : Hid (x.plain = x.plain) := rfl
    generalize hpx : SN.plain x = px at HTK CE
    clear hpx HPX
    obtain ⟨id, ⟨cn, cf, zs, os, vs, ko, kv⟩, za, oa, va, zc, oc, vc⟩ := x
    simp only at c0 c1 c2 c3 c4 c5 CE
    clear HE HEA hmem
    generalize zs.length = nz at *
    go_wp2_with fail
    clear c0 c1 c2 c3 c4 c5
    refine CE.mono ?_
    rintro e w2 ⟨x', rfl, ⟨hpe, hrm⟩, hb2, hk2⟩
    have B2 := hdn (B1.out.trans (hb2.mono B1.out.size))
    have K2 := hdn ((K1.out.below hb2).and (hk2.base (b0 := w.heap.size + 1) (by omega)))
    have G2 := hdn (below_row hb2 (row_lt G1.out) G1.out)
    have hsz2 : w.heap.size < w2.heap.size := by have := hb2.size; omega
    have P2 := P1.out
    have PE := hdn hpe
    have HRM3 : Hid (∀ s ∈ S ++ [x'], SN.room s) := fun s hs => by
     rcases List.mem_append.1 hs with hs | hs
     · exact P2.2 s hs
     · rw [List.mem_singleton.1 hs]; exact hrm
    clear hb2 hk2 B1 K1 G1 P1 CE hpe
    have y0 : w2.cell? ⟨w.heap.size, k * 6, none⟩ = some (.int .i64 0) := by rw [cell_of_row _ _ _ _ _ _ G2.out]; simpa using rowX_at sn_len (S ++ List.replicate (n - k) sn0) k 0 (by simp [HSk.out]; omega) (.int .i64 0) (by rw [List.getElem_append_right (by rw [HSk.out]; exact Nat.le_refl _), List.getElem_replicate]; rfl)
    have y1 : w2.cell? ⟨w.heap.size, k * 6 + 1, none⟩ = some (.int .i64 0) := by rw [cell_of_row _ _ _ _ _ _ G2.out]; simpa using rowX_at sn_len (S ++ List.replicate (n - k) sn0) k 1 (by simp [HSk.out]; omega) (.int .i64 0) (by rw [List.getElem_append_right (by rw [HSk.out]; exact Nat.le_refl _), List.getElem_replicate]; rfl)
    have y2 : w2.cell? ⟨w.heap.size, k * 6 + 2, none⟩ = some (.slice none 0 0) := by rw [cell_of_row _ _ _ _ _ _ G2.out]; simpa using rowX_at sn_len (S ++ List.replicate (n - k) sn0) k 2 (by simp [HSk.out]; omega) (.slice none 0 0) (by rw [List.getElem_append_right (by rw [HSk.out]; exact Nat.le_refl _), List.getElem_replicate]; rfl)
    have y3 : w2.cell? ⟨w.heap.size, k * 6 + 3, none⟩ = some (.slice none 0 0) := by rw [cell_of_row _ _ _ _ _ _ G2.out]; simpa using rowX_at sn_len (S ++ List.replicate (n - k) sn0) k 3 (by simp [HSk.out]; omega) (.slice none 0 0) (by rw [List.getElem_append_right (by rw [HSk.out]; exact Nat.le_refl _), List.getElem_replicate]; rfl)
    have y4 : w2.cell? ⟨w.heap.size, k * 6 + 4, none⟩ = some (.slice none 0 0) := by rw [cell_of_row _ _ _ _ _ _ G2.out]; simpa using rowX_at sn_len (S ++ List.replicate (n - k) sn0) k 4 (by simp [HSk.out]; omega) (.slice none 0 0) (by rw [List.getElem_append_right (by rw [HSk.out]; exact Nat.le_refl _), List.getElem_replicate]; rfl)
    have y5 : w2.cell? ⟨w.heap.size, k * 6 + 5, none⟩ = some (.int .i64 0) := by rw [cell_of_row _ _ _ _ _ _ G2.out]; simpa using rowX_at sn_len (S ++ List.replicate (n - k) sn0) k 5 (by simp [HSk.out]; omega) (.int .i64 0) (by rw [List.getElem_append_right (by rw [HSk.out]; exact Nat.le_refl _), List.getElem_replicate]; rfl)
    have ff := fun i => frozen_of_row _ _ i _ _ G2.out
    have G3 := hdn (putX_thing (x := x') sn_len (S := S) (z := sn0) (Z := List.replicate (n - (k + 1)) sn0) (by have := G2.out; rw [show n - k = (n - (k + 1)) + 1 by omega, List.replicate_succ] at this; exact this) HSk.out)
    have B3 := hdn (putX_below (snCells x') (k * 6) w2 B2.out (Nat.le_refl _))
    have K3 := hdn (putX_keep (snCells x') (k * 6) w2 K2.out (Nat.lt_succ_self _))
    have P3 : Hid ((S ++ [x']).map SN.plain = (X.take (k + 1)).map SN.plain) := by
     show _ = _
     rw [HTK.out, List.map_append, P2.1, List.map_cons, List.map_nil, PE.out]
    have S3 : Hid ((S ++ [x']).length = k + 1) := by show _ = _; rw [List.length_append, HSk.out]; rfl
    have K4 : Hid (KA (w.heap.size + 1) (putX w.heap.size (snCells x') (k * 6) w2) (fun W => ∀ s ∈ S ++ [x'], SNAt W s)) := K3.out.mono fun W h s hs => by
     rcases List.mem_append.1 hs with hs | hs
     · exact h.1 s hs
     · rw [List.mem_singleton.1 hs]; exact h.2
    have Z3 := hdn (row_lt G3.out)
    have hdef : ∀ Q : World -> Prop, Q (putX w.heap.size (snCells x') (k * 6) w2) -> Q (((((((w2.setCell ⟨w.heap.size, k * 6, none⟩ (.int .i64 x'.id)).setCell ⟨w.heap.size, k * 6 + 1, none⟩ (.int .i64 x'.c.n)).setCell ⟨w.heap.size, k * 6 + 2, none⟩ (.slice x'.za x'.c.zs.length x'.zc)).setCell ⟨w.heap.size, k * 6 + 3, none⟩ (.slice x'.oa x'.c.ko x'.oc)).setCell ⟨w.heap.size, k * 6 + 4, none⟩ (.slice x'.va x'.c.kv x'.vc)).setCell ⟨w.heap.size, k * 6 + 5, none⟩ (.int .i64 x'.c.f))) := fun Q h => h
    clear B2 K2 G2 K3 P2
    go_wp2_with fail
    clear y0 y1 y2 y3 y4 y5 ff
    have HB := hdn (hdef (Below w.heap.size w) B3.out)
    have HZ := hdn (hdef (fun W => w.heap.size < W.heap.size) Z3.out)
    have HK := hdn (hdef (fun W => KA (w.heap.size + 1) W (fun W => ∀ s ∈ S ++ [x'], SNAt W s)) K4.out)
    have HG := hdn (hdef (fun W => W.heap[w.heap.size]? = some (.cells (rowX snCells ((S ++ [x']) ++ List.replicate (n - (k + 1)) sn0)).toArray 86 (0, 0))) G3.out)
    exact ⟨⟨k + 1, S ++ [x'], by omega, by first | rfl | go_num, HB.out, HZ.out, S3.out, ⟨P3.out, HRM3.out⟩, HK.out, HG.out⟩, by simp [intOf]; omega⟩
  · have hkn : k = n := by omega
    subst hkn
    have HT : Hid (X.take k = X) := by show _ = _; rw [<- HN.out, List.take_length]
    rw [HT.out] at P1
    rw [Nat.sub_self, List.replicate_zero, List.append_nil] at G1
    go_wp2
    go_ret
    exact ⟨S, rfl, P1.out, B1.out, ((KA.row G1.out (Nat.le_refl _)).and (K1.out.base (Nat.le_succ _))).mono fun W h => ⟨RowAt.of_row sn_len h.1, h.2⟩⟩
set_option maxHeartbeats 4000000 in
theorem toVersionS_any (a : Option Addr) (c : Nat) (X : List VN) (w : World) (hA : VersAt w a X) (hn : X.length <= 1048576) (hok : ∀ x ∈ X, VNOk 1048576 x) :
 Calls Tryz.prog 126 #[.slice a X.length c] w fun e w' => ∃ S : List VN, e = .returned (.slice (some ⟨w.heap.size, 0, none⟩) X.length X.length) /\ (S.map VN.plain = X.map VN.plain /\ ∀ s ∈ S, VN.room s) /\ Below w.heap.size w w' /\ KA w.heap.size w' (fun W => VersAt W (some ⟨w.heap.size, 0, none⟩) S) := by
 have HA := hdn hA
 have HOK := hdn hok
 clear hA hok
 obtain ⟨n, HN⟩ := nmd X.length
 rw [HN.out] at hn ⊢
 have hmk := fun W => makeVn W n hn
 go_enter Tryz.func126, Tryz.ntmps126
 go_wp2_with fail
 clear hmk
 go_loopw [4] (fun t wr => ∃ (k : Nat) (S : List VN), k <= n /\ t = .int .i64 k /\ Below w.heap.size w wr /\ w.heap.size < wr.heap.size /\ S.length = k /\ (S.map VN.plain = (X.take k).map VN.plain /\ ∀ s ∈ S, VN.room s) /\ KA (w.heap.size + 1) wr (fun W => ∀ s ∈ S, VNAt W s) /\ wr.heap[w.heap.size]? = some (.cells (rowX vnCells (S ++ List.replicate (n - k) vn0)).toArray 70 (0, 0))) (fun t _ => n - (intOf t).toNat)
 case atStart =>
  refine ⟨0, [], Nat.zero_le _, rfl, (Below.refl _ _).alloc (Nat.le_refl _) _, by simp, rfl, by simp, fun W hW s hs => by simp at hs, ?_⟩
  rw [List.nil_append, Nat.sub_zero]
  exact heap_alloc_new w _
 case round =>
  obtain ⟨k, S, hk, rfl, hb, hsz, hS, hP, hK, hg⟩ := hrel
  have B1 := hdn hb
  have K1 := hdn hK
  have G1 := hdn hg
  have P1 := hdn hP
  have HSk : Hid (S.length = k) := hS
  clear hb hK hg hS hP
  by_cases hlt : k < n
  · have hkn : (k : Int) < n := by omega
    have hkX : k < X.length := by rw [HN.out]; exact hlt
    obtain ⟨b, off, e, c0, c1, c2, c3⟩ := (HA.out.below B1.out).at hkX
    have hmem : X[k] ∈ X := List.getElem_mem hkX
    have HE := hdn (HOK.out _ hmem)
    have HEA := hdn ((HA.out.below B1.out).2 _ hmem)
    have HTK : Hid ((X.take (k + 1)).map VN.plain = (X.take k).map VN.plain ++ [X[k].plain]) := by
     show _ = _
     rw [List.take_succ_eq_append_getElem hkX, List.map_append]
     rfl
    subst e
    generalize X[k] = x at *
    have CE := toVersion_any x wr HE.out HEA.out
    have HPX : Hid (x.plain = x.plain) := rfl
    generalize hpx : VN.plain x = px at HTK CE
    clear hpx HPX
    obtain ⟨id, sn, R, L, ra, la, rc, lc⟩ := x
    simp only at c0 c1 c2 c3 CE
    clear HE HEA hmem
    generalize R.length = nr at *
    generalize L.length = nl at *
    go_wp2_with fail
    clear c0 c1 c2 c3
    refine CE.mono ?_
    rintro e w2 ⟨x', rfl, ⟨hpe, hrm⟩, hb2, hk2⟩
    have B2 := hdn (B1.out.trans (hb2.mono B1.out.size))
    have K2 := hdn ((K1.out.below hb2).and (hk2.base (b0 := w.heap.size + 1) (by omega)))
    have G2 := hdn (below_row hb2 (row_lt G1.out) G1.out)
    have hsz2 : w.heap.size < w2.heap.size := by have := hb2.size; omega
    have P2 := P1.out
    have PE := hdn hpe
    have HRM3 : Hid (∀ s ∈ S ++ [x'], VN.room s) := fun s hs => by
     rcases List.mem_append.1 hs with hs | hs
     · exact P2.2 s hs
     · rw [List.mem_singleton.1 hs]; exact hrm
    clear hb2 hk2 B1 K1 G1 P1 CE hpe
    have y0 : w2.cell? ⟨w.heap.size, k * 4, none⟩ = some (.int .i64 0) := by rw [cell_of_row _ _ _ _ _ _ G2.out]; simpa using rowX_at vn_len (S ++ List.replicate (n - k) vn0) k 0 (by simp [HSk.out]; omega) (.int .i64 0) (by rw [List.getElem_append_right (by rw [HSk.out]; exact Nat.le_refl _), List.getElem_replicate]; rfl)
    have y1 : w2.cell? ⟨w.heap.size, k * 4 + 1, none⟩ = some (.int .i64 0) := by rw [cell_of_row _ _ _ _ _ _ G2.out]; simpa using rowX_at vn_len (S ++ List.replicate (n - k) vn0) k 1 (by simp [HSk.out]; omega) (.int .i64 0) (by rw [List.getElem_append_right (by rw [HSk.out]; exact Nat.le_refl _), List.getElem_replicate]; rfl)
    have y2 : w2.cell? ⟨w.heap.size, k * 4 + 2, none⟩ = some (.slice none 0 0) := by rw [cell_of_row _ _ _ _ _ _ G2.out]; simpa using rowX_at vn_len (S ++ List.replicate (n - k) vn0) k 2 (by simp [HSk.out]; omega) (.slice none 0 0) (by rw [List.getElem_append_right (by rw [HSk.out]; exact Nat.le_refl _), List.getElem_replicate]; rfl)
    have y3 : w2.cell? ⟨w.heap.size, k * 4 + 3, none⟩ = some (.slice none 0 0) := by rw [cell_of_row _ _ _ _ _ _ G2.out]; simpa using rowX_at vn_len (S ++ List.replicate (n - k) vn0) k 3 (by simp [HSk.out]; omega) (.slice none 0 0) (by rw [List.getElem_append_right (by rw [HSk.out]; exact Nat.le_refl _), List.getElem_replicate]; rfl)
    have ff := fun i => frozen_of_row _ _ i _ _ G2.out
    have G3 := hdn (putX_thing (x := x') vn_len (S := S) (z := vn0) (Z := List.replicate (n - (k + 1)) vn0) (by have := G2.out; rw [show n - k = (n - (k + 1)) + 1 by omega, List.replicate_succ] at this; exact this) HSk.out)
    have B3 := hdn (putX_below (vnCells x') (k * 4) w2 B2.out (Nat.le_refl _))
    have K3 := hdn (putX_keep (vnCells x') (k * 4) w2 K2.out (Nat.lt_succ_self _))
    have P3 : Hid ((S ++ [x']).map VN.plain = (X.take (k + 1)).map VN.plain) := by
     show _ = _
     rw [HTK.out, List.map_append, P2.1, List.map_cons, List.map_nil, PE.out]
    have S3 : Hid ((S ++ [x']).length = k + 1) := by show _ = _; rw [List.length_append, HSk.out]; rfl
    have K4 : Hid (KA (w.heap.size + 1) (putX w.heap.size (vnCells x') (k * 4) w2) (fun W => ∀ s ∈ S ++ [x'], VNAt W s)) := K3.out.mono fun W h s hs => by
     rcases List.mem_append.1 hs with hs | hs
     · exact h.1 s hs
     · rw [List.mem_singleton.1 hs]; exact h.2
    have Z3 := hdn (row_lt G3.out)
    have hdef : ∀ Q : World -> Prop, Q (putX w.heap.size (vnCells x') (k * 4) w2) -> Q (((((w2.setCell ⟨w.heap.size, k * 4, none⟩ (.int .i64 x'.id)).setCell ⟨w.heap.size, k * 4 + 1, none⟩ (.int .i64 x'.sn)).setCell ⟨w.heap.size, k * 4 + 2, none⟩ (.slice x'.ra x'.R.length x'.rc)).setCell ⟨w.heap.size, k * 4 + 3, none⟩ (.slice x'.la x'.L.length x'.lc))) := fun Q h => h
    clear B2 K2 G2 K3 P2
    go_wp2_with fail
    clear y0 y1 y2 y3 ff
    have HB := hdn (hdef (Below w.heap.size w) B3.out)
    have HZ := hdn (hdef (fun W => w.heap.size < W.heap.size) Z3.out)
    have HK := hdn (hdef (fun W => KA (w.heap.size + 1) W (fun W => ∀ s ∈ S ++ [x'], VNAt W s)) K4.out)
    have HG := hdn (hdef (fun W => W.heap[w.heap.size]? = some (.cells (rowX vnCells ((S ++ [x']) ++ List.replicate (n - (k + 1)) vn0)).toArray 70 (0, 0))) G3.out)
    exact ⟨⟨k + 1, S ++ [x'], by omega, by first | rfl | go_num, HB.out, HZ.out, S3.out, ⟨P3.out, HRM3.out⟩, HK.out, HG.out⟩, by simp [intOf]; omega⟩
  · have hkn : k = n := by omega
    subst hkn
    have HT : Hid (X.take k = X) := by show _ = _; rw [<- HN.out, List.take_length]
    rw [HT.out] at P1
    rw [Nat.sub_self, List.replicate_zero, List.append_nil] at G1
    go_wp2
    go_ret
    exact ⟨S, rfl, P1.out, B1.out, ((KA.row G1.out (Nat.le_refl _)).and (K1.out.base (Nat.le_succ _))).mono fun W h => ⟨RowAt.of_row vn_len h.1, h.2⟩⟩
set_option maxHeartbeats 4000000 in
theorem toTenant_any (t : TN) (w : World) (ho : TNOk 1048576 t) (hA : TNAt w t) :
 Calls Tryz.prog 79 #[.agg #[.string (txt t.nm), .int .i64 t.nx, .slice t.sa t.S.length t.sc, .slice t.va t.V.length t.vc, .int .i64 t.pub]] w fun e w' => ∃ t' : TN, e = .returned (.agg #[.string (txt t'.nm), .int .i64 t'.nx, .slice t'.sa t'.S.length t'.sc, .slice t'.va t'.V.length t'.vc, .int .i64 t'.pub]) /\ (t'.plain = t.plain /\ t'.room) /\ Below w.heap.size w w' /\ KA w.heap.size w' (fun W => TNAt W t') := by
 obtain ⟨nm, nx, S, V, pub, sa, va, sc, vc⟩ := t
 have HA := hdn hA
 have CS : Hid (∀ W, SnapsAt W sa S -> Calls Tryz.prog 125 #[.slice sa S.length sc] W _) := fun W h => toSnapshotS_any sa sc S W h ho.s ho.os
 have CV : Hid (∀ W, VersAt W va V -> Calls Tryz.prog 126 #[.slice va V.length vc] W _) := fun W h => toVersionS_any va vc V W h ho.v ho.ov
 clear hA ho
 simp only at CS CV ⊢
 obtain ⟨nS, HNS⟩ := nmd S.length
 obtain ⟨nV, HNV⟩ := nmd V.length
 obtain ⟨nb, HNB⟩ := nmd (txt nm)
 rw [HNS.out] at CS ⊢
 rw [HNV.out] at CV ⊢
 rw [HNB.out]
 have T0 := hdn (TB.new 117 36 w #[.string nb, .int .i64 nx, .slice sa nS sc, .slice va nV vc, .int .i64 pub] #[.string ⟨#[]⟩, .int .i64 0, .slice none 0 0, .slice none 0 0, .int .i64 0] #[.string ⟨#[]⟩, .int .i64 0, .slice none 0 0, .slice none 0 0, .int .i64 0])
 go_enter Tryz.func79, Tryz.ntmps79
 obtain ⟨c0, c1, c2, c3, c4⟩ := cells5 T0.out.s
 obtain ⟨x0, x1, x2, x3, x4⟩ := cells5 T0.out.o
 have f0 := fun i => frozen_of_row _ _ i _ _ T0.out.o
 go_wp2_with fail
 clear c0 c1 c2 c3 c4 x0 x1 x2 x3 x4 f0
 have T1 := hdn (TB.new 117 36 w #[.string nb, .int .i64 nx, .slice sa nS sc, .slice va nV vc, .int .i64 pub] #[.string ⟨#[]⟩, .int .i64 0, .slice none 0 0, .slice none 0 0, .int .i64 0] #[.string nb, .int .i64 nx, .slice none 0 0, .slice none 0 0, .int .i64 0])
 clear T0
 generalize (((w.alloc (.cells #[.string nb, .int .i64 nx, .slice sa nS sc, .slice va nV vc, .int .i64 pub] 117)).alloc (.cells #[.string ⟨#[]⟩, .int .i64 0, .slice none 0 0, .slice none 0 0, .int .i64 0] 36)).alloc (.cells #[.string nb, .int .i64 nx, .slice none 0 0, .slice none 0 0, .int .i64 0] 36)) = W0 at *
 have hW0 := row_lt T1.out.o
 refine (CS.out W0 (HA.out.s.below T1.out.b)).mono ?_
 rintro e w1 ⟨S', rfl, hps, hb, hk⟩
 have T2 := hdn (T1.out.below hb)
 have K2 := hdn (hk.base (b0 := w.heap.size + 3) (by omega))
 have PS := hdn hps.1
 have RS := hdn hps.2
 generalize W0.heap.size = g1 at *
 clear hb hk hps T1 CS hW0
 obtain ⟨c0, c1, c2, c3, c4⟩ := cells5 T2.out.s
 obtain ⟨x0, x1, x2, x3, x4⟩ := cells5 T2.out.o
 have f0 := fun i => frozen_of_row _ _ i _ _ T2.out.o
 go_wp2_with fail
 clear c0 c1 c2 c3 c4 x0 x1 x2 x3 x4 f0
 have T3 := hdn (T2.out.set 2 (.slice (some ⟨g1, 0, none⟩) nS nS))
 have K3 := hdn (K2.out.set (g := w.heap.size + 1 + 1) (i := 2) (v := .slice (some ⟨g1, 0, none⟩) nS nS) (by omega))
 clear T2 K2
 generalize w1.setCell ⟨w.heap.size + 1 + 1, 2, none⟩ (.slice (some ⟨g1, 0, none⟩) nS nS) = W1 at *
 have hW1 := row_lt T3.out.o
 refine (CV.out W1 (HA.out.v.below T3.out.b)).mono ?_
 rintro e w2 ⟨V', rfl, hpv, hb, hk⟩
 have T4 := hdn (T3.out.below hb)
 have K4 := hdn ((K3.out.below hb).and (hk.base (b0 := w.heap.size + 3) (by omega)))
 have PV := hdn hpv.1
 have HRM : Hid (TN.room ⟨nm, nx, S', V', pub, some ⟨g1, 0, none⟩, some ⟨W1.heap.size, 0, none⟩, nS, nV⟩) := ⟨hpv.2, RS.out⟩
 generalize W1.heap.size = g2 at *
 clear hb hk hpv T3 K3 CV hW1 HA
 have HPL : Hid (TN.plain ⟨nm, nx, S', V', pub, some ⟨g1, 0, none⟩, some ⟨g2, 0, none⟩, nS, nV⟩ = TN.plain ⟨nm, nx, S, V, pub, sa, va, sc, vc⟩) := by
  show _ = _
  unfold TN.plain
  simp only [PS.out, PV.out]
 have HSL : Hid (S'.length = nS) := by have := congrArg List.length PS.out; rw [List.length_map, List.length_map] at this; exact this.trans HNS.out
 have HVL : Hid (V'.length = nV) := by have := congrArg List.length PV.out; rw [List.length_map, List.length_map] at this; exact this.trans HNV.out
 have K5 : Hid (KA (w.heap.size + 3) w2 (fun W => TNAt W ⟨nm, nx, S', V', pub, some ⟨g1, 0, none⟩, some ⟨g2, 0, none⟩, nS, nV⟩)) := K4.out.mono fun W h => ⟨h.1, h.2⟩
 clear K4 PS PV
 obtain ⟨c0, c1, c2, c3, c4⟩ := cells5 T4.out.s
 obtain ⟨x0, x1, x2, x3, x4⟩ := cells5 T4.out.o
 obtain ⟨z0, z1, z2, z3, z4⟩ := cells5 T4.out.z
 have f0 := fun i => frozen_of_row _ _ i _ _ T4.out.o
 have f1 := fun i => frozen_of_row _ _ i _ _ T4.out.z
 go_wp2
 refine bodyPost_ret (v := .agg #[.string nb, .int .i64 nx, .slice (some ⟨g1, 0, none⟩) nS nS, .slice (some ⟨g2, 0, none⟩) nV nV, .int .i64 pub]) (by simp [results, Tryz.results79, go_sem, z0, z1, z2, z3, z4]) rfl ⟨⟨nm, nx, S', V', pub, some ⟨g1, 0, none⟩, some ⟨g2, 0, none⟩, nS, nV⟩, by simp only [HSL.out, HVL.out, HNB.out], ⟨HPL.out, HRM.out⟩, ?_, ?_⟩
 · repeat (first | with_reducible exact T4.out.b | refine Below.setCell ?_ (by simp <;> omega) _)
 · refine KA.base (b0 := w.heap.size) (base := w.heap.size + 3) ?_ (by omega)
   repeat (first | with_reducible exact K5.out | refine KA.set ?_ (by omega))
set_option maxHeartbeats 4000000 in
theorem toTenantS_any (a : Option Addr) (c : Nat) (X : List TN) (w : World) (hA : TensAt w a X) (hn : X.length <= 1048576) (hok : ∀ x ∈ X, TNOk 1048576 x) :
 Calls Tryz.prog 31 #[.slice a X.length c] w fun e w' => ∃ S : List TN, e = .returned (.slice (some ⟨w.heap.size, 0, none⟩) X.length X.length) /\ (S.map TN.plain = X.map TN.plain /\ ∀ s ∈ S, TN.room s) /\ Below w.heap.size w w' /\ KA w.heap.size w' (fun W => TensAt W (some ⟨w.heap.size, 0, none⟩) S) := by
 have HA := hdn hA
 have HOK := hdn hok
 clear hA hok
 obtain ⟨n, HN⟩ := nmd X.length
 rw [HN.out] at hn ⊢
 have hmk := fun W => makeTn W n hn
 go_enter Tryz.func31, Tryz.ntmps31
 go_wp2_with fail
 clear hmk
 go_loopw [4] (fun t wr => ∃ (k : Nat) (S : List TN), k <= n /\ t = .int .i64 k /\ Below w.heap.size w wr /\ w.heap.size < wr.heap.size /\ S.length = k /\ (S.map TN.plain = (X.take k).map TN.plain /\ ∀ s ∈ S, TN.room s) /\ KA (w.heap.size + 1) wr (fun W => ∀ s ∈ S, TNAt W s) /\ wr.heap[w.heap.size]? = some (.cells (rowX tnCells (S ++ List.replicate (n - k) tn0)).toArray 36 (0, 0))) (fun t _ => n - (intOf t).toNat)
 case atStart =>
  refine ⟨0, [], Nat.zero_le _, rfl, (Below.refl _ _).alloc (Nat.le_refl _) _, by simp, rfl, by simp, fun W hW s hs => by simp at hs, ?_⟩
  rw [List.nil_append, Nat.sub_zero]
  exact heap_alloc_new w _
 case round =>
  obtain ⟨k, S, hk, rfl, hb, hsz, hS, hP, hK, hg⟩ := hrel
  have B1 := hdn hb
  have K1 := hdn hK
  have G1 := hdn hg
  have P1 := hdn hP
  have HSk : Hid (S.length = k) := hS
  clear hb hK hg hS hP
  by_cases hlt : k < n
  · have hkn : (k : Int) < n := by omega
    have hkX : k < X.length := by rw [HN.out]; exact hlt
    obtain ⟨b, off, e, c0, c1, c2, c3, c4⟩ := (HA.out.below B1.out).at hkX
    have hmem : X[k] ∈ X := List.getElem_mem hkX
    have HE := hdn (HOK.out _ hmem)
    have HEA := hdn ((HA.out.below B1.out).2 _ hmem)
    have HTK : Hid ((X.take (k + 1)).map TN.plain = (X.take k).map TN.plain ++ [X[k].plain]) := by
     show _ = _
     rw [List.take_succ_eq_append_getElem hkX, List.map_append]
     rfl
    subst e
    generalize X[k] = x at *
    have CE := toTenant_any x wr HE.out HEA.out
    have HPX : Hid (x.plain = x.plain) := rfl
    generalize hpx : TN.plain x = px at HTK CE
    clear hpx HPX
    obtain ⟨nm, nx, tS, tV, pub, sa, va, sc, vc⟩ := x
    simp only at c0 c1 c2 c3 c4 CE
    clear HE HEA hmem
    generalize txt nm = nb at *
    generalize tS.length = nS at *
    generalize tV.length = nV at *
    go_wp2_with fail
    clear c0 c1 c2 c3 c4
    refine CE.mono ?_
    rintro e w2 ⟨x', rfl, ⟨hpe, hrm⟩, hb2, hk2⟩
    have B2 := hdn (B1.out.trans (hb2.mono B1.out.size))
    have K2 := hdn ((K1.out.below hb2).and (hk2.base (b0 := w.heap.size + 1) (by omega)))
    have G2 := hdn (below_row hb2 (row_lt G1.out) G1.out)
    have hsz2 : w.heap.size < w2.heap.size := by have := hb2.size; omega
    have P2 := P1.out
    have PE := hdn hpe
    have HRM3 : Hid (∀ s ∈ S ++ [x'], TN.room s) := fun s hs => by
     rcases List.mem_append.1 hs with hs | hs
     · exact P2.2 s hs
     · rw [List.mem_singleton.1 hs]; exact hrm
    clear hb2 hk2 B1 K1 G1 P1 CE hpe
    have y0 : w2.cell? ⟨w.heap.size, k * 5, none⟩ = some (.string ⟨#[]⟩) := by rw [cell_of_row _ _ _ _ _ _ G2.out]; simpa using rowX_at tn_len (S ++ List.replicate (n - k) tn0) k 0 (by simp [HSk.out]; omega) (.string ⟨#[]⟩) (by rw [List.getElem_append_right (by rw [HSk.out]; exact Nat.le_refl _), List.getElem_replicate]; rfl)
    have y1 : w2.cell? ⟨w.heap.size, k * 5 + 1, none⟩ = some (.int .i64 0) := by rw [cell_of_row _ _ _ _ _ _ G2.out]; simpa using rowX_at tn_len (S ++ List.replicate (n - k) tn0) k 1 (by simp [HSk.out]; omega) (.int .i64 0) (by rw [List.getElem_append_right (by rw [HSk.out]; exact Nat.le_refl _), List.getElem_replicate]; rfl)
    have y2 : w2.cell? ⟨w.heap.size, k * 5 + 2, none⟩ = some (.slice none 0 0) := by rw [cell_of_row _ _ _ _ _ _ G2.out]; simpa using rowX_at tn_len (S ++ List.replicate (n - k) tn0) k 2 (by simp [HSk.out]; omega) (.slice none 0 0) (by rw [List.getElem_append_right (by rw [HSk.out]; exact Nat.le_refl _), List.getElem_replicate]; rfl)
    have y3 : w2.cell? ⟨w.heap.size, k * 5 + 3, none⟩ = some (.slice none 0 0) := by rw [cell_of_row _ _ _ _ _ _ G2.out]; simpa using rowX_at tn_len (S ++ List.replicate (n - k) tn0) k 3 (by simp [HSk.out]; omega) (.slice none 0 0) (by rw [List.getElem_append_right (by rw [HSk.out]; exact Nat.le_refl _), List.getElem_replicate]; rfl)
    have y4 : w2.cell? ⟨w.heap.size, k * 5 + 4, none⟩ = some (.int .i64 0) := by rw [cell_of_row _ _ _ _ _ _ G2.out]; simpa using rowX_at tn_len (S ++ List.replicate (n - k) tn0) k 4 (by simp [HSk.out]; omega) (.int .i64 0) (by rw [List.getElem_append_right (by rw [HSk.out]; exact Nat.le_refl _), List.getElem_replicate]; rfl)
    have ff := fun i => frozen_of_row _ _ i _ _ G2.out
    have G3 := hdn (putX_thing (x := x') tn_len (S := S) (z := tn0) (Z := List.replicate (n - (k + 1)) tn0) (by have := G2.out; rw [show n - k = (n - (k + 1)) + 1 by omega, List.replicate_succ] at this; exact this) HSk.out)
    have B3 := hdn (putX_below (tnCells x') (k * 5) w2 B2.out (Nat.le_refl _))
    have K3 := hdn (putX_keep (tnCells x') (k * 5) w2 K2.out (Nat.lt_succ_self _))
    have P3 : Hid ((S ++ [x']).map TN.plain = (X.take (k + 1)).map TN.plain) := by
     show _ = _
     rw [HTK.out, List.map_append, P2.1, List.map_cons, List.map_nil, PE.out]
    have S3 : Hid ((S ++ [x']).length = k + 1) := by show _ = _; rw [List.length_append, HSk.out]; rfl
    have K4 : Hid (KA (w.heap.size + 1) (putX w.heap.size (tnCells x') (k * 5) w2) (fun W => ∀ s ∈ S ++ [x'], TNAt W s)) := K3.out.mono fun W h s hs => by
     rcases List.mem_append.1 hs with hs | hs
     · exact h.1 s hs
     · rw [List.mem_singleton.1 hs]; exact h.2
    have Z3 := hdn (row_lt G3.out)
    have hdef : ∀ Q : World -> Prop, Q (putX w.heap.size (tnCells x') (k * 5) w2) -> Q ((((((w2.setCell ⟨w.heap.size, k * 5, none⟩ (.string (txt x'.nm))).setCell ⟨w.heap.size, k * 5 + 1, none⟩ (.int .i64 x'.nx)).setCell ⟨w.heap.size, k * 5 + 2, none⟩ (.slice x'.sa x'.S.length x'.sc)).setCell ⟨w.heap.size, k * 5 + 3, none⟩ (.slice x'.va x'.V.length x'.vc)).setCell ⟨w.heap.size, k * 5 + 4, none⟩ (.int .i64 x'.pub))) := fun Q h => h
    clear B2 K2 G2 K3 P2
    go_wp2_with fail
    clear y0 y1 y2 y3 y4 ff
    have HB := hdn (hdef (Below w.heap.size w) B3.out)
    have HZ := hdn (hdef (fun W => w.heap.size < W.heap.size) Z3.out)
    have HK := hdn (hdef (fun W => KA (w.heap.size + 1) W (fun W => ∀ s ∈ S ++ [x'], TNAt W s)) K4.out)
    have HG := hdn (hdef (fun W => W.heap[w.heap.size]? = some (.cells (rowX tnCells ((S ++ [x']) ++ List.replicate (n - (k + 1)) tn0)).toArray 36 (0, 0))) G3.out)
    exact ⟨⟨k + 1, S ++ [x'], by omega, by first | rfl | go_num, HB.out, HZ.out, S3.out, ⟨P3.out, HRM3.out⟩, HK.out, HG.out⟩, by simp [intOf]; omega⟩
  · have hkn : k = n := by omega
    subst hkn
    have HT : Hid (X.take k = X) := by show _ = _; rw [<- HN.out, List.take_length]
    rw [HT.out] at P1
    rw [Nat.sub_self, List.replicate_zero, List.append_nil] at G1
    go_wp2
    go_ret
    exact ⟨S, rfl, P1.out, B1.out, ((KA.row G1.out (Nat.le_refl _)).and (K1.out.base (Nat.le_succ _))).mono fun W h => ⟨RowAt.of_row tn_len h.1, h.2⟩⟩
set_option maxHeartbeats 2000000 in
theorem toStore_any (a : Option Addr) (c : Nat) (X : List TN) (w : World) (hA : TensAt w a X) (hn : X.length <= 1048576) (hok : ∀ x ∈ X, TNOk 1048576 x) :
 Calls Tryz.prog 10 #[.agg #[.slice a X.length c]] w fun e w' => ∃ (g : Nat) (S : List TN), e = .returned (.agg #[.slice (some ⟨g, 0, none⟩) X.length X.length]) /\ (S.map TN.plain = X.map TN.plain /\ ∀ s ∈ S, TN.room s) /\ Below w.heap.size w w' /\ KA w.heap.size w' (fun W => TensAt W (some ⟨g, 0, none⟩) S) := by
 have HA := hdn hA
 have CS : Hid (∀ W, TensAt W a X -> Calls Tryz.prog 31 #[.slice a X.length c] W _) := fun W h => toTenantS_any a c X W h hn hok
 clear hA hok
 obtain ⟨n, HN⟩ := nmd X.length
 rw [HN.out] at CS ⊢
 have T0 := hdn (TB.new 24 29 w #[.slice a n c] #[.slice none 0 0] #[.slice none 0 0])
 have cell1 : ∀ {w : World} {g : Nat} {T : TypeId} {v : Value}, w.heap[g]? = some (.cells #[v] T (0, 0)) -> w.cell? ⟨g, 0, none⟩ = some v := fun h => by rw [cell_of_row _ _ _ _ _ _ h]; rfl
 go_enter Tryz.func10, Tryz.ntmps10
 have c0 := cell1 T0.out.s
 go_wp2_with fail
 clear c0
 generalize (((w.alloc (.cells #[.slice a n c] 24)).alloc (.cells #[.slice none 0 0] 29)).alloc (.cells #[.slice none 0 0] 29)) = W0 at *
 have hW0 := row_lt T0.out.o
 refine (CS.out W0 (HA.out.below T0.out.b)).mono ?_
 rintro e w1 ⟨S, rfl, hp, hb, hk⟩
 have T2 := hdn (T0.out.below hb)
 have K2 := hdn (hk.base (b0 := w.heap.size + 3) (by omega))
 have PS := hdn hp
 generalize W0.heap.size = g1 at *
 clear hb hk hp T0 CS hW0 HA
 have x0 := cell1 T2.out.o
 have z0 := cell1 T2.out.z
 have f0 := fun i => frozen_of_row _ _ i _ _ T2.out.o
 have f1 := fun i => frozen_of_row _ _ i _ _ T2.out.z
 clear cell1
 go_wp2
 refine bodyPost_ret (v := .agg #[.slice (some ⟨g1, 0, none⟩) n n]) (by simp [results, Tryz.results10, go_sem, z0]) rfl ⟨g1, S, rfl, PS.out, ?_, ?_⟩
 · repeat (first | with_reducible exact T2.out.b | refine Below.setCell ?_ (by simp <;> omega) _)
 · refine KA.base (b0 := w.heap.size) (base := w.heap.size + 3) ?_ (by omega)
   repeat (first | with_reducible exact K2.out | refine KA.set ?_ (by omega))
theorem map_at {α β : Type} {f : α -> β} {S X : List α} (h : S.map f = X.map f) {j : Nat} (hj : j < X.length) (hs : j < S.length) : f S[j] = f X[j] := by
 have e : (S.map f)[j]? = (X.map f)[j]? := by rw [h]
 rw [List.getElem?_map, List.getElem?_map, List.getElem?_eq_getElem hs, List.getElem?_eq_getElem hj] at e
 simpa using e
theorem map_len {α β : Type} {f : α -> β} {S X : List α} (h : S.map f = X.map f) : S.length = X.length := by
 have := congrArg List.length h
 simpa using this
theorem RT.key_plain {R S : List RT} (h : S.map RT.plain = R.map RT.plain) : S.map RT.key = R.map RT.key := by
 have e : ∀ T : List RT, T.map RT.key = (T.map RT.plain).map RT.key := fun T => by rw [List.map_map]; rfl
 rw [e S, e R, h]
theorem SN.plain_c {s t : SN} (h : s.plain = t.plain) : s.id = t.id /\ s.c = t.c := by
 unfold SN.plain at h
 simp only [SN.mk.injEq] at h
 exact ⟨h.1, h.2.1⟩
theorem VN.plain_c {s t : VN} (h : s.plain = t.plain) : s.id = t.id /\ s.sn = t.sn /\ s.R.map RT.plain = t.R.map RT.plain /\ s.L = t.L := by
 unfold VN.plain at h
 simp only [VN.mk.injEq] at h
 exact ⟨h.1, h.2.1, h.2.2.1, h.2.2.2.1⟩
theorem TN.plain_c {s t : TN} (h : s.plain = t.plain) : s.nm = t.nm /\ s.nx = t.nx /\ s.S.map SN.plain = t.S.map SN.plain /\ s.V.map VN.plain = t.V.map VN.plain /\ s.pub = t.pub := by
 unfold TN.plain at h
 simp only [TN.mk.injEq] at h
 exact ⟨h.1, h.2.1, h.2.2.1, h.2.2.2.1, h.2.2.2.2.1⟩
theorem SNOk.plain {m : Nat} {s t : SN} (h : SNOk m t) (e : s.plain = t.plain) : SNOk m s := by
 have := (SN.plain_c e).2
 exact ⟨by rw [this]; exact h.o, by rw [this]; exact h.v, by rw [this]; exact h.zm, by rw [this]; exact h.om, by rw [this]; exact h.vm⟩
theorem VNOk.plain {m : Nat} {s t : VN} (h : VNOk m t) (e : s.plain = t.plain) : VNOk m s := by
 obtain ⟨-, -, e3, e4⟩ := VN.plain_c e
 refine ⟨by rw [map_len e3]; exact h.n, key_ids (RT.key_plain e3) h.i, by rw [e4]; exact h.l, by rw [e4]; exact h.w⟩
theorem mem_plain {α : Type} {f : α -> α} {S X : List α} (h : S.map f = X.map f) {s : α} (hs : s ∈ S) : ∃ x ∈ X, f s = f x := by
 have : f s ∈ S.map f := List.mem_map_of_mem hs
 rw [h] at this
 obtain ⟨x, hx, e⟩ := List.mem_map.1 this
 exact ⟨x, hx, e.symm⟩
theorem TNOk.plain {m : Nat} {s t : TN} (h : TNOk m t) (e : s.plain = t.plain) : TNOk m s := by
 obtain ⟨e1, -, e3, e4, -⟩ := TN.plain_c e
 refine ⟨by rw [e1]; exact h.n, by rw [map_len e3]; exact h.s, by rw [map_len e4]; exact h.v, fun x hx => ?_, fun x hx => ?_⟩
 · obtain ⟨y, hy, e⟩ := mem_plain e3 hx
   exact (h.os y hy).plain e
 · obtain ⟨y, hy, e⟩ := mem_plain e4 hx
   exact (h.ov y hy).plain e
theorem two_boxes (w : World) (c d : Array Value) (T : TypeId) : Below w.heap.size w ((w.alloc (.cells c T)).alloc (.cells d T)) /\ ((w.alloc (.cells c T)).alloc (.cells d T)).heap[w.heap.size]? = some (.cells c T (0, 0)) /\ ((w.alloc (.cells c T)).alloc (.cells d T)).heap[w.heap.size + 1]? = some (.cells d T (0, 0)) := ⟨((Below.refl _ _).alloc (Nat.le_refl _) _).alloc (by simp) _, heap_alloc2_old _ _ _, heap_alloc2_new _ _ _⟩
set_option maxHeartbeats 1000000 in
theorem eqSnapshot_same (x y : SN) (w : World) (hA : SNAt w x) (hB : SNAt w y) (hp : y.plain = x.plain) (ho : SNOk 1048576 x) :
 Calls Tryz.prog 91 #[.agg #[.int .i64 x.id, .int .i64 x.c.n, .slice x.za x.c.zs.length x.zc, .slice x.oa x.c.ko x.oc, .slice x.va x.c.kv x.vc, .int .i64 x.c.f], .agg #[.int .i64 y.id, .int .i64 y.c.n, .slice y.za y.c.zs.length y.zc, .slice y.oa y.c.ko y.oc, .slice y.va y.c.kv y.vc, .int .i64 y.c.f]] w fun e w' => e = .returned (.bool true) /\ Below w.heap.size w w' := by
 obtain ⟨id, ⟨cn, cf, zs, os, vs, ko, kv⟩, za, oa, va, zc, oc, vc⟩ := x
 obtain ⟨id', c', za', oa', va', zc', oc', vc'⟩ := y
 obtain ⟨e1, e2⟩ := SN.plain_c hp
 simp only at e1 e2
 subst e1 e2
 have HA := hdn hA
 have HB := hdn hB
 have CC : Hid (∀ W, Below w.heap.size w W -> Calls Tryz.prog 138 #[.agg #[.int .i64 cn, .slice za zs.length zc, .slice oa ko oc, .slice va kv vc, .int .i64 cf], .agg #[.int .i64 cn, .slice za' zs.length zc', .slice oa' ko oc', .slice va' kv vc', .int .i64 cf]] W fun e w' => e = .returned (.bool true) /\ Below W.heap.size W w') := fun W hb => by
  have h1 := hA.below hb
  have h2 := hB.below hb
  exact eqCase_same cn cf za oa va za' oa' va' zc ko oc kv vc zc' oc' vc' zs os vs W h1.z h1.o h1.v h2.z h2.o h2.v ho.o ho.v (by have := ho.zm; simp only at this; omega) (by have := ho.om; simp only at this; omega) (by have := ho.vm; simp only at this; omega)
 simp only
 generalize zs.length = nz at *
 clear hA hB hp ho HA HB
 obtain ⟨t1, t2, t3⟩ := two_boxes w #[.int .i64 id', .int .i64 cn, .slice za nz zc, .slice oa ko oc, .slice va kv vc, .int .i64 cf] #[.int .i64 id', .int .i64 cn, .slice za' nz zc', .slice oa' ko oc', .slice va' kv vc', .int .i64 cf] 86
 have B0 := hdn t1
 obtain ⟨c0, c1, c2, c3, c4, c5⟩ := cells6v t2
 obtain ⟨d0, d1, d2, d3, d4, d5⟩ := cells6v t3
 clear t1 t2 t3
 have hne : (id' != id') = false := by simp
 go_enter Tryz.func91, Tryz.ntmps91
 go_wp2_with fail
 clear c0 c1 c2 c3 c4 c5 d0 d1 d2 d3 d4 d5
 refine (CC.out _ B0.out).mono ?_
 rintro e w1 ⟨rfl, hb⟩
 have B1 := hdn (B0.out.trans (hb.mono B0.out.size))
 clear hb CC
 go_wp2
 go_ret
 exact ⟨rfl, B1.out⟩
set_option maxHeartbeats 1000000 in
theorem eqVersion_same (x y : VN) (w : World) (hA : VNAt w x) (hB : VNAt w y) (hp : y.plain = x.plain) (ho : VNOk 1048576 x) :
 Calls Tryz.prog 92 #[.agg #[.int .i64 x.id, .int .i64 x.sn, .slice x.ra x.R.length x.rc, .slice x.la x.L.length x.lc], .agg #[.int .i64 y.id, .int .i64 y.sn, .slice y.ra y.R.length y.rc, .slice y.la y.L.length y.lc]] w fun e w' => e = .returned (.bool true) /\ Below w.heap.size w w' := by
 obtain ⟨id, sn, R, L, ra, la, rc, lc⟩ := x
 obtain ⟨id', sn', R', L', ra', la', rc', lc'⟩ := y
 obtain ⟨e1, e2, e3, e4⟩ := VN.plain_c hp
 simp only at e1 e2 e3 e4
 subst e1 e2 e4
 have CC : Hid (∀ W, Below w.heap.size w W -> Calls Tryz.prog 21 #[.agg #[.slice ra R.length rc, .slice la L'.length lc], .agg #[.slice ra' R.length rc', .slice la' L'.length lc']] W fun e w' => e = .returned (.bool true) /\ Below W.heap.size W w') := fun W hb => by
  have h1 := hA.below hb
  have h2 := hB.below hb
  exact eqPlan_same ra ra' la la' rc rc' R.length lc lc' R R' L' W h1.r h2.r (RT.key_plain e3) rfl ho.n ho.i h1.l h2.l ho.l
 simp only
 rw [map_len e3]
 generalize R.length = nr at *
 generalize L'.length = nl at *
 clear hA hB hp ho e3
 obtain ⟨t1, t2, t3⟩ := two_boxes w #[.int .i64 id', .int .i64 sn', .slice ra nr rc, .slice la nl lc] #[.int .i64 id', .int .i64 sn', .slice ra' nr rc', .slice la' nl lc'] 70
 have B0 := hdn t1
 obtain ⟨c0, c1, c2, c3⟩ := cells4v t2
 obtain ⟨d0, d1, d2, d3⟩ := cells4v t3
 clear t1 t2 t3
 have hne : (id' != id') = false := by simp
 have hns : (sn' != sn') = false := by simp
 go_enter Tryz.func92, Tryz.ntmps92
 go_wp2_with fail
 clear c0 c1 c2 c3 d0 d1 d2 d3
 refine (CC.out _ B0.out).mono ?_
 rintro e w1 ⟨rfl, hb⟩
 have B1 := hdn (B0.out.trans (hb.mono B0.out.size))
 clear hb CC
 go_wp2
 go_ret
 exact ⟨rfl, B1.out⟩
set_option maxHeartbeats 2000000 in
theorem eqSnapshotS_same (a a' : Option Addr) (c c' : Nat) (X Y : List SN) (w : World) (hA : SnapsAt w a X) (hB : SnapsAt w a' Y) (hk : Y.map SN.plain = X.map SN.plain) (hn : X.length <= 1048576) (hok : ∀ x ∈ X, SNOk 1048576 x) :
 Calls Tryz.prog 37 #[.slice a X.length c, .slice a' X.length c'] w fun e w' => e = .returned (.bool true) /\ Below w.heap.size w w' := by
 have HA := hdn hA
 have HB := hdn hB
 have HK := hdn hk
 have HOK := hdn hok
 obtain ⟨n, HN⟩ := nmd X.length
 have HY : Hid (Y.length = n) := (map_len hk).trans HN.out
 rw [HN.out] at hn ⊢
 clear hA hB hk hok
 go_enter Tryz.func37, Tryz.ntmps37
 go_wp2_with fail
 go_loopw [5] (fun ti wr => ∃ i : Nat, i <= n /\ ti = .int .i64 i /\ Below w.heap.size w wr) (fun ti _ => n - (intOf ti).toNat)
 case atStart => exact ⟨0, Nat.zero_le _, rfl, Below.refl _ _⟩
 case round =>
  obtain ⟨i, hi, rfl, hb⟩ := hrel
  have B1 := hdn hb
  clear hb
  by_cases hlt : i < n
  · have hiX : i < X.length := by rw [HN.out]; exact hlt
    have hiY : i < Y.length := by rw [HY.out]; exact hlt
    obtain ⟨b1, o1, e1, c0, c1, c2, c3, c4, c5⟩ := (HA.out.below B1.out).at hiX
    obtain ⟨b2, o2, e2, d0, d1, d2, d3, d4, d5⟩ := (HB.out.below B1.out).at hiY
    have hpl := map_at HK.out hiX hiY
    have hAx := (HA.out.below B1.out).2 _ (List.getElem_mem hiX)
    have hBy := (HB.out.below B1.out).2 _ (List.getElem_mem hiY)
    have hox := HOK.out _ (List.getElem_mem hiX)
    subst e1 e2
    generalize X[i] = x at *
    generalize Y[i] = y at *
    have ER : Hid (∀ W, Below wr.heap.size wr W -> Calls Tryz.prog 91 #[_, _] W fun e w' => e = .returned (.bool true) /\ Below W.heap.size W w') := fun W hb => eqSnapshot_same x y W (hAx.below hb) (hBy.below hb) hpl hox
    have hpc := SN.plain_c hpl
    clear hpl hAx hBy hox
    obtain ⟨id, ⟨cn, cf, zs, os, vs, ko, kv⟩, za, oa, va, zc, oc, vc⟩ := x
    obtain ⟨id', c', za', oa', va', zc', oc', vc'⟩ := y
    simp only at ER hpc c0 c1 c2 c3 c4 c5 d0 d1 d2 d3 d4 d5
    obtain ⟨rfl, rfl⟩ := hpc
    have hin : (i : Int) < n := by omega
    have z0 := fun s : Kin wr => s.cell c0
    have z1 := fun s : Kin wr => s.cell c1
    have z2 := fun s : Kin wr => s.cell c2
    have z3 := fun s : Kin wr => s.cell c3
    have z4 := fun s : Kin wr => s.cell c4
    have z5 := fun s : Kin wr => s.cell c5
    have z6 := fun s : Kin wr => s.cell d0
    have z7 := fun s : Kin wr => s.cell d1
    have z8 := fun s : Kin wr => s.cell d2
    have z9 := fun s : Kin wr => s.cell d3
    have z10 := fun s : Kin wr => s.cell d4
    have z11 := fun s : Kin wr => s.cell d5
    have hkin := Kin.there wr
    generalize zs.length = nz at *
    go_wp2_with fail
    refine wp_region_kin (by kernel_rfl) (by kernel_rfl) ?_
    repeat (go_big_quiet_step ((go_at_call 91; with_reducible exact Kin.call (ER.out _ (Kin.below _)))))
    refine wpQuiet_nil ?_
    rintro _ ⟨s1, rfl⟩
    clear z0 z1 z2 z3 z4 z5 z6 z7 z8 z9 z10 z11 hkin
    go_wp2
    go_roundw
    case rel => exact ⟨i + 1, by omega, by first | rfl | go_num, B1.out.trans (s1.below.mono B1.out.size)⟩
    case measure => simp [intOf]; omega
  · have hin : ¬ ((i : Int) < n) := by omega
    go_wp2
    go_ret
    exact ⟨rfl, B1.out⟩
set_option maxHeartbeats 2000000 in
theorem eqVersionS_same (a a' : Option Addr) (c c' : Nat) (X Y : List VN) (w : World) (hA : VersAt w a X) (hB : VersAt w a' Y) (hk : Y.map VN.plain = X.map VN.plain) (hn : X.length <= 1048576) (hok : ∀ x ∈ X, VNOk 1048576 x) :
 Calls Tryz.prog 38 #[.slice a X.length c, .slice a' X.length c'] w fun e w' => e = .returned (.bool true) /\ Below w.heap.size w w' := by
 have HA := hdn hA
 have HB := hdn hB
 have HK := hdn hk
 have HOK := hdn hok
 obtain ⟨n, HN⟩ := nmd X.length
 have HY : Hid (Y.length = n) := (map_len hk).trans HN.out
 rw [HN.out] at hn ⊢
 clear hA hB hk hok
 go_enter Tryz.func38, Tryz.ntmps38
 go_wp2_with fail
 go_loopw [5] (fun ti wr => ∃ i : Nat, i <= n /\ ti = .int .i64 i /\ Below w.heap.size w wr) (fun ti _ => n - (intOf ti).toNat)
 case atStart => exact ⟨0, Nat.zero_le _, rfl, Below.refl _ _⟩
 case round =>
  obtain ⟨i, hi, rfl, hb⟩ := hrel
  have B1 := hdn hb
  clear hb
  by_cases hlt : i < n
  · have hiX : i < X.length := by rw [HN.out]; exact hlt
    have hiY : i < Y.length := by rw [HY.out]; exact hlt
    obtain ⟨b1, o1, e1, c0, c1, c2, c3⟩ := (HA.out.below B1.out).at hiX
    obtain ⟨b2, o2, e2, d0, d1, d2, d3⟩ := (HB.out.below B1.out).at hiY
    have hpl := map_at HK.out hiX hiY
    have hAx := (HA.out.below B1.out).2 _ (List.getElem_mem hiX)
    have hBy := (HB.out.below B1.out).2 _ (List.getElem_mem hiY)
    have hox := HOK.out _ (List.getElem_mem hiX)
    subst e1 e2
    generalize X[i] = x at *
    generalize Y[i] = y at *
    have ER : Hid (∀ W, Below wr.heap.size wr W -> Calls Tryz.prog 92 #[_, _] W fun e w' => e = .returned (.bool true) /\ Below W.heap.size W w') := fun W hb => eqVersion_same x y W (hAx.below hb) (hBy.below hb) hpl hox
    have hpc := VN.plain_c hpl
    clear hpl hAx hBy hox
    obtain ⟨id, sn, R, L, ra, la, rc, lc⟩ := x
    obtain ⟨id', sn', R', L', ra', la', rc', lc'⟩ := y
    simp only at ER hpc c0 c1 c2 c3 d0 d1 d2 d3
    clear hpc
    have hin : (i : Int) < n := by omega
    have z0 := fun s : Kin wr => s.cell c0
    have z1 := fun s : Kin wr => s.cell c1
    have z2 := fun s : Kin wr => s.cell c2
    have z3 := fun s : Kin wr => s.cell c3
    have z4 := fun s : Kin wr => s.cell d0
    have z5 := fun s : Kin wr => s.cell d1
    have z6 := fun s : Kin wr => s.cell d2
    have z7 := fun s : Kin wr => s.cell d3
    have hkin := Kin.there wr
    generalize R.length = nr at *
    generalize R'.length = nr' at *
    generalize L.length = nl at *
    generalize L'.length = nl' at *
    go_wp2_with fail
    refine wp_region_kin (by kernel_rfl) (by kernel_rfl) ?_
    repeat (go_big_quiet_step ((go_at_call 92; with_reducible exact Kin.call (ER.out _ (Kin.below _)))))
    refine wpQuiet_nil ?_
    rintro _ ⟨s1, rfl⟩
    clear z0 z1 z2 z3 z4 z5 z6 z7 hkin
    go_wp2
    go_roundw
    case rel => exact ⟨i + 1, by omega, by first | rfl | go_num, B1.out.trans (s1.below.mono B1.out.size)⟩
    case measure => simp [intOf]; omega
  · have hin : ¬ ((i : Int) < n) := by omega
    go_wp2
    go_ret
    exact ⟨rfl, B1.out⟩
set_option maxHeartbeats 1000000 in
theorem eqTenant_same (x y : TN) (w : World) (hA : TNAt w x) (hB : TNAt w y) (hp : y.plain = x.plain) (ho : TNOk 1048576 x) :
 Calls Tryz.prog 15 #[.agg #[.string (txt x.nm), .int .i64 x.nx, .slice x.sa x.S.length x.sc, .slice x.va x.V.length x.vc, .int .i64 x.pub], .agg #[.string (txt y.nm), .int .i64 y.nx, .slice y.sa y.S.length y.sc, .slice y.va y.V.length y.vc, .int .i64 y.pub]] w fun e w' => e = .returned (.bool true) /\ Below w.heap.size w w' := by
 obtain ⟨nm, nx, S, V, pub, sa, va, sc, vc⟩ := x
 obtain ⟨nm', nx', S', V', pub', sa', va', sc', vc'⟩ := y
 obtain ⟨e1, e2, e3, e4, e5⟩ := TN.plain_c hp
 simp only at e1 e2 e3 e4 e5
 subst e1 e2 e5
 have CS : Hid (∀ W, Below w.heap.size w W -> Calls Tryz.prog 37 #[.slice sa S.length sc, .slice sa' S.length sc'] W fun e w' => e = .returned (.bool true) /\ Below W.heap.size W w') := fun W hb => eqSnapshotS_same sa sa' sc sc' S S' W (hA.s.below hb) (hB.s.below hb) e3 ho.s ho.os
 have CV : Hid (∀ W, Below w.heap.size w W -> Calls Tryz.prog 38 #[.slice va V.length vc, .slice va' V.length vc'] W fun e w' => e = .returned (.bool true) /\ Below W.heap.size W w') := fun W hb => eqVersionS_same va va' vc vc' V V' W (hA.v.below hb) (hB.v.below hb) e4 ho.v ho.ov
 simp only
 rw [map_len e3, map_len e4]
 generalize S.length = nS at *
 generalize V.length = nV at *
 generalize txt nm' = nb at *
 clear hA hB hp ho e3 e4
 obtain ⟨t1, t2, t3⟩ := two_boxes w #[.string nb, .int .i64 nx', .slice sa nS sc, .slice va nV vc, .int .i64 pub'] #[.string nb, .int .i64 nx', .slice sa' nS sc', .slice va' nV vc', .int .i64 pub'] 36
 have B0 := hdn t1
 have X0 := hdn t2
 have Y0 := hdn t3
 clear t1 t2 t3
 obtain ⟨c0, c1, c2, c3, c4⟩ := cells5 X0.out
 obtain ⟨d0, d1, d2, d3, d4⟩ := cells5 Y0.out
 have hne : (nx' != nx') = false := by simp
 have hnp : (pub' != pub') = false := by simp
 have hnn : (nb.toList == nb.toList) = true := str_eq rfl
 go_enter Tryz.func15, Tryz.ntmps15
 go_wp2_with fail
 clear c0 c1 c2 c3 c4 d0 d1 d2 d3 d4
 refine (CS.out _ B0.out).mono ?_
 rintro e w1 ⟨rfl, hb⟩
 have B1 := hdn (B0.out.trans (hb.mono B0.out.size))
 have X1 := hdn (below_row hb (row_lt X0.out) X0.out)
 have Y1 := hdn (below_row hb (row_lt Y0.out) Y0.out)
 clear hb CS X0 Y0 B0
 obtain ⟨c0, c1, c2, c3, c4⟩ := cells5 X1.out
 obtain ⟨d0, d1, d2, d3, d4⟩ := cells5 Y1.out
 go_wp2_with fail
 clear c0 c1 c2 c3 c4 d0 d1 d2 d3 d4
 refine (CV.out _ B1.out).mono ?_
 rintro e w2 ⟨rfl, hb⟩
 have B2 := hdn (B1.out.trans (hb.mono B1.out.size))
 have X2 := hdn (below_row hb (row_lt X1.out) X1.out)
 have Y2 := hdn (below_row hb (row_lt Y1.out) Y1.out)
 clear hb CV X1 Y1 B1
 obtain ⟨c0, c1, c2, c3, c4⟩ := cells5 X2.out
 obtain ⟨d0, d1, d2, d3, d4⟩ := cells5 Y2.out
 go_wp2
 go_ret
 exact ⟨rfl, B2.out⟩
set_option maxHeartbeats 2000000 in
theorem eqTenantS_same (a a' : Option Addr) (c c' : Nat) (X Y : List TN) (w : World) (hA : TensAt w a X) (hB : TensAt w a' Y) (hk : Y.map TN.plain = X.map TN.plain) (hn : X.length <= 1048576) (hok : ∀ x ∈ X, TNOk 1048576 x) :
 Calls Tryz.prog 33 #[.slice a X.length c, .slice a' X.length c'] w fun e w' => e = .returned (.bool true) /\ Below w.heap.size w w' := by
 have HA := hdn hA
 have HB := hdn hB
 have HK := hdn hk
 have HOK := hdn hok
 obtain ⟨n, HN⟩ := nmd X.length
 have HY : Hid (Y.length = n) := (map_len hk).trans HN.out
 rw [HN.out] at hn ⊢
 clear hA hB hk hok
 go_enter Tryz.func33, Tryz.ntmps33
 go_wp2_with fail
 go_loopw [5] (fun ti wr => ∃ i : Nat, i <= n /\ ti = .int .i64 i /\ Below w.heap.size w wr) (fun ti _ => n - (intOf ti).toNat)
 case atStart => exact ⟨0, Nat.zero_le _, rfl, Below.refl _ _⟩
 case round =>
  obtain ⟨i, hi, rfl, hb⟩ := hrel
  have B1 := hdn hb
  clear hb
  by_cases hlt : i < n
  · have hiX : i < X.length := by rw [HN.out]; exact hlt
    have hiY : i < Y.length := by rw [HY.out]; exact hlt
    obtain ⟨b1, o1, e1, c0, c1, c2, c3, c4⟩ := (HA.out.below B1.out).at hiX
    obtain ⟨b2, o2, e2, d0, d1, d2, d3, d4⟩ := (HB.out.below B1.out).at hiY
    have hpl := map_at HK.out hiX hiY
    have hAx := (HA.out.below B1.out).2 _ (List.getElem_mem hiX)
    have hBy := (HB.out.below B1.out).2 _ (List.getElem_mem hiY)
    have hox := HOK.out _ (List.getElem_mem hiX)
    subst e1 e2
    generalize X[i] = x at *
    generalize Y[i] = y at *
    have ER : Hid (∀ W, Below wr.heap.size wr W -> Calls Tryz.prog 15 #[_, _] W fun e w' => e = .returned (.bool true) /\ Below W.heap.size W w') := fun W hb => eqTenant_same x y W (hAx.below hb) (hBy.below hb) hpl hox
    have hpc := TN.plain_c hpl
    clear hpl hAx hBy hox
    obtain ⟨nm, nx, S, V, pub, sa, va, sc, vc⟩ := x
    obtain ⟨nm', nx', S', V', pub', sa', va', sc', vc'⟩ := y
    simp only at ER hpc c0 c1 c2 c3 c4 d0 d1 d2 d3 d4
    clear hpc
    have hin : (i : Int) < n := by omega
    have z0 := fun s : Kin wr => s.cell c0
    have z1 := fun s : Kin wr => s.cell c1
    have z2 := fun s : Kin wr => s.cell c2
    have z3 := fun s : Kin wr => s.cell c3
    have z4 := fun s : Kin wr => s.cell c4
    have z5 := fun s : Kin wr => s.cell d0
    have z6 := fun s : Kin wr => s.cell d1
    have z7 := fun s : Kin wr => s.cell d2
    have z8 := fun s : Kin wr => s.cell d3
    have z9 := fun s : Kin wr => s.cell d4
    have hkin := Kin.there wr
    generalize txt nm = nb at *
    generalize txt nm' = nb' at *
    generalize S.length = nS at *
    generalize S'.length = nS' at *
    generalize V.length = nV at *
    generalize V'.length = nV' at *
    go_wp2_with fail
    refine wp_region_kin (by kernel_rfl) (by kernel_rfl) ?_
    repeat (go_big_quiet_step ((go_at_call 15; with_reducible exact Kin.call (ER.out _ (Kin.below _)))))
    refine wpQuiet_nil ?_
    rintro _ ⟨s1, rfl⟩
    clear z0 z1 z2 z3 z4 z5 z6 z7 z8 z9 hkin
    go_wp2
    go_roundw
    case rel => exact ⟨i + 1, by omega, by first | rfl | go_num, B1.out.trans (s1.below.mono B1.out.size)⟩
    case measure => simp [intOf]; omega
  · have hin : ¬ ((i : Int) < n) := by omega
    go_wp2
    go_ret
    exact ⟨rfl, B1.out⟩
set_option maxHeartbeats 1000000 in
theorem eqStore_same (a a' : Option Addr) (c c' : Nat) (X Y : List TN) (w : World) (hA : TensAt w a X) (hB : TensAt w a' Y) (hk : Y.map TN.plain = X.map TN.plain) (hn : X.length <= 1048576) (hok : ∀ x ∈ X, TNOk 1048576 x) :
 Calls Tryz.prog 12 #[.agg #[.slice a X.length c], .agg #[.slice a' X.length c']] w fun e w' => e = .returned (.bool true) /\ Below w.heap.size w w' := by
 have CT : Hid (∀ W, Below w.heap.size w W -> Calls Tryz.prog 33 #[.slice a X.length c, .slice a' X.length c'] W fun e w' => e = .returned (.bool true) /\ Below W.heap.size W w') := fun W hb => eqTenantS_same a a' c c' X Y W (hA.below hb) (hB.below hb) hk hn hok
 generalize X.length = n at *
 clear hA hB hk hok
 obtain ⟨t1, t2, t3⟩ := two_boxes w #[.slice a n c] #[.slice a' n c'] 29
 have B0 := hdn t1
 have c0 : ((w.alloc (.cells #[.slice a n c] 29)).alloc (.cells #[.slice a' n c'] 29)).cell? ⟨w.heap.size, 0, none⟩ = some (.slice a n c) := by rw [cell_of_row _ _ _ _ _ _ t2]; rfl
 have d0 : ((w.alloc (.cells #[.slice a n c] 29)).alloc (.cells #[.slice a' n c'] 29)).cell? ⟨w.heap.size + 1, 0, none⟩ = some (.slice a' n c') := by rw [cell_of_row _ _ _ _ _ _ t3]; rfl
 clear t1 t2 t3
 go_enter Tryz.func12, Tryz.ntmps12
 go_wp2_with fail
 clear c0 d0
 refine (CT.out _ B0.out).mono ?_
 rintro e w1 ⟨rfl, hb⟩
 have B1 := hdn (B0.out.trans (hb.mono B0.out.size))
 clear hb CT
 go_wp2
 go_ret
 exact ⟨rfl, B1.out⟩
def fstF (p : UInt8) (s : List UInt8) : List UInt8 × List UInt8 := (s.takeWhile (fun c => c != p), (s.dropWhile (fun c => c != p)).drop 1)
theorem fstF_at {p : UInt8} : ∀ (s : List UInt8) (k : Nat), k <= s.length -> (∀ j, j < k -> s.getD j 0 ≠ p) -> (k = s.length ∨ s.getD k 0 = p) -> fstF p s = (s.take k, s.drop (k + 1))
 | [], k, hk, _, _ => by
   have : k = 0 := by simpa using hk
   subst this
   rfl
 | c :: s, 0, _, _, hn => by
   have hc : c = p := by
    rcases hn with hn | hn
    · simp at hn
    · exact hn
   subst hc
   simp [fstF]
 | c :: s, k + 1, hk, hd, hn => by
   have h0 : c ≠ p := hd 0 (by omega)
   have ih := fstF_at s k (by simpa using hk) (fun j hj => hd (j + 1) (by omega)) (by
    rcases hn with hn | hn
    · left; simpa using hn
    · right; exact hn)
   have hb : (c != p) = true := by simpa using h0
   unfold fstF at ih ⊢
   rw [List.takeWhile_cons, List.dropWhile_cons, if_pos hb, if_pos hb, List.take_succ_cons, List.drop_succ_cons]
   simp only [Prod.mk.injEq] at ih
   rw [ih.1, ih.2]
end Go.Proofs.YtehfjfmfpdgibaaGreatDoor
