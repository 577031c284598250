import Derived.Test.YtehfjfmfpdgibaaGreatDoorPack0
import Derived.Test.YtehfjfmfpdgibaaGreatDoorPack1
import Derived.Test.YtehfjfmfpdgibaaGreatDoorPack2
import Derived.Test.YtehfjfmfpdgibaaGreatDoorPack3
namespace Go.Proofs.YtehfjfmfpdgibaaGreatDoor
open Go.RowKit
structure CV where
 n : Int
 f : Int
 zs : List Int
 os : List Int
 vs : List Int
 ko : Nat
 kv : Nat
def CV.ok (c : CV) : Bool := caseB c.n c.zs c.os c.vs c.ko c.kv c.f
theorem caseB_four {n : Int} {zs os vs : List Int} {ko kv : Nat} {f : Int} (h : caseB n zs os vs ko kv f = true) : matB n zs = true /\ ordsB n os ko = true /\ vehsB n vs kv = true /\ inB f 0 1000000 = true := by
 unfold caseB at h
 simp only [Bool.and_eq_true] at h
 exact ⟨h.1.1.1, h.1.1.2, h.1.2, h.2⟩
structure SN where
 id : Int
 c : CV
 za : Option Addr
 oa : Option Addr
 va : Option Addr
 zc : Nat
 oc : Nat
 vc : Nat
structure VN where
 id : Int
 sn : Int
 R : List RT
 L : List Int
 ra : Option Addr
 la : Option Addr
 rc : Nat
 lc : Nat
structure TN where
 nm : List UInt8
 nx : Int
 S : List SN
 V : List VN
 pub : Int
 sa : Option Addr
 va : Option Addr
 sc : Nat
 vc : Nat
def sn0 : SN := ⟨0, ⟨0, 0, [], [], [], 0, 0⟩, none, none, none, 0, 0, 0⟩
def vn0 : VN := ⟨0, 0, [], [], none, none, 0, 0⟩
def tn0 : TN := ⟨[], 0, [], [], 0, none, none, 0, 0⟩
def snCells (s : SN) : List Value := [.int .i64 s.id, .int .i64 s.c.n, .slice s.za s.c.zs.length s.zc, .slice s.oa s.c.ko s.oc, .slice s.va s.c.kv s.vc, .int .i64 s.c.f]
def vnCells (v : VN) : List Value := [.int .i64 v.id, .int .i64 v.sn, .slice v.ra v.R.length v.rc, .slice v.la v.L.length v.lc]
def tnCells (t : TN) : List Value := [.string (txt t.nm), .int .i64 t.nx, .slice t.sa t.S.length t.sc, .slice t.va t.V.length t.vc, .int .i64 t.pub]
def RowAt {α : Type} (k : Nat) (cells : α -> List Value) (w : World) (a : Option Addr) (l : List α) : Prop := ∀ j (hj : j < l.length), ∃ b off, a = some ⟨b, off, none⟩ /\ ∀ i v, (cells l[j])[i]? = some v -> w.cell? ⟨b, off + j * k + i, none⟩ = some v
theorem RowAt.below {α : Type} {k : Nat} {cells : α -> List Value} {w w' : World} {a : Option Addr} {l : List α} (h : RowAt k cells w a l) (hb : Below w.heap.size w w') : RowAt k cells w' a l := fun j hj => by
 obtain ⟨b, off, e, hc⟩ := h j hj
 exact ⟨b, off, e, fun i v hv => (hb.cell (p := ⟨b, off + j * k + i, none⟩) (block_lt_of_cell (hc i v hv))).trans (hc i v hv)⟩
def rowX {α : Type} (cells : α -> List Value) (l : List α) : List Value := l.flatMap cells
theorem rowX_len {α : Type} {k : Nat} {cells : α -> List Value} (hk : ∀ x, (cells x).length = k) : ∀ l : List α, (rowX cells l).length = l.length * k
 | [] => by simp [rowX]
 | x :: l => by
   have := rowX_len hk l
   unfold rowX at this ⊢
   rw [List.flatMap_cons, List.length_append, this, hk, List.length_cons, Nat.succ_mul]
   omega
theorem rowX_at {α : Type} {k : Nat} {cells : α -> List Value} (hk : ∀ x, (cells x).length = k) : ∀ (l : List α) (j i : Nat) (hj : j < l.length) (v : Value), (cells l[j])[i]? = some v -> (rowX cells l)[j * k + i]? = some v
 | x :: l, 0, i, _, v, h => by
   have hi : i < k := by rw [<- hk x]; exact (List.getElem?_eq_some_iff.1 h).1
   unfold rowX
   rw [List.flatMap_cons, Nat.zero_mul, Nat.zero_add, List.getElem?_append_left (by rw [hk]; exact hi)]
   exact h
 | x :: l, j + 1, i, hj, v, h => by
   have ih := rowX_at hk l j i (by simpa using hj) v (by simpa using h)
   unfold rowX at ih ⊢
   rw [List.flatMap_cons, List.getElem?_append_right (by rw [hk, Nat.succ_mul]; omega), hk, show (j + 1) * k + i - k = j * k + i by rw [Nat.succ_mul]; omega]
   exact ih
theorem RowAt.of_row {α : Type} {k g : Nat} {cells : α -> List Value} {w : World} {T : TypeId} {l : List α} (hk : ∀ x, (cells x).length = k) (h : w.heap[g]? = some (.cells (rowX cells l).toArray T (0, 0))) : RowAt k cells w (some ⟨g, 0, none⟩) l := fun j hj => by
 refine ⟨g, 0, rfl, fun i v hv => ?_⟩
 rw [cell_of_row _ _ _ _ _ _ h, Nat.zero_add]
 simpa using rowX_at hk l j i hj v hv
theorem sn_len (s : SN) : (snCells s).length = 6 := rfl
theorem vn_len (v : VN) : (vnCells v).length = 4 := rfl
theorem tn_len (t : TN) : (tnCells t).length = 5 := rfl
structure SNAt (w : World) (s : SN) : Prop where
 z : IntsAt w s.za s.c.zs
 o : IntsAt w s.oa s.c.os
 v : IntsAt w s.va s.c.vs
structure VNAt (w : World) (v : VN) : Prop where
 r : RoutesAt w v.ra v.R
 l : IntsAt w v.la v.L
theorem SNAt.below {w w' : World} {s : SN} (h : SNAt w s) (hb : Below w.heap.size w w') : SNAt w' s := ⟨h.z.below hb, h.o.below hb, h.v.below hb⟩
theorem VNAt.below {w w' : World} {v : VN} (h : VNAt w v) (hb : Below w.heap.size w w') : VNAt w' v := ⟨h.r.below hb, h.l.below hb⟩
def SnapsAt (w : World) (a : Option Addr) (S : List SN) : Prop := RowAt 6 snCells w a S /\ ∀ s ∈ S, SNAt w s
def VersAt (w : World) (a : Option Addr) (V : List VN) : Prop := RowAt 4 vnCells w a V /\ ∀ v ∈ V, VNAt w v
theorem SnapsAt.below {w w' : World} {a : Option Addr} {S : List SN} (h : SnapsAt w a S) (hb : Below w.heap.size w w') : SnapsAt w' a S := ⟨h.1.below hb, fun s hs => (h.2 s hs).below hb⟩
theorem VersAt.below {w w' : World} {a : Option Addr} {V : List VN} (h : VersAt w a V) (hb : Below w.heap.size w w') : VersAt w' a V := ⟨h.1.below hb, fun s hs => (h.2 s hs).below hb⟩
structure TNAt (w : World) (t : TN) : Prop where
 s : SnapsAt w t.sa t.S
 v : VersAt w t.va t.V
theorem TNAt.below {w w' : World} {t : TN} (h : TNAt w t) (hb : Below w.heap.size w w') : TNAt w' t := ⟨h.s.below hb, h.v.below hb⟩
def TensAt (w : World) (a : Option Addr) (T : List TN) : Prop := RowAt 5 tnCells w a T /\ ∀ t ∈ T, TNAt w t
theorem TensAt.below {w w' : World} {a : Option Addr} {T : List TN} (h : TensAt w a T) (hb : Below w.heap.size w w') : TensAt w' a T := ⟨h.1.below hb, fun s hs => (h.2 s hs).below hb⟩
theorem SnapsAt.at {w : World} {a : Option Addr} {S : List SN} (h : SnapsAt w a S) {j : Nat} (hj : j < S.length) : ∃ b off, a = some ⟨b, off, none⟩ /\ w.cell? ⟨b, off + j * 6, none⟩ = some (.int .i64 S[j].id) /\ w.cell? ⟨b, off + j * 6 + 1, none⟩ = some (.int .i64 S[j].c.n) /\ w.cell? ⟨b, off + j * 6 + 2, none⟩ = some (.slice S[j].za S[j].c.zs.length S[j].zc) /\ w.cell? ⟨b, off + j * 6 + 3, none⟩ = some (.slice S[j].oa S[j].c.ko S[j].oc) /\ w.cell? ⟨b, off + j * 6 + 4, none⟩ = some (.slice S[j].va S[j].c.kv S[j].vc) /\ w.cell? ⟨b, off + j * 6 + 5, none⟩ = some (.int .i64 S[j].c.f) := by
 obtain ⟨b, off, e, hc⟩ := h.1 j hj
 exact ⟨b, off, e, hc 0 _ rfl, hc 1 _ rfl, hc 2 _ rfl, hc 3 _ rfl, hc 4 _ rfl, hc 5 _ rfl⟩
theorem VersAt.at {w : World} {a : Option Addr} {V : List VN} (h : VersAt w a V) {j : Nat} (hj : j < V.length) : ∃ b off, a = some ⟨b, off, none⟩ /\ w.cell? ⟨b, off + j * 4, none⟩ = some (.int .i64 V[j].id) /\ w.cell? ⟨b, off + j * 4 + 1, none⟩ = some (.int .i64 V[j].sn) /\ w.cell? ⟨b, off + j * 4 + 2, none⟩ = some (.slice V[j].ra V[j].R.length V[j].rc) /\ w.cell? ⟨b, off + j * 4 + 3, none⟩ = some (.slice V[j].la V[j].L.length V[j].lc) := by
 obtain ⟨b, off, e, hc⟩ := h.1 j hj
 exact ⟨b, off, e, hc 0 _ rfl, hc 1 _ rfl, hc 2 _ rfl, hc 3 _ rfl⟩
theorem TensAt.at {w : World} {a : Option Addr} {T : List TN} (h : TensAt w a T) {j : Nat} (hj : j < T.length) : ∃ b off, a = some ⟨b, off, none⟩ /\ w.cell? ⟨b, off + j * 5, none⟩ = some (.string (txt T[j].nm)) /\ w.cell? ⟨b, off + j * 5 + 1, none⟩ = some (.int .i64 T[j].nx) /\ w.cell? ⟨b, off + j * 5 + 2, none⟩ = some (.slice T[j].sa T[j].S.length T[j].sc) /\ w.cell? ⟨b, off + j * 5 + 3, none⟩ = some (.slice T[j].va T[j].V.length T[j].vc) /\ w.cell? ⟨b, off + j * 5 + 4, none⟩ = some (.int .i64 T[j].pub) := by
 obtain ⟨b, off, e, hc⟩ := h.1 j hj
 exact ⟨b, off, e, hc 0 _ rfl, hc 1 _ rfl, hc 2 _ rfl, hc 3 _ rfl, hc 4 _ rfl⟩
def RT.plain (r : RT) : RT := ⟨r.v, none, r.ids, 0⟩
def SN.plain (s : SN) : SN := ⟨s.id, s.c, none, none, none, 0, 0, 0⟩
def VN.plain (v : VN) : VN := ⟨v.id, v.sn, v.R.map RT.plain, v.L, none, none, 0, 0⟩
def TN.plain (t : TN) : TN := ⟨t.nm, t.nx, t.S.map SN.plain, t.V.map VN.plain, t.pub, none, none, 0, 0⟩
structure SNOk (m : Nat) (s : SN) : Prop where
 o : s.c.os.length = s.c.ko * 6
 v : s.c.vs.length = s.c.kv * 5
 zm : s.c.zs.length <= m
 om : s.c.ko <= m
 vm : s.c.kv <= m
structure VNOk (m : Nat) (v : VN) : Prop where
 n : v.R.length <= m
 i : ∀ r ∈ v.R, r.ids.length <= m
 l : v.L.length <= m
 w : ∀ x ∈ v.L, (Lit.int .i64 x).wf = true
structure TNOk (m : Nat) (t : TN) : Prop where
 n : t.nm.length <= m
 s : t.S.length <= m
 v : t.V.length <= m
 os : ∀ s ∈ t.S, SNOk m s
 ov : ∀ v ∈ t.V, VNOk m v
def isLt (c : UInt8) : Bool := decide (97 <= c.toNat /\ c.toNat <= 122)
def nmB (l : List UInt8) : Bool := decide (1 <= l.length /\ l.length <= 12) && l.all isLt
def findS (S : List SN) (id : Int) : Option SN := S.find? (fun s => decide (s.id = id))
def findV (V : List VN) (id : Int) : Option VN := V.find? (fun v => decide (v.id = id))
theorem findX_at {α : Type} (p : α -> Bool) {S : List α} {k : Nat} (hk : k < S.length) (h0 : ∀ s ∈ S.take k, p s = false) (h1 : p S[k] = true) : S.find? p = some S[k] := by
 have e : S = S.take k ++ S[k] :: S.drop (k + 1) := by rw [List.getElem_cons_drop, List.take_append_drop]
 have h2 : (S.take k).find? p = none := List.find?_eq_none.2 (fun s hs => by rw [h0 s hs]; simp)
 have h3 : S.find? p = (S.take k ++ S[k] :: S.drop (k + 1)).find? p := congrArg (List.find? p) e
 rw [h3, List.find?_append, h2, List.find?_cons_of_pos h1]
 rfl
theorem findX_no {α : Type} (p : α -> Bool) {S : List α} (h0 : ∀ s ∈ S, p s = false) : S.find? p = none := List.find?_eq_none.2 (fun s hs => by rw [h0 s hs]; simp)
theorem take_step {α : Type} (P : α -> Prop) {S : List α} {k : Nat} (hk : k < S.length) (h0 : ∀ s ∈ S.take k, P s) (h1 : P S[k]) : ∀ s ∈ S.take (k + 1), P s := fun s hs => by
 rw [List.take_succ_eq_append_getElem hk] at hs
 rcases List.mem_append.1 hs with hs | hs
 · exact h0 s hs
 · rw [List.mem_singleton.1 hs]; exact h1
def stepK (nx : Int) (ids : List Int) (i : Nat) : Bool := inB (ids.getD i 0) 1 (nx - 1) && (decide (i = 0) || decide (ids.getD (i - 1) 0 < ids.getD i 0))
def kTo (nx : Int) (ids : List Int) : Nat -> Bool
 | 0 => true
 | k + 1 => kTo nx ids k && stepK nx ids k
def allB {α : Type} (f : α -> Bool) (l : List α) : Nat -> Bool
 | 0 => true
 | k + 1 => allB f l k && (l[k]?.map f).getD true
def sOk (s : SN) : Bool := s.c.ok
noncomputable def vOk (S : List SN) (v : VN) : Bool := (findS S v.sn).isSome && decide (planV ((findS S v.sn).getD sn0).c.n ((findS S v.sn).getD sn0).c.zs ((findS S v.sn).getD sn0).c.os ((findS S v.sn).getD sn0).c.vs ((findS S v.sn).getD sn0).c.ko ((findS S v.sn).getD sn0).c.kv ((findS S v.sn).getD sn0).c.f v.R v.L = 0)
def rowB9 (nx : Int) (ids : List Int) : Bool := decide (ids.length <= 8) && kTo nx ids ids.length
def snapsB (t : TN) : Bool := rowB9 t.nx (t.S.map SN.id) && allB sOk t.S t.S.length
noncomputable def versB (t : TN) : Bool := rowB9 t.nx (t.V.map VN.id) && allB (vOk t.S) t.V t.V.length
def pubB (t : TN) : Bool := decide (t.pub = 0) || (findV t.V t.pub).isSome
noncomputable def tenB (t : TN) : Bool := nmB t.nm && (inB t.nx 1 1000000000 && (snapsB t && (versB t && pubB t)))
noncomputable def stepT (T : List TN) (i : Nat) : Bool := tenB (T.getD i tn0) && (decide (i = 0) || ltT (txt (T.getD (i - 1) tn0).nm) (txt (T.getD i tn0).nm))
noncomputable def tTo (T : List TN) : Nat -> Bool
 | 0 => true
 | k + 1 => tTo T k && stepT T k
noncomputable def storeB (T : List TN) : Bool := decide (T.length <= 5) && tTo T T.length
theorem kTo_no {nx : Int} {ids : List Int} {i : Nat} (h : stepK nx ids i = false) : ∀ k, i < k -> kTo nx ids k = false
 | k + 1, hk => by
   by_cases e : i = k
   · subst e; simp [kTo, h]
   · simp [kTo, kTo_no h k (by omega)]
theorem tTo_no {T : List TN} {i : Nat} (h : stepT T i = false) : ∀ k, i < k -> tTo T k = false
 | k + 1, hk => by
   by_cases e : i = k
   · subst e; simp [tTo, h]
   · simp [tTo, tTo_no h k (by omega)]
theorem allB_no {α : Type} {f : α -> Bool} {l : List α} {i : Nat} (hi : i < l.length) (h : f l[i] = false) : ∀ k, i < k -> allB f l k = false
 | k + 1, hk => by
   by_cases e : i = k
   · subst e; simp [allB, hi, h]
   · simp [allB, allB_no hi h k (by omega)]
theorem allB_succ {α : Type} {f : α -> Bool} {l : List α} {k : Nat} (hk : k < l.length) (h0 : allB f l k = true) (h : f l[k] = true) : allB f l (k + 1) = true := by simp [allB, h0, hk, h]
theorem allB_mem {α : Type} {f : α -> Bool} {l : List α} : ∀ {k : Nat}, allB f l k = true -> ∀ i, (hi : i < k) -> (hl : i < l.length) -> f l[i] = true
 | k + 1, h, i, hi, hl => by
   simp only [allB, Bool.and_eq_true] at h
   by_cases e : i = k
   · subst e; simpa [hl] using h.2
   · exact allB_mem h.1 i (by omega) hl
def prevI (ids : List Int) (i : Nat) : Int := if i = 0 then 0 else ids.getD (i - 1) 0
theorem kTo_prev {nx : Int} {ids : List Int} : ∀ {i : Nat}, kTo nx ids i = true -> 0 <= prevI ids i /\ (0 < i -> prevI ids i <= nx - 1)
 | 0, _ => by simp [prevI]
 | i + 1, h => by
   simp only [kTo, Bool.and_eq_true, stepK, inB, decide_eq_true_eq] at h
   simp only [prevI, Nat.add_sub_cancel, if_neg (Nat.succ_ne_zero i)]
   exact ⟨by omega, fun _ => by omega⟩
theorem stepK_prev {nx : Int} {ids : List Int} {i : Nat} (h : kTo nx ids i = true) : stepK nx ids i = inB (ids.getD i 0) (prevI ids i + 1) (nx - 1) := by
 have hp := kTo_prev h
 unfold stepK inB
 by_cases e : i = 0
 · subst e
   simp [prevI]
 · have hr : prevI ids i = ids.getD (i - 1) 0 := by simp [prevI, e]
   rw [hr] at hp ⊢
   rw [decide_eq_false e, Bool.false_or, <- Bool.decide_and]
   congr 1
   apply propext
   constructor
   · intro h; omega
   · intro h; omega
theorem rowB9_long {nx : Int} {ids : List Int} (h : 8 < ids.length) : rowB9 nx ids = false := by unfold rowB9; rw [decide_eq_false (by omega)]; rfl
theorem rowB9_no {nx : Int} {ids : List Int} {i : Nat} (hi : i < ids.length) (h : stepK nx ids i = false) : rowB9 nx ids = false := by unfold rowB9; rw [kTo_no h _ hi, Bool.and_false]
theorem rowB9_yes {nx : Int} {ids : List Int} (h8 : ids.length <= 8) (h : kTo nx ids ids.length = true) : rowB9 nx ids = true := by unfold rowB9; rw [decide_eq_true h8, h]; rfl
theorem tenB_name {t : TN} (h : nmB t.nm = false) : tenB t = false := by unfold tenB; rw [h, Bool.false_and]
theorem tenB_next {t : TN} (h : inB t.nx 1 1000000000 = false) : tenB t = false := by unfold tenB; rw [h, Bool.false_and, Bool.and_false]
theorem tenB_snaps {t : TN} (h : snapsB t = false) : tenB t = false := by unfold tenB; rw [h, Bool.false_and, Bool.and_false, Bool.and_false]
theorem tenB_vers {t : TN} (h : versB t = false) : tenB t = false := by unfold tenB; rw [h, Bool.false_and, Bool.and_false, Bool.and_false, Bool.and_false]
theorem tenB_all {t : TN} (h1 : nmB t.nm = true) (h2 : inB t.nx 1 1000000000 = true) (h3 : snapsB t = true) (h4 : versB t = true) : tenB t = pubB t := by unfold tenB; rw [h1, h2, h3, h4]; rfl
theorem getD_map {α : Type} {f : α -> Int} {S : List α} {i : Nat} (hi : i < S.length) : (S.map f).getD i 0 = f S[i] := by
 rw [List.getD_eq_getElem?_getD, List.getElem?_map, List.getElem?_eq_getElem hi]; rfl
theorem stepK_at {α : Type} {f : α -> Int} {nx : Int} {S : List α} {i : Nat} (hi : i < S.length) (h0 : i = 0) : stepK nx (S.map f) i = inB (f S[i]) 1 (nx - 1) := by
 unfold stepK
 rw [getD_map hi, decide_eq_true h0, Bool.true_or, Bool.and_true]
theorem stepK_in {α : Type} {f : α -> Int} {nx : Int} {S : List α} {i : Nat} (hi : i < S.length) (h0 : 0 < i) : stepK nx (S.map f) i = (inB (f S[i]) 1 (nx - 1) && decide (f (S[i - 1]'(by omega)) < f S[i])) := by
 unfold stepK
 rw [getD_map hi, getD_map (by omega), decide_eq_false (by omega), Bool.false_or]
theorem stepK_out {α : Type} {f : α -> Int} {nx : Int} {S : List α} {i : Nat} (hi : i < S.length) (h : inB (f S[i]) 1 (nx - 1) = false) : stepK nx (S.map f) i = false := by
 unfold stepK
 rw [getD_map hi, h, Bool.false_and]
theorem stepT_at {T : List TN} {i : Nat} (hi : i < T.length) (h0 : i = 0) : stepT T i = tenB T[i] := by
 unfold stepT
 rw [List.getD_eq_getElem?_getD, List.getElem?_eq_getElem hi, decide_eq_true h0, Bool.true_or, Bool.and_true]; rfl
theorem stepT_in {T : List TN} {i : Nat} (hi : i < T.length) (h0 : 0 < i) : stepT T i = (tenB T[i] && ltT (txt (T[i - 1]'(by omega)).nm) (txt T[i].nm)) := by
 unfold stepT
 rw [List.getD_eq_getElem?_getD, List.getElem?_eq_getElem hi, List.getD_eq_getElem?_getD, List.getElem?_eq_getElem (show i - 1 < T.length by omega), decide_eq_false (by omega), Bool.false_or]; rfl
theorem storeB_no {T : List TN} {i : Nat} (hi : i < T.length) (h : stepT T i = false) : storeB T = false := by unfold storeB; rw [tTo_no h _ hi, Bool.and_false]
theorem storeB_long {T : List TN} (h : 5 < T.length) : storeB T = false := by unfold storeB; rw [decide_eq_false (by omega), Bool.false_and]
theorem storeB_yes {T : List TN} (h5 : T.length <= 5) (h : tTo T T.length = true) : storeB T = true := by unfold storeB; rw [decide_eq_true h5, h]; rfl
theorem find_map9 {α β : Type} (f : α -> β) (p : β -> Bool) : ∀ S : List α, (S.map f).find? p = (S.find? (fun x => p (f x))).map f
 | [] => rfl
 | x :: S => by
   rw [List.map_cons, List.find?_cons, List.find?_cons]
   split
   · rfl
   · exact find_map9 f p S
theorem findS_plain (S : List SN) (id : Int) : findS (S.map SN.plain) id = (findS S id).map SN.plain := find_map9 _ _ S
theorem findV_plain (V : List VN) (id : Int) : findV (V.map VN.plain) id = (findV V id).map VN.plain := find_map9 _ _ V
theorem planV_plain {n : Int} {zs os vs : List Int} {ko kv : Nat} {f : Int} (R : List RT) (L : List Int) : planV n zs os vs ko kv f (R.map RT.plain) L = planV n zs os vs ko kv f R L := planV_key L (by rw [List.map_map]; rfl)
theorem allB_map {α β : Type} (g : α -> β) (f : β -> Bool) (l : List α) : ∀ k, allB f (l.map g) k = allB (fun x => f (g x)) l k
 | 0 => rfl
 | k + 1 => by
   rw [allB, allB, allB_map g f l k, List.getElem?_map, Option.map_map]
   rfl
theorem vOk_plain (S : List SN) (v : VN) : vOk (S.map SN.plain) v.plain = vOk S v := by
 unfold vOk
 rw [show v.plain.sn = v.sn from rfl, show v.plain.R = v.R.map RT.plain from rfl, show v.plain.L = v.L from rfl, findS_plain, planV_plain]
 cases findS S v.sn <;> rfl
theorem tenB_plain (t : TN) : tenB t.plain = tenB t := by
 have e1 : (t.S.map SN.plain).map SN.id = t.S.map SN.id := by rw [List.map_map]; rfl
 have e2 : (t.V.map VN.plain).map VN.id = t.V.map VN.id := by rw [List.map_map]; rfl
 have e3 : ∀ k, allB sOk (t.S.map SN.plain) k = allB sOk t.S k := fun k => allB_map _ _ _ k
 have e4 : ∀ k, allB (vOk (t.S.map SN.plain)) (t.V.map VN.plain) k = allB (vOk t.S) t.V k := fun k => by
  rw [allB_map]
  congr 1
  funext v
  exact vOk_plain t.S v
 unfold tenB snapsB versB pubB TN.plain
 simp only [e1, e2, e3, e4, List.length_map, findV_plain, Option.isSome_map]
theorem stepT_plain (T : List TN) (i : Nat) : stepT (T.map TN.plain) i = stepT T i := by
 have e : ∀ j, (T.map TN.plain).getD j tn0 = (T.getD j tn0).plain := fun j => by
  rw [List.getD_eq_getElem?_getD, List.getD_eq_getElem?_getD, List.getElem?_map]
  cases T[j]? <;> rfl
 unfold stepT
 rw [e, e, tenB_plain]
 rfl
theorem tTo_plain (T : List TN) : ∀ k, tTo (T.map TN.plain) k = tTo T k
 | 0 => rfl
 | k + 1 => by rw [tTo, tTo, tTo_plain T k, stepT_plain]
theorem storeB_plain (T : List TN) : storeB (T.map TN.plain) = storeB T := by unfold storeB; rw [List.length_map, tTo_plain]
theorem storeB_same {S T : List TN} (h : S.map TN.plain = T.map TN.plain) : storeB S = storeB T := by rw [<- storeB_plain S, h, storeB_plain]
def KA (base : Nat) (w : World) (P : World -> Prop) : Prop := ∀ W, (∀ b o, base <= b -> w.heap[b]? = some o -> W.heap[b]? = some o) -> P W
theorem KA.now {base : Nat} {w : World} {P : World -> Prop} (h : KA base w P) : P w := h w (fun _ _ _ h => h)
theorem KA.below {base : Nat} {w w' : World} {P : World -> Prop} (h : KA base w P) (hb : Below w.heap.size w w') : KA base w' P := fun W hW => h W (fun b o h1 h2 => hW b o h1 (below_row hb (row_lt h2) h2))
theorem KA.set {base g i : Nat} {v : Value} {w : World} {P : World -> Prop} (h : KA base w P) (hg : g < base) : KA base (w.setCell ⟨g, i, none⟩ v) P := fun W hW => h W (fun b o h1 h2 => hW b o h1 (by rw [heap_setCell_other _ _ _ _ (by show b ≠ g; omega)]; exact h2))
theorem KA.base {base b0 : Nat} {w : World} {P : World -> Prop} (h : KA base w P) (hb : b0 <= base) : KA b0 w P := fun W hW => h W (fun b o h1 h2 => hW b o (by omega) h2)
theorem KA.and {base : Nat} {w : World} {P Q : World -> Prop} (h : KA base w P) (k : KA base w Q) : KA base w (fun W => P W /\ Q W) := fun W hW => ⟨h W hW, k W hW⟩
theorem KA.mono {base : Nat} {w : World} {P Q : World -> Prop} (h : KA base w P) (k : ∀ W, P W -> Q W) : KA base w Q := fun _ hW => k _ (h _ hW)
theorem KA.row {base g : Nat} {w : World} {o : Obj} (h : w.heap[g]? = some o) (hg : base <= g) : KA base w (fun W => W.heap[g]? = some o) := fun _ hW => hW g o hg h
def putX (g : Nat) : List Value -> Nat -> World -> World
 | [], _, w => w
 | v :: l, i, w => putX g l (i + 1) (w.setCell ⟨g, i, none⟩ v)
theorem putX_row {g : Nat} {T : TypeId} : ∀ (l z A B : List Value) (i : Nat) (w : World), w.heap[g]? = some (.cells (A ++ (z ++ B)).toArray T (0, 0)) -> A.length = i -> l.length = z.length -> (putX g l i w).heap[g]? = some (.cells (A ++ (l ++ B)).toArray T (0, 0))
 | [], [], A, B, i, w, h, _, _ => h
 | [], y :: z, A, B, i, w, _, _, hl => by simp at hl
 | v :: l, [], A, B, i, w, _, _, hl => by simp at hl
 | v :: l, y :: z, A, B, i, w, h, hA, hl => by
   have h2 : (w.setCell ⟨g, i, none⟩ v).heap[g]? = some (.cells ((A ++ [v]) ++ (z ++ B)).toArray T (0, 0)) := by
    rw [heap_setCell_same _ _ _ _ _ _ h, List.setIfInBounds_toArray]
    subst hA
    rw [List.set_append_right _ _ (Nat.le_refl _), Nat.sub_self, List.cons_append, List.set_cons_zero, List.append_assoc]
    rfl
   have := putX_row l z (A ++ [v]) B (i + 1) _ h2 (by simp [hA]) (by simpa using hl)
   rw [List.append_assoc] at this
   exact this
theorem putX_below {g B : Nat} {w : World} : ∀ (l : List Value) (i : Nat) (W : World), Below B w W -> B <= g -> Below B w (putX g l i W)
 | [], _, _, h, _ => h
 | _ :: l, i, _, h, hg => putX_below l (i + 1) _ (h.setCell hg _) hg
theorem putX_keep {g base : Nat} {P : World -> Prop} : ∀ (l : List Value) (i : Nat) (W : World), KA base W P -> g < base -> KA base (putX g l i W) P
 | [], _, _, h, _ => h
 | _ :: l, i, _, h, hg => putX_keep l (i + 1) _ (h.set hg) hg
theorem rowX_app {α : Type} (cells : α -> List Value) (S Z : List α) : rowX cells (S ++ Z) = rowX cells S ++ rowX cells Z := by simp [rowX]
theorem rowX_cons {α : Type} (cells : α -> List Value) (x : α) (Z : List α) : rowX cells (x :: Z) = cells x ++ rowX cells Z := by simp [rowX]
theorem putX_thing {α : Type} {k g j : Nat} {cells : α -> List Value} (hk : ∀ x, (cells x).length = k) {T : TypeId} {S Z : List α} {z x : α} {w : World} (h : w.heap[g]? = some (.cells (rowX cells (S ++ z :: Z)).toArray T (0, 0))) (hj : S.length = j) : (putX g (cells x) (j * k) w).heap[g]? = some (.cells (rowX cells ((S ++ [x]) ++ Z)).toArray T (0, 0)) := by
 rw [rowX_app, rowX_cons] at h
 have := putX_row (cells x) (cells z) (rowX cells S) (rowX cells Z) (j * k) w h (by rw [rowX_len hk, hj]) (by rw [hk, hk])
 rw [List.append_assoc, List.cons_append, List.nil_append, rowX_app, rowX_cons]
 exact this
theorem made_x {α : Type} {k : Nat} {cells : α -> List Value} (hk : ∀ x, (cells x).length = k) (hk0 : 0 < k) (x0 : α) (z : Array Value) (hz : z.toList = cells x0) (n : Nat) : madeCells z (n * k) = (rowX cells (List.replicate n x0)).toArray := by
 have hzs : z.size = k := by rw [<- hk x0, <- hz]; simp
 apply Array.ext
 · simp [madeCells, rowX_len hk]
 · intro i h1 h2
   have hi : i < n * k := by simpa [madeCells] using h1
   have hr : i % k < k := Nat.mod_lt _ hk0
   have hj : i / k < n := (Nat.div_lt_iff_lt_mul hk0).2 hi
   have e : i = i / k * k + i % k := by have := Nat.div_add_mod i k; rw [Nat.mul_comm] at this; omega
   have hx := rowX_at hk (List.replicate n x0) (i / k) (i % k) (by simpa using hj) (z[i % k]'(by omega)) (by
    rw [List.getElem_replicate, <- hz, List.getElem?_eq_getElem (by simpa using (show i % k < z.size by omega))]
    simp)
   rw [<- e] at hx
   have := (List.getElem?_eq_some_iff.1 hx).2
   simp only [List.getElem_toArray]
   rw [this]
   simp only [madeCells, Array.getElem_map, Array.getElem_range, hzs]
   exact getElem!_pos z (i % k) (by omega)
structure TB (T1 T2 : TypeId) (w W : World) (src z out : Array Value) : Prop where
 b : Below w.heap.size w W
 s : W.heap[w.heap.size]? = some (.cells src T1 (0, 0))
 z : W.heap[w.heap.size + 1]? = some (.cells z T2 (0, 0))
 o : W.heap[w.heap.size + 1 + 1]? = some (.cells out T2 (0, 0))
theorem TB.below {T1 T2 : TypeId} {w W W' : World} {src z out : Array Value} (h : TB T1 T2 w W src z out) (hb : Below W.heap.size W W') : TB T1 T2 w W' src z out :=
 ⟨h.b.trans (hb.mono h.b.size), below_row hb (row_lt h.s) h.s, below_row hb (row_lt h.z) h.z, below_row hb (row_lt h.o) h.o⟩
theorem TB.set {T1 T2 : TypeId} {w W : World} {src z out : Array Value} (h : TB T1 T2 w W src z out) (i : Nat) (v : Value) : TB T1 T2 w (W.setCell ⟨w.heap.size + 1 + 1, i, none⟩ v) src z (out.setIfInBounds i v) :=
 ⟨h.b.setCell (by simp; omega) _, by rw [heap_setCell_other _ _ _ _ (by simp; omega)]; exact h.s, by rw [heap_setCell_other _ _ _ _ (by simp)]; exact h.z, heap_setCell_same _ _ _ _ _ _ h.o⟩
theorem TB.new (T1 T2 : TypeId) (w : World) (src z out : Array Value) : TB T1 T2 w (((w.alloc (.cells src T1)).alloc (.cells z T2)).alloc (.cells out T2)) src z out := by
 have h2 := heap_alloc_new ((w.alloc (.cells src T1)).alloc (.cells z T2)) (.cells out T2)
 have ha : Below (w.heap.size + 1 + 1) ((w.alloc (.cells src T1)).alloc (.cells z T2)) (((w.alloc (.cells src T1)).alloc (.cells z T2)).alloc (.cells out T2)) := (Below.refl _ _).alloc (by simp) _
 exact ⟨(((Below.refl _ _).alloc (Nat.le_refl _) _).alloc (by simp) _).alloc (by simp; omega) _, (ha.block _ (by omega)).trans (heap_alloc2_old _ _ _), (ha.block _ (by omega)).trans (heap_alloc2_new _ _ _), by simpa using h2⟩
def szW (l : Int) (u : Nat) : Int := if (u : Int) <= l then l - u else -1
def useS (s : SN) : Nat := s.c.zs.length + s.c.ko + s.c.kv
def useV (v : VN) : Nat := v.R.length + (allTo v.R v.R.length).length + v.L.length
def sumF9 {α : Type} (f : α -> Nat) (l : List α) : Nat := (l.map f).sum
def preF {α : Type} (f : α -> Nat) (l : List α) (k : Nat) : Nat := sumF9 f (l.take k)
theorem preF_zero {α : Type} (f : α -> Nat) (l : List α) : preF f l 0 = 0 := by simp [preF, sumF9]
theorem preF_succ {α : Type} (f : α -> Nat) (l : List α) {k : Nat} (h : k < l.length) : preF f l (k + 1) = preF f l k + f l[k] := by
 unfold preF sumF9
 rw [List.take_succ_eq_append_getElem h, List.map_append, List.sum_append, List.map_cons, List.map_nil, List.sum_cons, List.sum_nil, Nat.add_zero]
theorem preF_all {α : Type} (f : α -> Nat) (l : List α) : preF f l l.length = sumF9 f l := by unfold preF; rw [List.take_length]
theorem preF_le {α : Type} (f : α -> Nat) (l : List α) {k : Nat} (h : k <= l.length) : preF f l k <= sumF9 f l := by
 rw [<- preF_all f l]
 obtain ⟨d, e⟩ : ∃ d, l.length = k + d := ⟨l.length - k, by omega⟩
 rw [e]
 induction d generalizing k with
 | zero => exact Nat.le_refl _
 | succ d ih =>
   have h1 := preF_succ f l (k := k) (by omega)
   have h2 := ih (k := k + 1) (by omega) (by omega)
   rw [show k + (d + 1) = k + 1 + d by omega]
   omega
theorem sumF9_mem {α : Type} (f : α -> Nat) : ∀ (l : List α) (x : α), x ∈ l -> f x <= sumF9 f l
 | y :: l, x, h => by
   unfold sumF9
   rw [List.map_cons, List.sum_cons]
   rcases List.mem_cons.1 h with h | h
   · subst h; omega
   · have := sumF9_mem f l x h
     unfold sumF9 at this
     omega
def useSs (S : List SN) : Nat := S.length + sumF9 useS S
def useVs (V : List VN) : Nat := V.length + sumF9 useV V
def useT (t : TN) : Nat := t.nm.length + useSs t.S + useVs t.V
def useTs (T : List TN) : Nat := T.length + sumF9 useT T
theorem szV_is (l : Int) (a b c : Nat) : szV l a b c = szW l (a + b + c) := by
 unfold szV szW
 split
 · rw [if_neg (by omega)]
 · split
   · rw [if_neg (by omega)]
   · split
     · rw [if_neg (by omega)]
     · rw [if_pos (by omega)]
       omega
theorem szR_is (R : List RT) (left : Int) (h0 : 0 <= left) : ∀ k, k <= R.length -> szR R left k = szW left (allTo R k).length
 | 0, _ => by rw [allTo_zero]; unfold szR szW; rw [if_pos (by simpa using h0)]; simp
 | k + 1, hk => by
   have ih := szR_is R left h0 k (by omega)
   have e : szR R left (k + 1) = if szR R left k < 0 then -1 else if szR R left k < ((R.getD k rt0).ids.length : Int) then -1 else szR R left k - (R.getD k rt0).ids.length := rfl
   rw [e, ih, allTo_succ (by omega), List.length_append]
   generalize (allTo R k).length = x
   generalize (R.getD k rt0).ids.length = y
   unfold szW
   by_cases c1 : (x : Int) <= left
   · rw [if_pos c1, if_neg (by omega)]
     by_cases c2 : ((x + y : Nat) : Int) <= left
     · rw [if_pos c2, if_neg (by omega)]; omega
     · rw [if_neg c2, if_pos (by omega)]
   · rw [if_neg c1, if_pos (by omega), if_neg (by omega)]
theorem szPl_is (R : List RT) (ln : Nat) (left : Int) : szPl R ln left = szW left (R.length + (allTo R R.length).length + ln) := by
 unfold szPl szRS
 by_cases c : left < (R.length : Int)
 · rw [if_pos c]
   unfold szW
   rw [if_pos (by omega), if_neg (by omega)]
 · rw [if_neg c, szR_is R _ (by omega) _ (Nat.le_refl _)]
   unfold szW
   split
   · rw [if_neg (by omega)]
     split
     · rw [if_neg (by omega)]
     · rw [if_pos (by omega)]; omega
   · rw [if_pos (by omega), if_neg (by omega)]
theorem cells4v {w : World} {g : Nat} {T : TypeId} {v0 v1 v2 v3 : Value} (h : w.heap[g]? = some (.cells #[v0, v1, v2, v3] T (0, 0))) : w.cell? ⟨g, 0, none⟩ = some v0 /\ w.cell? ⟨g, 1, none⟩ = some v1 /\ w.cell? ⟨g, 2, none⟩ = some v2 /\ w.cell? ⟨g, 3, none⟩ = some v3 := by
 refine ⟨?_, ?_, ?_, ?_⟩ <;> (rw [cell_of_row _ _ _ _ _ _ h]; rfl)
theorem szW_lt {l : Int} {u : Nat} (h : ¬ ((u : Int) <= l)) : szW l u = -1 := if_neg h
theorem szW_le {l : Int} {u : Nat} (h : (u : Int) <= l) : szW l u = l - u := if_pos h
set_option maxHeartbeats 1000000 in
theorem szSnapshot_any (s : SN) (l : Int) (w : World) (h0 : 0 <= l) (h1 : l <= 1048576) (ho : SNOk 9223372036854775807 s) :
 Calls Tryz.prog 159 #[.agg #[.int .i64 s.id, .int .i64 s.c.n, .slice s.za s.c.zs.length s.zc, .slice s.oa s.c.ko s.oc, .slice s.va s.c.kv s.vc, .int .i64 s.c.f], .int .i64 l] w fun e w' => e = .returned (.int .i64 (szW l (useS s))) /\ Below w.heap.size w w' := by
 obtain ⟨id, ⟨cn, cf, zs, os, vs, ko, kv⟩, za, oa, va, zc, oc, vc⟩ := s
 have CZ := fun W => szCase_any cn cf l za oa va zs.length zc ko oc kv vc W h0 h1 ho.zm ho.om ho.vm
 rw [szV_is] at CZ
 have HR : Hid (zs.length + ko + kv = useS ⟨id, ⟨cn, cf, zs, os, vs, ko, kv⟩, za, oa, va, zc, oc, vc⟩) := rfl
 rw [HR.out] at CZ
 simp only
 generalize zs.length = nz at *
 obtain ⟨r, HW⟩ := nmd (szW l (useS ⟨id, ⟨cn, cf, zs, os, vs, ko, kv⟩, za, oa, va, zc, oc, vc⟩))
 have hr : r = -1 ∨ 0 <= r := by have := HW.out; unfold szW at this; split at this <;> omega
 rw [HW.out] at CZ ⊢
 clear HR HW ho
 have B0 := hdn ((Below.refl w.heap.size w).alloc (Nat.le_refl _) (.cells #[.int .i64 id, .int .i64 cn, .slice za nz zc, .slice oa ko oc, .slice va kv vc, .int .i64 cf] 208))
 obtain ⟨c0, c1, c2, c3, c4, c5⟩ := cells6 (heap_alloc_new w (.cells #[.int .i64 id, .int .i64 cn, .slice za nz zc, .slice oa ko oc, .slice va kv vc, .int .i64 cf] 208))
 go_enter Tryz.func159, Tryz.ntmps159
 go_wp2_with fail
 clear c0 c1 c2 c3 c4 c5
 refine (CZ _).mono ?_
 rintro e w1 ⟨rfl, hb⟩
 have B1 := hdn (B0.out.trans (hb.mono B0.out.size))
 clear hb CZ
 rcases hr with rfl | hr
 · go_wp2
   go_ret
   exact ⟨rfl, B1.out⟩
 · have hn : ¬ (r < 0) := by omega
   go_wp2
   go_ret
   exact ⟨rfl, B1.out⟩
set_option maxHeartbeats 1000000 in
theorem szVersion_any (v : VN) (l : Int) (w : World) (h0 : 0 <= l) (h1 : l <= 1048576) (ho : VNOk 9223372036854775807 v) (hA : VNAt w v) :
 Calls Tryz.prog 160 #[.agg #[.int .i64 v.id, .int .i64 v.sn, .slice v.ra v.R.length v.rc, .slice v.la v.L.length v.lc], .int .i64 l] w fun e w' => e = .returned (.int .i64 (szW l (useV v))) /\ Below w.heap.size w w' := by
 obtain ⟨id, sn, R, L, ra, la, rc, lc⟩ := v
 have CZ := fun W (h : RoutesAt W ra R) => szPlan_any ra la rc L.length lc R l W h h0 h1 ho.n ho.l ho.i
 rw [szPl_is R L.length l] at CZ
 have HR : Hid (R.length + (allTo R R.length).length + L.length = useV ⟨id, sn, R, L, ra, la, rc, lc⟩) := rfl
 rw [HR.out] at CZ
 have HA := hdn hA
 simp only
 obtain ⟨r, HW⟩ := nmd (szW l (useV ⟨id, sn, R, L, ra, la, rc, lc⟩))
 have hr : r = -1 ∨ 0 <= r := by have := HW.out; unfold szW at this; split at this <;> omega
 rw [HW.out] at CZ ⊢
 clear HR HW ho hA
 obtain ⟨nr, HNR⟩ := nmd R.length
 obtain ⟨nl, HNL⟩ := nmd L.length
 rw [HNR.out, HNL.out] at CZ ⊢
 have B0 := hdn ((Below.refl w.heap.size w).alloc (Nat.le_refl _) (.cells #[.int .i64 id, .int .i64 sn, .slice ra nr rc, .slice la nl lc] 214))
 obtain ⟨c0, c1, c2, c3⟩ := cells4v (heap_alloc_new w (.cells #[.int .i64 id, .int .i64 sn, .slice ra nr rc, .slice la nl lc] 214))
 go_enter Tryz.func160, Tryz.ntmps160
 go_wp2_with fail
 clear c0 c1 c2 c3
 refine (CZ _ (HA.out.r.below B0.out)).mono ?_
 rintro e w1 ⟨rfl, hb⟩
 have B1 := hdn (B0.out.trans (hb.mono B0.out.size))
 clear hb CZ
 rcases hr with rfl | hr
 · go_wp2
   go_ret
   exact ⟨rfl, B1.out⟩
 · have hn : ¬ (r < 0) := by omega
   go_wp2
   go_ret
   exact ⟨rfl, B1.out⟩
set_option maxHeartbeats 2000000 in
theorem szSnapshotS_any (a : Option Addr) (c : Nat) (X : List SN) (left : Int) (w : World) (hA : SnapsAt w a X) (h0 : 0 <= left) (h1 : left <= 1048576) (hn : X.length <= 9223372036854775807) (hok : ∀ x ∈ X, SNOk 9223372036854775807 x) :
 Calls Tryz.prog 117 #[.slice a X.length c, .int .i64 left] w fun e w' => e = .returned (.int .i64 (szW left (useSs X))) /\ Below w.heap.size w w' := by
 have HA := hdn hA
 have HOK := hdn hok
 have HU : Hid (useSs X = X.length + sumF9 useS X) := rfl
 clear hA hok
 obtain ⟨n, HN⟩ := nmd X.length
 rw [HN.out] at hn HU ⊢
 by_cases hl : left < n
 · have HS : Hid (szW left (useSs X) = -1) := szW_lt (by have := HU.out; omega)
   have hl2 : left - (n : Int) < 0 := by omega
   rw [HS.out]
   go_enter Tryz.func117, Tryz.ntmps117
   go_wp2
   go_ret
   exact ⟨rfl, Below.refl _ _⟩
 · obtain ⟨l0, HL0⟩ := nmd (left - (n : Int))
   have hl0 : 0 <= l0 /\ l0 <= 1048576 := by have := HL0.out; omega
   have hl0e := HL0.out
   have hw1 : IntKind.i64.wrap (left - (n : Int)) = l0 := by rw [hl0e]; exact IntWalk.i64_in _ (by omega)
   have hn0 : ¬ (l0 < 0) := by omega
   obtain ⟨r, HR⟩ := nmd (szW left (useSs X))
   have HRY : Hid ((sumF9 useS X : Int) <= l0 -> r = l0 - sumF9 useS X) := fun h => by rw [<- HR.out, szW_le (by have := HU.out; have := HL0.out; omega)]; have := HU.out; have := HL0.out; omega
   have HRN : Hid (l0 < (sumF9 useS X : Int) -> r = -1) := fun h => by rw [<- HR.out, szW_lt (by have := HU.out; have := HL0.out; omega)]
   rw [HR.out]
   clear HR HU
   go_enter Tryz.func117, Tryz.ntmps117
   go_wp2_with fail
   clear hw1 hl0e
   go_loopw [1, 5] (fun tl ti wr => ∃ (k : Nat) (s : Int), k <= n /\ ti = .int .i64 k /\ tl = .int .i64 s /\ Hid (s = l0 - preF useS X k) /\ 0 <= s /\ Below w.heap.size w wr) (fun _ ti _ => n - (intOf ti).toNat)
   case atStart => exact ⟨0, l0, Nat.zero_le _, rfl, rfl, by show _ = _; rw [preF_zero]; omega, hl0.1, Below.refl _ _⟩
   case round =>
    obtain ⟨k, s, hk, rfl, rfl, HSK, hs0, hb⟩ := hrel
    have B1 := hdn hb
    clear hb
    by_cases hlt : k < n
    · have hkn : (k : Int) < n := by omega
      have hkX : k < X.length := by rw [HN.out]; exact hlt
      obtain ⟨b, off, e, c0, c1, c2, c3, c4, c5⟩ := (HA.out.below B1.out).at hkX
      have HNX := hdn (preF_succ useS X hkX)
      have HLE := hdn (preF_le useS X (show k + 1 <= X.length by omega))
      have hmem : X[k] ∈ X := List.getElem_mem hkX
      have HE := hdn (HOK.out _ hmem)
      have HEA := hdn ((HA.out.below B1.out).2 _ hmem)
      have hs1 : s <= 1048576 := by have := HSK.out; omega
      subst e
      generalize X[k] = x at *
      have CE := szSnapshot_any x s wr hs0 hs1 HE.out
      have hu : Hid ((useS x : Int) <= s -> szW s (useS x) = s - useS x) := szW_le
      have hu2 : Hid (s < (useS x : Int) -> szW s (useS x) = -1) := fun h => szW_lt (by omega)
      generalize szW s (useS x) = q at *
      generalize useS x = u at *
      obtain ⟨id, ⟨cn, cf, zs, os, vs, ko, kv⟩, za, oa, va, zc, oc, vc⟩ := x
      simp only at c0 c1 c2 c3 c4 c5 CE
      clear HE HEA hmem
      generalize zs.length = nz at *
      go_wp2_with fail
      clear c0 c1 c2 c3 c4 c5
      refine CE.mono ?_
      rintro e w2 ⟨rfl, hb2⟩
      have B2 := hdn (B1.out.trans (hb2.mono B1.out.size))
      clear hb2 B1 CE
      by_cases hms : (u : Int) <= s
      · have hq := hu.out hms
        have hq0 : ¬ (q < 0) := by omega
        have HQ : Hid (q = l0 - preF useS X (k + 1)) := by have := HSK.out; have := HNX.out; show _ = _; omega
        have HQ0 : Hid (0 <= q) := by show _ <= _; omega
        clear hq hu hu2 HSK HNX HLE
        go_wp2
        first
         | exact ⟨⟨k + 1, q, by omega, by first | rfl | go_num, rfl, HQ, HQ0.out, B2.out⟩, by simp [intOf]; omega⟩
         | (go_roundw
            case rel => exact ⟨k + 1, q, by omega, by first | rfl | go_num, rfl, HQ, HQ0.out, B2.out⟩
            case measure => simp [intOf]; omega)
      · have hq := hu2.out (by omega)
        have HF := hdn (HRN.out (by have := HSK.out; have := HNX.out; have := HLE.out; omega))
        subst hq
        clear hu hu2 HSK HNX HLE
        go_wp2
        go_ret
        exact ⟨by rw [HF.out]; rfl, B2.out⟩
    · have hkn : k = n := by omega
      subst hkn
      have HE : Hid (preF useS X k = sumF9 useS X) := by show _ = _; rw [<- HN.out]; exact preF_all _ _
      have HF := hdn (HRY.out (by have := HSK.out; have := HE.out; omega))
      have HF2 : Hid (r = s) := by have := HSK.out; have := HE.out; have := HF.out; show _ = _; omega
      clear HF HE HSK
      go_wp2
      go_ret
      exact ⟨by rw [HF2.out]; rfl, B1.out⟩
set_option maxHeartbeats 2000000 in
theorem szVersionS_any (a : Option Addr) (c : Nat) (X : List VN) (left : Int) (w : World) (hA : VersAt w a X) (h0 : 0 <= left) (h1 : left <= 1048576) (hn : X.length <= 9223372036854775807) (hok : ∀ x ∈ X, VNOk 9223372036854775807 x) :
 Calls Tryz.prog 118 #[.slice a X.length c, .int .i64 left] w fun e w' => e = .returned (.int .i64 (szW left (useVs X))) /\ Below w.heap.size w w' := by
 have HA := hdn hA
 have HOK := hdn hok
 have HU : Hid (useVs X = X.length + sumF9 useV X) := rfl
 clear hA hok
 obtain ⟨n, HN⟩ := nmd X.length
 rw [HN.out] at hn HU ⊢
 by_cases hl : left < n
 · have HS : Hid (szW left (useVs X) = -1) := szW_lt (by have := HU.out; omega)
   have hl2 : left - (n : Int) < 0 := by omega
   rw [HS.out]
   go_enter Tryz.func118, Tryz.ntmps118
   go_wp2
   go_ret
   exact ⟨rfl, Below.refl _ _⟩
 · obtain ⟨l0, HL0⟩ := nmd (left - (n : Int))
   have hl0 : 0 <= l0 /\ l0 <= 1048576 := by have := HL0.out; omega
   have hl0e := HL0.out
   have hw1 : IntKind.i64.wrap (left - (n : Int)) = l0 := by rw [hl0e]; exact IntWalk.i64_in _ (by omega)
   have hn0 : ¬ (l0 < 0) := by omega
   obtain ⟨r, HR⟩ := nmd (szW left (useVs X))
   have HRY : Hid ((sumF9 useV X : Int) <= l0 -> r = l0 - sumF9 useV X) := fun h => by rw [<- HR.out, szW_le (by have := HU.out; have := HL0.out; omega)]; have := HU.out; have := HL0.out; omega
   have HRN : Hid (l0 < (sumF9 useV X : Int) -> r = -1) := fun h => by rw [<- HR.out, szW_lt (by have := HU.out; have := HL0.out; omega)]
   rw [HR.out]
   clear HR HU
   go_enter Tryz.func118, Tryz.ntmps118
   go_wp2_with fail
   clear hw1 hl0e
   go_loopw [1, 5] (fun tl ti wr => ∃ (k : Nat) (s : Int), k <= n /\ ti = .int .i64 k /\ tl = .int .i64 s /\ Hid (s = l0 - preF useV X k) /\ 0 <= s /\ Below w.heap.size w wr) (fun _ ti _ => n - (intOf ti).toNat)
   case atStart => exact ⟨0, l0, Nat.zero_le _, rfl, rfl, by show _ = _; rw [preF_zero]; omega, hl0.1, Below.refl _ _⟩
   case round =>
    obtain ⟨k, s, hk, rfl, rfl, HSK, hs0, hb⟩ := hrel
    have B1 := hdn hb
    clear hb
    by_cases hlt : k < n
    · have hkn : (k : Int) < n := by omega
      have hkX : k < X.length := by rw [HN.out]; exact hlt
      obtain ⟨b, off, e, c0, c1, c2, c3⟩ := (HA.out.below B1.out).at hkX
      have HNX := hdn (preF_succ useV X hkX)
      have HLE := hdn (preF_le useV X (show k + 1 <= X.length by omega))
      have hmem : X[k] ∈ X := List.getElem_mem hkX
      have HE := hdn (HOK.out _ hmem)
      have HEA := hdn ((HA.out.below B1.out).2 _ hmem)
      have hs1 : s <= 1048576 := by have := HSK.out; omega
      subst e
      generalize X[k] = x at *
      have CE := szVersion_any x s wr hs0 hs1 HE.out HEA.out
      have hu : Hid ((useV x : Int) <= s -> szW s (useV x) = s - useV x) := szW_le
      have hu2 : Hid (s < (useV x : Int) -> szW s (useV x) = -1) := fun h => szW_lt (by omega)
      generalize szW s (useV x) = q at *
      generalize useV x = u at *
      obtain ⟨id, sn, R, L, ra, la, rc, lc⟩ := x
      simp only at c0 c1 c2 c3 CE
      clear HE HEA hmem
      generalize R.length = nr at *
      generalize L.length = nl at *
      go_wp2_with fail
      clear c0 c1 c2 c3
      refine CE.mono ?_
      rintro e w2 ⟨rfl, hb2⟩
      have B2 := hdn (B1.out.trans (hb2.mono B1.out.size))
      clear hb2 B1 CE
      by_cases hms : (u : Int) <= s
      · have hq := hu.out hms
        have hq0 : ¬ (q < 0) := by omega
        have HQ : Hid (q = l0 - preF useV X (k + 1)) := by have := HSK.out; have := HNX.out; show _ = _; omega
        have HQ0 : Hid (0 <= q) := by show _ <= _; omega
        clear hq hu hu2 HSK HNX HLE
        go_wp2
        first
         | exact ⟨⟨k + 1, q, by omega, by first | rfl | go_num, rfl, HQ, HQ0.out, B2.out⟩, by simp [intOf]; omega⟩
         | (go_roundw
            case rel => exact ⟨k + 1, q, by omega, by first | rfl | go_num, rfl, HQ, HQ0.out, B2.out⟩
            case measure => simp [intOf]; omega)
      · have hq := hu2.out (by omega)
        have HF := hdn (HRN.out (by have := HSK.out; have := HNX.out; have := HLE.out; omega))
        subst hq
        clear hu hu2 HSK HNX HLE
        go_wp2
        go_ret
        exact ⟨by rw [HF.out]; rfl, B2.out⟩
    · have hkn : k = n := by omega
      subst hkn
      have HE : Hid (preF useV X k = sumF9 useV X) := by show _ = _; rw [<- HN.out]; exact preF_all _ _
      have HF := hdn (HRY.out (by have := HSK.out; have := HE.out; omega))
      have HF2 : Hid (r = s) := by have := HSK.out; have := HE.out; have := HF.out; show _ = _; omega
      clear HF HE HSK
      go_wp2
      go_ret
      exact ⟨by rw [HF2.out]; rfl, B1.out⟩
set_option maxHeartbeats 400000 in
theorem szTenant_any (t : TN) (l : Int) (w : World) (h0 : 0 <= l) (h1 : l <= 1048576) (ho : TNOk 9223372036854775807 t) (hA : TNAt w t) :
 Calls Tryz.prog 74 #[.agg #[.string (txt t.nm), .int .i64 t.nx, .slice t.sa t.S.length t.sc, .slice t.va t.V.length t.vc, .int .i64 t.pub], .int .i64 l] w fun e w' => e = .returned (.int .i64 (szW l (useT t))) /\ Below w.heap.size w w' := by
 obtain ⟨nm, nx, S, V, pub, sa, va, sc, vc⟩ := t
 have HA := hdn hA
 have HO := hdn ho
 have HU : Hid (useT ⟨nm, nx, S, V, pub, sa, va, sc, vc⟩ = nm.length + useSs S + useVs V) := rfl
 simp only
 obtain ⟨r, HR⟩ := nmd (szW l (useT ⟨nm, nx, S, V, pub, sa, va, sc, vc⟩))
 rw [HR.out]
 have htz : (txt nm).size = nm.length := txt_size nm
 have hno := ho.n
 simp only at hno
 generalize txt nm = b at *
 generalize nm.length = ln at *
 have HSV := hdn ho.s
 have HVV := hdn ho.v
 have CS := fun W (h : SnapsAt W sa S) q (q0 : 0 <= q) (q1 : q <= 1048576) => szSnapshotS_any sa sc S q W h q0 q1 ho.s ho.os
 have CV := fun W (h : VersAt W va V) q (q0 : 0 <= q) (q1 : q <= 1048576) => szVersionS_any va vc V q W h q0 q1 ho.v ho.ov
 clear hA ho
 obtain ⟨uS, HUS⟩ := nmd (useSs S)
 obtain ⟨uV, HUV⟩ := nmd (useVs V)
 rw [HUS.out] at HU CS
 rw [HUV.out] at HU CV
 generalize S.length = nS at *
 generalize V.length = nV at *
 have HYES : Hid ((ln + uS + uV : Int) <= l -> r = l - ln - uS - uV) := fun h => by rw [<- HR.out, szW_le (by have := HU.out; omega)]; have := HU.out; omega
 have HNO : Hid (l < (ln + uS + uV : Int) -> r = -1) := fun h => by rw [<- HR.out, szW_lt (by have := HU.out; omega)]
 have HCS := hdn CS
 have HCV := hdn CV
 clear HR HU CS CV
 have B0 := hdn ((Below.refl w.heap.size w).alloc (Nat.le_refl _) (.cells #[.string b, .int .i64 nx, .slice sa nS sc, .slice va nV vc, .int .i64 pub] 117))
 have X0 : Hid ((w.alloc (.cells #[.string b, .int .i64 nx, .slice sa nS sc, .slice va nV vc, .int .i64 pub] 117)).heap[w.heap.size]? = some (.cells #[.string b, .int .i64 nx, .slice sa nS sc, .slice va nV vc, .int .i64 pub] 117 (0, 0))) := heap_alloc_new _ _
 obtain ⟨c0, c1, c2, c3, c4⟩ := cells5 X0.out
 by_cases a1 : (ln : Int) <= l
 · obtain ⟨l1, HL1⟩ := nmd (l - (ln : Int))
   have hl1 : 0 <= l1 /\ l1 <= 1048576 := by have := HL1.out; omega
   obtain ⟨hl10, hl11⟩ := hl1
   have hl1e := HL1.out
   have hw1 : IntKind.i64.wrap (l - (ln : Int)) = l1 := by rw [hl1e]; exact IntWalk.i64_in _ (by omega)
   have hn1 : ¬ (l1 < 0) := by omega
   go_enter Tryz.func74, Tryz.ntmps74
   go_wp2_with fail
   clear c0 c1 c2 c3 c4 hw1 hl1e
   generalize (w.alloc (.cells #[.string b, .int .i64 nx, .slice sa nS sc, .slice va nV vc, .int .i64 pub] 117)) = W0 at *
   refine (HCS.out _ (HA.out.s.below B0.out) l1 hl10 hl11).mono ?_
   rintro e w1 ⟨rfl, hb⟩
   have B1 := hdn (B0.out.trans (hb.mono B0.out.size))
   have X1 := hdn (below_row hb (row_lt X0.out) X0.out)
   clear hb B0 X0
   by_cases a2 : (uS : Int) <= l1
   · rw [szW_le a2]
     obtain ⟨l2, HL2⟩ := nmd (l1 - (uS : Int))
     have hl2 : 0 <= l2 /\ l2 <= 1048576 := by have := HL2.out; omega
     obtain ⟨hl20, hl21⟩ := hl2
     rw [HL2.out]
     have hn2 : ¬ (l2 < 0) := by omega
     obtain ⟨c0, c1, c2, c3, c4⟩ := cells5 X1.out
     go_wp2_with fail
     clear c0 c1 c2 c3 c4
     refine (HCV.out _ (HA.out.v.below B1.out) l2 hl20 hl21).mono ?_
     rintro e w2 ⟨rfl, hb⟩
     have B2 := hdn (B1.out.trans (hb.mono B1.out.size))
     clear hb B1 X1
     by_cases a3 : (uV : Int) <= l2
     · have HF := hdn (HYES.out (by have := HL1.out; have := HL2.out; omega))
       rw [szW_le a3]
       have HF2 : Hid (r = l2 - (uV : Int)) := by have := HF.out; have := HL1.out; have := HL2.out; show _ = _; omega
       rw [<- HF2.out]
       have hn3 : ¬ (r < 0) := by have := HF2.out; omega
       clear HF HF2
       go_wp2
       go_ret
       exact ⟨rfl, B2.out⟩
     · have HF := hdn (HNO.out (by have := HL1.out; have := HL2.out; omega))
       rw [szW_lt a3]
       go_wp2
       go_ret
       exact ⟨by rw [HF.out]; rfl, B2.out⟩
   · have HF := hdn (HNO.out (by have := HL1.out; omega))
     rw [szW_lt a2]
     go_wp2
     go_ret
     exact ⟨by rw [HF.out]; rfl, B1.out⟩
 · have HF := hdn (HNO.out (by omega))
   have hn1 : l - (ln : Int) < 0 := by omega
   go_enter Tryz.func74, Tryz.ntmps74
   go_wp2
   go_ret
   exact ⟨by rw [HF.out]; rfl, B0.out⟩
set_option maxHeartbeats 2000000 in
theorem szTenantS_any (a : Option Addr) (c : Nat) (X : List TN) (left : Int) (w : World) (hA : TensAt w a X) (h0 : 0 <= left) (h1 : left <= 1048576) (hn : X.length <= 9223372036854775807) (hok : ∀ x ∈ X, TNOk 9223372036854775807 x) :
 Calls Tryz.prog 29 #[.slice a X.length c, .int .i64 left] w fun e w' => e = .returned (.int .i64 (szW left (useTs X))) /\ Below w.heap.size w w' := by
 have HA := hdn hA
 have HOK := hdn hok
 have HU : Hid (useTs X = X.length + sumF9 useT X) := rfl
 clear hA hok
 obtain ⟨n, HN⟩ := nmd X.length
 rw [HN.out] at hn HU ⊢
 by_cases hl : left < n
 · have HS : Hid (szW left (useTs X) = -1) := szW_lt (by have := HU.out; omega)
   have hl2 : left - (n : Int) < 0 := by omega
   rw [HS.out]
   go_enter Tryz.func29, Tryz.ntmps29
   go_wp2
   go_ret
   exact ⟨rfl, Below.refl _ _⟩
 · obtain ⟨l0, HL0⟩ := nmd (left - (n : Int))
   have hl0 : 0 <= l0 /\ l0 <= 1048576 := by have := HL0.out; omega
   have hl0e := HL0.out
   have hw1 : IntKind.i64.wrap (left - (n : Int)) = l0 := by rw [hl0e]; exact IntWalk.i64_in _ (by omega)
   have hn0 : ¬ (l0 < 0) := by omega
   obtain ⟨r, HR⟩ := nmd (szW left (useTs X))
   have HRY : Hid ((sumF9 useT X : Int) <= l0 -> r = l0 - sumF9 useT X) := fun h => by rw [<- HR.out, szW_le (by have := HU.out; have := HL0.out; omega)]; have := HU.out; have := HL0.out; omega
   have HRN : Hid (l0 < (sumF9 useT X : Int) -> r = -1) := fun h => by rw [<- HR.out, szW_lt (by have := HU.out; have := HL0.out; omega)]
   rw [HR.out]
   clear HR HU
   go_enter Tryz.func29, Tryz.ntmps29
   go_wp2_with fail
   clear hw1 hl0e
   go_loopw [1, 5] (fun tl ti wr => ∃ (k : Nat) (s : Int), k <= n /\ ti = .int .i64 k /\ tl = .int .i64 s /\ Hid (s = l0 - preF useT X k) /\ 0 <= s /\ Below w.heap.size w wr) (fun _ ti _ => n - (intOf ti).toNat)
   case atStart => exact ⟨0, l0, Nat.zero_le _, rfl, rfl, by show _ = _; rw [preF_zero]; omega, hl0.1, Below.refl _ _⟩
   case round =>
    obtain ⟨k, s, hk, rfl, rfl, HSK, hs0, hb⟩ := hrel
    have B1 := hdn hb
    clear hb
    by_cases hlt : k < n
    · have hkn : (k : Int) < n := by omega
      have hkX : k < X.length := by rw [HN.out]; exact hlt
      obtain ⟨b, off, e, c0, c1, c2, c3, c4⟩ := (HA.out.below B1.out).at hkX
      have HNX := hdn (preF_succ useT X hkX)
      have HLE := hdn (preF_le useT X (show k + 1 <= X.length by omega))
      have hmem : X[k] ∈ X := List.getElem_mem hkX
      have HE := hdn (HOK.out _ hmem)
      have HEA := hdn ((HA.out.below B1.out).2 _ hmem)
      have hs1 : s <= 1048576 := by have := HSK.out; omega
      subst e
      generalize X[k] = x at *
      have CE := szTenant_any x s wr hs0 hs1 HE.out HEA.out
      have hu : Hid ((useT x : Int) <= s -> szW s (useT x) = s - useT x) := szW_le
      have hu2 : Hid (s < (useT x : Int) -> szW s (useT x) = -1) := fun h => szW_lt (by omega)
      generalize szW s (useT x) = q at *
      generalize useT x = u at *
      obtain ⟨nm, nx, S, V, pub, sa, va, sc, vc⟩ := x
      simp only at c0 c1 c2 c3 c4 CE
      clear HE HEA hmem
      generalize txt nm = nb at *
      generalize S.length = nS at *
      generalize V.length = nV at *
      go_wp2_with fail
      clear c0 c1 c2 c3 c4
      refine CE.mono ?_
      rintro e w2 ⟨rfl, hb2⟩
      have B2 := hdn (B1.out.trans (hb2.mono B1.out.size))
      clear hb2 B1 CE
      by_cases hms : (u : Int) <= s
      · have hq := hu.out hms
        have hq0 : ¬ (q < 0) := by omega
        have HQ : Hid (q = l0 - preF useT X (k + 1)) := by have := HSK.out; have := HNX.out; show _ = _; omega
        have HQ0 : Hid (0 <= q) := by show _ <= _; omega
        clear hq hu hu2 HSK HNX HLE
        go_wp2
        first
         | exact ⟨⟨k + 1, q, by omega, by first | rfl | go_num, rfl, HQ, HQ0.out, B2.out⟩, by simp [intOf]; omega⟩
         | (go_roundw
            case rel => exact ⟨k + 1, q, by omega, by first | rfl | go_num, rfl, HQ, HQ0.out, B2.out⟩
            case measure => simp [intOf]; omega)
      · have hq := hu2.out (by omega)
        have HF := hdn (HRN.out (by have := HSK.out; have := HNX.out; have := HLE.out; omega))
        subst hq
        clear hu hu2 HSK HNX HLE
        go_wp2
        go_ret
        exact ⟨by rw [HF.out]; rfl, B2.out⟩
    · have hkn : k = n := by omega
      subst hkn
      have HE : Hid (preF useT X k = sumF9 useT X) := by show _ = _; rw [<- HN.out]; exact preF_all _ _
      have HF := hdn (HRY.out (by have := HSK.out; have := HE.out; omega))
      have HF2 : Hid (r = s) := by have := HSK.out; have := HE.out; have := HF.out; show _ = _; omega
      clear HF HE HSK
      go_wp2
      go_ret
      exact ⟨by rw [HF2.out]; rfl, B1.out⟩
set_option maxHeartbeats 1000000 in
theorem szStore_any (a : Option Addr) (c : Nat) (X : List TN) (l : Int) (w : World) (hA : TensAt w a X) (h0 : 0 <= l) (h1 : l <= 1048576) (hn : X.length <= 9223372036854775807) (hok : ∀ x ∈ X, TNOk 9223372036854775807 x) :
 Calls Tryz.prog 8 #[.agg #[.slice a X.length c], .int .i64 l] w fun e w' => e = .returned (.int .i64 (szW l (useTs X))) /\ Below w.heap.size w w' := by
 have CT := fun W (h : TensAt W a X) => szTenantS_any a c X l W h h0 h1 hn hok
 have HA := hdn hA
 obtain ⟨r, HR⟩ := nmd (szW l (useTs X))
 have hr : r = -1 ∨ 0 <= r := by have := HR.out; unfold szW at this; split at this <;> omega
 rw [HR.out] at CT ⊢
 clear hA hok HR
 obtain ⟨n, HN⟩ := nmd X.length
 rw [HN.out] at CT hn ⊢
 have B0 := hdn ((Below.refl w.heap.size w).alloc (Nat.le_refl _) (.cells #[.slice a n c] 24))
 have c0 : (w.alloc (.cells #[.slice a n c] 24)).cell? ⟨w.heap.size, 0, none⟩ = some (.slice a n c) := by rw [cell_of_row _ _ _ _ _ _ (heap_alloc_new w _)]; rfl
 go_enter Tryz.func8, Tryz.ntmps8
 go_wp2_with fail
 clear c0
 refine (CT _ (HA.out.below B0.out)).mono ?_
 rintro e w1 ⟨rfl, hb⟩
 have B1 := hdn (B0.out.trans (hb.mono B0.out.size))
 clear hb CT
 rcases hr with rfl | hr
 · go_wp2
   go_ret
   exact ⟨rfl, B1.out⟩
 · have hn : ¬ (r < 0) := by omega
   go_wp2
   go_ret
   exact ⟨rfl, B1.out⟩
def fstF (p : UInt8) (s : List UInt8) : List UInt8 × List UInt8 := (s.takeWhile (fun c => c != p), (s.dropWhile (fun c => c != p)).drop 1)
theorem fstF_at {p : UInt8} : ∀ (s : List UInt8) (k : Nat), k <= s.length -> (∀ j, j < k -> s.getD j 0 ≠ p) -> (k = s.length ∨ s.getD k 0 = p) -> fstF p s = (s.take k, s.drop (k + 1))
 | [], k, hk, _, _ => by
   have : k = 0 := by simpa using hk
   subst this
   rfl
 | c :: s, 0, _, _, hn => by
   have hc : c = p := by
    rcases hn with hn | hn
    · simp at hn
    · exact hn
   subst hc
   simp [fstF]
 | c :: s, k + 1, hk, hd, hn => by
   have h0 : c ≠ p := hd 0 (by omega)
   have ih := fstF_at s k (by simpa using hk) (fun j hj => hd (j + 1) (by omega)) (by
    rcases hn with hn | hn
    · left; simpa using hn
    · right; exact hn)
   have hb : (c != p) = true := by simpa using h0
   unfold fstF at ih ⊢
   rw [List.takeWhile_cons, List.dropWhile_cons, if_pos hb, if_pos hb, List.take_succ_cons, List.drop_succ_cons]
   simp only [Prod.mk.injEq] at ih
   rw [ih.1, ih.2]
def RX (w : World) (q : Nat) (s : List UInt8) : Prop := w.heap[q]? = some (.cells #[.string (txt s)] 160 (0, 0))
theorem txt_drop (s : List UInt8) (k : Nat) : (txt s).extract k s.length = txt (s.drop k) := by
 apply ByteArray.ext
 simp [txt]
 exact List.take_of_length_le (by simp)
theorem txt_take (s : List UInt8) (k : Nat) : (txt s).extract 0 k = txt (s.take k) := by
 apply ByteArray.ext
 simp [txt]
end Go.Proofs.YtehfjfmfpdgibaaGreatDoor
