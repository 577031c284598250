import Derived.Test.YtehfjfmfpdgibaaGreatDoorPack0
import Derived.Test.YtehfjfmfpdgibaaGreatDoorPack1
import Derived.Laws.MakeOwn
namespace Go.Proofs.YtehfjfmfpdgibaaGreatDoor
open Go.RowKit
structure RT where
 v : Int
 a : Option Addr
 ids : List Int
 c : Nat
def rt0 : RT := ⟨0, none, [], 0⟩
instance : Inhabited RT := ⟨rt0⟩
def RT.key (r : RT) : Int × List Int := (r.v, r.ids)
def rtCells (r : RT) : List Value := [.int .i64 r.v, .slice r.a r.ids.length r.c]
def rowR (R : List RT) : List Value := R.flatMap rtCells
theorem rowR_cons (r : RT) (R : List RT) : rowR (r :: R) = rtCells r ++ rowR R := by simp [rowR]
theorem rowR_app (R S : List RT) : rowR (R ++ S) = rowR R ++ rowR S := by simp [rowR]
theorem rowR_len (R : List RT) : (rowR R).length = R.length * 2 := by
 induction R with
 | nil => rfl
 | cons r R ih => rw [rowR_cons, List.length_append, ih]; simp [rtCells]; omega
theorem rowR_at : ∀ (R : List RT) (j : Nat), j < R.length -> (rowR R)[j * 2]? = some (.int .i64 (R.getD j rt0).v) /\ (rowR R)[j * 2 + 1]? = some (.slice (R.getD j rt0).a (R.getD j rt0).ids.length (R.getD j rt0).c)
 | [], j, h => by simp at h
 | r :: R, 0, _ => by rw [rowR_cons]; exact ⟨rfl, rfl⟩
 | r :: R, j + 1, h => by
   have ih := rowR_at R j (by simpa using h)
   rw [rowR_cons]
   have e1 : (j + 1) * 2 = j * 2 + 2 := by omega
   have e2 : (j + 1) * 2 + 1 = j * 2 + 1 + 2 := by omega
   rw [e2, e1]
   simpa [rtCells] using ih
theorem rowR_set : ∀ (R : List RT) (j : Nat) (r : RT), j < R.length -> ((rowR R).set (j * 2) (.int .i64 r.v)).set (j * 2 + 1) (.slice r.a r.ids.length r.c) = rowR (R.set j r)
 | [], j, r, h => by simp at h
 | x :: R, 0, r, _ => by rw [List.set_cons_zero, rowR_cons, rowR_cons]; rfl
 | x :: R, j + 1, r, h => by
   have ih := rowR_set R j r (by simpa using h)
   rw [List.set_cons_succ, rowR_cons, rowR_cons, <- ih]
   have e1 : (j + 1) * 2 = j * 2 + 2 := by omega
   have e2 : (j + 1) * 2 + 1 = j * 2 + 1 + 2 := by omega
   rw [e2, e1]
   rfl
def RoutesAt (w : World) (ra : Option Addr) (R : List RT) : Prop := ∀ j, j < R.length -> ∃ b off, ra = some ⟨b, off, none⟩ /\ w.cell? ⟨b, off + j * 2, none⟩ = some (.int .i64 (R.getD j rt0).v) /\ w.cell? ⟨b, off + j * 2 + 1, none⟩ = some (.slice (R.getD j rt0).a (R.getD j rt0).ids.length (R.getD j rt0).c) /\ IntsAt w (R.getD j rt0).a (R.getD j rt0).ids
theorem RoutesAt.below {w w' : World} {ra : Option Addr} {R : List RT} (h : RoutesAt w ra R) (hb : Below w.heap.size w w') : RoutesAt w' ra R := fun j hj => by
 obtain ⟨b, off, e, h1, h2, h3⟩ := h j hj
 exact ⟨b, off, e, (hb.cell (p := ⟨b, off + j * 2, none⟩) (block_lt_of_cell h1)).trans h1, (hb.cell (p := ⟨b, off + j * 2 + 1, none⟩) (block_lt_of_cell h2)).trans h2, h3.below hb⟩
theorem RoutesAt.of_row {w : World} {g : Nat} {T : TypeId} {R : List RT} (h : w.heap[g]? = some (.cells (rowR R).toArray T (0, 0))) (hi : ∀ r ∈ R, IntsAt w r.a r.ids) : RoutesAt w (some ⟨g, 0, none⟩) R := fun j hj => by
 obtain ⟨h1, h2⟩ := rowR_at R j hj
 refine ⟨g, 0, rfl, ?_, ?_, hi _ (by rw [List.getD_eq_getElem?_getD, List.getElem?_eq_getElem hj]; simp)⟩
 · rw [cell_of_row _ _ _ _ _ _ h, Nat.zero_add]; simpa using h1
 · rw [cell_of_row _ _ _ _ _ _ h, Nat.zero_add]; simpa using h2
def szR (R : List RT) (left : Int) : Nat -> Int
 | 0 => left
 | k + 1 => if szR R left k < 0 then -1 else if szR R left k < ((R.getD k rt0).ids.length : Int) then -1 else szR R left k - (R.getD k rt0).ids.length
theorem szR_le (R : List RT) (left : Int) (h : 0 <= left) : ∀ k, szR R left k <= left /\ -1 <= szR R left k
 | 0 => ⟨Int.le_refl _, by simp [szR]; omega⟩
 | k + 1 => by
   have ih := szR_le R left h k
   simp only [szR]
   split
   · omega
   · split
     · omega
     · omega
end Go.Proofs.YtehfjfmfpdgibaaGreatDoor

namespace Go.Proofs.YtehfjfmfpdgibaaGreatDoor
open Go.RowKit
def allTo (R : List RT) (k : Nat) : List Int := (R.take k).flatMap RT.ids
theorem allTo_zero (R : List RT) : allTo R 0 = [] := by simp [allTo]
theorem allTo_succ {R : List RT} {k : Nat} (h : k < R.length) : allTo R (k + 1) = allTo R k ++ (R.getD k rt0).ids := by
 unfold allTo
 rw [List.take_add_one, List.flatMap_append, List.getD_eq_getElem?_getD, List.getElem?_eq_getElem h]
 simp
theorem allTo_le (R : List RT) : ∀ {k m : Nat}, k <= m -> m <= R.length -> (allTo R k).length <= (allTo R m).length
 | k, 0, h, _ => by have : k = 0 := by omega
                    subst this; exact Nat.le_refl _
 | k, m + 1, h, hm => by
   by_cases e : k = m + 1
   · rw [e]; exact Nat.le_refl _
   · have := allTo_le R (k := k) (m := m) (by omega) (by omega)
     rw [allTo_succ (by omega), List.length_append]
     omega
theorem allTo_take {R : List RT} {k j : Nat} (h : k < R.length) (hj : j <= (R.getD k rt0).ids.length) : (allTo R k ++ (R.getD k rt0).ids.take j).length <= (allTo R R.length).length := by
 have := allTo_le R (k := k + 1) (m := R.length) (by omega) (Nat.le_refl _)
 rw [allTo_succ h, List.length_append] at this
 rw [List.length_append, List.length_take]
 omega
def RtsOk (n : Int) (zs os vs : List Int) (ko kv : Nat) (R : List RT) (k : Nat) : Prop := ∀ j, j < k -> (0 < j -> (R.getD (j - 1) rt0).v < (R.getD j rt0).v) /\ (R.getD j rt0).ids ≠ [] /\ codeV true n zs os vs ko kv (R.getD j rt0).v (R.getD j rt0).ids = 0
theorem RtsOk.zero (n : Int) (zs os vs : List Int) (ko kv : Nat) (R : List RT) : RtsOk n zs os vs ko kv R 0 := fun j hj => by omega
theorem RtsOk.step {n : Int} {zs os vs : List Int} {ko kv : Nat} {R : List RT} {k : Nat} (h : RtsOk n zs os vs ko kv R k) (h1 : 0 < k -> (R.getD (k - 1) rt0).v < (R.getD k rt0).v) (h2 : (R.getD k rt0).ids ≠ []) (h3 : codeV true n zs os vs ko kv (R.getD k rt0).v (R.getD k rt0).ids = 0) : RtsOk n zs os vs ko kv R (k + 1) := fun j hj => by
 by_cases e : j = k
 · subst e; exact ⟨h1, h2, h3⟩
 · exact h j (by omega)
def Once (fl L : List Int) : Prop := fl.Nodup /\ ∀ x ∈ L, x ∉ fl
def LeftOk (os : List Int) (ko : Nat) (L : List Int) (k : Nat) : Prop := ∀ j, j < k -> fnd6T os ko (L.getD j 0) = true /\ (0 < j -> L.getD (j - 1) 0 < L.getD j 0)
theorem LeftOk.zero (os : List Int) (ko : Nat) (L : List Int) : LeftOk os ko L 0 := fun j hj => by omega
theorem LeftOk.step {os : List Int} {ko : Nat} {L : List Int} {k : Nat} (h : LeftOk os ko L k) (h1 : fnd6T os ko (L.getD k 0) = true) (h2 : 0 < k -> L.getD (k - 1) 0 < L.getD k 0) : LeftOk os ko L (k + 1) := fun j hj => by
 by_cases e : j = k
 · subst e; exact ⟨h1, h2⟩
 · exact h j (by omega)
open Classical in
noncomputable def planV (n : Int) (zs os vs : List Int) (ko kv : Nat) (fine : Int) (R : List RT) (L : List Int) : Int :=
 if caseB n zs os vs ko kv fine = true then
  if RtsOk n zs os vs ko kv R R.length then
   if Once (allTo R R.length) L then
    if LeftOk os ko L L.length /\ (allTo R R.length).length + L.length = ko then 0 else 4
   else 3
  else 2
 else 1
theorem planV_1 {n : Int} {zs os vs : List Int} {ko kv : Nat} {fine : Int} {R : List RT} {L : List Int} (h : caseB n zs os vs ko kv fine = false) : planV n zs os vs ko kv fine R L = 1 := by
 unfold planV; rw [if_neg (by rw [h]; simp)]
theorem planV_2 {n : Int} {zs os vs : List Int} {ko kv : Nat} {fine : Int} {R : List RT} {L : List Int} (h : caseB n zs os vs ko kv fine = true) (h2 : ¬ RtsOk n zs os vs ko kv R R.length) : planV n zs os vs ko kv fine R L = 2 := by
 unfold planV; rw [if_pos h, if_neg h2]
theorem planV_3 {n : Int} {zs os vs : List Int} {ko kv : Nat} {fine : Int} {R : List RT} {L : List Int} (h : caseB n zs os vs ko kv fine = true) (h2 : RtsOk n zs os vs ko kv R R.length) (h3 : ¬ Once (allTo R R.length) L) : planV n zs os vs ko kv fine R L = 3 := by
 unfold planV; rw [if_pos h, if_pos h2, if_neg h3]
theorem planV_4 {n : Int} {zs os vs : List Int} {ko kv : Nat} {fine : Int} {R : List RT} {L : List Int} (h : caseB n zs os vs ko kv fine = true) (h2 : RtsOk n zs os vs ko kv R R.length) (h3 : Once (allTo R R.length) L) (h4 : ¬ (LeftOk os ko L L.length /\ (allTo R R.length).length + L.length = ko)) : planV n zs os vs ko kv fine R L = 4 := by
 unfold planV; rw [if_pos h, if_pos h2, if_pos h3, if_neg h4]
theorem planV_0 {n : Int} {zs os vs : List Int} {ko kv : Nat} {fine : Int} {R : List RT} {L : List Int} (h : caseB n zs os vs ko kv fine = true) (h2 : RtsOk n zs os vs ko kv R R.length) (h3 : Once (allTo R R.length) L) (h4 : LeftOk os ko L L.length) (h5 : (allTo R R.length).length + L.length = ko) : planV n zs os vs ko kv fine R L = 0 := by
 unfold planV; rw [if_pos h, if_pos h2, if_pos h3, if_pos ⟨h4, h5⟩]
theorem planV_zero {n : Int} {zs os vs : List Int} {ko kv : Nat} {fine : Int} {R : List RT} {L : List Int} (h : planV n zs os vs ko kv fine R L = 0) : caseB n zs os vs ko kv fine = true /\ RtsOk n zs os vs ko kv R R.length /\ Once (allTo R R.length) L /\ LeftOk os ko L L.length /\ (allTo R R.length).length + L.length = ko := by
 unfold planV at h
 by_cases h1 : caseB n zs os vs ko kv fine = true
 · rw [if_pos h1] at h
   by_cases h2 : RtsOk n zs os vs ko kv R R.length
   · rw [if_pos h2] at h
     by_cases h3 : Once (allTo R R.length) L
     · rw [if_pos h3] at h
       by_cases h4 : LeftOk os ko L L.length /\ (allTo R R.length).length + L.length = ko
       · exact ⟨h1, h2, h3, h4⟩
       · rw [if_neg h4] at h; cases h
     · rw [if_neg h3] at h; cases h
   · rw [if_neg h2] at h; cases h
 · rw [if_neg h1] at h; cases h
theorem veh_pos {n : Int} {zs os vs : List Int} {ko kv : Nat} {fine veh : Int} {ids : List Int} (hc : caseB n zs os vs ko kv fine = true) (h : codeV true n zs os vs ko kv veh ids = 0) : 0 < veh := by
 have h5 := (formV_zero (codeV_zero h).1).2.1
 have hv := (caseB_parts hc).2.2.1
 unfold fnd5T at h5
 cases hf : fnd5 vs kv veh with
 | none => rw [hf] at h5; cases h5
 | some i =>
   unfold fnd5 at hf
   have h1 := List.find?_some hf
   have h2 : i < kv := by simpa using List.mem_of_find?_eq_some hf
   have h3 := ((vehsB_true hv).2 i h2).1
   simp at h1
   unfold vehB inB at h3
   simp at h3
   omega
theorem ord_pos {n : Int} {zs os vs : List Int} {ko kv : Nat} {fine id : Int} (hc : caseB n zs os vs ko kv fine = true) (h : fnd6T os ko id = true) : 0 < id := by
 have hv := (caseB_parts hc).2.1
 unfold fnd6T at h
 cases hf : fnd6 os ko id with
 | none => rw [hf] at h; cases h
 | some i =>
   unfold fnd6 at hf
   have h1 := List.find?_some hf
   have h2 : i < ko := by simpa using List.mem_of_find?_eq_some hf
   have h3 := ((ordsB_true hv).2 i h2).1
   simp at h1
   unfold ordB inB at h3
   simp at h3
   omega
def lastV (R : List RT) : Nat -> Int
 | 0 => 0
 | k + 1 => (R.getD k rt0).v
def lastI (L : List Int) : Nat -> Int
 | 0 => 0
 | k + 1 => L.getD k 0
theorem lastV_lt {n : Int} {zs os vs : List Int} {ko kv : Nat} {fine : Int} {R : List RT} {k : Nat} (hc : caseB n zs os vs ko kv fine = true) (h : codeV true n zs os vs ko kv (R.getD k rt0).v (R.getD k rt0).ids = 0) : (0 < k -> (R.getD (k - 1) rt0).v < (R.getD k rt0).v) ↔ lastV R k < (R.getD k rt0).v := by
 cases k with
 | zero => exact ⟨fun _ => veh_pos hc h, fun _ h => by omega⟩
 | succ k => exact ⟨fun h => h (by omega), fun h _ => h⟩
theorem lastI_lt {n : Int} {zs os vs : List Int} {ko kv : Nat} {fine : Int} {L : List Int} {k : Nat} (hc : caseB n zs os vs ko kv fine = true) (h : fnd6T os ko (L.getD k 0) = true) : (0 < k -> L.getD (k - 1) 0 < L.getD k 0) ↔ lastI L k < L.getD k 0 := by
 cases k with
 | zero => exact ⟨fun _ => ord_pos hc h, fun _ h => by omega⟩
 | succ k => exact ⟨fun h => h (by omega), fun h _ => h⟩
theorem hasTo_mem (zs : List Int) (id : Int) : hasTo zs zs.length id = decide (id ∈ zs) := by
 by_cases h : id ∈ zs
 · rw [decide_eq_true h]
   obtain ⟨j, hj, e⟩ := List.getElem_of_mem h
   exact hasTo_yes hj (by rw [List.getD_eq_getElem?_getD, List.getElem?_eq_getElem hj]; exact e)
 · rw [decide_eq_false h]
   exact hasTo_no fun j hj e => h (by rw [<- e, List.getD_eq_getElem?_getD, List.getElem?_eq_getElem hj]; simp)
theorem nodup_snoc (l : List Int) (x : Int) : (l ++ [x]).Nodup ↔ l.Nodup /\ x ∉ l := by
 rw [List.nodup_append]
 constructor
 · rintro ⟨h1, _, h3⟩
   exact ⟨h1, fun h => h3 x h x (by simp) rfl⟩
 · rintro ⟨h1, h2⟩
   exact ⟨h1, by simp, fun a ha b hb e => h2 (by simp at hb; rw [<- hb, <- e]; exact ha)⟩
end Go.Proofs.YtehfjfmfpdgibaaGreatDoor

namespace Go.Proofs.YtehfjfmfpdgibaaGreatDoor
open Go.RowKit
def szRS (R : List RT) (left : Int) : Int := if left < (R.length : Int) then -1 else szR R (left - R.length) R.length
def szPl (R : List RT) (ln : Nat) (left : Int) : Int := if szRS R left < 0 then -1 else if szRS R left < (ln : Int) then -1 else szRS R left - ln
theorem szR_neg (R : List RT) (left : Int) {k : Nat} (h : szR R left k = -1) : szR R left (k + 1) = -1 := by
 have e : szR R left (k + 1) = if szR R left k < 0 then -1 else if szR R left k < ((R.getD k rt0).ids.length : Int) then -1 else szR R left k - (R.getD k rt0).ids.length := rfl
 rw [e, h, if_pos (by omega)]
theorem szR_stuck (R : List RT) (left : Int) (k : Nat) (h : szR R left k = -1) : ∀ m, szR R left (k + m) = -1
 | 0 => h
 | m + 1 => szR_neg R left (szR_stuck R left k h m)
theorem szR_down (R : List RT) (left : Int) {k n : Nat} (h : k <= n) (hk : szR R left k = -1) : szR R left n = -1 ∨ k = n := by
 rcases Nat.lt_or_ge k n with h' | h'
 · left
   have := szR_stuck R left k hk (n - k)
   rwa [show k + (n - k) = n by omega] at this
 · exact .inr (by omega)
theorem infoRt : (Tryz.prog.info? 134).map (fun i => (i.zero, i.size, i.bytes)) = some (some (.agg #[Value.int .i64 0, Value.slice none 0 0]), 2, 32) := by kernel_rfl
theorem made_rt (n : Nat) : madeCells (Value.agg #[Value.int .i64 0, Value.slice none 0 0]).cells (n * 2) = (rowR (List.replicate n rt0)).toArray := by
 apply Array.ext
 · simp [madeCells, rowR_len]
 · intro i h1 h2
   have hi : i < n * 2 := by simpa [madeCells] using h1
   obtain ⟨j, hj⟩ : ∃ j, j = i / 2 := ⟨_, rfl⟩
   have hjn : j < (List.replicate n rt0).length := by simp; omega
   obtain ⟨g1, g2⟩ := rowR_at (List.replicate n rt0) j hjn
   have hd : (List.replicate n rt0).getD j rt0 = rt0 := by simp only [List.getD_eq_getElem?_getD]; rw [List.getElem?_replicate]; split <;> rfl
   rw [hd] at g1 g2
   simp only [madeCells, Value.cells, Array.getElem_map, Array.getElem_range, List.getElem_toArray]
   rcases Nat.mod_two_eq_zero_or_one i with h | h
   · have e : i = j * 2 := by omega
     subst e
     have := List.getElem?_eq_some_iff.1 g1
     rw [this.2]
     show (#[Value.int .i64 0, Value.slice none 0 0])[(j * 2) % 2]! = _
     rw [h]
     rfl
   · have e : i = j * 2 + 1 := by omega
     subst e
     have := List.getElem?_eq_some_iff.1 g2
     rw [this.2]
     show (#[Value.int .i64 0, Value.slice none 0 0])[(j * 2 + 1) % 2]! = _
     rw [h]
     rfl
theorem make_rt (W : World) (len : Nat) (hlen : len <= 1048576) :
 (Instr.makeSlice 43 (.int .i64 len) (.int .i64 len)).run Tryz.prog W = .ok (.slice (some ⟨W.heap.size, 0, none⟩) len len) (W.alloc (.cells (rowR (List.replicate len rt0)).toArray 134)) := by
 have h := infoRt
 cases hq : Tryz.prog.info? 134 with
 | none => simp [hq] at h
 | some i =>
   simp [hq] at h
   obtain ⟨hz, hs, hb⟩ := h
   have := run_make (P := Tryz.prog) W 43 134 i (.agg #[Value.int .i64 0, Value.slice none 0 0]) Tryz.underlying43 hq hz .i64 .i64 len len (by omega) (by omega) (by rw [hb]; omega) (by omega)
   rw [this, hs]
   simp only [Int.toNat_natCast, made_rt]
def NewR (w : World) (base : Nat) (R S : List RT) : Prop := S.map RT.key = R.map RT.key /\ ∀ s ∈ S, ∃ g, s.a = some ⟨g, 0, none⟩ /\ base <= g /\ s.c = s.ids.length /\ w.heap[g]? = some (.cells (cellsOf s.ids) 2 (0, 0))
theorem NewR.below {w w' : World} {base : Nat} {R S : List RT} (h : NewR w base R S) (hb : Below w.heap.size w w') : NewR w' base R S :=
 ⟨h.1, fun s hs => by obtain ⟨g, h1, h2, h3, h4⟩ := h.2 s hs; exact ⟨g, h1, h2, h3, below_row hb (row_lt h4) h4⟩⟩
theorem row_sets {W : World} {g k i : Nat} {o : Obj} {v : Value} (h : W.heap[g]? = some o) (hne : g ≠ k) : (W.setCell ⟨k, i, none⟩ v).heap[g]? = some o := by
 rw [heap_setCell_other _ _ _ _ (by simpa using hne)]; exact h
theorem NewR.set {w : World} {base k i : Nat} {v : Value} {R S : List RT} (h : NewR w base R S) (hk : k < base) : NewR (w.setCell ⟨k, i, none⟩ v) base R S :=
 ⟨h.1, fun s hs => by obtain ⟨g, h1, h2, h3, h4⟩ := h.2 s hs; exact ⟨g, h1, h2, h3, row_sets h4 (by omega)⟩⟩
theorem key_at {R S : List RT} (h : S.map RT.key = R.map RT.key) (j : Nat) : (S.getD j rt0).v = (R.getD j rt0).v /\ (S.getD j rt0).ids = (R.getD j rt0).ids := by
 have hl : S.length = R.length := by simpa using congrArg List.length h
 rcases Nat.lt_or_ge j R.length with hj | hj
 · have e : (S.map RT.key)[j]? = (R.map RT.key)[j]? := by rw [h]
   rw [List.getElem?_map, List.getElem?_map, List.getElem?_eq_getElem (by omega), List.getElem?_eq_getElem hj] at e
   simp only [Option.map_some, Option.some.injEq, RT.key, Prod.mk.injEq] at e
   simp only [List.getD_eq_getElem?_getD, List.getElem?_eq_getElem hj, List.getElem?_eq_getElem (show j < S.length by omega), Option.getD_some]
   exact e
 · have e1 : R.getD j rt0 = rt0 := by rw [List.getD_eq_getElem?_getD, List.getElem?_eq_none hj]; rfl
   have e2 : S.getD j rt0 = rt0 := by rw [List.getD_eq_getElem?_getD, List.getElem?_eq_none (show S.length <= j by omega)]; rfl
   rw [e1, e2]
   exact ⟨rfl, rfl⟩
theorem key_len {R S : List RT} (h : S.map RT.key = R.map RT.key) : S.length = R.length := by
 have := congrArg List.length h
 simpa using this
theorem allTo_key {R S : List RT} (h : S.map RT.key = R.map RT.key) (k : Nat) : allTo S k = allTo R k := by
 have e : ∀ T : List RT, allTo T k = ((T.map RT.key).take k).flatMap (fun x => x.2) := fun T => by
  unfold allTo
  rw [<- List.map_take, List.flatMap_map]
  rfl
 rw [e S, e R, h]
theorem RtsOk_key {n : Int} {zs os vs : List Int} {ko kv : Nat} {R S : List RT} (h : S.map RT.key = R.map RT.key) (k : Nat) : RtsOk n zs os vs ko kv S k ↔ RtsOk n zs os vs ko kv R k := by
 have e := key_at h
 unfold RtsOk
 constructor
 · intro H j hj
   have := H j hj
   rw [(e j).1, (e j).2, (e (j - 1)).1] at this
   exact this
 · intro H j hj
   have := H j hj
   rw [(e j).1, (e j).2, (e (j - 1)).1]
   exact this
theorem planV_key {n : Int} {zs os vs : List Int} {ko kv : Nat} {fine : Int} {R S : List RT} (L : List Int) (h : S.map RT.key = R.map RT.key) : planV n zs os vs ko kv fine S L = planV n zs os vs ko kv fine R L := by
 unfold planV
 rw [key_len h, allTo_key h]
 by_cases hc : caseB n zs os vs ko kv fine = true
 · rw [if_pos hc, if_pos hc]
   by_cases hr : RtsOk n zs os vs ko kv R R.length
   · rw [if_pos hr, if_pos ((RtsOk_key h _).2 hr)]
   · rw [if_neg hr, if_neg (fun x => hr ((RtsOk_key h _).1 x))]
 · rw [if_neg hc, if_neg hc]
theorem key_ids {R S : List RT} (h : S.map RT.key = R.map RT.key) {b : Nat} (hi : ∀ r ∈ R, r.ids.length <= b) : ∀ s ∈ S, s.ids.length <= b := fun s hs => by
 have : s.key ∈ S.map RT.key := List.mem_map_of_mem hs
 rw [h] at this
 obtain ⟨r, hr, e⟩ := List.mem_map.1 this
 have := hi r hr
 unfold RT.key at e
 simp at e
 rw [<- e.2]
 exact this
set_option maxHeartbeats 1000000 in
theorem szRouteS_any (ra : Option Addr) (rc : Nat) (R : List RT) (left : Int) (w : World) (hA : RoutesAt w ra R) (h0 : 0 <= left) (h1 : left <= 1048576) (hn : R.length <= 9223372036854775807) (hi : ∀ r ∈ R, r.ids.length <= 9223372036854775807) :
 Calls Tryz.prog 215 #[.slice ra R.length rc, .int .i64 left] w fun e w' => e = .returned (.int .i64 (szRS R left)) /\ Below w.heap.size w w' := by
 have HA : Hid (RoutesAt w ra R) := hA
 have HI : Hid (∀ r ∈ R, r.ids.length <= 9223372036854775807) := hi
 clear hA hi
 obtain ⟨n, HN⟩ := nmd R.length
 rw [HN.out] at hn ⊢
 by_cases hl : left < n
 · have HS : Hid (szRS R left = -1) := by show _ = _; unfold szRS; rw [HN.out, if_pos hl]
   have hl2 : left - (n : Int) < 0 := by omega
   go_enter Tryz.func215, Tryz.ntmps215
   go_wp2
   go_ret
   exact ⟨by rw [HS.out]; rfl, Below.refl _ _⟩
 · obtain ⟨l0, HL0⟩ := nmd (left - (n : Int))
   have HS : Hid (szRS R left = szR R l0 n) := by show _ = _; unfold szRS; rw [HN.out, if_neg hl, HL0.out]
   have hl0 : 0 <= l0 /\ l0 <= 1048576 := by have := HL0.out; omega
   have hl0e := HL0.out
   have hw1 : IntKind.i64.wrap (left - (n : Int)) = l0 := by rw [hl0e]; exact IntWalk.i64_in _ (by omega)
   have hn0 : ¬ (l0 < 0) := by omega
   go_enter Tryz.func215, Tryz.ntmps215
   go_wp2_with fail
   clear hw1 hl0e
   go_loopw [1, 5] (fun tl ti wr => ∃ k : Nat, k <= n /\ ti = .int .i64 k /\ tl = .int .i64 (szR R l0 k) /\ 0 <= szR R l0 k /\ Below w.heap.size w wr) (fun _ ti _ => n - (intOf ti).toNat)
   case atStart => exact ⟨0, Nat.zero_le _, rfl, rfl, hl0.1, Below.refl _ _⟩
   case round =>
    obtain ⟨k, hk, rfl, rfl, hs0, hb⟩ := hrel
    have B1 : Hid (Below w.heap.size w wr) := hb
    clear hb
    have hsl := (szR_le R l0 hl0.1 k).1
    have HNX : Hid (szR R l0 (k + 1) = if szR R l0 k < ((R.getD k rt0).ids.length : Int) then -1 else szR R l0 k - (R.getD k rt0).ids.length) := by
     show _ = _
     simp only [szR]
     rw [if_neg (by omega)]
    obtain ⟨s, HSK⟩ := nmd (szR R l0 k)
    rw [HSK.out] at hs0 hsl HNX ⊢
    by_cases hlt : k < n
    · have hkn : (k : Int) < n := by omega
      obtain ⟨b, off, e, c1, c2, _⟩ := (HA.out.below B1.out) k (by rw [HN.out]; exact hlt)
      have him : (R.getD k rt0).ids.length <= 9223372036854775807 := HI.out _ (by
       have : k < R.length := by rw [HN.out]; exact hlt
       rw [List.getD_eq_getElem?_getD, List.getElem?_eq_getElem this]; simp)
      subst e
      generalize R.getD k rt0 = r at *
      obtain ⟨rv, rra, rids, rcc⟩ := r
      simp only at c1 c2 HNX him
      generalize rids.length = m at *
      go_wp2_with fail
      refine (szRoute_any rv rra m rcc s wr hs0 (by omega) him).mono ?_
      rintro e w2 ⟨rfl, hb2⟩
      have B2 : Hid (Below w.heap.size w w2) := B1.out.trans (hb2.mono B1.out.size)
      clear hb2 B1
      by_cases hms : s < m
      · rw [if_pos hms] at HNX ⊢
        have HSN : Hid (szR R l0 n = -1) := by
         rcases szR_down R l0 (show k + 1 <= n by omega) HNX.out with h | h
         · exact h
         · rw [<- h]; exact HNX.out
        go_wp2
        go_ret
        exact ⟨by rw [HS.out, HSN.out]; rfl, B2.out⟩
      · rw [if_neg hms] at HNX ⊢
        obtain ⟨s2, HS2⟩ := nmd (s - (m : Int))
        have hs2 : ¬ (s2 < 0) := by have := HS2.out; omega
        rw [HS2.out] at HNX ⊢
        clear hms
        go_wp2
        first
         | exact ⟨⟨k + 1, by omega, by first | rfl | go_num, by rw [HNX.out], by rw [HNX.out]; omega, B2.out⟩, by simp [intOf]; omega⟩
         | (go_roundw
            case rel => exact ⟨k + 1, by omega, by first | rfl | go_num, by rw [HNX.out], by rw [HNX.out]; omega, B2.out⟩
            case measure => simp [intOf]; omega)
    · have hkn : k = n := by omega
      subst hkn
      have HSF : Hid (szRS R left = s) := HS.out.trans HSK.out
      clear HS HSK HNX
      go_wp2
      go_ret
      exact ⟨by rw [HSF.out]; rfl, B1.out⟩
set_option maxHeartbeats 1000000 in
theorem szPlan_any (ra la : Option Addr) (rc ln lc : Nat) (R : List RT) (left : Int) (w : World) (hA : RoutesAt w ra R) (h0 : 0 <= left) (h1 : left <= 1048576) (hn : R.length <= 9223372036854775807) (hln : ln <= 9223372036854775807) (hi : ∀ r ∈ R, r.ids.length <= 9223372036854775807) :
 Calls Tryz.prog 190 #[.agg #[.slice ra R.length rc, .slice la ln lc], .int .i64 left] w fun e w' => e = .returned (.int .i64 (szPl R ln left)) /\ Below w.heap.size w w' := by
 have HA : Hid (RoutesAt w ra R) := hA
 clear hA
 have B0 : Hid (Below w.heap.size w (w.alloc (.cells #[.slice ra R.length rc, .slice la ln lc] 212))) := (Below.refl _ _).alloc (Nat.le_refl _) _
 have G0 : Hid ((w.alloc (.cells #[.slice ra R.length rc, .slice la ln lc] 212)).heap[w.heap.size]? = some (.cells #[.slice ra R.length rc, .slice la ln lc] 212 (0, 0))) := heap_alloc_new _ _
 have A0 : Hid (RoutesAt (w.alloc (.cells #[.slice ra R.length rc, .slice la ln lc] 212)) ra R) := HA.out.below B0.out
 have hsb : szRS R left <= 1048576 /\ -1 <= szRS R left := by
  unfold szRS
  split
  · omega
  · have := szR_le R (left - R.length) (by omega) R.length
    omega
 go_enter Tryz.func190, Tryz.ntmps190
 obtain ⟨d0, d1⟩ := cells2 G0.out
 go_wp2_with fail
 clear d0 d1
 generalize w.alloc (.cells #[.slice ra R.length rc, .slice la ln lc] 212) = W0 at *
 refine (szRouteS_any ra rc R left W0 A0.out h0 h1 hn hi).mono ?_
 rintro e w1 ⟨rfl, hb⟩
 have B1 : Hid (Below w.heap.size w w1) := B0.out.trans (hb.mono B0.out.size)
 have G1 := below_row hb (row_lt G0.out) G0.out
 clear hb A0 B0 G0
 have HP : Hid (szPl R ln left = if szRS R left < 0 then -1 else if szRS R left < (ln : Int) then -1 else szRS R left - ln) := rfl
 generalize szRS R left = s at *
 by_cases hs : s < 0
 · rw [if_pos hs] at HP
   clear G1
   go_wp2
   go_ret
   exact ⟨by rw [HP.out]; rfl, B1.out⟩
 · rw [if_neg hs] at HP
   obtain ⟨d0, d1⟩ := cells2 G1
   have hs0 : 0 <= s := by omega
   go_wp2_with fail
   clear d0 d1 G1
   refine (szInts_any la ln lc s w1 hs0 hsb.1 hln).mono ?_
   rintro e w2 ⟨rfl, rfl⟩
   have B2 : Hid (Below w.heap.size w w2) := B1.out
   clear B1
   obtain ⟨f, HF⟩ := nmd (szPl R ln left)
   rw [<- HP.out, HF.out]
   rw [HF.out] at HP
   by_cases hf : f < 0
   · have hfe : f = -1 := by
      have := HP.out
      split at this <;> omega
     subst hfe
     clear hf
     go_wp2
     go_ret
     exact ⟨by rw [HF.out]; rfl, B2.out⟩
   · go_wp2
     go_ret
     exact ⟨by rw [HF.out]; rfl, B2.out⟩
set_option maxHeartbeats 2000000 in
theorem toRouteS_any (ra : Option Addr) (rc : Nat) (R : List RT) (w : World) (hA : RoutesAt w ra R) (hn : R.length <= 1048576) (hi : ∀ r ∈ R, r.ids.length <= 1048576) :
 Calls Tryz.prog 220 #[.slice ra R.length rc] w fun e w' => ∃ S, e = .returned (.slice (some ⟨w.heap.size, 0, none⟩) R.length R.length) /\ Below w.heap.size w w' /\ w'.heap[w.heap.size]? = some (.cells (rowR S).toArray 134 (0, 0)) /\ NewR w' (w.heap.size + 1) R S := by
 have HA : Hid (RoutesAt w ra R) := hA
 have HI : Hid (∀ r ∈ R, r.ids.length <= 1048576) := hi
 clear hA hi
 obtain ⟨n, HN⟩ := nmd R.length
 rw [HN.out] at hn ⊢
 have hmk := fun W => make_rt W n hn
 go_enter Tryz.func220, Tryz.ntmps220
 go_wp2_with fail
 clear hmk
 go_loopw [4] (fun t wr => ∃ (k : Nat) (S : List RT), k <= n /\ t = .int .i64 k /\ Below w.heap.size w wr /\ w.heap.size < wr.heap.size /\ S.length = k /\ NewR wr (w.heap.size + 1) (R.take k) S /\ wr.heap[w.heap.size]? = some (.cells (rowR (S ++ List.replicate (n - k) rt0)).toArray 134 (0, 0))) (fun t _ => n - (intOf t).toNat)
 case atStart =>
  refine ⟨0, [], Nat.zero_le _, rfl, (Below.refl _ _).alloc (Nat.le_refl _) _, by simp, rfl, ⟨by simp, fun s hs => by simp at hs⟩, ?_⟩
  rw [List.nil_append, Nat.sub_zero]
  exact heap_alloc_new w _
 case round =>
  obtain ⟨k, S, hk, rfl, hb, hsz, hS, hN, hg⟩ := hrel
  have B1 : Hid (Below w.heap.size w wr) := hb
  have N1 : Hid (NewR wr (w.heap.size + 1) (R.take k) S) := hN
  have G1 : Hid (wr.heap[w.heap.size]? = some (.cells (rowR (S ++ List.replicate (n - k) rt0)).toArray 134 (0, 0))) := hg
  have HSk : Hid (S.length = k) := hS
  clear hb hN hg hS
  by_cases hlt : k < n
  · have hkn : (k : Int) < n := by omega
    obtain ⟨b, off, e, c1, c2, i3⟩ := (HA.out.below B1.out) k (by rw [HN.out]; exact hlt)
    have hkR : k < R.length := by rw [HN.out]; exact hlt
    have hmem : R.getD k rt0 ∈ R := by rw [List.getD_eq_getElem?_getD, List.getElem?_eq_getElem hkR]; simp
    have him := HI.out _ hmem
    have HTK : Hid (R.take (k + 1) = R.take k ++ [R.getD k rt0]) := by
     show _ = _
     rw [List.take_succ_eq_append_getElem hkR]
     simp [List.getD, hkR]
    subst e
    generalize R.getD k rt0 = r at *
    obtain ⟨rv, rra, rids, rcc⟩ := r
    simp only at c1 c2 i3 him
    have I3 : Hid (IntsAt wr rra rids) := i3
    clear i3 hmem
    go_wp2_with fail
    clear c1 c2
    refine (toRoute_any rv rra rcc rids wr I3.out him).mono ?_
    rintro e w2 ⟨g2, hg2, rfl, hb2, hr2⟩
    have B2 : Hid (Below w.heap.size w w2) := B1.out.trans (hb2.mono B1.out.size)
    have N2 : Hid (NewR w2 (w.heap.size + 1) (R.take k) S) := N1.out.below hb2
    have G2 : Hid (w2.heap[w.heap.size]? = some (.cells (rowR (S ++ List.replicate (n - k) rt0)).toArray 134 (0, 0))) := below_row hb2 (row_lt G1.out) G1.out
    have R2 : Hid (w2.heap[g2]? = some (.cells (cellsOf rids) 2 (0, 0))) := hr2
    have hsz2 : w.heap.size < w2.heap.size := by have := hb2.size; omega
    have hgw : w.heap.size + 1 <= g2 := by omega
    clear hb2 hr2 B1 N1 G1 I3
    obtain ⟨q1, q2⟩ := rowR_at (S ++ List.replicate (n - k) rt0) k (by simp [HSk.out]; omega)
    have f1 := cell_of_row _ _ (k * 2) _ _ _ G2.out
    have f2 := cell_of_row _ _ (k * 2 + 1) _ _ _ G2.out
    have ff := fun i => frozen_of_row _ _ i _ _ G2.out
    rw [List.getElem?_toArray] at f1 f2
    rw [q1] at f1
    rw [q2] at f2
    clear q1 q2
    have HNEW : Hid (((w2.setCell ⟨w.heap.size, k * 2, none⟩ (.int .i64 rv)).setCell ⟨w.heap.size, k * 2 + 1, none⟩ (.slice (some ⟨g2, 0, none⟩) rids.length rids.length)).heap[w.heap.size]? = some (.cells (rowR ((S ++ [(⟨rv, some ⟨g2, 0, none⟩, rids, rids.length⟩ : RT)]) ++ List.replicate (n - (k + 1)) rt0)).toArray 134 (0, 0))) := by
     show _ = _
     have s1 := heap_setCell_same w2 w.heap.size (k * 2) _ _ (.int .i64 rv) G2.out
     have s2 := heap_setCell_same _ w.heap.size (k * 2 + 1) _ _ (.slice (some ⟨g2, 0, none⟩) rids.length rids.length) s1
     rw [s2]
     have e := rowR_set (S ++ List.replicate (n - k) rt0) k ⟨rv, some ⟨g2, 0, none⟩, rids, rids.length⟩ (by simp [HSk.out]; omega)
     have e2 : (S ++ List.replicate (n - k) rt0).set k ⟨rv, some ⟨g2, 0, none⟩, rids, rids.length⟩ = (S ++ [(⟨rv, some ⟨g2, 0, none⟩, rids, rids.length⟩ : RT)]) ++ List.replicate (n - (k + 1)) rt0 := by
      rw [List.set_append_right _ _ (by rw [HSk.out]; exact Nat.le_refl _), HSk.out, Nat.sub_self, show n - k = (n - (k + 1)) + 1 by omega, List.replicate_succ, List.set_cons_zero, List.append_assoc]
      rfl
     rw [e2] at e
     rw [<- e]
     simp
    have HB3 : Hid (Below w.heap.size w ((w2.setCell ⟨w.heap.size, k * 2, none⟩ (.int .i64 rv)).setCell ⟨w.heap.size, k * 2 + 1, none⟩ (.slice (some ⟨g2, 0, none⟩) rids.length rids.length))) := (B2.out.setCell (Nat.le_refl _) _).setCell (Nat.le_refl _) _
    have HN3 : Hid (NewR ((w2.setCell ⟨w.heap.size, k * 2, none⟩ (.int .i64 rv)).setCell ⟨w.heap.size, k * 2 + 1, none⟩ (.slice (some ⟨g2, 0, none⟩) rids.length rids.length)) (w.heap.size + 1) (R.take (k + 1)) (S ++ [(⟨rv, some ⟨g2, 0, none⟩, rids, rids.length⟩ : RT)])) := by
     rw [HTK.out]
     refine ⟨by rw [List.map_append, List.map_append, N2.out.1]; rfl, fun s hs => ?_⟩
     have hkeep : ∀ g o, w.heap.size + 1 <= g -> w2.heap[g]? = some o -> ((w2.setCell ⟨w.heap.size, k * 2, none⟩ (.int .i64 rv)).setCell ⟨w.heap.size, k * 2 + 1, none⟩ (.slice (some ⟨g2, 0, none⟩) rids.length rids.length)).heap[g]? = some o := fun g o hg h => by
      rw [heap_setCell_other _ _ _ _ (by show g ≠ w.heap.size; omega), heap_setCell_other _ _ _ _ (by show g ≠ w.heap.size; omega)]
      exact h
     rcases List.mem_append.1 hs with hs | hs
     · obtain ⟨g, h1, h2, h3, h4⟩ := N2.out.2 s hs
       exact ⟨g, h1, h2, h3, hkeep g _ h2 h4⟩
     · have : s = ⟨rv, some ⟨g2, 0, none⟩, rids, rids.length⟩ := by simpa using hs
       subst this
       exact ⟨g2, rfl, hgw, rfl, hkeep g2 _ hgw R2.out⟩
    have hsz3 : w.heap.size < ((w2.setCell ⟨w.heap.size, k * 2, none⟩ (.int .i64 rv)).setCell ⟨w.heap.size, k * 2 + 1, none⟩ (.slice (some ⟨g2, 0, none⟩) rids.length rids.length)).heap.size := by simpa [World.setCell] using hsz2
    clear B2 N2 G2 R2
    go_wp2_with fail
    exact ⟨⟨k + 1, _, by omega, by first | rfl | go_num, HB3.out, hsz3, by simp [HSk.out], HN3.out, HNEW.out⟩, by simp [intOf]; omega⟩
  · have hkn : k = n := by omega
    subst hkn
    have HT : Hid (R.take k = R) := by show _ = _; rw [<- HN.out, List.take_length]
    rw [HT.out] at N1
    rw [Nat.sub_self, List.replicate_zero, List.append_nil] at G1
    go_wp2
    go_ret
    exact ⟨S, rfl, B1.out, G1.out, N1.out⟩
structure TP (w W : World) (src z out : Array Value) : Prop where
 b : Below w.heap.size w W
 s : W.heap[w.heap.size]? = some (.cells src 212 (0, 0))
 z : W.heap[w.heap.size + 1]? = some (.cells z 46 (0, 0))
 o : W.heap[w.heap.size + 1 + 1]? = some (.cells out 46 (0, 0))
theorem TP.below {w W W' : World} {src z out : Array Value} (h : TP w W src z out) (hb : Below W.heap.size W W') : TP w W' src z out :=
 ⟨h.b.trans (hb.mono h.b.size), below_row hb (row_lt h.s) h.s, below_row hb (row_lt h.z) h.z, below_row hb (row_lt h.o) h.o⟩
theorem TP.set {w W : World} {src z out : Array Value} (h : TP w W src z out) (i : Nat) (v : Value) : TP w (W.setCell ⟨w.heap.size + 1 + 1, i, none⟩ v) src z (out.setIfInBounds i v) :=
 ⟨h.b.setCell (by simp; omega) _, by rw [heap_setCell_other _ _ _ _ (by simp; omega)]; exact h.s, by rw [heap_setCell_other _ _ _ _ (by simp)]; exact h.z, heap_setCell_same _ _ _ _ _ _ h.o⟩
set_option maxHeartbeats 2000000 in
theorem toPlan_any (ra la : Option Addr) (rc lc : Nat) (R : List RT) (L : List Int) (w : World) (hA : RoutesAt w ra R) (hL : IntsAt w la L) (hn : R.length <= 1048576) (hi : ∀ r ∈ R, r.ids.length <= 1048576) (hll : L.length <= 1048576) :
 Calls Tryz.prog 193 #[.agg #[.slice ra R.length rc, .slice la L.length lc]] w fun e w' => ∃ g gl S, e = .returned (.agg #[.slice (some ⟨g, 0, none⟩) R.length R.length, .slice (some ⟨gl, 0, none⟩) L.length L.length]) /\ Below w.heap.size w w' /\ w.heap.size <= g /\ g < gl /\ w'.heap[g]? = some (.cells (rowR S).toArray 134 (0, 0)) /\ NewR w' (g + 1) R S /\ w'.heap[gl]? = some (.cells (cellsOf L) 2 (0, 0)) := by
 have HA : Hid (RoutesAt w ra R) := hA
 have HL : Hid (IntsAt w la L) := hL
 have HI : Hid (∀ r ∈ R, r.ids.length <= 1048576) := hi
 clear hA hL hi
 have T0 : Hid (TP w (((w.alloc (.cells #[.slice ra R.length rc, .slice la L.length lc] 212)).alloc (.cells #[.slice none 0 0, .slice none 0 0] 46)).alloc (.cells #[.slice none 0 0, .slice none 0 0] 46)) #[.slice ra R.length rc, .slice la L.length lc] #[.slice none 0 0, .slice none 0 0] #[.slice none 0 0, .slice none 0 0]) := by
  have h2 := heap_alloc_new ((w.alloc (.cells #[.slice ra R.length rc, .slice la L.length lc] 212)).alloc (.cells #[.slice none 0 0, .slice none 0 0] 46)) (.cells #[.slice none 0 0, .slice none 0 0] 46)
  have ha : Below (w.heap.size + 1 + 1) ((w.alloc (.cells #[.slice ra R.length rc, .slice la L.length lc] 212)).alloc (.cells #[.slice none 0 0, .slice none 0 0] 46)) (((w.alloc (.cells #[.slice ra R.length rc, .slice la L.length lc] 212)).alloc (.cells #[.slice none 0 0, .slice none 0 0] 46)).alloc (.cells #[.slice none 0 0, .slice none 0 0] 46)) := (Below.refl _ _).alloc (by simp) _
  exact ⟨(((Below.refl _ _).alloc (Nat.le_refl _) _).alloc (by simp) _).alloc (by simp; omega) _, (ha.block _ (by omega)).trans (heap_alloc2_old _ _ _), (ha.block _ (by omega)).trans (heap_alloc2_new _ _ _), by simpa using h2⟩
 go_enter Tryz.func193, Tryz.ntmps193
 obtain ⟨c0, c1⟩ := cells2 T0.out.s
 go_wp2_with fail
 clear c0 c1
 generalize ((w.alloc (.cells #[.slice ra R.length rc, .slice la L.length lc] 212)).alloc (.cells #[.slice none 0 0, .slice none 0 0] 46)).alloc (.cells #[.slice none 0 0, .slice none 0 0] 46) = W0 at *
 have hW0 := row_lt T0.out.o
 refine (toRouteS_any ra rc R W0 (HA.out.below T0.out.b) hn HI.out).mono ?_
 rintro e w1 ⟨S, rfl, hb, hg, hN⟩
 have T1 : Hid (TP w w1 _ _ _) := T0.out.below hb
 obtain ⟨g, HG⟩ := nmd W0.heap.size
 rw [HG.out] at hg hN hW0 ⊢
 have G1 : Hid (w1.heap[g]? = some (.cells (rowR S).toArray 134 (0, 0))) := hg
 have N1 : Hid (NewR w1 (g + 1) R S) := hN
 have hg1 : g < w1.heap.size := row_lt hg
 clear T0 hb hg hN HG W0
 obtain ⟨x0, x1⟩ := cells2 T1.out.o
 obtain ⟨c0, c1⟩ := cells2 T1.out.s
 have f0 := fun i => frozen_of_row _ _ i _ _ T1.out.o
 go_wp2_with fail
 clear x0 x1 c0 c1 f0
 have T2 : Hid (TP w (w1.setCell ⟨w.heap.size + 1 + 1, 0, none⟩ (.slice (some ⟨g, 0, none⟩) R.length R.length)) #[.slice ra R.length rc, .slice la L.length lc] #[.slice none 0 0, .slice none 0 0] #[.slice (some ⟨g, 0, none⟩) R.length R.length, .slice none 0 0]) := by
  have := T1.out.set 0 (.slice (some ⟨g, 0, none⟩) R.length R.length)
  change TP w _ _ _ _
  simpa using this
 have G2 : Hid ((w1.setCell ⟨w.heap.size + 1 + 1, 0, none⟩ (.slice (some ⟨g, 0, none⟩) R.length R.length)).heap[g]? = some (.cells (rowR S).toArray 134 (0, 0))) := row_sets G1.out (by omega)
 have N2 : Hid (NewR (w1.setCell ⟨w.heap.size + 1 + 1, 0, none⟩ (.slice (some ⟨g, 0, none⟩) R.length R.length)) (g + 1) R S) := N1.out.set (by omega)
 have hg2 : g < (w1.setCell ⟨w.heap.size + 1 + 1, 0, none⟩ (.slice (some ⟨g, 0, none⟩) R.length R.length)).heap.size := row_lt G2.out
 clear T1 G1 N1 hg1
 generalize w1.setCell ⟨w.heap.size + 1 + 1, 0, none⟩ (.slice (some ⟨g, 0, none⟩) R.length R.length) = W2 at *
 refine (toInts_any la lc L W2 (HL.out.below T2.out.b) hll).mono ?_
 rintro e w3 ⟨rfl, hb, -, hr⟩
 have T3 : Hid (TP w w3 _ _ _) := T2.out.below hb
 have G3 : Hid (w3.heap[g]? = some (.cells (rowR S).toArray 134 (0, 0))) := below_row hb (row_lt G2.out) G2.out
 have N3 : Hid (NewR w3 (g + 1) R S) := N2.out.below hb
 obtain ⟨gl, HGL⟩ := nmd W2.heap.size
 rw [HGL.out] at hr hg2 ⊢
 have L3 : Hid (w3.heap[gl]? = some (.cells (cellsOf L) 2 (0, 0))) := hr
 clear T2 G2 N2 hb hr HGL W2
 obtain ⟨x0, x1⟩ := cells2 T3.out.o
 obtain ⟨z0, z1⟩ := cells2 T3.out.z
 obtain ⟨c0, c1⟩ := cells2 T3.out.s
 have f0 := fun i => frozen_of_row _ _ i _ _ T3.out.o
 have f1 := fun i => frozen_of_row _ _ i _ _ T3.out.z
 go_wp2
 refine bodyPost_ret (v := .agg #[.slice (some ⟨g, 0, none⟩) R.length R.length, .slice (some ⟨gl, 0, none⟩) L.length L.length]) (by simp [results, Tryz.results193, go_sem, z0, z1]) rfl ⟨g, gl, S, rfl, ?_, by omega, hg2, ?_, ?_, ?_⟩
 · repeat (first | with_reducible exact T3.out.b | refine Below.setCell ?_ (by simp <;> omega) _)
 · repeat (first | with_reducible exact G3.out | refine row_sets ?_ (by omega))
 · repeat (first | with_reducible exact N3.out | refine NewR.set ?_ (by omega))
 · repeat (first | with_reducible exact L3.out | refine row_sets ?_ (by omega))
set_option maxHeartbeats 1000000 in
theorem eqRouteS_same (ra sa : Option Addr) (rc sc n : Nat) (R S : List RT) (w : World) (hA : RoutesAt w ra R) (hB : RoutesAt w sa S) (hk : S.map RT.key = R.map RT.key) (hR : R.length = n) (hn : n <= 1048576) (hi : ∀ r ∈ R, r.ids.length <= 1048576) :
 Calls Tryz.prog 51 #[.slice ra n rc, .slice sa n sc] w fun e w' => e = .returned (.bool true) /\ Below w.heap.size w w' := by
 have HA : Hid (RoutesAt w ra R) := hA
 have HB : Hid (RoutesAt w sa S) := hB
 have HK : Hid (S.map RT.key = R.map RT.key) := hk
 have HR : Hid (R.length = n) := hR
 have HS : Hid (S.length = n) := by show _ = _; rw [<- hR]; simpa using congrArg List.length hk
 have HI : Hid (∀ r ∈ R, r.ids.length <= 1048576) := hi
 clear hA hB hk hR hi
 go_enter Tryz.func51, Tryz.ntmps51
 go_wp2_with fail
 go_loopw [5] (fun ti wr => ∃ i : Nat, i <= n /\ ti = .int .i64 i /\ Below w.heap.size w wr) (fun ti _ => n - (intOf ti).toNat)
 case atStart => exact ⟨0, Nat.zero_le _, rfl, Below.refl _ _⟩
 case round =>
  obtain ⟨i, hi, rfl, hb⟩ := hrel
  have B1 : Hid (Below w.heap.size w wr) := hb
  clear hb
  by_cases hlt : i < n
  · obtain ⟨b1, o1, e1, c1, c2, i1⟩ := (HA.out.below B1.out) i (by rw [HR.out]; exact hlt)
    obtain ⟨b2, o2, e2, d1, d2, i2⟩ := (HB.out.below B1.out) i (by rw [HS.out]; exact hlt)
    have hkey := key_at HK.out i
    have him : (R.getD i rt0).ids.length <= 1048576 := HI.out _ (by
     have : i < R.length := by rw [HR.out]; exact hlt
     rw [List.getD_eq_getElem?_getD, List.getElem?_eq_getElem this]; simp)
    subst e1 e2
    generalize R.getD i rt0 = r at *
    generalize S.getD i rt0 = s at *
    obtain ⟨rv, rra, rids, rcc⟩ := r
    obtain ⟨sv, ssa, sids, scc⟩ := s
    simp only at hkey c1 c2 i1 d1 d2 i2 him
    obtain ⟨rfl, rfl⟩ := hkey
    have ER : Hid (∀ W, Below wr.heap.size wr W -> Calls Tryz.prog 101 #[.agg #[.int .i64 sv, .slice rra sids.length rcc], .agg #[.int .i64 sv, .slice ssa sids.length scc]] W fun e w' => e = .returned (.bool true) /\ Below W.heap.size W w') := fun W hb => eqRoute_same sv rra ssa rcc scc sids W (i1.below hb) (i2.below hb) (by omega)
    clear i1 i2
    have hin : (i : Int) < n := by omega
    have z1 := fun s : Kin wr => s.cell c1
    have z2 := fun s : Kin wr => s.cell c2
    have z3 := fun s : Kin wr => s.cell d1
    have z4 := fun s : Kin wr => s.cell d2
    have hkin := Kin.there wr
    generalize sids.length = m at *
    go_wp2_with fail
    refine wp_region_kin (by kernel_rfl) (by kernel_rfl) ?_
    repeat (go_big_quiet_step ((go_at_call 101; with_reducible exact Kin.call (ER.out _ (Kin.below _)))))
    refine wpQuiet_nil ?_
    rintro _ ⟨s1, rfl⟩
    clear z1 z2 z3 z4 hkin
    go_wp2
    go_roundw
    case rel => exact ⟨i + 1, by omega, by first | rfl | go_num, B1.out.trans (s1.below.mono B1.out.size)⟩
    case measure => simp [intOf]; omega
  · have hin : ¬ ((i : Int) < n) := by omega
    go_wp2
    go_ret
    exact ⟨rfl, B1.out⟩
set_option maxHeartbeats 1000000 in
theorem eqPlan_same (ra sa la ma : Option Addr) (rc sc n lc mc : Nat) (R S : List RT) (L : List Int) (w : World) (hA : RoutesAt w ra R) (hB : RoutesAt w sa S) (hk : S.map RT.key = R.map RT.key) (hR : R.length = n) (hn : n <= 1048576) (hi : ∀ r ∈ R, r.ids.length <= 1048576) (hL : IntsAt w la L) (hM : IntsAt w ma L) (hll : L.length <= 1048576) :
 Calls Tryz.prog 21 #[.agg #[.slice ra n rc, .slice la L.length lc], .agg #[.slice sa n sc, .slice ma L.length mc]] w fun e w' => e = .returned (.bool true) /\ Below w.heap.size w w' := by
 have HA : Hid (RoutesAt w ra R) := hA
 have HB : Hid (RoutesAt w sa S) := hB
 have HL : Hid (IntsAt w la L) := hL
 have HM : Hid (IntsAt w ma L) := hM
 have B0 : Hid (Below w.heap.size w ((w.alloc (.cells #[.slice ra n rc, .slice la L.length lc] 46)).alloc (.cells #[.slice sa n sc, .slice ma L.length mc] 46))) := ((Below.refl _ _).alloc (Nat.le_refl _) _).alloc (by simp) _
 have G0 : Hid (((w.alloc (.cells #[.slice ra n rc, .slice la L.length lc] 46)).alloc (.cells #[.slice sa n sc, .slice ma L.length mc] 46)).heap[w.heap.size]? = some (.cells #[.slice ra n rc, .slice la L.length lc] 46 (0, 0))) := heap_alloc2_old _ _ _
 have G1 : Hid (((w.alloc (.cells #[.slice ra n rc, .slice la L.length lc] 46)).alloc (.cells #[.slice sa n sc, .slice ma L.length mc] 46)).heap[w.heap.size + 1]? = some (.cells #[.slice sa n sc, .slice ma L.length mc] 46 (0, 0))) := heap_alloc2_new _ _ _
 clear hA hB hL hM
 obtain ⟨c0, c1⟩ := cells2 G0.out
 obtain ⟨d0, d1⟩ := cells2 G1.out
 go_enter Tryz.func21, Tryz.ntmps21
 go_wp2_with fail
 clear c0 c1 d0 d1
 generalize (w.alloc (.cells #[.slice ra n rc, .slice la L.length lc] 46)).alloc (.cells #[.slice sa n sc, .slice ma L.length mc] 46) = W0 at *
 refine (eqRouteS_same ra sa rc sc n R S W0 (HA.out.below B0.out) (HB.out.below B0.out) hk hR hn hi).mono ?_
 rintro e w1 ⟨rfl, hb⟩
 have B1 : Hid (Below w.heap.size w w1) := B0.out.trans (hb.mono B0.out.size)
 obtain ⟨c0, c1⟩ := cells2 (below_row hb (row_lt G0.out) G0.out)
 obtain ⟨d0, d1⟩ := cells2 (below_row hb (row_lt G1.out) G1.out)
 clear hb B0 G0 G1
 go_wp2_with fail
 clear c0 c1 d0 d1
 refine (eqInts_any la ma lc mc L L w1 (HL.out.below B1.out) (HM.out.below B1.out) (by omega)).mono ?_
 rintro e w2 ⟨rfl, hb⟩
 have B2 : Hid (Below w.heap.size w w2) := B1.out.trans (hb.mono B1.out.size)
 clear hb
 rw [show decide (L = L) = true from decide_eq_true rfl]
 go_wp2
 go_ret
 exact ⟨rfl, B2.out⟩
def Apt (S : List RT) (la : Option Addr) : Prop := (la :: S.map RT.a).Pairwise (fun x y => x = none ∨ x ≠ y)
theorem Apt.keys {S T : List RT} {la : Option Addr} (h : Apt S la) (e : T.map RT.a = S.map RT.a) : Apt T la := by unfold Apt at h ⊢; rw [e]; exact h
theorem Apt.left {S : List RT} {la : Option Addr} (h : Apt S la) {t : RT} (ht : t ∈ S) : la = none ∨ la ≠ t.a := (List.pairwise_cons.1 h).1 t.a (List.mem_map_of_mem ht)
theorem Apt.head {P Q : List RT} {s t : RT} {la : Option Addr} (h : Apt (P ++ s :: Q) la) (ht : t ∈ P) : t.a = none ∨ t.a ≠ s.a := by
 have h1 := (List.pairwise_cons.1 h).2
 rw [List.map_append, List.map_cons] at h1
 exact (List.pairwise_append.1 h1).2.2 t.a (List.mem_map_of_mem ht) s.a (by simp)
theorem Apt.tail {P Q : List RT} {s t : RT} {la : Option Addr} (h : Apt (P ++ s :: Q) la) (ht : t ∈ Q) : s.a = none ∨ s.a ≠ t.a := by
 have h1 := (List.pairwise_cons.1 h).2
 rw [List.map_append, List.map_cons] at h1
 exact (List.pairwise_cons.1 (List.pairwise_append.1 h1).2.1).1 t.a (List.mem_map_of_mem ht)
end Go.Proofs.YtehfjfmfpdgibaaGreatDoor

namespace Go.Proofs.YtehfjfmfpdgibaaGreatDoor
open Go.RowKit
end Go.Proofs.YtehfjfmfpdgibaaGreatDoor
