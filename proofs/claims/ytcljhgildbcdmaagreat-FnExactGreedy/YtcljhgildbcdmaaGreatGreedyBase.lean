import Derived.Test.YtcljhgildbcdmaaGreatPack17
import Derived.Test.YtcljhgildbcdmaaGreatPack24
import Derived.Test.YtcljhgildbcdmaaGreatPack25
namespace Go.Proofs.YtcljhgildbcdmaaGreat
open Go.RowKit
def RtsIn (R : List RT) : Prop := ∀ r ∈ R, r.ids ≠ [] /\ r.ids.length <= 12 /\ r.ids.length <= r.c
theorem rtOf_at {w : World} {ra : Option Addr} {R : List RT} (h : RoutesAt w ra R) (hi : RtsIn R) (veh : Int) : IntsAt w (rtOf R veh).a (rtOf R veh).ids /\ (rtOf R veh).ids.length <= 12 /\ (rtOf R veh).ids.length <= (rtOf R veh).c /\ (((rtOf R veh).a = none /\ (rtOf R veh).ids.length = 0) ∨ ∃ b off, (rtOf R veh).a = some ⟨b, off, none⟩) := by
 rcases rtOf_mem R veh with h1 | h1
 · obtain ⟨j, hj, e⟩ := List.getElem_of_mem h1
   obtain ⟨_, _, _, _, _, h2⟩ := h j hj
   have e2 : R.getD j rt0 = rtOf R veh := by rw [List.getD_eq_getElem?_getD, List.getElem?_eq_getElem hj, e]; rfl
   rw [e2] at h2
   obtain ⟨h3, h4, h5⟩ := hi _ h1
   obtain ⟨b, off, e3, _⟩ := h2 0 (List.length_pos_iff.2 h3)
   exact ⟨h2, h4, h5, .inr ⟨b, off, e3⟩⟩
 · rw [h1]
   exact ⟨fun j hj => by simp at hj, Nat.zero_le _, Nat.le_refl _, .inl ⟨rfl, rfl⟩⟩
structure GB (w W : World) (pc pp ps : Nat) (cs : Array Value) (p0 p1 : Value) (id veh : Int) (pl : Nat) : Prop where
 b : Below w.heap.size w W
 c : W.heap[pc]? = some (.cells cs 43 (0, 0))
 p : W.heap[pp]? = some (.cells #[p0, p1] 36 (0, 0))
 s : W.heap[ps]? = some (.cells #[.int .i64 id, .int .i64 veh, .int .i64 (pl : Int)] 86 (0, 0))
 l : pc < w.heap.size /\ pp < w.heap.size /\ ps < w.heap.size
section
variable {w W W' : World} {pc pp ps : Nat} {cs : Array Value} {p0 p1 : Value} {id veh : Int} {pl : Nat}
theorem GB.below (h : GB w W pc pp ps cs p0 p1 id veh pl) (hb : Below W.heap.size W W') : GB w W' pc pp ps cs p0 p1 id veh pl :=
 ⟨h.b.trans (hb.mono h.b.size), below_row hb (row_lt h.c) h.c, below_row hb (row_lt h.p) h.p, below_row hb (row_lt h.s) h.s, h.l⟩
theorem GB.set (h : GB w W pc pp ps cs p0 p1 id veh pl) {k i : Nat} {v : Value} (hk : w.heap.size <= k) : GB w (W.setCell ⟨k, i, none⟩ v) pc pp ps cs p0 p1 id veh pl := by
 obtain ⟨h1, h2, h3⟩ := h.l
 exact ⟨h.b.setCell hk _, row_set' h.c (by omega), row_set' h.p (by omega), row_set' h.s (by omega), h.l⟩
theorem GB.new (h1 : w.heap[pc]? = some (.cells cs 43 (0, 0))) (h2 : w.heap[pp]? = some (.cells #[p0, p1] 36 (0, 0))) (h3 : w.heap[ps]? = some (.cells #[.int .i64 id, .int .i64 veh, .int .i64 (pl : Int)] 86 (0, 0))) : GB w w pc pp ps cs p0 p1 id veh pl :=
 ⟨Below.refl _ _, h1, h2, h3, row_lt h1, row_lt h2, row_lt h3⟩
end
theorem GB.cells {w W : World} {pc pp ps : Nat} {c0 c1 c2 c3 c4 p0 p1 : Value} {id veh : Int} {pl : Nat} (h : GB w W pc pp ps #[c0, c1, c2, c3, c4] p0 p1 id veh pl) :
   W.cell? ⟨pc, 0, none⟩ = some c0 /\ W.cell? ⟨pc, 1, none⟩ = some c1 /\ W.cell? ⟨pc, 2, none⟩ = some c2 /\ W.cell? ⟨pc, 3, none⟩ = some c3 /\ W.cell? ⟨pc, 4, none⟩ = some c4 /\ W.cell? ⟨pp, 0, none⟩ = some p0 /\ W.cell? ⟨pp, 1, none⟩ = some p1 /\ W.cell? ⟨ps, 0, none⟩ = some (.int .i64 id) /\ W.cell? ⟨ps, 1, none⟩ = some (.int .i64 veh) /\ W.cell? ⟨ps, 2, none⟩ = some (.int .i64 (pl : Int)) := by
 obtain ⟨k0, k1, k2, k3, k4⟩ := cells5 h.c
 obtain ⟨k5, k6⟩ := cells2 h.p
 obtain ⟨k7, k8, k9⟩ := cells3 h.s
 exact ⟨k0, k1, k2, k3, k4, k5, k6, k7, k8, k9⟩
def gD (n : Int) (zs os vs : List Int) (ko kv : Nat) (R : List RT) (p : Spot) : Int := plD true n zs os vs ko kv p.2.1 (rtOf R p.2.1).ids p.1 p.2.2
def gB (n : Int) (zs os vs : List Int) (ko kv : Nat) (R : List RT) (p : Spot) : Bool := plB true n zs os vs ko kv p.2.1 (rtOf R p.2.1).ids p.1 p.2.2
def gOk (n fine : Int) (zs os vs : List Int) (ko kv : Nat) (R : List RT) (p : Spot) : Bool := gB n zs os vs ko kv R p && decide (gD n zs os vs ko kv R p <= fine)
theorem chg_spot (n fine : Int) (a ao av ra : Option Addr) (cap ko co kv cv : Nat) (zs os vs : List Int) (R : List RT) (w : World) (hA : IntsAt w a zs) (hO : IntsAt w ao os) (hV : IntsAt w av vs) (hlo : os.length = ko * 6) (hlv : vs.length = kv * 5) (hko : ko <= 9223372036854775807) (hkv : kv <= 9223372036854775807) (hcB : caseB n zs os vs ko kv fine = true) (hR : RoutesAt w ra R) (hi : RtsIn R) (id veh : Int) (pl : Nat)
   (ch : Bool) (hch : gB n zs os vs ko kv R (id, veh, pl) = ch) (D : Int) (hD : gD n zs os vs ko kv R (id, veh, pl) = D) (xs : List Int) (hxs : chL ch (insL (rtOf R veh).ids pl id) = xs) :
   ∀ (W W' : World) (p q : Nat), Below w.heap.size w W -> W.cell? ⟨p, 0, none⟩ = some (.int .i64 (pl : Int)) -> W.cell? ⟨q, 0, none⟩ = some (.int .i64 id) -> Below W.heap.size W W' -> Calls Tryz.prog 84 #[.agg #[.int .i64 n, .slice a zs.length cap, .slice ao ko co, .slice av kv cv, .int .i64 fine], .agg #[.int .i64 veh, .slice (rtOf R veh).a (rtOf R veh).ids.length (rtOf R veh).c], .func (.func 117) #[] #[.pointer (some ⟨p, 0, none⟩), .pointer (some ⟨q, 0, none⟩)]] W' (ChgOk W' ch veh D xs) := by
 intro W W' p q hW hp hq hW'
 have hB := hW.trans (hW'.mono hW.size)
 have hp' := (hW'.cell (p := ⟨p, 0, none⟩) (block_lt_of_cell hp)).trans hp
 have hq' := (hW'.cell (p := ⟨q, 0, none⟩) (block_lt_of_cell hq)).trans hq
 obtain ⟨h1, h2, h3, h4⟩ := rtOf_at hR hi veh
 exact changed_put n fine veh a ao av _ cap ko co kv cv _ zs os vs _ W' (hA.below hB) (hO.below hB) (hV.below hB) (h1.below hB) hlo hlv hko hkv (by omega) h3 hcB p q _ _ (fun X hX h12 => putIn_any p q (pl : Int) id _ _ _ X ((hX.cell (p := ⟨p, 0, none⟩) (block_lt_of_cell hp')).trans hp') ((hX.cell (p := ⟨q, 0, none⟩) (block_lt_of_cell hq')).trans hq') (h1.below (hB.trans (hX.mono hB.size))) h12 h4) ch hch D (by rw [<- hD, <- hch]; rfl) xs hxs
end Go.Proofs.YtcljhgildbcdmaaGreat