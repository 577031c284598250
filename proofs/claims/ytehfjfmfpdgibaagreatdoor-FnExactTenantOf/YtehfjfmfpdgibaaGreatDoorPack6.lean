import Derived.Test.YtehfjfmfpdgibaaGreatDoorPack0
import Derived.Test.YtehfjfmfpdgibaaGreatDoorPack1
import Derived.Test.YtehfjfmfpdgibaaGreatDoorPack4
import Derived.Test.YtehfjfmfpdgibaaGreatDoorPack5
namespace Go.Proofs.YtehfjfmfpdgibaaGreatDoor
open Go.RowKit
def slOf : Value -> Option Value
 | .slice a n c => some (.slice a n c)
 | _ => none
def MK (lo hi : Nat) (w w' : World) : Prop := GrownBut (fun b => lo <= b /\ b < hi) w w' /\ ∀ (g : Nat) (cur : Array Value) (T : TypeId), w.heap[g]? = some (.cells cur T (0, 0)) -> ∃ cur', w'.heap[g]? = some (.cells cur' T (0, 0)) /\ ∀ i : Nat, (cur'[i]?).map slOf = (cur[i]?).map slOf
theorem MK.refl (lo hi : Nat) (w : World) : MK lo hi w w := ⟨GrownBut.of_below (Below.refl _ _), fun _ cur _ h => ⟨cur, h, fun _ => rfl⟩⟩
theorem MK.trans {lo hi : Nat} {w w1 w2 : World} (h : MK lo hi w w1) (k : MK lo hi w1 w2) : MK lo hi w w2 := ⟨h.1.trans k.1, fun g cur T e => by
 obtain ⟨c1, e1, s1⟩ := h.2 g cur T e
 obtain ⟨c2, e2, s2⟩ := k.2 g c1 T e1
 exact ⟨c2, e2, fun i => (s2 i).trans (s1 i)⟩⟩
theorem MK.below {lo hi : Nat} {w w' : World} (h : Below w.heap.size w w') : MK lo hi w w' := ⟨GrownBut.of_below h, fun _ cur _ e => ⟨cur, below_row h (row_lt e) e, fun _ => rfl⟩⟩
theorem MK.set {lo hi k i : Nat} {v : Value} {w : World} {cs : Array Value} {T : TypeId} (hk : w.heap[k]? = some (.cells cs T (0, 0))) (hr : lo <= k /\ k < hi) (hi2 : (cs[i]?).map slOf = some none) (hv : slOf v = none) : MK lo hi w (w.setCell ⟨k, i, none⟩ v) := by
 refine ⟨GrownBut.of_grown (grown_set w k i v) hr, fun g cur T' e => ?_⟩
 by_cases hg : g = k
 · subst hg
   rw [hk] at e
   cases e
   refine ⟨cs.setIfInBounds i v, heap_setCell_same _ _ _ _ _ _ hk, fun j => ?_⟩
   rw [Array.getElem?_setIfInBounds]
   by_cases hj : i = j
   · subst hj
     rw [if_pos rfl, hi2]
     cases hc : cs[i]? with
     | none => rw [hc] at hi2; cases hi2
     | some x =>
       have hlt := (Array.getElem?_eq_some_iff.1 hc).1
       simp [hlt, hv]
   · rw [if_neg hj]
 · exact ⟨cur, by rw [heap_setCell_other _ _ _ _ hg]; exact e, fun _ => rfl⟩
theorem markA_sl (cur : Array Value) (k0 : Int) (hns : ∀ i : Nat, (cur[i]?).map slOf = none ∨ (cur[i]?).map slOf = some none) : ∀ (m i : Nat), ((markA cur k0 m)[i]?).map slOf = (cur[i]?).map slOf
 | 0, i => rfl
 | m + 1, i => by
   rw [markA, Array.getElem?_setIfInBounds]
   by_cases h : m = i
   · subst h
     rw [if_pos rfl]
     split
     · rename_i hlt
       rw [markA_size] at hlt
       have hc : cur[m]? = some cur[m] := Array.getElem?_eq_getElem hlt
       rcases hns m with h9 | h9
       · rw [hc] at h9; cases h9
       · rw [h9]; rfl
     · rename_i hlt
       rw [markA_size] at hlt
       rw [Array.getElem?_eq_none (by omega)]
   · rw [if_neg h]
     exact markA_sl cur k0 hns m i
theorem MK.mark {lo hi g m : Nat} {k0 : Int} {w w' : World} {cur : Array Value} {T : TypeId} (hg : w.grownBy w' (some g)) (hr : lo <= g /\ g < hi) (h : w.heap[g]? = some (.cells cur T (0, 0))) (h' : w'.heap[g]? = some (.cells (markA cur k0 m) T (0, 0))) (hns : ∀ i : Nat, (cur[i]?).map slOf = none ∨ (cur[i]?).map slOf = some none) : MK lo hi w w' := by
 refine ⟨GrownBut.of_grown hg hr, fun k c T' e => ?_⟩
 by_cases hk : k = g
 · subst hk
   rw [h] at e
   cases e
   exact ⟨_, h', markA_sl _ k0 hns m⟩
 · exact ⟨c, grown_row hg e (fun x => hk (by injection x)), fun _ => rfl⟩
def SRow (w : World) (T : TypeId) (g : Nat) (cs : List Value) : Prop := ∃ cur : Array Value, w.heap[g]? = some (.cells cur T (0, 0)) /\ ∀ i : Nat, (cur[i]?).map slOf = (cs[i]?).map slOf
theorem SRow.of_row {w : World} {T : TypeId} {g : Nat} {cs : List Value} (h : w.heap[g]? = some (.cells cs.toArray T (0, 0))) : SRow w T g cs := ⟨_, h, fun i => by simp⟩
theorem SRow.mk {lo hi : Nat} {w w' : World} {T : TypeId} {g : Nat} {cs : List Value} (h : SRow w T g cs) (k : MK lo hi w w') : SRow w' T g cs := by
 obtain ⟨cur, h1, h2⟩ := h
 obtain ⟨c2, k1, k2⟩ := k.2 g cur T h1
 exact ⟨c2, k1, fun i => (k2 i).trans (h2 i)⟩
theorem SRow.size {cs : List Value} {cur : Array Value} (h2 : ∀ i : Nat, (cur[i]?).map slOf = (cs[i]?).map slOf) : cur.size = cs.length := by
 rcases Nat.lt_trichotomy cur.size cs.length with h | h | h
 · have := h2 cur.size
   rw [Array.getElem?_eq_none (Nat.le_refl _), List.getElem?_eq_getElem h] at this
   cases this
 · exact h
 · have := h2 cs.length
   rw [List.getElem?_eq_none (Nat.le_refl _), Array.getElem?_eq_getElem h] at this
   cases this
theorem SRow.slice {w : World} {T : TypeId} {g j n c : Nat} {a : Option Addr} {cs : List Value} (h : SRow w T g cs) (hj : cs[j]? = some (.slice a n c)) : w.cell? ⟨g, j, none⟩ = some (.slice a n c) := by
 obtain ⟨cur, h1, h2⟩ := h
 have := h2 j
 rw [hj] at this
 rw [cell_of_row _ _ _ _ _ _ h1]
 cases hc : cur[j]? with
 | none => rw [hc] at this; cases this
 | some v =>
   rw [hc] at this
   simp only [Option.map_some, Option.some.injEq] at this
   cases v <;> simp [slOf] at this
   rw [this.1, this.2.1, this.2.2]
theorem SRow.num {w : World} {T : TypeId} {g j : Nat} {v : Value} {cs : List Value} (h : SRow w T g cs) (hj : cs[j]? = some v) (hv : slOf v = none) : ∃ cur u, w.heap[g]? = some (.cells cur T (0, 0)) /\ (cur[j]?).map slOf = some none /\ w.cell? ⟨g, j, none⟩ = some u := by
 obtain ⟨cur, h1, h2⟩ := h
 have := h2 j
 rw [hj, Option.map_some, hv] at this
 cases hc : cur[j]? with
 | none => rw [hc] at this; cases this
 | some u => exact ⟨cur, u, h1, by rw [hc]; rw [hc] at this; exact this, by rw [cell_of_row _ _ _ _ _ _ h1]; exact hc⟩
def IRow (lo hi : Nat) (w : World) (T : TypeId) (a : Option Addr) (cs : List Value) : Prop := ∃ g, a = some ⟨g, 0, none⟩ /\ (lo <= g /\ g < hi) /\ SRow w T g cs
theorem IRow.mk {lo hi : Nat} {w w' : World} {T : TypeId} {a : Option Addr} {cs : List Value} (h : IRow lo hi w T a cs) (k : MK lo hi w w') : IRow lo hi w' T a cs := by
 obtain ⟨g, h1, h2, h3⟩ := h
 exact ⟨g, h1, h2, h3.mk k⟩
theorem ints_ns (xs : List Int) : ∀ i : Nat, ((xs.map (Value.int .i64))[i]?).map slOf = none ∨ ((xs.map (Value.int .i64))[i]?).map slOf = some none := fun i => by
 rw [List.getElem?_map]
 cases xs[i]? with
 | none => exact .inl rfl
 | some v => exact .inr rfl
theorem mkInts {lo hi : Nat} {w : World} {a : Option Addr} {n c : Nat} {k0 : Int} {xs : List Int} (h : IRow lo hi w 2 a (xs.map (Value.int .i64))) (hn : xs.length = n) (h0 : 0 <= k0) (h1 : k0 <= 100000000000) (hb : n <= 1048576) : Calls Tryz.prog 54 #[.slice a n c, .int .i64 k0] w fun e w' => e = .returned (.int .i64 (k0 + (n : Int))) /\ MK lo hi w w' := by
 obtain ⟨g, rfl, hr, cur, e1, e2⟩ := h
 have hs := SRow.size e2
 rw [List.length_map, hn] at hs
 refine (markInt64S_any g n c k0 cur _ w e1 (by omega) h0 (by omega) (by omega)).mono ?_
 rintro e w' ⟨rfl, hg, hr'⟩
 exact ⟨rfl, MK.mark hg hr e1 hr' (fun i => by rw [e2]; exact ints_ns xs i)⟩
theorem mkOrders {lo hi : Nat} {w : World} {a : Option Addr} {n c : Nat} {k0 : Int} {xs : List Int} (h : IRow lo hi w 146 a (xs.map (Value.int .i64))) (hn : xs.length = n * 6) (h0 : 0 <= k0) (h1 : k0 <= 100000000000) (hb : n <= 1048576) : Calls Tryz.prog 94 #[.slice a n c, .int .i64 k0] w fun e w' => e = .returned (.int .i64 (k0 + ((n * 6 : Nat) : Int))) /\ MK lo hi w w' := by
 obtain ⟨g, rfl, hr, cur, e1, e2⟩ := h
 have hs := SRow.size e2
 rw [List.length_map, hn] at hs
 refine (markOrderS_any g n c k0 cur _ w e1 (by omega) h0 (by omega) (by omega)).mono ?_
 rintro e w' ⟨rfl, hg, hr'⟩
 exact ⟨rfl, MK.mark hg hr e1 hr' (fun i => by rw [e2]; exact ints_ns xs i)⟩
theorem mkVehicles {lo hi : Nat} {w : World} {a : Option Addr} {n c : Nat} {k0 : Int} {xs : List Int} (h : IRow lo hi w 137 a (xs.map (Value.int .i64))) (hn : xs.length = n * 5) (h0 : 0 <= k0) (h1 : k0 <= 100000000000) (hb : n <= 1048576) : Calls Tryz.prog 95 #[.slice a n c, .int .i64 k0] w fun e w' => e = .returned (.int .i64 (k0 + ((n * 5 : Nat) : Int))) /\ MK lo hi w w' := by
 obtain ⟨g, rfl, hr, cur, e1, e2⟩ := h
 have hs := SRow.size e2
 rw [List.length_map, hn] at hs
 refine (markVehicleS_any g n c k0 cur _ w e1 (by omega) h0 (by omega) (by omega)).mono ?_
 rintro e w' ⟨rfl, hg, hr'⟩
 exact ⟨rfl, MK.mark hg hr e1 hr' (fun i => by rw [e2]; exact ints_ns xs i)⟩
structure SNm (lo hi : Nat) (w : World) (s : SN) : Prop where
 z : IRow lo hi w 2 s.za (s.c.zs.map (Value.int .i64))
 o : IRow lo hi w 146 s.oa (s.c.os.map (Value.int .i64))
 v : IRow lo hi w 137 s.va (s.c.vs.map (Value.int .i64))
structure VNm (lo hi : Nat) (w : World) (v : VN) : Prop where
 r : IRow lo hi w 134 v.ra (rowR v.R)
 i : ∀ r ∈ v.R, IRow lo hi w 2 r.a (r.ids.map (Value.int .i64))
 l : IRow lo hi w 2 v.la (v.L.map (Value.int .i64))
structure TNm (lo hi : Nat) (w : World) (t : TN) : Prop where
 s : IRow lo hi w 86 t.sa (rowX snCells t.S)
 v : IRow lo hi w 70 t.va (rowX vnCells t.V)
 ss : ∀ s ∈ t.S, SNm lo hi w s
 vs : ∀ v ∈ t.V, VNm lo hi w v
theorem SNm.keep {lo hi : Nat} {w w' : World} {s : SN} (h : SNm lo hi w s) (k : MK lo hi w w') : SNm lo hi w' s := ⟨h.z.mk k, h.o.mk k, h.v.mk k⟩
theorem VNm.keep {lo hi : Nat} {w w' : World} {v : VN} (h : VNm lo hi w v) (k : MK lo hi w w') : VNm lo hi w' v := ⟨h.r.mk k, fun r hr => (h.i r hr).mk k, h.l.mk k⟩
theorem TNm.keep {lo hi : Nat} {w w' : World} {t : TN} (h : TNm lo hi w t) (k : MK lo hi w w') : TNm lo hi w' t := ⟨h.s.mk k, h.v.mk k, fun s hs => (h.ss s hs).keep k, fun v hv => (h.vs v hv).keep k⟩
theorem cells6v {w : World} {g : Nat} {T : TypeId} {v0 v1 v2 v3 v4 v5 : Value} (h : w.heap[g]? = some (.cells #[v0, v1, v2, v3, v4, v5] T (0, 0))) : w.cell? ⟨g, 0, none⟩ = some v0 /\ w.cell? ⟨g, 1, none⟩ = some v1 /\ w.cell? ⟨g, 2, none⟩ = some v2 /\ w.cell? ⟨g, 3, none⟩ = some v3 /\ w.cell? ⟨g, 4, none⟩ = some v4 /\ w.cell? ⟨g, 5, none⟩ = some v5 := by
 refine ⟨?_, ?_, ?_, ?_, ?_, ?_⟩ <;> (rw [cell_of_row _ _ _ _ _ _ h]; rfl)
theorem IRow.lo {lo lo' hi : Nat} {w : World} {T : TypeId} {a : Option Addr} {cs : List Value} (h : IRow lo hi w T a cs) (hl : lo' <= lo) : IRow lo' hi w T a cs := by
 obtain ⟨g, h1, h2, h3⟩ := h
 exact ⟨g, h1, ⟨by omega, h2.2⟩, h3⟩
theorem IRow.here {lo g : Nat} {w : World} {T : TypeId} {cs : List Value} (h : w.heap[g]? = some (.cells cs.toArray T (0, 0))) (hl : lo <= g) : IRow lo w.heap.size w T (some ⟨g, 0, none⟩) cs := ⟨g, rfl, ⟨hl, row_lt h⟩, SRow.of_row h⟩
theorem IRow.ints9 {lo g : Nat} {w : World} {T : TypeId} {zs : List Int} (h : w.heap[g]? = some (.cells (cellsOf zs) T (0, 0))) (hl : lo <= g) : IRow lo w.heap.size w T (some ⟨g, 0, none⟩) (zs.map (Value.int .i64)) := IRow.here (by rw [h]; simp [cellsOf]) hl
structure SNB (lo : Nat) (W : World) (s : SN) : Prop where
 a9 : SNAt W s
 m : SNm lo W.heap.size W s
structure VNB (lo : Nat) (W : World) (v : VN) : Prop where
 a9 : VNAt W v
 m : VNm lo W.heap.size W v
structure TNB (lo : Nat) (W : World) (t : TN) : Prop where
 a9 : TNAt W t
 m : TNm lo W.heap.size W t
theorem SNB.lo {lo lo' : Nat} {W : World} {s : SN} (h : SNB lo W s) (hl : lo' <= lo) : SNB lo' W s := ⟨h.a9, h.m.z.lo hl, h.m.o.lo hl, h.m.v.lo hl⟩
theorem VNB.lo {lo lo' : Nat} {W : World} {s : VN} (h : VNB lo W s) (hl : lo' <= lo) : VNB lo' W s := ⟨h.a9, h.m.r.lo hl, fun r hr => (h.m.i r hr).lo hl, h.m.l.lo hl⟩
theorem TNB.lo {lo lo' : Nat} {W : World} {s : TN} (h : TNB lo W s) (hl : lo' <= lo) : TNB lo' W s := ⟨h.a9, h.m.s.lo hl, h.m.v.lo hl, fun x hx => ⟨(h.m.ss x hx).z.lo hl, (h.m.ss x hx).o.lo hl, (h.m.ss x hx).v.lo hl⟩, fun x hx => ⟨(h.m.vs x hx).r.lo hl, fun r hr => ((h.m.vs x hx).i r hr).lo hl, (h.m.vs x hx).l.lo hl⟩⟩
def SnapsB (lo : Nat) (W : World) (a : Option Addr) (S : List SN) : Prop := (SnapsAt W a S /\ IRow lo W.heap.size W 86 a (rowX snCells S)) /\ ∀ s ∈ S, SNB lo W s
def VersB (lo : Nat) (W : World) (a : Option Addr) (S : List VN) : Prop := (VersAt W a S /\ IRow lo W.heap.size W 70 a (rowX vnCells S)) /\ ∀ s ∈ S, VNB lo W s
def TensB (lo : Nat) (W : World) (a : Option Addr) (S : List TN) : Prop := (TensAt W a S /\ IRow lo W.heap.size W 36 a (rowX tnCells S)) /\ ∀ s ∈ S, TNB lo W s
theorem SnapsB.lo {lo lo' : Nat} {W : World} {a : Option Addr} {S : List SN} (h : SnapsB lo W a S) (hl : lo' <= lo) : SnapsB lo' W a S := ⟨⟨h.1.1, h.1.2.lo hl⟩, fun s hs => (h.2 s hs).lo hl⟩
theorem TensB.lo {lo lo' : Nat} {W : World} {a : Option Addr} {S : List TN} (h : TensB lo W a S) (hl : lo' <= lo) : TensB lo' W a S := ⟨⟨h.1.1, h.1.2.lo hl⟩, fun s hs => (h.2 s hs).lo hl⟩
theorem VersB.lo {lo lo' : Nat} {W : World} {a : Option Addr} {S : List VN} (h : VersB lo W a S) (hl : lo' <= lo) : VersB lo' W a S := ⟨⟨h.1.1, h.1.2.lo hl⟩, fun s hs => (h.2 s hs).lo hl⟩
theorem RT.plain_key {R S : List RT} (h : S.map RT.key = R.map RT.key) : S.map RT.plain = R.map RT.plain := by
 have e : ∀ T : List RT, T.map RT.plain = (T.map RT.key).map (fun x => (⟨x.1, none, x.2, 0⟩ : RT)) := fun T => by rw [List.map_map]; rfl
 rw [e S, e R, h]
theorem infoSn : (Tryz.prog.info? 86).map (fun i => (i.zero, i.size, decide (i.bytes <= 1000))) = some (some (.agg #[.int .i64 0, .int .i64 0, .slice none 0 0, .slice none 0 0, .slice none 0 0, .int .i64 0]), 6, true) := by kernel_rfl
theorem makeSn (W : World) (len : Nat) (hlen : len <= 1048576) :
 (Instr.makeSlice 33 (.int .i64 len) (.int .i64 len)).run Tryz.prog W = .ok (.slice (some ⟨W.heap.size, 0, none⟩) len len) (W.alloc (.cells (rowX snCells (List.replicate len sn0)).toArray 86)) := by
 have h := infoSn
 cases hq : Tryz.prog.info? 86 with
 | none => simp [hq] at h
 | some i =>
   simp [hq] at h
   obtain ⟨hz, hs, hb⟩ := h
   have := run_make (P := Tryz.prog) W 33 86 i (.agg #[.int .i64 0, .int .i64 0, .slice none 0 0, .slice none 0 0, .slice none 0 0, .int .i64 0]) Tryz.underlying33 hq hz .i64 .i64 len len (by omega) (by omega) (by have : (i.bytes : Int) * (len : Int) <= 1000 * 1048576 := Int.mul_le_mul (by omega) (by omega) (by omega) (by omega); omega) (by omega)
   rw [this, hs]
   simp only [Int.toNat_natCast]
   rw [show (Value.agg #[.int .i64 0, .int .i64 0, .slice none 0 0, .slice none 0 0, .slice none 0 0, .int .i64 0]).cells = #[.int .i64 0, .int .i64 0, .slice none 0 0, .slice none 0 0, .slice none 0 0, .int .i64 0] from rfl, made_x sn_len (by omega) sn0 #[.int .i64 0, .int .i64 0, .slice none 0 0, .slice none 0 0, .slice none 0 0, .int .i64 0] rfl len]
theorem infoVn : (Tryz.prog.info? 70).map (fun i => (i.zero, i.size, decide (i.bytes <= 1000))) = some (some (.agg #[.int .i64 0, .int .i64 0, .slice none 0 0, .slice none 0 0]), 4, true) := by kernel_rfl
theorem makeVn (W : World) (len : Nat) (hlen : len <= 1048576) :
 (Instr.makeSlice 34 (.int .i64 len) (.int .i64 len)).run Tryz.prog W = .ok (.slice (some ⟨W.heap.size, 0, none⟩) len len) (W.alloc (.cells (rowX vnCells (List.replicate len vn0)).toArray 70)) := by
 have h := infoVn
 cases hq : Tryz.prog.info? 70 with
 | none => simp [hq] at h
 | some i =>
   simp [hq] at h
   obtain ⟨hz, hs, hb⟩ := h
   have := run_make (P := Tryz.prog) W 34 70 i (.agg #[.int .i64 0, .int .i64 0, .slice none 0 0, .slice none 0 0]) Tryz.underlying34 hq hz .i64 .i64 len len (by omega) (by omega) (by have : (i.bytes : Int) * (len : Int) <= 1000 * 1048576 := Int.mul_le_mul (by omega) (by omega) (by omega) (by omega); omega) (by omega)
   rw [this, hs]
   simp only [Int.toNat_natCast]
   rw [show (Value.agg #[.int .i64 0, .int .i64 0, .slice none 0 0, .slice none 0 0]).cells = #[.int .i64 0, .int .i64 0, .slice none 0 0, .slice none 0 0] from rfl, made_x vn_len (by omega) vn0 #[.int .i64 0, .int .i64 0, .slice none 0 0, .slice none 0 0] rfl len]
theorem infoTn : (Tryz.prog.info? 36).map (fun i => (i.zero, i.size, decide (i.bytes <= 1000))) = some (some (.agg #[.string ⟨#[]⟩, .int .i64 0, .slice none 0 0, .slice none 0 0, .int .i64 0]), 5, true) := by kernel_rfl
theorem makeTn (W : World) (len : Nat) (hlen : len <= 1048576) :
 (Instr.makeSlice 27 (.int .i64 len) (.int .i64 len)).run Tryz.prog W = .ok (.slice (some ⟨W.heap.size, 0, none⟩) len len) (W.alloc (.cells (rowX tnCells (List.replicate len tn0)).toArray 36)) := by
 have h := infoTn
 cases hq : Tryz.prog.info? 36 with
 | none => simp [hq] at h
 | some i =>
   simp [hq] at h
   obtain ⟨hz, hs, hb⟩ := h
   have := run_make (P := Tryz.prog) W 27 36 i (.agg #[.string ⟨#[]⟩, .int .i64 0, .slice none 0 0, .slice none 0 0, .int .i64 0]) Tryz.underlying27 hq hz .i64 .i64 len len (by omega) (by omega) (by have : (i.bytes : Int) * (len : Int) <= 1000 * 1048576 := Int.mul_le_mul (by omega) (by omega) (by omega) (by omega); omega) (by omega)
   rw [this, hs]
   simp only [Int.toNat_natCast]
   rw [show (Value.agg #[.string ⟨#[]⟩, .int .i64 0, .slice none 0 0, .slice none 0 0, .int .i64 0]).cells = #[.string ⟨#[]⟩, .int .i64 0, .slice none 0 0, .slice none 0 0, .int .i64 0] from rfl, made_x tn_len (by omega) tn0 #[.string ⟨#[]⟩, .int .i64 0, .slice none 0 0, .slice none 0 0, .int .i64 0] rfl len]
set_option maxHeartbeats 2000000 in
theorem toSnapshot_any (s : SN) (w : World) (ho : SNOk 1048576 s) (hA : SNAt w s) :
 Calls Tryz.prog 162 #[.agg #[.int .i64 s.id, .int .i64 s.c.n, .slice s.za s.c.zs.length s.zc, .slice s.oa s.c.ko s.oc, .slice s.va s.c.kv s.vc, .int .i64 s.c.f]] w fun e w' => ∃ s' : SN, e = .returned (.agg #[.int .i64 s'.id, .int .i64 s'.c.n, .slice s'.za s'.c.zs.length s'.zc, .slice s'.oa s'.c.ko s'.oc, .slice s'.va s'.c.kv s'.vc, .int .i64 s'.c.f]) /\ (s'.plain = s.plain /\ s'.c.zs.length <= s'.zc) /\ Below w.heap.size w w' /\ KA w.heap.size w' (fun W => SNB w.heap.size W s') := by
 obtain ⟨id, ⟨cn, cf, zs, os, vs, ko, kv⟩, za, oa, va, zc, oc, vc⟩ := s
 have HA := hdn hA
 have CZ : Hid (∀ W, SNAt W ⟨id, ⟨cn, cf, zs, os, vs, ko, kv⟩, za, oa, va, zc, oc, vc⟩ -> Calls Tryz.prog 192 #[.agg #[.int .i64 cn, .slice za zs.length zc, .slice oa ko oc, .slice va kv vc, .int .i64 cf]] W _) := fun W h => toCase_any cn cf za oa va zc ko oc kv vc zs os vs W h.z h.o h.v ho.o ho.v ho.zm ho.om ho.vm
 clear hA ho
 simp only at CZ ⊢
 obtain ⟨nz, HNZ⟩ := nmd zs.length
 rw [HNZ.out] at CZ ⊢
 have T0 := hdn (TB.new 208 86 w #[.int .i64 id, .int .i64 cn, .slice za nz zc, .slice oa ko oc, .slice va kv vc, .int .i64 cf] #[.int .i64 0, .int .i64 0, .slice none 0 0, .slice none 0 0, .slice none 0 0, .int .i64 0] #[.int .i64 0, .int .i64 0, .slice none 0 0, .slice none 0 0, .slice none 0 0, .int .i64 0])
 go_enter Tryz.func162, Tryz.ntmps162
 obtain ⟨c0, c1, c2, c3, c4, c5⟩ := cells6v T0.out.s
 obtain ⟨x0, x1, x2, x3, x4, x5⟩ := cells6v T0.out.o
 have f0 := fun i => frozen_of_row _ _ i _ _ T0.out.o
 go_wp2_with fail
 clear c0 c1 c2 c3 c4 c5 x0 x1 x2 x3 x4 x5 f0
 have T1 := hdn (TB.new 208 86 w #[.int .i64 id, .int .i64 cn, .slice za nz zc, .slice oa ko oc, .slice va kv vc, .int .i64 cf] #[.int .i64 0, .int .i64 0, .slice none 0 0, .slice none 0 0, .slice none 0 0, .int .i64 0] #[.int .i64 id, .int .i64 0, .slice none 0 0, .slice none 0 0, .slice none 0 0, .int .i64 0])
 clear T0
 generalize (((w.alloc (.cells #[.int .i64 id, .int .i64 cn, .slice za nz zc, .slice oa ko oc, .slice va kv vc, .int .i64 cf] 208)).alloc (.cells #[.int .i64 0, .int .i64 0, .slice none 0 0, .slice none 0 0, .slice none 0 0, .int .i64 0] 86)).alloc (.cells #[.int .i64 id, .int .i64 0, .slice none 0 0, .slice none 0 0, .slice none 0 0, .int .i64 0] 86)) = W0 at *
 have hW0 := row_lt T1.out.o
 refine (CZ.out W0 (HA.out.below T1.out.b)).mono ?_
 rintro e w1 ⟨g, go, gv, hg, hgo, hgv, rfl, hb, hc⟩
 have T2 := hdn (T1.out.below hb)
 have K2 : Hid (KA (w.heap.size + 3) w1 (fun W => SNB w.heap.size W ⟨id, ⟨cn, cf, zs, os, vs, ko, kv⟩, some ⟨g, 0, none⟩, some ⟨go, 0, none⟩, some ⟨gv, 0, none⟩, nz, ko, kv⟩)) := fun W hW => by
  have h1 := hW _ _ (by omega) hc.1
  have h2 := hW _ _ (by omega) hc.2.1
  have h3 := hW _ _ (by omega) hc.2.2
  exact ⟨⟨IntsAt.of_row h1, IntsAt.of_row h2, IntsAt.of_row h3⟩, ⟨IRow.ints9 h1 (by omega), IRow.ints9 h2 (by omega), IRow.ints9 h3 (by omega)⟩⟩
 clear hb hc hg hgo hgv T1 CZ HA hW0
 obtain ⟨x0, x1, x2, x3, x4, x5⟩ := cells6v T2.out.o
 obtain ⟨z0, z1, z2, z3, z4, z5⟩ := cells6v T2.out.z
 have f0 := fun i => frozen_of_row _ _ i _ _ T2.out.o
 have f1 := fun i => frozen_of_row _ _ i _ _ T2.out.z
 go_wp2
 refine bodyPost_ret (v := .agg #[.int .i64 id, .int .i64 cn, .slice (some ⟨g, 0, none⟩) nz nz, .slice (some ⟨go, 0, none⟩) ko ko, .slice (some ⟨gv, 0, none⟩) kv kv, .int .i64 cf]) (by simp [results, Tryz.results162, go_sem, z0, z1, z2, z3, z4, z5]) rfl ⟨⟨id, ⟨cn, cf, zs, os, vs, ko, kv⟩, some ⟨g, 0, none⟩, some ⟨go, 0, none⟩, some ⟨gv, 0, none⟩, nz, ko, kv⟩, by simp only [HNZ.out], ⟨rfl, Nat.le_of_eq HNZ.out⟩, ?_, ?_⟩
 · repeat (first | with_reducible exact T2.out.b | refine Below.setCell ?_ (by simp <;> omega) _)
 · refine KA.base (b0 := w.heap.size) (base := w.heap.size + 3) ?_ (by omega)
   repeat (first | with_reducible exact K2.out | refine KA.set ?_ (by omega))
set_option maxHeartbeats 2000000 in
theorem toVersion_any (v : VN) (w : World) (ho : VNOk 1048576 v) (hA : VNAt w v) :
 Calls Tryz.prog 163 #[.agg #[.int .i64 v.id, .int .i64 v.sn, .slice v.ra v.R.length v.rc, .slice v.la v.L.length v.lc]] w fun e w' => ∃ v' : VN, e = .returned (.agg #[.int .i64 v'.id, .int .i64 v'.sn, .slice v'.ra v'.R.length v'.rc, .slice v'.la v'.L.length v'.lc]) /\ (v'.plain = v.plain /\ ∀ r ∈ v'.R, r.ids.length <= r.c /\ ∃ g, r.a = some ⟨g, 0, none⟩) /\ Below w.heap.size w w' /\ KA w.heap.size w' (fun W => VNB w.heap.size W v') := by
 obtain ⟨id, sn, R, L, ra, la, rc, lc⟩ := v
 have HA := hdn hA
 have CZ : Hid (∀ W, VNAt W ⟨id, sn, R, L, ra, la, rc, lc⟩ -> Calls Tryz.prog 193 #[.agg #[.slice ra R.length rc, .slice la L.length lc]] W _) := fun W h => toPlan_any ra la rc lc R L W h.r h.l ho.n ho.i ho.l
 clear hA ho
 simp only at CZ ⊢
 obtain ⟨nr, HNR⟩ := nmd R.length
 obtain ⟨nl, HNL⟩ := nmd L.length
 rw [HNR.out, HNL.out] at CZ ⊢
 have T0 := hdn (TB.new 214 70 w #[.int .i64 id, .int .i64 sn, .slice ra nr rc, .slice la nl lc] #[.int .i64 0, .int .i64 0, .slice none 0 0, .slice none 0 0] #[.int .i64 0, .int .i64 0, .slice none 0 0, .slice none 0 0])
 go_enter Tryz.func163, Tryz.ntmps163
 obtain ⟨c0, c1, c2, c3⟩ := cells4v T0.out.s
 obtain ⟨x0, x1, x2, x3⟩ := cells4v T0.out.o
 have f0 := fun i => frozen_of_row _ _ i _ _ T0.out.o
 go_wp2_with fail
 clear c0 c1 c2 c3 x0 x1 x2 x3 f0
 have T1 := hdn (TB.new 214 70 w #[.int .i64 id, .int .i64 sn, .slice ra nr rc, .slice la nl lc] #[.int .i64 0, .int .i64 0, .slice none 0 0, .slice none 0 0] #[.int .i64 id, .int .i64 sn, .slice none 0 0, .slice none 0 0])
 clear T0
 generalize (((w.alloc (.cells #[.int .i64 id, .int .i64 sn, .slice ra nr rc, .slice la nl lc] 214)).alloc (.cells #[.int .i64 0, .int .i64 0, .slice none 0 0, .slice none 0 0] 70)).alloc (.cells #[.int .i64 id, .int .i64 sn, .slice none 0 0, .slice none 0 0] 70)) = W0 at *
 have hW0 := row_lt T1.out.o
 refine (CZ.out W0 (HA.out.below T1.out.b)).mono ?_
 rintro e w1 ⟨g, gl, S, rfl, hb, hg, hgl, hr, hN, hl⟩
 have T2 := hdn (T1.out.below hb)
 have K2 : Hid (KA (w.heap.size + 3) w1 (fun W => VNB w.heap.size W ⟨id, sn, S, L, some ⟨g, 0, none⟩, some ⟨gl, 0, none⟩, nr, nl⟩)) := fun W hW => by
  have h1 := hW _ _ (by omega) hr
  have h3 := hW _ _ (by omega) hl
  have h2 : ∀ s ∈ S, ∃ q, s.a = some ⟨q, 0, none⟩ /\ w.heap.size <= q /\ W.heap[q]? = some (.cells (cellsOf s.ids) 2 (0, 0)) := fun s hs => by
   obtain ⟨q, h1, h2, _, h4⟩ := hN.2 s hs
   exact ⟨q, h1, by omega, hW _ _ (by omega) h4⟩
  refine ⟨⟨RoutesAt.of_row h1 (fun s hs => ?_), IntsAt.of_row h3⟩, ⟨IRow.here h1 (by omega), fun s hs => ?_, IRow.ints9 h3 (by omega)⟩⟩
  · obtain ⟨q, e, _, h4⟩ := h2 s hs
    rw [e]
    exact IntsAt.of_row h4
  · obtain ⟨q, e, hq, h4⟩ := h2 s hs
    rw [e]
    exact IRow.ints9 h4 hq
 have HPL : Hid (VN.plain ⟨id, sn, S, L, some ⟨g, 0, none⟩, some ⟨gl, 0, none⟩, nr, nl⟩ = VN.plain ⟨id, sn, R, L, ra, la, rc, lc⟩) := by
  show _ = _
  unfold VN.plain
  simp only [RT.plain_key hN.1]
 have HRM : Hid (∀ r ∈ S, r.ids.length <= r.c /\ ∃ g, r.a = some ⟨g, 0, none⟩) := fun r hr => by
  obtain ⟨q, h1, _, h3, _⟩ := hN.2 r hr
  exact ⟨by omega, q, h1⟩
 have HSL : Hid (S.length = nr) := (key_len hN.1).trans HNR.out
 clear hb hr hN hl hg hgl T1 CZ HA hW0
 obtain ⟨x0, x1, x2, x3⟩ := cells4v T2.out.o
 obtain ⟨z0, z1, z2, z3⟩ := cells4v T2.out.z
 have f0 := fun i => frozen_of_row _ _ i _ _ T2.out.o
 have f1 := fun i => frozen_of_row _ _ i _ _ T2.out.z
 go_wp2
 refine bodyPost_ret (v := .agg #[.int .i64 id, .int .i64 sn, .slice (some ⟨g, 0, none⟩) nr nr, .slice (some ⟨gl, 0, none⟩) nl nl]) (by simp [results, Tryz.results163, go_sem, z0, z1, z2, z3]) rfl ⟨⟨id, sn, S, L, some ⟨g, 0, none⟩, some ⟨gl, 0, none⟩, nr, nl⟩, by simp only [HSL.out, HNL.out], ⟨HPL.out, HRM.out⟩, ?_, ?_⟩
 · repeat (first | with_reducible exact T2.out.b | refine Below.setCell ?_ (by simp <;> omega) _)
 · refine KA.base (b0 := w.heap.size) (base := w.heap.size + 3) ?_ (by omega)
   repeat (first | with_reducible exact K2.out | refine KA.set ?_ (by omega))
def VN.room (v : VN) : Prop := ∀ r ∈ v.R, r.ids.length <= r.c /\ ∃ g, r.a = some ⟨g, 0, none⟩
def SN.room (s : SN) : Prop := s.c.zs.length <= s.zc
def TN.room (t : TN) : Prop := (∀ v ∈ t.V, v.room) /\ ∀ s ∈ t.S, s.room
set_option maxHeartbeats 4000000 in
theorem toSnapshotS_any (a : Option Addr) (c : Nat) (X : List SN) (w : World) (hA : SnapsAt w a X) (hn : X.length <= 1048576) (hok : ∀ x ∈ X, SNOk 1048576 x) :
 Calls Tryz.prog 125 #[.slice a X.length c] w fun e w' => ∃ S : List SN, e = .returned (.slice (some ⟨w.heap.size, 0, none⟩) X.length X.length) /\ (S.map SN.plain = X.map SN.plain /\ ∀ s ∈ S, SN.room s) /\ Below w.heap.size w w' /\ KA w.heap.size w' (fun W => SnapsB w.heap.size W (some ⟨w.heap.size, 0, none⟩) S) := by
 have HA := hdn hA
 have HOK := hdn hok
 clear hA hok
 obtain ⟨n, HN⟩ := nmd X.length
 rw [HN.out] at hn ⊢
 have hmk := fun W => makeSn W n hn
 go_enter Tryz.func125, Tryz.ntmps125
 go_wp2_with fail
 clear hmk
 go_loopw [4] (fun t wr => ∃ (k : Nat) (S : List SN), k <= n /\ t = .int .i64 k /\ Below w.heap.size w wr /\ w.heap.size < wr.heap.size /\ S.length = k /\ (S.map SN.plain = (X.take k).map SN.plain /\ ∀ s ∈ S, SN.room s) /\ KA (w.heap.size + 1) wr (fun W => ∀ s ∈ S, SNB w.heap.size W s) /\ wr.heap[w.heap.size]? = some (.cells (rowX snCells (S ++ List.replicate (n - k) sn0)).toArray 86 (0, 0))) (fun t _ => n - (intOf t).toNat)
 case atStart =>
  refine ⟨0, [], Nat.zero_le _, rfl, (Below.refl _ _).alloc (Nat.le_refl _) _, by simp, rfl, by simp, fun W hW s hs => by simp at hs, ?_⟩
  rw [List.nil_append, Nat.sub_zero]
  exact heap_alloc_new w _
 case round =>
  obtain ⟨k, S, hk, rfl, hb, hsz, hS, hP, hK, hg⟩ := hrel
  have B1 := hdn hb
  have K1 := hdn hK
  have G1 := hdn hg
  have P1 := hdn hP
  have HSk : Hid (S.length = k) := hS
  clear hb hK hg hS hP
  by_cases hlt : k < n
  · have hkn : (k : Int) < n := by omega
    have hkX : k < X.length := by rw [HN.out]; exact hlt
    obtain ⟨b, off, e, c0, c1, c2, c3, c4, c5⟩ := (HA.out.below B1.out).at hkX
    have hmem : X[k] ∈ X := List.getElem_mem hkX
    have HE := hdn (HOK.out _ hmem)
    have HEA := hdn ((HA.out.below B1.out).2 _ hmem)
    have HTK : Hid ((X.take (k + 1)).map SN.plain = (X.take k).map SN.plain ++ [X[k].plain]) := by
     show _ = _
     rw [List.take_succ_eq_append_getElem hkX, List.map_append]
     rfl
    subst e
    generalize X[k] = x at *
    have CE := toSnapshot_any x wr HE.out HEA.out
    have HPX : Hid (x.plain = x.plain) := rfl
    generalize hpx : SN.plain x = px at HTK CE
    clear hpx HPX
    obtain ⟨id, ⟨cn, cf, zs, os, vs, ko, kv⟩, za, oa, va, zc, oc, vc⟩ := x
    simp only at c0 c1 c2 c3 c4 c5 CE
    clear HE HEA hmem
    generalize zs.length = nz at *
    go_wp2_with fail
    clear c0 c1 c2 c3 c4 c5
    refine CE.mono ?_
    rintro e w2 ⟨x', rfl, ⟨hpe, hrm⟩, hb2, hk2⟩
    have B2 := hdn (B1.out.trans (hb2.mono B1.out.size))
    have hwrs : w.heap.size <= wr.heap.size := by omega
    have K2 := hdn ((K1.out.below hb2).and ((hk2.base (b0 := w.heap.size + 1) (by omega)).mono fun _ h => h.lo hwrs))
    have G2 := hdn (below_row hb2 (row_lt G1.out) G1.out)
    have hsz2 : w.heap.size < w2.heap.size := by have := hb2.size; omega
    have P2 := P1.out
    have PE := hdn hpe
    have HRM3 : Hid (∀ s ∈ S ++ [x'], SN.room s) := fun s hs => by
     rcases List.mem_append.1 hs with hs | hs
     · exact P2.2 s hs
     · rw [List.mem_singleton.1 hs]; exact hrm
    clear hb2 hk2 B1 K1 G1 P1 CE hpe
    have y0 : w2.cell? ⟨w.heap.size, k * 6, none⟩ = some (.int .i64 0) := by rw [cell_of_row _ _ _ _ _ _ G2.out]; simpa using rowX_at sn_len (S ++ List.replicate (n - k) sn0) k 0 (by simp [HSk.out]; omega) (.int .i64 0) (by rw [List.getElem_append_right (by rw [HSk.out]; exact Nat.le_refl _), List.getElem_replicate]; rfl)
    have y1 : w2.cell? ⟨w.heap.size, k * 6 + 1, none⟩ = some (.int .i64 0) := by rw [cell_of_row _ _ _ _ _ _ G2.out]; simpa using rowX_at sn_len (S ++ List.replicate (n - k) sn0) k 1 (by simp [HSk.out]; omega) (.int .i64 0) (by rw [List.getElem_append_right (by rw [HSk.out]; exact Nat.le_refl _), List.getElem_replicate]; rfl)
    have y2 : w2.cell? ⟨w.heap.size, k * 6 + 2, none⟩ = some (.slice none 0 0) := by rw [cell_of_row _ _ _ _ _ _ G2.out]; simpa using rowX_at sn_len (S ++ List.replicate (n - k) sn0) k 2 (by simp [HSk.out]; omega) (.slice none 0 0) (by rw [List.getElem_append_right (by rw [HSk.out]; exact Nat.le_refl _), List.getElem_replicate]; rfl)
    have y3 : w2.cell? ⟨w.heap.size, k * 6 + 3, none⟩ = some (.slice none 0 0) := by rw [cell_of_row _ _ _ _ _ _ G2.out]; simpa using rowX_at sn_len (S ++ List.replicate (n - k) sn0) k 3 (by simp [HSk.out]; omega) (.slice none 0 0) (by rw [List.getElem_append_right (by rw [HSk.out]; exact Nat.le_refl _), List.getElem_replicate]; rfl)
    have y4 : w2.cell? ⟨w.heap.size, k * 6 + 4, none⟩ = some (.slice none 0 0) := by rw [cell_of_row _ _ _ _ _ _ G2.out]; simpa using rowX_at sn_len (S ++ List.replicate (n - k) sn0) k 4 (by simp [HSk.out]; omega) (.slice none 0 0) (by rw [List.getElem_append_right (by rw [HSk.out]; exact Nat.le_refl _), List.getElem_replicate]; rfl)
    have y5 : w2.cell? ⟨w.heap.size, k * 6 + 5, none⟩ = some (.int .i64 0) := by rw [cell_of_row _ _ _ _ _ _ G2.out]; simpa using rowX_at sn_len (S ++ List.replicate (n - k) sn0) k 5 (by simp [HSk.out]; omega) (.int .i64 0) (by rw [List.getElem_append_right (by rw [HSk.out]; exact Nat.le_refl _), List.getElem_replicate]; rfl)
    have ff := fun i => frozen_of_row _ _ i _ _ G2.out
    have G3 := hdn (putX_thing (x := x') sn_len (S := S) (z := sn0) (Z := List.replicate (n - (k + 1)) sn0) (by have := G2.out; rw [show n - k = (n - (k + 1)) + 1 by omega, List.replicate_succ] at this; exact this) HSk.out)
    have B3 := hdn (putX_below (snCells x') (k * 6) w2 B2.out (Nat.le_refl _))
    have K3 := hdn (putX_keep (snCells x') (k * 6) w2 K2.out (Nat.lt_succ_self _))
    have P3 : Hid ((S ++ [x']).map SN.plain = (X.take (k + 1)).map SN.plain) := by
     show _ = _
     rw [HTK.out, List.map_append, P2.1, List.map_cons, List.map_nil, PE.out]
    have S3 : Hid ((S ++ [x']).length = k + 1) := by show _ = _; rw [List.length_append, HSk.out]; rfl
    have K4 : Hid (KA (w.heap.size + 1) (putX w.heap.size (snCells x') (k * 6) w2) (fun W => ∀ s ∈ S ++ [x'], SNB w.heap.size W s)) := K3.out.mono fun W h s hs => by
     rcases List.mem_append.1 hs with hs | hs
     · exact h.1 s hs
     · rw [List.mem_singleton.1 hs]; exact h.2
    have Z3 := hdn (row_lt G3.out)
    have hdef : ∀ Q : World -> Prop, Q (putX w.heap.size (snCells x') (k * 6) w2) -> Q (((((((w2.setCell ⟨w.heap.size, k * 6, none⟩ (.int .i64 x'.id)).setCell ⟨w.heap.size, k * 6 + 1, none⟩ (.int .i64 x'.c.n)).setCell ⟨w.heap.size, k * 6 + 2, none⟩ (.slice x'.za x'.c.zs.length x'.zc)).setCell ⟨w.heap.size, k * 6 + 3, none⟩ (.slice x'.oa x'.c.ko x'.oc)).setCell ⟨w.heap.size, k * 6 + 4, none⟩ (.slice x'.va x'.c.kv x'.vc)).setCell ⟨w.heap.size, k * 6 + 5, none⟩ (.int .i64 x'.c.f))) := fun Q h => h
    clear B2 K2 G2 K3 P2
    go_wp2_with fail
    clear y0 y1 y2 y3 y4 y5 ff
    have HB := hdn (hdef (Below w.heap.size w) B3.out)
    have HZ := hdn (hdef (fun W => w.heap.size < W.heap.size) Z3.out)
    have HK := hdn (hdef (fun W => KA (w.heap.size + 1) W (fun W => ∀ s ∈ S ++ [x'], SNB w.heap.size W s)) K4.out)
    have HG := hdn (hdef (fun W => W.heap[w.heap.size]? = some (.cells (rowX snCells ((S ++ [x']) ++ List.replicate (n - (k + 1)) sn0)).toArray 86 (0, 0))) G3.out)
    exact ⟨⟨k + 1, S ++ [x'], by omega, by first | rfl | go_num, HB.out, HZ.out, S3.out, ⟨P3.out, HRM3.out⟩, HK.out, HG.out⟩, by simp [intOf]; omega⟩
  · have hkn : k = n := by omega
    subst hkn
    have HT : Hid (X.take k = X) := by show _ = _; rw [<- HN.out, List.take_length]
    rw [HT.out] at P1
    rw [Nat.sub_self, List.replicate_zero, List.append_nil] at G1
    go_wp2
    go_ret
    exact ⟨S, rfl, P1.out, B1.out, ((KA.row G1.out (Nat.le_refl _)).and (K1.out.base (Nat.le_succ _))).mono fun W h => ⟨⟨⟨RowAt.of_row sn_len h.1, fun s hs => (h.2 s hs).a9⟩, IRow.here h.1 (Nat.le_refl _)⟩, h.2⟩⟩
set_option maxHeartbeats 4000000 in
theorem toVersionS_any (a : Option Addr) (c : Nat) (X : List VN) (w : World) (hA : VersAt w a X) (hn : X.length <= 1048576) (hok : ∀ x ∈ X, VNOk 1048576 x) :
 Calls Tryz.prog 126 #[.slice a X.length c] w fun e w' => ∃ S : List VN, e = .returned (.slice (some ⟨w.heap.size, 0, none⟩) X.length X.length) /\ (S.map VN.plain = X.map VN.plain /\ ∀ s ∈ S, VN.room s) /\ Below w.heap.size w w' /\ KA w.heap.size w' (fun W => VersB w.heap.size W (some ⟨w.heap.size, 0, none⟩) S) := by
 have HA := hdn hA
 have HOK := hdn hok
 clear hA hok
 obtain ⟨n, HN⟩ := nmd X.length
 rw [HN.out] at hn ⊢
 have hmk := fun W => makeVn W n hn
 go_enter Tryz.func126, Tryz.ntmps126
 go_wp2_with fail
 clear hmk
 go_loopw [4] (fun t wr => ∃ (k : Nat) (S : List VN), k <= n /\ t = .int .i64 k /\ Below w.heap.size w wr /\ w.heap.size < wr.heap.size /\ S.length = k /\ (S.map VN.plain = (X.take k).map VN.plain /\ ∀ s ∈ S, VN.room s) /\ KA (w.heap.size + 1) wr (fun W => ∀ s ∈ S, VNB w.heap.size W s) /\ wr.heap[w.heap.size]? = some (.cells (rowX vnCells (S ++ List.replicate (n - k) vn0)).toArray 70 (0, 0))) (fun t _ => n - (intOf t).toNat)
 case atStart =>
  refine ⟨0, [], Nat.zero_le _, rfl, (Below.refl _ _).alloc (Nat.le_refl _) _, by simp, rfl, by simp, fun W hW s hs => by simp at hs, ?_⟩
  rw [List.nil_append, Nat.sub_zero]
  exact heap_alloc_new w _
 case round =>
  obtain ⟨k, S, hk, rfl, hb, hsz, hS, hP, hK, hg⟩ := hrel
  have B1 := hdn hb
  have K1 := hdn hK
  have G1 := hdn hg
  have P1 := hdn hP
  have HSk : Hid (S.length = k) := hS
  clear hb hK hg hS hP
  by_cases hlt : k < n
  · have hkn : (k : Int) < n := by omega
    have hkX : k < X.length := by rw [HN.out]; exact hlt
    obtain ⟨b, off, e, c0, c1, c2, c3⟩ := (HA.out.below B1.out).at hkX
    have hmem : X[k] ∈ X := List.getElem_mem hkX
    have HE := hdn (HOK.out _ hmem)
    have HEA := hdn ((HA.out.below B1.out).2 _ hmem)
    have HTK : Hid ((X.take (k + 1)).map VN.plain = (X.take k).map VN.plain ++ [X[k].plain]) := by
     show _ = _
     rw [List.take_succ_eq_append_getElem hkX, List.map_append]
     rfl
    subst e
    generalize X[k] = x at *
    have CE := toVersion_any x wr HE.out HEA.out
    have HPX : Hid (x.plain = x.plain) := rfl
    generalize hpx : VN.plain x = px at HTK CE
    clear hpx HPX
    obtain ⟨id, sn, R, L, ra, la, rc, lc⟩ := x
    simp only at c0 c1 c2 c3 CE
    clear HE HEA hmem
    generalize R.length = nr at *
    generalize L.length = nl at *
    go_wp2_with fail
    clear c0 c1 c2 c3
    refine CE.mono ?_
    rintro e w2 ⟨x', rfl, ⟨hpe, hrm⟩, hb2, hk2⟩
    have B2 := hdn (B1.out.trans (hb2.mono B1.out.size))
    have hwrs : w.heap.size <= wr.heap.size := by omega
    have K2 := hdn ((K1.out.below hb2).and ((hk2.base (b0 := w.heap.size + 1) (by omega)).mono fun _ h => h.lo hwrs))
    have G2 := hdn (below_row hb2 (row_lt G1.out) G1.out)
    have hsz2 : w.heap.size < w2.heap.size := by have := hb2.size; omega
    have P2 := P1.out
    have PE := hdn hpe
    have HRM3 : Hid (∀ s ∈ S ++ [x'], VN.room s) := fun s hs => by
     rcases List.mem_append.1 hs with hs | hs
     · exact P2.2 s hs
     · rw [List.mem_singleton.1 hs]; exact hrm
    clear hb2 hk2 B1 K1 G1 P1 CE hpe
    have y0 : w2.cell? ⟨w.heap.size, k * 4, none⟩ = some (.int .i64 0) := by rw [cell_of_row _ _ _ _ _ _ G2.out]; simpa using rowX_at vn_len (S ++ List.replicate (n - k) vn0) k 0 (by simp [HSk.out]; omega) (.int .i64 0) (by rw [List.getElem_append_right (by rw [HSk.out]; exact Nat.le_refl _), List.getElem_replicate]; rfl)
    have y1 : w2.cell? ⟨w.heap.size, k * 4 + 1, none⟩ = some (.int .i64 0) := by rw [cell_of_row _ _ _ _ _ _ G2.out]; simpa using rowX_at vn_len (S ++ List.replicate (n - k) vn0) k 1 (by simp [HSk.out]; omega) (.int .i64 0) (by rw [List.getElem_append_right (by rw [HSk.out]; exact Nat.le_refl _), List.getElem_replicate]; rfl)
    have y2 : w2.cell? ⟨w.heap.size, k * 4 + 2, none⟩ = some (.slice none 0 0) := by rw [cell_of_row _ _ _ _ _ _ G2.out]; simpa using rowX_at vn_len (S ++ List.replicate (n - k) vn0) k 2 (by simp [HSk.out]; omega) (.slice none 0 0) (by rw [List.getElem_append_right (by rw [HSk.out]; exact Nat.le_refl _), List.getElem_replicate]; rfl)
    have y3 : w2.cell? ⟨w.heap.size, k * 4 + 3, none⟩ = some (.slice none 0 0) := by rw [cell_of_row _ _ _ _ _ _ G2.out]; simpa using rowX_at vn_len (S ++ List.replicate (n - k) vn0) k 3 (by simp [HSk.out]; omega) (.slice none 0 0) (by rw [List.getElem_append_right (by rw [HSk.out]; exact Nat.le_refl _), List.getElem_replicate]; rfl)
    have ff := fun i => frozen_of_row _ _ i _ _ G2.out
    have G3 := hdn (putX_thing (x := x') vn_len (S := S) (z := vn0) (Z := List.replicate (n - (k + 1)) vn0) (by have := G2.out; rw [show n - k = (n - (k + 1)) + 1 by omega, List.replicate_succ] at this; exact this) HSk.out)
    have B3 := hdn (putX_below (vnCells x') (k * 4) w2 B2.out (Nat.le_refl _))
    have K3 := hdn (putX_keep (vnCells x') (k * 4) w2 K2.out (Nat.lt_succ_self _))
    have P3 : Hid ((S ++ [x']).map VN.plain = (X.take (k + 1)).map VN.plain) := by
     show _ = _
     rw [HTK.out, List.map_append, P2.1, List.map_cons, List.map_nil, PE.out]
    have S3 : Hid ((S ++ [x']).length = k + 1) := by show _ = _; rw [List.length_append, HSk.out]; rfl
    have K4 : Hid (KA (w.heap.size + 1) (putX w.heap.size (vnCells x') (k * 4) w2) (fun W => ∀ s ∈ S ++ [x'], VNB w.heap.size W s)) := K3.out.mono fun W h s hs => by
     rcases List.mem_append.1 hs with hs | hs
     · exact h.1 s hs
     · rw [List.mem_singleton.1 hs]; exact h.2
    have Z3 := hdn (row_lt G3.out)
    have hdef : ∀ Q : World -> Prop, Q (putX w.heap.size (vnCells x') (k * 4) w2) -> Q (((((w2.setCell ⟨w.heap.size, k * 4, none⟩ (.int .i64 x'.id)).setCell ⟨w.heap.size, k * 4 + 1, none⟩ (.int .i64 x'.sn)).setCell ⟨w.heap.size, k * 4 + 2, none⟩ (.slice x'.ra x'.R.length x'.rc)).setCell ⟨w.heap.size, k * 4 + 3, none⟩ (.slice x'.la x'.L.length x'.lc))) := fun Q h => h
    clear B2 K2 G2 K3 P2
    go_wp2_with fail
    clear y0 y1 y2 y3 ff
    have HB := hdn (hdef (Below w.heap.size w) B3.out)
    have HZ := hdn (hdef (fun W => w.heap.size < W.heap.size) Z3.out)
    have HK := hdn (hdef (fun W => KA (w.heap.size + 1) W (fun W => ∀ s ∈ S ++ [x'], VNB w.heap.size W s)) K4.out)
    have HG := hdn (hdef (fun W => W.heap[w.heap.size]? = some (.cells (rowX vnCells ((S ++ [x']) ++ List.replicate (n - (k + 1)) vn0)).toArray 70 (0, 0))) G3.out)
    exact ⟨⟨k + 1, S ++ [x'], by omega, by first | rfl | go_num, HB.out, HZ.out, S3.out, ⟨P3.out, HRM3.out⟩, HK.out, HG.out⟩, by simp [intOf]; omega⟩
  · have hkn : k = n := by omega
    subst hkn
    have HT : Hid (X.take k = X) := by show _ = _; rw [<- HN.out, List.take_length]
    rw [HT.out] at P1
    rw [Nat.sub_self, List.replicate_zero, List.append_nil] at G1
    go_wp2
    go_ret
    exact ⟨S, rfl, P1.out, B1.out, ((KA.row G1.out (Nat.le_refl _)).and (K1.out.base (Nat.le_succ _))).mono fun W h => ⟨⟨⟨RowAt.of_row vn_len h.1, fun s hs => (h.2 s hs).a9⟩, IRow.here h.1 (Nat.le_refl _)⟩, h.2⟩⟩
set_option maxHeartbeats 4000000 in
theorem toTenant_any (t : TN) (w : World) (ho : TNOk 1048576 t) (hA : TNAt w t) :
 Calls Tryz.prog 79 #[.agg #[.string (txt t.nm), .int .i64 t.nx, .slice t.sa t.S.length t.sc, .slice t.va t.V.length t.vc, .int .i64 t.pub]] w fun e w' => ∃ t' : TN, e = .returned (.agg #[.string (txt t'.nm), .int .i64 t'.nx, .slice t'.sa t'.S.length t'.sc, .slice t'.va t'.V.length t'.vc, .int .i64 t'.pub]) /\ (t'.plain = t.plain /\ t'.room) /\ Below w.heap.size w w' /\ KA w.heap.size w' (fun W => TNB w.heap.size W t') := by
 obtain ⟨nm, nx, S, V, pub, sa, va, sc, vc⟩ := t
 have HA := hdn hA
 have CS : Hid (∀ W, SnapsAt W sa S -> Calls Tryz.prog 125 #[.slice sa S.length sc] W _) := fun W h => toSnapshotS_any sa sc S W h ho.s ho.os
 have CV : Hid (∀ W, VersAt W va V -> Calls Tryz.prog 126 #[.slice va V.length vc] W _) := fun W h => toVersionS_any va vc V W h ho.v ho.ov
 clear hA ho
 simp only at CS CV ⊢
 obtain ⟨nS, HNS⟩ := nmd S.length
 obtain ⟨nV, HNV⟩ := nmd V.length
 obtain ⟨nb, HNB⟩ := nmd (txt nm)
 rw [HNS.out] at CS ⊢
 rw [HNV.out] at CV ⊢
 rw [HNB.out]
 have T0 := hdn (TB.new 117 36 w #[.string nb, .int .i64 nx, .slice sa nS sc, .slice va nV vc, .int .i64 pub] #[.string ⟨#[]⟩, .int .i64 0, .slice none 0 0, .slice none 0 0, .int .i64 0] #[.string ⟨#[]⟩, .int .i64 0, .slice none 0 0, .slice none 0 0, .int .i64 0])
 go_enter Tryz.func79, Tryz.ntmps79
 obtain ⟨c0, c1, c2, c3, c4⟩ := cells5 T0.out.s
 obtain ⟨x0, x1, x2, x3, x4⟩ := cells5 T0.out.o
 have f0 := fun i => frozen_of_row _ _ i _ _ T0.out.o
 go_wp2_with fail
 clear c0 c1 c2 c3 c4 x0 x1 x2 x3 x4 f0
 have T1 := hdn (TB.new 117 36 w #[.string nb, .int .i64 nx, .slice sa nS sc, .slice va nV vc, .int .i64 pub] #[.string ⟨#[]⟩, .int .i64 0, .slice none 0 0, .slice none 0 0, .int .i64 0] #[.string nb, .int .i64 nx, .slice none 0 0, .slice none 0 0, .int .i64 0])
 clear T0
 generalize (((w.alloc (.cells #[.string nb, .int .i64 nx, .slice sa nS sc, .slice va nV vc, .int .i64 pub] 117)).alloc (.cells #[.string ⟨#[]⟩, .int .i64 0, .slice none 0 0, .slice none 0 0, .int .i64 0] 36)).alloc (.cells #[.string nb, .int .i64 nx, .slice none 0 0, .slice none 0 0, .int .i64 0] 36)) = W0 at *
 have hW0 := row_lt T1.out.o
 refine (CS.out W0 (HA.out.s.below T1.out.b)).mono ?_
 rintro e w1 ⟨S', rfl, hps, hb, hk⟩
 have T2 := hdn (T1.out.below hb)
 have hw0s : w.heap.size <= W0.heap.size := by omega
 have K2 := hdn ((hk.base (b0 := w.heap.size + 3) (by omega)).mono fun _ h => h.lo hw0s)
 have PS := hdn hps.1
 have RS := hdn hps.2
 generalize W0.heap.size = g1 at *
 clear hb hk hps T1 CS hW0 hw0s
 obtain ⟨c0, c1, c2, c3, c4⟩ := cells5 T2.out.s
 obtain ⟨x0, x1, x2, x3, x4⟩ := cells5 T2.out.o
 have f0 := fun i => frozen_of_row _ _ i _ _ T2.out.o
 go_wp2_with fail
 clear c0 c1 c2 c3 c4 x0 x1 x2 x3 x4 f0
 have T3 := hdn (T2.out.set 2 (.slice (some ⟨g1, 0, none⟩) nS nS))
 have K3 := hdn (K2.out.set (g := w.heap.size + 1 + 1) (i := 2) (v := .slice (some ⟨g1, 0, none⟩) nS nS) (by omega))
 clear T2 K2
 generalize w1.setCell ⟨w.heap.size + 1 + 1, 2, none⟩ (.slice (some ⟨g1, 0, none⟩) nS nS) = W1 at *
 have hW1 := row_lt T3.out.o
 refine (CV.out W1 (HA.out.v.below T3.out.b)).mono ?_
 rintro e w2 ⟨V', rfl, hpv, hb, hk⟩
 have T4 := hdn (T3.out.below hb)
 have hw1s : w.heap.size <= W1.heap.size := by omega
 have K4 := hdn ((K3.out.below hb).and ((hk.base (b0 := w.heap.size + 3) (by omega)).mono fun _ h => h.lo hw1s))
 have PV := hdn hpv.1
 have HRM : Hid (TN.room ⟨nm, nx, S', V', pub, some ⟨g1, 0, none⟩, some ⟨W1.heap.size, 0, none⟩, nS, nV⟩) := ⟨hpv.2, RS.out⟩
 generalize W1.heap.size = g2 at *
 clear hb hk hpv T3 K3 CV hW1 HA hw1s
 have HPL : Hid (TN.plain ⟨nm, nx, S', V', pub, some ⟨g1, 0, none⟩, some ⟨g2, 0, none⟩, nS, nV⟩ = TN.plain ⟨nm, nx, S, V, pub, sa, va, sc, vc⟩) := by
  show _ = _
  unfold TN.plain
  simp only [PS.out, PV.out]
 have HSL : Hid (S'.length = nS) := by have := congrArg List.length PS.out; rw [List.length_map, List.length_map] at this; exact this.trans HNS.out
 have HVL : Hid (V'.length = nV) := by have := congrArg List.length PV.out; rw [List.length_map, List.length_map] at this; exact this.trans HNV.out
 have K5 : Hid (KA (w.heap.size + 3) w2 (fun W => TNB w.heap.size W ⟨nm, nx, S', V', pub, some ⟨g1, 0, none⟩, some ⟨g2, 0, none⟩, nS, nV⟩)) := K4.out.mono fun W h => ⟨⟨h.1.1.1, h.2.1.1⟩, ⟨h.1.1.2, h.2.1.2, fun s hs => (h.1.2 s hs).m, fun s hs => (h.2.2 s hs).m⟩⟩
 clear K4 PS PV
 obtain ⟨c0, c1, c2, c3, c4⟩ := cells5 T4.out.s
 obtain ⟨x0, x1, x2, x3, x4⟩ := cells5 T4.out.o
 obtain ⟨z0, z1, z2, z3, z4⟩ := cells5 T4.out.z
 have f0 := fun i => frozen_of_row _ _ i _ _ T4.out.o
 have f1 := fun i => frozen_of_row _ _ i _ _ T4.out.z
 go_wp2
 refine bodyPost_ret (v := .agg #[.string nb, .int .i64 nx, .slice (some ⟨g1, 0, none⟩) nS nS, .slice (some ⟨g2, 0, none⟩) nV nV, .int .i64 pub]) (by simp [results, Tryz.results79, go_sem, z0, z1, z2, z3, z4]) rfl ⟨⟨nm, nx, S', V', pub, some ⟨g1, 0, none⟩, some ⟨g2, 0, none⟩, nS, nV⟩, by simp only [HSL.out, HVL.out, HNB.out], ⟨HPL.out, HRM.out⟩, ?_, ?_⟩
 · repeat (first | with_reducible exact T4.out.b | refine Below.setCell ?_ (by simp <;> omega) _)
 · refine KA.base (b0 := w.heap.size) (base := w.heap.size + 3) ?_ (by omega)
   repeat (first | with_reducible exact K5.out | refine KA.set ?_ (by omega))
set_option maxHeartbeats 4000000 in
theorem toTenantS_any (a : Option Addr) (c : Nat) (X : List TN) (w : World) (hA : TensAt w a X) (hn : X.length <= 1048576) (hok : ∀ x ∈ X, TNOk 1048576 x) :
 Calls Tryz.prog 31 #[.slice a X.length c] w fun e w' => ∃ S : List TN, e = .returned (.slice (some ⟨w.heap.size, 0, none⟩) X.length X.length) /\ (S.map TN.plain = X.map TN.plain /\ ∀ s ∈ S, TN.room s) /\ Below w.heap.size w w' /\ KA w.heap.size w' (fun W => TensB w.heap.size W (some ⟨w.heap.size, 0, none⟩) S) := by
 have HA := hdn hA
 have HOK := hdn hok
 clear hA hok
 obtain ⟨n, HN⟩ := nmd X.length
 rw [HN.out] at hn ⊢
 have hmk := fun W => makeTn W n hn
 go_enter Tryz.func31, Tryz.ntmps31
 go_wp2_with fail
 clear hmk
 go_loopw [4] (fun t wr => ∃ (k : Nat) (S : List TN), k <= n /\ t = .int .i64 k /\ Below w.heap.size w wr /\ w.heap.size < wr.heap.size /\ S.length = k /\ (S.map TN.plain = (X.take k).map TN.plain /\ ∀ s ∈ S, TN.room s) /\ KA (w.heap.size + 1) wr (fun W => ∀ s ∈ S, TNB w.heap.size W s) /\ wr.heap[w.heap.size]? = some (.cells (rowX tnCells (S ++ List.replicate (n - k) tn0)).toArray 36 (0, 0))) (fun t _ => n - (intOf t).toNat)
 case atStart =>
  refine ⟨0, [], Nat.zero_le _, rfl, (Below.refl _ _).alloc (Nat.le_refl _) _, by simp, rfl, by simp, fun W hW s hs => by simp at hs, ?_⟩
  rw [List.nil_append, Nat.sub_zero]
  exact heap_alloc_new w _
 case round =>
  obtain ⟨k, S, hk, rfl, hb, hsz, hS, hP, hK, hg⟩ := hrel
  have B1 := hdn hb
  have K1 := hdn hK
  have G1 := hdn hg
  have P1 := hdn hP
  have HSk : Hid (S.length = k) := hS
  clear hb hK hg hS hP
  by_cases hlt : k < n
  · have hkn : (k : Int) < n := by omega
    have hkX : k < X.length := by rw [HN.out]; exact hlt
    obtain ⟨b, off, e, c0, c1, c2, c3, c4⟩ := (HA.out.below B1.out).at hkX
    have hmem : X[k] ∈ X := List.getElem_mem hkX
    have HE := hdn (HOK.out _ hmem)
    have HEA := hdn ((HA.out.below B1.out).2 _ hmem)
    have HTK : Hid ((X.take (k + 1)).map TN.plain = (X.take k).map TN.plain ++ [X[k].plain]) := by
     show _ = _
     rw [List.take_succ_eq_append_getElem hkX, List.map_append]
     rfl
    subst e
    generalize X[k] = x at *
    have CE := toTenant_any x wr HE.out HEA.out
    have HPX : Hid (x.plain = x.plain) := rfl
    generalize hpx : TN.plain x = px at HTK CE
    clear hpx HPX
    obtain ⟨nm, nx, tS, tV, pub, sa, va, sc, vc⟩ := x
    simp only at c0 c1 c2 c3 c4 CE
    clear HE HEA hmem
    generalize txt nm = nb at *
    generalize tS.length = nS at *
    generalize tV.length = nV at *
    go_wp2_with fail
    clear c0 c1 c2 c3 c4
    refine CE.mono ?_
    rintro e w2 ⟨x', rfl, ⟨hpe, hrm⟩, hb2, hk2⟩
    have B2 := hdn (B1.out.trans (hb2.mono B1.out.size))
    have hwrs : w.heap.size <= wr.heap.size := by omega
    have K2 := hdn ((K1.out.below hb2).and ((hk2.base (b0 := w.heap.size + 1) (by omega)).mono fun _ h => h.lo hwrs))
    have G2 := hdn (below_row hb2 (row_lt G1.out) G1.out)
    have hsz2 : w.heap.size < w2.heap.size := by have := hb2.size; omega
    have P2 := P1.out
    have PE := hdn hpe
    have HRM3 : Hid (∀ s ∈ S ++ [x'], TN.room s) := fun s hs => by
     rcases List.mem_append.1 hs with hs | hs
     · exact P2.2 s hs
     · rw [List.mem_singleton.1 hs]; exact hrm
    clear hb2 hk2 B1 K1 G1 P1 CE hpe
    have y0 : w2.cell? ⟨w.heap.size, k * 5, none⟩ = some (.string ⟨#[]⟩) := by rw [cell_of_row _ _ _ _ _ _ G2.out]; simpa using rowX_at tn_len (S ++ List.replicate (n - k) tn0) k 0 (by simp [HSk.out]; omega) (.string ⟨#[]⟩) (by rw [List.getElem_append_right (by rw [HSk.out]; exact Nat.le_refl _), List.getElem_replicate]; rfl)
    have y1 : w2.cell? ⟨w.heap.size, k * 5 + 1, none⟩ = some (.int .i64 0) := by rw [cell_of_row _ _ _ _ _ _ G2.out]; simpa using rowX_at tn_len (S ++ List.replicate (n - k) tn0) k 1 (by simp [HSk.out]; omega) (.int .i64 0) (by rw [List.getElem_append_right (by rw [HSk.out]; exact Nat.le_refl _), List.getElem_replicate]; rfl)
    have y2 : w2.cell? ⟨w.heap.size, k * 5 + 2, none⟩ = some (.slice none 0 0) := by rw [cell_of_row _ _ _ _ _ _ G2.out]; simpa using rowX_at tn_len (S ++ List.replicate (n - k) tn0) k 2 (by simp [HSk.out]; omega) (.slice none 0 0) (by rw [List.getElem_append_right (by rw [HSk.out]; exact Nat.le_refl _), List.getElem_replicate]; rfl)
    have y3 : w2.cell? ⟨w.heap.size, k * 5 + 3, none⟩ = some (.slice none 0 0) := by rw [cell_of_row _ _ _ _ _ _ G2.out]; simpa using rowX_at tn_len (S ++ List.replicate (n - k) tn0) k 3 (by simp [HSk.out]; omega) (.slice none 0 0) (by rw [List.getElem_append_right (by rw [HSk.out]; exact Nat.le_refl _), List.getElem_replicate]; rfl)
    have y4 : w2.cell? ⟨w.heap.size, k * 5 + 4, none⟩ = some (.int .i64 0) := by rw [cell_of_row _ _ _ _ _ _ G2.out]; simpa using rowX_at tn_len (S ++ List.replicate (n - k) tn0) k 4 (by simp [HSk.out]; omega) (.int .i64 0) (by rw [List.getElem_append_right (by rw [HSk.out]; exact Nat.le_refl _), List.getElem_replicate]; rfl)
    have ff := fun i => frozen_of_row _ _ i _ _ G2.out
    have G3 := hdn (putX_thing (x := x') tn_len (S := S) (z := tn0) (Z := List.replicate (n - (k + 1)) tn0) (by have := G2.out; rw [show n - k = (n - (k + 1)) + 1 by omega, List.replicate_succ] at this; exact this) HSk.out)
    have B3 := hdn (putX_below (tnCells x') (k * 5) w2 B2.out (Nat.le_refl _))
    have K3 := hdn (putX_keep (tnCells x') (k * 5) w2 K2.out (Nat.lt_succ_self _))
    have P3 : Hid ((S ++ [x']).map TN.plain = (X.take (k + 1)).map TN.plain) := by
     show _ = _
     rw [HTK.out, List.map_append, P2.1, List.map_cons, List.map_nil, PE.out]
    have S3 : Hid ((S ++ [x']).length = k + 1) := by show _ = _; rw [List.length_append, HSk.out]; rfl
    have K4 : Hid (KA (w.heap.size + 1) (putX w.heap.size (tnCells x') (k * 5) w2) (fun W => ∀ s ∈ S ++ [x'], TNB w.heap.size W s)) := K3.out.mono fun W h s hs => by
     rcases List.mem_append.1 hs with hs | hs
     · exact h.1 s hs
     · rw [List.mem_singleton.1 hs]; exact h.2
    have Z3 := hdn (row_lt G3.out)
    have hdef : ∀ Q : World -> Prop, Q (putX w.heap.size (tnCells x') (k * 5) w2) -> Q ((((((w2.setCell ⟨w.heap.size, k * 5, none⟩ (.string (txt x'.nm))).setCell ⟨w.heap.size, k * 5 + 1, none⟩ (.int .i64 x'.nx)).setCell ⟨w.heap.size, k * 5 + 2, none⟩ (.slice x'.sa x'.S.length x'.sc)).setCell ⟨w.heap.size, k * 5 + 3, none⟩ (.slice x'.va x'.V.length x'.vc)).setCell ⟨w.heap.size, k * 5 + 4, none⟩ (.int .i64 x'.pub))) := fun Q h => h
    clear B2 K2 G2 K3 P2
    go_wp2_with fail
    clear y0 y1 y2 y3 y4 ff
    have HB := hdn (hdef (Below w.heap.size w) B3.out)
    have HZ := hdn (hdef (fun W => w.heap.size < W.heap.size) Z3.out)
    have HK := hdn (hdef (fun W => KA (w.heap.size + 1) W (fun W => ∀ s ∈ S ++ [x'], TNB w.heap.size W s)) K4.out)
    have HG := hdn (hdef (fun W => W.heap[w.heap.size]? = some (.cells (rowX tnCells ((S ++ [x']) ++ List.replicate (n - (k + 1)) tn0)).toArray 36 (0, 0))) G3.out)
    exact ⟨⟨k + 1, S ++ [x'], by omega, by first | rfl | go_num, HB.out, HZ.out, S3.out, ⟨P3.out, HRM3.out⟩, HK.out, HG.out⟩, by simp [intOf]; omega⟩
  · have hkn : k = n := by omega
    subst hkn
    have HT : Hid (X.take k = X) := by show _ = _; rw [<- HN.out, List.take_length]
    rw [HT.out] at P1
    rw [Nat.sub_self, List.replicate_zero, List.append_nil] at G1
    go_wp2
    go_ret
    exact ⟨S, rfl, P1.out, B1.out, ((KA.row G1.out (Nat.le_refl _)).and (K1.out.base (Nat.le_succ _))).mono fun W h => ⟨⟨⟨RowAt.of_row tn_len h.1, fun s hs => (h.2 s hs).a9⟩, IRow.here h.1 (Nat.le_refl _)⟩, h.2⟩⟩
set_option maxHeartbeats 2000000 in
theorem toStore_any (a : Option Addr) (c : Nat) (X : List TN) (w : World) (hA : TensAt w a X) (hn : X.length <= 1048576) (hok : ∀ x ∈ X, TNOk 1048576 x) :
 Calls Tryz.prog 10 #[.agg #[.slice a X.length c]] w fun e w' => ∃ (g : Nat) (S : List TN), e = .returned (.agg #[.slice (some ⟨g, 0, none⟩) X.length X.length]) /\ (S.map TN.plain = X.map TN.plain /\ ∀ s ∈ S, TN.room s) /\ Below w.heap.size w w' /\ KA w.heap.size w' (fun W => TensB w.heap.size W (some ⟨g, 0, none⟩) S) := by
 have HA := hdn hA
 have CS : Hid (∀ W, TensAt W a X -> Calls Tryz.prog 31 #[.slice a X.length c] W _) := fun W h => toTenantS_any a c X W h hn hok
 clear hA hok
 obtain ⟨n, HN⟩ := nmd X.length
 rw [HN.out] at CS ⊢
 have T0 := hdn (TB.new 24 29 w #[.slice a n c] #[.slice none 0 0] #[.slice none 0 0])
 have cell1 : ∀ {w : World} {g : Nat} {T : TypeId} {v : Value}, w.heap[g]? = some (.cells #[v] T (0, 0)) -> w.cell? ⟨g, 0, none⟩ = some v := fun h => by rw [cell_of_row _ _ _ _ _ _ h]; rfl
 go_enter Tryz.func10, Tryz.ntmps10
 have c0 := cell1 T0.out.s
 go_wp2_with fail
 clear c0
 generalize (((w.alloc (.cells #[.slice a n c] 24)).alloc (.cells #[.slice none 0 0] 29)).alloc (.cells #[.slice none 0 0] 29)) = W0 at *
 have hW0 := row_lt T0.out.o
 refine (CS.out W0 (HA.out.below T0.out.b)).mono ?_
 rintro e w1 ⟨S, rfl, hp, hb, hk⟩
 have T2 := hdn (T0.out.below hb)
 have hw0s : w.heap.size <= W0.heap.size := by omega
 have K2 := hdn ((hk.base (b0 := w.heap.size + 3) (by omega)).mono fun _ h => h.lo hw0s)
 have PS := hdn hp
 generalize W0.heap.size = g1 at *
 clear hb hk hp T0 CS hW0 HA hw0s
 have x0 := cell1 T2.out.o
 have z0 := cell1 T2.out.z
 have f0 := fun i => frozen_of_row _ _ i _ _ T2.out.o
 have f1 := fun i => frozen_of_row _ _ i _ _ T2.out.z
 clear cell1
 go_wp2
 refine bodyPost_ret (v := .agg #[.slice (some ⟨g1, 0, none⟩) n n]) (by simp [results, Tryz.results10, go_sem, z0]) rfl ⟨g1, S, rfl, PS.out, ?_, ?_⟩
 · repeat (first | with_reducible exact T2.out.b | refine Below.setCell ?_ (by simp <;> omega) _)
 · refine KA.base (b0 := w.heap.size) (base := w.heap.size + 3) ?_ (by omega)
   repeat (first | with_reducible exact K2.out | refine KA.set ?_ (by omega))
theorem map_at {α β : Type} {f : α -> β} {S X : List α} (h : S.map f = X.map f) {j : Nat} (hj : j < X.length) (hs : j < S.length) : f S[j] = f X[j] := by
 have e : (S.map f)[j]? = (X.map f)[j]? := by rw [h]
 rw [List.getElem?_map, List.getElem?_map, List.getElem?_eq_getElem hs, List.getElem?_eq_getElem hj] at e
 simpa using e
theorem map_len {α β : Type} {f : α -> β} {S X : List α} (h : S.map f = X.map f) : S.length = X.length := by
 have := congrArg List.length h
 simpa using this
theorem RT.key_plain {R S : List RT} (h : S.map RT.plain = R.map RT.plain) : S.map RT.key = R.map RT.key := by
 have e : ∀ T : List RT, T.map RT.key = (T.map RT.plain).map RT.key := fun T => by rw [List.map_map]; rfl
 rw [e S, e R, h]
theorem SN.plain_c {s t : SN} (h : s.plain = t.plain) : s.id = t.id /\ s.c = t.c := by
 unfold SN.plain at h
 simp only [SN.mk.injEq] at h
 exact ⟨h.1, h.2.1⟩
theorem VN.plain_c {s t : VN} (h : s.plain = t.plain) : s.id = t.id /\ s.sn = t.sn /\ s.R.map RT.plain = t.R.map RT.plain /\ s.L = t.L := by
 unfold VN.plain at h
 simp only [VN.mk.injEq] at h
 exact ⟨h.1, h.2.1, h.2.2.1, h.2.2.2.1⟩
theorem TN.plain_c {s t : TN} (h : s.plain = t.plain) : s.nm = t.nm /\ s.nx = t.nx /\ s.S.map SN.plain = t.S.map SN.plain /\ s.V.map VN.plain = t.V.map VN.plain /\ s.pub = t.pub := by
 unfold TN.plain at h
 simp only [TN.mk.injEq] at h
 exact ⟨h.1, h.2.1, h.2.2.1, h.2.2.2.1, h.2.2.2.2.1⟩
theorem SNOk.plain {m : Nat} {s t : SN} (h : SNOk m t) (e : s.plain = t.plain) : SNOk m s := by
 have := (SN.plain_c e).2
 exact ⟨by rw [this]; exact h.o, by rw [this]; exact h.v, by rw [this]; exact h.zm, by rw [this]; exact h.om, by rw [this]; exact h.vm⟩
theorem VNOk.plain {m : Nat} {s t : VN} (h : VNOk m t) (e : s.plain = t.plain) : VNOk m s := by
 obtain ⟨-, -, e3, e4⟩ := VN.plain_c e
 refine ⟨by rw [map_len e3]; exact h.n, key_ids (RT.key_plain e3) h.i, by rw [e4]; exact h.l, by rw [e4]; exact h.w⟩
theorem mem_plain {α : Type} {f : α -> α} {S X : List α} (h : S.map f = X.map f) {s : α} (hs : s ∈ S) : ∃ x ∈ X, f s = f x := by
 have : f s ∈ S.map f := List.mem_map_of_mem hs
 rw [h] at this
 obtain ⟨x, hx, e⟩ := List.mem_map.1 this
 exact ⟨x, hx, e.symm⟩
theorem TNOk.plain {m : Nat} {s t : TN} (h : TNOk m t) (e : s.plain = t.plain) : TNOk m s := by
 obtain ⟨e1, -, e3, e4, -⟩ := TN.plain_c e
 refine ⟨by rw [e1]; exact h.n, by rw [map_len e3]; exact h.s, by rw [map_len e4]; exact h.v, fun x hx => ?_, fun x hx => ?_⟩
 · obtain ⟨y, hy, e⟩ := mem_plain e3 hx
   exact (h.os y hy).plain e
 · obtain ⟨y, hy, e⟩ := mem_plain e4 hx
   exact (h.ov y hy).plain e
theorem two_boxes (w : World) (c d : Array Value) (T : TypeId) : Below w.heap.size w ((w.alloc (.cells c T)).alloc (.cells d T)) /\ ((w.alloc (.cells c T)).alloc (.cells d T)).heap[w.heap.size]? = some (.cells c T (0, 0)) /\ ((w.alloc (.cells c T)).alloc (.cells d T)).heap[w.heap.size + 1]? = some (.cells d T (0, 0)) := ⟨((Below.refl _ _).alloc (Nat.le_refl _) _).alloc (by simp) _, heap_alloc2_old _ _ _, heap_alloc2_new _ _ _⟩
set_option maxHeartbeats 1000000 in
theorem eqSnapshot_same (x y : SN) (w : World) (hA : SNAt w x) (hB : SNAt w y) (hp : y.plain = x.plain) (ho : SNOk 1048576 x) :
 Calls Tryz.prog 91 #[.agg #[.int .i64 x.id, .int .i64 x.c.n, .slice x.za x.c.zs.length x.zc, .slice x.oa x.c.ko x.oc, .slice x.va x.c.kv x.vc, .int .i64 x.c.f], .agg #[.int .i64 y.id, .int .i64 y.c.n, .slice y.za y.c.zs.length y.zc, .slice y.oa y.c.ko y.oc, .slice y.va y.c.kv y.vc, .int .i64 y.c.f]] w fun e w' => e = .returned (.bool true) /\ Below w.heap.size w w' := by
 obtain ⟨id, ⟨cn, cf, zs, os, vs, ko, kv⟩, za, oa, va, zc, oc, vc⟩ := x
 obtain ⟨id', c', za', oa', va', zc', oc', vc'⟩ := y
 obtain ⟨e1, e2⟩ := SN.plain_c hp
 simp only at e1 e2
 subst e1 e2
 have HA := hdn hA
 have HB := hdn hB
 have CC : Hid (∀ W, Below w.heap.size w W -> Calls Tryz.prog 138 #[.agg #[.int .i64 cn, .slice za zs.length zc, .slice oa ko oc, .slice va kv vc, .int .i64 cf], .agg #[.int .i64 cn, .slice za' zs.length zc', .slice oa' ko oc', .slice va' kv vc', .int .i64 cf]] W fun e w' => e = .returned (.bool true) /\ Below W.heap.size W w') := fun W hb => by
  have h1 := hA.below hb
  have h2 := hB.below hb
  exact eqCase_same cn cf za oa va za' oa' va' zc ko oc kv vc zc' oc' vc' zs os vs W h1.z h1.o h1.v h2.z h2.o h2.v ho.o ho.v (by have := ho.zm; simp only at this; omega) (by have := ho.om; simp only at this; omega) (by have := ho.vm; simp only at this; omega)
 simp only
 generalize zs.length = nz at *
 clear hA hB hp ho HA HB
 obtain ⟨t1, t2, t3⟩ := two_boxes w #[.int .i64 id', .int .i64 cn, .slice za nz zc, .slice oa ko oc, .slice va kv vc, .int .i64 cf] #[.int .i64 id', .int .i64 cn, .slice za' nz zc', .slice oa' ko oc', .slice va' kv vc', .int .i64 cf] 86
 have B0 := hdn t1
 obtain ⟨c0, c1, c2, c3, c4, c5⟩ := cells6v t2
 obtain ⟨d0, d1, d2, d3, d4, d5⟩ := cells6v t3
 clear t1 t2 t3
 have hne : (id' != id') = false := by simp
 go_enter Tryz.func91, Tryz.ntmps91
 go_wp2_with fail
 clear c0 c1 c2 c3 c4 c5 d0 d1 d2 d3 d4 d5
 refine (CC.out _ B0.out).mono ?_
 rintro e w1 ⟨rfl, hb⟩
 have B1 := hdn (B0.out.trans (hb.mono B0.out.size))
 clear hb CC
 go_wp2
 go_ret
 exact ⟨rfl, B1.out⟩
set_option maxHeartbeats 1000000 in
theorem eqVersion_same (x y : VN) (w : World) (hA : VNAt w x) (hB : VNAt w y) (hp : y.plain = x.plain) (ho : VNOk 1048576 x) :
 Calls Tryz.prog 92 #[.agg #[.int .i64 x.id, .int .i64 x.sn, .slice x.ra x.R.length x.rc, .slice x.la x.L.length x.lc], .agg #[.int .i64 y.id, .int .i64 y.sn, .slice y.ra y.R.length y.rc, .slice y.la y.L.length y.lc]] w fun e w' => e = .returned (.bool true) /\ Below w.heap.size w w' := by
 obtain ⟨id, sn, R, L, ra, la, rc, lc⟩ := x
 obtain ⟨id', sn', R', L', ra', la', rc', lc'⟩ := y
 obtain ⟨e1, e2, e3, e4⟩ := VN.plain_c hp
 simp only at e1 e2 e3 e4
 subst e1 e2 e4
 have CC : Hid (∀ W, Below w.heap.size w W -> Calls Tryz.prog 21 #[.agg #[.slice ra R.length rc, .slice la L'.length lc], .agg #[.slice ra' R.length rc', .slice la' L'.length lc']] W fun e w' => e = .returned (.bool true) /\ Below W.heap.size W w') := fun W hb => by
  have h1 := hA.below hb
  have h2 := hB.below hb
  exact eqPlan_same ra ra' la la' rc rc' R.length lc lc' R R' L' W h1.r h2.r (RT.key_plain e3) rfl ho.n ho.i h1.l h2.l ho.l
 simp only
 rw [map_len e3]
 generalize R.length = nr at *
 generalize L'.length = nl at *
 clear hA hB hp ho e3
 obtain ⟨t1, t2, t3⟩ := two_boxes w #[.int .i64 id', .int .i64 sn', .slice ra nr rc, .slice la nl lc] #[.int .i64 id', .int .i64 sn', .slice ra' nr rc', .slice la' nl lc'] 70
 have B0 := hdn t1
 obtain ⟨c0, c1, c2, c3⟩ := cells4v t2
 obtain ⟨d0, d1, d2, d3⟩ := cells4v t3
 clear t1 t2 t3
 have hne : (id' != id') = false := by simp
 have hns : (sn' != sn') = false := by simp
 go_enter Tryz.func92, Tryz.ntmps92
 go_wp2_with fail
 clear c0 c1 c2 c3 d0 d1 d2 d3
 refine (CC.out _ B0.out).mono ?_
 rintro e w1 ⟨rfl, hb⟩
 have B1 := hdn (B0.out.trans (hb.mono B0.out.size))
 clear hb CC
 go_wp2
 go_ret
 exact ⟨rfl, B1.out⟩
set_option maxHeartbeats 2000000 in
theorem eqSnapshotS_same (a a' : Option Addr) (c c' : Nat) (X Y : List SN) (w : World) (hA : SnapsAt w a X) (hB : SnapsAt w a' Y) (hk : Y.map SN.plain = X.map SN.plain) (hn : X.length <= 1048576) (hok : ∀ x ∈ X, SNOk 1048576 x) :
 Calls Tryz.prog 37 #[.slice a X.length c, .slice a' X.length c'] w fun e w' => e = .returned (.bool true) /\ Below w.heap.size w w' := by
 have HA := hdn hA
 have HB := hdn hB
 have HK := hdn hk
 have HOK := hdn hok
 obtain ⟨n, HN⟩ := nmd X.length
 have HY : Hid (Y.length = n) := (map_len hk).trans HN.out
 rw [HN.out] at hn ⊢
 clear hA hB hk hok
 go_enter Tryz.func37, Tryz.ntmps37
 go_wp2_with fail
 go_loopw [5] (fun ti wr => ∃ i : Nat, i <= n /\ ti = .int .i64 i /\ Below w.heap.size w wr) (fun ti _ => n - (intOf ti).toNat)
 case atStart => exact ⟨0, Nat.zero_le _, rfl, Below.refl _ _⟩
 case round =>
  obtain ⟨i, hi, rfl, hb⟩ := hrel
  have B1 := hdn hb
  clear hb
  by_cases hlt : i < n
  · have hiX : i < X.length := by rw [HN.out]; exact hlt
    have hiY : i < Y.length := by rw [HY.out]; exact hlt
    obtain ⟨b1, o1, e1, c0, c1, c2, c3, c4, c5⟩ := (HA.out.below B1.out).at hiX
    obtain ⟨b2, o2, e2, d0, d1, d2, d3, d4, d5⟩ := (HB.out.below B1.out).at hiY
    have hpl := map_at HK.out hiX hiY
    have hAx := (HA.out.below B1.out).2 _ (List.getElem_mem hiX)
    have hBy := (HB.out.below B1.out).2 _ (List.getElem_mem hiY)
    have hox := HOK.out _ (List.getElem_mem hiX)
    subst e1 e2
    generalize X[i] = x at *
    generalize Y[i] = y at *
    have ER : Hid (∀ W, Below wr.heap.size wr W -> Calls Tryz.prog 91 #[_, _] W fun e w' => e = .returned (.bool true) /\ Below W.heap.size W w') := fun W hb => eqSnapshot_same x y W (hAx.below hb) (hBy.below hb) hpl hox
    have hpc := SN.plain_c hpl
    clear hpl hAx hBy hox
    obtain ⟨id, ⟨cn, cf, zs, os, vs, ko, kv⟩, za, oa, va, zc, oc, vc⟩ := x
    obtain ⟨id', c', za', oa', va', zc', oc', vc'⟩ := y
    simp only at ER hpc c0 c1 c2 c3 c4 c5 d0 d1 d2 d3 d4 d5
    obtain ⟨rfl, rfl⟩ := hpc
    have hin : (i : Int) < n := by omega
    have z0 := fun s : Kin wr => s.cell c0
    have z1 := fun s : Kin wr => s.cell c1
    have z2 := fun s : Kin wr => s.cell c2
    have z3 := fun s : Kin wr => s.cell c3
    have z4 := fun s : Kin wr => s.cell c4
    have z5 := fun s : Kin wr => s.cell c5
    have z6 := fun s : Kin wr => s.cell d0
    have z7 := fun s : Kin wr => s.cell d1
    have z8 := fun s : Kin wr => s.cell d2
    have z9 := fun s : Kin wr => s.cell d3
    have z10 := fun s : Kin wr => s.cell d4
    have z11 := fun s : Kin wr => s.cell d5
    have hkin := Kin.there wr
    generalize zs.length = nz at *
    go_wp2_with fail
    refine wp_region_kin (by kernel_rfl) (by kernel_rfl) ?_
    repeat (go_big_quiet_step ((go_at_call 91; with_reducible exact Kin.call (ER.out _ (Kin.below _)))))
    refine wpQuiet_nil ?_
    rintro _ ⟨s1, rfl⟩
    clear z0 z1 z2 z3 z4 z5 z6 z7 z8 z9 z10 z11 hkin
    go_wp2
    go_roundw
    case rel => exact ⟨i + 1, by omega, by first | rfl | go_num, B1.out.trans (s1.below.mono B1.out.size)⟩
    case measure => simp [intOf]; omega
  · have hin : ¬ ((i : Int) < n) := by omega
    go_wp2
    go_ret
    exact ⟨rfl, B1.out⟩
set_option maxHeartbeats 2000000 in
theorem eqVersionS_same (a a' : Option Addr) (c c' : Nat) (X Y : List VN) (w : World) (hA : VersAt w a X) (hB : VersAt w a' Y) (hk : Y.map VN.plain = X.map VN.plain) (hn : X.length <= 1048576) (hok : ∀ x ∈ X, VNOk 1048576 x) :
 Calls Tryz.prog 38 #[.slice a X.length c, .slice a' X.length c'] w fun e w' => e = .returned (.bool true) /\ Below w.heap.size w w' := by
 have HA := hdn hA
 have HB := hdn hB
 have HK := hdn hk
 have HOK := hdn hok
 obtain ⟨n, HN⟩ := nmd X.length
 have HY : Hid (Y.length = n) := (map_len hk).trans HN.out
 rw [HN.out] at hn ⊢
 clear hA hB hk hok
 go_enter Tryz.func38, Tryz.ntmps38
 go_wp2_with fail
 go_loopw [5] (fun ti wr => ∃ i : Nat, i <= n /\ ti = .int .i64 i /\ Below w.heap.size w wr) (fun ti _ => n - (intOf ti).toNat)
 case atStart => exact ⟨0, Nat.zero_le _, rfl, Below.refl _ _⟩
 case round =>
  obtain ⟨i, hi, rfl, hb⟩ := hrel
  have B1 := hdn hb
  clear hb
  by_cases hlt : i < n
  · have hiX : i < X.length := by rw [HN.out]; exact hlt
    have hiY : i < Y.length := by rw [HY.out]; exact hlt
    obtain ⟨b1, o1, e1, c0, c1, c2, c3⟩ := (HA.out.below B1.out).at hiX
    obtain ⟨b2, o2, e2, d0, d1, d2, d3⟩ := (HB.out.below B1.out).at hiY
    have hpl := map_at HK.out hiX hiY
    have hAx := (HA.out.below B1.out).2 _ (List.getElem_mem hiX)
    have hBy := (HB.out.below B1.out).2 _ (List.getElem_mem hiY)
    have hox := HOK.out _ (List.getElem_mem hiX)
    subst e1 e2
    generalize X[i] = x at *
    generalize Y[i] = y at *
    have ER : Hid (∀ W, Below wr.heap.size wr W -> Calls Tryz.prog 92 #[_, _] W fun e w' => e = .returned (.bool true) /\ Below W.heap.size W w') := fun W hb => eqVersion_same x y W (hAx.below hb) (hBy.below hb) hpl hox
    have hpc := VN.plain_c hpl
    clear hpl hAx hBy hox
    obtain ⟨id, sn, R, L, ra, la, rc, lc⟩ := x
    obtain ⟨id', sn', R', L', ra', la', rc', lc'⟩ := y
    simp only at ER hpc c0 c1 c2 c3 d0 d1 d2 d3
    clear hpc
    have hin : (i : Int) < n := by omega
    have z0 := fun s : Kin wr => s.cell c0
    have z1 := fun s : Kin wr => s.cell c1
    have z2 := fun s : Kin wr => s.cell c2
    have z3 := fun s : Kin wr => s.cell c3
    have z4 := fun s : Kin wr => s.cell d0
    have z5 := fun s : Kin wr => s.cell d1
    have z6 := fun s : Kin wr => s.cell d2
    have z7 := fun s : Kin wr => s.cell d3
    have hkin := Kin.there wr
    generalize R.length = nr at *
    generalize R'.length = nr' at *
    generalize L.length = nl at *
    generalize L'.length = nl' at *
    go_wp2_with fail
    refine wp_region_kin (by kernel_rfl) (by kernel_rfl) ?_
    repeat (go_big_quiet_step ((go_at_call 92; with_reducible exact Kin.call (ER.out _ (Kin.below _)))))
    refine wpQuiet_nil ?_
    rintro _ ⟨s1, rfl⟩
    clear z0 z1 z2 z3 z4 z5 z6 z7 hkin
    go_wp2
    go_roundw
    case rel => exact ⟨i + 1, by omega, by first | rfl | go_num, B1.out.trans (s1.below.mono B1.out.size)⟩
    case measure => simp [intOf]; omega
  · have hin : ¬ ((i : Int) < n) := by omega
    go_wp2
    go_ret
    exact ⟨rfl, B1.out⟩
set_option maxHeartbeats 1000000 in
theorem eqTenant_same (x y : TN) (w : World) (hA : TNAt w x) (hB : TNAt w y) (hp : y.plain = x.plain) (ho : TNOk 1048576 x) :
 Calls Tryz.prog 15 #[.agg #[.string (txt x.nm), .int .i64 x.nx, .slice x.sa x.S.length x.sc, .slice x.va x.V.length x.vc, .int .i64 x.pub], .agg #[.string (txt y.nm), .int .i64 y.nx, .slice y.sa y.S.length y.sc, .slice y.va y.V.length y.vc, .int .i64 y.pub]] w fun e w' => e = .returned (.bool true) /\ Below w.heap.size w w' := by
 obtain ⟨nm, nx, S, V, pub, sa, va, sc, vc⟩ := x
 obtain ⟨nm', nx', S', V', pub', sa', va', sc', vc'⟩ := y
 obtain ⟨e1, e2, e3, e4, e5⟩ := TN.plain_c hp
 simp only at e1 e2 e3 e4 e5
 subst e1 e2 e5
 have CS : Hid (∀ W, Below w.heap.size w W -> Calls Tryz.prog 37 #[.slice sa S.length sc, .slice sa' S.length sc'] W fun e w' => e = .returned (.bool true) /\ Below W.heap.size W w') := fun W hb => eqSnapshotS_same sa sa' sc sc' S S' W (hA.s.below hb) (hB.s.below hb) e3 ho.s ho.os
 have CV : Hid (∀ W, Below w.heap.size w W -> Calls Tryz.prog 38 #[.slice va V.length vc, .slice va' V.length vc'] W fun e w' => e = .returned (.bool true) /\ Below W.heap.size W w') := fun W hb => eqVersionS_same va va' vc vc' V V' W (hA.v.below hb) (hB.v.below hb) e4 ho.v ho.ov
 simp only
 rw [map_len e3, map_len e4]
 generalize S.length = nS at *
 generalize V.length = nV at *
 generalize txt nm' = nb at *
 clear hA hB hp ho e3 e4
 obtain ⟨t1, t2, t3⟩ := two_boxes w #[.string nb, .int .i64 nx', .slice sa nS sc, .slice va nV vc, .int .i64 pub'] #[.string nb, .int .i64 nx', .slice sa' nS sc', .slice va' nV vc', .int .i64 pub'] 36
 have B0 := hdn t1
 have X0 := hdn t2
 have Y0 := hdn t3
 clear t1 t2 t3
 obtain ⟨c0, c1, c2, c3, c4⟩ := cells5 X0.out
 obtain ⟨d0, d1, d2, d3, d4⟩ := cells5 Y0.out
 have hne : (nx' != nx') = false := by simp
 have hnp : (pub' != pub') = false := by simp
 have hnn : (nb.toList == nb.toList) = true := str_eq rfl
 go_enter Tryz.func15, Tryz.ntmps15
 go_wp2_with fail
 clear c0 c1 c2 c3 c4 d0 d1 d2 d3 d4
 refine (CS.out _ B0.out).mono ?_
 rintro e w1 ⟨rfl, hb⟩
 have B1 := hdn (B0.out.trans (hb.mono B0.out.size))
 have X1 := hdn (below_row hb (row_lt X0.out) X0.out)
 have Y1 := hdn (below_row hb (row_lt Y0.out) Y0.out)
 clear hb CS X0 Y0 B0
 obtain ⟨c0, c1, c2, c3, c4⟩ := cells5 X1.out
 obtain ⟨d0, d1, d2, d3, d4⟩ := cells5 Y1.out
 go_wp2_with fail
 clear c0 c1 c2 c3 c4 d0 d1 d2 d3 d4
 refine (CV.out _ B1.out).mono ?_
 rintro e w2 ⟨rfl, hb⟩
 have B2 := hdn (B1.out.trans (hb.mono B1.out.size))
 have X2 := hdn (below_row hb (row_lt X1.out) X1.out)
 have Y2 := hdn (below_row hb (row_lt Y1.out) Y1.out)
 clear hb CV X1 Y1 B1
 obtain ⟨c0, c1, c2, c3, c4⟩ := cells5 X2.out
 obtain ⟨d0, d1, d2, d3, d4⟩ := cells5 Y2.out
 go_wp2
 go_ret
 exact ⟨rfl, B2.out⟩
set_option maxHeartbeats 2000000 in
theorem eqTenantS_same (a a' : Option Addr) (c c' : Nat) (X Y : List TN) (w : World) (hA : TensAt w a X) (hB : TensAt w a' Y) (hk : Y.map TN.plain = X.map TN.plain) (hn : X.length <= 1048576) (hok : ∀ x ∈ X, TNOk 1048576 x) :
 Calls Tryz.prog 33 #[.slice a X.length c, .slice a' X.length c'] w fun e w' => e = .returned (.bool true) /\ Below w.heap.size w w' := by
 have HA := hdn hA
 have HB := hdn hB
 have HK := hdn hk
 have HOK := hdn hok
 obtain ⟨n, HN⟩ := nmd X.length
 have HY : Hid (Y.length = n) := (map_len hk).trans HN.out
 rw [HN.out] at hn ⊢
 clear hA hB hk hok
 go_enter Tryz.func33, Tryz.ntmps33
 go_wp2_with fail
 go_loopw [5] (fun ti wr => ∃ i : Nat, i <= n /\ ti = .int .i64 i /\ Below w.heap.size w wr) (fun ti _ => n - (intOf ti).toNat)
 case atStart => exact ⟨0, Nat.zero_le _, rfl, Below.refl _ _⟩
 case round =>
  obtain ⟨i, hi, rfl, hb⟩ := hrel
  have B1 := hdn hb
  clear hb
  by_cases hlt : i < n
  · have hiX : i < X.length := by rw [HN.out]; exact hlt
    have hiY : i < Y.length := by rw [HY.out]; exact hlt
    obtain ⟨b1, o1, e1, c0, c1, c2, c3, c4⟩ := (HA.out.below B1.out).at hiX
    obtain ⟨b2, o2, e2, d0, d1, d2, d3, d4⟩ := (HB.out.below B1.out).at hiY
    have hpl := map_at HK.out hiX hiY
    have hAx := (HA.out.below B1.out).2 _ (List.getElem_mem hiX)
    have hBy := (HB.out.below B1.out).2 _ (List.getElem_mem hiY)
    have hox := HOK.out _ (List.getElem_mem hiX)
    subst e1 e2
    generalize X[i] = x at *
    generalize Y[i] = y at *
    have ER : Hid (∀ W, Below wr.heap.size wr W -> Calls Tryz.prog 15 #[_, _] W fun e w' => e = .returned (.bool true) /\ Below W.heap.size W w') := fun W hb => eqTenant_same x y W (hAx.below hb) (hBy.below hb) hpl hox
    have hpc := TN.plain_c hpl
    clear hpl hAx hBy hox
    obtain ⟨nm, nx, S, V, pub, sa, va, sc, vc⟩ := x
    obtain ⟨nm', nx', S', V', pub', sa', va', sc', vc'⟩ := y
    simp only at ER hpc c0 c1 c2 c3 c4 d0 d1 d2 d3 d4
    clear hpc
    have hin : (i : Int) < n := by omega
    have z0 := fun s : Kin wr => s.cell c0
    have z1 := fun s : Kin wr => s.cell c1
    have z2 := fun s : Kin wr => s.cell c2
    have z3 := fun s : Kin wr => s.cell c3
    have z4 := fun s : Kin wr => s.cell c4
    have z5 := fun s : Kin wr => s.cell d0
    have z6 := fun s : Kin wr => s.cell d1
    have z7 := fun s : Kin wr => s.cell d2
    have z8 := fun s : Kin wr => s.cell d3
    have z9 := fun s : Kin wr => s.cell d4
    have hkin := Kin.there wr
    generalize txt nm = nb at *
    generalize txt nm' = nb' at *
    generalize S.length = nS at *
    generalize S'.length = nS' at *
    generalize V.length = nV at *
    generalize V'.length = nV' at *
    go_wp2_with fail
    refine wp_region_kin (by kernel_rfl) (by kernel_rfl) ?_
    repeat (go_big_quiet_step ((go_at_call 15; with_reducible exact Kin.call (ER.out _ (Kin.below _)))))
    refine wpQuiet_nil ?_
    rintro _ ⟨s1, rfl⟩
    clear z0 z1 z2 z3 z4 z5 z6 z7 z8 z9 hkin
    go_wp2
    go_roundw
    case rel => exact ⟨i + 1, by omega, by first | rfl | go_num, B1.out.trans (s1.below.mono B1.out.size)⟩
    case measure => simp [intOf]; omega
  · have hin : ¬ ((i : Int) < n) := by omega
    go_wp2
    go_ret
    exact ⟨rfl, B1.out⟩
set_option maxHeartbeats 1000000 in
theorem eqStore_same (a a' : Option Addr) (c c' : Nat) (X Y : List TN) (w : World) (hA : TensAt w a X) (hB : TensAt w a' Y) (hk : Y.map TN.plain = X.map TN.plain) (hn : X.length <= 1048576) (hok : ∀ x ∈ X, TNOk 1048576 x) :
 Calls Tryz.prog 12 #[.agg #[.slice a X.length c], .agg #[.slice a' X.length c']] w fun e w' => e = .returned (.bool true) /\ Below w.heap.size w w' := by
 have CT : Hid (∀ W, Below w.heap.size w W -> Calls Tryz.prog 33 #[.slice a X.length c, .slice a' X.length c'] W fun e w' => e = .returned (.bool true) /\ Below W.heap.size W w') := fun W hb => eqTenantS_same a a' c c' X Y W (hA.below hb) (hB.below hb) hk hn hok
 generalize X.length = n at *
 clear hA hB hk hok
 obtain ⟨t1, t2, t3⟩ := two_boxes w #[.slice a n c] #[.slice a' n c'] 29
 have B0 := hdn t1
 have c0 : ((w.alloc (.cells #[.slice a n c] 29)).alloc (.cells #[.slice a' n c'] 29)).cell? ⟨w.heap.size, 0, none⟩ = some (.slice a n c) := by rw [cell_of_row _ _ _ _ _ _ t2]; rfl
 have d0 : ((w.alloc (.cells #[.slice a n c] 29)).alloc (.cells #[.slice a' n c'] 29)).cell? ⟨w.heap.size + 1, 0, none⟩ = some (.slice a' n c') := by rw [cell_of_row _ _ _ _ _ _ t3]; rfl
 clear t1 t2 t3
 go_enter Tryz.func12, Tryz.ntmps12
 go_wp2_with fail
 clear c0 d0
 refine (CT.out _ B0.out).mono ?_
 rintro e w1 ⟨rfl, hb⟩
 have B1 := hdn (B0.out.trans (hb.mono B0.out.size))
 clear hb CT
 go_wp2
 go_ret
 exact ⟨rfl, B1.out⟩
end Go.Proofs.YtehfjfmfpdgibaaGreatDoor
