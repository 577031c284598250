import Derived.Test.YtacifgekflbjcaaDoorPack0
import Derived.Test.YtacifgekflbjcaaDoorRows
import Derived.WalkKit
import Derived.WalkSpells
import Derived.WalkLawsBesides
import Derived.Deep.QuietTactic
import Derived.BigQuiet
import Derived.Deep.RegionWith
import Derived.Deep.RegionHeld3
import Derived.Deep.WholeRow
namespace Go.Proofs.YtacifgekflbjcaaDoor
end Go.Proofs.YtacifgekflbjcaaDoor

namespace Go.Proofs.YtacifgekflbjcaaDoor
open Go.RowKit

set_option maxHeartbeats 400000 in
theorem szInts_any (a : Option Addr) (len cap : Nat) (left : Int) (w : World) (h0 : 0 ≤ left) (h1 : left ≤ 1048576) (hlen : len ≤ 9223372036854775807) :
    Calls Tryd.prog 30 #[.slice a len cap, .int .i64 left] w fun e w' => e = .returned (.int .i64 (if left < len then -1 else left - len)) ∧ w' = w := by
  by_cases hlt : left < len
  · rw [if_pos hlt]
    go_enter Tryd.func30, Tryd.ntmps30
    go_wp2
    go_ret
    exact ⟨by simp, rfl⟩
  · rw [if_neg hlt]
    go_enter Tryd.func30, Tryd.ntmps30
    go_wp2
    go_ret
    exact ⟨by simp, rfl⟩

end Go.Proofs.YtacifgekflbjcaaDoor

namespace Go.Proofs.YtacifgekflbjcaaDoor
open Go.RowKit

set_option maxHeartbeats 400000 in
theorem szMat_any (n : Int) (a : Option Addr) (len cap : Nat) (left : Int) (w : World) (h0 : 0 ≤ left) (h1 : left ≤ 1048576) (hlen : len ≤ 9223372036854775807) :
    Calls Tryd.prog 15 #[.agg #[.int .i64 n, .slice a len cap], .int .i64 left] w fun e w' => e = .returned (.int .i64 (if left < len then -1 else left - len)) ∧ Below w.heap.size w w' := by
  by_cases hlt : left < len
  · rw [if_pos hlt]
    go_enter Tryd.func15, Tryd.ntmps15
    go_wp2_with (go_at_call 30; refine (szInts_any _ _ _ _ _ h0 h1 hlen).mono ?_; rintro e w' ⟨rfl, rfl⟩)
    go_ret
    exact ⟨by simp, (Below.refl _ _).alloc (Nat.le_refl _) _⟩
  · rw [if_neg hlt]
    go_enter Tryd.func15, Tryd.ntmps15
    go_wp2_with (go_at_call 30; refine (szInts_any _ _ _ _ _ h0 h1 hlen).mono ?_; rintro e w' ⟨rfl, rfl⟩)
    go_ret
    exact ⟨by simp, (Below.refl _ _).alloc (Nat.le_refl _) _⟩

end Go.Proofs.YtacifgekflbjcaaDoor

namespace Go.Proofs.YtacifgekflbjcaaDoor
open Go.RowKit

theorem Tryd.info2 : (Tryd.prog.info? 2).map (fun i => (i.zero, i.size, i.bytes)) = some (some (.int .i64 0), 1, 8) := by kernel_rfl

theorem make_ints (W : World) (len : Nat) (hlen : len ≤ 1048576) :
    (Instr.makeSlice 22 (.int .i64 len) (.int .i64 len)).run Tryd.prog W = .ok (.slice (some ⟨W.heap.size, 0, none⟩) len len) (W.alloc (.cells (cellsOf (List.replicate len 0)) 2)) := by
  have h := Tryd.info2
  cases hq : Tryd.prog.info? 2 with
  | none => simp [hq] at h
  | some i =>
    simp [hq] at h
    obtain ⟨hz, hs, hb⟩ := h
    have := run_make (P := Tryd.prog) W 22 2 i (.int .i64 0) Tryd.underlying22 hq hz .i64 .i64 len len (by omega) (by omega) (by rw [hb]; omega) (by omega)
    rw [this, hs]
    simp only [Int.toNat_natCast, made_zero]

end Go.Proofs.YtacifgekflbjcaaDoor

namespace Go.Proofs.YtacifgekflbjcaaDoor
open Go.RowKit

set_option maxHeartbeats 400000 in
theorem toInts_any (a : Option Addr) (cap : Nat) (zs : List Int) (w : World) (hA : IntsAt w a zs) (hlen : zs.length ≤ 1048576) :
    Calls Tryd.prog 33 #[.slice a zs.length cap] w fun e w' => e = .returned (.slice (some ⟨w.heap.size, 0, none⟩) zs.length zs.length) ∧ Below w.heap.size w w' ∧ w'.heap.size = w.heap.size + 1 ∧ w'.heap[w.heap.size]? = some (.cells (cellsOf zs) 2 (0, 0)) := by
  have HA : Hid (IntsAt w a zs) := hA
  clear hA
  have hmk := fun W => make_ints W zs.length hlen
  go_enter Tryd.func33, Tryd.ntmps33
  go_wp2_with fail
  clear hmk
  go_loopw [4] (fun t wr => ∃ k : Nat, k ≤ zs.length ∧ t = .int .i64 k ∧ Below w.heap.size w wr ∧ wr.heap.size = w.heap.size + 1 ∧ wr.heap[w.heap.size]? = some (.cells (cellsOf (zs.take k ++ List.replicate (zs.length - k) 0)) 2 (0, 0))) (fun t _ => zs.length - (intOf t).toNat)
  case atStart =>
    refine ⟨0, Nat.zero_le _, rfl, (Below.refl _ _).alloc (Nat.le_refl _) _, by simp, ?_⟩
    simpa using heap_alloc_new w _
  case round =>
    obtain ⟨k, hk, rfl, hb, hsz, hg⟩ := hrel
    by_cases hlt : k < zs.length
    · obtain ⟨bb, off, rfl, hcs⟩ := IntsAt.some (IntsAt.below HA.out hb) hlt
      have ct := hcs k hlt
      clear hcs
      generalize htt : zs.getD k 0 = t at ct
      have HT : Hid (zs.getD k 0 = t) := htt
      clear htt
      have cg := cell_of_row _ _ k _ _ _ hg
      rw [cellsOf_get _ _ (by simp; omega)] at cg
      have fg := frozen_of_row _ _ k _ _ hg
      have HG : Hid _ := hg
      have HZ : Hid _ := hsz
      have HB : Hid _ := hb
      clear hg hsz hb
      go_wp2
      refine ⟨⟨k + 1, by omega, by go_num, HB.out.setCell (Nat.le_refl _) _, ?_, ?_⟩, by simp [intOf]; omega⟩
      · have := HZ.out
        simpa [World.setCell] using this
      · rw [heap_setCell_same _ _ _ _ _ _ HG.out, cellsOf_set, ← HT.out, copy_step zs k hlt]
    · have hkz : k = zs.length := by omega
      have HG : Hid (wr.heap[w.heap.size]? = some (.cells (cellsOf zs) 2 (0, 0))) := by
        show _ = _
        rw [hg, hkz]; simp
      have HZ : Hid _ := hsz
      clear hg hsz hkz
      go_wp2
      go_ret
      exact ⟨rfl, hb, HZ.out, HG.out⟩

end Go.Proofs.YtacifgekflbjcaaDoor

namespace Go.Proofs.YtacifgekflbjcaaDoor
open Go.RowKit

set_option maxHeartbeats 400000 in
theorem toMat_any (n : Int) (a : Option Addr) (cap : Nat) (zs : List Int) (w : World) (hA : IntsAt w a zs) (hlen : zs.length ≤ 1048576) :
    Calls Tryd.prog 20 #[.agg #[.int .i64 n, .slice a zs.length cap]] w fun e w' => ∃ g, w.heap.size ≤ g ∧ e = .returned (.agg #[.int .i64 n, .slice (some ⟨g, 0, none⟩) zs.length zs.length]) ∧ Below w.heap.size w w' ∧ w'.heap[g]? = some (.cells (cellsOf zs) 2 (0, 0)) := by
  have HA : Hid (IntsAt w a zs) := hA
  clear hA
  go_enter Tryd.func20, Tryd.ntmps20
  go_wp2_with fail
  have HB0 : Hid (Below w.heap.size w (((w.alloc (Obj.cells #[Value.int IntKind.i64 n, Value.slice a zs.length cap] 24)).alloc (Obj.cells #[Value.int IntKind.i64 0, Value.slice none 0 0] 31)).alloc (Obj.cells #[Value.int IntKind.i64 n, Value.slice none 0 0] 31))) :=
    (((Below.refl _ _).alloc (Nat.le_refl _) _).alloc (by simp) _).alloc (by simp; omega) _
  refine (toInts_any a cap zs _ (HA.out.below HB0.out) hlen).mono ?_
  rintro e w1 ⟨rfl, hb, hsz, hg⟩
  obtain ⟨hc, hf⟩ := bcell hb
  have HB1 : Hid _ := hb
  have HG : Hid _ := hg
  clear hb hg
  simp at hsz
  go_wp2
  refine bodyPost_ret (v := .agg #[.int .i64 n, .slice (some ⟨w.heap.size + 1 + 1 + 1, 0, none⟩) zs.length zs.length]) (by simp [results, Tryd.results20, go_sem, hc]) rfl ⟨w.heap.size + 1 + 1 + 1, by omega, rfl, ?_, ?_⟩
  · exact (((HB0.out.trans (HB1.out.mono (by simp; omega))).setCell (by simp; omega) _).setCell (by simp) _).setCell (by simp) _
  · rw [heap_setCell_other _ _ _ _ (by simp <;> omega), heap_setCell_other _ _ _ _ (by simp <;> omega), heap_setCell_other _ _ _ _ (by simp <;> omega)]
    simpa using HG.out

end Go.Proofs.YtacifgekflbjcaaDoor

namespace Go.Proofs.YtacifgekflbjcaaDoor
open Go.RowKit

set_option maxHeartbeats 400000 in
theorem eqInts_any (a b : Option Addr) (c1 c2 : Nat) (xs ys : List Int) (w : World) (hA : IntsAt w a xs) (hB : IntsAt w b ys) (hl1 : xs.length ≤ 1125899906842624) :
    Calls Tryd.prog 38 #[.slice a xs.length c1, .slice b ys.length c2] w fun e w' => e = .returned (.bool (decide (xs = ys))) ∧ Below w.heap.size w w' := by
  by_cases hl : xs.length = ys.length
  · have HA : Hid (IntsAt w a xs) := hA
    have HB : Hid (IntsAt w b ys) := hB
    have HL : Hid (xs.length = ys.length) := hl
    rw [hl] at hl1 ⊢
    clear hA hB hl
    go_enter Tryd.func38, Tryd.ntmps38
    go_wp2_with fail
    go_loopw [5] (fun t wr => ∃ k : Nat, k ≤ ys.length ∧ t = .int .i64 k ∧ Below w.heap.size w wr ∧ xs.take k = ys.take k) (fun t _ => ys.length - (intOf t).toNat)
    case atStart => exact ⟨0, Nat.zero_le _, rfl, Below.refl _ _, by simp⟩
    case round =>
      obtain ⟨k, hk, rfl, hb, he⟩ := hrel
      have HE : Hid (xs.take k = ys.take k) := he
      clear he
      by_cases hlt : k < ys.length
      · have hxk : k < xs.length := by rw [HL.out]; exact hlt
        obtain ⟨b1, o1, rfl, hc1⟩ := IntsAt.some (IntsAt.below HA.out hb) hxk
        obtain ⟨b2, o2, rfl, hc2⟩ := IntsAt.some (IntsAt.below HB.out hb) hlt
        have ct1 := hc1 k hxk
        have ct2 := hc2 k hlt
        clear hc1 hc2
        generalize ht1 : xs.getD k 0 = t1 at ct1
        generalize ht2 : ys.getD k 0 = t2 at ct2
        have H1 : Hid (xs.getD k 0 = t1) := ht1
        have H2 : Hid (ys.getD k 0 = t2) := ht2
        clear ht1 ht2
        by_cases ht : t1 = t2
        · have htb : (t1 != t2) = false := by simp [ht]
          have HT : Hid (t1 = t2) := ht
          clear ht
          go_wp2
          go_quiet (fail)
          go_wp2
          refine ⟨⟨k + 1, by omega, by go_num, below_drewN hb _, ?_⟩, by simp [intOf]; omega⟩
          rw [take_snoc xs k hxk, take_snoc ys k hlt, HE.out, H1.out, H2.out, HT.out]
        · have htb : (t1 != t2) = true := by simp [ht]
          have HN : Hid (decide (xs = ys) = false) := by
            apply decide_eq_false
            intro e
            exact ht (by rw [← H1.out, ← H2.out, e])
          clear ht
          go_wp2
          go_quiet (fail)
          go_wp2
          go_ret
          exact ⟨ret_bool HN.out.symm, below_drewN hb _⟩
      · have HN : Hid (decide (xs = ys) = true) := by
          apply decide_eq_true
          have h := HE.out
          rwa [List.take_of_length_le (by rw [HL.out]; omega), List.take_of_length_le (by omega)] at h
        go_wp2
        go_ret
        exact ⟨ret_bool HN.out.symm, hb⟩
  · have HN : Hid (decide (xs = ys) = false) := decide_eq_false fun e => hl (by rw [e])
    have hne : ((xs.length : Int) != (ys.length : Int)) = true := by rw [bne_iff_ne]; omega
    clear hA hB hl
    go_enter Tryd.func38, Tryd.ntmps38
    go_wp2
    go_ret
    exact ⟨ret_bool HN.out.symm, Below.refl _ _⟩

end Go.Proofs.YtacifgekflbjcaaDoor

namespace Go.Proofs.YtacifgekflbjcaaDoor
open Go.RowKit

set_option maxHeartbeats 400000 in
theorem eqMat_same (n : Int) (a b : Option Addr) (c1 c2 : Nat) (xs : List Int) (w : World) (hA : IntsAt w a xs) (hB : IntsAt w b xs) (hl1 : xs.length ≤ 1125899906842624) :
    Calls Tryd.prog 26 #[.agg #[.int .i64 n, .slice a xs.length c1], .agg #[.int .i64 n, .slice b xs.length c2]] w fun e w' => e = .returned (.bool true) ∧ Below w.heap.size w w' := by
  have HB0 : Hid (Below w.heap.size w ((w.alloc (Obj.cells #[Value.int IntKind.i64 n, Value.slice a xs.length c1] 31)).alloc (Obj.cells #[Value.int IntKind.i64 n, Value.slice b xs.length c2] 31))) :=
    ((Below.refl _ _).alloc (Nat.le_refl _) _).alloc (by simp) _
  have HA : Hid (IntsAt w a xs) := hA
  have HB : Hid (IntsAt w b xs) := hB
  clear hA hB
  have hnn : (n != n) = false := by simp
  go_enter Tryd.func26, Tryd.ntmps26
  go_wp2_with fail
  refine (eqInts_any a b c1 c2 xs xs _ (HA.out.below HB0.out) (HB.out.below HB0.out) hl1).mono ?_
  rintro e w1 ⟨rfl, hb⟩
  have HB1 : Hid _ := hb
  clear hb
  have hd : decide (xs = xs) = true := by simp
  rw [hd]
  clear hd
  go_wp2
  go_ret
  exact ⟨rfl, HB0.out.trans (HB1.out.mono (by simp <;> omega))⟩

end Go.Proofs.YtacifgekflbjcaaDoor

namespace Go.Proofs.YtacifgekflbjcaaDoor
open Go.RowKit

/-- The worlds in which all that was there is as it was. -/
def Kin (wr : World) : Type := { x : World // Below wr.heap.size wr x }
/-- One of them, as a world. -/
def Kin.w {wr : World} (s : Kin wr) : World := s.1
theorem Kin.there (wr : World) : Nonempty (Kin wr) := ⟨⟨wr, Below.refl _ _⟩⟩
theorem Kin.below {wr : World} (s : Kin wr) : Below wr.heap.size wr s.w := s.2
theorem Kin.cell {wr : World} (s : Kin wr) {b o : Nat} {v : Value} (h : wr.cell? ⟨b, o, none⟩ = some v) : s.w.cell? ⟨b, o, none⟩ = some v := by
  rw [s.below.cell (p := ⟨b, o, none⟩) (block_lt_of_cell h)]; exact h

/-- A region that draws its order, whose operations read and whose callees leave what was there: one walk, in the text's order. -/
theorem wp_region_kin {P : Program} {id : Nat} {Q : Exit → Act → World → Prop} {a : Act} {w : World} {l : List Oper} (hm : P.follows .mixedOrders = true) (hB : Region.lexB .any l.toArray = true)
    (h : wpQuiet P l.toArray (fun w' => ∃ s : Kin w, w' = s.w) (fun a' => ∀ w', (∃ s : Kin w, w' = s.w) → Q .normal a' w') l a) : (Code.region id l.toArray true).wp P Q a w :=
  wp_region_quiet (C := fun w' => ∃ s : Kin w, w' = s.w) hm hB ⟨⟨_, (Below.refl _ _).drew⟩, rfl⟩ (by simpa using h)

theorem Kin.call {P : Program} {f : FuncId} {args : Array Value} {wr : World} {s : Kin wr} {v : Value}
    (h : Calls P f args s.w fun e w' => e = .returned v ∧ Below s.w.heap.size s.w w') : Calls P f args s.w fun e w'' => e = .returned v ∧ ∃ s' : Kin wr, w'' = s'.w :=
  h.mono fun _ w' ⟨he, hb⟩ => ⟨he, ⟨w', s.below.trans (hb.mono s.below.size)⟩, rfl⟩
theorem Kin.call_same {P : Program} {f : FuncId} {args : Array Value} {wr : World} {s : Kin wr} {v : Value}
    (h : Calls P f args s.w fun e w' => e = .returned v ∧ w' = s.w) : Calls P f args s.w fun e w'' => e = .returned v ∧ ∃ s' : Kin wr, w'' = s'.w :=
  h.mono fun _ _ ⟨he, hb⟩ => ⟨he, s, hb⟩

end Go.Proofs.YtacifgekflbjcaaDoor

namespace Go.Proofs.YtacifgekflbjcaaDoor
open Go.RowKit

set_option maxHeartbeats 400000 in
theorem szOrder_any (a : Option Addr) (len cap : Nat) (left : Int) (w : World) (h0 : 0 ≤ left) (h1 : left ≤ 1048576) (hlen : len ≤ 9223372036854775807) :
    Calls Tryd.prog 16 #[.slice a len cap, .int .i64 left] w fun e w' => e = .returned (.int .i64 (if left < len then -1 else left - len)) ∧ w' = w := by
  by_cases hlt : left < len
  · rw [if_pos hlt]
    go_enter Tryd.func16, Tryd.ntmps16
    go_wp2
    go_ret
    exact ⟨by simp, rfl⟩
  · rw [if_neg hlt]
    go_enter Tryd.func16, Tryd.ntmps16
    go_wp2
    go_ret
    exact ⟨by simp, rfl⟩

set_option maxHeartbeats 400000 in
theorem toOrder_any (o0 o1 o2 o3 o4 o5 : Int) (w : World) :
    Calls Tryd.prog 44 #[.agg #[.int .i64 o0, .int .i64 o1, .int .i64 o2, .int .i64 o3, .int .i64 o4, .int .i64 o5]] w fun e w' => e = .returned (.agg #[.int .i64 o0, .int .i64 o1, .int .i64 o2, .int .i64 o3, .int .i64 o4, .int .i64 o5]) ∧ Below w.heap.size w w' := by
  go_enter Tryd.func44, Tryd.ntmps44
  go_wp2
  refine bodyPost_ret (v := .agg #[.int .i64 o0, .int .i64 o1, .int .i64 o2, .int .i64 o3, .int .i64 o4, .int .i64 o5]) (by simp [results, Tryd.results44, go_sem]) rfl ⟨rfl, ?_⟩
  exact (((Below.refl _ _).alloc (Nat.le_refl _) _).alloc (by simp) _).alloc (by simp <;> omega) _

theorem Tryd.infoOrder : (Tryd.prog.info? 56).map (fun i => (i.zero, i.size, i.bytes)) = some (some (.agg #[Value.int IntKind.i64 0, Value.int IntKind.i64 0, Value.int IntKind.i64 0, Value.int IntKind.i64 0, Value.int IntKind.i64 0, Value.int IntKind.i64 0]), 6, 48) := by kernel_rfl

theorem made_ord (n : Nat) : madeCells (Value.agg #[Value.int IntKind.i64 0, Value.int IntKind.i64 0, Value.int IntKind.i64 0, Value.int IntKind.i64 0, Value.int IntKind.i64 0, Value.int IntKind.i64 0]).cells (n * 6) = cellsOf (List.replicate (n * 6) 0) := by
  apply Array.ext
  · simp [madeCells, cellsOf]
  · intro i h1 h2
    have hm : i % 6 < 6 := Nat.mod_lt _ (by omega)
    simp only [madeCells, cellsOf, Value.cells, Array.getElem_map, Array.getElem_range, List.map_replicate, List.getElem_toArray, List.getElem_replicate]
    generalize i % 6 = j at hm
    have : j = 0 ∨ j = 1 ∨ j = 2 ∨ j = 3 ∨ j = 4 ∨ j = 5 := by omega
    rcases this with rfl | rfl | rfl | rfl | rfl | rfl <;> rfl

theorem make_ord (W : World) (len : Nat) (hlen : len ≤ 1048576) :
    (Instr.makeSlice 32 (.int .i64 len) (.int .i64 len)).run Tryd.prog W = .ok (.slice (some ⟨W.heap.size, 0, none⟩) len len) (W.alloc (.cells (cellsOf (List.replicate (len * 6) 0)) 56)) := by
  have h := Tryd.infoOrder
  cases hq : Tryd.prog.info? 56 with
  | none => simp [hq] at h
  | some i =>
    simp [hq] at h
    obtain ⟨hz, hs, hb⟩ := h
    have := run_make (P := Tryd.prog) W 32 56 i (.agg #[Value.int IntKind.i64 0, Value.int IntKind.i64 0, Value.int IntKind.i64 0, Value.int IntKind.i64 0, Value.int IntKind.i64 0, Value.int IntKind.i64 0]) Tryd.underlying32 hq hz .i64 .i64 len len (by omega) (by omega) (by rw [hb]; omega) (by omega)
    rw [this, hs]
    simp only [Int.toNat_natCast, made_ord]

set_option maxHeartbeats 1000000 in
theorem toOrderS_any (a : Option Addr) (n cap : Nat) (zs : List Int) (w : World) (hA : IntsAt w a zs) (hl : zs.length = n * 6) (hlen : n ≤ 1048576) :
    Calls Tryd.prog 21 #[.slice a n cap] w fun e w' => e = .returned (.slice (some ⟨w.heap.size, 0, none⟩) n n) ∧ Below w.heap.size w w' ∧ w'.heap[w.heap.size]? = some (.cells (cellsOf zs) 56 (0, 0)) := by
  have HA : Hid (IntsAt w a zs) := hA
  have HL : Hid (zs.length = n * 6) := hl
  clear hA hl
  have hmk := fun W => make_ord W n hlen
  go_enter Tryd.func21, Tryd.ntmps21
  go_wp2_with fail
  clear hmk
  go_loopw [4] (fun t wr => ∃ k : Nat, k ≤ n ∧ t = .int .i64 k ∧ Below w.heap.size w wr ∧ wr.heap[w.heap.size]? = some (.cells (cellsOf (fillTo (n * 6) zs (k * 6))) 56 (0, 0))) (fun t _ => n - (intOf t).toNat)
  case atStart =>
    refine ⟨0, Nat.zero_le _, rfl, (Below.refl _ _).alloc (Nat.le_refl _) _, ?_⟩
    rw [Nat.zero_mul, fillTo_zero]
    exact heap_alloc_new w _
  case round =>
    obtain ⟨k, hk, rfl, hb, hg⟩ := hrel
    by_cases hlt : k < n
    · obtain ⟨b, off, rfl, hcs⟩ := IntsAt.some (IntsAt.below HA.out hb) (j := k * 6) (by rw [HL.out]; omega)
      obtain ⟨r0, r1, r2, r3, r4, r5⟩ := row6_at hcs HL.out k hlt
      clear hcs
      obtain ⟨o0, H0⟩ : ∃ t, Hid (og6 zs k 0 = t) := ⟨_, rfl⟩
      obtain ⟨o1, H1⟩ : ∃ t, Hid (og6 zs k 1 = t) := ⟨_, rfl⟩
      obtain ⟨o2, H2⟩ : ∃ t, Hid (og6 zs k 2 = t) := ⟨_, rfl⟩
      obtain ⟨o3, H3⟩ : ∃ t, Hid (og6 zs k 3 = t) := ⟨_, rfl⟩
      obtain ⟨o4, H4⟩ : ∃ t, Hid (og6 zs k 4 = t) := ⟨_, rfl⟩
      obtain ⟨o5, H5⟩ : ∃ t, Hid (og6 zs k 5 = t) := ⟨_, rfl⟩
      rw [H0.out] at r0
      rw [H1.out] at r1
      rw [H2.out] at r2
      rw [H3.out] at r3
      rw [H4.out] at r4
      rw [H5.out] at r5
      have HG : Hid _ := hg
      have HB : Hid _ := hb
      clear hg hb
      go_wp2_with fail
      refine (toOrder_any _ _ _ _ _ _ _).mono ?_
      rintro e w2 ⟨rfl, hb2⟩
      obtain ⟨B2, g2⟩ := box_more hb2 HB.out HG.out
      have HB2 : Hid _ := B2
      have x0 := cell_of_row _ _ (k * 6) _ _ _ g2
      rw [cellsOf_get _ _ (by rw [fillTo_length]; omega)] at x0
      have y0 := frozen_of_row _ _ (k * 6) _ _ g2
      have x1 := cell_of_row _ _ (k * 6 + 1) _ _ _ g2
      rw [cellsOf_get _ _ (by rw [fillTo_length]; omega)] at x1
      have y1 := frozen_of_row _ _ (k * 6 + 1) _ _ g2
      have x2 := cell_of_row _ _ (k * 6 + 2) _ _ _ g2
      rw [cellsOf_get _ _ (by rw [fillTo_length]; omega)] at x2
      have y2 := frozen_of_row _ _ (k * 6 + 2) _ _ g2
      have x3 := cell_of_row _ _ (k * 6 + 3) _ _ _ g2
      rw [cellsOf_get _ _ (by rw [fillTo_length]; omega)] at x3
      have y3 := frozen_of_row _ _ (k * 6 + 3) _ _ g2
      have x4 := cell_of_row _ _ (k * 6 + 4) _ _ _ g2
      rw [cellsOf_get _ _ (by rw [fillTo_length]; omega)] at x4
      have y4 := frozen_of_row _ _ (k * 6 + 4) _ _ g2
      have x5 := cell_of_row _ _ (k * 6 + 5) _ _ _ g2
      rw [cellsOf_get _ _ (by rw [fillTo_length]; omega)] at x5
      have y5 := frozen_of_row _ _ (k * 6 + 5) _ _ g2
      have HG2 : Hid _ := g2
      clear hb2 g2 B2
      go_wp2
      have q0 := row_fill HG2.out H0.out
      have q1 := row_fill q0 H1.out
      have q2 := row_fill q1 H2.out
      have q3 := row_fill q2 H3.out
      have q4 := row_fill q3 H4.out
      have q5 := row_fill q4 H5.out
      refine ⟨⟨k + 1, by omega, by go_num, ((((((HB2.out.setCell (Nat.le_refl _) _).setCell (Nat.le_refl _) _).setCell (Nat.le_refl _) _).setCell (Nat.le_refl _) _).setCell (Nat.le_refl _) _).setCell (Nat.le_refl _) _), ?_⟩, by simp [intOf]; omega⟩
      rw [show (k + 1) * 6 = k * 6 + 1 + 1 + 1 + 1 + 1 + 1 by omega]
      exact q5
    · have hkz : k = n := by omega
      have HG : Hid (wr.heap[w.heap.size]? = some (.cells (cellsOf zs) 56 (0, 0))) := by
        show _ = _
        rw [hg, hkz, ← HL.out, fillTo_full]
      have HB : Hid _ := hb
      clear hg hkz hb
      go_wp2
      go_ret
      exact ⟨rfl, HB.out, HG.out⟩

set_option maxHeartbeats 400000 in
theorem eqOrder_same (o0 o1 o2 o3 o4 o5 : Int) (w : World) :
    Calls Tryd.prog 53 #[.agg #[.int .i64 o0, .int .i64 o1, .int .i64 o2, .int .i64 o3, .int .i64 o4, .int .i64 o5], .agg #[.int .i64 o0, .int .i64 o1, .int .i64 o2, .int .i64 o3, .int .i64 o4, .int .i64 o5]] w fun e w' => e = .returned (.bool true) ∧ Below w.heap.size w w' := by
  have n0 : (o0 != o0) = false := by simp
  have n1 : (o1 != o1) = false := by simp
  have n2 : (o2 != o2) = false := by simp
  have n3 : (o3 != o3) = false := by simp
  have n4 : (o4 != o4) = false := by simp
  have n5 : (o5 != o5) = false := by simp
  go_enter Tryd.func53, Tryd.ntmps53
  go_wp2
  go_ret
  exact ⟨rfl, ((Below.refl _ _).alloc (Nat.le_refl _) _).alloc (by simp) _⟩

set_option maxHeartbeats 1000000 in
theorem eqOrderS_same (a a2 : Option Addr) (n c1 c2 : Nat) (zs : List Int) (w : World) (hA : IntsAt w a zs) (hB : IntsAt w a2 zs) (hl : zs.length = n * 6) (hlen : n ≤ 9223372036854775807) :
    Calls Tryd.prog 27 #[.slice a n c1, .slice a2 n c2] w fun e w' => e = .returned (.bool true) ∧ Below w.heap.size w w' := by
  have HA : Hid (IntsAt w a zs) := hA
  have HA2 : Hid (IntsAt w a2 zs) := hB
  have HL : Hid (zs.length = n * 6) := hl
  have hnn : ((n : Int) != (n : Int)) = false := by simp
  clear hA hB hl
  go_enter Tryd.func27, Tryd.ntmps27
  go_wp2_with fail
  go_loopw [5] (fun t wr => ∃ k : Nat, k ≤ n ∧ t = .int .i64 k ∧ Below w.heap.size w wr) (fun t _ => n - (intOf t).toNat)
  case atStart => exact ⟨0, Nat.zero_le _, rfl, Below.refl _ _⟩
  case round =>
    obtain ⟨k, hk, rfl, hb⟩ := hrel
    have HB : Hid _ := hb
    by_cases hlt : k < n
    · obtain ⟨b, off, rfl, hcs⟩ := IntsAt.some (IntsAt.below HA.out hb) (j := k * 6) (by rw [HL.out]; omega)
      obtain ⟨r0, r1, r2, r3, r4, r5⟩ := row6_at hcs HL.out k hlt
      obtain ⟨b2, off2, rfl, hcs2⟩ := IntsAt.some (IntsAt.below HA2.out hb) (j := k * 6) (by rw [HL.out]; omega)
      obtain ⟨p0, p1, p2, p3, p4, p5⟩ := row6_at hcs2 HL.out k hlt
      clear hcs hcs2 hb
      obtain ⟨o0, H0⟩ : ∃ t, Hid (og6 zs k 0 = t) := ⟨_, rfl⟩
      obtain ⟨o1, H1⟩ : ∃ t, Hid (og6 zs k 1 = t) := ⟨_, rfl⟩
      obtain ⟨o2, H2⟩ : ∃ t, Hid (og6 zs k 2 = t) := ⟨_, rfl⟩
      obtain ⟨o3, H3⟩ : ∃ t, Hid (og6 zs k 3 = t) := ⟨_, rfl⟩
      obtain ⟨o4, H4⟩ : ∃ t, Hid (og6 zs k 4 = t) := ⟨_, rfl⟩
      obtain ⟨o5, H5⟩ : ∃ t, Hid (og6 zs k 5 = t) := ⟨_, rfl⟩
      rw [H0.out] at r0
      rw [H1.out] at r1
      rw [H2.out] at r2
      rw [H3.out] at r3
      rw [H4.out] at r4
      rw [H5.out] at r5
      rw [H0.out] at p0
      rw [H1.out] at p1
      rw [H2.out] at p2
      rw [H3.out] at p3
      rw [H4.out] at p4
      rw [H5.out] at p5
      have t0 := fun s : Kin wr => s.cell r0
      have u0 := fun s : Kin wr => s.cell p0
      have t1 := fun s : Kin wr => s.cell r1
      have u1 := fun s : Kin wr => s.cell p1
      have t2 := fun s : Kin wr => s.cell r2
      have u2 := fun s : Kin wr => s.cell p2
      have t3 := fun s : Kin wr => s.cell r3
      have u3 := fun s : Kin wr => s.cell p3
      have t4 := fun s : Kin wr => s.cell r4
      have u4 := fun s : Kin wr => s.cell p4
      have t5 := fun s : Kin wr => s.cell r5
      have u5 := fun s : Kin wr => s.cell p5
      have hkin := Kin.there wr
      go_wp2_with fail
      refine wp_region_kin (by kernel_rfl) (by kernel_rfl) ?_
      repeat (go_big_quiet_step ((go_at_call 53; exact Kin.call (eqOrder_same _ _ _ _ _ _ _))))
      refine wpQuiet_nil ?_
      rintro _ ⟨s, rfl⟩
      have HS2 := HB.out.trans (s.below.mono HB.out.size)
      generalize s.w = w2 at *
      go_wp2
      refine ⟨⟨k + 1, by omega, by go_num, HS2⟩, by simp [intOf]; omega⟩
    · go_wp2
      go_ret
      exact ⟨rfl, HB.out⟩

end Go.Proofs.YtacifgekflbjcaaDoor

namespace Go.Proofs.YtacifgekflbjcaaDoor
open Go.RowKit

set_option maxHeartbeats 400000 in
theorem szVehicle_any (a : Option Addr) (len cap : Nat) (left : Int) (w : World) (h0 : 0 ≤ left) (h1 : left ≤ 1048576) (hlen : len ≤ 9223372036854775807) :
    Calls Tryd.prog 17 #[.slice a len cap, .int .i64 left] w fun e w' => e = .returned (.int .i64 (if left < len then -1 else left - len)) ∧ w' = w := by
  by_cases hlt : left < len
  · rw [if_pos hlt]
    go_enter Tryd.func17, Tryd.ntmps17
    go_wp2
    go_ret
    exact ⟨by simp, rfl⟩
  · rw [if_neg hlt]
    go_enter Tryd.func17, Tryd.ntmps17
    go_wp2
    go_ret
    exact ⟨by simp, rfl⟩

set_option maxHeartbeats 400000 in
theorem toVehicle_any (o0 o1 o2 o3 o4 : Int) (w : World) :
    Calls Tryd.prog 45 #[.agg #[.int .i64 o0, .int .i64 o1, .int .i64 o2, .int .i64 o3, .int .i64 o4]] w fun e w' => e = .returned (.agg #[.int .i64 o0, .int .i64 o1, .int .i64 o2, .int .i64 o3, .int .i64 o4]) ∧ Below w.heap.size w w' := by
  go_enter Tryd.func45, Tryd.ntmps45
  go_wp2
  refine bodyPost_ret (v := .agg #[.int .i64 o0, .int .i64 o1, .int .i64 o2, .int .i64 o3, .int .i64 o4]) (by simp [results, Tryd.results45, go_sem]) rfl ⟨rfl, ?_⟩
  exact (((Below.refl _ _).alloc (Nat.le_refl _) _).alloc (by simp) _).alloc (by simp <;> omega) _

theorem Tryd.infoVehicle : (Tryd.prog.info? 58).map (fun i => (i.zero, i.size, i.bytes)) = some (some (.agg #[Value.int IntKind.i64 0, Value.int IntKind.i64 0, Value.int IntKind.i64 0, Value.int IntKind.i64 0, Value.int IntKind.i64 0]), 5, 40) := by kernel_rfl

theorem made_veh (n : Nat) : madeCells (Value.agg #[Value.int IntKind.i64 0, Value.int IntKind.i64 0, Value.int IntKind.i64 0, Value.int IntKind.i64 0, Value.int IntKind.i64 0]).cells (n * 5) = cellsOf (List.replicate (n * 5) 0) := by
  apply Array.ext
  · simp [madeCells, cellsOf]
  · intro i h1 h2
    have hm : i % 5 < 5 := Nat.mod_lt _ (by omega)
    simp only [madeCells, cellsOf, Value.cells, Array.getElem_map, Array.getElem_range, List.map_replicate, List.getElem_toArray, List.getElem_replicate]
    generalize i % 5 = j at hm
    have : j = 0 ∨ j = 1 ∨ j = 2 ∨ j = 3 ∨ j = 4 := by omega
    rcases this with rfl | rfl | rfl | rfl | rfl <;> rfl

theorem make_veh (W : World) (len : Nat) (hlen : len ≤ 1048576) :
    (Instr.makeSlice 33 (.int .i64 len) (.int .i64 len)).run Tryd.prog W = .ok (.slice (some ⟨W.heap.size, 0, none⟩) len len) (W.alloc (.cells (cellsOf (List.replicate (len * 5) 0)) 58)) := by
  have h := Tryd.infoVehicle
  cases hq : Tryd.prog.info? 58 with
  | none => simp [hq] at h
  | some i =>
    simp [hq] at h
    obtain ⟨hz, hs, hb⟩ := h
    have := run_make (P := Tryd.prog) W 33 58 i (.agg #[Value.int IntKind.i64 0, Value.int IntKind.i64 0, Value.int IntKind.i64 0, Value.int IntKind.i64 0, Value.int IntKind.i64 0]) Tryd.underlying33 hq hz .i64 .i64 len len (by omega) (by omega) (by rw [hb]; omega) (by omega)
    rw [this, hs]
    simp only [Int.toNat_natCast, made_veh]

set_option maxHeartbeats 1000000 in
theorem toVehicleS_any (a : Option Addr) (n cap : Nat) (zs : List Int) (w : World) (hA : IntsAt w a zs) (hl : zs.length = n * 5) (hlen : n ≤ 1048576) :
    Calls Tryd.prog 22 #[.slice a n cap] w fun e w' => e = .returned (.slice (some ⟨w.heap.size, 0, none⟩) n n) ∧ Below w.heap.size w w' ∧ w'.heap[w.heap.size]? = some (.cells (cellsOf zs) 58 (0, 0)) := by
  have HA : Hid (IntsAt w a zs) := hA
  have HL : Hid (zs.length = n * 5) := hl
  clear hA hl
  have hmk := fun W => make_veh W n hlen
  go_enter Tryd.func22, Tryd.ntmps22
  go_wp2_with fail
  clear hmk
  go_loopw [4] (fun t wr => ∃ k : Nat, k ≤ n ∧ t = .int .i64 k ∧ Below w.heap.size w wr ∧ wr.heap[w.heap.size]? = some (.cells (cellsOf (fillTo (n * 5) zs (k * 5))) 58 (0, 0))) (fun t _ => n - (intOf t).toNat)
  case atStart =>
    refine ⟨0, Nat.zero_le _, rfl, (Below.refl _ _).alloc (Nat.le_refl _) _, ?_⟩
    rw [Nat.zero_mul, fillTo_zero]
    exact heap_alloc_new w _
  case round =>
    obtain ⟨k, hk, rfl, hb, hg⟩ := hrel
    by_cases hlt : k < n
    · obtain ⟨b, off, rfl, hcs⟩ := IntsAt.some (IntsAt.below HA.out hb) (j := k * 5) (by rw [HL.out]; omega)
      obtain ⟨r0, r1, r2, r3, r4⟩ := row5_at hcs HL.out k hlt
      clear hcs
      obtain ⟨o0, H0⟩ : ∃ t, Hid (og5 zs k 0 = t) := ⟨_, rfl⟩
      obtain ⟨o1, H1⟩ : ∃ t, Hid (og5 zs k 1 = t) := ⟨_, rfl⟩
      obtain ⟨o2, H2⟩ : ∃ t, Hid (og5 zs k 2 = t) := ⟨_, rfl⟩
      obtain ⟨o3, H3⟩ : ∃ t, Hid (og5 zs k 3 = t) := ⟨_, rfl⟩
      obtain ⟨o4, H4⟩ : ∃ t, Hid (og5 zs k 4 = t) := ⟨_, rfl⟩
      rw [H0.out] at r0
      rw [H1.out] at r1
      rw [H2.out] at r2
      rw [H3.out] at r3
      rw [H4.out] at r4
      have HG : Hid _ := hg
      have HB : Hid _ := hb
      clear hg hb
      go_wp2_with fail
      refine (toVehicle_any _ _ _ _ _ _).mono ?_
      rintro e w2 ⟨rfl, hb2⟩
      obtain ⟨B2, g2⟩ := box_more hb2 HB.out HG.out
      have HB2 : Hid _ := B2
      have x0 := cell_of_row _ _ (k * 5) _ _ _ g2
      rw [cellsOf_get _ _ (by rw [fillTo_length]; omega)] at x0
      have y0 := frozen_of_row _ _ (k * 5) _ _ g2
      have x1 := cell_of_row _ _ (k * 5 + 1) _ _ _ g2
      rw [cellsOf_get _ _ (by rw [fillTo_length]; omega)] at x1
      have y1 := frozen_of_row _ _ (k * 5 + 1) _ _ g2
      have x2 := cell_of_row _ _ (k * 5 + 2) _ _ _ g2
      rw [cellsOf_get _ _ (by rw [fillTo_length]; omega)] at x2
      have y2 := frozen_of_row _ _ (k * 5 + 2) _ _ g2
      have x3 := cell_of_row _ _ (k * 5 + 3) _ _ _ g2
      rw [cellsOf_get _ _ (by rw [fillTo_length]; omega)] at x3
      have y3 := frozen_of_row _ _ (k * 5 + 3) _ _ g2
      have x4 := cell_of_row _ _ (k * 5 + 4) _ _ _ g2
      rw [cellsOf_get _ _ (by rw [fillTo_length]; omega)] at x4
      have y4 := frozen_of_row _ _ (k * 5 + 4) _ _ g2
      have HG2 : Hid _ := g2
      clear hb2 g2 B2
      go_wp2
      have q0 := row_fill HG2.out H0.out
      have q1 := row_fill q0 H1.out
      have q2 := row_fill q1 H2.out
      have q3 := row_fill q2 H3.out
      have q4 := row_fill q3 H4.out
      refine ⟨⟨k + 1, by omega, by go_num, (((((HB2.out.setCell (Nat.le_refl _) _).setCell (Nat.le_refl _) _).setCell (Nat.le_refl _) _).setCell (Nat.le_refl _) _).setCell (Nat.le_refl _) _), ?_⟩, by simp [intOf]; omega⟩
      rw [show (k + 1) * 5 = k * 5 + 1 + 1 + 1 + 1 + 1 by omega]
      exact q4
    · have hkz : k = n := by omega
      have HG : Hid (wr.heap[w.heap.size]? = some (.cells (cellsOf zs) 58 (0, 0))) := by
        show _ = _
        rw [hg, hkz, ← HL.out, fillTo_full]
      have HB : Hid _ := hb
      clear hg hkz hb
      go_wp2
      go_ret
      exact ⟨rfl, HB.out, HG.out⟩

set_option maxHeartbeats 400000 in
theorem eqVehicle_same (o0 o1 o2 o3 o4 : Int) (w : World) :
    Calls Tryd.prog 54 #[.agg #[.int .i64 o0, .int .i64 o1, .int .i64 o2, .int .i64 o3, .int .i64 o4], .agg #[.int .i64 o0, .int .i64 o1, .int .i64 o2, .int .i64 o3, .int .i64 o4]] w fun e w' => e = .returned (.bool true) ∧ Below w.heap.size w w' := by
  have n0 : (o0 != o0) = false := by simp
  have n1 : (o1 != o1) = false := by simp
  have n2 : (o2 != o2) = false := by simp
  have n3 : (o3 != o3) = false := by simp
  have n4 : (o4 != o4) = false := by simp
  go_enter Tryd.func54, Tryd.ntmps54
  go_wp2
  go_ret
  exact ⟨rfl, ((Below.refl _ _).alloc (Nat.le_refl _) _).alloc (by simp) _⟩

set_option maxHeartbeats 1000000 in
theorem eqVehicleS_same (a a2 : Option Addr) (n c1 c2 : Nat) (zs : List Int) (w : World) (hA : IntsAt w a zs) (hB : IntsAt w a2 zs) (hl : zs.length = n * 5) (hlen : n ≤ 9223372036854775807) :
    Calls Tryd.prog 28 #[.slice a n c1, .slice a2 n c2] w fun e w' => e = .returned (.bool true) ∧ Below w.heap.size w w' := by
  have HA : Hid (IntsAt w a zs) := hA
  have HA2 : Hid (IntsAt w a2 zs) := hB
  have HL : Hid (zs.length = n * 5) := hl
  have hnn : ((n : Int) != (n : Int)) = false := by simp
  clear hA hB hl
  go_enter Tryd.func28, Tryd.ntmps28
  go_wp2_with fail
  go_loopw [5] (fun t wr => ∃ k : Nat, k ≤ n ∧ t = .int .i64 k ∧ Below w.heap.size w wr) (fun t _ => n - (intOf t).toNat)
  case atStart => exact ⟨0, Nat.zero_le _, rfl, Below.refl _ _⟩
  case round =>
    obtain ⟨k, hk, rfl, hb⟩ := hrel
    have HB : Hid _ := hb
    by_cases hlt : k < n
    · obtain ⟨b, off, rfl, hcs⟩ := IntsAt.some (IntsAt.below HA.out hb) (j := k * 5) (by rw [HL.out]; omega)
      obtain ⟨r0, r1, r2, r3, r4⟩ := row5_at hcs HL.out k hlt
      obtain ⟨b2, off2, rfl, hcs2⟩ := IntsAt.some (IntsAt.below HA2.out hb) (j := k * 5) (by rw [HL.out]; omega)
      obtain ⟨p0, p1, p2, p3, p4⟩ := row5_at hcs2 HL.out k hlt
      clear hcs hcs2 hb
      obtain ⟨o0, H0⟩ : ∃ t, Hid (og5 zs k 0 = t) := ⟨_, rfl⟩
      obtain ⟨o1, H1⟩ : ∃ t, Hid (og5 zs k 1 = t) := ⟨_, rfl⟩
      obtain ⟨o2, H2⟩ : ∃ t, Hid (og5 zs k 2 = t) := ⟨_, rfl⟩
      obtain ⟨o3, H3⟩ : ∃ t, Hid (og5 zs k 3 = t) := ⟨_, rfl⟩
      obtain ⟨o4, H4⟩ : ∃ t, Hid (og5 zs k 4 = t) := ⟨_, rfl⟩
      rw [H0.out] at r0
      rw [H1.out] at r1
      rw [H2.out] at r2
      rw [H3.out] at r3
      rw [H4.out] at r4
      rw [H0.out] at p0
      rw [H1.out] at p1
      rw [H2.out] at p2
      rw [H3.out] at p3
      rw [H4.out] at p4
      have t0 := fun s : Kin wr => s.cell r0
      have u0 := fun s : Kin wr => s.cell p0
      have t1 := fun s : Kin wr => s.cell r1
      have u1 := fun s : Kin wr => s.cell p1
      have t2 := fun s : Kin wr => s.cell r2
      have u2 := fun s : Kin wr => s.cell p2
      have t3 := fun s : Kin wr => s.cell r3
      have u3 := fun s : Kin wr => s.cell p3
      have t4 := fun s : Kin wr => s.cell r4
      have u4 := fun s : Kin wr => s.cell p4
      have hkin := Kin.there wr
      go_wp2_with fail
      refine wp_region_kin (by kernel_rfl) (by kernel_rfl) ?_
      repeat (go_big_quiet_step ((go_at_call 54; exact Kin.call (eqVehicle_same _ _ _ _ _ _))))
      refine wpQuiet_nil ?_
      rintro _ ⟨s, rfl⟩
      have HS2 := HB.out.trans (s.below.mono HB.out.size)
      generalize s.w = w2 at *
      go_wp2
      refine ⟨⟨k + 1, by omega, by go_num, HS2⟩, by simp [intOf]; omega⟩
    · go_wp2
      go_ret
      exact ⟨rfl, HB.out⟩

end Go.Proofs.YtacifgekflbjcaaDoor

namespace Go.Proofs.YtacifgekflbjcaaDoor
open Go.RowKit

/-- What szCase answers. -/
def szV (left : Int) (lt ko kv : Nat) : Int := if left < lt then -1 else if left - lt < ko then -1 else if left - lt - ko < kv then -1 else left - lt - ko - kv
theorem szV_neg {lt ko kv : Nat} (h : ¬ (lt + ko + kv ≤ 1048576)) : szV 1048576 lt ko kv = -1 := by
  unfold szV
  split
  · rfl
  · split
    · rfl
    · split
      · rfl
      · omega
theorem szV_pos {lt ko kv : Nat} (h : lt + ko + kv ≤ 1048576) : szV 1048576 lt ko kv = 1048576 - lt - ko - kv := by
  unfold szV
  rw [if_neg (by omega), if_neg (by omega), if_neg (by omega)]

set_option maxHeartbeats 1000000 in
theorem szCase_any (n fine left : Int) (a ao av : Option Addr) (lt cap ko co kv cv : Nat) (w : World) (h0 : 0 ≤ left) (h1 : left ≤ 1048576) (hlt : lt ≤ 9223372036854775807) (hko : ko ≤ 9223372036854775807) (hkv : kv ≤ 9223372036854775807) :
    Calls Tryd.prog 5 #[.agg #[.int .i64 n, .slice a lt cap, .slice ao ko co, .slice av kv cv, .int .i64 fine], .int .i64 left] w fun e w' => e = .returned (.int .i64 (szV left lt ko kv)) ∧ Below w.heap.size w w' := by
  obtain ⟨r, HR⟩ : ∃ r, Hid (szV left lt ko kv = r) := ⟨_, rfl⟩
  rw [HR.out]
  go_enter Tryd.func5, Tryd.ntmps5
  go_wp2_with fail
  refine (szMat_any n a lt cap left _ h0 h1 hlt).mono ?_
  rintro e w1 ⟨rfl, hb⟩
  obtain ⟨b1, r1⟩ := box5 hb
  obtain ⟨c0, c1, c2, c3, c4⟩ := cells5 r1
  clear hb r1
  by_cases ha : left < lt
  · rw [if_pos ha]
    have HV : Hid (szV left lt ko kv = -1) := by
      show _ = _
      unfold szV; rw [if_pos ha]
    go_wp2
    go_ret
    exact ⟨ret_int (HV.out.symm.trans HR.out), b1⟩
  · rw [if_neg ha]
    have hl1 : (lt : Int) ≤ left := by omega
    by_cases hb : left - lt < ko
    · have HV : Hid (szV left lt ko kv = -1) := by
        show _ = _
        unfold szV; rw [if_neg ha, if_pos hb]
      go_wp2_with (go_at_call 16; refine (szOrder_any _ _ _ _ _ (by omega) (by omega) hko).mono ?_; rintro e w' ⟨rfl, rfl⟩; rw [if_pos (by omega)])
      go_ret
      exact ⟨ret_int (HV.out.symm.trans HR.out), b1⟩
    · have hl2 : (ko : Int) ≤ left - lt := by omega
      by_cases hc : left - lt - ko < kv
      · have HV : Hid (szV left lt ko kv = -1) := by
          show _ = _
          unfold szV; rw [if_neg ha, if_neg hb, if_pos hc]
        go_wp2_with (first
          | (go_at_call 16; refine (szOrder_any _ _ _ _ _ (by omega) (by omega) hko).mono ?_; rintro e w' ⟨rfl, rfl⟩; rw [if_neg (by omega)])
          | (go_at_call 17; refine (szVehicle_any _ _ _ _ _ (by omega) (by omega) hkv).mono ?_; rintro e w' ⟨rfl, rfl⟩; rw [if_pos (by omega)]))
        go_ret
        exact ⟨ret_int (HV.out.symm.trans HR.out), b1⟩
      · have hl3 : (kv : Int) ≤ left - lt - ko := by omega
        have HV : Hid (szV left lt ko kv = left - lt - ko - kv) := by
          show _ = _
          unfold szV; rw [if_neg ha, if_neg hb, if_neg hc]
        go_wp2_with (first
          | (go_at_call 16; refine (szOrder_any _ _ _ _ _ (by omega) (by omega) hko).mono ?_; rintro e w' ⟨rfl, rfl⟩; rw [if_neg (by omega)])
          | (go_at_call 17; refine (szVehicle_any _ _ _ _ _ (by omega) (by omega) hkv).mono ?_; rintro e w' ⟨rfl, rfl⟩; rw [if_neg (by omega)]))
        go_ret
        exact ⟨ret_int (HV.out.symm.trans HR.out), b1⟩

/-- A case that a call has made lies in this world: three rows of its own. -/
def CaseAt (w : World) (g go gv : Nat) (zs os vs : List Int) : Prop :=
  w.heap[g]? = some (.cells (cellsOf zs) 2 (0, 0)) ∧ w.heap[go]? = some (.cells (cellsOf os) 56 (0, 0)) ∧ w.heap[gv]? = some (.cells (cellsOf vs) 58 (0, 0))
theorem CaseAt.below {w w' : World} {g go gv : Nat} {zs os vs : List Int} (h : CaseAt w g go gv zs os vs) (hb : Below w.heap.size w w') : CaseAt w' g go gv zs os vs :=
  ⟨below_row hb (row_lt h.1) h.1, below_row hb (row_lt h.2.1) h.2.1, below_row hb (row_lt h.2.2) h.2.2⟩
theorem CaseAt.t {w : World} {g go gv : Nat} {zs os vs : List Int} (h : CaseAt w g go gv zs os vs) : IntsAt w (some ⟨g, 0, none⟩) zs := IntsAt.of_row h.1
theorem CaseAt.o {w : World} {g go gv : Nat} {zs os vs : List Int} (h : CaseAt w g go gv zs os vs) : IntsAt w (some ⟨go, 0, none⟩) os := IntsAt.of_row h.2.1
theorem CaseAt.v {w : World} {g go gv : Nat} {zs os vs : List Int} (h : CaseAt w g go gv zs os vs) : IntsAt w (some ⟨gv, 0, none⟩) vs := IntsAt.of_row h.2.2

/-- Inside toCase: the argument's box, the result's cells, the case in the making. -/
def TC (w W : World) (src z out : Array Value) : Prop :=
  Below w.heap.size w W ∧ W.heap[w.heap.size]? = some (.cells src 28 (0, 0)) ∧ W.heap[w.heap.size + 1]? = some (.cells z 35 (0, 0)) ∧ W.heap[w.heap.size + 1 + 1]? = some (.cells out 35 (0, 0))
theorem TC.below {w W W' : World} {src z out : Array Value} (h : TC w W src z out) (hb : Below W.heap.size W W') : TC w W' src z out :=
  ⟨h.1.trans (hb.mono h.1.size), below_row hb (row_lt h.2.1) h.2.1, below_row hb (row_lt h.2.2.1) h.2.2.1, below_row hb (row_lt h.2.2.2) h.2.2.2⟩
theorem TC.set {w W : World} {src z out : Array Value} (h : TC w W src z out) (i : Nat) (v : Value) : TC w (W.setCell ⟨w.heap.size + 1 + 1, i, none⟩ v) src z (out.setIfInBounds i v) := by
  refine ⟨h.1.setCell (by simp <;> omega) _, ?_, ?_, heap_setCell_same _ _ _ _ _ _ h.2.2.2⟩
  · rw [heap_setCell_other _ _ _ _ (by simp <;> omega)]; exact h.2.1
  · rw [heap_setCell_other _ _ _ _ (by simp <;> omega)]; exact h.2.2.1
theorem row_set {W : World} {g k i : Nat} {o : Obj} {v : Value} (h : W.heap[g]? = some o) (hne : g ≠ k) : (W.setCell ⟨k, i, none⟩ v).heap[g]? = some o := by
  rw [heap_setCell_other _ _ _ _ (by simpa using hne)]; exact h

set_option maxHeartbeats 1000000 in
theorem toCase_any (n fine : Int) (a ao av : Option Addr) (cap ko co kv cv : Nat) (zs os vs : List Int) (w : World) (hA : IntsAt w a zs) (hO : IntsAt w ao os) (hV : IntsAt w av vs) (hlo : os.length = ko * 6) (hlv : vs.length = kv * 5) (hlt : zs.length ≤ 1048576) (hko : ko ≤ 1048576) (hkv : kv ≤ 1048576) :
    Calls Tryd.prog 7 #[.agg #[.int .i64 n, .slice a zs.length cap, .slice ao ko co, .slice av kv cv, .int .i64 fine]] w fun e w' => ∃ g go gv, w.heap.size ≤ g ∧ w.heap.size ≤ go ∧ w.heap.size ≤ gv ∧ e = .returned (.agg #[.int .i64 n, .slice (some ⟨g, 0, none⟩) zs.length zs.length, .slice (some ⟨go, 0, none⟩) ko ko, .slice (some ⟨gv, 0, none⟩) kv kv, .int .i64 fine]) ∧ Below w.heap.size w w' ∧ CaseAt w' g go gv zs os vs := by
  have HA : Hid (IntsAt w a zs) := hA
  have HO : Hid (IntsAt w ao os) := hO
  have HV : Hid (IntsAt w av vs) := hV
  have HLO : Hid _ := hlo
  have HLV : Hid _ := hlv
  clear hA hO hV hlo hlv
  go_enter Tryd.func7, Tryd.ntmps7
  go_wp2_with fail
  have B0 : Hid (Below w.heap.size w (((w.alloc (Obj.cells #[Value.int IntKind.i64 n, Value.slice a zs.length cap, Value.slice ao ko co, Value.slice av kv cv, Value.int IntKind.i64 fine] 28)).alloc (Obj.cells #[Value.int IntKind.i64 0, Value.slice none 0 0, Value.slice none 0 0, Value.slice none 0 0, Value.int IntKind.i64 0] 35)).alloc (Obj.cells #[Value.int IntKind.i64 0, Value.slice none 0 0, Value.slice none 0 0, Value.slice none 0 0, Value.int IntKind.i64 0] 35))) :=
    (((Below.refl _ _).alloc (Nat.le_refl _) _).alloc (by simp) _).alloc (by simp <;> omega) _
  have R0 : Hid ((((w.alloc (Obj.cells #[Value.int IntKind.i64 n, Value.slice a zs.length cap, Value.slice ao ko co, Value.slice av kv cv, Value.int IntKind.i64 fine] 28)).alloc (Obj.cells #[Value.int IntKind.i64 0, Value.slice none 0 0, Value.slice none 0 0, Value.slice none 0 0, Value.int IntKind.i64 0] 35)).alloc (Obj.cells #[Value.int IntKind.i64 0, Value.slice none 0 0, Value.slice none 0 0, Value.slice none 0 0, Value.int IntKind.i64 0] 35)).heap[w.heap.size]? = some (.cells #[Value.int IntKind.i64 n, Value.slice a zs.length cap, Value.slice ao ko co, Value.slice av kv cv, Value.int IntKind.i64 fine] 28 (0, 0))) := by
    show _ = _
    rw [heap_alloc_old _ _ (by simp <;> omega)]
    exact heap_alloc2_old _ _ _
  have R1 : Hid ((((w.alloc (Obj.cells #[Value.int IntKind.i64 n, Value.slice a zs.length cap, Value.slice ao ko co, Value.slice av kv cv, Value.int IntKind.i64 fine] 28)).alloc (Obj.cells #[Value.int IntKind.i64 0, Value.slice none 0 0, Value.slice none 0 0, Value.slice none 0 0, Value.int IntKind.i64 0] 35)).alloc (Obj.cells #[Value.int IntKind.i64 0, Value.slice none 0 0, Value.slice none 0 0, Value.slice none 0 0, Value.int IntKind.i64 0] 35)).heap[w.heap.size + 1]? = some (.cells #[Value.int IntKind.i64 0, Value.slice none 0 0, Value.slice none 0 0, Value.slice none 0 0, Value.int IntKind.i64 0] 35 (0, 0))) := by
    show _ = _
    rw [heap_alloc_old _ _ (by simp <;> omega)]
    exact heap_alloc2_new _ _ _
  have R2 : Hid ((((w.alloc (Obj.cells #[Value.int IntKind.i64 n, Value.slice a zs.length cap, Value.slice ao ko co, Value.slice av kv cv, Value.int IntKind.i64 fine] 28)).alloc (Obj.cells #[Value.int IntKind.i64 0, Value.slice none 0 0, Value.slice none 0 0, Value.slice none 0 0, Value.int IntKind.i64 0] 35)).alloc (Obj.cells #[Value.int IntKind.i64 0, Value.slice none 0 0, Value.slice none 0 0, Value.slice none 0 0, Value.int IntKind.i64 0] 35)).heap[w.heap.size + 1 + 1]? = some (.cells #[Value.int IntKind.i64 0, Value.slice none 0 0, Value.slice none 0 0, Value.slice none 0 0, Value.int IntKind.i64 0] 35 (0, 0))) := by
    have := heap_alloc_new ((w.alloc (Obj.cells #[Value.int IntKind.i64 n, Value.slice a zs.length cap, Value.slice ao ko co, Value.slice av kv cv, Value.int IntKind.i64 fine] 28)).alloc (Obj.cells #[Value.int IntKind.i64 0, Value.slice none 0 0, Value.slice none 0 0, Value.slice none 0 0, Value.int IntKind.i64 0] 35)) (Obj.cells #[Value.int IntKind.i64 0, Value.slice none 0 0, Value.slice none 0 0, Value.slice none 0 0, Value.int IntKind.i64 0] 35)
    show _ = _
    simpa using this
  have T0 : Hid (TC w (((w.alloc (Obj.cells #[Value.int IntKind.i64 n, Value.slice a zs.length cap, Value.slice ao ko co, Value.slice av kv cv, Value.int IntKind.i64 fine] 28)).alloc (Obj.cells #[Value.int IntKind.i64 0, Value.slice none 0 0, Value.slice none 0 0, Value.slice none 0 0, Value.int IntKind.i64 0] 35)).alloc (Obj.cells #[Value.int IntKind.i64 0, Value.slice none 0 0, Value.slice none 0 0, Value.slice none 0 0, Value.int IntKind.i64 0] 35)) #[Value.int IntKind.i64 n, Value.slice a zs.length cap, Value.slice ao ko co, Value.slice av kv cv, Value.int IntKind.i64 fine] #[Value.int IntKind.i64 0, Value.slice none 0 0, Value.slice none 0 0, Value.slice none 0 0, Value.int IntKind.i64 0] #[Value.int IntKind.i64 0, Value.slice none 0 0, Value.slice none 0 0, Value.slice none 0 0, Value.int IntKind.i64 0]) := ⟨B0.out, R0.out, R1.out, R2.out⟩
  clear B0 R0 R1 R2
  generalize ((w.alloc (Obj.cells #[Value.int IntKind.i64 n, Value.slice a zs.length cap, Value.slice ao ko co, Value.slice av kv cv, Value.int IntKind.i64 fine] 28)).alloc (Obj.cells #[Value.int IntKind.i64 0, Value.slice none 0 0, Value.slice none 0 0, Value.slice none 0 0, Value.int IntKind.i64 0] 35)).alloc (Obj.cells #[Value.int IntKind.i64 0, Value.slice none 0 0, Value.slice none 0 0, Value.slice none 0 0, Value.int IntKind.i64 0] 35) = W0 at *
  have hW0 := row_lt T0.out.2.2.2
  -- the times
  refine (toMat_any n a cap zs _ (HA.out.below T0.out.1) hlt).mono ?_
  rintro e w1 ⟨g, hg0, rfl, hb, hg⟩
  have T1 : Hid _ := T0.out.below hb
  have hg1 : w.heap.size + 1 + 1 < g := by omega
  have G1 : Hid _ := hg
  clear T0 hb hg hg0 hW0 W0
  obtain ⟨c0, c1, c2, c3, c4⟩ := cells5 T1.out.2.1
  obtain ⟨x0, x1, x2, x3, x4⟩ := cells5 T1.out.2.2.2
  have f0 := fun i => frozen_of_row _ _ i _ _ T1.out.2.2.2
  go_wp2_with fail
  have T2 : Hid (TC w ((w1.setCell ⟨w.heap.size + 1 + 1, 0, none⟩ (.int .i64 n)).setCell ⟨w.heap.size + 1 + 1, 1, none⟩ (.slice (some ⟨g, 0, none⟩) zs.length zs.length)) #[Value.int IntKind.i64 n, Value.slice a zs.length cap, Value.slice ao ko co, Value.slice av kv cv, Value.int IntKind.i64 fine] #[Value.int IntKind.i64 0, Value.slice none 0 0, Value.slice none 0 0, Value.slice none 0 0, Value.int IntKind.i64 0] #[Value.int IntKind.i64 n, Value.slice (some ⟨g, 0, none⟩) zs.length zs.length, Value.slice none 0 0, Value.slice none 0 0, Value.int IntKind.i64 0]) := by
    have := TC.set (TC.set T1.out 0 (.int .i64 n)) 1 (.slice (some ⟨g, 0, none⟩) zs.length zs.length)
    change TC w _ _ _ _
    simpa using this
  have G2 : Hid (((w1.setCell ⟨w.heap.size + 1 + 1, 0, none⟩ (.int .i64 n)).setCell ⟨w.heap.size + 1 + 1, 1, none⟩ (.slice (some ⟨g, 0, none⟩) zs.length zs.length)).heap[g]? = _) := row_set (row_set G1.out (by omega)) (by omega)
  clear T1 G1 c0 c1 c2 c3 c4 x0 x1 x2 x3 x4 f0
  generalize (w1.setCell ⟨w.heap.size + 1 + 1, 0, none⟩ (.int .i64 n)).setCell ⟨w.heap.size + 1 + 1, 1, none⟩ (.slice (some ⟨g, 0, none⟩) zs.length zs.length) = W2 at *
  -- the orders
  have hW2 := row_lt T2.out.2.2.2
  refine (toOrderS_any ao ko co os _ (HO.out.below T2.out.1) HLO.out hko).mono ?_
  rintro e w3 ⟨rfl, hb, hg⟩
  have T3 : Hid _ := T2.out.below hb
  have G3 : Hid _ := below_row hb (row_lt G2.out) G2.out
  have O3 : Hid _ := hg
  obtain ⟨go, HGO⟩ : ∃ go, Hid (W2.heap.size = go) := ⟨_, rfl⟩
  rw [HGO.out] at O3 hW2 ⊢
  clear T2 G2 hb hg HGO W2 w1
  obtain ⟨c0, c1, c2, c3, c4⟩ := cells5 T3.out.2.1
  obtain ⟨x0, x1, x2, x3, x4⟩ := cells5 T3.out.2.2.2
  have f0 := fun i => frozen_of_row _ _ i _ _ T3.out.2.2.2
  go_wp2_with fail
  have T4 : Hid (TC w (w3.setCell ⟨w.heap.size + 1 + 1, 2, none⟩ (.slice (some ⟨go, 0, none⟩) ko ko)) #[Value.int IntKind.i64 n, Value.slice a zs.length cap, Value.slice ao ko co, Value.slice av kv cv, Value.int IntKind.i64 fine] #[Value.int IntKind.i64 0, Value.slice none 0 0, Value.slice none 0 0, Value.slice none 0 0, Value.int IntKind.i64 0] #[Value.int IntKind.i64 n, Value.slice (some ⟨g, 0, none⟩) zs.length zs.length, Value.slice (some ⟨go, 0, none⟩) ko ko, Value.slice none 0 0, Value.int IntKind.i64 0]) := by
    have := TC.set T3.out 2 (.slice (some ⟨go, 0, none⟩) ko ko)
    change TC w _ _ _ _
    simpa using this
  have G4 : Hid ((w3.setCell ⟨w.heap.size + 1 + 1, 2, none⟩ (.slice (some ⟨go, 0, none⟩) ko ko)).heap[g]? = _) := row_set G3.out (by omega)
  have O4 : Hid ((w3.setCell ⟨w.heap.size + 1 + 1, 2, none⟩ (.slice (some ⟨go, 0, none⟩) ko ko)).heap[go]? = _) := row_set O3.out (by omega)
  clear T3 G3 O3 c0 c1 c2 c3 c4 x0 x1 x2 x3 x4 f0
  generalize w3.setCell ⟨w.heap.size + 1 + 1, 2, none⟩ (.slice (some ⟨go, 0, none⟩) ko ko) = W4 at *
  -- the vehicles
  have hW4 := row_lt T4.out.2.2.2
  refine (toVehicleS_any av kv cv vs _ (HV.out.below T4.out.1) HLV.out hkv).mono ?_
  rintro e w5 ⟨rfl, hb, hg⟩
  have T5 : Hid _ := T4.out.below hb
  have G5 : Hid _ := below_row hb (row_lt G4.out) G4.out
  have O5 : Hid _ := below_row hb (row_lt O4.out) O4.out
  have V5 : Hid _ := hg
  obtain ⟨gv, HGV⟩ : ∃ gv, Hid (W4.heap.size = gv) := ⟨_, rfl⟩
  rw [HGV.out] at V5 hW4 ⊢
  clear T4 G4 O4 hb hg HGV W4 w3
  obtain ⟨c0, c1, c2, c3, c4⟩ := cells5 T5.out.2.1
  obtain ⟨z0, z1, z2, z3, z4⟩ := cells5 T5.out.2.2.1
  obtain ⟨x0, x1, x2, x3, x4⟩ := cells5 T5.out.2.2.2
  have f0 := fun i => frozen_of_row _ _ i _ _ T5.out.2.2.2
  have f1 := fun i => frozen_of_row _ _ i _ _ T5.out.2.2.1
  go_wp2
  refine bodyPost_ret (v := .agg #[.int .i64 n, .slice (some ⟨g, 0, none⟩) zs.length zs.length, .slice (some ⟨go, 0, none⟩) ko ko, .slice (some ⟨gv, 0, none⟩) kv kv, .int .i64 fine]) (by simp [results, Tryd.results7, go_sem, z0, z1, z2, z3, z4]) rfl ⟨g, go, gv, by omega, by omega, by omega, rfl, ?_, ?_⟩
  · repeat (first | with_reducible exact T5.out.1 | refine Below.setCell ?_ (by simp <;> omega) _)
  · refine ⟨?_, ?_, ?_⟩
    · repeat (first | with_reducible exact G5.out | refine row_set ?_ (by omega))
    · repeat (first | with_reducible exact O5.out | refine row_set ?_ (by omega))
    · repeat (first | with_reducible exact V5.out | refine row_set ?_ (by omega))

set_option maxHeartbeats 1000000 in
theorem eqCase_same (n fine : Int) (a ao av a' ao' av' : Option Addr) (cap ko co kv cv cap' co' cv' : Nat) (zs os vs : List Int) (w : World) (hA : IntsAt w a zs) (hO : IntsAt w ao os) (hV : IntsAt w av vs) (hA' : IntsAt w a' zs) (hO' : IntsAt w ao' os) (hV' : IntsAt w av' vs) (hlo : os.length = ko * 6) (hlv : vs.length = kv * 5) (hlt : zs.length ≤ 1125899906842624) (hko : ko ≤ 9223372036854775807) (hkv : kv ≤ 9223372036854775807) :
    Calls Tryd.prog 9 #[.agg #[.int .i64 n, .slice a zs.length cap, .slice ao ko co, .slice av kv cv, .int .i64 fine], .agg #[.int .i64 n, .slice a' zs.length cap', .slice ao' ko co', .slice av' kv cv', .int .i64 fine]] w fun e w' => e = .returned (.bool true) ∧ Below w.heap.size w w' := by
  have HA : Hid (IntsAt w a zs) := hA
  have HO : Hid (IntsAt w ao os) := hO
  have HV : Hid (IntsAt w av vs) := hV
  have HA' : Hid (IntsAt w a' zs) := hA'
  have HO' : Hid (IntsAt w ao' os) := hO'
  have HV' : Hid (IntsAt w av' vs) := hV'
  have HLO : Hid _ := hlo
  have HLV : Hid _ := hlv
  clear hA hO hV hA' hO' hV' hlo hlv
  have hff : (fine != fine) = false := by simp
  go_enter Tryd.func9, Tryd.ntmps9
  go_wp2_with fail
  have B0 : Hid (Below w.heap.size w ((w.alloc (Obj.cells #[Value.int IntKind.i64 n, Value.slice a zs.length cap, Value.slice ao ko co, Value.slice av kv cv, Value.int IntKind.i64 fine] 35)).alloc (Obj.cells #[Value.int IntKind.i64 n, Value.slice a' zs.length cap', Value.slice ao' ko co', Value.slice av' kv cv', Value.int IntKind.i64 fine] 35))) := ((Below.refl _ _).alloc (Nat.le_refl _) _).alloc (by simp) _
  have P0 : Hid (((w.alloc (Obj.cells #[Value.int IntKind.i64 n, Value.slice a zs.length cap, Value.slice ao ko co, Value.slice av kv cv, Value.int IntKind.i64 fine] 35)).alloc (Obj.cells #[Value.int IntKind.i64 n, Value.slice a' zs.length cap', Value.slice ao' ko co', Value.slice av' kv cv', Value.int IntKind.i64 fine] 35)).heap[w.heap.size]? = _) := heap_alloc2_old _ _ _
  have Q0 : Hid (((w.alloc (Obj.cells #[Value.int IntKind.i64 n, Value.slice a zs.length cap, Value.slice ao ko co, Value.slice av kv cv, Value.int IntKind.i64 fine] 35)).alloc (Obj.cells #[Value.int IntKind.i64 n, Value.slice a' zs.length cap', Value.slice ao' ko co', Value.slice av' kv cv', Value.int IntKind.i64 fine] 35)).heap[w.heap.size + 1]? = _) := heap_alloc2_new _ _ _
  generalize (w.alloc (Obj.cells #[Value.int IntKind.i64 n, Value.slice a zs.length cap, Value.slice ao ko co, Value.slice av kv cv, Value.int IntKind.i64 fine] 35)).alloc (Obj.cells #[Value.int IntKind.i64 n, Value.slice a' zs.length cap', Value.slice ao' ko co', Value.slice av' kv cv', Value.int IntKind.i64 fine] 35) = W0 at *
  refine (eqMat_same n a a' cap cap' zs _ (HA.out.below B0.out) (HA'.out.below B0.out) hlt).mono ?_
  rintro e w1 ⟨rfl, hb⟩
  have B1 : Hid (Below w.heap.size w w1) := B0.out.trans (hb.mono B0.out.size)
  have P1 : Hid _ := below_row hb (row_lt P0.out) P0.out
  have Q1 : Hid _ := below_row hb (row_lt Q0.out) Q0.out
  clear hb B0 P0 Q0
  obtain ⟨c0, c1, c2, c3, c4⟩ := cells5 P1.out
  obtain ⟨d0, d1, d2, d3, d4⟩ := cells5 Q1.out
  go_wp2_with fail
  refine (eqOrderS_same ao ao' ko co co' os _ (HO.out.below B1.out) (HO'.out.below B1.out) HLO.out hko).mono ?_
  rintro e w2 ⟨rfl, hb⟩
  have B2 : Hid (Below w.heap.size w w2) := B1.out.trans (hb.mono B1.out.size)
  have P2 : Hid _ := below_row hb (row_lt P1.out) P1.out
  have Q2 : Hid _ := below_row hb (row_lt Q1.out) Q1.out
  clear hb B1 P1 Q1 c0 c1 c2 c3 c4 d0 d1 d2 d3 d4
  obtain ⟨c0, c1, c2, c3, c4⟩ := cells5 P2.out
  obtain ⟨d0, d1, d2, d3, d4⟩ := cells5 Q2.out
  go_wp2_with fail
  refine (eqVehicleS_same av av' kv cv cv' vs _ (HV.out.below B2.out) (HV'.out.below B2.out) HLV.out hkv).mono ?_
  rintro e w3 ⟨rfl, hb⟩
  have B3 : Hid (Below w.heap.size w w3) := B2.out.trans (hb.mono B2.out.size)
  have P3 : Hid _ := below_row hb (row_lt P2.out) P2.out
  have Q3 : Hid _ := below_row hb (row_lt Q2.out) Q2.out
  clear hb B2 P2 Q2 c0 c1 c2 c3 c4 d0 d1 d2 d3 d4
  obtain ⟨c0, c1, c2, c3, c4⟩ := cells5 P3.out
  obtain ⟨d0, d1, d2, d3, d4⟩ := cells5 Q3.out
  go_wp2
  go_ret
  exact ⟨rfl, B3.out⟩

end Go.Proofs.YtacifgekflbjcaaDoor

namespace Go.Proofs.YtacifgekflbjcaaDoor
open Go.RowKit

set_option maxHeartbeats 400000 in
theorem l1In_any (n lo hi : Int) (w : World) :
    Calls Tryd.prog 40 #[.int .i64 n, .int .i64 lo, .int .i64 hi] w fun e w' => e = .returned (.bool (inB n lo hi)) ∧ w' = w := by
  by_cases h1 : lo ≤ n
  · by_cases h2 : n ≤ hi
    · have h3 : inB n lo hi = true := inB_mk ⟨h1, h2⟩
      rw [h3]
      go_enter Tryd.func40, Tryd.ntmps40
      go_wp2
      go_ret
      exact ⟨by simp, rfl⟩
    · have h3 : inB n lo hi = false := inB_not (by omega)
      rw [h3]
      go_enter Tryd.func40, Tryd.ntmps40
      go_wp2
      go_ret
      exact ⟨by simp, rfl⟩
  · have h3 : inB n lo hi = false := inB_not (by omega)
    rw [h3]
    go_enter Tryd.func40, Tryd.ntmps40
    go_wp2
    go_ret
    exact ⟨by simp, rfl⟩

end Go.Proofs.YtacifgekflbjcaaDoor

namespace Go.Proofs.YtacifgekflbjcaaDoor
open Go.RowKit

set_option maxHeartbeats 400000 in
theorem l2Order_any (n o0 o1 o2 o3 o4 o5 : Int) (w : World) (hn1 : 1 ≤ n) (hn2 : n ≤ 16) :
    Calls Tryd.prog 41 #[.agg #[.int .i64 o0, .int .i64 o1, .int .i64 o2, .int .i64 o3, .int .i64 o4, .int .i64 o5], .int .i64 n] w fun e w' => e = .returned (.bool (ordB n o0 o1 o2 o3 o4 o5)) ∧ Below w.heap.size w w' := by
  cases h0 : inB o0 1 1000000000
  · go_enter Tryd.func41, Tryd.ntmps41
    go_wp2_with (first | (go_at_call 40; refine (l1In_any _ _ _ _).mono ?_; rintro e w' ⟨rfl, rfl⟩))
    go_ret
    exact ⟨ret_bool (by simp [ordB, ordIn, hoursB, h0]), (Below.refl _ _).alloc (Nat.le_refl _) _⟩
  · cases h1 : inB o1 0 (n - 1)
    · go_enter Tryd.func41, Tryd.ntmps41
      go_wp2_with (first | (go_at_call 40; refine (l1In_any _ _ _ _).mono ?_; rintro e w' ⟨rfl, rfl⟩))
      go_ret
      exact ⟨ret_bool (by simp [ordB, ordIn, hoursB, h0, h1]), (Below.refl _ _).alloc (Nat.le_refl _) _⟩
    · cases h2 : inB o2 0 1000
      · go_enter Tryd.func41, Tryd.ntmps41
        go_wp2_with (first | (go_at_call 40; refine (l1In_any _ _ _ _).mono ?_; rintro e w' ⟨rfl, rfl⟩))
        go_ret
        exact ⟨ret_bool (by simp [ordB, ordIn, hoursB, h0, h1, h2]), (Below.refl _ _).alloc (Nat.le_refl _) _⟩
      · cases h3 : inB o3 0 1000000
        · go_enter Tryd.func41, Tryd.ntmps41
          go_wp2_with (first | (go_at_call 40; refine (l1In_any _ _ _ _).mono ?_; rintro e w' ⟨rfl, rfl⟩))
          go_ret
          exact ⟨ret_bool (by simp [ordB, ordIn, hoursB, h0, h1, h2, h3]), (Below.refl _ _).alloc (Nat.le_refl _) _⟩
        · cases h4 : inB o4 o3 1000000
          · go_enter Tryd.func41, Tryd.ntmps41
            go_wp2_with (first | (go_at_call 40; refine (l1In_any _ _ _ _).mono ?_; rintro e w' ⟨rfl, rfl⟩))
            go_ret
            exact ⟨ret_bool (by simp [ordB, ordIn, hoursB, h0, h1, h2, h3, h4]), (Below.refl _ _).alloc (Nat.le_refl _) _⟩
          · cases h5 : inB o5 0 10000
            · go_enter Tryd.func41, Tryd.ntmps41
              go_wp2_with (first | (go_at_call 40; refine (l1In_any _ _ _ _).mono ?_; rintro e w' ⟨rfl, rfl⟩))
              go_ret
              exact ⟨ret_bool (by simp [ordB, ordIn, hoursB, h0, h1, h2, h3, h4, h5]), (Below.refl _ _).alloc (Nat.le_refl _) _⟩
            · go_enter Tryd.func41, Tryd.ntmps41
              go_wp2_with (first | (go_at_call 40; refine (l1In_any _ _ _ _).mono ?_; rintro e w' ⟨rfl, rfl⟩))
              go_ret
              exact ⟨ret_bool (by simp [ordB, ordIn, hoursB, h0, h1, h2, h3, h4, h5]), (Below.refl _ _).alloc (Nat.le_refl _) _⟩

set_option maxHeartbeats 400000 in
theorem l2Vehicle_any (n o0 o1 o2 o3 o4 : Int) (w : World) (hn1 : 1 ≤ n) (hn2 : n ≤ 16) :
    Calls Tryd.prog 42 #[.agg #[.int .i64 o0, .int .i64 o1, .int .i64 o2, .int .i64 o3, .int .i64 o4], .int .i64 n] w fun e w' => e = .returned (.bool (vehB n o0 o1 o2 o3 o4)) ∧ Below w.heap.size w w' := by
  cases h0 : inB o0 1 1000000000
  · go_enter Tryd.func42, Tryd.ntmps42
    go_wp2_with (first | (go_at_call 40; refine (l1In_any _ _ _ _).mono ?_; rintro e w' ⟨rfl, rfl⟩))
    go_ret
    exact ⟨ret_bool (by simp [vehB, vehIn, hoursB, h0]), (Below.refl _ _).alloc (Nat.le_refl _) _⟩
  · cases h1 : inB o1 0 (n - 1)
    · go_enter Tryd.func42, Tryd.ntmps42
      go_wp2_with (first | (go_at_call 40; refine (l1In_any _ _ _ _).mono ?_; rintro e w' ⟨rfl, rfl⟩))
      go_ret
      exact ⟨ret_bool (by simp [vehB, vehIn, hoursB, h0, h1]), (Below.refl _ _).alloc (Nat.le_refl _) _⟩
    · cases h2 : inB o2 0 1000
      · go_enter Tryd.func42, Tryd.ntmps42
        go_wp2_with (first | (go_at_call 40; refine (l1In_any _ _ _ _).mono ?_; rintro e w' ⟨rfl, rfl⟩))
        go_ret
        exact ⟨ret_bool (by simp [vehB, vehIn, hoursB, h0, h1, h2]), (Below.refl _ _).alloc (Nat.le_refl _) _⟩
      · cases h3 : inB o3 0 1000000
        · go_enter Tryd.func42, Tryd.ntmps42
          go_wp2_with (first | (go_at_call 40; refine (l1In_any _ _ _ _).mono ?_; rintro e w' ⟨rfl, rfl⟩))
          go_ret
          exact ⟨ret_bool (by simp [vehB, vehIn, hoursB, h0, h1, h2, h3]), (Below.refl _ _).alloc (Nat.le_refl _) _⟩
        · cases h4 : inB o4 o3 1000000
          · go_enter Tryd.func42, Tryd.ntmps42
            go_wp2_with (first | (go_at_call 40; refine (l1In_any _ _ _ _).mono ?_; rintro e w' ⟨rfl, rfl⟩))
            go_ret
            exact ⟨ret_bool (by simp [vehB, vehIn, hoursB, h0, h1, h2, h3, h4]), (Below.refl _ _).alloc (Nat.le_refl _) _⟩
          · go_enter Tryd.func42, Tryd.ntmps42
            go_wp2_with (first | (go_at_call 40; refine (l1In_any _ _ _ _).mono ?_; rintro e w' ⟨rfl, rfl⟩))
            go_ret
            exact ⟨ret_bool (by simp [vehB, vehIn, hoursB, h0, h1, h2, h3, h4]), (Below.refl _ _).alloc (Nat.le_refl _) _⟩

end Go.Proofs.YtacifgekflbjcaaDoor

namespace Go.Proofs.YtacifgekflbjcaaDoor
open Go.RowKit

set_option maxHeartbeats 1000000 in
theorem specMat_loop (n : Nat) (a : Option Addr) (cap : Nat) (zs : List Int) (w : World) (h1 : 1 ≤ n) (h2 : n ≤ 16) (hl : zs.length = n * n) (hA : IntsAt w a zs) :
    Calls Tryd.prog 39 #[.agg #[.int .i64 n, .slice a zs.length cap]] w fun e w' => e = .returned (.bool (matB n zs)) ∧ Below w.heap.size w w' := by
  have hnn : n * n ≤ 256 := mul_bd n n h2 h2
  have hd1 : inB (n : Int) 1 16 = true := inB_mk (by omega)
  have hnw : wrap64 ((n : Int) * (n : Int)) = (n : Int) * (n : Int) := IntWalk.wrap64_in _ (by rw [← Int.natCast_mul]; omega)
  have hn0 : ¬ n = 0 := by omega
  have HA : Hid (IntsAt w a zs) := hA
  clear hA
  rw [hl]
  have HL : Hid (zs.length = n * n) := hl
  clear hl
  go_enter Tryd.func39, Tryd.ntmps39
  go_wp2_with (go_at_call 40; refine (l1In_any _ _ _ _).mono ?_; rintro e w' ⟨rfl, rfl⟩)
  go_loopw [3] (fun t wr => ∃ k : Nat, k ≤ n * n ∧ t = .int .i64 k ∧ Below w.heap.size w wr ∧ wr.heap[w.heap.size]? = some (.cells #[.int .i64 n, .slice a (n * n) cap] 31 (0, 0)) ∧ (∀ i, i < k → 0 ≤ zs.getD i 0 ∧ zs.getD i 0 ≤ 10000 ∧ (i / n = i % n → zs.getD i 0 = 0))) (fun t _ => n * n - (intOf t).toNat)
  case atStart => exact ⟨0, Nat.zero_le _, rfl, (Below.refl _ _).alloc (Nat.le_refl _) _, heap_alloc_new _ _, fun i hi => by omega⟩
  case round =>
    obtain ⟨k, hk, rfl, hb, g3, hok⟩ := hrel
    have c0 := cell_of_row _ _ 0 _ _ _ g3
    have c1 := cell_of_row _ _ 1 _ _ _ g3
    simp at c0 c1
    have HO : Hid (∀ i, i < k → 0 ≤ zs.getD i 0 ∧ zs.getD i 0 ≤ 10000 ∧ (i / n = i % n → zs.getD i 0 = 0)) := hok
    have G3 : Hid _ := g3
    have HB : Hid _ := hb
    clear hok
    by_cases hlt : k < n * n
    · obtain ⟨bb, off, rfl, hcs⟩ := IntsAt.some (IntsAt.below HA.out hb) (j := k) (by rw [HL.out]; exact hlt)
      have ct := hcs k (by rw [HL.out]; exact hlt)
      clear hcs
      generalize htt : zs.getD k 0 = t at ct
      have HT : Hid (zs.getD k 0 = t) := htt
      clear htt g3 hb
      have hw1 : IntKind.i64.wrap ((k : Int) / (n : Int)) = (k : Int) / (n : Int) := by
        rw [IntKind.wrap_i64, ← Int.natCast_ediv]
        have hq := Nat.div_le_self k n
        generalize k / n = q at hq
        omega
      have hw2 : (k : Int).tmod (n : Int) = (k : Int) % (n : Int) := Int.tmod_eq_emod_of_nonneg (by omega)
      have hlt' : (k : Int) < (n : Int) * (n : Int) := by rw [← Int.natCast_mul]; omega
      by_cases hv : 0 ≤ t ∧ t ≤ 10000
      · have hvd : inB t 0 10000 = true := inB_mk hv
        by_cases hq : k / n = k % n
        · have hqb : ((k : Int) / (n : Int) == (k : Int) % (n : Int)) = true := by simp; omega
          by_cases ht0 : t = 0
          · have htb : (t != 0) = false := by simp [ht0]
            have HS : Hid (∀ i, i < k + 1 → 0 ≤ zs.getD i 0 ∧ zs.getD i 0 ≤ 10000 ∧ (i / n = i % n → zs.getD i 0 = 0)) := by
              intro i hi
              by_cases e : i = k
              · rw [e, HT.out]; exact ⟨hv.1, hv.2, fun _ => ht0⟩
              · exact HO.out i (by omega)
            clear HO hq ht0
            go_wp2
            go_quiet ((go_at_call 40; exact Calls.quiet_of_same (l1In_any _ _ _ _)))
            go_wp2
            refine ⟨⟨k + 1, by omega, by go_num, below_drewN HB.out _, G3.out, HS.out⟩, by simp [intOf]; omega⟩
          · have htb : (t != 0) = true := by simp [ht0]
            have HN : Hid (matB n zs = false) := matB_at n zs HL.out k hlt (by rw [HT.out]; exact fun h => ht0 (h.2.2 hq))
            clear HO hq ht0
            go_wp2
            go_quiet ((go_at_call 40; exact Calls.quiet_of_same (l1In_any _ _ _ _)))
            go_wp2
            go_ret
            exact ⟨ret_bool HN.out.symm, below_drewN HB.out _⟩
        · have hqb : ((k : Int) / (n : Int) == (k : Int) % (n : Int)) = false := by simp; omega
          have HS : Hid (∀ i, i < k + 1 → 0 ≤ zs.getD i 0 ∧ zs.getD i 0 ≤ 10000 ∧ (i / n = i % n → zs.getD i 0 = 0)) := by
            intro i hi
            by_cases e : i = k
            · rw [e, HT.out]; exact ⟨hv.1, hv.2, fun h => absurd h hq⟩
            · exact HO.out i (by omega)
          clear HO hq
          go_wp2
          go_quiet ((go_at_call 40; exact Calls.quiet_of_same (l1In_any _ _ _ _)))
          go_wp2
          refine ⟨⟨k + 1, by omega, by go_num, below_drewN HB.out _, G3.out, HS.out⟩, by simp [intOf]; omega⟩
      · have hvd : inB t 0 10000 = false := inB_not hv
        have HN : Hid (matB n zs = false) := matB_at n zs HL.out k hlt (by rw [HT.out]; exact fun h => hv ⟨h.1, h.2.1⟩)
        clear HO hv
        go_wp2
        go_quiet ((go_at_call 40; exact Calls.quiet_of_same (l1In_any _ _ _ _)))
        go_wp2
        go_ret
        exact ⟨ret_bool HN.out.symm, below_drewN HB.out _⟩
    · have hge' : (n : Int) * (n : Int) ≤ (k : Int) := by rw [← Int.natCast_mul]; omega
      have HN : Hid (matB n zs = true) := matB_all n zs h1 h2 HL.out (fun i hi => HO.out i (by omega))
      clear HO g3
      go_wp2
      go_ret
      exact ⟨ret_bool HN.out.symm, HB.out⟩

set_option maxHeartbeats 1000000 in
theorem specMat_no (n : Int) (a : Option Addr) (len cap : Nat) (w : World) (h : ¬ (1 ≤ n ∧ n ≤ 16 ∧ (len : Int) = n * n)) :
    Calls Tryd.prog 39 #[.agg #[.int .i64 n, .slice a len cap]] w fun e w' => e = .returned (.bool false) ∧ Below w.heap.size w w' := by
  by_cases hn : 1 ≤ n ∧ n ≤ 16
  · obtain ⟨m, rfl⟩ := Int.eq_ofNat_of_zero_le (show 0 ≤ n by omega)
    have hnn : m * m ≤ 256 := mul_bd m m (by omega) (by omega)
    have hd1 : inB (m : Int) 1 16 = true := inB_mk hn
    have hnw : wrap64 ((m : Int) * (m : Int)) = (m : Int) * (m : Int) := IntWalk.wrap64_in _ (by rw [← Int.natCast_mul]; omega)
    have hne : ((len : Int) != (m : Int) * (m : Int)) = true := by
      rw [bne_iff_ne]; exact fun e => h ⟨hn.1, hn.2, e⟩
    clear h
    go_enter Tryd.func39, Tryd.ntmps39
    go_wp2_with (go_at_call 40; refine (l1In_any _ _ _ _).mono ?_; rintro e w' ⟨rfl, rfl⟩)
    go_ret
    exact ⟨rfl, (Below.refl _ _).alloc (Nat.le_refl _) _⟩
  · have hd1 : inB n 1 16 = false := inB_not hn
    clear h hn
    go_enter Tryd.func39, Tryd.ntmps39
    go_wp2_with (go_at_call 40; refine (l1In_any _ _ _ _).mono ?_; rintro e w' ⟨rfl, rfl⟩)
    go_ret
    exact ⟨rfl, (Below.refl _ _).alloc (Nat.le_refl _) _⟩

theorem specMat_any (n : Int) (a : Option Addr) (cap : Nat) (zs : List Int) (w : World) (hA : IntsAt w a zs) :
    Calls Tryd.prog 39 #[.agg #[.int .i64 n, .slice a zs.length cap]] w fun e w' => e = .returned (.bool (matB n zs)) ∧ Below w.heap.size w w' := by
  by_cases h : 1 ≤ n ∧ n ≤ 16 ∧ (zs.length : Int) = n * n
  · obtain ⟨m, rfl⟩ := Int.eq_ofNat_of_zero_le (show 0 ≤ n by omega)
    exact specMat_loop m a cap zs w (by omega) (by omega) (by have := h.2.2; rw [← Int.natCast_mul] at this; omega) hA
  · have hm : matB n zs = false := matB_not fun k => h ⟨k.1, k.2.1, k.2.2.1⟩
    rw [hm]
    exact specMat_no n a _ cap w h

end Go.Proofs.YtacifgekflbjcaaDoor

namespace Go.Proofs.YtacifgekflbjcaaDoor
open Go.RowKit

set_option maxHeartbeats 1000000 in
theorem specCase_no (n fine : Int) (a ao av : Option Addr) (cap ko co kv cv : Nat) (zs os vs : List Int) (w : World) (hA : IntsAt w a zs) (hko : ko ≤ 9223372036854775807) (hkv : kv ≤ 9223372036854775807) (h : ¬ (matB n zs = true ∧ ko ≤ 12 ∧ kv ≤ 5 ∧ inB fine 0 1000000 = true)) :
    Calls Tryd.prog 18 #[.agg #[.int .i64 n, .slice a zs.length cap, .slice ao ko co, .slice av kv cv, .int .i64 fine]] w fun e w' => e = .returned (.bool (caseB n zs os vs ko kv fine)) ∧ Below w.heap.size w w' := by
  have HB0 : Hid (Below w.heap.size w (w.alloc (Obj.cells #[Value.int IntKind.i64 n, Value.slice a zs.length cap, Value.slice ao ko co, Value.slice av kv cv, Value.int IntKind.i64 fine] 35))) := (Below.refl _ _).alloc (Nat.le_refl _) _
  have HA : Hid (IntsAt w a zs) := hA
  clear hA
  have HC : Hid (caseB n zs os vs ko kv fine = false) := by
    show _ = _
    unfold caseB
    cases h1 : matB n zs
    · rfl
    · cases h2 : ordsB n os ko
      · rfl
      · cases h3 : vehsB n vs kv
        · rfl
        · cases h4 : inB fine 0 1000000
          · rfl
          · exact absurd ⟨h1, (ordsB_true h2).1, (vehsB_true h3).1, h4⟩ h
  cases h1 : matB n zs
  · have HM : Hid _ := h1
    clear h1 h
    go_enter Tryd.func18, Tryd.ntmps18
    go_wp2_with fail
    refine (specMat_any n a cap zs _ (HA.out.below HB0.out)).mono ?_
    rintro e w1 ⟨rfl, hb⟩
    rw [HM.out]
    obtain ⟨b1, r1⟩ := box5 hb
    obtain ⟨c0, c1, c2, c3, c4⟩ := cells5 r1
    have B1 : Hid _ := b1
    have R1 : Hid _ := r1
    clear hb b1 r1
    go_wp2_with (first | (go_at_call 40; refine (l1In_any _ _ _ _).mono ?_; rintro e w' ⟨rfl, rfl⟩))
    go_ret
    exact ⟨ret_bool HC.out.symm, B1.out⟩
  · have HM : Hid _ := h1
    by_cases h2 : ko ≤ 12
    · by_cases h3 : kv ≤ 5
      · have h4 : inB fine 0 1000000 = false := by
          cases h4 : inB fine 0 1000000
          · rfl
          · exact absurd ⟨h1, h2, h3, h4⟩ h
        clear h1 h
        go_enter Tryd.func18, Tryd.ntmps18
        go_wp2_with fail
        refine (specMat_any n a cap zs _ (HA.out.below HB0.out)).mono ?_
        rintro e w1 ⟨rfl, hb⟩
        rw [HM.out]
        obtain ⟨b1, r1⟩ := box5 hb
        obtain ⟨c0, c1, c2, c3, c4⟩ := cells5 r1
        have B1 : Hid _ := b1
        have R1 : Hid _ := r1
        clear hb b1 r1
        go_wp2_with (first | (go_at_call 40; refine (l1In_any _ _ _ _).mono ?_; rintro e w' ⟨rfl, rfl⟩))
        go_ret
        exact ⟨ret_bool HC.out.symm, B1.out⟩
      · clear h1 h
        go_enter Tryd.func18, Tryd.ntmps18
        go_wp2_with fail
        refine (specMat_any n a cap zs _ (HA.out.below HB0.out)).mono ?_
        rintro e w1 ⟨rfl, hb⟩
        rw [HM.out]
        obtain ⟨b1, r1⟩ := box5 hb
        obtain ⟨c0, c1, c2, c3, c4⟩ := cells5 r1
        have B1 : Hid _ := b1
        have R1 : Hid _ := r1
        clear hb b1 r1
        go_wp2_with (first | (go_at_call 40; refine (l1In_any _ _ _ _).mono ?_; rintro e w' ⟨rfl, rfl⟩))
        go_ret
        exact ⟨ret_bool HC.out.symm, B1.out⟩
    · clear h1 h
      go_enter Tryd.func18, Tryd.ntmps18
      go_wp2_with fail
      refine (specMat_any n a cap zs _ (HA.out.below HB0.out)).mono ?_
      rintro e w1 ⟨rfl, hb⟩
      rw [HM.out]
      obtain ⟨b1, r1⟩ := box5 hb
      obtain ⟨c0, c1, c2, c3, c4⟩ := cells5 r1
      have B1 : Hid _ := b1
      have R1 : Hid _ := r1
      clear hb b1 r1
      go_wp2_with (first | (go_at_call 40; refine (l1In_any _ _ _ _).mono ?_; rintro e w' ⟨rfl, rfl⟩))
      go_ret
      exact ⟨ret_bool HC.out.symm, B1.out⟩

theorem caseB_def (n : Int) (zs os vs : List Int) (ko kv : Nat) (fine : Int) : caseB n zs os vs ko kv fine = (matB n zs && ordsB n os ko && vehsB n vs kv && inB fine 0 1000000) := rfl

set_option maxHeartbeats 2000000 in
theorem specCase_loop (n fine : Int) (a ao av : Option Addr) (cap ko co kv cv : Nat) (zs os vs : List Int) (w : World) (hA : IntsAt w a zs) (hO : IntsAt w ao os) (hV : IntsAt w av vs) (hlo : os.length = ko * 6) (hlv : vs.length = kv * 5) (hm : matB n zs = true) (hko : ko ≤ 12) (hkv : kv ≤ 5) (hf : inB fine 0 1000000 = true) :
    Calls Tryd.prog 18 #[.agg #[.int .i64 n, .slice a zs.length cap, .slice ao ko co, .slice av kv cv, .int .i64 fine]] w fun e w' => e = .returned (.bool (caseB n zs os vs ko kv fine)) ∧ Below w.heap.size w w' := by
  have HB0 : Hid (Below w.heap.size w (w.alloc (Obj.cells #[Value.int IntKind.i64 n, Value.slice a zs.length cap, Value.slice ao ko co, Value.slice av kv cv, Value.int IntKind.i64 fine] 35))) := (Below.refl _ _).alloc (Nat.le_refl _) _
  have HA : Hid (IntsAt w a zs) := hA
  have HX6 : Hid (IntsAt w ao os) := hO
  have HX5 : Hid (IntsAt w av vs) := hV
  have HLX6 : Hid (os.length = ko * 6) := hlo
  have HLX5 : Hid (vs.length = kv * 5) := hlv
  have HM : Hid _ := hm
  obtain ⟨hn1, hn2, _, _⟩ := matB_true hm
  have hdk : decide ((12 : Int) < (ko : Int)) = false := by simp; omega
  have hdv : decide ((5 : Int) < (kv : Int)) = false := by simp; omega
  clear hA hO hV hlo hlv hm
  go_enter Tryd.func18, Tryd.ntmps18
  go_wp2_with fail
  refine (specMat_any n a cap zs _ (HA.out.below HB0.out)).mono ?_
  rintro e w1 ⟨rfl, hb⟩
  rw [HM.out]
  obtain ⟨b1, r1⟩ := box5 hb
  obtain ⟨c0, c1, c2, c3, c4⟩ := cells5 r1
  have B1 : Hid _ := b1
  have R1 : Hid _ := r1
  clear hb b1 r1
  go_wp2_with (first | (go_at_call 40; refine (l1In_any _ _ _ _).mono ?_; rintro e w' ⟨rfl, rfl⟩))
  clear c0 c1 c2 c3 c4
  go_loopw [3] (fun t wr => ∃ k : Nat, k ≤ ko ∧ t = .int .i64 k ∧ ordsTo n os k ∧ Below w.heap.size w wr ∧ wr.heap[w.heap.size]? = some (.cells #[Value.int IntKind.i64 n, Value.slice a zs.length cap, Value.slice ao ko co, Value.slice av kv cv, Value.int IntKind.i64 fine] 35 (0, 0))) (fun t _ => ko - (intOf t).toNat)
  case atStart => exact ⟨0, Nat.zero_le _, rfl, ordsTo_zero _ _, B1.out, R1.out⟩
  case round =>
    clear B1 R1
    obtain ⟨k, hk, rfl, ht, hb, g3⟩ := hrel
    have HT : Hid _ := ht
    have G3 : Hid _ := g3
    have HB : Hid _ := hb
    obtain ⟨c0, c1, c2, c3, c4⟩ := cells5 g3
    clear ht
    by_cases hlt : k < ko
    · obtain ⟨b, off, rfl, hcs⟩ := IntsAt.some (IntsAt.below HX6.out hb) (j := k * 6) (by rw [HLX6.out]; omega)
      obtain ⟨r0, r1, r2, r3, r4, r5⟩ := row6_at hcs HLX6.out k hlt
      have HCS : Hid _ := hcs
      clear hcs g3 hb
      obtain ⟨o0, H0⟩ : ∃ t, Hid (og6 os k 0 = t) := ⟨_, rfl⟩
      obtain ⟨o1, H1⟩ : ∃ t, Hid (og6 os k 1 = t) := ⟨_, rfl⟩
      obtain ⟨o2, H2⟩ : ∃ t, Hid (og6 os k 2 = t) := ⟨_, rfl⟩
      obtain ⟨o3, H3⟩ : ∃ t, Hid (og6 os k 3 = t) := ⟨_, rfl⟩
      obtain ⟨o4, H4⟩ : ∃ t, Hid (og6 os k 4 = t) := ⟨_, rfl⟩
      obtain ⟨o5, H5⟩ : ∃ t, Hid (og6 os k 5 = t) := ⟨_, rfl⟩
      rw [H0.out] at r0
      rw [H1.out] at r1
      rw [H2.out] at r2
      rw [H3.out] at r3
      rw [H4.out] at r4
      rw [H5.out] at r5
      have s0 := fun s : Kin wr => s.cell c0
      have s1 := fun s : Kin wr => s.cell c2
      have t0 := fun s : Kin wr => s.cell r0
      have t1 := fun s : Kin wr => s.cell r1
      have t2 := fun s : Kin wr => s.cell r2
      have t3 := fun s : Kin wr => s.cell r3
      have t4 := fun s : Kin wr => s.cell r4
      have t5 := fun s : Kin wr => s.cell r5
      cases h1 : ordB n o0 o1 o2 o3 o4 o5
      · have HN : Hid (ordsB n os ko = false) := ordsB_bad hlt (by rw [H0.out, H1.out, H2.out, H3.out, H4.out, H5.out, h1]; simp)
        go_wp2_with fail
        have hkin := Kin.there wr
        refine wp_region_kin (by kernel_rfl) (by kernel_rfl) ?_
        repeat (go_big_quiet_step ((go_at_call 41; exact Kin.call (l2Order_any n _ _ _ _ _ _ _ hn1 hn2))))
        refine wpQuiet_nil ?_
        rintro _ ⟨s, rfl⟩
        have HS2 := HB.out.trans (s.below.mono HB.out.size)
        have R2 := below_row s.below (row_lt G3.out) G3.out
        generalize s.w = w2 at *
        go_wp2
        go_ret
        exact ⟨ret_bool (by simp [caseB_def, HN.out]), HS2⟩
      · by_cases hk0 : k = 0
        · have HS : Hid (ordsTo n os (k + 1)) := ordsTo_step HT.out (by rw [H0.out, H1.out, H2.out, H3.out, H4.out, H5.out]; exact h1) (fun h => by omega)
          have hkz : (decide (0 < k)) = false := by simp; omega
          have hk1 : k ≤ 0 := by omega
          clear hk0
          go_wp2_with fail
          have hkin := Kin.there wr
          refine wp_region_kin (by kernel_rfl) (by kernel_rfl) ?_
          repeat (go_big_quiet_step ((go_at_call 41; exact Kin.call (l2Order_any n _ _ _ _ _ _ _ hn1 hn2))))
          refine wpQuiet_nil ?_
          rintro _ ⟨s, rfl⟩
          have HS2 := HB.out.trans (s.below.mono HB.out.size)
          have R2 := below_row s.below (row_lt G3.out) G3.out
          generalize s.w = w2 at *
          go_wp2
          refine ⟨⟨k + 1, by omega, by go_num, HS.out, HS2, R2⟩, by simp [intOf]; omega⟩
        · have hk1 : 0 < k := by omega
          obtain ⟨rp, _⟩ := row6_at HCS.out HLX6.out (k - 1) (by omega)
          obtain ⟨p, HP⟩ : ∃ t, Hid (og6 os (k - 1) 0 = t) := ⟨_, rfl⟩
          rw [HP.out] at rp
          have tp := fun s : Kin wr => s.cell rp
          have hkm : k - 1 < ko := by omega
          have hw1 : IntKind.i64.wrap ((k : Int) - 1) = ((k - 1 : Nat) : Int) := by
            rw [IntKind.wrap_i64]; omega
          clear hk0
          by_cases hp : p < o0
          · have HS : Hid (ordsTo n os (k + 1)) := ordsTo_step HT.out (by rw [H0.out, H1.out, H2.out, H3.out, H4.out, H5.out]; exact h1) (fun _ => by rw [HP.out, H0.out]; exact hp)
            go_wp2_with fail
            have hkin := Kin.there wr
            refine wp_region_kin (by kernel_rfl) (by kernel_rfl) ?_
            repeat (go_big_quiet_step ((go_at_call 41; exact Kin.call (l2Order_any n _ _ _ _ _ _ _ hn1 hn2))))
            refine wpQuiet_nil ?_
            rintro _ ⟨s, rfl⟩
            have HS2 := HB.out.trans (s.below.mono HB.out.size)
            have R2 := below_row s.below (row_lt G3.out) G3.out
            generalize s.w = w2 at *
            go_wp2
            refine ⟨⟨k + 1, by omega, by go_num, HS.out, HS2, R2⟩, by simp [intOf]; omega⟩
          · have HN : Hid (ordsB n os ko = false) := ordsB_bad hlt (fun h => hp (by have := h.2 hk1; rw [HP.out, H0.out] at this; exact this))
            go_wp2_with fail
            have hkin := Kin.there wr
            refine wp_region_kin (by kernel_rfl) (by kernel_rfl) ?_
            repeat (go_big_quiet_step ((go_at_call 41; exact Kin.call (l2Order_any n _ _ _ _ _ _ _ hn1 hn2))))
            refine wpQuiet_nil ?_
            rintro _ ⟨s, rfl⟩
            have HS2 := HB.out.trans (s.below.mono HB.out.size)
            have R2 := below_row s.below (row_lt G3.out) G3.out
            generalize s.w = w2 at *
            go_wp2
            go_ret
            exact ⟨ret_bool (by simp [caseB_def, HN.out]), HS2⟩
    · have hkx : k = ko := by omega
      have HN : Hid (ordsB n os ko = true) := ordsB_yes (by omega) (hkx ▸ HT.out)
      clear hkx g3 hb
      go_wp2_with fail
      clear c0 c1 c2 c3 c4
      have HO2 : Hid (ordsB n os ko = true) := HN.out
      go_loopw [4] (fun t wr => ∃ k : Nat, k ≤ kv ∧ t = .int .i64 k ∧ vehsTo n vs k ∧ Below w.heap.size w wr ∧ wr.heap[w.heap.size]? = some (.cells #[Value.int IntKind.i64 n, Value.slice a zs.length cap, Value.slice ao ko co, Value.slice av kv cv, Value.int IntKind.i64 fine] 35 (0, 0))) (fun t _ => kv - (intOf t).toNat)
      case atStart => exact ⟨0, Nat.zero_le _, rfl, vehsTo_zero _ _, HB.out, G3.out⟩
      case round =>
        clear HT G3 HB HN
        obtain ⟨k, hk, rfl, ht, hb, g3⟩ := hrel
        have HT : Hid _ := ht
        have G3 : Hid _ := g3
        have HB : Hid _ := hb
        obtain ⟨c0, c1, c2, c3, c4⟩ := cells5 g3
        clear ht
        by_cases hlt : k < kv
        · obtain ⟨b, off, rfl, hcs⟩ := IntsAt.some (IntsAt.below HX5.out hb) (j := k * 5) (by rw [HLX5.out]; omega)
          obtain ⟨r0, r1, r2, r3, r4⟩ := row5_at hcs HLX5.out k hlt
          have HCS : Hid _ := hcs
          clear hcs g3 hb
          obtain ⟨o0, H0⟩ : ∃ t, Hid (og5 vs k 0 = t) := ⟨_, rfl⟩
          obtain ⟨o1, H1⟩ : ∃ t, Hid (og5 vs k 1 = t) := ⟨_, rfl⟩
          obtain ⟨o2, H2⟩ : ∃ t, Hid (og5 vs k 2 = t) := ⟨_, rfl⟩
          obtain ⟨o3, H3⟩ : ∃ t, Hid (og5 vs k 3 = t) := ⟨_, rfl⟩
          obtain ⟨o4, H4⟩ : ∃ t, Hid (og5 vs k 4 = t) := ⟨_, rfl⟩
          rw [H0.out] at r0
          rw [H1.out] at r1
          rw [H2.out] at r2
          rw [H3.out] at r3
          rw [H4.out] at r4
          have s0 := fun s : Kin wr => s.cell c0
          have s1 := fun s : Kin wr => s.cell c3
          have t0 := fun s : Kin wr => s.cell r0
          have t1 := fun s : Kin wr => s.cell r1
          have t2 := fun s : Kin wr => s.cell r2
          have t3 := fun s : Kin wr => s.cell r3
          have t4 := fun s : Kin wr => s.cell r4
          cases h1 : vehB n o0 o1 o2 o3 o4
          · have HN : Hid (vehsB n vs kv = false) := vehsB_bad hlt (by rw [H0.out, H1.out, H2.out, H3.out, H4.out, h1]; simp)
            go_wp2_with fail
            have hkin := Kin.there wr
            refine wp_region_kin (by kernel_rfl) (by kernel_rfl) ?_
            repeat (go_big_quiet_step ((go_at_call 42; exact Kin.call (l2Vehicle_any n _ _ _ _ _ _ hn1 hn2))))
            refine wpQuiet_nil ?_
            rintro _ ⟨s, rfl⟩
            have HS2 := HB.out.trans (s.below.mono HB.out.size)
            have R2 := below_row s.below (row_lt G3.out) G3.out
            generalize s.w = w2 at *
            go_wp2
            go_ret
            exact ⟨ret_bool (by simp [caseB_def, HN.out]), HS2⟩
          · by_cases hk0 : k = 0
            · have HS : Hid (vehsTo n vs (k + 1)) := vehsTo_step HT.out (by rw [H0.out, H1.out, H2.out, H3.out, H4.out]; exact h1) (fun h => by omega)
              have hkz : (decide (0 < k)) = false := by simp; omega
              have hk1 : k ≤ 0 := by omega
              clear hk0
              go_wp2_with fail
              have hkin := Kin.there wr
              refine wp_region_kin (by kernel_rfl) (by kernel_rfl) ?_
              repeat (go_big_quiet_step ((go_at_call 42; exact Kin.call (l2Vehicle_any n _ _ _ _ _ _ hn1 hn2))))
              refine wpQuiet_nil ?_
              rintro _ ⟨s, rfl⟩
              have HS2 := HB.out.trans (s.below.mono HB.out.size)
              have R2 := below_row s.below (row_lt G3.out) G3.out
              generalize s.w = w2 at *
              go_wp2
              refine ⟨⟨k + 1, by omega, by go_num, HS.out, HS2, R2⟩, by simp [intOf]; omega⟩
            · have hk1 : 0 < k := by omega
              obtain ⟨rp, _⟩ := row5_at HCS.out HLX5.out (k - 1) (by omega)
              obtain ⟨p, HP⟩ : ∃ t, Hid (og5 vs (k - 1) 0 = t) := ⟨_, rfl⟩
              rw [HP.out] at rp
              have tp := fun s : Kin wr => s.cell rp
              have hkm : k - 1 < kv := by omega
              have hw1 : IntKind.i64.wrap ((k : Int) - 1) = ((k - 1 : Nat) : Int) := by
                rw [IntKind.wrap_i64]; omega
              clear hk0
              by_cases hp : p < o0
              · have HS : Hid (vehsTo n vs (k + 1)) := vehsTo_step HT.out (by rw [H0.out, H1.out, H2.out, H3.out, H4.out]; exact h1) (fun _ => by rw [HP.out, H0.out]; exact hp)
                go_wp2_with fail
                have hkin := Kin.there wr
                refine wp_region_kin (by kernel_rfl) (by kernel_rfl) ?_
                repeat (go_big_quiet_step ((go_at_call 42; exact Kin.call (l2Vehicle_any n _ _ _ _ _ _ hn1 hn2))))
                refine wpQuiet_nil ?_
                rintro _ ⟨s, rfl⟩
                have HS2 := HB.out.trans (s.below.mono HB.out.size)
                have R2 := below_row s.below (row_lt G3.out) G3.out
                generalize s.w = w2 at *
                go_wp2
                refine ⟨⟨k + 1, by omega, by go_num, HS.out, HS2, R2⟩, by simp [intOf]; omega⟩
              · have HN : Hid (vehsB n vs kv = false) := vehsB_bad hlt (fun h => hp (by have := h.2 hk1; rw [HP.out, H0.out] at this; exact this))
                go_wp2_with fail
                have hkin := Kin.there wr
                refine wp_region_kin (by kernel_rfl) (by kernel_rfl) ?_
                repeat (go_big_quiet_step ((go_at_call 42; exact Kin.call (l2Vehicle_any n _ _ _ _ _ _ hn1 hn2))))
                refine wpQuiet_nil ?_
                rintro _ ⟨s, rfl⟩
                have HS2 := HB.out.trans (s.below.mono HB.out.size)
                have R2 := below_row s.below (row_lt G3.out) G3.out
                generalize s.w = w2 at *
                go_wp2
                go_ret
                exact ⟨ret_bool (by simp [caseB_def, HN.out]), HS2⟩
        · have hkx : k = kv := by omega
          have HN : Hid (vehsB n vs kv = true) := vehsB_yes (by omega) (hkx ▸ HT.out)
          clear hkx g3 hb
          go_wp2
          go_ret
          exact ⟨ret_bool (by rw [caseB_def, HM.out, HO2.out, HN.out, hf]; rfl), HB.out⟩

theorem specCase_any (n fine : Int) (a ao av : Option Addr) (cap ko co kv cv : Nat) (zs os vs : List Int) (w : World) (hA : IntsAt w a zs) (hO : IntsAt w ao os) (hV : IntsAt w av vs) (hlo : os.length = ko * 6) (hlv : vs.length = kv * 5) (hko : ko ≤ 9223372036854775807) (hkv : kv ≤ 9223372036854775807) :
    Calls Tryd.prog 18 #[.agg #[.int .i64 n, .slice a zs.length cap, .slice ao ko co, .slice av kv cv, .int .i64 fine]] w fun e w' => e = .returned (.bool (caseB n zs os vs ko kv fine)) ∧ Below w.heap.size w w' := by
  by_cases h : matB n zs = true ∧ ko ≤ 12 ∧ kv ≤ 5 ∧ inB fine 0 1000000 = true
  · exact specCase_loop n fine a ao av cap ko co kv cv zs os vs w hA hO hV hlo hlv h.1 h.2.1 h.2.2.1 h.2.2.2
  · exact specCase_no n fine a ao av cap ko co kv cv zs os vs w hA hko hkv h

end Go.Proofs.YtacifgekflbjcaaDoor
