import Derived.Test.YtacifgekflbjcaaDoorPack0
import Derived.Test.YtacifgekflbjcaaDoorRows
import Derived.WalkKit
import Derived.WalkSpells
import Derived.WalkLawsBesides
import Derived.Deep.QuietTactic
import Derived.BigQuiet
import Derived.Deep.RegionWith
import Derived.Deep.RegionHeld3
import Derived.Deep.WholeRow
namespace Go.Proofs.YtacifgekflbjcaaDoor
end Go.Proofs.YtacifgekflbjcaaDoor

namespace Go.Proofs.YtacifgekflbjcaaDoor
open Go.RowKit

theorem cells2 {w : World} {k : Nat} {c0 c1 : Value} {T : TypeId} (r : w.heap[k]? = some (.cells #[c0, c1] T (0, 0))) :
    w.cell? ⟨k, 0, none⟩ = some c0 ∧ w.cell? ⟨k, 1, none⟩ = some c1 := by
  refine ⟨?_, ?_⟩
  · rw [cell_of_row _ _ 0 _ _ _ r]; simp
  · rw [cell_of_row _ _ 1 _ _ _ r]; simp

end Go.Proofs.YtacifgekflbjcaaDoor

namespace Go.Proofs.YtacifgekflbjcaaDoor
open Go.RowKit

/-- The worlds in which all that was there is as it was. -/
def Kin (wr : World) : Type := { x : World // Below wr.heap.size wr x }
/-- One of them, as a world. -/
def Kin.w {wr : World} (s : Kin wr) : World := s.1
theorem Kin.there (wr : World) : Nonempty (Kin wr) := ⟨⟨wr, Below.refl _ _⟩⟩
theorem Kin.below {wr : World} (s : Kin wr) : Below wr.heap.size wr s.w := s.2
theorem Kin.cell {wr : World} (s : Kin wr) {b o : Nat} {v : Value} (h : wr.cell? ⟨b, o, none⟩ = some v) : s.w.cell? ⟨b, o, none⟩ = some v := by
  rw [s.below.cell (p := ⟨b, o, none⟩) (block_lt_of_cell h)]; exact h

/-- A region that draws its order, whose operations read and whose callees leave what was there: one walk, in the text's order. -/
theorem wp_region_kin {P : Program} {id : Nat} {Q : Exit → Act → World → Prop} {a : Act} {w : World} {l : List Oper} (hm : P.follows .mixedOrders = true) (hB : Region.lexB .any l.toArray = true)
    (h : wpQuiet P l.toArray (fun w' => ∃ s : Kin w, w' = s.w) (fun a' => ∀ w', (∃ s : Kin w, w' = s.w) → Q .normal a' w') l a) : (Code.region id l.toArray true).wp P Q a w :=
  wp_region_quiet (C := fun w' => ∃ s : Kin w, w' = s.w) hm hB ⟨⟨_, (Below.refl _ _).drew⟩, rfl⟩ (by simpa using h)

theorem Kin.call {P : Program} {f : FuncId} {args : Array Value} {wr : World} {s : Kin wr} {v : Value}
    (h : Calls P f args s.w fun e w' => e = .returned v ∧ Below s.w.heap.size s.w w') : Calls P f args s.w fun e w'' => e = .returned v ∧ ∃ s' : Kin wr, w'' = s'.w :=
  h.mono fun _ w' ⟨he, hb⟩ => ⟨he, ⟨w', s.below.trans (hb.mono s.below.size)⟩, rfl⟩
theorem Kin.call_same {P : Program} {f : FuncId} {args : Array Value} {wr : World} {s : Kin wr} {v : Value}
    (h : Calls P f args s.w fun e w' => e = .returned v ∧ w' = s.w) : Calls P f args s.w fun e w'' => e = .returned v ∧ ∃ s' : Kin wr, w'' = s'.w :=
  h.mono fun _ _ ⟨he, hb⟩ => ⟨he, s, hb⟩

end Go.Proofs.YtacifgekflbjcaaDoor

namespace Go.Proofs.YtacifgekflbjcaaDoor
open Go.RowKit

set_option maxHeartbeats 400000 in
theorem szInts_any (a : Option Addr) (len cap : Nat) (left : Int) (w : World) (h0 : 0 ≤ left) (h1 : left ≤ 1048576) (hlen : len ≤ 9223372036854775807) :
    Calls Tryd.prog 30 #[.slice a len cap, .int .i64 left] w fun e w' => e = .returned (.int .i64 (if left < len then -1 else left - len)) ∧ w' = w := by
  by_cases hlt : left < len
  · rw [if_pos hlt]
    go_enter Tryd.func30, Tryd.ntmps30
    go_wp2
    go_ret
    exact ⟨by simp, rfl⟩
  · rw [if_neg hlt]
    go_enter Tryd.func30, Tryd.ntmps30
    go_wp2
    go_ret
    exact ⟨by simp, rfl⟩

end Go.Proofs.YtacifgekflbjcaaDoor

namespace Go.Proofs.YtacifgekflbjcaaDoor
open Go.RowKit

set_option maxHeartbeats 400000 in
theorem szRoute_any (n : Int) (a : Option Addr) (len cap : Nat) (left : Int) (w : World) (h0 : 0 ≤ left) (h1 : left ≤ 1048576) (hlen : len ≤ 9223372036854775807) :
    Calls Tryd.prog 55 #[.agg #[.int .i64 n, .slice a len cap], .int .i64 left] w fun e w' => e = .returned (.int .i64 (if left < len then -1 else left - len)) ∧ Below w.heap.size w w' := by
  by_cases hlt : left < len
  · rw [if_pos hlt]
    go_enter Tryd.func55, Tryd.ntmps55
    go_wp2_with (go_at_call 30; refine (szInts_any _ _ _ _ _ h0 h1 hlen).mono ?_; rintro e w' ⟨rfl, rfl⟩)
    go_ret
    exact ⟨by simp, (Below.refl _ _).alloc (Nat.le_refl _) _⟩
  · rw [if_neg hlt]
    go_enter Tryd.func55, Tryd.ntmps55
    go_wp2_with (go_at_call 30; refine (szInts_any _ _ _ _ _ h0 h1 hlen).mono ?_; rintro e w' ⟨rfl, rfl⟩)
    go_ret
    exact ⟨by simp, (Below.refl _ _).alloc (Nat.le_refl _) _⟩

end Go.Proofs.YtacifgekflbjcaaDoor

namespace Go.Proofs.YtacifgekflbjcaaDoor
open Go.RowKit

theorem Tryd.info2 : (Tryd.prog.info? 2).map (fun i => (i.zero, i.size, i.bytes)) = some (some (.int .i64 0), 1, 8) := by kernel_rfl

theorem make_ints (W : World) (len : Nat) (hlen : len ≤ 1048576) :
    (Instr.makeSlice 22 (.int .i64 len) (.int .i64 len)).run Tryd.prog W = .ok (.slice (some ⟨W.heap.size, 0, none⟩) len len) (W.alloc (.cells (cellsOf (List.replicate len 0)) 2)) := by
  have h := Tryd.info2
  cases hq : Tryd.prog.info? 2 with
  | none => simp [hq] at h
  | some i =>
    simp [hq] at h
    obtain ⟨hz, hs, hb⟩ := h
    have := run_make (P := Tryd.prog) W 22 2 i (.int .i64 0) Tryd.underlying22 hq hz .i64 .i64 len len (by omega) (by omega) (by rw [hb]; omega) (by omega)
    rw [this, hs]
    simp only [Int.toNat_natCast, made_zero]

end Go.Proofs.YtacifgekflbjcaaDoor

namespace Go.Proofs.YtacifgekflbjcaaDoor
open Go.RowKit

set_option maxHeartbeats 400000 in
theorem toInts_any (a : Option Addr) (cap : Nat) (zs : List Int) (w : World) (hA : IntsAt w a zs) (hlen : zs.length ≤ 1048576) :
    Calls Tryd.prog 33 #[.slice a zs.length cap] w fun e w' => e = .returned (.slice (some ⟨w.heap.size, 0, none⟩) zs.length zs.length) ∧ Below w.heap.size w w' ∧ w'.heap.size = w.heap.size + 1 ∧ w'.heap[w.heap.size]? = some (.cells (cellsOf zs) 2 (0, 0)) := by
  have HA : Hid (IntsAt w a zs) := hA
  clear hA
  have hmk := fun W => make_ints W zs.length hlen
  go_enter Tryd.func33, Tryd.ntmps33
  go_wp2_with fail
  clear hmk
  go_loopw [4] (fun t wr => ∃ k : Nat, k ≤ zs.length ∧ t = .int .i64 k ∧ Below w.heap.size w wr ∧ wr.heap.size = w.heap.size + 1 ∧ wr.heap[w.heap.size]? = some (.cells (cellsOf (zs.take k ++ List.replicate (zs.length - k) 0)) 2 (0, 0))) (fun t _ => zs.length - (intOf t).toNat)
  case atStart =>
    refine ⟨0, Nat.zero_le _, rfl, (Below.refl _ _).alloc (Nat.le_refl _) _, by simp, ?_⟩
    simpa using heap_alloc_new w _
  case round =>
    obtain ⟨k, hk, rfl, hb, hsz, hg⟩ := hrel
    by_cases hlt : k < zs.length
    · obtain ⟨bb, off, rfl, hcs⟩ := IntsAt.some (IntsAt.below HA.out hb) hlt
      have ct := hcs k hlt
      clear hcs
      generalize htt : zs.getD k 0 = t at ct
      have HT : Hid (zs.getD k 0 = t) := htt
      clear htt
      have cg := cell_of_row _ _ k _ _ _ hg
      rw [cellsOf_get _ _ (by simp; omega)] at cg
      have fg := frozen_of_row _ _ k _ _ hg
      have HG : Hid _ := hg
      have HZ : Hid _ := hsz
      have HB : Hid _ := hb
      clear hg hsz hb
      go_wp2
      refine ⟨⟨k + 1, by omega, by go_num, HB.out.setCell (Nat.le_refl _) _, ?_, ?_⟩, by simp [intOf]; omega⟩
      · have := HZ.out
        simpa [World.setCell] using this
      · rw [heap_setCell_same _ _ _ _ _ _ HG.out, cellsOf_set, ← HT.out, copy_step zs k hlt]
    · have hkz : k = zs.length := by omega
      have HG : Hid (wr.heap[w.heap.size]? = some (.cells (cellsOf zs) 2 (0, 0))) := by
        show _ = _
        rw [hg, hkz]; simp
      have HZ : Hid _ := hsz
      clear hg hsz hkz
      go_wp2
      go_ret
      exact ⟨rfl, hb, HZ.out, HG.out⟩

end Go.Proofs.YtacifgekflbjcaaDoor

namespace Go.Proofs.YtacifgekflbjcaaDoor
open Go.RowKit

set_option maxHeartbeats 400000 in
theorem toRoute_any (n : Int) (a : Option Addr) (cap : Nat) (zs : List Int) (w : World) (hA : IntsAt w a zs) (hlen : zs.length ≤ 1048576) :
    Calls Tryd.prog 57 #[.agg #[.int .i64 n, .slice a zs.length cap]] w fun e w' => ∃ g, w.heap.size ≤ g ∧ e = .returned (.agg #[.int .i64 n, .slice (some ⟨g, 0, none⟩) zs.length zs.length]) ∧ Below w.heap.size w w' ∧ w'.heap[g]? = some (.cells (cellsOf zs) 2 (0, 0)) := by
  have HA : Hid (IntsAt w a zs) := hA
  clear hA
  go_enter Tryd.func57, Tryd.ntmps57
  go_wp2_with fail
  have HB0 : Hid (Below w.heap.size w (((w.alloc (Obj.cells #[Value.int IntKind.i64 n, Value.slice a zs.length cap] 100)).alloc (Obj.cells #[Value.int IntKind.i64 0, Value.slice none 0 0] 75)).alloc (Obj.cells #[Value.int IntKind.i64 n, Value.slice none 0 0] 75))) :=
    (((Below.refl _ _).alloc (Nat.le_refl _) _).alloc (by simp) _).alloc (by simp; omega) _
  refine (toInts_any a cap zs _ (HA.out.below HB0.out) hlen).mono ?_
  rintro e w1 ⟨rfl, hb, hsz, hg⟩
  obtain ⟨hc, hf⟩ := bcell hb
  have HB1 : Hid _ := hb
  have HG : Hid _ := hg
  clear hb hg
  simp at hsz
  go_wp2
  refine bodyPost_ret (v := .agg #[.int .i64 n, .slice (some ⟨w.heap.size + 1 + 1 + 1, 0, none⟩) zs.length zs.length]) (by simp [results, Tryd.results57, go_sem, hc]) rfl ⟨w.heap.size + 1 + 1 + 1, by omega, rfl, ?_, ?_⟩
  · exact (((HB0.out.trans (HB1.out.mono (by simp; omega))).setCell (by simp; omega) _).setCell (by simp) _).setCell (by simp) _
  · rw [heap_setCell_other _ _ _ _ (by simp <;> omega), heap_setCell_other _ _ _ _ (by simp <;> omega), heap_setCell_other _ _ _ _ (by simp <;> omega)]
    simpa using HG.out

end Go.Proofs.YtacifgekflbjcaaDoor

namespace Go.Proofs.YtacifgekflbjcaaDoor
open Go.RowKit

set_option maxHeartbeats 400000 in
theorem eqInts_any (a b : Option Addr) (c1 c2 : Nat) (xs ys : List Int) (w : World) (hA : IntsAt w a xs) (hB : IntsAt w b ys) (hl1 : xs.length ≤ 1125899906842624) :
    Calls Tryd.prog 38 #[.slice a xs.length c1, .slice b ys.length c2] w fun e w' => e = .returned (.bool (decide (xs = ys))) ∧ Below w.heap.size w w' := by
  by_cases hl : xs.length = ys.length
  · have HA : Hid (IntsAt w a xs) := hA
    have HB : Hid (IntsAt w b ys) := hB
    have HL : Hid (xs.length = ys.length) := hl
    rw [hl] at hl1 ⊢
    clear hA hB hl
    go_enter Tryd.func38, Tryd.ntmps38
    go_wp2_with fail
    go_loopw [5] (fun t wr => ∃ k : Nat, k ≤ ys.length ∧ t = .int .i64 k ∧ Below w.heap.size w wr ∧ xs.take k = ys.take k) (fun t _ => ys.length - (intOf t).toNat)
    case atStart => exact ⟨0, Nat.zero_le _, rfl, Below.refl _ _, by simp⟩
    case round =>
      obtain ⟨k, hk, rfl, hb, he⟩ := hrel
      have HE : Hid (xs.take k = ys.take k) := he
      clear he
      by_cases hlt : k < ys.length
      · have hxk : k < xs.length := by rw [HL.out]; exact hlt
        obtain ⟨b1, o1, rfl, hc1⟩ := IntsAt.some (IntsAt.below HA.out hb) hxk
        obtain ⟨b2, o2, rfl, hc2⟩ := IntsAt.some (IntsAt.below HB.out hb) hlt
        have ct1 := hc1 k hxk
        have ct2 := hc2 k hlt
        clear hc1 hc2
        generalize ht1 : xs.getD k 0 = t1 at ct1
        generalize ht2 : ys.getD k 0 = t2 at ct2
        have H1 : Hid (xs.getD k 0 = t1) := ht1
        have H2 : Hid (ys.getD k 0 = t2) := ht2
        clear ht1 ht2
        by_cases ht : t1 = t2
        · have htb : (t1 != t2) = false := by simp [ht]
          have HT : Hid (t1 = t2) := ht
          clear ht
          go_wp2
          go_quiet (fail)
          go_wp2
          refine ⟨⟨k + 1, by omega, by go_num, below_drewN hb _, ?_⟩, by simp [intOf]; omega⟩
          rw [take_snoc xs k hxk, take_snoc ys k hlt, HE.out, H1.out, H2.out, HT.out]
        · have htb : (t1 != t2) = true := by simp [ht]
          have HN : Hid (decide (xs = ys) = false) := by
            apply decide_eq_false
            intro e
            exact ht (by rw [← H1.out, ← H2.out, e])
          clear ht
          go_wp2
          go_quiet (fail)
          go_wp2
          go_ret
          exact ⟨ret_bool HN.out.symm, below_drewN hb _⟩
      · have HN : Hid (decide (xs = ys) = true) := by
          apply decide_eq_true
          have h := HE.out
          rwa [List.take_of_length_le (by rw [HL.out]; omega), List.take_of_length_le (by omega)] at h
        go_wp2
        go_ret
        exact ⟨ret_bool HN.out.symm, hb⟩
  · have HN : Hid (decide (xs = ys) = false) := decide_eq_false fun e => hl (by rw [e])
    have hne : ((xs.length : Int) != (ys.length : Int)) = true := by rw [bne_iff_ne]; omega
    clear hA hB hl
    go_enter Tryd.func38, Tryd.ntmps38
    go_wp2
    go_ret
    exact ⟨ret_bool HN.out.symm, Below.refl _ _⟩

end Go.Proofs.YtacifgekflbjcaaDoor

namespace Go.Proofs.YtacifgekflbjcaaDoor
open Go.RowKit

set_option maxHeartbeats 400000 in
theorem eqRoute_same (n : Int) (a b : Option Addr) (c1 c2 : Nat) (xs : List Int) (w : World) (hA : IntsAt w a xs) (hB : IntsAt w b xs) (hl1 : xs.length ≤ 1125899906842624) :
    Calls Tryd.prog 61 #[.agg #[.int .i64 n, .slice a xs.length c1], .agg #[.int .i64 n, .slice b xs.length c2]] w fun e w' => e = .returned (.bool true) ∧ Below w.heap.size w w' := by
  have HB0 : Hid (Below w.heap.size w ((w.alloc (Obj.cells #[Value.int IntKind.i64 n, Value.slice a xs.length c1] 75)).alloc (Obj.cells #[Value.int IntKind.i64 n, Value.slice b xs.length c2] 75))) :=
    ((Below.refl _ _).alloc (Nat.le_refl _) _).alloc (by simp) _
  have HA : Hid (IntsAt w a xs) := hA
  have HB : Hid (IntsAt w b xs) := hB
  clear hA hB
  have hnn : (n != n) = false := by simp
  go_enter Tryd.func61, Tryd.ntmps61
  go_wp2_with fail
  refine (eqInts_any a b c1 c2 xs xs _ (HA.out.below HB0.out) (HB.out.below HB0.out) hl1).mono ?_
  rintro e w1 ⟨rfl, hb⟩
  have HB1 : Hid _ := hb
  clear hb
  have hd : decide (xs = xs) = true := by simp
  rw [hd]
  clear hd
  go_wp2
  go_ret
  exact ⟨rfl, HB0.out.trans (HB1.out.mono (by simp <;> omega))⟩

end Go.Proofs.YtacifgekflbjcaaDoor

namespace Go.Proofs.YtacifgekflbjcaaDoor
open Go.RowKit

set_option maxHeartbeats 400000 in
theorem l1In_any (n lo hi : Int) (w : World) :
    Calls Tryd.prog 40 #[.int .i64 n, .int .i64 lo, .int .i64 hi] w fun e w' => e = .returned (.bool (inB n lo hi)) ∧ w' = w := by
  by_cases h1 : lo ≤ n
  · by_cases h2 : n ≤ hi
    · have h3 : inB n lo hi = true := inB_mk ⟨h1, h2⟩
      rw [h3]
      go_enter Tryd.func40, Tryd.ntmps40
      go_wp2
      go_ret
      exact ⟨by simp, rfl⟩
    · have h3 : inB n lo hi = false := inB_not (by omega)
      rw [h3]
      go_enter Tryd.func40, Tryd.ntmps40
      go_wp2
      go_ret
      exact ⟨by simp, rfl⟩
  · have h3 : inB n lo hi = false := inB_not (by omega)
    rw [h3]
    go_enter Tryd.func40, Tryd.ntmps40
    go_wp2
    go_ret
    exact ⟨by simp, rfl⟩

end Go.Proofs.YtacifgekflbjcaaDoor

namespace Go.Proofs.YtacifgekflbjcaaDoor
open Go.RowKit

set_option maxHeartbeats 400000 in
theorem within_any (n lo hi : Int) (w : World) :
    Calls Tryd.prog 49 #[.int .i64 n, .int .i64 lo, .int .i64 hi] w fun e w' => e = .returned (.bool (inB n lo hi)) ∧ w' = w := by
  by_cases h1 : lo ≤ n
  · by_cases h2 : n ≤ hi
    · have h3 : inB n lo hi = true := inB_mk ⟨h1, h2⟩
      rw [h3]
      go_enter Tryd.func49, Tryd.ntmps49
      go_wp2
      go_ret
      exact ⟨by simp, rfl⟩
    · have h3 : inB n lo hi = false := inB_not (by omega)
      rw [h3]
      go_enter Tryd.func49, Tryd.ntmps49
      go_wp2
      go_ret
      exact ⟨by simp, rfl⟩
  · have h3 : inB n lo hi = false := inB_not (by omega)
    rw [h3]
    go_enter Tryd.func49, Tryd.ntmps49
    go_wp2
    go_ret
    exact ⟨by simp, rfl⟩

end Go.Proofs.YtacifgekflbjcaaDoor

namespace Go.Proofs.YtacifgekflbjcaaDoor
open Go.RowKit

theorem infoI64 : (Tryd.prog.info? 2).map (fun i => (i.zero, i.size, i.bytes)) = some (some (Value.int .i64 0), 1, 8) := by kernel_rfl

end Go.Proofs.YtacifgekflbjcaaDoor
