import Derived.Test.YtchdcifhccjheaaPack0
import Derived.Test.YtchdcifhccjheaaRows
import Derived.WalkKit
import Derived.WalkSpells
import Derived.WalkLawsBesides
import Derived.Deep.QuietTactic
import Derived.BigQuiet
import Derived.Deep.RegionWith
import Derived.Deep.RegionHeld3
import Derived.Deep.WholeRow
namespace Go.Proofs.Ytchdcifhccjheaa
end Go.Proofs.Ytchdcifhccjheaa

namespace Go.Proofs.Ytchdcifhccjheaa
open Go.RowKit

theorem cells2 {w : World} {k : Nat} {c0 c1 : Value} {T : TypeId} (r : w.heap[k]? = some (.cells #[c0, c1] T (0, 0))) :
    w.cell? ⟨k, 0, none⟩ = some c0 ∧ w.cell? ⟨k, 1, none⟩ = some c1 := by
  refine ⟨?_, ?_⟩
  · rw [cell_of_row _ _ 0 _ _ _ r]; simp
  · rw [cell_of_row _ _ 1 _ _ _ r]; simp

end Go.Proofs.Ytchdcifhccjheaa

namespace Go.Proofs.Ytchdcifhccjheaa
open Go.RowKit

theorem Try.info2 : (Try.prog.info? 2).map (fun i => (i.zero, i.size, i.bytes)) = some (some (.int .i64 0), 1, 8) := by kernel_rfl

theorem make_ints (W : World) (len : Nat) (hlen : len ≤ 1048576) :
    (Instr.makeSlice 24 (.int .i64 len) (.int .i64 len)).run Try.prog W = .ok (.slice (some ⟨W.heap.size, 0, none⟩) len len) (W.alloc (.cells (cellsOf (List.replicate len 0)) 2)) := by
  have h := Try.info2
  cases hq : Try.prog.info? 2 with
  | none => simp [hq] at h
  | some i =>
    simp [hq] at h
    obtain ⟨hz, hs, hb⟩ := h
    have := run_make (P := Try.prog) W 24 2 i (.int .i64 0) Try.underlying24 hq hz .i64 .i64 len len (by omega) (by omega) (by rw [hb]; omega) (by omega)
    rw [this, hs]
    simp only [Int.toNat_natCast, made_zero]

end Go.Proofs.Ytchdcifhccjheaa

namespace Go.Proofs.Ytchdcifhccjheaa
open Go.RowKit

set_option maxHeartbeats 400000 in
theorem l1In_any (n lo hi : Int) (w : World) :
    Calls Try.prog 29 #[.int .i64 n, .int .i64 lo, .int .i64 hi] w fun e w' => e = .returned (.bool (inB n lo hi)) ∧ w' = w := by
  by_cases h1 : lo ≤ n
  · by_cases h2 : n ≤ hi
    · have h3 : inB n lo hi = true := inB_mk ⟨h1, h2⟩
      rw [h3]
      go_enter Try.func29, Try.ntmps29
      go_wp2
      go_ret
      exact ⟨by simp, rfl⟩
    · have h3 : inB n lo hi = false := inB_not (by omega)
      rw [h3]
      go_enter Try.func29, Try.ntmps29
      go_wp2
      go_ret
      exact ⟨by simp, rfl⟩
  · have h3 : inB n lo hi = false := inB_not (by omega)
    rw [h3]
    go_enter Try.func29, Try.ntmps29
    go_wp2
    go_ret
    exact ⟨by simp, rfl⟩

end Go.Proofs.Ytchdcifhccjheaa

namespace Go.Proofs.Ytchdcifhccjheaa
open Go.RowKit

set_option maxHeartbeats 1000000 in
theorem specMat_loop (n : Nat) (a : Option Addr) (cap : Nat) (zs : List Int) (w : World) (h1 : 1 ≤ n) (h2 : n ≤ 16) (hl : zs.length = n * n) (hA : IntsAt w a zs) :
    Calls Try.prog 12 #[.agg #[.int .i64 n, .slice a zs.length cap]] w fun e w' => e = .returned (.bool (matB n zs)) ∧ Below w.heap.size w w' := by
  have hnn : n * n ≤ 256 := mul_bd n n h2 h2
  have hd1 : inB (n : Int) 1 16 = true := inB_mk (by omega)
  have hnw : wrap64 ((n : Int) * (n : Int)) = (n : Int) * (n : Int) := IntWalk.wrap64_in _ (by rw [← Int.natCast_mul]; omega)
  have hn0 : ¬ n = 0 := by omega
  have HA : Hid (IntsAt w a zs) := hA
  clear hA
  rw [hl]
  have HL : Hid (zs.length = n * n) := hl
  clear hl
  go_enter Try.func12, Try.ntmps12
  go_wp2_with (go_at_call 29; refine (l1In_any _ _ _ _).mono ?_; rintro e w' ⟨rfl, rfl⟩)
  go_loopw [3] (fun t wr => ∃ k : Nat, k ≤ n * n ∧ t = .int .i64 k ∧ Below w.heap.size w wr ∧ wr.heap[w.heap.size]? = some (.cells #[.int .i64 n, .slice a (n * n) cap] 26 (0, 0)) ∧ (∀ i, i < k → 0 ≤ zs.getD i 0 ∧ zs.getD i 0 ≤ 10000 ∧ (i / n = i % n → zs.getD i 0 = 0))) (fun t _ => n * n - (intOf t).toNat)
  case atStart => exact ⟨0, Nat.zero_le _, rfl, (Below.refl _ _).alloc (Nat.le_refl _) _, heap_alloc_new _ _, fun i hi => by omega⟩
  case round =>
    obtain ⟨k, hk, rfl, hb, g3, hok⟩ := hrel
    have c0 := cell_of_row _ _ 0 _ _ _ g3
    have c1 := cell_of_row _ _ 1 _ _ _ g3
    simp at c0 c1
    have HO : Hid (∀ i, i < k → 0 ≤ zs.getD i 0 ∧ zs.getD i 0 ≤ 10000 ∧ (i / n = i % n → zs.getD i 0 = 0)) := hok
    have G3 : Hid _ := g3
    have HB : Hid _ := hb
    clear hok
    by_cases hlt : k < n * n
    · obtain ⟨bb, off, rfl, hcs⟩ := IntsAt.some (IntsAt.below HA.out hb) (j := k) (by rw [HL.out]; exact hlt)
      have ct := hcs k (by rw [HL.out]; exact hlt)
      clear hcs
      generalize htt : zs.getD k 0 = t at ct
      have HT : Hid (zs.getD k 0 = t) := htt
      clear htt g3 hb
      have hw1 : IntKind.i64.wrap ((k : Int) / (n : Int)) = (k : Int) / (n : Int) := by
        rw [IntKind.wrap_i64, ← Int.natCast_ediv]
        have hq := Nat.div_le_self k n
        generalize k / n = q at hq
        omega
      have hw2 : (k : Int).tmod (n : Int) = (k : Int) % (n : Int) := Int.tmod_eq_emod_of_nonneg (by omega)
      have hlt' : (k : Int) < (n : Int) * (n : Int) := by rw [← Int.natCast_mul]; omega
      by_cases hv : 0 ≤ t ∧ t ≤ 10000
      · have hvd : inB t 0 10000 = true := inB_mk hv
        by_cases hq : k / n = k % n
        · have hqb : ((k : Int) / (n : Int) == (k : Int) % (n : Int)) = true := by simp; omega
          by_cases ht0 : t = 0
          · have htb : (t != 0) = false := by simp [ht0]
            have HS : Hid (∀ i, i < k + 1 → 0 ≤ zs.getD i 0 ∧ zs.getD i 0 ≤ 10000 ∧ (i / n = i % n → zs.getD i 0 = 0)) := by
              intro i hi
              by_cases e : i = k
              · rw [e, HT.out]; exact ⟨hv.1, hv.2, fun _ => ht0⟩
              · exact HO.out i (by omega)
            clear HO hq ht0
            go_wp2
            go_quiet ((go_at_call 29; exact Calls.quiet_of_same (l1In_any _ _ _ _)))
            go_wp2
            refine ⟨⟨k + 1, by omega, by go_num, below_drewN HB.out _, G3.out, HS.out⟩, by simp [intOf]; omega⟩
          · have htb : (t != 0) = true := by simp [ht0]
            have HN : Hid (matB n zs = false) := matB_at n zs HL.out k hlt (by rw [HT.out]; exact fun h => ht0 (h.2.2 hq))
            clear HO hq ht0
            go_wp2
            go_quiet ((go_at_call 29; exact Calls.quiet_of_same (l1In_any _ _ _ _)))
            go_wp2
            go_ret
            exact ⟨ret_bool HN.out.symm, below_drewN HB.out _⟩
        · have hqb : ((k : Int) / (n : Int) == (k : Int) % (n : Int)) = false := by simp; omega
          have HS : Hid (∀ i, i < k + 1 → 0 ≤ zs.getD i 0 ∧ zs.getD i 0 ≤ 10000 ∧ (i / n = i % n → zs.getD i 0 = 0)) := by
            intro i hi
            by_cases e : i = k
            · rw [e, HT.out]; exact ⟨hv.1, hv.2, fun h => absurd h hq⟩
            · exact HO.out i (by omega)
          clear HO hq
          go_wp2
          go_quiet ((go_at_call 29; exact Calls.quiet_of_same (l1In_any _ _ _ _)))
          go_wp2
          refine ⟨⟨k + 1, by omega, by go_num, below_drewN HB.out _, G3.out, HS.out⟩, by simp [intOf]; omega⟩
      · have hvd : inB t 0 10000 = false := inB_not hv
        have HN : Hid (matB n zs = false) := matB_at n zs HL.out k hlt (by rw [HT.out]; exact fun h => hv ⟨h.1, h.2.1⟩)
        clear HO hv
        go_wp2
        go_quiet ((go_at_call 29; exact Calls.quiet_of_same (l1In_any _ _ _ _)))
        go_wp2
        go_ret
        exact ⟨ret_bool HN.out.symm, below_drewN HB.out _⟩
    · have hge' : (n : Int) * (n : Int) ≤ (k : Int) := by rw [← Int.natCast_mul]; omega
      have HN : Hid (matB n zs = true) := matB_all n zs h1 h2 HL.out (fun i hi => HO.out i (by omega))
      clear HO g3
      go_wp2
      go_ret
      exact ⟨ret_bool HN.out.symm, HB.out⟩

set_option maxHeartbeats 1000000 in
theorem specMat_no (n : Int) (a : Option Addr) (len cap : Nat) (w : World) (h : ¬ (1 ≤ n ∧ n ≤ 16 ∧ (len : Int) = n * n)) :
    Calls Try.prog 12 #[.agg #[.int .i64 n, .slice a len cap]] w fun e w' => e = .returned (.bool false) ∧ Below w.heap.size w w' := by
  by_cases hn : 1 ≤ n ∧ n ≤ 16
  · obtain ⟨m, rfl⟩ := Int.eq_ofNat_of_zero_le (show 0 ≤ n by omega)
    have hnn : m * m ≤ 256 := mul_bd m m (by omega) (by omega)
    have hd1 : inB (m : Int) 1 16 = true := inB_mk hn
    have hnw : wrap64 ((m : Int) * (m : Int)) = (m : Int) * (m : Int) := IntWalk.wrap64_in _ (by rw [← Int.natCast_mul]; omega)
    have hne : ((len : Int) != (m : Int) * (m : Int)) = true := by
      rw [bne_iff_ne]; exact fun e => h ⟨hn.1, hn.2, e⟩
    clear h
    go_enter Try.func12, Try.ntmps12
    go_wp2_with (go_at_call 29; refine (l1In_any _ _ _ _).mono ?_; rintro e w' ⟨rfl, rfl⟩)
    go_ret
    exact ⟨rfl, (Below.refl _ _).alloc (Nat.le_refl _) _⟩
  · have hd1 : inB n 1 16 = false := inB_not hn
    clear h hn
    go_enter Try.func12, Try.ntmps12
    go_wp2_with (go_at_call 29; refine (l1In_any _ _ _ _).mono ?_; rintro e w' ⟨rfl, rfl⟩)
    go_ret
    exact ⟨rfl, (Below.refl _ _).alloc (Nat.le_refl _) _⟩

theorem specMat_any (n : Int) (a : Option Addr) (cap : Nat) (zs : List Int) (w : World) (hA : IntsAt w a zs) :
    Calls Try.prog 12 #[.agg #[.int .i64 n, .slice a zs.length cap]] w fun e w' => e = .returned (.bool (matB n zs)) ∧ Below w.heap.size w w' := by
  by_cases h : 1 ≤ n ∧ n ≤ 16 ∧ (zs.length : Int) = n * n
  · obtain ⟨m, rfl⟩ := Int.eq_ofNat_of_zero_le (show 0 ≤ n by omega)
    exact specMat_loop m a cap zs w (by omega) (by omega) (by have := h.2.2; rw [← Int.natCast_mul] at this; omega) hA
  · have hm : matB n zs = false := matB_not fun k => h ⟨k.1, k.2.1, k.2.2.1⟩
    rw [hm]
    exact specMat_no n a _ cap w h

end Go.Proofs.Ytchdcifhccjheaa

namespace Go.Proofs.Ytchdcifhccjheaa
open Go.RowKit

set_option maxHeartbeats 400000 in
theorem l1Time_any (n x y : Nat) (a : Option Addr) (len cap : Nat) (zs : List Int) (w : World) (hn : n ≤ 16) (hx : x < n) (hy : y < n) (hl : zs.length = n * n) (hlen : len = n * n) (hA : IntsAt w a zs) :
    Calls Try.prog 28 #[.agg #[.int .i64 n, .slice a len cap], .int .i64 x, .int .i64 y] w fun e w' => e = .returned (.int .i64 (zs.getD (x * n + y) 0)) ∧ Below w.heap.size w w' := by
  subst hlen
  have hnn : n * n ≤ 256 := mul_bd n n hn hn
  have hxy : x * n + y < n * n := by
    have := Nat.mul_le_mul_right n (show x + 1 ≤ n by omega)
    rw [Nat.add_mul] at this
    omega
  obtain ⟨bb, off, rfl, hcs⟩ := hA.some (j := x * n + y) (by omega)
  have ct := hcs (x * n + y) (by omega)
  have hlt := block_lt_of_cell ct
  clear hcs hA
  generalize zs.getD (x * n + y) 0 = t at ct
  have hwm : wrap64 ((x : Int) * (n : Int)) = (x : Int) * (n : Int) := IntWalk.wrap64_in _ (by rw [← Int.natCast_mul]; omega)
  simp at hlt
  clear hl
  go_enter Try.func28, Try.ntmps28
  go_wp2
  go_ret
  exact ⟨rfl, (Below.refl _ _).alloc (Nat.le_refl _) _⟩

theorem l1Time_tm (n x y : Nat) (a : Option Addr) (cap : Nat) (zs : List Int) (w : World) (hn : n ≤ 16) (hx : x < n) (hy : y < n) (hl : zs.length = n * n) (hA : IntsAt w a zs) :
    Calls Try.prog 28 #[.agg #[.int .i64 n, .slice a zs.length cap], .int .i64 x, .int .i64 y] w fun e w' => e = .returned (.int .i64 (tm n zs x y)) ∧ Below w.heap.size w w' :=
  l1Time_any n x y a zs.length cap zs w hn hx hy hl hl hA

end Go.Proofs.Ytchdcifhccjheaa

namespace Go.Proofs.Ytchdcifhccjheaa
open Go.RowKit

/-- The worlds in which all that was there is as it was. -/
def Kin (wr : World) : Type := { x : World // Below wr.heap.size wr x }
/-- One of them, as a world. -/
def Kin.w {wr : World} (s : Kin wr) : World := s.1
theorem Kin.there (wr : World) : Nonempty (Kin wr) := ⟨⟨wr, Below.refl _ _⟩⟩
theorem Kin.below {wr : World} (s : Kin wr) : Below wr.heap.size wr s.w := s.2
theorem Kin.cell {wr : World} (s : Kin wr) {b o : Nat} {v : Value} (h : wr.cell? ⟨b, o, none⟩ = some v) : s.w.cell? ⟨b, o, none⟩ = some v := by
  rw [s.below.cell (p := ⟨b, o, none⟩) (block_lt_of_cell h)]; exact h

/-- A region that draws its order, whose operations read and whose callees leave what was there: one walk, in the text's order. -/
theorem wp_region_kin {P : Program} {id : Nat} {Q : Exit → Act → World → Prop} {a : Act} {w : World} {l : List Oper} (hm : P.follows .mixedOrders = true) (hB : Region.lexB .any l.toArray = true)
    (h : wpQuiet P l.toArray (fun w' => ∃ s : Kin w, w' = s.w) (fun a' => ∀ w', (∃ s : Kin w, w' = s.w) → Q .normal a' w') l a) : (Code.region id l.toArray true).wp P Q a w :=
  wp_region_quiet (C := fun w' => ∃ s : Kin w, w' = s.w) hm hB ⟨⟨_, (Below.refl _ _).drew⟩, rfl⟩ (by simpa using h)

theorem Kin.call {P : Program} {f : FuncId} {args : Array Value} {wr : World} {s : Kin wr} {v : Value}
    (h : Calls P f args s.w fun e w' => e = .returned v ∧ Below s.w.heap.size s.w w') : Calls P f args s.w fun e w'' => e = .returned v ∧ ∃ s' : Kin wr, w'' = s'.w :=
  h.mono fun _ w' ⟨he, hb⟩ => ⟨he, ⟨w', s.below.trans (hb.mono s.below.size)⟩, rfl⟩
theorem Kin.call_same {P : Program} {f : FuncId} {args : Array Value} {wr : World} {s : Kin wr} {v : Value}
    (h : Calls P f args s.w fun e w' => e = .returned v ∧ w' = s.w) : Calls P f args s.w fun e w'' => e = .returned v ∧ ∃ s' : Kin wr, w'' = s'.w :=
  h.mono fun _ _ ⟨he, hb⟩ => ⟨he, s, hb⟩

end Go.Proofs.Ytchdcifhccjheaa

namespace Go.Proofs.Ytchdcifhccjheaa
open Go.RowKit

theorem next_round {n y : Nat} (hy : y < n) (P : Nat → Prop) (h : P (y + 1)) :
    (∃ k, k ≤ n ∧ Value.int IntKind.i64 ((y : Int) + 1) = Value.int IntKind.i64 (k : Int) ∧ P k) ∧ n - (intOf (Value.int IntKind.i64 ((y : Int) + 1))).toNat < n - (intOf (Value.int IntKind.i64 (y : Int))).toNat := by
  have e : ((y : Int) + 1) = ((y + 1 : Nat) : Int) := by simp
  rw [e]
  refine ⟨⟨y + 1, hy, rfl, h⟩, ?_⟩
  simp [intOf]
  omega

end Go.Proofs.Ytchdcifhccjheaa

namespace Go.Proofs.Ytchdcifhccjheaa
open Go.RowKit

set_option maxHeartbeats 400000 in
theorem within_any (n lo hi : Int) (w : World) :
    Calls Try.prog 38 #[.int .i64 n, .int .i64 lo, .int .i64 hi] w fun e w' => e = .returned (.bool (inB n lo hi)) ∧ w' = w := by
  by_cases h1 : lo ≤ n
  · by_cases h2 : n ≤ hi
    · have h3 : inB n lo hi = true := inB_mk ⟨h1, h2⟩
      rw [h3]
      go_enter Try.func38, Try.ntmps38
      go_wp2
      go_ret
      exact ⟨by simp, rfl⟩
    · have h3 : inB n lo hi = false := inB_not (by omega)
      rw [h3]
      go_enter Try.func38, Try.ntmps38
      go_wp2
      go_ret
      exact ⟨by simp, rfl⟩
  · have h3 : inB n lo hi = false := inB_not (by omega)
    rw [h3]
    go_enter Try.func38, Try.ntmps38
    go_wp2
    go_ret
    exact ⟨by simp, rfl⟩

end Go.Proofs.Ytchdcifhccjheaa

namespace Go.Proofs.Ytchdcifhccjheaa
open Go.RowKit

theorem Try.info41 : (Try.prog.info? 48).map (fun i => (i.zero, i.size)) = some (some (.agg (cellsOf zeros)), 256) := by kernel_rfl

/-- The world inside gridOf: the boxed matrix, the result's cells, the grid's. -/
def GW (w wr : World) (n : Nat) (a : Option Addr) (cap : Nat) (z0 : Array Value) (gl : List Int) : Prop :=
  wr.heap.size = w.heap.size + 3 ∧ Below w.heap.size w wr ∧ wr.heap[w.heap.size]? = some (.cells #[.int .i64 n, .slice a (n * n) cap] 26 (0, 0)) ∧
  wr.heap[w.heap.size + 1]? = some (.cells z0 48 (0, 0)) ∧ wr.heap[w.heap.size + 1 + 1]? = some (.cells (cellsOf gl) 48 (0, 0))

theorem GW.step {w wr : World} {n : Nat} {a : Option Addr} {cap : Nat} {z0 : Array Value} {zs : List Int} {x y : Nat} {t : Int} (h : GW w wr n a cap z0 (gridTo n zs x y)) (hx : x < n) (hy : y < n) (hn : n ≤ 16) (ht : zs.getD (x * n + y) 0 = t) :
    GW w (wr.setCell ⟨w.heap.size + 1 + 1, x * 16 + y, none⟩ (.int .i64 t)) n a cap z0 (gridTo n zs x (y + 1)) := by
  obtain ⟨g1, g2, g3, g4, g5⟩ := h
  refine ⟨by simpa [World.setCell] using g1, g2.setCell (by simp; omega) _, ?_, ?_, ?_⟩
  · rw [heap_setCell_other _ _ _ _ (by simp; omega)]; exact g3
  · rw [heap_setCell_other _ _ _ _ (by simp)]; exact g4
  · rw [heap_setCell_same _ _ _ _ _ _ g5, cellsOf_set, ← ht, gridTo_step n zs x y hx hy hn]

theorem size41 : (Try.prog.info? 48).map (·.size) = some 256 := (zero_of_info Try.info41).2

theorem size41_of {l : List Int} (h : l.length = 256) : (Try.prog.info? 48).map (·.size) = some (cellsOf l).size := by
  rw [cellsOf_size, h]; exact size41

theorem ret_grid (tmps : Array Value) (W : World) (g : Nat) (l : List Int) (b : Bool) (hl : l.length = 256)
    (hp : tmps.getD 2 undef = .pointer (some ⟨g, 0, none⟩)) (hb : tmps.getD 3 undef = .bool b) (hg : W.heap[g]? = some (.cells (cellsOf l) 48 (0, 0))) :
    (results Try.f26 tmps).run Try.prog W = .ok (.tuple #[.agg (cellsOf l), .bool b]) W := by
  rw [results_cell_tmp Try.results26, hp, hb]
  simp only [asAddr, Sem.run_pure, Result.andThen_ok, run_loadVar_row W g 48 48 (cellsOf l) (0, 0) _ hg Try.underlying48 rfl (size41_of hl)]

set_option maxHeartbeats 1000000 in
theorem grid_loop (n : Nat) (a : Option Addr) (cap : Nat) (zs : List Int) (w : World) (h1 : 1 ≤ n) (h2 : n ≤ 16) (hl : zs.length = n * n) (hA : IntsAt w a zs) :
    Calls Try.prog 26 #[.agg #[.int .i64 n, .slice a zs.length cap]] w fun e w' => e = .returned (.tuple #[.agg (cellsOf (gridRes n zs)), .bool (matB n zs)]) ∧ Below w.heap.size w w' := by
    have hz := (zero_of_info Try.info41).1
    generalize hz0 : cellsOf zeros = z0 at hz
    have HZ : Hid (cellsOf zeros = z0) := hz0
    clear hz0
    have hnn : n * n ≤ 256 := mul_bd n n h2 h2
    have hd1 : inB (n : Int) 1 16 = true := inB_mk (by omega)
    have hnw : wrap64 ((n : Int) * (n : Int)) = (n : Int) * (n : Int) := IntWalk.wrap64_in _ (by rw [← Int.natCast_mul]; omega)
    have HA : Hid (IntsAt w a zs) := hA
    clear hA
    rw [hl]
    have HL : Hid (zs.length = n * n) := hl
    clear hl
    go_enter Try.func26, Try.ntmps26
    go_wp2_with (go_at_call 38; refine (within_any _ _ _ _).mono ?_; rintro e w' ⟨rfl, rfl⟩)
    go_loopw [26] (fun t wr => ∃ x : Nat, x ≤ n ∧ t = .int .i64 x ∧ GW w wr n a cap z0 (gridTo n zs x 0) ∧ okTo n zs x 0) (fun t _ => n - (intOf t).toNat)
    case atStart =>
      refine ⟨0, Nat.zero_le _, rfl, ⟨by simp, ?_, ?_, ?_, ?_⟩, okTo_zero _ _⟩
      · exact (((Below.refl _ _).alloc (Nat.le_refl _) _).alloc (by simp) _).alloc (by simp; omega) _
      · rw [heap_alloc_old _ _ (by simp; omega), heap_alloc_old _ _ (by simp)]
        exact heap_alloc_new _ _
      · rw [heap_alloc_old _ _ (by simp)]
        exact heap_alloc2_new _ _ _
      · rw [gridTo_zero, HZ.out]
        have := heap_alloc_new ((w.alloc (Obj.cells #[Value.int IntKind.i64 n, Value.slice a (n * n) cap] 26)).alloc (Obj.cells z0 48)) (Obj.cells z0 48)
        simpa using this
    case round =>
      obtain ⟨x, hx, rfl, hG, hok⟩ := hrel
      obtain ⟨g1, g2, g3, g4, g5⟩ := hG
      have c0 := cell_of_row _ _ 0 _ _ _ g3
      have c1 := cell_of_row _ _ 1 _ _ _ g3
      simp at c0 c1
      by_cases hlt : x < n
      · have G4 : Hid _ := g4
        have G5 : Hid _ := g5
        have HO : Hid _ := hok
        clear g4 g5 hok
        go_wp2_with fail
        go_loopw [31] (fun t wr => ∃ y : Nat, y ≤ n ∧ t = .int .i64 y ∧ GW w wr n a cap z0 (gridTo n zs x y) ∧ okTo n zs x y) (fun t _ => n - (intOf t).toNat)
        case atStart => exact ⟨0, Nat.zero_le _, rfl, ⟨g1, g2, g3, G4.out, G5.out⟩, HO.out⟩
        case round =>
          clear g1 g2 g3 c0 c1 G4 G5 HO
          obtain ⟨y, hy, rfl, hG, hok⟩ := hrel
          have HG : Hid (GW w wr n a cap z0 (gridTo n zs x y)) := hG
          obtain ⟨g1, g2, g3, g4, g5⟩ := hG
          have c0 := cell_of_row _ _ 0 _ _ _ g3
          have c1 := cell_of_row _ _ 1 _ _ _ g3
          simp at c0 c1
          by_cases hylt : y < n
          · have hxy : x * n + y < n * n := by
              have := Nat.mul_le_mul_right n (show x + 1 ≤ n by omega)
              rw [Nat.add_mul] at this
              omega
            obtain ⟨bb, off, rfl, hcs⟩ := IntsAt.some (IntsAt.below HA.out g2) (j := x * n + y) (by rw [HL.out]; exact hxy)
            have ct := hcs (x * n + y) (by rw [HL.out]; exact hxy)
            clear hcs
            generalize htt : zs.getD (x * n + y) 0 = t at ct
            have HT : Hid (zs.getD (x * n + y) 0 = t) := htt
            clear htt
            have cg := cell_of_row _ _ (x * 16 + y) _ _ _ g5
            rw [cellsOf_get _ _ (by rw [gridTo_length]; omega)] at cg
            have fg := frozen_of_row _ _ (x * 16 + y) _ _ g5
            have HO : Hid (okTo n zs x y) := hok
            clear hok
            have hwm : wrap64 ((x : Int) * (n : Int)) = (x : Int) * (n : Int) := IntWalk.wrap64_in _ (by rw [← Int.natCast_mul]; omega)
            by_cases hgood : 0 ≤ t ∧ t ≤ 10000 ∧ (x = y → t = 0)
            · have hvd : inB t 0 10000 = true := inB_mk (by omega)
              have HS : Hid (okTo n zs x (y + 1)) := okTo_step HO.out (by rw [HT.out]; exact hgood.1) (by rw [HT.out]; exact hgood.2.1) (by rw [HT.out]; exact hgood.2.2)
              clear HO g3 g4 g5 g2 g1
              by_cases hxe : x = y
              · have hne : ((x : Int) == (y : Int)) = true := by simp; omega
                have hne' : ((y : Int) == (y : Int)) = true := by simp
                have ht0 : (t != 0) = false := by simp [hgood.2.2 hxe]
                have HXE : Hid (x = y) := hxe
                clear hgood hxe
                go_wp2_with (first
                  | (go_at_call 38; refine (within_any _ _ _ _).mono ?_; rintro e w' ⟨rfl, rfl⟩))
                refine ⟨⟨y + 1, by omega, by go_num, HG.out.step hlt hylt h2 HT.out, HS.out⟩, by simp [intOf]; omega⟩
              · have hne : ((x : Int) == (y : Int)) = false := by simp; omega
                clear hgood hxe
                go_wp2_with (first
                  | (go_at_call 38; refine (within_any _ _ _ _).mono ?_; rintro e w' ⟨rfl, rfl⟩))
                refine ⟨⟨y + 1, by omega, by go_num, HG.out.step hlt hylt h2 HT.out, HS.out⟩, by simp [intOf]; omega⟩
            · have HB : Hid (matB n zs = false) := matB_bad n zs x y hlt hylt HL.out (by rw [HT.out]; exact hgood)
              have hzz : ∀ (wr : World), wr.heap[w.heap.size + 1]? = some (.cells z0 48 (0, 0)) → True := fun _ _ => trivial
              clear HO g3 g5 g1 hzz
              by_cases hv : 0 ≤ t ∧ t ≤ 10000
              · have hvd : inB t 0 10000 = true := inB_mk (by omega)
                have hxe : x = y := by omega
                have hne : ((x : Int) == (y : Int)) = true := by simp; omega
                have ht0 : (t != 0) = true := by simp; omega
                clear hgood hxe hv
                go_wp2_with (first
                  | (go_at_call 38; refine (within_any _ _ _ _).mono ?_; rintro e w' ⟨rfl, rfl⟩)
                  | (refine wpList_store_row rfl 48 (.tmp 2) (.tmp 56) rfl (w.heap.size + 1) z0 rfl rfl 48 z0 g4 (by rw [← HZ.out]; exact size41_of zeros_length) rfl (by rw [← HZ.out]; exact cellsOf_one _) ?_))
                refine bodyPost_ret (v := .tuple #[.agg (cellsOf zeros), .bool false]) (ret_grid _ _ (w.heap.size + 1) zeros false zeros_length rfl rfl ?_) rfl ⟨?_, ?_⟩
                · rw [HZ.out]; exact setRow_heap _ _ _ _ _ _ g4
                · exact ret_grid_eq (by rw [gridRes_false HB.out]) HB.out.symm
                · exact below_setRow g2 (by omega) _
              · have hvd : inB t 0 10000 = false := inB_not hv
                clear hgood hv
                go_wp2_with (first
                  | (go_at_call 38; refine (within_any _ _ _ _).mono ?_; rintro e w' ⟨rfl, rfl⟩)
                  | (refine wpList_store_row rfl 48 (.tmp 2) (.tmp 56) rfl (w.heap.size + 1) z0 rfl rfl 48 z0 g4 (by rw [← HZ.out]; exact size41_of zeros_length) rfl (by rw [← HZ.out]; exact cellsOf_one _) ?_))
                refine bodyPost_ret (v := .tuple #[.agg (cellsOf zeros), .bool false]) (ret_grid _ _ (w.heap.size + 1) zeros false zeros_length rfl rfl ?_) rfl ⟨?_, ?_⟩
                · rw [HZ.out]; exact setRow_heap _ _ _ _ _ _ g4
                · exact ret_grid_eq (by rw [gridRes_false HB.out]) HB.out.symm
                · exact below_setRow g2 (by omega) _
          · have hye : y = n := by omega
            have HO : Hid (okTo n zs (x + 1) 0) := okTo_row (hye ▸ hok)
            have HG' : Hid (GW w wr n a cap z0 (gridTo n zs (x + 1) 0)) := by
              have := HG.out
              rw [hye, gridTo_row] at this
              exact this
            clear hok hye HG g3 g4 g5
            go_wp2_with fail
            refine ⟨⟨x + 1, by omega, by go_num, HG'.out, HO.out⟩, by simp [intOf]; omega⟩
      · have hge : n ≤ x := by omega
        have Hxn : Hid (x = n) := by show x = n; omega
        go_wp2_with (first
          | (refine wpList_load_row rfl 48 (.tmp 4) rfl (w.heap.size + 1 + 1) rfl 48 (cellsOf (gridTo n zs x 0)) (0, 0) _ g5 Try.underlying48 rfl (size41_of (gridTo_length _ _ _ _)) ?_)
          | (refine wpList_store_row rfl 48 (.tmp 2) (.tmp 64) rfl (w.heap.size + 1) (cellsOf (gridTo n zs x 0)) rfl rfl 48 z0 g4 (size41_of (gridTo_length _ _ _ _)) (by rw [← HZ.out, cellsOf_size, cellsOf_size, zeros_length, gridTo_length]) (cellsOf_one _) ?_))
        refine bodyPost_ret (v := .tuple #[.agg (cellsOf (gridTo n zs x 0)), .bool true]) (ret_grid _ _ (w.heap.size + 1) (gridTo n zs x 0) true (gridTo_length _ _ _ _) rfl rfl ?_) rfl ⟨?_, ?_⟩
        · exact setRow_heap _ _ _ _ _ _ g4
        · have e := Hxn.out
          have hm := matB_of_okTo n zs h1 h2 HL.out (e ▸ hok)
          exact ret_grid_eq (by rw [gridRes_true hm, e]) hm.symm
        · exact below_setRow g2 (by omega) _

set_option maxHeartbeats 1000000 in
theorem grid_out (n : Int) (a : Option Addr) (len cap : Nat) (w : World) (hn : ¬ (1 ≤ n ∧ n ≤ 16)) :
    Calls Try.prog 26 #[.agg #[.int .i64 n, .slice a len cap]] w fun e w' => e = .returned (.tuple #[.agg (cellsOf zeros), .bool false]) ∧ Below w.heap.size w w' := by
  have hz := (zero_of_info Try.info41).1
  generalize hz0 : cellsOf zeros = z0 at hz
  have HZ : Hid (cellsOf zeros = z0) := hz0
  clear hz0
  have hd1 : inB n 1 16 = false := inB_not hn
  clear hn
  go_enter Try.func26, Try.ntmps26
  go_wp2_with fail
  refine (within_any _ _ _ _).mono ?_; rintro e w' ⟨rfl, rfl⟩
  have HG4 : Hid (((((w.alloc (Obj.cells #[Value.int IntKind.i64 n, Value.slice a len cap] 26)).alloc (Obj.cells z0 48)).alloc (Obj.cells z0 48)).heap)[w.heap.size + 1]? = some (.cells z0 48 (0, 0))) := by
    show _ = _
    rw [heap_alloc_old _ _ (by simp)]
    exact heap_alloc2_new _ _ _
  go_wp2_with (
    with_reducible refine wpList_store_row ?_ 48 (.tmp 2) (.tmp 23) ?_ (w.heap.size + 1) z0 ?_ ?_ 48 z0 ?_ ?_ ?_ ?_ ?_
    · rfl
    · rfl
    · rfl
    · rfl
    · exact HG4.out
    · rw [← HZ.out]; exact size41_of zeros_length
    · rfl
    · rw [← HZ.out]; exact cellsOf_one _)
  refine bodyPost_ret (v := .tuple #[.agg (cellsOf zeros), .bool false]) (ret_grid _ _ (w.heap.size + 1) zeros false zeros_length rfl rfl ?_) rfl ⟨by rw [HZ.out], ?_⟩
  · rw [HZ.out]; exact setRow_heap _ _ _ _ _ _ HG4.out
  · exact below_setRow ((((Below.refl _ _).alloc (Nat.le_refl _) _).alloc (by simp) _).alloc (by simp; omega) _) (by omega) _

set_option maxHeartbeats 1000000 in
theorem grid_len (n : Nat) (a : Option Addr) (len cap : Nat) (w : World) (h1 : 1 ≤ n) (h2 : n ≤ 16) (hl : len ≠ n * n) :
    Calls Try.prog 26 #[.agg #[.int .i64 n, .slice a len cap]] w fun e w' => e = .returned (.tuple #[.agg (cellsOf zeros), .bool false]) ∧ Below w.heap.size w w' := by
  have hz := (zero_of_info Try.info41).1
  generalize hz0 : cellsOf zeros = z0 at hz
  have HZ : Hid (cellsOf zeros = z0) := hz0
  clear hz0
  have hnn : n * n ≤ 256 := mul_bd n n h2 h2
  have hd1 : inB (n : Int) 1 16 = true := inB_mk (by omega)
  have hnw : wrap64 ((n : Int) * (n : Int)) = (n : Int) * (n : Int) := IntWalk.wrap64_in _ (by rw [← Int.natCast_mul]; omega)
  have hne : ((len : Int) != (n : Int) * (n : Int)) = true := by rw [bne_iff_ne, ← Int.natCast_mul]; omega
  have G4 : ((((w.alloc (Obj.cells #[Value.int IntKind.i64 n, .slice a len cap] 26)).alloc (Obj.cells z0 48)).alloc (Obj.cells z0 48)).heap)[w.heap.size + 1]? = some (.cells z0 48 (0, 0)) := by
    rw [heap_alloc_old _ _ (by simp)]
    exact heap_alloc2_new _ _ _
  have HG4 : Hid _ := G4
  clear G4 hl
  go_enter Try.func26, Try.ntmps26
  go_wp2_with (first
    | (go_at_call 38; refine (within_any _ _ _ _).mono ?_; rintro e w' ⟨rfl, rfl⟩)
    | (refine wpList_store_row rfl 48 (.tmp 2) (.tmp 23) rfl (w.heap.size + 1) z0 rfl rfl 48 z0 HG4.out (by rw [← HZ.out]; exact size41_of zeros_length) rfl (by rw [← HZ.out]; exact cellsOf_one _) ?_))
  refine bodyPost_ret (v := .tuple #[.agg (cellsOf zeros), .bool false]) (ret_grid _ _ (w.heap.size + 1) zeros false zeros_length rfl rfl ?_) rfl ⟨by rw [HZ.out], ?_⟩
  · rw [HZ.out]; exact setRow_heap _ _ _ _ _ _ HG4.out
  · exact below_setRow ((((Below.refl _ _).alloc (Nat.le_refl _) _).alloc (by simp) _).alloc (by simp; omega) _) (by omega) _

theorem grid_any (n : Int) (a : Option Addr) (cap : Nat) (zs : List Int) (w : World) (hA : IntsAt w a zs) :
    Calls Try.prog 26 #[.agg #[.int .i64 n, .slice a zs.length cap]] w fun e w' => e = .returned (.tuple #[.agg (cellsOf (gridRes n zs)), .bool (matB n zs)]) ∧ Below w.heap.size w w' := by
  by_cases hn : 1 ≤ n ∧ n ≤ 16
  · obtain ⟨m, rfl⟩ := Int.eq_ofNat_of_zero_le (show 0 ≤ n by omega)
    by_cases hl : zs.length = m * m
    · exact grid_loop m a cap zs w (by omega) (by omega) hl hA
    · have hm : matB (m : Int) zs = false := matB_not fun h => hl (by have := h.2.2.1; rw [← Int.natCast_mul] at this; omega)
      rw [gridRes_false hm, hm]
      exact grid_len m a zs.length cap w (by omega) (by omega) hl
  · have hm : matB n zs = false := matB_not fun h => hn ⟨h.1, h.2.1⟩
    rw [gridRes_false hm, hm]
    exact grid_out n _ _ _ w hn

end Go.Proofs.Ytchdcifhccjheaa

namespace Go.Proofs.Ytchdcifhccjheaa
open Go.RowKit

/-- The world behind 'g, ok := gridOf(m)': the boxed matrix, and the grid in a block of its own. -/
theorem grid_world {w w1 : World} {c0 c1 : Value} {T : TypeId} (gr : Array Value) (b1 : Below w.heap.size w w1) (r1 : w1.heap[w.heap.size]? = some (.cells #[c0, c1] T (0, 0))) :
    Below w.heap.size w (w1.alloc (.cells gr 48)) ∧ (w1.alloc (.cells gr 48)).heap[w.heap.size]? = some (.cells #[c0, c1] T (0, 0)) ∧
    (w1.alloc (.cells gr 48)).heap[w1.heap.size]? = some (.cells gr 48 (0, 0)) :=
  ⟨b1.alloc b1.size _, by rw [heap_alloc_old _ _ (row_lt r1)]; exact r1, heap_alloc_new _ _⟩

end Go.Proofs.Ytchdcifhccjheaa

namespace Go.Proofs.Ytchdcifhccjheaa
open Go.RowKit

set_option maxHeartbeats 1000000 in
theorem implTri_no (n : Int) (a : Option Addr) (cap : Nat) (zs : List Int) (w : World) (hA : IntsAt w a zs) (hm : matB n zs = false) :
    Calls Try.prog 10 #[.agg #[.int .i64 n, .slice a zs.length cap]] w fun e w' => e = .returned (.bool false) ∧ Below w.heap.size w w' := by
  have HA0 : Hid (IntsAt (w.alloc (Obj.cells #[Value.int IntKind.i64 n, Value.slice a zs.length cap] 26)) a zs) := hA.below ((Below.refl _ _).alloc (Nat.le_refl _) _)
  have HM : Hid _ := hm
  have hz := (zero_of_info Try.info41).1
  generalize hz0 : cellsOf zeros = z0 at hz
  have HZ : Hid (cellsOf zeros = z0) := hz0
  clear hz0
  clear hA hm
  go_enter Try.func10, Try.ntmps10
  go_wp2_with fail
  refine (grid_any n a cap zs _ HA0.out).mono ?_
  rintro e w1 ⟨rfl, hb⟩
  rw [HM.out]
  obtain ⟨b1, r1, c0, c1⟩ := box2 hb
  obtain ⟨bW, rW, gW⟩ := grid_world (cellsOf (gridRes n zs)) b1 r1
  have BW : Hid _ := bW
  have RW : Hid _ := rW
  have GW : Hid _ := gW
  clear hb r1 b1 c0 c1 bW rW gW
  obtain ⟨gr, HGR⟩ : ∃ gr, Hid (cellsOf (gridRes n zs) = gr) := ⟨_, rfl⟩
  rw [HGR.out] at BW RW GW ⊢
  go_wp2_with (
    with_reducible refine wpList_store_row ?_ 48 (.tmp 3) (.tmp 11) ?_ w1.heap.size gr ?_ ?_ 48 z0 ?_ ?_ ?_ ?_ ?_
    · rfl
    · rfl
    · rfl
    · rfl
    · exact heap_alloc_new _ _
    · rw [← HGR.out]; exact size41_of (gridRes_length _ _)
    · rw [← HZ.out, ← HGR.out, cellsOf_size, cellsOf_size, zeros_length, gridRes_length]
    · rw [← HGR.out]; exact cellsOf_one _
    rw [World.setRow_alloc_new]
    have c0 := cell_of_row _ _ 0 _ _ _ RW.out
    have c1 := cell_of_row _ _ 1 _ _ _ RW.out
    simp only [List.getElem?_toArray, List.getElem?_cons_zero, List.getElem?_cons_succ] at c0 c1
    generalize w1.alloc (Obj.cells gr 48) = W at *)
  go_ret
  exact ⟨rfl, BW.out⟩

set_option maxHeartbeats 2000000 in
theorem implTri_loop (n : Nat) (a : Option Addr) (cap : Nat) (zs : List Int) (w : World) (hA : IntsAt w a zs) (hm : matB n zs = true) :
    Calls Try.prog 10 #[.agg #[.int .i64 n, .slice a zs.length cap]] w fun e w' => e = .returned (.bool (triB n zs)) ∧ Below w.heap.size w w' := by
  have HA0 : Hid (IntsAt (w.alloc (Obj.cells #[Value.int IntKind.i64 n, Value.slice a zs.length cap] 26)) a zs) := hA.below ((Below.refl _ _).alloc (Nat.le_refl _) _)
  have HM : Hid _ := hm
  have hz := (zero_of_info Try.info41).1
  generalize hz0 : cellsOf zeros = z0 at hz
  have HZ : Hid (cellsOf zeros = z0) := hz0
  clear hz0
  obtain ⟨hn1, hn2, hl, _⟩ := matB_true hm
  clear hA hm hl
  go_enter Try.func10, Try.ntmps10
  go_wp2_with fail
  refine (grid_any n a cap zs _ HA0.out).mono ?_
  rintro e w1 ⟨rfl, hb⟩
  rw [HM.out]
  obtain ⟨b1, r1, c0, c1⟩ := box2 hb
  obtain ⟨bW, rW, gW⟩ := grid_world (cellsOf (gridRes n zs)) b1 r1
  have BW : Hid _ := bW
  have RW : Hid _ := rW
  have GW : Hid _ := gW
  clear hb r1 b1 c0 c1 bW rW gW
  obtain ⟨gr, HGR⟩ : ∃ gr, Hid (cellsOf (gridRes n zs) = gr) := ⟨_, rfl⟩
  rw [HGR.out] at BW RW GW ⊢
  go_wp2_with (
    with_reducible refine wpList_store_row ?_ 48 (.tmp 3) (.tmp 11) ?_ w1.heap.size gr ?_ ?_ 48 z0 ?_ ?_ ?_ ?_ ?_
    · rfl
    · rfl
    · rfl
    · rfl
    · exact heap_alloc_new _ _
    · rw [← HGR.out]; exact size41_of (gridRes_length _ _)
    · rw [← HZ.out, ← HGR.out, cellsOf_size, cellsOf_size, zeros_length, gridRes_length]
    · rw [← HGR.out]; exact cellsOf_one _
    rw [World.setRow_alloc_new]
    have c0 := cell_of_row _ _ 0 _ _ _ RW.out
    have c1 := cell_of_row _ _ 1 _ _ _ RW.out
    simp only [List.getElem?_toArray, List.getElem?_cons_zero, List.getElem?_cons_succ] at c0 c1
    generalize w1.alloc (Obj.cells gr 48) = W at *)
  clear hz
  obtain ⟨gk, HGK⟩ : ∃ gk, Hid (w1.heap.size = gk) := ⟨_, rfl⟩
  rw [HGK.out] at GW ⊢
  clear c0 c1
  go_loopw [17] (fun t wr => ∃ x : Nat, x ≤ n ∧ t = .int .i64 x ∧ triTo n zs x 0 0 ∧ Below w.heap.size w wr ∧ wr.heap[w.heap.size]? = some (.cells #[.int .i64 n, .slice a zs.length cap] 26 (0, 0)) ∧ wr.heap[gk]? = some (.cells gr 48 (0, 0))) (fun t _ => n - (intOf t).toNat)
  case atStart => exact ⟨0, Nat.zero_le _, rfl, triTo_zero _ _, BW.out, RW.out, GW.out⟩
  case round =>
    clear BW RW GW
    obtain ⟨x, hx, rfl, hs, hb, g3, g4⟩ := hrel
    have c0 := cell_of_row _ _ 0 _ _ _ g3
    have c1 := cell_of_row _ _ 1 _ _ _ g3
    simp at c0 c1
    have HS : Hid _ := hs
    have G3 : Hid _ := g3
    have G4 : Hid _ := g4
    have HB : Hid _ := hb
    clear hs g3 g4 hb
    by_cases hlt : x < n
    · go_wp2_with fail
      clear c0 c1
      go_loopw [22] (fun t wr => ∃ y : Nat, y ≤ n ∧ t = .int .i64 y ∧ triTo n zs x y 0 ∧ Below w.heap.size w wr ∧ wr.heap[w.heap.size]? = some (.cells #[.int .i64 n, .slice a zs.length cap] 26 (0, 0)) ∧ wr.heap[gk]? = some (.cells gr 48 (0, 0))) (fun t _ => n - (intOf t).toNat)
      case atStart => exact ⟨0, Nat.zero_le _, rfl, HS.out, HB.out, G3.out, G4.out⟩
      case round =>
        clear HS HB G3 G4
        obtain ⟨y, hy, rfl, hs, hb, g3, g4⟩ := hrel
        have c0 := cell_of_row _ _ 0 _ _ _ g3
        have c1 := cell_of_row _ _ 1 _ _ _ g3
        simp at c0 c1
        have HS : Hid _ := hs
        have G3 : Hid _ := g3
        have G4 : Hid _ := g4
        have HB : Hid _ := hb
        clear hs g3 g4 hb
        by_cases hylt : y < n
        · go_wp2_with fail
          clear c0 c1
          go_loopw [27] (fun t wr => ∃ z : Nat, z ≤ n ∧ t = .int .i64 z ∧ triTo n zs x y z ∧ Below w.heap.size w wr ∧ wr.heap[w.heap.size]? = some (.cells #[.int .i64 n, .slice a zs.length cap] 26 (0, 0)) ∧ wr.heap[gk]? = some (.cells gr 48 (0, 0))) (fun t _ => n - (intOf t).toNat)
          case atStart => exact ⟨0, Nat.zero_le _, rfl, HS.out, HB.out, G3.out, G4.out⟩
          case round =>
            clear HS HB G3 G4
            obtain ⟨z, hz, rfl, hs, hb, g3, g4⟩ := hrel
            have c0 := cell_of_row _ _ 0 _ _ _ g3
            have c1 := cell_of_row _ _ 1 _ _ _ g3
            simp at c0 c1
            have HS : Hid _ := hs
            have G3 : Hid _ := g3
            have G4 : Hid _ := g4
            have HB : Hid _ := hb
            clear hs g3 g4 hb
            by_cases hzlt : z < n
            · have t1 := tm_bd HM.out x z hlt hzlt
              have t2 := tm_bd HM.out z y hzlt hylt
              have cg1 := grid_cell (HGR.out.symm ▸ G4.out) HM.out (x := x) (y := y) (by omega) (by omega) (by omega)
              have cg2 := grid_cell (HGR.out.symm ▸ G4.out) HM.out (x := x) (y := z) (by omega) (by omega) (by omega)
              have cg3 := grid_cell (HGR.out.symm ▸ G4.out) HM.out (x := z) (y := y) (by omega) (by omega) (by omega)
              rw [tm_def] at cg1 cg2 cg3
              by_cases he : tm n zs x y ≤ tm n zs x z + tm n zs z y
              · have HS1 : Hid _ := triTo_step HS.out he
                clear HS
                go_wp2_with fail
                go_quiet (fail)
                go_wp2
                refine ⟨⟨z + 1, by omega, by go_num, HS1.out, below_drewN HB.out _, G3.out, G4.out⟩, by simp [intOf]; omega⟩
              · have HN : Hid (triB n zs = false) := triB_bad hlt hylt hzlt he
                clear HS
                go_wp2_with fail
                go_quiet (fail)
                go_wp2
                go_ret
                exact ⟨ret_bool HN.out.symm, below_drewN HB.out _⟩
            · have hzx : z = n := by omega
              have HS1 : Hid (triTo n zs x (y + 1) 0) := triTo_col (hzx ▸ HS.out)
              clear hzx HS
              go_wp2
              refine ⟨⟨y + 1, by omega, by go_num, HS1.out, HB.out, G3.out, G4.out⟩, by simp [intOf]; omega⟩
        · have hyx : y = n := by omega
          have HS1 : Hid (triTo n zs (x + 1) 0 0) := triTo_row (hyx ▸ HS.out)
          clear hyx HS
          go_wp2
          refine ⟨⟨x + 1, by omega, by go_num, HS1.out, HB.out, G3.out, G4.out⟩, by simp [intOf]; omega⟩
    · have hxn : x = n := by omega
      have HN : Hid (triB n zs = true) := triB_yes HM.out (hxn ▸ HS.out)
      clear hxn HS
      go_wp2
      go_ret
      exact ⟨ret_bool HN.out.symm, HB.out⟩

theorem implTri_any (n : Int) (a : Option Addr) (cap : Nat) (zs : List Int) (w : World) (hA : IntsAt w a zs) :
    Calls Try.prog 10 #[.agg #[.int .i64 n, .slice a zs.length cap]] w fun e w' => e = .returned (.bool (triB n zs)) ∧ Below w.heap.size w w' := by
  cases h : matB n zs
  · rw [triB_no h]; exact implTri_no n a cap zs w hA h
  · obtain ⟨m, rfl⟩ := Int.eq_ofNat_of_zero_le (show 0 ≤ n by have := (matB_true h).1; omega)
    exact implTri_loop m a cap zs w hA h

end Go.Proofs.Ytchdcifhccjheaa

namespace Go.Proofs.Ytchdcifhccjheaa
open Go.RowKit

set_option maxHeartbeats 1000000 in
theorem specTri_no (n : Int) (a : Option Addr) (cap : Nat) (zs : List Int) (w : World) (hA : IntsAt w a zs) (hm : matB n zs = false) :
    Calls Try.prog 11 #[.agg #[.int .i64 n, .slice a zs.length cap]] w fun e w' => e = .returned (.bool false) ∧ Below w.heap.size w w' := by
  have HA0 : Hid (IntsAt (w.alloc (Obj.cells #[Value.int IntKind.i64 n, Value.slice a zs.length cap] 26)) a zs) := hA.below ((Below.refl _ _).alloc (Nat.le_refl _) _)
  have HM : Hid _ := hm
  clear hA hm
  go_enter Try.func11, Try.ntmps11
  go_wp2_with fail
  refine (specMat_any n a cap zs _ HA0.out).mono ?_
  rintro e w1 ⟨rfl, hb⟩
  rw [HM.out]
  obtain ⟨b1, r1, c0, c1⟩ := box2 hb
  clear hb r1
  go_wp2
  go_ret
  exact ⟨rfl, b1⟩

set_option maxHeartbeats 2000000 in
theorem specTri_loop (n : Nat) (a : Option Addr) (cap : Nat) (zs : List Int) (w : World) (hA : IntsAt w a zs) (hm : matB n zs = true) :
    Calls Try.prog 11 #[.agg #[.int .i64 n, .slice a zs.length cap]] w fun e w' => e = .returned (.bool (triB n zs)) ∧ Below w.heap.size w w' := by
  have HA0 : Hid (IntsAt (w.alloc (Obj.cells #[Value.int IntKind.i64 n, Value.slice a zs.length cap] 26)) a zs) := hA.below ((Below.refl _ _).alloc (Nat.le_refl _) _)
  have HA : Hid (IntsAt w a zs) := hA
  obtain ⟨hn1, hn2, hl, _⟩ := matB_true hm
  have HL : Hid (zs.length = n * n) := by
    rw [← Int.natCast_mul] at hl
    show _ = _
    omega
  have HM : Hid _ := hm
  clear hA hm hl
  go_enter Try.func11, Try.ntmps11
  go_wp2_with fail
  refine (specMat_any n a cap zs _ HA0.out).mono ?_
  rintro e w1 ⟨rfl, hb⟩
  rw [HM.out]
  obtain ⟨b1, r1, c0, c1⟩ := box2 hb
  have BW : Hid _ := b1
  have RW : Hid _ := r1
  clear hb r1 b1
  go_wp2_with fail
  clear c0 c1
  go_loopw [3] (fun t wr => ∃ x : Nat, x ≤ n ∧ t = .int .i64 x ∧ triTo n zs x 0 0 ∧ Below w.heap.size w wr ∧ wr.heap[w.heap.size]? = some (.cells #[.int .i64 n, .slice a zs.length cap] 26 (0, 0))) (fun t _ => n - (intOf t).toNat)
  case atStart => exact ⟨0, Nat.zero_le _, rfl, triTo_zero _ _, BW.out, RW.out⟩
  case round =>
    clear BW RW
    obtain ⟨x, hx, rfl, hs, hb, g3⟩ := hrel
    have c0 := cell_of_row _ _ 0 _ _ _ g3
    have c1 := cell_of_row _ _ 1 _ _ _ g3
    simp at c0 c1
    have HS : Hid _ := hs
    have G3 : Hid (wr.drew.heap[w.heap.size]? = _) := g3
    have HB : Hid (Below w.heap.size w wr.drew) := hb.drew
    have HBr : Hid (Below w.heap.size w wr) := hb
    clear hs g3 hb
    by_cases hlt : x < n
    · go_wp2_with fail
      clear c0 c1
      go_loopw [4] (fun t wr => ∃ y : Nat, y ≤ n ∧ t = .int .i64 y ∧ triTo n zs x y 0 ∧ Below w.heap.size w wr ∧ wr.heap[w.heap.size]? = some (.cells #[.int .i64 n, .slice a zs.length cap] 26 (0, 0))) (fun t _ => n - (intOf t).toNat)
      case atStart => exact ⟨0, Nat.zero_le _, rfl, HS.out, HBr.out, G3.out⟩
      case round =>
        clear HS HB G3 HBr
        obtain ⟨y, hy, rfl, hs, hb, g3⟩ := hrel
        have c0 := cell_of_row _ _ 0 _ _ _ g3
        have c1 := cell_of_row _ _ 1 _ _ _ g3
        simp at c0 c1
        have HS : Hid _ := hs
        have G3 : Hid (wr.drew.heap[w.heap.size]? = _) := g3
        have HB : Hid (Below w.heap.size w wr.drew) := hb.drew
        have HBr : Hid (Below w.heap.size w wr) := hb
        clear hs g3 hb
        by_cases hylt : y < n
        · go_wp2_with fail
          clear c0 c1
          go_loopw [5] (fun t wr => ∃ z : Nat, z ≤ n ∧ t = .int .i64 z ∧ triTo n zs x y z ∧ Below w.heap.size w wr ∧ wr.heap[w.heap.size]? = some (.cells #[.int .i64 n, .slice a zs.length cap] 26 (0, 0))) (fun t _ => n - (intOf t).toNat)
          case atStart => exact ⟨0, Nat.zero_le _, rfl, HS.out, HBr.out, G3.out⟩
          case round =>
            clear HS HB G3 HBr
            obtain ⟨z, hz, rfl, hs, hb, g3⟩ := hrel
            have c0 := cell_of_row _ _ 0 _ _ _ g3
            have c1 := cell_of_row _ _ 1 _ _ _ g3
            simp at c0 c1
            have HS : Hid _ := hs
            have G3 : Hid (wr.drew.heap[w.heap.size]? = _) := g3
            have HB : Hid (Below w.heap.size w wr.drew) := hb.drew
            have HBr : Hid (Below w.heap.size w wr) := hb
            clear hs g3 hb
            by_cases hzlt : z < n
            · have t1 := tm_bd HM.out x z hlt hzlt
              have t2 := tm_bd HM.out z y hzlt hylt
              have hws : IntKind.i64.wrap (tm n zs x z + tm n zs z y) = tm n zs x z + tm n zs z y := by
                rw [IntKind.wrap_i64]; omega
              by_cases he : tm n zs x y ≤ tm n zs x z + tm n zs z y
              · have HS1 : Hid _ := triTo_step HS.out he
                clear HS
                go_wp2_with fail
                go_region_held3 (fun W => W.cell? ⟨w.heap.size, 0, none⟩ = some (.int .i64 n) ∧ W.cell? ⟨w.heap.size, 1, none⟩ = some (.slice a zs.length cap)) (first | go_keep | exact ⟨c0', c1'⟩) ((
                  go_at_call 28
                  refine (l1Time_tm n _ _ a cap zs _ (by omega) (by omega) (by omega) HL.out (by exact HA.out.below HB.out)).mono ?_
                  rintro e w2 ⟨rfl, hb2⟩
                  obtain ⟨HB', G3', c0', c1'⟩ := box2_more hb2 HB.out G3.out
                  clear HB G3 hb2
                  have HB : Hid _ := HB'
                  have G3 : Hid _ := G3'
                  clear HB' G3'))
                all_goals
                  go_wp2
                  refine ⟨⟨z + 1, by omega, by go_num, HS1.out, HB.out, G3.out⟩, by simp [intOf]; omega⟩
              · have HN : Hid (triB n zs = false) := triB_bad hlt hylt hzlt he
                clear HS
                go_wp2_with fail
                go_region_held3 (fun W => W.cell? ⟨w.heap.size, 0, none⟩ = some (.int .i64 n) ∧ W.cell? ⟨w.heap.size, 1, none⟩ = some (.slice a zs.length cap)) (first | go_keep | exact ⟨c0', c1'⟩) ((
                  go_at_call 28
                  refine (l1Time_tm n _ _ a cap zs _ (by omega) (by omega) (by omega) HL.out (by exact HA.out.below HB.out)).mono ?_
                  rintro e w2 ⟨rfl, hb2⟩
                  obtain ⟨HB', G3', c0', c1'⟩ := box2_more hb2 HB.out G3.out
                  clear HB G3 hb2
                  have HB : Hid _ := HB'
                  have G3 : Hid _ := G3'
                  clear HB' G3'))
                all_goals
                  go_wp2
                  go_ret
                  exact ⟨ret_bool HN.out.symm, HB.out⟩
            · have hzx : z = n := by omega
              have HS1 : Hid (triTo n zs x (y + 1) 0) := triTo_col (hzx ▸ HS.out)
              clear hzx HS
              go_wp2
              refine ⟨⟨y + 1, by omega, by go_num, HS1.out, HBr.out, G3.out⟩, by simp [intOf]; omega⟩
        · have hyx : y = n := by omega
          have HS1 : Hid (triTo n zs (x + 1) 0 0) := triTo_row (hyx ▸ HS.out)
          clear hyx HS
          go_wp2
          refine ⟨⟨x + 1, by omega, by go_num, HS1.out, HBr.out, G3.out⟩, by simp [intOf]; omega⟩
    · have hxn : x = n := by omega
      have HN : Hid (triB n zs = true) := triB_yes HM.out (hxn ▸ HS.out)
      clear hxn HS
      go_wp2
      go_ret
      exact ⟨ret_bool HN.out.symm, HBr.out⟩

theorem specTri_any (n : Int) (a : Option Addr) (cap : Nat) (zs : List Int) (w : World) (hA : IntsAt w a zs) :
    Calls Try.prog 11 #[.agg #[.int .i64 n, .slice a zs.length cap]] w fun e w' => e = .returned (.bool (triB n zs)) ∧ Below w.heap.size w w' := by
  cases h : matB n zs
  · rw [triB_no h]; exact specTri_no n a cap zs w hA h
  · obtain ⟨m, rfl⟩ := Int.eq_ofNat_of_zero_le (show 0 ≤ n by have := (matB_true h).1; omega)
    exact specTri_loop m a cap zs w hA h

end Go.Proofs.Ytchdcifhccjheaa

namespace Go.Proofs.Ytchdcifhccjheaa
open Go.RowKit

set_option maxHeartbeats 1000000 in
theorem implSym_no (n : Int) (a : Option Addr) (cap : Nat) (zs : List Int) (w : World) (hA : IntsAt w a zs) (hm : matB n zs = false) :
    Calls Try.prog 15 #[.agg #[.int .i64 n, .slice a zs.length cap]] w fun e w' => e = .returned (.bool false) ∧ Below w.heap.size w w' := by
  have HA0 : Hid (IntsAt (w.alloc (Obj.cells #[Value.int IntKind.i64 n, Value.slice a zs.length cap] 26)) a zs) := hA.below ((Below.refl _ _).alloc (Nat.le_refl _) _)
  have HM : Hid _ := hm
  have hz := (zero_of_info Try.info41).1
  generalize hz0 : cellsOf zeros = z0 at hz
  have HZ : Hid (cellsOf zeros = z0) := hz0
  clear hz0
  clear hA hm
  go_enter Try.func15, Try.ntmps15
  go_wp2_with fail
  refine (grid_any n a cap zs _ HA0.out).mono ?_
  rintro e w1 ⟨rfl, hb⟩
  rw [HM.out]
  obtain ⟨b1, r1, c0, c1⟩ := box2 hb
  obtain ⟨bW, rW, gW⟩ := grid_world (cellsOf (gridRes n zs)) b1 r1
  have BW : Hid _ := bW
  have RW : Hid _ := rW
  have GW : Hid _ := gW
  clear hb r1 b1 c0 c1 bW rW gW
  obtain ⟨gr, HGR⟩ : ∃ gr, Hid (cellsOf (gridRes n zs) = gr) := ⟨_, rfl⟩
  rw [HGR.out] at BW RW GW ⊢
  go_wp2_with (
    with_reducible refine wpList_store_row ?_ 48 (.tmp 3) (.tmp 10) ?_ w1.heap.size gr ?_ ?_ 48 z0 ?_ ?_ ?_ ?_ ?_
    · rfl
    · rfl
    · rfl
    · rfl
    · exact heap_alloc_new _ _
    · rw [← HGR.out]; exact size41_of (gridRes_length _ _)
    · rw [← HZ.out, ← HGR.out, cellsOf_size, cellsOf_size, zeros_length, gridRes_length]
    · rw [← HGR.out]; exact cellsOf_one _
    rw [World.setRow_alloc_new]
    have c0 := cell_of_row _ _ 0 _ _ _ RW.out
    have c1 := cell_of_row _ _ 1 _ _ _ RW.out
    simp only [List.getElem?_toArray, List.getElem?_cons_zero, List.getElem?_cons_succ] at c0 c1
    generalize w1.alloc (Obj.cells gr 48) = W at *)
  go_ret
  exact ⟨rfl, BW.out⟩

set_option maxHeartbeats 2000000 in
theorem implSym_loop (n : Nat) (a : Option Addr) (cap : Nat) (zs : List Int) (w : World) (hA : IntsAt w a zs) (hm : matB n zs = true) :
    Calls Try.prog 15 #[.agg #[.int .i64 n, .slice a zs.length cap]] w fun e w' => e = .returned (.bool (symB n zs)) ∧ Below w.heap.size w w' := by
  have HA0 : Hid (IntsAt (w.alloc (Obj.cells #[Value.int IntKind.i64 n, Value.slice a zs.length cap] 26)) a zs) := hA.below ((Below.refl _ _).alloc (Nat.le_refl _) _)
  have HM : Hid _ := hm
  have hz := (zero_of_info Try.info41).1
  generalize hz0 : cellsOf zeros = z0 at hz
  have HZ : Hid (cellsOf zeros = z0) := hz0
  clear hz0
  obtain ⟨hn1, hn2, hl, _⟩ := matB_true hm
  clear hA hm hl
  go_enter Try.func15, Try.ntmps15
  go_wp2_with fail
  refine (grid_any n a cap zs _ HA0.out).mono ?_
  rintro e w1 ⟨rfl, hb⟩
  rw [HM.out]
  obtain ⟨b1, r1, c0, c1⟩ := box2 hb
  obtain ⟨bW, rW, gW⟩ := grid_world (cellsOf (gridRes n zs)) b1 r1
  have BW : Hid _ := bW
  have RW : Hid _ := rW
  have GW : Hid _ := gW
  clear hb r1 b1 c0 c1 bW rW gW
  obtain ⟨gr, HGR⟩ : ∃ gr, Hid (cellsOf (gridRes n zs) = gr) := ⟨_, rfl⟩
  rw [HGR.out] at BW RW GW ⊢
  go_wp2_with (
    with_reducible refine wpList_store_row ?_ 48 (.tmp 3) (.tmp 10) ?_ w1.heap.size gr ?_ ?_ 48 z0 ?_ ?_ ?_ ?_ ?_
    · rfl
    · rfl
    · rfl
    · rfl
    · exact heap_alloc_new _ _
    · rw [← HGR.out]; exact size41_of (gridRes_length _ _)
    · rw [← HZ.out, ← HGR.out, cellsOf_size, cellsOf_size, zeros_length, gridRes_length]
    · rw [← HGR.out]; exact cellsOf_one _
    rw [World.setRow_alloc_new]
    have c0 := cell_of_row _ _ 0 _ _ _ RW.out
    have c1 := cell_of_row _ _ 1 _ _ _ RW.out
    simp only [List.getElem?_toArray, List.getElem?_cons_zero, List.getElem?_cons_succ] at c0 c1
    generalize w1.alloc (Obj.cells gr 48) = W at *)
  clear hz c0 c1
  obtain ⟨gk, HGK⟩ : ∃ gk, Hid (w1.heap.size = gk) := ⟨_, rfl⟩
  rw [HGK.out] at GW ⊢
  go_loopw [16] (fun t wr => ∃ x : Nat, x ≤ n ∧ t = .int .i64 x ∧ symTo n zs x 0 ∧ Below w.heap.size w wr ∧ wr.heap[gk]? = some (.cells gr 48 (0, 0))) (fun t _ => n - (intOf t).toNat)
  case atStart => exact ⟨0, Nat.zero_le _, rfl, symTo_zero _ _, BW.out, GW.out⟩
  case round =>
    clear BW RW GW
    obtain ⟨x, hx, rfl, hs, hb, g4⟩ := hrel
    have HS : Hid _ := hs
    have G4 : Hid _ := g4
    have HB : Hid _ := hb
    clear hs g4 hb
    by_cases hlt : x < n
    · go_wp2_with fail
      go_loopw [20] (fun t wr => ∃ y : Nat, y ≤ x ∧ t = .int .i64 y ∧ symTo n zs x y ∧ Below w.heap.size w wr ∧ wr.heap[gk]? = some (.cells gr 48 (0, 0))) (fun t _ => x - (intOf t).toNat)
      case atStart => exact ⟨0, Nat.zero_le _, rfl, HS.out, HB.out, G4.out⟩
      case round =>
        clear HS HB G4
        obtain ⟨y, hy, rfl, hs, hb, g4⟩ := hrel
        have HS : Hid _ := hs
        have G4 : Hid _ := g4
        have HB : Hid _ := hb
        clear hs g4 hb
        by_cases hylt : y < x
        · have cg1 := grid_cell (HGR.out.symm ▸ G4.out) HM.out (x := x) (y := y) (by omega) (by omega) (by omega)
          have cg2 := grid_cell (HGR.out.symm ▸ G4.out) HM.out (x := y) (y := x) (by omega) (by omega) (by omega)
          rw [tm_def] at cg1 cg2
          by_cases he : tm n zs x y = tm n zs y x
          · have hne : (tm n zs x y != tm n zs y x) = false := by simp [he]
            have HS1 : Hid _ := symTo_step HS.out he
            clear he HS
            go_wp2_with fail
            go_quiet (fail)
            go_wp2
            refine ⟨⟨y + 1, by omega, by go_num, HS1.out, below_drewN HB.out _, G4.out⟩, by simp [intOf]; omega⟩
          · have hne : (tm n zs x y != tm n zs y x) = true := by simp [he]
            have HN : Hid (symB n zs = false) := symB_bad hlt hylt he
            clear he HS
            go_wp2_with fail
            go_quiet (fail)
            go_wp2
            go_ret
            exact ⟨ret_bool HN.out.symm, below_drewN HB.out _⟩
        · have hyx : y = x := by omega
          have HS1 : Hid (symTo n zs (x + 1) 0) := symTo_row (hyx ▸ HS.out)
          clear hyx HS
          go_wp2
          refine ⟨⟨x + 1, by omega, by go_num, HS1.out, HB.out, G4.out⟩, by simp [intOf]; omega⟩
    · have hxn : x = n := by omega
      have HN : Hid (symB n zs = true) := symB_yes HM.out (hxn ▸ HS.out)
      clear hxn HS
      go_wp2
      go_ret
      exact ⟨ret_bool HN.out.symm, HB.out⟩

theorem implSym_any (n : Int) (a : Option Addr) (cap : Nat) (zs : List Int) (w : World) (hA : IntsAt w a zs) :
    Calls Try.prog 15 #[.agg #[.int .i64 n, .slice a zs.length cap]] w fun e w' => e = .returned (.bool (symB n zs)) ∧ Below w.heap.size w w' := by
  cases h : matB n zs
  · rw [symB_no h]; exact implSym_no n a cap zs w hA h
  · obtain ⟨m, rfl⟩ := Int.eq_ofNat_of_zero_le (show 0 ≤ n by have := (matB_true h).1; omega)
    exact implSym_loop m a cap zs w hA h

end Go.Proofs.Ytchdcifhccjheaa

namespace Go.Proofs.Ytchdcifhccjheaa
open Go.RowKit

set_option maxHeartbeats 400000 in
theorem isPlace_any (n p : Int) (s : Value) (w : World) (h1 : 1 ≤ n) (h2 : n ≤ 16) :
    Calls Try.prog 30 #[.agg #[.int .i64 n, s], .int .i64 p] w fun e w' => e = .returned (.bool (inB p 0 (n - 1))) ∧ Below w.heap.size w w' := by
  go_enter Try.func30, Try.ntmps30
  go_wp2_with (go_at_call 38; refine (within_any _ _ _ _).mono ?_; rintro e w' ⟨rfl, rfl⟩)
  go_ret
  exact ⟨rfl, (Below.refl _ _).alloc (Nat.le_refl _) _⟩

end Go.Proofs.Ytchdcifhccjheaa

namespace Go.Proofs.Ytchdcifhccjheaa
open Go.RowKit

set_option maxHeartbeats 1000000 in
theorem implPath_no (n : Int) (a b : Option Addr) (cap c2 len : Nat) (zs : List Int) (w : World) (hA : IntsAt w a zs) (h : ¬ (matB n zs = true ∧ len ≤ 100)) (hlen : len ≤ 9223372036854775807) :
    Calls Try.prog 13 #[.agg #[.int .i64 n, .slice a zs.length cap], .slice b len c2] w fun e w' => e = .returned (.int .i64 (-1)) ∧ Below w.heap.size w w' := by
  have HA0 : Hid (IntsAt (w.alloc (Obj.cells #[Value.int IntKind.i64 n, Value.slice a zs.length cap] 26)) a zs) := hA.below ((Below.refl _ _).alloc (Nat.le_refl _) _)
  clear hA
  have hz := (zero_of_info Try.info41).1
  generalize hz0 : cellsOf zeros = z0 at hz
  have HZ : Hid (cellsOf zeros = z0) := hz0
  clear hz0
  cases hm : matB n zs
  · have HM : Hid _ := hm
    clear hm h
    go_enter Try.func13, Try.ntmps13
    go_wp2_with fail
    refine (grid_any n a cap zs _ HA0.out).mono ?_
    rintro e w1 ⟨rfl, hb⟩
    rw [HM.out]
    obtain ⟨b1, r1, c0, c1⟩ := box2 hb
    obtain ⟨bW, rW, gW⟩ := grid_world (cellsOf (gridRes n zs)) b1 r1
    have BW : Hid _ := bW
    have RW : Hid _ := rW
    have GW : Hid _ := gW
    clear hb r1 b1 c0 c1 bW rW gW
    obtain ⟨gr, HGR⟩ : ∃ gr, Hid (cellsOf (gridRes n zs) = gr) := ⟨_, rfl⟩
    rw [HGR.out] at BW RW GW ⊢
    go_wp2_with (
      with_reducible refine wpList_store_row ?_ 48 (.tmp 5) (.tmp 13) ?_ w1.heap.size gr ?_ ?_ 48 z0 ?_ ?_ ?_ ?_ ?_
      · rfl
      · rfl
      · rfl
      · rfl
      · exact heap_alloc_new _ _
      · rw [← HGR.out]; exact size41_of (gridRes_length _ _)
      · rw [← HZ.out, ← HGR.out, cellsOf_size, cellsOf_size, zeros_length, gridRes_length]
      · rw [← HGR.out]; exact cellsOf_one _
      rw [World.setRow_alloc_new]
      generalize w1.alloc (Obj.cells gr 48) = W at *)
    go_ret
    exact ⟨rfl, BW.out⟩
  · have HM : Hid _ := hm
    have hgt : 100 < len := Nat.lt_of_not_le fun k => h ⟨hm, k⟩
    clear hm h
    go_enter Try.func13, Try.ntmps13
    go_wp2_with fail
    refine (grid_any n a cap zs _ HA0.out).mono ?_
    rintro e w1 ⟨rfl, hb⟩
    rw [HM.out]
    obtain ⟨b1, r1, c0, c1⟩ := box2 hb
    obtain ⟨bW, rW, gW⟩ := grid_world (cellsOf (gridRes n zs)) b1 r1
    have BW : Hid _ := bW
    have RW : Hid _ := rW
    have GW : Hid _ := gW
    clear hb r1 b1 c0 c1 bW rW gW
    obtain ⟨gr, HGR⟩ : ∃ gr, Hid (cellsOf (gridRes n zs) = gr) := ⟨_, rfl⟩
    rw [HGR.out] at BW RW GW ⊢
    go_wp2_with (
      with_reducible refine wpList_store_row ?_ 48 (.tmp 5) (.tmp 13) ?_ w1.heap.size gr ?_ ?_ 48 z0 ?_ ?_ ?_ ?_ ?_
      · rfl
      · rfl
      · rfl
      · rfl
      · exact heap_alloc_new _ _
      · rw [← HGR.out]; exact size41_of (gridRes_length _ _)
      · rw [← HZ.out, ← HGR.out, cellsOf_size, cellsOf_size, zeros_length, gridRes_length]
      · rw [← HGR.out]; exact cellsOf_one _
      rw [World.setRow_alloc_new]
      generalize w1.alloc (Obj.cells gr 48) = W at *)
    go_ret
    exact ⟨rfl, BW.out⟩

set_option maxHeartbeats 1000000 in
theorem implPath_loop (n : Nat) (a b : Option Addr) (cap c2 : Nat) (zs ps : List Int) (w : World) (hA : IntsAt w a zs) (hB : IntsAt w b ps) (hm : matB n zs = true) (hlen : ps.length ≤ 100) :
    Calls Try.prog 13 #[.agg #[.int .i64 n, .slice a zs.length cap], .slice b ps.length c2] w fun e w' => e = .returned (.int .i64 (pathV n zs ps)) ∧ Below w.heap.size w w' := by
  have HA0 : Hid (IntsAt (w.alloc (Obj.cells #[Value.int IntKind.i64 n, Value.slice a zs.length cap] 26)) a zs) := hA.below ((Below.refl _ _).alloc (Nat.le_refl _) _)
  have HB : Hid (IntsAt w b ps) := hB
  obtain ⟨hn1, hn2, hl, _⟩ := matB_true hm
  have HM : Hid _ := hm
  clear hA hB hm hl
  have hz := (zero_of_info Try.info41).1
  generalize hz0 : cellsOf zeros = z0 at hz
  have HZ : Hid (cellsOf zeros = z0) := hz0
  clear hz0
  go_enter Try.func13, Try.ntmps13
  go_wp2_with fail
  refine (grid_any n a cap zs _ HA0.out).mono ?_
  rintro e w1 ⟨rfl, hb⟩
  rw [HM.out]
  obtain ⟨b1, r1, c0, c1⟩ := box2 hb
  obtain ⟨bW, rW, gW⟩ := grid_world (cellsOf (gridRes n zs)) b1 r1
  have BW : Hid _ := bW
  have RW : Hid _ := rW
  have GW : Hid _ := gW
  clear hb r1 b1 c0 c1 bW rW gW
  obtain ⟨gr, HGR⟩ : ∃ gr, Hid (cellsOf (gridRes n zs) = gr) := ⟨_, rfl⟩
  rw [HGR.out] at BW RW GW ⊢
  go_wp2_with (
    with_reducible refine wpList_store_row ?_ 48 (.tmp 5) (.tmp 13) ?_ w1.heap.size gr ?_ ?_ 48 z0 ?_ ?_ ?_ ?_ ?_
    · rfl
    · rfl
    · rfl
    · rfl
    · exact heap_alloc_new _ _
    · rw [← HGR.out]; exact size41_of (gridRes_length _ _)
    · rw [← HZ.out, ← HGR.out, cellsOf_size, cellsOf_size, zeros_length, gridRes_length]
    · rw [← HGR.out]; exact cellsOf_one _
    rw [World.setRow_alloc_new]
    generalize w1.alloc (Obj.cells gr 48) = W at *)
  clear hz
  obtain ⟨gk, HGK⟩ : ∃ gk, Hid (w1.heap.size = gk) := ⟨_, rfl⟩
  rw [HGK.out] at GW ⊢
  go_loopw [7, 24] (fun sm t wr => ∃ k : Nat, k ≤ ps.length ∧ t = .int .i64 k ∧ sm = .int .i64 (pathTo n zs ps k) ∧ placesTo n ps k ∧ Below w.heap.size w wr ∧ wr.heap[w.heap.size]? = some (.cells #[.int .i64 n, .slice a zs.length cap] 26 (0, 0)) ∧ wr.heap[gk]? = some (.cells gr 48 (0, 0))) (fun _ t _ => ps.length - (intOf t).toNat)
  case atStart => exact ⟨0, Nat.zero_le _, rfl, rfl, fun j hj => by omega, BW.out, RW.out, GW.out⟩
  case round =>
    clear BW RW GW
    obtain ⟨k, hk, rfl, rfl, hpl, hb, g3, g4⟩ := hrel
    have c0 := cell_of_row _ _ 0 _ _ _ g3
    have c1 := cell_of_row _ _ 1 _ _ _ g3
    simp at c0 c1
    have hbd := pathTo_bd (zs := zs) HM.out k hpl
    have HP : Hid (placesTo n ps k) := hpl
    have G3 : Hid _ := g3
    have G4 : Hid _ := g4
    have HBl : Hid _ := hb
    clear hpl
    obtain ⟨s0, HS0⟩ : ∃ s0, Hid (pathTo n zs ps k = s0) := ⟨_, rfl⟩
    rw [HS0.out] at hbd ⊢
    by_cases hlt : k < ps.length
    · obtain ⟨b2, o2, rfl, hcs⟩ := IntsAt.some (IntsAt.below HB.out hb) hlt
      have ct := hcs k hlt
      have HCS : Hid _ := hcs
      clear hcs g3 g4 hb
      obtain ⟨p, HPk⟩ : ∃ p, Hid (ps.getD k 0 = p) := ⟨_, rfl⟩
      rw [HPk.out] at ct
      cases hin : inB p 0 ((n : Int) - 1)
      · have HV : Hid (pathV n zs ps = -1) := pathV_no (by
          rintro ⟨_, _, h3⟩
          have := h3 k hlt
          rw [HPk.out, hin] at this
          cases this)
        go_wp2_with (go_at_call 30; refine (isPlace_any _ _ _ _ hn1 hn2).mono ?_; rintro e w2 ⟨rfl, hb2⟩)
        go_ret
        exact ⟨ret_int HV.out.symm, HBl.out.trans (hb2.mono HBl.out.size)⟩
      · have HP1 : Hid (placesTo n ps (k + 1)) := by
          intro j hj
          by_cases e : j = k
          · rw [e, HPk.out]; exact hin
          · exact HP.out j (by omega)
        have hp := inB_true hin
        obtain ⟨p, rfl⟩ := Int.eq_ofNat_of_zero_le hp.1
        by_cases hk0 : k = 0
        · have HS1 : Hid (pathTo n zs ps (k + 1) = s0) := by
            show _ = _
            unfold pathTo
            rw [if_pos hk0, HS0.out, Int.add_zero]
          have hk1 : k ≤ 0 := by omega
          clear hk0
          go_wp2_with (go_at_call 30; refine (isPlace_any _ _ _ _ hn1 hn2).mono ?_; rintro e w2 ⟨rfl, hb2⟩)
          obtain ⟨B2, R2, _, _⟩ := box2_more hb2 HBl.out G3.out
          refine ⟨⟨k + 1, by omega, by go_num, by rw [HS1.out], HP1.out, B2, R2, below_row hb2 (row_lt G4.out) G4.out⟩, by simp [intOf]; omega⟩
        · have hk1 : 0 < k := by omega
          have ctm := HCS.out (k - 1) (by omega)
          obtain ⟨q, HQ⟩ : ∃ q, Hid (ps.getD (k - 1) 0 = q) := ⟨_, rfl⟩
          rw [HQ.out] at ctm
          have hq := inB_true (HQ.out ▸ HP.out (k - 1) (by omega))
          obtain ⟨q, rfl⟩ := Int.eq_ofNat_of_zero_le hq.1
          have htb := mat_cell_bd HM.out q p (by omega) (by omega)
          obtain ⟨t, HTT⟩ : ∃ t, Hid (zs.getD (q * n + p) 0 = t) := ⟨_, rfl⟩
          rw [HTT.out] at htb
          have HS1 : Hid (pathTo n zs ps (k + 1) = s0 + t) := by
            show _ = _
            unfold pathTo
            rw [if_neg (by omega), HS0.out, HQ.out, HPk.out, Int.toNat_natCast, Int.toNat_natCast, HTT.out]
          have hkm : k - 1 < ps.length := by omega
          have hlb := block_lt_of_cell ctm
          simp at hlb
          have HLB : Hid _ := hlb
          have HCM : Hid _ := ctm
          clear hk0 hlb ctm
          go_wp2_with (
            go_at_call 30
            refine (isPlace_any _ _ _ _ hn1 hn2).mono ?_
            rintro e w2 ⟨rfl, hb2⟩
            have cg := grid_cell (HGR.out.symm ▸ below_row hb2 (row_lt G4.out) G4.out) HM.out (x := q) (y := p) (by omega) (by omega) (by omega)
            rw [HTT.out] at cg
            have ctm := (hb2.cell (p := ⟨b2, o2 + (k - 1), none⟩) HLB.out).trans HCM.out)
          obtain ⟨B2, R2, _, _⟩ := box2_more hb2 HBl.out G3.out
          refine ⟨⟨k + 1, by omega, by go_num, by rw [HS1.out], HP1.out, B2, R2, below_row hb2 (row_lt G4.out) G4.out⟩, by simp [intOf]; omega⟩
    · have hkl : k = ps.length := by omega
      have HV : Hid (pathV n zs ps = pathTo n zs ps k) := by
        show _ = _
        rw [hkl]
        exact pathV_yes HM.out hlen (hkl ▸ HP.out)
      clear hkl g3 g4
      go_wp2
      go_ret
      exact ⟨ret_int (HV.out.trans HS0.out).symm, HBl.out⟩

theorem implPath_any (n : Int) (a b : Option Addr) (cap c2 : Nat) (zs ps : List Int) (w : World) (hA : IntsAt w a zs) (hB : IntsAt w b ps) (hlen : ps.length ≤ 9223372036854775807) :
    Calls Try.prog 13 #[.agg #[.int .i64 n, .slice a zs.length cap], .slice b ps.length c2] w fun e w' => e = .returned (.int .i64 (pathV n zs ps)) ∧ Below w.heap.size w w' := by
  by_cases h : matB n zs = true ∧ ps.length ≤ 100
  · obtain ⟨m, rfl⟩ := Int.eq_ofNat_of_zero_le (show 0 ≤ n by have := (matB_true h.1).1; omega)
    exact implPath_loop m a b cap c2 zs ps w hA hB h.1 h.2
  · rw [pathV_no fun k => h ⟨k.1, k.2.1⟩]
    exact implPath_no n a b cap c2 _ zs w hA h hlen

end Go.Proofs.Ytchdcifhccjheaa

namespace Go.Proofs.Ytchdcifhccjheaa
open Go.RowKit

set_option maxHeartbeats 1000000 in
theorem implTime_any (n x y : Int) (a : Option Addr) (cap : Nat) (zs : List Int) (w : World) (hA : IntsAt w a zs) :
    Calls Try.prog 14 #[.agg #[.int .i64 n, .slice a zs.length cap], .int .i64 x, .int .i64 y] w fun e w' => e = .returned (.int .i64 (timeV n zs x y)) ∧ Below w.heap.size w w' := by
  have HA0 : Hid (IntsAt (w.alloc (Obj.cells #[Value.int IntKind.i64 n, Value.slice a zs.length cap] 26)) a zs) := hA.below ((Below.refl _ _).alloc (Nat.le_refl _) _)
  clear hA
  have hz := (zero_of_info Try.info41).1
  generalize hz0 : cellsOf zeros = z0 at hz
  have HZ : Hid (cellsOf zeros = z0) := hz0
  clear hz0
  have HIP : Hid (∀ (n p : Int) (s : Value) (w : World), 1 ≤ n → n ≤ 16 → Calls Try.prog 30 #[.agg #[.int .i64 n, s], .int .i64 p] w fun e w' => e = .returned (.bool (inB p 0 (n - 1))) ∧ Below w.heap.size w w') := isPlace_any
  cases hm : matB n zs
  · have HT : Hid (timeV n zs x y = -1) := timeV_no (by rw [hm]; simp)
    have HM : Hid _ := hm
    clear hm
    go_enter Try.func14, Try.ntmps14
    go_wp2_with fail
    refine (grid_any n a cap zs _ HA0.out).mono ?_
    rintro e w1 ⟨rfl, hb⟩
    rw [HM.out]
    obtain ⟨b1, r1, c0, c1⟩ := box2 hb
    obtain ⟨bW, rW, gW⟩ := grid_world (cellsOf (gridRes n zs)) b1 r1
    have BW : Hid _ := bW
    clear hb r1 c0 c1 bW rW gW
    generalize hgr : cellsOf (gridRes n zs) = gr at *
    have HGR : Hid (cellsOf (gridRes n zs) = gr) := hgr
    clear hgr
    go_wp2_with (
      with_reducible refine wpList_store_row ?_ 48 (.tmp 7) (.tmp 12) ?_ w1.heap.size gr ?_ ?_ 48 z0 ?_ ?_ ?_ ?_ ?_
      · rfl
      · rfl
      · rfl
      · rfl
      · exact heap_alloc_new _ _
      · rw [← HGR.out]; exact size41_of (gridRes_length _ _)
      · rw [← HZ.out, ← HGR.out, cellsOf_size, cellsOf_size, zeros_length, gridRes_length]
      · rw [← HGR.out]; exact cellsOf_one _
      rw [World.setRow_alloc_new])
    go_ret
    exact ⟨ret_int HT.out.symm, BW.out⟩
  · obtain ⟨hn1, hn2, hl, _⟩ := matB_true hm
    have HM : Hid _ := hm
    clear hm hl
    cases hx : inB x 0 (n - 1)
    · have HT : Hid (timeV n zs x y = -1) := timeV_no (by rw [hx]; simp)
      go_enter Try.func14, Try.ntmps14
      go_wp2_with fail
      refine (grid_any n a cap zs _ HA0.out).mono ?_
      rintro e w1 ⟨rfl, hb⟩
      rw [HM.out]
      obtain ⟨b1, r1, c0, c1⟩ := box2 hb
      obtain ⟨bW, rW, gW⟩ := grid_world (cellsOf (gridRes n zs)) b1 r1
      have BW : Hid _ := bW
      have RW : Hid _ := rW
      have GW : Hid _ := gW
      clear hb r1 b1 c0 c1 bW rW gW
      have HGE : ∃ gr, Hid (cellsOf (gridRes n zs) = gr) := ⟨_, rfl⟩
      obtain ⟨gr, HGR⟩ := HGE
      rw [HGR.out] at BW RW GW ⊢
      go_wp2_with (first
        | (
          with_reducible refine wpList_store_row ?_ 48 (.tmp 7) (.tmp 12) ?_ w1.heap.size gr ?_ ?_ 48 z0 ?_ ?_ ?_ ?_ ?_
          · rfl
          · rfl
          · rfl
          · rfl
          · exact heap_alloc_new _ _
          · rw [← HGR.out]; exact size41_of (gridRes_length _ _)
          · rw [← HZ.out, ← HGR.out, cellsOf_size, cellsOf_size, zeros_length, gridRes_length]
          · rw [← HGR.out]; exact cellsOf_one _
          rw [World.setRow_alloc_new]
          have c0 := cell_of_row _ _ 0 _ _ _ RW.out
          have c1 := cell_of_row _ _ 1 _ _ _ RW.out
          simp only [List.getElem?_toArray, List.getElem?_cons_zero, List.getElem?_cons_succ] at c0 c1
          generalize w1.alloc (Obj.cells gr 48) = W at *)
        | (go_at_call 30
           refine (isPlace_any _ _ _ _ hn1 hn2).mono ?_
           rintro e w2 ⟨rfl, hb2⟩
           obtain ⟨BW', RW', c0, c1⟩ := box2_more hb2 BW.out RW.out
           have GW' := below_row hb2 (row_lt GW.out) GW.out
           clear BW RW GW hb2
           have BW : Hid _ := BW'
           have RW : Hid _ := RW'
           have GW : Hid _ := GW'
           clear BW' RW' GW'))
      go_ret
      exact ⟨ret_int HT.out.symm, BW.out⟩
    · cases hy : inB y 0 (n - 1)
      · have HT : Hid (timeV n zs x y = -1) := timeV_no (by rw [hy]; simp)
        go_enter Try.func14, Try.ntmps14
        go_wp2_with fail
        refine (grid_any n a cap zs _ HA0.out).mono ?_
        rintro e w1 ⟨rfl, hb⟩
        rw [HM.out]
        obtain ⟨b1, r1, c0, c1⟩ := box2 hb
        obtain ⟨bW, rW, gW⟩ := grid_world (cellsOf (gridRes n zs)) b1 r1
        have BW : Hid _ := bW
        have RW : Hid _ := rW
        have GW : Hid _ := gW
        clear hb r1 b1 c0 c1 bW rW gW
        have HGE : ∃ gr, Hid (cellsOf (gridRes n zs) = gr) := ⟨_, rfl⟩
        obtain ⟨gr, HGR⟩ := HGE
        rw [HGR.out] at BW RW GW ⊢
        go_wp2_with (first
          | (
            with_reducible refine wpList_store_row ?_ 48 (.tmp 7) (.tmp 12) ?_ w1.heap.size gr ?_ ?_ 48 z0 ?_ ?_ ?_ ?_ ?_
            · rfl
            · rfl
            · rfl
            · rfl
            · exact heap_alloc_new _ _
            · rw [← HGR.out]; exact size41_of (gridRes_length _ _)
            · rw [← HZ.out, ← HGR.out, cellsOf_size, cellsOf_size, zeros_length, gridRes_length]
            · rw [← HGR.out]; exact cellsOf_one _
            rw [World.setRow_alloc_new]
            have c0 := cell_of_row _ _ 0 _ _ _ RW.out
            have c1 := cell_of_row _ _ 1 _ _ _ RW.out
            simp only [List.getElem?_toArray, List.getElem?_cons_zero, List.getElem?_cons_succ] at c0 c1
            generalize w1.alloc (Obj.cells gr 48) = W at *)
          | (go_at_call 30
             refine (isPlace_any _ _ _ _ hn1 hn2).mono ?_
             rintro e w2 ⟨rfl, hb2⟩
             obtain ⟨BW', RW', c0, c1⟩ := box2_more hb2 BW.out RW.out
             have GW' := below_row hb2 (row_lt GW.out) GW.out
             clear BW RW GW hb2
             have BW : Hid _ := BW'
             have RW : Hid _ := RW'
             have GW : Hid _ := GW'
             clear BW' RW' GW'))
        go_ret
        exact ⟨ret_int HT.out.symm, BW.out⟩
      · have hx' := inB_true hx
        have hy' := inB_true hy
        obtain ⟨n, rfl⟩ := Int.eq_ofNat_of_zero_le (show 0 ≤ n by omega)
        obtain ⟨x, rfl⟩ := Int.eq_ofNat_of_zero_le hx'.1
        obtain ⟨y, rfl⟩ := Int.eq_ofNat_of_zero_le hy'.1
        have HT : Hid (timeV n zs x y = zs.getD (x * n + y) 0) := timeV_at HM.out (by omega) (by omega)
        obtain ⟨t, HTT⟩ : ∃ t, Hid (zs.getD (x * n + y) 0 = t) := ⟨_, rfl⟩
        go_enter Try.func14, Try.ntmps14
        go_wp2_with fail
        refine (grid_any n a cap zs _ HA0.out).mono ?_
        rintro e w1 ⟨rfl, hb⟩
        rw [HM.out]
        obtain ⟨b1, r1, c0, c1⟩ := box2 hb
        obtain ⟨bW, rW, gW⟩ := grid_world (cellsOf (gridRes n zs)) b1 r1
        have BW : Hid _ := bW
        have RW : Hid _ := rW
        have GW : Hid _ := gW
        clear hb r1 b1 c0 c1 bW rW gW
        have HGE : ∃ gr, Hid (cellsOf (gridRes n zs) = gr) := ⟨_, rfl⟩
        obtain ⟨gr, HGR⟩ := HGE
        rw [HGR.out] at BW RW GW ⊢
        go_wp2_with (first
          | (
            with_reducible refine wpList_store_row ?_ 48 (.tmp 7) (.tmp 12) ?_ w1.heap.size gr ?_ ?_ 48 z0 ?_ ?_ ?_ ?_ ?_
            · rfl
            · rfl
            · rfl
            · rfl
            · exact heap_alloc_new _ _
            · rw [← HGR.out]; exact size41_of (gridRes_length _ _)
            · rw [← HZ.out, ← HGR.out, cellsOf_size, cellsOf_size, zeros_length, gridRes_length]
            · rw [← HGR.out]; exact cellsOf_one _
            rw [World.setRow_alloc_new]
            have c0 := cell_of_row _ _ 0 _ _ _ RW.out
            have c1 := cell_of_row _ _ 1 _ _ _ RW.out
            simp only [List.getElem?_toArray, List.getElem?_cons_zero, List.getElem?_cons_succ] at c0 c1
            generalize w1.alloc (Obj.cells gr 48) = W at *)
          | (go_at_call 30
             refine (isPlace_any _ _ _ _ hn1 hn2).mono ?_
             rintro e w2 ⟨rfl, hb2⟩
             obtain ⟨BW', RW', c0, c1⟩ := box2_more hb2 BW.out RW.out
             have GW' := below_row hb2 (row_lt GW.out) GW.out
             clear BW RW GW hb2
             have BW : Hid _ := BW'
             have RW : Hid _ := RW'
             have GW : Hid _ := GW'
             have cg := grid_cell (HGR.out.symm ▸ GW.out) HM.out (x := x) (y := y) (by omega) (by omega) (by omega)
             rw [HTT.out] at cg
             clear BW' RW' GW'))
        go_ret
        exact ⟨ret_int (HT.out.trans HTT.out).symm, BW.out⟩

end Go.Proofs.Ytchdcifhccjheaa

namespace Go.Proofs.Ytchdcifhccjheaa
open Go.RowKit

set_option maxHeartbeats 400000 in
theorem big_any (a : Option Addr) (c len : Nat) (w : World) (hl : len ≤ 9223372036854775807) :
    Calls Try.prog 5 #[.slice a len c] w fun e w' => e = .returned (.bool (decide (1048576 < len))) ∧ w' = w := by
  by_cases h : 1048576 < len
  · rw [decide_eq_true h]
    go_enter Try.func5, Try.ntmps5
    go_wp2
    go_ret
    exact ⟨by first | rfl | (simp; omega), rfl⟩
  · rw [decide_eq_false h]
    go_enter Try.func5, Try.ntmps5
    go_wp2
    go_ret
    exact ⟨by first | rfl | (simp; omega), rfl⟩

end Go.Proofs.Ytchdcifhccjheaa

namespace Go.Proofs.Ytchdcifhccjheaa
open Go.RowKit

set_option maxHeartbeats 400000 in
theorem sameInts_any (a b : Option Addr) (c1 c2 : Nat) (xs ys : List Int) (w : World) (hA : IntsAt w a xs) (hB : IntsAt w b ys) (hl1 : xs.length ≤ 1125899906842624) :
    Calls Try.prog 9 #[.slice a xs.length c1, .slice b ys.length c2] w fun e w' => e = .returned (.bool (decide (xs = ys))) ∧ Below w.heap.size w w' := by
  by_cases hl : xs.length = ys.length
  · have HA : Hid (IntsAt w a xs) := hA
    have HB : Hid (IntsAt w b ys) := hB
    have HL : Hid (xs.length = ys.length) := hl
    rw [hl] at hl1 ⊢
    clear hA hB hl
    go_enter Try.func9, Try.ntmps9
    go_wp2_with fail
    go_loopw [5] (fun t wr => ∃ k : Nat, k ≤ ys.length ∧ t = .int .i64 k ∧ Below w.heap.size w wr ∧ xs.take k = ys.take k) (fun t _ => ys.length - (intOf t).toNat)
    case atStart => exact ⟨0, Nat.zero_le _, rfl, Below.refl _ _, by simp⟩
    case round =>
      obtain ⟨k, hk, rfl, hb, he⟩ := hrel
      have HE : Hid (xs.take k = ys.take k) := he
      clear he
      by_cases hlt : k < ys.length
      · have hxk : k < xs.length := by rw [HL.out]; exact hlt
        obtain ⟨b1, o1, rfl, hc1⟩ := IntsAt.some (IntsAt.below HA.out hb) hxk
        obtain ⟨b2, o2, rfl, hc2⟩ := IntsAt.some (IntsAt.below HB.out hb) hlt
        have ct1 := hc1 k hxk
        have ct2 := hc2 k hlt
        clear hc1 hc2
        generalize ht1 : xs.getD k 0 = t1 at ct1
        generalize ht2 : ys.getD k 0 = t2 at ct2
        have H1 : Hid (xs.getD k 0 = t1) := ht1
        have H2 : Hid (ys.getD k 0 = t2) := ht2
        clear ht1 ht2
        by_cases ht : t1 = t2
        · have htb : (t1 != t2) = false := by simp [ht]
          have HT : Hid (t1 = t2) := ht
          clear ht
          go_wp2
          go_quiet (fail)
          go_wp2
          refine ⟨⟨k + 1, by omega, by go_num, below_drewN hb _, ?_⟩, by simp [intOf]; omega⟩
          rw [take_snoc xs k hxk, take_snoc ys k hlt, HE.out, H1.out, H2.out, HT.out]
        · have htb : (t1 != t2) = true := by simp [ht]
          have HN : Hid (decide (xs = ys) = false) := by
            apply decide_eq_false
            intro e
            exact ht (by rw [← H1.out, ← H2.out, e])
          clear ht
          go_wp2
          go_quiet (fail)
          go_wp2
          go_ret
          exact ⟨ret_bool HN.out.symm, below_drewN hb _⟩
      · have HN : Hid (decide (xs = ys) = true) := by
          apply decide_eq_true
          have h := HE.out
          rwa [List.take_of_length_le (by rw [HL.out]; omega), List.take_of_length_le (by omega)] at h
        go_wp2
        go_ret
        exact ⟨ret_bool HN.out.symm, hb⟩
  · have HN : Hid (decide (xs = ys) = false) := decide_eq_false fun e => hl (by rw [e])
    have hne : ((xs.length : Int) != (ys.length : Int)) = true := by rw [bne_iff_ne]; omega
    clear hA hB hl
    go_enter Try.func9, Try.ntmps9
    go_wp2
    go_ret
    exact ⟨ret_bool HN.out.symm, Below.refl _ _⟩

end Go.Proofs.Ytchdcifhccjheaa
