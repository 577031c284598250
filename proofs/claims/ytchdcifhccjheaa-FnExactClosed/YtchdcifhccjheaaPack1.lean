import Derived.Test.YtchdcifhccjheaaPack0
import Derived.Test.YtchdcifhccjheaaRows
import Derived.WalkKit
import Derived.WalkSpells
import Derived.WalkLawsBesides
import Derived.Deep.QuietTactic
import Derived.BigQuiet
import Derived.Deep.RegionWith
import Derived.Deep.RegionHeld3
import Derived.Deep.WholeRow
namespace Go.Proofs.Ytchdcifhccjheaa
end Go.Proofs.Ytchdcifhccjheaa

namespace Go.Proofs.Ytchdcifhccjheaa
open Go.RowKit

theorem Try.info2 : (Try.prog.info? 2).map (fun i => (i.zero, i.size, i.bytes)) = some (some (.int .i64 0), 1, 8) := by kernel_rfl

theorem make_ints (W : World) (len : Nat) (hlen : len ≤ 1048576) :
    (Instr.makeSlice 24 (.int .i64 len) (.int .i64 len)).run Try.prog W = .ok (.slice (some ⟨W.heap.size, 0, none⟩) len len) (W.alloc (.cells (cellsOf (List.replicate len 0)) 2)) := by
  have h := Try.info2
  cases hq : Try.prog.info? 2 with
  | none => simp [hq] at h
  | some i =>
    simp [hq] at h
    obtain ⟨hz, hs, hb⟩ := h
    have := run_make (P := Try.prog) W 24 2 i (.int .i64 0) Try.underlying24 hq hz .i64 .i64 len len (by omega) (by omega) (by rw [hb]; omega) (by omega)
    rw [this, hs]
    simp only [Int.toNat_natCast, made_zero]

end Go.Proofs.Ytchdcifhccjheaa

namespace Go.Proofs.Ytchdcifhccjheaa
open Go.RowKit

set_option maxHeartbeats 400000 in
theorem within_any (n lo hi : Int) (w : World) :
    Calls Try.prog 38 #[.int .i64 n, .int .i64 lo, .int .i64 hi] w fun e w' => e = .returned (.bool (inB n lo hi)) ∧ w' = w := by
  by_cases h1 : lo ≤ n
  · by_cases h2 : n ≤ hi
    · have h3 : inB n lo hi = true := inB_mk ⟨h1, h2⟩
      rw [h3]
      go_enter Try.func38, Try.ntmps38
      go_wp2
      go_ret
      exact ⟨by simp, rfl⟩
    · have h3 : inB n lo hi = false := inB_not (by omega)
      rw [h3]
      go_enter Try.func38, Try.ntmps38
      go_wp2
      go_ret
      exact ⟨by simp, rfl⟩
  · have h3 : inB n lo hi = false := inB_not (by omega)
    rw [h3]
    go_enter Try.func38, Try.ntmps38
    go_wp2
    go_ret
    exact ⟨by simp, rfl⟩

end Go.Proofs.Ytchdcifhccjheaa

namespace Go.Proofs.Ytchdcifhccjheaa
open Go.RowKit

theorem Try.info41 : (Try.prog.info? 48).map (fun i => (i.zero, i.size)) = some (some (.agg (cellsOf zeros)), 256) := by kernel_rfl

/-- The world inside gridOf: the boxed matrix, the result's cells, the grid's. -/
def GW (w wr : World) (n : Nat) (a : Option Addr) (cap : Nat) (z0 : Array Value) (gl : List Int) : Prop :=
  wr.heap.size = w.heap.size + 3 ∧ Below w.heap.size w wr ∧ wr.heap[w.heap.size]? = some (.cells #[.int .i64 n, .slice a (n * n) cap] 26 (0, 0)) ∧
  wr.heap[w.heap.size + 1]? = some (.cells z0 48 (0, 0)) ∧ wr.heap[w.heap.size + 1 + 1]? = some (.cells (cellsOf gl) 48 (0, 0))

theorem GW.step {w wr : World} {n : Nat} {a : Option Addr} {cap : Nat} {z0 : Array Value} {zs : List Int} {x y : Nat} {t : Int} (h : GW w wr n a cap z0 (gridTo n zs x y)) (hx : x < n) (hy : y < n) (hn : n ≤ 16) (ht : zs.getD (x * n + y) 0 = t) :
    GW w (wr.setCell ⟨w.heap.size + 1 + 1, x * 16 + y, none⟩ (.int .i64 t)) n a cap z0 (gridTo n zs x (y + 1)) := by
  obtain ⟨g1, g2, g3, g4, g5⟩ := h
  refine ⟨by simpa [World.setCell] using g1, g2.setCell (by simp; omega) _, ?_, ?_, ?_⟩
  · rw [heap_setCell_other _ _ _ _ (by simp; omega)]; exact g3
  · rw [heap_setCell_other _ _ _ _ (by simp)]; exact g4
  · rw [heap_setCell_same _ _ _ _ _ _ g5, cellsOf_set, ← ht, gridTo_step n zs x y hx hy hn]

theorem size41 : (Try.prog.info? 48).map (·.size) = some 256 := (zero_of_info Try.info41).2

theorem size41_of {l : List Int} (h : l.length = 256) : (Try.prog.info? 48).map (·.size) = some (cellsOf l).size := by
  rw [cellsOf_size, h]; exact size41

theorem ret_grid (tmps : Array Value) (W : World) (g : Nat) (l : List Int) (b : Bool) (hl : l.length = 256)
    (hp : tmps.getD 2 undef = .pointer (some ⟨g, 0, none⟩)) (hb : tmps.getD 3 undef = .bool b) (hg : W.heap[g]? = some (.cells (cellsOf l) 48 (0, 0))) :
    (results Try.f26 tmps).run Try.prog W = .ok (.tuple #[.agg (cellsOf l), .bool b]) W := by
  rw [results_cell_tmp Try.results26, hp, hb]
  simp only [asAddr, Sem.run_pure, Result.andThen_ok, run_loadVar_row W g 48 48 (cellsOf l) (0, 0) _ hg Try.underlying48 rfl (size41_of hl)]

set_option maxHeartbeats 1000000 in
theorem grid_loop (n : Nat) (a : Option Addr) (cap : Nat) (zs : List Int) (w : World) (h1 : 1 ≤ n) (h2 : n ≤ 16) (hl : zs.length = n * n) (hA : IntsAt w a zs) :
    Calls Try.prog 26 #[.agg #[.int .i64 n, .slice a zs.length cap]] w fun e w' => e = .returned (.tuple #[.agg (cellsOf (gridRes n zs)), .bool (matB n zs)]) ∧ Below w.heap.size w w' := by
    have hz := (zero_of_info Try.info41).1
    generalize hz0 : cellsOf zeros = z0 at hz
    have HZ : Hid (cellsOf zeros = z0) := hz0
    clear hz0
    have hnn : n * n ≤ 256 := mul_bd n n h2 h2
    have hd1 : inB (n : Int) 1 16 = true := inB_mk (by omega)
    have hnw : wrap64 ((n : Int) * (n : Int)) = (n : Int) * (n : Int) := IntWalk.wrap64_in _ (by rw [← Int.natCast_mul]; omega)
    have HA : Hid (IntsAt w a zs) := hA
    clear hA
    rw [hl]
    have HL : Hid (zs.length = n * n) := hl
    clear hl
    go_enter Try.func26, Try.ntmps26
    go_wp2_with (go_at_call 38; refine (within_any _ _ _ _).mono ?_; rintro e w' ⟨rfl, rfl⟩)
    go_loopw [26] (fun t wr => ∃ x : Nat, x ≤ n ∧ t = .int .i64 x ∧ GW w wr n a cap z0 (gridTo n zs x 0) ∧ okTo n zs x 0) (fun t _ => n - (intOf t).toNat)
    case atStart =>
      refine ⟨0, Nat.zero_le _, rfl, ⟨by simp, ?_, ?_, ?_, ?_⟩, okTo_zero _ _⟩
      · exact (((Below.refl _ _).alloc (Nat.le_refl _) _).alloc (by simp) _).alloc (by simp; omega) _
      · rw [heap_alloc_old _ _ (by simp; omega), heap_alloc_old _ _ (by simp)]
        exact heap_alloc_new _ _
      · rw [heap_alloc_old _ _ (by simp)]
        exact heap_alloc2_new _ _ _
      · rw [gridTo_zero, HZ.out]
        have := heap_alloc_new ((w.alloc (Obj.cells #[Value.int IntKind.i64 n, Value.slice a (n * n) cap] 26)).alloc (Obj.cells z0 48)) (Obj.cells z0 48)
        simpa using this
    case round =>
      obtain ⟨x, hx, rfl, hG, hok⟩ := hrel
      obtain ⟨g1, g2, g3, g4, g5⟩ := hG
      have c0 := cell_of_row _ _ 0 _ _ _ g3
      have c1 := cell_of_row _ _ 1 _ _ _ g3
      simp at c0 c1
      by_cases hlt : x < n
      · have G4 : Hid _ := g4
        have G5 : Hid _ := g5
        have HO : Hid _ := hok
        clear g4 g5 hok
        go_wp2_with fail
        go_loopw [31] (fun t wr => ∃ y : Nat, y ≤ n ∧ t = .int .i64 y ∧ GW w wr n a cap z0 (gridTo n zs x y) ∧ okTo n zs x y) (fun t _ => n - (intOf t).toNat)
        case atStart => exact ⟨0, Nat.zero_le _, rfl, ⟨g1, g2, g3, G4.out, G5.out⟩, HO.out⟩
        case round =>
          clear g1 g2 g3 c0 c1 G4 G5 HO
          obtain ⟨y, hy, rfl, hG, hok⟩ := hrel
          have HG : Hid (GW w wr n a cap z0 (gridTo n zs x y)) := hG
          obtain ⟨g1, g2, g3, g4, g5⟩ := hG
          have c0 := cell_of_row _ _ 0 _ _ _ g3
          have c1 := cell_of_row _ _ 1 _ _ _ g3
          simp at c0 c1
          by_cases hylt : y < n
          · have hxy : x * n + y < n * n := by
              have := Nat.mul_le_mul_right n (show x + 1 ≤ n by omega)
              rw [Nat.add_mul] at this
              omega
            obtain ⟨bb, off, rfl, hcs⟩ := IntsAt.some (IntsAt.below HA.out g2) (j := x * n + y) (by rw [HL.out]; exact hxy)
            have ct := hcs (x * n + y) (by rw [HL.out]; exact hxy)
            clear hcs
            generalize htt : zs.getD (x * n + y) 0 = t at ct
            have HT : Hid (zs.getD (x * n + y) 0 = t) := htt
            clear htt
            have cg := cell_of_row _ _ (x * 16 + y) _ _ _ g5
            rw [cellsOf_get _ _ (by rw [gridTo_length]; omega)] at cg
            have fg := frozen_of_row _ _ (x * 16 + y) _ _ g5
            have HO : Hid (okTo n zs x y) := hok
            clear hok
            have hwm : wrap64 ((x : Int) * (n : Int)) = (x : Int) * (n : Int) := IntWalk.wrap64_in _ (by rw [← Int.natCast_mul]; omega)
            by_cases hgood : 0 ≤ t ∧ t ≤ 10000 ∧ (x = y → t = 0)
            · have hvd : inB t 0 10000 = true := inB_mk (by omega)
              have HS : Hid (okTo n zs x (y + 1)) := okTo_step HO.out (by rw [HT.out]; exact hgood.1) (by rw [HT.out]; exact hgood.2.1) (by rw [HT.out]; exact hgood.2.2)
              clear HO g3 g4 g5 g2 g1
              by_cases hxe : x = y
              · have hne : ((x : Int) == (y : Int)) = true := by simp; omega
                have hne' : ((y : Int) == (y : Int)) = true := by simp
                have ht0 : (t != 0) = false := by simp [hgood.2.2 hxe]
                have HXE : Hid (x = y) := hxe
                clear hgood hxe
                go_wp2_with (first
                  | (go_at_call 38; refine (within_any _ _ _ _).mono ?_; rintro e w' ⟨rfl, rfl⟩))
                refine ⟨⟨y + 1, by omega, by go_num, HG.out.step hlt hylt h2 HT.out, HS.out⟩, by simp [intOf]; omega⟩
              · have hne : ((x : Int) == (y : Int)) = false := by simp; omega
                clear hgood hxe
                go_wp2_with (first
                  | (go_at_call 38; refine (within_any _ _ _ _).mono ?_; rintro e w' ⟨rfl, rfl⟩))
                refine ⟨⟨y + 1, by omega, by go_num, HG.out.step hlt hylt h2 HT.out, HS.out⟩, by simp [intOf]; omega⟩
            · have HB : Hid (matB n zs = false) := matB_bad n zs x y hlt hylt HL.out (by rw [HT.out]; exact hgood)
              have hzz : ∀ (wr : World), wr.heap[w.heap.size + 1]? = some (.cells z0 48 (0, 0)) → True := fun _ _ => trivial
              clear HO g3 g5 g1 hzz
              by_cases hv : 0 ≤ t ∧ t ≤ 10000
              · have hvd : inB t 0 10000 = true := inB_mk (by omega)
                have hxe : x = y := by omega
                have hne : ((x : Int) == (y : Int)) = true := by simp; omega
                have ht0 : (t != 0) = true := by simp; omega
                clear hgood hxe hv
                go_wp2_with (first
                  | (go_at_call 38; refine (within_any _ _ _ _).mono ?_; rintro e w' ⟨rfl, rfl⟩)
                  | (refine wpList_store_row rfl 48 (.tmp 2) (.tmp 56) rfl (w.heap.size + 1) z0 rfl rfl 48 z0 g4 (by rw [← HZ.out]; exact size41_of zeros_length) rfl (by rw [← HZ.out]; exact cellsOf_one _) ?_))
                refine bodyPost_ret (v := .tuple #[.agg (cellsOf zeros), .bool false]) (ret_grid _ _ (w.heap.size + 1) zeros false zeros_length rfl rfl ?_) rfl ⟨?_, ?_⟩
                · rw [HZ.out]; exact setRow_heap _ _ _ _ _ _ g4
                · exact ret_grid_eq (by rw [gridRes_false HB.out]) HB.out.symm
                · exact below_setRow g2 (by omega) _
              · have hvd : inB t 0 10000 = false := inB_not hv
                clear hgood hv
                go_wp2_with (first
                  | (go_at_call 38; refine (within_any _ _ _ _).mono ?_; rintro e w' ⟨rfl, rfl⟩)
                  | (refine wpList_store_row rfl 48 (.tmp 2) (.tmp 56) rfl (w.heap.size + 1) z0 rfl rfl 48 z0 g4 (by rw [← HZ.out]; exact size41_of zeros_length) rfl (by rw [← HZ.out]; exact cellsOf_one _) ?_))
                refine bodyPost_ret (v := .tuple #[.agg (cellsOf zeros), .bool false]) (ret_grid _ _ (w.heap.size + 1) zeros false zeros_length rfl rfl ?_) rfl ⟨?_, ?_⟩
                · rw [HZ.out]; exact setRow_heap _ _ _ _ _ _ g4
                · exact ret_grid_eq (by rw [gridRes_false HB.out]) HB.out.symm
                · exact below_setRow g2 (by omega) _
          · have hye : y = n := by omega
            have HO : Hid (okTo n zs (x + 1) 0) := okTo_row (hye ▸ hok)
            have HG' : Hid (GW w wr n a cap z0 (gridTo n zs (x + 1) 0)) := by
              have := HG.out
              rw [hye, gridTo_row] at this
              exact this
            clear hok hye HG g3 g4 g5
            go_wp2_with fail
            refine ⟨⟨x + 1, by omega, by go_num, HG'.out, HO.out⟩, by simp [intOf]; omega⟩
      · have hge : n ≤ x := by omega
        have Hxn : Hid (x = n) := by show x = n; omega
        go_wp2_with (first
          | (refine wpList_load_row rfl 48 (.tmp 4) rfl (w.heap.size + 1 + 1) rfl 48 (cellsOf (gridTo n zs x 0)) (0, 0) _ g5 Try.underlying48 rfl (size41_of (gridTo_length _ _ _ _)) ?_)
          | (refine wpList_store_row rfl 48 (.tmp 2) (.tmp 64) rfl (w.heap.size + 1) (cellsOf (gridTo n zs x 0)) rfl rfl 48 z0 g4 (size41_of (gridTo_length _ _ _ _)) (by rw [← HZ.out, cellsOf_size, cellsOf_size, zeros_length, gridTo_length]) (cellsOf_one _) ?_))
        refine bodyPost_ret (v := .tuple #[.agg (cellsOf (gridTo n zs x 0)), .bool true]) (ret_grid _ _ (w.heap.size + 1) (gridTo n zs x 0) true (gridTo_length _ _ _ _) rfl rfl ?_) rfl ⟨?_, ?_⟩
        · exact setRow_heap _ _ _ _ _ _ g4
        · have e := Hxn.out
          have hm := matB_of_okTo n zs h1 h2 HL.out (e ▸ hok)
          exact ret_grid_eq (by rw [gridRes_true hm, e]) hm.symm
        · exact below_setRow g2 (by omega) _

set_option maxHeartbeats 1000000 in
theorem grid_out (n : Int) (a : Option Addr) (len cap : Nat) (w : World) (hn : ¬ (1 ≤ n ∧ n ≤ 16)) :
    Calls Try.prog 26 #[.agg #[.int .i64 n, .slice a len cap]] w fun e w' => e = .returned (.tuple #[.agg (cellsOf zeros), .bool false]) ∧ Below w.heap.size w w' := by
  have hz := (zero_of_info Try.info41).1
  generalize hz0 : cellsOf zeros = z0 at hz
  have HZ : Hid (cellsOf zeros = z0) := hz0
  clear hz0
  have hd1 : inB n 1 16 = false := inB_not hn
  clear hn
  go_enter Try.func26, Try.ntmps26
  go_wp2_with fail
  refine (within_any _ _ _ _).mono ?_; rintro e w' ⟨rfl, rfl⟩
  have HG4 : Hid (((((w.alloc (Obj.cells #[Value.int IntKind.i64 n, Value.slice a len cap] 26)).alloc (Obj.cells z0 48)).alloc (Obj.cells z0 48)).heap)[w.heap.size + 1]? = some (.cells z0 48 (0, 0))) := by
    show _ = _
    rw [heap_alloc_old _ _ (by simp)]
    exact heap_alloc2_new _ _ _
  go_wp2_with (
    with_reducible refine wpList_store_row ?_ 48 (.tmp 2) (.tmp 23) ?_ (w.heap.size + 1) z0 ?_ ?_ 48 z0 ?_ ?_ ?_ ?_ ?_
    · rfl
    · rfl
    · rfl
    · rfl
    · exact HG4.out
    · rw [← HZ.out]; exact size41_of zeros_length
    · rfl
    · rw [← HZ.out]; exact cellsOf_one _)
  refine bodyPost_ret (v := .tuple #[.agg (cellsOf zeros), .bool false]) (ret_grid _ _ (w.heap.size + 1) zeros false zeros_length rfl rfl ?_) rfl ⟨by rw [HZ.out], ?_⟩
  · rw [HZ.out]; exact setRow_heap _ _ _ _ _ _ HG4.out
  · exact below_setRow ((((Below.refl _ _).alloc (Nat.le_refl _) _).alloc (by simp) _).alloc (by simp; omega) _) (by omega) _

set_option maxHeartbeats 1000000 in
theorem grid_len (n : Nat) (a : Option Addr) (len cap : Nat) (w : World) (h1 : 1 ≤ n) (h2 : n ≤ 16) (hl : len ≠ n * n) :
    Calls Try.prog 26 #[.agg #[.int .i64 n, .slice a len cap]] w fun e w' => e = .returned (.tuple #[.agg (cellsOf zeros), .bool false]) ∧ Below w.heap.size w w' := by
  have hz := (zero_of_info Try.info41).1
  generalize hz0 : cellsOf zeros = z0 at hz
  have HZ : Hid (cellsOf zeros = z0) := hz0
  clear hz0
  have hnn : n * n ≤ 256 := mul_bd n n h2 h2
  have hd1 : inB (n : Int) 1 16 = true := inB_mk (by omega)
  have hnw : wrap64 ((n : Int) * (n : Int)) = (n : Int) * (n : Int) := IntWalk.wrap64_in _ (by rw [← Int.natCast_mul]; omega)
  have hne : ((len : Int) != (n : Int) * (n : Int)) = true := by rw [bne_iff_ne, ← Int.natCast_mul]; omega
  have G4 : ((((w.alloc (Obj.cells #[Value.int IntKind.i64 n, .slice a len cap] 26)).alloc (Obj.cells z0 48)).alloc (Obj.cells z0 48)).heap)[w.heap.size + 1]? = some (.cells z0 48 (0, 0)) := by
    rw [heap_alloc_old _ _ (by simp)]
    exact heap_alloc2_new _ _ _
  have HG4 : Hid _ := G4
  clear G4 hl
  go_enter Try.func26, Try.ntmps26
  go_wp2_with (first
    | (go_at_call 38; refine (within_any _ _ _ _).mono ?_; rintro e w' ⟨rfl, rfl⟩)
    | (refine wpList_store_row rfl 48 (.tmp 2) (.tmp 23) rfl (w.heap.size + 1) z0 rfl rfl 48 z0 HG4.out (by rw [← HZ.out]; exact size41_of zeros_length) rfl (by rw [← HZ.out]; exact cellsOf_one _) ?_))
  refine bodyPost_ret (v := .tuple #[.agg (cellsOf zeros), .bool false]) (ret_grid _ _ (w.heap.size + 1) zeros false zeros_length rfl rfl ?_) rfl ⟨by rw [HZ.out], ?_⟩
  · rw [HZ.out]; exact setRow_heap _ _ _ _ _ _ HG4.out
  · exact below_setRow ((((Below.refl _ _).alloc (Nat.le_refl _) _).alloc (by simp) _).alloc (by simp; omega) _) (by omega) _

theorem grid_any (n : Int) (a : Option Addr) (cap : Nat) (zs : List Int) (w : World) (hA : IntsAt w a zs) :
    Calls Try.prog 26 #[.agg #[.int .i64 n, .slice a zs.length cap]] w fun e w' => e = .returned (.tuple #[.agg (cellsOf (gridRes n zs)), .bool (matB n zs)]) ∧ Below w.heap.size w w' := by
  by_cases hn : 1 ≤ n ∧ n ≤ 16
  · obtain ⟨m, rfl⟩ := Int.eq_ofNat_of_zero_le (show 0 ≤ n by omega)
    by_cases hl : zs.length = m * m
    · exact grid_loop m a cap zs w (by omega) (by omega) hl hA
    · have hm : matB (m : Int) zs = false := matB_not fun h => hl (by have := h.2.2.1; rw [← Int.natCast_mul] at this; omega)
      rw [gridRes_false hm, hm]
      exact grid_len m a zs.length cap w (by omega) (by omega) hl
  · have hm : matB n zs = false := matB_not fun h => hn ⟨h.1, h.2.1⟩
    rw [gridRes_false hm, hm]
    exact grid_out n _ _ _ w hn

end Go.Proofs.Ytchdcifhccjheaa

namespace Go.Proofs.Ytchdcifhccjheaa
open Go.RowKit

/-- The world behind 'g, ok := gridOf(m)': the boxed matrix, and the grid in a block of its own. -/
theorem grid_world {w w1 : World} {c0 c1 : Value} {T : TypeId} (gr : Array Value) (b1 : Below w.heap.size w w1) (r1 : w1.heap[w.heap.size]? = some (.cells #[c0, c1] T (0, 0))) :
    Below w.heap.size w (w1.alloc (.cells gr 48)) ∧ (w1.alloc (.cells gr 48)).heap[w.heap.size]? = some (.cells #[c0, c1] T (0, 0)) ∧
    (w1.alloc (.cells gr 48)).heap[w1.heap.size]? = some (.cells gr 48 (0, 0)) :=
  ⟨b1.alloc b1.size _, by rw [heap_alloc_old _ _ (row_lt r1)]; exact r1, heap_alloc_new _ _⟩

end Go.Proofs.Ytchdcifhccjheaa

namespace Go.Proofs.Ytchdcifhccjheaa
open Go.RowKit

/-- The worlds in which all that was there is as it was. -/
def Kin (wr : World) : Type := { x : World // Below wr.heap.size wr x }
/-- One of them, as a world. -/
def Kin.w {wr : World} (s : Kin wr) : World := s.1
theorem Kin.there (wr : World) : Nonempty (Kin wr) := ⟨⟨wr, Below.refl _ _⟩⟩
theorem Kin.below {wr : World} (s : Kin wr) : Below wr.heap.size wr s.w := s.2
theorem Kin.cell {wr : World} (s : Kin wr) {b o : Nat} {v : Value} (h : wr.cell? ⟨b, o, none⟩ = some v) : s.w.cell? ⟨b, o, none⟩ = some v := by
  rw [s.below.cell (p := ⟨b, o, none⟩) (block_lt_of_cell h)]; exact h

/-- A region that draws its order, whose operations read and whose callees leave what was there: one walk, in the text's order. -/
theorem wp_region_kin {P : Program} {id : Nat} {Q : Exit → Act → World → Prop} {a : Act} {w : World} {l : List Oper} (hm : P.follows .mixedOrders = true) (hB : Region.lexB .any l.toArray = true)
    (h : wpQuiet P l.toArray (fun w' => ∃ s : Kin w, w' = s.w) (fun a' => ∀ w', (∃ s : Kin w, w' = s.w) → Q .normal a' w') l a) : (Code.region id l.toArray true).wp P Q a w :=
  wp_region_quiet (C := fun w' => ∃ s : Kin w, w' = s.w) hm hB ⟨⟨_, (Below.refl _ _).drew⟩, rfl⟩ (by simpa using h)

theorem Kin.call {P : Program} {f : FuncId} {args : Array Value} {wr : World} {s : Kin wr} {v : Value}
    (h : Calls P f args s.w fun e w' => e = .returned v ∧ Below s.w.heap.size s.w w') : Calls P f args s.w fun e w'' => e = .returned v ∧ ∃ s' : Kin wr, w'' = s'.w :=
  h.mono fun _ w' ⟨he, hb⟩ => ⟨he, ⟨w', s.below.trans (hb.mono s.below.size)⟩, rfl⟩
theorem Kin.call_same {P : Program} {f : FuncId} {args : Array Value} {wr : World} {s : Kin wr} {v : Value}
    (h : Calls P f args s.w fun e w' => e = .returned v ∧ w' = s.w) : Calls P f args s.w fun e w'' => e = .returned v ∧ ∃ s' : Kin wr, w'' = s'.w :=
  h.mono fun _ _ ⟨he, hb⟩ => ⟨he, s, hb⟩

end Go.Proofs.Ytchdcifhccjheaa

namespace Go.Proofs.Ytchdcifhccjheaa
open Go.RowKit

theorem next_round {n y : Nat} (hy : y < n) (P : Nat → Prop) (h : P (y + 1)) :
    (∃ k, k ≤ n ∧ Value.int IntKind.i64 ((y : Int) + 1) = Value.int IntKind.i64 (k : Int) ∧ P k) ∧ n - (intOf (Value.int IntKind.i64 ((y : Int) + 1))).toNat < n - (intOf (Value.int IntKind.i64 (y : Int))).toNat := by
  have e : ((y : Int) + 1) = ((y + 1 : Nat) : Int) := by simp
  rw [e]
  refine ⟨⟨y + 1, hy, rfl, h⟩, ?_⟩
  simp [intOf]
  omega

end Go.Proofs.Ytchdcifhccjheaa

namespace Go.Proofs.Ytchdcifhccjheaa
open Go.RowKit

set_option maxHeartbeats 400000 in
theorem l1In_any (n lo hi : Int) (w : World) :
    Calls Try.prog 29 #[.int .i64 n, .int .i64 lo, .int .i64 hi] w fun e w' => e = .returned (.bool (inB n lo hi)) ∧ w' = w := by
  by_cases h1 : lo ≤ n
  · by_cases h2 : n ≤ hi
    · have h3 : inB n lo hi = true := inB_mk ⟨h1, h2⟩
      rw [h3]
      go_enter Try.func29, Try.ntmps29
      go_wp2
      go_ret
      exact ⟨by simp, rfl⟩
    · have h3 : inB n lo hi = false := inB_not (by omega)
      rw [h3]
      go_enter Try.func29, Try.ntmps29
      go_wp2
      go_ret
      exact ⟨by simp, rfl⟩
  · have h3 : inB n lo hi = false := inB_not (by omega)
    rw [h3]
    go_enter Try.func29, Try.ntmps29
    go_wp2
    go_ret
    exact ⟨by simp, rfl⟩

end Go.Proofs.Ytchdcifhccjheaa

namespace Go.Proofs.Ytchdcifhccjheaa
open Go.RowKit

set_option maxHeartbeats 1000000 in
theorem specMat_loop (n : Nat) (a : Option Addr) (cap : Nat) (zs : List Int) (w : World) (h1 : 1 ≤ n) (h2 : n ≤ 16) (hl : zs.length = n * n) (hA : IntsAt w a zs) :
    Calls Try.prog 12 #[.agg #[.int .i64 n, .slice a zs.length cap]] w fun e w' => e = .returned (.bool (matB n zs)) ∧ Below w.heap.size w w' := by
  have hnn : n * n ≤ 256 := mul_bd n n h2 h2
  have hd1 : inB (n : Int) 1 16 = true := inB_mk (by omega)
  have hnw : wrap64 ((n : Int) * (n : Int)) = (n : Int) * (n : Int) := IntWalk.wrap64_in _ (by rw [← Int.natCast_mul]; omega)
  have hn0 : ¬ n = 0 := by omega
  have HA : Hid (IntsAt w a zs) := hA
  clear hA
  rw [hl]
  have HL : Hid (zs.length = n * n) := hl
  clear hl
  go_enter Try.func12, Try.ntmps12
  go_wp2_with (go_at_call 29; refine (l1In_any _ _ _ _).mono ?_; rintro e w' ⟨rfl, rfl⟩)
  go_loopw [3] (fun t wr => ∃ k : Nat, k ≤ n * n ∧ t = .int .i64 k ∧ Below w.heap.size w wr ∧ wr.heap[w.heap.size]? = some (.cells #[.int .i64 n, .slice a (n * n) cap] 26 (0, 0)) ∧ (∀ i, i < k → 0 ≤ zs.getD i 0 ∧ zs.getD i 0 ≤ 10000 ∧ (i / n = i % n → zs.getD i 0 = 0))) (fun t _ => n * n - (intOf t).toNat)
  case atStart => exact ⟨0, Nat.zero_le _, rfl, (Below.refl _ _).alloc (Nat.le_refl _) _, heap_alloc_new _ _, fun i hi => by omega⟩
  case round =>
    obtain ⟨k, hk, rfl, hb, g3, hok⟩ := hrel
    have c0 := cell_of_row _ _ 0 _ _ _ g3
    have c1 := cell_of_row _ _ 1 _ _ _ g3
    simp at c0 c1
    have HO : Hid (∀ i, i < k → 0 ≤ zs.getD i 0 ∧ zs.getD i 0 ≤ 10000 ∧ (i / n = i % n → zs.getD i 0 = 0)) := hok
    have G3 : Hid _ := g3
    have HB : Hid _ := hb
    clear hok
    by_cases hlt : k < n * n
    · obtain ⟨bb, off, rfl, hcs⟩ := IntsAt.some (IntsAt.below HA.out hb) (j := k) (by rw [HL.out]; exact hlt)
      have ct := hcs k (by rw [HL.out]; exact hlt)
      clear hcs
      generalize htt : zs.getD k 0 = t at ct
      have HT : Hid (zs.getD k 0 = t) := htt
      clear htt g3 hb
      have hw1 : IntKind.i64.wrap ((k : Int) / (n : Int)) = (k : Int) / (n : Int) := by
        rw [IntKind.wrap_i64, ← Int.natCast_ediv]
        have hq := Nat.div_le_self k n
        generalize k / n = q at hq
        omega
      have hw2 : (k : Int).tmod (n : Int) = (k : Int) % (n : Int) := Int.tmod_eq_emod_of_nonneg (by omega)
      have hlt' : (k : Int) < (n : Int) * (n : Int) := by rw [← Int.natCast_mul]; omega
      by_cases hv : 0 ≤ t ∧ t ≤ 10000
      · have hvd : inB t 0 10000 = true := inB_mk hv
        by_cases hq : k / n = k % n
        · have hqb : ((k : Int) / (n : Int) == (k : Int) % (n : Int)) = true := by simp; omega
          by_cases ht0 : t = 0
          · have htb : (t != 0) = false := by simp [ht0]
            have HS : Hid (∀ i, i < k + 1 → 0 ≤ zs.getD i 0 ∧ zs.getD i 0 ≤ 10000 ∧ (i / n = i % n → zs.getD i 0 = 0)) := by
              intro i hi
              by_cases e : i = k
              · rw [e, HT.out]; exact ⟨hv.1, hv.2, fun _ => ht0⟩
              · exact HO.out i (by omega)
            clear HO hq ht0
            go_wp2
            go_quiet ((go_at_call 29; exact Calls.quiet_of_same (l1In_any _ _ _ _)))
            go_wp2
            refine ⟨⟨k + 1, by omega, by go_num, below_drewN HB.out _, G3.out, HS.out⟩, by simp [intOf]; omega⟩
          · have htb : (t != 0) = true := by simp [ht0]
            have HN : Hid (matB n zs = false) := matB_at n zs HL.out k hlt (by rw [HT.out]; exact fun h => ht0 (h.2.2 hq))
            clear HO hq ht0
            go_wp2
            go_quiet ((go_at_call 29; exact Calls.quiet_of_same (l1In_any _ _ _ _)))
            go_wp2
            go_ret
            exact ⟨ret_bool HN.out.symm, below_drewN HB.out _⟩
        · have hqb : ((k : Int) / (n : Int) == (k : Int) % (n : Int)) = false := by simp; omega
          have HS : Hid (∀ i, i < k + 1 → 0 ≤ zs.getD i 0 ∧ zs.getD i 0 ≤ 10000 ∧ (i / n = i % n → zs.getD i 0 = 0)) := by
            intro i hi
            by_cases e : i = k
            · rw [e, HT.out]; exact ⟨hv.1, hv.2, fun h => absurd h hq⟩
            · exact HO.out i (by omega)
          clear HO hq
          go_wp2
          go_quiet ((go_at_call 29; exact Calls.quiet_of_same (l1In_any _ _ _ _)))
          go_wp2
          refine ⟨⟨k + 1, by omega, by go_num, below_drewN HB.out _, G3.out, HS.out⟩, by simp [intOf]; omega⟩
      · have hvd : inB t 0 10000 = false := inB_not hv
        have HN : Hid (matB n zs = false) := matB_at n zs HL.out k hlt (by rw [HT.out]; exact fun h => hv ⟨h.1, h.2.1⟩)
        clear HO hv
        go_wp2
        go_quiet ((go_at_call 29; exact Calls.quiet_of_same (l1In_any _ _ _ _)))
        go_wp2
        go_ret
        exact ⟨ret_bool HN.out.symm, below_drewN HB.out _⟩
    · have hge' : (n : Int) * (n : Int) ≤ (k : Int) := by rw [← Int.natCast_mul]; omega
      have HN : Hid (matB n zs = true) := matB_all n zs h1 h2 HL.out (fun i hi => HO.out i (by omega))
      clear HO g3
      go_wp2
      go_ret
      exact ⟨ret_bool HN.out.symm, HB.out⟩

set_option maxHeartbeats 1000000 in
theorem specMat_no (n : Int) (a : Option Addr) (len cap : Nat) (w : World) (h : ¬ (1 ≤ n ∧ n ≤ 16 ∧ (len : Int) = n * n)) :
    Calls Try.prog 12 #[.agg #[.int .i64 n, .slice a len cap]] w fun e w' => e = .returned (.bool false) ∧ Below w.heap.size w w' := by
  by_cases hn : 1 ≤ n ∧ n ≤ 16
  · obtain ⟨m, rfl⟩ := Int.eq_ofNat_of_zero_le (show 0 ≤ n by omega)
    have hnn : m * m ≤ 256 := mul_bd m m (by omega) (by omega)
    have hd1 : inB (m : Int) 1 16 = true := inB_mk hn
    have hnw : wrap64 ((m : Int) * (m : Int)) = (m : Int) * (m : Int) := IntWalk.wrap64_in _ (by rw [← Int.natCast_mul]; omega)
    have hne : ((len : Int) != (m : Int) * (m : Int)) = true := by
      rw [bne_iff_ne]; exact fun e => h ⟨hn.1, hn.2, e⟩
    clear h
    go_enter Try.func12, Try.ntmps12
    go_wp2_with (go_at_call 29; refine (l1In_any _ _ _ _).mono ?_; rintro e w' ⟨rfl, rfl⟩)
    go_ret
    exact ⟨rfl, (Below.refl _ _).alloc (Nat.le_refl _) _⟩
  · have hd1 : inB n 1 16 = false := inB_not hn
    clear h hn
    go_enter Try.func12, Try.ntmps12
    go_wp2_with (go_at_call 29; refine (l1In_any _ _ _ _).mono ?_; rintro e w' ⟨rfl, rfl⟩)
    go_ret
    exact ⟨rfl, (Below.refl _ _).alloc (Nat.le_refl _) _⟩

theorem specMat_any (n : Int) (a : Option Addr) (cap : Nat) (zs : List Int) (w : World) (hA : IntsAt w a zs) :
    Calls Try.prog 12 #[.agg #[.int .i64 n, .slice a zs.length cap]] w fun e w' => e = .returned (.bool (matB n zs)) ∧ Below w.heap.size w w' := by
  by_cases h : 1 ≤ n ∧ n ≤ 16 ∧ (zs.length : Int) = n * n
  · obtain ⟨m, rfl⟩ := Int.eq_ofNat_of_zero_le (show 0 ≤ n by omega)
    exact specMat_loop m a cap zs w (by omega) (by omega) (by have := h.2.2; rw [← Int.natCast_mul] at this; omega) hA
  · have hm : matB n zs = false := matB_not fun k => h ⟨k.1, k.2.1, k.2.2.1⟩
    rw [hm]
    exact specMat_no n a _ cap w h

end Go.Proofs.Ytchdcifhccjheaa

namespace Go.Proofs.Ytchdcifhccjheaa
open Go.RowKit

set_option maxHeartbeats 400000 in
theorem l1Time_any (n x y : Nat) (a : Option Addr) (len cap : Nat) (zs : List Int) (w : World) (hn : n ≤ 16) (hx : x < n) (hy : y < n) (hl : zs.length = n * n) (hlen : len = n * n) (hA : IntsAt w a zs) :
    Calls Try.prog 28 #[.agg #[.int .i64 n, .slice a len cap], .int .i64 x, .int .i64 y] w fun e w' => e = .returned (.int .i64 (zs.getD (x * n + y) 0)) ∧ Below w.heap.size w w' := by
  subst hlen
  have hnn : n * n ≤ 256 := mul_bd n n hn hn
  have hxy : x * n + y < n * n := by
    have := Nat.mul_le_mul_right n (show x + 1 ≤ n by omega)
    rw [Nat.add_mul] at this
    omega
  obtain ⟨bb, off, rfl, hcs⟩ := hA.some (j := x * n + y) (by omega)
  have ct := hcs (x * n + y) (by omega)
  have hlt := block_lt_of_cell ct
  clear hcs hA
  generalize zs.getD (x * n + y) 0 = t at ct
  have hwm : wrap64 ((x : Int) * (n : Int)) = (x : Int) * (n : Int) := IntWalk.wrap64_in _ (by rw [← Int.natCast_mul]; omega)
  simp at hlt
  clear hl
  go_enter Try.func28, Try.ntmps28
  go_wp2
  go_ret
  exact ⟨rfl, (Below.refl _ _).alloc (Nat.le_refl _) _⟩

theorem l1Time_tm (n x y : Nat) (a : Option Addr) (cap : Nat) (zs : List Int) (w : World) (hn : n ≤ 16) (hx : x < n) (hy : y < n) (hl : zs.length = n * n) (hA : IntsAt w a zs) :
    Calls Try.prog 28 #[.agg #[.int .i64 n, .slice a zs.length cap], .int .i64 x, .int .i64 y] w fun e w' => e = .returned (.int .i64 (tm n zs x y)) ∧ Below w.heap.size w w' :=
  l1Time_any n x y a zs.length cap zs w hn hx hy hl hl hA

end Go.Proofs.Ytchdcifhccjheaa

namespace Go.Proofs.Ytchdcifhccjheaa
open Go.RowKit

set_option maxHeartbeats 400000 in
theorem szInts_any (a : Option Addr) (len cap : Nat) (left : Int) (w : World) (h0 : 0 ≤ left) (h1 : left ≤ 1048576) (hlen : len ≤ 9223372036854775807) :
    Calls Try.prog 31 #[.slice a len cap, .int .i64 left] w fun e w' => e = .returned (.int .i64 (if left < len then -1 else left - len)) ∧ w' = w := by
  by_cases hlt : left < len
  · rw [if_pos hlt]
    go_enter Try.func31, Try.ntmps31
    go_wp2
    go_ret
    exact ⟨by simp, rfl⟩
  · rw [if_neg hlt]
    go_enter Try.func31, Try.ntmps31
    go_wp2
    go_ret
    exact ⟨by simp, rfl⟩

end Go.Proofs.Ytchdcifhccjheaa

namespace Go.Proofs.Ytchdcifhccjheaa
open Go.RowKit

set_option maxHeartbeats 400000 in
theorem szMat_any (n : Int) (a : Option Addr) (len cap : Nat) (left : Int) (w : World) (h0 : 0 ≤ left) (h1 : left ≤ 1048576) (hlen : len ≤ 9223372036854775807) :
    Calls Try.prog 16 #[.agg #[.int .i64 n, .slice a len cap], .int .i64 left] w fun e w' => e = .returned (.int .i64 (if left < len then -1 else left - len)) ∧ Below w.heap.size w w' := by
  by_cases hlt : left < len
  · rw [if_pos hlt]
    go_enter Try.func16, Try.ntmps16
    go_wp2_with (go_at_call 31; refine (szInts_any _ _ _ _ _ h0 h1 hlen).mono ?_; rintro e w' ⟨rfl, rfl⟩)
    go_ret
    exact ⟨by simp, (Below.refl _ _).alloc (Nat.le_refl _) _⟩
  · rw [if_neg hlt]
    go_enter Try.func16, Try.ntmps16
    go_wp2_with (go_at_call 31; refine (szInts_any _ _ _ _ _ h0 h1 hlen).mono ?_; rintro e w' ⟨rfl, rfl⟩)
    go_ret
    exact ⟨by simp, (Below.refl _ _).alloc (Nat.le_refl _) _⟩

end Go.Proofs.Ytchdcifhccjheaa

namespace Go.Proofs.Ytchdcifhccjheaa
open Go.RowKit

set_option maxHeartbeats 400000 in
theorem toInts_any (a : Option Addr) (cap : Nat) (zs : List Int) (w : World) (hA : IntsAt w a zs) (hlen : zs.length ≤ 1048576) :
    Calls Try.prog 32 #[.slice a zs.length cap] w fun e w' => e = .returned (.slice (some ⟨w.heap.size, 0, none⟩) zs.length zs.length) ∧ Below w.heap.size w w' ∧ w'.heap.size = w.heap.size + 1 ∧ w'.heap[w.heap.size]? = some (.cells (cellsOf zs) 2 (0, 0)) := by
  have HA : Hid (IntsAt w a zs) := hA
  clear hA
  have hmk := fun W => make_ints W zs.length hlen
  go_enter Try.func32, Try.ntmps32
  go_wp2_with fail
  clear hmk
  go_loopw [4] (fun t wr => ∃ k : Nat, k ≤ zs.length ∧ t = .int .i64 k ∧ Below w.heap.size w wr ∧ wr.heap.size = w.heap.size + 1 ∧ wr.heap[w.heap.size]? = some (.cells (cellsOf (zs.take k ++ List.replicate (zs.length - k) 0)) 2 (0, 0))) (fun t _ => zs.length - (intOf t).toNat)
  case atStart =>
    refine ⟨0, Nat.zero_le _, rfl, (Below.refl _ _).alloc (Nat.le_refl _) _, by simp, ?_⟩
    simpa using heap_alloc_new w _
  case round =>
    obtain ⟨k, hk, rfl, hb, hsz, hg⟩ := hrel
    by_cases hlt : k < zs.length
    · obtain ⟨bb, off, rfl, hcs⟩ := IntsAt.some (IntsAt.below HA.out hb) hlt
      have ct := hcs k hlt
      clear hcs
      generalize htt : zs.getD k 0 = t at ct
      have HT : Hid (zs.getD k 0 = t) := htt
      clear htt
      have cg := cell_of_row _ _ k _ _ _ hg
      rw [cellsOf_get _ _ (by simp; omega)] at cg
      have fg := frozen_of_row _ _ k _ _ hg
      have HG : Hid _ := hg
      have HZ : Hid _ := hsz
      have HB : Hid _ := hb
      clear hg hsz hb
      go_wp2
      refine ⟨⟨k + 1, by omega, by go_num, HB.out.setCell (Nat.le_refl _) _, ?_, ?_⟩, by simp [intOf]; omega⟩
      · have := HZ.out
        simpa [World.setCell] using this
      · rw [heap_setCell_same _ _ _ _ _ _ HG.out, cellsOf_set, ← HT.out, copy_step zs k hlt]
    · have hkz : k = zs.length := by omega
      have HG : Hid (wr.heap[w.heap.size]? = some (.cells (cellsOf zs) 2 (0, 0))) := by
        show _ = _
        rw [hg, hkz]; simp
      have HZ : Hid _ := hsz
      clear hg hsz hkz
      go_wp2
      go_ret
      exact ⟨rfl, hb, HZ.out, HG.out⟩

end Go.Proofs.Ytchdcifhccjheaa

namespace Go.Proofs.Ytchdcifhccjheaa
open Go.RowKit

set_option maxHeartbeats 400000 in
theorem toMat_any (n : Int) (a : Option Addr) (cap : Nat) (zs : List Int) (w : World) (hA : IntsAt w a zs) (hlen : zs.length ≤ 1048576) :
    Calls Try.prog 17 #[.agg #[.int .i64 n, .slice a zs.length cap]] w fun e w' => ∃ g, w.heap.size ≤ g ∧ e = .returned (.agg #[.int .i64 n, .slice (some ⟨g, 0, none⟩) zs.length zs.length]) ∧ Below w.heap.size w w' ∧ w'.heap[g]? = some (.cells (cellsOf zs) 2 (0, 0)) := by
  have HA : Hid (IntsAt w a zs) := hA
  clear hA
  go_enter Try.func17, Try.ntmps17
  go_wp2_with fail
  have HB0 : Hid (Below w.heap.size w (((w.alloc (Obj.cells #[Value.int IntKind.i64 n, Value.slice a zs.length cap] 34)).alloc (Obj.cells #[Value.int IntKind.i64 0, Value.slice none 0 0] 26)).alloc (Obj.cells #[Value.int IntKind.i64 n, Value.slice none 0 0] 26))) :=
    (((Below.refl _ _).alloc (Nat.le_refl _) _).alloc (by simp) _).alloc (by simp; omega) _
  refine (toInts_any a cap zs _ (HA.out.below HB0.out) hlen).mono ?_
  rintro e w1 ⟨rfl, hb, hsz, hg⟩
  obtain ⟨hc, hf⟩ := bcell hb
  have HB1 : Hid _ := hb
  have HG : Hid _ := hg
  clear hb hg
  simp at hsz
  go_wp2
  refine bodyPost_ret (v := .agg #[.int .i64 n, .slice (some ⟨w.heap.size + 1 + 1 + 1, 0, none⟩) zs.length zs.length]) (by simp [results, Try.results17, go_sem, hc]) rfl ⟨w.heap.size + 1 + 1 + 1, by omega, rfl, ?_, ?_⟩
  · exact (((HB0.out.trans (HB1.out.mono (by simp; omega))).setCell (by simp; omega) _).setCell (by simp) _).setCell (by simp) _
  · rw [heap_setCell_other _ _ _ _ (by simp <;> omega), heap_setCell_other _ _ _ _ (by simp <;> omega), heap_setCell_other _ _ _ _ (by simp <;> omega)]
    simpa using HG.out

end Go.Proofs.Ytchdcifhccjheaa

namespace Go.Proofs.Ytchdcifhccjheaa
open Go.RowKit

set_option maxHeartbeats 400000 in
theorem eqInts_any (a b : Option Addr) (c1 c2 : Nat) (xs ys : List Int) (w : World) (hA : IntsAt w a xs) (hB : IntsAt w b ys) (hl1 : xs.length ≤ 1125899906842624) :
    Calls Try.prog 33 #[.slice a xs.length c1, .slice b ys.length c2] w fun e w' => e = .returned (.bool (decide (xs = ys))) ∧ Below w.heap.size w w' := by
  by_cases hl : xs.length = ys.length
  · have HA : Hid (IntsAt w a xs) := hA
    have HB : Hid (IntsAt w b ys) := hB
    have HL : Hid (xs.length = ys.length) := hl
    rw [hl] at hl1 ⊢
    clear hA hB hl
    go_enter Try.func33, Try.ntmps33
    go_wp2_with fail
    go_loopw [5] (fun t wr => ∃ k : Nat, k ≤ ys.length ∧ t = .int .i64 k ∧ Below w.heap.size w wr ∧ xs.take k = ys.take k) (fun t _ => ys.length - (intOf t).toNat)
    case atStart => exact ⟨0, Nat.zero_le _, rfl, Below.refl _ _, by simp⟩
    case round =>
      obtain ⟨k, hk, rfl, hb, he⟩ := hrel
      have HE : Hid (xs.take k = ys.take k) := he
      clear he
      by_cases hlt : k < ys.length
      · have hxk : k < xs.length := by rw [HL.out]; exact hlt
        obtain ⟨b1, o1, rfl, hc1⟩ := IntsAt.some (IntsAt.below HA.out hb) hxk
        obtain ⟨b2, o2, rfl, hc2⟩ := IntsAt.some (IntsAt.below HB.out hb) hlt
        have ct1 := hc1 k hxk
        have ct2 := hc2 k hlt
        clear hc1 hc2
        generalize ht1 : xs.getD k 0 = t1 at ct1
        generalize ht2 : ys.getD k 0 = t2 at ct2
        have H1 : Hid (xs.getD k 0 = t1) := ht1
        have H2 : Hid (ys.getD k 0 = t2) := ht2
        clear ht1 ht2
        by_cases ht : t1 = t2
        · have htb : (t1 != t2) = false := by simp [ht]
          have HT : Hid (t1 = t2) := ht
          clear ht
          go_wp2
          go_quiet (fail)
          go_wp2
          refine ⟨⟨k + 1, by omega, by go_num, below_drewN hb _, ?_⟩, by simp [intOf]; omega⟩
          rw [take_snoc xs k hxk, take_snoc ys k hlt, HE.out, H1.out, H2.out, HT.out]
        · have htb : (t1 != t2) = true := by simp [ht]
          have HN : Hid (decide (xs = ys) = false) := by
            apply decide_eq_false
            intro e
            exact ht (by rw [← H1.out, ← H2.out, e])
          clear ht
          go_wp2
          go_quiet (fail)
          go_wp2
          go_ret
          exact ⟨ret_bool HN.out.symm, below_drewN hb _⟩
      · have HN : Hid (decide (xs = ys) = true) := by
          apply decide_eq_true
          have h := HE.out
          rwa [List.take_of_length_le (by rw [HL.out]; omega), List.take_of_length_le (by omega)] at h
        go_wp2
        go_ret
        exact ⟨ret_bool HN.out.symm, hb⟩
  · have HN : Hid (decide (xs = ys) = false) := decide_eq_false fun e => hl (by rw [e])
    have hne : ((xs.length : Int) != (ys.length : Int)) = true := by rw [bne_iff_ne]; omega
    clear hA hB hl
    go_enter Try.func33, Try.ntmps33
    go_wp2
    go_ret
    exact ⟨ret_bool HN.out.symm, Below.refl _ _⟩

end Go.Proofs.Ytchdcifhccjheaa

namespace Go.Proofs.Ytchdcifhccjheaa
open Go.RowKit

set_option maxHeartbeats 400000 in
theorem eqMat_same (n : Int) (a b : Option Addr) (c1 c2 : Nat) (xs : List Int) (w : World) (hA : IntsAt w a xs) (hB : IntsAt w b xs) (hl1 : xs.length ≤ 1125899906842624) :
    Calls Try.prog 18 #[.agg #[.int .i64 n, .slice a xs.length c1], .agg #[.int .i64 n, .slice b xs.length c2]] w fun e w' => e = .returned (.bool true) ∧ Below w.heap.size w w' := by
  have HB0 : Hid (Below w.heap.size w ((w.alloc (Obj.cells #[Value.int IntKind.i64 n, Value.slice a xs.length c1] 26)).alloc (Obj.cells #[Value.int IntKind.i64 n, Value.slice b xs.length c2] 26))) :=
    ((Below.refl _ _).alloc (Nat.le_refl _) _).alloc (by simp) _
  have HA : Hid (IntsAt w a xs) := hA
  have HB : Hid (IntsAt w b xs) := hB
  clear hA hB
  have hnn : (n != n) = false := by simp
  go_enter Try.func18, Try.ntmps18
  go_wp2_with fail
  refine (eqInts_any a b c1 c2 xs xs _ (HA.out.below HB0.out) (HB.out.below HB0.out) hl1).mono ?_
  rintro e w1 ⟨rfl, hb⟩
  have HB1 : Hid _ := hb
  clear hb
  have hd : decide (xs = xs) = true := by simp
  rw [hd]
  clear hd
  go_wp2
  go_ret
  exact ⟨rfl, HB0.out.trans (HB1.out.mono (by simp <;> omega))⟩

end Go.Proofs.Ytchdcifhccjheaa
