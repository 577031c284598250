import Derived.Test.YtjlhmkmhehcmkaaGreatPack0
import Derived.Test.YtjlhmkmhehcmkaaGreatPack1
namespace Go.Proofs.YtjlhmkmhehcmkaaGreat
open Go.RowKit
theorem Tryz.info41 : (Tryz.prog.info? 137).map (fun i => (i.zero, i.size)) = some (some (.agg (cellsOf zeros)), 256) := by kernel_rfl
def GW (w wr : World) (n : Nat) (a : Option Addr) (cap : Nat) (z0 : Array Value) (gl : List Int) : Prop :=
 wr.heap.size = w.heap.size + 3 /\ Below w.heap.size w wr /\ wr.heap[w.heap.size]? = some (.cells #[.int .i64 n, .slice a (n * n) cap] 39 (0, 0)) ∧
 wr.heap[w.heap.size + 1]? = some (.cells z0 137 (0, 0)) /\ wr.heap[w.heap.size + 1 + 1]? = some (.cells (cellsOf gl) 137 (0, 0))
theorem GW.step {w wr : World} {n : Nat} {a : Option Addr} {cap : Nat} {z0 : Array Value} {zs : List Int} {x y : Nat} {t : Int} (h : GW w wr n a cap z0 (gridTo n zs x y)) (hx : x < n) (hy : y < n) (hn : n <= 16) (ht : zs.getD (x * n + y) 0 = t) :
   GW w (wr.setCell ⟨w.heap.size + 1 + 1, x * 16 + y, none⟩ (.int .i64 t)) n a cap z0 (gridTo n zs x (y + 1)) := by
 obtain ⟨g1, g2, g3, g4, g5⟩ := h
 refine ⟨by simpa [World.setCell] using g1, g2.setCell (by simp; omega) _, ?_, ?_, ?_⟩
 · rw [heap_setCell_other _ _ _ _ (by simp; omega)]; exact g3
 · rw [heap_setCell_other _ _ _ _ (by simp)]; exact g4
 · rw [heap_setCell_same _ _ _ _ _ _ g5, cellsOf_set, <- ht, gridTo_step n zs x y hx hy hn]
theorem size41 : (Tryz.prog.info? 137).map (·.size) = some 256 := (zero_of_info Tryz.info41).2
theorem size41_of {l : List Int} (h : l.length = 256) : (Tryz.prog.info? 137).map (·.size) = some (cellsOf l).size := by
 rw [cellsOf_size, h]; exact size41
theorem ret_grid (tmps : Array Value) (W : World) (g : Nat) (l : List Int) (b : Bool) (hl : l.length = 256)
   (hp : tmps.getD 2 undef = .pointer (some ⟨g, 0, none⟩)) (hb : tmps.getD 3 undef = .bool b) (hg : W.heap[g]? = some (.cells (cellsOf l) 137 (0, 0))) :
   (results Tryz.f91 tmps).run Tryz.prog W = .ok (.tuple #[.agg (cellsOf l), .bool b]) W := by
 rw [results_cell_tmp Tryz.results91, hp, hb]
 simp only [asAddr, Sem.run_pure, Result.andThen_ok, run_loadVar_row W g 137 137 (cellsOf l) (0, 0) _ hg Tryz.underlying137 rfl (size41_of hl)]
set_option maxHeartbeats 1000000 in
theorem grid_loop (n : Nat) (a : Option Addr) (cap : Nat) (zs : List Int) (w : World) (h1 : 1 <= n) (h2 : n <= 16) (hl : zs.length = n * n) (hA : IntsAt w a zs) :
   Calls Tryz.prog 91 #[.agg #[.int .i64 n, .slice a zs.length cap]] w fun e w' => e = .returned (.tuple #[.agg (cellsOf (gridRes n zs)), .bool (matB n zs)]) /\ Below w.heap.size w w' := by
   have hz := (zero_of_info Tryz.info41).1
   generalize hz0 : cellsOf zeros = z0 at hz
   have HZ : Hid (cellsOf zeros = z0) := hz0
   clear hz0
   have hnn : n * n <= 256 := mul_bd n n h2 h2
   have hd1 : inB (n : Int) 1 16 = true := inB_mk (by omega)
   have hnw : wrap64 ((n : Int) * (n : Int)) = (n : Int) * (n : Int) := IntWalk.wrap64_in _ (by rw [<- Int.natCast_mul]; omega)
   have HA : Hid (IntsAt w a zs) := hA
   clear hA
   rw [hl]
   have HL : Hid (zs.length = n * n) := hl
   clear hl
   go_enter Tryz.func91, Tryz.ntmps91
   go_wp2_with (go_at_call 35; refine (within_any _ _ _ _).mono ?_; rintro e w' ⟨rfl, rfl⟩)
   go_loopw [26] (fun t wr => ∃ x : Nat, x <= n /\ t = .int .i64 x /\ GW w wr n a cap z0 (gridTo n zs x 0) /\ okTo n zs x 0) (fun t _ => n - (intOf t).toNat)
   case atStart =>
     refine ⟨0, Nat.zero_le _, rfl, ⟨by simp, ?_, ?_, ?_, ?_⟩, okTo_zero _ _⟩
     · exact (((Below.refl _ _).alloc (Nat.le_refl _) _).alloc (by simp) _).alloc (by simp; omega) _
     · rw [heap_alloc_old _ _ (by simp; omega), heap_alloc_old _ _ (by simp)]
       exact heap_alloc_new _ _
     · rw [heap_alloc_old _ _ (by simp)]
       exact heap_alloc2_new _ _ _
     · rw [gridTo_zero, HZ.out]
       have := heap_alloc_new ((w.alloc (Obj.cells #[Value.int .i64 n, Value.slice a (n * n) cap] 39)).alloc (Obj.cells z0 137)) (Obj.cells z0 137)
       simpa using this
   case round =>
     obtain ⟨x, hx, rfl, hG, hok⟩ := hrel
     obtain ⟨g1, g2, g3, g4, g5⟩ := hG
     have c0 := cell_of_row _ _ 0 _ _ _ g3
     have c1 := cell_of_row _ _ 1 _ _ _ g3
     simp at c0 c1
     by_cases hlt : x < n
     · have G4 : Hid _ := g4
       have G5 : Hid _ := g5
       have HO : Hid _ := hok
       clear g4 g5 hok
       go_wp2_with fail
       go_loopw [31] (fun t wr => ∃ y : Nat, y <= n /\ t = .int .i64 y /\ GW w wr n a cap z0 (gridTo n zs x y) /\ okTo n zs x y) (fun t _ => n - (intOf t).toNat)
       case atStart => exact ⟨0, Nat.zero_le _, rfl, ⟨g1, g2, g3, G4.out, G5.out⟩, HO.out⟩
       case round =>
         clear g1 g2 g3 c0 c1 G4 G5 HO
         obtain ⟨y, hy, rfl, hG, hok⟩ := hrel
         have HG : Hid (GW w wr n a cap z0 (gridTo n zs x y)) := hG
         obtain ⟨g1, g2, g3, g4, g5⟩ := hG
         have c0 := cell_of_row _ _ 0 _ _ _ g3
         have c1 := cell_of_row _ _ 1 _ _ _ g3
         simp at c0 c1
         by_cases hylt : y < n
         · have hxy : x * n + y < n * n := by
             have := Nat.mul_le_mul_right n (show x + 1 <= n by omega)
             rw [Nat.add_mul] at this
             omega
           obtain ⟨bb, off, rfl, hcs⟩ := IntsAt.some (IntsAt.below HA.out g2) (j := x * n + y) (by rw [HL.out]; exact hxy)
           have ct := hcs (x * n + y) (by rw [HL.out]; exact hxy)
           clear hcs
           generalize htt : zs.getD (x * n + y) 0 = t at ct
           have HT : Hid (zs.getD (x * n + y) 0 = t) := htt
           clear htt
           have cg := cell_of_row _ _ (x * 16 + y) _ _ _ g5
           rw [cellsOf_get _ _ (by rw [gridTo_length]; omega)] at cg
           have fg := frozen_of_row _ _ (x * 16 + y) _ _ g5
           have HO : Hid (okTo n zs x y) := hok
           clear hok
           have hwm : wrap64 ((x : Int) * (n : Int)) = (x : Int) * (n : Int) := IntWalk.wrap64_in _ (by rw [<- Int.natCast_mul]; omega)
           by_cases hgood : 0 <= t /\ t <= 10000 /\ (x = y -> t = 0)
           · have hvd : inB t 0 10000 = true := inB_mk (by omega)
             have HS : Hid (okTo n zs x (y + 1)) := okTo_step HO.out (by rw [HT.out]; exact hgood.1) (by rw [HT.out]; exact hgood.2.1) (by rw [HT.out]; exact hgood.2.2)
             clear HO g3 g4 g5 g2 g1
             by_cases hxe : x = y
             · have hne : ((x : Int) == (y : Int)) = true := by simp; omega
               have hne' : ((y : Int) == (y : Int)) = true := by simp
               have ht0 : (t != 0) = false := by simp [hgood.2.2 hxe]
               have HXE : Hid (x = y) := hxe
               clear hgood hxe
               go_wp2_with (first
                 | (go_at_call 35; refine (within_any _ _ _ _).mono ?_; rintro e w' ⟨rfl, rfl⟩))
               refine ⟨⟨y + 1, by omega, by go_num, HG.out.step hlt hylt h2 HT.out, HS.out⟩, by simp [intOf]; omega⟩
             · have hne : ((x : Int) == (y : Int)) = false := by simp; omega
               clear hgood hxe
               go_wp2_with (first
                 | (go_at_call 35; refine (within_any _ _ _ _).mono ?_; rintro e w' ⟨rfl, rfl⟩))
               refine ⟨⟨y + 1, by omega, by go_num, HG.out.step hlt hylt h2 HT.out, HS.out⟩, by simp [intOf]; omega⟩
           · have HB : Hid (matB n zs = false) := matB_bad n zs x y hlt hylt HL.out (by rw [HT.out]; exact hgood)
             have hzz : ∀ (wr : World), wr.heap[w.heap.size + 1]? = some (.cells z0 137 (0, 0)) -> True := fun _ _ => trivial
             clear HO g3 g5 g1 hzz
             by_cases hv : 0 <= t /\ t <= 10000
             · have hvd : inB t 0 10000 = true := inB_mk (by omega)
               have hxe : x = y := by omega
               have hne : ((x : Int) == (y : Int)) = true := by simp; omega
               have ht0 : (t != 0) = true := by simp; omega
               clear hgood hxe hv
               go_wp2_with (first
                 | (go_at_call 35; refine (within_any _ _ _ _).mono ?_; rintro e w' ⟨rfl, rfl⟩)
                 | (refine wpList_store_row rfl 137 (.tmp 2) (.tmp 56) rfl (w.heap.size + 1) z0 rfl rfl 137 z0 g4 (by rw [<- HZ.out]; exact size41_of zeros_length) rfl (by rw [<- HZ.out]; exact cellsOf_one _) ?_))
               refine bodyPost_ret (v := .tuple #[.agg (cellsOf zeros), .bool false]) (ret_grid _ _ (w.heap.size + 1) zeros false zeros_length rfl rfl ?_) rfl ⟨?_, ?_⟩
               · rw [HZ.out]; exact setRow_heap _ _ _ _ _ _ g4
               · exact ret_grid_eq (by rw [gridRes_false HB.out]) HB.out.symm
               · exact below_setRow g2 (by omega) _
             · have hvd : inB t 0 10000 = false := inB_not hv
               clear hgood hv
               go_wp2_with (first
                 | (go_at_call 35; refine (within_any _ _ _ _).mono ?_; rintro e w' ⟨rfl, rfl⟩)
                 | (refine wpList_store_row rfl 137 (.tmp 2) (.tmp 56) rfl (w.heap.size + 1) z0 rfl rfl 137 z0 g4 (by rw [<- HZ.out]; exact size41_of zeros_length) rfl (by rw [<- HZ.out]; exact cellsOf_one _) ?_))
               refine bodyPost_ret (v := .tuple #[.agg (cellsOf zeros), .bool false]) (ret_grid _ _ (w.heap.size + 1) zeros false zeros_length rfl rfl ?_) rfl ⟨?_, ?_⟩
               · rw [HZ.out]; exact setRow_heap _ _ _ _ _ _ g4
               · exact ret_grid_eq (by rw [gridRes_false HB.out]) HB.out.symm
               · exact below_setRow g2 (by omega) _
         · have hye : y = n := by omega
           have HO : Hid (okTo n zs (x + 1) 0) := okTo_row (hye ▸ hok)
           have HG' : Hid (GW w wr n a cap z0 (gridTo n zs (x + 1) 0)) := by
             have := HG.out
             rw [hye, gridTo_row] at this
             exact this
           clear hok hye HG g3 g4 g5
           go_wp2_with fail
           refine ⟨⟨x + 1, by omega, by go_num, HG'.out, HO.out⟩, by simp [intOf]; omega⟩
     · have hge : n <= x := by omega
       have Hxn : Hid (x = n) := by show x = n; omega
       go_wp2_with (first
         | (refine wpList_load_row rfl 137 (.tmp 4) rfl (w.heap.size + 1 + 1) rfl 137 (cellsOf (gridTo n zs x 0)) (0, 0) _ g5 Tryz.underlying137 rfl (size41_of (gridTo_length _ _ _ _)) ?_)
         | (refine wpList_store_row rfl 137 (.tmp 2) (.tmp 64) rfl (w.heap.size + 1) (cellsOf (gridTo n zs x 0)) rfl rfl 137 z0 g4 (size41_of (gridTo_length _ _ _ _)) (by rw [<- HZ.out, cellsOf_size, cellsOf_size, zeros_length, gridTo_length]) (cellsOf_one _) ?_))
       refine bodyPost_ret (v := .tuple #[.agg (cellsOf (gridTo n zs x 0)), .bool true]) (ret_grid _ _ (w.heap.size + 1) (gridTo n zs x 0) true (gridTo_length _ _ _ _) rfl rfl ?_) rfl ⟨?_, ?_⟩
       · exact setRow_heap _ _ _ _ _ _ g4
       · have e := Hxn.out
         have hm := matB_of_okTo n zs h1 h2 HL.out (e ▸ hok)
         exact ret_grid_eq (by rw [gridRes_true hm, e]) hm.symm
       · exact below_setRow g2 (by omega) _
set_option maxHeartbeats 1000000 in
theorem grid_out (n : Int) (a : Option Addr) (len cap : Nat) (w : World) (hn : ¬ (1 <= n /\ n <= 16)) :
   Calls Tryz.prog 91 #[.agg #[.int .i64 n, .slice a len cap]] w fun e w' => e = .returned (.tuple #[.agg (cellsOf zeros), .bool false]) /\ Below w.heap.size w w' := by
 have hz := (zero_of_info Tryz.info41).1
 generalize hz0 : cellsOf zeros = z0 at hz
 have HZ : Hid (cellsOf zeros = z0) := hz0
 clear hz0
 have hd1 : inB n 1 16 = false := inB_not hn
 clear hn
 go_enter Tryz.func91, Tryz.ntmps91
 go_wp2_with fail
 refine (within_any _ _ _ _).mono ?_; rintro e w' ⟨rfl, rfl⟩
 have HG4 : Hid (((((w.alloc (Obj.cells #[Value.int .i64 n, Value.slice a len cap] 39)).alloc (Obj.cells z0 137)).alloc (Obj.cells z0 137)).heap)[w.heap.size + 1]? = some (.cells z0 137 (0, 0))) := by
   show _ = _
   rw [heap_alloc_old _ _ (by simp)]
   exact heap_alloc2_new _ _ _
 go_wp2_with (
   with_reducible refine wpList_store_row ?_ 137 (.tmp 2) (.tmp 23) ?_ (w.heap.size + 1) z0 ?_ ?_ 137 z0 ?_ ?_ ?_ ?_ ?_
   · rfl
   · rfl
   · rfl
   · rfl
   · exact HG4.out
   · rw [<- HZ.out]; exact size41_of zeros_length
   · rfl
   · rw [<- HZ.out]; exact cellsOf_one _)
 refine bodyPost_ret (v := .tuple #[.agg (cellsOf zeros), .bool false]) (ret_grid _ _ (w.heap.size + 1) zeros false zeros_length rfl rfl ?_) rfl ⟨by rw [HZ.out], ?_⟩
 · rw [HZ.out]; exact setRow_heap _ _ _ _ _ _ HG4.out
 · exact below_setRow ((((Below.refl _ _).alloc (Nat.le_refl _) _).alloc (by simp) _).alloc (by simp; omega) _) (by omega) _
set_option maxHeartbeats 1000000 in
theorem grid_len (n : Nat) (a : Option Addr) (len cap : Nat) (w : World) (h1 : 1 <= n) (h2 : n <= 16) (hl : len ≠ n * n) :
   Calls Tryz.prog 91 #[.agg #[.int .i64 n, .slice a len cap]] w fun e w' => e = .returned (.tuple #[.agg (cellsOf zeros), .bool false]) /\ Below w.heap.size w w' := by
 have hz := (zero_of_info Tryz.info41).1
 generalize hz0 : cellsOf zeros = z0 at hz
 have HZ : Hid (cellsOf zeros = z0) := hz0
 clear hz0
 have hnn : n * n <= 256 := mul_bd n n h2 h2
 have hd1 : inB (n : Int) 1 16 = true := inB_mk (by omega)
 have hnw : wrap64 ((n : Int) * (n : Int)) = (n : Int) * (n : Int) := IntWalk.wrap64_in _ (by rw [<- Int.natCast_mul]; omega)
 have hne : ((len : Int) != (n : Int) * (n : Int)) = true := by rw [bne_iff_ne, <- Int.natCast_mul]; omega
 have G4 : ((((w.alloc (Obj.cells #[Value.int .i64 n, .slice a len cap] 39)).alloc (Obj.cells z0 137)).alloc (Obj.cells z0 137)).heap)[w.heap.size + 1]? = some (.cells z0 137 (0, 0)) := by
   rw [heap_alloc_old _ _ (by simp)]
   exact heap_alloc2_new _ _ _
 have HG4 : Hid _ := G4
 clear G4 hl
 go_enter Tryz.func91, Tryz.ntmps91
 go_wp2_with (first
   | (go_at_call 35; refine (within_any _ _ _ _).mono ?_; rintro e w' ⟨rfl, rfl⟩)
   | (refine wpList_store_row rfl 137 (.tmp 2) (.tmp 23) rfl (w.heap.size + 1) z0 rfl rfl 137 z0 HG4.out (by rw [<- HZ.out]; exact size41_of zeros_length) rfl (by rw [<- HZ.out]; exact cellsOf_one _) ?_))
 refine bodyPost_ret (v := .tuple #[.agg (cellsOf zeros), .bool false]) (ret_grid _ _ (w.heap.size + 1) zeros false zeros_length rfl rfl ?_) rfl ⟨by rw [HZ.out], ?_⟩
 · rw [HZ.out]; exact setRow_heap _ _ _ _ _ _ HG4.out
 · exact below_setRow ((((Below.refl _ _).alloc (Nat.le_refl _) _).alloc (by simp) _).alloc (by simp; omega) _) (by omega) _
theorem grid_any (n : Int) (a : Option Addr) (cap : Nat) (zs : List Int) (w : World) (hA : IntsAt w a zs) :
   Calls Tryz.prog 91 #[.agg #[.int .i64 n, .slice a zs.length cap]] w fun e w' => e = .returned (.tuple #[.agg (cellsOf (gridRes n zs)), .bool (matB n zs)]) /\ Below w.heap.size w w' := by
 by_cases hn : 1 <= n /\ n <= 16
 · obtain ⟨m, rfl⟩ := Int.eq_ofNat_of_zero_le (show 0 <= n by omega)
   by_cases hl : zs.length = m * m
   · exact grid_loop m a cap zs w (by omega) (by omega) hl hA
   · have hm : matB (m : Int) zs = false := matB_not fun h => hl (by have := h.2.2.1; rw [<- Int.natCast_mul] at this; omega)
     rw [gridRes_false hm, hm]
     exact grid_len m a zs.length cap w (by omega) (by omega) hl
 · have hm : matB n zs = false := matB_not fun h => hn ⟨h.1, h.2.1⟩
   rw [gridRes_false hm, hm]
   exact grid_out n _ _ _ w hn
end Go.Proofs.YtjlhmkmhehcmkaaGreat
namespace Go.Proofs.YtjlhmkmhehcmkaaGreat
open Go.RowKit
set_option maxHeartbeats 400000 in
theorem implMat_any (n : Int) (a : Option Addr) (cap : Nat) (zs : List Int) (w : World) (hA : IntsAt w a zs) :
   Calls Tryz.prog 74 #[.agg #[.int .i64 n, .slice a zs.length cap]] w fun e w' => e = .returned (.bool (matB n zs)) /\ Below w.heap.size w w' := by
 have HB0 : Hid (Below w.heap.size w (w.alloc (Obj.cells #[Value.int .i64 n, Value.slice a zs.length cap] 39))) :=
   (Below.refl _ _).alloc (Nat.le_refl _) _
 have HA : Hid (IntsAt w a zs) := hA
 clear hA
 have hz := (zero_of_info Tryz.info41).1
 go_enter Tryz.func74, Tryz.ntmps74
 go_wp2_with fail
 refine (grid_any n a cap zs _ (HA.out.below HB0.out)).mono ?_
 rintro e w1 ⟨rfl, hb⟩
 have HB1 : Hid _ := hb
 clear hb
 generalize hz0 : cellsOf zeros = z0 at hz
 have HZ : Hid (cellsOf zeros = z0) := hz0
 clear hz0
 generalize hgr : cellsOf (gridRes n zs) = gr
 have HGR : Hid (cellsOf (gridRes n zs) = gr) := hgr
 clear hgr
 go_wp2_with (
   with_reducible refine wpList_store_row ?_ 137 (.tmp 3) (.tmp 8) ?_ w1.heap.size gr ?_ ?_ 137 z0 ?_ ?_ ?_ ?_ ?_
   · rfl
   · rfl
   · rfl
   · rfl
   · exact heap_alloc_new _ _
   · rw [<- HGR.out]; exact size41_of (gridRes_length _ _)
   · rw [<- HZ.out, <- HGR.out, cellsOf_size, cellsOf_size, zeros_length, gridRes_length]
   · rw [<- HGR.out]; exact cellsOf_one _)
 go_ret
 refine ⟨rfl, below_setRow ((HB0.out.trans (HB1.out.mono (by simp <;> omega))).alloc ?_ _) ?_ _⟩
 all_goals
   have := HB1.out.size
   simp at this
   omega
end Go.Proofs.YtjlhmkmhehcmkaaGreat
namespace Go.Proofs.YtjlhmkmhehcmkaaGreat
open Go.RowKit
set_option maxHeartbeats 1000000 in
theorem implCase_any (n fine : Int) (a ao av : Option Addr) (cap ko co kv cv : Nat) (zs os vs : List Int) (w : World) (hA : IntsAt w a zs) (hO : IntsAt w ao os) (hV : IntsAt w av vs) (hlo : os.length = ko * 6) (hlv : vs.length = kv * 5) (hko : ko <= 9223372036854775807) (hkv : kv <= 9223372036854775807) :
   Calls Tryz.prog 59 #[.agg #[.int .i64 n, .slice a zs.length cap, .slice ao ko co, .slice av kv cv, .int .i64 fine]] w fun e w' => e = .returned (.bool (caseB n zs os vs ko kv fine)) /\ Below w.heap.size w w' := by
 have HB0 : Hid (Below w.heap.size w (w.alloc (Obj.cells #[Value.int .i64 n, Value.slice a zs.length cap, Value.slice ao ko co, Value.slice av kv cv, Value.int .i64 fine] 43))) := (Below.refl _ _).alloc (Nat.le_refl _) _
 have HA : Hid (IntsAt w a zs) := hA
 have HO : Hid (IntsAt w ao os) := hO
 have HV : Hid (IntsAt w av vs) := hV
 have HLO : Hid _ := hlo
 have HLV : Hid _ := hlv
 clear hA hO hV hlo hlv
 cases h1 : matB n zs
 · have HM : Hid _ := h1
   have HC : Hid (caseB n zs os vs ko kv fine = false) := by show _ = _; simp [caseB, h1]
   clear h1
   go_enter Tryz.func59, Tryz.ntmps59
   go_wp2_with fail
   refine (implMat_any n a cap zs _ (HA.out.below HB0.out)).mono ?_
   rintro e w1 ⟨rfl, hb⟩
   rw [HM.out]
   obtain ⟨b1, r1⟩ := box5 hb
   clear hb
   go_wp2
   go_ret
   exact ⟨ret_bool HC.out.symm, b1⟩
 · obtain ⟨hn1, hn2, _, _⟩ := matB_true h1
   have HM : Hid _ := h1
   cases h2 : ordsB n os ko
   · have HC : Hid (caseB n zs os vs ko kv fine = false) := by show _ = _; simp [caseB, h1, h2]
     have HO2 : Hid _ := h2
     clear h1 h2
     go_enter Tryz.func59, Tryz.ntmps59
     go_wp2_with fail
     refine (implMat_any n a cap zs _ (HA.out.below HB0.out)).mono ?_
     rintro e w1 ⟨rfl, hb⟩
     rw [HM.out]
     obtain ⟨b1, r1⟩ := box5 hb
     obtain ⟨c0, c1, c2, c3, c4⟩ := cells5 r1
     have B1 : Hid _ := b1
     clear hb b1 r1
     go_wp2_with fail
     refine (ordersOk_any n fine a ao av _ _ _ _ _ _ os _ hn1 hn2 (HO.out.below B1.out) HLO.out hko).mono ?_
     rintro e w2 ⟨rfl, hb⟩
     rw [HO2.out]
     go_wp2
     go_ret
     exact ⟨ret_bool HC.out.symm, B1.out.trans (hb.mono B1.out.size)⟩
   · have HO2 : Hid _ := h2
     cases h3 : vehsB n vs kv
     · have HC : Hid (caseB n zs os vs ko kv fine = false) := by show _ = _; simp [caseB, h1, h2, h3]
       have HV2 : Hid _ := h3
       clear h1 h2 h3
       go_enter Tryz.func59, Tryz.ntmps59
       go_wp2_with fail
       refine (implMat_any n a cap zs _ (HA.out.below HB0.out)).mono ?_
       rintro e w1 ⟨rfl, hb⟩
       rw [HM.out]
       obtain ⟨b1, r1⟩ := box5 hb
       obtain ⟨c0, c1, c2, c3, c4⟩ := cells5 r1
       have B1 : Hid _ := b1
       have R1 : Hid _ := r1
       clear hb b1 r1
       go_wp2_with fail
       refine (ordersOk_any n fine a ao av _ _ _ _ _ _ os _ hn1 hn2 (HO.out.below B1.out) HLO.out hko).mono ?_
       rintro e w2 ⟨rfl, hb⟩
       rw [HO2.out]
       obtain ⟨b2, r2⟩ := box_more hb B1.out R1.out
       clear c0 c1 c2 c3 c4
       obtain ⟨c0, c1, c2, c3, c4⟩ := cells5 r2
       have B2 : Hid _ := b2
       clear hb b2 r2
       go_wp2_with fail
       refine (vehiclesOk_any n fine a ao av _ _ _ _ _ _ vs _ hn1 hn2 (HV.out.below B2.out) HLV.out hkv).mono ?_
       rintro e w3 ⟨rfl, hb⟩
       rw [HV2.out]
       go_wp2
       go_ret
       exact ⟨ret_bool HC.out.symm, B2.out.trans (hb.mono B2.out.size)⟩
     · have HC : Hid (caseB n zs os vs ko kv fine = inB fine 0 1000000) := by show _ = _; simp [caseB, h1, h2, h3]
       have HV2 : Hid _ := h3
       clear h1 h2 h3
       go_enter Tryz.func59, Tryz.ntmps59
       go_wp2_with fail
       refine (implMat_any n a cap zs _ (HA.out.below HB0.out)).mono ?_
       rintro e w1 ⟨rfl, hb⟩
       rw [HM.out]
       obtain ⟨b1, r1⟩ := box5 hb
       obtain ⟨c0, c1, c2, c3, c4⟩ := cells5 r1
       have B1 : Hid _ := b1
       have R1 : Hid _ := r1
       clear hb b1 r1
       go_wp2_with fail
       refine (ordersOk_any n fine a ao av _ _ _ _ _ _ os _ hn1 hn2 (HO.out.below B1.out) HLO.out hko).mono ?_
       rintro e w2 ⟨rfl, hb⟩
       rw [HO2.out]
       obtain ⟨b2, r2⟩ := box_more hb B1.out R1.out
       clear c0 c1 c2 c3 c4
       obtain ⟨c0, c1, c2, c3, c4⟩ := cells5 r2
       have B2 : Hid _ := b2
       have R2 : Hid _ := r2
       clear hb b2 r2
       go_wp2_with fail
       refine (vehiclesOk_any n fine a ao av _ _ _ _ _ _ vs _ hn1 hn2 (HV.out.below B2.out) HLV.out hkv).mono ?_
       rintro e w3 ⟨rfl, hb⟩
       rw [HV2.out]
       obtain ⟨b3, r3⟩ := box_more hb B2.out R2.out
       clear c0 c1 c2 c3 c4
       obtain ⟨c0, c1, c2, c3, c4⟩ := cells5 r3
       clear hb r3
       go_wp2_with (go_at_call 35; refine (within_any _ _ _ _).mono ?_; rintro e w' ⟨rfl, rfl⟩)
       go_ret
       exact ⟨ret_bool HC.out.symm, b3⟩
end Go.Proofs.YtjlhmkmhehcmkaaGreat
namespace Go.Proofs.YtjlhmkmhehcmkaaGreat
open Go.RowKit
set_option maxHeartbeats 400000 in
theorem l1In_any (n lo hi : Int) (w : World) :
   Calls Tryz.prog 21 #[.int .i64 n, .int .i64 lo, .int .i64 hi] w fun e w' => e = .returned (.bool (inB n lo hi)) /\ w' = w := by
 by_cases h1 : lo <= n
 · by_cases h2 : n <= hi
   · have h3 : inB n lo hi = true := inB_mk ⟨h1, h2⟩
     rw [h3]
     go_enter Tryz.func21, Tryz.ntmps21
     go_wp2
     go_ret
     exact ⟨by simp, rfl⟩
   · have h3 : inB n lo hi = false := inB_not (by omega)
     rw [h3]
     go_enter Tryz.func21, Tryz.ntmps21
     go_wp2
     go_ret
     exact ⟨by simp, rfl⟩
 · have h3 : inB n lo hi = false := inB_not (by omega)
   rw [h3]
   go_enter Tryz.func21, Tryz.ntmps21
   go_wp2
   go_ret
   exact ⟨by simp, rfl⟩
end Go.Proofs.YtjlhmkmhehcmkaaGreat
namespace Go.Proofs.YtjlhmkmhehcmkaaGreat
open Go.RowKit
set_option maxHeartbeats 400000 in
theorem l2Order_any (n o0 o1 o2 o3 o4 o5 : Int) (w : World) (hn1 : 1 <= n) (hn2 : n <= 16) :
   Calls Tryz.prog 71 #[.agg #[.int .i64 o0, .int .i64 o1, .int .i64 o2, .int .i64 o3, .int .i64 o4, .int .i64 o5], .int .i64 n] w fun e w' => e = .returned (.bool (ordB n o0 o1 o2 o3 o4 o5)) /\ Below w.heap.size w w' := by
 cases h0 : inB o0 1 1000000000
 · go_enter Tryz.func71, Tryz.ntmps71
   go_wp2_with (first | (go_at_call 21; refine (l1In_any _ _ _ _).mono ?_; rintro e w' ⟨rfl, rfl⟩))
   go_ret
   exact ⟨ret_bool (by simp [ordB, ordIn, hoursB, h0]), (Below.refl _ _).alloc (Nat.le_refl _) _⟩
 · cases h1 : inB o1 0 (n - 1)
   · go_enter Tryz.func71, Tryz.ntmps71
     go_wp2_with (first | (go_at_call 21; refine (l1In_any _ _ _ _).mono ?_; rintro e w' ⟨rfl, rfl⟩))
     go_ret
     exact ⟨ret_bool (by simp [ordB, ordIn, hoursB, h0, h1]), (Below.refl _ _).alloc (Nat.le_refl _) _⟩
   · cases h2 : inB o2 0 1000
     · go_enter Tryz.func71, Tryz.ntmps71
       go_wp2_with (first | (go_at_call 21; refine (l1In_any _ _ _ _).mono ?_; rintro e w' ⟨rfl, rfl⟩))
       go_ret
       exact ⟨ret_bool (by simp [ordB, ordIn, hoursB, h0, h1, h2]), (Below.refl _ _).alloc (Nat.le_refl _) _⟩
     · cases h3 : inB o3 0 1000000
       · go_enter Tryz.func71, Tryz.ntmps71
         go_wp2_with (first | (go_at_call 21; refine (l1In_any _ _ _ _).mono ?_; rintro e w' ⟨rfl, rfl⟩))
         go_ret
         exact ⟨ret_bool (by simp [ordB, ordIn, hoursB, h0, h1, h2, h3]), (Below.refl _ _).alloc (Nat.le_refl _) _⟩
       · cases h4 : inB o4 o3 1000000
         · go_enter Tryz.func71, Tryz.ntmps71
           go_wp2_with (first | (go_at_call 21; refine (l1In_any _ _ _ _).mono ?_; rintro e w' ⟨rfl, rfl⟩))
           go_ret
           exact ⟨ret_bool (by simp [ordB, ordIn, hoursB, h0, h1, h2, h3, h4]), (Below.refl _ _).alloc (Nat.le_refl _) _⟩
         · cases h5 : inB o5 0 10000
           · go_enter Tryz.func71, Tryz.ntmps71
             go_wp2_with (first | (go_at_call 21; refine (l1In_any _ _ _ _).mono ?_; rintro e w' ⟨rfl, rfl⟩))
             go_ret
             exact ⟨ret_bool (by simp [ordB, ordIn, hoursB, h0, h1, h2, h3, h4, h5]), (Below.refl _ _).alloc (Nat.le_refl _) _⟩
           · go_enter Tryz.func71, Tryz.ntmps71
             go_wp2_with (first | (go_at_call 21; refine (l1In_any _ _ _ _).mono ?_; rintro e w' ⟨rfl, rfl⟩))
             go_ret
             exact ⟨ret_bool (by simp [ordB, ordIn, hoursB, h0, h1, h2, h3, h4, h5]), (Below.refl _ _).alloc (Nat.le_refl _) _⟩
set_option maxHeartbeats 400000 in
theorem l2Vehicle_any (n o0 o1 o2 o3 o4 : Int) (w : World) (hn1 : 1 <= n) (hn2 : n <= 16) :
   Calls Tryz.prog 72 #[.agg #[.int .i64 o0, .int .i64 o1, .int .i64 o2, .int .i64 o3, .int .i64 o4], .int .i64 n] w fun e w' => e = .returned (.bool (vehB n o0 o1 o2 o3 o4)) /\ Below w.heap.size w w' := by
 cases h0 : inB o0 1 1000000000
 · go_enter Tryz.func72, Tryz.ntmps72
   go_wp2_with (first | (go_at_call 21; refine (l1In_any _ _ _ _).mono ?_; rintro e w' ⟨rfl, rfl⟩))
   go_ret
   exact ⟨ret_bool (by simp [vehB, vehIn, hoursB, h0]), (Below.refl _ _).alloc (Nat.le_refl _) _⟩
 · cases h1 : inB o1 0 (n - 1)
   · go_enter Tryz.func72, Tryz.ntmps72
     go_wp2_with (first | (go_at_call 21; refine (l1In_any _ _ _ _).mono ?_; rintro e w' ⟨rfl, rfl⟩))
     go_ret
     exact ⟨ret_bool (by simp [vehB, vehIn, hoursB, h0, h1]), (Below.refl _ _).alloc (Nat.le_refl _) _⟩
   · cases h2 : inB o2 0 1000
     · go_enter Tryz.func72, Tryz.ntmps72
       go_wp2_with (first | (go_at_call 21; refine (l1In_any _ _ _ _).mono ?_; rintro e w' ⟨rfl, rfl⟩))
       go_ret
       exact ⟨ret_bool (by simp [vehB, vehIn, hoursB, h0, h1, h2]), (Below.refl _ _).alloc (Nat.le_refl _) _⟩
     · cases h3 : inB o3 0 1000000
       · go_enter Tryz.func72, Tryz.ntmps72
         go_wp2_with (first | (go_at_call 21; refine (l1In_any _ _ _ _).mono ?_; rintro e w' ⟨rfl, rfl⟩))
         go_ret
         exact ⟨ret_bool (by simp [vehB, vehIn, hoursB, h0, h1, h2, h3]), (Below.refl _ _).alloc (Nat.le_refl _) _⟩
       · cases h4 : inB o4 o3 1000000
         · go_enter Tryz.func72, Tryz.ntmps72
           go_wp2_with (first | (go_at_call 21; refine (l1In_any _ _ _ _).mono ?_; rintro e w' ⟨rfl, rfl⟩))
           go_ret
           exact ⟨ret_bool (by simp [vehB, vehIn, hoursB, h0, h1, h2, h3, h4]), (Below.refl _ _).alloc (Nat.le_refl _) _⟩
         · go_enter Tryz.func72, Tryz.ntmps72
           go_wp2_with (first | (go_at_call 21; refine (l1In_any _ _ _ _).mono ?_; rintro e w' ⟨rfl, rfl⟩))
           go_ret
           exact ⟨ret_bool (by simp [vehB, vehIn, hoursB, h0, h1, h2, h3, h4]), (Below.refl _ _).alloc (Nat.le_refl _) _⟩
end Go.Proofs.YtjlhmkmhehcmkaaGreat
namespace Go.Proofs.YtjlhmkmhehcmkaaGreat
open Go.RowKit
set_option maxHeartbeats 1000000 in
theorem specMat_loop (n : Nat) (a : Option Addr) (cap : Nat) (zs : List Int) (w : World) (h1 : 1 <= n) (h2 : n <= 16) (hl : zs.length = n * n) (hA : IntsAt w a zs) :
   Calls Tryz.prog 70 #[.agg #[.int .i64 n, .slice a zs.length cap]] w fun e w' => e = .returned (.bool (matB n zs)) /\ Below w.heap.size w w' := by
 have hnn : n * n <= 256 := mul_bd n n h2 h2
 have hd1 : inB (n : Int) 1 16 = true := inB_mk (by omega)
 have hnw : wrap64 ((n : Int) * (n : Int)) = (n : Int) * (n : Int) := IntWalk.wrap64_in _ (by rw [<- Int.natCast_mul]; omega)
 have hn0 : ¬ n = 0 := by omega
 have HA : Hid (IntsAt w a zs) := hA
 clear hA
 rw [hl]
 have HL : Hid (zs.length = n * n) := hl
 clear hl
 go_enter Tryz.func70, Tryz.ntmps70
 go_wp2_with (go_at_call 21; refine (l1In_any _ _ _ _).mono ?_; rintro e w' ⟨rfl, rfl⟩)
 go_loopw [3] (fun t wr => ∃ k : Nat, k <= n * n /\ t = .int .i64 k /\ Below w.heap.size w wr /\ wr.heap[w.heap.size]? = some (.cells #[.int .i64 n, .slice a (n * n) cap] 39 (0, 0)) /\ (∀ i, i < k -> 0 <= zs.getD i 0 /\ zs.getD i 0 <= 10000 /\ (i / n = i % n -> zs.getD i 0 = 0))) (fun t _ => n * n - (intOf t).toNat)
 case atStart => exact ⟨0, Nat.zero_le _, rfl, (Below.refl _ _).alloc (Nat.le_refl _) _, heap_alloc_new _ _, fun i hi => by omega⟩
 case round =>
   obtain ⟨k, hk, rfl, hb, g3, hok⟩ := hrel
   have c0 := cell_of_row _ _ 0 _ _ _ g3
   have c1 := cell_of_row _ _ 1 _ _ _ g3
   simp at c0 c1
   have HO : Hid (∀ i, i < k -> 0 <= zs.getD i 0 /\ zs.getD i 0 <= 10000 /\ (i / n = i % n -> zs.getD i 0 = 0)) := hok
   have G3 : Hid _ := g3
   have HB : Hid _ := hb
   clear hok
   by_cases hlt : k < n * n
   · obtain ⟨bb, off, rfl, hcs⟩ := IntsAt.some (IntsAt.below HA.out hb) (j := k) (by rw [HL.out]; exact hlt)
     have ct := hcs k (by rw [HL.out]; exact hlt)
     clear hcs
     generalize htt : zs.getD k 0 = t at ct
     have HT : Hid (zs.getD k 0 = t) := htt
     clear htt g3 hb
     have hw1 : IntKind.i64.wrap ((k : Int) / (n : Int)) = (k : Int) / (n : Int) := by
       rw [IntKind.wrap_i64, <- Int.natCast_ediv]
       have hq := Nat.div_le_self k n
       generalize k / n = q at hq
       omega
     have hw2 : (k : Int).tmod (n : Int) = (k : Int) % (n : Int) := Int.tmod_eq_emod_of_nonneg (by omega)
     have hlt' : (k : Int) < (n : Int) * (n : Int) := by rw [<- Int.natCast_mul]; omega
     by_cases hv : 0 <= t /\ t <= 10000
     · have hvd : inB t 0 10000 = true := inB_mk hv
       by_cases hq : k / n = k % n
       · have hqb : ((k : Int) / (n : Int) == (k : Int) % (n : Int)) = true := by simp; omega
         by_cases ht0 : t = 0
         · have htb : (t != 0) = false := by simp [ht0]
           have HS : Hid (∀ i, i < k + 1 -> 0 <= zs.getD i 0 /\ zs.getD i 0 <= 10000 /\ (i / n = i % n -> zs.getD i 0 = 0)) := by
             intro i hi
             by_cases e : i = k
             · rw [e, HT.out]; exact ⟨hv.1, hv.2, fun _ => ht0⟩
             · exact HO.out i (by omega)
           clear HO hq ht0
           go_wp2
           go_quiet ((go_at_call 21; exact Calls.quiet_of_same (l1In_any _ _ _ _)))
           go_wp2
           refine ⟨⟨k + 1, by omega, by go_num, below_drewN HB.out _, G3.out, HS.out⟩, by simp [intOf]; omega⟩
         · have htb : (t != 0) = true := by simp [ht0]
           have HN : Hid (matB n zs = false) := matB_at n zs HL.out k hlt (by rw [HT.out]; exact fun h => ht0 (h.2.2 hq))
           clear HO hq ht0
           go_wp2
           go_quiet ((go_at_call 21; exact Calls.quiet_of_same (l1In_any _ _ _ _)))
           go_wp2
           go_ret
           exact ⟨ret_bool HN.out.symm, below_drewN HB.out _⟩
       · have hqb : ((k : Int) / (n : Int) == (k : Int) % (n : Int)) = false := by simp; omega
         have HS : Hid (∀ i, i < k + 1 -> 0 <= zs.getD i 0 /\ zs.getD i 0 <= 10000 /\ (i / n = i % n -> zs.getD i 0 = 0)) := by
           intro i hi
           by_cases e : i = k
           · rw [e, HT.out]; exact ⟨hv.1, hv.2, fun h => absurd h hq⟩
           · exact HO.out i (by omega)
         clear HO hq
         go_wp2
         go_quiet ((go_at_call 21; exact Calls.quiet_of_same (l1In_any _ _ _ _)))
         go_wp2
         refine ⟨⟨k + 1, by omega, by go_num, below_drewN HB.out _, G3.out, HS.out⟩, by simp [intOf]; omega⟩
     · have hvd : inB t 0 10000 = false := inB_not hv
       have HN : Hid (matB n zs = false) := matB_at n zs HL.out k hlt (by rw [HT.out]; exact fun h => hv ⟨h.1, h.2.1⟩)
       clear HO hv
       go_wp2
       go_quiet ((go_at_call 21; exact Calls.quiet_of_same (l1In_any _ _ _ _)))
       go_wp2
       go_ret
       exact ⟨ret_bool HN.out.symm, below_drewN HB.out _⟩
   · have hge' : (n : Int) * (n : Int) <= (k : Int) := by rw [<- Int.natCast_mul]; omega
     have HN : Hid (matB n zs = true) := matB_all n zs h1 h2 HL.out (fun i hi => HO.out i (by omega))
     clear HO g3
     go_wp2
     go_ret
     exact ⟨ret_bool HN.out.symm, HB.out⟩
set_option maxHeartbeats 1000000 in
theorem specMat_no (n : Int) (a : Option Addr) (len cap : Nat) (w : World) (h : ¬ (1 <= n /\ n <= 16 /\ (len : Int) = n * n)) :
   Calls Tryz.prog 70 #[.agg #[.int .i64 n, .slice a len cap]] w fun e w' => e = .returned (.bool false) /\ Below w.heap.size w w' := by
 by_cases hn : 1 <= n /\ n <= 16
 · obtain ⟨m, rfl⟩ := Int.eq_ofNat_of_zero_le (show 0 <= n by omega)
   have hnn : m * m <= 256 := mul_bd m m (by omega) (by omega)
   have hd1 : inB (m : Int) 1 16 = true := inB_mk hn
   have hnw : wrap64 ((m : Int) * (m : Int)) = (m : Int) * (m : Int) := IntWalk.wrap64_in _ (by rw [<- Int.natCast_mul]; omega)
   have hne : ((len : Int) != (m : Int) * (m : Int)) = true := by
     rw [bne_iff_ne]; exact fun e => h ⟨hn.1, hn.2, e⟩
   clear h
   go_enter Tryz.func70, Tryz.ntmps70
   go_wp2_with (go_at_call 21; refine (l1In_any _ _ _ _).mono ?_; rintro e w' ⟨rfl, rfl⟩)
   go_ret
   exact ⟨rfl, (Below.refl _ _).alloc (Nat.le_refl _) _⟩
 · have hd1 : inB n 1 16 = false := inB_not hn
   clear h hn
   go_enter Tryz.func70, Tryz.ntmps70
   go_wp2_with (go_at_call 21; refine (l1In_any _ _ _ _).mono ?_; rintro e w' ⟨rfl, rfl⟩)
   go_ret
   exact ⟨rfl, (Below.refl _ _).alloc (Nat.le_refl _) _⟩
theorem specMat_any (n : Int) (a : Option Addr) (cap : Nat) (zs : List Int) (w : World) (hA : IntsAt w a zs) :
   Calls Tryz.prog 70 #[.agg #[.int .i64 n, .slice a zs.length cap]] w fun e w' => e = .returned (.bool (matB n zs)) /\ Below w.heap.size w w' := by
 by_cases h : 1 <= n /\ n <= 16 /\ (zs.length : Int) = n * n
 · obtain ⟨m, rfl⟩ := Int.eq_ofNat_of_zero_le (show 0 <= n by omega)
   exact specMat_loop m a cap zs w (by omega) (by omega) (by have := h.2.2; rw [<- Int.natCast_mul] at this; omega) hA
 · have hm : matB n zs = false := matB_not fun k => h ⟨k.1, k.2.1, k.2.2.1⟩
   rw [hm]
   exact specMat_no n a _ cap w h
end Go.Proofs.YtjlhmkmhehcmkaaGreat
namespace Go.Proofs.YtjlhmkmhehcmkaaGreat
open Go.RowKit
set_option maxHeartbeats 1000000 in
theorem specCase_no (n fine : Int) (a ao av : Option Addr) (cap ko co kv cv : Nat) (zs os vs : List Int) (w : World) (hA : IntsAt w a zs) (hko : ko <= 9223372036854775807) (hkv : kv <= 9223372036854775807) (h : ¬ (matB n zs = true /\ ko <= 12 /\ kv <= 5 /\ inB fine 0 1000000 = true)) :
   Calls Tryz.prog 52 #[.agg #[.int .i64 n, .slice a zs.length cap, .slice ao ko co, .slice av kv cv, .int .i64 fine]] w fun e w' => e = .returned (.bool (caseB n zs os vs ko kv fine)) /\ Below w.heap.size w w' := by
 have HB0 : Hid (Below w.heap.size w (w.alloc (Obj.cells #[Value.int .i64 n, Value.slice a zs.length cap, Value.slice ao ko co, Value.slice av kv cv, Value.int .i64 fine] 43))) := (Below.refl _ _).alloc (Nat.le_refl _) _
 have HA : Hid (IntsAt w a zs) := hA
 clear hA
 have HC : Hid (caseB n zs os vs ko kv fine = false) := by
   show _ = _
   unfold caseB
   cases h1 : matB n zs
   · rfl
   · cases h2 : ordsB n os ko
     · rfl
     · cases h3 : vehsB n vs kv
       · rfl
       · cases h4 : inB fine 0 1000000
         · rfl
         · exact absurd ⟨h1, (ordsB_true h2).1, (vehsB_true h3).1, h4⟩ h
 cases h1 : matB n zs
 · have HM : Hid _ := h1
   clear h1 h
   go_enter Tryz.func52, Tryz.ntmps52
   go_wp2_with fail
   refine (specMat_any n a cap zs _ (HA.out.below HB0.out)).mono ?_
   rintro e w1 ⟨rfl, hb⟩
   rw [HM.out]
   obtain ⟨b1, r1⟩ := box5 hb
   obtain ⟨c0, c1, c2, c3, c4⟩ := cells5 r1
   have B1 : Hid _ := b1
   have R1 : Hid _ := r1
   clear hb b1 r1
   go_wp2_with (first | (go_at_call 21; refine (l1In_any _ _ _ _).mono ?_; rintro e w' ⟨rfl, rfl⟩))
   go_ret
   exact ⟨ret_bool HC.out.symm, B1.out⟩
 · have HM : Hid _ := h1
   by_cases h2 : ko <= 12
   · by_cases h3 : kv <= 5
     · have h4 : inB fine 0 1000000 = false := by
         cases h4 : inB fine 0 1000000
         · rfl
         · exact absurd ⟨h1, h2, h3, h4⟩ h
       clear h1 h
       go_enter Tryz.func52, Tryz.ntmps52
       go_wp2_with fail
       refine (specMat_any n a cap zs _ (HA.out.below HB0.out)).mono ?_
       rintro e w1 ⟨rfl, hb⟩
       rw [HM.out]
       obtain ⟨b1, r1⟩ := box5 hb
       obtain ⟨c0, c1, c2, c3, c4⟩ := cells5 r1
       have B1 : Hid _ := b1
       have R1 : Hid _ := r1
       clear hb b1 r1
       go_wp2_with (first | (go_at_call 21; refine (l1In_any _ _ _ _).mono ?_; rintro e w' ⟨rfl, rfl⟩))
       go_ret
       exact ⟨ret_bool HC.out.symm, B1.out⟩
     · clear h1 h
       go_enter Tryz.func52, Tryz.ntmps52
       go_wp2_with fail
       refine (specMat_any n a cap zs _ (HA.out.below HB0.out)).mono ?_
       rintro e w1 ⟨rfl, hb⟩
       rw [HM.out]
       obtain ⟨b1, r1⟩ := box5 hb
       obtain ⟨c0, c1, c2, c3, c4⟩ := cells5 r1
       have B1 : Hid _ := b1
       have R1 : Hid _ := r1
       clear hb b1 r1
       go_wp2_with (first | (go_at_call 21; refine (l1In_any _ _ _ _).mono ?_; rintro e w' ⟨rfl, rfl⟩))
       go_ret
       exact ⟨ret_bool HC.out.symm, B1.out⟩
   · clear h1 h
     go_enter Tryz.func52, Tryz.ntmps52
     go_wp2_with fail
     refine (specMat_any n a cap zs _ (HA.out.below HB0.out)).mono ?_
     rintro e w1 ⟨rfl, hb⟩
     rw [HM.out]
     obtain ⟨b1, r1⟩ := box5 hb
     obtain ⟨c0, c1, c2, c3, c4⟩ := cells5 r1
     have B1 : Hid _ := b1
     have R1 : Hid _ := r1
     clear hb b1 r1
     go_wp2_with (first | (go_at_call 21; refine (l1In_any _ _ _ _).mono ?_; rintro e w' ⟨rfl, rfl⟩))
     go_ret
     exact ⟨ret_bool HC.out.symm, B1.out⟩
theorem caseB_def (n : Int) (zs os vs : List Int) (ko kv : Nat) (fine : Int) : caseB n zs os vs ko kv fine = (matB n zs && ordsB n os ko && vehsB n vs kv && inB fine 0 1000000) := rfl
set_option maxHeartbeats 2000000 in
theorem specCase_loop (n fine : Int) (a ao av : Option Addr) (cap ko co kv cv : Nat) (zs os vs : List Int) (w : World) (hA : IntsAt w a zs) (hO : IntsAt w ao os) (hV : IntsAt w av vs) (hlo : os.length = ko * 6) (hlv : vs.length = kv * 5) (hm : matB n zs = true) (hko : ko <= 12) (hkv : kv <= 5) (hf : inB fine 0 1000000 = true) :
   Calls Tryz.prog 52 #[.agg #[.int .i64 n, .slice a zs.length cap, .slice ao ko co, .slice av kv cv, .int .i64 fine]] w fun e w' => e = .returned (.bool (caseB n zs os vs ko kv fine)) /\ Below w.heap.size w w' := by
 have HB0 : Hid (Below w.heap.size w (w.alloc (Obj.cells #[Value.int .i64 n, Value.slice a zs.length cap, Value.slice ao ko co, Value.slice av kv cv, Value.int .i64 fine] 43))) := (Below.refl _ _).alloc (Nat.le_refl _) _
 have HA : Hid (IntsAt w a zs) := hA
 have HX6 : Hid (IntsAt w ao os) := hO
 have HX5 : Hid (IntsAt w av vs) := hV
 have HLX6 : Hid (os.length = ko * 6) := hlo
 have HLX5 : Hid (vs.length = kv * 5) := hlv
 have HM : Hid _ := hm
 obtain ⟨hn1, hn2, _, _⟩ := matB_true hm
 have hdk : decide ((12 : Int) < (ko : Int)) = false := by simp; omega
 have hdv : decide ((5 : Int) < (kv : Int)) = false := by simp; omega
 clear hA hO hV hlo hlv hm
 go_enter Tryz.func52, Tryz.ntmps52
 go_wp2_with fail
 refine (specMat_any n a cap zs _ (HA.out.below HB0.out)).mono ?_
 rintro e w1 ⟨rfl, hb⟩
 rw [HM.out]
 obtain ⟨b1, r1⟩ := box5 hb
 obtain ⟨c0, c1, c2, c3, c4⟩ := cells5 r1
 have B1 : Hid _ := b1
 have R1 : Hid _ := r1
 clear hb b1 r1
 go_wp2_with (first | (go_at_call 21; refine (l1In_any _ _ _ _).mono ?_; rintro e w' ⟨rfl, rfl⟩))
 clear c0 c1 c2 c3 c4
 go_loopw [3] (fun t wr => ∃ k : Nat, k <= ko /\ t = .int .i64 k /\ ordsTo n os k /\ Below w.heap.size w wr /\ wr.heap[w.heap.size]? = some (.cells #[Value.int .i64 n, Value.slice a zs.length cap, Value.slice ao ko co, Value.slice av kv cv, Value.int .i64 fine] 43 (0, 0))) (fun t _ => ko - (intOf t).toNat)
 case atStart => exact ⟨0, Nat.zero_le _, rfl, ordsTo_zero _ _, B1.out, R1.out⟩
 case round =>
   clear B1 R1
   obtain ⟨k, hk, rfl, ht, hb, g3⟩ := hrel
   have HT : Hid _ := ht
   have G3 : Hid _ := g3
   have HB : Hid _ := hb
   obtain ⟨c0, c1, c2, c3, c4⟩ := cells5 g3
   clear ht
   by_cases hlt : k < ko
   · obtain ⟨b, off, rfl, hcs⟩ := IntsAt.some (IntsAt.below HX6.out hb) (j := k * 6) (by rw [HLX6.out]; omega)
     obtain ⟨r0, r1, r2, r3, r4, r5⟩ := row6_at hcs HLX6.out k hlt
     have HCS : Hid _ := hcs
     clear hcs g3 hb
     obtain ⟨o0, H0⟩ : ∃ t, Hid (og6 os k 0 = t) := ⟨_, rfl⟩
     obtain ⟨o1, H1⟩ : ∃ t, Hid (og6 os k 1 = t) := ⟨_, rfl⟩
     obtain ⟨o2, H2⟩ : ∃ t, Hid (og6 os k 2 = t) := ⟨_, rfl⟩
     obtain ⟨o3, H3⟩ : ∃ t, Hid (og6 os k 3 = t) := ⟨_, rfl⟩
     obtain ⟨o4, H4⟩ : ∃ t, Hid (og6 os k 4 = t) := ⟨_, rfl⟩
     obtain ⟨o5, H5⟩ : ∃ t, Hid (og6 os k 5 = t) := ⟨_, rfl⟩
     rw [H0.out] at r0
     rw [H1.out] at r1
     rw [H2.out] at r2
     rw [H3.out] at r3
     rw [H4.out] at r4
     rw [H5.out] at r5
     have s0 := fun s : Kin wr => s.cell c0
     have s1 := fun s : Kin wr => s.cell c2
     have t0 := fun s : Kin wr => s.cell r0
     have t1 := fun s : Kin wr => s.cell r1
     have t2 := fun s : Kin wr => s.cell r2
     have t3 := fun s : Kin wr => s.cell r3
     have t4 := fun s : Kin wr => s.cell r4
     have t5 := fun s : Kin wr => s.cell r5
     cases h1 : ordB n o0 o1 o2 o3 o4 o5
     · have HN : Hid (ordsB n os ko = false) := ordsB_bad hlt (by rw [H0.out, H1.out, H2.out, H3.out, H4.out, H5.out, h1]; simp)
       go_wp2_with fail
       have hkin := Kin.there wr
       refine wp_region_kin (by kernel_rfl) (by kernel_rfl) ?_
       repeat (go_big_quiet_step ((go_at_call 71; exact Kin.call (l2Order_any n _ _ _ _ _ _ _ hn1 hn2))))
       refine wpQuiet_nil ?_
       rintro _ ⟨s, rfl⟩
       have HS2 := HB.out.trans (s.below.mono HB.out.size)
       have R2 := below_row s.below (row_lt G3.out) G3.out
       generalize s.w = w2 at *
       go_wp2
       go_ret
       exact ⟨ret_bool (by simp [caseB_def, HN.out]), HS2⟩
     · by_cases hk0 : k = 0
       · have HS : Hid (ordsTo n os (k + 1)) := ordsTo_step HT.out (by rw [H0.out, H1.out, H2.out, H3.out, H4.out, H5.out]; exact h1) (fun h => by omega)
         have hkz : (decide (0 < k)) = false := by simp; omega
         have hk1 : k <= 0 := by omega
         clear hk0
         go_wp2_with fail
         have hkin := Kin.there wr
         refine wp_region_kin (by kernel_rfl) (by kernel_rfl) ?_
         repeat (go_big_quiet_step ((go_at_call 71; exact Kin.call (l2Order_any n _ _ _ _ _ _ _ hn1 hn2))))
         refine wpQuiet_nil ?_
         rintro _ ⟨s, rfl⟩
         have HS2 := HB.out.trans (s.below.mono HB.out.size)
         have R2 := below_row s.below (row_lt G3.out) G3.out
         generalize s.w = w2 at *
         go_wp2
         refine ⟨⟨k + 1, by omega, by go_num, HS.out, HS2, R2⟩, by simp [intOf]; omega⟩
       · have hk1 : 0 < k := by omega
         obtain ⟨rp, _⟩ := row6_at HCS.out HLX6.out (k - 1) (by omega)
         obtain ⟨p, HP⟩ : ∃ t, Hid (og6 os (k - 1) 0 = t) := ⟨_, rfl⟩
         rw [HP.out] at rp
         have tp := fun s : Kin wr => s.cell rp
         have hkm : k - 1 < ko := by omega
         have hw1 : IntKind.i64.wrap ((k : Int) - 1) = ((k - 1 : Nat) : Int) := by
           rw [IntKind.wrap_i64]; omega
         clear hk0
         by_cases hp : p < o0
         · have HS : Hid (ordsTo n os (k + 1)) := ordsTo_step HT.out (by rw [H0.out, H1.out, H2.out, H3.out, H4.out, H5.out]; exact h1) (fun _ => by rw [HP.out, H0.out]; exact hp)
           go_wp2_with fail
           have hkin := Kin.there wr
           refine wp_region_kin (by kernel_rfl) (by kernel_rfl) ?_
           repeat (go_big_quiet_step ((go_at_call 71; exact Kin.call (l2Order_any n _ _ _ _ _ _ _ hn1 hn2))))
           refine wpQuiet_nil ?_
           rintro _ ⟨s, rfl⟩
           have HS2 := HB.out.trans (s.below.mono HB.out.size)
           have R2 := below_row s.below (row_lt G3.out) G3.out
           generalize s.w = w2 at *
           go_wp2
           refine ⟨⟨k + 1, by omega, by go_num, HS.out, HS2, R2⟩, by simp [intOf]; omega⟩
         · have HN : Hid (ordsB n os ko = false) := ordsB_bad hlt (fun h => hp (by have := h.2 hk1; rw [HP.out, H0.out] at this; exact this))
           go_wp2_with fail
           have hkin := Kin.there wr
           refine wp_region_kin (by kernel_rfl) (by kernel_rfl) ?_
           repeat (go_big_quiet_step ((go_at_call 71; exact Kin.call (l2Order_any n _ _ _ _ _ _ _ hn1 hn2))))
           refine wpQuiet_nil ?_
           rintro _ ⟨s, rfl⟩
           have HS2 := HB.out.trans (s.below.mono HB.out.size)
           have R2 := below_row s.below (row_lt G3.out) G3.out
           generalize s.w = w2 at *
           go_wp2
           go_ret
           exact ⟨ret_bool (by simp [caseB_def, HN.out]), HS2⟩
   · have hkx : k = ko := by omega
     have HN : Hid (ordsB n os ko = true) := ordsB_yes (by omega) (hkx ▸ HT.out)
     clear hkx g3 hb
     go_wp2_with fail
     clear c0 c1 c2 c3 c4
     have HO2 : Hid (ordsB n os ko = true) := HN.out
     go_loopw [4] (fun t wr => ∃ k : Nat, k <= kv /\ t = .int .i64 k /\ vehsTo n vs k /\ Below w.heap.size w wr /\ wr.heap[w.heap.size]? = some (.cells #[Value.int .i64 n, Value.slice a zs.length cap, Value.slice ao ko co, Value.slice av kv cv, Value.int .i64 fine] 43 (0, 0))) (fun t _ => kv - (intOf t).toNat)
     case atStart => exact ⟨0, Nat.zero_le _, rfl, vehsTo_zero _ _, HB.out, G3.out⟩
     case round =>
       clear HT G3 HB HN
       obtain ⟨k, hk, rfl, ht, hb, g3⟩ := hrel
       have HT : Hid _ := ht
       have G3 : Hid _ := g3
       have HB : Hid _ := hb
       obtain ⟨c0, c1, c2, c3, c4⟩ := cells5 g3
       clear ht
       by_cases hlt : k < kv
       · obtain ⟨b, off, rfl, hcs⟩ := IntsAt.some (IntsAt.below HX5.out hb) (j := k * 5) (by rw [HLX5.out]; omega)
         obtain ⟨r0, r1, r2, r3, r4⟩ := row5_at hcs HLX5.out k hlt
         have HCS : Hid _ := hcs
         clear hcs g3 hb
         obtain ⟨o0, H0⟩ : ∃ t, Hid (og5 vs k 0 = t) := ⟨_, rfl⟩
         obtain ⟨o1, H1⟩ : ∃ t, Hid (og5 vs k 1 = t) := ⟨_, rfl⟩
         obtain ⟨o2, H2⟩ : ∃ t, Hid (og5 vs k 2 = t) := ⟨_, rfl⟩
         obtain ⟨o3, H3⟩ : ∃ t, Hid (og5 vs k 3 = t) := ⟨_, rfl⟩
         obtain ⟨o4, H4⟩ : ∃ t, Hid (og5 vs k 4 = t) := ⟨_, rfl⟩
         rw [H0.out] at r0
         rw [H1.out] at r1
         rw [H2.out] at r2
         rw [H3.out] at r3
         rw [H4.out] at r4
         have s0 := fun s : Kin wr => s.cell c0
         have s1 := fun s : Kin wr => s.cell c3
         have t0 := fun s : Kin wr => s.cell r0
         have t1 := fun s : Kin wr => s.cell r1
         have t2 := fun s : Kin wr => s.cell r2
         have t3 := fun s : Kin wr => s.cell r3
         have t4 := fun s : Kin wr => s.cell r4
         cases h1 : vehB n o0 o1 o2 o3 o4
         · have HN : Hid (vehsB n vs kv = false) := vehsB_bad hlt (by rw [H0.out, H1.out, H2.out, H3.out, H4.out, h1]; simp)
           go_wp2_with fail
           have hkin := Kin.there wr
           refine wp_region_kin (by kernel_rfl) (by kernel_rfl) ?_
           repeat (go_big_quiet_step ((go_at_call 72; exact Kin.call (l2Vehicle_any n _ _ _ _ _ _ hn1 hn2))))
           refine wpQuiet_nil ?_
           rintro _ ⟨s, rfl⟩
           have HS2 := HB.out.trans (s.below.mono HB.out.size)
           have R2 := below_row s.below (row_lt G3.out) G3.out
           generalize s.w = w2 at *
           go_wp2
           go_ret
           exact ⟨ret_bool (by simp [caseB_def, HN.out]), HS2⟩
         · by_cases hk0 : k = 0
           · have HS : Hid (vehsTo n vs (k + 1)) := vehsTo_step HT.out (by rw [H0.out, H1.out, H2.out, H3.out, H4.out]; exact h1) (fun h => by omega)
             have hkz : (decide (0 < k)) = false := by simp; omega
             have hk1 : k <= 0 := by omega
             clear hk0
             go_wp2_with fail
             have hkin := Kin.there wr
             refine wp_region_kin (by kernel_rfl) (by kernel_rfl) ?_
             repeat (go_big_quiet_step ((go_at_call 72; exact Kin.call (l2Vehicle_any n _ _ _ _ _ _ hn1 hn2))))
             refine wpQuiet_nil ?_
             rintro _ ⟨s, rfl⟩
             have HS2 := HB.out.trans (s.below.mono HB.out.size)
             have R2 := below_row s.below (row_lt G3.out) G3.out
             generalize s.w = w2 at *
             go_wp2
             refine ⟨⟨k + 1, by omega, by go_num, HS.out, HS2, R2⟩, by simp [intOf]; omega⟩
           · have hk1 : 0 < k := by omega
             obtain ⟨rp, _⟩ := row5_at HCS.out HLX5.out (k - 1) (by omega)
             obtain ⟨p, HP⟩ : ∃ t, Hid (og5 vs (k - 1) 0 = t) := ⟨_, rfl⟩
             rw [HP.out] at rp
             have tp := fun s : Kin wr => s.cell rp
             have hkm : k - 1 < kv := by omega
             have hw1 : IntKind.i64.wrap ((k : Int) - 1) = ((k - 1 : Nat) : Int) := by
               rw [IntKind.wrap_i64]; omega
             clear hk0
             by_cases hp : p < o0
             · have HS : Hid (vehsTo n vs (k + 1)) := vehsTo_step HT.out (by rw [H0.out, H1.out, H2.out, H3.out, H4.out]; exact h1) (fun _ => by rw [HP.out, H0.out]; exact hp)
               go_wp2_with fail
               have hkin := Kin.there wr
               refine wp_region_kin (by kernel_rfl) (by kernel_rfl) ?_
               repeat (go_big_quiet_step ((go_at_call 72; exact Kin.call (l2Vehicle_any n _ _ _ _ _ _ hn1 hn2))))
               refine wpQuiet_nil ?_
               rintro _ ⟨s, rfl⟩
               have HS2 := HB.out.trans (s.below.mono HB.out.size)
               have R2 := below_row s.below (row_lt G3.out) G3.out
               generalize s.w = w2 at *
               go_wp2
               refine ⟨⟨k + 1, by omega, by go_num, HS.out, HS2, R2⟩, by simp [intOf]; omega⟩
             · have HN : Hid (vehsB n vs kv = false) := vehsB_bad hlt (fun h => hp (by have := h.2 hk1; rw [HP.out, H0.out] at this; exact this))
               go_wp2_with fail
               have hkin := Kin.there wr
               refine wp_region_kin (by kernel_rfl) (by kernel_rfl) ?_
               repeat (go_big_quiet_step ((go_at_call 72; exact Kin.call (l2Vehicle_any n _ _ _ _ _ _ hn1 hn2))))
               refine wpQuiet_nil ?_
               rintro _ ⟨s, rfl⟩
               have HS2 := HB.out.trans (s.below.mono HB.out.size)
               have R2 := below_row s.below (row_lt G3.out) G3.out
               generalize s.w = w2 at *
               go_wp2
               go_ret
               exact ⟨ret_bool (by simp [caseB_def, HN.out]), HS2⟩
       · have hkx : k = kv := by omega
         have HN : Hid (vehsB n vs kv = true) := vehsB_yes (by omega) (hkx ▸ HT.out)
         clear hkx g3 hb
         go_wp2
         go_ret
         exact ⟨ret_bool (by rw [caseB_def, HM.out, HO2.out, HN.out, hf]; rfl), HB.out⟩
theorem specCase_any (n fine : Int) (a ao av : Option Addr) (cap ko co kv cv : Nat) (zs os vs : List Int) (w : World) (hA : IntsAt w a zs) (hO : IntsAt w ao os) (hV : IntsAt w av vs) (hlo : os.length = ko * 6) (hlv : vs.length = kv * 5) (hko : ko <= 9223372036854775807) (hkv : kv <= 9223372036854775807) :
   Calls Tryz.prog 52 #[.agg #[.int .i64 n, .slice a zs.length cap, .slice ao ko co, .slice av kv cv, .int .i64 fine]] w fun e w' => e = .returned (.bool (caseB n zs os vs ko kv fine)) /\ Below w.heap.size w w' := by
 by_cases h : matB n zs = true /\ ko <= 12 /\ kv <= 5 /\ inB fine 0 1000000 = true
 · exact specCase_loop n fine a ao av cap ko co kv cv zs os vs w hA hO hV hlo hlv h.1 h.2.1 h.2.2.1 h.2.2.2
 · exact specCase_no n fine a ao av cap ko co kv cv zs os vs w hA hko hkv h
end Go.Proofs.YtjlhmkmhehcmkaaGreat
namespace Go.Proofs.YtjlhmkmhehcmkaaGreat
open Go.RowKit
set_option maxHeartbeats 1000000 in
theorem l3Form_any (n fine veh : Int) (a ao av bi : Option Addr) (cap ko co kv cv c2 : Nat) (zs os vs ids : List Int) (w : World) (hA : IntsAt w a zs) (hO : IntsAt w ao os) (hV : IntsAt w av vs) (hI : IntsAt w bi ids) (hlo : os.length = ko * 6) (hlv : vs.length = kv * 5) (hko : ko <= 9223372036854775807) (hkv : kv <= 9223372036854775807) (hli : ids.length <= 9223372036854775807) (hc2 : ids.length <= c2) :
   Calls Tryz.prog 88 #[.agg #[.int .i64 n, .slice a zs.length cap, .slice ao ko co, .slice av kv cv, .int .i64 fine], .agg #[.int .i64 veh, .slice bi ids.length c2]] w fun e w' => e = .returned (.int .i64 (formV (caseB n zs os vs ko kv fine) vs os kv ko veh ids)) /\ Below w.heap.size w w' := by
 have HA : Hid (IntsAt w a zs) := hA
 have HO : Hid (IntsAt w ao os) := hO
 have HV : Hid (IntsAt w av vs) := hV
 have HI : Hid (IntsAt w bi ids) := hI
 have HLO : Hid _ := hlo
 have HLV : Hid _ := hlv
 clear hA hO hV hI hlo hlv
 have HC0 : Hid (CR w ((w.alloc (.cells #[Value.int .i64 n, Value.slice a zs.length cap, Value.slice ao ko co, Value.slice av kv cv, Value.int .i64 fine] 43)).alloc (.cells #[Value.int .i64 veh, Value.slice bi ids.length c2] 64)) _ _) := CR.new w _ _
 obtain ⟨r, HR⟩ : ∃ r, Hid (formV (caseB n zs os vs ko kv fine) vs os kv ko veh ids = r) := ⟨_, rfl⟩
 rw [HR.out]
 go_enter Tryz.func88, Tryz.ntmps88
 go_wp2_with fail
 refine (specCase_any n fine a ao av cap ko co kv cv zs os vs _ (HA.out.below HC0.out.1) (HO.out.below HC0.out.1) (HV.out.below HC0.out.1) HLO.out HLV.out hko hkv).mono ?_
 rintro e w1 ⟨rfl, hb⟩
 have C1 : Hid (CR w w1 _ _) := HC0.out.below hb
 clear hb HC0
 cases hc : caseB n zs os vs ko kv fine
 · have HV1 : Hid (r = 1) := HR.out.symm.trans (formV_1 hc)
   go_wp2
   go_ret
   exact ⟨ret_int HV1.out.symm, C1.out.1⟩
 · have HC : Hid _ := hc
   clear hc
   obtain ⟨c0, c1, c2', c3, c4⟩ := cells5 C1.out.2.1
   obtain ⟨d0, d1⟩ := cells2 C1.out.2.2
   go_wp2_with fail
   refine (l2Car_any n fine veh a ao av _ cap ko co kv cv vs _ (HV.out.below C1.out.1) HLV.out hkv).mono ?_
   rintro e w2 ⟨rfl, hb⟩
   obtain ⟨v0, G0⟩ : ∃ t, Hid (fnd5F vs kv veh 0 = t) := ⟨_, rfl⟩
   obtain ⟨v1, G1⟩ : ∃ t, Hid (fnd5F vs kv veh 1 = t) := ⟨_, rfl⟩
   obtain ⟨v2, G2⟩ : ∃ t, Hid (fnd5F vs kv veh 2 = t) := ⟨_, rfl⟩
   obtain ⟨v3, G3⟩ : ∃ t, Hid (fnd5F vs kv veh 3 = t) := ⟨_, rfl⟩
   obtain ⟨v4, G4⟩ : ∃ t, Hid (fnd5F vs kv veh 4 = t) := ⟨_, rfl⟩
   rw [G0.out, G1.out, G2.out, G3.out, G4.out]
   have C2 : Hid (CR w w2 _ _) := C1.out.below hb
   clear hb C1 c0 c1 c2' c3 c4 d0 d1
   cases ht : fnd5T vs kv veh
   · have HV1 : Hid (r = 2) := HR.out.symm.trans (formV_2 HC.out ht)
     go_wp2
     go_ret
     exact ⟨ret_int HV1.out.symm, (CR.alloc C2.out _).1⟩
   · have HT5 : Hid _ := ht
     clear ht
     have C3 : Hid (CR w (w2.alloc (Obj.cells #[Value.int .i64 v0, Value.int .i64 v1, Value.int .i64 v2, Value.int .i64 v3, Value.int .i64 v4] 97)) _ _) := CR.alloc C2.out _
     have RV3 : Hid ((w2.alloc (Obj.cells #[Value.int .i64 v0, Value.int .i64 v1, Value.int .i64 v2, Value.int .i64 v3, Value.int .i64 v4] 97)).heap[w2.heap.size]? = _) := heap_alloc_new _ _
     obtain ⟨c0, c1, c2', c3, c4⟩ := cells5 C3.out.2.1
     obtain ⟨d0, d1⟩ := cells2 C3.out.2.2
     clear C2
     by_cases h12 : ids.length <= 12
     · go_wp2_with fail
       clear c0 c1 c2' c3 c4 d0 d1
       generalize w2.alloc (Obj.cells #[Value.int .i64 v0, Value.int .i64 v1, Value.int .i64 v2, Value.int .i64 v3, Value.int .i64 v4] 97) = W2 at *
       generalize w2.heap.size = gv at *
       have HOB : Hid (ordsB n os ko = true) := caseB_ords HC.out
       go_loopw [7, 8] (fun sm t wr => ∃ k : Nat, k <= ids.length /\ t = .int .i64 k /\ sm = .int .i64 (loadTo os ko ids k) /\ stopsTo os ko ids k /\ CR w wr #[Value.int .i64 n, Value.slice a zs.length cap, Value.slice ao ko co, Value.slice av kv cv, Value.int .i64 fine] #[Value.int .i64 veh, Value.slice bi ids.length c2] /\ wr.heap[gv]? = some (.cells #[Value.int .i64 v0, Value.int .i64 v1, Value.int .i64 v2, Value.int .i64 v3, Value.int .i64 v4] 97 (0, 0))) (fun _ t _ => ids.length - (intOf t).toNat)
       case atStart => exact ⟨0, Nat.zero_le _, rfl, rfl, stopsTo_zero _ _ _, C3.out, RV3.out⟩
       case round =>
         clear C3 RV3
         obtain ⟨k, hk, rfl, rfl, hth, hb, hrv⟩ := hrel
         have hbd := loadTo_bd HOB.out ids k
         have HT : Hid (stopsTo os ko ids k) := hth
         have HB : Hid (CR w wr _ _) := hb
         have HRV : Hid (wr.heap[gv]? = _) := hrv
         obtain ⟨c0, c1, c2', c3, c4⟩ := cells5 hb.2.1
         obtain ⟨d0, d1⟩ := cells2 hb.2.2
         obtain ⟨s0, HS0⟩ : ∃ s, Hid (loadTo os ko ids k = s) := ⟨_, rfl⟩
         rw [HS0.out] at hbd ⊢
         clear hth hb hrv
         by_cases hlt : k < ids.length
         · obtain ⟨b, off, rfl, hcs⟩ := IntsAt.some (IntsAt.below HI.out HB.out.1) hlt
           have ct := hcs k hlt
           clear hcs
           obtain ⟨id, HID⟩ : ∃ i, Hid (ids.getD k 0 = i) := ⟨_, rfl⟩
           rw [HID.out] at ct
           have hl2 := fnd6F_load HOB.out id
           obtain ⟨o0, H0⟩ : ∃ t, Hid (fnd6F os ko id 0 = t) := ⟨_, rfl⟩
           obtain ⟨o1, H1⟩ : ∃ t, Hid (fnd6F os ko id 1 = t) := ⟨_, rfl⟩
           obtain ⟨o2, H2⟩ : ∃ t, Hid (fnd6F os ko id 2 = t) := ⟨_, rfl⟩
           obtain ⟨o3, H3⟩ : ∃ t, Hid (fnd6F os ko id 3 = t) := ⟨_, rfl⟩
           obtain ⟨o4, H4⟩ : ∃ t, Hid (fnd6F os ko id 4 = t) := ⟨_, rfl⟩
           obtain ⟨o5, H5⟩ : ∃ t, Hid (fnd6F os ko id 5 = t) := ⟨_, rfl⟩
           rw [H2.out] at hl2
           have HL1 : Hid (loadTo os ko ids (k + 1) = s0 + o2) := by
             show _ = _
             unfold loadTo
             rw [HS0.out, HID.out, H2.out]
           obtain ⟨tt, HTT⟩ : ∃ t, Hid (fnd6T os ko id = t) := ⟨_, rfl⟩
           go_wp2_with fail
           have HCT : Hid (wr.cell? ⟨b, off + k, none⟩ = _) := ct
           have HCA : Hid ((wr.alloc (Obj.cells #[Value.int .i64 0, Value.int .i64 0, Value.int .i64 0, Value.int .i64 0, Value.int .i64 0, Value.int .i64 0] 90)).cell? ⟨b, off + k, none⟩ = _) := (((Below.refl wr.heap.size wr).alloc (Nat.le_refl _) _).cell (p := ⟨b, off + k, none⟩) (block_lt_of_cell ct)).trans ct
           have HVA : Hid ((wr.alloc (Obj.cells #[Value.int .i64 0, Value.int .i64 0, Value.int .i64 0, Value.int .i64 0, Value.int .i64 0, Value.int .i64 0] 90)).heap[gv]? = _) := (heap_alloc_old _ _ (row_lt HRV.out)).trans HRV.out
           have hlb := block_lt_of_cell ct
           simp at hlb
           have hlw := row_lt HB.out.2.1
           have hlr := row_lt HB.out.2.2
           go_region_held3 (fun W => W.cell? ⟨w.heap.size, 0, none⟩ = some (.int .i64 n) /\ W.cell? ⟨w.heap.size, 1, none⟩ = some (.slice a zs.length cap) /\ W.cell? ⟨w.heap.size, 2, none⟩ = some (.slice ao ko co) /\ W.cell? ⟨w.heap.size, 3, none⟩ = some (.slice av kv cv) /\ W.cell? ⟨w.heap.size, 4, none⟩ = some (.int .i64 fine) /\ W.cell? ⟨w.heap.size + 1, 1, none⟩ = some (.slice (some ⟨b, off, none⟩) ids.length c2) /\ W.cell? ⟨b, off + k, none⟩ = some (.int .i64 id)) (first | with_reducible exact kS | with_reducible exact ⟨(keep_set (keep_set (keep_set (keep_set (keep_set (keep_set kS.1 (Nat.ne_of_lt hlw)) (Nat.ne_of_lt hlw)) (Nat.ne_of_lt hlw)) (Nat.ne_of_lt hlw)) (Nat.ne_of_lt hlw)) (Nat.ne_of_lt hlw)), (keep_set (keep_set (keep_set (keep_set (keep_set (keep_set kS.2.1 (Nat.ne_of_lt hlw)) (Nat.ne_of_lt hlw)) (Nat.ne_of_lt hlw)) (Nat.ne_of_lt hlw)) (Nat.ne_of_lt hlw)) (Nat.ne_of_lt hlw)), (keep_set (keep_set (keep_set (keep_set (keep_set (keep_set kS.2.2.1 (Nat.ne_of_lt hlw)) (Nat.ne_of_lt hlw)) (Nat.ne_of_lt hlw)) (Nat.ne_of_lt hlw)) (Nat.ne_of_lt hlw)) (Nat.ne_of_lt hlw)), (keep_set (keep_set (keep_set (keep_set (keep_set (keep_set kS.2.2.2.1 (Nat.ne_of_lt hlw)) (Nat.ne_of_lt hlw)) (Nat.ne_of_lt hlw)) (Nat.ne_of_lt hlw)) (Nat.ne_of_lt hlw)) (Nat.ne_of_lt hlw)), (keep_set (keep_set (keep_set (keep_set (keep_set (keep_set kS.2.2.2.2.1 (Nat.ne_of_lt hlw)) (Nat.ne_of_lt hlw)) (Nat.ne_of_lt hlw)) (Nat.ne_of_lt hlw)) (Nat.ne_of_lt hlw)) (Nat.ne_of_lt hlw)), (keep_set (keep_set (keep_set (keep_set (keep_set (keep_set kS.2.2.2.2.2.1 (Nat.ne_of_lt hlr)) (Nat.ne_of_lt hlr)) (Nat.ne_of_lt hlr)) (Nat.ne_of_lt hlr)) (Nat.ne_of_lt hlr)) (Nat.ne_of_lt hlr)), (keep_set (keep_set (keep_set (keep_set (keep_set (keep_set kS.2.2.2.2.2.2 (Nat.ne_of_lt hlb)) (Nat.ne_of_lt hlb)) (Nat.ne_of_lt hlb)) (Nat.ne_of_lt hlb)) (Nat.ne_of_lt hlb)) (Nat.ne_of_lt hlb))⟩ | go_keep) ((first
             | (go_at_call 54
                with_reducible refine (l2At_any n fine id a ao av _ cap ko co kv cv os wr.drew ?_ HLO.out hko).mono ?_
                · exact HO.out.below HB.out.1.drew
                rintro e w2 ⟨rfl, hb2⟩
                rw [H0.out, H1.out, H2.out, H3.out, H4.out, H5.out, HTT.out]
                have hcr2 := CR.below (CR.drew HB.out) hb2
                obtain ⟨k0, k1, k2, k3, k4⟩ := cells5 hcr2.2.1
                have k5 := (cells2 hcr2.2.2).2
                have k6 := (hb2.cell (p := ⟨b, off + k, none⟩) (block_lt_of_cell HCT.out)).trans HCT.out
                have kS := And.intro k0 (And.intro k1 (And.intro k2 (And.intro k3 (And.intro k4 (And.intro k5 k6)))))
                have CR2 : Hid (CR w w2 _ _) := hcr2
                have RV2 : Hid (w2.heap[gv]? = _) := below_row hb2 (row_lt HRV.out) HRV.out
                clear hb2 hcr2 k0 k1 k2 k3 k4 k5 k6)
             | (go_at_call 54
                with_reducible refine (l2At_any n fine id a ao av _ cap ko co kv cv os (wr.alloc (Obj.cells #[Value.int .i64 0, Value.int .i64 0, Value.int .i64 0, Value.int .i64 0, Value.int .i64 0, Value.int .i64 0] 90)).drew ?_ HLO.out hko).mono ?_
                · exact HO.out.below (CR.alloc HB.out (Obj.cells #[Value.int .i64 0, Value.int .i64 0, Value.int .i64 0, Value.int .i64 0, Value.int .i64 0, Value.int .i64 0] 90)).1.drew
                rintro e w2 ⟨rfl, hb2⟩
                rw [H0.out, H1.out, H2.out, H3.out, H4.out, H5.out, HTT.out]
                have hcr2 := CR.below (CR.drew (CR.alloc HB.out (Obj.cells #[Value.int .i64 0, Value.int .i64 0, Value.int .i64 0, Value.int .i64 0, Value.int .i64 0, Value.int .i64 0] 90))) hb2
                obtain ⟨k0, k1, k2, k3, k4⟩ := cells5 hcr2.2.1
                have k5 := (cells2 hcr2.2.2).2
                have k6 := (hb2.cell (p := ⟨b, off + k, none⟩) (block_lt_of_cell HCA.out)).trans HCA.out
                have kS := And.intro k0 (And.intro k1 (And.intro k2 (And.intro k3 (And.intro k4 (And.intro k5 k6)))))
                have CR2 : Hid (CR w w2 _ _) := hcr2
                have RV2 : Hid (w2.heap[gv]? = _) := below_row hb2 (row_lt HVA.out) HVA.out
                obtain ⟨z0, z1, z2, z3, z4, z5⟩ := cells6 (below_row hb2 (k := wr.heap.size) (by simp) (heap_alloc_new wr (Obj.cells #[Value.int .i64 0, Value.int .i64 0, Value.int .i64 0, Value.int .i64 0, Value.int .i64 0, Value.int .i64 0] 90)))
                have zf := fun i => frozen_of_row _ _ i _ _ (below_row hb2 (k := wr.heap.size) (by simp) (heap_alloc_new wr (Obj.cells #[Value.int .i64 0, Value.int .i64 0, Value.int .i64 0, Value.int .i64 0, Value.int .i64 0, Value.int .i64 0] 90)))
                have RO2 : Hid (w2.heap[wr.heap.size]? = _) := below_row hb2 (k := wr.heap.size) (by simp) (heap_alloc_new wr (Obj.cells #[Value.int .i64 0, Value.int .i64 0, Value.int .i64 0, Value.int .i64 0, Value.int .i64 0, Value.int .i64 0] 90))
                clear hb2 hcr2 k0 k1 k2 k3 k4 k5 k6)))
           all_goals (first
             | (have CRW : Hid (CR w (World.setCell (World.setCell (World.setCell (World.setCell (World.setCell (World.setCell w2 ⟨wr.heap.size, 0, none⟩ (Value.int .i64 o0)) ⟨wr.heap.size, 1, none⟩ (Value.int .i64 o1)) ⟨wr.heap.size, 2, none⟩ (Value.int .i64 o2)) ⟨wr.heap.size, 3, none⟩ (Value.int .i64 o3)) ⟨wr.heap.size, 4, none⟩ (Value.int .i64 o4)) ⟨wr.heap.size, 5, none⟩ (Value.int .i64 o5)) _ _) := CR.set (CR.set (CR.set (CR.set (CR.set (CR.set CR2.out HB.out.big) HB.out.big) HB.out.big) HB.out.big) HB.out.big) HB.out.big
                have RVW : Hid ((World.setCell (World.setCell (World.setCell (World.setCell (World.setCell (World.setCell w2 ⟨wr.heap.size, 0, none⟩ (Value.int .i64 o0)) ⟨wr.heap.size, 1, none⟩ (Value.int .i64 o1)) ⟨wr.heap.size, 2, none⟩ (Value.int .i64 o2)) ⟨wr.heap.size, 3, none⟩ (Value.int .i64 o3)) ⟨wr.heap.size, 4, none⟩ (Value.int .i64 o4)) ⟨wr.heap.size, 5, none⟩ (Value.int .i64 o5)).heap[gv]? = _) := row_set' (row_set' (row_set' (row_set' (row_set' (row_set' RV2.out (Nat.ne_of_lt (row_lt HRV.out))) (Nat.ne_of_lt (row_lt HRV.out))) (Nat.ne_of_lt (row_lt HRV.out))) (Nat.ne_of_lt (row_lt HRV.out))) (Nat.ne_of_lt (row_lt HRV.out))) (Nat.ne_of_lt (row_lt HRV.out))
                have ROW : Hid ((World.setCell (World.setCell (World.setCell (World.setCell (World.setCell (World.setCell w2 ⟨wr.heap.size, 0, none⟩ (Value.int .i64 o0)) ⟨wr.heap.size, 1, none⟩ (Value.int .i64 o1)) ⟨wr.heap.size, 2, none⟩ (Value.int .i64 o2)) ⟨wr.heap.size, 3, none⟩ (Value.int .i64 o3)) ⟨wr.heap.size, 4, none⟩ (Value.int .i64 o4)) ⟨wr.heap.size, 5, none⟩ (Value.int .i64 o5)).heap[wr.heap.size]? = _) := row_set6 RO2.out
                clear kS CR2 RV2 RO2 HCT HCA HVA ct z0 z1 z2 z3 z4 z5 zf
                generalize (World.setCell (World.setCell (World.setCell (World.setCell (World.setCell (World.setCell w2 ⟨wr.heap.size, 0, none⟩ (Value.int .i64 o0)) ⟨wr.heap.size, 1, none⟩ (Value.int .i64 o1)) ⟨wr.heap.size, 2, none⟩ (Value.int .i64 o2)) ⟨wr.heap.size, 3, none⟩ (Value.int .i64 o3)) ⟨wr.heap.size, 4, none⟩ (Value.int .i64 o4)) ⟨wr.heap.size, 5, none⟩ (Value.int .i64 o5)) = W at *
                generalize wr.heap.size = g at *)
             | (have CRW : Hid (CR w (w2.alloc (Obj.cells #[Value.int .i64 o0, Value.int .i64 o1, Value.int .i64 o2, Value.int .i64 o3, Value.int .i64 o4, Value.int .i64 o5] 90)) _ _) := CR.alloc CR2.out _
                have RVW : Hid ((w2.alloc (Obj.cells #[Value.int .i64 o0, Value.int .i64 o1, Value.int .i64 o2, Value.int .i64 o3, Value.int .i64 o4, Value.int .i64 o5] 90)).heap[gv]? = _) := (heap_alloc_old _ _ (row_lt RV2.out)).trans RV2.out
                have ROW : Hid ((w2.alloc (Obj.cells #[Value.int .i64 o0, Value.int .i64 o1, Value.int .i64 o2, Value.int .i64 o3, Value.int .i64 o4, Value.int .i64 o5] 90)).heap[w2.heap.size]? = _) := heap_alloc_new _ _
                clear kS CR2 RV2 HCT HCA HVA ct
                generalize w2.alloc (Obj.cells #[Value.int .i64 o0, Value.int .i64 o1, Value.int .i64 o2, Value.int .i64 o3, Value.int .i64 o4, Value.int .i64 o5] 90) = W at *
                generalize w2.heap.size = g at *))
           all_goals
             clear c0 c1 c2' c3 c4 d0 d1 hlw hlr hlb
             have hkc : k <= c2 := by omega
             have q1 := (cells2 CRW.out.2.2).2
             have ctW := ints_cell (HI.out.below CRW.out.1) hlt HID.out
             have t0 := fun s : Kin W => s.cell q1
             have t1 := fun s : Kin W => s.cell ctW
             cases tt
             · have HV1 : Hid (r = 3) := HR.out.symm.trans (formV_3 HC.out HT5.out (stopsB_bad hlt (stopB_mk HID.out HTT.out rfl)))
               go_wp2_with fail
               have hkin := Kin.there W
               refine wp_region_kin (by kernel_rfl) (by kernel_rfl) ?_
               repeat (go_big_quiet_step ((fail)))
               refine wpQuiet_nil ?_
               rintro _ ⟨s, rfl⟩
               have HS2 : Hid (CR w s.w _ _) := CRW.out.below s.below
               generalize s.w = w3 at *
               go_wp2
               go_ret
               exact ⟨ret_int HV1.out.symm, HS2.out.1⟩
             · obtain ⟨hh, HH⟩ : ∃ t, Hid (hasTo ids k id = t) := ⟨_, rfl⟩
               cases hh
               · have HS1 : Hid (stopsTo os ko ids (k + 1)) := stopsTo_step HT.out (stopB_mk HID.out HTT.out HH.out)
                 go_wp2_with fail
                 have hkin := Kin.there W
                 refine wp_region_kin (by kernel_rfl) (by kernel_rfl) ?_
                 repeat (go_big_quiet_step ((go_at_call 25; exact Kin.call_same (l3Has_is _ k _ id ids _ false HH.out ((HI.out.below CRW.out.1).below (Kin.below _)) hk (by omega)))))
                 refine wpQuiet_nil ?_
                 rintro _ ⟨s, rfl⟩
                 have HS2 : Hid (CR w s.w _ _) := CRW.out.below s.below
                 have HRV2 : Hid (s.w.heap[gv]? = _) := below_row s.below (row_lt RVW.out) RVW.out
                 obtain ⟨p0, p1, p2, p3, p4, p5⟩ := cells6 (below_row s.below (row_lt ROW.out) ROW.out)
                 clear q1 ctW t0 t1 CRW RVW ROW
                 generalize s.w = w3 at *
                 go_wp2
                 exact ⟨⟨k + 1, by omega, by go_num, by rw [HL1.out], HS1.out, HS2.out, HRV2.out⟩, by simp [intOf]; omega⟩
               · have HV1 : Hid (r = 3) := HR.out.symm.trans (formV_3 HC.out HT5.out (stopsB_bad hlt (stopB_mk HID.out HTT.out HH.out)))
                 go_wp2_with fail
                 have hkin := Kin.there W
                 refine wp_region_kin (by kernel_rfl) (by kernel_rfl) ?_
                 repeat (go_big_quiet_step ((go_at_call 25; exact Kin.call_same (l3Has_is _ k _ id ids _ true HH.out ((HI.out.below CRW.out.1).below (Kin.below _)) hk (by omega)))))
                 refine wpQuiet_nil ?_
                 rintro _ ⟨s, rfl⟩
                 have HS2 : Hid (CR w s.w _ _) := CRW.out.below s.below
                 generalize s.w = w3 at *
                 go_wp2
                 go_ret
                 exact ⟨ret_int HV1.out.symm, HS2.out.1⟩
         · have hkl : k = ids.length := by omega
           have HSB : Hid (stopsB os ko ids = true) := stopsB_yes h12 (hkl ▸ HT.out)
           have HS0' : Hid (loadTo os ko ids ids.length = s0) := hkl ▸ HS0.out
           obtain ⟨q0, q1, q2, q3, q4⟩ := cells5 HRV.out
           clear hkl
           by_cases hroom : v2 < s0
           · have HV1 : Hid (r = 4) := HR.out.symm.trans (formV_4 HC.out HT5.out HSB.out (by rw [HS0'.out, G2.out]; exact hroom))
             go_wp2
             go_ret
             exact ⟨ret_int HV1.out.symm, HB.out.1⟩
           · have HV1 : Hid (r = 0) := HR.out.symm.trans (formV_0 HC.out HT5.out HSB.out (by rw [HS0'.out, G2.out]; exact hroom))
             go_wp2
             go_ret
             exact ⟨ret_int HV1.out.symm, HB.out.1⟩
     · have HV1 : Hid (r = 3) := HR.out.symm.trans (formV_3 HC.out HT5.out (stopsB_many h12))
       go_wp2
       go_ret
       exact ⟨ret_int HV1.out.symm, C3.out.1⟩
end Go.Proofs.YtjlhmkmhehcmkaaGreat
namespace Go.Proofs.YtjlhmkmhehcmkaaGreat
open Go.RowKit
set_option maxHeartbeats 400000 in
theorem szRoute_any (n : Int) (a : Option Addr) (len cap : Nat) (left : Int) (w : World) (h0 : 0 <= left) (h1 : left <= 1048576) (hlen : len <= 9223372036854775807) :
   Calls Tryz.prog 51 #[.agg #[.int .i64 n, .slice a len cap], .int .i64 left] w fun e w' => e = .returned (.int .i64 (if left < len then -1 else left - len)) /\ Below w.heap.size w w' := by
 by_cases hlt : left < len
 · rw [if_pos hlt]
   go_enter Tryz.func51, Tryz.ntmps51
   go_wp2_with (go_at_call 19; refine (szInts_any _ _ _ _ _ h0 h1 hlen).mono ?_; rintro e w' ⟨rfl, rfl⟩)
   go_ret
   exact ⟨by simp, (Below.refl _ _).alloc (Nat.le_refl _) _⟩
 · rw [if_neg hlt]
   go_enter Tryz.func51, Tryz.ntmps51
   go_wp2_with (go_at_call 19; refine (szInts_any _ _ _ _ _ h0 h1 hlen).mono ?_; rintro e w' ⟨rfl, rfl⟩)
   go_ret
   exact ⟨by simp, (Below.refl _ _).alloc (Nat.le_refl _) _⟩
end Go.Proofs.YtjlhmkmhehcmkaaGreat
namespace Go.Proofs.YtjlhmkmhehcmkaaGreat
open Go.RowKit
set_option maxHeartbeats 400000 in
theorem toRoute_any (n : Int) (a : Option Addr) (cap : Nat) (zs : List Int) (w : World) (hA : IntsAt w a zs) (hlen : zs.length <= 1048576) :
   Calls Tryz.prog 58 #[.agg #[.int .i64 n, .slice a zs.length cap]] w fun e w' => ∃ g, w.heap.size <= g /\ e = .returned (.agg #[.int .i64 n, .slice (some ⟨g, 0, none⟩) zs.length zs.length]) /\ Below w.heap.size w w' /\ w'.heap[g]? = some (.cells (cellsOf zs) 2 (0, 0)) := by
 have HA : Hid (IntsAt w a zs) := hA
 clear hA
 go_enter Tryz.func58, Tryz.ntmps58
 go_wp2_with fail
 have HB0 : Hid (Below w.heap.size w (((w.alloc (Obj.cells #[Value.int .i64 n, Value.slice a zs.length cap] 86)).alloc (Obj.cells #[Value.int .i64 0, Value.slice none 0 0] 64)).alloc (Obj.cells #[Value.int .i64 n, Value.slice none 0 0] 64))) :=
   (((Below.refl _ _).alloc (Nat.le_refl _) _).alloc (by simp) _).alloc (by simp; omega) _
 refine (toInts_any a cap zs _ (HA.out.below HB0.out) hlen).mono ?_
 rintro e w1 ⟨rfl, hb, hsz, hg⟩
 obtain ⟨hc, hf⟩ := bcell hb
 have HB1 : Hid _ := hb
 have HG : Hid _ := hg
 clear hb hg
 simp at hsz
 go_wp2
 refine bodyPost_ret (v := .agg #[.int .i64 n, .slice (some ⟨w.heap.size + 1 + 1 + 1, 0, none⟩) zs.length zs.length]) (by simp [results, Tryz.results58, go_sem, hc]) rfl ⟨w.heap.size + 1 + 1 + 1, by omega, rfl, ?_, ?_⟩
 · exact (((HB0.out.trans (HB1.out.mono (by simp; omega))).setCell (by simp; omega) _).setCell (by simp) _).setCell (by simp) _
 · rw [heap_setCell_other _ _ _ _ (by simp <;> omega), heap_setCell_other _ _ _ _ (by simp <;> omega), heap_setCell_other _ _ _ _ (by simp <;> omega)]
   simpa using HG.out
end Go.Proofs.YtjlhmkmhehcmkaaGreat
namespace Go.Proofs.YtjlhmkmhehcmkaaGreat
open Go.RowKit
set_option maxHeartbeats 400000 in
theorem eqRoute_same (n : Int) (a b : Option Addr) (c1 c2 : Nat) (xs : List Int) (w : World) (hA : IntsAt w a xs) (hB : IntsAt w b xs) (hl1 : xs.length <= 1125899906842624) :
   Calls Tryz.prog 67 #[.agg #[.int .i64 n, .slice a xs.length c1], .agg #[.int .i64 n, .slice b xs.length c2]] w fun e w' => e = .returned (.bool true) /\ Below w.heap.size w w' := by
 have HB0 : Hid (Below w.heap.size w ((w.alloc (Obj.cells #[Value.int .i64 n, Value.slice a xs.length c1] 64)).alloc (Obj.cells #[Value.int .i64 n, Value.slice b xs.length c2] 64))) :=
   ((Below.refl _ _).alloc (Nat.le_refl _) _).alloc (by simp) _
 have HA : Hid (IntsAt w a xs) := hA
 have HB : Hid (IntsAt w b xs) := hB
 clear hA hB
 have hnn : (n != n) = false := by simp
 go_enter Tryz.func67, Tryz.ntmps67
 go_wp2_with fail
 refine (eqInts_any a b c1 c2 xs xs _ (HA.out.below HB0.out) (HB.out.below HB0.out) hl1).mono ?_
 rintro e w1 ⟨rfl, hb⟩
 have HB1 : Hid _ := hb
 clear hb
 have hd : decide (xs = xs) = true := by simp
 rw [hd]
 clear hd
 go_wp2
 go_ret
 exact ⟨rfl, HB0.out.trans (HB1.out.mono (by simp <;> omega))⟩
end Go.Proofs.YtjlhmkmhehcmkaaGreat
namespace Go.Proofs.YtjlhmkmhehcmkaaGreat
open Go.RowKit
def cmpV (x y : Int) : Int := if x < y then -1 else if y < x then 1 else 0
theorem compare_any (x y : Int) (w : World) : Calls Tryz.prog 128 #[.int .i64 x, .int .i64 y] w fun e w' => e = .returned (.int .i64 (cmpV x y)) /\ w' = w := by
 unfold cmpV
 by_cases h1 : x < y
 · rw [if_pos h1]
   go_enter Tryz.func128, Tryz.ntmps128
   go_wp2_with (go_at_call 131; refine (isNaN_any _ _).mono ?_; rintro e w' ⟨rfl, hw⟩; subst hw)
   go_ret
   exact ⟨rfl, rfl⟩
 · rw [if_neg h1]
   by_cases h2 : y < x
   · rw [if_pos h2]
     go_enter Tryz.func128, Tryz.ntmps128
     go_wp2_with (go_at_call 131; refine (isNaN_any _ _).mono ?_; rintro e w' ⟨rfl, hw⟩; subst hw)
     go_ret
     exact ⟨rfl, rfl⟩
   · rw [if_neg h2]
     go_enter Tryz.func128, Tryz.ntmps128
     go_wp2_with (go_at_call 131; refine (isNaN_any _ _).mono ?_; rintro e w' ⟨rfl, hw⟩; subst hw)
     go_ret
     exact ⟨rfl, rfl⟩
end Go.Proofs.YtjlhmkmhehcmkaaGreat
namespace Go.Proofs.YtjlhmkmhehcmkaaGreat
open Go.RowKit
theorem own_shp {w : World} {base k : Nat} {v : Value} {e : TypeId} {size : Nat} {xs : List Value} (h : w.ownsRow base e size v k xs) : v = .slice none 0 0 ∨ ∃ g c, v = .slice (some ⟨g, 0, none⟩) k c := by
 obtain ⟨_, ⟨h1, _⟩ | ⟨g, cap, cur, h2, _⟩⟩ := h
 · exact .inl h1
 · exact .inr ⟨g, cap, h2⟩
theorem own_blw {w w' : World} {base size n : Nat} {e : TypeId} {v : Value} {xs : List Value} (h : w.ownsRow base e size v n xs) (hb : Below w.heap.size w w') : w'.ownsRow base e size v n xs := by
 obtain ⟨h1, h2 | ⟨g, cap, cur, h2, h3, h4, h5⟩⟩ := h
 · exact ⟨h1, .inl h2⟩
 · exact ⟨h1, .inr ⟨g, cap, cur, h2, h3, below_row hb (row_lt h4) h4, h5⟩⟩
theorem own_bse {w : World} {base b0 k : Nat} {v : Value} {e : TypeId} {size : Nat} {xs : List Value} (h : w.ownsRow base e size v k xs) (hb : b0 <= base) : w.ownsRow b0 e size v k xs := by
 obtain ⟨h0, h1 | ⟨g, cap, cur, h2, h3, h4⟩⟩ := h
 · exact ⟨h0, .inl h1⟩
 · exact ⟨h0, .inr ⟨g, cap, cur, h2, Nat.le_trans hb h3, h4⟩⟩
theorem own_smg {w : World} {base k : Nat} {v : Value} {e : TypeId} {size : Nat} {xs : List Value} (h : w.ownsRow base e size v k xs) (hne : v ≠ .slice none 0 0) : ∃ g c, v = .slice (some ⟨g, 0, none⟩) k c := by
 rcases own_shp h with e | e
 · exact absurd e hne
 · exact e
theorem not_nilg {v v' : Value} {m : Nat} (h : v' = .slice none 0 0 ↔ v = .slice none 0 0 /\ m = 0) (hv : ∃ g n c, v = .slice (some ⟨g, 0, none⟩) n c) : v' ≠ .slice none 0 0 := by
 intro e
 obtain ⟨g, n, c, rfl⟩ := hv
 have := (h.1 e).1
 simp at this
theorem own_capg {w : World} {base k g c : Nat} {e : TypeId} {size : Nat} {xs : List Value} (h : w.ownsRow base e size (.slice (some ⟨g, 0, none⟩) k c) k xs) : k <= c := by
 obtain ⟨_, ⟨h1, _⟩ | ⟨g', cap, cur, h2, _, _, h3, _⟩⟩ := h
 · cases h1
 · injection h2 with e1 e2 e3
   omega
theorem append_blk {P : Program} (w : World) (base : Nat) (t ty e : TypeId) (i : TypeInfo) (z : Value) (size bytes : Nat) (ht : P.underlying t = some (.slice e)) (hi : P.info? e = some i) (hz : i.zero = some z)
   (hsize : i.size = size) (hby : i.bytes = bytes) (v : Value) (n : Nat) (xs : List Value) (hown : w.ownsRow base e size v n xs)
   (a : Addr) (m c : Nat) (news : List Value) (hl : news.length = m * size) (hnews : ∀ j u, news[j]? = some u -> w.cell? (a.add j) = some u) (h1 : ∀ u ∈ news, u.oneCell' = true)
   (h63 : n + m <= maxLen) (hbytes : (n + m) * bytes <= 140737488355328) {v' : Value} {w' : World} (hrun : (Builtin.append_ #[t, t] ty #[v, .slice (some a) m c]).run P w = .ok v' w') : v'.ownBlock = v.ownBlock ∨ v'.ownBlock = some w.heap.size := by
 subst hsize
 subst hby
 have hsmall : n + m <= 9223372036854775807 := by simp only [maxLen] at h63; omega
 rcases hown.2 with ⟨rfl, rfl⟩ | ⟨g, cap, cur, rfl, hbg, hg, hnc, hcm, hcs, htake⟩
 · by_cases hm : m = 0
   · subst hm
     have hn : news = [] := List.eq_nil_of_length_eq_zero (by simpa using hl)
     subst hn
     simp [Builtin.append_, run_underlying ht, sizeOf, typeInfo, hi, Builtin.lenOf, Builtin.firstCells, loadCells, loadCellsFrom] at hrun
     rw [<- hrun.1]
     exact .inl rfl
   · have hr := run_append_nil (P := P) w t ty e i z ht hi hz a m c news hl hnews (by omega) (by omega) (by have hb := hbytes; simp only [Nat.zero_add] at hb; omega)
     rw [hr] at hrun
     injection hrun with e1 e2
     rw [<- e1]
     exact .inr rfl
 · by_cases hroom : n + m <= cap
   · have hfit : n * i.size + news.length <= cur.size := by rw [hl, hcs, <- Nat.add_mul]; exact Nat.mul_le_mul_right _ hroom
     have hr := run_append_room (P := P) w t ty e i ht hi g n cap cur hg a m c news hl hnews h1 hroom hfit
     rw [hr] at hrun
     injection hrun with e1 e2
     rw [<- e1]
     exact .inl rfl
   · have holds : ∀ j u, xs[j]? = some u -> w.cell? ((⟨g, 0, none⟩ : Addr).add j) = some u := hown.cells (g := g) rfl
     have hr := run_append_grow (P := P) w t ty e i z ht hi hz ⟨g, 0, none⟩ n cap xs hown.1 holds a m c news hl hnews (by omega) (by omega) (growslice_fits (by omega) hbytes)
     rw [hr] at hrun
     injection hrun with e1 e2
     rw [<- e1]
     exact .inr rfl
theorem exec_app {P : Program} {o : Oper} {a : Act} {w w' : World} {v : Value} (s x : Operand) (t : TypeId) (vs vx : Value) (ho : o.op = .call { callee := .builtin .append, args := #[s, x], argTypes := #[t, t] })
   (hs : a.eval s = vs) (hx : a.eval x = vx) (hr : (Builtin.append_ #[t, t] o.type #[vs, vx]).run P w = .ok v w') : (execOp a.eval o).run P w = .ok (.value v) w' := by
 unfold execOp
 simp only [ho, resolve, invoke, builtin, Sem.run_bind, Sem.run_pure, Result.andThen_ok, List.map_toArray, List.map_cons, List.map_nil, hs, hx, hr]
end Go.Proofs.YtjlhmkmhehcmkaaGreat
namespace Go.Proofs.YtjlhmkmhehcmkaaGreat
open Go.RowKit
theorem own_putV {w : World} {base n g c k size m : Nat} {e : TypeId} {xs : List Value} (v : Value) (h : w.ownsRow base e size (.slice (some ⟨g, 0, none⟩) m c) n xs) : (w.setCell ⟨g, k, none⟩ v).ownsRow base e size (.slice (some ⟨g, 0, none⟩) m c) n (xs.set k v) := by
 obtain ⟨h0, ⟨h1, _⟩ | ⟨g', cap, cur, h2, h3, h4, h5, h6, h7, h8⟩⟩ := h
 · cases h1
 · simp at h2
   obtain ⟨rfl, rfl, rfl⟩ := h2
   refine ⟨by simpa using h0, .inr ⟨g, c, cur.setIfInBounds k v, rfl, h3, heap_setCell_same w g k cur e _ h4, h5, h6, by simpa using h7, ?_⟩⟩
   rw [Array.toList_setIfInBounds, List.take_set, h8]
theorem own_cellV {w : World} {base n g c k size m : Nat} {e : TypeId} {xs : List Value} {x : Value} (h : w.ownsRow base e size (.slice (some ⟨g, 0, none⟩) m c) n xs) (hk : xs[k]? = some x) : w.cell? ⟨g, k, none⟩ = some x /\ w.frozen? ⟨g, k, none⟩ = false := by
 refine ⟨?_, ?_⟩
 · have := h.cells (g := g) rfl k x hk
   have hadd : (⟨g, 0, none⟩ : Addr).add k = ⟨g, k, none⟩ := by unfold Addr.add; split <;> simp_all
   rw [hadd] at this
   exact this
 · obtain ⟨h0, ⟨h1, _⟩ | ⟨g', cap, cur, h2, h3, h4, h5⟩⟩ := h
   · cases h1
   · simp at h2
     obtain ⟨rfl, rfl, rfl⟩ := h2
     exact frozen_of_row _ _ k _ _ h4
theorem own_kinds {w : World} {base n size : Nat} {e : TypeId} {v : Value} {xs : List Value} (h : w.ownsRow base e size v n xs) : (v = .slice none 0 0 /\ n = 0) ∨ ∃ g c, v = .slice (some ⟨g, 0, none⟩) n c /\ base <= g /\ g < w.heap.size := by
 obtain ⟨_, ⟨h1, h2⟩ | ⟨g, cap, cur, h2, h3, h4, _⟩⟩ := h
 · exact .inl ⟨h1, h2⟩
 · exact .inr ⟨g, cap, h2, h3, row_lt h4⟩
end Go.Proofs.YtjlhmkmhehcmkaaGreat
namespace Go.Proofs.YtjlhmkmhehcmkaaGreat
open Go.RowKit
theorem ownV_of_cells {W : World} {base g cap n size : Nat} {E : TypeId} {cur : Array Value} {xs : List Value} (hr : W.heap[g]? = some (.cells cur E (0, 0))) (hsz : cur.size = cap * size) (hn : n <= cap) (hm : cap <= maxLen) (hb : base <= g) (hx : xs.length = n * size) (hc : ∀ j, j < n * size -> W.cell? ⟨g, j, none⟩ = xs[j]?) : W.ownsRow base E size (.slice (some ⟨g, 0, none⟩) n cap) n xs := by
 refine ⟨hx, .inr ⟨g, cap, cur, rfl, hb, hr, hn, hm, hsz, ?_⟩⟩
 apply List.ext_getElem?
 intro j
 rw [List.getElem?_take]
 by_cases hj : j < n * size
 · have h1 := hc j hj
   rw [cell_of_row _ _ _ _ _ _ hr] at h1
   rw [if_pos hj, Array.getElem?_toList, h1]
 · rw [if_neg hj, List.getElem?_eq_none (by omega)]
end Go.Proofs.YtjlhmkmhehcmkaaGreat
namespace Go.Proofs.YtjlhmkmhehcmkaaGreat
open Go.RowKit
theorem takingOut_any (x : Int) (w : World) :
   Calls Tryz.prog 84 #[.int .i64 x] w fun e w' => ∃ p, w.heap.size <= p /\ e = .returned (.func (.func 102) #[] #[.pointer (some ⟨p, 0, none⟩)]) /\ Below w.heap.size w w' /\ w'.cell? ⟨p, 0, none⟩ = some (.int .i64 x) := by
 have hmf : ∀ (fn : Fn) (first cap : Array Value) (w : World), (Instr.makeFunc fn first cap).run Tryz.prog w = .ok (.func fn first cap) w := fun _ _ _ _ => rfl
 go_enter Tryz.func84, Tryz.ntmps84
 go_wp2
 go_ret
 refine ⟨w.heap.size, Nat.le_refl _, rfl, (Below.refl _ _).alloc (Nat.le_refl _) _, ?_⟩
 first
   | exact cell_of_row _ _ _ _ _ _ (heap_alloc_new _ _)
   | exact cells2 (heap_alloc_new _ _)
end Go.Proofs.YtjlhmkmhehcmkaaGreat
namespace Go.Proofs.YtjlhmkmhehcmkaaGreat
open Go.RowKit
theorem infoI64 : (Tryz.prog.info? 2).map (fun i => (i.zero, i.size, i.bytes)) = some (some (Value.int .i64 0), 1, 8) := by kernel_rfl
end Go.Proofs.YtjlhmkmhehcmkaaGreat
namespace Go.Proofs.YtjlhmkmhehcmkaaGreat
open Go.RowKit
theorem grown_set (W : World) (g i : Nat) (v : Value) : W.grownBy (W.setCell ⟨g, i, none⟩ v) (some g) :=
 ⟨rfl, rfl, rfl, by simp [World.setCell], fun b _ hne => heap_setCell_other W ⟨g, i, none⟩ b v (fun e => hne (by rw [e]))⟩
theorem grown_trans {w w1 w2 : World} {g : Nat} (h1 : w.grownBy w1 (some g)) (h2 : w1.grownBy w2 (some g)) : w.grownBy w2 (some g) :=
 ⟨h2.os.trans h1.os, h2.tape.trans h1.tape, h2.output.trans h1.output, Nat.le_trans h1.size h2.size, fun b hb hne => (h2.block b (Nat.lt_of_lt_of_le hb h1.size) hne).trans (h1.block b hb hne)⟩
theorem grown_refl (w : World) (g : Nat) : w.grownBy w (some g) := ⟨rfl, rfl, rfl, Nat.le_refl _, fun _ _ _ => rfl⟩
end Go.Proofs.YtjlhmkmhehcmkaaGreat
namespace Go.Proofs.YtjlhmkmhehcmkaaGreat
open Go.RowKit
theorem wrap_rand {s : Int} (h1 : 0 <= s) (h2 : s <= 2147483647) : wrap64 (s * 1103515245) = s * 1103515245 /\ wrap64 (s * 1103515245 + 12345) = s * 1103515245 + 12345 := by
 unfold wrap64; omega
set_option maxHeartbeats 400000 in
theorem specRand_any (s : Int) (w : World) :
   Calls Tryz.prog 55 #[.int .i64 s] w fun e w' => e = .returned (.int .i64 (randV s)) /\ w' = w := by
 obtain ⟨r, HR⟩ : ∃ r, Hid (randV s = r) := ⟨_, rfl⟩
 rw [HR.out]
 cases hin : inB s 0 2147483647
 · have HV : Hid (r = 0) := HR.out.symm.trans (randV_no hin)
   go_enter Tryz.func55, Tryz.ntmps55
   go_wp2_with (go_at_call 21; refine (l1In_any _ _ _ _).mono ?_; rintro e w' ⟨rfl, rfl⟩)
   go_ret
   exact ⟨ret_int HV.out.symm, rfl⟩
 · have hb := inB_true hin
   have HV : Hid (r = (s * 1103515245 + 12345) % 2147483648) := HR.out.symm.trans (randV_yes hin)
   obtain ⟨m1, m2⟩ := wrap_rand hb.1 hb.2
   go_enter Tryz.func55, Tryz.ntmps55
   go_wp2_with (go_at_call 21; refine (l1In_any _ _ _ _).mono ?_; rintro e w' ⟨rfl, rfl⟩)
   go_ret
   exact ⟨ret_int HV.out.symm, rfl⟩
end Go.Proofs.YtjlhmkmhehcmkaaGreat
namespace Go.Proofs.YtjlhmkmhehcmkaaGreat
open Go.RowKit
set_option maxHeartbeats 400000 in
theorem isSeed_any (n : Int) (w : World) :
   Calls Tryz.prog 36 #[.int .i64 n] w fun e w' => e = .returned (.bool (inB n 0 2147483647)) /\ w' = w := by
 go_enter Tryz.func36, Tryz.ntmps36
 go_wp2_with (go_at_call 35; refine (within_any _ _ _ _).mono ?_; rintro e w' ⟨rfl, rfl⟩)
 go_ret
 exact ⟨rfl, rfl⟩
set_option maxHeartbeats 400000 in
theorem implRand_any (s : Int) (w : World) :
   Calls Tryz.prog 81 #[.int .i64 s] w fun e w' => e = .returned (.int .i64 (randV s)) /\ w' = w := by
 obtain ⟨r, HR⟩ : ∃ r, Hid (randV s = r) := ⟨_, rfl⟩
 rw [HR.out]
 cases hin : inB s 0 2147483647
 · have HV : Hid (r = 0) := HR.out.symm.trans (randV_no hin)
   go_enter Tryz.func81, Tryz.ntmps81
   go_wp2_with (go_at_call 36; refine (isSeed_any _ _).mono ?_; rintro e w' ⟨rfl, rfl⟩)
   go_ret
   exact ⟨ret_int HV.out.symm, rfl⟩
 · have hb := inB_true hin
   have HV : Hid (r = (s * 1103515245 + 12345) % 2147483648) := HR.out.symm.trans (randV_yes hin)
   obtain ⟨m1, m2⟩ := wrap_rand hb.1 hb.2
   go_enter Tryz.func81, Tryz.ntmps81
   go_wp2_with (go_at_call 36; refine (isSeed_any _ _).mono ?_; rintro e w' ⟨rfl, rfl⟩)
   go_ret
   exact ⟨ret_int HV.out.symm, rfl⟩
end Go.Proofs.YtjlhmkmhehcmkaaGreat
namespace Go.Proofs.YtjlhmkmhehcmkaaGreat
open Go.RowKit
theorem destroyF_any (n fine kk : Int) (a ao av : Option Addr) (zl cap ko co kv cv : Nat) (w : World) :
   Calls Tryz.prog 37 #[.agg #[.int .i64 n, .slice a zl cap, .slice ao ko co, .slice av kv cv, .int .i64 fine], .int .i64 kk] w fun e w' => ∃ kb cb : Nat, e = .returned (.func (.func 61) #[] #[.pointer (some ⟨kb, 0, none⟩), .pointer (some ⟨cb, 0, none⟩)]) /\ Below w.heap.size w w' /\ w'.cell? ⟨kb, 0, none⟩ = some (.int .i64 kk) /\ w'.heap[cb]? = some (.cells #[.int .i64 n, .slice a zl cap, .slice ao ko co, .slice av kv cv, .int .i64 fine] 43 (0, 0)) := by
 have hmf : ∀ (fn : Fn) (first cap : Array Value) (w : World), (Instr.makeFunc fn first cap).run Tryz.prog w = .ok (.func fn first cap) w := fun _ _ _ _ => rfl
 go_enter Tryz.func37, Tryz.ntmps37
 go_wp2
 go_ret
 refine ⟨w.heap.size + 1, w.heap.size, rfl, ((Below.refl _ _).alloc (Nat.le_refl _) _).alloc (by simp) _, ?_, heap_alloc2_old _ _ _⟩
 exact cell_of_row _ _ _ _ _ _ (heap_alloc2_new _ _ _)
end Go.Proofs.YtjlhmkmhehcmkaaGreat