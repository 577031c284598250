import Derived.Test.YtcljhgildbcdmaaGreatPack0
import Derived.Test.YtcljhgildbcdmaaGreatPack1
import Derived.Test.YtcljhgildbcdmaaGreatPack4
import Derived.Test.YtcljhgildbcdmaaGreatPack5
namespace Go.Proofs.YtcljhgildbcdmaaGreat
open Go.RowKit
theorem drive_is (n x y : Int) (v0 v1 v2 v3 v4 : Int) (a ar : Option Addr) (cap kr cr : Nat) (zs : List Int) (w : World) (d : Int) (hd : tmI n zs x y = d) (hm : matB n zs = true) (hx : 0 <= x /\ x < n) (hy : 0 <= y /\ y < n) (hA : IntsAt w a zs) :
   Calls Tryz.prog 153 #[.agg #[.int .i64 n, .slice a zs.length cap, .int .i64 v0, .int .i64 v1, .int .i64 v2, .int .i64 v3, .int .i64 v4, .slice ar kr cr], .int .i64 x, .int .i64 y] w fun e w' => e = .returned (.int .i64 d) /\ Below w.heap.size w w' := hd ▸ drive_I n x y v0 v1 v2 v3 v4 a ar cap kr cr zs w hm hx hy hA
theorem within_is (n lo hi : Int) (w : World) (v : Bool) (hv : inB n lo hi = v) :
   Calls Tryz.prog 65 #[.int .i64 n, .int .i64 lo, .int .i64 hi] w fun e w' => e = .returned (.bool v) /\ w' = w := hv ▸ within_any n lo hi w
end Go.Proofs.YtcljhgildbcdmaaGreat
namespace Go.Proofs.YtcljhgildbcdmaaGreat
open Go.RowKit
def CRR (w W : World) (cs rs ts : Array Value) : Prop := CR w W cs rs /\ W.heap[w.heap.size + 2]? = some (.cells ts 102 (0, 0))
theorem CRR.new (w : World) (cs rs ts : Array Value) : CRR w (((w.alloc (.cells cs 43)).alloc (.cells rs 102)).alloc (.cells ts 102)) cs rs ts :=
 ⟨(CR.new w cs rs).alloc _, by have := heap_alloc_new ((w.alloc (.cells cs 43)).alloc (.cells rs 102)) (.cells ts 102); simpa using this⟩
theorem CRR.below {w W W' : World} {cs rs ts : Array Value} (h : CRR w W cs rs ts) (hb : Below W.heap.size W W') : CRR w W' cs rs ts :=
 ⟨h.1.below hb, below_row hb (row_lt h.2) h.2⟩
theorem CRR.b {w W : World} {cs rs ts : Array Value} (h : CRR w W cs rs ts) : Below w.heap.size w W := h.1.1
theorem CRR.alloc {w W : World} {cs rs ts : Array Value} (h : CRR w W cs rs ts) (o : Obj) : CRR w (W.alloc o) cs rs ts := h.below ((Below.refl _ _).alloc (Nat.le_refl _) _)
theorem CRR.big {w W : World} {cs rs ts : Array Value} (h : CRR w W cs rs ts) : w.heap.size + 2 < W.heap.size := row_lt h.2
theorem CRR.set {w W : World} {cs rs ts : Array Value} (h : CRR w W cs rs ts) (u1 u2 : Value) : CR w ((W.setCell ⟨w.heap.size + 1 + 1, 0, none⟩ u1).setCell ⟨w.heap.size + 1 + 1, 1, none⟩ u2) cs rs := (h.1.set (by omega)).set (by omega)
theorem cr7 {w W : World} {c0 c1 c2 c3 c4 r0 r1 : Value} (h : CR w W #[c0, c1, c2, c3, c4] #[r0, r1]) :
   W.cell? ⟨w.heap.size, 0, none⟩ = some c0 /\ W.cell? ⟨w.heap.size, 1, none⟩ = some c1 /\ W.cell? ⟨w.heap.size, 2, none⟩ = some c2 /\ W.cell? ⟨w.heap.size, 3, none⟩ = some c3 /\ W.cell? ⟨w.heap.size, 4, none⟩ = some c4 /\ W.cell? ⟨w.heap.size + 1, 0, none⟩ = some r0 /\ W.cell? ⟨w.heap.size + 1, 1, none⟩ = some r1 := by
 obtain ⟨k0, k1, k2, k3, k4⟩ := cells5 h.2.1
 obtain ⟨k5, k6⟩ := cells2 h.2.2
 exact ⟨k0, k1, k2, k3, k4, k5, k6⟩
theorem owns_set2 {w : World} {base k b : Nat} {v u1 u2 : Value} {e : TypeId} {size : Nat} {xs : List Value} (h : w.ownsRow base e size v k xs) (hb : b < base) : ((w.setCell ⟨b, 0, none⟩ u1).setCell ⟨b, 1, none⟩ u2).ownsRow base e size v k xs := ownsRow_setCell_below (ownsRow_setCell_below h hb u1) hb u2
end Go.Proofs.YtcljhgildbcdmaaGreat
namespace Go.Proofs.YtcljhgildbcdmaaGreat
open Go.RowKit
def markA (cur : Array Value) (k0 : Int) : Nat -> Array Value
 | 0 => cur
 | m + 1 => (markA cur k0 m).setIfInBounds m (.int .i64 (k0 + (m : Nat)))
theorem markA_size (cur : Array Value) (k0 : Int) : ∀ m, (markA cur k0 m).size = cur.size
 | 0 => rfl
 | m + 1 => by simp [markA, markA_size cur k0 m]
theorem markA_get (cur : Array Value) (k0 : Int) : ∀ m, m <= cur.size -> ∀ j, j < m -> (markA cur k0 m)[j]? = some (.int .i64 (k0 + (j : Nat)))
 | 0, _, j, hj => by omega
 | m + 1, hm, j, hj => by
   unfold markA
   by_cases e : j = m
   · subst e
     rw [Array.getElem?_setIfInBounds_self_of_lt (by rw [markA_size]; omega)]
   · rw [Array.getElem?_setIfInBounds_ne (by omega)]
     exact markA_get cur k0 m (by omega) j (by omega)
theorem row_some {w : World} {g : Nat} {cur : Array Value} {T : TypeId} (h : w.heap[g]? = some (.cells cur T (0, 0))) {j : Nat} (hj : j < cur.size) : ∃ v, w.cell? ⟨g, j, none⟩ = some v := by
 rw [cell_of_row _ _ j _ _ _ h]
 exact ⟨cur[j], by simp [hj]⟩
theorem mark_step {w : World} {g m : Nat} {cur : Array Value} {T : TypeId} {k0 v : Int} (h : w.heap[g]? = some (.cells (markA cur k0 m) T (0, 0))) (hv : v = k0 + (m : Nat)) : (w.setCell ⟨g, m, none⟩ (.int .i64 v)).heap[g]? = some (.cells (markA cur k0 (m + 1)) T (0, 0)) := by
 rw [heap_setCell_same _ _ _ _ _ _ h, hv]
 rfl
end Go.Proofs.YtcljhgildbcdmaaGreat
namespace Go.Proofs.YtcljhgildbcdmaaGreat
open Go.RowKit
set_option maxHeartbeats 1000000 in
theorem markInt64S_any (g n cap : Nat) (k0 : Int) (cur : Array Value) (T : TypeId) (w : World) (hrow0 : w.heap[g]? = some (.cells cur T (0, 0))) (hn : n <= cur.size) (h0 : 0 <= k0) (h1 : k0 <= 1000000000000) (hn1 : n <= 10000000) :
   Calls Tryz.prog 51 #[.slice (some ⟨g, 0, none⟩) n cap, .int .i64 k0] w fun e w' => e = .returned (.int .i64 (k0 + ((n : Nat) : Int))) /\ w.grownBy w' (some g) /\ w'.heap[g]? = some (.cells (markA cur k0 (n)) T (0, 0)) := by
 have HR0 : Hid (w.heap[g]? = some (.cells cur T (0, 0))) := hrow0
 clear hrow0
 go_enter Tryz.func51, Tryz.ntmps51
 go_wp2_with fail
 go_loopw [1, 5] (fun kk t wr => ∃ k : Nat, k <= n /\ t = .int .i64 k /\ kk = .int .i64 (k0 + ((k : Nat) : Int)) /\ w.grownBy wr (some g) /\ wr.heap[g]? = some (.cells (markA cur k0 (k)) T (0, 0))) (fun _ t _ => n - (intOf t).toNat)
 case atStart => exact ⟨0, Nat.zero_le _, rfl, by simp, grown_refl _ _, HR0.out⟩
 case round =>
   obtain ⟨k, hk, rfl, rfl, hg, hrow⟩ := hrel
   have HG : Hid (w.grownBy wr (some g)) := hg
   clear hg
   obtain ⟨K, HK⟩ : ∃ t, Hid (k0 + ((k : Nat) : Int) = t) := ⟨_, rfl⟩
   have hkb : 0 <= K /\ K <= 1000100000000 := by
     have := HK.out
     omega
   rw [HK.out]
   by_cases hlt : k < n
   · have fz := fun i => frozen_of_row _ _ i _ _ hrow
     obtain ⟨z0, y0⟩ := row_some hrow (j := k) (by rw [markA_size]; omega)
     have HROW : Hid ((World.heap (World.setCell wr ⟨g, k, none⟩ (Value.int .i64 K)))[g]? = some (.cells (markA cur k0 ((k + 1))) T (0, 0))) := by
       show _ = _
       exact (mark_step hrow (by have := HK.out; omega))
     have HGR : Hid (w.grownBy (World.setCell wr ⟨g, k, none⟩ (Value.int .i64 K)) (some g)) := (grown_trans HG.out (grown_set _ _ _ _))
     have HK1 : Hid (k0 + (((k + 1) : Nat) : Int) = K + 1) := by
       show _ = _
       have := HK.out
       omega
     clear hrow
     go_wp2
     go_roundw
     case rel => exact ⟨k + 1, by omega, by go_num, by first | (rw [HK1.out]; go_num) | rw [HK1.out], HGR.out, HROW.out⟩
     case measure => simp [intOf]; omega
   · have hkl : k = n := by omega
     subst hkl
     have HROW : Hid (wr.heap[g]? = _) := hrow
     clear hrow
     go_wp2
     go_ret
     exact ⟨ret_int HK.out.symm, HG.out, HROW.out⟩
set_option maxHeartbeats 400000 in
theorem markInt64S_nil (a : Option Addr) (cap : Nat) (k0 : Int) (w : World) :
   Calls Tryz.prog 51 #[.slice a 0 cap, .int .i64 k0] w fun e w' => e = .returned (.int .i64 k0) /\ w' = w := by
 go_enter Tryz.func51, Tryz.ntmps51
 go_wp2_with fail
 go_loop [1, 5] (fun kk t => t = .int .i64 0 /\ kk = .int .i64 k0) (fun _ _ => 0)
 case atStart => exact ⟨rfl, rfl⟩
 case round =>
   obtain ⟨rfl, rfl⟩ := hrel
   go_wp2
   go_ret
   exact ⟨rfl, rfl⟩
end Go.Proofs.YtcljhgildbcdmaaGreat
namespace Go.Proofs.YtcljhgildbcdmaaGreat
end Go.Proofs.YtcljhgildbcdmaaGreat
namespace Go.Proofs.YtcljhgildbcdmaaGreat
open Go.RowKit
set_option maxHeartbeats 1000000 in
theorem markOrderS_any (g n cap : Nat) (k0 : Int) (cur : Array Value) (T : TypeId) (w : World) (hrow0 : w.heap[g]? = some (.cells cur T (0, 0))) (hn : n * 6 <= cur.size) (h0 : 0 <= k0) (h1 : k0 <= 1000000000000) (hn1 : n <= 10000000) :
   Calls Tryz.prog 48 #[.slice (some ⟨g, 0, none⟩) n cap, .int .i64 k0] w fun e w' => e = .returned (.int .i64 (k0 + ((n * 6 : Nat) : Int))) /\ w.grownBy w' (some g) /\ w'.heap[g]? = some (.cells (markA cur k0 (n * 6)) T (0, 0)) := by
 have HR0 : Hid (w.heap[g]? = some (.cells cur T (0, 0))) := hrow0
 clear hrow0
 go_enter Tryz.func48, Tryz.ntmps48
 go_wp2_with fail
 go_loopw [1, 5] (fun kk t wr => ∃ k : Nat, k <= n /\ t = .int .i64 k /\ kk = .int .i64 (k0 + ((k * 6 : Nat) : Int)) /\ w.grownBy wr (some g) /\ wr.heap[g]? = some (.cells (markA cur k0 (k * 6)) T (0, 0))) (fun _ t _ => n - (intOf t).toNat)
 case atStart => exact ⟨0, Nat.zero_le _, rfl, by simp, grown_refl _ _, HR0.out⟩
 case round =>
   obtain ⟨k, hk, rfl, rfl, hg, hrow⟩ := hrel
   have HG : Hid (w.grownBy wr (some g)) := hg
   clear hg
   obtain ⟨K, HK⟩ : ∃ t, Hid (k0 + ((k * 6 : Nat) : Int) = t) := ⟨_, rfl⟩
   have hkb : 0 <= K /\ K <= 1000100000000 := by
     have := HK.out
     omega
   rw [HK.out]
   by_cases hlt : k < n
   · have fz := fun i => frozen_of_row _ _ i _ _ hrow
     obtain ⟨z0, y0⟩ := row_some hrow (j := k * 6) (by rw [markA_size]; omega)
     obtain ⟨z1, y1⟩ := row_some hrow (j := k * 6 + 1) (by rw [markA_size]; omega)
     obtain ⟨z2, y2⟩ := row_some hrow (j := k * 6 + 2) (by rw [markA_size]; omega)
     obtain ⟨z3, y3⟩ := row_some hrow (j := k * 6 + 3) (by rw [markA_size]; omega)
     obtain ⟨z4, y4⟩ := row_some hrow (j := k * 6 + 4) (by rw [markA_size]; omega)
     obtain ⟨z5, y5⟩ := row_some hrow (j := k * 6 + 5) (by rw [markA_size]; omega)
     have HROW : Hid ((World.heap (World.setCell (World.setCell (World.setCell (World.setCell (World.setCell (World.setCell wr ⟨g, k * 6, none⟩ (Value.int .i64 K)) ⟨g, k * 6 + 1, none⟩ (Value.int .i64 (K + 1))) ⟨g, k * 6 + 2, none⟩ (Value.int .i64 (K + 1 + 1))) ⟨g, k * 6 + 3, none⟩ (Value.int .i64 (K + 1 + 1 + 1))) ⟨g, k * 6 + 4, none⟩ (Value.int .i64 (K + 1 + 1 + 1 + 1))) ⟨g, k * 6 + 5, none⟩ (Value.int .i64 (K + 1 + 1 + 1 + 1 + 1))))[g]? = some (.cells (markA cur k0 (((k + 1) * 6))) T (0, 0))) := by
       show _ = _
       rw [show (k + 1) * 6 = k * 6 + 1 + 1 + 1 + 1 + 1 + 1 by omega]
       exact (mark_step (mark_step (mark_step (mark_step (mark_step (mark_step hrow (by have := HK.out; omega)) (by have := HK.out; omega)) (by have := HK.out; omega)) (by have := HK.out; omega)) (by have := HK.out; omega)) (by have := HK.out; omega))
     have HGR : Hid (w.grownBy (World.setCell (World.setCell (World.setCell (World.setCell (World.setCell (World.setCell wr ⟨g, k * 6, none⟩ (Value.int .i64 K)) ⟨g, k * 6 + 1, none⟩ (Value.int .i64 (K + 1))) ⟨g, k * 6 + 2, none⟩ (Value.int .i64 (K + 1 + 1))) ⟨g, k * 6 + 3, none⟩ (Value.int .i64 (K + 1 + 1 + 1))) ⟨g, k * 6 + 4, none⟩ (Value.int .i64 (K + 1 + 1 + 1 + 1))) ⟨g, k * 6 + 5, none⟩ (Value.int .i64 (K + 1 + 1 + 1 + 1 + 1))) (some g)) := (grown_trans (grown_trans (grown_trans (grown_trans (grown_trans (grown_trans HG.out (grown_set _ _ _ _)) (grown_set _ _ _ _)) (grown_set _ _ _ _)) (grown_set _ _ _ _)) (grown_set _ _ _ _)) (grown_set _ _ _ _))
     have HK1 : Hid (k0 + ((((k + 1) * 6) : Nat) : Int) = K + 6) := by
       show _ = _
       have := HK.out
       omega
     clear hrow
     go_wp2
     go_roundw
     case rel => exact ⟨k + 1, by omega, by go_num, by first | (rw [HK1.out]; go_num) | rw [HK1.out], HGR.out, HROW.out⟩
     case measure => simp [intOf]; omega
   · have hkl : k = n := by omega
     subst hkl
     have HROW : Hid (wr.heap[g]? = _) := hrow
     clear hrow
     go_wp2
     go_ret
     exact ⟨ret_int HK.out.symm, HG.out, HROW.out⟩
set_option maxHeartbeats 400000 in
theorem markOrderS_nil (a : Option Addr) (cap : Nat) (k0 : Int) (w : World) :
   Calls Tryz.prog 48 #[.slice a 0 cap, .int .i64 k0] w fun e w' => e = .returned (.int .i64 k0) /\ w' = w := by
 go_enter Tryz.func48, Tryz.ntmps48
 go_wp2_with fail
 go_loop [1, 5] (fun kk t => t = .int .i64 0 /\ kk = .int .i64 k0) (fun _ _ => 0)
 case atStart => exact ⟨rfl, rfl⟩
 case round =>
   obtain ⟨rfl, rfl⟩ := hrel
   go_wp2
   go_ret
   exact ⟨rfl, rfl⟩
end Go.Proofs.YtcljhgildbcdmaaGreat
namespace Go.Proofs.YtcljhgildbcdmaaGreat
open Go.RowKit
set_option maxHeartbeats 1000000 in
theorem markVehicleS_any (g n cap : Nat) (k0 : Int) (cur : Array Value) (T : TypeId) (w : World) (hrow0 : w.heap[g]? = some (.cells cur T (0, 0))) (hn : n * 5 <= cur.size) (h0 : 0 <= k0) (h1 : k0 <= 1000000000000) (hn1 : n <= 10000000) :
   Calls Tryz.prog 49 #[.slice (some ⟨g, 0, none⟩) n cap, .int .i64 k0] w fun e w' => e = .returned (.int .i64 (k0 + ((n * 5 : Nat) : Int))) /\ w.grownBy w' (some g) /\ w'.heap[g]? = some (.cells (markA cur k0 (n * 5)) T (0, 0)) := by
 have HR0 : Hid (w.heap[g]? = some (.cells cur T (0, 0))) := hrow0
 clear hrow0
 go_enter Tryz.func49, Tryz.ntmps49
 go_wp2_with fail
 go_loopw [1, 5] (fun kk t wr => ∃ k : Nat, k <= n /\ t = .int .i64 k /\ kk = .int .i64 (k0 + ((k * 5 : Nat) : Int)) /\ w.grownBy wr (some g) /\ wr.heap[g]? = some (.cells (markA cur k0 (k * 5)) T (0, 0))) (fun _ t _ => n - (intOf t).toNat)
 case atStart => exact ⟨0, Nat.zero_le _, rfl, by simp, grown_refl _ _, HR0.out⟩
 case round =>
   obtain ⟨k, hk, rfl, rfl, hg, hrow⟩ := hrel
   have HG : Hid (w.grownBy wr (some g)) := hg
   clear hg
   obtain ⟨K, HK⟩ : ∃ t, Hid (k0 + ((k * 5 : Nat) : Int) = t) := ⟨_, rfl⟩
   have hkb : 0 <= K /\ K <= 1000100000000 := by
     have := HK.out
     omega
   rw [HK.out]
   by_cases hlt : k < n
   · have fz := fun i => frozen_of_row _ _ i _ _ hrow
     obtain ⟨z0, y0⟩ := row_some hrow (j := k * 5) (by rw [markA_size]; omega)
     obtain ⟨z1, y1⟩ := row_some hrow (j := k * 5 + 1) (by rw [markA_size]; omega)
     obtain ⟨z2, y2⟩ := row_some hrow (j := k * 5 + 2) (by rw [markA_size]; omega)
     obtain ⟨z3, y3⟩ := row_some hrow (j := k * 5 + 3) (by rw [markA_size]; omega)
     obtain ⟨z4, y4⟩ := row_some hrow (j := k * 5 + 4) (by rw [markA_size]; omega)
     have HROW : Hid ((World.heap (World.setCell (World.setCell (World.setCell (World.setCell (World.setCell wr ⟨g, k * 5, none⟩ (Value.int .i64 K)) ⟨g, k * 5 + 1, none⟩ (Value.int .i64 (K + 1))) ⟨g, k * 5 + 2, none⟩ (Value.int .i64 (K + 1 + 1))) ⟨g, k * 5 + 3, none⟩ (Value.int .i64 (K + 1 + 1 + 1))) ⟨g, k * 5 + 4, none⟩ (Value.int .i64 (K + 1 + 1 + 1 + 1))))[g]? = some (.cells (markA cur k0 (((k + 1) * 5))) T (0, 0))) := by
       show _ = _
       rw [show (k + 1) * 5 = k * 5 + 1 + 1 + 1 + 1 + 1 by omega]
       exact (mark_step (mark_step (mark_step (mark_step (mark_step hrow (by have := HK.out; omega)) (by have := HK.out; omega)) (by have := HK.out; omega)) (by have := HK.out; omega)) (by have := HK.out; omega))
     have HGR : Hid (w.grownBy (World.setCell (World.setCell (World.setCell (World.setCell (World.setCell wr ⟨g, k * 5, none⟩ (Value.int .i64 K)) ⟨g, k * 5 + 1, none⟩ (Value.int .i64 (K + 1))) ⟨g, k * 5 + 2, none⟩ (Value.int .i64 (K + 1 + 1))) ⟨g, k * 5 + 3, none⟩ (Value.int .i64 (K + 1 + 1 + 1))) ⟨g, k * 5 + 4, none⟩ (Value.int .i64 (K + 1 + 1 + 1 + 1))) (some g)) := (grown_trans (grown_trans (grown_trans (grown_trans (grown_trans HG.out (grown_set _ _ _ _)) (grown_set _ _ _ _)) (grown_set _ _ _ _)) (grown_set _ _ _ _)) (grown_set _ _ _ _))
     have HK1 : Hid (k0 + ((((k + 1) * 5) : Nat) : Int) = K + 5) := by
       show _ = _
       have := HK.out
       omega
     clear hrow
     go_wp2
     go_roundw
     case rel => exact ⟨k + 1, by omega, by go_num, by first | (rw [HK1.out]; go_num) | rw [HK1.out], HGR.out, HROW.out⟩
     case measure => simp [intOf]; omega
   · have hkl : k = n := by omega
     subst hkl
     have HROW : Hid (wr.heap[g]? = _) := hrow
     clear hrow
     go_wp2
     go_ret
     exact ⟨ret_int HK.out.symm, HG.out, HROW.out⟩
set_option maxHeartbeats 400000 in
theorem markVehicleS_nil (a : Option Addr) (cap : Nat) (k0 : Int) (w : World) :
   Calls Tryz.prog 49 #[.slice a 0 cap, .int .i64 k0] w fun e w' => e = .returned (.int .i64 k0) /\ w' = w := by
 go_enter Tryz.func49, Tryz.ntmps49
 go_wp2_with fail
 go_loop [1, 5] (fun kk t => t = .int .i64 0 /\ kk = .int .i64 k0) (fun _ _ => 0)
 case atStart => exact ⟨rfl, rfl⟩
 case round =>
   obtain ⟨rfl, rfl⟩ := hrel
   go_wp2
   go_ret
   exact ⟨rfl, rfl⟩
end Go.Proofs.YtcljhgildbcdmaaGreat
namespace Go.Proofs.YtcljhgildbcdmaaGreat
open Go.RowKit
structure GrownBut (S : Nat -> Prop) (w w' : World) : Prop where
 os : w'.os = w.os
 tape : w'.tape = w.tape
 output : w'.output = w.output
 size : w.heap.size <= w'.heap.size
 block : ∀ b, b < w.heap.size -> ¬ S b -> w'.heap[b]? = w.heap[b]?
theorem GrownBut.of_below {S : Nat -> Prop} {w w' : World} (h : Below w.heap.size w w') : GrownBut S w w' := ⟨h.os, h.tape, h.output, h.size, fun b hb _ => h.block b hb⟩
theorem GrownBut.of_grown {S : Nat -> Prop} {w w' : World} {g : Nat} (h : w.grownBy w' (some g)) (hs : S g) : GrownBut S w w' := ⟨h.os, h.tape, h.output, h.size, fun b hb hn => h.block b hb (fun e => by cases e; exact hn hs)⟩
theorem GrownBut.trans {S : Nat -> Prop} {w w1 w2 : World} (h : GrownBut S w w1) (k : GrownBut S w1 w2) : GrownBut S w w2 :=
 ⟨k.os.trans h.os, k.tape.trans h.tape, k.output.trans h.output, Nat.le_trans h.size k.size, fun b hb hn => (k.block b (Nat.lt_of_lt_of_le hb h.size) hn).trans (h.block b hb hn)⟩
theorem GrownBut.mono {S S' : Nat -> Prop} {w w' : World} (h : GrownBut S w w') (hs : ∀ b, S b -> S' b) : GrownBut S' w w' := ⟨h.os, h.tape, h.output, h.size, fun b hb hn => h.block b hb (fun x => hn (hs b x))⟩
theorem GrownBut.below {S : Nat -> Prop} {w w' : World} {B : Nat} (h : GrownBut S w w') (hB : B <= w.heap.size) (hs : ∀ b, S b -> B <= b) : Below B w w' :=
 ⟨h.os, h.tape, h.output, h.size, fun b hb => h.block b (by omega) (fun x => by have := hs b x; omega)⟩
theorem GrownBut.row {S : Nat -> Prop} {w w' : World} {k : Nat} {o : Obj} (h : GrownBut S w w') (hr : w.heap[k]? = some o) (hn : ¬ S k) : w'.heap[k]? = some o := (h.block k (row_lt hr) hn).trans hr
theorem GrownBut.owns {S : Nat -> Prop} {w w' : World} {base size k : Nat} {e : TypeId} {v : Value} {xs : List Value} (h : GrownBut S w w') (ho : w.ownsRow base e size v k xs) (hs : ∀ b, S b -> b < base) : w'.ownsRow base e size v k xs := by
 obtain ⟨h1, h2 | ⟨g, cap, cur, h2, h3, h4, h5⟩⟩ := ho
 · exact ⟨h1, .inl h2⟩
 · exact ⟨h1, .inr ⟨g, cap, cur, h2, h3, h.row h4 (fun x => by have := hs g x; omega), h5⟩⟩
theorem type_ne {w : World} {g k : Nat} {c1 c2 : Array Value} {T1 T2 : TypeId} (h1 : w.heap[g]? = some (.cells c1 T1 (0, 0))) (h2 : w.heap[k]? = some (.cells c2 T2 (0, 0))) (hT : T1 ≠ T2) : g ≠ k := by
 intro e
 rw [e, h2] at h1
 cases h1
 exact hT rfl
set_option maxHeartbeats 400000 in
theorem markMat_any (n k0 : Int) (g cap : Nat) (zs : List Int) (w : World) (hrow : w.heap[g]? = some (.cells (cellsOf zs) 2 (0, 0))) (h0 : 0 <= k0) (h1 : k0 <= 100000000) (hl : zs.length <= 1048576) :
   Calls Tryz.prog 47 #[.agg #[.int .i64 n, .slice (some ⟨g, 0, none⟩) zs.length cap], .int .i64 k0] w fun e w' => e = .returned (.int .i64 (k0 + (zs.length : Int))) /\ GrownBut (fun b => b = g) w w' := by
 have HB0 : Hid (Below w.heap.size w (w.alloc (Obj.cells #[Value.int .i64 n, Value.slice (some ⟨g, 0, none⟩) zs.length cap] 39))) := (Below.refl _ _).alloc (Nat.le_refl _) _
 have HR : Hid (w.heap[g]? = _) := hrow
 clear hrow
 go_enter Tryz.func47, Tryz.ntmps47
 go_wp2_with fail
 refine (markInt64S_any g zs.length cap k0 (cellsOf zs) _ _ (below_row HB0.out (row_lt HR.out) HR.out) (by rw [cellsOf_size]; exact Nat.le_refl _) h0 (by omega) (by omega)).mono ?_
 rintro e w1 ⟨rfl, hg, _⟩
 have HG : Hid (GrownBut (fun b => b = g) w w1) := (GrownBut.of_below HB0.out).trans (GrownBut.of_grown hg rfl)
 clear hg
 go_wp2
 go_ret
 exact ⟨rfl, HG.out⟩
set_option maxHeartbeats 1000000 in
theorem markCase_any (n fine : Int) (g go gv cap ko co kv cv : Nat) (zs os vs : List Int) (w : World) (hC : CaseAt w g go gv zs os vs) (hlo : os.length = ko * 6) (hlv : vs.length = kv * 5) (hz : zs.length <= 1048576) (hko : ko <= 1048576) (hkv : kv <= 1048576) :
   Calls Tryz.prog 16 #[.agg #[.int .i64 n, .slice (some ⟨g, 0, none⟩) zs.length cap, .slice (some ⟨go, 0, none⟩) ko co, .slice (some ⟨gv, 0, none⟩) kv cv, .int .i64 fine], .int .i64 1] w fun e w' => ∃ k', e = .returned (.int .i64 k') /\ 0 <= k' /\ k' <= 50000000 /\ GrownBut (fun b => b = g ∨ b = go ∨ b = gv) w w' := by
 have HB0 : Hid (Below w.heap.size w (w.alloc (Obj.cells #[Value.int .i64 n, Value.slice (some ⟨g, 0, none⟩) zs.length cap, Value.slice (some ⟨go, 0, none⟩) ko co, Value.slice (some ⟨gv, 0, none⟩) kv cv, Value.int .i64 fine] 43))) := (Below.refl _ _).alloc (Nat.le_refl _) _
 have HP0 : Hid ((w.alloc (Obj.cells #[Value.int .i64 n, Value.slice (some ⟨g, 0, none⟩) zs.length cap, Value.slice (some ⟨go, 0, none⟩) ko co, Value.slice (some ⟨gv, 0, none⟩) kv cv, Value.int .i64 fine] 43)).heap[w.heap.size]? = _) := heap_alloc_new _ _
 have HC : Hid (CaseAt (w.alloc (Obj.cells #[Value.int .i64 n, Value.slice (some ⟨g, 0, none⟩) zs.length cap, Value.slice (some ⟨go, 0, none⟩) ko co, Value.slice (some ⟨gv, 0, none⟩) kv cv, Value.int .i64 fine] 43)) g go gv zs os vs) := hC.below HB0.out
 have HLO : Hid (os.length = ko * 6) := hlo
 have HLV : Hid (vs.length = kv * 5) := hlv
 clear hC hlo hlv
 go_enter Tryz.func16, Tryz.ntmps16
 obtain ⟨c0, c1, c2, c3, c4⟩ := cells5 HP0.out
 go_wp2_with fail
 clear c0 c1 c2 c3 c4
 have n1 : Hid (go ≠ g /\ gv ≠ g /\ gv ≠ go) := ⟨type_ne HC.out.2.1 HC.out.1 (by decide), type_ne HC.out.2.2 HC.out.1 (by decide), type_ne HC.out.2.2 HC.out.2.1 (by decide)⟩
 have n2 : Hid (w.heap.size ≠ g /\ w.heap.size ≠ go /\ w.heap.size ≠ gv) := ⟨type_ne HP0.out HC.out.1 (by decide), type_ne HP0.out HC.out.2.1 (by decide), type_ne HP0.out HC.out.2.2 (by decide)⟩
 refine (markMat_any n 1 g cap zs _ HC.out.1 (by omega) (by omega) hz).mono ?_
 rintro e w1 ⟨rfl, hg⟩
 have G1 : Hid (GrownBut (fun b => b = g ∨ b = go ∨ b = gv) w w1) := (GrownBut.of_below HB0.out).trans (hg.mono (fun b e => .inl e))
 have P1 : Hid (w1.heap[w.heap.size]? = _) := hg.row HP0.out n2.out.1
 have R1 : Hid (w1.heap[go]? = _) := hg.row HC.out.2.1 n1.out.1
 have V1 : Hid (w1.heap[gv]? = _) := hg.row HC.out.2.2 n1.out.2.1
 clear hg HB0 HP0 HC
 obtain ⟨c0, c1, c2, c3, c4⟩ := cells5 P1.out
 obtain ⟨k1, HK1⟩ : ∃ t, Hid ((1 : Int) + (zs.length : Int) = t) := ⟨_, rfl⟩
 have hk1 : 0 <= k1 /\ k1 <= 2000000 := by have := HK1.out; omega
 rw [HK1.out]
 go_wp2_with fail
 clear c0 c1 c2 c3 c4
 refine (markOrderS_any go ko co k1 (cellsOf os) _ _ R1.out (by rw [cellsOf_size, HLO.out]; exact Nat.le_refl _) (by omega) (by omega) (by omega)).mono ?_
 rintro e w2 ⟨rfl, hg, _⟩
 have hg2 : GrownBut (fun b => b = go) w1 w2 := GrownBut.of_grown hg rfl
 have G2 : Hid (GrownBut (fun b => b = g ∨ b = go ∨ b = gv) w w2) := G1.out.trans (hg2.mono (fun b e => .inr (.inl e)))
 have P2 : Hid (w2.heap[w.heap.size]? = _) := hg2.row P1.out n2.out.2.1
 have V2 : Hid (w2.heap[gv]? = _) := hg2.row V1.out n1.out.2.2
 clear hg hg2 G1 P1 R1 V1
 obtain ⟨c0, c1, c2, c3, c4⟩ := cells5 P2.out
 obtain ⟨k2, HK2⟩ : ∃ t, Hid (k1 + ((ko * 6 : Nat) : Int) = t) := ⟨_, rfl⟩
 have hk2 : 0 <= k2 /\ k2 <= 10000000 := by have := HK2.out; omega
 rw [HK2.out]
 go_wp2_with fail
 clear c0 c1 c2 c3 c4
 refine (markVehicleS_any gv kv cv k2 (cellsOf vs) _ _ V2.out (by rw [cellsOf_size, HLV.out]; exact Nat.le_refl _) (by omega) (by omega) (by omega)).mono ?_
 rintro e w3 ⟨rfl, hg, _⟩
 have G3 : Hid (GrownBut (fun b => b = g ∨ b = go ∨ b = gv) w w3) := G2.out.trans (GrownBut.of_grown hg (.inr (.inr rfl)))
 clear hg
 obtain ⟨k3, HK3⟩ : ∃ t, Hid (k2 + ((kv * 5 : Nat) : Int) = t) := ⟨_, rfl⟩
 have hk3 : 0 <= k3 /\ k3 <= 50000000 := by have := HK3.out; omega
 rw [HK3.out]
 go_wp2
 go_ret
 exact ⟨k3, rfl, hk3.1, hk3.2, G3.out⟩
end Go.Proofs.YtcljhgildbcdmaaGreat
namespace Go.Proofs.YtcljhgildbcdmaaGreat
open Go.RowKit
set_option maxHeartbeats 1000000 in
theorem heldInt64S_any (g n cap : Nat) (k0 : Int) (w : World) (hc : ∀ j, j < n -> w.cell? ⟨g, j, none⟩ = some (.int .i64 (k0 + (j : Nat)))) (h0 : 0 <= k0) (h1 : k0 <= 1000000000000) (hn1 : n <= 10000000) :
   Calls Tryz.prog 53 #[.slice (some ⟨g, 0, none⟩) n cap, .int .i64 k0] w fun e w' => e = .returned (.int .i64 (k0 + ((n : Nat) : Int))) /\ w' = w := by
 have HC : Hid (∀ j, j < n -> w.cell? ⟨g, j, none⟩ = some (.int .i64 (k0 + (j : Nat)))) := hc
 clear hc
 go_enter Tryz.func53, Tryz.ntmps53
 go_wp2_with fail
 go_loop [1, 5] (fun kk t => ∃ k : Nat, k <= n /\ t = .int .i64 k /\ kk = .int .i64 (k0 + ((k : Nat) : Int))) (fun _ t => n - (intOf t).toNat)
 case atStart => exact ⟨0, Nat.zero_le _, rfl, by simp⟩
 case round =>
   obtain ⟨k, hk, rfl, rfl⟩ := hrel
   obtain ⟨K, HK⟩ : ∃ t, Hid (k0 + ((k : Nat) : Int) = t) := ⟨_, rfl⟩
   have hkb : 0 <= K /\ K <= 1000100000000 := by
     have := HK.out
     omega
   rw [HK.out]
   by_cases hlt : k < n
   · have HK1 : Hid (k0 + (((k + 1) : Nat) : Int) = K + 1) := by
       show _ = _
       have := HK.out
       omega
     have y0 := HC.out (k) (by omega)
     rw [show k0 + (((k : Nat)) : Int) = K by have := HK.out; omega] at y0
     go_wp2
     go_round
     case rel => exact ⟨k + 1, by omega, by go_num, by first | (rw [HK1.out]; go_num) | rw [HK1.out]⟩
     case measure => simp [intOf]; omega
   · have hkl : k = n := by omega
     subst hkl
     go_wp2
     go_ret
     exact ⟨ret_int HK.out.symm, rfl⟩
set_option maxHeartbeats 400000 in
theorem heldInt64S_nil (a : Option Addr) (cap : Nat) (k0 : Int) (w : World) :
   Calls Tryz.prog 53 #[.slice a 0 cap, .int .i64 k0] w fun e w' => e = .returned (.int .i64 k0) /\ w' = w := by
 go_enter Tryz.func53, Tryz.ntmps53
 go_wp2_with fail
 go_loop [1, 5] (fun kk t => t = .int .i64 0 /\ kk = .int .i64 k0) (fun _ _ => 0)
 case atStart => exact ⟨rfl, rfl⟩
 case round =>
   obtain ⟨rfl, rfl⟩ := hrel
   go_wp2
   go_ret
   exact ⟨rfl, rfl⟩
end Go.Proofs.YtcljhgildbcdmaaGreat