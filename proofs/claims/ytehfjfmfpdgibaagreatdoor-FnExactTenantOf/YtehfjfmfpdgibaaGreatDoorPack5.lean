import Derived.Test.YtehfjfmfpdgibaaGreatDoorPack0
import Derived.Test.YtehfjfmfpdgibaaGreatDoorPack1
import Derived.WalkKit
import Derived.Deep.RegionLaw
namespace Go.Proofs.YtehfjfmfpdgibaaGreatDoor
open Go.RowKit
theorem grown_row {w w' : World} {row : Option Nat} {k : Nat} {o : Obj} (hg : w.grownBy w' row) (h : w.heap[k]? = some o) (hne : some k ≠ row) : w'.heap[k]? = some o := (hg.block k (row_lt h) hne).trans h
theorem owns_ints {w : World} {base size g n cap : Nat} {e : TypeId} {zs : List Int} (h : w.ownsRow base e size (.slice (some ⟨g, 0, none⟩) n cap) n (zs.map (Value.int .i64))) : IntsAt w (some ⟨g, 0, none⟩) zs := by
 intro j hj
 refine ⟨g, 0, rfl, ?_⟩
 have := h.cells (g := g) rfl j (.int .i64 (zs.getD j 0)) (by simp [List.getD, hj])
 have hadd : (⟨g, 0, none⟩ : Addr).add j = ⟨g, 0 + j, none⟩ := by unfold Addr.add; split <;> simp_all
 rw [hadd] at this
 exact this
theorem owns_below {w w' : World} {base size n : Nat} {e : TypeId} {v : Value} {xs : List Value} (h : w.ownsRow base e size v n xs) (hb : Below w.heap.size w w') : w'.ownsRow base e size v n xs := by
 obtain ⟨h1, h2 | ⟨g, cap, cur, h2, h3, h4, h5⟩⟩ := h
 · exact ⟨h1, .inl h2⟩
 · exact ⟨h1, .inr ⟨g, cap, cur, h2, h3, below_row hb (row_lt h4) h4, h5⟩⟩
theorem own_shape {w : World} {base k : Nat} {v : Value} {e : TypeId} {size : Nat} {xs : List Value} (h : w.ownsRow base e size v k xs) : v = .slice none 0 0 ∨ ∃ g c, v = .slice (some ⟨g, 0, none⟩) k c := by
 obtain ⟨_, ⟨h1, _⟩ | ⟨g, cap, cur, h2, _⟩⟩ := h
 · exact .inl h1
 · exact .inr ⟨g, cap, h2⟩
theorem owns_base {w : World} {base b0 k : Nat} {v : Value} {e : TypeId} {size : Nat} {xs : List Value} (h : w.ownsRow base e size v k xs) (hb : b0 <= base) : w.ownsRow b0 e size v k xs := by
 obtain ⟨h0, h1 | ⟨g, cap, cur, h2, h3, h4⟩⟩ := h
 · exact ⟨h0, .inl h1⟩
 · exact ⟨h0, .inr ⟨g, cap, cur, h2, Nat.le_trans hb h3, h4⟩⟩
theorem owns_set {w : World} {base k b i : Nat} {v u : Value} {e : TypeId} {size : Nat} {xs : List Value} (h : w.ownsRow base e size v k xs) (hb : b < base) : (w.setCell ⟨b, i, none⟩ u).ownsRow base e size v k xs := ownsRow_setCell_below h hb u
theorem owns_at1 {w : World} {base n : Nat} {e : TypeId} {sl : Value} {xs : List Int} (h : w.ownsRow base e 1 sl n (xs.map (Value.int .i64))) : ∃ a c, sl = .slice a xs.length c /\ xs.length = n /\ IntsAt w a xs := by
 obtain ⟨h1, ⟨rfl, h2⟩ | ⟨g, cap, cur, rfl, h3, h4, h5⟩⟩ := id h
 · subst h2
   have : xs = [] := by simpa using h1
   subst this
   exact ⟨none, 0, rfl, rfl, fun j hj => by simp at hj⟩
 · have hl : xs.length = n := by simpa using h1
   exact ⟨_, _, by rw [hl], hl, owns_ints h⟩
theorem cell_new1 (W : World) (v : Value) (T : TypeId) (g : Nat) (hg : W.heap.size = g) : (W.alloc (.cells #[v] T)).cell? ⟨g, 0, none⟩ = some v := by
 subst hg
 rw [cell_of_row _ _ 0 _ _ _ (heap_alloc_new W (.cells #[v] T))]
 simp
theorem one_cell {w : World} {ad : Addr} {x0 : Value} (hc : w.cell? ad = some x0) : ∀ j u, [x0][j]? = some u -> w.cell? (ad.add j) = some u := by
 intro j u hu
 have hj : j = 0 := by
  rcases j with _ | j
  · rfl
  · simp at hu
 subst hj
 have : ad.add 0 = ad := by unfold Addr.add; split <;> simp_all
 rw [this, hc]
 simpa using hu
structure GrownBut (S : Nat -> Prop) (w w' : World) : Prop where
 os : w'.os = w.os
 tape : w'.tape = w.tape
 output : w'.output = w.output
 size : w.heap.size <= w'.heap.size
 block : ∀ b, b < w.heap.size -> ¬ S b -> w'.heap[b]? = w.heap[b]?
theorem GrownBut.of_below {S : Nat -> Prop} {w w' : World} (h : Below w.heap.size w w') : GrownBut S w w' := ⟨h.os, h.tape, h.output, h.size, fun b hb _ => h.block b hb⟩
theorem GrownBut.of_grown {S : Nat -> Prop} {w w' : World} {g : Nat} (h : w.grownBy w' (some g)) (hs : S g) : GrownBut S w w' := ⟨h.os, h.tape, h.output, h.size, fun b hb hn => h.block b hb (fun e => by cases e; exact hn hs)⟩
theorem GrownBut.trans {S : Nat -> Prop} {w w1 w2 : World} (h : GrownBut S w w1) (k : GrownBut S w1 w2) : GrownBut S w w2 :=
 ⟨k.os.trans h.os, k.tape.trans h.tape, k.output.trans h.output, Nat.le_trans h.size k.size, fun b hb hn => (k.block b (Nat.lt_of_lt_of_le hb h.size) hn).trans (h.block b hb hn)⟩
theorem GrownBut.mono {S S' : Nat -> Prop} {w w' : World} (h : GrownBut S w w') (hs : ∀ b, S b -> S' b) : GrownBut S' w w' := ⟨h.os, h.tape, h.output, h.size, fun b hb hn => h.block b hb (fun x => hn (hs b x))⟩
theorem GrownBut.below {S : Nat -> Prop} {w w' : World} {B : Nat} (h : GrownBut S w w') (hB : B <= w.heap.size) (hs : ∀ b, S b -> B <= b) : Below B w w' :=
 ⟨h.os, h.tape, h.output, h.size, fun b hb => h.block b (by omega) (fun x => by have := hs b x; omega)⟩
theorem GrownBut.row {S : Nat -> Prop} {w w' : World} {k : Nat} {o : Obj} (h : GrownBut S w w') (hr : w.heap[k]? = some o) (hn : ¬ S k) : w'.heap[k]? = some o := (h.block k (row_lt hr) hn).trans hr
def markA (cur : Array Value) (k0 : Int) : Nat -> Array Value
 | 0 => cur
 | m + 1 => (markA cur k0 m).setIfInBounds m (.int .i64 (k0 + (m : Nat)))
theorem markA_size (cur : Array Value) (k0 : Int) : ∀ m, (markA cur k0 m).size = cur.size
 | 0 => rfl
 | m + 1 => by simp [markA, markA_size cur k0 m]
theorem markA_get (cur : Array Value) (k0 : Int) : ∀ m, m <= cur.size -> ∀ j, j < m -> (markA cur k0 m)[j]? = some (.int .i64 (k0 + (j : Nat)))
 | 0, _, j, hj => by omega
 | m + 1, hm, j, hj => by
   unfold markA
   by_cases e : j = m
   · subst e
     rw [Array.getElem?_setIfInBounds_self_of_lt (by rw [markA_size]; omega)]
   · rw [Array.getElem?_setIfInBounds_ne (by omega)]
     exact markA_get cur k0 m (by omega) j (by omega)
theorem row_some {w : World} {g : Nat} {cur : Array Value} {T : TypeId} (h : w.heap[g]? = some (.cells cur T (0, 0))) {j : Nat} (hj : j < cur.size) : ∃ v, w.cell? ⟨g, j, none⟩ = some v := by
 rw [cell_of_row _ _ j _ _ _ h]
 exact ⟨cur[j], by simp [hj]⟩
theorem mark_step {w : World} {g m : Nat} {cur : Array Value} {T : TypeId} {k0 v : Int} (h : w.heap[g]? = some (.cells (markA cur k0 m) T (0, 0))) (hv : v = k0 + (m : Nat)) : (w.setCell ⟨g, m, none⟩ (.int .i64 v)).heap[g]? = some (.cells (markA cur k0 (m + 1)) T (0, 0)) := by
 rw [heap_setCell_same _ _ _ _ _ _ h, hv]
 rfl
set_option maxHeartbeats 1000000 in
theorem markInt64S_any (g n cap : Nat) (k0 : Int) (cur : Array Value) (T : TypeId) (w : World) (hrow0 : w.heap[g]? = some (.cells cur T (0, 0))) (hn : n <= cur.size) (h0 : 0 <= k0) (h1 : k0 <= 1000000000000) (hn1 : n <= 10000000) :
 Calls Tryz.prog 54 #[.slice (some ⟨g, 0, none⟩) n cap, .int .i64 k0] w fun e w' => e = .returned (.int .i64 (k0 + ((n : Nat) : Int))) /\ w.grownBy w' (some g) /\ w'.heap[g]? = some (.cells (markA cur k0 (n)) T (0, 0)) := by
 have HR0 : Hid (w.heap[g]? = some (.cells cur T (0, 0))) := hrow0
 clear hrow0
 go_enter Tryz.func54, Tryz.ntmps54
 go_wp2_with fail
 go_loopw [1, 5] (fun kk t wr => ∃ k : Nat, k <= n /\ t = .int .i64 k /\ kk = .int .i64 (k0 + ((k : Nat) : Int)) /\ w.grownBy wr (some g) /\ wr.heap[g]? = some (.cells (markA cur k0 (k)) T (0, 0))) (fun _ t _ => n - (intOf t).toNat)
 case atStart => exact ⟨0, Nat.zero_le _, rfl, by simp, grown_refl _ _, HR0.out⟩
 case round =>
  obtain ⟨k, hk, rfl, rfl, hg, hrow⟩ := hrel
  have HG : Hid (w.grownBy wr (some g)) := hg
  clear hg
  obtain ⟨K, HK⟩ := nmd (k0 + ((k : Nat) : Int))
  have hkb : 0 <= K /\ K <= 1000100000000 := by
   have := HK.out
   omega
  rw [HK.out]
  by_cases hlt : k < n
  · have fz := fun i => frozen_of_row _ _ i _ _ hrow
    obtain ⟨z0, y0⟩ := row_some hrow (j := k) (by rw [markA_size]; omega)
    have HROW : Hid ((World.heap (World.setCell wr ⟨g, k, none⟩ (Value.int .i64 K)))[g]? = some (.cells (markA cur k0 ((k + 1))) T (0, 0))) := by
     show _ = _
     exact (mark_step hrow (by have := HK.out; omega))
    have HGR : Hid (w.grownBy (World.setCell wr ⟨g, k, none⟩ (Value.int .i64 K)) (some g)) := (grown_trans HG.out (grown_set _ _ _ _))
    have HK1 : Hid (k0 + (((k + 1) : Nat) : Int) = K + 1) := by
     show _ = _
     have := HK.out
     omega
    clear hrow
    go_wp2
    go_roundw
    case rel => exact ⟨k + 1, by omega, by go_num, by first | (rw [HK1.out]; go_num) | rw [HK1.out], HGR.out, HROW.out⟩
    case measure => simp [intOf]; omega
  · have hkl : k = n := by omega
    subst hkl
    have HROW : Hid (wr.heap[g]? = _) := hrow
    clear hrow
    go_wp2
    go_ret
    exact ⟨ret_int HK.out.symm, HG.out, HROW.out⟩
set_option maxHeartbeats 400000 in
theorem markInt64S_nil (a : Option Addr) (cap : Nat) (k0 : Int) (w : World) :
 Calls Tryz.prog 54 #[.slice a 0 cap, .int .i64 k0] w fun e w' => e = .returned (.int .i64 k0) /\ w' = w := by
 go_enter Tryz.func54, Tryz.ntmps54
 go_wp2_with fail
 go_loop [1, 5] (fun kk t => t = .int .i64 0 /\ kk = .int .i64 k0) (fun _ _ => 0)
 case atStart => exact ⟨rfl, rfl⟩
 case round =>
  obtain ⟨rfl, rfl⟩ := hrel
  go_wp2
  go_ret
  exact ⟨rfl, rfl⟩
set_option maxHeartbeats 1000000 in
theorem markOrderS_any (g n cap : Nat) (k0 : Int) (cur : Array Value) (T : TypeId) (w : World) (hrow0 : w.heap[g]? = some (.cells cur T (0, 0))) (hn : n * 6 <= cur.size) (h0 : 0 <= k0) (h1 : k0 <= 1000000000000) (hn1 : n <= 10000000) :
 Calls Tryz.prog 94 #[.slice (some ⟨g, 0, none⟩) n cap, .int .i64 k0] w fun e w' => e = .returned (.int .i64 (k0 + ((n * 6 : Nat) : Int))) /\ w.grownBy w' (some g) /\ w'.heap[g]? = some (.cells (markA cur k0 (n * 6)) T (0, 0)) := by
 have HR0 : Hid (w.heap[g]? = some (.cells cur T (0, 0))) := hrow0
 clear hrow0
 go_enter Tryz.func94, Tryz.ntmps94
 go_wp2_with fail
 go_loopw [1, 5] (fun kk t wr => ∃ k : Nat, k <= n /\ t = .int .i64 k /\ kk = .int .i64 (k0 + ((k * 6 : Nat) : Int)) /\ w.grownBy wr (some g) /\ wr.heap[g]? = some (.cells (markA cur k0 (k * 6)) T (0, 0))) (fun _ t _ => n - (intOf t).toNat)
 case atStart => exact ⟨0, Nat.zero_le _, rfl, by simp, grown_refl _ _, HR0.out⟩
 case round =>
  obtain ⟨k, hk, rfl, rfl, hg, hrow⟩ := hrel
  have HG : Hid (w.grownBy wr (some g)) := hg
  clear hg
  obtain ⟨K, HK⟩ := nmd (k0 + ((k * 6 : Nat) : Int))
  have hkb : 0 <= K /\ K <= 1000100000000 := by
   have := HK.out
   omega
  rw [HK.out]
  by_cases hlt : k < n
  · have fz := fun i => frozen_of_row _ _ i _ _ hrow
    obtain ⟨z0, y0⟩ := row_some hrow (j := k * 6) (by rw [markA_size]; omega)
    obtain ⟨z1, y1⟩ := row_some hrow (j := k * 6 + 1) (by rw [markA_size]; omega)
    obtain ⟨z2, y2⟩ := row_some hrow (j := k * 6 + 2) (by rw [markA_size]; omega)
    obtain ⟨z3, y3⟩ := row_some hrow (j := k * 6 + 3) (by rw [markA_size]; omega)
    obtain ⟨z4, y4⟩ := row_some hrow (j := k * 6 + 4) (by rw [markA_size]; omega)
    obtain ⟨z5, y5⟩ := row_some hrow (j := k * 6 + 5) (by rw [markA_size]; omega)
    have HROW : Hid ((World.heap (World.setCell (World.setCell (World.setCell (World.setCell (World.setCell (World.setCell wr ⟨g, k * 6, none⟩ (Value.int .i64 K)) ⟨g, k * 6 + 1, none⟩ (Value.int .i64 (K + 1))) ⟨g, k * 6 + 2, none⟩ (Value.int .i64 (K + 1 + 1))) ⟨g, k * 6 + 3, none⟩ (Value.int .i64 (K + 1 + 1 + 1))) ⟨g, k * 6 + 4, none⟩ (Value.int .i64 (K + 1 + 1 + 1 + 1))) ⟨g, k * 6 + 5, none⟩ (Value.int .i64 (K + 1 + 1 + 1 + 1 + 1))))[g]? = some (.cells (markA cur k0 (((k + 1) * 6))) T (0, 0))) := by
     show _ = _
     rw [show (k + 1) * 6 = k * 6 + 1 + 1 + 1 + 1 + 1 + 1 by omega]
     exact (mark_step (mark_step (mark_step (mark_step (mark_step (mark_step hrow (by have := HK.out; omega)) (by have := HK.out; omega)) (by have := HK.out; omega)) (by have := HK.out; omega)) (by have := HK.out; omega)) (by have := HK.out; omega))
    have HGR : Hid (w.grownBy (World.setCell (World.setCell (World.setCell (World.setCell (World.setCell (World.setCell wr ⟨g, k * 6, none⟩ (Value.int .i64 K)) ⟨g, k * 6 + 1, none⟩ (Value.int .i64 (K + 1))) ⟨g, k * 6 + 2, none⟩ (Value.int .i64 (K + 1 + 1))) ⟨g, k * 6 + 3, none⟩ (Value.int .i64 (K + 1 + 1 + 1))) ⟨g, k * 6 + 4, none⟩ (Value.int .i64 (K + 1 + 1 + 1 + 1))) ⟨g, k * 6 + 5, none⟩ (Value.int .i64 (K + 1 + 1 + 1 + 1 + 1))) (some g)) := (grown_trans (grown_trans (grown_trans (grown_trans (grown_trans (grown_trans HG.out (grown_set _ _ _ _)) (grown_set _ _ _ _)) (grown_set _ _ _ _)) (grown_set _ _ _ _)) (grown_set _ _ _ _)) (grown_set _ _ _ _))
    have HK1 : Hid (k0 + ((((k + 1) * 6) : Nat) : Int) = K + 6) := by
     show _ = _
     have := HK.out
     omega
    clear hrow
    go_wp2
    go_roundw
    case rel => exact ⟨k + 1, by omega, by go_num, by first | (rw [HK1.out]; go_num) | rw [HK1.out], HGR.out, HROW.out⟩
    case measure => simp [intOf]; omega
  · have hkl : k = n := by omega
    subst hkl
    have HROW : Hid (wr.heap[g]? = _) := hrow
    clear hrow
    go_wp2
    go_ret
    exact ⟨ret_int HK.out.symm, HG.out, HROW.out⟩
set_option maxHeartbeats 400000 in
theorem markOrderS_nil (a : Option Addr) (cap : Nat) (k0 : Int) (w : World) :
 Calls Tryz.prog 94 #[.slice a 0 cap, .int .i64 k0] w fun e w' => e = .returned (.int .i64 k0) /\ w' = w := by
 go_enter Tryz.func94, Tryz.ntmps94
 go_wp2_with fail
 go_loop [1, 5] (fun kk t => t = .int .i64 0 /\ kk = .int .i64 k0) (fun _ _ => 0)
 case atStart => exact ⟨rfl, rfl⟩
 case round =>
  obtain ⟨rfl, rfl⟩ := hrel
  go_wp2
  go_ret
  exact ⟨rfl, rfl⟩
set_option maxHeartbeats 1000000 in
theorem markVehicleS_any (g n cap : Nat) (k0 : Int) (cur : Array Value) (T : TypeId) (w : World) (hrow0 : w.heap[g]? = some (.cells cur T (0, 0))) (hn : n * 5 <= cur.size) (h0 : 0 <= k0) (h1 : k0 <= 1000000000000) (hn1 : n <= 10000000) :
 Calls Tryz.prog 95 #[.slice (some ⟨g, 0, none⟩) n cap, .int .i64 k0] w fun e w' => e = .returned (.int .i64 (k0 + ((n * 5 : Nat) : Int))) /\ w.grownBy w' (some g) /\ w'.heap[g]? = some (.cells (markA cur k0 (n * 5)) T (0, 0)) := by
 have HR0 : Hid (w.heap[g]? = some (.cells cur T (0, 0))) := hrow0
 clear hrow0
 go_enter Tryz.func95, Tryz.ntmps95
 go_wp2_with fail
 go_loopw [1, 5] (fun kk t wr => ∃ k : Nat, k <= n /\ t = .int .i64 k /\ kk = .int .i64 (k0 + ((k * 5 : Nat) : Int)) /\ w.grownBy wr (some g) /\ wr.heap[g]? = some (.cells (markA cur k0 (k * 5)) T (0, 0))) (fun _ t _ => n - (intOf t).toNat)
 case atStart => exact ⟨0, Nat.zero_le _, rfl, by simp, grown_refl _ _, HR0.out⟩
 case round =>
  obtain ⟨k, hk, rfl, rfl, hg, hrow⟩ := hrel
  have HG : Hid (w.grownBy wr (some g)) := hg
  clear hg
  obtain ⟨K, HK⟩ := nmd (k0 + ((k * 5 : Nat) : Int))
  have hkb : 0 <= K /\ K <= 1000100000000 := by
   have := HK.out
   omega
  rw [HK.out]
  by_cases hlt : k < n
  · have fz := fun i => frozen_of_row _ _ i _ _ hrow
    obtain ⟨z0, y0⟩ := row_some hrow (j := k * 5) (by rw [markA_size]; omega)
    obtain ⟨z1, y1⟩ := row_some hrow (j := k * 5 + 1) (by rw [markA_size]; omega)
    obtain ⟨z2, y2⟩ := row_some hrow (j := k * 5 + 2) (by rw [markA_size]; omega)
    obtain ⟨z3, y3⟩ := row_some hrow (j := k * 5 + 3) (by rw [markA_size]; omega)
    obtain ⟨z4, y4⟩ := row_some hrow (j := k * 5 + 4) (by rw [markA_size]; omega)
    have HROW : Hid ((World.heap (World.setCell (World.setCell (World.setCell (World.setCell (World.setCell wr ⟨g, k * 5, none⟩ (Value.int .i64 K)) ⟨g, k * 5 + 1, none⟩ (Value.int .i64 (K + 1))) ⟨g, k * 5 + 2, none⟩ (Value.int .i64 (K + 1 + 1))) ⟨g, k * 5 + 3, none⟩ (Value.int .i64 (K + 1 + 1 + 1))) ⟨g, k * 5 + 4, none⟩ (Value.int .i64 (K + 1 + 1 + 1 + 1))))[g]? = some (.cells (markA cur k0 (((k + 1) * 5))) T (0, 0))) := by
     show _ = _
     rw [show (k + 1) * 5 = k * 5 + 1 + 1 + 1 + 1 + 1 by omega]
     exact (mark_step (mark_step (mark_step (mark_step (mark_step hrow (by have := HK.out; omega)) (by have := HK.out; omega)) (by have := HK.out; omega)) (by have := HK.out; omega)) (by have := HK.out; omega))
    have HGR : Hid (w.grownBy (World.setCell (World.setCell (World.setCell (World.setCell (World.setCell wr ⟨g, k * 5, none⟩ (Value.int .i64 K)) ⟨g, k * 5 + 1, none⟩ (Value.int .i64 (K + 1))) ⟨g, k * 5 + 2, none⟩ (Value.int .i64 (K + 1 + 1))) ⟨g, k * 5 + 3, none⟩ (Value.int .i64 (K + 1 + 1 + 1))) ⟨g, k * 5 + 4, none⟩ (Value.int .i64 (K + 1 + 1 + 1 + 1))) (some g)) := (grown_trans (grown_trans (grown_trans (grown_trans (grown_trans HG.out (grown_set _ _ _ _)) (grown_set _ _ _ _)) (grown_set _ _ _ _)) (grown_set _ _ _ _)) (grown_set _ _ _ _))
    have HK1 : Hid (k0 + ((((k + 1) * 5) : Nat) : Int) = K + 5) := by
     show _ = _
     have := HK.out
     omega
    clear hrow
    go_wp2
    go_roundw
    case rel => exact ⟨k + 1, by omega, by go_num, by first | (rw [HK1.out]; go_num) | rw [HK1.out], HGR.out, HROW.out⟩
    case measure => simp [intOf]; omega
  · have hkl : k = n := by omega
    subst hkl
    have HROW : Hid (wr.heap[g]? = _) := hrow
    clear hrow
    go_wp2
    go_ret
    exact ⟨ret_int HK.out.symm, HG.out, HROW.out⟩
set_option maxHeartbeats 400000 in
theorem markVehicleS_nil (a : Option Addr) (cap : Nat) (k0 : Int) (w : World) :
 Calls Tryz.prog 95 #[.slice a 0 cap, .int .i64 k0] w fun e w' => e = .returned (.int .i64 k0) /\ w' = w := by
 go_enter Tryz.func95, Tryz.ntmps95
 go_wp2_with fail
 go_loop [1, 5] (fun kk t => t = .int .i64 0 /\ kk = .int .i64 k0) (fun _ _ => 0)
 case atStart => exact ⟨rfl, rfl⟩
 case round =>
  obtain ⟨rfl, rfl⟩ := hrel
  go_wp2
  go_ret
  exact ⟨rfl, rfl⟩
theorem infoOrd6 : (Tryz.prog.info? 146).map (fun i => (i.zero, i.size, i.bytes)) = some (some (.agg #[Value.int .i64 0, Value.int .i64 0, Value.int .i64 0, Value.int .i64 0, Value.int .i64 0, Value.int .i64 0]), 6, 48) := by kernel_rfl
theorem make_orders (w : World) {ops : Array Oper} {rest : List Oper} {o : Oper} {a : Act} {Q : Exit -> Act -> World -> Prop}
 (hg : o.guard = none) (l c : Operand) (hop : o.op = Op.makeSlice 75 l c) (base : Nat)
 (kl kc : IntKind) (C : Int) (n : Nat) (hl : a.eval l = .int kl 0) (hc : a.eval c = .int kc C) (hC : C = (n : Int)) (b2 : n <= 1048576) (b4 : base <= w.heap.size)
 (hK : ∀ w', w'.ownsRow base 146 6 (.slice (some ⟨w.heap.size, 0, none⟩) 0 n) 0 [] -> w.grownBy w' none -> wpList Tryz.prog ops Q rest (a.put o.dst (.slice (some ⟨w.heap.size, 0, none⟩) 0 n)) w') :
 wpList Tryz.prog ops Q (o :: rest) a w := by
 obtain ⟨i0, hi, hz0, hz1, hz2⟩ := info_parts infoOrd6
 exact wpList_make_own w hg l c _ hop base _ i0 _ 6 Tryz.underlying75 hi hz0 hz1 kl kc C n hl hc hC (by rw [hz2]; omega) (by unfold maxLen; omega) b4 hK
theorem append_orders (w : World) {ops : Array Oper} {rest : List Oper} {o : Oper} {a : Act} {Q : Exit -> Act -> World -> Prop}
 (hg : o.guard = none) (s x : Operand) (hop : o.op = Op.call { callee := Callee.builtin Builtin.append, args := #[s, x], argTypes := #[75, 75] })
 (base : Nat) (g k cap : Nat) (xs : List Value) (hs : a.eval s = .slice (some ⟨g, 0, none⟩) k cap) (hown : w.ownsRow base 146 6 (.slice (some ⟨g, 0, none⟩) k cap) k xs) (ad : Addr) (m c : Nat) (news : List Value) (hx : a.eval x = .slice (some ad) m c) (hn : news.length = m * 6)
 (hc : ∀ j u, news[j]? = some u -> w.cell? (ad.add j) = some u) (h1c : ∀ u ∈ news, u.oneCell' = true) (b1 : k + m <= cap)
 (hK : ∀ w', w'.ownsRow base 146 6 (.slice (some ⟨g, 0, none⟩) (k + m) cap) (k + m) (xs ++ news) -> w.grownBy w' (some g) -> wpList Tryz.prog ops Q rest (a.put o.dst (.slice (some ⟨g, 0, none⟩) (k + m) cap)) w') :
 wpList Tryz.prog ops Q (o :: rest) a w := by
 obtain ⟨i0, hi, hz0, hz1, hz2⟩ := info_parts infoOrd6
 exact wpList_append_fits w hg s x _ hop base _ i0 6 Tryz.underlying75 hi hz1 g k cap xs hs hown ad m c news hx hn hc h1c b1 hK
theorem ros_step (os : List Int) (ko : Nat) (ids : List Int) {k : Nat} {id : Int} (hk : k < ids.length) (hid : ids.getD k 0 = id) {o0 o1 o2 o3 o4 o5 : Int} (h0 : fnd6F os ko id 0 = o0) (h1 : fnd6F os ko id 1 = o1) (h2 : fnd6F os ko id 2 = o2) (h3 : fnd6F os ko id 3 = o3) (h4 : fnd6F os ko id 4 = o4) (h5 : fnd6F os ko id 5 = o5) :
 (((rosOf os ko ids).take (k * 6)).map (Value.int .i64)) ++ [Value.int .i64 o0, Value.int .i64 o1, Value.int .i64 o2, Value.int .i64 o3, Value.int .i64 o4, Value.int .i64 o5] = ((rosOf os ko ids).take ((k + 1) * 6)).map (Value.int .i64) := by
 have hl := rosOf_length os ko ids
 have e : (k + 1) * 6 = k * 6 + 1 + 1 + 1 + 1 + 1 + 1 := by omega
 have g : ∀ f, f < 6 -> (rosOf os ko ids).getD (k * 6 + f) 0 = fnd6F os ko id f := fun f hf => hid ▸ rosOf_at os ko ids hk hf
 rw [e, take_snoc _ _ (by omega), take_snoc _ _ (by omega), take_snoc _ _ (by omega), take_snoc _ _ (by omega), take_snoc _ _ (by omega), take_snoc _ _ (by omega)]
 have g0 := g 0 (by omega)
 have g1 := g 1 (by omega)
 have g2 := g 2 (by omega)
 have g3 := g 3 (by omega)
 have g4 := g 4 (by omega)
 have g5 := g 5 (by omega)
 simp only [Nat.add_zero] at g0
 simp only [g0, g1, g2, g3, g4, g5, h0, h1, h2, h3, h4, h5]
 simp
theorem cells6_new (W : World) (o0 o1 o2 o3 o4 o5 : Value) (T : TypeId) (g : Nat) (hg : W.heap.size = g) : ∀ j u, [o0, o1, o2, o3, o4, o5][j]? = some u -> (W.alloc (.cells #[o0, o1, o2, o3, o4, o5] T)).cell? ((⟨g, 0, none⟩ : Addr).add j) = some u := by
 intro j u hu
 subst hg
 have hadd : (⟨W.heap.size, 0, none⟩ : Addr).add j = ⟨W.heap.size, j, none⟩ := by unfold Addr.add; split <;> simp_all
 rw [hadd, cell_of_row _ _ j _ _ _ (heap_alloc_new W (.cells #[o0, o1, o2, o3, o4, o5] T))]
 simpa using hu
theorem ints_set {W : World} {g o k i : Nat} {zs : List Int} {v : Value} (h : IntsAt W (some ⟨g, o, none⟩) zs) (hne : g ≠ k) : IntsAt (W.setCell ⟨k, i, none⟩ v) (some ⟨g, o, none⟩) zs := by
 intro j hj
 exact ⟨g, o, rfl, keep_set (ints_cell h hj rfl) hne⟩
theorem cells8 {w : World} {k : Nat} {c0 c1 c2 c3 c4 c5 c6 c7 : Value} {T : TypeId} (r : w.heap[k]? = some (.cells #[c0, c1, c2, c3, c4, c5, c6, c7] T (0, 0))) :
 w.cell? ⟨k, 0, none⟩ = some c0 /\ w.cell? ⟨k, 1, none⟩ = some c1 /\ w.cell? ⟨k, 2, none⟩ = some c2 /\ w.cell? ⟨k, 3, none⟩ = some c3 /\ w.cell? ⟨k, 4, none⟩ = some c4 /\ w.cell? ⟨k, 5, none⟩ = some c5 /\ w.cell? ⟨k, 6, none⟩ = some c6 /\ w.cell? ⟨k, 7, none⟩ = some c7 := by
 refine ⟨?_, ?_, ?_, ?_, ?_, ?_, ?_, ?_⟩
 · rw [cell_of_row _ _ 0 _ _ _ r]; simp
 · rw [cell_of_row _ _ 1 _ _ _ r]; simp
 · rw [cell_of_row _ _ 2 _ _ _ r]; simp
 · rw [cell_of_row _ _ 3 _ _ _ r]; simp
 · rw [cell_of_row _ _ 4 _ _ _ r]; simp
 · rw [cell_of_row _ _ 5 _ _ _ r]; simp
 · rw [cell_of_row _ _ 6 _ _ _ r]; simp
 · rw [cell_of_row _ _ 7 _ _ _ r]; simp
set_option maxHeartbeats 1000000 in
theorem stopsOf_any (n fine : Int) (a ao av bi : Option Addr) (cap ko co kv cv c2 : Nat) (zs os ids : List Int) (w : World) (hO : IntsAt w ao os) (hI : IntsAt w bi ids) (hlo : os.length = ko * 6) (hko : ko <= 9223372036854775807) (hli : ids.length <= 9223372036854775807) (hc2 : ids.length <= c2) :
 Calls Tryz.prog 172 #[.agg #[.int .i64 n, .slice a zs.length cap, .slice ao ko co, .slice av kv cv, .int .i64 fine], .slice bi ids.length c2] w fun e w' => Below w.heap.size w w' /\ ((stopsB os ko ids = false /\ e = .returned (.tuple #[.slice none 0 0, .bool false])) ∨ (stopsB os ko ids = true /\ e = .returned (.tuple #[.slice (some ⟨w.heap.size + 1, 0, none⟩) ids.length ids.length, .bool true]) /\ IntsAt w' (some ⟨w.heap.size + 1, 0, none⟩) (rosOf os ko ids))) := by
 have HO : Hid (IntsAt w ao os) := hO
 have HI : Hid (IntsAt w bi ids) := hI
 have HLO : Hid _ := hlo
 clear hO hI hlo
 have HB0 : Hid (Below w.heap.size w (w.alloc (Obj.cells #[Value.int .i64 n, Value.slice a zs.length cap, Value.slice ao ko co, Value.slice av kv cv, Value.int .i64 fine] 78))) := (Below.refl _ _).alloc (Nat.le_refl _) _
 have HP0 : Hid ((w.alloc (Obj.cells #[Value.int .i64 n, Value.slice a zs.length cap, Value.slice ao ko co, Value.slice av kv cv, Value.int .i64 fine] 78)).heap[w.heap.size]? = _) := heap_alloc_new _ _
 by_cases h12 : ids.length <= 12
 · go_enter Tryz.func172, Tryz.ntmps172
   go_wp2_with (first
    | (at_make; refine make_orders _ rfl _ _ rfl (w.heap.size + 1) .i64 .i64 _ ids.length rfl rfl rfl (by omega) (by simp) ?_; intro w1 hown0 hgrow0))
   have HB1 : Hid _ := HB0.grown hgrow0 HB0.size (fun k e => by cases e)
   have HP1 : Hid (w1.heap[w.heap.size]? = _) := grown_row hgrow0 HP0.out (by simp)
   have HW1 : Hid (w1.ownsRow (w.heap.size + 1) 146 6 (.slice (some ⟨w.heap.size + 1, 0, none⟩) 0 ids.length) 0 []) := by
    show w1.ownsRow _ _ _ _ _ _
    simpa using hown0
   clear hown0 hgrow0 HB0 HP0
   go_loopw [6, 19] (fun sl t wr => ∃ k : Nat, k <= ids.length /\ t = .int .i64 k /\ sl = .slice (some ⟨w.heap.size + 1, 0, none⟩) k ids.length /\ stopsTo os ko ids k /\ Below w.heap.size w wr /\ wr.heap[w.heap.size]? = some (.cells #[Value.int .i64 n, Value.slice a zs.length cap, Value.slice ao ko co, Value.slice av kv cv, Value.int .i64 fine] 78 (0, 0)) /\ wr.ownsRow (w.heap.size + 1) 146 6 (.slice (some ⟨w.heap.size + 1, 0, none⟩) k ids.length) k (((rosOf os ko ids).take (k * 6)).map (Value.int .i64))) (fun _ t _ => ids.length - (intOf t).toNat)
   case atStart => exact ⟨0, Nat.zero_le _, rfl, rfl, stopsTo_zero _ _ _, HB1.out, HP1.out, by simpa using HW1.out⟩
   case round =>
    clear HB1 HP1 HW1
    obtain ⟨k, hk, rfl, rfl, hth, hb, hp, hw⟩ := hrel
    have HT : Hid (stopsTo os ko ids k) := hth
    have HB : Hid _ := hb
    have HP : Hid (wr.heap[w.heap.size]? = _) := hp
    have HW : Hid (wr.ownsRow (w.heap.size + 1) 146 6 (.slice (some ⟨w.heap.size + 1, 0, none⟩) k ids.length) k (((rosOf os ko ids).take (k * 6)).map (Value.int .i64))) := hw
    obtain ⟨c0, c1, c2', c3, c4⟩ := cells5 hp
    clear hth hb hp hw
    by_cases hlt : k < ids.length
    · obtain ⟨b, off, rfl, hcs⟩ := IntsAt.some (IntsAt.below HI.out HB.out) hlt
      have ct := hcs k hlt
      clear hcs
      obtain ⟨id, HID⟩ := nmd (ids.getD k 0)
      rw [HID.out] at ct
      have hkc : k <= c2 := by omega
      obtain ⟨o0, H0⟩ := nmd (fnd6F os ko id 0)
      obtain ⟨o1, H1⟩ := nmd (fnd6F os ko id 1)
      obtain ⟨o2, H2⟩ := nmd (fnd6F os ko id 2)
      obtain ⟨o3, H3⟩ := nmd (fnd6F os ko id 3)
      obtain ⟨o4, H4⟩ := nmd (fnd6F os ko id 4)
      obtain ⟨o5, H5⟩ := nmd (fnd6F os ko id 5)
      obtain ⟨tt, HTT⟩ := nmd (fnd6T os ko id)
      go_wp2_with fail
      refine (findOrder_any n fine id a ao av _ cap ko co kv cv os _ (HO.below HB.out) HLO.out hko).mono ?_
      rintro e w2 ⟨rfl, hb2⟩
      rw [H0.out, H1.out, H2.out, H3.out, H4.out, H5.out, HTT.out]
      have HB2 : Hid (Below w.heap.size w (w2.alloc (Obj.cells #[Value.int .i64 o0, Value.int .i64 o1, Value.int .i64 o2, Value.int .i64 o3, Value.int .i64 o4, Value.int .i64 o5] 146))) := (HB.trans (hb2.mono HB.size)).alloc (Nat.le_trans HB.size hb2.size) _
      have HP2 : Hid ((w2.alloc (Obj.cells #[Value.int .i64 o0, Value.int .i64 o1, Value.int .i64 o2, Value.int .i64 o3, Value.int .i64 o4, Value.int .i64 o5] 146)).heap[w.heap.size]? = _) := (heap_alloc_old _ _ (row_lt (below_row hb2 (row_lt HP.out) HP.out))).trans (below_row hb2 (row_lt HP.out) HP.out)
      have HW2 : Hid ((w2.alloc (Obj.cells #[Value.int .i64 o0, Value.int .i64 o1, Value.int .i64 o2, Value.int .i64 o3, Value.int .i64 o4, Value.int .i64 o5] 146)).ownsRow _ _ _ _ _ _) := (owns_below HW.out hb2).alloc _
      have HRO : Hid ((w2.alloc (Obj.cells #[Value.int .i64 o0, Value.int .i64 o1, Value.int .i64 o2, Value.int .i64 o3, Value.int .i64 o4, Value.int .i64 o5] 146)).heap[w2.heap.size]? = _) := heap_alloc_new _ _
      obtain ⟨p0, p1, p2, p3, p4, p5⟩ := cells6 HRO.out
      clear hb2 c0 c1 c2' c3 c4 ct
      cases tt
      · have HN : Hid _ := stopsB_bad hlt (stopB_mk HID.out HTT.out rfl)
        go_wp2
        go_ret2
        exact ⟨HB2.out, .inl ⟨HN.out, rfl⟩⟩
      · obtain ⟨hh, HH⟩ := nmd (hasTo ids k id)
        cases hh
        · have HS1 : Hid (stopsTo os ko ids (k + 1)) := stopsTo_step HT.out (stopB_mk HID.out HTT.out HH.out)
          go_wp2_with (first
           | (go_at_call 200; refine (contains_any _ k _ id ids _ (HI.below HB2.out) hk (by omega)).mono ?_; rintro e w3 ⟨rfl, rfl⟩; rw [HH.out])
           | (at_builtin; refine append_orders _ rfl _ _ rfl (w.heap.size + 1) (w.heap.size + 1) k ids.length _ rfl (HW2.alloc _) _ 1 1 [Value.int .i64 o0, Value.int .i64 o1, Value.int .i64 o2, Value.int .i64 o3, Value.int .i64 o4, Value.int .i64 o5] rfl rfl (cells6_new _ _ _ _ _ _ _ _ _ (by simp)) (by simp [Value.oneCell']) (by omega) ?_; intro w4 hown4 hgrow4))
          have hne : some w.heap.size ≠ some (w.heap.size + 1) := by simp
          refine ⟨⟨k + 1, by omega, by go_num, rfl, HS1.out, (HB2.alloc HB2.size _).grown hgrow4 (Nat.le_trans HB2.size (by simp)) (fun j e => by cases e; omega), grown_row hgrow4 ((heap_alloc_old _ _ (row_lt HP2.out)).trans HP2.out) (by simp), ?_⟩, by simp [intOf]; omega⟩
          rw [ros_step os ko ids hlt HID.out H0.out H1.out H2.out H3.out H4.out H5.out] at hown4
          exact hown4
        · have HN : Hid _ := stopsB_bad hlt (stopB_mk HID.out HTT.out HH.out)
          go_wp2_with (first
           | (go_at_call 200; refine (contains_any _ k _ id ids _ (HI.below HB2.out) hk (by omega)).mono ?_; rintro e w3 ⟨rfl, rfl⟩; rw [HH.out]))
          go_ret2
          exact ⟨HB2.out, .inl ⟨HN.out, rfl⟩⟩
    · have hkl : k = ids.length := by omega
      have HN : Hid _ := stopsB_yes h12 (hkl ▸ HT.out)
      subst hkl
      go_wp2
      go_ret2
      refine ⟨HB.out, .inr ⟨HN.out, rfl, ?_⟩⟩
      have := HW.out
      rw [List.take_of_length_le (by rw [rosOf_length]; omega)] at this
      exact owns_ints this
 · have HN : Hid (stopsB os ko ids = false) := stopsB_many h12
   go_enter Tryz.func172, Tryz.ntmps172
   go_wp2
   go_ret2
   exact ⟨HB0.out, .inl ⟨HN.out, rfl⟩⟩
def CRT (w W : World) (cs rs ts : Array Value) : Prop := CR w W cs rs /\ W.heap[w.heap.size + 2]? = some (.cells ts 139 (0, 0))
theorem CRT.new (w : World) (cs rs ts : Array Value) : CRT w (((w.alloc (.cells cs 78)).alloc (.cells rs 134)).alloc (.cells ts 139)) cs rs ts := by
 refine ⟨(CR.new w cs rs).alloc _, ?_⟩
 have := heap_alloc_new ((w.alloc (.cells cs 78)).alloc (.cells rs 134)) (.cells ts 139)
 simpa using this
theorem CRT.below {w W W' : World} {cs rs ts : Array Value} (h : CRT w W cs rs ts) (hb : Below W.heap.size W W') : CRT w W' cs rs ts :=
 ⟨h.1.below hb, below_row hb (row_lt h.2) h.2⟩
theorem CRT.b {w W : World} {cs rs ts : Array Value} (h : CRT w W cs rs ts) : Below w.heap.size w W := h.1.1
theorem CRT.alloc {w W : World} {cs rs ts : Array Value} (h : CRT w W cs rs ts) (o : Obj) : CRT w (W.alloc o) cs rs ts := h.below ((Below.refl _ _).alloc (Nat.le_refl _) _)
set_option maxHeartbeats 1000000 in
theorem loadedTour_any (n fine veh : Int) (a ao av bi : Option Addr) (cap ko co kv cv c2 : Nat) (zs os vs ids : List Int) (w : World) (hA : IntsAt w a zs) (hO : IntsAt w ao os) (hV : IntsAt w av vs) (hI : IntsAt w bi ids) (hlo : os.length = ko * 6) (hlv : vs.length = kv * 5) (hko : ko <= 9223372036854775807) (hkv : kv <= 9223372036854775807) (hli : ids.length <= 9223372036854775807) (hc2 : ids.length <= c2) (hcB : caseB n zs os vs ko kv fine = true) :
 Calls Tryz.prog 141 #[.agg #[.int .i64 n, .slice a zs.length cap, .slice ao ko co, .slice av kv cv, .int .i64 fine], .agg #[.int .i64 veh, .slice bi ids.length c2]] w fun e w' => Below w.heap.size w w' /\ ((formV true vs os kv ko veh ids ≠ 0 /\ e = .returned (.tuple #[.agg #[Value.int .i64 0, Value.slice none 0 0, Value.int .i64 0, Value.int .i64 0, Value.int .i64 0, Value.int .i64 0, Value.int .i64 0, Value.slice none 0 0], .int .i64 (formV true vs os kv ko veh ids)])) ∨ (formV true vs os kv ko veh ids = 0 /\ ∃ g, w.heap.size <= g /\ e = .returned (.tuple #[.agg #[.int .i64 n, .slice a zs.length cap, .int .i64 (fnd5F vs kv veh 0), .int .i64 (fnd5F vs kv veh 1), .int .i64 (fnd5F vs kv veh 2), .int .i64 (fnd5F vs kv veh 3), .int .i64 (fnd5F vs kv veh 4), .slice (some ⟨g, 0, none⟩) ids.length ids.length], .int .i64 0]) /\ IntsAt w' (some ⟨g, 0, none⟩) (rosOf os ko ids))) := by
 have HA : Hid (IntsAt w a zs) := hA
 have HO : Hid (IntsAt w ao os) := hO
 have HV : Hid (IntsAt w av vs) := hV
 have HI : Hid (IntsAt w bi ids) := hI
 have HLO : Hid _ := hlo
 have HLV : Hid _ := hlv
 clear hA hO hV hI hlo hlv
 have HC : Hid _ := hcB
 clear hcB
 have HC0 : Hid (CRT w (((w.alloc (.cells #[Value.int .i64 n, Value.slice a zs.length cap, Value.slice ao ko co, Value.slice av kv cv, Value.int .i64 fine] 78)).alloc (.cells #[Value.int .i64 veh, Value.slice bi ids.length c2] 134)).alloc (.cells #[Value.int .i64 0, Value.slice none 0 0, Value.int .i64 0, Value.int .i64 0, Value.int .i64 0, Value.int .i64 0, Value.int .i64 0, Value.slice none 0 0] 139)) _ _ _) := CRT.new w _ _ _
 obtain ⟨r, HR⟩ := nmd (formV true vs os kv ko veh ids)
 rw [HR.out]
 go_enter Tryz.func141, Tryz.ntmps141
 obtain ⟨c0, c1, c2', c3, c4⟩ := cells5 HC0.out.1.2.1
 obtain ⟨d0, d1⟩ := cells2 HC0.out.1.2.2
 go_wp2_with fail
 clear c0 c1 c2' c3 c4 d0 d1
 refine (findVehicle_any n fine veh a ao av _ cap ko co kv cv vs _ (HV.out.below HC0.out.1.1) HLV.out hkv).mono ?_
 rintro e w2 ⟨rfl, hb⟩
 obtain ⟨v0, G0⟩ := nmd (fnd5F vs kv veh 0)
 obtain ⟨v1, G1⟩ := nmd (fnd5F vs kv veh 1)
 obtain ⟨v2, G2⟩ := nmd (fnd5F vs kv veh 2)
 obtain ⟨v3, G3⟩ := nmd (fnd5F vs kv veh 3)
 obtain ⟨v4, G4⟩ := nmd (fnd5F vs kv veh 4)
 rw [G0.out, G1.out, G2.out, G3.out, G4.out]
 have C2 : Hid (CRT w (w2.alloc (Obj.cells #[Value.int .i64 v0, Value.int .i64 v1, Value.int .i64 v2, Value.int .i64 v3, Value.int .i64 v4] 137)) _ _ _) := (HC0.out.below hb).alloc _
 have RV2 : Hid ((w2.alloc (Obj.cells #[Value.int .i64 v0, Value.int .i64 v1, Value.int .i64 v2, Value.int .i64 v3, Value.int .i64 v4] 137)).heap[w2.heap.size]? = _) := heap_alloc_new _ _
 clear hb HC0
 obtain ⟨t0, t1, t2, t3, t4, t5, t6, t7⟩ := cells8 C2.out.2
 have tf := fun i => frozen_of_row _ _ i _ _ C2.out.2
 cases ht : fnd5T vs kv veh
 · have HV1 : Hid _ := HR.out.symm.trans (formV_2 rfl ht)
   go_wp2
   refine bodyPost_ret (v := .tuple #[.agg #[Value.int .i64 0, Value.slice none 0 0, Value.int .i64 0, Value.int .i64 0, Value.int .i64 0, Value.int .i64 0, Value.int .i64 0, Value.slice none 0 0], .int .i64 2]) (by simp [results, Tryz.results141, go_sem, t0, t1, t2, t3, t4, t5, t6, t7]) rfl ⟨?_, .inl ⟨by rw [HV1.out]; decide, by rw [HV1.out]⟩⟩
   repeat (first | with_reducible exact C2.out.b | refine Below.setCell ?_ (by simp <;> omega) _)
 · have HT5 : Hid _ := ht
   clear ht
   obtain ⟨c0, c1, c2', c3, c4⟩ := cells5 C2.out.1.2.1
   obtain ⟨d0, d1⟩ := cells2 C2.out.1.2.2
   go_wp2_with fail
   clear c0 c1 c2' c3 c4 d0 d1 t0 t1 t2 t3 t4 t5 t6 t7 tf
   generalize w2.alloc (Obj.cells #[Value.int .i64 v0, Value.int .i64 v1, Value.int .i64 v2, Value.int .i64 v3, Value.int .i64 v4] 137) = W2 at *
   generalize w2.heap.size = gv at *
   refine (stopsOf_any n fine a ao av bi cap ko co kv cv c2 zs os ids W2 (HO.out.below C2.out.1.1) (HI.out.below C2.out.1.1) HLO.out hko hli hc2).mono ?_
   rintro e w3 ⟨hb, ⟨hst, rfl⟩ | ⟨hst, rfl, hros⟩⟩
   · have C3 : Hid (CRT w w3 _ _ _) := C2.out.below hb
     have HV1 : Hid _ := HR.out.symm.trans (formV_3 rfl HT5.out hst)
     obtain ⟨t0, t1, t2, t3, t4, t5, t6, t7⟩ := cells8 C3.out.2
     have tf := fun i => frozen_of_row _ _ i _ _ C3.out.2
     clear hb hst
     go_wp2
     refine bodyPost_ret (v := .tuple #[.agg #[Value.int .i64 0, Value.slice none 0 0, Value.int .i64 0, Value.int .i64 0, Value.int .i64 0, Value.int .i64 0, Value.int .i64 0, Value.slice none 0 0], .int .i64 3]) (by simp [results, Tryz.results141, go_sem, t0, t1, t2, t3, t4, t5, t6, t7]) rfl ⟨?_, .inl ⟨by rw [HV1.out]; decide, by rw [HV1.out]⟩⟩
     repeat (first | with_reducible exact C3.out.b | refine Below.setCell ?_ (by simp <;> omega) _)
   · have HST : Hid _ := hst
     have C3 : Hid (CRT w w3 _ _ _) := C2.out.below hb
     have RV3 : Hid (w3.heap[gv]? = _) := below_row hb (row_lt RV2.out) RV2.out
     have HROS : Hid (IntsAt w3 (some ⟨W2.heap.size + 1, 0, none⟩) (rosOf os ko ids)) := hros
     have HGR : Hid (w.heap.size + 2 < W2.heap.size + 1) := Nat.lt_succ_of_lt (row_lt C2.out.2)
     clear hb hst hros C2 RV2
     generalize W2.heap.size + 1 = gr at *
     obtain ⟨q0, q1, q2, q3, q4⟩ := cells5 RV3.out
     obtain ⟨hmat, hords, hvehs, hn1, _⟩ := caseB_parts HC.out
     have hroom := (fnd5F_bd hvehs hn1 veh).2.1
     rw [G2.out] at hroom
     have HOB : Hid _ := hords
     have HN1 : Hid _ := hn1
     clear hmat hords hvehs hn1
     have h12 := (stopsB_true HST.out).1
     go_wp2_with fail
     clear q0 q1 q2 q3 q4
     go_loopw [9, 36] (fun rm t wr => ∃ k : Nat, k <= ids.length /\ t = .int .i64 k /\ rm = .int .i64 (v2 - loadTo os ko ids k) /\ CRT w wr #[Value.int .i64 n, Value.slice a zs.length cap, Value.slice ao ko co, Value.slice av kv cv, Value.int .i64 fine] #[Value.int .i64 veh, Value.slice bi ids.length c2] #[Value.int .i64 0, Value.slice none 0 0, Value.int .i64 0, Value.int .i64 0, Value.int .i64 0, Value.int .i64 0, Value.int .i64 0, Value.slice none 0 0] /\ wr.heap[gv]? = some (.cells #[Value.int .i64 v0, Value.int .i64 v1, Value.int .i64 v2, Value.int .i64 v3, Value.int .i64 v4] 137 (0, 0)) /\ IntsAt wr (some ⟨gr, 0, none⟩) (rosOf os ko ids)) (fun _ t _ => ids.length - (intOf t).toNat)
     case atStart => exact ⟨0, Nat.zero_le _, rfl, by simp [loadTo], C3.out, RV3.out, HROS.out⟩
     case round =>
      clear C3 RV3 HROS
      obtain ⟨k, hk, rfl, rfl, hb, hrv, hros⟩ := hrel
      have hbd := loadTo_bd HOB.out ids k
      have HB : Hid (CRT w wr _ _ _) := hb
      have HRV : Hid (wr.heap[gv]? = _) := hrv
      have HROS : Hid (IntsAt wr (some ⟨gr, 0, none⟩) (rosOf os ko ids)) := hros
      obtain ⟨s0, HS0⟩ := nmd (loadTo os ko ids k)
      rw [HS0.out] at hbd ⊢
      clear hb hrv hros
      by_cases hlt : k < ids.length
      · obtain ⟨b', off', e, hcs⟩ := IntsAt.some HROS.out (j := k * 6) (by rw [rosOf_length]; omega)
        simp at e
        obtain ⟨rfl, rfl⟩ := e
        obtain ⟨r0, r1, r2, r3, r4, r5⟩ := row6_at hcs (rosOf_length os ko ids) k hlt
        clear hcs
        simp only [Nat.zero_add] at r0 r1 r2 r3 r4 r5
        obtain ⟨id, HID⟩ := nmd (ids.getD k 0)
        rw [rosOf_at os ko ids hlt (by omega), HID.out] at r0 r1 r2 r3 r4 r5
        have hl2 := fnd6F_load HOB.out id
        obtain ⟨o0, H0⟩ := nmd (fnd6F os ko id 0)
        obtain ⟨o1, H1⟩ := nmd (fnd6F os ko id 1)
        obtain ⟨o2, H2⟩ := nmd (fnd6F os ko id 2)
        obtain ⟨o3, H3⟩ := nmd (fnd6F os ko id 3)
        obtain ⟨o4, H4⟩ := nmd (fnd6F os ko id 4)
        obtain ⟨o5, H5⟩ := nmd (fnd6F os ko id 5)
        rw [H2.out] at hl2
        rw [H0.out] at r0
        rw [H1.out] at r1
        rw [H2.out] at r2
        rw [H3.out] at r3
        rw [H4.out] at r4
        rw [H5.out] at r5
        have HL1 : Hid (loadTo os ko ids (k + 1) = s0 + o2) := by
         show _ = _
         unfold loadTo
         rw [HS0.out, HID.out, H2.out]
        go_wp2
        exact ⟨⟨k + 1, by omega, by go_num, by rw [HL1.out]; go_num, HB.out.alloc _, (heap_alloc_old _ _ (row_lt HRV.out)).trans HRV.out, HROS.out.below ((Below.refl _ _).alloc (Nat.le_refl _) _)⟩, by simp [intOf]; omega⟩
      · have hkl : k = ids.length := by omega
        have HS0' : Hid _ := hkl ▸ HS0.out
        obtain ⟨t0, t1, t2, t3, t4, t5, t6, t7⟩ := cells8 HB.out.2
        have tf := fun i => frozen_of_row _ _ i _ _ HB.out.2
        clear hkl
        by_cases hroom2 : v2 < s0
        · have HV1 : Hid _ := HR.out.symm.trans (formV_4 rfl HT5.out HST.out (by rw [HS0'.out, G2.out]; exact hroom2))
          go_wp2
          refine bodyPost_ret (v := .tuple #[.agg #[Value.int .i64 0, Value.slice none 0 0, Value.int .i64 0, Value.int .i64 0, Value.int .i64 0, Value.int .i64 0, Value.int .i64 0, Value.slice none 0 0], .int .i64 4]) (by simp [results, Tryz.results141, go_sem, t0, t1, t2, t3, t4, t5, t6, t7]) rfl ⟨?_, .inl ⟨by rw [HV1.out]; decide, by rw [HV1.out]⟩⟩
          repeat (first | with_reducible exact HB.out.b | refine Below.setCell ?_ (by simp <;> omega) _)
        · have HV1 : Hid _ := HR.out.symm.trans (formV_0 rfl HT5.out HST.out (by rw [HS0'.out, G2.out]; exact hroom2))
          obtain ⟨q0, q1, q2, q3, q4⟩ := cells5 HRV.out
          obtain ⟨c0, c1, c2', c3, c4⟩ := cells5 HB.out.1.2.1
          go_wp2
          refine bodyPost_ret (v := .tuple #[.agg #[.int .i64 n, .slice a zs.length cap, .int .i64 v0, .int .i64 v1, .int .i64 v2, .int .i64 v3, .int .i64 v4, .slice (some ⟨gr, 0, none⟩) ids.length ids.length], .int .i64 0]) (by simp [results, Tryz.results141, go_sem, t0, t1, t2, t3, t4, t5, t6, t7]) rfl ⟨?_, .inr ⟨HV1.out, gr, by have := HGR.out; omega, ?_, ?_⟩⟩
          · repeat (first | with_reducible exact HB.out.b | refine Below.setCell ?_ (by simp <;> omega) _)
          · rw [G0.out, G1.out, G2.out, G3.out, G4.out]
          · repeat (first | with_reducible exact HROS.out | with_reducible refine ints_set ?_ (by have := HGR.out; omega))
theorem drive_is (n x y : Int) (v0 v1 v2 v3 v4 : Int) (a ar : Option Addr) (cap kr cr : Nat) (zs : List Int) (w : World) (d : Int) (hd : tmI n zs x y = d) (hm : matB n zs = true) (hx : 0 <= x /\ x < n) (hy : 0 <= y /\ y < n) (hA : IntsAt w a zs) :
 Calls Tryz.prog 143 #[.agg #[.int .i64 n, .slice a zs.length cap, .int .i64 v0, .int .i64 v1, .int .i64 v2, .int .i64 v3, .int .i64 v4, .slice ar kr cr], .int .i64 x, .int .i64 y] w fun e w' => e = .returned (.int .i64 d) /\ Below w.heap.size w w' := hd ▸ drive_I n x y v0 v1 v2 v3 v4 a ar cap kr cr zs w hm hx hy hA
def visF (n : Int) (zs ros : List Int) (home frm : Int) (k f : Nat) : Int :=
 if f = 0 then og6 ros k 0 else if f = 1 then arrV n zs ros home frm k else if f = 2 then startV n zs ros home frm k else nowT n zs ros home frm (k + 1)
def visL (n : Int) (zs ros : List Int) (home frm : Int) (m : Nat) : List Int := (List.range (m * 4)).map fun j => visF n zs ros home frm (j / 4) (j % 4)
theorem visL_length (n : Int) (zs ros : List Int) (home frm : Int) (m : Nat) : (visL n zs ros home frm m).length = m * 4 := by simp [visL]
theorem visL_at (n : Int) (zs ros : List Int) (home frm : Int) {m k f : Nat} (hk : k < m) (hf : f < 4) : (visL n zs ros home frm m).getD (k * 4 + f) 0 = visF n zs ros home frm k f := by
 unfold visL
 have hj : k * 4 + f < m * 4 := by omega
 have e1 : (k * 4 + f) / 4 = k := by omega
 have e2 : (k * 4 + f) % 4 = f := by omega
 rw [List.getD, List.getElem?_map, List.getElem?_range hj]
 simp only [Option.map_some, Option.getD_some, e1, e2]
theorem visL_step (n : Int) (zs ros : List Int) (home frm : Int) {m k : Nat} (hk : k < m) {x0 x1 x2 x3 : Int} (h0 : og6 ros k 0 = x0) (h1 : arrV n zs ros home frm k = x1) (h2 : startV n zs ros home frm k = x2) (h3 : nowT n zs ros home frm (k + 1) = x3) :
 (((visL n zs ros home frm m).take (k * 4)).map (Value.int .i64)) ++ [Value.int .i64 x0, Value.int .i64 x1, Value.int .i64 x2, Value.int .i64 x3] = ((visL n zs ros home frm m).take ((k + 1) * 4)).map (Value.int .i64) := by
 have hl := visL_length n zs ros home frm m
 have e : (k + 1) * 4 = k * 4 + 1 + 1 + 1 + 1 := by omega
 have g0 := visL_at n zs ros home frm hk (f := 0) (by omega)
 have g1 := visL_at n zs ros home frm hk (f := 1) (by omega)
 have g2 := visL_at n zs ros home frm hk (f := 2) (by omega)
 have g3 := visL_at n zs ros home frm hk (f := 3) (by omega)
 simp only [Nat.add_zero, visF] at g0 g1 g2 g3
 rw [e, take_snoc _ _ (by omega), take_snoc _ _ (by omega), take_snoc _ _ (by omega), take_snoc _ _ (by omega)]
 simp only [g0, g1, g2, g3]
 simp [h0, h1, h2, h3]
theorem infoVis4 : (Tryz.prog.info? 234).map (fun i => (i.zero, i.size, i.bytes)) = some (some (.agg #[Value.int .i64 0, Value.int .i64 0, Value.int .i64 0, Value.int .i64 0]), 4, 32) := by kernel_rfl
theorem append_visits (w : World) {ops : Array Oper} {rest : List Oper} {o : Oper} {a : Act} {Q : Exit -> Act -> World -> Prop}
 (hg : o.guard = none) (s x : Operand) (hop : o.op = Op.call { callee := Callee.builtin Builtin.append, args := #[s, x], argTypes := #[215, 215] })
 (base : Nat) (v : Value) (k : Nat) (xs : List Value) (hs : a.eval s = v) (hown : w.ownsRow base 234 4 v k xs) (ad : Addr) (c : Nat) (news : List Value) (hx : a.eval x = .slice (some ad) 1 c) (hn : news.length = 4)
 (hc : ∀ j u, news[j]? = some u -> w.cell? (ad.add j) = some u) (h1c : ∀ u ∈ news, u.oneCell' = true) (b1 : k <= 1000) (hb : base <= w.heap.size)
 (hK : ∀ v' w', w'.ownsRow base 234 4 v' (k + 1) (xs ++ news) -> w.grownBy w' v.ownBlock -> wpList Tryz.prog ops Q rest (a.put o.dst v') w') :
 wpList Tryz.prog ops Q (o :: rest) a w := by
 obtain ⟨i0, hi, hz0, hz1, hz2⟩ := info_parts infoVis4
 exact wpList_append_own w hg s x _ hop base _ i0 _ 4 32 Tryz.underlying215 hi hz0 hz1 hz2 rfl (by decide) v k xs hs hown ad 1 c news hx (by rw [hn]) hc h1c (by unfold maxLen; omega) (by omega) hb (fun v' w' h1 h2 _ => hK v' w' h1 h2)
theorem cells4_new (W : World) (o0 o1 o2 o3 : Value) (T : TypeId) (g : Nat) (hg : W.heap.size = g) : ∀ j u, [o0, o1, o2, o3][j]? = some u -> (W.alloc (.cells #[o0, o1, o2, o3] T)).cell? ((⟨g, 0, none⟩ : Addr).add j) = some u := by
 intro j u hu
 subst hg
 have hadd : (⟨W.heap.size, 0, none⟩ : Addr).add j = ⟨W.heap.size, j, none⟩ := by unfold Addr.add; split <;> simp_all
 rw [hadd, cell_of_row _ _ j _ _ _ (heap_alloc_new W (.cells #[o0, o1, o2, o3] T))]
 simpa using hu
theorem owned_at {w : World} {base k : Nat} {v : Value} {e : TypeId} {size : Nat} {xs : List Value} (h : w.ownsRow base e size v (k + 1) xs) : ∃ g c, v = .slice (some ⟨g, 0, none⟩) (k + 1) c /\ base <= g := by
 obtain ⟨_, ⟨_, h2⟩ | ⟨g, cap, cur, h2, h3, _⟩⟩ := h
 · omega
 · exact ⟨g, cap, h2, h3⟩
theorem CR.grown {w W W' : World} {cs rs : Array Value} {g : Nat} (h : CR w W cs rs) (hg : W.grownBy W' (some g)) (hlt : w.heap.size + 1 < g) : CR w W' cs rs :=
 ⟨h.1.grown hg h.1.size (fun k e => by cases e; omega), (hg.block _ (row_lt h.2.1) (fun e => by cases e; omega)).trans h.2.1, (hg.block _ (row_lt h.2.2) (fun e => by cases e; omega)).trans h.2.2⟩
theorem l1Time_is' (n x y : Int) (a : Option Addr) (cap : Nat) (zs : List Int) (w : World) (d : Int) (hd : tmI n zs x y = d) (hm : matB n zs = true) (hx : 0 <= x /\ x < n) (hy : 0 <= y /\ y < n) (hA : IntsAt w a zs) :
 Calls Tryz.prog 140 #[.agg #[.int .i64 n, .slice a zs.length cap], .int .i64 x, .int .i64 y] w fun e w' => e = .returned (.int .i64 d) /\ Below w.heap.size w w' := hd ▸ l1Time_I n x y a cap zs w hm hx hy hA
set_option maxHeartbeats 2000000 in
theorem specSchedule_any (n fine veh : Int) (a ao av bi : Option Addr) (cap ko co kv cv c2 : Nat) (zs os vs ids : List Int) (w : World) (hA : IntsAt w a zs) (hO : IntsAt w ao os) (hV : IntsAt w av vs) (hI : IntsAt w bi ids) (hlo : os.length = ko * 6) (hlv : vs.length = kv * 5) (hko : ko <= 9223372036854775807) (hkv : kv <= 9223372036854775807) (hli : ids.length <= 9223372036854775807) (hc2 : ids.length <= c2) :
 Calls Tryz.prog 161 #[.agg #[.int .i64 n, .slice a zs.length cap, .slice ao ko co, .slice av kv cv, .int .i64 fine], .agg #[.int .i64 veh, .slice bi ids.length c2]] w fun e w' => Below w.heap.size w w' /\ ((codeV (caseB n zs os vs ko kv fine) n zs os vs ko kv veh ids ≠ 0 /\ e = .returned (.tuple #[.slice none 0 0, .int .i64 0, .int .i64 (codeV (caseB n zs os vs ko kv fine) n zs os vs ko kv veh ids)])) ∨ (codeV (caseB n zs os vs ko kv fine) n zs os vs ko kv veh ids = 0 /\ ∃ g c, w.heap.size <= g /\ e = .returned (.tuple #[.slice (some ⟨g, 0, none⟩) ids.length c, .int .i64 (homeV n zs (rosOf os ko ids) ids.length (fnd5F vs kv veh 1) (fnd5F vs kv veh 3)), .int .i64 0]) /\ IntsAt w' (some ⟨g, 0, none⟩) (visL n zs (rosOf os ko ids) (fnd5F vs kv veh 1) (fnd5F vs kv veh 3) ids.length))) := by
 have HA : Hid (IntsAt w a zs) := hA
 have HO : Hid (IntsAt w ao os) := hO
 have HV : Hid (IntsAt w av vs) := hV
 have HI : Hid (IntsAt w bi ids) := hI
 have HLO : Hid _ := hlo
 have HLV : Hid _ := hlv
 clear hA hO hV hI hlo hlv
 have HC0 : Hid (CR w ((w.alloc (.cells #[Value.int .i64 n, Value.slice a zs.length cap, Value.slice ao ko co, Value.slice av kv cv, Value.int .i64 fine] 78)).alloc (.cells #[Value.int .i64 veh, Value.slice bi ids.length c2] 134)) _ _) := CR.new w _ _
 obtain ⟨r, HR⟩ := nmd (codeV (caseB n zs os vs ko kv fine) n zs os vs ko kv veh ids)
 rw [HR.out]
 go_enter Tryz.func161, Tryz.ntmps161
 obtain ⟨c0, c1, c2', c3, c4⟩ := cells5 HC0.2.1
 obtain ⟨d0, d1⟩ := cells2 HC0.2.2
 go_wp2_with fail
 clear c0 c1 c2' c3 c4 d0 d1
 refine (l3Form_any n fine veh a ao av bi cap ko co kv cv c2 zs os vs ids _ (HA.below HC0.1) (HO.below HC0.1) (HV.below HC0.1) (HI.below HC0.1) HLO.out HLV.out hko hkv hli hc2).mono ?_
 rintro e w1 ⟨rfl, hb⟩
 have C1 : Hid (CR w w1 _ _) := HC0.below hb
 clear hb HC0
 obtain ⟨fv, HFV⟩ := nmd (formV (caseB n zs os vs ko kv fine) vs os kv ko veh ids)
 rw [HFV.out]
 by_cases hfv : fv = 0
 · subst hfv
   have HRV := (codeV_hours (n := n) (zs := zs) HFV.out).symm.trans HR.out
   obtain ⟨hcb, _, hstB⟩ := formV_zero HFV.out
   obtain ⟨hmat, hords, hvehs, hn1, _⟩ := caseB_parts hcb
   have hvb := fnd5F_bd hvehs hn1 veh
   have HMAT : Hid _ := hmat
   have HOB : Hid _ := hords
   have HN1 : Hid _ := hn1
   have h12 := (stopsB_true hstB).1
   clear hmat hords hvehs hn1 hcb hstB
   obtain ⟨c0, c1, c2', c3, c4⟩ := cells5 C1.2.1
   obtain ⟨d0, d1⟩ := cells2 C1.2.2
   go_wp2_with fail
   clear c0 c1 c2' c3 c4 d0 d1
   refine (l2Car_any n fine veh a ao av _ cap ko co kv cv vs _ (HV.below C1.1) HLV.out hkv).mono ?_
   rintro e w2 ⟨rfl, hb⟩
   obtain ⟨v0, G0⟩ := nmd (fnd5F vs kv veh 0)
   obtain ⟨v1, G1⟩ := nmd (fnd5F vs kv veh 1)
   obtain ⟨v2, G2⟩ := nmd (fnd5F vs kv veh 2)
   obtain ⟨v3, G3⟩ := nmd (fnd5F vs kv veh 3)
   obtain ⟨v4, G4⟩ := nmd (fnd5F vs kv veh 4)
   rw [G1.out, G2.out, G3.out, G4.out] at hvb
   rw [G1.out, G3.out, G4.out] at HRV
   rw [G0.out, G1.out, G2.out, G3.out, G4.out]
   generalize fnd5T vs kv veh = tv
   have HV1 : Hid _ := HRV
   have HX1 : Hid _ := hvb.1
   have HX3 : Hid _ := hvb.2.2.1
   clear hvb HRV
   have C3 : Hid (CR w ((w2.alloc (Obj.cells #[Value.int .i64 v0, Value.int .i64 v1, Value.int .i64 v2, Value.int .i64 v3, Value.int .i64 v4] 137)).alloc (Obj.cells #[] 234)) _ _) := CR.alloc (CR.alloc (C1.below hb) _) _
   have RV3 : Hid (((w2.alloc (Obj.cells #[Value.int .i64 v0, Value.int .i64 v1, Value.int .i64 v2, Value.int .i64 v3, Value.int .i64 v4] 137)).alloc (Obj.cells #[] 234)).heap[w2.heap.size]? = _) := heap_alloc2_old _ _ _
   have RO3 : Hid (((w2.alloc (Obj.cells #[Value.int .i64 v0, Value.int .i64 v1, Value.int .i64 v2, Value.int .i64 v3, Value.int .i64 v4] 137)).alloc (Obj.cells #[] 234)).heap[w2.heap.size + 1]? = _) := heap_alloc2_new _ _ _
   have HGV : Hid _ := row_lt (C1.below hb).2.2
   clear hb C1
   obtain ⟨q0, q1, q2, q3, q4⟩ := cells5 RV3.out
   go_wp2_with fail
   clear q0 q1 q2 q3 q4
   generalize (w2.alloc (Obj.cells #[Value.int .i64 v0, Value.int .i64 v1, Value.int .i64 v2, Value.int .i64 v3, Value.int .i64 v4] 137)).alloc (Obj.cells #[] 234) = W2 at *
   generalize w2.heap.size = gv at *
   have HW0 : Hid (W2.ownsRow (gv + 1) 234 4 (.slice (some ⟨gv + 1, 0, none⟩) 0 0) 0 []) := ⟨by simp, .inr ⟨gv + 1, 0, #[], rfl, Nat.le_refl _, RO3.out, Nat.le_refl _, Nat.zero_le _, by simp, by simp⟩⟩
   have HBD : Hid (RosBd n (rosOf os ko ids) ids.length) := rosBd_of HOB.out HN1.out ids
   go_loopw [10, 11, 12, 13] (fun sl nw pl t wr => ∃ k gg cc : Nat, k <= ids.length /\ t = .int .i64 k /\ sl = .slice (some ⟨gg, 0, none⟩) k cc /\ gv + 1 <= gg /\ wr.ownsRow (gv + 1) 234 4 (.slice (some ⟨gg, 0, none⟩) k cc) k (((visL n zs (rosOf os ko ids) v1 v3 ids.length).take (k * 4)).map (Value.int .i64)) /\ pl = .int .i64 (plc (rosOf os ko ids) v1 k) /\ nw = .int .i64 (nowT n zs (rosOf os ko ids) v1 v3 k) /\ timelyTo n zs (rosOf os ko ids) v1 v3 k /\ CR w wr #[Value.int .i64 n, Value.slice a zs.length cap, Value.slice ao ko co, Value.slice av kv cv, Value.int .i64 fine] #[Value.int .i64 veh, Value.slice bi ids.length c2] /\ wr.heap[gv]? = some (.cells #[Value.int .i64 v0, Value.int .i64 v1, Value.int .i64 v2, Value.int .i64 v3, Value.int .i64 v4] 137 (0, 0))) (fun _ _ _ t _ => ids.length - (intOf t).toNat)
   case atStart => exact ⟨0, gv + 1, 0, Nat.zero_le _, rfl, rfl, Nat.le_refl _, by simpa using HW0.out, rfl, rfl, fun j hj => by omega, C3.out, RV3.out⟩
   case round =>
    clear C3 RV3 RO3 HW0
    obtain ⟨k, gg, cc, hk, rfl, rfl, hgg, hw, rfl, rfl, htm, hb, hrv⟩ := hrel
    have hpl := plc_bd HBD.out HX1.1 HX1.2 k hk
    have hnw := nowT_bd (home := v1) HMAT.out HBD.out HX3.out k hk
    have HTM : Hid (timelyTo n zs (rosOf os ko ids) v1 v3 k) := htm
    have HB : Hid (CR w wr _ _) := hb
    have HRV : Hid (wr.heap[gv]? = _) := hrv
    have HW : Hid (wr.ownsRow (gv + 1) 234 4 _ k _) := hw
    have HGG : Hid _ := hgg
    obtain ⟨c0, c1, c2', c3, c4⟩ := cells5 hb.2.1
    obtain ⟨d0, d1⟩ := cells2 hb.2.2
    obtain ⟨p, HPL⟩ := nmd (plc (rosOf os ko ids) v1 k)
    obtain ⟨f, HFR⟩ := nmd (nowT n zs (rosOf os ko ids) v1 v3 k)
    rw [HPL.out] at hpl
    rw [HFR.out] at hnw
    rw [HPL.out, HFR.out]
    have HPB : Hid _ := hpl
    clear htm hb hrv hpl hw hgg
    by_cases hlt : k < ids.length
    · obtain ⟨b, off, rfl, hcs⟩ := IntsAt.some (IntsAt.below HI.out HB.1) hlt
      have ct := hcs k hlt
      clear hcs
      obtain ⟨id, HID⟩ := nmd (ids.getD k 0)
      rw [HID.out] at ct
      obtain ⟨h1b, h2b, h3b, h4b, h5b⟩ := fnd6F_bd HOB.out HN1.out id
      obtain ⟨o0, H0⟩ := nmd (fnd6F os ko id 0)
      obtain ⟨o1, H1⟩ := nmd (fnd6F os ko id 1)
      obtain ⟨o2, H2⟩ := nmd (fnd6F os ko id 2)
      obtain ⟨o3, H3⟩ := nmd (fnd6F os ko id 3)
      obtain ⟨o4, H4⟩ := nmd (fnd6F os ko id 4)
      obtain ⟨o5, H5⟩ := nmd (fnd6F os ko id 5)
      rw [H1.out] at h1b
      rw [H3.out] at h3b
      rw [H4.out] at h4b
      rw [H5.out] at h5b
      have HO1 : Hid _ := h1b
      clear h1b h2b
      obtain ⟨d, HD⟩ := nmd (tmI n zs p o1)
      have hdb := tmI_bd HMAT.out p o1
      rw [HD.out] at hdb
      have K0 : Hid (og6 (rosOf os ko ids) k 0 = o0) := (rosOf_at os ko ids hlt (by omega)).trans (by rw [HID.out]; exact H0.out)
      have K1 : Hid (og6 (rosOf os ko ids) k 1 = o1) := (rosOf_at os ko ids hlt (by omega)).trans (by rw [HID.out]; exact H1.out)
      have K3 : Hid (og6 (rosOf os ko ids) k 3 = o3) := (rosOf_at os ko ids hlt (by omega)).trans (by rw [HID.out]; exact H3.out)
      have K4 : Hid (og6 (rosOf os ko ids) k 4 = o4) := (rosOf_at os ko ids hlt (by omega)).trans (by rw [HID.out]; exact H4.out)
      have K5 : Hid (og6 (rosOf os ko ids) k 5 = o5) := (rosOf_at os ko ids hlt (by omega)).trans (by rw [HID.out]; exact H5.out)
      obtain ⟨mx, HMX⟩ := nmd (max (f + d) o3)
      have HAR : Hid (arrV n zs (rosOf os ko ids) v1 v3 k = f + d) := by
       show _ = _
       unfold arrV
       rw [HFR.out, HPL.out, K1.out, HD.out]
      have HSTV : Hid (startV n zs (rosOf os ko ids) v1 v3 k = mx) := by
       show _ = _
       unfold startV
       rw [HAR.out, K3.out, HMX.out]
      have HNX : Hid (nowT n zs (rosOf os ko ids) v1 v3 (k + 1) = mx + o5) := by
       show _ = _
       rw [nowT_succ, HSTV.out, K5.out]
      have hmb : 0 <= mx /\ mx <= 3000000 := by
       have := HMX.out
       omega
      obtain ⟨tt, HTT⟩ := nmd (fnd6T os ko id)
      go_wp2_with fail
      have HCT : Hid (wr.cell? ⟨b, off + k, none⟩ = _) := ct
      have HCA : Hid ((wr.alloc (Obj.cells #[Value.int .i64 0, Value.int .i64 0, Value.int .i64 0, Value.int .i64 0, Value.int .i64 0, Value.int .i64 0] 146)).cell? ⟨b, off + k, none⟩ = _) := (((Below.refl wr.heap.size wr).alloc (Nat.le_refl _) _).cell (p := ⟨b, off + k, none⟩) (block_lt_of_cell ct)).trans ct
      have HVA : Hid ((wr.alloc (Obj.cells #[Value.int .i64 0, Value.int .i64 0, Value.int .i64 0, Value.int .i64 0, Value.int .i64 0, Value.int .i64 0] 146)).heap[gv]? = _) := (heap_alloc_old _ _ (row_lt HRV.out)).trans HRV.out
      have hlb := block_lt_of_cell ct
      simp at hlb
      have hlw := row_lt HB.2.1
      have hlr := row_lt HB.2.2
      go_region_held3 (fun W => W.cell? ⟨w.heap.size, 0, none⟩ = some (.int .i64 n) /\ W.cell? ⟨w.heap.size, 1, none⟩ = some (.slice a zs.length cap) /\ W.cell? ⟨w.heap.size, 2, none⟩ = some (.slice ao ko co) /\ W.cell? ⟨w.heap.size, 3, none⟩ = some (.slice av kv cv) /\ W.cell? ⟨w.heap.size, 4, none⟩ = some (.int .i64 fine) /\ W.cell? ⟨w.heap.size + 1, 1, none⟩ = some (.slice (some ⟨b, off, none⟩) ids.length c2) /\ W.cell? ⟨b, off + k, none⟩ = some (.int .i64 id)) (first | with_reducible exact kS | with_reducible exact ⟨(keep_set (keep_set (keep_set (keep_set (keep_set (keep_set kS.1 (Nat.ne_of_lt hlw)) (Nat.ne_of_lt hlw)) (Nat.ne_of_lt hlw)) (Nat.ne_of_lt hlw)) (Nat.ne_of_lt hlw)) (Nat.ne_of_lt hlw)), (keep_set (keep_set (keep_set (keep_set (keep_set (keep_set kS.2.1 (Nat.ne_of_lt hlw)) (Nat.ne_of_lt hlw)) (Nat.ne_of_lt hlw)) (Nat.ne_of_lt hlw)) (Nat.ne_of_lt hlw)) (Nat.ne_of_lt hlw)), (keep_set (keep_set (keep_set (keep_set (keep_set (keep_set kS.2.2.1 (Nat.ne_of_lt hlw)) (Nat.ne_of_lt hlw)) (Nat.ne_of_lt hlw)) (Nat.ne_of_lt hlw)) (Nat.ne_of_lt hlw)) (Nat.ne_of_lt hlw)), (keep_set (keep_set (keep_set (keep_set (keep_set (keep_set kS.2.2.2.1 (Nat.ne_of_lt hlw)) (Nat.ne_of_lt hlw)) (Nat.ne_of_lt hlw)) (Nat.ne_of_lt hlw)) (Nat.ne_of_lt hlw)) (Nat.ne_of_lt hlw)), (keep_set (keep_set (keep_set (keep_set (keep_set (keep_set kS.2.2.2.2.1 (Nat.ne_of_lt hlw)) (Nat.ne_of_lt hlw)) (Nat.ne_of_lt hlw)) (Nat.ne_of_lt hlw)) (Nat.ne_of_lt hlw)) (Nat.ne_of_lt hlw)), (keep_set (keep_set (keep_set (keep_set (keep_set (keep_set kS.2.2.2.2.2.1 (Nat.ne_of_lt hlr)) (Nat.ne_of_lt hlr)) (Nat.ne_of_lt hlr)) (Nat.ne_of_lt hlr)) (Nat.ne_of_lt hlr)) (Nat.ne_of_lt hlr)), (keep_set (keep_set (keep_set (keep_set (keep_set (keep_set kS.2.2.2.2.2.2 (Nat.ne_of_lt hlb)) (Nat.ne_of_lt hlb)) (Nat.ne_of_lt hlb)) (Nat.ne_of_lt hlb)) (Nat.ne_of_lt hlb)) (Nat.ne_of_lt hlb))⟩ | go_keep) ((first
       | (go_at_call 124
          with_reducible refine (l2At_any n fine id a ao av _ cap ko co kv cv os wr.drew ?_ HLO.out hko).mono ?_
          · exact HO.below HB.1.drew
          rintro e w2 ⟨rfl, hb2⟩
          rw [H0.out, H1.out, H2.out, H3.out, H4.out, H5.out, HTT.out]
          have hcr2 := CR.below (CR.drew HB.out) hb2
          obtain ⟨k0, k1, k2, k3, k4⟩ := cells5 hcr2.2.1
          have k5 := (cells2 hcr2.2.2).2
          have k6 := (hb2.cell (p := ⟨b, off + k, none⟩) (block_lt_of_cell HCT.out)).trans HCT.out
          have kS := And.intro k0 (And.intro k1 (And.intro k2 (And.intro k3 (And.intro k4 (And.intro k5 k6)))))
          have CR2 : Hid (CR w w2 _ _) := hcr2
          have RV2 : Hid (w2.heap[gv]? = _) := below_row hb2 (row_lt HRV.out) HRV.out
          have B2 : Hid (Below wr.heap.size wr w2) := (Below.refl _ wr).drew.trans hb2
          clear hb2 hcr2 k0 k1 k2 k3 k4 k5 k6)
       | (go_at_call 124
          with_reducible refine (l2At_any n fine id a ao av _ cap ko co kv cv os (wr.alloc (Obj.cells #[Value.int .i64 0, Value.int .i64 0, Value.int .i64 0, Value.int .i64 0, Value.int .i64 0, Value.int .i64 0] 146)).drew ?_ HLO.out hko).mono ?_
          · exact HO.below (CR.alloc HB.out (Obj.cells #[Value.int .i64 0, Value.int .i64 0, Value.int .i64 0, Value.int .i64 0, Value.int .i64 0, Value.int .i64 0] 146)).1.drew
          rintro e w2 ⟨rfl, hb2⟩
          rw [H0.out, H1.out, H2.out, H3.out, H4.out, H5.out, HTT.out]
          have hcr2 := CR.below (CR.drew (CR.alloc HB.out (Obj.cells #[Value.int .i64 0, Value.int .i64 0, Value.int .i64 0, Value.int .i64 0, Value.int .i64 0, Value.int .i64 0] 146))) hb2
          obtain ⟨k0, k1, k2, k3, k4⟩ := cells5 hcr2.2.1
          have k5 := (cells2 hcr2.2.2).2
          have k6 := (hb2.cell (p := ⟨b, off + k, none⟩) (block_lt_of_cell HCA.out)).trans HCA.out
          have kS := And.intro k0 (And.intro k1 (And.intro k2 (And.intro k3 (And.intro k4 (And.intro k5 k6)))))
          have CR2 : Hid (CR w w2 _ _) := hcr2
          have RV2 : Hid (w2.heap[gv]? = _) := below_row hb2 (row_lt HVA.out) HVA.out
          obtain ⟨z0, z1, z2, z3, z4, z5⟩ := cells6 (below_row hb2 (k := wr.heap.size) (by simp) (heap_alloc_new wr (Obj.cells #[Value.int .i64 0, Value.int .i64 0, Value.int .i64 0, Value.int .i64 0, Value.int .i64 0, Value.int .i64 0] 146)))
          have zf := fun i => frozen_of_row _ _ i _ _ (below_row hb2 (k := wr.heap.size) (by simp) (heap_alloc_new wr (Obj.cells #[Value.int .i64 0, Value.int .i64 0, Value.int .i64 0, Value.int .i64 0, Value.int .i64 0, Value.int .i64 0] 146)))
          have RO2 : Hid (w2.heap[wr.heap.size]? = _) := below_row hb2 (k := wr.heap.size) (by simp) (heap_alloc_new wr (Obj.cells #[Value.int .i64 0, Value.int .i64 0, Value.int .i64 0, Value.int .i64 0, Value.int .i64 0, Value.int .i64 0] 146))
          have B2 : Hid _ := ((Below.refl _ wr).alloc (Nat.le_refl _) _).drew.trans (hb2.mono (by simp))
          clear hb2 hcr2 k0 k1 k2 k3 k4 k5 k6)))
      all_goals (first
       | (have CRW : Hid (CR w (World.setCell (World.setCell (World.setCell (World.setCell (World.setCell (World.setCell w2 ⟨wr.heap.size, 0, none⟩ (Value.int .i64 o0)) ⟨wr.heap.size, 1, none⟩ (Value.int .i64 o1)) ⟨wr.heap.size, 2, none⟩ (Value.int .i64 o2)) ⟨wr.heap.size, 3, none⟩ (Value.int .i64 o3)) ⟨wr.heap.size, 4, none⟩ (Value.int .i64 o4)) ⟨wr.heap.size, 5, none⟩ (Value.int .i64 o5)) _ _) := CR.set (CR.set (CR.set (CR.set (CR.set (CR.set CR2.out HB.big) HB.big) HB.big) HB.big) HB.big) HB.big
          have RVW : Hid ((World.setCell (World.setCell (World.setCell (World.setCell (World.setCell (World.setCell w2 ⟨wr.heap.size, 0, none⟩ (Value.int .i64 o0)) ⟨wr.heap.size, 1, none⟩ (Value.int .i64 o1)) ⟨wr.heap.size, 2, none⟩ (Value.int .i64 o2)) ⟨wr.heap.size, 3, none⟩ (Value.int .i64 o3)) ⟨wr.heap.size, 4, none⟩ (Value.int .i64 o4)) ⟨wr.heap.size, 5, none⟩ (Value.int .i64 o5)).heap[gv]? = _) := row_set' (row_set' (row_set' (row_set' (row_set' (row_set' RV2.out (Nat.ne_of_lt (row_lt HRV.out))) (Nat.ne_of_lt (row_lt HRV.out))) (Nat.ne_of_lt (row_lt HRV.out))) (Nat.ne_of_lt (row_lt HRV.out))) (Nat.ne_of_lt (row_lt HRV.out))) (Nat.ne_of_lt (row_lt HRV.out))
          have ROW : Hid ((World.setCell (World.setCell (World.setCell (World.setCell (World.setCell (World.setCell w2 ⟨wr.heap.size, 0, none⟩ (Value.int .i64 o0)) ⟨wr.heap.size, 1, none⟩ (Value.int .i64 o1)) ⟨wr.heap.size, 2, none⟩ (Value.int .i64 o2)) ⟨wr.heap.size, 3, none⟩ (Value.int .i64 o3)) ⟨wr.heap.size, 4, none⟩ (Value.int .i64 o4)) ⟨wr.heap.size, 5, none⟩ (Value.int .i64 o5)).heap[wr.heap.size]? = _) := row_set6 RO2.out
          have BW : Hid (∀ base e size v n xs, wr.ownsRow base e size v n xs -> World.ownsRow (World.setCell (World.setCell (World.setCell (World.setCell (World.setCell (World.setCell w2 ⟨wr.heap.size, 0, none⟩ (Value.int .i64 o0)) ⟨wr.heap.size, 1, none⟩ (Value.int .i64 o1)) ⟨wr.heap.size, 2, none⟩ (Value.int .i64 o2)) ⟨wr.heap.size, 3, none⟩ (Value.int .i64 o3)) ⟨wr.heap.size, 4, none⟩ (Value.int .i64 o4)) ⟨wr.heap.size, 5, none⟩ (Value.int .i64 o5)) base e size v n xs) := fun _ _ _ _ _ _ h => owns_below h ((((((B2.setCell (Nat.le_refl _) _).setCell (Nat.le_refl _) _).setCell (Nat.le_refl _) _).setCell (Nat.le_refl _) _).setCell (Nat.le_refl _) _).setCell (Nat.le_refl _) _)
          clear kS CR2 RV2 RO2 HCT HCA HVA ct z0 z1 z2 z3 z4 z5 zf
          generalize (World.setCell (World.setCell (World.setCell (World.setCell (World.setCell (World.setCell w2 ⟨wr.heap.size, 0, none⟩ (Value.int .i64 o0)) ⟨wr.heap.size, 1, none⟩ (Value.int .i64 o1)) ⟨wr.heap.size, 2, none⟩ (Value.int .i64 o2)) ⟨wr.heap.size, 3, none⟩ (Value.int .i64 o3)) ⟨wr.heap.size, 4, none⟩ (Value.int .i64 o4)) ⟨wr.heap.size, 5, none⟩ (Value.int .i64 o5)) = W at *
          generalize wr.heap.size = g at *)
       | (have CRW : Hid (CR w (w2.alloc (Obj.cells #[Value.int .i64 o0, Value.int .i64 o1, Value.int .i64 o2, Value.int .i64 o3, Value.int .i64 o4, Value.int .i64 o5] 146)) _ _) := CR.alloc CR2.out _
          have RVW : Hid ((w2.alloc (Obj.cells #[Value.int .i64 o0, Value.int .i64 o1, Value.int .i64 o2, Value.int .i64 o3, Value.int .i64 o4, Value.int .i64 o5] 146)).heap[gv]? = _) := (heap_alloc_old _ _ (row_lt RV2.out)).trans RV2.out
          have ROW : Hid ((w2.alloc (Obj.cells #[Value.int .i64 o0, Value.int .i64 o1, Value.int .i64 o2, Value.int .i64 o3, Value.int .i64 o4, Value.int .i64 o5] 146)).heap[w2.heap.size]? = _) := heap_alloc_new _ _
          have BW : Hid (∀ base e size v n xs, wr.ownsRow base e size v n xs -> (w2.alloc (Obj.cells #[Value.int .i64 o0, Value.int .i64 o1, Value.int .i64 o2, Value.int .i64 o3, Value.int .i64 o4, Value.int .i64 o5] 146)).ownsRow base e size v n xs) := fun _ _ _ _ _ _ h => owns_below h (B2.alloc B2.size _)
          clear kS CR2 RV2 HCT HCA HVA ct
          generalize w2.alloc (Obj.cells #[Value.int .i64 o0, Value.int .i64 o1, Value.int .i64 o2, Value.int .i64 o3, Value.int .i64 o4, Value.int .i64 o5] 146) = W at *
          generalize w2.heap.size = g at *))
      all_goals
       clear c0 c1 c2' c3 c4 d0 d1 hlw hlr hlb HTT
       generalize tt = tt'
       have HWW : Hid (W.ownsRow (gv + 1) 234 4 _ k _) := BW.out _ _ _ _ _ _ HW.out
       obtain ⟨c0, c1, c2', c3, c4⟩ := cells5 CRW.2.1
       obtain ⟨p0, p1, p2, p3, p4, p5⟩ := cells6 ROW.out
       go_wp2_with fail
       clear c0 c1 c2' c3 c4 p0 p1 p2 p3 p4 p5
       refine (l1Time_is' n p o1 _ _ zs _ d HD.out HMAT.out HPB.out HO1.out (HA.below CRW.1)).mono ?_
       rintro e W3 ⟨rfl, hb3⟩
       have CR3 : Hid (CR w W3 _ _) := CRW.below hb3
       have RV3 : Hid (W3.heap[gv]? = _) := below_row hb3 (row_lt RVW.out) RVW.out
       have RO3 : Hid (W3.heap[g]? = _) := below_row hb3 (row_lt ROW.out) ROW.out
       have HW3 : Hid (W3.ownsRow (gv + 1) 234 4 _ k _) := owns_below HWW.out hb3
       clear hb3 CRW RVW ROW HWW BW
       obtain ⟨p0, p1, p2, p3, p4, p5⟩ := cells6 RO3.out
       by_cases hlate : o4 < mx
       · have HN : Hid _ := HV1.symm.trans (hoursV_late hlt (by rw [K4.out, HSTV.out]; exact hlate))
         have hor : (f + d < o3 /\ mx = o3) ∨ (o3 <= f + d /\ mx = f + d) := by
          have := HMX.out
          omega
         rcases hor with ⟨hmx, rfl⟩ | ⟨hmx, rfl⟩
         all_goals
          clear HMX
          go_wp2
          refine bodyPost_ret (v := .tuple #[.slice none 0 0, .int .i64 0, .int .i64 5]) (by simp [results, Tryz.results161, go_sem]) rfl ⟨CR3.1, .inl ⟨by rw [HN.out]; decide, by rw [HN.out]⟩⟩
       · have hle : mx <= o4 := by omega
         have HT1 : Hid (timelyTo n zs (rosOf os ko ids) v1 v3 (k + 1)) := timelyTo_step HTM.out (by rw [K4.out, HSTV.out]; exact hle)
         have hor : (f + d < o3 /\ mx = o3) ∨ (o3 <= f + d /\ mx = f + d) := by
          have := HMX.out
          omega
         have HLG : Hid (gv + 1 <= W3.heap.size) := row_lt RV3.out
         clear hlate
         rcases hor with ⟨hmx, rfl⟩ | ⟨hmx, rfl⟩
         all_goals
          clear HMX
          go_wp2_with (first
           | (at_builtin; refine append_visits _ rfl _ _ rfl (gv + 1) _ k _ rfl (HW3.alloc _) _ 1 _ rfl rfl (cells4_new _ _ _ _ _ _ _ (by simp)) (by simp [Value.oneCell']) (by omega) (Nat.le_trans HLG.out (by simp)) ?_; intro v' w4 hown4 hgrow4; obtain ⟨gg', cc', rfl, hgg'⟩ := owned_at hown4))
          replace hgrow4 : World.grownBy _ w4 (some gg) := hgrow4
          rw [visL_step n zs (rosOf os ko ids) v1 v3 hlt K0.out HAR.out HSTV.out HNX.out] at hown4
          go_roundw
          case rel => exact ⟨k + 1, gg', cc', by omega, by go_num, rfl, hgg', hown4, by rw [<- K1.out]; rfl, by rw [HNX.out], HT1.out, (CR3.alloc _).grown hgrow4 (by have := HGG.out; have := HGV.out; omega), (hgrow4.block _ (Nat.lt_of_lt_of_le (row_lt RV3.out) (by simp)) (fun e => by have h7 := HGG.out; rw [Option.some.injEq] at e; omega)).trans ((heap_alloc_old _ _ (row_lt RV3.out)).trans RV3.out)⟩
          case measure => simp [intOf]; omega
    · have hkl : k = ids.length := by omega
      obtain ⟨q0, q1, q2, q3, q4⟩ := cells5 HRV.out
      have HHM : Hid (homeV n zs (rosOf os ko ids) ids.length v1 v3 = f + tmI n zs p v1) := by
       show _ = _
       unfold homeV
       rw [<- hkl, HFR.out, HPL.out]
      have HTM' : Hid (timelyTo n zs (rosOf os ko ids) v1 v3 ids.length) := hkl ▸ HTM.out
      have HOI : Hid (IntsAt wr (some ⟨gg, 0, none⟩) (visL n zs (rosOf os ko ids) v1 v3 ids.length)) := by
       have := HW.out
       rw [List.take_of_length_le (by rw [visL_length]; omega)] at this
       exact owns_ints this
      obtain ⟨d, HD⟩ := nmd (tmI n zs p v1)
      have hdb := tmI_bd HMAT.out p v1
      rw [HD.out] at hdb HHM
      have hkI : (k : Int) = ids.length := by omega
      have HKL : Hid _ := hkl
      clear hkl hkI
      go_wp2_with fail
      refine (l1Time_is' n p v1 _ _ zs _ d HD.out HMAT.out HPB.out HX1.out (HA.below HB.1)).mono ?_
      rintro e W3 ⟨rfl, hb3⟩
      have CR3 : Hid (CR w W3 _ _) := HB.below hb3
      have RV3 : Hid (W3.heap[gv]? = _) := below_row hb3 (row_lt HRV.out) HRV.out
      have HOI3 : Hid (IntsAt W3 (some ⟨gg, 0, none⟩) (visL n zs (rosOf os ko ids) v1 v3 ids.length)) := HOI.below hb3
      clear hb3 c0 c1 c2' c3 c4 d0 d1 q0 q1 q2 q3 q4
      obtain ⟨q0, q1, q2, q3, q4⟩ := cells5 RV3.out
      by_cases hto : v4 < f + d
      · have HN : Hid _ := HV1.symm.trans (hoursV_home HTM'.out (by rw [HHM.out]; exact hto))
        go_wp2
        refine bodyPost_ret (v := .tuple #[.slice none 0 0, .int .i64 0, .int .i64 6]) (by simp [results, Tryz.results161, go_sem]) rfl ⟨CR3.1, .inl ⟨by rw [HN.out]; decide, by rw [HN.out]⟩⟩
      · have HN : Hid _ := HV1.symm.trans (hoursV_ok HTM'.out (by rw [HHM.out]; exact hto))
        go_wp2
        refine bodyPost_ret (v := .tuple #[.slice (some ⟨gg, 0, none⟩) k cc, .int .i64 (f + d), .int .i64 0]) (by simp [results, Tryz.results161, go_sem]) rfl ⟨CR3.1, .inr ⟨HN.out, gg, cc, by have := HGG.out; have := HGV.out; omega, ?_, ?_⟩⟩
        · rw [G1.out, G3.out, HHM.out, HKL.out]
        · rw [G1.out, G3.out]
          exact HOI3.out
 · have HRV : Hid _ := HFV.symm.trans ((codeV_form (by rw [HFV.out]; exact hfv)).symm.trans HR.out)
   have heb : (fv != 0) = true := by simp [hfv]
   have HF : Hid (fv ≠ 0) := hfv
   clear hfv
   go_wp2
   refine bodyPost_ret (v := .tuple #[.slice none 0 0, .int .i64 0, .int .i64 fv]) (by simp [results, Tryz.results161, go_sem]) rfl ⟨C1.1, .inl ⟨by rw [<- HRV.out]; exact HF.out, by rw [HRV.out]⟩⟩
set_option maxHeartbeats 1000000 in
theorem l3Ok_any (n fine veh : Int) (a ao av bi : Option Addr) (cap ko co kv cv c2 : Nat) (zs os vs ids : List Int) (w : World) (hA : IntsAt w a zs) (hO : IntsAt w ao os) (hV : IntsAt w av vs) (hI : IntsAt w bi ids) (hlo : os.length = ko * 6) (hlv : vs.length = kv * 5) (hko : ko <= 9223372036854775807) (hkv : kv <= 9223372036854775807) (hli : ids.length <= 9223372036854775807) (hc2 : ids.length <= c2) (v : Bool) (hv : decide (codeV (caseB n zs os vs ko kv fine) n zs os vs ko kv veh ids = 0) = v) :
 Calls Tryz.prog 122 #[.agg #[.int .i64 n, .slice a zs.length cap, .slice ao ko co, .slice av kv cv, .int .i64 fine], .agg #[.int .i64 veh, .slice bi ids.length c2]] w fun e w' => e = .returned (.bool v) /\ Below w.heap.size w w' := by
 have HA : Hid (IntsAt w a zs) := hA
 have HO : Hid (IntsAt w ao os) := hO
 have HV : Hid (IntsAt w av vs) := hV
 have HI : Hid (IntsAt w bi ids) := hI
 have HLO : Hid _ := hlo
 have HLV : Hid _ := hlv
 clear hA hO hV hI hlo hlv
 have HVV : Hid _ := hv
 clear hv
 have HC0 : Hid (CR w ((w.alloc (.cells #[Value.int .i64 n, Value.slice a zs.length cap, Value.slice ao ko co, Value.slice av kv cv, Value.int .i64 fine] 78)).alloc (.cells #[Value.int .i64 veh, Value.slice bi ids.length c2] 134)) _ _) := CR.new w _ _
 go_enter Tryz.func122, Tryz.ntmps122
 obtain ⟨c0, c1, c2', c3, c4⟩ := cells5 HC0.2.1
 obtain ⟨d0, d1⟩ := cells2 HC0.2.2
 go_wp2_with fail
 clear c0 c1 c2' c3 c4 d0 d1
 refine (specSchedule_any n fine veh a ao av bi cap ko co kv cv c2 zs os vs ids _ (HA.below HC0.1) (HO.below HC0.1) (HV.below HC0.1) (HI.below HC0.1) HLO.out HLV.out hko hkv hli hc2).mono ?_
 rintro e w2 ⟨hb, ⟨hf, rfl⟩ | ⟨hf, g, c, _, rfl, _⟩⟩
 · have HB2 : Hid _ := HC0.1.trans (hb.mono HC0.1.size)
   have HVF : Hid _ := HVV.symm.trans (decide_eq_false hf)
   generalize codeV (caseB n zs os vs ko kv fine) n zs os vs ko kv veh ids = r at *
   have hfb : (r == 0) = false := by simp [hf]
   clear hb hf HC0 HVV
   go_wp2
   go_ret
   exact ⟨ret_bool HVF.symm, HB2.out⟩
 · have HB2 : Hid _ := HC0.1.trans (hb.mono HC0.1.size)
   have HVF : Hid _ := HVV.symm.trans (decide_eq_true hf)
   clear hb hf HC0 HVV
   generalize homeV n zs (rosOf os ko ids) ids.length (fnd5F vs kv veh 1) (fnd5F vs kv veh 3) = hm
   go_wp2
   go_ret
   exact ⟨ret_bool HVF.symm, HB2.out⟩
theorem inf_parts {E : TypeId} {z : Value} {size bytes : Nat} (h : (Tryz.prog.info? E).map (fun i => (i.zero, i.size, i.bytes)) = some (some z, size, bytes)) : ∃ i0, Tryz.prog.info? E = some i0 /\ i0.zero = some z /\ i0.size = size /\ i0.bytes = bytes := by
 cases hq : Tryz.prog.info? E with
 | none => rw [hq] at h; simp at h
 | some i0 =>
   rw [hq] at h
   simp only [Option.map_some, Option.some.injEq, Prod.mk.injEq] at h
   exact ⟨i0, rfl, h.1, h.2.1, h.2.2⟩
theorem add_plain (b off j : Nat) : (⟨b, off, none⟩ : Addr).add j = ⟨b, off + j, none⟩ := by unfold Addr.add; split <;> simp_all
theorem append_vals {T E : TypeId} {z : Value} {size bytes : Nat} (ht : Tryz.prog.underlying T = some (.slice E)) (hinf : (Tryz.prog.info? E).map (fun i => (i.zero, i.size, i.bytes)) = some (some z, size, bytes)) (hzs : z.cells.size = size) (hsz : 0 < size)
 (w : World) {ops : Array Oper} {rest : List Oper} {o : Oper} {a : Act} {Q : Exit -> Act -> World -> Prop}
 (hg : o.guard = none) (s x : Operand) (hop : o.op = Op.call { callee := Callee.builtin Builtin.append, args := #[s, x], argTypes := #[T, T] })
 (base : Nat) (v : Value) (k : Nat) (xs : List Value) (hs : a.eval s = v) (hown : w.ownsRow base E size v k xs) (b off m c : Nat) (ys : List Value) (hx : a.eval x = .slice (some ⟨b, off, none⟩) m c)
 (hy : ys.length = m * size) (hc : ∀ j u, ys[j]? = some u -> w.cell? ⟨b, off + j, none⟩ = some u) (h1 : ∀ u ∈ ys, u.oneCell' = true) (h63 : k + m <= 70368744177663) (hbytes : (k + m) * bytes <= 140737488355328) (hb : base <= w.heap.size)
 (hK : ∀ v' w', w'.ownsRow base E size v' (k + m) (xs ++ ys) -> w.grownBy w' v.ownBlock -> (v'.ownBlock = v.ownBlock ∨ v'.ownBlock = some w.heap.size) -> (v' = .slice none 0 0 ↔ v = .slice none 0 0 /\ m = 0) -> wpList Tryz.prog ops Q rest (a.put o.dst v') w') :
 wpList Tryz.prog ops Q (o :: rest) a w := by
 obtain ⟨i0, hi, hz0, hz1, hz2⟩ := inf_parts hinf
 have hnews : ∀ j u, ys[j]? = some u -> w.cell? ((⟨b, off, none⟩ : Addr).add j) = some u := fun j u hu => by rw [add_plain]; exact hc j u hu
 obtain ⟨v', w', hrun, r1, r2, r3⟩ := run_append_own (P := Tryz.prog) w base T o.type _ i0 _ size bytes ht hi hz0 hz1 hz2 hzs hsz v k xs hown ⟨b, off, none⟩ m c ys hy hnews h1 (by unfold maxLen; omega) hbytes hb
 have r4 := append_blk (P := Tryz.prog) w base T o.type _ i0 _ size bytes ht hi hz0 hz1 hz2 v k xs hown ⟨b, off, none⟩ m c ys hy hnews h1 (by unfold maxLen; omega) hbytes hrun
 exact wpList_run v' hg (exec_app s x _ v _ hop hs hx hrun) (hK v' w' r1 r2 r4 r3)
theorem step_append_vals {T E : TypeId} {z : Value} {size bytes : Nat} (ht : Tryz.prog.underlying T = some (.slice E)) (hinf : (Tryz.prog.info? E).map (fun i => (i.zero, i.size, i.bytes)) = some (some z, size, bytes)) (hzs : z.cells.size = size) (hsz : 0 < size)
 {ops : Array Oper} {o : Oper} {a : Act} {w : World} {K : Act -> World -> Prop} {Q : Exit -> Act -> World -> Prop} {Els : Prop}
 (hg : o.guard = none) (s x : Operand) (hop : o.op = Op.call { callee := Callee.builtin Builtin.append, args := #[s, x], argTypes := #[T, T] })
 (base : Nat) (v : Value) (k : Nat) (xs : List Value) (hs : a.eval s = v) (hown : w.ownsRow base E size v k xs) (b off m c : Nat) (ys : List Value) (hx : a.eval x = .slice (some ⟨b, off, none⟩) m c)
 (hy : ys.length = m * size) (hc : ∀ j u, ys[j]? = some u -> w.cell? ⟨b, off + j, none⟩ = some u) (h1 : ∀ u ∈ ys, u.oneCell' = true) (h63 : k + m <= 70368744177663) (hbytes : (k + m) * bytes <= 140737488355328) (hb : base <= w.heap.size)
 (hK : ∀ v' w', w'.ownsRow base E size v' (k + m) (xs ++ ys) -> w.grownBy w' v.ownBlock -> (v'.ownBlock = v.ownBlock ∨ v'.ownBlock = some w.heap.size) -> (v' = .slice none 0 0 ↔ v = .slice none 0 0 /\ m = 0) -> K (a.put o.dst v') w') :
 if Region.wanted o (yielded ops a.tmps) = true then Oper.wp Tryz.prog o a w K Q else Els := by
 have hw : Region.wanted o (yielded ops a.tmps) = true := by simp [Region.wanted, hg]
 rw [if_pos hw]
 obtain ⟨i0, hi, hz0, hz1, hz2⟩ := inf_parts hinf
 have hnews : ∀ j u, ys[j]? = some u -> w.cell? ((⟨b, off, none⟩ : Addr).add j) = some u := fun j u hu => by rw [add_plain]; exact hc j u hu
 obtain ⟨v', w', hrun, r1, r2, r3⟩ := run_append_own (P := Tryz.prog) w base T o.type _ i0 _ size bytes ht hi hz0 hz1 hz2 hzs hsz v k xs hown ⟨b, off, none⟩ m c ys hy hnews h1 (by unfold maxLen; omega) hbytes hb
 have r4 := append_blk (P := Tryz.prog) w base T o.type _ i0 _ size bytes ht hi hz0 hz1 hz2 v k xs hown ⟨b, off, none⟩ m c ys hy hnews h1 (by unfold maxLen; omega) hbytes hrun
 unfold Oper.wp
 simp [execOp, hop, resolve, invoke, builtin, hs, hx, hrun, Result.andThen]
 exact hK _ _ r1 r2 r4 r3
theorem run_append_none {P : Program} (w : World) (base : Nat) (t ty e : TypeId) (i : TypeInfo) (size : Nat) (ht : P.underlying t = some (.slice e)) (hi : P.info? e = some i) (v : Value) (k : Nat) (xs : List Value) (hown : w.ownsRow base e size v k xs) (c : Nat) :
 (Builtin.append_ #[t, t] ty #[v, .slice none 0 c]).run P w = .ok v w := by
 rcases hown.2 with ⟨rfl, rfl⟩ | ⟨g, cap, cur, rfl, hbg, hg, hnc, hcm, hcs, htake⟩
 · simp [Builtin.append_, run_underlying ht, sizeOf, typeInfo, hi, Builtin.lenOf, run_firstCells_none]
 · simp [Builtin.append_, run_underlying ht, sizeOf, typeInfo, hi, Builtin.lenOf, hnc, run_firstCells_none, storeCells]
theorem run_append_opt {T E : TypeId} {z : Value} {size bytes : Nat} (ht : Tryz.prog.underlying T = some (.slice E)) (hinf : (Tryz.prog.info? E).map (fun i => (i.zero, i.size, i.bytes)) = some (some z, size, bytes)) (hzs : z.cells.size = size) (hsz : 0 < size)
 (w : World) (ty : TypeId) (base : Nat) (v : Value) (k : Nat) (xs : List Value) (hown : w.ownsRow base E size v k xs) (ad : Option Addr) (m c : Nat) (ys : List Value)
 (hy : ys.length = m * size) (hc : ∀ j u, ys[j]? = some u -> ∃ b off, ad = some ⟨b, off, none⟩ /\ w.cell? ⟨b, off + j, none⟩ = some u) (h1 : ∀ u ∈ ys, u.oneCell' = true) (h63 : k + m <= 70368744177663) (hbytes : (k + m) * bytes <= 140737488355328) (hb : base <= w.heap.size) :
 ∃ v' w', (Builtin.append_ #[T, T] ty #[v, .slice ad m c]).run Tryz.prog w = .ok v' w' /\ w'.ownsRow base E size v' (k + m) (xs ++ ys) /\ w.grownBy w' v.ownBlock /\ (v'.ownBlock = v.ownBlock ∨ v'.ownBlock = some w.heap.size) /\ (v' = .slice none 0 0 ↔ v = .slice none 0 0 /\ m = 0) := by
 cases ad with
 | none =>
   have hy0 : ys = [] := by
    cases ys with
    | nil => rfl
    | cons y ys =>
      obtain ⟨b, off, e, _⟩ := hc 0 y rfl
      cases e
   subst hy0
   have hm : m = 0 := by
    rcases Nat.eq_zero_or_pos m with h | h
    · exact h
    · have h2 := Nat.mul_pos h hsz
      rw [<- hy] at h2
      exact absurd h2 (Nat.lt_irrefl _)
   subst hm
   obtain ⟨i0, hi, hz0, hz1, hz2⟩ := inf_parts hinf
   exact ⟨v, w, run_append_none (P := Tryz.prog) w base T ty _ i0 size ht hi v k xs hown c, by rw [Nat.add_zero, List.append_nil]; exact hown, ⟨rfl, rfl, rfl, Nat.le_refl _, fun _ _ _ => rfl⟩, .inl rfl, ⟨fun h => ⟨h, rfl⟩, fun h => h.1⟩⟩
 | some A =>
   have hnews : ∀ j u, ys[j]? = some u -> w.cell? (A.add j) = some u := fun j u hu => by
    obtain ⟨b, off, e, hq⟩ := hc j u hu
    rw [Option.some.inj e, add_plain]
    exact hq
   obtain ⟨i0, hi, hz0, hz1, hz2⟩ := inf_parts hinf
   obtain ⟨v', w', hrun, r1, r2, r3⟩ := run_append_own (P := Tryz.prog) w base T ty _ i0 _ size bytes ht hi hz0 hz1 hz2 hzs hsz v k xs hown A m c ys hy hnews h1 (by unfold maxLen; omega) hbytes hb
   have r4 := append_blk (P := Tryz.prog) w base T ty _ i0 _ size bytes ht hi hz0 hz1 hz2 v k xs hown A m c ys hy hnews h1 (by unfold maxLen; omega) hbytes hrun
   exact ⟨v', w', hrun, r1, r2, r4, r3⟩
theorem append_opt {T E : TypeId} {z : Value} {size bytes : Nat} (ht : Tryz.prog.underlying T = some (.slice E)) (hinf : (Tryz.prog.info? E).map (fun i => (i.zero, i.size, i.bytes)) = some (some z, size, bytes)) (hzs : z.cells.size = size) (hsz : 0 < size)
 (w : World) {ops : Array Oper} {rest : List Oper} {o : Oper} {a : Act} {Q : Exit -> Act -> World -> Prop}
 (hg : o.guard = none) (s x : Operand) (hop : o.op = Op.call { callee := Callee.builtin Builtin.append, args := #[s, x], argTypes := #[T, T] })
 (base : Nat) (v : Value) (k : Nat) (xs : List Value) (hs : a.eval s = v) (hown : w.ownsRow base E size v k xs) (ad : Option Addr) (m c : Nat) (ys : List Value) (hx : a.eval x = .slice ad m c)
 (hy : ys.length = m * size) (hc : ∀ j u, ys[j]? = some u -> ∃ b off, ad = some ⟨b, off, none⟩ /\ w.cell? ⟨b, off + j, none⟩ = some u) (h1 : ∀ u ∈ ys, u.oneCell' = true) (h63 : k + m <= 70368744177663) (hbytes : (k + m) * bytes <= 140737488355328) (hb : base <= w.heap.size)
 (hK : ∀ v' w', w'.ownsRow base E size v' (k + m) (xs ++ ys) -> w.grownBy w' v.ownBlock -> (v'.ownBlock = v.ownBlock ∨ v'.ownBlock = some w.heap.size) -> (v' = .slice none 0 0 ↔ v = .slice none 0 0 /\ m = 0) -> wpList Tryz.prog ops Q rest (a.put o.dst v') w') :
 wpList Tryz.prog ops Q (o :: rest) a w := by
 obtain ⟨v', w', hrun, r1, r2, r4, r3⟩ := run_append_opt ht hinf hzs hsz w o.type base v k xs hown ad m c ys hy hc h1 h63 hbytes hb
 exact wpList_run v' hg (exec_app s x _ v _ hop hs hx hrun) (hK v' w' r1 r2 r4 r3)
theorem append_block {P : Program} (w : World) (base : Nat) (t ty e : TypeId) (i : TypeInfo) (z : Value) (size bytes : Nat) (ht : P.underlying t = some (.slice e)) (hi : P.info? e = some i) (hz : i.zero = some z)
 (hsize : i.size = size) (hby : i.bytes = bytes) (v : Value) (n : Nat) (xs : List Value) (hown : w.ownsRow base e size v n xs)
 (a : Addr) (m c : Nat) (news : List Value) (hl : news.length = m * size) (hnews : ∀ j u, news[j]? = some u -> w.cell? (a.add j) = some u) (h1 : ∀ u ∈ news, u.oneCell' = true)
 (h63 : n + m <= maxLen) (hbytes : (n + m) * bytes <= 140737488355328) {v' : Value} {w' : World} (hrun : (Builtin.append_ #[t, t] ty #[v, .slice (some a) m c]).run P w = .ok v' w') : v'.ownBlock = v.ownBlock ∨ v'.ownBlock = some w.heap.size := by
 subst hsize
 subst hby
 have hsmall : n + m <= 9223372036854775807 := by simp only [maxLen] at h63; omega
 rcases hown.2 with ⟨rfl, rfl⟩ | ⟨g, cap, cur, rfl, hbg, hg, hnc, hcm, hcs, htake⟩
 · by_cases hm : m = 0
   · subst hm
     have hn : news = [] := List.eq_nil_of_length_eq_zero (by simpa using hl)
     subst hn
     simp [Builtin.append_, run_underlying ht, sizeOf, typeInfo, hi, Builtin.lenOf, Builtin.firstCells, loadCells, loadCellsFrom] at hrun
     rw [<- hrun.1]
     exact .inl rfl
   · have hr := run_append_nil (P := P) w t ty e i z ht hi hz a m c news hl hnews (by omega) (by omega) (by have hb := hbytes; simp only [Nat.zero_add] at hb; omega)
     rw [hr] at hrun
     injection hrun with e1 e2
     rw [<- e1]
     exact .inr rfl
 · by_cases hroom : n + m <= cap
   · have hfit : n * i.size + news.length <= cur.size := by rw [hl, hcs, <- Nat.add_mul]; exact Nat.mul_le_mul_right _ hroom
     have hr := run_append_room (P := P) w t ty e i ht hi g n cap cur hg a m c news hl hnews h1 hroom hfit
     rw [hr] at hrun
     injection hrun with e1 e2
     rw [<- e1]
     exact .inl rfl
   · have holds := hown.cells (g := g) rfl
     have hr := run_append_grow (P := P) w t ty e i z ht hi hz ⟨g, 0, none⟩ n cap xs hown.1 holds a m c news hl hnews (by omega) (by omega) (growslice_fits (by omega) hbytes)
     rw [hr] at hrun
     injection hrun with e1 e2
     rw [<- e1]
     exact .inr rfl
theorem exec_append' {P : Program} {o : Oper} {a : Act} {w w' : World} {v : Value} (s x : Operand) (t : TypeId) (vs vx : Value) (ho : o.op = .call { callee := .builtin .append, args := #[s, x], argTypes := #[t, t] })
 (hs : a.eval s = vs) (hx : a.eval x = vx) (hr : (Builtin.append_ #[t, t] o.type #[vs, vx]).run P w = .ok v w') : (execOp a.eval o).run P w = .ok (.value v) w' := by
 unfold execOp
 simp only [ho, resolve, invoke, builtin, Sem.run_bind, Sem.run_pure, Result.andThen_ok, List.map_toArray, List.map_cons, List.map_nil, hs, hx, hr]
theorem append_many (w : World) {ops : Array Oper} {rest : List Oper} {o : Oper} {a : Act} {Q : Exit -> Act -> World -> Prop}
 (hg : o.guard = none) (s x : Operand) (hop : o.op = Op.call { callee := Callee.builtin Builtin.append, args := #[s, x], argTypes := #[44, 44] })
 (base : Nat) (v : Value) (k : Nat) (xs : List Int) (hs : a.eval s = v) (hown : w.ownsRow base 2 1 v k (xs.map (Value.int .i64))) (b off m c : Nat) (ys : List Int) (hx : a.eval x = .slice (some ⟨b, off, none⟩) m c)
 (hy : ys.length = m) (hc : IntsAt w (some ⟨b, off, none⟩) ys) (b1 : k <= 1000) (b2 : m <= 1000) (hb : base <= w.heap.size)
 (hK : ∀ v' w', w'.ownsRow base 2 1 v' (k + m) ((xs ++ ys).map (Value.int .i64)) -> w.grownBy w' v.ownBlock -> (v'.ownBlock = v.ownBlock ∨ v'.ownBlock = some w.heap.size) -> (v' = .slice none 0 0 ↔ v = .slice none 0 0 /\ m = 0) -> wpList Tryz.prog ops Q rest (a.put o.dst v') w') :
 wpList Tryz.prog ops Q (o :: rest) a w := by
 obtain ⟨i0, hi, hz0, hz1, hz2⟩ := info_parts Tryz.info2
 have hnews : ∀ j u, (ys.map (Value.int .i64))[j]? = some u -> w.cell? ((⟨b, off, none⟩ : Addr).add j) = some u := by
  intro j u hu
  have hj : j < ys.length := by
   rcases Nat.lt_or_ge j ys.length with h' | h'
   · exact h'
   · simp [List.getElem?_eq_none (by simpa using h' : (ys.map (Value.int .i64)).length <= j)] at hu
  obtain ⟨b', off', e, hcc⟩ := hc j hj
  simp at e
  obtain ⟨rfl, rfl⟩ := e
  have hadd : (⟨b, off, none⟩ : Addr).add j = ⟨b, off + j, none⟩ := by unfold Addr.add; split <;> simp_all
  rw [hadd, hcc, <- hu]
  simp [List.getD, hj]
 have h1c : ∀ u ∈ ys.map (Value.int .i64), u.oneCell' = true := by simp [Value.oneCell']
 obtain ⟨v', w', hrun, r1, r2, r3⟩ := run_append_own (P := Tryz.prog) w base 44 o.type _ i0 _ 1 8 Tryz.underlying44 hi hz0 hz1 hz2 rfl (by decide) v k (xs.map (Value.int .i64)) hown ⟨b, off, none⟩ m c (ys.map (Value.int .i64)) (by simp [hy]) hnews h1c (by unfold maxLen; omega) (by omega) hb
 have r4 := append_block (P := Tryz.prog) w base 44 o.type _ i0 _ 1 8 Tryz.underlying44 hi hz0 hz1 hz2 v k (xs.map (Value.int .i64)) hown ⟨b, off, none⟩ m c (ys.map (Value.int .i64)) (by simp [hy]) hnews h1c (by unfold maxLen; omega) (by omega) hrun
 exact wpList_run v' hg (exec_append' s x _ v _ hop hs hx hrun) (hK v' w' (by rw [List.map_append]; exact r1) r2 r4 r3)
theorem own_sm {w : World} {base k : Nat} {v : Value} {e : TypeId} {size : Nat} {xs : List Value} (h : w.ownsRow base e size v k xs) (hne : v ≠ .slice none 0 0) : ∃ g c, v = .slice (some ⟨g, 0, none⟩) k c := by
 rcases own_shape h with e | e
 · exact absurd e hne
 · exact e
theorem not_nil {v v' : Value} {m : Nat} (h : v' = .slice none 0 0 ↔ v = .slice none 0 0 /\ m = 0) (hv : ∃ g n c, v = .slice (some ⟨g, 0, none⟩) n c) : v' ≠ .slice none 0 0 := by
 intro e
 obtain ⟨g, n, c, rfl⟩ := hv
 have := (h.1 e).1
 simp at this
theorem own_at {g n c k : Nat} (e : (Value.slice (some ⟨g, 0, none⟩) n c).ownBlock = some k) : g <= k := by
 have : g = k := by injection e
 omega
theorem but_own {S : Nat -> Prop} {w w' : World} {base size n : Nat} {e : TypeId} {v : Value} {xs : List Value} (h : GrownBut S w w') (ho : w.ownsRow base e size v n xs) (hs : ∀ b, v.ownBlock = some b -> ¬ S b) : w'.ownsRow base e size v n xs := by
 obtain ⟨h1, h2 | ⟨g, cap, cur, h2, h3, h4, h5⟩⟩ := ho
 · exact ⟨h1, .inl h2⟩
 · exact ⟨h1, .inr ⟨g, cap, cur, h2, h3, h.row h4 (hs g (by rw [h2]; rfl)), h5⟩⟩
def caseBl (zl ol vl : Value) (b : Nat) : Prop := zl.ownBlock = some b ∨ ol.ownBlock = some b ∨ vl.ownBlock = some b
end Go.Proofs.YtehfjfmfpdgibaaGreatDoor

namespace Go.Proofs.YtehfjfmfpdgibaaGreatDoor
end Go.Proofs.YtehfjfmfpdgibaaGreatDoor

namespace Go.Proofs.YtehfjfmfpdgibaaGreatDoor
open Go.RowKit
theorem infoI8 : (Tryz.prog.info? 2).map (fun i => (i.zero, i.size, i.bytes)) = some (some (Value.int .i64 0), 1, 8) := by kernel_rfl
theorem infoI8_parts : ∃ i0, Tryz.prog.info? 2 = some i0 /\ i0.zero = some (Value.int .i64 0) /\ i0.size = 1 /\ i0.bytes = 8 := by
 have h := infoI8
 cases hq : Tryz.prog.info? 2 with
 | none => rw [hq] at h; simp at h
 | some i0 =>
   rw [hq] at h
   simp only [Option.map_some, Option.some.injEq, Prod.mk.injEq] at h
   exact ⟨i0, rfl, h.1, h.2.1, h.2.2⟩
theorem ints_news {W : World} {b off : Nat} {ys : List Int} (h : IntsAt W (some ⟨b, off, none⟩) ys) : ∀ j u, (ys.map (Value.int .i64))[j]? = some u -> W.cell? ((⟨b, off, none⟩ : Addr).add j) = some u := by
 intro j u hu
 have hj : j < ys.length := by
  rcases Nat.lt_or_ge j ys.length with h' | h'
  · exact h'
  · simp [List.getElem?_eq_none (by simpa using h' : (ys.map (Value.int .i64)).length <= j)] at hu
 obtain ⟨b', off', e, hc⟩ := h j hj
 simp at e
 obtain ⟨rfl, rfl⟩ := e
 have hadd : (⟨b, off, none⟩ : Addr).add j = ⟨b, off + j, none⟩ := by unfold Addr.add; split <;> simp_all
 rw [hadd, hc, <- hu]
 simp [List.getD, hj]
theorem step_append_ints {ops : Array Oper} {o : Oper} {a : Act} {w : World} {K : Act -> World -> Prop} {Q : Exit -> Act -> World -> Prop} {E : Prop}
 (hg : o.guard = none) (s x : Operand) (hop : o.op = Op.call { callee := Callee.builtin Builtin.append, args := #[s, x], argTypes := #[44, 44] })
 (base : Nat) (v : Value) (xs : List Int) (k : Nat) (hs : a.eval s = v) (hown : w.ownsRow base 2 1 v k (xs.map (Value.int .i64))) (b off m c : Nat) (ys : List Int) (hx : a.eval x = .slice (some ⟨b, off, none⟩) m c)
 (hy : ys.length = m) (hc : IntsAt w (some ⟨b, off, none⟩) ys) (b1 : k <= 1000) (b2 : m <= 1000) (hb : base <= w.heap.size)
 (hK : ∀ v' w', w'.ownsRow base 2 1 v' (k + m) ((xs ++ ys).map (Value.int .i64)) -> w.grownBy w' v.ownBlock -> (v' = .slice none 0 0 ↔ v = .slice none 0 0 /\ m = 0) -> K (a.put o.dst v') w') :
 if Region.wanted o (yielded ops a.tmps) = true then Oper.wp Tryz.prog o a w K Q else E := by
 have hw : Region.wanted o (yielded ops a.tmps) = true := by simp [Region.wanted, hg]
 rw [if_pos hw]
 obtain ⟨i0, hi, hz0, hz1, hz2⟩ := infoI8_parts
 obtain ⟨v', w', hrun, r1, r2, r3⟩ := run_append_own (P := Tryz.prog) w base 44 o.type _ i0 _ 1 8 Tryz.underlying44 hi hz0 hz1 hz2 rfl (by decide) v k (xs.map (Value.int .i64)) hown ⟨b, off, none⟩ m c (ys.map (Value.int .i64)) (by simp [hy]) (ints_news hc) (by simp [Value.oneCell']) (by unfold maxLen; omega) (by omega) hb
 unfold Oper.wp
 simp [execOp, hop, resolve, invoke, builtin, hs, hx, hrun, Result.andThen]
 exact hK _ _ (by rw [List.map_append]; exact r1) r2 r3
def seqL (k : Int) (n : Nat) : List Int := (List.range n).map (fun i : Nat => k + (i : Int))
theorem seqL_len (k : Int) (n : Nat) : (seqL k n).length = n := by simp [seqL]
theorem seqL_at {k : Int} {n j : Nat} (h : j < n) : (seqL k n)[j]? = some (k + (j : Int)) := by simp [seqL, h]
theorem own_row_of {w : World} {base size n rc g : Nat} {e : TypeId} {xs : List Value} (h : w.ownsRow base e size (.slice (some ⟨g, 0, none⟩) n rc) n xs) : ∃ cur, w.heap[g]? = some (.cells cur e (0, 0)) /\ cur.size = rc * size /\ n <= rc /\ rc <= maxLen /\ base <= g := by
 obtain ⟨_, ⟨h1, _⟩ | ⟨g', cap, cur, h2, h3, h4, h5, h6, h7, _⟩⟩ := h
 · cases h1
 · simp only [Value.slice.injEq, Option.some.injEq, Addr.mk.injEq, and_true, true_and] at h2
   obtain ⟨rfl, rfl⟩ := h2
   exact ⟨cur, h4, h7, h5, h6, h3⟩
theorem mark_row {w w' : World} {base size n c g : Nat} {K : Int} {T : TypeId} {cur : Array Value} {xs : List Value} (h : w.ownsRow base T size (.slice (some ⟨g, 0, none⟩) n c) n xs) (hrow : w.heap[g]? = some (.cells cur T (0, 0))) (hr : w'.heap[g]? = some (.cells (markA cur K (n * size)) T (0, 0))) : w'.ownsRow base T size (.slice (some ⟨g, 0, none⟩) n c) n ((seqL K (n * size)).map (Value.int .i64)) := by
 obtain ⟨cur2, k1, k2, k3, k4, k5⟩ := own_row_of h
 rw [hrow] at k1
 simp only [Option.some.injEq, Obj.cells.injEq, and_true] at k1
 subst k1
 have hle : n * size <= cur.size := by rw [k2]; exact Nat.mul_le_mul_right _ k3
 refine ownV_of_cells hr (by rw [markA_size, k2]) k3 k4 k5 (by rw [List.length_map, seqL_len]) (fun j hj => ?_)
 rw [cell_of_row _ _ j _ _ _ hr, markA_get cur K (n * size) hle j hj, List.getElem?_map, seqL_at hj]
 rfl
set_option maxHeartbeats 1000000 in
theorem heldInt64S_any (g n cap : Nat) (k0 : Int) (w : World) (hc : ∀ j, j < n -> w.cell? ⟨g, j, none⟩ = some (.int .i64 (k0 + (j : Nat)))) (h0 : 0 <= k0) (h1 : k0 <= 1000000000000) (hn1 : n <= 10000000) :
 Calls Tryz.prog 56 #[.slice (some ⟨g, 0, none⟩) n cap, .int .i64 k0] w fun e w' => e = .returned (.int .i64 (k0 + ((n : Nat) : Int))) /\ w' = w := by
 have HC : Hid (∀ j, j < n -> w.cell? ⟨g, j, none⟩ = some (.int .i64 (k0 + (j : Nat)))) := hc
 clear hc
 go_enter Tryz.func56, Tryz.ntmps56
 go_wp2_with fail
 go_loop [1, 5] (fun kk t => ∃ k : Nat, k <= n /\ t = .int .i64 k /\ kk = .int .i64 (k0 + ((k : Nat) : Int))) (fun _ t => n - (intOf t).toNat)
 case atStart => exact ⟨0, Nat.zero_le _, rfl, by simp⟩
 case round =>
  obtain ⟨k, hk, rfl, rfl⟩ := hrel
  obtain ⟨K, HK⟩ := nmd (k0 + ((k : Nat) : Int))
  have hkb : 0 <= K /\ K <= 1000100000000 := by
   have := HK.out
   omega
  rw [HK.out]
  by_cases hlt : k < n
  · have HK1 : Hid (k0 + (((k + 1) : Nat) : Int) = K + 1) := by
     show _ = _
     have := HK.out
     omega
    have y0 := HC.out (k) (by omega)
    rw [show k0 + (((k : Nat)) : Int) = K by have := HK.out; omega] at y0
    go_wp2
    go_round
    case rel => exact ⟨k + 1, by omega, by go_num, by first | (rw [HK1.out]; go_num) | rw [HK1.out]⟩
    case measure => simp [intOf]; omega
  · have hkl : k = n := by omega
    subst hkl
    go_wp2
    go_ret
    exact ⟨ret_int HK.out.symm, rfl⟩
set_option maxHeartbeats 400000 in
theorem heldInt64S_nil (a : Option Addr) (cap : Nat) (k0 : Int) (w : World) :
 Calls Tryz.prog 56 #[.slice a 0 cap, .int .i64 k0] w fun e w' => e = .returned (.int .i64 k0) /\ w' = w := by
 go_enter Tryz.func56, Tryz.ntmps56
 go_wp2_with fail
 go_loop [1, 5] (fun kk t => t = .int .i64 0 /\ kk = .int .i64 k0) (fun _ _ => 0)
 case atStart => exact ⟨rfl, rfl⟩
 case round =>
  obtain ⟨rfl, rfl⟩ := hrel
  go_wp2
  go_ret
  exact ⟨rfl, rfl⟩
set_option maxHeartbeats 1000000 in
theorem heldOrderS_any (g n cap : Nat) (k0 : Int) (w : World) (hc : ∀ j, j < n * 6 -> w.cell? ⟨g, j, none⟩ = some (.int .i64 (k0 + (j : Nat)))) (h0 : 0 <= k0) (h1 : k0 <= 1000000000000) (hn1 : n <= 10000000) :
 Calls Tryz.prog 96 #[.slice (some ⟨g, 0, none⟩) n cap, .int .i64 k0] w fun e w' => e = .returned (.int .i64 (k0 + ((n * 6 : Nat) : Int))) /\ w' = w := by
 have HC : Hid (∀ j, j < n * 6 -> w.cell? ⟨g, j, none⟩ = some (.int .i64 (k0 + (j : Nat)))) := hc
 clear hc
 go_enter Tryz.func96, Tryz.ntmps96
 go_wp2_with fail
 go_loop [1, 5] (fun kk t => ∃ k : Nat, k <= n /\ t = .int .i64 k /\ kk = .int .i64 (k0 + ((k * 6 : Nat) : Int))) (fun _ t => n - (intOf t).toNat)
 case atStart => exact ⟨0, Nat.zero_le _, rfl, by simp⟩
 case round =>
  obtain ⟨k, hk, rfl, rfl⟩ := hrel
  obtain ⟨K, HK⟩ : ∃ t, Hid (k0 + ((k * 6 : Nat) : Int) = t) := ⟨_, rfl⟩
  have hkb : 0 <= K /\ K <= 1000100000000 := by
   have := HK.out
   omega
  rw [HK.out]
  by_cases hlt : k < n
  · have HK1 : Hid (k0 + ((((k + 1) * 6) : Nat) : Int) = K + 6) := by
     show _ = _
     have := HK.out
     omega
    have y0 := HC.out (k * 6) (by omega)
    have y1 := HC.out (k * 6 + 1) (by omega)
    have y2 := HC.out (k * 6 + 2) (by omega)
    have y3 := HC.out (k * 6 + 3) (by omega)
    have y4 := HC.out (k * 6 + 4) (by omega)
    have y5 := HC.out (k * 6 + 5) (by omega)
    rw [show k0 + (((k * 6 : Nat)) : Int) = K by have := HK.out; omega] at y0
    rw [show k0 + (((k * 6 + 1 : Nat)) : Int) = K + 1 by have := HK.out; omega] at y1
    rw [show k0 + (((k * 6 + 2 : Nat)) : Int) = K + 1 + 1 by have := HK.out; omega] at y2
    rw [show k0 + (((k * 6 + 3 : Nat)) : Int) = K + 1 + 1 + 1 by have := HK.out; omega] at y3
    rw [show k0 + (((k * 6 + 4 : Nat)) : Int) = K + 1 + 1 + 1 + 1 by have := HK.out; omega] at y4
    rw [show k0 + (((k * 6 + 5 : Nat)) : Int) = K + 1 + 1 + 1 + 1 + 1 by have := HK.out; omega] at y5
    go_wp2
    go_round
    case rel => exact ⟨k + 1, by omega, by go_num, by first | (rw [HK1.out]; go_num) | rw [HK1.out]⟩
    case measure => simp [intOf]; omega
  · have hkl : k = n := by omega
    subst hkl
    go_wp2
    go_ret
    exact ⟨ret_int HK.out.symm, rfl⟩
set_option maxHeartbeats 400000 in
theorem heldOrderS_nil (a : Option Addr) (cap : Nat) (k0 : Int) (w : World) :
 Calls Tryz.prog 96 #[.slice a 0 cap, .int .i64 k0] w fun e w' => e = .returned (.int .i64 k0) /\ w' = w := by
 go_enter Tryz.func96, Tryz.ntmps96
 go_wp2_with fail
 go_loop [1, 5] (fun kk t => t = .int .i64 0 /\ kk = .int .i64 k0) (fun _ _ => 0)
 case atStart => exact ⟨rfl, rfl⟩
 case round =>
  obtain ⟨rfl, rfl⟩ := hrel
  go_wp2
  go_ret
  exact ⟨rfl, rfl⟩
set_option maxHeartbeats 1000000 in
theorem heldVehicleS_any (g n cap : Nat) (k0 : Int) (w : World) (hc : ∀ j, j < n * 5 -> w.cell? ⟨g, j, none⟩ = some (.int .i64 (k0 + (j : Nat)))) (h0 : 0 <= k0) (h1 : k0 <= 1000000000000) (hn1 : n <= 10000000) :
 Calls Tryz.prog 97 #[.slice (some ⟨g, 0, none⟩) n cap, .int .i64 k0] w fun e w' => e = .returned (.int .i64 (k0 + ((n * 5 : Nat) : Int))) /\ w' = w := by
 have HC : Hid (∀ j, j < n * 5 -> w.cell? ⟨g, j, none⟩ = some (.int .i64 (k0 + (j : Nat)))) := hc
 clear hc
 go_enter Tryz.func97, Tryz.ntmps97
 go_wp2_with fail
 go_loop [1, 5] (fun kk t => ∃ k : Nat, k <= n /\ t = .int .i64 k /\ kk = .int .i64 (k0 + ((k * 5 : Nat) : Int))) (fun _ t => n - (intOf t).toNat)
 case atStart => exact ⟨0, Nat.zero_le _, rfl, by simp⟩
 case round =>
  obtain ⟨k, hk, rfl, rfl⟩ := hrel
  obtain ⟨K, HK⟩ : ∃ t, Hid (k0 + ((k * 5 : Nat) : Int) = t) := ⟨_, rfl⟩
  have hkb : 0 <= K /\ K <= 1000100000000 := by
   have := HK.out
   omega
  rw [HK.out]
  by_cases hlt : k < n
  · have HK1 : Hid (k0 + ((((k + 1) * 5) : Nat) : Int) = K + 5) := by
     show _ = _
     have := HK.out
     omega
    have y0 := HC.out (k * 5) (by omega)
    have y1 := HC.out (k * 5 + 1) (by omega)
    have y2 := HC.out (k * 5 + 2) (by omega)
    have y3 := HC.out (k * 5 + 3) (by omega)
    have y4 := HC.out (k * 5 + 4) (by omega)
    rw [show k0 + (((k * 5 : Nat)) : Int) = K by have := HK.out; omega] at y0
    rw [show k0 + (((k * 5 + 1 : Nat)) : Int) = K + 1 by have := HK.out; omega] at y1
    rw [show k0 + (((k * 5 + 2 : Nat)) : Int) = K + 1 + 1 by have := HK.out; omega] at y2
    rw [show k0 + (((k * 5 + 3 : Nat)) : Int) = K + 1 + 1 + 1 by have := HK.out; omega] at y3
    rw [show k0 + (((k * 5 + 4 : Nat)) : Int) = K + 1 + 1 + 1 + 1 by have := HK.out; omega] at y4
    go_wp2
    go_round
    case rel => exact ⟨k + 1, by omega, by go_num, by first | (rw [HK1.out]; go_num) | rw [HK1.out]⟩
    case measure => simp [intOf]; omega
  · have hkl : k = n := by omega
    subst hkl
    go_wp2
    go_ret
    exact ⟨ret_int HK.out.symm, rfl⟩
set_option maxHeartbeats 400000 in
theorem heldVehicleS_nil (a : Option Addr) (cap : Nat) (k0 : Int) (w : World) :
 Calls Tryz.prog 97 #[.slice a 0 cap, .int .i64 k0] w fun e w' => e = .returned (.int .i64 k0) /\ w' = w := by
 go_enter Tryz.func97, Tryz.ntmps97
 go_wp2_with fail
 go_loop [1, 5] (fun kk t => t = .int .i64 0 /\ kk = .int .i64 k0) (fun _ _ => 0)
 case atStart => exact ⟨rfl, rfl⟩
 case round =>
  obtain ⟨rfl, rfl⟩ := hrel
  go_wp2
  go_ret
  exact ⟨rfl, rfl⟩
end Go.Proofs.YtehfjfmfpdgibaaGreatDoor
