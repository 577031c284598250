import Derived.Test.YtkmghjogmedpbaaPack0
import Derived.Test.YtkmghjogmedpbaaPack1
import Derived.WalkKit
namespace Go.Proofs.Ytkmghjogmedpbaa
open Go.RowKit

set_option maxHeartbeats 1000000 in
theorem markVehicleS_any (g n cap : Nat) (k0 : Int) (cur : Array Value) (T : TypeId) (w : World) (hrow0 : w.heap[g]? = some (.cells cur T (0, 0))) (hn : n * 5 ≤ cur.size) (h0 : 0 ≤ k0) (h1 : k0 ≤ 1000000000000) (hn1 : n ≤ 10000000) :
    Calls Try.prog 49 #[.slice (some ⟨g, 0, none⟩) n cap, .int .i64 k0] w fun e w' => e = .returned (.int .i64 (k0 + ((n * 5 : Nat) : Int))) ∧ w.grownBy w' (some g) ∧ w'.heap[g]? = some (.cells (markA cur k0 (n * 5)) T (0, 0)) := by
  have HR0 : Hid (w.heap[g]? = some (.cells cur T (0, 0))) := hrow0
  clear hrow0
  go_enter Try.func49, Try.ntmps49
  go_wp2_with fail
  go_loopw [1, 5] (fun kk t wr => ∃ k : Nat, k ≤ n ∧ t = .int .i64 k ∧ kk = .int .i64 (k0 + ((k * 5 : Nat) : Int)) ∧ w.grownBy wr (some g) ∧ wr.heap[g]? = some (.cells (markA cur k0 (k * 5)) T (0, 0))) (fun _ t _ => n - (intOf t).toNat)
  case atStart => exact ⟨0, Nat.zero_le _, rfl, by simp, grown_refl _ _, HR0.out⟩
  case round =>
    obtain ⟨k, hk, rfl, rfl, hg, hrow⟩ := hrel
    have HG : Hid (w.grownBy wr (some g)) := hg
    clear hg
    obtain ⟨K, HK⟩ : ∃ t, Hid (k0 + ((k * 5 : Nat) : Int) = t) := ⟨_, rfl⟩
    have hkb : 0 ≤ K ∧ K ≤ 1000100000000 := by
      have := HK.out
      omega
    rw [HK.out]
    by_cases hlt : k < n
    · have fz := fun i => frozen_of_row _ _ i _ _ hrow
      obtain ⟨z0, y0⟩ := row_some hrow (j := k * 5) (by rw [markA_size]; omega)
      obtain ⟨z1, y1⟩ := row_some hrow (j := k * 5 + 1) (by rw [markA_size]; omega)
      obtain ⟨z2, y2⟩ := row_some hrow (j := k * 5 + 2) (by rw [markA_size]; omega)
      obtain ⟨z3, y3⟩ := row_some hrow (j := k * 5 + 3) (by rw [markA_size]; omega)
      obtain ⟨z4, y4⟩ := row_some hrow (j := k * 5 + 4) (by rw [markA_size]; omega)
      have HROW : Hid ((World.heap (World.setCell (World.setCell (World.setCell (World.setCell (World.setCell wr ⟨g, k * 5, none⟩ (Value.int IntKind.i64 K)) ⟨g, k * 5 + 1, none⟩ (Value.int IntKind.i64 (K + 1))) ⟨g, k * 5 + 2, none⟩ (Value.int IntKind.i64 (K + 1 + 1))) ⟨g, k * 5 + 3, none⟩ (Value.int IntKind.i64 (K + 1 + 1 + 1))) ⟨g, k * 5 + 4, none⟩ (Value.int IntKind.i64 (K + 1 + 1 + 1 + 1))))[g]? = some (.cells (markA cur k0 (((k + 1) * 5))) T (0, 0))) := by
        show _ = _
        rw [show (k + 1) * 5 = k * 5 + 1 + 1 + 1 + 1 + 1 by omega]
        exact (mark_step (mark_step (mark_step (mark_step (mark_step hrow (by have := HK.out; omega)) (by have := HK.out; omega)) (by have := HK.out; omega)) (by have := HK.out; omega)) (by have := HK.out; omega))
      have HGR : Hid (w.grownBy (World.setCell (World.setCell (World.setCell (World.setCell (World.setCell wr ⟨g, k * 5, none⟩ (Value.int IntKind.i64 K)) ⟨g, k * 5 + 1, none⟩ (Value.int IntKind.i64 (K + 1))) ⟨g, k * 5 + 2, none⟩ (Value.int IntKind.i64 (K + 1 + 1))) ⟨g, k * 5 + 3, none⟩ (Value.int IntKind.i64 (K + 1 + 1 + 1))) ⟨g, k * 5 + 4, none⟩ (Value.int IntKind.i64 (K + 1 + 1 + 1 + 1))) (some g)) := (grown_trans (grown_trans (grown_trans (grown_trans (grown_trans HG.out (grown_set _ _ _ _)) (grown_set _ _ _ _)) (grown_set _ _ _ _)) (grown_set _ _ _ _)) (grown_set _ _ _ _))
      have HK1 : Hid (k0 + ((((k + 1) * 5) : Nat) : Int) = K + 5) := by
        show _ = _
        have := HK.out
        omega
      clear hrow
      go_wp2
      go_roundw
      case rel => exact ⟨k + 1, by omega, by go_num, by first | (rw [HK1.out]; go_num) | rw [HK1.out], HGR.out, HROW.out⟩
      case measure => simp [intOf]; omega
    · have hkl : k = n := by omega
      subst hkl
      have HROW : Hid (wr.heap[g]? = _) := hrow
      clear hrow
      go_wp2
      go_ret
      exact ⟨ret_int HK.out.symm, HG.out, HROW.out⟩

set_option maxHeartbeats 400000 in
theorem markVehicleS_nil (a : Option Addr) (cap : Nat) (k0 : Int) (w : World) :
    Calls Try.prog 49 #[.slice a 0 cap, .int .i64 k0] w fun e w' => e = .returned (.int .i64 k0) ∧ w' = w := by
  go_enter Try.func49, Try.ntmps49
  go_wp2_with fail
  go_loop [1, 5] (fun kk t => t = .int .i64 0 ∧ kk = .int .i64 k0) (fun _ _ => 0)
  case atStart => exact ⟨rfl, rfl⟩
  case round =>
    obtain ⟨rfl, rfl⟩ := hrel
    go_wp2
    go_ret
    exact ⟨rfl, rfl⟩

end Go.Proofs.Ytkmghjogmedpbaa

namespace Go.Proofs.Ytkmghjogmedpbaa
open Go.RowKit

/-- w' is w with new blocks, and with writes to the blocks of S alone. -/
structure GrownBut (S : Nat → Prop) (w w' : World) : Prop where
  os : w'.os = w.os
  tape : w'.tape = w.tape
  output : w'.output = w.output
  size : w.heap.size ≤ w'.heap.size
  block : ∀ b, b < w.heap.size → ¬ S b → w'.heap[b]? = w.heap[b]?
theorem GrownBut.of_below {S : Nat → Prop} {w w' : World} (h : Below w.heap.size w w') : GrownBut S w w' := ⟨h.os, h.tape, h.output, h.size, fun b hb _ => h.block b hb⟩
theorem GrownBut.of_grown {S : Nat → Prop} {w w' : World} {g : Nat} (h : w.grownBy w' (some g)) (hs : S g) : GrownBut S w w' := ⟨h.os, h.tape, h.output, h.size, fun b hb hn => h.block b hb (fun e => by cases e; exact hn hs)⟩
theorem GrownBut.trans {S : Nat → Prop} {w w1 w2 : World} (h : GrownBut S w w1) (k : GrownBut S w1 w2) : GrownBut S w w2 :=
  ⟨k.os.trans h.os, k.tape.trans h.tape, k.output.trans h.output, Nat.le_trans h.size k.size, fun b hb hn => (k.block b (Nat.lt_of_lt_of_le hb h.size) hn).trans (h.block b hb hn)⟩
theorem GrownBut.mono {S S' : Nat → Prop} {w w' : World} (h : GrownBut S w w') (hs : ∀ b, S b → S' b) : GrownBut S' w w' := ⟨h.os, h.tape, h.output, h.size, fun b hb hn => h.block b hb (fun x => hn (hs b x))⟩
theorem GrownBut.below {S : Nat → Prop} {w w' : World} {B : Nat} (h : GrownBut S w w') (hB : B ≤ w.heap.size) (hs : ∀ b, S b → B ≤ b) : Below B w w' :=
  ⟨h.os, h.tape, h.output, h.size, fun b hb => h.block b (by omega) (fun x => by have := hs b x; omega)⟩
theorem GrownBut.row {S : Nat → Prop} {w w' : World} {k : Nat} {o : Obj} (h : GrownBut S w w') (hr : w.heap[k]? = some o) (hn : ¬ S k) : w'.heap[k]? = some o := (h.block k (row_lt hr) hn).trans hr
theorem GrownBut.owns {S : Nat → Prop} {w w' : World} {base size k : Nat} {e : TypeId} {v : Value} {xs : List Value} (h : GrownBut S w w') (ho : w.ownsRow base e size v k xs) (hs : ∀ b, S b → b < base) : w'.ownsRow base e size v k xs := by
  obtain ⟨h1, h2 | ⟨g, cap, cur, h2, h3, h4, h5⟩⟩ := ho
  · exact ⟨h1, .inl h2⟩
  · exact ⟨h1, .inr ⟨g, cap, cur, h2, h3, h.row h4 (fun x => by have := hs g x; omega), h5⟩⟩
theorem type_ne {w : World} {g k : Nat} {c1 c2 : Array Value} {T1 T2 : TypeId} (h1 : w.heap[g]? = some (.cells c1 T1 (0, 0))) (h2 : w.heap[k]? = some (.cells c2 T2 (0, 0))) (hT : T1 ≠ T2) : g ≠ k := by
  intro e
  rw [e, h2] at h1
  cases h1
  exact hT rfl

set_option maxHeartbeats 400000 in
theorem markMat_any (n k0 : Int) (g cap : Nat) (zs : List Int) (w : World) (hrow : w.heap[g]? = some (.cells (cellsOf zs) 2 (0, 0))) (h0 : 0 ≤ k0) (h1 : k0 ≤ 100000000) (hl : zs.length ≤ 1048576) :
    Calls Try.prog 47 #[.agg #[.int .i64 n, .slice (some ⟨g, 0, none⟩) zs.length cap], .int .i64 k0] w fun e w' => e = .returned (.int .i64 (k0 + (zs.length : Int))) ∧ GrownBut (fun b => b = g) w w' := by
  have HB0 : Hid (Below w.heap.size w (w.alloc (Obj.cells #[Value.int IntKind.i64 n, Value.slice (some ⟨g, 0, none⟩) zs.length cap] 36))) := (Below.refl _ _).alloc (Nat.le_refl _) _
  have HR : Hid (w.heap[g]? = _) := hrow
  clear hrow
  go_enter Try.func47, Try.ntmps47
  go_wp2_with fail
  refine (markInt64S_any g zs.length cap k0 (cellsOf zs) _ _ (below_row HB0.out (row_lt HR.out) HR.out) (by rw [cellsOf_size]; exact Nat.le_refl _) h0 (by omega) (by omega)).mono ?_
  rintro e w1 ⟨rfl, hg, _⟩
  have HG : Hid (GrownBut (fun b => b = g) w w1) := (GrownBut.of_below HB0.out).trans (GrownBut.of_grown hg rfl)
  clear hg
  go_wp2
  go_ret
  exact ⟨rfl, HG.out⟩

set_option maxHeartbeats 400000 in
theorem markRoute_any (veh k0 : Int) (g cap : Nat) (ids : List Int) (w : World) (hrow : w.heap[g]? = some (.cells (cellsOf ids) 2 (0, 0))) (h0 : 0 ≤ k0) (h1 : k0 ≤ 100000000) (hl : ids.length ≤ 1048576) :
    Calls Try.prog 18 #[.agg #[.int .i64 veh, .slice (some ⟨g, 0, none⟩) ids.length cap], .int .i64 k0] w fun e w' => e = .returned (.int .i64 (k0 + (ids.length : Int))) ∧ GrownBut (fun b => b = g) w w' := by
  have HB0 : Hid (Below w.heap.size w (w.alloc (Obj.cells #[Value.int IntKind.i64 veh, Value.slice (some ⟨g, 0, none⟩) ids.length cap] 33))) := (Below.refl _ _).alloc (Nat.le_refl _) _
  have HR : Hid (w.heap[g]? = _) := hrow
  clear hrow
  go_enter Try.func18, Try.ntmps18
  go_wp2_with fail
  refine (markInt64S_any g ids.length cap k0 (cellsOf ids) _ _ (below_row HB0.out (row_lt HR.out) HR.out) (by rw [cellsOf_size]; exact Nat.le_refl _) h0 (by omega) (by omega)).mono ?_
  rintro e w1 ⟨rfl, hg, _⟩
  have HG : Hid (GrownBut (fun b => b = g) w w1) := (GrownBut.of_below HB0.out).trans (GrownBut.of_grown hg rfl)
  clear hg
  go_wp2
  go_ret
  exact ⟨rfl, HG.out⟩

set_option maxHeartbeats 1000000 in
theorem markCase_any (n fine : Int) (g go gv cap ko co kv cv : Nat) (zs os vs : List Int) (w : World) (hC : CaseAt w g go gv zs os vs) (hlo : os.length = ko * 6) (hlv : vs.length = kv * 5) (hz : zs.length ≤ 1048576) (hko : ko ≤ 1048576) (hkv : kv ≤ 1048576) :
    Calls Try.prog 17 #[.agg #[.int .i64 n, .slice (some ⟨g, 0, none⟩) zs.length cap, .slice (some ⟨go, 0, none⟩) ko co, .slice (some ⟨gv, 0, none⟩) kv cv, .int .i64 fine], .int .i64 1] w fun e w' => ∃ k', e = .returned (.int .i64 k') ∧ 0 ≤ k' ∧ k' ≤ 50000000 ∧ GrownBut (fun b => b = g ∨ b = go ∨ b = gv) w w' := by
  have HB0 : Hid (Below w.heap.size w (w.alloc (Obj.cells #[Value.int IntKind.i64 n, Value.slice (some ⟨g, 0, none⟩) zs.length cap, Value.slice (some ⟨go, 0, none⟩) ko co, Value.slice (some ⟨gv, 0, none⟩) kv cv, Value.int IntKind.i64 fine] 40))) := (Below.refl _ _).alloc (Nat.le_refl _) _
  have HP0 : Hid ((w.alloc (Obj.cells #[Value.int IntKind.i64 n, Value.slice (some ⟨g, 0, none⟩) zs.length cap, Value.slice (some ⟨go, 0, none⟩) ko co, Value.slice (some ⟨gv, 0, none⟩) kv cv, Value.int IntKind.i64 fine] 40)).heap[w.heap.size]? = _) := heap_alloc_new _ _
  have HC : Hid (CaseAt (w.alloc (Obj.cells #[Value.int IntKind.i64 n, Value.slice (some ⟨g, 0, none⟩) zs.length cap, Value.slice (some ⟨go, 0, none⟩) ko co, Value.slice (some ⟨gv, 0, none⟩) kv cv, Value.int IntKind.i64 fine] 40)) g go gv zs os vs) := hC.below HB0.out
  have HLO : Hid (os.length = ko * 6) := hlo
  have HLV : Hid (vs.length = kv * 5) := hlv
  clear hC hlo hlv
  go_enter Try.func17, Try.ntmps17
  obtain ⟨c0, c1, c2, c3, c4⟩ := cells5 HP0.out
  go_wp2_with fail
  clear c0 c1 c2 c3 c4
  have n1 : Hid (go ≠ g ∧ gv ≠ g ∧ gv ≠ go) := ⟨type_ne HC.out.2.1 HC.out.1 (by decide), type_ne HC.out.2.2 HC.out.1 (by decide), type_ne HC.out.2.2 HC.out.2.1 (by decide)⟩
  have n2 : Hid (w.heap.size ≠ g ∧ w.heap.size ≠ go ∧ w.heap.size ≠ gv) := ⟨type_ne HP0.out HC.out.1 (by decide), type_ne HP0.out HC.out.2.1 (by decide), type_ne HP0.out HC.out.2.2 (by decide)⟩
  refine (markMat_any n 1 g cap zs _ HC.out.1 (by omega) (by omega) hz).mono ?_
  rintro e w1 ⟨rfl, hg⟩
  have G1 : Hid (GrownBut (fun b => b = g ∨ b = go ∨ b = gv) w w1) := (GrownBut.of_below HB0.out).trans (hg.mono (fun b e => .inl e))
  have P1 : Hid (w1.heap[w.heap.size]? = _) := hg.row HP0.out n2.out.1
  have R1 : Hid (w1.heap[go]? = _) := hg.row HC.out.2.1 n1.out.1
  have V1 : Hid (w1.heap[gv]? = _) := hg.row HC.out.2.2 n1.out.2.1
  clear hg HB0 HP0 HC
  obtain ⟨c0, c1, c2, c3, c4⟩ := cells5 P1.out
  obtain ⟨k1, HK1⟩ : ∃ t, Hid ((1 : Int) + (zs.length : Int) = t) := ⟨_, rfl⟩
  have hk1 : 0 ≤ k1 ∧ k1 ≤ 2000000 := by have := HK1.out; omega
  rw [HK1.out]
  go_wp2_with fail
  clear c0 c1 c2 c3 c4
  refine (markOrderS_any go ko co k1 (cellsOf os) _ _ R1.out (by rw [cellsOf_size, HLO.out]; exact Nat.le_refl _) (by omega) (by omega) (by omega)).mono ?_
  rintro e w2 ⟨rfl, hg, _⟩
  have hg2 : GrownBut (fun b => b = go) w1 w2 := GrownBut.of_grown hg rfl
  have G2 : Hid (GrownBut (fun b => b = g ∨ b = go ∨ b = gv) w w2) := G1.out.trans (hg2.mono (fun b e => .inr (.inl e)))
  have P2 : Hid (w2.heap[w.heap.size]? = _) := hg2.row P1.out n2.out.2.1
  have V2 : Hid (w2.heap[gv]? = _) := hg2.row V1.out n1.out.2.2
  clear hg hg2 G1 P1 R1 V1
  obtain ⟨c0, c1, c2, c3, c4⟩ := cells5 P2.out
  obtain ⟨k2, HK2⟩ : ∃ t, Hid (k1 + ((ko * 6 : Nat) : Int) = t) := ⟨_, rfl⟩
  have hk2 : 0 ≤ k2 ∧ k2 ≤ 10000000 := by have := HK2.out; omega
  rw [HK2.out]
  go_wp2_with fail
  clear c0 c1 c2 c3 c4
  refine (markVehicleS_any gv kv cv k2 (cellsOf vs) _ _ V2.out (by rw [cellsOf_size, HLV.out]; exact Nat.le_refl _) (by omega) (by omega) (by omega)).mono ?_
  rintro e w3 ⟨rfl, hg, _⟩
  have G3 : Hid (GrownBut (fun b => b = g ∨ b = go ∨ b = gv) w w3) := G2.out.trans (GrownBut.of_grown hg (.inr (.inr rfl)))
  clear hg
  obtain ⟨k3, HK3⟩ : ∃ t, Hid (k2 + ((kv * 5 : Nat) : Int) = t) := ⟨_, rfl⟩
  have hk3 : 0 ≤ k3 ∧ k3 ≤ 50000000 := by have := HK3.out; omega
  rw [HK3.out]
  go_wp2
  go_ret
  exact ⟨k3, rfl, hk3.1, hk3.2, G3.out⟩

end Go.Proofs.Ytkmghjogmedpbaa

namespace Go.Proofs.Ytkmghjogmedpbaa
open Go.RowKit

theorem noneToI6_step {zs : List Int} {id : Int} {k : Nat} (h : ∀ j, j < k → og6 zs j 0 ≠ id) (hk : og6 zs k 0 ≠ id) : ∀ j, j < k + 1 → og6 zs j 0 ≠ id := by
  intro j hj
  by_cases e : j = k
  · rw [e]; exact hk
  · exact h j (by omega)

set_option maxHeartbeats 1000000 in
theorem findOrder_any (n fine id : Int) (a ao av : Option Addr) (lt cap ko co kv cv : Nat) (zs : List Int) (w : World) (hA : IntsAt w ao zs) (hl : zs.length = ko * 6) (hlen : ko ≤ 9223372036854775807) :
    Calls Try.prog 111 #[.agg #[.int .i64 n, .slice a lt cap, .slice ao ko co, .slice av kv cv, .int .i64 fine], .int .i64 id] w fun e w' => e = .returned (.tuple #[.agg #[.int .i64 (fnd6F zs ko id 0), .int .i64 (fnd6F zs ko id 1), .int .i64 (fnd6F zs ko id 2), .int .i64 (fnd6F zs ko id 3), .int .i64 (fnd6F zs ko id 4), .int .i64 (fnd6F zs ko id 5)], .bool (fnd6T zs ko id)]) ∧ Below w.heap.size w w' := by
  have HB0 : Hid (Below w.heap.size w ((w.alloc (Obj.cells #[Value.int IntKind.i64 n, Value.slice a lt cap, Value.slice ao ko co, Value.slice av kv cv, Value.int IntKind.i64 fine] 40)).alloc (Obj.cells #[Value.int IntKind.i64 0, Value.int IntKind.i64 0, Value.int IntKind.i64 0, Value.int IntKind.i64 0, Value.int IntKind.i64 0, Value.int IntKind.i64 0] 108))) := ((Below.refl _ _).alloc (Nat.le_refl _) _).alloc (by simp) _
  have HA : Hid (IntsAt w ao zs) := hA
  have HL : Hid (zs.length = ko * 6) := hl
  clear hA hl
  go_enter Try.func111, Try.ntmps111
  go_wp2_with fail
  have Q0 : Hid (((w.alloc (Obj.cells #[Value.int IntKind.i64 n, Value.slice a lt cap, Value.slice ao ko co, Value.slice av kv cv, Value.int IntKind.i64 fine] 40)).alloc (Obj.cells #[Value.int IntKind.i64 0, Value.int IntKind.i64 0, Value.int IntKind.i64 0, Value.int IntKind.i64 0, Value.int IntKind.i64 0, Value.int IntKind.i64 0] 108)).heap[w.heap.size + 1]? = _) := heap_alloc2_new _ _ _
  generalize (w.alloc (Obj.cells #[Value.int IntKind.i64 n, Value.slice a lt cap, Value.slice ao ko co, Value.slice av kv cv, Value.int IntKind.i64 fine] 40)).alloc (Obj.cells #[Value.int IntKind.i64 0, Value.int IntKind.i64 0, Value.int IntKind.i64 0, Value.int IntKind.i64 0, Value.int IntKind.i64 0, Value.int IntKind.i64 0] 108) = W at *
  go_loopw [11] (fun t wr => ∃ k : Nat, k ≤ ko ∧ t = .int .i64 k ∧ (∀ j, j < k → og6 zs j 0 ≠ id) ∧ Below w.heap.size w wr ∧ wr.heap[w.heap.size + 1]? = some (.cells #[Value.int IntKind.i64 0, Value.int IntKind.i64 0, Value.int IntKind.i64 0, Value.int IntKind.i64 0, Value.int IntKind.i64 0, Value.int IntKind.i64 0] 108 (0, 0))) (fun t _ => ko - (intOf t).toNat)
  case atStart => exact ⟨0, Nat.zero_le _, rfl, fun j hj => by omega, HB0.out, Q0.out⟩
  case round =>
    clear HB0 Q0
    obtain ⟨k, hk, rfl, hno, hb, hq⟩ := hrel
    have HN : Hid (∀ j, j < k → og6 zs j 0 ≠ id) := hno
    have HB : Hid (Below w.heap.size w wr) := hb
    have HQ : Hid _ := hq
    obtain ⟨q0, q1, q2, q3, q4, q5⟩ := cells6 hq
    have f0 := fun i => frozen_of_row _ _ i _ _ hq
    have hqlt := row_lt hq
    clear hno hb hq
    by_cases hlt : k < ko
    · obtain ⟨b, off, rfl, hcs⟩ := IntsAt.some (IntsAt.below HA.out HB.out) (j := k * 6) (by rw [HL.out]; omega)
      obtain ⟨r0, r1, r2, r3, r4, r5⟩ := row6_at hcs HL.out k hlt
      clear hcs
      obtain ⟨o0, H0⟩ : ∃ t, Hid (og6 zs k 0 = t) := ⟨_, rfl⟩
      obtain ⟨o1, H1⟩ : ∃ t, Hid (og6 zs k 1 = t) := ⟨_, rfl⟩
      obtain ⟨o2, H2⟩ : ∃ t, Hid (og6 zs k 2 = t) := ⟨_, rfl⟩
      obtain ⟨o3, H3⟩ : ∃ t, Hid (og6 zs k 3 = t) := ⟨_, rfl⟩
      obtain ⟨o4, H4⟩ : ∃ t, Hid (og6 zs k 4 = t) := ⟨_, rfl⟩
      obtain ⟨o5, H5⟩ : ∃ t, Hid (og6 zs k 5 = t) := ⟨_, rfl⟩
      rw [H0.out] at r0
      rw [H1.out] at r1
      rw [H2.out] at r2
      rw [H3.out] at r3
      rw [H4.out] at r4
      rw [H5.out] at r5
      have hlb := block_lt_of_cell r0
      simp at hlb
      by_cases he : o0 = id
      · have heb : (o0 == id) = true := by simp [he]
        have HF : Hid (fnd6 zs ko id = some k) := fnd6_at hlt (by rw [H0.out]; exact he) HN.out
        clear he
        go_wp2
        refine bodyPost_ret (v := .tuple #[.agg #[.int .i64 o0, .int .i64 o1, .int .i64 o2, .int .i64 o3, .int .i64 o4, .int .i64 o5], .bool true]) (by simp [results, Try.results111, go_sem, hqlt, q0, q1, q2, q3, q4, q5]) rfl ⟨?_, ?_⟩
        · rw [fnd6T_at HF.out]; simp only [fnd6F_at HF.out, H0.out, H1.out, H2.out, H3.out, H4.out, H5.out]
        · repeat (first | with_reducible exact HB.out | with_reducible refine Below.setCell ?_ (by simp <;> omega) _ | with_reducible refine Below.alloc ?_ (by simp [World.setCell]; exact HB.out.size) _)
      · have heb : (o0 == id) = false := by simp [he]
        have HS : Hid (∀ j, j < k + 1 → og6 zs j 0 ≠ id) := noneToI6_step HN.out (by rw [H0.out]; exact he)
        clear he
        go_wp2
        refine ⟨⟨k + 1, by omega, by go_num, HS.out, HB.out.alloc HB.out.size _, ?_⟩, by simp [intOf]; omega⟩
        rw [heap_alloc_old _ _ (row_lt HQ.out)]; exact HQ.out
    · have hkx : k = ko := by omega
      have HF : Hid (fnd6 zs ko id = none) := fnd6_none (hkx ▸ HN.out)
      clear hkx
      go_wp2
      refine bodyPost_ret (v := .tuple #[.agg #[.int .i64 0, .int .i64 0, .int .i64 0, .int .i64 0, .int .i64 0, .int .i64 0], .bool false]) (by simp [results, Try.results111, go_sem, q0, q1, q2, q3, q4, q5]) rfl ⟨?_, ?_⟩
      · rw [fnd6T_none HF.out]; simp only [fnd6F_none HF.out]
      · repeat (first | with_reducible exact HB.out | with_reducible refine Below.setCell ?_ (by simp <;> omega) _)

end Go.Proofs.Ytkmghjogmedpbaa

namespace Go.Proofs.Ytkmghjogmedpbaa
open Go.RowKit

theorem noTo_step {zs : List Int} {id : Int} {k : Nat} (h : ∀ j, j < k → zs.getD j 0 ≠ id) (hk : zs.getD k 0 ≠ id) : ∀ j, j < k + 1 → zs.getD j 0 ≠ id := by
  intro j hj
  by_cases e : j = k
  · rw [e]; exact hk
  · exact h j (by omega)

set_option maxHeartbeats 400000 in
theorem l3Has_any (a : Option Addr) (m cap : Nat) (id : Int) (zs : List Int) (w : World) (hA : IntsAt w a zs) (hm : m ≤ zs.length) (hlen : m ≤ 9223372036854775807) :
    Calls Try.prog 96 #[.slice a m cap, .int .i64 id] w fun e w' => e = .returned (.bool (hasTo zs m id)) ∧ w' = w := by
  have HA : Hid (IntsAt w a zs) := hA
  clear hA
  obtain ⟨r, HR⟩ : ∃ r, Hid (hasTo zs m id = r) := ⟨_, rfl⟩
  rw [HR.out]
  go_enter Try.func96, Try.ntmps96
  go_wp2_with fail
  go_loop [5] (fun t => ∃ k : Nat, k ≤ m ∧ t = .int .i64 k ∧ ∀ j, j < k → zs.getD j 0 ≠ id) (fun t => m - (intOf t).toNat)
  case atStart => exact ⟨0, Nat.zero_le _, rfl, fun j hj => by omega⟩
  case round =>
    obtain ⟨k, hk, rfl, hno⟩ := hrel
    have HN : Hid (∀ j, j < k → zs.getD j 0 ≠ id) := hno
    clear hno
    by_cases hlt : k < m
    · obtain ⟨b, off, rfl, hcs⟩ := IntsAt.some HA.out (j := k) (by omega)
      have ct := hcs k (by omega)
      clear hcs
      obtain ⟨t, HT⟩ : ∃ t, Hid (zs.getD k 0 = t) := ⟨_, rfl⟩
      rw [HT.out] at ct
      by_cases he : t = id
      · have heb : (t == id) = true := by simp [he]
        have HV : Hid (r = true) := HR.out.symm.trans (hasTo_yes hlt (HT.out.trans he))
        clear he
        go_wp2
        go_ret
        exact ⟨ret_bool HV.out.symm, rfl⟩
      · have heb : (t == id) = false := by simp [he]
        have HS : Hid (∀ j, j < k + 1 → zs.getD j 0 ≠ id) := noTo_step HN.out (by rw [HT.out]; exact he)
        clear he
        go_wp2
        exact ⟨⟨k + 1, by omega, by go_num, HS.out⟩, by simp [intOf]; omega⟩
    · have hkl : k = m := by omega
      have HV : Hid (r = false) := HR.out.symm.trans (hasTo_no (hkl ▸ HN.out))
      clear hkl
      go_wp2
      go_ret
      exact ⟨ret_bool HV.out.symm, rfl⟩

theorem l3Has_is (a : Option Addr) (m cap : Nat) (id : Int) (zs : List Int) (w : World) (v : Bool) (hv : hasTo zs m id = v) (hA : IntsAt w a zs) (hm : m ≤ zs.length) (hlen : m ≤ 9223372036854775807) :
    Calls Try.prog 96 #[.slice a m cap, .int .i64 id] w fun e w' => e = .returned (.bool v) ∧ w' = w := hv ▸ l3Has_any a m cap id zs w hA hm hlen

/-- The place that slices.Index tells. -/
def idxV (zs : List Int) (m : Nat) (id : Int) : Int := match (List.range m).find? (fun i => zs.getD i 0 == id) with
  | some i => i
  | none => -1
theorem idxV_at {zs : List Int} {m : Nat} {id : Int} {i : Nat} (hi : i < m) (h : zs.getD i 0 = id) (hno : ∀ j, j < i → zs.getD j 0 ≠ id) : idxV zs m id = i := by
  have : (List.range m).find? (fun i => zs.getD i 0 == id) = some i := by
    rw [List.find?_range_eq_some]
    exact ⟨by rw [h]; simp, by simpa using hi, fun j hj => by have := hno j hj; simpa using this⟩
  unfold idxV
  rw [this]
theorem idxV_none {zs : List Int} {m : Nat} {id : Int} (hno : ∀ j, j < m → zs.getD j 0 ≠ id) : idxV zs m id = -1 := by
  have : (List.range m).find? (fun i => zs.getD i 0 == id) = none := by
    rw [List.find?_eq_none]
    intro j hj
    have := hno j (by simpa using hj)
    simpa using this
  unfold idxV
  rw [this]
theorem idxV_has (zs : List Int) (m : Nat) (id : Int) : decide (0 ≤ idxV zs m id) = hasTo zs m id := by
  unfold idxV
  cases hf : (List.range m).find? (fun i => zs.getD i 0 == id) with
  | none =>
    rw [List.find?_eq_none] at hf
    rw [hasTo_no (fun j hj => by have := hf j (by simpa using hj); simpa using this)]
    rfl
  | some i =>
    rw [List.find?_range_eq_some] at hf
    rw [hasTo_yes (by simpa using hf.2.1) (by simpa using hf.1)]
    simp

set_option maxHeartbeats 400000 in
theorem index_any (a : Option Addr) (m cap : Nat) (id : Int) (zs : List Int) (w : World) (hA : IntsAt w a zs) (hm : m ≤ zs.length) (hlen : m ≤ 9223372036854775807) :
    Calls Try.prog 114 #[.slice a m cap, .int .i64 id] w fun e w' => e = .returned (.int .i64 (idxV zs m id)) ∧ w' = w := by
  have HA : Hid (IntsAt w a zs) := hA
  clear hA
  obtain ⟨r, HR⟩ : ∃ r, Hid (idxV zs m id = r) := ⟨_, rfl⟩
  rw [HR.out]
  go_enter Try.func114, Try.ntmps114
  go_wp2_with fail
  go_loop [8] (fun t => ∃ k : Nat, k ≤ m ∧ t = .int .i64 k ∧ ∀ j, j < k → zs.getD j 0 ≠ id) (fun t => m - (intOf t).toNat)
  case atStart => exact ⟨0, Nat.zero_le _, rfl, fun j hj => by omega⟩
  case round =>
    obtain ⟨k, hk, rfl, hno⟩ := hrel
    have HN : Hid (∀ j, j < k → zs.getD j 0 ≠ id) := hno
    clear hno
    by_cases hlt : k < m
    · obtain ⟨b, off, rfl, hcs⟩ := IntsAt.some HA.out (j := k) (by omega)
      have ct := hcs k (by omega)
      clear hcs
      obtain ⟨t, HT⟩ : ∃ t, Hid (zs.getD k 0 = t) := ⟨_, rfl⟩
      rw [HT.out] at ct
      by_cases he : id = t
      · have heb : (id == t) = true := by simp [he]
        have HV : Hid (r = k) := HR.out.symm.trans (idxV_at hlt (HT.out.trans he.symm) HN.out)
        clear he
        go_wp2
        go_ret
        exact ⟨ret_int HV.out.symm, rfl⟩
      · have heb : (id == t) = false := by simp [he]
        have HS : Hid (∀ j, j < k + 1 → zs.getD j 0 ≠ id) := noTo_step HN.out (by rw [HT.out]; exact fun x => he x.symm)
        clear he
        go_wp2
        exact ⟨⟨k + 1, by omega, by go_num, HS.out⟩, by simp [intOf]; omega⟩
    · have hkl : k = m := by omega
      have HV : Hid (r = -1) := HR.out.symm.trans (idxV_none (hkl ▸ HN.out))
      clear hkl
      go_wp2
      go_ret
      exact ⟨ret_int HV.out.symm, rfl⟩

set_option maxHeartbeats 400000 in
theorem contains_any (a : Option Addr) (m cap : Nat) (id : Int) (zs : List Int) (w : World) (hA : IntsAt w a zs) (hm : m ≤ zs.length) (hlen : m ≤ 9223372036854775807) :
    Calls Try.prog 112 #[.slice a m cap, .int .i64 id] w fun e w' => e = .returned (.bool (hasTo zs m id)) ∧ w' = w := by
  have HA : Hid (IntsAt w a zs) := hA
  clear hA
  rw [← idxV_has]
  obtain ⟨t, HT⟩ : ∃ t, Hid (idxV zs m id = t) := ⟨_, rfl⟩
  rw [HT.out]
  go_enter Try.func112, Try.ntmps112
  go_wp2_with fail
  refine (index_any a m cap id zs w HA.out hm hlen).mono ?_
  rintro e w1 ⟨rfl, rfl⟩
  rw [HT.out]
  go_wp2
  go_ret
  exact ⟨by simp, rfl⟩

end Go.Proofs.Ytkmghjogmedpbaa

namespace Go.Proofs.Ytkmghjogmedpbaa
open Go.RowKit

theorem infoOrd6 : (Try.prog.info? 108).map (fun i => (i.zero, i.size, i.bytes)) = some (some (.agg #[Value.int IntKind.i64 0, Value.int IntKind.i64 0, Value.int IntKind.i64 0, Value.int IntKind.i64 0, Value.int IntKind.i64 0, Value.int IntKind.i64 0]), 6, 48) := by kernel_rfl

/-- 'make([]Order, 0, n)' and 'append' within its room, at this program. -/
theorem make_orders (w : World) {ops : Array Oper} {rest : List Oper} {o : Oper} {a : Act} {Q : Exit → Act → World → Prop}
    (hg : o.guard = none) (l c : Operand) (hop : o.op = Op.makeSlice 37 l c) (base : Nat)
    (kl kc : IntKind) (C : Int) (n : Nat) (hl : a.eval l = .int kl 0) (hc : a.eval c = .int kc C) (hC : C = (n : Int)) (b2 : n ≤ 1048576) (b4 : base ≤ w.heap.size)
    (hK : ∀ w', w'.ownsRow base 108 6 (.slice (some ⟨w.heap.size, 0, none⟩) 0 n) 0 [] → w.grownBy w' none → wpList Try.prog ops Q rest (a.put o.dst (.slice (some ⟨w.heap.size, 0, none⟩) 0 n)) w') :
    wpList Try.prog ops Q (o :: rest) a w := by
  obtain ⟨i0, hi, hz0, hz1, hz2⟩ := info_parts infoOrd6
  exact wpList_make_own w hg l c _ hop base _ i0 _ 6 Try.underlying37 hi hz0 hz1 kl kc C n hl hc hC (by rw [hz2]; omega) (by unfold maxLen; omega) b4 hK
theorem append_orders (w : World) {ops : Array Oper} {rest : List Oper} {o : Oper} {a : Act} {Q : Exit → Act → World → Prop}
    (hg : o.guard = none) (s x : Operand) (hop : o.op = Op.call { callee := Callee.builtin Builtin.append, args := #[s, x], argTypes := #[37, 37] })
    (base : Nat) (g k cap : Nat) (xs : List Value) (hs : a.eval s = .slice (some ⟨g, 0, none⟩) k cap) (hown : w.ownsRow base 108 6 (.slice (some ⟨g, 0, none⟩) k cap) k xs) (ad : Addr) (m c : Nat) (news : List Value) (hx : a.eval x = .slice (some ad) m c) (hn : news.length = m * 6)
    (hc : ∀ j u, news[j]? = some u → w.cell? (ad.add j) = some u) (h1c : ∀ u ∈ news, u.oneCell' = true) (b1 : k + m ≤ cap)
    (hK : ∀ w', w'.ownsRow base 108 6 (.slice (some ⟨g, 0, none⟩) (k + m) cap) (k + m) (xs ++ news) → w.grownBy w' (some g) → wpList Try.prog ops Q rest (a.put o.dst (.slice (some ⟨g, 0, none⟩) (k + m) cap)) w') :
    wpList Try.prog ops Q (o :: rest) a w := by
  obtain ⟨i0, hi, hz0, hz1, hz2⟩ := info_parts infoOrd6
  exact wpList_append_fits w hg s x _ hop base _ i0 6 Try.underlying37 hi hz1 g k cap xs hs hown ad m c news hx hn hc h1c b1 hK

theorem grown_row {w w' : World} {row : Option Nat} {k : Nat} {o : Obj} (hg : w.grownBy w' row) (h : w.heap[k]? = some o) (hne : some k ≠ row) : w'.heap[k]? = some o := (hg.block k (row_lt h) hne).trans h

theorem ros_step (os : List Int) (ko : Nat) (ids : List Int) {k : Nat} {id : Int} (hk : k < ids.length) (hid : ids.getD k 0 = id) {o0 o1 o2 o3 o4 o5 : Int} (h0 : fnd6F os ko id 0 = o0) (h1 : fnd6F os ko id 1 = o1) (h2 : fnd6F os ko id 2 = o2) (h3 : fnd6F os ko id 3 = o3) (h4 : fnd6F os ko id 4 = o4) (h5 : fnd6F os ko id 5 = o5) :
    (((rosOf os ko ids).take (k * 6)).map (Value.int .i64)) ++ [Value.int IntKind.i64 o0, Value.int IntKind.i64 o1, Value.int IntKind.i64 o2, Value.int IntKind.i64 o3, Value.int IntKind.i64 o4, Value.int IntKind.i64 o5] = ((rosOf os ko ids).take ((k + 1) * 6)).map (Value.int .i64) := by
  have hl := rosOf_length os ko ids
  have e : (k + 1) * 6 = k * 6 + 1 + 1 + 1 + 1 + 1 + 1 := by omega
  have g : ∀ f, f < 6 → (rosOf os ko ids).getD (k * 6 + f) 0 = fnd6F os ko id f := fun f hf => hid ▸ rosOf_at os ko ids hk hf
  rw [e, take_snoc _ _ (by omega), take_snoc _ _ (by omega), take_snoc _ _ (by omega), take_snoc _ _ (by omega), take_snoc _ _ (by omega), take_snoc _ _ (by omega)]
  have g0 := g 0 (by omega)
  have g1 := g 1 (by omega)
  have g2 := g 2 (by omega)
  have g3 := g 3 (by omega)
  have g4 := g 4 (by omega)
  have g5 := g 5 (by omega)
  simp only [Nat.add_zero] at g0
  simp only [g0, g1, g2, g3, g4, g5, h0, h1, h2, h3, h4, h5]
  simp

/-- What is owned of a row of numbers lies there. -/
theorem owns_ints {w : World} {base size g n cap : Nat} {e : TypeId} {zs : List Int} (h : w.ownsRow base e size (.slice (some ⟨g, 0, none⟩) n cap) n (zs.map (Value.int .i64))) : IntsAt w (some ⟨g, 0, none⟩) zs := by
  intro j hj
  refine ⟨g, 0, rfl, ?_⟩
  have := h.cells (g := g) rfl j (.int .i64 (zs.getD j 0)) (by simp [List.getD, hj])
  have hadd : (⟨g, 0, none⟩ : Addr).add j = ⟨g, 0 + j, none⟩ := by unfold Addr.add; split <;> simp_all
  rw [hadd] at this
  exact this

theorem owns_below {w w' : World} {base size n : Nat} {e : TypeId} {v : Value} {xs : List Value} (h : w.ownsRow base e size v n xs) (hb : Below w.heap.size w w') : w'.ownsRow base e size v n xs := by
  obtain ⟨h1, h2 | ⟨g, cap, cur, h2, h3, h4, h5⟩⟩ := h
  · exact ⟨h1, .inl h2⟩
  · exact ⟨h1, .inr ⟨g, cap, cur, h2, h3, below_row hb (row_lt h4) h4, h5⟩⟩

theorem cells6_new (W : World) (o0 o1 o2 o3 o4 o5 : Value) (T : TypeId) (g : Nat) (hg : W.heap.size = g) : ∀ j u, [o0, o1, o2, o3, o4, o5][j]? = some u → (W.alloc (.cells #[o0, o1, o2, o3, o4, o5] T)).cell? ((⟨g, 0, none⟩ : Addr).add j) = some u := by
  intro j u hu
  subst hg
  have hadd : (⟨W.heap.size, 0, none⟩ : Addr).add j = ⟨W.heap.size, j, none⟩ := by unfold Addr.add; split <;> simp_all
  rw [hadd, cell_of_row _ _ j _ _ _ (heap_alloc_new W (.cells #[o0, o1, o2, o3, o4, o5] T))]
  simpa using hu

set_option maxHeartbeats 1000000 in
theorem stopsOf_any (n fine : Int) (a ao av bi : Option Addr) (cap ko co kv cv c2 : Nat) (zs os ids : List Int) (w : World) (hO : IntsAt w ao os) (hI : IntsAt w bi ids) (hlo : os.length = ko * 6) (hko : ko ≤ 9223372036854775807) (hli : ids.length ≤ 9223372036854775807) (hc2 : ids.length ≤ c2) :
    Calls Try.prog 102 #[.agg #[.int .i64 n, .slice a zs.length cap, .slice ao ko co, .slice av kv cv, .int .i64 fine], .slice bi ids.length c2] w fun e w' => Below w.heap.size w w' ∧ ((stopsB os ko ids = false ∧ e = .returned (.tuple #[.slice none 0 0, .bool false])) ∨ (stopsB os ko ids = true ∧ e = .returned (.tuple #[.slice (some ⟨w.heap.size + 1, 0, none⟩) ids.length ids.length, .bool true]) ∧ IntsAt w' (some ⟨w.heap.size + 1, 0, none⟩) (rosOf os ko ids))) := by
  have HO : Hid (IntsAt w ao os) := hO
  have HI : Hid (IntsAt w bi ids) := hI
  have HLO : Hid _ := hlo
  clear hO hI hlo
  have HB0 : Hid (Below w.heap.size w (w.alloc (Obj.cells #[Value.int IntKind.i64 n, Value.slice a zs.length cap, Value.slice ao ko co, Value.slice av kv cv, Value.int IntKind.i64 fine] 40))) := (Below.refl _ _).alloc (Nat.le_refl _) _
  have HP0 : Hid ((w.alloc (Obj.cells #[Value.int IntKind.i64 n, Value.slice a zs.length cap, Value.slice ao ko co, Value.slice av kv cv, Value.int IntKind.i64 fine] 40)).heap[w.heap.size]? = _) := heap_alloc_new _ _
  by_cases h12 : ids.length ≤ 12
  · go_enter Try.func102, Try.ntmps102
    go_wp2_with (first
      | (at_make; refine make_orders _ rfl _ _ rfl (w.heap.size + 1) .i64 .i64 _ ids.length rfl rfl rfl (by omega) (by simp) ?_; intro w1 hown0 hgrow0))
    have HB1 : Hid (Below w.heap.size w w1) := HB0.out.grown hgrow0 HB0.out.size (fun k e => by cases e)
    have HP1 : Hid (w1.heap[w.heap.size]? = _) := grown_row hgrow0 HP0.out (by simp)
    have HW1 : Hid (w1.ownsRow (w.heap.size + 1) 108 6 (.slice (some ⟨w.heap.size + 1, 0, none⟩) 0 ids.length) 0 []) := by
      show w1.ownsRow _ _ _ _ _ _
      simpa using hown0
    clear hown0 hgrow0 HB0 HP0
    go_loopw [6, 19] (fun sl t wr => ∃ k : Nat, k ≤ ids.length ∧ t = .int .i64 k ∧ sl = .slice (some ⟨w.heap.size + 1, 0, none⟩) k ids.length ∧ stopsTo os ko ids k ∧ Below w.heap.size w wr ∧ wr.heap[w.heap.size]? = some (.cells #[Value.int IntKind.i64 n, Value.slice a zs.length cap, Value.slice ao ko co, Value.slice av kv cv, Value.int IntKind.i64 fine] 40 (0, 0)) ∧ wr.ownsRow (w.heap.size + 1) 108 6 (.slice (some ⟨w.heap.size + 1, 0, none⟩) k ids.length) k (((rosOf os ko ids).take (k * 6)).map (Value.int .i64))) (fun _ t _ => ids.length - (intOf t).toNat)
    case atStart => exact ⟨0, Nat.zero_le _, rfl, rfl, stopsTo_zero _ _ _, HB1.out, HP1.out, by simpa using HW1.out⟩
    case round =>
      clear HB1 HP1 HW1
      obtain ⟨k, hk, rfl, rfl, hth, hb, hp, hw⟩ := hrel
      have HT : Hid (stopsTo os ko ids k) := hth
      have HB : Hid (Below w.heap.size w wr) := hb
      have HP : Hid (wr.heap[w.heap.size]? = _) := hp
      have HW : Hid (wr.ownsRow (w.heap.size + 1) 108 6 (.slice (some ⟨w.heap.size + 1, 0, none⟩) k ids.length) k (((rosOf os ko ids).take (k * 6)).map (Value.int .i64))) := hw
      obtain ⟨c0, c1, c2', c3, c4⟩ := cells5 hp
      clear hth hb hp hw
      by_cases hlt : k < ids.length
      · obtain ⟨b, off, rfl, hcs⟩ := IntsAt.some (IntsAt.below HI.out HB.out) hlt
        have ct := hcs k hlt
        clear hcs
        obtain ⟨id, HID⟩ : ∃ i, Hid (ids.getD k 0 = i) := ⟨_, rfl⟩
        rw [HID.out] at ct
        have hkc : k ≤ c2 := by omega
        obtain ⟨o0, H0⟩ : ∃ t, Hid (fnd6F os ko id 0 = t) := ⟨_, rfl⟩
        obtain ⟨o1, H1⟩ : ∃ t, Hid (fnd6F os ko id 1 = t) := ⟨_, rfl⟩
        obtain ⟨o2, H2⟩ : ∃ t, Hid (fnd6F os ko id 2 = t) := ⟨_, rfl⟩
        obtain ⟨o3, H3⟩ : ∃ t, Hid (fnd6F os ko id 3 = t) := ⟨_, rfl⟩
        obtain ⟨o4, H4⟩ : ∃ t, Hid (fnd6F os ko id 4 = t) := ⟨_, rfl⟩
        obtain ⟨o5, H5⟩ : ∃ t, Hid (fnd6F os ko id 5 = t) := ⟨_, rfl⟩
        obtain ⟨tt, HTT⟩ : ∃ t, Hid (fnd6T os ko id = t) := ⟨_, rfl⟩
        go_wp2_with fail
        refine (findOrder_any n fine id a ao av _ cap ko co kv cv os _ (HO.out.below HB.out) HLO.out hko).mono ?_
        rintro e w2 ⟨rfl, hb2⟩
        rw [H0.out, H1.out, H2.out, H3.out, H4.out, H5.out, HTT.out]
        have HB2 : Hid (Below w.heap.size w (w2.alloc (Obj.cells #[Value.int IntKind.i64 o0, Value.int IntKind.i64 o1, Value.int IntKind.i64 o2, Value.int IntKind.i64 o3, Value.int IntKind.i64 o4, Value.int IntKind.i64 o5] 108))) := (HB.out.trans (hb2.mono HB.out.size)).alloc (Nat.le_trans HB.out.size hb2.size) _
        have HP2 : Hid ((w2.alloc (Obj.cells #[Value.int IntKind.i64 o0, Value.int IntKind.i64 o1, Value.int IntKind.i64 o2, Value.int IntKind.i64 o3, Value.int IntKind.i64 o4, Value.int IntKind.i64 o5] 108)).heap[w.heap.size]? = _) := (heap_alloc_old _ _ (row_lt (below_row hb2 (row_lt HP.out) HP.out))).trans (below_row hb2 (row_lt HP.out) HP.out)
        have HW2 : Hid ((w2.alloc (Obj.cells #[Value.int IntKind.i64 o0, Value.int IntKind.i64 o1, Value.int IntKind.i64 o2, Value.int IntKind.i64 o3, Value.int IntKind.i64 o4, Value.int IntKind.i64 o5] 108)).ownsRow _ _ _ _ _ _) := (owns_below HW.out hb2).alloc _
        have HRO : Hid ((w2.alloc (Obj.cells #[Value.int IntKind.i64 o0, Value.int IntKind.i64 o1, Value.int IntKind.i64 o2, Value.int IntKind.i64 o3, Value.int IntKind.i64 o4, Value.int IntKind.i64 o5] 108)).heap[w2.heap.size]? = _) := heap_alloc_new _ _
        obtain ⟨p0, p1, p2, p3, p4, p5⟩ := cells6 HRO.out
        clear hb2 c0 c1 c2' c3 c4 ct
        cases tt
        · have HN : Hid (stopsB os ko ids = false) := stopsB_bad hlt (stopB_mk HID.out HTT.out rfl)
          go_wp2
          go_ret2
          exact ⟨HB2.out, .inl ⟨HN.out, rfl⟩⟩
        · obtain ⟨hh, HH⟩ : ∃ t, Hid (hasTo ids k id = t) := ⟨_, rfl⟩
          cases hh
          · have HS1 : Hid (stopsTo os ko ids (k + 1)) := stopsTo_step HT.out (stopB_mk HID.out HTT.out HH.out)
            go_wp2_with (first
              | (go_at_call 112; refine (contains_any _ k _ id ids _ (HI.out.below HB2.out) hk (by omega)).mono ?_; rintro e w3 ⟨rfl, rfl⟩; rw [HH.out])
              | (at_builtin; refine append_orders _ rfl _ _ rfl (w.heap.size + 1) (w.heap.size + 1) k ids.length _ rfl (HW2.out.alloc _) _ 1 1 [Value.int IntKind.i64 o0, Value.int IntKind.i64 o1, Value.int IntKind.i64 o2, Value.int IntKind.i64 o3, Value.int IntKind.i64 o4, Value.int IntKind.i64 o5] rfl rfl (cells6_new _ _ _ _ _ _ _ _ _ (by simp)) (by simp [Value.oneCell']) (by omega) ?_; intro w4 hown4 hgrow4))
            have hne : some w.heap.size ≠ some (w.heap.size + 1) := by simp
            refine ⟨⟨k + 1, by omega, by go_num, rfl, HS1.out, (HB2.out.alloc HB2.out.size _).grown hgrow4 (Nat.le_trans HB2.out.size (by simp)) (fun j e => by cases e; omega), grown_row hgrow4 ((heap_alloc_old _ _ (row_lt HP2.out)).trans HP2.out) (by simp), ?_⟩, by simp [intOf]; omega⟩
            rw [ros_step os ko ids hlt HID.out H0.out H1.out H2.out H3.out H4.out H5.out] at hown4
            exact hown4
          · have HN : Hid (stopsB os ko ids = false) := stopsB_bad hlt (stopB_mk HID.out HTT.out HH.out)
            go_wp2_with (first
              | (go_at_call 112; refine (contains_any _ k _ id ids _ (HI.out.below HB2.out) hk (by omega)).mono ?_; rintro e w3 ⟨rfl, rfl⟩; rw [HH.out]))
            go_ret2
            exact ⟨HB2.out, .inl ⟨HN.out, rfl⟩⟩
      · have hkl : k = ids.length := by omega
        have HN : Hid (stopsB os ko ids = true) := stopsB_yes h12 (hkl ▸ HT.out)
        subst hkl
        go_wp2
        go_ret2
        refine ⟨HB.out, .inr ⟨HN.out, rfl, ?_⟩⟩
        have := HW.out
        rw [List.take_of_length_le (by rw [rosOf_length]; omega)] at this
        exact owns_ints this
  · have HN : Hid (stopsB os ko ids = false) := stopsB_many h12
    go_enter Try.func102, Try.ntmps102
    go_wp2
    go_ret2
    exact ⟨HB0.out, .inl ⟨HN.out, rfl⟩⟩

end Go.Proofs.Ytkmghjogmedpbaa

namespace Go.Proofs.Ytkmghjogmedpbaa
open Go.RowKit

theorem own_some {w : World} {base k : Nat} {v : Value} {e : TypeId} {size : Nat} {xs : List Value} (h : w.ownsRow base e size v (k + 1) xs) : ∃ g c, v = .slice (some ⟨g, 0, none⟩) (k + 1) c ∧ base ≤ g := by
  obtain ⟨_, ⟨_, h2⟩ | ⟨g, cap, cur, h2, h3, _⟩⟩ := h
  · omega
  · exact ⟨g, cap, h2, h3⟩
theorem own_shape {w : World} {base k : Nat} {v : Value} {e : TypeId} {size : Nat} {xs : List Value} (h : w.ownsRow base e size v k xs) : v = .slice none 0 0 ∨ ∃ g c, v = .slice (some ⟨g, 0, none⟩) k c := by
  obtain ⟨_, ⟨h1, _⟩ | ⟨g, cap, cur, h2, _⟩⟩ := h
  · exact .inl h1
  · exact .inr ⟨g, cap, h2⟩
theorem owns_base {w : World} {base b0 k : Nat} {v : Value} {e : TypeId} {size : Nat} {xs : List Value} (h : w.ownsRow base e size v k xs) (hb : b0 ≤ base) : w.ownsRow b0 e size v k xs := by
  obtain ⟨h0, h1 | ⟨g, cap, cur, h2, h3, h4⟩⟩ := h
  · exact ⟨h0, .inl h1⟩
  · exact ⟨h0, .inr ⟨g, cap, cur, h2, Nat.le_trans hb h3, h4⟩⟩
theorem owns_set {w : World} {base k b i : Nat} {v u : Value} {e : TypeId} {size : Nat} {xs : List Value} (h : w.ownsRow base e size v k xs) (hb : b < base) : (w.setCell ⟨b, i, none⟩ u).ownsRow base e size v k xs := ownsRow_setCell_below h hb u
theorem owns_at1 {w : World} {base n : Nat} {e : TypeId} {sl : Value} {xs : List Int} (h : w.ownsRow base e 1 sl n (xs.map (Value.int .i64))) : ∃ a c, sl = .slice a xs.length c ∧ xs.length = n ∧ IntsAt w a xs := by
  obtain ⟨h1, ⟨rfl, h2⟩ | ⟨g, cap, cur, rfl, h3, h4, h5⟩⟩ := id h
  · subst h2
    have : xs = [] := by simpa using h1
    subst this
    exact ⟨none, 0, rfl, rfl, fun j hj => by simp at hj⟩
  · have hl : xs.length = n := by simpa using h1
    exact ⟨_, _, by rw [hl], hl, owns_ints h⟩

end Go.Proofs.Ytkmghjogmedpbaa

namespace Go.Proofs.Ytkmghjogmedpbaa
open Go.RowKit

theorem own_type {w : World} {base size k b : Nat} {e T : TypeId} {v : Value} {xs : List Value} {cs : Array Value} (h : w.ownsRow base e size v k xs) (hv : v.ownBlock = some b) (hr : w.heap[b]? = some (.cells cs T (0, 0))) (hT : T ≠ e) : False := by
  obtain ⟨_, ⟨rfl, _⟩ | ⟨g, cap, cur, rfl, _, h4, _⟩⟩ := h
  · cases hv
  · cases hv
    rw [show w.heap[(⟨g, 0, none⟩ : Addr).block]? = w.heap[g]? from rfl, h4] at hr
    cases hr
    exact hT rfl

/-- A slice of numbers that was marked from 1 on. -/
def Marked1 (W : World) (ad : Option Addr) (K : Nat) : Prop := K = 0 ∨ ∃ g, ad = some ⟨g, 0, none⟩ ∧ g < W.heap.size ∧ ∀ j, j < K → W.cell? ⟨g, j, none⟩ = some (.int .i64 (1 + (j : Nat)))
theorem Marked1.below {W W' : World} {ad : Option Addr} {K : Nat} (h : Marked1 W ad K) (hb : Below W.heap.size W W') : Marked1 W' ad K := by
  rcases h with h | ⟨g, h1, h2, h3⟩
  · exact .inl h
  · exact .inr ⟨g, h1, Nat.lt_of_lt_of_le h2 hb.size, fun j hj => (hb.cell (p := ⟨g, j, none⟩) h2).trans (h3 j hj)⟩
theorem markI_u (ad : Option Addr) (K c base : Nat) (xs : List Int) (w : World) (ho : w.ownsRow base 2 1 (.slice ad K c) K (xs.map (Value.int .i64))) (hK : K ≤ 1000) :
    Calls Try.prog 50 #[.slice ad K c, .int .i64 1] w fun e w' => e = .returned (.int .i64 (1 + (K : Int))) ∧ GrownBut (fun b => (Value.slice ad K c).ownBlock = some b) w w' ∧ Marked1 w' ad K := by
  obtain ⟨h1, ⟨h2, rfl⟩ | ⟨g, cap, cur, h2, h3, h4, h5, _, h7, _⟩⟩ := ho
  · refine (markInt64S_nil ad c 1 w).mono ?_
    rintro e w' ⟨rfl, rfl⟩
    exact ⟨rfl, GrownBut.of_below (Below.refl _ _), .inl rfl⟩
  · simp only [Value.slice.injEq] at h2
    obtain ⟨rfl, _, rfl⟩ := h2
    have hsz : K ≤ cur.size := by rw [h7]; omega
    refine (markInt64S_any g K c 1 cur _ w h4 hsz (by omega) (by omega) (by omega)).mono ?_
    rintro e w' ⟨rfl, hg, hr⟩
    refine ⟨rfl, GrownBut.of_grown hg rfl, .inr ⟨g, rfl, row_lt hr, fun j hj => ?_⟩⟩
    rw [cell_of_row _ _ j _ _ _ hr]
    exact markA_get cur 1 K hsz j hj
theorem heldI_u (ad : Option Addr) (K c : Nat) (w : World) (hm : Marked1 w ad K) (hK : K ≤ 1000) :
    Calls Try.prog 51 #[.slice ad K c, .int .i64 1] w fun e w' => e = .returned (.int .i64 (1 + (K : Int))) ∧ w' = w := by
  rcases hm with rfl | ⟨g, rfl, _, hc⟩
  · exact (heldInt64S_nil ad c 1 w).mono fun e w' ⟨h1, h2⟩ => ⟨h1, h2⟩
  · exact heldInt64S_any g K c 1 w hc (by omega) (by omega) (by omega)


set_option maxHeartbeats 400000 in
theorem markRoute_u (veh : Int) (ad : Option Addr) (K c base : Nat) (xs : List Int) (w : World) (ho : w.ownsRow base 2 1 (.slice ad K c) K (xs.map (Value.int .i64))) (hK : K ≤ 1000) :
    Calls Try.prog 18 #[.agg #[.int .i64 veh, .slice ad K c], .int .i64 1] w fun e w' => e = .returned (.int .i64 (1 + (K : Int))) ∧ GrownBut (fun b => (Value.slice ad K c).ownBlock = some b) w w' ∧ Marked1 w' ad K := by
  have HO : Hid (w.ownsRow base 2 1 (.slice ad K c) K _) := ho
  have HB : Hid (Below w.heap.size w (w.alloc (Obj.cells #[Value.int IntKind.i64 veh, Value.slice ad K c] 33))) := (Below.refl _ _).alloc (Nat.le_refl _) _
  clear ho
  go_enter Try.func18, Try.ntmps18
  go_wp2_with (first
    | (go_at_call 50; refine (markI_u ad K c base xs _ (HO.out.alloc _) hK).mono ?_; rintro e w2 ⟨rfl, hg, hm⟩; have HG : Hid (GrownBut (fun b => (Value.slice ad K c).ownBlock = some b) w w2) := (GrownBut.of_below HB.out).trans hg; have HM : Hid (Marked1 w2 ad K) := hm; clear hg hm))
  go_ret
  exact ⟨rfl, HG.out, HM.out⟩
set_option maxHeartbeats 400000 in
theorem heldRoute_u (veh : Int) (ad : Option Addr) (K c : Nat) (w : World) (hm : Marked1 w ad K) (hK : K ≤ 1000) :
    Calls Try.prog 19 #[.agg #[.int .i64 veh, .slice ad K c], .int .i64 1] w fun e w' => e = .returned (.int .i64 (1 + (K : Int))) ∧ Below w.heap.size w w' := by
  have HM : Hid (Marked1 w ad K) := hm
  have HB : Hid (Below w.heap.size w (w.alloc (Obj.cells #[Value.int IntKind.i64 veh, Value.slice ad K c] 33))) := (Below.refl _ _).alloc (Nat.le_refl _) _
  clear hm
  obtain ⟨q, HQ⟩ : ∃ t, Hid ((1 : Int) + (K : Int) = t) := ⟨_, rfl⟩
  have hq : 0 ≤ q := by have := HQ.out; omega
  rw [HQ.out]
  go_enter Try.func19, Try.ntmps19
  go_wp2_with (first
    | (go_at_call 51; refine (heldI_u ad K c _ (HM.out.below HB.out) hK).mono ?_; rintro e w2 ⟨rfl, rfl⟩; rw [HQ.out]))
  go_ret
  exact ⟨rfl, HB.out⟩
theorem eqRoute_u (veh : Int) (ad ad2 : Option Addr) (c c2 base base2 : Nat) (xs : List Int) (w : World) (h1 : w.ownsRow base 2 1 (.slice ad xs.length c) xs.length (xs.map (Value.int .i64))) (h2 : w.ownsRow base2 2 1 (.slice ad2 xs.length c2) xs.length (xs.map (Value.int .i64))) (hK : xs.length ≤ 1000) :
    Calls Try.prog 15 #[.agg #[.int .i64 veh, .slice ad xs.length c], .agg #[.int .i64 veh, .slice ad2 xs.length c2]] w fun e w' => e = .returned (.bool true) ∧ Below w.heap.size w w' := by
  obtain ⟨a1, q1, e1, _, i1⟩ := owns_at1 h1
  obtain ⟨a2, q2, e2, _, i2⟩ := owns_at1 h2
  simp only [Value.slice.injEq] at e1 e2
  obtain ⟨rfl, _, rfl⟩ := e1
  obtain ⟨rfl, _, rfl⟩ := e2
  exact eqRoute_same veh ad ad2 c c2 xs w i1 i2 (by omega)

end Go.Proofs.Ytkmghjogmedpbaa

namespace Go.Proofs.Ytkmghjogmedpbaa
open Go.RowKit

theorem noneToI5_step {zs : List Int} {id : Int} {k : Nat} (h : ∀ j, j < k → og5 zs j 0 ≠ id) (hk : og5 zs k 0 ≠ id) : ∀ j, j < k + 1 → og5 zs j 0 ≠ id := by
  intro j hj
  by_cases e : j = k
  · rw [e]; exact hk
  · exact h j (by omega)

set_option maxHeartbeats 1000000 in
theorem findVehicle_any (n fine id : Int) (a ao av : Option Addr) (lt cap ko co kv cv : Nat) (zs : List Int) (w : World) (hA : IntsAt w av zs) (hl : zs.length = kv * 5) (hlen : kv ≤ 9223372036854775807) :
    Calls Try.prog 101 #[.agg #[.int .i64 n, .slice a lt cap, .slice ao ko co, .slice av kv cv, .int .i64 fine], .int .i64 id] w fun e w' => e = .returned (.tuple #[.agg #[.int .i64 (fnd5F zs kv id 0), .int .i64 (fnd5F zs kv id 1), .int .i64 (fnd5F zs kv id 2), .int .i64 (fnd5F zs kv id 3), .int .i64 (fnd5F zs kv id 4)], .bool (fnd5T zs kv id)]) ∧ Below w.heap.size w w' := by
  have HB0 : Hid (Below w.heap.size w ((w.alloc (Obj.cells #[Value.int IntKind.i64 n, Value.slice a lt cap, Value.slice ao ko co, Value.slice av kv cv, Value.int IntKind.i64 fine] 40)).alloc (Obj.cells #[Value.int IntKind.i64 0, Value.int IntKind.i64 0, Value.int IntKind.i64 0, Value.int IntKind.i64 0, Value.int IntKind.i64 0] 81))) := ((Below.refl _ _).alloc (Nat.le_refl _) _).alloc (by simp) _
  have HA : Hid (IntsAt w av zs) := hA
  have HL : Hid (zs.length = kv * 5) := hl
  clear hA hl
  go_enter Try.func101, Try.ntmps101
  go_wp2_with fail
  have Q0 : Hid (((w.alloc (Obj.cells #[Value.int IntKind.i64 n, Value.slice a lt cap, Value.slice ao ko co, Value.slice av kv cv, Value.int IntKind.i64 fine] 40)).alloc (Obj.cells #[Value.int IntKind.i64 0, Value.int IntKind.i64 0, Value.int IntKind.i64 0, Value.int IntKind.i64 0, Value.int IntKind.i64 0] 81)).heap[w.heap.size + 1]? = _) := heap_alloc2_new _ _ _
  generalize (w.alloc (Obj.cells #[Value.int IntKind.i64 n, Value.slice a lt cap, Value.slice ao ko co, Value.slice av kv cv, Value.int IntKind.i64 fine] 40)).alloc (Obj.cells #[Value.int IntKind.i64 0, Value.int IntKind.i64 0, Value.int IntKind.i64 0, Value.int IntKind.i64 0, Value.int IntKind.i64 0] 81) = W at *
  go_loopw [11] (fun t wr => ∃ k : Nat, k ≤ kv ∧ t = .int .i64 k ∧ (∀ j, j < k → og5 zs j 0 ≠ id) ∧ Below w.heap.size w wr ∧ wr.heap[w.heap.size + 1]? = some (.cells #[Value.int IntKind.i64 0, Value.int IntKind.i64 0, Value.int IntKind.i64 0, Value.int IntKind.i64 0, Value.int IntKind.i64 0] 81 (0, 0))) (fun t _ => kv - (intOf t).toNat)
  case atStart => exact ⟨0, Nat.zero_le _, rfl, fun j hj => by omega, HB0.out, Q0.out⟩
  case round =>
    clear HB0 Q0
    obtain ⟨k, hk, rfl, hno, hb, hq⟩ := hrel
    have HN : Hid (∀ j, j < k → og5 zs j 0 ≠ id) := hno
    have HB : Hid (Below w.heap.size w wr) := hb
    have HQ : Hid _ := hq
    obtain ⟨q0, q1, q2, q3, q4⟩ := cells5 hq
    have f0 := fun i => frozen_of_row _ _ i _ _ hq
    have hqlt := row_lt hq
    clear hno hb hq
    by_cases hlt : k < kv
    · obtain ⟨b, off, rfl, hcs⟩ := IntsAt.some (IntsAt.below HA.out HB.out) (j := k * 5) (by rw [HL.out]; omega)
      obtain ⟨r0, r1, r2, r3, r4⟩ := row5_at hcs HL.out k hlt
      clear hcs
      obtain ⟨o0, H0⟩ : ∃ t, Hid (og5 zs k 0 = t) := ⟨_, rfl⟩
      obtain ⟨o1, H1⟩ : ∃ t, Hid (og5 zs k 1 = t) := ⟨_, rfl⟩
      obtain ⟨o2, H2⟩ : ∃ t, Hid (og5 zs k 2 = t) := ⟨_, rfl⟩
      obtain ⟨o3, H3⟩ : ∃ t, Hid (og5 zs k 3 = t) := ⟨_, rfl⟩
      obtain ⟨o4, H4⟩ : ∃ t, Hid (og5 zs k 4 = t) := ⟨_, rfl⟩
      rw [H0.out] at r0
      rw [H1.out] at r1
      rw [H2.out] at r2
      rw [H3.out] at r3
      rw [H4.out] at r4
      have hlb := block_lt_of_cell r0
      simp at hlb
      by_cases he : o0 = id
      · have heb : (o0 == id) = true := by simp [he]
        have HF : Hid (fnd5 zs kv id = some k) := fnd5_at hlt (by rw [H0.out]; exact he) HN.out
        clear he
        go_wp2
        refine bodyPost_ret (v := .tuple #[.agg #[.int .i64 o0, .int .i64 o1, .int .i64 o2, .int .i64 o3, .int .i64 o4], .bool true]) (by simp [results, Try.results101, go_sem, hqlt, q0, q1, q2, q3, q4]) rfl ⟨?_, ?_⟩
        · rw [fnd5T_at HF.out]; simp only [fnd5F_at HF.out, H0.out, H1.out, H2.out, H3.out, H4.out]
        · repeat (first | with_reducible exact HB.out | with_reducible refine Below.setCell ?_ (by simp <;> omega) _ | with_reducible refine Below.alloc ?_ (by simp [World.setCell]; exact HB.out.size) _)
      · have heb : (o0 == id) = false := by simp [he]
        have HS : Hid (∀ j, j < k + 1 → og5 zs j 0 ≠ id) := noneToI5_step HN.out (by rw [H0.out]; exact he)
        clear he
        go_wp2
        refine ⟨⟨k + 1, by omega, by go_num, HS.out, HB.out.alloc HB.out.size _, ?_⟩, by simp [intOf]; omega⟩
        rw [heap_alloc_old _ _ (row_lt HQ.out)]; exact HQ.out
    · have hkx : k = kv := by omega
      have HF : Hid (fnd5 zs kv id = none) := fnd5_none (hkx ▸ HN.out)
      clear hkx
      go_wp2
      refine bodyPost_ret (v := .tuple #[.agg #[.int .i64 0, .int .i64 0, .int .i64 0, .int .i64 0, .int .i64 0], .bool false]) (by simp [results, Try.results101, go_sem, q0, q1, q2, q3, q4]) rfl ⟨?_, ?_⟩
      · rw [fnd5T_none HF.out]; simp only [fnd5F_none HF.out]
      · repeat (first | with_reducible exact HB.out | with_reducible refine Below.setCell ?_ (by simp <;> omega) _)

end Go.Proofs.Ytkmghjogmedpbaa

namespace Go.Proofs.Ytkmghjogmedpbaa
open Go.RowKit

theorem ints_set {W : World} {g o k i : Nat} {zs : List Int} {v : Value} (h : IntsAt W (some ⟨g, o, none⟩) zs) (hne : g ≠ k) : IntsAt (W.setCell ⟨k, i, none⟩ v) (some ⟨g, o, none⟩) zs := by
  intro j hj
  exact ⟨g, o, rfl, keep_set (ints_cell h hj rfl) hne⟩

theorem cells8 {w : World} {k : Nat} {c0 c1 c2 c3 c4 c5 c6 c7 : Value} {T : TypeId} (r : w.heap[k]? = some (.cells #[c0, c1, c2, c3, c4, c5, c6, c7] T (0, 0))) :
    w.cell? ⟨k, 0, none⟩ = some c0 ∧ w.cell? ⟨k, 1, none⟩ = some c1 ∧ w.cell? ⟨k, 2, none⟩ = some c2 ∧ w.cell? ⟨k, 3, none⟩ = some c3 ∧ w.cell? ⟨k, 4, none⟩ = some c4 ∧ w.cell? ⟨k, 5, none⟩ = some c5 ∧ w.cell? ⟨k, 6, none⟩ = some c6 ∧ w.cell? ⟨k, 7, none⟩ = some c7 := by
  refine ⟨?_, ?_, ?_, ?_, ?_, ?_, ?_, ?_⟩
  · rw [cell_of_row _ _ 0 _ _ _ r]; simp
  · rw [cell_of_row _ _ 1 _ _ _ r]; simp
  · rw [cell_of_row _ _ 2 _ _ _ r]; simp
  · rw [cell_of_row _ _ 3 _ _ _ r]; simp
  · rw [cell_of_row _ _ 4 _ _ _ r]; simp
  · rw [cell_of_row _ _ 5 _ _ _ r]; simp
  · rw [cell_of_row _ _ 6 _ _ _ r]; simp
  · rw [cell_of_row _ _ 7 _ _ _ r]; simp

/-- A case, a route and a tour in their boxes. -/
def CRT (w W : World) (cs rs ts : Array Value) : Prop := CR w W cs rs ∧ W.heap[w.heap.size + 2]? = some (.cells ts 83 (0, 0))
theorem CRT.new (w : World) (cs rs ts : Array Value) : CRT w (((w.alloc (.cells cs 40)).alloc (.cells rs 33)).alloc (.cells ts 83)) cs rs ts := by
  refine ⟨(CR.new w cs rs).alloc _, ?_⟩
  have := heap_alloc_new ((w.alloc (.cells cs 40)).alloc (.cells rs 33)) (.cells ts 83)
  simpa using this
theorem CRT.below {w W W' : World} {cs rs ts : Array Value} (h : CRT w W cs rs ts) (hb : Below W.heap.size W W') : CRT w W' cs rs ts :=
  ⟨h.1.below hb, below_row hb (row_lt h.2) h.2⟩
theorem CRT.b {w W : World} {cs rs ts : Array Value} (h : CRT w W cs rs ts) : Below w.heap.size w W := h.1.1
theorem CRT.alloc {w W : World} {cs rs ts : Array Value} (h : CRT w W cs rs ts) (o : Obj) : CRT w (W.alloc o) cs rs ts := h.below ((Below.refl _ _).alloc (Nat.le_refl _) _)

set_option maxHeartbeats 1000000 in
theorem loadedTour_any (n fine veh : Int) (a ao av bi : Option Addr) (cap ko co kv cv c2 : Nat) (zs os vs ids : List Int) (w : World) (hA : IntsAt w a zs) (hO : IntsAt w ao os) (hV : IntsAt w av vs) (hI : IntsAt w bi ids) (hlo : os.length = ko * 6) (hlv : vs.length = kv * 5) (hko : ko ≤ 9223372036854775807) (hkv : kv ≤ 9223372036854775807) (hli : ids.length ≤ 9223372036854775807) (hc2 : ids.length ≤ c2) (hcB : caseB n zs os vs ko kv fine = true) :
    Calls Try.prog 92 #[.agg #[.int .i64 n, .slice a zs.length cap, .slice ao ko co, .slice av kv cv, .int .i64 fine], .agg #[.int .i64 veh, .slice bi ids.length c2]] w fun e w' => Below w.heap.size w w' ∧ ((formV true vs os kv ko veh ids ≠ 0 ∧ e = .returned (.tuple #[.agg #[Value.int IntKind.i64 0, Value.slice none 0 0, Value.int IntKind.i64 0, Value.int IntKind.i64 0, Value.int IntKind.i64 0, Value.int IntKind.i64 0, Value.int IntKind.i64 0, Value.slice none 0 0], .int .i64 (formV true vs os kv ko veh ids)])) ∨ (formV true vs os kv ko veh ids = 0 ∧ ∃ g, w.heap.size ≤ g ∧ e = .returned (.tuple #[.agg #[.int .i64 n, .slice a zs.length cap, .int .i64 (fnd5F vs kv veh 0), .int .i64 (fnd5F vs kv veh 1), .int .i64 (fnd5F vs kv veh 2), .int .i64 (fnd5F vs kv veh 3), .int .i64 (fnd5F vs kv veh 4), .slice (some ⟨g, 0, none⟩) ids.length ids.length], .int .i64 0]) ∧ IntsAt w' (some ⟨g, 0, none⟩) (rosOf os ko ids))) := by
  have HA : Hid (IntsAt w a zs) := hA
  have HO : Hid (IntsAt w ao os) := hO
  have HV : Hid (IntsAt w av vs) := hV
  have HI : Hid (IntsAt w bi ids) := hI
  have HLO : Hid _ := hlo
  have HLV : Hid _ := hlv
  clear hA hO hV hI hlo hlv
  have HC : Hid (caseB n zs os vs ko kv fine = true) := hcB
  clear hcB
  have HC0 : Hid (CRT w (((w.alloc (.cells #[Value.int IntKind.i64 n, Value.slice a zs.length cap, Value.slice ao ko co, Value.slice av kv cv, Value.int IntKind.i64 fine] 40)).alloc (.cells #[Value.int IntKind.i64 veh, Value.slice bi ids.length c2] 33)).alloc (.cells #[Value.int IntKind.i64 0, Value.slice none 0 0, Value.int IntKind.i64 0, Value.int IntKind.i64 0, Value.int IntKind.i64 0, Value.int IntKind.i64 0, Value.int IntKind.i64 0, Value.slice none 0 0] 83)) _ _ _) := CRT.new w _ _ _
  obtain ⟨r, HR⟩ : ∃ r, Hid (formV true vs os kv ko veh ids = r) := ⟨_, rfl⟩
  rw [HR.out]
  go_enter Try.func92, Try.ntmps92
  obtain ⟨c0, c1, c2', c3, c4⟩ := cells5 HC0.out.1.2.1
  obtain ⟨d0, d1⟩ := cells2 HC0.out.1.2.2
  go_wp2_with fail
  clear c0 c1 c2' c3 c4 d0 d1
  refine (findVehicle_any n fine veh a ao av _ cap ko co kv cv vs _ (HV.out.below HC0.out.1.1) HLV.out hkv).mono ?_
  rintro e w2 ⟨rfl, hb⟩
  obtain ⟨v0, G0⟩ : ∃ t, Hid (fnd5F vs kv veh 0 = t) := ⟨_, rfl⟩
  obtain ⟨v1, G1⟩ : ∃ t, Hid (fnd5F vs kv veh 1 = t) := ⟨_, rfl⟩
  obtain ⟨v2, G2⟩ : ∃ t, Hid (fnd5F vs kv veh 2 = t) := ⟨_, rfl⟩
  obtain ⟨v3, G3⟩ : ∃ t, Hid (fnd5F vs kv veh 3 = t) := ⟨_, rfl⟩
  obtain ⟨v4, G4⟩ : ∃ t, Hid (fnd5F vs kv veh 4 = t) := ⟨_, rfl⟩
  rw [G0.out, G1.out, G2.out, G3.out, G4.out]
  have C2 : Hid (CRT w (w2.alloc (Obj.cells #[Value.int IntKind.i64 v0, Value.int IntKind.i64 v1, Value.int IntKind.i64 v2, Value.int IntKind.i64 v3, Value.int IntKind.i64 v4] 81)) _ _ _) := (HC0.out.below hb).alloc _
  have RV2 : Hid ((w2.alloc (Obj.cells #[Value.int IntKind.i64 v0, Value.int IntKind.i64 v1, Value.int IntKind.i64 v2, Value.int IntKind.i64 v3, Value.int IntKind.i64 v4] 81)).heap[w2.heap.size]? = _) := heap_alloc_new _ _
  clear hb HC0
  obtain ⟨t0, t1, t2, t3, t4, t5, t6, t7⟩ := cells8 C2.out.2
  have tf := fun i => frozen_of_row _ _ i _ _ C2.out.2
  cases ht : fnd5T vs kv veh
  · have HV1 : Hid (r = 2) := HR.out.symm.trans (formV_2 rfl ht)
    go_wp2
    refine bodyPost_ret (v := .tuple #[.agg #[Value.int IntKind.i64 0, Value.slice none 0 0, Value.int IntKind.i64 0, Value.int IntKind.i64 0, Value.int IntKind.i64 0, Value.int IntKind.i64 0, Value.int IntKind.i64 0, Value.slice none 0 0], .int .i64 2]) (by simp [results, Try.results92, go_sem, t0, t1, t2, t3, t4, t5, t6, t7]) rfl ⟨?_, .inl ⟨by rw [HV1.out]; decide, by rw [HV1.out]⟩⟩
    repeat (first | with_reducible exact C2.out.b | refine Below.setCell ?_ (by simp <;> omega) _)
  · have HT5 : Hid _ := ht
    clear ht
    obtain ⟨c0, c1, c2', c3, c4⟩ := cells5 C2.out.1.2.1
    obtain ⟨d0, d1⟩ := cells2 C2.out.1.2.2
    go_wp2_with fail
    clear c0 c1 c2' c3 c4 d0 d1 t0 t1 t2 t3 t4 t5 t6 t7 tf
    generalize w2.alloc (Obj.cells #[Value.int IntKind.i64 v0, Value.int IntKind.i64 v1, Value.int IntKind.i64 v2, Value.int IntKind.i64 v3, Value.int IntKind.i64 v4] 81) = W2 at *
    generalize w2.heap.size = gv at *
    refine (stopsOf_any n fine a ao av bi cap ko co kv cv c2 zs os ids W2 (HO.out.below C2.out.1.1) (HI.out.below C2.out.1.1) HLO.out hko hli hc2).mono ?_
    rintro e w3 ⟨hb, ⟨hst, rfl⟩ | ⟨hst, rfl, hros⟩⟩
    · have C3 : Hid (CRT w w3 _ _ _) := C2.out.below hb
      have HV1 : Hid (r = 3) := HR.out.symm.trans (formV_3 rfl HT5.out hst)
      obtain ⟨t0, t1, t2, t3, t4, t5, t6, t7⟩ := cells8 C3.out.2
      have tf := fun i => frozen_of_row _ _ i _ _ C3.out.2
      clear hb hst
      go_wp2
      refine bodyPost_ret (v := .tuple #[.agg #[Value.int IntKind.i64 0, Value.slice none 0 0, Value.int IntKind.i64 0, Value.int IntKind.i64 0, Value.int IntKind.i64 0, Value.int IntKind.i64 0, Value.int IntKind.i64 0, Value.slice none 0 0], .int .i64 3]) (by simp [results, Try.results92, go_sem, t0, t1, t2, t3, t4, t5, t6, t7]) rfl ⟨?_, .inl ⟨by rw [HV1.out]; decide, by rw [HV1.out]⟩⟩
      repeat (first | with_reducible exact C3.out.b | refine Below.setCell ?_ (by simp <;> omega) _)
    · have HST : Hid (stopsB os ko ids = true) := hst
      have C3 : Hid (CRT w w3 _ _ _) := C2.out.below hb
      have RV3 : Hid (w3.heap[gv]? = _) := below_row hb (row_lt RV2.out) RV2.out
      have HROS : Hid (IntsAt w3 (some ⟨W2.heap.size + 1, 0, none⟩) (rosOf os ko ids)) := hros
      have HGR : Hid (w.heap.size + 2 < W2.heap.size + 1) := Nat.lt_succ_of_lt (row_lt C2.out.2)
      clear hb hst hros C2 RV2
      generalize W2.heap.size + 1 = gr at *
      obtain ⟨q0, q1, q2, q3, q4⟩ := cells5 RV3.out
      obtain ⟨hmat, hords, hvehs, hn1, _⟩ := caseB_parts HC.out
      have hroom := (fnd5F_bd hvehs hn1 veh).2.1
      rw [G2.out] at hroom
      have HOB : Hid (ordsB n os ko = true) := hords
      have HN1 : Hid (1 ≤ n) := hn1
      clear hmat hords hvehs hn1
      have h12 := (stopsB_true HST.out).1
      go_wp2_with fail
      clear q0 q1 q2 q3 q4
      go_loopw [9, 36] (fun rm t wr => ∃ k : Nat, k ≤ ids.length ∧ t = .int .i64 k ∧ rm = .int .i64 (v2 - loadTo os ko ids k) ∧ CRT w wr #[Value.int IntKind.i64 n, Value.slice a zs.length cap, Value.slice ao ko co, Value.slice av kv cv, Value.int IntKind.i64 fine] #[Value.int IntKind.i64 veh, Value.slice bi ids.length c2] #[Value.int IntKind.i64 0, Value.slice none 0 0, Value.int IntKind.i64 0, Value.int IntKind.i64 0, Value.int IntKind.i64 0, Value.int IntKind.i64 0, Value.int IntKind.i64 0, Value.slice none 0 0] ∧ wr.heap[gv]? = some (.cells #[Value.int IntKind.i64 v0, Value.int IntKind.i64 v1, Value.int IntKind.i64 v2, Value.int IntKind.i64 v3, Value.int IntKind.i64 v4] 81 (0, 0)) ∧ IntsAt wr (some ⟨gr, 0, none⟩) (rosOf os ko ids)) (fun _ t _ => ids.length - (intOf t).toNat)
      case atStart => exact ⟨0, Nat.zero_le _, rfl, by simp [loadTo], C3.out, RV3.out, HROS.out⟩
      case round =>
        clear C3 RV3 HROS
        obtain ⟨k, hk, rfl, rfl, hb, hrv, hros⟩ := hrel
        have hbd := loadTo_bd HOB.out ids k
        have HB : Hid (CRT w wr _ _ _) := hb
        have HRV : Hid (wr.heap[gv]? = _) := hrv
        have HROS : Hid (IntsAt wr (some ⟨gr, 0, none⟩) (rosOf os ko ids)) := hros
        obtain ⟨s0, HS0⟩ : ∃ s, Hid (loadTo os ko ids k = s) := ⟨_, rfl⟩
        rw [HS0.out] at hbd ⊢
        clear hb hrv hros
        by_cases hlt : k < ids.length
        · obtain ⟨b', off', e, hcs⟩ := IntsAt.some HROS.out (j := k * 6) (by rw [rosOf_length]; omega)
          simp at e
          obtain ⟨rfl, rfl⟩ := e
          obtain ⟨r0, r1, r2, r3, r4, r5⟩ := row6_at hcs (rosOf_length os ko ids) k hlt
          clear hcs
          simp only [Nat.zero_add] at r0 r1 r2 r3 r4 r5
          obtain ⟨id, HID⟩ : ∃ i, Hid (ids.getD k 0 = i) := ⟨_, rfl⟩
          rw [rosOf_at os ko ids hlt (by omega), HID.out] at r0 r1 r2 r3 r4 r5
          have hl2 := fnd6F_load HOB.out id
          obtain ⟨o0, H0⟩ : ∃ t, Hid (fnd6F os ko id 0 = t) := ⟨_, rfl⟩
          obtain ⟨o1, H1⟩ : ∃ t, Hid (fnd6F os ko id 1 = t) := ⟨_, rfl⟩
          obtain ⟨o2, H2⟩ : ∃ t, Hid (fnd6F os ko id 2 = t) := ⟨_, rfl⟩
          obtain ⟨o3, H3⟩ : ∃ t, Hid (fnd6F os ko id 3 = t) := ⟨_, rfl⟩
          obtain ⟨o4, H4⟩ : ∃ t, Hid (fnd6F os ko id 4 = t) := ⟨_, rfl⟩
          obtain ⟨o5, H5⟩ : ∃ t, Hid (fnd6F os ko id 5 = t) := ⟨_, rfl⟩
          rw [H2.out] at hl2
          rw [H0.out] at r0
          rw [H1.out] at r1
          rw [H2.out] at r2
          rw [H3.out] at r3
          rw [H4.out] at r4
          rw [H5.out] at r5
          have HL1 : Hid (loadTo os ko ids (k + 1) = s0 + o2) := by
            show _ = _
            unfold loadTo
            rw [HS0.out, HID.out, H2.out]
          go_wp2
          exact ⟨⟨k + 1, by omega, by go_num, by rw [HL1.out]; go_num, HB.out.alloc _, (heap_alloc_old _ _ (row_lt HRV.out)).trans HRV.out, HROS.out.below ((Below.refl _ _).alloc (Nat.le_refl _) _)⟩, by simp [intOf]; omega⟩
        · have hkl : k = ids.length := by omega
          have HS0' : Hid (loadTo os ko ids ids.length = s0) := hkl ▸ HS0.out
          obtain ⟨t0, t1, t2, t3, t4, t5, t6, t7⟩ := cells8 HB.out.2
          have tf := fun i => frozen_of_row _ _ i _ _ HB.out.2
          clear hkl
          by_cases hroom2 : v2 < s0
          · have HV1 : Hid (r = 4) := HR.out.symm.trans (formV_4 rfl HT5.out HST.out (by rw [HS0'.out, G2.out]; exact hroom2))
            go_wp2
            refine bodyPost_ret (v := .tuple #[.agg #[Value.int IntKind.i64 0, Value.slice none 0 0, Value.int IntKind.i64 0, Value.int IntKind.i64 0, Value.int IntKind.i64 0, Value.int IntKind.i64 0, Value.int IntKind.i64 0, Value.slice none 0 0], .int .i64 4]) (by simp [results, Try.results92, go_sem, t0, t1, t2, t3, t4, t5, t6, t7]) rfl ⟨?_, .inl ⟨by rw [HV1.out]; decide, by rw [HV1.out]⟩⟩
            repeat (first | with_reducible exact HB.out.b | refine Below.setCell ?_ (by simp <;> omega) _)
          · have HV1 : Hid (r = 0) := HR.out.symm.trans (formV_0 rfl HT5.out HST.out (by rw [HS0'.out, G2.out]; exact hroom2))
            obtain ⟨q0, q1, q2, q3, q4⟩ := cells5 HRV.out
            obtain ⟨c0, c1, c2', c3, c4⟩ := cells5 HB.out.1.2.1
            go_wp2
            refine bodyPost_ret (v := .tuple #[.agg #[.int .i64 n, .slice a zs.length cap, .int .i64 v0, .int .i64 v1, .int .i64 v2, .int .i64 v3, .int .i64 v4, .slice (some ⟨gr, 0, none⟩) ids.length ids.length], .int .i64 0]) (by simp [results, Try.results92, go_sem, t0, t1, t2, t3, t4, t5, t6, t7]) rfl ⟨?_, .inr ⟨HV1.out, gr, by have := HGR.out; omega, ?_, ?_⟩⟩
            · repeat (first | with_reducible exact HB.out.b | refine Below.setCell ?_ (by simp <;> omega) _)
            · rw [G0.out, G1.out, G2.out, G3.out, G4.out]
            · repeat (first | with_reducible exact HROS.out | with_reducible refine ints_set ?_ (by have := HGR.out; omega))

end Go.Proofs.Ytkmghjogmedpbaa

namespace Go.Proofs.Ytkmghjogmedpbaa
open Go.RowKit

set_option maxHeartbeats 400000 in
theorem l1Time_any (n x y : Nat) (a : Option Addr) (len cap : Nat) (zs : List Int) (w : World) (hn : n ≤ 16) (hx : x < n) (hy : y < n) (hl : zs.length = n * n) (hlen : len = n * n) (hA : IntsAt w a zs) :
    Calls Try.prog 66 #[.agg #[.int .i64 n, .slice a len cap], .int .i64 x, .int .i64 y] w fun e w' => e = .returned (.int .i64 (zs.getD (x * n + y) 0)) ∧ Below w.heap.size w w' := by
  subst hlen
  have hnn : n * n ≤ 256 := mul_bd n n hn hn
  have hxy : x * n + y < n * n := by
    have := Nat.mul_le_mul_right n (show x + 1 ≤ n by omega)
    rw [Nat.add_mul] at this
    omega
  obtain ⟨bb, off, rfl, hcs⟩ := hA.some (j := x * n + y) (by omega)
  have ct := hcs (x * n + y) (by omega)
  have hlt := block_lt_of_cell ct
  clear hcs hA
  generalize zs.getD (x * n + y) 0 = t at ct
  have hwm : wrap64 ((x : Int) * (n : Int)) = (x : Int) * (n : Int) := IntWalk.wrap64_in _ (by rw [← Int.natCast_mul]; omega)
  simp at hlt
  clear hl
  go_enter Try.func66, Try.ntmps66
  go_wp2
  go_ret
  exact ⟨rfl, (Below.refl _ _).alloc (Nat.le_refl _) _⟩

theorem l1Time_tm (n x y : Nat) (a : Option Addr) (cap : Nat) (zs : List Int) (w : World) (hn : n ≤ 16) (hx : x < n) (hy : y < n) (hl : zs.length = n * n) (hA : IntsAt w a zs) :
    Calls Try.prog 66 #[.agg #[.int .i64 n, .slice a zs.length cap], .int .i64 x, .int .i64 y] w fun e w' => e = .returned (.int .i64 (tm n zs x y)) ∧ Below w.heap.size w w' :=
  l1Time_any n x y a zs.length cap zs w hn hx hy hl hl hA

end Go.Proofs.Ytkmghjogmedpbaa

namespace Go.Proofs.Ytkmghjogmedpbaa
open Go.RowKit

theorem l1Time_I (n x y : Int) (a : Option Addr) (cap : Nat) (zs : List Int) (w : World) (hm : matB n zs = true) (hx : 0 ≤ x ∧ x < n) (hy : 0 ≤ y ∧ y < n) (hA : IntsAt w a zs) :
    Calls Try.prog 66 #[.agg #[.int .i64 n, .slice a zs.length cap], .int .i64 x, .int .i64 y] w fun e w' => e = .returned (.int .i64 (tmI n zs x y)) ∧ Below w.heap.size w w' := by
  obtain ⟨h1, h2, h3, _⟩ := matB_true hm
  obtain ⟨N, rfl⟩ : ∃ N : Nat, n = N := ⟨n.toNat, by omega⟩
  obtain ⟨X, rfl⟩ : ∃ X : Nat, x = X := ⟨x.toNat, by omega⟩
  obtain ⟨Y, rfl⟩ : ∃ Y : Nat, y = Y := ⟨y.toNat, by omega⟩
  have hl : zs.length = N * N := by rw [← Int.natCast_mul] at h3; omega
  exact l1Time_any N X Y a zs.length cap zs w (by omega) (by omega) (by omega) hl hl hA

set_option maxHeartbeats 400000 in
theorem drive_nat (n x y : Nat) (v0 v1 v2 v3 v4 : Int) (a ar : Option Addr) (len cap kr cr : Nat) (zs : List Int) (w : World) (hn : n ≤ 16) (hx : x < n) (hy : y < n) (hl : zs.length = n * n) (hlen : len = n * n) (hA : IntsAt w a zs) :
    Calls Try.prog 105 #[.agg #[.int .i64 n, .slice a len cap, .int .i64 v0, .int .i64 v1, .int .i64 v2, .int .i64 v3, .int .i64 v4, .slice ar kr cr], .int .i64 x, .int .i64 y] w fun e w' => e = .returned (.int .i64 (zs.getD (x * n + y) 0)) ∧ Below w.heap.size w w' := by
  subst hlen
  have hnn : n * n ≤ 256 := mul_bd n n hn hn
  have hxy : x * n + y < n * n := by
    have := Nat.mul_le_mul_right n (show x + 1 ≤ n by omega)
    rw [Nat.add_mul] at this
    omega
  obtain ⟨bb, off, rfl, hcs⟩ := hA.some (j := x * n + y) (by omega)
  have ct := hcs (x * n + y) (by omega)
  have hlt := block_lt_of_cell ct
  clear hcs hA
  generalize zs.getD (x * n + y) 0 = t at ct
  have hwm : wrap64 ((x : Int) * (n : Int)) = (x : Int) * (n : Int) := IntWalk.wrap64_in _ (by rw [← Int.natCast_mul]; omega)
  simp at hlt
  clear hl
  go_enter Try.func105, Try.ntmps105
  go_wp2
  go_ret
  exact ⟨rfl, (Below.refl _ _).alloc (Nat.le_refl _) _⟩

theorem drive_I (n x y : Int) (v0 v1 v2 v3 v4 : Int) (a ar : Option Addr) (cap kr cr : Nat) (zs : List Int) (w : World) (hm : matB n zs = true) (hx : 0 ≤ x ∧ x < n) (hy : 0 ≤ y ∧ y < n) (hA : IntsAt w a zs) :
    Calls Try.prog 105 #[.agg #[.int .i64 n, .slice a zs.length cap, .int .i64 v0, .int .i64 v1, .int .i64 v2, .int .i64 v3, .int .i64 v4, .slice ar kr cr], .int .i64 x, .int .i64 y] w fun e w' => e = .returned (.int .i64 (tmI n zs x y)) ∧ Below w.heap.size w w' := by
  obtain ⟨h1, h2, h3, _⟩ := matB_true hm
  obtain ⟨N, rfl⟩ : ∃ N : Nat, n = N := ⟨n.toNat, by omega⟩
  obtain ⟨X, rfl⟩ : ∃ X : Nat, x = X := ⟨x.toNat, by omega⟩
  obtain ⟨Y, rfl⟩ : ∃ Y : Nat, y = Y := ⟨y.toNat, by omega⟩
  have hl : zs.length = N * N := by rw [← Int.natCast_mul] at h3; omega
  exact drive_nat N X Y _ _ _ _ _ a ar zs.length cap kr cr zs w (by omega) (by omega) (by omega) hl hl hA

end Go.Proofs.Ytkmghjogmedpbaa

namespace Go.Proofs.Ytkmghjogmedpbaa
open Go.RowKit

set_option maxHeartbeats 400000 in
theorem within_any (n lo hi : Int) (w : World) :
    Calls Try.prog 71 #[.int .i64 n, .int .i64 lo, .int .i64 hi] w fun e w' => e = .returned (.bool (inB n lo hi)) ∧ w' = w := by
  by_cases h1 : lo ≤ n
  · by_cases h2 : n ≤ hi
    · have h3 : inB n lo hi = true := inB_mk ⟨h1, h2⟩
      rw [h3]
      go_enter Try.func71, Try.ntmps71
      go_wp2
      go_ret
      exact ⟨by simp, rfl⟩
    · have h3 : inB n lo hi = false := inB_not (by omega)
      rw [h3]
      go_enter Try.func71, Try.ntmps71
      go_wp2
      go_ret
      exact ⟨by simp, rfl⟩
  · have h3 : inB n lo hi = false := inB_not (by omega)
    rw [h3]
    go_enter Try.func71, Try.ntmps71
    go_wp2
    go_ret
    exact ⟨by simp, rfl⟩

end Go.Proofs.Ytkmghjogmedpbaa

namespace Go.Proofs.Ytkmghjogmedpbaa
open Go.RowKit

theorem keptAt_mk {n : Int} {zs ros starts : List Int} {home frm : Int} {k : Nat} {t f p o1 o3 o4 d : Int} (ht : starts.getD k 0 = t) (hf : freeK ros starts frm k = f) (hp : plc ros home k = p) (h1 : og6 ros k 1 = o1) (h3 : og6 ros k 3 = o3) (h4 : og6 ros k 4 = o4) (hd : tmI n zs p o1 = d) :
    keptAt n zs ros starts home frm k = inB t (max o3 (f + d)) o4 := by
  unfold keptAt
  rw [ht, hf, hp, h1, h3, h4, hd]

theorem max_if (x y : Int) : (if x < y then y else x) = max x y := by
  split <;> omega

theorem drive_is (n x y : Int) (v0 v1 v2 v3 v4 : Int) (a ar : Option Addr) (cap kr cr : Nat) (zs : List Int) (w : World) (d : Int) (hd : tmI n zs x y = d) (hm : matB n zs = true) (hx : 0 ≤ x ∧ x < n) (hy : 0 ≤ y ∧ y < n) (hA : IntsAt w a zs) :
    Calls Try.prog 105 #[.agg #[.int .i64 n, .slice a zs.length cap, .int .i64 v0, .int .i64 v1, .int .i64 v2, .int .i64 v3, .int .i64 v4, .slice ar kr cr], .int .i64 x, .int .i64 y] w fun e w' => e = .returned (.int .i64 d) ∧ Below w.heap.size w w' := hd ▸ drive_I n x y v0 v1 v2 v3 v4 a ar cap kr cr zs w hm hx hy hA
theorem within_is (n lo hi : Int) (w : World) (v : Bool) (hv : inB n lo hi = v) :
    Calls Try.prog 71 #[.int .i64 n, .int .i64 lo, .int .i64 hi] w fun e w' => e = .returned (.bool v) ∧ w' = w := hv ▸ within_any n lo hi w

end Go.Proofs.Ytkmghjogmedpbaa

namespace Go.Proofs.Ytkmghjogmedpbaa
open Go.RowKit

set_option maxHeartbeats 400000 in
theorem l1In_any (n lo hi : Int) (w : World) :
    Calls Try.prog 35 #[.int .i64 n, .int .i64 lo, .int .i64 hi] w fun e w' => e = .returned (.bool (inB n lo hi)) ∧ w' = w := by
  by_cases h1 : lo ≤ n
  · by_cases h2 : n ≤ hi
    · have h3 : inB n lo hi = true := inB_mk ⟨h1, h2⟩
      rw [h3]
      go_enter Try.func35, Try.ntmps35
      go_wp2
      go_ret
      exact ⟨by simp, rfl⟩
    · have h3 : inB n lo hi = false := inB_not (by omega)
      rw [h3]
      go_enter Try.func35, Try.ntmps35
      go_wp2
      go_ret
      exact ⟨by simp, rfl⟩
  · have h3 : inB n lo hi = false := inB_not (by omega)
    rw [h3]
    go_enter Try.func35, Try.ntmps35
    go_wp2
    go_ret
    exact ⟨by simp, rfl⟩

end Go.Proofs.Ytkmghjogmedpbaa

namespace Go.Proofs.Ytkmghjogmedpbaa
open Go.RowKit

set_option maxHeartbeats 400000 in
theorem l2Order_any (n o0 o1 o2 o3 o4 o5 : Int) (w : World) (hn1 : 1 ≤ n) (hn2 : n ≤ 16) :
    Calls Try.prog 107 #[.agg #[.int .i64 o0, .int .i64 o1, .int .i64 o2, .int .i64 o3, .int .i64 o4, .int .i64 o5], .int .i64 n] w fun e w' => e = .returned (.bool (ordB n o0 o1 o2 o3 o4 o5)) ∧ Below w.heap.size w w' := by
  cases h0 : inB o0 1 1000000000
  · go_enter Try.func107, Try.ntmps107
    go_wp2_with (first | (go_at_call 35; refine (l1In_any _ _ _ _).mono ?_; rintro e w' ⟨rfl, rfl⟩))
    go_ret
    exact ⟨ret_bool (by simp [ordB, ordIn, hoursB, h0]), (Below.refl _ _).alloc (Nat.le_refl _) _⟩
  · cases h1 : inB o1 0 (n - 1)
    · go_enter Try.func107, Try.ntmps107
      go_wp2_with (first | (go_at_call 35; refine (l1In_any _ _ _ _).mono ?_; rintro e w' ⟨rfl, rfl⟩))
      go_ret
      exact ⟨ret_bool (by simp [ordB, ordIn, hoursB, h0, h1]), (Below.refl _ _).alloc (Nat.le_refl _) _⟩
    · cases h2 : inB o2 0 1000
      · go_enter Try.func107, Try.ntmps107
        go_wp2_with (first | (go_at_call 35; refine (l1In_any _ _ _ _).mono ?_; rintro e w' ⟨rfl, rfl⟩))
        go_ret
        exact ⟨ret_bool (by simp [ordB, ordIn, hoursB, h0, h1, h2]), (Below.refl _ _).alloc (Nat.le_refl _) _⟩
      · cases h3 : inB o3 0 1000000
        · go_enter Try.func107, Try.ntmps107
          go_wp2_with (first | (go_at_call 35; refine (l1In_any _ _ _ _).mono ?_; rintro e w' ⟨rfl, rfl⟩))
          go_ret
          exact ⟨ret_bool (by simp [ordB, ordIn, hoursB, h0, h1, h2, h3]), (Below.refl _ _).alloc (Nat.le_refl _) _⟩
        · cases h4 : inB o4 o3 1000000
          · go_enter Try.func107, Try.ntmps107
            go_wp2_with (first | (go_at_call 35; refine (l1In_any _ _ _ _).mono ?_; rintro e w' ⟨rfl, rfl⟩))
            go_ret
            exact ⟨ret_bool (by simp [ordB, ordIn, hoursB, h0, h1, h2, h3, h4]), (Below.refl _ _).alloc (Nat.le_refl _) _⟩
          · cases h5 : inB o5 0 10000
            · go_enter Try.func107, Try.ntmps107
              go_wp2_with (first | (go_at_call 35; refine (l1In_any _ _ _ _).mono ?_; rintro e w' ⟨rfl, rfl⟩))
              go_ret
              exact ⟨ret_bool (by simp [ordB, ordIn, hoursB, h0, h1, h2, h3, h4, h5]), (Below.refl _ _).alloc (Nat.le_refl _) _⟩
            · go_enter Try.func107, Try.ntmps107
              go_wp2_with (first | (go_at_call 35; refine (l1In_any _ _ _ _).mono ?_; rintro e w' ⟨rfl, rfl⟩))
              go_ret
              exact ⟨ret_bool (by simp [ordB, ordIn, hoursB, h0, h1, h2, h3, h4, h5]), (Below.refl _ _).alloc (Nat.le_refl _) _⟩

set_option maxHeartbeats 400000 in
theorem l2Vehicle_any (n o0 o1 o2 o3 o4 : Int) (w : World) (hn1 : 1 ≤ n) (hn2 : n ≤ 16) :
    Calls Try.prog 108 #[.agg #[.int .i64 o0, .int .i64 o1, .int .i64 o2, .int .i64 o3, .int .i64 o4], .int .i64 n] w fun e w' => e = .returned (.bool (vehB n o0 o1 o2 o3 o4)) ∧ Below w.heap.size w w' := by
  cases h0 : inB o0 1 1000000000
  · go_enter Try.func108, Try.ntmps108
    go_wp2_with (first | (go_at_call 35; refine (l1In_any _ _ _ _).mono ?_; rintro e w' ⟨rfl, rfl⟩))
    go_ret
    exact ⟨ret_bool (by simp [vehB, vehIn, hoursB, h0]), (Below.refl _ _).alloc (Nat.le_refl _) _⟩
  · cases h1 : inB o1 0 (n - 1)
    · go_enter Try.func108, Try.ntmps108
      go_wp2_with (first | (go_at_call 35; refine (l1In_any _ _ _ _).mono ?_; rintro e w' ⟨rfl, rfl⟩))
      go_ret
      exact ⟨ret_bool (by simp [vehB, vehIn, hoursB, h0, h1]), (Below.refl _ _).alloc (Nat.le_refl _) _⟩
    · cases h2 : inB o2 0 1000
      · go_enter Try.func108, Try.ntmps108
        go_wp2_with (first | (go_at_call 35; refine (l1In_any _ _ _ _).mono ?_; rintro e w' ⟨rfl, rfl⟩))
        go_ret
        exact ⟨ret_bool (by simp [vehB, vehIn, hoursB, h0, h1, h2]), (Below.refl _ _).alloc (Nat.le_refl _) _⟩
      · cases h3 : inB o3 0 1000000
        · go_enter Try.func108, Try.ntmps108
          go_wp2_with (first | (go_at_call 35; refine (l1In_any _ _ _ _).mono ?_; rintro e w' ⟨rfl, rfl⟩))
          go_ret
          exact ⟨ret_bool (by simp [vehB, vehIn, hoursB, h0, h1, h2, h3]), (Below.refl _ _).alloc (Nat.le_refl _) _⟩
        · cases h4 : inB o4 o3 1000000
          · go_enter Try.func108, Try.ntmps108
            go_wp2_with (first | (go_at_call 35; refine (l1In_any _ _ _ _).mono ?_; rintro e w' ⟨rfl, rfl⟩))
            go_ret
            exact ⟨ret_bool (by simp [vehB, vehIn, hoursB, h0, h1, h2, h3, h4]), (Below.refl _ _).alloc (Nat.le_refl _) _⟩
          · go_enter Try.func108, Try.ntmps108
            go_wp2_with (first | (go_at_call 35; refine (l1In_any _ _ _ _).mono ?_; rintro e w' ⟨rfl, rfl⟩))
            go_ret
            exact ⟨ret_bool (by simp [vehB, vehIn, hoursB, h0, h1, h2, h3, h4]), (Below.refl _ _).alloc (Nat.le_refl _) _⟩

end Go.Proofs.Ytkmghjogmedpbaa

namespace Go.Proofs.Ytkmghjogmedpbaa
open Go.RowKit

set_option maxHeartbeats 1000000 in
theorem specMat_loop (n : Nat) (a : Option Addr) (cap : Nat) (zs : List Int) (w : World) (h1 : 1 ≤ n) (h2 : n ≤ 16) (hl : zs.length = n * n) (hA : IntsAt w a zs) :
    Calls Try.prog 106 #[.agg #[.int .i64 n, .slice a zs.length cap]] w fun e w' => e = .returned (.bool (matB n zs)) ∧ Below w.heap.size w w' := by
  have hnn : n * n ≤ 256 := mul_bd n n h2 h2
  have hd1 : inB (n : Int) 1 16 = true := inB_mk (by omega)
  have hnw : wrap64 ((n : Int) * (n : Int)) = (n : Int) * (n : Int) := IntWalk.wrap64_in _ (by rw [← Int.natCast_mul]; omega)
  have hn0 : ¬ n = 0 := by omega
  have HA : Hid (IntsAt w a zs) := hA
  clear hA
  rw [hl]
  have HL : Hid (zs.length = n * n) := hl
  clear hl
  go_enter Try.func106, Try.ntmps106
  go_wp2_with (go_at_call 35; refine (l1In_any _ _ _ _).mono ?_; rintro e w' ⟨rfl, rfl⟩)
  go_loopw [3] (fun t wr => ∃ k : Nat, k ≤ n * n ∧ t = .int .i64 k ∧ Below w.heap.size w wr ∧ wr.heap[w.heap.size]? = some (.cells #[.int .i64 n, .slice a (n * n) cap] 36 (0, 0)) ∧ (∀ i, i < k → 0 ≤ zs.getD i 0 ∧ zs.getD i 0 ≤ 10000 ∧ (i / n = i % n → zs.getD i 0 = 0))) (fun t _ => n * n - (intOf t).toNat)
  case atStart => exact ⟨0, Nat.zero_le _, rfl, (Below.refl _ _).alloc (Nat.le_refl _) _, heap_alloc_new _ _, fun i hi => by omega⟩
  case round =>
    obtain ⟨k, hk, rfl, hb, g3, hok⟩ := hrel
    have c0 := cell_of_row _ _ 0 _ _ _ g3
    have c1 := cell_of_row _ _ 1 _ _ _ g3
    simp at c0 c1
    have HO : Hid (∀ i, i < k → 0 ≤ zs.getD i 0 ∧ zs.getD i 0 ≤ 10000 ∧ (i / n = i % n → zs.getD i 0 = 0)) := hok
    have G3 : Hid _ := g3
    have HB : Hid _ := hb
    clear hok
    by_cases hlt : k < n * n
    · obtain ⟨bb, off, rfl, hcs⟩ := IntsAt.some (IntsAt.below HA.out hb) (j := k) (by rw [HL.out]; exact hlt)
      have ct := hcs k (by rw [HL.out]; exact hlt)
      clear hcs
      generalize htt : zs.getD k 0 = t at ct
      have HT : Hid (zs.getD k 0 = t) := htt
      clear htt g3 hb
      have hw1 : IntKind.i64.wrap ((k : Int) / (n : Int)) = (k : Int) / (n : Int) := by
        rw [IntKind.wrap_i64, ← Int.natCast_ediv]
        have hq := Nat.div_le_self k n
        generalize k / n = q at hq
        omega
      have hw2 : (k : Int).tmod (n : Int) = (k : Int) % (n : Int) := Int.tmod_eq_emod_of_nonneg (by omega)
      have hlt' : (k : Int) < (n : Int) * (n : Int) := by rw [← Int.natCast_mul]; omega
      by_cases hv : 0 ≤ t ∧ t ≤ 10000
      · have hvd : inB t 0 10000 = true := inB_mk hv
        by_cases hq : k / n = k % n
        · have hqb : ((k : Int) / (n : Int) == (k : Int) % (n : Int)) = true := by simp; omega
          by_cases ht0 : t = 0
          · have htb : (t != 0) = false := by simp [ht0]
            have HS : Hid (∀ i, i < k + 1 → 0 ≤ zs.getD i 0 ∧ zs.getD i 0 ≤ 10000 ∧ (i / n = i % n → zs.getD i 0 = 0)) := by
              intro i hi
              by_cases e : i = k
              · rw [e, HT.out]; exact ⟨hv.1, hv.2, fun _ => ht0⟩
              · exact HO.out i (by omega)
            clear HO hq ht0
            go_wp2
            go_quiet ((go_at_call 35; exact Calls.quiet_of_same (l1In_any _ _ _ _)))
            go_wp2
            refine ⟨⟨k + 1, by omega, by go_num, below_drewN HB.out _, G3.out, HS.out⟩, by simp [intOf]; omega⟩
          · have htb : (t != 0) = true := by simp [ht0]
            have HN : Hid (matB n zs = false) := matB_at n zs HL.out k hlt (by rw [HT.out]; exact fun h => ht0 (h.2.2 hq))
            clear HO hq ht0
            go_wp2
            go_quiet ((go_at_call 35; exact Calls.quiet_of_same (l1In_any _ _ _ _)))
            go_wp2
            go_ret
            exact ⟨ret_bool HN.out.symm, below_drewN HB.out _⟩
        · have hqb : ((k : Int) / (n : Int) == (k : Int) % (n : Int)) = false := by simp; omega
          have HS : Hid (∀ i, i < k + 1 → 0 ≤ zs.getD i 0 ∧ zs.getD i 0 ≤ 10000 ∧ (i / n = i % n → zs.getD i 0 = 0)) := by
            intro i hi
            by_cases e : i = k
            · rw [e, HT.out]; exact ⟨hv.1, hv.2, fun h => absurd h hq⟩
            · exact HO.out i (by omega)
          clear HO hq
          go_wp2
          go_quiet ((go_at_call 35; exact Calls.quiet_of_same (l1In_any _ _ _ _)))
          go_wp2
          refine ⟨⟨k + 1, by omega, by go_num, below_drewN HB.out _, G3.out, HS.out⟩, by simp [intOf]; omega⟩
      · have hvd : inB t 0 10000 = false := inB_not hv
        have HN : Hid (matB n zs = false) := matB_at n zs HL.out k hlt (by rw [HT.out]; exact fun h => hv ⟨h.1, h.2.1⟩)
        clear HO hv
        go_wp2
        go_quiet ((go_at_call 35; exact Calls.quiet_of_same (l1In_any _ _ _ _)))
        go_wp2
        go_ret
        exact ⟨ret_bool HN.out.symm, below_drewN HB.out _⟩
    · have hge' : (n : Int) * (n : Int) ≤ (k : Int) := by rw [← Int.natCast_mul]; omega
      have HN : Hid (matB n zs = true) := matB_all n zs h1 h2 HL.out (fun i hi => HO.out i (by omega))
      clear HO g3
      go_wp2
      go_ret
      exact ⟨ret_bool HN.out.symm, HB.out⟩

set_option maxHeartbeats 1000000 in
theorem specMat_no (n : Int) (a : Option Addr) (len cap : Nat) (w : World) (h : ¬ (1 ≤ n ∧ n ≤ 16 ∧ (len : Int) = n * n)) :
    Calls Try.prog 106 #[.agg #[.int .i64 n, .slice a len cap]] w fun e w' => e = .returned (.bool false) ∧ Below w.heap.size w w' := by
  by_cases hn : 1 ≤ n ∧ n ≤ 16
  · obtain ⟨m, rfl⟩ := Int.eq_ofNat_of_zero_le (show 0 ≤ n by omega)
    have hnn : m * m ≤ 256 := mul_bd m m (by omega) (by omega)
    have hd1 : inB (m : Int) 1 16 = true := inB_mk hn
    have hnw : wrap64 ((m : Int) * (m : Int)) = (m : Int) * (m : Int) := IntWalk.wrap64_in _ (by rw [← Int.natCast_mul]; omega)
    have hne : ((len : Int) != (m : Int) * (m : Int)) = true := by
      rw [bne_iff_ne]; exact fun e => h ⟨hn.1, hn.2, e⟩
    clear h
    go_enter Try.func106, Try.ntmps106
    go_wp2_with (go_at_call 35; refine (l1In_any _ _ _ _).mono ?_; rintro e w' ⟨rfl, rfl⟩)
    go_ret
    exact ⟨rfl, (Below.refl _ _).alloc (Nat.le_refl _) _⟩
  · have hd1 : inB n 1 16 = false := inB_not hn
    clear h hn
    go_enter Try.func106, Try.ntmps106
    go_wp2_with (go_at_call 35; refine (l1In_any _ _ _ _).mono ?_; rintro e w' ⟨rfl, rfl⟩)
    go_ret
    exact ⟨rfl, (Below.refl _ _).alloc (Nat.le_refl _) _⟩

theorem specMat_any (n : Int) (a : Option Addr) (cap : Nat) (zs : List Int) (w : World) (hA : IntsAt w a zs) :
    Calls Try.prog 106 #[.agg #[.int .i64 n, .slice a zs.length cap]] w fun e w' => e = .returned (.bool (matB n zs)) ∧ Below w.heap.size w w' := by
  by_cases h : 1 ≤ n ∧ n ≤ 16 ∧ (zs.length : Int) = n * n
  · obtain ⟨m, rfl⟩ := Int.eq_ofNat_of_zero_le (show 0 ≤ n by omega)
    exact specMat_loop m a cap zs w (by omega) (by omega) (by have := h.2.2; rw [← Int.natCast_mul] at this; omega) hA
  · have hm : matB n zs = false := matB_not fun k => h ⟨k.1, k.2.1, k.2.2.1⟩
    rw [hm]
    exact specMat_no n a _ cap w h

end Go.Proofs.Ytkmghjogmedpbaa

namespace Go.Proofs.Ytkmghjogmedpbaa
open Go.RowKit

set_option maxHeartbeats 400000 in
theorem isPlace_any (n p : Int) (s : Value) (w : World) (h1 : 1 ≤ n) (h2 : n ≤ 16) :
    Calls Try.prog 109 #[.agg #[.int .i64 n, s], .int .i64 p] w fun e w' => e = .returned (.bool (inB p 0 (n - 1))) ∧ Below w.heap.size w w' := by
  go_enter Try.func109, Try.ntmps109
  go_wp2_with (go_at_call 71; refine (within_any _ _ _ _).mono ?_; rintro e w' ⟨rfl, rfl⟩)
  go_ret
  exact ⟨rfl, (Below.refl _ _).alloc (Nat.le_refl _) _⟩

end Go.Proofs.Ytkmghjogmedpbaa
