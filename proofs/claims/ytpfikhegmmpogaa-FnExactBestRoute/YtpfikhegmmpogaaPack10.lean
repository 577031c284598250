import Derived.Test.YtpfikhegmmpogaaPack2
import Derived.Test.YtpfikhegmmpogaaPack3
import Derived.Test.YtpfikhegmmpogaaPack5
import Derived.Test.YtpfikhegmmpogaaPack9
namespace Go.Proofs.Ytpfikhegmmpogaa
open Go.RowKit

/-- w' is w with new blocks, and with writes to the blocks of S alone. -/
structure GrownBut (S : Nat → Prop) (w w' : World) : Prop where
  os : w'.os = w.os
  tape : w'.tape = w.tape
  output : w'.output = w.output
  size : w.heap.size ≤ w'.heap.size
  block : ∀ b, b < w.heap.size → ¬ S b → w'.heap[b]? = w.heap[b]?
theorem GrownBut.of_below {S : Nat → Prop} {w w' : World} (h : Below w.heap.size w w') : GrownBut S w w' := ⟨h.os, h.tape, h.output, h.size, fun b hb _ => h.block b hb⟩
theorem GrownBut.of_grown {S : Nat → Prop} {w w' : World} {g : Nat} (h : w.grownBy w' (some g)) (hs : S g) : GrownBut S w w' := ⟨h.os, h.tape, h.output, h.size, fun b hb hn => h.block b hb (fun e => by cases e; exact hn hs)⟩
theorem GrownBut.trans {S : Nat → Prop} {w w1 w2 : World} (h : GrownBut S w w1) (k : GrownBut S w1 w2) : GrownBut S w w2 :=
  ⟨k.os.trans h.os, k.tape.trans h.tape, k.output.trans h.output, Nat.le_trans h.size k.size, fun b hb hn => (k.block b (Nat.lt_of_lt_of_le hb h.size) hn).trans (h.block b hb hn)⟩
theorem GrownBut.mono {S S' : Nat → Prop} {w w' : World} (h : GrownBut S w w') (hs : ∀ b, S b → S' b) : GrownBut S' w w' := ⟨h.os, h.tape, h.output, h.size, fun b hb hn => h.block b hb (fun x => hn (hs b x))⟩
theorem GrownBut.below {S : Nat → Prop} {w w' : World} {B : Nat} (h : GrownBut S w w') (hB : B ≤ w.heap.size) (hs : ∀ b, S b → B ≤ b) : Below B w w' :=
  ⟨h.os, h.tape, h.output, h.size, fun b hb => h.block b (by omega) (fun x => by have := hs b x; omega)⟩
theorem GrownBut.row {S : Nat → Prop} {w w' : World} {k : Nat} {o : Obj} (h : GrownBut S w w') (hr : w.heap[k]? = some o) (hn : ¬ S k) : w'.heap[k]? = some o := (h.block k (row_lt hr) hn).trans hr
theorem GrownBut.owns {S : Nat → Prop} {w w' : World} {base size k : Nat} {e : TypeId} {v : Value} {xs : List Value} (h : GrownBut S w w') (ho : w.ownsRow base e size v k xs) (hs : ∀ b, S b → b < base) : w'.ownsRow base e size v k xs := by
  obtain ⟨h1, h2 | ⟨g, cap, cur, h2, h3, h4, h5⟩⟩ := ho
  · exact ⟨h1, .inl h2⟩
  · exact ⟨h1, .inr ⟨g, cap, cur, h2, h3, h.row h4 (fun x => by have := hs g x; omega), h5⟩⟩
theorem type_ne {w : World} {g k : Nat} {c1 c2 : Array Value} {T1 T2 : TypeId} (h1 : w.heap[g]? = some (.cells c1 T1 (0, 0))) (h2 : w.heap[k]? = some (.cells c2 T2 (0, 0))) (hT : T1 ≠ T2) : g ≠ k := by
  intro e
  rw [e, h2] at h1
  cases h1
  exact hT rfl

set_option maxHeartbeats 400000 in
theorem markMat_any (n k0 : Int) (g cap : Nat) (zs : List Int) (w : World) (hrow : w.heap[g]? = some (.cells (cellsOf zs) 2 (0, 0))) (h0 : 0 ≤ k0) (h1 : k0 ≤ 100000000) (hl : zs.length ≤ 1048576) :
    Calls Try.prog 44 #[.agg #[.int .i64 n, .slice (some ⟨g, 0, none⟩) zs.length cap], .int .i64 k0] w fun e w' => e = .returned (.int .i64 (k0 + (zs.length : Int))) ∧ GrownBut (fun b => b = g) w w' := by
  have HB0 : Hid (Below w.heap.size w (w.alloc (Obj.cells #[Value.int IntKind.i64 n, Value.slice (some ⟨g, 0, none⟩) zs.length cap] 26))) := (Below.refl _ _).alloc (Nat.le_refl _) _
  have HR : Hid (w.heap[g]? = _) := hrow
  clear hrow
  go_enter Try.func44, Try.ntmps44
  go_wp2_with fail
  refine (markInt64S_any g zs.length cap k0 (cellsOf zs) _ _ (below_row HB0.out (row_lt HR.out) HR.out) (by rw [cellsOf_size]; exact Nat.le_refl _) h0 (by omega) (by omega)).mono ?_
  rintro e w1 ⟨rfl, hg, _⟩
  have HG : Hid (GrownBut (fun b => b = g) w w1) := (GrownBut.of_below HB0.out).trans (GrownBut.of_grown hg rfl)
  clear hg
  go_wp2
  go_ret
  exact ⟨rfl, HG.out⟩

set_option maxHeartbeats 1000000 in
theorem markCase_any (n fine : Int) (g go gv cap ko co kv cv : Nat) (zs os vs : List Int) (w : World) (hC : CaseAt w g go gv zs os vs) (hlo : os.length = ko * 6) (hlv : vs.length = kv * 5) (hz : zs.length ≤ 1048576) (hko : ko ≤ 1048576) (hkv : kv ≤ 1048576) :
    Calls Try.prog 36 #[.agg #[.int .i64 n, .slice (some ⟨g, 0, none⟩) zs.length cap, .slice (some ⟨go, 0, none⟩) ko co, .slice (some ⟨gv, 0, none⟩) kv cv, .int .i64 fine], .int .i64 1] w fun e w' => ∃ k', e = .returned (.int .i64 k') ∧ 0 ≤ k' ∧ k' ≤ 50000000 ∧ GrownBut (fun b => b = g ∨ b = go ∨ b = gv) w w' := by
  have HB0 : Hid (Below w.heap.size w (w.alloc (Obj.cells #[Value.int IntKind.i64 n, Value.slice (some ⟨g, 0, none⟩) zs.length cap, Value.slice (some ⟨go, 0, none⟩) ko co, Value.slice (some ⟨gv, 0, none⟩) kv cv, Value.int IntKind.i64 fine] 30))) := (Below.refl _ _).alloc (Nat.le_refl _) _
  have HP0 : Hid ((w.alloc (Obj.cells #[Value.int IntKind.i64 n, Value.slice (some ⟨g, 0, none⟩) zs.length cap, Value.slice (some ⟨go, 0, none⟩) ko co, Value.slice (some ⟨gv, 0, none⟩) kv cv, Value.int IntKind.i64 fine] 30)).heap[w.heap.size]? = _) := heap_alloc_new _ _
  have HC : Hid (CaseAt (w.alloc (Obj.cells #[Value.int IntKind.i64 n, Value.slice (some ⟨g, 0, none⟩) zs.length cap, Value.slice (some ⟨go, 0, none⟩) ko co, Value.slice (some ⟨gv, 0, none⟩) kv cv, Value.int IntKind.i64 fine] 30)) g go gv zs os vs) := hC.below HB0.out
  have HLO : Hid (os.length = ko * 6) := hlo
  have HLV : Hid (vs.length = kv * 5) := hlv
  clear hC hlo hlv
  go_enter Try.func36, Try.ntmps36
  obtain ⟨c0, c1, c2, c3, c4⟩ := cells5 HP0.out
  go_wp2_with fail
  clear c0 c1 c2 c3 c4
  have n1 : Hid (go ≠ g ∧ gv ≠ g ∧ gv ≠ go) := ⟨type_ne HC.out.2.1 HC.out.1 (by decide), type_ne HC.out.2.2 HC.out.1 (by decide), type_ne HC.out.2.2 HC.out.2.1 (by decide)⟩
  have n2 : Hid (w.heap.size ≠ g ∧ w.heap.size ≠ go ∧ w.heap.size ≠ gv) := ⟨type_ne HP0.out HC.out.1 (by decide), type_ne HP0.out HC.out.2.1 (by decide), type_ne HP0.out HC.out.2.2 (by decide)⟩
  refine (markMat_any n 1 g cap zs _ HC.out.1 (by omega) (by omega) hz).mono ?_
  rintro e w1 ⟨rfl, hg⟩
  have G1 : Hid (GrownBut (fun b => b = g ∨ b = go ∨ b = gv) w w1) := (GrownBut.of_below HB0.out).trans (hg.mono (fun b e => .inl e))
  have P1 : Hid (w1.heap[w.heap.size]? = _) := hg.row HP0.out n2.out.1
  have R1 : Hid (w1.heap[go]? = _) := hg.row HC.out.2.1 n1.out.1
  have V1 : Hid (w1.heap[gv]? = _) := hg.row HC.out.2.2 n1.out.2.1
  clear hg HB0 HP0 HC
  obtain ⟨c0, c1, c2, c3, c4⟩ := cells5 P1.out
  obtain ⟨k1, HK1⟩ : ∃ t, Hid ((1 : Int) + (zs.length : Int) = t) := ⟨_, rfl⟩
  have hk1 : 0 ≤ k1 ∧ k1 ≤ 2000000 := by have := HK1.out; omega
  rw [HK1.out]
  go_wp2_with fail
  clear c0 c1 c2 c3 c4
  refine (markOrderS_any go ko co k1 (cellsOf os) _ _ R1.out (by rw [cellsOf_size, HLO.out]; exact Nat.le_refl _) (by omega) (by omega) (by omega)).mono ?_
  rintro e w2 ⟨rfl, hg, _⟩
  have hg2 : GrownBut (fun b => b = go) w1 w2 := GrownBut.of_grown hg rfl
  have G2 : Hid (GrownBut (fun b => b = g ∨ b = go ∨ b = gv) w w2) := G1.out.trans (hg2.mono (fun b e => .inr (.inl e)))
  have P2 : Hid (w2.heap[w.heap.size]? = _) := hg2.row P1.out n2.out.2.1
  have V2 : Hid (w2.heap[gv]? = _) := hg2.row V1.out n1.out.2.2
  clear hg hg2 G1 P1 R1 V1
  obtain ⟨c0, c1, c2, c3, c4⟩ := cells5 P2.out
  obtain ⟨k2, HK2⟩ : ∃ t, Hid (k1 + ((ko * 6 : Nat) : Int) = t) := ⟨_, rfl⟩
  have hk2 : 0 ≤ k2 ∧ k2 ≤ 10000000 := by have := HK2.out; omega
  rw [HK2.out]
  go_wp2_with fail
  clear c0 c1 c2 c3 c4
  refine (markVehicleS_any gv kv cv k2 (cellsOf vs) _ _ V2.out (by rw [cellsOf_size, HLV.out]; exact Nat.le_refl _) (by omega) (by omega) (by omega)).mono ?_
  rintro e w3 ⟨rfl, hg, _⟩
  have G3 : Hid (GrownBut (fun b => b = g ∨ b = go ∨ b = gv) w w3) := G2.out.trans (GrownBut.of_grown hg (.inr (.inr rfl)))
  clear hg
  obtain ⟨k3, HK3⟩ : ∃ t, Hid (k2 + ((kv * 5 : Nat) : Int) = t) := ⟨_, rfl⟩
  have hk3 : 0 ≤ k3 ∧ k3 ≤ 50000000 := by have := HK3.out; omega
  rw [HK3.out]
  go_wp2
  go_ret
  exact ⟨k3, rfl, hk3.1, hk3.2, G3.out⟩

end Go.Proofs.Ytpfikhegmmpogaa

namespace Go.Proofs.Ytpfikhegmmpogaa
open Go.RowKit

theorem own_type {w : World} {base size k b : Nat} {e T : TypeId} {v : Value} {xs : List Value} {cs : Array Value} (h : w.ownsRow base e size v k xs) (hv : v.ownBlock = some b) (hr : w.heap[b]? = some (.cells cs T (0, 0))) (hT : T ≠ e) : False := by
  obtain ⟨_, ⟨rfl, _⟩ | ⟨g, cap, cur, rfl, _, h4, _⟩⟩ := h
  · cases hv
  · cases hv
    rw [show w.heap[(⟨g, 0, none⟩ : Addr).block]? = w.heap[g]? from rfl, h4] at hr
    cases hr
    exact hT rfl

theorem markI_u (ad : Option Addr) (K c base : Nat) (xs : List Int) (w : World) (ho : w.ownsRow base 2 1 (.slice ad K c) K (xs.map (Value.int .i64))) (hK : K ≤ 1000) :
    Calls Try.prog 37 #[.slice ad K c, .int .i64 1] w fun e w' => e = .returned (.int .i64 (1 + (K : Int))) ∧ GrownBut (fun b => (Value.slice ad K c).ownBlock = some b) w w' ∧ Marked1 w' ad K := by
  obtain ⟨h1, ⟨h2, rfl⟩ | ⟨g, cap, cur, h2, h3, h4, h5, _, h7, _⟩⟩ := ho
  · refine (markInt64S_nil ad c 1 w).mono ?_
    rintro e w' ⟨rfl, rfl⟩
    exact ⟨rfl, GrownBut.of_below (Below.refl _ _), .inl rfl⟩
  · simp only [Value.slice.injEq] at h2
    obtain ⟨rfl, _, rfl⟩ := h2
    have hsz : K ≤ cur.size := by rw [h7]; omega
    refine (markInt64S_any g K c 1 cur _ w h4 hsz (by omega) (by omega) (by omega)).mono ?_
    rintro e w' ⟨rfl, hg, hr⟩
    refine ⟨rfl, GrownBut.of_grown hg rfl, .inr ⟨g, rfl, row_lt hr, fun j hj => ?_⟩⟩
    rw [cell_of_row _ _ j _ _ _ hr]
    exact markA_get cur 1 K hsz j hj
set_option maxHeartbeats 400000 in
theorem markRoute_u (veh : Int) (ad : Option Addr) (K c base : Nat) (xs : List Int) (w : World) (ho : w.ownsRow base 2 1 (.slice ad K c) K (xs.map (Value.int .i64))) (hK : K ≤ 1000) :
    Calls Try.prog 38 #[.agg #[.int .i64 veh, .slice ad K c], .int .i64 1] w fun e w' => e = .returned (.int .i64 (1 + (K : Int))) ∧ GrownBut (fun b => (Value.slice ad K c).ownBlock = some b) w w' ∧ Marked1 w' ad K := by
  have HO : Hid (w.ownsRow base 2 1 (.slice ad K c) K _) := ho
  have HB : Hid (Below w.heap.size w (w.alloc (Obj.cells #[Value.int IntKind.i64 veh, Value.slice ad K c] 34))) := (Below.refl _ _).alloc (Nat.le_refl _) _
  clear ho
  go_enter Try.func38, Try.ntmps38
  go_wp2_with (first
    | (go_at_call 37; refine (markI_u ad K c base xs _ (HO.out.alloc _) hK).mono ?_; rintro e w2 ⟨rfl, hg, hm⟩; have HG : Hid (GrownBut (fun b => (Value.slice ad K c).ownBlock = some b) w w2) := (GrownBut.of_below HB.out).trans hg; have HM : Hid (Marked1 w2 ad K) := hm; clear hg hm))
  go_ret
  exact ⟨rfl, HG.out, HM.out⟩
set_option maxHeartbeats 400000 in
theorem heldRoute_u (veh : Int) (ad : Option Addr) (K c : Nat) (w : World) (hm : Marked1 w ad K) (hK : K ≤ 1000) :
    Calls Try.prog 39 #[.agg #[.int .i64 veh, .slice ad K c], .int .i64 1] w fun e w' => e = .returned (.int .i64 (1 + (K : Int))) ∧ Below w.heap.size w w' := by
  have HM : Hid (Marked1 w ad K) := hm
  have HB : Hid (Below w.heap.size w (w.alloc (Obj.cells #[Value.int IntKind.i64 veh, Value.slice ad K c] 34))) := (Below.refl _ _).alloc (Nat.le_refl _) _
  clear hm
  obtain ⟨q, HQ⟩ : ∃ t, Hid ((1 : Int) + (K : Int) = t) := ⟨_, rfl⟩
  have hq : 0 ≤ q := by have := HQ.out; omega
  rw [HQ.out]
  go_enter Try.func39, Try.ntmps39
  go_wp2_with (first
    | (go_at_call 88; refine (heldI_u ad K c _ (HM.out.below HB.out) hK).mono ?_; rintro e w2 ⟨rfl, rfl⟩; rw [HQ.out]))
  go_ret
  exact ⟨rfl, HB.out⟩
theorem eqRoute_u (veh : Int) (ad ad2 : Option Addr) (c c2 base base2 : Nat) (xs : List Int) (w : World) (h1 : w.ownsRow base 2 1 (.slice ad xs.length c) xs.length (xs.map (Value.int .i64))) (h2 : w.ownsRow base2 2 1 (.slice ad2 xs.length c2) xs.length (xs.map (Value.int .i64))) (hK : xs.length ≤ 1000) :
    Calls Try.prog 33 #[.agg #[.int .i64 veh, .slice ad xs.length c], .agg #[.int .i64 veh, .slice ad2 xs.length c2]] w fun e w' => e = .returned (.bool true) ∧ Below w.heap.size w w' := by
  obtain ⟨a1, q1, e1, _, i1⟩ := owns_at1 h1
  obtain ⟨a2, q2, e2, _, i2⟩ := owns_at1 h2
  simp only [Value.slice.injEq] at e1 e2
  obtain ⟨rfl, _, rfl⟩ := e1
  obtain ⟨rfl, _, rfl⟩ := e2
  exact eqRoute_same veh ad ad2 c c2 xs w i1 i2 (by omega)

end Go.Proofs.Ytpfikhegmmpogaa
