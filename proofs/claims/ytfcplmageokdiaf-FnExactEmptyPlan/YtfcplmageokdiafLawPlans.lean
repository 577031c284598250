import Derived.Test.YtfcplmageokdiafMarkCase
import Derived.Test.YtfcplmageokdiafHeldInts
import Derived.Test.YtfcplmageokdiafEqInts
import Derived.Test.YtfcplmageokdiafSpecEmpty
import Derived.Test.YtfcplmageokdiafImplEmpty
namespace Go.Proofs.Ytfcplmageokdiaf
open Go.RowKit

set_option maxHeartbeats 400000 in
theorem markRouteS_nil (a : Option Addr) (cap : Nat) (k0 : Int) (w : World) :
    Calls Try.prog 37 #[.slice a 0 cap, .int .i64 k0] w fun e w' => e = .returned (.int .i64 k0) ∧ w' = w := by
  go_enter Try.func37, Try.ntmps37
  go_wp2_with fail
  go_loop [1, 5] (fun kk t => t = .int .i64 0 ∧ kk = .int .i64 k0) (fun _ _ => 0)
  case atStart => exact ⟨rfl, rfl⟩
  case round =>
    obtain ⟨rfl, rfl⟩ := hrel
    go_wp2
    go_ret
    exact ⟨rfl, rfl⟩

set_option maxHeartbeats 400000 in
theorem heldRouteS_nil (a : Option Addr) (cap : Nat) (k0 : Int) (w : World) :
    Calls Try.prog 39 #[.slice a 0 cap, .int .i64 k0] w fun e w' => e = .returned (.int .i64 k0) ∧ w' = w := by
  go_enter Try.func39, Try.ntmps39
  go_wp2_with fail
  go_loop [1, 5] (fun kk t => t = .int .i64 0 ∧ kk = .int .i64 k0) (fun _ _ => 0)
  case atStart => exact ⟨rfl, rfl⟩
  case round =>
    obtain ⟨rfl, rfl⟩ := hrel
    go_wp2
    go_ret
    exact ⟨rfl, rfl⟩

set_option maxHeartbeats 400000 in
theorem eqRouteS_nil (w : World) :
    Calls Try.prog 29 #[.slice none 0 0, .slice none 0 0] w fun e w' => e = .returned (.bool true) ∧ w' = w := by
  go_enter Try.func29, Try.ntmps29
  go_wp2_with fail
  go_loop [5] (fun t => t = .int .i64 0) (fun _ => 0)
  case atStart => rfl
  case round =>
    subst hrel
    go_wp2
    go_ret
    exact ⟨rfl, rfl⟩

theorem owns_at1 {w : World} {base n : Nat} {e : TypeId} {sl : Value} {xs : List Int} (h : w.ownsRow base e 1 sl n (xs.map (Value.int .i64))) : ∃ a c, sl = .slice a xs.length c ∧ xs.length = n ∧ IntsAt w a xs := by
  obtain ⟨h1, ⟨rfl, h2⟩ | ⟨g, cap, cur, rfl, h3, h4, h5⟩⟩ := id h
  · subst h2
    have : xs = [] := by simpa using h1
    subst this
    exact ⟨none, 0, rfl, rfl, fun j hj => by simp at hj⟩
  · have hl : xs.length = n := by simpa using h1
    exact ⟨_, _, by rw [hl], hl, owns_ints h⟩
theorem empty_u {w w' : World} {e : Ending} {K : Nat} {X : List Int} {cb : Bool} (h : ∃ sl, e = .returned (.tuple #[.agg #[.slice none 0 0, sl], .bool cb]) ∧ Below w.heap.size w w' ∧ w'.ownsRow w.heap.size 2 1 sl K (X.map (Value.int .i64))) :
    ∃ ad c, e = .returned (.tuple #[.agg #[.slice none 0 0, .slice ad K c], .bool cb]) ∧ Below w.heap.size w w' ∧ w'.ownsRow w.heap.size 2 1 (.slice ad K c) K (X.map (Value.int .i64)) := by
  obtain ⟨sl, rfl, hb, ho⟩ := h
  rcases own_shape ho with rfl | ⟨g, c, rfl⟩
  · obtain ⟨h1, ⟨_, h2⟩ | ⟨g, cap, cur, h2, _⟩⟩ := id ho
    · subst h2
      exact ⟨none, 0, rfl, hb, ho⟩
    · cases h2
  · exact ⟨_, c, rfl, hb, ho⟩

set_option maxHeartbeats 400000 in
theorem eqPlan_u (ad ad2 : Option Addr) (K c c2 base base2 : Nat) (xs : List Int) (w : World) (h1 : w.ownsRow base 2 1 (.slice ad K c) K (xs.map (Value.int .i64))) (h2 : w.ownsRow base2 2 1 (.slice ad2 K c2) K (xs.map (Value.int .i64))) (hK : K ≤ 1000) :
    Calls Try.prog 10 #[.agg #[.slice none 0 0, .slice ad K c], .agg #[.slice none 0 0, .slice ad2 K c2]] w fun e w' => e = .returned (.bool true) ∧ Below w.heap.size w w' := by
  obtain ⟨a1, q1, e1, hl, i1⟩ := owns_at1 h1
  obtain ⟨a2, q2, e2, _, i2⟩ := owns_at1 h2
  simp only [Value.slice.injEq] at e1 e2
  obtain ⟨rfl, _, rfl⟩ := e1
  obtain ⟨rfl, _, rfl⟩ := e2
  subst hl
  have I1 : Hid (IntsAt w ad xs) := i1
  have I2 : Hid (IntsAt w ad2 xs) := i2
  have HB : Hid (Below w.heap.size w ((w.alloc (Obj.cells #[Value.slice none 0 0, Value.slice ad xs.length c] 32)).alloc (Obj.cells #[Value.slice none 0 0, Value.slice ad2 xs.length c2] 32))) := ((Below.refl _ _).alloc (Nat.le_refl _) _).alloc (by simp) _
  clear h1 h2 i1 i2
  go_enter Try.func10, Try.ntmps10
  go_wp2_with (first
    | (go_at_call 29; refine (eqRouteS_nil _).mono ?_; rintro e w1 ⟨rfl, rfl⟩)
    | (go_at_call 30; refine (eqInts_any ad ad2 c c2 xs xs _ (I1.out.below HB.out) (I2.out.below HB.out) (by omega)).mono ?_; rintro e w2 ⟨rfl, hb⟩; rw [show decide (xs = xs) = true by simp]; have HB2 : Hid (Below w.heap.size w w2) := HB.out.trans (hb.mono HB.out.size); clear hb))
  go_ret
  exact ⟨rfl, HB2.out⟩

/-- A slice of numbers that was marked from 1 on. -/
def Marked1 (W : World) (ad : Option Addr) (K : Nat) : Prop := K = 0 ∨ ∃ g, ad = some ⟨g, 0, none⟩ ∧ g < W.heap.size ∧ ∀ j, j < K → W.cell? ⟨g, j, none⟩ = some (.int .i64 (1 + (j : Nat)))
theorem Marked1.below {W W' : World} {ad : Option Addr} {K : Nat} (h : Marked1 W ad K) (hb : Below W.heap.size W W') : Marked1 W' ad K := by
  rcases h with h | ⟨g, h1, h2, h3⟩
  · exact .inl h
  · exact .inr ⟨g, h1, Nat.lt_of_lt_of_le h2 hb.size, fun j hj => (hb.cell (p := ⟨g, j, none⟩) h2).trans (h3 j hj)⟩
theorem markI_u (ad : Option Addr) (K c base : Nat) (xs : List Int) (w : World) (ho : w.ownsRow base 2 1 (.slice ad K c) K (xs.map (Value.int .i64))) (hK : K ≤ 1000) :
    Calls Try.prog 38 #[.slice ad K c, .int .i64 1] w fun e w' => e = .returned (.int .i64 (1 + (K : Int))) ∧ GrownBut (fun b => (Value.slice ad K c).ownBlock = some b) w w' ∧ Marked1 w' ad K := by
  obtain ⟨h1, ⟨h2, rfl⟩ | ⟨g, cap, cur, h2, h3, h4, h5, _, h7, _⟩⟩ := ho
  · refine (markInt64S_nil ad c 1 w).mono ?_
    rintro e w' ⟨rfl, rfl⟩
    exact ⟨rfl, GrownBut.of_below (Below.refl _ _), .inl rfl⟩
  · simp only [Value.slice.injEq] at h2
    obtain ⟨rfl, _, rfl⟩ := h2
    have hsz : K ≤ cur.size := by rw [h7]; omega
    refine (markInt64S_any g K c 1 cur _ w h4 hsz (by omega) (by omega) (by omega)).mono ?_
    rintro e w' ⟨rfl, hg, hr⟩
    refine ⟨rfl, GrownBut.of_grown hg rfl, .inr ⟨g, rfl, row_lt hr, fun j hj => ?_⟩⟩
    rw [cell_of_row _ _ j _ _ _ hr]
    exact markA_get cur 1 K hsz j hj
theorem heldI_u (ad : Option Addr) (K c : Nat) (w : World) (hm : Marked1 w ad K) (hK : K ≤ 1000) :
    Calls Try.prog 40 #[.slice ad K c, .int .i64 1] w fun e w' => e = .returned (.int .i64 (1 + (K : Int))) ∧ w' = w := by
  rcases hm with rfl | ⟨g, rfl, _, hc⟩
  · exact (heldInt64S_nil ad c 1 w).mono fun e w' ⟨h1, h2⟩ => ⟨h1, h2⟩
  · exact heldInt64S_any g K c 1 w hc (by omega) (by omega) (by omega)

set_option maxHeartbeats 400000 in
theorem markPlan_u (ad : Option Addr) (K c base : Nat) (xs : List Int) (w : World) (ho : w.ownsRow base 2 1 (.slice ad K c) K (xs.map (Value.int .i64))) (hK : K ≤ 1000) :
    Calls Try.prog 13 #[.agg #[.slice none 0 0, .slice ad K c], .int .i64 1] w fun e w' => e = .returned (.int .i64 (1 + (K : Int))) ∧ GrownBut (fun b => (Value.slice ad K c).ownBlock = some b) w w' ∧ Marked1 w' ad K := by
  have HO : Hid (w.ownsRow base 2 1 (.slice ad K c) K _) := ho
  have HB : Hid (Below w.heap.size w (w.alloc (Obj.cells #[Value.slice none 0 0, Value.slice ad K c] 32))) := (Below.refl _ _).alloc (Nat.le_refl _) _
  clear ho
  go_enter Try.func13, Try.ntmps13
  go_wp2_with (first
    | (go_at_call 37; refine (markRouteS_nil _ _ _ _).mono ?_; rintro e w1 ⟨rfl, rfl⟩)
    | (go_at_call 38; refine (markI_u ad K c base xs _ (HO.out.alloc _) hK).mono ?_; rintro e w2 ⟨rfl, hg, hm⟩; have HG : Hid (GrownBut (fun b => (Value.slice ad K c).ownBlock = some b) w w2) := (GrownBut.of_below HB.out).trans hg; have HM : Hid (Marked1 w2 ad K) := hm; clear hg hm))
  go_ret
  exact ⟨rfl, HG.out, HM.out⟩
set_option maxHeartbeats 400000 in
theorem heldPlan_u (ad : Option Addr) (K c : Nat) (w : World) (hm : Marked1 w ad K) (hK : K ≤ 1000) :
    Calls Try.prog 14 #[.agg #[.slice none 0 0, .slice ad K c], .int .i64 1] w fun e w' => e = .returned (.int .i64 (1 + (K : Int))) ∧ Below w.heap.size w w' := by
  have HM : Hid (Marked1 w ad K) := hm
  have HB : Hid (Below w.heap.size w (w.alloc (Obj.cells #[Value.slice none 0 0, Value.slice ad K c] 32))) := (Below.refl _ _).alloc (Nat.le_refl _) _
  clear hm
  obtain ⟨q, HQ⟩ : ∃ t, Hid ((1 : Int) + (K : Int) = t) := ⟨_, rfl⟩
  have hq : 0 ≤ q := by have := HQ.out; omega
  rw [HQ.out]
  go_enter Try.func14, Try.ntmps14
  go_wp2_with (first
    | (go_at_call 39; refine (heldRouteS_nil _ _ _ _).mono ?_; rintro e w1 ⟨rfl, rfl⟩)
    | (go_at_call 40; refine (heldI_u ad K c _ (HM.out.below HB.out) hK).mono ?_; rintro e w2 ⟨rfl, rfl⟩; rw [HQ.out]))
  go_ret
  exact ⟨rfl, HB.out⟩

end Go.Proofs.Ytfcplmageokdiaf
