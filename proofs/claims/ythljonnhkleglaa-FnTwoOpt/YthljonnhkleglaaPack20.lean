import Derived.Test.YthljonnhkleglaaPack17
import Derived.Test.YthljonnhkleglaaPack19
namespace Go.Proofs.Ythljonnhkleglaa
open Go.RowKit

/-- What a change of stops answers: new stops of its own, or nothing. -/
def HowOk (w : World) (ok : Bool) (ids' : List Int) (e : Ending) (w' : World) : Prop :=
  Below w.heap.size w w' ∧ ((ok = false ∧ e = .returned (.tuple #[.slice none 0 0, .bool false])) ∨
    (ok = true ∧ ∃ g cap, e = .returned (.tuple #[.slice (some ⟨g, 0, none⟩) ids'.length cap, .bool true]) ∧ w'.ownsRow w.heap.size 2 1 (.slice (some ⟨g, 0, none⟩) ids'.length cap) ids'.length (ids'.map (Value.int .i64))))

theorem delete_ints' (g cap i base : Nat) (x : Int) (ids : List Int) (w : World) (ho : w.ownsRow base 2 1 (.slice (some ⟨g, 0, none⟩) ids.length cap) ids.length (ids.map (Value.int .i64))) (hi : i < ids.length) (hx : x = i + 1) :
    Calls Try.prog 76 #[.slice (some ⟨g, 0, none⟩) ids.length cap, .int .i64 (i : Nat), .int .i64 x] w fun e w' => e = .returned (.slice (some ⟨g, 0, none⟩) (remL ids i).length cap) ∧ Below base w w' ∧ w'.ownsRow base 2 1 (.slice (some ⟨g, 0, none⟩) (remL ids i).length cap) (remL ids i).length ((remL ids i).map (Value.int .i64)) := by
  subst hx
  rw [remL_length hi]
  exact delete_ints g cap i base ids w ho hi

set_option maxHeartbeats 1000000 in
theorem takeOut_any (p : Nat) (at_ : Int) (bi : Option Addr) (c2 : Nat) (ids : List Int) (w : World) (hp : w.cell? ⟨p, 0, none⟩ = some (.int .i64 at_)) (hI : IntsAt w bi ids) (hl : ids.length ≤ 12) :
    Calls Try.prog 75 #[.slice bi ids.length c2, .pointer (some ⟨p, 0, none⟩)] w (HowOk w (inB at_ 0 ((ids.length : Int) - 1)) (remL ids at_.toNat)) := by
  have HI : Hid (IntsAt w bi ids) := hI
  clear hI
  obtain ⟨v, HV⟩ : ∃ t, Hid (inB at_ 0 ((ids.length : Int) - 1) = t) := ⟨_, rfl⟩
  rw [HV.out]
  cases v
  · go_enter Try.func75, Try.ntmps75
    go_wp2_with (first | (go_at_call 66; refine (within_is at_ 0 ((ids.length : Int) - 1) w false HV.out).mono ?_; rintro e w1 ⟨rfl, rfl⟩))
    go_ret2
    exact ⟨Below.refl _ _, .inl ⟨rfl, rfl⟩⟩
  · have h1 := inB_true HV.out
    obtain ⟨i, rfl⟩ : ∃ i : Nat, at_ = i := ⟨at_.toNat, by omega⟩
    have hi : i < ids.length := by omega
    rw [show ((i : Int)).toNat = i by omega]
    obtain ⟨b, off, rfl, _⟩ := HI.out.some hi
    go_enter Try.func75, Try.ntmps75
    go_wp2_with (first | (go_at_call 66; refine (within_is i 0 ((ids.length : Int) - 1) w true HV.out).mono ?_; rintro e w1 ⟨rfl, rfl⟩))
    have hwr : IntKind.i64.wrap ((i : Int) + 1) = i + 1 := IntWalk.i64_in _ (by omega)
    go_region_held3 (fun W => W.cell? ⟨p, 0, none⟩ = some (.int .i64 (i : Int))) (first | with_reducible exact kS | go_keep) ((first
      | (go_at_call 77
         with_reducible refine (clone_ints b off c2 ids w1.drew (HI.out.below (Below.refl _ _).drew) (by omega)).mono ?_
         rintro e w2 ⟨g, cap, rfl, hb, ho⟩
         have B2 : Hid (Below w1.heap.size w1 w2) := (Below.refl _ _).drew.trans hb
         have O2 : Hid (w2.ownsRow w1.heap.size 2 1 (.slice (some ⟨g, 0, none⟩) ids.length cap) ids.length (ids.map (Value.int .i64))) := ho
         have kS : w2.cell? ⟨p, 0, none⟩ = some (.int .i64 (i : Int)) := (B2.out.cell (p := ⟨p, 0, none⟩) (block_lt_of_cell hp)).trans hp
         clear hb ho)
      | (go_at_call 76
         with_reducible refine (delete_ints' g cap i w1.heap.size _ ids w2 O2.out hi rfl).mono ?_
         rintro e w3 ⟨rfl, hb, ho⟩
         have B3 : Hid (Below w1.heap.size w1 w3) := B2.out.trans hb
         have O3 : Hid (w3.ownsRow w1.heap.size 2 1 (.slice (some ⟨g, 0, none⟩) (remL ids i).length cap) (remL ids i).length ((remL ids i).map (Value.int .i64))) := ho
         have kS : w3.cell? ⟨p, 0, none⟩ = some (.int .i64 (i : Int)) := (B3.out.cell (p := ⟨p, 0, none⟩) (block_lt_of_cell hp)).trans hp
         clear hb ho)))
    all_goals
      go_wp2
      go_ret2
      exact ⟨B3.out, .inr ⟨rfl, g, cap, rfl, O3.out⟩⟩

end Go.Proofs.Ythljonnhkleglaa

namespace Go.Proofs.Ythljonnhkleglaa
open Go.RowKit

/-- Whether i and j are places of stops that can be turned round. -/
def turnB (i j : Int) (n : Nat) : Bool := decide (0 ≤ i ∧ i < j ∧ j < n)
theorem turnB_true {i j : Int} {n : Nat} (h : turnB i j n = true) : 0 ≤ i ∧ i < j ∧ j < n := of_decide_eq_true h
theorem turnB_false {i j : Int} {n : Nat} (h : turnB i j n = false) : ¬ (0 ≤ i ∧ i < j ∧ j < n) := of_decide_eq_false h

set_option maxHeartbeats 1000000 in
theorem turnRound_any (p : Nat) (x y : Int) (bi : Option Addr) (c2 : Nat) (ids : List Int) (w : World) (hp0 : w.cell? ⟨p, 0, none⟩ = some (.int .i64 x)) (hp1 : w.cell? ⟨p, 1, none⟩ = some (.int .i64 y)) (hI : IntsAt w bi ids) (hl : ids.length ≤ 12) :
    Calls Try.prog 80 #[.slice bi ids.length c2, .pointer (some ⟨p, 0, none⟩)] w (HowOk w (turnB x y ids.length) (revL ids x.toNat y.toNat)) := by
  have HI : Hid (IntsAt w bi ids) := hI
  clear hI
  obtain ⟨v, HV⟩ : ∃ t, Hid (turnB x y ids.length = t) := ⟨_, rfl⟩
  rw [HV.out]
  cases v
  · have h1 := turnB_false HV.out
    rcases (show x < 0 ∨ (0 ≤ x ∧ y ≤ x) ∨ (0 ≤ x ∧ x < y ∧ (ids.length : Int) ≤ y) from by omega) with h | ⟨h, h'⟩ | ⟨h, h', h''⟩
    all_goals
      clear h1
      go_enter Try.func80, Try.ntmps80
      go_wp2
      go_ret2
      exact ⟨Below.refl _ _, .inl ⟨rfl, rfl⟩⟩
  · obtain ⟨h1, h2, h3⟩ := turnB_true HV.out
    obtain ⟨i, rfl⟩ : ∃ i : Nat, x = i := ⟨x.toNat, by omega⟩
    obtain ⟨j, rfl⟩ : ∃ j : Nat, y = j := ⟨y.toNat, by omega⟩
    have hij : i < j := by omega
    have hj : j < ids.length := by omega
    have er : (revL ids i j).length = ids.length := revL_length (by omega) hj
    rw [show ((i : Int)).toNat = i by omega, show ((j : Int)).toNat = j by omega]
    obtain ⟨b, off, rfl, _⟩ := HI.out.some hj
    have HR : Hid (HowOk w true (revL ids i j) = HowOk w true (revL ids i j)) := rfl
    go_enter Try.func80, Try.ntmps80
    go_wp2_with fail
    refine (clone_ints b off c2 ids w HI.out (by omega)).mono ?_
    rintro e w2 ⟨g, cap, rfl, hb, ho⟩
    obtain ⟨_, _, e1, _, _, hcap, hcm, _⟩ := Go.Lib.holds_of_ownsRow (enc := Value.int .i64) ho (by simp)
    simp at e1
    obtain ⟨rfl, rfl⟩ := e1
    have hcm' : cap ≤ 9223372036854775807 := by unfold maxLen at hcm; omega
    clear hcm
    have B2 : Hid (Below w.heap.size w w2) := hb
    have O2 : Hid (w2.ownsRow w.heap.size 2 1 (.slice (some ⟨g, 0, none⟩) ids.length cap) ids.length (ids.map (Value.int .i64))) := ho
    have k0 : w2.cell? ⟨p, 0, none⟩ = some (.int .i64 (i : Int)) := (B2.out.cell (p := ⟨p, 0, none⟩) (block_lt_of_cell hp0)).trans hp0
    have k1 : w2.cell? ⟨p, 1, none⟩ = some (.int .i64 (j : Int)) := (B2.out.cell (p := ⟨p, 1, none⟩) (block_lt_of_cell hp1)).trans hp1
    clear hb ho
    have hwr : IntKind.i64.wrap ((j : Int) + 1) = j + 1 := IntWalk.i64_in _ (by omega)
    go_wp2_with fail
    refine (reverse_ints g cap _ i j w.heap.size ids w2 O2.out (by omega) hj (by omega) _ (by omega)).mono ?_
    rintro e w3 ⟨rfl, hb, ho⟩
    have B3 : Hid (Below w.heap.size w w3) := B2.out.trans hb
    have O3 : Hid (w3.ownsRow w.heap.size 2 1 (.slice (some ⟨g, 0, none⟩) ids.length cap) ids.length ((revL ids i j).map (Value.int .i64))) := ho
    clear hb ho
    go_wp2
    go_ret2
    refine ⟨B3.out, .inr ⟨rfl, g, cap, ?_, ?_⟩⟩
    · rw [er]; rfl
    · rw [er]; exact O3.out

end Go.Proofs.Ythljonnhkleglaa
