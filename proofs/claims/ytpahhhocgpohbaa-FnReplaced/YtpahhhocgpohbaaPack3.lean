import Derived.Test.YtpahhhocgpohbaaPack1
import Derived.Test.YtpahhhocgpohbaaPack2
import Derived.Laws.BytesArg
namespace Go.Proofs.Ytpahhhocgpohbaa
open Go.RowKit

/-- What a drawn text answers: one that is no longer than hi; the reader alone has changed. -/
def TextOk (w : World) (q : Nat) (a : Option Addr) (bs : List Int) (c : Nat) (hi : Nat) (e : Ending) (w' : World) : Prop :=
  ∃ (s : ByteArray) (p' : Nat), e = .returned (.string s) ∧ s.size ≤ hi ∧ RD w' q a bs c p' ∧ w.grownBy w' (some q)
theorem grown_blw {w w1 w2 : World} {row : Option Nat} (h : w.grownBy w1 row) (hb : Below w1.heap.size w1 w2) : w.grownBy w2 row :=
  ⟨hb.os.trans h.os, hb.tape.trans h.tape, hb.output.trans h.output, Nat.le_trans h.size hb.size, fun j hj hne => (hb.block j (Nat.lt_of_lt_of_le hj h.size)).trans (h.block j hj hne)⟩
theorem grown_of_below {w w1 : World} (q : Option Nat) (hb : Below w.heap.size w w1) : w.grownBy w1 q :=
  ⟨hb.os, hb.tape, hb.output, hb.size, fun j hj _ => hb.block j hj⟩
theorem grown_trn {w w1 w2 : World} {q : Nat} (h1 : w.grownBy w1 (some q)) (h2 : w1.grownBy w2 (some q)) : w.grownBy w2 (some q) := grown_trans h1 h2

/-- A row of texts, none longer than hi. -/
def TextsRow (w : World) (g : Nat) (cs : Array Value) (hi : Nat) : Prop := (∃ T, w.heap[g]? = some (.cells cs T (0, 0))) ∧ ∀ j, j < cs.size → ∃ s : ByteArray, cs[j]? = some (.string s) ∧ s.size ≤ hi
theorem TextsRow.at {w : World} {g : Nat} {cs : Array Value} {hi j : Nat} (h : TextsRow w g cs hi) (hj : j < cs.size) : ∃ s : ByteArray, w.cell? ⟨g, j, none⟩ = some (.string s) ∧ s.size ≤ hi := by
  obtain ⟨⟨T, hr⟩, hc⟩ := h
  obtain ⟨s, e, hs⟩ := hc j hj
  exact ⟨s, by rw [cell_of_row _ _ j _ _ _ hr, e], hs⟩
theorem TextsRow.grown {w w' : World} {g q : Nat} {cs : Array Value} {hi : Nat} (h : TextsRow w g cs hi) (hg : w.grownBy w' (some q)) (hne : g ≠ q) : TextsRow w' g cs hi := by
  obtain ⟨⟨T, hr⟩, hc⟩ := h
  exact ⟨⟨T, (hg.block g (row_lt hr) (fun e => hne (by injection e))).trans hr⟩, hc⟩

set_option maxHeartbeats 1000000 in
theorem text_any (q p c : Nat) (a : Option Addr) (bs : List Int) (w : World) (h : RD w q a bs c p) :
    Calls Try.prog 38 #[.pointer (some ⟨q, 0, none⟩)] w (TextOk w q a bs c 3) := by
  have hq : q < w.heap.size := row_lt h.1
  have BA : Hid (Below w.heap.size w (w.alloc (Obj.cells #[.string ⟨#[]⟩, .string ⟨#[97]⟩, .string ⟨#[98]⟩, .string ⟨#[97, 98]⟩, .string ⟨#[97, 98, 99]⟩, .string ⟨#[120, 32, 121]⟩] 9))) := (Below.refl w.heap.size w).alloc (Nat.le_refl _) _
  have TR : Hid (TextsRow (w.alloc (Obj.cells #[.string ⟨#[]⟩, .string ⟨#[97]⟩, .string ⟨#[98]⟩, .string ⟨#[97, 98]⟩, .string ⟨#[97, 98, 99]⟩, .string ⟨#[120, 32, 121]⟩] 9)) w.heap.size #[.string ⟨#[]⟩, .string ⟨#[97]⟩, .string ⟨#[98]⟩, .string ⟨#[97, 98]⟩, .string ⟨#[97, 98, 99]⟩, .string ⟨#[120, 32, 121]⟩] 3) := by
    refine ⟨⟨_, heap_alloc_new _ _⟩, fun j hj => ?_⟩
    match j, hj with
    | 0, _ => exact ⟨_, rfl, by decide⟩
    | 1, _ => exact ⟨_, rfl, by decide⟩
    | 2, _ => exact ⟨_, rfl, by decide⟩
    | 3, _ => exact ⟨_, rfl, by decide⟩
    | 4, _ => exact ⟨_, rfl, by decide⟩
    | 5, _ => exact ⟨_, rfl, by decide⟩
  have R0 : Hid (RD (w.alloc (Obj.cells #[.string ⟨#[]⟩, .string ⟨#[97]⟩, .string ⟨#[98]⟩, .string ⟨#[97, 98]⟩, .string ⟨#[97, 98, 99]⟩, .string ⟨#[120, 32, 121]⟩] 9)) q a bs c p) := h.below BA.out
  clear h
  go_enter Try.func38, Try.ntmps38
  go_wp2_with fail
  generalize w.alloc (Obj.cells #[.string ⟨#[]⟩, .string ⟨#[97]⟩, .string ⟨#[98]⟩, .string ⟨#[97, 98]⟩, .string ⟨#[97, 98, 99]⟩, .string ⟨#[120, 32, 121]⟩] 9) = W0 at *
  refine (below_any q p c 6 a bs W0 R0.out (by omega)).mono ?_
  rintro e w1 ⟨v, p1, rfl, hv0, hv1, hr, hg⟩
  have R1 : Hid (RD w1 q a bs c p1) := hr
  have G1 : Hid (w.grownBy w1 (some q)) := grown_trn (grown_of_below _ BA.out) hg
  obtain ⟨j, rfl⟩ := Int.eq_ofNat_of_zero_le hv0
  have hj : j < 6 := by omega
  obtain ⟨s, hc, hs⟩ := (TR.out.grown hg (by omega)).at (j := j) (by simpa using hj)
  clear hr hg hv0 hv1 R0 TR BA
  have hj' : (j : Int) < 6 := by omega
  go_wp2
  go_ret
  exact ⟨s, p1, rfl, hs, R1.out, G1.out⟩


end Go.Proofs.Ytpahhhocgpohbaa

namespace Go.Proofs.Ytpahhhocgpohbaa
open Go.RowKit

set_option maxHeartbeats 1000000 in
theorem size_any (q p c per most : Nat) (a : Option Addr) (bs : List Int) (w : World) (h : RD w q a bs c p) (hp : 0 < per) (hm : 1 ≤ most) (hm2 : most ≤ 1000) (hp2 : per ≤ 1000) :
    Calls Try.prog 42 #[.pointer (some ⟨q, 0, none⟩), .int .i64 per, .int .i64 most] w fun e w' => ∃ (v p' : Nat), e = .returned (.int .i64 v) ∧ 1 ≤ v ∧ v ≤ most ∧ RD w' q a bs c p' ∧ w.grownBy w' (some q) := by
  have H : Hid (RD w q a bs c p) := h
  obtain ⟨c0, c1⟩ := cells2 h.1
  have hbl := h.2.2.2
  clear h
  obtain ⟨k, HK⟩ : ∃ k, Hid (bs.length / per = k) := ⟨_, rfl⟩
  have hkl : k ≤ 1048576 := by rw [← HK.out]; exact Nat.le_trans (Nat.div_le_self _ _) hbl
  have hq : (bs.length : Int).tdiv (per : Int) = (k : Int) := by rw [← HK.out, Int.tdiv_eq_ediv_of_nonneg (by omega)]; simp
  have hpz : ((per : Int) == 0) = false := by simp; omega
  have hpz2 : ¬ (per : Int) = 0 := by omega
  have hwk : wrap64 (k : Int) = (k : Int) := by unfold wrap64; omega
  have fin : ∀ (n : Int), 1 ≤ n → n ≤ most → Calls Try.prog 32 #[.pointer (some ⟨q, 0, none⟩), .int .i64 n] w fun e w' => ∃ (v p' : Nat), e = .returned (.int .i64 v) ∧ v + 1 ≤ most ∧ RD w' q a bs c p' ∧ w.grownBy w' (some q) := fun n h1 h2 =>
    (below_any q p c n a bs w H.out (by omega)).mono fun e w' ⟨v, p', r1, r2, r3, r4, r5⟩ => ⟨v.toNat, p', by rw [r1, show ((v.toNat : Nat) : Int) = v by omega], by omega, r4, r5⟩
  have FI : Hid (∀ (n : Int), 1 ≤ n → n ≤ most → Calls Try.prog 32 #[.pointer (some ⟨q, 0, none⟩), .int .i64 n] w fun e w' => ∃ (v p' : Nat), e = .returned (.int .i64 v) ∧ v + 1 ≤ most ∧ RD w' q a bs c p' ∧ w.grownBy w' (some q)) := fin
  clear fin HK
  by_cases hgt : most < k + 1
  · have hgt' : (most : Int) < 1 + (k : Int) := by omega
    go_enter Try.func42, Try.ntmps42
    go_wp2_with fail
    refine (FI.out (most : Int) (by omega) (Int.le_refl _)).mono ?_
    rintro e w1 ⟨v, p1, rfl, hv, hr, hg⟩
    have R1 : Hid (RD w1 q a bs c p1) := hr
    have G1 : Hid (w.grownBy w1 (some q)) := hg
    have hwv : wrap64 (1 + (v : Int)) = ((v + 1 : Nat) : Int) := by unfold wrap64; omega
    clear hr hg
    go_wp2
    go_ret
    exact ⟨v + 1, p1, by first | rfl | (rw [hwv]) | (simp; omega), by omega, by omega, R1.out, G1.out⟩
  · have hgt' : ¬ (most : Int) < 1 + (k : Int) := by omega
    go_enter Try.func42, Try.ntmps42
    go_wp2_with fail
    refine (FI.out (1 + (k : Int)) (by omega) (by omega)).mono ?_
    rintro e w1 ⟨v, p1, rfl, hv, hr, hg⟩
    have R1 : Hid (RD w1 q a bs c p1) := hr
    have G1 : Hid (w.grownBy w1 (some q)) := hg
    have hwv : wrap64 (1 + (v : Int)) = ((v + 1 : Nat) : Int) := by unfold wrap64; omega
    clear hr hg
    go_wp2
    go_ret
    exact ⟨v + 1, p1, by first | rfl | (rw [hwv]) | (simp; omega), by omega, by omega, R1.out, G1.out⟩

/-- A row stays where the reader alone has changed. -/
theorem row_gq {w w' : World} {k q : Nat} {o : Obj} (h : w.heap[k]? = some o) (hl : k < w.heap.size) (hg : w.grownBy w' (some q)) (hne : k ≠ q) : w'.heap[k]? = some o := (hg.block k hl (fun e => hne (by injection e))).trans h
/-- What a drawn op answers. -/
def DopOk (w : World) (q : Nat) (a : Option Addr) (bs : List Int) (c : Nat) (e : Ending) (w' : World) : Prop :=
  ∃ (k : Int) (n t d : ByteArray) (p' : Nat), e = .returned (.agg #[.int .i64 k, .string n, .string t, .string d]) ∧ (n.size ≤ 8 ∧ t.size ≤ 4 ∧ d.size ≤ 3) ∧ RD w' q a bs c p' ∧ w.grownBy w' (some q)
theorem dop_box {w W : World} {q p0 p c b : Nat} {a : Option Addr} {bs : List Int} {x y z u : Value} (h0 : RD w q a bs c p0) (h : RD W q a bs c p) (hg : w.grownBy W (some q)) (hb : w.heap.size ≤ b := by exact Nat.le_refl _) : RD ((((W.setCell ⟨b, 0, none⟩ x).setCell ⟨b, 1, none⟩ y).setCell ⟨b, 2, none⟩ z).setCell ⟨b, 3, none⟩ u) q a bs c p ∧ w.grownBy ((((W.setCell ⟨b, 0, none⟩ x).setCell ⟨b, 1, none⟩ y).setCell ⟨b, 2, none⟩ z).setCell ⟨b, 3, none⟩ u) (some q) := by
  have hr : ∀ g, some b = some g → w.heap.size ≤ g := fun g e => by injection e with e; omega
  exact ⟨h0.kept2 (h0.kept2 (h0.kept2 (h0.kept2 h (grown_set _ _ _ _) hr) (grown_set _ _ _ _) hr) (grown_set _ _ _ _) hr) (grown_set _ _ _ _) hr, grown_own (grown_own (grown_own (grown_own hg (grown_set _ _ _ _) hr) (grown_set _ _ _ _) hr) (grown_set _ _ _ _) hr) (grown_set _ _ _ _) hr⟩
theorem dop_row {W : World} {b : Nat} {T : TypeId} {z0 z1 z2 z3 k n t d : Value} (h : W.heap[b]? = some (.cells #[z0, z1, z2, z3] T (0, 0))) : ((((W.setCell ⟨b, 0, none⟩ k).setCell ⟨b, 1, none⟩ n).setCell ⟨b, 2, none⟩ t).setCell ⟨b, 3, none⟩ d).heap[b]? = some (.cells #[k, n, t, d] T (0, 0)) := by
  have s1 := heap_setCell_same W b 0 _ _ k h
  have s2 := heap_setCell_same _ b 1 _ _ n s1
  have s3 := heap_setCell_same _ b 2 _ _ t s2
  have s4 := heap_setCell_same _ b 3 _ _ d s3
  simpa using s4

set_option maxHeartbeats 2000000 in
theorem dop_any (q p c : Nat) (a : Option Addr) (bs : List Int) (w : World) (h : RD w q a bs c p) :
    Calls Try.prog 31 #[.pointer (some ⟨q, 0, none⟩)] w (DopOk w q a bs c) := by
  have hq : q < w.heap.size := row_lt h.1
  have hqn : w.heap.size ≠ q := by omega
  have H0 : Hid (RD w q a bs c p) := h
  have B0 : Hid (Below w.heap.size w ((w.alloc (.cells #[.int .i64 0, .string ⟨#[]⟩, .string ⟨#[]⟩, .string ⟨#[]⟩] 36)).alloc (.cells #[.string ⟨#[108, 111, 103]⟩, .string ⟨#[98, 97, 115, 101]⟩, .string ⟨#[98, 97, 115, 101, 46, 110, 101, 119]⟩, .string ⟨#[98]⟩] 9))) := ((Below.refl _ _).alloc (Nat.le_refl _) _).alloc (by simp) _
  have TR : Hid (TextsRow ((w.alloc (.cells #[.int .i64 0, .string ⟨#[]⟩, .string ⟨#[]⟩, .string ⟨#[]⟩] 36)).alloc (.cells #[.string ⟨#[108, 111, 103]⟩, .string ⟨#[98, 97, 115, 101]⟩, .string ⟨#[98, 97, 115, 101, 46, 110, 101, 119]⟩, .string ⟨#[98]⟩] 9)) (w.heap.size + 1) #[.string ⟨#[108, 111, 103]⟩, .string ⟨#[98, 97, 115, 101]⟩, .string ⟨#[98, 97, 115, 101, 46, 110, 101, 119]⟩, .string ⟨#[98]⟩] 8) := by
    refine ⟨⟨_, heap_alloc2_new _ _ _⟩, fun j hj => ?_⟩
    match j, hj with
    | 0, _ => exact ⟨_, rfl, by decide⟩
    | 1, _ => exact ⟨_, rfl, by decide⟩
    | 2, _ => exact ⟨_, rfl, by decide⟩
    | 3, _ => exact ⟨_, rfl, by decide⟩
  have RB0 : Hid (((w.alloc (.cells #[.int .i64 0, .string ⟨#[]⟩, .string ⟨#[]⟩, .string ⟨#[]⟩] 36)).alloc (.cells #[.string ⟨#[108, 111, 103]⟩, .string ⟨#[98, 97, 115, 101]⟩, .string ⟨#[98, 97, 115, 101, 46, 110, 101, 119]⟩, .string ⟨#[98]⟩] 9)).heap[w.heap.size]? = some (.cells #[.int .i64 0, .string ⟨#[]⟩, .string ⟨#[]⟩, .string ⟨#[]⟩] 36 (0, 0))) := heap_alloc2_old _ _ _
  have R0 : Hid (RD ((w.alloc (.cells #[.int .i64 0, .string ⟨#[]⟩, .string ⟨#[]⟩, .string ⟨#[]⟩] 36)).alloc (.cells #[.string ⟨#[108, 111, 103]⟩, .string ⟨#[98, 97, 115, 101]⟩, .string ⟨#[98, 97, 115, 101, 46, 110, 101, 119]⟩, .string ⟨#[98]⟩] 9)) q a bs c p) := h.below B0.out
  clear h
  go_enter Try.func31, Try.ntmps31
  go_wp2_with fail
  generalize ((w.alloc (.cells #[.int .i64 0, .string ⟨#[]⟩, .string ⟨#[]⟩, .string ⟨#[]⟩] 36)).alloc (.cells #[.string ⟨#[108, 111, 103]⟩, .string ⟨#[98, 97, 115, 101]⟩, .string ⟨#[98, 97, 115, 101, 46, 110, 101, 119]⟩, .string ⟨#[98]⟩] 9)) = W0 at *
  refine (below_any q p c 4 a bs W0 R0.out (by omega)).mono ?_
  rintro e w1 ⟨v, p1, rfl, hv0, hv1, hr, hg⟩
  have R1 : Hid (RD w1 q a bs c p1) := hr
  have G1 : Hid (w.grownBy w1 (some q)) := grown_trn (grown_of_below _ B0.out) hg
  have RB1 : Hid (w1.heap[w.heap.size]? = some (.cells #[.int .i64 0, .string ⟨#[]⟩, .string ⟨#[]⟩, .string ⟨#[]⟩] 36 (0, 0))) := row_gq RB0.out (row_lt RB0.out) hg hqn
  obtain ⟨j, rfl⟩ := Int.eq_ofNat_of_zero_le hv0
  have hj : j < 4 := by omega
  obtain ⟨s, hc, hs⟩ := (TR.out.grown hg (by omega)).at (j := j) (by simpa using hj)
  clear hr hg hv0 hv1 R0 TR B0 RB0
  have hj' : (j : Int) < 4 := by omega
  go_wp2_with fail
  clear hc hj hj'
  refine (below_any q p1 c 5 a bs w1 R1.out (by omega)).mono ?_
  rintro e w2 ⟨v, p2, rfl, hv0, hv1, hr, hg⟩
  have R2 : Hid (RD w2 q a bs c p2) := hr
  have G2 : Hid (w.grownBy w2 (some q)) := grown_trn G1.out hg
  have RB2 : Hid (w2.heap[w.heap.size]? = some (.cells #[.int .i64 0, .string ⟨#[]⟩, .string ⟨#[]⟩, .string ⟨#[]⟩] 36 (0, 0))) := row_gq RB1.out (row_lt RB1.out) hg hqn
  have HS2 : Hid (w.heap.size < w2.heap.size) := row_lt RB2.out
  clear hr hg hv0 hv1 R1 G1 RB1
  by_cases h0 : v = 0
  · subst h0
    have TR3 : Hid (TextsRow (w2.alloc (.cells #[.string ⟨#[108, 111, 103]⟩, .string ⟨#[98, 97, 115, 101]⟩, .string ⟨#[99]⟩] 9)) w2.heap.size #[.string ⟨#[108, 111, 103]⟩, .string ⟨#[98, 97, 115, 101]⟩, .string ⟨#[99]⟩] 4) := by
      refine ⟨⟨_, heap_alloc_new _ _⟩, fun j hj => ?_⟩
      match j, hj with
      | 0, _ => exact ⟨_, rfl, by decide⟩
      | 1, _ => exact ⟨_, rfl, by decide⟩
      | 2, _ => exact ⟨_, rfl, by decide⟩
    have hb3 : Below w2.heap.size w2 (w2.alloc (.cells #[.string ⟨#[108, 111, 103]⟩, .string ⟨#[98, 97, 115, 101]⟩, .string ⟨#[99]⟩] 9)) := (Below.refl _ _).alloc (Nat.le_refl _) _
    have R3 : Hid (RD (w2.alloc (.cells #[.string ⟨#[108, 111, 103]⟩, .string ⟨#[98, 97, 115, 101]⟩, .string ⟨#[99]⟩] 9)) q a bs c p2) := R2.out.below hb3
    have G3 : Hid (w.grownBy (w2.alloc (.cells #[.string ⟨#[108, 111, 103]⟩, .string ⟨#[98, 97, 115, 101]⟩, .string ⟨#[99]⟩] 9)) (some q)) := grown_blw G2.out hb3
    have RB3 : Hid ((w2.alloc (.cells #[.string ⟨#[108, 111, 103]⟩, .string ⟨#[98, 97, 115, 101]⟩, .string ⟨#[99]⟩] 9)).heap[w.heap.size]? = some (.cells #[.int .i64 0, .string ⟨#[]⟩, .string ⟨#[]⟩, .string ⟨#[]⟩] 36 (0, 0))) := below_row hb3 (row_lt RB2.out) RB2.out
    clear hb3
    go_wp2_with fail
    generalize w2.heap.size = g3 at *
    generalize (w2.alloc (.cells #[.string ⟨#[108, 111, 103]⟩, .string ⟨#[98, 97, 115, 101]⟩, .string ⟨#[99]⟩] 9)) = W3 at *
    refine (below_any q p2 c 3 a bs W3 R3.out (by omega)).mono ?_
    rintro e w4 ⟨v, p4, rfl, hv0, hv1, hr, hg⟩
    have R4 : Hid (RD w4 q a bs c p4) := hr
    have G4 : Hid (w.grownBy w4 (some q)) := grown_trn G3.out hg
    have RB4 : Hid (w4.heap[w.heap.size]? = some (.cells #[.int .i64 0, .string ⟨#[]⟩, .string ⟨#[]⟩, .string ⟨#[]⟩] 36 (0, 0))) := row_gq RB3.out (row_lt RB3.out) hg hqn
    obtain ⟨j, rfl⟩ := Int.eq_ofNat_of_zero_le hv0
    have hj : j < 3 := by omega
    obtain ⟨u, hc, hu⟩ := (TR3.out.grown hg (by have := HS2.out; omega)).at (j := j) (by simpa using hj)
    clear hr hg hv0 hv1 R3 TR3 RB3 G3 R2 G2 RB2
    have hj' : (j : Int) < 3 := by omega
    obtain ⟨z0, z1, z2, z3⟩ := cells4 RB4.out
    have zf := fun i => frozen_of_row _ _ i _ _ RB4.out
    have FN : Hid (RD ((((w4.setCell ⟨w.heap.size, 0, none⟩ (.int .i64 2)).setCell ⟨w.heap.size, 1, none⟩ (.string s)).setCell ⟨w.heap.size, 2, none⟩ (.string u)).setCell ⟨w.heap.size, 3, none⟩ (.string ⟨#[]⟩)) q a bs c p4 ∧ w.grownBy ((((w4.setCell ⟨w.heap.size, 0, none⟩ (.int .i64 2)).setCell ⟨w.heap.size, 1, none⟩ (.string s)).setCell ⟨w.heap.size, 2, none⟩ (.string u)).setCell ⟨w.heap.size, 3, none⟩ (.string ⟨#[]⟩)) (some q)) := dop_box H0.out R4.out G4.out
    go_wp2
    have RZ := dop_row (k := .int .i64 2) (n := .string s) (t := .string u) (d := .string ⟨#[]⟩) RB4.out
    obtain ⟨r0, r1, r2, r3⟩ := cells4 RZ
    refine bodyPost_ret (v := .agg #[.int .i64 2, .string s, .string u, .string ⟨#[]⟩]) (by simp [results, Try.results31, go_sem, r0, r1, r2, r3]) rfl ⟨2, s, u, ⟨#[]⟩, p4, rfl, ⟨hs, hu, by decide⟩, FN.out.1, FN.out.2⟩
  by_cases h1 : v = 1
  · subst h1
    obtain ⟨z0, z1, z2, z3⟩ := cells4 RB2.out
    have zf := fun i => frozen_of_row _ _ i _ _ RB2.out
    have FN : Hid (RD ((((w2.setCell ⟨w.heap.size, 0, none⟩ (.int .i64 3)).setCell ⟨w.heap.size, 1, none⟩ (.string s)).setCell ⟨w.heap.size, 2, none⟩ (.string ⟨#[]⟩)).setCell ⟨w.heap.size, 3, none⟩ (.string ⟨#[]⟩)) q a bs c p2 ∧ w.grownBy ((((w2.setCell ⟨w.heap.size, 0, none⟩ (.int .i64 3)).setCell ⟨w.heap.size, 1, none⟩ (.string s)).setCell ⟨w.heap.size, 2, none⟩ (.string ⟨#[]⟩)).setCell ⟨w.heap.size, 3, none⟩ (.string ⟨#[]⟩)) (some q)) := dop_box H0.out R2.out G2.out
    go_wp2
    have RZ := dop_row (k := .int .i64 3) (n := .string s) (t := .string ⟨#[]⟩) (d := .string ⟨#[]⟩) RB2.out
    obtain ⟨r0, r1, r2, r3⟩ := cells4 RZ
    refine bodyPost_ret (v := .agg #[.int .i64 3, .string s, .string ⟨#[]⟩, .string ⟨#[]⟩]) (by simp [results, Try.results31, go_sem, r0, r1, r2, r3]) rfl ⟨3, s, ⟨#[]⟩, ⟨#[]⟩, p2, rfl, ⟨hs, by decide, by decide⟩, FN.out.1, FN.out.2⟩
  have h0' : (v == 0) = false := by simp [h0]
  have h1' : (v == 1) = false := by simp [h1]
  go_wp2_with fail
  refine (text_any q p2 c a bs w2 R2.out).mono ?_
  rintro e w4 ⟨u, p4, rfl, hu, hr, hg⟩
  have R4 : Hid (RD w4 q a bs c p4) := hr
  have G4 : Hid (w.grownBy w4 (some q)) := grown_trn G2.out hg
  have RB4 : Hid (w4.heap[w.heap.size]? = some (.cells #[.int .i64 0, .string ⟨#[]⟩, .string ⟨#[]⟩, .string ⟨#[]⟩] 36 (0, 0))) := row_gq RB2.out (row_lt RB2.out) hg hqn
  clear hr hg R2 G2 RB2
  obtain ⟨z0, z1, z2, z3⟩ := cells4 RB4.out
  have zf := fun i => frozen_of_row _ _ i _ _ RB4.out
  have FN : Hid (RD ((((w4.setCell ⟨w.heap.size, 0, none⟩ (.int .i64 1)).setCell ⟨w.heap.size, 1, none⟩ (.string s)).setCell ⟨w.heap.size, 2, none⟩ (.string ⟨#[]⟩)).setCell ⟨w.heap.size, 3, none⟩ (.string u)) q a bs c p4 ∧ w.grownBy ((((w4.setCell ⟨w.heap.size, 0, none⟩ (.int .i64 1)).setCell ⟨w.heap.size, 1, none⟩ (.string s)).setCell ⟨w.heap.size, 2, none⟩ (.string ⟨#[]⟩)).setCell ⟨w.heap.size, 3, none⟩ (.string u)) (some q)) := dop_box H0.out R4.out G4.out
  go_wp2
  have RZ := dop_row (k := .int .i64 1) (n := .string s) (t := .string ⟨#[]⟩) (d := .string u) RB4.out
  obtain ⟨r0, r1, r2, r3⟩ := cells4 RZ
  refine bodyPost_ret (v := .agg #[.int .i64 1, .string s, .string ⟨#[]⟩, .string u]) (by simp [results, Try.results31, go_sem, r0, r1, r2, r3]) rfl ⟨1, s, ⟨#[]⟩, u, p4, rfl, ⟨hs, by decide, hu⟩, FN.out.1, FN.out.2⟩

end Go.Proofs.Ytpahhhocgpohbaa
