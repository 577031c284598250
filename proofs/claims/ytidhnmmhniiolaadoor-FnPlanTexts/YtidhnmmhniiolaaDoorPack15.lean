import Derived.Test.YtidhnmmhniiolaaDoorPack1
namespace Go.Proofs.YtidhnmmhniiolaaDoor
open Go.RowKit

/-- The slice at 'a' holds the bytes bs, none of them in block q. -/
def BytesAt (w : World) (q : Nat) (a : Option Addr) (bs : List Int) : Prop :=
  ∀ j, j < bs.length → ∃ b off, a = some ⟨b, off, none⟩ ∧ b ≠ q ∧ w.cell? ⟨b, off + j, none⟩ = some (.int .u8 (bs.getD j 0)) ∧ 0 ≤ bs.getD j 0 ∧ bs.getD j 0 < 256
/-- A reader of drawn bytes in block q: its bytes, and how many it has read. -/
def RD (w : World) (q : Nat) (a : Option Addr) (bs : List Int) (c p : Nat) : Prop :=
  w.heap[q]? = some (.cells #[.slice a bs.length c, .int .i64 p] 66 (0, 0)) ∧ p ≤ bs.length ∧ BytesAt w q a bs ∧ bs.length ≤ 1048576
theorem BytesAt.grown {w w' : World} {q : Nat} {a : Option Addr} {bs : List Int} (h : BytesAt w q a bs) (hg : w.grownBy w' (some q)) : BytesAt w' q a bs := by
  intro j hj
  obtain ⟨b, off, e, hne, hc, hv⟩ := h j hj
  refine ⟨b, off, e, hne, ?_, hv⟩
  have hlt := block_lt_of_cell hc
  rw [World.cell?_of_block (hg.block b hlt (fun e => hne (by simpa using e)))]
  exact hc
theorem RD.below {w w' : World} {q : Nat} {a : Option Addr} {bs : List Int} {c p : Nat} (h : RD w q a bs c p) (hb : Below w.heap.size w w') : RD w' q a bs c p := by
  refine ⟨below_row hb (row_lt h.1) h.1, h.2.1, fun j hj => ?_, h.2.2.2⟩
  obtain ⟨b, off, e, hne, hc, hv⟩ := h.2.2.1 j hj
  exact ⟨b, off, e, hne, (hb.cell (p := ⟨b, off + j, none⟩) (block_lt_of_cell hc)).trans hc, hv⟩
theorem RD.put {w : World} {q : Nat} {a : Option Addr} {bs : List Int} {c p p' : Nat} (h : RD w q a bs c p) (hp : p' ≤ bs.length) : RD (w.setCell ⟨q, 1, none⟩ (.int .i64 p')) q a bs c p' := by
  refine ⟨?_, hp, h.2.2.1.grown (grown_set w q 1 _), h.2.2.2⟩
  have := heap_setCell_same w q 1 _ _ (Value.int .i64 p') h.1
  simpa using this
/-- What a draw answers: a number that is at least lo and below hi; the reader alone has changed. -/
def DrawOk (w : World) (q : Nat) (a : Option Addr) (bs : List Int) (c : Nat) (lo hi : Int) (e : Ending) (w' : World) : Prop :=
  ∃ (v : Int) (p' : Nat), e = .returned (.int .i64 v) ∧ lo ≤ v ∧ v < hi ∧ RD w' q a bs c p' ∧ w.grownBy w' (some q)
theorem grown_drew {w w' : World} {q : Nat} (h : w.grownBy w' (some q)) : w.grownBy w'.drew (some q) := ⟨h.os, h.tape, h.output, h.size, h.block⟩

set_option maxHeartbeats 1000000 in
theorem next_any (q p c : Nat) (a : Option Addr) (bs : List Int) (w : World) (h : RD w q a bs c p) :
    Calls Tryd.prog 58 #[.pointer (some ⟨q, 0, none⟩)] w (DrawOk w q a bs c 0 256) := by
  have H : Hid (RD w q a bs c p) := h
  obtain ⟨c0, c1⟩ := cells2 h.1
  have hp := h.2.1
  have hbl := h.2.2.2
  clear h
  by_cases hlt : p < bs.length
  · obtain ⟨b, off, rfl, hne, hc, h1, h2⟩ := H.out.2.2.1 p hlt
    obtain ⟨v, HV⟩ : ∃ t, Hid (bs.getD p 0 = t) := ⟨_, rfl⟩
    rw [HV.out] at hc h1 h2
    have hnge : ¬ ((bs.length : Int) ≤ (p : Int)) := by omega
    have hwp : IntKind.i64.wrap ((p : Int) + 1) = ((p + 1 : Nat) : Int) := by rw [IntWalk.i64_in _ (by omega)]; omega
    have cf := fun i => frozen_of_row _ _ i _ _ H.out.1
    go_enter Tryd.func58, Tryd.ntmps58
    go_wp2_with fail
    go_region
    all_goals
      have hnl : ¬ bs.length ≤ p := by omega
      go_wp2_with fail
      have r1 := (H.out.put (p' := p + 1) (by omega)).below (Below.refl _ _).drew
      have g1 := grown_drew (grown_set w q 1 (Value.int .i64 ((p + 1 : Nat) : Int)))
      rw [show ((p + 1 : Nat) : Int) = (p : Int) + 1 by omega] at r1 g1
      generalize (w.setCell ⟨q, 1, none⟩ (.int .i64 ((p : Int) + 1))).drew = W1 at *
      have R1 : Hid (RD W1 q (some ⟨b, off, none⟩) bs c (p + 1)) := r1
      have G1 : Hid (w.grownBy W1 (some q)) := g1
      clear c0 c1 hc cf r1 g1
      obtain ⟨c0, c1⟩ := cells2 R1.out.1
      obtain ⟨b2, off2, e2, _, hc, _⟩ := R1.out.2.2.1 p hlt
      simp at e2
      obtain ⟨rfl, rfl⟩ := e2
      rw [HV.out] at hc
      rw [show ((p + 1 : Nat) : Int) = (p : Int) + 1 by omega] at c1
      have hw2 : IntKind.i64.wrap ((p : Int) + 1 - 1) = (p : Int) := by rw [IntWalk.i64_in _ (by omega)]; omega
      have hp0 : (0 : Int) ≤ (p : Int) := by omega
      have hw3 : IntKind.i64.wrap v = v := IntWalk.i64_in _ (by omega)
      go_region
      all_goals
        go_wp2
        go_ret
        exact ⟨v, p + 1, rfl, h1, h2, R1.out.below (Below.refl _ _).drew, grown_drew G1.out⟩
  · have hge : (bs.length : Int) ≤ (p : Int) := by omega
    have hnl : bs.length ≤ p := by omega
    go_enter Tryd.func58, Tryd.ntmps58
    go_wp2_with fail
    go_region
    all_goals
      go_wp2
      go_ret
      exact ⟨0, p, rfl, by omega, by omega, H.out.below (Below.refl _ _).drew, grown_drew (grown_refl w q)⟩

theorem DrawOk.mono {w : World} {q c : Nat} {a : Option Addr} {bs : List Int} {lo hi hi' : Int} {e : Ending} {w' : World} (h : DrawOk w q a bs c lo hi e w') (hh : hi ≤ hi') : DrawOk w q a bs c lo hi' e w' := by
  obtain ⟨v, p, h1, h2, h3, h4⟩ := h
  exact ⟨v, p, h1, h2, by omega, h4⟩

set_option maxHeartbeats 1000000 in
theorem below_any (q p c : Nat) (n : Int) (a : Option Addr) (bs : List Int) (w : World) (h : RD w q a bs c p) (hn : n ≤ 65536) :
    Calls Tryd.prog 30 #[.pointer (some ⟨q, 0, none⟩), .int .i64 n] w (DrawOk w q a bs c 0 (max n 1)) := by
  have H : Hid (RD w q a bs c p) := h
  clear h
  by_cases h1 : n ≤ 1
  · go_enter Tryd.func30, Tryd.ntmps30
    go_wp2
    go_ret
    exact ⟨0, p, rfl, by omega, by omega, H.out, grown_refl w q⟩
  · by_cases h2 : n ≤ 256
    · have hn0 : ¬ n = 0 := by omega
      go_enter Tryd.func30, Tryd.ntmps30
      go_wp2_with fail
      refine (next_any q p c a bs w H.out).mono ?_
      rintro e w1 ⟨v, p1, rfl, hv0, hv1, hr, hg⟩
      have R1 : Hid (RD w1 q a bs c p1) := hr
      have G1 : Hid (w.grownBy w1 (some q)) := hg
      clear hr hg
      go_wp2
      go_ret
      exact ⟨v % n, p1, rfl, Int.emod_nonneg _ (by omega), by have := Int.emod_lt_of_pos v (show 0 < n by omega); omega, R1.out, G1.out⟩
    · have hn0 : ¬ n = 0 := by omega
      go_enter Tryd.func30, Tryd.ntmps30
      go_wp2_with fail
      refine (next_any q p c a bs w H.out).mono ?_
      rintro e w1 ⟨v, p1, rfl, hv0, hv1, hr, hg⟩
      have R1 : Hid (RD w1 q a bs c p1) := hr
      have G1 : Hid (w.grownBy w1 (some q)) := hg
      clear hr hg
      obtain ⟨x, hx⟩ : ∃ x, v * 256 = x := ⟨_, rfl⟩
      have hwx : IntKind.i64.wrap (v * 256) = x := by rw [IntWalk.i64_in _ (by omega)]; exact hx
      have hx0 : 0 ≤ x ∧ x ≤ 65280 := by omega
      go_wp2_with fail
      refine (next_any q p1 c a bs w1 R1.out).mono ?_
      rintro e w2 ⟨u, p2, rfl, hu0, hu1, hr, hg⟩
      have R2 : Hid (RD w2 q a bs c p2) := hr
      have G2 : Hid (w1.grownBy w2 (some q)) := hg
      clear hr hg
      obtain ⟨y, hy⟩ : ∃ y, x + u = y := ⟨_, rfl⟩
      have hwy : IntKind.i64.wrap (x + u) = y := by rw [IntWalk.i64_in _ (by omega)]; exact hy
      have hy0 : 0 ≤ y ∧ y ≤ 65535 := by omega
      clear hwx hv0 hv1 hu0 hu1
      go_wp2
      go_ret
      exact ⟨y % n, p2, by first | rfl | (subst hy; subst hx; rfl), Int.emod_nonneg _ (by omega), by have := Int.emod_lt_of_pos y (show 0 < n by omega); omega, R2.out, grown_trans G1.out G2.out⟩

end Go.Proofs.YtidhnmmhniiolaaDoor

namespace Go.Proofs.YtidhnmmhniiolaaDoor
open Go.RowKit

set_option maxHeartbeats 1000000 in
theorem once_any (q p c : Nat) (n : Int) (a : Option Addr) (bs : List Int) (w : World) (h : RD w q a bs c p) (h1 : 0 ≤ n) (hn : n ≤ 65536) :
    Calls Tryd.prog 62 #[.pointer (some ⟨q, 0, none⟩), .int .i64 n] w fun e w' => ∃ (v : Bool) (p' : Nat), e = .returned (.bool v) ∧ RD w' q a bs c p' ∧ w.grownBy w' (some q) := by
  have H : Hid (RD w q a bs c p) := h
  clear h
  have hw1 : IntKind.i64.wrap (n - 1) = n - 1 := IntWalk.i64_in _ (by omega)
  go_enter Tryd.func62, Tryd.ntmps62
  go_wp2_with fail
  refine (below_any q p c n a bs w H.out hn).mono ?_
  rintro e w1 ⟨v, p1, rfl, hv0, hv1, hr, hg⟩
  have R1 : Hid (RD w1 q a bs c p1) := hr
  have G1 : Hid (w.grownBy w1 (some q)) := hg
  clear hr hg hv0 hv1
  go_wp2
  go_ret
  exact ⟨_, p1, rfl, R1.out, G1.out⟩

end Go.Proofs.YtidhnmmhniiolaaDoor

namespace Go.Proofs.YtidhnmmhniiolaaDoor
open Go.RowKit

theorem or_u64 (x y : Int) : 0 ≤ bits BinOp.or IntKind.u64 x y ∧ bits BinOp.or IntKind.u64 x y < 18446744073709551616 := by
  unfold bits
  rw [IntKind.wrap_u64]
  omega
/-- What 'word' answers: some number of 64 bits; the reader alone has changed. -/
def WordOk (w : World) (q : Nat) (a : Option Addr) (bs : List Int) (c : Nat) (e : Ending) (w' : World) : Prop :=
  ∃ (v : Int) (p' : Nat), e = .returned (.int .u64 v) ∧ 0 ≤ v ∧ v < 18446744073709551616 ∧ RD w' q a bs c p' ∧ w.grownBy w' (some q)

set_option maxHeartbeats 2000000 in
theorem word_any (q p c : Nat) (a : Option Addr) (bs : List Int) (w : World) (h : RD w q a bs c p) :
    Calls Tryd.prog 78 #[.pointer (some ⟨q, 0, none⟩)] w (WordOk w q a bs c) := by
  have H : Hid (RD w q a bs c p) := h
  clear h
  go_enter Tryd.func78, Tryd.ntmps78
  go_wp2_with fail
  go_loopw [3, 4] (fun tx t wr => ∃ (k p' : Nat) (x : Int), k ≤ 8 ∧ t = .int .i64 k ∧ tx = .int .u64 x ∧ 0 ≤ x ∧ x < 18446744073709551616 ∧ RD wr q a bs c p' ∧ w.grownBy wr (some q)) (fun _ t _ => 8 - (intOf t).toNat)
  case atStart => exact ⟨0, p, 0, by omega, rfl, rfl, by omega, by omega, H.out, grown_refl w q⟩
  case round =>
    obtain ⟨k, p1, x, hk, rfl, rfl, hx0, hx1, hr, hg⟩ := hrel
    have R1 : Hid (RD wr q a bs c p1) := hr
    have G1 : Hid (w.grownBy wr (some q)) := hg
    clear hr hg
    by_cases hlt : k < 8
    · have hlt' : (k : Int) < 8 := by omega
      have hwk : IntKind.i64.wrap ((k : Int) + 1) = ((k + 1 : Nat) : Int) := by rw [IntWalk.i64_in _ (by omega)]; omega
      go_wp2_with fail
      refine (next_any q p1 c a bs wr R1.out).mono ?_
      rintro e w2 ⟨v, p2, rfl, hv0, hv1, hr, hg⟩
      have R2 : Hid (RD w2 q a bs c p2) := hr
      have G2 : Hid (w.grownBy w2 (some q)) := grown_trans G1.out hg
      clear hr hg
      go_wp2
      go_roundw
      case rel =>
        obtain ⟨b1, b2⟩ := or_u64 (IntKind.u64.wrap (x * 256)) v
        exact ⟨k + 1, p2, _, by omega, by first | rfl | go_num, rfl, b1, b2, R2.out, G2.out⟩
      case measure => simp [intOf]; omega
    · have hke : k = 8 := by omega
      subst hke
      go_wp2
      go_ret
      exact ⟨x, p1, rfl, hx0, hx1, R1.out, G1.out⟩

end Go.Proofs.YtidhnmmhniiolaaDoor

namespace Go.Proofs.YtidhnmmhniiolaaDoor
open Go.RowKit

theorem grown_alloc (w : World) (o : Obj) (q : Nat) : w.grownBy (w.alloc o) (some q) := ⟨rfl, rfl, rfl, by simp, fun k hk _ => heap_alloc_old _ _ hk⟩
theorem wrap64_bd (n : Int) : -9223372036854775808 ≤ wrap64 n ∧ wrap64 n < 9223372036854775808 := by
  unfold wrap64
  omega
/-- What 'near' and 'off' answer: some number; of what was there the reader alone has changed. -/
def NumOk (w : World) (q : Nat) (a : Option Addr) (bs : List Int) (c : Nat) (e : Ending) (w' : World) : Prop :=
  ∃ (v : Int) (p' : Nat), e = .returned (.int .i64 v) ∧ -9223372036854775808 ≤ v ∧ v < 9223372036854775808 ∧ RD w' q a bs c p' ∧ w.grownBy w' (some q)

def OffOk (w : World) (q : Nat) (a : Option Addr) (bs : List Int) (c : Nat) (e : Ending) (w' : World) : Prop := NumOk w q a bs c e w'

/-- How many numbers lie between, as 64 bits without a sign. -/
theorem near_d {lo hi : Int} (hl0 : -3000000000 ≤ lo) (hl1 : lo ≤ 3000000000) (hh0 : -9223372036854775808 ≤ hi) (hh1 : hi < 9223372036854775808) (h : lo ≤ hi) : ¬ IntKind.u64.wrap (IntKind.i64.wrap (IntKind.i64.wrap (hi - lo) + 1)) = 0 ∧ 0 < IntKind.u64.wrap (IntKind.i64.wrap (IntKind.i64.wrap (hi - lo) + 1)) ∧ IntKind.u64.wrap (IntKind.i64.wrap (IntKind.i64.wrap (hi - lo) + 1)) < 18446744073709551616 := by
  rw [IntKind.wrap_u64, IntKind.wrap_i64, IntKind.wrap_i64]
  omega

set_option maxHeartbeats 2000000 in
theorem near_any (q p c : Nat) (lo hi : Int) (a : Option Addr) (bs : List Int) (w : World) (h : RD w q a bs c p) (hl0 : -3000000000 ≤ lo) (hl1 : lo ≤ 3000000000) (hh0 : -9223372036854775808 ≤ hi) (hh1 : hi < 9223372036854775808) :
    Calls Tryd.prog 63 #[.pointer (some ⟨q, 0, none⟩), .int .i64 lo, .int .i64 hi] w (NumOk w q a bs c) := by
  have H : Hid (RD w q a bs c p) := h
  clear h
  go_enter Tryd.func63, Tryd.ntmps63
  go_wp2_with fail
  refine (below_any q p c 8 a bs w H.out (by omega)).mono ?_
  rintro e w1 ⟨v, p1, rfl, hv0, hv1, hr, hg⟩
  have R1 : Hid (RD w1 q a bs c p1) := hr
  have G1 : Hid (w.grownBy w1 (some q)) := hg
  clear hr hg
  rcases (show v = 0 ∨ v = 1 ∨ (¬ v = 0 ∧ ¬ v = 1) from by omega) with rfl | rfl | ⟨h0, h1⟩
  · go_wp2
    go_ret
    exact ⟨lo, p1, rfl, by omega, by omega, R1.out, G1.out⟩
  · go_wp2
    go_ret
    exact ⟨hi, p1, rfl, by omega, by omega, R1.out, G1.out⟩
  · have e0 : (v == 0) = false := by simpa using h0
    have e1 : (v == 1) = false := by simpa using h1
    by_cases hlt : hi < lo
    · go_wp2
      go_ret
      exact ⟨lo, p1, rfl, by omega, by omega, R1.out, G1.out⟩
    · obtain ⟨hdn0, hd1, hd2⟩ := near_d hl0 hl1 hh0 hh1 (by omega)
      obtain ⟨x1, HX1⟩ : ∃ x, IntKind.i64.wrap (hi - lo) = x := ⟨_, rfl⟩
      rw [HX1] at hdn0 hd1 hd2
      obtain ⟨x2, HX2⟩ : ∃ x, IntKind.i64.wrap (x1 + 1) = x := ⟨_, rfl⟩
      rw [HX2] at hdn0 hd1 hd2
      obtain ⟨d, HD⟩ : ∃ x, IntKind.u64.wrap x2 = x := ⟨_, rfl⟩
      rw [HD] at hdn0 hd1 hd2
      have HX1' : wrap64 (hi - lo) = x1 := by rw [← HX1, IntKind.wrap_i64]; unfold wrap64; rfl
      have HX2' : wrap64 (x1 + 1) = x2 := by rw [← HX2, IntKind.wrap_i64]; unfold wrap64; rfl
      clear hv0 hv1
      go_wp2_with fail
      refine (word_any q p1 c a bs w1 R1.out).mono ?_
      rintro e w2 ⟨x, p2, rfl, hx0, hx1, hr, hg⟩
      have R2 : Hid (RD w2 q a bs c p2) := hr
      have G2 : Hid (w.grownBy w2 (some q)) := grown_trans G1.out hg
      clear hr hg
      have hdn : ¬ d = 0 := hdn0
      go_wp2
      go_ret
      have hb := wrap64_bd (lo + wrap64 (x / 2 % d))
      exact ⟨_, p2, rfl, hb.1, hb.2, R2.out, G2.out⟩

set_option maxHeartbeats 2000000 in
theorem off_any (q p c : Nat) (lo hi : Int) (a : Option Addr) (bs : List Int) (w : World) (h : RD w q a bs c p) (hl0 : -3000000000 ≤ lo) (hl1 : lo ≤ 3000000000) (hh0 : -9223372036854775808 ≤ hi) (hh1 : hi < 9223372036854775808) :
    Calls Tryd.prog 35 #[.pointer (some ⟨q, 0, none⟩), .int .i64 lo, .int .i64 hi] w (OffOk w q a bs c) := by
  have H : Hid (RD w q a bs c p) := h
  clear h
  go_enter Tryd.func35, Tryd.ntmps35
  go_wp2_with fail
  refine (once_any q p c 24 a bs w H.out (by omega) (by omega)).mono ?_
  rintro e w1 ⟨v, p1, rfl, hr, hg⟩
  have R1 : Hid (RD w1 q a bs c p1) := hr
  have G1 : Hid (w.grownBy w1 (some q)) := hg
  clear hr hg
  cases v
  · go_wp2_with fail
    refine (near_any q p1 c lo hi a bs w1 R1.out hl0 hl1 hh0 hh1).mono ?_
    rintro e w2 ⟨x, p2, rfl, hx0, hx1, hr, hg⟩
    have R2 : Hid (RD w2 q a bs c p2) := hr
    have G2 : Hid (w.grownBy w2 (some q)) := grown_trans G1.out hg
    clear hr hg
    go_wp2
    go_ret
    exact ⟨x, p2, rfl, hx0, hx1, R2.out, G2.out⟩
  · have hw1 : IntKind.i64.wrap (lo - 1) = lo - 1 := IntWalk.i64_in _ (by omega)
    obtain ⟨h2, HH2⟩ : ∃ x, IntKind.i64.wrap (hi + 1) = x := ⟨_, rfl⟩
    have HH2' : wrap64 (hi + 1) = h2 := by rw [← HH2, IntKind.wrap_i64]; unfold wrap64; rfl
    have hh2 : -9223372036854775808 ≤ h2 ∧ h2 < 9223372036854775808 := by rw [← HH2']; exact wrap64_bd _
    go_wp2_with fail
    have RA : Hid (RD (w1.alloc (Obj.cells #[Value.int IntKind.i64 (lo - 1), Value.int IntKind.i64 h2, Value.int IntKind.i64 (-9223372036854775808), Value.int IntKind.i64 9223372036854775807] 2)) q a bs c p1) := R1.out.below ((Below.refl _ _).alloc (Nat.le_refl _) _)
    have NA : Hid ((w1.alloc (Obj.cells #[Value.int IntKind.i64 (lo - 1), Value.int IntKind.i64 h2, Value.int IntKind.i64 (-9223372036854775808), Value.int IntKind.i64 9223372036854775807] 2)).heap[w1.heap.size]? = _) := heap_alloc_new _ _
    have HQ : Hid (q < w1.heap.size) := row_lt R1.out.1
    refine (below_any q p1 c 4 a bs _ RA.out (by omega)).mono ?_
    rintro e w2 ⟨x, p2, rfl, hx0, hx1, hr, hg⟩
    have R2 : Hid (RD w2 q a bs c p2) := hr
    have G2 : Hid (w.grownBy w2 (some q)) := grown_trans (grown_trans G1.out (grown_alloc w1 _ q)) hg
    have N2 := (hg.block _ (row_lt NA.out) (fun e => by have := HQ.out; simp at e; omega)).trans NA.out
    clear hr hg
    have n0 := cell_of_row _ _ 0 _ _ _ N2
    have n1 := cell_of_row _ _ 1 _ _ _ N2
    have n2 := cell_of_row _ _ 2 _ _ _ N2
    have n3 := cell_of_row _ _ 3 _ _ _ N2
    simp at n0 n1 n2 n3
    clear N2
    rcases (show x = 0 ∨ x = 1 ∨ x = 2 ∨ x = 3 from by omega) with rfl | rfl | rfl | rfl
    all_goals
      go_wp2
      go_ret
      exact ⟨_, p2, rfl, by omega, by omega, R2.out, G2.out⟩

end Go.Proofs.YtidhnmmhniiolaaDoor

namespace Go.Proofs.YtidhnmmhniiolaaDoor
open Go.RowKit

/-- The slice at 'a' holds the bytes bs. -/
def CodeAt (w : World) (a : Option Addr) (bs : List Int) : Prop :=
  ∀ j, j < bs.length → ∃ b off, a = some ⟨b, off, none⟩ ∧ w.cell? ⟨b, off + j, none⟩ = some (.int .u8 (bs.getD j 0)) ∧ 0 ≤ bs.getD j 0 ∧ bs.getD j 0 < 256

set_option maxHeartbeats 400000 in
theorem l1Open_any (a : Option Addr) (c : Nat) (bs : List Int) (w : World) (h : CodeAt w a bs) (hl : bs.length ≤ 1048576) :
    Calls Tryd.prog 12 #[.slice a bs.length c] w fun e w' => e = .returned (.pointer (some ⟨w.heap.size, 0, none⟩)) ∧ Below w.heap.size w w' ∧ RD w' w.heap.size a bs c 0 := by
  have H : Hid (CodeAt w a bs) := h
  clear h
  go_enter Tryd.func12, Tryd.ntmps12
  go_wp2
  go_ret
  refine ⟨rfl, (Below.refl _ _).alloc (Nat.le_refl _) _, heap_alloc_new _ _, Nat.zero_le _, fun j hj => ?_, hl⟩
  obtain ⟨b, off, e, hc, hv⟩ := H.out j hj
  have hlt := block_lt_of_cell hc
  simp at hlt
  exact ⟨b, off, e, by omega, (((Below.refl w.heap.size w).alloc (Nat.le_refl _) _).cell (p := ⟨b, off + j, none⟩) hlt).trans hc, hv⟩

/-- Where the reader was made by the call itself, what was there is as it was. -/
theorem grown_below {w w1 w2 : World} {q : Nat} (hb : Below w.heap.size w w1) (hq : w.heap.size ≤ q) (hg : w1.grownBy w2 (some q)) : Below w.heap.size w w2 := hb.grown hg hb.size (fun k e => by injection e with e; omega)

end Go.Proofs.YtidhnmmhniiolaaDoor

namespace Go.Proofs.YtidhnmmhniiolaaDoor
end Go.Proofs.YtidhnmmhniiolaaDoor

namespace Go.Proofs.YtidhnmmhniiolaaDoor
open Go.RowKit

set_option maxHeartbeats 1000000 in
theorem below_big (q p c : Nat) (n : Int) (a : Option Addr) (bs : List Int) (w : World) (h : RD w q a bs c p) (hn : n ≤ 9223372036854775807) :
    Calls Tryd.prog 30 #[.pointer (some ⟨q, 0, none⟩), .int .i64 n] w (DrawOk w q a bs c 0 (max n 1)) := by
  have H : Hid (RD w q a bs c p) := h
  clear h
  by_cases h1 : n ≤ 1
  · go_enter Tryd.func30, Tryd.ntmps30
    go_wp2
    go_ret
    exact ⟨0, p, rfl, by omega, by omega, H.out, grown_refl w q⟩
  · by_cases h2 : n ≤ 256
    · have hn0 : ¬ n = 0 := by omega
      go_enter Tryd.func30, Tryd.ntmps30
      go_wp2_with fail
      refine (next_any q p c a bs w H.out).mono ?_
      rintro e w1 ⟨v, p1, rfl, hv0, hv1, hr, hg⟩
      have R1 : Hid (RD w1 q a bs c p1) := hr
      have G1 : Hid (w.grownBy w1 (some q)) := hg
      clear hr hg
      go_wp2
      go_ret
      exact ⟨v % n, p1, rfl, Int.emod_nonneg _ (by omega), by have := Int.emod_lt_of_pos v (show 0 < n by omega); omega, R1.out, G1.out⟩
    · have hn0 : ¬ n = 0 := by omega
      go_enter Tryd.func30, Tryd.ntmps30
      go_wp2_with fail
      refine (next_any q p c a bs w H.out).mono ?_
      rintro e w1 ⟨v, p1, rfl, hv0, hv1, hr, hg⟩
      have R1 : Hid (RD w1 q a bs c p1) := hr
      have G1 : Hid (w.grownBy w1 (some q)) := hg
      clear hr hg
      obtain ⟨x, hx⟩ : ∃ x, v * 256 = x := ⟨_, rfl⟩
      have hwx : IntKind.i64.wrap (v * 256) = x := by rw [IntWalk.i64_in _ (by omega)]; exact hx
      have hx0 : 0 ≤ x ∧ x ≤ 65280 := by omega
      go_wp2_with fail
      refine (next_any q p1 c a bs w1 R1.out).mono ?_
      rintro e w2 ⟨u, p2, rfl, hu0, hu1, hr, hg⟩
      have R2 : Hid (RD w2 q a bs c p2) := hr
      have G2 : Hid (w1.grownBy w2 (some q)) := hg
      clear hr hg
      obtain ⟨y, hy⟩ : ∃ y, x + u = y := ⟨_, rfl⟩
      have hwy : IntKind.i64.wrap (x + u) = y := by rw [IntWalk.i64_in _ (by omega)]; exact hy
      have hy0 : 0 ≤ y ∧ y ≤ 65535 := by omega
      clear hwx hv0 hv1 hu0 hu1
      go_wp2
      go_ret
      exact ⟨y % n, p2, by first | rfl | (subst hy; subst hx; rfl), Int.emod_nonneg _ (by omega), by have := Int.emod_lt_of_pos y (show 0 < n by omega); omega, R2.out, grown_trans G1.out G2.out⟩


end Go.Proofs.YtidhnmmhniiolaaDoor

namespace Go.Proofs.YtidhnmmhniiolaaDoor
open Go.RowKit

set_option maxHeartbeats 400000 in
theorem sameInts_any (a b : Option Addr) (c1 c2 : Nat) (xs ys : List Int) (w : World) (hA : IntsAt w a xs) (hB : IntsAt w b ys) (hl1 : xs.length ≤ 1125899906842624) :
    Calls Tryd.prog 24 #[.slice a xs.length c1, .slice b ys.length c2] w fun e w' => e = .returned (.bool (decide (xs = ys))) ∧ Below w.heap.size w w' := by
  by_cases hl : xs.length = ys.length
  · have HA : Hid (IntsAt w a xs) := hA
    have HB : Hid (IntsAt w b ys) := hB
    have HL : Hid (xs.length = ys.length) := hl
    rw [hl] at hl1 ⊢
    clear hA hB hl
    go_enter Tryd.func24, Tryd.ntmps24
    go_wp2_with fail
    go_loopw [5] (fun t wr => ∃ k : Nat, k ≤ ys.length ∧ t = .int .i64 k ∧ Below w.heap.size w wr ∧ xs.take k = ys.take k) (fun t _ => ys.length - (intOf t).toNat)
    case atStart => exact ⟨0, Nat.zero_le _, rfl, Below.refl _ _, by simp⟩
    case round =>
      obtain ⟨k, hk, rfl, hb, he⟩ := hrel
      have HE : Hid (xs.take k = ys.take k) := he
      clear he
      by_cases hlt : k < ys.length
      · have hxk : k < xs.length := by rw [HL.out]; exact hlt
        obtain ⟨b1, o1, rfl, hc1⟩ := IntsAt.some (IntsAt.below HA.out hb) hxk
        obtain ⟨b2, o2, rfl, hc2⟩ := IntsAt.some (IntsAt.below HB.out hb) hlt
        have ct1 := hc1 k hxk
        have ct2 := hc2 k hlt
        clear hc1 hc2
        generalize ht1 : xs.getD k 0 = t1 at ct1
        generalize ht2 : ys.getD k 0 = t2 at ct2
        have H1 : Hid (xs.getD k 0 = t1) := ht1
        have H2 : Hid (ys.getD k 0 = t2) := ht2
        clear ht1 ht2
        by_cases ht : t1 = t2
        · have htb : (t1 != t2) = false := by simp [ht]
          have HT : Hid (t1 = t2) := ht
          clear ht
          go_wp2
          go_quiet (fail)
          go_wp2
          refine ⟨⟨k + 1, by omega, by go_num, below_drewN hb _, ?_⟩, by simp [intOf]; omega⟩
          rw [take_snoc xs k hxk, take_snoc ys k hlt, HE.out, H1.out, H2.out, HT.out]
        · have htb : (t1 != t2) = true := by simp [ht]
          have HN : Hid (decide (xs = ys) = false) := by
            apply decide_eq_false
            intro e
            exact ht (by rw [← H1.out, ← H2.out, e])
          clear ht
          go_wp2
          go_quiet (fail)
          go_wp2
          go_ret
          exact ⟨ret_bool HN.out.symm, below_drewN hb _⟩
      · have HN : Hid (decide (xs = ys) = true) := by
          apply decide_eq_true
          have h := HE.out
          rwa [List.take_of_length_le (by rw [HL.out]; omega), List.take_of_length_le (by omega)] at h
        go_wp2
        go_ret
        exact ⟨ret_bool HN.out.symm, hb⟩
  · have HN : Hid (decide (xs = ys) = false) := decide_eq_false fun e => hl (by rw [e])
    have hne : ((xs.length : Int) != (ys.length : Int)) = true := by rw [bne_iff_ne]; omega
    clear hA hB hl
    go_enter Tryd.func24, Tryd.ntmps24
    go_wp2
    go_ret
    exact ⟨ret_bool HN.out.symm, Below.refl _ _⟩

end Go.Proofs.YtidhnmmhniiolaaDoor

namespace Go.Proofs.YtidhnmmhniiolaaDoor
open Go.RowKit

set_option maxHeartbeats 1000000 in
theorem sameRoute_same (v : Int) (a b : Option Addr) (c1 c2 : Nat) (xs : List Int) (w : World) (hA : IntsAt w a xs) (hB : IntsAt w b xs) (hl : xs.length ≤ 1000) :
    Calls Tryd.prog 25 #[.agg #[.int .i64 v, .slice a xs.length c1], .agg #[.int .i64 v, .slice b xs.length c2]] w fun e w' => e = .returned (.bool true) ∧ Below w.heap.size w w' := by
  have B0 : Hid (Below w.heap.size w ((w.alloc (Obj.cells #[Value.int IntKind.i64 v, Value.slice a xs.length c1] 49)).alloc (Obj.cells #[Value.int IntKind.i64 v, Value.slice b xs.length c2] 49))) := ((Below.refl _ _).alloc (Nat.le_refl _) _).alloc (by simp) _
  have P0 : Hid (((w.alloc (Obj.cells #[Value.int IntKind.i64 v, Value.slice a xs.length c1] 49)).alloc (Obj.cells #[Value.int IntKind.i64 v, Value.slice b xs.length c2] 49)).heap[w.heap.size]? = some (.cells #[Value.int IntKind.i64 v, Value.slice a xs.length c1] 49 (0, 0))) := heap_alloc2_old _ _ _
  have Q0 : Hid (((w.alloc (Obj.cells #[Value.int IntKind.i64 v, Value.slice a xs.length c1] 49)).alloc (Obj.cells #[Value.int IntKind.i64 v, Value.slice b xs.length c2] 49)).heap[w.heap.size + 1]? = some (.cells #[Value.int IntKind.i64 v, Value.slice b xs.length c2] 49 (0, 0))) := heap_alloc2_new _ _ _
  have HA : Hid (IntsAt w a xs) := hA
  have HB : Hid (IntsAt w b xs) := hB
  clear hA hB
  have hve : (v == v) = true := by simp
  have SAM : Hid (∀ W, IntsAt W a xs → IntsAt W b xs → Calls Tryd.prog 24 #[.slice a xs.length c1, .slice b xs.length c2] W fun e w' => e = .returned (.bool true) ∧ Below W.heap.size W w') := fun W h1 h2 => by
    have := sameInts_any a b c1 c2 xs xs W h1 h2 (by omega)
    rw [show decide (xs = xs) = true by simp] at this
    exact this
  go_enter Tryd.func25, Tryd.ntmps25
  obtain ⟨p0, p1⟩ := cells2 P0.out
  obtain ⟨q0, q1⟩ := cells2 Q0.out
  obtain ⟨m, HM⟩ : ∃ m, Hid (xs.length = m) := ⟨_, rfl⟩
  rw [HM.out] at B0 p0 p1 q0 q1 SAM ⊢
  go_wp2_with fail
  generalize (w.alloc (Obj.cells #[Value.int IntKind.i64 v, Value.slice a m c1] 49)).alloc (Obj.cells #[Value.int IntKind.i64 v, Value.slice b m c2] 49) = W0 at *
  first
    | (refine (SAM.out _ (HA.out.below B0.out) (HB.out.below B0.out)).mono ?_
       rintro e w1 ⟨rfl, hb⟩
       have B1 : Hid (Below w.heap.size w w1) := B0.out.trans (hb.mono B0.out.size)
       clear hb
       go_wp2
       go_ret
       exact ⟨by first | rfl | simp, B1.out⟩)
    | (have e0 := fun s : Kin W0 => s.cell p0
       have e1 := fun s : Kin W0 => s.cell p1
       have e2 := fun s : Kin W0 => s.cell q0
       have e3 := fun s : Kin W0 => s.cell q1
       have hkin := Kin.there W0
       refine wp_region_kin (by kernel_rfl) (by kernel_rfl) ?_
       repeat (go_big_quiet_step ((go_at_call 24; with_reducible exact Kin.call (SAM.out _ ((HA.out.below B0.out).below (Kin.below _)) ((HB.out.below B0.out).below (Kin.below _))))))
       refine wpQuiet_nil ?_
       rintro _ ⟨s, rfl⟩
       go_wp2
       go_ret
       exact ⟨by first | rfl | simp, B0.out.trans (s.below.mono B0.out.size)⟩)

end Go.Proofs.YtidhnmmhniiolaaDoor
