import Derived.Test.YtpahhhocgpohbaaPack0
import Derived.Test.YtpahhhocgpohbaaRows
import Derived.WalkKit
import Derived.WalkSpells
import Derived.WalkLawsBesides
import Derived.Deep.QuietTactic
import Derived.BigQuiet
import Derived.Deep.RegionWith
import Derived.Deep.RegionHeld3
import Derived.Deep.WholeRow
namespace Go.Proofs.Ytpahhhocgpohbaa
end Go.Proofs.Ytpahhhocgpohbaa

namespace Go.Proofs.Ytpahhhocgpohbaa
open Go.RowKit

theorem cells2 {w : World} {k : Nat} {c0 c1 : Value} {T : TypeId} (r : w.heap[k]? = some (.cells #[c0, c1] T (0, 0))) :
    w.cell? ⟨k, 0, none⟩ = some c0 ∧ w.cell? ⟨k, 1, none⟩ = some c1 := by
  refine ⟨?_, ?_⟩
  · rw [cell_of_row _ _ 0 _ _ _ r]; simp
  · rw [cell_of_row _ _ 1 _ _ _ r]; simp

end Go.Proofs.Ytpahhhocgpohbaa

namespace Go.Proofs.Ytpahhhocgpohbaa
open Go.RowKit

theorem grown_set (W : World) (g i : Nat) (v : Value) : W.grownBy (W.setCell ⟨g, i, none⟩ v) (some g) :=
  ⟨rfl, rfl, rfl, by simp [World.setCell], fun b _ hne => heap_setCell_other W ⟨g, i, none⟩ b v (fun e => hne (by rw [e]))⟩
theorem grown_trans {w w1 w2 : World} {g : Nat} (h1 : w.grownBy w1 (some g)) (h2 : w1.grownBy w2 (some g)) : w.grownBy w2 (some g) :=
  ⟨h2.os.trans h1.os, h2.tape.trans h1.tape, h2.output.trans h1.output, Nat.le_trans h1.size h2.size, fun b hb hne => (h2.block b (Nat.lt_of_lt_of_le hb h1.size) hne).trans (h1.block b hb hne)⟩
theorem grown_refl (w : World) (g : Nat) : w.grownBy w (some g) := ⟨rfl, rfl, rfl, Nat.le_refl _, fun _ _ _ => rfl⟩

end Go.Proofs.Ytpahhhocgpohbaa

namespace Go.Proofs.Ytpahhhocgpohbaa
open Go.RowKit

/-- The slice at 'a' holds the bytes bs, none of them in block q. -/
def BytesAt (w : World) (q : Nat) (a : Option Addr) (bs : List Int) : Prop :=
  ∀ j, j < bs.length → ∃ b off, a = some ⟨b, off, none⟩ ∧ b ≠ q ∧ w.cell? ⟨b, off + j, none⟩ = some (.int .u8 (bs.getD j 0)) ∧ 0 ≤ bs.getD j 0 ∧ bs.getD j 0 < 256
/-- A reader of drawn bytes in block q: its bytes, and how many it has read. -/
def RD (w : World) (q : Nat) (a : Option Addr) (bs : List Int) (c p : Nat) : Prop :=
  w.heap[q]? = some (.cells #[.slice a bs.length c, .int .i64 p] 65 (0, 0)) ∧ p ≤ bs.length ∧ BytesAt w q a bs ∧ bs.length ≤ 1048576
theorem BytesAt.grown {w w' : World} {q : Nat} {a : Option Addr} {bs : List Int} (h : BytesAt w q a bs) (hg : w.grownBy w' (some q)) : BytesAt w' q a bs := by
  intro j hj
  obtain ⟨b, off, e, hne, hc, hv⟩ := h j hj
  refine ⟨b, off, e, hne, ?_, hv⟩
  have hlt := block_lt_of_cell hc
  rw [World.cell?_of_block (hg.block b hlt (fun e => hne (by simpa using e)))]
  exact hc
theorem RD.below {w w' : World} {q : Nat} {a : Option Addr} {bs : List Int} {c p : Nat} (h : RD w q a bs c p) (hb : Below w.heap.size w w') : RD w' q a bs c p := by
  refine ⟨below_row hb (row_lt h.1) h.1, h.2.1, fun j hj => ?_, h.2.2.2⟩
  obtain ⟨b, off, e, hne, hc, hv⟩ := h.2.2.1 j hj
  exact ⟨b, off, e, hne, (hb.cell (p := ⟨b, off + j, none⟩) (block_lt_of_cell hc)).trans hc, hv⟩
theorem RD.put {w : World} {q : Nat} {a : Option Addr} {bs : List Int} {c p p' : Nat} (h : RD w q a bs c p) (hp : p' ≤ bs.length) : RD (w.setCell ⟨q, 1, none⟩ (.int .i64 p')) q a bs c p' := by
  refine ⟨?_, hp, h.2.2.1.grown (grown_set w q 1 _), h.2.2.2⟩
  have := heap_setCell_same w q 1 _ _ (Value.int .i64 p') h.1
  simpa using this
/-- What a draw answers: a number that is at least lo and below hi; the reader alone has changed. -/
def DrawOk (w : World) (q : Nat) (a : Option Addr) (bs : List Int) (c : Nat) (lo hi : Int) (e : Ending) (w' : World) : Prop :=
  ∃ (v : Int) (p' : Nat), e = .returned (.int .i64 v) ∧ lo ≤ v ∧ v < hi ∧ RD w' q a bs c p' ∧ w.grownBy w' (some q)
theorem grown_drew {w w' : World} {q : Nat} (h : w.grownBy w' (some q)) : w.grownBy w'.drew (some q) := ⟨h.os, h.tape, h.output, h.size, h.block⟩

set_option maxHeartbeats 1000000 in
theorem next_any (q p c : Nat) (a : Option Addr) (bs : List Int) (w : World) (h : RD w q a bs c p) :
    Calls Try.prog 57 #[.pointer (some ⟨q, 0, none⟩)] w (DrawOk w q a bs c 0 256) := by
  have H : Hid (RD w q a bs c p) := h
  obtain ⟨c0, c1⟩ := cells2 h.1
  have hp := h.2.1
  have hbl := h.2.2.2
  clear h
  by_cases hlt : p < bs.length
  · obtain ⟨b, off, rfl, hne, hc, h1, h2⟩ := H.out.2.2.1 p hlt
    obtain ⟨v, HV⟩ : ∃ t, Hid (bs.getD p 0 = t) := ⟨_, rfl⟩
    rw [HV.out] at hc h1 h2
    have hnge : ¬ ((bs.length : Int) ≤ (p : Int)) := by omega
    have hwp : IntKind.i64.wrap ((p : Int) + 1) = ((p + 1 : Nat) : Int) := by rw [IntWalk.i64_in _ (by omega)]; omega
    have cf := fun i => frozen_of_row _ _ i _ _ H.out.1
    go_enter Try.func57, Try.ntmps57
    go_wp2_with fail
    go_region
    all_goals
      have hnl : ¬ bs.length ≤ p := by omega
      go_wp2_with fail
      have r1 := (H.out.put (p' := p + 1) (by omega)).below (Below.refl _ _).drew
      have g1 := grown_drew (grown_set w q 1 (Value.int .i64 ((p + 1 : Nat) : Int)))
      rw [show ((p + 1 : Nat) : Int) = (p : Int) + 1 by omega] at r1 g1
      generalize (w.setCell ⟨q, 1, none⟩ (.int .i64 ((p : Int) + 1))).drew = W1 at *
      have R1 : Hid (RD W1 q (some ⟨b, off, none⟩) bs c (p + 1)) := r1
      have G1 : Hid (w.grownBy W1 (some q)) := g1
      clear c0 c1 hc cf r1 g1
      obtain ⟨c0, c1⟩ := cells2 R1.out.1
      obtain ⟨b2, off2, e2, _, hc, _⟩ := R1.out.2.2.1 p hlt
      simp at e2
      obtain ⟨rfl, rfl⟩ := e2
      rw [HV.out] at hc
      rw [show ((p + 1 : Nat) : Int) = (p : Int) + 1 by omega] at c1
      have hw2 : IntKind.i64.wrap ((p : Int) + 1 - 1) = (p : Int) := by rw [IntWalk.i64_in _ (by omega)]; omega
      have hp0 : (0 : Int) ≤ (p : Int) := by omega
      have hw3 : IntKind.i64.wrap v = v := IntWalk.i64_in _ (by omega)
      go_region
      all_goals
        go_wp2
        go_ret
        exact ⟨v, p + 1, rfl, h1, h2, R1.out.below (Below.refl _ _).drew, grown_drew G1.out⟩
  · have hge : (bs.length : Int) ≤ (p : Int) := by omega
    have hnl : bs.length ≤ p := by omega
    go_enter Try.func57, Try.ntmps57
    go_wp2_with fail
    go_region
    all_goals
      go_wp2
      go_ret
      exact ⟨0, p, rfl, by omega, by omega, H.out.below (Below.refl _ _).drew, grown_drew (grown_refl w q)⟩

theorem DrawOk.mono {w : World} {q c : Nat} {a : Option Addr} {bs : List Int} {lo hi hi' : Int} {e : Ending} {w' : World} (h : DrawOk w q a bs c lo hi e w') (hh : hi ≤ hi') : DrawOk w q a bs c lo hi' e w' := by
  obtain ⟨v, p, h1, h2, h3, h4⟩ := h
  exact ⟨v, p, h1, h2, by omega, h4⟩

set_option maxHeartbeats 1000000 in
theorem below_any (q p c : Nat) (n : Int) (a : Option Addr) (bs : List Int) (w : World) (h : RD w q a bs c p) (hn : n ≤ 65536) :
    Calls Try.prog 32 #[.pointer (some ⟨q, 0, none⟩), .int .i64 n] w (DrawOk w q a bs c 0 (max n 1)) := by
  have H : Hid (RD w q a bs c p) := h
  clear h
  by_cases h1 : n ≤ 1
  · go_enter Try.func32, Try.ntmps32
    go_wp2
    go_ret
    exact ⟨0, p, rfl, by omega, by omega, H.out, grown_refl w q⟩
  · by_cases h2 : n ≤ 256
    · have hn0 : ¬ n = 0 := by omega
      go_enter Try.func32, Try.ntmps32
      go_wp2_with fail
      refine (next_any q p c a bs w H.out).mono ?_
      rintro e w1 ⟨v, p1, rfl, hv0, hv1, hr, hg⟩
      have R1 : Hid (RD w1 q a bs c p1) := hr
      have G1 : Hid (w.grownBy w1 (some q)) := hg
      clear hr hg
      go_wp2
      go_ret
      exact ⟨v % n, p1, rfl, Int.emod_nonneg _ (by omega), by have := Int.emod_lt_of_pos v (show 0 < n by omega); omega, R1.out, G1.out⟩
    · have hn0 : ¬ n = 0 := by omega
      go_enter Try.func32, Try.ntmps32
      go_wp2_with fail
      refine (next_any q p c a bs w H.out).mono ?_
      rintro e w1 ⟨v, p1, rfl, hv0, hv1, hr, hg⟩
      have R1 : Hid (RD w1 q a bs c p1) := hr
      have G1 : Hid (w.grownBy w1 (some q)) := hg
      clear hr hg
      obtain ⟨x, hx⟩ : ∃ x, v * 256 = x := ⟨_, rfl⟩
      have hwx : IntKind.i64.wrap (v * 256) = x := by rw [IntWalk.i64_in _ (by omega)]; exact hx
      have hx0 : 0 ≤ x ∧ x ≤ 65280 := by omega
      go_wp2_with fail
      refine (next_any q p1 c a bs w1 R1.out).mono ?_
      rintro e w2 ⟨u, p2, rfl, hu0, hu1, hr, hg⟩
      have R2 : Hid (RD w2 q a bs c p2) := hr
      have G2 : Hid (w1.grownBy w2 (some q)) := hg
      clear hr hg
      obtain ⟨y, hy⟩ : ∃ y, x + u = y := ⟨_, rfl⟩
      have hwy : IntKind.i64.wrap (x + u) = y := by rw [IntWalk.i64_in _ (by omega)]; exact hy
      have hy0 : 0 ≤ y ∧ y ≤ 65535 := by omega
      clear hwx hv0 hv1 hu0 hu1
      go_wp2
      go_ret
      exact ⟨y % n, p2, by first | rfl | (subst hy; subst hx; rfl), Int.emod_nonneg _ (by omega), by have := Int.emod_lt_of_pos y (show 0 < n by omega); omega, R2.out, grown_trans G1.out G2.out⟩

end Go.Proofs.Ytpahhhocgpohbaa

namespace Go.Proofs.Ytpahhhocgpohbaa
open Go.RowKit

/-- The slice at 'a' holds the bytes bs. -/
def CodeAt (w : World) (a : Option Addr) (bs : List Int) : Prop :=
  ∀ j, j < bs.length → ∃ b off, a = some ⟨b, off, none⟩ ∧ w.cell? ⟨b, off + j, none⟩ = some (.int .u8 (bs.getD j 0)) ∧ 0 ≤ bs.getD j 0 ∧ bs.getD j 0 < 256

set_option maxHeartbeats 400000 in
theorem l1Open_any (a : Option Addr) (c : Nat) (bs : List Int) (w : World) (h : CodeAt w a bs) (hl : bs.length ≤ 1048576) :
    Calls Try.prog 20 #[.slice a bs.length c] w fun e w' => e = .returned (.pointer (some ⟨w.heap.size, 0, none⟩)) ∧ Below w.heap.size w w' ∧ RD w' w.heap.size a bs c 0 := by
  have H : Hid (CodeAt w a bs) := h
  clear h
  go_enter Try.func20, Try.ntmps20
  go_wp2
  go_ret
  refine ⟨rfl, (Below.refl _ _).alloc (Nat.le_refl _) _, heap_alloc_new _ _, Nat.zero_le _, fun j hj => ?_, hl⟩
  obtain ⟨b, off, e, hc, hv⟩ := H.out j hj
  have hlt := block_lt_of_cell hc
  simp at hlt
  exact ⟨b, off, e, by omega, (((Below.refl w.heap.size w).alloc (Nat.le_refl _) _).cell (p := ⟨b, off + j, none⟩) hlt).trans hc, hv⟩

/-- Where the reader was made by the call itself, what was there is as it was. -/
theorem grown_below {w w1 w2 : World} {q : Nat} (hb : Below w.heap.size w w1) (hq : w.heap.size ≤ q) (hg : w1.grownBy w2 (some q)) : Below w.heap.size w w2 := hb.grown hg hb.size (fun k e => by injection e with e; omega)

end Go.Proofs.Ytpahhhocgpohbaa

namespace Go.Proofs.Ytpahhhocgpohbaa
open Go.RowKit

set_option maxHeartbeats 1000000 in
theorem below_big (q p c : Nat) (n : Int) (a : Option Addr) (bs : List Int) (w : World) (h : RD w q a bs c p) (hn : n ≤ 9223372036854775807) :
    Calls Try.prog 32 #[.pointer (some ⟨q, 0, none⟩), .int .i64 n] w (DrawOk w q a bs c 0 (max n 1)) := by
  have H : Hid (RD w q a bs c p) := h
  clear h
  by_cases h1 : n ≤ 1
  · go_enter Try.func32, Try.ntmps32
    go_wp2
    go_ret
    exact ⟨0, p, rfl, by omega, by omega, H.out, grown_refl w q⟩
  · by_cases h2 : n ≤ 256
    · have hn0 : ¬ n = 0 := by omega
      go_enter Try.func32, Try.ntmps32
      go_wp2_with fail
      refine (next_any q p c a bs w H.out).mono ?_
      rintro e w1 ⟨v, p1, rfl, hv0, hv1, hr, hg⟩
      have R1 : Hid (RD w1 q a bs c p1) := hr
      have G1 : Hid (w.grownBy w1 (some q)) := hg
      clear hr hg
      go_wp2
      go_ret
      exact ⟨v % n, p1, rfl, Int.emod_nonneg _ (by omega), by have := Int.emod_lt_of_pos v (show 0 < n by omega); omega, R1.out, G1.out⟩
    · have hn0 : ¬ n = 0 := by omega
      go_enter Try.func32, Try.ntmps32
      go_wp2_with fail
      refine (next_any q p c a bs w H.out).mono ?_
      rintro e w1 ⟨v, p1, rfl, hv0, hv1, hr, hg⟩
      have R1 : Hid (RD w1 q a bs c p1) := hr
      have G1 : Hid (w.grownBy w1 (some q)) := hg
      clear hr hg
      obtain ⟨x, hx⟩ : ∃ x, v * 256 = x := ⟨_, rfl⟩
      have hwx : IntKind.i64.wrap (v * 256) = x := by rw [IntWalk.i64_in _ (by omega)]; exact hx
      have hx0 : 0 ≤ x ∧ x ≤ 65280 := by omega
      go_wp2_with fail
      refine (next_any q p1 c a bs w1 R1.out).mono ?_
      rintro e w2 ⟨u, p2, rfl, hu0, hu1, hr, hg⟩
      have R2 : Hid (RD w2 q a bs c p2) := hr
      have G2 : Hid (w1.grownBy w2 (some q)) := hg
      clear hr hg
      obtain ⟨y, hy⟩ : ∃ y, x + u = y := ⟨_, rfl⟩
      have hwy : IntKind.i64.wrap (x + u) = y := by rw [IntWalk.i64_in _ (by omega)]; exact hy
      have hy0 : 0 ≤ y ∧ y ≤ 65535 := by omega
      clear hwx hv0 hv1 hu0 hu1
      go_wp2
      go_ret
      exact ⟨y % n, p2, by first | rfl | (subst hy; subst hx; rfl), Int.emod_nonneg _ (by omega), by have := Int.emod_lt_of_pos y (show 0 < n by omega); omega, R2.out, grown_trans G1.out G2.out⟩


end Go.Proofs.Ytpahhhocgpohbaa

namespace Go.Proofs.Ytpahhhocgpohbaa
open Go.RowKit

theorem own_shp {w : World} {base k : Nat} {v : Value} {e : TypeId} {size : Nat} {xs : List Value} (h : w.ownsRow base e size v k xs) : v = .slice none 0 0 ∨ ∃ g c, v = .slice (some ⟨g, 0, none⟩) k c := by
  obtain ⟨_, ⟨h1, _⟩ | ⟨g, cap, cur, h2, _⟩⟩ := h
  · exact .inl h1
  · exact .inr ⟨g, cap, h2⟩
theorem own_blw {w w' : World} {base size n : Nat} {e : TypeId} {v : Value} {xs : List Value} (h : w.ownsRow base e size v n xs) (hb : Below w.heap.size w w') : w'.ownsRow base e size v n xs := by
  obtain ⟨h1, h2 | ⟨g, cap, cur, h2, h3, h4, h5⟩⟩ := h
  · exact ⟨h1, .inl h2⟩
  · exact ⟨h1, .inr ⟨g, cap, cur, h2, h3, below_row hb (row_lt h4) h4, h5⟩⟩

theorem own_bse {w : World} {base b0 k : Nat} {v : Value} {e : TypeId} {size : Nat} {xs : List Value} (h : w.ownsRow base e size v k xs) (hb : b0 ≤ base) : w.ownsRow b0 e size v k xs := by
  obtain ⟨h0, h1 | ⟨g, cap, cur, h2, h3, h4⟩⟩ := h
  · exact ⟨h0, .inl h1⟩
  · exact ⟨h0, .inr ⟨g, cap, cur, h2, Nat.le_trans hb h3, h4⟩⟩
theorem own_smg {w : World} {base k : Nat} {v : Value} {e : TypeId} {size : Nat} {xs : List Value} (h : w.ownsRow base e size v k xs) (hne : v ≠ .slice none 0 0) : ∃ g c, v = .slice (some ⟨g, 0, none⟩) k c := by
  rcases own_shp h with e | e
  · exact absurd e hne
  · exact e
theorem not_nilg {v v' : Value} {m : Nat} (h : v' = .slice none 0 0 ↔ v = .slice none 0 0 ∧ m = 0) (hv : ∃ g n c, v = .slice (some ⟨g, 0, none⟩) n c) : v' ≠ .slice none 0 0 := by
  intro e
  obtain ⟨g, n, c, rfl⟩ := hv
  have := (h.1 e).1
  simp at this
theorem own_capg {w : World} {base k g c : Nat} {e : TypeId} {size : Nat} {xs : List Value} (h : w.ownsRow base e size (.slice (some ⟨g, 0, none⟩) k c) k xs) : k ≤ c := by
  obtain ⟨_, ⟨h1, _⟩ | ⟨g', cap, cur, h2, _, _, h3, _⟩⟩ := h
  · cases h1
  · injection h2 with e1 e2 e3
    omega
/-- Where an append to a slice of the call's own ends: in the row that was, or in a new block. -/
theorem append_blk {P : Program} (w : World) (base : Nat) (t ty e : TypeId) (i : TypeInfo) (z : Value) (size bytes : Nat) (ht : P.underlying t = some (.slice e)) (hi : P.info? e = some i) (hz : i.zero = some z)
    (hsize : i.size = size) (hby : i.bytes = bytes) (v : Value) (n : Nat) (xs : List Value) (hown : w.ownsRow base e size v n xs)
    (a : Addr) (m c : Nat) (news : List Value) (hl : news.length = m * size) (hnews : ∀ j u, news[j]? = some u → w.cell? (a.add j) = some u) (h1 : ∀ u ∈ news, u.oneCell' = true)
    (h63 : n + m ≤ maxLen) (hbytes : (n + m) * bytes ≤ 140737488355328) {v' : Value} {w' : World} (hrun : (Builtin.append_ #[t, t] ty #[v, .slice (some a) m c]).run P w = .ok v' w') : v'.ownBlock = v.ownBlock ∨ v'.ownBlock = some w.heap.size := by
  subst hsize
  subst hby
  have hsmall : n + m ≤ 9223372036854775807 := by simp only [maxLen] at h63; omega
  rcases hown.2 with ⟨rfl, rfl⟩ | ⟨g, cap, cur, rfl, hbg, hg, hnc, hcm, hcs, htake⟩
  · by_cases hm : m = 0
    · subst hm
      have hn : news = [] := List.eq_nil_of_length_eq_zero (by simpa using hl)
      subst hn
      simp [Builtin.append_, run_underlying ht, sizeOf, typeInfo, hi, Builtin.lenOf, Builtin.firstCells, loadCells, loadCellsFrom] at hrun
      rw [← hrun.1]
      exact .inl rfl
    · have hr := run_append_nil (P := P) w t ty e i z ht hi hz a m c news hl hnews (by omega) (by omega) (by have hb := hbytes; simp only [Nat.zero_add] at hb; omega)
      rw [hr] at hrun
      injection hrun with e1 e2
      rw [← e1]
      exact .inr rfl
  · by_cases hroom : n + m ≤ cap
    · have hfit : n * i.size + news.length ≤ cur.size := by rw [hl, hcs, ← Nat.add_mul]; exact Nat.mul_le_mul_right _ hroom
      have hr := run_append_room (P := P) w t ty e i ht hi g n cap cur hg a m c news hl hnews h1 hroom hfit
      rw [hr] at hrun
      injection hrun with e1 e2
      rw [← e1]
      exact .inl rfl
    · have holds : ∀ j u, xs[j]? = some u → w.cell? ((⟨g, 0, none⟩ : Addr).add j) = some u := hown.cells (g := g) rfl
      have hr := run_append_grow (P := P) w t ty e i z ht hi hz ⟨g, 0, none⟩ n cap xs hown.1 holds a m c news hl hnews (by omega) (by omega) (growslice_fits (by omega) hbytes)
      rw [hr] at hrun
      injection hrun with e1 e2
      rw [← e1]
      exact .inr rfl

theorem exec_app {P : Program} {o : Oper} {a : Act} {w w' : World} {v : Value} (s x : Operand) (t : TypeId) (vs vx : Value) (ho : o.op = .call { callee := .builtin .append, args := #[s, x], argTypes := #[t, t] })
    (hs : a.eval s = vs) (hx : a.eval x = vx) (hr : (Builtin.append_ #[t, t] o.type #[vs, vx]).run P w = .ok v w') : (execOp a.eval o).run P w = .ok (.value v) w' := by
  unfold execOp
  simp only [ho, resolve, invoke, builtin, Sem.run_bind, Sem.run_pure, Result.andThen_ok, List.map_toArray, List.map_cons, List.map_nil, hs, hx, hr]

end Go.Proofs.Ytpahhhocgpohbaa

namespace Go.Proofs.Ytpahhhocgpohbaa
open Go.RowKit

theorem own_putV {w : World} {base n g c k size m : Nat} {e : TypeId} {xs : List Value} (v : Value) (h : w.ownsRow base e size (.slice (some ⟨g, 0, none⟩) m c) n xs) : (w.setCell ⟨g, k, none⟩ v).ownsRow base e size (.slice (some ⟨g, 0, none⟩) m c) n (xs.set k v) := by
  obtain ⟨h0, ⟨h1, _⟩ | ⟨g', cap, cur, h2, h3, h4, h5, h6, h7, h8⟩⟩ := h
  · cases h1
  · simp at h2
    obtain ⟨rfl, rfl, rfl⟩ := h2
    refine ⟨by simpa using h0, .inr ⟨g, c, cur.setIfInBounds k v, rfl, h3, heap_setCell_same w g k cur e _ h4, h5, h6, by simpa using h7, ?_⟩⟩
    rw [Array.toList_setIfInBounds, List.take_set, h8]
theorem own_cellV {w : World} {base n g c k size m : Nat} {e : TypeId} {xs : List Value} {x : Value} (h : w.ownsRow base e size (.slice (some ⟨g, 0, none⟩) m c) n xs) (hk : xs[k]? = some x) : w.cell? ⟨g, k, none⟩ = some x ∧ w.frozen? ⟨g, k, none⟩ = false := by
  refine ⟨?_, ?_⟩
  · have := h.cells (g := g) rfl k x hk
    have hadd : (⟨g, 0, none⟩ : Addr).add k = ⟨g, k, none⟩ := by unfold Addr.add; split <;> simp_all
    rw [hadd] at this
    exact this
  · obtain ⟨h0, ⟨h1, _⟩ | ⟨g', cap, cur, h2, h3, h4, h5⟩⟩ := h
    · cases h1
    · simp at h2
      obtain ⟨rfl, rfl, rfl⟩ := h2
      exact frozen_of_row _ _ k _ _ h4
/-- What a slice of the call's own is: nil, or a row of its own. -/
theorem own_kinds {w : World} {base n size : Nat} {e : TypeId} {v : Value} {xs : List Value} (h : w.ownsRow base e size v n xs) : (v = .slice none 0 0 ∧ n = 0) ∨ ∃ g c, v = .slice (some ⟨g, 0, none⟩) n c ∧ base ≤ g ∧ g < w.heap.size := by
  obtain ⟨_, ⟨h1, h2⟩ | ⟨g, cap, cur, h2, h3, h4, _⟩⟩ := h
  · exact .inl ⟨h1, h2⟩
  · exact .inr ⟨g, cap, h2, h3, row_lt h4⟩

end Go.Proofs.Ytpahhhocgpohbaa

namespace Go.Proofs.Ytpahhhocgpohbaa
open Go.RowKit

set_option maxHeartbeats 1000000 in
theorem once_any (q p c : Nat) (n : Int) (a : Option Addr) (bs : List Int) (w : World) (h : RD w q a bs c p) (h1 : 0 ≤ n) (hn : n ≤ 65536) :
    Calls Try.prog 37 #[.pointer (some ⟨q, 0, none⟩), .int .i64 n] w fun e w' => ∃ (v : Bool) (p' : Nat), e = .returned (.bool v) ∧ RD w' q a bs c p' ∧ w.grownBy w' (some q) := by
  have H : Hid (RD w q a bs c p) := h
  clear h
  have hw1 : IntKind.i64.wrap (n - 1) = n - 1 := IntWalk.i64_in _ (by omega)
  go_enter Try.func37, Try.ntmps37
  go_wp2_with fail
  refine (below_any q p c n a bs w H.out hn).mono ?_
  rintro e w1 ⟨v, p1, rfl, hv0, hv1, hr, hg⟩
  have R1 : Hid (RD w1 q a bs c p1) := hr
  have G1 : Hid (w.grownBy w1 (some q)) := hg
  clear hr hg hv0 hv1
  go_wp2
  go_ret
  exact ⟨_, p1, rfl, R1.out, G1.out⟩

end Go.Proofs.Ytpahhhocgpohbaa

namespace Go.Proofs.Ytpahhhocgpohbaa
open Go.RowKit

theorem or_u64 (x y : Int) : 0 ≤ bits BinOp.or IntKind.u64 x y ∧ bits BinOp.or IntKind.u64 x y < 18446744073709551616 := by
  unfold bits
  rw [IntKind.wrap_u64]
  omega
/-- What 'word' answers: some number of 64 bits; the reader alone has changed. -/
def WordOk (w : World) (q : Nat) (a : Option Addr) (bs : List Int) (c : Nat) (e : Ending) (w' : World) : Prop :=
  ∃ (v : Int) (p' : Nat), e = .returned (.int .u64 v) ∧ 0 ≤ v ∧ v < 18446744073709551616 ∧ RD w' q a bs c p' ∧ w.grownBy w' (some q)

set_option maxHeartbeats 2000000 in
theorem word_any (q p c : Nat) (a : Option Addr) (bs : List Int) (w : World) (h : RD w q a bs c p) :
    Calls Try.prog 63 #[.pointer (some ⟨q, 0, none⟩)] w (WordOk w q a bs c) := by
  have H : Hid (RD w q a bs c p) := h
  clear h
  go_enter Try.func63, Try.ntmps63
  go_wp2_with fail
  go_loopw [3, 4] (fun tx t wr => ∃ (k p' : Nat) (x : Int), k ≤ 8 ∧ t = .int .i64 k ∧ tx = .int .u64 x ∧ 0 ≤ x ∧ x < 18446744073709551616 ∧ RD wr q a bs c p' ∧ w.grownBy wr (some q)) (fun _ t _ => 8 - (intOf t).toNat)
  case atStart => exact ⟨0, p, 0, by omega, rfl, rfl, by omega, by omega, H.out, grown_refl w q⟩
  case round =>
    obtain ⟨k, p1, x, hk, rfl, rfl, hx0, hx1, hr, hg⟩ := hrel
    have R1 : Hid (RD wr q a bs c p1) := hr
    have G1 : Hid (w.grownBy wr (some q)) := hg
    clear hr hg
    by_cases hlt : k < 8
    · have hlt' : (k : Int) < 8 := by omega
      have hwk : IntKind.i64.wrap ((k : Int) + 1) = ((k + 1 : Nat) : Int) := by rw [IntWalk.i64_in _ (by omega)]; omega
      go_wp2_with fail
      refine (next_any q p1 c a bs wr R1.out).mono ?_
      rintro e w2 ⟨v, p2, rfl, hv0, hv1, hr, hg⟩
      have R2 : Hid (RD w2 q a bs c p2) := hr
      have G2 : Hid (w.grownBy w2 (some q)) := grown_trans G1.out hg
      clear hr hg
      go_wp2
      go_roundw
      case rel =>
        obtain ⟨b1, b2⟩ := or_u64 (IntKind.u64.wrap (x * 256)) v
        exact ⟨k + 1, p2, _, by omega, by first | rfl | go_num, rfl, b1, b2, R2.out, G2.out⟩
      case measure => simp [intOf]; omega
    · have hke : k = 8 := by omega
      subst hke
      go_wp2
      go_ret
      exact ⟨x, p1, rfl, hx0, hx1, R1.out, G1.out⟩

end Go.Proofs.Ytpahhhocgpohbaa

namespace Go.Proofs.Ytpahhhocgpohbaa
open Go.RowKit

theorem grown_alloc (w : World) (o : Obj) (q : Nat) : w.grownBy (w.alloc o) (some q) := ⟨rfl, rfl, rfl, by simp, fun k hk _ => heap_alloc_old _ _ hk⟩
theorem wrap64_bd (n : Int) : -9223372036854775808 ≤ wrap64 n ∧ wrap64 n < 9223372036854775808 := by
  unfold wrap64
  omega
/-- What 'near' and 'off' answer: some number; of what was there the reader alone has changed. -/
def NumOk (w : World) (q : Nat) (a : Option Addr) (bs : List Int) (c : Nat) (e : Ending) (w' : World) : Prop :=
  ∃ (v : Int) (p' : Nat), e = .returned (.int .i64 v) ∧ -9223372036854775808 ≤ v ∧ v < 9223372036854775808 ∧ RD w' q a bs c p' ∧ w.grownBy w' (some q)

def OffOk (w : World) (q : Nat) (a : Option Addr) (bs : List Int) (c : Nat) (e : Ending) (w' : World) : Prop := NumOk w q a bs c e w'

/-- How many numbers lie between, as 64 bits without a sign. -/
theorem near_d {lo hi : Int} (hl0 : -3000000000 ≤ lo) (hl1 : lo ≤ 3000000000) (hh0 : -9223372036854775808 ≤ hi) (hh1 : hi < 9223372036854775808) (h : lo ≤ hi) : ¬ IntKind.u64.wrap (IntKind.i64.wrap (IntKind.i64.wrap (hi - lo) + 1)) = 0 ∧ 0 < IntKind.u64.wrap (IntKind.i64.wrap (IntKind.i64.wrap (hi - lo) + 1)) ∧ IntKind.u64.wrap (IntKind.i64.wrap (IntKind.i64.wrap (hi - lo) + 1)) < 18446744073709551616 := by
  rw [IntKind.wrap_u64, IntKind.wrap_i64, IntKind.wrap_i64]
  omega

set_option maxHeartbeats 2000000 in
theorem near_any (q p c : Nat) (lo hi : Int) (a : Option Addr) (bs : List Int) (w : World) (h : RD w q a bs c p) (hl0 : -3000000000 ≤ lo) (hl1 : lo ≤ 3000000000) (hh0 : -9223372036854775808 ≤ hi) (hh1 : hi < 9223372036854775808) :
    Calls Try.prog 58 #[.pointer (some ⟨q, 0, none⟩), .int .i64 lo, .int .i64 hi] w (NumOk w q a bs c) := by
  have H : Hid (RD w q a bs c p) := h
  clear h
  go_enter Try.func58, Try.ntmps58
  go_wp2_with fail
  refine (below_any q p c 8 a bs w H.out (by omega)).mono ?_
  rintro e w1 ⟨v, p1, rfl, hv0, hv1, hr, hg⟩
  have R1 : Hid (RD w1 q a bs c p1) := hr
  have G1 : Hid (w.grownBy w1 (some q)) := hg
  clear hr hg
  rcases (show v = 0 ∨ v = 1 ∨ (¬ v = 0 ∧ ¬ v = 1) from by omega) with rfl | rfl | ⟨h0, h1⟩
  · go_wp2
    go_ret
    exact ⟨lo, p1, rfl, by omega, by omega, R1.out, G1.out⟩
  · go_wp2
    go_ret
    exact ⟨hi, p1, rfl, by omega, by omega, R1.out, G1.out⟩
  · have e0 : (v == 0) = false := by simpa using h0
    have e1 : (v == 1) = false := by simpa using h1
    by_cases hlt : hi < lo
    · go_wp2
      go_ret
      exact ⟨lo, p1, rfl, by omega, by omega, R1.out, G1.out⟩
    · obtain ⟨hdn0, hd1, hd2⟩ := near_d hl0 hl1 hh0 hh1 (by omega)
      obtain ⟨x1, HX1⟩ : ∃ x, IntKind.i64.wrap (hi - lo) = x := ⟨_, rfl⟩
      rw [HX1] at hdn0 hd1 hd2
      obtain ⟨x2, HX2⟩ : ∃ x, IntKind.i64.wrap (x1 + 1) = x := ⟨_, rfl⟩
      rw [HX2] at hdn0 hd1 hd2
      obtain ⟨d, HD⟩ : ∃ x, IntKind.u64.wrap x2 = x := ⟨_, rfl⟩
      rw [HD] at hdn0 hd1 hd2
      have HX1' : wrap64 (hi - lo) = x1 := by rw [← HX1, IntKind.wrap_i64]; unfold wrap64; rfl
      have HX2' : wrap64 (x1 + 1) = x2 := by rw [← HX2, IntKind.wrap_i64]; unfold wrap64; rfl
      clear hv0 hv1
      go_wp2_with fail
      refine (word_any q p1 c a bs w1 R1.out).mono ?_
      rintro e w2 ⟨x, p2, rfl, hx0, hx1, hr, hg⟩
      have R2 : Hid (RD w2 q a bs c p2) := hr
      have G2 : Hid (w.grownBy w2 (some q)) := grown_trans G1.out hg
      clear hr hg
      have hdn : ¬ d = 0 := hdn0
      go_wp2
      go_ret
      have hb := wrap64_bd (lo + wrap64 (x / 2 % d))
      exact ⟨_, p2, rfl, hb.1, hb.2, R2.out, G2.out⟩

set_option maxHeartbeats 2000000 in
theorem off_any (q p c : Nat) (lo hi : Int) (a : Option Addr) (bs : List Int) (w : World) (h : RD w q a bs c p) (hl0 : -3000000000 ≤ lo) (hl1 : lo ≤ 3000000000) (hh0 : -9223372036854775808 ≤ hi) (hh1 : hi < 9223372036854775808) :
    Calls Try.prog 33 #[.pointer (some ⟨q, 0, none⟩), .int .i64 lo, .int .i64 hi] w (OffOk w q a bs c) := by
  have H : Hid (RD w q a bs c p) := h
  clear h
  go_enter Try.func33, Try.ntmps33
  go_wp2_with fail
  refine (once_any q p c 24 a bs w H.out (by omega) (by omega)).mono ?_
  rintro e w1 ⟨v, p1, rfl, hr, hg⟩
  have R1 : Hid (RD w1 q a bs c p1) := hr
  have G1 : Hid (w.grownBy w1 (some q)) := hg
  clear hr hg
  cases v
  · go_wp2_with fail
    refine (near_any q p1 c lo hi a bs w1 R1.out hl0 hl1 hh0 hh1).mono ?_
    rintro e w2 ⟨x, p2, rfl, hx0, hx1, hr, hg⟩
    have R2 : Hid (RD w2 q a bs c p2) := hr
    have G2 : Hid (w.grownBy w2 (some q)) := grown_trans G1.out hg
    clear hr hg
    go_wp2
    go_ret
    exact ⟨x, p2, rfl, hx0, hx1, R2.out, G2.out⟩
  · have hw1 : IntKind.i64.wrap (lo - 1) = lo - 1 := IntWalk.i64_in _ (by omega)
    obtain ⟨h2, HH2⟩ : ∃ x, IntKind.i64.wrap (hi + 1) = x := ⟨_, rfl⟩
    have HH2' : wrap64 (hi + 1) = h2 := by rw [← HH2, IntKind.wrap_i64]; unfold wrap64; rfl
    have hh2 : -9223372036854775808 ≤ h2 ∧ h2 < 9223372036854775808 := by rw [← HH2']; exact wrap64_bd _
    go_wp2_with fail
    have RA : Hid (RD (w1.alloc (Obj.cells #[Value.int IntKind.i64 (lo - 1), Value.int IntKind.i64 h2, Value.int IntKind.i64 (-9223372036854775808), Value.int IntKind.i64 9223372036854775807] 2)) q a bs c p1) := R1.out.below ((Below.refl _ _).alloc (Nat.le_refl _) _)
    have NA : Hid ((w1.alloc (Obj.cells #[Value.int IntKind.i64 (lo - 1), Value.int IntKind.i64 h2, Value.int IntKind.i64 (-9223372036854775808), Value.int IntKind.i64 9223372036854775807] 2)).heap[w1.heap.size]? = _) := heap_alloc_new _ _
    have HQ : Hid (q < w1.heap.size) := row_lt R1.out.1
    refine (below_any q p1 c 4 a bs _ RA.out (by omega)).mono ?_
    rintro e w2 ⟨x, p2, rfl, hx0, hx1, hr, hg⟩
    have R2 : Hid (RD w2 q a bs c p2) := hr
    have G2 : Hid (w.grownBy w2 (some q)) := grown_trans (grown_trans G1.out (grown_alloc w1 _ q)) hg
    have N2 := (hg.block _ (row_lt NA.out) (fun e => by have := HQ.out; simp at e; omega)).trans NA.out
    clear hr hg
    have n0 := cell_of_row _ _ 0 _ _ _ N2
    have n1 := cell_of_row _ _ 1 _ _ _ N2
    have n2 := cell_of_row _ _ 2 _ _ _ N2
    have n3 := cell_of_row _ _ 3 _ _ _ N2
    simp at n0 n1 n2 n3
    clear N2
    rcases (show x = 0 ∨ x = 1 ∨ x = 2 ∨ x = 3 from by omega) with rfl | rfl | rfl | rfl
    all_goals
      go_wp2
      go_ret
      exact ⟨_, p2, rfl, by omega, by omega, R2.out, G2.out⟩

end Go.Proofs.Ytpahhhocgpohbaa

namespace Go.Proofs.Ytpahhhocgpohbaa
end Go.Proofs.Ytpahhhocgpohbaa

namespace Go.Proofs.Ytpahhhocgpohbaa
open Go.RowKit

theorem Try.info2 : (Try.prog.info? 2).map (fun i => (i.zero, i.size, i.bytes)) = some (some (.int .i64 0), 1, 8) := by kernel_rfl

theorem make_ints (W : World) (len : Nat) (hlen : len ≤ 1048576) :
    (Instr.makeSlice 30 (.int .i64 len) (.int .i64 len)).run Try.prog W = .ok (.slice (some ⟨W.heap.size, 0, none⟩) len len) (W.alloc (.cells (cellsOf (List.replicate len 0)) 2)) := by
  have h := Try.info2
  cases hq : Try.prog.info? 2 with
  | none => simp [hq] at h
  | some i =>
    simp [hq] at h
    obtain ⟨hz, hs, hb⟩ := h
    have := run_make (P := Try.prog) W 30 2 i (.int .i64 0) Try.underlying30 hq hz .i64 .i64 len len (by omega) (by omega) (by rw [hb]; omega) (by omega)
    rw [this, hs]
    simp only [Int.toNat_natCast, made_zero]

end Go.Proofs.Ytpahhhocgpohbaa

namespace Go.Proofs.Ytpahhhocgpohbaa
open Go.RowKit

/-- The worlds in which all that was there is as it was. -/
def Kin (wr : World) : Type := { x : World // Below wr.heap.size wr x }
/-- One of them, as a world. -/
def Kin.w {wr : World} (s : Kin wr) : World := s.1
theorem Kin.there (wr : World) : Nonempty (Kin wr) := ⟨⟨wr, Below.refl _ _⟩⟩
theorem Kin.below {wr : World} (s : Kin wr) : Below wr.heap.size wr s.w := s.2
theorem Kin.cell {wr : World} (s : Kin wr) {b o : Nat} {v : Value} (h : wr.cell? ⟨b, o, none⟩ = some v) : s.w.cell? ⟨b, o, none⟩ = some v := by
  rw [s.below.cell (p := ⟨b, o, none⟩) (block_lt_of_cell h)]; exact h

/-- A region that draws its order, whose operations read and whose callees leave what was there: one walk, in the text's order. -/
theorem wp_region_kin {P : Program} {id : Nat} {Q : Exit → Act → World → Prop} {a : Act} {w : World} {l : List Oper} (hm : P.follows .mixedOrders = true) (hB : Region.lexB .any l.toArray = true)
    (h : wpQuiet P l.toArray (fun w' => ∃ s : Kin w, w' = s.w) (fun a' => ∀ w', (∃ s : Kin w, w' = s.w) → Q .normal a' w') l a) : (Code.region id l.toArray true).wp P Q a w :=
  wp_region_quiet (C := fun w' => ∃ s : Kin w, w' = s.w) hm hB ⟨⟨_, (Below.refl _ _).drew⟩, rfl⟩ (by simpa using h)

theorem Kin.call {P : Program} {f : FuncId} {args : Array Value} {wr : World} {s : Kin wr} {v : Value}
    (h : Calls P f args s.w fun e w' => e = .returned v ∧ Below s.w.heap.size s.w w') : Calls P f args s.w fun e w'' => e = .returned v ∧ ∃ s' : Kin wr, w'' = s'.w :=
  h.mono fun _ w' ⟨he, hb⟩ => ⟨he, ⟨w', s.below.trans (hb.mono s.below.size)⟩, rfl⟩
theorem Kin.call_same {P : Program} {f : FuncId} {args : Array Value} {wr : World} {s : Kin wr} {v : Value}
    (h : Calls P f args s.w fun e w' => e = .returned v ∧ w' = s.w) : Calls P f args s.w fun e w'' => e = .returned v ∧ ∃ s' : Kin wr, w'' = s'.w :=
  h.mono fun _ _ ⟨he, hb⟩ => ⟨he, s, hb⟩

end Go.Proofs.Ytpahhhocgpohbaa

namespace Go.Proofs.Ytpahhhocgpohbaa
open Go.RowKit

set_option maxHeartbeats 400000 in
theorem within_any (n lo hi : Int) (w : World) :
    Calls Try.prog 61 #[.int .i64 n, .int .i64 lo, .int .i64 hi] w fun e w' => e = .returned (.bool (inB n lo hi)) ∧ w' = w := by
  by_cases h1 : lo ≤ n
  · by_cases h2 : n ≤ hi
    · have h3 : inB n lo hi = true := inB_mk ⟨h1, h2⟩
      rw [h3]
      go_enter Try.func61, Try.ntmps61
      go_wp2
      go_ret
      exact ⟨by simp, rfl⟩
    · have h3 : inB n lo hi = false := inB_not (by omega)
      rw [h3]
      go_enter Try.func61, Try.ntmps61
      go_wp2
      go_ret
      exact ⟨by simp, rfl⟩
  · have h3 : inB n lo hi = false := inB_not (by omega)
    rw [h3]
    go_enter Try.func61, Try.ntmps61
    go_wp2
    go_ret
    exact ⟨by simp, rfl⟩

end Go.Proofs.Ytpahhhocgpohbaa

namespace Go.Proofs.Ytpahhhocgpohbaa
open Go.RowKit

set_option maxHeartbeats 400000 in
theorem l1In_any (n lo hi : Int) (w : World) :
    Calls Try.prog 53 #[.int .i64 n, .int .i64 lo, .int .i64 hi] w fun e w' => e = .returned (.bool (inB n lo hi)) ∧ w' = w := by
  by_cases h1 : lo ≤ n
  · by_cases h2 : n ≤ hi
    · have h3 : inB n lo hi = true := inB_mk ⟨h1, h2⟩
      rw [h3]
      go_enter Try.func53, Try.ntmps53
      go_wp2
      go_ret
      exact ⟨by simp, rfl⟩
    · have h3 : inB n lo hi = false := inB_not (by omega)
      rw [h3]
      go_enter Try.func53, Try.ntmps53
      go_wp2
      go_ret
      exact ⟨by simp, rfl⟩
  · have h3 : inB n lo hi = false := inB_not (by omega)
    rw [h3]
    go_enter Try.func53, Try.ntmps53
    go_wp2
    go_ret
    exact ⟨by simp, rfl⟩

end Go.Proofs.Ytpahhhocgpohbaa

namespace Go.Proofs.Ytpahhhocgpohbaa
open Go.RowKit

theorem methAF (d : Nat) (v : Value) (w : World) : (method (d + 1) 92 v "loop.example/g00265/impl.finds").run Try.prog w = .ok (90, v) w := by kernel_rfl
theorem methAM (d : Nat) (v : Value) (w : World) : (method (d + 1) 92 v "loop.example/g00265/impl.makeOn").run Try.prog w = .ok (91, v) w := by kernel_rfl
theorem methNF (d : Nat) (v : Value) (w : World) : (method (d + 1) 94 v "loop.example/g00265/impl.finds").run Try.prog w = .ok (106, v) w := by kernel_rfl
theorem methNM (d : Nat) (v : Value) (w : World) : (method (d + 1) 94 v "loop.example/g00265/impl.makeOn").run Try.prog w = .ok (107, v) w := by kernel_rfl
theorem methRF (d : Nat) (v : Value) (w : World) : (method (d + 1) 96 v "loop.example/g00265/impl.finds").run Try.prog w = .ok (109, v) w := by kernel_rfl
theorem methRM (d : Nat) (v : Value) (w : World) : (method (d + 1) 96 v "loop.example/g00265/impl.makeOn").run Try.prog w = .ok (110, v) w := by kernel_rfl

end Go.Proofs.Ytpahhhocgpohbaa

namespace Go.Proofs.Ytpahhhocgpohbaa
open Go.RowKit

/-- The place ahead; -1: there is none. -/
def prvK (K : List Int) (k : Nat) : Int := if k = 0 then -1 else K.getD (k - 1) 0
def risS (K : List Int) (b : Int) (k : Nat) : Bool := decide (prvK K k < K.getD k 0 ∧ K.getD k 0 < b)
/-- Whether the first places rise, below b. -/
def risTo (K : List Int) (b : Int) : Nat → Bool
  | 0 => true
  | k + 1 => risTo K b k && risS K b k
theorem risTo_no (K : List Int) (b : Int) {k : Nat} (h : risTo K b k = false) : ∀ d, risTo K b (k + d) = false
  | 0 => h
  | d + 1 => by rw [← Nat.add_assoc, risTo, risTo_no K b h d]; rfl
theorem risTo_step {K : List Int} {b : Int} {k n : Nat} (hk : k < n) (h : risS K b k = false) : risTo K b n = false := by
  have h1 : risTo K b (k + 1) = false := by rw [risTo, h, Bool.and_false]
  have := risTo_no K b h1 (n - (k + 1))
  rwa [show k + 1 + (n - (k + 1)) = n by omega] at this

set_option maxHeartbeats 2000000 in
theorem risesBelow_any (ka : Option Addr) (kn kc : Nat) (K : List Int) (b : Int) (w : World) (hK : IntsAt w ka K) (hn : K.length = kn) (hl : kn ≤ 1048576) :
    Calls Try.prog 54 #[.slice ka kn kc, .int .i64 b] w fun e w' => e = .returned (.bool (risTo K b kn)) ∧ w' = w := by
  have HK : Hid (IntsAt w ka K) := hK
  have HN : Hid (K.length = kn) := hn
  clear hK hn
  obtain ⟨r, HR⟩ : ∃ r, Hid (risTo K b kn = r) := ⟨_, rfl⟩
  rw [HR.out]
  go_enter Try.func54, Try.ntmps54
  go_wp2_with fail
  go_loopw [5, 10] (fun t5 ti wr => ∃ i : Nat, i ≤ kn ∧ t5 = .int .i64 (prvK K i) ∧ ti = .int .i64 i ∧ risTo K b i = true ∧ wr = w) (fun _ ti _ => kn - (intOf ti).toNat)
  case atStart => exact ⟨0, Nat.zero_le _, rfl, rfl, rfl, rfl⟩
  case round =>
    obtain ⟨i, hi, rfl, rfl, hrt, rfl⟩ := hrel
    have HRT : Hid (risTo K b i = true) := hrt
    clear hrt
    by_cases hlt : i < kn
    · have hin : (i : Int) < kn := by omega
      obtain ⟨bb, off, e, hc⟩ := HK.out i (by rw [HN.out]; exact hlt)
      subst e
      have HST : Hid (risS K b i = decide (prvK K i < K.getD i 0 ∧ K.getD i 0 < b)) := rfl
      have HPN : Hid (prvK K (i + 1) = K.getD i 0) := by show _ = _; unfold prvK; rw [if_neg (by omega)]; rfl
      generalize prvK K i = p at *
      generalize K.getD i 0 = x at *
      by_cases h1 : x ≤ p
      · have hr : r = false := by rw [← HR.out]; exact risTo_step hlt (by rw [HST.out, decide_eq_false (by omega)])
        subst hr
        go_wp2
        go_ret
        exact ⟨rfl, rfl⟩
      by_cases h2 : b ≤ x
      · have hr : r = false := by rw [← HR.out]; exact risTo_step hlt (by rw [HST.out, decide_eq_false (by omega)])
        subst hr
        go_wp2
        go_ret
        exact ⟨rfl, rfl⟩
      go_wp2
      go_roundw
      case rel => exact ⟨i + 1, by omega, by rw [HPN.out], by first | rfl | go_num, by rw [risTo, HRT.out, HST.out, decide_eq_true (by omega)]; rfl, by first | rfl | trivial⟩
      case measure => simp [intOf]; omega
    · have hin : i = kn := by omega
      subst hin
      have hr : r = true := by rw [← HR.out]; exact HRT.out
      subst hr
      go_wp2
      go_ret
      exact ⟨rfl, rfl⟩

end Go.Proofs.Ytpahhhocgpohbaa

namespace Go.Proofs.Ytpahhhocgpohbaa
open Go.RowKit

set_option maxHeartbeats 400000 in
theorem big_any (a : Option Addr) (c len : Nat) (w : World) (hl : len ≤ 9223372036854775807) :
    Calls Try.prog 6 #[.slice a len c] w fun e w' => e = .returned (.bool (decide (1048576 < len))) ∧ w' = w := by
  by_cases h : 1048576 < len
  · rw [decide_eq_true h]
    go_enter Try.func6, Try.ntmps6
    go_wp2
    go_ret
    exact ⟨by first | rfl | (simp; omega), rfl⟩
  · rw [decide_eq_false h]
    go_enter Try.func6, Try.ntmps6
    go_wp2
    go_ret
    exact ⟨by first | rfl | (simp; omega), rfl⟩

end Go.Proofs.Ytpahhhocgpohbaa
