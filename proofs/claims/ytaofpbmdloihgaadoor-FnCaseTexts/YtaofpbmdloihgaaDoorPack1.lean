import Derived.Test.YtaofpbmdloihgaaDoorPack0
import Derived.Test.YtaofpbmdloihgaaDoorRows
import Derived.WalkKit
import Derived.WalkSpells
import Derived.WalkLawsBesides
import Derived.Deep.QuietTactic
import Derived.BigQuiet
import Derived.Deep.RegionWith
import Derived.Deep.RegionHeld3
import Derived.Deep.WholeRow
namespace Go.Proofs.YtaofpbmdloihgaaDoor
end Go.Proofs.YtaofpbmdloihgaaDoor

namespace Go.Proofs.YtaofpbmdloihgaaDoor
open Go.RowKit

theorem cells2 {w : World} {k : Nat} {c0 c1 : Value} {T : TypeId} (r : w.heap[k]? = some (.cells #[c0, c1] T (0, 0))) :
    w.cell? ⟨k, 0, none⟩ = some c0 ∧ w.cell? ⟨k, 1, none⟩ = some c1 := by
  refine ⟨?_, ?_⟩
  · rw [cell_of_row _ _ 0 _ _ _ r]; simp
  · rw [cell_of_row _ _ 1 _ _ _ r]; simp

end Go.Proofs.YtaofpbmdloihgaaDoor

namespace Go.Proofs.YtaofpbmdloihgaaDoor
open Go.RowKit

theorem grown_set (W : World) (g i : Nat) (v : Value) : W.grownBy (W.setCell ⟨g, i, none⟩ v) (some g) :=
  ⟨rfl, rfl, rfl, by simp [World.setCell], fun b _ hne => heap_setCell_other W ⟨g, i, none⟩ b v (fun e => hne (by rw [e]))⟩
theorem grown_trans {w w1 w2 : World} {g : Nat} (h1 : w.grownBy w1 (some g)) (h2 : w1.grownBy w2 (some g)) : w.grownBy w2 (some g) :=
  ⟨h2.os.trans h1.os, h2.tape.trans h1.tape, h2.output.trans h1.output, Nat.le_trans h1.size h2.size, fun b hb hne => (h2.block b (Nat.lt_of_lt_of_le hb h1.size) hne).trans (h1.block b hb hne)⟩
theorem grown_refl (w : World) (g : Nat) : w.grownBy w (some g) := ⟨rfl, rfl, rfl, Nat.le_refl _, fun _ _ _ => rfl⟩

end Go.Proofs.YtaofpbmdloihgaaDoor

namespace Go.Proofs.YtaofpbmdloihgaaDoor
open Go.RowKit

/-- The slice at 'a' holds the bytes bs, none of them in block q. -/
def BytesAt (w : World) (q : Nat) (a : Option Addr) (bs : List Int) : Prop :=
  ∀ j, j < bs.length → ∃ b off, a = some ⟨b, off, none⟩ ∧ b ≠ q ∧ w.cell? ⟨b, off + j, none⟩ = some (.int .u8 (bs.getD j 0)) ∧ 0 ≤ bs.getD j 0 ∧ bs.getD j 0 < 256
/-- A reader of drawn bytes in block q: its bytes, and how many it has read. -/
def RD (w : World) (q : Nat) (a : Option Addr) (bs : List Int) (c p : Nat) : Prop :=
  w.heap[q]? = some (.cells #[.slice a bs.length c, .int .i64 p] 61 (0, 0)) ∧ p ≤ bs.length ∧ BytesAt w q a bs ∧ bs.length ≤ 1048576
theorem BytesAt.grown {w w' : World} {q : Nat} {a : Option Addr} {bs : List Int} (h : BytesAt w q a bs) (hg : w.grownBy w' (some q)) : BytesAt w' q a bs := by
  intro j hj
  obtain ⟨b, off, e, hne, hc, hv⟩ := h j hj
  refine ⟨b, off, e, hne, ?_, hv⟩
  have hlt := block_lt_of_cell hc
  rw [World.cell?_of_block (hg.block b hlt (fun e => hne (by simpa using e)))]
  exact hc
theorem RD.below {w w' : World} {q : Nat} {a : Option Addr} {bs : List Int} {c p : Nat} (h : RD w q a bs c p) (hb : Below w.heap.size w w') : RD w' q a bs c p := by
  refine ⟨below_row hb (row_lt h.1) h.1, h.2.1, fun j hj => ?_, h.2.2.2⟩
  obtain ⟨b, off, e, hne, hc, hv⟩ := h.2.2.1 j hj
  exact ⟨b, off, e, hne, (hb.cell (p := ⟨b, off + j, none⟩) (block_lt_of_cell hc)).trans hc, hv⟩
theorem RD.put {w : World} {q : Nat} {a : Option Addr} {bs : List Int} {c p p' : Nat} (h : RD w q a bs c p) (hp : p' ≤ bs.length) : RD (w.setCell ⟨q, 1, none⟩ (.int .i64 p')) q a bs c p' := by
  refine ⟨?_, hp, h.2.2.1.grown (grown_set w q 1 _), h.2.2.2⟩
  have := heap_setCell_same w q 1 _ _ (Value.int .i64 p') h.1
  simpa using this
/-- What a draw answers: a number that is at least lo and below hi; the reader alone has changed. -/
def DrawOk (w : World) (q : Nat) (a : Option Addr) (bs : List Int) (c : Nat) (lo hi : Int) (e : Ending) (w' : World) : Prop :=
  ∃ (v : Int) (p' : Nat), e = .returned (.int .i64 v) ∧ lo ≤ v ∧ v < hi ∧ RD w' q a bs c p' ∧ w.grownBy w' (some q)
theorem grown_drew {w w' : World} {q : Nat} (h : w.grownBy w' (some q)) : w.grownBy w'.drew (some q) := ⟨h.os, h.tape, h.output, h.size, h.block⟩

set_option maxHeartbeats 1000000 in
theorem next_any (q p c : Nat) (a : Option Addr) (bs : List Int) (w : World) (h : RD w q a bs c p) :
    Calls Tryd.prog 49 #[.pointer (some ⟨q, 0, none⟩)] w (DrawOk w q a bs c 0 256) := by
  have H : Hid (RD w q a bs c p) := h
  obtain ⟨c0, c1⟩ := cells2 h.1
  have hp := h.2.1
  have hbl := h.2.2.2
  clear h
  by_cases hlt : p < bs.length
  · obtain ⟨b, off, rfl, hne, hc, h1, h2⟩ := H.out.2.2.1 p hlt
    obtain ⟨v, HV⟩ : ∃ t, Hid (bs.getD p 0 = t) := ⟨_, rfl⟩
    rw [HV.out] at hc h1 h2
    have hnge : ¬ ((bs.length : Int) ≤ (p : Int)) := by omega
    have hwp : IntKind.i64.wrap ((p : Int) + 1) = ((p + 1 : Nat) : Int) := by rw [IntWalk.i64_in _ (by omega)]; omega
    have cf := fun i => frozen_of_row _ _ i _ _ H.out.1
    go_enter Tryd.func49, Tryd.ntmps49
    go_wp2_with fail
    go_region
    all_goals
      have hnl : ¬ bs.length ≤ p := by omega
      go_wp2_with fail
      have r1 := (H.out.put (p' := p + 1) (by omega)).below (Below.refl _ _).drew
      have g1 := grown_drew (grown_set w q 1 (Value.int .i64 ((p + 1 : Nat) : Int)))
      rw [show ((p + 1 : Nat) : Int) = (p : Int) + 1 by omega] at r1 g1
      generalize (w.setCell ⟨q, 1, none⟩ (.int .i64 ((p : Int) + 1))).drew = W1 at *
      have R1 : Hid (RD W1 q (some ⟨b, off, none⟩) bs c (p + 1)) := r1
      have G1 : Hid (w.grownBy W1 (some q)) := g1
      clear c0 c1 hc cf r1 g1
      obtain ⟨c0, c1⟩ := cells2 R1.out.1
      obtain ⟨b2, off2, e2, _, hc, _⟩ := R1.out.2.2.1 p hlt
      simp at e2
      obtain ⟨rfl, rfl⟩ := e2
      rw [HV.out] at hc
      rw [show ((p + 1 : Nat) : Int) = (p : Int) + 1 by omega] at c1
      have hw2 : IntKind.i64.wrap ((p : Int) + 1 - 1) = (p : Int) := by rw [IntWalk.i64_in _ (by omega)]; omega
      have hp0 : (0 : Int) ≤ (p : Int) := by omega
      have hw3 : IntKind.i64.wrap v = v := IntWalk.i64_in _ (by omega)
      go_region
      all_goals
        go_wp2
        go_ret
        exact ⟨v, p + 1, rfl, h1, h2, R1.out.below (Below.refl _ _).drew, grown_drew G1.out⟩
  · have hge : (bs.length : Int) ≤ (p : Int) := by omega
    have hnl : bs.length ≤ p := by omega
    go_enter Tryd.func49, Tryd.ntmps49
    go_wp2_with fail
    go_region
    all_goals
      go_wp2
      go_ret
      exact ⟨0, p, rfl, by omega, by omega, H.out.below (Below.refl _ _).drew, grown_drew (grown_refl w q)⟩

theorem DrawOk.mono {w : World} {q c : Nat} {a : Option Addr} {bs : List Int} {lo hi hi' : Int} {e : Ending} {w' : World} (h : DrawOk w q a bs c lo hi e w') (hh : hi ≤ hi') : DrawOk w q a bs c lo hi' e w' := by
  obtain ⟨v, p, h1, h2, h3, h4⟩ := h
  exact ⟨v, p, h1, h2, by omega, h4⟩

set_option maxHeartbeats 1000000 in
theorem below_any (q p c : Nat) (n : Int) (a : Option Addr) (bs : List Int) (w : World) (h : RD w q a bs c p) (hn : n ≤ 65536) :
    Calls Tryd.prog 27 #[.pointer (some ⟨q, 0, none⟩), .int .i64 n] w (DrawOk w q a bs c 0 (max n 1)) := by
  have H : Hid (RD w q a bs c p) := h
  clear h
  by_cases h1 : n ≤ 1
  · go_enter Tryd.func27, Tryd.ntmps27
    go_wp2
    go_ret
    exact ⟨0, p, rfl, by omega, by omega, H.out, grown_refl w q⟩
  · by_cases h2 : n ≤ 256
    · have hn0 : ¬ n = 0 := by omega
      go_enter Tryd.func27, Tryd.ntmps27
      go_wp2_with fail
      refine (next_any q p c a bs w H.out).mono ?_
      rintro e w1 ⟨v, p1, rfl, hv0, hv1, hr, hg⟩
      have R1 : Hid (RD w1 q a bs c p1) := hr
      have G1 : Hid (w.grownBy w1 (some q)) := hg
      clear hr hg
      go_wp2
      go_ret
      exact ⟨v % n, p1, rfl, Int.emod_nonneg _ (by omega), by have := Int.emod_lt_of_pos v (show 0 < n by omega); omega, R1.out, G1.out⟩
    · have hn0 : ¬ n = 0 := by omega
      go_enter Tryd.func27, Tryd.ntmps27
      go_wp2_with fail
      refine (next_any q p c a bs w H.out).mono ?_
      rintro e w1 ⟨v, p1, rfl, hv0, hv1, hr, hg⟩
      have R1 : Hid (RD w1 q a bs c p1) := hr
      have G1 : Hid (w.grownBy w1 (some q)) := hg
      clear hr hg
      obtain ⟨x, hx⟩ : ∃ x, v * 256 = x := ⟨_, rfl⟩
      have hwx : IntKind.i64.wrap (v * 256) = x := by rw [IntWalk.i64_in _ (by omega)]; exact hx
      have hx0 : 0 ≤ x ∧ x ≤ 65280 := by omega
      go_wp2_with fail
      refine (next_any q p1 c a bs w1 R1.out).mono ?_
      rintro e w2 ⟨u, p2, rfl, hu0, hu1, hr, hg⟩
      have R2 : Hid (RD w2 q a bs c p2) := hr
      have G2 : Hid (w1.grownBy w2 (some q)) := hg
      clear hr hg
      obtain ⟨y, hy⟩ : ∃ y, x + u = y := ⟨_, rfl⟩
      have hwy : IntKind.i64.wrap (x + u) = y := by rw [IntWalk.i64_in _ (by omega)]; exact hy
      have hy0 : 0 ≤ y ∧ y ≤ 65535 := by omega
      clear hwx hv0 hv1 hu0 hu1
      go_wp2
      go_ret
      exact ⟨y % n, p2, by first | rfl | (subst hy; subst hx; rfl), Int.emod_nonneg _ (by omega), by have := Int.emod_lt_of_pos y (show 0 < n by omega); omega, R2.out, grown_trans G1.out G2.out⟩

end Go.Proofs.YtaofpbmdloihgaaDoor

namespace Go.Proofs.YtaofpbmdloihgaaDoor
open Go.RowKit

/-- The slice at 'a' holds the bytes bs. -/
def CodeAt (w : World) (a : Option Addr) (bs : List Int) : Prop :=
  ∀ j, j < bs.length → ∃ b off, a = some ⟨b, off, none⟩ ∧ w.cell? ⟨b, off + j, none⟩ = some (.int .u8 (bs.getD j 0)) ∧ 0 ≤ bs.getD j 0 ∧ bs.getD j 0 < 256

set_option maxHeartbeats 400000 in
theorem l1Open_any (a : Option Addr) (c : Nat) (bs : List Int) (w : World) (h : CodeAt w a bs) (hl : bs.length ≤ 1048576) :
    Calls Tryd.prog 12 #[.slice a bs.length c] w fun e w' => e = .returned (.pointer (some ⟨w.heap.size, 0, none⟩)) ∧ Below w.heap.size w w' ∧ RD w' w.heap.size a bs c 0 := by
  have H : Hid (CodeAt w a bs) := h
  clear h
  go_enter Tryd.func12, Tryd.ntmps12
  go_wp2
  go_ret
  refine ⟨rfl, (Below.refl _ _).alloc (Nat.le_refl _) _, heap_alloc_new _ _, Nat.zero_le _, fun j hj => ?_, hl⟩
  obtain ⟨b, off, e, hc, hv⟩ := H.out j hj
  have hlt := block_lt_of_cell hc
  simp at hlt
  exact ⟨b, off, e, by omega, (((Below.refl w.heap.size w).alloc (Nat.le_refl _) _).cell (p := ⟨b, off + j, none⟩) hlt).trans hc, hv⟩

/-- Where the reader was made by the call itself, what was there is as it was. -/
theorem grown_below {w w1 w2 : World} {q : Nat} (hb : Below w.heap.size w w1) (hq : w.heap.size ≤ q) (hg : w1.grownBy w2 (some q)) : Below w.heap.size w w2 := hb.grown hg hb.size (fun k e => by injection e with e; omega)

end Go.Proofs.YtaofpbmdloihgaaDoor

namespace Go.Proofs.YtaofpbmdloihgaaDoor
open Go.RowKit

set_option maxHeartbeats 1000000 in
theorem below_big (q p c : Nat) (n : Int) (a : Option Addr) (bs : List Int) (w : World) (h : RD w q a bs c p) (hn : n ≤ 9223372036854775807) :
    Calls Tryd.prog 27 #[.pointer (some ⟨q, 0, none⟩), .int .i64 n] w (DrawOk w q a bs c 0 (max n 1)) := by
  have H : Hid (RD w q a bs c p) := h
  clear h
  by_cases h1 : n ≤ 1
  · go_enter Tryd.func27, Tryd.ntmps27
    go_wp2
    go_ret
    exact ⟨0, p, rfl, by omega, by omega, H.out, grown_refl w q⟩
  · by_cases h2 : n ≤ 256
    · have hn0 : ¬ n = 0 := by omega
      go_enter Tryd.func27, Tryd.ntmps27
      go_wp2_with fail
      refine (next_any q p c a bs w H.out).mono ?_
      rintro e w1 ⟨v, p1, rfl, hv0, hv1, hr, hg⟩
      have R1 : Hid (RD w1 q a bs c p1) := hr
      have G1 : Hid (w.grownBy w1 (some q)) := hg
      clear hr hg
      go_wp2
      go_ret
      exact ⟨v % n, p1, rfl, Int.emod_nonneg _ (by omega), by have := Int.emod_lt_of_pos v (show 0 < n by omega); omega, R1.out, G1.out⟩
    · have hn0 : ¬ n = 0 := by omega
      go_enter Tryd.func27, Tryd.ntmps27
      go_wp2_with fail
      refine (next_any q p c a bs w H.out).mono ?_
      rintro e w1 ⟨v, p1, rfl, hv0, hv1, hr, hg⟩
      have R1 : Hid (RD w1 q a bs c p1) := hr
      have G1 : Hid (w.grownBy w1 (some q)) := hg
      clear hr hg
      obtain ⟨x, hx⟩ : ∃ x, v * 256 = x := ⟨_, rfl⟩
      have hwx : IntKind.i64.wrap (v * 256) = x := by rw [IntWalk.i64_in _ (by omega)]; exact hx
      have hx0 : 0 ≤ x ∧ x ≤ 65280 := by omega
      go_wp2_with fail
      refine (next_any q p1 c a bs w1 R1.out).mono ?_
      rintro e w2 ⟨u, p2, rfl, hu0, hu1, hr, hg⟩
      have R2 : Hid (RD w2 q a bs c p2) := hr
      have G2 : Hid (w1.grownBy w2 (some q)) := hg
      clear hr hg
      obtain ⟨y, hy⟩ : ∃ y, x + u = y := ⟨_, rfl⟩
      have hwy : IntKind.i64.wrap (x + u) = y := by rw [IntWalk.i64_in _ (by omega)]; exact hy
      have hy0 : 0 ≤ y ∧ y ≤ 65535 := by omega
      clear hwx hv0 hv1 hu0 hu1
      go_wp2
      go_ret
      exact ⟨y % n, p2, by first | rfl | (subst hy; subst hx; rfl), Int.emod_nonneg _ (by omega), by have := Int.emod_lt_of_pos y (show 0 < n by omega); omega, R2.out, grown_trans G1.out G2.out⟩


end Go.Proofs.YtaofpbmdloihgaaDoor

namespace Go.Proofs.YtaofpbmdloihgaaDoor
open Go.RowKit

theorem own_shp {w : World} {base k : Nat} {v : Value} {e : TypeId} {size : Nat} {xs : List Value} (h : w.ownsRow base e size v k xs) : v = .slice none 0 0 ∨ ∃ g c, v = .slice (some ⟨g, 0, none⟩) k c := by
  obtain ⟨_, ⟨h1, _⟩ | ⟨g, cap, cur, h2, _⟩⟩ := h
  · exact .inl h1
  · exact .inr ⟨g, cap, h2⟩
theorem own_blw {w w' : World} {base size n : Nat} {e : TypeId} {v : Value} {xs : List Value} (h : w.ownsRow base e size v n xs) (hb : Below w.heap.size w w') : w'.ownsRow base e size v n xs := by
  obtain ⟨h1, h2 | ⟨g, cap, cur, h2, h3, h4, h5⟩⟩ := h
  · exact ⟨h1, .inl h2⟩
  · exact ⟨h1, .inr ⟨g, cap, cur, h2, h3, below_row hb (row_lt h4) h4, h5⟩⟩

theorem own_bse {w : World} {base b0 k : Nat} {v : Value} {e : TypeId} {size : Nat} {xs : List Value} (h : w.ownsRow base e size v k xs) (hb : b0 ≤ base) : w.ownsRow b0 e size v k xs := by
  obtain ⟨h0, h1 | ⟨g, cap, cur, h2, h3, h4⟩⟩ := h
  · exact ⟨h0, .inl h1⟩
  · exact ⟨h0, .inr ⟨g, cap, cur, h2, Nat.le_trans hb h3, h4⟩⟩
theorem own_smg {w : World} {base k : Nat} {v : Value} {e : TypeId} {size : Nat} {xs : List Value} (h : w.ownsRow base e size v k xs) (hne : v ≠ .slice none 0 0) : ∃ g c, v = .slice (some ⟨g, 0, none⟩) k c := by
  rcases own_shp h with e | e
  · exact absurd e hne
  · exact e
theorem not_nilg {v v' : Value} {m : Nat} (h : v' = .slice none 0 0 ↔ v = .slice none 0 0 ∧ m = 0) (hv : ∃ g n c, v = .slice (some ⟨g, 0, none⟩) n c) : v' ≠ .slice none 0 0 := by
  intro e
  obtain ⟨g, n, c, rfl⟩ := hv
  have := (h.1 e).1
  simp at this
theorem own_capg {w : World} {base k g c : Nat} {e : TypeId} {size : Nat} {xs : List Value} (h : w.ownsRow base e size (.slice (some ⟨g, 0, none⟩) k c) k xs) : k ≤ c := by
  obtain ⟨_, ⟨h1, _⟩ | ⟨g', cap, cur, h2, _, _, h3, _⟩⟩ := h
  · cases h1
  · injection h2 with e1 e2 e3
    omega
/-- Where an append to a slice of the call's own ends: in the row that was, or in a new block. -/
theorem append_blk {P : Program} (w : World) (base : Nat) (t ty e : TypeId) (i : TypeInfo) (z : Value) (size bytes : Nat) (ht : P.underlying t = some (.slice e)) (hi : P.info? e = some i) (hz : i.zero = some z)
    (hsize : i.size = size) (hby : i.bytes = bytes) (v : Value) (n : Nat) (xs : List Value) (hown : w.ownsRow base e size v n xs)
    (a : Addr) (m c : Nat) (news : List Value) (hl : news.length = m * size) (hnews : ∀ j u, news[j]? = some u → w.cell? (a.add j) = some u) (h1 : ∀ u ∈ news, u.oneCell' = true)
    (h63 : n + m ≤ maxLen) (hbytes : (n + m) * bytes ≤ 140737488355328) {v' : Value} {w' : World} (hrun : (Builtin.append_ #[t, t] ty #[v, .slice (some a) m c]).run P w = .ok v' w') : v'.ownBlock = v.ownBlock ∨ v'.ownBlock = some w.heap.size := by
  subst hsize
  subst hby
  have hsmall : n + m ≤ 9223372036854775807 := by simp only [maxLen] at h63; omega
  rcases hown.2 with ⟨rfl, rfl⟩ | ⟨g, cap, cur, rfl, hbg, hg, hnc, hcm, hcs, htake⟩
  · by_cases hm : m = 0
    · subst hm
      have hn : news = [] := List.eq_nil_of_length_eq_zero (by simpa using hl)
      subst hn
      simp [Builtin.append_, run_underlying ht, sizeOf, typeInfo, hi, Builtin.lenOf, Builtin.firstCells, loadCells, loadCellsFrom] at hrun
      rw [← hrun.1]
      exact .inl rfl
    · have hr := run_append_nil (P := P) w t ty e i z ht hi hz a m c news hl hnews (by omega) (by omega) (by have hb := hbytes; simp only [Nat.zero_add] at hb; omega)
      rw [hr] at hrun
      injection hrun with e1 e2
      rw [← e1]
      exact .inr rfl
  · by_cases hroom : n + m ≤ cap
    · have hfit : n * i.size + news.length ≤ cur.size := by rw [hl, hcs, ← Nat.add_mul]; exact Nat.mul_le_mul_right _ hroom
      have hr := run_append_room (P := P) w t ty e i ht hi g n cap cur hg a m c news hl hnews h1 hroom hfit
      rw [hr] at hrun
      injection hrun with e1 e2
      rw [← e1]
      exact .inl rfl
    · have holds : ∀ j u, xs[j]? = some u → w.cell? ((⟨g, 0, none⟩ : Addr).add j) = some u := hown.cells (g := g) rfl
      have hr := run_append_grow (P := P) w t ty e i z ht hi hz ⟨g, 0, none⟩ n cap xs hown.1 holds a m c news hl hnews (by omega) (by omega) (growslice_fits (by omega) hbytes)
      rw [hr] at hrun
      injection hrun with e1 e2
      rw [← e1]
      exact .inr rfl

theorem exec_app {P : Program} {o : Oper} {a : Act} {w w' : World} {v : Value} (s x : Operand) (t : TypeId) (vs vx : Value) (ho : o.op = .call { callee := .builtin .append, args := #[s, x], argTypes := #[t, t] })
    (hs : a.eval s = vs) (hx : a.eval x = vx) (hr : (Builtin.append_ #[t, t] o.type #[vs, vx]).run P w = .ok v w') : (execOp a.eval o).run P w = .ok (.value v) w' := by
  unfold execOp
  simp only [ho, resolve, invoke, builtin, Sem.run_bind, Sem.run_pure, Result.andThen_ok, List.map_toArray, List.map_cons, List.map_nil, hs, hx, hr]

end Go.Proofs.YtaofpbmdloihgaaDoor

namespace Go.Proofs.YtaofpbmdloihgaaDoor
open Go.RowKit

theorem own_putV {w : World} {base n g c k size m : Nat} {e : TypeId} {xs : List Value} (v : Value) (h : w.ownsRow base e size (.slice (some ⟨g, 0, none⟩) m c) n xs) : (w.setCell ⟨g, k, none⟩ v).ownsRow base e size (.slice (some ⟨g, 0, none⟩) m c) n (xs.set k v) := by
  obtain ⟨h0, ⟨h1, _⟩ | ⟨g', cap, cur, h2, h3, h4, h5, h6, h7, h8⟩⟩ := h
  · cases h1
  · simp at h2
    obtain ⟨rfl, rfl, rfl⟩ := h2
    refine ⟨by simpa using h0, .inr ⟨g, c, cur.setIfInBounds k v, rfl, h3, heap_setCell_same w g k cur e _ h4, h5, h6, by simpa using h7, ?_⟩⟩
    rw [Array.toList_setIfInBounds, List.take_set, h8]
theorem own_cellV {w : World} {base n g c k size m : Nat} {e : TypeId} {xs : List Value} {x : Value} (h : w.ownsRow base e size (.slice (some ⟨g, 0, none⟩) m c) n xs) (hk : xs[k]? = some x) : w.cell? ⟨g, k, none⟩ = some x ∧ w.frozen? ⟨g, k, none⟩ = false := by
  refine ⟨?_, ?_⟩
  · have := h.cells (g := g) rfl k x hk
    have hadd : (⟨g, 0, none⟩ : Addr).add k = ⟨g, k, none⟩ := by unfold Addr.add; split <;> simp_all
    rw [hadd] at this
    exact this
  · obtain ⟨h0, ⟨h1, _⟩ | ⟨g', cap, cur, h2, h3, h4, h5⟩⟩ := h
    · cases h1
    · simp at h2
      obtain ⟨rfl, rfl, rfl⟩ := h2
      exact frozen_of_row _ _ k _ _ h4
/-- What a slice of the call's own is: nil, or a row of its own. -/
theorem own_kinds {w : World} {base n size : Nat} {e : TypeId} {v : Value} {xs : List Value} (h : w.ownsRow base e size v n xs) : (v = .slice none 0 0 ∧ n = 0) ∨ ∃ g c, v = .slice (some ⟨g, 0, none⟩) n c ∧ base ≤ g ∧ g < w.heap.size := by
  obtain ⟨_, ⟨h1, h2⟩ | ⟨g, cap, cur, h2, h3, h4, _⟩⟩ := h
  · exact .inl ⟨h1, h2⟩
  · exact .inr ⟨g, cap, h2, h3, row_lt h4⟩

end Go.Proofs.YtaofpbmdloihgaaDoor

namespace Go.Proofs.YtaofpbmdloihgaaDoor
open Go.RowKit

/-- The worlds in which all that was there is as it was. -/
def Kin (wr : World) : Type := { x : World // Below wr.heap.size wr x }
/-- One of them, as a world. -/
def Kin.w {wr : World} (s : Kin wr) : World := s.1
theorem Kin.there (wr : World) : Nonempty (Kin wr) := ⟨⟨wr, Below.refl _ _⟩⟩
theorem Kin.below {wr : World} (s : Kin wr) : Below wr.heap.size wr s.w := s.2
theorem Kin.cell {wr : World} (s : Kin wr) {b o : Nat} {v : Value} (h : wr.cell? ⟨b, o, none⟩ = some v) : s.w.cell? ⟨b, o, none⟩ = some v := by
  rw [s.below.cell (p := ⟨b, o, none⟩) (block_lt_of_cell h)]; exact h

/-- A region that draws its order, whose operations read and whose callees leave what was there: one walk, in the text's order. -/
theorem wp_region_kin {P : Program} {id : Nat} {Q : Exit → Act → World → Prop} {a : Act} {w : World} {l : List Oper} (hm : P.follows .mixedOrders = true) (hB : Region.lexB .any l.toArray = true)
    (h : wpQuiet P l.toArray (fun w' => ∃ s : Kin w, w' = s.w) (fun a' => ∀ w', (∃ s : Kin w, w' = s.w) → Q .normal a' w') l a) : (Code.region id l.toArray true).wp P Q a w :=
  wp_region_quiet (C := fun w' => ∃ s : Kin w, w' = s.w) hm hB ⟨⟨_, (Below.refl _ _).drew⟩, rfl⟩ (by simpa using h)

theorem Kin.call {P : Program} {f : FuncId} {args : Array Value} {wr : World} {s : Kin wr} {v : Value}
    (h : Calls P f args s.w fun e w' => e = .returned v ∧ Below s.w.heap.size s.w w') : Calls P f args s.w fun e w'' => e = .returned v ∧ ∃ s' : Kin wr, w'' = s'.w :=
  h.mono fun _ w' ⟨he, hb⟩ => ⟨he, ⟨w', s.below.trans (hb.mono s.below.size)⟩, rfl⟩
theorem Kin.call_same {P : Program} {f : FuncId} {args : Array Value} {wr : World} {s : Kin wr} {v : Value}
    (h : Calls P f args s.w fun e w' => e = .returned v ∧ w' = s.w) : Calls P f args s.w fun e w'' => e = .returned v ∧ ∃ s' : Kin wr, w'' = s'.w :=
  h.mono fun _ _ ⟨he, hb⟩ => ⟨he, s, hb⟩

end Go.Proofs.YtaofpbmdloihgaaDoor

namespace Go.Proofs.YtaofpbmdloihgaaDoor
open Go.RowKit

set_option maxHeartbeats 1000000 in
theorem once_any (q p c : Nat) (n : Int) (a : Option Addr) (bs : List Int) (w : World) (h : RD w q a bs c p) (h1 : 0 ≤ n) (hn : n ≤ 65536) :
    Calls Tryd.prog 50 #[.pointer (some ⟨q, 0, none⟩), .int .i64 n] w fun e w' => ∃ (v : Bool) (p' : Nat), e = .returned (.bool v) ∧ RD w' q a bs c p' ∧ w.grownBy w' (some q) := by
  have H : Hid (RD w q a bs c p) := h
  clear h
  have hw1 : IntKind.i64.wrap (n - 1) = n - 1 := IntWalk.i64_in _ (by omega)
  go_enter Tryd.func50, Tryd.ntmps50
  go_wp2_with fail
  refine (below_any q p c n a bs w H.out hn).mono ?_
  rintro e w1 ⟨v, p1, rfl, hv0, hv1, hr, hg⟩
  have R1 : Hid (RD w1 q a bs c p1) := hr
  have G1 : Hid (w.grownBy w1 (some q)) := hg
  clear hr hg hv0 hv1
  go_wp2
  go_ret
  exact ⟨_, p1, rfl, R1.out, G1.out⟩

end Go.Proofs.YtaofpbmdloihgaaDoor

namespace Go.Proofs.YtaofpbmdloihgaaDoor
open Go.RowKit

theorem or_u64 (x y : Int) : 0 ≤ bits BinOp.or IntKind.u64 x y ∧ bits BinOp.or IntKind.u64 x y < 18446744073709551616 := by
  unfold bits
  rw [IntKind.wrap_u64]
  omega
/-- What 'word' answers: some number of 64 bits; the reader alone has changed. -/
def WordOk (w : World) (q : Nat) (a : Option Addr) (bs : List Int) (c : Nat) (e : Ending) (w' : World) : Prop :=
  ∃ (v : Int) (p' : Nat), e = .returned (.int .u64 v) ∧ 0 ≤ v ∧ v < 18446744073709551616 ∧ RD w' q a bs c p' ∧ w.grownBy w' (some q)

set_option maxHeartbeats 2000000 in
theorem word_any (q p c : Nat) (a : Option Addr) (bs : List Int) (w : World) (h : RD w q a bs c p) :
    Calls Tryd.prog 61 #[.pointer (some ⟨q, 0, none⟩)] w (WordOk w q a bs c) := by
  have H : Hid (RD w q a bs c p) := h
  clear h
  go_enter Tryd.func61, Tryd.ntmps61
  go_wp2_with fail
  go_loopw [3, 4] (fun tx t wr => ∃ (k p' : Nat) (x : Int), k ≤ 8 ∧ t = .int .i64 k ∧ tx = .int .u64 x ∧ 0 ≤ x ∧ x < 18446744073709551616 ∧ RD wr q a bs c p' ∧ w.grownBy wr (some q)) (fun _ t _ => 8 - (intOf t).toNat)
  case atStart => exact ⟨0, p, 0, by omega, rfl, rfl, by omega, by omega, H.out, grown_refl w q⟩
  case round =>
    obtain ⟨k, p1, x, hk, rfl, rfl, hx0, hx1, hr, hg⟩ := hrel
    have R1 : Hid (RD wr q a bs c p1) := hr
    have G1 : Hid (w.grownBy wr (some q)) := hg
    clear hr hg
    by_cases hlt : k < 8
    · have hlt' : (k : Int) < 8 := by omega
      have hwk : IntKind.i64.wrap ((k : Int) + 1) = ((k + 1 : Nat) : Int) := by rw [IntWalk.i64_in _ (by omega)]; omega
      go_wp2_with fail
      refine (next_any q p1 c a bs wr R1.out).mono ?_
      rintro e w2 ⟨v, p2, rfl, hv0, hv1, hr, hg⟩
      have R2 : Hid (RD w2 q a bs c p2) := hr
      have G2 : Hid (w.grownBy w2 (some q)) := grown_trans G1.out hg
      clear hr hg
      go_wp2
      go_roundw
      case rel =>
        obtain ⟨b1, b2⟩ := or_u64 (IntKind.u64.wrap (x * 256)) v
        exact ⟨k + 1, p2, _, by omega, by first | rfl | go_num, rfl, b1, b2, R2.out, G2.out⟩
      case measure => simp [intOf]; omega
    · have hke : k = 8 := by omega
      subst hke
      go_wp2
      go_ret
      exact ⟨x, p1, rfl, hx0, hx1, R1.out, G1.out⟩

end Go.Proofs.YtaofpbmdloihgaaDoor

namespace Go.Proofs.YtaofpbmdloihgaaDoor
open Go.RowKit

theorem grown_alloc (w : World) (o : Obj) (q : Nat) : w.grownBy (w.alloc o) (some q) := ⟨rfl, rfl, rfl, by simp, fun k hk _ => heap_alloc_old _ _ hk⟩
theorem wrap64_bd (n : Int) : -9223372036854775808 ≤ wrap64 n ∧ wrap64 n < 9223372036854775808 := by
  unfold wrap64
  omega
/-- What 'near' and 'off' answer: some number; of what was there the reader alone has changed. -/
def NumOk (w : World) (q : Nat) (a : Option Addr) (bs : List Int) (c : Nat) (e : Ending) (w' : World) : Prop :=
  ∃ (v : Int) (p' : Nat), e = .returned (.int .i64 v) ∧ -9223372036854775808 ≤ v ∧ v < 9223372036854775808 ∧ RD w' q a bs c p' ∧ w.grownBy w' (some q)

def OffOk (w : World) (q : Nat) (a : Option Addr) (bs : List Int) (c : Nat) (e : Ending) (w' : World) : Prop := NumOk w q a bs c e w'

/-- How many numbers lie between, as 64 bits without a sign. -/
theorem near_d {lo hi : Int} (hl0 : -3000000000 ≤ lo) (hl1 : lo ≤ 3000000000) (hh0 : -9223372036854775808 ≤ hi) (hh1 : hi < 9223372036854775808) (h : lo ≤ hi) : ¬ IntKind.u64.wrap (IntKind.i64.wrap (IntKind.i64.wrap (hi - lo) + 1)) = 0 ∧ 0 < IntKind.u64.wrap (IntKind.i64.wrap (IntKind.i64.wrap (hi - lo) + 1)) ∧ IntKind.u64.wrap (IntKind.i64.wrap (IntKind.i64.wrap (hi - lo) + 1)) < 18446744073709551616 := by
  rw [IntKind.wrap_u64, IntKind.wrap_i64, IntKind.wrap_i64]
  omega

set_option maxHeartbeats 2000000 in
theorem near_any (q p c : Nat) (lo hi : Int) (a : Option Addr) (bs : List Int) (w : World) (h : RD w q a bs c p) (hl0 : -3000000000 ≤ lo) (hl1 : lo ≤ 3000000000) (hh0 : -9223372036854775808 ≤ hi) (hh1 : hi < 9223372036854775808) :
    Calls Tryd.prog 53 #[.pointer (some ⟨q, 0, none⟩), .int .i64 lo, .int .i64 hi] w (NumOk w q a bs c) := by
  have H : Hid (RD w q a bs c p) := h
  clear h
  go_enter Tryd.func53, Tryd.ntmps53
  go_wp2_with fail
  refine (below_any q p c 8 a bs w H.out (by omega)).mono ?_
  rintro e w1 ⟨v, p1, rfl, hv0, hv1, hr, hg⟩
  have R1 : Hid (RD w1 q a bs c p1) := hr
  have G1 : Hid (w.grownBy w1 (some q)) := hg
  clear hr hg
  rcases (show v = 0 ∨ v = 1 ∨ (¬ v = 0 ∧ ¬ v = 1) from by omega) with rfl | rfl | ⟨h0, h1⟩
  · go_wp2
    go_ret
    exact ⟨lo, p1, rfl, by omega, by omega, R1.out, G1.out⟩
  · go_wp2
    go_ret
    exact ⟨hi, p1, rfl, by omega, by omega, R1.out, G1.out⟩
  · have e0 : (v == 0) = false := by simpa using h0
    have e1 : (v == 1) = false := by simpa using h1
    by_cases hlt : hi < lo
    · go_wp2
      go_ret
      exact ⟨lo, p1, rfl, by omega, by omega, R1.out, G1.out⟩
    · obtain ⟨hdn0, hd1, hd2⟩ := near_d hl0 hl1 hh0 hh1 (by omega)
      obtain ⟨x1, HX1⟩ : ∃ x, IntKind.i64.wrap (hi - lo) = x := ⟨_, rfl⟩
      rw [HX1] at hdn0 hd1 hd2
      obtain ⟨x2, HX2⟩ : ∃ x, IntKind.i64.wrap (x1 + 1) = x := ⟨_, rfl⟩
      rw [HX2] at hdn0 hd1 hd2
      obtain ⟨d, HD⟩ : ∃ x, IntKind.u64.wrap x2 = x := ⟨_, rfl⟩
      rw [HD] at hdn0 hd1 hd2
      have HX1' : wrap64 (hi - lo) = x1 := by rw [← HX1, IntKind.wrap_i64]; unfold wrap64; rfl
      have HX2' : wrap64 (x1 + 1) = x2 := by rw [← HX2, IntKind.wrap_i64]; unfold wrap64; rfl
      clear hv0 hv1
      go_wp2_with fail
      refine (word_any q p1 c a bs w1 R1.out).mono ?_
      rintro e w2 ⟨x, p2, rfl, hx0, hx1, hr, hg⟩
      have R2 : Hid (RD w2 q a bs c p2) := hr
      have G2 : Hid (w.grownBy w2 (some q)) := grown_trans G1.out hg
      clear hr hg
      have hdn : ¬ d = 0 := hdn0
      go_wp2
      go_ret
      have hb := wrap64_bd (lo + wrap64 (x / 2 % d))
      exact ⟨_, p2, rfl, hb.1, hb.2, R2.out, G2.out⟩

set_option maxHeartbeats 2000000 in
theorem off_any (q p c : Nat) (lo hi : Int) (a : Option Addr) (bs : List Int) (w : World) (h : RD w q a bs c p) (hl0 : -3000000000 ≤ lo) (hl1 : lo ≤ 3000000000) (hh0 : -9223372036854775808 ≤ hi) (hh1 : hi < 9223372036854775808) :
    Calls Tryd.prog 30 #[.pointer (some ⟨q, 0, none⟩), .int .i64 lo, .int .i64 hi] w (OffOk w q a bs c) := by
  have H : Hid (RD w q a bs c p) := h
  clear h
  go_enter Tryd.func30, Tryd.ntmps30
  go_wp2_with fail
  refine (once_any q p c 24 a bs w H.out (by omega) (by omega)).mono ?_
  rintro e w1 ⟨v, p1, rfl, hr, hg⟩
  have R1 : Hid (RD w1 q a bs c p1) := hr
  have G1 : Hid (w.grownBy w1 (some q)) := hg
  clear hr hg
  cases v
  · go_wp2_with fail
    refine (near_any q p1 c lo hi a bs w1 R1.out hl0 hl1 hh0 hh1).mono ?_
    rintro e w2 ⟨x, p2, rfl, hx0, hx1, hr, hg⟩
    have R2 : Hid (RD w2 q a bs c p2) := hr
    have G2 : Hid (w.grownBy w2 (some q)) := grown_trans G1.out hg
    clear hr hg
    go_wp2
    go_ret
    exact ⟨x, p2, rfl, hx0, hx1, R2.out, G2.out⟩
  · have hw1 : IntKind.i64.wrap (lo - 1) = lo - 1 := IntWalk.i64_in _ (by omega)
    obtain ⟨h2, HH2⟩ : ∃ x, IntKind.i64.wrap (hi + 1) = x := ⟨_, rfl⟩
    have HH2' : wrap64 (hi + 1) = h2 := by rw [← HH2, IntKind.wrap_i64]; unfold wrap64; rfl
    have hh2 : -9223372036854775808 ≤ h2 ∧ h2 < 9223372036854775808 := by rw [← HH2']; exact wrap64_bd _
    go_wp2_with fail
    have RA : Hid (RD (w1.alloc (Obj.cells #[Value.int IntKind.i64 (lo - 1), Value.int IntKind.i64 h2, Value.int IntKind.i64 (-9223372036854775808), Value.int IntKind.i64 9223372036854775807] 2)) q a bs c p1) := R1.out.below ((Below.refl _ _).alloc (Nat.le_refl _) _)
    have NA : Hid ((w1.alloc (Obj.cells #[Value.int IntKind.i64 (lo - 1), Value.int IntKind.i64 h2, Value.int IntKind.i64 (-9223372036854775808), Value.int IntKind.i64 9223372036854775807] 2)).heap[w1.heap.size]? = _) := heap_alloc_new _ _
    have HQ : Hid (q < w1.heap.size) := row_lt R1.out.1
    refine (below_any q p1 c 4 a bs _ RA.out (by omega)).mono ?_
    rintro e w2 ⟨x, p2, rfl, hx0, hx1, hr, hg⟩
    have R2 : Hid (RD w2 q a bs c p2) := hr
    have G2 : Hid (w.grownBy w2 (some q)) := grown_trans (grown_trans G1.out (grown_alloc w1 _ q)) hg
    have N2 := (hg.block _ (row_lt NA.out) (fun e => by have := HQ.out; simp at e; omega)).trans NA.out
    clear hr hg
    have n0 := cell_of_row _ _ 0 _ _ _ N2
    have n1 := cell_of_row _ _ 1 _ _ _ N2
    have n2 := cell_of_row _ _ 2 _ _ _ N2
    have n3 := cell_of_row _ _ 3 _ _ _ N2
    simp at n0 n1 n2 n3
    clear N2
    rcases (show x = 0 ∨ x = 1 ∨ x = 2 ∨ x = 3 from by omega) with rfl | rfl | rfl | rfl
    all_goals
      go_wp2
      go_ret
      exact ⟨_, p2, rfl, by omega, by omega, R2.out, G2.out⟩

end Go.Proofs.YtaofpbmdloihgaaDoor

namespace Go.Proofs.YtaofpbmdloihgaaDoor
end Go.Proofs.YtaofpbmdloihgaaDoor

namespace Go.Proofs.YtaofpbmdloihgaaDoor
open Go.RowKit

theorem Tryd.info2 : (Tryd.prog.info? 2).map (fun i => (i.zero, i.size, i.bytes)) = some (some (.int .i64 0), 1, 8) := by kernel_rfl

theorem make_ints (W : World) (len : Nat) (hlen : len ≤ 1048576) :
    (Instr.makeSlice 24 (.int .i64 len) (.int .i64 len)).run Tryd.prog W = .ok (.slice (some ⟨W.heap.size, 0, none⟩) len len) (W.alloc (.cells (cellsOf (List.replicate len 0)) 2)) := by
  have h := Tryd.info2
  cases hq : Tryd.prog.info? 2 with
  | none => simp [hq] at h
  | some i =>
    simp [hq] at h
    obtain ⟨hz, hs, hb⟩ := h
    have := run_make (P := Tryd.prog) W 24 2 i (.int .i64 0) Tryd.underlying24 hq hz .i64 .i64 len len (by omega) (by omega) (by rw [hb]; omega) (by omega)
    rw [this, hs]
    simp only [Int.toNat_natCast, made_zero]

end Go.Proofs.YtaofpbmdloihgaaDoor

namespace Go.Proofs.YtaofpbmdloihgaaDoor
open Go.RowKit

set_option maxHeartbeats 400000 in
theorem l1In_any (n lo hi : Int) (w : World) :
    Calls Tryd.prog 40 #[.int .i64 n, .int .i64 lo, .int .i64 hi] w fun e w' => e = .returned (.bool (inB n lo hi)) ∧ w' = w := by
  by_cases h1 : lo ≤ n
  · by_cases h2 : n ≤ hi
    · have h3 : inB n lo hi = true := inB_mk ⟨h1, h2⟩
      rw [h3]
      go_enter Tryd.func40, Tryd.ntmps40
      go_wp2
      go_ret
      exact ⟨by simp, rfl⟩
    · have h3 : inB n lo hi = false := inB_not (by omega)
      rw [h3]
      go_enter Tryd.func40, Tryd.ntmps40
      go_wp2
      go_ret
      exact ⟨by simp, rfl⟩
  · have h3 : inB n lo hi = false := inB_not (by omega)
    rw [h3]
    go_enter Tryd.func40, Tryd.ntmps40
    go_wp2
    go_ret
    exact ⟨by simp, rfl⟩

end Go.Proofs.YtaofpbmdloihgaaDoor

namespace Go.Proofs.YtaofpbmdloihgaaDoor
open Go.RowKit

set_option maxHeartbeats 1000000 in
theorem specMat_loop (n : Nat) (a : Option Addr) (cap : Nat) (zs : List Int) (w : World) (h1 : 1 ≤ n) (h2 : n ≤ 16) (hl : zs.length = n * n) (hA : IntsAt w a zs) :
    Calls Tryd.prog 39 #[.agg #[.int .i64 n, .slice a zs.length cap]] w fun e w' => e = .returned (.bool (matB n zs)) ∧ Below w.heap.size w w' := by
  have hnn : n * n ≤ 256 := mul_bd n n h2 h2
  have hd1 : inB (n : Int) 1 16 = true := inB_mk (by omega)
  have hnw : wrap64 ((n : Int) * (n : Int)) = (n : Int) * (n : Int) := IntWalk.wrap64_in _ (by rw [← Int.natCast_mul]; omega)
  have hn0 : ¬ n = 0 := by omega
  have HA : Hid (IntsAt w a zs) := hA
  clear hA
  rw [hl]
  have HL : Hid (zs.length = n * n) := hl
  clear hl
  go_enter Tryd.func39, Tryd.ntmps39
  go_wp2_with (go_at_call 40; refine (l1In_any _ _ _ _).mono ?_; rintro e w' ⟨rfl, rfl⟩)
  go_loopw [3] (fun t wr => ∃ k : Nat, k ≤ n * n ∧ t = .int .i64 k ∧ Below w.heap.size w wr ∧ wr.heap[w.heap.size]? = some (.cells #[.int .i64 n, .slice a (n * n) cap] 26 (0, 0)) ∧ (∀ i, i < k → 0 ≤ zs.getD i 0 ∧ zs.getD i 0 ≤ 10000 ∧ (i / n = i % n → zs.getD i 0 = 0))) (fun t _ => n * n - (intOf t).toNat)
  case atStart => exact ⟨0, Nat.zero_le _, rfl, (Below.refl _ _).alloc (Nat.le_refl _) _, heap_alloc_new _ _, fun i hi => by omega⟩
  case round =>
    obtain ⟨k, hk, rfl, hb, g3, hok⟩ := hrel
    have c0 := cell_of_row _ _ 0 _ _ _ g3
    have c1 := cell_of_row _ _ 1 _ _ _ g3
    simp at c0 c1
    have HO : Hid (∀ i, i < k → 0 ≤ zs.getD i 0 ∧ zs.getD i 0 ≤ 10000 ∧ (i / n = i % n → zs.getD i 0 = 0)) := hok
    have G3 : Hid _ := g3
    have HB : Hid _ := hb
    clear hok
    by_cases hlt : k < n * n
    · obtain ⟨bb, off, rfl, hcs⟩ := IntsAt.some (IntsAt.below HA.out hb) (j := k) (by rw [HL.out]; exact hlt)
      have ct := hcs k (by rw [HL.out]; exact hlt)
      clear hcs
      generalize htt : zs.getD k 0 = t at ct
      have HT : Hid (zs.getD k 0 = t) := htt
      clear htt g3 hb
      have hw1 : IntKind.i64.wrap ((k : Int) / (n : Int)) = (k : Int) / (n : Int) := by
        rw [IntKind.wrap_i64, ← Int.natCast_ediv]
        have hq := Nat.div_le_self k n
        generalize k / n = q at hq
        omega
      have hw2 : (k : Int).tmod (n : Int) = (k : Int) % (n : Int) := Int.tmod_eq_emod_of_nonneg (by omega)
      have hlt' : (k : Int) < (n : Int) * (n : Int) := by rw [← Int.natCast_mul]; omega
      by_cases hv : 0 ≤ t ∧ t ≤ 10000
      · have hvd : inB t 0 10000 = true := inB_mk hv
        by_cases hq : k / n = k % n
        · have hqb : ((k : Int) / (n : Int) == (k : Int) % (n : Int)) = true := by simp; omega
          by_cases ht0 : t = 0
          · have htb : (t != 0) = false := by simp [ht0]
            have HS : Hid (∀ i, i < k + 1 → 0 ≤ zs.getD i 0 ∧ zs.getD i 0 ≤ 10000 ∧ (i / n = i % n → zs.getD i 0 = 0)) := by
              intro i hi
              by_cases e : i = k
              · rw [e, HT.out]; exact ⟨hv.1, hv.2, fun _ => ht0⟩
              · exact HO.out i (by omega)
            clear HO hq ht0
            go_wp2
            go_quiet ((go_at_call 40; exact Calls.quiet_of_same (l1In_any _ _ _ _)))
            go_wp2
            refine ⟨⟨k + 1, by omega, by go_num, below_drewN HB.out _, G3.out, HS.out⟩, by simp [intOf]; omega⟩
          · have htb : (t != 0) = true := by simp [ht0]
            have HN : Hid (matB n zs = false) := matB_at n zs HL.out k hlt (by rw [HT.out]; exact fun h => ht0 (h.2.2 hq))
            clear HO hq ht0
            go_wp2
            go_quiet ((go_at_call 40; exact Calls.quiet_of_same (l1In_any _ _ _ _)))
            go_wp2
            go_ret
            exact ⟨ret_bool HN.out.symm, below_drewN HB.out _⟩
        · have hqb : ((k : Int) / (n : Int) == (k : Int) % (n : Int)) = false := by simp; omega
          have HS : Hid (∀ i, i < k + 1 → 0 ≤ zs.getD i 0 ∧ zs.getD i 0 ≤ 10000 ∧ (i / n = i % n → zs.getD i 0 = 0)) := by
            intro i hi
            by_cases e : i = k
            · rw [e, HT.out]; exact ⟨hv.1, hv.2, fun h => absurd h hq⟩
            · exact HO.out i (by omega)
          clear HO hq
          go_wp2
          go_quiet ((go_at_call 40; exact Calls.quiet_of_same (l1In_any _ _ _ _)))
          go_wp2
          refine ⟨⟨k + 1, by omega, by go_num, below_drewN HB.out _, G3.out, HS.out⟩, by simp [intOf]; omega⟩
      · have hvd : inB t 0 10000 = false := inB_not hv
        have HN : Hid (matB n zs = false) := matB_at n zs HL.out k hlt (by rw [HT.out]; exact fun h => hv ⟨h.1, h.2.1⟩)
        clear HO hv
        go_wp2
        go_quiet ((go_at_call 40; exact Calls.quiet_of_same (l1In_any _ _ _ _)))
        go_wp2
        go_ret
        exact ⟨ret_bool HN.out.symm, below_drewN HB.out _⟩
    · have hge' : (n : Int) * (n : Int) ≤ (k : Int) := by rw [← Int.natCast_mul]; omega
      have HN : Hid (matB n zs = true) := matB_all n zs h1 h2 HL.out (fun i hi => HO.out i (by omega))
      clear HO g3
      go_wp2
      go_ret
      exact ⟨ret_bool HN.out.symm, HB.out⟩

set_option maxHeartbeats 1000000 in
theorem specMat_no (n : Int) (a : Option Addr) (len cap : Nat) (w : World) (h : ¬ (1 ≤ n ∧ n ≤ 16 ∧ (len : Int) = n * n)) :
    Calls Tryd.prog 39 #[.agg #[.int .i64 n, .slice a len cap]] w fun e w' => e = .returned (.bool false) ∧ Below w.heap.size w w' := by
  by_cases hn : 1 ≤ n ∧ n ≤ 16
  · obtain ⟨m, rfl⟩ := Int.eq_ofNat_of_zero_le (show 0 ≤ n by omega)
    have hnn : m * m ≤ 256 := mul_bd m m (by omega) (by omega)
    have hd1 : inB (m : Int) 1 16 = true := inB_mk hn
    have hnw : wrap64 ((m : Int) * (m : Int)) = (m : Int) * (m : Int) := IntWalk.wrap64_in _ (by rw [← Int.natCast_mul]; omega)
    have hne : ((len : Int) != (m : Int) * (m : Int)) = true := by
      rw [bne_iff_ne]; exact fun e => h ⟨hn.1, hn.2, e⟩
    clear h
    go_enter Tryd.func39, Tryd.ntmps39
    go_wp2_with (go_at_call 40; refine (l1In_any _ _ _ _).mono ?_; rintro e w' ⟨rfl, rfl⟩)
    go_ret
    exact ⟨rfl, (Below.refl _ _).alloc (Nat.le_refl _) _⟩
  · have hd1 : inB n 1 16 = false := inB_not hn
    clear h hn
    go_enter Tryd.func39, Tryd.ntmps39
    go_wp2_with (go_at_call 40; refine (l1In_any _ _ _ _).mono ?_; rintro e w' ⟨rfl, rfl⟩)
    go_ret
    exact ⟨rfl, (Below.refl _ _).alloc (Nat.le_refl _) _⟩

theorem specMat_any (n : Int) (a : Option Addr) (cap : Nat) (zs : List Int) (w : World) (hA : IntsAt w a zs) :
    Calls Tryd.prog 39 #[.agg #[.int .i64 n, .slice a zs.length cap]] w fun e w' => e = .returned (.bool (matB n zs)) ∧ Below w.heap.size w w' := by
  by_cases h : 1 ≤ n ∧ n ≤ 16 ∧ (zs.length : Int) = n * n
  · obtain ⟨m, rfl⟩ := Int.eq_ofNat_of_zero_le (show 0 ≤ n by omega)
    exact specMat_loop m a cap zs w (by omega) (by omega) (by have := h.2.2; rw [← Int.natCast_mul] at this; omega) hA
  · have hm : matB n zs = false := matB_not fun k => h ⟨k.1, k.2.1, k.2.2.1⟩
    rw [hm]
    exact specMat_no n a _ cap w h

end Go.Proofs.YtaofpbmdloihgaaDoor

namespace Go.Proofs.YtaofpbmdloihgaaDoor
open Go.RowKit

set_option maxHeartbeats 400000 in
theorem l1Time_any (n x y : Nat) (a : Option Addr) (len cap : Nat) (zs : List Int) (w : World) (hn : n ≤ 16) (hx : x < n) (hy : y < n) (hl : zs.length = n * n) (hlen : len = n * n) (hA : IntsAt w a zs) :
    Calls Tryd.prog 51 #[.agg #[.int .i64 n, .slice a len cap], .int .i64 x, .int .i64 y] w fun e w' => e = .returned (.int .i64 (zs.getD (x * n + y) 0)) ∧ Below w.heap.size w w' := by
  subst hlen
  have hnn : n * n ≤ 256 := mul_bd n n hn hn
  have hxy : x * n + y < n * n := by
    have := Nat.mul_le_mul_right n (show x + 1 ≤ n by omega)
    rw [Nat.add_mul] at this
    omega
  obtain ⟨bb, off, rfl, hcs⟩ := hA.some (j := x * n + y) (by omega)
  have ct := hcs (x * n + y) (by omega)
  have hlt := block_lt_of_cell ct
  clear hcs hA
  generalize zs.getD (x * n + y) 0 = t at ct
  have hwm : wrap64 ((x : Int) * (n : Int)) = (x : Int) * (n : Int) := IntWalk.wrap64_in _ (by rw [← Int.natCast_mul]; omega)
  simp at hlt
  clear hl
  go_enter Tryd.func51, Tryd.ntmps51
  go_wp2
  go_ret
  exact ⟨rfl, (Below.refl _ _).alloc (Nat.le_refl _) _⟩

theorem l1Time_tm (n x y : Nat) (a : Option Addr) (cap : Nat) (zs : List Int) (w : World) (hn : n ≤ 16) (hx : x < n) (hy : y < n) (hl : zs.length = n * n) (hA : IntsAt w a zs) :
    Calls Tryd.prog 51 #[.agg #[.int .i64 n, .slice a zs.length cap], .int .i64 x, .int .i64 y] w fun e w' => e = .returned (.int .i64 (tm n zs x y)) ∧ Below w.heap.size w w' :=
  l1Time_any n x y a zs.length cap zs w hn hx hy hl hl hA

end Go.Proofs.YtaofpbmdloihgaaDoor

namespace Go.Proofs.YtaofpbmdloihgaaDoor
open Go.RowKit

theorem next_round {n y : Nat} (hy : y < n) (P : Nat → Prop) (h : P (y + 1)) :
    (∃ k, k ≤ n ∧ Value.int IntKind.i64 ((y : Int) + 1) = Value.int IntKind.i64 (k : Int) ∧ P k) ∧ n - (intOf (Value.int IntKind.i64 ((y : Int) + 1))).toNat < n - (intOf (Value.int IntKind.i64 (y : Int))).toNat := by
  have e : ((y : Int) + 1) = ((y + 1 : Nat) : Int) := by simp
  rw [e]
  refine ⟨⟨y + 1, hy, rfl, h⟩, ?_⟩
  simp [intOf]
  omega

end Go.Proofs.YtaofpbmdloihgaaDoor

namespace Go.Proofs.YtaofpbmdloihgaaDoor
open Go.RowKit

set_option maxHeartbeats 400000 in
theorem within_any (n lo hi : Int) (w : World) :
    Calls Tryd.prog 23 #[.int .i64 n, .int .i64 lo, .int .i64 hi] w fun e w' => e = .returned (.bool (inB n lo hi)) ∧ w' = w := by
  by_cases h1 : lo ≤ n
  · by_cases h2 : n ≤ hi
    · have h3 : inB n lo hi = true := inB_mk ⟨h1, h2⟩
      rw [h3]
      go_enter Tryd.func23, Tryd.ntmps23
      go_wp2
      go_ret
      exact ⟨by simp, rfl⟩
    · have h3 : inB n lo hi = false := inB_not (by omega)
      rw [h3]
      go_enter Tryd.func23, Tryd.ntmps23
      go_wp2
      go_ret
      exact ⟨by simp, rfl⟩
  · have h3 : inB n lo hi = false := inB_not (by omega)
    rw [h3]
    go_enter Tryd.func23, Tryd.ntmps23
    go_wp2
    go_ret
    exact ⟨by simp, rfl⟩

end Go.Proofs.YtaofpbmdloihgaaDoor

namespace Go.Proofs.YtaofpbmdloihgaaDoor
open Go.RowKit

set_option maxHeartbeats 400000 in
theorem isPlace_any (n p : Int) (s : Value) (w : World) (h1 : 1 ≤ n) (h2 : n ≤ 16) :
    Calls Tryd.prog 59 #[.agg #[.int .i64 n, s], .int .i64 p] w fun e w' => e = .returned (.bool (inB p 0 (n - 1))) ∧ Below w.heap.size w w' := by
  go_enter Tryd.func59, Tryd.ntmps59
  go_wp2_with (go_at_call 23; refine (within_any _ _ _ _).mono ?_; rintro e w' ⟨rfl, rfl⟩)
  go_ret
  exact ⟨rfl, (Below.refl _ _).alloc (Nat.le_refl _) _⟩

end Go.Proofs.YtaofpbmdloihgaaDoor

namespace Go.Proofs.YtaofpbmdloihgaaDoor
open Go.RowKit

set_option maxHeartbeats 400000 in
theorem hoursOk_any (f t : Int) (w : World) :
    Calls Tryd.prog 60 #[.int .i64 f, .int .i64 t] w fun e w' => e = .returned (.bool (hoursB f t)) ∧ w' = w := by
  by_cases h1 : 0 ≤ f
  · by_cases h2 : f ≤ t
    · by_cases h3 : t ≤ 1000000
      · rw [hoursB_mk h1 h2 h3]
        go_enter Tryd.func60, Tryd.ntmps60
        go_wp2
        go_ret
        exact ⟨by simp, rfl⟩
      · rw [hoursB_not (by omega)]
        go_enter Tryd.func60, Tryd.ntmps60
        go_wp2
        go_ret
        exact ⟨by simp, rfl⟩
    · rw [hoursB_not (by omega)]
      go_enter Tryd.func60, Tryd.ntmps60
      go_wp2
      go_ret
      exact ⟨by simp, rfl⟩
  · rw [hoursB_not (by omega)]
    go_enter Tryd.func60, Tryd.ntmps60
    go_wp2
    go_ret
    exact ⟨by simp, rfl⟩

end Go.Proofs.YtaofpbmdloihgaaDoor

namespace Go.Proofs.YtaofpbmdloihgaaDoor
open Go.RowKit

set_option maxHeartbeats 400000 in
theorem orderOk_any (n o0 o1 o2 o3 o4 o5 : Int) (s : Value) (w : World) (hn1 : 1 ≤ n) (hn2 : n ≤ 16) :
    Calls Tryd.prog 45 #[.agg #[.int .i64 n, s], .agg #[.int .i64 o0, .int .i64 o1, .int .i64 o2, .int .i64 o3, .int .i64 o4, .int .i64 o5]] w fun e w' => e = .returned (.bool (ordIn n o1 o2 o3 o4 o5)) ∧ Below w.heap.size w w' := by
  have HB0 : Hid (Below w.heap.size w ((w.alloc (Obj.cells #[Value.int IntKind.i64 n, s] 26)).alloc (Obj.cells #[Value.int IntKind.i64 o0, Value.int IntKind.i64 o1, Value.int IntKind.i64 o2, Value.int IntKind.i64 o3, Value.int IntKind.i64 o4, Value.int IntKind.i64 o5] 45))) := ((Below.refl _ _).alloc (Nat.le_refl _) _).alloc (by simp) _
  have R0 : Hid (((w.alloc (Obj.cells #[Value.int IntKind.i64 n, s] 26)).alloc (Obj.cells #[Value.int IntKind.i64 o0, Value.int IntKind.i64 o1, Value.int IntKind.i64 o2, Value.int IntKind.i64 o3, Value.int IntKind.i64 o4, Value.int IntKind.i64 o5] 45)).heap[w.heap.size + 1]? = some (.cells #[Value.int IntKind.i64 o0, Value.int IntKind.i64 o1, Value.int IntKind.i64 o2, Value.int IntKind.i64 o3, Value.int IntKind.i64 o4, Value.int IntKind.i64 o5] 45 (0, 0))) := heap_alloc2_new _ _ _
  have HLT : Hid (w.heap.size + 1 < ((w.alloc (Obj.cells #[Value.int IntKind.i64 n, s] 26)).alloc (Obj.cells #[Value.int IntKind.i64 o0, Value.int IntKind.i64 o1, Value.int IntKind.i64 o2, Value.int IntKind.i64 o3, Value.int IntKind.i64 o4, Value.int IntKind.i64 o5] 45)).heap.size) := by
    show _ < _
    simp
  cases h0 : inB o1 0 (n - 1)
  · go_enter Tryd.func45, Tryd.ntmps45
    go_wp2_with (first
      | (go_at_call 59
         refine (isPlace_any _ _ _ _ hn1 hn2).mono ?_
         rintro e w2 ⟨rfl, hb2⟩
         have BL := HB0.out.trans (hb2.mono HB0.out.size)
         obtain ⟨k0, k1, k2, k3, k4, k5⟩ := cells6 (below_row hb2 HLT.out R0.out)
         clear hb2)
      | (go_at_call 23; refine (within_any _ _ _ _).mono ?_; rintro e w' ⟨rfl, rfl⟩)
      | (go_at_call 60; refine (hoursOk_any _ _ _).mono ?_; rintro e w' ⟨rfl, rfl⟩))
    go_ret
    exact ⟨ret_bool (by simp [ordIn, h0]), BL⟩
  · cases h1 : inB o2 0 1000
    · go_enter Tryd.func45, Tryd.ntmps45
      go_wp2_with (first
        | (go_at_call 59
           refine (isPlace_any _ _ _ _ hn1 hn2).mono ?_
           rintro e w2 ⟨rfl, hb2⟩
           have BL := HB0.out.trans (hb2.mono HB0.out.size)
           obtain ⟨k0, k1, k2, k3, k4, k5⟩ := cells6 (below_row hb2 HLT.out R0.out)
           clear hb2)
        | (go_at_call 23; refine (within_any _ _ _ _).mono ?_; rintro e w' ⟨rfl, rfl⟩)
        | (go_at_call 60; refine (hoursOk_any _ _ _).mono ?_; rintro e w' ⟨rfl, rfl⟩))
      go_ret
      exact ⟨ret_bool (by simp [ordIn, h0, h1]), BL⟩
    · cases h2 : hoursB o3 o4
      · go_enter Tryd.func45, Tryd.ntmps45
        go_wp2_with (first
          | (go_at_call 59
             refine (isPlace_any _ _ _ _ hn1 hn2).mono ?_
             rintro e w2 ⟨rfl, hb2⟩
             have BL := HB0.out.trans (hb2.mono HB0.out.size)
             obtain ⟨k0, k1, k2, k3, k4, k5⟩ := cells6 (below_row hb2 HLT.out R0.out)
             clear hb2)
          | (go_at_call 23; refine (within_any _ _ _ _).mono ?_; rintro e w' ⟨rfl, rfl⟩)
          | (go_at_call 60; refine (hoursOk_any _ _ _).mono ?_; rintro e w' ⟨rfl, rfl⟩))
        go_ret
        exact ⟨ret_bool (by simp [ordIn, h0, h1, h2]), BL⟩
      · cases h3 : inB o5 0 10000
        · go_enter Tryd.func45, Tryd.ntmps45
          go_wp2_with (first
            | (go_at_call 59
               refine (isPlace_any _ _ _ _ hn1 hn2).mono ?_
               rintro e w2 ⟨rfl, hb2⟩
               have BL := HB0.out.trans (hb2.mono HB0.out.size)
               obtain ⟨k0, k1, k2, k3, k4, k5⟩ := cells6 (below_row hb2 HLT.out R0.out)
               clear hb2)
            | (go_at_call 23; refine (within_any _ _ _ _).mono ?_; rintro e w' ⟨rfl, rfl⟩)
            | (go_at_call 60; refine (hoursOk_any _ _ _).mono ?_; rintro e w' ⟨rfl, rfl⟩))
          go_ret
          exact ⟨ret_bool (by simp [ordIn, h0, h1, h2, h3]), BL⟩
        · go_enter Tryd.func45, Tryd.ntmps45
          go_wp2_with (first
            | (go_at_call 59
               refine (isPlace_any _ _ _ _ hn1 hn2).mono ?_
               rintro e w2 ⟨rfl, hb2⟩
               have BL := HB0.out.trans (hb2.mono HB0.out.size)
               obtain ⟨k0, k1, k2, k3, k4, k5⟩ := cells6 (below_row hb2 HLT.out R0.out)
               clear hb2)
            | (go_at_call 23; refine (within_any _ _ _ _).mono ?_; rintro e w' ⟨rfl, rfl⟩)
            | (go_at_call 60; refine (hoursOk_any _ _ _).mono ?_; rintro e w' ⟨rfl, rfl⟩))
          go_ret
          exact ⟨ret_bool (by simp [ordIn, h0, h1, h2, h3]), BL⟩

set_option maxHeartbeats 400000 in
theorem vehicleOk_any (n o0 o1 o2 o3 o4 : Int) (s : Value) (w : World) (hn1 : 1 ≤ n) (hn2 : n ≤ 16) :
    Calls Tryd.prog 46 #[.agg #[.int .i64 n, s], .agg #[.int .i64 o0, .int .i64 o1, .int .i64 o2, .int .i64 o3, .int .i64 o4]] w fun e w' => e = .returned (.bool (vehIn n o1 o2 o3 o4)) ∧ Below w.heap.size w w' := by
  have HB0 : Hid (Below w.heap.size w ((w.alloc (Obj.cells #[Value.int IntKind.i64 n, s] 26)).alloc (Obj.cells #[Value.int IntKind.i64 o0, Value.int IntKind.i64 o1, Value.int IntKind.i64 o2, Value.int IntKind.i64 o3, Value.int IntKind.i64 o4] 47))) := ((Below.refl _ _).alloc (Nat.le_refl _) _).alloc (by simp) _
  have R0 : Hid (((w.alloc (Obj.cells #[Value.int IntKind.i64 n, s] 26)).alloc (Obj.cells #[Value.int IntKind.i64 o0, Value.int IntKind.i64 o1, Value.int IntKind.i64 o2, Value.int IntKind.i64 o3, Value.int IntKind.i64 o4] 47)).heap[w.heap.size + 1]? = some (.cells #[Value.int IntKind.i64 o0, Value.int IntKind.i64 o1, Value.int IntKind.i64 o2, Value.int IntKind.i64 o3, Value.int IntKind.i64 o4] 47 (0, 0))) := heap_alloc2_new _ _ _
  have HLT : Hid (w.heap.size + 1 < ((w.alloc (Obj.cells #[Value.int IntKind.i64 n, s] 26)).alloc (Obj.cells #[Value.int IntKind.i64 o0, Value.int IntKind.i64 o1, Value.int IntKind.i64 o2, Value.int IntKind.i64 o3, Value.int IntKind.i64 o4] 47)).heap.size) := by
    show _ < _
    simp
  cases h0 : inB o1 0 (n - 1)
  · go_enter Tryd.func46, Tryd.ntmps46
    go_wp2_with (first
      | (go_at_call 59
         refine (isPlace_any _ _ _ _ hn1 hn2).mono ?_
         rintro e w2 ⟨rfl, hb2⟩
         have BL := HB0.out.trans (hb2.mono HB0.out.size)
         obtain ⟨k0, k1, k2, k3, k4⟩ := cells5 (below_row hb2 HLT.out R0.out)
         clear hb2)
      | (go_at_call 23; refine (within_any _ _ _ _).mono ?_; rintro e w' ⟨rfl, rfl⟩)
      | (go_at_call 60; refine (hoursOk_any _ _ _).mono ?_; rintro e w' ⟨rfl, rfl⟩))
    go_ret
    exact ⟨ret_bool (by simp [vehIn, h0]), BL⟩
  · cases h1 : inB o2 0 1000
    · go_enter Tryd.func46, Tryd.ntmps46
      go_wp2_with (first
        | (go_at_call 59
           refine (isPlace_any _ _ _ _ hn1 hn2).mono ?_
           rintro e w2 ⟨rfl, hb2⟩
           have BL := HB0.out.trans (hb2.mono HB0.out.size)
           obtain ⟨k0, k1, k2, k3, k4⟩ := cells5 (below_row hb2 HLT.out R0.out)
           clear hb2)
        | (go_at_call 23; refine (within_any _ _ _ _).mono ?_; rintro e w' ⟨rfl, rfl⟩)
        | (go_at_call 60; refine (hoursOk_any _ _ _).mono ?_; rintro e w' ⟨rfl, rfl⟩))
      go_ret
      exact ⟨ret_bool (by simp [vehIn, h0, h1]), BL⟩
    · cases h2 : hoursB o3 o4
      · go_enter Tryd.func46, Tryd.ntmps46
        go_wp2_with (first
          | (go_at_call 59
             refine (isPlace_any _ _ _ _ hn1 hn2).mono ?_
             rintro e w2 ⟨rfl, hb2⟩
             have BL := HB0.out.trans (hb2.mono HB0.out.size)
             obtain ⟨k0, k1, k2, k3, k4⟩ := cells5 (below_row hb2 HLT.out R0.out)
             clear hb2)
          | (go_at_call 23; refine (within_any _ _ _ _).mono ?_; rintro e w' ⟨rfl, rfl⟩)
          | (go_at_call 60; refine (hoursOk_any _ _ _).mono ?_; rintro e w' ⟨rfl, rfl⟩))
        go_ret
        exact ⟨ret_bool (by simp [vehIn, h0, h1, h2]), BL⟩
      · go_enter Tryd.func46, Tryd.ntmps46
        go_wp2_with (first
          | (go_at_call 59
             refine (isPlace_any _ _ _ _ hn1 hn2).mono ?_
             rintro e w2 ⟨rfl, hb2⟩
             have BL := HB0.out.trans (hb2.mono HB0.out.size)
             obtain ⟨k0, k1, k2, k3, k4⟩ := cells5 (below_row hb2 HLT.out R0.out)
             clear hb2)
          | (go_at_call 23; refine (within_any _ _ _ _).mono ?_; rintro e w' ⟨rfl, rfl⟩)
          | (go_at_call 60; refine (hoursOk_any _ _ _).mono ?_; rintro e w' ⟨rfl, rfl⟩))
        go_ret
        exact ⟨ret_bool (by simp [vehIn, h0, h1, h2]), BL⟩

end Go.Proofs.YtaofpbmdloihgaaDoor

namespace Go.Proofs.YtaofpbmdloihgaaDoor
open Go.RowKit

set_option maxHeartbeats 1000000 in
theorem ordersOk_any (n fine : Int) (a ao av : Option Addr) (lt cap ko co kv cv : Nat) (zs : List Int) (w : World) (hn1 : 1 ≤ n) (hn2 : n ≤ 16) (hA : IntsAt w ao zs) (hl : zs.length = ko * 6) (hlen : ko ≤ 9223372036854775807) :
    Calls Tryd.prog 21 #[.agg #[.int .i64 n, .slice a lt cap, .slice ao ko co, .slice av kv cv, .int .i64 fine]] w fun e w' => e = .returned (.bool (ordsB n zs ko)) ∧ Below w.heap.size w w' := by
  have HB0 : Hid (Below w.heap.size w (w.alloc (Obj.cells #[Value.int IntKind.i64 n, Value.slice a lt cap, Value.slice ao ko co, Value.slice av kv cv, Value.int IntKind.i64 fine] 30))) := (Below.refl _ _).alloc (Nat.le_refl _) _
  have HA : Hid (IntsAt w ao zs) := hA
  have HL : Hid (zs.length = ko * 6) := hl
  clear hA hl
  by_cases hmany : ko ≤ 12
  · go_enter Tryd.func21, Tryd.ntmps21
    go_wp2_with fail
    go_loopw [3, 13] (fun l t wr => ∃ k : Nat, k ≤ ko ∧ t = .int .i64 k ∧ l = .int .i64 (ordsLast zs k) ∧ ordsTo n zs k ∧ Below w.heap.size w wr ∧ wr.heap[w.heap.size]? = some (.cells #[Value.int IntKind.i64 n, Value.slice a lt cap, Value.slice ao ko co, Value.slice av kv cv, Value.int IntKind.i64 fine] 30 (0, 0))) (fun _ t _ => ko - (intOf t).toNat)
    case atStart => exact ⟨0, Nat.zero_le _, rfl, rfl, ordsTo_zero _ _, HB0.out, heap_alloc_new _ _⟩
    case round =>
      obtain ⟨k, hk, rfl, rfl, ht, hb, g3⟩ := hrel
      have hbd := ordsLast_bd ht
      have HT : Hid _ := ht
      obtain ⟨c0, c1, c2, c3, c4⟩ := cells5 g3
      obtain ⟨l0, HL0⟩ : ∃ t, Hid (ordsLast zs k = t) := ⟨_, rfl⟩
      rw [HL0.out] at hbd ⊢
      have G3 : Hid _ := g3
      have HB : Hid _ := hb
      clear ht
      by_cases hlt : k < ko
      · obtain ⟨b, off, rfl, hcs⟩ := IntsAt.some (IntsAt.below HA.out hb) (j := k * 6) (by rw [HL.out]; omega)
        obtain ⟨r0, r1, r2, r3, r4, r5⟩ := row6_at hcs HL.out k hlt
        clear hcs g3 hb
        obtain ⟨o0, H0⟩ : ∃ t, Hid (og6 zs k 0 = t) := ⟨_, rfl⟩
        obtain ⟨o1, H1⟩ : ∃ t, Hid (og6 zs k 1 = t) := ⟨_, rfl⟩
        obtain ⟨o2, H2⟩ : ∃ t, Hid (og6 zs k 2 = t) := ⟨_, rfl⟩
        obtain ⟨o3, H3⟩ : ∃ t, Hid (og6 zs k 3 = t) := ⟨_, rfl⟩
        obtain ⟨o4, H4⟩ : ∃ t, Hid (og6 zs k 4 = t) := ⟨_, rfl⟩
        obtain ⟨o5, H5⟩ : ∃ t, Hid (og6 zs k 5 = t) := ⟨_, rfl⟩
        rw [H0.out] at r0
        rw [H1.out] at r1
        rw [H2.out] at r2
        rw [H3.out] at r3
        rw [H4.out] at r4
        rw [H5.out] at r5
        have hlb := block_lt_of_cell r0
        simp at hlb
        have HB1 : Hid (Below w.heap.size w (wr.alloc (Obj.cells #[Value.int IntKind.i64 o0, Value.int IntKind.i64 o1, Value.int IntKind.i64 o2, Value.int IntKind.i64 o3, Value.int IntKind.i64 o4, Value.int IntKind.i64 o5] 45))) := HB.out.alloc HB.out.size _
        have G31 : Hid ((wr.alloc (Obj.cells #[Value.int IntKind.i64 o0, Value.int IntKind.i64 o1, Value.int IntKind.i64 o2, Value.int IntKind.i64 o3, Value.int IntKind.i64 o4, Value.int IntKind.i64 o5] 45)).heap[w.heap.size]? = _) := (heap_alloc_old _ _ (row_lt G3.out)).trans G3.out
        have G41 : Hid ((wr.alloc (Obj.cells #[Value.int IntKind.i64 o0, Value.int IntKind.i64 o1, Value.int IntKind.i64 o2, Value.int IntKind.i64 o3, Value.int IntKind.i64 o4, Value.int IntKind.i64 o5] 45)).heap[wr.heap.size]? = _) := heap_alloc_new _ _
        have hlw := row_lt G3.out
        cases h1 : inB o0 (l0 + 1) 1000000000
        · have HN : Hid (ordsB n zs ko = false) := ordsB_bad hlt (ords_id_no (by rw [H0.out, HL0.out, h1]; simp))
          go_wp2_with (first
            | (go_at_call 23; refine (within_any _ _ _ _).mono ?_; rintro e w' ⟨rfl, rfl⟩))
          go_ret
          exact ⟨ret_bool HN.out.symm, HB1.out⟩
        · cases h2 : ordIn n o1 o2 o3 o4 o5
          · have HN : Hid (ordsB n zs ko = false) := ordsB_bad hlt (ords_id_no (by rw [H1.out, H2.out, H3.out, H4.out, H5.out, h2]; simp))
            go_wp2_with (first
              | (go_at_call 23; refine (within_any _ _ _ _).mono ?_; rintro e w' ⟨rfl, rfl⟩)
              | (go_at_call 45; refine (orderOk_any n _ _ _ _ _ _ _ _ hn1 hn2).mono ?_; rintro e w2 ⟨rfl, hb2⟩))
            go_ret
            exact ⟨ret_bool HN.out.symm, HB1.out.trans (hb2.mono HB1.out.size)⟩
          · have HS : Hid (ordsTo n zs (k + 1)) := by
              have := ords_id HT.out (by rw [H0.out, HL0.out]; exact h1) (by rw [H1.out, H2.out, H3.out, H4.out, H5.out]; exact h2)
              exact ordsTo_step HT.out this.1 this.2
            go_wp2_with (first
              | (go_at_call 23; refine (within_any _ _ _ _).mono ?_; rintro e w' ⟨rfl, rfl⟩)
              | (go_at_call 45; refine (orderOk_any n _ _ _ _ _ _ _ _ hn1 hn2).mono ?_; rintro e w2 ⟨rfl, hb2⟩; obtain ⟨q0, q1, q2, q3, q4, q5⟩ := cells6 (below_row hb2 (row_lt G41.out) G41.out)))
            obtain ⟨B2, R2⟩ := box_more hb2 HB1.out G31.out
            refine ⟨⟨k + 1, by omega, by go_num, by show _ = Value.int IntKind.i64 (og6 zs k 0); rw [H0.out], HS.out, B2, R2⟩, by simp [intOf]; omega⟩
      · have hkx : k = ko := by omega
        have HN : Hid (ordsB n zs ko = true) := ordsB_yes hmany (hkx ▸ HT.out)
        clear hkx g3 hb
        go_wp2
        go_ret
        exact ⟨ret_bool HN.out.symm, HB.out⟩
  · have HN : Hid (ordsB n zs ko = false) := ordsB_many hmany
    go_enter Tryd.func21, Tryd.ntmps21
    go_wp2
    go_ret
    exact ⟨ret_bool HN.out.symm, HB0.out⟩

set_option maxHeartbeats 1000000 in
theorem vehiclesOk_any (n fine : Int) (a ao av : Option Addr) (lt cap ko co kv cv : Nat) (zs : List Int) (w : World) (hn1 : 1 ≤ n) (hn2 : n ≤ 16) (hA : IntsAt w av zs) (hl : zs.length = kv * 5) (hlen : kv ≤ 9223372036854775807) :
    Calls Tryd.prog 22 #[.agg #[.int .i64 n, .slice a lt cap, .slice ao ko co, .slice av kv cv, .int .i64 fine]] w fun e w' => e = .returned (.bool (vehsB n zs kv)) ∧ Below w.heap.size w w' := by
  have HB0 : Hid (Below w.heap.size w (w.alloc (Obj.cells #[Value.int IntKind.i64 n, Value.slice a lt cap, Value.slice ao ko co, Value.slice av kv cv, Value.int IntKind.i64 fine] 30))) := (Below.refl _ _).alloc (Nat.le_refl _) _
  have HA : Hid (IntsAt w av zs) := hA
  have HL : Hid (zs.length = kv * 5) := hl
  clear hA hl
  by_cases hmany : kv ≤ 5
  · go_enter Tryd.func22, Tryd.ntmps22
    go_wp2_with fail
    go_loopw [3, 13] (fun l t wr => ∃ k : Nat, k ≤ kv ∧ t = .int .i64 k ∧ l = .int .i64 (vehsLast zs k) ∧ vehsTo n zs k ∧ Below w.heap.size w wr ∧ wr.heap[w.heap.size]? = some (.cells #[Value.int IntKind.i64 n, Value.slice a lt cap, Value.slice ao ko co, Value.slice av kv cv, Value.int IntKind.i64 fine] 30 (0, 0))) (fun _ t _ => kv - (intOf t).toNat)
    case atStart => exact ⟨0, Nat.zero_le _, rfl, rfl, vehsTo_zero _ _, HB0.out, heap_alloc_new _ _⟩
    case round =>
      obtain ⟨k, hk, rfl, rfl, ht, hb, g3⟩ := hrel
      have hbd := vehsLast_bd ht
      have HT : Hid _ := ht
      obtain ⟨c0, c1, c2, c3, c4⟩ := cells5 g3
      obtain ⟨l0, HL0⟩ : ∃ t, Hid (vehsLast zs k = t) := ⟨_, rfl⟩
      rw [HL0.out] at hbd ⊢
      have G3 : Hid _ := g3
      have HB : Hid _ := hb
      clear ht
      by_cases hlt : k < kv
      · obtain ⟨b, off, rfl, hcs⟩ := IntsAt.some (IntsAt.below HA.out hb) (j := k * 5) (by rw [HL.out]; omega)
        obtain ⟨r0, r1, r2, r3, r4⟩ := row5_at hcs HL.out k hlt
        clear hcs g3 hb
        obtain ⟨o0, H0⟩ : ∃ t, Hid (og5 zs k 0 = t) := ⟨_, rfl⟩
        obtain ⟨o1, H1⟩ : ∃ t, Hid (og5 zs k 1 = t) := ⟨_, rfl⟩
        obtain ⟨o2, H2⟩ : ∃ t, Hid (og5 zs k 2 = t) := ⟨_, rfl⟩
        obtain ⟨o3, H3⟩ : ∃ t, Hid (og5 zs k 3 = t) := ⟨_, rfl⟩
        obtain ⟨o4, H4⟩ : ∃ t, Hid (og5 zs k 4 = t) := ⟨_, rfl⟩
        rw [H0.out] at r0
        rw [H1.out] at r1
        rw [H2.out] at r2
        rw [H3.out] at r3
        rw [H4.out] at r4
        have hlb := block_lt_of_cell r0
        simp at hlb
        have HB1 : Hid (Below w.heap.size w (wr.alloc (Obj.cells #[Value.int IntKind.i64 o0, Value.int IntKind.i64 o1, Value.int IntKind.i64 o2, Value.int IntKind.i64 o3, Value.int IntKind.i64 o4] 47))) := HB.out.alloc HB.out.size _
        have G31 : Hid ((wr.alloc (Obj.cells #[Value.int IntKind.i64 o0, Value.int IntKind.i64 o1, Value.int IntKind.i64 o2, Value.int IntKind.i64 o3, Value.int IntKind.i64 o4] 47)).heap[w.heap.size]? = _) := (heap_alloc_old _ _ (row_lt G3.out)).trans G3.out
        have G41 : Hid ((wr.alloc (Obj.cells #[Value.int IntKind.i64 o0, Value.int IntKind.i64 o1, Value.int IntKind.i64 o2, Value.int IntKind.i64 o3, Value.int IntKind.i64 o4] 47)).heap[wr.heap.size]? = _) := heap_alloc_new _ _
        have hlw := row_lt G3.out
        cases h1 : inB o0 (l0 + 1) 1000000000
        · have HN : Hid (vehsB n zs kv = false) := vehsB_bad hlt (vehs_id_no (by rw [H0.out, HL0.out, h1]; simp))
          go_wp2_with (first
            | (go_at_call 23; refine (within_any _ _ _ _).mono ?_; rintro e w' ⟨rfl, rfl⟩))
          go_ret
          exact ⟨ret_bool HN.out.symm, HB1.out⟩
        · cases h2 : vehIn n o1 o2 o3 o4
          · have HN : Hid (vehsB n zs kv = false) := vehsB_bad hlt (vehs_id_no (by rw [H1.out, H2.out, H3.out, H4.out, h2]; simp))
            go_wp2_with (first
              | (go_at_call 23; refine (within_any _ _ _ _).mono ?_; rintro e w' ⟨rfl, rfl⟩)
              | (go_at_call 46; refine (vehicleOk_any n _ _ _ _ _ _ _ hn1 hn2).mono ?_; rintro e w2 ⟨rfl, hb2⟩))
            go_ret
            exact ⟨ret_bool HN.out.symm, HB1.out.trans (hb2.mono HB1.out.size)⟩
          · have HS : Hid (vehsTo n zs (k + 1)) := by
              have := vehs_id HT.out (by rw [H0.out, HL0.out]; exact h1) (by rw [H1.out, H2.out, H3.out, H4.out]; exact h2)
              exact vehsTo_step HT.out this.1 this.2
            go_wp2_with (first
              | (go_at_call 23; refine (within_any _ _ _ _).mono ?_; rintro e w' ⟨rfl, rfl⟩)
              | (go_at_call 46; refine (vehicleOk_any n _ _ _ _ _ _ _ hn1 hn2).mono ?_; rintro e w2 ⟨rfl, hb2⟩; obtain ⟨q0, q1, q2, q3, q4⟩ := cells5 (below_row hb2 (row_lt G41.out) G41.out)))
            obtain ⟨B2, R2⟩ := box_more hb2 HB1.out G31.out
            refine ⟨⟨k + 1, by omega, by go_num, by show _ = Value.int IntKind.i64 (og5 zs k 0); rw [H0.out], HS.out, B2, R2⟩, by simp [intOf]; omega⟩
      · have hkx : k = kv := by omega
        have HN : Hid (vehsB n zs kv = true) := vehsB_yes hmany (hkx ▸ HT.out)
        clear hkx g3 hb
        go_wp2
        go_ret
        exact ⟨ret_bool HN.out.symm, HB.out⟩
  · have HN : Hid (vehsB n zs kv = false) := vehsB_many hmany
    go_enter Tryd.func22, Tryd.ntmps22
    go_wp2
    go_ret
    exact ⟨ret_bool HN.out.symm, HB0.out⟩

end Go.Proofs.YtaofpbmdloihgaaDoor

namespace Go.Proofs.YtaofpbmdloihgaaDoor
open Go.RowKit

theorem Tryd.info41 : (Tryd.prog.info? 86).map (fun i => (i.zero, i.size)) = some (some (.agg (cellsOf zeros)), 256) := by kernel_rfl

/-- The world inside gridOf: the boxed matrix, the result's cells, the grid's. -/
def GW (w wr : World) (n : Nat) (a : Option Addr) (cap : Nat) (z0 : Array Value) (gl : List Int) : Prop :=
  wr.heap.size = w.heap.size + 3 ∧ Below w.heap.size w wr ∧ wr.heap[w.heap.size]? = some (.cells #[.int .i64 n, .slice a (n * n) cap] 26 (0, 0)) ∧
  wr.heap[w.heap.size + 1]? = some (.cells z0 86 (0, 0)) ∧ wr.heap[w.heap.size + 1 + 1]? = some (.cells (cellsOf gl) 86 (0, 0))

theorem GW.step {w wr : World} {n : Nat} {a : Option Addr} {cap : Nat} {z0 : Array Value} {zs : List Int} {x y : Nat} {t : Int} (h : GW w wr n a cap z0 (gridTo n zs x y)) (hx : x < n) (hy : y < n) (hn : n ≤ 16) (ht : zs.getD (x * n + y) 0 = t) :
    GW w (wr.setCell ⟨w.heap.size + 1 + 1, x * 16 + y, none⟩ (.int .i64 t)) n a cap z0 (gridTo n zs x (y + 1)) := by
  obtain ⟨g1, g2, g3, g4, g5⟩ := h
  refine ⟨by simpa [World.setCell] using g1, g2.setCell (by simp; omega) _, ?_, ?_, ?_⟩
  · rw [heap_setCell_other _ _ _ _ (by simp; omega)]; exact g3
  · rw [heap_setCell_other _ _ _ _ (by simp)]; exact g4
  · rw [heap_setCell_same _ _ _ _ _ _ g5, cellsOf_set, ← ht, gridTo_step n zs x y hx hy hn]

theorem size41 : (Tryd.prog.info? 86).map (·.size) = some 256 := (zero_of_info Tryd.info41).2

theorem size41_of {l : List Int} (h : l.length = 256) : (Tryd.prog.info? 86).map (·.size) = some (cellsOf l).size := by
  rw [cellsOf_size, h]; exact size41

theorem ret_grid (tmps : Array Value) (W : World) (g : Nat) (l : List Int) (b : Bool) (hl : l.length = 256)
    (hp : tmps.getD 2 undef = .pointer (some ⟨g, 0, none⟩)) (hb : tmps.getD 3 undef = .bool b) (hg : W.heap[g]? = some (.cells (cellsOf l) 86 (0, 0))) :
    (results Tryd.f44 tmps).run Tryd.prog W = .ok (.tuple #[.agg (cellsOf l), .bool b]) W := by
  rw [results_cell_tmp Tryd.results44, hp, hb]
  simp only [asAddr, Sem.run_pure, Result.andThen_ok, run_loadVar_row W g 86 86 (cellsOf l) (0, 0) _ hg Tryd.underlying86 rfl (size41_of hl)]

set_option maxHeartbeats 1000000 in
theorem grid_loop (n : Nat) (a : Option Addr) (cap : Nat) (zs : List Int) (w : World) (h1 : 1 ≤ n) (h2 : n ≤ 16) (hl : zs.length = n * n) (hA : IntsAt w a zs) :
    Calls Tryd.prog 44 #[.agg #[.int .i64 n, .slice a zs.length cap]] w fun e w' => e = .returned (.tuple #[.agg (cellsOf (gridRes n zs)), .bool (matB n zs)]) ∧ Below w.heap.size w w' := by
    have hz := (zero_of_info Tryd.info41).1
    generalize hz0 : cellsOf zeros = z0 at hz
    have HZ : Hid (cellsOf zeros = z0) := hz0
    clear hz0
    have hnn : n * n ≤ 256 := mul_bd n n h2 h2
    have hd1 : inB (n : Int) 1 16 = true := inB_mk (by omega)
    have hnw : wrap64 ((n : Int) * (n : Int)) = (n : Int) * (n : Int) := IntWalk.wrap64_in _ (by rw [← Int.natCast_mul]; omega)
    have HA : Hid (IntsAt w a zs) := hA
    clear hA
    rw [hl]
    have HL : Hid (zs.length = n * n) := hl
    clear hl
    go_enter Tryd.func44, Tryd.ntmps44
    go_wp2_with (go_at_call 23; refine (within_any _ _ _ _).mono ?_; rintro e w' ⟨rfl, rfl⟩)
    go_loopw [26] (fun t wr => ∃ x : Nat, x ≤ n ∧ t = .int .i64 x ∧ GW w wr n a cap z0 (gridTo n zs x 0) ∧ okTo n zs x 0) (fun t _ => n - (intOf t).toNat)
    case atStart =>
      refine ⟨0, Nat.zero_le _, rfl, ⟨by simp, ?_, ?_, ?_, ?_⟩, okTo_zero _ _⟩
      · exact (((Below.refl _ _).alloc (Nat.le_refl _) _).alloc (by simp) _).alloc (by simp; omega) _
      · rw [heap_alloc_old _ _ (by simp; omega), heap_alloc_old _ _ (by simp)]
        exact heap_alloc_new _ _
      · rw [heap_alloc_old _ _ (by simp)]
        exact heap_alloc2_new _ _ _
      · rw [gridTo_zero, HZ.out]
        have := heap_alloc_new ((w.alloc (Obj.cells #[Value.int IntKind.i64 n, Value.slice a (n * n) cap] 26)).alloc (Obj.cells z0 86)) (Obj.cells z0 86)
        simpa using this
    case round =>
      obtain ⟨x, hx, rfl, hG, hok⟩ := hrel
      obtain ⟨g1, g2, g3, g4, g5⟩ := hG
      have c0 := cell_of_row _ _ 0 _ _ _ g3
      have c1 := cell_of_row _ _ 1 _ _ _ g3
      simp at c0 c1
      by_cases hlt : x < n
      · have G4 : Hid _ := g4
        have G5 : Hid _ := g5
        have HO : Hid _ := hok
        clear g4 g5 hok
        go_wp2_with fail
        go_loopw [31] (fun t wr => ∃ y : Nat, y ≤ n ∧ t = .int .i64 y ∧ GW w wr n a cap z0 (gridTo n zs x y) ∧ okTo n zs x y) (fun t _ => n - (intOf t).toNat)
        case atStart => exact ⟨0, Nat.zero_le _, rfl, ⟨g1, g2, g3, G4.out, G5.out⟩, HO.out⟩
        case round =>
          clear g1 g2 g3 c0 c1 G4 G5 HO
          obtain ⟨y, hy, rfl, hG, hok⟩ := hrel
          have HG : Hid (GW w wr n a cap z0 (gridTo n zs x y)) := hG
          obtain ⟨g1, g2, g3, g4, g5⟩ := hG
          have c0 := cell_of_row _ _ 0 _ _ _ g3
          have c1 := cell_of_row _ _ 1 _ _ _ g3
          simp at c0 c1
          by_cases hylt : y < n
          · have hxy : x * n + y < n * n := by
              have := Nat.mul_le_mul_right n (show x + 1 ≤ n by omega)
              rw [Nat.add_mul] at this
              omega
            obtain ⟨bb, off, rfl, hcs⟩ := IntsAt.some (IntsAt.below HA.out g2) (j := x * n + y) (by rw [HL.out]; exact hxy)
            have ct := hcs (x * n + y) (by rw [HL.out]; exact hxy)
            clear hcs
            generalize htt : zs.getD (x * n + y) 0 = t at ct
            have HT : Hid (zs.getD (x * n + y) 0 = t) := htt
            clear htt
            have cg := cell_of_row _ _ (x * 16 + y) _ _ _ g5
            rw [cellsOf_get _ _ (by rw [gridTo_length]; omega)] at cg
            have fg := frozen_of_row _ _ (x * 16 + y) _ _ g5
            have HO : Hid (okTo n zs x y) := hok
            clear hok
            have hwm : wrap64 ((x : Int) * (n : Int)) = (x : Int) * (n : Int) := IntWalk.wrap64_in _ (by rw [← Int.natCast_mul]; omega)
            by_cases hgood : 0 ≤ t ∧ t ≤ 10000 ∧ (x = y → t = 0)
            · have hvd : inB t 0 10000 = true := inB_mk (by omega)
              have HS : Hid (okTo n zs x (y + 1)) := okTo_step HO.out (by rw [HT.out]; exact hgood.1) (by rw [HT.out]; exact hgood.2.1) (by rw [HT.out]; exact hgood.2.2)
              clear HO g3 g4 g5 g2 g1
              by_cases hxe : x = y
              · have hne : ((x : Int) == (y : Int)) = true := by simp; omega
                have hne' : ((y : Int) == (y : Int)) = true := by simp
                have ht0 : (t != 0) = false := by simp [hgood.2.2 hxe]
                have HXE : Hid (x = y) := hxe
                clear hgood hxe
                go_wp2_with (first
                  | (go_at_call 23; refine (within_any _ _ _ _).mono ?_; rintro e w' ⟨rfl, rfl⟩))
                refine ⟨⟨y + 1, by omega, by go_num, HG.out.step hlt hylt h2 HT.out, HS.out⟩, by simp [intOf]; omega⟩
              · have hne : ((x : Int) == (y : Int)) = false := by simp; omega
                clear hgood hxe
                go_wp2_with (first
                  | (go_at_call 23; refine (within_any _ _ _ _).mono ?_; rintro e w' ⟨rfl, rfl⟩))
                refine ⟨⟨y + 1, by omega, by go_num, HG.out.step hlt hylt h2 HT.out, HS.out⟩, by simp [intOf]; omega⟩
            · have HB : Hid (matB n zs = false) := matB_bad n zs x y hlt hylt HL.out (by rw [HT.out]; exact hgood)
              have hzz : ∀ (wr : World), wr.heap[w.heap.size + 1]? = some (.cells z0 86 (0, 0)) → True := fun _ _ => trivial
              clear HO g3 g5 g1 hzz
              by_cases hv : 0 ≤ t ∧ t ≤ 10000
              · have hvd : inB t 0 10000 = true := inB_mk (by omega)
                have hxe : x = y := by omega
                have hne : ((x : Int) == (y : Int)) = true := by simp; omega
                have ht0 : (t != 0) = true := by simp; omega
                clear hgood hxe hv
                go_wp2_with (first
                  | (go_at_call 23; refine (within_any _ _ _ _).mono ?_; rintro e w' ⟨rfl, rfl⟩)
                  | (refine wpList_store_row rfl 86 (.tmp 2) (.tmp 56) rfl (w.heap.size + 1) z0 rfl rfl 86 z0 g4 (by rw [← HZ.out]; exact size41_of zeros_length) rfl (by rw [← HZ.out]; exact cellsOf_one _) ?_))
                refine bodyPost_ret (v := .tuple #[.agg (cellsOf zeros), .bool false]) (ret_grid _ _ (w.heap.size + 1) zeros false zeros_length rfl rfl ?_) rfl ⟨?_, ?_⟩
                · rw [HZ.out]; exact setRow_heap _ _ _ _ _ _ g4
                · exact ret_grid_eq (by rw [gridRes_false HB.out]) HB.out.symm
                · exact below_setRow g2 (by omega) _
              · have hvd : inB t 0 10000 = false := inB_not hv
                clear hgood hv
                go_wp2_with (first
                  | (go_at_call 23; refine (within_any _ _ _ _).mono ?_; rintro e w' ⟨rfl, rfl⟩)
                  | (refine wpList_store_row rfl 86 (.tmp 2) (.tmp 56) rfl (w.heap.size + 1) z0 rfl rfl 86 z0 g4 (by rw [← HZ.out]; exact size41_of zeros_length) rfl (by rw [← HZ.out]; exact cellsOf_one _) ?_))
                refine bodyPost_ret (v := .tuple #[.agg (cellsOf zeros), .bool false]) (ret_grid _ _ (w.heap.size + 1) zeros false zeros_length rfl rfl ?_) rfl ⟨?_, ?_⟩
                · rw [HZ.out]; exact setRow_heap _ _ _ _ _ _ g4
                · exact ret_grid_eq (by rw [gridRes_false HB.out]) HB.out.symm
                · exact below_setRow g2 (by omega) _
          · have hye : y = n := by omega
            have HO : Hid (okTo n zs (x + 1) 0) := okTo_row (hye ▸ hok)
            have HG' : Hid (GW w wr n a cap z0 (gridTo n zs (x + 1) 0)) := by
              have := HG.out
              rw [hye, gridTo_row] at this
              exact this
            clear hok hye HG g3 g4 g5
            go_wp2_with fail
            refine ⟨⟨x + 1, by omega, by go_num, HG'.out, HO.out⟩, by simp [intOf]; omega⟩
      · have hge : n ≤ x := by omega
        have Hxn : Hid (x = n) := by show x = n; omega
        go_wp2_with (first
          | (refine wpList_load_row rfl 86 (.tmp 4) rfl (w.heap.size + 1 + 1) rfl 86 (cellsOf (gridTo n zs x 0)) (0, 0) _ g5 Tryd.underlying86 rfl (size41_of (gridTo_length _ _ _ _)) ?_)
          | (refine wpList_store_row rfl 86 (.tmp 2) (.tmp 64) rfl (w.heap.size + 1) (cellsOf (gridTo n zs x 0)) rfl rfl 86 z0 g4 (size41_of (gridTo_length _ _ _ _)) (by rw [← HZ.out, cellsOf_size, cellsOf_size, zeros_length, gridTo_length]) (cellsOf_one _) ?_))
        refine bodyPost_ret (v := .tuple #[.agg (cellsOf (gridTo n zs x 0)), .bool true]) (ret_grid _ _ (w.heap.size + 1) (gridTo n zs x 0) true (gridTo_length _ _ _ _) rfl rfl ?_) rfl ⟨?_, ?_⟩
        · exact setRow_heap _ _ _ _ _ _ g4
        · have e := Hxn.out
          have hm := matB_of_okTo n zs h1 h2 HL.out (e ▸ hok)
          exact ret_grid_eq (by rw [gridRes_true hm, e]) hm.symm
        · exact below_setRow g2 (by omega) _

set_option maxHeartbeats 1000000 in
theorem grid_out (n : Int) (a : Option Addr) (len cap : Nat) (w : World) (hn : ¬ (1 ≤ n ∧ n ≤ 16)) :
    Calls Tryd.prog 44 #[.agg #[.int .i64 n, .slice a len cap]] w fun e w' => e = .returned (.tuple #[.agg (cellsOf zeros), .bool false]) ∧ Below w.heap.size w w' := by
  have hz := (zero_of_info Tryd.info41).1
  generalize hz0 : cellsOf zeros = z0 at hz
  have HZ : Hid (cellsOf zeros = z0) := hz0
  clear hz0
  have hd1 : inB n 1 16 = false := inB_not hn
  clear hn
  go_enter Tryd.func44, Tryd.ntmps44
  go_wp2_with fail
  refine (within_any _ _ _ _).mono ?_; rintro e w' ⟨rfl, rfl⟩
  have HG4 : Hid (((((w.alloc (Obj.cells #[Value.int IntKind.i64 n, Value.slice a len cap] 26)).alloc (Obj.cells z0 86)).alloc (Obj.cells z0 86)).heap)[w.heap.size + 1]? = some (.cells z0 86 (0, 0))) := by
    show _ = _
    rw [heap_alloc_old _ _ (by simp)]
    exact heap_alloc2_new _ _ _
  go_wp2_with (
    with_reducible refine wpList_store_row ?_ 86 (.tmp 2) (.tmp 23) ?_ (w.heap.size + 1) z0 ?_ ?_ 86 z0 ?_ ?_ ?_ ?_ ?_
    · rfl
    · rfl
    · rfl
    · rfl
    · exact HG4.out
    · rw [← HZ.out]; exact size41_of zeros_length
    · rfl
    · rw [← HZ.out]; exact cellsOf_one _)
  refine bodyPost_ret (v := .tuple #[.agg (cellsOf zeros), .bool false]) (ret_grid _ _ (w.heap.size + 1) zeros false zeros_length rfl rfl ?_) rfl ⟨by rw [HZ.out], ?_⟩
  · rw [HZ.out]; exact setRow_heap _ _ _ _ _ _ HG4.out
  · exact below_setRow ((((Below.refl _ _).alloc (Nat.le_refl _) _).alloc (by simp) _).alloc (by simp; omega) _) (by omega) _

set_option maxHeartbeats 1000000 in
theorem grid_len (n : Nat) (a : Option Addr) (len cap : Nat) (w : World) (h1 : 1 ≤ n) (h2 : n ≤ 16) (hl : len ≠ n * n) :
    Calls Tryd.prog 44 #[.agg #[.int .i64 n, .slice a len cap]] w fun e w' => e = .returned (.tuple #[.agg (cellsOf zeros), .bool false]) ∧ Below w.heap.size w w' := by
  have hz := (zero_of_info Tryd.info41).1
  generalize hz0 : cellsOf zeros = z0 at hz
  have HZ : Hid (cellsOf zeros = z0) := hz0
  clear hz0
  have hnn : n * n ≤ 256 := mul_bd n n h2 h2
  have hd1 : inB (n : Int) 1 16 = true := inB_mk (by omega)
  have hnw : wrap64 ((n : Int) * (n : Int)) = (n : Int) * (n : Int) := IntWalk.wrap64_in _ (by rw [← Int.natCast_mul]; omega)
  have hne : ((len : Int) != (n : Int) * (n : Int)) = true := by rw [bne_iff_ne, ← Int.natCast_mul]; omega
  have G4 : ((((w.alloc (Obj.cells #[Value.int IntKind.i64 n, .slice a len cap] 26)).alloc (Obj.cells z0 86)).alloc (Obj.cells z0 86)).heap)[w.heap.size + 1]? = some (.cells z0 86 (0, 0)) := by
    rw [heap_alloc_old _ _ (by simp)]
    exact heap_alloc2_new _ _ _
  have HG4 : Hid _ := G4
  clear G4 hl
  go_enter Tryd.func44, Tryd.ntmps44
  go_wp2_with (first
    | (go_at_call 23; refine (within_any _ _ _ _).mono ?_; rintro e w' ⟨rfl, rfl⟩)
    | (refine wpList_store_row rfl 86 (.tmp 2) (.tmp 23) rfl (w.heap.size + 1) z0 rfl rfl 86 z0 HG4.out (by rw [← HZ.out]; exact size41_of zeros_length) rfl (by rw [← HZ.out]; exact cellsOf_one _) ?_))
  refine bodyPost_ret (v := .tuple #[.agg (cellsOf zeros), .bool false]) (ret_grid _ _ (w.heap.size + 1) zeros false zeros_length rfl rfl ?_) rfl ⟨by rw [HZ.out], ?_⟩
  · rw [HZ.out]; exact setRow_heap _ _ _ _ _ _ HG4.out
  · exact below_setRow ((((Below.refl _ _).alloc (Nat.le_refl _) _).alloc (by simp) _).alloc (by simp; omega) _) (by omega) _

theorem grid_any (n : Int) (a : Option Addr) (cap : Nat) (zs : List Int) (w : World) (hA : IntsAt w a zs) :
    Calls Tryd.prog 44 #[.agg #[.int .i64 n, .slice a zs.length cap]] w fun e w' => e = .returned (.tuple #[.agg (cellsOf (gridRes n zs)), .bool (matB n zs)]) ∧ Below w.heap.size w w' := by
  by_cases hn : 1 ≤ n ∧ n ≤ 16
  · obtain ⟨m, rfl⟩ := Int.eq_ofNat_of_zero_le (show 0 ≤ n by omega)
    by_cases hl : zs.length = m * m
    · exact grid_loop m a cap zs w (by omega) (by omega) hl hA
    · have hm : matB (m : Int) zs = false := matB_not fun h => hl (by have := h.2.2.1; rw [← Int.natCast_mul] at this; omega)
      rw [gridRes_false hm, hm]
      exact grid_len m a zs.length cap w (by omega) (by omega) hl
  · have hm : matB n zs = false := matB_not fun h => hn ⟨h.1, h.2.1⟩
    rw [gridRes_false hm, hm]
    exact grid_out n _ _ _ w hn

end Go.Proofs.YtaofpbmdloihgaaDoor

namespace Go.Proofs.YtaofpbmdloihgaaDoor
open Go.RowKit

set_option maxHeartbeats 400000 in
theorem implMat_any (n : Int) (a : Option Addr) (cap : Nat) (zs : List Int) (w : World) (hA : IntsAt w a zs) :
    Calls Tryd.prog 20 #[.agg #[.int .i64 n, .slice a zs.length cap]] w fun e w' => e = .returned (.bool (matB n zs)) ∧ Below w.heap.size w w' := by
  have HB0 : Hid (Below w.heap.size w (w.alloc (Obj.cells #[Value.int IntKind.i64 n, Value.slice a zs.length cap] 26))) :=
    (Below.refl _ _).alloc (Nat.le_refl _) _
  have HA : Hid (IntsAt w a zs) := hA
  clear hA
  have hz := (zero_of_info Tryd.info41).1
  go_enter Tryd.func20, Tryd.ntmps20
  go_wp2_with fail
  refine (grid_any n a cap zs _ (HA.out.below HB0.out)).mono ?_
  rintro e w1 ⟨rfl, hb⟩
  have HB1 : Hid _ := hb
  clear hb
  generalize hz0 : cellsOf zeros = z0 at hz
  have HZ : Hid (cellsOf zeros = z0) := hz0
  clear hz0
  generalize hgr : cellsOf (gridRes n zs) = gr
  have HGR : Hid (cellsOf (gridRes n zs) = gr) := hgr
  clear hgr
  go_wp2_with (
    with_reducible refine wpList_store_row ?_ 86 (.tmp 3) (.tmp 8) ?_ w1.heap.size gr ?_ ?_ 86 z0 ?_ ?_ ?_ ?_ ?_
    · rfl
    · rfl
    · rfl
    · rfl
    · exact heap_alloc_new _ _
    · rw [← HGR.out]; exact size41_of (gridRes_length _ _)
    · rw [← HZ.out, ← HGR.out, cellsOf_size, cellsOf_size, zeros_length, gridRes_length]
    · rw [← HGR.out]; exact cellsOf_one _)
  go_ret
  refine ⟨rfl, below_setRow ((HB0.out.trans (HB1.out.mono (by simp <;> omega))).alloc ?_ _) ?_ _⟩
  all_goals
    have := HB1.out.size
    simp at this
    omega

end Go.Proofs.YtaofpbmdloihgaaDoor

namespace Go.Proofs.YtaofpbmdloihgaaDoor
open Go.RowKit

set_option maxHeartbeats 1000000 in
theorem implCase_any (n fine : Int) (a ao av : Option Addr) (cap ko co kv cv : Nat) (zs os vs : List Int) (w : World) (hA : IntsAt w a zs) (hO : IntsAt w ao os) (hV : IntsAt w av vs) (hlo : os.length = ko * 6) (hlv : vs.length = kv * 5) (hko : ko ≤ 9223372036854775807) (hkv : kv ≤ 9223372036854775807) :
    Calls Tryd.prog 9 #[.agg #[.int .i64 n, .slice a zs.length cap, .slice ao ko co, .slice av kv cv, .int .i64 fine]] w fun e w' => e = .returned (.bool (caseB n zs os vs ko kv fine)) ∧ Below w.heap.size w w' := by
  have HB0 : Hid (Below w.heap.size w (w.alloc (Obj.cells #[Value.int IntKind.i64 n, Value.slice a zs.length cap, Value.slice ao ko co, Value.slice av kv cv, Value.int IntKind.i64 fine] 30))) := (Below.refl _ _).alloc (Nat.le_refl _) _
  have HA : Hid (IntsAt w a zs) := hA
  have HO : Hid (IntsAt w ao os) := hO
  have HV : Hid (IntsAt w av vs) := hV
  have HLO : Hid _ := hlo
  have HLV : Hid _ := hlv
  clear hA hO hV hlo hlv
  cases h1 : matB n zs
  · have HM : Hid _ := h1
    have HC : Hid (caseB n zs os vs ko kv fine = false) := by show _ = _; simp [caseB, h1]
    clear h1
    go_enter Tryd.func9, Tryd.ntmps9
    go_wp2_with fail
    refine (implMat_any n a cap zs _ (HA.out.below HB0.out)).mono ?_
    rintro e w1 ⟨rfl, hb⟩
    rw [HM.out]
    obtain ⟨b1, r1⟩ := box5 hb
    clear hb
    go_wp2
    go_ret
    exact ⟨ret_bool HC.out.symm, b1⟩
  · obtain ⟨hn1, hn2, _, _⟩ := matB_true h1
    have HM : Hid _ := h1
    cases h2 : ordsB n os ko
    · have HC : Hid (caseB n zs os vs ko kv fine = false) := by show _ = _; simp [caseB, h1, h2]
      have HO2 : Hid _ := h2
      clear h1 h2
      go_enter Tryd.func9, Tryd.ntmps9
      go_wp2_with fail
      refine (implMat_any n a cap zs _ (HA.out.below HB0.out)).mono ?_
      rintro e w1 ⟨rfl, hb⟩
      rw [HM.out]
      obtain ⟨b1, r1⟩ := box5 hb
      obtain ⟨c0, c1, c2, c3, c4⟩ := cells5 r1
      have B1 : Hid _ := b1
      clear hb b1 r1
      go_wp2_with fail
      refine (ordersOk_any n fine a ao av _ _ _ _ _ _ os _ hn1 hn2 (HO.out.below B1.out) HLO.out hko).mono ?_
      rintro e w2 ⟨rfl, hb⟩
      rw [HO2.out]
      go_wp2
      go_ret
      exact ⟨ret_bool HC.out.symm, B1.out.trans (hb.mono B1.out.size)⟩
    · have HO2 : Hid _ := h2
      cases h3 : vehsB n vs kv
      · have HC : Hid (caseB n zs os vs ko kv fine = false) := by show _ = _; simp [caseB, h1, h2, h3]
        have HV2 : Hid _ := h3
        clear h1 h2 h3
        go_enter Tryd.func9, Tryd.ntmps9
        go_wp2_with fail
        refine (implMat_any n a cap zs _ (HA.out.below HB0.out)).mono ?_
        rintro e w1 ⟨rfl, hb⟩
        rw [HM.out]
        obtain ⟨b1, r1⟩ := box5 hb
        obtain ⟨c0, c1, c2, c3, c4⟩ := cells5 r1
        have B1 : Hid _ := b1
        have R1 : Hid _ := r1
        clear hb b1 r1
        go_wp2_with fail
        refine (ordersOk_any n fine a ao av _ _ _ _ _ _ os _ hn1 hn2 (HO.out.below B1.out) HLO.out hko).mono ?_
        rintro e w2 ⟨rfl, hb⟩
        rw [HO2.out]
        obtain ⟨b2, r2⟩ := box_more hb B1.out R1.out
        clear c0 c1 c2 c3 c4
        obtain ⟨c0, c1, c2, c3, c4⟩ := cells5 r2
        have B2 : Hid _ := b2
        clear hb b2 r2
        go_wp2_with fail
        refine (vehiclesOk_any n fine a ao av _ _ _ _ _ _ vs _ hn1 hn2 (HV.out.below B2.out) HLV.out hkv).mono ?_
        rintro e w3 ⟨rfl, hb⟩
        rw [HV2.out]
        go_wp2
        go_ret
        exact ⟨ret_bool HC.out.symm, B2.out.trans (hb.mono B2.out.size)⟩
      · have HC : Hid (caseB n zs os vs ko kv fine = inB fine 0 1000000) := by show _ = _; simp [caseB, h1, h2, h3]
        have HV2 : Hid _ := h3
        clear h1 h2 h3
        go_enter Tryd.func9, Tryd.ntmps9
        go_wp2_with fail
        refine (implMat_any n a cap zs _ (HA.out.below HB0.out)).mono ?_
        rintro e w1 ⟨rfl, hb⟩
        rw [HM.out]
        obtain ⟨b1, r1⟩ := box5 hb
        obtain ⟨c0, c1, c2, c3, c4⟩ := cells5 r1
        have B1 : Hid _ := b1
        have R1 : Hid _ := r1
        clear hb b1 r1
        go_wp2_with fail
        refine (ordersOk_any n fine a ao av _ _ _ _ _ _ os _ hn1 hn2 (HO.out.below B1.out) HLO.out hko).mono ?_
        rintro e w2 ⟨rfl, hb⟩
        rw [HO2.out]
        obtain ⟨b2, r2⟩ := box_more hb B1.out R1.out
        clear c0 c1 c2 c3 c4
        obtain ⟨c0, c1, c2, c3, c4⟩ := cells5 r2
        have B2 : Hid _ := b2
        have R2 : Hid _ := r2
        clear hb b2 r2
        go_wp2_with fail
        refine (vehiclesOk_any n fine a ao av _ _ _ _ _ _ vs _ hn1 hn2 (HV.out.below B2.out) HLV.out hkv).mono ?_
        rintro e w3 ⟨rfl, hb⟩
        rw [HV2.out]
        obtain ⟨b3, r3⟩ := box_more hb B2.out R2.out
        clear c0 c1 c2 c3 c4
        obtain ⟨c0, c1, c2, c3, c4⟩ := cells5 r3
        clear hb r3
        go_wp2_with (go_at_call 23; refine (within_any _ _ _ _).mono ?_; rintro e w' ⟨rfl, rfl⟩)
        go_ret
        exact ⟨ret_bool HC.out.symm, b3⟩

end Go.Proofs.YtaofpbmdloihgaaDoor
