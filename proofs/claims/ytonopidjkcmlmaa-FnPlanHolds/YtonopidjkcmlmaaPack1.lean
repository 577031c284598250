import Derived.Test.YtonopidjkcmlmaaPack0
import Derived.Test.YtonopidjkcmlmaaRows
import Derived.WalkKit
import Derived.WalkSpells
import Derived.WalkLawsBesides
import Derived.Deep.QuietTactic
import Derived.BigQuiet
import Derived.Deep.RegionWith
import Derived.Deep.RegionHeld3
import Derived.Deep.WholeRow
namespace Go.Proofs.Ytonopidjkcmlmaa
end Go.Proofs.Ytonopidjkcmlmaa

namespace Go.Proofs.Ytonopidjkcmlmaa
open Go.RowKit

theorem cells2 {w : World} {k : Nat} {c0 c1 : Value} {T : TypeId} (r : w.heap[k]? = some (.cells #[c0, c1] T (0, 0))) :
    w.cell? ⟨k, 0, none⟩ = some c0 ∧ w.cell? ⟨k, 1, none⟩ = some c1 := by
  refine ⟨?_, ?_⟩
  · rw [cell_of_row _ _ 0 _ _ _ r]; simp
  · rw [cell_of_row _ _ 1 _ _ _ r]; simp

end Go.Proofs.Ytonopidjkcmlmaa

namespace Go.Proofs.Ytonopidjkcmlmaa
open Go.RowKit

theorem grown_set (W : World) (g i : Nat) (v : Value) : W.grownBy (W.setCell ⟨g, i, none⟩ v) (some g) :=
  ⟨rfl, rfl, rfl, by simp [World.setCell], fun b _ hne => heap_setCell_other W ⟨g, i, none⟩ b v (fun e => hne (by rw [e]))⟩
theorem grown_trans {w w1 w2 : World} {g : Nat} (h1 : w.grownBy w1 (some g)) (h2 : w1.grownBy w2 (some g)) : w.grownBy w2 (some g) :=
  ⟨h2.os.trans h1.os, h2.tape.trans h1.tape, h2.output.trans h1.output, Nat.le_trans h1.size h2.size, fun b hb hne => (h2.block b (Nat.lt_of_lt_of_le hb h1.size) hne).trans (h1.block b hb hne)⟩
theorem grown_refl (w : World) (g : Nat) : w.grownBy w (some g) := ⟨rfl, rfl, rfl, Nat.le_refl _, fun _ _ _ => rfl⟩

end Go.Proofs.Ytonopidjkcmlmaa

namespace Go.Proofs.Ytonopidjkcmlmaa
open Go.RowKit

/-- The slice at 'a' holds the bytes bs, none of them in block q. -/
def BytesAt (w : World) (q : Nat) (a : Option Addr) (bs : List Int) : Prop :=
  ∀ j, j < bs.length → ∃ b off, a = some ⟨b, off, none⟩ ∧ b ≠ q ∧ w.cell? ⟨b, off + j, none⟩ = some (.int .u8 (bs.getD j 0)) ∧ 0 ≤ bs.getD j 0 ∧ bs.getD j 0 < 256
/-- A reader of drawn bytes in block q: its bytes, and how many it has read. -/
def RD (w : World) (q : Nat) (a : Option Addr) (bs : List Int) (c p : Nat) : Prop :=
  w.heap[q]? = some (.cells #[.slice a bs.length c, .int .i64 p] 102 (0, 0)) ∧ p ≤ bs.length ∧ BytesAt w q a bs ∧ bs.length ≤ 1048576
theorem BytesAt.grown {w w' : World} {q : Nat} {a : Option Addr} {bs : List Int} (h : BytesAt w q a bs) (hg : w.grownBy w' (some q)) : BytesAt w' q a bs := by
  intro j hj
  obtain ⟨b, off, e, hne, hc, hv⟩ := h j hj
  refine ⟨b, off, e, hne, ?_, hv⟩
  have hlt := block_lt_of_cell hc
  rw [World.cell?_of_block (hg.block b hlt (fun e => hne (by simpa using e)))]
  exact hc
theorem RD.below {w w' : World} {q : Nat} {a : Option Addr} {bs : List Int} {c p : Nat} (h : RD w q a bs c p) (hb : Below w.heap.size w w') : RD w' q a bs c p := by
  refine ⟨below_row hb (row_lt h.1) h.1, h.2.1, fun j hj => ?_, h.2.2.2⟩
  obtain ⟨b, off, e, hne, hc, hv⟩ := h.2.2.1 j hj
  exact ⟨b, off, e, hne, (hb.cell (p := ⟨b, off + j, none⟩) (block_lt_of_cell hc)).trans hc, hv⟩
theorem RD.put {w : World} {q : Nat} {a : Option Addr} {bs : List Int} {c p p' : Nat} (h : RD w q a bs c p) (hp : p' ≤ bs.length) : RD (w.setCell ⟨q, 1, none⟩ (.int .i64 p')) q a bs c p' := by
  refine ⟨?_, hp, h.2.2.1.grown (grown_set w q 1 _), h.2.2.2⟩
  have := heap_setCell_same w q 1 _ _ (Value.int .i64 p') h.1
  simpa using this
/-- What a draw answers: a number that is at least lo and below hi; the reader alone has changed. -/
def DrawOk (w : World) (q : Nat) (a : Option Addr) (bs : List Int) (c : Nat) (lo hi : Int) (e : Ending) (w' : World) : Prop :=
  ∃ (v : Int) (p' : Nat), e = .returned (.int .i64 v) ∧ lo ≤ v ∧ v < hi ∧ RD w' q a bs c p' ∧ w.grownBy w' (some q)
theorem grown_drew {w w' : World} {q : Nat} (h : w.grownBy w' (some q)) : w.grownBy w'.drew (some q) := ⟨h.os, h.tape, h.output, h.size, h.block⟩

set_option maxHeartbeats 1000000 in
theorem next_any (q p c : Nat) (a : Option Addr) (bs : List Int) (w : World) (h : RD w q a bs c p) :
    Calls Try.prog 94 #[.pointer (some ⟨q, 0, none⟩)] w (DrawOk w q a bs c 0 256) := by
  have H : Hid (RD w q a bs c p) := h
  obtain ⟨c0, c1⟩ := cells2 h.1
  have hp := h.2.1
  have hbl := h.2.2.2
  clear h
  by_cases hlt : p < bs.length
  · obtain ⟨b, off, rfl, hne, hc, h1, h2⟩ := H.out.2.2.1 p hlt
    obtain ⟨v, HV⟩ : ∃ t, Hid (bs.getD p 0 = t) := ⟨_, rfl⟩
    rw [HV.out] at hc h1 h2
    have hnge : ¬ ((bs.length : Int) ≤ (p : Int)) := by omega
    have hwp : IntKind.i64.wrap ((p : Int) + 1) = ((p + 1 : Nat) : Int) := by rw [IntWalk.i64_in _ (by omega)]; omega
    have cf := fun i => frozen_of_row _ _ i _ _ H.out.1
    go_enter Try.func94, Try.ntmps94
    go_wp2_with fail
    go_region
    all_goals
      have hnl : ¬ bs.length ≤ p := by omega
      go_wp2_with fail
      have r1 := (H.out.put (p' := p + 1) (by omega)).below (Below.refl _ _).drew
      have g1 := grown_drew (grown_set w q 1 (Value.int .i64 ((p + 1 : Nat) : Int)))
      rw [show ((p + 1 : Nat) : Int) = (p : Int) + 1 by omega] at r1 g1
      generalize (w.setCell ⟨q, 1, none⟩ (.int .i64 ((p : Int) + 1))).drew = W1 at *
      have R1 : Hid (RD W1 q (some ⟨b, off, none⟩) bs c (p + 1)) := r1
      have G1 : Hid (w.grownBy W1 (some q)) := g1
      clear c0 c1 hc cf r1 g1
      obtain ⟨c0, c1⟩ := cells2 R1.out.1
      obtain ⟨b2, off2, e2, _, hc, _⟩ := R1.out.2.2.1 p hlt
      simp at e2
      obtain ⟨rfl, rfl⟩ := e2
      rw [HV.out] at hc
      rw [show ((p + 1 : Nat) : Int) = (p : Int) + 1 by omega] at c1
      have hw2 : IntKind.i64.wrap ((p : Int) + 1 - 1) = (p : Int) := by rw [IntWalk.i64_in _ (by omega)]; omega
      have hp0 : (0 : Int) ≤ (p : Int) := by omega
      have hw3 : IntKind.i64.wrap v = v := IntWalk.i64_in _ (by omega)
      go_region
      all_goals
        go_wp2
        go_ret
        exact ⟨v, p + 1, rfl, h1, h2, R1.out.below (Below.refl _ _).drew, grown_drew G1.out⟩
  · have hge : (bs.length : Int) ≤ (p : Int) := by omega
    have hnl : bs.length ≤ p := by omega
    go_enter Try.func94, Try.ntmps94
    go_wp2_with fail
    go_region
    all_goals
      go_wp2
      go_ret
      exact ⟨0, p, rfl, by omega, by omega, H.out.below (Below.refl _ _).drew, grown_drew (grown_refl w q)⟩

theorem DrawOk.mono {w : World} {q c : Nat} {a : Option Addr} {bs : List Int} {lo hi hi' : Int} {e : Ending} {w' : World} (h : DrawOk w q a bs c lo hi e w') (hh : hi ≤ hi') : DrawOk w q a bs c lo hi' e w' := by
  obtain ⟨v, p, h1, h2, h3, h4⟩ := h
  exact ⟨v, p, h1, h2, by omega, h4⟩

set_option maxHeartbeats 1000000 in
theorem below_any (q p c : Nat) (n : Int) (a : Option Addr) (bs : List Int) (w : World) (h : RD w q a bs c p) (hn : n ≤ 65536) :
    Calls Try.prog 63 #[.pointer (some ⟨q, 0, none⟩), .int .i64 n] w (DrawOk w q a bs c 0 (max n 1)) := by
  have H : Hid (RD w q a bs c p) := h
  clear h
  by_cases h1 : n ≤ 1
  · go_enter Try.func63, Try.ntmps63
    go_wp2
    go_ret
    exact ⟨0, p, rfl, by omega, by omega, H.out, grown_refl w q⟩
  · by_cases h2 : n ≤ 256
    · have hn0 : ¬ n = 0 := by omega
      go_enter Try.func63, Try.ntmps63
      go_wp2_with fail
      refine (next_any q p c a bs w H.out).mono ?_
      rintro e w1 ⟨v, p1, rfl, hv0, hv1, hr, hg⟩
      have R1 : Hid (RD w1 q a bs c p1) := hr
      have G1 : Hid (w.grownBy w1 (some q)) := hg
      clear hr hg
      go_wp2
      go_ret
      exact ⟨v % n, p1, rfl, Int.emod_nonneg _ (by omega), by have := Int.emod_lt_of_pos v (show 0 < n by omega); omega, R1.out, G1.out⟩
    · have hn0 : ¬ n = 0 := by omega
      go_enter Try.func63, Try.ntmps63
      go_wp2_with fail
      refine (next_any q p c a bs w H.out).mono ?_
      rintro e w1 ⟨v, p1, rfl, hv0, hv1, hr, hg⟩
      have R1 : Hid (RD w1 q a bs c p1) := hr
      have G1 : Hid (w.grownBy w1 (some q)) := hg
      clear hr hg
      obtain ⟨x, hx⟩ : ∃ x, v * 256 = x := ⟨_, rfl⟩
      have hwx : IntKind.i64.wrap (v * 256) = x := by rw [IntWalk.i64_in _ (by omega)]; exact hx
      have hx0 : 0 ≤ x ∧ x ≤ 65280 := by omega
      go_wp2_with fail
      refine (next_any q p1 c a bs w1 R1.out).mono ?_
      rintro e w2 ⟨u, p2, rfl, hu0, hu1, hr, hg⟩
      have R2 : Hid (RD w2 q a bs c p2) := hr
      have G2 : Hid (w1.grownBy w2 (some q)) := hg
      clear hr hg
      obtain ⟨y, hy⟩ : ∃ y, x + u = y := ⟨_, rfl⟩
      have hwy : IntKind.i64.wrap (x + u) = y := by rw [IntWalk.i64_in _ (by omega)]; exact hy
      have hy0 : 0 ≤ y ∧ y ≤ 65535 := by omega
      clear hwx hv0 hv1 hu0 hu1
      go_wp2
      go_ret
      exact ⟨y % n, p2, by first | rfl | (subst hy; subst hx; rfl), Int.emod_nonneg _ (by omega), by have := Int.emod_lt_of_pos y (show 0 < n by omega); omega, R2.out, grown_trans G1.out G2.out⟩

end Go.Proofs.Ytonopidjkcmlmaa

namespace Go.Proofs.Ytonopidjkcmlmaa
open Go.RowKit

/-- The slice at 'a' holds the bytes bs. -/
def CodeAt (w : World) (a : Option Addr) (bs : List Int) : Prop :=
  ∀ j, j < bs.length → ∃ b off, a = some ⟨b, off, none⟩ ∧ w.cell? ⟨b, off + j, none⟩ = some (.int .u8 (bs.getD j 0)) ∧ 0 ≤ bs.getD j 0 ∧ bs.getD j 0 < 256

set_option maxHeartbeats 400000 in
theorem l1Open_any (a : Option Addr) (c : Nat) (bs : List Int) (w : World) (h : CodeAt w a bs) (hl : bs.length ≤ 1048576) :
    Calls Try.prog 28 #[.slice a bs.length c] w fun e w' => e = .returned (.pointer (some ⟨w.heap.size, 0, none⟩)) ∧ Below w.heap.size w w' ∧ RD w' w.heap.size a bs c 0 := by
  have H : Hid (CodeAt w a bs) := h
  clear h
  go_enter Try.func28, Try.ntmps28
  go_wp2
  go_ret
  refine ⟨rfl, (Below.refl _ _).alloc (Nat.le_refl _) _, heap_alloc_new _ _, Nat.zero_le _, fun j hj => ?_, hl⟩
  obtain ⟨b, off, e, hc, hv⟩ := H.out j hj
  have hlt := block_lt_of_cell hc
  simp at hlt
  exact ⟨b, off, e, by omega, (((Below.refl w.heap.size w).alloc (Nat.le_refl _) _).cell (p := ⟨b, off + j, none⟩) hlt).trans hc, hv⟩

/-- Where the reader was made by the call itself, what was there is as it was. -/
theorem grown_below {w w1 w2 : World} {q : Nat} (hb : Below w.heap.size w w1) (hq : w.heap.size ≤ q) (hg : w1.grownBy w2 (some q)) : Below w.heap.size w w2 := hb.grown hg hb.size (fun k e => by injection e with e; omega)

end Go.Proofs.Ytonopidjkcmlmaa

namespace Go.Proofs.Ytonopidjkcmlmaa
open Go.RowKit

theorem noneTo6_step {zs : List Int} {id : Int} {k : Nat} (h : ∀ j, j < k → og6 zs j 0 ≠ id) (hk : og6 zs k 0 ≠ id) : ∀ j, j < k + 1 → og6 zs j 0 ≠ id := by
  intro j hj
  by_cases e : j = k
  · rw [e]; exact hk
  · exact h j (by omega)

set_option maxHeartbeats 1000000 in
theorem l2At_any (n fine id : Int) (a ao av : Option Addr) (lt cap ko co kv cv : Nat) (zs : List Int) (w : World) (hA : IntsAt w ao zs) (hl : zs.length = ko * 6) (hlen : ko ≤ 9223372036854775807) :
    Calls Try.prog 38 #[.agg #[.int .i64 n, .slice a lt cap, .slice ao ko co, .slice av kv cv, .int .i64 fine], .int .i64 id] w fun e w' => e = .returned (.tuple #[.agg #[.int .i64 (fnd6F zs ko id 0), .int .i64 (fnd6F zs ko id 1), .int .i64 (fnd6F zs ko id 2), .int .i64 (fnd6F zs ko id 3), .int .i64 (fnd6F zs ko id 4), .int .i64 (fnd6F zs ko id 5)], .bool (fnd6T zs ko id)]) ∧ Below w.heap.size w w' := by
  have HB0 : Hid (Below w.heap.size w ((w.alloc (Obj.cells #[Value.int IntKind.i64 n, Value.slice a lt cap, Value.slice ao ko co, Value.slice av kv cv, Value.int IntKind.i64 fine] 30)).alloc (Obj.cells #[Value.int IntKind.i64 0, Value.int IntKind.i64 0, Value.int IntKind.i64 0, Value.int IntKind.i64 0, Value.int IntKind.i64 0, Value.int IntKind.i64 0] 43))) := ((Below.refl _ _).alloc (Nat.le_refl _) _).alloc (by simp) _
  have HA : Hid (IntsAt w ao zs) := hA
  have HL : Hid (zs.length = ko * 6) := hl
  clear hA hl
  go_enter Try.func38, Try.ntmps38
  go_wp2_with fail
  have P0 : Hid (((w.alloc (Obj.cells #[Value.int IntKind.i64 n, Value.slice a lt cap, Value.slice ao ko co, Value.slice av kv cv, Value.int IntKind.i64 fine] 30)).alloc (Obj.cells #[Value.int IntKind.i64 0, Value.int IntKind.i64 0, Value.int IntKind.i64 0, Value.int IntKind.i64 0, Value.int IntKind.i64 0, Value.int IntKind.i64 0] 43)).heap[w.heap.size]? = _) := heap_alloc2_old _ _ _
  have Q0 : Hid (((w.alloc (Obj.cells #[Value.int IntKind.i64 n, Value.slice a lt cap, Value.slice ao ko co, Value.slice av kv cv, Value.int IntKind.i64 fine] 30)).alloc (Obj.cells #[Value.int IntKind.i64 0, Value.int IntKind.i64 0, Value.int IntKind.i64 0, Value.int IntKind.i64 0, Value.int IntKind.i64 0, Value.int IntKind.i64 0] 43)).heap[w.heap.size + 1]? = _) := heap_alloc2_new _ _ _
  generalize (w.alloc (Obj.cells #[Value.int IntKind.i64 n, Value.slice a lt cap, Value.slice ao ko co, Value.slice av kv cv, Value.int IntKind.i64 fine] 30)).alloc (Obj.cells #[Value.int IntKind.i64 0, Value.int IntKind.i64 0, Value.int IntKind.i64 0, Value.int IntKind.i64 0, Value.int IntKind.i64 0, Value.int IntKind.i64 0] 43) = W at *
  obtain ⟨c0, c1, c2, c3, c4⟩ := cells5 P0.out
  obtain ⟨q0, q1, q2, q3, q4, q5⟩ := cells6 Q0.out
  have f0 := fun i => frozen_of_row _ _ i _ _ Q0.out
  go_loop [6] (fun t => ∃ k : Nat, k ≤ ko ∧ t = .int .i64 k ∧ ∀ j, j < k → og6 zs j 0 ≠ id) (fun t => ko - (intOf t).toNat)
  case atStart => exact ⟨0, Nat.zero_le _, rfl, fun j hj => by omega⟩
  case round =>
    obtain ⟨k, hk, rfl, hno⟩ := hrel
    have HN : Hid (∀ j, j < k → og6 zs j 0 ≠ id) := hno
    clear hno
    by_cases hlt : k < ko
    · obtain ⟨b, off, rfl, hcs⟩ := IntsAt.some (IntsAt.below HA.out HB0.out) (j := k * 6) (by rw [HL.out]; omega)
      obtain ⟨r0, r1, r2, r3, r4, r5⟩ := row6_at hcs HL.out k hlt
      clear hcs
      obtain ⟨o0, H0⟩ : ∃ t, Hid (og6 zs k 0 = t) := ⟨_, rfl⟩
      obtain ⟨o1, H1⟩ : ∃ t, Hid (og6 zs k 1 = t) := ⟨_, rfl⟩
      obtain ⟨o2, H2⟩ : ∃ t, Hid (og6 zs k 2 = t) := ⟨_, rfl⟩
      obtain ⟨o3, H3⟩ : ∃ t, Hid (og6 zs k 3 = t) := ⟨_, rfl⟩
      obtain ⟨o4, H4⟩ : ∃ t, Hid (og6 zs k 4 = t) := ⟨_, rfl⟩
      obtain ⟨o5, H5⟩ : ∃ t, Hid (og6 zs k 5 = t) := ⟨_, rfl⟩
      rw [H0.out] at r0
      rw [H1.out] at r1
      rw [H2.out] at r2
      rw [H3.out] at r3
      rw [H4.out] at r4
      rw [H5.out] at r5
      by_cases he : o0 = id
      · have heb : (o0 == id) = true := by simp [he]
        have HF : Hid (fnd6 zs ko id = some k) := fnd6_at hlt (by rw [H0.out]; exact he) HN.out
        clear he
        go_wp2
        refine bodyPost_ret (v := .tuple #[.agg #[.int .i64 o0, .int .i64 o1, .int .i64 o2, .int .i64 o3, .int .i64 o4, .int .i64 o5], .bool true]) (by simp [results, Try.results38, go_sem, q0, q1, q2, q3, q4, q5]) rfl ⟨?_, ?_⟩
        · rw [fnd6T_at HF.out]; simp only [fnd6F_at HF.out, H0.out, H1.out, H2.out, H3.out, H4.out, H5.out]
        · repeat (first | with_reducible exact HB0.out | refine Below.setCell ?_ (by simp <;> omega) _)
      · have heb : (o0 == id) = false := by simp [he]
        have HS : Hid (∀ j, j < k + 1 → og6 zs j 0 ≠ id) := noneTo6_step HN.out (by rw [H0.out]; exact he)
        clear he
        go_wp2
        refine ⟨⟨k + 1, by omega, by go_num, HS.out⟩, by simp [intOf]; omega⟩
    · have hkx : k = ko := by omega
      have HF : Hid (fnd6 zs ko id = none) := fnd6_none (hkx ▸ HN.out)
      clear hkx
      go_wp2
      refine bodyPost_ret (v := .tuple #[.agg #[.int .i64 0, .int .i64 0, .int .i64 0, .int .i64 0, .int .i64 0, .int .i64 0], .bool false]) (by simp [results, Try.results38, go_sem, q0, q1, q2, q3, q4, q5]) rfl ⟨?_, ?_⟩
      · rw [fnd6T_none HF.out]; simp only [fnd6F_none HF.out]
      · repeat (first | with_reducible exact HB0.out | refine Below.setCell ?_ (by simp <;> omega) _)

end Go.Proofs.Ytonopidjkcmlmaa

namespace Go.Proofs.Ytonopidjkcmlmaa
open Go.RowKit

theorem noneTo5_step {zs : List Int} {id : Int} {k : Nat} (h : ∀ j, j < k → og5 zs j 0 ≠ id) (hk : og5 zs k 0 ≠ id) : ∀ j, j < k + 1 → og5 zs j 0 ≠ id := by
  intro j hj
  by_cases e : j = k
  · rw [e]; exact hk
  · exact h j (by omega)

set_option maxHeartbeats 1000000 in
theorem l2Car_any (n fine id : Int) (a ao av : Option Addr) (lt cap ko co kv cv : Nat) (zs : List Int) (w : World) (hA : IntsAt w av zs) (hl : zs.length = kv * 5) (hlen : kv ≤ 9223372036854775807) :
    Calls Try.prog 109 #[.agg #[.int .i64 n, .slice a lt cap, .slice ao ko co, .slice av kv cv, .int .i64 fine], .int .i64 id] w fun e w' => e = .returned (.tuple #[.agg #[.int .i64 (fnd5F zs kv id 0), .int .i64 (fnd5F zs kv id 1), .int .i64 (fnd5F zs kv id 2), .int .i64 (fnd5F zs kv id 3), .int .i64 (fnd5F zs kv id 4)], .bool (fnd5T zs kv id)]) ∧ Below w.heap.size w w' := by
  have HB0 : Hid (Below w.heap.size w ((w.alloc (Obj.cells #[Value.int IntKind.i64 n, Value.slice a lt cap, Value.slice ao ko co, Value.slice av kv cv, Value.int IntKind.i64 fine] 30)).alloc (Obj.cells #[Value.int IntKind.i64 0, Value.int IntKind.i64 0, Value.int IntKind.i64 0, Value.int IntKind.i64 0, Value.int IntKind.i64 0] 78))) := ((Below.refl _ _).alloc (Nat.le_refl _) _).alloc (by simp) _
  have HA : Hid (IntsAt w av zs) := hA
  have HL : Hid (zs.length = kv * 5) := hl
  clear hA hl
  go_enter Try.func109, Try.ntmps109
  go_wp2_with fail
  have P0 : Hid (((w.alloc (Obj.cells #[Value.int IntKind.i64 n, Value.slice a lt cap, Value.slice ao ko co, Value.slice av kv cv, Value.int IntKind.i64 fine] 30)).alloc (Obj.cells #[Value.int IntKind.i64 0, Value.int IntKind.i64 0, Value.int IntKind.i64 0, Value.int IntKind.i64 0, Value.int IntKind.i64 0] 78)).heap[w.heap.size]? = _) := heap_alloc2_old _ _ _
  have Q0 : Hid (((w.alloc (Obj.cells #[Value.int IntKind.i64 n, Value.slice a lt cap, Value.slice ao ko co, Value.slice av kv cv, Value.int IntKind.i64 fine] 30)).alloc (Obj.cells #[Value.int IntKind.i64 0, Value.int IntKind.i64 0, Value.int IntKind.i64 0, Value.int IntKind.i64 0, Value.int IntKind.i64 0] 78)).heap[w.heap.size + 1]? = _) := heap_alloc2_new _ _ _
  generalize (w.alloc (Obj.cells #[Value.int IntKind.i64 n, Value.slice a lt cap, Value.slice ao ko co, Value.slice av kv cv, Value.int IntKind.i64 fine] 30)).alloc (Obj.cells #[Value.int IntKind.i64 0, Value.int IntKind.i64 0, Value.int IntKind.i64 0, Value.int IntKind.i64 0, Value.int IntKind.i64 0] 78) = W at *
  obtain ⟨c0, c1, c2, c3, c4⟩ := cells5 P0.out
  obtain ⟨q0, q1, q2, q3, q4⟩ := cells5 Q0.out
  have f0 := fun i => frozen_of_row _ _ i _ _ Q0.out
  go_loop [6] (fun t => ∃ k : Nat, k ≤ kv ∧ t = .int .i64 k ∧ ∀ j, j < k → og5 zs j 0 ≠ id) (fun t => kv - (intOf t).toNat)
  case atStart => exact ⟨0, Nat.zero_le _, rfl, fun j hj => by omega⟩
  case round =>
    obtain ⟨k, hk, rfl, hno⟩ := hrel
    have HN : Hid (∀ j, j < k → og5 zs j 0 ≠ id) := hno
    clear hno
    by_cases hlt : k < kv
    · obtain ⟨b, off, rfl, hcs⟩ := IntsAt.some (IntsAt.below HA.out HB0.out) (j := k * 5) (by rw [HL.out]; omega)
      obtain ⟨r0, r1, r2, r3, r4⟩ := row5_at hcs HL.out k hlt
      clear hcs
      obtain ⟨o0, H0⟩ : ∃ t, Hid (og5 zs k 0 = t) := ⟨_, rfl⟩
      obtain ⟨o1, H1⟩ : ∃ t, Hid (og5 zs k 1 = t) := ⟨_, rfl⟩
      obtain ⟨o2, H2⟩ : ∃ t, Hid (og5 zs k 2 = t) := ⟨_, rfl⟩
      obtain ⟨o3, H3⟩ : ∃ t, Hid (og5 zs k 3 = t) := ⟨_, rfl⟩
      obtain ⟨o4, H4⟩ : ∃ t, Hid (og5 zs k 4 = t) := ⟨_, rfl⟩
      rw [H0.out] at r0
      rw [H1.out] at r1
      rw [H2.out] at r2
      rw [H3.out] at r3
      rw [H4.out] at r4
      by_cases he : o0 = id
      · have heb : (o0 == id) = true := by simp [he]
        have HF : Hid (fnd5 zs kv id = some k) := fnd5_at hlt (by rw [H0.out]; exact he) HN.out
        clear he
        go_wp2
        refine bodyPost_ret (v := .tuple #[.agg #[.int .i64 o0, .int .i64 o1, .int .i64 o2, .int .i64 o3, .int .i64 o4], .bool true]) (by simp [results, Try.results109, go_sem, q0, q1, q2, q3, q4]) rfl ⟨?_, ?_⟩
        · rw [fnd5T_at HF.out]; simp only [fnd5F_at HF.out, H0.out, H1.out, H2.out, H3.out, H4.out]
        · repeat (first | with_reducible exact HB0.out | refine Below.setCell ?_ (by simp <;> omega) _)
      · have heb : (o0 == id) = false := by simp [he]
        have HS : Hid (∀ j, j < k + 1 → og5 zs j 0 ≠ id) := noneTo5_step HN.out (by rw [H0.out]; exact he)
        clear he
        go_wp2
        refine ⟨⟨k + 1, by omega, by go_num, HS.out⟩, by simp [intOf]; omega⟩
    · have hkx : k = kv := by omega
      have HF : Hid (fnd5 zs kv id = none) := fnd5_none (hkx ▸ HN.out)
      clear hkx
      go_wp2
      refine bodyPost_ret (v := .tuple #[.agg #[.int .i64 0, .int .i64 0, .int .i64 0, .int .i64 0, .int .i64 0], .bool false]) (by simp [results, Try.results109, go_sem, q0, q1, q2, q3, q4]) rfl ⟨?_, ?_⟩
      · rw [fnd5T_none HF.out]; simp only [fnd5F_none HF.out]
      · repeat (first | with_reducible exact HB0.out | refine Below.setCell ?_ (by simp <;> omega) _)

end Go.Proofs.Ytonopidjkcmlmaa

namespace Go.Proofs.Ytonopidjkcmlmaa
open Go.RowKit

/-- The worlds in which all that was there is as it was. -/
def Kin (wr : World) : Type := { x : World // Below wr.heap.size wr x }
/-- One of them, as a world. -/
def Kin.w {wr : World} (s : Kin wr) : World := s.1
theorem Kin.there (wr : World) : Nonempty (Kin wr) := ⟨⟨wr, Below.refl _ _⟩⟩
theorem Kin.below {wr : World} (s : Kin wr) : Below wr.heap.size wr s.w := s.2
theorem Kin.cell {wr : World} (s : Kin wr) {b o : Nat} {v : Value} (h : wr.cell? ⟨b, o, none⟩ = some v) : s.w.cell? ⟨b, o, none⟩ = some v := by
  rw [s.below.cell (p := ⟨b, o, none⟩) (block_lt_of_cell h)]; exact h

/-- A region that draws its order, whose operations read and whose callees leave what was there: one walk, in the text's order. -/
theorem wp_region_kin {P : Program} {id : Nat} {Q : Exit → Act → World → Prop} {a : Act} {w : World} {l : List Oper} (hm : P.follows .mixedOrders = true) (hB : Region.lexB .any l.toArray = true)
    (h : wpQuiet P l.toArray (fun w' => ∃ s : Kin w, w' = s.w) (fun a' => ∀ w', (∃ s : Kin w, w' = s.w) → Q .normal a' w') l a) : (Code.region id l.toArray true).wp P Q a w :=
  wp_region_quiet (C := fun w' => ∃ s : Kin w, w' = s.w) hm hB ⟨⟨_, (Below.refl _ _).drew⟩, rfl⟩ (by simpa using h)

theorem Kin.call {P : Program} {f : FuncId} {args : Array Value} {wr : World} {s : Kin wr} {v : Value}
    (h : Calls P f args s.w fun e w' => e = .returned v ∧ Below s.w.heap.size s.w w') : Calls P f args s.w fun e w'' => e = .returned v ∧ ∃ s' : Kin wr, w'' = s'.w :=
  h.mono fun _ w' ⟨he, hb⟩ => ⟨he, ⟨w', s.below.trans (hb.mono s.below.size)⟩, rfl⟩
theorem Kin.call_same {P : Program} {f : FuncId} {args : Array Value} {wr : World} {s : Kin wr} {v : Value}
    (h : Calls P f args s.w fun e w' => e = .returned v ∧ w' = s.w) : Calls P f args s.w fun e w'' => e = .returned v ∧ ∃ s' : Kin wr, w'' = s'.w :=
  h.mono fun _ _ ⟨he, hb⟩ => ⟨he, s, hb⟩

end Go.Proofs.Ytonopidjkcmlmaa

namespace Go.Proofs.Ytonopidjkcmlmaa
open Go.RowKit

theorem keep_set {W : World} {b o k i : Nat} {v x : Value} (h : W.cell? ⟨b, o, none⟩ = some x) (hne : b ≠ k) : (W.setCell ⟨k, i, none⟩ v).cell? ⟨b, o, none⟩ = some x := by
  rw [World.cell?_of_block (w := W) (heap_setCell_other W ⟨k, i, none⟩ b v hne)]; exact h
theorem row_set' {W : World} {g k i : Nat} {o : Obj} {v : Value} (h : W.heap[g]? = some o) (hne : g ≠ k) : (W.setCell ⟨k, i, none⟩ v).heap[g]? = some o := by
  rw [heap_setCell_other _ _ _ _ (by simpa using hne)]; exact h
/-- Six cells that were written one behind the other. -/
theorem row_set6 {W : World} {g : Nat} {z0 z1 z2 z3 z4 z5 o0 o1 o2 o3 o4 o5 : Value} {T : TypeId} (h : W.heap[g]? = some (.cells #[z0, z1, z2, z3, z4, z5] T (0, 0))) :
    ((((((W.setCell ⟨g, 0, none⟩ o0).setCell ⟨g, 1, none⟩ o1).setCell ⟨g, 2, none⟩ o2).setCell ⟨g, 3, none⟩ o3).setCell ⟨g, 4, none⟩ o4).setCell ⟨g, 5, none⟩ o5).heap[g]? = some (.cells #[o0, o1, o2, o3, o4, o5] T (0, 0)) :=
  heap_setCell_same _ _ _ _ _ _ (heap_setCell_same _ _ _ _ _ _ (heap_setCell_same _ _ _ _ _ _ (heap_setCell_same _ _ _ _ _ _ (heap_setCell_same _ _ _ _ _ _ (heap_setCell_same _ _ _ _ _ _ h)))))

theorem ints_cell {w : World} {b off : Nat} {zs : List Int} (h : IntsAt w (some ⟨b, off, none⟩) zs) {j : Nat} (hj : j < zs.length) {v : Int} (hv : zs.getD j 0 = v) : w.cell? ⟨b, off + j, none⟩ = some (.int .i64 v) := by
  obtain ⟨b', off', e, hc⟩ := h j hj
  simp at e
  obtain ⟨rfl, rfl⟩ := e
  rw [hc, hv]

/-- A case and a route in their boxes. -/
def CR (w W : World) (cs rs : Array Value) : Prop := Below w.heap.size w W ∧ W.heap[w.heap.size]? = some (.cells cs 30 (0, 0)) ∧ W.heap[w.heap.size + 1]? = some (.cells rs 46 (0, 0))
theorem CR.new (w : World) (cs rs : Array Value) : CR w ((w.alloc (.cells cs 30)).alloc (.cells rs 46)) cs rs :=
  ⟨((Below.refl _ _).alloc (Nat.le_refl _) _).alloc (by simp) _, heap_alloc2_old _ _ _, heap_alloc2_new _ _ _⟩
theorem CR.below {w W W' : World} {cs rs : Array Value} (h : CR w W cs rs) (hb : Below W.heap.size W W') : CR w W' cs rs :=
  ⟨h.1.trans (hb.mono h.1.size), below_row hb (row_lt h.2.1) h.2.1, below_row hb (row_lt h.2.2) h.2.2⟩
theorem CR.drew {w W : World} {cs rs : Array Value} (h : CR w W cs rs) : CR w W.drew cs rs := h.below (Below.refl _ _).drew
theorem CR.alloc {w W : World} {cs rs : Array Value} (h : CR w W cs rs) (o : Obj) : CR w (W.alloc o) cs rs := h.below ((Below.refl _ _).alloc (Nat.le_refl _) _)
theorem CR.set {w W : World} {cs rs : Array Value} (h : CR w W cs rs) {k i : Nat} {v : Value} (hk : w.heap.size + 1 < k) : CR w (W.setCell ⟨k, i, none⟩ v) cs rs :=
  ⟨h.1.setCell (by simp; omega) _, row_set' h.2.1 (by omega), row_set' h.2.2 (by omega)⟩
theorem CR.big {w W : World} {cs rs : Array Value} (h : CR w W cs rs) : w.heap.size + 1 < W.heap.size := row_lt h.2.2

end Go.Proofs.Ytonopidjkcmlmaa

namespace Go.Proofs.Ytonopidjkcmlmaa
open Go.RowKit

theorem noneToI6_step {zs : List Int} {id : Int} {k : Nat} (h : ∀ j, j < k → og6 zs j 0 ≠ id) (hk : og6 zs k 0 ≠ id) : ∀ j, j < k + 1 → og6 zs j 0 ≠ id := by
  intro j hj
  by_cases e : j = k
  · rw [e]; exact hk
  · exact h j (by omega)

set_option maxHeartbeats 1000000 in
theorem findOrder_any (n fine id : Int) (a ao av : Option Addr) (lt cap ko co kv cv : Nat) (zs : List Int) (w : World) (hA : IntsAt w ao zs) (hl : zs.length = ko * 6) (hlen : ko ≤ 9223372036854775807) :
    Calls Try.prog 105 #[.agg #[.int .i64 n, .slice a lt cap, .slice ao ko co, .slice av kv cv, .int .i64 fine], .int .i64 id] w fun e w' => e = .returned (.tuple #[.agg #[.int .i64 (fnd6F zs ko id 0), .int .i64 (fnd6F zs ko id 1), .int .i64 (fnd6F zs ko id 2), .int .i64 (fnd6F zs ko id 3), .int .i64 (fnd6F zs ko id 4), .int .i64 (fnd6F zs ko id 5)], .bool (fnd6T zs ko id)]) ∧ Below w.heap.size w w' := by
  have HB0 : Hid (Below w.heap.size w ((w.alloc (Obj.cells #[Value.int IntKind.i64 n, Value.slice a lt cap, Value.slice ao ko co, Value.slice av kv cv, Value.int IntKind.i64 fine] 30)).alloc (Obj.cells #[Value.int IntKind.i64 0, Value.int IntKind.i64 0, Value.int IntKind.i64 0, Value.int IntKind.i64 0, Value.int IntKind.i64 0, Value.int IntKind.i64 0] 43))) := ((Below.refl _ _).alloc (Nat.le_refl _) _).alloc (by simp) _
  have HA : Hid (IntsAt w ao zs) := hA
  have HL : Hid (zs.length = ko * 6) := hl
  clear hA hl
  go_enter Try.func105, Try.ntmps105
  go_wp2_with fail
  have Q0 : Hid (((w.alloc (Obj.cells #[Value.int IntKind.i64 n, Value.slice a lt cap, Value.slice ao ko co, Value.slice av kv cv, Value.int IntKind.i64 fine] 30)).alloc (Obj.cells #[Value.int IntKind.i64 0, Value.int IntKind.i64 0, Value.int IntKind.i64 0, Value.int IntKind.i64 0, Value.int IntKind.i64 0, Value.int IntKind.i64 0] 43)).heap[w.heap.size + 1]? = _) := heap_alloc2_new _ _ _
  generalize (w.alloc (Obj.cells #[Value.int IntKind.i64 n, Value.slice a lt cap, Value.slice ao ko co, Value.slice av kv cv, Value.int IntKind.i64 fine] 30)).alloc (Obj.cells #[Value.int IntKind.i64 0, Value.int IntKind.i64 0, Value.int IntKind.i64 0, Value.int IntKind.i64 0, Value.int IntKind.i64 0, Value.int IntKind.i64 0] 43) = W at *
  go_loopw [11] (fun t wr => ∃ k : Nat, k ≤ ko ∧ t = .int .i64 k ∧ (∀ j, j < k → og6 zs j 0 ≠ id) ∧ Below w.heap.size w wr ∧ wr.heap[w.heap.size + 1]? = some (.cells #[Value.int IntKind.i64 0, Value.int IntKind.i64 0, Value.int IntKind.i64 0, Value.int IntKind.i64 0, Value.int IntKind.i64 0, Value.int IntKind.i64 0] 43 (0, 0))) (fun t _ => ko - (intOf t).toNat)
  case atStart => exact ⟨0, Nat.zero_le _, rfl, fun j hj => by omega, HB0.out, Q0.out⟩
  case round =>
    clear HB0 Q0
    obtain ⟨k, hk, rfl, hno, hb, hq⟩ := hrel
    have HN : Hid (∀ j, j < k → og6 zs j 0 ≠ id) := hno
    have HB : Hid (Below w.heap.size w wr) := hb
    have HQ : Hid _ := hq
    obtain ⟨q0, q1, q2, q3, q4, q5⟩ := cells6 hq
    have f0 := fun i => frozen_of_row _ _ i _ _ hq
    have hqlt := row_lt hq
    clear hno hb hq
    by_cases hlt : k < ko
    · obtain ⟨b, off, rfl, hcs⟩ := IntsAt.some (IntsAt.below HA.out HB.out) (j := k * 6) (by rw [HL.out]; omega)
      obtain ⟨r0, r1, r2, r3, r4, r5⟩ := row6_at hcs HL.out k hlt
      clear hcs
      obtain ⟨o0, H0⟩ : ∃ t, Hid (og6 zs k 0 = t) := ⟨_, rfl⟩
      obtain ⟨o1, H1⟩ : ∃ t, Hid (og6 zs k 1 = t) := ⟨_, rfl⟩
      obtain ⟨o2, H2⟩ : ∃ t, Hid (og6 zs k 2 = t) := ⟨_, rfl⟩
      obtain ⟨o3, H3⟩ : ∃ t, Hid (og6 zs k 3 = t) := ⟨_, rfl⟩
      obtain ⟨o4, H4⟩ : ∃ t, Hid (og6 zs k 4 = t) := ⟨_, rfl⟩
      obtain ⟨o5, H5⟩ : ∃ t, Hid (og6 zs k 5 = t) := ⟨_, rfl⟩
      rw [H0.out] at r0
      rw [H1.out] at r1
      rw [H2.out] at r2
      rw [H3.out] at r3
      rw [H4.out] at r4
      rw [H5.out] at r5
      have hlb := block_lt_of_cell r0
      simp at hlb
      by_cases he : o0 = id
      · have heb : (o0 == id) = true := by simp [he]
        have HF : Hid (fnd6 zs ko id = some k) := fnd6_at hlt (by rw [H0.out]; exact he) HN.out
        clear he
        go_wp2
        refine bodyPost_ret (v := .tuple #[.agg #[.int .i64 o0, .int .i64 o1, .int .i64 o2, .int .i64 o3, .int .i64 o4, .int .i64 o5], .bool true]) (by simp [results, Try.results105, go_sem, hqlt, q0, q1, q2, q3, q4, q5]) rfl ⟨?_, ?_⟩
        · rw [fnd6T_at HF.out]; simp only [fnd6F_at HF.out, H0.out, H1.out, H2.out, H3.out, H4.out, H5.out]
        · repeat (first | with_reducible exact HB.out | with_reducible refine Below.setCell ?_ (by simp <;> omega) _ | with_reducible refine Below.alloc ?_ (by simp [World.setCell]; exact HB.out.size) _)
      · have heb : (o0 == id) = false := by simp [he]
        have HS : Hid (∀ j, j < k + 1 → og6 zs j 0 ≠ id) := noneToI6_step HN.out (by rw [H0.out]; exact he)
        clear he
        go_wp2
        refine ⟨⟨k + 1, by omega, by go_num, HS.out, HB.out.alloc HB.out.size _, ?_⟩, by simp [intOf]; omega⟩
        rw [heap_alloc_old _ _ (row_lt HQ.out)]; exact HQ.out
    · have hkx : k = ko := by omega
      have HF : Hid (fnd6 zs ko id = none) := fnd6_none (hkx ▸ HN.out)
      clear hkx
      go_wp2
      refine bodyPost_ret (v := .tuple #[.agg #[.int .i64 0, .int .i64 0, .int .i64 0, .int .i64 0, .int .i64 0, .int .i64 0], .bool false]) (by simp [results, Try.results105, go_sem, q0, q1, q2, q3, q4, q5]) rfl ⟨?_, ?_⟩
      · rw [fnd6T_none HF.out]; simp only [fnd6F_none HF.out]
      · repeat (first | with_reducible exact HB.out | with_reducible refine Below.setCell ?_ (by simp <;> omega) _)

end Go.Proofs.Ytonopidjkcmlmaa

namespace Go.Proofs.Ytonopidjkcmlmaa
open Go.RowKit

theorem noTo_step {zs : List Int} {id : Int} {k : Nat} (h : ∀ j, j < k → zs.getD j 0 ≠ id) (hk : zs.getD k 0 ≠ id) : ∀ j, j < k + 1 → zs.getD j 0 ≠ id := by
  intro j hj
  by_cases e : j = k
  · rw [e]; exact hk
  · exact h j (by omega)

set_option maxHeartbeats 400000 in
theorem l3Has_any (a : Option Addr) (m cap : Nat) (id : Int) (zs : List Int) (w : World) (hA : IntsAt w a zs) (hm : m ≤ zs.length) (hlen : m ≤ 9223372036854775807) :
    Calls Try.prog 37 #[.slice a m cap, .int .i64 id] w fun e w' => e = .returned (.bool (hasTo zs m id)) ∧ w' = w := by
  have HA : Hid (IntsAt w a zs) := hA
  clear hA
  obtain ⟨r, HR⟩ : ∃ r, Hid (hasTo zs m id = r) := ⟨_, rfl⟩
  rw [HR.out]
  go_enter Try.func37, Try.ntmps37
  go_wp2_with fail
  go_loop [5] (fun t => ∃ k : Nat, k ≤ m ∧ t = .int .i64 k ∧ ∀ j, j < k → zs.getD j 0 ≠ id) (fun t => m - (intOf t).toNat)
  case atStart => exact ⟨0, Nat.zero_le _, rfl, fun j hj => by omega⟩
  case round =>
    obtain ⟨k, hk, rfl, hno⟩ := hrel
    have HN : Hid (∀ j, j < k → zs.getD j 0 ≠ id) := hno
    clear hno
    by_cases hlt : k < m
    · obtain ⟨b, off, rfl, hcs⟩ := IntsAt.some HA.out (j := k) (by omega)
      have ct := hcs k (by omega)
      clear hcs
      obtain ⟨t, HT⟩ : ∃ t, Hid (zs.getD k 0 = t) := ⟨_, rfl⟩
      rw [HT.out] at ct
      by_cases he : t = id
      · have heb : (t == id) = true := by simp [he]
        have HV : Hid (r = true) := HR.out.symm.trans (hasTo_yes hlt (HT.out.trans he))
        clear he
        go_wp2
        go_ret
        exact ⟨ret_bool HV.out.symm, rfl⟩
      · have heb : (t == id) = false := by simp [he]
        have HS : Hid (∀ j, j < k + 1 → zs.getD j 0 ≠ id) := noTo_step HN.out (by rw [HT.out]; exact he)
        clear he
        go_wp2
        exact ⟨⟨k + 1, by omega, by go_num, HS.out⟩, by simp [intOf]; omega⟩
    · have hkl : k = m := by omega
      have HV : Hid (r = false) := HR.out.symm.trans (hasTo_no (hkl ▸ HN.out))
      clear hkl
      go_wp2
      go_ret
      exact ⟨ret_bool HV.out.symm, rfl⟩

theorem l3Has_is (a : Option Addr) (m cap : Nat) (id : Int) (zs : List Int) (w : World) (v : Bool) (hv : hasTo zs m id = v) (hA : IntsAt w a zs) (hm : m ≤ zs.length) (hlen : m ≤ 9223372036854775807) :
    Calls Try.prog 37 #[.slice a m cap, .int .i64 id] w fun e w' => e = .returned (.bool v) ∧ w' = w := hv ▸ l3Has_any a m cap id zs w hA hm hlen

/-- The place that slices.Index tells. -/
def idxV (zs : List Int) (m : Nat) (id : Int) : Int := match (List.range m).find? (fun i => zs.getD i 0 == id) with
  | some i => i
  | none => -1
theorem idxV_at {zs : List Int} {m : Nat} {id : Int} {i : Nat} (hi : i < m) (h : zs.getD i 0 = id) (hno : ∀ j, j < i → zs.getD j 0 ≠ id) : idxV zs m id = i := by
  have : (List.range m).find? (fun i => zs.getD i 0 == id) = some i := by
    rw [List.find?_range_eq_some]
    exact ⟨by rw [h]; simp, by simpa using hi, fun j hj => by have := hno j hj; simpa using this⟩
  unfold idxV
  rw [this]
theorem idxV_none {zs : List Int} {m : Nat} {id : Int} (hno : ∀ j, j < m → zs.getD j 0 ≠ id) : idxV zs m id = -1 := by
  have : (List.range m).find? (fun i => zs.getD i 0 == id) = none := by
    rw [List.find?_eq_none]
    intro j hj
    have := hno j (by simpa using hj)
    simpa using this
  unfold idxV
  rw [this]
theorem idxV_has (zs : List Int) (m : Nat) (id : Int) : decide (0 ≤ idxV zs m id) = hasTo zs m id := by
  unfold idxV
  cases hf : (List.range m).find? (fun i => zs.getD i 0 == id) with
  | none =>
    rw [List.find?_eq_none] at hf
    rw [hasTo_no (fun j hj => by have := hf j (by simpa using hj); simpa using this)]
    rfl
  | some i =>
    rw [List.find?_range_eq_some] at hf
    rw [hasTo_yes (by simpa using hf.2.1) (by simpa using hf.1)]
    simp

set_option maxHeartbeats 400000 in
theorem index_any (a : Option Addr) (m cap : Nat) (id : Int) (zs : List Int) (w : World) (hA : IntsAt w a zs) (hm : m ≤ zs.length) (hlen : m ≤ 9223372036854775807) :
    Calls Try.prog 138 #[.slice a m cap, .int .i64 id] w fun e w' => e = .returned (.int .i64 (idxV zs m id)) ∧ w' = w := by
  have HA : Hid (IntsAt w a zs) := hA
  clear hA
  obtain ⟨r, HR⟩ : ∃ r, Hid (idxV zs m id = r) := ⟨_, rfl⟩
  rw [HR.out]
  go_enter Try.func138, Try.ntmps138
  go_wp2_with fail
  go_loop [8] (fun t => ∃ k : Nat, k ≤ m ∧ t = .int .i64 k ∧ ∀ j, j < k → zs.getD j 0 ≠ id) (fun t => m - (intOf t).toNat)
  case atStart => exact ⟨0, Nat.zero_le _, rfl, fun j hj => by omega⟩
  case round =>
    obtain ⟨k, hk, rfl, hno⟩ := hrel
    have HN : Hid (∀ j, j < k → zs.getD j 0 ≠ id) := hno
    clear hno
    by_cases hlt : k < m
    · obtain ⟨b, off, rfl, hcs⟩ := IntsAt.some HA.out (j := k) (by omega)
      have ct := hcs k (by omega)
      clear hcs
      obtain ⟨t, HT⟩ : ∃ t, Hid (zs.getD k 0 = t) := ⟨_, rfl⟩
      rw [HT.out] at ct
      by_cases he : id = t
      · have heb : (id == t) = true := by simp [he]
        have HV : Hid (r = k) := HR.out.symm.trans (idxV_at hlt (HT.out.trans he.symm) HN.out)
        clear he
        go_wp2
        go_ret
        exact ⟨ret_int HV.out.symm, rfl⟩
      · have heb : (id == t) = false := by simp [he]
        have HS : Hid (∀ j, j < k + 1 → zs.getD j 0 ≠ id) := noTo_step HN.out (by rw [HT.out]; exact fun x => he x.symm)
        clear he
        go_wp2
        exact ⟨⟨k + 1, by omega, by go_num, HS.out⟩, by simp [intOf]; omega⟩
    · have hkl : k = m := by omega
      have HV : Hid (r = -1) := HR.out.symm.trans (idxV_none (hkl ▸ HN.out))
      clear hkl
      go_wp2
      go_ret
      exact ⟨ret_int HV.out.symm, rfl⟩

set_option maxHeartbeats 400000 in
theorem contains_any (a : Option Addr) (m cap : Nat) (id : Int) (zs : List Int) (w : World) (hA : IntsAt w a zs) (hm : m ≤ zs.length) (hlen : m ≤ 9223372036854775807) :
    Calls Try.prog 136 #[.slice a m cap, .int .i64 id] w fun e w' => e = .returned (.bool (hasTo zs m id)) ∧ w' = w := by
  have HA : Hid (IntsAt w a zs) := hA
  clear hA
  rw [← idxV_has]
  obtain ⟨t, HT⟩ : ∃ t, Hid (idxV zs m id = t) := ⟨_, rfl⟩
  rw [HT.out]
  go_enter Try.func136, Try.ntmps136
  go_wp2_with fail
  refine (index_any a m cap id zs w HA.out hm hlen).mono ?_
  rintro e w1 ⟨rfl, rfl⟩
  rw [HT.out]
  go_wp2
  go_ret
  exact ⟨by simp, rfl⟩

end Go.Proofs.Ytonopidjkcmlmaa

namespace Go.Proofs.Ytonopidjkcmlmaa
open Go.RowKit

theorem Try.info2 : (Try.prog.info? 2).map (fun i => (i.zero, i.size, i.bytes)) = some (some (.int .i64 0), 1, 8) := by kernel_rfl

theorem make_ints (W : World) (len : Nat) (hlen : len ≤ 1048576) :
    (Instr.makeSlice 24 (.int .i64 len) (.int .i64 len)).run Try.prog W = .ok (.slice (some ⟨W.heap.size, 0, none⟩) len len) (W.alloc (.cells (cellsOf (List.replicate len 0)) 2)) := by
  have h := Try.info2
  cases hq : Try.prog.info? 2 with
  | none => simp [hq] at h
  | some i =>
    simp [hq] at h
    obtain ⟨hz, hs, hb⟩ := h
    have := run_make (P := Try.prog) W 24 2 i (.int .i64 0) Try.underlying24 hq hz .i64 .i64 len len (by omega) (by omega) (by rw [hb]; omega) (by omega)
    rw [this, hs]
    simp only [Int.toNat_natCast, made_zero]

end Go.Proofs.Ytonopidjkcmlmaa

namespace Go.Proofs.Ytonopidjkcmlmaa
open Go.RowKit

set_option maxHeartbeats 400000 in
theorem l1In_any (n lo hi : Int) (w : World) :
    Calls Try.prog 40 #[.int .i64 n, .int .i64 lo, .int .i64 hi] w fun e w' => e = .returned (.bool (inB n lo hi)) ∧ w' = w := by
  by_cases h1 : lo ≤ n
  · by_cases h2 : n ≤ hi
    · have h3 : inB n lo hi = true := inB_mk ⟨h1, h2⟩
      rw [h3]
      go_enter Try.func40, Try.ntmps40
      go_wp2
      go_ret
      exact ⟨by simp, rfl⟩
    · have h3 : inB n lo hi = false := inB_not (by omega)
      rw [h3]
      go_enter Try.func40, Try.ntmps40
      go_wp2
      go_ret
      exact ⟨by simp, rfl⟩
  · have h3 : inB n lo hi = false := inB_not (by omega)
    rw [h3]
    go_enter Try.func40, Try.ntmps40
    go_wp2
    go_ret
    exact ⟨by simp, rfl⟩

end Go.Proofs.Ytonopidjkcmlmaa

namespace Go.Proofs.Ytonopidjkcmlmaa
open Go.RowKit

set_option maxHeartbeats 400000 in
theorem l2Order_any (n o0 o1 o2 o3 o4 o5 : Int) (w : World) (hn1 : 1 ≤ n) (hn2 : n ≤ 16) :
    Calls Try.prog 41 #[.agg #[.int .i64 o0, .int .i64 o1, .int .i64 o2, .int .i64 o3, .int .i64 o4, .int .i64 o5], .int .i64 n] w fun e w' => e = .returned (.bool (ordB n o0 o1 o2 o3 o4 o5)) ∧ Below w.heap.size w w' := by
  cases h0 : inB o0 1 1000000000
  · go_enter Try.func41, Try.ntmps41
    go_wp2_with (first | (go_at_call 40; refine (l1In_any _ _ _ _).mono ?_; rintro e w' ⟨rfl, rfl⟩))
    go_ret
    exact ⟨ret_bool (by simp [ordB, ordIn, hoursB, h0]), (Below.refl _ _).alloc (Nat.le_refl _) _⟩
  · cases h1 : inB o1 0 (n - 1)
    · go_enter Try.func41, Try.ntmps41
      go_wp2_with (first | (go_at_call 40; refine (l1In_any _ _ _ _).mono ?_; rintro e w' ⟨rfl, rfl⟩))
      go_ret
      exact ⟨ret_bool (by simp [ordB, ordIn, hoursB, h0, h1]), (Below.refl _ _).alloc (Nat.le_refl _) _⟩
    · cases h2 : inB o2 0 1000
      · go_enter Try.func41, Try.ntmps41
        go_wp2_with (first | (go_at_call 40; refine (l1In_any _ _ _ _).mono ?_; rintro e w' ⟨rfl, rfl⟩))
        go_ret
        exact ⟨ret_bool (by simp [ordB, ordIn, hoursB, h0, h1, h2]), (Below.refl _ _).alloc (Nat.le_refl _) _⟩
      · cases h3 : inB o3 0 1000000
        · go_enter Try.func41, Try.ntmps41
          go_wp2_with (first | (go_at_call 40; refine (l1In_any _ _ _ _).mono ?_; rintro e w' ⟨rfl, rfl⟩))
          go_ret
          exact ⟨ret_bool (by simp [ordB, ordIn, hoursB, h0, h1, h2, h3]), (Below.refl _ _).alloc (Nat.le_refl _) _⟩
        · cases h4 : inB o4 o3 1000000
          · go_enter Try.func41, Try.ntmps41
            go_wp2_with (first | (go_at_call 40; refine (l1In_any _ _ _ _).mono ?_; rintro e w' ⟨rfl, rfl⟩))
            go_ret
            exact ⟨ret_bool (by simp [ordB, ordIn, hoursB, h0, h1, h2, h3, h4]), (Below.refl _ _).alloc (Nat.le_refl _) _⟩
          · cases h5 : inB o5 0 10000
            · go_enter Try.func41, Try.ntmps41
              go_wp2_with (first | (go_at_call 40; refine (l1In_any _ _ _ _).mono ?_; rintro e w' ⟨rfl, rfl⟩))
              go_ret
              exact ⟨ret_bool (by simp [ordB, ordIn, hoursB, h0, h1, h2, h3, h4, h5]), (Below.refl _ _).alloc (Nat.le_refl _) _⟩
            · go_enter Try.func41, Try.ntmps41
              go_wp2_with (first | (go_at_call 40; refine (l1In_any _ _ _ _).mono ?_; rintro e w' ⟨rfl, rfl⟩))
              go_ret
              exact ⟨ret_bool (by simp [ordB, ordIn, hoursB, h0, h1, h2, h3, h4, h5]), (Below.refl _ _).alloc (Nat.le_refl _) _⟩

set_option maxHeartbeats 400000 in
theorem l2Vehicle_any (n o0 o1 o2 o3 o4 : Int) (w : World) (hn1 : 1 ≤ n) (hn2 : n ≤ 16) :
    Calls Try.prog 42 #[.agg #[.int .i64 o0, .int .i64 o1, .int .i64 o2, .int .i64 o3, .int .i64 o4], .int .i64 n] w fun e w' => e = .returned (.bool (vehB n o0 o1 o2 o3 o4)) ∧ Below w.heap.size w w' := by
  cases h0 : inB o0 1 1000000000
  · go_enter Try.func42, Try.ntmps42
    go_wp2_with (first | (go_at_call 40; refine (l1In_any _ _ _ _).mono ?_; rintro e w' ⟨rfl, rfl⟩))
    go_ret
    exact ⟨ret_bool (by simp [vehB, vehIn, hoursB, h0]), (Below.refl _ _).alloc (Nat.le_refl _) _⟩
  · cases h1 : inB o1 0 (n - 1)
    · go_enter Try.func42, Try.ntmps42
      go_wp2_with (first | (go_at_call 40; refine (l1In_any _ _ _ _).mono ?_; rintro e w' ⟨rfl, rfl⟩))
      go_ret
      exact ⟨ret_bool (by simp [vehB, vehIn, hoursB, h0, h1]), (Below.refl _ _).alloc (Nat.le_refl _) _⟩
    · cases h2 : inB o2 0 1000
      · go_enter Try.func42, Try.ntmps42
        go_wp2_with (first | (go_at_call 40; refine (l1In_any _ _ _ _).mono ?_; rintro e w' ⟨rfl, rfl⟩))
        go_ret
        exact ⟨ret_bool (by simp [vehB, vehIn, hoursB, h0, h1, h2]), (Below.refl _ _).alloc (Nat.le_refl _) _⟩
      · cases h3 : inB o3 0 1000000
        · go_enter Try.func42, Try.ntmps42
          go_wp2_with (first | (go_at_call 40; refine (l1In_any _ _ _ _).mono ?_; rintro e w' ⟨rfl, rfl⟩))
          go_ret
          exact ⟨ret_bool (by simp [vehB, vehIn, hoursB, h0, h1, h2, h3]), (Below.refl _ _).alloc (Nat.le_refl _) _⟩
        · cases h4 : inB o4 o3 1000000
          · go_enter Try.func42, Try.ntmps42
            go_wp2_with (first | (go_at_call 40; refine (l1In_any _ _ _ _).mono ?_; rintro e w' ⟨rfl, rfl⟩))
            go_ret
            exact ⟨ret_bool (by simp [vehB, vehIn, hoursB, h0, h1, h2, h3, h4]), (Below.refl _ _).alloc (Nat.le_refl _) _⟩
          · go_enter Try.func42, Try.ntmps42
            go_wp2_with (first | (go_at_call 40; refine (l1In_any _ _ _ _).mono ?_; rintro e w' ⟨rfl, rfl⟩))
            go_ret
            exact ⟨ret_bool (by simp [vehB, vehIn, hoursB, h0, h1, h2, h3, h4]), (Below.refl _ _).alloc (Nat.le_refl _) _⟩

end Go.Proofs.Ytonopidjkcmlmaa

namespace Go.Proofs.Ytonopidjkcmlmaa
open Go.RowKit

set_option maxHeartbeats 1000000 in
theorem specMat_loop (n : Nat) (a : Option Addr) (cap : Nat) (zs : List Int) (w : World) (h1 : 1 ≤ n) (h2 : n ≤ 16) (hl : zs.length = n * n) (hA : IntsAt w a zs) :
    Calls Try.prog 39 #[.agg #[.int .i64 n, .slice a zs.length cap]] w fun e w' => e = .returned (.bool (matB n zs)) ∧ Below w.heap.size w w' := by
  have hnn : n * n ≤ 256 := mul_bd n n h2 h2
  have hd1 : inB (n : Int) 1 16 = true := inB_mk (by omega)
  have hnw : wrap64 ((n : Int) * (n : Int)) = (n : Int) * (n : Int) := IntWalk.wrap64_in _ (by rw [← Int.natCast_mul]; omega)
  have hn0 : ¬ n = 0 := by omega
  have HA : Hid (IntsAt w a zs) := hA
  clear hA
  rw [hl]
  have HL : Hid (zs.length = n * n) := hl
  clear hl
  go_enter Try.func39, Try.ntmps39
  go_wp2_with (go_at_call 40; refine (l1In_any _ _ _ _).mono ?_; rintro e w' ⟨rfl, rfl⟩)
  go_loopw [3] (fun t wr => ∃ k : Nat, k ≤ n * n ∧ t = .int .i64 k ∧ Below w.heap.size w wr ∧ wr.heap[w.heap.size]? = some (.cells #[.int .i64 n, .slice a (n * n) cap] 26 (0, 0)) ∧ (∀ i, i < k → 0 ≤ zs.getD i 0 ∧ zs.getD i 0 ≤ 10000 ∧ (i / n = i % n → zs.getD i 0 = 0))) (fun t _ => n * n - (intOf t).toNat)
  case atStart => exact ⟨0, Nat.zero_le _, rfl, (Below.refl _ _).alloc (Nat.le_refl _) _, heap_alloc_new _ _, fun i hi => by omega⟩
  case round =>
    obtain ⟨k, hk, rfl, hb, g3, hok⟩ := hrel
    have c0 := cell_of_row _ _ 0 _ _ _ g3
    have c1 := cell_of_row _ _ 1 _ _ _ g3
    simp at c0 c1
    have HO : Hid (∀ i, i < k → 0 ≤ zs.getD i 0 ∧ zs.getD i 0 ≤ 10000 ∧ (i / n = i % n → zs.getD i 0 = 0)) := hok
    have G3 : Hid _ := g3
    have HB : Hid _ := hb
    clear hok
    by_cases hlt : k < n * n
    · obtain ⟨bb, off, rfl, hcs⟩ := IntsAt.some (IntsAt.below HA.out hb) (j := k) (by rw [HL.out]; exact hlt)
      have ct := hcs k (by rw [HL.out]; exact hlt)
      clear hcs
      generalize htt : zs.getD k 0 = t at ct
      have HT : Hid (zs.getD k 0 = t) := htt
      clear htt g3 hb
      have hw1 : IntKind.i64.wrap ((k : Int) / (n : Int)) = (k : Int) / (n : Int) := by
        rw [IntKind.wrap_i64, ← Int.natCast_ediv]
        have hq := Nat.div_le_self k n
        generalize k / n = q at hq
        omega
      have hw2 : (k : Int).tmod (n : Int) = (k : Int) % (n : Int) := Int.tmod_eq_emod_of_nonneg (by omega)
      have hlt' : (k : Int) < (n : Int) * (n : Int) := by rw [← Int.natCast_mul]; omega
      by_cases hv : 0 ≤ t ∧ t ≤ 10000
      · have hvd : inB t 0 10000 = true := inB_mk hv
        by_cases hq : k / n = k % n
        · have hqb : ((k : Int) / (n : Int) == (k : Int) % (n : Int)) = true := by simp; omega
          by_cases ht0 : t = 0
          · have htb : (t != 0) = false := by simp [ht0]
            have HS : Hid (∀ i, i < k + 1 → 0 ≤ zs.getD i 0 ∧ zs.getD i 0 ≤ 10000 ∧ (i / n = i % n → zs.getD i 0 = 0)) := by
              intro i hi
              by_cases e : i = k
              · rw [e, HT.out]; exact ⟨hv.1, hv.2, fun _ => ht0⟩
              · exact HO.out i (by omega)
            clear HO hq ht0
            go_wp2
            go_quiet ((go_at_call 40; exact Calls.quiet_of_same (l1In_any _ _ _ _)))
            go_wp2
            refine ⟨⟨k + 1, by omega, by go_num, below_drewN HB.out _, G3.out, HS.out⟩, by simp [intOf]; omega⟩
          · have htb : (t != 0) = true := by simp [ht0]
            have HN : Hid (matB n zs = false) := matB_at n zs HL.out k hlt (by rw [HT.out]; exact fun h => ht0 (h.2.2 hq))
            clear HO hq ht0
            go_wp2
            go_quiet ((go_at_call 40; exact Calls.quiet_of_same (l1In_any _ _ _ _)))
            go_wp2
            go_ret
            exact ⟨ret_bool HN.out.symm, below_drewN HB.out _⟩
        · have hqb : ((k : Int) / (n : Int) == (k : Int) % (n : Int)) = false := by simp; omega
          have HS : Hid (∀ i, i < k + 1 → 0 ≤ zs.getD i 0 ∧ zs.getD i 0 ≤ 10000 ∧ (i / n = i % n → zs.getD i 0 = 0)) := by
            intro i hi
            by_cases e : i = k
            · rw [e, HT.out]; exact ⟨hv.1, hv.2, fun h => absurd h hq⟩
            · exact HO.out i (by omega)
          clear HO hq
          go_wp2
          go_quiet ((go_at_call 40; exact Calls.quiet_of_same (l1In_any _ _ _ _)))
          go_wp2
          refine ⟨⟨k + 1, by omega, by go_num, below_drewN HB.out _, G3.out, HS.out⟩, by simp [intOf]; omega⟩
      · have hvd : inB t 0 10000 = false := inB_not hv
        have HN : Hid (matB n zs = false) := matB_at n zs HL.out k hlt (by rw [HT.out]; exact fun h => hv ⟨h.1, h.2.1⟩)
        clear HO hv
        go_wp2
        go_quiet ((go_at_call 40; exact Calls.quiet_of_same (l1In_any _ _ _ _)))
        go_wp2
        go_ret
        exact ⟨ret_bool HN.out.symm, below_drewN HB.out _⟩
    · have hge' : (n : Int) * (n : Int) ≤ (k : Int) := by rw [← Int.natCast_mul]; omega
      have HN : Hid (matB n zs = true) := matB_all n zs h1 h2 HL.out (fun i hi => HO.out i (by omega))
      clear HO g3
      go_wp2
      go_ret
      exact ⟨ret_bool HN.out.symm, HB.out⟩

set_option maxHeartbeats 1000000 in
theorem specMat_no (n : Int) (a : Option Addr) (len cap : Nat) (w : World) (h : ¬ (1 ≤ n ∧ n ≤ 16 ∧ (len : Int) = n * n)) :
    Calls Try.prog 39 #[.agg #[.int .i64 n, .slice a len cap]] w fun e w' => e = .returned (.bool false) ∧ Below w.heap.size w w' := by
  by_cases hn : 1 ≤ n ∧ n ≤ 16
  · obtain ⟨m, rfl⟩ := Int.eq_ofNat_of_zero_le (show 0 ≤ n by omega)
    have hnn : m * m ≤ 256 := mul_bd m m (by omega) (by omega)
    have hd1 : inB (m : Int) 1 16 = true := inB_mk hn
    have hnw : wrap64 ((m : Int) * (m : Int)) = (m : Int) * (m : Int) := IntWalk.wrap64_in _ (by rw [← Int.natCast_mul]; omega)
    have hne : ((len : Int) != (m : Int) * (m : Int)) = true := by
      rw [bne_iff_ne]; exact fun e => h ⟨hn.1, hn.2, e⟩
    clear h
    go_enter Try.func39, Try.ntmps39
    go_wp2_with (go_at_call 40; refine (l1In_any _ _ _ _).mono ?_; rintro e w' ⟨rfl, rfl⟩)
    go_ret
    exact ⟨rfl, (Below.refl _ _).alloc (Nat.le_refl _) _⟩
  · have hd1 : inB n 1 16 = false := inB_not hn
    clear h hn
    go_enter Try.func39, Try.ntmps39
    go_wp2_with (go_at_call 40; refine (l1In_any _ _ _ _).mono ?_; rintro e w' ⟨rfl, rfl⟩)
    go_ret
    exact ⟨rfl, (Below.refl _ _).alloc (Nat.le_refl _) _⟩

theorem specMat_any (n : Int) (a : Option Addr) (cap : Nat) (zs : List Int) (w : World) (hA : IntsAt w a zs) :
    Calls Try.prog 39 #[.agg #[.int .i64 n, .slice a zs.length cap]] w fun e w' => e = .returned (.bool (matB n zs)) ∧ Below w.heap.size w w' := by
  by_cases h : 1 ≤ n ∧ n ≤ 16 ∧ (zs.length : Int) = n * n
  · obtain ⟨m, rfl⟩ := Int.eq_ofNat_of_zero_le (show 0 ≤ n by omega)
    exact specMat_loop m a cap zs w (by omega) (by omega) (by have := h.2.2; rw [← Int.natCast_mul] at this; omega) hA
  · have hm : matB n zs = false := matB_not fun k => h ⟨k.1, k.2.1, k.2.2.1⟩
    rw [hm]
    exact specMat_no n a _ cap w h

end Go.Proofs.Ytonopidjkcmlmaa

namespace Go.Proofs.Ytonopidjkcmlmaa
open Go.RowKit

set_option maxHeartbeats 1000000 in
theorem specCase_no (n fine : Int) (a ao av : Option Addr) (cap ko co kv cv : Nat) (zs os vs : List Int) (w : World) (hA : IntsAt w a zs) (hko : ko ≤ 9223372036854775807) (hkv : kv ≤ 9223372036854775807) (h : ¬ (matB n zs = true ∧ ko ≤ 12 ∧ kv ≤ 5 ∧ inB fine 0 1000000 = true)) :
    Calls Try.prog 15 #[.agg #[.int .i64 n, .slice a zs.length cap, .slice ao ko co, .slice av kv cv, .int .i64 fine]] w fun e w' => e = .returned (.bool (caseB n zs os vs ko kv fine)) ∧ Below w.heap.size w w' := by
  have HB0 : Hid (Below w.heap.size w (w.alloc (Obj.cells #[Value.int IntKind.i64 n, Value.slice a zs.length cap, Value.slice ao ko co, Value.slice av kv cv, Value.int IntKind.i64 fine] 30))) := (Below.refl _ _).alloc (Nat.le_refl _) _
  have HA : Hid (IntsAt w a zs) := hA
  clear hA
  have HC : Hid (caseB n zs os vs ko kv fine = false) := by
    show _ = _
    unfold caseB
    cases h1 : matB n zs
    · rfl
    · cases h2 : ordsB n os ko
      · rfl
      · cases h3 : vehsB n vs kv
        · rfl
        · cases h4 : inB fine 0 1000000
          · rfl
          · exact absurd ⟨h1, (ordsB_true h2).1, (vehsB_true h3).1, h4⟩ h
  cases h1 : matB n zs
  · have HM : Hid _ := h1
    clear h1 h
    go_enter Try.func15, Try.ntmps15
    go_wp2_with fail
    refine (specMat_any n a cap zs _ (HA.out.below HB0.out)).mono ?_
    rintro e w1 ⟨rfl, hb⟩
    rw [HM.out]
    obtain ⟨b1, r1⟩ := box5 hb
    obtain ⟨c0, c1, c2, c3, c4⟩ := cells5 r1
    have B1 : Hid _ := b1
    have R1 : Hid _ := r1
    clear hb b1 r1
    go_wp2_with (first | (go_at_call 40; refine (l1In_any _ _ _ _).mono ?_; rintro e w' ⟨rfl, rfl⟩))
    go_ret
    exact ⟨ret_bool HC.out.symm, B1.out⟩
  · have HM : Hid _ := h1
    by_cases h2 : ko ≤ 12
    · by_cases h3 : kv ≤ 5
      · have h4 : inB fine 0 1000000 = false := by
          cases h4 : inB fine 0 1000000
          · rfl
          · exact absurd ⟨h1, h2, h3, h4⟩ h
        clear h1 h
        go_enter Try.func15, Try.ntmps15
        go_wp2_with fail
        refine (specMat_any n a cap zs _ (HA.out.below HB0.out)).mono ?_
        rintro e w1 ⟨rfl, hb⟩
        rw [HM.out]
        obtain ⟨b1, r1⟩ := box5 hb
        obtain ⟨c0, c1, c2, c3, c4⟩ := cells5 r1
        have B1 : Hid _ := b1
        have R1 : Hid _ := r1
        clear hb b1 r1
        go_wp2_with (first | (go_at_call 40; refine (l1In_any _ _ _ _).mono ?_; rintro e w' ⟨rfl, rfl⟩))
        go_ret
        exact ⟨ret_bool HC.out.symm, B1.out⟩
      · clear h1 h
        go_enter Try.func15, Try.ntmps15
        go_wp2_with fail
        refine (specMat_any n a cap zs _ (HA.out.below HB0.out)).mono ?_
        rintro e w1 ⟨rfl, hb⟩
        rw [HM.out]
        obtain ⟨b1, r1⟩ := box5 hb
        obtain ⟨c0, c1, c2, c3, c4⟩ := cells5 r1
        have B1 : Hid _ := b1
        have R1 : Hid _ := r1
        clear hb b1 r1
        go_wp2_with (first | (go_at_call 40; refine (l1In_any _ _ _ _).mono ?_; rintro e w' ⟨rfl, rfl⟩))
        go_ret
        exact ⟨ret_bool HC.out.symm, B1.out⟩
    · clear h1 h
      go_enter Try.func15, Try.ntmps15
      go_wp2_with fail
      refine (specMat_any n a cap zs _ (HA.out.below HB0.out)).mono ?_
      rintro e w1 ⟨rfl, hb⟩
      rw [HM.out]
      obtain ⟨b1, r1⟩ := box5 hb
      obtain ⟨c0, c1, c2, c3, c4⟩ := cells5 r1
      have B1 : Hid _ := b1
      have R1 : Hid _ := r1
      clear hb b1 r1
      go_wp2_with (first | (go_at_call 40; refine (l1In_any _ _ _ _).mono ?_; rintro e w' ⟨rfl, rfl⟩))
      go_ret
      exact ⟨ret_bool HC.out.symm, B1.out⟩

theorem caseB_def (n : Int) (zs os vs : List Int) (ko kv : Nat) (fine : Int) : caseB n zs os vs ko kv fine = (matB n zs && ordsB n os ko && vehsB n vs kv && inB fine 0 1000000) := rfl

set_option maxHeartbeats 2000000 in
theorem specCase_loop (n fine : Int) (a ao av : Option Addr) (cap ko co kv cv : Nat) (zs os vs : List Int) (w : World) (hA : IntsAt w a zs) (hO : IntsAt w ao os) (hV : IntsAt w av vs) (hlo : os.length = ko * 6) (hlv : vs.length = kv * 5) (hm : matB n zs = true) (hko : ko ≤ 12) (hkv : kv ≤ 5) (hf : inB fine 0 1000000 = true) :
    Calls Try.prog 15 #[.agg #[.int .i64 n, .slice a zs.length cap, .slice ao ko co, .slice av kv cv, .int .i64 fine]] w fun e w' => e = .returned (.bool (caseB n zs os vs ko kv fine)) ∧ Below w.heap.size w w' := by
  have HB0 : Hid (Below w.heap.size w (w.alloc (Obj.cells #[Value.int IntKind.i64 n, Value.slice a zs.length cap, Value.slice ao ko co, Value.slice av kv cv, Value.int IntKind.i64 fine] 30))) := (Below.refl _ _).alloc (Nat.le_refl _) _
  have HA : Hid (IntsAt w a zs) := hA
  have HX6 : Hid (IntsAt w ao os) := hO
  have HX5 : Hid (IntsAt w av vs) := hV
  have HLX6 : Hid (os.length = ko * 6) := hlo
  have HLX5 : Hid (vs.length = kv * 5) := hlv
  have HM : Hid _ := hm
  obtain ⟨hn1, hn2, _, _⟩ := matB_true hm
  have hdk : decide ((12 : Int) < (ko : Int)) = false := by simp; omega
  have hdv : decide ((5 : Int) < (kv : Int)) = false := by simp; omega
  clear hA hO hV hlo hlv hm
  go_enter Try.func15, Try.ntmps15
  go_wp2_with fail
  refine (specMat_any n a cap zs _ (HA.out.below HB0.out)).mono ?_
  rintro e w1 ⟨rfl, hb⟩
  rw [HM.out]
  obtain ⟨b1, r1⟩ := box5 hb
  obtain ⟨c0, c1, c2, c3, c4⟩ := cells5 r1
  have B1 : Hid _ := b1
  have R1 : Hid _ := r1
  clear hb b1 r1
  go_wp2_with (first | (go_at_call 40; refine (l1In_any _ _ _ _).mono ?_; rintro e w' ⟨rfl, rfl⟩))
  clear c0 c1 c2 c3 c4
  go_loopw [3] (fun t wr => ∃ k : Nat, k ≤ ko ∧ t = .int .i64 k ∧ ordsTo n os k ∧ Below w.heap.size w wr ∧ wr.heap[w.heap.size]? = some (.cells #[Value.int IntKind.i64 n, Value.slice a zs.length cap, Value.slice ao ko co, Value.slice av kv cv, Value.int IntKind.i64 fine] 30 (0, 0))) (fun t _ => ko - (intOf t).toNat)
  case atStart => exact ⟨0, Nat.zero_le _, rfl, ordsTo_zero _ _, B1.out, R1.out⟩
  case round =>
    clear B1 R1
    obtain ⟨k, hk, rfl, ht, hb, g3⟩ := hrel
    have HT : Hid _ := ht
    have G3 : Hid _ := g3
    have HB : Hid _ := hb
    obtain ⟨c0, c1, c2, c3, c4⟩ := cells5 g3
    clear ht
    by_cases hlt : k < ko
    · obtain ⟨b, off, rfl, hcs⟩ := IntsAt.some (IntsAt.below HX6.out hb) (j := k * 6) (by rw [HLX6.out]; omega)
      obtain ⟨r0, r1, r2, r3, r4, r5⟩ := row6_at hcs HLX6.out k hlt
      have HCS : Hid _ := hcs
      clear hcs g3 hb
      obtain ⟨o0, H0⟩ : ∃ t, Hid (og6 os k 0 = t) := ⟨_, rfl⟩
      obtain ⟨o1, H1⟩ : ∃ t, Hid (og6 os k 1 = t) := ⟨_, rfl⟩
      obtain ⟨o2, H2⟩ : ∃ t, Hid (og6 os k 2 = t) := ⟨_, rfl⟩
      obtain ⟨o3, H3⟩ : ∃ t, Hid (og6 os k 3 = t) := ⟨_, rfl⟩
      obtain ⟨o4, H4⟩ : ∃ t, Hid (og6 os k 4 = t) := ⟨_, rfl⟩
      obtain ⟨o5, H5⟩ : ∃ t, Hid (og6 os k 5 = t) := ⟨_, rfl⟩
      rw [H0.out] at r0
      rw [H1.out] at r1
      rw [H2.out] at r2
      rw [H3.out] at r3
      rw [H4.out] at r4
      rw [H5.out] at r5
      have s0 := fun s : Kin wr => s.cell c0
      have s1 := fun s : Kin wr => s.cell c2
      have t0 := fun s : Kin wr => s.cell r0
      have t1 := fun s : Kin wr => s.cell r1
      have t2 := fun s : Kin wr => s.cell r2
      have t3 := fun s : Kin wr => s.cell r3
      have t4 := fun s : Kin wr => s.cell r4
      have t5 := fun s : Kin wr => s.cell r5
      cases h1 : ordB n o0 o1 o2 o3 o4 o5
      · have HN : Hid (ordsB n os ko = false) := ordsB_bad hlt (by rw [H0.out, H1.out, H2.out, H3.out, H4.out, H5.out, h1]; simp)
        go_wp2_with fail
        have hkin := Kin.there wr
        refine wp_region_kin (by kernel_rfl) (by kernel_rfl) ?_
        repeat (go_big_quiet_step ((go_at_call 41; exact Kin.call (l2Order_any n _ _ _ _ _ _ _ hn1 hn2))))
        refine wpQuiet_nil ?_
        rintro _ ⟨s, rfl⟩
        have HS2 := HB.out.trans (s.below.mono HB.out.size)
        have R2 := below_row s.below (row_lt G3.out) G3.out
        generalize s.w = w2 at *
        go_wp2
        go_ret
        exact ⟨ret_bool (by simp [caseB_def, HN.out]), HS2⟩
      · by_cases hk0 : k = 0
        · have HS : Hid (ordsTo n os (k + 1)) := ordsTo_step HT.out (by rw [H0.out, H1.out, H2.out, H3.out, H4.out, H5.out]; exact h1) (fun h => by omega)
          have hkz : (decide (0 < k)) = false := by simp; omega
          have hk1 : k ≤ 0 := by omega
          clear hk0
          go_wp2_with fail
          have hkin := Kin.there wr
          refine wp_region_kin (by kernel_rfl) (by kernel_rfl) ?_
          repeat (go_big_quiet_step ((go_at_call 41; exact Kin.call (l2Order_any n _ _ _ _ _ _ _ hn1 hn2))))
          refine wpQuiet_nil ?_
          rintro _ ⟨s, rfl⟩
          have HS2 := HB.out.trans (s.below.mono HB.out.size)
          have R2 := below_row s.below (row_lt G3.out) G3.out
          generalize s.w = w2 at *
          go_wp2
          refine ⟨⟨k + 1, by omega, by go_num, HS.out, HS2, R2⟩, by simp [intOf]; omega⟩
        · have hk1 : 0 < k := by omega
          obtain ⟨rp, _⟩ := row6_at HCS.out HLX6.out (k - 1) (by omega)
          obtain ⟨p, HP⟩ : ∃ t, Hid (og6 os (k - 1) 0 = t) := ⟨_, rfl⟩
          rw [HP.out] at rp
          have tp := fun s : Kin wr => s.cell rp
          have hkm : k - 1 < ko := by omega
          have hw1 : IntKind.i64.wrap ((k : Int) - 1) = ((k - 1 : Nat) : Int) := by
            rw [IntKind.wrap_i64]; omega
          clear hk0
          by_cases hp : p < o0
          · have HS : Hid (ordsTo n os (k + 1)) := ordsTo_step HT.out (by rw [H0.out, H1.out, H2.out, H3.out, H4.out, H5.out]; exact h1) (fun _ => by rw [HP.out, H0.out]; exact hp)
            go_wp2_with fail
            have hkin := Kin.there wr
            refine wp_region_kin (by kernel_rfl) (by kernel_rfl) ?_
            repeat (go_big_quiet_step ((go_at_call 41; exact Kin.call (l2Order_any n _ _ _ _ _ _ _ hn1 hn2))))
            refine wpQuiet_nil ?_
            rintro _ ⟨s, rfl⟩
            have HS2 := HB.out.trans (s.below.mono HB.out.size)
            have R2 := below_row s.below (row_lt G3.out) G3.out
            generalize s.w = w2 at *
            go_wp2
            refine ⟨⟨k + 1, by omega, by go_num, HS.out, HS2, R2⟩, by simp [intOf]; omega⟩
          · have HN : Hid (ordsB n os ko = false) := ordsB_bad hlt (fun h => hp (by have := h.2 hk1; rw [HP.out, H0.out] at this; exact this))
            go_wp2_with fail
            have hkin := Kin.there wr
            refine wp_region_kin (by kernel_rfl) (by kernel_rfl) ?_
            repeat (go_big_quiet_step ((go_at_call 41; exact Kin.call (l2Order_any n _ _ _ _ _ _ _ hn1 hn2))))
            refine wpQuiet_nil ?_
            rintro _ ⟨s, rfl⟩
            have HS2 := HB.out.trans (s.below.mono HB.out.size)
            have R2 := below_row s.below (row_lt G3.out) G3.out
            generalize s.w = w2 at *
            go_wp2
            go_ret
            exact ⟨ret_bool (by simp [caseB_def, HN.out]), HS2⟩
    · have hkx : k = ko := by omega
      have HN : Hid (ordsB n os ko = true) := ordsB_yes (by omega) (hkx ▸ HT.out)
      clear hkx g3 hb
      go_wp2_with fail
      clear c0 c1 c2 c3 c4
      have HO2 : Hid (ordsB n os ko = true) := HN.out
      go_loopw [4] (fun t wr => ∃ k : Nat, k ≤ kv ∧ t = .int .i64 k ∧ vehsTo n vs k ∧ Below w.heap.size w wr ∧ wr.heap[w.heap.size]? = some (.cells #[Value.int IntKind.i64 n, Value.slice a zs.length cap, Value.slice ao ko co, Value.slice av kv cv, Value.int IntKind.i64 fine] 30 (0, 0))) (fun t _ => kv - (intOf t).toNat)
      case atStart => exact ⟨0, Nat.zero_le _, rfl, vehsTo_zero _ _, HB.out, G3.out⟩
      case round =>
        clear HT G3 HB HN
        obtain ⟨k, hk, rfl, ht, hb, g3⟩ := hrel
        have HT : Hid _ := ht
        have G3 : Hid _ := g3
        have HB : Hid _ := hb
        obtain ⟨c0, c1, c2, c3, c4⟩ := cells5 g3
        clear ht
        by_cases hlt : k < kv
        · obtain ⟨b, off, rfl, hcs⟩ := IntsAt.some (IntsAt.below HX5.out hb) (j := k * 5) (by rw [HLX5.out]; omega)
          obtain ⟨r0, r1, r2, r3, r4⟩ := row5_at hcs HLX5.out k hlt
          have HCS : Hid _ := hcs
          clear hcs g3 hb
          obtain ⟨o0, H0⟩ : ∃ t, Hid (og5 vs k 0 = t) := ⟨_, rfl⟩
          obtain ⟨o1, H1⟩ : ∃ t, Hid (og5 vs k 1 = t) := ⟨_, rfl⟩
          obtain ⟨o2, H2⟩ : ∃ t, Hid (og5 vs k 2 = t) := ⟨_, rfl⟩
          obtain ⟨o3, H3⟩ : ∃ t, Hid (og5 vs k 3 = t) := ⟨_, rfl⟩
          obtain ⟨o4, H4⟩ : ∃ t, Hid (og5 vs k 4 = t) := ⟨_, rfl⟩
          rw [H0.out] at r0
          rw [H1.out] at r1
          rw [H2.out] at r2
          rw [H3.out] at r3
          rw [H4.out] at r4
          have s0 := fun s : Kin wr => s.cell c0
          have s1 := fun s : Kin wr => s.cell c3
          have t0 := fun s : Kin wr => s.cell r0
          have t1 := fun s : Kin wr => s.cell r1
          have t2 := fun s : Kin wr => s.cell r2
          have t3 := fun s : Kin wr => s.cell r3
          have t4 := fun s : Kin wr => s.cell r4
          cases h1 : vehB n o0 o1 o2 o3 o4
          · have HN : Hid (vehsB n vs kv = false) := vehsB_bad hlt (by rw [H0.out, H1.out, H2.out, H3.out, H4.out, h1]; simp)
            go_wp2_with fail
            have hkin := Kin.there wr
            refine wp_region_kin (by kernel_rfl) (by kernel_rfl) ?_
            repeat (go_big_quiet_step ((go_at_call 42; exact Kin.call (l2Vehicle_any n _ _ _ _ _ _ hn1 hn2))))
            refine wpQuiet_nil ?_
            rintro _ ⟨s, rfl⟩
            have HS2 := HB.out.trans (s.below.mono HB.out.size)
            have R2 := below_row s.below (row_lt G3.out) G3.out
            generalize s.w = w2 at *
            go_wp2
            go_ret
            exact ⟨ret_bool (by simp [caseB_def, HN.out]), HS2⟩
          · by_cases hk0 : k = 0
            · have HS : Hid (vehsTo n vs (k + 1)) := vehsTo_step HT.out (by rw [H0.out, H1.out, H2.out, H3.out, H4.out]; exact h1) (fun h => by omega)
              have hkz : (decide (0 < k)) = false := by simp; omega
              have hk1 : k ≤ 0 := by omega
              clear hk0
              go_wp2_with fail
              have hkin := Kin.there wr
              refine wp_region_kin (by kernel_rfl) (by kernel_rfl) ?_
              repeat (go_big_quiet_step ((go_at_call 42; exact Kin.call (l2Vehicle_any n _ _ _ _ _ _ hn1 hn2))))
              refine wpQuiet_nil ?_
              rintro _ ⟨s, rfl⟩
              have HS2 := HB.out.trans (s.below.mono HB.out.size)
              have R2 := below_row s.below (row_lt G3.out) G3.out
              generalize s.w = w2 at *
              go_wp2
              refine ⟨⟨k + 1, by omega, by go_num, HS.out, HS2, R2⟩, by simp [intOf]; omega⟩
            · have hk1 : 0 < k := by omega
              obtain ⟨rp, _⟩ := row5_at HCS.out HLX5.out (k - 1) (by omega)
              obtain ⟨p, HP⟩ : ∃ t, Hid (og5 vs (k - 1) 0 = t) := ⟨_, rfl⟩
              rw [HP.out] at rp
              have tp := fun s : Kin wr => s.cell rp
              have hkm : k - 1 < kv := by omega
              have hw1 : IntKind.i64.wrap ((k : Int) - 1) = ((k - 1 : Nat) : Int) := by
                rw [IntKind.wrap_i64]; omega
              clear hk0
              by_cases hp : p < o0
              · have HS : Hid (vehsTo n vs (k + 1)) := vehsTo_step HT.out (by rw [H0.out, H1.out, H2.out, H3.out, H4.out]; exact h1) (fun _ => by rw [HP.out, H0.out]; exact hp)
                go_wp2_with fail
                have hkin := Kin.there wr
                refine wp_region_kin (by kernel_rfl) (by kernel_rfl) ?_
                repeat (go_big_quiet_step ((go_at_call 42; exact Kin.call (l2Vehicle_any n _ _ _ _ _ _ hn1 hn2))))
                refine wpQuiet_nil ?_
                rintro _ ⟨s, rfl⟩
                have HS2 := HB.out.trans (s.below.mono HB.out.size)
                have R2 := below_row s.below (row_lt G3.out) G3.out
                generalize s.w = w2 at *
                go_wp2
                refine ⟨⟨k + 1, by omega, by go_num, HS.out, HS2, R2⟩, by simp [intOf]; omega⟩
              · have HN : Hid (vehsB n vs kv = false) := vehsB_bad hlt (fun h => hp (by have := h.2 hk1; rw [HP.out, H0.out] at this; exact this))
                go_wp2_with fail
                have hkin := Kin.there wr
                refine wp_region_kin (by kernel_rfl) (by kernel_rfl) ?_
                repeat (go_big_quiet_step ((go_at_call 42; exact Kin.call (l2Vehicle_any n _ _ _ _ _ _ hn1 hn2))))
                refine wpQuiet_nil ?_
                rintro _ ⟨s, rfl⟩
                have HS2 := HB.out.trans (s.below.mono HB.out.size)
                have R2 := below_row s.below (row_lt G3.out) G3.out
                generalize s.w = w2 at *
                go_wp2
                go_ret
                exact ⟨ret_bool (by simp [caseB_def, HN.out]), HS2⟩
        · have hkx : k = kv := by omega
          have HN : Hid (vehsB n vs kv = true) := vehsB_yes (by omega) (hkx ▸ HT.out)
          clear hkx g3 hb
          go_wp2
          go_ret
          exact ⟨ret_bool (by rw [caseB_def, HM.out, HO2.out, HN.out, hf]; rfl), HB.out⟩

theorem specCase_any (n fine : Int) (a ao av : Option Addr) (cap ko co kv cv : Nat) (zs os vs : List Int) (w : World) (hA : IntsAt w a zs) (hO : IntsAt w ao os) (hV : IntsAt w av vs) (hlo : os.length = ko * 6) (hlv : vs.length = kv * 5) (hko : ko ≤ 9223372036854775807) (hkv : kv ≤ 9223372036854775807) :
    Calls Try.prog 15 #[.agg #[.int .i64 n, .slice a zs.length cap, .slice ao ko co, .slice av kv cv, .int .i64 fine]] w fun e w' => e = .returned (.bool (caseB n zs os vs ko kv fine)) ∧ Below w.heap.size w w' := by
  by_cases h : matB n zs = true ∧ ko ≤ 12 ∧ kv ≤ 5 ∧ inB fine 0 1000000 = true
  · exact specCase_loop n fine a ao av cap ko co kv cv zs os vs w hA hO hV hlo hlv h.1 h.2.1 h.2.2.1 h.2.2.2
  · exact specCase_no n fine a ao av cap ko co kv cv zs os vs w hA hko hkv h

end Go.Proofs.Ytonopidjkcmlmaa

namespace Go.Proofs.Ytonopidjkcmlmaa
open Go.RowKit

set_option maxHeartbeats 400000 in
theorem within_any (n lo hi : Int) (w : World) :
    Calls Try.prog 76 #[.int .i64 n, .int .i64 lo, .int .i64 hi] w fun e w' => e = .returned (.bool (inB n lo hi)) ∧ w' = w := by
  by_cases h1 : lo ≤ n
  · by_cases h2 : n ≤ hi
    · have h3 : inB n lo hi = true := inB_mk ⟨h1, h2⟩
      rw [h3]
      go_enter Try.func76, Try.ntmps76
      go_wp2
      go_ret
      exact ⟨by simp, rfl⟩
    · have h3 : inB n lo hi = false := inB_not (by omega)
      rw [h3]
      go_enter Try.func76, Try.ntmps76
      go_wp2
      go_ret
      exact ⟨by simp, rfl⟩
  · have h3 : inB n lo hi = false := inB_not (by omega)
    rw [h3]
    go_enter Try.func76, Try.ntmps76
    go_wp2
    go_ret
    exact ⟨by simp, rfl⟩

end Go.Proofs.Ytonopidjkcmlmaa

namespace Go.Proofs.Ytonopidjkcmlmaa
open Go.RowKit

set_option maxHeartbeats 400000 in
theorem isPlace_any (n p : Int) (s : Value) (w : World) (h1 : 1 ≤ n) (h2 : n ≤ 16) :
    Calls Try.prog 114 #[.agg #[.int .i64 n, s], .int .i64 p] w fun e w' => e = .returned (.bool (inB p 0 (n - 1))) ∧ Below w.heap.size w w' := by
  go_enter Try.func114, Try.ntmps114
  go_wp2_with (go_at_call 76; refine (within_any _ _ _ _).mono ?_; rintro e w' ⟨rfl, rfl⟩)
  go_ret
  exact ⟨rfl, (Below.refl _ _).alloc (Nat.le_refl _) _⟩

end Go.Proofs.Ytonopidjkcmlmaa

namespace Go.Proofs.Ytonopidjkcmlmaa
open Go.RowKit

set_option maxHeartbeats 400000 in
theorem hoursOk_any (f t : Int) (w : World) :
    Calls Try.prog 115 #[.int .i64 f, .int .i64 t] w fun e w' => e = .returned (.bool (hoursB f t)) ∧ w' = w := by
  by_cases h1 : 0 ≤ f
  · by_cases h2 : f ≤ t
    · by_cases h3 : t ≤ 1000000
      · rw [hoursB_mk h1 h2 h3]
        go_enter Try.func115, Try.ntmps115
        go_wp2
        go_ret
        exact ⟨by simp, rfl⟩
      · rw [hoursB_not (by omega)]
        go_enter Try.func115, Try.ntmps115
        go_wp2
        go_ret
        exact ⟨by simp, rfl⟩
    · rw [hoursB_not (by omega)]
      go_enter Try.func115, Try.ntmps115
      go_wp2
      go_ret
      exact ⟨by simp, rfl⟩
  · rw [hoursB_not (by omega)]
    go_enter Try.func115, Try.ntmps115
    go_wp2
    go_ret
    exact ⟨by simp, rfl⟩

end Go.Proofs.Ytonopidjkcmlmaa

namespace Go.Proofs.Ytonopidjkcmlmaa
open Go.RowKit

set_option maxHeartbeats 400000 in
theorem orderOk_any (n o0 o1 o2 o3 o4 o5 : Int) (s : Value) (w : World) (hn1 : 1 ≤ n) (hn2 : n ≤ 16) :
    Calls Try.prog 100 #[.agg #[.int .i64 n, s], .agg #[.int .i64 o0, .int .i64 o1, .int .i64 o2, .int .i64 o3, .int .i64 o4, .int .i64 o5]] w fun e w' => e = .returned (.bool (ordIn n o1 o2 o3 o4 o5)) ∧ Below w.heap.size w w' := by
  have HB0 : Hid (Below w.heap.size w ((w.alloc (Obj.cells #[Value.int IntKind.i64 n, s] 26)).alloc (Obj.cells #[Value.int IntKind.i64 o0, Value.int IntKind.i64 o1, Value.int IntKind.i64 o2, Value.int IntKind.i64 o3, Value.int IntKind.i64 o4, Value.int IntKind.i64 o5] 43))) := ((Below.refl _ _).alloc (Nat.le_refl _) _).alloc (by simp) _
  have R0 : Hid (((w.alloc (Obj.cells #[Value.int IntKind.i64 n, s] 26)).alloc (Obj.cells #[Value.int IntKind.i64 o0, Value.int IntKind.i64 o1, Value.int IntKind.i64 o2, Value.int IntKind.i64 o3, Value.int IntKind.i64 o4, Value.int IntKind.i64 o5] 43)).heap[w.heap.size + 1]? = some (.cells #[Value.int IntKind.i64 o0, Value.int IntKind.i64 o1, Value.int IntKind.i64 o2, Value.int IntKind.i64 o3, Value.int IntKind.i64 o4, Value.int IntKind.i64 o5] 43 (0, 0))) := heap_alloc2_new _ _ _
  have HLT : Hid (w.heap.size + 1 < ((w.alloc (Obj.cells #[Value.int IntKind.i64 n, s] 26)).alloc (Obj.cells #[Value.int IntKind.i64 o0, Value.int IntKind.i64 o1, Value.int IntKind.i64 o2, Value.int IntKind.i64 o3, Value.int IntKind.i64 o4, Value.int IntKind.i64 o5] 43)).heap.size) := by
    show _ < _
    simp
  cases h0 : inB o1 0 (n - 1)
  · go_enter Try.func100, Try.ntmps100
    go_wp2_with (first
      | (go_at_call 114
         refine (isPlace_any _ _ _ _ hn1 hn2).mono ?_
         rintro e w2 ⟨rfl, hb2⟩
         have BL := HB0.out.trans (hb2.mono HB0.out.size)
         obtain ⟨k0, k1, k2, k3, k4, k5⟩ := cells6 (below_row hb2 HLT.out R0.out)
         clear hb2)
      | (go_at_call 76; refine (within_any _ _ _ _).mono ?_; rintro e w' ⟨rfl, rfl⟩)
      | (go_at_call 115; refine (hoursOk_any _ _ _).mono ?_; rintro e w' ⟨rfl, rfl⟩))
    go_ret
    exact ⟨ret_bool (by simp [ordIn, h0]), BL⟩
  · cases h1 : inB o2 0 1000
    · go_enter Try.func100, Try.ntmps100
      go_wp2_with (first
        | (go_at_call 114
           refine (isPlace_any _ _ _ _ hn1 hn2).mono ?_
           rintro e w2 ⟨rfl, hb2⟩
           have BL := HB0.out.trans (hb2.mono HB0.out.size)
           obtain ⟨k0, k1, k2, k3, k4, k5⟩ := cells6 (below_row hb2 HLT.out R0.out)
           clear hb2)
        | (go_at_call 76; refine (within_any _ _ _ _).mono ?_; rintro e w' ⟨rfl, rfl⟩)
        | (go_at_call 115; refine (hoursOk_any _ _ _).mono ?_; rintro e w' ⟨rfl, rfl⟩))
      go_ret
      exact ⟨ret_bool (by simp [ordIn, h0, h1]), BL⟩
    · cases h2 : hoursB o3 o4
      · go_enter Try.func100, Try.ntmps100
        go_wp2_with (first
          | (go_at_call 114
             refine (isPlace_any _ _ _ _ hn1 hn2).mono ?_
             rintro e w2 ⟨rfl, hb2⟩
             have BL := HB0.out.trans (hb2.mono HB0.out.size)
             obtain ⟨k0, k1, k2, k3, k4, k5⟩ := cells6 (below_row hb2 HLT.out R0.out)
             clear hb2)
          | (go_at_call 76; refine (within_any _ _ _ _).mono ?_; rintro e w' ⟨rfl, rfl⟩)
          | (go_at_call 115; refine (hoursOk_any _ _ _).mono ?_; rintro e w' ⟨rfl, rfl⟩))
        go_ret
        exact ⟨ret_bool (by simp [ordIn, h0, h1, h2]), BL⟩
      · cases h3 : inB o5 0 10000
        · go_enter Try.func100, Try.ntmps100
          go_wp2_with (first
            | (go_at_call 114
               refine (isPlace_any _ _ _ _ hn1 hn2).mono ?_
               rintro e w2 ⟨rfl, hb2⟩
               have BL := HB0.out.trans (hb2.mono HB0.out.size)
               obtain ⟨k0, k1, k2, k3, k4, k5⟩ := cells6 (below_row hb2 HLT.out R0.out)
               clear hb2)
            | (go_at_call 76; refine (within_any _ _ _ _).mono ?_; rintro e w' ⟨rfl, rfl⟩)
            | (go_at_call 115; refine (hoursOk_any _ _ _).mono ?_; rintro e w' ⟨rfl, rfl⟩))
          go_ret
          exact ⟨ret_bool (by simp [ordIn, h0, h1, h2, h3]), BL⟩
        · go_enter Try.func100, Try.ntmps100
          go_wp2_with (first
            | (go_at_call 114
               refine (isPlace_any _ _ _ _ hn1 hn2).mono ?_
               rintro e w2 ⟨rfl, hb2⟩
               have BL := HB0.out.trans (hb2.mono HB0.out.size)
               obtain ⟨k0, k1, k2, k3, k4, k5⟩ := cells6 (below_row hb2 HLT.out R0.out)
               clear hb2)
            | (go_at_call 76; refine (within_any _ _ _ _).mono ?_; rintro e w' ⟨rfl, rfl⟩)
            | (go_at_call 115; refine (hoursOk_any _ _ _).mono ?_; rintro e w' ⟨rfl, rfl⟩))
          go_ret
          exact ⟨ret_bool (by simp [ordIn, h0, h1, h2, h3]), BL⟩

set_option maxHeartbeats 400000 in
theorem vehicleOk_any (n o0 o1 o2 o3 o4 : Int) (s : Value) (w : World) (hn1 : 1 ≤ n) (hn2 : n ≤ 16) :
    Calls Try.prog 101 #[.agg #[.int .i64 n, s], .agg #[.int .i64 o0, .int .i64 o1, .int .i64 o2, .int .i64 o3, .int .i64 o4]] w fun e w' => e = .returned (.bool (vehIn n o1 o2 o3 o4)) ∧ Below w.heap.size w w' := by
  have HB0 : Hid (Below w.heap.size w ((w.alloc (Obj.cells #[Value.int IntKind.i64 n, s] 26)).alloc (Obj.cells #[Value.int IntKind.i64 o0, Value.int IntKind.i64 o1, Value.int IntKind.i64 o2, Value.int IntKind.i64 o3, Value.int IntKind.i64 o4] 78))) := ((Below.refl _ _).alloc (Nat.le_refl _) _).alloc (by simp) _
  have R0 : Hid (((w.alloc (Obj.cells #[Value.int IntKind.i64 n, s] 26)).alloc (Obj.cells #[Value.int IntKind.i64 o0, Value.int IntKind.i64 o1, Value.int IntKind.i64 o2, Value.int IntKind.i64 o3, Value.int IntKind.i64 o4] 78)).heap[w.heap.size + 1]? = some (.cells #[Value.int IntKind.i64 o0, Value.int IntKind.i64 o1, Value.int IntKind.i64 o2, Value.int IntKind.i64 o3, Value.int IntKind.i64 o4] 78 (0, 0))) := heap_alloc2_new _ _ _
  have HLT : Hid (w.heap.size + 1 < ((w.alloc (Obj.cells #[Value.int IntKind.i64 n, s] 26)).alloc (Obj.cells #[Value.int IntKind.i64 o0, Value.int IntKind.i64 o1, Value.int IntKind.i64 o2, Value.int IntKind.i64 o3, Value.int IntKind.i64 o4] 78)).heap.size) := by
    show _ < _
    simp
  cases h0 : inB o1 0 (n - 1)
  · go_enter Try.func101, Try.ntmps101
    go_wp2_with (first
      | (go_at_call 114
         refine (isPlace_any _ _ _ _ hn1 hn2).mono ?_
         rintro e w2 ⟨rfl, hb2⟩
         have BL := HB0.out.trans (hb2.mono HB0.out.size)
         obtain ⟨k0, k1, k2, k3, k4⟩ := cells5 (below_row hb2 HLT.out R0.out)
         clear hb2)
      | (go_at_call 76; refine (within_any _ _ _ _).mono ?_; rintro e w' ⟨rfl, rfl⟩)
      | (go_at_call 115; refine (hoursOk_any _ _ _).mono ?_; rintro e w' ⟨rfl, rfl⟩))
    go_ret
    exact ⟨ret_bool (by simp [vehIn, h0]), BL⟩
  · cases h1 : inB o2 0 1000
    · go_enter Try.func101, Try.ntmps101
      go_wp2_with (first
        | (go_at_call 114
           refine (isPlace_any _ _ _ _ hn1 hn2).mono ?_
           rintro e w2 ⟨rfl, hb2⟩
           have BL := HB0.out.trans (hb2.mono HB0.out.size)
           obtain ⟨k0, k1, k2, k3, k4⟩ := cells5 (below_row hb2 HLT.out R0.out)
           clear hb2)
        | (go_at_call 76; refine (within_any _ _ _ _).mono ?_; rintro e w' ⟨rfl, rfl⟩)
        | (go_at_call 115; refine (hoursOk_any _ _ _).mono ?_; rintro e w' ⟨rfl, rfl⟩))
      go_ret
      exact ⟨ret_bool (by simp [vehIn, h0, h1]), BL⟩
    · cases h2 : hoursB o3 o4
      · go_enter Try.func101, Try.ntmps101
        go_wp2_with (first
          | (go_at_call 114
             refine (isPlace_any _ _ _ _ hn1 hn2).mono ?_
             rintro e w2 ⟨rfl, hb2⟩
             have BL := HB0.out.trans (hb2.mono HB0.out.size)
             obtain ⟨k0, k1, k2, k3, k4⟩ := cells5 (below_row hb2 HLT.out R0.out)
             clear hb2)
          | (go_at_call 76; refine (within_any _ _ _ _).mono ?_; rintro e w' ⟨rfl, rfl⟩)
          | (go_at_call 115; refine (hoursOk_any _ _ _).mono ?_; rintro e w' ⟨rfl, rfl⟩))
        go_ret
        exact ⟨ret_bool (by simp [vehIn, h0, h1, h2]), BL⟩
      · go_enter Try.func101, Try.ntmps101
        go_wp2_with (first
          | (go_at_call 114
             refine (isPlace_any _ _ _ _ hn1 hn2).mono ?_
             rintro e w2 ⟨rfl, hb2⟩
             have BL := HB0.out.trans (hb2.mono HB0.out.size)
             obtain ⟨k0, k1, k2, k3, k4⟩ := cells5 (below_row hb2 HLT.out R0.out)
             clear hb2)
          | (go_at_call 76; refine (within_any _ _ _ _).mono ?_; rintro e w' ⟨rfl, rfl⟩)
          | (go_at_call 115; refine (hoursOk_any _ _ _).mono ?_; rintro e w' ⟨rfl, rfl⟩))
        go_ret
        exact ⟨ret_bool (by simp [vehIn, h0, h1, h2]), BL⟩

end Go.Proofs.Ytonopidjkcmlmaa

namespace Go.Proofs.Ytonopidjkcmlmaa
open Go.RowKit

set_option maxHeartbeats 400000 in
theorem toInts_any (a : Option Addr) (cap : Nat) (zs : List Int) (w : World) (hA : IntsAt w a zs) (hlen : zs.length ≤ 1048576) :
    Calls Try.prog 57 #[.slice a zs.length cap] w fun e w' => e = .returned (.slice (some ⟨w.heap.size, 0, none⟩) zs.length zs.length) ∧ Below w.heap.size w w' ∧ w'.heap.size = w.heap.size + 1 ∧ w'.heap[w.heap.size]? = some (.cells (cellsOf zs) 2 (0, 0)) := by
  have HA : Hid (IntsAt w a zs) := hA
  clear hA
  have hmk := fun W => make_ints W zs.length hlen
  go_enter Try.func57, Try.ntmps57
  go_wp2_with fail
  clear hmk
  go_loopw [4] (fun t wr => ∃ k : Nat, k ≤ zs.length ∧ t = .int .i64 k ∧ Below w.heap.size w wr ∧ wr.heap.size = w.heap.size + 1 ∧ wr.heap[w.heap.size]? = some (.cells (cellsOf (zs.take k ++ List.replicate (zs.length - k) 0)) 2 (0, 0))) (fun t _ => zs.length - (intOf t).toNat)
  case atStart =>
    refine ⟨0, Nat.zero_le _, rfl, (Below.refl _ _).alloc (Nat.le_refl _) _, by simp, ?_⟩
    simpa using heap_alloc_new w _
  case round =>
    obtain ⟨k, hk, rfl, hb, hsz, hg⟩ := hrel
    by_cases hlt : k < zs.length
    · obtain ⟨bb, off, rfl, hcs⟩ := IntsAt.some (IntsAt.below HA.out hb) hlt
      have ct := hcs k hlt
      clear hcs
      generalize htt : zs.getD k 0 = t at ct
      have HT : Hid (zs.getD k 0 = t) := htt
      clear htt
      have cg := cell_of_row _ _ k _ _ _ hg
      rw [cellsOf_get _ _ (by simp; omega)] at cg
      have fg := frozen_of_row _ _ k _ _ hg
      have HG : Hid _ := hg
      have HZ : Hid _ := hsz
      have HB : Hid _ := hb
      clear hg hsz hb
      go_wp2
      refine ⟨⟨k + 1, by omega, by go_num, HB.out.setCell (Nat.le_refl _) _, ?_, ?_⟩, by simp [intOf]; omega⟩
      · have := HZ.out
        simpa [World.setCell] using this
      · rw [heap_setCell_same _ _ _ _ _ _ HG.out, cellsOf_set, ← HT.out, copy_step zs k hlt]
    · have hkz : k = zs.length := by omega
      have HG : Hid (wr.heap[w.heap.size]? = some (.cells (cellsOf zs) 2 (0, 0))) := by
        show _ = _
        rw [hg, hkz]; simp
      have HZ : Hid _ := hsz
      clear hg hsz hkz
      go_wp2
      go_ret
      exact ⟨rfl, hb, HZ.out, HG.out⟩

end Go.Proofs.Ytonopidjkcmlmaa

namespace Go.Proofs.Ytonopidjkcmlmaa
open Go.RowKit

set_option maxHeartbeats 400000 in
theorem toRoute_any (n : Int) (a : Option Addr) (cap : Nat) (zs : List Int) (w : World) (hA : IntsAt w a zs) (hlen : zs.length ≤ 1048576) :
    Calls Try.prog 90 #[.agg #[.int .i64 n, .slice a zs.length cap]] w fun e w' => ∃ g, w.heap.size ≤ g ∧ e = .returned (.agg #[.int .i64 n, .slice (some ⟨g, 0, none⟩) zs.length zs.length]) ∧ Below w.heap.size w w' ∧ w'.heap[g]? = some (.cells (cellsOf zs) 2 (0, 0)) := by
  have HA : Hid (IntsAt w a zs) := hA
  clear hA
  go_enter Try.func90, Try.ntmps90
  go_wp2_with fail
  have HB0 : Hid (Below w.heap.size w (((w.alloc (Obj.cells #[Value.int IntKind.i64 n, Value.slice a zs.length cap] 125)).alloc (Obj.cells #[Value.int IntKind.i64 0, Value.slice none 0 0] 46)).alloc (Obj.cells #[Value.int IntKind.i64 n, Value.slice none 0 0] 46))) :=
    (((Below.refl _ _).alloc (Nat.le_refl _) _).alloc (by simp) _).alloc (by simp; omega) _
  refine (toInts_any a cap zs _ (HA.out.below HB0.out) hlen).mono ?_
  rintro e w1 ⟨rfl, hb, hsz, hg⟩
  obtain ⟨hc, hf⟩ := bcell hb
  have HB1 : Hid _ := hb
  have HG : Hid _ := hg
  clear hb hg
  simp at hsz
  go_wp2
  refine bodyPost_ret (v := .agg #[.int .i64 n, .slice (some ⟨w.heap.size + 1 + 1 + 1, 0, none⟩) zs.length zs.length]) (by simp [results, Try.results90, go_sem, hc]) rfl ⟨w.heap.size + 1 + 1 + 1, by omega, rfl, ?_, ?_⟩
  · exact (((HB0.out.trans (HB1.out.mono (by simp; omega))).setCell (by simp; omega) _).setCell (by simp) _).setCell (by simp) _
  · rw [heap_setCell_other _ _ _ _ (by simp <;> omega), heap_setCell_other _ _ _ _ (by simp <;> omega), heap_setCell_other _ _ _ _ (by simp <;> omega)]
    simpa using HG.out

end Go.Proofs.Ytonopidjkcmlmaa

namespace Go.Proofs.Ytonopidjkcmlmaa
open Go.RowKit

set_option maxHeartbeats 1000000 in
theorem once_any (q p c : Nat) (n : Int) (a : Option Addr) (bs : List Int) (w : World) (h : RD w q a bs c p) (h1 : 0 ≤ n) (hn : n ≤ 65536) :
    Calls Try.prog 31 #[.pointer (some ⟨q, 0, none⟩), .int .i64 n] w fun e w' => ∃ (v : Bool) (p' : Nat), e = .returned (.bool v) ∧ RD w' q a bs c p' ∧ w.grownBy w' (some q) := by
  have H : Hid (RD w q a bs c p) := h
  clear h
  have hw1 : IntKind.i64.wrap (n - 1) = n - 1 := IntWalk.i64_in _ (by omega)
  go_enter Try.func31, Try.ntmps31
  go_wp2_with fail
  refine (below_any q p c n a bs w H.out hn).mono ?_
  rintro e w1 ⟨v, p1, rfl, hv0, hv1, hr, hg⟩
  have R1 : Hid (RD w1 q a bs c p1) := hr
  have G1 : Hid (w.grownBy w1 (some q)) := hg
  clear hr hg hv0 hv1
  go_wp2
  go_ret
  exact ⟨_, p1, rfl, R1.out, G1.out⟩

end Go.Proofs.Ytonopidjkcmlmaa
