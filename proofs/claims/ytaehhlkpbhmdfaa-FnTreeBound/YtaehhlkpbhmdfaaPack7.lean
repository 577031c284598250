import Derived.Test.YtaehhlkpbhmdfaaPack0
import Derived.Test.YtaehhlkpbhmdfaaPack1
namespace Go.Proofs.Ytaehhlkpbhmdfaa
open Go.RowKit

theorem PTr.mem {n : Nat} {G : Nat → Nat → Int} {l : List ED} {ins : Nat → Bool} (h : PTr n G l ins) : ∀ e ∈ l, ∃ x y, x < n ∧ y < n ∧ e = edg G x y := by
  induction h with
  | nil => intro e he; cases he
  | snoc h1 h2 ih =>
    intro e he
    rcases List.mem_append.1 he with h3 | h3
    · exact ih e h3
    · simp only [List.mem_singleton] at h3
      obtain ⟨⟨x, y, h4, h5, _, _, h6⟩, _⟩ := h2
      exact ⟨x, y, h4, h5, by rw [h3, h6]⟩
theorem og3_fl (l : List ED) (k : Nat) (h : k < l.length) : og3 (flE l) k 2 = (l.getD k e0).t := by
  unfold og3
  rw [List.getD_eq_getElem?_getD, (flE_at l k h).2.2]
  rfl
theorem take_more (l : List ED) (k : Nat) (h : k < l.length) : l.take (k + 1) = l.take k ++ [l.getD k e0] := by
  rw [List.take_add_one, List.getD_eq_getElem?_getD, List.getElem?_eq_getElem h]
  rfl
theorem tree_take (l : List ED) : ∀ k, k ≤ l.length → treeTo (flE l) k = sumE (l.take k)
  | 0, _ => by simp [treeTo, sumE]
  | k + 1, h => by
    rw [treeTo, tree_take l k (by omega), take_more l k (by omega), sumE_snoc, og3_fl l k (by omega)]
/-- What TreeTime answers for a tree of a right matrix. -/
theorem tree_is {n : Nat} {G : Nat → Nat → Int} {l : List ED} {ins : Nat → Bool} (h : PTr n G l ins) (h0 : ∀ x y, x < n → y < n → 0 ≤ G x y ∧ G x y ≤ 10000) (hl : l.length ≤ 16) : treeV (flE l) l.length = sumE l := by
  unfold treeV
  have ht : ∀ j, j < l.length → inB (og3 (flE l) j 2) 0 10000 = true := fun j hj => by
    rw [og3_fl l j hj]
    obtain ⟨x, y, hx, hy, e⟩ := h.mem (l.getD j e0) (mem_at.2 ⟨j, hj, rfl⟩)
    rw [e]
    exact inB_mk (h0 x y hx hy)
  rw [if_pos ⟨hl, ht⟩, tree_take l l.length (Nat.le_refl _), List.take_length]
theorem unr_all {α : Type} : ∀ (d : Nat) (l : List α) (n : Nat), l.length = d → n < facN d → ∀ x ∈ l, x ∈ unr d l n
  | 0, l, n, hl, _, x, hx => by
    rw [List.length_eq_zero_iff.1 hl] at hx
    cases hx
  | d + 1, l, n, hl, hn, x, hx => by
    have hk : n / facN d < l.length := by
      rw [hl]
      rw [facN] at hn
      exact (Nat.div_lt_iff_lt_mul (facN_pos d)).2 (by rw [Nat.mul_comm]; exact hn)
    have h1 : l[n / facN d]? = some l[n / facN d] := List.getElem?_eq_getElem hk
    rw [unr_some h1]
    by_cases e : x = l[n / facN d]
    · rw [e]; exact List.mem_cons_self ..
    · refine List.mem_cons_of_mem _ (unr_all d _ _ (by rw [List.length_eraseIdx, if_pos hk]; omega) (Nat.mod_lt _ (facN_pos d)) x ?_)
      obtain ⟨j, hj, rfl⟩ := List.getElem_of_mem hx
      rw [List.mem_eraseIdx_iff_getElem?]
      exact ⟨j, fun e2 => e (by subst e2; rfl), List.getElem?_eq_getElem hj⟩
/-- 0, 1, .. -/
def rngI (n : Nat) : List Int := (List.range n).map (fun x : Nat => (x : Int))
theorem rngI_len (n : Nat) : (rngI n).length = n := by simp [rngI]
theorem rngI_snoc (n : Nat) : rngI (n + 1) = rngI n ++ [(n : Int)] := by simp [rngI, List.range_succ]
theorem pairs_snoc (a b : Nat) : ∀ Q : List Nat, pairs (Q ++ [a, b]) = pairs (Q ++ [a]) ++ [(a, b)]
  | [] => rfl
  | [x] => rfl
  | x :: y :: r => by
    have := pairs_snoc a b (y :: r)
    simp only [List.cons_append] at this ⊢
    simp only [pairs, this, List.cons_append]
theorem wt_app (G : Nat → Nat → Int) (E F : List (Nat × Nat)) : wt G (E ++ F) = wt G E + wt G F := by simp [wt]
theorem path_take (n : Nat) (zs : List Int) (P : List Nat) : ∀ k, k ≤ P.length → pathTo n zs (P.map (fun x : Nat => (x : Int))) k = wt (tmG zs n) (pairs (P.take k))
  | 0, _ => by simp [pathTo, pairs, wt]
  | 1, h => by
    have e : P.take 1 = [P[0]'(by omega)] := by rw [List.take_one]; simp [List.head?_eq_getElem?, List.getElem?_eq_getElem (show 0 < P.length by omega)]
    rw [e]
    simp [pathTo, pairs, wt]
  | k + 2, h => by
    have h1 := path_take n zs P (k + 1) (by omega)
    have e1 : P.take (k + 1) = P.take k ++ [P[k]'(by omega)] := by rw [List.take_add_one, List.getElem?_eq_getElem (by omega)]; rfl
    have e2 : P.take (k + 2) = P.take k ++ [P[k]'(by omega), P[k + 1]'(by omega)] := by
      have t : P.take (k + 1 + 1) = P.take (k + 1) ++ P[k + 1]?.toList := List.take_add_one
      rw [e1, List.getElem?_eq_getElem (show k + 1 < P.length by omega)] at t
      rw [show k + 2 = k + 1 + 1 from rfl, t, List.append_assoc]
      rfl
    have e3 : ∀ j (hj : j < P.length), (P.map (fun x : Nat => (x : Int))).getD j 0 = ((P[j]'hj : Nat) : Int) := fun j hj => by
      rw [List.getD_eq_getElem?_getD, List.getElem?_map, List.getElem?_eq_getElem hj]
      rfl
    rw [e2, pairs_snoc, ← e1, wt_app, ← h1, pathTo, if_neg (by omega), show k + 1 - 1 = k by omega, e3 k (by omega), e3 (k + 1) (by omega)]
    simp [wt, tmG]
theorem path_is {n : Nat} {zs : List Int} {P : List Nat} (hm : matB n zs = true) (hl : P.length ≤ 100) (hP : ∀ x ∈ P, x < n) : pathV n zs (P.map (fun x : Nat => (x : Int))) = wt (tmG zs n) (pairs P) := by
  rw [pathV_yes hm (by simpa using hl) (fun j hj => ?_), path_take n zs P _ (by simp), List.length_map, List.take_length]
  rw [List.length_map] at hj
  rw [List.getD_eq_getElem?_getD, List.getElem?_map, List.getElem?_eq_getElem hj]
  have := hP _ (List.getElem_mem hj)
  refine inB_mk ?_
  simp only [Option.map_some, Option.getD_some]
  omega
/-- A row of all places: a path that takes no less than the tree. -/
theorem bound_is {n : Nat} {zs : List Int} {l : List ED} {ins : Nat → Bool} {k : Int} (hs : symB n zs = true) (hn : n ≤ 6) (ht : PTr n (tmG zs n) l ins) (hl : l.length + 1 = n) (hk : permT (rngI n) k = true) : treeV (flE l) l.length ≤ pathV n zs (permV (rngI n) k) := by
  have hm : matB n zs = true := (of_decide_eq_true hs).1
  have hsy := (of_decide_eq_true hs).2
  obtain ⟨m1, m2, m3, m4⟩ := matB_true hm
  have hzl : zs.length = n * n := by rw [← Int.natCast_mul] at m3; omega
  have hG : ∀ x y, x < n → y < n → 0 ≤ tmG zs n x y ∧ tmG zs n x y ≤ 10000 := fun x y hx hy => by
    have hi : x * n + y < zs.length := by
      rw [hzl]
      have : (x + 1) * n ≤ n * n := Nat.mul_le_mul_right n hx
      rw [Nat.add_mul, Nat.one_mul] at this
      omega
    have := m4 _ hi
    exact ⟨this.1, this.2.1⟩
  have hsym : ∀ x y, x < n → y < n → tmG zs n x y = tmG zs n y x := fun x y hx hy => by
    by_cases e : x = y
    · rw [e]
    · by_cases h2 : y < x
      · have := hsy x (by simpa using hx) y h2
        simpa [tm, tmG] using this
      · have := hsy y (by simpa using hy) x (by omega)
        have h3 : tmG zs n y x = tmG zs n x y := by simpa [tm, tmG] using this
        exact h3.symm
  obtain ⟨m, rfl, _, hmf, hpv⟩ := permT_nat hk
  rw [rngI_len] at hmf hpv
  have e1 : permV (rngI n) (m : Int) = (unr n (List.range n) m).map (fun x : Nat => (x : Int)) := by
    rw [hpv, unr_map]
    rfl
  have hlen : (unr n (List.range n) m).length = n := unr_length n _ m (by simp) hmf
  have hlt : ∀ x ∈ unr n (List.range n) m, x < n := fun x hx => by simpa using unr_mem n _ m x hx
  rw [e1, path_is hm (by omega) hlt, tree_is ht hG (by omega)]
  exact path_least ht (by omega) hsym (fun x y hx hy => (hG x y hx hy).1) _ hlt (fun x hx => unr_all n _ m (by simp) hmf x (by simpa using hx))

end Go.Proofs.Ytaehhlkpbhmdfaa

namespace Go.Proofs.Ytaehhlkpbhmdfaa
open Go.RowKit

/-- The slice at 'a' holds the bytes bs, none of them in block q. -/
def BytesAt (w : World) (q : Nat) (a : Option Addr) (bs : List Int) : Prop :=
  ∀ j, j < bs.length → ∃ b off, a = some ⟨b, off, none⟩ ∧ b ≠ q ∧ w.cell? ⟨b, off + j, none⟩ = some (.int .u8 (bs.getD j 0)) ∧ 0 ≤ bs.getD j 0 ∧ bs.getD j 0 < 256
/-- A reader of drawn bytes in block q: its bytes, and how many it has read. -/
def RD (w : World) (q : Nat) (a : Option Addr) (bs : List Int) (c p : Nat) : Prop :=
  w.heap[q]? = some (.cells #[.slice a bs.length c, .int .i64 p] 84 (0, 0)) ∧ p ≤ bs.length ∧ BytesAt w q a bs ∧ bs.length ≤ 1048576
theorem BytesAt.grown {w w' : World} {q : Nat} {a : Option Addr} {bs : List Int} (h : BytesAt w q a bs) (hg : w.grownBy w' (some q)) : BytesAt w' q a bs := by
  intro j hj
  obtain ⟨b, off, e, hne, hc, hv⟩ := h j hj
  refine ⟨b, off, e, hne, ?_, hv⟩
  have hlt := block_lt_of_cell hc
  rw [World.cell?_of_block (hg.block b hlt (fun e => hne (by simpa using e)))]
  exact hc
theorem RD.below {w w' : World} {q : Nat} {a : Option Addr} {bs : List Int} {c p : Nat} (h : RD w q a bs c p) (hb : Below w.heap.size w w') : RD w' q a bs c p := by
  refine ⟨below_row hb (row_lt h.1) h.1, h.2.1, fun j hj => ?_, h.2.2.2⟩
  obtain ⟨b, off, e, hne, hc, hv⟩ := h.2.2.1 j hj
  exact ⟨b, off, e, hne, (hb.cell (p := ⟨b, off + j, none⟩) (block_lt_of_cell hc)).trans hc, hv⟩
theorem RD.put {w : World} {q : Nat} {a : Option Addr} {bs : List Int} {c p p' : Nat} (h : RD w q a bs c p) (hp : p' ≤ bs.length) : RD (w.setCell ⟨q, 1, none⟩ (.int .i64 p')) q a bs c p' := by
  refine ⟨?_, hp, h.2.2.1.grown (grown_set w q 1 _), h.2.2.2⟩
  have := heap_setCell_same w q 1 _ _ (Value.int .i64 p') h.1
  simpa using this
/-- What a draw answers: a number that is at least lo and below hi; the reader alone has changed. -/
def DrawOk (w : World) (q : Nat) (a : Option Addr) (bs : List Int) (c : Nat) (lo hi : Int) (e : Ending) (w' : World) : Prop :=
  ∃ (v : Int) (p' : Nat), e = .returned (.int .i64 v) ∧ lo ≤ v ∧ v < hi ∧ RD w' q a bs c p' ∧ w.grownBy w' (some q)
theorem grown_drew {w w' : World} {q : Nat} (h : w.grownBy w' (some q)) : w.grownBy w'.drew (some q) := ⟨h.os, h.tape, h.output, h.size, h.block⟩

set_option maxHeartbeats 1000000 in
theorem next_any (q p c : Nat) (a : Option Addr) (bs : List Int) (w : World) (h : RD w q a bs c p) :
    Calls Try.prog 50 #[.pointer (some ⟨q, 0, none⟩)] w (DrawOk w q a bs c 0 256) := by
  have H : Hid (RD w q a bs c p) := h
  obtain ⟨c0, c1⟩ := cells2 h.1
  have hp := h.2.1
  have hbl := h.2.2.2
  clear h
  by_cases hlt : p < bs.length
  · obtain ⟨b, off, rfl, hne, hc, h1, h2⟩ := H.out.2.2.1 p hlt
    obtain ⟨v, HV⟩ : ∃ t, Hid (bs.getD p 0 = t) := ⟨_, rfl⟩
    rw [HV.out] at hc h1 h2
    have hnge : ¬ ((bs.length : Int) ≤ (p : Int)) := by omega
    have hwp : IntKind.i64.wrap ((p : Int) + 1) = ((p + 1 : Nat) : Int) := by rw [IntWalk.i64_in _ (by omega)]; omega
    have cf := fun i => frozen_of_row _ _ i _ _ H.out.1
    go_enter Try.func50, Try.ntmps50
    go_wp2_with fail
    go_region
    all_goals
      have hnl : ¬ bs.length ≤ p := by omega
      go_wp2_with fail
      have r1 := (H.out.put (p' := p + 1) (by omega)).below (Below.refl _ _).drew
      have g1 := grown_drew (grown_set w q 1 (Value.int .i64 ((p + 1 : Nat) : Int)))
      rw [show ((p + 1 : Nat) : Int) = (p : Int) + 1 by omega] at r1 g1
      generalize (w.setCell ⟨q, 1, none⟩ (.int .i64 ((p : Int) + 1))).drew = W1 at *
      have R1 : Hid (RD W1 q (some ⟨b, off, none⟩) bs c (p + 1)) := r1
      have G1 : Hid (w.grownBy W1 (some q)) := g1
      clear c0 c1 hc cf r1 g1
      obtain ⟨c0, c1⟩ := cells2 R1.out.1
      obtain ⟨b2, off2, e2, _, hc, _⟩ := R1.out.2.2.1 p hlt
      simp at e2
      obtain ⟨rfl, rfl⟩ := e2
      rw [HV.out] at hc
      rw [show ((p + 1 : Nat) : Int) = (p : Int) + 1 by omega] at c1
      have hw2 : IntKind.i64.wrap ((p : Int) + 1 - 1) = (p : Int) := by rw [IntWalk.i64_in _ (by omega)]; omega
      have hp0 : (0 : Int) ≤ (p : Int) := by omega
      have hw3 : IntKind.i64.wrap v = v := IntWalk.i64_in _ (by omega)
      go_region
      all_goals
        go_wp2
        go_ret
        exact ⟨v, p + 1, rfl, h1, h2, R1.out.below (Below.refl _ _).drew, grown_drew G1.out⟩
  · have hge : (bs.length : Int) ≤ (p : Int) := by omega
    have hnl : bs.length ≤ p := by omega
    go_enter Try.func50, Try.ntmps50
    go_wp2_with fail
    go_region
    all_goals
      go_wp2
      go_ret
      exact ⟨0, p, rfl, by omega, by omega, H.out.below (Below.refl _ _).drew, grown_drew (grown_refl w q)⟩

theorem DrawOk.mono {w : World} {q c : Nat} {a : Option Addr} {bs : List Int} {lo hi hi' : Int} {e : Ending} {w' : World} (h : DrawOk w q a bs c lo hi e w') (hh : hi ≤ hi') : DrawOk w q a bs c lo hi' e w' := by
  obtain ⟨v, p, h1, h2, h3, h4⟩ := h
  exact ⟨v, p, h1, h2, by omega, h4⟩

set_option maxHeartbeats 1000000 in
theorem below_any (q p c : Nat) (n : Int) (a : Option Addr) (bs : List Int) (w : World) (h : RD w q a bs c p) (hn : n ≤ 65536) :
    Calls Try.prog 36 #[.pointer (some ⟨q, 0, none⟩), .int .i64 n] w (DrawOk w q a bs c 0 (max n 1)) := by
  have H : Hid (RD w q a bs c p) := h
  clear h
  by_cases h1 : n ≤ 1
  · go_enter Try.func36, Try.ntmps36
    go_wp2
    go_ret
    exact ⟨0, p, rfl, by omega, by omega, H.out, grown_refl w q⟩
  · by_cases h2 : n ≤ 256
    · have hn0 : ¬ n = 0 := by omega
      go_enter Try.func36, Try.ntmps36
      go_wp2_with fail
      refine (next_any q p c a bs w H.out).mono ?_
      rintro e w1 ⟨v, p1, rfl, hv0, hv1, hr, hg⟩
      have R1 : Hid (RD w1 q a bs c p1) := hr
      have G1 : Hid (w.grownBy w1 (some q)) := hg
      clear hr hg
      go_wp2
      go_ret
      exact ⟨v % n, p1, rfl, Int.emod_nonneg _ (by omega), by have := Int.emod_lt_of_pos v (show 0 < n by omega); omega, R1.out, G1.out⟩
    · have hn0 : ¬ n = 0 := by omega
      go_enter Try.func36, Try.ntmps36
      go_wp2_with fail
      refine (next_any q p c a bs w H.out).mono ?_
      rintro e w1 ⟨v, p1, rfl, hv0, hv1, hr, hg⟩
      have R1 : Hid (RD w1 q a bs c p1) := hr
      have G1 : Hid (w.grownBy w1 (some q)) := hg
      clear hr hg
      obtain ⟨x, hx⟩ : ∃ x, v * 256 = x := ⟨_, rfl⟩
      have hwx : IntKind.i64.wrap (v * 256) = x := by rw [IntWalk.i64_in _ (by omega)]; exact hx
      have hx0 : 0 ≤ x ∧ x ≤ 65280 := by omega
      go_wp2_with fail
      refine (next_any q p1 c a bs w1 R1.out).mono ?_
      rintro e w2 ⟨u, p2, rfl, hu0, hu1, hr, hg⟩
      have R2 : Hid (RD w2 q a bs c p2) := hr
      have G2 : Hid (w1.grownBy w2 (some q)) := hg
      clear hr hg
      obtain ⟨y, hy⟩ : ∃ y, x + u = y := ⟨_, rfl⟩
      have hwy : IntKind.i64.wrap (x + u) = y := by rw [IntWalk.i64_in _ (by omega)]; exact hy
      have hy0 : 0 ≤ y ∧ y ≤ 65535 := by omega
      clear hwx hv0 hv1 hu0 hu1
      go_wp2
      go_ret
      exact ⟨y % n, p2, by first | rfl | (subst hy; subst hx; rfl), Int.emod_nonneg _ (by omega), by have := Int.emod_lt_of_pos y (show 0 < n by omega); omega, R2.out, grown_trans G1.out G2.out⟩

end Go.Proofs.Ytaehhlkpbhmdfaa

namespace Go.Proofs.Ytaehhlkpbhmdfaa
open Go.RowKit

set_option maxHeartbeats 1000000 in
theorem once_any (q p c : Nat) (n : Int) (a : Option Addr) (bs : List Int) (w : World) (h : RD w q a bs c p) (h1 : 0 ≤ n) (hn : n ≤ 65536) :
    Calls Try.prog 37 #[.pointer (some ⟨q, 0, none⟩), .int .i64 n] w fun e w' => ∃ (v : Bool) (p' : Nat), e = .returned (.bool v) ∧ RD w' q a bs c p' ∧ w.grownBy w' (some q) := by
  have H : Hid (RD w q a bs c p) := h
  clear h
  have hw1 : IntKind.i64.wrap (n - 1) = n - 1 := IntWalk.i64_in _ (by omega)
  go_enter Try.func37, Try.ntmps37
  go_wp2_with fail
  refine (below_any q p c n a bs w H.out hn).mono ?_
  rintro e w1 ⟨v, p1, rfl, hv0, hv1, hr, hg⟩
  have R1 : Hid (RD w1 q a bs c p1) := hr
  have G1 : Hid (w.grownBy w1 (some q)) := hg
  clear hr hg hv0 hv1
  go_wp2
  go_ret
  exact ⟨_, p1, rfl, R1.out, G1.out⟩

end Go.Proofs.Ytaehhlkpbhmdfaa

namespace Go.Proofs.Ytaehhlkpbhmdfaa
open Go.RowKit

theorem or_u64 (x y : Int) : 0 ≤ bits BinOp.or IntKind.u64 x y ∧ bits BinOp.or IntKind.u64 x y < 18446744073709551616 := by
  unfold bits
  rw [IntKind.wrap_u64]
  omega
/-- What 'word' answers: some number of 64 bits; the reader alone has changed. -/
def WordOk (w : World) (q : Nat) (a : Option Addr) (bs : List Int) (c : Nat) (e : Ending) (w' : World) : Prop :=
  ∃ (v : Int) (p' : Nat), e = .returned (.int .u64 v) ∧ 0 ≤ v ∧ v < 18446744073709551616 ∧ RD w' q a bs c p' ∧ w.grownBy w' (some q)

set_option maxHeartbeats 2000000 in
theorem word_any (q p c : Nat) (a : Option Addr) (bs : List Int) (w : World) (h : RD w q a bs c p) :
    Calls Try.prog 57 #[.pointer (some ⟨q, 0, none⟩)] w (WordOk w q a bs c) := by
  have H : Hid (RD w q a bs c p) := h
  clear h
  go_enter Try.func57, Try.ntmps57
  go_wp2_with fail
  go_loopw [3, 4] (fun tx t wr => ∃ (k p' : Nat) (x : Int), k ≤ 8 ∧ t = .int .i64 k ∧ tx = .int .u64 x ∧ 0 ≤ x ∧ x < 18446744073709551616 ∧ RD wr q a bs c p' ∧ w.grownBy wr (some q)) (fun _ t _ => 8 - (intOf t).toNat)
  case atStart => exact ⟨0, p, 0, by omega, rfl, rfl, by omega, by omega, H.out, grown_refl w q⟩
  case round =>
    obtain ⟨k, p1, x, hk, rfl, rfl, hx0, hx1, hr, hg⟩ := hrel
    have R1 : Hid (RD wr q a bs c p1) := hr
    have G1 : Hid (w.grownBy wr (some q)) := hg
    clear hr hg
    by_cases hlt : k < 8
    · have hlt' : (k : Int) < 8 := by omega
      have hwk : IntKind.i64.wrap ((k : Int) + 1) = ((k + 1 : Nat) : Int) := by rw [IntWalk.i64_in _ (by omega)]; omega
      go_wp2_with fail
      refine (next_any q p1 c a bs wr R1.out).mono ?_
      rintro e w2 ⟨v, p2, rfl, hv0, hv1, hr, hg⟩
      have R2 : Hid (RD w2 q a bs c p2) := hr
      have G2 : Hid (w.grownBy w2 (some q)) := grown_trans G1.out hg
      clear hr hg
      go_wp2
      go_roundw
      case rel =>
        obtain ⟨b1, b2⟩ := or_u64 (IntKind.u64.wrap (x * 256)) v
        exact ⟨k + 1, p2, _, by omega, by first | rfl | go_num, rfl, b1, b2, R2.out, G2.out⟩
      case measure => simp [intOf]; omega
    · have hke : k = 8 := by omega
      subst hke
      go_wp2
      go_ret
      exact ⟨x, p1, rfl, hx0, hx1, R1.out, G1.out⟩

end Go.Proofs.Ytaehhlkpbhmdfaa

namespace Go.Proofs.Ytaehhlkpbhmdfaa
open Go.RowKit

theorem grown_alloc (w : World) (o : Obj) (q : Nat) : w.grownBy (w.alloc o) (some q) := ⟨rfl, rfl, rfl, by simp, fun k hk _ => heap_alloc_old _ _ hk⟩
theorem wrap64_bd (n : Int) : -9223372036854775808 ≤ wrap64 n ∧ wrap64 n < 9223372036854775808 := by
  unfold wrap64
  omega
/-- What 'near' and 'off' answer: some number; of what was there the reader alone has changed. -/
def NumOk (w : World) (q : Nat) (a : Option Addr) (bs : List Int) (c : Nat) (e : Ending) (w' : World) : Prop :=
  ∃ (v : Int) (p' : Nat), e = .returned (.int .i64 v) ∧ -9223372036854775808 ≤ v ∧ v < 9223372036854775808 ∧ RD w' q a bs c p' ∧ w.grownBy w' (some q)

def OffOk (w : World) (q : Nat) (a : Option Addr) (bs : List Int) (c : Nat) (e : Ending) (w' : World) : Prop := NumOk w q a bs c e w'

/-- How many numbers lie between, as 64 bits without a sign. -/
theorem near_d {lo hi : Int} (hl0 : -3000000000 ≤ lo) (hl1 : lo ≤ 3000000000) (hh0 : -9223372036854775808 ≤ hi) (hh1 : hi < 9223372036854775808) (h : lo ≤ hi) : ¬ IntKind.u64.wrap (IntKind.i64.wrap (IntKind.i64.wrap (hi - lo) + 1)) = 0 ∧ 0 < IntKind.u64.wrap (IntKind.i64.wrap (IntKind.i64.wrap (hi - lo) + 1)) ∧ IntKind.u64.wrap (IntKind.i64.wrap (IntKind.i64.wrap (hi - lo) + 1)) < 18446744073709551616 := by
  rw [IntKind.wrap_u64, IntKind.wrap_i64, IntKind.wrap_i64]
  omega

set_option maxHeartbeats 2000000 in
theorem near_any (q p c : Nat) (lo hi : Int) (a : Option Addr) (bs : List Int) (w : World) (h : RD w q a bs c p) (hl0 : -3000000000 ≤ lo) (hl1 : lo ≤ 3000000000) (hh0 : -9223372036854775808 ≤ hi) (hh1 : hi < 9223372036854775808) :
    Calls Try.prog 56 #[.pointer (some ⟨q, 0, none⟩), .int .i64 lo, .int .i64 hi] w (NumOk w q a bs c) := by
  have H : Hid (RD w q a bs c p) := h
  clear h
  go_enter Try.func56, Try.ntmps56
  go_wp2_with fail
  refine (below_any q p c 8 a bs w H.out (by omega)).mono ?_
  rintro e w1 ⟨v, p1, rfl, hv0, hv1, hr, hg⟩
  have R1 : Hid (RD w1 q a bs c p1) := hr
  have G1 : Hid (w.grownBy w1 (some q)) := hg
  clear hr hg
  rcases (show v = 0 ∨ v = 1 ∨ (¬ v = 0 ∧ ¬ v = 1) from by omega) with rfl | rfl | ⟨h0, h1⟩
  · go_wp2
    go_ret
    exact ⟨lo, p1, rfl, by omega, by omega, R1.out, G1.out⟩
  · go_wp2
    go_ret
    exact ⟨hi, p1, rfl, by omega, by omega, R1.out, G1.out⟩
  · have e0 : (v == 0) = false := by simpa using h0
    have e1 : (v == 1) = false := by simpa using h1
    by_cases hlt : hi < lo
    · go_wp2
      go_ret
      exact ⟨lo, p1, rfl, by omega, by omega, R1.out, G1.out⟩
    · obtain ⟨hdn0, hd1, hd2⟩ := near_d hl0 hl1 hh0 hh1 (by omega)
      obtain ⟨x1, HX1⟩ : ∃ x, IntKind.i64.wrap (hi - lo) = x := ⟨_, rfl⟩
      rw [HX1] at hdn0 hd1 hd2
      obtain ⟨x2, HX2⟩ : ∃ x, IntKind.i64.wrap (x1 + 1) = x := ⟨_, rfl⟩
      rw [HX2] at hdn0 hd1 hd2
      obtain ⟨d, HD⟩ : ∃ x, IntKind.u64.wrap x2 = x := ⟨_, rfl⟩
      rw [HD] at hdn0 hd1 hd2
      have HX1' : wrap64 (hi - lo) = x1 := by rw [← HX1, IntKind.wrap_i64]; unfold wrap64; rfl
      have HX2' : wrap64 (x1 + 1) = x2 := by rw [← HX2, IntKind.wrap_i64]; unfold wrap64; rfl
      clear hv0 hv1
      go_wp2_with fail
      refine (word_any q p1 c a bs w1 R1.out).mono ?_
      rintro e w2 ⟨x, p2, rfl, hx0, hx1, hr, hg⟩
      have R2 : Hid (RD w2 q a bs c p2) := hr
      have G2 : Hid (w.grownBy w2 (some q)) := grown_trans G1.out hg
      clear hr hg
      have hdn : ¬ d = 0 := hdn0
      go_wp2
      go_ret
      have hb := wrap64_bd (lo + wrap64 (x / 2 % d))
      exact ⟨_, p2, rfl, hb.1, hb.2, R2.out, G2.out⟩

set_option maxHeartbeats 2000000 in
theorem off_any (q p c : Nat) (lo hi : Int) (a : Option Addr) (bs : List Int) (w : World) (h : RD w q a bs c p) (hl0 : -3000000000 ≤ lo) (hl1 : lo ≤ 3000000000) (hh0 : -9223372036854775808 ≤ hi) (hh1 : hi < 9223372036854775808) :
    Calls Try.prog 54 #[.pointer (some ⟨q, 0, none⟩), .int .i64 lo, .int .i64 hi] w (OffOk w q a bs c) := by
  have H : Hid (RD w q a bs c p) := h
  clear h
  go_enter Try.func54, Try.ntmps54
  go_wp2_with fail
  refine (once_any q p c 24 a bs w H.out (by omega) (by omega)).mono ?_
  rintro e w1 ⟨v, p1, rfl, hr, hg⟩
  have R1 : Hid (RD w1 q a bs c p1) := hr
  have G1 : Hid (w.grownBy w1 (some q)) := hg
  clear hr hg
  cases v
  · go_wp2_with fail
    refine (near_any q p1 c lo hi a bs w1 R1.out hl0 hl1 hh0 hh1).mono ?_
    rintro e w2 ⟨x, p2, rfl, hx0, hx1, hr, hg⟩
    have R2 : Hid (RD w2 q a bs c p2) := hr
    have G2 : Hid (w.grownBy w2 (some q)) := grown_trans G1.out hg
    clear hr hg
    go_wp2
    go_ret
    exact ⟨x, p2, rfl, hx0, hx1, R2.out, G2.out⟩
  · have hw1 : IntKind.i64.wrap (lo - 1) = lo - 1 := IntWalk.i64_in _ (by omega)
    obtain ⟨h2, HH2⟩ : ∃ x, IntKind.i64.wrap (hi + 1) = x := ⟨_, rfl⟩
    have HH2' : wrap64 (hi + 1) = h2 := by rw [← HH2, IntKind.wrap_i64]; unfold wrap64; rfl
    have hh2 : -9223372036854775808 ≤ h2 ∧ h2 < 9223372036854775808 := by rw [← HH2']; exact wrap64_bd _
    go_wp2_with fail
    have RA : Hid (RD (w1.alloc (Obj.cells #[Value.int IntKind.i64 (lo - 1), Value.int IntKind.i64 h2, Value.int IntKind.i64 (-9223372036854775808), Value.int IntKind.i64 9223372036854775807] 2)) q a bs c p1) := R1.out.below ((Below.refl _ _).alloc (Nat.le_refl _) _)
    have NA : Hid ((w1.alloc (Obj.cells #[Value.int IntKind.i64 (lo - 1), Value.int IntKind.i64 h2, Value.int IntKind.i64 (-9223372036854775808), Value.int IntKind.i64 9223372036854775807] 2)).heap[w1.heap.size]? = _) := heap_alloc_new _ _
    have HQ : Hid (q < w1.heap.size) := row_lt R1.out.1
    refine (below_any q p1 c 4 a bs _ RA.out (by omega)).mono ?_
    rintro e w2 ⟨x, p2, rfl, hx0, hx1, hr, hg⟩
    have R2 : Hid (RD w2 q a bs c p2) := hr
    have G2 : Hid (w.grownBy w2 (some q)) := grown_trans (grown_trans G1.out (grown_alloc w1 _ q)) hg
    have N2 := (hg.block _ (row_lt NA.out) (fun e => by have := HQ.out; simp at e; omega)).trans NA.out
    clear hr hg
    have n0 := cell_of_row _ _ 0 _ _ _ N2
    have n1 := cell_of_row _ _ 1 _ _ _ N2
    have n2 := cell_of_row _ _ 2 _ _ _ N2
    have n3 := cell_of_row _ _ 3 _ _ _ N2
    simp at n0 n1 n2 n3
    clear N2
    rcases (show x = 0 ∨ x = 1 ∨ x = 2 ∨ x = 3 from by omega) with rfl | rfl | rfl | rfl
    all_goals
      go_wp2
      go_ret
      exact ⟨_, p2, rfl, by omega, by omega, R2.out, G2.out⟩

end Go.Proofs.Ytaehhlkpbhmdfaa

namespace Go.Proofs.Ytaehhlkpbhmdfaa
open Go.RowKit

/-- The slice at 'a' holds the bytes bs. -/
def CodeAt (w : World) (a : Option Addr) (bs : List Int) : Prop :=
  ∀ j, j < bs.length → ∃ b off, a = some ⟨b, off, none⟩ ∧ w.cell? ⟨b, off + j, none⟩ = some (.int .u8 (bs.getD j 0)) ∧ 0 ≤ bs.getD j 0 ∧ bs.getD j 0 < 256

set_option maxHeartbeats 400000 in
theorem l1Open_any (a : Option Addr) (c : Nat) (bs : List Int) (w : World) (h : CodeAt w a bs) (hl : bs.length ≤ 1048576) :
    Calls Try.prog 27 #[.slice a bs.length c] w fun e w' => e = .returned (.pointer (some ⟨w.heap.size, 0, none⟩)) ∧ Below w.heap.size w w' ∧ RD w' w.heap.size a bs c 0 := by
  have H : Hid (CodeAt w a bs) := h
  clear h
  go_enter Try.func27, Try.ntmps27
  go_wp2
  go_ret
  refine ⟨rfl, (Below.refl _ _).alloc (Nat.le_refl _) _, heap_alloc_new _ _, Nat.zero_le _, fun j hj => ?_, hl⟩
  obtain ⟨b, off, e, hc, hv⟩ := H.out j hj
  have hlt := block_lt_of_cell hc
  simp at hlt
  exact ⟨b, off, e, by omega, (((Below.refl w.heap.size w).alloc (Nat.le_refl _) _).cell (p := ⟨b, off + j, none⟩) hlt).trans hc, hv⟩

/-- Where the reader was made by the call itself, what was there is as it was. -/
theorem grown_below {w w1 w2 : World} {q : Nat} (hb : Below w.heap.size w w1) (hq : w.heap.size ≤ q) (hg : w1.grownBy w2 (some q)) : Below w.heap.size w w2 := hb.grown hg hb.size (fun k e => by injection e with e; omega)

end Go.Proofs.Ytaehhlkpbhmdfaa

namespace Go.Proofs.Ytaehhlkpbhmdfaa
end Go.Proofs.Ytaehhlkpbhmdfaa

namespace Go.Proofs.Ytaehhlkpbhmdfaa
open Go.RowKit

set_option maxHeartbeats 400000 in
theorem implTree_any (a : Option Addr) (n cap : Nat) (es : List Int) (w : World) (hA : IntsAt w a es) (hl : es.length = n * 3) (hlen : n ≤ 9223372036854775807) :
    Calls Try.prog 15 #[.slice a n cap] w fun e w' => e = .returned (.int .i64 (treeV es n)) ∧ Below w.heap.size w w' := by
  have HA : Hid (IntsAt w a es) := hA
  have HL : Hid (es.length = n * 3) := hl
  clear hA hl
  obtain ⟨r, HR⟩ : ∃ r, Hid (treeV es n = r) := ⟨_, rfl⟩
  rw [HR.out]
  by_cases h16 : n ≤ 16
  · go_enter Try.func15, Try.ntmps15
    go_wp2_with fail
    go_loopw [3, 11] (fun sm t wr => ∃ k : Nat, k ≤ n ∧ t = .int .i64 k ∧ sm = .int .i64 (treeTo es k) ∧ timesTo es k ∧ Below w.heap.size w wr) (fun _ t _ => n - (intOf t).toNat)
    case atStart => exact ⟨0, Nat.zero_le _, rfl, rfl, fun j hj => by omega, Below.refl _ _⟩
    case round =>
      obtain ⟨k, hk, rfl, rfl, ht, hb⟩ := hrel
      have hbd := treeTo_bd k ht
      have HT : Hid (timesTo es k) := ht
      have HB : Hid (Below w.heap.size w wr) := hb
      clear ht
      obtain ⟨s0, HS0⟩ : ∃ s, Hid (treeTo es k = s) := ⟨_, rfl⟩
      rw [HS0.out] at hbd ⊢
      by_cases hlt : k < n
      · obtain ⟨b, off, rfl, hcs⟩ := IntsAt.some (HA.out.below hb) (j := k * 3) (by rw [HL.out]; omega)
        obtain ⟨ca, cb, ct⟩ := row3_at hcs HL.out k hlt
        clear hcs hb
        obtain ⟨x, H0⟩ : ∃ t, Hid (og3 es k 0 = t) := ⟨_, rfl⟩
        obtain ⟨y, H1⟩ : ∃ t, Hid (og3 es k 1 = t) := ⟨_, rfl⟩
        obtain ⟨t, H2⟩ : ∃ t, Hid (og3 es k 2 = t) := ⟨_, rfl⟩
        rw [H0.out] at ca
        rw [H1.out] at cb
        rw [H2.out] at ct
        have HB1 : Hid (Below w.heap.size w (wr.alloc (Obj.cells #[Value.int IntKind.i64 x, Value.int IntKind.i64 y, Value.int IntKind.i64 t] 32))) := HB.out.alloc HB.out.size _
        cases hin : inB t 0 10000
        · have HV : Hid (r = -1) := HR.out.symm.trans (treeV_bad hlt (by rw [H2.out]; exact hin))
          go_wp2_with (go_at_call 38; refine (within_any _ _ _ _).mono ?_; rintro e w' ⟨rfl, rfl⟩)
          go_ret
          exact ⟨ret_int HV.out.symm, HB1.out⟩
        · have hbt := inB_true hin
          have HT1 : Hid (timesTo es (k + 1)) := timesTo_step HT.out (by rw [H2.out]; exact hin)
          have HS1 : Hid (treeTo es (k + 1) = s0 + t) := by show _ = _; unfold treeTo; rw [HS0.out, H2.out]
          go_wp2_with (go_at_call 38; refine (within_any _ _ _ _).mono ?_; rintro e w' ⟨rfl, rfl⟩)
          refine ⟨⟨k + 1, by omega, by go_num, by rw [HS1.out], HT1.out, HB1.out⟩, by simp [intOf]; omega⟩
      · have hkl : k = n := by omega
        have HV : Hid (r = s0) := by
          have := treeV_yes (es := es) (n := n) (by omega) (hkl ▸ HT.out)
          rw [HR.out, ← hkl, HS0.out] at this
          exact this
        clear hkl
        go_wp2
        go_ret
        exact ⟨ret_int HV.out.symm, HB.out⟩
  · have HV : Hid (r = -1) := HR.out.symm.trans (treeV_many (by omega))
    have h16' : 16 < n := by omega
    clear h16
    go_enter Try.func15, Try.ntmps15
    go_wp2
    go_ret
    exact ⟨ret_int HV.out.symm, Below.refl _ _⟩

end Go.Proofs.Ytaehhlkpbhmdfaa

namespace Go.Proofs.Ytaehhlkpbhmdfaa
open Go.RowKit

set_option maxHeartbeats 400000 in
theorem specTree_any (a : Option Addr) (n cap : Nat) (es : List Int) (w : World) (hA : IntsAt w a es) (hl : es.length = n * 3) (hlen : n ≤ 9223372036854775807) :
    Calls Try.prog 16 #[.slice a n cap] w fun e w' => e = .returned (.int .i64 (treeV es n)) ∧ w' = w := by
  have HA : Hid (IntsAt w a es) := hA
  have HL : Hid (es.length = n * 3) := hl
  clear hA hl
  obtain ⟨r, HR⟩ : ∃ r, Hid (treeV es n = r) := ⟨_, rfl⟩
  rw [HR.out]
  go_enter Try.func16, Try.ntmps16
  go_wp2_with fail
  go_loop [3, 4] (fun sm t => ∃ k : Nat, k ≤ n ∧ k ≤ 16 ∧ t = .int .i64 k ∧ sm = .int .i64 (treeTo es k) ∧ timesTo es k) (fun _ t => n - (intOf t).toNat)
  case atStart => exact ⟨0, Nat.zero_le _, by omega, rfl, rfl, fun j hj => by omega⟩
  case round =>
    obtain ⟨k, hk, hk16, rfl, rfl, ht⟩ := hrel
    have hbd := treeTo_bd k ht
    have HT : Hid (timesTo es k) := ht
    clear ht
    obtain ⟨s0, HS0⟩ : ∃ s, Hid (treeTo es k = s) := ⟨_, rfl⟩
    rw [HS0.out] at hbd ⊢
    by_cases hlt : k < n
    · obtain ⟨b, off, rfl, hcs⟩ := IntsAt.some HA.out (j := k * 3) (by rw [HL.out]; omega)
      obtain ⟨_, _, ct⟩ := row3_at hcs HL.out k hlt
      clear hcs
      obtain ⟨t, H2⟩ : ∃ t, Hid (og3 es k 2 = t) := ⟨_, rfl⟩
      rw [H2.out] at ct
      cases hin : inB t 0 10000
      · have HV : Hid (r = -1) := HR.out.symm.trans (treeV_bad hlt (by rw [H2.out]; exact hin))
        go_wp2_with (go_at_call 39; refine (l1In_any _ _ _ _).mono ?_; rintro e w' ⟨rfl, rfl⟩)
        go_ret
        exact ⟨ret_int HV.out.symm, rfl⟩
      · have hb := inB_true hin
        by_cases h16 : k < 16
        · have HT1 : Hid (timesTo es (k + 1)) := timesTo_step HT.out (by rw [H2.out]; exact hin)
          have HS1 : Hid (treeTo es (k + 1) = s0 + t) := by show _ = _; unfold treeTo; rw [HS0.out, H2.out]
          go_wp2_with (go_at_call 39; refine (l1In_any _ _ _ _).mono ?_; rintro e w' ⟨rfl, rfl⟩)
          refine ⟨⟨k + 1, by omega, by omega, by go_num, by rw [HS1.out], HT1.out⟩, by simp [intOf]; omega⟩
        · have HV : Hid (r = -1) := HR.out.symm.trans (treeV_many (by omega))
          have h16' : 16 ≤ k := by omega
          clear h16
          go_wp2_with (go_at_call 39; refine (l1In_any _ _ _ _).mono ?_; rintro e w' ⟨rfl, rfl⟩)
          go_ret
          exact ⟨ret_int HV.out.symm, rfl⟩
    · have hkl : k = n := by omega
      have HV : Hid (r = s0) := by
        have := treeV_yes (es := es) (n := n) (by omega) (hkl ▸ HT.out)
        rw [HR.out, ← hkl, HS0.out] at this
        exact this
      clear hkl
      go_wp2
      go_ret
      exact ⟨ret_int HV.out.symm, rfl⟩

end Go.Proofs.Ytaehhlkpbhmdfaa

namespace Go.Proofs.Ytaehhlkpbhmdfaa
open Go.RowKit

set_option maxHeartbeats 1000000 in
theorem implPath_no (n : Int) (a b : Option Addr) (cap c2 len : Nat) (zs : List Int) (w : World) (hA : IntsAt w a zs) (h : ¬ (matB n zs = true ∧ len ≤ 100)) (hlen : len ≤ 9223372036854775807) :
    Calls Try.prog 19 #[.agg #[.int .i64 n, .slice a zs.length cap], .slice b len c2] w fun e w' => e = .returned (.int .i64 (-1)) ∧ Below w.heap.size w w' := by
  have HA0 : Hid (IntsAt (w.alloc (Obj.cells #[Value.int IntKind.i64 n, Value.slice a zs.length cap] 26)) a zs) := hA.below ((Below.refl _ _).alloc (Nat.le_refl _) _)
  clear hA
  have hz := (zero_of_info Try.info41).1
  generalize hz0 : cellsOf zeros = z0 at hz
  have HZ : Hid (cellsOf zeros = z0) := hz0
  clear hz0
  cases hm : matB n zs
  · have HM : Hid _ := hm
    clear hm h
    go_enter Try.func19, Try.ntmps19
    go_wp2_with fail
    refine (grid_any n a cap zs _ HA0.out).mono ?_
    rintro e w1 ⟨rfl, hb⟩
    rw [HM.out]
    obtain ⟨b1, r1, c0, c1⟩ := box2 hb
    obtain ⟨bW, rW, gW⟩ := grid_world (cellsOf (gridRes n zs)) b1 r1
    have BW : Hid _ := bW
    have RW : Hid _ := rW
    have GW : Hid _ := gW
    clear hb r1 b1 c0 c1 bW rW gW
    obtain ⟨gr, HGR⟩ : ∃ gr, Hid (cellsOf (gridRes n zs) = gr) := ⟨_, rfl⟩
    rw [HGR.out] at BW RW GW ⊢
    go_wp2_with (
      with_reducible refine wpList_store_row ?_ 55 (.tmp 5) (.tmp 13) ?_ w1.heap.size gr ?_ ?_ 55 z0 ?_ ?_ ?_ ?_ ?_
      · rfl
      · rfl
      · rfl
      · rfl
      · exact heap_alloc_new _ _
      · rw [← HGR.out]; exact size41_of (gridRes_length _ _)
      · rw [← HZ.out, ← HGR.out, cellsOf_size, cellsOf_size, zeros_length, gridRes_length]
      · rw [← HGR.out]; exact cellsOf_one _
      rw [World.setRow_alloc_new]
      generalize w1.alloc (Obj.cells gr 55) = W at *)
    go_ret
    exact ⟨rfl, BW.out⟩
  · have HM : Hid _ := hm
    have hgt : 100 < len := Nat.lt_of_not_le fun k => h ⟨hm, k⟩
    clear hm h
    go_enter Try.func19, Try.ntmps19
    go_wp2_with fail
    refine (grid_any n a cap zs _ HA0.out).mono ?_
    rintro e w1 ⟨rfl, hb⟩
    rw [HM.out]
    obtain ⟨b1, r1, c0, c1⟩ := box2 hb
    obtain ⟨bW, rW, gW⟩ := grid_world (cellsOf (gridRes n zs)) b1 r1
    have BW : Hid _ := bW
    have RW : Hid _ := rW
    have GW : Hid _ := gW
    clear hb r1 b1 c0 c1 bW rW gW
    obtain ⟨gr, HGR⟩ : ∃ gr, Hid (cellsOf (gridRes n zs) = gr) := ⟨_, rfl⟩
    rw [HGR.out] at BW RW GW ⊢
    go_wp2_with (
      with_reducible refine wpList_store_row ?_ 55 (.tmp 5) (.tmp 13) ?_ w1.heap.size gr ?_ ?_ 55 z0 ?_ ?_ ?_ ?_ ?_
      · rfl
      · rfl
      · rfl
      · rfl
      · exact heap_alloc_new _ _
      · rw [← HGR.out]; exact size41_of (gridRes_length _ _)
      · rw [← HZ.out, ← HGR.out, cellsOf_size, cellsOf_size, zeros_length, gridRes_length]
      · rw [← HGR.out]; exact cellsOf_one _
      rw [World.setRow_alloc_new]
      generalize w1.alloc (Obj.cells gr 55) = W at *)
    go_ret
    exact ⟨rfl, BW.out⟩

set_option maxHeartbeats 1000000 in
theorem implPath_loop (n : Nat) (a b : Option Addr) (cap c2 : Nat) (zs ps : List Int) (w : World) (hA : IntsAt w a zs) (hB : IntsAt w b ps) (hm : matB n zs = true) (hlen : ps.length ≤ 100) :
    Calls Try.prog 19 #[.agg #[.int .i64 n, .slice a zs.length cap], .slice b ps.length c2] w fun e w' => e = .returned (.int .i64 (pathV n zs ps)) ∧ Below w.heap.size w w' := by
  have HA0 : Hid (IntsAt (w.alloc (Obj.cells #[Value.int IntKind.i64 n, Value.slice a zs.length cap] 26)) a zs) := hA.below ((Below.refl _ _).alloc (Nat.le_refl _) _)
  have HB : Hid (IntsAt w b ps) := hB
  obtain ⟨hn1, hn2, hl, _⟩ := matB_true hm
  have HM : Hid _ := hm
  clear hA hB hm hl
  have hz := (zero_of_info Try.info41).1
  generalize hz0 : cellsOf zeros = z0 at hz
  have HZ : Hid (cellsOf zeros = z0) := hz0
  clear hz0
  go_enter Try.func19, Try.ntmps19
  go_wp2_with fail
  refine (grid_any n a cap zs _ HA0.out).mono ?_
  rintro e w1 ⟨rfl, hb⟩
  rw [HM.out]
  obtain ⟨b1, r1, c0, c1⟩ := box2 hb
  obtain ⟨bW, rW, gW⟩ := grid_world (cellsOf (gridRes n zs)) b1 r1
  have BW : Hid _ := bW
  have RW : Hid _ := rW
  have GW : Hid _ := gW
  clear hb r1 b1 c0 c1 bW rW gW
  obtain ⟨gr, HGR⟩ : ∃ gr, Hid (cellsOf (gridRes n zs) = gr) := ⟨_, rfl⟩
  rw [HGR.out] at BW RW GW ⊢
  go_wp2_with (
    with_reducible refine wpList_store_row ?_ 55 (.tmp 5) (.tmp 13) ?_ w1.heap.size gr ?_ ?_ 55 z0 ?_ ?_ ?_ ?_ ?_
    · rfl
    · rfl
    · rfl
    · rfl
    · exact heap_alloc_new _ _
    · rw [← HGR.out]; exact size41_of (gridRes_length _ _)
    · rw [← HZ.out, ← HGR.out, cellsOf_size, cellsOf_size, zeros_length, gridRes_length]
    · rw [← HGR.out]; exact cellsOf_one _
    rw [World.setRow_alloc_new]
    generalize w1.alloc (Obj.cells gr 55) = W at *)
  clear hz
  obtain ⟨gk, HGK⟩ : ∃ gk, Hid (w1.heap.size = gk) := ⟨_, rfl⟩
  rw [HGK.out] at GW ⊢
  go_loopw [7, 24] (fun sm t wr => ∃ k : Nat, k ≤ ps.length ∧ t = .int .i64 k ∧ sm = .int .i64 (pathTo n zs ps k) ∧ placesTo n ps k ∧ Below w.heap.size w wr ∧ wr.heap[w.heap.size]? = some (.cells #[.int .i64 n, .slice a zs.length cap] 26 (0, 0)) ∧ wr.heap[gk]? = some (.cells gr 55 (0, 0))) (fun _ t _ => ps.length - (intOf t).toNat)
  case atStart => exact ⟨0, Nat.zero_le _, rfl, rfl, fun j hj => by omega, BW.out, RW.out, GW.out⟩
  case round =>
    clear BW RW GW
    obtain ⟨k, hk, rfl, rfl, hpl, hb, g3, g4⟩ := hrel
    have c0 := cell_of_row _ _ 0 _ _ _ g3
    have c1 := cell_of_row _ _ 1 _ _ _ g3
    simp at c0 c1
    have hbd := pathTo_bd (zs := zs) HM.out k hpl
    have HP : Hid (placesTo n ps k) := hpl
    have G3 : Hid _ := g3
    have G4 : Hid _ := g4
    have HBl : Hid _ := hb
    clear hpl
    obtain ⟨s0, HS0⟩ : ∃ s0, Hid (pathTo n zs ps k = s0) := ⟨_, rfl⟩
    rw [HS0.out] at hbd ⊢
    by_cases hlt : k < ps.length
    · obtain ⟨b2, o2, rfl, hcs⟩ := IntsAt.some (IntsAt.below HB.out hb) hlt
      have ct := hcs k hlt
      have HCS : Hid _ := hcs
      clear hcs g3 g4 hb
      obtain ⟨p, HPk⟩ : ∃ p, Hid (ps.getD k 0 = p) := ⟨_, rfl⟩
      rw [HPk.out] at ct
      cases hin : inB p 0 ((n : Int) - 1)
      · have HV : Hid (pathV n zs ps = -1) := pathV_no (by
          rintro ⟨_, _, h3⟩
          have := h3 k hlt
          rw [HPk.out, hin] at this
          cases this)
        go_wp2_with (go_at_call 35; refine (isPlace_any _ _ _ _ hn1 hn2).mono ?_; rintro e w2 ⟨rfl, hb2⟩)
        go_ret
        exact ⟨ret_int HV.out.symm, HBl.out.trans (hb2.mono HBl.out.size)⟩
      · have HP1 : Hid (placesTo n ps (k + 1)) := by
          intro j hj
          by_cases e : j = k
          · rw [e, HPk.out]; exact hin
          · exact HP.out j (by omega)
        have hp := inB_true hin
        obtain ⟨p, rfl⟩ := Int.eq_ofNat_of_zero_le hp.1
        by_cases hk0 : k = 0
        · have HS1 : Hid (pathTo n zs ps (k + 1) = s0) := by
            show _ = _
            unfold pathTo
            rw [if_pos hk0, HS0.out, Int.add_zero]
          have hk1 : k ≤ 0 := by omega
          clear hk0
          go_wp2_with (go_at_call 35; refine (isPlace_any _ _ _ _ hn1 hn2).mono ?_; rintro e w2 ⟨rfl, hb2⟩)
          obtain ⟨B2, R2, _, _⟩ := box2_more hb2 HBl.out G3.out
          refine ⟨⟨k + 1, by omega, by go_num, by rw [HS1.out], HP1.out, B2, R2, below_row hb2 (row_lt G4.out) G4.out⟩, by simp [intOf]; omega⟩
        · have hk1 : 0 < k := by omega
          have ctm := HCS.out (k - 1) (by omega)
          obtain ⟨q, HQ⟩ : ∃ q, Hid (ps.getD (k - 1) 0 = q) := ⟨_, rfl⟩
          rw [HQ.out] at ctm
          have hq := inB_true (HQ.out ▸ HP.out (k - 1) (by omega))
          obtain ⟨q, rfl⟩ := Int.eq_ofNat_of_zero_le hq.1
          have htb := mat_cell_bd HM.out q p (by omega) (by omega)
          obtain ⟨t, HTT⟩ : ∃ t, Hid (zs.getD (q * n + p) 0 = t) := ⟨_, rfl⟩
          rw [HTT.out] at htb
          have HS1 : Hid (pathTo n zs ps (k + 1) = s0 + t) := by
            show _ = _
            unfold pathTo
            rw [if_neg (by omega), HS0.out, HQ.out, HPk.out, Int.toNat_natCast, Int.toNat_natCast, HTT.out]
          have hkm : k - 1 < ps.length := by omega
          have hlb := block_lt_of_cell ctm
          simp at hlb
          have HLB : Hid _ := hlb
          have HCM : Hid _ := ctm
          clear hk0 hlb ctm
          go_wp2_with (
            go_at_call 35
            refine (isPlace_any _ _ _ _ hn1 hn2).mono ?_
            rintro e w2 ⟨rfl, hb2⟩
            have cg := grid_cell (HGR.out.symm ▸ below_row hb2 (row_lt G4.out) G4.out) HM.out (x := q) (y := p) (by omega) (by omega) (by omega)
            rw [HTT.out] at cg
            have ctm := (hb2.cell (p := ⟨b2, o2 + (k - 1), none⟩) HLB.out).trans HCM.out)
          obtain ⟨B2, R2, _, _⟩ := box2_more hb2 HBl.out G3.out
          refine ⟨⟨k + 1, by omega, by go_num, by rw [HS1.out], HP1.out, B2, R2, below_row hb2 (row_lt G4.out) G4.out⟩, by simp [intOf]; omega⟩
    · have hkl : k = ps.length := by omega
      have HV : Hid (pathV n zs ps = pathTo n zs ps k) := by
        show _ = _
        rw [hkl]
        exact pathV_yes HM.out hlen (hkl ▸ HP.out)
      clear hkl g3 g4
      go_wp2
      go_ret
      exact ⟨ret_int (HV.out.trans HS0.out).symm, HBl.out⟩

theorem implPath_any (n : Int) (a b : Option Addr) (cap c2 : Nat) (zs ps : List Int) (w : World) (hA : IntsAt w a zs) (hB : IntsAt w b ps) (hlen : ps.length ≤ 9223372036854775807) :
    Calls Try.prog 19 #[.agg #[.int .i64 n, .slice a zs.length cap], .slice b ps.length c2] w fun e w' => e = .returned (.int .i64 (pathV n zs ps)) ∧ Below w.heap.size w w' := by
  by_cases h : matB n zs = true ∧ ps.length ≤ 100
  · obtain ⟨m, rfl⟩ := Int.eq_ofNat_of_zero_le (show 0 ≤ n by have := (matB_true h.1).1; omega)
    exact implPath_loop m a b cap c2 zs ps w hA hB h.1 h.2
  · rw [pathV_no fun k => h ⟨k.1, k.2.1⟩]
    exact implPath_no n a b cap c2 _ zs w hA h hlen

end Go.Proofs.Ytaehhlkpbhmdfaa

namespace Go.Proofs.Ytaehhlkpbhmdfaa
open Go.RowKit

set_option maxHeartbeats 400000 in
theorem index_any (a : Option Addr) (m cap : Nat) (id : Int) (zs : List Int) (w : World) (hA : IntsAt w a zs) (hm : m ≤ zs.length) (hlen : m ≤ 9223372036854775807) :
    Calls Try.prog 55 #[.slice a m cap, .int .i64 id] w fun e w' => e = .returned (.int .i64 (idxV zs m id)) ∧ w' = w := by
  have HA : Hid (IntsAt w a zs) := hA
  clear hA
  obtain ⟨r, HR⟩ : ∃ r, Hid (idxV zs m id = r) := ⟨_, rfl⟩
  rw [HR.out]
  go_enter Try.func55, Try.ntmps55
  go_wp2_with fail
  go_loop [8] (fun t => ∃ k : Nat, k ≤ m ∧ t = .int .i64 k ∧ ∀ j, j < k → zs.getD j 0 ≠ id) (fun t => m - (intOf t).toNat)
  case atStart => exact ⟨0, Nat.zero_le _, rfl, fun j hj => by omega⟩
  case round =>
    obtain ⟨k, hk, rfl, hno⟩ := hrel
    have HN : Hid (∀ j, j < k → zs.getD j 0 ≠ id) := hno
    clear hno
    by_cases hlt : k < m
    · obtain ⟨b, off, rfl, hcs⟩ := IntsAt.some HA.out (j := k) (by omega)
      have ct := hcs k (by omega)
      clear hcs
      obtain ⟨t, HT⟩ : ∃ t, Hid (zs.getD k 0 = t) := ⟨_, rfl⟩
      rw [HT.out] at ct
      by_cases he : id = t
      · have heb : (id == t) = true := by simp [he]
        have HV : Hid (r = k) := HR.out.symm.trans (idxV_at hlt (HT.out.trans he.symm) HN.out)
        clear he
        go_wp2
        go_ret
        exact ⟨ret_int HV.out.symm, rfl⟩
      · have heb : (id == t) = false := by simp [he]
        have HS : Hid (∀ j, j < k + 1 → zs.getD j 0 ≠ id) := noTo_step HN.out (by rw [HT.out]; exact fun x => he x.symm)
        clear he
        go_wp2
        exact ⟨⟨k + 1, by omega, by go_num, HS.out⟩, by simp [intOf]; omega⟩
    · have hkl : k = m := by omega
      have HV : Hid (r = -1) := HR.out.symm.trans (idxV_none (hkl ▸ HN.out))
      clear hkl
      go_wp2
      go_ret
      exact ⟨ret_int HV.out.symm, rfl⟩

set_option maxHeartbeats 400000 in
theorem contains_any (a : Option Addr) (m cap : Nat) (id : Int) (zs : List Int) (w : World) (hA : IntsAt w a zs) (hm : m ≤ zs.length) (hlen : m ≤ 9223372036854775807) :
    Calls Try.prog 52 #[.slice a m cap, .int .i64 id] w fun e w' => e = .returned (.bool (hasTo zs m id)) ∧ w' = w := by
  have HA : Hid (IntsAt w a zs) := hA
  clear hA
  rw [← idxV_has]
  obtain ⟨t, HT⟩ : ∃ t, Hid (idxV zs m id = t) := ⟨_, rfl⟩
  rw [HT.out]
  go_enter Try.func52, Try.ntmps52
  go_wp2_with fail
  refine (index_any a m cap id zs w HA.out hm hlen).mono ?_
  rintro e w1 ⟨rfl, rfl⟩
  rw [HT.out]
  go_wp2
  go_ret
  exact ⟨by simp, rfl⟩

end Go.Proofs.Ytaehhlkpbhmdfaa

namespace Go.Proofs.Ytaehhlkpbhmdfaa
open Go.RowKit

set_option maxHeartbeats 400000 in
theorem implCount_any (n : Int) (w : World) :
    Calls Try.prog 41 #[.int .i64 n] w fun e w' => e = .returned (.int .i64 (countV n)) ∧ w' = w := by
  obtain ⟨r, HR⟩ : ∃ r, Hid (countV n = r) := ⟨_, rfl⟩
  rw [HR.out]
  cases hin : inB n 0 6
  · have HV : Hid (r = -1) := HR.out.symm.trans (countV_no hin)
    go_enter Try.func41, Try.ntmps41
    go_wp2_with (go_at_call 38; refine (within_any _ _ _ _).mono ?_; rintro e w' ⟨rfl, rfl⟩)
    go_ret
    exact ⟨ret_int HV.out.symm, rfl⟩
  · have hb := inB_true hin
    obtain ⟨n, rfl⟩ := Int.eq_ofNat_of_zero_le hb.1
    have hn : n ≤ 6 := by omega
    have HV : Hid (r = fac n) := HR.out.symm.trans (countV_yes hn)
    clear hb
    go_enter Try.func41, Try.ntmps41
    go_wp2_with (go_at_call 38; refine (within_any _ _ _ _).mono ?_; rintro e w' ⟨rfl, rfl⟩)
    clear hin
    go_loop [3, 9] (fun sm t => ∃ k : Nat, k ≤ n ∧ t = .int .i64 k ∧ sm = .int .i64 (fac k)) (fun _ t => n - (intOf t).toNat)
    case atStart => exact ⟨0, by omega, rfl, rfl⟩
    case round =>
      obtain ⟨k, hk, rfl, rfl⟩ := hrel
      by_cases hlt : k < n
      · obtain ⟨h1, h2, h3, h4, h5⟩ := fac_step (k := k) (by omega)
        obtain ⟨f0, H0⟩ : ∃ f, Hid (fac k = f) := ⟨_, rfl⟩
        obtain ⟨f1, H1⟩ : ∃ f, Hid (fac (k + 1) = f) := ⟨_, rfl⟩
        rw [H0.out] at h1 h2 h3 ⊢
        rw [H1.out] at h3 h4 h5
        have hm : wrap64 (f0 * ((k : Int) + 1)) = f1 := by rw [h3]; unfold wrap64; omega
        clear h3
        go_wp2
        refine ⟨⟨k + 1, by omega, by go_num, by rw [H1.out, hm]⟩, by simp [intOf]; omega⟩
      · have hkn : k = n := by omega
        rw [hkn]
        obtain ⟨f0, H0⟩ : ∃ f, Hid (fac n = f) := ⟨_, rfl⟩
        rw [H0.out] at HV ⊢
        clear hkn
        go_wp2
        go_ret
        exact ⟨ret_int HV.out.symm, rfl⟩

end Go.Proofs.Ytaehhlkpbhmdfaa

namespace Go.Proofs.Ytaehhlkpbhmdfaa
open Go.RowKit

theorem wrap_small {v : Int} (h1 : 0 ≤ v) (h2 : v ≤ 1000000) : wrap64 v = v := by unfold wrap64; omega

set_option maxHeartbeats 400000 in
theorem specCount_any (n : Int) (w : World) :
    Calls Try.prog 18 #[.int .i64 n] w fun e w' => e = .returned (.int .i64 (countV n)) ∧ w' = w := by
  obtain ⟨r, HR⟩ : ∃ r, Hid (countV n = r) := ⟨_, rfl⟩
  rw [HR.out]
  cases hin : inB n 0 6
  · have HV : Hid (r = -1) := HR.out.symm.trans (countV_no hin)
    go_enter Try.func18, Try.ntmps18
    go_wp2_with (go_at_call 39; refine (l1In_any _ _ _ _).mono ?_; rintro e w' ⟨rfl, rfl⟩)
    go_ret
    exact ⟨ret_int HV.out.symm, rfl⟩
  · have hb := inB_true hin
    obtain ⟨n, rfl⟩ := Int.eq_ofNat_of_zero_le hb.1
    have hn : n ≤ 6 := by omega
    have HV : Hid (r = fac n) := HR.out.symm.trans (countV_yes hn)
    clear hb
    go_enter Try.func18, Try.ntmps18
    go_wp2_with (go_at_call 39; refine (l1In_any _ _ _ _).mono ?_; rintro e w' ⟨rfl, rfl⟩)
    clear hin
    go_loop [3, 4] (fun sm t => ∃ k : Nat, 1 ≤ k ∧ (k = 1 ∨ k ≤ n) ∧ t = .int .i64 ((k : Int) + 1) ∧ sm = .int .i64 (fac k)) (fun _ t => 8 - (intOf t).toNat)
    case atStart => exact ⟨1, by omega, Or.inl rfl, rfl, rfl⟩
    case round =>
      obtain ⟨k, hk1, hk, rfl, rfl⟩ := hrel
      by_cases hlt : k + 1 ≤ n
      · obtain ⟨h1, h2, h3, h4, h5⟩ := fac_step (k := k) (by omega)
        obtain ⟨f0, H0⟩ : ∃ f, Hid (fac k = f) := ⟨_, rfl⟩
        obtain ⟨f1, H1⟩ : ∃ f, Hid (fac (k + 1) = f) := ⟨_, rfl⟩
        rw [H0.out] at h1 h2 h3 ⊢
        rw [H1.out] at h3 h4 h5
        have hm : wrap64 (f0 * ((k : Int) + 1)) = f1 := by rw [h3]; unfold wrap64; omega
        clear h3
        go_wp2
        refine ⟨⟨k + 1, by omega, by omega, by go_num, by rw [H1.out, hm]⟩, by simp [intOf]; omega⟩
      · have HF : Hid (fac k = fac n) := by
          show _ = _
          by_cases e : k = n
          · rw [e]
          · have : k = 1 ∧ n = 0 := by omega
            obtain ⟨rfl, rfl⟩ := this
            rfl
        rw [HF.out]
        obtain ⟨f0, H0⟩ : ∃ f, Hid (fac n = f) := ⟨_, rfl⟩
        rw [H0.out] at HV ⊢
        go_wp2
        go_ret
        exact ⟨ret_int HV.out.symm, rfl⟩

end Go.Proofs.Ytaehhlkpbhmdfaa

namespace Go.Proofs.Ytaehhlkpbhmdfaa
open Go.RowKit

set_option maxHeartbeats 400000 in
theorem big_any (a : Option Addr) (c len : Nat) (w : World) (hl : len ≤ 9223372036854775807) :
    Calls Try.prog 6 #[.slice a len c] w fun e w' => e = .returned (.bool (decide (1048576 < len))) ∧ w' = w := by
  by_cases h : 1048576 < len
  · rw [decide_eq_true h]
    go_enter Try.func6, Try.ntmps6
    go_wp2
    go_ret
    exact ⟨by first | rfl | (simp; omega), rfl⟩
  · rw [decide_eq_false h]
    go_enter Try.func6, Try.ntmps6
    go_wp2
    go_ret
    exact ⟨by first | rfl | (simp; omega), rfl⟩

end Go.Proofs.Ytaehhlkpbhmdfaa
