import Derived.Test.YtaehhlkpbhmdfaaPack0
import Derived.Test.YtaehhlkpbhmdfaaPack1
namespace Go.Proofs.Ytaehhlkpbhmdfaa
open Go.RowKit

theorem PTr.mem {n : Nat} {G : Nat → Nat → Int} {l : List ED} {ins : Nat → Bool} (h : PTr n G l ins) : ∀ e ∈ l, ∃ x y, x < n ∧ y < n ∧ e = edg G x y := by
  induction h with
  | nil => intro e he; cases he
  | snoc h1 h2 ih =>
    intro e he
    rcases List.mem_append.1 he with h3 | h3
    · exact ih e h3
    · simp only [List.mem_singleton] at h3
      obtain ⟨⟨x, y, h4, h5, _, _, h6⟩, _⟩ := h2
      exact ⟨x, y, h4, h5, by rw [h3, h6]⟩
theorem og3_fl (l : List ED) (k : Nat) (h : k < l.length) : og3 (flE l) k 2 = (l.getD k e0).t := by
  unfold og3
  rw [List.getD_eq_getElem?_getD, (flE_at l k h).2.2]
  rfl
theorem take_more (l : List ED) (k : Nat) (h : k < l.length) : l.take (k + 1) = l.take k ++ [l.getD k e0] := by
  rw [List.take_add_one, List.getD_eq_getElem?_getD, List.getElem?_eq_getElem h]
  rfl
theorem tree_take (l : List ED) : ∀ k, k ≤ l.length → treeTo (flE l) k = sumE (l.take k)
  | 0, _ => by simp [treeTo, sumE]
  | k + 1, h => by
    rw [treeTo, tree_take l k (by omega), take_more l k (by omega), sumE_snoc, og3_fl l k (by omega)]
/-- What TreeTime answers for a tree of a right matrix. -/
theorem tree_is {n : Nat} {G : Nat → Nat → Int} {l : List ED} {ins : Nat → Bool} (h : PTr n G l ins) (h0 : ∀ x y, x < n → y < n → 0 ≤ G x y ∧ G x y ≤ 10000) (hl : l.length ≤ 16) : treeV (flE l) l.length = sumE l := by
  unfold treeV
  have ht : ∀ j, j < l.length → inB (og3 (flE l) j 2) 0 10000 = true := fun j hj => by
    rw [og3_fl l j hj]
    obtain ⟨x, y, hx, hy, e⟩ := h.mem (l.getD j e0) (mem_at.2 ⟨j, hj, rfl⟩)
    rw [e]
    exact inB_mk (h0 x y hx hy)
  rw [if_pos ⟨hl, ht⟩, tree_take l l.length (Nat.le_refl _), List.take_length]
theorem unr_all {α : Type} : ∀ (d : Nat) (l : List α) (n : Nat), l.length = d → n < facN d → ∀ x ∈ l, x ∈ unr d l n
  | 0, l, n, hl, _, x, hx => by
    rw [List.length_eq_zero_iff.1 hl] at hx
    cases hx
  | d + 1, l, n, hl, hn, x, hx => by
    have hk : n / facN d < l.length := by
      rw [hl]
      rw [facN] at hn
      exact (Nat.div_lt_iff_lt_mul (facN_pos d)).2 (by rw [Nat.mul_comm]; exact hn)
    have h1 : l[n / facN d]? = some l[n / facN d] := List.getElem?_eq_getElem hk
    rw [unr_some h1]
    by_cases e : x = l[n / facN d]
    · rw [e]; exact List.mem_cons_self ..
    · refine List.mem_cons_of_mem _ (unr_all d _ _ (by rw [List.length_eraseIdx, if_pos hk]; omega) (Nat.mod_lt _ (facN_pos d)) x ?_)
      obtain ⟨j, hj, rfl⟩ := List.getElem_of_mem hx
      rw [List.mem_eraseIdx_iff_getElem?]
      exact ⟨j, fun e2 => e (by subst e2; rfl), List.getElem?_eq_getElem hj⟩
/-- 0, 1, .. -/
def rngI (n : Nat) : List Int := (List.range n).map (fun x : Nat => (x : Int))
theorem rngI_len (n : Nat) : (rngI n).length = n := by simp [rngI]
theorem rngI_snoc (n : Nat) : rngI (n + 1) = rngI n ++ [(n : Int)] := by simp [rngI, List.range_succ]
theorem pairs_snoc (a b : Nat) : ∀ Q : List Nat, pairs (Q ++ [a, b]) = pairs (Q ++ [a]) ++ [(a, b)]
  | [] => rfl
  | [x] => rfl
  | x :: y :: r => by
    have := pairs_snoc a b (y :: r)
    simp only [List.cons_append] at this ⊢
    simp only [pairs, this, List.cons_append]
theorem wt_app (G : Nat → Nat → Int) (E F : List (Nat × Nat)) : wt G (E ++ F) = wt G E + wt G F := by simp [wt]
theorem path_take (n : Nat) (zs : List Int) (P : List Nat) : ∀ k, k ≤ P.length → pathTo n zs (P.map (fun x : Nat => (x : Int))) k = wt (tmG zs n) (pairs (P.take k))
  | 0, _ => by simp [pathTo, pairs, wt]
  | 1, h => by
    have e : P.take 1 = [P[0]'(by omega)] := by rw [List.take_one]; simp [List.head?_eq_getElem?, List.getElem?_eq_getElem (show 0 < P.length by omega)]
    rw [e]
    simp [pathTo, pairs, wt]
  | k + 2, h => by
    have h1 := path_take n zs P (k + 1) (by omega)
    have e1 : P.take (k + 1) = P.take k ++ [P[k]'(by omega)] := by rw [List.take_add_one, List.getElem?_eq_getElem (by omega)]; rfl
    have e2 : P.take (k + 2) = P.take k ++ [P[k]'(by omega), P[k + 1]'(by omega)] := by
      have t : P.take (k + 1 + 1) = P.take (k + 1) ++ P[k + 1]?.toList := List.take_add_one
      rw [e1, List.getElem?_eq_getElem (show k + 1 < P.length by omega)] at t
      rw [show k + 2 = k + 1 + 1 from rfl, t, List.append_assoc]
      rfl
    have e3 : ∀ j (hj : j < P.length), (P.map (fun x : Nat => (x : Int))).getD j 0 = ((P[j]'hj : Nat) : Int) := fun j hj => by
      rw [List.getD_eq_getElem?_getD, List.getElem?_map, List.getElem?_eq_getElem hj]
      rfl
    rw [e2, pairs_snoc, ← e1, wt_app, ← h1, pathTo, if_neg (by omega), show k + 1 - 1 = k by omega, e3 k (by omega), e3 (k + 1) (by omega)]
    simp [wt, tmG]
theorem path_is {n : Nat} {zs : List Int} {P : List Nat} (hm : matB n zs = true) (hl : P.length ≤ 100) (hP : ∀ x ∈ P, x < n) : pathV n zs (P.map (fun x : Nat => (x : Int))) = wt (tmG zs n) (pairs P) := by
  rw [pathV_yes hm (by simpa using hl) (fun j hj => ?_), path_take n zs P _ (by simp), List.length_map, List.take_length]
  rw [List.length_map] at hj
  rw [List.getD_eq_getElem?_getD, List.getElem?_map, List.getElem?_eq_getElem hj]
  have := hP _ (List.getElem_mem hj)
  refine inB_mk ?_
  simp only [Option.map_some, Option.getD_some]
  omega
/-- A row of all places: a path that takes no less than the tree. -/
theorem bound_is {n : Nat} {zs : List Int} {l : List ED} {ins : Nat → Bool} {k : Int} (hs : symB n zs = true) (hn : n ≤ 6) (ht : PTr n (tmG zs n) l ins) (hl : l.length + 1 = n) (hk : permT (rngI n) k = true) : treeV (flE l) l.length ≤ pathV n zs (permV (rngI n) k) := by
  have hm : matB n zs = true := (of_decide_eq_true hs).1
  have hsy := (of_decide_eq_true hs).2
  obtain ⟨m1, m2, m3, m4⟩ := matB_true hm
  have hzl : zs.length = n * n := by rw [← Int.natCast_mul] at m3; omega
  have hG : ∀ x y, x < n → y < n → 0 ≤ tmG zs n x y ∧ tmG zs n x y ≤ 10000 := fun x y hx hy => by
    have hi : x * n + y < zs.length := by
      rw [hzl]
      have : (x + 1) * n ≤ n * n := Nat.mul_le_mul_right n hx
      rw [Nat.add_mul, Nat.one_mul] at this
      omega
    have := m4 _ hi
    exact ⟨this.1, this.2.1⟩
  have hsym : ∀ x y, x < n → y < n → tmG zs n x y = tmG zs n y x := fun x y hx hy => by
    by_cases e : x = y
    · rw [e]
    · by_cases h2 : y < x
      · have := hsy x (by simpa using hx) y h2
        simpa [tm, tmG] using this
      · have := hsy y (by simpa using hy) x (by omega)
        have h3 : tmG zs n y x = tmG zs n x y := by simpa [tm, tmG] using this
        exact h3.symm
  obtain ⟨m, rfl, _, hmf, hpv⟩ := permT_nat hk
  rw [rngI_len] at hmf hpv
  have e1 : permV (rngI n) (m : Int) = (unr n (List.range n) m).map (fun x : Nat => (x : Int)) := by
    rw [hpv, unr_map]
    rfl
  have hlen : (unr n (List.range n) m).length = n := unr_length n _ m (by simp) hmf
  have hlt : ∀ x ∈ unr n (List.range n) m, x < n := fun x hx => by simpa using unr_mem n _ m x hx
  rw [e1, path_is hm (by omega) hlt, tree_is ht hG (by omega)]
  exact path_least ht (by omega) hsym (fun x y hx hy => (hG x y hx hy).1) _ hlt (fun x hx => unr_all n _ m (by simp) hmf x (by simpa using hx))

end Go.Proofs.Ytaehhlkpbhmdfaa

namespace Go.Proofs.Ytaehhlkpbhmdfaa
open Go.RowKit

theorem og3_fl0 (l : List ED) (k : Nat) (h : k < l.length) : og3 (flE l) k 0 = (l.getD k e0).a := by
  unfold og3
  rw [Nat.add_zero, List.getD_eq_getElem?_getD, (flE_at l k h).1]
  rfl
theorem og3_fl1 (l : List ED) (k : Nat) (h : k < l.length) : og3 (flE l) k 1 = (l.getD k e0).b := by
  unfold og3
  rw [List.getD_eq_getElem?_getD, (flE_at l k h).2.1]
  rfl
/-- A set that has both ends of each edge or none, and 0, has all that are in. -/
theorem PTr.shut {n : Nat} {G : Nat → Nat → Int} {l : List ED} {ins : Nat → Bool} (h : PTr n G l ins) {T : Nat → Prop} (hT : ∀ e ∈ l, (T e.a.toNat ↔ T e.b.toNat)) (h0 : T 0) : ∀ z, ins z = true → T z := by
  induction h with
  | nil =>
    intro z hz
    unfold in0 inS at hz
    split at hz
    · rename_i e; rw [e]; exact h0
    · cases hz
  | snoc h1 h2 ih =>
    intro z hz
    have hold := ih (fun e he => hT e (List.mem_append_left _ he))
    obtain ⟨⟨x, y, h3, h4, h5, h6, rfl⟩, _⟩ := h2
    have ey : (edg G x y).b.toNat = y := by simp [edg]
    have ex : (edg G x y).a.toNat = x := by simp [edg]
    rw [ey] at hz
    unfold inS at hz
    split at hz
    · rename_i e
      rw [e]
      have := (hT (edg G x y) (by simp)).1
      rw [ex, ey] at this
      exact this (hold x h5)
    · exact hold z hz
theorem cntI_full {ins : Nat → Bool} : ∀ n, cntI ins n = n → ∀ p, p < n → ins p = true
  | 0, _, p, hp => by omega
  | n + 1, h, p, hp => by
    unfold cntI at h
    have hl := cntI_le ins n
    by_cases hi : ins n = true
    · rw [if_pos hi] at h
      by_cases e : p = n
      · rw [e]; exact hi
      · exact cntI_full n (by omega) p (by omega)
    · rw [if_neg hi] at h
      omega
/-- The tree spans all places. -/
theorem prim_spans {n : Nat} {G : Nat → Nat → Int} {l : List ED} {ins : Nat → Bool} (h : PTr n G l ins) (hl : l.length + 1 = n) (hn : n ≤ 16) : spanB n (flE l) l.length = true := by
  have hat : ∀ j, j < l.length → ∃ x y, x < n ∧ y < n ∧ l.getD j e0 = edg G x y := fun j hj => h.mem (l.getD j e0) (mem_at.2 ⟨j, hj, rfl⟩)
  have hA : ∀ k, k < n - 1 → endA (flE l) k < n := fun k hk => by
    obtain ⟨x, y, hx, _, e⟩ := hat k (by omega)
    unfold endA
    rw [og3_fl0 l k (by omega), e]
    simpa [edg] using hx
  have hB : ∀ k, k < n - 1 → endB (flE l) k < n := fun k hk => by
    obtain ⟨x, y, _, hy, e⟩ := hat k (by omega)
    unfold endB
    rw [og3_fl1 l k (by omega), e]
    simpa [edg] using hy
  have hall : ∀ p, p < n → ins p = true := cntI_full n (by have := (h.cnt (by omega)).1; omega)
  refine decide_eq_true ⟨by omega, by omega, by omega, fun j hj => ⟨?_, ?_, ?_⟩⟩
  · obtain ⟨x, y, hx, _, e⟩ := hat j hj
    rw [og3_fl0 l j hj, e]
    exact inB_mk (by simp only [edg]; omega)
  · obtain ⟨x, y, _, hy, e⟩ := hat j hj
    rw [og3_fl1 l j hj, e]
    exact inB_mk (by simp only [edg]; omega)
  · intro hno
    obtain ⟨T, hT, h0, p, hp, hnp⟩ := shut_some hA hB (show j < n - 1 by omega) (fun hj => hj hno)
    refine hnp (h.shut (fun e he => ?_) h0 p (hall p hp))
    obtain ⟨k, hk, rfl⟩ := mem_at.1 he
    have := hT k (by omega)
    unfold endA endB at this
    rw [og3_fl0 l k hk, og3_fl1 l k hk] at this
    exact this
/-- The ends of these edges. -/
def endsL (es : List Int) (m : Nat) : List (Nat × Nat) := (List.range m).map (fun j => (endA es j, endB es j))
theorem tree_ends (G : Nat → Nat → Int) (es fs : List Int) : ∀ m, (∀ j, j < m → og3 fs j 2 = G (endA es j) (endB es j)) → treeTo fs m = wt G (endsL es m)
  | 0, _ => by simp [treeTo, endsL, wt]
  | m + 1, h => by
    rw [treeTo, tree_ends G es fs m (fun j hj => h j (by omega)), h m (by omega)]
    unfold endsL
    rw [List.range_succ, List.map_append, wt_app]
    simp [wt]
/-- No other spanning tree takes less. -/
theorem span_least {n m : Nat} {zs es fs : List Int} {l : List ED} {ins : Nat → Bool} (hs : symB n zs = true) (ht : PTr n (tmG zs n) l ins) (hl : l.length + 1 = n) (hsp : spanB n es m = true) (hf : ∀ j, j < m → og3 fs j 2 = timeV n zs (og3 es j 0) (og3 es j 1)) : treeV (flE l) l.length ≤ treeV fs m := by
  have hm : matB n zs = true := (of_decide_eq_true hs).1
  have hsy := (of_decide_eq_true hs).2
  obtain ⟨m1, m2, m3, m4⟩ := matB_true hm
  have hzl : zs.length = n * n := by rw [← Int.natCast_mul] at m3; omega
  have hG : ∀ x y, x < n → y < n → 0 ≤ tmG zs n x y ∧ tmG zs n x y ≤ 10000 := fun x y hx hy => by
    have hi : x * n + y < zs.length := by
      rw [hzl]
      have : (x + 1) * n ≤ n * n := Nat.mul_le_mul_right n hx
      rw [Nat.add_mul, Nat.one_mul] at this
      omega
    have := m4 _ hi
    exact ⟨this.1, this.2.1⟩
  have hsym : ∀ x y, x < n → y < n → tmG zs n x y = tmG zs n y x := fun x y hx hy => by
    by_cases e : x = y
    · rw [e]
    · by_cases h2 : y < x
      · have := hsy x (by simpa using hx) y h2
        simpa [tm, tmG] using this
      · have := hsy y (by simpa using hy) x (by omega)
        have h3 : tmG zs n y x = tmG zs n x y := by simpa [tm, tmG] using this
        exact h3.symm
  obtain ⟨s1, s2, s3, s4⟩ := of_decide_eq_true hsp
  have hends : ∀ j, j < m → endA es j < n ∧ endB es j < n ∧ ((endA es j : Nat) : Int) = og3 es j 0 ∧ ((endB es j : Nat) : Int) = og3 es j 1 := fun j hj => by
    obtain ⟨k1, k2, _⟩ := s4 j hj
    have h1 := inB_true k1
    have h2 := inB_true k2
    unfold endA endB
    omega
  have htime : ∀ j, j < m → og3 fs j 2 = tmG zs n (endA es j) (endB es j) := fun j hj => by
    obtain ⟨e1, e2, e3, e4⟩ := hends j hj
    rw [hf j hj, ← e3, ← e4, timeV_at hm e1 e2]
    rfl
  have htv : treeV fs m = wt (tmG zs n) (endsL es m) := by
    unfold treeV
    rw [if_pos ⟨by omega, fun j hj => by
      obtain ⟨e1, e2, _⟩ := hends j hj
      rw [htime j hj]
      exact inB_mk (hG _ _ e1 e2)⟩]
    exact tree_ends _ es fs m htime
  rw [htv, tree_is ht hG (by omega)]
  refine mst_least ht hsym (fun x y hx hy => (hG x y hx hy).1) (endsL es m) (fun f hfm => ?_) (fun z hz => ?_)
  · unfold endsL at hfm
    obtain ⟨j, hj, rfl⟩ := List.mem_map.1 hfm
    rw [List.mem_range] at hj
    obtain ⟨e1, e2, _⟩ := hends j hj
    exact ⟨e1, e2⟩
  · have hmn : m = n - 1 := by omega
    refine shut_all (A := endA es) (B := endB es) (by omega) (fun k hk => (hends k (by omega)).1) (fun k hk => (hends k (by omega)).2.1) (fun k hk => (s4 k (by omega)).2.2) (T := fun p => Rch (endsL es m) in0 p) (fun k hk => ?_) (.base rfl) hz
    have hin : (endA es k, endB es k) ∈ endsL es m := by
      unfold endsL
      exact List.mem_map.2 ⟨k, List.mem_range.2 (by omega), rfl⟩
    exact ⟨fun h => .step hin (.inr rfl) h, fun h => .step hin (.inl rfl) h⟩

end Go.Proofs.Ytaehhlkpbhmdfaa

namespace Go.Proofs.Ytaehhlkpbhmdfaa
open Go.RowKit

/-- The slice at 'a' holds the bytes bs, none of them in block q. -/
def BytesAt (w : World) (q : Nat) (a : Option Addr) (bs : List Int) : Prop :=
  ∀ j, j < bs.length → ∃ b off, a = some ⟨b, off, none⟩ ∧ b ≠ q ∧ w.cell? ⟨b, off + j, none⟩ = some (.int .u8 (bs.getD j 0)) ∧ 0 ≤ bs.getD j 0 ∧ bs.getD j 0 < 256
/-- A reader of drawn bytes in block q: its bytes, and how many it has read. -/
def RD (w : World) (q : Nat) (a : Option Addr) (bs : List Int) (c p : Nat) : Prop :=
  w.heap[q]? = some (.cells #[.slice a bs.length c, .int .i64 p] 84 (0, 0)) ∧ p ≤ bs.length ∧ BytesAt w q a bs ∧ bs.length ≤ 1048576
theorem BytesAt.grown {w w' : World} {q : Nat} {a : Option Addr} {bs : List Int} (h : BytesAt w q a bs) (hg : w.grownBy w' (some q)) : BytesAt w' q a bs := by
  intro j hj
  obtain ⟨b, off, e, hne, hc, hv⟩ := h j hj
  refine ⟨b, off, e, hne, ?_, hv⟩
  have hlt := block_lt_of_cell hc
  rw [World.cell?_of_block (hg.block b hlt (fun e => hne (by simpa using e)))]
  exact hc
theorem RD.below {w w' : World} {q : Nat} {a : Option Addr} {bs : List Int} {c p : Nat} (h : RD w q a bs c p) (hb : Below w.heap.size w w') : RD w' q a bs c p := by
  refine ⟨below_row hb (row_lt h.1) h.1, h.2.1, fun j hj => ?_, h.2.2.2⟩
  obtain ⟨b, off, e, hne, hc, hv⟩ := h.2.2.1 j hj
  exact ⟨b, off, e, hne, (hb.cell (p := ⟨b, off + j, none⟩) (block_lt_of_cell hc)).trans hc, hv⟩
theorem RD.put {w : World} {q : Nat} {a : Option Addr} {bs : List Int} {c p p' : Nat} (h : RD w q a bs c p) (hp : p' ≤ bs.length) : RD (w.setCell ⟨q, 1, none⟩ (.int .i64 p')) q a bs c p' := by
  refine ⟨?_, hp, h.2.2.1.grown (grown_set w q 1 _), h.2.2.2⟩
  have := heap_setCell_same w q 1 _ _ (Value.int .i64 p') h.1
  simpa using this
/-- What a draw answers: a number that is at least lo and below hi; the reader alone has changed. -/
def DrawOk (w : World) (q : Nat) (a : Option Addr) (bs : List Int) (c : Nat) (lo hi : Int) (e : Ending) (w' : World) : Prop :=
  ∃ (v : Int) (p' : Nat), e = .returned (.int .i64 v) ∧ lo ≤ v ∧ v < hi ∧ RD w' q a bs c p' ∧ w.grownBy w' (some q)
theorem grown_drew {w w' : World} {q : Nat} (h : w.grownBy w' (some q)) : w.grownBy w'.drew (some q) := ⟨h.os, h.tape, h.output, h.size, h.block⟩

set_option maxHeartbeats 1000000 in
theorem next_any (q p c : Nat) (a : Option Addr) (bs : List Int) (w : World) (h : RD w q a bs c p) :
    Calls Try.prog 50 #[.pointer (some ⟨q, 0, none⟩)] w (DrawOk w q a bs c 0 256) := by
  have H : Hid (RD w q a bs c p) := h
  obtain ⟨c0, c1⟩ := cells2 h.1
  have hp := h.2.1
  have hbl := h.2.2.2
  clear h
  by_cases hlt : p < bs.length
  · obtain ⟨b, off, rfl, hne, hc, h1, h2⟩ := H.out.2.2.1 p hlt
    obtain ⟨v, HV⟩ : ∃ t, Hid (bs.getD p 0 = t) := ⟨_, rfl⟩
    rw [HV.out] at hc h1 h2
    have hnge : ¬ ((bs.length : Int) ≤ (p : Int)) := by omega
    have hwp : IntKind.i64.wrap ((p : Int) + 1) = ((p + 1 : Nat) : Int) := by rw [IntWalk.i64_in _ (by omega)]; omega
    have cf := fun i => frozen_of_row _ _ i _ _ H.out.1
    go_enter Try.func50, Try.ntmps50
    go_wp2_with fail
    go_region
    all_goals
      have hnl : ¬ bs.length ≤ p := by omega
      go_wp2_with fail
      have r1 := (H.out.put (p' := p + 1) (by omega)).below (Below.refl _ _).drew
      have g1 := grown_drew (grown_set w q 1 (Value.int .i64 ((p + 1 : Nat) : Int)))
      rw [show ((p + 1 : Nat) : Int) = (p : Int) + 1 by omega] at r1 g1
      generalize (w.setCell ⟨q, 1, none⟩ (.int .i64 ((p : Int) + 1))).drew = W1 at *
      have R1 : Hid (RD W1 q (some ⟨b, off, none⟩) bs c (p + 1)) := r1
      have G1 : Hid (w.grownBy W1 (some q)) := g1
      clear c0 c1 hc cf r1 g1
      obtain ⟨c0, c1⟩ := cells2 R1.out.1
      obtain ⟨b2, off2, e2, _, hc, _⟩ := R1.out.2.2.1 p hlt
      simp at e2
      obtain ⟨rfl, rfl⟩ := e2
      rw [HV.out] at hc
      rw [show ((p + 1 : Nat) : Int) = (p : Int) + 1 by omega] at c1
      have hw2 : IntKind.i64.wrap ((p : Int) + 1 - 1) = (p : Int) := by rw [IntWalk.i64_in _ (by omega)]; omega
      have hp0 : (0 : Int) ≤ (p : Int) := by omega
      have hw3 : IntKind.i64.wrap v = v := IntWalk.i64_in _ (by omega)
      go_region
      all_goals
        go_wp2
        go_ret
        exact ⟨v, p + 1, rfl, h1, h2, R1.out.below (Below.refl _ _).drew, grown_drew G1.out⟩
  · have hge : (bs.length : Int) ≤ (p : Int) := by omega
    have hnl : bs.length ≤ p := by omega
    go_enter Try.func50, Try.ntmps50
    go_wp2_with fail
    go_region
    all_goals
      go_wp2
      go_ret
      exact ⟨0, p, rfl, by omega, by omega, H.out.below (Below.refl _ _).drew, grown_drew (grown_refl w q)⟩

theorem DrawOk.mono {w : World} {q c : Nat} {a : Option Addr} {bs : List Int} {lo hi hi' : Int} {e : Ending} {w' : World} (h : DrawOk w q a bs c lo hi e w') (hh : hi ≤ hi') : DrawOk w q a bs c lo hi' e w' := by
  obtain ⟨v, p, h1, h2, h3, h4⟩ := h
  exact ⟨v, p, h1, h2, by omega, h4⟩

set_option maxHeartbeats 1000000 in
theorem below_any (q p c : Nat) (n : Int) (a : Option Addr) (bs : List Int) (w : World) (h : RD w q a bs c p) (hn : n ≤ 65536) :
    Calls Try.prog 36 #[.pointer (some ⟨q, 0, none⟩), .int .i64 n] w (DrawOk w q a bs c 0 (max n 1)) := by
  have H : Hid (RD w q a bs c p) := h
  clear h
  by_cases h1 : n ≤ 1
  · go_enter Try.func36, Try.ntmps36
    go_wp2
    go_ret
    exact ⟨0, p, rfl, by omega, by omega, H.out, grown_refl w q⟩
  · by_cases h2 : n ≤ 256
    · have hn0 : ¬ n = 0 := by omega
      go_enter Try.func36, Try.ntmps36
      go_wp2_with fail
      refine (next_any q p c a bs w H.out).mono ?_
      rintro e w1 ⟨v, p1, rfl, hv0, hv1, hr, hg⟩
      have R1 : Hid (RD w1 q a bs c p1) := hr
      have G1 : Hid (w.grownBy w1 (some q)) := hg
      clear hr hg
      go_wp2
      go_ret
      exact ⟨v % n, p1, rfl, Int.emod_nonneg _ (by omega), by have := Int.emod_lt_of_pos v (show 0 < n by omega); omega, R1.out, G1.out⟩
    · have hn0 : ¬ n = 0 := by omega
      go_enter Try.func36, Try.ntmps36
      go_wp2_with fail
      refine (next_any q p c a bs w H.out).mono ?_
      rintro e w1 ⟨v, p1, rfl, hv0, hv1, hr, hg⟩
      have R1 : Hid (RD w1 q a bs c p1) := hr
      have G1 : Hid (w.grownBy w1 (some q)) := hg
      clear hr hg
      obtain ⟨x, hx⟩ : ∃ x, v * 256 = x := ⟨_, rfl⟩
      have hwx : IntKind.i64.wrap (v * 256) = x := by rw [IntWalk.i64_in _ (by omega)]; exact hx
      have hx0 : 0 ≤ x ∧ x ≤ 65280 := by omega
      go_wp2_with fail
      refine (next_any q p1 c a bs w1 R1.out).mono ?_
      rintro e w2 ⟨u, p2, rfl, hu0, hu1, hr, hg⟩
      have R2 : Hid (RD w2 q a bs c p2) := hr
      have G2 : Hid (w1.grownBy w2 (some q)) := hg
      clear hr hg
      obtain ⟨y, hy⟩ : ∃ y, x + u = y := ⟨_, rfl⟩
      have hwy : IntKind.i64.wrap (x + u) = y := by rw [IntWalk.i64_in _ (by omega)]; exact hy
      have hy0 : 0 ≤ y ∧ y ≤ 65535 := by omega
      clear hwx hv0 hv1 hu0 hu1
      go_wp2
      go_ret
      exact ⟨y % n, p2, by first | rfl | (subst hy; subst hx; rfl), Int.emod_nonneg _ (by omega), by have := Int.emod_lt_of_pos y (show 0 < n by omega); omega, R2.out, grown_trans G1.out G2.out⟩

end Go.Proofs.Ytaehhlkpbhmdfaa

namespace Go.Proofs.Ytaehhlkpbhmdfaa
open Go.RowKit

set_option maxHeartbeats 1000000 in
theorem once_any (q p c : Nat) (n : Int) (a : Option Addr) (bs : List Int) (w : World) (h : RD w q a bs c p) (h1 : 0 ≤ n) (hn : n ≤ 65536) :
    Calls Try.prog 37 #[.pointer (some ⟨q, 0, none⟩), .int .i64 n] w fun e w' => ∃ (v : Bool) (p' : Nat), e = .returned (.bool v) ∧ RD w' q a bs c p' ∧ w.grownBy w' (some q) := by
  have H : Hid (RD w q a bs c p) := h
  clear h
  have hw1 : IntKind.i64.wrap (n - 1) = n - 1 := IntWalk.i64_in _ (by omega)
  go_enter Try.func37, Try.ntmps37
  go_wp2_with fail
  refine (below_any q p c n a bs w H.out hn).mono ?_
  rintro e w1 ⟨v, p1, rfl, hv0, hv1, hr, hg⟩
  have R1 : Hid (RD w1 q a bs c p1) := hr
  have G1 : Hid (w.grownBy w1 (some q)) := hg
  clear hr hg hv0 hv1
  go_wp2
  go_ret
  exact ⟨_, p1, rfl, R1.out, G1.out⟩

end Go.Proofs.Ytaehhlkpbhmdfaa

namespace Go.Proofs.Ytaehhlkpbhmdfaa
open Go.RowKit

theorem or_u64 (x y : Int) : 0 ≤ bits BinOp.or IntKind.u64 x y ∧ bits BinOp.or IntKind.u64 x y < 18446744073709551616 := by
  unfold bits
  rw [IntKind.wrap_u64]
  omega
/-- What 'word' answers: some number of 64 bits; the reader alone has changed. -/
def WordOk (w : World) (q : Nat) (a : Option Addr) (bs : List Int) (c : Nat) (e : Ending) (w' : World) : Prop :=
  ∃ (v : Int) (p' : Nat), e = .returned (.int .u64 v) ∧ 0 ≤ v ∧ v < 18446744073709551616 ∧ RD w' q a bs c p' ∧ w.grownBy w' (some q)

set_option maxHeartbeats 2000000 in
theorem word_any (q p c : Nat) (a : Option Addr) (bs : List Int) (w : World) (h : RD w q a bs c p) :
    Calls Try.prog 57 #[.pointer (some ⟨q, 0, none⟩)] w (WordOk w q a bs c) := by
  have H : Hid (RD w q a bs c p) := h
  clear h
  go_enter Try.func57, Try.ntmps57
  go_wp2_with fail
  go_loopw [3, 4] (fun tx t wr => ∃ (k p' : Nat) (x : Int), k ≤ 8 ∧ t = .int .i64 k ∧ tx = .int .u64 x ∧ 0 ≤ x ∧ x < 18446744073709551616 ∧ RD wr q a bs c p' ∧ w.grownBy wr (some q)) (fun _ t _ => 8 - (intOf t).toNat)
  case atStart => exact ⟨0, p, 0, by omega, rfl, rfl, by omega, by omega, H.out, grown_refl w q⟩
  case round =>
    obtain ⟨k, p1, x, hk, rfl, rfl, hx0, hx1, hr, hg⟩ := hrel
    have R1 : Hid (RD wr q a bs c p1) := hr
    have G1 : Hid (w.grownBy wr (some q)) := hg
    clear hr hg
    by_cases hlt : k < 8
    · have hlt' : (k : Int) < 8 := by omega
      have hwk : IntKind.i64.wrap ((k : Int) + 1) = ((k + 1 : Nat) : Int) := by rw [IntWalk.i64_in _ (by omega)]; omega
      go_wp2_with fail
      refine (next_any q p1 c a bs wr R1.out).mono ?_
      rintro e w2 ⟨v, p2, rfl, hv0, hv1, hr, hg⟩
      have R2 : Hid (RD w2 q a bs c p2) := hr
      have G2 : Hid (w.grownBy w2 (some q)) := grown_trans G1.out hg
      clear hr hg
      go_wp2
      go_roundw
      case rel =>
        obtain ⟨b1, b2⟩ := or_u64 (IntKind.u64.wrap (x * 256)) v
        exact ⟨k + 1, p2, _, by omega, by first | rfl | go_num, rfl, b1, b2, R2.out, G2.out⟩
      case measure => simp [intOf]; omega
    · have hke : k = 8 := by omega
      subst hke
      go_wp2
      go_ret
      exact ⟨x, p1, rfl, hx0, hx1, R1.out, G1.out⟩

end Go.Proofs.Ytaehhlkpbhmdfaa

namespace Go.Proofs.Ytaehhlkpbhmdfaa
open Go.RowKit

theorem grown_alloc (w : World) (o : Obj) (q : Nat) : w.grownBy (w.alloc o) (some q) := ⟨rfl, rfl, rfl, by simp, fun k hk _ => heap_alloc_old _ _ hk⟩
theorem wrap64_bd (n : Int) : -9223372036854775808 ≤ wrap64 n ∧ wrap64 n < 9223372036854775808 := by
  unfold wrap64
  omega
/-- What 'near' and 'off' answer: some number; of what was there the reader alone has changed. -/
def NumOk (w : World) (q : Nat) (a : Option Addr) (bs : List Int) (c : Nat) (e : Ending) (w' : World) : Prop :=
  ∃ (v : Int) (p' : Nat), e = .returned (.int .i64 v) ∧ -9223372036854775808 ≤ v ∧ v < 9223372036854775808 ∧ RD w' q a bs c p' ∧ w.grownBy w' (some q)

def OffOk (w : World) (q : Nat) (a : Option Addr) (bs : List Int) (c : Nat) (e : Ending) (w' : World) : Prop := NumOk w q a bs c e w'

/-- How many numbers lie between, as 64 bits without a sign. -/
theorem near_d {lo hi : Int} (hl0 : -3000000000 ≤ lo) (hl1 : lo ≤ 3000000000) (hh0 : -9223372036854775808 ≤ hi) (hh1 : hi < 9223372036854775808) (h : lo ≤ hi) : ¬ IntKind.u64.wrap (IntKind.i64.wrap (IntKind.i64.wrap (hi - lo) + 1)) = 0 ∧ 0 < IntKind.u64.wrap (IntKind.i64.wrap (IntKind.i64.wrap (hi - lo) + 1)) ∧ IntKind.u64.wrap (IntKind.i64.wrap (IntKind.i64.wrap (hi - lo) + 1)) < 18446744073709551616 := by
  rw [IntKind.wrap_u64, IntKind.wrap_i64, IntKind.wrap_i64]
  omega

set_option maxHeartbeats 2000000 in
theorem near_any (q p c : Nat) (lo hi : Int) (a : Option Addr) (bs : List Int) (w : World) (h : RD w q a bs c p) (hl0 : -3000000000 ≤ lo) (hl1 : lo ≤ 3000000000) (hh0 : -9223372036854775808 ≤ hi) (hh1 : hi < 9223372036854775808) :
    Calls Try.prog 56 #[.pointer (some ⟨q, 0, none⟩), .int .i64 lo, .int .i64 hi] w (NumOk w q a bs c) := by
  have H : Hid (RD w q a bs c p) := h
  clear h
  go_enter Try.func56, Try.ntmps56
  go_wp2_with fail
  refine (below_any q p c 8 a bs w H.out (by omega)).mono ?_
  rintro e w1 ⟨v, p1, rfl, hv0, hv1, hr, hg⟩
  have R1 : Hid (RD w1 q a bs c p1) := hr
  have G1 : Hid (w.grownBy w1 (some q)) := hg
  clear hr hg
  rcases (show v = 0 ∨ v = 1 ∨ (¬ v = 0 ∧ ¬ v = 1) from by omega) with rfl | rfl | ⟨h0, h1⟩
  · go_wp2
    go_ret
    exact ⟨lo, p1, rfl, by omega, by omega, R1.out, G1.out⟩
  · go_wp2
    go_ret
    exact ⟨hi, p1, rfl, by omega, by omega, R1.out, G1.out⟩
  · have e0 : (v == 0) = false := by simpa using h0
    have e1 : (v == 1) = false := by simpa using h1
    by_cases hlt : hi < lo
    · go_wp2
      go_ret
      exact ⟨lo, p1, rfl, by omega, by omega, R1.out, G1.out⟩
    · obtain ⟨hdn0, hd1, hd2⟩ := near_d hl0 hl1 hh0 hh1 (by omega)
      obtain ⟨x1, HX1⟩ : ∃ x, IntKind.i64.wrap (hi - lo) = x := ⟨_, rfl⟩
      rw [HX1] at hdn0 hd1 hd2
      obtain ⟨x2, HX2⟩ : ∃ x, IntKind.i64.wrap (x1 + 1) = x := ⟨_, rfl⟩
      rw [HX2] at hdn0 hd1 hd2
      obtain ⟨d, HD⟩ : ∃ x, IntKind.u64.wrap x2 = x := ⟨_, rfl⟩
      rw [HD] at hdn0 hd1 hd2
      have HX1' : wrap64 (hi - lo) = x1 := by rw [← HX1, IntKind.wrap_i64]; unfold wrap64; rfl
      have HX2' : wrap64 (x1 + 1) = x2 := by rw [← HX2, IntKind.wrap_i64]; unfold wrap64; rfl
      clear hv0 hv1
      go_wp2_with fail
      refine (word_any q p1 c a bs w1 R1.out).mono ?_
      rintro e w2 ⟨x, p2, rfl, hx0, hx1, hr, hg⟩
      have R2 : Hid (RD w2 q a bs c p2) := hr
      have G2 : Hid (w.grownBy w2 (some q)) := grown_trans G1.out hg
      clear hr hg
      have hdn : ¬ d = 0 := hdn0
      go_wp2
      go_ret
      have hb := wrap64_bd (lo + wrap64 (x / 2 % d))
      exact ⟨_, p2, rfl, hb.1, hb.2, R2.out, G2.out⟩

set_option maxHeartbeats 2000000 in
theorem off_any (q p c : Nat) (lo hi : Int) (a : Option Addr) (bs : List Int) (w : World) (h : RD w q a bs c p) (hl0 : -3000000000 ≤ lo) (hl1 : lo ≤ 3000000000) (hh0 : -9223372036854775808 ≤ hi) (hh1 : hi < 9223372036854775808) :
    Calls Try.prog 54 #[.pointer (some ⟨q, 0, none⟩), .int .i64 lo, .int .i64 hi] w (OffOk w q a bs c) := by
  have H : Hid (RD w q a bs c p) := h
  clear h
  go_enter Try.func54, Try.ntmps54
  go_wp2_with fail
  refine (once_any q p c 24 a bs w H.out (by omega) (by omega)).mono ?_
  rintro e w1 ⟨v, p1, rfl, hr, hg⟩
  have R1 : Hid (RD w1 q a bs c p1) := hr
  have G1 : Hid (w.grownBy w1 (some q)) := hg
  clear hr hg
  cases v
  · go_wp2_with fail
    refine (near_any q p1 c lo hi a bs w1 R1.out hl0 hl1 hh0 hh1).mono ?_
    rintro e w2 ⟨x, p2, rfl, hx0, hx1, hr, hg⟩
    have R2 : Hid (RD w2 q a bs c p2) := hr
    have G2 : Hid (w.grownBy w2 (some q)) := grown_trans G1.out hg
    clear hr hg
    go_wp2
    go_ret
    exact ⟨x, p2, rfl, hx0, hx1, R2.out, G2.out⟩
  · have hw1 : IntKind.i64.wrap (lo - 1) = lo - 1 := IntWalk.i64_in _ (by omega)
    obtain ⟨h2, HH2⟩ : ∃ x, IntKind.i64.wrap (hi + 1) = x := ⟨_, rfl⟩
    have HH2' : wrap64 (hi + 1) = h2 := by rw [← HH2, IntKind.wrap_i64]; unfold wrap64; rfl
    have hh2 : -9223372036854775808 ≤ h2 ∧ h2 < 9223372036854775808 := by rw [← HH2']; exact wrap64_bd _
    go_wp2_with fail
    have RA : Hid (RD (w1.alloc (Obj.cells #[Value.int IntKind.i64 (lo - 1), Value.int IntKind.i64 h2, Value.int IntKind.i64 (-9223372036854775808), Value.int IntKind.i64 9223372036854775807] 2)) q a bs c p1) := R1.out.below ((Below.refl _ _).alloc (Nat.le_refl _) _)
    have NA : Hid ((w1.alloc (Obj.cells #[Value.int IntKind.i64 (lo - 1), Value.int IntKind.i64 h2, Value.int IntKind.i64 (-9223372036854775808), Value.int IntKind.i64 9223372036854775807] 2)).heap[w1.heap.size]? = _) := heap_alloc_new _ _
    have HQ : Hid (q < w1.heap.size) := row_lt R1.out.1
    refine (below_any q p1 c 4 a bs _ RA.out (by omega)).mono ?_
    rintro e w2 ⟨x, p2, rfl, hx0, hx1, hr, hg⟩
    have R2 : Hid (RD w2 q a bs c p2) := hr
    have G2 : Hid (w.grownBy w2 (some q)) := grown_trans (grown_trans G1.out (grown_alloc w1 _ q)) hg
    have N2 := (hg.block _ (row_lt NA.out) (fun e => by have := HQ.out; simp at e; omega)).trans NA.out
    clear hr hg
    have n0 := cell_of_row _ _ 0 _ _ _ N2
    have n1 := cell_of_row _ _ 1 _ _ _ N2
    have n2 := cell_of_row _ _ 2 _ _ _ N2
    have n3 := cell_of_row _ _ 3 _ _ _ N2
    simp at n0 n1 n2 n3
    clear N2
    rcases (show x = 0 ∨ x = 1 ∨ x = 2 ∨ x = 3 from by omega) with rfl | rfl | rfl | rfl
    all_goals
      go_wp2
      go_ret
      exact ⟨_, p2, rfl, by omega, by omega, R2.out, G2.out⟩

end Go.Proofs.Ytaehhlkpbhmdfaa

namespace Go.Proofs.Ytaehhlkpbhmdfaa
open Go.RowKit

/-- The slice at 'a' holds the bytes bs. -/
def CodeAt (w : World) (a : Option Addr) (bs : List Int) : Prop :=
  ∀ j, j < bs.length → ∃ b off, a = some ⟨b, off, none⟩ ∧ w.cell? ⟨b, off + j, none⟩ = some (.int .u8 (bs.getD j 0)) ∧ 0 ≤ bs.getD j 0 ∧ bs.getD j 0 < 256

set_option maxHeartbeats 400000 in
theorem l1Open_any (a : Option Addr) (c : Nat) (bs : List Int) (w : World) (h : CodeAt w a bs) (hl : bs.length ≤ 1048576) :
    Calls Try.prog 27 #[.slice a bs.length c] w fun e w' => e = .returned (.pointer (some ⟨w.heap.size, 0, none⟩)) ∧ Below w.heap.size w w' ∧ RD w' w.heap.size a bs c 0 := by
  have H : Hid (CodeAt w a bs) := h
  clear h
  go_enter Try.func27, Try.ntmps27
  go_wp2
  go_ret
  refine ⟨rfl, (Below.refl _ _).alloc (Nat.le_refl _) _, heap_alloc_new _ _, Nat.zero_le _, fun j hj => ?_, hl⟩
  obtain ⟨b, off, e, hc, hv⟩ := H.out j hj
  have hlt := block_lt_of_cell hc
  simp at hlt
  exact ⟨b, off, e, by omega, (((Below.refl w.heap.size w).alloc (Nat.le_refl _) _).cell (p := ⟨b, off + j, none⟩) hlt).trans hc, hv⟩

/-- Where the reader was made by the call itself, what was there is as it was. -/
theorem grown_below {w w1 w2 : World} {q : Nat} (hb : Below w.heap.size w w1) (hq : w.heap.size ≤ q) (hg : w1.grownBy w2 (some q)) : Below w.heap.size w w2 := hb.grown hg hb.size (fun k e => by injection e with e; omega)

end Go.Proofs.Ytaehhlkpbhmdfaa

namespace Go.Proofs.Ytaehhlkpbhmdfaa
end Go.Proofs.Ytaehhlkpbhmdfaa

namespace Go.Proofs.Ytaehhlkpbhmdfaa
open Go.RowKit

def z16 : List Int := (List.range 16).map fun _ => 0
theorem Try.info16 : (Try.prog.info? 53).map (fun i => (i.zero, i.size)) = some (some (.agg (cellsOf z16)), 16) := by kernel_rfl
/-- The first k places, each a group of its own. -/
def ownL (k : Nat) : List Int := (List.range 16).map fun p => if p < k then (p : Int) else 0
theorem ownL_length (k : Nat) : (ownL k).length = 16 := by simp [ownL]
theorem ownL_zero : ownL 0 = z16 := by unfold ownL z16; apply List.map_congr_left; intro p _; rw [if_neg (by omega)]
theorem ownL_step {k : Nat} : (ownL k).set k (k : Int) = ownL (k + 1) := by
  apply List.ext_getElem
  · simp [ownL]
  · intro p h1 h2
    by_cases e : k = p
    · subst e
      simp only [ownL, List.getElem_set, List.getElem_map, List.getElem_range, if_true]
      rw [if_pos (by omega)]
    · simp only [ownL, List.getElem_set, List.getElem_map, List.getElem_range, if_neg e]
      by_cases c : p < k
      · rw [if_pos c, if_pos (by omega)]
      · rw [if_neg c, if_neg (by omega)]
/-- The groups behind k edges, those of the first j places behind one more. -/
def updL (n : Nat) (A B : Nat → Nat) (k j : Nat) : List Int := (List.range 16).map fun p => if p < n then (if p < j then ((grp A B (k + 1) p : Nat) : Int) else ((grp A B k p : Nat) : Int)) else 0
theorem updL_length (n : Nat) (A B : Nat → Nat) (k j : Nat) : (updL n A B k j).length = 16 := by simp [updL]
theorem updL_own (n : Nat) (A B : Nat → Nat) : updL n A B 0 0 = ownL n := by
  unfold updL ownL; apply List.map_congr_left; intro p _
  by_cases c : p < n
  · rw [if_pos c, if_pos c, if_neg (by omega)]; rfl
  · rw [if_neg c, if_neg c]
theorem updL_next (n : Nat) (A B : Nat → Nat) (k : Nat) : updL n A B k n = updL n A B (k + 1) 0 := by
  unfold updL; apply List.map_congr_left; intro p _
  by_cases c : p < n
  · rw [if_pos c, if_pos c, if_pos c, if_neg (by omega)]
  · rw [if_neg c, if_neg c]
theorem updL_at (n : Nat) (A B : Nat → Nat) (k j p : Nat) (hp : p < n) (hj : j ≤ p) (hn : n ≤ 16) : (updL n A B k j).getD p 0 = (grp A B k p : Nat) := by
  unfold updL
  rw [List.getD_eq_getElem?_getD, List.getElem?_map, List.getElem?_range (by omega)]
  simp only [Option.map_some, Option.getD_some]
  rw [if_pos hp, if_neg (by omega)]
theorem updL_same (n : Nat) (A B : Nat → Nat) (k j : Nat) (h : grp A B k j ≠ grp A B k (B k)) : updL n A B k (j + 1) = updL n A B k j := by
  unfold updL; apply List.map_congr_left; intro p _
  by_cases c : p < n
  · rw [if_pos c, if_pos c]
    by_cases e : p = j
    · subst e
      rw [if_pos (by omega), if_neg (by omega)]
      show ((if grp A B k p = grp A B k (B k) then grp A B k (A k) else grp A B k p : Nat) : Int) = _
      rw [if_neg h]
    · by_cases c2 : p < j
      · rw [if_pos c2, if_pos (by omega)]
      · rw [if_neg c2, if_neg (by omega)]
  · rw [if_neg c, if_neg c]
theorem updL_set (n : Nat) (A B : Nat → Nat) (k j : Nat) (hj : j < n) (h : grp A B k j = grp A B k (B k)) : (updL n A B k j).set j ((grp A B k (A k) : Nat) : Int) = updL n A B k (j + 1) := by
  apply List.ext_getElem
  · simp [updL]
  · intro p h1 h2
    by_cases e : j = p
    · subst e
      simp only [updL, List.getElem_set, List.getElem_map, List.getElem_range, if_true]
      rw [if_pos hj, if_pos (by omega)]
      show _ = ((if grp A B k j = grp A B k (B k) then grp A B k (A k) else grp A B k j : Nat) : Int)
      rw [if_pos h]
    · simp only [updL, List.getElem_set, List.getElem_map, List.getElem_range, if_neg e]
      by_cases c : p < n
      · rw [if_pos c, if_pos c]
        by_cases c2 : p < j
        · rw [if_pos c2, if_pos (by omega)]
        · rw [if_neg c2, if_neg (by omega)]
      · rw [if_neg c, if_neg c]
theorem upd_cell {W : World} {g n k j p : Nat} {A B : Nat → Nat} {T : TypeId} (hg : W.heap[g]? = some (.cells (cellsOf (updL n A B k j)) T (0, 0))) (hp : p < n) (hj : j ≤ p) (hn : n ≤ 16) :
    W.cell? ⟨g, p, none⟩ = some (.int .i64 (grp A B k p : Nat)) := by
  rw [cell_of_row _ _ _ _ _ _ hg, cellsOf_get _ _ (by rw [updL_length]; omega), updL_at n A B k j p hp hj hn]
theorem spanTo_step {n : Int} {es : List Int} {k : Nat} (h : spanTo n es k) (h1 : inB (og3 es k 0) 0 (n - 1) = true) (h2 : inB (og3 es k 1) 0 (n - 1) = true) (h3 : grp (endA es) (endB es) k (endA es k) ≠ grp (endA es) (endB es) k (endB es k)) : spanTo n es (k + 1) := by
  intro j hj
  by_cases e : j = k
  · rw [e]; exact ⟨h1, h2, h3⟩
  · exact h j (by omega)

set_option maxHeartbeats 400000 in
theorem implSpans_out (n : Int) (a : Option Addr) (m cap : Nat) (w : World) (h : ¬ (1 ≤ n ∧ n ≤ 16 ∧ (m : Int) = n - 1)) :
    Calls Try.prog 13 #[.int .i64 n, .slice a m cap] w fun e w' => e = .returned (.bool false) ∧ Below w.heap.size w w' := by
  by_cases hn : 1 ≤ n ∧ n ≤ 16
  · have hd1 : inB n 1 16 = true := inB_mk hn
    have hne : ((m : Int) != n - 1) = true := by rw [bne_iff_ne]; exact fun e => h ⟨hn.1, hn.2, e⟩
    clear h
    go_enter Try.func13, Try.ntmps13
    go_wp2_with (go_at_call 38; refine (within_any _ _ _ _).mono ?_; rintro e w' ⟨rfl, rfl⟩)
    go_ret
    exact ⟨rfl, Below.refl _ _⟩
  · have hd1 : inB n 1 16 = false := inB_not hn
    clear h hn
    go_enter Try.func13, Try.ntmps13
    go_wp2_with (go_at_call 38; refine (within_any _ _ _ _).mono ?_; rintro e w' ⟨rfl, rfl⟩)
    go_ret
    exact ⟨rfl, Below.refl _ _⟩

set_option maxHeartbeats 2000000 in
theorem implSpans_loop (n m : Nat) (a : Option Addr) (cap : Nat) (es : List Int) (w : World) (h1 : 1 ≤ n) (h2 : n ≤ 16) (hm : m + 1 = n) (hl : es.length = m * 3) (hA : IntsAt w a es) :
    Calls Try.prog 13 #[.int .i64 n, .slice a m cap] w fun e w' => e = .returned (.bool (spanB n es m)) ∧ Below w.heap.size w w' := by
  obtain ⟨r, HR⟩ : ∃ r, Hid (spanB n es m = r) := ⟨_, rfl⟩
  rw [HR.out]
  have hz := (zero_of_info Try.info16).1
  generalize hz0 : cellsOf z16 = z0 at hz
  have HZ : Hid (cellsOf z16 = z0) := hz0
  clear hz0
  have hd1 : inB (n : Int) 1 16 = true := inB_mk (by omega)
  have hne : ((m : Int) != (n : Int) - 1) = false := by rw [bne_eq_false_iff_eq]; omega
  have HA : Hid (IntsAt w a es) := hA
  have HL : Hid (es.length = m * 3) := hl
  clear hA hl
  go_enter Try.func13, Try.ntmps13
  go_wp2_with (go_at_call 38; refine (within_any _ _ _ _).mono ?_; rintro e w' ⟨rfl, hw'⟩; subst w')
  clear hne hd1 hz
  go_loopw [23] (fun t wr => ∃ k : Nat, k ≤ n ∧ t = .int .i64 k ∧ Below w.heap.size w wr ∧ wr.heap[w.heap.size]? = some (.cells (cellsOf (ownL k)) 53 (0, 0))) (fun t _ => n - (intOf t).toNat)
  case atStart =>
    refine ⟨0, Nat.zero_le _, rfl, (Below.refl _ _).alloc (Nat.le_refl _) _, ?_⟩
    rw [ownL_zero, HZ.out]
    exact heap_alloc_new _ _
  case round =>
    obtain ⟨k, hk, rfl, hb, hg⟩ := hrel
    have HB : Hid (Below w.heap.size w wr) := hb
    have HG : Hid (wr.heap[w.heap.size]? = some (.cells (cellsOf (ownL k)) 53 (0, 0))) := hg
    by_cases hlt : k < n
    · have cg := cell_of_row _ _ k _ _ _ hg
      rw [cellsOf_get _ _ (by rw [ownL_length]; omega)] at cg
      have fg := frozen_of_row _ _ k _ _ hg
      obtain ⟨c, HC⟩ : ∃ c, Hid ((ownL k).getD k 0 = c) := ⟨_, rfl⟩
      rw [HC.out] at cg
      clear hb hg
      go_wp2
      refine ⟨⟨k + 1, by omega, by go_num, HB.out.setCell (Nat.le_refl _) _, ?_⟩, by simp [intOf]; omega⟩
      rw [heap_setCell_same _ _ _ _ _ _ HG.out, cellsOf_set, ownL_step]
    · have hkn : k = n := by omega
      have HGn : Hid (wr.heap[w.heap.size]? = some (.cells (cellsOf (updL n (endA es) (endB es) 0 0)) 53 (0, 0))) := by
        show _ = _
        rw [updL_own, ← hkn]; exact HG.out
      clear hb hg hkn HG
      go_wp2_with fail
      go_loopw [32] (fun t wr => ∃ k : Nat, k ≤ m ∧ t = .int .i64 k ∧ spanTo n es k ∧ Below w.heap.size w wr ∧ wr.heap[w.heap.size]? = some (.cells (cellsOf (updL n (endA es) (endB es) k 0)) 53 (0, 0))) (fun t _ => m - (intOf t).toNat)
      case atStart => exact ⟨0, Nat.zero_le _, rfl, fun j hj => by omega, HB.out, HGn.out⟩
      case round =>
        clear HB HGn
        obtain ⟨k, hk, rfl, hsp, hb, hg⟩ := hrel
        have HB : Hid (Below w.heap.size w wr) := hb
        have HG : Hid (wr.heap[w.heap.size]? = some (.cells (cellsOf (updL n (endA es) (endB es) k 0)) 53 (0, 0))) := hg
        have HS : Hid (spanTo n es k) := hsp
        clear hb hg hsp
        by_cases hlt : k < m
        · obtain ⟨b, off, rfl, hcs⟩ := IntsAt.some (HA.out.below HB.out) (j := k * 3) (by rw [HL.out]; omega)
          obtain ⟨ca, cb, ct⟩ := row3_at hcs HL.out k hlt
          clear hcs
          have HEA : Hid (endA es k = (og3 es k 0).toNat) := rfl
          have HEB : Hid (endB es k = (og3 es k 1).toNat) := rfl
          have HBAD : Hid (¬ (inB (og3 es k 0) 0 ((n : Int) - 1) = true ∧ inB (og3 es k 1) 0 ((n : Int) - 1) = true ∧ grp (endA es) (endB es) k (endA es k) ≠ grp (endA es) (endB es) k (endB es k)) → r = false) := fun h => HR.out.symm.trans (spanB_bad hlt h)
          have HSTEP : Hid (inB (og3 es k 0) 0 ((n : Int) - 1) = true → inB (og3 es k 1) 0 ((n : Int) - 1) = true → grp (endA es) (endB es) k (endA es k) ≠ grp (endA es) (endB es) k (endB es k) → spanTo n es (k + 1)) := fun x y z => spanTo_step HS.out x y z
          obtain ⟨x, H0⟩ : ∃ t, Hid (og3 es k 0 = t) := ⟨_, rfl⟩
          obtain ⟨y, H1⟩ : ∃ t, Hid (og3 es k 1 = t) := ⟨_, rfl⟩
          obtain ⟨t, H2⟩ : ∃ t, Hid (og3 es k 2 = t) := ⟨_, rfl⟩
          rw [H0.out] at ca HEA HBAD HSTEP
          rw [H1.out] at cb HEB HBAD HSTEP
          rw [H2.out] at ct
          have HB1 : Hid (Below w.heap.size w (wr.alloc (Obj.cells #[Value.int IntKind.i64 x, Value.int IntKind.i64 y, Value.int IntKind.i64 t] 32))) := HB.out.alloc HB.out.size _
          have HG1 : Hid ((wr.alloc (Obj.cells #[Value.int IntKind.i64 x, Value.int IntKind.i64 y, Value.int IntKind.i64 t] 32)).heap[w.heap.size]? = some (.cells (cellsOf (updL n (endA es) (endB es) k 0)) 53 (0, 0))) := (heap_alloc_old _ _ (row_lt HG.out)).trans HG.out
          have HE1 : Hid ((wr.alloc (Obj.cells #[Value.int IntKind.i64 x, Value.int IntKind.i64 y, Value.int IntKind.i64 t] 32)).heap[wr.heap.size]? = some (.cells #[Value.int IntKind.i64 x, Value.int IntKind.i64 y, Value.int IntKind.i64 t] 32 (0, 0))) := heap_alloc_new _ _
          go_wp2_with fail
          clear ca cb ct HB HG
          generalize wr.alloc (Obj.cells #[Value.int IntKind.i64 x, Value.int IntKind.i64 y, Value.int IntKind.i64 t] 32) = W at *
          generalize wr.heap.size = eb at *
          obtain ⟨e0, e1, _⟩ := cells3 HE1.out
          have hwn : IntKind.i64.wrap ((n : Int) - 1) = (n : Int) - 1 := by rw [IntKind.wrap_i64]; omega
          cases hin : inB x 0 ((n : Int) - 1)
          · have HV : Hid (r = false) := HBAD.out (by rw [hin]; simp)
            have hin2 : inB x 0 (IntKind.i64.wrap ((n : Int) - 1)) = false := by rw [hwn]; exact hin
            clear hwn
            go_quiet ((go_at_call 38; exact Calls.quiet_of_same (within_any _ _ _ _)))
            go_wp2
            go_ret
            exact ⟨ret_bool HV.out.symm, below_drewN HB1.out _⟩
          · cases hiny : inB y 0 ((n : Int) - 1)
            · have HV : Hid (r = false) := HBAD.out (by rw [hiny]; simp)
              have hin2 : inB x 0 (IntKind.i64.wrap ((n : Int) - 1)) = true := by rw [hwn]; exact hin
              have hin3 : inB y 0 (IntKind.i64.wrap ((n : Int) - 1)) = false := by rw [hwn]; exact hiny
              clear hwn
              go_quiet ((go_at_call 38; exact Calls.quiet_of_same (within_any _ _ _ _)))
              go_wp2
              go_ret
              exact ⟨ret_bool HV.out.symm, below_drewN HB1.out _⟩
            · have hin2 : inB x 0 (IntKind.i64.wrap ((n : Int) - 1)) = true := by rw [hwn]; exact hin
              have hin3 : inB y 0 (IntKind.i64.wrap ((n : Int) - 1)) = true := by rw [hwn]; exact hiny
              clear hwn
              obtain ⟨px1, px2⟩ := place_nat hin
              obtain ⟨py1, py2⟩ := place_nat hiny
              have cx := upd_cell HG1.out px2 (Nat.zero_le _) h2
              have cy := upd_cell HG1.out py2 (Nat.zero_le _) h2
              have HXA : Hid (endA es k = x.toNat) := HEA.out
              have HYB : Hid (endB es k = y.toNat) := HEB.out
              have HST2 := HSTEP.out hin hiny
              have HSTEP2 : Hid (grp (endA es) (endB es) k (endA es k) ≠ grp (endA es) (endB es) k (endB es k) → spanTo n es (k + 1)) := HST2
              have HBAD2 : Hid (grp (endA es) (endB es) k (endA es k) = grp (endA es) (endB es) k (endB es k) → r = false) := fun e => HBAD.out fun h => h.2.2 e
              clear HST2 HSTEP HBAD HEA HEB
              obtain ⟨xn, HXN⟩ : ∃ c, Hid (x.toNat = c) := ⟨_, rfl⟩
              obtain ⟨yn, HYN⟩ : ∃ c, Hid (y.toNat = c) := ⟨_, rfl⟩
              rw [HXN.out] at px1 px2 cx HXA
              rw [HYN.out] at py1 py2 cy HYB
              clear HXN HYN
              subst px1 py1
              rw [HXA.out, HYB.out] at HSTEP2 HBAD2
              obtain ⟨ga, HGA⟩ : ∃ c, Hid (grp (endA es) (endB es) k xn = c) := ⟨_, rfl⟩
              obtain ⟨gb, HGB⟩ : ∃ c, Hid (grp (endA es) (endB es) k yn = c) := ⟨_, rfl⟩
              rw [HGA.out] at cx HSTEP2 HBAD2
              rw [HGB.out] at cy HSTEP2 HBAD2
              by_cases hgg : ga = gb
              · have HV : Hid (r = false) := HBAD2.out hgg
                have hgb : ((ga : Int) == (gb : Int)) = true := by simp [hgg]
                clear hgg
                go_quiet ((go_at_call 38; exact Calls.quiet_of_same (within_any _ _ _ _)))
                go_wp2
                go_ret
                exact ⟨ret_bool HV.out.symm, below_drewN HB1.out _⟩
              · have hgb : ((ga : Int) == (gb : Int)) = false := by rw [beq_eq_false_iff_ne]; omega
                have HS1 : Hid (spanTo n es (k + 1)) := HSTEP2.out hgg
                have HAK : Hid (grp (endA es) (endB es) k (endA es k) = ga) := by show _ = _; rw [HXA.out]; exact HGA.out
                have HBK : Hid (grp (endA es) (endB es) k (endB es k) = gb) := by show _ = _; rw [HYB.out]; exact HGB.out
                clear hgg
                go_quiet ((go_at_call 38; exact Calls.quiet_of_same (within_any _ _ _ _)))
                go_wp2
                go_quiet (fail)
                go_wp2_with fail
                clear hgb cx cy e0 e1 hin2 hin3 hin hiny
                go_loopw [70] (fun t wr => ∃ j : Nat, j ≤ n ∧ t = .int .i64 j ∧ Below w.heap.size w wr ∧ wr.heap[w.heap.size]? = some (.cells (cellsOf (updL n (endA es) (endB es) k j)) 53 (0, 0))) (fun t _ => n - (intOf t).toNat)
                case atStart => exact ⟨0, Nat.zero_le _, rfl, below_drewN (below_drewN HB1.out _) _, HG1.out⟩
                case round =>
                  clear HB1 HG1 HE1
                  obtain ⟨j, hj, rfl, hb, hg⟩ := hrel
                  have HB : Hid (Below w.heap.size w wr) := hb
                  have HG : Hid (wr.heap[w.heap.size]? = some (.cells (cellsOf (updL n (endA es) (endB es) k j)) 53 (0, 0))) := hg
                  clear hb hg
                  by_cases hjlt : j < n
                  · have cj := upd_cell HG.out hjlt (Nat.le_refl _) h2
                    have fj := frozen_of_row _ _ j _ _ HG.out
                    have HSAME : Hid (grp (endA es) (endB es) k j ≠ gb → updL n (endA es) (endB es) k (j + 1) = updL n (endA es) (endB es) k j) := fun h => updL_same _ _ _ _ _ (by rw [HBK.out]; exact h)
                    have HSET : Hid (grp (endA es) (endB es) k j = gb → (updL n (endA es) (endB es) k j).set j (ga : Int) = updL n (endA es) (endB es) k (j + 1)) := fun h => by
                      rw [← HAK.out]; exact updL_set _ _ _ _ _ hjlt (by rw [HBK.out]; exact h)
                    obtain ⟨gj, HGJ⟩ : ∃ c, Hid (grp (endA es) (endB es) k j = c) := ⟨_, rfl⟩
                    rw [HGJ.out] at cj HSAME HSET
                    by_cases he : gj = gb
                    · have heb : ((gj : Int) == (gb : Int)) = true := by simp [he]
                      have HE : Hid _ := HSET.out he
                      clear he
                      go_wp2
                      refine ⟨⟨j + 1, by omega, by go_num, HB.out.setCell (Nat.le_refl _) _, ?_⟩, by simp [intOf]; omega⟩
                      rw [heap_setCell_same _ _ _ _ _ _ HG.out, cellsOf_set, HE.out]
                    · have heb : ((gj : Int) == (gb : Int)) = false := by rw [beq_eq_false_iff_ne]; omega
                      have HE : Hid _ := HSAME.out he
                      clear he
                      go_wp2
                      refine ⟨⟨j + 1, by omega, by go_num, HB.out, by rw [HE.out]; exact HG.out⟩, by simp [intOf]; omega⟩
                  · have hjn : j = n := by omega
                    have HGn : Hid (wr.heap[w.heap.size]? = some (.cells (cellsOf (updL n (endA es) (endB es) (k + 1) 0)) 53 (0, 0))) := by
                      show _ = _
                      rw [← updL_next, ← hjn]; exact hjn ▸ HG.out
                    clear hjn HG
                    go_wp2
                    refine ⟨⟨k + 1, by omega, by go_num, HS1.out, HB.out, HGn.out⟩, by simp [intOf]; omega⟩
        · have hkm : k = m := by omega
          have HV : Hid (r = true) := HR.out.symm.trans (spanB_yes (by omega) (by omega) (by omega) (hkm ▸ HS.out))
          clear hkm
          go_wp2
          go_ret
          exact ⟨ret_bool HV.out.symm, HB.out⟩

theorem implSpans_any (n : Int) (a : Option Addr) (m cap : Nat) (es : List Int) (w : World) (hA : IntsAt w a es) (hl : es.length = m * 3) :
    Calls Try.prog 13 #[.int .i64 n, .slice a m cap] w fun e w' => e = .returned (.bool (spanB n es m)) ∧ Below w.heap.size w w' := by
  by_cases h : 1 ≤ n ∧ n ≤ 16 ∧ (m : Int) = n - 1
  · obtain ⟨q, rfl⟩ := Int.eq_ofNat_of_zero_le (show 0 ≤ n by omega)
    exact implSpans_loop q m a cap es w (by omega) (by omega) (by omega) hl hA
  · rw [spanB_out h]
    exact implSpans_out n a m cap w h

end Go.Proofs.Ytaehhlkpbhmdfaa

namespace Go.Proofs.Ytaehhlkpbhmdfaa
open Go.RowKit

set_option maxHeartbeats 400000 in
theorem index_any (a : Option Addr) (m cap : Nat) (id : Int) (zs : List Int) (w : World) (hA : IntsAt w a zs) (hm : m ≤ zs.length) (hlen : m ≤ 9223372036854775807) :
    Calls Try.prog 55 #[.slice a m cap, .int .i64 id] w fun e w' => e = .returned (.int .i64 (idxV zs m id)) ∧ w' = w := by
  have HA : Hid (IntsAt w a zs) := hA
  clear hA
  obtain ⟨r, HR⟩ : ∃ r, Hid (idxV zs m id = r) := ⟨_, rfl⟩
  rw [HR.out]
  go_enter Try.func55, Try.ntmps55
  go_wp2_with fail
  go_loop [8] (fun t => ∃ k : Nat, k ≤ m ∧ t = .int .i64 k ∧ ∀ j, j < k → zs.getD j 0 ≠ id) (fun t => m - (intOf t).toNat)
  case atStart => exact ⟨0, Nat.zero_le _, rfl, fun j hj => by omega⟩
  case round =>
    obtain ⟨k, hk, rfl, hno⟩ := hrel
    have HN : Hid (∀ j, j < k → zs.getD j 0 ≠ id) := hno
    clear hno
    by_cases hlt : k < m
    · obtain ⟨b, off, rfl, hcs⟩ := IntsAt.some HA.out (j := k) (by omega)
      have ct := hcs k (by omega)
      clear hcs
      obtain ⟨t, HT⟩ : ∃ t, Hid (zs.getD k 0 = t) := ⟨_, rfl⟩
      rw [HT.out] at ct
      by_cases he : id = t
      · have heb : (id == t) = true := by simp [he]
        have HV : Hid (r = k) := HR.out.symm.trans (idxV_at hlt (HT.out.trans he.symm) HN.out)
        clear he
        go_wp2
        go_ret
        exact ⟨ret_int HV.out.symm, rfl⟩
      · have heb : (id == t) = false := by simp [he]
        have HS : Hid (∀ j, j < k + 1 → zs.getD j 0 ≠ id) := noTo_step HN.out (by rw [HT.out]; exact fun x => he x.symm)
        clear he
        go_wp2
        exact ⟨⟨k + 1, by omega, by go_num, HS.out⟩, by simp [intOf]; omega⟩
    · have hkl : k = m := by omega
      have HV : Hid (r = -1) := HR.out.symm.trans (idxV_none (hkl ▸ HN.out))
      clear hkl
      go_wp2
      go_ret
      exact ⟨ret_int HV.out.symm, rfl⟩

set_option maxHeartbeats 400000 in
theorem contains_any (a : Option Addr) (m cap : Nat) (id : Int) (zs : List Int) (w : World) (hA : IntsAt w a zs) (hm : m ≤ zs.length) (hlen : m ≤ 9223372036854775807) :
    Calls Try.prog 52 #[.slice a m cap, .int .i64 id] w fun e w' => e = .returned (.bool (hasTo zs m id)) ∧ w' = w := by
  have HA : Hid (IntsAt w a zs) := hA
  clear hA
  rw [← idxV_has]
  obtain ⟨t, HT⟩ : ∃ t, Hid (idxV zs m id = t) := ⟨_, rfl⟩
  rw [HT.out]
  go_enter Try.func52, Try.ntmps52
  go_wp2_with fail
  refine (index_any a m cap id zs w HA.out hm hlen).mono ?_
  rintro e w1 ⟨rfl, rfl⟩
  rw [HT.out]
  go_wp2
  go_ret
  exact ⟨by simp, rfl⟩

end Go.Proofs.Ytaehhlkpbhmdfaa

namespace Go.Proofs.Ytaehhlkpbhmdfaa
open Go.RowKit

set_option maxHeartbeats 1000000 in
theorem implTime_any (n x y : Int) (a : Option Addr) (cap : Nat) (zs : List Int) (w : World) (hA : IntsAt w a zs) :
    Calls Try.prog 11 #[.agg #[.int .i64 n, .slice a zs.length cap], .int .i64 x, .int .i64 y] w fun e w' => e = .returned (.int .i64 (timeV n zs x y)) ∧ Below w.heap.size w w' := by
  have HA0 : Hid (IntsAt (w.alloc (Obj.cells #[Value.int IntKind.i64 n, Value.slice a zs.length cap] 26)) a zs) := hA.below ((Below.refl _ _).alloc (Nat.le_refl _) _)
  clear hA
  have hz := (zero_of_info Try.info41).1
  generalize hz0 : cellsOf zeros = z0 at hz
  have HZ : Hid (cellsOf zeros = z0) := hz0
  clear hz0
  have HIP : Hid (∀ (n p : Int) (s : Value) (w : World), 1 ≤ n → n ≤ 16 → Calls Try.prog 35 #[.agg #[.int .i64 n, s], .int .i64 p] w fun e w' => e = .returned (.bool (inB p 0 (n - 1))) ∧ Below w.heap.size w w') := isPlace_any
  cases hm : matB n zs
  · have HT : Hid (timeV n zs x y = -1) := timeV_no (by rw [hm]; simp)
    have HM : Hid _ := hm
    clear hm
    go_enter Try.func11, Try.ntmps11
    go_wp2_with fail
    refine (grid_any n a cap zs _ HA0.out).mono ?_
    rintro e w1 ⟨rfl, hb⟩
    rw [HM.out]
    obtain ⟨b1, r1, c0, c1⟩ := box2 hb
    obtain ⟨bW, rW, gW⟩ := grid_world (cellsOf (gridRes n zs)) b1 r1
    have BW : Hid _ := bW
    clear hb r1 c0 c1 bW rW gW
    generalize hgr : cellsOf (gridRes n zs) = gr at *
    have HGR : Hid (cellsOf (gridRes n zs) = gr) := hgr
    clear hgr
    go_wp2_with (
      with_reducible refine wpList_store_row ?_ 55 (.tmp 7) (.tmp 12) ?_ w1.heap.size gr ?_ ?_ 55 z0 ?_ ?_ ?_ ?_ ?_
      · rfl
      · rfl
      · rfl
      · rfl
      · exact heap_alloc_new _ _
      · rw [← HGR.out]; exact size41_of (gridRes_length _ _)
      · rw [← HZ.out, ← HGR.out, cellsOf_size, cellsOf_size, zeros_length, gridRes_length]
      · rw [← HGR.out]; exact cellsOf_one _
      rw [World.setRow_alloc_new])
    go_ret
    exact ⟨ret_int HT.out.symm, BW.out⟩
  · obtain ⟨hn1, hn2, hl, _⟩ := matB_true hm
    have HM : Hid _ := hm
    clear hm hl
    cases hx : inB x 0 (n - 1)
    · have HT : Hid (timeV n zs x y = -1) := timeV_no (by rw [hx]; simp)
      go_enter Try.func11, Try.ntmps11
      go_wp2_with fail
      refine (grid_any n a cap zs _ HA0.out).mono ?_
      rintro e w1 ⟨rfl, hb⟩
      rw [HM.out]
      obtain ⟨b1, r1, c0, c1⟩ := box2 hb
      obtain ⟨bW, rW, gW⟩ := grid_world (cellsOf (gridRes n zs)) b1 r1
      have BW : Hid _ := bW
      have RW : Hid _ := rW
      have GW : Hid _ := gW
      clear hb r1 b1 c0 c1 bW rW gW
      have HGE : ∃ gr, Hid (cellsOf (gridRes n zs) = gr) := ⟨_, rfl⟩
      obtain ⟨gr, HGR⟩ := HGE
      rw [HGR.out] at BW RW GW ⊢
      go_wp2_with (first
        | (
          with_reducible refine wpList_store_row ?_ 55 (.tmp 7) (.tmp 12) ?_ w1.heap.size gr ?_ ?_ 55 z0 ?_ ?_ ?_ ?_ ?_
          · rfl
          · rfl
          · rfl
          · rfl
          · exact heap_alloc_new _ _
          · rw [← HGR.out]; exact size41_of (gridRes_length _ _)
          · rw [← HZ.out, ← HGR.out, cellsOf_size, cellsOf_size, zeros_length, gridRes_length]
          · rw [← HGR.out]; exact cellsOf_one _
          rw [World.setRow_alloc_new]
          have c0 := cell_of_row _ _ 0 _ _ _ RW.out
          have c1 := cell_of_row _ _ 1 _ _ _ RW.out
          simp only [List.getElem?_toArray, List.getElem?_cons_zero, List.getElem?_cons_succ] at c0 c1
          generalize w1.alloc (Obj.cells gr 55) = W at *)
        | (go_at_call 35
           refine (isPlace_any _ _ _ _ hn1 hn2).mono ?_
           rintro e w2 ⟨rfl, hb2⟩
           obtain ⟨BW', RW', c0, c1⟩ := box2_more hb2 BW.out RW.out
           have GW' := below_row hb2 (row_lt GW.out) GW.out
           clear BW RW GW hb2
           have BW : Hid _ := BW'
           have RW : Hid _ := RW'
           have GW : Hid _ := GW'
           clear BW' RW' GW'))
      go_ret
      exact ⟨ret_int HT.out.symm, BW.out⟩
    · cases hy : inB y 0 (n - 1)
      · have HT : Hid (timeV n zs x y = -1) := timeV_no (by rw [hy]; simp)
        go_enter Try.func11, Try.ntmps11
        go_wp2_with fail
        refine (grid_any n a cap zs _ HA0.out).mono ?_
        rintro e w1 ⟨rfl, hb⟩
        rw [HM.out]
        obtain ⟨b1, r1, c0, c1⟩ := box2 hb
        obtain ⟨bW, rW, gW⟩ := grid_world (cellsOf (gridRes n zs)) b1 r1
        have BW : Hid _ := bW
        have RW : Hid _ := rW
        have GW : Hid _ := gW
        clear hb r1 b1 c0 c1 bW rW gW
        have HGE : ∃ gr, Hid (cellsOf (gridRes n zs) = gr) := ⟨_, rfl⟩
        obtain ⟨gr, HGR⟩ := HGE
        rw [HGR.out] at BW RW GW ⊢
        go_wp2_with (first
          | (
            with_reducible refine wpList_store_row ?_ 55 (.tmp 7) (.tmp 12) ?_ w1.heap.size gr ?_ ?_ 55 z0 ?_ ?_ ?_ ?_ ?_
            · rfl
            · rfl
            · rfl
            · rfl
            · exact heap_alloc_new _ _
            · rw [← HGR.out]; exact size41_of (gridRes_length _ _)
            · rw [← HZ.out, ← HGR.out, cellsOf_size, cellsOf_size, zeros_length, gridRes_length]
            · rw [← HGR.out]; exact cellsOf_one _
            rw [World.setRow_alloc_new]
            have c0 := cell_of_row _ _ 0 _ _ _ RW.out
            have c1 := cell_of_row _ _ 1 _ _ _ RW.out
            simp only [List.getElem?_toArray, List.getElem?_cons_zero, List.getElem?_cons_succ] at c0 c1
            generalize w1.alloc (Obj.cells gr 55) = W at *)
          | (go_at_call 35
             refine (isPlace_any _ _ _ _ hn1 hn2).mono ?_
             rintro e w2 ⟨rfl, hb2⟩
             obtain ⟨BW', RW', c0, c1⟩ := box2_more hb2 BW.out RW.out
             have GW' := below_row hb2 (row_lt GW.out) GW.out
             clear BW RW GW hb2
             have BW : Hid _ := BW'
             have RW : Hid _ := RW'
             have GW : Hid _ := GW'
             clear BW' RW' GW'))
        go_ret
        exact ⟨ret_int HT.out.symm, BW.out⟩
      · have hx' := inB_true hx
        have hy' := inB_true hy
        obtain ⟨n, rfl⟩ := Int.eq_ofNat_of_zero_le (show 0 ≤ n by omega)
        obtain ⟨x, rfl⟩ := Int.eq_ofNat_of_zero_le hx'.1
        obtain ⟨y, rfl⟩ := Int.eq_ofNat_of_zero_le hy'.1
        have HT : Hid (timeV n zs x y = zs.getD (x * n + y) 0) := timeV_at HM.out (by omega) (by omega)
        obtain ⟨t, HTT⟩ : ∃ t, Hid (zs.getD (x * n + y) 0 = t) := ⟨_, rfl⟩
        go_enter Try.func11, Try.ntmps11
        go_wp2_with fail
        refine (grid_any n a cap zs _ HA0.out).mono ?_
        rintro e w1 ⟨rfl, hb⟩
        rw [HM.out]
        obtain ⟨b1, r1, c0, c1⟩ := box2 hb
        obtain ⟨bW, rW, gW⟩ := grid_world (cellsOf (gridRes n zs)) b1 r1
        have BW : Hid _ := bW
        have RW : Hid _ := rW
        have GW : Hid _ := gW
        clear hb r1 b1 c0 c1 bW rW gW
        have HGE : ∃ gr, Hid (cellsOf (gridRes n zs) = gr) := ⟨_, rfl⟩
        obtain ⟨gr, HGR⟩ := HGE
        rw [HGR.out] at BW RW GW ⊢
        go_wp2_with (first
          | (
            with_reducible refine wpList_store_row ?_ 55 (.tmp 7) (.tmp 12) ?_ w1.heap.size gr ?_ ?_ 55 z0 ?_ ?_ ?_ ?_ ?_
            · rfl
            · rfl
            · rfl
            · rfl
            · exact heap_alloc_new _ _
            · rw [← HGR.out]; exact size41_of (gridRes_length _ _)
            · rw [← HZ.out, ← HGR.out, cellsOf_size, cellsOf_size, zeros_length, gridRes_length]
            · rw [← HGR.out]; exact cellsOf_one _
            rw [World.setRow_alloc_new]
            have c0 := cell_of_row _ _ 0 _ _ _ RW.out
            have c1 := cell_of_row _ _ 1 _ _ _ RW.out
            simp only [List.getElem?_toArray, List.getElem?_cons_zero, List.getElem?_cons_succ] at c0 c1
            generalize w1.alloc (Obj.cells gr 55) = W at *)
          | (go_at_call 35
             refine (isPlace_any _ _ _ _ hn1 hn2).mono ?_
             rintro e w2 ⟨rfl, hb2⟩
             obtain ⟨BW', RW', c0, c1⟩ := box2_more hb2 BW.out RW.out
             have GW' := below_row hb2 (row_lt GW.out) GW.out
             clear BW RW GW hb2
             have BW : Hid _ := BW'
             have RW : Hid _ := RW'
             have GW : Hid _ := GW'
             have cg := grid_cell (HGR.out.symm ▸ GW.out) HM.out (x := x) (y := y) (by omega) (by omega) (by omega)
             rw [HTT.out] at cg
             clear BW' RW' GW'))
        go_ret
        exact ⟨ret_int (HT.out.trans HTT.out).symm, BW.out⟩

end Go.Proofs.Ytaehhlkpbhmdfaa

namespace Go.Proofs.Ytaehhlkpbhmdfaa
open Go.RowKit

set_option maxHeartbeats 400000 in
theorem implTree_any (a : Option Addr) (n cap : Nat) (es : List Int) (w : World) (hA : IntsAt w a es) (hl : es.length = n * 3) (hlen : n ≤ 9223372036854775807) :
    Calls Try.prog 15 #[.slice a n cap] w fun e w' => e = .returned (.int .i64 (treeV es n)) ∧ Below w.heap.size w w' := by
  have HA : Hid (IntsAt w a es) := hA
  have HL : Hid (es.length = n * 3) := hl
  clear hA hl
  obtain ⟨r, HR⟩ : ∃ r, Hid (treeV es n = r) := ⟨_, rfl⟩
  rw [HR.out]
  by_cases h16 : n ≤ 16
  · go_enter Try.func15, Try.ntmps15
    go_wp2_with fail
    go_loopw [3, 11] (fun sm t wr => ∃ k : Nat, k ≤ n ∧ t = .int .i64 k ∧ sm = .int .i64 (treeTo es k) ∧ timesTo es k ∧ Below w.heap.size w wr) (fun _ t _ => n - (intOf t).toNat)
    case atStart => exact ⟨0, Nat.zero_le _, rfl, rfl, fun j hj => by omega, Below.refl _ _⟩
    case round =>
      obtain ⟨k, hk, rfl, rfl, ht, hb⟩ := hrel
      have hbd := treeTo_bd k ht
      have HT : Hid (timesTo es k) := ht
      have HB : Hid (Below w.heap.size w wr) := hb
      clear ht
      obtain ⟨s0, HS0⟩ : ∃ s, Hid (treeTo es k = s) := ⟨_, rfl⟩
      rw [HS0.out] at hbd ⊢
      by_cases hlt : k < n
      · obtain ⟨b, off, rfl, hcs⟩ := IntsAt.some (HA.out.below hb) (j := k * 3) (by rw [HL.out]; omega)
        obtain ⟨ca, cb, ct⟩ := row3_at hcs HL.out k hlt
        clear hcs hb
        obtain ⟨x, H0⟩ : ∃ t, Hid (og3 es k 0 = t) := ⟨_, rfl⟩
        obtain ⟨y, H1⟩ : ∃ t, Hid (og3 es k 1 = t) := ⟨_, rfl⟩
        obtain ⟨t, H2⟩ : ∃ t, Hid (og3 es k 2 = t) := ⟨_, rfl⟩
        rw [H0.out] at ca
        rw [H1.out] at cb
        rw [H2.out] at ct
        have HB1 : Hid (Below w.heap.size w (wr.alloc (Obj.cells #[Value.int IntKind.i64 x, Value.int IntKind.i64 y, Value.int IntKind.i64 t] 32))) := HB.out.alloc HB.out.size _
        cases hin : inB t 0 10000
        · have HV : Hid (r = -1) := HR.out.symm.trans (treeV_bad hlt (by rw [H2.out]; exact hin))
          go_wp2_with (go_at_call 38; refine (within_any _ _ _ _).mono ?_; rintro e w' ⟨rfl, rfl⟩)
          go_ret
          exact ⟨ret_int HV.out.symm, HB1.out⟩
        · have hbt := inB_true hin
          have HT1 : Hid (timesTo es (k + 1)) := timesTo_step HT.out (by rw [H2.out]; exact hin)
          have HS1 : Hid (treeTo es (k + 1) = s0 + t) := by show _ = _; unfold treeTo; rw [HS0.out, H2.out]
          go_wp2_with (go_at_call 38; refine (within_any _ _ _ _).mono ?_; rintro e w' ⟨rfl, rfl⟩)
          refine ⟨⟨k + 1, by omega, by go_num, by rw [HS1.out], HT1.out, HB1.out⟩, by simp [intOf]; omega⟩
      · have hkl : k = n := by omega
        have HV : Hid (r = s0) := by
          have := treeV_yes (es := es) (n := n) (by omega) (hkl ▸ HT.out)
          rw [HR.out, ← hkl, HS0.out] at this
          exact this
        clear hkl
        go_wp2
        go_ret
        exact ⟨ret_int HV.out.symm, HB.out⟩
  · have HV : Hid (r = -1) := HR.out.symm.trans (treeV_many (by omega))
    have h16' : 16 < n := by omega
    clear h16
    go_enter Try.func15, Try.ntmps15
    go_wp2
    go_ret
    exact ⟨ret_int HV.out.symm, Below.refl _ _⟩

end Go.Proofs.Ytaehhlkpbhmdfaa

namespace Go.Proofs.Ytaehhlkpbhmdfaa
open Go.RowKit

set_option maxHeartbeats 400000 in
theorem specTree_any (a : Option Addr) (n cap : Nat) (es : List Int) (w : World) (hA : IntsAt w a es) (hl : es.length = n * 3) (hlen : n ≤ 9223372036854775807) :
    Calls Try.prog 16 #[.slice a n cap] w fun e w' => e = .returned (.int .i64 (treeV es n)) ∧ w' = w := by
  have HA : Hid (IntsAt w a es) := hA
  have HL : Hid (es.length = n * 3) := hl
  clear hA hl
  obtain ⟨r, HR⟩ : ∃ r, Hid (treeV es n = r) := ⟨_, rfl⟩
  rw [HR.out]
  go_enter Try.func16, Try.ntmps16
  go_wp2_with fail
  go_loop [3, 4] (fun sm t => ∃ k : Nat, k ≤ n ∧ k ≤ 16 ∧ t = .int .i64 k ∧ sm = .int .i64 (treeTo es k) ∧ timesTo es k) (fun _ t => n - (intOf t).toNat)
  case atStart => exact ⟨0, Nat.zero_le _, by omega, rfl, rfl, fun j hj => by omega⟩
  case round =>
    obtain ⟨k, hk, hk16, rfl, rfl, ht⟩ := hrel
    have hbd := treeTo_bd k ht
    have HT : Hid (timesTo es k) := ht
    clear ht
    obtain ⟨s0, HS0⟩ : ∃ s, Hid (treeTo es k = s) := ⟨_, rfl⟩
    rw [HS0.out] at hbd ⊢
    by_cases hlt : k < n
    · obtain ⟨b, off, rfl, hcs⟩ := IntsAt.some HA.out (j := k * 3) (by rw [HL.out]; omega)
      obtain ⟨_, _, ct⟩ := row3_at hcs HL.out k hlt
      clear hcs
      obtain ⟨t, H2⟩ : ∃ t, Hid (og3 es k 2 = t) := ⟨_, rfl⟩
      rw [H2.out] at ct
      cases hin : inB t 0 10000
      · have HV : Hid (r = -1) := HR.out.symm.trans (treeV_bad hlt (by rw [H2.out]; exact hin))
        go_wp2_with (go_at_call 39; refine (l1In_any _ _ _ _).mono ?_; rintro e w' ⟨rfl, rfl⟩)
        go_ret
        exact ⟨ret_int HV.out.symm, rfl⟩
      · have hb := inB_true hin
        by_cases h16 : k < 16
        · have HT1 : Hid (timesTo es (k + 1)) := timesTo_step HT.out (by rw [H2.out]; exact hin)
          have HS1 : Hid (treeTo es (k + 1) = s0 + t) := by show _ = _; unfold treeTo; rw [HS0.out, H2.out]
          go_wp2_with (go_at_call 39; refine (l1In_any _ _ _ _).mono ?_; rintro e w' ⟨rfl, rfl⟩)
          refine ⟨⟨k + 1, by omega, by omega, by go_num, by rw [HS1.out], HT1.out⟩, by simp [intOf]; omega⟩
        · have HV : Hid (r = -1) := HR.out.symm.trans (treeV_many (by omega))
          have h16' : 16 ≤ k := by omega
          clear h16
          go_wp2_with (go_at_call 39; refine (l1In_any _ _ _ _).mono ?_; rintro e w' ⟨rfl, rfl⟩)
          go_ret
          exact ⟨ret_int HV.out.symm, rfl⟩
    · have hkl : k = n := by omega
      have HV : Hid (r = s0) := by
        have := treeV_yes (es := es) (n := n) (by omega) (hkl ▸ HT.out)
        rw [HR.out, ← hkl, HS0.out] at this
        exact this
      clear hkl
      go_wp2
      go_ret
      exact ⟨ret_int HV.out.symm, rfl⟩

end Go.Proofs.Ytaehhlkpbhmdfaa

namespace Go.Proofs.Ytaehhlkpbhmdfaa
open Go.RowKit

set_option maxHeartbeats 400000 in
theorem big_any (a : Option Addr) (c len : Nat) (w : World) (hl : len ≤ 9223372036854775807) :
    Calls Try.prog 6 #[.slice a len c] w fun e w' => e = .returned (.bool (decide (1048576 < len))) ∧ w' = w := by
  by_cases h : 1048576 < len
  · rw [decide_eq_true h]
    go_enter Try.func6, Try.ntmps6
    go_wp2
    go_ret
    exact ⟨by first | rfl | (simp; omega), rfl⟩
  · rw [decide_eq_false h]
    go_enter Try.func6, Try.ntmps6
    go_wp2
    go_ret
    exact ⟨by first | rfl | (simp; omega), rfl⟩

end Go.Proofs.Ytaehhlkpbhmdfaa
