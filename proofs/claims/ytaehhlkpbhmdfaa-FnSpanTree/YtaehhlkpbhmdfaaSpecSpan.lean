import Derived.Test.YtaehhlkpbhmdfaaPack1
import Derived.Test.YtaehhlkpbhmdfaaPack4
namespace Go.Proofs.Ytaehhlkpbhmdfaa
open Go.RowKit

theorem infoIx : (Try.prog.info? 2).map (fun i => (i.zero, i.size, i.bytes)) = some (some (Value.int IntKind.i64 0), 1, 8) := by kernel_rfl
/-- The first edge among those that were looked at. -/
structure BI (n : Nat) (G : Nat → Nat → Int) (ins : Nat → Bool) (k j : Nat) (fd : Bool) (x : ED) : Prop where
  no : fd = false → ∀ p q, p < n → q < n → (p < k ∨ (p = k ∧ q < j)) → ins p = true → ins q = true
  ye : fd = true → (∃ p q, p < n ∧ q < n ∧ (p < k ∨ (p = k ∧ q < j)) ∧ ins p = true ∧ ins q = false ∧ x = edg G p q) ∧ ∀ p q, p < n → q < n → (p < k ∨ (p = k ∧ q < j)) → ins p = true → ins q = false → leE x (edg G p q)
section
variable {n : Nat} {G : Nat → Nat → Int} {ins : Nat → Bool} {k j : Nat} {fd : Bool} {x : ED}
theorem BI.start : BI n G ins 0 0 false x := ⟨fun _ p q _ _ h => by omega, fun h => (by cases h)⟩
theorem BI.row (h : BI n G ins k n fd x) : BI n G ins (k + 1) 0 fd x := by
  refine ⟨fun hf p q hp hq hl => h.no hf p q hp hq (by omega), fun hf => ?_⟩
  obtain ⟨⟨p, q, h1, h2, h3, h4⟩, h5⟩ := h.ye hf
  exact ⟨⟨p, q, h1, h2, by omega, h4⟩, fun p q hp hq hl => h5 p q hp hq (by omega)⟩
theorem BI.skip (h : BI n G ins k j fd x) (hs : ins k = false ∨ ins j = true) : BI n G ins k (j + 1) fd x := by
  refine ⟨fun hf p q hp hq hl hi => ?_, fun hf => ?_⟩
  · by_cases e : p = k ∧ q = j
    · obtain ⟨rfl, rfl⟩ := e
      rcases hs with hs | hs
      · rw [hs] at hi; cases hi
      · exact hs
    · exact h.no hf p q hp hq (by omega) hi
  · obtain ⟨⟨p, q, h1, h2, h3, h4⟩, h5⟩ := h.ye hf
    refine ⟨⟨p, q, h1, h2, by omega, h4⟩, fun p q hp hq hl hi hn => ?_⟩
    by_cases e : p = k ∧ q = j
    · obtain ⟨rfl, rfl⟩ := e
      rcases hs with hs | hs
      · rw [hs] at hi; cases hi
      · rw [hs] at hn; cases hn
    · exact h5 p q hp hq (by omega) hi hn
theorem BI.ge (h : BI n G ins k j true x) (hg : x.t ≤ G k j) : BI n G ins k (j + 1) true x := by
  refine ⟨fun hf => (by cases hf), fun hf => ?_⟩
  obtain ⟨⟨p, q, h1, h2, h3, h4⟩, h5⟩ := h.ye hf
  refine ⟨⟨p, q, h1, h2, by omega, h4⟩, fun p' q' hp hq hl hi hn => ?_⟩
  by_cases e : p' = k ∧ q' = j
  · obtain ⟨rfl, rfl⟩ := e
    rw [leE_iff]
    obtain ⟨_, _, rfl⟩ := h4
    simp only [edg] at hg ⊢
    omega
  · exact h5 p' q' hp hq (by omega) hi hn
theorem BI.new (h : BI n G ins k j fd x) (hk : k < n) (hj : j < n) (hi : ins k = true) (hn : ins j = false) (hg : fd = false ∨ G k j < x.t) : BI n G ins k (j + 1) true (edg G k j) := by
  refine ⟨fun hf => (by cases hf), fun _ => ⟨⟨k, j, hk, hj, by omega, hi, hn, rfl⟩, fun p q hp hq hl hi' hn' => ?_⟩⟩
  by_cases e : p = k ∧ q = j
  · obtain ⟨rfl, rfl⟩ := e
    exact leE.rf _
  · rcases hg with hg | hg
    · have := h.no hg p q hp hq (by omega) hi'
      rw [this] at hn'
      cases hn'
    · cases fd with
      | false =>
        have := h.no rfl p q hp hq (by omega) hi'
        rw [this] at hn'
        cases hn'
      | true =>
        have h6 := (h.ye rfl).2 p q hp hq (by omega) hi' hn'
        rw [leE_iff] at h6 ⊢
        simp only [edg] at h6 ⊢
        omega
theorem BI.end (h : BI n G ins n 0 fd x) (h0 : ins 0 = true) (hn : 1 ≤ n) (hy : ∃ y, y < n ∧ ins y = false) : fd = true ∧ bestP n G ins x := by
  obtain ⟨y, hy1, hy2⟩ := hy
  cases fd with
  | false =>
    have := h.no rfl 0 y (by omega) hy1 (by omega) h0
    rw [this] at hy2
    cases hy2
  | true =>
    obtain ⟨⟨p, q, h1, h2, h3, h4, h5, h6⟩, h7⟩ := h.ye rfl
    exact ⟨rfl, ⟨p, q, h1, h2, h4, h5, h6⟩, fun p' q' k1 k2 k3 k4 => h7 p' q' k1 k2 (by omega) k3 k4⟩
end
theorem cell1_at (W : World) (g : Nat) (x : Int) (T : TypeId) (h : W.heap[g]? = some (.cells #[.int .i64 x] T (0, 0))) : ∀ (j : Nat) (u : Value), ([Value.int .i64 x])[j]? = some u → W.cell? ⟨g, 0 + j, none⟩ = some u := fun j u hj => by
  rw [Nat.zero_add, cell_of_row _ _ _ _ _ _ h]
  simpa using hj
theorem any_same {l : List Nat} {f g : Nat → Bool} (h : ∀ x ∈ l, f x = g x) : l.any f = l.any g := by
  induction l with
  | nil => rfl
  | cons a l ih => rw [List.any_cons, List.any_cons, h a (by simp), ih (fun x hx => h x (by simp [hx]))]
theorem hasTo_snoc (il : List Int) (t q : Int) : hasTo (il ++ [t]) (il.length + 1) q = (hasTo il il.length q || t == q) := by
  unfold hasTo
  rw [List.range_succ, List.any_append]
  congr 1
  · refine any_same (fun j hj => ?_)
    rw [List.getD_eq_getElem?_getD, List.getD_eq_getElem?_getD, List.getElem?_append_left (by simpa using hj)]
  · simp
/-- While the model's tree grows. -/
structure SS (w wr : World) (n zl cap : Nat) (a : Option Addr) (G : Nat → Nat → Int) (ins : Nat → Bool) (os is : Value) (l : List ED) (il : List Int) : Prop where
  xb : Below w.heap.size w wr
  xm : wr.heap[w.heap.size]? = some (.cells #[.int .i64 (n : Int), .slice a zl cap] 26 (0, 0))
  xo : wr.ownsRow (w.heap.size + 1) 32 3 os l.length ((flE l).map (Value.int .i64))
  xi : wr.ownsRow (w.heap.size + 1) 2 1 is il.length (il.map (Value.int .i64))
  xt : PTr n G l ins
  xk : il.length = l.length + 1 ∧ ∀ q : Nat, q < n → hasTo il il.length (q : Int) = ins q
theorem SS.below {w wr : World} {n zl cap : Nat} {a : Option Addr} {G : Nat → Nat → Int} {ins : Nat → Bool} {os is : Value} {l : List ED} {il : List Int} {wr' : World} (h : SS w wr n zl cap a G ins os is l il) (hb : Below wr.heap.size wr wr') : SS w wr' n zl cap a G ins os is l il := ⟨h.xb.trans (hb.mono h.xb.size), below_row hb (row_lt h.xm) h.xm, owns_below h.xo hb, owns_below h.xi hb, h.xt, h.xk⟩
/-- With the edge that is looked for in its box. -/
structure SB (w wr : World) (n zl cap : Nat) (a : Option Addr) (G : Nat → Nat → Int) (ins : Nat → Bool) (os is : Value) (l : List ED) (il : List Int) (bb : Nat) (x : ED) : Prop where
  s : SS w wr n zl cap a G ins os is l il
  e : wr.heap[bb]? = some (.cells #[.int .i64 x.a, .int .i64 x.b, .int .i64 x.t] 32 (0, 0))
  d : os.ownBlock ≠ some bb
  lo : w.heap.size ≤ bb
theorem SB.below {w wr : World} {n zl cap : Nat} {a : Option Addr} {G : Nat → Nat → Int} {ins : Nat → Bool} {os is : Value} {l : List ED} {il : List Int} {wr' : World} {bb : Nat} {x : ED} (h : SB w wr n zl cap a G ins os is l il bb x) (hb : Below wr.heap.size wr wr') : SB w wr' n zl cap a G ins os is l il bb x := ⟨h.s.below hb, below_row hb (row_lt h.e) h.e, h.d, h.lo⟩
theorem SB.new {w wr : World} {n zl cap : Nat} {a : Option Addr} {G : Nat → Nat → Int} {ins : Nat → Bool} {os is : Value} {l : List ED} {il : List Int} (h : SS w wr n zl cap a G ins os is l il) : SB w (wr.alloc (.cells #[.int .i64 0, .int .i64 0, .int .i64 0] 32)) n zl cap a G ins os is l il wr.heap.size e0 := ⟨h.below ((Below.refl _ _).alloc (Nat.le_refl _) _), heap_alloc_new _ _, fun e => by have := (h.xo.lt _ e).2; omega, h.xb.size⟩
theorem SB.put {w wr : World} {n zl cap : Nat} {a : Option Addr} {G : Nat → Nat → Int} {ins : Nat → Bool} {os is : Value} {l : List ED} {il : List Int} {bb : Nat} {x : ED} (y : ED) (h : SB w wr n zl cap a G ins os is l il bb x) : SB w (((wr.setCell ⟨bb, 0, none⟩ (.int .i64 y.a)).setCell ⟨bb, 1, none⟩ (.int .i64 y.b)).setCell ⟨bb, 2, none⟩ (.int .i64 y.t)) n zl cap a G ins os is l il bb y := by
  have hs : wr.grownBy (((wr.setCell ⟨bb, 0, none⟩ (.int .i64 y.a)).setCell ⟨bb, 1, none⟩ (.int .i64 y.b)).setCell ⟨bb, 2, none⟩ (.int .i64 y.t)) (some bb) := grown_trans (grown_trans (grown_set _ _ _ _) (grown_set _ _ _ _)) (grown_set _ _ _ _)
  have hsb : GrownBut (fun b => b = bb) wr (((wr.setCell ⟨bb, 0, none⟩ (.int .i64 y.a)).setCell ⟨bb, 1, none⟩ (.int .i64 y.b)).setCell ⟨bb, 2, none⟩ (.int .i64 y.t)) := GrownBut.of_grown hs rfl
  have hm : w.heap.size ≠ bb := type_ne h.s.xm h.e (by decide)
  refine ⟨⟨h.s.xb.trans (hsb.below h.s.xb.size (fun b e9 => by rw [e9]; exact h.lo)), hsb.row h.s.xm hm, but_ownP hsb h.s.xo (fun b e1 e2 => h.d (by rw [e1, e2])), but_ownP hsb h.s.xi (fun b e1 e2 => own_othP h.s.xi h.e (by decide) (by rw [e1, e2])), h.s.xt, h.s.xk⟩, ?_, h.d, h.lo⟩
  have := row_putP (i := 2) (.int .i64 y.t) (row_putP (i := 1) (.int .i64 y.b) (row_putP (i := 0) (.int .i64 y.a) h.e))
  simpa using this
theorem ints_own {w : World} {base n c : Nat} {a : Option Addr} {l : List Int} (h : w.ownsRow base 2 1 (.slice a n c) n (l.map (Value.int .i64))) : IntsAt w a l := fun j hj => by
  rcases own_kinds h with ⟨_, h2⟩ | ⟨g, c', h2, _⟩
  · have := h.1
    rw [List.length_map] at this
    omega
  · simp only [Value.slice.injEq, true_and] at h2
    obtain ⟨rfl, rfl⟩ := h2
    refine ⟨g, 0, rfl, ?_⟩
    rw [Nat.zero_add]
    refine (own_cellV h ?_).1
    rw [List.getElem?_map, List.getElem?_eq_getElem hj, List.getD_eq_getElem?_getD, List.getElem?_eq_getElem hj]
    rfl

theorem SS.app {w wr : World} {n zl cap : Nat} {a : Option Addr} {G : Nat → Nat → Int} {ins : Nat → Bool} {os is : Value} {l : List ED} {il : List Int} {wr' : World} {os' : Value} {x : ED} (h : SS w wr n zl cap a G ins os is l il) (hg : wr.grownBy wr' os.ownBlock) (ho : wr'.ownsRow (w.heap.size + 1) 32 3 os' (l.length + 1) ((flE l).map (Value.int .i64) ++ [Value.int .i64 x.a, .int .i64 x.b, .int .i64 x.t])) :
    Below w.heap.size w wr' ∧ wr'.heap[w.heap.size]? = some (.cells #[.int .i64 (n : Int), .slice a zl cap] 26 (0, 0)) ∧ wr'.ownsRow (w.heap.size + 1) 32 3 os' (l ++ [x]).length ((flE (l ++ [x])).map (Value.int .i64)) ∧ wr'.ownsRow (w.heap.size + 1) 2 1 is il.length (il.map (Value.int .i64)) := by
  have hlo : ∀ b, os.ownBlock = some b → w.heap.size + 1 ≤ b := fun b e => (h.xo.lt b e).1
  have hgb := grownBut_own hg
  refine ⟨⟨hg.os.trans h.xb.os, hg.tape.trans h.xb.tape, hg.output.trans h.xb.output, Nat.le_trans h.xb.size hg.size, fun b hb9 => (hg.block b (Nat.lt_of_lt_of_le hb9 h.xb.size) (fun e9 => by have := hlo b e9.symm; omega)).trans (h.xb.block b hb9)⟩, hgb.row h.xm (fun e => by have := hlo _ e; omega), ?_, but_ownP hgb h.xi (fun b e1 e2 => ?_)⟩
  · rw [flE_app, List.map_append, List.length_append]
    exact ho
  · rcases h.xo.2 with ⟨e3, _⟩ | ⟨g, c, cur, e3, _, hrow, _⟩
    · rw [e3] at e2; cases e2
    · rw [e3] at e2
      simp only [Value.ownBlock, Option.some.injEq] at e2
      subst e2
      exact own_othP h.xi hrow (by decide) e1
theorem SS.more {w wr : World} {n zl cap : Nat} {a : Option Addr} {G : Nat → Nat → Int} {ins : Nat → Bool} {os is : Value} {l : List ED} {il : List Int} {wr' wr2 wr3 : World} {os' is' : Value} {x : ED} (h : SS w wr n zl cap a G ins os is l il) (hx : bestP n G ins x) (A : Below w.heap.size w wr' ∧ wr'.heap[w.heap.size]? = some (.cells #[.int .i64 (n : Int), .slice a zl cap] 26 (0, 0)) ∧ wr'.ownsRow (w.heap.size + 1) 32 3 os' (l ++ [x]).length ((flE (l ++ [x])).map (Value.int .i64)) ∧ wr'.ownsRow (w.heap.size + 1) 2 1 is il.length (il.map (Value.int .i64))) (hb2 : Below wr'.heap.size wr' wr2) (hg : wr2.grownBy wr3 is.ownBlock) (ho : wr3.ownsRow (w.heap.size + 1) 2 1 is' (il.length + 1) (il.map (Value.int .i64) ++ [Value.int .i64 x.b])) : SS w wr3 n zl cap a G (inS ins x.b.toNat) os' is' (l ++ [x]) (il ++ [x.b]) := by
  obtain ⟨a1, a2, a3, a4⟩ := A
  have b1 := a1.trans (hb2.mono a1.size)
  have b2 := below_row hb2 (row_lt a2) a2
  have b3 := owns_below a3 hb2
  have b4 := owns_below a4 hb2
  have hlo : ∀ b, is.ownBlock = some b → w.heap.size + 1 ≤ b := fun b e => (b4.lt b e).1
  have hgb := grownBut_own hg
  refine ⟨⟨hg.os.trans b1.os, hg.tape.trans b1.tape, hg.output.trans b1.output, Nat.le_trans b1.size hg.size, fun b hb9 => (hg.block b (Nat.lt_of_lt_of_le hb9 b1.size) (fun e9 => by have := hlo b e9.symm; omega)).trans (b1.block b hb9)⟩, hgb.row b2 (fun e => by have := hlo _ e; omega), but_ownP hgb b3 (fun b e1 e2 => ?_), ?_, PTr.snoc h.xt hx, ?_, fun q hq => ?_⟩
  · rcases b4.2 with ⟨e3, _⟩ | ⟨g, c, cur, e3, _, hrow, _⟩
    · rw [e3] at e2; cases e2
    · rw [e3] at e2
      simp only [Value.ownBlock, Option.some.injEq] at e2
      subst e2
      exact own_othP b3 hrow (by decide) e1
  · rw [List.map_append, List.length_append]
    exact ho
  · rw [List.length_append, List.length_append, h.xk.1]
    rfl
  · rw [List.length_append, List.length_singleton, hasTo_snoc, h.xk.2 q hq]
    obtain ⟨⟨p, t, _, _, _, _, rfl⟩, _⟩ := hx
    have e : (edg G p t).b.toNat = t := by simp [edg]
    rw [e]
    unfold inS
    by_cases e2 : q = t
    · subst e2
      simp [edg]
    · rw [if_neg e2]
      have e3 : ¬ ((t : Int) = (q : Int)) := by omega
      simp [edg, e3]

set_option maxHeartbeats 1000000 in
theorem specSpan_no (n : Int) (a : Option Addr) (cap : Nat) (zs : List Int) (w : World) (hA : IntsAt w a zs) (hs : symB n zs = false) :
    Calls Try.prog 9 #[.agg #[.int .i64 n, .slice a zs.length cap]] w fun e w' => ∃ b, e = .returned (.slice (some ⟨b, 0, none⟩) 0 0) ∧ Below w.heap.size w w' := by
  have HB0 : Hid (Below w.heap.size w ((w.alloc (.cells #[.int .i64 n, .slice a zs.length cap] 26)).alloc (.cells #[] 32))) := ((Below.refl _ _).alloc (Nat.le_refl _) _).alloc (by simp) _
  have P0 : Hid (((w.alloc (.cells #[.int .i64 n, .slice a zs.length cap] 26)).alloc (.cells #[] 32)).heap[w.heap.size]? = some (.cells #[.int .i64 n, .slice a zs.length cap] 26 (0, 0))) := heap_alloc2_old _ _ _
  have CS := specSym_any n a cap zs _ (hA.below HB0.out)
  rw [hs] at CS
  clear hA hs
  generalize zs.length = zl at *
  obtain ⟨c0, c1⟩ := cells2 P0.out
  go_enter Try.func9, Try.ntmps9
  go_wp2_with fail
  clear c0 c1
  generalize (w.alloc (.cells #[.int .i64 n, .slice a zl cap] 26)).alloc (.cells #[] 32) = W0 at *
  refine CS.mono ?_
  rintro e w1 ⟨rfl, hb⟩
  have B1 : Hid (Below w.heap.size w w1) := HB0.out.trans (hb.mono HB0.out.size)
  clear hb CS
  go_wp2
  go_ret
  exact ⟨_, rfl, B1.out⟩

set_option maxRecDepth 10000 in
set_option maxHeartbeats 8000000 in
theorem specSpan_any (n : Nat) (a : Option Addr) (cap : Nat) (zs : List Int) (w : World) (hA : IntsAt w a zs) (hm : matB n zs = true) (hs : symB n zs = true) :
    Calls Try.prog 9 #[.agg #[.int .i64 n, .slice a zs.length cap]] w (TreeOk w n (tmG zs n)) := by
  have HB0 : Hid (Below w.heap.size w ((w.alloc (.cells #[.int .i64 n, .slice a zs.length cap] 26)).alloc (.cells #[] 32))) := ((Below.refl _ _).alloc (Nat.le_refl _) _).alloc (by simp) _
  have P0 : Hid (((w.alloc (.cells #[.int .i64 n, .slice a zs.length cap] 26)).alloc (.cells #[] 32)).heap[w.heap.size]? = some (.cells #[.int .i64 n, .slice a zs.length cap] 26 (0, 0))) := heap_alloc2_old _ _ _
  have O0 : Hid (((w.alloc (.cells #[.int .i64 n, .slice a zs.length cap] 26)).alloc (.cells #[] 32)).ownsRow (w.heap.size + 1) 32 3 (.slice (some ⟨w.heap.size + 1, 0, none⟩) 0 0) 0 []) := ⟨rfl, .inr ⟨w.heap.size + 1, 0, #[], rfl, Nat.le_refl _, heap_alloc2_new _ _ _, Nat.le_refl _, by unfold maxLen; omega, by simp, rfl⟩⟩
  have CS := specSym_any n a cap zs _ (hA.below HB0.out)
  rw [hs] at CS
  obtain ⟨m1, m2, m3, -⟩ := matB_true hm
  have hn1 : 1 ≤ n := by omega
  have hn16 : n ≤ 16 := by omega
  have HZL : Hid (zs.length = n * n) := by
    show _ = _
    rw [← Int.natCast_mul] at m3
    omega
  have HA : Hid (IntsAt w a zs) := hA
  obtain ⟨zl, HZ⟩ : ∃ x, Hid (zs.length = x) := ⟨_, rfl⟩
  rw [HZ.out] at HB0 P0 O0 CS HZL ⊢
  have CTM : Hid (∀ (W : World) (x y : Nat), Below w.heap.size w W → x < n → y < n → Calls Try.prog 33 #[.agg #[.int .i64 (n : Int), .slice a zl cap], .int .i64 x, .int .i64 y] W fun e w' => e = .returned (.int .i64 (tmG zs n x y)) ∧ Below W.heap.size W w') := fun W x y hW hx hy => l1Time_any n x y a zl cap zs W hn16 hx hy (by rw [HZ.out]; exact HZL.out) HZL.out (HA.out.below hW)
  generalize tmG zs n = G at *
  clear hA hs hm m1 m2 m3
  obtain ⟨c0, c1⟩ := cells2 P0.out
  go_enter Try.func9, Try.ntmps9
  go_wp2_with fail
  clear c0 c1
  generalize (w.alloc (.cells #[.int .i64 (n : Int), .slice a zl cap] 26)).alloc (.cells #[] 32) = W0 at *
  refine CS.mono ?_
  rintro e w1 ⟨rfl, hb⟩
  have S1 : Hid (SS w (w1.alloc (.cells #[.int .i64 0] 2)) n zl cap a G in0 (.slice (some ⟨w.heap.size + 1, 0, none⟩) 0 0) (.slice (some ⟨w1.heap.size, 0, none⟩) 1 1) [] [0]) := by
    have hb1 : Below w.heap.size w w1 := HB0.out.trans (hb.mono HB0.out.size)
    have hA1 : Below w1.heap.size w1 (w1.alloc (.cells #[.int .i64 0] 2)) := (Below.refl _ _).alloc (Nat.le_refl _) _
    have p1 := below_row hb (row_lt P0.out) P0.out
    refine ⟨hb1.trans (hA1.mono hb1.size), below_row hA1 (row_lt p1) p1, owns_below (owns_below O0.out hb) hA1, ⟨rfl, .inr ⟨w1.heap.size, 1, #[.int .i64 0], rfl, row_lt p1, heap_alloc_new _ _, Nat.le_refl _, by unfold maxLen; omega, rfl, rfl⟩⟩, PTr.nil, rfl, fun q hq => ?_⟩
    unfold in0 inS hasTo
    by_cases e : q = 0
    · subst e; rfl
    · rw [if_neg e]
      have e2 : ¬ ((0 : Int) = (q : Int)) := by omega
      simp [e2]
  clear hb CS HB0 P0 O0
  go_wp2_with fail
  generalize w1.alloc (.cells #[.int .i64 0] 2) = W1 at *
  generalize w1.heap.size = b1 at *
  go_loopw [3, 4] (fun t3 t4 wr => ∃ (l : List ED) (il : List Int) (ins : Nat → Bool), SS w wr n zl cap a G ins t3 t4 l il) (fun _ t4 _ => n - lenOf t4)
  case atStart => exact ⟨[], [0], in0, S1.out⟩
  case round =>
    clear S1
    obtain ⟨l, il, ins, hS⟩ := hrel
    have SW : Hid (SS w wr n zl cap a G ins u3 u4 l il) := hS
    clear hS
    obtain ⟨lm, HLM⟩ : ∃ m, Hid (l.length = m) := ⟨_, rfl⟩
    obtain ⟨m, HM⟩ : ∃ m, Hid (il.length = m) := ⟨_, rfl⟩
    obtain ⟨ia, ic, hu4⟩ : ∃ ia ic, u4 = .slice ia m ic := by
      rcases own_kinds SW.out.xi with ⟨h1, h2⟩ | ⟨g9, c9, h1, _⟩
      · exact ⟨none, 0, by rw [h1, ← HM.out, h2]⟩
      · exact ⟨_, c9, by rw [h1, HM.out]⟩
    obtain ⟨sa, sc, hu3⟩ : ∃ sa sc, u3 = .slice sa lm sc := by
      rcases own_kinds SW.out.xo with ⟨h1, h2⟩ | ⟨g9, c9, h1, _⟩
      · exact ⟨none, 0, by rw [h1, ← HLM.out, h2]⟩
      · exact ⟨_, c9, by rw [h1, HLM.out]⟩
    subst hu3 hu4
    have HML : Hid (m = lm + 1) := by have := SW.out.xk.1; rw [HM.out, HLM.out] at this; exact this
    have HLN : Hid (lm + 1 ≤ n) := by have := SW.out.xt.len hn1; rw [HLM.out] at this; exact this
    have HLE : Hid (lenOf (.slice ia m ic) = m) := rfl
    obtain ⟨c0, c1⟩ := cells2 SW.out.xm
    by_cases hlt : m < n
    · have hltI : (m : Int) < (n : Int) := by omega
      have T1 : Hid (SB w (wr.alloc (.cells #[.int .i64 0, .int .i64 0, .int .i64 0] 32)) n zl cap a G ins (.slice sa lm sc) (.slice ia m ic) l il wr.heap.size e0) := SB.new SW.out
      have HMORE : Hid (∃ y, y < n ∧ ins y = false) := SW.out.xt.more hn1 (by rw [HLM.out]; have := HML.out; omega)
      have HI0 : Hid (ins 0 = true) := (SW.out.xt.cnt hn1).2
      clear SW
      go_wp2_with fail
      clear c0 c1
      generalize wr.alloc (.cells #[.int .i64 0, .int .i64 0, .int .i64 0] 32) = W2 at *
      generalize wr.heap.size = bb at *
      go_loopw [6, 7] (fun t6 t7 wx => ∃ (k : Nat) (fd : Bool) (x : ED), t6 = .bool fd ∧ t7 = .int .i64 k ∧ k ≤ n ∧ BI n G ins k 0 fd x ∧ SB w wx n zl cap a G ins (.slice sa lm sc) (.slice ia m ic) l il bb x) (fun _ t7 _ => n - (intOf t7).toNat)
      case atStart => exact ⟨0, false, e0, rfl, rfl, Nat.zero_le _, BI.start, T1.out⟩
      case round =>
        clear T1
        obtain ⟨k, fd, x, rfl, rfl, hk, hBI, hSB⟩ := hrel
        have BW : Hid (BI n G ins k 0 fd x) := hBI
        have SBW : Hid (SB w wr n zl cap a G ins (.slice sa lm sc) (.slice ia m ic) l il bb x) := hSB
        clear hBI hSB
        obtain ⟨c0, c1⟩ := cells2 SBW.out.s.xm
        by_cases hkn : k < n
        · have hknI : (k : Int) < (n : Int) := by omega
          go_wp2_with fail
          clear c0 c1
          go_loopw [6, 8] (fun t6 t8 wx => ∃ (j : Nat) (fd : Bool) (x : ED), t6 = .bool fd ∧ t8 = .int .i64 j ∧ j ≤ n ∧ BI n G ins k j fd x ∧ SB w wx n zl cap a G ins (.slice sa lm sc) (.slice ia m ic) l il bb x) (fun _ t8 _ => n - (intOf t8).toNat)
          case atStart => exact ⟨0, fd, x, rfl, rfl, Nat.zero_le _, BW.out, SBW.out⟩
          case round =>
            clear BW SBW
            obtain ⟨j, fd, x, rfl, rfl, hj, hBI, hSB⟩ := hrel
            have BW : Hid (BI n G ins k j fd x) := hBI
            have SBW : Hid (SB w wr n zl cap a G ins (.slice sa lm sc) (.slice ia m ic) l il bb x) := hSB
            clear hBI hSB
            obtain ⟨c0, c1⟩ := cells2 SBW.out.s.xm
            by_cases hjn : j < n
            · have hjnI : (j : Int) < (n : Int) := by omega
              obtain ⟨z0, z1, z2⟩ := cells3 SBW.out.e
              have CHK : Hid (∀ (W : World) (q : Int), Below wr.heap.size wr W → Calls Try.prog 32 #[.slice ia m ic, .int .i64 q] W fun e w' => e = .returned (.bool (hasTo il m q)) ∧ w' = W) := fun W q hW => l3Has_any ia m ic q il W (ints_own (by have := owns_below SBW.out.s.xi hW; rw [HM.out] at this; exact this)) (by rw [HM.out]; exact Nat.le_refl _) (by omega)
              have hk1 := SBW.out.s.xk.2 k hkn
              have hj1 := SBW.out.s.xk.2 j hjn
              rw [HM.out] at hk1 hj1
              obtain ⟨bk, HBK⟩ : ∃ b, Hid (ins k = b) := ⟨_, rfl⟩
              obtain ⟨bj, HBJ⟩ : ∃ b, Hid (ins j = b) := ⟨_, rfl⟩
              rw [HBK.out] at hk1
              rw [HBJ.out] at hj1
              cases bk
              · have B2 : Hid (BI n G ins k (j + 1) fd x) := BW.out.skip (.inl HBK.out)
                clear BW
                go_wp2_with fail
                have hkin := Kin.there wr
                have e0' := fun s : Kin wr => s.cell c0
                have e1' := fun s : Kin wr => s.cell c1
                have e2' := fun s : Kin wr => s.cell z2
                refine wp_region_kin (by kernel_rfl) (by kernel_rfl) ?_
                repeat (go_big_quiet_step ((first
                  | (go_at_call 32; exact Kin.call_same (CHK.out _ _ (Kin.below _)))
                  | (go_at_call 33; exact Kin.call (CTM.out _ k j (SBW.out.s.xb.trans ((Kin.below _).mono SBW.out.s.xb.size)) hkn hjn)))))
                refine wpQuiet_nil ?_
                rintro _ ⟨s, rfl⟩
                have SB2 : Hid (SB w s.w n zl cap a G ins (.slice sa lm sc) (.slice ia m ic) l il bb x) := SBW.out.below s.below
                clear c0 c1 z0 z1 z2 e0' e1' e2' hkin SBW
                generalize s.w = W5 at *
                go_wp2_with fail
                go_roundw
                case rel => exact ⟨j + 1, fd, x, rfl, by go_num, by omega, B2.out, SB2.out⟩
                case measure => simp [intOf]; omega
              · cases bj
                · cases fd
                  · have B2 : Hid (BI n G ins k (j + 1) true (edg G k j)) := BW.out.new hkn hjn HBK.out HBJ.out (.inl rfl)
                    clear BW
                    go_wp2_with fail
                    have hkin := Kin.there wr
                    have e0' := fun s : Kin wr => s.cell c0
                    have e1' := fun s : Kin wr => s.cell c1
                    have e2' := fun s : Kin wr => s.cell z2
                    refine wp_region_kin (by kernel_rfl) (by kernel_rfl) ?_
                    repeat (go_big_quiet_step ((first
                      | (go_at_call 32; exact Kin.call_same (CHK.out _ _ (Kin.below _)))
                      | (go_at_call 33; exact Kin.call (CTM.out _ k j (SBW.out.s.xb.trans ((Kin.below _).mono SBW.out.s.xb.size)) hkn hjn)))))
                    refine wpQuiet_nil ?_
                    rintro _ ⟨s, rfl⟩
                    have SB2 : Hid (SB w s.w n zl cap a G ins (.slice sa lm sc) (.slice ia m ic) l il bb x) := SBW.out.below s.below
                    clear c0 c1 z0 z1 z2 e0' e1' e2' hkin SBW
                    generalize s.w = W5 at *
                    obtain ⟨c0, c1⟩ := cells2 SB2.out.s.xm
                    go_wp2_with fail
                    clear c0 c1
                    refine (CTM.out W5 k j SB2.out.s.xb hkn hjn).mono ?_
                    rintro e w6 ⟨rfl, hb6⟩
                    have SB3 : Hid (SB w (((w6.setCell ⟨bb, 0, none⟩ (.int .i64 (k : Int))).setCell ⟨bb, 1, none⟩ (.int .i64 (j : Int))).setCell ⟨bb, 2, none⟩ (.int .i64 (G k j))) n zl cap a G ins (.slice sa lm sc) (.slice ia m ic) l il bb (edg G k j)) := (SB2.out.below hb6).put (edg G k j)
                    have E6 : Hid (w6.heap[bb]? = _) := (SB2.out.below hb6).e
                    clear SB2 hb6
                    obtain ⟨z0, z1, z2⟩ := cells3 E6.out
                    have zf := fun i => frozen_of_row _ _ i _ _ E6.out
                    go_wp2_with fail
                    clear z0 z1 z2 zf
                    generalize (((w6.setCell ⟨bb, 0, none⟩ (.int .i64 (k : Int))).setCell ⟨bb, 1, none⟩ (.int .i64 (j : Int))).setCell ⟨bb, 2, none⟩ (.int .i64 (G k j))) = W7 at *
                    go_roundw
                    case rel => exact ⟨j + 1, true, edg G k j, rfl, by go_num, by omega, B2.out, SB3.out⟩
                    case measure => simp [intOf]; omega
                  · by_cases hge : x.t ≤ G k j
                    · have B2 : Hid (BI n G ins k (j + 1) true x) := BW.out.ge hge
                      clear BW
                      go_wp2_with fail
                      have hkin := Kin.there wr
                      have e0' := fun s : Kin wr => s.cell c0
                      have e1' := fun s : Kin wr => s.cell c1
                      have e2' := fun s : Kin wr => s.cell z2
                      refine wp_region_kin (by kernel_rfl) (by kernel_rfl) ?_
                      repeat (go_big_quiet_step ((first
                        | (go_at_call 32; exact Kin.call_same (CHK.out _ _ (Kin.below _)))
                        | (go_at_call 33; exact Kin.call (CTM.out _ k j (SBW.out.s.xb.trans ((Kin.below _).mono SBW.out.s.xb.size)) hkn hjn)))))
                      refine wpQuiet_nil ?_
                      rintro _ ⟨s, rfl⟩
                      have SB2 : Hid (SB w s.w n zl cap a G ins (.slice sa lm sc) (.slice ia m ic) l il bb x) := SBW.out.below s.below
                      clear c0 c1 z0 z1 z2 e0' e1' e2' hkin SBW
                      generalize s.w = W5 at *
                      go_wp2_with fail
                      go_roundw
                      case rel => exact ⟨j + 1, true, x, rfl, by go_num, by omega, B2.out, SB2.out⟩
                      case measure => simp [intOf]; omega
                    · have B2 : Hid (BI n G ins k (j + 1) true (edg G k j)) := BW.out.new hkn hjn HBK.out HBJ.out (.inr (by omega))
                      clear BW
                      go_wp2_with fail
                      have hkin := Kin.there wr
                      have e0' := fun s : Kin wr => s.cell c0
                      have e1' := fun s : Kin wr => s.cell c1
                      have e2' := fun s : Kin wr => s.cell z2
                      refine wp_region_kin (by kernel_rfl) (by kernel_rfl) ?_
                      repeat (go_big_quiet_step ((first
                        | (go_at_call 32; exact Kin.call_same (CHK.out _ _ (Kin.below _)))
                        | (go_at_call 33; exact Kin.call (CTM.out _ k j (SBW.out.s.xb.trans ((Kin.below _).mono SBW.out.s.xb.size)) hkn hjn)))))
                      refine wpQuiet_nil ?_
                      rintro _ ⟨s, rfl⟩
                      have SB2 : Hid (SB w s.w n zl cap a G ins (.slice sa lm sc) (.slice ia m ic) l il bb x) := SBW.out.below s.below
                      clear c0 c1 z0 z1 z2 e0' e1' e2' hkin SBW
                      generalize s.w = W5 at *
                      obtain ⟨c0, c1⟩ := cells2 SB2.out.s.xm
                      go_wp2_with fail
                      clear c0 c1
                      refine (CTM.out W5 k j SB2.out.s.xb hkn hjn).mono ?_
                      rintro e w6 ⟨rfl, hb6⟩
                      have SB3 : Hid (SB w (((w6.setCell ⟨bb, 0, none⟩ (.int .i64 (k : Int))).setCell ⟨bb, 1, none⟩ (.int .i64 (j : Int))).setCell ⟨bb, 2, none⟩ (.int .i64 (G k j))) n zl cap a G ins (.slice sa lm sc) (.slice ia m ic) l il bb (edg G k j)) := (SB2.out.below hb6).put (edg G k j)
                      have E6 : Hid (w6.heap[bb]? = _) := (SB2.out.below hb6).e
                      clear SB2 hb6
                      obtain ⟨z0, z1, z2⟩ := cells3 E6.out
                      have zf := fun i => frozen_of_row _ _ i _ _ E6.out
                      go_wp2_with fail
                      clear z0 z1 z2 zf
                      generalize (((w6.setCell ⟨bb, 0, none⟩ (.int .i64 (k : Int))).setCell ⟨bb, 1, none⟩ (.int .i64 (j : Int))).setCell ⟨bb, 2, none⟩ (.int .i64 (G k j))) = W7 at *
                      go_roundw
                      case rel => exact ⟨j + 1, true, edg G k j, rfl, by go_num, by omega, B2.out, SB3.out⟩
                      case measure => simp [intOf]; omega
                · have B2 : Hid (BI n G ins k (j + 1) fd x) := BW.out.skip (.inr HBJ.out)
                  clear BW
                  go_wp2_with fail
                  have hkin := Kin.there wr
                  have e0' := fun s : Kin wr => s.cell c0
                  have e1' := fun s : Kin wr => s.cell c1
                  have e2' := fun s : Kin wr => s.cell z2
                  refine wp_region_kin (by kernel_rfl) (by kernel_rfl) ?_
                  repeat (go_big_quiet_step ((first
                    | (go_at_call 32; exact Kin.call_same (CHK.out _ _ (Kin.below _)))
                    | (go_at_call 33; exact Kin.call (CTM.out _ k j (SBW.out.s.xb.trans ((Kin.below _).mono SBW.out.s.xb.size)) hkn hjn)))))
                  refine wpQuiet_nil ?_
                  rintro _ ⟨s, rfl⟩
                  have SB2 : Hid (SB w s.w n zl cap a G ins (.slice sa lm sc) (.slice ia m ic) l il bb x) := SBW.out.below s.below
                  clear c0 c1 z0 z1 z2 e0' e1' e2' hkin SBW
                  generalize s.w = W5 at *
                  go_wp2_with fail
                  go_roundw
                  case rel => exact ⟨j + 1, fd, x, rfl, by go_num, by omega, B2.out, SB2.out⟩
                  case measure => simp [intOf]; omega
            · have hjeq : j = n := by omega
              subst hjeq
              have hnl : ¬ ((j : Int) < (j : Int)) := by omega
              have B2 : Hid (BI j G ins (k + 1) 0 fd x) := BW.out.row
              clear hjn BW
              go_wp2_with fail
              clear c0 c1
              go_roundw
              case rel => exact ⟨k + 1, fd, x, rfl, by go_num, by omega, B2.out, SBW.out⟩
              case measure => simp [intOf]; omega
        · have hkeq : k = n := by omega
          subst hkeq
          have hnl : ¬ ((k : Int) < (k : Int)) := by omega
          have HEND : Hid (fd = true ∧ bestP k G ins x) := BW.out.end HI0.out hn1 HMORE.out
          obtain ⟨z0, z1, z2⟩ := cells3 SBW.out.e
          clear hkn BW
          obtain ⟨xa, xb, xt⟩ := x
          simp only at z0 z1 z2
          have TA : Hid (SB w (wr.alloc (.cells #[.int .i64 xa, .int .i64 xb, .int .i64 xt] 32)) k zl cap a G ins (.slice sa lm sc) (.slice ia m ic) l il bb ⟨xa, xb, xt⟩) := SBW.out.below ((Below.refl _ _).alloc (Nat.le_refl _) _)
          have VA : Hid ((wr.alloc (.cells #[.int .i64 xa, .int .i64 xb, .int .i64 xt] 32)).heap[wr.heap.size]? = some (.cells #[.int .i64 xa, .int .i64 xb, .int .i64 xt] 32 (0, 0))) := heap_alloc_new _ _
          have OA : Hid ((wr.alloc (.cells #[.int .i64 xa, .int .i64 xb, .int .i64 xt] 32)).ownsRow (w.heap.size + 1) 32 3 (.slice sa lm sc) lm ((flE l).map (Value.int .i64))) := by have := TA.out.s.xo; rw [HLM.out] at this; exact this
          have hlm : lm ≤ 16 := by have := HLN.out; omega
          clear SBW
          go_wp2_with (
            at_builtin
            first
            | (refine append_vals Try.underlying28 infoEd rfl (by decide) _ rfl _ _ rfl (w.heap.size + 1) _ lm ((flE l).map (Value.int .i64)) rfl OA.out wr.heap.size 0 1 1 [Value.int .i64 xa, .int .i64 xb, .int .i64 xt] rfl rfl (cellsE_at _ _ _ _ _ _ VA.out) (by intro u hu; simp only [List.mem_cons, List.not_mem_nil, or_false] at hu; rcases hu with rfl | rfl | rfl <;> rfl) (by omega) (by omega) (by have := row_lt TA.out.s.xm; omega) ?_
               intro v3 w4 ho4 hg4 hb4 hz4
               have A4 : Hid _ := TA.out.s.app (x := ⟨xa, xb, xt⟩) hg4 (by rw [HLM.out]; exact ho4)
               have E4 : Hid (w4.heap[bb]? = _) := (grownBut_own hg4).row TA.out.e TA.out.d
               have OB : Hid ((w4.alloc (.cells #[.int .i64 xb] 2)).ownsRow (w.heap.size + 1) 2 1 (.slice ia m ic) m (il.map (Value.int .i64))) := by have := owns_below A4.out.2.2.2 ((Below.refl _ _).alloc (Nat.le_refl _) (.cells #[.int .i64 xb] 2)); rw [HM.out] at this; exact this
               have VB : Hid ((w4.alloc (.cells #[.int .i64 xb] 2)).heap[w4.heap.size]? = some (.cells #[.int .i64 xb] 2 (0, 0))) := heap_alloc_new _ _
               clear ho4 hg4 hb4 hz4 z0 z1 z2
               obtain ⟨z0, z1, z2⟩ := cells3 E4.out
               simp only at z0 z1 z2)
            | (refine append_vals Try.underlying24 infoIx rfl (by decide) _ rfl _ _ rfl (w.heap.size + 1) _ m (il.map (Value.int .i64)) rfl OB.out w4.heap.size 0 1 1 [Value.int .i64 xb] rfl rfl (cell1_at _ _ _ _ VB.out) (by intro u hu; simp only [List.mem_cons, List.not_mem_nil, or_false] at hu; rw [hu]; rfl) (by omega) (by omega) (by have := row_lt VB.out; have := A4.out.1.size; omega) ?_
               intro v4 w5 ho5 hg5 hb5 hz5
               have S5 : Hid (SS w w5 k zl cap a G (inS ins (⟨xa, xb, xt⟩ : ED).b.toNat) v3 v4 (l ++ [⟨xa, xb, xt⟩]) (il ++ [(⟨xa, xb, xt⟩ : ED).b])) := TA.out.s.more HEND.out.2 A4.out ((Below.refl _ _).alloc (Nat.le_refl _) _) hg5 (by rw [HM.out]; exact ho5)
               have HV5 : Hid (lenOf v4 = m + 1) := by
                 show _ = _
                 rcases own_kinds ho5 with ⟨h1, h2⟩ | ⟨g9, c9, h1, _⟩
                 · omega
                 · rw [h1]; rfl
               clear ho5 hg5 hb5 hz5))
          go_roundw
          case rel => exact ⟨l ++ [⟨xa, xb, xt⟩], il ++ [xb], _, S5.out⟩
          case measure => rw [HV5.out, HLE.out]; omega
    · have hmn : m = n := by have := HLN.out; have := HML.out; omega
      have hnl : ¬ ((m : Int) < (n : Int)) := by omega
      have TOLD : Hid (TreeOk w n G (.returned (.slice sa lm sc)) wr) := ⟨_, l, ins, rfl, SW.out.xb, by have := SW.out.xo; rw [HLM.out] at this ⊢; exact owns_base this (by omega), SW.out.xt, by rw [HLM.out]; have := HML.out; omega⟩
      clear SW hmn hlt
      go_wp2
      go_ret
      exact TOLD.out

end Go.Proofs.Ytaehhlkpbhmdfaa
