import Derived.Test.YtaehhlkpbhmdfaaPack1
import Derived.Test.YtaehhlkpbhmdfaaPack3
import Derived.Laws.Tables
namespace Go.Proofs.Ytaehhlkpbhmdfaa
open Go.RowKit

/-- The cells of a growth at its start. -/
def zGrow : Array Value := (Value.int .i64 0 :: (List.replicate 256 (Value.int .i64 0) ++ (List.replicate 16 (Value.bool false) ++ [Value.nilIface]))).toArray
theorem info65 : (Try.prog.info? 65).map (fun i => (i.zero, i.size)) = some (some (.agg zGrow), 274) := by kernel_rfl
theorem zGrow_size : zGrow.size = 274 := by kernel_rfl
theorem zGrow_in (p : Nat) (h : p < 16) : zGrow[257 + p]? = some (.bool false) := by
  unfold zGrow
  rw [List.getElem?_toArray, show 257 + p = (256 + p) + 1 by omega, List.getElem?_cons_succ, List.getElem?_append_right (by rw [List.length_replicate]; omega), List.length_replicate, List.getElem?_append_left (by rw [List.length_replicate]; omega), List.getElem?_replicate, if_pos (by omega)]
theorem foldPut (off : Nat) : ∀ (l : List Value) (s : Nat) (cs : Array Value), off + s + l.length ≤ cs.size → ((l.zipIdx s).foldl (fun cs p => cs.setIfInBounds (off + p.2) p.1) cs).size = cs.size ∧ ∀ k, ((l.zipIdx s).foldl (fun cs p => cs.setIfInBounds (off + p.2) p.1) cs)[k]? = if off + s ≤ k ∧ k < off + s + l.length then l[k - (off + s)]? else cs[k]?
  | [], s, cs, _ => ⟨rfl, fun k => by rw [if_neg (by rw [List.length_nil]; omega)]; rfl⟩
  | x :: l, s, cs, h => by
    rw [List.length_cons] at h
    rw [List.zipIdx_cons, List.foldl_cons]
    obtain ⟨h1, h2⟩ := foldPut off l (s + 1) (cs.setIfInBounds (off + s) x) (by rw [Array.size_setIfInBounds]; omega)
    refine ⟨by rw [h1, Array.size_setIfInBounds], fun k => ?_⟩
    rw [h2]
    by_cases h3 : off + (s + 1) ≤ k ∧ k < off + (s + 1) + l.length
    · rw [if_pos h3, if_pos (by rw [List.length_cons]; omega), show k - (off + s) = (k - (off + (s + 1))) + 1 by omega, List.getElem?_cons_succ]
    · rw [if_neg h3]
      by_cases h4 : k = off + s
      · subst h4
        rw [Array.getElem?_setIfInBounds_self_of_lt (by omega), if_pos (by rw [List.length_cons]; omega), Nat.sub_self, List.getElem?_cons_zero]
      · rw [Array.getElem?_setIfInBounds_ne (by omega), if_neg (by rw [List.length_cons]; omega)]
theorem foldPutA (off : Nat) (l cs : Array Value) (h : off + l.size ≤ cs.size) : (l.zipIdx.foldl (fun cs (c, j) => cs.setIfInBounds (off + j) c) cs).size = cs.size ∧ ∀ k, (l.zipIdx.foldl (fun cs (c, j) => cs.setIfInBounds (off + j) c) cs)[k]? = if off ≤ k ∧ k < off + l.size then l[k - off]? else cs[k]? := by
  have e : l.zipIdx.foldl (fun cs (c, j) => cs.setIfInBounds (off + j) c) cs = (l.toList.zipIdx 0).foldl (fun cs p => cs.setIfInBounds (off + p.2) p.1) cs := by
    rw [← Array.foldl_toList, Array.toList_zipIdx]
  rw [e]
  obtain ⟨h1, h2⟩ := foldPut off l.toList 0 cs (by rw [Array.length_toList]; omega)
  refine ⟨h1, fun k => ?_⟩
  rw [h2 k, Array.length_toList]
  simp
theorem zGrow_is : Try.zeroCells65 = zGrow := by kernel_rfl
/-- The cells of a new growth. -/
theorem grow_cells (n : Nat) (G : Nat → Nat → Int) (gr : Array Value) (hb : Nat) (hg : gr.size = 256) (hn : n ≤ 16) (hG : ∀ x y, x < n → y < n → gr[x * 16 + y]? = some (.int .i64 (G x y))) (h1 : gr.all (·.oneCell') = true) : ∃ c2, (Array.foldl (fun cs x => cs.setIfInBounds (1 + x.snd) x.fst) (Try.zeroCells65.setIfInBounds 0 (Value.int IntKind.i64 n)) gr.zipIdx 0 gr.size) = c2 ∧ c2.size = 274 ∧ GA (c2.setIfInBounds 273 (.iface 58 (.pointer (some ⟨hb, 0, none⟩)))) n G (fun _ => false) hb ∧ (c2.setIfInBounds 273 (.iface 58 (.pointer (some ⟨hb, 0, none⟩)))).all (·.oneCell') = true := by
  rw [zGrow_is]
  have s0 := zGrow_size
  obtain ⟨b1, b2⟩ := foldPutA 1 gr (zGrow.setIfInBounds 0 (.int .i64 n)) (by rw [Array.size_setIfInBounds, s0, hg]; decide)
  have ef : Array.foldl (fun cs x => cs.setIfInBounds (1 + x.snd) x.fst) (zGrow.setIfInBounds 0 (Value.int IntKind.i64 n)) gr.zipIdx 0 gr.size = gr.zipIdx.foldl (fun cs (c, j) => cs.setIfInBounds (1 + j) c) (zGrow.setIfInBounds 0 (.int .i64 n)) := by
    rw [show gr.size = gr.zipIdx.size by simp]
  rw [ef]
  generalize gr.zipIdx.foldl (fun cs (c, j) => cs.setIfInBounds (1 + j) c) (zGrow.setIfInBounds 0 (.int .i64 n)) = c2 at *
  rw [Array.size_setIfInBounds, s0] at b1
  have k0 : c2[0]? = some (.int .i64 n) := by rw [b2, if_neg (by omega), Array.getElem?_setIfInBounds_self_of_lt (by rw [s0]; omega)]
  have kg : ∀ k, k < 256 → c2[1 + k]? = gr[k]? := fun k hk => by rw [b2, if_pos (by rw [hg]; omega), show 1 + k - 1 = k by omega]
  have ki : ∀ p, p < 16 → c2[257 + p]? = some (.bool false) := fun p hp => by
    rw [b2, if_neg (by rw [hg]; omega), Array.getElem?_setIfInBounds_ne (by omega)]
    exact zGrow_in p hp
  refine ⟨c2, rfl, b1, ⟨?_, fun x y hx hy => ?_, fun p hp => ?_, ?_⟩, ?_⟩
  · rw [Array.getElem?_setIfInBounds_ne (by omega)]; exact k0
  · rw [Array.getElem?_setIfInBounds_ne (by omega), show 1 + x * 16 + y = 1 + (x * 16 + y) by omega, kg _ (by omega)]; exact hG x y hx hy
  · rw [Array.getElem?_setIfInBounds_ne (by omega)]; exact ki p hp
  · rw [Array.getElem?_setIfInBounds_self_of_lt (by omega)]
  · rw [Array.all_eq_true]
    intro i hi
    rw [Array.size_setIfInBounds, b1] at hi
    have hone : ∀ v, (c2.setIfInBounds 273 (.iface 58 (.pointer (some ⟨hb, 0, none⟩))))[i]? = some v → v.oneCell' = true := fun v hv => by
      by_cases e1 : i = 273
      · subst e1
        rw [Array.getElem?_setIfInBounds_self_of_lt (by omega)] at hv
        cases hv
        rfl
      · rw [Array.getElem?_setIfInBounds_ne (by omega)] at hv
        by_cases e2 : i = 0
        · subst e2
          rw [k0] at hv
          cases hv
          rfl
        · by_cases e3 : i < 257
          · rw [show i = 1 + (i - 1) by omega, kg _ (by omega)] at hv
            obtain ⟨hlt, e⟩ := Array.getElem?_eq_some_iff.1 hv
            rw [Array.all_eq_true] at h1
            rw [← e]
            exact h1 _ hlt
          · rw [show i = 257 + (i - 257) by omega, ki _ (by omega)] at hv
            cases hv
            rfl
    exact hone _ (Array.getElem?_eq_getElem _)

end Go.Proofs.Ytaehhlkpbhmdfaa

namespace Go.Proofs.Ytaehhlkpbhmdfaa
open Go.RowKit

theorem row_putP {W : World} {g i : Nat} {cur : Array Value} {T : TypeId} (u : Value) (h : W.heap[g]? = some (.cells cur T (0, 0))) : (W.setCell ⟨g, i, none⟩ u).heap[g]? = some (.cells (cur.setIfInBounds i u) T (0, 0)) := heap_setCell_same _ _ _ _ _ _ h
theorem but_ownP {S : Nat → Prop} {w w' : World} {base size n : Nat} {e : TypeId} {v : Value} {xs : List Value} (h : GrownBut S w w') (ho : w.ownsRow base e size v n xs) (hs : ∀ b, v.ownBlock = some b → ¬ S b) : w'.ownsRow base e size v n xs := by
  obtain ⟨h1, h2 | ⟨g, cap, cur, h2, h3, h4, h5⟩⟩ := ho
  · exact ⟨h1, .inl h2⟩
  · exact ⟨h1, .inr ⟨g, cap, cur, h2, h3, h.row h4 (hs g (by rw [h2]; rfl)), h5⟩⟩
/-- While the tree grows: the growth, its queue, the edge that was taken, the list. -/
structure TS (w wr : World) (gb hb eb n : Nat) (G : Nat → Nat → Int) (ins : Nat → Bool) (v : Value) (L : List ED) (ls : Value) (l : List ED) (ok : Bool) (e : ED) : Prop where
  xb : Below w.heap.size w wr
  xr : GR wr gb n G ins hb
  xh : HP wr w.heap.size hb v L
  xp : isHp L
  xe : wr.heap[eb]? = some (.cells #[.int .i64 e.a, .int .i64 e.b, .int .i64 e.t] 32 (0, 0))
  xo : wr.ownsRow w.heap.size 32 3 ls l.length ((flE l).map (Value.int .i64))
  x1 : v.ownBlock ≠ some eb
  x2 : ls.ownBlock ≠ some eb
  x3 : ∀ b, ls.ownBlock = some b → v.ownBlock ≠ some b
  xl : w.heap.size ≤ gb ∧ w.heap.size ≤ hb ∧ w.heap.size ≤ eb
  xt : PTr n G l ins
  xq : QI n G ins ok e L
  xn : L.length ≤ 16 * (l.length + 1)
section
variable {w wr wr' : World} {gb hb eb n : Nat} {G : Nat → Nat → Int} {ins : Nat → Bool} {v v' : Value} {L L' : List ED} {ls ls' : Value} {l : List ED} {ok : Bool} {e : ED}
theorem GR.ne_own {base size m : Nat} {T : TypeId} {xs : List Value} (h : GR wr gb n G ins hb) (ho : wr.ownsRow base T size v m xs) (hT : 65 ≠ T) : v.ownBlock ≠ some gb := by
  obtain ⟨cur, h1, _⟩ := h
  exact own_othP ho h1 hT
theorem TS.sepG (h : TS w wr gb hb eb n G ins v L ls l ok e) : ¬ hpS hb v gb := by
  obtain ⟨cur, h1, _⟩ := h.xr
  rintro (e9 | e9)
  · exact type_ne h1 h.xh.b (by decide) e9
  · exact own_othP h.xh.o h1 (by decide) e9
theorem TS.ebhb (h : TS w wr gb hb eb n G ins v L ls l ok e) : eb ≠ hb ∧ eb ≠ gb := by
  obtain ⟨cur, h1, _⟩ := h.xr
  exact ⟨type_ne h.xe h.xh.b (by decide), type_ne h.xe h1 (by decide)⟩
theorem TS.below (h : TS w wr gb hb eb n G ins v L ls l ok e) (hb' : Below wr.heap.size wr wr') : TS w wr' gb hb eb n G ins v L ls l ok e :=
  ⟨h.xb.trans (hb'.mono h.xb.size), h.xr.but (GrownBut.of_below hb') (S := fun _ => False) (fun x => x), h.xh.below hb', h.xp, below_row hb' (row_lt h.xe) h.xe, owns_below h.xo hb', h.x1, h.x2, h.x3, h.xl, h.xt, h.xq, h.xn⟩
/-- The list takes the edge: the tree is not told yet. -/
theorem TS.app (h : TS w wr gb hb eb n G ins v L ls l ok e) (hg : wr.grownBy wr' ls.ownBlock) (ho : wr'.ownsRow w.heap.size 32 3 ls' (l.length + 1) ((flE l).map (Value.int .i64) ++ [Value.int .i64 e.a, .int .i64 e.b, .int .i64 e.t])) (hbk : ls'.ownBlock = ls.ownBlock ∨ ls'.ownBlock = some wr.heap.size) :
    Below w.heap.size w wr' ∧ GR wr' gb n G ins hb ∧ HP wr' w.heap.size hb v L ∧ wr'.heap[eb]? = some (.cells #[.int .i64 e.a, .int .i64 e.b, .int .i64 e.t] 32 (0, 0)) ∧ wr'.ownsRow w.heap.size 32 3 ls' (l ++ [e]).length ((flE (l ++ [e])).map (Value.int .i64)) ∧ ls'.ownBlock ≠ some eb ∧ (∀ b, ls'.ownBlock = some b → v.ownBlock ≠ some b) := by
  have hgb := grownBut_own hg
  have hlo : ∀ b, ls.ownBlock = some b → w.heap.size ≤ b := fun b e => (h.xo.lt b e).1
  refine ⟨⟨hg.os.trans h.xb.os, hg.tape.trans h.xb.tape, hg.output.trans h.xb.output, Nat.le_trans h.xb.size hg.size, fun b hb9 => (hg.block b (Nat.lt_of_lt_of_le hb9 h.xb.size) (fun e9 => by have := hlo b e9.symm; omega)).trans (h.xb.block b hb9)⟩, h.xr.but hgb (h.xr.ne_own h.xo (by decide)), ⟨hgb.row h.xh.b (own_othP h.xo h.xh.b (by decide)), but_ownP hgb h.xh.o (fun b e1 e2 => h.x3 b e2 e1)⟩, hgb.row h.xe h.x2, ?_, ?_, fun b e1 => ?_⟩
  · rw [flE_app, List.map_append, List.length_append]
    exact ho
  · rcases hbk with h9 | h9
    · rw [h9]; exact h.x2
    · rw [h9]
      intro e9
      injection e9 with e9
      have := row_lt h.xe
      omega
  · rcases hbk with h9 | h9
    · rw [h9] at e1; exact h.x3 b e1
    · rw [h9] at e1
      injection e1 with e1
      intro e9
      have := (h.xh.o.lt b e9).2
      omega
end
/-- A place came in. -/
theorem TS.enter {w wr wr' wr2 : World} {gb hb eb n x t : Nat} {G : Nat → Nat → Int} {ins : Nat → Bool} {v v' : Value} {L L' : List ED} {ls ls' : Value} {l : List ED} (h : TS w wr gb hb eb n G ins v L ls l true (edg G x t)) (hx : x < n) (ht : t < n) (hn : n ≤ 16) (hix : ins x = true) (hit : ins t = false)
    (A : Below w.heap.size w wr' ∧ GR wr' gb n G ins hb ∧ HP wr' w.heap.size hb v L ∧ wr'.heap[eb]? = some (.cells #[.int .i64 (edg G x t).a, .int .i64 (edg G x t).b, .int .i64 (edg G x t).t] 32 (0, 0)) ∧ wr'.ownsRow w.heap.size 32 3 ls' (l ++ [edg G x t]).length ((flE (l ++ [edg G x t])).map (Value.int .i64)) ∧ ls'.ownBlock ≠ some eb ∧ (∀ b, ls'.ownBlock = some b → v.ownBlock ≠ some b))
    (E : EN wr' wr2 w.heap.size gb hb n t n G (inS ins t) v v' L L') : TS w wr2 gb hb eb n G (inS ins t) v' L' ls' (l ++ [edg G x t]) false (edg G x t) := by
  obtain ⟨a1, a2, a3, a4, a5, a6, a7⟩ := A
  obtain ⟨cur, c1, _⟩ := a2
  have nb : ∀ b, grS gb hb v b → w.heap.size ≤ b := fun b hb9 => by
    rcases hb9 with rfl | rfl | h9
    · exact h.xl.1
    · exact h.xl.2.1
    · exact (a3.o.lt b h9).1
  have ne : ¬ grS gb hb v eb := by
    rintro (e9 | e9 | e9)
    · exact h.ebhb.2 e9
    · exact h.ebhb.1 e9
    · exact h.x1 e9
  have nl : ∀ b, ls'.ownBlock = some b → ¬ grS gb hb v b := fun b e1 => by
    rintro (e9 | e9 | e9)
    · subst e9; exact own_othP a5 c1 (by decide) e1
    · subst e9; exact own_othP a5 a3.b (by decide) e1
    · exact a7 b e1 e9
  have hbest := h.xq.best hx ht hix hit
  refine ⟨a1.trans (E.g.below a1.size nb), E.r, E.h, E.hp, E.g.row a4 ne, but_ownP E.g a5 nl, ?_, a6, fun b e1 e2 => ?_, h.xl, ?_, h.xq.enter ht (fun y => by rw [E.m y]; rfl) rfl, ?_⟩
  · intro e9
    rcases E.v eb e9 with h9 | h9
    · exact h.x1 h9
    · have := row_lt a4; omega
  · rcases E.v b e2 with h9 | h9
    · exact a7 b e1 h9
    · have := (a5.lt b e1).2; omega
  · have := PTr.snoc h.xt hbest
    rw [show (edg G x t).b.toNat = t by simp [edg]] at this
    exact this
  · have h1 := E.l
    have h2 := h.xn
    rw [List.length_append, List.length_singleton]
    omega
/-- The edge in a new box. -/
theorem TS.box {w wr : World} {gb hb eb n : Nat} {G : Nat → Nat → Int} {ins : Nat → Bool} {v : Value} {L : List ED} {ls : Value} {l : List ED} {ok : Bool} {e : ED} (h : TS w wr gb hb eb n G ins v L ls l ok e) : TS w (wr.alloc (.cells #[.int .i64 e.a, .int .i64 e.b, .int .i64 e.t] 32)) gb hb wr.heap.size n G ins v L ls l ok e := by
  have k := h.below ((Below.refl _ _).alloc (Nat.le_refl _) (.cells #[.int .i64 e.a, .int .i64 e.b, .int .i64 e.t] 32))
  refine ⟨k.xb, k.xr, k.xh, k.xp, heap_alloc_new _ _, k.xo, fun e9 => ?_, fun e9 => ?_, k.x3, ⟨k.xl.1, k.xl.2.1, h.xb.size⟩, k.xt, k.xq, k.xn⟩
  · have := (h.xh.o.lt _ e9).2; omega
  · have := (h.xo.lt _ e9).2; omega
/-- The first edge is taken into the box. -/
theorem TS.take {w wr wr' : World} {gb hb eb n : Nat} {G : Nat → Nat → Int} {ins : Nat → Bool} {v : Value} {L : List ED} {ls : Value} {l : List ED} {e : ED} (h : TS w wr gb hb eb n G ins v L ls l false e) (P : PopOk wr w.heap.size hb v L wr') : ∃ v' L', TS w (((wr'.setCell ⟨eb, 0, none⟩ (.int .i64 (L.getD 0 e0).a)).setCell ⟨eb, 1, none⟩ (.int .i64 (L.getD 0 e0).b)).setCell ⟨eb, 2, none⟩ (.int .i64 (L.getD 0 e0).t)) gb hb eb n G ins v' L' ls l true (L.getD 0 e0) ∧ L'.length + 1 = L.length := by
  obtain ⟨v', L', k1, k2, k3, k4, k5, k6⟩ := P
  obtain ⟨cur, c1, _⟩ := h.xr
  have nb : ∀ b, hpS hb v b → w.heap.size ≤ b := fun b hb9 => by
    rcases hb9 with rfl | h9
    · exact h.xl.2.1
    · exact (h.xh.o.lt b h9).1
  have ne : ¬ hpS hb v eb := by
    rintro (e9 | e9)
    · exact h.ebhb.1 e9
    · exact h.x1 e9
  have nl : ∀ b, ls.ownBlock = some b → ¬ hpS hb v b := fun b e1 => by
    rintro (e9 | e9)
    · subst e9; exact own_othP h.xo h.xh.b (by decide) e1
    · exact h.x3 b e1 e9
  have he := k5.row h.xe ne
  have hs : wr'.grownBy (((wr'.setCell ⟨eb, 0, none⟩ (.int .i64 (L.getD 0 e0).a)).setCell ⟨eb, 1, none⟩ (.int .i64 (L.getD 0 e0).b)).setCell ⟨eb, 2, none⟩ (.int .i64 (L.getD 0 e0).t)) (some eb) := grown_trans (grown_trans (grown_set _ _ _ _) (grown_set _ _ _ _)) (grown_set _ _ _ _)
  have hsb : GrownBut (fun b => b = eb) wr' (((wr'.setCell ⟨eb, 0, none⟩ (.int .i64 (L.getD 0 e0).a)).setCell ⟨eb, 1, none⟩ (.int .i64 (L.getD 0 e0).b)).setCell ⟨eb, 2, none⟩ (.int .i64 (L.getD 0 e0).t)) := GrownBut.of_grown hs rfl
  have x1' : v'.ownBlock ≠ some eb := fun e9 => h.x1 (k6 _ e9)
  refine ⟨v', L', ⟨?_, (h.xr.but k5 h.sepG).but hsb (fun e9 => h.ebhb.2 e9.symm), ⟨hsb.row k1.b (fun e9 => h.ebhb.1 e9.symm), but_ownP hsb k1.o (fun b e1 e2 => x1' (by rw [e1, e2]))⟩, k2, ?_, but_ownP hsb (but_ownP k5 h.xo nl) (fun b e1 e2 => h.x2 (by rw [e1, e2])), x1', h.x2, fun b e1 e2 => h.x3 b e1 (k6 b e2), h.xl, h.xt, h.xq.take h.xp k4, by have := h.xn; omega⟩, k3⟩
  · exact (h.xb.trans (k5.below h.xb.size nb)).trans (hsb.below (Nat.le_trans h.xb.size k5.size) (fun b e9 => by rw [e9]; exact h.xl.2.2))
  · have := row_putP (i := 2) (.int .i64 (L.getD 0 e0).t) (row_putP (i := 1) (.int .i64 (L.getD 0 e0).b) (row_putP (i := 0) (.int .i64 (L.getD 0 e0).a) he))
    simpa using this
theorem TS.kept {w wr wr' : World} {gb hb eb n : Nat} {G : Nat → Nat → Int} {ins : Nat → Bool} {v : Value} {L : List ED} {ls : Value} {l : List ED} {ok : Bool} {e : ED} (h : TS w wr gb hb eb n G ins v L ls l ok e) (P : PopOk wr w.heap.size hb v L wr') : wr'.heap[eb]? = some (.cells #[.int .i64 e.a, .int .i64 e.b, .int .i64 e.t] 32 (0, 0)) := by
  obtain ⟨v', L', _, _, _, _, k5, _⟩ := P
  refine k5.row h.xe ?_
  rintro (e9 | e9)
  · exact h.ebhb.1 e9
  · exact h.x1 e9
/-- Nothing is left. -/
theorem TS.gone {w wr wr' : World} {gb hb eb n : Nat} {G : Nat → Nat → Int} {ins : Nat → Bool} {v : Value} {ls : Value} {l : List ED} {e : ED} (h : TS w wr gb hb eb n G ins v [] ls l false e) (hb' : Below wr.heap.size wr wr') : TS w (((wr'.setCell ⟨eb, 0, none⟩ (.int .i64 0)).setCell ⟨eb, 1, none⟩ (.int .i64 0)).setCell ⟨eb, 2, none⟩ (.int .i64 0)) gb hb eb n G ins v [] ls l false e0 := by
  have k := h.below hb'
  have hs : wr'.grownBy (((wr'.setCell ⟨eb, 0, none⟩ (.int .i64 0)).setCell ⟨eb, 1, none⟩ (.int .i64 0)).setCell ⟨eb, 2, none⟩ (.int .i64 0)) (some eb) := grown_trans (grown_trans (grown_set _ _ _ _) (grown_set _ _ _ _)) (grown_set _ _ _ _)
  have hsb : GrownBut (fun b => b = eb) wr' (((wr'.setCell ⟨eb, 0, none⟩ (.int .i64 0)).setCell ⟨eb, 1, none⟩ (.int .i64 0)).setCell ⟨eb, 2, none⟩ (.int .i64 0)) := GrownBut.of_grown hs rfl
  refine ⟨?_, k.xr.but hsb (fun e9 => k.ebhb.2 e9.symm), ⟨hsb.row k.xh.b (fun e9 => k.ebhb.1 e9.symm), but_ownP hsb k.xh.o (fun b e1 e2 => k.x1 (by rw [e1, e2]))⟩, k.xp, ?_, but_ownP hsb k.xo (fun b e1 e2 => k.x2 (by rw [e1, e2])), k.x1, k.x2, k.x3, k.xl, k.xt, ⟨k.xq.qf, fun x t h1 h2 h3 h4 => ?_, fun h => (by cases h), fun h => (by cases h)⟩, k.xn⟩
  · exact k.xb.trans (hsb.below k.xb.size (fun b e9 => by rw [e9]; exact k.xl.2.2))
  · have := row_putP (i := 2) (.int .i64 0) (row_putP (i := 1) (.int .i64 0) (row_putP (i := 0) (.int .i64 0) k.xe))
    simpa [e0] using this
  · rcases k.xq.qc x t h1 h2 h3 h4 with h5 | ⟨h5, _⟩
    · exact .inl h5
    · cases h5

/-- The first edge in its box. -/
theorem TS.mk0 {w wT : World} {gb hb n : Nat} {G : Nat → Nat → Int} {v : Value} {L : List ED} {ok : Bool} {e : ED} (xb : Below w.heap.size w wT) (xr : GR wT gb n G in0 hb) (xh : HP wT w.heap.size hb v L) (xp : isHp L) (h1 : w.heap.size ≤ gb) (h2 : w.heap.size ≤ hb) (q : QI n G in0 ok e L) (xn : L.length ≤ 16) : TS w (wT.alloc (.cells #[.int .i64 e.a, .int .i64 e.b, .int .i64 e.t] 32)) gb hb wT.heap.size n G in0 v L (.slice none 0 0) [] ok e := by
  have hb' : Below wT.heap.size wT (wT.alloc (.cells #[.int .i64 e.a, .int .i64 e.b, .int .i64 e.t] 32)) := (Below.refl _ _).alloc (Nat.le_refl _) _
  refine ⟨xb.trans (hb'.mono xb.size), xr.but (GrownBut.of_below hb') (S := fun _ => False) (fun x => x), xh.below hb', xp, heap_alloc_new _ _, ⟨by simp [flE], .inl ⟨rfl, rfl⟩⟩, fun e9 => ?_, fun e9 => (by cases e9), fun b e9 => (by cases e9), ⟨h1, h2, xb.size⟩, PTr.nil, q, by simpa using xn⟩
  have := (xh.o.lt _ e9).2
  omega

end Go.Proofs.Ytaehhlkpbhmdfaa

namespace Go.Proofs.Ytaehhlkpbhmdfaa
open Go.RowKit

def lenOf (v : Value) : Nat := match v with | .slice _ n _ => n | _ => 0
def okOf (v : Value) : Nat := match v with | .bool true => 1 | _ => 0
def hpLen (w : World) (hb : Nat) : Nat := match w.cell? ⟨hb, 0, none⟩ with | some v => lenOf v | none => 0
theorem HP.len {w : World} {B hb : Nat} {v : Value} {L : List ED} (h : HP w B hb v L) : hpLen w hb = L.length := by
  obtain ⟨a, c, e⟩ := h.any
  unfold hpLen
  rw [h.cell, e]
  rfl
/-- A tree of the call's own. -/
def TreeOk (w : World) (n : Nat) (G : Nat → Nat → Int) (e : Ending) (w' : World) : Prop := ∃ ls l ins, e = .returned ls ∧ Below w.heap.size w w' ∧ w'.ownsRow w.heap.size 32 3 ls l.length ((flE l).map (Value.int .i64)) ∧ PTr n G l ins ∧ l.length + 1 = n

set_option maxHeartbeats 1000000 in
theorem implSpan_no (n : Int) (a : Option Addr) (cap : Nat) (zs : List Int) (w : World) (hA : IntsAt w a zs) (hs : symB n zs = false) :
    Calls Try.prog 8 #[.agg #[.int .i64 n, .slice a zs.length cap]] w fun e w' => e = .returned (.slice none 0 0) ∧ Below w.heap.size w w' := by
  have HB0 : Hid (Below w.heap.size w (w.alloc (.cells #[.int .i64 n, .slice a zs.length cap] 26))) := (Below.refl _ _).alloc (Nat.le_refl _) _
  have CS := implSym_any n a cap zs _ (hA.below HB0.out)
  rw [hs] at CS
  clear hA hs
  generalize zs.length = zl at *
  go_enter Try.func8, Try.ntmps8
  go_wp2_with fail
  generalize w.alloc (.cells #[.int .i64 n, .slice a zl cap] 26) = W0 at *
  refine CS.mono ?_
  rintro e w1 ⟨rfl, hb⟩
  have B1 : Hid (Below w.heap.size w w1) := HB0.out.trans (hb.mono HB0.out.size)
  clear hb CS
  go_wp2
  go_ret
  exact ⟨rfl, B1.out⟩

set_option maxRecDepth 10000 in
set_option maxHeartbeats 8000000 in
theorem implSpan_any (n : Nat) (a : Option Addr) (cap : Nat) (zs : List Int) (w : World) (hA : IntsAt w a zs) (hm : matB n zs = true) (hs : symB n zs = true) :
    Calls Try.prog 8 #[.agg #[.int .i64 n, .slice a zs.length cap]] w (TreeOk w n (tmG zs n)) := by
  have HB0 : Hid (Below w.heap.size w (w.alloc (.cells #[.int .i64 n, .slice a zs.length cap] 26))) := (Below.refl _ _).alloc (Nat.le_refl _) _
  have P0 : Hid ((w.alloc (.cells #[.int .i64 n, .slice a zs.length cap] 26)).heap[w.heap.size]? = some (.cells #[.int .i64 n, .slice a zs.length cap] 26 (0, 0))) := heap_alloc_new _ _
  have CS := implSym_any n a cap zs _ (hA.below HB0.out)
  rw [hs] at CS
  have CG : Hid (∀ W, Below w.heap.size w W → Calls Try.prog 30 #[.agg #[.int .i64 n, .slice a zs.length cap]] W fun e w' => e = .returned (.tuple #[.agg (cellsOf (gridTo n zs n 0)), .bool true]) ∧ Below W.heap.size W w') := fun W hW => by
    have := grid_any n a cap zs W (hA.below hW)
    rw [hm, gridRes_true hm] at this
    exact this
  obtain ⟨m1, m2, m3, -⟩ := matB_true hm
  have hn1 : 1 ≤ n := by omega
  have hn16 : n ≤ 16 := by omega
  have HGG : Hid (∀ x y, x < n → y < n → (cellsOf (gridTo n zs n 0))[x * 16 + y]? = some (.int .i64 (tmG zs n x y))) := fun x y hx hy => by
    rw [cellsOf_get _ _ (by rw [gridTo_length]; omega), gridTo_get n zs x y hx hy hn16]
    rfl
  have HGS : Hid ((cellsOf (gridTo n zs n 0)).size = 256) := by show _ = _; rw [cellsOf_size, gridTo_length]
  have HG1 : Hid ((cellsOf (gridTo n zs n 0)).all (·.oneCell') = true) := cellsOf_one _
  have hz := (zero_of_info Try.info41).1
  generalize hz0 : cellsOf zeros = z0 at hz
  have HZ0 : Hid (z0.size = 256) := by show _ = _; rw [← hz0, cellsOf_size, zeros_length]
  have hsg := (zero_of_info info65).2
  generalize cellsOf (gridTo n zs n 0) = gr at *
  generalize tmG zs n = G at *
  clear hA hs hm hz0 m1 m2 m3
  generalize zs.length = zl at *
  go_enter Try.func8, Try.ntmps8
  go_wp2_with fail
  generalize w.alloc (.cells #[.int .i64 (n : Int), .slice a zl cap] 26) = W0 at *
  refine CS.mono ?_
  rintro e w1 ⟨rfl, hb⟩
  have B1 : Hid (Below w.heap.size w w1) := HB0.out.trans (hb.mono HB0.out.size)
  have P1 : Hid (w1.heap[w.heap.size]? = some (.cells #[.int .i64 (n : Int), .slice a zl cap] 26 (0, 0))) := below_row hb (row_lt P0.out) P0.out
  clear hb CS HB0 P0
  obtain ⟨c0, c1⟩ := cells2 P1.out
  go_wp2_with fail
  clear c0 c1
  refine (CG.out w1 B1.out).mono ?_
  rintro e w2 ⟨rfl, hb⟩
  have B2 : Hid (Below w.heap.size w w2) := B1.out.trans (hb.mono B1.out.size)
  have P2 : Hid (w2.heap[w.heap.size]? = some (.cells #[.int .i64 (n : Int), .slice a zl cap] 26 (0, 0))) := below_row hb (row_lt P1.out) P1.out
  clear hb B1 P1
  have S3 : Hid (Below w2.heap.size w2 (w2.alloc (.cells gr 55))) := (Below.refl _ _).alloc (Nat.le_refl _) _
  have B3 : Hid (Below w.heap.size w (w2.alloc (.cells gr 55))) := B2.out.trans (S3.out.mono B2.out.size)
  have P3 : Hid ((w2.alloc (.cells gr 55)).heap[w.heap.size]? = some (.cells #[.int .i64 (n : Int), .slice a zl cap] 26 (0, 0))) := below_row S3.out (row_lt P2.out) P2.out
  have R3 : Hid ((w2.alloc (.cells gr 55)).heap[w2.heap.size]? = some (.cells gr 55 (0, 0))) := heap_alloc_new _ _
  have hsz : (Try.prog.info? 55).map (·.size) = some gr.size := by rw [HGS.out]; exact size41
  have p3 := cells2 P3.out
  obtain ⟨e0', e1'⟩ := p3
  have hgd : (decide ¬gr.size = 256) = false := by rw [HGS.out]; decide
  have hgl : ¬ (274 < 1 + gr.size) := by rw [HGS.out]; decide
  obtain ⟨c2, hF, hc2, hga, hone⟩ := grow_cells n G gr (w2.heap.size + 1) HGS.out hn16 HGG.out HG1.out
  have HGA : Hid (GA (c2.setIfInBounds 273 (.iface 58 (.pointer (some ⟨w2.heap.size + 1, 0, none⟩)))) n G (fun _ => false) (w2.heap.size + 1)) := hga
  have HONE : Hid ((c2.setIfInBounds 273 (.iface 58 (.pointer (some ⟨w2.heap.size + 1, 0, none⟩)))).all (·.oneCell') = true) := hone
  have HC2 : Hid (c2.size = 274) := hc2
  clear hga hone
  have HZROW : Hid ((((w2.alloc (.cells gr 55)).alloc (.cells #[.slice none 0 0] 60)).alloc (.cells Try.zeroCells65 65)).heap[w2.heap.size + 1 + 1]? = some (.cells Try.zeroCells65 65 (0, 0))) := by
    have := heap_alloc_new ((w2.alloc (.cells gr 55)).alloc (.cells #[.slice none 0 0] 60)) (.cells Try.zeroCells65 65)
    show _ = _
    simpa using this
  have HW5 : Hid ((((w2.alloc (.cells gr 55)).alloc (.cells #[.slice none 0 0] 60)).alloc (.cells Try.zeroCells65 65)).setRow (w2.heap.size + 1 + 1) (c2.setIfInBounds 273 (.iface 58 (.pointer (some ⟨w2.heap.size + 1, 0, none⟩)))) = (((w2.alloc (.cells gr 55)).alloc (.cells #[.slice none 0 0] 60)).alloc (.cells (c2.setIfInBounds 273 (.iface 58 (.pointer (some ⟨w2.heap.size + 1, 0, none⟩)))) 65))) := by
    show _ = _
    have e : w2.heap.size + 1 + 1 = ((w2.alloc (.cells gr 55)).alloc (.cells #[.slice none 0 0] 60)).heap.size := by simp
    rw [e, World.setRow_alloc_new]
  go_wp2_with (first
    | (with_reducible refine wpList_store_row ?_ 55 (.tmp 3) (.tmp 15) ?_ w2.heap.size gr ?_ ?_ 55 z0 ?_ ?_ ?_ ?_ ?_
       · rfl
       · rfl
       · rfl
       · rfl
       · exact heap_alloc_new _ _
       · exact hsz
       · rw [HZ0.out, HGS.out]
       · exact HG1.out
       rw [World.setRow_alloc_new])
    | (with_reducible refine wpList_load_row ?_ 55 (.tmp 3) ?_ w2.heap.size ?_ 55 gr (0, 0) _ R3.out Try.underlying55 ?_ hsz ?_
       · rfl
       · rfl
       · rfl
       · rfl)
    | (with_reducible refine wpList_store_row ?_ 65 (.tmp 5) (.tmp 23) ?_ (w2.heap.size + 1 + 1) (c2.setIfInBounds 273 (.iface 58 (.pointer (some ⟨w2.heap.size + 1, 0, none⟩)))) ?_ ?_ 65 Try.zeroCells65 ?_ ?_ ?_ ?_ ?_
       · rfl
       · rfl
       · rfl
       · rfl
       · exact HZROW.out
       · rw [Array.size_setIfInBounds, HC2.out]; exact hsg
       · rw [Array.size_setIfInBounds, HC2.out, zGrow_is]; exact zGrow_size
       · exact HONE.out))
  all_goals try (exfalso; exact absurd (by assumption : (decide ¬gr.size = 256) = true) (by rw [hgd]; decide))
  rw [HW5.out]
  clear hF hc2 hgd hgl e0' e1' hsz hz
  have B5 : Hid (Below w.heap.size w (((w2.alloc (.cells gr 55)).alloc (.cells #[.slice none 0 0] 60)).alloc (.cells (c2.setIfInBounds 273 (.iface 58 (.pointer (some ⟨w2.heap.size + 1, 0, none⟩)))) 65))) := ((B3.out.alloc B3.out.size _).alloc (by have := B3.out.size; simp at this ⊢; omega) _)
  have GR5 : Hid (GR (((w2.alloc (.cells gr 55)).alloc (.cells #[.slice none 0 0] 60)).alloc (.cells (c2.setIfInBounds 273 (.iface 58 (.pointer (some ⟨w2.heap.size + 1, 0, none⟩)))) 65)) (w2.heap.size + 1 + 1) n G (fun _ => false) (w2.heap.size + 1)) := ⟨_, by have := heap_alloc_new ((w2.alloc (.cells gr 55)).alloc (.cells #[.slice none 0 0] 60)) (.cells (c2.setIfInBounds 273 (.iface 58 (.pointer (some ⟨w2.heap.size + 1, 0, none⟩)))) 65); simpa using this, HGA.out⟩
  have HP5 : Hid (HP (((w2.alloc (.cells gr 55)).alloc (.cells #[.slice none 0 0] 60)).alloc (.cells (c2.setIfInBounds 273 (.iface 58 (.pointer (some ⟨w2.heap.size + 1, 0, none⟩)))) 65)) w.heap.size (w2.heap.size + 1) (.slice none 0 0) []) := ⟨by have := heap_alloc2_old (w2.alloc (.cells gr 55)) (.cells #[.slice none 0 0] 60) (.cells (c2.setIfInBounds 273 (.iface 58 (.pointer (some ⟨w2.heap.size + 1, 0, none⟩)))) 65); simpa using this, ⟨by simp [flE], .inl ⟨rfl, rfl⟩⟩⟩
  have HLO : Hid (w.heap.size ≤ w2.heap.size + 1 ∧ w.heap.size ≤ w2.heap.size + 1 + 1) := by have := B2.out.size; exact ⟨by omega, by omega⟩
  clear HGA HONE HC2 HZROW HW5 R3 P3 B3 S3 P2 B2
  generalize (((w2.alloc (.cells gr 55)).alloc (.cells #[.slice none 0 0] 60)).alloc (.cells (c2.setIfInBounds 273 (.iface 58 (.pointer (some ⟨w2.heap.size + 1, 0, none⟩)))) 65)) = W5 at *
  obtain ⟨hb, HHB⟩ : ∃ x, Hid (w2.heap.size + 1 = x) := ⟨_, rfl⟩
  rw [HHB.out] at GR5 HP5 HLO ⊢
  obtain ⟨gb, HGB⟩ : ∃ x, Hid (hb + 1 = x) := ⟨_, rfl⟩
  rw [HGB.out] at GR5 HLO ⊢
  have hm1 := fun (q : Nat) (W : World) => mhtake q (.pointer (some ⟨hb, 0, none⟩)) W
  refine (enter_any w.heap.size gb hb n 0 G (fun _ => false) (.slice none 0 0) [] W5 GR5.out HP5.out (fun k k0 kl => by simp at kl) (by omega) hn16 (by simp) B5.out.size (fun h9 => ?_)).mono ?_
  · rcases h9 with h9 | h9
    · have := HGB.out; omega
    · cases h9
  rintro e w6 ⟨rfl, v6, L6, hE⟩
  have Q6 : Hid (QI n G in0 false e0 L6) := QI.start hn1 (fun y => by rw [hE.m y]; simp; rfl)
  have B6 : Hid (Below w.heap.size w w6) := B5.out.trans (hE.g.below B5.out.size (fun b h9 => by
    rcases h9 with rfl | rfl | h9
    · exact HLO.out.2
    · exact HLO.out.1
    · cases h9))
  have R6 : Hid (GR w6 gb n G in0 hb) := hE.r
  have H6 : Hid (HP w6 w.heap.size hb v6 L6) := hE.h
  have HL6 : Hid (isHp L6 ∧ L6.length ≤ 16) := ⟨hE.hp, by have := hE.l; simp at this; omega⟩
  have HN6 : Hid (¬ hpS hb v6 gb) := fun h9 => by
    rcases h9 with h9 | h9
    · have := HGB.out; omega
    · obtain ⟨cur, c1, _⟩ := hE.r; exact own_othP hE.h.o c1 (by decide) h9
  clear hE B5 GR5 HP5
  obtain ⟨-, cq⟩ := R6.out.c
  have CT := take_any w.heap.size hb v6 L6 w6 H6.out HL6.out.1 (by have := HL6.out.2; omega)
  go_wp2_with fail
  refine CT.mono ?_
  clear cq CT
  rintro e w7 hT
  have T7 : ∃ (ok : Bool) (x : ED) (v7 : Value) (L7 : List ED), e = .returned (.tuple #[.agg #[.int .i64 x.a, .int .i64 x.b, .int .i64 x.t], .bool ok]) ∧ (ok = false → L7 = []) ∧ TS w (w7.alloc (.cells #[.int .i64 x.a, .int .i64 x.b, .int .i64 x.t] 32)) gb hb w7.heap.size n G in0 v7 L7 (.slice none 0 0) [] ok x := by
    rcases hT with ⟨h0, rfl, hb7⟩ | ⟨h0, rfl, v7, L7, k1, k2, k3, k4, k5, k6⟩
    · subst h0
      exact ⟨false, e0, v6, [], rfl, fun _ => rfl, TS.mk0 (B6.out.trans (hb7.mono B6.out.size)) (R6.out.but (GrownBut.of_below hb7) (S := fun _ => False) (fun x => x)) (H6.out.below hb7) HL6.out.1 HLO.out.2 HLO.out.1 Q6.out (by simp)⟩
    · refine ⟨true, L6.getD 0 e0, v7, L7, rfl, fun h => (by cases h), TS.mk0 (B6.out.trans (k5.below B6.out.size (fun b h9 => ?_))) (R6.out.but k5 HN6.out) k1 k2 HLO.out.2 HLO.out.1 (Q6.out.take HL6.out.1 k4) (by have := HL6.out.2; omega)⟩
      rcases h9 with rfl | h9
      · exact HLO.out.1
      · exact (H6.out.o.lt b h9).1
  clear hT Q6 B6 R6 H6 HL6 HN6
  obtain ⟨ok7, x7, v7, L7, rfl, hz7, hT7⟩ := T7
  have T8 : Hid (TS w (w7.alloc (.cells #[.int .i64 x7.a, .int .i64 x7.b, .int .i64 x7.t] 32)) gb hb w7.heap.size n G in0 v7 L7 (.slice none 0 0) [] ok7 x7) := hT7
  have HZ7 : Hid (ok7 = false → L7 = []) := hz7
  clear hT7 hz7
  obtain ⟨xa, xb, xt⟩ := x7
  simp only at T8
  go_wp2_with fail
  generalize (w7.alloc (.cells #[.int .i64 xa, .int .i64 xb, .int .i64 xt] 32)) = W8 at *
  generalize w7.heap.size = eb8 at *
  go_loopw [6, 7, 8] (fun t6 t7 t8 wr => ∃ (eb : Nat) (ins : Nat → Bool) (v : Value) (L : List ED) (l : List ED) (ok : Bool) (x : ED), t7 = .pointer (some ⟨eb, 0, none⟩) ∧ t8 = .bool ok ∧ (ok = false → L = []) ∧ TS w wr gb hb eb n G ins v L t6 l ok x) (fun t6 _ t8 wr => 2 * (17 * (n - lenOf t6) + hpLen wr hb) + okOf t8)
  case atStart => exact ⟨eb8, in0, v7, L7, [], ok7, ⟨xa, xb, xt⟩, rfl, rfl, HZ7.out, T8.out⟩
  case round =>
    clear T8 HZ7
    obtain ⟨eb, ins, v, L, l, ok, x, rfl, rfl, hz, hT⟩ := hrel
    have TW : Hid (TS w wr gb hb eb n G ins v L u6 l ok x) := hT
    have HZW : Hid (ok = false → L = []) := hz
    clear hT hz
    cases ok
    · have HL : Hid (L = []) := HZW.out rfl
      have TOLD : Hid (TreeOk w n G (.returned u6) wr) := ⟨u6, l, ins, rfl, TW.out.xb, TW.out.xo, TW.out.xt, TW.out.xt.end hn1 (by have := TW.out.xq; rw [HL.out] at this; exact this.end)⟩
      clear TW
      go_wp2
      go_ret
      exact TOLD.out
    · obtain ⟨p, t, hp, ht, hip, hx⟩ := TW.out.xq.qe rfl
      subst hx
      have HLN : Hid (l.length + 1 ≤ n) := TW.out.xt.len hn1
      have HMS : Hid (lenOf u6 = l.length ∧ hpLen wr hb = L.length) := ⟨by
        rcases own_kinds TW.out.xo with ⟨h1, h2⟩ | ⟨g9, c9, h1, _⟩
        · rw [h1, h2]; rfl
        · rw [h1]; rfl, TW.out.xh.len⟩
      obtain ⟨y0, y1, y2⟩ := cells3 TW.out.xe
      have ci := TW.out.xr.ci (show t < 16 by omega)
      have eb1 : (edg G p t).b = (t : Int) := rfl
      rw [eb1] at y1
      have ht16 : (t : Int) < 16 := by omega
      obtain ⟨bi, HBI⟩ : ∃ b, Hid (ins t = b) := ⟨_, rfl⟩
      rw [HBI.out] at ci
      cases bi
      · have HBIX : Hid (ins t = false) := HBI.out
        clear HBIX
        have TA : Hid (TS w (wr.alloc (.cells #[.int .i64 (p : Int), .int .i64 (t : Int), .int .i64 (G p t)] 32)) gb hb eb n G ins v L u6 l true (edg G p t)) := TW.out.below ((Below.refl _ _).alloc (Nat.le_refl _) _)
        have VA : Hid ((wr.alloc (.cells #[.int .i64 (p : Int), .int .i64 (t : Int), .int .i64 (G p t)] 32)).heap[wr.heap.size]? = some (.cells #[.int .i64 (p : Int), .int .i64 (t : Int), .int .i64 (G p t)] 32 (0, 0))) := heap_alloc_new _ _
        have HBI0 : Hid (ins t = false) := HBI.out
        obtain ⟨m, HM⟩ : ∃ m, Hid (l.length = m) := ⟨_, rfl⟩
        obtain ⟨sa, sc, hu⟩ : ∃ sa sc, u6 = .slice sa m sc := by
          rcases own_kinds TW.out.xo with ⟨h1, h2⟩ | ⟨g9, c9, h1, _⟩
          · exact ⟨none, 0, by rw [h1, ← HM.out, h2]⟩
          · exact ⟨_, c9, by rw [h1, HM.out]⟩
        subst hu
        have hm16 : m ≤ 16 := by have := HLN.out; rw [HM.out] at this; omega
        have eyt : (edg G p t).a = (p : Int) ∧ (edg G p t).t = G p t := ⟨rfl, rfl⟩
        rw [eyt.1] at y0
        rw [eyt.2] at y2
        have OA : Hid ((wr.alloc (.cells #[.int .i64 (p : Int), .int .i64 (t : Int), .int .i64 (G p t)] 32)).ownsRow w.heap.size 32 3 (.slice sa m sc) m ((flE l).map (Value.int .i64))) := by have := TA.out.xo; rw [HM.out] at this; exact this
        clear TW HZW eyt HBI eb1
        go_wp2_with (
          at_builtin
          refine append_vals Try.underlying28 infoEd rfl (by decide) _ rfl _ _ rfl w.heap.size _ m ((flE l).map (Value.int .i64)) rfl OA.out wr.heap.size 0 1 1 [Value.int .i64 (p : Int), .int .i64 (t : Int), .int .i64 (G p t)] rfl rfl (cellsE_at _ _ _ _ _ _ VA.out) (by intro u hu; simp only [List.mem_cons, List.not_mem_nil, or_false] at hu; rcases hu with rfl | rfl | rfl <;> rfl) (by omega) (by omega) TA.out.xb.size ?_
          intro v' w4 ho4 hg4 hb4 hz4
          have A4 : Hid _ := TA.out.app hg4 (by rw [HM.out]; exact ho4) hb4
          clear ho4 hg4 hb4 hz4 y0 y1 y2 ci
          obtain ⟨y0, y1, y2⟩ := cells3 A4.out.2.2.2.1
          have ey : (edg G p t).b = (t : Int) := rfl
          rw [ey] at y1)
        clear y0 y1 y2 ey
        refine (enter_any w.heap.size gb hb n t G ins v L w4 A4.out.2.1 A4.out.2.2.1 TA.out.xp ht hn16 (by have := TA.out.xn; have := HLN.out; omega) A4.out.1.size TA.out.sepG).mono ?_
        rintro e w5 ⟨rfl, v5, L5, hE⟩
        have HL5 : Hid (L5.length ≤ L.length + 16) := by have := hE.l; show _ ≤ _; omega
        have T1 : Hid (TS w w5 gb hb eb n G (inS ins t) v5 L5 v' (l ++ [edg G p t]) false (edg G p t)) := TA.out.enter hp ht hn16 hip HBI0.out A4.out hE
        have HLN5 : Hid ((l ++ [edg G p t]).length = m + 1 ∧ m + 2 ≤ n) := by
          have h1 := T1.out.xt.len hn1
          have h2 : (l ++ [edg G p t]).length = m + 1 := by rw [List.length_append, HM.out]; rfl
          rw [h2] at h1
          exact ⟨h2, h1⟩
        have HLV : Hid (lenOf v' = m + 1) := by
          show _ = _
          rw [← HLN5.out.1]
          rcases own_kinds T1.out.xo with ⟨h1, h2⟩ | ⟨g9, c9, h1, _⟩
          · rw [h1, h2]; rfl
          · rw [h1]; rfl
        clear hE TA VA OA A4
        have T2 : Hid (TS w (w5.alloc (.cells #[.int .i64 (p : Int), .int .i64 (t : Int), .int .i64 (G p t)] 32)) gb hb w5.heap.size n G (inS ins t) v5 L5 v' (l ++ [edg G p t]) false (edg G p t)) := T1.out.box
        have cq2 := (T2.out.xr.c).2
        have cqX := (T1.out.xr.c).2
        obtain ⟨y0, y1, y2⟩ := cells3 T1.out.xe
        have ey : (edg G p t).a = (p : Int) ∧ (edg G p t).b = (t : Int) ∧ (edg G p t).t = G p t := ⟨rfl, rfl, rfl⟩
        rw [ey.1] at y0
        rw [ey.2.1] at y1
        rw [ey.2.2] at y2
        have CT := take_any w.heap.size hb v5 L5 (w5.alloc (.cells #[.int .i64 (p : Int), .int .i64 (t : Int), .int .i64 (G p t)] 32)) T2.out.xh T2.out.xp (by have := T1.out.xn; have := HLN5.out; omega)
        clear ey
        go_wp2_with fail
        refine CT.mono ?_
        clear CT cq2 cqX y0 y1 y2 T1
        rintro e w9 (⟨h0, rfl, hb9⟩ | ⟨h0, rfl, hp9⟩)
        · have T9 : Hid (TS w (((w9.setCell ⟨w5.heap.size, 0, none⟩ (.int .i64 0)).setCell ⟨w5.heap.size, 1, none⟩ (.int .i64 0)).setCell ⟨w5.heap.size, 2, none⟩ (.int .i64 0)) gb hb w5.heap.size n G (inS ins t) v5 [] v' (l ++ [edg G p t]) false e0) := by
            have h9 := T2.out
            rw [h0] at h9
            exact h9.gone hb9
          have E9 : Hid (w9.heap[w5.heap.size]? = _) := below_row hb9 (row_lt T2.out.xe) T2.out.xe
          clear hb9 T2 h0
          obtain ⟨z0, z1, z2⟩ := cells3 E9.out
          have zf := fun i => frozen_of_row _ _ i _ _ E9.out
          go_wp2_with fail
          clear z0 z1 z2 zf
          generalize (((w9.setCell ⟨w5.heap.size, 0, none⟩ (.int .i64 0)).setCell ⟨w5.heap.size, 1, none⟩ (.int .i64 0)).setCell ⟨w5.heap.size, 2, none⟩ (.int .i64 0)) = W9 at *
          generalize w5.heap.size = e9 at *
          go_roundw
          case rel => exact ⟨e9, (inS ins t), v5, [], (l ++ [edg G p t]), false, e0, rfl, rfl, fun _ => rfl, T9.out⟩
          case measure => rw [HLV.out, T9.out.xh.len, HMS.out.1, HMS.out.2, HM.out]; have := HLN5.out; simp [okOf]; omega
        · have E9 : Hid (w9.heap[w5.heap.size]? = _) := T2.out.kept hp9
          obtain ⟨v9, L9, hT9, hl9⟩ := T2.out.take hp9
          obtain ⟨x9, HX9⟩ : ∃ x, Hid ((L5).getD 0 e0 = x) := ⟨_, rfl⟩
          unfold topE
          rw [HX9.out] at hT9 ⊢
          obtain ⟨xa9, xb9, xt9⟩ := x9
          simp only at hT9
          have T9 : Hid (TS w (((w9.setCell ⟨w5.heap.size, 0, none⟩ (.int .i64 xa9)).setCell ⟨w5.heap.size, 1, none⟩ (.int .i64 xb9)).setCell ⟨w5.heap.size, 2, none⟩ (.int .i64 xt9)) gb hb w5.heap.size n G (inS ins t) v9 L9 v' (l ++ [edg G p t]) true ⟨xa9, xb9, xt9⟩) := hT9
          have HL9 : Hid (L9.length + 1 = (L5).length) := hl9
          clear hT9 hl9 hp9 T2 h0 HX9
          obtain ⟨z0, z1, z2⟩ := cells3 E9.out
          have zf := fun i => frozen_of_row _ _ i _ _ E9.out
          go_wp2_with fail
          clear z0 z1 z2 zf
          generalize (((w9.setCell ⟨w5.heap.size, 0, none⟩ (.int .i64 xa9)).setCell ⟨w5.heap.size, 1, none⟩ (.int .i64 xb9)).setCell ⟨w5.heap.size, 2, none⟩ (.int .i64 xt9)) = W9 at *
          generalize w5.heap.size = e9 at *
          go_roundw
          case rel => exact ⟨e9, (inS ins t), v9, L9, (l ++ [edg G p t]), true, ⟨xa9, xb9, xt9⟩, rfl, rfl, fun h => (by cases h), T9.out⟩
          case measure => rw [HLV.out, T9.out.xh.len, HMS.out.1, HMS.out.2, HM.out]; have := HL9.out; have := HL5.out; have := HLN5.out; simp only [okOf]; omega
      · have T1 : Hid (TS w wr gb hb eb n G ins v L u6 l false (edg G p t)) := by
          have h9 := TW.out
          exact ⟨h9.xb, h9.xr, h9.xh, h9.xp, h9.xe, h9.xo, h9.x1, h9.x2, h9.x3, h9.xl, h9.xt, h9.xq.skip HBI.out, h9.xn⟩
        clear TW HZW y0 y1 y2 eb1
        have T2 : Hid (TS w (wr.alloc (.cells #[.int .i64 (p : Int), .int .i64 (t : Int), .int .i64 (G p t)] 32)) gb hb wr.heap.size n G ins v L u6 l false (edg G p t)) := T1.out.box
        have cq2 := (T2.out.xr.c).2
        have cqX := (T1.out.xr.c).2
        obtain ⟨y0, y1, y2⟩ := cells3 T1.out.xe
        have ey : (edg G p t).a = (p : Int) ∧ (edg G p t).b = (t : Int) ∧ (edg G p t).t = G p t := ⟨rfl, rfl, rfl⟩
        rw [ey.1] at y0
        rw [ey.2.1] at y1
        rw [ey.2.2] at y2
        have CT := take_any w.heap.size hb v L (wr.alloc (.cells #[.int .i64 (p : Int), .int .i64 (t : Int), .int .i64 (G p t)] 32)) T2.out.xh T2.out.xp (by have := T1.out.xn; have := HLN.out; omega)
        clear ey
        go_wp2_with fail
        refine CT.mono ?_
        clear CT cq2 cqX y0 y1 y2 T1
        rintro e w9 (⟨h0, rfl, hb9⟩ | ⟨h0, rfl, hp9⟩)
        · have T9 : Hid (TS w (((w9.setCell ⟨wr.heap.size, 0, none⟩ (.int .i64 0)).setCell ⟨wr.heap.size, 1, none⟩ (.int .i64 0)).setCell ⟨wr.heap.size, 2, none⟩ (.int .i64 0)) gb hb wr.heap.size n G ins v [] u6 l false e0) := by
            have h9 := T2.out
            rw [h0] at h9
            exact h9.gone hb9
          have E9 : Hid (w9.heap[wr.heap.size]? = _) := below_row hb9 (row_lt T2.out.xe) T2.out.xe
          clear hb9 T2 h0
          obtain ⟨z0, z1, z2⟩ := cells3 E9.out
          have zf := fun i => frozen_of_row _ _ i _ _ E9.out
          go_wp2_with fail
          clear z0 z1 z2 zf
          generalize (((w9.setCell ⟨wr.heap.size, 0, none⟩ (.int .i64 0)).setCell ⟨wr.heap.size, 1, none⟩ (.int .i64 0)).setCell ⟨wr.heap.size, 2, none⟩ (.int .i64 0)) = W9 at *
          generalize wr.heap.size = e9 at *
          go_roundw
          case rel => exact ⟨e9, ins, v, [], l, false, e0, rfl, rfl, fun _ => rfl, T9.out⟩
          case measure => rw [HMS.out.1, T9.out.xh.len, HMS.out.2]; simp [okOf]; omega
        · have E9 : Hid (w9.heap[wr.heap.size]? = _) := T2.out.kept hp9
          obtain ⟨v9, L9, hT9, hl9⟩ := T2.out.take hp9
          obtain ⟨x9, HX9⟩ : ∃ x, Hid ((L).getD 0 e0 = x) := ⟨_, rfl⟩
          unfold topE
          rw [HX9.out] at hT9 ⊢
          obtain ⟨xa9, xb9, xt9⟩ := x9
          simp only at hT9
          have T9 : Hid (TS w (((w9.setCell ⟨wr.heap.size, 0, none⟩ (.int .i64 xa9)).setCell ⟨wr.heap.size, 1, none⟩ (.int .i64 xb9)).setCell ⟨wr.heap.size, 2, none⟩ (.int .i64 xt9)) gb hb wr.heap.size n G ins v9 L9 u6 l true ⟨xa9, xb9, xt9⟩) := hT9
          have HL9 : Hid (L9.length + 1 = (L).length) := hl9
          clear hT9 hl9 hp9 T2 h0 HX9
          obtain ⟨z0, z1, z2⟩ := cells3 E9.out
          have zf := fun i => frozen_of_row _ _ i _ _ E9.out
          go_wp2_with fail
          clear z0 z1 z2 zf
          generalize (((w9.setCell ⟨wr.heap.size, 0, none⟩ (.int .i64 xa9)).setCell ⟨wr.heap.size, 1, none⟩ (.int .i64 xb9)).setCell ⟨wr.heap.size, 2, none⟩ (.int .i64 xt9)) = W9 at *
          generalize wr.heap.size = e9 at *
          go_roundw
          case rel => exact ⟨e9, ins, v9, L9, l, true, ⟨xa9, xb9, xt9⟩, rfl, rfl, fun h => (by cases h), T9.out⟩
          case measure => rw [HMS.out.1, T9.out.xh.len, HMS.out.2]; have := HL9.out; simp only [okOf]; omega

end Go.Proofs.Ytaehhlkpbhmdfaa
