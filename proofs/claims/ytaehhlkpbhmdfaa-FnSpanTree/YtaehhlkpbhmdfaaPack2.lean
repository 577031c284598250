import Derived.Test.YtaehhlkpbhmdfaaPack0
import Derived.Test.YtaehhlkpbhmdfaaPack1
import Derived.Deep.RegionLaw
import Derived.WalkKit
import Derived.Deep.RegionHeld3
namespace Go.Proofs.Ytaehhlkpbhmdfaa
open Go.RowKit

theorem inf_parts {E : TypeId} {z : Value} {size bytes : Nat} (h : (Try.prog.info? E).map (fun i => (i.zero, i.size, i.bytes)) = some (some z, size, bytes)) : ∃ i0, Try.prog.info? E = some i0 ∧ i0.zero = some z ∧ i0.size = size ∧ i0.bytes = bytes := by
  cases hq : Try.prog.info? E with
  | none => rw [hq] at h; simp at h
  | some i0 =>
    rw [hq] at h
    simp only [Option.map_some, Option.some.injEq, Prod.mk.injEq] at h
    exact ⟨i0, rfl, h.1, h.2.1, h.2.2⟩
theorem add_plain (b off j : Nat) : (⟨b, off, none⟩ : Addr).add j = ⟨b, off + j, none⟩ := by unfold Addr.add; split <;> simp_all

/-- 'append' of elements of any kind (size cells each) to a slice of the call's own. -/
theorem append_vals {T E : TypeId} {z : Value} {size bytes : Nat} (ht : Try.prog.underlying T = some (.slice E)) (hinf : (Try.prog.info? E).map (fun i => (i.zero, i.size, i.bytes)) = some (some z, size, bytes)) (hzs : z.cells.size = size) (hsz : 0 < size)
    (w : World) {ops : Array Oper} {rest : List Oper} {o : Oper} {a : Act} {Q : Exit → Act → World → Prop}
    (hg : o.guard = none) (s x : Operand) (hop : o.op = Op.call { callee := Callee.builtin Builtin.append, args := #[s, x], argTypes := #[T, T] })
    (base : Nat) (v : Value) (k : Nat) (xs : List Value) (hs : a.eval s = v) (hown : w.ownsRow base E size v k xs) (b off m c : Nat) (ys : List Value) (hx : a.eval x = .slice (some ⟨b, off, none⟩) m c)
    (hy : ys.length = m * size) (hc : ∀ j u, ys[j]? = some u → w.cell? ⟨b, off + j, none⟩ = some u) (h1 : ∀ u ∈ ys, u.oneCell' = true) (h63 : k + m ≤ 70368744177663) (hbytes : (k + m) * bytes ≤ 140737488355328) (hb : base ≤ w.heap.size)
    (hK : ∀ v' w', w'.ownsRow base E size v' (k + m) (xs ++ ys) → w.grownBy w' v.ownBlock → (v'.ownBlock = v.ownBlock ∨ v'.ownBlock = some w.heap.size) → (v' = .slice none 0 0 ↔ v = .slice none 0 0 ∧ m = 0) → wpList Try.prog ops Q rest (a.put o.dst v') w') :
    wpList Try.prog ops Q (o :: rest) a w := by
  obtain ⟨i0, hi, hz0, hz1, hz2⟩ := inf_parts hinf
  have hnews : ∀ j u, ys[j]? = some u → w.cell? ((⟨b, off, none⟩ : Addr).add j) = some u := fun j u hu => by rw [add_plain]; exact hc j u hu
  obtain ⟨v', w', hrun, r1, r2, r3⟩ := run_append_own (P := Try.prog) w base T o.type _ i0 _ size bytes ht hi hz0 hz1 hz2 hzs hsz v k xs hown ⟨b, off, none⟩ m c ys hy hnews h1 (by unfold maxLen; omega) hbytes hb
  have r4 := append_blk (P := Try.prog) w base T o.type _ i0 _ size bytes ht hi hz0 hz1 hz2 v k xs hown ⟨b, off, none⟩ m c ys hy hnews h1 (by unfold maxLen; omega) hbytes hrun
  exact wpList_run v' hg (exec_app s x _ v _ hop hs hx hrun) (hK v' w' r1 r2 r4 r3)

/-- The same as a step of a region that draws. -/
theorem step_append_vals {T E : TypeId} {z : Value} {size bytes : Nat} (ht : Try.prog.underlying T = some (.slice E)) (hinf : (Try.prog.info? E).map (fun i => (i.zero, i.size, i.bytes)) = some (some z, size, bytes)) (hzs : z.cells.size = size) (hsz : 0 < size)
    {ops : Array Oper} {o : Oper} {a : Act} {w : World} {K : Act → World → Prop} {Q : Exit → Act → World → Prop} {Els : Prop}
    (hg : o.guard = none) (s x : Operand) (hop : o.op = Op.call { callee := Callee.builtin Builtin.append, args := #[s, x], argTypes := #[T, T] })
    (base : Nat) (v : Value) (k : Nat) (xs : List Value) (hs : a.eval s = v) (hown : w.ownsRow base E size v k xs) (b off m c : Nat) (ys : List Value) (hx : a.eval x = .slice (some ⟨b, off, none⟩) m c)
    (hy : ys.length = m * size) (hc : ∀ j u, ys[j]? = some u → w.cell? ⟨b, off + j, none⟩ = some u) (h1 : ∀ u ∈ ys, u.oneCell' = true) (h63 : k + m ≤ 70368744177663) (hbytes : (k + m) * bytes ≤ 140737488355328) (hb : base ≤ w.heap.size)
    (hK : ∀ v' w', w'.ownsRow base E size v' (k + m) (xs ++ ys) → w.grownBy w' v.ownBlock → (v'.ownBlock = v.ownBlock ∨ v'.ownBlock = some w.heap.size) → (v' = .slice none 0 0 ↔ v = .slice none 0 0 ∧ m = 0) → K (a.put o.dst v') w') :
    if Region.wanted o (yielded ops a.tmps) = true then Oper.wp Try.prog o a w K Q else Els := by
  have hw : Region.wanted o (yielded ops a.tmps) = true := by simp [Region.wanted, hg]
  rw [if_pos hw]
  obtain ⟨i0, hi, hz0, hz1, hz2⟩ := inf_parts hinf
  have hnews : ∀ j u, ys[j]? = some u → w.cell? ((⟨b, off, none⟩ : Addr).add j) = some u := fun j u hu => by rw [add_plain]; exact hc j u hu
  obtain ⟨v', w', hrun, r1, r2, r3⟩ := run_append_own (P := Try.prog) w base T o.type _ i0 _ size bytes ht hi hz0 hz1 hz2 hzs hsz v k xs hown ⟨b, off, none⟩ m c ys hy hnews h1 (by unfold maxLen; omega) hbytes hb
  have r4 := append_blk (P := Try.prog) w base T o.type _ i0 _ size bytes ht hi hz0 hz1 hz2 v k xs hown ⟨b, off, none⟩ m c ys hy hnews h1 (by unfold maxLen; omega) hbytes hrun
  unfold Oper.wp
  simp [execOp, hop, resolve, invoke, builtin, hs, hx, hrun, Result.andThen]
  exact hK _ _ r1 r2 r4 r3

end Go.Proofs.Ytaehhlkpbhmdfaa

namespace Go.Proofs.Ytaehhlkpbhmdfaa
open Go.RowKit

theorem grown_row {w w' : World} {row : Option Nat} {k : Nat} {o : Obj} (hg : w.grownBy w' row) (h : w.heap[k]? = some o) (hne : some k ≠ row) : w'.heap[k]? = some o := (hg.block k (row_lt h) hne).trans h

/-- What is owned of a row of numbers lies there. -/
theorem owns_ints {w : World} {base size g n cap : Nat} {e : TypeId} {zs : List Int} (h : w.ownsRow base e size (.slice (some ⟨g, 0, none⟩) n cap) n (zs.map (Value.int .i64))) : IntsAt w (some ⟨g, 0, none⟩) zs := by
  intro j hj
  refine ⟨g, 0, rfl, ?_⟩
  have := h.cells (g := g) rfl j (.int .i64 (zs.getD j 0)) (by simp [List.getD, hj])
  have hadd : (⟨g, 0, none⟩ : Addr).add j = ⟨g, 0 + j, none⟩ := by unfold Addr.add; split <;> simp_all
  rw [hadd] at this
  exact this

theorem owns_below {w w' : World} {base size n : Nat} {e : TypeId} {v : Value} {xs : List Value} (h : w.ownsRow base e size v n xs) (hb : Below w.heap.size w w') : w'.ownsRow base e size v n xs := by
  obtain ⟨h1, h2 | ⟨g, cap, cur, h2, h3, h4, h5⟩⟩ := h
  · exact ⟨h1, .inl h2⟩
  · exact ⟨h1, .inr ⟨g, cap, cur, h2, h3, below_row hb (row_lt h4) h4, h5⟩⟩

theorem own_some {w : World} {base k : Nat} {v : Value} {e : TypeId} {size : Nat} {xs : List Value} (h : w.ownsRow base e size v (k + 1) xs) : ∃ g c, v = .slice (some ⟨g, 0, none⟩) (k + 1) c ∧ base ≤ g := by
  obtain ⟨_, ⟨_, h2⟩ | ⟨g, cap, cur, h2, h3, _⟩⟩ := h
  · omega
  · exact ⟨g, cap, h2, h3⟩
theorem own_shape {w : World} {base k : Nat} {v : Value} {e : TypeId} {size : Nat} {xs : List Value} (h : w.ownsRow base e size v k xs) : v = .slice none 0 0 ∨ ∃ g c, v = .slice (some ⟨g, 0, none⟩) k c := by
  obtain ⟨_, ⟨h1, _⟩ | ⟨g, cap, cur, h2, _⟩⟩ := h
  · exact .inl h1
  · exact .inr ⟨g, cap, h2⟩
theorem owns_base {w : World} {base b0 k : Nat} {v : Value} {e : TypeId} {size : Nat} {xs : List Value} (h : w.ownsRow base e size v k xs) (hb : b0 ≤ base) : w.ownsRow b0 e size v k xs := by
  obtain ⟨h0, h1 | ⟨g, cap, cur, h2, h3, h4⟩⟩ := h
  · exact ⟨h0, .inl h1⟩
  · exact ⟨h0, .inr ⟨g, cap, cur, h2, Nat.le_trans hb h3, h4⟩⟩
theorem owns_set {w : World} {base k b i : Nat} {v u : Value} {e : TypeId} {size : Nat} {xs : List Value} (h : w.ownsRow base e size v k xs) (hb : b < base) : (w.setCell ⟨b, i, none⟩ u).ownsRow base e size v k xs := ownsRow_setCell_below h hb u
theorem owns_at1 {w : World} {base n : Nat} {e : TypeId} {sl : Value} {xs : List Int} (h : w.ownsRow base e 1 sl n (xs.map (Value.int .i64))) : ∃ a c, sl = .slice a xs.length c ∧ xs.length = n ∧ IntsAt w a xs := by
  obtain ⟨h1, ⟨rfl, h2⟩ | ⟨g, cap, cur, rfl, h3, h4, h5⟩⟩ := id h
  · subst h2
    have : xs = [] := by simpa using h1
    subst this
    exact ⟨none, 0, rfl, rfl, fun j hj => by simp at hj⟩
  · have hl : xs.length = n := by simpa using h1
    exact ⟨_, _, by rw [hl], hl, owns_ints h⟩

theorem cell_new1 (W : World) (v : Value) (T : TypeId) (g : Nat) (hg : W.heap.size = g) : (W.alloc (.cells #[v] T)).cell? ⟨g, 0, none⟩ = some v := by
  subst hg
  rw [cell_of_row _ _ 0 _ _ _ (heap_alloc_new W (.cells #[v] T))]
  simp
theorem one_cell {w : World} {ad : Addr} {x0 : Value} (hc : w.cell? ad = some x0) : ∀ j u, [x0][j]? = some u → w.cell? (ad.add j) = some u := by
  intro j u hu
  have hj : j = 0 := by
    rcases j with _ | j
    · rfl
    · simp at hu
  subst hj
  have : ad.add 0 = ad := by unfold Addr.add; split <;> simp_all
  rw [this, hc]
  simpa using hu
theorem append_int (w : World) {ops : Array Oper} {rest : List Oper} {o : Oper} {a : Act} {Q : Exit → Act → World → Prop}
    (hg : o.guard = none) (s x : Operand) (hop : o.op = Op.call { callee := Callee.builtin Builtin.append, args := #[s, x], argTypes := #[24, 24] })
    (base : Nat) (v : Value) (k : Nat) (xs : List Value) (hs : a.eval s = v) (hown : w.ownsRow base 2 1 v k xs) (ad : Addr) (c : Nat) (x0 : Value) (hx : a.eval x = .slice (some ad) 1 c)
    (hc : w.cell? ad = some x0) (h1c : x0.oneCell' = true) (b1 : k ≤ 1000) (hb : base ≤ w.heap.size)
    (hK : ∀ v' w', w'.ownsRow base 2 1 v' (k + 1) (xs ++ [x0]) → w.grownBy w' v.ownBlock → wpList Try.prog ops Q rest (a.put o.dst v') w') :
    wpList Try.prog ops Q (o :: rest) a w := by
  obtain ⟨i0, hi, hz0, hz1, hz2⟩ := info_parts Try.info2
  exact wpList_append_own w hg s x _ hop base _ i0 _ 1 8 Try.underlying24 hi hz0 hz1 hz2 rfl (by decide) v k xs hs hown ad 1 c [x0] hx rfl (one_cell hc) (by simpa using h1c) (by unfold maxLen; omega) (by omega) hb (fun v' w' h1 h2 _ => hK v' w' h1 h2)

/-- 'append' of a number to a slice of the call's own, as a step of a region that draws. -/
theorem step_append_int {ops : Array Oper} {o : Oper} {a : Act} {w : World} {K : Act → World → Prop} {Q : Exit → Act → World → Prop} {E : Prop}
    (hg : o.guard = none) (s x : Operand) (hop : o.op = Op.call { callee := Callee.builtin Builtin.append, args := #[s, x], argTypes := #[24, 24] })
    (base : Nat) (v : Value) (k : Nat) (xs : List Value) (hs : a.eval s = v) (hown : w.ownsRow base 2 1 v k xs) (ad : Addr) (c : Nat) (x0 : Value) (hx : a.eval x = .slice (some ad) 1 c)
    (hc : w.cell? ad = some x0) (h1c : x0.oneCell' = true) (b1 : k ≤ 1000) (hb : base ≤ w.heap.size)
    (hK : ∀ v' w', w'.ownsRow base 2 1 v' (k + 1) (xs ++ [x0]) → w.grownBy w' v.ownBlock → K (a.put o.dst v') w') :
    if Region.wanted o (yielded ops a.tmps) = true then Oper.wp Try.prog o a w K Q else E := by
  have hw : Region.wanted o (yielded ops a.tmps) = true := by simp [Region.wanted, hg]
  rw [if_pos hw]
  obtain ⟨i0, hi, hz0, hz1, hz2⟩ := info_parts Try.info2
  obtain ⟨v', w', hrun, r1, r2, _⟩ := run_append_own (P := Try.prog) w base 24 o.type _ i0 _ 1 8 Try.underlying24 hi hz0 hz1 hz2 rfl (by decide) v k xs hown ad 1 c [x0] rfl (one_cell hc) (by simpa using h1c) (by unfold maxLen; omega) (by omega) hb
  unfold Oper.wp
  simp [execOp, hop, resolve, invoke, builtin, hs, hx, hrun, Result.andThen]
  exact hK _ _ r1 r2

end Go.Proofs.Ytaehhlkpbhmdfaa

namespace Go.Proofs.Ytaehhlkpbhmdfaa
open Go.RowKit

/-- w' is w with new blocks, and with writes to the blocks of S alone. -/
structure GrownBut (S : Nat → Prop) (w w' : World) : Prop where
  os : w'.os = w.os
  tape : w'.tape = w.tape
  output : w'.output = w.output
  size : w.heap.size ≤ w'.heap.size
  block : ∀ b, b < w.heap.size → ¬ S b → w'.heap[b]? = w.heap[b]?
theorem GrownBut.of_below {S : Nat → Prop} {w w' : World} (h : Below w.heap.size w w') : GrownBut S w w' := ⟨h.os, h.tape, h.output, h.size, fun b hb _ => h.block b hb⟩
theorem GrownBut.of_grown {S : Nat → Prop} {w w' : World} {g : Nat} (h : w.grownBy w' (some g)) (hs : S g) : GrownBut S w w' := ⟨h.os, h.tape, h.output, h.size, fun b hb hn => h.block b hb (fun e => by cases e; exact hn hs)⟩
theorem GrownBut.trans {S : Nat → Prop} {w w1 w2 : World} (h : GrownBut S w w1) (k : GrownBut S w1 w2) : GrownBut S w w2 :=
  ⟨k.os.trans h.os, k.tape.trans h.tape, k.output.trans h.output, Nat.le_trans h.size k.size, fun b hb hn => (k.block b (Nat.lt_of_lt_of_le hb h.size) hn).trans (h.block b hb hn)⟩
theorem GrownBut.mono {S S' : Nat → Prop} {w w' : World} (h : GrownBut S w w') (hs : ∀ b, S b → S' b) : GrownBut S' w w' := ⟨h.os, h.tape, h.output, h.size, fun b hb hn => h.block b hb (fun x => hn (hs b x))⟩
theorem GrownBut.below {S : Nat → Prop} {w w' : World} {B : Nat} (h : GrownBut S w w') (hB : B ≤ w.heap.size) (hs : ∀ b, S b → B ≤ b) : Below B w w' :=
  ⟨h.os, h.tape, h.output, h.size, fun b hb => h.block b (by omega) (fun x => by have := hs b x; omega)⟩
theorem GrownBut.row {S : Nat → Prop} {w w' : World} {k : Nat} {o : Obj} (h : GrownBut S w w') (hr : w.heap[k]? = some o) (hn : ¬ S k) : w'.heap[k]? = some o := (h.block k (row_lt hr) hn).trans hr
theorem GrownBut.owns {S : Nat → Prop} {w w' : World} {base size k : Nat} {e : TypeId} {v : Value} {xs : List Value} (h : GrownBut S w w') (ho : w.ownsRow base e size v k xs) (hs : ∀ b, S b → b < base) : w'.ownsRow base e size v k xs := by
  obtain ⟨h1, h2 | ⟨g, cap, cur, h2, h3, h4, h5⟩⟩ := ho
  · exact ⟨h1, .inl h2⟩
  · exact ⟨h1, .inr ⟨g, cap, cur, h2, h3, h.row h4 (fun x => by have := hs g x; omega), h5⟩⟩
theorem type_ne {w : World} {g k : Nat} {c1 c2 : Array Value} {T1 T2 : TypeId} (h1 : w.heap[g]? = some (.cells c1 T1 (0, 0))) (h2 : w.heap[k]? = some (.cells c2 T2 (0, 0))) (hT : T1 ≠ T2) : g ≠ k := by
  intro e
  rw [e, h2] at h1
  cases h1
  exact hT rfl

end Go.Proofs.Ytaehhlkpbhmdfaa

namespace Go.Proofs.Ytaehhlkpbhmdfaa
open Go.RowKit

/-- The queue in its box: its edges are a row of the call's own. -/
structure HP (w : World) (B hb : Nat) (v : Value) (L : List ED) : Prop where
  b : w.heap[hb]? = some (.cells #[v] 60 (0, 0))
  o : w.ownsRow B 32 3 v L.length ((flE L).map (Value.int .i64))
theorem HP.below {w w' : World} {B hb : Nat} {v : Value} {L : List ED} (h : HP w B hb v L) (hb' : Below w.heap.size w w') : HP w' B hb v L := ⟨below_row hb' (row_lt h.b) h.b, owns_below h.o hb'⟩
theorem HP.cell {w : World} {B hb : Nat} {v : Value} {L : List ED} (h : HP w B hb v L) : w.cell? ⟨hb, 0, none⟩ = some v := by rw [cell_of_row _ _ _ _ _ _ h.b]; rfl
theorem HP.at {w : World} {B hb g n c : Nat} {L : List ED} (h : HP w B hb (.slice (some ⟨g, 0, none⟩) n c) L) (k : Nat) (hk : k < L.length) : w.cell? ⟨g, k * 3, none⟩ = some (.int .i64 (L.getD k e0).a) ∧ w.cell? ⟨g, k * 3 + 1, none⟩ = some (.int .i64 (L.getD k e0).b) ∧ w.cell? ⟨g, k * 3 + 2, none⟩ = some (.int .i64 (L.getD k e0).t) := by
  obtain ⟨h1, h2, h3⟩ := flE_at L k hk
  exact ⟨(own_cellV h.o (by rw [List.getElem?_map, h1]; rfl)).1, (own_cellV h.o (by rw [List.getElem?_map, h2]; rfl)).1, (own_cellV h.o (by rw [List.getElem?_map, h3]; rfl)).1⟩
theorem HP.sl {w : World} {B hb : Nat} {v : Value} {L : List ED} (h : HP w B hb v L) (hn : 0 < L.length) : ∃ g c, v = .slice (some ⟨g, 0, none⟩) L.length c ∧ B ≤ g ∧ g < w.heap.size := by
  rcases own_kinds h.o with ⟨_, h2⟩ | h2
  · omega
  · exact h2
theorem HP.any {w : World} {B hb : Nat} {v : Value} {L : List ED} (h : HP w B hb v L) : ∃ a c, v = .slice a L.length c := by
  rcases own_kinds h.o with ⟨h1, h2⟩ | ⟨g, c, h2, _⟩
  · exact ⟨none, 0, by rw [h1, h2]⟩
  · exact ⟨_, c, h2⟩

set_option maxHeartbeats 400000 in
theorem heapLen_any (B hb : Nat) (v : Value) (L : List ED) (w : World) (h : HP w B hb v L) :
    Calls Try.prog 74 #[.pointer (some ⟨hb, 0, none⟩)] w fun e w' => e = .returned (.int .i64 L.length) ∧ w' = w := by
  obtain ⟨a, c, e⟩ := h.any
  have c0 := h.cell
  subst e
  generalize L.length = n at *
  clear h
  go_enter Try.func74, Try.ntmps74
  go_wp2
  go_ret
  exact ⟨rfl, rfl⟩

/-- The first of three numbers that is not 0. -/
def orV (x y z : Int) : Int := if x ≠ 0 then x else if y ≠ 0 then y else z
theorem orV_cmp (x y : ED) : decide (orV (cmpV x.t y.t) (cmpV x.a y.a) (cmpV x.b y.b) < 0) = ltB x y := by
  have hc : ∀ p q : Int, (cmpV p q = -1 ∧ p < q) ∨ (cmpV p q = 1 ∧ q < p) ∨ (cmpV p q = 0 ∧ p = q) := fun p q => by unfold cmpV; split; exact .inl ⟨rfl, by assumption⟩; split; exact .inr (.inl ⟨rfl, by assumption⟩); exact .inr (.inr ⟨rfl, by omega⟩)
  unfold ltB
  rcases hc x.t y.t with ⟨h1, h2⟩ | ⟨h1, h2⟩ | ⟨h1, h2⟩
  · rw [h1]
    have : orV (-1) (cmpV x.a y.a) (cmpV x.b y.b) = -1 := by unfold orV; simp
    rw [this]
    apply decide_eq_decide.2
    omega
  · rw [h1]
    have : orV 1 (cmpV x.a y.a) (cmpV x.b y.b) = 1 := by unfold orV; simp
    rw [this]
    apply decide_eq_decide.2
    omega
  · rw [h1]
    rcases hc x.a y.a with ⟨k1, k2⟩ | ⟨k1, k2⟩ | ⟨k1, k2⟩
    · rw [k1]
      have : orV 0 (-1) (cmpV x.b y.b) = -1 := by unfold orV; simp
      rw [this]
      apply decide_eq_decide.2
      omega
    · rw [k1]
      have : orV 0 1 (cmpV x.b y.b) = 1 := by unfold orV; simp
      rw [this]
      apply decide_eq_decide.2
      omega
    · rw [k1]
      have : orV 0 0 (cmpV x.b y.b) = cmpV x.b y.b := by unfold orV; simp
      rw [this]
      rcases hc x.b y.b with ⟨m1, m2⟩ | ⟨m1, m2⟩ | ⟨m1, m2⟩ <;> rw [m1] <;> apply decide_eq_decide.2 <;> omega

set_option maxHeartbeats 1000000 in
theorem cmpOr_any (g c : Nat) (x y z : Int) (w : World) (h0 : w.cell? ⟨g, 0, none⟩ = some (.int .i64 x)) (h1 : w.cell? ⟨g, 1, none⟩ = some (.int .i64 y)) (h2 : w.cell? ⟨g, 2, none⟩ = some (.int .i64 z)) :
    Calls Try.prog 87 #[.slice (some ⟨g, 0, none⟩) 3 c] w fun e w' => e = .returned (.int .i64 (orV x y z)) ∧ w' = w := by
  obtain ⟨r, HR⟩ : ∃ r, Hid (orV x y z = r) := ⟨_, rfl⟩
  rw [HR.out]
  go_enter Try.func87, Try.ntmps87
  go_wp2_with fail
  go_loop [5, 8] (fun _ t => ∃ k : Nat, k ≤ 3 ∧ t = .int .i64 k ∧ (0 < k → x = 0) ∧ (1 < k → y = 0) ∧ (2 < k → z = 0)) (fun _ t => 3 - (intOf t).toNat)
  case atStart => exact ⟨0, by omega, rfl, by omega, by omega, by omega⟩
  case round =>
    obtain ⟨k, hk, rfl, hx, hy, hz⟩ := hrel
    have HX : Hid ((0 < k → x = 0) ∧ (1 < k → y = 0) ∧ (2 < k → z = 0)) := ⟨hx, hy, hz⟩
    clear hx hy hz
    by_cases hlt : k < 3
    · obtain ⟨u, hu, HU⟩ : ∃ u : Int, w.cell? ⟨g, k, none⟩ = some (.int .i64 u) ∧ Hid ((u ≠ 0 → orV x y z = u) ∧ (u = 0 → (0 < k + 1 → x = 0) ∧ (1 < k + 1 → y = 0) ∧ (2 < k + 1 → z = 0))) := by
        obtain ⟨e1, e2, e3⟩ := HX.out
        rcases (show k = 0 ∨ k = 1 ∨ k = 2 by omega) with rfl | rfl | rfl
        · exact ⟨x, h0, ⟨fun hu => by unfold orV; rw [if_pos hu], fun hu => ⟨fun _ => hu, fun h => by omega, fun h => by omega⟩⟩⟩
        · have ex := e1 (by omega)
          exact ⟨y, h1, ⟨fun hu => by unfold orV; rw [if_neg (by rw [ex]; simp), if_pos hu], fun hu => ⟨fun _ => ex, fun _ => hu, fun h => by omega⟩⟩⟩
        · have ex := e1 (by omega)
          have ey := e2 (by omega)
          exact ⟨z, h2, ⟨fun hu => by unfold orV; rw [if_neg (by rw [ex]; simp), if_neg (by rw [ey]; simp)], fun hu => ⟨fun _ => ex, fun _ => ey, fun _ => hu⟩⟩⟩
      have hltI : (k : Int) < 3 := by omega
      clear h0 h1 h2 HX
      by_cases hu0 : u = 0
      · have hb : (u != 0) = false := by simp [hu0]
        have HN : Hid ((0 < k + 1 → x = 0) ∧ (1 < k + 1 → y = 0) ∧ (2 < k + 1 → z = 0)) := HU.out.2 hu0
        clear hu0
        go_wp2_with fail
        go_round
        case rel => exact ⟨k + 1, by omega, by go_num, HN.out⟩
        case measure => simp [intOf]; omega
      · have hb : (u != 0) = true := by simp [hu0]
        have HN : Hid (r = u) := HR.out.symm.trans (HU.out.1 hu0)
        clear hu0
        go_wp2
        go_ret
        exact ⟨ret_int HN.out.symm, rfl⟩
    · have hk3 : k = 3 := by omega
      obtain ⟨e1, e2, e3⟩ := HX.out
      have HN : Hid (r = 0) := by
        show _ = _
        rw [← HR.out, e1 (by omega), e2 (by omega), e3 (by omega)]
        rfl
      clear HX e1 e2 e3 h0 h1 h2
      subst hk3
      go_wp2
      go_ret
      exact ⟨ret_int HN.out.symm, rfl⟩

set_option maxRecDepth 10000 in
set_option maxHeartbeats 4000000 in
theorem less_any (B hb g n c i j : Nat) (L : List ED) (w : World) (h : HP w B hb (.slice (some ⟨g, 0, none⟩) n c) L) (hl : L.length = n) (hi : i < n) (hj : j < n) :
    Calls Try.prog 83 #[.pointer (some ⟨hb, 0, none⟩), .int .i64 i, .int .i64 j] w fun e w' => e = .returned (.bool (ltB (L.getD i e0) (L.getD j e0))) ∧ Below w.heap.size w w' := by
  have c0 := h.cell
  obtain ⟨a0, a1, a2⟩ := h.at i (by omega)
  obtain ⟨b0, b1, b2⟩ := h.at j (by omega)
  rw [← orV_cmp]
  generalize L.getD i e0 = x at *
  generalize L.getD j e0 = y at *
  obtain ⟨xa, xb, xt⟩ := x
  obtain ⟨ya, yb, yt⟩ := y
  simp only at a0 a1 a2 b0 b1 b2 ⊢
  have hiI : (i : Int) < (n : Int) := by omega
  have hjI : (j : Int) < (n : Int) := by omega
  clear h hl
  have kS := And.intro c0 (And.intro a0 (And.intro a1 (And.intro a2 (And.intro b0 (And.intro b1 b2)))))
  go_enter Try.func83, Try.ntmps83
  go_wp2_with fail
  go_region_held3 (fun W => W.cell? ⟨hb, 0, none⟩ = some (.slice (some ⟨g, 0, none⟩) n c) ∧ W.cell? ⟨g, i * 3, none⟩ = some (.int .i64 xa) ∧ W.cell? ⟨g, i * 3 + 1, none⟩ = some (.int .i64 xb) ∧ W.cell? ⟨g, i * 3 + 2, none⟩ = some (.int .i64 xt) ∧ W.cell? ⟨g, j * 3, none⟩ = some (.int .i64 ya) ∧ W.cell? ⟨g, j * 3 + 1, none⟩ = some (.int .i64 yb) ∧ W.cell? ⟨g, j * 3 + 2, none⟩ = some (.int .i64 yt)) (first | with_reducible exact kS | go_keep) ((fail))
  · have BA : Hid (Below w.heap.size w ((w.alloc (.cells #[.int .i64 xa, .int .i64 xb, .int .i64 xt] 32)).alloc (.cells #[.int .i64 ya, .int .i64 yb, .int .i64 yt] 32))) := ((Below.refl _ _).alloc (Nat.le_refl _) _).alloc (by simp) _
    have XA : Hid (((w.alloc (.cells #[.int .i64 xa, .int .i64 xb, .int .i64 xt] 32)).alloc (.cells #[.int .i64 ya, .int .i64 yb, .int .i64 yt] 32)).heap[w.heap.size]? = some (.cells #[.int .i64 xa, .int .i64 xb, .int .i64 xt] 32 (0, 0))) := heap_alloc2_old _ _ _
    have YA : Hid (((w.alloc (.cells #[.int .i64 xa, .int .i64 xb, .int .i64 xt] 32)).alloc (.cells #[.int .i64 ya, .int .i64 yb, .int .i64 yt] 32)).heap[(w.heap.size + 1)]? = some (.cells #[.int .i64 ya, .int .i64 yb, .int .i64 yt] 32 (0, 0))) := heap_alloc2_new _ _ _
    clear c0 a0 a1 a2 b0 b1 b2 kS
    generalize ((w.alloc (.cells #[.int .i64 xa, .int .i64 xb, .int .i64 xt] 32)).alloc (.cells #[.int .i64 ya, .int .i64 yb, .int .i64 yt] 32)) = W2 at *
    obtain ⟨x0, x1, x2⟩ := cells3 XA.out
    obtain ⟨y0, y1, y2⟩ := cells3 YA.out
    have kT := And.intro x0 (And.intro x1 (And.intro x2 (And.intro y0 (And.intro y1 y2))))
    go_wp2_with fail
    go_region_held3 (fun W => W.cell? ⟨w.heap.size, 0, none⟩ = some (.int .i64 xa) ∧ W.cell? ⟨w.heap.size, 1, none⟩ = some (.int .i64 xb) ∧ W.cell? ⟨w.heap.size, 2, none⟩ = some (.int .i64 xt) ∧ W.cell? ⟨(w.heap.size + 1), 0, none⟩ = some (.int .i64 ya) ∧ W.cell? ⟨(w.heap.size + 1), 1, none⟩ = some (.int .i64 yb) ∧ W.cell? ⟨(w.heap.size + 1), 2, none⟩ = some (.int .i64 yt)) (first | with_reducible exact kT | go_keep) ((first
      | (go_at_call 88
         with_reducible refine (compare_any _ _ _).mono ?_
         rintro e w' ⟨rfl, hw⟩
         subst hw)
      | (go_at_call 87
         with_reducible refine (cmpOr_any _ _ (cmpV xt yt) (cmpV xa ya) (cmpV xb yb) _ ?_ ?_ ?_).mono ?_
         · exact (cells3 (heap_alloc_new W2 (.cells #[.int .i64 (cmpV xt yt), .int .i64 (cmpV xa ya), .int .i64 (cmpV xb yb)] 3))).1
         · exact (cells3 (heap_alloc_new W2 (.cells #[.int .i64 (cmpV xt yt), .int .i64 (cmpV xa ya), .int .i64 (cmpV xb yb)] 3))).2.1
         · exact (cells3 (heap_alloc_new W2 (.cells #[.int .i64 (cmpV xt yt), .int .i64 (cmpV xa ya), .int .i64 (cmpV xb yb)] 3))).2.2
         rintro e w' ⟨rfl, hw⟩
         subst hw)))
    all_goals
      go_wp2
      go_ret
      exact ⟨rfl, by first | exact BA.out.alloc BA.out.size _ | exact (BA.out.alloc BA.out.size _).drew | exact (BA.out.alloc BA.out.size _).drew.drew | exact (BA.out.alloc BA.out.size _).drew.drew.drew | exact (BA.out.alloc BA.out.size _).drew.drew.drew.drew⟩
  · have BA : Hid (Below w.heap.size w ((w.alloc (.cells #[.int .i64 ya, .int .i64 yb, .int .i64 yt] 32)).alloc (.cells #[.int .i64 xa, .int .i64 xb, .int .i64 xt] 32))) := ((Below.refl _ _).alloc (Nat.le_refl _) _).alloc (by simp) _
    have XA : Hid (((w.alloc (.cells #[.int .i64 ya, .int .i64 yb, .int .i64 yt] 32)).alloc (.cells #[.int .i64 xa, .int .i64 xb, .int .i64 xt] 32)).heap[(w.heap.size + 1)]? = some (.cells #[.int .i64 xa, .int .i64 xb, .int .i64 xt] 32 (0, 0))) := heap_alloc2_new _ _ _
    have YA : Hid (((w.alloc (.cells #[.int .i64 ya, .int .i64 yb, .int .i64 yt] 32)).alloc (.cells #[.int .i64 xa, .int .i64 xb, .int .i64 xt] 32)).heap[w.heap.size]? = some (.cells #[.int .i64 ya, .int .i64 yb, .int .i64 yt] 32 (0, 0))) := heap_alloc2_old _ _ _
    clear c0 a0 a1 a2 b0 b1 b2 kS
    generalize ((w.alloc (.cells #[.int .i64 ya, .int .i64 yb, .int .i64 yt] 32)).alloc (.cells #[.int .i64 xa, .int .i64 xb, .int .i64 xt] 32)) = W2 at *
    obtain ⟨x0, x1, x2⟩ := cells3 XA.out
    obtain ⟨y0, y1, y2⟩ := cells3 YA.out
    have kT := And.intro x0 (And.intro x1 (And.intro x2 (And.intro y0 (And.intro y1 y2))))
    go_wp2_with fail
    go_region_held3 (fun W => W.cell? ⟨(w.heap.size + 1), 0, none⟩ = some (.int .i64 xa) ∧ W.cell? ⟨(w.heap.size + 1), 1, none⟩ = some (.int .i64 xb) ∧ W.cell? ⟨(w.heap.size + 1), 2, none⟩ = some (.int .i64 xt) ∧ W.cell? ⟨w.heap.size, 0, none⟩ = some (.int .i64 ya) ∧ W.cell? ⟨w.heap.size, 1, none⟩ = some (.int .i64 yb) ∧ W.cell? ⟨w.heap.size, 2, none⟩ = some (.int .i64 yt)) (first | with_reducible exact kT | go_keep) ((first
      | (go_at_call 88
         with_reducible refine (compare_any _ _ _).mono ?_
         rintro e w' ⟨rfl, hw⟩
         subst hw)
      | (go_at_call 87
         with_reducible refine (cmpOr_any _ _ (cmpV xt yt) (cmpV xa ya) (cmpV xb yb) _ ?_ ?_ ?_).mono ?_
         · exact (cells3 (heap_alloc_new W2 (.cells #[.int .i64 (cmpV xt yt), .int .i64 (cmpV xa ya), .int .i64 (cmpV xb yb)] 3))).1
         · exact (cells3 (heap_alloc_new W2 (.cells #[.int .i64 (cmpV xt yt), .int .i64 (cmpV xa ya), .int .i64 (cmpV xb yb)] 3))).2.1
         · exact (cells3 (heap_alloc_new W2 (.cells #[.int .i64 (cmpV xt yt), .int .i64 (cmpV xa ya), .int .i64 (cmpV xb yb)] 3))).2.2
         rintro e w' ⟨rfl, hw⟩
         subst hw)))
    all_goals
      go_wp2
      go_ret
      exact ⟨rfl, by first | exact BA.out.alloc BA.out.size _ | exact (BA.out.alloc BA.out.size _).drew | exact (BA.out.alloc BA.out.size _).drew.drew | exact (BA.out.alloc BA.out.size _).drew.drew.drew | exact (BA.out.alloc BA.out.size _).drew.drew.drew.drew⟩

end Go.Proofs.Ytaehhlkpbhmdfaa

namespace Go.Proofs.Ytaehhlkpbhmdfaa
open Go.RowKit

theorem HP.ne {w : World} {B hb g n c : Nat} {L : List ED} (h : HP w B hb (.slice (some ⟨g, 0, none⟩) n c) L) : hb ≠ g := by
  rcases h.o.2 with ⟨h1, _⟩ | ⟨g', c', cur, h1, _, h3, _⟩
  · cases h1
  · simp only [Value.slice.injEq, Option.some.injEq, Addr.mk.injEq, and_true] at h1
    obtain ⟨rfl, -, -⟩ := h1
    exact type_ne h.b h3 (by decide)
theorem flE_setV (L : List ED) (k : Nat) (e : ED) (hk : k < L.length) : (((((flE L).map (Value.int .i64)).set (k * 3) (.int .i64 e.a)).set (k * 3 + 1) (.int .i64 e.b)).set (k * 3 + 2) (.int .i64 e.t)) = (flE (L.set k e)).map (Value.int .i64) := by
  rcases flE_set L k e with h | h
  · rw [← h, List.map_set, List.map_set, List.map_set]
  · omega
theorem HP.set {w : World} {B hb g n c : Nat} {L : List ED} (h : HP w B hb (.slice (some ⟨g, 0, none⟩) n c) L) (k : Nat) (hk : k < L.length) (e : ED) : HP (((w.setCell ⟨g, k * 3, none⟩ (.int .i64 e.a)).setCell ⟨g, k * 3 + 1, none⟩ (.int .i64 e.b)).setCell ⟨g, k * 3 + 2, none⟩ (.int .i64 e.t)) B hb (.slice (some ⟨g, 0, none⟩) n c) (L.set k e) := by
  have hne := h.ne
  refine ⟨?_, ?_⟩
  · rw [heap_setCell_other _ _ _ _ (by simpa using hne), heap_setCell_other _ _ _ _ (by simpa using hne), heap_setCell_other _ _ _ _ (by simpa using hne)]
    exact h.b
  · rw [← flE_setV L k e hk, List.length_set]
    exact own_putV _ (own_putV _ (own_putV _ h.o))

set_option maxRecDepth 10000 in
set_option maxHeartbeats 4000000 in
theorem swap_any (B hb g n c i j : Nat) (L : List ED) (w : World) (h : HP w B hb (.slice (some ⟨g, 0, none⟩) n c) L) (hl : L.length = n) (hi : i < n) (hj : j < n) :
    Calls Try.prog 86 #[.pointer (some ⟨hb, 0, none⟩), .int .i64 i, .int .i64 j] w fun e w' => e = .returned (.tuple #[]) ∧ HP w' B hb (.slice (some ⟨g, 0, none⟩) n c) (swp L i j) ∧ w.grownBy w' (some g) := by
  have c0 := h.cell
  obtain ⟨a0, a1, a2⟩ := h.at i (by omega)
  obtain ⟨b0, b1, b2⟩ := h.at j (by omega)
  have HH : Hid (HP w B hb (.slice (some ⟨g, 0, none⟩) n c) L) := h
  obtain ⟨x, HX⟩ : ∃ x, Hid (L.getD i e0 = x) := ⟨_, rfl⟩
  obtain ⟨y, HY⟩ : ∃ x, Hid (L.getD j e0 = x) := ⟨_, rfl⟩
  rw [HX.out] at a0 a1 a2
  rw [HY.out] at b0 b1 b2
  obtain ⟨xa, xb, xt⟩ := x
  obtain ⟨ya, yb, yt⟩ := y
  simp only at a0 a1 a2 b0 b1 b2
  have hiI : (i : Int) < (n : Int) := by omega
  have hjI : (j : Int) < (n : Int) := by omega
  have HL : Hid (L.length = n) := hl
  clear h hl
  have kS := And.intro c0 (And.intro a0 (And.intro a1 (And.intro a2 (And.intro b0 (And.intro b1 b2)))))
  obtain ⟨cur, hrow, hcs⟩ : ∃ cur, w.heap[g]? = some (.cells cur 32 (0, 0)) ∧ n * 3 ≤ cur.size := by
    rcases HH.out.o.2 with ⟨h1, _⟩ | ⟨g', c', cur, h1, _, h3, h4, _, h6, _⟩
    · cases h1
    · simp only [Value.slice.injEq, Option.some.injEq, Addr.mk.injEq, and_true] at h1
      obtain ⟨rfl, h7, rfl⟩ := h1
      exact ⟨cur, h3, by rw [h6, h7]; exact Nat.mul_le_mul_right _ h4⟩
  have fz := fun k => frozen_of_row _ _ k _ _ hrow
  have ex : ∀ (W : World) (cur : Array Value) (p k : Nat) (v : Value), W.heap[g]? = some (.cells cur 32 (0, 0)) → n * 3 ≤ cur.size → k < n * 3 → (∃ u, (W.setCell ⟨g, p, none⟩ v).cell? ⟨g, k, none⟩ = some u) ∧ (W.setCell ⟨g, p, none⟩ v).heap[g]? = some (.cells (cur.setIfInBounds p v) 32 (0, 0)) := fun W cur p k v hrow hcs hk => by
    have hr := heap_setCell_same W g p cur 32 v hrow
    refine ⟨?_, hr⟩
    rw [cell_of_row _ _ _ _ _ _ hr]
    exact ⟨(cur.setIfInBounds p v)[k]'(by rw [Array.size_setIfInBounds]; omega), by simp⟩
  obtain ⟨⟨u0, d0⟩, r0⟩ := ex w cur (i * 3) (j * 3) (.int .i64 ya) hrow hcs (by omega)
  obtain ⟨⟨u1, d1⟩, r1⟩ := ex _ _ (i * 3 + 1) (j * 3 + 1) (.int .i64 yb) r0 (by rw [Array.size_setIfInBounds]; exact hcs) (by omega)
  obtain ⟨⟨u2, d2⟩, r2⟩ := ex _ _ (i * 3 + 2) (j * 3 + 2) (.int .i64 yt) r1 (by rw [Array.size_setIfInBounds, Array.size_setIfInBounds]; exact hcs) (by omega)
  clear r0 r1 r2
  clear ex hrow
  go_enter Try.func86, Try.ntmps86
  go_wp2_with fail
  go_region
  have H1 := (HH.out.set i (by rw [HL.out]; exact hi) ⟨ya, yb, yt⟩).set j (by rw [List.length_set, HL.out]; exact hj) ⟨xa, xb, xt⟩
  have e1 : (L.set i ⟨ya, yb, yt⟩).set j ⟨xa, xb, xt⟩ = swp L i j := by unfold swp; rw [HX.out, HY.out]
  rw [e1] at H1
  have G1 : w.grownBy ((((((w.setCell ⟨g, i * 3, none⟩ (.int .i64 ya)).setCell ⟨g, i * 3 + 1, none⟩ (.int .i64 yb)).setCell ⟨g, i * 3 + 2, none⟩ (.int .i64 yt)).setCell ⟨g, j * 3, none⟩ (.int .i64 xa)).setCell ⟨g, j * 3 + 1, none⟩ (.int .i64 xb)).setCell ⟨g, j * 3 + 2, none⟩ (.int .i64 xt)) (some g) := grown_trans (grown_trans (grown_trans (grown_trans (grown_trans (grown_set _ _ _ _) (grown_set _ _ _ _)) (grown_set _ _ _ _)) (grown_set _ _ _ _)) (grown_set _ _ _ _)) (grown_set _ _ _ _)
  go_wp2
  first | refine bodyPost_end (results_none rfl _ _ _) rfl ?_ | refine bodyPost_ret (results_none rfl _ _ _) rfl ?_
  have H2 : HP ((((((w.setCell ⟨g, i * 3, none⟩ (.int .i64 ya)).setCell ⟨g, i * 3 + 1, none⟩ (.int .i64 yb)).setCell ⟨g, i * 3 + 2, none⟩ (.int .i64 yt)).setCell ⟨g, j * 3, none⟩ (.int .i64 xa)).setCell ⟨g, j * 3 + 1, none⟩ (.int .i64 xb)).setCell ⟨g, j * 3 + 2, none⟩ (.int .i64 xt)) B hb (.slice (some ⟨g, 0, none⟩) n c) (swp L i j) := H1
  clear H1
  generalize ((((((w.setCell ⟨g, i * 3, none⟩ (.int .i64 ya)).setCell ⟨g, i * 3 + 1, none⟩ (.int .i64 yb)).setCell ⟨g, i * 3 + 2, none⟩ (.int .i64 yt)).setCell ⟨g, j * 3, none⟩ (.int .i64 xa)).setCell ⟨g, j * 3 + 1, none⟩ (.int .i64 xb)).setCell ⟨g, j * 3 + 2, none⟩ (.int .i64 xt)) = W6 at *
  exact ⟨rfl, H2.below (Below.refl _ _).drew, ⟨G1.os, G1.tape, G1.output, G1.size, G1.block⟩⟩

end Go.Proofs.Ytaehhlkpbhmdfaa

namespace Go.Proofs.Ytaehhlkpbhmdfaa
open Go.RowKit

theorem infoEd : (Try.prog.info? 32).map (fun i => (i.zero, i.size, i.bytes)) = some (some (.agg #[Value.int IntKind.i64 0, Value.int IntKind.i64 0, Value.int IntKind.i64 0]), 3, 24) := by kernel_rfl
theorem asE (v : Value) (w : World) : (Instr.typeAssert (.iface 32 v) 20 32 false).run Try.prog w = .ok v w := by kernel_rfl
/-- What a change of the queue may write. -/
def hpS (hb : Nat) (v : Value) (b : Nat) : Prop := b = hb ∨ v.ownBlock = some b
theorem GrownBut.step {S S' : Nat → Prop} {w w1 w2 : World} (h : GrownBut S w w1) (k : GrownBut S' w1 w2) (hs : ∀ b, b < w.heap.size → S' b → S b) : GrownBut S w w2 :=
  ⟨k.os.trans h.os, k.tape.trans h.tape, k.output.trans h.output, Nat.le_trans h.size k.size, fun b hb hn => (k.block b (Nat.lt_of_lt_of_le hb h.size) (fun x => hn (hs b hb x))).trans (h.block b hb hn)⟩
theorem cellsE_at (W : World) (g : Nat) (x y z : Int) (T : TypeId) (h : W.heap[g]? = some (.cells #[.int .i64 x, .int .i64 y, .int .i64 z] T (0, 0))) : ∀ (j : Nat) (u : Value), ([Value.int .i64 x, .int .i64 y, .int .i64 z])[j]? = some u → W.cell? ⟨g, 0 + j, none⟩ = some u := fun j u hj => by
  rw [Nat.zero_add, cell_of_row _ _ _ _ _ _ h]
  simpa using hj
theorem own_othP {w : World} {base size n k : Nat} {e T : TypeId} {v : Value} {xs : List Value} {cs : Array Value} {q : Nat × Nat} (h : w.ownsRow base e size v n xs) (hr : w.heap[k]? = some (.cells cs T q)) (hT : T ≠ e) : v.ownBlock ≠ some k := fun he => by
  rcases h.2 with ⟨rfl, _⟩ | ⟨g, c, cur, rfl, _, hg, _⟩
  · cases he
  · simp [Value.ownBlock] at he
    rw [he, hr] at hg
    simp at hg
    exact hT hg.2.1
theorem own_rowP {W W' : World} {base size n : Nat} {e : TypeId} {v : Value} {xs : List Value} {row : Option Nat} (h : W.ownsRow base e size v n xs) (hg : W.grownBy W' row) (hne : ∀ k, row = some k → v.ownBlock ≠ some k) : W'.ownsRow base e size v n xs := by
  obtain ⟨h0, ⟨h1, h2⟩ | ⟨g, cap, cur, h2, h3, h4, h5⟩⟩ := h
  · exact ⟨h0, .inl ⟨h1, h2⟩⟩
  · exact ⟨h0, .inr ⟨g, cap, cur, h2, h3, (hg.block g (row_lt h4) (fun e9 => hne g e9.symm (by rw [h2]; rfl))).trans h4, h5⟩⟩
theorem own_box_ofP {w : World} {base size n k i : Nat} {e T : TypeId} {v u : Value} {xs : List Value} {cs : Array Value} (h : w.ownsRow base e size v n xs) (hr : w.heap[k]? = some (.cells cs T (0, 0))) (hT : T ≠ e) : (w.setCell ⟨k, i, none⟩ u).ownsRow base e size v n xs := own_rowP h (grown_set w k i u) (fun k' e9 => by cases e9; exact own_othP h hr hT)
theorem grownBut_own {w w' : World} {v : Value} (h : w.grownBy w' v.ownBlock) : GrownBut (fun b => v.ownBlock = some b) w w' := ⟨h.os, h.tape, h.output, h.size, fun b hb hn => h.block b hb (fun e => hn e.symm)⟩
theorem HP.cell1 {w : World} {hb : Nat} {v : Value} {T : TypeId} (h : w.heap[hb]? = some (.cells #[v] T (0, 0))) : w.cell? ⟨hb, 0, none⟩ = some v := by rw [cell_of_row _ _ _ _ _ _ h]; rfl

/-- The queue with one more. -/
def PushOk (w : World) (B hb : Nat) (v : Value) (L : List ED) (e : ED) (r : Ending) (w' : World) : Prop := ∃ v', r = .returned (.tuple #[]) ∧ HP w' B hb v' (L ++ [e]) ∧ GrownBut (hpS hb v) w w' ∧ (∀ b, v'.ownBlock = some b → v.ownBlock = some b ∨ w.heap.size ≤ b)

set_option maxRecDepth 10000 in
set_option maxHeartbeats 4000000 in
theorem heapPush_any (B hb : Nat) (v : Value) (L : List ED) (x : ED) (w : World) (h : HP w B hb v L) (hn : L.length ≤ 1000) (hB : B ≤ w.heap.size) :
    Calls Try.prog 85 #[.pointer (some ⟨hb, 0, none⟩), .iface 32 (.agg #[.int .i64 x.a, .int .i64 x.b, .int .i64 x.t])] w (PushOk w B hb v L x) := by
  have HH : Hid (HP w B hb v L) := h
  obtain ⟨sa, sc, e⟩ := h.any
  obtain ⟨n, HN⟩ : ∃ n, Hid (L.length = n) := ⟨_, rfl⟩
  rw [HN.out] at e hn
  subst e
  obtain ⟨xa, xb, xt⟩ := x
  clear h
  have hAs := asE (.agg #[.int .i64 xa, .int .i64 xb, .int .i64 xt])
  go_enter Try.func85, Try.ntmps85
  go_wp2_with fail
  refine wp_region_held_drew (S := (fun W => True)) (by kernel_rfl) ?_ (fun hHeld => ?_)
  · exact trivial
  have K0 : Hid (HP w.drew B hb (.slice sa n sc) L) := HH.out.below (Below.refl _ _).drew
  have G0 : Hid (GrownBut (hpS hb (.slice sa n sc)) w w.drew) := GrownBut.of_below (Below.refl _ _).drew
  clear HH
  generalize w.drew = V0 at *
  refine wpAnyH_take (i := 0) (v := ?_) rfl (by kernel_rfl) (by kernel_rfl) (by kernel_rfl) (fun _ _ _ h => h) (Or.inl ⟨by kernel_rfl, ?_⟩) hHeld ?_
  rotate_left 1; focus (intro w hSw; (try dsimp only at hSw); (try go_split_ands); go_simp; all_goals (first | done | with_reducible rfl))
  change wpAnyH _ _ _ _ _ _ _ (Act.put _ (some 4) _) _; simp only [Act.put, List.setIfInBounds_toArray, List.set_cons_zero, List.set_cons_succ]
  refine wpAnyH_take (i := 1) (v := ?_) rfl (by kernel_rfl) (by kernel_rfl) (by kernel_rfl) (fun _ _ _ h => h) (Or.inl ⟨by kernel_rfl, ?_⟩) hHeld ?_
  rotate_left 1; focus (intro w hSw; (try dsimp only at hSw); (try go_split_ands); go_simp; all_goals (first | done | with_reducible rfl))
  change wpAnyH _ _ _ _ _ _ _ (Act.put _ (some 5) _) _; simp only [Act.put, List.setIfInBounds_toArray, List.set_cons_zero, List.set_cons_succ]
  refine wpAnyH_take (i := 2) (v := ?_) rfl (by kernel_rfl) (by kernel_rfl) (by kernel_rfl) (fun _ _ _ h => h) (Or.inl ⟨by kernel_rfl, ?_⟩) hHeld ?_
  rotate_left 1; focus (intro w hSw; (try dsimp only at hSw); (try go_split_ands); go_simp; all_goals (first | done | with_reducible rfl))
  change wpAnyH _ _ _ _ _ _ _ (Act.put _ (some 6) _) _; simp only [Act.put, List.setIfInBounds_toArray, List.set_cons_zero, List.set_cons_succ]
  refine wpAnyH_take (i := 3) (v := ?_) rfl (by kernel_rfl) (by kernel_rfl) (by kernel_rfl) (fun _ _ _ h => h) (Or.inl ⟨by kernel_rfl, ?_⟩) hHeld ?_
  rotate_left 1; focus (intro w hSw; (try dsimp only at hSw); (try go_split_ands); go_simp; all_goals (first | done | with_reducible rfl))
  change wpAnyH _ _ _ _ _ _ _ (Act.put _ (some 7) _) _; simp only [Act.put, List.setIfInBounds_toArray, List.set_cons_zero, List.set_cons_succ]
  refine wpAnyH_take (i := 5) (v := ?_) rfl (by kernel_rfl) (by kernel_rfl) (by kernel_rfl) (fun _ _ _ h => h) (Or.inl ⟨by kernel_rfl, ?_⟩) hHeld ?_
  rotate_left 1; focus (intro w hSw; (try dsimp only at hSw); (try go_split_ands); go_simp; all_goals (first | done | with_reducible rfl))
  change wpAnyH _ _ _ _ _ _ _ (Act.put _ (some 9) _) _; simp only [Act.put, List.setIfInBounds_toArray, List.set_cons_zero, List.set_cons_succ]
  refine wpAnyH_take (i := 6) (v := ?_) rfl (by kernel_rfl) (by kernel_rfl) (by kernel_rfl) (fun _ _ _ h => h) (Or.inl ⟨by kernel_rfl, ?_⟩) hHeld ?_
  rotate_left 1; focus (intro w hSw; (try dsimp only at hSw); (try go_split_ands); go_simp; all_goals (first | done | with_reducible rfl))
  change wpAnyH _ _ _ _ _ _ _ (Act.put _ (some 10) _) _; simp only [Act.put, List.setIfInBounds_toArray, List.set_cons_zero, List.set_cons_succ]
  refine wpAnyH_ready (rs := [4, 7]) (by kernel_rfl) (by simp) ?_
  refine AllReadyH.cons rfl (fun K hK => ?_) ?_
  · skip
    have z0 := K0.out.cell
    go_simp
    refine hK.out _ _ ?_ (fun hHeld => ?_)
    · exact trivial
    clear hK K
    clear z0
    (try simp only [Act.put, List.setIfInBounds_toArray, List.set_cons_zero, List.set_cons_succ])
    refine wpAnyH_ready (rs := [7]) (by kernel_rfl) (by simp) ?_
    refine AllReadyH.cons rfl (fun K hK => ?_) AllReadyH.nil
    have K5 : Hid (HP (V0.alloc (.cells #[.int .i64 xa, .int .i64 xb, .int .i64 xt] 32)) B hb (.slice sa n sc) L) := K0.out.below ((Below.refl _ _).alloc (Nat.le_refl _) _)
    have G5 : Hid (GrownBut (hpS hb (.slice sa n sc)) w (V0.alloc (.cells #[.int .i64 xa, .int .i64 xb, .int .i64 xt] 32))) := G0.out.trans (GrownBut.of_below ((Below.refl _ _).alloc (Nat.le_refl _) _))
    have V5 : Hid ((V0.alloc (.cells #[.int .i64 xa, .int .i64 xb, .int .i64 xt] 32)).heap[V0.heap.size]? = some (.cells #[.int .i64 xa, .int .i64 xb, .int .i64 xt] 32 (0, 0))) := heap_alloc_new _ _
    go_simp
    refine hK.out _ _ ?_ (fun hHeld => ?_)
    · exact trivial
    clear hK K
    generalize (V0.alloc (.cells #[.int .i64 xa, .int .i64 xb, .int .i64 xt] 32)) = w5 at *
    generalize V0.heap.size = b5 at *
    (try simp only [Act.put, List.setIfInBounds_toArray, List.set_cons_zero, List.set_cons_succ])
    refine wpAnyH_ready (rs := [8]) (by kernel_rfl) (by simp) ?_
    refine AllReadyH.cons rfl (fun K hK => ?_) AllReadyH.nil
    refine step_append_vals Try.underlying28 infoEd (by rfl) (by omega) rfl (.tmp 8) (.tmp 11) rfl B (.slice sa n sc) n ((flE L).map (Value.int .i64)) rfl (by have := K5.out.o; rw [HN.out] at this; exact this) b5 0 1 1 [Value.int .i64 xa, .int .i64 xb, .int .i64 xt] rfl rfl (cellsE_at _ _ _ _ _ _ V5.out) (by intro u hu; simp only [List.mem_cons, List.not_mem_nil, or_false] at hu; rcases hu with rfl | rfl | rfl <;> rfl) (by omega) (by omega) (Nat.le_trans hB G5.out.size) ?_
    intro v' w6 ho hg hbk hz
    rcases own_kinds ho with ⟨_, e0⟩ | ⟨g6, c6, e6, -, -⟩
    · omega
    subst e6
    have P6 := grown_row hg K5.out.b (fun e => own_othP K5.out.o K5.out.b (by decide) e.symm)
    have K6 : Hid (HP (w6.setCell ⟨hb, 0, none⟩ (.slice (some ⟨g6, 0, none⟩) (n + 1) c6)) B hb (.slice (some ⟨g6, 0, none⟩) (n + 1) c6) (L ++ [⟨xa, xb, xt⟩])) := by
      refine ⟨heap_setCell_same _ _ _ _ _ _ P6, ?_⟩
      have h9 := own_box_ofP (i := 0) (u := (.slice (some ⟨g6, 0, none⟩) (n + 1) c6)) ho P6 (by decide)
      rw [flE_app, List.map_append, List.length_append, HN.out]
      exact h9
    have G6 : Hid (GrownBut (hpS hb (.slice sa n sc)) w (w6.setCell ⟨hb, 0, none⟩ (.slice (some ⟨g6, 0, none⟩) (n + 1) c6))) := (G5.out.step (grownBut_own hg) (fun b _ h9 => .inr h9)).trans (GrownBut.of_grown (grown_set _ _ _ _) (.inl rfl))
    have N6 : Hid (∀ b, (Value.slice (some ⟨g6, 0, none⟩) (n + 1) c6).ownBlock = some b → (Value.slice sa n sc).ownBlock = some b ∨ w.heap.size ≤ b) := fun b e => by
      rcases hbk with h9 | h9
      · exact .inl (h9.symm.trans e)
      · rw [h9] at e
        cases e
        exact .inr G5.out.size
    have f6 := fun i => frozen_of_row _ _ i _ _ P6
    have x6 := HP.cell1 P6
    clear ho hg hbk hz
    refine hK.out _ _ ?_ (fun hHeld => ?_)
    · exact trivial
    clear hK K
    change wpAnyH _ _ _ _ _ _ _ (Act.put _ (some 12) _) _
    (try simp only [Act.put, List.setIfInBounds_toArray, List.set_cons_zero, List.set_cons_succ])
    refine wpAnyH_take (i := 9) (v := ?_) rfl (by kernel_rfl) (by kernel_rfl) (by kernel_rfl) (fun _ _ _ h => h) (Or.inl ⟨by kernel_rfl, ?_⟩) hHeld ?_
    rotate_left 1; focus (intro w hSw; (try dsimp only at hSw); (try go_split_ands); go_simp; all_goals (first | done | with_reducible rfl))
    change wpAnyH _ _ _ _ _ _ _ (Act.put _ (some 13) _) _; simp only [Act.put, List.setIfInBounds_toArray, List.set_cons_zero, List.set_cons_succ]
    refine wpAnyH_take (i := 10) (v := ?_) rfl (by kernel_rfl) (by kernel_rfl) (by kernel_rfl) (fun _ _ _ h => h) (Or.inl ⟨by kernel_rfl, ?_⟩) hHeld ?_
    rotate_left 1; focus (intro w hSw; (try dsimp only at hSw); (try go_split_ands); go_simp; all_goals (first | done | with_reducible rfl))
    change wpAnyH _ _ _ _ _ _ _ (Act.put _ (some 14) _) _; simp only [Act.put, List.setIfInBounds_toArray, List.set_cons_zero, List.set_cons_succ]
    refine wpAnyH_ready (rs := [11]) (by kernel_rfl) (by simp) ?_
    refine AllReadyH.cons rfl (fun K hK => ?_) AllReadyH.nil
    go_simp
    refine hK.out _ _ ?_ (fun hHeld => ?_)
    · exact trivial
    clear hK K
    (try simp only [Act.put, List.setIfInBounds_toArray, List.set_cons_zero, List.set_cons_succ])
    refine wpAnyH_done (by kernel_rfl) ?_ _
    go_wp2
    first | refine bodyPost_end (results_none rfl _ _ _) rfl ?_ | refine bodyPost_ret (results_none rfl _ _ _) rfl ?_
    exact ⟨_, rfl, K6.out, G6.out, N6.out⟩
  refine AllReadyH.cons rfl (fun K hK => ?_) AllReadyH.nil
  have K5 : Hid (HP (V0.alloc (.cells #[.int .i64 xa, .int .i64 xb, .int .i64 xt] 32)) B hb (.slice sa n sc) L) := K0.out.below ((Below.refl _ _).alloc (Nat.le_refl _) _)
  have G5 : Hid (GrownBut (hpS hb (.slice sa n sc)) w (V0.alloc (.cells #[.int .i64 xa, .int .i64 xb, .int .i64 xt] 32))) := G0.out.trans (GrownBut.of_below ((Below.refl _ _).alloc (Nat.le_refl _) _))
  have V5 : Hid ((V0.alloc (.cells #[.int .i64 xa, .int .i64 xb, .int .i64 xt] 32)).heap[V0.heap.size]? = some (.cells #[.int .i64 xa, .int .i64 xb, .int .i64 xt] 32 (0, 0))) := heap_alloc_new _ _
  go_simp
  refine hK.out _ _ ?_ (fun hHeld => ?_)
  · exact trivial
  clear hK K
  generalize (V0.alloc (.cells #[.int .i64 xa, .int .i64 xb, .int .i64 xt] 32)) = w5 at *
  generalize V0.heap.size = b5 at *
  (try simp only [Act.put, List.setIfInBounds_toArray, List.set_cons_zero, List.set_cons_succ])
  refine wpAnyH_ready (rs := [4]) (by kernel_rfl) (by simp) ?_
  refine AllReadyH.cons rfl (fun K hK => ?_) AllReadyH.nil
  have z0 := K5.out.cell
  go_simp
  refine hK.out _ _ ?_ (fun hHeld => ?_)
  · exact trivial
  clear hK K
  clear z0
  (try simp only [Act.put, List.setIfInBounds_toArray, List.set_cons_zero, List.set_cons_succ])
  refine wpAnyH_ready (rs := [8]) (by kernel_rfl) (by simp) ?_
  refine AllReadyH.cons rfl (fun K hK => ?_) AllReadyH.nil
  refine step_append_vals Try.underlying28 infoEd (by rfl) (by omega) rfl (.tmp 8) (.tmp 11) rfl B (.slice sa n sc) n ((flE L).map (Value.int .i64)) rfl (by have := K5.out.o; rw [HN.out] at this; exact this) b5 0 1 1 [Value.int .i64 xa, .int .i64 xb, .int .i64 xt] rfl rfl (cellsE_at _ _ _ _ _ _ V5.out) (by intro u hu; simp only [List.mem_cons, List.not_mem_nil, or_false] at hu; rcases hu with rfl | rfl | rfl <;> rfl) (by omega) (by omega) (Nat.le_trans hB G5.out.size) ?_
  intro v' w6 ho hg hbk hz
  rcases own_kinds ho with ⟨_, e0⟩ | ⟨g6, c6, e6, -, -⟩
  · omega
  subst e6
  have P6 := grown_row hg K5.out.b (fun e => own_othP K5.out.o K5.out.b (by decide) e.symm)
  have K6 : Hid (HP (w6.setCell ⟨hb, 0, none⟩ (.slice (some ⟨g6, 0, none⟩) (n + 1) c6)) B hb (.slice (some ⟨g6, 0, none⟩) (n + 1) c6) (L ++ [⟨xa, xb, xt⟩])) := by
    refine ⟨heap_setCell_same _ _ _ _ _ _ P6, ?_⟩
    have h9 := own_box_ofP (i := 0) (u := (.slice (some ⟨g6, 0, none⟩) (n + 1) c6)) ho P6 (by decide)
    rw [flE_app, List.map_append, List.length_append, HN.out]
    exact h9
  have G6 : Hid (GrownBut (hpS hb (.slice sa n sc)) w (w6.setCell ⟨hb, 0, none⟩ (.slice (some ⟨g6, 0, none⟩) (n + 1) c6))) := (G5.out.step (grownBut_own hg) (fun b _ h9 => .inr h9)).trans (GrownBut.of_grown (grown_set _ _ _ _) (.inl rfl))
  have N6 : Hid (∀ b, (Value.slice (some ⟨g6, 0, none⟩) (n + 1) c6).ownBlock = some b → (Value.slice sa n sc).ownBlock = some b ∨ w.heap.size ≤ b) := fun b e => by
    rcases hbk with h9 | h9
    · exact .inl (h9.symm.trans e)
    · rw [h9] at e
      cases e
      exact .inr G5.out.size
  have f6 := fun i => frozen_of_row _ _ i _ _ P6
  have x6 := HP.cell1 P6
  clear ho hg hbk hz
  refine hK.out _ _ ?_ (fun hHeld => ?_)
  · exact trivial
  clear hK K
  change wpAnyH _ _ _ _ _ _ _ (Act.put _ (some 12) _) _
  (try simp only [Act.put, List.setIfInBounds_toArray, List.set_cons_zero, List.set_cons_succ])
  refine wpAnyH_take (i := 9) (v := ?_) rfl (by kernel_rfl) (by kernel_rfl) (by kernel_rfl) (fun _ _ _ h => h) (Or.inl ⟨by kernel_rfl, ?_⟩) hHeld ?_
  rotate_left 1; focus (intro w hSw; (try dsimp only at hSw); (try go_split_ands); go_simp; all_goals (first | done | with_reducible rfl))
  change wpAnyH _ _ _ _ _ _ _ (Act.put _ (some 13) _) _; simp only [Act.put, List.setIfInBounds_toArray, List.set_cons_zero, List.set_cons_succ]
  refine wpAnyH_take (i := 10) (v := ?_) rfl (by kernel_rfl) (by kernel_rfl) (by kernel_rfl) (fun _ _ _ h => h) (Or.inl ⟨by kernel_rfl, ?_⟩) hHeld ?_
  rotate_left 1; focus (intro w hSw; (try dsimp only at hSw); (try go_split_ands); go_simp; all_goals (first | done | with_reducible rfl))
  change wpAnyH _ _ _ _ _ _ _ (Act.put _ (some 14) _) _; simp only [Act.put, List.setIfInBounds_toArray, List.set_cons_zero, List.set_cons_succ]
  refine wpAnyH_ready (rs := [11]) (by kernel_rfl) (by simp) ?_
  refine AllReadyH.cons rfl (fun K hK => ?_) AllReadyH.nil
  go_simp
  refine hK.out _ _ ?_ (fun hHeld => ?_)
  · exact trivial
  clear hK K
  (try simp only [Act.put, List.setIfInBounds_toArray, List.set_cons_zero, List.set_cons_succ])
  refine wpAnyH_done (by kernel_rfl) ?_ _
  go_wp2
  first | refine bodyPost_end (results_none rfl _ _ _) rfl ?_ | refine bodyPost_ret (results_none rfl _ _ _) rfl ?_
  exact ⟨_, rfl, K6.out, G6.out, N6.out⟩

end Go.Proofs.Ytaehhlkpbhmdfaa

namespace Go.Proofs.Ytaehhlkpbhmdfaa
open Go.RowKit

/-- The last one goes. -/
theorem own_last {w : World} {B g n c : Nat} {M : List ED} {x : ED} (h : w.ownsRow B 32 3 (.slice (some ⟨g, 0, none⟩) (n + 1) c) (n + 1) ((flE (M ++ [x])).map (Value.int .i64))) (hn : M.length = n) : w.ownsRow B 32 3 (.slice (some ⟨g, 0, none⟩) n c) n ((flE M).map (Value.int .i64)) := by
  obtain ⟨h0, ⟨h1, _⟩ | ⟨g', cap, cur, h2, h3, h4, h5, h6, h7, h8⟩⟩ := h
  · cases h1
  · simp only [Value.slice.injEq, Option.some.injEq, Addr.mk.injEq, and_true, true_and] at h2
    obtain ⟨rfl, rfl⟩ := h2
    refine ⟨by rw [List.length_map, flE_len, hn], .inr ⟨g, c, cur, rfl, h3, h4, by omega, h6, h7, ?_⟩⟩
    have h9 := congrArg (List.take (n * 3)) h8
    rw [List.take_take, Nat.min_eq_left (by omega), flE_app, List.map_append, List.take_append_of_le_length (by rw [List.length_map, flE_len, hn]; exact Nat.le_refl _)] at h9
    rw [h9, List.take_of_length_le (by rw [List.length_map, flE_len, hn]; exact Nat.le_refl _)]

set_option maxRecDepth 10000 in
set_option maxHeartbeats 4000000 in
theorem heapPopM_any (B hb g n c : Nat) (M : List ED) (x : ED) (w : World) (h : HP w B hb (.slice (some ⟨g, 0, none⟩) (n + 1) c) (M ++ [x])) (hl : M.length = n) (hn : n ≤ 1000) (hc : n + 1 ≤ c) :
    Calls Try.prog 84 #[.pointer (some ⟨hb, 0, none⟩)] w fun e w' => e = .returned (.iface 32 (.agg #[.int .i64 x.a, .int .i64 x.b, .int .i64 x.t])) ∧ HP w' B hb (.slice (some ⟨g, 0, none⟩) n c) M ∧ GrownBut (hpS hb (.slice (some ⟨g, 0, none⟩) (n + 1) c)) w w' := by
  have c0 := h.cell
  obtain ⟨a0, a1, a2⟩ := h.at n (by rw [List.length_append, hl]; simp)
  have ex : (M ++ [x]).getD n e0 = x := by
    rw [List.getD_eq_getElem?_getD, List.getElem?_append_right (by omega), hl, Nat.sub_self]
    rfl
  rw [ex] at a0 a1 a2
  obtain ⟨xa, xb, xt⟩ := x
  simp only at a0 a1 a2
  have fz := fun k => frozen_of_row _ _ k _ _ h.b
  have HB : Hid (Below w.heap.size w (w.alloc (.cells #[.int .i64 xa, .int .i64 xb, .int .i64 xt] 32))) := (Below.refl _ _).alloc (Nat.le_refl _) _
  have HA : Hid (HP (w.alloc (.cells #[.int .i64 xa, .int .i64 xb, .int .i64 xt] 32)) B hb (.slice (some ⟨g, 0, none⟩) (n + 1) c) (M ++ [⟨xa, xb, xt⟩])) := h.below HB.out
  have XA : Hid ((w.alloc (.cells #[.int .i64 xa, .int .i64 xb, .int .i64 xt] 32)).heap[w.heap.size]? = some (.cells #[.int .i64 xa, .int .i64 xb, .int .i64 xt] 32 (0, 0))) := heap_alloc_new _ _
  have HNB : Hid (hb ≠ w.heap.size) := by have := row_lt h.b; show _ ≠ _; omega
  have HL : Hid (M.length = n) := hl
  have hnI : (n : Int) < ((n + 1 : Nat) : Int) := by omega
  have hw1 : IntKind.i64.wrap (((n + 1 : Nat) : Int) - 1) = (n : Int) := by rw [IntKind.wrap_i64]; omega
  have hcI : (n : Int) ≤ (c : Int) := by omega
  have hn0 : (0 : Int) ≤ (n : Int) := by omega
  have dA := HA.out.cell
  have fA := fun k => frozen_of_row _ _ k _ _ HA.out.b
  have XB : Hid (((w.alloc (.cells #[.int .i64 xa, .int .i64 xb, .int .i64 xt] 32)).setCell ⟨hb, 0, none⟩ (.slice (some ⟨g, 0, none⟩) n c)).heap[w.heap.size]? = some (.cells #[.int .i64 xa, .int .i64 xb, .int .i64 xt] 32 (0, 0))) := by
    show _ = _
    rw [heap_setCell_other _ _ _ _ (by have := HNB.out; simp; omega)]
    exact XA.out
  obtain ⟨x0, x1, x2⟩ := cells3 XB.out
  have KB : Hid (HP ((w.alloc (.cells #[.int .i64 xa, .int .i64 xb, .int .i64 xt] 32)).setCell ⟨hb, 0, none⟩ (.slice (some ⟨g, 0, none⟩) n c)) B hb (.slice (some ⟨g, 0, none⟩) n c) M) := by
    refine ⟨heap_setCell_same _ _ _ _ _ _ HA.out.b, ?_⟩
    have h9 := HA.out.o
    rw [List.length_append, HL.out] at h9
    rw [HL.out]
    exact own_box_ofP (own_last h9 HL.out) HA.out.b (by decide)
  have GB : Hid (GrownBut (hpS hb (.slice (some ⟨g, 0, none⟩) (n + 1) c)) w ((w.alloc (.cells #[.int .i64 xa, .int .i64 xb, .int .i64 xt] 32)).setCell ⟨hb, 0, none⟩ (.slice (some ⟨g, 0, none⟩) n c))) := (GrownBut.of_below HB.out).trans (GrownBut.of_grown (grown_set _ _ _ _) (.inl rfl))
  clear h ex hl
  go_enter Try.func84, Try.ntmps84
  go_wp2
  go_ret
  exact ⟨rfl, KB.out, GB.out⟩

end Go.Proofs.Ytaehhlkpbhmdfaa

namespace Go.Proofs.Ytaehhlkpbhmdfaa
open Go.RowKit

theorem mhLen (d : Nat) (v : Value) (w : World) : (method (d + 1) 58 v "Len").run Try.prog w = .ok (74, v) w := by kernel_rfl
theorem mhLess (d : Nat) (v : Value) (w : World) : (method (d + 1) 58 v "Less").run Try.prog w = .ok (83, v) w := by kernel_rfl
theorem mhSwap (d : Nat) (v : Value) (w : World) : (method (d + 1) 58 v "Swap").run Try.prog w = .ok (86, v) w := by kernel_rfl
theorem mhPush (d : Nat) (v : Value) (w : World) : (method (d + 1) 58 v "Push").run Try.prog w = .ok (85, v) w := by kernel_rfl
theorem mhPop (d : Nat) (v : Value) (w : World) : (method (d + 1) 58 v "Pop").run Try.prog w = .ok (84, v) w := by kernel_rfl
theorem mhput (d : Nat) (v : Value) (w : World) : (method (d + 1) 58 v "loop.example/g00265/impl.put").run Try.prog w = .ok (75, v) w := by kernel_rfl
theorem mhtake (d : Nat) (v : Value) (w : World) : (method (d + 1) 58 v "loop.example/g00265/impl.take").run Try.prog w = .ok (76, v) w := by kernel_rfl

/-- The queue is a heap again: the same edges. -/
def ReHp (w : World) (B hb : Nat) (v : Value) (n : Nat) (L : List ED) (w' : World) : Prop := ∃ L', HP w' B hb v L' ∧ isHp L' ∧ L'.length = n ∧ (∀ y, y ∈ L' ↔ y ∈ L) ∧ GrownBut (hpS hb v) w w'

theorem quo_par (k : Nat) (hk : k ≤ 100000) : IntKind.i64.wrap (((k : Int) - 1).tdiv 2) = ((par k : Nat) : Int) := by
  rw [IntKind.wrap_i64]
  unfold par
  cases k with
  | zero => rfl
  | succ k =>
    have e : (((k + 1 : Nat) : Int) - 1).tdiv 2 = ((k / 2 : Nat) : Int) := by
      rw [show ((k + 1 : Nat) : Int) - 1 = (k : Int) by omega]
      rfl
    rw [e]
    simp only [Nat.add_sub_cancel]
    omega

set_option maxRecDepth 10000 in
set_option maxHeartbeats 4000000 in
theorem up_any (B hb g n c j : Nat) (L : List ED) (w : World) (h : HP w B hb (.slice (some ⟨g, 0, none⟩) n c) L) (hl : L.length = n) (hj : j < n) (hu : upI L j) (hn : n ≤ 1000) :
    Calls Try.prog 79 #[.iface 58 (.pointer (some ⟨hb, 0, none⟩)), .int .i64 j] w fun e w' => e = .returned (.tuple #[]) ∧ ReHp w B hb (.slice (some ⟨g, 0, none⟩) n c) n L w' := by
  have HH : Hid (HP w B hb (.slice (some ⟨g, 0, none⟩) n c) L ∧ L.length = n ∧ upI L j) := ⟨h, hl, hu⟩
  have hm1 := fun (q : Nat) (W : World) => mhLess q (.pointer (some ⟨hb, 0, none⟩)) W
  have hm2 := fun (q : Nat) (W : World) => mhSwap q (.pointer (some ⟨hb, 0, none⟩)) W
  clear h hl hu
  go_enter Try.func79, Try.ntmps79
  go_wp2_with fail
  go_loopw [1, 4] (fun t _ wr => ∃ (k : Nat) (M : List ED), t = .int .i64 k ∧ k < n ∧ HP wr B hb (.slice (some ⟨g, 0, none⟩) n c) M ∧ M.length = n ∧ upI M k ∧ (∀ y, y ∈ M ↔ y ∈ L) ∧ GrownBut (hpS hb (.slice (some ⟨g, 0, none⟩) n c)) w wr) (fun t _ _ => (intOf t).toNat)
  case atStart => exact ⟨j, L, rfl, hj, HH.out.1, HH.out.2.1, HH.out.2.2, fun _ => Iff.rfl, GrownBut.of_below (Below.refl _ _)⟩
  case round =>
    clear HH
    obtain ⟨k, M, rfl, hk, h1, h2, h3, h4, h5⟩ := hrel
    have KW : Hid (HP wr B hb (.slice (some ⟨g, 0, none⟩) n c) M) := h1
    have HM : Hid (M.length = n ∧ upI M k ∧ ∀ y, y ∈ M ↔ y ∈ L) := ⟨h2, h3, h4⟩
    have GW : Hid (GrownBut (hpS hb (.slice (some ⟨g, 0, none⟩) n c)) w wr) := h5
    clear h1 h2 h3 h4 h5
    obtain ⟨i, HI⟩ : ∃ i, Hid (par k = i) := ⟨_, rfl⟩
    have hw1 : IntKind.i64.wrap ((k : Int) - 1) = (k : Int) - 1 := by rw [IntKind.wrap_i64]; omega
    have hq1 : IntKind.i64.wrap (((k : Int) - 1).tdiv 2) = (i : Int) := by rw [← HI.out]; exact quo_par k (by omega)
    by_cases h0 : k = 0
    · have hik : ((i : Int) == (k : Int)) = true := by
        have : i = 0 := by rw [← HI.out, h0]; rfl
        rw [this, h0]; rfl
      have HE : Hid (isHp M) := up_end HM.out.2.1 (.inl (by rw [h0]; rfl))
      clear h0
      go_wp2
      first | refine bodyPost_end (results_none rfl _ _ _) rfl ?_ | refine bodyPost_ret (results_none rfl _ _ _) rfl ?_
      exact ⟨rfl, M, KW.out, HE.out, HM.out.1, HM.out.2.2, GW.out⟩
    · have hpk : i < k := by rw [← HI.out]; exact par_lt (by omega)
      have hik : ((i : Int) == (k : Int)) = false := by
        have : ¬ ((i : Int) = (k : Int)) := by omega
        simpa using this
      have CL := less_any B hb g n c k i M wr KW.out HM.out.1 hk (by omega)
      obtain ⟨b, HB⟩ : ∃ b, Hid (ltB (M.getD k e0) (M.getD i e0) = b) := ⟨_, rfl⟩
      rw [HB.out] at CL
      go_wp2_with fail
      refine CL.mono ?_
      rintro e w1 ⟨rfl, hb1⟩
      have K1 : Hid (HP w1 B hb (.slice (some ⟨g, 0, none⟩) n c) M) := KW.out.below hb1
      have G1 : Hid (GrownBut (hpS hb (.slice (some ⟨g, 0, none⟩) n c)) w w1) := GW.out.trans (GrownBut.of_below hb1)
      clear hb1 CL KW GW
      cases b
      · have HE : Hid (isHp M) := up_end HM.out.2.1 (.inr (by rw [HI.out]; exact HB.out))
        go_wp2
        first | refine bodyPost_end (results_none rfl _ _ _) rfl ?_ | refine bodyPost_ret (results_none rfl _ _ _) rfl ?_
        exact ⟨rfl, M, K1.out, HE.out, HM.out.1, HM.out.2.2, G1.out⟩
      · have HU : Hid (upI (swp M i k) i) := by
          have := up_step HM.out.2.1 (by omega) (by rw [HM.out.1]; exact hk) (by rw [HI.out]; exact HB.out)
          rw [HI.out] at this
          exact this
        go_wp2_with fail
        refine (swap_any B hb g n c i k M w1 K1.out HM.out.1 (by omega) hk).mono ?_
        rintro e w2 ⟨rfl, hh2, hg2⟩
        have G2 : Hid (GrownBut (hpS hb (.slice (some ⟨g, 0, none⟩) n c)) w w2) := G1.out.trans (GrownBut.of_grown hg2 (.inr rfl))
        have K2 : Hid (HP w2 B hb (.slice (some ⟨g, 0, none⟩) n c) (swp M i k)) := hh2
        have HM2 : Hid ((swp M i k).length = n ∧ ∀ y, y ∈ swp M i k ↔ y ∈ L) := ⟨by rw [swp_len]; exact HM.out.1, fun y => (swp_mem (by rw [HM.out.1]; omega) (by rw [HM.out.1]; exact hk) y).trans (HM.out.2.2 y)⟩
        clear hh2 hg2 G1 K1
        go_wp2_with fail
        go_roundw
        case rel => exact ⟨i, swp M i k, rfl, by omega, K2.out, HM2.out.1, HU.out, HM2.out.2, G2.out⟩
        case measure => simp [intOf]; omega

end Go.Proofs.Ytaehhlkpbhmdfaa

namespace Go.Proofs.Ytaehhlkpbhmdfaa
open Go.RowKit

theorem app_at (M : List ED) (x : ED) {k : Nat} (h : k < M.length) : (M ++ [x]).getD k e0 = M.getD k e0 := by
  rw [List.getD_eq_getElem?_getD, List.getD_eq_getElem?_getD, List.getElem?_append_left h]
theorem par_eq {k i : Nat} (h0 : 0 < k) (h : par k = i) : k = 2 * i + 1 ∨ k = 2 * i + 2 := by unfold par at h; omega
theorem par_one (i : Nat) : par (2 * i + 1) = i := by unfold par; omega
theorem par_two (i : Nat) : par (2 * i + 2) = i := by unfold par; omega
/-- The queue but its last one is a heap again: the same edges. -/
def ReHp1 (w : World) (B hb : Nat) (v : Value) (n : Nat) (L : List ED) (x : ED) (w' : World) : Prop := ∃ L', HP w' B hb v (L' ++ [x]) ∧ isHp L' ∧ L'.length = n ∧ (∀ y, y ∈ L' ↔ y ∈ L) ∧ GrownBut (hpS hb v) w w'

set_option maxRecDepth 10000 in
set_option maxHeartbeats 4000000 in
theorem down_any (B hb g n c : Nat) (L : List ED) (x : ED) (w : World) (h : HP w B hb (.slice (some ⟨g, 0, none⟩) (n + 1) c) (L ++ [x])) (hl : L.length = n) (hu : dnI L 0) (hn : n ≤ 1000) :
    Calls Try.prog 80 #[.iface 58 (.pointer (some ⟨hb, 0, none⟩)), .int .i64 0, .int .i64 n] w fun e w' => (∃ b, e = .returned (.bool b)) ∧ ReHp1 w B hb (.slice (some ⟨g, 0, none⟩) (n + 1) c) n L x w' := by
  have HH : Hid (HP w B hb (.slice (some ⟨g, 0, none⟩) (n + 1) c) (L ++ [x]) ∧ L.length = n ∧ dnI L 0) := ⟨h, hl, hu⟩
  have hm1 := fun (q : Nat) (W : World) => mhLess q (.pointer (some ⟨hb, 0, none⟩)) W
  have hm2 := fun (q : Nat) (W : World) => mhSwap q (.pointer (some ⟨hb, 0, none⟩)) W
  clear h hl hu
  go_enter Try.func80, Try.ntmps80
  go_wp2_with fail
  go_loopw [7, 8, 9, 10] (fun t _ _ _ wr => ∃ (k : Nat) (M : List ED), t = .int .i64 k ∧ k ≤ n ∧ HP wr B hb (.slice (some ⟨g, 0, none⟩) (n + 1) c) (M ++ [x]) ∧ M.length = n ∧ dnI M k ∧ (∀ y, y ∈ M ↔ y ∈ L) ∧ GrownBut (hpS hb (.slice (some ⟨g, 0, none⟩) (n + 1) c)) w wr) (fun t _ _ _ _ => n - (intOf t).toNat)
  case atStart => exact ⟨0, L, rfl, Nat.zero_le _, HH.out.1, HH.out.2.1, HH.out.2.2, fun _ => Iff.rfl, GrownBut.of_below (Below.refl _ _)⟩
  case round =>
    clear HH
    obtain ⟨k, M, rfl, hk, h1, h2, h3, h4, h5⟩ := hrel
    have KW : Hid (HP wr B hb (.slice (some ⟨g, 0, none⟩) (n + 1) c) (M ++ [x])) := h1
    have HM : Hid (M.length = n ∧ dnI M k ∧ ∀ y, y ∈ M ↔ y ∈ L) := ⟨h2, h3, h4⟩
    have GW : Hid (GrownBut (hpS hb (.slice (some ⟨g, 0, none⟩) (n + 1) c)) w wr) := h5
    have HLEN : Hid ((M ++ [x]).length = n + 1) := by show _ = _; rw [List.length_append, h2]; rfl
    clear h1 h2 h3 h4 h5
    obtain ⟨d, HD⟩ : ∃ d, Hid (2 * k = d) := ⟨_, rfl⟩
    obtain ⟨p, HPD⟩ : ∃ p, Hid (d + 1 = p) := ⟨_, rfl⟩
    have HP1 : Hid (2 * k + 1 = p) := by show _ = _; rw [HD.out, HPD.out]
    have hw0 : IntKind.i64.wrap (2 * (k : Int)) = (d : Int) := by rw [IntKind.wrap_i64]; have := HD.out; omega
    have hw1 : IntKind.i64.wrap ((d : Int) + 1) = (p : Int) := by rw [IntKind.wrap_i64]; have := HD.out; have := HPD.out; omega
    by_cases h1 : n ≤ p
    · have HE : Hid (isHp M) := dn_end HM.out.2.1 (fun j j0 jl jp => by have := HP1.out; rcases par_eq j0 jp with h | h <;> (rw [HM.out.1] at jl; omega))
      have hge : (n : Int) ≤ (p : Int) := by omega
      clear h1
      go_wp2
      go_ret
      exact ⟨⟨_, rfl⟩, M, KW.out, HE.out, HM.out.1, HM.out.2.2, GW.out⟩
    · have hp1 : p < n := by omega
      have hkp : k < p := by have := HP1.out; omega
      have hkn : k < n := by omega
      have hge : ¬ ((n : Int) ≤ (p : Int)) := by omega
      have hp0 : ¬ ((p : Int) < 0) := by omega
      obtain ⟨r, HR⟩ : ∃ r, Hid (p + 1 = r) := ⟨_, rfl⟩
      have hw2 : IntKind.i64.wrap ((p : Int) + 1) = (r : Int) := by rw [IntKind.wrap_i64]; have := HR.out; omega
      clear h1
      have CLS : Hid (∀ (W : World) (i j : Nat), HP W B hb (.slice (some ⟨g, 0, none⟩) (n + 1) c) (M ++ [x]) → i < n → j < n → Calls Try.prog 83 #[.pointer (some ⟨hb, 0, none⟩), .int .i64 i, .int .i64 j] W fun e w' => e = .returned (.bool (ltB (M.getD i e0) (M.getD j e0))) ∧ Below W.heap.size W w') := fun W i j hW hi hj => by
        have := less_any B hb g (n + 1) c i j (M ++ [x]) W hW HLEN.out (by omega) (by omega)
        rw [app_at M x (by rw [HM.out.1]; exact hi), app_at M x (by rw [HM.out.1]; exact hj)] at this
        exact this
      have CSW : Hid (∀ (W : World) (i j : Nat), HP W B hb (.slice (some ⟨g, 0, none⟩) (n + 1) c) (M ++ [x]) → i < n → j < n → Calls Try.prog 86 #[.pointer (some ⟨hb, 0, none⟩), .int .i64 i, .int .i64 j] W fun e w' => e = .returned (.tuple #[]) ∧ HP w' B hb (.slice (some ⟨g, 0, none⟩) (n + 1) c) (swp M i j ++ [x]) ∧ W.grownBy w' (some g)) := fun W i j hW hi hj => by
        have := swap_any B hb g (n + 1) c i j (M ++ [x]) W hW HLEN.out (by omega) (by omega)
        rw [swp_app M x (by rw [HM.out.1]; exact hi) (by rw [HM.out.1]; exact hj)] at this
        exact this
      by_cases h2 : r < n
      · have hlt2 : (r : Int) < (n : Int) := by omega
        obtain ⟨b, HB⟩ : ∃ b, Hid (ltB (M.getD r e0) (M.getD p e0) = b) := ⟨_, rfl⟩
        have CL := CLS.out wr r p KW.out h2 hp1
        rw [HB.out] at CL
        go_wp2_with fail
        refine CL.mono ?_
        rintro e w1 ⟨rfl, hb1⟩
        have K1 : Hid (HP w1 B hb (.slice (some ⟨g, 0, none⟩) (n + 1) c) (M ++ [x])) := KW.out.below hb1
        have G1 : Hid (GrownBut (hpS hb (.slice (some ⟨g, 0, none⟩) (n + 1) c)) w w1) := GW.out.trans (GrownBut.of_below hb1)
        clear hb1 CL KW GW
        cases b
        · have HMIN : Hid (∀ i, 0 < i → i < M.length → par i = k → leE (M.getD p e0) (M.getD i e0)) := fun i i0 il ip => by
            rcases par_eq i0 ip with h | h
            · rw [h, HP1.out]; exact leE.rf _
            · rw [show i = r by have := HP1.out; have := HR.out; omega]
              exact HB.out
          have HPAR : Hid (par p = k) := by show _ = _; rw [← HP1.out]; exact par_one k
          clear h2 hlt2 HB
          have CL := CLS.out w1 p k K1.out hp1 hkn
          obtain ⟨b2, HB2⟩ : ∃ b, Hid (ltB (M.getD p e0) (M.getD k e0) = b) := ⟨_, rfl⟩
          rw [HB2.out] at CL
          go_wp2_with fail
          refine CL.mono ?_
          rintro e w2 ⟨rfl, hb2⟩
          have K2 : Hid (HP w2 B hb (.slice (some ⟨g, 0, none⟩) (n + 1) c) (M ++ [x])) := K1.out.below hb2
          have G2 : Hid (GrownBut (hpS hb (.slice (some ⟨g, 0, none⟩) (n + 1) c)) w w2) := G1.out.trans (GrownBut.of_below hb2)
          clear hb2 CL K1 G1
          cases b2
          · have HE : Hid (isHp M) := dn_end HM.out.2.1 (fun i i0 il ip => leE.tr HB2.out (HMIN.out i i0 il ip))
            go_wp2
            go_ret
            exact ⟨⟨_, rfl⟩, M, K2.out, HE.out, HM.out.1, HM.out.2.2, G2.out⟩
          · have HU : Hid (dnI (swp M k p) p) := dn_step HM.out.2.1 (by have := HR.out; omega) (by rw [HM.out.1]; exact hp1) HPAR.out HMIN.out HB2.out
            have CS := CSW.out w2 k p K2.out hkn hp1
            go_wp2_with fail
            refine CS.mono ?_
            rintro e w3 ⟨rfl, hh3, hg3⟩
            have G3 : Hid (GrownBut (hpS hb (.slice (some ⟨g, 0, none⟩) (n + 1) c)) w w3) := G2.out.trans (GrownBut.of_grown hg3 (.inr rfl))
            have K3 : Hid (HP w3 B hb (.slice (some ⟨g, 0, none⟩) (n + 1) c) (swp M k p ++ [x])) := hh3
            have HM3 : Hid ((swp M k p).length = n ∧ ∀ y, y ∈ swp M k p ↔ y ∈ L) := ⟨by rw [swp_len]; exact HM.out.1, fun y => (swp_mem (by rw [HM.out.1]; exact hkn) (by rw [HM.out.1]; exact hp1) y).trans (HM.out.2.2 y)⟩
            clear hh3 hg3 G2 K2 CS
            go_wp2_with fail
            go_roundw
            case rel => exact ⟨p, swp M k p, rfl, by omega, K3.out, HM3.out.1, HU.out, HM3.out.2, G3.out⟩
            case measure => have := HR.out; simp [intOf]; omega
        · have HMIN : Hid (∀ i, 0 < i → i < M.length → par i = k → leE (M.getD r e0) (M.getD i e0)) := fun i i0 il ip => by
            rcases par_eq i0 ip with h | h
            · rw [h, HP1.out]; exact leE.lt HB.out
            · rw [show i = r by have := HP1.out; have := HR.out; omega]
              exact leE.rf _
          have HPAR : Hid (par r = k) := by show _ = _; rw [← HR.out, ← HP1.out]; exact par_two k
          clear hlt2 HB
          have CL := CLS.out w1 r k K1.out h2 hkn
          obtain ⟨b2, HB2⟩ : ∃ b, Hid (ltB (M.getD r e0) (M.getD k e0) = b) := ⟨_, rfl⟩
          rw [HB2.out] at CL
          go_wp2_with fail
          refine CL.mono ?_
          rintro e w2 ⟨rfl, hb2⟩
          have K2 : Hid (HP w2 B hb (.slice (some ⟨g, 0, none⟩) (n + 1) c) (M ++ [x])) := K1.out.below hb2
          have G2 : Hid (GrownBut (hpS hb (.slice (some ⟨g, 0, none⟩) (n + 1) c)) w w2) := G1.out.trans (GrownBut.of_below hb2)
          clear hb2 CL K1 G1
          cases b2
          · have HE : Hid (isHp M) := dn_end HM.out.2.1 (fun i i0 il ip => leE.tr HB2.out (HMIN.out i i0 il ip))
            go_wp2
            go_ret
            exact ⟨⟨_, rfl⟩, M, K2.out, HE.out, HM.out.1, HM.out.2.2, G2.out⟩
          · have HU : Hid (dnI (swp M k r) r) := dn_step HM.out.2.1 (by have := HR.out; omega) (by rw [HM.out.1]; exact h2) HPAR.out HMIN.out HB2.out
            have CS := CSW.out w2 k r K2.out hkn h2
            go_wp2_with fail
            refine CS.mono ?_
            rintro e w3 ⟨rfl, hh3, hg3⟩
            have G3 : Hid (GrownBut (hpS hb (.slice (some ⟨g, 0, none⟩) (n + 1) c)) w w3) := G2.out.trans (GrownBut.of_grown hg3 (.inr rfl))
            have K3 : Hid (HP w3 B hb (.slice (some ⟨g, 0, none⟩) (n + 1) c) (swp M k r ++ [x])) := hh3
            have HM3 : Hid ((swp M k r).length = n ∧ ∀ y, y ∈ swp M k r ↔ y ∈ L) := ⟨by rw [swp_len]; exact HM.out.1, fun y => (swp_mem (by rw [HM.out.1]; exact hkn) (by rw [HM.out.1]; exact h2) y).trans (HM.out.2.2 y)⟩
            clear hh3 hg3 G2 K2 CS
            go_wp2_with fail
            go_roundw
            case rel => exact ⟨r, swp M k r, rfl, by omega, K3.out, HM3.out.1, HU.out, HM3.out.2, G3.out⟩
            case measure => have := HR.out; simp [intOf]; omega
      · have hlt2 : ¬ ((r : Int) < (n : Int)) := by omega
        have HMIN : Hid (∀ i, 0 < i → i < M.length → par i = k → leE (M.getD p e0) (M.getD i e0)) := fun i i0 il ip => by
          rcases par_eq i0 ip with h | h
          · rw [h, HP1.out]; exact leE.rf _
          · rw [HM.out.1] at il; have := HP1.out; have := HR.out; omega
        have HPAR : Hid (par p = k) := by show _ = _; rw [← HP1.out]; exact par_one k
        have K1 : Hid (HP wr B hb (.slice (some ⟨g, 0, none⟩) (n + 1) c) (M ++ [x])) := KW.out
        have G1 : Hid (GrownBut (hpS hb (.slice (some ⟨g, 0, none⟩) (n + 1) c)) w wr) := GW.out
        clear KW GW
        generalize hw1e : wr = w1 at *
        clear hw1e
        have CL := CLS.out w1 p k K1.out hp1 hkn
        obtain ⟨b2, HB2⟩ : ∃ b, Hid (ltB (M.getD p e0) (M.getD k e0) = b) := ⟨_, rfl⟩
        rw [HB2.out] at CL
        go_wp2_with fail
        refine CL.mono ?_
        rintro e w2 ⟨rfl, hb2⟩
        have K2 : Hid (HP w2 B hb (.slice (some ⟨g, 0, none⟩) (n + 1) c) (M ++ [x])) := K1.out.below hb2
        have G2 : Hid (GrownBut (hpS hb (.slice (some ⟨g, 0, none⟩) (n + 1) c)) w w2) := G1.out.trans (GrownBut.of_below hb2)
        clear hb2 CL K1 G1
        cases b2
        · have HE : Hid (isHp M) := dn_end HM.out.2.1 (fun i i0 il ip => leE.tr HB2.out (HMIN.out i i0 il ip))
          go_wp2
          go_ret
          exact ⟨⟨_, rfl⟩, M, K2.out, HE.out, HM.out.1, HM.out.2.2, G2.out⟩
        · have HU : Hid (dnI (swp M k p) p) := dn_step HM.out.2.1 (by have := HR.out; omega) (by rw [HM.out.1]; exact hp1) HPAR.out HMIN.out HB2.out
          have CS := CSW.out w2 k p K2.out hkn hp1
          go_wp2_with fail
          refine CS.mono ?_
          rintro e w3 ⟨rfl, hh3, hg3⟩
          have G3 : Hid (GrownBut (hpS hb (.slice (some ⟨g, 0, none⟩) (n + 1) c)) w w3) := G2.out.trans (GrownBut.of_grown hg3 (.inr rfl))
          have K3 : Hid (HP w3 B hb (.slice (some ⟨g, 0, none⟩) (n + 1) c) (swp M k p ++ [x])) := hh3
          have HM3 : Hid ((swp M k p).length = n ∧ ∀ y, y ∈ swp M k p ↔ y ∈ L) := ⟨by rw [swp_len]; exact HM.out.1, fun y => (swp_mem (by rw [HM.out.1]; exact hkn) (by rw [HM.out.1]; exact hp1) y).trans (HM.out.2.2 y)⟩
          clear hh3 hg3 G2 K2 CS
          go_wp2_with fail
          go_roundw
          case rel => exact ⟨p, swp M k p, rfl, by omega, K3.out, HM3.out.1, HU.out, HM3.out.2, G3.out⟩
          case measure => have := HR.out; simp [intOf]; omega

end Go.Proofs.Ytaehhlkpbhmdfaa

namespace Go.Proofs.Ytaehhlkpbhmdfaa
open Go.RowKit

/-- The queue is a heap with one more. -/
def PutOk (w : World) (B hb : Nat) (v : Value) (L : List ED) (x : ED) (e : Ending) (w' : World) : Prop := ∃ v' L', e = .returned (.tuple #[]) ∧ HP w' B hb v' L' ∧ isHp L' ∧ L'.length = L.length + 1 ∧ (∀ y, y ∈ L' ↔ y ∈ L ∨ y = x) ∧ GrownBut (hpS hb v) w w' ∧ (∀ b, v'.ownBlock = some b → v.ownBlock = some b ∨ w.heap.size ≤ b)

set_option maxHeartbeats 1000000 in
theorem push_any (B hb : Nat) (v : Value) (L : List ED) (x : ED) (w : World) (h : HP w B hb v L) (hh : isHp L) (hn : L.length ≤ 900) (hB : B ≤ w.heap.size) :
    Calls Try.prog 77 #[.iface 58 (.pointer (some ⟨hb, 0, none⟩)), .iface 32 (.agg #[.int .i64 x.a, .int .i64 x.b, .int .i64 x.t])] w (PutOk w B hb v L x) := by
  have hm1 := fun (q : Nat) (W : World) => mhPush q (.pointer (some ⟨hb, 0, none⟩)) W
  have hm2 := fun (q : Nat) (W : World) => mhLen q (.pointer (some ⟨hb, 0, none⟩)) W
  have CP := heapPush_any B hb v L x w h (by omega) hB
  have HHP : Hid (isHp L) := hh
  clear h hh
  go_enter Try.func77, Try.ntmps77
  go_wp2_with fail
  refine CP.mono ?_
  rintro e w1 ⟨v1, rfl, h1, hg1, hv1⟩
  have K1 : Hid (HP w1 B hb v1 (L ++ [x])) := h1
  have G1 : Hid (GrownBut (hpS hb v) w w1) := hg1
  have V1 : Hid (∀ b, v1.ownBlock = some b → v.ownBlock = some b ∨ w.heap.size ≤ b) := hv1
  clear CP h1 hg1 hv1
  have CN := heapLen_any B hb v1 (L ++ [x]) w1 K1.out
  obtain ⟨n, HN⟩ : ∃ n, Hid (L.length = n) := ⟨_, rfl⟩
  obtain ⟨m, HMM⟩ : ∃ m, Hid (n + 1 = m) := ⟨_, rfl⟩
  have hlm : (L ++ [x]).length = m := by rw [List.length_append, HN.out, ← HMM.out]; rfl
  rw [hlm] at CN
  rw [HN.out] at hn
  have hw1 : IntKind.i64.wrap ((m : Int) - 1) = (n : Int) := by rw [IntKind.wrap_i64]; have := HMM.out; omega
  obtain ⟨g, c, e, -, -⟩ := K1.out.sl (by rw [hlm]; have := HMM.out; omega)
  rw [hlm] at e
  subst e
  have CU := up_any B hb g m c n (L ++ [x]) w1 K1.out hlm (by have := HMM.out; omega) (by have := up_new HHP.out x; rw [HN.out] at this; exact this) (by have := HMM.out; omega)
  go_wp2_with fail
  refine CN.mono ?_
  rintro e w2 ⟨rfl, hw⟩
  subst hw
  go_wp2_with fail
  refine CU.mono ?_
  rintro e w3 ⟨rfl, L3, h3, hp3, hl3, hm3, hg3⟩
  have TOLD : PutOk w B hb v L x (.returned (.tuple #[])) w3 := ⟨_, L3, rfl, h3, hp3, by rw [hl3, HN.out, HMM.out], fun y => (hm3 y).trans (by simp), G1.out.step hg3 (fun b hb9 h9 => by
    rcases h9 with h9 | h9
    · exact .inl h9
    · rcases V1.out b h9 with h8 | h8
      · exact .inr h8
      · omega), V1.out⟩
  clear h3 hp3 hl3 hm3 hg3 CU CN
  go_wp2
  first | refine bodyPost_end (results_none rfl _ _ _) rfl ?_ | refine bodyPost_ret (results_none rfl _ _ _) rfl ?_
  exact TOLD

set_option maxHeartbeats 1000000 in
theorem put_any (B hb : Nat) (v : Value) (L : List ED) (x : ED) (w : World) (h : HP w B hb v L) (hh : isHp L) (hn : L.length ≤ 900) (hB : B ≤ w.heap.size) :
    Calls Try.prog 75 #[.pointer (some ⟨hb, 0, none⟩), .agg #[.int .i64 x.a, .int .i64 x.b, .int .i64 x.t]] w (PutOk w B hb v L x) := by
  obtain ⟨xa, xb, xt⟩ := x
  have HB : Hid (Below w.heap.size w (w.alloc (.cells #[.int .i64 xa, .int .i64 xb, .int .i64 xt] 32))) := (Below.refl _ _).alloc (Nat.le_refl _) _
  have CP := push_any B hb v L ⟨xa, xb, xt⟩ _ (h.below HB.out) hh hn (Nat.le_trans hB HB.out.size)
  obtain ⟨x0, x1, x2⟩ := cells3 (heap_alloc_new w (.cells #[.int .i64 xa, .int .i64 xb, .int .i64 xt] 32))
  simp only at CP
  clear h hh
  go_enter Try.func75, Try.ntmps75
  go_wp2_with fail
  refine CP.mono ?_
  rintro e w3 ⟨v3, L3, rfl, h3, hp3, hl3, hm3, hg3, hv3⟩
  have TOLD : PutOk w B hb v L ⟨xa, xb, xt⟩ (.returned (.tuple #[])) w3 := ⟨v3, L3, rfl, h3, hp3, hl3, hm3, (GrownBut.of_below HB.out).trans hg3, fun b e => by
    rcases hv3 b e with h9 | h9
    · exact .inl h9
    · exact .inr (Nat.le_trans HB.out.size h9)⟩
  clear h3 hp3 hl3 hm3 hg3 hv3 CP x0 x1 x2
  go_wp2
  first | refine bodyPost_end (results_none rfl _ _ _) rfl ?_ | refine bodyPost_ret (results_none rfl _ _ _) rfl ?_
  exact TOLD

/-- The first one is taken. -/
def PopOk (w : World) (B hb : Nat) (v : Value) (L : List ED) (w' : World) : Prop := ∃ v' L', HP w' B hb v' L' ∧ isHp L' ∧ L'.length + 1 = L.length ∧ (∀ y, y ∈ L ↔ y = L.getD 0 e0 ∨ y ∈ L') ∧ GrownBut (hpS hb v) w w' ∧ (∀ b, v'.ownBlock = some b → v.ownBlock = some b)
def topE (L : List ED) : Value := .agg #[.int .i64 (L.getD 0 e0).a, .int .i64 (L.getD 0 e0).b, .int .i64 (L.getD 0 e0).t]

set_option maxHeartbeats 1000000 in
theorem pop_any (B hb : Nat) (v : Value) (L : List ED) (w : World) (h : HP w B hb v L) (hh : isHp L) (hn : L.length ≤ 1000) (h0 : 0 < L.length) :
    Calls Try.prog 78 #[.iface 58 (.pointer (some ⟨hb, 0, none⟩))] w fun e w' => e = .returned (.iface 32 (topE L)) ∧ PopOk w B hb v L w' := by
  have hm1 := fun (q : Nat) (W : World) => mhPop q (.pointer (some ⟨hb, 0, none⟩)) W
  have hm2 := fun (q : Nat) (W : World) => mhLen q (.pointer (some ⟨hb, 0, none⟩)) W
  have hm3 := fun (q : Nat) (W : World) => mhSwap q (.pointer (some ⟨hb, 0, none⟩)) W
  obtain ⟨n, HN⟩ : ∃ n, Hid (L.length = n + 1) := ⟨L.length - 1, by show _ = _; omega⟩
  obtain ⟨m, HMM⟩ : ∃ m, Hid (n + 1 = m) := ⟨_, rfl⟩
  obtain ⟨g, c, e, -, -⟩ := h.sl h0
  have hcap : n + 1 ≤ c := by
    rw [e, HN.out] at h
    rcases h.o.2 with ⟨h1, _⟩ | ⟨g', c', cur, h1, _, _, h4, _⟩
    · cases h1
    · simp only [Value.slice.injEq, Option.some.injEq, Addr.mk.injEq, and_true] at h1
      obtain ⟨-, -, e9⟩ := h1
      rw [e9, ← HN.out]
      exact h4
  rw [HN.out, HMM.out] at e
  subst e
  have CN := heapLen_any B hb _ L w h
  rw [HN.out, HMM.out] at CN
  have hw1 : IntKind.i64.wrap ((m : Int) - 1) = (n : Int) := by rw [IntKind.wrap_i64]; have := HMM.out; rw [HN.out] at hn; omega
  have CS := swap_any B hb g m c 0 n L w h (by rw [HN.out, HMM.out]) (by have := HMM.out; omega) (by have := HMM.out; omega)
  have HDN : Hid (dnI ((swp L 0 n).take n) 0) := pop_dn hh HN.out
  have HTL : Hid (((swp L 0 n).take n).length = n) := by show _ = _; rw [List.length_take, swp_len, HN.out]; omega
  have HSW : Hid (swp L 0 n = (swp L 0 n).take n ++ [L.getD 0 e0]) := swp_last L HN.out
  have HMEM : Hid (∀ y, y ∈ L ↔ y = L.getD 0 e0 ∨ y ∈ (swp L 0 n).take n) := fun y => pop_mem HN.out y
  have hn9 : n ≤ 1000 := by rw [HN.out] at hn; omega
  unfold topE
  obtain ⟨x, HX⟩ : ∃ x, Hid (L.getD 0 e0 = x) := ⟨_, rfl⟩
  rw [HX.out] at HSW HMEM ⊢
  rw [HSW.out] at CS
  generalize (swp L 0 n).take n = M at *
  obtain ⟨xa, xb, xt⟩ := x
  simp only at CS HMEM ⊢
  clear h hh hn h0 HSW
  go_enter Try.func78, Try.ntmps78
  go_wp2_with fail
  refine CN.mono ?_
  rintro e w1 ⟨rfl, hw⟩
  subst hw
  go_wp2_with fail
  refine CS.mono ?_
  rintro e w2 ⟨rfl, h2, hg2⟩
  have K2 : Hid (HP w2 B hb (.slice (some ⟨g, 0, none⟩) (n + 1) c) (M ++ [⟨xa, xb, xt⟩])) := by rw [HMM.out]; exact h2
  have G2 : Hid (GrownBut (hpS hb (.slice (some ⟨g, 0, none⟩) m c)) w1 w2) := GrownBut.of_grown hg2 (.inr rfl)
  clear h2 hg2 CS CN
  have CD := down_any B hb g n c M ⟨xa, xb, xt⟩ w2 K2.out HTL.out HDN.out hn9
  go_wp2_with fail
  refine CD.mono ?_
  rintro e w3 ⟨⟨b, rfl⟩, M3, h3, hp3, hl3, hm3, hg3⟩
  have K3 : Hid (HP w3 B hb (.slice (some ⟨g, 0, none⟩) (n + 1) c) (M3 ++ [⟨xa, xb, xt⟩])) := h3
  have HM3 : Hid (isHp M3 ∧ M3.length = n ∧ ∀ y, y ∈ M3 ↔ y ∈ M) := ⟨hp3, hl3, hm3⟩
  have G3 : Hid (GrownBut (hpS hb (.slice (some ⟨g, 0, none⟩) m c)) w1 w3) := G2.out.step hg3 (fun b _ h9 => h9)
  clear h3 hp3 hl3 hm3 hg3 CD G2 K2
  have CP := heapPopM_any B hb g n c M3 ⟨xa, xb, xt⟩ w3 K3.out HM3.out.2.1 hn9 hcap
  simp only at CP
  go_wp2_with fail
  refine CP.mono ?_
  rintro e w4 ⟨rfl, h4, hg4⟩
  have TOLD : Hid (PopOk w1 B hb (.slice (some ⟨g, 0, none⟩) m c) L w4) := ⟨_, M3, h4, HM3.out.1, by rw [HM3.out.2.1, HN.out], fun y => (HMEM.out y).trans (by rw [HX.out, HM3.out.2.2 y]), G3.out.step hg4 (fun b _ h9 => h9), fun b e => e⟩
  clear h4 hg4 CP
  go_wp2
  go_ret
  exact ⟨rfl, TOLD.out⟩

end Go.Proofs.Ytaehhlkpbhmdfaa

namespace Go.Proofs.Ytaehhlkpbhmdfaa
open Go.RowKit

/-- Where an append to a slice of the call's own ends: in the row that was, or in a new block. -/
theorem append_block {P : Program} (w : World) (base : Nat) (t ty e : TypeId) (i : TypeInfo) (z : Value) (size bytes : Nat) (ht : P.underlying t = some (.slice e)) (hi : P.info? e = some i) (hz : i.zero = some z)
    (hsize : i.size = size) (hby : i.bytes = bytes) (v : Value) (n : Nat) (xs : List Value) (hown : w.ownsRow base e size v n xs)
    (a : Addr) (m c : Nat) (news : List Value) (hl : news.length = m * size) (hnews : ∀ j u, news[j]? = some u → w.cell? (a.add j) = some u) (h1 : ∀ u ∈ news, u.oneCell' = true)
    (h63 : n + m ≤ maxLen) (hbytes : (n + m) * bytes ≤ 140737488355328) {v' : Value} {w' : World} (hrun : (Builtin.append_ #[t, t] ty #[v, .slice (some a) m c]).run P w = .ok v' w') : v'.ownBlock = v.ownBlock ∨ v'.ownBlock = some w.heap.size := by
  subst hsize
  subst hby
  have hsmall : n + m ≤ 9223372036854775807 := by simp only [maxLen] at h63; omega
  rcases hown.2 with ⟨rfl, rfl⟩ | ⟨g, cap, cur, rfl, hbg, hg, hnc, hcm, hcs, htake⟩
  · by_cases hm : m = 0
    · subst hm
      have hn : news = [] := List.eq_nil_of_length_eq_zero (by simpa using hl)
      subst hn
      simp [Builtin.append_, run_underlying ht, sizeOf, typeInfo, hi, Builtin.lenOf, Builtin.firstCells, loadCells, loadCellsFrom] at hrun
      rw [← hrun.1]
      exact .inl rfl
    · have hr := run_append_nil (P := P) w t ty e i z ht hi hz a m c news hl hnews (by omega) (by omega) (by have hb := hbytes; simp only [Nat.zero_add] at hb; omega)
      rw [hr] at hrun
      injection hrun with e1 e2
      rw [← e1]
      exact .inr rfl
  · by_cases hroom : n + m ≤ cap
    · have hfit : n * i.size + news.length ≤ cur.size := by rw [hl, hcs, ← Nat.add_mul]; exact Nat.mul_le_mul_right _ hroom
      have hr := run_append_room (P := P) w t ty e i ht hi g n cap cur hg a m c news hl hnews h1 hroom hfit
      rw [hr] at hrun
      injection hrun with e1 e2
      rw [← e1]
      exact .inl rfl
    · have holds : ∀ j u, xs[j]? = some u → w.cell? ((⟨g, 0, none⟩ : Addr).add j) = some u := hown.cells (g := g) rfl
      have hr := run_append_grow (P := P) w t ty e i z ht hi hz ⟨g, 0, none⟩ n cap xs hown.1 holds a m c news hl hnews (by omega) (by omega) (growslice_fits (by omega) hbytes)
      rw [hr] at hrun
      injection hrun with e1 e2
      rw [← e1]
      exact .inr rfl

theorem exec_append' {P : Program} {o : Oper} {a : Act} {w w' : World} {v : Value} (s x : Operand) (t : TypeId) (vs vx : Value) (ho : o.op = .call { callee := .builtin .append, args := #[s, x], argTypes := #[t, t] })
    (hs : a.eval s = vs) (hx : a.eval x = vx) (hr : (Builtin.append_ #[t, t] o.type #[vs, vx]).run P w = .ok v w') : (execOp a.eval o).run P w = .ok (.value v) w' := by
  unfold execOp
  simp only [ho, resolve, invoke, builtin, Sem.run_bind, Sem.run_pure, Result.andThen_ok, List.map_toArray, List.map_cons, List.map_nil, hs, hx, hr]

/-- 'append' of numbers to a slice of the call's own. -/
theorem append_many (w : World) {ops : Array Oper} {rest : List Oper} {o : Oper} {a : Act} {Q : Exit → Act → World → Prop}
    (hg : o.guard = none) (s x : Operand) (hop : o.op = Op.call { callee := Callee.builtin Builtin.append, args := #[s, x], argTypes := #[24, 24] })
    (base : Nat) (v : Value) (k : Nat) (xs : List Int) (hs : a.eval s = v) (hown : w.ownsRow base 2 1 v k (xs.map (Value.int .i64))) (b off m c : Nat) (ys : List Int) (hx : a.eval x = .slice (some ⟨b, off, none⟩) m c)
    (hy : ys.length = m) (hc : IntsAt w (some ⟨b, off, none⟩) ys) (b1 : k ≤ 1000) (b2 : m ≤ 1000) (hb : base ≤ w.heap.size)
    (hK : ∀ v' w', w'.ownsRow base 2 1 v' (k + m) ((xs ++ ys).map (Value.int .i64)) → w.grownBy w' v.ownBlock → (v'.ownBlock = v.ownBlock ∨ v'.ownBlock = some w.heap.size) → (v' = .slice none 0 0 ↔ v = .slice none 0 0 ∧ m = 0) → wpList Try.prog ops Q rest (a.put o.dst v') w') :
    wpList Try.prog ops Q (o :: rest) a w := by
  obtain ⟨i0, hi, hz0, hz1, hz2⟩ := info_parts Try.info2
  have hnews : ∀ j u, (ys.map (Value.int .i64))[j]? = some u → w.cell? ((⟨b, off, none⟩ : Addr).add j) = some u := by
    intro j u hu
    have hj : j < ys.length := by
      rcases Nat.lt_or_ge j ys.length with h' | h'
      · exact h'
      · simp [List.getElem?_eq_none (by simpa using h' : (ys.map (Value.int .i64)).length ≤ j)] at hu
    obtain ⟨b', off', e, hcc⟩ := hc j hj
    simp at e
    obtain ⟨rfl, rfl⟩ := e
    have hadd : (⟨b, off, none⟩ : Addr).add j = ⟨b, off + j, none⟩ := by unfold Addr.add; split <;> simp_all
    rw [hadd, hcc, ← hu]
    simp [List.getD, hj]
  have h1c : ∀ u ∈ ys.map (Value.int .i64), u.oneCell' = true := by simp [Value.oneCell']
  obtain ⟨v', w', hrun, r1, r2, r3⟩ := run_append_own (P := Try.prog) w base 24 o.type _ i0 _ 1 8 Try.underlying24 hi hz0 hz1 hz2 rfl (by decide) v k (xs.map (Value.int .i64)) hown ⟨b, off, none⟩ m c (ys.map (Value.int .i64)) (by simp [hy]) hnews h1c (by unfold maxLen; omega) (by omega) hb
  have r4 := append_block (P := Try.prog) w base 24 o.type _ i0 _ 1 8 Try.underlying24 hi hz0 hz1 hz2 v k (xs.map (Value.int .i64)) hown ⟨b, off, none⟩ m c (ys.map (Value.int .i64)) (by simp [hy]) hnews h1c (by unfold maxLen; omega) (by omega) hrun
  exact wpList_run v' hg (exec_append' s x _ v _ hop hs hx hrun) (hK v' w' (by rw [List.map_append]; exact r1) r2 r4 r3)

end Go.Proofs.Ytaehhlkpbhmdfaa

namespace Go.Proofs.Ytaehhlkpbhmdfaa
open Go.RowKit

/-- A box of a matrix. -/
def MBx (W : World) (k : Nat) (n : Int) (sl : Value) (T : TypeId) : Prop := W.heap[k]? = some (.cells #[.int .i64 n, sl] T (0, 0))
theorem MBx.below {W W' : World} {k : Nat} {n : Int} {sl : Value} {T : TypeId} (h : MBx W k n sl T) (hb : Below W.heap.size W W') : MBx W' k n sl T := below_row hb (row_lt h) h
theorem MBx.grown {W W' : World} {k : Nat} {n : Int} {sl : Value} {T : TypeId} {r : Option Nat} (h : MBx W k n sl T) (hg : W.grownBy W' r) (hne : some k ≠ r) : MBx W' k n sl T := grown_row hg h hne
theorem MBx.cells {W : World} {k : Nat} {n : Int} {sl : Value} {T : TypeId} (h : MBx W k n sl T) : W.cell? ⟨k, 0, none⟩ = some (.int .i64 n) ∧ W.cell? ⟨k, 1, none⟩ = some sl := by
  have h0 := cell_of_row _ _ 0 _ _ _ h
  have h1 := cell_of_row _ _ 1 _ _ _ h
  simp at h0 h1
  exact ⟨h0, h1⟩

end Go.Proofs.Ytaehhlkpbhmdfaa
