import Derived.Test.YtpahhhocgpohbaaPack0
import Derived.Test.YtpahhhocgpohbaaPack1
import Derived.Deep.RegionLaw
import Derived.WalkKit
namespace Go.Proofs.Ytpahhhocgpohbaa
open Go.RowKit

theorem inf_parts {E : TypeId} {z : Value} {size bytes : Nat} (h : (Try.prog.info? E).map (fun i => (i.zero, i.size, i.bytes)) = some (some z, size, bytes)) : ∃ i0, Try.prog.info? E = some i0 ∧ i0.zero = some z ∧ i0.size = size ∧ i0.bytes = bytes := by
  cases hq : Try.prog.info? E with
  | none => rw [hq] at h; simp at h
  | some i0 =>
    rw [hq] at h
    simp only [Option.map_some, Option.some.injEq, Prod.mk.injEq] at h
    exact ⟨i0, rfl, h.1, h.2.1, h.2.2⟩
theorem add_plain (b off j : Nat) : (⟨b, off, none⟩ : Addr).add j = ⟨b, off + j, none⟩ := by unfold Addr.add; split <;> simp_all

/-- 'append' of elements of any kind (size cells each) to a slice of the call's own. -/
theorem append_vals {T E : TypeId} {z : Value} {size bytes : Nat} (ht : Try.prog.underlying T = some (.slice E)) (hinf : (Try.prog.info? E).map (fun i => (i.zero, i.size, i.bytes)) = some (some z, size, bytes)) (hzs : z.cells.size = size) (hsz : 0 < size)
    (w : World) {ops : Array Oper} {rest : List Oper} {o : Oper} {a : Act} {Q : Exit → Act → World → Prop}
    (hg : o.guard = none) (s x : Operand) (hop : o.op = Op.call { callee := Callee.builtin Builtin.append, args := #[s, x], argTypes := #[T, T] })
    (base : Nat) (v : Value) (k : Nat) (xs : List Value) (hs : a.eval s = v) (hown : w.ownsRow base E size v k xs) (b off m c : Nat) (ys : List Value) (hx : a.eval x = .slice (some ⟨b, off, none⟩) m c)
    (hy : ys.length = m * size) (hc : ∀ j u, ys[j]? = some u → w.cell? ⟨b, off + j, none⟩ = some u) (h1 : ∀ u ∈ ys, u.oneCell' = true) (h63 : k + m ≤ 70368744177663) (hbytes : (k + m) * bytes ≤ 140737488355328) (hb : base ≤ w.heap.size)
    (hK : ∀ v' w', w'.ownsRow base E size v' (k + m) (xs ++ ys) → w.grownBy w' v.ownBlock → (v'.ownBlock = v.ownBlock ∨ v'.ownBlock = some w.heap.size) → (v' = .slice none 0 0 ↔ v = .slice none 0 0 ∧ m = 0) → wpList Try.prog ops Q rest (a.put o.dst v') w') :
    wpList Try.prog ops Q (o :: rest) a w := by
  obtain ⟨i0, hi, hz0, hz1, hz2⟩ := inf_parts hinf
  have hnews : ∀ j u, ys[j]? = some u → w.cell? ((⟨b, off, none⟩ : Addr).add j) = some u := fun j u hu => by rw [add_plain]; exact hc j u hu
  obtain ⟨v', w', hrun, r1, r2, r3⟩ := run_append_own (P := Try.prog) w base T o.type _ i0 _ size bytes ht hi hz0 hz1 hz2 hzs hsz v k xs hown ⟨b, off, none⟩ m c ys hy hnews h1 (by unfold maxLen; omega) hbytes hb
  have r4 := append_blk (P := Try.prog) w base T o.type _ i0 _ size bytes ht hi hz0 hz1 hz2 v k xs hown ⟨b, off, none⟩ m c ys hy hnews h1 (by unfold maxLen; omega) hbytes hrun
  exact wpList_run v' hg (exec_app s x _ v _ hop hs hx hrun) (hK v' w' r1 r2 r4 r3)

/-- The same as a step of a region that draws. -/
theorem step_append_vals {T E : TypeId} {z : Value} {size bytes : Nat} (ht : Try.prog.underlying T = some (.slice E)) (hinf : (Try.prog.info? E).map (fun i => (i.zero, i.size, i.bytes)) = some (some z, size, bytes)) (hzs : z.cells.size = size) (hsz : 0 < size)
    {ops : Array Oper} {o : Oper} {a : Act} {w : World} {K : Act → World → Prop} {Q : Exit → Act → World → Prop} {Els : Prop}
    (hg : o.guard = none) (s x : Operand) (hop : o.op = Op.call { callee := Callee.builtin Builtin.append, args := #[s, x], argTypes := #[T, T] })
    (base : Nat) (v : Value) (k : Nat) (xs : List Value) (hs : a.eval s = v) (hown : w.ownsRow base E size v k xs) (b off m c : Nat) (ys : List Value) (hx : a.eval x = .slice (some ⟨b, off, none⟩) m c)
    (hy : ys.length = m * size) (hc : ∀ j u, ys[j]? = some u → w.cell? ⟨b, off + j, none⟩ = some u) (h1 : ∀ u ∈ ys, u.oneCell' = true) (h63 : k + m ≤ 70368744177663) (hbytes : (k + m) * bytes ≤ 140737488355328) (hb : base ≤ w.heap.size)
    (hK : ∀ v' w', w'.ownsRow base E size v' (k + m) (xs ++ ys) → w.grownBy w' v.ownBlock → (v'.ownBlock = v.ownBlock ∨ v'.ownBlock = some w.heap.size) → (v' = .slice none 0 0 ↔ v = .slice none 0 0 ∧ m = 0) → K (a.put o.dst v') w') :
    if Region.wanted o (yielded ops a.tmps) = true then Oper.wp Try.prog o a w K Q else Els := by
  have hw : Region.wanted o (yielded ops a.tmps) = true := by simp [Region.wanted, hg]
  rw [if_pos hw]
  obtain ⟨i0, hi, hz0, hz1, hz2⟩ := inf_parts hinf
  have hnews : ∀ j u, ys[j]? = some u → w.cell? ((⟨b, off, none⟩ : Addr).add j) = some u := fun j u hu => by rw [add_plain]; exact hc j u hu
  obtain ⟨v', w', hrun, r1, r2, r3⟩ := run_append_own (P := Try.prog) w base T o.type _ i0 _ size bytes ht hi hz0 hz1 hz2 hzs hsz v k xs hown ⟨b, off, none⟩ m c ys hy hnews h1 (by unfold maxLen; omega) hbytes hb
  have r4 := append_blk (P := Try.prog) w base T o.type _ i0 _ size bytes ht hi hz0 hz1 hz2 v k xs hown ⟨b, off, none⟩ m c ys hy hnews h1 (by unfold maxLen; omega) hbytes hrun
  unfold Oper.wp
  simp [execOp, hop, resolve, invoke, builtin, hs, hx, hrun, Result.andThen]
  exact hK _ _ r1 r2 r4 r3

end Go.Proofs.Ytpahhhocgpohbaa

namespace Go.Proofs.Ytpahhhocgpohbaa
open Go.RowKit

theorem grown_row {w w' : World} {row : Option Nat} {k : Nat} {o : Obj} (hg : w.grownBy w' row) (h : w.heap[k]? = some o) (hne : some k ≠ row) : w'.heap[k]? = some o := (hg.block k (row_lt h) hne).trans h

/-- What is owned of a row of numbers lies there. -/
theorem owns_ints {w : World} {base size g n cap : Nat} {e : TypeId} {zs : List Int} (h : w.ownsRow base e size (.slice (some ⟨g, 0, none⟩) n cap) n (zs.map (Value.int .i64))) : IntsAt w (some ⟨g, 0, none⟩) zs := by
  intro j hj
  refine ⟨g, 0, rfl, ?_⟩
  have := h.cells (g := g) rfl j (.int .i64 (zs.getD j 0)) (by simp [List.getD, hj])
  have hadd : (⟨g, 0, none⟩ : Addr).add j = ⟨g, 0 + j, none⟩ := by unfold Addr.add; split <;> simp_all
  rw [hadd] at this
  exact this

theorem owns_below {w w' : World} {base size n : Nat} {e : TypeId} {v : Value} {xs : List Value} (h : w.ownsRow base e size v n xs) (hb : Below w.heap.size w w') : w'.ownsRow base e size v n xs := by
  obtain ⟨h1, h2 | ⟨g, cap, cur, h2, h3, h4, h5⟩⟩ := h
  · exact ⟨h1, .inl h2⟩
  · exact ⟨h1, .inr ⟨g, cap, cur, h2, h3, below_row hb (row_lt h4) h4, h5⟩⟩

theorem own_some {w : World} {base k : Nat} {v : Value} {e : TypeId} {size : Nat} {xs : List Value} (h : w.ownsRow base e size v (k + 1) xs) : ∃ g c, v = .slice (some ⟨g, 0, none⟩) (k + 1) c ∧ base ≤ g := by
  obtain ⟨_, ⟨_, h2⟩ | ⟨g, cap, cur, h2, h3, _⟩⟩ := h
  · omega
  · exact ⟨g, cap, h2, h3⟩
theorem own_shape {w : World} {base k : Nat} {v : Value} {e : TypeId} {size : Nat} {xs : List Value} (h : w.ownsRow base e size v k xs) : v = .slice none 0 0 ∨ ∃ g c, v = .slice (some ⟨g, 0, none⟩) k c := by
  obtain ⟨_, ⟨h1, _⟩ | ⟨g, cap, cur, h2, _⟩⟩ := h
  · exact .inl h1
  · exact .inr ⟨g, cap, h2⟩
theorem owns_base {w : World} {base b0 k : Nat} {v : Value} {e : TypeId} {size : Nat} {xs : List Value} (h : w.ownsRow base e size v k xs) (hb : b0 ≤ base) : w.ownsRow b0 e size v k xs := by
  obtain ⟨h0, h1 | ⟨g, cap, cur, h2, h3, h4⟩⟩ := h
  · exact ⟨h0, .inl h1⟩
  · exact ⟨h0, .inr ⟨g, cap, cur, h2, Nat.le_trans hb h3, h4⟩⟩
theorem owns_set {w : World} {base k b i : Nat} {v u : Value} {e : TypeId} {size : Nat} {xs : List Value} (h : w.ownsRow base e size v k xs) (hb : b < base) : (w.setCell ⟨b, i, none⟩ u).ownsRow base e size v k xs := ownsRow_setCell_below h hb u
theorem owns_at1 {w : World} {base n : Nat} {e : TypeId} {sl : Value} {xs : List Int} (h : w.ownsRow base e 1 sl n (xs.map (Value.int .i64))) : ∃ a c, sl = .slice a xs.length c ∧ xs.length = n ∧ IntsAt w a xs := by
  obtain ⟨h1, ⟨rfl, h2⟩ | ⟨g, cap, cur, rfl, h3, h4, h5⟩⟩ := id h
  · subst h2
    have : xs = [] := by simpa using h1
    subst this
    exact ⟨none, 0, rfl, rfl, fun j hj => by simp at hj⟩
  · have hl : xs.length = n := by simpa using h1
    exact ⟨_, _, by rw [hl], hl, owns_ints h⟩

theorem cell_new1 (W : World) (v : Value) (T : TypeId) (g : Nat) (hg : W.heap.size = g) : (W.alloc (.cells #[v] T)).cell? ⟨g, 0, none⟩ = some v := by
  subst hg
  rw [cell_of_row _ _ 0 _ _ _ (heap_alloc_new W (.cells #[v] T))]
  simp
theorem one_cell {w : World} {ad : Addr} {x0 : Value} (hc : w.cell? ad = some x0) : ∀ j u, [x0][j]? = some u → w.cell? (ad.add j) = some u := by
  intro j u hu
  have hj : j = 0 := by
    rcases j with _ | j
    · rfl
    · simp at hu
  subst hj
  have : ad.add 0 = ad := by unfold Addr.add; split <;> simp_all
  rw [this, hc]
  simpa using hu
theorem append_int (w : World) {ops : Array Oper} {rest : List Oper} {o : Oper} {a : Act} {Q : Exit → Act → World → Prop}
    (hg : o.guard = none) (s x : Operand) (hop : o.op = Op.call { callee := Callee.builtin Builtin.append, args := #[s, x], argTypes := #[30, 30] })
    (base : Nat) (v : Value) (k : Nat) (xs : List Value) (hs : a.eval s = v) (hown : w.ownsRow base 2 1 v k xs) (ad : Addr) (c : Nat) (x0 : Value) (hx : a.eval x = .slice (some ad) 1 c)
    (hc : w.cell? ad = some x0) (h1c : x0.oneCell' = true) (b1 : k ≤ 1000) (hb : base ≤ w.heap.size)
    (hK : ∀ v' w', w'.ownsRow base 2 1 v' (k + 1) (xs ++ [x0]) → w.grownBy w' v.ownBlock → wpList Try.prog ops Q rest (a.put o.dst v') w') :
    wpList Try.prog ops Q (o :: rest) a w := by
  obtain ⟨i0, hi, hz0, hz1, hz2⟩ := info_parts Try.info2
  exact wpList_append_own w hg s x _ hop base _ i0 _ 1 8 Try.underlying30 hi hz0 hz1 hz2 rfl (by decide) v k xs hs hown ad 1 c [x0] hx rfl (one_cell hc) (by simpa using h1c) (by unfold maxLen; omega) (by omega) hb (fun v' w' h1 h2 _ => hK v' w' h1 h2)

/-- 'append' of a number to a slice of the call's own, as a step of a region that draws. -/
theorem step_append_int {ops : Array Oper} {o : Oper} {a : Act} {w : World} {K : Act → World → Prop} {Q : Exit → Act → World → Prop} {E : Prop}
    (hg : o.guard = none) (s x : Operand) (hop : o.op = Op.call { callee := Callee.builtin Builtin.append, args := #[s, x], argTypes := #[30, 30] })
    (base : Nat) (v : Value) (k : Nat) (xs : List Value) (hs : a.eval s = v) (hown : w.ownsRow base 2 1 v k xs) (ad : Addr) (c : Nat) (x0 : Value) (hx : a.eval x = .slice (some ad) 1 c)
    (hc : w.cell? ad = some x0) (h1c : x0.oneCell' = true) (b1 : k ≤ 1000) (hb : base ≤ w.heap.size)
    (hK : ∀ v' w', w'.ownsRow base 2 1 v' (k + 1) (xs ++ [x0]) → w.grownBy w' v.ownBlock → K (a.put o.dst v') w') :
    if Region.wanted o (yielded ops a.tmps) = true then Oper.wp Try.prog o a w K Q else E := by
  have hw : Region.wanted o (yielded ops a.tmps) = true := by simp [Region.wanted, hg]
  rw [if_pos hw]
  obtain ⟨i0, hi, hz0, hz1, hz2⟩ := info_parts Try.info2
  obtain ⟨v', w', hrun, r1, r2, _⟩ := run_append_own (P := Try.prog) w base 30 o.type _ i0 _ 1 8 Try.underlying30 hi hz0 hz1 hz2 rfl (by decide) v k xs hown ad 1 c [x0] rfl (one_cell hc) (by simpa using h1c) (by unfold maxLen; omega) (by omega) hb
  unfold Oper.wp
  simp [execOp, hop, resolve, invoke, builtin, hs, hx, hrun, Result.andThen]
  exact hK _ _ r1 r2

end Go.Proofs.Ytpahhhocgpohbaa

namespace Go.Proofs.Ytpahhhocgpohbaa
open Go.RowKit

/-- Where an append to a slice of the call's own ends: in the row that was, or in a new block. -/
theorem append_block {P : Program} (w : World) (base : Nat) (t ty e : TypeId) (i : TypeInfo) (z : Value) (size bytes : Nat) (ht : P.underlying t = some (.slice e)) (hi : P.info? e = some i) (hz : i.zero = some z)
    (hsize : i.size = size) (hby : i.bytes = bytes) (v : Value) (n : Nat) (xs : List Value) (hown : w.ownsRow base e size v n xs)
    (a : Addr) (m c : Nat) (news : List Value) (hl : news.length = m * size) (hnews : ∀ j u, news[j]? = some u → w.cell? (a.add j) = some u) (h1 : ∀ u ∈ news, u.oneCell' = true)
    (h63 : n + m ≤ maxLen) (hbytes : (n + m) * bytes ≤ 140737488355328) {v' : Value} {w' : World} (hrun : (Builtin.append_ #[t, t] ty #[v, .slice (some a) m c]).run P w = .ok v' w') : v'.ownBlock = v.ownBlock ∨ v'.ownBlock = some w.heap.size := by
  subst hsize
  subst hby
  have hsmall : n + m ≤ 9223372036854775807 := by simp only [maxLen] at h63; omega
  rcases hown.2 with ⟨rfl, rfl⟩ | ⟨g, cap, cur, rfl, hbg, hg, hnc, hcm, hcs, htake⟩
  · by_cases hm : m = 0
    · subst hm
      have hn : news = [] := List.eq_nil_of_length_eq_zero (by simpa using hl)
      subst hn
      simp [Builtin.append_, run_underlying ht, sizeOf, typeInfo, hi, Builtin.lenOf, Builtin.firstCells, loadCells, loadCellsFrom] at hrun
      rw [← hrun.1]
      exact .inl rfl
    · have hr := run_append_nil (P := P) w t ty e i z ht hi hz a m c news hl hnews (by omega) (by omega) (by have hb := hbytes; simp only [Nat.zero_add] at hb; omega)
      rw [hr] at hrun
      injection hrun with e1 e2
      rw [← e1]
      exact .inr rfl
  · by_cases hroom : n + m ≤ cap
    · have hfit : n * i.size + news.length ≤ cur.size := by rw [hl, hcs, ← Nat.add_mul]; exact Nat.mul_le_mul_right _ hroom
      have hr := run_append_room (P := P) w t ty e i ht hi g n cap cur hg a m c news hl hnews h1 hroom hfit
      rw [hr] at hrun
      injection hrun with e1 e2
      rw [← e1]
      exact .inl rfl
    · have holds : ∀ j u, xs[j]? = some u → w.cell? ((⟨g, 0, none⟩ : Addr).add j) = some u := hown.cells (g := g) rfl
      have hr := run_append_grow (P := P) w t ty e i z ht hi hz ⟨g, 0, none⟩ n cap xs hown.1 holds a m c news hl hnews (by omega) (by omega) (growslice_fits (by omega) hbytes)
      rw [hr] at hrun
      injection hrun with e1 e2
      rw [← e1]
      exact .inr rfl

theorem exec_append' {P : Program} {o : Oper} {a : Act} {w w' : World} {v : Value} (s x : Operand) (t : TypeId) (vs vx : Value) (ho : o.op = .call { callee := .builtin .append, args := #[s, x], argTypes := #[t, t] })
    (hs : a.eval s = vs) (hx : a.eval x = vx) (hr : (Builtin.append_ #[t, t] o.type #[vs, vx]).run P w = .ok v w') : (execOp a.eval o).run P w = .ok (.value v) w' := by
  unfold execOp
  simp only [ho, resolve, invoke, builtin, Sem.run_bind, Sem.run_pure, Result.andThen_ok, List.map_toArray, List.map_cons, List.map_nil, hs, hx, hr]

/-- 'append' of numbers to a slice of the call's own. -/
theorem append_many (w : World) {ops : Array Oper} {rest : List Oper} {o : Oper} {a : Act} {Q : Exit → Act → World → Prop}
    (hg : o.guard = none) (s x : Operand) (hop : o.op = Op.call { callee := Callee.builtin Builtin.append, args := #[s, x], argTypes := #[30, 30] })
    (base : Nat) (v : Value) (k : Nat) (xs : List Int) (hs : a.eval s = v) (hown : w.ownsRow base 2 1 v k (xs.map (Value.int .i64))) (b off m c : Nat) (ys : List Int) (hx : a.eval x = .slice (some ⟨b, off, none⟩) m c)
    (hy : ys.length = m) (hc : IntsAt w (some ⟨b, off, none⟩) ys) (b1 : k ≤ 1000) (b2 : m ≤ 1000) (hb : base ≤ w.heap.size)
    (hK : ∀ v' w', w'.ownsRow base 2 1 v' (k + m) ((xs ++ ys).map (Value.int .i64)) → w.grownBy w' v.ownBlock → (v'.ownBlock = v.ownBlock ∨ v'.ownBlock = some w.heap.size) → (v' = .slice none 0 0 ↔ v = .slice none 0 0 ∧ m = 0) → wpList Try.prog ops Q rest (a.put o.dst v') w') :
    wpList Try.prog ops Q (o :: rest) a w := by
  obtain ⟨i0, hi, hz0, hz1, hz2⟩ := info_parts Try.info2
  have hnews : ∀ j u, (ys.map (Value.int .i64))[j]? = some u → w.cell? ((⟨b, off, none⟩ : Addr).add j) = some u := by
    intro j u hu
    have hj : j < ys.length := by
      rcases Nat.lt_or_ge j ys.length with h' | h'
      · exact h'
      · simp [List.getElem?_eq_none (by simpa using h' : (ys.map (Value.int .i64)).length ≤ j)] at hu
    obtain ⟨b', off', e, hcc⟩ := hc j hj
    simp at e
    obtain ⟨rfl, rfl⟩ := e
    have hadd : (⟨b, off, none⟩ : Addr).add j = ⟨b, off + j, none⟩ := by unfold Addr.add; split <;> simp_all
    rw [hadd, hcc, ← hu]
    simp [List.getD, hj]
  have h1c : ∀ u ∈ ys.map (Value.int .i64), u.oneCell' = true := by simp [Value.oneCell']
  obtain ⟨v', w', hrun, r1, r2, r3⟩ := run_append_own (P := Try.prog) w base 30 o.type _ i0 _ 1 8 Try.underlying30 hi hz0 hz1 hz2 rfl (by decide) v k (xs.map (Value.int .i64)) hown ⟨b, off, none⟩ m c (ys.map (Value.int .i64)) (by simp [hy]) hnews h1c (by unfold maxLen; omega) (by omega) hb
  have r4 := append_block (P := Try.prog) w base 30 o.type _ i0 _ 1 8 Try.underlying30 hi hz0 hz1 hz2 v k (xs.map (Value.int .i64)) hown ⟨b, off, none⟩ m c (ys.map (Value.int .i64)) (by simp [hy]) hnews h1c (by unfold maxLen; omega) (by omega) hrun
  exact wpList_run v' hg (exec_append' s x _ v _ hop hs hx hrun) (hK v' w' (by rw [List.map_append]; exact r1) r2 r4 r3)

end Go.Proofs.Ytpahhhocgpohbaa

namespace Go.Proofs.Ytpahhhocgpohbaa
open Go.RowKit

/-- 'append' of numbers whose address is not written out. -/
theorem append_more (w : World) {ops : Array Oper} {rest : List Oper} {o : Oper} {a : Act} {Q : Exit → Act → World → Prop}
    (hg : o.guard = none) (s x : Operand) (hop : o.op = Op.call { callee := Callee.builtin Builtin.append, args := #[s, x], argTypes := #[30, 30] })
    (base : Nat) (v : Value) (k : Nat) (xs : List Int) (hs : a.eval s = v) (hown : w.ownsRow base 2 1 v k (xs.map (Value.int .i64))) (ad : Option Addr) (m c : Nat) (ys : List Int) (hx : a.eval x = .slice ad m c)
    (had : ∃ b off, ad = some ⟨b, off, none⟩) (hy : ys.length = m) (hc : IntsAt w ad ys) (b1 : k ≤ 1000) (b2 : m ≤ 1000) (hb : base ≤ w.heap.size)
    (hK : ∀ v' w', w'.ownsRow base 2 1 v' (k + m) ((xs ++ ys).map (Value.int .i64)) → w.grownBy w' v.ownBlock → (v'.ownBlock = v.ownBlock ∨ v'.ownBlock = some w.heap.size) → (v' = .slice none 0 0 ↔ v = .slice none 0 0 ∧ m = 0) → wpList Try.prog ops Q rest (a.put o.dst v') w') :
    wpList Try.prog ops Q (o :: rest) a w := by
  obtain ⟨b, off, rfl⟩ := had
  exact append_many w hg s x hop base v k xs hs hown b off m c ys hx hy hc b1 b2 hb hK
theorem ints_take' {W : World} {a : Option Addr} {ids : List Int} (h : IntsAt W a ids) (i : Nat) : IntsAt W a (ids.take i) := by
  intro j hj
  have hj' : j < ids.length ∧ j < i := by rw [List.length_take] at hj; omega
  obtain ⟨b, off, e, hc⟩ := h j hj'.1
  refine ⟨b, off, e, ?_⟩
  rw [hc, List.getD_eq_getElem?_getD, List.getD_eq_getElem?_getD, List.getElem?_take, if_pos hj'.2]
theorem ints_drop' {W : World} {b off : Nat} {ids : List Int} (h : IntsAt W (some ⟨b, off, none⟩) ids) (i : Nat) : IntsAt W (some ⟨b, off + i, none⟩) (ids.drop i) := by
  intro j hj
  have hj' : i + j < ids.length := by rw [List.length_drop] at hj; omega
  obtain ⟨b', off', e, hc⟩ := h (i + j) hj'
  simp at e
  obtain ⟨rfl, rfl⟩ := e
  refine ⟨b, off + i, rfl, ?_⟩
  rw [Nat.add_assoc, hc, List.getD_eq_getElem?_getD, List.getD_eq_getElem?_getD, List.getElem?_drop]
theorem ints_cut' {W : World} {b off : Nat} {ids : List Int} (h : IntsAt W (some ⟨b, off, none⟩) ids) (i c2 : Nat) (hc : ids.length ≤ c2) : IntsAt W (if c2 = i then some ⟨b, off, none⟩ else some ⟨b, off + i, none⟩) (ids.drop i) := by
  by_cases e : c2 = i
  · have : ids.drop i = [] := List.drop_eq_nil_of_le (by omega)
    rw [this]
    intro j hj
    simp at hj
  · rw [if_neg e]; exact ints_drop' h i
theorem cut_some' (b off i c2 : Nat) : ∃ b' off', (if c2 = i then some (⟨b, off, none⟩ : Addr) else some ⟨b, off + i, none⟩) = some ⟨b', off', none⟩ := by
  by_cases e : c2 = i
  · exact ⟨b, off, if_pos e⟩
  · exact ⟨b, off + i, if_neg e⟩
theorem cut0_some (g i c2 : Nat) : ∃ b' off', (if c2 = i then some (⟨g, 0, none⟩ : Addr) else some ⟨g, i, none⟩) = some ⟨b', off', none⟩ := by
  have := cut_some' g 0 i c2
  rwa [Nat.zero_add] at this
theorem ints_cut0 {W : World} {g : Nat} {ids : List Int} (h : IntsAt W (some ⟨g, 0, none⟩) ids) (i c2 : Nat) (hc : ids.length ≤ c2) : IntsAt W (if c2 = i then some ⟨g, 0, none⟩ else some ⟨g, i, none⟩) (ids.drop i) := by
  have := ints_cut' h i c2 hc
  rwa [Nat.zero_add] at this
theorem own_sm {w : World} {base k : Nat} {v : Value} {e : TypeId} {size : Nat} {xs : List Value} (h : w.ownsRow base e size v k xs) (hne : v ≠ .slice none 0 0) : ∃ g c, v = .slice (some ⟨g, 0, none⟩) k c := by
  rcases own_shape h with e | e
  · exact absurd e hne
  · exact e
theorem own_cap {w : World} {base k g c : Nat} {e : TypeId} {size : Nat} {xs : List Value} (h : w.ownsRow base e size (.slice (some ⟨g, 0, none⟩) k c) k xs) : k ≤ c := by
  obtain ⟨_, ⟨h1, _⟩ | ⟨g', cap, cur, h2, _, _, h3, _⟩⟩ := h
  · cases h1
  · injection h2 with e1 e2 e3
    omega
theorem not_nil {v v' : Value} {m : Nat} (h : v' = .slice none 0 0 ↔ v = .slice none 0 0 ∧ m = 0) (hv : ∃ g n c, v = .slice (some ⟨g, 0, none⟩) n c) : v' ≠ .slice none 0 0 := by
  intro e
  obtain ⟨g, n, c, rfl⟩ := hv
  have := (h.1 e).1
  simp at this
theorem ints_new1 (W : World) (x : Int) : IntsAt (W.alloc (.cells #[.int .i64 x] 2)) (some ⟨W.heap.size, 0, none⟩) [x] := by
  intro j hj
  have : j = 0 := by simpa using hj
  subst this
  exact ⟨_, _, rfl, cell_new1 W _ _ _ rfl⟩
theorem owns_ints' {w : World} {base g n cap : Nat} {e : TypeId} {zs : List Int} (h : w.ownsRow base e 1 (.slice (some ⟨g, 0, none⟩) n cap) zs.length (zs.map (Value.int .i64))) (hn : zs.length = n) : IntsAt w (some ⟨g, 0, none⟩) zs := by
  rw [hn] at h
  exact owns_ints h
theorem own_at {g n c k : Nat} (e : (Value.slice (some ⟨g, 0, none⟩) n c).ownBlock = some k) : g ≤ k := by
  have : g = k := by injection e
  omega

end Go.Proofs.Ytpahhhocgpohbaa

namespace Go.Proofs.Ytpahhhocgpohbaa
open Go.RowKit

theorem own_put {w : World} {base n g c k : Nat} {e : TypeId} {xs : List Int} (v : Int) (h : w.ownsRow base e 1 (.slice (some ⟨g, 0, none⟩) n c) n (xs.map (Value.int .i64))) (_hk : k < n) : (w.setCell ⟨g, k, none⟩ (.int .i64 v)).ownsRow base e 1 (.slice (some ⟨g, 0, none⟩) n c) n ((xs.set k v).map (Value.int .i64)) := by
  obtain ⟨h0, ⟨h1, _⟩ | ⟨g', cap, cur, h2, h3, h4, h5, h6, h7, h8⟩⟩ := h
  · cases h1
  · simp at h2
    obtain ⟨rfl, rfl⟩ := h2
    refine ⟨by simpa using h0, .inr ⟨g, c, cur.setIfInBounds k (.int .i64 v), rfl, h3, heap_setCell_same w g k cur e _ h4, h5, h6, by simpa using h7, ?_⟩⟩
    rw [Array.toList_setIfInBounds, List.take_set, h8, List.map_set]
/-- A cell of what is owned may be read and written. -/
theorem own_cell {w : World} {base n g c k : Nat} {e : TypeId} {xs : List Int} (h : w.ownsRow base e 1 (.slice (some ⟨g, 0, none⟩) n c) n (xs.map (Value.int .i64))) (hk : k < xs.length) : w.cell? ⟨g, k, none⟩ = some (.int .i64 (xs.getD k 0)) ∧ w.frozen? ⟨g, k, none⟩ = false := by
  refine ⟨?_, ?_⟩
  · obtain ⟨_, _, e1, h1⟩ := owns_ints h k hk
    simp at e1
    obtain ⟨rfl, rfl⟩ := e1
    rw [Nat.zero_add] at h1
    exact h1
  · obtain ⟨h0, ⟨h1, _⟩ | ⟨g', cap, cur, h2, h3, h4, h5⟩⟩ := h
    · cases h1
    · simp at h2
      obtain ⟨rfl, rfl⟩ := h2
      exact frozen_of_row _ _ k _ _ h4

end Go.Proofs.Ytpahhhocgpohbaa

namespace Go.Proofs.Ytpahhhocgpohbaa
open Go.RowKit

/-- A reader that was there stays where a block of the call's own changes. -/
theorem RD.kept2 {w W W' : World} {q c p p0 : Nat} {a : Option Addr} {bs : List Int} {row : Option Nat} (h0 : RD w q a bs c p0) (h : RD W q a bs c p) (hg : W.grownBy W' row) (hr : ∀ g, row = some g → w.heap.size ≤ g) : RD W' q a bs c p := by
  have hq : q < w.heap.size := row_lt h0.1
  refine ⟨grown_row hg h.1 (fun e => by have := hr q e.symm; omega), h.2.1, fun j hj => ?_, h.2.2.2⟩
  obtain ⟨b, off, e, hne, hc, hv⟩ := h.2.2.1 j hj
  obtain ⟨b', off', e', _, hc', _⟩ := h0.2.2.1 j hj
  have hb : b < w.heap.size := by
    have := block_lt_of_cell hc'
    rw [e] at e'
    simp at e'
    obtain ⟨rfl, rfl⟩ := e'
    exact this
  exact ⟨b, off, e, hne, hg.cell hc (fun e2 => by have := hr b e2.symm; omega), hv⟩
theorem grown_own {w W W' : World} {q : Nat} {row : Option Nat} (h : w.grownBy W (some q)) (hg : W.grownBy W' row) (hr : ∀ g, row = some g → w.heap.size ≤ g) : w.grownBy W' (some q) :=
  ⟨hg.os.trans h.os, hg.tape.trans h.tape, hg.output.trans h.output, Nat.le_trans h.size hg.size, fun k hk hne => (hg.block k (Nat.lt_of_lt_of_le hk h.size) (fun e => by have := hr k e.symm; omega)).trans (h.block k hk hne)⟩

theorem grown_alloc0 (W : World) (o : Obj) : W.grownBy (W.alloc o) none := ⟨rfl, rfl, rfl, by simp, fun k hk _ => heap_alloc_old _ _ hk⟩

/-- With a reader that was there: a list of the call's own that grows. -/
structure CL (w W : World) (q : Nat) (a : Option Addr) (bs : List Int) (c : Nat) (ov : Value) (O : List Int) : Prop where
  g : w.grownBy W (some q)
  r0 : ∃ p, RD w q a bs c p
  r : ∃ p, RD W q a bs c p
  o : W.ownsRow w.heap.size 2 1 ov O.length (O.map (Value.int .i64))
  so : ∃ g cg, ov = .slice (some ⟨g, 0, none⟩) O.length cg
theorem CL.lt {w W : World} {q : Nat} {a : Option Addr} {bs : List Int} {c : Nat} {ov : Value} {O : List Int} (h : CL w W q a bs c ov O) : q < w.heap.size := by
  obtain ⟨p, hr⟩ := h.r0
  exact row_lt hr.1
theorem CL.new {w : World} {q : Nat} {a : Option Addr} {bs : List Int} {c p : Nat} (h : RD w q a bs c p) : CL w (w.alloc (.cells #[] 2)) q a bs c (.slice (some ⟨w.heap.size, 0, none⟩) 0 0) [] :=
  ⟨grown_alloc w _ q, ⟨p, h⟩, ⟨p, h.below ((Below.refl _ _).alloc (Nat.le_refl _) _)⟩, World.ownsRow_made w #[] 0 (Nat.le_refl _) (by unfold maxLen; omega) (by simp), ⟨_, _, rfl⟩⟩
theorem CL.read {w W W' : World} {q : Nat} {a : Option Addr} {bs : List Int} {c p : Nat} {ov : Value} {O : List Int} (h : CL w W q a bs c ov O) (hr : RD W' q a bs c p) (hg : W.grownBy W' (some q)) : CL w W' q a bs c ov O :=
  ⟨grown_trans h.g hg, h.r0, ⟨p, hr⟩, h.o.kept hg (.inr fun e => by have := (h.o.lt q e).1; have := h.lt; omega), h.so⟩
theorem CL.put {w W w4 : World} {q : Nat} {a : Option Addr} {bs : List Int} {c : Nat} {ov ov' : Value} {O : List Int} {x : Int} {o : Obj} (h : CL w W q a bs c ov O) (hown : w4.ownsRow w.heap.size 2 1 ov' (O.length + 1) ((O ++ [x]).map (Value.int .i64))) (hg : (W.alloc o).grownBy w4 ov.ownBlock) (hn : ov' = .slice none 0 0 ↔ ov = .slice none 0 0 ∧ 1 = 0) : CL w w4 q a bs c ov' (O ++ [x]) := by
  obtain ⟨p, hr⟩ := h.r
  obtain ⟨p0, hr0⟩ := h.r0
  have hlt : ∀ g, ov.ownBlock = some g → w.heap.size ≤ g := fun g e => (h.o.lt g e).1
  refine ⟨grown_own (grown_own h.g (grown_alloc0 W o) (fun g e => by cases e)) hg hlt, h.r0, ⟨p, ?_⟩, ?_, ?_⟩
  · exact RD.kept2 hr0 (hr.below ((Below.refl _ _).alloc (Nat.le_refl _) _)) hg hlt
  · rw [List.length_append]; exact hown
  · rw [List.length_append]
    obtain ⟨g, cg, e⟩ := h.so
    exact own_sm hown (not_nil hn ⟨g, _, cg, e⟩)
theorem CL.set {w W : World} {q g n cg : Nat} {a : Option Addr} {bs : List Int} {c : Nat} {O : List Int} (h : CL w W q a bs c (.slice (some ⟨g, 0, none⟩) n cg) O) (hn : O.length = n) {j : Nat} (hj : j < n) (v : Int) : CL w (W.setCell ⟨g, j, none⟩ (.int .i64 v)) q a bs c (.slice (some ⟨g, 0, none⟩) n cg) (O.set j v) := by
  obtain ⟨p, hr⟩ := h.r
  obtain ⟨p0, hr0⟩ := h.r0
  have hlt : ∀ k, some g = some k → w.heap.size ≤ k := fun k e => by injection e with e; subst e; exact (h.o.lt g rfl).1
  refine ⟨grown_own h.g (grown_set W g j _) hlt, h.r0, ⟨p, RD.kept2 hr0 hr (grown_set W g j _) hlt⟩, ?_, ⟨g, cg, by rw [List.length_set, hn]⟩⟩
  have ho := h.o
  rw [hn] at ho
  rw [List.length_set, hn]
  exact own_put v ho hj

end Go.Proofs.Ytpahhhocgpohbaa

namespace Go.Proofs.Ytpahhhocgpohbaa
open Go.RowKit

/-- The cells of files. -/
def rowF (F : List FI) : List Value := F.flatMap fun f => [.string f.1, .string f.2]
theorem rowF_nil : rowF [] = [] := rfl
theorem rowF_cons (f : FI) (F : List FI) : rowF (f :: F) = [.string f.1, .string f.2] ++ rowF F := by simp [rowF]
theorem rowF_app (F G : List FI) : rowF (F ++ G) = rowF F ++ rowF G := by simp [rowF]
theorem rowF_len (F : List FI) : (rowF F).length = F.length * 2 := by
  induction F with
  | nil => rfl
  | cons f F ih => rw [rowF_cons, List.length_append, ih]; simp; omega
theorem rowF_at : ∀ (F : List FI) (j : Nat), j < F.length → (rowF F)[j * 2]? = some (.string (F.getD j fi0).1) ∧ (rowF F)[j * 2 + 1]? = some (.string (F.getD j fi0).2)
  | [], j, h => by simp at h
  | f :: F, 0, _ => by rw [rowF_cons]; exact ⟨rfl, rfl⟩
  | f :: F, j + 1, h => by
    have ih := rowF_at F j (by simpa using h)
    rw [rowF_cons]
    have e1 : (j + 1) * 2 = j * 2 + 2 := by omega
    have e2 : (j + 1) * 2 + 1 = j * 2 + 1 + 2 := by omega
    rw [e2, e1]
    simpa using ih
theorem rowF_one (F : List FI) : ∀ v ∈ rowF F, v.oneCell' = true := by
  intro v hv
  simp only [rowF, List.mem_flatMap] at hv
  obtain ⟨f, _, h⟩ := hv
  simp at h
  rcases h with rfl | rfl <;> rfl
/-- A slice of files. -/
def FilesAt (w : World) (a : Option Addr) (F : List FI) : Prop := ∀ j, j < F.length → ∃ b off, a = some ⟨b, off, none⟩ ∧ w.cell? ⟨b, off + j * 2, none⟩ = some (.string (F.getD j fi0).1) ∧ w.cell? ⟨b, off + j * 2 + 1, none⟩ = some (.string (F.getD j fi0).2)
theorem FilesAt.below {w w' : World} {a : Option Addr} {F : List FI} (h : FilesAt w a F) (hb : Below w.heap.size w w') : FilesAt w' a F := fun j hj => by
  obtain ⟨b, off, e, h1, h2⟩ := h j hj
  exact ⟨b, off, e, (hb.cell (p := ⟨b, off + j * 2, none⟩) (block_lt_of_cell h1)).trans h1, (hb.cell (p := ⟨b, off + j * 2 + 1, none⟩) (block_lt_of_cell h2)).trans h2⟩
theorem own_files {w : World} {base n : Nat} {e : TypeId} {v : Value} {F : List FI} (h : w.ownsRow base e 2 v n (rowF F)) (hn : F.length = n) : ∃ a c, v = .slice a n c ∧ FilesAt w a F := by
  rcases own_kinds h with ⟨rfl, h0⟩ | ⟨g, c, rfl, _, _⟩
  · exact ⟨none, 0, by rw [h0], fun j hj => by omega⟩
  · refine ⟨_, c, rfl, fun j hj => ⟨g, 0, rfl, ?_, ?_⟩⟩
    · rw [Nat.zero_add]; exact (own_cellV h (rowF_at F j hj).1).1
    · rw [Nat.zero_add]; exact (own_cellV h (rowF_at F j hj).2).1
/-- The cells of ops. -/
def rowO (O : List OP) : List Value := O.flatMap fun o => [.int .i64 o.k, .string o.n, .string o.t, .string o.d]
theorem rowO_nil : rowO [] = [] := rfl
theorem rowO_cons (o : OP) (O : List OP) : rowO (o :: O) = [.int .i64 o.k, .string o.n, .string o.t, .string o.d] ++ rowO O := by simp [rowO]
theorem rowO_app (O Q : List OP) : rowO (O ++ Q) = rowO O ++ rowO Q := by simp [rowO]
theorem rowO_len (O : List OP) : (rowO O).length = O.length * 4 := by
  induction O with
  | nil => rfl
  | cons o O ih => rw [rowO_cons, List.length_append, ih]; simp; omega
theorem rowO_one (O : List OP) : ∀ v ∈ rowO O, v.oneCell' = true := by
  intro v hv
  simp only [rowO, List.mem_flatMap] at hv
  obtain ⟨f, _, h⟩ := hv
  simp at h
  rcases h with rfl | rfl | rfl | rfl <;> rfl
theorem rowO_at : ∀ (O : List OP) (j : Nat), j < O.length → (rowO O)[j * 4]? = some (.int .i64 (O.getD j op0).k) ∧ (rowO O)[j * 4 + 1]? = some (.string (O.getD j op0).n) ∧ (rowO O)[j * 4 + 2]? = some (.string (O.getD j op0).t) ∧ (rowO O)[j * 4 + 3]? = some (.string (O.getD j op0).d)
  | [], j, h => by simp at h
  | f :: F, 0, _ => by rw [rowO_cons]; exact ⟨rfl, rfl, rfl, rfl⟩
  | f :: F, j + 1, h => by
    have ih := rowO_at F j (by simpa using h)
    rw [rowO_cons]
    have e1 : (j + 1) * 4 = j * 4 + 4 := by omega
    have e2 : (j + 1) * 4 + 1 = j * 4 + 1 + 4 := by omega
    have e3 : (j + 1) * 4 + 2 = j * 4 + 2 + 4 := by omega
    have e4 : (j + 1) * 4 + 3 = j * 4 + 3 + 4 := by omega
    rw [e2, e3, e4, e1]
    simpa using ih
def OpsAt (w : World) (a : Option Addr) (O : List OP) : Prop := ∀ j, j < O.length → ∃ b off, a = some ⟨b, off, none⟩ ∧ w.cell? ⟨b, off + j * 4, none⟩ = some (.int .i64 (O.getD j op0).k) ∧ w.cell? ⟨b, off + j * 4 + 1, none⟩ = some (.string (O.getD j op0).n) ∧ w.cell? ⟨b, off + j * 4 + 2, none⟩ = some (.string (O.getD j op0).t) ∧ w.cell? ⟨b, off + j * 4 + 3, none⟩ = some (.string (O.getD j op0).d)
theorem OpsAt.below {w w' : World} {a : Option Addr} {O : List OP} (h : OpsAt w a O) (hb : Below w.heap.size w w') : OpsAt w' a O := fun j hj => by
  obtain ⟨b, off, e, h1, h2, h3, h4⟩ := h j hj
  exact ⟨b, off, e, (hb.cell (p := ⟨b, off + j * 4, none⟩) (block_lt_of_cell h1)).trans h1, (hb.cell (p := ⟨b, off + j * 4 + 1, none⟩) (block_lt_of_cell h2)).trans h2, (hb.cell (p := ⟨b, off + j * 4 + 2, none⟩) (block_lt_of_cell h3)).trans h3, (hb.cell (p := ⟨b, off + j * 4 + 3, none⟩) (block_lt_of_cell h4)).trans h4⟩
theorem own_ops {w : World} {base n : Nat} {e : TypeId} {v : Value} {O : List OP} (h : w.ownsRow base e 4 v n (rowO O)) (hn : O.length = n) : ∃ a c, v = .slice a n c ∧ OpsAt w a O := by
  rcases own_kinds h with ⟨rfl, h0⟩ | ⟨g, c, rfl, _, _⟩
  · exact ⟨none, 0, by rw [h0], fun j hj => by omega⟩
  · refine ⟨_, c, rfl, fun j hj => ⟨g, 0, rfl, ?_, ?_, ?_, ?_⟩⟩
    · rw [Nat.zero_add]; exact (own_cellV h (rowO_at O j hj).1).1
    · rw [Nat.zero_add]; exact (own_cellV h (rowO_at O j hj).2.1).1
    · rw [Nat.zero_add]; exact (own_cellV h (rowO_at O j hj).2.2.1).1
    · rw [Nat.zero_add]; exact (own_cellV h (rowO_at O j hj).2.2.2).1
theorem cells4 {w : World} {k : Nat} {c0 c1 c2 c3 : Value} {T : TypeId} (r : w.heap[k]? = some (.cells #[c0, c1, c2, c3] T (0, 0))) :
    w.cell? ⟨k, 0, none⟩ = some c0 ∧ w.cell? ⟨k, 1, none⟩ = some c1 ∧ w.cell? ⟨k, 2, none⟩ = some c2 ∧ w.cell? ⟨k, 3, none⟩ = some c3 := by
  refine ⟨?_, ?_, ?_, ?_⟩
  · rw [cell_of_row _ _ 0 _ _ _ r]; simp
  · rw [cell_of_row _ _ 1 _ _ _ r]; simp
  · rw [cell_of_row _ _ 2 _ _ _ r]; simp
  · rw [cell_of_row _ _ 3 _ _ _ r]; simp
theorem cells3 {w : World} {k : Nat} {c0 c1 c2 : Value} {T : TypeId} (r : w.heap[k]? = some (.cells #[c0, c1, c2] T (0, 0))) :
    w.cell? ⟨k, 0, none⟩ = some c0 ∧ w.cell? ⟨k, 1, none⟩ = some c1 ∧ w.cell? ⟨k, 2, none⟩ = some c2 := by
  refine ⟨?_, ?_, ?_⟩
  · rw [cell_of_row _ _ 0 _ _ _ r]; simp
  · rw [cell_of_row _ _ 1 _ _ _ r]; simp
  · rw [cell_of_row _ _ 2 _ _ _ r]; simp

end Go.Proofs.Ytpahhhocgpohbaa

namespace Go.Proofs.Ytpahhhocgpohbaa
open Go.RowKit

theorem nmB_in (s : ByteArray) : inB (s.size : Int) 1 100 = nmB s := by
  unfold inB nmB
  congr 1
  exact propext ⟨fun h => by omega, fun h => by omega⟩
theorem isFileName_any (s : ByteArray) (w : World) :
    Calls Try.prog 44 #[.string s] w fun e w' => e = .returned (.bool (nmB s)) ∧ w' = w := by
  have WI : Hid (Calls Try.prog 61 #[.int .i64 (s.size : Int), .int .i64 1, .int .i64 100] w fun e w' => e = .returned (.bool (nmB s)) ∧ w' = w) := by
    have := within_any (s.size : Int) 1 100 w
    rw [nmB_in] at this
    exact this
  generalize nmB s = b at *
  go_enter Try.func44, Try.ntmps44
  go_wp2_with fail
  refine WI.out.mono ?_
  rintro e w' ⟨rfl, hw⟩
  subst hw
  go_wp2
  go_ret
  exact ⟨rfl, rfl⟩
/-- The name ahead of a place. -/
def lastN (F : List FI) (i : Nat) : ByteArray := if i = 0 then ⟨#[]⟩ else (F.getD (i - 1) fi0).1
theorem emp_lt {s : ByteArray} (h : nmB s = true) : ltT ⟨#[]⟩ s = true := by
  have h1 : 1 ≤ s.size := by
    unfold nmB at h
    have := of_decide_eq_true h
    omega
  unfold ltT
  rw [show (ByteArray.mk #[]).toList = [] by rw [ByteArray.toList_eq]]
  cases hq : s.toList with
  | nil =>
    rw [ByteArray.toList_eq] at hq
    have : s.size = 0 := by
      have h2 : s.data.toList.length = s.size := Array.length_toList
      rw [hq] at h2
      simpa using h2.symm
    omega
  | cons a l => rfl
theorem stpB_last (F : List FI) (i : Nat) (h : nmB (F.getD i fi0).1 = true) : stpB F i = ltT (lastN F i) (F.getD i fi0).1 := by
  unfold stpB lastN
  rw [h, Bool.true_and]
  by_cases e : i = 0
  · rw [if_pos e, decide_eq_true e, emp_lt h]; rfl
  · rw [if_neg e, decide_eq_false e]; rfl

set_option maxHeartbeats 2000000 in
theorem filesOk_any (a : Option Addr) (c : Nat) (F : List FI) (w : World) (hF : FilesAt w a F) (hn : F.length ≤ 1048576) (ht : totTo F F.length ≤ 1000000000) (hnm : ∀ j, j < F.length → (F.getD j fi0).1.size ≤ 1000000000) :
    Calls Try.prog 22 #[.slice a F.length c] w fun e w' => e = .returned (.bool (filB F)) ∧ Below w.heap.size w w' := by
  have HF : Hid (FilesAt w a F) := hF
  have HNM : Hid (∀ j, j < F.length → (F.getD j fi0).1.size ≤ 1000000000) := hnm
  clear hF hnm
  obtain ⟨r, HR⟩ : ∃ r, Hid (filB F = r) := ⟨_, rfl⟩
  rw [HR.out]
  obtain ⟨n, HN⟩ : ∃ n, Hid (F.length = n) := ⟨_, rfl⟩
  rw [HN.out] at hn ht ⊢
  by_cases h60 : 60 < n
  · have h60' : (60 : Int) < n := by omega
    have hr : r = false := by rw [← HR.out]; exact filB_long (by rw [HN.out]; exact h60)
    subst hr
    go_enter Try.func22, Try.ntmps22
    go_wp2
    go_ret
    exact ⟨rfl, Below.refl _ _⟩
  have h60' : ¬ ((60 : Int) < n) := by omega
  go_enter Try.func22, Try.ntmps22
  go_wp2_with fail
  go_loopw [3, 4, 12] (fun tl tn ti wr => ∃ i : Nat, i ≤ n ∧ ti = .int .i64 i ∧ tn = .int .i64 (totTo F i : Nat) ∧ tl = .string (lastN F i) ∧ filTo F i = true ∧ totTo F i ≤ 200000 ∧ Below w.heap.size w wr) (fun _ _ ti _ => n - (intOf ti).toNat)
  case atStart => exact ⟨0, Nat.zero_le _, rfl, rfl, rfl, rfl, Nat.zero_le _, Below.refl _ _⟩
  case round =>
    obtain ⟨i, hi, rfl, rfl, rfl, hfi, ht2, hb⟩ := hrel
    have HFI : Hid (filTo F i = true) := hfi
    have B1 : Hid (Below w.heap.size w wr) := hb
    clear hfi hb
    by_cases hlt : i < n
    · have hin : (i : Int) < n := by omega
      have hiF : i < F.length := by rw [HN.out]; exact hlt
      obtain ⟨b, off, e, c1, c2⟩ := (HF.out.below B1.out) i hiF
      subst e
      have ht1 : totTo F (i + 1) ≤ 1000000000 := Nat.le_trans (totTo_le F hlt) ht
      have hsz := HNM.out i hiF
      have HT1 : Hid (totTo F (i + 1) = totTo F i + (F.getD i fi0).2.size) := rfl
      rw [HT1.out] at ht1
      have HBIG : Hid (200000 < totTo F i + (F.getD i fi0).2.size → r = false) := fun h => by rw [← HR.out]; exact filB_tot (k := i + 1) hiF (by rw [HT1.out]; exact h)
      have HST : Hid (filTo F (i + 1) = stpB F i) := by show _ = _; rw [filTo, HFI.out]; rfl
      have HNO : Hid (stpB F i = false → r = false) := fun h => by rw [← HR.out]; exact filB_step hiF h
      have HNN : Hid (nmB (F.getD i fi0).1 = false → stpB F i = false) := fun h => by unfold stpB; rw [h]; rfl
      have HLT : Hid (nmB (F.getD i fi0).1 = true → stpB F i = ltT (lastN F i) (F.getD i fi0).1) := stpB_last F i
      have HLN : Hid (lastN F (i + 1) = (F.getD i fi0).1) := by show _ = _; unfold lastN; rw [if_neg (by omega)]; rfl
      obtain ⟨l, HL⟩ : ∃ l, Hid (lastN F i = l) := ⟨_, rfl⟩
      rw [HL.out] at HLT ⊢
      generalize F.getD i fi0 = f at *
      obtain ⟨x, y⟩ := f
      simp only at c1 c2 hsz ht1 HT1 HNN HLT HLN HBIG
      have IN : Hid (∀ W b, nmB x = b → Calls Try.prog 44 #[.string x] W fun e w' => e = .returned (.bool b) ∧ w' = W) := fun W b hb => by
        have := isFileName_any x W
        rw [hb] at this
        exact this
      have R2 : Hid ((wr.alloc (.cells #[.string x, .string y] 55)).heap[wr.heap.size]? = some (.cells #[.string x, .string y] 55 (0, 0))) := heap_alloc_new _ _
      obtain ⟨k0, k1⟩ := cells2 R2.out
      have B2 : Hid (Below w.heap.size w (wr.alloc (.cells #[.string x, .string y] 55))) := B1.out.alloc B1.out.size _
      generalize totTo F i = t at *
      cases hnm : nmB x
      · have hr : r = false := HNO.out (HNN.out hnm)
        subst hr
        go_wp2_with (first
          | (go_at_call 44
             with_reducible refine (IN.out _ _ hnm).mono ?_
             rintro e w' ⟨rfl, hw⟩
             subst hw))
        go_ret
        exact ⟨rfl, B2.out⟩
      · cases hl2 : ltT l x
        · have hr : r = false := HNO.out ((HLT.out hnm).trans hl2)
          subst hr
          have hle : (Op.bytesLess x.toList l.toList || x.toList == l.toList) = true := by
            cases hq : ltT x l
            · rw [str_eq (ltT_tri hq hl2), Bool.or_true]
            · unfold ltT at hq
              rw [hq, Bool.true_or]
          clear hl2 HLT HST HNO
          go_wp2_with (first
            | (go_at_call 44
               with_reducible refine (IN.out _ _ hnm).mono ?_
               rintro e w' ⟨rfl, hw⟩
               subst hw))
          go_ret
          exact ⟨rfl, B2.out⟩
        · have HY : Hid (filTo F (i + 1) = true) := HST.out.trans ((HLT.out hnm).trans hl2)
          have hle : (Op.bytesLess x.toList l.toList || x.toList == l.toList) = false := by
            have h1 := ltT_asym hl2
            unfold ltT at h1
            rw [h1, str_ne (fun e => ltT_ne hl2 e.symm)]
            rfl
          clear hl2 HLT HST HNO
          by_cases hbig : 200000 < t + y.size
          · have hr : r = false := HBIG.out hbig
            subst hr
            have hbg : (200000 : Int) < (t : Int) + y.size := by omega
            go_wp2_with (first
              | (go_at_call 44
                 with_reducible refine (IN.out _ _ hnm).mono ?_
                 rintro e w' ⟨rfl, hw⟩
                 subst hw))
            go_ret
            exact ⟨rfl, B2.out⟩
          · have hbg : ¬ ((200000 : Int) < (t : Int) + y.size) := by omega
            go_wp2_with (first
              | (go_at_call 44
                 with_reducible refine (IN.out _ _ hnm).mono ?_
                 rintro e w' ⟨rfl, hw⟩
                 subst hw))
            go_roundw
            case rel => exact ⟨i + 1, by omega, by first | rfl | go_num, by rw [HT1.out]; first | rfl | go_num, by rw [HLN.out], HY.out, by rw [HT1.out]; omega, B2.out⟩
            case measure => simp [intOf]; omega
    · have hin : i = n := by omega
      subst hin
      have hr : r = true := by
        rw [← HR.out, filB_end (by rw [HN.out]; omega) (by rw [HN.out]; exact HFI.out), HN.out]
        exact decide_eq_true ht2
      subst hr
      generalize totTo F i = t at *
      go_wp2
      go_ret
      exact ⟨rfl, B1.out⟩

end Go.Proofs.Ytpahhhocgpohbaa

namespace Go.Proofs.Ytpahhhocgpohbaa
open Go.RowKit

set_option maxHeartbeats 400000 in
theorem l12Name_any (s : ByteArray) (w : World) (hs : s.size ≤ 1000000000) :
    Calls Try.prog 50 #[.string s] w fun e w' => e = .returned (.bool (nmB s)) ∧ w' = w := by
  unfold nmB
  by_cases h1 : 1 ≤ s.size
  · by_cases h2 : s.size ≤ 100
    · rw [decide_eq_true ⟨h1, h2⟩]
      have g1 : (1 : Int) ≤ s.size := by omega
      have g2 : (s.size : Int) ≤ 100 := by omega
      go_enter Try.func50, Try.ntmps50
      go_wp2
      go_ret
      exact ⟨by simp, rfl⟩
    · rw [decide_eq_false (by omega)]
      have g1 : (1 : Int) ≤ s.size := by omega
      have g2 : ¬ ((s.size : Int) ≤ 100) := by omega
      go_enter Try.func50, Try.ntmps50
      go_wp2
      go_ret
      exact ⟨by simp, rfl⟩
  · rw [decide_eq_false (by omega)]
    have g1 : ¬ ((1 : Int) ≤ s.size) := by omega
    go_enter Try.func50, Try.ntmps50
    go_wp2
    go_ret
    exact ⟨by simp, rfl⟩

set_option maxHeartbeats 1000000 in
theorem l12Files_any (a : Option Addr) (c : Nat) (F : List FI) (w : World) (hF : FilesAt w a F) (hn : F.length ≤ 1048576) (ht : totTo F F.length ≤ 1000000000) (hnm : ∀ j, j < F.length → (F.getD j fi0).1.size ≤ 1000000000) :
    Calls Try.prog 24 #[.slice a F.length c] w fun e w' => e = .returned (.bool (filB F)) ∧ Below w.heap.size w w' := by
  have HF : Hid (FilesAt w a F) := hF
  have HNM : Hid (∀ j, j < F.length → (F.getD j fi0).1.size ≤ 1000000000) := hnm
  clear hF hnm
  obtain ⟨r, HR⟩ : ∃ r, Hid (filB F = r) := ⟨_, rfl⟩
  rw [HR.out]
  obtain ⟨n, HN⟩ : ∃ n, Hid (F.length = n) := ⟨_, rfl⟩
  rw [HN.out] at hn ht ⊢
  by_cases h60 : 60 < n
  · have h60' : (60 : Int) < n := by omega
    have hr : r = false := by rw [← HR.out]; exact filB_long (by rw [HN.out]; exact h60)
    subst hr
    go_enter Try.func24, Try.ntmps24
    go_wp2
    go_ret
    exact ⟨rfl, Below.refl _ _⟩
  have h60' : ¬ ((60 : Int) < n) := by omega
  go_enter Try.func24, Try.ntmps24
  go_wp2_with fail
  go_loopw [3, 4] (fun tn ti wr => ∃ i : Nat, i ≤ n ∧ ti = .int .i64 i ∧ tn = .int .i64 (totTo F i : Nat) ∧ filTo F i = true ∧ Below w.heap.size w wr) (fun _ ti _ => n - (intOf ti).toNat)
  case atStart => exact ⟨0, Nat.zero_le _, rfl, rfl, rfl, Below.refl _ _⟩
  case round =>
    obtain ⟨i, hi, rfl, rfl, hfi, hb⟩ := hrel
    have HFI : Hid (filTo F i = true) := hfi
    have B1 : Hid (Below w.heap.size w wr) := hb
    clear hfi hb
    have hti : totTo F i ≤ 1000000000 := Nat.le_trans (totTo_le F hi) ht
    by_cases hlt : i < n
    · have hin : (i : Int) < n := by omega
      have hiF : i < F.length := by rw [HN.out]; exact hlt
      obtain ⟨b, off, e, c1, c2⟩ := (HF.out.below B1.out) i hiF
      subst e
      have ht1 : totTo F (i + 1) ≤ 1000000000 := Nat.le_trans (totTo_le F hlt) ht
      have hsz := HNM.out i hiF
      have HT1 : Hid (totTo F (i + 1) = totTo F i + (F.getD i fi0).2.size) := rfl
      rw [HT1.out] at ht1
      have HST : Hid (filTo F (i + 1) = stpB F i) := by show _ = _; rw [filTo, HFI.out]; rfl
      have HNO : Hid (stpB F i = false → r = false) := fun h => by rw [← HR.out]; exact filB_step hiF h
      have hkin := Kin.there wr
      by_cases hnm : nmB (F.getD i fi0).1 = true
      · by_cases hi0 : i = 0
        · subst hi0
          have HY : Hid (filTo F (0 + 1) = true) := by
            show _ = _
            rw [HST.out]
            unfold stpB
            rw [hnm]
            rfl
          clear HNO HST
          have LN : Hid (∀ W, Calls Try.prog 50 #[.string (F.getD 0 fi0).1] W fun e w' => e = .returned (.bool true) ∧ w' = W) := fun W => by
            have := l12Name_any (F.getD 0 fi0).1 W hsz
            rw [hnm] at this
            exact this
          clear hnm
          obtain ⟨x1, HX1⟩ : ∃ x, Hid ((F.getD 0 fi0).1 = x) := ⟨_, rfl⟩
          obtain ⟨x2, HX2⟩ : ∃ x, Hid ((F.getD 0 fi0).2 = x) := ⟨_, rfl⟩
          rw [HX1.out] at c1 LN hsz
          rw [HX2.out] at c2 HT1 ht1
          rw [Nat.zero_mul, Nat.add_zero] at c1 c2
          have hd0 : decide (0 < 0) = false := rfl
          have z1 := fun s : Kin wr => s.cell c1
          have z2 := fun s : Kin wr => s.cell c2
          go_wp2_with fail
          refine wp_region_kin (by kernel_rfl) (by kernel_rfl) ?_
          repeat (go_big_quiet_step ((go_at_call 50; with_reducible exact Kin.call_same (LN.out _))))
          refine wpQuiet_nil ?_
          rintro _ ⟨s1, rfl⟩
          have B2 : Hid (Below w.heap.size w s1.w) := B1.out.trans (s1.below.mono B1.out.size)
          have d2 := z2 s1
          clear z1 z2 hkin
          generalize s1.w = w2 at *
          generalize totTo F 0 = t at *
          go_wp2
          go_roundw
          case rel => exact ⟨0 + 1, by omega, by first | rfl | go_num, by rw [HT1.out]; first | rfl | go_num, HY.out, B2.out⟩
          case measure => simp [intOf]; omega
        · have hi0' : (0 : Int) < i := by omega
          have hdi : decide (0 < i) = true := decide_eq_true (by omega)
          obtain ⟨b', off', e, p1, -⟩ := (HF.out.below B1.out) (i - 1) (by rw [HN.out]; omega)
          simp only [Option.some.injEq, Addr.mk.injEq] at e
          obtain ⟨rfl, rfl, -⟩ := e
          have hq1 : (0 : Int) ≤ (i : Int) - 1 := by omega
          have hq2 : ((i : Int) - 1).toNat = i - 1 := by omega
          have hq3 : (i : Int) - 1 < n := by omega
          have LN : Hid (∀ W, Calls Try.prog 50 #[.string (F.getD i fi0).1] W fun e w' => e = .returned (.bool true) ∧ w' = W) := fun W => by
            have := l12Name_any (F.getD i fi0).1 W hsz
            rw [hnm] at this
            exact this
          have HSB : Hid (stpB F i = ltT (F.getD (i - 1) fi0).1 (F.getD i fi0).1) := by
            show _ = _
            unfold stpB
            rw [hnm, decide_eq_false hi0]
            rfl
          clear hnm hi0
          obtain ⟨x1, HX1⟩ : ∃ x, Hid ((F.getD i fi0).1 = x) := ⟨_, rfl⟩
          obtain ⟨x2, HX2⟩ : ∃ x, Hid ((F.getD i fi0).2 = x) := ⟨_, rfl⟩
          obtain ⟨y1, HY1⟩ : ∃ x, Hid ((F.getD (i - 1) fi0).1 = x) := ⟨_, rfl⟩
          rw [HX1.out] at c1 LN hsz HSB
          rw [HX2.out] at c2 HT1 ht1
          rw [HY1.out] at p1 HSB
          have z1 := fun s : Kin wr => s.cell c1
          have z2 := fun s : Kin wr => s.cell c2
          have z3 := fun s : Kin wr => s.cell p1
          cases hlt2 : ltT y1 x1
          · have hr : r = false := HNO.out (HSB.out.trans hlt2)
            subst hr
            have hle : (Op.bytesLess x1.toList y1.toList || x1.toList == y1.toList) = true := by
              cases hq : ltT x1 y1
              · rw [str_eq (ltT_tri hq hlt2), Bool.or_true]
              · unfold ltT at hq
                rw [hq, Bool.true_or]
            clear hlt2 HSB
            go_wp2_with fail
            refine wp_region_kin (by kernel_rfl) (by kernel_rfl) ?_
            repeat (go_big_quiet_step ((go_at_call 50; with_reducible exact Kin.call_same (LN.out _))))
            refine wpQuiet_nil ?_
            rintro _ ⟨s1, rfl⟩
            have B2 : Hid (Below w.heap.size w s1.w) := B1.out.trans (s1.below.mono B1.out.size)
            clear z1 z2 z3 hkin
            generalize s1.w = w2 at *
            go_wp2
            go_ret
            exact ⟨rfl, B2.out⟩
          · have HY : Hid (filTo F (i + 1) = true) := HST.out.trans (HSB.out.trans hlt2)
            have hle : (Op.bytesLess x1.toList y1.toList || x1.toList == y1.toList) = false := by
              have h1 := ltT_asym hlt2
              unfold ltT at h1
              rw [h1, str_ne (fun e => ltT_ne hlt2 e.symm)]
              rfl
            clear hlt2 HSB HST HNO
            go_wp2_with fail
            refine wp_region_kin (by kernel_rfl) (by kernel_rfl) ?_
            repeat (go_big_quiet_step ((go_at_call 50; with_reducible exact Kin.call_same (LN.out _))))
            refine wpQuiet_nil ?_
            rintro _ ⟨s1, rfl⟩
            have B2 : Hid (Below w.heap.size w s1.w) := B1.out.trans (s1.below.mono B1.out.size)
            have d2 := z2 s1
            clear z1 z2 z3 hkin
            generalize s1.w = w2 at *
            generalize totTo F i = t at *
            go_wp2
            go_roundw
            case rel => exact ⟨i + 1, by omega, by first | rfl | go_num, by rw [HT1.out]; first | rfl | go_num, HY.out, B2.out⟩
            case measure => simp [intOf]; omega
      · have hnm : nmB (F.getD i fi0).1 = false := by simpa using hnm
        have hr : r = false := HNO.out (by unfold stpB; rw [hnm]; rfl)
        subst hr
        have LN : Hid (∀ W, Calls Try.prog 50 #[.string (F.getD i fi0).1] W fun e w' => e = .returned (.bool false) ∧ w' = W) := fun W => by
          have := l12Name_any (F.getD i fi0).1 W hsz
          rw [hnm] at this
          exact this
        clear hnm
        obtain ⟨x1, HX1⟩ : ∃ x, Hid ((F.getD i fi0).1 = x) := ⟨_, rfl⟩
        rw [HX1.out] at c1 LN hsz
        have z1 := fun s : Kin wr => s.cell c1
        go_wp2_with fail
        refine wp_region_kin (by kernel_rfl) (by kernel_rfl) ?_
        repeat (go_big_quiet_step ((go_at_call 50; with_reducible exact Kin.call_same (LN.out _))))
        refine wpQuiet_nil ?_
        rintro _ ⟨s1, rfl⟩
        have B2 : Hid (Below w.heap.size w s1.w) := B1.out.trans (s1.below.mono B1.out.size)
        clear z1 hkin
        generalize s1.w = w2 at *
        go_wp2
        go_ret
        exact ⟨rfl, B2.out⟩
    · have hin : i = n := by omega
      subst hin
      have HRR : Hid (r = decide (totTo F i ≤ 200000)) := by
        show _ = _
        rw [← HR.out, filB_end (by rw [HN.out]; omega) (by rw [HN.out]; exact HFI.out), HN.out]
      generalize totTo F i = t at *
      go_wp2
      go_ret
      exact ⟨by rw [HRR.out]; simp; omega, B1.out⟩

end Go.Proofs.Ytpahhhocgpohbaa

namespace Go.Proofs.Ytpahhhocgpohbaa
open Go.RowKit

theorem emp_eq (x : ByteArray) : x.toList.isEmpty = decide (x = ⟨#[]⟩) := by
  by_cases h : x = ⟨#[]⟩
  · rw [decide_eq_true h, h, ByteArray.toList_eq]; rfl
  · rw [decide_eq_false h]
    have := str_ne h
    rw [show (ByteArray.mk #[]).toList = [] by rw [ByteArray.toList_eq]] at this
    cases hq : x.toList with
    | nil => rw [hq] at this; exact absurd this (by decide)
    | cons a l => rfl

set_option maxHeartbeats 2000000 in
theorem l12Form_any (o : OP) (w : World) (h1 : o.n.size ≤ 1000000000) (h2 : o.t.size ≤ 1000000000) :
    Calls Try.prog 26 #[.agg #[.int .i64 o.k, .string o.n, .string o.t, .string o.d]] w fun e w' => e = .returned (.bool (frmB o)) ∧ Below w.heap.size w w' := by
  obtain ⟨k, n, t, d⟩ := o
  simp only at h1 h2
  have B0 : Hid (Below w.heap.size w (w.alloc (.cells #[.int .i64 k, .string n, .string t, .string d] 36))) := (Below.refl _ _).alloc (Nat.le_refl _) _
  have hr : (w.alloc (.cells #[.int .i64 k, .string n, .string t, .string d] 36)).heap[w.heap.size]? = some (.cells #[.int .i64 k, .string n, .string t, .string d] 36 (0, 0)) := heap_alloc_new _ _
  obtain ⟨c0, c1, c2, c3⟩ := cells4 hr
  clear hr
  have LI : Hid (∀ W b, inB k 1 3 = b → Calls Try.prog 53 #[.int .i64 k, .int .i64 1, .int .i64 3] W fun e w' => e = .returned (.bool b) ∧ w' = W) := fun W b hb => by
    have := l1In_any k 1 3 W
    rw [hb] at this
    exact this
  have LN : Hid (∀ W x b, x.size ≤ 1000000000 → nmB x = b → Calls Try.prog 50 #[.string x] W fun e w' => e = .returned (.bool b) ∧ w' = W) := fun W x b hx hb => by
    have := l12Name_any x W hx
    rw [hb] at this
    exact this
  have ed := emp_eq d
  have et := emp_eq t
  obtain ⟨r, HR⟩ : ∃ r, Hid (frmB ⟨k, n, t, d⟩ = r) := ⟨_, rfl⟩
  rw [HR.out]
  cases hk : inB k 1 3
  · have hrr : r = false := by
      rw [← HR.out]; unfold frmB; simp only
      rw [show decide (1 ≤ k ∧ k ≤ 3) = false from hk]; rfl
    subst hrr
    go_enter Try.func26, Try.ntmps26
    go_wp2_with (first
      | (go_at_call 53; refine (LI.out _ _ hk).mono ?_; rintro e w' ⟨rfl, hw⟩; subst hw))
    go_ret
    exact ⟨rfl, B0.out⟩
  · have hk1 : decide (1 ≤ k ∧ k ≤ 3) = true := hk
    cases hn : nmB n
    · have hrr : r = false := by
        rw [← HR.out]; unfold frmB; simp only
        rw [hn, Bool.false_and, Bool.and_false]
      subst hrr
      go_enter Try.func26, Try.ntmps26
      go_wp2_with (first
        | (go_at_call 53; refine (LI.out _ _ hk).mono ?_; rintro e w' ⟨rfl, hw⟩; subst hw)
        | (go_at_call 50; refine (LN.out _ _ _ h1 hn).mono ?_; rintro e w' ⟨rfl, hw⟩; subst hw))
      go_ret
      exact ⟨rfl, B0.out⟩
    · by_cases k2 : k = 2
      · subst k2
        cases htn : nmB t
        · have hrr : r = false := by
            rw [← HR.out]; unfold frmB; simp only
            rw [if_pos trivial, htn, Bool.false_and, Bool.and_false, Bool.and_false]
          subst hrr
          go_enter Try.func26, Try.ntmps26
          go_wp2_with (first
            | (go_at_call 53; refine (LI.out _ _ hk).mono ?_; rintro e w' ⟨rfl, hw⟩; subst hw)
            | (go_at_call 50; with_reducible refine (LN.out _ n _ h1 hn).mono ?_; rintro e w' ⟨rfl, hw⟩; subst hw)
            | (go_at_call 50; with_reducible refine (LN.out _ t _ h2 htn).mono ?_; rintro e w' ⟨rfl, hw⟩; subst hw))
          go_ret
          exact ⟨rfl, B0.out⟩
        · have hrr : r = decide (d = ⟨#[]⟩) := by
            rw [← HR.out]; unfold frmB; simp only
            rw [if_pos trivial, htn, hn, hk1, Bool.true_and, Bool.true_and, Bool.true_and]
          subst hrr
          go_enter Try.func26, Try.ntmps26
          go_wp2_with (first
            | (go_at_call 53; refine (LI.out _ _ hk).mono ?_; rintro e w' ⟨rfl, hw⟩; subst hw)
            | (go_at_call 50; with_reducible refine (LN.out _ n _ h1 hn).mono ?_; rintro e w' ⟨rfl, hw⟩; subst hw)
            | (go_at_call 50; with_reducible refine (LN.out _ t _ h2 htn).mono ?_; rintro e w' ⟨rfl, hw⟩; subst hw))
          go_ret
          exact ⟨rfl, B0.out⟩
      · have hk2b : (k == 2) = false := by simp [k2]
        by_cases k1 : k = 1
        · subst k1
          have hrr : r = decide (t = ⟨#[]⟩) := by
            rw [← HR.out]; unfold frmB; simp only
            rw [if_neg (by omega), hn, hk1, Bool.true_and, Bool.true_and, show decide True = true from rfl, Bool.true_or, Bool.and_true]
          subst hrr
          cases ht : decide (t = ⟨#[]⟩)
          · rw [ht] at et
            go_enter Try.func26, Try.ntmps26
            go_wp2_with (first
              | (go_at_call 53; refine (LI.out _ _ hk).mono ?_; rintro e w' ⟨rfl, hw⟩; subst hw)
              | (go_at_call 50; with_reducible refine (LN.out _ n _ h1 hn).mono ?_; rintro e w' ⟨rfl, hw⟩; subst hw))
            go_ret
            exact ⟨rfl, B0.out⟩
          · rw [ht] at et
            go_enter Try.func26, Try.ntmps26
            go_wp2_with (first
              | (go_at_call 53; refine (LI.out _ _ hk).mono ?_; rintro e w' ⟨rfl, hw⟩; subst hw)
              | (go_at_call 50; with_reducible refine (LN.out _ n _ h1 hn).mono ?_; rintro e w' ⟨rfl, hw⟩; subst hw))
            go_ret
            exact ⟨rfl, B0.out⟩
        · have hk1b : (k == 1) = false := by simp [k1]
          have hrr : r = (decide (t = ⟨#[]⟩) && decide (d = ⟨#[]⟩)) := by
            rw [← HR.out]; unfold frmB; simp only
            rw [if_neg k2, hn, hk1, Bool.true_and, Bool.true_and, decide_eq_false k1, Bool.false_or]
          subst hrr
          cases ht : decide (t = ⟨#[]⟩)
          · rw [ht] at et
            go_enter Try.func26, Try.ntmps26
            go_wp2_with (first
              | (go_at_call 53; refine (LI.out _ _ hk).mono ?_; rintro e w' ⟨rfl, hw⟩; subst hw)
              | (go_at_call 50; with_reducible refine (LN.out _ n _ h1 hn).mono ?_; rintro e w' ⟨rfl, hw⟩; subst hw))
            go_ret
            exact ⟨rfl, B0.out⟩
          · rw [ht] at et
            go_enter Try.func26, Try.ntmps26
            go_wp2_with (first
              | (go_at_call 53; refine (LI.out _ _ hk).mono ?_; rintro e w' ⟨rfl, hw⟩; subst hw)
              | (go_at_call 50; with_reducible refine (LN.out _ n _ h1 hn).mono ?_; rintro e w' ⟨rfl, hw⟩; subst hw))
            go_ret
            exact ⟨rfl, B0.out⟩

/-- The place of a name. -/
theorem atF_at {F : List FI} {n : ByteArray} {i : Nat} (hi : i < F.length) (h : (F.getD i fi0).1 = n) (hno : ∀ j, j < i → (F.getD j fi0).1 ≠ n) : atF F n = i := by
  have : (List.range F.length).find? (fun i => decide ((F.getD i fi0).1 = n)) = some i := by
    rw [List.find?_range_eq_some]
    exact ⟨decide_eq_true h, by simpa using hi, fun j hj => by rw [decide_eq_false (hno j hj)]; rfl⟩
  unfold atF
  rw [this]
theorem atF_none {F : List FI} {n : ByteArray} (hno : ∀ j, j < F.length → (F.getD j fi0).1 ≠ n) : atF F n = -1 := by
  have : (List.range F.length).find? (fun i => decide ((F.getD i fi0).1 = n)) = none := by
    rw [List.find?_eq_none]
    intro j hj
    have := hno j (by simpa using hj)
    simpa using this
  unfold atF
  rw [this]
/-- What the place tells. -/
theorem atF_or (F : List FI) (n : ByteArray) : (atF F n = -1 ∧ hasF F n = false ∧ datF F n = ⟨#[]⟩) ∨ ∃ i : Nat, i < F.length ∧ atF F n = i ∧ hasF F n = true ∧ datF F n = (F.getD i fi0).2 := by
  have key : ∀ G : List FI, (hasF G n = false ∧ datF G n = ⟨#[]⟩ ∧ ∀ j, j < G.length → (G.getD j fi0).1 ≠ n) ∨ ∃ i : Nat, i < G.length ∧ hasF G n = true ∧ datF G n = (G.getD i fi0).2 ∧ (G.getD i fi0).1 = n ∧ ∀ j, j < i → (G.getD j fi0).1 ≠ n := by
    intro G
    induction G with
    | nil => exact .inl ⟨rfl, rfl, fun j hj => by simp at hj⟩
    | cons f G ih =>
      by_cases e : f.1 = n
      · exact .inr ⟨0, by simp, by simp [hasF, e], by simp [datF, e], by simpa using e, fun j hj => by omega⟩
      · rcases ih with ⟨h1, h2, h3⟩ | ⟨i, h0, h1, h2, h3, h4⟩
        · refine .inl ⟨by simpa [hasF, e] using h1, by simpa [datF, e] using h2, fun j hj => ?_⟩
          cases j with
          | zero => simpa using e
          | succ j => simpa using h3 j (by simpa using hj)
        · refine .inr ⟨i + 1, by simpa using h0, by simpa [hasF, e] using h1, by simpa [datF, e] using h2, by simpa using h3, fun j hj => ?_⟩
          cases j with
          | zero => simpa using e
          | succ j => simpa using h4 j (by omega)
  rcases key F with ⟨h1, h2, h3⟩ | ⟨i, h0, h1, h2, h3, h4⟩
  · exact .inl ⟨atF_none h3, h1, h2⟩
  · exact .inr ⟨i, h0, atF_at h0 h3 h4, h1, h2⟩

set_option maxHeartbeats 1000000 in
theorem l12At_any (a : Option Addr) (c : Nat) (F : List FI) (nm : ByteArray) (w : World) (hF : FilesAt w a F) (hn : F.length ≤ 1048576) :
    Calls Try.prog 40 #[.slice a F.length c, .string nm] w fun e w' => e = .returned (.int .i64 (atF F nm)) ∧ w' = w := by
  have HF : Hid (FilesAt w a F) := hF
  clear hF
  obtain ⟨r, HR⟩ : ∃ r, Hid (atF F nm = r) := ⟨_, rfl⟩
  rw [HR.out]
  obtain ⟨n, HN⟩ : ∃ n, Hid (F.length = n) := ⟨_, rfl⟩
  rw [HN.out] at hn ⊢
  go_enter Try.func40, Try.ntmps40
  go_wp2_with fail
  go_loop [5] (fun t => ∃ k : Nat, k ≤ n ∧ t = .int .i64 k ∧ ∀ j, j < k → (F.getD j fi0).1 ≠ nm) (fun t => n - (intOf t).toNat)
  case atStart => exact ⟨0, Nat.zero_le _, rfl, fun j hj => by omega⟩
  case round =>
    obtain ⟨k, hk, rfl, hno⟩ := hrel
    have HNO : Hid (∀ j, j < k → (F.getD j fi0).1 ≠ nm) := hno
    clear hno
    by_cases hlt : k < n
    · have hin : (k : Int) < n := by omega
      have hkF : k < F.length := by rw [HN.out]; exact hlt
      obtain ⟨b, off, e, c1, c2⟩ := HF.out k hkF
      subst e
      have HY : Hid ((F.getD k fi0).1 = nm → r = k) := fun h => HR.out.symm.trans (atF_at hkF h HNO.out)
      have HS : Hid ((F.getD k fi0).1 ≠ nm → ∀ j, j < k + 1 → (F.getD j fi0).1 ≠ nm) := fun h j hj => by
        by_cases e : j = k
        · rw [e]; exact h
        · exact HNO.out j (by omega)
      generalize (F.getD k fi0).1 = x at *
      clear c2
      by_cases he : x = nm
      · have hr : r = k := HY.out he
        subst hr
        have heb := str_eq he
        clear he
        go_wp2
        go_ret
        exact ⟨rfl, rfl⟩
      · have heb := str_ne he
        have HS2 : Hid (∀ j, j < k + 1 → (F.getD j fi0).1 ≠ nm) := HS.out he
        clear he
        go_wp2
        exact ⟨⟨k + 1, by omega, by go_num, HS2.out⟩, by simp [intOf]; omega⟩
    · have hin : ¬ ((k : Int) < n) := by omega
      have hr : r = -1 := HR.out.symm.trans (atF_none (fun j hj => HNO.out j (by rw [HN.out] at hj; omega)))
      subst hr
      go_wp2
      go_ret
      exact ⟨rfl, rfl⟩

end Go.Proofs.Ytpahhhocgpohbaa

namespace Go.Proofs.Ytpahhhocgpohbaa
open Go.RowKit

/-- What does an op of its form. -/
def deedV (o : OP) : Value :=
  if o.k = 1 then .iface 92 (.agg #[.string o.n, .string o.d]) else if o.k = 2 then .iface 94 (.agg #[.string o.n, .string o.t]) else .iface 96 (.agg #[.string o.n])
/-- What deedOf looks at first. -/
def preB (o : OP) : Bool := nmB o.n && ((decide (o.k = 2) || decide (o.t = ⟨#[]⟩)) && (decide (o.k = 1) || decide (o.d = ⟨#[]⟩)))
theorem frm_pre {o : OP} (h : preB o = false) : frmB o = false := by
  unfold preB at h
  unfold frmB
  cases hn : nmB o.n
  · simp
  · rw [hn, Bool.true_and] at h
    by_cases h2 : o.k = 2
    · rw [if_pos h2]
      rw [decide_eq_true h2, Bool.true_or, Bool.true_and, decide_eq_false (by omega), Bool.false_or] at h
      rw [h]
      simp
    · rw [if_neg h2]
      rw [decide_eq_false h2, Bool.false_or] at h
      rw [h]
      simp
theorem frm_one {o : OP} (h : preB o = true) (hk : o.k = 1) : frmB o = true := by
  unfold preB at h
  unfold frmB
  simp only [Bool.and_eq_true, Bool.or_eq_true, decide_eq_true_eq] at h ⊢
  rw [if_neg (by omega)]
  simp only [Bool.and_eq_true, Bool.or_eq_true, decide_eq_true_eq]
  exact ⟨by omega, h.1, by rcases h.2.1 with h1 | h1; omega; exact h1, .inl hk⟩
theorem frm_two {o : OP} (h : preB o = true) (hk : o.k = 2) : frmB o = nmB o.t := by
  unfold preB at h
  unfold frmB
  simp only [Bool.and_eq_true, Bool.or_eq_true, decide_eq_true_eq] at h
  rw [if_pos hk, h.1, decide_eq_true (by omega : 1 ≤ o.k ∧ o.k ≤ 3), decide_eq_true (by rcases h.2.2 with h1 | h1; omega; exact h1)]
  simp
theorem frm_three {o : OP} (h : preB o = true) (hk : o.k = 3) : frmB o = true := by
  unfold preB at h
  unfold frmB
  simp only [Bool.and_eq_true, Bool.or_eq_true, decide_eq_true_eq] at h ⊢
  rw [if_neg (by omega)]
  simp only [Bool.and_eq_true, Bool.or_eq_true, decide_eq_true_eq]
  exact ⟨by omega, h.1, by rcases h.2.1 with h1 | h1; omega; exact h1, by rcases h.2.2 with h1 | h1; omega; exact .inr h1⟩
theorem frm_none {o : OP} (h1 : o.k ≠ 1) (h2 : o.k ≠ 2) (h3 : o.k ≠ 3) : frmB o = false := by
  unfold frmB
  rw [decide_eq_false (by omega)]
  rfl

set_option maxHeartbeats 4000000 in
theorem deedOf_any (o : OP) (w : World) :
    Calls Try.prog 46 #[.agg #[.int .i64 o.k, .string o.n, .string o.t, .string o.d]] w fun e w' => ∃ v, e = .returned (.tuple #[v, .bool (frmB o)]) ∧ (frmB o = true → v = deedV o) ∧ Below w.heap.size w w' := by
  have HP1 : Hid (preB o = false → frmB o = false) := frm_pre
  have HP2 : Hid (preB o = true → o.k = 1 → frmB o = true) := frm_one
  have HP3 : Hid (preB o = true → o.k = 2 → frmB o = nmB o.t) := frm_two
  have HP4 : Hid (preB o = true → o.k = 3 → frmB o = true) := frm_three
  have HP5 : Hid (o.k ≠ 1 → o.k ≠ 2 → o.k ≠ 3 → frmB o = false) := frm_none
  have HV1 : Hid (o.k = 1 → deedV o = .iface 92 (.agg #[.string o.n, .string o.d])) := fun h => by unfold deedV; rw [if_pos h]
  have HV2 : Hid (o.k = 2 → deedV o = .iface 94 (.agg #[.string o.n, .string o.t])) := fun h => by unfold deedV; rw [if_neg (by omega), if_pos h]
  have HV3 : Hid (o.k = 3 → deedV o = .iface 96 (.agg #[.string o.n])) := fun h => by unfold deedV; rw [if_neg (by omega), if_neg (by omega)]
  have HPD : Hid (preB o = (nmB o.n && ((decide (o.k = 2) || decide (o.t = ⟨#[]⟩)) && (decide (o.k = 1) || decide (o.d = ⟨#[]⟩))))) := rfl
  obtain ⟨dv, HDV⟩ : ∃ v, Hid (deedV o = v) := ⟨_, rfl⟩
  rw [HDV.out] at HV1 HV2 HV3 ⊢
  obtain ⟨r, HR⟩ : ∃ r, Hid (frmB o = r) := ⟨_, rfl⟩
  rw [HR.out] at HP1 HP2 HP3 HP4 HP5 ⊢
  obtain ⟨p, HPB⟩ : ∃ r, Hid (preB o = r) := ⟨_, rfl⟩
  rw [HPB.out] at HP1 HP2 HP3 HP4 HPD
  clear HDV HR HPB
  obtain ⟨k, n, t, d⟩ := o
  simp only at HP1 HP2 HP3 HP4 HP5 HV1 HV2 HV3 HPD ⊢
  have B0 : Hid (Below w.heap.size w (w.alloc (.cells #[.int .i64 k, .string n, .string t, .string d] 36))) := (Below.refl _ _).alloc (Nat.le_refl _) _
  have hr : (w.alloc (.cells #[.int .i64 k, .string n, .string t, .string d] 36)).heap[w.heap.size]? = some (.cells #[.int .i64 k, .string n, .string t, .string d] 36 (0, 0)) := heap_alloc_new _ _
  obtain ⟨c0, c1, c2, c3⟩ := cells4 hr
  clear hr
  have IN : Hid (∀ W x b, nmB x = b → Calls Try.prog 44 #[.string x] W fun e w' => e = .returned (.bool b) ∧ w' = W) := fun W x b hb => by
    have := isFileName_any x W
    rw [hb] at this
    exact this
  have ed := emp_eq d
  have et := emp_eq t
  -- CASES
  cases hn : nmB n
  · skip
    have hrr : r = false := HP1.out (by rw [HPD.out, hn]; rfl)
    subst hrr
    go_enter Try.func46, Try.ntmps46
    go_wp2_with (first
      | (go_at_call 44; with_reducible refine (IN.out _ n _ hn).mono ?_; rintro e w' ⟨rfl, hw⟩; subst hw))
    go_ret2
    exact ⟨_, rfl, fun h => (by cases h), B0.out⟩
  · by_cases k1 : k = 1
    · subst k1
      cases ht : decide (t = ⟨#[]⟩)
      · rw [ht] at et
        have hrr : r = false := HP1.out (by rw [HPD.out, hn, ht]; rfl)
        subst hrr
        go_enter Try.func46, Try.ntmps46
        go_wp2_with (first
          | (go_at_call 44; with_reducible refine (IN.out _ n _ hn).mono ?_; rintro e w' ⟨rfl, hw⟩; subst hw))
        go_ret2
        exact ⟨_, rfl, fun h => (by cases h), B0.out⟩
      · rw [ht] at et
        have hp : p = true := by rw [HPD.out, hn, ht]; rfl
        have hrr : r = true := HP2.out hp rfl
        have hv := HV1.out rfl
        subst hrr hv
        go_enter Try.func46, Try.ntmps46
        go_wp2_with (first
          | (go_at_call 44; with_reducible refine (IN.out _ n _ hn).mono ?_; rintro e w' ⟨rfl, hw⟩; subst hw))
        go_ret2
        exact ⟨_, rfl, fun _ => rfl, B0.out⟩
    · by_cases k2 : k = 2
      · subst k2
        cases hd : decide (d = ⟨#[]⟩)
        · rw [hd] at ed
          have hrr : r = false := HP1.out (by rw [HPD.out, hn, hd]; rfl)
          subst hrr
          go_enter Try.func46, Try.ntmps46
          go_wp2_with (first
            | (go_at_call 44; with_reducible refine (IN.out _ n _ hn).mono ?_; rintro e w' ⟨rfl, hw⟩; subst hw))
          go_ret2
          exact ⟨_, rfl, fun h => (by cases h), B0.out⟩
        · rw [hd] at ed
          have hp : p = true := by rw [HPD.out, hn, hd]; rfl
          have hrr : r = nmB t := HP3.out hp rfl
          have hv := HV2.out rfl
          subst hrr hv
          obtain ⟨b, hb⟩ : ∃ b, nmB t = b := ⟨_, rfl⟩
          rw [hb]
          have hkin := Kin.there (w.alloc (.cells #[.int .i64 2, .string n, .string t, .string d] 36))
          have z1 := fun s : Kin (w.alloc (.cells #[.int .i64 2, .string n, .string t, .string d] 36)) => s.cell c1
          have z2 := fun s : Kin (w.alloc (.cells #[.int .i64 2, .string n, .string t, .string d] 36)) => s.cell c2
          go_enter Try.func46, Try.ntmps46
          go_wp2_with (first
            | (go_at_call 44; with_reducible refine (IN.out _ n _ hn).mono ?_; rintro e w' ⟨rfl, hw⟩; subst hw))
          refine wp_region_kin (by kernel_rfl) (by kernel_rfl) ?_
          repeat (go_big_quiet_step ((go_at_call 44; with_reducible exact Kin.call_same (IN.out _ t _ hb))))
          refine wpQuiet_nil ?_
          rintro _ ⟨s1, rfl⟩
          clear z1 z2 hkin
          have B1 : Hid (Below w.heap.size w s1.w) := B0.out.trans (s1.below.mono B0.out.size)
          go_wp2
          go_ret2
          exact ⟨_, rfl, fun _ => rfl, B1.out⟩
      · have k1b : (k == 1) = false := by simp [k1]
        have k2b : (k == 2) = false := by simp [k2]
        have dk1 : decide (k = 1) = false := decide_eq_false k1
        have dk2 : decide (k = 2) = false := decide_eq_false k2
        cases ht : decide (t = ⟨#[]⟩)
        · rw [ht] at et
          have hrr : r = false := HP1.out (by rw [HPD.out, hn, dk2, ht]; rfl)
          subst hrr
          go_enter Try.func46, Try.ntmps46
          go_wp2_with (first
            | (go_at_call 44; with_reducible refine (IN.out _ n _ hn).mono ?_; rintro e w' ⟨rfl, hw⟩; subst hw))
          go_ret2
          exact ⟨_, rfl, fun h => (by cases h), B0.out⟩
        · rw [ht] at et
          cases hd : decide (d = ⟨#[]⟩)
          · rw [hd] at ed
            have hrr : r = false := HP1.out (by rw [HPD.out, hn, dk2, ht, dk1, hd]; rfl)
            subst hrr
            go_enter Try.func46, Try.ntmps46
            go_wp2_with (first
              | (go_at_call 44; with_reducible refine (IN.out _ n _ hn).mono ?_; rintro e w' ⟨rfl, hw⟩; subst hw))
            go_ret2
            exact ⟨_, rfl, fun h => (by cases h), B0.out⟩
          · rw [hd] at ed
            have hp : p = true := by rw [HPD.out, hn, dk2, ht, dk1, hd]; rfl
            by_cases k3 : k = 3
            · subst k3
              have hrr : r = true := HP4.out hp rfl
              have hv := HV3.out rfl
              subst hrr hv
              go_enter Try.func46, Try.ntmps46
              go_wp2_with (first
                | (go_at_call 44; with_reducible refine (IN.out _ n _ hn).mono ?_; rintro e w' ⟨rfl, hw⟩; subst hw))
              go_ret2
              exact ⟨_, rfl, fun _ => rfl, B0.out⟩
            · have k3b : (k == 3) = false := by simp [k3]
              have hrr : r = false := HP5.out k1 k2 k3
              subst hrr
              go_enter Try.func46, Try.ntmps46
              go_wp2_with (first
                | (go_at_call 44; with_reducible refine (IN.out _ n _ hn).mono ?_; rintro e w' ⟨rfl, hw⟩; subst hw))
              go_ret2
              exact ⟨_, rfl, fun h => (by cases h), B0.out⟩

end Go.Proofs.Ytpahhhocgpohbaa

namespace Go.Proofs.Ytpahhhocgpohbaa
open Go.RowKit

/-- 'append' of nil. -/
theorem run_append_none {P : Program} (w : World) (base : Nat) (t ty e : TypeId) (i : TypeInfo) (size : Nat) (ht : P.underlying t = some (.slice e)) (hi : P.info? e = some i) (v : Value) (k : Nat) (xs : List Value) (hown : w.ownsRow base e size v k xs) (c : Nat) :
    (Builtin.append_ #[t, t] ty #[v, .slice none 0 c]).run P w = .ok v w := by
  rcases hown.2 with ⟨rfl, rfl⟩ | ⟨g, cap, cur, rfl, hbg, hg, hnc, hcm, hcs, htake⟩
  · simp [Builtin.append_, run_underlying ht, sizeOf, typeInfo, hi, Builtin.lenOf, run_firstCells_none]
  · simp [Builtin.append_, run_underlying ht, sizeOf, typeInfo, hi, Builtin.lenOf, hnc, run_firstCells_none, storeCells]
/-- 'append' of a slice wherever it lies, nil too, to a slice of the call's own: the run. -/
theorem run_append_opt {T E : TypeId} {z : Value} {size bytes : Nat} (ht : Try.prog.underlying T = some (.slice E)) (hinf : (Try.prog.info? E).map (fun i => (i.zero, i.size, i.bytes)) = some (some z, size, bytes)) (hzs : z.cells.size = size) (hsz : 0 < size)
    (w : World) (ty : TypeId) (base : Nat) (v : Value) (k : Nat) (xs : List Value) (hown : w.ownsRow base E size v k xs) (ad : Option Addr) (m c : Nat) (ys : List Value)
    (hy : ys.length = m * size) (hc : ∀ j u, ys[j]? = some u → ∃ b off, ad = some ⟨b, off, none⟩ ∧ w.cell? ⟨b, off + j, none⟩ = some u) (h1 : ∀ u ∈ ys, u.oneCell' = true) (h63 : k + m ≤ 70368744177663) (hbytes : (k + m) * bytes ≤ 140737488355328) (hb : base ≤ w.heap.size) :
    ∃ v' w', (Builtin.append_ #[T, T] ty #[v, .slice ad m c]).run Try.prog w = .ok v' w' ∧ w'.ownsRow base E size v' (k + m) (xs ++ ys) ∧ w.grownBy w' v.ownBlock ∧ (v'.ownBlock = v.ownBlock ∨ v'.ownBlock = some w.heap.size) ∧ (v' = .slice none 0 0 ↔ v = .slice none 0 0 ∧ m = 0) := by
  cases ad with
  | none =>
    have hy0 : ys = [] := by
      cases ys with
      | nil => rfl
      | cons y ys =>
        obtain ⟨b, off, e, _⟩ := hc 0 y rfl
        cases e
    subst hy0
    have hm : m = 0 := by
      rcases Nat.eq_zero_or_pos m with h | h
      · exact h
      · have h2 := Nat.mul_pos h hsz
        rw [← hy] at h2
        exact absurd h2 (Nat.lt_irrefl _)
    subst hm
    obtain ⟨i0, hi, hz0, hz1, hz2⟩ := inf_parts hinf
    exact ⟨v, w, run_append_none (P := Try.prog) w base T ty _ i0 size ht hi v k xs hown c, by rw [Nat.add_zero, List.append_nil]; exact hown, ⟨rfl, rfl, rfl, Nat.le_refl _, fun _ _ _ => rfl⟩, .inl rfl, ⟨fun h => ⟨h, rfl⟩, fun h => h.1⟩⟩
  | some A =>
    have hnews : ∀ j u, ys[j]? = some u → w.cell? (A.add j) = some u := fun j u hu => by
      obtain ⟨b, off, e, hq⟩ := hc j u hu
      rw [Option.some.inj e, add_plain]
      exact hq
    obtain ⟨i0, hi, hz0, hz1, hz2⟩ := inf_parts hinf
    obtain ⟨v', w', hrun, r1, r2, r3⟩ := run_append_own (P := Try.prog) w base T ty _ i0 _ size bytes ht hi hz0 hz1 hz2 hzs hsz v k xs hown A m c ys hy hnews h1 (by unfold maxLen; omega) hbytes hb
    have r4 := append_blk (P := Try.prog) w base T ty _ i0 _ size bytes ht hi hz0 hz1 hz2 v k xs hown A m c ys hy hnews h1 (by unfold maxLen; omega) hbytes hrun
    exact ⟨v', w', hrun, r1, r2, r4, r3⟩
theorem append_opt {T E : TypeId} {z : Value} {size bytes : Nat} (ht : Try.prog.underlying T = some (.slice E)) (hinf : (Try.prog.info? E).map (fun i => (i.zero, i.size, i.bytes)) = some (some z, size, bytes)) (hzs : z.cells.size = size) (hsz : 0 < size)
    (w : World) {ops : Array Oper} {rest : List Oper} {o : Oper} {a : Act} {Q : Exit → Act → World → Prop}
    (hg : o.guard = none) (s x : Operand) (hop : o.op = Op.call { callee := Callee.builtin Builtin.append, args := #[s, x], argTypes := #[T, T] })
    (base : Nat) (v : Value) (k : Nat) (xs : List Value) (hs : a.eval s = v) (hown : w.ownsRow base E size v k xs) (ad : Option Addr) (m c : Nat) (ys : List Value) (hx : a.eval x = .slice ad m c)
    (hy : ys.length = m * size) (hc : ∀ j u, ys[j]? = some u → ∃ b off, ad = some ⟨b, off, none⟩ ∧ w.cell? ⟨b, off + j, none⟩ = some u) (h1 : ∀ u ∈ ys, u.oneCell' = true) (h63 : k + m ≤ 70368744177663) (hbytes : (k + m) * bytes ≤ 140737488355328) (hb : base ≤ w.heap.size)
    (hK : ∀ v' w', w'.ownsRow base E size v' (k + m) (xs ++ ys) → w.grownBy w' v.ownBlock → (v'.ownBlock = v.ownBlock ∨ v'.ownBlock = some w.heap.size) → (v' = .slice none 0 0 ↔ v = .slice none 0 0 ∧ m = 0) → wpList Try.prog ops Q rest (a.put o.dst v') w') :
    wpList Try.prog ops Q (o :: rest) a w := by
  obtain ⟨v', w', hrun, r1, r2, r4, r3⟩ := run_append_opt ht hinf hzs hsz w o.type base v k xs hown ad m c ys hy hc h1 h63 hbytes hb
  exact wpList_run v' hg (exec_app s x _ v _ hop hs hx hrun) (hK v' w' r1 r2 r4 r3)
theorem step_append_opt {T E : TypeId} {z : Value} {size bytes : Nat} (ht : Try.prog.underlying T = some (.slice E)) (hinf : (Try.prog.info? E).map (fun i => (i.zero, i.size, i.bytes)) = some (some z, size, bytes)) (hzs : z.cells.size = size) (hsz : 0 < size)
    {ops : Array Oper} {o : Oper} {a : Act} {w : World} {K : Act → World → Prop} {Q : Exit → Act → World → Prop} {Els : Prop}
    (hg : o.guard = none) (s x : Operand) (hop : o.op = Op.call { callee := Callee.builtin Builtin.append, args := #[s, x], argTypes := #[T, T] })
    (base : Nat) (v : Value) (k : Nat) (xs : List Value) (hs : a.eval s = v) (hown : w.ownsRow base E size v k xs) (ad : Option Addr) (m c : Nat) (ys : List Value) (hx : a.eval x = .slice ad m c)
    (hy : ys.length = m * size) (hc : ∀ j u, ys[j]? = some u → ∃ b off, ad = some ⟨b, off, none⟩ ∧ w.cell? ⟨b, off + j, none⟩ = some u) (h1 : ∀ u ∈ ys, u.oneCell' = true) (h63 : k + m ≤ 70368744177663) (hbytes : (k + m) * bytes ≤ 140737488355328) (hb : base ≤ w.heap.size)
    (hK : ∀ v' w', w'.ownsRow base E size v' (k + m) (xs ++ ys) → w.grownBy w' v.ownBlock → (v'.ownBlock = v.ownBlock ∨ v'.ownBlock = some w.heap.size) → (v' = .slice none 0 0 ↔ v = .slice none 0 0 ∧ m = 0) → K (a.put o.dst v') w') :
    if Region.wanted o (yielded ops a.tmps) = true then Oper.wp Try.prog o a w K Q else Els := by
  have hw : Region.wanted o (yielded ops a.tmps) = true := by simp [Region.wanted, hg]
  rw [if_pos hw]
  obtain ⟨v', w', hrun, r1, r2, r4, r3⟩ := run_append_opt ht hinf hzs hsz w o.type base v k xs hown ad m c ys hy hc h1 h63 hbytes hb
  unfold Oper.wp
  simp [execOp, hop, resolve, invoke, builtin, hs, hx, hrun, Result.andThen]
  exact hK _ _ r1 r2 r4 r3

end Go.Proofs.Ytpahhhocgpohbaa
