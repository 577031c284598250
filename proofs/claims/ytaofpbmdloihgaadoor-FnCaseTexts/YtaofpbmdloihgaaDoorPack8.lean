import Derived.Test.YtaofpbmdloihgaaDoorPack1
import Derived.Deep.RegionLaw
import Derived.WalkKit
import Derived.Deep.RegionHeld3
namespace Go.Proofs.YtaofpbmdloihgaaDoor
open Go.RowKit

theorem inf_parts {E : TypeId} {z : Value} {size bytes : Nat} (h : (Tryd.prog.info? E).map (fun i => (i.zero, i.size, i.bytes)) = some (some z, size, bytes)) : ∃ i0, Tryd.prog.info? E = some i0 ∧ i0.zero = some z ∧ i0.size = size ∧ i0.bytes = bytes := by
  cases hq : Tryd.prog.info? E with
  | none => rw [hq] at h; simp at h
  | some i0 =>
    rw [hq] at h
    simp only [Option.map_some, Option.some.injEq, Prod.mk.injEq] at h
    exact ⟨i0, rfl, h.1, h.2.1, h.2.2⟩
theorem add_plain (b off j : Nat) : (⟨b, off, none⟩ : Addr).add j = ⟨b, off + j, none⟩ := by unfold Addr.add; split <;> simp_all

/-- 'append' of elements of any kind (size cells each) to a slice of the call's own. -/
theorem append_vals {T E : TypeId} {z : Value} {size bytes : Nat} (ht : Tryd.prog.underlying T = some (.slice E)) (hinf : (Tryd.prog.info? E).map (fun i => (i.zero, i.size, i.bytes)) = some (some z, size, bytes)) (hzs : z.cells.size = size) (hsz : 0 < size)
    (w : World) {ops : Array Oper} {rest : List Oper} {o : Oper} {a : Act} {Q : Exit → Act → World → Prop}
    (hg : o.guard = none) (s x : Operand) (hop : o.op = Op.call { callee := Callee.builtin Builtin.append, args := #[s, x], argTypes := #[T, T] })
    (base : Nat) (v : Value) (k : Nat) (xs : List Value) (hs : a.eval s = v) (hown : w.ownsRow base E size v k xs) (b off m c : Nat) (ys : List Value) (hx : a.eval x = .slice (some ⟨b, off, none⟩) m c)
    (hy : ys.length = m * size) (hc : ∀ j u, ys[j]? = some u → w.cell? ⟨b, off + j, none⟩ = some u) (h1 : ∀ u ∈ ys, u.oneCell' = true) (h63 : k + m ≤ 70368744177663) (hbytes : (k + m) * bytes ≤ 140737488355328) (hb : base ≤ w.heap.size)
    (hK : ∀ v' w', w'.ownsRow base E size v' (k + m) (xs ++ ys) → w.grownBy w' v.ownBlock → (v'.ownBlock = v.ownBlock ∨ v'.ownBlock = some w.heap.size) → (v' = .slice none 0 0 ↔ v = .slice none 0 0 ∧ m = 0) → wpList Tryd.prog ops Q rest (a.put o.dst v') w') :
    wpList Tryd.prog ops Q (o :: rest) a w := by
  obtain ⟨i0, hi, hz0, hz1, hz2⟩ := inf_parts hinf
  have hnews : ∀ j u, ys[j]? = some u → w.cell? ((⟨b, off, none⟩ : Addr).add j) = some u := fun j u hu => by rw [add_plain]; exact hc j u hu
  obtain ⟨v', w', hrun, r1, r2, r3⟩ := run_append_own (P := Tryd.prog) w base T o.type _ i0 _ size bytes ht hi hz0 hz1 hz2 hzs hsz v k xs hown ⟨b, off, none⟩ m c ys hy hnews h1 (by unfold maxLen; omega) hbytes hb
  have r4 := append_blk (P := Tryd.prog) w base T o.type _ i0 _ size bytes ht hi hz0 hz1 hz2 v k xs hown ⟨b, off, none⟩ m c ys hy hnews h1 (by unfold maxLen; omega) hbytes hrun
  exact wpList_run v' hg (exec_app s x _ v _ hop hs hx hrun) (hK v' w' r1 r2 r4 r3)

/-- The same as a step of a region that draws. -/
theorem step_append_vals {T E : TypeId} {z : Value} {size bytes : Nat} (ht : Tryd.prog.underlying T = some (.slice E)) (hinf : (Tryd.prog.info? E).map (fun i => (i.zero, i.size, i.bytes)) = some (some z, size, bytes)) (hzs : z.cells.size = size) (hsz : 0 < size)
    {ops : Array Oper} {o : Oper} {a : Act} {w : World} {K : Act → World → Prop} {Q : Exit → Act → World → Prop} {Els : Prop}
    (hg : o.guard = none) (s x : Operand) (hop : o.op = Op.call { callee := Callee.builtin Builtin.append, args := #[s, x], argTypes := #[T, T] })
    (base : Nat) (v : Value) (k : Nat) (xs : List Value) (hs : a.eval s = v) (hown : w.ownsRow base E size v k xs) (b off m c : Nat) (ys : List Value) (hx : a.eval x = .slice (some ⟨b, off, none⟩) m c)
    (hy : ys.length = m * size) (hc : ∀ j u, ys[j]? = some u → w.cell? ⟨b, off + j, none⟩ = some u) (h1 : ∀ u ∈ ys, u.oneCell' = true) (h63 : k + m ≤ 70368744177663) (hbytes : (k + m) * bytes ≤ 140737488355328) (hb : base ≤ w.heap.size)
    (hK : ∀ v' w', w'.ownsRow base E size v' (k + m) (xs ++ ys) → w.grownBy w' v.ownBlock → (v'.ownBlock = v.ownBlock ∨ v'.ownBlock = some w.heap.size) → (v' = .slice none 0 0 ↔ v = .slice none 0 0 ∧ m = 0) → K (a.put o.dst v') w') :
    if Region.wanted o (yielded ops a.tmps) = true then Oper.wp Tryd.prog o a w K Q else Els := by
  have hw : Region.wanted o (yielded ops a.tmps) = true := by simp [Region.wanted, hg]
  rw [if_pos hw]
  obtain ⟨i0, hi, hz0, hz1, hz2⟩ := inf_parts hinf
  have hnews : ∀ j u, ys[j]? = some u → w.cell? ((⟨b, off, none⟩ : Addr).add j) = some u := fun j u hu => by rw [add_plain]; exact hc j u hu
  obtain ⟨v', w', hrun, r1, r2, r3⟩ := run_append_own (P := Tryd.prog) w base T o.type _ i0 _ size bytes ht hi hz0 hz1 hz2 hzs hsz v k xs hown ⟨b, off, none⟩ m c ys hy hnews h1 (by unfold maxLen; omega) hbytes hb
  have r4 := append_blk (P := Tryd.prog) w base T o.type _ i0 _ size bytes ht hi hz0 hz1 hz2 v k xs hown ⟨b, off, none⟩ m c ys hy hnews h1 (by unfold maxLen; omega) hbytes hrun
  unfold Oper.wp
  simp [execOp, hop, resolve, invoke, builtin, hs, hx, hrun, Result.andThen]
  exact hK _ _ r1 r2 r4 r3

end Go.Proofs.YtaofpbmdloihgaaDoor

namespace Go.Proofs.YtaofpbmdloihgaaDoor
open Go.RowKit

theorem grown_row {w w' : World} {row : Option Nat} {k : Nat} {o : Obj} (hg : w.grownBy w' row) (h : w.heap[k]? = some o) (hne : some k ≠ row) : w'.heap[k]? = some o := (hg.block k (row_lt h) hne).trans h

/-- What is owned of a row of numbers lies there. -/
theorem owns_ints {w : World} {base size g n cap : Nat} {e : TypeId} {zs : List Int} (h : w.ownsRow base e size (.slice (some ⟨g, 0, none⟩) n cap) n (zs.map (Value.int .i64))) : IntsAt w (some ⟨g, 0, none⟩) zs := by
  intro j hj
  refine ⟨g, 0, rfl, ?_⟩
  have := h.cells (g := g) rfl j (.int .i64 (zs.getD j 0)) (by simp [List.getD, hj])
  have hadd : (⟨g, 0, none⟩ : Addr).add j = ⟨g, 0 + j, none⟩ := by unfold Addr.add; split <;> simp_all
  rw [hadd] at this
  exact this

theorem owns_below {w w' : World} {base size n : Nat} {e : TypeId} {v : Value} {xs : List Value} (h : w.ownsRow base e size v n xs) (hb : Below w.heap.size w w') : w'.ownsRow base e size v n xs := by
  obtain ⟨h1, h2 | ⟨g, cap, cur, h2, h3, h4, h5⟩⟩ := h
  · exact ⟨h1, .inl h2⟩
  · exact ⟨h1, .inr ⟨g, cap, cur, h2, h3, below_row hb (row_lt h4) h4, h5⟩⟩

theorem own_some {w : World} {base k : Nat} {v : Value} {e : TypeId} {size : Nat} {xs : List Value} (h : w.ownsRow base e size v (k + 1) xs) : ∃ g c, v = .slice (some ⟨g, 0, none⟩) (k + 1) c ∧ base ≤ g := by
  obtain ⟨_, ⟨_, h2⟩ | ⟨g, cap, cur, h2, h3, _⟩⟩ := h
  · omega
  · exact ⟨g, cap, h2, h3⟩
theorem own_shape {w : World} {base k : Nat} {v : Value} {e : TypeId} {size : Nat} {xs : List Value} (h : w.ownsRow base e size v k xs) : v = .slice none 0 0 ∨ ∃ g c, v = .slice (some ⟨g, 0, none⟩) k c := by
  obtain ⟨_, ⟨h1, _⟩ | ⟨g, cap, cur, h2, _⟩⟩ := h
  · exact .inl h1
  · exact .inr ⟨g, cap, h2⟩
theorem owns_base {w : World} {base b0 k : Nat} {v : Value} {e : TypeId} {size : Nat} {xs : List Value} (h : w.ownsRow base e size v k xs) (hb : b0 ≤ base) : w.ownsRow b0 e size v k xs := by
  obtain ⟨h0, h1 | ⟨g, cap, cur, h2, h3, h4⟩⟩ := h
  · exact ⟨h0, .inl h1⟩
  · exact ⟨h0, .inr ⟨g, cap, cur, h2, Nat.le_trans hb h3, h4⟩⟩
theorem owns_set {w : World} {base k b i : Nat} {v u : Value} {e : TypeId} {size : Nat} {xs : List Value} (h : w.ownsRow base e size v k xs) (hb : b < base) : (w.setCell ⟨b, i, none⟩ u).ownsRow base e size v k xs := ownsRow_setCell_below h hb u
theorem owns_at1 {w : World} {base n : Nat} {e : TypeId} {sl : Value} {xs : List Int} (h : w.ownsRow base e 1 sl n (xs.map (Value.int .i64))) : ∃ a c, sl = .slice a xs.length c ∧ xs.length = n ∧ IntsAt w a xs := by
  obtain ⟨h1, ⟨rfl, h2⟩ | ⟨g, cap, cur, rfl, h3, h4, h5⟩⟩ := id h
  · subst h2
    have : xs = [] := by simpa using h1
    subst this
    exact ⟨none, 0, rfl, rfl, fun j hj => by simp at hj⟩
  · have hl : xs.length = n := by simpa using h1
    exact ⟨_, _, by rw [hl], hl, owns_ints h⟩

theorem cell_new1 (W : World) (v : Value) (T : TypeId) (g : Nat) (hg : W.heap.size = g) : (W.alloc (.cells #[v] T)).cell? ⟨g, 0, none⟩ = some v := by
  subst hg
  rw [cell_of_row _ _ 0 _ _ _ (heap_alloc_new W (.cells #[v] T))]
  simp
theorem one_cell {w : World} {ad : Addr} {x0 : Value} (hc : w.cell? ad = some x0) : ∀ j u, [x0][j]? = some u → w.cell? (ad.add j) = some u := by
  intro j u hu
  have hj : j = 0 := by
    rcases j with _ | j
    · rfl
    · simp at hu
  subst hj
  have : ad.add 0 = ad := by unfold Addr.add; split <;> simp_all
  rw [this, hc]
  simpa using hu
theorem append_int (w : World) {ops : Array Oper} {rest : List Oper} {o : Oper} {a : Act} {Q : Exit → Act → World → Prop}
    (hg : o.guard = none) (s x : Operand) (hop : o.op = Op.call { callee := Callee.builtin Builtin.append, args := #[s, x], argTypes := #[24, 24] })
    (base : Nat) (v : Value) (k : Nat) (xs : List Value) (hs : a.eval s = v) (hown : w.ownsRow base 2 1 v k xs) (ad : Addr) (c : Nat) (x0 : Value) (hx : a.eval x = .slice (some ad) 1 c)
    (hc : w.cell? ad = some x0) (h1c : x0.oneCell' = true) (b1 : k ≤ 1000) (hb : base ≤ w.heap.size)
    (hK : ∀ v' w', w'.ownsRow base 2 1 v' (k + 1) (xs ++ [x0]) → w.grownBy w' v.ownBlock → wpList Tryd.prog ops Q rest (a.put o.dst v') w') :
    wpList Tryd.prog ops Q (o :: rest) a w := by
  obtain ⟨i0, hi, hz0, hz1, hz2⟩ := info_parts Tryd.info2
  exact wpList_append_own w hg s x _ hop base _ i0 _ 1 8 Tryd.underlying24 hi hz0 hz1 hz2 rfl (by decide) v k xs hs hown ad 1 c [x0] hx rfl (one_cell hc) (by simpa using h1c) (by unfold maxLen; omega) (by omega) hb (fun v' w' h1 h2 _ => hK v' w' h1 h2)

/-- 'append' of a number to a slice of the call's own, as a step of a region that draws. -/
theorem step_append_int {ops : Array Oper} {o : Oper} {a : Act} {w : World} {K : Act → World → Prop} {Q : Exit → Act → World → Prop} {E : Prop}
    (hg : o.guard = none) (s x : Operand) (hop : o.op = Op.call { callee := Callee.builtin Builtin.append, args := #[s, x], argTypes := #[24, 24] })
    (base : Nat) (v : Value) (k : Nat) (xs : List Value) (hs : a.eval s = v) (hown : w.ownsRow base 2 1 v k xs) (ad : Addr) (c : Nat) (x0 : Value) (hx : a.eval x = .slice (some ad) 1 c)
    (hc : w.cell? ad = some x0) (h1c : x0.oneCell' = true) (b1 : k ≤ 1000) (hb : base ≤ w.heap.size)
    (hK : ∀ v' w', w'.ownsRow base 2 1 v' (k + 1) (xs ++ [x0]) → w.grownBy w' v.ownBlock → K (a.put o.dst v') w') :
    if Region.wanted o (yielded ops a.tmps) = true then Oper.wp Tryd.prog o a w K Q else E := by
  have hw : Region.wanted o (yielded ops a.tmps) = true := by simp [Region.wanted, hg]
  rw [if_pos hw]
  obtain ⟨i0, hi, hz0, hz1, hz2⟩ := info_parts Tryd.info2
  obtain ⟨v', w', hrun, r1, r2, _⟩ := run_append_own (P := Tryd.prog) w base 24 o.type _ i0 _ 1 8 Tryd.underlying24 hi hz0 hz1 hz2 rfl (by decide) v k xs hown ad 1 c [x0] rfl (one_cell hc) (by simpa using h1c) (by unfold maxLen; omega) (by omega) hb
  unfold Oper.wp
  simp [execOp, hop, resolve, invoke, builtin, hs, hx, hrun, Result.andThen]
  exact hK _ _ r1 r2

end Go.Proofs.YtaofpbmdloihgaaDoor

namespace Go.Proofs.YtaofpbmdloihgaaDoor
open Go.RowKit

/-- Where an append to a slice of the call's own ends: in the row that was, or in a new block. -/
theorem append_block {P : Program} (w : World) (base : Nat) (t ty e : TypeId) (i : TypeInfo) (z : Value) (size bytes : Nat) (ht : P.underlying t = some (.slice e)) (hi : P.info? e = some i) (hz : i.zero = some z)
    (hsize : i.size = size) (hby : i.bytes = bytes) (v : Value) (n : Nat) (xs : List Value) (hown : w.ownsRow base e size v n xs)
    (a : Addr) (m c : Nat) (news : List Value) (hl : news.length = m * size) (hnews : ∀ j u, news[j]? = some u → w.cell? (a.add j) = some u) (h1 : ∀ u ∈ news, u.oneCell' = true)
    (h63 : n + m ≤ maxLen) (hbytes : (n + m) * bytes ≤ 140737488355328) {v' : Value} {w' : World} (hrun : (Builtin.append_ #[t, t] ty #[v, .slice (some a) m c]).run P w = .ok v' w') : v'.ownBlock = v.ownBlock ∨ v'.ownBlock = some w.heap.size := by
  subst hsize
  subst hby
  have hsmall : n + m ≤ 9223372036854775807 := by simp only [maxLen] at h63; omega
  rcases hown.2 with ⟨rfl, rfl⟩ | ⟨g, cap, cur, rfl, hbg, hg, hnc, hcm, hcs, htake⟩
  · by_cases hm : m = 0
    · subst hm
      have hn : news = [] := List.eq_nil_of_length_eq_zero (by simpa using hl)
      subst hn
      simp [Builtin.append_, run_underlying ht, sizeOf, typeInfo, hi, Builtin.lenOf, Builtin.firstCells, loadCells, loadCellsFrom] at hrun
      rw [← hrun.1]
      exact .inl rfl
    · have hr := run_append_nil (P := P) w t ty e i z ht hi hz a m c news hl hnews (by omega) (by omega) (by have hb := hbytes; simp only [Nat.zero_add] at hb; omega)
      rw [hr] at hrun
      injection hrun with e1 e2
      rw [← e1]
      exact .inr rfl
  · by_cases hroom : n + m ≤ cap
    · have hfit : n * i.size + news.length ≤ cur.size := by rw [hl, hcs, ← Nat.add_mul]; exact Nat.mul_le_mul_right _ hroom
      have hr := run_append_room (P := P) w t ty e i ht hi g n cap cur hg a m c news hl hnews h1 hroom hfit
      rw [hr] at hrun
      injection hrun with e1 e2
      rw [← e1]
      exact .inl rfl
    · have holds : ∀ j u, xs[j]? = some u → w.cell? ((⟨g, 0, none⟩ : Addr).add j) = some u := hown.cells (g := g) rfl
      have hr := run_append_grow (P := P) w t ty e i z ht hi hz ⟨g, 0, none⟩ n cap xs hown.1 holds a m c news hl hnews (by omega) (by omega) (growslice_fits (by omega) hbytes)
      rw [hr] at hrun
      injection hrun with e1 e2
      rw [← e1]
      exact .inr rfl

theorem exec_append' {P : Program} {o : Oper} {a : Act} {w w' : World} {v : Value} (s x : Operand) (t : TypeId) (vs vx : Value) (ho : o.op = .call { callee := .builtin .append, args := #[s, x], argTypes := #[t, t] })
    (hs : a.eval s = vs) (hx : a.eval x = vx) (hr : (Builtin.append_ #[t, t] o.type #[vs, vx]).run P w = .ok v w') : (execOp a.eval o).run P w = .ok (.value v) w' := by
  unfold execOp
  simp only [ho, resolve, invoke, builtin, Sem.run_bind, Sem.run_pure, Result.andThen_ok, List.map_toArray, List.map_cons, List.map_nil, hs, hx, hr]

/-- 'append' of numbers to a slice of the call's own. -/
theorem append_many (w : World) {ops : Array Oper} {rest : List Oper} {o : Oper} {a : Act} {Q : Exit → Act → World → Prop}
    (hg : o.guard = none) (s x : Operand) (hop : o.op = Op.call { callee := Callee.builtin Builtin.append, args := #[s, x], argTypes := #[24, 24] })
    (base : Nat) (v : Value) (k : Nat) (xs : List Int) (hs : a.eval s = v) (hown : w.ownsRow base 2 1 v k (xs.map (Value.int .i64))) (b off m c : Nat) (ys : List Int) (hx : a.eval x = .slice (some ⟨b, off, none⟩) m c)
    (hy : ys.length = m) (hc : IntsAt w (some ⟨b, off, none⟩) ys) (b1 : k ≤ 1000) (b2 : m ≤ 1000) (hb : base ≤ w.heap.size)
    (hK : ∀ v' w', w'.ownsRow base 2 1 v' (k + m) ((xs ++ ys).map (Value.int .i64)) → w.grownBy w' v.ownBlock → (v'.ownBlock = v.ownBlock ∨ v'.ownBlock = some w.heap.size) → (v' = .slice none 0 0 ↔ v = .slice none 0 0 ∧ m = 0) → wpList Tryd.prog ops Q rest (a.put o.dst v') w') :
    wpList Tryd.prog ops Q (o :: rest) a w := by
  obtain ⟨i0, hi, hz0, hz1, hz2⟩ := info_parts Tryd.info2
  have hnews : ∀ j u, (ys.map (Value.int .i64))[j]? = some u → w.cell? ((⟨b, off, none⟩ : Addr).add j) = some u := by
    intro j u hu
    have hj : j < ys.length := by
      rcases Nat.lt_or_ge j ys.length with h' | h'
      · exact h'
      · simp [List.getElem?_eq_none (by simpa using h' : (ys.map (Value.int .i64)).length ≤ j)] at hu
    obtain ⟨b', off', e, hcc⟩ := hc j hj
    simp at e
    obtain ⟨rfl, rfl⟩ := e
    have hadd : (⟨b, off, none⟩ : Addr).add j = ⟨b, off + j, none⟩ := by unfold Addr.add; split <;> simp_all
    rw [hadd, hcc, ← hu]
    simp [List.getD, hj]
  have h1c : ∀ u ∈ ys.map (Value.int .i64), u.oneCell' = true := by simp [Value.oneCell']
  obtain ⟨v', w', hrun, r1, r2, r3⟩ := run_append_own (P := Tryd.prog) w base 24 o.type _ i0 _ 1 8 Tryd.underlying24 hi hz0 hz1 hz2 rfl (by decide) v k (xs.map (Value.int .i64)) hown ⟨b, off, none⟩ m c (ys.map (Value.int .i64)) (by simp [hy]) hnews h1c (by unfold maxLen; omega) (by omega) hb
  have r4 := append_block (P := Tryd.prog) w base 24 o.type _ i0 _ 1 8 Tryd.underlying24 hi hz0 hz1 hz2 v k (xs.map (Value.int .i64)) hown ⟨b, off, none⟩ m c (ys.map (Value.int .i64)) (by simp [hy]) hnews h1c (by unfold maxLen; omega) (by omega) hrun
  exact wpList_run v' hg (exec_append' s x _ v _ hop hs hx hrun) (hK v' w' (by rw [List.map_append]; exact r1) r2 r4 r3)

end Go.Proofs.YtaofpbmdloihgaaDoor

namespace Go.Proofs.YtaofpbmdloihgaaDoor
open Go.RowKit

/-- 'append' of numbers whose address is not written out. -/
theorem append_more (w : World) {ops : Array Oper} {rest : List Oper} {o : Oper} {a : Act} {Q : Exit → Act → World → Prop}
    (hg : o.guard = none) (s x : Operand) (hop : o.op = Op.call { callee := Callee.builtin Builtin.append, args := #[s, x], argTypes := #[24, 24] })
    (base : Nat) (v : Value) (k : Nat) (xs : List Int) (hs : a.eval s = v) (hown : w.ownsRow base 2 1 v k (xs.map (Value.int .i64))) (ad : Option Addr) (m c : Nat) (ys : List Int) (hx : a.eval x = .slice ad m c)
    (had : ∃ b off, ad = some ⟨b, off, none⟩) (hy : ys.length = m) (hc : IntsAt w ad ys) (b1 : k ≤ 1000) (b2 : m ≤ 1000) (hb : base ≤ w.heap.size)
    (hK : ∀ v' w', w'.ownsRow base 2 1 v' (k + m) ((xs ++ ys).map (Value.int .i64)) → w.grownBy w' v.ownBlock → (v'.ownBlock = v.ownBlock ∨ v'.ownBlock = some w.heap.size) → (v' = .slice none 0 0 ↔ v = .slice none 0 0 ∧ m = 0) → wpList Tryd.prog ops Q rest (a.put o.dst v') w') :
    wpList Tryd.prog ops Q (o :: rest) a w := by
  obtain ⟨b, off, rfl⟩ := had
  exact append_many w hg s x hop base v k xs hs hown b off m c ys hx hy hc b1 b2 hb hK
theorem ints_take' {W : World} {a : Option Addr} {ids : List Int} (h : IntsAt W a ids) (i : Nat) : IntsAt W a (ids.take i) := by
  intro j hj
  have hj' : j < ids.length ∧ j < i := by rw [List.length_take] at hj; omega
  obtain ⟨b, off, e, hc⟩ := h j hj'.1
  refine ⟨b, off, e, ?_⟩
  rw [hc, List.getD_eq_getElem?_getD, List.getD_eq_getElem?_getD, List.getElem?_take, if_pos hj'.2]
theorem ints_drop' {W : World} {b off : Nat} {ids : List Int} (h : IntsAt W (some ⟨b, off, none⟩) ids) (i : Nat) : IntsAt W (some ⟨b, off + i, none⟩) (ids.drop i) := by
  intro j hj
  have hj' : i + j < ids.length := by rw [List.length_drop] at hj; omega
  obtain ⟨b', off', e, hc⟩ := h (i + j) hj'
  simp at e
  obtain ⟨rfl, rfl⟩ := e
  refine ⟨b, off + i, rfl, ?_⟩
  rw [Nat.add_assoc, hc, List.getD_eq_getElem?_getD, List.getD_eq_getElem?_getD, List.getElem?_drop]
theorem ints_cut' {W : World} {b off : Nat} {ids : List Int} (h : IntsAt W (some ⟨b, off, none⟩) ids) (i c2 : Nat) (hc : ids.length ≤ c2) : IntsAt W (if c2 = i then some ⟨b, off, none⟩ else some ⟨b, off + i, none⟩) (ids.drop i) := by
  by_cases e : c2 = i
  · have : ids.drop i = [] := List.drop_eq_nil_of_le (by omega)
    rw [this]
    intro j hj
    simp at hj
  · rw [if_neg e]; exact ints_drop' h i
theorem cut_some' (b off i c2 : Nat) : ∃ b' off', (if c2 = i then some (⟨b, off, none⟩ : Addr) else some ⟨b, off + i, none⟩) = some ⟨b', off', none⟩ := by
  by_cases e : c2 = i
  · exact ⟨b, off, if_pos e⟩
  · exact ⟨b, off + i, if_neg e⟩
theorem cut0_some (g i c2 : Nat) : ∃ b' off', (if c2 = i then some (⟨g, 0, none⟩ : Addr) else some ⟨g, i, none⟩) = some ⟨b', off', none⟩ := by
  have := cut_some' g 0 i c2
  rwa [Nat.zero_add] at this
theorem ints_cut0 {W : World} {g : Nat} {ids : List Int} (h : IntsAt W (some ⟨g, 0, none⟩) ids) (i c2 : Nat) (hc : ids.length ≤ c2) : IntsAt W (if c2 = i then some ⟨g, 0, none⟩ else some ⟨g, i, none⟩) (ids.drop i) := by
  have := ints_cut' h i c2 hc
  rwa [Nat.zero_add] at this
theorem own_sm {w : World} {base k : Nat} {v : Value} {e : TypeId} {size : Nat} {xs : List Value} (h : w.ownsRow base e size v k xs) (hne : v ≠ .slice none 0 0) : ∃ g c, v = .slice (some ⟨g, 0, none⟩) k c := by
  rcases own_shape h with e | e
  · exact absurd e hne
  · exact e
theorem own_cap {w : World} {base k g c : Nat} {e : TypeId} {size : Nat} {xs : List Value} (h : w.ownsRow base e size (.slice (some ⟨g, 0, none⟩) k c) k xs) : k ≤ c := by
  obtain ⟨_, ⟨h1, _⟩ | ⟨g', cap, cur, h2, _, _, h3, _⟩⟩ := h
  · cases h1
  · injection h2 with e1 e2 e3
    omega
theorem not_nil {v v' : Value} {m : Nat} (h : v' = .slice none 0 0 ↔ v = .slice none 0 0 ∧ m = 0) (hv : ∃ g n c, v = .slice (some ⟨g, 0, none⟩) n c) : v' ≠ .slice none 0 0 := by
  intro e
  obtain ⟨g, n, c, rfl⟩ := hv
  have := (h.1 e).1
  simp at this
theorem ints_new1 (W : World) (x : Int) : IntsAt (W.alloc (.cells #[.int .i64 x] 2)) (some ⟨W.heap.size, 0, none⟩) [x] := by
  intro j hj
  have : j = 0 := by simpa using hj
  subst this
  exact ⟨_, _, rfl, cell_new1 W _ _ _ rfl⟩
theorem owns_ints' {w : World} {base g n cap : Nat} {e : TypeId} {zs : List Int} (h : w.ownsRow base e 1 (.slice (some ⟨g, 0, none⟩) n cap) zs.length (zs.map (Value.int .i64))) (hn : zs.length = n) : IntsAt w (some ⟨g, 0, none⟩) zs := by
  rw [hn] at h
  exact owns_ints h
theorem own_at {g n c k : Nat} (e : (Value.slice (some ⟨g, 0, none⟩) n c).ownBlock = some k) : g ≤ k := by
  have : g = k := by injection e
  omega

end Go.Proofs.YtaofpbmdloihgaaDoor

namespace Go.Proofs.YtaofpbmdloihgaaDoor
open Go.RowKit

theorem own_put {w : World} {base n g c k : Nat} {e : TypeId} {xs : List Int} (v : Int) (h : w.ownsRow base e 1 (.slice (some ⟨g, 0, none⟩) n c) n (xs.map (Value.int .i64))) (_hk : k < n) : (w.setCell ⟨g, k, none⟩ (.int .i64 v)).ownsRow base e 1 (.slice (some ⟨g, 0, none⟩) n c) n ((xs.set k v).map (Value.int .i64)) := by
  obtain ⟨h0, ⟨h1, _⟩ | ⟨g', cap, cur, h2, h3, h4, h5, h6, h7, h8⟩⟩ := h
  · cases h1
  · simp at h2
    obtain ⟨rfl, rfl⟩ := h2
    refine ⟨by simpa using h0, .inr ⟨g, c, cur.setIfInBounds k (.int .i64 v), rfl, h3, heap_setCell_same w g k cur e _ h4, h5, h6, by simpa using h7, ?_⟩⟩
    rw [Array.toList_setIfInBounds, List.take_set, h8, List.map_set]
/-- A cell of what is owned may be read and written. -/
theorem own_cell {w : World} {base n g c k : Nat} {e : TypeId} {xs : List Int} (h : w.ownsRow base e 1 (.slice (some ⟨g, 0, none⟩) n c) n (xs.map (Value.int .i64))) (hk : k < xs.length) : w.cell? ⟨g, k, none⟩ = some (.int .i64 (xs.getD k 0)) ∧ w.frozen? ⟨g, k, none⟩ = false := by
  refine ⟨?_, ?_⟩
  · obtain ⟨_, _, e1, h1⟩ := owns_ints h k hk
    simp at e1
    obtain ⟨rfl, rfl⟩ := e1
    rw [Nat.zero_add] at h1
    exact h1
  · obtain ⟨h0, ⟨h1, _⟩ | ⟨g', cap, cur, h2, h3, h4, h5⟩⟩ := h
    · cases h1
    · simp at h2
      obtain ⟨rfl, rfl⟩ := h2
      exact frozen_of_row _ _ k _ _ h4

end Go.Proofs.YtaofpbmdloihgaaDoor

namespace Go.Proofs.YtaofpbmdloihgaaDoor
open Go.RowKit

/-- A reader that was there stays where a block of the call's own changes. -/
theorem RD.kept2 {w W W' : World} {q c p p0 : Nat} {a : Option Addr} {bs : List Int} {row : Option Nat} (h0 : RD w q a bs c p0) (h : RD W q a bs c p) (hg : W.grownBy W' row) (hr : ∀ g, row = some g → w.heap.size ≤ g) : RD W' q a bs c p := by
  have hq : q < w.heap.size := row_lt h0.1
  refine ⟨grown_row hg h.1 (fun e => by have := hr q e.symm; omega), h.2.1, fun j hj => ?_, h.2.2.2⟩
  obtain ⟨b, off, e, hne, hc, hv⟩ := h.2.2.1 j hj
  obtain ⟨b', off', e', _, hc', _⟩ := h0.2.2.1 j hj
  have hb : b < w.heap.size := by
    have := block_lt_of_cell hc'
    rw [e] at e'
    simp at e'
    obtain ⟨rfl, rfl⟩ := e'
    exact this
  exact ⟨b, off, e, hne, hg.cell hc (fun e2 => by have := hr b e2.symm; omega), hv⟩
theorem grown_own {w W W' : World} {q : Nat} {row : Option Nat} (h : w.grownBy W (some q)) (hg : W.grownBy W' row) (hr : ∀ g, row = some g → w.heap.size ≤ g) : w.grownBy W' (some q) :=
  ⟨hg.os.trans h.os, hg.tape.trans h.tape, hg.output.trans h.output, Nat.le_trans h.size hg.size, fun k hk hne => (hg.block k (Nat.lt_of_lt_of_le hk h.size) (fun e => by have := hr k e.symm; omega)).trans (h.block k hk hne)⟩

theorem grown_alloc0 (W : World) (o : Obj) : W.grownBy (W.alloc o) none := ⟨rfl, rfl, rfl, by simp, fun k hk _ => heap_alloc_old _ _ hk⟩

/-- With a reader that was there: a list of the call's own that grows. -/
structure CL (w W : World) (q : Nat) (a : Option Addr) (bs : List Int) (c : Nat) (ov : Value) (O : List Int) : Prop where
  g : w.grownBy W (some q)
  r0 : ∃ p, RD w q a bs c p
  r : ∃ p, RD W q a bs c p
  o : W.ownsRow w.heap.size 2 1 ov O.length (O.map (Value.int .i64))
  so : ∃ g cg, ov = .slice (some ⟨g, 0, none⟩) O.length cg
theorem CL.lt {w W : World} {q : Nat} {a : Option Addr} {bs : List Int} {c : Nat} {ov : Value} {O : List Int} (h : CL w W q a bs c ov O) : q < w.heap.size := by
  obtain ⟨p, hr⟩ := h.r0
  exact row_lt hr.1
theorem CL.new {w : World} {q : Nat} {a : Option Addr} {bs : List Int} {c p : Nat} (h : RD w q a bs c p) : CL w (w.alloc (.cells #[] 2)) q a bs c (.slice (some ⟨w.heap.size, 0, none⟩) 0 0) [] :=
  ⟨grown_alloc w _ q, ⟨p, h⟩, ⟨p, h.below ((Below.refl _ _).alloc (Nat.le_refl _) _)⟩, World.ownsRow_made w #[] 0 (Nat.le_refl _) (by unfold maxLen; omega) (by simp), ⟨_, _, rfl⟩⟩
theorem CL.read {w W W' : World} {q : Nat} {a : Option Addr} {bs : List Int} {c p : Nat} {ov : Value} {O : List Int} (h : CL w W q a bs c ov O) (hr : RD W' q a bs c p) (hg : W.grownBy W' (some q)) : CL w W' q a bs c ov O :=
  ⟨grown_trans h.g hg, h.r0, ⟨p, hr⟩, h.o.kept hg (.inr fun e => by have := (h.o.lt q e).1; have := h.lt; omega), h.so⟩
theorem CL.put {w W w4 : World} {q : Nat} {a : Option Addr} {bs : List Int} {c : Nat} {ov ov' : Value} {O : List Int} {x : Int} {o : Obj} (h : CL w W q a bs c ov O) (hown : w4.ownsRow w.heap.size 2 1 ov' (O.length + 1) ((O ++ [x]).map (Value.int .i64))) (hg : (W.alloc o).grownBy w4 ov.ownBlock) (hn : ov' = .slice none 0 0 ↔ ov = .slice none 0 0 ∧ 1 = 0) : CL w w4 q a bs c ov' (O ++ [x]) := by
  obtain ⟨p, hr⟩ := h.r
  obtain ⟨p0, hr0⟩ := h.r0
  have hlt : ∀ g, ov.ownBlock = some g → w.heap.size ≤ g := fun g e => (h.o.lt g e).1
  refine ⟨grown_own (grown_own h.g (grown_alloc0 W o) (fun g e => by cases e)) hg hlt, h.r0, ⟨p, ?_⟩, ?_, ?_⟩
  · exact RD.kept2 hr0 (hr.below ((Below.refl _ _).alloc (Nat.le_refl _) _)) hg hlt
  · rw [List.length_append]; exact hown
  · rw [List.length_append]
    obtain ⟨g, cg, e⟩ := h.so
    exact own_sm hown (not_nil hn ⟨g, _, cg, e⟩)
theorem CL.set {w W : World} {q g n cg : Nat} {a : Option Addr} {bs : List Int} {c : Nat} {O : List Int} (h : CL w W q a bs c (.slice (some ⟨g, 0, none⟩) n cg) O) (hn : O.length = n) {j : Nat} (hj : j < n) (v : Int) : CL w (W.setCell ⟨g, j, none⟩ (.int .i64 v)) q a bs c (.slice (some ⟨g, 0, none⟩) n cg) (O.set j v) := by
  obtain ⟨p, hr⟩ := h.r
  obtain ⟨p0, hr0⟩ := h.r0
  have hlt : ∀ k, some g = some k → w.heap.size ≤ k := fun k e => by injection e with e; subst e; exact (h.o.lt g rfl).1
  refine ⟨grown_own h.g (grown_set W g j _) hlt, h.r0, ⟨p, RD.kept2 hr0 hr (grown_set W g j _) hlt⟩, ?_, ⟨g, cg, by rw [List.length_set, hn]⟩⟩
  have ho := h.o
  rw [hn] at ho
  rw [List.length_set, hn]
  exact own_put v ho hj

end Go.Proofs.YtaofpbmdloihgaaDoor

namespace Go.Proofs.YtaofpbmdloihgaaDoor
open Go.RowKit

/-- A cell of a new row of four numbers. -/
theorem new4_cell (W : World) (x0 x1 x2 x3 : Int) (T : TypeId) (y : Nat) (hy : y < 4) : (W.alloc (Obj.cells #[Value.int IntKind.i64 x0, Value.int IntKind.i64 x1, Value.int IntKind.i64 x2, Value.int IntKind.i64 x3] T)).cell? ⟨W.heap.size, y, none⟩ = some (.int .i64 ([x0, x1, x2, x3].getD y 0)) := by
  have h := heap_alloc_new W (Obj.cells #[Value.int IntKind.i64 x0, Value.int IntKind.i64 x1, Value.int IntKind.i64 x2, Value.int IntKind.i64 x3] T)
  rw [cell_of_row _ _ y _ _ _ h]
  rcases (show y = 0 ∨ y = 1 ∨ y = 2 ∨ y = 3 from by omega) with rfl | rfl | rfl | rfl <;> rfl
theorem new3_cell (W : World) (x0 x1 x2 : Int) (T : TypeId) (y : Nat) (hy : y < 3) : (W.alloc (Obj.cells #[Value.int IntKind.i64 x0, Value.int IntKind.i64 x1, Value.int IntKind.i64 x2] T)).cell? ⟨W.heap.size, y, none⟩ = some (.int .i64 ([x0, x1, x2].getD y 0)) := by
  have h := heap_alloc_new W (Obj.cells #[Value.int IntKind.i64 x0, Value.int IntKind.i64 x1, Value.int IntKind.i64 x2] T)
  rw [cell_of_row _ _ y _ _ _ h]
  rcases (show y = 0 ∨ y = 1 ∨ y = 2 from by omega) with rfl | rfl | rfl <;> rfl
/-- What the draw of two times answers: some two numbers. -/
def WhenOk (w : World) (q : Nat) (a : Option Addr) (bs : List Int) (c : Nat) (e : Ending) (w' : World) : Prop := ∃ (x y : Int) (p' : Nat), e = .returned (.tuple #[.int .i64 x, .int .i64 y]) ∧ RD w' q a bs c p' ∧ w.grownBy w' (some q)

set_option maxRecDepth 10000 in
set_option maxHeartbeats 1000000 in
theorem when_any (q p c : Nat) (a : Option Addr) (bs : List Int) (w : World) (h : RD w q a bs c p) :
    Calls Tryd.prog 29 #[.pointer (some ⟨q, 0, none⟩)] w (WhenOk w q a bs c) := by
  have H : Hid (RD w q a bs c p) := h
  clear h
  go_enter Tryd.func29, Tryd.ntmps29
  go_wp2_with fail
  refine (below_any q p c 40 a bs w H.out (by omega)).mono ?_
  rintro e w1 ⟨x, p1, rfl, hx0, hx1, hr, hg⟩
  have R1 : Hid (RD w1 q a bs c p1) := hr
  have G1 : Hid (w.grownBy w1 (some q)) := hg
  clear hr hg
  go_wp2_with fail
  refine (once_any q p1 c 2 a bs w1 R1.out (by omega) (by omega)).mono ?_
  rintro e w2 ⟨v, p2, rfl, hr, hg⟩
  have R2 : Hid (RD w2 q a bs c p2) := hr
  have G2 : Hid (w.grownBy w2 (some q)) := grown_trans G1.out hg
  clear hr hg R1 G1
  have HQ : Hid (q < w2.heap.size) := row_lt R2.out.1
  cases v
  all_goals
    go_wp2_with fail
    go_region_with (first
      | (go_at_call 27
         with_reducible refine (below_any q p2 c 4 a bs w2.drew (R2.out.below (Below.refl _ _).drew) (by omega)).mono ?_
         rintro e w3 ⟨y, p3, rfl, hy0, hy1, hr, hg⟩
         obtain ⟨y, rfl⟩ := Int.eq_ofNat_of_zero_le hy0
         have hy4 : y < 4 := by omega
         have R3 : Hid (RD w3 q a bs c p3) := hr
         have G3 : Hid (w.grownBy w3 (some q)) := grown_trans (grown_drew G2.out) hg
         have n3 := new4_cell w3 200 60 30 500 2 y hy4
         obtain ⟨z, HZ⟩ : ∃ z, Hid ([(200 : Int), 60, 30, 500].getD y 0 = z) := ⟨_, rfl⟩
         rw [HZ.out] at n3
         clear hr hg hy0 hy1)
      | (go_at_call 27
         with_reducible refine (below_any q p2 c 4 a bs (w2.alloc (Obj.cells #[Value.int IntKind.i64 200, Value.int IntKind.i64 60, Value.int IntKind.i64 30, Value.int IntKind.i64 500] 2)).drew (R2.out.below ((Below.refl _ _).alloc (Nat.le_refl _) _).drew) (by omega)).mono ?_
         rintro e w3 ⟨y, p3, rfl, hy0, hy1, hr, hg⟩
         obtain ⟨y, rfl⟩ := Int.eq_ofNat_of_zero_le hy0
         have hy4 : y < 4 := by omega
         have R3 : Hid (RD w3 q a bs c p3) := hr
         have G3 : Hid (w.grownBy w3 (some q)) := grown_trans (grown_drew (grown_trans G2.out (grown_alloc w2 _ q))) hg
         have n3 := hg.cell (new4_cell w2.drew 200 60 30 500 2 y hy4) (fun e => by have := HQ.out; simp at e; omega)
         obtain ⟨z, HZ⟩ : ∃ z, Hid ([(200 : Int), 60, 30, 500].getD y 0 = z) := ⟨_, rfl⟩
         rw [HZ.out] at n3
         simp at n3
         clear hr hg hy0 hy1))
    all_goals
      go_wp2
      refine bodyPost_ret (results_tmp2 rfl _ _ _) rfl ?_
      first
        | exact ⟨_, _, p3, rfl, R3.out, G3.out⟩
        | exact ⟨_, _, p3, rfl, R3.out.below ((Below.refl _ _).alloc (Nat.le_refl _) _), grown_trans G3.out (grown_alloc w3 _ q)⟩

end Go.Proofs.YtaofpbmdloihgaaDoor

namespace Go.Proofs.YtaofpbmdloihgaaDoor
open Go.RowKit

theorem info_ord6 : (Tryd.prog.info? 45).map (fun i => (i.zero, i.size, i.bytes)) = some (some (.agg #[Value.int IntKind.i64 0, Value.int IntKind.i64 0, Value.int IntKind.i64 0, Value.int IntKind.i64 0, Value.int IntKind.i64 0, Value.int IntKind.i64 0]), 6, 48) := by kernel_rfl
theorem info_veh5 : (Tryd.prog.info? 47).map (fun i => (i.zero, i.size, i.bytes)) = some (some (.agg #[Value.int IntKind.i64 0, Value.int IntKind.i64 0, Value.int IntKind.i64 0, Value.int IntKind.i64 0, Value.int IntKind.i64 0]), 5, 40) := by kernel_rfl
/-- 'append' of one record of numbers to a slice of the call's own. -/
theorem append_rec (t e : TypeId) (z : Value) (size bytes : Nat) (hinfo : (Tryd.prog.info? e).map (fun i => (i.zero, i.size, i.bytes)) = some (some z, size, bytes)) (hund : Tryd.prog.underlying t = some (.slice e)) (hzc : z.cells.size = size) (hs0 : 0 < size) (hby : bytes ≤ 100)
    (w : World) {ops : Array Oper} {rest : List Oper} {o : Oper} {a : Act} {Q : Exit → Act → World → Prop}
    (hg : o.guard = none) (s x : Operand) (hop : o.op = Op.call { callee := Callee.builtin Builtin.append, args := #[s, x], argTypes := #[t, t] })
    (base : Nat) (v : Value) (k : Nat) (xs : List Int) (hs : a.eval s = v) (hown : w.ownsRow base e size v k (xs.map (Value.int .i64))) (b c : Nat) (ys : List Int) (hx : a.eval x = .slice (some ⟨b, 0, none⟩) 1 c)
    (hy : ys.length = size) (hc : IntsAt w (some ⟨b, 0, none⟩) ys) (b1 : k ≤ 1000) (hb : base ≤ w.heap.size)
    (hK : ∀ v' w', w'.ownsRow base e size v' (k + 1) ((xs ++ ys).map (Value.int .i64)) → w.grownBy w' v.ownBlock → (v'.ownBlock = v.ownBlock ∨ v'.ownBlock = some w.heap.size) → v' ≠ .slice none 0 0 → wpList Tryd.prog ops Q rest (a.put o.dst v') w') :
    wpList Tryd.prog ops Q (o :: rest) a w := by
  obtain ⟨i0, hi, hz0, hz1, hz2⟩ := info_parts hinfo
  have hnews : ∀ j u, (ys.map (Value.int .i64))[j]? = some u → w.cell? ((⟨b, 0, none⟩ : Addr).add j) = some u := by
    intro j u hu
    have hj : j < ys.length := by
      rcases Nat.lt_or_ge j ys.length with h' | h'
      · exact h'
      · simp [List.getElem?_eq_none (by simpa using h' : (ys.map (Value.int .i64)).length ≤ j)] at hu
    obtain ⟨b', off', e, hcc⟩ := hc j hj
    simp at e
    obtain ⟨rfl, rfl⟩ := e
    have hadd : (⟨b, 0, none⟩ : Addr).add j = ⟨b, 0 + j, none⟩ := by unfold Addr.add; split <;> simp_all
    rw [hadd, hcc, ← hu]
    simp [List.getD, hj]
  have h1c : ∀ u ∈ ys.map (Value.int .i64), u.oneCell' = true := by simp [Value.oneCell']
  have hbb : (k + 1) * bytes ≤ 140737488355328 := by
    have : (k + 1) * bytes ≤ 1001 * 100 := Nat.mul_le_mul (by omega) hby
    omega
  obtain ⟨v', w', hrun, r1, r2, r3⟩ := run_append_own (P := Tryd.prog) w base t o.type _ i0 _ size bytes hund hi hz0 hz1 hz2 hzc hs0 v k (xs.map (Value.int .i64)) hown ⟨b, 0, none⟩ 1 c (ys.map (Value.int .i64)) (by simp [hy]) hnews h1c (by unfold maxLen; omega) hbb hb
  have r4 := append_block (P := Tryd.prog) w base t o.type _ i0 _ size bytes hund hi hz0 hz1 hz2 v k (xs.map (Value.int .i64)) hown ⟨b, 0, none⟩ 1 c (ys.map (Value.int .i64)) (by simp [hy]) hnews h1c (by unfold maxLen; omega) hbb hrun
  refine wpList_run v' hg (exec_append' s x _ v _ hop hs hx hrun) (hK v' w' (by rw [List.map_append]; exact r1) r2 r4 ?_)
  intro e
  exact absurd (r3.1 e).2 (by omega)

/-- A row of records: a cell is written. -/
theorem own_putR {w : World} {base n g c k size : Nat} {e : TypeId} {xs : List Int} (v : Int) (h : w.ownsRow base e size (.slice (some ⟨g, 0, none⟩) n c) n (xs.map (Value.int .i64))) : (w.setCell ⟨g, k, none⟩ (.int .i64 v)).ownsRow base e size (.slice (some ⟨g, 0, none⟩) n c) n ((xs.set k v).map (Value.int .i64)) := by
  obtain ⟨h0, ⟨h1, _⟩ | ⟨g', cap, cur, h2, h3, h4, h5, h6, h7, h8⟩⟩ := h
  · cases h1
  · simp at h2
    obtain ⟨rfl, rfl⟩ := h2
    refine ⟨by simpa using h0, .inr ⟨g, c, cur.setIfInBounds k (.int .i64 v), rfl, h3, heap_setCell_same w g k cur e _ h4, h5, h6, by simpa using h7, ?_⟩⟩
    rw [Array.toList_setIfInBounds, List.take_set, h8, List.map_set]
theorem own_cellR {w : World} {base n g c k size : Nat} {e : TypeId} {xs : List Int} (h : w.ownsRow base e size (.slice (some ⟨g, 0, none⟩) n c) n (xs.map (Value.int .i64))) (hk : k < xs.length) : w.cell? ⟨g, k, none⟩ = some (.int .i64 (xs.getD k 0)) ∧ w.frozen? ⟨g, k, none⟩ = false := by
  refine ⟨?_, ?_⟩
  · obtain ⟨_, _, e1, h1⟩ := owns_ints h k hk
    simp at e1
    obtain ⟨rfl, rfl⟩ := e1
    rw [Nat.zero_add] at h1
    exact h1
  · obtain ⟨h0, ⟨h1, _⟩ | ⟨g', cap, cur, h2, h3, h4, h5⟩⟩ := h
    · cases h1
    · simp at h2
      obtain ⟨rfl, rfl⟩ := h2
      exact frozen_of_row _ _ k _ _ h4

/-- Inside the draw of a case: the reader, the result's cells, the case in its box, its times, orders and vehicles. -/
structure CD (w W : World) (q : Nat) (a : Option Addr) (bs : List Int) (c k : Nat) (n : Int) (g zl cg : Nat) (zs : List Int) (oo : Value) (ko : Nat) (O : List Int) (ov : Value) (kv : Nat) (V : List Int) (fi : Int) : Prop where
  gr : w.grownBy W (some q)
  r0 : ∃ p, RD w q a bs c p
  r : ∃ p, RD W q a bs c p
  b0 : W.heap[w.heap.size]? = some (.cells #[.int .i64 0, .slice none 0 0, .slice none 0 0, .slice none 0 0, .int .i64 0] 30 (0, 0))
  b1 : W.heap[k]? = some (.cells #[.int .i64 n, .slice (some ⟨g, 0, none⟩) zl cg, oo, ov, .int .i64 fi] 30 (0, 0))
  h : w.heap.size < k ∧ w.heap.size < g ∧ k ≠ g ∧ 0 < zs.length
  i : IntsAt W (some ⟨g, 0, none⟩) zs
  o : W.ownsRow (w.heap.size + 1) 45 6 oo ko (O.map (Value.int .i64))
  v : W.ownsRow (w.heap.size + 1) 47 5 ov kv (V.map (Value.int .i64))
  d1 : ∀ b, oo.ownBlock = some b → b ≠ k ∧ b ≠ g
  d2 : ∀ b, ov.ownBlock = some b → b ≠ k ∧ b ≠ g
  d3 : ∀ b, oo.ownBlock = some b → ov.ownBlock ≠ some b
section
variable {w W W' w4 : World} {q : Nat} {a : Option Addr} {bs : List Int} {c k : Nat} {n : Int} {g zl cg : Nat} {zs : List Int} {oo oo' : Value} {ko : Nat} {O : List Int} {ov ov' : Value} {kv : Nat} {V : List Int} {fi : Int}
theorem CD.lt (h : CD w W q a bs c k n g zl cg zs oo ko O ov kv V fi) : q < w.heap.size := by
  obtain ⟨p, hr⟩ := h.r0
  exact row_lt hr.1
theorem CD.size (h : CD w W q a bs c k n g zl cg zs oo ko O ov kv V fi) : w.heap.size + 1 ≤ W.heap.size := row_lt h.b0
theorem ints_row {X X' : World} {g : Nat} {xs : List Int} {row : Option Nat} (h : IntsAt X (some ⟨g, 0, none⟩) xs) (hg : X.grownBy X' row) (hne : some g ≠ row) : IntsAt X' (some ⟨g, 0, none⟩) xs := by
  intro j hj
  obtain ⟨b, off, e, hc⟩ := h j hj
  simp at e
  obtain ⟨rfl, rfl⟩ := e
  exact ⟨g, 0, rfl, hg.cell hc hne⟩
theorem CD.read {p : Nat} (h : CD w W q a bs c k n g zl cg zs oo ko O ov kv V fi) (hr : RD W' q a bs c p) (hg : W.grownBy W' (some q)) : CD w W' q a bs c k n g zl cg zs oo ko O ov kv V fi := by
  have hl := h.lt
  obtain ⟨h1, h2, h3, h4⟩ := h.h
  exact ⟨grown_trans h.gr hg, h.r0, ⟨p, hr⟩, grown_row hg h.b0 (fun e => by injection e with e; omega), grown_row hg h.b1 (fun e => by injection e with e; omega), h.h, ints_row h.i hg (fun e => by injection e with e; omega), h.o.kept hg (.inr fun e => by have := (h.o.lt q e).1; omega), h.v.kept hg (.inr fun e => by have := (h.v.lt q e).1; omega), h.d1, h.d2, h.d3⟩
theorem grown_more {w W W' : World} {q : Nat} (h : w.grownBy W (some q)) (hb : Below W.heap.size W W') : w.grownBy W' (some q) :=
  ⟨hb.os.trans h.os, hb.tape.trans h.tape, hb.output.trans h.output, Nat.le_trans h.size hb.size, fun k hk hne => (hb.block k (Nat.lt_of_lt_of_le hk h.size)).trans (h.block k hk hne)⟩
theorem CD.below (h : CD w W q a bs c k n g zl cg zs oo ko O ov kv V fi) (hb : Below W.heap.size W W') : CD w W' q a bs c k n g zl cg zs oo ko O ov kv V fi := by
  obtain ⟨p, hr⟩ := h.r
  exact ⟨grown_more h.gr hb, h.r0, ⟨p, hr.below hb⟩, below_row hb (row_lt h.b0) h.b0, below_row hb (row_lt h.b1) h.b1, h.h, h.i.below hb, owns_below h.o hb, owns_below h.v hb, h.d1, h.d2, h.d3⟩
theorem CD.cells (h : CD w W q a bs c k n g zl cg zs oo ko O ov kv V fi) : (W.cell? ⟨k, 0, none⟩ = some (.int .i64 n) ∧ W.cell? ⟨k, 1, none⟩ = some (.slice (some ⟨g, 0, none⟩) zl cg) ∧ W.cell? ⟨k, 2, none⟩ = some oo ∧ W.cell? ⟨k, 3, none⟩ = some ov ∧ W.cell? ⟨k, 4, none⟩ = some (.int .i64 fi)) ∧ ∀ i, W.frozen? ⟨k, i, none⟩ = false := by
  have h0 := cell_of_row _ _ 0 _ _ _ h.b1
  have h1 := cell_of_row _ _ 1 _ _ _ h.b1
  have h2 := cell_of_row _ _ 2 _ _ _ h.b1
  have h3 := cell_of_row _ _ 3 _ _ _ h.b1
  have h4 := cell_of_row _ _ 4 _ _ _ h.b1
  simp at h0 h1 h2 h3 h4
  exact ⟨⟨h0, h1, h2, h3, h4⟩, fun i => frozen_of_row _ _ i _ _ h.b1⟩
theorem kept_side {v : Value} {row : Option Nat} (h : ∀ b, row = some b → v.ownBlock ≠ some b) : v.ownBlock = none ∨ v.ownBlock ≠ row := by
  cases hv : v.ownBlock with
  | none => exact .inl rfl
  | some x => exact .inr fun e => h x e.symm hv
/-- A change of a block of the call's own, which is none of these. -/
theorem CD.aside {row : Option Nat} (h : CD w W q a bs c k n g zl cg zs oo ko O ov kv V fi) (hg : W.grownBy W' row) (hr : ∀ b, row = some b → w.heap.size + 1 ≤ b ∧ b ≠ k ∧ b ≠ g ∧ oo.ownBlock ≠ some b ∧ ov.ownBlock ≠ some b) : CD w W' q a bs c k n g zl cg zs oo ko O ov kv V fi := by
  obtain ⟨p, hrd⟩ := h.r
  obtain ⟨p0, hr0⟩ := h.r0
  have hrw : ∀ b, row = some b → w.heap.size ≤ b := fun b e => by have := (hr b e).1; omega
  exact ⟨grown_own h.gr hg hrw, h.r0, ⟨p, RD.kept2 hr0 hrd hg hrw⟩, grown_row hg h.b0 (fun e => by have := (hr _ e.symm).1; omega), grown_row hg h.b1 (fun e => (hr _ e.symm).2.1 rfl), h.h, ints_row h.i hg (fun e => (hr _ e.symm).2.2.1 rfl), h.o.kept hg (kept_side fun b e => (hr b e).2.2.2.1), h.v.kept hg (kept_side fun b e => (hr b e).2.2.2.2), h.d1, h.d2, h.d3⟩
theorem row_put {X : World} {k i : Nat} {cs : Array Value} {T : TypeId} (v : Value) (h : X.heap[k]? = some (.cells cs T (0, 0))) : (X.setCell ⟨k, i, none⟩ v).heap[k]? = some (.cells (cs.setIfInBounds i v) T (0, 0)) := heap_setCell_same X k i cs T v h
theorem CD.glt (h : CD w W q a bs c k n g zl cg zs oo ko O ov kv V fi) : g < W.heap.size := by
  obtain ⟨b, off, e, hc⟩ := h.i 0 h.h.2.2.2
  simp at e
  obtain ⟨rfl, rfl⟩ := e
  exact block_lt_of_cell hc
/-- An order is put behind the others. -/
theorem CD.putO {ob : Obj} {xs : List Int} (h : CD w W q a bs c k n g zl cg zs oo ko O ov kv V fi) (ho : w4.ownsRow (w.heap.size + 1) 45 6 oo' (ko + 1) ((O ++ xs).map (Value.int .i64))) (hg : (W.alloc ob).grownBy w4 oo.ownBlock) (hn : oo'.ownBlock = oo.ownBlock ∨ oo'.ownBlock = some (W.alloc ob).heap.size) : CD w (w4.setCell ⟨k, 2, none⟩ oo') q a bs c k n g zl cg zs oo' (ko + 1) (O ++ xs) ov kv V fi := by
  obtain ⟨h1, h2, h3, h4⟩ := h.h
  have hk := row_lt h.b1
  have hA : CD w (W.alloc ob) q a bs c k n g zl cg zs oo ko O ov kv V fi := h.below ((Below.refl _ _).alloc (Nat.le_refl _) _)
  obtain ⟨p, hrd⟩ := hA.r
  obtain ⟨p0, hr0⟩ := h.r0
  have hrw : ∀ b, oo.ownBlock = some b → w.heap.size ≤ b := fun b e => by have := (h.o.lt b e).1; omega
  have hsw : ∀ b, some k = some b → w.heap.size ≤ b := fun b e => by injection e with e; omega
  have hs := grown_set w4 k 2 oo'
  have hgi := h.glt
  have hrd4 : RD w4 q a bs c p := RD.kept2 hr0 hrd hg hrw
  have hov : w4.ownsRow (w.heap.size + 1) 47 5 ov kv (V.map (Value.int .i64)) := hA.v.kept hg (kept_side fun b e => h.d3 b e)
  have hsz : (W.alloc ob).heap.size = W.heap.size + 1 := by simp
  refine ⟨grown_own (grown_own hA.gr hg hrw) hs hsw, h.r0, ⟨p, RD.kept2 hr0 hrd4 hs hsw⟩, ?_, ?_, h.h, ?_, ?_, ?_, ?_, h.d2, ?_⟩
  · exact grown_row hs (grown_row hg hA.b0 (fun e => by have := (h.o.lt _ e.symm).1; omega)) (fun e => by injection e with e; omega)
  · have := row_put (i := 2) oo' (grown_row hg hA.b1 (fun e => (h.d1 _ e.symm).1 rfl))
    simpa using this
  · exact ints_row (ints_row hA.i hg (fun e => (h.d1 _ e.symm).2 rfl)) hs (fun e => by injection e with e; omega)
  · refine ho.kept hs (kept_side fun b e => ?_)
    injection e with e
    subst e
    intro e2
    rcases hn with hn | hn
    · rw [hn] at e2; exact (h.d1 _ e2).1 rfl
    · rw [hn, hsz] at e2; injection e2 with e2; omega
  · refine hov.kept hs (kept_side fun b e => ?_)
    injection e with e
    subst e
    intro e2
    exact (h.d2 _ e2).1 rfl
  · intro b e2
    rcases hn with hn | hn
    · rw [hn] at e2; exact h.d1 _ e2
    · rw [hn, hsz] at e2
      injection e2 with e2
      refine ⟨by omega, ?_⟩
      omega
  · intro b e2 e3
    rcases hn with hn | hn
    · rw [hn] at e2; exact h.d3 _ e2 e3
    · rw [hn, hsz] at e2
      injection e2 with e2
      have := (h.v.lt _ e3).2
      omega
/-- A vehicle is put behind the others. -/
theorem CD.putV {ob : Obj} {xs : List Int} (h : CD w W q a bs c k n g zl cg zs oo ko O ov kv V fi) (ho : w4.ownsRow (w.heap.size + 1) 47 5 ov' (kv + 1) ((V ++ xs).map (Value.int .i64))) (hg : (W.alloc ob).grownBy w4 ov.ownBlock) (hn : ov'.ownBlock = ov.ownBlock ∨ ov'.ownBlock = some (W.alloc ob).heap.size) : CD w (w4.setCell ⟨k, 3, none⟩ ov') q a bs c k n g zl cg zs oo ko O ov' (kv + 1) (V ++ xs) fi := by
  obtain ⟨h1, h2, h3, h4⟩ := h.h
  have hk := row_lt h.b1
  have hA : CD w (W.alloc ob) q a bs c k n g zl cg zs oo ko O ov kv V fi := h.below ((Below.refl _ _).alloc (Nat.le_refl _) _)
  obtain ⟨p, hrd⟩ := hA.r
  obtain ⟨p0, hr0⟩ := h.r0
  have hrw : ∀ b, ov.ownBlock = some b → w.heap.size ≤ b := fun b e => by have := (h.v.lt b e).1; omega
  have hsw : ∀ b, some k = some b → w.heap.size ≤ b := fun b e => by injection e with e; omega
  have hs := grown_set w4 k 3 ov'
  have hgi := h.glt
  have hrd4 : RD w4 q a bs c p := RD.kept2 hr0 hrd hg hrw
  have hov : w4.ownsRow (w.heap.size + 1) 45 6 oo ko (O.map (Value.int .i64)) := hA.o.kept hg (kept_side fun b e e2 => h.d3 b e2 e)
  have hsz : (W.alloc ob).heap.size = W.heap.size + 1 := by simp
  refine ⟨grown_own (grown_own hA.gr hg hrw) hs hsw, h.r0, ⟨p, RD.kept2 hr0 hrd4 hs hsw⟩, ?_, ?_, h.h, ?_, ?_, ?_, h.d1, ?_, ?_⟩
  · exact grown_row hs (grown_row hg hA.b0 (fun e => by have := (h.v.lt _ e.symm).1; omega)) (fun e => by injection e with e; omega)
  · have := row_put (i := 3) ov' (grown_row hg hA.b1 (fun e => (h.d2 _ e.symm).1 rfl))
    simpa using this
  · exact ints_row (ints_row hA.i hg (fun e => (h.d2 _ e.symm).2 rfl)) hs (fun e => by injection e with e; omega)
  · refine hov.kept hs (kept_side fun b e => ?_)
    injection e with e
    subst e
    intro e2
    exact (h.d1 _ e2).1 rfl
  · refine ho.kept hs (kept_side fun b e => ?_)
    injection e with e
    subst e
    intro e2
    rcases hn with hn | hn
    · rw [hn] at e2; exact (h.d2 _ e2).1 rfl
    · rw [hn, hsz] at e2; injection e2 with e2; omega
  · intro b e2
    rcases hn with hn | hn
    · rw [hn] at e2; exact h.d2 _ e2
    · rw [hn, hsz] at e2
      injection e2 with e2
      refine ⟨by omega, ?_⟩
      omega
  · intro b e3 e2
    rcases hn with hn | hn
    · rw [hn] at e2; exact h.d3 _ e3 e2
    · rw [hn, hsz] at e2
      injection e2 with e2
      have := (h.o.lt _ e3).2
      omega
/-- The fine is written. -/
theorem CD.setF (x : Int) (h : CD w W q a bs c k n g zl cg zs oo ko O ov kv V fi) : CD w (W.setCell ⟨k, 4, none⟩ (.int .i64 x)) q a bs c k n g zl cg zs oo ko O ov kv V x := by
  obtain ⟨h1, h2, h3, h4⟩ := h.h
  obtain ⟨p, hrd⟩ := h.r
  obtain ⟨p0, hr0⟩ := h.r0
  have hs := grown_set W k 4 (.int .i64 x)
  have hsw : ∀ b, some k = some b → w.heap.size ≤ b := fun b e => by injection e with e; omega
  refine ⟨grown_own h.gr hs hsw, h.r0, ⟨p, RD.kept2 hr0 hrd hs hsw⟩, grown_row hs h.b0 (fun e => by injection e with e; omega), ?_, h.h, ints_row h.i hs (fun e => by injection e with e; omega), h.o.kept hs (kept_side fun b e e2 => by injection e with e; subst e; exact (h.d1 _ e2).1 rfl), h.v.kept hs (kept_side fun b e e2 => by injection e with e; subst e; exact (h.d2 _ e2).1 rfl), h.d1, h.d2, h.d3⟩
  have := row_put (i := 4) (.int .i64 x) h.b1
  simpa using this
/-- A number of an order is written. -/
theorem CD.setO {go co : Nat} (j : Nat) (x : Int) (h : CD w W q a bs c k n g zl cg zs (.slice (some ⟨go, 0, none⟩) ko co) ko O ov kv V fi) : CD w (W.setCell ⟨go, j, none⟩ (.int .i64 x)) q a bs c k n g zl cg zs (.slice (some ⟨go, 0, none⟩) ko co) ko (O.set j x) ov kv V fi := by
  obtain ⟨h1, h2, h3, h4⟩ := h.h
  obtain ⟨p, hrd⟩ := h.r
  obtain ⟨p0, hr0⟩ := h.r0
  have hgo := (h.o.lt go rfl).1
  have hd := h.d1 go rfl
  have hs := grown_set W go j (.int .i64 x)
  have hsw : ∀ b, some go = some b → w.heap.size ≤ b := fun b e => by injection e with e; omega
  refine ⟨grown_own h.gr hs hsw, h.r0, ⟨p, RD.kept2 hr0 hrd hs hsw⟩, grown_row hs h.b0 (fun e => by injection e with e; omega), grown_row hs h.b1 (fun e => by injection e with e; omega), h.h, ints_row h.i hs (fun e => by injection e with e; omega), own_putR x h.o, h.v.kept hs (kept_side fun b e e2 => by injection e with e; subst e; exact h.d3 _ rfl e2), h.d1, h.d2, h.d3⟩
/-- A number of a vehicle is written. -/
theorem CD.setV {gv cv : Nat} (j : Nat) (x : Int) (h : CD w W q a bs c k n g zl cg zs oo ko O (.slice (some ⟨gv, 0, none⟩) kv cv) kv V fi) : CD w (W.setCell ⟨gv, j, none⟩ (.int .i64 x)) q a bs c k n g zl cg zs oo ko O (.slice (some ⟨gv, 0, none⟩) kv cv) kv (V.set j x) fi := by
  obtain ⟨h1, h2, h3, h4⟩ := h.h
  obtain ⟨p, hrd⟩ := h.r
  obtain ⟨p0, hr0⟩ := h.r0
  have hgo := (h.v.lt gv rfl).1
  have hd := h.d2 gv rfl
  have hs := grown_set W gv j (.int .i64 x)
  have hsw : ∀ b, some gv = some b → w.heap.size ≤ b := fun b e => by injection e with e; omega
  refine ⟨grown_own h.gr hs hsw, h.r0, ⟨p, RD.kept2 hr0 hrd hs hsw⟩, grown_row hs h.b0 (fun e => by injection e with e; omega), grown_row hs h.b1 (fun e => by injection e with e; omega), h.h, ints_row h.i hs (fun e => by injection e with e; omega), h.o.kept hs (kept_side fun b e e2 => by injection e with e; subst e; exact h.d3 _ e2 rfl), own_putR x h.v, h.d1, h.d2, h.d3⟩
end

end Go.Proofs.YtaofpbmdloihgaaDoor

namespace Go.Proofs.YtaofpbmdloihgaaDoor
open Go.RowKit

/-- w' is w with new blocks, and with writes to the blocks of S alone. -/
structure GrownBut (S : Nat → Prop) (w w' : World) : Prop where
  os : w'.os = w.os
  tape : w'.tape = w.tape
  output : w'.output = w.output
  size : w.heap.size ≤ w'.heap.size
  block : ∀ b, b < w.heap.size → ¬ S b → w'.heap[b]? = w.heap[b]?
theorem GrownBut.of_below {S : Nat → Prop} {w w' : World} (h : Below w.heap.size w w') : GrownBut S w w' := ⟨h.os, h.tape, h.output, h.size, fun b hb _ => h.block b hb⟩
theorem GrownBut.of_grown {S : Nat → Prop} {w w' : World} {g : Nat} (h : w.grownBy w' (some g)) (hs : S g) : GrownBut S w w' := ⟨h.os, h.tape, h.output, h.size, fun b hb hn => h.block b hb (fun e => by cases e; exact hn hs)⟩
theorem GrownBut.trans {S : Nat → Prop} {w w1 w2 : World} (h : GrownBut S w w1) (k : GrownBut S w1 w2) : GrownBut S w w2 :=
  ⟨k.os.trans h.os, k.tape.trans h.tape, k.output.trans h.output, Nat.le_trans h.size k.size, fun b hb hn => (k.block b (Nat.lt_of_lt_of_le hb h.size) hn).trans (h.block b hb hn)⟩
theorem GrownBut.mono {S S' : Nat → Prop} {w w' : World} (h : GrownBut S w w') (hs : ∀ b, S b → S' b) : GrownBut S' w w' := ⟨h.os, h.tape, h.output, h.size, fun b hb hn => h.block b hb (fun x => hn (hs b x))⟩
theorem GrownBut.below {S : Nat → Prop} {w w' : World} {B : Nat} (h : GrownBut S w w') (hB : B ≤ w.heap.size) (hs : ∀ b, S b → B ≤ b) : Below B w w' :=
  ⟨h.os, h.tape, h.output, h.size, fun b hb => h.block b (by omega) (fun x => by have := hs b x; omega)⟩
theorem GrownBut.row {S : Nat → Prop} {w w' : World} {k : Nat} {o : Obj} (h : GrownBut S w w') (hr : w.heap[k]? = some o) (hn : ¬ S k) : w'.heap[k]? = some o := (h.block k (row_lt hr) hn).trans hr
theorem GrownBut.owns {S : Nat → Prop} {w w' : World} {base size k : Nat} {e : TypeId} {v : Value} {xs : List Value} (h : GrownBut S w w') (ho : w.ownsRow base e size v k xs) (hs : ∀ b, S b → b < base) : w'.ownsRow base e size v k xs := by
  obtain ⟨h1, h2 | ⟨g, cap, cur, h2, h3, h4, h5⟩⟩ := ho
  · exact ⟨h1, .inl h2⟩
  · exact ⟨h1, .inr ⟨g, cap, cur, h2, h3, h.row h4 (fun x => by have := hs g x; omega), h5⟩⟩
theorem type_ne {w : World} {g k : Nat} {c1 c2 : Array Value} {T1 T2 : TypeId} (h1 : w.heap[g]? = some (.cells c1 T1 (0, 0))) (h2 : w.heap[k]? = some (.cells c2 T2 (0, 0))) (hT : T1 ≠ T2) : g ≠ k := by
  intro e
  rw [e, h2] at h1
  cases h1
  exact hT rfl

end Go.Proofs.YtaofpbmdloihgaaDoor
