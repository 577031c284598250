import Derived.Test.YtchdcifhccjheaaPack1
import Derived.WalkKit
import Derived.Deep.RegionLaw
namespace Go.Proofs.Ytchdcifhccjheaa
open Go.RowKit

theorem grown_row {w w' : World} {row : Option Nat} {k : Nat} {o : Obj} (hg : w.grownBy w' row) (h : w.heap[k]? = some o) (hne : some k ≠ row) : w'.heap[k]? = some o := (hg.block k (row_lt h) hne).trans h

/-- What is owned of a row of numbers lies there. -/
theorem owns_ints {w : World} {base size g n cap : Nat} {e : TypeId} {zs : List Int} (h : w.ownsRow base e size (.slice (some ⟨g, 0, none⟩) n cap) n (zs.map (Value.int .i64))) : IntsAt w (some ⟨g, 0, none⟩) zs := by
  intro j hj
  refine ⟨g, 0, rfl, ?_⟩
  have := h.cells (g := g) rfl j (.int .i64 (zs.getD j 0)) (by simp [List.getD, hj])
  have hadd : (⟨g, 0, none⟩ : Addr).add j = ⟨g, 0 + j, none⟩ := by unfold Addr.add; split <;> simp_all
  rw [hadd] at this
  exact this

theorem owns_below {w w' : World} {base size n : Nat} {e : TypeId} {v : Value} {xs : List Value} (h : w.ownsRow base e size v n xs) (hb : Below w.heap.size w w') : w'.ownsRow base e size v n xs := by
  obtain ⟨h1, h2 | ⟨g, cap, cur, h2, h3, h4, h5⟩⟩ := h
  · exact ⟨h1, .inl h2⟩
  · exact ⟨h1, .inr ⟨g, cap, cur, h2, h3, below_row hb (row_lt h4) h4, h5⟩⟩

theorem own_some {w : World} {base k : Nat} {v : Value} {e : TypeId} {size : Nat} {xs : List Value} (h : w.ownsRow base e size v (k + 1) xs) : ∃ g c, v = .slice (some ⟨g, 0, none⟩) (k + 1) c ∧ base ≤ g := by
  obtain ⟨_, ⟨_, h2⟩ | ⟨g, cap, cur, h2, h3, _⟩⟩ := h
  · omega
  · exact ⟨g, cap, h2, h3⟩
theorem own_shape {w : World} {base k : Nat} {v : Value} {e : TypeId} {size : Nat} {xs : List Value} (h : w.ownsRow base e size v k xs) : v = .slice none 0 0 ∨ ∃ g c, v = .slice (some ⟨g, 0, none⟩) k c := by
  obtain ⟨_, ⟨h1, _⟩ | ⟨g, cap, cur, h2, _⟩⟩ := h
  · exact .inl h1
  · exact .inr ⟨g, cap, h2⟩
theorem owns_base {w : World} {base b0 k : Nat} {v : Value} {e : TypeId} {size : Nat} {xs : List Value} (h : w.ownsRow base e size v k xs) (hb : b0 ≤ base) : w.ownsRow b0 e size v k xs := by
  obtain ⟨h0, h1 | ⟨g, cap, cur, h2, h3, h4⟩⟩ := h
  · exact ⟨h0, .inl h1⟩
  · exact ⟨h0, .inr ⟨g, cap, cur, h2, Nat.le_trans hb h3, h4⟩⟩
theorem owns_set {w : World} {base k b i : Nat} {v u : Value} {e : TypeId} {size : Nat} {xs : List Value} (h : w.ownsRow base e size v k xs) (hb : b < base) : (w.setCell ⟨b, i, none⟩ u).ownsRow base e size v k xs := ownsRow_setCell_below h hb u
theorem owns_at1 {w : World} {base n : Nat} {e : TypeId} {sl : Value} {xs : List Int} (h : w.ownsRow base e 1 sl n (xs.map (Value.int .i64))) : ∃ a c, sl = .slice a xs.length c ∧ xs.length = n ∧ IntsAt w a xs := by
  obtain ⟨h1, ⟨rfl, h2⟩ | ⟨g, cap, cur, rfl, h3, h4, h5⟩⟩ := id h
  · subst h2
    have : xs = [] := by simpa using h1
    subst this
    exact ⟨none, 0, rfl, rfl, fun j hj => by simp at hj⟩
  · have hl : xs.length = n := by simpa using h1
    exact ⟨_, _, by rw [hl], hl, owns_ints h⟩

theorem cell_new1 (W : World) (v : Value) (T : TypeId) (g : Nat) (hg : W.heap.size = g) : (W.alloc (.cells #[v] T)).cell? ⟨g, 0, none⟩ = some v := by
  subst hg
  rw [cell_of_row _ _ 0 _ _ _ (heap_alloc_new W (.cells #[v] T))]
  simp
theorem one_cell {w : World} {ad : Addr} {x0 : Value} (hc : w.cell? ad = some x0) : ∀ j u, [x0][j]? = some u → w.cell? (ad.add j) = some u := by
  intro j u hu
  have hj : j = 0 := by
    rcases j with _ | j
    · rfl
    · simp at hu
  subst hj
  have : ad.add 0 = ad := by unfold Addr.add; split <;> simp_all
  rw [this, hc]
  simpa using hu
theorem append_int (w : World) {ops : Array Oper} {rest : List Oper} {o : Oper} {a : Act} {Q : Exit → Act → World → Prop}
    (hg : o.guard = none) (s x : Operand) (hop : o.op = Op.call { callee := Callee.builtin Builtin.append, args := #[s, x], argTypes := #[24, 24] })
    (base : Nat) (v : Value) (k : Nat) (xs : List Value) (hs : a.eval s = v) (hown : w.ownsRow base 2 1 v k xs) (ad : Addr) (c : Nat) (x0 : Value) (hx : a.eval x = .slice (some ad) 1 c)
    (hc : w.cell? ad = some x0) (h1c : x0.oneCell' = true) (b1 : k ≤ 1000) (hb : base ≤ w.heap.size)
    (hK : ∀ v' w', w'.ownsRow base 2 1 v' (k + 1) (xs ++ [x0]) → w.grownBy w' v.ownBlock → wpList Try.prog ops Q rest (a.put o.dst v') w') :
    wpList Try.prog ops Q (o :: rest) a w := by
  obtain ⟨i0, hi, hz0, hz1, hz2⟩ := info_parts Try.info2
  exact wpList_append_own w hg s x _ hop base _ i0 _ 1 8 Try.underlying24 hi hz0 hz1 hz2 rfl (by decide) v k xs hs hown ad 1 c [x0] hx rfl (one_cell hc) (by simpa using h1c) (by unfold maxLen; omega) (by omega) hb (fun v' w' h1 h2 _ => hK v' w' h1 h2)

/-- 'append' of a number to a slice of the call's own, as a step of a region that draws. -/
theorem step_append_int {ops : Array Oper} {o : Oper} {a : Act} {w : World} {K : Act → World → Prop} {Q : Exit → Act → World → Prop} {E : Prop}
    (hg : o.guard = none) (s x : Operand) (hop : o.op = Op.call { callee := Callee.builtin Builtin.append, args := #[s, x], argTypes := #[24, 24] })
    (base : Nat) (v : Value) (k : Nat) (xs : List Value) (hs : a.eval s = v) (hown : w.ownsRow base 2 1 v k xs) (ad : Addr) (c : Nat) (x0 : Value) (hx : a.eval x = .slice (some ad) 1 c)
    (hc : w.cell? ad = some x0) (h1c : x0.oneCell' = true) (b1 : k ≤ 1000) (hb : base ≤ w.heap.size)
    (hK : ∀ v' w', w'.ownsRow base 2 1 v' (k + 1) (xs ++ [x0]) → w.grownBy w' v.ownBlock → K (a.put o.dst v') w') :
    if Region.wanted o (yielded ops a.tmps) = true then Oper.wp Try.prog o a w K Q else E := by
  have hw : Region.wanted o (yielded ops a.tmps) = true := by simp [Region.wanted, hg]
  rw [if_pos hw]
  obtain ⟨i0, hi, hz0, hz1, hz2⟩ := info_parts Try.info2
  obtain ⟨v', w', hrun, r1, r2, _⟩ := run_append_own (P := Try.prog) w base 24 o.type _ i0 _ 1 8 Try.underlying24 hi hz0 hz1 hz2 rfl (by decide) v k xs hown ad 1 c [x0] rfl (one_cell hc) (by simpa using h1c) (by unfold maxLen; omega) (by omega) hb
  unfold Oper.wp
  simp [execOp, hop, resolve, invoke, builtin, hs, hx, hrun, Result.andThen]
  exact hK _ _ r1 r2

end Go.Proofs.Ytchdcifhccjheaa

namespace Go.Proofs.Ytchdcifhccjheaa
open Go.RowKit

/-- Where an append to a slice of the call's own ends: in the row that was, or in a new block. -/
theorem append_block {P : Program} (w : World) (base : Nat) (t ty e : TypeId) (i : TypeInfo) (z : Value) (size bytes : Nat) (ht : P.underlying t = some (.slice e)) (hi : P.info? e = some i) (hz : i.zero = some z)
    (hsize : i.size = size) (hby : i.bytes = bytes) (v : Value) (n : Nat) (xs : List Value) (hown : w.ownsRow base e size v n xs)
    (a : Addr) (m c : Nat) (news : List Value) (hl : news.length = m * size) (hnews : ∀ j u, news[j]? = some u → w.cell? (a.add j) = some u) (h1 : ∀ u ∈ news, u.oneCell' = true)
    (h63 : n + m ≤ maxLen) (hbytes : (n + m) * bytes ≤ 140737488355328) {v' : Value} {w' : World} (hrun : (Builtin.append_ #[t, t] ty #[v, .slice (some a) m c]).run P w = .ok v' w') : v'.ownBlock = v.ownBlock ∨ v'.ownBlock = some w.heap.size := by
  subst hsize
  subst hby
  have hsmall : n + m ≤ 9223372036854775807 := by simp only [maxLen] at h63; omega
  rcases hown.2 with ⟨rfl, rfl⟩ | ⟨g, cap, cur, rfl, hbg, hg, hnc, hcm, hcs, htake⟩
  · by_cases hm : m = 0
    · subst hm
      have hn : news = [] := List.eq_nil_of_length_eq_zero (by simpa using hl)
      subst hn
      simp [Builtin.append_, run_underlying ht, sizeOf, typeInfo, hi, Builtin.lenOf, Builtin.firstCells, loadCells, loadCellsFrom] at hrun
      rw [← hrun.1]
      exact .inl rfl
    · have hr := run_append_nil (P := P) w t ty e i z ht hi hz a m c news hl hnews (by omega) (by omega) (by have hb := hbytes; simp only [Nat.zero_add] at hb; omega)
      rw [hr] at hrun
      injection hrun with e1 e2
      rw [← e1]
      exact .inr rfl
  · by_cases hroom : n + m ≤ cap
    · have hfit : n * i.size + news.length ≤ cur.size := by rw [hl, hcs, ← Nat.add_mul]; exact Nat.mul_le_mul_right _ hroom
      have hr := run_append_room (P := P) w t ty e i ht hi g n cap cur hg a m c news hl hnews h1 hroom hfit
      rw [hr] at hrun
      injection hrun with e1 e2
      rw [← e1]
      exact .inl rfl
    · have holds : ∀ j u, xs[j]? = some u → w.cell? ((⟨g, 0, none⟩ : Addr).add j) = some u := hown.cells (g := g) rfl
      have hr := run_append_grow (P := P) w t ty e i z ht hi hz ⟨g, 0, none⟩ n cap xs hown.1 holds a m c news hl hnews (by omega) (by omega) (growslice_fits (by omega) hbytes)
      rw [hr] at hrun
      injection hrun with e1 e2
      rw [← e1]
      exact .inr rfl

theorem exec_append' {P : Program} {o : Oper} {a : Act} {w w' : World} {v : Value} (s x : Operand) (t : TypeId) (vs vx : Value) (ho : o.op = .call { callee := .builtin .append, args := #[s, x], argTypes := #[t, t] })
    (hs : a.eval s = vs) (hx : a.eval x = vx) (hr : (Builtin.append_ #[t, t] o.type #[vs, vx]).run P w = .ok v w') : (execOp a.eval o).run P w = .ok (.value v) w' := by
  unfold execOp
  simp only [ho, resolve, invoke, builtin, Sem.run_bind, Sem.run_pure, Result.andThen_ok, List.map_toArray, List.map_cons, List.map_nil, hs, hx, hr]

/-- 'append' of numbers to a slice of the call's own. -/
theorem append_many (w : World) {ops : Array Oper} {rest : List Oper} {o : Oper} {a : Act} {Q : Exit → Act → World → Prop}
    (hg : o.guard = none) (s x : Operand) (hop : o.op = Op.call { callee := Callee.builtin Builtin.append, args := #[s, x], argTypes := #[24, 24] })
    (base : Nat) (v : Value) (k : Nat) (xs : List Int) (hs : a.eval s = v) (hown : w.ownsRow base 2 1 v k (xs.map (Value.int .i64))) (b off m c : Nat) (ys : List Int) (hx : a.eval x = .slice (some ⟨b, off, none⟩) m c)
    (hy : ys.length = m) (hc : IntsAt w (some ⟨b, off, none⟩) ys) (b1 : k ≤ 1000) (b2 : m ≤ 1000) (hb : base ≤ w.heap.size)
    (hK : ∀ v' w', w'.ownsRow base 2 1 v' (k + m) ((xs ++ ys).map (Value.int .i64)) → w.grownBy w' v.ownBlock → (v'.ownBlock = v.ownBlock ∨ v'.ownBlock = some w.heap.size) → (v' = .slice none 0 0 ↔ v = .slice none 0 0 ∧ m = 0) → wpList Try.prog ops Q rest (a.put o.dst v') w') :
    wpList Try.prog ops Q (o :: rest) a w := by
  obtain ⟨i0, hi, hz0, hz1, hz2⟩ := info_parts Try.info2
  have hnews : ∀ j u, (ys.map (Value.int .i64))[j]? = some u → w.cell? ((⟨b, off, none⟩ : Addr).add j) = some u := by
    intro j u hu
    have hj : j < ys.length := by
      rcases Nat.lt_or_ge j ys.length with h' | h'
      · exact h'
      · simp [List.getElem?_eq_none (by simpa using h' : (ys.map (Value.int .i64)).length ≤ j)] at hu
    obtain ⟨b', off', e, hcc⟩ := hc j hj
    simp at e
    obtain ⟨rfl, rfl⟩ := e
    have hadd : (⟨b, off, none⟩ : Addr).add j = ⟨b, off + j, none⟩ := by unfold Addr.add; split <;> simp_all
    rw [hadd, hcc, ← hu]
    simp [List.getD, hj]
  have h1c : ∀ u ∈ ys.map (Value.int .i64), u.oneCell' = true := by simp [Value.oneCell']
  obtain ⟨v', w', hrun, r1, r2, r3⟩ := run_append_own (P := Try.prog) w base 24 o.type _ i0 _ 1 8 Try.underlying24 hi hz0 hz1 hz2 rfl (by decide) v k (xs.map (Value.int .i64)) hown ⟨b, off, none⟩ m c (ys.map (Value.int .i64)) (by simp [hy]) hnews h1c (by unfold maxLen; omega) (by omega) hb
  have r4 := append_block (P := Try.prog) w base 24 o.type _ i0 _ 1 8 Try.underlying24 hi hz0 hz1 hz2 v k (xs.map (Value.int .i64)) hown ⟨b, off, none⟩ m c (ys.map (Value.int .i64)) (by simp [hy]) hnews h1c (by unfold maxLen; omega) (by omega) hrun
  exact wpList_run v' hg (exec_append' s x _ v _ hop hs hx hrun) (hK v' w' (by rw [List.map_append]; exact r1) r2 r4 r3)

end Go.Proofs.Ytchdcifhccjheaa

namespace Go.Proofs.Ytchdcifhccjheaa
open Go.RowKit

/-- 'append' of numbers whose address is not written out. -/
theorem append_more (w : World) {ops : Array Oper} {rest : List Oper} {o : Oper} {a : Act} {Q : Exit → Act → World → Prop}
    (hg : o.guard = none) (s x : Operand) (hop : o.op = Op.call { callee := Callee.builtin Builtin.append, args := #[s, x], argTypes := #[24, 24] })
    (base : Nat) (v : Value) (k : Nat) (xs : List Int) (hs : a.eval s = v) (hown : w.ownsRow base 2 1 v k (xs.map (Value.int .i64))) (ad : Option Addr) (m c : Nat) (ys : List Int) (hx : a.eval x = .slice ad m c)
    (had : ∃ b off, ad = some ⟨b, off, none⟩) (hy : ys.length = m) (hc : IntsAt w ad ys) (b1 : k ≤ 1000) (b2 : m ≤ 1000) (hb : base ≤ w.heap.size)
    (hK : ∀ v' w', w'.ownsRow base 2 1 v' (k + m) ((xs ++ ys).map (Value.int .i64)) → w.grownBy w' v.ownBlock → (v'.ownBlock = v.ownBlock ∨ v'.ownBlock = some w.heap.size) → (v' = .slice none 0 0 ↔ v = .slice none 0 0 ∧ m = 0) → wpList Try.prog ops Q rest (a.put o.dst v') w') :
    wpList Try.prog ops Q (o :: rest) a w := by
  obtain ⟨b, off, rfl⟩ := had
  exact append_many w hg s x hop base v k xs hs hown b off m c ys hx hy hc b1 b2 hb hK
theorem ints_take' {W : World} {a : Option Addr} {ids : List Int} (h : IntsAt W a ids) (i : Nat) : IntsAt W a (ids.take i) := by
  intro j hj
  have hj' : j < ids.length ∧ j < i := by rw [List.length_take] at hj; omega
  obtain ⟨b, off, e, hc⟩ := h j hj'.1
  refine ⟨b, off, e, ?_⟩
  rw [hc, List.getD_eq_getElem?_getD, List.getD_eq_getElem?_getD, List.getElem?_take, if_pos hj'.2]
theorem ints_drop' {W : World} {b off : Nat} {ids : List Int} (h : IntsAt W (some ⟨b, off, none⟩) ids) (i : Nat) : IntsAt W (some ⟨b, off + i, none⟩) (ids.drop i) := by
  intro j hj
  have hj' : i + j < ids.length := by rw [List.length_drop] at hj; omega
  obtain ⟨b', off', e, hc⟩ := h (i + j) hj'
  simp at e
  obtain ⟨rfl, rfl⟩ := e
  refine ⟨b, off + i, rfl, ?_⟩
  rw [Nat.add_assoc, hc, List.getD_eq_getElem?_getD, List.getD_eq_getElem?_getD, List.getElem?_drop]
theorem ints_cut' {W : World} {b off : Nat} {ids : List Int} (h : IntsAt W (some ⟨b, off, none⟩) ids) (i c2 : Nat) (hc : ids.length ≤ c2) : IntsAt W (if c2 = i then some ⟨b, off, none⟩ else some ⟨b, off + i, none⟩) (ids.drop i) := by
  by_cases e : c2 = i
  · have : ids.drop i = [] := List.drop_eq_nil_of_le (by omega)
    rw [this]
    intro j hj
    simp at hj
  · rw [if_neg e]; exact ints_drop' h i
theorem cut_some' (b off i c2 : Nat) : ∃ b' off', (if c2 = i then some (⟨b, off, none⟩ : Addr) else some ⟨b, off + i, none⟩) = some ⟨b', off', none⟩ := by
  by_cases e : c2 = i
  · exact ⟨b, off, if_pos e⟩
  · exact ⟨b, off + i, if_neg e⟩
theorem cut0_some (g i c2 : Nat) : ∃ b' off', (if c2 = i then some (⟨g, 0, none⟩ : Addr) else some ⟨g, i, none⟩) = some ⟨b', off', none⟩ := by
  have := cut_some' g 0 i c2
  rwa [Nat.zero_add] at this
theorem ints_cut0 {W : World} {g : Nat} {ids : List Int} (h : IntsAt W (some ⟨g, 0, none⟩) ids) (i c2 : Nat) (hc : ids.length ≤ c2) : IntsAt W (if c2 = i then some ⟨g, 0, none⟩ else some ⟨g, i, none⟩) (ids.drop i) := by
  have := ints_cut' h i c2 hc
  rwa [Nat.zero_add] at this
theorem own_sm {w : World} {base k : Nat} {v : Value} {e : TypeId} {size : Nat} {xs : List Value} (h : w.ownsRow base e size v k xs) (hne : v ≠ .slice none 0 0) : ∃ g c, v = .slice (some ⟨g, 0, none⟩) k c := by
  rcases own_shape h with e | e
  · exact absurd e hne
  · exact e
theorem own_cap {w : World} {base k g c : Nat} {e : TypeId} {size : Nat} {xs : List Value} (h : w.ownsRow base e size (.slice (some ⟨g, 0, none⟩) k c) k xs) : k ≤ c := by
  obtain ⟨_, ⟨h1, _⟩ | ⟨g', cap, cur, h2, _, _, h3, _⟩⟩ := h
  · cases h1
  · injection h2 with e1 e2 e3
    omega
theorem not_nil {v v' : Value} {m : Nat} (h : v' = .slice none 0 0 ↔ v = .slice none 0 0 ∧ m = 0) (hv : ∃ g n c, v = .slice (some ⟨g, 0, none⟩) n c) : v' ≠ .slice none 0 0 := by
  intro e
  obtain ⟨g, n, c, rfl⟩ := hv
  have := (h.1 e).1
  simp at this
theorem ints_new1 (W : World) (x : Int) : IntsAt (W.alloc (.cells #[.int .i64 x] 2)) (some ⟨W.heap.size, 0, none⟩) [x] := by
  intro j hj
  have : j = 0 := by simpa using hj
  subst this
  exact ⟨_, _, rfl, cell_new1 W _ _ _ rfl⟩
theorem owns_ints' {w : World} {base g n cap : Nat} {e : TypeId} {zs : List Int} (h : w.ownsRow base e 1 (.slice (some ⟨g, 0, none⟩) n cap) zs.length (zs.map (Value.int .i64))) (hn : zs.length = n) : IntsAt w (some ⟨g, 0, none⟩) zs := by
  rw [hn] at h
  exact owns_ints h
theorem own_at {g n c k : Nat} (e : (Value.slice (some ⟨g, 0, none⟩) n c).ownBlock = some k) : g ≤ k := by
  have : g = k := by injection e
  omega

end Go.Proofs.Ytchdcifhccjheaa

namespace Go.Proofs.Ytchdcifhccjheaa
open Go.RowKit

/-- 'make([]int64, 0, n)'. -/
theorem make_room (w : World) {ops : Array Oper} {rest : List Oper} {o : Oper} {a : Act} {Q : Exit → Act → World → Prop}
    (hg : o.guard = none) (l c : Operand) (hop : o.op = Op.makeSlice 24 l c) (base : Nat)
    (kl kc : IntKind) (C : Int) (n : Nat) (hl : a.eval l = .int kl 0) (hc : a.eval c = .int kc C) (hC : C = (n : Int)) (b2 : n ≤ 1048576) (b4 : base ≤ w.heap.size)
    (hK : ∀ w', w'.ownsRow base 2 1 (.slice (some ⟨w.heap.size, 0, none⟩) 0 n) 0 [] → w.grownBy w' none → wpList Try.prog ops Q rest (a.put o.dst (.slice (some ⟨w.heap.size, 0, none⟩) 0 n)) w') :
    wpList Try.prog ops Q (o :: rest) a w := by
  obtain ⟨i0, hi, hz0, hz1, hz2⟩ := info_parts Try.info2
  exact wpList_make_own w hg l c _ hop base _ i0 _ 1 Try.underlying24 hi hz0 hz1 kl kc C n hl hc hC (by rw [hz2]; omega) (by unfold maxLen; omega) b4 hK

end Go.Proofs.Ytchdcifhccjheaa

namespace Go.Proofs.Ytchdcifhccjheaa
open Go.RowKit

theorem place_lt' {n a b : Nat} (ha : a < n) (hb : b < n) : a * n + b < n * n := by
  have := Nat.mul_le_mul_right n (show a + 1 ≤ n by omega)
  rw [Nat.add_mul] at this
  omega
/-- A cell of a full grid is written. -/
theorem gridTo_put (n : Nat) (l : List Int) (x y : Nat) (v : Int) (hl : l.length = n * n) (hx : x < n) (hy : y < n) (hn : n ≤ 16) : (gridTo n l n 0).set (x * 16 + y) v = gridTo n (l.set (x * n + y) v) n 0 := by
  apply List.ext_getElem
  · simp [gridTo]
  · intro k h1 h2
    have hk : k < 256 := by simpa [gridTo] using h2
    by_cases e : x * 16 + y = k
    · subst e
      have e1 : (x * 16 + y) / 16 = x := by omega
      have e2 : (x * 16 + y) % 16 = y := by omega
      simp only [gridTo, List.getElem_set, List.getElem_map, List.getElem_range, e1, e2, if_true]
      rw [if_pos ⟨hx, hy, Or.inl hx⟩, List.getD_eq_getElem?_getD, List.getElem?_set, if_pos rfl, if_pos (by rw [hl]; exact place_lt' hx hy)]
      rfl
    · simp only [gridTo, List.getElem_set, List.getElem_map, List.getElem_range, if_neg e]
      by_cases c : k / 16 < n ∧ k % 16 < n ∧ (k / 16 < n ∨ k / 16 = n ∧ k % 16 < 0)
      · rw [if_pos c, if_pos c, List.getD_eq_getElem?_getD, List.getD_eq_getElem?_getD, List.getElem?_set, if_neg]
        intro h
        have h1 := div_mod_at n x y hy
        have h2 := div_mod_at n (k / 16) (k % 16) c.2.1
        rw [h] at h1
        omega
      · rw [if_neg c, if_neg c]
theorem arr16 : Try.prog.arrayLen 46 = 16 := by kernel_rfl
theorem el16 : (Try.prog.info? (Try.prog.elem 46)).map (·.size) = some 1 := by kernel_rfl
theorem und16 : Try.prog.underlying 46 = some (.array (Try.prog.arrayLen 46) (Try.prog.elem 46)) := by kernel_rfl
theorem slice_16 (W : World) (g o l : Nat) (h : l ≤ 16) : (Instr.sliceAt 46 (.pointer (some ⟨g, o, none⟩)) none (some (.int .i64 l)) none).run Try.prog W = .ok (.slice (some ⟨g, o, none⟩) l 16) W := by
  rw [run_sliceAt_array_h W _ _ und16 .i64 (l : Int) (by omega) (by rw [arr16]; omega), arr16]
  have h1 := el16
  cases hq : Try.prog.info? (Try.prog.elem 46) with
  | none => simp [hq] at h1
  | some i => simp [sizeOf, typeInfo, hq, slicedAt, Addr.add]
theorem grid_ints {W : World} {g n x : Nat} {l : List Int} {T : TypeId} (hg : W.heap[g]? = some (.cells (cellsOf (gridTo n l n 0)) T (0, 0))) (hx : x < n) (hn : n ≤ 16) : IntsAt W (some ⟨g, x * 16, none⟩) ((l.drop (x * n)).take n) := by
  intro j hj
  have hj' : j < n := by rw [List.length_take] at hj; omega
  refine ⟨g, x * 16, rfl, ?_⟩
  rw [cell_of_row _ _ _ _ _ _ hg, cellsOf_get _ _ (by rw [gridTo_length]; omega), gridTo_get n l x j hx hj' hn]
  rw [List.getD_eq_getElem?_getD, List.getD_eq_getElem?_getD, List.getElem?_take, if_pos hj', List.getElem?_drop]
theorem row_len {n x : Nat} {l : List Int} (hl : l.length = n * n) (hx : x < n) : ((l.drop (x * n)).take n).length = n := by
  have := Nat.mul_le_mul_right n (show x + 1 ≤ n by omega)
  rw [Nat.add_mul] at this
  rw [List.length_take, List.length_drop, hl]
  omega

/-- The world inside matrix: the grid's box, the result's cells, the list that grows. -/
structure MW (w W : World) (gr : Array Value) (sl : Value) (k : Nat) (xs : List Value) : Prop where
  b : Below w.heap.size w W
  g : W.heap[w.heap.size]? = some (.cells gr 48 (0, 0))
  z : W.heap[w.heap.size + 1]? = some (.cells #[.int .i64 0, .slice none 0 0] 26 (0, 0))
  o : W.ownsRow (w.heap.size + 2) 2 1 sl k xs
  s : ∃ g n c, sl = .slice (some ⟨g, 0, none⟩) n c
theorem MW.grown {w W W' : World} {gr : Array Value} {sl sl' : Value} {k k' m : Nat} {xs xs' : List Value} (h : MW w W gr sl k xs) (hg : W.grownBy W' sl.ownBlock) (ho : W'.ownsRow (w.heap.size + 2) 2 1 sl' k' xs') (hn : sl' = .slice none 0 0 ↔ sl = .slice none 0 0 ∧ m = 0) : MW w W' gr sl' k' xs' := by
  have hlt : ∀ r, sl.ownBlock = some r → w.heap.size + 2 ≤ r := fun r e => (h.o.lt r e).1
  obtain ⟨g, c, e⟩ := own_sm ho (not_nil hn h.s)
  exact ⟨h.b.grown hg h.b.size (fun r e => by have := hlt r e; omega), grown_row hg h.g (fun e => by have := hlt _ e.symm; omega), grown_row hg h.z (fun e => by have := hlt _ e.symm; omega), ho, ⟨g, _, c, e⟩⟩

set_option maxRecDepth 10000 in
set_option maxHeartbeats 2000000 in
theorem matrix_of (n : Nat) (l : List Int) (w : World) (h1 : 1 ≤ n) (h2 : n ≤ 16) (hl : l.length = n * n) :
    Calls Try.prog 27 #[.agg (cellsOf (gridTo n l n 0)), .int .i64 n] w fun e w' => ∃ g c, e = .returned (.agg #[.int .i64 n, .slice (some ⟨g, 0, none⟩) (n * n) c]) ∧ Below w.heap.size w w' ∧ w'.ownsRow w.heap.size 2 1 (.slice (some ⟨g, 0, none⟩) (n * n) c) (n * n) (l.map (Value.int .i64)) := by
  have HL : Hid (l.length = n * n) := hl
  clear hl
  have hnn : n * n ≤ 256 := mul_bd n n h2 h2
  have hnw : wrap64 ((n : Int) * (n : Int)) = (n : Int) * (n : Int) := IntWalk.wrap64_in _ (by rw [← Int.natCast_mul]; omega)
  have hne : (n : Int) * (n : Int) = ((n * n : Nat) : Int) := (Int.natCast_mul n n).symm
  obtain ⟨N, HN⟩ : ∃ N, Hid (n * n = N) := ⟨_, rfl⟩
  rw [HN.out] at hnn hne ⊢
  obtain ⟨gr, HGR⟩ : ∃ gr, Hid (cellsOf (gridTo n l n 0) = gr) := ⟨_, rfl⟩
  rw [HGR.out]
  have hsl := fun W o => slice_16 W w.heap.size o n h2
  go_enter Try.func27, Try.ntmps27
  go_wp2_with (
    refine make_room _ rfl _ _ rfl (w.heap.size + 2) _ _ (N : Int) N rfl rfl rfl (by omega) (by simp) ?_
    intro w1 hown hg
    have O1 : Hid (MW w w1 gr (.slice (some ⟨((w.alloc (Obj.cells gr 48)).alloc (Obj.cells #[Value.int IntKind.i64 0, Value.slice none 0 0] 26)).heap.size, 0, none⟩) 0 N) 0 []) := ⟨(((Below.refl w.heap.size w).alloc (Nat.le_refl _) _).alloc (by simp) _).grown hg (by simp <;> omega) (fun k e => by cases e), (hg.block _ (by simp <;> omega) (by simp)).trans (heap_alloc2_old _ _ _), (hg.block _ (by simp <;> omega) (by simp)).trans (heap_alloc2_new _ _ _), hown, ⟨_, _, _, rfl⟩⟩
    clear hown hg)
  go_loopw [5, 12] (fun sl t wr => ∃ x : Nat, x ≤ n ∧ t = .int .i64 x ∧ MW w wr gr sl (x * n) ((l.take (x * n)).map (Value.int .i64))) (fun _ t _ => n - (intOf t).toNat)
  case atStart => exact ⟨0, Nat.zero_le _, rfl, by simpa using O1.out⟩
  case round =>
    clear O1
    obtain ⟨x, hx, rfl, ho⟩ := hrel
    by_cases hlt : x < n
    · have HO : Hid (MW w wr gr u5 (x * n) ((l.take (x * n)).map (Value.int .i64))) := ho
      clear ho
      have hxn : x * n + n ≤ N := by
        have := Nat.mul_le_mul_right n (show x + 1 ≤ n by omega)
        rw [Nat.add_mul, HN.out] at this
        omega
      obtain ⟨m, HMx⟩ : ∃ m, Hid (x * n = m) := ⟨_, rfl⟩
      have hmn : m + n ≤ N := by rw [← HMx.out]; exact hxn
      clear hxn
      have HI : Hid (IntsAt wr (some ⟨w.heap.size, x * 16, none⟩) ((l.drop (x * n)).take n)) := grid_ints (HGR.out.symm ▸ HO.out.g) hlt h2
      have HR : Hid (((l.drop (x * n)).take n).length = n) := row_len HL.out hlt
      have HSZ : Hid (w.heap.size + 2 ≤ wr.heap.size) := row_lt HO.out.z
      go_wp2_with (
        at_builtin
        refine append_more _ rfl _ _ rfl (w.heap.size + 2) u5 (x * n) (l.take (x * n)) rfl HO.out.o _ n _ ((l.drop (x * n)).take n) rfl ⟨_, _, rfl⟩ HR.out HI.out (by rw [HMx.out]; omega) (by omega) HSZ.out ?_
        intro v' w4 hown hg _ hn0
        have O4 : Hid (MW w w4 gr v' ((x + 1) * n) ((l.take ((x + 1) * n)).map (Value.int .i64))) := by
          have e : (x + 1) * n = x * n + n := by rw [Nat.add_mul, Nat.one_mul]
          rw [e, List.take_add]
          exact HO.out.grown hg hown hn0
        clear hown hg hn0)
      go_roundw
      case rel => exact ⟨x + 1, by omega, by first | rfl | go_num, O4.out⟩
      case measure => simp [intOf]; omega
    · have hxe : x = n := by omega
      have HO : Hid (MW w wr gr u5 N (l.map (Value.int .i64))) := by
        have h := ho
        rw [hxe, HN.out, List.take_of_length_le (by rw [HL.out, HN.out]; exact Nat.le_refl _)] at h
        exact h
      clear ho hxe
      obtain ⟨g, c, e⟩ := own_sm HO.out.o (by obtain ⟨g, n, c, e⟩ := HO.out.s; rw [e]; simp)
      subst e
      have z0 := cell_of_row _ _ 0 _ _ _ HO.out.z
      have z1 := cell_of_row _ _ 1 _ _ _ HO.out.z
      simp at z0 z1
      have f0 := fun i => frozen_of_row _ _ i _ _ HO.out.z
      go_wp2
      refine bodyPost_ret (v := .agg #[.int .i64 n, .slice (some ⟨g, 0, none⟩) N c]) (by simp [results, Try.results27, go_sem, z0, z1]) rfl ⟨g, c, rfl, (HO.out.b.setCell (by simp <;> omega) _).setCell (by simp <;> omega) _, owns_base (owns_set (owns_set HO.out.o (by omega)) (by omega)) (by omega)⟩

end Go.Proofs.Ytchdcifhccjheaa

namespace Go.Proofs.Ytchdcifhccjheaa
open Go.RowKit

/-- The first m cells marked by k0, k0 + 1, .. -/
def markA (cur : Array Value) (k0 : Int) : Nat → Array Value
  | 0 => cur
  | m + 1 => (markA cur k0 m).setIfInBounds m (.int .i64 (k0 + (m : Nat)))
theorem markA_size (cur : Array Value) (k0 : Int) : ∀ m, (markA cur k0 m).size = cur.size
  | 0 => rfl
  | m + 1 => by simp [markA, markA_size cur k0 m]
theorem markA_get (cur : Array Value) (k0 : Int) : ∀ m, m ≤ cur.size → ∀ j, j < m → (markA cur k0 m)[j]? = some (.int .i64 (k0 + (j : Nat)))
  | 0, _, j, hj => by omega
  | m + 1, hm, j, hj => by
    unfold markA
    by_cases e : j = m
    · subst e
      rw [Array.getElem?_setIfInBounds_self_of_lt (by rw [markA_size]; omega)]
    · rw [Array.getElem?_setIfInBounds_ne (by omega)]
      exact markA_get cur k0 m (by omega) j (by omega)
theorem row_some {w : World} {g : Nat} {cur : Array Value} {T : TypeId} (h : w.heap[g]? = some (.cells cur T (0, 0))) {j : Nat} (hj : j < cur.size) : ∃ v, w.cell? ⟨g, j, none⟩ = some v := by
  rw [cell_of_row _ _ j _ _ _ h]
  exact ⟨cur[j], by simp [hj]⟩
theorem mark_step {w : World} {g m : Nat} {cur : Array Value} {T : TypeId} {k0 v : Int} (h : w.heap[g]? = some (.cells (markA cur k0 m) T (0, 0))) (hv : v = k0 + (m : Nat)) : (w.setCell ⟨g, m, none⟩ (.int .i64 v)).heap[g]? = some (.cells (markA cur k0 (m + 1)) T (0, 0)) := by
  rw [heap_setCell_same _ _ _ _ _ _ h, hv]
  rfl
theorem grown_set (W : World) (g i : Nat) (v : Value) : W.grownBy (W.setCell ⟨g, i, none⟩ v) (some g) :=
  ⟨rfl, rfl, rfl, by simp [World.setCell], fun b _ hne => heap_setCell_other W ⟨g, i, none⟩ b v (fun e => hne (by rw [e]))⟩
theorem grown_trans {w w1 w2 : World} {g : Nat} (h1 : w.grownBy w1 (some g)) (h2 : w1.grownBy w2 (some g)) : w.grownBy w2 (some g) :=
  ⟨h2.os.trans h1.os, h2.tape.trans h1.tape, h2.output.trans h1.output, Nat.le_trans h1.size h2.size, fun b hb hne => (h2.block b (Nat.lt_of_lt_of_le hb h1.size) hne).trans (h1.block b hb hne)⟩
theorem grown_refl (w : World) (g : Nat) : w.grownBy w (some g) := ⟨rfl, rfl, rfl, Nat.le_refl _, fun _ _ _ => rfl⟩

end Go.Proofs.Ytchdcifhccjheaa

namespace Go.Proofs.Ytchdcifhccjheaa
open Go.RowKit

set_option maxHeartbeats 1000000 in
theorem markInt64S_any (g n cap : Nat) (k0 : Int) (cur : Array Value) (T : TypeId) (w : World) (hrow0 : w.heap[g]? = some (.cells cur T (0, 0))) (hn : n ≤ cur.size) (h0 : 0 ≤ k0) (h1 : k0 ≤ 1000000000000) (hn1 : n ≤ 10000000) :
    Calls Try.prog 34 #[.slice (some ⟨g, 0, none⟩) n cap, .int .i64 k0] w fun e w' => e = .returned (.int .i64 (k0 + ((n : Nat) : Int))) ∧ w.grownBy w' (some g) ∧ w'.heap[g]? = some (.cells (markA cur k0 (n)) T (0, 0)) := by
  have HR0 : Hid (w.heap[g]? = some (.cells cur T (0, 0))) := hrow0
  clear hrow0
  go_enter Try.func34, Try.ntmps34
  go_wp2_with fail
  go_loopw [1, 5] (fun kk t wr => ∃ k : Nat, k ≤ n ∧ t = .int .i64 k ∧ kk = .int .i64 (k0 + ((k : Nat) : Int)) ∧ w.grownBy wr (some g) ∧ wr.heap[g]? = some (.cells (markA cur k0 (k)) T (0, 0))) (fun _ t _ => n - (intOf t).toNat)
  case atStart => exact ⟨0, Nat.zero_le _, rfl, by simp, grown_refl _ _, HR0.out⟩
  case round =>
    obtain ⟨k, hk, rfl, rfl, hg, hrow⟩ := hrel
    have HG : Hid (w.grownBy wr (some g)) := hg
    clear hg
    obtain ⟨K, HK⟩ : ∃ t, Hid (k0 + ((k : Nat) : Int) = t) := ⟨_, rfl⟩
    have hkb : 0 ≤ K ∧ K ≤ 1000100000000 := by
      have := HK.out
      omega
    rw [HK.out]
    by_cases hlt : k < n
    · have fz := fun i => frozen_of_row _ _ i _ _ hrow
      obtain ⟨z0, y0⟩ := row_some hrow (j := k) (by rw [markA_size]; omega)
      have HROW : Hid ((World.heap (World.setCell wr ⟨g, k, none⟩ (Value.int IntKind.i64 K)))[g]? = some (.cells (markA cur k0 ((k + 1))) T (0, 0))) := by
        show _ = _
        exact (mark_step hrow (by have := HK.out; omega))
      have HGR : Hid (w.grownBy (World.setCell wr ⟨g, k, none⟩ (Value.int IntKind.i64 K)) (some g)) := (grown_trans HG.out (grown_set _ _ _ _))
      have HK1 : Hid (k0 + (((k + 1) : Nat) : Int) = K + 1) := by
        show _ = _
        have := HK.out
        omega
      clear hrow
      go_wp2
      go_roundw
      case rel => exact ⟨k + 1, by omega, by go_num, by first | (rw [HK1.out]; go_num) | rw [HK1.out], HGR.out, HROW.out⟩
      case measure => simp [intOf]; omega
    · have hkl : k = n := by omega
      subst hkl
      have HROW : Hid (wr.heap[g]? = _) := hrow
      clear hrow
      go_wp2
      go_ret
      exact ⟨ret_int HK.out.symm, HG.out, HROW.out⟩

set_option maxHeartbeats 400000 in
theorem markInt64S_nil (a : Option Addr) (cap : Nat) (k0 : Int) (w : World) :
    Calls Try.prog 34 #[.slice a 0 cap, .int .i64 k0] w fun e w' => e = .returned (.int .i64 k0) ∧ w' = w := by
  go_enter Try.func34, Try.ntmps34
  go_wp2_with fail
  go_loop [1, 5] (fun kk t => t = .int .i64 0 ∧ kk = .int .i64 k0) (fun _ _ => 0)
  case atStart => exact ⟨rfl, rfl⟩
  case round =>
    obtain ⟨rfl, rfl⟩ := hrel
    go_wp2
    go_ret
    exact ⟨rfl, rfl⟩

end Go.Proofs.Ytchdcifhccjheaa

namespace Go.Proofs.Ytchdcifhccjheaa
open Go.RowKit

set_option maxHeartbeats 1000000 in
theorem heldInt64S_any (g n cap : Nat) (k0 : Int) (w : World) (hc : ∀ j, j < n → w.cell? ⟨g, j, none⟩ = some (.int .i64 (k0 + (j : Nat)))) (h0 : 0 ≤ k0) (h1 : k0 ≤ 1000000000000) (hn1 : n ≤ 10000000) :
    Calls Try.prog 35 #[.slice (some ⟨g, 0, none⟩) n cap, .int .i64 k0] w fun e w' => e = .returned (.int .i64 (k0 + ((n : Nat) : Int))) ∧ w' = w := by
  have HC : Hid (∀ j, j < n → w.cell? ⟨g, j, none⟩ = some (.int .i64 (k0 + (j : Nat)))) := hc
  clear hc
  go_enter Try.func35, Try.ntmps35
  go_wp2_with fail
  go_loop [1, 5] (fun kk t => ∃ k : Nat, k ≤ n ∧ t = .int .i64 k ∧ kk = .int .i64 (k0 + ((k : Nat) : Int))) (fun _ t => n - (intOf t).toNat)
  case atStart => exact ⟨0, Nat.zero_le _, rfl, by simp⟩
  case round =>
    obtain ⟨k, hk, rfl, rfl⟩ := hrel
    obtain ⟨K, HK⟩ : ∃ t, Hid (k0 + ((k : Nat) : Int) = t) := ⟨_, rfl⟩
    have hkb : 0 ≤ K ∧ K ≤ 1000100000000 := by
      have := HK.out
      omega
    rw [HK.out]
    by_cases hlt : k < n
    · have HK1 : Hid (k0 + (((k + 1) : Nat) : Int) = K + 1) := by
        show _ = _
        have := HK.out
        omega
      have y0 := HC.out (k) (by omega)
      rw [show k0 + (((k : Nat)) : Int) = K by have := HK.out; omega] at y0
      go_wp2
      go_round
      case rel => exact ⟨k + 1, by omega, by go_num, by first | (rw [HK1.out]; go_num) | rw [HK1.out]⟩
      case measure => simp [intOf]; omega
    · have hkl : k = n := by omega
      subst hkl
      go_wp2
      go_ret
      exact ⟨ret_int HK.out.symm, rfl⟩

set_option maxHeartbeats 400000 in
theorem heldInt64S_nil (a : Option Addr) (cap : Nat) (k0 : Int) (w : World) :
    Calls Try.prog 35 #[.slice a 0 cap, .int .i64 k0] w fun e w' => e = .returned (.int .i64 k0) ∧ w' = w := by
  go_enter Try.func35, Try.ntmps35
  go_wp2_with fail
  go_loop [1, 5] (fun kk t => t = .int .i64 0 ∧ kk = .int .i64 k0) (fun _ _ => 0)
  case atStart => exact ⟨rfl, rfl⟩
  case round =>
    obtain ⟨rfl, rfl⟩ := hrel
    go_wp2
    go_ret
    exact ⟨rfl, rfl⟩

end Go.Proofs.Ytchdcifhccjheaa

namespace Go.Proofs.Ytchdcifhccjheaa
open Go.RowKit

/-- A slice of numbers that was marked from 1 on. -/
def Marked1 (W : World) (ad : Option Addr) (K : Nat) : Prop := K = 0 ∨ ∃ g, ad = some ⟨g, 0, none⟩ ∧ g < W.heap.size ∧ ∀ j, j < K → W.cell? ⟨g, j, none⟩ = some (.int .i64 (1 + (j : Nat)))
theorem Marked1.below {W W' : World} {ad : Option Addr} {K : Nat} (h : Marked1 W ad K) (hb : Below W.heap.size W W') : Marked1 W' ad K := by
  rcases h with h | ⟨g, h1, h2, h3⟩
  · exact .inl h
  · exact .inr ⟨g, h1, Nat.lt_of_lt_of_le h2 hb.size, fun j hj => (hb.cell (p := ⟨g, j, none⟩) h2).trans (h3 j hj)⟩
theorem heldI_u (ad : Option Addr) (K c : Nat) (w : World) (hm : Marked1 w ad K) (hK : K ≤ 1000) :
    Calls Try.prog 35 #[.slice ad K c, .int .i64 1] w fun e w' => e = .returned (.int .i64 (1 + (K : Int))) ∧ w' = w := by
  rcases hm with rfl | ⟨g, rfl, _, hc⟩
  · exact (heldInt64S_nil ad c 1 w).mono fun e w' ⟨h1, h2⟩ => ⟨h1, h2⟩
  · exact heldInt64S_any g K c 1 w hc (by omega) (by omega) (by omega)


theorem markI_o (ad : Option Addr) (K c base : Nat) (xs : List Int) (w : World) (ho : w.ownsRow base 2 1 (.slice ad K c) K (xs.map (Value.int .i64))) (hK : K ≤ 1000) :
    Calls Try.prog 34 #[.slice ad K c, .int .i64 1] w fun e w' => e = .returned (.int .i64 (1 + (K : Int))) ∧ w.grownBy w' (Value.slice ad K c).ownBlock ∧ Marked1 w' ad K := by
  obtain ⟨h1, ⟨h2, rfl⟩ | ⟨g, cap, cur, h2, h3, h4, h5, _, h7, _⟩⟩ := ho
  · refine (markInt64S_nil ad c 1 w).mono ?_
    rintro e w' ⟨rfl, rfl⟩
    exact ⟨rfl, ⟨rfl, rfl, rfl, Nat.le_refl _, fun _ _ _ => rfl⟩, .inl rfl⟩
  · simp only [Value.slice.injEq] at h2
    obtain ⟨rfl, _, rfl⟩ := h2
    have hsz : K ≤ cur.size := by rw [h7]; omega
    refine (markInt64S_any g K c 1 cur _ w h4 hsz (by omega) (by omega) (by omega)).mono ?_
    rintro e w' ⟨rfl, hg, hr⟩
    refine ⟨rfl, hg, .inr ⟨g, rfl, row_lt hr, fun j hj => ?_⟩⟩
    rw [cell_of_row _ _ j _ _ _ hr]
    exact markA_get cur 1 K hsz j hj
theorem ints_grown {W W' : World} {a : Option Addr} {xs : List Int} {row : Option Nat} (h : IntsAt W a xs) (hg : W.grownBy W' row) (hne : ∀ b, (Value.slice a 0 0).ownBlock = some b → some b ≠ row) : IntsAt W' a xs := by
  intro j hj
  obtain ⟨b, off, rfl, hc⟩ := h j hj
  exact ⟨b, off, rfl, hg.cell hc (hne b rfl)⟩
theorem own_block_any (a : Option Addr) (n c n' c' : Nat) : (Value.slice a n c).ownBlock = (Value.slice a n' c').ownBlock := by cases a <;> rfl

end Go.Proofs.Ytchdcifhccjheaa

namespace Go.Proofs.Ytchdcifhccjheaa
open Go.RowKit

theorem grown_ahead {w w1 w2 : World} {r : Option Nat} (hb : Below w.heap.size w w1) (hg : w1.grownBy w2 r) : w.grownBy w2 r :=
  ⟨hg.os.trans hb.os, hg.tape.trans hb.tape, hg.output.trans hb.output, Nat.le_trans hb.size hg.size, fun k hk hne => (hg.block k (Nat.lt_of_lt_of_le hk hb.size) hne).trans (hb.block k hk)⟩

set_option maxHeartbeats 400000 in
theorem markMatX (n : Int) (g cap : Nat) (zs : List Int) (w : World) (hrow : w.heap[g]? = some (.cells (cellsOf zs) 2 (0, 0))) (hl : zs.length ≤ 1048576) :
    Calls Try.prog 19 #[.agg #[.int .i64 n, .slice (some ⟨g, 0, none⟩) zs.length cap], .int .i64 1] w fun e w' => e = .returned (.int .i64 (1 + (zs.length : Int))) ∧ w.grownBy w' (some g) := by
  have HB0 : Hid (Below w.heap.size w (w.alloc (Obj.cells #[Value.int IntKind.i64 n, Value.slice (some ⟨g, 0, none⟩) zs.length cap] 26))) := (Below.refl _ _).alloc (Nat.le_refl _) _
  have HR : Hid (w.heap[g]? = _) := hrow
  clear hrow
  go_enter Try.func19, Try.ntmps19
  go_wp2_with fail
  refine (markInt64S_any g zs.length cap 1 (cellsOf zs) _ _ (below_row HB0.out (row_lt HR.out) HR.out) (by rw [cellsOf_size]; exact Nat.le_refl _) (by omega) (by omega) (by omega)).mono ?_
  rintro e w1 ⟨rfl, hg, _⟩
  have HG : Hid (w.grownBy w1 (some g)) := grown_ahead HB0.out hg
  clear hg
  go_wp2
  go_ret
  exact ⟨rfl, HG.out⟩

set_option maxHeartbeats 400000 in
theorem markMatO (n : Int) (ad : Option Addr) (K c base : Nat) (xs : List Int) (w : World) (ho : w.ownsRow base 2 1 (.slice ad K c) K (xs.map (Value.int .i64))) (hK : K ≤ 1000) :
    Calls Try.prog 19 #[.agg #[.int .i64 n, .slice ad K c], .int .i64 1] w fun e w' => e = .returned (.int .i64 (1 + (K : Int))) ∧ w.grownBy w' (Value.slice ad K c).ownBlock ∧ Marked1 w' ad K := by
  have HB0 : Hid (Below w.heap.size w (w.alloc (Obj.cells #[Value.int IntKind.i64 n, Value.slice ad K c] 26))) := (Below.refl _ _).alloc (Nat.le_refl _) _
  have HO : Hid (w.ownsRow base 2 1 (.slice ad K c) K (xs.map (Value.int .i64))) := ho
  clear ho
  go_enter Try.func19, Try.ntmps19
  go_wp2_with fail
  refine (markI_o ad K c base xs _ (owns_below HO.out HB0.out) hK).mono ?_
  rintro e w1 ⟨rfl, hg, hm⟩
  have HG : Hid (w.grownBy w1 (Value.slice ad K c).ownBlock) := grown_ahead HB0.out hg
  have HM : Hid (Marked1 w1 ad K) := hm
  clear hg hm
  go_wp2
  go_ret
  exact ⟨rfl, HG.out, HM.out⟩

set_option maxHeartbeats 400000 in
theorem heldMatU (n : Int) (ad : Option Addr) (K c : Nat) (w : World) (hm : Marked1 w ad K) (hK : K ≤ 1000) :
    Calls Try.prog 20 #[.agg #[.int .i64 n, .slice ad K c], .int .i64 1] w fun e w' => e = .returned (.int .i64 (1 + (K : Int))) ∧ Below w.heap.size w w' := by
  have HB0 : Hid (Below w.heap.size w (w.alloc (Obj.cells #[Value.int IntKind.i64 n, Value.slice ad K c] 26))) := (Below.refl _ _).alloc (Nat.le_refl _) _
  have HM : Hid (Marked1 w ad K) := hm
  clear hm
  go_enter Try.func20, Try.ntmps20
  go_wp2_with fail
  refine (heldI_u ad K c _ (HM.out.below HB0.out) hK).mono ?_
  rintro e w1 ⟨rfl, hw⟩
  subst w1
  go_wp2
  go_ret
  exact ⟨rfl, HB0.out⟩

end Go.Proofs.Ytchdcifhccjheaa
