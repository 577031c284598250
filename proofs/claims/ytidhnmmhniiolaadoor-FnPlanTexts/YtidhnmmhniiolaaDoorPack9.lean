import Derived.Test.YtidhnmmhniiolaaDoorPack0
import Derived.Test.YtidhnmmhniiolaaDoorPack1
import Derived.WalkKit
import Derived.Deep.RegionLaw
namespace Go.Proofs.YtidhnmmhniiolaaDoor
open Go.RowKit

theorem grown_row {w w' : World} {row : Option Nat} {k : Nat} {o : Obj} (hg : w.grownBy w' row) (h : w.heap[k]? = some o) (hne : some k ≠ row) : w'.heap[k]? = some o := (hg.block k (row_lt h) hne).trans h

/-- What is owned of a row of numbers lies there. -/
theorem owns_ints {w : World} {base size g n cap : Nat} {e : TypeId} {zs : List Int} (h : w.ownsRow base e size (.slice (some ⟨g, 0, none⟩) n cap) n (zs.map (Value.int .i64))) : IntsAt w (some ⟨g, 0, none⟩) zs := by
  intro j hj
  refine ⟨g, 0, rfl, ?_⟩
  have := h.cells (g := g) rfl j (.int .i64 (zs.getD j 0)) (by simp [List.getD, hj])
  have hadd : (⟨g, 0, none⟩ : Addr).add j = ⟨g, 0 + j, none⟩ := by unfold Addr.add; split <;> simp_all
  rw [hadd] at this
  exact this

theorem owns_below {w w' : World} {base size n : Nat} {e : TypeId} {v : Value} {xs : List Value} (h : w.ownsRow base e size v n xs) (hb : Below w.heap.size w w') : w'.ownsRow base e size v n xs := by
  obtain ⟨h1, h2 | ⟨g, cap, cur, h2, h3, h4, h5⟩⟩ := h
  · exact ⟨h1, .inl h2⟩
  · exact ⟨h1, .inr ⟨g, cap, cur, h2, h3, below_row hb (row_lt h4) h4, h5⟩⟩

theorem own_some {w : World} {base k : Nat} {v : Value} {e : TypeId} {size : Nat} {xs : List Value} (h : w.ownsRow base e size v (k + 1) xs) : ∃ g c, v = .slice (some ⟨g, 0, none⟩) (k + 1) c ∧ base ≤ g := by
  obtain ⟨_, ⟨_, h2⟩ | ⟨g, cap, cur, h2, h3, _⟩⟩ := h
  · omega
  · exact ⟨g, cap, h2, h3⟩
theorem own_shape {w : World} {base k : Nat} {v : Value} {e : TypeId} {size : Nat} {xs : List Value} (h : w.ownsRow base e size v k xs) : v = .slice none 0 0 ∨ ∃ g c, v = .slice (some ⟨g, 0, none⟩) k c := by
  obtain ⟨_, ⟨h1, _⟩ | ⟨g, cap, cur, h2, _⟩⟩ := h
  · exact .inl h1
  · exact .inr ⟨g, cap, h2⟩
theorem owns_base {w : World} {base b0 k : Nat} {v : Value} {e : TypeId} {size : Nat} {xs : List Value} (h : w.ownsRow base e size v k xs) (hb : b0 ≤ base) : w.ownsRow b0 e size v k xs := by
  obtain ⟨h0, h1 | ⟨g, cap, cur, h2, h3, h4⟩⟩ := h
  · exact ⟨h0, .inl h1⟩
  · exact ⟨h0, .inr ⟨g, cap, cur, h2, Nat.le_trans hb h3, h4⟩⟩
theorem owns_set {w : World} {base k b i : Nat} {v u : Value} {e : TypeId} {size : Nat} {xs : List Value} (h : w.ownsRow base e size v k xs) (hb : b < base) : (w.setCell ⟨b, i, none⟩ u).ownsRow base e size v k xs := ownsRow_setCell_below h hb u
theorem owns_at1 {w : World} {base n : Nat} {e : TypeId} {sl : Value} {xs : List Int} (h : w.ownsRow base e 1 sl n (xs.map (Value.int .i64))) : ∃ a c, sl = .slice a xs.length c ∧ xs.length = n ∧ IntsAt w a xs := by
  obtain ⟨h1, ⟨rfl, h2⟩ | ⟨g, cap, cur, rfl, h3, h4, h5⟩⟩ := id h
  · subst h2
    have : xs = [] := by simpa using h1
    subst this
    exact ⟨none, 0, rfl, rfl, fun j hj => by simp at hj⟩
  · have hl : xs.length = n := by simpa using h1
    exact ⟨_, _, by rw [hl], hl, owns_ints h⟩

theorem cell_new1 (W : World) (v : Value) (T : TypeId) (g : Nat) (hg : W.heap.size = g) : (W.alloc (.cells #[v] T)).cell? ⟨g, 0, none⟩ = some v := by
  subst hg
  rw [cell_of_row _ _ 0 _ _ _ (heap_alloc_new W (.cells #[v] T))]
  simp
theorem one_cell {w : World} {ad : Addr} {x0 : Value} (hc : w.cell? ad = some x0) : ∀ j u, [x0][j]? = some u → w.cell? (ad.add j) = some u := by
  intro j u hu
  have hj : j = 0 := by
    rcases j with _ | j
    · rfl
    · simp at hu
  subst hj
  have : ad.add 0 = ad := by unfold Addr.add; split <;> simp_all
  rw [this, hc]
  simpa using hu
theorem append_int (w : World) {ops : Array Oper} {rest : List Oper} {o : Oper} {a : Act} {Q : Exit → Act → World → Prop}
    (hg : o.guard = none) (s x : Operand) (hop : o.op = Op.call { callee := Callee.builtin Builtin.append, args := #[s, x], argTypes := #[25, 25] })
    (base : Nat) (v : Value) (k : Nat) (xs : List Value) (hs : a.eval s = v) (hown : w.ownsRow base 2 1 v k xs) (ad : Addr) (c : Nat) (x0 : Value) (hx : a.eval x = .slice (some ad) 1 c)
    (hc : w.cell? ad = some x0) (h1c : x0.oneCell' = true) (b1 : k ≤ 1000) (hb : base ≤ w.heap.size)
    (hK : ∀ v' w', w'.ownsRow base 2 1 v' (k + 1) (xs ++ [x0]) → w.grownBy w' v.ownBlock → wpList Tryd.prog ops Q rest (a.put o.dst v') w') :
    wpList Tryd.prog ops Q (o :: rest) a w := by
  obtain ⟨i0, hi, hz0, hz1, hz2⟩ := info_parts Tryd.info2
  exact wpList_append_own w hg s x _ hop base _ i0 _ 1 8 Tryd.underlying25 hi hz0 hz1 hz2 rfl (by decide) v k xs hs hown ad 1 c [x0] hx rfl (one_cell hc) (by simpa using h1c) (by unfold maxLen; omega) (by omega) hb (fun v' w' h1 h2 _ => hK v' w' h1 h2)

/-- 'append' of a number to a slice of the call's own, as a step of a region that draws. -/
theorem step_append_int {ops : Array Oper} {o : Oper} {a : Act} {w : World} {K : Act → World → Prop} {Q : Exit → Act → World → Prop} {E : Prop}
    (hg : o.guard = none) (s x : Operand) (hop : o.op = Op.call { callee := Callee.builtin Builtin.append, args := #[s, x], argTypes := #[25, 25] })
    (base : Nat) (v : Value) (k : Nat) (xs : List Value) (hs : a.eval s = v) (hown : w.ownsRow base 2 1 v k xs) (ad : Addr) (c : Nat) (x0 : Value) (hx : a.eval x = .slice (some ad) 1 c)
    (hc : w.cell? ad = some x0) (h1c : x0.oneCell' = true) (b1 : k ≤ 1000) (hb : base ≤ w.heap.size)
    (hK : ∀ v' w', w'.ownsRow base 2 1 v' (k + 1) (xs ++ [x0]) → w.grownBy w' v.ownBlock → K (a.put o.dst v') w') :
    if Region.wanted o (yielded ops a.tmps) = true then Oper.wp Tryd.prog o a w K Q else E := by
  have hw : Region.wanted o (yielded ops a.tmps) = true := by simp [Region.wanted, hg]
  rw [if_pos hw]
  obtain ⟨i0, hi, hz0, hz1, hz2⟩ := info_parts Tryd.info2
  obtain ⟨v', w', hrun, r1, r2, _⟩ := run_append_own (P := Tryd.prog) w base 25 o.type _ i0 _ 1 8 Tryd.underlying25 hi hz0 hz1 hz2 rfl (by decide) v k xs hown ad 1 c [x0] rfl (one_cell hc) (by simpa using h1c) (by unfold maxLen; omega) (by omega) hb
  unfold Oper.wp
  simp [execOp, hop, resolve, invoke, builtin, hs, hx, hrun, Result.andThen]
  exact hK _ _ r1 r2

end Go.Proofs.YtidhnmmhniiolaaDoor

namespace Go.Proofs.YtidhnmmhniiolaaDoor
open Go.RowKit

/-- Where an append to a slice of the call's own ends: in the row that was, or in a new block. -/
theorem append_block {P : Program} (w : World) (base : Nat) (t ty e : TypeId) (i : TypeInfo) (z : Value) (size bytes : Nat) (ht : P.underlying t = some (.slice e)) (hi : P.info? e = some i) (hz : i.zero = some z)
    (hsize : i.size = size) (hby : i.bytes = bytes) (v : Value) (n : Nat) (xs : List Value) (hown : w.ownsRow base e size v n xs)
    (a : Addr) (m c : Nat) (news : List Value) (hl : news.length = m * size) (hnews : ∀ j u, news[j]? = some u → w.cell? (a.add j) = some u) (h1 : ∀ u ∈ news, u.oneCell' = true)
    (h63 : n + m ≤ maxLen) (hbytes : (n + m) * bytes ≤ 140737488355328) {v' : Value} {w' : World} (hrun : (Builtin.append_ #[t, t] ty #[v, .slice (some a) m c]).run P w = .ok v' w') : v'.ownBlock = v.ownBlock ∨ v'.ownBlock = some w.heap.size := by
  subst hsize
  subst hby
  have hsmall : n + m ≤ 9223372036854775807 := by simp only [maxLen] at h63; omega
  rcases hown.2 with ⟨rfl, rfl⟩ | ⟨g, cap, cur, rfl, hbg, hg, hnc, hcm, hcs, htake⟩
  · by_cases hm : m = 0
    · subst hm
      have hn : news = [] := List.eq_nil_of_length_eq_zero (by simpa using hl)
      subst hn
      simp [Builtin.append_, run_underlying ht, sizeOf, typeInfo, hi, Builtin.lenOf, Builtin.firstCells, loadCells, loadCellsFrom] at hrun
      rw [← hrun.1]
      exact .inl rfl
    · have hr := run_append_nil (P := P) w t ty e i z ht hi hz a m c news hl hnews (by omega) (by omega) (by have hb := hbytes; simp only [Nat.zero_add] at hb; omega)
      rw [hr] at hrun
      injection hrun with e1 e2
      rw [← e1]
      exact .inr rfl
  · by_cases hroom : n + m ≤ cap
    · have hfit : n * i.size + news.length ≤ cur.size := by rw [hl, hcs, ← Nat.add_mul]; exact Nat.mul_le_mul_right _ hroom
      have hr := run_append_room (P := P) w t ty e i ht hi g n cap cur hg a m c news hl hnews h1 hroom hfit
      rw [hr] at hrun
      injection hrun with e1 e2
      rw [← e1]
      exact .inl rfl
    · have holds : ∀ j u, xs[j]? = some u → w.cell? ((⟨g, 0, none⟩ : Addr).add j) = some u := hown.cells (g := g) rfl
      have hr := run_append_grow (P := P) w t ty e i z ht hi hz ⟨g, 0, none⟩ n cap xs hown.1 holds a m c news hl hnews (by omega) (by omega) (growslice_fits (by omega) hbytes)
      rw [hr] at hrun
      injection hrun with e1 e2
      rw [← e1]
      exact .inr rfl

theorem exec_append' {P : Program} {o : Oper} {a : Act} {w w' : World} {v : Value} (s x : Operand) (t : TypeId) (vs vx : Value) (ho : o.op = .call { callee := .builtin .append, args := #[s, x], argTypes := #[t, t] })
    (hs : a.eval s = vs) (hx : a.eval x = vx) (hr : (Builtin.append_ #[t, t] o.type #[vs, vx]).run P w = .ok v w') : (execOp a.eval o).run P w = .ok (.value v) w' := by
  unfold execOp
  simp only [ho, resolve, invoke, builtin, Sem.run_bind, Sem.run_pure, Result.andThen_ok, List.map_toArray, List.map_cons, List.map_nil, hs, hx, hr]

/-- 'append' of numbers to a slice of the call's own. -/
theorem append_many (w : World) {ops : Array Oper} {rest : List Oper} {o : Oper} {a : Act} {Q : Exit → Act → World → Prop}
    (hg : o.guard = none) (s x : Operand) (hop : o.op = Op.call { callee := Callee.builtin Builtin.append, args := #[s, x], argTypes := #[25, 25] })
    (base : Nat) (v : Value) (k : Nat) (xs : List Int) (hs : a.eval s = v) (hown : w.ownsRow base 2 1 v k (xs.map (Value.int .i64))) (b off m c : Nat) (ys : List Int) (hx : a.eval x = .slice (some ⟨b, off, none⟩) m c)
    (hy : ys.length = m) (hc : IntsAt w (some ⟨b, off, none⟩) ys) (b1 : k ≤ 1000) (b2 : m ≤ 1000) (hb : base ≤ w.heap.size)
    (hK : ∀ v' w', w'.ownsRow base 2 1 v' (k + m) ((xs ++ ys).map (Value.int .i64)) → w.grownBy w' v.ownBlock → (v'.ownBlock = v.ownBlock ∨ v'.ownBlock = some w.heap.size) → (v' = .slice none 0 0 ↔ v = .slice none 0 0 ∧ m = 0) → wpList Tryd.prog ops Q rest (a.put o.dst v') w') :
    wpList Tryd.prog ops Q (o :: rest) a w := by
  obtain ⟨i0, hi, hz0, hz1, hz2⟩ := info_parts Tryd.info2
  have hnews : ∀ j u, (ys.map (Value.int .i64))[j]? = some u → w.cell? ((⟨b, off, none⟩ : Addr).add j) = some u := by
    intro j u hu
    have hj : j < ys.length := by
      rcases Nat.lt_or_ge j ys.length with h' | h'
      · exact h'
      · simp [List.getElem?_eq_none (by simpa using h' : (ys.map (Value.int .i64)).length ≤ j)] at hu
    obtain ⟨b', off', e, hcc⟩ := hc j hj
    simp at e
    obtain ⟨rfl, rfl⟩ := e
    have hadd : (⟨b, off, none⟩ : Addr).add j = ⟨b, off + j, none⟩ := by unfold Addr.add; split <;> simp_all
    rw [hadd, hcc, ← hu]
    simp [List.getD, hj]
  have h1c : ∀ u ∈ ys.map (Value.int .i64), u.oneCell' = true := by simp [Value.oneCell']
  obtain ⟨v', w', hrun, r1, r2, r3⟩ := run_append_own (P := Tryd.prog) w base 25 o.type _ i0 _ 1 8 Tryd.underlying25 hi hz0 hz1 hz2 rfl (by decide) v k (xs.map (Value.int .i64)) hown ⟨b, off, none⟩ m c (ys.map (Value.int .i64)) (by simp [hy]) hnews h1c (by unfold maxLen; omega) (by omega) hb
  have r4 := append_block (P := Tryd.prog) w base 25 o.type _ i0 _ 1 8 Tryd.underlying25 hi hz0 hz1 hz2 v k (xs.map (Value.int .i64)) hown ⟨b, off, none⟩ m c (ys.map (Value.int .i64)) (by simp [hy]) hnews h1c (by unfold maxLen; omega) (by omega) hrun
  exact wpList_run v' hg (exec_append' s x _ v _ hop hs hx hrun) (hK v' w' (by rw [List.map_append]; exact r1) r2 r4 r3)

end Go.Proofs.YtidhnmmhniiolaaDoor

namespace Go.Proofs.YtidhnmmhniiolaaDoor
open Go.RowKit

/-- 'append' of numbers whose address is not written out. -/
theorem append_more (w : World) {ops : Array Oper} {rest : List Oper} {o : Oper} {a : Act} {Q : Exit → Act → World → Prop}
    (hg : o.guard = none) (s x : Operand) (hop : o.op = Op.call { callee := Callee.builtin Builtin.append, args := #[s, x], argTypes := #[25, 25] })
    (base : Nat) (v : Value) (k : Nat) (xs : List Int) (hs : a.eval s = v) (hown : w.ownsRow base 2 1 v k (xs.map (Value.int .i64))) (ad : Option Addr) (m c : Nat) (ys : List Int) (hx : a.eval x = .slice ad m c)
    (had : ∃ b off, ad = some ⟨b, off, none⟩) (hy : ys.length = m) (hc : IntsAt w ad ys) (b1 : k ≤ 1000) (b2 : m ≤ 1000) (hb : base ≤ w.heap.size)
    (hK : ∀ v' w', w'.ownsRow base 2 1 v' (k + m) ((xs ++ ys).map (Value.int .i64)) → w.grownBy w' v.ownBlock → (v'.ownBlock = v.ownBlock ∨ v'.ownBlock = some w.heap.size) → (v' = .slice none 0 0 ↔ v = .slice none 0 0 ∧ m = 0) → wpList Tryd.prog ops Q rest (a.put o.dst v') w') :
    wpList Tryd.prog ops Q (o :: rest) a w := by
  obtain ⟨b, off, rfl⟩ := had
  exact append_many w hg s x hop base v k xs hs hown b off m c ys hx hy hc b1 b2 hb hK
theorem ints_take' {W : World} {a : Option Addr} {ids : List Int} (h : IntsAt W a ids) (i : Nat) : IntsAt W a (ids.take i) := by
  intro j hj
  have hj' : j < ids.length ∧ j < i := by rw [List.length_take] at hj; omega
  obtain ⟨b, off, e, hc⟩ := h j hj'.1
  refine ⟨b, off, e, ?_⟩
  rw [hc, List.getD_eq_getElem?_getD, List.getD_eq_getElem?_getD, List.getElem?_take, if_pos hj'.2]
theorem ints_drop' {W : World} {b off : Nat} {ids : List Int} (h : IntsAt W (some ⟨b, off, none⟩) ids) (i : Nat) : IntsAt W (some ⟨b, off + i, none⟩) (ids.drop i) := by
  intro j hj
  have hj' : i + j < ids.length := by rw [List.length_drop] at hj; omega
  obtain ⟨b', off', e, hc⟩ := h (i + j) hj'
  simp at e
  obtain ⟨rfl, rfl⟩ := e
  refine ⟨b, off + i, rfl, ?_⟩
  rw [Nat.add_assoc, hc, List.getD_eq_getElem?_getD, List.getD_eq_getElem?_getD, List.getElem?_drop]
theorem ints_cut' {W : World} {b off : Nat} {ids : List Int} (h : IntsAt W (some ⟨b, off, none⟩) ids) (i c2 : Nat) (hc : ids.length ≤ c2) : IntsAt W (if c2 = i then some ⟨b, off, none⟩ else some ⟨b, off + i, none⟩) (ids.drop i) := by
  by_cases e : c2 = i
  · have : ids.drop i = [] := List.drop_eq_nil_of_le (by omega)
    rw [this]
    intro j hj
    simp at hj
  · rw [if_neg e]; exact ints_drop' h i
theorem cut_some' (b off i c2 : Nat) : ∃ b' off', (if c2 = i then some (⟨b, off, none⟩ : Addr) else some ⟨b, off + i, none⟩) = some ⟨b', off', none⟩ := by
  by_cases e : c2 = i
  · exact ⟨b, off, if_pos e⟩
  · exact ⟨b, off + i, if_neg e⟩
theorem cut0_some (g i c2 : Nat) : ∃ b' off', (if c2 = i then some (⟨g, 0, none⟩ : Addr) else some ⟨g, i, none⟩) = some ⟨b', off', none⟩ := by
  have := cut_some' g 0 i c2
  rwa [Nat.zero_add] at this
theorem ints_cut0 {W : World} {g : Nat} {ids : List Int} (h : IntsAt W (some ⟨g, 0, none⟩) ids) (i c2 : Nat) (hc : ids.length ≤ c2) : IntsAt W (if c2 = i then some ⟨g, 0, none⟩ else some ⟨g, i, none⟩) (ids.drop i) := by
  have := ints_cut' h i c2 hc
  rwa [Nat.zero_add] at this
theorem own_sm {w : World} {base k : Nat} {v : Value} {e : TypeId} {size : Nat} {xs : List Value} (h : w.ownsRow base e size v k xs) (hne : v ≠ .slice none 0 0) : ∃ g c, v = .slice (some ⟨g, 0, none⟩) k c := by
  rcases own_shape h with e | e
  · exact absurd e hne
  · exact e
theorem own_cap {w : World} {base k g c : Nat} {e : TypeId} {size : Nat} {xs : List Value} (h : w.ownsRow base e size (.slice (some ⟨g, 0, none⟩) k c) k xs) : k ≤ c := by
  obtain ⟨_, ⟨h1, _⟩ | ⟨g', cap, cur, h2, _, _, h3, _⟩⟩ := h
  · cases h1
  · injection h2 with e1 e2 e3
    omega
theorem not_nil {v v' : Value} {m : Nat} (h : v' = .slice none 0 0 ↔ v = .slice none 0 0 ∧ m = 0) (hv : ∃ g n c, v = .slice (some ⟨g, 0, none⟩) n c) : v' ≠ .slice none 0 0 := by
  intro e
  obtain ⟨g, n, c, rfl⟩ := hv
  have := (h.1 e).1
  simp at this
theorem ints_new1 (W : World) (x : Int) : IntsAt (W.alloc (.cells #[.int .i64 x] 2)) (some ⟨W.heap.size, 0, none⟩) [x] := by
  intro j hj
  have : j = 0 := by simpa using hj
  subst this
  exact ⟨_, _, rfl, cell_new1 W _ _ _ rfl⟩
theorem owns_ints' {w : World} {base g n cap : Nat} {e : TypeId} {zs : List Int} (h : w.ownsRow base e 1 (.slice (some ⟨g, 0, none⟩) n cap) zs.length (zs.map (Value.int .i64))) (hn : zs.length = n) : IntsAt w (some ⟨g, 0, none⟩) zs := by
  rw [hn] at h
  exact owns_ints h
theorem own_at {g n c k : Nat} (e : (Value.slice (some ⟨g, 0, none⟩) n c).ownBlock = some k) : g ≤ k := by
  have : g = k := by injection e
  omega

end Go.Proofs.YtidhnmmhniiolaaDoor

namespace Go.Proofs.YtidhnmmhniiolaaDoor
open Go.RowKit

theorem inf_parts {E : TypeId} {z : Value} {size bytes : Nat} (h : (Tryd.prog.info? E).map (fun i => (i.zero, i.size, i.bytes)) = some (some z, size, bytes)) : ∃ i0, Tryd.prog.info? E = some i0 ∧ i0.zero = some z ∧ i0.size = size ∧ i0.bytes = bytes := by
  cases hq : Tryd.prog.info? E with
  | none => rw [hq] at h; simp at h
  | some i0 =>
    rw [hq] at h
    simp only [Option.map_some, Option.some.injEq, Prod.mk.injEq] at h
    exact ⟨i0, rfl, h.1, h.2.1, h.2.2⟩
theorem add_plain (b off j : Nat) : (⟨b, off, none⟩ : Addr).add j = ⟨b, off + j, none⟩ := by unfold Addr.add; split <;> simp_all

/-- 'append' of elements of any kind (size cells each) to a slice of the call's own. -/
theorem append_vals {T E : TypeId} {z : Value} {size bytes : Nat} (ht : Tryd.prog.underlying T = some (.slice E)) (hinf : (Tryd.prog.info? E).map (fun i => (i.zero, i.size, i.bytes)) = some (some z, size, bytes)) (hzs : z.cells.size = size) (hsz : 0 < size)
    (w : World) {ops : Array Oper} {rest : List Oper} {o : Oper} {a : Act} {Q : Exit → Act → World → Prop}
    (hg : o.guard = none) (s x : Operand) (hop : o.op = Op.call { callee := Callee.builtin Builtin.append, args := #[s, x], argTypes := #[T, T] })
    (base : Nat) (v : Value) (k : Nat) (xs : List Value) (hs : a.eval s = v) (hown : w.ownsRow base E size v k xs) (b off m c : Nat) (ys : List Value) (hx : a.eval x = .slice (some ⟨b, off, none⟩) m c)
    (hy : ys.length = m * size) (hc : ∀ j u, ys[j]? = some u → w.cell? ⟨b, off + j, none⟩ = some u) (h1 : ∀ u ∈ ys, u.oneCell' = true) (h63 : k + m ≤ 70368744177663) (hbytes : (k + m) * bytes ≤ 140737488355328) (hb : base ≤ w.heap.size)
    (hK : ∀ v' w', w'.ownsRow base E size v' (k + m) (xs ++ ys) → w.grownBy w' v.ownBlock → (v'.ownBlock = v.ownBlock ∨ v'.ownBlock = some w.heap.size) → (v' = .slice none 0 0 ↔ v = .slice none 0 0 ∧ m = 0) → wpList Tryd.prog ops Q rest (a.put o.dst v') w') :
    wpList Tryd.prog ops Q (o :: rest) a w := by
  obtain ⟨i0, hi, hz0, hz1, hz2⟩ := inf_parts hinf
  have hnews : ∀ j u, ys[j]? = some u → w.cell? ((⟨b, off, none⟩ : Addr).add j) = some u := fun j u hu => by rw [add_plain]; exact hc j u hu
  obtain ⟨v', w', hrun, r1, r2, r3⟩ := run_append_own (P := Tryd.prog) w base T o.type _ i0 _ size bytes ht hi hz0 hz1 hz2 hzs hsz v k xs hown ⟨b, off, none⟩ m c ys hy hnews h1 (by unfold maxLen; omega) hbytes hb
  have r4 := append_blk (P := Tryd.prog) w base T o.type _ i0 _ size bytes ht hi hz0 hz1 hz2 v k xs hown ⟨b, off, none⟩ m c ys hy hnews h1 (by unfold maxLen; omega) hbytes hrun
  exact wpList_run v' hg (exec_app s x _ v _ hop hs hx hrun) (hK v' w' r1 r2 r4 r3)

/-- The same as a step of a region that draws. -/
theorem step_append_vals {T E : TypeId} {z : Value} {size bytes : Nat} (ht : Tryd.prog.underlying T = some (.slice E)) (hinf : (Tryd.prog.info? E).map (fun i => (i.zero, i.size, i.bytes)) = some (some z, size, bytes)) (hzs : z.cells.size = size) (hsz : 0 < size)
    {ops : Array Oper} {o : Oper} {a : Act} {w : World} {K : Act → World → Prop} {Q : Exit → Act → World → Prop} {Els : Prop}
    (hg : o.guard = none) (s x : Operand) (hop : o.op = Op.call { callee := Callee.builtin Builtin.append, args := #[s, x], argTypes := #[T, T] })
    (base : Nat) (v : Value) (k : Nat) (xs : List Value) (hs : a.eval s = v) (hown : w.ownsRow base E size v k xs) (b off m c : Nat) (ys : List Value) (hx : a.eval x = .slice (some ⟨b, off, none⟩) m c)
    (hy : ys.length = m * size) (hc : ∀ j u, ys[j]? = some u → w.cell? ⟨b, off + j, none⟩ = some u) (h1 : ∀ u ∈ ys, u.oneCell' = true) (h63 : k + m ≤ 70368744177663) (hbytes : (k + m) * bytes ≤ 140737488355328) (hb : base ≤ w.heap.size)
    (hK : ∀ v' w', w'.ownsRow base E size v' (k + m) (xs ++ ys) → w.grownBy w' v.ownBlock → (v'.ownBlock = v.ownBlock ∨ v'.ownBlock = some w.heap.size) → (v' = .slice none 0 0 ↔ v = .slice none 0 0 ∧ m = 0) → K (a.put o.dst v') w') :
    if Region.wanted o (yielded ops a.tmps) = true then Oper.wp Tryd.prog o a w K Q else Els := by
  have hw : Region.wanted o (yielded ops a.tmps) = true := by simp [Region.wanted, hg]
  rw [if_pos hw]
  obtain ⟨i0, hi, hz0, hz1, hz2⟩ := inf_parts hinf
  have hnews : ∀ j u, ys[j]? = some u → w.cell? ((⟨b, off, none⟩ : Addr).add j) = some u := fun j u hu => by rw [add_plain]; exact hc j u hu
  obtain ⟨v', w', hrun, r1, r2, r3⟩ := run_append_own (P := Tryd.prog) w base T o.type _ i0 _ size bytes ht hi hz0 hz1 hz2 hzs hsz v k xs hown ⟨b, off, none⟩ m c ys hy hnews h1 (by unfold maxLen; omega) hbytes hb
  have r4 := append_blk (P := Tryd.prog) w base T o.type _ i0 _ size bytes ht hi hz0 hz1 hz2 v k xs hown ⟨b, off, none⟩ m c ys hy hnews h1 (by unfold maxLen; omega) hbytes hrun
  unfold Oper.wp
  simp [execOp, hop, resolve, invoke, builtin, hs, hx, hrun, Result.andThen]
  exact hK _ _ r1 r2 r4 r3

end Go.Proofs.YtidhnmmhniiolaaDoor

namespace Go.Proofs.YtidhnmmhniiolaaDoor
open Go.RowKit

theorem infoOrd6 : (Tryd.prog.info? 80).map (fun i => (i.zero, i.size, i.bytes)) = some (some (.agg #[Value.int IntKind.i64 0, Value.int IntKind.i64 0, Value.int IntKind.i64 0, Value.int IntKind.i64 0, Value.int IntKind.i64 0, Value.int IntKind.i64 0]), 6, 48) := by kernel_rfl

/-- 'make([]Order, 0, n)' and 'append' within its room, at this program. -/
theorem make_orders (w : World) {ops : Array Oper} {rest : List Oper} {o : Oper} {a : Act} {Q : Exit → Act → World → Prop}
    (hg : o.guard = none) (l c : Operand) (hop : o.op = Op.makeSlice 39 l c) (base : Nat)
    (kl kc : IntKind) (C : Int) (n : Nat) (hl : a.eval l = .int kl 0) (hc : a.eval c = .int kc C) (hC : C = (n : Int)) (b2 : n ≤ 1048576) (b4 : base ≤ w.heap.size)
    (hK : ∀ w', w'.ownsRow base 80 6 (.slice (some ⟨w.heap.size, 0, none⟩) 0 n) 0 [] → w.grownBy w' none → wpList Tryd.prog ops Q rest (a.put o.dst (.slice (some ⟨w.heap.size, 0, none⟩) 0 n)) w') :
    wpList Tryd.prog ops Q (o :: rest) a w := by
  obtain ⟨i0, hi, hz0, hz1, hz2⟩ := info_parts infoOrd6
  exact wpList_make_own w hg l c _ hop base _ i0 _ 6 Tryd.underlying39 hi hz0 hz1 kl kc C n hl hc hC (by rw [hz2]; omega) (by unfold maxLen; omega) b4 hK
theorem append_orders (w : World) {ops : Array Oper} {rest : List Oper} {o : Oper} {a : Act} {Q : Exit → Act → World → Prop}
    (hg : o.guard = none) (s x : Operand) (hop : o.op = Op.call { callee := Callee.builtin Builtin.append, args := #[s, x], argTypes := #[39, 39] })
    (base : Nat) (g k cap : Nat) (xs : List Value) (hs : a.eval s = .slice (some ⟨g, 0, none⟩) k cap) (hown : w.ownsRow base 80 6 (.slice (some ⟨g, 0, none⟩) k cap) k xs) (ad : Addr) (m c : Nat) (news : List Value) (hx : a.eval x = .slice (some ad) m c) (hn : news.length = m * 6)
    (hc : ∀ j u, news[j]? = some u → w.cell? (ad.add j) = some u) (h1c : ∀ u ∈ news, u.oneCell' = true) (b1 : k + m ≤ cap)
    (hK : ∀ w', w'.ownsRow base 80 6 (.slice (some ⟨g, 0, none⟩) (k + m) cap) (k + m) (xs ++ news) → w.grownBy w' (some g) → wpList Tryd.prog ops Q rest (a.put o.dst (.slice (some ⟨g, 0, none⟩) (k + m) cap)) w') :
    wpList Tryd.prog ops Q (o :: rest) a w := by
  obtain ⟨i0, hi, hz0, hz1, hz2⟩ := info_parts infoOrd6
  exact wpList_append_fits w hg s x _ hop base _ i0 6 Tryd.underlying39 hi hz1 g k cap xs hs hown ad m c news hx hn hc h1c b1 hK

theorem ros_step (os : List Int) (ko : Nat) (ids : List Int) {k : Nat} {id : Int} (hk : k < ids.length) (hid : ids.getD k 0 = id) {o0 o1 o2 o3 o4 o5 : Int} (h0 : fnd6F os ko id 0 = o0) (h1 : fnd6F os ko id 1 = o1) (h2 : fnd6F os ko id 2 = o2) (h3 : fnd6F os ko id 3 = o3) (h4 : fnd6F os ko id 4 = o4) (h5 : fnd6F os ko id 5 = o5) :
    (((rosOf os ko ids).take (k * 6)).map (Value.int .i64)) ++ [Value.int IntKind.i64 o0, Value.int IntKind.i64 o1, Value.int IntKind.i64 o2, Value.int IntKind.i64 o3, Value.int IntKind.i64 o4, Value.int IntKind.i64 o5] = ((rosOf os ko ids).take ((k + 1) * 6)).map (Value.int .i64) := by
  have hl := rosOf_length os ko ids
  have e : (k + 1) * 6 = k * 6 + 1 + 1 + 1 + 1 + 1 + 1 := by omega
  have g : ∀ f, f < 6 → (rosOf os ko ids).getD (k * 6 + f) 0 = fnd6F os ko id f := fun f hf => hid ▸ rosOf_at os ko ids hk hf
  rw [e, take_snoc _ _ (by omega), take_snoc _ _ (by omega), take_snoc _ _ (by omega), take_snoc _ _ (by omega), take_snoc _ _ (by omega), take_snoc _ _ (by omega)]
  have g0 := g 0 (by omega)
  have g1 := g 1 (by omega)
  have g2 := g 2 (by omega)
  have g3 := g 3 (by omega)
  have g4 := g 4 (by omega)
  have g5 := g 5 (by omega)
  simp only [Nat.add_zero] at g0
  simp only [g0, g1, g2, g3, g4, g5, h0, h1, h2, h3, h4, h5]
  simp

theorem cells6_new (W : World) (o0 o1 o2 o3 o4 o5 : Value) (T : TypeId) (g : Nat) (hg : W.heap.size = g) : ∀ j u, [o0, o1, o2, o3, o4, o5][j]? = some u → (W.alloc (.cells #[o0, o1, o2, o3, o4, o5] T)).cell? ((⟨g, 0, none⟩ : Addr).add j) = some u := by
  intro j u hu
  subst hg
  have hadd : (⟨W.heap.size, 0, none⟩ : Addr).add j = ⟨W.heap.size, j, none⟩ := by unfold Addr.add; split <;> simp_all
  rw [hadd, cell_of_row _ _ j _ _ _ (heap_alloc_new W (.cells #[o0, o1, o2, o3, o4, o5] T))]
  simpa using hu

end Go.Proofs.YtidhnmmhniiolaaDoor

namespace Go.Proofs.YtidhnmmhniiolaaDoor
open Go.RowKit

theorem ints_set {W : World} {g o k i : Nat} {zs : List Int} {v : Value} (h : IntsAt W (some ⟨g, o, none⟩) zs) (hne : g ≠ k) : IntsAt (W.setCell ⟨k, i, none⟩ v) (some ⟨g, o, none⟩) zs := by
  intro j hj
  exact ⟨g, o, rfl, keep_set (ints_cell h hj rfl) hne⟩

theorem cells8 {w : World} {k : Nat} {c0 c1 c2 c3 c4 c5 c6 c7 : Value} {T : TypeId} (r : w.heap[k]? = some (.cells #[c0, c1, c2, c3, c4, c5, c6, c7] T (0, 0))) :
    w.cell? ⟨k, 0, none⟩ = some c0 ∧ w.cell? ⟨k, 1, none⟩ = some c1 ∧ w.cell? ⟨k, 2, none⟩ = some c2 ∧ w.cell? ⟨k, 3, none⟩ = some c3 ∧ w.cell? ⟨k, 4, none⟩ = some c4 ∧ w.cell? ⟨k, 5, none⟩ = some c5 ∧ w.cell? ⟨k, 6, none⟩ = some c6 ∧ w.cell? ⟨k, 7, none⟩ = some c7 := by
  refine ⟨?_, ?_, ?_, ?_, ?_, ?_, ?_, ?_⟩
  · rw [cell_of_row _ _ 0 _ _ _ r]; simp
  · rw [cell_of_row _ _ 1 _ _ _ r]; simp
  · rw [cell_of_row _ _ 2 _ _ _ r]; simp
  · rw [cell_of_row _ _ 3 _ _ _ r]; simp
  · rw [cell_of_row _ _ 4 _ _ _ r]; simp
  · rw [cell_of_row _ _ 5 _ _ _ r]; simp
  · rw [cell_of_row _ _ 6 _ _ _ r]; simp
  · rw [cell_of_row _ _ 7 _ _ _ r]; simp

end Go.Proofs.YtidhnmmhniiolaaDoor

namespace Go.Proofs.YtidhnmmhniiolaaDoor
open Go.RowKit

theorem keptAt_mk {n : Int} {zs ros starts : List Int} {home frm : Int} {k : Nat} {t f p o1 o3 o4 d : Int} (ht : starts.getD k 0 = t) (hf : freeK ros starts frm k = f) (hp : plc ros home k = p) (h1 : og6 ros k 1 = o1) (h3 : og6 ros k 3 = o3) (h4 : og6 ros k 4 = o4) (hd : tmI n zs p o1 = d) :
    keptAt n zs ros starts home frm k = inB t (max o3 (f + d)) o4 := by
  unfold keptAt
  rw [ht, hf, hp, h1, h3, h4, hd]

theorem max_if (x y : Int) : (if x < y then y else x) = max x y := by
  split <;> omega

theorem within_is (n lo hi : Int) (w : World) (v : Bool) (hv : inB n lo hi = v) :
    Calls Tryd.prog 40 #[.int .i64 n, .int .i64 lo, .int .i64 hi] w fun e w' => e = .returned (.bool v) ∧ w' = w := hv ▸ within_any n lo hi w

end Go.Proofs.YtidhnmmhniiolaaDoor

namespace Go.Proofs.YtidhnmmhniiolaaDoor
end Go.Proofs.YtidhnmmhniiolaaDoor

namespace Go.Proofs.YtidhnmmhniiolaaDoor
open Go.RowKit

/-- The answer of a change: a route that owns its stops, how much more, whether. -/
def ChgOk (w : World) (ch : Bool) (veh D : Int) (xs : List Int) (e : Ending) (w' : World) : Prop :=
  Below w.heap.size w w' ∧ ∃ ad c, e = .returned (.tuple #[.agg #[.int .i64 (chI ch veh), .slice ad xs.length c], .int .i64 D, .bool ch]) ∧ w'.ownsRow w.heap.size 2 1 (.slice ad xs.length c) xs.length (xs.map (Value.int .i64))

end Go.Proofs.YtidhnmmhniiolaaDoor

namespace Go.Proofs.YtidhnmmhniiolaaDoor
open Go.RowKit

/-- A case, a route and the route that is answered, in their boxes. -/
def CRR (w W : World) (cs rs ts : Array Value) : Prop := CR w W cs rs ∧ W.heap[w.heap.size + 2]? = some (.cells ts 49 (0, 0))
theorem CRR.new (w : World) (cs rs ts : Array Value) : CRR w (((w.alloc (.cells cs 42)).alloc (.cells rs 49)).alloc (.cells ts 49)) cs rs ts :=
  ⟨(CR.new w cs rs).alloc _, by have := heap_alloc_new ((w.alloc (.cells cs 42)).alloc (.cells rs 49)) (.cells ts 49); simpa using this⟩
theorem CRR.below {w W W' : World} {cs rs ts : Array Value} (h : CRR w W cs rs ts) (hb : Below W.heap.size W W') : CRR w W' cs rs ts :=
  ⟨h.1.below hb, below_row hb (row_lt h.2) h.2⟩
theorem CRR.b {w W : World} {cs rs ts : Array Value} (h : CRR w W cs rs ts) : Below w.heap.size w W := h.1.1
theorem CRR.alloc {w W : World} {cs rs ts : Array Value} (h : CRR w W cs rs ts) (o : Obj) : CRR w (W.alloc o) cs rs ts := h.below ((Below.refl _ _).alloc (Nat.le_refl _) _)
theorem CRR.big {w W : World} {cs rs ts : Array Value} (h : CRR w W cs rs ts) : w.heap.size + 2 < W.heap.size := row_lt h.2

theorem CRR.set {w W : World} {cs rs ts : Array Value} (h : CRR w W cs rs ts) (u1 u2 : Value) : CR w ((W.setCell ⟨w.heap.size + 1 + 1, 0, none⟩ u1).setCell ⟨w.heap.size + 1 + 1, 1, none⟩ u2) cs rs := (h.1.set (by omega)).set (by omega)
theorem cr7 {w W : World} {c0 c1 c2 c3 c4 r0 r1 : Value} (h : CR w W #[c0, c1, c2, c3, c4] #[r0, r1]) :
    W.cell? ⟨w.heap.size, 0, none⟩ = some c0 ∧ W.cell? ⟨w.heap.size, 1, none⟩ = some c1 ∧ W.cell? ⟨w.heap.size, 2, none⟩ = some c2 ∧ W.cell? ⟨w.heap.size, 3, none⟩ = some c3 ∧ W.cell? ⟨w.heap.size, 4, none⟩ = some c4 ∧ W.cell? ⟨w.heap.size + 1, 0, none⟩ = some r0 ∧ W.cell? ⟨w.heap.size + 1, 1, none⟩ = some r1 := by
  obtain ⟨k0, k1, k2, k3, k4⟩ := cells5 h.2.1
  obtain ⟨k5, k6⟩ := cells2 h.2.2
  exact ⟨k0, k1, k2, k3, k4, k5, k6⟩

theorem owns_set2 {w : World} {base k b : Nat} {v u1 u2 : Value} {e : TypeId} {size : Nat} {xs : List Value} (h : w.ownsRow base e size v k xs) (hb : b < base) : ((w.setCell ⟨b, 0, none⟩ u1).setCell ⟨b, 1, none⟩ u2).ownsRow base e size v k xs := ownsRow_setCell_below (ownsRow_setCell_below h hb u1) hb u2

end Go.Proofs.YtidhnmmhniiolaaDoor

namespace Go.Proofs.YtidhnmmhniiolaaDoor
open Go.RowKit

theorem infoI8 : (Tryd.prog.info? 2).map (fun i => (i.zero, i.size, i.bytes)) = some (some (Value.int .i64 0), 1, 8) := by kernel_rfl
theorem infoI8_parts : ∃ i0, Tryd.prog.info? 2 = some i0 ∧ i0.zero = some (Value.int .i64 0) ∧ i0.size = 1 ∧ i0.bytes = 8 := by
  have h := infoI8
  cases hq : Tryd.prog.info? 2 with
  | none => rw [hq] at h; simp at h
  | some i0 =>
    rw [hq] at h
    simp only [Option.map_some, Option.some.injEq, Prod.mk.injEq] at h
    exact ⟨i0, rfl, h.1, h.2.1, h.2.2⟩
theorem ints_news {W : World} {b off : Nat} {ys : List Int} (h : IntsAt W (some ⟨b, off, none⟩) ys) : ∀ j u, (ys.map (Value.int .i64))[j]? = some u → W.cell? ((⟨b, off, none⟩ : Addr).add j) = some u := by
  intro j u hu
  have hj : j < ys.length := by
    rcases Nat.lt_or_ge j ys.length with h' | h'
    · exact h'
    · simp [List.getElem?_eq_none (by simpa using h' : (ys.map (Value.int .i64)).length ≤ j)] at hu
  obtain ⟨b', off', e, hc⟩ := h j hj
  simp at e
  obtain ⟨rfl, rfl⟩ := e
  have hadd : (⟨b, off, none⟩ : Addr).add j = ⟨b, off + j, none⟩ := by unfold Addr.add; split <;> simp_all
  rw [hadd, hc, ← hu]
  simp [List.getD, hj]

/-- 'append' of numbers to a slice of the call's own, as a step of a region that draws. -/
theorem step_append_ints {ops : Array Oper} {o : Oper} {a : Act} {w : World} {K : Act → World → Prop} {Q : Exit → Act → World → Prop} {E : Prop}
    (hg : o.guard = none) (s x : Operand) (hop : o.op = Op.call { callee := Callee.builtin Builtin.append, args := #[s, x], argTypes := #[25, 25] })
    (base : Nat) (v : Value) (xs : List Int) (k : Nat) (hs : a.eval s = v) (hown : w.ownsRow base 2 1 v k (xs.map (Value.int .i64))) (b off m c : Nat) (ys : List Int) (hx : a.eval x = .slice (some ⟨b, off, none⟩) m c)
    (hy : ys.length = m) (hc : IntsAt w (some ⟨b, off, none⟩) ys) (b1 : k ≤ 1000) (b2 : m ≤ 1000) (hb : base ≤ w.heap.size)
    (hK : ∀ v' w', w'.ownsRow base 2 1 v' (k + m) ((xs ++ ys).map (Value.int .i64)) → w.grownBy w' v.ownBlock → (v' = .slice none 0 0 ↔ v = .slice none 0 0 ∧ m = 0) → K (a.put o.dst v') w') :
    if Region.wanted o (yielded ops a.tmps) = true then Oper.wp Tryd.prog o a w K Q else E := by
  have hw : Region.wanted o (yielded ops a.tmps) = true := by simp [Region.wanted, hg]
  rw [if_pos hw]
  obtain ⟨i0, hi, hz0, hz1, hz2⟩ := infoI8_parts
  obtain ⟨v', w', hrun, r1, r2, r3⟩ := run_append_own (P := Tryd.prog) w base 25 o.type _ i0 _ 1 8 Tryd.underlying25 hi hz0 hz1 hz2 rfl (by decide) v k (xs.map (Value.int .i64)) hown ⟨b, off, none⟩ m c (ys.map (Value.int .i64)) (by simp [hy]) (ints_news hc) (by simp [Value.oneCell']) (by unfold maxLen; omega) (by omega) hb
  unfold Oper.wp
  simp [execOp, hop, resolve, invoke, builtin, hs, hx, hrun, Result.andThen]
  exact hK _ _ (by rw [List.map_append]; exact r1) r2 r3

theorem step_append_at {ops : Array Oper} {o : Oper} {a : Act} {w : World} {K : Act → World → Prop} {Q : Exit → Act → World → Prop} {E : Prop}
    (hg : o.guard = none) (s x : Operand) (hop : o.op = Op.call { callee := Callee.builtin Builtin.append, args := #[s, x], argTypes := #[25, 25] })
    (base : Nat) (v : Value) (xs : List Int) (k : Nat) (hs : a.eval s = v) (hown : w.ownsRow base 2 1 v k (xs.map (Value.int .i64))) (ad : Option Addr) (m c : Nat) (ys : List Int) (hx : a.eval x = .slice ad m c)
    (had : ∃ b off, ad = some ⟨b, off, none⟩) (hy : ys.length = m) (hc : IntsAt w ad ys) (b1 : k ≤ 1000) (b2 : m ≤ 1000) (hb : base ≤ w.heap.size)
    (hK : ∀ v' w', w'.ownsRow base 2 1 v' (k + m) ((xs ++ ys).map (Value.int .i64)) → w.grownBy w' v.ownBlock → (v' = .slice none 0 0 ↔ v = .slice none 0 0 ∧ m = 0) → K (a.put o.dst v') w') :
    if Region.wanted o (yielded ops a.tmps) = true then Oper.wp Tryd.prog o a w K Q else E := by
  obtain ⟨b, off, rfl⟩ := had
  exact step_append_ints hg s x hop base v xs k hs hown b off m c ys hx hy hc b1 b2 hb hK

end Go.Proofs.YtidhnmmhniiolaaDoor

namespace Go.Proofs.YtidhnmmhniiolaaDoor
open Go.RowKit

end Go.Proofs.YtidhnmmhniiolaaDoor

namespace Go.Proofs.YtidhnmmhniiolaaDoor
open Go.RowKit

/-- A list without a number. -/
def cutL (L : List Int) (x : Int) : List Int := L.filter (fun y => decide (y ≠ x))
theorem cutL_zero (L : List Int) (x : Int) : cutL (L.take 0) x = [] := rfl
theorem cutL_keep {L : List Int} {x : Int} {k : Nat} (hk : k < L.length) (h : L.getD k 0 ≠ x) : cutL (L.take (k + 1)) x = cutL (L.take k) x ++ [L.getD k 0] := by
  have e : L.take (k + 1) = L.take k ++ [L.getD k 0] := by
    rw [List.take_add_one, List.getD_eq_getElem?_getD, List.getElem?_eq_getElem hk]
    rfl
  unfold cutL
  rw [e, List.filter_append]
  clear e
  generalize L.getD k 0 = y at *
  simp [h]
theorem cutL_drop {L : List Int} {x : Int} {k : Nat} (hk : k < L.length) (h : L.getD k 0 = x) : cutL (L.take (k + 1)) x = cutL (L.take k) x := by
  have e : L.take (k + 1) = L.take k ++ [L.getD k 0] := by
    rw [List.take_add_one, List.getD_eq_getElem?_getD, List.getElem?_eq_getElem hk]
    rfl
  unfold cutL
  rw [e, List.filter_append]
  clear e
  generalize L.getD k 0 = y at *
  simp [h]
theorem cutL_le (L : List Int) (x : Int) : (cutL L x).length ≤ L.length := List.length_filter_le _ _
theorem cutL_take (L : List Int) (x : Int) (k : Nat) : (cutL (L.take k) x).length ≤ k := Nat.le_trans (cutL_le _ _) (List.length_take_le _ _)
theorem cutL_mem {L : List Int} {x y : Int} (h : y ∈ cutL L x) : y ∈ L := (List.mem_filter.1 h).1

set_option maxHeartbeats 2000000 in
theorem l4Cut_any (bi : Option Addr) (c m : Nat) (L : List Int) (x : Int) (w : World) (hA : IntsAt w bi L) (hm : L.length = m) (hl : m ≤ 900) :
    Calls Tryd.prog 34 #[.slice bi m c, .int .i64 x] w fun e w' => ∃ g cc, e = .returned (.slice (some ⟨g, 0, none⟩) (cutL L x).length cc) ∧ Below w.heap.size w w' ∧ w'.ownsRow w.heap.size 2 1 (.slice (some ⟨g, 0, none⟩) (cutL L x).length cc) (cutL L x).length ((cutL L x).map (Value.int .i64)) := by
  have HA : Hid (IntsAt w bi L) := hA
  have HM : Hid (L.length = m) := hm
  clear hA hm
  have B1 : Hid (Below w.heap.size w (w.alloc (.cells #[] 2))) := (Below.refl _ _).alloc (Nat.le_refl _) _
  have O1 : Hid ((w.alloc (.cells #[] 2)).ownsRow w.heap.size 2 1 (.slice (some ⟨w.heap.size, 0, none⟩) 0 0) 0 (([] : List Int).map (Value.int .i64))) := World.ownsRow_made w #[] 0 (Nat.le_refl _) (by unfold maxLen; omega) (by simp)
  go_enter Tryd.func34, Tryd.ntmps34
  go_wp2_with fail
  go_loopw [5, 6] (fun ts t wr => ∃ (k g cc : Nat), k ≤ m ∧ t = .int .i64 k ∧ ts = .slice (some ⟨g, 0, none⟩) (cutL (L.take k) x).length cc ∧ Below w.heap.size w wr ∧ wr.ownsRow w.heap.size 2 1 (.slice (some ⟨g, 0, none⟩) (cutL (L.take k) x).length cc) (cutL (L.take k) x).length ((cutL (L.take k) x).map (Value.int .i64))) (fun _ t _ => m - (intOf t).toNat)
  case atStart => exact ⟨0, w.heap.size, 0, Nat.zero_le _, rfl, rfl, B1.out, O1.out⟩
  case round =>
    clear B1 O1
    obtain ⟨k, g, cc, hk, rfl, rfl, hb, ho⟩ := hrel
    have B2 : Hid (Below w.heap.size w wr) := hb
    have O2 : Hid (wr.ownsRow w.heap.size 2 1 (.slice (some ⟨g, 0, none⟩) (cutL (L.take k) x).length cc) (cutL (L.take k) x).length ((cutL (L.take k) x).map (Value.int .i64))) := ho
    have hcl := cutL_take L x k
    clear hb ho
    by_cases hlt : k < m
    · have hkI : (k : Int) < (m : Int) := by omega
      have hkL : k < L.length := by rw [HM.out]; exact hlt
      obtain ⟨b, off, e, c1⟩ := (HA.out.below B2.out) k hkL
      subst e
      by_cases hx : L.getD k 0 = x
      · have HE : Hid (cutL (L.take (k + 1)) x = cutL (L.take k) x) := cutL_drop hkL hx
        rw [hx] at c1
        have hxx : (x != x) = false := by simp
        clear hx
        obtain ⟨n, HN⟩ : ∃ n, Hid ((cutL (L.take k) x).length = n) := ⟨_, rfl⟩
        rw [HN.out] at O2 hcl ⊢
        go_wp2
        first
          | exact ⟨⟨k + 1, g, cc, by omega, by first | rfl | go_num, by rw [HE.out, HN.out], B2.out, by rw [HE.out, HN.out]; exact O2.out⟩, by simp [intOf]; omega⟩
          | (go_roundw
             case rel => exact ⟨k + 1, g, cc, by omega, by first | rfl | go_num, by rw [HE.out, HN.out], B2.out, by rw [HE.out, HN.out]; exact O2.out⟩
             case measure => simp [intOf]; omega)
      · have HE : Hid (cutL (L.take (k + 1)) x = cutL (L.take k) x ++ [L.getD k 0]) := cutL_keep hkL hx
        obtain ⟨y, HY⟩ : ∃ y, Hid (L.getD k 0 = y) := ⟨_, rfl⟩
        rw [HY.out] at c1 hx HE
        have hxy : (y != x) = true := by simp [hx]
        obtain ⟨n, HN⟩ : ∃ n, Hid ((cutL (L.take k) x).length = n) := ⟨_, rfl⟩
        rw [HN.out] at O2 hcl ⊢
        have B3 : Hid (Below w.heap.size w (wr.alloc (.cells #[.int .i64 y] 2))) := B2.out.alloc B2.out.size _
        go_wp2_with (first
          | (at_builtin
             refine append_many _ rfl (.tmp 20) (.tmp 25) rfl w.heap.size _ n (cutL (L.take k) x) rfl (O2.out.alloc _) wr.heap.size 0 1 1 [y] rfl rfl (ints_new1 wr y) (by omega) (by omega) B3.out.size ?_
             intro v4 w4 hown hg hbk hnl
             have hbg := (O2.out.lt g rfl).1
             have B4 : Hid (Below w.heap.size w w4) := B3.out.grown hg B3.out.size (fun k e => Nat.le_trans hbg (own_at e))
             obtain ⟨g4, c4, rfl⟩ := own_sm hown (not_nil hnl ⟨_, _, _, rfl⟩)
             have O4 : Hid (w4.ownsRow w.heap.size 2 1 (.slice (some ⟨g4, 0, none⟩) (n + 1) c4) (n + 1) ((cutL (L.take k) x ++ [y]).map (Value.int .i64))) := hown
             clear hown hg hbk hnl hbg))
        have HL4 : Hid ((cutL (L.take k) x ++ [y]).length = n + 1) := by show _ = _; rw [List.length_append, HN.out]; rfl
        first
          | exact ⟨⟨k + 1, g4, c4, by omega, by first | rfl | go_num, by rw [HE.out, HL4.out], B4.out, by rw [HE.out, HL4.out]; exact O4.out⟩, by simp [intOf]; omega⟩
          | (go_roundw
             case rel => exact ⟨k + 1, g4, c4, by omega, by first | rfl | go_num, by rw [HE.out, HL4.out], B4.out, by rw [HE.out, HL4.out]; exact O4.out⟩
             case measure => simp [intOf]; omega)
    · have hkI : ¬ ((k : Int) < (m : Int)) := by omega
      have hke : k = m := by omega
      have O3 : Hid (wr.ownsRow w.heap.size 2 1 (.slice (some ⟨g, 0, none⟩) (cutL L x).length cc) (cutL L x).length ((cutL L x).map (Value.int .i64))) := by
        have := O2.out
        rw [hke, ← HM.out, List.take_length] at this
        exact this
      have HE : Hid ((cutL (L.take k) x).length = (cutL L x).length) := by show _ = _; rw [hke, ← HM.out, List.take_length]
      rw [HE.out]
      obtain ⟨n, HN⟩ : ∃ n, Hid ((cutL L x).length = n) := ⟨_, rfl⟩
      rw [HN.out] at O3 ⊢
      clear hke
      go_wp2
      go_ret
      exact ⟨g, cc, by rw [HN.out]; rfl, B2.out, by rw [HN.out]; exact O3.out⟩

end Go.Proofs.YtidhnmmhniiolaaDoor

namespace Go.Proofs.YtidhnmmhniiolaaDoor
open Go.RowKit

/-- The Ids of the first k orders. -/
def idsL (os : List Int) (k : Nat) : List Int := (List.range k).map fun i => og6 os i 0
theorem idsL_succ (os : List Int) (k : Nat) : idsL os (k + 1) = idsL os k ++ [og6 os k 0] := by simp [idsL, List.range_succ]
theorem idsL_length (os : List Int) (k : Nat) : (idsL os k).length = k := by simp [idsL]
/-- A case and a plan in their boxes. -/
def EP (w W : World) (cs : Array Value) : Prop := Below w.heap.size w W ∧ W.heap[w.heap.size]? = some (.cells cs 42 (0, 0)) ∧ W.heap[w.heap.size + 1]? = some (.cells #[Value.slice none 0 0, Value.slice none 0 0] 27 (0, 0))
theorem EP.new (w : World) (cs : Array Value) : EP w ((w.alloc (.cells cs 42)).alloc (.cells #[Value.slice none 0 0, Value.slice none 0 0] 27)) cs :=
  ⟨((Below.refl _ _).alloc (Nat.le_refl _) _).alloc (by simp) _, heap_alloc2_old _ _ _, heap_alloc2_new _ _ _⟩
theorem EP.below {w W W' : World} {cs : Array Value} (h : EP w W cs) (hb : Below W.heap.size W W') : EP w W' cs :=
  ⟨h.1.trans (hb.mono h.1.size), below_row hb (row_lt h.2.1) h.2.1, below_row hb (row_lt h.2.2) h.2.2⟩
theorem EP.alloc {w W : World} {cs : Array Value} (h : EP w W cs) (o : Obj) : EP w (W.alloc o) cs := h.below ((Below.refl _ _).alloc (Nat.le_refl _) _)
theorem EP.b {w W : World} {cs : Array Value} (h : EP w W cs) : Below w.heap.size w W := h.1
theorem EP.grown {w W W' : World} {cs : Array Value} {row : Option Nat} (h : EP w W cs) (hg : W.grownBy W' row) (hr : ∀ g, row = some g → w.heap.size + 1 < g) : EP w W' cs :=
  ⟨h.1.grown hg h.1.size (fun k e => by have := hr k e; omega), (hg.block _ (row_lt h.2.1) (fun e => by have := hr _ e.symm; omega)).trans h.2.1, (hg.block _ (row_lt h.2.2) (fun e => by have := hr _ e.symm; omega)).trans h.2.2⟩
theorem EP.set {w W : World} {cs : Array Value} (h : EP w W cs) {k i : Nat} {v : Value} (hk : w.heap.size + 1 < k) : EP w (W.setCell ⟨k, i, none⟩ v) cs :=
  ⟨h.1.setCell (by simp; omega) _, row_set' h.2.1 (by omega), row_set' h.2.2 (by omega)⟩
end Go.Proofs.YtidhnmmhniiolaaDoor

namespace Go.Proofs.YtidhnmmhniiolaaDoor
open Go.RowKit

set_option maxHeartbeats 2000000 in
theorem specEmpty_any (n fine : Int) (a ao av : Option Addr) (cap ko co kv cv : Nat) (zs os vs : List Int) (w : World) (hA : IntsAt w a zs) (hO : IntsAt w ao os) (hV : IntsAt w av vs) (hlo : os.length = ko * 6) (hlv : vs.length = kv * 5) (hko : ko ≤ 9223372036854775807) (hkv : kv ≤ 9223372036854775807) (cb : Bool) (K : Nat) (X : List Int) (hcb : caseB n zs os vs ko kv fine = cb) (hK : (if cb = true then ko else 0) = K) (hX : (if cb = true then idsL os ko else []) = X) :
    Calls Tryd.prog 29 #[.agg #[.int .i64 n, .slice a zs.length cap, .slice ao ko co, .slice av kv cv, .int .i64 fine]] w fun e w' => ∃ sl, e = .returned (.tuple #[.agg #[.slice none 0 0, sl], .bool cb]) ∧ Below w.heap.size w w' ∧ w'.ownsRow w.heap.size 2 1 sl K (X.map (Value.int .i64)) := by
  have HA : Hid (IntsAt w a zs) := hA
  have HO : Hid (IntsAt w ao os) := hO
  have HV : Hid (IntsAt w av vs) := hV
  have HLO : Hid _ := hlo
  have HLV : Hid _ := hlv
  clear hA hO hV hlo hlv
  have HKK : Hid ((if cb = true then ko else 0) = K) := hK
  have HXX : Hid ((if cb = true then idsL os ko else []) = X) := hX
  have HCB : Hid (caseB n zs os vs ko kv fine = cb) := hcb
  clear hK hX hcb
  have HE0 : Hid (EP w ((w.alloc (.cells #[Value.int IntKind.i64 n, Value.slice a zs.length cap, Value.slice ao ko co, Value.slice av kv cv, Value.int IntKind.i64 fine] 42)).alloc (.cells #[Value.slice none 0 0, Value.slice none 0 0] 27)) _) := EP.new w _
  go_enter Tryd.func29, Tryd.ntmps29
  obtain ⟨c0, c1, c2', c3, c4⟩ := cells5 HE0.out.2.1
  go_wp2_with fail
  clear c0 c1 c2' c3 c4
  refine (specCase_any n fine a ao av cap ko co kv cv zs os vs _ (HA.out.below HE0.out.1) (HO.out.below HE0.out.1) (HV.out.below HE0.out.1) HLO.out HLV.out hko hkv).mono ?_
  rintro e w1 ⟨rfl, hb⟩
  have E1 : Hid (EP w w1 _) := HE0.out.below hb
  clear hb HE0
  rw [HCB.out]
  cases cb
  · have hk0 : K = 0 := HKK.out.symm.trans (if_neg (by simp))
    have hx0 : X = [] := HXX.out.symm.trans (if_neg (by simp))
    subst hk0 hx0
    obtain ⟨p0, p1⟩ := cells2 E1.out.2.2
    have pf := fun i => frozen_of_row _ _ i _ _ E1.out.2.2
    go_wp2
    refine bodyPost_ret (v := .tuple #[.agg #[.slice none 0 0, .slice none 0 0], .bool false]) (by simp [results, Tryd.results29, go_sem, p0, p1]) rfl ⟨.slice none 0 0, rfl, ?_, World.ownsRow_nil _ _ _ _⟩
    repeat (first | with_reducible exact E1.out.b | refine Below.setCell ?_ (by simp <;> omega) _)
  · have hk1 : K = ko := HKK.out.symm.trans (if_pos rfl)
    have hx1 : X = idsL os ko := HXX.out.symm.trans (if_pos rfl)
    subst hk1 hx1
    have h12 : K ≤ 12 := (ordsB_true (caseB_ords HCB.out)).1
    have E2 : Hid (EP w (w1.alloc (Obj.cells #[Value.slice none 0 0, Value.slice none 0 0] 27)) _) := E1.out.alloc _
    have PR2 : Hid ((w1.alloc (Obj.cells #[Value.slice none 0 0, Value.slice none 0 0] 27)).heap[w1.heap.size]? = _) := heap_alloc_new _ _
    have HBP : Hid (w.heap.size + 1 < w1.heap.size) := row_lt E1.out.2.2
    obtain ⟨c0, c1, c2', c3, c4⟩ := cells5 E2.out.2.1
    clear E1
    go_wp2_with fail
    clear c0 c1 c2' c3 c4
    generalize w1.alloc (Obj.cells #[Value.slice none 0 0, Value.slice none 0 0] 27) = W1 at *
    generalize w1.heap.size = bp at *
    go_loopw [5] (fun t wr => ∃ (k : Nat) (sl : Value), k ≤ K ∧ t = .int .i64 k ∧ EP w wr #[Value.int IntKind.i64 n, Value.slice a zs.length cap, Value.slice ao K co, Value.slice av kv cv, Value.int IntKind.i64 fine] ∧ wr.heap[bp]? = some (.cells #[.slice none 0 0, sl] 27 (0, 0)) ∧ wr.ownsRow (bp + 1) 2 1 sl k ((idsL os k).map (Value.int .i64))) (fun t _ => K - (intOf t).toNat)
    case atStart => exact ⟨0, .slice none 0 0, Nat.zero_le _, rfl, E2.out, PR2.out, World.ownsRow_nil _ _ _ _⟩
    case round =>
      clear E2 PR2
      obtain ⟨k, sl, hk, rfl, he, hp, ho⟩ := hrel
      have HE : Hid (EP w wr _) := he
      have HP : Hid (wr.heap[bp]? = _) := hp
      have HW : Hid (wr.ownsRow (bp + 1) 2 1 sl k _) := ho
      obtain ⟨c0, c1, c2', c3, c4⟩ := cells5 he.2.1
      obtain ⟨p0, p1⟩ := cells2 hp
      have pf := fun i => frozen_of_row _ _ i _ _ hp
      clear he hp ho
      by_cases hlt : k < K
      · obtain ⟨b, off, rfl, hcs⟩ := IntsAt.some (IntsAt.below HO.out HE.out.1) (j := k * 6) (by rw [HLO.out]; omega)
        obtain ⟨r0, r1, r2, r3, r4, r5⟩ := row6_at hcs HLO.out k hlt
        clear hcs
        have HNX : Hid (idsL os (k + 1) = idsL os k ++ [og6 os k 0]) := idsL_succ os k
        have hlb := block_lt_of_cell r0
        simp at hlb
        obtain ⟨o0, H0⟩ : ∃ t, Hid (og6 os k 0 = t) := ⟨_, rfl⟩
        obtain ⟨o1, H1⟩ : ∃ t, Hid (og6 os k 1 = t) := ⟨_, rfl⟩
        obtain ⟨o2, H2⟩ : ∃ t, Hid (og6 os k 2 = t) := ⟨_, rfl⟩
        obtain ⟨o3, H3⟩ : ∃ t, Hid (og6 os k 3 = t) := ⟨_, rfl⟩
        obtain ⟨o4, H4⟩ : ∃ t, Hid (og6 os k 4 = t) := ⟨_, rfl⟩
        obtain ⟨o5, H5⟩ : ∃ t, Hid (og6 os k 5 = t) := ⟨_, rfl⟩
        rw [H0.out] at HNX
        rw [H0.out] at r0
        rw [H1.out] at r1
        rw [H2.out] at r2
        rw [H3.out] at r3
        rw [H4.out] at r4
        rw [H5.out] at r5
        have HLE : Hid (bp + 1 ≤ wr.heap.size) := row_lt HP.out
        go_wp2_with fail
        obtain ⟨s0, s1⟩ := cells2 ((heap_alloc_old wr (Obj.cells #[Value.int IntKind.i64 o0] 2) (row_lt HP.out)).trans HP.out)
        go_region_law ((
           refine step_append_int rfl (.tmp 19) (.tmp 26) rfl (bp + 1) sl k _ (by simp [Act.eval]) (HW.out.drew.alloc _) ⟨wr.heap.size, 0, none⟩ 1 (.int .i64 o0) (by simp [Act.eval]) (cell_new1 _ _ _ _ (by simp)) rfl (by omega) (Nat.le_trans HLE.out (by simp)) ?_
           intro v' w4 hown4 hgrow4
           obtain ⟨gg', cc', rfl, hgg'⟩ := own_some hown4
           have hne : ∀ q, sl.ownBlock = some q → bp < q := fun q e => (HW.out.lt _ e).1
           have hp4 : w4.heap[bp]? = some (.cells #[.slice none 0 0, sl] 27 (0, 0)) := (hgrow4.block _ (Nat.lt_of_lt_of_le (row_lt HP.out) (by simp; try omega)) (fun e => by have := hne _ e.symm; omega)).trans ((heap_alloc_old _ _ (row_lt HP.out)).trans HP.out)
           have HP4 : Hid (w4.heap[bp]? = _) := hp4
           obtain ⟨u0, u1⟩ := cells2 hp4
           have uf := fun i => frozen_of_row _ _ i _ _ hp4
           have HE4 : Hid (EP w w4 _) := EP.grown (EP.below (HE.out.alloc _) (Below.refl _ _).drew) hgrow4 (fun q e => by have := hne q e; have := HBP.out; omega)
           have HW4 : Hid (w4.ownsRow (bp + 1) 2 1 (.slice (some ⟨gg', 0, none⟩) (k + 1) cc') (k + 1) _) := hown4
           clear hp4 hown4 hgrow4 hne))
        all_goals
          go_wp2
          go_roundw
          case rel =>
            refine ⟨k + 1, _, by omega, by go_num, HE4.out.set (by have := HBP.out; omega), heap_setCell_same _ _ _ _ _ _ HP4.out, ?_⟩
            rw [HNX.out, List.map_append]
            exact owns_set HW4.out (by omega)
          case measure => simp [intOf]; omega
      · have hkl : k = K := by omega
        subst hkl
        obtain ⟨q0, q1⟩ := cells2 HE.out.2.2
        have qf := fun i => frozen_of_row _ _ i _ _ HE.out.2.2
        have HRN : Hid (w.heap.size + 1 ≠ bp) := Nat.ne_of_lt HBP.out
        rcases own_shape HW.out with rfl | ⟨gq, cq, rfl⟩
        · go_wp2
          refine bodyPost_ret (v := .tuple #[.agg #[.slice none 0 0, .slice none 0 0], .bool true]) (by simp [results, Tryd.results29, go_sem, q0, q1]) rfl ⟨_, rfl, ?_, ?_⟩
          · repeat (first | with_reducible exact HE.out.b | refine Below.setCell ?_ (by simp <;> omega) _)
          · exact owns_base (ownsRow_setCell_below (ownsRow_setCell_below HW.out (by simp; have := HBP.out; omega) _) (by simp; have := HBP.out; omega) _) (by have := HBP.out; omega)
        · go_wp2
          refine bodyPost_ret (v := .tuple #[.agg #[.slice none 0 0, .slice (some ⟨gq, 0, none⟩) k cq], .bool true]) (by simp [results, Tryd.results29, go_sem, q0, q1]) rfl ⟨_, rfl, ?_, ?_⟩
          · repeat (first | with_reducible exact HE.out.b | refine Below.setCell ?_ (by simp <;> omega) _)
          · exact owns_base (ownsRow_setCell_below (ownsRow_setCell_below HW.out (by simp; have := HBP.out; omega) _) (by simp; have := HBP.out; omega) _) (by have := HBP.out; omega)

end Go.Proofs.YtidhnmmhniiolaaDoor

namespace Go.Proofs.YtidhnmmhniiolaaDoor
open Go.RowKit

theorem own_put {w : World} {base n g c k : Nat} {e : TypeId} {xs : List Int} (v : Int) (h : w.ownsRow base e 1 (.slice (some ⟨g, 0, none⟩) n c) n (xs.map (Value.int .i64))) (_hk : k < n) : (w.setCell ⟨g, k, none⟩ (.int .i64 v)).ownsRow base e 1 (.slice (some ⟨g, 0, none⟩) n c) n ((xs.set k v).map (Value.int .i64)) := by
  obtain ⟨h0, ⟨h1, _⟩ | ⟨g', cap, cur, h2, h3, h4, h5, h6, h7, h8⟩⟩ := h
  · cases h1
  · simp at h2
    obtain ⟨rfl, rfl⟩ := h2
    refine ⟨by simpa using h0, .inr ⟨g, c, cur.setIfInBounds k (.int .i64 v), rfl, h3, heap_setCell_same w g k cur e _ h4, h5, h6, by simpa using h7, ?_⟩⟩
    rw [Array.toList_setIfInBounds, List.take_set, h8, List.map_set]
/-- A cell of what is owned may be read and written. -/
theorem own_cell {w : World} {base n g c k : Nat} {e : TypeId} {xs : List Int} (h : w.ownsRow base e 1 (.slice (some ⟨g, 0, none⟩) n c) n (xs.map (Value.int .i64))) (hk : k < xs.length) : w.cell? ⟨g, k, none⟩ = some (.int .i64 (xs.getD k 0)) ∧ w.frozen? ⟨g, k, none⟩ = false := by
  refine ⟨?_, ?_⟩
  · obtain ⟨_, _, e1, h1⟩ := owns_ints h k hk
    simp at e1
    obtain ⟨rfl, rfl⟩ := e1
    rw [Nat.zero_add] at h1
    exact h1
  · obtain ⟨h0, ⟨h1, _⟩ | ⟨g', cap, cur, h2, h3, h4, h5⟩⟩ := h
    · cases h1
    · simp at h2
      obtain ⟨rfl, rfl⟩ := h2
      exact frozen_of_row _ _ k _ _ h4

end Go.Proofs.YtidhnmmhniiolaaDoor

namespace Go.Proofs.YtidhnmmhniiolaaDoor
open Go.RowKit

theorem ids_range {n fi : Int} {zs O V : List Int} {ko kv : Nat} (h : caseB n zs O V ko kv fi = true) : ∀ x ∈ idsL O ko, -9223372036854775808 ≤ x ∧ x < 9223372036854775808 := fun x hx => by
  unfold caseB at h
  simp only [Bool.and_eq_true] at h
  obtain ⟨_, ht⟩ := ordsB_true h.1.1.2
  unfold idsL at hx
  obtain ⟨i, hi, rfl⟩ := List.mem_map.1 hx
  have := (ht i (List.mem_range.1 hi)).1
  unfold ordB inB at this
  simp only [Bool.and_eq_true, decide_eq_true_eq] at this
  omega

end Go.Proofs.YtidhnmmhniiolaaDoor
