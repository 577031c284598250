import Derived.Test.YtpmjkgdejcnmbaaPack0
import Derived.Test.YtpmjkgdejcnmbaaPack1
import Derived.WalkKit
import Derived.Deep.RegionLaw
namespace Go.Proofs.Ytpmjkgdejcnmbaa
open Go.RowKit

theorem grown_row {w w' : World} {row : Option Nat} {k : Nat} {o : Obj} (hg : w.grownBy w' row) (h : w.heap[k]? = some o) (hne : some k ≠ row) : w'.heap[k]? = some o := (hg.block k (row_lt h) hne).trans h

/-- What is owned of a row of numbers lies there. -/
theorem owns_ints {w : World} {base size g n cap : Nat} {e : TypeId} {zs : List Int} (h : w.ownsRow base e size (.slice (some ⟨g, 0, none⟩) n cap) n (zs.map (Value.int .i64))) : IntsAt w (some ⟨g, 0, none⟩) zs := by
  intro j hj
  refine ⟨g, 0, rfl, ?_⟩
  have := h.cells (g := g) rfl j (.int .i64 (zs.getD j 0)) (by simp [List.getD, hj])
  have hadd : (⟨g, 0, none⟩ : Addr).add j = ⟨g, 0 + j, none⟩ := by unfold Addr.add; split <;> simp_all
  rw [hadd] at this
  exact this

theorem owns_below {w w' : World} {base size n : Nat} {e : TypeId} {v : Value} {xs : List Value} (h : w.ownsRow base e size v n xs) (hb : Below w.heap.size w w') : w'.ownsRow base e size v n xs := by
  obtain ⟨h1, h2 | ⟨g, cap, cur, h2, h3, h4, h5⟩⟩ := h
  · exact ⟨h1, .inl h2⟩
  · exact ⟨h1, .inr ⟨g, cap, cur, h2, h3, below_row hb (row_lt h4) h4, h5⟩⟩

theorem own_some {w : World} {base k : Nat} {v : Value} {e : TypeId} {size : Nat} {xs : List Value} (h : w.ownsRow base e size v (k + 1) xs) : ∃ g c, v = .slice (some ⟨g, 0, none⟩) (k + 1) c ∧ base ≤ g := by
  obtain ⟨_, ⟨_, h2⟩ | ⟨g, cap, cur, h2, h3, _⟩⟩ := h
  · omega
  · exact ⟨g, cap, h2, h3⟩
theorem own_shape {w : World} {base k : Nat} {v : Value} {e : TypeId} {size : Nat} {xs : List Value} (h : w.ownsRow base e size v k xs) : v = .slice none 0 0 ∨ ∃ g c, v = .slice (some ⟨g, 0, none⟩) k c := by
  obtain ⟨_, ⟨h1, _⟩ | ⟨g, cap, cur, h2, _⟩⟩ := h
  · exact .inl h1
  · exact .inr ⟨g, cap, h2⟩
theorem owns_base {w : World} {base b0 k : Nat} {v : Value} {e : TypeId} {size : Nat} {xs : List Value} (h : w.ownsRow base e size v k xs) (hb : b0 ≤ base) : w.ownsRow b0 e size v k xs := by
  obtain ⟨h0, h1 | ⟨g, cap, cur, h2, h3, h4⟩⟩ := h
  · exact ⟨h0, .inl h1⟩
  · exact ⟨h0, .inr ⟨g, cap, cur, h2, Nat.le_trans hb h3, h4⟩⟩
theorem owns_set {w : World} {base k b i : Nat} {v u : Value} {e : TypeId} {size : Nat} {xs : List Value} (h : w.ownsRow base e size v k xs) (hb : b < base) : (w.setCell ⟨b, i, none⟩ u).ownsRow base e size v k xs := ownsRow_setCell_below h hb u
theorem owns_at1 {w : World} {base n : Nat} {e : TypeId} {sl : Value} {xs : List Int} (h : w.ownsRow base e 1 sl n (xs.map (Value.int .i64))) : ∃ a c, sl = .slice a xs.length c ∧ xs.length = n ∧ IntsAt w a xs := by
  obtain ⟨h1, ⟨rfl, h2⟩ | ⟨g, cap, cur, rfl, h3, h4, h5⟩⟩ := id h
  · subst h2
    have : xs = [] := by simpa using h1
    subst this
    exact ⟨none, 0, rfl, rfl, fun j hj => by simp at hj⟩
  · have hl : xs.length = n := by simpa using h1
    exact ⟨_, _, by rw [hl], hl, owns_ints h⟩

theorem cell_new1 (W : World) (v : Value) (T : TypeId) (g : Nat) (hg : W.heap.size = g) : (W.alloc (.cells #[v] T)).cell? ⟨g, 0, none⟩ = some v := by
  subst hg
  rw [cell_of_row _ _ 0 _ _ _ (heap_alloc_new W (.cells #[v] T))]
  simp
theorem one_cell {w : World} {ad : Addr} {x0 : Value} (hc : w.cell? ad = some x0) : ∀ j u, [x0][j]? = some u → w.cell? (ad.add j) = some u := by
  intro j u hu
  have hj : j = 0 := by
    rcases j with _ | j
    · rfl
    · simp at hu
  subst hj
  have : ad.add 0 = ad := by unfold Addr.add; split <;> simp_all
  rw [this, hc]
  simpa using hu
theorem append_int (w : World) {ops : Array Oper} {rest : List Oper} {o : Oper} {a : Act} {Q : Exit → Act → World → Prop}
    (hg : o.guard = none) (s x : Operand) (hop : o.op = Op.call { callee := Callee.builtin Builtin.append, args := #[s, x], argTypes := #[24, 24] })
    (base : Nat) (v : Value) (k : Nat) (xs : List Value) (hs : a.eval s = v) (hown : w.ownsRow base 2 1 v k xs) (ad : Addr) (c : Nat) (x0 : Value) (hx : a.eval x = .slice (some ad) 1 c)
    (hc : w.cell? ad = some x0) (h1c : x0.oneCell' = true) (b1 : k ≤ 1000) (hb : base ≤ w.heap.size)
    (hK : ∀ v' w', w'.ownsRow base 2 1 v' (k + 1) (xs ++ [x0]) → w.grownBy w' v.ownBlock → wpList Try.prog ops Q rest (a.put o.dst v') w') :
    wpList Try.prog ops Q (o :: rest) a w := by
  obtain ⟨i0, hi, hz0, hz1, hz2⟩ := info_parts Try.info2
  exact wpList_append_own w hg s x _ hop base _ i0 _ 1 8 Try.underlying24 hi hz0 hz1 hz2 rfl (by decide) v k xs hs hown ad 1 c [x0] hx rfl (one_cell hc) (by simpa using h1c) (by unfold maxLen; omega) (by omega) hb (fun v' w' h1 h2 _ => hK v' w' h1 h2)

/-- 'append' of a number to a slice of the call's own, as a step of a region that draws. -/
theorem step_append_int {ops : Array Oper} {o : Oper} {a : Act} {w : World} {K : Act → World → Prop} {Q : Exit → Act → World → Prop} {E : Prop}
    (hg : o.guard = none) (s x : Operand) (hop : o.op = Op.call { callee := Callee.builtin Builtin.append, args := #[s, x], argTypes := #[24, 24] })
    (base : Nat) (v : Value) (k : Nat) (xs : List Value) (hs : a.eval s = v) (hown : w.ownsRow base 2 1 v k xs) (ad : Addr) (c : Nat) (x0 : Value) (hx : a.eval x = .slice (some ad) 1 c)
    (hc : w.cell? ad = some x0) (h1c : x0.oneCell' = true) (b1 : k ≤ 1000) (hb : base ≤ w.heap.size)
    (hK : ∀ v' w', w'.ownsRow base 2 1 v' (k + 1) (xs ++ [x0]) → w.grownBy w' v.ownBlock → K (a.put o.dst v') w') :
    if Region.wanted o (yielded ops a.tmps) = true then Oper.wp Try.prog o a w K Q else E := by
  have hw : Region.wanted o (yielded ops a.tmps) = true := by simp [Region.wanted, hg]
  rw [if_pos hw]
  obtain ⟨i0, hi, hz0, hz1, hz2⟩ := info_parts Try.info2
  obtain ⟨v', w', hrun, r1, r2, _⟩ := run_append_own (P := Try.prog) w base 24 o.type _ i0 _ 1 8 Try.underlying24 hi hz0 hz1 hz2 rfl (by decide) v k xs hown ad 1 c [x0] rfl (one_cell hc) (by simpa using h1c) (by unfold maxLen; omega) (by omega) hb
  unfold Oper.wp
  simp [execOp, hop, resolve, invoke, builtin, hs, hx, hrun, Result.andThen]
  exact hK _ _ r1 r2

end Go.Proofs.Ytpmjkgdejcnmbaa

namespace Go.Proofs.Ytpmjkgdejcnmbaa
open Go.RowKit

/-- The places that are in, as the model's list of numbers. -/
def numL (l : List Nat) : List Int := l.map fun (p : Nat) => (p : Int)
theorem numL_length (l : List Nat) : (numL l).length = l.length := by simp [numL]
theorem numL_get (l : List Nat) (j : Nat) (h : j < l.length) : (numL l).getD j 0 = (l[j] : Nat) := by simp [numL, List.getD, h]
theorem has_num (l : List Nat) (p : Nat) : hasTo (numL l) l.length (p : Int) = decide (p ∈ l) := by
  by_cases h : p ∈ l
  · obtain ⟨j, hj, e⟩ := List.getElem_of_mem h
    rw [hasTo_yes hj (by rw [numL_get l j hj, e])]
    simp [h]
  · rw [hasTo_no (fun j hj => by
      rw [numL_get l j hj]
      intro e
      have e' : l[j] = p := by omega
      exact h (e' ▸ List.getElem_mem hj))]
    simp [h]
/-- What is known of the places that are in. -/
def inOk (n : Nat) (es : List Int) (l : List Nat) : Prop := l.Nodup ∧ (∀ x ∈ l, x < n) ∧ 0 ∈ l ∧ ∀ T : Nat → Prop, shut (endA es) (endB es) (n - 1) T → T 0 → ∀ x ∈ l, T x
theorem inOk_one {n : Nat} (es : List Int) (h : 1 ≤ n) : inOk n es [0] := by
  refine ⟨by simp, by simp; omega, by simp, fun T _ h0 x hx => ?_⟩
  have : x = 0 := by simpa using hx
  rw [this]; exact h0
theorem inOk_add {n k : Nat} {es : List Int} {l : List Nat} (h : inOk n es l) (hk : k < n - 1) {x y : Nat} (hxy : (x = endA es k ∧ y = endB es k) ∨ (x = endB es k ∧ y = endA es k)) (hx : x ∈ l) (hy : y ∉ l) (hyn : y < n) : inOk n es (l ++ [y]) := by
  obtain ⟨h1, h2, h3, h4⟩ := h
  refine ⟨?_, ?_, by simp [h3], ?_⟩
  · rw [List.nodup_append]
    refine ⟨h1, by simp, fun a ha b hb => ?_⟩
    have : b = y := by simpa using hb
    rw [this]
    exact fun e => hy (e ▸ ha)
  · intro z hz
    rcases List.mem_append.1 hz with hz | hz
    · exact h2 z hz
    · have : z = y := by simpa using hz
      rw [this]; exact hyn
  · intro T hT h0 z hz
    rcases List.mem_append.1 hz with hz | hz
    · exact h4 T hT h0 z hz
    · have : z = y := by simpa using hz
      rw [this]
      have tx := h4 T hT h0 x hx
      rcases hxy with ⟨rfl, rfl⟩ | ⟨rfl, rfl⟩
      · exact (hT k hk).1 tx
      · exact (hT k hk).2 tx
theorem inOk_len {n : Nat} {es : List Int} {l : List Nat} (h : inOk n es l) : l.length ≤ n := nodup_len n l h.1 h.2.1
theorem inOk_more {n y : Nat} {es : List Int} {l : List Nat} (h : inOk n es l) (hy : y ∉ l) (hyn : y < n) : l.length < n := nodup_miss h.1 h.2.1 hyn hy
/-- The edges are of the n places. -/
def edgesTo (n : Int) (es : List Int) (k : Nat) : Prop := ∀ j, j < k → inB (og3 es j 0) 0 (n - 1) = true ∧ inB (og3 es j 1) 0 (n - 1) = true
theorem edgesTo_step {n : Int} {es : List Int} {k : Nat} (h : edgesTo n es k) (h1 : inB (og3 es k 0) 0 (n - 1) = true) (h2 : inB (og3 es k 1) 0 (n - 1) = true) : edgesTo n es (k + 1) := by
  intro j hj
  by_cases e : j = k
  · rw [e]; exact ⟨h1, h2⟩
  · exact h j (by omega)
/-- The edges up to k have both ends in, or none. -/
def evenTo (es : List Int) (l : List Nat) (k : Nat) : Prop := ∀ j, j < k → (endA es j ∈ l ↔ endB es j ∈ l)
theorem evenTo_step {es : List Int} {l : List Nat} {k : Nat} (h : evenTo es l k) (h1 : endA es k ∈ l ↔ endB es k ∈ l) : evenTo es l (k + 1) := by
  intro j hj
  by_cases e : j = k
  · rw [e]; exact h1
  · exact h j (by omega)
/-- At the end the model's answer is the program's. -/
theorem span_end {n m : Nat} {es : List Int} {l : List Nat} (h1 : 1 ≤ n) (h2 : n ≤ 16) (hm : m + 1 = n) (hI : inOk n es l) (hE : edgesTo n es m) (hV : evenTo es l m) : decide (((l.length : Nat) : Int) = (n : Int)) = spanB n es m := by
  have hm' : n - 1 = m := by omega
  have eA : ∀ k, k < n - 1 → endA es k < n := fun k hk => (place_nat (hE k (by omega)).1).2
  have eB : ∀ k, k < n - 1 → endB es k < n := fun k hk => (place_nat (hE k (by omega)).2).2
  have hsh : shut (endA es) (endB es) (n - 1) (fun p => p ∈ l) := fun k hk => hV k (by omega)
  cases hs : spanB n es m
  · apply decide_eq_false
    intro e
    have hno : ¬ ∀ k, k < m → joins (endA es) (endB es) k := fun h => by
      rw [spanB_yes (by omega) (by omega) (by omega) (fun j hj => ⟨(hE j hj).1, (hE j hj).2, h j hj⟩)] at hs
      cases hs
    obtain ⟨j, hj⟩ := Classical.not_forall.1 hno
    obtain ⟨hj1, hj2⟩ := Classical.not_imp.1 hj
    obtain ⟨T, hT, h0, p, hp, hnp⟩ := shut_some eA eB (show j < n - 1 by omega) hj2
    have := inOk_more hI (fun x => hnp (hI.2.2.2 T hT h0 p x)) hp
    omega
  · apply decide_eq_true
    have hsp := spanB_true hs
    have := nodup_full hI.1 hI.2.1 (fun p hp => shut_all (by omega) eA eB (fun k hk => (hsp k (by omega)).2.2) hsh hI.2.2.1 hp)
    omega

theorem append_num (l : List Nat) (y : Nat) : (numL l).map (Value.int .i64) ++ [Value.int .i64 (y : Int)] = (numL (l ++ [y])).map (Value.int .i64) := by simp [numL]

set_option maxHeartbeats 400000 in
theorem l9One_any (ad : Option Addr) (m cap : Nat) (x y : Int) (zs : List Int) (w : World) (v : Bool) (hv : hasTo zs m x = v) (hA : IntsAt w ad zs) (hm : m ≤ zs.length) (hlen : m ≤ 9223372036854775807) :
    Calls Try.prog 41 #[.slice ad m cap, .int .i64 x, .int .i64 y] w fun e w' => e = .returned (.int .i64 (if v = true then x else y)) ∧ w' = w := by
  have HA : Hid (IntsAt w ad zs) := hA
  have HV : Hid (hasTo zs m x = v) := hv
  clear hA hv
  cases v
  · go_enter Try.func41, Try.ntmps41
    go_wp2_with (go_at_call 33; refine (l3Has_is _ m _ _ zs _ false HV.out HA.out hm hlen).mono ?_; rintro e w' ⟨rfl, rfl⟩)
    go_ret
    exact ⟨by simp, rfl⟩
  · go_enter Try.func41, Try.ntmps41
    go_wp2_with (go_at_call 33; refine (l3Has_is _ m _ _ zs _ true HV.out HA.out hm hlen).mono ?_; rintro e w' ⟨rfl, rfl⟩)
    go_ret
    exact ⟨by simp, rfl⟩

theorem l9One_is (ad : Option Addr) (m cap : Nat) (x y : Int) (zs : List Int) (w : World) (v : Bool) (z : Int) (hz : (if v = true then x else y) = z) (hv : hasTo zs m x = v) (hA : IntsAt w ad zs) (hm : m ≤ zs.length) (hlen : m ≤ 9223372036854775807) :
    Calls Try.prog 41 #[.slice ad m cap, .int .i64 x, .int .i64 y] w fun e w' => e = .returned (.int .i64 z) ∧ w' = w := hz ▸ l9One_any ad m cap x y zs w v hv hA hm hlen

set_option maxHeartbeats 400000 in
theorem specSpan_out (n : Int) (a : Option Addr) (m cap : Nat) (w : World) (h : ¬ (1 ≤ n ∧ n ≤ 16 ∧ (m : Int) = n - 1)) :
    Calls Try.prog 26 #[.int .i64 n, .slice a m cap] w fun e w' => e = .returned (.bool false) ∧ Below w.heap.size w w' := by
  by_cases hn : 1 ≤ n ∧ n ≤ 16
  · have hd1 : inB n 1 16 = true := inB_mk hn
    have hne : ((m : Int) != n - 1) = true := by rw [bne_iff_ne]; exact fun e => h ⟨hn.1, hn.2, e⟩
    clear h
    go_enter Try.func26, Try.ntmps26
    go_wp2_with (go_at_call 28; refine (l1In_any _ _ _ _).mono ?_; rintro e w' ⟨rfl, rfl⟩)
    go_ret
    exact ⟨rfl, Below.refl _ _⟩
  · have hd1 : inB n 1 16 = false := inB_not hn
    clear h hn
    go_enter Try.func26, Try.ntmps26
    go_wp2_with (go_at_call 28; refine (l1In_any _ _ _ _).mono ?_; rintro e w' ⟨rfl, rfl⟩)
    go_ret
    exact ⟨rfl, Below.refl _ _⟩

/-- The length of a slice, and a truth as a number. -/
def sliceLen : Value → Nat
  | .slice _ n _ => n
  | _ => 0
def truthNum : Value → Nat
  | .bool true => 1
  | _ => 0
/-- The list that is in, in the model's own memory. -/
def SL (w W : World) (sl : Value) (l : List Nat) : Prop := W.ownsRow w.heap.size 2 1 sl l.length ((numL l).map (Value.int .i64)) ∧ Below w.heap.size w W

theorem SL.o {w W : World} {sl : Value} {l : List Nat} (h : SL w W sl l) : W.ownsRow w.heap.size 2 1 sl l.length ((numL l).map (Value.int .i64)) := h.1
theorem SL.b {w W : World} {sl : Value} {l : List Nat} (h : SL w W sl l) : Below w.heap.size w W := h.2
theorem SL.shape {w W : World} {sl : Value} {l : List Nat} (h : SL w W sl l) (h0 : 0 < l.length) : ∃ g c, sl = .slice (some ⟨g, 0, none⟩) l.length c := by
  rcases own_shape h.o with e | e
  · obtain ⟨_, ⟨_, h3⟩ | ⟨g, cap, cur, h2, _⟩⟩ := h.1
    · omega
    · exact ⟨g, cap, h2⟩
  · exact e
theorem SL.grown {w W W' : World} {v v' : Value} {l : List Nat} {o : Obj} {y : Nat} {x0 : Int} (ho : W.ownsRow w.heap.size 2 1 v l.length ((numL l).map (Value.int .i64))) (hb : Below w.heap.size w W) (h : W'.ownsRow w.heap.size 2 1 v' (l.length + 1) ((numL l).map (Value.int .i64) ++ [.int .i64 x0])) (hg : (W.alloc o).grownBy W' v.ownBlock) (hx : x0 = (y : Int)) : SL w W' v' (l ++ [y]) := by
  subst hx
  refine ⟨?_, ?_⟩
  · rw [append_num] at h
    rw [List.length_append]
    exact h
  · have hA : Below w.heap.size w (W.alloc o) := hb.alloc hb.size _
    exact hA.grown hg hA.size (fun k e => (ho.lt k e).1)

theorem bool_dec (x y : Int) : (x == y) = decide (x = y) := by by_cases h : x = y <;> simp [h]

set_option maxHeartbeats 2000000 in
theorem specSpan_loop (n m : Nat) (a : Option Addr) (cap : Nat) (es : List Int) (w : World) (h1 : 1 ≤ n) (h2 : n ≤ 16) (hm : m + 1 = n) (hl : es.length = m * 3) (hA : IntsAt w a es) :
    Calls Try.prog 26 #[.int .i64 n, .slice a m cap] w fun e w' => e = .returned (.bool (spanB n es m)) ∧ Below w.heap.size w w' := by
  obtain ⟨r, HR⟩ : ∃ r, Hid (spanB n es m = r) := ⟨_, rfl⟩
  rw [HR.out]
  have hd1 : inB (n : Int) 1 16 = true := inB_mk (by omega)
  have hne : ((m : Int) != (n : Int) - 1) = false := by rw [bne_eq_false_iff_eq]; omega
  have HA : Hid (IntsAt w a es) := hA
  have HL : Hid (es.length = m * 3) := hl
  clear hA hl
  go_enter Try.func26, Try.ntmps26
  go_wp2_with (go_at_call 28; refine (l1In_any _ _ _ _).mono ?_; rintro e w' ⟨rfl, hw'⟩; subst w')
  clear hne hd1
  go_loopw [5, 6] (fun sl mo wr => ∃ (l : List Nat) (b : Bool), mo = .bool b ∧ SL w wr sl l ∧ inOk n es l ∧ (b = false → edgesTo n es m ∧ evenTo es l m)) (fun sl mo _ => 2 * (n + 1 - sliceLen sl) + truthNum mo)
  case atStart =>
    refine ⟨[0], true, rfl, ⟨?_, (Below.refl _ _).alloc (Nat.le_refl _) _⟩, inOk_one es h1, fun h => by cases h⟩
    exact ⟨by simp [numL], .inr ⟨w.heap.size, 1, #[.int .i64 0], rfl, Nat.le_refl _, heap_alloc_new _ _, by simp, by unfold maxLen; omega, by simp, by simp [numL]⟩⟩
  case round =>
    obtain ⟨l, b, rfl, hs, hi, hbe⟩ := hrel
    have hl0 : 0 < l.length := List.length_pos_of_mem hi.2.2.1
    have hln := inOk_len hi
    obtain ⟨g, c, rfl⟩ := hs.shape hl0
    have S1 : Hid (SL w wr (.slice (some ⟨g, 0, none⟩) l.length c) l) := hs
    have I1 : Hid (inOk n es l) := hi
    have E1 : Hid (b = false → edgesTo n es m ∧ evenTo es l m) := hbe
    clear hs hi hbe
    cases b
    · have heb : ((l.length : Int) == (n : Int)) = r := by
        rw [bool_dec, span_end h1 h2 hm I1.out (E1.out rfl).1 (E1.out rfl).2]; exact HR.out
      go_wp2
      go_ret
      exact ⟨rfl, S1.out.b⟩
    · go_wp2_with fail
      go_loopw [5, 6, 7] (fun sl mo t wr => ∃ (l2 : List Nat) (b2 : Bool) (k : Nat), k ≤ m ∧ t = .int .i64 k ∧ mo = .bool b2 ∧ SL w wr sl l2 ∧ inOk n es l2 ∧ edgesTo n es k ∧ (b2 = false → evenTo es l2 k ∧ l2 = l) ∧ (b2 = true → l.length < l2.length) ∧ l.length ≤ l2.length) (fun _ _ t _ => m - (intOf t).toNat)
      case atStart => exact ⟨l, false, 0, Nat.zero_le _, rfl, rfl, S1.out, I1.out, fun j hj => by omega, (fun _ => ⟨fun j hj => by omega, rfl⟩), (fun h => by cases h), Nat.le_refl _⟩
      case round =>
        clear S1 I1 E1
        obtain ⟨l2, b2, k, hk, rfl, rfl, hs, hi, hed, hev, hle, hle2⟩ := hrel
        have hl0' : 0 < l2.length := List.length_pos_of_mem hi.2.2.1
        have hln2 := inOk_len hi
        obtain ⟨g2, c2, rfl⟩ := hs.shape hl0'
        have S2 : Hid (SL w wr (.slice (some ⟨g2, 0, none⟩) l2.length c2) l2) := hs
        have I2 : Hid (inOk n es l2) := hi
        have D2 : Hid (edgesTo n es k) := hed
        have E2 : Hid (b2 = false → evenTo es l2 k ∧ l2 = l) := hev
        have L2 : Hid (b2 = true → l.length < l2.length) := hle
        have LE2 : Hid (l.length ≤ l2.length) := hle2
        clear hs hi hed hev hle hle2
        by_cases hlt : k < m
        · obtain ⟨bb, off, rfl, hcs⟩ := IntsAt.some (HA.out.below S2.out.b) (j := k * 3) (by rw [HL.out]; omega)
          obtain ⟨ca, cb, ct⟩ := row3_at hcs HL.out k hlt
          clear hcs ct
          have HEA : Hid (endA es k = (og3 es k 0).toNat) := rfl
          have HEB : Hid (endB es k = (og3 es k 1).toNat) := rfl
          have HBAD : Hid (¬ (inB (og3 es k 0) 0 ((n : Int) - 1) = true ∧ inB (og3 es k 1) 0 ((n : Int) - 1) = true) → r = false) := fun h => HR.out.symm.trans (spanB_bad hlt (fun x => h ⟨x.1, x.2.1⟩))
          have HSTEP : Hid (inB (og3 es k 0) 0 ((n : Int) - 1) = true → inB (og3 es k 1) 0 ((n : Int) - 1) = true → edgesTo n es (k + 1)) := fun x y => edgesTo_step D2.out x y
          obtain ⟨x, H0⟩ : ∃ t, Hid (og3 es k 0 = t) := ⟨_, rfl⟩
          obtain ⟨y, H1⟩ : ∃ t, Hid (og3 es k 1 = t) := ⟨_, rfl⟩
          rw [H0.out] at ca HEA HBAD HSTEP
          rw [H1.out] at cb HEB HBAD HSTEP
          cases hin : inB x 0 ((n : Int) - 1)
          · have HV : Hid (r = false) := HBAD.out (by rw [hin]; simp)
            go_wp2_with (go_at_call 28; refine (l1In_any _ _ _ _).mono ?_; rintro e w' ⟨rfl, hw'⟩; subst w')
            go_ret
            exact ⟨ret_bool HV.out.symm, S2.out.b⟩
          · cases hiny : inB y 0 ((n : Int) - 1)
            · have HV : Hid (r = false) := HBAD.out (by rw [hiny]; simp)
              go_wp2_with (go_at_call 28; refine (l1In_any _ _ _ _).mono ?_; rintro e w' ⟨rfl, hw'⟩; subst w')
              go_ret
              exact ⟨ret_bool HV.out.symm, S2.out.b⟩
            · have HED : Hid (edgesTo n es (k + 1)) := HSTEP.out hin hiny
              obtain ⟨px1, px2⟩ := place_nat hin
              obtain ⟨py1, py2⟩ := place_nat hiny
              have HXA : Hid (endA es k = x.toNat) := HEA.out
              have HYB : Hid (endB es k = y.toNat) := HEB.out
              clear HSTEP HBAD HEA HEB
              obtain ⟨xn, HXN⟩ : ∃ c, Hid (x.toNat = c) := ⟨_, rfl⟩
              obtain ⟨yn, HYN⟩ : ∃ c, Hid (y.toNat = c) := ⟨_, rfl⟩
              rw [HXN.out] at px1 px2 HXA
              rw [HYN.out] at py1 py2 HYB
              clear HXN HYN
              subst px1 py1
              have HIN : Hid (IntsAt wr (some ⟨g2, 0, none⟩) (numL l2)) := owns_ints S2.out.o
              have HLE : Hid (l2.length ≤ (numL l2).length) := by rw [numL_length]; exact Nat.le_refl _
              have hlb : l2.length ≤ 9223372036854775807 := by omega
              by_cases hx : xn ∈ l2
              · have HHX : Hid (hasTo (numL l2) l2.length (xn : Int) = true) := by show _ = _; rw [has_num]; simp [hx]
                by_cases hy : yn ∈ l2
                · have HHY : Hid (hasTo (numL l2) l2.length (yn : Int) = true) := by show _ = _; rw [has_num]; simp [hy]
                  have HIFF : Hid (xn ∈ l2 ↔ yn ∈ l2) := ⟨fun _ => hy, fun _ => hx⟩
                  clear hx hy
                  have HEV : Hid (b2 = false → evenTo es l2 (k + 1) ∧ l2 = l) := fun h => ⟨evenTo_step (E2.out h).1 (by rw [HXA.out, HYB.out]; exact HIFF.out), (E2.out h).2⟩
                  go_wp2_with (first
                    | (go_at_call 28; refine (l1In_any _ _ _ _).mono ?_; rintro e w' ⟨rfl, hw'⟩; subst w')
                    | (go_at_call 33; with_reducible refine (l3Has_is _ _ _ (xn : Int) _ _ _ HHX.out HIN.out HLE.out hlb).mono ?_; rintro e w' ⟨rfl, hw'⟩; subst w')
                    | (go_at_call 33; with_reducible refine (l3Has_is _ _ _ (yn : Int) _ _ _ HHY.out HIN.out HLE.out hlb).mono ?_; rintro e w' ⟨rfl, hw'⟩; subst w'))
                  refine ⟨⟨l2, b2, k + 1, by omega, by go_num, rfl, S2.out, I2.out, HED.out, HEV.out, L2.out, LE2.out⟩, by simp [intOf]; omega⟩
                · have HHY : Hid (hasTo (numL l2) l2.length (yn : Int) = false) := by show _ = _; rw [has_num]; simp [hy]
                  have MI : Hid (xn ∈ l2) := hx
                  have MO : Hid (yn ∉ l2) := hy
                  clear hx hy
                  have HN : Hid (inOk n es (l2 ++ [yn])) := inOk_add I2.out (k := k) (by omega) (Or.inl ⟨HXA.out.symm, HYB.out.symm⟩) MI.out MO.out py2
                  have hlt2 : l2.length < n := inOk_more I2.out MO.out py2
                  have HOW : Hid (wr.ownsRow w.heap.size 2 1 (.slice (some ⟨g2, 0, none⟩) l2.length c2) l2.length ((numL l2).map (Value.int .i64))) := S2.out.o
                  have HBL : Hid (Below w.heap.size w wr) := S2.out.b
                  go_wp2_with (first
                    | (go_at_call 28; refine (l1In_any _ _ _ _).mono ?_; rintro e w' ⟨rfl, hw'⟩; subst w')
                    | (go_at_call 33; with_reducible refine (l3Has_is _ _ _ (xn : Int) _ _ _ HHX.out HIN.out HLE.out hlb).mono ?_; rintro e w' ⟨rfl, hw'⟩; subst w')
                    | (go_at_call 33; with_reducible refine (l3Has_is _ _ _ (yn : Int) _ _ _ HHY.out HIN.out HLE.out hlb).mono ?_; rintro e w' ⟨rfl, hw'⟩; subst w')
                    | (go_at_call 41; refine (l9One_is _ _ _ (xn : Int) (yn : Int) _ _ true (xn : Int) (by simp) HHX.out HIN.out HLE.out hlb).mono ?_; rintro e w' ⟨rfl, hw'⟩; subst w')
                    | (at_builtin
                       refine append_int _ rfl _ _ rfl w.heap.size _ l2.length _ rfl (HOW.out.alloc _) _ _ _ rfl (cell_new1 _ _ _ _ (by simp)) rfl (by omega) (Nat.le_trans HBL.out.size (by simp)) ?_
                       intro v' w4 hown hg
                       have O4 : Hid (SL w w4 v' (l2 ++ [yn])) := SL.grown HOW.out HBL.out hown hg (by omega)
                       clear hown hg))
                  go_roundw
                  case rel => exact ⟨l2 ++ [yn], true, k + 1, by omega, by first | rfl | go_num, rfl, O4.out, HN.out, HED.out, (fun h => by cases h), (fun _ => by have := LE2.out; rw [List.length_append]; simp; omega), (by have := LE2.out; rw [List.length_append]; omega)⟩
                  case measure => simp [intOf]; omega
              · have HHX : Hid (hasTo (numL l2) l2.length (xn : Int) = false) := by show _ = _; rw [has_num]; simp [hx]
                by_cases hy : yn ∈ l2
                · have HHY : Hid (hasTo (numL l2) l2.length (yn : Int) = true) := by show _ = _; rw [has_num]; simp [hy]
                  have MI : Hid (yn ∈ l2) := hy
                  have MO : Hid (xn ∉ l2) := hx
                  clear hx hy
                  have HN : Hid (inOk n es (l2 ++ [xn])) := inOk_add I2.out (k := k) (by omega) (Or.inr ⟨HYB.out.symm, HXA.out.symm⟩) MI.out MO.out px2
                  have hlt2 : l2.length < n := inOk_more I2.out MO.out px2
                  have HOW : Hid (wr.ownsRow w.heap.size 2 1 (.slice (some ⟨g2, 0, none⟩) l2.length c2) l2.length ((numL l2).map (Value.int .i64))) := S2.out.o
                  have HBL : Hid (Below w.heap.size w wr) := S2.out.b
                  go_wp2_with (first
                    | (go_at_call 28; refine (l1In_any _ _ _ _).mono ?_; rintro e w' ⟨rfl, hw'⟩; subst w')
                    | (go_at_call 33; with_reducible refine (l3Has_is _ _ _ (xn : Int) _ _ _ HHX.out HIN.out HLE.out hlb).mono ?_; rintro e w' ⟨rfl, hw'⟩; subst w')
                    | (go_at_call 33; with_reducible refine (l3Has_is _ _ _ (yn : Int) _ _ _ HHY.out HIN.out HLE.out hlb).mono ?_; rintro e w' ⟨rfl, hw'⟩; subst w')
                    | (go_at_call 41; refine (l9One_is _ _ _ (xn : Int) (yn : Int) _ _ false (yn : Int) (by simp) HHX.out HIN.out HLE.out hlb).mono ?_; rintro e w' ⟨rfl, hw'⟩; subst w')
                    | (at_builtin
                       refine append_int _ rfl _ _ rfl w.heap.size _ l2.length _ rfl (HOW.out.alloc _) _ _ _ rfl (cell_new1 _ _ _ _ (by simp)) rfl (by omega) (Nat.le_trans HBL.out.size (by simp)) ?_
                       intro v' w4 hown hg
                       have O4 : Hid (SL w w4 v' (l2 ++ [xn])) := SL.grown HOW.out HBL.out hown hg (by omega)
                       clear hown hg))
                  go_roundw
                  case rel => exact ⟨l2 ++ [xn], true, k + 1, by omega, by first | rfl | go_num, rfl, O4.out, HN.out, HED.out, (fun h => by cases h), (fun _ => by have := LE2.out; rw [List.length_append]; simp; omega), (by have := LE2.out; rw [List.length_append]; omega)⟩
                  case measure => simp [intOf]; omega
                · have HHY : Hid (hasTo (numL l2) l2.length (yn : Int) = false) := by show _ = _; rw [has_num]; simp [hy]
                  have HIFF : Hid (xn ∈ l2 ↔ yn ∈ l2) := ⟨fun h => absurd h hx, fun h => absurd h hy⟩
                  clear hx hy
                  have HEV : Hid (b2 = false → evenTo es l2 (k + 1) ∧ l2 = l) := fun h => ⟨evenTo_step (E2.out h).1 (by rw [HXA.out, HYB.out]; exact HIFF.out), (E2.out h).2⟩
                  go_wp2_with (first
                    | (go_at_call 28; refine (l1In_any _ _ _ _).mono ?_; rintro e w' ⟨rfl, hw'⟩; subst w')
                    | (go_at_call 33; with_reducible refine (l3Has_is _ _ _ (xn : Int) _ _ _ HHX.out HIN.out HLE.out hlb).mono ?_; rintro e w' ⟨rfl, hw'⟩; subst w')
                    | (go_at_call 33; with_reducible refine (l3Has_is _ _ _ (yn : Int) _ _ _ HHY.out HIN.out HLE.out hlb).mono ?_; rintro e w' ⟨rfl, hw'⟩; subst w'))
                  refine ⟨⟨l2, b2, k + 1, by omega, by go_num, rfl, S2.out, I2.out, HED.out, HEV.out, L2.out, LE2.out⟩, by simp [intOf]; omega⟩
        · have hkm : k = m := by omega
          have HED : Hid (edgesTo n es m) := hkm ▸ D2.out
          have HEV : Hid (b2 = false → evenTo es l2 m) := fun h => hkm ▸ (E2.out h).1
          have HLL : Hid (b2 = false → l2.length = l.length) := fun h => by rw [(E2.out h).2]
          clear hkm
          go_wp2
          go_roundw
          case rel => exact ⟨l2, b2, rfl, S2.out, I2.out, fun h => ⟨HED.out, HEV.out h⟩⟩
          case measure =>
            have a1 := HLL.out
            have a2 := L2.out
            cases b2
            · have := a1 rfl
              simp [sliceLen, truthNum]
              omega
            · have := a2 rfl
              simp [sliceLen, truthNum]
              omega

theorem specSpan_any (n : Int) (a : Option Addr) (m cap : Nat) (es : List Int) (w : World) (hA : IntsAt w a es) (hl : es.length = m * 3) :
    Calls Try.prog 26 #[.int .i64 n, .slice a m cap] w fun e w' => e = .returned (.bool (spanB n es m)) ∧ Below w.heap.size w w' := by
  by_cases h : 1 ≤ n ∧ n ≤ 16 ∧ (m : Int) = n - 1
  · obtain ⟨q, rfl⟩ := Int.eq_ofNat_of_zero_le (show 0 ≤ n by omega)
    exact specSpan_loop q m a cap es w (by omega) (by omega) (by omega) hl hA
  · rw [spanB_out h]
    exact specSpan_out n a m cap w h

end Go.Proofs.Ytpmjkgdejcnmbaa

namespace Go.Proofs.Ytpmjkgdejcnmbaa
open Go.RowKit

set_option maxHeartbeats 400000 in
theorem lawSpans_big (n : Int) (esa : Option Addr) (esc esn : Nat) (w : World) (hles : esn ≤ 9223372036854775807) (h : ¬ (esn ≤ 1048576)) :
    Calls Try.prog 8 #[.int .i64 n, .slice esa esn esc] w fun e w' => e = .returned (.bool true) ∧ Below w.heap.size w w' := by
  have g0 : 1048576 < esn := by omega
  clear h
  go_enter Try.func8, Try.ntmps8
  go_wp2_with (go_at_call 21; refine (szEdge_any _ _ _ _ _ (by omega) (by omega) (by omega)).mono ?_; rintro e w' ⟨rfl, rfl⟩; rw [if_pos (by omega)])
  go_ret
  exact ⟨rfl, Below.refl _ _⟩

set_option maxHeartbeats 1000000 in
theorem lawSpans (n : Int) (esa : Option Addr) (esc : Nat) (es : List Int) (esn : Nat) (w : World) (hes : IntsAt w esa es) (hles : es.length = esn * 3) (hses : esn ≤ 1048576) :
    Calls Try.prog 8 #[.int .i64 n, .slice esa esn esc] w fun e w' => e = .returned (.bool true) ∧ Below w.heap.size w w' := by
  have Hes : Hid (IntsAt w esa es) := hes
  have HLes : Hid (es.length = esn * 3) := hles
  clear hes hles
  obtain ⟨r0, HR0⟩ : ∃ r, Hid (spanB n es esn = r) := ⟨_, rfl⟩
  have hrr0 : (r0 != r0) = false := by simp
  have B0 : Hid (Below w.heap.size w w) := Below.refl _ _
  go_enter Try.func8, Try.ntmps8
  go_wp2_with fail
  refine (szEdge_any _ _ _ _ _ (by omega) (by omega) (by omega)).mono ?_
  rintro e w1 ⟨rfl, hw1⟩
  subst w1
  rw [if_neg (by omega)]
  go_wp2_with fail
  refine (toEdgeS_any _ _ _ es _ (Hes.out.below B0.out) HLes.out (by omega)).mono ?_
  rintro e v1 ⟨rfl, hb, hg⟩
  have B_v1 : Hid (Below w.heap.size w v1) := B0.out.trans (hb.mono B0.out.size)
  have F1 : Hid (IntsAt v1 (some ⟨w.heap.size, 0, none⟩) es) := IntsAt.of_row hg
  clear hb hg
  go_wp2_with fail
  refine (specSpan_any _ _ _ _ es _ F1.out HLes.out).mono ?_
  rintro e v2 ⟨rfl, hb⟩
  rw [HR0.out]
  have B_v2 : Hid (Below w.heap.size w v2) := B_v1.out.trans (hb.mono B_v1.out.size)
  have F1' : Hid (IntsAt v2 (some ⟨w.heap.size, 0, none⟩) es) := F1.out.below hb
  clear F1
  clear B_v1
  clear hb
  clear F1'
  go_wp2_with fail
  refine (toEdgeS_any _ _ _ es _ (Hes.out.below B_v2.out) HLes.out (by omega)).mono ?_
  rintro e v3 ⟨rfl, hb, hg⟩
  have B_v3 : Hid (Below w.heap.size w v3) := B_v2.out.trans (hb.mono B_v2.out.size)
  clear B_v2
  have F3 : Hid (IntsAt v3 (some ⟨v2.heap.size, 0, none⟩) es) := IntsAt.of_row hg
  clear hb hg
  go_wp2_with fail
  refine (implSpan_any _ _ _ _ es _ F3.out HLes.out).mono ?_
  rintro e v4 ⟨rfl, hb⟩
  rw [HR0.out]
  have B_v4 : Hid (Below w.heap.size w v4) := B_v3.out.trans (hb.mono B_v3.out.size)
  have F3' : Hid (IntsAt v4 (some ⟨v2.heap.size, 0, none⟩) es) := F3.out.below hb
  clear F3
  clear B_v3
  clear hb
  go_wp2_with fail
  refine (toEdgeS_any _ _ _ es _ (Hes.out.below B_v4.out) HLes.out (by omega)).mono ?_
  rintro e v5 ⟨rfl, hb, hg⟩
  have B_v5 : Hid (Below w.heap.size w v5) := B_v4.out.trans (hb.mono B_v4.out.size)
  have F3'' : Hid (IntsAt v5 (some ⟨v2.heap.size, 0, none⟩) es) := F3'.out.below hb
  clear F3'
  clear B_v4
  have F5 : Hid (IntsAt v5 (some ⟨v4.heap.size, 0, none⟩) es) := IntsAt.of_row hg
  clear hb hg
  go_wp2_with fail
  refine (eqEdgeS_same _ _ _ _ _ es _ F3''.out F5.out HLes.out (by omega)).mono ?_
  rintro e v6 ⟨rfl, hb⟩
  have B_v6 : Hid (Below w.heap.size w v6) := B_v5.out.trans (hb.mono B_v5.out.size)
  have F3''' : Hid (IntsAt v6 (some ⟨v2.heap.size, 0, none⟩) es) := F3''.out.below hb
  clear F3''
  have F5' : Hid (IntsAt v6 (some ⟨v4.heap.size, 0, none⟩) es) := F5.out.below hb
  clear F5
  clear B_v5
  clear hb
  clear F5'
  go_wp2
  go_ret
  exact ⟨rfl, B_v6.out⟩

end Go.Proofs.Ytpmjkgdejcnmbaa
