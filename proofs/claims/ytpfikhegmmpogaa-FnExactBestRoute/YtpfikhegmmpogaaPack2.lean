import Derived.Test.YtpfikhegmmpogaaPack0
import Derived.Test.YtpfikhegmmpogaaPack1
import Derived.WalkKit
import Derived.Deep.RegionLaw
namespace Go.Proofs.Ytpfikhegmmpogaa
open Go.RowKit

theorem grown_row {w w' : World} {row : Option Nat} {k : Nat} {o : Obj} (hg : w.grownBy w' row) (h : w.heap[k]? = some o) (hne : some k ≠ row) : w'.heap[k]? = some o := (hg.block k (row_lt h) hne).trans h

/-- What is owned of a row of numbers lies there. -/
theorem owns_ints {w : World} {base size g n cap : Nat} {e : TypeId} {zs : List Int} (h : w.ownsRow base e size (.slice (some ⟨g, 0, none⟩) n cap) n (zs.map (Value.int .i64))) : IntsAt w (some ⟨g, 0, none⟩) zs := by
  intro j hj
  refine ⟨g, 0, rfl, ?_⟩
  have := h.cells (g := g) rfl j (.int .i64 (zs.getD j 0)) (by simp [List.getD, hj])
  have hadd : (⟨g, 0, none⟩ : Addr).add j = ⟨g, 0 + j, none⟩ := by unfold Addr.add; split <;> simp_all
  rw [hadd] at this
  exact this

theorem owns_below {w w' : World} {base size n : Nat} {e : TypeId} {v : Value} {xs : List Value} (h : w.ownsRow base e size v n xs) (hb : Below w.heap.size w w') : w'.ownsRow base e size v n xs := by
  obtain ⟨h1, h2 | ⟨g, cap, cur, h2, h3, h4, h5⟩⟩ := h
  · exact ⟨h1, .inl h2⟩
  · exact ⟨h1, .inr ⟨g, cap, cur, h2, h3, below_row hb (row_lt h4) h4, h5⟩⟩

theorem own_some {w : World} {base k : Nat} {v : Value} {e : TypeId} {size : Nat} {xs : List Value} (h : w.ownsRow base e size v (k + 1) xs) : ∃ g c, v = .slice (some ⟨g, 0, none⟩) (k + 1) c ∧ base ≤ g := by
  obtain ⟨_, ⟨_, h2⟩ | ⟨g, cap, cur, h2, h3, _⟩⟩ := h
  · omega
  · exact ⟨g, cap, h2, h3⟩
theorem own_shape {w : World} {base k : Nat} {v : Value} {e : TypeId} {size : Nat} {xs : List Value} (h : w.ownsRow base e size v k xs) : v = .slice none 0 0 ∨ ∃ g c, v = .slice (some ⟨g, 0, none⟩) k c := by
  obtain ⟨_, ⟨h1, _⟩ | ⟨g, cap, cur, h2, _⟩⟩ := h
  · exact .inl h1
  · exact .inr ⟨g, cap, h2⟩
theorem owns_base {w : World} {base b0 k : Nat} {v : Value} {e : TypeId} {size : Nat} {xs : List Value} (h : w.ownsRow base e size v k xs) (hb : b0 ≤ base) : w.ownsRow b0 e size v k xs := by
  obtain ⟨h0, h1 | ⟨g, cap, cur, h2, h3, h4⟩⟩ := h
  · exact ⟨h0, .inl h1⟩
  · exact ⟨h0, .inr ⟨g, cap, cur, h2, Nat.le_trans hb h3, h4⟩⟩
theorem owns_set {w : World} {base k b i : Nat} {v u : Value} {e : TypeId} {size : Nat} {xs : List Value} (h : w.ownsRow base e size v k xs) (hb : b < base) : (w.setCell ⟨b, i, none⟩ u).ownsRow base e size v k xs := ownsRow_setCell_below h hb u
theorem owns_at1 {w : World} {base n : Nat} {e : TypeId} {sl : Value} {xs : List Int} (h : w.ownsRow base e 1 sl n (xs.map (Value.int .i64))) : ∃ a c, sl = .slice a xs.length c ∧ xs.length = n ∧ IntsAt w a xs := by
  obtain ⟨h1, ⟨rfl, h2⟩ | ⟨g, cap, cur, rfl, h3, h4, h5⟩⟩ := id h
  · subst h2
    have : xs = [] := by simpa using h1
    subst this
    exact ⟨none, 0, rfl, rfl, fun j hj => by simp at hj⟩
  · have hl : xs.length = n := by simpa using h1
    exact ⟨_, _, by rw [hl], hl, owns_ints h⟩

theorem cell_new1 (W : World) (v : Value) (T : TypeId) (g : Nat) (hg : W.heap.size = g) : (W.alloc (.cells #[v] T)).cell? ⟨g, 0, none⟩ = some v := by
  subst hg
  rw [cell_of_row _ _ 0 _ _ _ (heap_alloc_new W (.cells #[v] T))]
  simp
theorem one_cell {w : World} {ad : Addr} {x0 : Value} (hc : w.cell? ad = some x0) : ∀ j u, [x0][j]? = some u → w.cell? (ad.add j) = some u := by
  intro j u hu
  have hj : j = 0 := by
    rcases j with _ | j
    · rfl
    · simp at hu
  subst hj
  have : ad.add 0 = ad := by unfold Addr.add; split <;> simp_all
  rw [this, hc]
  simpa using hu
theorem append_int (w : World) {ops : Array Oper} {rest : List Oper} {o : Oper} {a : Act} {Q : Exit → Act → World → Prop}
    (hg : o.guard = none) (s x : Operand) (hop : o.op = Op.call { callee := Callee.builtin Builtin.append, args := #[s, x], argTypes := #[24, 24] })
    (base : Nat) (v : Value) (k : Nat) (xs : List Value) (hs : a.eval s = v) (hown : w.ownsRow base 2 1 v k xs) (ad : Addr) (c : Nat) (x0 : Value) (hx : a.eval x = .slice (some ad) 1 c)
    (hc : w.cell? ad = some x0) (h1c : x0.oneCell' = true) (b1 : k ≤ 1000) (hb : base ≤ w.heap.size)
    (hK : ∀ v' w', w'.ownsRow base 2 1 v' (k + 1) (xs ++ [x0]) → w.grownBy w' v.ownBlock → wpList Try.prog ops Q rest (a.put o.dst v') w') :
    wpList Try.prog ops Q (o :: rest) a w := by
  obtain ⟨i0, hi, hz0, hz1, hz2⟩ := info_parts Try.info2
  exact wpList_append_own w hg s x _ hop base _ i0 _ 1 8 Try.underlying24 hi hz0 hz1 hz2 rfl (by decide) v k xs hs hown ad 1 c [x0] hx rfl (one_cell hc) (by simpa using h1c) (by unfold maxLen; omega) (by omega) hb (fun v' w' h1 h2 _ => hK v' w' h1 h2)

/-- 'append' of a number to a slice of the call's own, as a step of a region that draws. -/
theorem step_append_int {ops : Array Oper} {o : Oper} {a : Act} {w : World} {K : Act → World → Prop} {Q : Exit → Act → World → Prop} {E : Prop}
    (hg : o.guard = none) (s x : Operand) (hop : o.op = Op.call { callee := Callee.builtin Builtin.append, args := #[s, x], argTypes := #[24, 24] })
    (base : Nat) (v : Value) (k : Nat) (xs : List Value) (hs : a.eval s = v) (hown : w.ownsRow base 2 1 v k xs) (ad : Addr) (c : Nat) (x0 : Value) (hx : a.eval x = .slice (some ad) 1 c)
    (hc : w.cell? ad = some x0) (h1c : x0.oneCell' = true) (b1 : k ≤ 1000) (hb : base ≤ w.heap.size)
    (hK : ∀ v' w', w'.ownsRow base 2 1 v' (k + 1) (xs ++ [x0]) → w.grownBy w' v.ownBlock → K (a.put o.dst v') w') :
    if Region.wanted o (yielded ops a.tmps) = true then Oper.wp Try.prog o a w K Q else E := by
  have hw : Region.wanted o (yielded ops a.tmps) = true := by simp [Region.wanted, hg]
  rw [if_pos hw]
  obtain ⟨i0, hi, hz0, hz1, hz2⟩ := info_parts Try.info2
  obtain ⟨v', w', hrun, r1, r2, _⟩ := run_append_own (P := Try.prog) w base 24 o.type _ i0 _ 1 8 Try.underlying24 hi hz0 hz1 hz2 rfl (by decide) v k xs hown ad 1 c [x0] rfl (one_cell hc) (by simpa using h1c) (by unfold maxLen; omega) (by omega) hb
  unfold Oper.wp
  simp [execOp, hop, resolve, invoke, builtin, hs, hx, hrun, Result.andThen]
  exact hK _ _ r1 r2

end Go.Proofs.Ytpfikhegmmpogaa

namespace Go.Proofs.Ytpfikhegmmpogaa
open Go.RowKit

theorem infoOrd6 : (Try.prog.info? 149).map (fun i => (i.zero, i.size, i.bytes)) = some (some (.agg #[Value.int IntKind.i64 0, Value.int IntKind.i64 0, Value.int IntKind.i64 0, Value.int IntKind.i64 0, Value.int IntKind.i64 0, Value.int IntKind.i64 0]), 6, 48) := by kernel_rfl

/-- 'make([]Order, 0, n)' and 'append' within its room, at this program. -/
theorem make_orders (w : World) {ops : Array Oper} {rest : List Oper} {o : Oper} {a : Act} {Q : Exit → Act → World → Prop}
    (hg : o.guard = none) (l c : Operand) (hop : o.op = Op.makeSlice 27 l c) (base : Nat)
    (kl kc : IntKind) (C : Int) (n : Nat) (hl : a.eval l = .int kl 0) (hc : a.eval c = .int kc C) (hC : C = (n : Int)) (b2 : n ≤ 1048576) (b4 : base ≤ w.heap.size)
    (hK : ∀ w', w'.ownsRow base 149 6 (.slice (some ⟨w.heap.size, 0, none⟩) 0 n) 0 [] → w.grownBy w' none → wpList Try.prog ops Q rest (a.put o.dst (.slice (some ⟨w.heap.size, 0, none⟩) 0 n)) w') :
    wpList Try.prog ops Q (o :: rest) a w := by
  obtain ⟨i0, hi, hz0, hz1, hz2⟩ := info_parts infoOrd6
  exact wpList_make_own w hg l c _ hop base _ i0 _ 6 Try.underlying27 hi hz0 hz1 kl kc C n hl hc hC (by rw [hz2]; omega) (by unfold maxLen; omega) b4 hK
theorem append_orders (w : World) {ops : Array Oper} {rest : List Oper} {o : Oper} {a : Act} {Q : Exit → Act → World → Prop}
    (hg : o.guard = none) (s x : Operand) (hop : o.op = Op.call { callee := Callee.builtin Builtin.append, args := #[s, x], argTypes := #[27, 27] })
    (base : Nat) (g k cap : Nat) (xs : List Value) (hs : a.eval s = .slice (some ⟨g, 0, none⟩) k cap) (hown : w.ownsRow base 149 6 (.slice (some ⟨g, 0, none⟩) k cap) k xs) (ad : Addr) (m c : Nat) (news : List Value) (hx : a.eval x = .slice (some ad) m c) (hn : news.length = m * 6)
    (hc : ∀ j u, news[j]? = some u → w.cell? (ad.add j) = some u) (h1c : ∀ u ∈ news, u.oneCell' = true) (b1 : k + m ≤ cap)
    (hK : ∀ w', w'.ownsRow base 149 6 (.slice (some ⟨g, 0, none⟩) (k + m) cap) (k + m) (xs ++ news) → w.grownBy w' (some g) → wpList Try.prog ops Q rest (a.put o.dst (.slice (some ⟨g, 0, none⟩) (k + m) cap)) w') :
    wpList Try.prog ops Q (o :: rest) a w := by
  obtain ⟨i0, hi, hz0, hz1, hz2⟩ := info_parts infoOrd6
  exact wpList_append_fits w hg s x _ hop base _ i0 6 Try.underlying27 hi hz1 g k cap xs hs hown ad m c news hx hn hc h1c b1 hK

theorem ros_step (os : List Int) (ko : Nat) (ids : List Int) {k : Nat} {id : Int} (hk : k < ids.length) (hid : ids.getD k 0 = id) {o0 o1 o2 o3 o4 o5 : Int} (h0 : fnd6F os ko id 0 = o0) (h1 : fnd6F os ko id 1 = o1) (h2 : fnd6F os ko id 2 = o2) (h3 : fnd6F os ko id 3 = o3) (h4 : fnd6F os ko id 4 = o4) (h5 : fnd6F os ko id 5 = o5) :
    (((rosOf os ko ids).take (k * 6)).map (Value.int .i64)) ++ [Value.int IntKind.i64 o0, Value.int IntKind.i64 o1, Value.int IntKind.i64 o2, Value.int IntKind.i64 o3, Value.int IntKind.i64 o4, Value.int IntKind.i64 o5] = ((rosOf os ko ids).take ((k + 1) * 6)).map (Value.int .i64) := by
  have hl := rosOf_length os ko ids
  have e : (k + 1) * 6 = k * 6 + 1 + 1 + 1 + 1 + 1 + 1 := by omega
  have g : ∀ f, f < 6 → (rosOf os ko ids).getD (k * 6 + f) 0 = fnd6F os ko id f := fun f hf => hid ▸ rosOf_at os ko ids hk hf
  rw [e, take_snoc _ _ (by omega), take_snoc _ _ (by omega), take_snoc _ _ (by omega), take_snoc _ _ (by omega), take_snoc _ _ (by omega), take_snoc _ _ (by omega)]
  have g0 := g 0 (by omega)
  have g1 := g 1 (by omega)
  have g2 := g 2 (by omega)
  have g3 := g 3 (by omega)
  have g4 := g 4 (by omega)
  have g5 := g 5 (by omega)
  simp only [Nat.add_zero] at g0
  simp only [g0, g1, g2, g3, g4, g5, h0, h1, h2, h3, h4, h5]
  simp

theorem cells6_new (W : World) (o0 o1 o2 o3 o4 o5 : Value) (T : TypeId) (g : Nat) (hg : W.heap.size = g) : ∀ j u, [o0, o1, o2, o3, o4, o5][j]? = some u → (W.alloc (.cells #[o0, o1, o2, o3, o4, o5] T)).cell? ((⟨g, 0, none⟩ : Addr).add j) = some u := by
  intro j u hu
  subst hg
  have hadd : (⟨W.heap.size, 0, none⟩ : Addr).add j = ⟨W.heap.size, j, none⟩ := by unfold Addr.add; split <;> simp_all
  rw [hadd, cell_of_row _ _ j _ _ _ (heap_alloc_new W (.cells #[o0, o1, o2, o3, o4, o5] T))]
  simpa using hu

set_option maxHeartbeats 1000000 in
theorem stopsOf_any (n fine : Int) (a ao av bi : Option Addr) (cap ko co kv cv c2 : Nat) (zs os ids : List Int) (w : World) (hO : IntsAt w ao os) (hI : IntsAt w bi ids) (hlo : os.length = ko * 6) (hko : ko ≤ 9223372036854775807) (hli : ids.length ≤ 9223372036854775807) (hc2 : ids.length ≤ c2) :
    Calls Try.prog 133 #[.agg #[.int .i64 n, .slice a zs.length cap, .slice ao ko co, .slice av kv cv, .int .i64 fine], .slice bi ids.length c2] w fun e w' => Below w.heap.size w w' ∧ ((stopsB os ko ids = false ∧ e = .returned (.tuple #[.slice none 0 0, .bool false])) ∨ (stopsB os ko ids = true ∧ e = .returned (.tuple #[.slice (some ⟨w.heap.size + 1, 0, none⟩) ids.length ids.length, .bool true]) ∧ IntsAt w' (some ⟨w.heap.size + 1, 0, none⟩) (rosOf os ko ids))) := by
  have HO : Hid (IntsAt w ao os) := hO
  have HI : Hid (IntsAt w bi ids) := hI
  have HLO : Hid _ := hlo
  clear hO hI hlo
  have HB0 : Hid (Below w.heap.size w (w.alloc (Obj.cells #[Value.int IntKind.i64 n, Value.slice a zs.length cap, Value.slice ao ko co, Value.slice av kv cv, Value.int IntKind.i64 fine] 30))) := (Below.refl _ _).alloc (Nat.le_refl _) _
  have HP0 : Hid ((w.alloc (Obj.cells #[Value.int IntKind.i64 n, Value.slice a zs.length cap, Value.slice ao ko co, Value.slice av kv cv, Value.int IntKind.i64 fine] 30)).heap[w.heap.size]? = _) := heap_alloc_new _ _
  by_cases h12 : ids.length ≤ 12
  · go_enter Try.func133, Try.ntmps133
    go_wp2_with (first
      | (at_make; refine make_orders _ rfl _ _ rfl (w.heap.size + 1) .i64 .i64 _ ids.length rfl rfl rfl (by omega) (by simp) ?_; intro w1 hown0 hgrow0))
    have HB1 : Hid (Below w.heap.size w w1) := HB0.out.grown hgrow0 HB0.out.size (fun k e => by cases e)
    have HP1 : Hid (w1.heap[w.heap.size]? = _) := grown_row hgrow0 HP0.out (by simp)
    have HW1 : Hid (w1.ownsRow (w.heap.size + 1) 149 6 (.slice (some ⟨w.heap.size + 1, 0, none⟩) 0 ids.length) 0 []) := by
      show w1.ownsRow _ _ _ _ _ _
      simpa using hown0
    clear hown0 hgrow0 HB0 HP0
    go_loopw [6, 19] (fun sl t wr => ∃ k : Nat, k ≤ ids.length ∧ t = .int .i64 k ∧ sl = .slice (some ⟨w.heap.size + 1, 0, none⟩) k ids.length ∧ stopsTo os ko ids k ∧ Below w.heap.size w wr ∧ wr.heap[w.heap.size]? = some (.cells #[Value.int IntKind.i64 n, Value.slice a zs.length cap, Value.slice ao ko co, Value.slice av kv cv, Value.int IntKind.i64 fine] 30 (0, 0)) ∧ wr.ownsRow (w.heap.size + 1) 149 6 (.slice (some ⟨w.heap.size + 1, 0, none⟩) k ids.length) k (((rosOf os ko ids).take (k * 6)).map (Value.int .i64))) (fun _ t _ => ids.length - (intOf t).toNat)
    case atStart => exact ⟨0, Nat.zero_le _, rfl, rfl, stopsTo_zero _ _ _, HB1.out, HP1.out, by simpa using HW1.out⟩
    case round =>
      clear HB1 HP1 HW1
      obtain ⟨k, hk, rfl, rfl, hth, hb, hp, hw⟩ := hrel
      have HT : Hid (stopsTo os ko ids k) := hth
      have HB : Hid (Below w.heap.size w wr) := hb
      have HP : Hid (wr.heap[w.heap.size]? = _) := hp
      have HW : Hid (wr.ownsRow (w.heap.size + 1) 149 6 (.slice (some ⟨w.heap.size + 1, 0, none⟩) k ids.length) k (((rosOf os ko ids).take (k * 6)).map (Value.int .i64))) := hw
      obtain ⟨c0, c1, c2', c3, c4⟩ := cells5 hp
      clear hth hb hp hw
      by_cases hlt : k < ids.length
      · obtain ⟨b, off, rfl, hcs⟩ := IntsAt.some (IntsAt.below HI.out HB.out) hlt
        have ct := hcs k hlt
        clear hcs
        obtain ⟨id, HID⟩ : ∃ i, Hid (ids.getD k 0 = i) := ⟨_, rfl⟩
        rw [HID.out] at ct
        have hkc : k ≤ c2 := by omega
        obtain ⟨o0, H0⟩ : ∃ t, Hid (fnd6F os ko id 0 = t) := ⟨_, rfl⟩
        obtain ⟨o1, H1⟩ : ∃ t, Hid (fnd6F os ko id 1 = t) := ⟨_, rfl⟩
        obtain ⟨o2, H2⟩ : ∃ t, Hid (fnd6F os ko id 2 = t) := ⟨_, rfl⟩
        obtain ⟨o3, H3⟩ : ∃ t, Hid (fnd6F os ko id 3 = t) := ⟨_, rfl⟩
        obtain ⟨o4, H4⟩ : ∃ t, Hid (fnd6F os ko id 4 = t) := ⟨_, rfl⟩
        obtain ⟨o5, H5⟩ : ∃ t, Hid (fnd6F os ko id 5 = t) := ⟨_, rfl⟩
        obtain ⟨tt, HTT⟩ : ∃ t, Hid (fnd6T os ko id = t) := ⟨_, rfl⟩
        go_wp2_with fail
        refine (findOrder_any n fine id a ao av _ cap ko co kv cv os _ (HO.out.below HB.out) HLO.out hko).mono ?_
        rintro e w2 ⟨rfl, hb2⟩
        rw [H0.out, H1.out, H2.out, H3.out, H4.out, H5.out, HTT.out]
        have HB2 : Hid (Below w.heap.size w (w2.alloc (Obj.cells #[Value.int IntKind.i64 o0, Value.int IntKind.i64 o1, Value.int IntKind.i64 o2, Value.int IntKind.i64 o3, Value.int IntKind.i64 o4, Value.int IntKind.i64 o5] 149))) := (HB.out.trans (hb2.mono HB.out.size)).alloc (Nat.le_trans HB.out.size hb2.size) _
        have HP2 : Hid ((w2.alloc (Obj.cells #[Value.int IntKind.i64 o0, Value.int IntKind.i64 o1, Value.int IntKind.i64 o2, Value.int IntKind.i64 o3, Value.int IntKind.i64 o4, Value.int IntKind.i64 o5] 149)).heap[w.heap.size]? = _) := (heap_alloc_old _ _ (row_lt (below_row hb2 (row_lt HP.out) HP.out))).trans (below_row hb2 (row_lt HP.out) HP.out)
        have HW2 : Hid ((w2.alloc (Obj.cells #[Value.int IntKind.i64 o0, Value.int IntKind.i64 o1, Value.int IntKind.i64 o2, Value.int IntKind.i64 o3, Value.int IntKind.i64 o4, Value.int IntKind.i64 o5] 149)).ownsRow _ _ _ _ _ _) := (owns_below HW.out hb2).alloc _
        have HRO : Hid ((w2.alloc (Obj.cells #[Value.int IntKind.i64 o0, Value.int IntKind.i64 o1, Value.int IntKind.i64 o2, Value.int IntKind.i64 o3, Value.int IntKind.i64 o4, Value.int IntKind.i64 o5] 149)).heap[w2.heap.size]? = _) := heap_alloc_new _ _
        obtain ⟨p0, p1, p2, p3, p4, p5⟩ := cells6 HRO.out
        clear hb2 c0 c1 c2' c3 c4 ct
        cases tt
        · have HN : Hid (stopsB os ko ids = false) := stopsB_bad hlt (stopB_mk HID.out HTT.out rfl)
          go_wp2
          go_ret2
          exact ⟨HB2.out, .inl ⟨HN.out, rfl⟩⟩
        · obtain ⟨hh, HH⟩ : ∃ t, Hid (hasTo ids k id = t) := ⟨_, rfl⟩
          cases hh
          · have HS1 : Hid (stopsTo os ko ids (k + 1)) := stopsTo_step HT.out (stopB_mk HID.out HTT.out HH.out)
            go_wp2_with (first
              | (go_at_call 98; refine (contains_any _ k _ id ids _ (HI.out.below HB2.out) hk (by omega)).mono ?_; rintro e w3 ⟨rfl, rfl⟩; rw [HH.out])
              | (at_builtin; refine append_orders _ rfl _ _ rfl (w.heap.size + 1) (w.heap.size + 1) k ids.length _ rfl (HW2.out.alloc _) _ 1 1 [Value.int IntKind.i64 o0, Value.int IntKind.i64 o1, Value.int IntKind.i64 o2, Value.int IntKind.i64 o3, Value.int IntKind.i64 o4, Value.int IntKind.i64 o5] rfl rfl (cells6_new _ _ _ _ _ _ _ _ _ (by simp)) (by simp [Value.oneCell']) (by omega) ?_; intro w4 hown4 hgrow4))
            have hne : some w.heap.size ≠ some (w.heap.size + 1) := by simp
            refine ⟨⟨k + 1, by omega, by go_num, rfl, HS1.out, (HB2.out.alloc HB2.out.size _).grown hgrow4 (Nat.le_trans HB2.out.size (by simp)) (fun j e => by cases e; omega), grown_row hgrow4 ((heap_alloc_old _ _ (row_lt HP2.out)).trans HP2.out) (by simp), ?_⟩, by simp [intOf]; omega⟩
            rw [ros_step os ko ids hlt HID.out H0.out H1.out H2.out H3.out H4.out H5.out] at hown4
            exact hown4
          · have HN : Hid (stopsB os ko ids = false) := stopsB_bad hlt (stopB_mk HID.out HTT.out HH.out)
            go_wp2_with (first
              | (go_at_call 98; refine (contains_any _ k _ id ids _ (HI.out.below HB2.out) hk (by omega)).mono ?_; rintro e w3 ⟨rfl, rfl⟩; rw [HH.out]))
            go_ret2
            exact ⟨HB2.out, .inl ⟨HN.out, rfl⟩⟩
      · have hkl : k = ids.length := by omega
        have HN : Hid (stopsB os ko ids = true) := stopsB_yes h12 (hkl ▸ HT.out)
        subst hkl
        go_wp2
        go_ret2
        refine ⟨HB.out, .inr ⟨HN.out, rfl, ?_⟩⟩
        have := HW.out
        rw [List.take_of_length_le (by rw [rosOf_length]; omega)] at this
        exact owns_ints this
  · have HN : Hid (stopsB os ko ids = false) := stopsB_many h12
    go_enter Try.func133, Try.ntmps133
    go_wp2
    go_ret2
    exact ⟨HB0.out, .inl ⟨HN.out, rfl⟩⟩

end Go.Proofs.Ytpfikhegmmpogaa

namespace Go.Proofs.Ytpfikhegmmpogaa
end Go.Proofs.Ytpfikhegmmpogaa

namespace Go.Proofs.Ytpfikhegmmpogaa
open Go.RowKit

/-- The answer of a change: a route that owns its stops, how much more, whether. -/
def ChgOk (w : World) (ch : Bool) (veh D : Int) (xs : List Int) (e : Ending) (w' : World) : Prop :=
  Below w.heap.size w w' ∧ ∃ ad c, e = .returned (.tuple #[.agg #[.int .i64 (chI ch veh), .slice ad xs.length c], .int .i64 D, .bool ch]) ∧ w'.ownsRow w.heap.size 2 1 (.slice ad xs.length c) xs.length (xs.map (Value.int .i64))

end Go.Proofs.Ytpfikhegmmpogaa

namespace Go.Proofs.Ytpfikhegmmpogaa
open Go.RowKit

/-- Where an append to a slice of the call's own ends: in the row that was, or in a new block. -/
theorem append_block {P : Program} (w : World) (base : Nat) (t ty e : TypeId) (i : TypeInfo) (z : Value) (size bytes : Nat) (ht : P.underlying t = some (.slice e)) (hi : P.info? e = some i) (hz : i.zero = some z)
    (hsize : i.size = size) (hby : i.bytes = bytes) (v : Value) (n : Nat) (xs : List Value) (hown : w.ownsRow base e size v n xs)
    (a : Addr) (m c : Nat) (news : List Value) (hl : news.length = m * size) (hnews : ∀ j u, news[j]? = some u → w.cell? (a.add j) = some u) (h1 : ∀ u ∈ news, u.oneCell' = true)
    (h63 : n + m ≤ maxLen) (hbytes : (n + m) * bytes ≤ 140737488355328) {v' : Value} {w' : World} (hrun : (Builtin.append_ #[t, t] ty #[v, .slice (some a) m c]).run P w = .ok v' w') : v'.ownBlock = v.ownBlock ∨ v'.ownBlock = some w.heap.size := by
  subst hsize
  subst hby
  have hsmall : n + m ≤ 9223372036854775807 := by simp only [maxLen] at h63; omega
  rcases hown.2 with ⟨rfl, rfl⟩ | ⟨g, cap, cur, rfl, hbg, hg, hnc, hcm, hcs, htake⟩
  · by_cases hm : m = 0
    · subst hm
      have hn : news = [] := List.eq_nil_of_length_eq_zero (by simpa using hl)
      subst hn
      simp [Builtin.append_, run_underlying ht, sizeOf, typeInfo, hi, Builtin.lenOf, Builtin.firstCells, loadCells, loadCellsFrom] at hrun
      rw [← hrun.1]
      exact .inl rfl
    · have hr := run_append_nil (P := P) w t ty e i z ht hi hz a m c news hl hnews (by omega) (by omega) (by have hb := hbytes; simp only [Nat.zero_add] at hb; omega)
      rw [hr] at hrun
      injection hrun with e1 e2
      rw [← e1]
      exact .inr rfl
  · by_cases hroom : n + m ≤ cap
    · have hfit : n * i.size + news.length ≤ cur.size := by rw [hl, hcs, ← Nat.add_mul]; exact Nat.mul_le_mul_right _ hroom
      have hr := run_append_room (P := P) w t ty e i ht hi g n cap cur hg a m c news hl hnews h1 hroom hfit
      rw [hr] at hrun
      injection hrun with e1 e2
      rw [← e1]
      exact .inl rfl
    · have holds : ∀ j u, xs[j]? = some u → w.cell? ((⟨g, 0, none⟩ : Addr).add j) = some u := hown.cells (g := g) rfl
      have hr := run_append_grow (P := P) w t ty e i z ht hi hz ⟨g, 0, none⟩ n cap xs hown.1 holds a m c news hl hnews (by omega) (by omega) (growslice_fits (by omega) hbytes)
      rw [hr] at hrun
      injection hrun with e1 e2
      rw [← e1]
      exact .inr rfl

theorem exec_append' {P : Program} {o : Oper} {a : Act} {w w' : World} {v : Value} (s x : Operand) (t : TypeId) (vs vx : Value) (ho : o.op = .call { callee := .builtin .append, args := #[s, x], argTypes := #[t, t] })
    (hs : a.eval s = vs) (hx : a.eval x = vx) (hr : (Builtin.append_ #[t, t] o.type #[vs, vx]).run P w = .ok v w') : (execOp a.eval o).run P w = .ok (.value v) w' := by
  unfold execOp
  simp only [ho, resolve, invoke, builtin, Sem.run_bind, Sem.run_pure, Result.andThen_ok, List.map_toArray, List.map_cons, List.map_nil, hs, hx, hr]

/-- 'append' of numbers to a slice of the call's own. -/
theorem append_many (w : World) {ops : Array Oper} {rest : List Oper} {o : Oper} {a : Act} {Q : Exit → Act → World → Prop}
    (hg : o.guard = none) (s x : Operand) (hop : o.op = Op.call { callee := Callee.builtin Builtin.append, args := #[s, x], argTypes := #[24, 24] })
    (base : Nat) (v : Value) (k : Nat) (xs : List Int) (hs : a.eval s = v) (hown : w.ownsRow base 2 1 v k (xs.map (Value.int .i64))) (b off m c : Nat) (ys : List Int) (hx : a.eval x = .slice (some ⟨b, off, none⟩) m c)
    (hy : ys.length = m) (hc : IntsAt w (some ⟨b, off, none⟩) ys) (b1 : k ≤ 1000) (b2 : m ≤ 1000) (hb : base ≤ w.heap.size)
    (hK : ∀ v' w', w'.ownsRow base 2 1 v' (k + m) ((xs ++ ys).map (Value.int .i64)) → w.grownBy w' v.ownBlock → (v'.ownBlock = v.ownBlock ∨ v'.ownBlock = some w.heap.size) → (v' = .slice none 0 0 ↔ v = .slice none 0 0 ∧ m = 0) → wpList Try.prog ops Q rest (a.put o.dst v') w') :
    wpList Try.prog ops Q (o :: rest) a w := by
  obtain ⟨i0, hi, hz0, hz1, hz2⟩ := info_parts Try.info2
  have hnews : ∀ j u, (ys.map (Value.int .i64))[j]? = some u → w.cell? ((⟨b, off, none⟩ : Addr).add j) = some u := by
    intro j u hu
    have hj : j < ys.length := by
      rcases Nat.lt_or_ge j ys.length with h' | h'
      · exact h'
      · simp [List.getElem?_eq_none (by simpa using h' : (ys.map (Value.int .i64)).length ≤ j)] at hu
    obtain ⟨b', off', e, hcc⟩ := hc j hj
    simp at e
    obtain ⟨rfl, rfl⟩ := e
    have hadd : (⟨b, off, none⟩ : Addr).add j = ⟨b, off + j, none⟩ := by unfold Addr.add; split <;> simp_all
    rw [hadd, hcc, ← hu]
    simp [List.getD, hj]
  have h1c : ∀ u ∈ ys.map (Value.int .i64), u.oneCell' = true := by simp [Value.oneCell']
  obtain ⟨v', w', hrun, r1, r2, r3⟩ := run_append_own (P := Try.prog) w base 24 o.type _ i0 _ 1 8 Try.underlying24 hi hz0 hz1 hz2 rfl (by decide) v k (xs.map (Value.int .i64)) hown ⟨b, off, none⟩ m c (ys.map (Value.int .i64)) (by simp [hy]) hnews h1c (by unfold maxLen; omega) (by omega) hb
  have r4 := append_block (P := Try.prog) w base 24 o.type _ i0 _ 1 8 Try.underlying24 hi hz0 hz1 hz2 v k (xs.map (Value.int .i64)) hown ⟨b, off, none⟩ m c (ys.map (Value.int .i64)) (by simp [hy]) hnews h1c (by unfold maxLen; omega) (by omega) hrun
  exact wpList_run v' hg (exec_append' s x _ v _ hop hs hx hrun) (hK v' w' (by rw [List.map_append]; exact r1) r2 r4 r3)

end Go.Proofs.Ytpfikhegmmpogaa

namespace Go.Proofs.Ytpfikhegmmpogaa
open Go.RowKit

/-- 'append' of numbers whose address is not written out. -/
theorem append_more (w : World) {ops : Array Oper} {rest : List Oper} {o : Oper} {a : Act} {Q : Exit → Act → World → Prop}
    (hg : o.guard = none) (s x : Operand) (hop : o.op = Op.call { callee := Callee.builtin Builtin.append, args := #[s, x], argTypes := #[24, 24] })
    (base : Nat) (v : Value) (k : Nat) (xs : List Int) (hs : a.eval s = v) (hown : w.ownsRow base 2 1 v k (xs.map (Value.int .i64))) (ad : Option Addr) (m c : Nat) (ys : List Int) (hx : a.eval x = .slice ad m c)
    (had : ∃ b off, ad = some ⟨b, off, none⟩) (hy : ys.length = m) (hc : IntsAt w ad ys) (b1 : k ≤ 1000) (b2 : m ≤ 1000) (hb : base ≤ w.heap.size)
    (hK : ∀ v' w', w'.ownsRow base 2 1 v' (k + m) ((xs ++ ys).map (Value.int .i64)) → w.grownBy w' v.ownBlock → (v'.ownBlock = v.ownBlock ∨ v'.ownBlock = some w.heap.size) → (v' = .slice none 0 0 ↔ v = .slice none 0 0 ∧ m = 0) → wpList Try.prog ops Q rest (a.put o.dst v') w') :
    wpList Try.prog ops Q (o :: rest) a w := by
  obtain ⟨b, off, rfl⟩ := had
  exact append_many w hg s x hop base v k xs hs hown b off m c ys hx hy hc b1 b2 hb hK
theorem ints_take' {W : World} {a : Option Addr} {ids : List Int} (h : IntsAt W a ids) (i : Nat) : IntsAt W a (ids.take i) := by
  intro j hj
  have hj' : j < ids.length ∧ j < i := by rw [List.length_take] at hj; omega
  obtain ⟨b, off, e, hc⟩ := h j hj'.1
  refine ⟨b, off, e, ?_⟩
  rw [hc, List.getD_eq_getElem?_getD, List.getD_eq_getElem?_getD, List.getElem?_take, if_pos hj'.2]
theorem ints_drop' {W : World} {b off : Nat} {ids : List Int} (h : IntsAt W (some ⟨b, off, none⟩) ids) (i : Nat) : IntsAt W (some ⟨b, off + i, none⟩) (ids.drop i) := by
  intro j hj
  have hj' : i + j < ids.length := by rw [List.length_drop] at hj; omega
  obtain ⟨b', off', e, hc⟩ := h (i + j) hj'
  simp at e
  obtain ⟨rfl, rfl⟩ := e
  refine ⟨b, off + i, rfl, ?_⟩
  rw [Nat.add_assoc, hc, List.getD_eq_getElem?_getD, List.getD_eq_getElem?_getD, List.getElem?_drop]
theorem ints_cut' {W : World} {b off : Nat} {ids : List Int} (h : IntsAt W (some ⟨b, off, none⟩) ids) (i c2 : Nat) (hc : ids.length ≤ c2) : IntsAt W (if c2 = i then some ⟨b, off, none⟩ else some ⟨b, off + i, none⟩) (ids.drop i) := by
  by_cases e : c2 = i
  · have : ids.drop i = [] := List.drop_eq_nil_of_le (by omega)
    rw [this]
    intro j hj
    simp at hj
  · rw [if_neg e]; exact ints_drop' h i
theorem cut_some' (b off i c2 : Nat) : ∃ b' off', (if c2 = i then some (⟨b, off, none⟩ : Addr) else some ⟨b, off + i, none⟩) = some ⟨b', off', none⟩ := by
  by_cases e : c2 = i
  · exact ⟨b, off, if_pos e⟩
  · exact ⟨b, off + i, if_neg e⟩
theorem cut0_some (g i c2 : Nat) : ∃ b' off', (if c2 = i then some (⟨g, 0, none⟩ : Addr) else some ⟨g, i, none⟩) = some ⟨b', off', none⟩ := by
  have := cut_some' g 0 i c2
  rwa [Nat.zero_add] at this
theorem ints_cut0 {W : World} {g : Nat} {ids : List Int} (h : IntsAt W (some ⟨g, 0, none⟩) ids) (i c2 : Nat) (hc : ids.length ≤ c2) : IntsAt W (if c2 = i then some ⟨g, 0, none⟩ else some ⟨g, i, none⟩) (ids.drop i) := by
  have := ints_cut' h i c2 hc
  rwa [Nat.zero_add] at this
theorem own_sm {w : World} {base k : Nat} {v : Value} {e : TypeId} {size : Nat} {xs : List Value} (h : w.ownsRow base e size v k xs) (hne : v ≠ .slice none 0 0) : ∃ g c, v = .slice (some ⟨g, 0, none⟩) k c := by
  rcases own_shape h with e | e
  · exact absurd e hne
  · exact e
theorem own_cap {w : World} {base k g c : Nat} {e : TypeId} {size : Nat} {xs : List Value} (h : w.ownsRow base e size (.slice (some ⟨g, 0, none⟩) k c) k xs) : k ≤ c := by
  obtain ⟨_, ⟨h1, _⟩ | ⟨g', cap, cur, h2, _, _, h3, _⟩⟩ := h
  · cases h1
  · injection h2 with e1 e2 e3
    omega
theorem not_nil {v v' : Value} {m : Nat} (h : v' = .slice none 0 0 ↔ v = .slice none 0 0 ∧ m = 0) (hv : ∃ g n c, v = .slice (some ⟨g, 0, none⟩) n c) : v' ≠ .slice none 0 0 := by
  intro e
  obtain ⟨g, n, c, rfl⟩ := hv
  have := (h.1 e).1
  simp at this
theorem ints_new1 (W : World) (x : Int) : IntsAt (W.alloc (.cells #[.int .i64 x] 2)) (some ⟨W.heap.size, 0, none⟩) [x] := by
  intro j hj
  have : j = 0 := by simpa using hj
  subst this
  exact ⟨_, _, rfl, cell_new1 W _ _ _ rfl⟩
theorem owns_ints' {w : World} {base g n cap : Nat} {e : TypeId} {zs : List Int} (h : w.ownsRow base e 1 (.slice (some ⟨g, 0, none⟩) n cap) zs.length (zs.map (Value.int .i64))) (hn : zs.length = n) : IntsAt w (some ⟨g, 0, none⟩) zs := by
  rw [hn] at h
  exact owns_ints h
theorem own_at {g n c k : Nat} (e : (Value.slice (some ⟨g, 0, none⟩) n c).ownBlock = some k) : g ≤ k := by
  have : g = k := by injection e
  omega

end Go.Proofs.Ytpfikhegmmpogaa

namespace Go.Proofs.Ytpfikhegmmpogaa
open Go.RowKit

def lenOfV : Value → Nat
  | .slice _ n _ => n
  | _ => 0
theorem erase_parts (l : List Int) (k : Nat) : l.take k ++ l.drop (k + 1) = l.eraseIdx k := (List.eraseIdx_eq_take_drop_succ l k).symm

/-- The world inside Permuted: what is left, and the answer that grows. -/
structure PW (w W : World) (B : Nat) (lv ov : Value) (L O : List Int) : Prop where
  b : Below w.heap.size w W
  hB : w.heap.size ≤ B ∧ B ≤ W.heap.size
  l : W.ownsRow B 2 1 lv L.length (L.map (Value.int .i64))
  o : W.ownsRow B 2 1 ov O.length (O.map (Value.int .i64))
  ne : lv.ownBlock ≠ ov.ownBlock
  sl : ∃ g c, lv = .slice (some ⟨g, 0, none⟩) L.length c
  so : ∃ g c, ov = .slice (some ⟨g, 0, none⟩) O.length c

/-- With the row that is begun between. -/
structure PM (w W : World) (B : Nat) (lv ov mv : Value) (L O M : List Int) : Prop where
  b : Below w.heap.size w W
  hB : w.heap.size ≤ B ∧ B ≤ W.heap.size
  l : W.ownsRow B 2 1 lv L.length (L.map (Value.int .i64))
  o : W.ownsRow B 2 1 ov O.length (O.map (Value.int .i64))
  m : W.ownsRow B 2 1 mv M.length (M.map (Value.int .i64))
  mo : mv.ownBlock ≠ ov.ownBlock
  sm : mv ≠ .slice none 0 0
  so : ∃ g c, ov = .slice (some ⟨g, 0, none⟩) O.length c

theorem PW.put {w W w4 : World} {B : Nat} {lv ov ov' : Value} {L O : List Int} {x : Int} {o : Obj} (h : PW w W B lv ov L O) (hown : w4.ownsRow B 2 1 ov' (O.length + 1) ((O ++ [x]).map (Value.int .i64))) (hg : (W.alloc o).grownBy w4 ov.ownBlock) (hbk : ov'.ownBlock = ov.ownBlock ∨ ov'.ownBlock = some (W.alloc o).heap.size) (hn : ov' = .slice none 0 0 ↔ ov = .slice none 0 0 ∧ 1 = 0) : PW w w4 B lv ov' L (O ++ [x]) := by
  have hA : Below w.heap.size w (W.alloc o) := h.b.alloc h.b.size _
  have hlt : ∀ g, lv.ownBlock = some g → g < W.heap.size := fun g e => (h.l.lt g e).2
  refine ⟨hA.grown hg hA.size (fun k e => by have := (h.o.lt k e).1; have := h.hB.1; omega), ⟨h.hB.1, Nat.le_trans h.hB.2 (Nat.le_trans (by simp) hg.size)⟩, (h.l.alloc o).kept hg (.inr h.ne), ?_, ?_, h.sl, ?_⟩
  · rw [List.length_append]; exact hown
  · rcases hbk with e | e
    · rw [e]; exact h.ne
    · rw [e]
      intro e2
      have := hlt _ e2
      simp at this
      omega
  · rw [List.length_append]
    obtain ⟨g, c, e⟩ := h.so
    exact own_sm hown (not_nil hn ⟨g, _, c, e⟩)
theorem PW.begin {w W w5 : World} {B k : Nat} {lv ov mv : Value} {L O : List Int} (h : PW w W B lv ov L O) (hk : k ≤ L.length) (hown : w5.ownsRow B 2 1 mv (0 + k) (([] ++ L.take k).map (Value.int .i64))) (hg : (W.alloc (.cells #[] 2)).grownBy w5 (some W.heap.size)) (hbk : mv.ownBlock = some W.heap.size ∨ mv.ownBlock = some (W.alloc (.cells #[] 2)).heap.size) (hn : mv = .slice none 0 0 ↔ Value.slice (some ⟨W.heap.size, 0, none⟩) 0 0 = .slice none 0 0 ∧ k = 0) : PM w w5 B lv ov mv L O (L.take k) := by
  have hA : Below w.heap.size w (W.alloc (.cells #[] 2)) := h.b.alloc h.b.size _
  have hl : ∀ g, lv.ownBlock = some g → g < W.heap.size := fun g e => (h.l.lt g e).2
  have ho : ∀ g, ov.ownBlock = some g → g < W.heap.size := fun g e => (h.o.lt g e).2
  refine ⟨hA.grown hg hA.size (fun k e => by injection e with e; have := h.b.size; omega), ⟨h.hB.1, Nat.le_trans h.hB.2 (Nat.le_trans (by simp) hg.size)⟩, (h.l.alloc _).kept hg (.inr fun e => by have := hl _ e; omega), (h.o.alloc _).kept hg (.inr fun e => by have := ho _ e; omega), ?_, ?_, ?_, h.so⟩
  · have e : (L.take k).length = k := by rw [List.length_take]; omega
    rw [e]
    rw [Nat.zero_add, List.nil_append] at hown
    exact hown
  · intro e
    rcases hbk with e2 | e2
    · rw [e2] at e
      have := ho _ e.symm
      omega
    · rw [e2] at e
      have := ho _ e.symm
      simp at this
      omega
  · exact not_nil hn ⟨_, _, _, rfl⟩
theorem PM.done {w W w6 : World} {B k : Nat} {lv ov mv lv' : Value} {L O : List Int} {ys : List Int} (h : PM w W B lv ov mv L O (L.take k)) (hy : ys = L.drop (k + 1)) (hown : w6.ownsRow B 2 1 lv' ((L.take k).length + ys.length) ((L.take k ++ ys).map (Value.int .i64))) (hg : W.grownBy w6 mv.ownBlock) (hbk : lv'.ownBlock = mv.ownBlock ∨ lv'.ownBlock = some W.heap.size) (hn : lv' = .slice none 0 0 ↔ mv = .slice none 0 0 ∧ ys.length = 0) : PW w w6 B lv' ov (L.eraseIdx k) O := by
  subst hy
  have ho : ∀ g, ov.ownBlock = some g → g < W.heap.size := fun g e => (h.o.lt g e).2
  have e1 : (L.take k).length + (L.drop (k + 1)).length = (L.eraseIdx k).length := by rw [← erase_parts, List.length_append]
  rw [e1, erase_parts] at hown
  refine ⟨h.b.grown hg h.b.size (fun k e => by have := (h.m.lt k e).1; have := h.hB.1; omega), ⟨h.hB.1, Nat.le_trans h.hB.2 hg.size⟩, hown, h.o.kept hg (.inr fun e => h.mo e.symm), ?_, ?_, h.so⟩
  · rcases hbk with e | e
    · rw [e]; exact h.mo
    · rw [e]
      intro e2
      have := ho _ e2.symm
      omega
  · exact own_sm hown (fun e => h.sm (hn.1 e).1)

theorem PW.new {w w2 : World} {lv : Value} {zs : List Int} (ho : w2.ownsRow w.heap.size 2 1 lv zs.length (zs.map (Value.int .i64))) (hb : Below w.heap.size w w2) (hn : lv ≠ .slice none 0 0) : PW w (w2.alloc (.cells #[] 2)) w.heap.size lv (.slice (some ⟨w2.heap.size, 0, none⟩) 0 0) zs [] := by
  refine ⟨hb.alloc hb.size _, ⟨Nat.le_refl _, Nat.le_trans hb.size (by simp)⟩, ho.alloc _, World.ownsRow_made w2 #[] 0 hb.size (by unfold maxLen; omega) (by simp), ?_, own_sm ho hn, ⟨_, _, rfl⟩⟩
  intro e
  have := (ho.lt _ e).2
  simp at this
/-- One step of the row: its first thing, and the rest. -/
theorem unr_step {d : Nat} {L : List Int} {n : Nat} (hl : L.length = d + 1) (hn : n < facN (d + 1)) : n / facN d < d + 1 ∧ unr (d + 1) L n = L.getD (n / facN d) 0 :: unr d (L.eraseIdx (n / facN d)) (n % facN d) := by
  have hk : n / facN d < d + 1 := by rw [Nat.div_lt_iff_lt_mul (facN_pos d), Nat.mul_comm]; exact hn
  refine ⟨hk, ?_⟩
  have h : L[n / facN d]? = some (L[n / facN d]'(by omega)) := List.getElem?_eq_getElem _
  rw [unr_some h, List.getD_eq_getElem?_getD, h]
  rfl

theorem wrap_div {a b q : Nat} (h : ((a : Nat) : Int).tdiv (b : Int) = (q : Int)) (hq : q ≤ 720) : wrap64 ((a : Int) / (b : Int)) = (q : Int) := by
  rw [Int.tdiv_eq_ediv_of_nonneg (Int.natCast_nonneg a)] at h
  rw [h]
  exact wrap_small (Int.natCast_nonneg q) (by omega)
theorem mod_of {a b q : Nat} (h : ((a : Nat) : Int).tmod (b : Int) = (q : Int)) : (a : Int) % (b : Int) = (q : Int) := by
  rw [Int.tmod_eq_emod_of_nonneg (Int.natCast_nonneg a)] at h
  exact h

set_option maxHeartbeats 2000000 in
theorem specPermuted_loop (b off cap m : Nat) (zs : List Int) (w : World) (hA : IntsAt w (some ⟨b, off, none⟩) zs) (h6 : zs.length ≤ 6) (hm : m < facN zs.length) :
    Calls Try.prog 57 #[.slice (some ⟨b, off, none⟩) zs.length cap, .int .i64 m] w fun e w' => ∃ sl, e = .returned (.tuple #[sl, .bool true]) ∧ Below w.heap.size w w' ∧ w'.ownsRow w.heap.size 2 1 sl (unr zs.length zs m).length ((unr zs.length zs m).map (Value.int .i64)) := by
  have HA : Hid (IntsAt w (some ⟨b, off, none⟩) zs) := hA
  have HCV : Hid (countV zs.length = (facN zs.length : Int)) := by show _ = _; rw [countV_yes h6, fac_nat]
  have hfb := facN_bd _ h6
  clear hA
  obtain ⟨R, HR⟩ : ∃ R, Hid (unr zs.length zs m = R) := ⟨_, rfl⟩
  rw [HR.out]
  obtain ⟨c, HC⟩ : ∃ c, Hid (zs.length = c) := ⟨_, rfl⟩
  rw [HC.out] at h6 hm hfb HCV HR ⊢
  have HM : Hid (m < facN c) := hm
  obtain ⟨fc, HFC⟩ : ∃ f, Hid (facN c = f) := ⟨_, rfl⟩
  rw [HFC.out] at hm hfb HCV
  have hin : inB (m : Int) 0 ((fc : Int) - 1) = true := inB_mk (by omega)
  have OB : Hid (Below w.heap.size w (w.alloc (.cells #[] 2))) := (Below.refl _ _).alloc (Nat.le_refl _) _
  go_enter Try.func57, Try.ntmps57
  go_wp2_with (first
    | (go_at_call 28; refine (specCount_any _ _).mono ?_; rintro e w' ⟨rfl, hw'⟩; subst w'; rw [HCV.out])
    | (go_at_call 78; refine (l1In_any _ _ _ _).mono ?_; rintro e w' ⟨rfl, hw'⟩; subst w')
    | (at_builtin
       refine append_many _ rfl _ _ rfl w.heap.size _ 0 [] rfl (World.ownsRow_made w #[] 0 (Nat.le_refl _) (by unfold maxLen; omega) (by simp)) b off c cap zs rfl HC.out (HA.out.below OB.out) (by omega) (by omega) (by simp) ?_
       intro lv w2 hown hg hbk hnl
       have P2 : Hid (PW w (w2.alloc (.cells #[] 2)) w.heap.size lv (.slice (some ⟨w2.heap.size, 0, none⟩) 0 0) zs []) := PW.new (by rw [HC.out]; rw [Nat.zero_add, List.nil_append] at hown; exact hown) (OB.out.grown hg OB.out.size (fun k e => own_at e)) (not_nil hnl ⟨_, _, _, rfl⟩)
       clear hown hg hbk hnl))
  clear HCV hin OB
  go_loopw [1, 6, 7, 8] (fun nv mv lv ov wr => ∃ (d N : Nat) (L O : List Int), L.length = d ∧ d ≤ c ∧ nv = .int .i64 N ∧ mv = .int .i64 (facN d : Nat) ∧ N < facN d ∧ PW w wr w.heap.size lv ov L O ∧ O.length ≤ 6 - d ∧ O ++ unr d L N = R) (fun _ _ lv _ _ => lenOfV lv)
  case atStart => exact ⟨c, m, zs, [], HC.out, Nat.le_refl _, rfl, by rw [HFC.out], HM.out, P2.out, by simp, HR.out⟩
  case round =>
    clear P2
    obtain ⟨d, N, L, O, hl, hdc, rfl, rfl, hN, hp, hol, hres⟩ := hrel
    obtain ⟨gl, cl, rfl⟩ := hp.sl
    obtain ⟨go, co, rfl⟩ := hp.so
    have P1 : Hid (PW w wr w.heap.size (.slice (some ⟨gl, 0, none⟩) L.length cl) (.slice (some ⟨go, 0, none⟩) O.length co) L O) := hp
    have HRS : Hid (O ++ unr d L N = R) := hres
    have HLd : Hid (L.length = d) := hl
    have hcap := own_cap hp.l
    clear hp hres hl
    rw [HLd.out] at hcap ⊢
    cases d with
    | zero =>
      have HE : Hid (O = R) := by
        have := HRS.out
        rw [show unr 0 L N = [] from rfl, List.append_nil] at this
        exact this
      have HO : Hid (wr.ownsRow w.heap.size 2 1 (.slice (some ⟨go, 0, none⟩) O.length co) R.length (R.map (Value.int .i64))) := by
        have := P1.out.o
        rw [HE.out] at this ⊢
        exact this
      have HB : Hid (Below w.heap.size w wr) := P1.out.b
      obtain ⟨ol, HOL⟩ : ∃ n, Hid (O.length = n) := ⟨_, rfl⟩
      rw [HOL.out] at HO ⊢
      go_wp2
      refine bodyPost_ret (v := .tuple #[.slice (some ⟨go, 0, none⟩) ol co, .bool true]) (by simp [results, Try.results57, go_sem]) rfl ⟨_, rfl, HB.out, HO.out⟩
    | succ d =>
      obtain ⟨hk, hun⟩ := unr_step HLd.out hN
      have hmod : N % facN d < facN d := Nat.mod_lt _ (facN_pos d)
      have hfp := facN_pos d
      have hfb1 := facN_bd (d + 1) (by omega)
      have hfb2 := facN_bd d (by omega)
      have hdv : ((facN (d + 1) : Nat) : Int).tdiv ((d + 1 : Nat) : Int) = (facN d : Nat) := by
        rw [Int.tdiv_eq_ediv_of_nonneg (by omega), show facN (d + 1) = facN d * (d + 1) from rfl, Int.natCast_mul, Int.mul_ediv_cancel _ (by omega)]
      have hq0 : (N : Int).tdiv ((facN d : Nat) : Int) = ((N / facN d : Nat) : Int) := by rw [Int.tdiv_eq_ediv_of_nonneg (by omega)]; simp
      have hr0 : (N : Int).tmod ((facN d : Nat) : Int) = ((N % facN d : Nat) : Int) := by rw [Int.tmod_eq_emod_of_nonneg (by omega)]; simp
      have HRS2 : Hid (O ++ [L.getD (N / facN d) 0] ++ unr d (L.eraseIdx (N / facN d)) (N % facN d) = R) := by
        show _ = _
        rw [← HRS.out, hun, List.append_assoc]; rfl
      have HNF : Hid (N < facN (d + 1)) := hN
      obtain ⟨F1, HF1⟩ : ∃ f, Hid (facN (d + 1) = f) := ⟨_, rfl⟩
      obtain ⟨F, HF⟩ : ∃ f, Hid (facN d = f) := ⟨_, rfl⟩
      obtain ⟨k, HK⟩ : ∃ f, Hid (N / facN d = f) := ⟨_, rfl⟩
      obtain ⟨r, HRr⟩ : ∃ f, Hid (N % facN d = f) := ⟨_, rfl⟩
      rw [HK.out] at hk hq0 HRS2
      rw [HRr.out] at hmod hr0 HRS2
      rw [HF1.out] at hN hfb1 hdv ⊢
      rw [HF.out] at hmod hfp hfb2 hdv hq0 hr0
      obtain ⟨D, HD⟩ : ∃ f, Hid (d + 1 = f) := ⟨_, rfl⟩
      rw [HD.out] at hk hdv hcap hol hdc HLd ⊢
      have hD0 : 0 < D := by have := HD.out; omega
      have hD6 : D ≤ 6 := by omega
      have cx : wr.cell? ⟨gl, k, none⟩ = some (.int .i64 (L.getD k 0)) := by
        obtain ⟨_, _, e, h⟩ := owns_ints P1.out.l k (by rw [HLd.out]; exact hk)
        simp at e
        obtain ⟨rfl, rfl⟩ := e
        rw [Nat.zero_add] at h
        exact h
      obtain ⟨x, HX⟩ : ∃ f, Hid (L.getD k 0 = f) := ⟨_, rfl⟩
      rw [HX.out] at cx HRS2
      obtain ⟨ol, HOL⟩ : ∃ n, Hid (O.length = n) := ⟨_, rfl⟩
      rw [HOL.out] at hol P1 ⊢
      rw [HLd.out] at P1
      clear hun HRS
      have HDV : Hid (wrap64 (((F1 : Nat) : Int) / ((D : Nat) : Int)) = (F : Nat)) := wrap_div hdv hfb2
      have HQ0 : Hid (wrap64 ((N : Int) / ((F : Nat) : Int)) = (k : Nat)) := wrap_div hq0 (by clear hdv hq0 hr0; omega)
      have HR0 : Hid ((N : Int) % ((F : Nat) : Int) = (r : Nat)) := mod_of hr0
      clear hdv hq0 hr0
      have HMOD : Hid (r < F) := hmod
      have hkc : k ≤ cl := by omega
      have hkc2 : k + 1 ≤ cl := by omega
      have hkD : k + 1 ≤ D := by omega
      have HOB : Hid (ol + D ≤ 6) := by show _ ≤ _; omega
      have hob : ol ≤ 6 := by omega
      have HDC : Hid (D ≤ c) := hdc
      clear hN hfb hm hfb1 hol hdc HNF h6 hmod
      have hdv := HDV.out
      have hq0 := HQ0.out
      have hr0 := HR0.out
      go_wp2_with (first
        | (at_builtin
           refine append_many _ rfl (.tmp 36) (.tmp 41) rfl w.heap.size _ ol O rfl (by have := P1.out.o; rw [HOL.out] at this; exact this.alloc _) wr.heap.size 0 1 1 [x] rfl rfl (ints_new1 wr x) (by omega) (by omega) (Nat.le_trans P1.out.hB.2 (by simp)) ?_
           intro ov' w4 hown hg hbk hnl
           have hp4 : PW w w4 w.heap.size (.slice (some ⟨gl, 0, none⟩) D cl) ov' L (O ++ [x]) := P1.out.put (by rw [HOL.out]; exact hown) hg hbk hnl
           obtain ⟨go', co', rfl⟩ := hp4.so
           have P4 : Hid (PW w w4 w.heap.size (.slice (some ⟨gl, 0, none⟩) D cl) (.slice (some ⟨go', 0, none⟩) (O ++ [x]).length co') L (O ++ [x])) := hp4
           have hl4 : (O ++ [x]).length = ol + 1 := by rw [List.length_append, HOL.out]; rfl
           rw [hl4] at P4 ⊢
           have hsz4 := P4.out.hB.2
           clear hown hg hbk hnl hp4 hl4)
        | (at_builtin
           refine append_many _ rfl (.tmp 43) (.tmp 46) rfl w.heap.size _ 0 [] rfl (World.ownsRow_made w4 #[] 0 hsz4 (by unfold maxLen; omega) (by simp)) gl 0 k cl (L.take k) rfl (by rw [List.length_take, HLd.out]; omega) (ints_take' (owns_ints' ((P4.out.l).alloc _) HLd.out) k) (by omega) (by omega) (Nat.le_trans hsz4 (by simp)) ?_
           intro mv w5 hown hg hbk hnl
           have P5 : Hid (PM w w5 w.heap.size (.slice (some ⟨gl, 0, none⟩) D cl) (.slice (some ⟨go', 0, none⟩) (ol + 1) co') mv L (O ++ [x]) (L.take k)) := P4.out.begin (by rw [HLd.out]; omega) hown hg hbk hnl
           have hsz5 := P5.out.hB.2
           have M5 : Hid (w5.ownsRow w.heap.size 2 1 mv k ((L.take k).map (Value.int .i64))) := by
             have := P5.out.m
             rwa [show (L.take k).length = k by rw [List.length_take, HLd.out]; omega] at this
           have I5 : Hid (IntsAt w5 (some ⟨gl, 0, none⟩) L) := owns_ints' P5.out.l HLd.out
           obtain ⟨gm, cm, rfl⟩ := own_sm M5.out P5.out.sm
           clear hown hg hbk hnl)
        | (at_builtin
           refine append_more _ rfl (.tmp 48) (.tmp 52) rfl w.heap.size _ k (L.take k) rfl M5.out _ (D - (k + 1)) _ (L.drop (k + 1)) rfl (cut0_some gl (k + 1) cl) (by rw [List.length_drop, HLd.out]) (ints_cut0 I5.out (k + 1) cl (by rw [HLd.out]; exact hcap)) (by omega) (by omega) hsz5 ?_
           intro lv' w6 hown hg hbk hnl
           have P6 : Hid (PW w w6 w.heap.size lv' (.slice (some ⟨go', 0, none⟩) (ol + 1) co') (L.eraseIdx k) (O ++ [x])) := P5.out.done (ys := L.drop (k + 1)) rfl (by rw [show (L.take k).length = k by rw [List.length_take, HLd.out]; omega, List.length_drop, HLd.out]; exact hown) hg hbk (by rw [List.length_drop, HLd.out]; exact hnl)
           have hle6 : (L.eraseIdx k).length = d := by rw [List.length_eraseIdx_of_lt (by rw [HLd.out]; exact hk), HLd.out]; have := HD.out; omega
           obtain ⟨gl', cl', rfl⟩ := P6.out.sl
           rw [hle6]
           have HL6 : Hid ((L.eraseIdx k).length = d) := hle6
           clear hown hg hbk hnl hle6))
      go_roundw
      case rel =>
        have e1 := HD.out
        have e2 := HOB.out
        have e3 := HDC.out
        have P7 := P6.out
        rw [HL6.out] at P7
        exact ⟨d, r, L.eraseIdx k, O ++ [x], HL6.out, by omega, by first | rfl | go_num, by rw [HF.out], by rw [HF.out]; exact HMOD.out, P7, by rw [List.length_append, HOL.out]; simp; omega, HRS2.out⟩
      case measure =>
        have e1 := HD.out
        simp [lenOfV]
        omega

theorem specPermuted_any (b off cap : Nat) (zs : List Int) (n : Int) (w : World) (hA : IntsAt w (some ⟨b, off, none⟩) zs) (hlen : zs.length ≤ 9223372036854775807) :
    Calls Try.prog 57 #[.slice (some ⟨b, off, none⟩) zs.length cap, .int .i64 n] w fun e w' => ∃ sl, e = .returned (.tuple #[sl, .bool (permT zs n)]) ∧ Below w.heap.size w w' ∧ w'.ownsRow w.heap.size 2 1 sl (permV zs n).length ((permV zs n).map (Value.int .i64)) := by
  cases hin : permT zs n
  · have HPV : Hid (permV zs n = []) := permV_no hin
    rw [HPV.out]
    have hcb : -1 ≤ countV zs.length ∧ countV zs.length ≤ 720 := by
      by_cases h6 : zs.length ≤ 6
      · rw [countV_yes h6]
        have := fac_bd _ h6
        omega
      · rw [countV_no (inB_not (by omega))]; omega
    obtain ⟨cv, HCV⟩ : ∃ v, Hid (countV zs.length = v) := ⟨_, rfl⟩
    rw [HCV.out] at hcb
    have hin2 : inB n 0 (cv - 1) = false := by
      have := hin
      unfold permT at this
      rw [HCV.out] at this
      exact this
    clear hin hA
    go_enter Try.func57, Try.ntmps57
    go_wp2_with (first
      | (go_at_call 28; refine (specCount_any _ _).mono ?_; rintro e w' ⟨rfl, hw'⟩; subst w'; rw [HCV.out])
      | (go_at_call 78; refine (l1In_any _ _ _ _).mono ?_; rintro e w' ⟨rfl, hw'⟩; subst w'))
    refine bodyPost_ret (v := .tuple #[.slice none 0 0, .bool false]) (by simp [results, Try.results57, go_sem]) rfl ⟨_, rfl, Below.refl _ _, World.ownsRow_nil _ _ _ _⟩
  · obtain ⟨m, rfl, h6, hm, hpv⟩ := permT_nat hin
    rw [hpv]
    exact specPermuted_loop b off cap m zs w hA h6 hm

end Go.Proofs.Ytpfikhegmmpogaa

namespace Go.Proofs.Ytpfikhegmmpogaa
open Go.RowKit

theorem rc_of' {c : Bool} {n : Int} {zs os vs : List Int} {ko kv : Nat} {veh : Int} {ids : List Int} (h : codeV c n zs os vs ko kv veh ids = 0) : rcV n zs os vs ko kv veh ids = rideV n zs (rosOf os ko ids) ids.length (fnd5F vs kv veh 1) := by
  have hc := code_case h
  rw [hc] at h
  exact rcV_yes h
theorem own_any4 {w : World} {base k : Nat} {v : Value} {e : TypeId} {size : Nat} {xs : List Value} (h : w.ownsRow base e size v k xs) : ∃ ao co, v = .slice ao k co := by
  obtain ⟨_, ⟨h1, h2⟩ | ⟨g', cap, cur, h2, _⟩⟩ := h
  · exact ⟨none, 0, by rw [h1, h2]⟩
  · exact ⟨_, _, h2⟩
theorem own_at_cap4 {w : World} {base m c : Nat} {e : TypeId} {ad : Option Addr} {xs : List Int} (h : w.ownsRow base e 1 (.slice ad m c) m (xs.map (Value.int .i64))) : IntsAt w ad xs ∧ m ≤ c := by
  have hoc := h
  obtain ⟨a', c', e, _, hi⟩ := owns_at1 h
  have e2 : ad = a' := by injection e
  refine ⟨by rw [e2]; exact hi, ?_⟩
  obtain ⟨_, ⟨h1, h2⟩ | ⟨g', cap, cur, h2, _, _, h3, _⟩⟩ := hoc
  · omega
  · injection h2 with _ _ e3
    omega

end Go.Proofs.Ytpfikhegmmpogaa

namespace Go.Proofs.Ytpfikhegmmpogaa
open Go.RowKit

/-- What rowsOf holds while it grows its rows. -/
def GB (w : World) (c b : Nat) (sl : Value) (rows : List (List Nat)) : Prop :=
  w.heap[b]? = some (.cells #[.int .i64 c] 2 (0, 0)) ∧ w.heap[b + 1]? = some (.cells #[sl] 88 (0, 0)) ∧
  w.heap[b + 2]? = some (.cells #[.func (.func 97) #[] #[.pointer (some ⟨b, 0, none⟩), .pointer (some ⟨b + 1, 0, none⟩), .pointer (some ⟨b + 2, 0, none⟩)]] 153 (0, 0)) ∧
  w.ownsRow (b + 3) 84 6 sl rows.length ((flatR rows).map (Value.int .i64))
theorem GB.o {w : World} {c b : Nat} {sl : Value} {rows : List (List Nat)} (h : GB w c b sl rows) : w.ownsRow (b + 3) 84 6 sl rows.length ((flatR rows).map (Value.int .i64)) := h.2.2.2
theorem GB.size {w : World} {c b : Nat} {sl : Value} {rows : List (List Nat)} (h : GB w c b sl rows) : b + 3 ≤ w.heap.size := row_lt h.2.2.1
theorem GB.alloc {w : World} {c b : Nat} {sl : Value} {rows : List (List Nat)} (h : GB w c b sl rows) (o : Obj) : GB (w.alloc o) c b sl rows :=
  ⟨(heap_alloc_old _ _ (row_lt h.1)).trans h.1, (heap_alloc_old _ _ (row_lt h.2.1)).trans h.2.1, (heap_alloc_old _ _ (row_lt h.2.2.1)).trans h.2.2.1, h.o.alloc o⟩
theorem GB.cells {w : World} {c b : Nat} {sl : Value} {rows : List (List Nat)} (h : GB w c b sl rows) : w.cell? ⟨b, 0, none⟩ = some (.int .i64 c) ∧ w.cell? ⟨b + 1, 0, none⟩ = some sl ∧
    w.cell? ⟨b + 2, 0, none⟩ = some (.func (.func 97) #[] #[.pointer (some ⟨b, 0, none⟩), .pointer (some ⟨b + 1, 0, none⟩), .pointer (some ⟨b + 2, 0, none⟩)]) := by
  refine ⟨?_, ?_, ?_⟩
  · rw [cell_of_row _ _ 0 _ _ _ h.1]; simp
  · rw [cell_of_row _ _ 0 _ _ _ h.2.1]; simp
  · rw [cell_of_row _ _ 0 _ _ _ h.2.2.1]; simp
theorem GB.set {w : World} {c b g i : Nat} {sl u : Value} {rows : List (List Nat)} (h : GB w c b sl rows) (hg : b + 3 ≤ g) (hne : some g ≠ sl.ownBlock) : GB (w.setCell ⟨g, i, none⟩ u) c b sl rows := by
  refine ⟨?_, ?_, ?_, ?_⟩
  · rw [heap_setCell_other _ _ _ _ (by simp; omega)]; exact h.1
  · rw [heap_setCell_other _ _ _ _ (by simp; omega)]; exact h.2.1
  · rw [heap_setCell_other _ _ _ _ (by simp; omega)]; exact h.2.2.1
  · exact ownsRow_setCell_other h.o (fun e => hne e.symm) u

/-- What is kept: all below b, and of what else was there all but the rows. -/
def RF (w w' : World) (b : Nat) (sl sl' : Value) : Prop := Below b w w' ∧ w.heap.size ≤ w'.heap.size ∧ ∀ g o, b + 3 ≤ g → w.heap[g]? = some o → some g ≠ sl.ownBlock → w'.heap[g]? = some o ∧ some g ≠ sl'.ownBlock
theorem RF.refl (w : World) (b : Nat) (sl : Value) : RF w w b sl sl := ⟨Below.refl _ _, Nat.le_refl _, fun _ _ _ h hn => ⟨h, hn⟩⟩
theorem RF.trans {w w1 w2 : World} {b : Nat} {s s1 s2 : Value} (h : RF w w1 b s s1) (h2 : RF w1 w2 b s1 s2) : RF w w2 b s s2 :=
  ⟨h.1.trans h2.1, Nat.le_trans h.2.1 h2.2.1, fun g o hg ho hn => by
    obtain ⟨a1, a2⟩ := h.2.2 g o hg ho hn
    exact h2.2.2 g o hg a1 a2⟩
theorem RF.alloc (w : World) (b : Nat) (sl : Value) (o : Obj) (hb : b ≤ w.heap.size) : RF w (w.alloc o) b sl sl :=
  ⟨(Below.refl _ _).alloc hb _, by simp, fun g _ _ ho hn => ⟨(heap_alloc_old _ _ (row_lt ho)).trans ho, hn⟩⟩

theorem infoRow : (Try.prog.info? 84).map (fun i => (i.zero, i.size, i.bytes)) = some (some (.agg #[Value.int IntKind.i64 0, Value.int IntKind.i64 0, Value.int IntKind.i64 0, Value.int IntKind.i64 0, Value.int IntKind.i64 0, Value.int IntKind.i64 0]), 6, 48) := by kernel_rfl
theorem infoRow2 : (Try.prog.info? 84).map (·.size) = some 6 := by kernel_rfl
theorem sizeRow_of {l : List Int} (h : l.length = 6) : (Try.prog.info? 84).map (·.size) = some (cellsOf l).size := by
  rw [cellsOf_size, h]; exact infoRow2

/-- 'append' of a row to the rows. -/
theorem append_row (w : World) {ops : Array Oper} {rest : List Oper} {o : Oper} {a : Act} {Q : Exit → Act → World → Prop}
    (hg : o.guard = none) (s x : Operand) (hop : o.op = Op.call { callee := Callee.builtin Builtin.append, args := #[s, x], argTypes := #[88, 88] })
    (base : Nat) (v : Value) (k : Nat) (xs : List Value) (hs : a.eval s = v) (hown : w.ownsRow base 84 6 v k xs) (ad : Addr) (c : Nat) (news : List Value) (hx : a.eval x = .slice (some ad) 1 c) (hn : news.length = 6)
    (hc : ∀ j u, news[j]? = some u → w.cell? (ad.add j) = some u) (h1c : ∀ u ∈ news, u.oneCell' = true) (b1 : k ≤ 1000) (hb : base ≤ w.heap.size)
    (hK : ∀ v' w', w'.ownsRow base 84 6 v' (k + 1) (xs ++ news) → w.grownBy w' v.ownBlock → (v'.ownBlock = v.ownBlock ∨ v'.ownBlock = some w.heap.size) → wpList Try.prog ops Q rest (a.put o.dst v') w') :
    wpList Try.prog ops Q (o :: rest) a w := by
  obtain ⟨i0, hi, hz0, hz1, hz2⟩ := info_parts infoRow
  obtain ⟨v', w', hrun, r1, r2, _⟩ := run_append_own (P := Try.prog) w base 88 o.type _ i0 _ 6 48 Try.underlying88 hi hz0 hz1 hz2 rfl (by decide) v k xs hown ad 1 c news (by rw [hn]) hc h1c (by unfold maxLen; omega) (by omega) hb
  have r4 := append_block (P := Try.prog) w base 88 o.type _ i0 _ 6 48 Try.underlying88 hi hz0 hz1 hz2 v k xs hown ad 1 c news (by rw [hn]) hc h1c (by unfold maxLen; omega) (by omega) hrun
  exact wpList_run v' hg (exec_append' s x _ v _ hop hs hx hrun) (hK v' w' r1 r2 r4)
theorem cells6_here (W : World) (o0 o1 o2 o3 o4 o5 : Value) (T : TypeId) (g : Nat) (hg : W.heap.size = g) : ∀ j u, [o0, o1, o2, o3, o4, o5][j]? = some u → (W.alloc (.cells #[o0, o1, o2, o3, o4, o5] T)).cell? ((⟨g, 0, none⟩ : Addr).add j) = some u := by
  intro j u hu
  subst hg
  have hadd : (⟨W.heap.size, 0, none⟩ : Addr).add j = ⟨W.heap.size, j, none⟩ := by unfold Addr.add; split <;> simp_all
  rw [hadd, cell_of_row _ _ j _ _ _ (heap_alloc_new W (.cells #[o0, o1, o2, o3, o4, o5] T))]
  simpa using hu
theorem list6 {l : List Int} (h : l.length = 6) : ∃ c0 c1 c2 c3 c4 c5, l = [c0, c1, c2, c3, c4, c5] := by
  match l, h with
  | [c0, c1, c2, c3, c4, c5], _ => exact ⟨c0, c1, c2, c3, c4, c5, rfl⟩

theorem GB.box {wB w4 : World} {c b : Nat} {sl : Value} {rows : List (List Nat)} (h : GB wB c b sl rows) (hg : wB.grownBy w4 sl.ownBlock) : w4.cell? ⟨b + 1, 0, none⟩ = some sl ∧ w4.frozen? ⟨b + 1, 0, none⟩ = false := by
  have r1 := (hg.block _ (row_lt h.2.1) (fun e => by have := (h.o.lt _ e.symm).1; omega)).trans h.2.1
  exact ⟨by rw [cell_of_row _ _ 0 _ _ _ r1]; simp, frozen_of_row _ _ 0 _ _ r1⟩
/-- A row more, and where it lies written down. -/
theorem GB.more {w wB w4 : World} {c b : Nat} {sl v' : Value} {rows : List (List Nat)} {pre : List Nat} (h : GB wB c b sl rows) (hw : RF w wB b sl sl) (hown : w4.ownsRow (b + 3) 84 6 v' (rows.length + 1) ((flatR rows).map (Value.int .i64) ++ (padL pre).map (Value.int .i64))) (hg : wB.grownBy w4 sl.ownBlock) (hbk : v'.ownBlock = sl.ownBlock ∨ v'.ownBlock = some wB.heap.size) :
    GB (w4.setCell ⟨b + 1, 0, none⟩ v') c b v' (rows ++ [pre]) ∧ RF w (w4.setCell ⟨b + 1, 0, none⟩ v') b sl v' := by
  have hne : ∀ g, g < b + 3 → some g ≠ sl.ownBlock := fun g hg e => by have := (h.o.lt g e.symm).1; omega
  have r0 := (hg.block _ (row_lt h.1) (hne _ (by omega))).trans h.1
  have r1 := (hg.block _ (row_lt h.2.1) (hne _ (by omega))).trans h.2.1
  have r2 := (hg.block _ (row_lt h.2.2.1) (hne _ (by omega))).trans h.2.2.1
  refine ⟨⟨?_, ?_, ?_, ?_⟩, ?_, ?_, ?_⟩
  · rw [heap_setCell_other _ _ _ _ (by simp)]; exact r0
  · rw [heap_setCell_same _ _ _ _ _ _ r1]; rfl
  · rw [heap_setCell_other _ _ _ _ (by simp)]; exact r2
  · rw [List.length_append, flatR_append, flatR_one, List.map_append]
    exact ownsRow_setCell_below hown (by simp) v'
  · have hA := hw.1.trans (((Below.refl b wB).grown hg (by have := h.size; omega) (fun k e => by have := (h.o.lt k e).1; omega)))
    exact hA.setCell (by simp) _
  · have := hw.2.1
    have := hg.size
    simp [World.setCell]
    omega
  · intro g o hgb ho hn
    obtain ⟨a1, a2⟩ := hw.2.2 g o hgb ho hn
    have a3 := (hg.block g (row_lt a1) a2).trans a1
    refine ⟨by rw [heap_setCell_other _ _ _ _ (by simp; omega)]; exact a3, ?_⟩
    rcases hbk with e | e
    · rw [e]; exact a2
    · rw [e]
      have := row_lt a1
      intro e2
      injection e2 with e2
      omega

set_option maxHeartbeats 1000000 in
theorem grow_zero (c : Nat) (b : Nat) (pre : List Nat) (sl : Value) (rows : List (List Nat)) (w : World) (hp : pre.length = c) (hk : rows.length ≤ 720) (hG : GB w c b sl rows) :
    Calls Try.prog 97 #[.agg (cellsOf (padL pre)), .int .i64 (pre.length : Nat), .pointer (some ⟨b, 0, none⟩), .pointer (some ⟨b + 1, 0, none⟩), .pointer (some ⟨b + 2, 0, none⟩)] w fun e w' => e = .returned (.tuple #[]) ∧ ∃ sl', GB w' c b sl' (rows ++ [pre]) ∧ RF w w' b sl sl' := by
  obtain ⟨c0, c1, c2, c3, c4, c5, hpl⟩ := list6 (padL_length pre)
  have HPL : Hid (padL pre = [c0, c1, c2, c3, c4, c5]) := hpl
  rw [hpl, hp]
  clear hpl
  have hcl : cellsOf [c0, c1, c2, c3, c4, c5] = #[.int .i64 c0, .int .i64 c1, .int .i64 c2, .int .i64 c3, .int .i64 c4, .int .i64 c5] := rfl
  rw [hcl]
  clear hcl
  have hcc : ((c : Int) == (c : Int)) = true := by simp
  have HG1 : Hid (GB (w.alloc (.cells #[.int .i64 c0, .int .i64 c1, .int .i64 c2, .int .i64 c3, .int .i64 c4, .int .i64 c5] 84)) c b sl rows) := hG.alloc _
  have HRF : Hid (RF w ((w.alloc (.cells #[.int .i64 c0, .int .i64 c1, .int .i64 c2, .int .i64 c3, .int .i64 c4, .int .i64 c5] 84)).alloc (.cells #[.int .i64 c0, .int .i64 c1, .int .i64 c2, .int .i64 c3, .int .i64 c4, .int .i64 c5] 84)) b sl sl) :=
    (RF.alloc w b sl _ (by have := hG.size; omega)).trans (RF.alloc _ b sl _ (by have := hG.size; simp; omega))
  obtain ⟨d0, d1, d2⟩ := HG1.out.cells
  have hsz := HG1.out.size
  have fz := frozen_of_row _ _ 0 _ _ HG1.out.2.1
  have HSZ : Hid _ := hsz
  clear hsz
  go_enter Try.func97, Try.ntmps97
  go_wp2_with (first
    | (at_builtin
       refine append_row _ rfl _ _ rfl (b + 3) sl rows.length _ rfl (HG1.out.alloc _).o _ _ [.int .i64 c0, .int .i64 c1, .int .i64 c2, .int .i64 c3, .int .i64 c4, .int .i64 c5] rfl rfl (cells6_here _ _ _ _ _ _ _ _ _ (by simp)) (by simp [Value.oneCell']) (by omega) (Nat.le_trans HSZ.out (by simp)) ?_
       intro v' w4 hown hg hbk
       have HM : Hid (GB (w4.setCell ⟨b + 1, 0, none⟩ v') c b v' (rows ++ [pre]) ∧ RF w (w4.setCell ⟨b + 1, 0, none⟩ v') b sl v') := GB.more (HG1.out.alloc _) HRF.out (by rw [HPL.out]; exact hown) hg hbk
       obtain ⟨e1, e2⟩ := (HG1.out.alloc _).box hg
       obtain ⟨g', cg, rfl, _⟩ := own_some hown
       clear hown hg hbk))
  refine bodyPost_ret (results_none rfl _ _ _) rfl ?_
  exact ⟨rfl, _, HM.out.1, HM.out.2⟩

theorem arrRow : Try.prog.arrayLen 84 = 6 := by kernel_rfl
theorem elRow : (Try.prog.info? (Try.prog.elem 84)).map (·.size) = some 1 := by kernel_rfl
theorem undRow : Try.prog.underlying 84 = some (.array (Try.prog.arrayLen 84) (Try.prog.elem 84)) := by kernel_rfl
theorem slice_row (W : World) (g l : Nat) (h : l ≤ 6) : (Instr.sliceAt 84 (.pointer (some ⟨g, 0, none⟩)) none (some (.int .i64 l)) none).run Try.prog W = .ok (.slice (some ⟨g, 0, none⟩) l 6) W := by
  rw [run_sliceAt_array_h W _ _ undRow .i64 (l : Int) (by omega) (by rw [arrRow]; omega), arrRow]
  have h1 := elRow
  cases hq : Try.prog.info? (Try.prog.elem 84) with
  | none => simp [hq] at h1
  | some i => simp [sizeOf, typeInfo, hq, slicedAt, Addr.add]

/-- The box of the row that is begun. -/
def BX (w : World) (g : Nat) (pre : List Nat) (x : Int) : Prop := w.heap[g]? = some (.cells (cellsOf ((padL pre).set pre.length x)) 84 (0, 0))

/-- What a call with d places to come does. -/
def GrowOk (c b d : Nat) : Prop := ∀ (pre : List Nat) (sl : Value) (rows : List (List Nat)) (w : World), pre.length + d = c → (av c pre).length = d → rows.length + facN d ≤ 720 → GB w c b sl rows →
      Calls Try.prog 97 #[.agg (cellsOf (padL pre)), .int .i64 (pre.length : Nat), .pointer (some ⟨b, 0, none⟩), .pointer (some ⟨b + 1, 0, none⟩), .pointer (some ⟨b + 2, 0, none⟩)] w fun e w' => e = .returned (.tuple #[]) ∧ ∃ sl', GB w' c b sl' (rows ++ gen c d pre) ∧ RF w w' b sl sl'

set_option maxHeartbeats 2000000 in
theorem grow_succ (c : Nat) (hc6 : c ≤ 6) (b d : Nat) (ih : GrowOk c b d) (pre : List Nat) (sl : Value) (rows : List (List Nat)) (w : World) (hp : pre.length + (d + 1) = c) (hav : (av c pre).length = d + 1) (hk : rows.length + facN (d + 1) ≤ 720) (hG : GB w c b sl rows) :
    Calls Try.prog 97 #[.agg (cellsOf (padL pre)), .int .i64 (pre.length : Nat), .pointer (some ⟨b, 0, none⟩), .pointer (some ⟨b + 1, 0, none⟩), .pointer (some ⟨b + 2, 0, none⟩)] w fun e w' => e = .returned (.tuple #[]) ∧ ∃ sl', GB w' c b sl' (rows ++ gen c (d + 1) pre) ∧ RF w w' b sl sl' := by
    have HIH : Hid (GrowOk c b d) := ih
    clear ih
    have HAV : Hid ((av c pre).length = d + 1) := hav
    have HK : Hid (rows.length + facN (d + 1) ≤ 720) := hk
    have HP : Hid (pre.length + (d + 1) = c) := hp
    have HG0 : Hid (GB w c b sl rows) := hG
    have hsz0 := hG.size
    have hpl : pre.length < c := by omega
    have hpl6 : pre.length < 6 := by omega
    obtain ⟨gr, HGR⟩ : ∃ gr, Hid (cellsOf (padL pre) = gr) := ⟨_, rfl⟩
    rw [HGR.out]
    have HG1 : Hid (GB (w.alloc (.cells gr 84)) c b sl rows) := hG.alloc _
    have HB1 : Hid (BX (w.alloc (.cells gr 84)) w.heap.size pre 0) := by
      show _ = _
      rw [padL_set0, HGR.out]; exact heap_alloc_new _ _
    have HR1 : Hid (RF w (w.alloc (.cells gr 84)) b sl sl) := RF.alloc w b sl _ (by omega)
    have HN1 : Hid (some w.heap.size ≠ sl.ownBlock) := fun e => by have := (hG.o.lt _ e.symm).2; omega
    obtain ⟨l, HL⟩ : ∃ l, Hid (pre.length = l) := ⟨_, rfl⟩
    rw [HL.out] at hpl hpl6 ⊢
    have hne : ((l : Int) == (c : Int)) = false := by rw [beq_eq_false_iff_ne]; omega
    obtain ⟨d0, d1, d2⟩ := HG1.out.cells
    clear hp hav hk hG hsz0
    go_enter Try.func97, Try.ntmps97
    go_wp2_with fail
    clear hne d0 d1 d2
    go_loopw [16] (fun t wr => ∃ (q : Nat) (x : Int) (sl1 : Value), q ≤ c ∧ t = .int .i64 q ∧ GB wr c b sl1 (rows ++ genTo c d pre q) ∧ BX wr w.heap.size pre x ∧ RF w wr b sl sl1 ∧ some w.heap.size ≠ sl1.ownBlock) (fun t _ => c - (intOf t).toNat)
    case atStart => exact ⟨0, 0, sl, Nat.zero_le _, rfl, by rw [genTo_zero, List.append_nil]; exact HG1.out, HB1.out, HR1.out, HN1.out⟩
    case round =>
      clear HG1 HB1 HR1 HN1
      obtain ⟨q, x, sl1, hq, rfl, hG, hB, hR, hN⟩ := hrel
      have G1 : Hid (GB wr c b sl1 (rows ++ genTo c d pre q)) := hG
      have B1 : Hid (BX wr w.heap.size pre x) := hB
      have R1 : Hid (RF w wr b sl sl1) := hR
      have N1 : Hid (some w.heap.size ≠ sl1.ownBlock) := hN
      have hsz : b + 3 ≤ w.heap.size := HG0.out.size
      clear hG hB hR hN
      by_cases hlt : q < c
      · have HIN : Hid (IntsAt wr (some ⟨w.heap.size, 0, none⟩) ((padL pre).set pre.length x)) := IntsAt.of_row B1.out
        have HHAS : Hid (hasTo ((padL pre).set pre.length x) l (q : Int) = decide (q ∈ pre)) := by
          show _ = _
          rw [← HL.out]; exact pad_has pre q x (by rw [HL.out]; exact hpl6)
        have HLL : Hid (((padL pre).set pre.length x).length = 6) := by show _ = _; rw [List.length_set, padL_length]
        have hll : l ≤ 6 := by omega
        have hl9 : l ≤ 9223372036854775807 := by omega
        have hsl := fun W => slice_row W w.heap.size l hll
        by_cases hm : q ∈ pre
        · have HH : Hid (hasTo ((padL pre).set pre.length x) l (q : Int) = true) := by show _ = _; rw [HHAS.out]; simp [hm]
          have HG : Hid (GB wr c b sl1 (rows ++ genTo c d pre (q + 1))) := by have := G1.out; rwa [← genTo_in hm] at this
          clear hm HHAS G1
          go_wp2_with (go_at_call 98; refine (contains_any _ l _ _ _ _ HIN.out (by rw [HLL.out]; exact hll) hl9).mono ?_; rintro e w' ⟨rfl, hw'⟩; subst w'; rw [HH.out])
          refine ⟨⟨q + 1, x, sl1, by omega, by go_num, HG.out, B1.out, R1.out, N1.out⟩, by simp [intOf]; omega⟩
        · have HH : Hid (hasTo ((padL pre).set pre.length x) l (q : Int) = false) := by show _ = _; rw [HHAS.out]; simp [hm]
          have HM : Hid (q ∉ pre) := hm
          clear hm HHAS
          have cx := cell_of_row _ _ l _ _ _ B1.out
          rw [cellsOf_get _ _ (by rw [HLL.out]; omega)] at cx
          have fx := frozen_of_row _ _ l _ _ B1.out
          obtain ⟨cv, HCV⟩ : ∃ v, Hid (((padL pre).set pre.length x).getD l 0 = v) := ⟨_, rfl⟩
          rw [HCV.out] at cx
          have GS : Hid (GB (wr.setCell ⟨w.heap.size, l, none⟩ (.int .i64 q)) c b sl1 (rows ++ genTo c d pre q)) := G1.out.set hsz N1.out
          have BS : Hid ((wr.setCell ⟨w.heap.size, l, none⟩ (.int .i64 q)).heap[w.heap.size]? = some (.cells (cellsOf (padL (pre ++ [q]))) 84 (0, 0))) := by
            show _ = _
            rw [heap_setCell_same _ _ _ _ _ _ B1.out, cellsOf_set, ← HL.out, padL_set]
          have BX2 : Hid (BX (wr.setCell ⟨w.heap.size, l, none⟩ (.int .i64 q)) w.heap.size pre q) := by
            show _ = _
            rw [BS.out, ← padL_set pre q x, List.set_set]
          have RS : Hid (RF w (wr.setCell ⟨w.heap.size, l, none⟩ (.int .i64 q)) b sl sl1) := by
            refine ⟨R1.out.1.setCell (by simp; omega) _, by have := R1.out.2.1; simpa [World.setCell] using this, fun g o hg ho hn => ?_⟩
            obtain ⟨a1, a2⟩ := R1.out.2.2 g o hg ho hn
            refine ⟨?_, a2⟩
            rw [heap_setCell_other _ _ _ _ (by have := row_lt ho; simp; omega)]
            exact a1
          have HK2 : Hid ((rows ++ genTo c d pre q).length + facN d ≤ 720) := by
            have h1 := genTo_length_le HAV.out (q + 1) (by omega)
            rw [genTo_out HM.out, List.length_append, (gen_all c d (pre ++ [q]) (av_len hlt HM.out HAV.out)).1] at h1
            have := HK.out
            show _ ≤ _
            rw [List.length_append]
            omega
          have HC : Hid (∀ w1, GB w1 c b sl1 (rows ++ genTo c d pre q) → Calls Try.prog 97 #[.agg (cellsOf (padL (pre ++ [q]))), .int .i64 ((l : Int) + 1), .pointer (some ⟨b, 0, none⟩), .pointer (some ⟨b + 1, 0, none⟩), .pointer (some ⟨b + 2, 0, none⟩)] w1 fun e w' => e = .returned (.tuple #[]) ∧ ∃ sl', GB w' c b sl' (rows ++ genTo c d pre (q + 1)) ∧ RF w1 w' b sl1 sl') := by
            intro w1 hg1
            have := HIH.out (pre ++ [q]) sl1 (rows ++ genTo c d pre q) w1 (by have := HP.out; rw [List.length_append, List.length_singleton]; omega) (av_len hlt HM.out HAV.out) HK2.out hg1
            rw [List.append_assoc, ← genTo_out HM.out, List.length_append, HL.out, List.length_singleton, Int.natCast_add] at this
            exact this
          clear HK2 HCV
          obtain ⟨g2, HG2⟩ : ∃ gr, Hid (cellsOf (padL (pre ++ [q])) = gr) := ⟨_, rfl⟩
          have HS2 : Hid ((Try.prog.info? 84).map (·.size) = some g2.size) := by show _ = _; rw [← HG2.out]; exact sizeRow_of (padL_length _)
          rw [HG2.out] at HC BS
          obtain ⟨d0, d1, d2⟩ := GS.out.cells
          go_wp2_with (first
            | (go_at_call 98; refine (contains_any _ l _ _ _ _ HIN.out (by rw [HLL.out]; exact hll) hl9).mono ?_; rintro e w' ⟨rfl, hw'⟩; subst w'; rw [HH.out])
            | (with_reducible refine wpList_load_row ?_ 84 (.tmp 5) ?_ (w.heap.size) ?_ 84 g2 (0, 0) _ ?_ Try.underlying84 ?_ ?_ ?_
               · rfl
               · rfl
               · rfl
               · exact BS.out
               · rfl
               · exact HS2.out)
            | (go_at_call 97; refine (HC.out _ GS.out).mono ?_; rintro e w5 ⟨rfl, sl2, hg5, hr5⟩; have G5 : Hid (GB w5 c b sl2 (rows ++ genTo c d pre (q + 1))) := hg5; have R5 : Hid (RF (wr.setCell ⟨w.heap.size, l, none⟩ (.int .i64 q)) w5 b sl1 sl2) := hr5; clear hg5 hr5))
          have hbx := R5.out.2.2 w.heap.size _ hsz BX2.out N1.out
          refine ⟨⟨q + 1, q, sl2, by omega, by go_num, G5.out, hbx.1, RS.out.trans R5.out, hbx.2⟩, by simp [intOf]; omega⟩
      · have hqc : q = c := by omega
        have HG : Hid (GB wr c b sl1 (rows ++ gen c (d + 1) pre)) := by have := G1.out; rwa [hqc, genTo_all] at this
        clear hqc G1
        go_wp2
        first
          | refine bodyPost_end (results_none rfl _ _ _) rfl ?_
          | refine bodyPost_ret (results_none rfl _ _ _) rfl ?_
        exact ⟨rfl, sl1, HG.out, R1.out⟩

theorem grow_any (c : Nat) (hc6 : c ≤ 6) (b : Nat) : ∀ d, GrowOk c b d := by
  intro d
  induction d with
  | zero => exact fun pre sl rows w hp _ hk hG => grow_zero c b pre sl rows w hp (by omega) hG
  | succ d ih => exact fun pre sl rows w hp hav hk hG => grow_succ c hc6 b d ih pre sl rows w hp hav hk hG

end Go.Proofs.Ytpfikhegmmpogaa

namespace Go.Proofs.Ytpfikhegmmpogaa
open Go.RowKit

/-- 'make([]int64, 0, n)'. -/
theorem make_room (w : World) {ops : Array Oper} {rest : List Oper} {o : Oper} {a : Act} {Q : Exit → Act → World → Prop}
    (hg : o.guard = none) (l c : Operand) (hop : o.op = Op.makeSlice 24 l c) (base : Nat)
    (kl kc : IntKind) (C : Int) (n : Nat) (hl : a.eval l = .int kl 0) (hc : a.eval c = .int kc C) (hC : C = (n : Int)) (b2 : n ≤ 1048576) (b4 : base ≤ w.heap.size)
    (hK : ∀ w', w'.ownsRow base 2 1 (.slice (some ⟨w.heap.size, 0, none⟩) 0 n) 0 [] → w.grownBy w' none → wpList Try.prog ops Q rest (a.put o.dst (.slice (some ⟨w.heap.size, 0, none⟩) 0 n)) w') :
    wpList Try.prog ops Q (o :: rest) a w := by
  obtain ⟨i0, hi, hz0, hz1, hz2⟩ := info_parts Try.info2
  exact wpList_make_own w hg l c _ hop base _ i0 _ 1 Try.underlying24 hi hz0 hz1 kl kc C n hl hc hC (by rw [hz2]; omega) (by unfold maxLen; omega) b4 hK

end Go.Proofs.Ytpfikhegmmpogaa

namespace Go.Proofs.Ytpfikhegmmpogaa
open Go.RowKit

theorem ints_set {W : World} {g o k i : Nat} {zs : List Int} {v : Value} (h : IntsAt W (some ⟨g, o, none⟩) zs) (hne : g ≠ k) : IntsAt (W.setCell ⟨k, i, none⟩ v) (some ⟨g, o, none⟩) zs := by
  intro j hj
  exact ⟨g, o, rfl, keep_set (ints_cell h hj rfl) hne⟩

theorem cells8 {w : World} {k : Nat} {c0 c1 c2 c3 c4 c5 c6 c7 : Value} {T : TypeId} (r : w.heap[k]? = some (.cells #[c0, c1, c2, c3, c4, c5, c6, c7] T (0, 0))) :
    w.cell? ⟨k, 0, none⟩ = some c0 ∧ w.cell? ⟨k, 1, none⟩ = some c1 ∧ w.cell? ⟨k, 2, none⟩ = some c2 ∧ w.cell? ⟨k, 3, none⟩ = some c3 ∧ w.cell? ⟨k, 4, none⟩ = some c4 ∧ w.cell? ⟨k, 5, none⟩ = some c5 ∧ w.cell? ⟨k, 6, none⟩ = some c6 ∧ w.cell? ⟨k, 7, none⟩ = some c7 := by
  refine ⟨?_, ?_, ?_, ?_, ?_, ?_, ?_, ?_⟩
  · rw [cell_of_row _ _ 0 _ _ _ r]; simp
  · rw [cell_of_row _ _ 1 _ _ _ r]; simp
  · rw [cell_of_row _ _ 2 _ _ _ r]; simp
  · rw [cell_of_row _ _ 3 _ _ _ r]; simp
  · rw [cell_of_row _ _ 4 _ _ _ r]; simp
  · rw [cell_of_row _ _ 5 _ _ _ r]; simp
  · rw [cell_of_row _ _ 6 _ _ _ r]; simp
  · rw [cell_of_row _ _ 7 _ _ _ r]; simp

/-- A case, a route and a tour in their boxes. -/
def CRT (w W : World) (cs rs ts : Array Value) : Prop := CR w W cs rs ∧ W.heap[w.heap.size + 2]? = some (.cells ts 97 (0, 0))
theorem CRT.new (w : World) (cs rs ts : Array Value) : CRT w (((w.alloc (.cells cs 30)).alloc (.cells rs 34)).alloc (.cells ts 97)) cs rs ts := by
  refine ⟨(CR.new w cs rs).alloc _, ?_⟩
  have := heap_alloc_new ((w.alloc (.cells cs 30)).alloc (.cells rs 34)) (.cells ts 97)
  simpa using this
theorem CRT.below {w W W' : World} {cs rs ts : Array Value} (h : CRT w W cs rs ts) (hb : Below W.heap.size W W') : CRT w W' cs rs ts :=
  ⟨h.1.below hb, below_row hb (row_lt h.2) h.2⟩
theorem CRT.b {w W : World} {cs rs ts : Array Value} (h : CRT w W cs rs ts) : Below w.heap.size w W := h.1.1
theorem CRT.alloc {w W : World} {cs rs ts : Array Value} (h : CRT w W cs rs ts) (o : Obj) : CRT w (W.alloc o) cs rs ts := h.below ((Below.refl _ _).alloc (Nat.le_refl _) _)

set_option maxHeartbeats 1000000 in
theorem loadedTour_any (n fine veh : Int) (a ao av bi : Option Addr) (cap ko co kv cv c2 : Nat) (zs os vs ids : List Int) (w : World) (hA : IntsAt w a zs) (hO : IntsAt w ao os) (hV : IntsAt w av vs) (hI : IntsAt w bi ids) (hlo : os.length = ko * 6) (hlv : vs.length = kv * 5) (hko : ko ≤ 9223372036854775807) (hkv : kv ≤ 9223372036854775807) (hli : ids.length ≤ 9223372036854775807) (hc2 : ids.length ≤ c2) (hcB : caseB n zs os vs ko kv fine = true) :
    Calls Try.prog 122 #[.agg #[.int .i64 n, .slice a zs.length cap, .slice ao ko co, .slice av kv cv, .int .i64 fine], .agg #[.int .i64 veh, .slice bi ids.length c2]] w fun e w' => Below w.heap.size w w' ∧ ((formV true vs os kv ko veh ids ≠ 0 ∧ e = .returned (.tuple #[.agg #[Value.int IntKind.i64 0, Value.slice none 0 0, Value.int IntKind.i64 0, Value.int IntKind.i64 0, Value.int IntKind.i64 0, Value.int IntKind.i64 0, Value.int IntKind.i64 0, Value.slice none 0 0], .int .i64 (formV true vs os kv ko veh ids)])) ∨ (formV true vs os kv ko veh ids = 0 ∧ ∃ g, w.heap.size ≤ g ∧ e = .returned (.tuple #[.agg #[.int .i64 n, .slice a zs.length cap, .int .i64 (fnd5F vs kv veh 0), .int .i64 (fnd5F vs kv veh 1), .int .i64 (fnd5F vs kv veh 2), .int .i64 (fnd5F vs kv veh 3), .int .i64 (fnd5F vs kv veh 4), .slice (some ⟨g, 0, none⟩) ids.length ids.length], .int .i64 0]) ∧ IntsAt w' (some ⟨g, 0, none⟩) (rosOf os ko ids))) := by
  have HA : Hid (IntsAt w a zs) := hA
  have HO : Hid (IntsAt w ao os) := hO
  have HV : Hid (IntsAt w av vs) := hV
  have HI : Hid (IntsAt w bi ids) := hI
  have HLO : Hid _ := hlo
  have HLV : Hid _ := hlv
  clear hA hO hV hI hlo hlv
  have HC : Hid (caseB n zs os vs ko kv fine = true) := hcB
  clear hcB
  have HC0 : Hid (CRT w (((w.alloc (.cells #[Value.int IntKind.i64 n, Value.slice a zs.length cap, Value.slice ao ko co, Value.slice av kv cv, Value.int IntKind.i64 fine] 30)).alloc (.cells #[Value.int IntKind.i64 veh, Value.slice bi ids.length c2] 34)).alloc (.cells #[Value.int IntKind.i64 0, Value.slice none 0 0, Value.int IntKind.i64 0, Value.int IntKind.i64 0, Value.int IntKind.i64 0, Value.int IntKind.i64 0, Value.int IntKind.i64 0, Value.slice none 0 0] 97)) _ _ _) := CRT.new w _ _ _
  obtain ⟨r, HR⟩ : ∃ r, Hid (formV true vs os kv ko veh ids = r) := ⟨_, rfl⟩
  rw [HR.out]
  go_enter Try.func122, Try.ntmps122
  obtain ⟨c0, c1, c2', c3, c4⟩ := cells5 HC0.out.1.2.1
  obtain ⟨d0, d1⟩ := cells2 HC0.out.1.2.2
  go_wp2_with fail
  clear c0 c1 c2' c3 c4 d0 d1
  refine (findVehicle_any n fine veh a ao av _ cap ko co kv cv vs _ (HV.out.below HC0.out.1.1) HLV.out hkv).mono ?_
  rintro e w2 ⟨rfl, hb⟩
  obtain ⟨v0, G0⟩ : ∃ t, Hid (fnd5F vs kv veh 0 = t) := ⟨_, rfl⟩
  obtain ⟨v1, G1⟩ : ∃ t, Hid (fnd5F vs kv veh 1 = t) := ⟨_, rfl⟩
  obtain ⟨v2, G2⟩ : ∃ t, Hid (fnd5F vs kv veh 2 = t) := ⟨_, rfl⟩
  obtain ⟨v3, G3⟩ : ∃ t, Hid (fnd5F vs kv veh 3 = t) := ⟨_, rfl⟩
  obtain ⟨v4, G4⟩ : ∃ t, Hid (fnd5F vs kv veh 4 = t) := ⟨_, rfl⟩
  rw [G0.out, G1.out, G2.out, G3.out, G4.out]
  have C2 : Hid (CRT w (w2.alloc (Obj.cells #[Value.int IntKind.i64 v0, Value.int IntKind.i64 v1, Value.int IntKind.i64 v2, Value.int IntKind.i64 v3, Value.int IntKind.i64 v4] 95)) _ _ _) := (HC0.out.below hb).alloc _
  have RV2 : Hid ((w2.alloc (Obj.cells #[Value.int IntKind.i64 v0, Value.int IntKind.i64 v1, Value.int IntKind.i64 v2, Value.int IntKind.i64 v3, Value.int IntKind.i64 v4] 95)).heap[w2.heap.size]? = _) := heap_alloc_new _ _
  clear hb HC0
  obtain ⟨t0, t1, t2, t3, t4, t5, t6, t7⟩ := cells8 C2.out.2
  have tf := fun i => frozen_of_row _ _ i _ _ C2.out.2
  cases ht : fnd5T vs kv veh
  · have HV1 : Hid (r = 2) := HR.out.symm.trans (formV_2 rfl ht)
    go_wp2
    refine bodyPost_ret (v := .tuple #[.agg #[Value.int IntKind.i64 0, Value.slice none 0 0, Value.int IntKind.i64 0, Value.int IntKind.i64 0, Value.int IntKind.i64 0, Value.int IntKind.i64 0, Value.int IntKind.i64 0, Value.slice none 0 0], .int .i64 2]) (by simp [results, Try.results122, go_sem, t0, t1, t2, t3, t4, t5, t6, t7]) rfl ⟨?_, .inl ⟨by rw [HV1.out]; decide, by rw [HV1.out]⟩⟩
    repeat (first | with_reducible exact C2.out.b | refine Below.setCell ?_ (by simp <;> omega) _)
  · have HT5 : Hid _ := ht
    clear ht
    obtain ⟨c0, c1, c2', c3, c4⟩ := cells5 C2.out.1.2.1
    obtain ⟨d0, d1⟩ := cells2 C2.out.1.2.2
    go_wp2_with fail
    clear c0 c1 c2' c3 c4 d0 d1 t0 t1 t2 t3 t4 t5 t6 t7 tf
    generalize w2.alloc (Obj.cells #[Value.int IntKind.i64 v0, Value.int IntKind.i64 v1, Value.int IntKind.i64 v2, Value.int IntKind.i64 v3, Value.int IntKind.i64 v4] 95) = W2 at *
    generalize w2.heap.size = gv at *
    refine (stopsOf_any n fine a ao av bi cap ko co kv cv c2 zs os ids W2 (HO.out.below C2.out.1.1) (HI.out.below C2.out.1.1) HLO.out hko hli hc2).mono ?_
    rintro e w3 ⟨hb, ⟨hst, rfl⟩ | ⟨hst, rfl, hros⟩⟩
    · have C3 : Hid (CRT w w3 _ _ _) := C2.out.below hb
      have HV1 : Hid (r = 3) := HR.out.symm.trans (formV_3 rfl HT5.out hst)
      obtain ⟨t0, t1, t2, t3, t4, t5, t6, t7⟩ := cells8 C3.out.2
      have tf := fun i => frozen_of_row _ _ i _ _ C3.out.2
      clear hb hst
      go_wp2
      refine bodyPost_ret (v := .tuple #[.agg #[Value.int IntKind.i64 0, Value.slice none 0 0, Value.int IntKind.i64 0, Value.int IntKind.i64 0, Value.int IntKind.i64 0, Value.int IntKind.i64 0, Value.int IntKind.i64 0, Value.slice none 0 0], .int .i64 3]) (by simp [results, Try.results122, go_sem, t0, t1, t2, t3, t4, t5, t6, t7]) rfl ⟨?_, .inl ⟨by rw [HV1.out]; decide, by rw [HV1.out]⟩⟩
      repeat (first | with_reducible exact C3.out.b | refine Below.setCell ?_ (by simp <;> omega) _)
    · have HST : Hid (stopsB os ko ids = true) := hst
      have C3 : Hid (CRT w w3 _ _ _) := C2.out.below hb
      have RV3 : Hid (w3.heap[gv]? = _) := below_row hb (row_lt RV2.out) RV2.out
      have HROS : Hid (IntsAt w3 (some ⟨W2.heap.size + 1, 0, none⟩) (rosOf os ko ids)) := hros
      have HGR : Hid (w.heap.size + 2 < W2.heap.size + 1) := Nat.lt_succ_of_lt (row_lt C2.out.2)
      clear hb hst hros C2 RV2
      generalize W2.heap.size + 1 = gr at *
      obtain ⟨q0, q1, q2, q3, q4⟩ := cells5 RV3.out
      obtain ⟨hmat, hords, hvehs, hn1, _⟩ := caseB_parts HC.out
      have hroom := (fnd5F_bd hvehs hn1 veh).2.1
      rw [G2.out] at hroom
      have HOB : Hid (ordsB n os ko = true) := hords
      have HN1 : Hid (1 ≤ n) := hn1
      clear hmat hords hvehs hn1
      have h12 := (stopsB_true HST.out).1
      go_wp2_with fail
      clear q0 q1 q2 q3 q4
      go_loopw [9, 36] (fun rm t wr => ∃ k : Nat, k ≤ ids.length ∧ t = .int .i64 k ∧ rm = .int .i64 (v2 - loadTo os ko ids k) ∧ CRT w wr #[Value.int IntKind.i64 n, Value.slice a zs.length cap, Value.slice ao ko co, Value.slice av kv cv, Value.int IntKind.i64 fine] #[Value.int IntKind.i64 veh, Value.slice bi ids.length c2] #[Value.int IntKind.i64 0, Value.slice none 0 0, Value.int IntKind.i64 0, Value.int IntKind.i64 0, Value.int IntKind.i64 0, Value.int IntKind.i64 0, Value.int IntKind.i64 0, Value.slice none 0 0] ∧ wr.heap[gv]? = some (.cells #[Value.int IntKind.i64 v0, Value.int IntKind.i64 v1, Value.int IntKind.i64 v2, Value.int IntKind.i64 v3, Value.int IntKind.i64 v4] 95 (0, 0)) ∧ IntsAt wr (some ⟨gr, 0, none⟩) (rosOf os ko ids)) (fun _ t _ => ids.length - (intOf t).toNat)
      case atStart => exact ⟨0, Nat.zero_le _, rfl, by simp [loadTo], C3.out, RV3.out, HROS.out⟩
      case round =>
        clear C3 RV3 HROS
        obtain ⟨k, hk, rfl, rfl, hb, hrv, hros⟩ := hrel
        have hbd := loadTo_bd HOB.out ids k
        have HB : Hid (CRT w wr _ _ _) := hb
        have HRV : Hid (wr.heap[gv]? = _) := hrv
        have HROS : Hid (IntsAt wr (some ⟨gr, 0, none⟩) (rosOf os ko ids)) := hros
        obtain ⟨s0, HS0⟩ : ∃ s, Hid (loadTo os ko ids k = s) := ⟨_, rfl⟩
        rw [HS0.out] at hbd ⊢
        clear hb hrv hros
        by_cases hlt : k < ids.length
        · obtain ⟨b', off', e, hcs⟩ := IntsAt.some HROS.out (j := k * 6) (by rw [rosOf_length]; omega)
          simp at e
          obtain ⟨rfl, rfl⟩ := e
          obtain ⟨r0, r1, r2, r3, r4, r5⟩ := row6_at hcs (rosOf_length os ko ids) k hlt
          clear hcs
          simp only [Nat.zero_add] at r0 r1 r2 r3 r4 r5
          obtain ⟨id, HID⟩ : ∃ i, Hid (ids.getD k 0 = i) := ⟨_, rfl⟩
          rw [rosOf_at os ko ids hlt (by omega), HID.out] at r0 r1 r2 r3 r4 r5
          have hl2 := fnd6F_load HOB.out id
          obtain ⟨o0, H0⟩ : ∃ t, Hid (fnd6F os ko id 0 = t) := ⟨_, rfl⟩
          obtain ⟨o1, H1⟩ : ∃ t, Hid (fnd6F os ko id 1 = t) := ⟨_, rfl⟩
          obtain ⟨o2, H2⟩ : ∃ t, Hid (fnd6F os ko id 2 = t) := ⟨_, rfl⟩
          obtain ⟨o3, H3⟩ : ∃ t, Hid (fnd6F os ko id 3 = t) := ⟨_, rfl⟩
          obtain ⟨o4, H4⟩ : ∃ t, Hid (fnd6F os ko id 4 = t) := ⟨_, rfl⟩
          obtain ⟨o5, H5⟩ : ∃ t, Hid (fnd6F os ko id 5 = t) := ⟨_, rfl⟩
          rw [H2.out] at hl2
          rw [H0.out] at r0
          rw [H1.out] at r1
          rw [H2.out] at r2
          rw [H3.out] at r3
          rw [H4.out] at r4
          rw [H5.out] at r5
          have HL1 : Hid (loadTo os ko ids (k + 1) = s0 + o2) := by
            show _ = _
            unfold loadTo
            rw [HS0.out, HID.out, H2.out]
          go_wp2
          exact ⟨⟨k + 1, by omega, by go_num, by rw [HL1.out]; go_num, HB.out.alloc _, (heap_alloc_old _ _ (row_lt HRV.out)).trans HRV.out, HROS.out.below ((Below.refl _ _).alloc (Nat.le_refl _) _)⟩, by simp [intOf]; omega⟩
        · have hkl : k = ids.length := by omega
          have HS0' : Hid (loadTo os ko ids ids.length = s0) := hkl ▸ HS0.out
          obtain ⟨t0, t1, t2, t3, t4, t5, t6, t7⟩ := cells8 HB.out.2
          have tf := fun i => frozen_of_row _ _ i _ _ HB.out.2
          clear hkl
          by_cases hroom2 : v2 < s0
          · have HV1 : Hid (r = 4) := HR.out.symm.trans (formV_4 rfl HT5.out HST.out (by rw [HS0'.out, G2.out]; exact hroom2))
            go_wp2
            refine bodyPost_ret (v := .tuple #[.agg #[Value.int IntKind.i64 0, Value.slice none 0 0, Value.int IntKind.i64 0, Value.int IntKind.i64 0, Value.int IntKind.i64 0, Value.int IntKind.i64 0, Value.int IntKind.i64 0, Value.slice none 0 0], .int .i64 4]) (by simp [results, Try.results122, go_sem, t0, t1, t2, t3, t4, t5, t6, t7]) rfl ⟨?_, .inl ⟨by rw [HV1.out]; decide, by rw [HV1.out]⟩⟩
            repeat (first | with_reducible exact HB.out.b | refine Below.setCell ?_ (by simp <;> omega) _)
          · have HV1 : Hid (r = 0) := HR.out.symm.trans (formV_0 rfl HT5.out HST.out (by rw [HS0'.out, G2.out]; exact hroom2))
            obtain ⟨q0, q1, q2, q3, q4⟩ := cells5 HRV.out
            obtain ⟨c0, c1, c2', c3, c4⟩ := cells5 HB.out.1.2.1
            go_wp2
            refine bodyPost_ret (v := .tuple #[.agg #[.int .i64 n, .slice a zs.length cap, .int .i64 v0, .int .i64 v1, .int .i64 v2, .int .i64 v3, .int .i64 v4, .slice (some ⟨gr, 0, none⟩) ids.length ids.length], .int .i64 0]) (by simp [results, Try.results122, go_sem, t0, t1, t2, t3, t4, t5, t6, t7]) rfl ⟨?_, .inr ⟨HV1.out, gr, by have := HGR.out; omega, ?_, ?_⟩⟩
            · repeat (first | with_reducible exact HB.out.b | refine Below.setCell ?_ (by simp <;> omega) _)
            · rw [G0.out, G1.out, G2.out, G3.out, G4.out]
            · repeat (first | with_reducible exact HROS.out | with_reducible refine ints_set ?_ (by have := HGR.out; omega))

end Go.Proofs.Ytpfikhegmmpogaa

namespace Go.Proofs.Ytpfikhegmmpogaa
open Go.RowKit

theorem keptAt_mk {n : Int} {zs ros starts : List Int} {home frm : Int} {k : Nat} {t f p o1 o3 o4 d : Int} (ht : starts.getD k 0 = t) (hf : freeK ros starts frm k = f) (hp : plc ros home k = p) (h1 : og6 ros k 1 = o1) (h3 : og6 ros k 3 = o3) (h4 : og6 ros k 4 = o4) (hd : tmI n zs p o1 = d) :
    keptAt n zs ros starts home frm k = inB t (max o3 (f + d)) o4 := by
  unfold keptAt
  rw [ht, hf, hp, h1, h3, h4, hd]

theorem max_if (x y : Int) : (if x < y then y else x) = max x y := by
  split <;> omega

theorem drive_is (n x y : Int) (v0 v1 v2 v3 v4 : Int) (a ar : Option Addr) (cap kr cr : Nat) (zs : List Int) (w : World) (d : Int) (hd : tmI n zs x y = d) (hm : matB n zs = true) (hx : 0 ≤ x ∧ x < n) (hy : 0 ≤ y ∧ y < n) (hA : IntsAt w a zs) :
    Calls Try.prog 103 #[.agg #[.int .i64 n, .slice a zs.length cap, .int .i64 v0, .int .i64 v1, .int .i64 v2, .int .i64 v3, .int .i64 v4, .slice ar kr cr], .int .i64 x, .int .i64 y] w fun e w' => e = .returned (.int .i64 d) ∧ Below w.heap.size w w' := hd ▸ drive_I n x y v0 v1 v2 v3 v4 a ar cap kr cr zs w hm hx hy hA
theorem within_is (n lo hi : Int) (w : World) (v : Bool) (hv : inB n lo hi = v) :
    Calls Try.prog 61 #[.int .i64 n, .int .i64 lo, .int .i64 hi] w fun e w' => e = .returned (.bool v) ∧ w' = w := hv ▸ within_any n lo hi w

end Go.Proofs.Ytpfikhegmmpogaa
