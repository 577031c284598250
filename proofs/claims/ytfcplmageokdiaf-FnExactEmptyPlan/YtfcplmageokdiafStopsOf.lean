import Derived.Test.YtfcplmageokdiafCR
import Derived.Test.YtfcplmageokdiafImplOrd
import Derived.Test.YtfcplmageokdiafHas
import Derived.WalkKit
namespace Go.Proofs.Ytfcplmageokdiaf
open Go.RowKit

theorem infoOrd6 : (Try.prog.info? 60).map (fun i => (i.zero, i.size, i.bytes)) = some (some (.agg #[Value.int IntKind.i64 0, Value.int IntKind.i64 0, Value.int IntKind.i64 0, Value.int IntKind.i64 0, Value.int IntKind.i64 0, Value.int IntKind.i64 0]), 6, 48) := by kernel_rfl

/-- 'make([]Order, 0, n)' and 'append' within its room, at this program. -/
theorem make_orders (w : World) {ops : Array Oper} {rest : List Oper} {o : Oper} {a : Act} {Q : Exit → Act → World → Prop}
    (hg : o.guard = none) (l c : Operand) (hop : o.op = Op.makeSlice 36 l c) (base : Nat)
    (kl kc : IntKind) (C : Int) (n : Nat) (hl : a.eval l = .int kl 0) (hc : a.eval c = .int kc C) (hC : C = (n : Int)) (b2 : n ≤ 1048576) (b4 : base ≤ w.heap.size)
    (hK : ∀ w', w'.ownsRow base 60 6 (.slice (some ⟨w.heap.size, 0, none⟩) 0 n) 0 [] → w.grownBy w' none → wpList Try.prog ops Q rest (a.put o.dst (.slice (some ⟨w.heap.size, 0, none⟩) 0 n)) w') :
    wpList Try.prog ops Q (o :: rest) a w := by
  obtain ⟨i0, hi, hz0, hz1, hz2⟩ := info_parts infoOrd6
  exact wpList_make_own w hg l c _ hop base _ i0 _ 6 Try.underlying36 hi hz0 hz1 kl kc C n hl hc hC (by rw [hz2]; omega) (by unfold maxLen; omega) b4 hK
theorem append_orders (w : World) {ops : Array Oper} {rest : List Oper} {o : Oper} {a : Act} {Q : Exit → Act → World → Prop}
    (hg : o.guard = none) (s x : Operand) (hop : o.op = Op.call { callee := Callee.builtin Builtin.append, args := #[s, x], argTypes := #[36, 36] })
    (base : Nat) (g k cap : Nat) (xs : List Value) (hs : a.eval s = .slice (some ⟨g, 0, none⟩) k cap) (hown : w.ownsRow base 60 6 (.slice (some ⟨g, 0, none⟩) k cap) k xs) (ad : Addr) (m c : Nat) (news : List Value) (hx : a.eval x = .slice (some ad) m c) (hn : news.length = m * 6)
    (hc : ∀ j u, news[j]? = some u → w.cell? (ad.add j) = some u) (h1c : ∀ u ∈ news, u.oneCell' = true) (b1 : k + m ≤ cap)
    (hK : ∀ w', w'.ownsRow base 60 6 (.slice (some ⟨g, 0, none⟩) (k + m) cap) (k + m) (xs ++ news) → w.grownBy w' (some g) → wpList Try.prog ops Q rest (a.put o.dst (.slice (some ⟨g, 0, none⟩) (k + m) cap)) w') :
    wpList Try.prog ops Q (o :: rest) a w := by
  obtain ⟨i0, hi, hz0, hz1, hz2⟩ := info_parts infoOrd6
  exact wpList_append_fits w hg s x _ hop base _ i0 6 Try.underlying36 hi hz1 g k cap xs hs hown ad m c news hx hn hc h1c b1 hK

theorem grown_row {w w' : World} {row : Option Nat} {k : Nat} {o : Obj} (hg : w.grownBy w' row) (h : w.heap[k]? = some o) (hne : some k ≠ row) : w'.heap[k]? = some o := (hg.block k (row_lt h) hne).trans h

theorem ros_step (os : List Int) (ko : Nat) (ids : List Int) {k : Nat} {id : Int} (hk : k < ids.length) (hid : ids.getD k 0 = id) {o0 o1 o2 o3 o4 o5 : Int} (h0 : fnd6F os ko id 0 = o0) (h1 : fnd6F os ko id 1 = o1) (h2 : fnd6F os ko id 2 = o2) (h3 : fnd6F os ko id 3 = o3) (h4 : fnd6F os ko id 4 = o4) (h5 : fnd6F os ko id 5 = o5) :
    (((rosOf os ko ids).take (k * 6)).map (Value.int .i64)) ++ [Value.int IntKind.i64 o0, Value.int IntKind.i64 o1, Value.int IntKind.i64 o2, Value.int IntKind.i64 o3, Value.int IntKind.i64 o4, Value.int IntKind.i64 o5] = ((rosOf os ko ids).take ((k + 1) * 6)).map (Value.int .i64) := by
  have hl := rosOf_length os ko ids
  have e : (k + 1) * 6 = k * 6 + 1 + 1 + 1 + 1 + 1 + 1 := by omega
  have g : ∀ f, f < 6 → (rosOf os ko ids).getD (k * 6 + f) 0 = fnd6F os ko id f := fun f hf => hid ▸ rosOf_at os ko ids hk hf
  rw [e, take_snoc _ _ (by omega), take_snoc _ _ (by omega), take_snoc _ _ (by omega), take_snoc _ _ (by omega), take_snoc _ _ (by omega), take_snoc _ _ (by omega)]
  have g0 := g 0 (by omega)
  have g1 := g 1 (by omega)
  have g2 := g 2 (by omega)
  have g3 := g 3 (by omega)
  have g4 := g 4 (by omega)
  have g5 := g 5 (by omega)
  simp only [Nat.add_zero] at g0
  simp only [g0, g1, g2, g3, g4, g5, h0, h1, h2, h3, h4, h5]
  simp

/-- What is owned of a row of numbers lies there. -/
theorem owns_ints {w : World} {base size g n cap : Nat} {e : TypeId} {zs : List Int} (h : w.ownsRow base e size (.slice (some ⟨g, 0, none⟩) n cap) n (zs.map (Value.int .i64))) : IntsAt w (some ⟨g, 0, none⟩) zs := by
  intro j hj
  refine ⟨g, 0, rfl, ?_⟩
  have := h.cells (g := g) rfl j (.int .i64 (zs.getD j 0)) (by simp [List.getD, hj])
  have hadd : (⟨g, 0, none⟩ : Addr).add j = ⟨g, 0 + j, none⟩ := by unfold Addr.add; split <;> simp_all
  rw [hadd] at this
  exact this

theorem owns_below {w w' : World} {base size n : Nat} {e : TypeId} {v : Value} {xs : List Value} (h : w.ownsRow base e size v n xs) (hb : Below w.heap.size w w') : w'.ownsRow base e size v n xs := by
  obtain ⟨h1, h2 | ⟨g, cap, cur, h2, h3, h4, h5⟩⟩ := h
  · exact ⟨h1, .inl h2⟩
  · exact ⟨h1, .inr ⟨g, cap, cur, h2, h3, below_row hb (row_lt h4) h4, h5⟩⟩

theorem cells6_new (W : World) (o0 o1 o2 o3 o4 o5 : Value) (T : TypeId) (g : Nat) (hg : W.heap.size = g) : ∀ j u, [o0, o1, o2, o3, o4, o5][j]? = some u → (W.alloc (.cells #[o0, o1, o2, o3, o4, o5] T)).cell? ((⟨g, 0, none⟩ : Addr).add j) = some u := by
  intro j u hu
  subst hg
  have hadd : (⟨W.heap.size, 0, none⟩ : Addr).add j = ⟨W.heap.size, j, none⟩ := by unfold Addr.add; split <;> simp_all
  rw [hadd, cell_of_row _ _ j _ _ _ (heap_alloc_new W (.cells #[o0, o1, o2, o3, o4, o5] T))]
  simpa using hu

set_option maxHeartbeats 1000000 in
theorem stopsOf_any (n fine : Int) (a ao av bi : Option Addr) (cap ko co kv cv c2 : Nat) (zs os ids : List Int) (w : World) (hO : IntsAt w ao os) (hI : IntsAt w bi ids) (hlo : os.length = ko * 6) (hko : ko ≤ 9223372036854775807) (hli : ids.length ≤ 9223372036854775807) (hc2 : ids.length ≤ c2) :
    Calls Try.prog 109 #[.agg #[.int .i64 n, .slice a zs.length cap, .slice ao ko co, .slice av kv cv, .int .i64 fine], .slice bi ids.length c2] w fun e w' => Below w.heap.size w w' ∧ ((stopsB os ko ids = false ∧ e = .returned (.tuple #[.slice none 0 0, .bool false])) ∨ (stopsB os ko ids = true ∧ e = .returned (.tuple #[.slice (some ⟨w.heap.size + 1, 0, none⟩) ids.length ids.length, .bool true]) ∧ IntsAt w' (some ⟨w.heap.size + 1, 0, none⟩) (rosOf os ko ids))) := by
  have HO : Hid (IntsAt w ao os) := hO
  have HI : Hid (IntsAt w bi ids) := hI
  have HLO : Hid _ := hlo
  clear hO hI hlo
  have HB0 : Hid (Below w.heap.size w (w.alloc (Obj.cells #[Value.int IntKind.i64 n, Value.slice a zs.length cap, Value.slice ao ko co, Value.slice av kv cv, Value.int IntKind.i64 fine] 39))) := (Below.refl _ _).alloc (Nat.le_refl _) _
  have HP0 : Hid ((w.alloc (Obj.cells #[Value.int IntKind.i64 n, Value.slice a zs.length cap, Value.slice ao ko co, Value.slice av kv cv, Value.int IntKind.i64 fine] 39)).heap[w.heap.size]? = _) := heap_alloc_new _ _
  by_cases h12 : ids.length ≤ 12
  · go_enter Try.func109, Try.ntmps109
    go_wp2_with (first
      | (at_make; refine make_orders _ rfl _ _ rfl (w.heap.size + 1) .i64 .i64 _ ids.length rfl rfl rfl (by omega) (by simp) ?_; intro w1 hown0 hgrow0))
    have HB1 : Hid (Below w.heap.size w w1) := HB0.out.grown hgrow0 HB0.out.size (fun k e => by cases e)
    have HP1 : Hid (w1.heap[w.heap.size]? = _) := grown_row hgrow0 HP0.out (by simp)
    have HW1 : Hid (w1.ownsRow (w.heap.size + 1) 60 6 (.slice (some ⟨w.heap.size + 1, 0, none⟩) 0 ids.length) 0 []) := by
      show w1.ownsRow _ _ _ _ _ _
      simpa using hown0
    clear hown0 hgrow0 HB0 HP0
    go_loopw [6, 19] (fun sl t wr => ∃ k : Nat, k ≤ ids.length ∧ t = .int .i64 k ∧ sl = .slice (some ⟨w.heap.size + 1, 0, none⟩) k ids.length ∧ stopsTo os ko ids k ∧ Below w.heap.size w wr ∧ wr.heap[w.heap.size]? = some (.cells #[Value.int IntKind.i64 n, Value.slice a zs.length cap, Value.slice ao ko co, Value.slice av kv cv, Value.int IntKind.i64 fine] 39 (0, 0)) ∧ wr.ownsRow (w.heap.size + 1) 60 6 (.slice (some ⟨w.heap.size + 1, 0, none⟩) k ids.length) k (((rosOf os ko ids).take (k * 6)).map (Value.int .i64))) (fun _ t _ => ids.length - (intOf t).toNat)
    case atStart => exact ⟨0, Nat.zero_le _, rfl, rfl, stopsTo_zero _ _ _, HB1.out, HP1.out, by simpa using HW1.out⟩
    case round =>
      clear HB1 HP1 HW1
      obtain ⟨k, hk, rfl, rfl, hth, hb, hp, hw⟩ := hrel
      have HT : Hid (stopsTo os ko ids k) := hth
      have HB : Hid (Below w.heap.size w wr) := hb
      have HP : Hid (wr.heap[w.heap.size]? = _) := hp
      have HW : Hid (wr.ownsRow (w.heap.size + 1) 60 6 (.slice (some ⟨w.heap.size + 1, 0, none⟩) k ids.length) k (((rosOf os ko ids).take (k * 6)).map (Value.int .i64))) := hw
      obtain ⟨c0, c1, c2', c3, c4⟩ := cells5 hp
      clear hth hb hp hw
      by_cases hlt : k < ids.length
      · obtain ⟨b, off, rfl, hcs⟩ := IntsAt.some (IntsAt.below HI.out HB.out) hlt
        have ct := hcs k hlt
        clear hcs
        obtain ⟨id, HID⟩ : ∃ i, Hid (ids.getD k 0 = i) := ⟨_, rfl⟩
        rw [HID.out] at ct
        have hkc : k ≤ c2 := by omega
        obtain ⟨o0, H0⟩ : ∃ t, Hid (fnd6F os ko id 0 = t) := ⟨_, rfl⟩
        obtain ⟨o1, H1⟩ : ∃ t, Hid (fnd6F os ko id 1 = t) := ⟨_, rfl⟩
        obtain ⟨o2, H2⟩ : ∃ t, Hid (fnd6F os ko id 2 = t) := ⟨_, rfl⟩
        obtain ⟨o3, H3⟩ : ∃ t, Hid (fnd6F os ko id 3 = t) := ⟨_, rfl⟩
        obtain ⟨o4, H4⟩ : ∃ t, Hid (fnd6F os ko id 4 = t) := ⟨_, rfl⟩
        obtain ⟨o5, H5⟩ : ∃ t, Hid (fnd6F os ko id 5 = t) := ⟨_, rfl⟩
        obtain ⟨tt, HTT⟩ : ∃ t, Hid (fnd6T os ko id = t) := ⟨_, rfl⟩
        go_wp2_with fail
        refine (findOrder_any n fine id a ao av _ cap ko co kv cv os _ (HO.out.below HB.out) HLO.out hko).mono ?_
        rintro e w2 ⟨rfl, hb2⟩
        rw [H0.out, H1.out, H2.out, H3.out, H4.out, H5.out, HTT.out]
        have HB2 : Hid (Below w.heap.size w (w2.alloc (Obj.cells #[Value.int IntKind.i64 o0, Value.int IntKind.i64 o1, Value.int IntKind.i64 o2, Value.int IntKind.i64 o3, Value.int IntKind.i64 o4, Value.int IntKind.i64 o5] 60))) := (HB.out.trans (hb2.mono HB.out.size)).alloc (Nat.le_trans HB.out.size hb2.size) _
        have HP2 : Hid ((w2.alloc (Obj.cells #[Value.int IntKind.i64 o0, Value.int IntKind.i64 o1, Value.int IntKind.i64 o2, Value.int IntKind.i64 o3, Value.int IntKind.i64 o4, Value.int IntKind.i64 o5] 60)).heap[w.heap.size]? = _) := (heap_alloc_old _ _ (row_lt (below_row hb2 (row_lt HP.out) HP.out))).trans (below_row hb2 (row_lt HP.out) HP.out)
        have HW2 : Hid ((w2.alloc (Obj.cells #[Value.int IntKind.i64 o0, Value.int IntKind.i64 o1, Value.int IntKind.i64 o2, Value.int IntKind.i64 o3, Value.int IntKind.i64 o4, Value.int IntKind.i64 o5] 60)).ownsRow _ _ _ _ _ _) := (owns_below HW.out hb2).alloc _
        have HRO : Hid ((w2.alloc (Obj.cells #[Value.int IntKind.i64 o0, Value.int IntKind.i64 o1, Value.int IntKind.i64 o2, Value.int IntKind.i64 o3, Value.int IntKind.i64 o4, Value.int IntKind.i64 o5] 60)).heap[w2.heap.size]? = _) := heap_alloc_new _ _
        obtain ⟨p0, p1, p2, p3, p4, p5⟩ := cells6 HRO.out
        clear hb2 c0 c1 c2' c3 c4 ct
        cases tt
        · have HN : Hid (stopsB os ko ids = false) := stopsB_bad hlt (stopB_mk HID.out HTT.out rfl)
          go_wp2
          go_ret2
          exact ⟨HB2.out, .inl ⟨HN.out, rfl⟩⟩
        · obtain ⟨hh, HH⟩ : ∃ t, Hid (hasTo ids k id = t) := ⟨_, rfl⟩
          cases hh
          · have HS1 : Hid (stopsTo os ko ids (k + 1)) := stopsTo_step HT.out (stopB_mk HID.out HTT.out HH.out)
            go_wp2_with (first
              | (go_at_call 114; refine (contains_any _ k _ id ids _ (HI.out.below HB2.out) hk (by omega)).mono ?_; rintro e w3 ⟨rfl, rfl⟩; rw [HH.out])
              | (at_builtin; refine append_orders _ rfl _ _ rfl (w.heap.size + 1) (w.heap.size + 1) k ids.length _ rfl (HW2.out.alloc _) _ 1 1 [Value.int IntKind.i64 o0, Value.int IntKind.i64 o1, Value.int IntKind.i64 o2, Value.int IntKind.i64 o3, Value.int IntKind.i64 o4, Value.int IntKind.i64 o5] rfl rfl (cells6_new _ _ _ _ _ _ _ _ _ (by simp)) (by simp [Value.oneCell']) (by omega) ?_; intro w4 hown4 hgrow4))
            have hne : some w.heap.size ≠ some (w.heap.size + 1) := by simp
            refine ⟨⟨k + 1, by omega, by go_num, rfl, HS1.out, (HB2.out.alloc HB2.out.size _).grown hgrow4 (Nat.le_trans HB2.out.size (by simp)) (fun j e => by cases e; omega), grown_row hgrow4 ((heap_alloc_old _ _ (row_lt HP2.out)).trans HP2.out) (by simp), ?_⟩, by simp [intOf]; omega⟩
            rw [ros_step os ko ids hlt HID.out H0.out H1.out H2.out H3.out H4.out H5.out] at hown4
            exact hown4
          · have HN : Hid (stopsB os ko ids = false) := stopsB_bad hlt (stopB_mk HID.out HTT.out HH.out)
            go_wp2_with (first
              | (go_at_call 114; refine (contains_any _ k _ id ids _ (HI.out.below HB2.out) hk (by omega)).mono ?_; rintro e w3 ⟨rfl, rfl⟩; rw [HH.out]))
            go_ret2
            exact ⟨HB2.out, .inl ⟨HN.out, rfl⟩⟩
      · have hkl : k = ids.length := by omega
        have HN : Hid (stopsB os ko ids = true) := stopsB_yes h12 (hkl ▸ HT.out)
        subst hkl
        go_wp2
        go_ret2
        refine ⟨HB.out, .inr ⟨HN.out, rfl, ?_⟩⟩
        have := HW.out
        rw [List.take_of_length_le (by rw [rosOf_length]; omega)] at this
        exact owns_ints this
  · have HN : Hid (stopsB os ko ids = false) := stopsB_many h12
    go_enter Try.func109, Try.ntmps109
    go_wp2
    go_ret2
    exact ⟨HB0.out, .inl ⟨HN.out, rfl⟩⟩

end Go.Proofs.Ytfcplmageokdiaf
