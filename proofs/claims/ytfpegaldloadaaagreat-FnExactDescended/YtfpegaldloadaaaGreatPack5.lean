import Derived.Test.YtfpegaldloadaaaGreatPack0
import Derived.Test.YtfpegaldloadaaaGreatPack1
import Derived.WalkKit
import Derived.Deep.RegionLaw
namespace Go.Proofs.YtfpegaldloadaaaGreat
open Go.RowKit
theorem grown_row {w w' : World} {row : Option Nat} {k : Nat} {o : Obj} (hg : w.grownBy w' row) (h : w.heap[k]? = some o) (hne : some k ≠ row) : w'.heap[k]? = some o := (hg.block k (row_lt h) hne).trans h
theorem owns_ints {w : World} {base size g n cap : Nat} {e : TypeId} {zs : List Int} (h : w.ownsRow base e size (.slice (some ⟨g, 0, none⟩) n cap) n (zs.map (Value.int .i64))) : IntsAt w (some ⟨g, 0, none⟩) zs := by
 intro j hj
 refine ⟨g, 0, rfl, ?_⟩
 have := h.cells (g := g) rfl j (.int .i64 (zs.getD j 0)) (by simp [List.getD, hj])
 have hadd : (⟨g, 0, none⟩ : Addr).add j = ⟨g, 0 + j, none⟩ := by unfold Addr.add; split <;> simp_all
 rw [hadd] at this
 exact this
theorem owns_below {w w' : World} {base size n : Nat} {e : TypeId} {v : Value} {xs : List Value} (h : w.ownsRow base e size v n xs) (hb : Below w.heap.size w w') : w'.ownsRow base e size v n xs := by
 obtain ⟨h1, h2 | ⟨g, cap, cur, h2, h3, h4, h5⟩⟩ := h
 · exact ⟨h1, .inl h2⟩
 · exact ⟨h1, .inr ⟨g, cap, cur, h2, h3, below_row hb (row_lt h4) h4, h5⟩⟩
theorem own_some {w : World} {base k : Nat} {v : Value} {e : TypeId} {size : Nat} {xs : List Value} (h : w.ownsRow base e size v (k + 1) xs) : ∃ g c, v = .slice (some ⟨g, 0, none⟩) (k + 1) c /\ base <= g := by
 obtain ⟨_, ⟨_, h2⟩ | ⟨g, cap, cur, h2, h3, _⟩⟩ := h
 · omega
 · exact ⟨g, cap, h2, h3⟩
theorem own_shape {w : World} {base k : Nat} {v : Value} {e : TypeId} {size : Nat} {xs : List Value} (h : w.ownsRow base e size v k xs) : v = .slice none 0 0 ∨ ∃ g c, v = .slice (some ⟨g, 0, none⟩) k c := by
 obtain ⟨_, ⟨h1, _⟩ | ⟨g, cap, cur, h2, _⟩⟩ := h
 · exact .inl h1
 · exact .inr ⟨g, cap, h2⟩
theorem owns_base {w : World} {base b0 k : Nat} {v : Value} {e : TypeId} {size : Nat} {xs : List Value} (h : w.ownsRow base e size v k xs) (hb : b0 <= base) : w.ownsRow b0 e size v k xs := by
 obtain ⟨h0, h1 | ⟨g, cap, cur, h2, h3, h4⟩⟩ := h
 · exact ⟨h0, .inl h1⟩
 · exact ⟨h0, .inr ⟨g, cap, cur, h2, Nat.le_trans hb h3, h4⟩⟩
theorem owns_set {w : World} {base k b i : Nat} {v u : Value} {e : TypeId} {size : Nat} {xs : List Value} (h : w.ownsRow base e size v k xs) (hb : b < base) : (w.setCell ⟨b, i, none⟩ u).ownsRow base e size v k xs := ownsRow_setCell_below h hb u
theorem owns_at1 {w : World} {base n : Nat} {e : TypeId} {sl : Value} {xs : List Int} (h : w.ownsRow base e 1 sl n (xs.map (Value.int .i64))) : ∃ a c, sl = .slice a xs.length c /\ xs.length = n /\ IntsAt w a xs := by
 obtain ⟨h1, ⟨rfl, h2⟩ | ⟨g, cap, cur, rfl, h3, h4, h5⟩⟩ := id h
 · subst h2
   have : xs = [] := by simpa using h1
   subst this
   exact ⟨none, 0, rfl, rfl, fun j hj => by simp at hj⟩
 · have hl : xs.length = n := by simpa using h1
   exact ⟨_, _, by rw [hl], hl, owns_ints h⟩
theorem cell_new1 (W : World) (v : Value) (T : TypeId) (g : Nat) (hg : W.heap.size = g) : (W.alloc (.cells #[v] T)).cell? ⟨g, 0, none⟩ = some v := by
 subst hg
 rw [cell_of_row _ _ 0 _ _ _ (heap_alloc_new W (.cells #[v] T))]
 simp
theorem one_cell {w : World} {ad : Addr} {x0 : Value} (hc : w.cell? ad = some x0) : ∀ j u, [x0][j]? = some u -> w.cell? (ad.add j) = some u := by
 intro j u hu
 have hj : j = 0 := by
   rcases j with _ | j
   · rfl
   · simp at hu
 subst hj
 have : ad.add 0 = ad := by unfold Addr.add; split <;> simp_all
 rw [this, hc]
 simpa using hu
theorem append_int (w : World) {ops : Array Oper} {rest : List Oper} {o : Oper} {a : Act} {Q : Exit -> Act -> World -> Prop}
   (hg : o.guard = none) (s x : Operand) (hop : o.op = Op.call { callee := Callee.builtin Builtin.append, args := #[s, x], argTypes := #[22, 22] })
   (base : Nat) (v : Value) (k : Nat) (xs : List Value) (hs : a.eval s = v) (hown : w.ownsRow base 2 1 v k xs) (ad : Addr) (c : Nat) (x0 : Value) (hx : a.eval x = .slice (some ad) 1 c)
   (hc : w.cell? ad = some x0) (h1c : x0.oneCell' = true) (b1 : k <= 1000) (hb : base <= w.heap.size)
   (hK : ∀ v' w', w'.ownsRow base 2 1 v' (k + 1) (xs ++ [x0]) -> w.grownBy w' v.ownBlock -> wpList Tryz.prog ops Q rest (a.put o.dst v') w') :
   wpList Tryz.prog ops Q (o :: rest) a w := by
 obtain ⟨i0, hi, hz0, hz1, hz2⟩ := info_parts Tryz.info2
 exact wpList_append_own w hg s x _ hop base _ i0 _ 1 8 Tryz.underlying22 hi hz0 hz1 hz2 rfl (by decide) v k xs hs hown ad 1 c [x0] hx rfl (one_cell hc) (by simpa using h1c) (by unfold maxLen; omega) (by omega) hb (fun v' w' h1 h2 _ => hK v' w' h1 h2)
theorem infoOrd6 : (Tryz.prog.info? 103).map (fun i => (i.zero, i.size, i.bytes)) = some (some (.agg #[Value.int .i64 0, Value.int .i64 0, Value.int .i64 0, Value.int .i64 0, Value.int .i64 0, Value.int .i64 0]), 6, 48) := by kernel_rfl
theorem make_orders (w : World) {ops : Array Oper} {rest : List Oper} {o : Oper} {a : Act} {Q : Exit -> Act -> World -> Prop}
   (hg : o.guard = none) (l c : Operand) (hop : o.op = Op.makeSlice 40 l c) (base : Nat)
   (kl kc : IntKind) (C : Int) (n : Nat) (hl : a.eval l = .int kl 0) (hc : a.eval c = .int kc C) (hC : C = (n : Int)) (b2 : n <= 1048576) (b4 : base <= w.heap.size)
   (hK : ∀ w', w'.ownsRow base 103 6 (.slice (some ⟨w.heap.size, 0, none⟩) 0 n) 0 [] -> w.grownBy w' none -> wpList Tryz.prog ops Q rest (a.put o.dst (.slice (some ⟨w.heap.size, 0, none⟩) 0 n)) w') :
   wpList Tryz.prog ops Q (o :: rest) a w := by
 obtain ⟨i0, hi, hz0, hz1, hz2⟩ := info_parts infoOrd6
 exact wpList_make_own w hg l c _ hop base _ i0 _ 6 Tryz.underlying40 hi hz0 hz1 kl kc C n hl hc hC (by rw [hz2]; omega) (by unfold maxLen; omega) b4 hK
theorem append_orders (w : World) {ops : Array Oper} {rest : List Oper} {o : Oper} {a : Act} {Q : Exit -> Act -> World -> Prop}
   (hg : o.guard = none) (s x : Operand) (hop : o.op = Op.call { callee := Callee.builtin Builtin.append, args := #[s, x], argTypes := #[40, 40] })
   (base : Nat) (g k cap : Nat) (xs : List Value) (hs : a.eval s = .slice (some ⟨g, 0, none⟩) k cap) (hown : w.ownsRow base 103 6 (.slice (some ⟨g, 0, none⟩) k cap) k xs) (ad : Addr) (m c : Nat) (news : List Value) (hx : a.eval x = .slice (some ad) m c) (hn : news.length = m * 6)
   (hc : ∀ j u, news[j]? = some u -> w.cell? (ad.add j) = some u) (h1c : ∀ u ∈ news, u.oneCell' = true) (b1 : k + m <= cap)
   (hK : ∀ w', w'.ownsRow base 103 6 (.slice (some ⟨g, 0, none⟩) (k + m) cap) (k + m) (xs ++ news) -> w.grownBy w' (some g) -> wpList Tryz.prog ops Q rest (a.put o.dst (.slice (some ⟨g, 0, none⟩) (k + m) cap)) w') :
   wpList Tryz.prog ops Q (o :: rest) a w := by
 obtain ⟨i0, hi, hz0, hz1, hz2⟩ := info_parts infoOrd6
 exact wpList_append_fits w hg s x _ hop base _ i0 6 Tryz.underlying40 hi hz1 g k cap xs hs hown ad m c news hx hn hc h1c b1 hK
theorem ros_step (os : List Int) (ko : Nat) (ids : List Int) {k : Nat} {id : Int} (hk : k < ids.length) (hid : ids.getD k 0 = id) {o0 o1 o2 o3 o4 o5 : Int} (h0 : fnd6F os ko id 0 = o0) (h1 : fnd6F os ko id 1 = o1) (h2 : fnd6F os ko id 2 = o2) (h3 : fnd6F os ko id 3 = o3) (h4 : fnd6F os ko id 4 = o4) (h5 : fnd6F os ko id 5 = o5) :
   (((rosOf os ko ids).take (k * 6)).map (Value.int .i64)) ++ [Value.int .i64 o0, Value.int .i64 o1, Value.int .i64 o2, Value.int .i64 o3, Value.int .i64 o4, Value.int .i64 o5] = ((rosOf os ko ids).take ((k + 1) * 6)).map (Value.int .i64) := by
 have hl := rosOf_length os ko ids
 have e : (k + 1) * 6 = k * 6 + 1 + 1 + 1 + 1 + 1 + 1 := by omega
 have g : ∀ f, f < 6 -> (rosOf os ko ids).getD (k * 6 + f) 0 = fnd6F os ko id f := fun f hf => hid ▸ rosOf_at os ko ids hk hf
 rw [e, take_snoc _ _ (by omega), take_snoc _ _ (by omega), take_snoc _ _ (by omega), take_snoc _ _ (by omega), take_snoc _ _ (by omega), take_snoc _ _ (by omega)]
 have g0 := g 0 (by omega)
 have g1 := g 1 (by omega)
 have g2 := g 2 (by omega)
 have g3 := g 3 (by omega)
 have g4 := g 4 (by omega)
 have g5 := g 5 (by omega)
 simp only [Nat.add_zero] at g0
 simp only [g0, g1, g2, g3, g4, g5, h0, h1, h2, h3, h4, h5]
 simp
theorem cells6_new (W : World) (o0 o1 o2 o3 o4 o5 : Value) (T : TypeId) (g : Nat) (hg : W.heap.size = g) : ∀ j u, [o0, o1, o2, o3, o4, o5][j]? = some u -> (W.alloc (.cells #[o0, o1, o2, o3, o4, o5] T)).cell? ((⟨g, 0, none⟩ : Addr).add j) = some u := by
 intro j u hu
 subst hg
 have hadd : (⟨W.heap.size, 0, none⟩ : Addr).add j = ⟨W.heap.size, j, none⟩ := by unfold Addr.add; split <;> simp_all
 rw [hadd, cell_of_row _ _ j _ _ _ (heap_alloc_new W (.cells #[o0, o1, o2, o3, o4, o5] T))]
 simpa using hu
theorem ints_set {W : World} {g o k i : Nat} {zs : List Int} {v : Value} (h : IntsAt W (some ⟨g, o, none⟩) zs) (hne : g ≠ k) : IntsAt (W.setCell ⟨k, i, none⟩ v) (some ⟨g, o, none⟩) zs := by
 intro j hj
 exact ⟨g, o, rfl, keep_set (ints_cell h hj rfl) hne⟩
theorem cells8 {w : World} {k : Nat} {c0 c1 c2 c3 c4 c5 c6 c7 : Value} {T : TypeId} (r : w.heap[k]? = some (.cells #[c0, c1, c2, c3, c4, c5, c6, c7] T (0, 0))) :
   w.cell? ⟨k, 0, none⟩ = some c0 /\ w.cell? ⟨k, 1, none⟩ = some c1 /\ w.cell? ⟨k, 2, none⟩ = some c2 /\ w.cell? ⟨k, 3, none⟩ = some c3 /\ w.cell? ⟨k, 4, none⟩ = some c4 /\ w.cell? ⟨k, 5, none⟩ = some c5 /\ w.cell? ⟨k, 6, none⟩ = some c6 /\ w.cell? ⟨k, 7, none⟩ = some c7 := by
 refine ⟨?_, ?_, ?_, ?_, ?_, ?_, ?_, ?_⟩
 · rw [cell_of_row _ _ 0 _ _ _ r]; simp
 · rw [cell_of_row _ _ 1 _ _ _ r]; simp
 · rw [cell_of_row _ _ 2 _ _ _ r]; simp
 · rw [cell_of_row _ _ 3 _ _ _ r]; simp
 · rw [cell_of_row _ _ 4 _ _ _ r]; simp
 · rw [cell_of_row _ _ 5 _ _ _ r]; simp
 · rw [cell_of_row _ _ 6 _ _ _ r]; simp
 · rw [cell_of_row _ _ 7 _ _ _ r]; simp
theorem within_is (n lo hi : Int) (w : World) (v : Bool) (hv : inB n lo hi = v) :
   Calls Tryz.prog 55 #[.int .i64 n, .int .i64 lo, .int .i64 hi] w fun e w' => e = .returned (.bool v) /\ w' = w := hv ▸ within_any n lo hi w
set_option maxHeartbeats 1000000 in
theorem stopsOf_any (n fine : Int) (a ao av bi : Option Addr) (cap ko co kv cv c2 : Nat) (zs os ids : List Int) (w : World) (hO : IntsAt w ao os) (hI : IntsAt w bi ids) (hlo : os.length = ko * 6) (hko : ko <= 9223372036854775807) (hli : ids.length <= 9223372036854775807) (hc2 : ids.length <= c2) :
   Calls Tryz.prog 153 #[.agg #[.int .i64 n, .slice a zs.length cap, .slice ao ko co, .slice av kv cv, .int .i64 fine], .slice bi ids.length c2] w fun e w' => Below w.heap.size w w' /\ ((stopsB os ko ids = false /\ e = .returned (.tuple #[.slice none 0 0, .bool false])) ∨ (stopsB os ko ids = true /\ e = .returned (.tuple #[.slice (some ⟨w.heap.size + 1, 0, none⟩) ids.length ids.length, .bool true]) /\ IntsAt w' (some ⟨w.heap.size + 1, 0, none⟩) (rosOf os ko ids))) := by
 have HO : Hid (IntsAt w ao os) := hO
 have HI : Hid (IntsAt w bi ids) := hI
 have HLO : Hid _ := hlo
 clear hO hI hlo
 have HB0 : Hid (Below w.heap.size w (w.alloc (Obj.cells #[Value.int .i64 n, Value.slice a zs.length cap, Value.slice ao ko co, Value.slice av kv cv, Value.int .i64 fine] 43))) := (Below.refl _ _).alloc (Nat.le_refl _) _
 have HP0 : Hid ((w.alloc (Obj.cells #[Value.int .i64 n, Value.slice a zs.length cap, Value.slice ao ko co, Value.slice av kv cv, Value.int .i64 fine] 43)).heap[w.heap.size]? = _) := heap_alloc_new _ _
 by_cases h12 : ids.length <= 12
 · go_enter Tryz.func153, Tryz.ntmps153
   go_wp2_with (first
     | (at_make; refine make_orders _ rfl _ _ rfl (w.heap.size + 1) .i64 .i64 _ ids.length rfl rfl rfl (by omega) (by simp) ?_; intro w1 hown0 hgrow0))
   have HB1 : Hid (Below w.heap.size w w1) := HB0.out.grown hgrow0 HB0.out.size (fun k e => by cases e)
   have HP1 : Hid (w1.heap[w.heap.size]? = _) := grown_row hgrow0 HP0.out (by simp)
   have HW1 : Hid (w1.ownsRow (w.heap.size + 1) 103 6 (.slice (some ⟨w.heap.size + 1, 0, none⟩) 0 ids.length) 0 []) := by
     show w1.ownsRow _ _ _ _ _ _
     simpa using hown0
   clear hown0 hgrow0 HB0 HP0
   go_loopw [6, 19] (fun sl t wr => ∃ k : Nat, k <= ids.length /\ t = .int .i64 k /\ sl = .slice (some ⟨w.heap.size + 1, 0, none⟩) k ids.length /\ stopsTo os ko ids k /\ Below w.heap.size w wr /\ wr.heap[w.heap.size]? = some (.cells #[Value.int .i64 n, Value.slice a zs.length cap, Value.slice ao ko co, Value.slice av kv cv, Value.int .i64 fine] 43 (0, 0)) /\ wr.ownsRow (w.heap.size + 1) 103 6 (.slice (some ⟨w.heap.size + 1, 0, none⟩) k ids.length) k (((rosOf os ko ids).take (k * 6)).map (Value.int .i64))) (fun _ t _ => ids.length - (intOf t).toNat)
   case atStart => exact ⟨0, Nat.zero_le _, rfl, rfl, stopsTo_zero _ _ _, HB1.out, HP1.out, by simpa using HW1.out⟩
   case round =>
     clear HB1 HP1 HW1
     obtain ⟨k, hk, rfl, rfl, hth, hb, hp, hw⟩ := hrel
     have HT : Hid (stopsTo os ko ids k) := hth
     have HB : Hid (Below w.heap.size w wr) := hb
     have HP : Hid (wr.heap[w.heap.size]? = _) := hp
     have HW : Hid (wr.ownsRow (w.heap.size + 1) 103 6 (.slice (some ⟨w.heap.size + 1, 0, none⟩) k ids.length) k (((rosOf os ko ids).take (k * 6)).map (Value.int .i64))) := hw
     obtain ⟨c0, c1, c2', c3, c4⟩ := cells5 hp
     clear hth hb hp hw
     by_cases hlt : k < ids.length
     · obtain ⟨b, off, rfl, hcs⟩ := IntsAt.some (IntsAt.below HI.out HB.out) hlt
       have ct := hcs k hlt
       clear hcs
       obtain ⟨id, HID⟩ : ∃ i, Hid (ids.getD k 0 = i) := ⟨_, rfl⟩
       rw [HID.out] at ct
       have hkc : k <= c2 := by omega
       obtain ⟨o0, H0⟩ : ∃ t, Hid (fnd6F os ko id 0 = t) := ⟨_, rfl⟩
       obtain ⟨o1, H1⟩ : ∃ t, Hid (fnd6F os ko id 1 = t) := ⟨_, rfl⟩
       obtain ⟨o2, H2⟩ : ∃ t, Hid (fnd6F os ko id 2 = t) := ⟨_, rfl⟩
       obtain ⟨o3, H3⟩ : ∃ t, Hid (fnd6F os ko id 3 = t) := ⟨_, rfl⟩
       obtain ⟨o4, H4⟩ : ∃ t, Hid (fnd6F os ko id 4 = t) := ⟨_, rfl⟩
       obtain ⟨o5, H5⟩ : ∃ t, Hid (fnd6F os ko id 5 = t) := ⟨_, rfl⟩
       obtain ⟨tt, HTT⟩ : ∃ t, Hid (fnd6T os ko id = t) := ⟨_, rfl⟩
       go_wp2_with fail
       refine (findOrder_any n fine id a ao av _ cap ko co kv cv os _ (HO.out.below HB.out) HLO.out hko).mono ?_
       rintro e w2 ⟨rfl, hb2⟩
       rw [H0.out, H1.out, H2.out, H3.out, H4.out, H5.out, HTT.out]
       have HB2 : Hid (Below w.heap.size w (w2.alloc (Obj.cells #[Value.int .i64 o0, Value.int .i64 o1, Value.int .i64 o2, Value.int .i64 o3, Value.int .i64 o4, Value.int .i64 o5] 103))) := (HB.out.trans (hb2.mono HB.out.size)).alloc (Nat.le_trans HB.out.size hb2.size) _
       have HP2 : Hid ((w2.alloc (Obj.cells #[Value.int .i64 o0, Value.int .i64 o1, Value.int .i64 o2, Value.int .i64 o3, Value.int .i64 o4, Value.int .i64 o5] 103)).heap[w.heap.size]? = _) := (heap_alloc_old _ _ (row_lt (below_row hb2 (row_lt HP.out) HP.out))).trans (below_row hb2 (row_lt HP.out) HP.out)
       have HW2 : Hid ((w2.alloc (Obj.cells #[Value.int .i64 o0, Value.int .i64 o1, Value.int .i64 o2, Value.int .i64 o3, Value.int .i64 o4, Value.int .i64 o5] 103)).ownsRow _ _ _ _ _ _) := (owns_below HW.out hb2).alloc _
       have HRO : Hid ((w2.alloc (Obj.cells #[Value.int .i64 o0, Value.int .i64 o1, Value.int .i64 o2, Value.int .i64 o3, Value.int .i64 o4, Value.int .i64 o5] 103)).heap[w2.heap.size]? = _) := heap_alloc_new _ _
       obtain ⟨p0, p1, p2, p3, p4, p5⟩ := cells6 HRO.out
       clear hb2 c0 c1 c2' c3 c4 ct
       cases tt
       · have HN : Hid (stopsB os ko ids = false) := stopsB_bad hlt (stopB_mk HID.out HTT.out rfl)
         go_wp2
         go_ret2
         exact ⟨HB2.out, .inl ⟨HN.out, rfl⟩⟩
       · obtain ⟨hh, HH⟩ : ∃ t, Hid (hasTo ids k id = t) := ⟨_, rfl⟩
         cases hh
         · have HS1 : Hid (stopsTo os ko ids (k + 1)) := stopsTo_step HT.out (stopB_mk HID.out HTT.out HH.out)
           go_wp2_with (first
             | (go_at_call 163; refine (contains_any _ k _ id ids _ (HI.out.below HB2.out) hk (by omega)).mono ?_; rintro e w3 ⟨rfl, rfl⟩; rw [HH.out])
             | (at_builtin; refine append_orders _ rfl _ _ rfl (w.heap.size + 1) (w.heap.size + 1) k ids.length _ rfl (HW2.out.alloc _) _ 1 1 [Value.int .i64 o0, Value.int .i64 o1, Value.int .i64 o2, Value.int .i64 o3, Value.int .i64 o4, Value.int .i64 o5] rfl rfl (cells6_new _ _ _ _ _ _ _ _ _ (by simp)) (by simp [Value.oneCell']) (by omega) ?_; intro w4 hown4 hgrow4))
           have hne : some w.heap.size ≠ some (w.heap.size + 1) := by simp
           refine ⟨⟨k + 1, by omega, by go_num, rfl, HS1.out, (HB2.out.alloc HB2.out.size _).grown hgrow4 (Nat.le_trans HB2.out.size (by simp)) (fun j e => by cases e; omega), grown_row hgrow4 ((heap_alloc_old _ _ (row_lt HP2.out)).trans HP2.out) (by simp), ?_⟩, by simp [intOf]; omega⟩
           rw [ros_step os ko ids hlt HID.out H0.out H1.out H2.out H3.out H4.out H5.out] at hown4
           exact hown4
         · have HN : Hid (stopsB os ko ids = false) := stopsB_bad hlt (stopB_mk HID.out HTT.out HH.out)
           go_wp2_with (first
             | (go_at_call 163; refine (contains_any _ k _ id ids _ (HI.out.below HB2.out) hk (by omega)).mono ?_; rintro e w3 ⟨rfl, rfl⟩; rw [HH.out]))
           go_ret2
           exact ⟨HB2.out, .inl ⟨HN.out, rfl⟩⟩
     · have hkl : k = ids.length := by omega
       have HN : Hid (stopsB os ko ids = true) := stopsB_yes h12 (hkl ▸ HT.out)
       subst hkl
       go_wp2
       go_ret2
       refine ⟨HB.out, .inr ⟨HN.out, rfl, ?_⟩⟩
       have := HW.out
       rw [List.take_of_length_le (by rw [rosOf_length]; omega)] at this
       exact owns_ints this
 · have HN : Hid (stopsB os ko ids = false) := stopsB_many h12
   go_enter Tryz.func153, Tryz.ntmps153
   go_wp2
   go_ret2
   exact ⟨HB0.out, .inl ⟨HN.out, rfl⟩⟩
def CRT (w W : World) (cs rs ts : Array Value) : Prop := CR w W cs rs /\ W.heap[w.heap.size + 2]? = some (.cells ts 168 (0, 0))
theorem CRT.new (w : World) (cs rs ts : Array Value) : CRT w (((w.alloc (.cells cs 43)).alloc (.cells rs 100)).alloc (.cells ts 168)) cs rs ts := by
 refine ⟨(CR.new w cs rs).alloc _, ?_⟩
 have := heap_alloc_new ((w.alloc (.cells cs 43)).alloc (.cells rs 100)) (.cells ts 168)
 simpa using this
theorem CRT.below {w W W' : World} {cs rs ts : Array Value} (h : CRT w W cs rs ts) (hb : Below W.heap.size W W') : CRT w W' cs rs ts :=
 ⟨h.1.below hb, below_row hb (row_lt h.2) h.2⟩
theorem CRT.b {w W : World} {cs rs ts : Array Value} (h : CRT w W cs rs ts) : Below w.heap.size w W := h.1.1
theorem CRT.alloc {w W : World} {cs rs ts : Array Value} (h : CRT w W cs rs ts) (o : Obj) : CRT w (W.alloc o) cs rs ts := h.below ((Below.refl _ _).alloc (Nat.le_refl _) _)
set_option maxHeartbeats 1000000 in
theorem loadedTour_any (n fine veh : Int) (a ao av bi : Option Addr) (cap ko co kv cv c2 : Nat) (zs os vs ids : List Int) (w : World) (hA : IntsAt w a zs) (hO : IntsAt w ao os) (hV : IntsAt w av vs) (hI : IntsAt w bi ids) (hlo : os.length = ko * 6) (hlv : vs.length = kv * 5) (hko : ko <= 9223372036854775807) (hkv : kv <= 9223372036854775807) (hli : ids.length <= 9223372036854775807) (hc2 : ids.length <= c2) (hcB : caseB n zs os vs ko kv fine = true) :
   Calls Tryz.prog 134 #[.agg #[.int .i64 n, .slice a zs.length cap, .slice ao ko co, .slice av kv cv, .int .i64 fine], .agg #[.int .i64 veh, .slice bi ids.length c2]] w fun e w' => Below w.heap.size w w' /\ ((formV true vs os kv ko veh ids ≠ 0 /\ e = .returned (.tuple #[.agg #[Value.int .i64 0, Value.slice none 0 0, Value.int .i64 0, Value.int .i64 0, Value.int .i64 0, Value.int .i64 0, Value.int .i64 0, Value.slice none 0 0], .int .i64 (formV true vs os kv ko veh ids)])) ∨ (formV true vs os kv ko veh ids = 0 /\ ∃ g, w.heap.size <= g /\ e = .returned (.tuple #[.agg #[.int .i64 n, .slice a zs.length cap, .int .i64 (fnd5F vs kv veh 0), .int .i64 (fnd5F vs kv veh 1), .int .i64 (fnd5F vs kv veh 2), .int .i64 (fnd5F vs kv veh 3), .int .i64 (fnd5F vs kv veh 4), .slice (some ⟨g, 0, none⟩) ids.length ids.length], .int .i64 0]) /\ IntsAt w' (some ⟨g, 0, none⟩) (rosOf os ko ids))) := by
 have HA : Hid (IntsAt w a zs) := hA
 have HO : Hid (IntsAt w ao os) := hO
 have HV : Hid (IntsAt w av vs) := hV
 have HI : Hid (IntsAt w bi ids) := hI
 have HLO : Hid _ := hlo
 have HLV : Hid _ := hlv
 clear hA hO hV hI hlo hlv
 have HC : Hid (caseB n zs os vs ko kv fine = true) := hcB
 clear hcB
 have HC0 : Hid (CRT w (((w.alloc (.cells #[Value.int .i64 n, Value.slice a zs.length cap, Value.slice ao ko co, Value.slice av kv cv, Value.int .i64 fine] 43)).alloc (.cells #[Value.int .i64 veh, Value.slice bi ids.length c2] 100)).alloc (.cells #[Value.int .i64 0, Value.slice none 0 0, Value.int .i64 0, Value.int .i64 0, Value.int .i64 0, Value.int .i64 0, Value.int .i64 0, Value.slice none 0 0] 168)) _ _ _) := CRT.new w _ _ _
 obtain ⟨r, HR⟩ : ∃ r, Hid (formV true vs os kv ko veh ids = r) := ⟨_, rfl⟩
 rw [HR.out]
 go_enter Tryz.func134, Tryz.ntmps134
 obtain ⟨c0, c1, c2', c3, c4⟩ := cells5 HC0.out.1.2.1
 obtain ⟨d0, d1⟩ := cells2 HC0.out.1.2.2
 go_wp2_with fail
 clear c0 c1 c2' c3 c4 d0 d1
 refine (findVehicle_any n fine veh a ao av _ cap ko co kv cv vs _ (HV.out.below HC0.out.1.1) HLV.out hkv).mono ?_
 rintro e w2 ⟨rfl, hb⟩
 obtain ⟨v0, G0⟩ : ∃ t, Hid (fnd5F vs kv veh 0 = t) := ⟨_, rfl⟩
 obtain ⟨v1, G1⟩ : ∃ t, Hid (fnd5F vs kv veh 1 = t) := ⟨_, rfl⟩
 obtain ⟨v2, G2⟩ : ∃ t, Hid (fnd5F vs kv veh 2 = t) := ⟨_, rfl⟩
 obtain ⟨v3, G3⟩ : ∃ t, Hid (fnd5F vs kv veh 3 = t) := ⟨_, rfl⟩
 obtain ⟨v4, G4⟩ : ∃ t, Hid (fnd5F vs kv veh 4 = t) := ⟨_, rfl⟩
 rw [G0.out, G1.out, G2.out, G3.out, G4.out]
 have C2 : Hid (CRT w (w2.alloc (Obj.cells #[Value.int .i64 v0, Value.int .i64 v1, Value.int .i64 v2, Value.int .i64 v3, Value.int .i64 v4] 86)) _ _ _) := (HC0.out.below hb).alloc _
 have RV2 : Hid ((w2.alloc (Obj.cells #[Value.int .i64 v0, Value.int .i64 v1, Value.int .i64 v2, Value.int .i64 v3, Value.int .i64 v4] 86)).heap[w2.heap.size]? = _) := heap_alloc_new _ _
 clear hb HC0
 obtain ⟨t0, t1, t2, t3, t4, t5, t6, t7⟩ := cells8 C2.out.2
 have tf := fun i => frozen_of_row _ _ i _ _ C2.out.2
 cases ht : fnd5T vs kv veh
 · have HV1 : Hid (r = 2) := HR.out.symm.trans (formV_2 rfl ht)
   go_wp2
   refine bodyPost_ret (v := .tuple #[.agg #[Value.int .i64 0, Value.slice none 0 0, Value.int .i64 0, Value.int .i64 0, Value.int .i64 0, Value.int .i64 0, Value.int .i64 0, Value.slice none 0 0], .int .i64 2]) (by simp [results, Tryz.results134, go_sem, t0, t1, t2, t3, t4, t5, t6, t7]) rfl ⟨?_, .inl ⟨by rw [HV1.out]; decide, by rw [HV1.out]⟩⟩
   repeat (first | with_reducible exact C2.out.b | refine Below.setCell ?_ (by simp <;> omega) _)
 · have HT5 : Hid _ := ht
   clear ht
   obtain ⟨c0, c1, c2', c3, c4⟩ := cells5 C2.out.1.2.1
   obtain ⟨d0, d1⟩ := cells2 C2.out.1.2.2
   go_wp2_with fail
   clear c0 c1 c2' c3 c4 d0 d1 t0 t1 t2 t3 t4 t5 t6 t7 tf
   generalize w2.alloc (Obj.cells #[Value.int .i64 v0, Value.int .i64 v1, Value.int .i64 v2, Value.int .i64 v3, Value.int .i64 v4] 86) = W2 at *
   generalize w2.heap.size = gv at *
   refine (stopsOf_any n fine a ao av bi cap ko co kv cv c2 zs os ids W2 (HO.out.below C2.out.1.1) (HI.out.below C2.out.1.1) HLO.out hko hli hc2).mono ?_
   rintro e w3 ⟨hb, ⟨hst, rfl⟩ | ⟨hst, rfl, hros⟩⟩
   · have C3 : Hid (CRT w w3 _ _ _) := C2.out.below hb
     have HV1 : Hid (r = 3) := HR.out.symm.trans (formV_3 rfl HT5.out hst)
     obtain ⟨t0, t1, t2, t3, t4, t5, t6, t7⟩ := cells8 C3.out.2
     have tf := fun i => frozen_of_row _ _ i _ _ C3.out.2
     clear hb hst
     go_wp2
     refine bodyPost_ret (v := .tuple #[.agg #[Value.int .i64 0, Value.slice none 0 0, Value.int .i64 0, Value.int .i64 0, Value.int .i64 0, Value.int .i64 0, Value.int .i64 0, Value.slice none 0 0], .int .i64 3]) (by simp [results, Tryz.results134, go_sem, t0, t1, t2, t3, t4, t5, t6, t7]) rfl ⟨?_, .inl ⟨by rw [HV1.out]; decide, by rw [HV1.out]⟩⟩
     repeat (first | with_reducible exact C3.out.b | refine Below.setCell ?_ (by simp <;> omega) _)
   · have HST : Hid (stopsB os ko ids = true) := hst
     have C3 : Hid (CRT w w3 _ _ _) := C2.out.below hb
     have RV3 : Hid (w3.heap[gv]? = _) := below_row hb (row_lt RV2.out) RV2.out
     have HROS : Hid (IntsAt w3 (some ⟨W2.heap.size + 1, 0, none⟩) (rosOf os ko ids)) := hros
     have HGR : Hid (w.heap.size + 2 < W2.heap.size + 1) := Nat.lt_succ_of_lt (row_lt C2.out.2)
     clear hb hst hros C2 RV2
     generalize W2.heap.size + 1 = gr at *
     obtain ⟨q0, q1, q2, q3, q4⟩ := cells5 RV3.out
     obtain ⟨hmat, hords, hvehs, hn1, _⟩ := caseB_parts HC.out
     have hroom := (fnd5F_bd hvehs hn1 veh).2.1
     rw [G2.out] at hroom
     have HOB : Hid (ordsB n os ko = true) := hords
     have HN1 : Hid (1 <= n) := hn1
     clear hmat hords hvehs hn1
     have h12 := (stopsB_true HST.out).1
     go_wp2_with fail
     clear q0 q1 q2 q3 q4
     go_loopw [9, 36] (fun rm t wr => ∃ k : Nat, k <= ids.length /\ t = .int .i64 k /\ rm = .int .i64 (v2 - loadTo os ko ids k) /\ CRT w wr #[Value.int .i64 n, Value.slice a zs.length cap, Value.slice ao ko co, Value.slice av kv cv, Value.int .i64 fine] #[Value.int .i64 veh, Value.slice bi ids.length c2] #[Value.int .i64 0, Value.slice none 0 0, Value.int .i64 0, Value.int .i64 0, Value.int .i64 0, Value.int .i64 0, Value.int .i64 0, Value.slice none 0 0] /\ wr.heap[gv]? = some (.cells #[Value.int .i64 v0, Value.int .i64 v1, Value.int .i64 v2, Value.int .i64 v3, Value.int .i64 v4] 86 (0, 0)) /\ IntsAt wr (some ⟨gr, 0, none⟩) (rosOf os ko ids)) (fun _ t _ => ids.length - (intOf t).toNat)
     case atStart => exact ⟨0, Nat.zero_le _, rfl, by simp [loadTo], C3.out, RV3.out, HROS.out⟩
     case round =>
       clear C3 RV3 HROS
       obtain ⟨k, hk, rfl, rfl, hb, hrv, hros⟩ := hrel
       have hbd := loadTo_bd HOB.out ids k
       have HB : Hid (CRT w wr _ _ _) := hb
       have HRV : Hid (wr.heap[gv]? = _) := hrv
       have HROS : Hid (IntsAt wr (some ⟨gr, 0, none⟩) (rosOf os ko ids)) := hros
       obtain ⟨s0, HS0⟩ : ∃ s, Hid (loadTo os ko ids k = s) := ⟨_, rfl⟩
       rw [HS0.out] at hbd ⊢
       clear hb hrv hros
       by_cases hlt : k < ids.length
       · obtain ⟨b', off', e, hcs⟩ := IntsAt.some HROS.out (j := k * 6) (by rw [rosOf_length]; omega)
         simp at e
         obtain ⟨rfl, rfl⟩ := e
         obtain ⟨r0, r1, r2, r3, r4, r5⟩ := row6_at hcs (rosOf_length os ko ids) k hlt
         clear hcs
         simp only [Nat.zero_add] at r0 r1 r2 r3 r4 r5
         obtain ⟨id, HID⟩ : ∃ i, Hid (ids.getD k 0 = i) := ⟨_, rfl⟩
         rw [rosOf_at os ko ids hlt (by omega), HID.out] at r0 r1 r2 r3 r4 r5
         have hl2 := fnd6F_load HOB.out id
         obtain ⟨o0, H0⟩ : ∃ t, Hid (fnd6F os ko id 0 = t) := ⟨_, rfl⟩
         obtain ⟨o1, H1⟩ : ∃ t, Hid (fnd6F os ko id 1 = t) := ⟨_, rfl⟩
         obtain ⟨o2, H2⟩ : ∃ t, Hid (fnd6F os ko id 2 = t) := ⟨_, rfl⟩
         obtain ⟨o3, H3⟩ : ∃ t, Hid (fnd6F os ko id 3 = t) := ⟨_, rfl⟩
         obtain ⟨o4, H4⟩ : ∃ t, Hid (fnd6F os ko id 4 = t) := ⟨_, rfl⟩
         obtain ⟨o5, H5⟩ : ∃ t, Hid (fnd6F os ko id 5 = t) := ⟨_, rfl⟩
         rw [H2.out] at hl2
         rw [H0.out] at r0
         rw [H1.out] at r1
         rw [H2.out] at r2
         rw [H3.out] at r3
         rw [H4.out] at r4
         rw [H5.out] at r5
         have HL1 : Hid (loadTo os ko ids (k + 1) = s0 + o2) := by
           show _ = _
           unfold loadTo
           rw [HS0.out, HID.out, H2.out]
         go_wp2
         exact ⟨⟨k + 1, by omega, by go_num, by rw [HL1.out]; go_num, HB.out.alloc _, (heap_alloc_old _ _ (row_lt HRV.out)).trans HRV.out, HROS.out.below ((Below.refl _ _).alloc (Nat.le_refl _) _)⟩, by simp [intOf]; omega⟩
       · have hkl : k = ids.length := by omega
         have HS0' : Hid (loadTo os ko ids ids.length = s0) := hkl ▸ HS0.out
         obtain ⟨t0, t1, t2, t3, t4, t5, t6, t7⟩ := cells8 HB.out.2
         have tf := fun i => frozen_of_row _ _ i _ _ HB.out.2
         clear hkl
         by_cases hroom2 : v2 < s0
         · have HV1 : Hid (r = 4) := HR.out.symm.trans (formV_4 rfl HT5.out HST.out (by rw [HS0'.out, G2.out]; exact hroom2))
           go_wp2
           refine bodyPost_ret (v := .tuple #[.agg #[Value.int .i64 0, Value.slice none 0 0, Value.int .i64 0, Value.int .i64 0, Value.int .i64 0, Value.int .i64 0, Value.int .i64 0, Value.slice none 0 0], .int .i64 4]) (by simp [results, Tryz.results134, go_sem, t0, t1, t2, t3, t4, t5, t6, t7]) rfl ⟨?_, .inl ⟨by rw [HV1.out]; decide, by rw [HV1.out]⟩⟩
           repeat (first | with_reducible exact HB.out.b | refine Below.setCell ?_ (by simp <;> omega) _)
         · have HV1 : Hid (r = 0) := HR.out.symm.trans (formV_0 rfl HT5.out HST.out (by rw [HS0'.out, G2.out]; exact hroom2))
           obtain ⟨q0, q1, q2, q3, q4⟩ := cells5 HRV.out
           obtain ⟨c0, c1, c2', c3, c4⟩ := cells5 HB.out.1.2.1
           go_wp2
           refine bodyPost_ret (v := .tuple #[.agg #[.int .i64 n, .slice a zs.length cap, .int .i64 v0, .int .i64 v1, .int .i64 v2, .int .i64 v3, .int .i64 v4, .slice (some ⟨gr, 0, none⟩) ids.length ids.length], .int .i64 0]) (by simp [results, Tryz.results134, go_sem, t0, t1, t2, t3, t4, t5, t6, t7]) rfl ⟨?_, .inr ⟨HV1.out, gr, by have := HGR.out; omega, ?_, ?_⟩⟩
           · repeat (first | with_reducible exact HB.out.b | refine Below.setCell ?_ (by simp <;> omega) _)
           · rw [G0.out, G1.out, G2.out, G3.out, G4.out]
           · repeat (first | with_reducible exact HROS.out | with_reducible refine ints_set ?_ (by have := HGR.out; omega))
theorem drive_is (n x y : Int) (v0 v1 v2 v3 v4 : Int) (a ar : Option Addr) (cap kr cr : Nat) (zs : List Int) (w : World) (d : Int) (hd : tmI n zs x y = d) (hm : matB n zs = true) (hx : 0 <= x /\ x < n) (hy : 0 <= y /\ y < n) (hA : IntsAt w a zs) :
   Calls Tryz.prog 140 #[.agg #[.int .i64 n, .slice a zs.length cap, .int .i64 v0, .int .i64 v1, .int .i64 v2, .int .i64 v3, .int .i64 v4, .slice ar kr cr], .int .i64 x, .int .i64 y] w fun e w' => e = .returned (.int .i64 d) /\ Below w.heap.size w w' := hd ▸ drive_I n x y v0 v1 v2 v3 v4 a ar cap kr cr zs w hm hx hy hA
theorem append_block {P : Program} (w : World) (base : Nat) (t ty e : TypeId) (i : TypeInfo) (z : Value) (size bytes : Nat) (ht : P.underlying t = some (.slice e)) (hi : P.info? e = some i) (hz : i.zero = some z)
   (hsize : i.size = size) (hby : i.bytes = bytes) (v : Value) (n : Nat) (xs : List Value) (hown : w.ownsRow base e size v n xs)
   (a : Addr) (m c : Nat) (news : List Value) (hl : news.length = m * size) (hnews : ∀ j u, news[j]? = some u -> w.cell? (a.add j) = some u) (h1 : ∀ u ∈ news, u.oneCell' = true)
   (h63 : n + m <= maxLen) (hbytes : (n + m) * bytes <= 140737488355328) {v' : Value} {w' : World} (hrun : (Builtin.append_ #[t, t] ty #[v, .slice (some a) m c]).run P w = .ok v' w') : v'.ownBlock = v.ownBlock ∨ v'.ownBlock = some w.heap.size := by
 subst hsize
 subst hby
 have hsmall : n + m <= 9223372036854775807 := by simp only [maxLen] at h63; omega
 rcases hown.2 with ⟨rfl, rfl⟩ | ⟨g, cap, cur, rfl, hbg, hg, hnc, hcm, hcs, htake⟩
 · by_cases hm : m = 0
   · subst hm
     have hn : news = [] := List.eq_nil_of_length_eq_zero (by simpa using hl)
     subst hn
     simp [Builtin.append_, run_underlying ht, sizeOf, typeInfo, hi, Builtin.lenOf, Builtin.firstCells, loadCells, loadCellsFrom] at hrun
     rw [<- hrun.1]
     exact .inl rfl
   · have hr := run_append_nil (P := P) w t ty e i z ht hi hz a m c news hl hnews (by omega) (by omega) (by have hb := hbytes; simp only [Nat.zero_add] at hb; omega)
     rw [hr] at hrun
     injection hrun with e1 e2
     rw [<- e1]
     exact .inr rfl
 · by_cases hroom : n + m <= cap
   · have hfit : n * i.size + news.length <= cur.size := by rw [hl, hcs, <- Nat.add_mul]; exact Nat.mul_le_mul_right _ hroom
     have hr := run_append_room (P := P) w t ty e i ht hi g n cap cur hg a m c news hl hnews h1 hroom hfit
     rw [hr] at hrun
     injection hrun with e1 e2
     rw [<- e1]
     exact .inl rfl
   · have holds : ∀ j u, xs[j]? = some u -> w.cell? ((⟨g, 0, none⟩ : Addr).add j) = some u := hown.cells (g := g) rfl
     have hr := run_append_grow (P := P) w t ty e i z ht hi hz ⟨g, 0, none⟩ n cap xs hown.1 holds a m c news hl hnews (by omega) (by omega) (growslice_fits (by omega) hbytes)
     rw [hr] at hrun
     injection hrun with e1 e2
     rw [<- e1]
     exact .inr rfl
theorem exec_append' {P : Program} {o : Oper} {a : Act} {w w' : World} {v : Value} (s x : Operand) (t : TypeId) (vs vx : Value) (ho : o.op = .call { callee := .builtin .append, args := #[s, x], argTypes := #[t, t] })
   (hs : a.eval s = vs) (hx : a.eval x = vx) (hr : (Builtin.append_ #[t, t] o.type #[vs, vx]).run P w = .ok v w') : (execOp a.eval o).run P w = .ok (.value v) w' := by
 unfold execOp
 simp only [ho, resolve, invoke, builtin, Sem.run_bind, Sem.run_pure, Result.andThen_ok, List.map_toArray, List.map_cons, List.map_nil, hs, hx, hr]
theorem append_many (w : World) {ops : Array Oper} {rest : List Oper} {o : Oper} {a : Act} {Q : Exit -> Act -> World -> Prop}
   (hg : o.guard = none) (s x : Operand) (hop : o.op = Op.call { callee := Callee.builtin Builtin.append, args := #[s, x], argTypes := #[22, 22] })
   (base : Nat) (v : Value) (k : Nat) (xs : List Int) (hs : a.eval s = v) (hown : w.ownsRow base 2 1 v k (xs.map (Value.int .i64))) (b off m c : Nat) (ys : List Int) (hx : a.eval x = .slice (some ⟨b, off, none⟩) m c)
   (hy : ys.length = m) (hc : IntsAt w (some ⟨b, off, none⟩) ys) (b1 : k <= 1000) (b2 : m <= 1000) (hb : base <= w.heap.size)
   (hK : ∀ v' w', w'.ownsRow base 2 1 v' (k + m) ((xs ++ ys).map (Value.int .i64)) -> w.grownBy w' v.ownBlock -> (v'.ownBlock = v.ownBlock ∨ v'.ownBlock = some w.heap.size) -> (v' = .slice none 0 0 ↔ v = .slice none 0 0 /\ m = 0) -> wpList Tryz.prog ops Q rest (a.put o.dst v') w') :
   wpList Tryz.prog ops Q (o :: rest) a w := by
 obtain ⟨i0, hi, hz0, hz1, hz2⟩ := info_parts Tryz.info2
 have hnews : ∀ j u, (ys.map (Value.int .i64))[j]? = some u -> w.cell? ((⟨b, off, none⟩ : Addr).add j) = some u := by
   intro j u hu
   have hj : j < ys.length := by
     rcases Nat.lt_or_ge j ys.length with h' | h'
     · exact h'
     · simp [List.getElem?_eq_none (by simpa using h' : (ys.map (Value.int .i64)).length <= j)] at hu
   obtain ⟨b', off', e, hcc⟩ := hc j hj
   simp at e
   obtain ⟨rfl, rfl⟩ := e
   have hadd : (⟨b, off, none⟩ : Addr).add j = ⟨b, off + j, none⟩ := by unfold Addr.add; split <;> simp_all
   rw [hadd, hcc, <- hu]
   simp [List.getD, hj]
 have h1c : ∀ u ∈ ys.map (Value.int .i64), u.oneCell' = true := by simp [Value.oneCell']
 obtain ⟨v', w', hrun, r1, r2, r3⟩ := run_append_own (P := Tryz.prog) w base 22 o.type _ i0 _ 1 8 Tryz.underlying22 hi hz0 hz1 hz2 rfl (by decide) v k (xs.map (Value.int .i64)) hown ⟨b, off, none⟩ m c (ys.map (Value.int .i64)) (by simp [hy]) hnews h1c (by unfold maxLen; omega) (by omega) hb
 have r4 := append_block (P := Tryz.prog) w base 22 o.type _ i0 _ 1 8 Tryz.underlying22 hi hz0 hz1 hz2 v k (xs.map (Value.int .i64)) hown ⟨b, off, none⟩ m c (ys.map (Value.int .i64)) (by simp [hy]) hnews h1c (by unfold maxLen; omega) (by omega) hrun
 exact wpList_run v' hg (exec_append' s x _ v _ hop hs hx hrun) (hK v' w' (by rw [List.map_append]; exact r1) r2 r4 r3)
theorem append_more (w : World) {ops : Array Oper} {rest : List Oper} {o : Oper} {a : Act} {Q : Exit -> Act -> World -> Prop}
   (hg : o.guard = none) (s x : Operand) (hop : o.op = Op.call { callee := Callee.builtin Builtin.append, args := #[s, x], argTypes := #[22, 22] })
   (base : Nat) (v : Value) (k : Nat) (xs : List Int) (hs : a.eval s = v) (hown : w.ownsRow base 2 1 v k (xs.map (Value.int .i64))) (ad : Option Addr) (m c : Nat) (ys : List Int) (hx : a.eval x = .slice ad m c)
   (had : ∃ b off, ad = some ⟨b, off, none⟩) (hy : ys.length = m) (hc : IntsAt w ad ys) (b1 : k <= 1000) (b2 : m <= 1000) (hb : base <= w.heap.size)
   (hK : ∀ v' w', w'.ownsRow base 2 1 v' (k + m) ((xs ++ ys).map (Value.int .i64)) -> w.grownBy w' v.ownBlock -> (v'.ownBlock = v.ownBlock ∨ v'.ownBlock = some w.heap.size) -> (v' = .slice none 0 0 ↔ v = .slice none 0 0 /\ m = 0) -> wpList Tryz.prog ops Q rest (a.put o.dst v') w') :
   wpList Tryz.prog ops Q (o :: rest) a w := by
 obtain ⟨b, off, rfl⟩ := had
 exact append_many w hg s x hop base v k xs hs hown b off m c ys hx hy hc b1 b2 hb hK
theorem ints_take' {W : World} {a : Option Addr} {ids : List Int} (h : IntsAt W a ids) (i : Nat) : IntsAt W a (ids.take i) := by
 intro j hj
 have hj' : j < ids.length /\ j < i := by rw [List.length_take] at hj; omega
 obtain ⟨b, off, e, hc⟩ := h j hj'.1
 refine ⟨b, off, e, ?_⟩
 rw [hc, List.getD_eq_getElem?_getD, List.getD_eq_getElem?_getD, List.getElem?_take, if_pos hj'.2]
theorem ints_drop' {W : World} {b off : Nat} {ids : List Int} (h : IntsAt W (some ⟨b, off, none⟩) ids) (i : Nat) : IntsAt W (some ⟨b, off + i, none⟩) (ids.drop i) := by
 intro j hj
 have hj' : i + j < ids.length := by rw [List.length_drop] at hj; omega
 obtain ⟨b', off', e, hc⟩ := h (i + j) hj'
 simp at e
 obtain ⟨rfl, rfl⟩ := e
 refine ⟨b, off + i, rfl, ?_⟩
 rw [Nat.add_assoc, hc, List.getD_eq_getElem?_getD, List.getD_eq_getElem?_getD, List.getElem?_drop]
theorem ints_cut' {W : World} {b off : Nat} {ids : List Int} (h : IntsAt W (some ⟨b, off, none⟩) ids) (i c2 : Nat) (hc : ids.length <= c2) : IntsAt W (if c2 = i then some ⟨b, off, none⟩ else some ⟨b, off + i, none⟩) (ids.drop i) := by
 by_cases e : c2 = i
 · have : ids.drop i = [] := List.drop_eq_nil_of_le (by omega)
   rw [this]
   intro j hj
   simp at hj
 · rw [if_neg e]; exact ints_drop' h i
theorem cut_some' (b off i c2 : Nat) : ∃ b' off', (if c2 = i then some (⟨b, off, none⟩ : Addr) else some ⟨b, off + i, none⟩) = some ⟨b', off', none⟩ := by
 by_cases e : c2 = i
 · exact ⟨b, off, if_pos e⟩
 · exact ⟨b, off + i, if_neg e⟩
theorem own_sm {w : World} {base k : Nat} {v : Value} {e : TypeId} {size : Nat} {xs : List Value} (h : w.ownsRow base e size v k xs) (hne : v ≠ .slice none 0 0) : ∃ g c, v = .slice (some ⟨g, 0, none⟩) k c := by
 rcases own_shape h with e | e
 · exact absurd e hne
 · exact e
theorem own_cap {w : World} {base k g c : Nat} {e : TypeId} {size : Nat} {xs : List Value} (h : w.ownsRow base e size (.slice (some ⟨g, 0, none⟩) k c) k xs) : k <= c := by
 obtain ⟨_, ⟨h1, _⟩ | ⟨g', cap, cur, h2, _, _, h3, _⟩⟩ := h
 · cases h1
 · injection h2 with e1 e2 e3
   omega
theorem not_nil {v v' : Value} {m : Nat} (h : v' = .slice none 0 0 ↔ v = .slice none 0 0 /\ m = 0) (hv : ∃ g n c, v = .slice (some ⟨g, 0, none⟩) n c) : v' ≠ .slice none 0 0 := by
 intro e
 obtain ⟨g, n, c, rfl⟩ := hv
 have := (h.1 e).1
 simp at this
theorem ints_new1 (W : World) (x : Int) : IntsAt (W.alloc (.cells #[.int .i64 x] 2)) (some ⟨W.heap.size, 0, none⟩) [x] := by
 intro j hj
 have : j = 0 := by simpa using hj
 subst this
 exact ⟨_, _, rfl, cell_new1 W _ _ _ rfl⟩
theorem owns_ints' {w : World} {base g n cap : Nat} {e : TypeId} {zs : List Int} (h : w.ownsRow base e 1 (.slice (some ⟨g, 0, none⟩) n cap) zs.length (zs.map (Value.int .i64))) (hn : zs.length = n) : IntsAt w (some ⟨g, 0, none⟩) zs := by
 rw [hn] at h
 exact owns_ints h
theorem own_at {g n c k : Nat} (e : (Value.slice (some ⟨g, 0, none⟩) n c).ownBlock = some k) : g <= k := by
 have : g = k := by injection e
 omega
theorem own_put {w : World} {base n g c k : Nat} {e : TypeId} {xs : List Int} (v : Int) (h : w.ownsRow base e 1 (.slice (some ⟨g, 0, none⟩) n c) n (xs.map (Value.int .i64))) (_hk : k < n) : (w.setCell ⟨g, k, none⟩ (.int .i64 v)).ownsRow base e 1 (.slice (some ⟨g, 0, none⟩) n c) n ((xs.set k v).map (Value.int .i64)) := by
 obtain ⟨h0, ⟨h1, _⟩ | ⟨g', cap, cur, h2, h3, h4, h5, h6, h7, h8⟩⟩ := h
 · cases h1
 · simp at h2
   obtain ⟨rfl, rfl⟩ := h2
   refine ⟨by simpa using h0, .inr ⟨g, c, cur.setIfInBounds k (.int .i64 v), rfl, h3, heap_setCell_same w g k cur e _ h4, h5, h6, by simpa using h7, ?_⟩⟩
   rw [Array.toList_setIfInBounds, List.take_set, h8, List.map_set]
theorem own_cell {w : World} {base n g c k : Nat} {e : TypeId} {xs : List Int} (h : w.ownsRow base e 1 (.slice (some ⟨g, 0, none⟩) n c) n (xs.map (Value.int .i64))) (hk : k < xs.length) : w.cell? ⟨g, k, none⟩ = some (.int .i64 (xs.getD k 0)) /\ w.frozen? ⟨g, k, none⟩ = false := by
 refine ⟨?_, ?_⟩
 · obtain ⟨_, _, e1, h1⟩ := owns_ints h k hk
   simp at e1
   obtain ⟨rfl, rfl⟩ := e1
   rw [Nat.zero_add] at h1
   exact h1
 · obtain ⟨h0, ⟨h1, _⟩ | ⟨g', cap, cur, h2, h3, h4, h5⟩⟩ := h
   · cases h1
   · simp at h2
     obtain ⟨rfl, rfl⟩ := h2
     exact frozen_of_row _ _ k _ _ h4
end Go.Proofs.YtfpegaldloadaaaGreat

namespace Go.Proofs.YtfpegaldloadaaaGreat
end Go.Proofs.YtfpegaldloadaaaGreat

namespace Go.Proofs.YtfpegaldloadaaaGreat
open Go.RowKit
theorem infoI8 : (Tryz.prog.info? 2).map (fun i => (i.zero, i.size, i.bytes)) = some (some (Value.int .i64 0), 1, 8) := by kernel_rfl
theorem infoI8_parts : ∃ i0, Tryz.prog.info? 2 = some i0 /\ i0.zero = some (Value.int .i64 0) /\ i0.size = 1 /\ i0.bytes = 8 := by
 have h := infoI8
 cases hq : Tryz.prog.info? 2 with
 | none => rw [hq] at h; simp at h
 | some i0 =>
   rw [hq] at h
   simp only [Option.map_some, Option.some.injEq, Prod.mk.injEq] at h
   exact ⟨i0, rfl, h.1, h.2.1, h.2.2⟩
theorem ints_news {W : World} {b off : Nat} {ys : List Int} (h : IntsAt W (some ⟨b, off, none⟩) ys) : ∀ j u, (ys.map (Value.int .i64))[j]? = some u -> W.cell? ((⟨b, off, none⟩ : Addr).add j) = some u := by
 intro j u hu
 have hj : j < ys.length := by
   rcases Nat.lt_or_ge j ys.length with h' | h'
   · exact h'
   · simp [List.getElem?_eq_none (by simpa using h' : (ys.map (Value.int .i64)).length <= j)] at hu
 obtain ⟨b', off', e, hc⟩ := h j hj
 simp at e
 obtain ⟨rfl, rfl⟩ := e
 have hadd : (⟨b, off, none⟩ : Addr).add j = ⟨b, off + j, none⟩ := by unfold Addr.add; split <;> simp_all
 rw [hadd, hc, <- hu]
 simp [List.getD, hj]
theorem step_append_ints {ops : Array Oper} {o : Oper} {a : Act} {w : World} {K : Act -> World -> Prop} {Q : Exit -> Act -> World -> Prop} {E : Prop}
   (hg : o.guard = none) (s x : Operand) (hop : o.op = Op.call { callee := Callee.builtin Builtin.append, args := #[s, x], argTypes := #[22, 22] })
   (base : Nat) (v : Value) (xs : List Int) (k : Nat) (hs : a.eval s = v) (hown : w.ownsRow base 2 1 v k (xs.map (Value.int .i64))) (b off m c : Nat) (ys : List Int) (hx : a.eval x = .slice (some ⟨b, off, none⟩) m c)
   (hy : ys.length = m) (hc : IntsAt w (some ⟨b, off, none⟩) ys) (b1 : k <= 1000) (b2 : m <= 1000) (hb : base <= w.heap.size)
   (hK : ∀ v' w', w'.ownsRow base 2 1 v' (k + m) ((xs ++ ys).map (Value.int .i64)) -> w.grownBy w' v.ownBlock -> (v' = .slice none 0 0 ↔ v = .slice none 0 0 /\ m = 0) -> K (a.put o.dst v') w') :
   if Region.wanted o (yielded ops a.tmps) = true then Oper.wp Tryz.prog o a w K Q else E := by
 have hw : Region.wanted o (yielded ops a.tmps) = true := by simp [Region.wanted, hg]
 rw [if_pos hw]
 obtain ⟨i0, hi, hz0, hz1, hz2⟩ := infoI8_parts
 obtain ⟨v', w', hrun, r1, r2, r3⟩ := run_append_own (P := Tryz.prog) w base 22 o.type _ i0 _ 1 8 Tryz.underlying22 hi hz0 hz1 hz2 rfl (by decide) v k (xs.map (Value.int .i64)) hown ⟨b, off, none⟩ m c (ys.map (Value.int .i64)) (by simp [hy]) (ints_news hc) (by simp [Value.oneCell']) (by unfold maxLen; omega) (by omega) hb
 unfold Oper.wp
 simp [execOp, hop, resolve, invoke, builtin, hs, hx, hrun, Result.andThen]
 exact hK _ _ (by rw [List.map_append]; exact r1) r2 r3
theorem step_append_at {ops : Array Oper} {o : Oper} {a : Act} {w : World} {K : Act -> World -> Prop} {Q : Exit -> Act -> World -> Prop} {E : Prop}
   (hg : o.guard = none) (s x : Operand) (hop : o.op = Op.call { callee := Callee.builtin Builtin.append, args := #[s, x], argTypes := #[22, 22] })
   (base : Nat) (v : Value) (xs : List Int) (k : Nat) (hs : a.eval s = v) (hown : w.ownsRow base 2 1 v k (xs.map (Value.int .i64))) (ad : Option Addr) (m c : Nat) (ys : List Int) (hx : a.eval x = .slice ad m c)
   (had : ∃ b off, ad = some ⟨b, off, none⟩) (hy : ys.length = m) (hc : IntsAt w ad ys) (b1 : k <= 1000) (b2 : m <= 1000) (hb : base <= w.heap.size)
   (hK : ∀ v' w', w'.ownsRow base 2 1 v' (k + m) ((xs ++ ys).map (Value.int .i64)) -> w.grownBy w' v.ownBlock -> (v' = .slice none 0 0 ↔ v = .slice none 0 0 /\ m = 0) -> K (a.put o.dst v') w') :
   if Region.wanted o (yielded ops a.tmps) = true then Oper.wp Tryz.prog o a w K Q else E := by
 obtain ⟨b, off, rfl⟩ := had
 exact step_append_ints hg s x hop base v xs k hs hown b off m c ys hx hy hc b1 b2 hb hK
theorem make_room (w : World) {ops : Array Oper} {rest : List Oper} {o : Oper} {a : Act} {Q : Exit -> Act -> World -> Prop}
   (hg : o.guard = none) (l c : Operand) (hop : o.op = Op.makeSlice 22 l c) (base : Nat)
   (kl kc : IntKind) (C : Int) (n : Nat) (hl : a.eval l = .int kl 0) (hc : a.eval c = .int kc C) (hC : C = (n : Int)) (b2 : n <= 1048576) (b4 : base <= w.heap.size)
   (hK : ∀ w', w'.ownsRow base 2 1 (.slice (some ⟨w.heap.size, 0, none⟩) 0 n) 0 [] -> w.grownBy w' none -> wpList Tryz.prog ops Q rest (a.put o.dst (.slice (some ⟨w.heap.size, 0, none⟩) 0 n)) w') :
   wpList Tryz.prog ops Q (o :: rest) a w := by
 obtain ⟨i0, hi, hz0, hz1, hz2⟩ := info_parts Tryz.info2
 exact wpList_make_own w hg l c _ hop base _ i0 _ 1 Tryz.underlying22 hi hz0 hz1 kl kc C n hl hc hC (by rw [hz2]; omega) (by unfold maxLen; omega) b4 hK
structure PM (w W : World) (B : Nat) (lv ov mv : Value) (L O M : List Int) : Prop where
 b : Below w.heap.size w W
 hB : w.heap.size <= B /\ B <= W.heap.size
 l : W.ownsRow B 2 1 lv L.length (L.map (Value.int .i64))
 o : W.ownsRow B 2 1 ov O.length (O.map (Value.int .i64))
 m : W.ownsRow B 2 1 mv M.length (M.map (Value.int .i64))
 mo : mv.ownBlock ≠ ov.ownBlock
 sm : mv ≠ .slice none 0 0
 so : ∃ g c, ov = .slice (some ⟨g, 0, none⟩) O.length c
theorem own_new0 (W : World) : (W.alloc (.cells #[] 2)).ownsRow W.heap.size 2 1 (.slice (some ⟨W.heap.size, 0, none⟩) 0 0) ([] : List Int).length (([] : List Int).map (Value.int .i64)) := World.ownsRow_made W #[] 0 (Nat.le_refl _) (by unfold maxLen; omega) (by simp)
set_option maxHeartbeats 1000000 in
theorem l4CutP_any (b off c : Nat) (L : List Int) (v : Int) (w : World) (hA : IntsAt w (some ⟨b, off, none⟩) L) (hl : L.length <= 1000) :
   Calls Tryz.prog 63 #[.slice (some ⟨b, off, none⟩) L.length c, .int .i64 v] w fun e w' => ∃ g cg, e = .returned (.slice (some ⟨g, 0, none⟩) (cutP L v).length cg) /\ Below w.heap.size w w' /\ w'.ownsRow w.heap.size 2 1 (.slice (some ⟨g, 0, none⟩) (cutP L v).length cg) (cutP L v).length ((cutP L v).map (Value.int .i64)) := by
 have HA : Hid (IntsAt w (some ⟨b, off, none⟩) L) := hA
 clear hA
 obtain ⟨n, HN⟩ : ∃ n, Hid (L.length = n) := ⟨_, rfl⟩
 obtain ⟨R, HR⟩ : ∃ R, Hid (cutP L v = R) := ⟨_, rfl⟩
 rw [HN.out] at hl ⊢
 rw [HR.out]
 have OB : Hid (Below w.heap.size w (w.alloc (.cells #[] 2))) := (Below.refl _ _).alloc (Nat.le_refl _) _
 go_enter Tryz.func63, Tryz.ntmps63
 go_wp2_with fail
 go_loopw [5, 6] (fun av t wr => ∃ k : Nat, k <= n /\ t = .int .i64 k /\ wr.ownsRow w.heap.size 2 1 av (cutP (L.take k) v).length ((cutP (L.take k) v).map (Value.int .i64)) /\ Below w.heap.size w wr /\ av ≠ .slice none 0 0) (fun _ t _ => n - (intOf t).toNat)
 case atStart => exact ⟨0, Nat.zero_le _, rfl, own_new0 w, OB.out, by simp⟩
 case round =>
   clear OB
   obtain ⟨k, hk, rfl, ho, hb, hn⟩ := hrel
   have hcl : (cutP (L.take k) v).length <= 1000 := Nat.le_trans (cutP_le _ _) (by rw [List.length_take]; omega)
   obtain ⟨C, HC⟩ : ∃ C, Hid (cutP (L.take k) v = C) := ⟨_, rfl⟩
   rw [HC.out] at ho hcl
   obtain ⟨g, cg, rfl⟩ := own_sm ho hn
   obtain ⟨m, HM⟩ : ∃ n, Hid (C.length = n) := ⟨_, rfl⟩
   rw [HM.out] at ho hcl ⊢
   have O1 : Hid (wr.ownsRow w.heap.size 2 1 (.slice (some ⟨g, 0, none⟩) m cg) m (C.map (Value.int .i64))) := ho
   have B1 : Hid (Below w.heap.size w wr) := hb
   clear ho hb hn
   by_cases hlt : k < n
   · have hs := cutP_take_succ L v k (by rw [HN.out]; exact hlt)
     have cx : wr.cell? ⟨b, off + k, none⟩ = some (.int .i64 (L.getD k 0)) := by
       obtain ⟨_, _, e, h⟩ := (HA.out.below B1.out) k (by rw [HN.out]; exact hlt)
       simp at e
       obtain ⟨rfl, rfl⟩ := e
       exact h
     obtain ⟨x, HX⟩ : ∃ f, Hid (L.getD k 0 = f) := ⟨_, rfl⟩
     rw [HX.out] at cx hs
     rw [HC.out] at hs
     by_cases hxv : x = v
     · rw [if_pos hxv] at hs
       have HS : Hid (cutP (L.take (k + 1)) v = C) := hs
       clear hs
       go_wp2
       go_roundw
       case rel => exact ⟨k + 1, by omega, by first | rfl | go_num, by rw [HS.out, HM.out]; exact O1.out, B1.out, by simp⟩
       case measure => simp [intOf]; omega
     · rw [if_neg hxv] at hs
       have HS : Hid (cutP (L.take (k + 1)) v = C ++ [x]) := hs
       clear hs
       have BA : Hid (Below w.heap.size w (wr.alloc (.cells #[.int .i64 x] 2))) := B1.out.alloc B1.out.size _
       go_wp2_with (
         at_builtin
         refine append_many _ rfl _ _ rfl w.heap.size _ m C rfl (O1.out.alloc _) wr.heap.size 0 1 1 [x] rfl rfl (ints_new1 wr x) (by omega) (by omega) (Nat.le_trans B1.out.size (by simp)) ?_
         intro v' w4 hown hg _ hnl
         have O4 : Hid (w4.ownsRow w.heap.size 2 1 v' (m + 1) ((C ++ [x]).map (Value.int .i64))) := hown
         have B4 : Hid (Below w.heap.size w w4) := BA.out.grown hg BA.out.size (fun k e => (O1.out.lt k e).1)
         have N4 : Hid (v' ≠ .slice none 0 0) := not_nil hnl ⟨_, _, _, rfl⟩
         clear hown hg hnl)
       go_roundw
       case rel => exact ⟨k + 1, by omega, by first | rfl | go_num, by rw [HS.out, List.length_append, HM.out]; exact O4.out, B4.out, N4.out⟩
       case measure => simp [intOf]; omega
   · have hkn : k = n := by omega
     have HE : Hid (C = R) := by
       have := HC.out
       rw [hkn, <- HN.out, List.take_length, HR.out] at this
       exact this.symm
     have HRM : Hid (R.length = m) := by show _ = _; rw [<- HE.out]; exact HM.out
     rw [HE.out] at O1
     go_wp2
     go_ret
     refine ⟨g, cg, by rw [HRM.out]; rfl, B1.out, by rw [HRM.out]; exact O1.out⟩
theorem put_parts (L : List Int) (k : Nat) (x : Int) : L.take k ++ [x] ++ L.drop k = insL L k x := by
 unfold insL
 rw [List.append_assoc]
 rfl
set_option maxHeartbeats 2000000 in
theorem l4Put_any (b off c : Nat) (L : List Int) (x : Int) (w : World) (hA : IntsAt w (some ⟨b, off, none⟩) L) (hl : L.length <= 100) (hc : L.length <= c) :
   Calls Tryz.prog 61 #[.slice (some ⟨b, off, none⟩) L.length c, .int .i64 x] w fun e w' => ∃ g cc, e = .returned (.slice (some ⟨g, 0, none⟩) (L.length + 1) cc) /\ Below w.heap.size w w' /\ w'.ownsRow w.heap.size 2 1 (.slice (some ⟨g, 0, none⟩) (L.length + 1) cc) (L.length + 1) ((putS L x).map (Value.int .i64)) := by
 have HA : Hid (IntsAt w (some ⟨b, off, none⟩) L) := hA
 clear hA
 obtain ⟨m, HM⟩ : ∃ m, Hid (L.length = m) := ⟨_, rfl⟩
 rw [HM.out] at hl hc ⊢
 have B1 : Hid (Below w.heap.size w (w.alloc (.cells #[] 2))) := (Below.refl _ _).alloc (Nat.le_refl _) _
 go_enter Tryz.func61, Tryz.ntmps61
 go_wp2_with fail
 go_loop [5] (fun t => ∃ k : Nat, k <= m /\ t = .int .i64 k /\ ∀ j, j < k -> L.getD j 0 < x) (fun t => m - (intOf t).toNat)
 case atStart => exact ⟨0, Nat.zero_le _, rfl, fun j hj => by omega⟩
 case round =>
   obtain ⟨k, hk, rfl, hj⟩ := hrel
   have HJ : Hid (∀ j, j < k -> L.getD j 0 < x) := hj
   clear hj
   by_cases hcont : k < m /\ L.getD k 0 < x
   · obtain ⟨hlt, hx⟩ := hcont
     have hltI : (k : Int) < (m : Int) := by omega
     obtain ⟨_, _, e, c1⟩ := HA.out k (by rw [HM.out]; exact hlt)
     simp only [Option.some.injEq, Addr.mk.injEq, and_true] at e
     obtain ⟨rfl, rfl⟩ := e
     have HJ2 : Hid (∀ j, j < k + 1 -> L.getD j 0 < x) := fun j hj => by
       by_cases e : j = k
       · rw [e]; exact hx
       · exact HJ.out j (by omega)
     obtain ⟨y, HY⟩ : ∃ y, Hid (L.getD k 0 = y) := ⟨_, rfl⟩
     rw [HY.out] at c1 hx
     go_wp2
     go_round
     case rel => exact ⟨k + 1, by omega, by go_num, HJ2.out⟩
     case measure => simp [intOf]; omega
   · have HE : Hid (L.take k ++ [x] ++ L.drop k = putS L x) := by
       show _ = _
       rw [put_parts]
       exact putS_is L x k (by rw [HM.out]; exact hk) HJ.out (fun h h2 => hcont ⟨by rw [<- HM.out]; exact h, h2⟩)
     have cx : ∀ y, L.getD k 0 = y -> k < m -> w.cell? ⟨b, off + k, none⟩ = some (.int .i64 y) := fun y hy hlt => by
       obtain ⟨_, _, e, c1⟩ := HA.out k (by rw [HM.out]; exact hlt)
       simp only [Option.some.injEq, Addr.mk.injEq, and_true] at e
       obtain ⟨rfl, rfl⟩ := e
       rw [<- hy]; exact c1
     obtain ⟨y, HY⟩ : ∃ y, Hid (L.getD k 0 = y) := ⟨_, rfl⟩
     have cy := cx y HY.out
     rw [HY.out] at hcont
     have HC : Hid (¬ (k < m /\ y < x)) := hcont
     clear cx hcont
     by_cases hlt : k < m
     all_goals
       first
         | (have hltI : (k : Int) < (m : Int) := by omega
            have c1 := cy hlt
            have hyx : ¬ y < x := fun h => HC.out ⟨hlt, h⟩)
         | have hltI : ¬ ((k : Int) < (m : Int)) := by omega
       clear cy
       have hkc : k <= c := by omega
       go_wp2_with (first
         | (at_builtin
            refine append_many _ rfl (.tmp 21) (.tmp 24) rfl w.heap.size _ 0 [] rfl (World.ownsRow_made w #[] 0 (Nat.le_refl _) (by unfold maxLen; omega) (by simp)) b off k c (L.take k) rfl (by rw [List.length_take, HM.out]; omega) (ints_take' (HA.out.below B1.out) k) (by omega) (by omega) (by simp) ?_
            intro v2 w2 hown hg hbk hnl
            have B2 : Hid (Below w.heap.size w w2) := B1.out.grown hg B1.out.size (fun k e => own_at e)
            rw [Nat.zero_add, List.nil_append] at hown
            obtain ⟨g2, c2, rfl⟩ := own_sm hown (not_nil hnl ⟨_, _, _, rfl⟩)
            have O2 : Hid (w2.ownsRow w.heap.size 2 1 (.slice (some ⟨g2, 0, none⟩) k c2) k ((L.take k).map (Value.int .i64))) := hown
            have B3 : Hid (Below w.heap.size w (w2.alloc (.cells #[.int .i64 x] 2))) := B2.out.alloc B2.out.size _
            clear hown hg hbk hnl)
         | (at_builtin
            refine append_many _ rfl (.tmp 26) (.tmp 28) rfl w.heap.size _ k (L.take k) rfl (O2.out.alloc _) w2.heap.size 0 1 1 [x] rfl rfl (ints_new1 w2 x) (by omega) (by omega) B3.out.size ?_
            intro v4 w4 hown hg hbk hnl
            have hbg := (O2.out.lt g2 rfl).1
            have B4 : Hid (Below w.heap.size w w4) := B3.out.grown hg B3.out.size (fun k e => Nat.le_trans hbg (own_at e))
            obtain ⟨g4, c4, rfl⟩ := own_sm hown (not_nil hnl ⟨_, _, _, rfl⟩)
            have O4 : Hid (w4.ownsRow w.heap.size 2 1 (.slice (some ⟨g4, 0, none⟩) (k + 1) c4) (k + 1) ((L.take k ++ [x]).map (Value.int .i64))) := hown
            clear hown hg hbk hnl hbg)
         | (at_builtin
            refine append_more _ rfl (.tmp 30) (.tmp 33) rfl w.heap.size _ (k + 1) (L.take k ++ [x]) rfl O4.out _ (m - k) _ (L.drop k) rfl (by first | exact ⟨_, _, rfl⟩ | exact cut_some' b off k c) (by rw [List.length_drop, HM.out]) (by first | exact ints_drop' (HA.out.below B4.out) k | exact ints_cut' (HA.out.below B4.out) k c (by rw [HM.out]; exact hc)) (by omega) (by omega) B4.out.size ?_
            intro v5 w5 hown hg hbk hnl
            have hbg := (O4.out.lt g4 rfl).1
            have B5 : Hid (Below w.heap.size w w5) := B4.out.grown hg B4.out.size (fun k e => Nat.le_trans hbg (own_at e))
            rw [show k + 1 + (m - k) = m + 1 by omega, HE.out] at hown
            obtain ⟨g5, c5, rfl⟩ := own_sm hown (not_nil hnl ⟨_, _, _, rfl⟩)
            have O5 : Hid (w5.ownsRow w.heap.size 2 1 (.slice (some ⟨g5, 0, none⟩) (m + 1) c5) (m + 1) ((putS L x).map (Value.int .i64))) := hown
            clear hown hg hbk hnl hbg))
       all_goals
         go_ret
         exact ⟨g5, c5, rfl, B5.out, O5.out⟩
structure GrownBut (S : Nat -> Prop) (w w' : World) : Prop where
 os : w'.os = w.os
 tape : w'.tape = w.tape
 output : w'.output = w.output
 size : w.heap.size <= w'.heap.size
 block : ∀ b, b < w.heap.size -> ¬ S b -> w'.heap[b]? = w.heap[b]?
theorem GrownBut.of_below {S : Nat -> Prop} {w w' : World} (h : Below w.heap.size w w') : GrownBut S w w' := ⟨h.os, h.tape, h.output, h.size, fun b hb _ => h.block b hb⟩
theorem GrownBut.of_grown {S : Nat -> Prop} {w w' : World} {g : Nat} (h : w.grownBy w' (some g)) (hs : S g) : GrownBut S w w' := ⟨h.os, h.tape, h.output, h.size, fun b hb hn => h.block b hb (fun e => by cases e; exact hn hs)⟩
theorem GrownBut.trans {S : Nat -> Prop} {w w1 w2 : World} (h : GrownBut S w w1) (k : GrownBut S w1 w2) : GrownBut S w w2 :=
 ⟨k.os.trans h.os, k.tape.trans h.tape, k.output.trans h.output, Nat.le_trans h.size k.size, fun b hb hn => (k.block b (Nat.lt_of_lt_of_le hb h.size) hn).trans (h.block b hb hn)⟩
theorem GrownBut.mono {S S' : Nat -> Prop} {w w' : World} (h : GrownBut S w w') (hs : ∀ b, S b -> S' b) : GrownBut S' w w' := ⟨h.os, h.tape, h.output, h.size, fun b hb hn => h.block b hb (fun x => hn (hs b x))⟩
theorem GrownBut.below {S : Nat -> Prop} {w w' : World} {B : Nat} (h : GrownBut S w w') (hB : B <= w.heap.size) (hs : ∀ b, S b -> B <= b) : Below B w w' :=
 ⟨h.os, h.tape, h.output, h.size, fun b hb => h.block b (by omega) (fun x => by have := hs b x; omega)⟩
theorem GrownBut.row {S : Nat -> Prop} {w w' : World} {k : Nat} {o : Obj} (h : GrownBut S w w') (hr : w.heap[k]? = some o) (hn : ¬ S k) : w'.heap[k]? = some o := (h.block k (row_lt hr) hn).trans hr
theorem GrownBut.owns {S : Nat -> Prop} {w w' : World} {base size k : Nat} {e : TypeId} {v : Value} {xs : List Value} (h : GrownBut S w w') (ho : w.ownsRow base e size v k xs) (hs : ∀ b, S b -> b < base) : w'.ownsRow base e size v k xs := by
 obtain ⟨h1, h2 | ⟨g, cap, cur, h2, h3, h4, h5⟩⟩ := ho
 · exact ⟨h1, .inl h2⟩
 · exact ⟨h1, .inr ⟨g, cap, cur, h2, h3, h.row h4 (fun x => by have := hs g x; omega), h5⟩⟩
theorem type_ne {w : World} {g k : Nat} {c1 c2 : Array Value} {T1 T2 : TypeId} (h1 : w.heap[g]? = some (.cells c1 T1 (0, 0))) (h2 : w.heap[k]? = some (.cells c2 T2 (0, 0))) (hT : T1 ≠ T2) : g ≠ k := by
 intro e
 rw [e, h2] at h1
 cases h1
 exact hT rfl
end Go.Proofs.YtfpegaldloadaaaGreat
