import Derived.Test.YtpfikhegmmpogaaPack2
import Derived.Test.YtpfikhegmmpogaaPack13
import Derived.Test.YtpfikhegmmpogaaSpecSched
namespace Go.Proofs.Ytpfikhegmmpogaa
open Go.RowKit

/-- Pairs as numbers, two each. -/
def flatP : List (Nat × Nat) → List Int
  | [] => []
  | p :: l => (p.1 : Int) :: (p.2 : Int) :: flatP l
theorem flatP_length : ∀ l : List (Nat × Nat), (flatP l).length = l.length * 2
  | [] => rfl
  | p :: l => by simp [flatP, flatP_length l]; omega
theorem flatP_append : ∀ (l m : List (Nat × Nat)), flatP (l ++ m) = flatP l ++ flatP m
  | [], m => rfl
  | p :: l, m => by simp [flatP, flatP_append l m]
theorem flatP_at : ∀ (l : List (Nat × Nat)) (k : Nat) (p : Nat × Nat), l[k]? = some p → (flatP l).getD (k * 2) 0 = (p.1 : Int) ∧ (flatP l).getD (k * 2 + 1) 0 = (p.2 : Int)
  | [], k, p, h => by simp at h
  | q :: l, 0, p, h => by
    simp at h
    subst h
    simp [flatP]
  | q :: l, k + 1, p, h => by
    have ih := flatP_at l k p (by simpa using h)
    have e1 : (k + 1) * 2 = k * 2 + 1 + 1 := by omega
    rw [e1]
    simpa [flatP] using ih
theorem prsTo_len (n : Nat) : ∀ i, (prsTo n i).length ≤ i * n
  | 0 => by simp [prsTo]
  | i + 1 => by
    have := prsTo_len n i
    simp only [prsTo, List.length_append, List.length_map, List.length_range]
    rw [Nat.add_mul]
    omega
theorem prsIJ_len (n i j : Nat) (hi : i ≤ 12) (hn : n ≤ 12) (hj : j ≤ 12) : (prsIJ n i j).length ≤ 200 := by
  have h := prsTo_len n i
  have h2 : i * n ≤ 12 * 12 := Nat.mul_le_mul hi hn
  simp only [prsIJ, List.length_append, List.length_map, List.length_range]
  omega
theorem prsTo_mem (n : Nat) : ∀ i, i ≤ n → ∀ p ∈ prsTo n i, p.1 < n ∧ p.2 < n
  | 0, _, p, h => by simp [prsTo] at h
  | i + 1, hi, p, h => by
    simp only [prsTo, List.mem_append, List.mem_map, List.mem_range] at h
    rcases h with h | ⟨k, hk, rfl⟩
    · exact prsTo_mem n i (by omega) p h
    · exact ⟨by show i < n; omega, by show i + 1 + k < n; omega⟩

theorem infoTurn : (Try.prog.info? 109).map (fun i => (i.zero, i.size, i.bytes)) = some (some (.agg #[Value.int IntKind.i64 0, Value.int IntKind.i64 0]), 2, 16) := by kernel_rfl
theorem append_turns (w : World) {ops : Array Oper} {rest : List Oper} {o : Oper} {a : Act} {Q : Exit → Act → World → Prop}
    (hg : o.guard = none) (s x : Operand) (hop : o.op = Op.call { callee := Callee.builtin Builtin.append, args := #[s, x], argTypes := #[182, 182] })
    (base : Nat) (v : Value) (k : Nat) (xs : List Value) (hs : a.eval s = v) (hown : w.ownsRow base 109 2 v k xs) (ad : Addr) (c : Nat) (news : List Value) (hx : a.eval x = .slice (some ad) 1 c) (hn : news.length = 2)
    (hc : ∀ j u, news[j]? = some u → w.cell? (ad.add j) = some u) (h1c : ∀ u ∈ news, u.oneCell' = true) (b1 : k ≤ 1000) (hb : base ≤ w.heap.size)
    (hK : ∀ v' w', w'.ownsRow base 109 2 v' (k + 1) (xs ++ news) → w.grownBy w' v.ownBlock → wpList Try.prog ops Q rest (a.put o.dst v') w') :
    wpList Try.prog ops Q (o :: rest) a w := by
  obtain ⟨i0, hi, hz0, hz1, hz2⟩ := info_parts infoTurn
  exact wpList_append_own w hg s x _ hop base _ i0 _ 2 16 Try.underlying182 hi hz0 hz1 hz2 rfl (by decide) v k xs hs hown ad 1 c news hx (by rw [hn]) hc h1c (by unfold maxLen; omega) (by omega) hb (fun v' w' h1 h2 _ => hK v' w' h1 h2)
theorem cells2_new (W : World) (o0 o1 : Value) (T : TypeId) (g : Nat) (hg : W.heap.size = g) : ∀ j u, [o0, o1][j]? = some u → (W.alloc (.cells #[o0, o1] T)).cell? ((⟨g, 0, none⟩ : Addr).add j) = some u := by
  intro j u hu
  subst hg
  have hadd : (⟨W.heap.size, 0, none⟩ : Addr).add j = ⟨W.heap.size, j, none⟩ := by unfold Addr.add; split <;> simp_all
  rw [hadd, cell_of_row _ _ j _ _ _ (heap_alloc_new W (.cells #[o0, o1] T))]
  simpa using hu

theorem own_turn {w : World} {base m i j : Nat} {v : Value} (hj : i + 1 ≤ j) (h : w.ownsRow base 109 2 v ((prsIJ m i j).length + 1) ((flatP (prsIJ m i j)).map (Value.int .i64) ++ [Value.int .i64 i, Value.int .i64 j])) :
    w.ownsRow base 109 2 v (prsIJ m i (j + 1)).length ((flatP (prsIJ m i (j + 1))).map (Value.int .i64)) := by
  rw [prsIJ_succ m i j hj, flatP_append, List.length_append, List.map_append]
  exact h

set_option maxHeartbeats 2000000 in
theorem turnsOf_any (veh : Int) (bi : Option Addr) (c2 m : Nat) (w : World) (h12 : m ≤ 12) :
    Calls Try.prog 104 #[.agg #[.int .i64 veh, .slice bi m c2]] w fun e w' => ∃ sl, e = .returned sl ∧ Below w.heap.size w w' ∧ w'.ownsRow w.heap.size 109 2 sl (prsTo m m).length ((flatP (prsTo m m)).map (Value.int .i64)) := by
  have B0 : Hid (Below w.heap.size w (w.alloc (.cells #[Value.int IntKind.i64 veh, Value.slice bi m c2] 34))) := (Below.refl _ _).alloc (Nat.le_refl _) _
  have R0 : Hid ((w.alloc (.cells #[Value.int IntKind.i64 veh, Value.slice bi m c2] 34)).heap[w.heap.size]? = some (.cells #[Value.int IntKind.i64 veh, Value.slice bi m c2] 34 (0, 0))) := heap_alloc_new _ _
  go_enter Try.func104, Try.ntmps104
  obtain ⟨d0, d1⟩ := cells2 R0.out
  go_wp2_with fail
  clear d0 d1
  go_loopw [3, 9] (fun tl t wr => ∃ i : Nat, i ≤ m ∧ t = .int .i64 i ∧ wr.ownsRow (w.heap.size + 1) 109 2 tl (prsTo m i).length ((flatP (prsTo m i)).map (Value.int .i64)) ∧ Below w.heap.size w wr ∧ wr.heap[w.heap.size]? = some (.cells #[Value.int IntKind.i64 veh, Value.slice bi m c2] 34 (0, 0))) (fun _ t _ => m - (intOf t).toNat)
  case atStart => exact ⟨0, Nat.zero_le _, rfl, World.ownsRow_nil _ _ _ _, B0.out, R0.out⟩
  case round =>
    clear B0 R0
    obtain ⟨i, hi, rfl, ho, hb, hr⟩ := hrel
    have O1 : Hid (wr.ownsRow (w.heap.size + 1) 109 2 _ (prsTo m i).length ((flatP (prsTo m i)).map (Value.int .i64))) := ho
    have B1 : Hid (Below w.heap.size w wr) := hb
    have R1 : Hid (wr.heap[w.heap.size]? = _) := hr
    clear ho hb hr
    by_cases hlt : i < m
    · have hlt' : (i : Int) < (m : Int) := by omega
      have hwr : IntKind.i64.wrap ((i : Int) + 1) = ((i + 1 : Nat) : Int) := by rw [IntWalk.i64_in _ (by omega)]; omega
      go_wp2_with fail
      go_loopw [3, 5] (fun tl t wr => ∃ j : Nat, i + 1 ≤ j ∧ j ≤ m ∧ t = .int .i64 j ∧ wr.ownsRow (w.heap.size + 1) 109 2 tl (prsIJ m i j).length ((flatP (prsIJ m i j)).map (Value.int .i64)) ∧ Below w.heap.size w wr ∧ wr.heap[w.heap.size]? = some (.cells #[Value.int IntKind.i64 veh, Value.slice bi m c2] 34 (0, 0))) (fun _ t _ => m - (intOf t).toNat)
      case atStart => exact ⟨i + 1, Nat.le_refl _, hlt, rfl, by rw [prsIJ_start]; exact O1.out, B1.out, R1.out⟩
      case round =>
        clear O1 B1 R1
        obtain ⟨j, hj1, hj2, rfl, ho, hb, hr⟩ := hrel
        have O1 : Hid (wr.ownsRow (w.heap.size + 1) 109 2 _ (prsIJ m i j).length ((flatP (prsIJ m i j)).map (Value.int .i64))) := ho
        have B1 : Hid (Below w.heap.size w wr) := hb
        have R1 : Hid (wr.heap[w.heap.size]? = _) := hr
        clear ho hb hr
        obtain ⟨d0, d1⟩ := cells2 R1.out
        by_cases hlj : j < m
        · have h3 : (j : Int) < (m : Int) := by omega
          have hwj : IntKind.i64.wrap ((j : Int) + 1) = ((j + 1 : Nat) : Int) := by rw [IntWalk.i64_in _ (by omega)]; omega
          have hlen : (prsIJ m i j).length ≤ 1000 := by have := prsIJ_len m i j (by omega) h12 (by omega); omega
          have HLE : Hid (w.heap.size + 1 ≤ wr.heap.size) := row_lt R1.out
          have BA : Hid (Below w.heap.size w (wr.alloc (.cells #[Value.int IntKind.i64 i, Value.int IntKind.i64 j] 109))) := B1.out.alloc B1.out.size _
          have RA : Hid ((wr.alloc (.cells #[Value.int IntKind.i64 i, Value.int IntKind.i64 j] 109)).heap[w.heap.size]? = _) := (heap_alloc_old _ _ (row_lt R1.out)).trans R1.out
          go_wp2_with (first
            | (at_builtin
               refine append_turns _ rfl _ _ rfl (w.heap.size + 1) u3 (prsIJ m i j).length _ rfl (O1.out.alloc _) _ 1 _ rfl rfl (cells2_new _ _ _ _ _ (by simp)) (by simp [Value.oneCell']) hlen (Nat.le_trans HLE.out (by simp)) ?_
               intro v' w4 hown hg
               have O4 : Hid (w4.ownsRow (w.heap.size + 1) 109 2 v' (prsIJ m i (j + 1)).length ((flatP (prsIJ m i (j + 1))).map (Value.int .i64))) := own_turn hj1 hown
               have B4 : Hid (Below w.heap.size w w4) := BA.out.grown hg BA.out.size (fun k e => by have := (O1.out.lt k e).1; omega)
               have R4 : Hid (w4.heap[w.heap.size]? = _) := (hg.block _ (row_lt RA.out) (fun e => by have := (O1.out.lt _ e.symm).1; omega)).trans RA.out
               clear hown hg))
          go_roundw
          case rel => exact ⟨j + 1, by omega, by omega, by first | rfl | go_num, O4.out, B4.out, R4.out⟩
          case measure => simp [intOf]; omega
        · have hje : j = m := by omega
          subst hje
          have h3 : ¬ ((j : Int) < (j : Int)) := by omega
          go_wp2
          go_roundw
          case rel => exact ⟨i + 1, by omega, by first | rfl | go_num, by rw [← prsIJ_end]; exact O1.out, B1.out, R1.out⟩
          case measure => simp [intOf]; omega
    · have hie : i = m := by omega
      subst hie
      go_wp2
      go_ret
      exact ⟨_, rfl, B1.out, owns_base O1.out (by omega)⟩

end Go.Proofs.Ytpfikhegmmpogaa

namespace Go.Proofs.Ytpfikhegmmpogaa
open Go.RowKit

/-- The answer's box, and the box of the best turn so far. -/
def LB (w W : World) (i j : Nat) : Prop := Below w.heap.size w W ∧ W.heap[w.heap.size]? = some (.cells #[Value.int IntKind.i64 0, Value.int IntKind.i64 0] 109 (0, 0)) ∧ W.heap[w.heap.size + 1]? = some (.cells #[Value.int IntKind.i64 i, Value.int IntKind.i64 j] 109 (0, 0))
theorem LB.below {w W W' : World} {i j : Nat} (h : LB w W i j) (hb : Below W.heap.size W W') : LB w W' i j := ⟨h.1.trans (hb.mono h.1.size), below_row hb (row_lt h.2.1) h.2.1, below_row hb (row_lt h.2.2) h.2.2⟩
theorem LB.b {w W : World} {i j : Nat} (h : LB w W i j) : Below w.heap.size w W := h.1
theorem LB.put {w W : World} {i j : Nat} (h : LB w W i j) (i' j' : Nat) : LB w ((W.setCell ⟨w.heap.size + 1, 0, none⟩ (.int .i64 i')).setCell ⟨w.heap.size + 1, 1, none⟩ (.int .i64 j')) i' j' := by
  have s1 := heap_setCell_same W (w.heap.size + 1) 0 _ _ (Value.int .i64 i') h.2.2
  have s2 := heap_setCell_same _ (w.heap.size + 1) 1 _ _ (Value.int .i64 j') s1
  exact ⟨(h.1.setCell (by simp) _).setCell (by simp) _, row_set' (row_set' h.2.1 (by omega)) (by omega), by simpa using s2⟩
theorem flat_row {W : World} {b off : Nat} {ps : List (Nat × Nat)} (h : IntsAt W (some ⟨b, off, none⟩) (flatP ps)) {k : Nat} {p : Nat × Nat} (hk : ps[k]? = some p) :
    W.cell? ⟨b, off + k * 2, none⟩ = some (.int .i64 (p.1 : Int)) ∧ W.cell? ⟨b, off + k * 2 + 1, none⟩ = some (.int .i64 (p.2 : Int)) := by
  have hlt : k < ps.length := by
    rcases Nat.lt_or_ge k ps.length with h' | h'
    · exact h'
    · rw [List.getElem?_eq_none h'] at hk; cases hk
  have hl := flatP_length ps
  have ha := flatP_at ps k p hk
  refine ⟨ints_cell h (by omega) ha.1, ?_⟩
  have := ints_cell h (j := k * 2 + 1) (by omega) ha.2
  rw [← Nat.add_assoc] at this
  exact this

set_option maxHeartbeats 2000000 in
theorem leastTurn_any (ad : Option Addr) (c pm pt : Nat) (ps : List (Nat × Nat)) (ok : Nat → Nat → Bool) (dl : Nat → Nat → Int) (w : World) (hI : IntsAt w ad (flatP ps)) (hl : ps.length ≤ 1000)
    (hcl : ∀ (W : World) (i j : Nat), Below w.heap.size w W → Calls Try.prog 128 #[.agg #[.int .i64 (i : Int), .int .i64 (j : Int)], .pointer (some ⟨pm, 0, none⟩), .pointer (some ⟨pt, 0, none⟩)] W fun e w' => e = .returned (.tuple #[.int .i64 (dl i j), .bool (ok i j && decide (dl i j < 0))]) ∧ Below W.heap.size W w')
    (hd : ∀ i j, -130000 ≤ dl i j) (s0 : BS) (hs0 : bst ok dl ps = s0) :
    Calls Try.prog 127 #[.slice ad ps.length c, .func (.func 128) #[] #[.pointer (some ⟨pm, 0, none⟩), .pointer (some ⟨pt, 0, none⟩)]] w fun e w' => e = .returned (.tuple #[.agg #[.int .i64 (s0.i : Int), .int .i64 (s0.j : Int)], .int .i64 s0.v, .bool s0.f]) ∧ Below w.heap.size w w' := by
  have HI : Hid (IntsAt w ad (flatP ps)) := hI
  have HC : Hid (∀ (W : World) (i j : Nat), Below w.heap.size w W → Calls Try.prog 128 #[.agg #[.int .i64 (i : Int), .int .i64 (j : Int)], .pointer (some ⟨pm, 0, none⟩), .pointer (some ⟨pt, 0, none⟩)] W fun e w' => e = .returned (.tuple #[.int .i64 (dl i j), .bool (ok i j && decide (dl i j < 0))]) ∧ Below W.heap.size W w') := hcl
  have HD : Hid (∀ i j, -130000 ≤ dl i j) := hd
  have HS0 : Hid (bst ok dl ps = s0) := hs0
  clear hI hcl hd hs0
  have B0 : Hid (LB w ((w.alloc (.cells #[Value.int IntKind.i64 0, Value.int IntKind.i64 0] 109)).alloc (.cells #[Value.int IntKind.i64 0, Value.int IntKind.i64 0] 109)) 0 0) := ⟨((Below.refl _ _).alloc (Nat.le_refl _) _).alloc (by simp) _, heap_alloc2_old _ _ _, heap_alloc2_new _ _ _⟩
  go_enter Try.func127, Try.ntmps127
  go_wp2_with fail
  go_loopw [8, 9, 16] (fun tv tf t wr => ∃ k : Nat, k ≤ ps.length ∧ t = .int .i64 k ∧ tv = .int .i64 (bst ok dl (ps.take k)).v ∧ tf = .bool (bst ok dl (ps.take k)).f ∧ LB w wr (bst ok dl (ps.take k)).i (bst ok dl (ps.take k)).j) (fun _ _ t _ => ps.length - (intOf t).toNat)
  case atStart => exact ⟨0, Nat.zero_le _, rfl, rfl, rfl, B0.out⟩
  case round =>
    clear B0
    obtain ⟨k, hk, rfl, rfl, rfl, hL⟩ := hrel
    by_cases hlt : k < ps.length
    · obtain ⟨p, hp⟩ : ∃ p, ps[k]? = some p := ⟨ps[k], List.getElem?_eq_getElem hlt⟩
      obtain ⟨i, j⟩ := p
      have hfl := flatP_length ps
      obtain ⟨b, off, rfl, hcs⟩ := (HI.out.below hL.1).some (j := k * 2) (by omega)
      clear hcs
      obtain ⟨f0, f1⟩ := flat_row (HI.out.below hL.1) hp
      have hn : bst ok dl (ps.take (k + 1)) = bstep ok dl (bst ok dl (ps.take k)) (i, j) := by
        rw [List.take_add_one, hp, ← bst_snoc]
        rfl
      have hv := bst_v (ok := ok) (dl := dl) (-130000) (by omega) HD.out (ps.take k)
      obtain ⟨s, HS⟩ : ∃ t, Hid (bst ok dl (ps.take k) = t) := ⟨_, rfl⟩
      rw [HS.out] at hn hv hL
      rw [HS.out]
      have HN : Hid (bst ok dl (ps.take (k + 1)) = bstep ok dl s (i, j)) := hn
      have L1 : Hid (LB w wr s.i s.j) := hL
      clear hn hL
      obtain ⟨sf, si, sj, sv⟩ := s
      simp only at hv L1 ⊢
      obtain ⟨D, HDD⟩ : ∃ t, Hid (dl i j = t) := ⟨_, rfl⟩
      obtain ⟨o, HOO⟩ : ∃ t, Hid (ok i j = t) := ⟨_, rfl⟩
      have hDb := HD.out i j
      rw [HDD.out] at hDb
      have N1 : Hid ((wr.alloc (.cells #[Value.int IntKind.i64 i, Value.int IntKind.i64 j] 109)).heap[wr.heap.size]? = some (.cells #[Value.int IntKind.i64 i, Value.int IntKind.i64 j] 109 (0, 0))) := heap_alloc_new _ _
      have L2 : Hid (LB w (wr.alloc (.cells #[Value.int IntKind.i64 i, Value.int IntKind.i64 j] 109)) si sj) := L1.out.below ((Below.refl _ _).alloc (Nat.le_refl _) _)
      have hkl : (k : Int) < (ps.length : Int) := by omega
      obtain ⟨n0, n1⟩ := cells2 N1.out
      go_wp2_with fail
      clear f0 f1 n0 n1
      refine (HC.out (wr.alloc (.cells #[Value.int IntKind.i64 i, Value.int IntKind.i64 j] 109)) i j (L1.out.b.alloc L1.out.b.size _)).mono ?_
      rintro e w2 ⟨rfl, hb⟩
      rw [HDD.out, HOO.out]
      have L3 : Hid (LB w w2 si sj) := L2.out.below hb
      have N3 : Hid (w2.heap[wr.heap.size]? = _) := below_row hb (row_lt N1.out) N1.out
      clear hb N1 L2
      have hwk : IntKind.i64.wrap ((k : Int) + 1) = ((k + 1 : Nat) : Int) := by rw [IntWalk.i64_in _ (by omega)]; omega
      obtain ⟨n0, n1⟩ := cells2 N3.out
      obtain ⟨q0, q1⟩ := cells2 L3.out.2.2
      have qf := fun i => frozen_of_row _ _ i _ _ L3.out.2.2
      have same : (o && decide (D < 0)) = false ∨ (o && decide (D < 0)) = true := by cases (o && decide (D < 0)) <;> simp
      rcases same with hsm | hsm
      · have HNS : Hid (bst ok dl (ps.take (k + 1)) = ⟨sf, si, sj, sv⟩) := by
          show bst ok dl (ps.take (k + 1)) = _
          rw [HN.out]
          cases ho : o
          · exact bstep_no1 (by rw [HOO.out, ho])
          · rw [ho] at hsm
            have hD0 : ¬ D < 0 := by simpa using hsm
            exact bstep_no2 (by rw [HDD.out]; show ¬ D < sv; omega)
        rw [hsm]
        clear hsm
        go_wp2
        go_roundw
        case rel => exact ⟨k + 1, by omega, by first | rfl | go_num, by rw [HNS.out], by rw [HNS.out], by rw [HNS.out]; exact L3.out⟩
        case measure => simp [intOf]; omega
      · have ho : o = true := by cases o <;> simp at hsm ⊢
        have hD0 : D < 0 := by rw [ho] at hsm; simpa using hsm
        have upd : D < sv → Hid (bst ok dl (ps.take (k + 1)) = ⟨true, i, j, D⟩) := fun h => by
          show bst ok dl (ps.take (k + 1)) = _
          rw [HN.out, ← HDD.out]
          exact bstep_yes (by rw [HOO.out, ho]) (by rw [HDD.out]; exact h)
        rw [hsm]
        clear hsm
        have L4 : Hid (LB w _ i j) := L3.out.put i j
        cases sf
        · have h0 : sv = 0 := hv.2.2.1 rfl
          have HNS := upd (by omega)
          clear upd
          go_wp2
          go_roundw
          case rel => exact ⟨k + 1, by omega, by first | rfl | go_num, by rw [HNS.out], by rw [HNS.out], by rw [HNS.out]; exact L4.out⟩
          case measure => simp [intOf]; omega
        · by_cases hdv : D < sv
          · have HNS := upd hdv
            clear upd
            go_wp2
            go_roundw
            case rel => exact ⟨k + 1, by omega, by first | rfl | go_num, by rw [HNS.out], by rw [HNS.out], by rw [HNS.out]; exact L4.out⟩
            case measure => simp [intOf]; omega
          · have HNS : Hid (bst ok dl (ps.take (k + 1)) = ⟨true, si, sj, sv⟩) := by
              show bst ok dl (ps.take (k + 1)) = _
              rw [HN.out]
              exact bstep_no2 (by rw [HDD.out]; exact hdv)
            clear upd
            go_wp2
            go_roundw
            case rel => exact ⟨k + 1, by omega, by first | rfl | go_num, by rw [HNS.out], by rw [HNS.out], by rw [HNS.out]; exact L3.out⟩
            case measure => simp [intOf]; omega
    · have hke : k = ps.length := by omega
      subst hke
      have he : bst ok dl (ps.take ps.length) = s0 := by rw [List.take_length]; exact HS0.out
      rw [he] at hL
      rw [he]
      have L1 : Hid (LB w wr s0.i s0.j) := hL
      clear hL he
      obtain ⟨sf, si, sj, sv⟩ := s0
      simp only at L1 ⊢
      have h3 : ¬ ((ps.length : Int) < (ps.length : Int)) := by omega
      obtain ⟨t0, t1⟩ := cells2 L1.out.2.1
      have tf := fun i => frozen_of_row _ _ i _ _ L1.out.2.1
      obtain ⟨q0, q1⟩ := cells2 L1.out.2.2
      go_wp2
      refine bodyPost_ret (v := .tuple #[.agg #[.int .i64 si, .int .i64 sj], .int .i64 sv, .bool sf]) (by simp [results, Try.results127, go_sem, t0, t1]) rfl ⟨rfl, ?_⟩
      repeat (first | with_reducible exact L1.out.b | refine Below.setCell ?_ (by simp <;> omega) _)

end Go.Proofs.Ytpfikhegmmpogaa
