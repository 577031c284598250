import Derived.Test.YtpfikhegmmpogaaPack0
import Derived.Test.YtpfikhegmmpogaaPack1
import Derived.Test.YtpfikhegmmpogaaPack2
import Derived.Test.YtpfikhegmmpogaaSpecSched
namespace Go.Proofs.Ytpfikhegmmpogaa
open Go.RowKit

/-- What rowsOf holds while it grows its rows. -/
def GB (w : World) (c b : Nat) (sl : Value) (rows : List (List Nat)) : Prop :=
  w.heap[b]? = some (.cells #[.int .i64 c] 2 (0, 0)) ∧ w.heap[b + 1]? = some (.cells #[sl] 88 (0, 0)) ∧
  w.heap[b + 2]? = some (.cells #[.func (.func 97) #[] #[.pointer (some ⟨b, 0, none⟩), .pointer (some ⟨b + 1, 0, none⟩), .pointer (some ⟨b + 2, 0, none⟩)]] 153 (0, 0)) ∧
  w.ownsRow (b + 3) 84 6 sl rows.length ((flatR rows).map (Value.int .i64))
theorem GB.o {w : World} {c b : Nat} {sl : Value} {rows : List (List Nat)} (h : GB w c b sl rows) : w.ownsRow (b + 3) 84 6 sl rows.length ((flatR rows).map (Value.int .i64)) := h.2.2.2
theorem GB.size {w : World} {c b : Nat} {sl : Value} {rows : List (List Nat)} (h : GB w c b sl rows) : b + 3 ≤ w.heap.size := row_lt h.2.2.1
theorem GB.alloc {w : World} {c b : Nat} {sl : Value} {rows : List (List Nat)} (h : GB w c b sl rows) (o : Obj) : GB (w.alloc o) c b sl rows :=
  ⟨(heap_alloc_old _ _ (row_lt h.1)).trans h.1, (heap_alloc_old _ _ (row_lt h.2.1)).trans h.2.1, (heap_alloc_old _ _ (row_lt h.2.2.1)).trans h.2.2.1, h.o.alloc o⟩
theorem GB.cells {w : World} {c b : Nat} {sl : Value} {rows : List (List Nat)} (h : GB w c b sl rows) : w.cell? ⟨b, 0, none⟩ = some (.int .i64 c) ∧ w.cell? ⟨b + 1, 0, none⟩ = some sl ∧
    w.cell? ⟨b + 2, 0, none⟩ = some (.func (.func 97) #[] #[.pointer (some ⟨b, 0, none⟩), .pointer (some ⟨b + 1, 0, none⟩), .pointer (some ⟨b + 2, 0, none⟩)]) := by
  refine ⟨?_, ?_, ?_⟩
  · rw [cell_of_row _ _ 0 _ _ _ h.1]; simp
  · rw [cell_of_row _ _ 0 _ _ _ h.2.1]; simp
  · rw [cell_of_row _ _ 0 _ _ _ h.2.2.1]; simp
theorem GB.set {w : World} {c b g i : Nat} {sl u : Value} {rows : List (List Nat)} (h : GB w c b sl rows) (hg : b + 3 ≤ g) (hne : some g ≠ sl.ownBlock) : GB (w.setCell ⟨g, i, none⟩ u) c b sl rows := by
  refine ⟨?_, ?_, ?_, ?_⟩
  · rw [heap_setCell_other _ _ _ _ (by simp; omega)]; exact h.1
  · rw [heap_setCell_other _ _ _ _ (by simp; omega)]; exact h.2.1
  · rw [heap_setCell_other _ _ _ _ (by simp; omega)]; exact h.2.2.1
  · exact ownsRow_setCell_other h.o (fun e => hne e.symm) u

/-- What is kept: all below b, and of what else was there all but the rows. -/
def RF (w w' : World) (b : Nat) (sl sl' : Value) : Prop := Below b w w' ∧ w.heap.size ≤ w'.heap.size ∧ ∀ g o, b + 3 ≤ g → w.heap[g]? = some o → some g ≠ sl.ownBlock → w'.heap[g]? = some o ∧ some g ≠ sl'.ownBlock
theorem RF.refl (w : World) (b : Nat) (sl : Value) : RF w w b sl sl := ⟨Below.refl _ _, Nat.le_refl _, fun _ _ _ h hn => ⟨h, hn⟩⟩
theorem RF.trans {w w1 w2 : World} {b : Nat} {s s1 s2 : Value} (h : RF w w1 b s s1) (h2 : RF w1 w2 b s1 s2) : RF w w2 b s s2 :=
  ⟨h.1.trans h2.1, Nat.le_trans h.2.1 h2.2.1, fun g o hg ho hn => by
    obtain ⟨a1, a2⟩ := h.2.2 g o hg ho hn
    exact h2.2.2 g o hg a1 a2⟩
theorem RF.alloc (w : World) (b : Nat) (sl : Value) (o : Obj) (hb : b ≤ w.heap.size) : RF w (w.alloc o) b sl sl :=
  ⟨(Below.refl _ _).alloc hb _, by simp, fun g _ _ ho hn => ⟨(heap_alloc_old _ _ (row_lt ho)).trans ho, hn⟩⟩

theorem infoRow : (Try.prog.info? 84).map (fun i => (i.zero, i.size, i.bytes)) = some (some (.agg #[Value.int IntKind.i64 0, Value.int IntKind.i64 0, Value.int IntKind.i64 0, Value.int IntKind.i64 0, Value.int IntKind.i64 0, Value.int IntKind.i64 0]), 6, 48) := by kernel_rfl
theorem infoRow2 : (Try.prog.info? 84).map (·.size) = some 6 := by kernel_rfl
theorem sizeRow_of {l : List Int} (h : l.length = 6) : (Try.prog.info? 84).map (·.size) = some (cellsOf l).size := by
  rw [cellsOf_size, h]; exact infoRow2

/-- 'append' of a row to the rows. -/
theorem append_row (w : World) {ops : Array Oper} {rest : List Oper} {o : Oper} {a : Act} {Q : Exit → Act → World → Prop}
    (hg : o.guard = none) (s x : Operand) (hop : o.op = Op.call { callee := Callee.builtin Builtin.append, args := #[s, x], argTypes := #[88, 88] })
    (base : Nat) (v : Value) (k : Nat) (xs : List Value) (hs : a.eval s = v) (hown : w.ownsRow base 84 6 v k xs) (ad : Addr) (c : Nat) (news : List Value) (hx : a.eval x = .slice (some ad) 1 c) (hn : news.length = 6)
    (hc : ∀ j u, news[j]? = some u → w.cell? (ad.add j) = some u) (h1c : ∀ u ∈ news, u.oneCell' = true) (b1 : k ≤ 1000) (hb : base ≤ w.heap.size)
    (hK : ∀ v' w', w'.ownsRow base 84 6 v' (k + 1) (xs ++ news) → w.grownBy w' v.ownBlock → (v'.ownBlock = v.ownBlock ∨ v'.ownBlock = some w.heap.size) → wpList Try.prog ops Q rest (a.put o.dst v') w') :
    wpList Try.prog ops Q (o :: rest) a w := by
  obtain ⟨i0, hi, hz0, hz1, hz2⟩ := info_parts infoRow
  obtain ⟨v', w', hrun, r1, r2, _⟩ := run_append_own (P := Try.prog) w base 88 o.type _ i0 _ 6 48 Try.underlying88 hi hz0 hz1 hz2 rfl (by decide) v k xs hown ad 1 c news (by rw [hn]) hc h1c (by unfold maxLen; omega) (by omega) hb
  have r4 := append_block (P := Try.prog) w base 88 o.type _ i0 _ 6 48 Try.underlying88 hi hz0 hz1 hz2 v k xs hown ad 1 c news (by rw [hn]) hc h1c (by unfold maxLen; omega) (by omega) hrun
  exact wpList_run v' hg (exec_append' s x _ v _ hop hs hx hrun) (hK v' w' r1 r2 r4)
theorem cells6_here (W : World) (o0 o1 o2 o3 o4 o5 : Value) (T : TypeId) (g : Nat) (hg : W.heap.size = g) : ∀ j u, [o0, o1, o2, o3, o4, o5][j]? = some u → (W.alloc (.cells #[o0, o1, o2, o3, o4, o5] T)).cell? ((⟨g, 0, none⟩ : Addr).add j) = some u := by
  intro j u hu
  subst hg
  have hadd : (⟨W.heap.size, 0, none⟩ : Addr).add j = ⟨W.heap.size, j, none⟩ := by unfold Addr.add; split <;> simp_all
  rw [hadd, cell_of_row _ _ j _ _ _ (heap_alloc_new W (.cells #[o0, o1, o2, o3, o4, o5] T))]
  simpa using hu
theorem list6 {l : List Int} (h : l.length = 6) : ∃ c0 c1 c2 c3 c4 c5, l = [c0, c1, c2, c3, c4, c5] := by
  match l, h with
  | [c0, c1, c2, c3, c4, c5], _ => exact ⟨c0, c1, c2, c3, c4, c5, rfl⟩

theorem GB.box {wB w4 : World} {c b : Nat} {sl : Value} {rows : List (List Nat)} (h : GB wB c b sl rows) (hg : wB.grownBy w4 sl.ownBlock) : w4.cell? ⟨b + 1, 0, none⟩ = some sl ∧ w4.frozen? ⟨b + 1, 0, none⟩ = false := by
  have r1 := (hg.block _ (row_lt h.2.1) (fun e => by have := (h.o.lt _ e.symm).1; omega)).trans h.2.1
  exact ⟨by rw [cell_of_row _ _ 0 _ _ _ r1]; simp, frozen_of_row _ _ 0 _ _ r1⟩
/-- A row more, and where it lies written down. -/
theorem GB.more {w wB w4 : World} {c b : Nat} {sl v' : Value} {rows : List (List Nat)} {pre : List Nat} (h : GB wB c b sl rows) (hw : RF w wB b sl sl) (hown : w4.ownsRow (b + 3) 84 6 v' (rows.length + 1) ((flatR rows).map (Value.int .i64) ++ (padL pre).map (Value.int .i64))) (hg : wB.grownBy w4 sl.ownBlock) (hbk : v'.ownBlock = sl.ownBlock ∨ v'.ownBlock = some wB.heap.size) :
    GB (w4.setCell ⟨b + 1, 0, none⟩ v') c b v' (rows ++ [pre]) ∧ RF w (w4.setCell ⟨b + 1, 0, none⟩ v') b sl v' := by
  have hne : ∀ g, g < b + 3 → some g ≠ sl.ownBlock := fun g hg e => by have := (h.o.lt g e.symm).1; omega
  have r0 := (hg.block _ (row_lt h.1) (hne _ (by omega))).trans h.1
  have r1 := (hg.block _ (row_lt h.2.1) (hne _ (by omega))).trans h.2.1
  have r2 := (hg.block _ (row_lt h.2.2.1) (hne _ (by omega))).trans h.2.2.1
  refine ⟨⟨?_, ?_, ?_, ?_⟩, ?_, ?_, ?_⟩
  · rw [heap_setCell_other _ _ _ _ (by simp)]; exact r0
  · rw [heap_setCell_same _ _ _ _ _ _ r1]; rfl
  · rw [heap_setCell_other _ _ _ _ (by simp)]; exact r2
  · rw [List.length_append, flatR_append, flatR_one, List.map_append]
    exact ownsRow_setCell_below hown (by simp) v'
  · have hA := hw.1.trans (((Below.refl b wB).grown hg (by have := h.size; omega) (fun k e => by have := (h.o.lt k e).1; omega)))
    exact hA.setCell (by simp) _
  · have := hw.2.1
    have := hg.size
    simp [World.setCell]
    omega
  · intro g o hgb ho hn
    obtain ⟨a1, a2⟩ := hw.2.2 g o hgb ho hn
    have a3 := (hg.block g (row_lt a1) a2).trans a1
    refine ⟨by rw [heap_setCell_other _ _ _ _ (by simp; omega)]; exact a3, ?_⟩
    rcases hbk with e | e
    · rw [e]; exact a2
    · rw [e]
      have := row_lt a1
      intro e2
      injection e2 with e2
      omega

set_option maxHeartbeats 1000000 in
theorem grow_zero (c : Nat) (b : Nat) (pre : List Nat) (sl : Value) (rows : List (List Nat)) (w : World) (hp : pre.length = c) (hk : rows.length ≤ 720) (hG : GB w c b sl rows) :
    Calls Try.prog 97 #[.agg (cellsOf (padL pre)), .int .i64 (pre.length : Nat), .pointer (some ⟨b, 0, none⟩), .pointer (some ⟨b + 1, 0, none⟩), .pointer (some ⟨b + 2, 0, none⟩)] w fun e w' => e = .returned (.tuple #[]) ∧ ∃ sl', GB w' c b sl' (rows ++ [pre]) ∧ RF w w' b sl sl' := by
  obtain ⟨c0, c1, c2, c3, c4, c5, hpl⟩ := list6 (padL_length pre)
  have HPL : Hid (padL pre = [c0, c1, c2, c3, c4, c5]) := hpl
  rw [hpl, hp]
  clear hpl
  have hcl : cellsOf [c0, c1, c2, c3, c4, c5] = #[.int .i64 c0, .int .i64 c1, .int .i64 c2, .int .i64 c3, .int .i64 c4, .int .i64 c5] := rfl
  rw [hcl]
  clear hcl
  have hcc : ((c : Int) == (c : Int)) = true := by simp
  have HG1 : Hid (GB (w.alloc (.cells #[.int .i64 c0, .int .i64 c1, .int .i64 c2, .int .i64 c3, .int .i64 c4, .int .i64 c5] 84)) c b sl rows) := hG.alloc _
  have HRF : Hid (RF w ((w.alloc (.cells #[.int .i64 c0, .int .i64 c1, .int .i64 c2, .int .i64 c3, .int .i64 c4, .int .i64 c5] 84)).alloc (.cells #[.int .i64 c0, .int .i64 c1, .int .i64 c2, .int .i64 c3, .int .i64 c4, .int .i64 c5] 84)) b sl sl) :=
    (RF.alloc w b sl _ (by have := hG.size; omega)).trans (RF.alloc _ b sl _ (by have := hG.size; simp; omega))
  obtain ⟨d0, d1, d2⟩ := HG1.out.cells
  have hsz := HG1.out.size
  have fz := frozen_of_row _ _ 0 _ _ HG1.out.2.1
  have HSZ : Hid _ := hsz
  clear hsz
  go_enter Try.func97, Try.ntmps97
  go_wp2_with (first
    | (at_builtin
       refine append_row _ rfl _ _ rfl (b + 3) sl rows.length _ rfl (HG1.out.alloc _).o _ _ [.int .i64 c0, .int .i64 c1, .int .i64 c2, .int .i64 c3, .int .i64 c4, .int .i64 c5] rfl rfl (cells6_here _ _ _ _ _ _ _ _ _ (by simp)) (by simp [Value.oneCell']) (by omega) (Nat.le_trans HSZ.out (by simp)) ?_
       intro v' w4 hown hg hbk
       have HM : Hid (GB (w4.setCell ⟨b + 1, 0, none⟩ v') c b v' (rows ++ [pre]) ∧ RF w (w4.setCell ⟨b + 1, 0, none⟩ v') b sl v') := GB.more (HG1.out.alloc _) HRF.out (by rw [HPL.out]; exact hown) hg hbk
       obtain ⟨e1, e2⟩ := (HG1.out.alloc _).box hg
       obtain ⟨g', cg, rfl, _⟩ := own_some hown
       clear hown hg hbk))
  refine bodyPost_ret (results_none rfl _ _ _) rfl ?_
  exact ⟨rfl, _, HM.out.1, HM.out.2⟩

theorem arrRow : Try.prog.arrayLen 84 = 6 := by kernel_rfl
theorem elRow : (Try.prog.info? (Try.prog.elem 84)).map (·.size) = some 1 := by kernel_rfl
theorem undRow : Try.prog.underlying 84 = some (.array (Try.prog.arrayLen 84) (Try.prog.elem 84)) := by kernel_rfl
theorem slice_row (W : World) (g l : Nat) (h : l ≤ 6) : (Instr.sliceAt 84 (.pointer (some ⟨g, 0, none⟩)) none (some (.int .i64 l)) none).run Try.prog W = .ok (.slice (some ⟨g, 0, none⟩) l 6) W := by
  rw [run_sliceAt_array_h W _ _ undRow .i64 (l : Int) (by omega) (by rw [arrRow]; omega), arrRow]
  have h1 := elRow
  cases hq : Try.prog.info? (Try.prog.elem 84) with
  | none => simp [hq] at h1
  | some i => simp [sizeOf, typeInfo, hq, slicedAt, Addr.add]

/-- The box of the row that is begun. -/
def BX (w : World) (g : Nat) (pre : List Nat) (x : Int) : Prop := w.heap[g]? = some (.cells (cellsOf ((padL pre).set pre.length x)) 84 (0, 0))

/-- What a call with d places to come does. -/
def GrowOk (c b d : Nat) : Prop := ∀ (pre : List Nat) (sl : Value) (rows : List (List Nat)) (w : World), pre.length + d = c → (av c pre).length = d → rows.length + facN d ≤ 720 → GB w c b sl rows →
      Calls Try.prog 97 #[.agg (cellsOf (padL pre)), .int .i64 (pre.length : Nat), .pointer (some ⟨b, 0, none⟩), .pointer (some ⟨b + 1, 0, none⟩), .pointer (some ⟨b + 2, 0, none⟩)] w fun e w' => e = .returned (.tuple #[]) ∧ ∃ sl', GB w' c b sl' (rows ++ gen c d pre) ∧ RF w w' b sl sl'

set_option maxHeartbeats 2000000 in
theorem grow_succ (c : Nat) (hc6 : c ≤ 6) (b d : Nat) (ih : GrowOk c b d) (pre : List Nat) (sl : Value) (rows : List (List Nat)) (w : World) (hp : pre.length + (d + 1) = c) (hav : (av c pre).length = d + 1) (hk : rows.length + facN (d + 1) ≤ 720) (hG : GB w c b sl rows) :
    Calls Try.prog 97 #[.agg (cellsOf (padL pre)), .int .i64 (pre.length : Nat), .pointer (some ⟨b, 0, none⟩), .pointer (some ⟨b + 1, 0, none⟩), .pointer (some ⟨b + 2, 0, none⟩)] w fun e w' => e = .returned (.tuple #[]) ∧ ∃ sl', GB w' c b sl' (rows ++ gen c (d + 1) pre) ∧ RF w w' b sl sl' := by
    have HIH : Hid (GrowOk c b d) := ih
    clear ih
    have HAV : Hid ((av c pre).length = d + 1) := hav
    have HK : Hid (rows.length + facN (d + 1) ≤ 720) := hk
    have HP : Hid (pre.length + (d + 1) = c) := hp
    have HG0 : Hid (GB w c b sl rows) := hG
    have hsz0 := hG.size
    have hpl : pre.length < c := by omega
    have hpl6 : pre.length < 6 := by omega
    obtain ⟨gr, HGR⟩ : ∃ gr, Hid (cellsOf (padL pre) = gr) := ⟨_, rfl⟩
    rw [HGR.out]
    have HG1 : Hid (GB (w.alloc (.cells gr 84)) c b sl rows) := hG.alloc _
    have HB1 : Hid (BX (w.alloc (.cells gr 84)) w.heap.size pre 0) := by
      show _ = _
      rw [padL_set0, HGR.out]; exact heap_alloc_new _ _
    have HR1 : Hid (RF w (w.alloc (.cells gr 84)) b sl sl) := RF.alloc w b sl _ (by omega)
    have HN1 : Hid (some w.heap.size ≠ sl.ownBlock) := fun e => by have := (hG.o.lt _ e.symm).2; omega
    obtain ⟨l, HL⟩ : ∃ l, Hid (pre.length = l) := ⟨_, rfl⟩
    rw [HL.out] at hpl hpl6 ⊢
    have hne : ((l : Int) == (c : Int)) = false := by rw [beq_eq_false_iff_ne]; omega
    obtain ⟨d0, d1, d2⟩ := HG1.out.cells
    clear hp hav hk hG hsz0
    go_enter Try.func97, Try.ntmps97
    go_wp2_with fail
    clear hne d0 d1 d2
    go_loopw [16] (fun t wr => ∃ (q : Nat) (x : Int) (sl1 : Value), q ≤ c ∧ t = .int .i64 q ∧ GB wr c b sl1 (rows ++ genTo c d pre q) ∧ BX wr w.heap.size pre x ∧ RF w wr b sl sl1 ∧ some w.heap.size ≠ sl1.ownBlock) (fun t _ => c - (intOf t).toNat)
    case atStart => exact ⟨0, 0, sl, Nat.zero_le _, rfl, by rw [genTo_zero, List.append_nil]; exact HG1.out, HB1.out, HR1.out, HN1.out⟩
    case round =>
      clear HG1 HB1 HR1 HN1
      obtain ⟨q, x, sl1, hq, rfl, hG, hB, hR, hN⟩ := hrel
      have G1 : Hid (GB wr c b sl1 (rows ++ genTo c d pre q)) := hG
      have B1 : Hid (BX wr w.heap.size pre x) := hB
      have R1 : Hid (RF w wr b sl sl1) := hR
      have N1 : Hid (some w.heap.size ≠ sl1.ownBlock) := hN
      have hsz : b + 3 ≤ w.heap.size := HG0.out.size
      clear hG hB hR hN
      by_cases hlt : q < c
      · have HIN : Hid (IntsAt wr (some ⟨w.heap.size, 0, none⟩) ((padL pre).set pre.length x)) := IntsAt.of_row B1.out
        have HHAS : Hid (hasTo ((padL pre).set pre.length x) l (q : Int) = decide (q ∈ pre)) := by
          show _ = _
          rw [← HL.out]; exact pad_has pre q x (by rw [HL.out]; exact hpl6)
        have HLL : Hid (((padL pre).set pre.length x).length = 6) := by show _ = _; rw [List.length_set, padL_length]
        have hll : l ≤ 6 := by omega
        have hl9 : l ≤ 9223372036854775807 := by omega
        have hsl := fun W => slice_row W w.heap.size l hll
        by_cases hm : q ∈ pre
        · have HH : Hid (hasTo ((padL pre).set pre.length x) l (q : Int) = true) := by show _ = _; rw [HHAS.out]; simp [hm]
          have HG : Hid (GB wr c b sl1 (rows ++ genTo c d pre (q + 1))) := by have := G1.out; rwa [← genTo_in hm] at this
          clear hm HHAS G1
          go_wp2_with (go_at_call 98; refine (contains_any _ l _ _ _ _ HIN.out (by rw [HLL.out]; exact hll) hl9).mono ?_; rintro e w' ⟨rfl, hw'⟩; subst w'; rw [HH.out])
          refine ⟨⟨q + 1, x, sl1, by omega, by go_num, HG.out, B1.out, R1.out, N1.out⟩, by simp [intOf]; omega⟩
        · have HH : Hid (hasTo ((padL pre).set pre.length x) l (q : Int) = false) := by show _ = _; rw [HHAS.out]; simp [hm]
          have HM : Hid (q ∉ pre) := hm
          clear hm HHAS
          have cx := cell_of_row _ _ l _ _ _ B1.out
          rw [cellsOf_get _ _ (by rw [HLL.out]; omega)] at cx
          have fx := frozen_of_row _ _ l _ _ B1.out
          obtain ⟨cv, HCV⟩ : ∃ v, Hid (((padL pre).set pre.length x).getD l 0 = v) := ⟨_, rfl⟩
          rw [HCV.out] at cx
          have GS : Hid (GB (wr.setCell ⟨w.heap.size, l, none⟩ (.int .i64 q)) c b sl1 (rows ++ genTo c d pre q)) := G1.out.set hsz N1.out
          have BS : Hid ((wr.setCell ⟨w.heap.size, l, none⟩ (.int .i64 q)).heap[w.heap.size]? = some (.cells (cellsOf (padL (pre ++ [q]))) 84 (0, 0))) := by
            show _ = _
            rw [heap_setCell_same _ _ _ _ _ _ B1.out, cellsOf_set, ← HL.out, padL_set]
          have BX2 : Hid (BX (wr.setCell ⟨w.heap.size, l, none⟩ (.int .i64 q)) w.heap.size pre q) := by
            show _ = _
            rw [BS.out, ← padL_set pre q x, List.set_set]
          have RS : Hid (RF w (wr.setCell ⟨w.heap.size, l, none⟩ (.int .i64 q)) b sl sl1) := by
            refine ⟨R1.out.1.setCell (by simp; omega) _, by have := R1.out.2.1; simpa [World.setCell] using this, fun g o hg ho hn => ?_⟩
            obtain ⟨a1, a2⟩ := R1.out.2.2 g o hg ho hn
            refine ⟨?_, a2⟩
            rw [heap_setCell_other _ _ _ _ (by have := row_lt ho; simp; omega)]
            exact a1
          have HK2 : Hid ((rows ++ genTo c d pre q).length + facN d ≤ 720) := by
            have h1 := genTo_length_le HAV.out (q + 1) (by omega)
            rw [genTo_out HM.out, List.length_append, (gen_all c d (pre ++ [q]) (av_len hlt HM.out HAV.out)).1] at h1
            have := HK.out
            show _ ≤ _
            rw [List.length_append]
            omega
          have HC : Hid (∀ w1, GB w1 c b sl1 (rows ++ genTo c d pre q) → Calls Try.prog 97 #[.agg (cellsOf (padL (pre ++ [q]))), .int .i64 ((l : Int) + 1), .pointer (some ⟨b, 0, none⟩), .pointer (some ⟨b + 1, 0, none⟩), .pointer (some ⟨b + 2, 0, none⟩)] w1 fun e w' => e = .returned (.tuple #[]) ∧ ∃ sl', GB w' c b sl' (rows ++ genTo c d pre (q + 1)) ∧ RF w1 w' b sl1 sl') := by
            intro w1 hg1
            have := HIH.out (pre ++ [q]) sl1 (rows ++ genTo c d pre q) w1 (by have := HP.out; rw [List.length_append, List.length_singleton]; omega) (av_len hlt HM.out HAV.out) HK2.out hg1
            rw [List.append_assoc, ← genTo_out HM.out, List.length_append, HL.out, List.length_singleton, Int.natCast_add] at this
            exact this
          clear HK2 HCV
          obtain ⟨g2, HG2⟩ : ∃ gr, Hid (cellsOf (padL (pre ++ [q])) = gr) := ⟨_, rfl⟩
          have HS2 : Hid ((Try.prog.info? 84).map (·.size) = some g2.size) := by show _ = _; rw [← HG2.out]; exact sizeRow_of (padL_length _)
          rw [HG2.out] at HC BS
          obtain ⟨d0, d1, d2⟩ := GS.out.cells
          go_wp2_with (first
            | (go_at_call 98; refine (contains_any _ l _ _ _ _ HIN.out (by rw [HLL.out]; exact hll) hl9).mono ?_; rintro e w' ⟨rfl, hw'⟩; subst w'; rw [HH.out])
            | (with_reducible refine wpList_load_row ?_ 84 (.tmp 5) ?_ (w.heap.size) ?_ 84 g2 (0, 0) _ ?_ Try.underlying84 ?_ ?_ ?_
               · rfl
               · rfl
               · rfl
               · exact BS.out
               · rfl
               · exact HS2.out)
            | (go_at_call 97; refine (HC.out _ GS.out).mono ?_; rintro e w5 ⟨rfl, sl2, hg5, hr5⟩; have G5 : Hid (GB w5 c b sl2 (rows ++ genTo c d pre (q + 1))) := hg5; have R5 : Hid (RF (wr.setCell ⟨w.heap.size, l, none⟩ (.int .i64 q)) w5 b sl1 sl2) := hr5; clear hg5 hr5))
          have hbx := R5.out.2.2 w.heap.size _ hsz BX2.out N1.out
          refine ⟨⟨q + 1, q, sl2, by omega, by go_num, G5.out, hbx.1, RS.out.trans R5.out, hbx.2⟩, by simp [intOf]; omega⟩
      · have hqc : q = c := by omega
        have HG : Hid (GB wr c b sl1 (rows ++ gen c (d + 1) pre)) := by have := G1.out; rwa [hqc, genTo_all] at this
        clear hqc G1
        go_wp2
        first
          | refine bodyPost_end (results_none rfl _ _ _) rfl ?_
          | refine bodyPost_ret (results_none rfl _ _ _) rfl ?_
        exact ⟨rfl, sl1, HG.out, R1.out⟩

theorem grow_any (c : Nat) (hc6 : c ≤ 6) (b : Nat) : ∀ d, GrowOk c b d := by
  intro d
  induction d with
  | zero => exact fun pre sl rows w hp _ hk hG => grow_zero c b pre sl rows w hp (by omega) hG
  | succ d ih => exact fun pre sl rows w hp hav hk hG => grow_succ c hc6 b d ih pre sl rows w hp hav hk hG

end Go.Proofs.Ytpfikhegmmpogaa

namespace Go.Proofs.Ytpfikhegmmpogaa
open Go.RowKit

def lenOfV : Value → Nat
  | .slice _ n _ => n
  | _ => 0
theorem erase_parts (l : List Int) (k : Nat) : l.take k ++ l.drop (k + 1) = l.eraseIdx k := (List.eraseIdx_eq_take_drop_succ l k).symm

/-- The world inside Permuted: what is left, and the answer that grows. -/
structure PW (w W : World) (B : Nat) (lv ov : Value) (L O : List Int) : Prop where
  b : Below w.heap.size w W
  hB : w.heap.size ≤ B ∧ B ≤ W.heap.size
  l : W.ownsRow B 2 1 lv L.length (L.map (Value.int .i64))
  o : W.ownsRow B 2 1 ov O.length (O.map (Value.int .i64))
  ne : lv.ownBlock ≠ ov.ownBlock
  sl : ∃ g c, lv = .slice (some ⟨g, 0, none⟩) L.length c
  so : ∃ g c, ov = .slice (some ⟨g, 0, none⟩) O.length c

/-- With the row that is begun between. -/
structure PM (w W : World) (B : Nat) (lv ov mv : Value) (L O M : List Int) : Prop where
  b : Below w.heap.size w W
  hB : w.heap.size ≤ B ∧ B ≤ W.heap.size
  l : W.ownsRow B 2 1 lv L.length (L.map (Value.int .i64))
  o : W.ownsRow B 2 1 ov O.length (O.map (Value.int .i64))
  m : W.ownsRow B 2 1 mv M.length (M.map (Value.int .i64))
  mo : mv.ownBlock ≠ ov.ownBlock
  sm : mv ≠ .slice none 0 0
  so : ∃ g c, ov = .slice (some ⟨g, 0, none⟩) O.length c

theorem PW.put {w W w4 : World} {B : Nat} {lv ov ov' : Value} {L O : List Int} {x : Int} {o : Obj} (h : PW w W B lv ov L O) (hown : w4.ownsRow B 2 1 ov' (O.length + 1) ((O ++ [x]).map (Value.int .i64))) (hg : (W.alloc o).grownBy w4 ov.ownBlock) (hbk : ov'.ownBlock = ov.ownBlock ∨ ov'.ownBlock = some (W.alloc o).heap.size) (hn : ov' = .slice none 0 0 ↔ ov = .slice none 0 0 ∧ 1 = 0) : PW w w4 B lv ov' L (O ++ [x]) := by
  have hA : Below w.heap.size w (W.alloc o) := h.b.alloc h.b.size _
  have hlt : ∀ g, lv.ownBlock = some g → g < W.heap.size := fun g e => (h.l.lt g e).2
  refine ⟨hA.grown hg hA.size (fun k e => by have := (h.o.lt k e).1; have := h.hB.1; omega), ⟨h.hB.1, Nat.le_trans h.hB.2 (Nat.le_trans (by simp) hg.size)⟩, (h.l.alloc o).kept hg (.inr h.ne), ?_, ?_, h.sl, ?_⟩
  · rw [List.length_append]; exact hown
  · rcases hbk with e | e
    · rw [e]; exact h.ne
    · rw [e]
      intro e2
      have := hlt _ e2
      simp at this
      omega
  · rw [List.length_append]
    obtain ⟨g, c, e⟩ := h.so
    exact own_sm hown (not_nil hn ⟨g, _, c, e⟩)
theorem PW.begin {w W w5 : World} {B k : Nat} {lv ov mv : Value} {L O : List Int} (h : PW w W B lv ov L O) (hk : k ≤ L.length) (hown : w5.ownsRow B 2 1 mv (0 + k) (([] ++ L.take k).map (Value.int .i64))) (hg : (W.alloc (.cells #[] 2)).grownBy w5 (some W.heap.size)) (hbk : mv.ownBlock = some W.heap.size ∨ mv.ownBlock = some (W.alloc (.cells #[] 2)).heap.size) (hn : mv = .slice none 0 0 ↔ Value.slice (some ⟨W.heap.size, 0, none⟩) 0 0 = .slice none 0 0 ∧ k = 0) : PM w w5 B lv ov mv L O (L.take k) := by
  have hA : Below w.heap.size w (W.alloc (.cells #[] 2)) := h.b.alloc h.b.size _
  have hl : ∀ g, lv.ownBlock = some g → g < W.heap.size := fun g e => (h.l.lt g e).2
  have ho : ∀ g, ov.ownBlock = some g → g < W.heap.size := fun g e => (h.o.lt g e).2
  refine ⟨hA.grown hg hA.size (fun k e => by injection e with e; have := h.b.size; omega), ⟨h.hB.1, Nat.le_trans h.hB.2 (Nat.le_trans (by simp) hg.size)⟩, (h.l.alloc _).kept hg (.inr fun e => by have := hl _ e; omega), (h.o.alloc _).kept hg (.inr fun e => by have := ho _ e; omega), ?_, ?_, ?_, h.so⟩
  · have e : (L.take k).length = k := by rw [List.length_take]; omega
    rw [e]
    rw [Nat.zero_add, List.nil_append] at hown
    exact hown
  · intro e
    rcases hbk with e2 | e2
    · rw [e2] at e
      have := ho _ e.symm
      omega
    · rw [e2] at e
      have := ho _ e.symm
      simp at this
      omega
  · exact not_nil hn ⟨_, _, _, rfl⟩
theorem PM.done {w W w6 : World} {B k : Nat} {lv ov mv lv' : Value} {L O : List Int} {ys : List Int} (h : PM w W B lv ov mv L O (L.take k)) (hy : ys = L.drop (k + 1)) (hown : w6.ownsRow B 2 1 lv' ((L.take k).length + ys.length) ((L.take k ++ ys).map (Value.int .i64))) (hg : W.grownBy w6 mv.ownBlock) (hbk : lv'.ownBlock = mv.ownBlock ∨ lv'.ownBlock = some W.heap.size) (hn : lv' = .slice none 0 0 ↔ mv = .slice none 0 0 ∧ ys.length = 0) : PW w w6 B lv' ov (L.eraseIdx k) O := by
  subst hy
  have ho : ∀ g, ov.ownBlock = some g → g < W.heap.size := fun g e => (h.o.lt g e).2
  have e1 : (L.take k).length + (L.drop (k + 1)).length = (L.eraseIdx k).length := by rw [← erase_parts, List.length_append]
  rw [e1, erase_parts] at hown
  refine ⟨h.b.grown hg h.b.size (fun k e => by have := (h.m.lt k e).1; have := h.hB.1; omega), ⟨h.hB.1, Nat.le_trans h.hB.2 hg.size⟩, hown, h.o.kept hg (.inr fun e => h.mo e.symm), ?_, ?_, h.so⟩
  · rcases hbk with e | e
    · rw [e]; exact h.mo
    · rw [e]
      intro e2
      have := ho _ e2.symm
      omega
  · exact own_sm hown (fun e => h.sm (hn.1 e).1)

theorem PW.new {w w2 : World} {lv : Value} {zs : List Int} (ho : w2.ownsRow w.heap.size 2 1 lv zs.length (zs.map (Value.int .i64))) (hb : Below w.heap.size w w2) (hn : lv ≠ .slice none 0 0) : PW w (w2.alloc (.cells #[] 2)) w.heap.size lv (.slice (some ⟨w2.heap.size, 0, none⟩) 0 0) zs [] := by
  refine ⟨hb.alloc hb.size _, ⟨Nat.le_refl _, Nat.le_trans hb.size (by simp)⟩, ho.alloc _, World.ownsRow_made w2 #[] 0 hb.size (by unfold maxLen; omega) (by simp), ?_, own_sm ho hn, ⟨_, _, rfl⟩⟩
  intro e
  have := (ho.lt _ e).2
  simp at this
/-- One step of the row: its first thing, and the rest. -/
theorem unr_step {d : Nat} {L : List Int} {n : Nat} (hl : L.length = d + 1) (hn : n < facN (d + 1)) : n / facN d < d + 1 ∧ unr (d + 1) L n = L.getD (n / facN d) 0 :: unr d (L.eraseIdx (n / facN d)) (n % facN d) := by
  have hk : n / facN d < d + 1 := by rw [Nat.div_lt_iff_lt_mul (facN_pos d), Nat.mul_comm]; exact hn
  refine ⟨hk, ?_⟩
  have h : L[n / facN d]? = some (L[n / facN d]'(by omega)) := List.getElem?_eq_getElem _
  rw [unr_some h, List.getD_eq_getElem?_getD, h]
  rfl

theorem wrap_div {a b q : Nat} (h : ((a : Nat) : Int).tdiv (b : Int) = (q : Int)) (hq : q ≤ 720) : wrap64 ((a : Int) / (b : Int)) = (q : Int) := by
  rw [Int.tdiv_eq_ediv_of_nonneg (Int.natCast_nonneg a)] at h
  rw [h]
  exact wrap_small (Int.natCast_nonneg q) (by omega)
theorem mod_of {a b q : Nat} (h : ((a : Nat) : Int).tmod (b : Int) = (q : Int)) : (a : Int) % (b : Int) = (q : Int) := by
  rw [Int.tmod_eq_emod_of_nonneg (Int.natCast_nonneg a)] at h
  exact h

set_option maxHeartbeats 2000000 in
theorem specPermuted_loop (b off cap m : Nat) (zs : List Int) (w : World) (hA : IntsAt w (some ⟨b, off, none⟩) zs) (h6 : zs.length ≤ 6) (hm : m < facN zs.length) :
    Calls Try.prog 57 #[.slice (some ⟨b, off, none⟩) zs.length cap, .int .i64 m] w fun e w' => ∃ sl, e = .returned (.tuple #[sl, .bool true]) ∧ Below w.heap.size w w' ∧ w'.ownsRow w.heap.size 2 1 sl (unr zs.length zs m).length ((unr zs.length zs m).map (Value.int .i64)) := by
  have HA : Hid (IntsAt w (some ⟨b, off, none⟩) zs) := hA
  have HCV : Hid (countV zs.length = (facN zs.length : Int)) := by show _ = _; rw [countV_yes h6, fac_nat]
  have hfb := facN_bd _ h6
  clear hA
  obtain ⟨R, HR⟩ : ∃ R, Hid (unr zs.length zs m = R) := ⟨_, rfl⟩
  rw [HR.out]
  obtain ⟨c, HC⟩ : ∃ c, Hid (zs.length = c) := ⟨_, rfl⟩
  rw [HC.out] at h6 hm hfb HCV HR ⊢
  have HM : Hid (m < facN c) := hm
  obtain ⟨fc, HFC⟩ : ∃ f, Hid (facN c = f) := ⟨_, rfl⟩
  rw [HFC.out] at hm hfb HCV
  have hin : inB (m : Int) 0 ((fc : Int) - 1) = true := inB_mk (by omega)
  have OB : Hid (Below w.heap.size w (w.alloc (.cells #[] 2))) := (Below.refl _ _).alloc (Nat.le_refl _) _
  go_enter Try.func57, Try.ntmps57
  go_wp2_with (first
    | (go_at_call 28; refine (specCount_any _ _).mono ?_; rintro e w' ⟨rfl, hw'⟩; subst w'; rw [HCV.out])
    | (go_at_call 78; refine (l1In_any _ _ _ _).mono ?_; rintro e w' ⟨rfl, hw'⟩; subst w')
    | (at_builtin
       refine append_many _ rfl _ _ rfl w.heap.size _ 0 [] rfl (World.ownsRow_made w #[] 0 (Nat.le_refl _) (by unfold maxLen; omega) (by simp)) b off c cap zs rfl HC.out (HA.out.below OB.out) (by omega) (by omega) (by simp) ?_
       intro lv w2 hown hg hbk hnl
       have P2 : Hid (PW w (w2.alloc (.cells #[] 2)) w.heap.size lv (.slice (some ⟨w2.heap.size, 0, none⟩) 0 0) zs []) := PW.new (by rw [HC.out]; rw [Nat.zero_add, List.nil_append] at hown; exact hown) (OB.out.grown hg OB.out.size (fun k e => own_at e)) (not_nil hnl ⟨_, _, _, rfl⟩)
       clear hown hg hbk hnl))
  clear HCV hin OB
  go_loopw [1, 6, 7, 8] (fun nv mv lv ov wr => ∃ (d N : Nat) (L O : List Int), L.length = d ∧ d ≤ c ∧ nv = .int .i64 N ∧ mv = .int .i64 (facN d : Nat) ∧ N < facN d ∧ PW w wr w.heap.size lv ov L O ∧ O.length ≤ 6 - d ∧ O ++ unr d L N = R) (fun _ _ lv _ _ => lenOfV lv)
  case atStart => exact ⟨c, m, zs, [], HC.out, Nat.le_refl _, rfl, by rw [HFC.out], HM.out, P2.out, by simp, HR.out⟩
  case round =>
    clear P2
    obtain ⟨d, N, L, O, hl, hdc, rfl, rfl, hN, hp, hol, hres⟩ := hrel
    obtain ⟨gl, cl, rfl⟩ := hp.sl
    obtain ⟨go, co, rfl⟩ := hp.so
    have P1 : Hid (PW w wr w.heap.size (.slice (some ⟨gl, 0, none⟩) L.length cl) (.slice (some ⟨go, 0, none⟩) O.length co) L O) := hp
    have HRS : Hid (O ++ unr d L N = R) := hres
    have HLd : Hid (L.length = d) := hl
    have hcap := own_cap hp.l
    clear hp hres hl
    rw [HLd.out] at hcap ⊢
    cases d with
    | zero =>
      have HE : Hid (O = R) := by
        have := HRS.out
        rw [show unr 0 L N = [] from rfl, List.append_nil] at this
        exact this
      have HO : Hid (wr.ownsRow w.heap.size 2 1 (.slice (some ⟨go, 0, none⟩) O.length co) R.length (R.map (Value.int .i64))) := by
        have := P1.out.o
        rw [HE.out] at this ⊢
        exact this
      have HB : Hid (Below w.heap.size w wr) := P1.out.b
      obtain ⟨ol, HOL⟩ : ∃ n, Hid (O.length = n) := ⟨_, rfl⟩
      rw [HOL.out] at HO ⊢
      go_wp2
      refine bodyPost_ret (v := .tuple #[.slice (some ⟨go, 0, none⟩) ol co, .bool true]) (by simp [results, Try.results57, go_sem]) rfl ⟨_, rfl, HB.out, HO.out⟩
    | succ d =>
      obtain ⟨hk, hun⟩ := unr_step HLd.out hN
      have hmod : N % facN d < facN d := Nat.mod_lt _ (facN_pos d)
      have hfp := facN_pos d
      have hfb1 := facN_bd (d + 1) (by omega)
      have hfb2 := facN_bd d (by omega)
      have hdv : ((facN (d + 1) : Nat) : Int).tdiv ((d + 1 : Nat) : Int) = (facN d : Nat) := by
        rw [Int.tdiv_eq_ediv_of_nonneg (by omega), show facN (d + 1) = facN d * (d + 1) from rfl, Int.natCast_mul, Int.mul_ediv_cancel _ (by omega)]
      have hq0 : (N : Int).tdiv ((facN d : Nat) : Int) = ((N / facN d : Nat) : Int) := by rw [Int.tdiv_eq_ediv_of_nonneg (by omega)]; simp
      have hr0 : (N : Int).tmod ((facN d : Nat) : Int) = ((N % facN d : Nat) : Int) := by rw [Int.tmod_eq_emod_of_nonneg (by omega)]; simp
      have HRS2 : Hid (O ++ [L.getD (N / facN d) 0] ++ unr d (L.eraseIdx (N / facN d)) (N % facN d) = R) := by
        show _ = _
        rw [← HRS.out, hun, List.append_assoc]; rfl
      have HNF : Hid (N < facN (d + 1)) := hN
      obtain ⟨F1, HF1⟩ : ∃ f, Hid (facN (d + 1) = f) := ⟨_, rfl⟩
      obtain ⟨F, HF⟩ : ∃ f, Hid (facN d = f) := ⟨_, rfl⟩
      obtain ⟨k, HK⟩ : ∃ f, Hid (N / facN d = f) := ⟨_, rfl⟩
      obtain ⟨r, HRr⟩ : ∃ f, Hid (N % facN d = f) := ⟨_, rfl⟩
      rw [HK.out] at hk hq0 HRS2
      rw [HRr.out] at hmod hr0 HRS2
      rw [HF1.out] at hN hfb1 hdv ⊢
      rw [HF.out] at hmod hfp hfb2 hdv hq0 hr0
      obtain ⟨D, HD⟩ : ∃ f, Hid (d + 1 = f) := ⟨_, rfl⟩
      rw [HD.out] at hk hdv hcap hol hdc HLd ⊢
      have hD0 : 0 < D := by have := HD.out; omega
      have hD6 : D ≤ 6 := by omega
      have cx : wr.cell? ⟨gl, k, none⟩ = some (.int .i64 (L.getD k 0)) := by
        obtain ⟨_, _, e, h⟩ := owns_ints P1.out.l k (by rw [HLd.out]; exact hk)
        simp at e
        obtain ⟨rfl, rfl⟩ := e
        rw [Nat.zero_add] at h
        exact h
      obtain ⟨x, HX⟩ : ∃ f, Hid (L.getD k 0 = f) := ⟨_, rfl⟩
      rw [HX.out] at cx HRS2
      obtain ⟨ol, HOL⟩ : ∃ n, Hid (O.length = n) := ⟨_, rfl⟩
      rw [HOL.out] at hol P1 ⊢
      rw [HLd.out] at P1
      clear hun HRS
      have HDV : Hid (wrap64 (((F1 : Nat) : Int) / ((D : Nat) : Int)) = (F : Nat)) := wrap_div hdv hfb2
      have HQ0 : Hid (wrap64 ((N : Int) / ((F : Nat) : Int)) = (k : Nat)) := wrap_div hq0 (by clear hdv hq0 hr0; omega)
      have HR0 : Hid ((N : Int) % ((F : Nat) : Int) = (r : Nat)) := mod_of hr0
      clear hdv hq0 hr0
      have HMOD : Hid (r < F) := hmod
      have hkc : k ≤ cl := by omega
      have hkc2 : k + 1 ≤ cl := by omega
      have hkD : k + 1 ≤ D := by omega
      have HOB : Hid (ol + D ≤ 6) := by show _ ≤ _; omega
      have hob : ol ≤ 6 := by omega
      have HDC : Hid (D ≤ c) := hdc
      clear hN hfb hm hfb1 hol hdc HNF h6 hmod
      have hdv := HDV.out
      have hq0 := HQ0.out
      have hr0 := HR0.out
      go_wp2_with (first
        | (at_builtin
           refine append_many _ rfl (.tmp 36) (.tmp 41) rfl w.heap.size _ ol O rfl (by have := P1.out.o; rw [HOL.out] at this; exact this.alloc _) wr.heap.size 0 1 1 [x] rfl rfl (ints_new1 wr x) (by omega) (by omega) (Nat.le_trans P1.out.hB.2 (by simp)) ?_
           intro ov' w4 hown hg hbk hnl
           have hp4 : PW w w4 w.heap.size (.slice (some ⟨gl, 0, none⟩) D cl) ov' L (O ++ [x]) := P1.out.put (by rw [HOL.out]; exact hown) hg hbk hnl
           obtain ⟨go', co', rfl⟩ := hp4.so
           have P4 : Hid (PW w w4 w.heap.size (.slice (some ⟨gl, 0, none⟩) D cl) (.slice (some ⟨go', 0, none⟩) (O ++ [x]).length co') L (O ++ [x])) := hp4
           have hl4 : (O ++ [x]).length = ol + 1 := by rw [List.length_append, HOL.out]; rfl
           rw [hl4] at P4 ⊢
           have hsz4 := P4.out.hB.2
           clear hown hg hbk hnl hp4 hl4)
        | (at_builtin
           refine append_many _ rfl (.tmp 43) (.tmp 46) rfl w.heap.size _ 0 [] rfl (World.ownsRow_made w4 #[] 0 hsz4 (by unfold maxLen; omega) (by simp)) gl 0 k cl (L.take k) rfl (by rw [List.length_take, HLd.out]; omega) (ints_take' (owns_ints' ((P4.out.l).alloc _) HLd.out) k) (by omega) (by omega) (Nat.le_trans hsz4 (by simp)) ?_
           intro mv w5 hown hg hbk hnl
           have P5 : Hid (PM w w5 w.heap.size (.slice (some ⟨gl, 0, none⟩) D cl) (.slice (some ⟨go', 0, none⟩) (ol + 1) co') mv L (O ++ [x]) (L.take k)) := P4.out.begin (by rw [HLd.out]; omega) hown hg hbk hnl
           have hsz5 := P5.out.hB.2
           have M5 : Hid (w5.ownsRow w.heap.size 2 1 mv k ((L.take k).map (Value.int .i64))) := by
             have := P5.out.m
             rwa [show (L.take k).length = k by rw [List.length_take, HLd.out]; omega] at this
           have I5 : Hid (IntsAt w5 (some ⟨gl, 0, none⟩) L) := owns_ints' P5.out.l HLd.out
           obtain ⟨gm, cm, rfl⟩ := own_sm M5.out P5.out.sm
           clear hown hg hbk hnl)
        | (at_builtin
           refine append_more _ rfl (.tmp 48) (.tmp 52) rfl w.heap.size _ k (L.take k) rfl M5.out _ (D - (k + 1)) _ (L.drop (k + 1)) rfl (cut0_some gl (k + 1) cl) (by rw [List.length_drop, HLd.out]) (ints_cut0 I5.out (k + 1) cl (by rw [HLd.out]; exact hcap)) (by omega) (by omega) hsz5 ?_
           intro lv' w6 hown hg hbk hnl
           have P6 : Hid (PW w w6 w.heap.size lv' (.slice (some ⟨go', 0, none⟩) (ol + 1) co') (L.eraseIdx k) (O ++ [x])) := P5.out.done (ys := L.drop (k + 1)) rfl (by rw [show (L.take k).length = k by rw [List.length_take, HLd.out]; omega, List.length_drop, HLd.out]; exact hown) hg hbk (by rw [List.length_drop, HLd.out]; exact hnl)
           have hle6 : (L.eraseIdx k).length = d := by rw [List.length_eraseIdx_of_lt (by rw [HLd.out]; exact hk), HLd.out]; have := HD.out; omega
           obtain ⟨gl', cl', rfl⟩ := P6.out.sl
           rw [hle6]
           have HL6 : Hid ((L.eraseIdx k).length = d) := hle6
           clear hown hg hbk hnl hle6))
      go_roundw
      case rel =>
        have e1 := HD.out
        have e2 := HOB.out
        have e3 := HDC.out
        have P7 := P6.out
        rw [HL6.out] at P7
        exact ⟨d, r, L.eraseIdx k, O ++ [x], HL6.out, by omega, by first | rfl | go_num, by rw [HF.out], by rw [HF.out]; exact HMOD.out, P7, by rw [List.length_append, HOL.out]; simp; omega, HRS2.out⟩
      case measure =>
        have e1 := HD.out
        simp [lenOfV]
        omega

theorem specPermuted_any (b off cap : Nat) (zs : List Int) (n : Int) (w : World) (hA : IntsAt w (some ⟨b, off, none⟩) zs) (hlen : zs.length ≤ 9223372036854775807) :
    Calls Try.prog 57 #[.slice (some ⟨b, off, none⟩) zs.length cap, .int .i64 n] w fun e w' => ∃ sl, e = .returned (.tuple #[sl, .bool (permT zs n)]) ∧ Below w.heap.size w w' ∧ w'.ownsRow w.heap.size 2 1 sl (permV zs n).length ((permV zs n).map (Value.int .i64)) := by
  cases hin : permT zs n
  · have HPV : Hid (permV zs n = []) := permV_no hin
    rw [HPV.out]
    have hcb : -1 ≤ countV zs.length ∧ countV zs.length ≤ 720 := by
      by_cases h6 : zs.length ≤ 6
      · rw [countV_yes h6]
        have := fac_bd _ h6
        omega
      · rw [countV_no (inB_not (by omega))]; omega
    obtain ⟨cv, HCV⟩ : ∃ v, Hid (countV zs.length = v) := ⟨_, rfl⟩
    rw [HCV.out] at hcb
    have hin2 : inB n 0 (cv - 1) = false := by
      have := hin
      unfold permT at this
      rw [HCV.out] at this
      exact this
    clear hin hA
    go_enter Try.func57, Try.ntmps57
    go_wp2_with (first
      | (go_at_call 28; refine (specCount_any _ _).mono ?_; rintro e w' ⟨rfl, hw'⟩; subst w'; rw [HCV.out])
      | (go_at_call 78; refine (l1In_any _ _ _ _).mono ?_; rintro e w' ⟨rfl, hw'⟩; subst w'))
    refine bodyPost_ret (v := .tuple #[.slice none 0 0, .bool false]) (by simp [results, Try.results57, go_sem]) rfl ⟨_, rfl, Below.refl _ _, World.ownsRow_nil _ _ _ _⟩
  · obtain ⟨m, rfl, h6, hm, hpv⟩ := permT_nat hin
    rw [hpv]
    exact specPermuted_loop b off cap m zs w hA h6 hm

end Go.Proofs.Ytpfikhegmmpogaa

namespace Go.Proofs.Ytpfikhegmmpogaa
open Go.RowKit

set_option maxHeartbeats 1000000 in
theorem l3Ok_any (n fine veh : Int) (a ao av bi : Option Addr) (cap ko co kv cv c2 : Nat) (zs os vs ids : List Int) (w : World) (hA : IntsAt w a zs) (hO : IntsAt w ao os) (hV : IntsAt w av vs) (hI : IntsAt w bi ids) (hlo : os.length = ko * 6) (hlv : vs.length = kv * 5) (hko : ko ≤ 9223372036854775807) (hkv : kv ≤ 9223372036854775807) (hli : ids.length ≤ 9223372036854775807) (hc2 : ids.length ≤ c2) (v : Bool) (hv : decide (codeV (caseB n zs os vs ko kv fine) n zs os vs ko kv veh ids = 0) = v) :
    Calls Try.prog 58 #[.agg #[.int .i64 n, .slice a zs.length cap, .slice ao ko co, .slice av kv cv, .int .i64 fine], .agg #[.int .i64 veh, .slice bi ids.length c2]] w fun e w' => e = .returned (.bool v) ∧ Below w.heap.size w w' := by
  have HA : Hid (IntsAt w a zs) := hA
  have HO : Hid (IntsAt w ao os) := hO
  have HV : Hid (IntsAt w av vs) := hV
  have HI : Hid (IntsAt w bi ids) := hI
  have HLO : Hid _ := hlo
  have HLV : Hid _ := hlv
  clear hA hO hV hI hlo hlv
  have HVV : Hid (decide (codeV (caseB n zs os vs ko kv fine) n zs os vs ko kv veh ids = 0) = v) := hv
  clear hv
  have HC0 : Hid (CR w ((w.alloc (.cells #[Value.int IntKind.i64 n, Value.slice a zs.length cap, Value.slice ao ko co, Value.slice av kv cv, Value.int IntKind.i64 fine] 30)).alloc (.cells #[Value.int IntKind.i64 veh, Value.slice bi ids.length c2] 34)) _ _) := CR.new w _ _
  go_enter Try.func58, Try.ntmps58
  obtain ⟨c0, c1, c2', c3, c4⟩ := cells5 HC0.out.2.1
  obtain ⟨d0, d1⟩ := cells2 HC0.out.2.2
  go_wp2_with fail
  clear c0 c1 c2' c3 c4 d0 d1
  refine (specSchedule_any n fine veh a ao av bi cap ko co kv cv c2 zs os vs ids _ (HA.out.below HC0.out.1) (HO.out.below HC0.out.1) (HV.out.below HC0.out.1) (HI.out.below HC0.out.1) HLO.out HLV.out hko hkv hli hc2).mono ?_
  rintro e w2 ⟨hb, ⟨hf, rfl⟩ | ⟨hf, g, c, _, rfl, _⟩⟩
  · have HB2 : Hid (Below w.heap.size w w2) := HC0.out.1.trans (hb.mono HC0.out.1.size)
    have HVF : Hid (v = false) := HVV.out.symm.trans (decide_eq_false hf)
    generalize codeV (caseB n zs os vs ko kv fine) n zs os vs ko kv veh ids = r at *
    have hfb : (r == 0) = false := by simp [hf]
    clear hb hf HC0 HVV
    go_wp2
    go_ret
    exact ⟨ret_bool HVF.out.symm, HB2.out⟩
  · have HB2 : Hid (Below w.heap.size w w2) := HC0.out.1.trans (hb.mono HC0.out.1.size)
    have HVF : Hid (v = true) := HVV.out.symm.trans (decide_eq_true hf)
    clear hb hf HC0 HVV
    generalize homeV n zs (rosOf os ko ids) ids.length (fnd5F vs kv veh 1) (fnd5F vs kv veh 3) = hm
    go_wp2
    go_ret
    exact ⟨ret_bool HVF.out.symm, HB2.out⟩

end Go.Proofs.Ytpfikhegmmpogaa

namespace Go.Proofs.Ytpfikhegmmpogaa
open Go.RowKit

set_option maxHeartbeats 1000000 in
theorem l3Cost_any (n fine veh : Int) (a ao av bi : Option Addr) (cap ko co kv cv c2 : Nat) (zs os vs ids : List Int) (w : World) (hA : IntsAt w a zs) (hO : IntsAt w ao os) (hV : IntsAt w av vs) (hI : IntsAt w bi ids) (hlo : os.length = ko * 6) (hlv : vs.length = kv * 5) (hko : ko ≤ 9223372036854775807) (hkv : kv ≤ 9223372036854775807) (hli : ids.length ≤ 9223372036854775807) (hcode : codeV (caseB n zs os vs ko kv fine) n zs os vs ko kv veh ids = 0) :
    Calls Try.prog 59 #[.agg #[.int .i64 n, .slice a zs.length cap, .slice ao ko co, .slice av kv cv, .int .i64 fine], .agg #[.int .i64 veh, .slice bi ids.length c2]] w fun e w' => e = .returned (.int .i64 (rideV n zs (rosOf os ko ids) ids.length (fnd5F vs kv veh 1))) ∧ Below w.heap.size w w' := by
  have HA : Hid (IntsAt w a zs) := hA
  have HO : Hid (IntsAt w ao os) := hO
  have HV : Hid (IntsAt w av vs) := hV
  have HI : Hid (IntsAt w bi ids) := hI
  have HLO : Hid _ := hlo
  have HLV : Hid _ := hlv
  clear hA hO hV hI hlo hlv
  have HC0 : Hid (CR w ((w.alloc (.cells #[Value.int IntKind.i64 n, Value.slice a zs.length cap, Value.slice ao ko co, Value.slice av kv cv, Value.int IntKind.i64 fine] 30)).alloc (.cells #[Value.int IntKind.i64 veh, Value.slice bi ids.length c2] 34)) _ _) := CR.new w _ _
  obtain ⟨hcb, _, hstB⟩ := formV_zero (codeV_zero hcode).1
  obtain ⟨hmat, hords, hvehs, hn1, _⟩ := caseB_parts hcb
  have hvb := fnd5F_bd hvehs hn1 veh
  have HMAT : Hid (matB n zs = true) := hmat
  have HOB : Hid (ordsB n os ko = true) := hords
  have HN1 : Hid (1 ≤ n) := hn1
  have h12 := (stopsB_true hstB).1
  clear hmat hords hvehs hn1 hcb hstB hcode
  obtain ⟨r, HV1⟩ : ∃ r, Hid (rideV n zs (rosOf os ko ids) ids.length (fnd5F vs kv veh 1) = r) := ⟨_, rfl⟩
  rw [HV1.out]
  go_enter Try.func59, Try.ntmps59
  obtain ⟨c0, c1, c2', c3, c4⟩ := cells5 HC0.out.2.1
  obtain ⟨d0, d1⟩ := cells2 HC0.out.2.2
  go_wp2_with fail
  clear c0 c1 c2' c3 c4 d0 d1
  refine (l2Car_any n fine veh a ao av _ cap ko co kv cv vs _ (HV.out.below HC0.out.1) HLV.out hkv).mono ?_
  rintro e w2 ⟨rfl, hb⟩
  obtain ⟨v0, G0⟩ : ∃ t, Hid (fnd5F vs kv veh 0 = t) := ⟨_, rfl⟩
  obtain ⟨v1, G1⟩ : ∃ t, Hid (fnd5F vs kv veh 1 = t) := ⟨_, rfl⟩
  obtain ⟨v2, G2⟩ : ∃ t, Hid (fnd5F vs kv veh 2 = t) := ⟨_, rfl⟩
  obtain ⟨v3, G3⟩ : ∃ t, Hid (fnd5F vs kv veh 3 = t) := ⟨_, rfl⟩
  obtain ⟨v4, G4⟩ : ∃ t, Hid (fnd5F vs kv veh 4 = t) := ⟨_, rfl⟩
  rw [G1.out, G2.out, G3.out, G4.out] at hvb
  rw [G1.out] at HV1
  rw [G0.out, G1.out, G2.out, G3.out, G4.out]
  generalize fnd5T vs kv veh = tv
  have HX1 : Hid (0 ≤ v1 ∧ v1 < n) := hvb.1
  clear hvb
  have C3 : Hid (CR w (w2.alloc (Obj.cells #[Value.int IntKind.i64 v0, Value.int IntKind.i64 v1, Value.int IntKind.i64 v2, Value.int IntKind.i64 v3, Value.int IntKind.i64 v4] 95)) _ _) := CR.alloc (HC0.out.below hb) _
  have RV3 : Hid ((w2.alloc (Obj.cells #[Value.int IntKind.i64 v0, Value.int IntKind.i64 v1, Value.int IntKind.i64 v2, Value.int IntKind.i64 v3, Value.int IntKind.i64 v4] 95)).heap[w2.heap.size]? = _) := heap_alloc_new _ _
  clear hb HC0
  obtain ⟨q0, q1, q2, q3, q4⟩ := cells5 RV3.out
  go_wp2_with fail
  clear q0 q1 q2 q3 q4
  generalize w2.alloc (Obj.cells #[Value.int IntKind.i64 v0, Value.int IntKind.i64 v1, Value.int IntKind.i64 v2, Value.int IntKind.i64 v3, Value.int IntKind.i64 v4] 95) = W2 at *
  generalize w2.heap.size = gv at *
  have HBD : Hid (RosBd n (rosOf os ko ids) ids.length) := rosBd_of HOB.out HN1.out ids
  go_loopw [7, 8, 9] (fun pl sm t wr => ∃ k : Nat, k ≤ ids.length ∧ t = .int .i64 k ∧ pl = .int .i64 (plc (rosOf os ko ids) v1 k) ∧ sm = .int .i64 (costTo n zs (rosOf os ko ids) v1 k) ∧ CR w wr #[Value.int IntKind.i64 n, Value.slice a zs.length cap, Value.slice ao ko co, Value.slice av kv cv, Value.int IntKind.i64 fine] #[Value.int IntKind.i64 veh, Value.slice bi ids.length c2] ∧ wr.heap[gv]? = some (.cells #[Value.int IntKind.i64 v0, Value.int IntKind.i64 v1, Value.int IntKind.i64 v2, Value.int IntKind.i64 v3, Value.int IntKind.i64 v4] 95 (0, 0))) (fun _ _ t _ => ids.length - (intOf t).toNat)
  case atStart => exact ⟨0, Nat.zero_le _, rfl, rfl, rfl, C3.out, RV3.out⟩
  case round =>
    clear C3 RV3
    obtain ⟨k, hk, rfl, rfl, rfl, hb, hrv⟩ := hrel
    have hpl := plc_bd HBD.out HX1.out.1 HX1.out.2 k hk
    have hcb := costTo_bd (ros := (rosOf os ko ids)) (home := v1) HMAT.out k
    have HB : Hid (CR w wr _ _) := hb
    have HRV : Hid (wr.heap[gv]? = _) := hrv
    obtain ⟨c0, c1, c2', c3, c4⟩ := cells5 hb.2.1
    obtain ⟨d0, d1⟩ := cells2 hb.2.2
    obtain ⟨p, HPL⟩ : ∃ t, Hid (plc (rosOf os ko ids) v1 k = t) := ⟨_, rfl⟩
    obtain ⟨f, HFR⟩ : ∃ t, Hid (costTo n zs (rosOf os ko ids) v1 k = t) := ⟨_, rfl⟩
    rw [HPL.out] at hpl
    rw [HFR.out] at hcb
    rw [HPL.out, HFR.out]
    have HPB : Hid (0 ≤ p ∧ p < n) := hpl
    clear hb hrv hpl
    by_cases hlt : k < ids.length
    · obtain ⟨b, off, rfl, hcs⟩ := IntsAt.some (IntsAt.below HI.out HB.out.1) hlt
      have ct := hcs k hlt
      clear hcs
      obtain ⟨id, HID⟩ : ∃ i, Hid (ids.getD k 0 = i) := ⟨_, rfl⟩
      rw [HID.out] at ct
      have HO1 := (fnd6F_bd HOB.out HN1.out id).1
      obtain ⟨o0, H0⟩ : ∃ t, Hid (fnd6F os ko id 0 = t) := ⟨_, rfl⟩
      obtain ⟨o1, H1⟩ : ∃ t, Hid (fnd6F os ko id 1 = t) := ⟨_, rfl⟩
      obtain ⟨o2, H2⟩ : ∃ t, Hid (fnd6F os ko id 2 = t) := ⟨_, rfl⟩
      obtain ⟨o3, H3⟩ : ∃ t, Hid (fnd6F os ko id 3 = t) := ⟨_, rfl⟩
      obtain ⟨o4, H4⟩ : ∃ t, Hid (fnd6F os ko id 4 = t) := ⟨_, rfl⟩
      obtain ⟨o5, H5⟩ : ∃ t, Hid (fnd6F os ko id 5 = t) := ⟨_, rfl⟩
      rw [H1.out] at HO1
      have HO1 : Hid (0 ≤ o1 ∧ o1 < n) := HO1
      obtain ⟨d, HD⟩ : ∃ t, Hid (tmI n zs p o1 = t) := ⟨_, rfl⟩
      have hdb := tmI_bd HMAT.out p o1
      rw [HD.out] at hdb
      have K1 : Hid (og6 (rosOf os ko ids) k 1 = o1) := (rosOf_at os ko ids hlt (by omega)).trans (by rw [HID.out]; exact H1.out)
      have HNX : Hid (costTo n zs (rosOf os ko ids) v1 (k + 1) = f + d) := by
        show _ = _
        simp only [costTo]
        rw [HFR.out, HPL.out, K1.out, HD.out]
      obtain ⟨tt, HTT⟩ : ∃ t, Hid (fnd6T os ko id = t) := ⟨_, rfl⟩
      go_wp2_with fail
      have HCT : Hid (wr.cell? ⟨b, off + k, none⟩ = _) := ct
      have HCA : Hid ((wr.alloc (Obj.cells #[Value.int IntKind.i64 0, Value.int IntKind.i64 0, Value.int IntKind.i64 0, Value.int IntKind.i64 0, Value.int IntKind.i64 0, Value.int IntKind.i64 0] 149)).cell? ⟨b, off + k, none⟩ = _) := (((Below.refl wr.heap.size wr).alloc (Nat.le_refl _) _).cell (p := ⟨b, off + k, none⟩) (block_lt_of_cell ct)).trans ct
      have HVA : Hid ((wr.alloc (Obj.cells #[Value.int IntKind.i64 0, Value.int IntKind.i64 0, Value.int IntKind.i64 0, Value.int IntKind.i64 0, Value.int IntKind.i64 0, Value.int IntKind.i64 0] 149)).heap[gv]? = _) := (heap_alloc_old _ _ (row_lt HRV.out)).trans HRV.out
      have hlb := block_lt_of_cell ct
      simp at hlb
      have hlw := row_lt HB.out.2.1
      have hlr := row_lt HB.out.2.2
      go_region_held3 (fun W => W.cell? ⟨w.heap.size, 0, none⟩ = some (.int .i64 n) ∧ W.cell? ⟨w.heap.size, 1, none⟩ = some (.slice a zs.length cap) ∧ W.cell? ⟨w.heap.size, 2, none⟩ = some (.slice ao ko co) ∧ W.cell? ⟨w.heap.size, 3, none⟩ = some (.slice av kv cv) ∧ W.cell? ⟨w.heap.size, 4, none⟩ = some (.int .i64 fine) ∧ W.cell? ⟨w.heap.size + 1, 1, none⟩ = some (.slice (some ⟨b, off, none⟩) ids.length c2) ∧ W.cell? ⟨b, off + k, none⟩ = some (.int .i64 id)) (first | with_reducible exact kS | with_reducible exact ⟨(keep_set (keep_set (keep_set (keep_set (keep_set (keep_set kS.1 (Nat.ne_of_lt hlw)) (Nat.ne_of_lt hlw)) (Nat.ne_of_lt hlw)) (Nat.ne_of_lt hlw)) (Nat.ne_of_lt hlw)) (Nat.ne_of_lt hlw)), (keep_set (keep_set (keep_set (keep_set (keep_set (keep_set kS.2.1 (Nat.ne_of_lt hlw)) (Nat.ne_of_lt hlw)) (Nat.ne_of_lt hlw)) (Nat.ne_of_lt hlw)) (Nat.ne_of_lt hlw)) (Nat.ne_of_lt hlw)), (keep_set (keep_set (keep_set (keep_set (keep_set (keep_set kS.2.2.1 (Nat.ne_of_lt hlw)) (Nat.ne_of_lt hlw)) (Nat.ne_of_lt hlw)) (Nat.ne_of_lt hlw)) (Nat.ne_of_lt hlw)) (Nat.ne_of_lt hlw)), (keep_set (keep_set (keep_set (keep_set (keep_set (keep_set kS.2.2.2.1 (Nat.ne_of_lt hlw)) (Nat.ne_of_lt hlw)) (Nat.ne_of_lt hlw)) (Nat.ne_of_lt hlw)) (Nat.ne_of_lt hlw)) (Nat.ne_of_lt hlw)), (keep_set (keep_set (keep_set (keep_set (keep_set (keep_set kS.2.2.2.2.1 (Nat.ne_of_lt hlw)) (Nat.ne_of_lt hlw)) (Nat.ne_of_lt hlw)) (Nat.ne_of_lt hlw)) (Nat.ne_of_lt hlw)) (Nat.ne_of_lt hlw)), (keep_set (keep_set (keep_set (keep_set (keep_set (keep_set kS.2.2.2.2.2.1 (Nat.ne_of_lt hlr)) (Nat.ne_of_lt hlr)) (Nat.ne_of_lt hlr)) (Nat.ne_of_lt hlr)) (Nat.ne_of_lt hlr)) (Nat.ne_of_lt hlr)), (keep_set (keep_set (keep_set (keep_set (keep_set (keep_set kS.2.2.2.2.2.2 (Nat.ne_of_lt hlb)) (Nat.ne_of_lt hlb)) (Nat.ne_of_lt hlb)) (Nat.ne_of_lt hlb)) (Nat.ne_of_lt hlb)) (Nat.ne_of_lt hlb))⟩ | go_keep) ((first
        | (go_at_call 102
           with_reducible refine (l2At_any n fine id a ao av _ cap ko co kv cv os wr.drew ?_ HLO.out hko).mono ?_
           · exact HO.out.below HB.out.1.drew
           rintro e w2 ⟨rfl, hb2⟩
           rw [H0.out, H1.out, H2.out, H3.out, H4.out, H5.out, HTT.out]
           have hcr2 := CR.below (CR.drew HB.out) hb2
           obtain ⟨k0, k1, k2, k3, k4⟩ := cells5 hcr2.2.1
           have k5 := (cells2 hcr2.2.2).2
           have k6 := (hb2.cell (p := ⟨b, off + k, none⟩) (block_lt_of_cell HCT.out)).trans HCT.out
           have kS := And.intro k0 (And.intro k1 (And.intro k2 (And.intro k3 (And.intro k4 (And.intro k5 k6)))))
           have CR2 : Hid (CR w w2 _ _) := hcr2
           have RV2 : Hid (w2.heap[gv]? = _) := below_row hb2 (row_lt HRV.out) HRV.out
           clear hb2 hcr2 k0 k1 k2 k3 k4 k5 k6)
        | (go_at_call 102
           with_reducible refine (l2At_any n fine id a ao av _ cap ko co kv cv os (wr.alloc (Obj.cells #[Value.int IntKind.i64 0, Value.int IntKind.i64 0, Value.int IntKind.i64 0, Value.int IntKind.i64 0, Value.int IntKind.i64 0, Value.int IntKind.i64 0] 149)).drew ?_ HLO.out hko).mono ?_
           · exact HO.out.below (CR.alloc HB.out (Obj.cells #[Value.int IntKind.i64 0, Value.int IntKind.i64 0, Value.int IntKind.i64 0, Value.int IntKind.i64 0, Value.int IntKind.i64 0, Value.int IntKind.i64 0] 149)).1.drew
           rintro e w2 ⟨rfl, hb2⟩
           rw [H0.out, H1.out, H2.out, H3.out, H4.out, H5.out, HTT.out]
           have hcr2 := CR.below (CR.drew (CR.alloc HB.out (Obj.cells #[Value.int IntKind.i64 0, Value.int IntKind.i64 0, Value.int IntKind.i64 0, Value.int IntKind.i64 0, Value.int IntKind.i64 0, Value.int IntKind.i64 0] 149))) hb2
           obtain ⟨k0, k1, k2, k3, k4⟩ := cells5 hcr2.2.1
           have k5 := (cells2 hcr2.2.2).2
           have k6 := (hb2.cell (p := ⟨b, off + k, none⟩) (block_lt_of_cell HCA.out)).trans HCA.out
           have kS := And.intro k0 (And.intro k1 (And.intro k2 (And.intro k3 (And.intro k4 (And.intro k5 k6)))))
           have CR2 : Hid (CR w w2 _ _) := hcr2
           have RV2 : Hid (w2.heap[gv]? = _) := below_row hb2 (row_lt HVA.out) HVA.out
           obtain ⟨z0, z1, z2, z3, z4, z5⟩ := cells6 (below_row hb2 (k := wr.heap.size) (by simp) (heap_alloc_new wr (Obj.cells #[Value.int IntKind.i64 0, Value.int IntKind.i64 0, Value.int IntKind.i64 0, Value.int IntKind.i64 0, Value.int IntKind.i64 0, Value.int IntKind.i64 0] 149)))
           have zf := fun i => frozen_of_row _ _ i _ _ (below_row hb2 (k := wr.heap.size) (by simp) (heap_alloc_new wr (Obj.cells #[Value.int IntKind.i64 0, Value.int IntKind.i64 0, Value.int IntKind.i64 0, Value.int IntKind.i64 0, Value.int IntKind.i64 0, Value.int IntKind.i64 0] 149)))
           have RO2 : Hid (w2.heap[wr.heap.size]? = _) := below_row hb2 (k := wr.heap.size) (by simp) (heap_alloc_new wr (Obj.cells #[Value.int IntKind.i64 0, Value.int IntKind.i64 0, Value.int IntKind.i64 0, Value.int IntKind.i64 0, Value.int IntKind.i64 0, Value.int IntKind.i64 0] 149))
           clear hb2 hcr2 k0 k1 k2 k3 k4 k5 k6)))
      all_goals (first
        | (have CRW : Hid (CR w (World.setCell (World.setCell (World.setCell (World.setCell (World.setCell (World.setCell w2 ⟨wr.heap.size, 0, none⟩ (Value.int IntKind.i64 o0)) ⟨wr.heap.size, 1, none⟩ (Value.int IntKind.i64 o1)) ⟨wr.heap.size, 2, none⟩ (Value.int IntKind.i64 o2)) ⟨wr.heap.size, 3, none⟩ (Value.int IntKind.i64 o3)) ⟨wr.heap.size, 4, none⟩ (Value.int IntKind.i64 o4)) ⟨wr.heap.size, 5, none⟩ (Value.int IntKind.i64 o5)) _ _) := CR.set (CR.set (CR.set (CR.set (CR.set (CR.set CR2.out HB.out.big) HB.out.big) HB.out.big) HB.out.big) HB.out.big) HB.out.big
           have RVW : Hid ((World.setCell (World.setCell (World.setCell (World.setCell (World.setCell (World.setCell w2 ⟨wr.heap.size, 0, none⟩ (Value.int IntKind.i64 o0)) ⟨wr.heap.size, 1, none⟩ (Value.int IntKind.i64 o1)) ⟨wr.heap.size, 2, none⟩ (Value.int IntKind.i64 o2)) ⟨wr.heap.size, 3, none⟩ (Value.int IntKind.i64 o3)) ⟨wr.heap.size, 4, none⟩ (Value.int IntKind.i64 o4)) ⟨wr.heap.size, 5, none⟩ (Value.int IntKind.i64 o5)).heap[gv]? = _) := row_set' (row_set' (row_set' (row_set' (row_set' (row_set' RV2.out (Nat.ne_of_lt (row_lt HRV.out))) (Nat.ne_of_lt (row_lt HRV.out))) (Nat.ne_of_lt (row_lt HRV.out))) (Nat.ne_of_lt (row_lt HRV.out))) (Nat.ne_of_lt (row_lt HRV.out))) (Nat.ne_of_lt (row_lt HRV.out))
           have ROW : Hid ((World.setCell (World.setCell (World.setCell (World.setCell (World.setCell (World.setCell w2 ⟨wr.heap.size, 0, none⟩ (Value.int IntKind.i64 o0)) ⟨wr.heap.size, 1, none⟩ (Value.int IntKind.i64 o1)) ⟨wr.heap.size, 2, none⟩ (Value.int IntKind.i64 o2)) ⟨wr.heap.size, 3, none⟩ (Value.int IntKind.i64 o3)) ⟨wr.heap.size, 4, none⟩ (Value.int IntKind.i64 o4)) ⟨wr.heap.size, 5, none⟩ (Value.int IntKind.i64 o5)).heap[wr.heap.size]? = _) := row_set6 RO2.out
           clear kS CR2 RV2 RO2 HCT HCA HVA ct z0 z1 z2 z3 z4 z5 zf
           generalize (World.setCell (World.setCell (World.setCell (World.setCell (World.setCell (World.setCell w2 ⟨wr.heap.size, 0, none⟩ (Value.int IntKind.i64 o0)) ⟨wr.heap.size, 1, none⟩ (Value.int IntKind.i64 o1)) ⟨wr.heap.size, 2, none⟩ (Value.int IntKind.i64 o2)) ⟨wr.heap.size, 3, none⟩ (Value.int IntKind.i64 o3)) ⟨wr.heap.size, 4, none⟩ (Value.int IntKind.i64 o4)) ⟨wr.heap.size, 5, none⟩ (Value.int IntKind.i64 o5)) = W at *
           generalize wr.heap.size = g at *)
        | (have CRW : Hid (CR w (w2.alloc (Obj.cells #[Value.int IntKind.i64 o0, Value.int IntKind.i64 o1, Value.int IntKind.i64 o2, Value.int IntKind.i64 o3, Value.int IntKind.i64 o4, Value.int IntKind.i64 o5] 149)) _ _) := CR.alloc CR2.out _
           have RVW : Hid ((w2.alloc (Obj.cells #[Value.int IntKind.i64 o0, Value.int IntKind.i64 o1, Value.int IntKind.i64 o2, Value.int IntKind.i64 o3, Value.int IntKind.i64 o4, Value.int IntKind.i64 o5] 149)).heap[gv]? = _) := (heap_alloc_old _ _ (row_lt RV2.out)).trans RV2.out
           have ROW : Hid ((w2.alloc (Obj.cells #[Value.int IntKind.i64 o0, Value.int IntKind.i64 o1, Value.int IntKind.i64 o2, Value.int IntKind.i64 o3, Value.int IntKind.i64 o4, Value.int IntKind.i64 o5] 149)).heap[w2.heap.size]? = _) := heap_alloc_new _ _
           clear kS CR2 RV2 HCT HCA HVA ct
           generalize w2.alloc (Obj.cells #[Value.int IntKind.i64 o0, Value.int IntKind.i64 o1, Value.int IntKind.i64 o2, Value.int IntKind.i64 o3, Value.int IntKind.i64 o4, Value.int IntKind.i64 o5] 149) = W at *
           generalize w2.heap.size = g at *))
      all_goals
        clear c0 c1 c2' c3 c4 d0 d1 hlw hlr hlb HTT
        generalize tt = tt'
        obtain ⟨c0, c1, c2', c3, c4⟩ := cells5 CRW.out.2.1
        obtain ⟨p0, p1, p2, p3, p4, p5⟩ := cells6 ROW.out
        go_wp2_with fail
        clear c0 c1 c2' c3 c4 p0 p1 p2 p3 p4 p5
        refine (l1Time_is' n p o1 _ _ zs _ d HD.out HMAT.out HPB.out HO1.out (HA.out.below CRW.out.1)).mono ?_
        rintro e W3 ⟨rfl, hb3⟩
        have CR3 : Hid (CR w W3 _ _) := CRW.out.below hb3
        have RV3 : Hid (W3.heap[gv]? = _) := below_row hb3 (row_lt RVW.out) RVW.out
        have RO3 : Hid (W3.heap[g]? = _) := below_row hb3 (row_lt ROW.out) ROW.out
        clear hb3 CRW RVW ROW
        obtain ⟨p0, p1, p2, p3, p4, p5⟩ := cells6 RO3.out
        go_wp2
        go_roundw
        case rel => exact ⟨k + 1, by omega, by go_num, by rw [← K1.out]; rfl, by rw [HNX.out], CR3.out, RV3.out⟩
        case measure => simp [intOf]; omega
    · have hkl : k = ids.length := by omega
      obtain ⟨q0, q1, q2, q3, q4⟩ := cells5 HRV.out
      have HE : Hid (r = f + tmI n zs p v1) := by
        have := HV1.out
        unfold rideV at this
        rw [← hkl, HFR.out, HPL.out] at this
        exact this.symm
      clear hkl
      obtain ⟨d, HD⟩ : ∃ t, Hid (tmI n zs p v1 = t) := ⟨_, rfl⟩
      have hdb := tmI_bd HMAT.out p v1
      rw [HD.out] at hdb HE
      go_wp2_with fail
      refine (l1Time_is' n p v1 _ _ zs _ d HD.out HMAT.out HPB.out HX1.out (HA.out.below HB.out.1)).mono ?_
      rintro e W3 ⟨rfl, hb3⟩
      have HB3 : Hid (Below w.heap.size w W3) := HB.out.1.trans (hb3.mono HB.out.1.size)
      clear hb3
      go_wp2
      go_ret
      exact ⟨ret_int HE.out.symm, HB3.out⟩

end Go.Proofs.Ytpfikhegmmpogaa

namespace Go.Proofs.Ytpfikhegmmpogaa
open Go.RowKit

/-- spec.BestRoute's boxes: the case, the answer, the best route so far, which owns its stops. -/
structure SB (w W : World) (cs : Array Value) (veh : Int) (m : Nat) (ids : List Int) (s : PS) : Prop where
  b : Below w.heap.size w W
  c : W.heap[w.heap.size]? = some (.cells cs 30 (0, 0))
  t : W.heap[w.heap.size + 1]? = some (.cells #[Value.int IntKind.i64 0, Value.slice none 0 0] 34 (0, 0))
  o : ∃ ad cc, W.heap[w.heap.size + 1 + 1]? = some (.cells #[.int .i64 (chI s.f veh), .slice ad (chL s.f (unr m ids s.i)).length cc] 34 (0, 0)) ∧ W.ownsRow (w.heap.size + 1 + 1 + 1) 2 1 (.slice ad (chL s.f (unr m ids s.i)).length cc) (chL s.f (unr m ids s.i)).length ((chL s.f (unr m ids s.i)).map (Value.int .i64))
theorem SB.below {w W W' : World} {cs : Array Value} {veh : Int} {m : Nat} {ids : List Int} {s : PS} (h : SB w W cs veh m ids s) (hb : Below W.heap.size W W') : SB w W' cs veh m ids s := by
  obtain ⟨ad, cc, h1, h2⟩ := h.o
  exact ⟨h.b.trans (hb.mono h.b.size), below_row hb (row_lt h.c) h.c, below_row hb (row_lt h.t) h.t, ad, cc, below_row hb (row_lt h1) h1, owns_below h2 hb⟩
theorem SB.size {w W : World} {cs : Array Value} {veh : Int} {m : Nat} {ids : List Int} {s : PS} (h : SB w W cs veh m ids s) : w.heap.size + 1 + 1 + 1 ≤ W.heap.size := by
  obtain ⟨_, _, h1, _⟩ := h.o
  exact row_lt h1
theorem SB.new (w : World) (cs : Array Value) (veh : Int) (m : Nat) (ids : List Int) : SB w (((w.alloc (.cells cs 30)).alloc (.cells #[Value.int IntKind.i64 0, Value.slice none 0 0] 34)).alloc (.cells #[Value.int IntKind.i64 0, Value.slice none 0 0] 34)) cs veh m ids ps0 := by
  have b2 : Below (w.heap.size + 1 + 1) ((w.alloc (.cells cs 30)).alloc (.cells #[Value.int IntKind.i64 0, Value.slice none 0 0] 34)) (((w.alloc (.cells cs 30)).alloc (.cells #[Value.int IntKind.i64 0, Value.slice none 0 0] 34)).alloc (.cells #[Value.int IntKind.i64 0, Value.slice none 0 0] 34)) := (Below.refl _ _).alloc (by simp) _
  refine ⟨(((Below.refl _ _).alloc (Nat.le_refl _) _).alloc (by simp) _).alloc (by simp; omega) _, (b2.block _ (by omega)).trans (heap_alloc2_old _ _ _), (b2.block _ (by omega)).trans (heap_alloc2_new _ _ _), none, 0, ?_, World.ownsRow_nil _ _ _ _⟩
  have := heap_alloc_new ((w.alloc (.cells cs 30)).alloc (.cells #[Value.int IntKind.i64 0, Value.slice none 0 0] 34)) (.cells #[Value.int IntKind.i64 0, Value.slice none 0 0] 34)
  show _ = some (Obj.cells #[Value.int IntKind.i64 0, Value.slice none 0 0] 34 (0, 0))
  simpa using this
/-- Another one is the best. -/
theorem SB.put {w W : World} {cs : Array Value} {veh : Int} {m : Nat} {ids : List Int} {s : PS} (h : SB w W cs veh m ids s) (k : Nat) (D : Int) (ad : Option Addr) (cc : Nat) (ho : W.ownsRow (w.heap.size + 1 + 1 + 1) 2 1 (.slice ad (unr m ids k).length cc) (unr m ids k).length ((unr m ids k).map (Value.int .i64))) :
    SB w ((W.setCell ⟨w.heap.size + 1 + 1, 0, none⟩ (.int .i64 veh)).setCell ⟨w.heap.size + 1 + 1, 1, none⟩ (.slice ad (unr m ids k).length cc)) cs veh m ids ⟨true, k, D⟩ := by
  obtain ⟨ad0, cc0, h1, h2⟩ := h.o
  refine ⟨(h.b.setCell (by simp; omega) _).setCell (by simp; omega) _, ?_, ?_, ad, cc, ?_, owns_set (owns_set ho (by omega)) (by omega)⟩
  · rw [heap_setCell_other _ _ _ _ (by simp; omega), heap_setCell_other _ _ _ _ (by simp; omega)]; exact h.c
  · rw [heap_setCell_other _ _ _ _ (by simp), heap_setCell_other _ _ _ _ (by simp)]; exact h.t
  · have s1 := heap_setCell_same W (w.heap.size + 1 + 1) 0 _ _ (Value.int .i64 veh) h1
    have s2 := heap_setCell_same _ (w.heap.size + 1 + 1) 1 _ _ (Value.slice ad (unr m ids k).length cc) s1
    simpa [chI, chL] using s2

set_option maxHeartbeats 4000000 in
theorem specBestRoute_any (n fine veh : Int) (a ao av bi : Option Addr) (cap ko co kv cv c2 : Nat) (zs os vs ids : List Int) (w : World) (hA : IntsAt w a zs) (hO : IntsAt w ao os) (hV : IntsAt w av vs) (hlo : os.length = ko * 6) (hlv : vs.length = kv * 5) (hko : ko ≤ 9223372036854775807) (hkv : kv ≤ 9223372036854775807) (hli : ids.length ≤ 9223372036854775807) (hpm : ∀ W (k : Nat), Below w.heap.size w W → k < facN ids.length ∧ ids.length ≤ 6 → Calls Try.prog 57 #[.slice bi ids.length c2, .int .i64 (k : Int)] W fun e w' => ∃ sl, e = .returned (.tuple #[sl, .bool true]) ∧ Below W.heap.size W w' ∧ w'.ownsRow W.heap.size 2 1 sl (unr ids.length ids k).length ((unr ids.length ids k).map (Value.int .i64))) (s0 : PS) (hs0 : brV (caseB n zs os vs ko kv fine) n zs os vs ko kv veh ids = s0) (xs : List Int) (hxs : chL s0.f (unr ids.length ids s0.i) = xs) :
    Calls Try.prog 11 #[.agg #[.int .i64 n, .slice a zs.length cap, .slice ao ko co, .slice av kv cv, .int .i64 fine], .int .i64 veh, .slice bi ids.length c2] w (ChgOk w s0.f veh s0.v xs) := by
  have HA : Hid (IntsAt w a zs) := hA
  have HO : Hid (IntsAt w ao os) := hO
  have HV : Hid (IntsAt w av vs) := hV
  have HLO : Hid (os.length = ko * 6) := hlo
  have HLV : Hid (vs.length = kv * 5) := hlv
  have HS0 : Hid (brV (caseB n zs os vs ko kv fine) n zs os vs ko kv veh ids = s0) := hs0
  have HXS : Hid (chL s0.f (unr ids.length ids s0.i) = xs) := hxs
  have HPM : Hid (∀ W (k : Nat), Below w.heap.size w W → k < facN ids.length ∧ ids.length ≤ 6 → Calls Try.prog 57 #[.slice bi ids.length c2, .int .i64 (k : Int)] W fun e w' => ∃ sl, e = .returned (.tuple #[sl, .bool true]) ∧ Below W.heap.size W w' ∧ w'.ownsRow W.heap.size 2 1 sl (unr ids.length ids k).length ((unr ids.length ids k).map (Value.int .i64))) := hpm
  clear hpm hA hO hV hlo hlv hs0 hxs
  obtain ⟨m, HM⟩ : ∃ m, Hid (ids.length = m) := ⟨_, rfl⟩
  rw [HM.out] at hli HPM HXS ⊢
  obtain ⟨cb, HCB⟩ : ∃ v, Hid (caseB n zs os vs ko kv fine = v) := ⟨_, rfl⟩
  obtain ⟨F, HF⟩ : ∃ F, Hid (brN ids = F) := ⟨_, rfl⟩
  have hF7 : F ≤ 720 := by rw [← HF.out]; exact brN_bd ids
  have HCT : Hid (∀ k : Nat, ((k : Int) < countV m ↔ k < F)) := fun k => by
    rw [← HF.out]
    by_cases h6 : m ≤ 6
    · rw [countV_yes h6, fac_nat, brN_yes (by rw [HM.out]; exact h6), HM.out]
      omega
    · rw [brN_no (by rw [HM.out]; exact h6), countV_no (inB_not (by omega))]
      omega
  have HF6 : Hid (∀ k, k < F → k < facN m ∧ m ≤ 6) := fun k hk => by
    by_cases h6 : m ≤ 6
    · have := HF.out
      rw [brN_yes (by rw [HM.out]; exact h6), HM.out] at this
      exact ⟨by omega, h6⟩
    · have := HF.out
      rw [brN_no (by rw [HM.out]; exact h6)] at this
      omega
  obtain ⟨cv0, HCV⟩ : ∃ v, Hid (countV m = v) := ⟨_, rfl⟩
  rw [HCV.out] at HCT
  have HPS : Hid (pst (brB cb n zs os vs ko kv veh ids) (brC n zs os vs ko kv veh ids) F = s0) := by
    show _ = _
    have := HS0.out
    unfold brV at this
    rw [HCB.out, HF.out] at this
    exact this
  clear HS0
  have C0 : Hid (SB w (((w.alloc (.cells #[.int .i64 n, .slice a zs.length cap, .slice ao ko co, .slice av kv cv, .int .i64 fine] 30)).alloc (.cells #[Value.int IntKind.i64 0, Value.slice none 0 0] 34)).alloc (.cells #[Value.int IntKind.i64 0, Value.slice none 0 0] 34)) #[.int .i64 n, .slice a zs.length cap, .slice ao ko co, .slice av kv cv, .int .i64 fine] veh m ids ps0) := SB.new w _ _ _ _
  go_enter Try.func11, Try.ntmps11
  go_wp2_with fail
  go_loopw [10, 11, 12] (fun tc tf t wr => ∃ k : Nat, k ≤ F ∧ t = .int .i64 k ∧ tc = .int .i64 (pst (brB cb n zs os vs ko kv veh ids) (brC n zs os vs ko kv veh ids) k).v ∧ tf = .bool (pst (brB cb n zs os vs ko kv veh ids) (brC n zs os vs ko kv veh ids) k).f ∧ SB w wr #[.int .i64 n, .slice a zs.length cap, .slice ao ko co, .slice av kv cv, .int .i64 fine] veh m ids (pst (brB cb n zs os vs ko kv veh ids) (brC n zs os vs ko kv veh ids) k)) (fun _ _ t _ => F - (intOf t).toNat)
  case atStart => exact ⟨0, Nat.zero_le _, rfl, rfl, rfl, C0.out⟩
  case round =>
    clear C0
    obtain ⟨k, hk, rfl, rfl, rfl, hC⟩ := hrel
    have HNX : Hid (pst (brB cb n zs os vs ko kv veh ids) (brC n zs os vs ko kv veh ids) (k + 1) = pstep (brB cb n zs os vs ko kv veh ids) (brC n zs os vs ko kv veh ids) (pst (brB cb n zs os vs ko kv veh ids) (brC n zs os vs ko kv veh ids) k) k) := rfl
    obtain ⟨s, HS⟩ : ∃ t, Hid (pst (brB cb n zs os vs ko kv veh ids) (brC n zs os vs ko kv veh ids) k = t) := ⟨_, rfl⟩
    rw [HS.out] at HNX hC ⊢
    have C1 : Hid (SB w wr #[.int .i64 n, .slice a zs.length cap, .slice ao ko co, .slice av kv cv, .int .i64 fine] veh m ids s) := hC
    clear hC
    have hct := HCT.out k
    by_cases hlt : k < F
    · have hcl : (k : Int) < cv0 := hct.2 hlt
      obtain ⟨hkm, hm6⟩ := HF6.out k hlt
      obtain ⟨sf, si, sv⟩ := s
      simp only at HNX ⊢
      obtain ⟨L, HL⟩ : ∃ L, Hid (unr m ids k = L) := ⟨_, rfl⟩
      have HLL : Hid (L.length = m) := by show _ = _; rw [← HL.out]; exact unr_length m ids k HM.out hkm
      obtain ⟨D, HD⟩ : ∃ D, Hid (brC n zs os vs ko kv veh ids k = D) := ⟨_, rfl⟩
      obtain ⟨o, HOO⟩ : ∃ o, Hid (brB cb n zs os vs ko kv veh ids k = o) := ⟨_, rfl⟩
      have HKO : Hid (decide (codeV (caseB n zs os vs ko kv fine) n zs os vs ko kv veh L = 0) = o) := by
        show _ = _
        rw [HCB.out, ← HL.out, ← HM.out]
        exact HOO.out
      have HKC : Hid (o = true → rideV n zs (rosOf os ko L) L.length (fnd5F vs kv veh 1) = D) := fun h => by
        have hc : codeV (caseB n zs os vs ko kv fine) n zs os vs ko kv veh L = 0 := of_decide_eq_true (HKO.out.trans h)
        rw [← rc_of' hc, ← HD.out, ← HL.out, ← HM.out]
        rfl
      have HP : Hid (∀ W, Below w.heap.size w W → Calls Try.prog 57 #[.slice bi m c2, .int .i64 (k : Int)] W fun e w' => ∃ sl, e = .returned (.tuple #[sl, .bool true]) ∧ Below W.heap.size W w' ∧ w'.ownsRow W.heap.size 2 1 sl m (L.map (Value.int .i64))) := fun W hb => by
        have := HPM.out W k hb ⟨hkm, hm6⟩
        rw [HL.out, HLL.out] at this
        exact this
      go_wp2_with (first | (go_at_call 28; refine (specCount_any _ _).mono ?_; rintro e w' ⟨rfl, hw'⟩; subst w'; rw [HCV.out]))
      refine (HP.out _ C1.out.b).mono ?_
      rintro e w2 ⟨sl, rfl, hb, ho⟩
      obtain ⟨ad, cc, e2⟩ := own_any4 ho
      subst e2
      have CI := own_at_cap4 ho
      have C2 : Hid (SB w (w2.alloc (.cells #[.int .i64 veh, .slice ad m cc] 34)) #[.int .i64 n, .slice a zs.length cap, .slice ao ko co, .slice av kv cv, .int .i64 fine] veh m ids ⟨sf, si, sv⟩) := (C1.out.below hb).below ((Below.refl _ _).alloc (Nat.le_refl _) _)
      have R2 : Hid ((w2.alloc (.cells #[.int .i64 veh, .slice ad m cc] 34)).heap[w2.heap.size]? = some (.cells #[.int .i64 veh, .slice ad m cc] 34 (0, 0))) := heap_alloc_new _ _
      have O2 : Hid ((w2.alloc (.cells #[.int .i64 veh, .slice ad m cc] 34)).ownsRow (w.heap.size + 1 + 1 + 1) 2 1 (.slice ad m cc) m (L.map (Value.int .i64))) := (owns_base ho C1.out.size).alloc _
      have I2 : Hid (IntsAt (w2.alloc (.cells #[.int .i64 veh, .slice ad m cc] 34)) ad L) := CI.1.below ((Below.refl _ _).alloc (Nat.le_refl _) _)
      have hmc := CI.2
      clear hb ho CI C1
      obtain ⟨c0, c1, c2', c3, c4⟩ := cells5 C2.out.c
      obtain ⟨d0, d1⟩ := cells2 R2.out
      go_wp2_with fail
      clear c0 c1 c2' c3 c4 d0 d1
      generalize w2.alloc (.cells #[.int .i64 veh, .slice ad m cc] 34) = W2 at *
      obtain ⟨pr, HPR⟩ : ∃ v, Hid (w2.heap.size = v) := ⟨_, rfl⟩
      rw [HPR.out] at R2 ⊢
      have HOKC : Hid (Calls Try.prog 58 #[.agg #[.int .i64 n, .slice a zs.length cap, .slice ao ko co, .slice av kv cv, .int .i64 fine], .agg #[.int .i64 veh, .slice ad m cc]] W2 fun e w' => e = .returned (.bool o) ∧ Below W2.heap.size W2 w') := by
        have := l3Ok_any n fine veh a ao av ad cap ko co kv cv cc zs os vs L W2 (HA.out.below C2.out.b) (HO.out.below C2.out.b) (HV.out.below C2.out.b) I2.out HLO.out HLV.out hko hkv (by rw [HLL.out]; exact hli) (by rw [HLL.out]; exact hmc) o HKO.out
        rw [HLL.out] at this
        exact this
      refine HOKC.out.mono ?_
      rintro e w3 ⟨rfl, hb⟩
      have C3 : Hid (SB w w3 #[.int .i64 n, .slice a zs.length cap, .slice ao ko co, .slice av kv cv, .int .i64 fine] veh m ids ⟨sf, si, sv⟩) := C2.out.below hb
      have R3 : Hid (w3.heap[pr]? = some (.cells #[.int .i64 veh, .slice ad m cc] 34 (0, 0))) := below_row hb (row_lt R2.out) R2.out
      have O3 : Hid (w3.ownsRow (w.heap.size + 1 + 1 + 1) 2 1 (.slice ad m cc) m (L.map (Value.int .i64))) := owns_below O2.out hb
      have I3 : Hid (IntsAt w3 ad L) := I2.out.below hb
      clear hb C2 R2 O2 I2 HOKC HP
      cases o
      · have HNS : Hid (pst (brB cb n zs os vs ko kv veh ids) (brC n zs os vs ko kv veh ids) (k + 1) = ⟨sf, si, sv⟩) := HNX.out.trans (pstep_no1 HOO.out)
        go_wp2
        first
          | exact ⟨⟨k + 1, by omega, by first | rfl | go_num, by rw [HNS.out], by rw [HNS.out], by rw [HNS.out]; exact C3.out⟩, by simp [intOf]; omega⟩
          | (go_roundw
             case rel => exact ⟨k + 1, by omega, by first | rfl | go_num, by rw [HNS.out], by rw [HNS.out], by rw [HNS.out]; exact C3.out⟩
             case measure => simp [intOf]; omega)
      · have hcode : codeV (caseB n zs os vs ko kv fine) n zs os vs ko kv veh L = 0 := of_decide_eq_true HKO.out
        have HCS : Hid (∀ W, Below w.heap.size w W → IntsAt W ad L → Calls Try.prog 59 #[.agg #[.int .i64 n, .slice a zs.length cap, .slice ao ko co, .slice av kv cv, .int .i64 fine], .agg #[.int .i64 veh, .slice ad m cc]] W fun e w' => e = .returned (.int .i64 D) ∧ Below W.heap.size W w') := fun W hb hI => by
          have := l3Cost_any n fine veh a ao av ad cap ko co kv cv cc zs os vs L W (HA.out.below hb) (HO.out.below hb) (HV.out.below hb) hI HLO.out HLV.out hko hkv (by rw [HLL.out]; exact hli) hcode
          rw [HKC.out rfl, HLL.out] at this
          exact this
        clear hcode
        obtain ⟨c0, c1, c2', c3, c4⟩ := cells5 C3.out.c
        obtain ⟨d0, d1⟩ := cells2 R3.out
        go_wp2_with fail
        clear c0 c1 c2' c3 c4 d0 d1
        refine (HCS.out _ C3.out.b I3.out).mono ?_
        rintro e w4 ⟨rfl, hb⟩
        have C4 : Hid (SB w w4 #[.int .i64 n, .slice a zs.length cap, .slice ao ko co, .slice av kv cv, .int .i64 fine] veh m ids ⟨sf, si, sv⟩) := C3.out.below hb
        have R4 : Hid (w4.heap[pr]? = some (.cells #[.int .i64 veh, .slice ad m cc] 34 (0, 0))) := below_row hb (row_lt R3.out) R3.out
        have O4 : Hid (w4.ownsRow (w.heap.size + 1 + 1 + 1) 2 1 (.slice ad (unr m ids k).length cc) (unr m ids k).length ((unr m ids k).map (Value.int .i64))) := by
          rw [HL.out, HLL.out]
          exact owns_below O3.out hb
        have P4 : Hid (SB w ((w4.setCell ⟨w.heap.size + 1 + 1, 0, none⟩ (.int .i64 veh)).setCell ⟨w.heap.size + 1 + 1, 1, none⟩ (.slice ad m cc)) #[.int .i64 n, .slice a zs.length cap, .slice ao ko co, .slice av kv cv, .int .i64 fine] veh m ids ⟨true, k, D⟩) := by
          have := C4.out.put k D ad cc O4.out
          rw [HL.out, HLL.out] at this
          exact this
        clear hb C3 R3 O3 I3 HCS
        obtain ⟨d0, d1⟩ := cells2 R4.out
        obtain ⟨ad0, cc0, h1, -⟩ := C4.out.o
        obtain ⟨b0, b1⟩ := cells2 h1
        have bf := fun i => frozen_of_row _ _ i _ _ h1
        clear h1
        cases sf
        · have HNS : Hid (pst (brB cb n zs os vs ko kv veh ids) (brC n zs os vs ko kv veh ids) (k + 1) = ⟨true, k, D⟩) := HNX.out.trans (by rw [← HD.out]; exact pstep_new HOO.out rfl)
          go_wp2
          first
            | exact ⟨⟨k + 1, by omega, by first | rfl | go_num, by rw [HNS.out], by rw [HNS.out], by rw [HNS.out]; exact P4.out⟩, by simp [intOf]; omega⟩
            | (go_roundw
               case rel => exact ⟨k + 1, by omega, by first | rfl | go_num, by rw [HNS.out], by rw [HNS.out], by rw [HNS.out]; exact P4.out⟩
               case measure => simp [intOf]; omega)
        · by_cases hdv : D < sv
          · have HNS : Hid (pst (brB cb n zs os vs ko kv veh ids) (brC n zs os vs ko kv veh ids) (k + 1) = ⟨true, k, D⟩) := HNX.out.trans (by rw [← HD.out]; exact pstep_yes HOO.out (by rw [HD.out]; exact hdv))
            go_wp2
            first
              | exact ⟨⟨k + 1, by omega, by first | rfl | go_num, by rw [HNS.out], by rw [HNS.out], by rw [HNS.out]; exact P4.out⟩, by simp [intOf]; omega⟩
              | (go_roundw
                 case rel => exact ⟨k + 1, by omega, by first | rfl | go_num, by rw [HNS.out], by rw [HNS.out], by rw [HNS.out]; exact P4.out⟩
                 case measure => simp [intOf]; omega)
          · have HNS : Hid (pst (brB cb n zs os vs ko kv veh ids) (brC n zs os vs ko kv veh ids) (k + 1) = ⟨true, si, sv⟩) := HNX.out.trans (pstep_no2 rfl (by rw [HD.out]; exact hdv))
            go_wp2
            first
              | exact ⟨⟨k + 1, by omega, by first | rfl | go_num, by rw [HNS.out], by rw [HNS.out], by rw [HNS.out]; exact C4.out⟩, by simp [intOf]; omega⟩
              | (go_roundw
                 case rel => exact ⟨k + 1, by omega, by first | rfl | go_num, by rw [HNS.out], by rw [HNS.out], by rw [HNS.out]; exact C4.out⟩
                 case measure => simp [intOf]; omega)
    · have hcl : ¬ ((k : Int) < cv0) := fun h => hlt (hct.1 h)
      have hke : k = F := by omega
      have HE : Hid (s = s0) := by show s = s0; rw [← HS.out, hke]; exact HPS.out
      rw [HE.out] at C1 ⊢
      clear hke HE HS HNX
      obtain ⟨ad, cc, h1, h2⟩ := C1.out.o
      rw [HXS.out] at h1 h2
      obtain ⟨sf, si, sv⟩ := s0
      simp only at h1 h2 ⊢
      have O2 : Hid (wr.ownsRow (w.heap.size + 1 + 1 + 1) 2 1 (.slice ad xs.length cc) xs.length (xs.map (Value.int .i64))) := h2
      obtain ⟨ci, HCI⟩ : ∃ v, Hid (chI sf veh = v) := ⟨_, rfl⟩
      rw [HCI.out] at h1
      obtain ⟨b0, b1⟩ := cells2 h1
      obtain ⟨t0, t1⟩ := cells2 C1.out.t
      have tf := fun i => frozen_of_row _ _ i _ _ C1.out.t
      clear h1 h2
      go_wp2_with (first | (go_at_call 28; refine (specCount_any _ _).mono ?_; rintro e w' ⟨rfl, hw'⟩; subst w'; rw [HCV.out]))
      refine bodyPost_ret (v := .tuple #[.agg #[.int .i64 ci, .slice ad xs.length cc], .int .i64 sv, .bool sf]) (by simp [results, Try.results11, go_sem, t0, t1]) rfl ⟨?_, ad, cc, by rw [HCI.out], ?_⟩
      · repeat (first | with_reducible exact C1.out.b | refine Below.setCell ?_ (by simp <;> omega) _)
      · exact owns_base (owns_set (owns_set O2.out (by omega)) (by omega)) (by omega)

end Go.Proofs.Ytpfikhegmmpogaa

namespace Go.Proofs.Ytpfikhegmmpogaa
open Go.RowKit

set_option maxHeartbeats 2000000 in
theorem specPermuted_nil (w : World) :
    Calls Try.prog 57 #[.slice none 0 0, .int .i64 0] w fun e w' => ∃ sl, e = .returned (.tuple #[sl, .bool true]) ∧ Below w.heap.size w w' ∧ w'.ownsRow w.heap.size 2 1 sl 0 (([] : List Int).map (Value.int .i64)) := by
  have HCV : Hid (countV 0 = 1) := by show countV ((0 : Nat) : Int) = 1; rw [countV_yes (by omega)]; rfl
  have hin : inB 0 0 0 = true := by decide
  have hin2 : inB (0 : Int) 0 (1 - 1) = true := by decide
  have O2 : Hid (((w.alloc (.cells #[] 2)).alloc (.cells #[] 2)).ownsRow w.heap.size 2 1 (.slice (some ⟨w.heap.size + 1, 0, none⟩) 0 0) 0 (([] : List Int).map (Value.int .i64))) := by
    refine ⟨rfl, .inr ⟨w.heap.size + 1, 0, #[], rfl, by omega, ?_, Nat.le_refl _, by unfold maxLen; omega, rfl, rfl⟩⟩
    have := heap_alloc_new (w.alloc (.cells #[] 2)) (.cells #[] 2)
    simpa using this
  have B2 : Hid (Below w.heap.size w ((w.alloc (.cells #[] 2)).alloc (.cells #[] 2))) := ((Below.refl _ _).alloc (Nat.le_refl _) _).alloc (by simp) _
  go_enter Try.func57, Try.ntmps57
  go_wp2_with (first
    | (go_at_call 28; refine (specCount_any _ _).mono ?_; rintro e w' ⟨rfl, hw'⟩; subst w'; rw [HCV.out])
    | (go_at_call 78; refine (l1In_any _ _ _ _).mono ?_; rintro e w' ⟨rfl, hw'⟩; subst w'))
  go_loop [7, 8] (fun lv ov => lv = .slice (some ⟨w.heap.size, 0, none⟩) 0 0 ∧ ov = .slice (some ⟨w.heap.size + 1, 0, none⟩) 0 0) (fun _ _ => 0)
  case atStart => exact ⟨rfl, rfl⟩
  case round =>
    obtain ⟨rfl, rfl⟩ := hrel
    go_wp2
    refine bodyPost_ret (v := .tuple #[.slice (some ⟨w.heap.size + 1, 0, none⟩) 0 0, .bool true]) (by simp [results, Try.results57, go_sem]) rfl ⟨_, rfl, B2.out, O2.out⟩

end Go.Proofs.Ytpfikhegmmpogaa
