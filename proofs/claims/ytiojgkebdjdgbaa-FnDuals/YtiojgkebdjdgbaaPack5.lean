import Derived.Test.YtiojgkebdjdgbaaPack0
import Derived.Test.YtiojgkebdjdgbaaPack2
import Derived.Test.YtiojgkebdjdgbaaPack3
namespace Go.Proofs.Ytiojgkebdjdgbaa
open Go.RowKit

/-- What rowsOf holds while it grows its rows. -/
def GB (w : World) (c b : Nat) (sl : Value) (rows : List (List Nat)) : Prop :=
  w.heap[b]? = some (.cells #[.int .i64 c] 2 (0, 0)) ∧ w.heap[b + 1]? = some (.cells #[sl] 56 (0, 0)) ∧
  w.heap[b + 2]? = some (.cells #[.func (.func 58) #[] #[.pointer (some ⟨b, 0, none⟩), .pointer (some ⟨b + 1, 0, none⟩), .pointer (some ⟨b + 2, 0, none⟩)]] 78 (0, 0)) ∧
  w.ownsRow (b + 3) 55 6 sl rows.length ((flatR rows).map (Value.int .i64))
theorem GB.o {w : World} {c b : Nat} {sl : Value} {rows : List (List Nat)} (h : GB w c b sl rows) : w.ownsRow (b + 3) 55 6 sl rows.length ((flatR rows).map (Value.int .i64)) := h.2.2.2
theorem GB.size {w : World} {c b : Nat} {sl : Value} {rows : List (List Nat)} (h : GB w c b sl rows) : b + 3 ≤ w.heap.size := row_lt h.2.2.1
theorem GB.alloc {w : World} {c b : Nat} {sl : Value} {rows : List (List Nat)} (h : GB w c b sl rows) (o : Obj) : GB (w.alloc o) c b sl rows :=
  ⟨(heap_alloc_old _ _ (row_lt h.1)).trans h.1, (heap_alloc_old _ _ (row_lt h.2.1)).trans h.2.1, (heap_alloc_old _ _ (row_lt h.2.2.1)).trans h.2.2.1, h.o.alloc o⟩
theorem GB.cells {w : World} {c b : Nat} {sl : Value} {rows : List (List Nat)} (h : GB w c b sl rows) : w.cell? ⟨b, 0, none⟩ = some (.int .i64 c) ∧ w.cell? ⟨b + 1, 0, none⟩ = some sl ∧
    w.cell? ⟨b + 2, 0, none⟩ = some (.func (.func 58) #[] #[.pointer (some ⟨b, 0, none⟩), .pointer (some ⟨b + 1, 0, none⟩), .pointer (some ⟨b + 2, 0, none⟩)]) := by
  refine ⟨?_, ?_, ?_⟩
  · rw [cell_of_row _ _ 0 _ _ _ h.1]; simp
  · rw [cell_of_row _ _ 0 _ _ _ h.2.1]; simp
  · rw [cell_of_row _ _ 0 _ _ _ h.2.2.1]; simp
theorem GB.set {w : World} {c b g i : Nat} {sl u : Value} {rows : List (List Nat)} (h : GB w c b sl rows) (hg : b + 3 ≤ g) (hne : some g ≠ sl.ownBlock) : GB (w.setCell ⟨g, i, none⟩ u) c b sl rows := by
  refine ⟨?_, ?_, ?_, ?_⟩
  · rw [heap_setCell_other _ _ _ _ (by simp; omega)]; exact h.1
  · rw [heap_setCell_other _ _ _ _ (by simp; omega)]; exact h.2.1
  · rw [heap_setCell_other _ _ _ _ (by simp; omega)]; exact h.2.2.1
  · exact ownsRow_setCell_other h.o (fun e => hne e.symm) u

/-- What is kept: all below b, and of what else was there all but the rows. -/
def RF (w w' : World) (b : Nat) (sl sl' : Value) : Prop := Below b w w' ∧ w.heap.size ≤ w'.heap.size ∧ ∀ g o, b + 3 ≤ g → w.heap[g]? = some o → some g ≠ sl.ownBlock → w'.heap[g]? = some o ∧ some g ≠ sl'.ownBlock
theorem RF.refl (w : World) (b : Nat) (sl : Value) : RF w w b sl sl := ⟨Below.refl _ _, Nat.le_refl _, fun _ _ _ h hn => ⟨h, hn⟩⟩
theorem RF.trans {w w1 w2 : World} {b : Nat} {s s1 s2 : Value} (h : RF w w1 b s s1) (h2 : RF w1 w2 b s1 s2) : RF w w2 b s s2 :=
  ⟨h.1.trans h2.1, Nat.le_trans h.2.1 h2.2.1, fun g o hg ho hn => by
    obtain ⟨a1, a2⟩ := h.2.2 g o hg ho hn
    exact h2.2.2 g o hg a1 a2⟩
theorem RF.alloc (w : World) (b : Nat) (sl : Value) (o : Obj) (hb : b ≤ w.heap.size) : RF w (w.alloc o) b sl sl :=
  ⟨(Below.refl _ _).alloc hb _, by simp, fun g _ _ ho hn => ⟨(heap_alloc_old _ _ (row_lt ho)).trans ho, hn⟩⟩

theorem infoRow : (Try.prog.info? 55).map (fun i => (i.zero, i.size, i.bytes)) = some (some (.agg #[Value.int IntKind.i64 0, Value.int IntKind.i64 0, Value.int IntKind.i64 0, Value.int IntKind.i64 0, Value.int IntKind.i64 0, Value.int IntKind.i64 0]), 6, 48) := by kernel_rfl
theorem infoRow2 : (Try.prog.info? 55).map (·.size) = some 6 := by kernel_rfl
theorem sizeRow_of {l : List Int} (h : l.length = 6) : (Try.prog.info? 55).map (·.size) = some (cellsOf l).size := by
  rw [cellsOf_size, h]; exact infoRow2

/-- 'append' of a row to the rows. -/
theorem append_row (w : World) {ops : Array Oper} {rest : List Oper} {o : Oper} {a : Act} {Q : Exit → Act → World → Prop}
    (hg : o.guard = none) (s x : Operand) (hop : o.op = Op.call { callee := Callee.builtin Builtin.append, args := #[s, x], argTypes := #[56, 56] })
    (base : Nat) (v : Value) (k : Nat) (xs : List Value) (hs : a.eval s = v) (hown : w.ownsRow base 55 6 v k xs) (ad : Addr) (c : Nat) (news : List Value) (hx : a.eval x = .slice (some ad) 1 c) (hn : news.length = 6)
    (hc : ∀ j u, news[j]? = some u → w.cell? (ad.add j) = some u) (h1c : ∀ u ∈ news, u.oneCell' = true) (b1 : k ≤ 1000) (hb : base ≤ w.heap.size)
    (hK : ∀ v' w', w'.ownsRow base 55 6 v' (k + 1) (xs ++ news) → w.grownBy w' v.ownBlock → (v'.ownBlock = v.ownBlock ∨ v'.ownBlock = some w.heap.size) → wpList Try.prog ops Q rest (a.put o.dst v') w') :
    wpList Try.prog ops Q (o :: rest) a w := by
  obtain ⟨i0, hi, hz0, hz1, hz2⟩ := info_parts infoRow
  obtain ⟨v', w', hrun, r1, r2, _⟩ := run_append_own (P := Try.prog) w base 56 o.type _ i0 _ 6 48 Try.underlying56 hi hz0 hz1 hz2 rfl (by decide) v k xs hown ad 1 c news (by rw [hn]) hc h1c (by unfold maxLen; omega) (by omega) hb
  have r4 := append_block (P := Try.prog) w base 56 o.type _ i0 _ 6 48 Try.underlying56 hi hz0 hz1 hz2 v k xs hown ad 1 c news (by rw [hn]) hc h1c (by unfold maxLen; omega) (by omega) hrun
  exact wpList_run v' hg (exec_append' s x _ v _ hop hs hx hrun) (hK v' w' r1 r2 r4)
theorem cells6_here (W : World) (o0 o1 o2 o3 o4 o5 : Value) (T : TypeId) (g : Nat) (hg : W.heap.size = g) : ∀ j u, [o0, o1, o2, o3, o4, o5][j]? = some u → (W.alloc (.cells #[o0, o1, o2, o3, o4, o5] T)).cell? ((⟨g, 0, none⟩ : Addr).add j) = some u := by
  intro j u hu
  subst hg
  have hadd : (⟨W.heap.size, 0, none⟩ : Addr).add j = ⟨W.heap.size, j, none⟩ := by unfold Addr.add; split <;> simp_all
  rw [hadd, cell_of_row _ _ j _ _ _ (heap_alloc_new W (.cells #[o0, o1, o2, o3, o4, o5] T))]
  simpa using hu
theorem list6 {l : List Int} (h : l.length = 6) : ∃ c0 c1 c2 c3 c4 c5, l = [c0, c1, c2, c3, c4, c5] := by
  match l, h with
  | [c0, c1, c2, c3, c4, c5], _ => exact ⟨c0, c1, c2, c3, c4, c5, rfl⟩

theorem GB.box {wB w4 : World} {c b : Nat} {sl : Value} {rows : List (List Nat)} (h : GB wB c b sl rows) (hg : wB.grownBy w4 sl.ownBlock) : w4.cell? ⟨b + 1, 0, none⟩ = some sl ∧ w4.frozen? ⟨b + 1, 0, none⟩ = false := by
  have r1 := (hg.block _ (row_lt h.2.1) (fun e => by have := (h.o.lt _ e.symm).1; omega)).trans h.2.1
  exact ⟨by rw [cell_of_row _ _ 0 _ _ _ r1]; simp, frozen_of_row _ _ 0 _ _ r1⟩
/-- A row more, and where it lies written down. -/
theorem GB.more {w wB w4 : World} {c b : Nat} {sl v' : Value} {rows : List (List Nat)} {pre : List Nat} (h : GB wB c b sl rows) (hw : RF w wB b sl sl) (hown : w4.ownsRow (b + 3) 55 6 v' (rows.length + 1) ((flatR rows).map (Value.int .i64) ++ (padL pre).map (Value.int .i64))) (hg : wB.grownBy w4 sl.ownBlock) (hbk : v'.ownBlock = sl.ownBlock ∨ v'.ownBlock = some wB.heap.size) :
    GB (w4.setCell ⟨b + 1, 0, none⟩ v') c b v' (rows ++ [pre]) ∧ RF w (w4.setCell ⟨b + 1, 0, none⟩ v') b sl v' := by
  have hne : ∀ g, g < b + 3 → some g ≠ sl.ownBlock := fun g hg e => by have := (h.o.lt g e.symm).1; omega
  have r0 := (hg.block _ (row_lt h.1) (hne _ (by omega))).trans h.1
  have r1 := (hg.block _ (row_lt h.2.1) (hne _ (by omega))).trans h.2.1
  have r2 := (hg.block _ (row_lt h.2.2.1) (hne _ (by omega))).trans h.2.2.1
  refine ⟨⟨?_, ?_, ?_, ?_⟩, ?_, ?_, ?_⟩
  · rw [heap_setCell_other _ _ _ _ (by simp)]; exact r0
  · rw [heap_setCell_same _ _ _ _ _ _ r1]; rfl
  · rw [heap_setCell_other _ _ _ _ (by simp)]; exact r2
  · rw [List.length_append, flatR_append, flatR_one, List.map_append]
    exact ownsRow_setCell_below hown (by simp) v'
  · have hA := hw.1.trans (((Below.refl b wB).grown hg (by have := h.size; omega) (fun k e => by have := (h.o.lt k e).1; omega)))
    exact hA.setCell (by simp) _
  · have := hw.2.1
    have := hg.size
    simp [World.setCell]
    omega
  · intro g o hgb ho hn
    obtain ⟨a1, a2⟩ := hw.2.2 g o hgb ho hn
    have a3 := (hg.block g (row_lt a1) a2).trans a1
    refine ⟨by rw [heap_setCell_other _ _ _ _ (by simp; omega)]; exact a3, ?_⟩
    rcases hbk with e | e
    · rw [e]; exact a2
    · rw [e]
      have := row_lt a1
      intro e2
      injection e2 with e2
      omega

set_option maxHeartbeats 1000000 in
theorem grow_zero (c : Nat) (b : Nat) (pre : List Nat) (sl : Value) (rows : List (List Nat)) (w : World) (hp : pre.length = c) (hk : rows.length ≤ 720) (hG : GB w c b sl rows) :
    Calls Try.prog 58 #[.agg (cellsOf (padL pre)), .int .i64 (pre.length : Nat), .pointer (some ⟨b, 0, none⟩), .pointer (some ⟨b + 1, 0, none⟩), .pointer (some ⟨b + 2, 0, none⟩)] w fun e w' => e = .returned (.tuple #[]) ∧ ∃ sl', GB w' c b sl' (rows ++ [pre]) ∧ RF w w' b sl sl' := by
  obtain ⟨c0, c1, c2, c3, c4, c5, hpl⟩ := list6 (padL_length pre)
  have HPL : Hid (padL pre = [c0, c1, c2, c3, c4, c5]) := hpl
  rw [hpl, hp]
  clear hpl
  have hcl : cellsOf [c0, c1, c2, c3, c4, c5] = #[.int .i64 c0, .int .i64 c1, .int .i64 c2, .int .i64 c3, .int .i64 c4, .int .i64 c5] := rfl
  rw [hcl]
  clear hcl
  have hcc : ((c : Int) == (c : Int)) = true := by simp
  have HG1 : Hid (GB (w.alloc (.cells #[.int .i64 c0, .int .i64 c1, .int .i64 c2, .int .i64 c3, .int .i64 c4, .int .i64 c5] 55)) c b sl rows) := hG.alloc _
  have HRF : Hid (RF w ((w.alloc (.cells #[.int .i64 c0, .int .i64 c1, .int .i64 c2, .int .i64 c3, .int .i64 c4, .int .i64 c5] 55)).alloc (.cells #[.int .i64 c0, .int .i64 c1, .int .i64 c2, .int .i64 c3, .int .i64 c4, .int .i64 c5] 55)) b sl sl) :=
    (RF.alloc w b sl _ (by have := hG.size; omega)).trans (RF.alloc _ b sl _ (by have := hG.size; simp; omega))
  obtain ⟨d0, d1, d2⟩ := HG1.out.cells
  have hsz := HG1.out.size
  have fz := frozen_of_row _ _ 0 _ _ HG1.out.2.1
  have HSZ : Hid _ := hsz
  clear hsz
  go_enter Try.func58, Try.ntmps58
  go_wp2_with (first
    | (at_builtin
       refine append_row _ rfl _ _ rfl (b + 3) sl rows.length _ rfl (HG1.out.alloc _).o _ _ [.int .i64 c0, .int .i64 c1, .int .i64 c2, .int .i64 c3, .int .i64 c4, .int .i64 c5] rfl rfl (cells6_here _ _ _ _ _ _ _ _ _ (by simp)) (by simp [Value.oneCell']) (by omega) (Nat.le_trans HSZ.out (by simp)) ?_
       intro v' w4 hown hg hbk
       have HM : Hid (GB (w4.setCell ⟨b + 1, 0, none⟩ v') c b v' (rows ++ [pre]) ∧ RF w (w4.setCell ⟨b + 1, 0, none⟩ v') b sl v') := GB.more (HG1.out.alloc _) HRF.out (by rw [HPL.out]; exact hown) hg hbk
       obtain ⟨e1, e2⟩ := (HG1.out.alloc _).box hg
       obtain ⟨g', cg, rfl, _⟩ := own_some hown
       clear hown hg hbk))
  refine bodyPost_ret (results_none rfl _ _ _) rfl ?_
  exact ⟨rfl, _, HM.out.1, HM.out.2⟩

theorem arrRow : Try.prog.arrayLen 55 = 6 := by kernel_rfl
theorem elRow : (Try.prog.info? (Try.prog.elem 55)).map (·.size) = some 1 := by kernel_rfl
theorem undRow : Try.prog.underlying 55 = some (.array (Try.prog.arrayLen 55) (Try.prog.elem 55)) := by kernel_rfl
theorem slice_row (W : World) (g l : Nat) (h : l ≤ 6) : (Instr.sliceAt 55 (.pointer (some ⟨g, 0, none⟩)) none (some (.int .i64 l)) none).run Try.prog W = .ok (.slice (some ⟨g, 0, none⟩) l 6) W := by
  rw [run_sliceAt_array_h W _ _ undRow .i64 (l : Int) (by omega) (by rw [arrRow]; omega), arrRow]
  have h1 := elRow
  cases hq : Try.prog.info? (Try.prog.elem 55) with
  | none => simp [hq] at h1
  | some i => simp [sizeOf, typeInfo, hq, slicedAt, Addr.add]

/-- The box of the row that is begun. -/
def BX (w : World) (g : Nat) (pre : List Nat) (x : Int) : Prop := w.heap[g]? = some (.cells (cellsOf ((padL pre).set pre.length x)) 55 (0, 0))

/-- What a call with d places to come does. -/
def GrowOk (c b d : Nat) : Prop := ∀ (pre : List Nat) (sl : Value) (rows : List (List Nat)) (w : World), pre.length + d = c → (av c pre).length = d → rows.length + facN d ≤ 720 → GB w c b sl rows →
      Calls Try.prog 58 #[.agg (cellsOf (padL pre)), .int .i64 (pre.length : Nat), .pointer (some ⟨b, 0, none⟩), .pointer (some ⟨b + 1, 0, none⟩), .pointer (some ⟨b + 2, 0, none⟩)] w fun e w' => e = .returned (.tuple #[]) ∧ ∃ sl', GB w' c b sl' (rows ++ gen c d pre) ∧ RF w w' b sl sl'

set_option maxHeartbeats 2000000 in
theorem grow_succ (c : Nat) (hc6 : c ≤ 6) (b d : Nat) (ih : GrowOk c b d) (pre : List Nat) (sl : Value) (rows : List (List Nat)) (w : World) (hp : pre.length + (d + 1) = c) (hav : (av c pre).length = d + 1) (hk : rows.length + facN (d + 1) ≤ 720) (hG : GB w c b sl rows) :
    Calls Try.prog 58 #[.agg (cellsOf (padL pre)), .int .i64 (pre.length : Nat), .pointer (some ⟨b, 0, none⟩), .pointer (some ⟨b + 1, 0, none⟩), .pointer (some ⟨b + 2, 0, none⟩)] w fun e w' => e = .returned (.tuple #[]) ∧ ∃ sl', GB w' c b sl' (rows ++ gen c (d + 1) pre) ∧ RF w w' b sl sl' := by
    have HIH : Hid (GrowOk c b d) := ih
    clear ih
    have HAV : Hid ((av c pre).length = d + 1) := hav
    have HK : Hid (rows.length + facN (d + 1) ≤ 720) := hk
    have HP : Hid (pre.length + (d + 1) = c) := hp
    have HG0 : Hid (GB w c b sl rows) := hG
    have hsz0 := hG.size
    have hpl : pre.length < c := by omega
    have hpl6 : pre.length < 6 := by omega
    obtain ⟨gr, HGR⟩ : ∃ gr, Hid (cellsOf (padL pre) = gr) := ⟨_, rfl⟩
    rw [HGR.out]
    have HG1 : Hid (GB (w.alloc (.cells gr 55)) c b sl rows) := hG.alloc _
    have HB1 : Hid (BX (w.alloc (.cells gr 55)) w.heap.size pre 0) := by
      show _ = _
      rw [padL_set0, HGR.out]; exact heap_alloc_new _ _
    have HR1 : Hid (RF w (w.alloc (.cells gr 55)) b sl sl) := RF.alloc w b sl _ (by omega)
    have HN1 : Hid (some w.heap.size ≠ sl.ownBlock) := fun e => by have := (hG.o.lt _ e.symm).2; omega
    obtain ⟨l, HL⟩ : ∃ l, Hid (pre.length = l) := ⟨_, rfl⟩
    rw [HL.out] at hpl hpl6 ⊢
    have hne : ((l : Int) == (c : Int)) = false := by rw [beq_eq_false_iff_ne]; omega
    obtain ⟨d0, d1, d2⟩ := HG1.out.cells
    clear hp hav hk hG hsz0
    go_enter Try.func58, Try.ntmps58
    go_wp2_with fail
    clear hne d0 d1 d2
    go_loopw [16] (fun t wr => ∃ (q : Nat) (x : Int) (sl1 : Value), q ≤ c ∧ t = .int .i64 q ∧ GB wr c b sl1 (rows ++ genTo c d pre q) ∧ BX wr w.heap.size pre x ∧ RF w wr b sl sl1 ∧ some w.heap.size ≠ sl1.ownBlock) (fun t _ => c - (intOf t).toNat)
    case atStart => exact ⟨0, 0, sl, Nat.zero_le _, rfl, by rw [genTo_zero, List.append_nil]; exact HG1.out, HB1.out, HR1.out, HN1.out⟩
    case round =>
      clear HG1 HB1 HR1 HN1
      obtain ⟨q, x, sl1, hq, rfl, hG, hB, hR, hN⟩ := hrel
      have G1 : Hid (GB wr c b sl1 (rows ++ genTo c d pre q)) := hG
      have B1 : Hid (BX wr w.heap.size pre x) := hB
      have R1 : Hid (RF w wr b sl sl1) := hR
      have N1 : Hid (some w.heap.size ≠ sl1.ownBlock) := hN
      have hsz : b + 3 ≤ w.heap.size := HG0.out.size
      clear hG hB hR hN
      by_cases hlt : q < c
      · have HIN : Hid (IntsAt wr (some ⟨w.heap.size, 0, none⟩) ((padL pre).set pre.length x)) := IntsAt.of_row B1.out
        have HHAS : Hid (hasTo ((padL pre).set pre.length x) l (q : Int) = decide (q ∈ pre)) := by
          show _ = _
          rw [← HL.out]; exact pad_has pre q x (by rw [HL.out]; exact hpl6)
        have HLL : Hid (((padL pre).set pre.length x).length = 6) := by show _ = _; rw [List.length_set, padL_length]
        have hll : l ≤ 6 := by omega
        have hl9 : l ≤ 9223372036854775807 := by omega
        have hsl := fun W => slice_row W w.heap.size l hll
        by_cases hm : q ∈ pre
        · have HH : Hid (hasTo ((padL pre).set pre.length x) l (q : Int) = true) := by show _ = _; rw [HHAS.out]; simp [hm]
          have HG : Hid (GB wr c b sl1 (rows ++ genTo c d pre (q + 1))) := by have := G1.out; rwa [← genTo_in hm] at this
          clear hm HHAS G1
          go_wp2_with (go_at_call 59; refine (contains_any _ l _ _ _ _ HIN.out (by rw [HLL.out]; exact hll) hl9).mono ?_; rintro e w' ⟨rfl, hw'⟩; subst w'; rw [HH.out])
          refine ⟨⟨q + 1, x, sl1, by omega, by go_num, HG.out, B1.out, R1.out, N1.out⟩, by simp [intOf]; omega⟩
        · have HH : Hid (hasTo ((padL pre).set pre.length x) l (q : Int) = false) := by show _ = _; rw [HHAS.out]; simp [hm]
          have HM : Hid (q ∉ pre) := hm
          clear hm HHAS
          have cx := cell_of_row _ _ l _ _ _ B1.out
          rw [cellsOf_get _ _ (by rw [HLL.out]; omega)] at cx
          have fx := frozen_of_row _ _ l _ _ B1.out
          obtain ⟨cv, HCV⟩ : ∃ v, Hid (((padL pre).set pre.length x).getD l 0 = v) := ⟨_, rfl⟩
          rw [HCV.out] at cx
          have GS : Hid (GB (wr.setCell ⟨w.heap.size, l, none⟩ (.int .i64 q)) c b sl1 (rows ++ genTo c d pre q)) := G1.out.set hsz N1.out
          have BS : Hid ((wr.setCell ⟨w.heap.size, l, none⟩ (.int .i64 q)).heap[w.heap.size]? = some (.cells (cellsOf (padL (pre ++ [q]))) 55 (0, 0))) := by
            show _ = _
            rw [heap_setCell_same _ _ _ _ _ _ B1.out, cellsOf_set, ← HL.out, padL_set]
          have BX2 : Hid (BX (wr.setCell ⟨w.heap.size, l, none⟩ (.int .i64 q)) w.heap.size pre q) := by
            show _ = _
            rw [BS.out, ← padL_set pre q x, List.set_set]
          have RS : Hid (RF w (wr.setCell ⟨w.heap.size, l, none⟩ (.int .i64 q)) b sl sl1) := by
            refine ⟨R1.out.1.setCell (by simp; omega) _, by have := R1.out.2.1; simpa [World.setCell] using this, fun g o hg ho hn => ?_⟩
            obtain ⟨a1, a2⟩ := R1.out.2.2 g o hg ho hn
            refine ⟨?_, a2⟩
            rw [heap_setCell_other _ _ _ _ (by have := row_lt ho; simp; omega)]
            exact a1
          have HK2 : Hid ((rows ++ genTo c d pre q).length + facN d ≤ 720) := by
            have h1 := genTo_length_le HAV.out (q + 1) (by omega)
            rw [genTo_out HM.out, List.length_append, (gen_all c d (pre ++ [q]) (av_len hlt HM.out HAV.out)).1] at h1
            have := HK.out
            show _ ≤ _
            rw [List.length_append]
            omega
          have HC : Hid (∀ w1, GB w1 c b sl1 (rows ++ genTo c d pre q) → Calls Try.prog 58 #[.agg (cellsOf (padL (pre ++ [q]))), .int .i64 ((l : Int) + 1), .pointer (some ⟨b, 0, none⟩), .pointer (some ⟨b + 1, 0, none⟩), .pointer (some ⟨b + 2, 0, none⟩)] w1 fun e w' => e = .returned (.tuple #[]) ∧ ∃ sl', GB w' c b sl' (rows ++ genTo c d pre (q + 1)) ∧ RF w1 w' b sl1 sl') := by
            intro w1 hg1
            have := HIH.out (pre ++ [q]) sl1 (rows ++ genTo c d pre q) w1 (by have := HP.out; rw [List.length_append, List.length_singleton]; omega) (av_len hlt HM.out HAV.out) HK2.out hg1
            rw [List.append_assoc, ← genTo_out HM.out, List.length_append, HL.out, List.length_singleton, Int.natCast_add] at this
            exact this
          clear HK2 HCV
          obtain ⟨g2, HG2⟩ : ∃ gr, Hid (cellsOf (padL (pre ++ [q])) = gr) := ⟨_, rfl⟩
          have HS2 : Hid ((Try.prog.info? 55).map (·.size) = some g2.size) := by show _ = _; rw [← HG2.out]; exact sizeRow_of (padL_length _)
          rw [HG2.out] at HC BS
          obtain ⟨d0, d1, d2⟩ := GS.out.cells
          go_wp2_with (first
            | (go_at_call 59; refine (contains_any _ l _ _ _ _ HIN.out (by rw [HLL.out]; exact hll) hl9).mono ?_; rintro e w' ⟨rfl, hw'⟩; subst w'; rw [HH.out])
            | (with_reducible refine wpList_load_row ?_ 55 (.tmp 5) ?_ (w.heap.size) ?_ 55 g2 (0, 0) _ ?_ Try.underlying55 ?_ ?_ ?_
               · rfl
               · rfl
               · rfl
               · exact BS.out
               · rfl
               · exact HS2.out)
            | (go_at_call 58; refine (HC.out _ GS.out).mono ?_; rintro e w5 ⟨rfl, sl2, hg5, hr5⟩; have G5 : Hid (GB w5 c b sl2 (rows ++ genTo c d pre (q + 1))) := hg5; have R5 : Hid (RF (wr.setCell ⟨w.heap.size, l, none⟩ (.int .i64 q)) w5 b sl1 sl2) := hr5; clear hg5 hr5))
          have hbx := R5.out.2.2 w.heap.size _ hsz BX2.out N1.out
          refine ⟨⟨q + 1, q, sl2, by omega, by go_num, G5.out, hbx.1, RS.out.trans R5.out, hbx.2⟩, by simp [intOf]; omega⟩
      · have hqc : q = c := by omega
        have HG : Hid (GB wr c b sl1 (rows ++ gen c (d + 1) pre)) := by have := G1.out; rwa [hqc, genTo_all] at this
        clear hqc G1
        go_wp2
        first
          | refine bodyPost_end (results_none rfl _ _ _) rfl ?_
          | refine bodyPost_ret (results_none rfl _ _ _) rfl ?_
        exact ⟨rfl, sl1, HG.out, R1.out⟩

theorem grow_any (c : Nat) (hc6 : c ≤ 6) (b : Nat) : ∀ d, GrowOk c b d := by
  intro d
  induction d with
  | zero => exact fun pre sl rows w hp _ hk hG => grow_zero c b pre sl rows w hp (by omega) hG
  | succ d ih => exact fun pre sl rows w hp hav hk hG => grow_succ c hc6 b d ih pre sl rows w hp hav hk hG

end Go.Proofs.Ytiojgkebdjdgbaa

namespace Go.Proofs.Ytiojgkebdjdgbaa
open Go.RowKit

/-- The list of the best of the first k. -/
def bestS (c : Nat) (f : Nat → Int) (k : Nat) : List Int := if k = 0 then [] else rowL c (lst f k).1
theorem own_new (W : World) : (W.alloc (.cells #[] 2)).ownsRow W.heap.size 2 1 (.slice (some ⟨W.heap.size, 0, none⟩) 0 0) ([] : List Int).length (([] : List Int).map (Value.int .i64)) := World.ownsRow_made W #[] 0 (Nat.le_refl _) (by unfold maxLen; omega) (by simp)

set_option maxHeartbeats 2000000 in
theorem specAssigned_loop (c b off c1 : Nat) (cs : List Int) (w : World) (hA : IntsAt w (some ⟨b, off, none⟩) cs) (hC : costsB c cs = true) :
    Calls Try.prog 19 #[.int .i64 c, .slice (some ⟨b, off, none⟩) cs.length c1] w fun e w' => ∃ sl, e = .returned (.tuple #[sl, .int .i64 (costK c cs (bestK c cs)), .bool true]) ∧ Below w.heap.size w w' ∧ w'.ownsRow w.heap.size 2 1 sl c ((rowL c (bestK c cs)).map (Value.int .i64)) := by
  have HA : Hid (IntsAt w (some ⟨b, off, none⟩) cs) := hA
  have HC : Hid (costsB c cs = true) := hC
  obtain ⟨h1, h2, hf⟩ : 1 ≤ c ∧ c ≤ 6 ∧ feeTo cs (c * c) := by
    obtain ⟨m, hm, q1, q2, q3, q4⟩ := costsB_nat hC
    obtain rfl : c = m := by omega
    exact ⟨q1, q2, q4⟩
  have HF : Hid (feeTo cs (c * c)) := hf
  clear hA hC hf
  have HRES : Hid (bestS c (costK c cs) (facN c) = rowL c (bestK c cs) ∧ (lst (costK c cs) (facN c)).2 = costK c cs (bestK c cs)) := by
    refine ⟨?_, lst_is _ (facN_pos c)⟩
    unfold bestS
    rw [if_neg (by have := facN_pos c; omega)]
    rfl
  obtain ⟨V, HV⟩ : ∃ v, Hid (costK c cs (bestK c cs) = v) := ⟨_, rfl⟩
  obtain ⟨R, HR⟩ : ∃ v, Hid (rowL c (bestK c cs) = v) := ⟨_, rfl⟩
  rw [HV.out, HR.out]
  rw [HV.out, HR.out] at HRES
  have HRL : Hid (R.length = c) := by show _ = _; rw [← HR.out]; exact rowL_length (bestK_lt c cs)
  have OB : Hid (Below w.heap.size w (w.alloc (.cells #[] 2))) := (Below.refl _ _).alloc (Nat.le_refl _) _
  go_enter Try.func19, Try.ntmps19
  go_wp2_with (go_at_call 44; refine (l8Ok_any _ _ _ cs _ HA.out).mono ?_; rintro e w' ⟨rfl, hw'⟩; subst w'; rw [HC.out])
  obtain ⟨cl, HCL⟩ : ∃ n, Hid (cs.length = n) := ⟨_, rfl⟩
  rw [HCL.out]
  go_loopw [7, 8] (fun av t wr => ∃ k : Nat, k ≤ c ∧ t = .int .i64 k ∧ wr.ownsRow w.heap.size 2 1 av k ((allL k).map (Value.int .i64)) ∧ Below w.heap.size w wr ∧ av ≠ .slice none 0 0) (fun _ t _ => c - (intOf t).toNat)
  case atStart => exact ⟨0, Nat.zero_le _, rfl, own_new w, OB.out, by simp⟩
  case round =>
    obtain ⟨k, hk, rfl, ho, hb, hn⟩ := hrel
    obtain ⟨g, cg, rfl⟩ := own_sm ho hn
    have O1 : Hid (wr.ownsRow w.heap.size 2 1 (.slice (some ⟨g, 0, none⟩) k cg) k ((allL k).map (Value.int .i64))) := ho
    have B1 : Hid (Below w.heap.size w wr) := hb
    clear ho hb hn
    by_cases hlt : k < c
    · have BA : Hid (Below w.heap.size w (wr.alloc (.cells #[.int .i64 (k : Int)] 2))) := B1.out.alloc B1.out.size _
      go_wp2_with (
        at_builtin
        refine append_many _ rfl _ _ rfl w.heap.size _ k (allL k) rfl (O1.out.alloc _) wr.heap.size 0 1 1 [(k : Int)] rfl rfl (ints_new1 wr k) (by omega) (by omega) (Nat.le_trans B1.out.size (by simp)) ?_
        intro v' w4 hown hg _ hnl
        have O4 : Hid (w4.ownsRow w.heap.size 2 1 v' (k + 1) ((allL (k + 1)).map (Value.int .i64))) := by rw [allL_succ]; exact hown
        have B4 : Hid (Below w.heap.size w w4) := BA.out.grown hg BA.out.size (fun k e => (O1.out.lt k e).1)
        have N4 : Hid (v' ≠ .slice none 0 0) := not_nil hnl ⟨_, _, _, rfl⟩
        clear hown hg hnl)
      go_roundw
      case rel => exact ⟨k + 1, by omega, by first | rfl | go_num, O4.out, B4.out, N4.out⟩
      case measure => simp [intOf]; omega
    · have hkc : k = c := by omega
      have IA : Hid (IntsAt wr (some ⟨g, 0, none⟩) (allL c)) := by have := owns_ints O1.out; rw [hkc] at this; exact this
      rw [hkc]
      have hkc' : ¬ (k : Int) < (c : Int) := by omega
      have B2 : Hid (Below w.heap.size w (wr.alloc (.cells #[] 2))) := B1.out.alloc B1.out.size _
      have I2 : Hid (IntsAt (wr.alloc (.cells #[] 2)) (some ⟨g, 0, none⟩) (allL c)) := IA.out.below ((Below.refl _ _).alloc (Nat.le_refl _) _)
      have O2 : Hid ((wr.alloc (.cells #[] 2)).ownsRow w.heap.size 2 1 (.slice (some ⟨wr.heap.size, 0, none⟩) 0 0) 0 (([] : List Int).map (Value.int .i64))) := owns_base (own_new wr) B1.out.size
      clear O1 IA hkc
      go_wp2_with fail
      clear hkc'
      go_loopw [9, 10, 11] (fun bv cv t wx => ∃ k : Nat, k ≤ facN c ∧ t = .int .i64 k ∧ cv = .int .i64 (lst (costK c cs) k).2 ∧ wx.ownsRow w.heap.size 2 1 bv (bestS c (costK c cs) k).length ((bestS c (costK c cs) k).map (Value.int .i64)) ∧ Below w.heap.size w wx ∧ IntsAt wx (some ⟨g, 0, none⟩) (allL c)) (fun _ _ t _ => facN c - (intOf t).toNat)
      case atStart => exact ⟨0, Nat.zero_le _, rfl, rfl, O2.out, B2.out, I2.out⟩
      case round =>
        clear O2 B2 I2 B1
        obtain ⟨k, hk, rfl, rfl, ho, hb, hi⟩ := hrel
        have O1 : Hid (wr.ownsRow w.heap.size 2 1 u9 (bestS c (costK c cs) k).length ((bestS c (costK c cs) k).map (Value.int .i64))) := ho
        have B1 : Hid (Below w.heap.size w wr) := hb
        have I1 : Hid (IntsAt wr (some ⟨g, 0, none⟩) (allL c)) := hi
        clear ho hb hi
        have hfb := facN_bd c h2
        have HCV : Hid (countV c = (facN c : Int)) := by show _ = _; rw [countV_yes h2, fac_nat]
        obtain ⟨lv, HLV⟩ : ∃ v, Hid ((lst (costK c cs) k).2 = v) := ⟨_, rfl⟩
        rw [HLV.out]
        by_cases hlt : k < facN c
        · have HP : Hid (∀ X, IntsAt X (some ⟨g, 0, none⟩) (allL c) → Calls Try.prog 11 #[.slice (some ⟨g, 0, none⟩) c cg, .int .i64 k] X fun e w' => ∃ sl, e = .returned (.tuple #[sl, .bool true]) ∧ Below X.heap.size X w' ∧ w'.ownsRow X.heap.size 2 1 sl c ((rowL c k).map (Value.int .i64))) := by
            intro X hX
            have h := specPermuted_any g 0 cg (allL c) k X hX (by rw [allL_length]; omega)
            obtain ⟨e1, e2⟩ := permV_all h2 hlt
            rw [e1, e2, allL_length, rowL_length hlt] at h
            exact h
          have HAC : Hid (∀ (X : World) (g2 c2 : Nat), IntsAt X (some ⟨b, off, none⟩) cs → IntsAt X (some ⟨g2, 0, none⟩) (rowL c k) → c ≤ c2 → Calls Try.prog 17 #[.int .i64 c, .slice (some ⟨b, off, none⟩) cl c1, .slice (some ⟨g2, 0, none⟩) c c2] X fun e w' => e = .returned (.tuple #[.int .i64 (costK c cs k), .bool true]) ∧ Below X.heap.size X w') := by
            intro X g2 c2 hX hY hc2
            have h := specAssign_any c (some ⟨b, off, none⟩) (some ⟨g2, 0, none⟩) c1 c2 cs (rowL c k) X hX hY (by rw [rowL_length hlt]; exact hc2)
            obtain ⟨e1, e2⟩ := assign_row h2 HC.out hlt
            rw [e1, e2, HCL.out, rowL_length hlt] at h
            exact h
          have hcb := costK_bd h2 HF.out hlt
          have UPD : Hid (k = 0 ∨ costK c cs k < lv → bestS c (costK c cs) (k + 1) = rowL c k ∧ (lst (costK c cs) (k + 1)).2 = costK c cs k) := fun h => by
            have e := lst_yes (f := costK c cs) (k := k) (by rw [HLV.out]; exact h)
            refine ⟨?_, by rw [e]⟩
            unfold bestS
            rw [if_neg (by omega), e]
          have SAME : Hid (¬ (k = 0 ∨ costK c cs k < lv) → bestS c (costK c cs) (k + 1) = bestS c (costK c cs) k ∧ (lst (costK c cs) (k + 1)).2 = lv) := fun h => by
            have e := lst_no (f := costK c cs) (k := k) (by rw [HLV.out]; exact h)
            refine ⟨?_, by rw [e]; exact HLV.out⟩
            unfold bestS
            rw [if_neg (by omega), if_neg (fun e => h (Or.inl e)), e]
          have HRk : Hid ((rowL c k).length = c) := rowL_length hlt
          have HLT : Hid (k < facN c) := hlt
          obtain ⟨fk, HFK⟩ : ∃ v, Hid (costK c cs k = v) := ⟨_, rfl⟩
          rw [HFK.out] at HAC UPD SAME hcb
          obtain ⟨m, HM⟩ : ∃ m, Hid (facN c = m) := ⟨_, rfl⟩
          rw [HM.out] at hlt hfb HCV
          go_wp2_with fail
          refine (specCount_any _ _).mono ?_
          rintro e w' ⟨rfl, hw'⟩
          subst w'
          rw [HCV.out]
          go_wp2_with fail
          refine (HP.out _ I1.out).mono ?_
          rintro e w3 ⟨sl, rfl, hb3, ho3⟩
          obtain ⟨g3, c3, rfl⟩ : ∃ g c', sl = .slice (some ⟨g, 0, none⟩) c c' := by
            rcases own_shape ho3 with e | e
            · obtain ⟨_, ⟨_, h3⟩ | ⟨g, cap, cur, h2, _⟩⟩ := ho3
              · omega
              · exact ⟨g, cap, h2⟩
            · exact e
          have B3 : Hid (Below w.heap.size w w3) := B1.out.trans (hb3.mono B1.out.size)
          have O3 : Hid (w3.ownsRow w.heap.size 2 1 u9 (bestS c (costK c cs) k).length ((bestS c (costK c cs) k).map (Value.int .i64))) := owns_below O1.out hb3
          have N3 : Hid (w3.ownsRow w.heap.size 2 1 (.slice (some ⟨g3, 0, none⟩) c c3) c ((rowL c k).map (Value.int .i64))) := owns_base ho3 B1.out.size
          have I3 : Hid (IntsAt w3 (some ⟨g, 0, none⟩) (allL c)) := I1.out.below hb3
          clear hb3 ho3 O1 I1 B1
          go_wp2_with fail
          refine (HAC.out _ _ _ (HA.out.below B3.out) (owns_ints N3.out) (own_cap N3.out)).mono ?_
          rintro e w4 ⟨rfl, hb4⟩
          have B4 : Hid (Below w.heap.size w w4) := B3.out.trans (hb4.mono B3.out.size)
          have O4 : Hid (w4.ownsRow w.heap.size 2 1 u9 (bestS c (costK c cs) k).length ((bestS c (costK c cs) k).map (Value.int .i64))) := owns_below O3.out hb4
          have N4 : Hid (w4.ownsRow w.heap.size 2 1 (.slice (some ⟨g3, 0, none⟩) c c3) c ((rowL c k).map (Value.int .i64))) := owns_below N3.out hb4
          have I4 : Hid (IntsAt w4 (some ⟨g, 0, none⟩) (allL c)) := I3.out.below hb4
          clear hb4 O3 I3 B3 N3
          by_cases hk0 : k = 0
          · obtain ⟨u1, u2⟩ := UPD.out (Or.inl hk0)
            have U1 : Hid (bestS c (costK c cs) (k + 1) = rowL c k) := u1
            have U2 : Hid ((lst (costK c cs) (k + 1)).2 = fk) := u2
            have hkz : ((k : Int) == 0) = true := by simp [hk0]
            clear u1 u2 UPD SAME hk0
            go_wp2
            go_roundw
            case rel => exact ⟨k + 1, by rw [HM.out]; omega, by first | rfl | go_num, by rw [U2.out], by rw [U1.out, HRk.out]; exact N4.out, B4.out, I4.out⟩
            case measure => rw [HM.out]; simp [intOf]; omega
          · have hkz : ((k : Int) == 0) = false := by rw [beq_eq_false_iff_ne]; omega
            by_cases hlv : fk < lv
            · obtain ⟨u1, u2⟩ := UPD.out (Or.inr hlv)
              have U1 : Hid (bestS c (costK c cs) (k + 1) = rowL c k) := u1
              have U2 : Hid ((lst (costK c cs) (k + 1)).2 = fk) := u2
              clear u1 u2 UPD SAME hk0
              go_wp2
              go_roundw
              case rel => exact ⟨k + 1, by rw [HM.out]; omega, by first | rfl | go_num, by rw [U2.out], by rw [U1.out, HRk.out]; exact N4.out, B4.out, I4.out⟩
              case measure => rw [HM.out]; simp [intOf]; omega
            · obtain ⟨u1, u2⟩ := SAME.out (fun h => h.elim hk0 hlv)
              have U1 : Hid (bestS c (costK c cs) (k + 1) = bestS c (costK c cs) k) := u1
              have U2 : Hid ((lst (costK c cs) (k + 1)).2 = lv) := u2
              clear u1 u2 UPD SAME hk0
              go_wp2
              go_roundw
              case rel => exact ⟨k + 1, by rw [HM.out]; omega, by first | rfl | go_num, by rw [U2.out], by rw [U1.out]; exact O4.out, B4.out, I4.out⟩
              case measure => rw [HM.out]; simp [intOf]; omega
        · have hkf : k = facN c := by omega
          have HVL : Hid (lv = V) := by show lv = V; rw [← HLV.out, hkf]; exact HRES.out.2
          have O2 : Hid (wr.ownsRow w.heap.size 2 1 u9 c (R.map (Value.int .i64))) := by
            have := O1.out
            rw [hkf, HRES.out.1, HRL.out] at this
            exact this
          obtain ⟨m, HM⟩ : ∃ m, Hid (facN c = m) := ⟨_, rfl⟩
          rw [HM.out] at hlt hfb HCV hkf
          have hge : ¬ ((k : Int) < (m : Int)) := by omega
          go_wp2_with fail
          refine (specCount_any _ _).mono ?_
          rintro e w' ⟨rfl, hw'⟩
          subst w'
          rw [HCV.out]
          clear hkf
          go_wp2
          refine bodyPost_ret (v := .tuple #[u9, .int .i64 lv, .bool true]) (by simp [results, Try.results19, go_sem]) rfl ⟨_, by rw [HVL.out], B1.out, O2.out⟩

theorem specAssigned_any (n : Int) (a1 : Option Addr) (c1 : Nat) (cs : List Int) (w : World) (hA : IntsAt w a1 cs) :
    Calls Try.prog 19 #[.int .i64 n, .slice a1 cs.length c1] w fun e w' => ∃ sl, e = .returned (.tuple #[sl, .int .i64 (asgV n cs), .bool (costsB n cs)]) ∧ Below w.heap.size w w' ∧ w'.ownsRow w.heap.size 2 1 sl (asgL n cs).length ((asgL n cs).map (Value.int .i64)) := by
  cases hc : costsB n cs
  · obtain ⟨q1, q2⟩ := asg_no hc
    rw [q1, q2]
    have HA : Hid (IntsAt w a1 cs) := hA
    have HC : Hid (costsB n cs = false) := hc
    clear hA hc q1 q2
    go_enter Try.func19, Try.ntmps19
    go_wp2_with (go_at_call 44; refine (l8Ok_any _ _ _ cs _ HA.out).mono ?_; rintro e w' ⟨rfl, hw'⟩; subst w'; rw [HC.out])
    refine bodyPost_ret (v := .tuple #[.slice none 0 0, .int .i64 0, .bool false]) (by simp [results, Try.results19, go_sem]) rfl ⟨_, rfl, Below.refl _ _, World.ownsRow_nil _ _ _ _⟩
  · obtain ⟨m, rfl, h1, h2, hlc, _⟩ := costsB_nat hc
    obtain ⟨q1, q2⟩ := asg_yes hc
    obtain ⟨b, off, rfl⟩ := ints_some hA (by rw [hlc]; exact Nat.mul_pos h1 h1)
    rw [q1, q2, rowL_length (bestK_lt m cs)]
    exact specAssigned_loop m b off c1 cs w hA hc

end Go.Proofs.Ytiojgkebdjdgbaa

namespace Go.Proofs.Ytiojgkebdjdgbaa
open Go.RowKit

theorem PW.cut {w W w4 : World} {lv ov : Value} {L O C : List Int} {g c : Nat} (h : PW w W w.heap.size lv ov L O) (hb : Below W.heap.size W w4) (ho : w4.ownsRow W.heap.size 2 1 (.slice (some ⟨g, 0, none⟩) C.length c) C.length (C.map (Value.int .i64))) : PW w w4 w.heap.size (.slice (some ⟨g, 0, none⟩) C.length c) ov C O := by
  refine ⟨h.b.trans (hb.mono h.b.size), ⟨Nat.le_refl _, Nat.le_trans h.hB.2 hb.size⟩, owns_base ho h.hB.2, owns_below h.o hb, ?_, ⟨g, c, rfl⟩, h.so⟩
  intro e
  have h1 := (ho.lt g rfl).1
  have h2 := (h.o.lt g (by rw [← e]; rfl)).2
  omega
theorem PW.lput {w W w4 : World} {B : Nat} {lv ov lv' : Value} {L O : List Int} {x : Int} {o : Obj} (h : PW w W B lv ov L O) (hown : w4.ownsRow B 2 1 lv' (L.length + 1) ((L ++ [x]).map (Value.int .i64))) (hg : (W.alloc o).grownBy w4 lv.ownBlock) (hbk : lv'.ownBlock = lv.ownBlock ∨ lv'.ownBlock = some (W.alloc o).heap.size) (hn : lv' = .slice none 0 0 ↔ lv = .slice none 0 0 ∧ 1 = 0) : PW w w4 B lv' ov (L ++ [x]) O := by
  have hA : Below w.heap.size w (W.alloc o) := h.b.alloc h.b.size _
  have hlt : ∀ g, ov.ownBlock = some g → g < W.heap.size := fun g e => (h.o.lt g e).2
  refine ⟨hA.grown hg hA.size (fun k e => by have := (h.l.lt k e).1; have := h.hB.1; omega), ⟨h.hB.1, Nat.le_trans h.hB.2 (Nat.le_trans (by simp) hg.size)⟩, ?_, (h.o.alloc o).kept hg (.inr h.ne.symm), ?_, ?_, h.so⟩
  · rw [List.length_append]; exact hown
  · rcases hbk with e | e
    · rw [e]; exact h.ne
    · rw [e]
      intro e2
      have := hlt _ e2.symm
      simp at this
      omega
  · rw [List.length_append]
    obtain ⟨g, c, e⟩ := h.sl
    exact own_sm hown (not_nil hn ⟨g, _, c, e⟩)
theorem pick_step {K i : Nat} {L : List Int} {s : Int} (h : i < K) : pkL (K - i) L s = (L.getD (pkAt (randV s) L.length) 0 :: (pkL (K - (i + 1)) (remL L (pkAt (randV s) L.length)) (randV s)).1, (pkL (K - (i + 1)) (remL L (pkAt (randV s) L.length)) (randV s)).2) := by
  rw [show K - i = (K - (i + 1)) + 1 by omega]
  rfl
/-- The numbers of one pick. -/
theorem pick_nums (s : Int) {D : Nat} (h : 0 < D) : ∃ S : Nat, randV s = S ∧ S ≤ 2147483647 ∧ (S : Int) / 65536 % (D : Int) = (pkAt (randV s) D : Nat) ∧ pkAt (randV s) D < D := by
  have h1 := inB_true (randV_in s)
  refine ⟨(randV s).toNat, by omega, by omega, ?_, pkAt_lt h⟩
  rw [← pkAt_is h]
  congr 2
  omega
theorem PW.new2 {w W : World} {lv ov : Value} {L : List Int} (ho : W.ownsRow w.heap.size 2 1 lv L.length (L.map (Value.int .i64))) (hb : Below w.heap.size w W) (hn : lv ≠ .slice none 0 0) (hx : W.ownsRow w.heap.size 2 1 ov 0 (([] : List Int).map (Value.int .i64))) (hm : ov ≠ .slice none 0 0) (hne : lv.ownBlock ≠ ov.ownBlock) : PW w W w.heap.size lv ov L [] :=
  ⟨hb, ⟨Nat.le_refl _, hb.size⟩, ho, hx, hne, own_sm ho hn, own_sm hx hm⟩

set_option maxHeartbeats 2000000 in
theorem specPicked_any (s n k : Int) (w : World) :
    Calls Try.prog 28 #[.int .i64 s, .int .i64 n, .int .i64 k] w fun e w' => ∃ sl, e = .returned (.tuple #[sl, .int .i64 (pickS s n k)]) ∧ Below w.heap.size w w' ∧ w'.ownsRow w.heap.size 2 1 sl (pickV s n k).length ((pickV s n k).map (Value.int .i64)) := by
  have OB : Hid (Below w.heap.size w (w.alloc (.cells #[] 2))) := (Below.refl _ _).alloc (Nat.le_refl _) _
  have ON : Hid ((w.alloc (.cells #[] 2)).ownsRow w.heap.size 2 1 (.slice (some ⟨w.heap.size, 0, none⟩) 0 0) 0 (([] : List Int).map (Value.int .i64))) := own_new0 w
  obtain ⟨R, HR⟩ : ∃ v, Hid (pickV s n k = v) := ⟨_, rfl⟩
  obtain ⟨V, HV⟩ : ∃ v, Hid (pickS s n k = v) := ⟨_, rfl⟩
  rw [HR.out, HV.out]
  cases hp : pickB s n k
  · have HE : Hid (R = [] ∧ V = -1) := by
      have := pick_no hp
      rw [HR.out, HV.out] at this
      exact this
    unfold pickB at hp
    rcases Bool.eq_false_or_eq_true (inB n 0 64) with h1 | h1 <;> rcases Bool.eq_false_or_eq_true (inB k 0 n) with h2 | h2 <;> rcases Bool.eq_false_or_eq_true (inB s 0 2147483647) with h3 | h3
    · rw [h1, h2, h3] at hp; simp at hp
    all_goals
      clear hp
      go_enter Try.func28, Try.ntmps28
      go_wp2_with (go_at_call 39; refine (l1In_any _ _ _ _).mono ?_; rintro e w' ⟨rfl, hw'⟩; subst w'; first | rw [h1] | rw [h2] | rw [h3])
      refine bodyPost_ret (v := .tuple #[.slice (some ⟨w.heap.size, 0, none⟩) 0 0, .int .i64 (-1)]) (by simp [results, Try.results28, go_sem]) rfl ⟨_, by rw [HE.out.2], OB.out, by rw [HE.out.1]; exact ON.out⟩
  · obtain ⟨N, K, rfl, rfl, hN, hK, hs0, hs1⟩ := pickB_nat hp
    obtain ⟨e1, e2⟩ := pick_yes hp
    have HR1 : Hid ((pkL K (allL N) s).1 = R ∧ (pkL K (allL N) s).2 = V) := ⟨e1.symm.trans HR.out, e2.symm.trans HV.out⟩
    have h1 : inB (N : Int) 0 64 = true := inB_mk (by omega)
    have h2 : inB (K : Int) 0 N = true := inB_mk (by omega)
    have h3 : inB s 0 2147483647 = true := inB_mk (by omega)
    clear e1 e2 hp HR HV
    have O2 : Hid (((w.alloc (.cells #[] 2)).alloc (.cells #[] 2)).ownsRow w.heap.size 2 1 (.slice (some ⟨w.heap.size + 1, 0, none⟩) 0 0) 0 (([] : List Int).map (Value.int .i64))) := by
      have := owns_base (own_new0 (w.alloc (.cells #[] 2))) OB.out.size
      rw [show (w.alloc (.cells #[] 2)).heap.size = w.heap.size + 1 by simp] at this
      exact this
    have X2 : Hid (((w.alloc (.cells #[] 2)).alloc (.cells #[] 2)).ownsRow w.heap.size 2 1 (.slice (some ⟨w.heap.size, 0, none⟩) 0 0) 0 (([] : List Int).map (Value.int .i64))) := ON.out.alloc _
    have B2 : Hid (Below w.heap.size w ((w.alloc (.cells #[] 2)).alloc (.cells #[] 2))) := OB.out.alloc OB.out.size _
    go_enter Try.func28, Try.ntmps28
    go_wp2_with (go_at_call 39; refine (l1In_any _ _ _ _).mono ?_; rintro e w' ⟨rfl, hw'⟩; subst w'; first | rw [h1] | rw [h2] | rw [h3])
    clear OB ON h1 h2 h3
    go_loopw [9, 10] (fun av t wr => ∃ i : Nat, i ≤ N ∧ t = .int .i64 i ∧ PW w wr w.heap.size av (.slice (some ⟨w.heap.size, 0, none⟩) 0 0) (allL i) []) (fun _ t _ => N - (intOf t).toNat)
    case atStart => exact ⟨0, Nat.zero_le _, rfl, PW.new2 O2.out B2.out (by simp) X2.out (by simp) (by simp [Value.ownBlock])⟩
    case round =>
      clear O2 X2 B2
      obtain ⟨i, hi, rfl, hpw⟩ := hrel
      obtain ⟨gl, cl, rfl⟩ := hpw.sl
      rw [allL_length] at hpw ⊢
      have P1 : Hid (PW w wr w.heap.size (.slice (some ⟨gl, 0, none⟩) i cl) (.slice (some ⟨w.heap.size, 0, none⟩) 0 0) (allL i) []) := hpw
      clear hpw
      by_cases hlt : i < N
      · go_wp2_with (
          at_builtin
          refine append_many _ rfl _ _ rfl w.heap.size _ i (allL i) rfl (by have := P1.out.l; rw [allL_length] at this; exact this.alloc _) wr.heap.size 0 1 1 [(i : Int)] rfl rfl (ints_new1 wr i) (by omega) (by omega) (Nat.le_trans P1.out.hB.2 (by simp)) ?_
          intro v' w4 hown hg hbk hnl
          have P4 : Hid (PW w w4 w.heap.size v' (.slice (some ⟨w.heap.size, 0, none⟩) 0 0) (allL (i + 1)) []) := by
            show PW _ _ _ _ _ _ _
            rw [allL_succ]
            exact P1.out.lput (by rw [allL_length]; exact hown) hg hbk hnl
          clear hown hg hbk hnl)
        go_roundw
        case rel => exact ⟨i + 1, by omega, by first | rfl | go_num, P4.out⟩
        case measure => simp [intOf]; omega
      · have hiN : i = N := by omega
        rw [hiN] at P1 ⊢
        clear hi hlt hiN
        go_wp2_with fail
        go_loopw [0, 8, 9, 11] (fun sv ov lv t wr => ∃ (i : Nat) (s : Int) (L O : List Int), i ≤ K ∧ L.length = N - i ∧ L.Nodup ∧ t = .int .i64 i ∧ sv = .int .i64 s ∧ O.length = i ∧ PW w wr w.heap.size lv ov L O ∧ O ++ (pkL (K - i) L s).1 = R ∧ (pkL (K - i) L s).2 = V ∧ 0 ≤ s ∧ s ≤ 2147483647) (fun _ _ _ t _ => K - (intOf t).toNat)
        case atStart => exact ⟨0, s, allL N, [], Nat.zero_le _, by rw [allL_length]; rfl, allL_nodup N, rfl, rfl, rfl, P1.out, HR1.out.1, HR1.out.2, hs0, hs1⟩
        case round =>
          clear P1
          obtain ⟨i, s, L, O, hi, hl, hnd, rfl, rfl, ho, hpw, hres, hseed, hs0, hs1⟩ := hrel
          obtain ⟨gl, cl, rfl⟩ := hpw.sl
          obtain ⟨go, co, rfl⟩ := hpw.so
          have P1 : Hid (PW w wr w.heap.size (.slice (some ⟨gl, 0, none⟩) L.length cl) (.slice (some ⟨go, 0, none⟩) O.length co) L O) := hpw
          have HL : Hid (L.length = N - i) := hl
          have HO : Hid (O.length = i) := ho
          have HND : Hid L.Nodup := hnd
          have HRS : Hid (O ++ (pkL (K - i) L s).1 = R ∧ (pkL (K - i) L s).2 = V) := ⟨hres, hseed⟩
          clear hpw hl ho hnd hres hseed
          rw [HO.out] at P1 ⊢
          by_cases hlt : i < K
          · have hD : 0 < L.length := by rw [HL.out]; omega
            have hDb : L.length ≤ 64 := by rw [HL.out]; omega
            obtain ⟨S, hS, hSb, hat, hatl⟩ := pick_nums s hD
            have hst := pick_step (L := L) (s := s) hlt
            obtain ⟨D, HD⟩ : ∃ D, Hid (L.length = D) := ⟨_, rfl⟩
            rw [HD.out] at hD hDb hat hatl hst P1 ⊢
            obtain ⟨p, HP⟩ : ∃ p, Hid (pkAt (randV s) D = p) := ⟨_, rfl⟩
            rw [HP.out] at hat hatl hst
            have HS : Hid (randV s = S) := hS
            rw [HS.out] at hst
            have HRS2 : Hid ((O ++ [L.getD p 0]) ++ (pkL (K - (i + 1)) (remL L p) S).1 = R ∧ (pkL (K - (i + 1)) (remL L p) S).2 = V) := by
              have h := HRS.out
              rw [hst] at h
              refine ⟨?_, h.2⟩
              rw [← h.1, List.append_assoc]; rfl
            have cx : wr.cell? ⟨gl, p, none⟩ = some (.int .i64 (L.getD p 0)) := by
              obtain ⟨_, _, e, h⟩ := owns_ints' P1.out.l HD.out p (by rw [HD.out]; exact hatl)
              simp at e
              obtain ⟨rfl, rfl⟩ := e
              rw [Nat.zero_add] at h
              exact h
            have HCUT : Hid (cutL L (L.getD p 0) = remL L p) := cutL_rem HND.out (by rw [HD.out]; exact hatl)
            have HRL : Hid ((remL L p).length = D - 1) := by show _ = _; rw [remL_length (by rw [HD.out]; exact hatl), HD.out]
            have HRN : Hid (remL L p).Nodup := remL_nodup HND.out p
            obtain ⟨x, HX⟩ : ∃ f, Hid (L.getD p 0 = f) := ⟨_, rfl⟩
            rw [HX.out] at cx HRS2 HCUT
            have hpD : (p : Int) < (D : Int) := by omega
            clear hst hS hs0 hs1 HRS
            have hib : i ≤ 64 := by omega
            go_wp2_with (first
              | (go_at_call 30; refine (specRand_any _ _).mono ?_; rintro e w' ⟨rfl, hw'⟩; subst w'; rw [HS.out])
              | (at_builtin
                 refine append_many _ rfl (.tmp 51) (.tmp 56) rfl w.heap.size _ i O rfl (by have := P1.out.o; rw [HO.out] at this; exact this.alloc _) wr.heap.size 0 1 1 [x] rfl rfl (ints_new1 wr x) (by omega) (by omega) (Nat.le_trans P1.out.hB.2 (by simp)) ?_
                 intro ov' w4 hown hg hbk hnl
                 have P4 : Hid (PW w w4 w.heap.size (.slice (some ⟨gl, 0, none⟩) D cl) ov' L (O ++ [x])) := P1.out.put (by rw [HO.out]; exact hown) hg hbk hnl
                 have I4 : Hid (IntsAt w4 (some ⟨gl, 0, none⟩) L) := owns_ints' P4.out.l HD.out
                 have c4 : w4.cell? ⟨gl, p, none⟩ = some (.int .i64 x) := by
                   obtain ⟨_, _, e, h⟩ := I4.out p (by rw [HD.out]; exact hatl)
                   simp at e
                   obtain ⟨rfl, rfl⟩ := e
                   rw [Nat.zero_add] at h
                   rw [h, HX.out]
                 clear hown hg hbk hnl)
              | (go_at_call 55
                 have hcut := l4Cut_any gl 0 cl L x w4 I4.out (by rw [HD.out]; omega)
                 rw [HD.out, HCUT.out] at hcut
                 refine hcut.mono ?_
                 rintro e w5 ⟨g5, c5, rfl, hb5, ho5⟩
                 have P5 : Hid (PW w w5 w.heap.size (.slice (some ⟨g5, 0, none⟩) (remL L p).length c5) ov' (remL L p) (O ++ [x])) := P4.out.cut hb5 ho5
                 clear hcut hb5 ho5))
            go_roundw
            case rel => exact ⟨i + 1, S, remL L p, O ++ [x], by omega, by rw [HRL.out, ← HD.out, HL.out]; omega, HRN.out, by first | rfl | go_num, rfl, by rw [List.length_append, HO.out]; rfl, P5.out, HRS2.out.1, HRS2.out.2, by omega, by omega⟩
            case measure => simp [intOf]; omega
          · have hiK : K - i = 0 := by omega
            have HE : Hid (O = R ∧ s = V) := by
              have h := HRS.out
              rw [hiK] at h
              refine ⟨?_, h.2⟩
              rw [← h.1]
              exact (List.append_nil _).symm
            have HOR : Hid (wr.ownsRow w.heap.size 2 1 (.slice (some ⟨go, 0, none⟩) i co) R.length (R.map (Value.int .i64))) := by
              have := P1.out.o
              rw [HE.out.1] at this
              exact this
            have HB : Hid (Below w.heap.size w wr) := P1.out.b
            obtain ⟨D, HD⟩ : ∃ D, Hid (L.length = D) := ⟨_, rfl⟩
            rw [HD.out, HE.out.2]
            go_wp2
            refine bodyPost_ret (v := .tuple #[.slice (some ⟨go, 0, none⟩) i co, .int .i64 V]) (by simp [results, Try.results28, go_sem]) rfl ⟨_, rfl, HB.out, HOR.out⟩

end Go.Proofs.Ytiojgkebdjdgbaa
