import Derived.Test.YtaehhlkpbhmdfaaPack0
import Derived.Test.YtaehhlkpbhmdfaaPack2
import Derived.Test.YtaehhlkpbhmdfaaPack3
import Derived.Test.YtaehhlkpbhmdfaaPack7
namespace Go.Proofs.Ytaehhlkpbhmdfaa
open Go.RowKit

/-- A reader that was there stays where a block of the call's own changes. -/
theorem RD.kept2 {w W W' : World} {q c p p0 : Nat} {a : Option Addr} {bs : List Int} {row : Option Nat} (h0 : RD w q a bs c p0) (h : RD W q a bs c p) (hg : W.grownBy W' row) (hr : ∀ g, row = some g → w.heap.size ≤ g) : RD W' q a bs c p := by
  have hq : q < w.heap.size := row_lt h0.1
  refine ⟨grown_row hg h.1 (fun e => by have := hr q e.symm; omega), h.2.1, fun j hj => ?_, h.2.2.2⟩
  obtain ⟨b, off, e, hne, hc, hv⟩ := h.2.2.1 j hj
  obtain ⟨b', off', e', _, hc', _⟩ := h0.2.2.1 j hj
  have hb : b < w.heap.size := by
    have := block_lt_of_cell hc'
    rw [e] at e'
    simp at e'
    obtain ⟨rfl, rfl⟩ := e'
    exact this
  exact ⟨b, off, e, hne, hg.cell hc (fun e2 => by have := hr b e2.symm; omega), hv⟩
theorem grown_own {w W W' : World} {q : Nat} {row : Option Nat} (h : w.grownBy W (some q)) (hg : W.grownBy W' row) (hr : ∀ g, row = some g → w.heap.size ≤ g) : w.grownBy W' (some q) :=
  ⟨hg.os.trans h.os, hg.tape.trans h.tape, hg.output.trans h.output, Nat.le_trans h.size hg.size, fun k hk hne => (hg.block k (Nat.lt_of_lt_of_le hk h.size) (fun e => by have := hr k e.symm; omega)).trans (h.block k hk hne)⟩

theorem grown_alloc0 (W : World) (o : Obj) : W.grownBy (W.alloc o) none := ⟨rfl, rfl, rfl, by simp, fun k hk _ => heap_alloc_old _ _ hk⟩

/-- With a reader that was there: a list of the call's own that grows. -/
structure CL (w W : World) (q : Nat) (a : Option Addr) (bs : List Int) (c : Nat) (ov : Value) (O : List Int) : Prop where
  g : w.grownBy W (some q)
  r0 : ∃ p, RD w q a bs c p
  r : ∃ p, RD W q a bs c p
  o : W.ownsRow w.heap.size 2 1 ov O.length (O.map (Value.int .i64))
  so : ∃ g cg, ov = .slice (some ⟨g, 0, none⟩) O.length cg
theorem CL.lt {w W : World} {q : Nat} {a : Option Addr} {bs : List Int} {c : Nat} {ov : Value} {O : List Int} (h : CL w W q a bs c ov O) : q < w.heap.size := by
  obtain ⟨p, hr⟩ := h.r0
  exact row_lt hr.1
theorem CL.new {w : World} {q : Nat} {a : Option Addr} {bs : List Int} {c p : Nat} (h : RD w q a bs c p) : CL w (w.alloc (.cells #[] 2)) q a bs c (.slice (some ⟨w.heap.size, 0, none⟩) 0 0) [] :=
  ⟨grown_alloc w _ q, ⟨p, h⟩, ⟨p, h.below ((Below.refl _ _).alloc (Nat.le_refl _) _)⟩, World.ownsRow_made w #[] 0 (Nat.le_refl _) (by unfold maxLen; omega) (by simp), ⟨_, _, rfl⟩⟩
theorem CL.read {w W W' : World} {q : Nat} {a : Option Addr} {bs : List Int} {c p : Nat} {ov : Value} {O : List Int} (h : CL w W q a bs c ov O) (hr : RD W' q a bs c p) (hg : W.grownBy W' (some q)) : CL w W' q a bs c ov O :=
  ⟨grown_trans h.g hg, h.r0, ⟨p, hr⟩, h.o.kept hg (.inr fun e => by have := (h.o.lt q e).1; have := h.lt; omega), h.so⟩
theorem CL.put {w W w4 : World} {q : Nat} {a : Option Addr} {bs : List Int} {c : Nat} {ov ov' : Value} {O : List Int} {x : Int} {o : Obj} (h : CL w W q a bs c ov O) (hown : w4.ownsRow w.heap.size 2 1 ov' (O.length + 1) ((O ++ [x]).map (Value.int .i64))) (hg : (W.alloc o).grownBy w4 ov.ownBlock) (hn : ov' = .slice none 0 0 ↔ ov = .slice none 0 0 ∧ 1 = 0) : CL w w4 q a bs c ov' (O ++ [x]) := by
  obtain ⟨p, hr⟩ := h.r
  obtain ⟨p0, hr0⟩ := h.r0
  have hlt : ∀ g, ov.ownBlock = some g → w.heap.size ≤ g := fun g e => (h.o.lt g e).1
  refine ⟨grown_own (grown_own h.g (grown_alloc0 W o) (fun g e => by cases e)) hg hlt, h.r0, ⟨p, ?_⟩, ?_, ?_⟩
  · exact RD.kept2 hr0 (hr.below ((Below.refl _ _).alloc (Nat.le_refl _) _)) hg hlt
  · rw [List.length_append]; exact hown
  · rw [List.length_append]
    obtain ⟨g, cg, e⟩ := h.so
    exact own_sm hown (not_nil hn ⟨g, _, cg, e⟩)
theorem CL.set {w W : World} {q g n cg : Nat} {a : Option Addr} {bs : List Int} {c : Nat} {O : List Int} (h : CL w W q a bs c (.slice (some ⟨g, 0, none⟩) n cg) O) (hn : O.length = n) {j : Nat} (hj : j < n) (v : Int) : CL w (W.setCell ⟨g, j, none⟩ (.int .i64 v)) q a bs c (.slice (some ⟨g, 0, none⟩) n cg) (O.set j v) := by
  obtain ⟨p, hr⟩ := h.r
  obtain ⟨p0, hr0⟩ := h.r0
  have hlt : ∀ k, some g = some k → w.heap.size ≤ k := fun k e => by injection e with e; subst e; exact (h.o.lt g rfl).1
  refine ⟨grown_own h.g (grown_set W g j _) hlt, h.r0, ⟨p, RD.kept2 hr0 hr (grown_set W g j _) hlt⟩, ?_, ⟨g, cg, by rw [List.length_set, hn]⟩⟩
  have ho := h.o
  rw [hn] at ho
  rw [List.length_set, hn]
  exact own_put v ho hj

end Go.Proofs.Ytaehhlkpbhmdfaa

namespace Go.Proofs.Ytaehhlkpbhmdfaa
open Go.RowKit

/-- What rowsOf holds while it grows its rows. -/
def GB (w : World) (c b : Nat) (sl : Value) (rows : List (List Nat)) : Prop :=
  w.heap[b]? = some (.cells #[.int .i64 c] 2 (0, 0)) ∧ w.heap[b + 1]? = some (.cells #[sl] 77 (0, 0)) ∧
  w.heap[b + 2]? = some (.cells #[.func (.func 51) #[] #[.pointer (some ⟨b, 0, none⟩), .pointer (some ⟨b + 1, 0, none⟩), .pointer (some ⟨b + 2, 0, none⟩)]] 89 (0, 0)) ∧
  w.ownsRow (b + 3) 76 6 sl rows.length ((flatR rows).map (Value.int .i64))
theorem GB.o {w : World} {c b : Nat} {sl : Value} {rows : List (List Nat)} (h : GB w c b sl rows) : w.ownsRow (b + 3) 76 6 sl rows.length ((flatR rows).map (Value.int .i64)) := h.2.2.2
theorem GB.size {w : World} {c b : Nat} {sl : Value} {rows : List (List Nat)} (h : GB w c b sl rows) : b + 3 ≤ w.heap.size := row_lt h.2.2.1
theorem GB.alloc {w : World} {c b : Nat} {sl : Value} {rows : List (List Nat)} (h : GB w c b sl rows) (o : Obj) : GB (w.alloc o) c b sl rows :=
  ⟨(heap_alloc_old _ _ (row_lt h.1)).trans h.1, (heap_alloc_old _ _ (row_lt h.2.1)).trans h.2.1, (heap_alloc_old _ _ (row_lt h.2.2.1)).trans h.2.2.1, h.o.alloc o⟩
theorem GB.cells {w : World} {c b : Nat} {sl : Value} {rows : List (List Nat)} (h : GB w c b sl rows) : w.cell? ⟨b, 0, none⟩ = some (.int .i64 c) ∧ w.cell? ⟨b + 1, 0, none⟩ = some sl ∧
    w.cell? ⟨b + 2, 0, none⟩ = some (.func (.func 51) #[] #[.pointer (some ⟨b, 0, none⟩), .pointer (some ⟨b + 1, 0, none⟩), .pointer (some ⟨b + 2, 0, none⟩)]) := by
  refine ⟨?_, ?_, ?_⟩
  · rw [cell_of_row _ _ 0 _ _ _ h.1]; simp
  · rw [cell_of_row _ _ 0 _ _ _ h.2.1]; simp
  · rw [cell_of_row _ _ 0 _ _ _ h.2.2.1]; simp
theorem GB.set {w : World} {c b g i : Nat} {sl u : Value} {rows : List (List Nat)} (h : GB w c b sl rows) (hg : b + 3 ≤ g) (hne : some g ≠ sl.ownBlock) : GB (w.setCell ⟨g, i, none⟩ u) c b sl rows := by
  refine ⟨?_, ?_, ?_, ?_⟩
  · rw [heap_setCell_other _ _ _ _ (by simp; omega)]; exact h.1
  · rw [heap_setCell_other _ _ _ _ (by simp; omega)]; exact h.2.1
  · rw [heap_setCell_other _ _ _ _ (by simp; omega)]; exact h.2.2.1
  · exact ownsRow_setCell_other h.o (fun e => hne e.symm) u

/-- What is kept: all below b, and of what else was there all but the rows. -/
def RF (w w' : World) (b : Nat) (sl sl' : Value) : Prop := Below b w w' ∧ w.heap.size ≤ w'.heap.size ∧ ∀ g o, b + 3 ≤ g → w.heap[g]? = some o → some g ≠ sl.ownBlock → w'.heap[g]? = some o ∧ some g ≠ sl'.ownBlock
theorem RF.refl (w : World) (b : Nat) (sl : Value) : RF w w b sl sl := ⟨Below.refl _ _, Nat.le_refl _, fun _ _ _ h hn => ⟨h, hn⟩⟩
theorem RF.trans {w w1 w2 : World} {b : Nat} {s s1 s2 : Value} (h : RF w w1 b s s1) (h2 : RF w1 w2 b s1 s2) : RF w w2 b s s2 :=
  ⟨h.1.trans h2.1, Nat.le_trans h.2.1 h2.2.1, fun g o hg ho hn => by
    obtain ⟨a1, a2⟩ := h.2.2 g o hg ho hn
    exact h2.2.2 g o hg a1 a2⟩
theorem RF.alloc (w : World) (b : Nat) (sl : Value) (o : Obj) (hb : b ≤ w.heap.size) : RF w (w.alloc o) b sl sl :=
  ⟨(Below.refl _ _).alloc hb _, by simp, fun g _ _ ho hn => ⟨(heap_alloc_old _ _ (row_lt ho)).trans ho, hn⟩⟩

theorem infoRow : (Try.prog.info? 76).map (fun i => (i.zero, i.size, i.bytes)) = some (some (.agg #[Value.int IntKind.i64 0, Value.int IntKind.i64 0, Value.int IntKind.i64 0, Value.int IntKind.i64 0, Value.int IntKind.i64 0, Value.int IntKind.i64 0]), 6, 48) := by kernel_rfl
theorem infoRow2 : (Try.prog.info? 76).map (·.size) = some 6 := by kernel_rfl
theorem sizeRow_of {l : List Int} (h : l.length = 6) : (Try.prog.info? 76).map (·.size) = some (cellsOf l).size := by
  rw [cellsOf_size, h]; exact infoRow2

/-- 'append' of a row to the rows. -/
theorem append_row (w : World) {ops : Array Oper} {rest : List Oper} {o : Oper} {a : Act} {Q : Exit → Act → World → Prop}
    (hg : o.guard = none) (s x : Operand) (hop : o.op = Op.call { callee := Callee.builtin Builtin.append, args := #[s, x], argTypes := #[77, 77] })
    (base : Nat) (v : Value) (k : Nat) (xs : List Value) (hs : a.eval s = v) (hown : w.ownsRow base 76 6 v k xs) (ad : Addr) (c : Nat) (news : List Value) (hx : a.eval x = .slice (some ad) 1 c) (hn : news.length = 6)
    (hc : ∀ j u, news[j]? = some u → w.cell? (ad.add j) = some u) (h1c : ∀ u ∈ news, u.oneCell' = true) (b1 : k ≤ 1000) (hb : base ≤ w.heap.size)
    (hK : ∀ v' w', w'.ownsRow base 76 6 v' (k + 1) (xs ++ news) → w.grownBy w' v.ownBlock → (v'.ownBlock = v.ownBlock ∨ v'.ownBlock = some w.heap.size) → wpList Try.prog ops Q rest (a.put o.dst v') w') :
    wpList Try.prog ops Q (o :: rest) a w := by
  obtain ⟨i0, hi, hz0, hz1, hz2⟩ := info_parts infoRow
  obtain ⟨v', w', hrun, r1, r2, _⟩ := run_append_own (P := Try.prog) w base 77 o.type _ i0 _ 6 48 Try.underlying77 hi hz0 hz1 hz2 rfl (by decide) v k xs hown ad 1 c news (by rw [hn]) hc h1c (by unfold maxLen; omega) (by omega) hb
  have r4 := append_block (P := Try.prog) w base 77 o.type _ i0 _ 6 48 Try.underlying77 hi hz0 hz1 hz2 v k xs hown ad 1 c news (by rw [hn]) hc h1c (by unfold maxLen; omega) (by omega) hrun
  exact wpList_run v' hg (exec_append' s x _ v _ hop hs hx hrun) (hK v' w' r1 r2 r4)
theorem cells6_here (W : World) (o0 o1 o2 o3 o4 o5 : Value) (T : TypeId) (g : Nat) (hg : W.heap.size = g) : ∀ j u, [o0, o1, o2, o3, o4, o5][j]? = some u → (W.alloc (.cells #[o0, o1, o2, o3, o4, o5] T)).cell? ((⟨g, 0, none⟩ : Addr).add j) = some u := by
  intro j u hu
  subst hg
  have hadd : (⟨W.heap.size, 0, none⟩ : Addr).add j = ⟨W.heap.size, j, none⟩ := by unfold Addr.add; split <;> simp_all
  rw [hadd, cell_of_row _ _ j _ _ _ (heap_alloc_new W (.cells #[o0, o1, o2, o3, o4, o5] T))]
  simpa using hu
theorem list6 {l : List Int} (h : l.length = 6) : ∃ c0 c1 c2 c3 c4 c5, l = [c0, c1, c2, c3, c4, c5] := by
  match l, h with
  | [c0, c1, c2, c3, c4, c5], _ => exact ⟨c0, c1, c2, c3, c4, c5, rfl⟩

theorem GB.box {wB w4 : World} {c b : Nat} {sl : Value} {rows : List (List Nat)} (h : GB wB c b sl rows) (hg : wB.grownBy w4 sl.ownBlock) : w4.cell? ⟨b + 1, 0, none⟩ = some sl ∧ w4.frozen? ⟨b + 1, 0, none⟩ = false := by
  have r1 := (hg.block _ (row_lt h.2.1) (fun e => by have := (h.o.lt _ e.symm).1; omega)).trans h.2.1
  exact ⟨by rw [cell_of_row _ _ 0 _ _ _ r1]; simp, frozen_of_row _ _ 0 _ _ r1⟩
/-- A row more, and where it lies written down. -/
theorem GB.more {w wB w4 : World} {c b : Nat} {sl v' : Value} {rows : List (List Nat)} {pre : List Nat} (h : GB wB c b sl rows) (hw : RF w wB b sl sl) (hown : w4.ownsRow (b + 3) 76 6 v' (rows.length + 1) ((flatR rows).map (Value.int .i64) ++ (padL pre).map (Value.int .i64))) (hg : wB.grownBy w4 sl.ownBlock) (hbk : v'.ownBlock = sl.ownBlock ∨ v'.ownBlock = some wB.heap.size) :
    GB (w4.setCell ⟨b + 1, 0, none⟩ v') c b v' (rows ++ [pre]) ∧ RF w (w4.setCell ⟨b + 1, 0, none⟩ v') b sl v' := by
  have hne : ∀ g, g < b + 3 → some g ≠ sl.ownBlock := fun g hg e => by have := (h.o.lt g e.symm).1; omega
  have r0 := (hg.block _ (row_lt h.1) (hne _ (by omega))).trans h.1
  have r1 := (hg.block _ (row_lt h.2.1) (hne _ (by omega))).trans h.2.1
  have r2 := (hg.block _ (row_lt h.2.2.1) (hne _ (by omega))).trans h.2.2.1
  refine ⟨⟨?_, ?_, ?_, ?_⟩, ?_, ?_, ?_⟩
  · rw [heap_setCell_other _ _ _ _ (by simp)]; exact r0
  · rw [heap_setCell_same _ _ _ _ _ _ r1]; rfl
  · rw [heap_setCell_other _ _ _ _ (by simp)]; exact r2
  · rw [List.length_append, flatR_append, flatR_one, List.map_append]
    exact ownsRow_setCell_below hown (by simp) v'
  · have hA := hw.1.trans (((Below.refl b wB).grown hg (by have := h.size; omega) (fun k e => by have := (h.o.lt k e).1; omega)))
    exact hA.setCell (by simp) _
  · have := hw.2.1
    have := hg.size
    simp [World.setCell]
    omega
  · intro g o hgb ho hn
    obtain ⟨a1, a2⟩ := hw.2.2 g o hgb ho hn
    have a3 := (hg.block g (row_lt a1) a2).trans a1
    refine ⟨by rw [heap_setCell_other _ _ _ _ (by simp; omega)]; exact a3, ?_⟩
    rcases hbk with e | e
    · rw [e]; exact a2
    · rw [e]
      have := row_lt a1
      intro e2
      injection e2 with e2
      omega

set_option maxHeartbeats 1000000 in
theorem grow_zero (c : Nat) (b : Nat) (pre : List Nat) (sl : Value) (rows : List (List Nat)) (w : World) (hp : pre.length = c) (hk : rows.length ≤ 720) (hG : GB w c b sl rows) :
    Calls Try.prog 51 #[.agg (cellsOf (padL pre)), .int .i64 (pre.length : Nat), .pointer (some ⟨b, 0, none⟩), .pointer (some ⟨b + 1, 0, none⟩), .pointer (some ⟨b + 2, 0, none⟩)] w fun e w' => e = .returned (.tuple #[]) ∧ ∃ sl', GB w' c b sl' (rows ++ [pre]) ∧ RF w w' b sl sl' := by
  obtain ⟨c0, c1, c2, c3, c4, c5, hpl⟩ := list6 (padL_length pre)
  have HPL : Hid (padL pre = [c0, c1, c2, c3, c4, c5]) := hpl
  rw [hpl, hp]
  clear hpl
  have hcl : cellsOf [c0, c1, c2, c3, c4, c5] = #[.int .i64 c0, .int .i64 c1, .int .i64 c2, .int .i64 c3, .int .i64 c4, .int .i64 c5] := rfl
  rw [hcl]
  clear hcl
  have hcc : ((c : Int) == (c : Int)) = true := by simp
  have HG1 : Hid (GB (w.alloc (.cells #[.int .i64 c0, .int .i64 c1, .int .i64 c2, .int .i64 c3, .int .i64 c4, .int .i64 c5] 76)) c b sl rows) := hG.alloc _
  have HRF : Hid (RF w ((w.alloc (.cells #[.int .i64 c0, .int .i64 c1, .int .i64 c2, .int .i64 c3, .int .i64 c4, .int .i64 c5] 76)).alloc (.cells #[.int .i64 c0, .int .i64 c1, .int .i64 c2, .int .i64 c3, .int .i64 c4, .int .i64 c5] 76)) b sl sl) :=
    (RF.alloc w b sl _ (by have := hG.size; omega)).trans (RF.alloc _ b sl _ (by have := hG.size; simp; omega))
  obtain ⟨d0, d1, d2⟩ := HG1.out.cells
  have hsz := HG1.out.size
  have fz := frozen_of_row _ _ 0 _ _ HG1.out.2.1
  have HSZ : Hid _ := hsz
  clear hsz
  go_enter Try.func51, Try.ntmps51
  go_wp2_with (first
    | (at_builtin
       refine append_row _ rfl _ _ rfl (b + 3) sl rows.length _ rfl (HG1.out.alloc _).o _ _ [.int .i64 c0, .int .i64 c1, .int .i64 c2, .int .i64 c3, .int .i64 c4, .int .i64 c5] rfl rfl (cells6_here _ _ _ _ _ _ _ _ _ (by simp)) (by simp [Value.oneCell']) (by omega) (Nat.le_trans HSZ.out (by simp)) ?_
       intro v' w4 hown hg hbk
       have HM : Hid (GB (w4.setCell ⟨b + 1, 0, none⟩ v') c b v' (rows ++ [pre]) ∧ RF w (w4.setCell ⟨b + 1, 0, none⟩ v') b sl v') := GB.more (HG1.out.alloc _) HRF.out (by rw [HPL.out]; exact hown) hg hbk
       obtain ⟨e1, e2⟩ := (HG1.out.alloc _).box hg
       obtain ⟨g', cg, rfl, _⟩ := own_some hown
       clear hown hg hbk))
  refine bodyPost_ret (results_none rfl _ _ _) rfl ?_
  exact ⟨rfl, _, HM.out.1, HM.out.2⟩

theorem arrRow : Try.prog.arrayLen 76 = 6 := by kernel_rfl
theorem elRow : (Try.prog.info? (Try.prog.elem 76)).map (·.size) = some 1 := by kernel_rfl
theorem undRow : Try.prog.underlying 76 = some (.array (Try.prog.arrayLen 76) (Try.prog.elem 76)) := by kernel_rfl
theorem slice_row (W : World) (g l : Nat) (h : l ≤ 6) : (Instr.sliceAt 76 (.pointer (some ⟨g, 0, none⟩)) none (some (.int .i64 l)) none).run Try.prog W = .ok (.slice (some ⟨g, 0, none⟩) l 6) W := by
  rw [run_sliceAt_array_h W _ _ undRow .i64 (l : Int) (by omega) (by rw [arrRow]; omega), arrRow]
  have h1 := elRow
  cases hq : Try.prog.info? (Try.prog.elem 76) with
  | none => simp [hq] at h1
  | some i => simp [sizeOf, typeInfo, hq, slicedAt, Addr.add]

/-- The box of the row that is begun. -/
def BX (w : World) (g : Nat) (pre : List Nat) (x : Int) : Prop := w.heap[g]? = some (.cells (cellsOf ((padL pre).set pre.length x)) 76 (0, 0))

/-- What a call with d places to come does. -/
def GrowOk (c b d : Nat) : Prop := ∀ (pre : List Nat) (sl : Value) (rows : List (List Nat)) (w : World), pre.length + d = c → (av c pre).length = d → rows.length + facN d ≤ 720 → GB w c b sl rows →
      Calls Try.prog 51 #[.agg (cellsOf (padL pre)), .int .i64 (pre.length : Nat), .pointer (some ⟨b, 0, none⟩), .pointer (some ⟨b + 1, 0, none⟩), .pointer (some ⟨b + 2, 0, none⟩)] w fun e w' => e = .returned (.tuple #[]) ∧ ∃ sl', GB w' c b sl' (rows ++ gen c d pre) ∧ RF w w' b sl sl'

set_option maxHeartbeats 2000000 in
theorem grow_succ (c : Nat) (hc6 : c ≤ 6) (b d : Nat) (ih : GrowOk c b d) (pre : List Nat) (sl : Value) (rows : List (List Nat)) (w : World) (hp : pre.length + (d + 1) = c) (hav : (av c pre).length = d + 1) (hk : rows.length + facN (d + 1) ≤ 720) (hG : GB w c b sl rows) :
    Calls Try.prog 51 #[.agg (cellsOf (padL pre)), .int .i64 (pre.length : Nat), .pointer (some ⟨b, 0, none⟩), .pointer (some ⟨b + 1, 0, none⟩), .pointer (some ⟨b + 2, 0, none⟩)] w fun e w' => e = .returned (.tuple #[]) ∧ ∃ sl', GB w' c b sl' (rows ++ gen c (d + 1) pre) ∧ RF w w' b sl sl' := by
    have HIH : Hid (GrowOk c b d) := ih
    clear ih
    have HAV : Hid ((av c pre).length = d + 1) := hav
    have HK : Hid (rows.length + facN (d + 1) ≤ 720) := hk
    have HP : Hid (pre.length + (d + 1) = c) := hp
    have HG0 : Hid (GB w c b sl rows) := hG
    have hsz0 := hG.size
    have hpl : pre.length < c := by omega
    have hpl6 : pre.length < 6 := by omega
    obtain ⟨gr, HGR⟩ : ∃ gr, Hid (cellsOf (padL pre) = gr) := ⟨_, rfl⟩
    rw [HGR.out]
    have HG1 : Hid (GB (w.alloc (.cells gr 76)) c b sl rows) := hG.alloc _
    have HB1 : Hid (BX (w.alloc (.cells gr 76)) w.heap.size pre 0) := by
      show _ = _
      rw [padL_set0, HGR.out]; exact heap_alloc_new _ _
    have HR1 : Hid (RF w (w.alloc (.cells gr 76)) b sl sl) := RF.alloc w b sl _ (by omega)
    have HN1 : Hid (some w.heap.size ≠ sl.ownBlock) := fun e => by have := (hG.o.lt _ e.symm).2; omega
    obtain ⟨l, HL⟩ : ∃ l, Hid (pre.length = l) := ⟨_, rfl⟩
    rw [HL.out] at hpl hpl6 ⊢
    have hne : ((l : Int) == (c : Int)) = false := by rw [beq_eq_false_iff_ne]; omega
    obtain ⟨d0, d1, d2⟩ := HG1.out.cells
    clear hp hav hk hG hsz0
    go_enter Try.func51, Try.ntmps51
    go_wp2_with fail
    clear hne d0 d1 d2
    go_loopw [16] (fun t wr => ∃ (q : Nat) (x : Int) (sl1 : Value), q ≤ c ∧ t = .int .i64 q ∧ GB wr c b sl1 (rows ++ genTo c d pre q) ∧ BX wr w.heap.size pre x ∧ RF w wr b sl sl1 ∧ some w.heap.size ≠ sl1.ownBlock) (fun t _ => c - (intOf t).toNat)
    case atStart => exact ⟨0, 0, sl, Nat.zero_le _, rfl, by rw [genTo_zero, List.append_nil]; exact HG1.out, HB1.out, HR1.out, HN1.out⟩
    case round =>
      clear HG1 HB1 HR1 HN1
      obtain ⟨q, x, sl1, hq, rfl, hG, hB, hR, hN⟩ := hrel
      have G1 : Hid (GB wr c b sl1 (rows ++ genTo c d pre q)) := hG
      have B1 : Hid (BX wr w.heap.size pre x) := hB
      have R1 : Hid (RF w wr b sl sl1) := hR
      have N1 : Hid (some w.heap.size ≠ sl1.ownBlock) := hN
      have hsz : b + 3 ≤ w.heap.size := HG0.out.size
      clear hG hB hR hN
      by_cases hlt : q < c
      · have HIN : Hid (IntsAt wr (some ⟨w.heap.size, 0, none⟩) ((padL pre).set pre.length x)) := IntsAt.of_row B1.out
        have HHAS : Hid (hasTo ((padL pre).set pre.length x) l (q : Int) = decide (q ∈ pre)) := by
          show _ = _
          rw [← HL.out]; exact pad_has pre q x (by rw [HL.out]; exact hpl6)
        have HLL : Hid (((padL pre).set pre.length x).length = 6) := by show _ = _; rw [List.length_set, padL_length]
        have hll : l ≤ 6 := by omega
        have hl9 : l ≤ 9223372036854775807 := by omega
        have hsl := fun W => slice_row W w.heap.size l hll
        by_cases hm : q ∈ pre
        · have HH : Hid (hasTo ((padL pre).set pre.length x) l (q : Int) = true) := by show _ = _; rw [HHAS.out]; simp [hm]
          have HG : Hid (GB wr c b sl1 (rows ++ genTo c d pre (q + 1))) := by have := G1.out; rwa [← genTo_in hm] at this
          clear hm HHAS G1
          go_wp2_with (go_at_call 52; refine (contains_any _ l _ _ _ _ HIN.out (by rw [HLL.out]; exact hll) hl9).mono ?_; rintro e w' ⟨rfl, hw'⟩; subst w'; rw [HH.out])
          refine ⟨⟨q + 1, x, sl1, by omega, by go_num, HG.out, B1.out, R1.out, N1.out⟩, by simp [intOf]; omega⟩
        · have HH : Hid (hasTo ((padL pre).set pre.length x) l (q : Int) = false) := by show _ = _; rw [HHAS.out]; simp [hm]
          have HM : Hid (q ∉ pre) := hm
          clear hm HHAS
          have cx := cell_of_row _ _ l _ _ _ B1.out
          rw [cellsOf_get _ _ (by rw [HLL.out]; omega)] at cx
          have fx := frozen_of_row _ _ l _ _ B1.out
          obtain ⟨cv, HCV⟩ : ∃ v, Hid (((padL pre).set pre.length x).getD l 0 = v) := ⟨_, rfl⟩
          rw [HCV.out] at cx
          have GS : Hid (GB (wr.setCell ⟨w.heap.size, l, none⟩ (.int .i64 q)) c b sl1 (rows ++ genTo c d pre q)) := G1.out.set hsz N1.out
          have BS : Hid ((wr.setCell ⟨w.heap.size, l, none⟩ (.int .i64 q)).heap[w.heap.size]? = some (.cells (cellsOf (padL (pre ++ [q]))) 76 (0, 0))) := by
            show _ = _
            rw [heap_setCell_same _ _ _ _ _ _ B1.out, cellsOf_set, ← HL.out, padL_set]
          have BX2 : Hid (BX (wr.setCell ⟨w.heap.size, l, none⟩ (.int .i64 q)) w.heap.size pre q) := by
            show _ = _
            rw [BS.out, ← padL_set pre q x, List.set_set]
          have RS : Hid (RF w (wr.setCell ⟨w.heap.size, l, none⟩ (.int .i64 q)) b sl sl1) := by
            refine ⟨R1.out.1.setCell (by simp; omega) _, by have := R1.out.2.1; simpa [World.setCell] using this, fun g o hg ho hn => ?_⟩
            obtain ⟨a1, a2⟩ := R1.out.2.2 g o hg ho hn
            refine ⟨?_, a2⟩
            rw [heap_setCell_other _ _ _ _ (by have := row_lt ho; simp; omega)]
            exact a1
          have HK2 : Hid ((rows ++ genTo c d pre q).length + facN d ≤ 720) := by
            have h1 := genTo_length_le HAV.out (q + 1) (by omega)
            rw [genTo_out HM.out, List.length_append, (gen_all c d (pre ++ [q]) (av_len hlt HM.out HAV.out)).1] at h1
            have := HK.out
            show _ ≤ _
            rw [List.length_append]
            omega
          have HC : Hid (∀ w1, GB w1 c b sl1 (rows ++ genTo c d pre q) → Calls Try.prog 51 #[.agg (cellsOf (padL (pre ++ [q]))), .int .i64 ((l : Int) + 1), .pointer (some ⟨b, 0, none⟩), .pointer (some ⟨b + 1, 0, none⟩), .pointer (some ⟨b + 2, 0, none⟩)] w1 fun e w' => e = .returned (.tuple #[]) ∧ ∃ sl', GB w' c b sl' (rows ++ genTo c d pre (q + 1)) ∧ RF w1 w' b sl1 sl') := by
            intro w1 hg1
            have := HIH.out (pre ++ [q]) sl1 (rows ++ genTo c d pre q) w1 (by have := HP.out; rw [List.length_append, List.length_singleton]; omega) (av_len hlt HM.out HAV.out) HK2.out hg1
            rw [List.append_assoc, ← genTo_out HM.out, List.length_append, HL.out, List.length_singleton, Int.natCast_add] at this
            exact this
          clear HK2 HCV
          obtain ⟨g2, HG2⟩ : ∃ gr, Hid (cellsOf (padL (pre ++ [q])) = gr) := ⟨_, rfl⟩
          have HS2 : Hid ((Try.prog.info? 76).map (·.size) = some g2.size) := by show _ = _; rw [← HG2.out]; exact sizeRow_of (padL_length _)
          rw [HG2.out] at HC BS
          obtain ⟨d0, d1, d2⟩ := GS.out.cells
          go_wp2_with (first
            | (go_at_call 52; refine (contains_any _ l _ _ _ _ HIN.out (by rw [HLL.out]; exact hll) hl9).mono ?_; rintro e w' ⟨rfl, hw'⟩; subst w'; rw [HH.out])
            | (with_reducible refine wpList_load_row ?_ 76 (.tmp 5) ?_ (w.heap.size) ?_ 76 g2 (0, 0) _ ?_ Try.underlying76 ?_ ?_ ?_
               · rfl
               · rfl
               · rfl
               · exact BS.out
               · rfl
               · exact HS2.out)
            | (go_at_call 51; refine (HC.out _ GS.out).mono ?_; rintro e w5 ⟨rfl, sl2, hg5, hr5⟩; have G5 : Hid (GB w5 c b sl2 (rows ++ genTo c d pre (q + 1))) := hg5; have R5 : Hid (RF (wr.setCell ⟨w.heap.size, l, none⟩ (.int .i64 q)) w5 b sl1 sl2) := hr5; clear hg5 hr5))
          have hbx := R5.out.2.2 w.heap.size _ hsz BX2.out N1.out
          refine ⟨⟨q + 1, q, sl2, by omega, by go_num, G5.out, hbx.1, RS.out.trans R5.out, hbx.2⟩, by simp [intOf]; omega⟩
      · have hqc : q = c := by omega
        have HG : Hid (GB wr c b sl1 (rows ++ gen c (d + 1) pre)) := by have := G1.out; rwa [hqc, genTo_all] at this
        clear hqc G1
        go_wp2
        first
          | refine bodyPost_end (results_none rfl _ _ _) rfl ?_
          | refine bodyPost_ret (results_none rfl _ _ _) rfl ?_
        exact ⟨rfl, sl1, HG.out, R1.out⟩

theorem grow_any (c : Nat) (hc6 : c ≤ 6) (b : Nat) : ∀ d, GrowOk c b d := by
  intro d
  induction d with
  | zero => exact fun pre sl rows w hp _ hk hG => grow_zero c b pre sl rows w hp (by omega) hG
  | succ d ih => exact fun pre sl rows w hp hav hk hG => grow_succ c hc6 b d ih pre sl rows w hp hav hk hG

end Go.Proofs.Ytaehhlkpbhmdfaa
