import Derived.Test.YtaehhlkpbhmdfaaPack1
import Derived.Test.YtaehhlkpbhmdfaaPack2
import Derived.Test.YtaehhlkpbhmdfaaSpanTr0
import Derived.Test.YtaehhlkpbhmdfaaPack7
import Derived.Test.YtaehhlkpbhmdfaaPack8
import Derived.Test.YtaehhlkpbhmdfaaKinTail
import Derived.Test.YtaehhlkpbhmdfaaPack13
import Derived.Test.YtaehhlkpbhmdfaaDrawSpans
import Derived.Laws.StructEq
namespace Go.Proofs.Ytaehhlkpbhmdfaa
open Go.RowKit

theorem CodeAt.blwT {w w' : World} {a : Option Addr} {bs : List Int} (h : CodeAt w a bs) (hb : Below w.heap.size w w') : CodeAt w' a bs := fun j hj => by
  obtain ⟨b, off, e, hc, hv⟩ := h j hj
  exact ⟨b, off, e, (hb.cell (p := ⟨b, off + j, none⟩) (block_lt_of_cell hc)).trans hc, hv⟩
theorem keepT {w1 X : World} {b o : Nat} {v : Value} (hc : w1.cell? ⟨b, o, none⟩ = some v) (hb : Below w1.heap.size w1 X) : X.cell? ⟨b, o, none⟩ = some v := by
  rw [hb.cell (p := ⟨b, o, none⟩) (block_lt_of_cell hc)]; exact hc
theorem MBx.two {W : World} {k : Nat} {n : Int} {sl : Value} {T : TypeId} (h : MBx W k n sl T) : W.cell? ⟨k, 0, none⟩ = some (.int .i64 n) ∧ W.cell? ⟨k, 1, none⟩ = some sl := h.cells
theorem eqlE (x y z : Int) (w : World) : (Op.equalIn 10000 32 (.agg #[.int .i64 x, .int .i64 y, .int .i64 z]) (.agg #[.int .i64 x, .int .i64 y, .int .i64 z])).run Try.prog w = .ok true w := by
  have u3 := Try.underlying2
  have a3 := Try.isAgg2
  have z3 := Try.sizeOf2
  have hS : Try.prog.underlying 32 = some (.struct (Try.prog.fieldsOf 32)) := by kernel_rfl
  have hp : Try.prog.stoodInHeld 32 = false := by kernel_rfl
  rw [show (10000 : Nat) = 9999 + 1 from rfl, run_equalIn_agg w 9999 32 _ _ hS hp]
  simp only [Program.fieldsOf, Try.underlying32]
  go_simp
/-- An edge of the tree bears the matrix's time. -/
theorem tree_time {n : Nat} {zs : List Int} {l : List ED} {ins : Nat → Bool} (hs : symB n zs = true) (ht : PTr n (tmG zs n) l ins) (k : Nat) (hk : k < l.length) : timeV n zs (og3 (flE l) k 0) (og3 (flE l) k 1) = og3 (flE l) k 2 := by
  rw [og3_fl0 l k hk, og3_fl1 l k hk, og3_fl l k hk]
  obtain ⟨x, y, hx, hy, e⟩ := ht.mem (l.getD k e0) (mem_at.2 ⟨k, hk, rfl⟩)
  rw [e]
  show timeV n zs (x : Int) (y : Int) = tmG zs n x y
  rw [timeV_at (symB_mat hs) hx hy]
  rfl
theorem getD_setT (P : List Int) (j x : Nat) (v : Int) (hj : j < P.length) : (P.set j v).getD x 0 = if j = x then v else P.getD x 0 := by
  rw [List.getD_eq_getElem?_getD, List.getD_eq_getElem?_getD, List.getElem?_set]
  by_cases h : j = x
  · subst h; simp [hj]
  · simp [h]
/-- A drawn list of edges, as its times are set. -/
structure TL (w5 W : World) (la : Option Addr) (lc m n : Nat) (zs es fs : List Int) (k : Nat) : Prop where
  b : Below w5.heap.size w5 W
  o : W.ownsRow (w5.heap.size + 1) 32 3 (.slice la m lc) m (fs.map (Value.int .i64))
  l : fs.length = m * 3
  e : ∀ j, j < m → og3 fs j 0 = og3 es j 0 ∧ og3 fs j 1 = og3 es j 1
  t : ∀ j, j < k → og3 fs j 2 = timeV n zs (og3 es j 0) (og3 es j 1)
theorem TL.below {w5 W W' : World} {la : Option Addr} {lc m n : Nat} {zs es fs : List Int} {k : Nat} (h : TL w5 W la lc m n zs es fs k) (hb : Below W.heap.size W W') : TL w5 W' la lc m n zs es fs k := ⟨h.b.trans (hb.mono h.b.size), own_blw h.o hb, h.l, h.e, h.t⟩
theorem TL.set {w5 W : World} {g lc m n : Nat} {zs es fs : List Int} {k : Nat} {v : Int} (h : TL w5 W (some ⟨g, 0, none⟩) lc m n zs es fs k) (hk : k < m) (hv : timeV n zs (og3 es k 0) (og3 es k 1) = v) : TL w5 (W.setCell ⟨g, k * 3 + 2, none⟩ (.int .i64 v)) (some ⟨g, 0, none⟩) lc m n zs es (fs.set (k * 3 + 2) v) (k + 1) := by
  have hl : k * 3 + 2 < fs.length := by rw [h.l]; omega
  refine ⟨h.b.grown (grown_set W g (k * 3 + 2) _) h.b.size (fun b e => ?_), ?_, by rw [List.length_set]; exact h.l, fun j hj => ?_, fun j hj => ?_⟩
  · have := (h.o.lt b e).1; omega
  · rw [List.map_set]; exact own_putV _ h.o
  · have := h.e j hj
    unfold og3 at *
    rw [getD_setT _ _ _ _ hl, getD_setT _ _ _ _ hl, if_neg (by omega), if_neg (by omega)]
    exact this
  · unfold og3 at *
    rw [getD_setT _ _ _ _ hl]
    by_cases e : j = k
    · subst e; rw [if_pos rfl, ← hv]
    · rw [if_neg (by omega)]; exact h.t j (by omega)
theorem TL.at {w5 W : World} {g lc m n : Nat} {zs es fs : List Int} {k : Nat} (h : TL w5 W (some ⟨g, 0, none⟩) lc m n zs es fs k) {i : Nat} (hi : i < m * 3) : W.cell? ⟨g, i, none⟩ = some (.int .i64 (fs.getD i 0)) ∧ W.frozen? ⟨g, i, none⟩ = false :=
  own_cellV h.o (by have hl : i < fs.length := by rw [h.l]; exact hi
                    simp [List.getD_eq_getElem?_getD, hl])

set_option maxHeartbeats 400000 in
theorem lawFnSpanTree_big (a : Option Addr) (c len : Nat) (w : World) (hl : len ≤ 9223372036854775807) (h : 1048576 < len) :
    Calls Try.prog 3 #[.slice a len c] w fun e w' => e = .returned (.bool true) ∧ Below w.heap.size w w' := by
  have hd : decide (1048576 < len) = true := decide_eq_true h
  go_enter Try.func3, Try.ntmps3
  go_wp2_with (go_at_call 6; refine (big_any a c len w hl).mono ?_; rintro e w1 ⟨rfl, hw1⟩; subst w1; rw [hd])
  go_ret
  exact ⟨rfl, Below.refl _ _⟩

set_option maxRecDepth 10000 in
set_option maxHeartbeats 8000000 in
theorem lawFnSpanTree (a : Option Addr) (ca : Nat) (bs : List Int) (w : World) (hA : CodeAt w a bs) (hl : bs.length ≤ 1048576) :
    Calls Try.prog 3 #[.slice a bs.length ca] w fun e w' => e = .returned (.bool true) ∧ Below w.heap.size w w' := by
  have HA : Hid (CodeAt w a bs) := hA
  clear hA
  have hd : decide (1048576 < bs.length) = false := decide_eq_false (by omega)
  go_enter Try.func3, Try.ntmps3
  go_wp2_with fail
  refine (big_any a ca bs.length w (by omega)).mono ?_
  rintro e w1 ⟨rfl, hw1⟩
  subst w1
  rw [hd]
  clear hd
  go_wp2_with fail
  refine (drawSpan_any a ca bs w HA.out hl).mono ?_
  rintro e w1 ⟨n, g, cg, zs, rfl, hn1, hn6, hzn, hb1, hi1⟩
  obtain ⟨zl, HZ⟩ : ∃ v, Hid (zs.length = v) := ⟨_, rfl⟩
  rw [HZ.out]
  have A1 : Below w1.heap.size w1 (w1.alloc (.cells #[.int .i64 n, .slice (some ⟨g, 0, none⟩) zl cg] 26)) := (Below.refl _ _).alloc (Nat.le_refl _) _
  have B1 : Hid (Below w.heap.size w (w1.alloc (.cells #[.int .i64 n, .slice (some ⟨g, 0, none⟩) zl cg] 26))) := hb1.trans (A1.mono hb1.size)
  have I1 : Hid (IntsAt (w1.alloc (.cells #[.int .i64 n, .slice (some ⟨g, 0, none⟩) zl cg] 26)) (some ⟨g, 0, none⟩) zs) := hi1.below A1
  have X1 : Hid (MBx (w1.alloc (.cells #[.int .i64 n, .slice (some ⟨g, 0, none⟩) zl cg] 26)) w1.heap.size n (.slice (some ⟨g, 0, none⟩) zl cg) 26) := heap_alloc_new _ _
  clear hb1 hi1 A1 hzn
  obtain ⟨x0, x1⟩ := X1.out.two
  go_wp2_with fail
  clear x0 x1
  generalize w1.alloc (.cells #[.int .i64 n, .slice (some ⟨g, 0, none⟩) zl cg] 26) = W1 at *
  generalize w1.heap.size = k1 at *
  have CI := implSpan_ex n (some ⟨g, 0, none⟩) cg zs W1 I1.out
  rw [HZ.out] at CI
  refine CI.mono ?_
  rintro e w2 ⟨p, pl, ga, gc, hT, rfl, hb2, hi2⟩
  obtain ⟨hpl, hp16⟩ := hT.small
  have HT : Hid (Tr n zs p pl) := hT
  obtain ⟨tv, HTV⟩ : ∃ v, Hid (treeV p pl = v) := ⟨_, rfl⟩
  have CSP : Hid (∀ W, IntsAt W (some ⟨g, 0, none⟩) zs → Calls Try.prog 9 #[.agg #[.int .i64 n, .slice (some ⟨g, 0, none⟩) zl cg]] W fun e w' => ∃ wa wc, e = .returned (.slice wa pl wc) ∧ Below W.heap.size W w' ∧ IntsAt w' wa p) := fun W h => by
    have := specSpan_of n (some ⟨g, 0, none⟩) cg zs p pl W h HT.out
    rw [HZ.out] at this
    exact this
  have CTI : Hid (∀ W la lc, IntsAt W la p → Calls Try.prog 15 #[.slice la pl lc] W fun e w' => e = .returned (.int .i64 tv) ∧ Below W.heap.size W w') := fun W la lc h => by
    have := implTree_any la pl lc p W h hpl (by omega)
    rw [HTV.out] at this
    exact this
  have CTS : Hid (∀ W la lc, IntsAt W la p → Calls Try.prog 16 #[.slice la pl lc] W fun e w' => e = .returned (.int .i64 tv) ∧ w' = W) := fun W la lc h => by
    have := specTree_any la pl lc p W h hpl (by omega)
    rw [HTV.out] at this
    exact this
  obtain ⟨sb, HSB⟩ : ∃ v, Hid (symB n zs = v) := ⟨_, rfl⟩
  have CSY : Hid (∀ W, IntsAt W (some ⟨g, 0, none⟩) zs → Calls Try.prog 10 #[.agg #[.int .i64 n, .slice (some ⟨g, 0, none⟩) zl cg]] W fun e w' => e = .returned (.bool sb) ∧ Below W.heap.size W w') := fun W h => by
    have := specSym_any n (some ⟨g, 0, none⟩) cg zs W h
    rw [HZ.out, HSB.out] at this
    exact this
  have B2 : Hid (Below w.heap.size w w2) := B1.out.trans (hb2.mono B1.out.size)
  have I2 : Hid (IntsAt w2 (some ⟨g, 0, none⟩) zs) := I1.out.below hb2
  have X2 : Hid (MBx w2 k1 n (.slice (some ⟨g, 0, none⟩) zl cg) 26) := X1.out.below hb2
  have L2 : Hid (IntsAt w2 ga p) := hi2
  clear CI hb2 hi2 B1 I1 X1 hT hpl
  obtain ⟨x0, x1⟩ := X2.out.two
  go_wp2_with fail
  clear x0 x1
  refine (CSP.out w2 I2.out).mono ?_
  rintro e w3 ⟨wa, wc, rfl, hb3, hi3⟩
  have B3 : Hid (Below w.heap.size w w3) := B2.out.trans (hb3.mono B2.out.size)
  have I3 : Hid (IntsAt w3 (some ⟨g, 0, none⟩) zs) := I2.out.below hb3
  have X3 : Hid (MBx w3 k1 n (.slice (some ⟨g, 0, none⟩) zl cg) 26) := X2.out.below hb3
  have L3 : Hid (IntsAt w3 ga p) := L2.out.below hb3
  have W3 : Hid (IntsAt w3 wa p) := hi3
  clear hb3 hi3 B2 I2 X2 L2
  obtain ⟨x0, x1⟩ := X3.out.two
  have hpp : ((pl : Int) != (pl : Int)) = false := by simp
  have hpe : ((pl : Int) == (pl : Int)) = true := by simp
  go_wp2_with fail
  clear x0 x1
  refine (CSY.out w3 I3.out).mono ?_
  rintro e w4 ⟨rfl, hb4⟩
  have B4 : Hid (Below w.heap.size w w4) := B3.out.trans (hb4.mono B3.out.size)
  have I4 : Hid (IntsAt w4 (some ⟨g, 0, none⟩) zs) := I3.out.below hb4
  have X4 : Hid (MBx w4 k1 n (.slice (some ⟨g, 0, none⟩) zl cg) 26) := X3.out.below hb4
  have L4 : Hid (IntsAt w4 ga p) := L3.out.below hb4
  have W4 : Hid (IntsAt w4 wa p) := W3.out.below hb4
  clear hb4 B3 I3 X3 L3 W3
  cases sb
  · have hp0 : pl = 0 := by
      rcases HT.out with ⟨_, _, h⟩ | ⟨_, _, _, _, h, _⟩
      · exact h
      · rw [HSB.out] at h; cases h
    subst hp0
    go_wp2
    go_ret
    exact ⟨by first | rfl | simp, B4.out⟩
  · have HTM : Hid (∀ k, k < pl → timeV n zs (og3 p k 0) (og3 p k 1) = og3 p k 2) := by
      rcases HT.out with ⟨hs, _⟩ | ⟨m, l, ins, e, hs, ht, hl9, rfl, rfl⟩
      · rw [HSB.out] at hs; cases hs
      · obtain rfl : m = n := by omega
        exact fun k hk => tree_time hs ht k hk
    have HSP : Hid (spanB n p pl = true) := by
      rcases HT.out with ⟨hs, _⟩ | ⟨m, l, ins, e, hs, ht, hl9, rfl, rfl⟩
      · rw [HSB.out] at hs; cases hs
      · obtain rfl : m = n := by omega
        exact prim_spans ht hl9 (by omega)
    have HLE : Hid (∀ es fs m, spanB n es m = true → (∀ j, j < m → og3 fs j 2 = timeV n zs (og3 es j 0) (og3 es j 1)) → tv ≤ treeV fs m) := by
      rcases HT.out with ⟨hs, _⟩ | ⟨m, l, ins, e, hs, ht, hl9, rfl, rfl⟩
      · rw [HSB.out] at hs; cases hs
      · obtain rfl : m = n := by omega
        intro es fs m' h1 h2
        rw [← HTV.out]
        exact span_least hs ht hl9 h1 h2
    have HPL : Hid (p.length = pl * 3) := HT.out.small.1
    clear HT HSB
    go_wp2_with fail
    go_loopw [6] (fun t wr => ∃ k : Nat, k ≤ pl ∧ t = .int .i64 k ∧ Below w4.heap.size w4 wr) (fun t _ => pl - (intOf t).toNat)
    case atStart => exact ⟨0, Nat.zero_le _, rfl, Below.refl _ _⟩
    case round =>
      obtain ⟨k, hk, rfl, hb⟩ := hrel
      have HB : Hid (Below w4.heap.size w4 wr) := hb
      clear hb
      by_cases hlt : k < pl
      · obtain ⟨b, off, rfl, hcs⟩ := IntsAt.some (IntsAt.below L4.out HB.out) (j := k * 3) (by rw [HPL.out]; omega)
        obtain ⟨r0, r1, r2⟩ := row3_at hcs HPL.out k hlt
        obtain ⟨b2, off2, rfl, hcs2⟩ := IntsAt.some (IntsAt.below W4.out HB.out) (j := k * 3) (by rw [HPL.out]; omega)
        obtain ⟨p0, p1, p2⟩ := row3_at hcs2 HPL.out k hlt
        clear hcs hcs2
        have CTK : Hid (∀ s : Kin wr, Calls Try.prog 11 #[.agg #[.int .i64 n, .slice (some ⟨g, 0, none⟩) zl cg], .int .i64 (og3 p k 0), .int .i64 (og3 p k 1)] s.w fun e w' => e = .returned (.int .i64 (og3 p k 2)) ∧ Below s.w.heap.size s.w w') := fun s => by
          have := implTime_any n (og3 p k 0) (og3 p k 1) (some ⟨g, 0, none⟩) cg zs s.w ((I4.out.below HB.out).below s.below)
          rw [HZ.out, HTM.out k hlt] at this
          exact this
        obtain ⟨o0, H0⟩ : ∃ t, Hid (og3 p k 0 = t) := ⟨_, rfl⟩
        obtain ⟨o1, H1⟩ : ∃ t, Hid (og3 p k 1 = t) := ⟨_, rfl⟩
        obtain ⟨o2, H2⟩ : ∃ t, Hid (og3 p k 2 = t) := ⟨_, rfl⟩
        rw [H0.out, H1.out, H2.out] at CTK
        rw [H0.out] at r0 p0
        rw [H1.out] at r1 p1
        rw [H2.out] at r2 p2
        have t0 := fun s : Kin wr => s.cell r0
        have u0 := fun s : Kin wr => s.cell p0
        have t1 := fun s : Kin wr => s.cell r1
        have u1 := fun s : Kin wr => s.cell p1
        have t2 := fun s : Kin wr => s.cell r2
        have u2 := fun s : Kin wr => s.cell p2
        obtain ⟨x0, x1⟩ := (X4.out.below HB.out).two
        have v0 := fun s : Kin wr => s.cell x0
        have v1 := fun s : Kin wr => s.cell x1
        have hEQ := eqlE o0 o1 o2
        have h22 : (o2 != o2) = false := by simp
        have hltI : (k : Int) < (pl : Int) := by omega
        have hkin := Kin.there wr
        go_wp2_with fail
        refine wp_region_kin (by kernel_rfl) (by kernel_rfl) ?_
        repeat (go_big_quiet_step ((go_at_call 11; exact Kin.call (CTK.out _))))
        refine wpQuiet_nil ?_
        rintro _ ⟨s, rfl⟩
        have HS2 : Hid (Below w4.heap.size w4 s.w) := HB.out.trans (s.below.mono HB.out.size)
        clear t0 t1 t2 u0 u1 u2 v0 v1 hkin CTK
        generalize s.w = w5 at *
        go_wp2
        first
          | exact ⟨⟨k + 1, by omega, by go_num, HS2.out⟩, by simp [intOf]; omega⟩
          | (go_roundw
             case rel => exact ⟨k + 1, by omega, by go_num, HS2.out⟩
             case measure => simp [intOf]; omega)
      · have hke : k = pl := by omega
        subst hke
        have hnl : ¬ ((k : Int) < (k : Int)) := by omega
        clear hlt
        generalize wr = w5 at *
        have B5 : Hid (Below w.heap.size w w5) := B4.out.trans (HB.out.mono B4.out.size)
        have I5 : Hid (IntsAt w5 (some ⟨g, 0, none⟩) zs) := I4.out.below HB.out
        have X5 : Hid (MBx w5 k1 n (.slice (some ⟨g, 0, none⟩) zl cg) 26) := X4.out.below HB.out
        have L5 : Hid (IntsAt w5 ga p) := L4.out.below HB.out
        clear B4 I4 X4 L4 W4 HTM
        go_wp2_with fail
        refine (drawSpans_any a ca bs w5 (HA.out.blwT B5.out) hl).mono ?_
        rintro e w6 ⟨n2, m2, la, lc, es, rfl, hm2, hb6, ho6, hel⟩
        have T6 : Hid (TL w5 w6 la lc m2 n zs es es 0) := ⟨hb6, ho6, hel, fun _ _ => ⟨rfl, rfl⟩, fun j hj => by omega⟩
        have HEL : Hid (es.length = m2 * 3) := hel
        clear hb6 ho6 hel
        obtain ⟨sv, HSV⟩ : ∃ v, Hid (spanB n2 es m2 = v) := ⟨_, rfl⟩
        have CIS : Hid (∀ W, IntsAt W la es → Calls Try.prog 13 #[.int .i64 n2, .slice la m2 lc] W fun e w' => e = .returned (.bool sv) ∧ Below W.heap.size W w') := fun W h => by
          have := implSpans_any n2 la m2 lc es W h HEL.out
          rw [HSV.out] at this
          exact this
        have CSS : Hid (∀ W, IntsAt W la es → Calls Try.prog 14 #[.int .i64 n2, .slice la m2 lc] W fun e w' => e = .returned (.bool sv) ∧ Below W.heap.size W w') := fun W h => by
          have := specSpans_any n2 la m2 lc es W h HEL.out
          rw [HSV.out] at this
          exact this
        have CIL : Hid (∀ W, IntsAt W ga p → Calls Try.prog 13 #[.int .i64 n, .slice ga k gc] W fun e w' => e = .returned (.bool true) ∧ Below W.heap.size W w') := fun W h => by
          have := implSpans_any n ga k gc p W h HPL.out
          rw [HSP.out] at this
          exact this
        go_wp2_with fail
        refine (CIS.out w6 (own_intsE T6.out.o)).mono ?_
        rintro e w7 ⟨rfl, hb⟩
        have T7 : Hid (TL w5 w7 la lc m2 n zs es es 0) := T6.out.below hb
        clear hb T6
        go_wp2_with fail
        refine (CSS.out w7 (own_intsE T7.out.o)).mono ?_
        rintro e w8 ⟨rfl, hb⟩
        have T8 : Hid (TL w5 w8 la lc m2 n zs es es 0) := T7.out.below hb
        clear hb T7
        have hss : (sv != sv) = false := by cases sv <;> rfl
        obtain ⟨x0, x1⟩ := (X5.out.below T8.out.b).two
        go_wp2_with fail
        clear x0 x1
        refine (CIL.out w8 (L5.out.below T8.out.b)).mono ?_
        rintro e w9 ⟨rfl, hb⟩
        have T9 : Hid (TL w5 w9 la lc m2 n zs es es 0) := T8.out.below hb
        have B9 : Hid (Below w.heap.size w w9) := B5.out.trans (T9.out.b.mono B5.out.size)
        clear hb T8 hss
        obtain ⟨x0, x1⟩ := (X5.out.below T9.out.b).two
        cases sv
        · go_wp2
          go_ret
          exact ⟨by first | rfl | simp, B9.out⟩
        · by_cases hne : n2 = n
          · subst hne
            have hnn : ((n2 : Int) != (n2 : Int)) = false := by simp
            go_wp2_with fail
            clear x0 x1 hnn B9
            go_loopw [10] (fun t wr => ∃ (k : Nat) (fs : List Int), k ≤ m2 ∧ t = .int .i64 k ∧ TL w5 wr la lc m2 n2 zs es fs k) (fun t _ => m2 - (intOf t).toNat)
            case atStart => exact ⟨0, es, Nat.zero_le _, rfl, T9.out⟩
            case round =>
              clear T9
              obtain ⟨j, fs, hj, rfl, hT⟩ := hrel
              have TR : Hid (TL w5 wr la lc m2 n2 zs es fs j) := hT
              clear hT
              by_cases hlt : j < m2
              · have hltI : (j : Int) < (m2 : Int) := by omega
                obtain ⟨g8, rfl⟩ : ∃ g8, la = some ⟨g8, 0, none⟩ := by
                  rcases own_kinds TR.out.o with ⟨_, h2⟩ | ⟨g9, c9, h1, _⟩
                  · omega
                  · injection h1 with h1 _ _
                    exact ⟨g9, h1⟩
                have r0 := (TR.out.at (i := j * 3) (by omega)).1
                have r1 := (TR.out.at (i := j * 3 + 1) (by omega)).1
                obtain ⟨o0, H0⟩ : ∃ t, Hid (fs.getD (j * 3) 0 = t) := ⟨_, rfl⟩
                obtain ⟨o1, H1⟩ : ∃ t, Hid (fs.getD (j * 3 + 1) 0 = t) := ⟨_, rfl⟩
                have HV : Hid (timeV n2 zs (og3 es j 0) (og3 es j 1) = timeV n2 zs o0 o1) := by
                  have := TR.out.e j hlt
                  rw [← this.1, ← this.2, ← H0.out, ← H1.out]
                  rfl
                rw [H0.out] at r0
                rw [H1.out] at r1
                have CTK : Hid (∀ s : Kin wr, Calls Try.prog 11 #[.agg #[.int .i64 n2, .slice (some ⟨g, 0, none⟩) zl cg], .int .i64 o0, .int .i64 o1] s.w fun e w' => e = .returned (.int .i64 (timeV n2 zs o0 o1)) ∧ Below s.w.heap.size s.w w') := fun s => by
                  have := implTime_any n2 o0 o1 (some ⟨g, 0, none⟩) cg zs s.w ((I5.out.below TR.out.b).below s.below)
                  rw [HZ.out] at this
                  exact this
                obtain ⟨v, HV2⟩ : ∃ v, Hid (timeV n2 zs o0 o1 = v) := ⟨_, rfl⟩
                rw [HV2.out] at CTK HV
                have t0 := fun s : Kin wr => s.cell r0
                have t1 := fun s : Kin wr => s.cell r1
                obtain ⟨x0, x1⟩ := (X5.out.below TR.out.b).two
                have v0 := fun s : Kin wr => s.cell x0
                have v1 := fun s : Kin wr => s.cell x1
                have hkin := Kin.there wr
                go_wp2_with fail
                refine wp_region_kin_tail 16 (by kernel_rfl) (by kernel_rfl) ?_
                simp only [List.take_succ_cons, List.take_zero, List.drop_succ_cons, List.drop_zero]
                repeat (go_big_quiet_step ((go_at_call 11; exact Kin.call (CTK.out _))))
                refine wpQuiet_nil ?_
                rintro _ ⟨s, rfl⟩
                have TX : Hid (TL w5 s.w (some ⟨g8, 0, none⟩) lc m2 n2 zs es fs j) := TR.out.below s.below
                clear t0 t1 v0 v1 hkin CTK TR r0 r1 x0 x1
                generalize s.w = w10 at *
                obtain ⟨hc9, fz⟩ := TX.out.at (i := j * 3 + 2) (by omega)
                have TY : Hid (TL w5 (w10.setCell ⟨g8, j * 3 + 2, none⟩ (.int .i64 v)) (some ⟨g8, 0, none⟩) lc m2 n2 zs es (fs.set (j * 3 + 2) v) (j + 1)) := TX.out.set hlt HV.out
                clear TX
                go_wp2
                first
                  | exact ⟨⟨j + 1, fs.set (j * 3 + 2) v, by omega, by go_num, TY.out⟩, by simp [intOf]; omega⟩
                  | (go_roundw
                     case rel => exact ⟨j + 1, fs.set (j * 3 + 2) v, by omega, by go_num, TY.out⟩
                     case measure => simp [intOf]; omega)
              · have hje : j = m2 := by omega
                subst hje
                have hnl2 : ¬ ((j : Int) < (j : Int)) := by omega
                clear hlt
                have HGE : Hid (tv ≤ treeV fs j) := HLE.out es fs j HSV.out TR.out.t
                obtain ⟨tf, HTF⟩ : ∃ v, Hid (treeV fs j = v) := ⟨_, rfl⟩
                have hge : tv ≤ tf := by have := HGE.out; rw [HTF.out] at this; exact this
                have htt : (tv == tv) = true := by simp
                have CTL := implTree_any la j lc fs wr (own_intsE TR.out.o) TR.out.l (by omega)
                rw [HTF.out] at CTL
                go_wp2_with fail
                refine CTL.mono ?_
                rintro e w11 ⟨rfl, hb⟩
                have T11 : Hid (TL w5 w11 la lc j n2 zs es fs j) := TR.out.below hb
                clear hb TR CTL
                go_wp2_with fail
                refine (CTI.out w11 ga gc (L5.out.below T11.out.b)).mono ?_
                rintro e w12 ⟨rfl, hb⟩
                have T12 : Hid (TL w5 w12 la lc j n2 zs es fs j) := T11.out.below hb
                clear hb T11
                go_wp2_with fail
                refine (CTI.out w12 ga gc (L5.out.below T12.out.b)).mono ?_
                rintro e w13 ⟨rfl, hb⟩
                have T13 : Hid (TL w5 w13 la lc j n2 zs es fs j) := T12.out.below hb
                clear hb T12
                go_wp2_with fail
                refine (CTS.out w13 ga gc (L5.out.below T13.out.b)).mono ?_
                rintro e w14 ⟨rfl, hw⟩
                subst hw
                have B14 : Hid (Below w.heap.size w w14) := B5.out.trans (T13.out.b.mono B5.out.size)
                go_wp2
                go_ret
                exact ⟨by first | rfl | simp, B14.out⟩
          · have hnn : ((n2 : Int) != (n : Int)) = true := by simp; omega
            go_wp2
            go_ret
            exact ⟨by first | rfl | simp, B9.out⟩

theorem lawFnSpanTree_all (a : Option Addr) (c : Nat) (bs : List Int) (w : World) (hA : CodeAt w a bs) (hl : bs.length ≤ 9223372036854775807) :
    Calls Try.prog 3 #[.slice a bs.length c] w fun e w' => e = .returned (.bool true) ∧ Below w.heap.size w w' := by
  by_cases h : bs.length ≤ 1048576
  · exact lawFnSpanTree a c bs w hA h
  · exact lawFnSpanTree_big a c bs.length w hl (by omega)

end Go.Proofs.Ytaehhlkpbhmdfaa
