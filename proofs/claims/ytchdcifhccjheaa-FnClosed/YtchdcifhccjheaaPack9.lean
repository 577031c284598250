import Derived.Test.YtchdcifhccjheaaPack0
import Derived.Test.YtchdcifhccjheaaPack1
import Derived.Test.YtchdcifhccjheaaPack2
import Derived.Test.YtchdcifhccjheaaSpecClosed
import Derived.Test.YtchdcifhccjheaaPack7
import Derived.Test.YtchdcifhccjheaaImplClosed
namespace Go.Proofs.Ytchdcifhccjheaa
open Go.RowKit

/-- How many places the closed matrix has. -/
def cloN (n : Int) (zs : List Int) : Int := if matB n zs = true then n else 0
/-- Its times. -/
def cloL (n : Int) (zs : List Int) : List Int := if matB n zs = true then clo n.toNat zs else []
theorem cloL_yes {n : Nat} {zs : List Int} (h : matB n zs = true) : cloL n zs = clo n zs := by unfold cloL; rw [if_pos h]; simp
theorem cloL_no {n : Int} {zs : List Int} (h : matB n zs = false) : cloL n zs = [] := by unfold cloL; rw [h]; simp
theorem cloN_yes {n : Int} {zs : List Int} (h : matB n zs = true) : cloN n zs = n := by unfold cloN; rw [if_pos h]
theorem cloN_no {n : Int} {zs : List Int} (h : matB n zs = false) : cloN n zs = 0 := by unfold cloN; rw [h]; simp
theorem clo_len' {n : Nat} {zs : List Int} (h : matB n zs = true) : (clo n zs).length = n * n := by
  have := (matB_true h).2.2.1
  rw [← Int.natCast_mul] at this
  unfold clo
  rw [cloTo_length]
  omega
theorem cloL_len (n : Int) (zs : List Int) : (cloL n zs).length ≤ 256 := by
  cases h : matB n zs
  · rw [cloL_no h]; simp
  · obtain ⟨m, rfl⟩ := Int.eq_ofNat_of_zero_le (show 0 ≤ n by have := (matB_true h).1; omega)
    rw [cloL_yes h, clo_len' h]
    have := (matB_true h).2.1
    exact mul_bd m m (by omega) (by omega)
theorem implClosed_any (n : Int) (a : Option Addr) (cap : Nat) (zs : List Int) (w : World) (hA : IntsAt w a zs) :
    Calls Try.prog 7 #[.agg #[.int .i64 n, .slice a zs.length cap]] w fun e w' => ∃ sl, e = .returned (.agg #[.int .i64 (cloN n zs), sl]) ∧ Below w.heap.size w w' ∧ w'.ownsRow w.heap.size 2 1 sl (cloL n zs).length ((cloL n zs).map (Value.int .i64)) := by
  cases h : matB n zs
  · rw [cloL_no h, cloN_no h]
    refine (implClosed_no n a cap zs w hA h).mono ?_
    rintro e w' ⟨rfl, hb⟩
    exact ⟨_, rfl, hb, by simp, .inl ⟨rfl, rfl⟩⟩
  · obtain ⟨m, rfl⟩ := Int.eq_ofNat_of_zero_le (show 0 ≤ n by have := (matB_true h).1; omega)
    rw [cloL_yes h, cloN_yes h, clo_len' h]
    refine (implClosed_yes m a cap zs w hA h).mono ?_
    rintro e w' ⟨g, c, rfl, hb, ho⟩
    exact ⟨_, rfl, hb, ho⟩
theorem specClosed_any (n : Int) (a : Option Addr) (cap : Nat) (zs : List Int) (w : World) (hA : IntsAt w a zs) :
    Calls Try.prog 8 #[.agg #[.int .i64 n, .slice a zs.length cap]] w fun e w' => ∃ wa wc, e = .returned (.agg #[.int .i64 (cloN n zs), .slice wa (cloL n zs).length wc]) ∧ Below w.heap.size w w' ∧ IntsAt w' wa (cloL n zs) ∧ ∀ b, (Value.slice wa 0 0).ownBlock = some b → w.heap.size ≤ b ∧ b < w'.heap.size := by
  cases h : matB n zs
  · rw [cloL_no h, cloN_no h]
    refine (specClosed_no n a cap zs w hA h).mono ?_
    rintro e w' ⟨rfl, hb⟩
    exact ⟨none, 0, rfl, hb, fun j hj => by simp at hj, fun b e => by cases e⟩
  · obtain ⟨m, rfl⟩ := Int.eq_ofNat_of_zero_le (show 0 ≤ n by have := (matB_true h).1; omega)
    rw [cloL_yes h, cloN_yes h, clo_len' h]
    refine (specClosed_yes m a cap zs w hA h).mono ?_
    rintro e w' ⟨g, c, r, hg, rfl, _, hb, hr⟩
    exact ⟨some ⟨g, 0, none⟩, c, rfl, hb, IntsAt.pre (IntsAt.of_row hr), fun b e => by
      have e' : g = b := by injection e
      subst e'
      exact ⟨hg, row_lt hr⟩⟩

end Go.Proofs.Ytchdcifhccjheaa

namespace Go.Proofs.Ytchdcifhccjheaa
open Go.RowKit

set_option maxHeartbeats 400000 in
theorem lawFnClosed_big (a : Option Addr) (c len : Nat) (w : World) (hl : len ≤ 9223372036854775807) (h : 1048576 < len) :
    Calls Try.prog 3 #[.slice a len c] w fun e w' => e = .returned (.bool true) ∧ Below w.heap.size w w' := by
  have hd : decide (1048576 < len) = true := decide_eq_true h
  go_enter Try.func3, Try.ntmps3
  go_wp2_with (go_at_call 5; refine (big_any a c len w hl).mono ?_; rintro e w1 ⟨rfl, hw1⟩; subst w1; rw [hd])
  go_ret
  exact ⟨rfl, Below.refl _ _⟩

/-- Inside the law: m, c and want in their boxes, the path. -/
structure FC (w W : World) (k n : Nat) (g zl cg : Nat) (zs : List Int) (g2 : Nat) (ps : List Int) (kc : Nat) (v : Int) (ga : Option Addr) (pl gc : Nat) (p : List Int) : Prop where
  b : Below w.heap.size w W
  m : MBx W k n (.slice (some ⟨g, 0, none⟩) zl cg) 26
  i : IntsAt W (some ⟨g, 0, none⟩) zs
  j : IntsAt W (some ⟨g2, 0, none⟩) ps
  c : MBx W kc v (.slice ga pl gc) 26
  p : IntsAt W ga p
theorem FC.below {w W W' : World} {k n : Nat} {g zl cg : Nat} {zs : List Int} {g2 : Nat} {ps : List Int} {kc : Nat} {v : Int} {ga : Option Addr} {pl gc : Nat} {p : List Int} (h : FC w W k n g zl cg zs g2 ps kc v ga pl gc p) (hb : Below W.heap.size W W') : FC w W' k n g zl cg zs g2 ps kc v ga pl gc p :=
  ⟨h.b.trans (hb.mono h.b.size), h.m.below hb, h.i.below hb, h.j.below hb, h.c.below hb, h.p.below hb⟩

set_option maxRecDepth 10000 in
set_option maxHeartbeats 4000000 in
theorem lawFnClosed (a : Option Addr) (ca : Nat) (bs : List Int) (w : World) (hA : CodeAt w a bs) (hl : bs.length ≤ 1048576) :
    Calls Try.prog 3 #[.slice a bs.length ca] w fun e w' => e = .returned (.bool true) ∧ Below w.heap.size w w' := by
  have HA : Hid (CodeAt w a bs) := hA
  clear hA
  have hd : decide (1048576 < bs.length) = false := decide_eq_false (by omega)
  go_enter Try.func3, Try.ntmps3
  go_wp2_with fail
  refine (big_any a ca bs.length w (by omega)).mono ?_
  rintro e w1 ⟨rfl, hw1⟩
  subst w1
  rw [hd]
  clear hd
  go_wp2_with fail
  refine (drawPath_any a ca bs w HA.out hl).mono ?_
  rintro e w1 ⟨n, g, cg, g2, c2, zs, ps, rfl, hn9, hzl, hp8, hpc, hb, hi, hj⟩
  obtain ⟨L, HLb⟩ : ∃ v, Hid (bs.length = v) := ⟨_, rfl⟩
  rw [HLb.out] at hl ⊢
  obtain ⟨zl, HZ⟩ : ∃ v, Hid (zs.length = v) := ⟨_, rfl⟩
  obtain ⟨pm, HM⟩ : ∃ v, Hid (ps.length = v) := ⟨_, rfl⟩
  have HZN : Hid (zs.length = n * n) := hzl
  rw [HZ.out, HM.out]
  rw [HM.out] at hp8 hpc
  have ha : Below w1.heap.size w1 (w1.alloc (.cells #[.int .i64 n, .slice (some ⟨g, 0, none⟩) zl cg] 26)) := (Below.refl _ _).alloc (Nat.le_refl _) _
  have BX : Hid (Below w.heap.size w (w1.alloc (.cells #[.int .i64 n, .slice (some ⟨g, 0, none⟩) zl cg] 26))) := hb.alloc hb.size _
  have GX : Hid (MBx (w1.alloc (.cells #[.int .i64 n, .slice (some ⟨g, 0, none⟩) zl cg] 26)) w1.heap.size n (.slice (some ⟨g, 0, none⟩) zl cg) 26) := heap_alloc_new _ _
  have IX : Hid (IntsAt (w1.alloc (.cells #[.int .i64 n, .slice (some ⟨g, 0, none⟩) zl cg] 26)) (some ⟨g, 0, none⟩) zs) := hi.below ha
  have JX : Hid (IntsAt (w1.alloc (.cells #[.int .i64 n, .slice (some ⟨g, 0, none⟩) zl cg] 26)) (some ⟨g2, 0, none⟩) ps) := hj.below ha
  clear hb hi hj hzl ha
  have hp6 := cloL_len n zs
  obtain ⟨p, HP⟩ : ∃ p, Hid (cloL n zs = p) := ⟨_, rfl⟩
  obtain ⟨v, HV⟩ : ∃ v, Hid (cloN n zs = v) := ⟨_, rfl⟩
  obtain ⟨pl, HPL⟩ : ∃ pl, Hid (p.length = pl) := ⟨_, rfl⟩
  rw [HP.out, HPL.out] at hp6
  obtain ⟨mb, HMB⟩ : ∃ t, Hid (matB n zs = t) := ⟨_, rfl⟩
  obtain ⟨t, HT⟩ : ∃ t, Hid (triB n zs = t) := ⟨_, rfl⟩
  have hvv : (v != v) = false := by simp
  have hve : (v == v) = true := by simp
  have htt : (t != t) = false := by simp
  have hte : (t == t) = true := by simp
  have ICL : Hid (∀ W, IntsAt W (some ⟨g, 0, none⟩) zs → Calls Try.prog 7 #[.agg #[.int .i64 n, .slice (some ⟨g, 0, none⟩) zl cg]] W fun e w' => ∃ ga gc, e = .returned (.agg #[.int .i64 v, .slice ga pl gc]) ∧ Below W.heap.size W w' ∧ IntsAt w' ga p) := fun W h => by
    have := implClosed_any n (some ⟨g, 0, none⟩) cg zs W h
    rw [HZ.out, HP.out, HV.out] at this
    refine this.mono ?_
    rintro e w' ⟨sl, rfl, hb, ho⟩
    obtain ⟨ga, gc, rfl, _, hi⟩ := owns_at1 ho
    rw [HPL.out]
    exact ⟨ga, gc, rfl, hb, hi⟩
  have SCL : Hid (∀ W, IntsAt W (some ⟨g, 0, none⟩) zs → Calls Try.prog 8 #[.agg #[.int .i64 n, .slice (some ⟨g, 0, none⟩) zl cg]] W fun e w' => ∃ ga gc, e = .returned (.agg #[.int .i64 v, .slice ga pl gc]) ∧ Below W.heap.size W w' ∧ IntsAt w' ga p) := fun W h => by
    have := specClosed_any n (some ⟨g, 0, none⟩) cg zs W h
    rw [HZ.out, HP.out, HV.out, HPL.out] at this
    refine this.mono ?_
    rintro e w' ⟨wa, wc, rfl, hb, hi, _⟩
    exact ⟨wa, wc, rfl, hb, hi⟩
  have ITR : Hid (∀ W, IntsAt W (some ⟨g, 0, none⟩) zs → Calls Try.prog 10 #[.agg #[.int .i64 n, .slice (some ⟨g, 0, none⟩) zl cg]] W fun e w' => e = .returned (.bool t) ∧ Below W.heap.size W w') := fun W h => by
    have := implTri_any n (some ⟨g, 0, none⟩) cg zs W h
    rw [HZ.out, HT.out] at this
    exact this
  have STR : Hid (∀ W, IntsAt W (some ⟨g, 0, none⟩) zs → Calls Try.prog 11 #[.agg #[.int .i64 n, .slice (some ⟨g, 0, none⟩) zl cg]] W fun e w' => e = .returned (.bool t) ∧ Below W.heap.size W w') := fun W h => by
    have := specTri_any n (some ⟨g, 0, none⟩) cg zs W h
    rw [HZ.out, HT.out] at this
    exact this
  have SMO : Hid (∀ W, IntsAt W (some ⟨g, 0, none⟩) zs → Calls Try.prog 12 #[.agg #[.int .i64 n, .slice (some ⟨g, 0, none⟩) zl cg]] W fun e w' => e = .returned (.bool mb) ∧ Below W.heap.size W w') := fun W h => by
    have := specMat_any n (some ⟨g, 0, none⟩) cg zs W h
    rw [HZ.out, HMB.out] at this
    exact this
  have SAM : Hid (∀ W ga gc wa wc, IntsAt W ga p → IntsAt W wa p → Calls Try.prog 9 #[.slice ga pl gc, .slice wa pl wc] W fun e w' => e = .returned (.bool true) ∧ Below W.heap.size W w') := fun W ga gc wa wc h1 h2 => by
    have := sameInts_any ga wa gc wc p p W h1 h2 (by rw [HPL.out]; omega)
    rw [HPL.out, show decide (p = p) = true by simp] at this
    exact this
  obtain ⟨c0, c1⟩ := GX.out.cells
  go_wp2_with fail
  generalize w1.alloc (.cells #[.int .i64 n, .slice (some ⟨g, 0, none⟩) zl cg] 26) = W1 at *
  obtain ⟨k, HK⟩ : ∃ v, Hid (w1.heap.size = v) := ⟨_, rfl⟩
  rw [HK.out] at GX c0 c1 ⊢
  refine (ICL.out _ IX.out).mono ?_
  rintro e w2 ⟨ga, gc, rfl, hb, hi⟩
  have ha : Below w2.heap.size w2 (w2.alloc (Obj.cells #[Value.int IntKind.i64 v, Value.slice ga pl gc] 26)) := (Below.refl _ _).alloc (Nat.le_refl _) _
  have F2 : Hid (FC w (w2.alloc (Obj.cells #[Value.int IntKind.i64 v, Value.slice ga pl gc] 26)) k n g zl cg zs g2 ps w2.heap.size v ga pl gc p) := by
    have hb2 := hb.trans (ha.mono hb.size)
    exact ⟨BX.out.trans (hb2.mono BX.out.size), GX.out.below hb2, IX.out.below hb2, JX.out.below hb2, heap_alloc_new _ _, hi.below ha⟩
  clear hb hi ha BX GX IX JX c0 c1
  obtain ⟨c0, c1⟩ := F2.out.m.cells
  go_wp2_with fail
  generalize w2.alloc (Obj.cells #[Value.int IntKind.i64 v, Value.slice ga pl gc] 26) = W2 at *
  obtain ⟨kc, HKC⟩ : ∃ v, Hid (w2.heap.size = v) := ⟨_, rfl⟩
  rw [HKC.out] at F2 ⊢
  refine (SCL.out _ F2.out.i).mono ?_
  rintro e w3 ⟨wa, wc, rfl, hb, hi⟩
  have ha : Below w3.heap.size w3 (w3.alloc (Obj.cells #[Value.int IntKind.i64 v, Value.slice wa pl wc] 26)) := (Below.refl _ _).alloc (Nat.le_refl _) _
  have F3 : Hid (FC w (w3.alloc (Obj.cells #[Value.int IntKind.i64 v, Value.slice wa pl wc] 26)) k n g zl cg zs g2 ps kc v ga pl gc p) := F2.out.below (hb.trans (ha.mono hb.size))
  have Q3 : Hid (MBx (w3.alloc (Obj.cells #[Value.int IntKind.i64 v, Value.slice wa pl wc] 26)) w3.heap.size v (.slice wa pl wc) 26) := heap_alloc_new _ _
  have W3 : Hid (IntsAt (w3.alloc (Obj.cells #[Value.int IntKind.i64 v, Value.slice wa pl wc] 26)) wa p) := hi.below ha
  clear hb hi ha F2 c0 c1
  go_wp2_with fail
  generalize w3.alloc (Obj.cells #[Value.int IntKind.i64 v, Value.slice wa pl wc] 26) = W3' at *
  obtain ⟨kw, HKW⟩ : ∃ v, Hid (w3.heap.size = v) := ⟨_, rfl⟩
  rw [HKW.out] at Q3 ⊢
  obtain ⟨c0, c1⟩ := F3.out.m.cells
  obtain ⟨d0, d1⟩ := F3.out.c.cells
  obtain ⟨q0, q1⟩ := Q3.out.cells
  have e0 := fun s : Kin W3' => s.cell c0
  have e1 := fun s : Kin W3' => s.cell c1
  have e2 := fun s : Kin W3' => s.cell d0
  have e3 := fun s : Kin W3' => s.cell d1
  have e4 := fun s : Kin W3' => s.cell q0
  have e5 := fun s : Kin W3' => s.cell q1
  have hkin := Kin.there W3'
  cases mb
  · -- no right matrix
    have HVZ : Hid (v = 0) := by show v = 0; rw [← HV.out]; exact cloN_no HMB.out
    refine wp_region_kin (by kernel_rfl) (by kernel_rfl) ?_
    repeat (go_big_quiet_step ((first
      | (go_at_call 9; with_reducible exact Kin.call (SAM.out _ _ _ _ _ (F3.out.p.below (Kin.below _)) (W3.out.below (Kin.below _))))
      | (go_at_call 10; with_reducible exact Kin.call (ITR.out _ (F3.out.i.below (Kin.below _))))
      | (go_at_call 11; with_reducible exact Kin.call (STR.out _ (F3.out.i.below (Kin.below _))))
      | (go_at_call 12; with_reducible exact Kin.call (SMO.out _ (F3.out.i.below (Kin.below _)))))))
    refine wpQuiet_nil ?_
    rintro _ ⟨s, rfl⟩
    have F4 : Hid (FC w s.w k n g zl cg zs g2 ps kc v ga pl gc p) := F3.out.below s.below
    have Q4 : Hid (MBx s.w kw v (.slice wa pl wc) 26) := Q3.out.below s.below
    have W4 : Hid (IntsAt s.w wa p) := W3.out.below s.below
    clear e0 e1 e2 e3 e4 e5 hkin c0 c1 d0 d1 q0 q1 F3 Q3 W3
    generalize s.w = w4 at *
    obtain ⟨d0, d1⟩ := F4.out.c.cells
    obtain ⟨q0, q1⟩ := Q4.out.cells
    have hv0 : (v == 0) = true := by simp [HVZ.out]
    go_wp2_with fail
    refine (SAM.out _ _ _ _ _ F4.out.p W4.out).mono ?_
    rintro e w5 ⟨rfl, hb⟩
    have F5 : Hid (FC w w5 k n g zl cg zs g2 ps kc v ga pl gc p) := F4.out.below hb
    clear hb d0 d1 q0 q1 F4 Q4 W4
    obtain ⟨d0, d1⟩ := F5.out.c.cells
    go_wp2
    go_ret
    exact ⟨by first | rfl | simp, F5.out.b⟩
  · have HVN : v = (n : Int) := by rw [← HV.out]; exact cloN_yes HMB.out
    subst HVN
    have HPC : Hid (p = clo n zs) := by show _ = _; rw [← HP.out]; exact cloL_yes HMB.out
    have HPZ : Hid (pl = zl) := by show _ = _; rw [← HPL.out, ← HZ.out, HPC.out]; exact clo_length n zs
    refine wp_region_kin (by kernel_rfl) (by kernel_rfl) ?_
    repeat (go_big_quiet_step ((first
      | (go_at_call 9; with_reducible exact Kin.call (SAM.out _ _ _ _ _ (F3.out.p.below (Kin.below _)) (W3.out.below (Kin.below _))))
      | (go_at_call 10; with_reducible exact Kin.call (ITR.out _ (F3.out.i.below (Kin.below _))))
      | (go_at_call 11; with_reducible exact Kin.call (STR.out _ (F3.out.i.below (Kin.below _))))
      | (go_at_call 12; with_reducible exact Kin.call (SMO.out _ (F3.out.i.below (Kin.below _)))))))
    refine wpQuiet_nil ?_
    rintro _ ⟨s, rfl⟩
    have F4 : Hid (FC w s.w k n g zl cg zs g2 ps kc n ga pl gc p) := F3.out.below s.below
    clear e0 e1 e2 e3 e4 e5 hkin c0 c1 d0 d1 q0 q1 F3 Q3 W3 STR SMO SCL ICL
    generalize s.w = w4 at *
    have HMC : Hid (matB n p = true) := by show _ = _; rw [HPC.out]; exact clo_mat HMB.out
    have ICC : Hid (∀ W, IntsAt W ga p → Calls Try.prog 7 #[.agg #[.int .i64 n, .slice ga pl gc]] W fun e w' => ∃ a2 c3, e = .returned (.agg #[.int .i64 n, .slice a2 pl c3]) ∧ Below W.heap.size W w' ∧ IntsAt w' a2 p) := fun W h => by
      have := implClosed_any n ga gc p W h
      have e1 : cloL n p = p := by rw [cloL_yes HMC.out, HPC.out]; exact clo_again HMB.out
      rw [e1, HPL.out, cloN_yes HMC.out] at this
      refine this.mono ?_
      rintro e w' ⟨sl, rfl, hb, ho⟩
      obtain ⟨a2, c3, rfl, _, hi⟩ := owns_at1 ho
      rw [HPL.out]
      exact ⟨a2, c3, rfl, hb, hi⟩
    obtain ⟨d0, d1⟩ := F4.out.c.cells
    go_wp2_with fail
    refine (ICC.out _ F4.out.p).mono ?_
    rintro e w5 ⟨a2, c3, rfl, hb, hi⟩
    have ha : Below w5.heap.size w5 (w5.alloc (Obj.cells #[Value.int IntKind.i64 n, Value.slice a2 pl c3] 26)) := (Below.refl _ _).alloc (Nat.le_refl _) _
    have F5 : Hid (FC w (w5.alloc (Obj.cells #[Value.int IntKind.i64 n, Value.slice a2 pl c3] 26)) k n g zl cg zs g2 ps kc n ga pl gc p) := F4.out.below (hb.trans (ha.mono hb.size))
    have Q5 : Hid (MBx (w5.alloc (Obj.cells #[Value.int IntKind.i64 n, Value.slice a2 pl c3] 26)) w5.heap.size n (.slice a2 pl c3) 26) := heap_alloc_new _ _
    have W5 : Hid (IntsAt (w5.alloc (Obj.cells #[Value.int IntKind.i64 n, Value.slice a2 pl c3] 26)) a2 p) := hi.below ha
    clear hb hi ha F4 d0 d1 ICC
    go_wp2_with fail
    generalize w5.alloc (Obj.cells #[Value.int IntKind.i64 n, Value.slice a2 pl c3] 26) = W5' at *
    obtain ⟨kd, HKD⟩ : ∃ v, Hid (w5.heap.size = v) := ⟨_, rfl⟩
    rw [HKD.out] at Q5 ⊢
    have hzb : zl ≤ 256 := by rw [← HPZ.out]; exact hp6
    go_loopw [8] (fun x wr => ∃ i : Nat, i ≤ zl ∧ x = .int .i64 i ∧ FC w wr k n g zl cg zs g2 ps kc n ga pl gc p ∧ MBx wr kd n (.slice a2 pl c3) 26 ∧ IntsAt wr a2 p) (fun x _ => zl - (intOf x).toNat)
    case atStart => exact ⟨0, Nat.zero_le _, rfl, F5.out, Q5.out, W5.out⟩
    case round =>
      clear F5 Q5 W5
      obtain ⟨i, hi, rfl, f6, q6, i6⟩ := hrel
      have F6 : Hid (FC w wr k n g zl cg zs g2 ps kc n ga pl gc p) := f6
      have Q6 : Hid (MBx wr kd n (.slice a2 pl c3) 26) := q6
      have W6 : Hid (IntsAt wr a2 p) := i6
      clear f6 q6 i6
      obtain ⟨c0, c1⟩ := F6.out.m.cells
      obtain ⟨d0, d1⟩ := F6.out.c.cells
      by_cases hlt : i < zl
      · have hip : i < pl := by rw [HPZ.out]; exact hlt
        obtain ⟨bb, off, e, hcs⟩ := F6.out.p.some (j := i) (by rw [HPL.out]; exact hip)
        subst e
        have ct := hcs i (by rw [HPL.out]; exact hip)
        clear hcs
        have cz : wr.cell? ⟨g, i, none⟩ = some (.int .i64 (zs.getD i 0)) := by
          obtain ⟨_, _, e, h⟩ := F6.out.i i (by rw [HZ.out]; exact hlt)
          simp at e
          obtain ⟨rfl, rfl⟩ := e
          simpa using h
        have hle : p.getD i 0 ≤ zs.getD i 0 := by rw [HPC.out]; exact clo_le HMB.out (by rw [HZ.out]; exact hlt)
        obtain ⟨y1, HY1⟩ : ∃ y, Hid (p.getD i 0 = y) := ⟨_, rfl⟩
        obtain ⟨y2, HY2⟩ : ∃ y, Hid (zs.getD i 0 = y) := ⟨_, rfl⟩
        rw [HY1.out] at ct hle
        rw [HY2.out] at cz hle
        have hng : ¬ y2 < y1 := by omega
        clear hle
        go_wp2_with fail
        go_quiet (fail)
        go_wp2
        refine ⟨⟨i + 1, by omega, by go_num, F6.out.below (below_drewN (Below.refl _ _) _), Q6.out.below (below_drewN (Below.refl _ _) _), W6.out.below (below_drewN (Below.refl _ _) _)⟩, by simp [intOf]; omega⟩
      · have IPT : Calls Try.prog 13 #[.agg #[.int .i64 n, .slice (some ⟨g, 0, none⟩) zl cg], .slice (some ⟨g2, 0, none⟩) pm c2] wr fun e w' => e = .returned (.int .i64 (pathV n zs ps)) ∧ Below wr.heap.size wr w' := by
          have := implPath_any n (some ⟨g, 0, none⟩) (some ⟨g2, 0, none⟩) cg c2 zs ps wr F6.out.i F6.out.j (by rw [HM.out]; omega)
          rw [HZ.out, HM.out] at this
          exact this
        go_wp2_with fail
        refine IPT.mono ?_
        rintro e w7 ⟨rfl, hb⟩
        clear IPT
        have F7 : Hid (FC w w7 k n g zl cg zs g2 ps kc n ga pl gc p) := F6.out.below hb
        have Q7 : Hid (MBx w7 kd n (.slice a2 pl c3) 26) := Q6.out.below hb
        have W7 : Hid (IntsAt w7 a2 p) := W6.out.below hb
        clear hb c0 c1 d0 d1 F6 Q6 W6
        obtain ⟨tv, HTV⟩ : ∃ v, Hid (pathV n zs ps = v) := ⟨_, rfl⟩
        rw [HTV.out]
        have ITC : Hid (∀ W, IntsAt W ga p → Calls Try.prog 10 #[.agg #[.int .i64 n, .slice ga pl gc]] W fun e w' => e = .returned (.bool true) ∧ Below W.heap.size W w') := fun W h => by
          have := implTri_any n ga gc p W h
          rw [HPL.out, show triB n p = true by rw [HPC.out]; exact clo_tri HMB.out] at this
          exact this
        have SAZ : Hid (∀ W, IntsAt W ga p → IntsAt W (some ⟨g, 0, none⟩) zs → Calls Try.prog 9 #[.slice ga pl gc, .slice (some ⟨g, 0, none⟩) zl cg] W fun e w' => e = .returned (.bool t) ∧ Below W.heap.size W w') := fun W h1 h2 => by
          have := sameInts_any ga (some ⟨g, 0, none⟩) gc cg p zs W h1 h2 (by rw [HPL.out]; omega)
          rw [HPL.out, HZ.out, show decide (p = zs) = t by rw [HPC.out, ← HT.out]; exact (tri_iff HMB.out).symm] at this
          exact this
        obtain ⟨sy, HSY⟩ : ∃ v, Hid (symB n zs = v) := ⟨_, rfl⟩
        have ISY : Hid (∀ W, IntsAt W (some ⟨g, 0, none⟩) zs → Calls Try.prog 15 #[.agg #[.int .i64 n, .slice (some ⟨g, 0, none⟩) zl cg]] W fun e w' => e = .returned (.bool sy) ∧ Below W.heap.size W w') := fun W h => by
          have := implSym_any n (some ⟨g, 0, none⟩) cg zs W h
          rw [HZ.out, HSY.out] at this
          exact this
        have ISC : Hid (sy = true → ∀ W, IntsAt W ga p → Calls Try.prog 15 #[.agg #[.int .i64 n, .slice ga pl gc]] W fun e w' => e = .returned (.bool true) ∧ Below W.heap.size W w') := fun hs W h => by
          have := implSym_any n ga gc p W h
          rw [HPL.out, show symB n p = true by rw [HPC.out]; exact clo_sym HMB.out (HSY.out.trans hs)] at this
          exact this
        have ITM : Hid (∀ W y0 y1, IntsAt W ga p → Calls Try.prog 14 #[.agg #[.int .i64 n, .slice ga pl gc], .int .i64 y0, .int .i64 y1] W fun e w' => e = .returned (.int .i64 (timeV n p y0 y1)) ∧ Below W.heap.size W w') := fun W y0 y1 h => by
          have := implTime_any n y0 y1 ga gc p W h
          rw [HPL.out] at this
          exact this
        obtain ⟨c0, c1⟩ := F7.out.m.cells
        obtain ⟨d0, d1⟩ := F7.out.c.cells
        have e0 := fun s : Kin w7 => s.cell c0
        have e1 := fun s : Kin w7 => s.cell c1
        have e2 := fun s : Kin w7 => s.cell d0
        have e3 := fun s : Kin w7 => s.cell d1
        have hkin := Kin.there w7
        by_cases hgo : 0 ≤ tv ∧ 0 < pm
        · obtain ⟨hg1, hg2⟩ := hgo
          obtain ⟨q, HQ⟩ : ∃ q, Hid (pm = q + 1) := ⟨pm - 1, by show _ = _; omega⟩
          have hsub : wrap64 ((pm : Int) - 1) = (q : Int) := by
            have := HQ.out
            rw [IntWalk.wrap64_in _ (by omega)]
            omega
          have hsub2 : IntKind.i64.wrap ((pm : Int) - 1) = (q : Int) := by
            have := HQ.out
            rw [IntKind.wrap_i64]; omega
          have hq : q < pm := by have := HQ.out; omega
          have x0 : w7.cell? ⟨g2, 0, none⟩ = some (.int .i64 (ps.getD 0 0)) := by
            obtain ⟨_, _, e, h⟩ := F7.out.j 0 (by rw [HM.out]; omega)
            simp at e
            obtain ⟨rfl, rfl⟩ := e
            exact h
          have x1 : w7.cell? ⟨g2, q, none⟩ = some (.int .i64 (ps.getD q 0)) := by
            obtain ⟨_, _, e, h⟩ := F7.out.j q (by rw [HM.out]; omega)
            simp at e
            obtain ⟨rfl, rfl⟩ := e
            simpa using h
          have hle : timeV n p (ps.getD 0 0) (ps.getD q 0) ≤ tv := by
            have := clo_path (ps := ps) HMB.out (by rw [HTV.out]; exact hg1) (by rw [HM.out]; exact hg2)
            rw [HTV.out, ← HPC.out, HM.out, HQ.out, Nat.add_sub_cancel] at this
            exact this
          obtain ⟨y0, HY0⟩ : ∃ v, Hid (ps.getD 0 0 = v) := ⟨_, rfl⟩
          obtain ⟨y1, HY1⟩ : ∃ v, Hid (ps.getD q 0 = v) := ⟨_, rfl⟩
          rw [HY0.out] at x0 hle
          rw [HY1.out] at x1 hle
          obtain ⟨ti, HTI⟩ : ∃ v, Hid (timeV n p y0 y1 = v) := ⟨_, rfl⟩
          rw [HTI.out] at hle
          have IT1 : Hid (∀ W, IntsAt W ga p → Calls Try.prog 14 #[.agg #[.int .i64 n, .slice ga pl gc], .int .i64 y0, .int .i64 y1] W fun e w' => e = .returned (.int .i64 ti) ∧ Below W.heap.size W w') := fun W h => by rw [← HTI.out]; exact ITM.out W y0 y1 h
          have hnl : ¬ tv < ti := by omega
          clear hle ITM
          have e4 := fun s : Kin w7 => s.cell x0
          have e5 := fun s : Kin w7 => s.cell x1
          go_wp2_with fail
          refine wp_region_kin (by kernel_rfl) (by kernel_rfl) ?_
          repeat (go_big_quiet_step ((go_at_call 14; with_reducible exact Kin.call (IT1.out _ (F7.out.p.below (Kin.below _))))))
          refine wpQuiet_nil ?_
          rintro _ ⟨s, rfl⟩
          have F8 : Hid (FC w s.w k n g zl cg zs g2 ps kc n ga pl gc p) := F7.out.below s.below
          have Q8 : Hid (MBx s.w kd n (.slice a2 pl c3) 26) := Q7.out.below s.below
          have W8 : Hid (IntsAt s.w a2 p) := W7.out.below s.below
          clear e0 e1 e2 e3 e4 e5 x0 x1 hkin c0 c1 d0 d1 F7 Q7 W7 hsub hsub2 IT1
          generalize s.w = w8 at *
          go_wp2_with fail
          obtain ⟨c0, c1⟩ := F8.out.m.cells
          obtain ⟨d0, d1⟩ := F8.out.c.cells
          obtain ⟨q0, q1⟩ := Q8.out.cells
          have e0 := fun s : Kin w8 => s.cell c0
          have e1 := fun s : Kin w8 => s.cell c1
          have e2 := fun s : Kin w8 => s.cell d0
          have e3 := fun s : Kin w8 => s.cell d1
          have e4 := fun s : Kin w8 => s.cell q0
          have e5 := fun s : Kin w8 => s.cell q1
          have hkin := Kin.there w8
          cases sy
          all_goals
            refine wp_region_kin (by kernel_rfl) (by kernel_rfl) ?_
            repeat (go_big_quiet_step ((first
              | (go_at_call 9; with_reducible exact Kin.call (SAM.out _ _ _ _ _ (W8.out.below (Kin.below _)) (F8.out.p.below (Kin.below _))))
              | (go_at_call 9; with_reducible exact Kin.call (SAZ.out _ (F8.out.p.below (Kin.below _)) (F8.out.i.below (Kin.below _))))
              | (go_at_call 10; with_reducible exact Kin.call (ITR.out _ (F8.out.i.below (Kin.below _))))
              | (go_at_call 10; with_reducible exact Kin.call (ITC.out _ (F8.out.p.below (Kin.below _))))
              | (go_at_call 15; with_reducible exact Kin.call (ISY.out _ (F8.out.i.below (Kin.below _))))
              | (go_at_call 15; with_reducible exact Kin.call (ISC.out rfl _ (F8.out.p.below (Kin.below _)))))))
            refine wpQuiet_nil ?_
            rintro _ ⟨s, rfl⟩
            clear e0 e1 e2 e3 e4 e5 hkin c0 c1 d0 d1 q0 q1
            go_wp2
            go_ret
            exact ⟨by first | rfl | simp, F8.out.b.trans (s.below.mono F8.out.b.size)⟩
        · have hd : decide (0 ≤ tv ∧ 0 < pm) = false := decide_eq_false hgo
          clear ITM
          by_cases hg1 : 0 ≤ tv
          · have hg2 : ¬ (0 : Int) < (pm : Int) := fun h => hgo ⟨hg1, by omega⟩
            have hg3 : decide ((0 : Int) < (pm : Int)) = false := decide_eq_false hg2
            have hg4 : decide (0 < pm) = false := decide_eq_false (by omega)
            clear hgo hd hg2
            go_wp2_with fail
            refine wp_region_kin (by kernel_rfl) (by kernel_rfl) ?_
            repeat (go_big_quiet_step (fail))
            refine wpQuiet_nil ?_
            rintro _ ⟨s, rfl⟩
            have F8 : Hid (FC w s.w k n g zl cg zs g2 ps kc n ga pl gc p) := F7.out.below s.below
            have Q8 : Hid (MBx s.w kd n (.slice a2 pl c3) 26) := Q7.out.below s.below
            have W8 : Hid (IntsAt s.w a2 p) := W7.out.below s.below
            clear e0 e1 e2 e3 hkin c0 c1 d0 d1 F7 Q7 W7
            generalize s.w = w8 at *
            go_wp2_with fail
            obtain ⟨c0, c1⟩ := F8.out.m.cells
            obtain ⟨d0, d1⟩ := F8.out.c.cells
            obtain ⟨q0, q1⟩ := Q8.out.cells
            have e0 := fun s : Kin w8 => s.cell c0
            have e1 := fun s : Kin w8 => s.cell c1
            have e2 := fun s : Kin w8 => s.cell d0
            have e3 := fun s : Kin w8 => s.cell d1
            have e4 := fun s : Kin w8 => s.cell q0
            have e5 := fun s : Kin w8 => s.cell q1
            have hkin := Kin.there w8
            cases sy
            all_goals
              refine wp_region_kin (by kernel_rfl) (by kernel_rfl) ?_
              repeat (go_big_quiet_step ((first
                | (go_at_call 9; with_reducible exact Kin.call (SAM.out _ _ _ _ _ (W8.out.below (Kin.below _)) (F8.out.p.below (Kin.below _))))
                | (go_at_call 9; with_reducible exact Kin.call (SAZ.out _ (F8.out.p.below (Kin.below _)) (F8.out.i.below (Kin.below _))))
                | (go_at_call 10; with_reducible exact Kin.call (ITR.out _ (F8.out.i.below (Kin.below _))))
                | (go_at_call 10; with_reducible exact Kin.call (ITC.out _ (F8.out.p.below (Kin.below _))))
                | (go_at_call 15; with_reducible exact Kin.call (ISY.out _ (F8.out.i.below (Kin.below _))))
                | (go_at_call 15; with_reducible exact Kin.call (ISC.out rfl _ (F8.out.p.below (Kin.below _)))))))
              refine wpQuiet_nil ?_
              rintro _ ⟨s, rfl⟩
              clear e0 e1 e2 e3 e4 e5 hkin c0 c1 d0 d1 q0 q1
              go_wp2
              go_ret
              exact ⟨by first | rfl | simp, F8.out.b.trans (s.below.mono F8.out.b.size)⟩
          · have hgd : decide (0 ≤ tv) = false := decide_eq_false hg1
            clear hgo hd hg1
            go_wp2_with fail
            refine wp_region_kin (by kernel_rfl) (by kernel_rfl) ?_
            repeat (go_big_quiet_step (fail))
            refine wpQuiet_nil ?_
            rintro _ ⟨s, rfl⟩
            have F8 : Hid (FC w s.w k n g zl cg zs g2 ps kc n ga pl gc p) := F7.out.below s.below
            have Q8 : Hid (MBx s.w kd n (.slice a2 pl c3) 26) := Q7.out.below s.below
            have W8 : Hid (IntsAt s.w a2 p) := W7.out.below s.below
            clear e0 e1 e2 e3 hkin c0 c1 d0 d1 F7 Q7 W7
            generalize s.w = w8 at *
            go_wp2_with fail
            obtain ⟨c0, c1⟩ := F8.out.m.cells
            obtain ⟨d0, d1⟩ := F8.out.c.cells
            obtain ⟨q0, q1⟩ := Q8.out.cells
            have e0 := fun s : Kin w8 => s.cell c0
            have e1 := fun s : Kin w8 => s.cell c1
            have e2 := fun s : Kin w8 => s.cell d0
            have e3 := fun s : Kin w8 => s.cell d1
            have e4 := fun s : Kin w8 => s.cell q0
            have e5 := fun s : Kin w8 => s.cell q1
            have hkin := Kin.there w8
            cases sy
            all_goals
              refine wp_region_kin (by kernel_rfl) (by kernel_rfl) ?_
              repeat (go_big_quiet_step ((first
                | (go_at_call 9; with_reducible exact Kin.call (SAM.out _ _ _ _ _ (W8.out.below (Kin.below _)) (F8.out.p.below (Kin.below _))))
                | (go_at_call 9; with_reducible exact Kin.call (SAZ.out _ (F8.out.p.below (Kin.below _)) (F8.out.i.below (Kin.below _))))
                | (go_at_call 10; with_reducible exact Kin.call (ITR.out _ (F8.out.i.below (Kin.below _))))
                | (go_at_call 10; with_reducible exact Kin.call (ITC.out _ (F8.out.p.below (Kin.below _))))
                | (go_at_call 15; with_reducible exact Kin.call (ISY.out _ (F8.out.i.below (Kin.below _))))
                | (go_at_call 15; with_reducible exact Kin.call (ISC.out rfl _ (F8.out.p.below (Kin.below _)))))))
              refine wpQuiet_nil ?_
              rintro _ ⟨s, rfl⟩
              clear e0 e1 e2 e3 e4 e5 hkin c0 c1 d0 d1 q0 q1
              go_wp2
              go_ret
              exact ⟨by first | rfl | simp, F8.out.b.trans (s.below.mono F8.out.b.size)⟩

theorem lawFnClosed_all (a : Option Addr) (c : Nat) (bs : List Int) (w : World) (hA : CodeAt w a bs) (hl : bs.length ≤ 9223372036854775807) :
    Calls Try.prog 3 #[.slice a bs.length c] w fun e w' => e = .returned (.bool true) ∧ Below w.heap.size w w' := by
  by_cases h : bs.length ≤ 1048576
  · exact lawFnClosed a c bs w hA h
  · exact lawFnClosed_big a c _ w hl (by omega)

end Go.Proofs.Ytchdcifhccjheaa
