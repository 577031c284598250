import Derived.Test.YtonopidjkcmlmaaPack5
import Derived.Test.YtonopidjkcmlmaaPack22
import Derived.Test.YtonopidjkcmlmaaPack25
import Derived.Test.YtonopidjkcmlmaaPack30
import Derived.Deep.RegionHeld3
namespace Go.Proofs.Ytonopidjkcmlmaa
open Go.RowKit

theorem allTo_bd {R : List RT} {b : Nat} (h : ∀ r ∈ R, r.ids.length ≤ b) : ∀ k, k ≤ R.length → (allTo R k).length ≤ k * b
  | 0, _ => by simp [allTo_zero]
  | k + 1, hk => by
    have ih := allTo_bd h k (by omega)
    have hm : R.getD k rt0 ∈ R := by rw [List.getD_eq_getElem?_getD, List.getElem?_eq_getElem (by omega)]; simp
    have := h _ hm
    rw [allTo_succ (by omega), List.length_append, Nat.succ_mul]
    omega
/-- Inside the law: the case and the plan in their boxes, their rows. -/
structure LP (w W : World) (k kp : Nat) (cs : Array Value) (ra : Option Addr) (nr rc : Nat) (la : Option Addr) (m lc : Nat) (g go gv : Nat) (zs O V : List Int) (R : List RT) (L : List Int) : Prop where
  b : Below w.heap.size w W
  b1 : W.heap[k]? = some (.cells cs 30 (0, 0))
  b2 : W.heap[kp]? = some (.cells #[.slice ra nr rc, .slice la m lc] 33 (0, 0))
  iz : IntsAt W (some ⟨g, 0, none⟩) zs
  io : IntsAt W (some ⟨go, 0, none⟩) O
  iv : IntsAt W (some ⟨gv, 0, none⟩) V
  r : RoutesAt W ra R
  l : IntsAt W la L
theorem LP.below {w W W' : World} {k kp : Nat} {cs : Array Value} {ra : Option Addr} {nr rc : Nat} {la : Option Addr} {m lc : Nat} {g go gv : Nat} {zs O V : List Int} {R : List RT} {L : List Int} (h : LP w W k kp cs ra nr rc la m lc g go gv zs O V R L) (hb : Below W.heap.size W W') : LP w W' k kp cs ra nr rc la m lc g go gv zs O V R L :=
  ⟨h.b.trans (hb.mono h.b.size), below_row hb (row_lt h.b1) h.b1, below_row hb (row_lt h.b2) h.b2, h.iz.below hb, h.io.below hb, h.iv.below hb, h.r.below hb, h.l.below hb⟩
set_option maxHeartbeats 400000 in
theorem lawFnPlanCost_big (a : Option Addr) (c len : Nat) (w : World) (hl : len ≤ 9223372036854775807) (h : 1048576 < len) :
    Calls Try.prog 4 #[.slice a len c] w fun e w' => e = .returned (.bool true) ∧ Below w.heap.size w w' := by
  have hd : decide (1048576 < len) = true := decide_eq_true h
  go_enter Try.func4, Try.ntmps4
  go_wp2_with (go_at_call 7; refine (big_any a c len w hl).mono ?_; rintro e w1 ⟨rfl, hw1⟩; subst w1; rw [hd])
  go_ret
  exact ⟨rfl, Below.refl _ _⟩

set_option maxRecDepth 10000 in
set_option maxHeartbeats 4000000 in
theorem lawFnPlanCost (a : Option Addr) (ca : Nat) (bs : List Int) (w : World) (hA : CodeAt w a bs) (hl : bs.length ≤ 1048576) :
    Calls Try.prog 4 #[.slice a bs.length ca] w fun e w' => e = .returned (.bool true) ∧ Below w.heap.size w w' := by
  have HA : Hid (CodeAt w a bs) := hA
  clear hA
  have hd : decide (1048576 < bs.length) = false := decide_eq_false (by omega)
  go_enter Try.func4, Try.ntmps4
  go_wp2_with fail
  refine (big_any a ca bs.length w (by omega)).mono ?_
  rintro e w1 ⟨rfl, hw1⟩
  subst w1
  rw [hd]
  clear hd
  go_wp2_with fail
  refine (drawPlanCost_any a ca bs w HA.out hl).mono ?_
  rintro e w1 ⟨n, g, zl, cg, go, ko, co, gv, kv, cv, zs, O, V, fi, rs, ls, R, L, rfl, ⟨hz, hO, hV, hko1, hko5, hkv1, hkv3⟩, ⟨hR10, hR9, hL13, hLw⟩, hb, iz, io, iv, -, hpo⟩
  obtain ⟨N, HLb⟩ : ∃ v, Hid (bs.length = v) := ⟨_, rfl⟩
  rw [HLb.out] at hl ⊢
  obtain ⟨ra, rc, e⟩ := own_any hpo.r
  subst e
  obtain ⟨la, lc, e⟩ := own_any hpo.l
  subst e
  have HZ : Hid (zs.length = zl) := hz
  have HO : Hid (O.length = ko * 6) := hO
  have HV : Hid (V.length = kv * 5) := hV
  have HRC : Hid (∀ r ∈ R, r.ids.length ≤ r.c) := fun r hr => (hpo.ints r hr).2
  have HRI : Hid (∀ r ∈ R, r.ids.length ≤ 9) := hR9
  have HAL : Hid ((allTo R R.length).length ≤ 1048576) := Nat.le_trans (allTo_bd hR9 _ (Nat.le_refl _)) (by omega)
  have HLW : Hid (∀ x ∈ L, (Lit.int .i64 x).wf = true) := fun x hx => by
    have := hLw x hx
    show (decide (IntKind.i64.min ≤ x) && decide (x ≤ IntKind.i64.max)) = true
    have h1 : IntKind.i64.min = -9223372036854775808 := by decide
    have h2 : IntKind.i64.max = 9223372036854775807 := by decide
    rw [h1, h2]
    simp
    omega
  have RA : RoutesAt w1 ra R := hpo.at
  have LA : IntsAt w1 la L := by
    obtain ⟨a', c', e, hi⟩ := hpo.lv
    have e2 : la = a' := by injection e
    rw [e2]; exact hi
  obtain ⟨nr, HNR⟩ : ∃ v, Hid (R.length = v) := ⟨_, rfl⟩
  obtain ⟨m, HM⟩ : ∃ v, Hid (L.length = v) := ⟨_, rfl⟩
  rw [HNR.out, HM.out]
  rw [HNR.out] at hR10
  rw [HM.out] at hL13
  have K1 : Hid (LP w ((w1.alloc (.cells #[.int .i64 n, .slice (some ⟨g, 0, none⟩) zl cg, .slice (some ⟨go, 0, none⟩) ko co, .slice (some ⟨gv, 0, none⟩) kv cv, .int .i64 fi] 30)).alloc (.cells #[.slice ra nr rc, .slice la m lc] 33)) w1.heap.size (w1.heap.size + 1) #[.int .i64 n, .slice (some ⟨g, 0, none⟩) zl cg, .slice (some ⟨go, 0, none⟩) ko co, .slice (some ⟨gv, 0, none⟩) kv cv, .int .i64 fi] ra nr rc la m lc g go gv zs O V R L) := by
    have ha : Below w1.heap.size w1 ((w1.alloc (.cells #[.int .i64 n, .slice (some ⟨g, 0, none⟩) zl cg, .slice (some ⟨go, 0, none⟩) ko co, .slice (some ⟨gv, 0, none⟩) kv cv, .int .i64 fi] 30)).alloc (.cells #[.slice ra nr rc, .slice la m lc] 33)) := ((Below.refl _ _).alloc (Nat.le_refl _) _).alloc (by simp) _
    exact ⟨hb.trans (ha.mono hb.size), heap_alloc2_old _ _ _, heap_alloc2_new _ _ _, iz.below ha, io.below ha, iv.below ha, RA.below ha, LA.below ha⟩
  clear hz hO hV hb iz io iv hpo hR9 hLw RA LA
  obtain ⟨pv, HPV⟩ : ∃ v, Hid (planV n zs O V ko kv fi R L = v) := ⟨_, rfl⟩
  obtain ⟨v, HVV⟩ : ∃ v, Hid (planC n zs O V ko kv fi R L = v) := ⟨_, rfl⟩
  have ICO : Hid (∀ W k kp, LP w W k kp #[.int .i64 n, .slice (some ⟨g, 0, none⟩) zl cg, .slice (some ⟨go, 0, none⟩) ko co, .slice (some ⟨gv, 0, none⟩) kv cv, .int .i64 fi] ra nr rc la m lc g go gv zs O V R L → Calls Try.prog 19 #[.agg #[.int .i64 n, .slice (some ⟨g, 0, none⟩) zl cg, .slice (some ⟨go, 0, none⟩) ko co, .slice (some ⟨gv, 0, none⟩) kv cv, .int .i64 fi], .agg #[.slice ra nr rc, .slice la m lc]] W fun e w' => e = .returned (.int .i64 v) ∧ Below W.heap.size W w') := fun W k kp h => by
    have := implPlanCost_any n fi _ _ _ ra la cg ko co kv cv rc lc zs O V L R W h.iz h.io h.iv h.r h.l HO.out HV.out (by omega) (by omega) (by rw [HNR.out]; omega) (fun r hr => by have := HRI.out r hr; omega) HRC.out (by rw [HM.out]; omega) HAL.out HLW.out
    rw [HZ.out, HNR.out, HM.out, HVV.out] at this
    exact this
  have SCO : Hid (∀ W k kp, LP w W k kp #[.int .i64 n, .slice (some ⟨g, 0, none⟩) zl cg, .slice (some ⟨go, 0, none⟩) ko co, .slice (some ⟨gv, 0, none⟩) kv cv, .int .i64 fi] ra nr rc la m lc g go gv zs O V R L → Calls Try.prog 20 #[.agg #[.int .i64 n, .slice (some ⟨g, 0, none⟩) zl cg, .slice (some ⟨go, 0, none⟩) ko co, .slice (some ⟨gv, 0, none⟩) kv cv, .int .i64 fi], .agg #[.slice ra nr rc, .slice la m lc]] W fun e w' => e = .returned (.int .i64 v) ∧ Below W.heap.size W w') := fun W k kp h => by
    have := specPlanCost_any n fi _ _ _ ra la cg ko co kv cv rc lc zs O V L R W h.iz h.io h.iv h.r h.l HO.out HV.out (by omega) (by omega) (by rw [HNR.out]; omega) (fun r hr => by have := HRI.out r hr; omega) HRC.out (by rw [HM.out]; omega) HAL.out
    rw [HZ.out, HNR.out, HM.out, HVV.out] at this
    exact this
  have IPC : Hid (∀ W k kp, LP w W k kp #[.int .i64 n, .slice (some ⟨g, 0, none⟩) zl cg, .slice (some ⟨go, 0, none⟩) ko co, .slice (some ⟨gv, 0, none⟩) kv cv, .int .i64 fi] ra nr rc la m lc g go gv zs O V R L → Calls Try.prog 9 #[.agg #[.int .i64 n, .slice (some ⟨g, 0, none⟩) zl cg, .slice (some ⟨go, 0, none⟩) ko co, .slice (some ⟨gv, 0, none⟩) kv cv, .int .i64 fi], .agg #[.slice ra nr rc, .slice la m lc]] W fun e w' => e = .returned (.int .i64 pv) ∧ Below W.heap.size W w') := fun W k kp h => by
    have := implPlan_any n fi _ _ _ ra la cg ko co kv cv rc lc zs O V L R W h.iz h.io h.iv h.r h.l HO.out HV.out (by omega) (by omega) (by rw [HNR.out]; omega) (fun r hr => by have := HRI.out r hr; omega) HRC.out (by rw [HM.out]; omega) HAL.out HLW.out
    rw [HZ.out, HNR.out, HM.out, HPV.out] at this
    exact this
  obtain ⟨d0, d1, d2, d3, d4⟩ := cells5z K1.out.b1
  obtain ⟨p0, p1⟩ := cells2 K1.out.b2
  go_wp2_with fail
  generalize (w1.alloc (.cells #[.int .i64 n, .slice (some ⟨g, 0, none⟩) zl cg, .slice (some ⟨go, 0, none⟩) ko co, .slice (some ⟨gv, 0, none⟩) kv cv, .int .i64 fi] 30)).alloc (.cells #[.slice ra nr rc, .slice la m lc] 33) = W1 at *
  obtain ⟨k, HK⟩ : ∃ v, Hid (w1.heap.size = v) := ⟨_, rfl⟩
  obtain ⟨kp, HKP⟩ : ∃ v, Hid (w1.heap.size + 1 = v) := ⟨_, rfl⟩
  rw [HKP.out] at K1 p0 p1 ⊢
  rw [HK.out] at K1 d0 d1 d2 d3 d4 ⊢
  refine (ICO.out _ _ _ K1.out).mono ?_
  rintro e w2 ⟨rfl, hb⟩
  have K2 : Hid (LP w w2 k kp #[.int .i64 n, .slice (some ⟨g, 0, none⟩) zl cg, .slice (some ⟨go, 0, none⟩) ko co, .slice (some ⟨gv, 0, none⟩) kv cv, .int .i64 fi] ra nr rc la m lc g go gv zs O V R L) := K1.out.below hb
  clear hb K1 d0 d1 d2 d3 d4 p0 p1
  obtain ⟨d0, d1, d2, d3, d4⟩ := cells5z K2.out.b1
  obtain ⟨p0, p1⟩ := cells2 K2.out.b2
  have hvv : (v != v) = false := by simp
  have hve : (v == v) = true := by simp
  go_wp2_with fail
  refine (SCO.out _ _ _ K2.out).mono ?_
  rintro e w3 ⟨rfl, hb⟩
  have K3 : Hid (LP w w3 k kp #[.int .i64 n, .slice (some ⟨g, 0, none⟩) zl cg, .slice (some ⟨go, 0, none⟩) ko co, .slice (some ⟨gv, 0, none⟩) kv cv, .int .i64 fi] ra nr rc la m lc g go gv zs O V R L) := K2.out.below hb
  clear hb K2 d0 d1 d2 d3 d4 p0 p1
  obtain ⟨d0, d1, d2, d3, d4⟩ := cells5z K3.out.b1
  obtain ⟨p0, p1⟩ := cells2 K3.out.b2
  by_cases hpv : pv = 0
  · have HP0 : Hid (planV n zs O V ko kv fi R L = 0) := by show _ = _; rw [HPV.out, hpv]
    obtain ⟨hcb, hrts, -, -, -⟩ := planV_zero HP0.out
    have HCB : Hid (caseB n zs O V ko kv fi = true) := hcb
    have HRT : Hid (RtsOk n zs O V ko kv R R.length) := hrts
    have HVC : Hid (costR n zs O V ko kv R (fi * L.length) R.length = v) := by
      show _ = _
      rw [← HVV.out]
      unfold planC
      rw [if_pos HP0.out]
    obtain ⟨-, -, hz0, hz1⟩ := plan_small HP0.out
    have hbd := costR_bd hcb hrts (fi * L.length) R.length (Nat.le_refl _)
    rw [HVC.out] at hbd
    have hv0 : ¬ v < 0 := by omega
    have hvd : decide (v < 0) = false := by simp; omega
    obtain ⟨z, HZZ⟩ : ∃ v, Hid (fi * (L.length : Int) = v) := ⟨_, rfl⟩
    rw [HZZ.out] at hz0 hz1 HVC
    have hwz : IntKind.i64.wrap (fi * (m : Int)) = z := by
      rw [← HM.out, HZZ.out, IntKind.wrap_i64]
      omega
    clear hcb hrts hbd hpv ICO SCO IPC
    go_wp2_with fail
    go_loopw [6, 7] (fun ts t wr => ∃ i : Nat, i ≤ nr ∧ t = .int .i64 i ∧ ts = .int .i64 (costR n zs O V ko kv R z i) ∧ LP w wr k kp #[.int .i64 n, .slice (some ⟨g, 0, none⟩) zl cg, .slice (some ⟨go, 0, none⟩) ko co, .slice (some ⟨gv, 0, none⟩) kv cv, .int .i64 fi] ra nr rc la m lc g go gv zs O V R L) (fun _ t _ => nr - (intOf t).toNat)
    case atStart => exact ⟨0, Nat.zero_le _, rfl, by first | rfl | simp [costR, hwz], K3.out⟩
    case round =>
      clear K3 d0 d1 d2 d3 d4 p0 p1 hwz
      obtain ⟨i, hi, rfl, rfl, hk4⟩ := hrel
      have K4 : Hid (LP w wr k kp #[.int .i64 n, .slice (some ⟨g, 0, none⟩) zl cg, .slice (some ⟨go, 0, none⟩) ko co, .slice (some ⟨gv, 0, none⟩) kv cv, .int .i64 fi] ra nr rc la m lc g go gv zs O V R L) := hk4
      clear hk4
      obtain ⟨p0, p1⟩ := cells2 K4.out.b2
      by_cases hlt : i < nr
      · have hiI : (i : Int) < (nr : Int) := by omega
        have hiR : i < R.length := by rw [HNR.out]; exact hlt
        have hcz := costR_bd HCB.out HRT.out z i (by omega)
        have hrd := rideR_bd HCB.out HRT.out hiR
        have hmem : R.getD i rt0 ∈ R := by rw [List.getD_eq_getElem?_getD, List.getElem?_eq_getElem hiR]; simp
        have HXC : Hid (costV (caseB n zs O V ko kv fi) n zs O V ko kv (R.getD i rt0).v (R.getD i rt0).ids = rideR n zs O V ko kv (R.getD i rt0)) := by
          show _ = _
          rw [HCB.out, costV_yes (HRT.out i hiR).2.2]
          rfl
        have HNX : Hid (costR n zs O V ko kv R z (i + 1) = costR n zs O V ko kv R z i + rideR n zs O V ko kv (R.getD i rt0)) := rfl
        obtain ⟨b, off, e, -, -, -⟩ := K4.out.r i hiR
        have HAT : Hid (∀ W, LP w W k kp #[.int .i64 n, .slice (some ⟨g, 0, none⟩) zl cg, .slice (some ⟨go, 0, none⟩) ko co, .slice (some ⟨gv, 0, none⟩) kv cv, .int .i64 fi] ra nr rc la m lc g go gv zs O V R L → ra = some ⟨b, off, none⟩ ∧ W.cell? ⟨b, off + i * 2, none⟩ = some (.int .i64 (R.getD i rt0).v) ∧ W.cell? ⟨b, off + i * 2 + 1, none⟩ = some (.slice (R.getD i rt0).a (R.getD i rt0).ids.length (R.getD i rt0).c) ∧ IntsAt W (R.getD i rt0).a (R.getD i rt0).ids) := fun W hW => by
          obtain ⟨b2, off2, e2, q1, q2, q3⟩ := hW.r i hiR
          rw [e] at e2
          simp only [Option.some.injEq, Addr.mk.injEq, and_true] at e2
          obtain ⟨rfl, rfl⟩ := e2
          exact ⟨e, q1, q2, q3⟩
        have hx1 := HRI.out _ hmem
        have HX2 : Hid ((R.getD i rt0).ids.length ≤ (R.getD i rt0).c) := HRC.out _ hmem
        clear hmem
        subst e
        generalize rideR n zs O V ko kv (R.getD i rt0) = y at *
        generalize R.getD i rt0 = x at *
        obtain ⟨xv, xa, xids, xc⟩ := x
        simp only at HXC HAT hx1 HX2
        obtain ⟨xl, HXL⟩ : ∃ v, Hid (xids.length = v) := ⟨_, rfl⟩
        simp only [HXL.out] at HAT hx1 HX2
        obtain ⟨s, HSS⟩ : ∃ v, Hid (costR n zs O V ko kv R z i = v) := ⟨_, rfl⟩
        rw [HSS.out] at hcz HNX ⊢
        have hws : IntKind.i64.wrap (s + y) = s + y := by rw [IntKind.wrap_i64]; omega
        have ICT : Hid (∀ W, LP w W k kp #[.int .i64 n, .slice (some ⟨g, 0, none⟩) zl cg, .slice (some ⟨go, 0, none⟩) ko co, .slice (some ⟨gv, 0, none⟩) kv cv, .int .i64 fi] (some ⟨b, off, none⟩) nr rc la m lc g go gv zs O V R L → Calls Try.prog 21 #[.agg #[.int .i64 n, .slice (some ⟨g, 0, none⟩) zl cg, .slice (some ⟨go, 0, none⟩) ko co, .slice (some ⟨gv, 0, none⟩) kv cv, .int .i64 fi], .agg #[.int .i64 xv, .slice xa xl xc]] W fun e w' => e = .returned (.int .i64 y) ∧ Below W.heap.size W w') := fun W h => by
          have := implCost_any n fi xv _ _ _ xa cg ko co kv cv xc zs O V xids W h.iz h.io h.iv (HAT.out W h).2.2.2 HO.out HV.out (by omega) (by omega) (by rw [HXL.out]; omega) (by rw [HXL.out]; exact HX2.out)
          rw [HZ.out, HXL.out, HXC.out] at this
          exact this
        have HKS : Hid (∀ W, LP w W k kp #[.int .i64 n, .slice (some ⟨g, 0, none⟩) zl cg, .slice (some ⟨go, 0, none⟩) ko co, .slice (some ⟨gv, 0, none⟩) kv cv, .int .i64 fi] (some ⟨b, off, none⟩) nr rc la m lc g go gv zs O V R L → (fun W => W.cell? ⟨k, 0, none⟩ = some (.int .i64 n) ∧ W.cell? ⟨k, 1, none⟩ = some (.slice (some ⟨g, 0, none⟩) zl cg) ∧ W.cell? ⟨k, 2, none⟩ = some (.slice (some ⟨go, 0, none⟩) ko co) ∧ W.cell? ⟨k, 3, none⟩ = some (.slice (some ⟨gv, 0, none⟩) kv cv) ∧ W.cell? ⟨k, 4, none⟩ = some (.int .i64 fi) ∧ W.cell? ⟨kp, 0, none⟩ = some (.slice (some ⟨b, off, none⟩) nr rc) ∧ W.cell? ⟨b, off + i * 2, none⟩ = some (.int .i64 xv) ∧ W.cell? ⟨b, off + i * 2 + 1, none⟩ = some (.slice xa xl xc)) W) := fun W h => by
          obtain ⟨d0, d1, d2, d3, d4⟩ := cells5z h.b1
          obtain ⟨p0, _⟩ := cells2 h.b2
          obtain ⟨_, q1, q2, _⟩ := HAT.out W h
          exact ⟨d0, d1, d2, d3, d4, p0, q1, q2⟩
        clear hcz hrd
        have kS := HKS.out _ (K4.out.below (Below.refl _ _).drew)
        go_wp2_with fail
        go_region_held3 (fun W => W.cell? ⟨k, 0, none⟩ = some (.int .i64 n) ∧ W.cell? ⟨k, 1, none⟩ = some (.slice (some ⟨g, 0, none⟩) zl cg) ∧ W.cell? ⟨k, 2, none⟩ = some (.slice (some ⟨go, 0, none⟩) ko co) ∧ W.cell? ⟨k, 3, none⟩ = some (.slice (some ⟨gv, 0, none⟩) kv cv) ∧ W.cell? ⟨k, 4, none⟩ = some (.int .i64 fi) ∧ W.cell? ⟨kp, 0, none⟩ = some (.slice (some ⟨b, off, none⟩) nr rc) ∧ W.cell? ⟨b, off + i * 2, none⟩ = some (.int .i64 xv) ∧ W.cell? ⟨b, off + i * 2 + 1, none⟩ = some (.slice xa xl xc)) (first | with_reducible exact kS | go_keep) ((first
          | (go_at_call 21
             with_reducible refine (ICT.out wr.drew (K4.out.below (Below.refl _ _).drew)).mono ?_
             rintro e w6 ⟨rfl, hb⟩
             have K6 : Hid (LP w w6 k kp #[.int .i64 n, .slice (some ⟨g, 0, none⟩) zl cg, .slice (some ⟨go, 0, none⟩) ko co, .slice (some ⟨gv, 0, none⟩) kv cv, .int .i64 fi] (some ⟨b, off, none⟩) nr rc la m lc g go gv zs O V R L) := (K4.out.below (Below.refl _ _).drew).below hb
             have kS := HKS.out _ K6.out
             clear hb)))
        clear K4 p0 p1 kS HKS
        go_wp2
        go_roundw
        case rel => exact ⟨i + 1, by omega, by first | rfl | go_num, by rw [HNX.out], K6.out⟩
        case measure => simp [intOf]; omega
      · have hiI : ¬ ((i : Int) < (nr : Int)) := by omega
        have hie : i = nr := by omega
        have HSV : Hid (costR n zs O V ko kv R z i = v) := by show _ = _; rw [hie, ← HNR.out]; exact HVC.out
        rw [HSV.out]
        clear hie
        go_wp2
        go_ret
        exact ⟨by first | rfl | simp, K4.out.b⟩
  · have hv1 : v = -1 := by
      rw [← HVV.out]
      unfold planC
      rw [if_neg (by rw [HPV.out]; exact hpv)]
    subst hv1
    have hpn : (pv != 0) = true := by simp [hpv]
    go_wp2_with fail
    refine (SCO.out _ _ _ K3.out).mono ?_
    rintro e w4 ⟨rfl, hb⟩
    have K4 : Hid (LP w w4 k kp #[.int .i64 n, .slice (some ⟨g, 0, none⟩) zl cg, .slice (some ⟨go, 0, none⟩) ko co, .slice (some ⟨gv, 0, none⟩) kv cv, .int .i64 fi] ra nr rc la m lc g go gv zs O V R L) := K3.out.below hb
    clear hb K3 d0 d1 d2 d3 d4 p0 p1
    obtain ⟨d0, d1, d2, d3, d4⟩ := cells5z K4.out.b1
    obtain ⟨p0, p1⟩ := cells2 K4.out.b2
    go_wp2_with fail
    refine (IPC.out _ _ _ K4.out).mono ?_
    rintro e w5 ⟨rfl, hb⟩
    have K5 : Hid (LP w w5 k kp #[.int .i64 n, .slice (some ⟨g, 0, none⟩) zl cg, .slice (some ⟨go, 0, none⟩) ko co, .slice (some ⟨gv, 0, none⟩) kv cv, .int .i64 fi] ra nr rc la m lc g go gv zs O V R L) := K4.out.below hb
    clear hb K4 d0 d1 d2 d3 d4 p0 p1
    go_wp2
    go_ret
    exact ⟨by first | rfl | simp, K5.out.b⟩

theorem lawFnPlanCost_all (a : Option Addr) (c : Nat) (bs : List Int) (w : World) (hA : CodeAt w a bs) (hl : bs.length ≤ 9223372036854775807) :
    Calls Try.prog 4 #[.slice a bs.length c] w fun e w' => e = .returned (.bool true) ∧ Below w.heap.size w w' := by
  by_cases h : bs.length ≤ 1048576
  · exact lawFnPlanCost a c bs w hA h
  · exact lawFnPlanCost_big a c bs.length w hl (by omega)

end Go.Proofs.Ytonopidjkcmlmaa
