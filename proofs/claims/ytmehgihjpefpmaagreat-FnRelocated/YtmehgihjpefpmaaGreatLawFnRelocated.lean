import Derived.Test.YtmehgihjpefpmaaGreatPack1
import Derived.Test.YtmehgihjpefpmaaGreatPack3
import Derived.Test.YtmehgihjpefpmaaGreatPack21
import Derived.Test.YtmehgihjpefpmaaGreatPack23
import Derived.Test.YtmehgihjpefpmaaGreatDrawReloc
import Derived.Test.YtmehgihjpefpmaaGreatPlanQ
import Derived.Test.YtmehgihjpefpmaaGreatPack44
import Derived.Test.YtmehgihjpefpmaaGreatPack48
namespace Go.Proofs.YtmehgihjpefpmaaGreat
open Go.RowKit
set_option maxHeartbeats 400000 in
theorem lawFnRelocated_big (a : Option Addr) (c len : Nat) (w : World) (hl : len <= 9223372036854775807) (h : 1048576 < len) :
 Calls Tryz.prog 3 #[.slice a len c] w fun e w' => e = .returned (.bool true) /\ Below w.heap.size w w' := by
 have hd : decide (1048576 < len) = true := decide_eq_true h
 go_enter Tryz.func3, Tryz.ntmps3
 go_wp2_with (go_at_call 5; refine (big_any a c len w hl).mono ?_; rintro e w1 ⟨rfl, hw1⟩; subst w1; rw [hd])
 go_ret
 exact ⟨rfl, Below.refl _ _⟩
set_option maxRecDepth 10000 in
set_option maxHeartbeats 4000000 in
theorem lawFnRelocated_small (a : Option Addr) (ca : Nat) (bs : List Int) (w : World) (hA : CodeAt w a bs) (hl : bs.length <= 1048576) :
 Calls Tryz.prog 3 #[.slice a bs.length ca] w fun e w' => e = .returned (.bool true) /\ Below w.heap.size w w' := by
 have HA : Hid (CodeAt w a bs) := hA
 clear hA
 have hd : decide (1048576 < bs.length) = false := decide_eq_false (by omega)
 go_enter Tryz.func3, Tryz.ntmps3
 go_wp2_with fail
 refine (big_any a ca bs.length w (by omega)).mono ?_
 rintro e w1 ⟨rfl, hw1⟩
 subst w1
 rw [hd]
 clear hd
 go_wp2_with fail
 refine (drawReloc_any a ca bs w HA.out hl).mono ?_
 rintro e w1 ⟨n, g, zl, cg, go, ko, co, gv, kv, cv, zs, O, V, fi, rs, ls, R, L, id, tv, pl, rfl, ⟨hz, hO, hV, hko1, hko5, hkv1, hkv3⟩, ⟨hR10, hR9, hL14, hLw⟩, hln, hb, iz, io, iv, hpo⟩
 obtain ⟨N, HLb⟩ : ∃ v, Hid (bs.length = v) := ⟨_, rfl⟩
 rw [HLb.out] at hl ⊢
 obtain ⟨ra, rc, e⟩ := own_any hpo.r
 subst e
 obtain ⟨la, lc, e⟩ := own_any hpo.l
 subst e
 obtain ⟨nr, HNR⟩ : ∃ v, Hid (R.length = v) := ⟨_, rfl⟩
 obtain ⟨m, HM⟩ : ∃ v, Hid (L.length = v) := ⟨_, rfl⟩
 have HZ : Hid (zs.length = zl) := hz
 have HO : Hid (O.length = ko * 6) := hO
 have HV : Hid (V.length = kv * 5) := hV
 have HRC : Hid (∀ r ∈ R, r.ids.length <= r.c) := fun r hr => (hpo.ints r hr).2
 have HRI : Hid (∀ r ∈ R, r.ids.length <= 9) := hR9
 have HAL : Hid ((allTo R R.length).length <= 1048576) := Nat.le_trans (allTo_bd hR9 _ (Nat.le_refl _)) (by omega)
 have HLW : Hid (∀ x ∈ L, (Lit.int .i64 x).wf = true) := wf_range hLw
 have HLN : Hid (planV n zs O V ko kv fi R L = 0 -> ∃ bl ol, la = some ⟨bl, ol, none⟩) := fun h => by
  obtain ⟨g9, m9, c9, e⟩ := hln (planV_zero h).1
  injection e with e
  exact ⟨g9, 0, e⟩
 rw [HNR.out, HM.out] at hpo
 rw [HNR.out] at hR10 ⊢
 rw [HM.out] at hL14 ⊢
 have HFR : Hid _ := (po_kinds hpo HNR.out HM.out).1
 have HFL : Hid _ := (po_kinds hpo HNR.out HM.out).2
 have K1 : Hid (LP w ((w1.alloc (.cells #[.int .i64 n, .slice (some ⟨g, 0, none⟩) zl cg, .slice (some ⟨go, 0, none⟩) ko co, .slice (some ⟨gv, 0, none⟩) kv cv, .int .i64 fi] 30)).alloc (.cells #[.slice ra nr rc, .slice la m lc] 33)) w1.heap.size (w1.heap.size + 1) #[.int .i64 n, .slice (some ⟨g, 0, none⟩) zl cg, .slice (some ⟨go, 0, none⟩) ko co, .slice (some ⟨gv, 0, none⟩) kv cv, .int .i64 fi] ra nr rc la m lc g go gv zs O V R L) := by
  have ha : Below w1.heap.size w1 ((w1.alloc (.cells #[.int .i64 n, .slice (some ⟨g, 0, none⟩) zl cg, .slice (some ⟨go, 0, none⟩) ko co, .slice (some ⟨gv, 0, none⟩) kv cv, .int .i64 fi] 30)).alloc (.cells #[.slice ra nr rc, .slice la m lc] 33)) := ((Below.refl _ _).alloc (Nat.le_refl _) _).alloc (by simp) _
  exact ⟨hb.trans (ha.mono hb.size), heap_alloc2_old _ _ _, heap_alloc2_new _ _ _, iz.below ha, io.below ha, iv.below ha, (po_at hpo HNR.out).below ha, (po_l hpo HM.out).below ha⟩
 clear hz hO hV hb iz io iv hpo hR9 hLw hln
 have hbd := rq_bd id tv pl n fi zs O V ko kv R L
 have HHE : Hid (rqB id tv pl n fi zs O V ko kv R L = true -> _) := fun h => rq_held h
 have HNO : Hid (rqB id tv pl n fi zs O V ko kv R L = false -> rqD id tv pl n fi zs O V ko kv R L = 0) := fun h => by unfold rqD; rw [h]; rfl
 obtain ⟨GB, HGB⟩ : ∃ v, Hid (rqB id tv pl n fi zs O V ko kv R L = v) := ⟨_, rfl⟩
 obtain ⟨GD, HGD⟩ : ∃ v, Hid (rqD id tv pl n fi zs O V ko kv R L = v) := ⟨_, rfl⟩
 obtain ⟨GR, HGR⟩ : ∃ v, Hid (rqR id tv pl n fi zs O V ko kv R L = v) := ⟨_, rfl⟩
 obtain ⟨GL, HGL⟩ : ∃ v, Hid (rqL id tv pl n fi zs O V ko kv R L = v) := ⟨_, rfl⟩
 have HIS : Hid (∀ W k kp, LP w W k kp #[.int .i64 n, .slice (some ⟨g, 0, none⟩) zl cg, .slice (some ⟨go, 0, none⟩) ko co, .slice (some ⟨gv, 0, none⟩) kv cv, .int .i64 fi] ra nr rc la m lc g go gv zs O V R L -> PlanIs W ra la nr m R L) := fun W k kp h => ⟨HNR.out, HM.out, h.r, h.l, HFR.out, HFL.out, HRC.out⟩
 have IDE : Hid (∀ W k kp, LP w W k kp #[.int .i64 n, .slice (some ⟨g, 0, none⟩) zl cg, .slice (some ⟨go, 0, none⟩) ko co, .slice (some ⟨gv, 0, none⟩) kv cv, .int .i64 fi] ra nr rc la m lc g go gv zs O V R L -> Calls Tryz.prog 7 #[.agg #[.int .i64 n, .slice (some ⟨g, 0, none⟩) zl cg, .slice (some ⟨go, 0, none⟩) ko co, .slice (some ⟨gv, 0, none⟩) kv cv, .int .i64 fi], .agg #[.slice ra nr rc, .slice la m lc], .int .i64 id, .int .i64 tv, .int .i64 pl] W (OwnOkN W GD GB GR GL)) := fun W k kp h => by
  have := implRelocated_any id tv pl n fi _ _ _ ra la zl cg ko co kv cv nr rc m lc zs O V L R W h.iz h.io h.iv HZ.out HO.out HV.out (by omega) (by omega) (HIS.out W k kp h) (by omega) (fun r hr => by have := HRI.out r hr; omega) (by omega) HAL.out HLW.out
  rw [HGD.out, HGB.out, HGR.out, HGL.out] at this
  exact this
 have SDE : Hid (∀ W k kp, LP w W k kp #[.int .i64 n, .slice (some ⟨g, 0, none⟩) zl cg, .slice (some ⟨go, 0, none⟩) ko co, .slice (some ⟨gv, 0, none⟩) kv cv, .int .i64 fi] ra nr rc la m lc g go gv zs O V R L -> Calls Tryz.prog 8 #[.agg #[.int .i64 n, .slice (some ⟨g, 0, none⟩) zl cg, .slice (some ⟨go, 0, none⟩) ko co, .slice (some ⟨gv, 0, none⟩) kv cv, .int .i64 fi], .agg #[.slice ra nr rc, .slice la m lc], .int .i64 id, .int .i64 tv, .int .i64 pl] W (SpecOkN W GD GB GR GL)) := fun W k kp h => by
  have := specRelocated_opt id tv pl n fi _ _ _ ra la zl cg ko co kv cv nr rc m lc zs O V L R W h.iz h.io h.iv HZ.out HO.out HV.out (by omega) (by omega) (HIS.out W k kp h) (by omega) (fun r hr => by have := HRI.out r hr; omega) (by omega) HAL.out HLN.out
  rw [HGD.out, HGB.out, HGR.out, HGL.out] at this
  exact this
 have IPG : Hid (∀ (ra2 la2 : Option Addr) (rc2 lc2 : Nat) (R2 : List RT) (L2 : List Int) W k kp, LP w W k kp #[.int .i64 n, .slice (some ⟨g, 0, none⟩) zl cg, .slice (some ⟨go, 0, none⟩) ko co, .slice (some ⟨gv, 0, none⟩) kv cv, .int .i64 fi] ra nr rc la m lc g go gv zs O V R L -> RoutesAt W ra2 R2 -> IntsAt W la2 L2 -> R2.length <= 500 -> (∀ r ∈ R2, r.ids.length <= 12 /\ r.ids.length <= r.c) -> L2.length <= 500 -> (∀ x ∈ L2, (Lit.int .i64 x).wf = true) -> Calls Tryz.prog 10 #[.agg #[.int .i64 n, .slice (some ⟨g, 0, none⟩) zl cg, .slice (some ⟨go, 0, none⟩) ko co, .slice (some ⟨gv, 0, none⟩) kv cv, .int .i64 fi], .agg #[.slice ra2 R2.length rc2, .slice la2 L2.length lc2]] W fun e w' => e = .returned (.int .i64 (planV n zs O V ko kv fi R2 L2)) /\ Below W.heap.size W w') := fun ra2 la2 rc2 lc2 R2 L2 W k kp h h1 h2 h3 h4 h5 h6 => by
  have h9 := allTo_bd (fun r hr => (h4 r hr).1) R2.length (Nat.le_refl _)
  have := implPlan_any n fi _ _ _ ra2 la2 cg ko co kv cv rc2 lc2 zs O V L2 R2 W h.iz h.io h.iv h1 h2 HO.out HV.out (by omega) (by omega) (by omega) (fun r hr => by have := (h4 r hr).1; omega) (fun r hr => (h4 r hr).2) (by omega) (by omega) h6
  rw [HZ.out] at this
  exact this
 have ICG : Hid (∀ (ra2 la2 : Option Addr) (rc2 lc2 : Nat) (R2 : List RT) (L2 : List Int) W k kp, LP w W k kp #[.int .i64 n, .slice (some ⟨g, 0, none⟩) zl cg, .slice (some ⟨go, 0, none⟩) ko co, .slice (some ⟨gv, 0, none⟩) kv cv, .int .i64 fi] ra nr rc la m lc g go gv zs O V R L -> RoutesAt W ra2 R2 -> IntsAt W la2 L2 -> R2.length <= 500 -> (∀ r ∈ R2, r.ids.length <= 12 /\ r.ids.length <= r.c) -> L2.length <= 500 -> (∀ x ∈ L2, (Lit.int .i64 x).wf = true) -> Calls Tryz.prog 11 #[.agg #[.int .i64 n, .slice (some ⟨g, 0, none⟩) zl cg, .slice (some ⟨go, 0, none⟩) ko co, .slice (some ⟨gv, 0, none⟩) kv cv, .int .i64 fi], .agg #[.slice ra2 R2.length rc2, .slice la2 L2.length lc2]] W fun e w' => e = .returned (.int .i64 (planC n zs O V ko kv fi R2 L2)) /\ Below W.heap.size W w') := fun ra2 la2 rc2 lc2 R2 L2 W k kp h h1 h2 h3 h4 h5 h6 => by
  have h9 := allTo_bd (fun r hr => (h4 r hr).1) R2.length (Nat.le_refl _)
  have := implPlanCost_any n fi _ _ _ ra2 la2 cg ko co kv cv rc2 lc2 zs O V L2 R2 W h.iz h.io h.iv h1 h2 HO.out HV.out (by omega) (by omega) (by omega) (fun r hr => by have := (h4 r hr).1; omega) (fun r hr => (h4 r hr).2) (by omega) (by omega) h6
  rw [HZ.out] at this
  exact this
 have ISG : Hid (∀ (ra2 la2 : Option Addr) (rc2 lc2 : Nat) (R2 : List RT) (L2 : List Int) W k kp, LP w W k kp #[.int .i64 n, .slice (some ⟨g, 0, none⟩) zl cg, .slice (some ⟨go, 0, none⟩) ko co, .slice (some ⟨gv, 0, none⟩) kv cv, .int .i64 fi] ra nr rc la m lc g go gv zs O V R L -> RoutesAt W ra2 R2 -> IntsAt W la2 L2 -> R2.length <= 500 -> (∀ r ∈ R2, r.ids.length <= 12 /\ r.ids.length <= r.c) -> L2.length <= 500 -> (∀ x ∈ L2, (Lit.int .i64 x).wf = true) -> Calls Tryz.prog 13 #[.agg #[.int .i64 n, .slice (some ⟨g, 0, none⟩) zl cg, .slice (some ⟨go, 0, none⟩) ko co, .slice (some ⟨gv, 0, none⟩) kv cv, .int .i64 fi], .agg #[.slice ra2 R2.length rc2, .slice la2 L2.length lc2]] W fun e w' => ∃ sl, e = .returned sl /\ Below W.heap.size W w' /\ w'.ownsRow W.heap.size 2 1 sl (servV n zs O V ko kv fi R2 L2).length ((servV n zs O V ko kv fi R2 L2).map (Value.int .i64))) := fun ra2 la2 rc2 lc2 R2 L2 W k kp h h1 h2 h3 h4 h5 h6 => by
  have := implServed_any n fi (some ⟨g, 0, none⟩) (some ⟨go, 0, none⟩) (some ⟨gv, 0, none⟩) ra2 la2 cg ko co kv cv rc2 lc2 zs O V L2 R2 W h1 (by omega) _ rfl (fun W' hb' => by
   rw [HZ.out]
   exact IPG.out ra2 la2 rc2 lc2 R2 L2 W' k kp (h.below hb') (h1.below hb') (h2.below hb') h3 h4 h5 h6)
  rw [HZ.out] at this
  exact this
 rw [HGR.out, HGL.out] at hbd
 rw [HGB.out, HGD.out, HGR.out, HGL.out] at HHE
 rw [HGB.out, HGD.out] at HNO
 clear HGB HGD HGR HGL
 have HBD : Hid ((∀ r ∈ GR, r.ids ≠ [] /\ r.ids.length <= 12) /\ GR.length <= 500 /\ GL.length <= 500) := hbd
 clear hbd
 obtain ⟨d0, d1, d2, d3, d4⟩ := cells5z K1.out.b1
 obtain ⟨p0, p1⟩ := cells2 K1.out.b2
 go_wp2_with fail
 generalize (w1.alloc (.cells #[.int .i64 n, .slice (some ⟨g, 0, none⟩) zl cg, .slice (some ⟨go, 0, none⟩) ko co, .slice (some ⟨gv, 0, none⟩) kv cv, .int .i64 fi] 30)).alloc (.cells #[.slice ra nr rc, .slice la m lc] 33) = W1 at *
 obtain ⟨k, HK⟩ : ∃ v, Hid (w1.heap.size = v) := ⟨_, rfl⟩
 obtain ⟨kp, HKP⟩ : ∃ v, Hid (w1.heap.size + 1 = v) := ⟨_, rfl⟩
 rw [HKP.out] at K1 p0 p1 ⊢
 rw [HK.out] at K1 d0 d1 d2 d3 d4 ⊢
 refine (IDE.out _ _ _ K1.out).mono ?_
 rintro e w2 ⟨qa, qn, qc, qk, ql, qd, SG, rfl, hb, hsn, hln, hky, hpo, -⟩
 have HSGN : Hid (SG.length = qn) := hsn
 have HGLN : Hid (GL.length = ql) := hln
 have HSGK : Hid (SG.map RT.key = GR.map RT.key) := hky
 have HSGC : Hid (∀ r ∈ SG, r.ids.length <= 12 /\ r.ids.length <= r.c) := fun r hr => ⟨(key_in hky HBD.out.1 r hr).2, (hpo.ints r hr).2⟩
 have hqn : qn <= 500 := by have h1 := HBD.out.2.1; have h2 := congrArg List.length hky; simp only [List.length_map] at h2; omega
 have hql : ql <= 500 := by have h1 := HBD.out.2.2; omega
 have hA : Below w2.heap.size w2 (w2.alloc (.cells #[.slice qa qn qc, .slice qk ql qd] 33)) := (Below.refl _ _).alloc (Nat.le_refl _) _
 have K3 : Hid _ := (K1.out.below hb).below hA
 have Q3 : Hid _ := LQ.new hpo hsn hln
 clear hb hsn hln hky hpo hA K1 d0 d1 d2 d3 d4 p0 p1 IDE
 obtain ⟨d0, d1, d2, d3, d4⟩ := cells5z K3.out.b1
 obtain ⟨p0, p1⟩ := cells2 K3.out.b2
 go_wp2_with fail
 generalize w2.alloc (.cells #[.slice qa qn qc, .slice qk ql qd] 33) = W3 at *
 obtain ⟨kq, HKQ⟩ : ∃ v, Hid (w2.heap.size = v) := ⟨_, rfl⟩
 rw [HKQ.out] at Q3 ⊢
 refine (SDE.out _ _ _ K3.out).mono ?_
 rintro e w4 ⟨xa, xn, xc, xk, xl, xd, SW, rfl, hb, hsn, hln, hky, hpo⟩
 have e1 : qn = xn := by rw [<- HSGN.out, <- hsn]; have := congrArg List.length (HSGK.out.trans hky.symm); simpa using this
 have e2 : ql = xl := HGLN.out.symm.trans hln
 subst e1 e2
 have HSWK : Hid (SW.map RT.key = SG.map RT.key) := hky.trans HSGK.out.symm
 have hA : Below w4.heap.size w4 (w4.alloc (.cells #[.slice xa qn xc, .slice xk ql xd] 33)) := (Below.refl _ _).alloc (Nat.le_refl _) _
 have hbA := hb.trans (hA.mono hb.size)
 have K5 : Hid _ := K3.out.below hbA
 have Q5 : Hid _ := Q3.out.below hbA
 have X5 : Hid _ := LQ.new hpo hsn hln
 clear hb hsn hln hky hpo hA hbA K3 Q3 d0 d1 d2 d3 d4 p0 p1 SDE
 have SAM : Hid (∀ W, RoutesAt W qa SG -> RoutesAt W xa SW -> IntsAt W qk GL -> IntsAt W xk GL -> Calls Tryz.prog 9 #[.agg #[.slice qa qn qc, .slice qk ql qd], .agg #[.slice xa qn xc, .slice xk ql xd]] W fun e w' => e = .returned (.bool true) /\ Below W.heap.size W w') := fun W h1 h2 h3 h4 => samePlan_same qa xa qk xk qc xc qn qd xd ql SG SW GL W h1 h2 HSWK.out HSGN.out (by omega) (fun r hr => by have := (HSGC.out r hr).1; omega) h3 h4 HGLN.out (by omega)
 obtain ⟨q0, q1⟩ := cells2 Q5.out.b
 obtain ⟨x0, x1⟩ := cells2 X5.out.b
 have hff : (GB != GB) = false := by simp
 have hfe : (GB == GB) = true := by simp
 have hnn : (GD != GD) = false := by simp
 have hne : (GD == GD) = true := by simp
 go_wp2_with fail
 generalize w4.alloc (.cells #[.slice xa qn xc, .slice xk ql xd] 33) = W5 at *
 obtain ⟨kw, HKW⟩ : ∃ v, Hid (w4.heap.size = v) := ⟨_, rfl⟩
 rw [HKW.out] at X5 ⊢
 refine (SAM.out W5 Q5.out.r X5.out.r Q5.out.l X5.out.l).mono ?_
 rintro e w6 ⟨rfl, hb⟩
 have K6 : Hid _ := K5.out.below hb
 have Q6 : Hid _ := Q5.out.below hb
 have X6 : Hid _ := X5.out.below hb
 clear hb K5 Q5 X5 q0 q1 x0 x1
 obtain ⟨q0, q1⟩ := cells2 Q6.out.b
 cases GB
 · have hgd := HNO.out rfl
   subst hgd
   obtain ⟨x0, x1⟩ := cells2 X6.out.b
   go_wp2_with fail
   refine (SAM.out w6 Q6.out.r X6.out.r Q6.out.l X6.out.l).mono ?_
   rintro e w7 ⟨rfl, hb⟩
   have B7 : Hid _ := (K6.out.below hb).b
   clear hb
   go_wp2
   go_ret
   exact ⟨by first | rfl | simp, B7.out⟩
 · obtain ⟨hpl, hpv, hpw, hgl, hcc, hss, hth⟩ := HHE.out rfl
   obtain ⟨p, rfl⟩ := Int.eq_ofNat_of_zero_le hpl
   replace hgl := hgl.symm
   subst hgl
   have e9 : m = ql := HM.out.symm.trans HGLN.out
   subst e9
   have HPV : Hid (planV n zs O V ko kv fi SG L = 0) := by show _ = _; rw [planV_key L HSGK.out]; exact hpw
   obtain ⟨c1, HC1⟩ : ∃ v, Hid (planC n zs O V ko kv fi R L = v) := ⟨_, rfl⟩
   obtain ⟨c2, HC2⟩ : ∃ v, Hid (planC n zs O V ko kv fi SG L = v) := ⟨_, rfl⟩
   obtain ⟨JX, HJX⟩ : ∃ v, Hid (servV n zs O V ko kv fi R L = v) := ⟨_, rfl⟩
   have HJQ : Hid (servV n zs O V ko kv fi SG L = JX) := by
    show _ = _
    rw [<- HJX.out, <- hss]
    unfold servV
    rw [planV_key L HSGK.out, allTo_flat, allTo_flat, key_flat HSGK.out]
   obtain ⟨jn, HJN⟩ : ∃ v, Hid (JX.length = v) := ⟨_, rfl⟩
   have hjn : jn <= 12 := by rw [<- HJN.out, <- HJX.out]; exact servV_len ..
   have hc2 : c1 + GD = c2 := by rw [<- HC1.out, <- HC2.out, planC_key L HSGK.out]; exact hcc.symm
   have hcb := planC_bd HPV.out
   rw [HC2.out] at hcb
   have HWA : Hid (IntKind.i64.wrap (c1 + GD) = c2) := by show _ = _; rw [hc2]; exact IntWalk.i64_in _ (by omega)
   have HTH : Hid (thB SG tv (p : Int) id qn = true) := by
    show _ = _
    have h9 : qn = GR.length := by rw [<- HSGN.out]; exact key_len HSGK.out
    rw [h9, thB_key HSGK.out _ _ _ _ (Nat.le_refl _)]
    exact hth
   have IL6 : Hid _ := Q6.out.l
   clear hpl hpv hpw hcc hss hth hc2 hcb HHE HNO HLN HIS SAM X6
   go_wp2_with fail
   go_loop [14, 15] (fun t14 t15 => ∃ i : Nat, i <= qn /\ t15 = .int .i64 i /\ t14 = .bool (thB SG tv (p : Int) id i)) (fun _ t => qn - (intOf t).toNat)
   case atStart => exact ⟨0, Nat.zero_le _, rfl, rfl⟩
   case round =>
    obtain ⟨i, hi, rfl, rfl⟩ := hrel
    by_cases hlt : i < qn
    · have hltI : (i : Int) < (qn : Int) := by omega
      obtain ⟨b, off, e, h1, h2, h3⟩ := Q6.out.r i (by rw [HSGN.out]; exact hlt)
      subst e
      have hr12 := HSGC.out _ (getD_mem (R := SG) (j := i) (by rw [HSGN.out]; exact hlt))
      have HST : Hid (thB SG tv (p : Int) id (i + 1) = (thB SG tv (p : Int) id i || mtR tv (p : Int) id (SG.getD i rt0))) := rfl
      generalize SG.getD i rt0 = r at *
      obtain ⟨rv, ra9, rids, rc9⟩ := r
      obtain ⟨rn, HRN⟩ : ∃ v, Hid (rids.length = v) := ⟨_, rfl⟩
      simp only at h1 h2 h3 hr12
      rw [HRN.out] at h2 hr12
      obtain ⟨tb, HTB⟩ : ∃ v, Hid (thB SG tv (p : Int) id i = v) := ⟨_, rfl⟩
      rw [HTB.out] at HST ⊢
      have HRM : Hid (mtR tv (p : Int) id ⟨rv, ra9, rids, rc9⟩ = (decide (rv = tv) && (decide ((p : Int) < (rn : Int)) && decide (rids.getD p 0 = id)))) := by show _ = _; rw [<- HRN.out]; rfl
      cases tb
      · rw [HRM.out, Bool.false_or] at HST
        by_cases hv : rv = tv
        · have hvb : (rv == tv) = true := by simp [hv]
          by_cases hpn : p < rn
          · have hpI : (p : Int) < (rn : Int) := by omega
            obtain ⟨b3, o3, e3, h4⟩ := h3 p (by rw [HRN.out]; exact hpn)
            subst e3
            generalize rids.getD p 0 = xx at *
            by_cases hx : xx = id
            · have hxb : (xx == id) = true := by simp [hx]
              have hs : thB SG tv (p : Int) id (i + 1) = true := by rw [HST.out, decide_eq_true hv, decide_eq_true hpI, decide_eq_true hx]; rfl
              clear hv hx
              go_wp2
              go_round
              case rel => exact ⟨i + 1, by omega, by first | rfl | go_num, by rw [hs]⟩
              case measure => simp [intOf]; omega
            · have hxb : (xx == id) = false := by simp [hx]
              have hs : thB SG tv (p : Int) id (i + 1) = false := by rw [HST.out, decide_eq_false hx]; simp
              clear hv hx
              go_wp2
              go_round
              case rel => exact ⟨i + 1, by omega, by first | rfl | go_num, by rw [hs]⟩
              case measure => simp [intOf]; omega
          · have hpI : ¬ ((p : Int) < (rn : Int)) := by omega
            have hs : thB SG tv (p : Int) id (i + 1) = false := by rw [HST.out, decide_eq_false hpI]; simp
            clear hv
            go_wp2
            go_round
            case rel => exact ⟨i + 1, by omega, by first | rfl | go_num, by rw [hs]⟩
            case measure => simp [intOf]; omega
        · have hvb : (rv == tv) = false := by simp [hv]
          have hs : thB SG tv (p : Int) id (i + 1) = false := by rw [HST.out, decide_eq_false hv]; rfl
          clear hv
          go_wp2
          go_round
          case rel => exact ⟨i + 1, by omega, by first | rfl | go_num, by rw [hs]⟩
          case measure => simp [intOf]; omega
      · have hs : thB SG tv (p : Int) id (i + 1) = true := by rw [HST.out, Bool.true_or]
        go_wp2
        go_round
        case rel => exact ⟨i + 1, by omega, by first | rfl | go_num, by rw [hs]⟩
        case measure => simp [intOf]; omega
    · have hltI : ¬ ((i : Int) < (qn : Int)) := by omega
      rw [show thB SG tv (p : Int) id i = true by rw [show i = qn by omega]; exact HTH.out]
      have hrn2 : R.length <= 500 := by have := HNR.out; omega
      have hln2 : L.length <= 500 := by have := HM.out; omega
      have hsn2 : SG.length <= 500 := by have := HSGN.out; omega
      have HRX : Hid (∀ r ∈ R, r.ids.length <= 12 /\ r.ids.length <= r.c) := fun r hr => ⟨by have := HRI.out r hr; omega, HRC.out r hr⟩
      have IPQ : Hid (∀ W, LP w W k kp #[.int .i64 n, .slice (some ⟨g, 0, none⟩) zl cg, .slice (some ⟨go, 0, none⟩) ko co, .slice (some ⟨gv, 0, none⟩) kv cv, .int .i64 fi] ra nr rc la m lc g go gv zs O V R L -> LQ W kq qa qn qc qk m qd SG L -> Calls Tryz.prog 10 #[.agg #[.int .i64 n, .slice (some ⟨g, 0, none⟩) zl cg, .slice (some ⟨go, 0, none⟩) ko co, .slice (some ⟨gv, 0, none⟩) kv cv, .int .i64 fi], .agg #[.slice qa qn qc, .slice qk m qd]] W fun e w' => e = .returned (.int .i64 0) /\ Below W.heap.size W w') := fun W h1 h2 => by
       have := IPG.out qa qk qc qd SG L W k kp h1 h2.r h2.l hsn2 HSGC.out hln2 HLW.out
       rw [HSGN.out, HGLN.out, HPV.out] at this
       exact this
      have ICQ : Hid (∀ W, LP w W k kp #[.int .i64 n, .slice (some ⟨g, 0, none⟩) zl cg, .slice (some ⟨go, 0, none⟩) ko co, .slice (some ⟨gv, 0, none⟩) kv cv, .int .i64 fi] ra nr rc la m lc g go gv zs O V R L -> LQ W kq qa qn qc qk m qd SG L -> Calls Tryz.prog 11 #[.agg #[.int .i64 n, .slice (some ⟨g, 0, none⟩) zl cg, .slice (some ⟨go, 0, none⟩) ko co, .slice (some ⟨gv, 0, none⟩) kv cv, .int .i64 fi], .agg #[.slice qa qn qc, .slice qk m qd]] W fun e w' => e = .returned (.int .i64 c2) /\ Below W.heap.size W w') := fun W h1 h2 => by
       have := ICG.out qa qk qc qd SG L W k kp h1 h2.r h2.l hsn2 HSGC.out hln2 HLW.out
       rw [HSGN.out, HGLN.out, HC2.out] at this
       exact this
      have ICP : Hid (∀ W, LP w W k kp #[.int .i64 n, .slice (some ⟨g, 0, none⟩) zl cg, .slice (some ⟨go, 0, none⟩) ko co, .slice (some ⟨gv, 0, none⟩) kv cv, .int .i64 fi] ra nr rc la m lc g go gv zs O V R L -> Calls Tryz.prog 11 #[.agg #[.int .i64 n, .slice (some ⟨g, 0, none⟩) zl cg, .slice (some ⟨go, 0, none⟩) ko co, .slice (some ⟨gv, 0, none⟩) kv cv, .int .i64 fi], .agg #[.slice ra nr rc, .slice la m lc]] W fun e w' => e = .returned (.int .i64 c1) /\ Below W.heap.size W w') := fun W h1 => by
       have := ICG.out ra la rc lc R L W k kp h1 h1.r h1.l hrn2 HRX.out hln2 HLW.out
       rw [HNR.out, HM.out, HC1.out] at this
       exact this
      have ISQ : Hid (∀ W, LP w W k kp #[.int .i64 n, .slice (some ⟨g, 0, none⟩) zl cg, .slice (some ⟨go, 0, none⟩) ko co, .slice (some ⟨gv, 0, none⟩) kv cv, .int .i64 fi] ra nr rc la m lc g go gv zs O V R L -> LQ W kq qa qn qc qk m qd SG L -> Calls Tryz.prog 13 #[.agg #[.int .i64 n, .slice (some ⟨g, 0, none⟩) zl cg, .slice (some ⟨go, 0, none⟩) ko co, .slice (some ⟨gv, 0, none⟩) kv cv, .int .i64 fi], .agg #[.slice qa qn qc, .slice qk m qd]] W fun e w' => ∃ sl, e = .returned sl /\ Below W.heap.size W w' /\ w'.ownsRow W.heap.size 2 1 sl jn (JX.map (Value.int .i64))) := fun W h1 h2 => by
       have := ISG.out qa qk qc qd SG L W k kp h1 h2.r h2.l hsn2 HSGC.out hln2 HLW.out
       rw [HSGN.out, HGLN.out, HJQ.out, HJN.out] at this
       exact this
      have ISP : Hid (∀ W, LP w W k kp #[.int .i64 n, .slice (some ⟨g, 0, none⟩) zl cg, .slice (some ⟨go, 0, none⟩) ko co, .slice (some ⟨gv, 0, none⟩) kv cv, .int .i64 fi] ra nr rc la m lc g go gv zs O V R L -> Calls Tryz.prog 13 #[.agg #[.int .i64 n, .slice (some ⟨g, 0, none⟩) zl cg, .slice (some ⟨go, 0, none⟩) ko co, .slice (some ⟨gv, 0, none⟩) kv cv, .int .i64 fi], .agg #[.slice ra nr rc, .slice la m lc]] W fun e w' => ∃ sl, e = .returned sl /\ Below W.heap.size W w' /\ w'.ownsRow W.heap.size 2 1 sl jn (JX.map (Value.int .i64))) := fun W h1 => by
       have := ISG.out ra la rc lc R L W k kp h1 h1.r h1.l hrn2 HRX.out hln2 HLW.out
       rw [HNR.out, HM.out, HJX.out, HJN.out] at this
       exact this
      have SIA : Hid (∀ (a1 a2 : Option Addr) (x1 x2 y : Nat) (X : List Int) W, IntsAt W a1 X -> IntsAt W a2 X -> X.length = y -> y <= 1000 -> Calls Tryz.prog 12 #[.slice a1 y x1, .slice a2 y x2] W fun e w' => e = .returned (.bool true) /\ Below W.heap.size W w') := fun a1 a2 x1 x2 y X W h1 h2 h3 h4 => by
       subst h3
       have := sameInts_any a1 a2 x1 x2 X X W h1 h2 (by omega)
       rw [show decide (X = X) = true from decide_eq_true rfl] at this
       exact this
      clear IPG ICG ISG HGLN HNR
      have kS := fun (W : World) (h1 : LP w W k kp #[.int .i64 n, .slice (some ⟨g, 0, none⟩) zl cg, .slice (some ⟨go, 0, none⟩) ko co, .slice (some ⟨gv, 0, none⟩) kv cv, .int .i64 fi] ra nr rc la m lc g go gv zs O V R L) (h2 : LQ W kq qa qn qc qk m qd SG L) => And.intro (cells5z h1.b1) (And.intro (cells2 h1.b2) (cells2 h2.b))
      have hkS : Hid _ := kS
      clear kS
      go_wp2_with fail
      clear q0 q1
      have hD : Below w6.heap.size w6 w6.drew := (Below.refl _ _).drew
      refine wp_region_held_drew (S := (fun W => (W.cell? ⟨k, 0, none⟩ = some (.int .i64 n) /\ W.cell? ⟨k, 1, none⟩ = some (.slice (some ⟨g, 0, none⟩) zl cg) /\ W.cell? ⟨k, 2, none⟩ = some (.slice (some ⟨go, 0, none⟩) ko co) /\ W.cell? ⟨k, 3, none⟩ = some (.slice (some ⟨gv, 0, none⟩) kv cv) /\ W.cell? ⟨k, 4, none⟩ = some (.int .i64 fi)) /\ (W.cell? ⟨kp, 0, none⟩ = some (.slice ra nr rc) /\ W.cell? ⟨kp, 1, none⟩ = some (.slice la m lc)) /\ W.cell? ⟨kq, 0, none⟩ = some (.slice qa qn qc) /\ W.cell? ⟨kq, 1, none⟩ = some (.slice qk m qd))) (by kernel_rfl) ?_ (fun hHeld => ?_)
      · exact hkS.out _ (K6.out.below hD) (Q6.out.below hD)
      have K7 : Hid _ := K6.out.below hD
      have Q7 : Hid _ := Q6.out.below hD
      clear hD K6 Q6 IL6
      generalize w6.drew = w7 at *
      refine tkH 0 hHeld ?_
      refine tkH 1 hHeld ?_
      refine tkH 2 hHeld ?_
      refine tkH 3 hHeld ?_
      refine wpAnyH_ready (rs := [4]) (by kernel_rfl) (by simp) ?_
      refine AllReadyH.cons rfl (fun K hK => ?_) AllReadyH.nil
      go_simp
      refine (IPQ.out _ K7.out Q7.out).mono ?_
      rintro e w8 ⟨rfl, hb⟩
      have K8 : Hid _ := K7.out.below hb
      have Q8 : Hid _ := Q7.out.below hb
      clear hb K7 Q7
      (try go_wp2_with fail)
      refine hK.out _ _ ?_ (fun hHeld => ?_)
      · exact hkS.out _ K8.out Q8.out
      clear hK K
      (try simp only [Act.put, List.setIfInBounds_toArray, List.set_cons_zero, List.set_cons_succ])
      refine tkH 5 hHeld ?_
      refine tkH 6 hHeld ?_
      refine tkH 7 hHeld ?_
      refine tkH 8 hHeld ?_
      refine tkH 9 hHeld ?_
      refine tkH 11 hHeld ?_
      refine tkH 12 hHeld ?_
      refine tkH 14 hHeld ?_
      refine wpAnyH_ready (rs := [10]) (by kernel_rfl) (by simp) ?_
      refine AllReadyH.cons rfl (fun K hK => ?_) AllReadyH.nil
      go_simp
      refine (ICQ.out _ K8.out Q8.out).mono ?_
      rintro e w9 ⟨rfl, hb⟩
      have K9 : Hid _ := K8.out.below hb
      have Q9 : Hid _ := Q8.out.below hb
      clear hb K8 Q8
      (try go_wp2_with fail)
      refine hK.out _ _ ?_ (fun hHeld => ?_)
      · exact hkS.out _ K9.out Q9.out
      clear hK K
      (try simp only [Act.put, List.setIfInBounds_toArray, List.set_cons_zero, List.set_cons_succ])
      refine wpAnyH_ready (rs := [13]) (by kernel_rfl) (by simp) ?_
      refine AllReadyH.cons rfl (fun K hK => ?_) AllReadyH.nil
      go_simp
      refine (ICP.out _ K9.out).mono ?_
      rintro e w10 ⟨rfl, hb⟩
      have K10 : Hid _ := K9.out.below hb
      have Q10 : Hid _ := Q9.out.below hb
      clear hb K9 Q9
      (try go_wp2_with fail)
      refine hK.out _ _ ?_ (fun hHeld => ?_)
      · exact hkS.out _ K10.out Q10.out
      clear hK K
      (try simp only [Act.put, List.setIfInBounds_toArray, List.set_cons_zero, List.set_cons_succ])
      have hwa := HWA.out
      have hce : (c2 == c2) = true := by simp
      refine tkH 15 hHeld ?_
      refine tkH 16 hHeld ?_
      refine tkH 17 hHeld ?_
      refine tkH 18 hHeld ?_
      refine tkH 19 hHeld ?_
      refine tkH 20 hHeld ?_
      refine tkH 21 hHeld ?_
      refine tkH 22 hHeld ?_
      clear hwa hce
      refine wpAnyH_ready (rs := [23]) (by kernel_rfl) (by simp) ?_
      refine AllReadyH.cons rfl (fun K hK => ?_) AllReadyH.nil
      go_simp
      refine (SIA.out qk la qd lc m L _ Q10.out.l K10.out.l (by have := HM.out; omega) (by omega)).mono ?_
      rintro e w11 ⟨rfl, hb⟩
      have K11 : Hid _ := K10.out.below hb
      have Q11 : Hid _ := Q10.out.below hb
      clear hb K10 Q10
      (try go_wp2_with fail)
      refine hK.out _ _ ?_ (fun hHeld => ?_)
      · exact hkS.out _ K11.out Q11.out
      clear hK K
      (try simp only [Act.put, List.setIfInBounds_toArray, List.set_cons_zero, List.set_cons_succ])
      refine tkH 24 hHeld ?_
      refine tkH 25 hHeld ?_
      refine tkH 26 hHeld ?_
      refine tkH 27 hHeld ?_
      refine tkH 29 hHeld ?_
      refine tkH 30 hHeld ?_
      refine wpAnyH_ready (rs := [28]) (by kernel_rfl) (by simp) ?_
      refine AllReadyH.cons rfl (fun K hK => ?_) AllReadyH.nil
      go_simp
      refine (ISQ.out _ K11.out Q11.out).mono ?_
      rintro e w12 ⟨sl, rfl, hb, ho⟩
      obtain ⟨ja, jc, e⟩ := own_any ho
      subst e
      have K12 : Hid _ := K11.out.below hb
      have Q12 : Hid _ := Q11.out.below hb
      have J12 : Hid (IntsAt w12 ja JX) := ints_ownL ho
      clear hb K11 Q11 ho
      (try go_wp2_with fail)
      refine hK.out _ _ ?_ (fun hHeld => ?_)
      · exact hkS.out _ K12.out Q12.out
      clear hK K
      (try simp only [Act.put, List.setIfInBounds_toArray, List.set_cons_zero, List.set_cons_succ])
      refine wpAnyH_ready (rs := [31]) (by kernel_rfl) (by simp) ?_
      refine AllReadyH.cons rfl (fun K hK => ?_) AllReadyH.nil
      go_simp
      refine (ISP.out _ K12.out).mono ?_
      rintro e w13 ⟨sl, rfl, hb, ho⟩
      obtain ⟨ta, tc, e⟩ := own_any ho
      subst e
      have K13 : Hid _ := K12.out.below hb
      have Q13 : Hid _ := Q12.out.below hb
      have J13 : Hid (IntsAt w13 ja JX) := J12.out.below hb
      have T13 : Hid (IntsAt w13 ta JX) := ints_ownL ho
      clear J12
      clear hb K12 Q12 ho
      (try go_wp2_with fail)
      refine hK.out _ _ ?_ (fun hHeld => ?_)
      · exact hkS.out _ K13.out Q13.out
      clear hK K
      (try simp only [Act.put, List.setIfInBounds_toArray, List.set_cons_zero, List.set_cons_succ])
      refine wpAnyH_ready (rs := [32]) (by kernel_rfl) (by simp) ?_
      refine AllReadyH.cons rfl (fun K hK => ?_) AllReadyH.nil
      go_simp
      refine (SIA.out ja ta jc tc jn JX _ J13.out T13.out HJN.out (by omega)).mono ?_
      rintro e w14 ⟨rfl, hb⟩
      have K14 : Hid _ := K13.out.below hb
      have Q14 : Hid _ := Q13.out.below hb
      clear hb K13 Q13
      (try go_wp2_with fail)
      refine hK.out _ _ ?_ (fun hHeld => ?_)
      · exact hkS.out _ K14.out Q14.out
      clear hK K
      (try simp only [Act.put, List.setIfInBounds_toArray, List.set_cons_zero, List.set_cons_succ])
      refine tkH 33 hHeld ?_
      refine tkH 34 hHeld ?_
      refine wpAnyH_done (by kernel_rfl) ?_ _
      clear hHeld
      go_wp2
      go_ret
      exact ⟨by first | rfl | simp, K14.out.b⟩
theorem lawFnRelocated (a : Option Addr) (c : Nat) (bs : List Int) (w : World) (hA : CodeAt w a bs) (hl : bs.length <= 9223372036854775807) :
 Calls Tryz.prog 3 #[.slice a bs.length c] w fun e w' => e = .returned (.bool true) /\ Below w.heap.size w w' := by
 by_cases h : bs.length <= 1048576
 · exact lawFnRelocated_small a c bs w hA h
 · exact lawFnRelocated_big a c bs.length w hl (by omega)
end Go.Proofs.YtmehgihjpefpmaaGreat
