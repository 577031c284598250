import Derived.Test.YtonopidjkcmlmaaPack1
import Derived.Test.YtonopidjkcmlmaaPack3
import Derived.Test.YtonopidjkcmlmaaPack4
import Derived.Test.YtonopidjkcmlmaaPack6
import Derived.Test.YtonopidjkcmlmaaPack19
import Derived.Test.YtonopidjkcmlmaaDrawPlanCode
import Derived.Test.YtonopidjkcmlmaaPack31
import Derived.Test.YtonopidjkcmlmaaPack32
import Derived.Test.YtonopidjkcmlmaaPack33
import Derived.BigQuiet
import Derived.Deep.RegionHeld3
namespace Go.Proofs.Ytonopidjkcmlmaa
open Go.RowKit

set_option maxHeartbeats 400000 in
theorem lawFnPlanHolds_big (a : Option Addr) (c len : Nat) (w : World) (hl : len ≤ 9223372036854775807) (h : 1048576 < len) :
    Calls Try.prog 3 #[.slice a len c] w fun e w' => e = .returned (.bool true) ∧ Below w.heap.size w w' := by
  have hd : decide (1048576 < len) = true := decide_eq_true h
  go_enter Try.func3, Try.ntmps3
  go_wp2_with (go_at_call 7; refine (big_any a c len w hl).mono ?_; rintro e w1 ⟨rfl, hw1⟩; subst w1; rw [hd])
  go_ret
  exact ⟨rfl, Below.refl _ _⟩

set_option maxRecDepth 10000 in
set_option maxHeartbeats 4000000 in
theorem lawFnPlanHolds (a : Option Addr) (ca : Nat) (bs : List Int) (w : World) (hA : CodeAt w a bs) (hl : bs.length ≤ 1048576) :
    Calls Try.prog 3 #[.slice a bs.length ca] w fun e w' => e = .returned (.bool true) ∧ Below w.heap.size w w' := by
  have HA : Hid (CodeAt w a bs) := hA
  clear hA
  have hd : decide (1048576 < bs.length) = false := decide_eq_false (by omega)
  go_enter Try.func3, Try.ntmps3
  go_wp2_with fail
  refine (big_any a ca bs.length w (by omega)).mono ?_
  rintro e w1 ⟨rfl, hw1⟩
  subst w1
  rw [hd]
  clear hd
  go_wp2_with fail
  refine (drawPlanCode_any a ca bs w HA.out hl).mono ?_
  rintro e w1 ⟨n, g, zl, cg, go, ko, co, gv, kv, cv, zs, O, V, fi, rs, ls, R, L, rfl, ⟨hz, hO, hV, hko1, hko5, hkv1, hkv3⟩, ⟨hR10, hR9, hL14, hLw⟩, hb, iz, io, iv, -, hpo⟩
  obtain ⟨N, HLb⟩ : ∃ v, Hid (bs.length = v) := ⟨_, rfl⟩
  rw [HLb.out] at hl ⊢
  obtain ⟨ra, rc, e⟩ := own_any hpo.r
  subst e
  obtain ⟨la, lc, e⟩ := own_any hpo.l
  subst e
  have HZ : Hid (zs.length = zl) := hz
  have HO : Hid (O.length = ko * 6) := hO
  have HV : Hid (V.length = kv * 5) := hV
  have HRC : Hid (∀ r ∈ R, r.ids.length ≤ r.c) := fun r hr => (hpo.ints r hr).2
  have HRI : Hid (∀ r ∈ R, r.ids.length ≤ 9) := hR9
  have HAL : Hid ((allTo R R.length).length ≤ 1048576) := Nat.le_trans (allTo_bd hR9 _ (Nat.le_refl _)) (by omega)
  have HLW : Hid (caseB n zs O V ko kv fi = true → ∀ x ∈ L, (Lit.int .i64 x).wf = true) := fun hc x hx => by
    have := hLw hc x hx
    show (decide (IntKind.i64.min ≤ x) && decide (x ≤ IntKind.i64.max)) = true
    have h1 : IntKind.i64.min = -9223372036854775808 := by decide
    have h2 : IntKind.i64.max = 9223372036854775807 := by decide
    rw [h1, h2]
    simp
    omega
  have RA : RoutesAt w1 ra R := hpo.at
  have LA : IntsAt w1 la L := by
    obtain ⟨a', c', e, hi⟩ := hpo.lv
    have e2 : la = a' := by injection e
    rw [e2]; exact hi
  obtain ⟨nr, HNR⟩ : ∃ v, Hid (R.length = v) := ⟨_, rfl⟩
  obtain ⟨m, HM⟩ : ∃ v, Hid (L.length = v) := ⟨_, rfl⟩
  rw [HNR.out, HM.out]
  rw [HNR.out] at hR10
  rw [HM.out] at hL14
  have K1 : Hid (LP w ((w1.alloc (.cells #[.int .i64 n, .slice (some ⟨g, 0, none⟩) zl cg, .slice (some ⟨go, 0, none⟩) ko co, .slice (some ⟨gv, 0, none⟩) kv cv, .int .i64 fi] 30)).alloc (.cells #[.slice ra nr rc, .slice la m lc] 33)) w1.heap.size (w1.heap.size + 1) #[.int .i64 n, .slice (some ⟨g, 0, none⟩) zl cg, .slice (some ⟨go, 0, none⟩) ko co, .slice (some ⟨gv, 0, none⟩) kv cv, .int .i64 fi] ra nr rc la m lc g go gv zs O V R L) := by
    have ha : Below w1.heap.size w1 ((w1.alloc (.cells #[.int .i64 n, .slice (some ⟨g, 0, none⟩) zl cg, .slice (some ⟨go, 0, none⟩) ko co, .slice (some ⟨gv, 0, none⟩) kv cv, .int .i64 fi] 30)).alloc (.cells #[.slice ra nr rc, .slice la m lc] 33)) := ((Below.refl _ _).alloc (Nat.le_refl _) _).alloc (by simp) _
    exact ⟨hb.trans (ha.mono hb.size), heap_alloc2_old _ _ _, heap_alloc2_new _ _ _, iz.below ha, io.below ha, iv.below ha, RA.below ha, LA.below ha⟩
  clear hz hO hV hb iz io iv hpo hR9 hLw RA LA
  obtain ⟨pv, HPV⟩ : ∃ v, Hid (planV n zs O V ko kv fi R L = v) := ⟨_, rfl⟩
  obtain ⟨cb, HCB⟩ : ∃ v, Hid (caseB n zs O V ko kv fi = v) := ⟨_, rfl⟩
  obtain ⟨X, HX⟩ : ∃ v, Hid (servV n zs O V ko kv fi R L = v) := ⟨_, rfl⟩
  have hX12 : X.length ≤ 12 := by rw [← HX.out]; exact servV_len ..
  have IPC : Hid (∀ W k kp, LP w W k kp #[.int .i64 n, .slice (some ⟨g, 0, none⟩) zl cg, .slice (some ⟨go, 0, none⟩) ko co, .slice (some ⟨gv, 0, none⟩) kv cv, .int .i64 fi] ra nr rc la m lc g go gv zs O V R L → Calls Try.prog 9 #[.agg #[.int .i64 n, .slice (some ⟨g, 0, none⟩) zl cg, .slice (some ⟨go, 0, none⟩) ko co, .slice (some ⟨gv, 0, none⟩) kv cv, .int .i64 fi], .agg #[.slice ra nr rc, .slice la m lc]] W fun e w' => e = .returned (.int .i64 pv) ∧ Below W.heap.size W w') := fun W k kp h => by
    have := implPlan_anyC n fi _ _ _ ra la cg ko co kv cv rc lc zs O V L R W h.iz h.io h.iv h.r h.l HO.out HV.out (by omega) (by omega) (by rw [HNR.out]; omega) (fun r hr => by have := HRI.out r hr; omega) HRC.out (by rw [HM.out]; omega) HAL.out HLW.out
    rw [HZ.out, HNR.out, HM.out, HPV.out] at this
    exact this
  have SPC : Hid (∀ W k kp, LP w W k kp #[.int .i64 n, .slice (some ⟨g, 0, none⟩) zl cg, .slice (some ⟨go, 0, none⟩) ko co, .slice (some ⟨gv, 0, none⟩) kv cv, .int .i64 fi] ra nr rc la m lc g go gv zs O V R L → Calls Try.prog 11 #[.agg #[.int .i64 n, .slice (some ⟨g, 0, none⟩) zl cg, .slice (some ⟨go, 0, none⟩) ko co, .slice (some ⟨gv, 0, none⟩) kv cv, .int .i64 fi], .agg #[.slice ra nr rc, .slice la m lc]] W fun e w' => e = .returned (.int .i64 pv) ∧ Below W.heap.size W w') := fun W k kp h => by
    have := specPlan_any n fi _ _ _ ra la cg ko co kv cv rc lc zs O V L R W h.iz h.io h.iv h.r h.l HO.out HV.out (by omega) (by omega) (by rw [HNR.out]; omega) (fun r hr => by have := HRI.out r hr; omega) HRC.out (by rw [HM.out]; omega) HAL.out
    rw [HZ.out, HNR.out, HM.out, HPV.out] at this
    exact this
  have ISE : Hid (∀ W k kp, LP w W k kp #[.int .i64 n, .slice (some ⟨g, 0, none⟩) zl cg, .slice (some ⟨go, 0, none⟩) ko co, .slice (some ⟨gv, 0, none⟩) kv cv, .int .i64 fi] ra nr rc la m lc g go gv zs O V R L → Calls Try.prog 10 #[.agg #[.int .i64 n, .slice (some ⟨g, 0, none⟩) zl cg, .slice (some ⟨go, 0, none⟩) ko co, .slice (some ⟨gv, 0, none⟩) kv cv, .int .i64 fi], .agg #[.slice ra nr rc, .slice la m lc]] W fun e w' => ∃ sl, e = .returned sl ∧ Below W.heap.size W w' ∧ w'.ownsRow W.heap.size 2 1 sl X.length (X.map (Value.int .i64))) := fun W k kp h => by
    have := implServed_any n fi (some ⟨g, 0, none⟩) (some ⟨go, 0, none⟩) (some ⟨gv, 0, none⟩) ra la cg ko co kv cv rc lc zs O V L R W h.r (by rw [HNR.out]; omega) pv HPV.out (fun W' hb' => by
      have := IPC.out W' k kp (h.below hb')
      rw [HZ.out, HNR.out, HM.out]
      exact this)
    rw [HZ.out, HNR.out, HM.out, HX.out] at this
    exact this
  have SSE : Hid (∀ W k kp, LP w W k kp #[.int .i64 n, .slice (some ⟨g, 0, none⟩) zl cg, .slice (some ⟨go, 0, none⟩) ko co, .slice (some ⟨gv, 0, none⟩) kv cv, .int .i64 fi] ra nr rc la m lc g go gv zs O V R L → Calls Try.prog 13 #[.agg #[.int .i64 n, .slice (some ⟨g, 0, none⟩) zl cg, .slice (some ⟨go, 0, none⟩) ko co, .slice (some ⟨gv, 0, none⟩) kv cv, .int .i64 fi], .agg #[.slice ra nr rc, .slice la m lc]] W fun e w' => ∃ sl, e = .returned sl ∧ Below W.heap.size W w' ∧ w'.ownsRow W.heap.size 2 1 sl X.length (X.map (Value.int .i64))) := fun W k kp h => by
    have := specServed_opt n fi (some ⟨g, 0, none⟩) (some ⟨go, 0, none⟩) (some ⟨gv, 0, none⟩) ra la cg ko co kv cv rc lc zs O V L R W h.r (by rw [HNR.out]; omega) HRC.out pv HPV.out (fun W' hb' => by
      have := SPC.out W' k kp (h.below hb')
      rw [HZ.out, HNR.out, HM.out]
      exact this)
    rw [HZ.out, HNR.out, HM.out, HX.out] at this
    exact this
  obtain ⟨d0, d1, d2, d3, d4⟩ := cells5z K1.out.b1
  obtain ⟨p0, p1⟩ := cells2 K1.out.b2
  go_wp2_with fail
  generalize (w1.alloc (.cells #[.int .i64 n, .slice (some ⟨g, 0, none⟩) zl cg, .slice (some ⟨go, 0, none⟩) ko co, .slice (some ⟨gv, 0, none⟩) kv cv, .int .i64 fi] 30)).alloc (.cells #[.slice ra nr rc, .slice la m lc] 33) = W1 at *
  obtain ⟨k, HK⟩ : ∃ v, Hid (w1.heap.size = v) := ⟨_, rfl⟩
  obtain ⟨kp, HKP⟩ : ∃ v, Hid (w1.heap.size + 1 = v) := ⟨_, rfl⟩
  rw [HKP.out] at K1 p0 p1 ⊢
  rw [HK.out] at K1 d0 d1 d2 d3 d4 ⊢
  refine (IPC.out _ _ _ K1.out).mono ?_
  rintro e w2 ⟨rfl, hb⟩
  have K2 : Hid (LP w w2 k kp #[.int .i64 n, .slice (some ⟨g, 0, none⟩) zl cg, .slice (some ⟨go, 0, none⟩) ko co, .slice (some ⟨gv, 0, none⟩) kv cv, .int .i64 fi] ra nr rc la m lc g go gv zs O V R L) := K1.out.below hb
  clear hb K1 d0 d1 d2 d3 d4 p0 p1
  obtain ⟨d0, d1, d2, d3, d4⟩ := cells5z K2.out.b1
  obtain ⟨p0, p1⟩ := cells2 K2.out.b2
  have hvv : (pv != pv) = false := by simp
  go_wp2_with fail
  refine (ISE.out _ _ _ K2.out).mono ?_
  rintro e w3 ⟨sl, rfl, hb, ho⟩
  obtain ⟨sa, sc, e⟩ := own_any ho
  subst e
  obtain ⟨sn, HSN⟩ : ∃ v, Hid (X.length = v) := ⟨_, rfl⟩
  have J3 : Hid (IntsAt w3 sa X) := by
    obtain ⟨a', c', e, _, hi⟩ := owns_at1 ho
    have e2 : sa = a' := by injection e
    rw [e2]; exact hi
  rw [HSN.out] at hX12 ⊢
  have K3 : Hid (LP w w3 k kp #[.int .i64 n, .slice (some ⟨g, 0, none⟩) zl cg, .slice (some ⟨go, 0, none⟩) ko co, .slice (some ⟨gv, 0, none⟩) kv cv, .int .i64 fi] ra nr rc la m lc g go gv zs O V R L) := K2.out.below hb
  clear hb ho K2 d0 d1 d2 d3 d4 p0 p1 ISE
  obtain ⟨d0, d1, d2, d3, d4⟩ := cells5z K3.out.b1
  obtain ⟨p0, p1⟩ := cells2 K3.out.b2
  go_wp2_with fail
  refine (SPC.out _ _ _ K3.out).mono ?_
  rintro e w4 ⟨rfl, hb⟩
  have K4 : Hid (LP w w4 k kp #[.int .i64 n, .slice (some ⟨g, 0, none⟩) zl cg, .slice (some ⟨go, 0, none⟩) ko co, .slice (some ⟨gv, 0, none⟩) kv cv, .int .i64 fi] ra nr rc la m lc g go gv zs O V R L) := K3.out.below hb
  have J4 : Hid (IntsAt w4 sa X) := J3.out.below hb
  clear hb K3 J3 d0 d1 d2 d3 d4 p0 p1
  obtain ⟨d0, d1, d2, d3, d4⟩ := cells5z K4.out.b1
  obtain ⟨p0, p1⟩ := cells2 K4.out.b2
  go_wp2_with fail
  refine (SSE.out _ _ _ K4.out).mono ?_
  rintro e w5 ⟨sl, rfl, hb, ho⟩
  obtain ⟨ta, tc, e⟩ := own_any ho
  subst e
  have T5 : Hid (IntsAt w5 ta X) := by
    obtain ⟨a', c', e, _, hi⟩ := owns_at1 ho
    have e2 : ta = a' := by injection e
    rw [e2]; exact hi
  rw [HSN.out]
  have K5 : Hid (LP w w5 k kp #[.int .i64 n, .slice (some ⟨g, 0, none⟩) zl cg, .slice (some ⟨go, 0, none⟩) ko co, .slice (some ⟨gv, 0, none⟩) kv cv, .int .i64 fi] ra nr rc la m lc g go gv zs O V R L) := K4.out.below hb
  have J5 : Hid (IntsAt w5 sa X) := J4.out.below hb
  clear hb ho K4 J4 d0 d1 d2 d3 d4 p0 p1 SSE SPC
  have SAM := sameInts_any sa ta sc tc X X w5 J5.out T5.out (by rw [HSN.out]; omega)
  rw [HSN.out, decide_eq_true (show X = X from rfl)] at SAM
  go_wp2_with fail
  refine SAM.mono ?_
  rintro e w6 ⟨rfl, hb⟩
  have K6 : Hid (LP w w6 k kp #[.int .i64 n, .slice (some ⟨g, 0, none⟩) zl cg, .slice (some ⟨go, 0, none⟩) ko co, .slice (some ⟨gv, 0, none⟩) kv cv, .int .i64 fi] ra nr rc la m lc g go gv zs O V R L) := K5.out.below hb
  have J6 : Hid (IntsAt w6 sa X) := J5.out.below hb
  clear hb K5 J5 T5 SAM
  obtain ⟨d0, d1, d2, d3, d4⟩ := cells5z K6.out.b1
  obtain ⟨p0, p1⟩ := cells2 K6.out.b2
  go_wp2_with fail
  obtain ⟨KE, HKE⟩ : ∃ b, Hid ((if cb = true then ko else 0) = b) := ⟨_, rfl⟩
  obtain ⟨XE, HXE⟩ : ∃ b, Hid ((if cb = true then idsL O ko else []) = b) := ⟨_, rfl⟩
  have IEM := implEmpty_any n fi _ _ _ cg ko co kv cv zs O V w6 K6.out.iz K6.out.io K6.out.iv HO.out HV.out (by omega) (by omega) cb KE XE HCB.out HKE.out HXE.out
  rw [HZ.out] at IEM
  refine IEM.mono ?_
  rintro e w7 ⟨sl, rfl, hb, ho⟩
  obtain ⟨ea, ec, e⟩ := own_any ho
  subst e
  have IE7 : IntsAt w7 ea XE := by
    obtain ⟨a', c', e, _, hi⟩ := owns_at1 ho
    have e2 : ea = a' := by injection e
    rw [e2]; exact hi
  have hA : Below w7.heap.size w7 (w7.alloc (.cells #[.slice none 0 0, .slice ea KE ec] 33)) := (Below.refl _ _).alloc (Nat.le_refl _) _
  have K8 : Hid (LP w (w7.alloc (.cells #[.slice none 0 0, .slice ea KE ec] 33)) k kp #[.int .i64 n, .slice (some ⟨g, 0, none⟩) zl cg, .slice (some ⟨go, 0, none⟩) ko co, .slice (some ⟨gv, 0, none⟩) kv cv, .int .i64 fi] ra nr rc la m lc g go gv zs O V R L) := (K6.out.below hb).below hA
  have J8 : Hid (IntsAt (w7.alloc (.cells #[.slice none 0 0, .slice ea KE ec] 33)) sa X) := (J6.out.below hb).below hA
  have E8 : Hid ((w7.alloc (.cells #[.slice none 0 0, .slice ea KE ec] 33)).heap[w7.heap.size]? = some (.cells #[.slice none 0 0, .slice ea KE ec] 33 (0, 0))) := heap_alloc_new _ _
  have I8 : Hid (IntsAt (w7.alloc (.cells #[.slice none 0 0, .slice ea KE ec] 33)) ea XE) := IE7.below hA
  clear hb ho K6 J6 d0 d1 d2 d3 d4 p0 p1 IEM IE7 hA
  obtain ⟨d0, d1, d2, d3, d4⟩ := cells5z K8.out.b1
  have SCK := specCase_any n fi _ _ _ cg ko co kv cv zs O V _ K8.out.iz K8.out.io K8.out.iv HO.out HV.out (by omega) (by omega)
  rw [HZ.out, HCB.out] at SCK
  go_wp2_with fail
  generalize w7.alloc (.cells #[.slice none 0 0, .slice ea KE ec] 33) = W8 at *
  obtain ⟨ke, HKK⟩ : ∃ v, Hid (w7.heap.size = v) := ⟨_, rfl⟩
  rw [HKK.out] at E8 ⊢
  refine SCK.mono ?_
  rintro e w9 ⟨rfl, hb⟩
  have K9 : Hid (LP w w9 k kp #[.int .i64 n, .slice (some ⟨g, 0, none⟩) zl cg, .slice (some ⟨go, 0, none⟩) ko co, .slice (some ⟨gv, 0, none⟩) kv cv, .int .i64 fi] ra nr rc la m lc g go gv zs O V R L) := K8.out.below hb
  have J9 : Hid (IntsAt w9 sa X) := J8.out.below hb
  have E9 : Hid (w9.heap[ke]? = some (.cells #[.slice none 0 0, .slice ea KE ec] 33 (0, 0))) := below_row hb (row_lt E8.out) E8.out
  have I9 : Hid (IntsAt w9 ea XE) := I8.out.below hb
  clear hb K8 J8 E8 I8 SCK d0 d1 d2 d3 d4
  obtain ⟨d0, d1, d2, d3, d4⟩ := cells5z K9.out.b1
  obtain ⟨e0, e1⟩ := cells2 E9.out
  cases cb
  · have hpv : pv ≠ 0 := fun e => by
      have := (planV_zero (HPV.out.trans e)).1
      rw [HCB.out] at this
      cases this
    have hpn : (pv != 0) = true := by simp [hpv]
    have HS0 : Hid (sn = 0) := by
      show _ = _
      rw [← HSN.out, ← HX.out]
      unfold servV
      rw [if_neg (by rw [HPV.out]; exact hpv)]
      rfl
    rw [HS0.out]
    clear hpv
    go_wp2
    go_ret
    exact ⟨by first | rfl | simp, K9.out.b⟩
  · have hke : ko = KE := by rw [← HKE.out]; rfl
    have hxe : idsL O ko = XE := by rw [← HXE.out]; rfl
    subst hke hxe
    have hwi : ∀ x ∈ idsL O ko, (Lit.int .i64 x).wf = true := fun x hx => by
      have := ids_range HCB.out x hx
      show (decide (IntKind.i64.min ≤ x) && decide (x ≤ IntKind.i64.max)) = true
      have h1 : IntKind.i64.min = -9223372036854775808 := by decide
      have h2 : IntKind.i64.max = 9223372036854775807 := by decide
      rw [h1, h2]
      simp
      omega
    have IPE := implPlan_anyC n fi _ _ _ none ea cg ko co kv cv 0 ec zs O V (idsL O ko) [] w9 K9.out.iz K9.out.io K9.out.iv (fun j hj => by simp at hj) I9.out HO.out HV.out (by omega) (by omega) (by simp) (fun r hr => by cases hr) (fun r hr => by cases hr) (by rw [idsL_length]; omega) (by simp [allTo]) (fun _ => hwi)
    rw [HZ.out, empty_holds HCB.out, idsL_length] at IPE
    simp only [List.length_nil] at IPE
    clear hwi
    go_wp2_with fail
    refine IPE.mono ?_
    rintro e w10 ⟨rfl, hb⟩
    have K10 : Hid (LP w w10 k kp #[.int .i64 n, .slice (some ⟨g, 0, none⟩) zl cg, .slice (some ⟨go, 0, none⟩) ko co, .slice (some ⟨gv, 0, none⟩) kv cv, .int .i64 fi] ra nr rc la m lc g go gv zs O V R L) := K9.out.below hb
    have J10 : Hid (IntsAt w10 sa X) := J9.out.below hb
    have E10 : Hid (w10.heap[ke]? = some (.cells #[.slice none 0 0, .slice ea ko ec] 33 (0, 0))) := below_row hb (row_lt E9.out) E9.out
    clear hb K9 J9 E9 I9 IPE d0 d1 d2 d3 d4 e0 e1
    obtain ⟨d0, d1, d2, d3, d4⟩ := cells5z K10.out.b1
    obtain ⟨e0, e1⟩ := cells2 E10.out
    obtain ⟨p0, p1⟩ := cells2 K10.out.b2
    by_cases hpv : pv = 0
    · subst hpv
      have HAL2 : Hid (∀ id ∈ idsL O ko, manyTo R id R.length + (if id ∈ L then 1 else 0) = 1 ∧ (id ∈ allTo R R.length ↔ id ∉ L)) := holds_all HPV.out
      have HXM : Hid (∀ id ∈ idsL O ko, (id ∈ X ↔ id ∉ L)) := fun id hid => by
        rw [← HX.out]
        unfold servV
        rw [if_pos HPV.out, srtS_mem]
        exact (HAL2.out id hid).2
      have HCN : Hid (sn + m = ko) := by
        show _ = _
        rw [← HSN.out, ← HX.out, ← HM.out]
        unfold servV
        rw [if_pos HPV.out, srtS_len]
        exact (planV_zero HPV.out).2.2.2.2
      have HRT : Hid (RtsOk n zs O V ko kv R R.length) := (planV_zero HPV.out).2.1
      clear IPC hvv
      go_wp2_with fail
      clear d0 d1 d2 d3 d4 e0 e1 p0 p1
      go_loopw [9] (fun t wr => ∃ i : Nat, i ≤ ko ∧ t = .int .i64 i ∧ LP w wr k kp #[.int .i64 n, .slice (some ⟨g, 0, none⟩) zl cg, .slice (some ⟨go, 0, none⟩) ko co, .slice (some ⟨gv, 0, none⟩) kv cv, .int .i64 fi] ra nr rc la m lc g go gv zs O V R L ∧ IntsAt wr sa X) (fun t _ => ko - (intOf t).toNat)
      case atStart => exact ⟨0, Nat.zero_le _, rfl, K10.out, J10.out⟩
      case round =>
        clear K10 J10 E10
        obtain ⟨i, hi, rfl, hk11, hj11⟩ := hrel
        have K11 : Hid (LP w wr k kp #[.int .i64 n, .slice (some ⟨g, 0, none⟩) zl cg, .slice (some ⟨go, 0, none⟩) ko co, .slice (some ⟨gv, 0, none⟩) kv cv, .int .i64 fi] ra nr rc la m lc g go gv zs O V R L) := hk11
        have J11 : Hid (IntsAt wr sa X) := hj11
        clear hk11 hj11
        obtain ⟨d0, d1, d2, d3, d4⟩ := cells5z K11.out.b1
        by_cases hlt : i < ko
        · have hiI : (i : Int) < (ko : Int) := by omega
          obtain ⟨_, _, e, c1⟩ := K11.out.io (i * 6) (by rw [HO.out]; omega)
          simp only [Option.some.injEq, Addr.mk.injEq, and_true] at e
          obtain ⟨rfl, rfl⟩ := e
          have hid : O.getD (i * 6) 0 ∈ idsL O ko := by
            unfold idsL
            exact List.mem_map.2 ⟨i, List.mem_range.2 hlt, rfl⟩
          have HA3 := HAL2.out _ hid
          have HX3 := HXM.out _ hid
          generalize O.getD (i * 6) 0 = id at *
          simp only [Nat.zero_add] at c1
          have HA4 : Hid (manyTo R id R.length + (if id ∈ L then 1 else 0) = 1 ∧ (id ∈ allTo R R.length ↔ id ∉ L)) := HA3
          have HX4 : Hid (id ∈ X ↔ id ∉ L) := HX3
          clear HA3 HX3 hid
          obtain ⟨p0, p1⟩ := cells2 K11.out.b2
          go_wp2_with fail
          clear c1 d0 d1 d2 d3 d4 p0 p1
          go_loopw [11, 12] (fun tm t wr2 => ∃ j : Nat, j ≤ nr ∧ t = .int .i64 j ∧ tm = .int .i64 (manyTo R id j) ∧ LP w wr2 k kp #[.int .i64 n, .slice (some ⟨g, 0, none⟩) zl cg, .slice (some ⟨go, 0, none⟩) ko co, .slice (some ⟨gv, 0, none⟩) kv cv, .int .i64 fi] ra nr rc la m lc g go gv zs O V R L ∧ IntsAt wr2 sa X) (fun _ t _ => nr - (intOf t).toNat)
          case atStart => exact ⟨0, Nat.zero_le _, rfl, rfl, K11.out, J11.out⟩
          case round =>
            clear K11 J11
            obtain ⟨j, hj, rfl, rfl, hk12, hj12⟩ := hrel
            have K12 : Hid (LP w wr k kp #[.int .i64 n, .slice (some ⟨g, 0, none⟩) zl cg, .slice (some ⟨go, 0, none⟩) ko co, .slice (some ⟨gv, 0, none⟩) kv cv, .int .i64 fi] ra nr rc la m lc g go gv zs O V R L) := hk12
            have J12 : Hid (IntsAt wr sa X) := hj12
            clear hk12 hj12
            obtain ⟨p0, p1⟩ := cells2 K12.out.b2
            have hbd := manyTo_bd R id j
            by_cases hlj : j < nr
            · have hjI : (j : Int) < (nr : Int) := by omega
              have hjR : j < R.length := by rw [HNR.out]; exact hlj
              obtain ⟨b, off, e, r1, r2, i3⟩ := K12.out.r j hjR
              have hmem : R.getD j rt0 ∈ R := by rw [List.getD_eq_getElem?_getD, List.getElem?_eq_getElem hjR]; simp
              have hx9 := HRI.out _ hmem
              have HNX : Hid (manyTo R id (j + 1) = manyTo R id j + (if id ∈ (R.getD j rt0).ids then 1 else 0)) := rfl
              subst e
              generalize R.getD j rt0 = x at *
              obtain ⟨xv, xa, xids, xc⟩ := x
              simp only at r1 r2 i3 hx9 HNX
              have HAS := lawsHas_any xa xids.length xc id xids wr i3 (Nat.le_refl _) (by omega)
              rw [hasTo_mem] at HAS
              obtain ⟨xl, HXL⟩ : ∃ v, Hid (xids.length = v) := ⟨_, rfl⟩
              rw [HXL.out] at HAS r2 hx9
              obtain ⟨y, HYY⟩ : ∃ v, Hid (manyTo R id j = v) := ⟨_, rfl⟩
              rw [HYY.out] at hbd HNX ⊢
              clear i3 hmem
              by_cases hin : id ∈ xids
              · rw [decide_eq_true hin] at HAS
                rw [if_pos hin] at HNX
                go_wp2_with fail
                refine HAS.mono ?_
                rintro e w' ⟨rfl, rfl⟩
                go_wp2
                go_roundw
                case rel => exact ⟨j + 1, by omega, by first | rfl | go_num, by rw [HNX.out], K12.out, J12.out⟩
                case measure => simp [intOf]; omega
              · rw [decide_eq_false hin] at HAS
                rw [if_neg hin, Int.add_zero] at HNX
                go_wp2_with fail
                refine HAS.mono ?_
                rintro e w' ⟨rfl, rfl⟩
                go_wp2
                go_roundw
                case rel => exact ⟨j + 1, by omega, by first | rfl | go_num, by rw [HNX.out], K12.out, J12.out⟩
                case measure => simp [intOf]; omega
            · have hjI : ¬ ((j : Int) < (nr : Int)) := by omega
              have hje : j = R.length := by rw [HNR.out]; omega
              have HQL2 : Hid (∀ W, IntsAt W la L → Calls Try.prog 16 #[.slice la m lc, .int .i64 id] W fun e w' => e = .returned (.bool (decide (id ∈ L))) ∧ w' = W) := fun W hW => by
                have := lawsHas_any la L.length lc id L W hW (Nat.le_refl _) (by rw [HM.out]; omega)
                rw [hasTo_mem, HM.out] at this
                exact this
              have HQX2 : Hid (∀ W, IntsAt W sa X → Calls Try.prog 16 #[.slice sa sn sc, .int .i64 id] W fun e w' => e = .returned (.bool (decide (id ∈ X))) ∧ w' = W) := fun W hW => by
                have := lawsHas_any sa X.length sc id X W hW (Nat.le_refl _) (by rw [HSN.out]; omega)
                rw [hasTo_mem, HSN.out] at this
                exact this
              have hA5 := HA4.out.1
              rw [← hje] at hA5
              by_cases hin : id ∈ L
              · have hx : id ∉ X := fun h => (HX4.out.1 h) hin
                rw [if_pos hin] at hA5
                have hy0 : manyTo R id j = 0 := by omega
                rw [hy0]
                rw [decide_eq_true hin] at HQL2
                rw [decide_eq_false hx] at HQX2
                clear hA5 hje hbd hy0
                go_wp2_with fail
                refine (HQL2.out wr K12.out.l).mono ?_
                rintro e w' ⟨rfl, rfl⟩
                have hgd : ((1 : Int) != 1) = false := by decide
                go_wp2_with fail
                go_quiet ((go_at_call 16; first | (with_reducible refine Calls.quiet_of_same (HQX2.out _ ?_); exact J12.out.below (below_drewN (Below.refl _ _) _)) | (with_reducible refine Calls.quiet_of_same (HQL2.out _ ?_); exact K12.out.l.below (below_drewN (Below.refl _ _) _))))
                go_wp2
                go_roundw
                case rel => exact ⟨i + 1, by omega, by first | rfl | go_num, K12.out.below (below_drewN (Below.refl _ _) _), J12.out.below (below_drewN (Below.refl _ _) _)⟩
                case measure => simp [intOf]; omega
              · have hx : id ∈ X := HX4.out.2 hin
                rw [if_neg hin] at hA5
                have hy0 : manyTo R id j = 1 := by omega
                rw [hy0]
                rw [decide_eq_false hin] at HQL2
                rw [decide_eq_true hx] at HQX2
                clear hA5 hje hbd hy0
                go_wp2_with fail
                refine (HQL2.out wr K12.out.l).mono ?_
                rintro e w' ⟨rfl, rfl⟩
                obtain ⟨p0, p1⟩ := cells2 K12.out.b2
                have hgd : ((1 : Int) != 1) = false := by decide
                go_wp2_with fail
                go_quiet ((go_at_call 16; first | (with_reducible refine Calls.quiet_of_same (HQX2.out _ ?_); exact J12.out.below (below_drewN (Below.refl _ _) _)) | (with_reducible refine Calls.quiet_of_same (HQL2.out _ ?_); exact K12.out.l.below (below_drewN (Below.refl _ _) _))))
                go_wp2
                go_roundw
                case rel => exact ⟨i + 1, by omega, by first | rfl | go_num, K12.out.below (below_drewN (Below.refl _ _) _), J12.out.below (below_drewN (Below.refl _ _) _)⟩
                case measure => simp [intOf]; omega
        · have hiI : ¬ ((i : Int) < (ko : Int)) := by omega
          go_wp2_with fail
          clear d0 d1 d2 d3 d4 hiI hlt hi HAL2 HXM
          go_loopw [13] (fun t wr3 => ∃ j : Nat, j ≤ nr ∧ t = .int .i64 j ∧ LP w wr3 k kp #[.int .i64 n, .slice (some ⟨g, 0, none⟩) zl cg, .slice (some ⟨go, 0, none⟩) ko co, .slice (some ⟨gv, 0, none⟩) kv cv, .int .i64 fi] ra nr rc la m lc g go gv zs O V R L) (fun t _ => nr - (intOf t).toNat)
          case atStart => exact ⟨0, Nat.zero_le _, rfl, K11.out⟩
          case round =>
            clear K11 J11
            obtain ⟨j, hj, rfl, hk12⟩ := hrel
            have K12 : Hid (LP w wr k kp #[.int .i64 n, .slice (some ⟨g, 0, none⟩) zl cg, .slice (some ⟨go, 0, none⟩) ko co, .slice (some ⟨gv, 0, none⟩) kv cv, .int .i64 fi] ra nr rc la m lc g go gv zs O V R L) := hk12
            clear hk12
            obtain ⟨p0, p1⟩ := cells2 K12.out.b2
            by_cases hlj : j < nr
            · have hjI : (j : Int) < (nr : Int) := by omega
              have hjR : j < R.length := by rw [HNR.out]; exact hlj
              have hmem : R.getD j rt0 ∈ R := by rw [List.getD_eq_getElem?_getD, List.getElem?_eq_getElem hjR]; simp
              have HCV : Hid (codeV true n zs O V ko kv (R.getD j rt0).v (R.getD j rt0).ids = 0) := (HRT.out j hjR).2.2
              obtain ⟨b, off, e, -, -, -⟩ := K12.out.r j hjR
              have HAT : Hid (∀ W, LP w W k kp #[.int .i64 n, .slice (some ⟨g, 0, none⟩) zl cg, .slice (some ⟨go, 0, none⟩) ko co, .slice (some ⟨gv, 0, none⟩) kv cv, .int .i64 fi] ra nr rc la m lc g go gv zs O V R L → ra = some ⟨b, off, none⟩ ∧ W.cell? ⟨b, off + j * 2, none⟩ = some (.int .i64 (R.getD j rt0).v) ∧ W.cell? ⟨b, off + j * 2 + 1, none⟩ = some (.slice (R.getD j rt0).a (R.getD j rt0).ids.length (R.getD j rt0).c) ∧ IntsAt W (R.getD j rt0).a (R.getD j rt0).ids) := fun W hW => by
                obtain ⟨b2, off2, e2, q1, q2, q3⟩ := hW.r j hjR
                rw [e] at e2
                simp only [Option.some.injEq, Addr.mk.injEq, and_true] at e2
                obtain ⟨rfl, rfl⟩ := e2
                exact ⟨e, q1, q2, q3⟩
              have hx1 := HRI.out _ hmem
              have HX2 : Hid ((R.getD j rt0).ids.length ≤ (R.getD j rt0).c) := HRC.out _ hmem
              clear hmem hjR
              subst e
              generalize R.getD j rt0 = x at *
              obtain ⟨xv, xa, xids, xc⟩ := x
              simp only at HCV HAT hx1 HX2
              obtain ⟨xl, HXL⟩ : ∃ v, Hid (xids.length = v) := ⟨_, rfl⟩
              simp only [HXL.out] at HAT hx1 HX2
              have ICT : Hid (∀ W, LP w W k kp #[.int .i64 n, .slice (some ⟨g, 0, none⟩) zl cg, .slice (some ⟨go, 0, none⟩) ko co, .slice (some ⟨gv, 0, none⟩) kv cv, .int .i64 fi] (some ⟨b, off, none⟩) nr rc la m lc g go gv zs O V R L → Calls Try.prog 17 #[.agg #[.int .i64 n, .slice (some ⟨g, 0, none⟩) zl cg, .slice (some ⟨go, 0, none⟩) ko co, .slice (some ⟨gv, 0, none⟩) kv cv, .int .i64 fi], .agg #[.int .i64 xv, .slice xa xl xc]] W fun e w' => e = .returned (.bool true) ∧ Below W.heap.size W w') := fun W h => by
                have := lawOk_any n fi xv _ _ _ xa cg ko co kv cv xc zs O V xids W h.iz h.io h.iv (HAT.out W h).2.2.2 HO.out HV.out (by omega) (by omega) (by rw [HXL.out]; omega) (by rw [HXL.out]; exact HX2.out) true (by rw [HCB.out, HCV.out]; rfl)
                rw [HZ.out, HXL.out] at this
                exact this
              have HKS : Hid (∀ W, LP w W k kp #[.int .i64 n, .slice (some ⟨g, 0, none⟩) zl cg, .slice (some ⟨go, 0, none⟩) ko co, .slice (some ⟨gv, 0, none⟩) kv cv, .int .i64 fi] (some ⟨b, off, none⟩) nr rc la m lc g go gv zs O V R L → (fun W => W.cell? ⟨k, 0, none⟩ = some (.int .i64 n) ∧ W.cell? ⟨k, 1, none⟩ = some (.slice (some ⟨g, 0, none⟩) zl cg) ∧ W.cell? ⟨k, 2, none⟩ = some (.slice (some ⟨go, 0, none⟩) ko co) ∧ W.cell? ⟨k, 3, none⟩ = some (.slice (some ⟨gv, 0, none⟩) kv cv) ∧ W.cell? ⟨k, 4, none⟩ = some (.int .i64 fi) ∧ W.cell? ⟨kp, 0, none⟩ = some (.slice (some ⟨b, off, none⟩) nr rc) ∧ W.cell? ⟨b, off + j * 2, none⟩ = some (.int .i64 xv) ∧ W.cell? ⟨b, off + j * 2 + 1, none⟩ = some (.slice xa xl xc)) W) := fun W h => by
                obtain ⟨d0, d1, d2, d3, d4⟩ := cells5z h.b1
                obtain ⟨p0, _⟩ := cells2 h.b2
                obtain ⟨_, q1, q2, _⟩ := HAT.out W h
                exact ⟨d0, d1, d2, d3, d4, p0, q1, q2⟩
              have kS := HKS.out _ (K12.out.below (Below.refl _ _).drew)
              go_wp2_with fail
              go_region_held3 (fun W => W.cell? ⟨k, 0, none⟩ = some (.int .i64 n) ∧ W.cell? ⟨k, 1, none⟩ = some (.slice (some ⟨g, 0, none⟩) zl cg) ∧ W.cell? ⟨k, 2, none⟩ = some (.slice (some ⟨go, 0, none⟩) ko co) ∧ W.cell? ⟨k, 3, none⟩ = some (.slice (some ⟨gv, 0, none⟩) kv cv) ∧ W.cell? ⟨k, 4, none⟩ = some (.int .i64 fi) ∧ W.cell? ⟨kp, 0, none⟩ = some (.slice (some ⟨b, off, none⟩) nr rc) ∧ W.cell? ⟨b, off + j * 2, none⟩ = some (.int .i64 xv) ∧ W.cell? ⟨b, off + j * 2 + 1, none⟩ = some (.slice xa xl xc)) (first | with_reducible exact kS | go_keep) ((first
                | (go_at_call 17
                   with_reducible refine (ICT.out wr.drew (K12.out.below (Below.refl _ _).drew)).mono ?_
                   rintro e w6 ⟨rfl, hb⟩
                   have K6 : Hid (LP w w6 k kp #[.int .i64 n, .slice (some ⟨g, 0, none⟩) zl cg, .slice (some ⟨go, 0, none⟩) ko co, .slice (some ⟨gv, 0, none⟩) kv cv, .int .i64 fi] (some ⟨b, off, none⟩) nr rc la m lc g go gv zs O V R L) := (K12.out.below (Below.refl _ _).drew).below hb
                   have kS := HKS.out _ K6.out
                   clear hb)))
              clear K12 p0 p1 kS HKS
              go_wp2
              go_roundw
              case rel => exact ⟨j + 1, by omega, by first | rfl | go_num, K6.out⟩
              case measure => simp [intOf]; omega
            · have hjI : ¬ ((j : Int) < (nr : Int)) := by omega
              obtain ⟨d0, d1, d2, d3, d4⟩ := cells5z K12.out.b1
              have hws : IntKind.i64.wrap ((sn : Int) + (m : Int)) = (ko : Int) := by rw [IntKind.wrap_i64]; have := HCN.out; omega
              go_wp2
              go_ret
              exact ⟨by first | rfl | simp, K12.out.b⟩
    · have hpn : (pv != 0) = true := by simp [hpv]
      have HS0 : Hid (sn = 0) := by
        show _ = _
        rw [← HSN.out, ← HX.out]
        unfold servV
        rw [if_neg (by rw [HPV.out]; exact hpv)]
        rfl
      rw [HS0.out]
      clear hpv
      go_wp2
      go_ret
      exact ⟨by first | rfl | simp, K10.out.b⟩

theorem lawFnPlanHolds_all (a : Option Addr) (c : Nat) (bs : List Int) (w : World) (hA : CodeAt w a bs) (hl : bs.length ≤ 9223372036854775807) :
    Calls Try.prog 3 #[.slice a bs.length c] w fun e w' => e = .returned (.bool true) ∧ Below w.heap.size w w' := by
  by_cases h : bs.length ≤ 1048576
  · exact lawFnPlanHolds a c bs w hA h
  · exact lawFnPlanHolds_big a c bs.length w hl (by omega)

end Go.Proofs.Ytonopidjkcmlmaa
