import Derived.Test.YtfpegaldloadaaaGreatPack10
import Derived.Test.YtfpegaldloadaaaGreatBestRelAt
import Derived.Test.YtfpegaldloadaaaGreatPack44
namespace Go.Proofs.YtfpegaldloadaaaGreat
open Go.RowKit
set_option maxHeartbeats 4000000 in
theorem lawBestRelocate (n fine : Int) (a ao av ra la : Option Addr) (cap ko co kv cv rc lc : Nat) (zs os vs L : List Int) (R : List RT) (w : World) (hA : IntsAt w a zs) (hO : IntsAt w ao os) (hV : IntsAt w av vs) (hR : RoutesAt w ra R) (hL : IntsAt w la L) (hlo : os.length = ko * 6) (hlv : vs.length = kv * 5) (hlt : zs.length <= 9223372036854775807) (hko : ko <= 9223372036854775807) (hkv : kv <= 9223372036854775807) (hRn : R.length <= 9223372036854775807) (hRi : ∀ r ∈ R, r.ids.length <= 9223372036854775807) (hLn : L.length <= 9223372036854775807) (hwl : ∀ x ∈ L, (Lit.int .i64 x).wf = true) :
   Calls Tryz.prog 4 #[.agg #[Value.int .i64 n, Value.slice a zs.length cap, Value.slice ao ko co, Value.slice av kv cv, Value.int .i64 fine], .agg #[Value.slice ra R.length rc, Value.slice la L.length lc]] w fun e w' => e = .returned (.bool true) /\ Below w.heap.size w w' := by
 have HA : Hid (IntsAt w a zs) := hA
 have HO : Hid (IntsAt w ao os) := hO
 have HV : Hid (IntsAt w av vs) := hV
 have HRT : Hid (RoutesAt w ra R) := hR
 have HL : Hid (IntsAt w la L) := hL
 have HLO : Hid _ := hlo
 have HLV : Hid _ := hlv
 have HWL : Hid (∀ x ∈ L, (Lit.int .i64 x).wf = true) := hwl
 have HRI : Hid (∀ r ∈ R, r.ids.length <= 9223372036854775807) := hRi
 clear hA hO hV hR hL hlo hlv hwl hRi
 have B0 : Hid (LPB w ((w.alloc (.cells #[Value.int .i64 n, Value.slice a zs.length cap, Value.slice ao ko co, Value.slice av kv cv, Value.int .i64 fine] 28)).alloc (.cells #[Value.slice ra R.length rc, Value.slice la L.length lc] 31)) _ _) := LPB.new w _ _
 by_cases hc : ¬ (zs.length + ko + kv <= 1048576)
 · have HS : Hid (szV 1048576 zs.length ko kv = -1) := szV_neg hc
   go_enter Tryz.func4, Tryz.ntmps4
   obtain ⟨e0, e1, e2, e3, e4, e5, e6⟩ := B0.out.cells
   go_wp2_with fail
   clear e0 e1 e2 e3 e4 e5 e6
   refine (szCase_any n fine 1048576 a ao av zs.length cap ko co kv cv _ (by omega) (by omega) hlt hko hkv).mono ?_
   rintro e w1 ⟨rfl, hb⟩
   rw [HS.out]
   have B1 : Hid (LPB w w1 _ _) := B0.out.below hb
   clear hb B0
   go_wp2
   go_ret
   exact ⟨rfl, B1.out.1⟩
 have hc := Decidable.not_not.1 hc
 have HSZ : Hid (szV 1048576 zs.length ko kv = 1048576 - zs.length - ko - kv) := szV_pos (by omega)
 obtain ⟨l1, HL1⟩ : ∃ l : Int, Hid ((1048576 - zs.length - ko - kv : Int) = l) := ⟨_, rfl⟩
 have hl1 : 0 <= l1 /\ l1 <= 1048576 := by have := HL1.out; omega
 rw [HL1.out] at HSZ
 have hs1 : zs.length <= 1048576 := by omega
 have hs2 : ko <= 1048576 := by omega
 have hs3 : kv <= 1048576 := by omega
 obtain ⟨x, HX⟩ : ∃ x, Hid (szPl R L.length l1 = x) := ⟨_, rfl⟩
 have HSM : Hid (0 <= x -> R.length <= 1048576 /\ (∀ r ∈ R, r.ids.length <= 1048576) /\ L.length <= 1048576 /\ (allTo R R.length).length <= 1048576) := fun h => szPl_small hl1.1 hl1.2 (by rw [HX.out]; exact h)
 obtain ⟨⟨sf, ⟨s1, s2, s3⟩, sv⟩, HR⟩ : ∃ r, Hid (brQ n fine zs os vs ko kv R L = r) := ⟨_, rfl⟩
 clear hc
 obtain ⟨hl10, hl11⟩ := hl1
 go_enter Tryz.func4, Tryz.ntmps4
 obtain ⟨e0, e1, e2, e3, e4, e5, e6⟩ := B0.out.cells
 go_wp2_with fail
 clear e0 e1 e2 e3 e4 e5 e6
 refine (szCase_any n fine 1048576 a ao av zs.length cap ko co kv cv _ (by omega) (by omega) (by omega) (by omega) (by omega)).mono ?_
 rintro e w1 ⟨rfl, hb⟩
 rw [HSZ.out]
 have B1 : Hid (LPB w w1 _ _) := B0.out.below hb
 clear hb B0
 obtain ⟨e0, e1, e2, e3, e4, e5, e6⟩ := B1.out.cells
 go_wp2_with fail
 clear e0 e1 e2 e3 e4 e5 e6
 refine (szPlan_any ra la rc L.length lc R l1 _ (HRT.out.below B1.out.b) hl10 hl11 hRn hLn HRI.out).mono ?_
 rintro e w2 ⟨rfl, hb⟩
 rw [HX.out]
 have B2 : Hid (LPB w w2 _ _) := B1.out.below hb
 clear hb B1
 by_cases hx : x < 0
 · go_wp2
   go_ret
   exact ⟨rfl, B2.out.1⟩
 obtain ⟨hs4, hs5, hs6, hs7⟩ := HSM.out (by omega)
 have HS5 : Hid (∀ r ∈ R, r.ids.length <= 1048576) := hs5
 have HS7 : Hid ((allTo R R.length).length <= 1048576) := hs7
 clear HSM hs5 hs7
 obtain ⟨e0, e1, e2, e3, e4, e5, e6⟩ := B2.out.cells
 go_wp2_with fail
 go_region_held3 (fun W => W.cell? ⟨w.heap.size, 0, none⟩ = some (.int .i64 n) /\ W.cell? ⟨w.heap.size, 1, none⟩ = some (.slice a zs.length cap) /\ W.cell? ⟨w.heap.size, 2, none⟩ = some (.slice ao ko co) /\ W.cell? ⟨w.heap.size, 3, none⟩ = some (.slice av kv cv) /\ W.cell? ⟨w.heap.size, 4, none⟩ = some (.int .i64 fine) /\ W.cell? ⟨w.heap.size + 1, 0, none⟩ = some (.slice ra R.length rc) /\ W.cell? ⟨w.heap.size + 1, 1, none⟩ = some (.slice la L.length lc)) (first | with_reducible exact kS | go_keep) ((first
 | (go_at_call 9
    with_reducible refine (toCase_any n fine a ao av cap ko co kv cv zs os vs w2.drew (HA.out.below B2.out.drew.b) (HO.out.below B2.out.drew.b) (HV.out.below B2.out.drew.b) HLO.out HLV.out hs1 hs2 hs3).mono ?_
    rintro e w3 ⟨g3, go3, gv3, _, _, _, rfl, hb, hg⟩
    have B3 : Hid (LPB w w3 _ _) := B2.out.drew.below hb
    have C3 : Hid (CaseAt w3 g3 go3 gv3 zs os vs) := hg
    obtain ⟨k0, k1, k2, k3, k4, k5, k6⟩ := B3.out.cells
    have kS := And.intro k0 (And.intro k1 (And.intro k2 (And.intro k3 (And.intro k4 (And.intro k5 k6)))))
    clear hb hg
    clear k0 k1 k2 k3 k4 k5 k6)
 | (go_at_call 10
    with_reducible refine (toPlan_at ra la rc lc R L w3 (HRT.out.below B3.out.b) (HL.out.below B3.out.b) hs4 HS5.out hs6).mono ?_
    rintro e w4 ⟨gr4, gl4, S4, rfl, hb, hg⟩
    have B4 : Hid (LPB w w4 _ _) := B3.out.below hb
    have C4 : Hid (CaseAt w4 g3 go3 gv3 zs os vs) := C3.out.below hb
    have P4 : Hid (PlanAt w4 gr4 gl4 S4 R L) := hg
    obtain ⟨k0, k1, k2, k3, k4, k5, k6⟩ := B4.out.cells
    have kS := And.intro k0 (And.intro k1 (And.intro k2 (And.intro k3 (And.intro k4 (And.intro k5 k6)))))
    clear hb hg
    clear k0 k1 k2 k3 k4 k5 k6)
 | (go_at_call 17
    with_reducible refine (specBestRel_at n fine _ _ _ _ ko _ kv _ gr4 gl4 zs os vs L S4 R w4 C4.out.t C4.out.o C4.out.v P4.out HLO.out HLV.out (by omega) (by omega) hs4 HS5.out hs6 HS7.out _ HR.out).mono ?_
    rintro e w6 ⟨rfl, hb⟩
    dsimp only
    have B6 : Hid (LPB w w6 _ _) := B4.out.below hb
    obtain ⟨k0, k1, k2, k3, k4, k5, k6⟩ := B6.out.cells
    have kS := And.intro k0 (And.intro k1 (And.intro k2 (And.intro k3 (And.intro k4 (And.intro k5 k6)))))
    clear hb
    clear k0 k1 k2 k3 k4 k5 k6)))
 all_goals
   clear e0 e1 e2 e3 e4 e5 e6
   clear kS B2 B3 C3 B4 C4 P4
   obtain ⟨e0, e1, e2, e3, e4, e5, e6⟩ := B6.out.cells
   go_wp2_with fail
   clear e0 e1 e2 e3 e4 e5 e6
   refine (toCase_any n fine a ao av cap ko co kv cv zs os vs _ (HA.out.below B6.out.b) (HO.out.below B6.out.b) (HV.out.below B6.out.b) HLO.out HLV.out hs1 hs2 hs3).mono ?_
   rintro e w7 ⟨g7, go7, gv7, _, _, _, rfl, hb, hg⟩
   have B7 : Hid (LPB w (w7.alloc (Obj.cells #[Value.int .i64 n, Value.slice (some ⟨g7, 0, none⟩) zs.length zs.length, Value.slice (some ⟨go7, 0, none⟩) ko ko, Value.slice (some ⟨gv7, 0, none⟩) kv kv, Value.int .i64 fine] 43)) _ _) := (B6.out.below hb).alloc _
   have X7 : Hid ((w7.alloc (Obj.cells #[Value.int .i64 n, Value.slice (some ⟨g7, 0, none⟩) zs.length zs.length, Value.slice (some ⟨go7, 0, none⟩) ko ko, Value.slice (some ⟨gv7, 0, none⟩) kv kv, Value.int .i64 fine] 43)).heap[w7.heap.size]? = _) := heap_alloc_new _ _
   have C7 : Hid (CaseAt (w7.alloc (Obj.cells #[Value.int .i64 n, Value.slice (some ⟨g7, 0, none⟩) zs.length zs.length, Value.slice (some ⟨go7, 0, none⟩) ko ko, Value.slice (some ⟨gv7, 0, none⟩) kv kv, Value.int .i64 fine] 43)) g7 go7 gv7 zs os vs) := hg.below ((Below.refl _ _).alloc (Nat.le_refl _) _)
   clear hb hg B6
   obtain ⟨e0, e1, e2, e3, e4, e5, e6⟩ := B7.out.cells
   go_wp2_with fail
   clear e0 e1 e2 e3 e4 e5 e6
   generalize w7.alloc (Obj.cells #[Value.int .i64 n, Value.slice (some ⟨g7, 0, none⟩) zs.length zs.length, Value.slice (some ⟨go7, 0, none⟩) ko ko, Value.slice (some ⟨gv7, 0, none⟩) kv kv, Value.int .i64 fine] 43) = W7 at *
   generalize w7.heap.size = bx at *
   refine (toPlan_at ra la rc lc R L W7 (HRT.out.below B7.out.b) (HL.out.below B7.out.b) hs4 HS5.out hs6).mono ?_
   rintro e w8 ⟨gr8, gl8, S8, rfl, hb, hg⟩
   have B8 : Hid (LPB w (w8.alloc (Obj.cells #[Value.slice (some ⟨gr8, 0, none⟩) R.length R.length, Value.slice (some ⟨gl8, 0, none⟩) L.length L.length] 36)) _ _) := (B7.out.below hb).alloc _
   have X8 : Hid ((w8.alloc (Obj.cells #[Value.slice (some ⟨gr8, 0, none⟩) R.length R.length, Value.slice (some ⟨gl8, 0, none⟩) L.length L.length] 36)).heap[bx]? = _) := (heap_alloc_old _ _ (row_lt (below_row hb (row_lt X7.out) X7.out))).trans (below_row hb (row_lt X7.out) X7.out)
   have Y8 : Hid ((w8.alloc (Obj.cells #[Value.slice (some ⟨gr8, 0, none⟩) R.length R.length, Value.slice (some ⟨gl8, 0, none⟩) L.length L.length] 36)).heap[w8.heap.size]? = _) := heap_alloc_new _ _
   have C8 : Hid (CaseAt (w8.alloc (Obj.cells #[Value.slice (some ⟨gr8, 0, none⟩) R.length R.length, Value.slice (some ⟨gl8, 0, none⟩) L.length L.length] 36)) g7 go7 gv7 zs os vs) := (C7.out.below hb).below ((Below.refl _ _).alloc (Nat.le_refl _) _)
   have P8 : Hid (PlanAt (w8.alloc (Obj.cells #[Value.slice (some ⟨gr8, 0, none⟩) R.length R.length, Value.slice (some ⟨gl8, 0, none⟩) L.length L.length] 36)) gr8 gl8 S8 R L) := hg.below ((Below.refl _ _).alloc (Nat.le_refl _) _)
   clear hb hg B7 X7 C7
   obtain ⟨x0, x1, x2, x3, x4⟩ := cells5 X8.out
   obtain ⟨y0, y1⟩ := cells2 Y8.out
   go_wp2_with fail
   clear x0 x1 x2 x3 x4 y0 y1
   generalize w8.alloc (Obj.cells #[Value.slice (some ⟨gr8, 0, none⟩) R.length R.length, Value.slice (some ⟨gl8, 0, none⟩) L.length L.length] 36) = w9 at *
   generalize w8.heap.size = by8 at *
   have B9 : Hid (LPB w w9 _ _) := B8.out
   have X9 : Hid (w9.heap[bx]? = _) := X8.out
   have Y9 : Hid (w9.heap[by8]? = _) := Y8.out
   have C9 : Hid (CaseAt w9 g7 go7 gv7 zs os vs) := C8.out
   have P9 : Hid (PlanAt w9 gr8 gl8 S8 R L) := P8.out
   clear B8 X8 Y8 C8 P8
   refine (implBestRel_at n fine _ _ _ _ ko _ kv _ gr8 gl8 zs os vs L S8 R w9 C9.out.t C9.out.o C9.out.v P9.out HLO.out HLV.out (by omega) (by omega) hs4 HS5.out hs6 HS7.out HWL.out _ HR.out).mono ?_
   rintro e w10 ⟨rfl, hb⟩
   dsimp only
   have B10 : Hid (LPB w w10 _ _) := B9.out.below hb
   have X10 : Hid (w10.heap[bx]? = _) := below_row hb (row_lt X9.out) X9.out
   have Y10 : Hid (w10.heap[by8]? = _) := below_row hb (row_lt Y9.out) Y9.out
   have C10 : Hid (CaseAt w10 g7 go7 gv7 zs os vs) := C9.out.below hb
   have P10 : Hid (PlanAt w10 gr8 gl8 S8 R L) := P9.out.below hb
   clear hb B9 X9 Y9 C9 P9
   have hm1 : (s1 != s1) = false := by simp
   have hm2 : (s2 != s2) = false := by simp
   have hm3 : ((s3 : Int) != (s3 : Int)) = false := by simp
   have hm4 : (sv != sv) = false := by simp
   obtain ⟨e0, e1, e2, e3, e4, e5, e6⟩ := B10.out.cells
   obtain ⟨x0, x1, x2, x3, x4⟩ := cells5 X10.out
   go_wp2_with fail
   go_region_held3 (fun W => (W.cell? ⟨w.heap.size, 0, none⟩ = some (.int .i64 n) /\ W.cell? ⟨w.heap.size, 1, none⟩ = some (.slice a zs.length cap) /\ W.cell? ⟨w.heap.size, 2, none⟩ = some (.slice ao ko co) /\ W.cell? ⟨w.heap.size, 3, none⟩ = some (.slice av kv cv) /\ W.cell? ⟨w.heap.size, 4, none⟩ = some (.int .i64 fine) /\ W.cell? ⟨w.heap.size + 1, 0, none⟩ = some (.slice ra R.length rc) /\ W.cell? ⟨w.heap.size + 1, 1, none⟩ = some (.slice la L.length lc)) /\ W.cell? ⟨bx, 0, none⟩ = some (.int .i64 n) /\ W.cell? ⟨bx, 1, none⟩ = some (.slice (some ⟨g7, 0, none⟩) zs.length zs.length) /\ W.cell? ⟨bx, 2, none⟩ = some (.slice (some ⟨go7, 0, none⟩) ko ko) /\ W.cell? ⟨bx, 3, none⟩ = some (.slice (some ⟨gv7, 0, none⟩) kv kv) /\ W.cell? ⟨bx, 4, none⟩ = some (.int .i64 fine)) (first | with_reducible exact kS | go_keep) ((first
   | (go_at_call 9
      with_reducible refine (toCase_any n fine a ao av cap ko co kv cv zs os vs w10.drew (HA.out.below B10.out.drew.b) (HO.out.below B10.out.drew.b) (HV.out.below B10.out.drew.b) HLO.out HLV.out hs1 hs2 hs3).mono ?_
      rintro e w11 ⟨g11, go11, gv11, _, _, _, rfl, hb', hg⟩
      have hb := (Below.refl w10.heap.size w10).drew.trans (hb'.mono (Nat.le_refl _))
      have B11 : Hid (LPB w w11 _ _) := B10.out.below hb
      have X11 : Hid (w11.heap[bx]? = _) := below_row hb (row_lt X10.out) X10.out
      have Y11 : Hid (w11.heap[by8]? = _) := below_row hb (row_lt Y10.out) Y10.out
      have C11 : Hid (CaseAt w11 g7 go7 gv7 zs os vs) := C10.out.below hb
      have P11 : Hid (PlanAt w11 gr8 gl8 S8 R L) := P10.out.below hb
      have D11 : Hid (CaseAt w11 g11 go11 gv11 zs os vs) := hg
      have kS := And.intro (lp7 B11.out) (cells5 X11.out)
      clear hb hb' hg)
   | (go_at_call 13
      with_reducible refine (eqCase_same n fine _ _ _ _ _ _ _ _ _ _ _ _ _ _ zs os vs w11 C11.out.t C11.out.o C11.out.v D11.out.t D11.out.o D11.out.v HLO.out HLV.out (by omega) (by omega) (by omega)).mono ?_
      rintro e w12 ⟨rfl, hb⟩
      have B12 : Hid (LPB w w12 _ _) := B11.out.below hb
      have Y12 : Hid (w12.heap[by8]? = _) := below_row hb (row_lt Y11.out) Y11.out
      have X12 : Hid (w12.heap[bx]? = _) := below_row hb (row_lt X11.out) X11.out
      have P12 : Hid (PlanAt w12 gr8 gl8 S8 R L) := P11.out.below hb
      have kS := And.intro (lp7 B12.out) (cells5 X12.out)
      clear hb)))
   all_goals
     clear e0 e1 e2 e3 e4 e5 e6 x0 x1 x2 x3 x4 kS B10 X10 Y10 C10 P10 B11 X11 Y11 C11 P11 D11 X12
     obtain ⟨e0, e1, e2, e3, e4, e5, e6⟩ := B12.out.cells
     obtain ⟨y0, y1⟩ := cells2 Y12.out
     go_wp2_with fail
     go_region_held3 (fun W => (W.cell? ⟨w.heap.size, 0, none⟩ = some (.int .i64 n) /\ W.cell? ⟨w.heap.size, 1, none⟩ = some (.slice a zs.length cap) /\ W.cell? ⟨w.heap.size, 2, none⟩ = some (.slice ao ko co) /\ W.cell? ⟨w.heap.size, 3, none⟩ = some (.slice av kv cv) /\ W.cell? ⟨w.heap.size, 4, none⟩ = some (.int .i64 fine) /\ W.cell? ⟨w.heap.size + 1, 0, none⟩ = some (.slice ra R.length rc) /\ W.cell? ⟨w.heap.size + 1, 1, none⟩ = some (.slice la L.length lc)) /\ W.cell? ⟨by8, 0, none⟩ = some (.slice (some ⟨gr8, 0, none⟩) R.length R.length) /\ W.cell? ⟨by8, 1, none⟩ = some (.slice (some ⟨gl8, 0, none⟩) L.length L.length)) (first | with_reducible exact kS | go_keep) ((first
     | (go_at_call 10
        with_reducible refine (toPlan_at ra la rc lc R L w12.drew (HRT.out.below B12.out.drew.b) (HL.out.below B12.out.drew.b) hs4 HS5.out hs6).mono ?_
        rintro e w13 ⟨gr13, gl13, S13, rfl, hb', hg⟩
        have hb := (Below.refl w12.heap.size w12).drew.trans (hb'.mono (Nat.le_refl _))
        have B13 : Hid (LPB w w13 _ _) := B12.out.below hb
        have Y13 : Hid (w13.heap[by8]? = _) := below_row hb (row_lt Y12.out) Y12.out
        have P13 : Hid (PlanAt w13 gr8 gl8 S8 R L) := P12.out.below hb
        have Q13 : Hid (PlanAt w13 gr13 gl13 S13 R L) := hg
        have kS := And.intro (lp7 B13.out) (cells2 Y13.out)
        clear hb hb' hg)
     | (go_at_call 12
        with_reducible refine (eqPlan_at gr8 gl8 gr13 gl13 S8 S13 R L w13 P13.out Q13.out hs4 HS5.out hs6).mono ?_
        rintro e w14 ⟨rfl, hb⟩
        have B14 : Hid (LPB w w14 _ _) := B13.out.below hb
        have Y14 : Hid (w14.heap[by8]? = _) := below_row hb (row_lt Y13.out) Y13.out
        have kS := And.intro (lp7 B14.out) (cells2 Y14.out)
        clear hb)))
     all_goals
       clear e0 e1 e2 e3 e4 e5 e6 y0 y1 kS
       go_wp2
       go_ret
       exact ⟨rfl, B14.out.1⟩
end Go.Proofs.YtfpegaldloadaaaGreat
