import Derived.Test.YtehfjfmfpdgibaaGreatDoorPack10
import Derived.Test.YtehfjfmfpdgibaaGreatDoorPack15
import Derived.Test.YtehfjfmfpdgibaaGreatDoorPack20
import Derived.Test.YtehfjfmfpdgibaaGreatDoorAppendNo0
import Derived.Test.YtehfjfmfpdgibaaGreatDoorSpecStoreText
import Derived.Test.YtehfjfmfpdgibaaGreatDoorImplPlanText
namespace Go.Proofs.YtehfjfmfpdgibaaGreatDoor
open Go.RowKit
theorem caseTxI (s : SN) (W : World) (hA : SNAt W s) (ho : SNOk 1048576 s) (hr : s.room) (hP : PW W) : Calls Tryz.prog 62 #[.agg #[.int .i64 s.c.n, .slice s.za s.c.zs.length s.zc, .slice s.oa s.c.ko s.oc, .slice s.va s.c.kv s.vc, .int .i64 s.c.f]] W fun e w' => e = .returned (.string (txt (caseW s.c))) /\ Below W.heap.size W w' := by
 have := implCaseText_cap s.c.n s.c.f s.za s.oa s.va s.zc s.c.ko s.oc s.c.kv s.vc s.c.zs s.c.os s.c.vs W hA.z hA.o hA.v ho.o ho.v (by have := ho.om; omega) (by have := ho.vm; omega) hr hP
 rw [<- apply_ite txt] at this
 exact this
theorem planTxI (v : VN) (W : World) (hA : VNAt W v) (ho : VNOk 1048576 v) (hr : v.room) (hP : PW W) : Calls Tryz.prog 63 #[.agg #[.slice v.ra v.R.length v.rc, .slice v.la v.L.length v.lc]] W fun e w' => e = .returned (.string (txt (planW v.R v.L))) /\ Below W.heap.size W w' := by
 have := implPlanText_any v.ra v.la v.rc v.lc v.R v.L W hA.r hA.l ho.n ho.l ho.i (fun r hr2 => .inr (by obtain ⟨g, e⟩ := (hr r hr2).2; exact ⟨g, 0, e⟩)) hP
 rw [<- apply_ite txt] at this
 exact this
theorem wrLine (B : Nat) (l wd : List UInt8) (ns : List Int) (W : World) (g : Nat) (hU : BU B B l W) (hB : B <= W.heap.size) (hg : W.heap[g]? = some (.cells (cellsOf ns) 2 (0, 0))) (hgB : g ≠ B) (hP : ∀ W', Below B W W' -> PW W') (hs : Small ns) (hn : ns.length <= 2) (hw : wd.length <= 100) (hl : l.length <= 10000000) (c : Nat) :
 Calls Tryz.prog 60 #[.pointer (some ⟨B, 0, none⟩), .string (txt wd), .slice (some ⟨g, 0, none⟩) ns.length c] W fun e w' => e = .returned (.tuple #[]) /\ BU B B (l ++ lineL wd ns) w' /\ Wrt B B W w' :=
 writeLine_any B B l wd (some ⟨g, 0, none⟩) c ns W hU hB (fun W' h => IntsAt.of_row (h.row hg hgB (by decide))) hP hs (by omega) (by omega) (by omega)
theorem bu_lt {B b : Nat} {l : List UInt8} {w : World} (h : BU B b l w) : b < w.heap.size := by
 rcases h with ⟨_, _, hbk, _⟩ | ⟨_, _, hbk, _⟩
 · exact row_lt hbk
 · exact row_lt hbk
set_option maxRecDepth 20000 in
set_option maxHeartbeats 8000000 in
theorem implStoreText_any (a : Option Addr) (c : Nat) (T : List TN) (w : World) (hA : TensAt w a T) (hT : TSm T) (hG : GS w) (hP : PW w) :
 Calls Tryz.prog 25 #[.agg #[.slice a T.length c]] w fun e w' => e = .returned (.string (txt (stW T))) /\ Below w.heap.size w w' := by
 obtain ⟨x, HX⟩ := nmd (txt (stW T))
 rw [HX.out]
 have HA := hdn hA
 have HT := hdn hT
 have HP0 := hdn hP
 have CS := hdn (fun W (h : TensAt W a T) (hg : GS W) => implStore_any a c T W h hT hg)
 have HG := hdn hG
 clear hA hT hG hP
 have HN0 : Hid (storeB T = false -> x = txt []) := fun h => by rw [<- HX.out]; unfold stW; rw [h]; rfl
 have HY0 : Hid (storeB T = true -> x = txt (stL T)) := fun h => by rw [<- HX.out]; unfold stW; rw [h]; rfl
 have HRT : Hid (storeB T = true -> T.length <= 5 /\ ∀ t ∈ T, TNR t) := storeB_right
 obtain ⟨n, HN⟩ := nmd T.length
 rw [HN.out] at CS HRT ⊢
 generalize storeB T = sb at *
 clear HX
 have B0 := hdn (B1x.new 29 w #[.slice a n c])
 have q0 := cell1x B0.out.s
 go_enter Tryz.func25, Tryz.ntmps25
 go_wp2_with fail
 clear q0
 refine (CS.out _ (HA.out.below B0.out.b) (HG.out.below B0.out.b (Nat.le_refl _))).mono ?_
 rintro e w1 ⟨rfl, hb⟩
 have B1 := hdn (B0.out.below hb)
 clear hb B0 CS HG
 cases sb
 · have HF := hdn (HN0.out rfl)
   go_wp2
   go_ret
   exact ⟨by rw [HF.out]; rfl, B1.out.b⟩
 have HF := hdn (HY0.out rfl)
 obtain ⟨hn5, hR⟩ := HRT.out rfl
 have HR := hdn hR
 clear hR HN0 HY0 HRT
 have HPW := hdn (fun W' (h : Below w1.heap.size w1 W') => PW.below HP0.out (B1.out.b.trans (h.mono B1.out.b.size)) (Nat.le_refl _))
 have HAB := hdn (fun W' (h : Below w1.heap.size w1 W') => (HA.out.below B1.out.b).below h)
 have HST : Hid (stH T = lineL wStore [(n : Int)]) := by show _ = _; unfold stH; rw [HN.out]
 have hH := stH_len (T := T) (by rw [HN.out]; exact hn5)
 have HHL := hdn hH
 clear hH
 have q0 := cell1x (B1.out.below ((Below.refl _ _).alloc (Nat.le_refl _) (.cells #[.pointer none, .slice none 0 0] 99))).s
 have BZ : Hid (Below w1.heap.size w1 ((w1.alloc (.cells #[.pointer none, .slice none 0 0] 99)).alloc (.cells #[.int .i64 (n : Int)] 2))) := ((Below.refl _ _).alloc (Nat.le_refl _) _).alloc (by simp) _
 have RZ : Hid (((w1.alloc (.cells #[.pointer none, .slice none 0 0] 99)).alloc (.cells #[.int .i64 (n : Int)] 2)).heap[w1.heap.size + 1]? = some (.cells #[.int .i64 (n : Int)] 2 (0, 0))) := heap_alloc2_new _ _ _
 have U2 : Hid (BU w1.heap.size w1.heap.size [] ((w1.alloc (.cells #[.pointer none, .slice none 0 0] 99)).alloc (.cells #[.int .i64 (n : Int)] 2))) := (BU.new w1.heap.size w1 (Nat.le_refl _)).below ((Below.refl _ _).alloc (Nat.le_refl _) _)
 go_wp2_with fail
 clear q0
 generalize ((w1.alloc (.cells #[.pointer none, .slice none 0 0] 99)).alloc (.cells #[.int .i64 (n : Int)] 2)) = W2 at *
 refine (wrLine w1.heap.size [] wStore [(n : Int)] W2 (w1.heap.size + 1) U2.out BZ.out.size RZ.out (by omega) (fun W' h => HPW.out W' (BZ.out.trans h)) (fun v hv => by simp at hv; subst hv; omega) (by simp) (by simp [wStore]) (by simp) 1).mono ?_
 rintro e w3 ⟨rfl, hu, hb⟩
 rw [List.nil_append, <- HST.out] at hu
 have U3 := hdn hu
 have B3 := hdn (BZ.out.trans hb.1)
 clear hu hb BZ RZ U2
 have q0 := cell1x (B1.out.below B3.out).s
 go_wp2_with fail
 clear q0
 go_loopw [21] (fun ti wr => ∃ (i : Nat) (l : List UInt8), i <= n /\ ti = .int .i64 i /\ Hid (l = stH T ++ (T.take i).flatMap tnL) /\ BU w1.heap.size w1.heap.size l wr /\ Below w1.heap.size w1 wr) (fun ti _ => n - (intOf ti).toNat)
 case atStart => exact ⟨0, _, Nat.zero_le _, rfl, by show _ = _; simp, U3.out, B3.out⟩
 case round =>
  obtain ⟨i, l, hi, rfl, HL, hu, hb⟩ := hrel
  have U1 := hdn hu
  have D1 := hdn hb
  clear hu hb B3 U3
  by_cases hlt : i < n
  · have hin : (i : Int) < n := by omega
    have hiX : i < T.length := by rw [HN.out]; exact hlt
    obtain ⟨b, off, e, c0, c1, c2, c3, c4⟩ := (HAB.out wr D1.out).at hiX
    subst e
    have hm := List.getElem_mem hiX
    have hll : l.length <= 1000100 := by
     have h1 := tnS_len HR.out i (by omega)
     have h2 := HHL.out
     rw [HL.out, List.length_append]
     omega
    have HTN := hdn (fun W' (h : Below w1.heap.size w1 W') => (HAB.out W' h).2 _ hm)
    have HOK := hdn (HT.out.ok _ hm)
    have HRM := hdn (HT.out.rm _ hm)
    have HRR := hdn (HR.out _ hm)
    have HNX0 : Hid (stH T ++ (T.take (i + 1)).flatMap tnL = l ++ tnL T[i]) := by show _ = _; rw [flat_step tnL hiX, HL.out, List.append_assoc]
    generalize T[i] = t at *
    clear hm HL
    have hs8 := HRR.out.s8
    have hv8 := HRR.out.v8
    have HHT := hdn (tnH_len HRR.out)
    have HSS := hdn (fun k hk => snS_len HRR.out k hk)
    have HVS := hdn (fun k hk => vnS_len HRR.out k hk)
    have HTX : Hid (tnL t = tnH t ++ (t.S.flatMap snL ++ t.V.flatMap vnL)) := rfl
    have HTH : Hid (tnH t = lineL (wTen ++ t.nm) [t.nx, t.pub]) := rfl
    have HWT : Hid (txt (wTen ++ t.nm) = txt wTen ++ txt t.nm) := by show _ = _; rw [txt_app]
    have hnm := HRR.out.nm
    obtain ⟨nm, nx, S, V, pub, sa, va, sc, vc⟩ := t
    simp only at c0 c1 c2 c3 c4 hs8 hv8 HSS HVS HTX HTH HWT hnm
    have hnz : (txt nm).size <= 12 := by rw [txt_size]; exact hnm
    generalize txt nm = nb at *
    obtain ⟨nS, HNS⟩ := nmd S.length
    obtain ⟨nV, HNV⟩ := nmd V.length
    rw [HNS.out] at c2 hs8
    rw [HNV.out] at c3 hv8
    have A2 := hdn ((Below.refl wr.heap.size wr).alloc (Nat.le_refl _) (.cells #[.string nb, .int .i64 nx, .slice sa nS sc, .slice va nV vc, .int .i64 pub] 36))
    have X2 : Hid ((wr.alloc (.cells #[.string nb, .int .i64 nx, .slice sa nS sc, .slice va nV vc, .int .i64 pub] 36)).heap[wr.heap.size]? = some (.cells #[.string nb, .int .i64 nx, .slice sa nS sc, .slice va nV vc, .int .i64 pub] 36 (0, 0))) := heap_alloc_new _ _
    obtain ⟨d0, d1, d2, d3, d4⟩ := cells5 X2.out
    have hsz0 : ¬ (9223372036854775807 < 7 + nb.size) := by omega
    have A3 := hdn ((Below.refl (wr.alloc (.cells #[.string nb, .int .i64 nx, .slice sa nS sc, .slice va nV vc, .int .i64 pub] 36)).heap.size (wr.alloc (.cells #[.string nb, .int .i64 nx, .slice sa nS sc, .slice va nV vc, .int .i64 pub] 36))).alloc (Nat.le_refl _) (.cells #[.int .i64 nx, .int .i64 pub] 2))
    have Z3 : Hid (((wr.alloc (.cells #[.string nb, .int .i64 nx, .slice sa nS sc, .slice va nV vc, .int .i64 pub] 36)).alloc (.cells #[.int .i64 nx, .int .i64 pub] 2)).heap[wr.heap.size + 1]? = some (.cells #[.int .i64 nx, .int .i64 pub] 2 (0, 0))) := heap_alloc2_new _ _ _
    have X3 := hdn (below_row A3.out (row_lt X2.out) X2.out)
    have hB1 := D1.out.size
    have HBK : w1.heap.size < wr.heap.size := bu_lt U1.out
    have U3 := hdn ((U1.out.below A2.out).below A3.out)
    have D3 := hdn (D1.out.trans ((A2.out.mono hB1).trans (A3.out.mono (Nat.le_trans hB1 A2.out.size))))
    clear A2 A3 X2 U1 D1
    go_wp2_with fail
    clear d0 d1 d2 d3 d4 c0 c1 c2 c3 c4 hsz0
    generalize ((wr.alloc (.cells #[.string nb, .int .i64 nx, .slice sa nS sc, .slice va nV vc, .int .i64 pub] 36)).alloc (.cells #[.int .i64 nx, .int .i64 pub] 2)) = W3 at *
    have hLB : w1.heap.size < wr.heap.size := HBK
    generalize wr.heap.size = tb at *
    have LT := wrLine w1.heap.size l (wTen ++ nm) [nx, pub] W3 (tb + 1) U3.out D3.out.size Z3.out (by omega) (fun W' h => HPW.out W' (D3.out.trans h)) (fun x hx => by simp at hx; rcases hx with rfl | rfl <;> first | exact HRR.out.nx | exact HRR.out.pb) (by simp) (by simp [wTen]; omega) (by omega) 2
    rw [HWT.out, <- HTH.out] at LT
    refine LT.mono ?_
    rintro e w4 ⟨rfl, hu, hb⟩
    obtain ⟨m0, HM0⟩ := nmd (l ++ tnH ⟨nm, nx, S, V, pub, sa, va, sc, vc⟩)
    rw [HM0.out] at hu
    have HM0L : Hid (m0.length <= 1000200) := by show _ <= _; rw [<- HM0.out, List.length_append]; have := HHT.out; omega
    have U4 := hdn hu
    have D4 := hdn (D3.out.trans hb.1)
    have X4 := hdn (hb.row X3.out (by omega) (by decide))
    clear hu hb D3 X3 Z3 U3 LT HWT
    obtain ⟨t0, t1, t2, t3, t4⟩ := cells5 X4.out
    go_wp2_with fail
    clear t0 t1 t2 t3 t4
    go_loopw [37] (fun ti wr => ∃ (k : Nat) (m : List UInt8), k <= nS /\ ti = .int .i64 k /\ Hid (m = m0 ++ (S.take k).flatMap snL) /\ BU w1.heap.size w1.heap.size m wr /\ Below w1.heap.size w1 wr /\ wr.heap[tb]? = some (.cells #[.string nb, .int .i64 nx, .slice sa nS sc, .slice va nV vc, .int .i64 pub] 36 (0, 0))) (fun ti _ => nS - (intOf ti).toNat)
    case atStart => exact ⟨0, m0, Nat.zero_le _, rfl, by show _ = _; simp, U4.out, D4.out, X4.out⟩
    case round =>
     clear D4 X4 U4
     obtain ⟨k, m, hk, rfl, HM, hu, hb, hx⟩ := hrel
     have U1 := hdn hu
     have D1 := hdn hb
     have X1 := hdn hx
     clear hu hb hx
     by_cases hlt : k < nS
     · have hin : (k : Int) < nS := by omega
       have hkX : k < S.length := by rw [HNS.out]; exact hlt
       obtain ⟨b2, off2, e, c0, c1, c2, c3, c4, c5⟩ := (HTN.out wr D1.out).s.at hkX
       subst e
       have hm := List.getElem_mem hkX
       have hml : m.length <= 1161100 := by
        have h1 := HSS.out k (by omega)
        have h2 := HM0L.out
        rw [HM.out, List.length_append]
        omega
       have HNX : Hid (m0 ++ (S.take (k + 1)).flatMap snL = m ++ snL S[k]) := by show _ = _; rw [flat_step snL hkX, HM.out, List.append_assoc]
       have HE := hdn (HOK.out.os _ hm)
       have HRO := hdn (HRM.out.2 _ hm)
       have CT : Hid (∀ W, Below w1.heap.size w1 W -> Calls Tryz.prog 62 #[.agg #[.int .i64 S[k].c.n, .slice S[k].za S[k].c.zs.length S[k].zc, .slice S[k].oa S[k].c.ko S[k].oc, .slice S[k].va S[k].c.kv S[k].vc, .int .i64 S[k].c.f]] W fun e w' => e = .returned (.string (txt (caseW S[k].c))) /\ Below W.heap.size W w') := fun W hb => caseTxI S[k] W ((HTN.out W hb).s.2 _ hm) HE.out HRO.out (HPW.out W hb)
       have hsi : 0 <= S[k].id /\ S[k].id <= 1000000000 := HRR.out.si _ hm
       have hcl := caseW_len S[k].c
       have HFL : Hid (snL S[k] = lineL wSnap [S[k].id] ++ caseW S[k].c) := rfl
       clear HE HRO HM hm
       generalize S[k] = s at *
       obtain ⟨sid, ⟨cn, cf, zs, os, vs, ko, kv⟩, za, oa, va9, zc, oc, vc9⟩ := s
       simp only at c0 c1 c2 c3 c4 c5 CT hsi hcl HFL
       obtain ⟨nz, HNZ⟩ := nmd zs.length
       rw [HNZ.out] at c2 CT
       have A2 := hdn ((Below.refl wr.heap.size wr).alloc (Nat.le_refl _) (.cells #[.int .i64 sid, .int .i64 cn, .slice za nz zc, .slice oa ko oc, .slice va9 kv vc9, .int .i64 cf] 86))
       have Y2 : Hid ((wr.alloc (.cells #[.int .i64 sid, .int .i64 cn, .slice za nz zc, .slice oa ko oc, .slice va9 kv vc9, .int .i64 cf] 86)).heap[wr.heap.size]? = some (.cells #[.int .i64 sid, .int .i64 cn, .slice za nz zc, .slice oa ko oc, .slice va9 kv vc9, .int .i64 cf] 86 (0, 0))) := heap_alloc_new _ _
       obtain ⟨d0, d1, d2, d3, d4, d5⟩ := cells6v Y2.out
       have A3 := hdn ((Below.refl (wr.alloc (.cells #[.int .i64 sid, .int .i64 cn, .slice za nz zc, .slice oa ko oc, .slice va9 kv vc9, .int .i64 cf] 86)).heap.size (wr.alloc (.cells #[.int .i64 sid, .int .i64 cn, .slice za nz zc, .slice oa ko oc, .slice va9 kv vc9, .int .i64 cf] 86))).alloc (Nat.le_refl _) (.cells #[.int .i64 sid] 2))
       have Z3 : Hid (((wr.alloc (.cells #[.int .i64 sid, .int .i64 cn, .slice za nz zc, .slice oa ko oc, .slice va9 kv vc9, .int .i64 cf] 86)).alloc (.cells #[.int .i64 sid] 2)).heap[wr.heap.size + 1]? = some (.cells #[.int .i64 sid] 2 (0, 0))) := heap_alloc2_new _ _ _
       have Y3 := hdn (below_row A3.out (row_lt Y2.out) Y2.out)
       have X3 := hdn (below_row A3.out (row_lt (below_row A2.out (row_lt X1.out) X1.out)) (below_row A2.out (row_lt X1.out) X1.out))
       have hB1 := D1.out.size
       have hT1 := row_lt X1.out
       have U3 := hdn ((U1.out.below A2.out).below A3.out)
       have D3 := hdn (D1.out.trans ((A2.out.mono hB1).trans (A3.out.mono (Nat.le_trans hB1 A2.out.size))))
       clear A2 A3 Y2 U1 D1 X1
       go_wp2_with fail
       clear d0 d1 d2 d3 d4 d5 c0 c1 c2 c3 c4 c5
       generalize ((wr.alloc (.cells #[.int .i64 sid, .int .i64 cn, .slice za nz zc, .slice oa ko oc, .slice va9 kv vc9, .int .i64 cf] 86)).alloc (.cells #[.int .i64 sid] 2)) = W3 at *
       generalize wr.heap.size = nb9 at *
       refine (wrLine w1.heap.size m wSnap [sid] W3 (nb9 + 1) U3.out D3.out.size Z3.out (by omega) (fun W' h => HPW.out W' (D3.out.trans h)) (fun v hv => by simp at hv; subst hv; exact hsi) (by simp) (by simp [wSnap]) (by omega) 1).mono ?_
       rintro e w4 ⟨rfl, hu, hb⟩
       have U4 := hdn hu
       have D4 := hdn (D3.out.trans hb.1)
       have X4 := hdn (hb.row X3.out (by omega) (by decide))
       have Y4 := hdn (hb.row Y3.out (by omega) (by decide))
       clear hu hb U3 D3 X3 Y3 Z3
       obtain ⟨d0, d1, d2, d3, d4, d5⟩ := cells6v Y4.out
       go_wp2_with fail
       clear d0 d1 d2 d3 d4 d5
       refine (CT.out w4 D4.out).mono ?_
       rintro e w5 ⟨rfl, hb⟩
       have U5 := hdn (U4.out.below hb)
       have D5 := hdn (D4.out.trans (hb.mono D4.out.size))
       have X5 := hdn (below_row hb (row_lt X4.out) X4.out)
       clear hb U4 D4 X4 Y4 CT
       go_wp2_with fail
       refine (writeString_any w1.heap.size w1.heap.size (m ++ lineL wSnap [sid]) (caseW ⟨cn, cf, zs, os, vs, ko, kv⟩) w5 U5.out (by
        have h1 := lineL_len wSnap [sid] (fun v hv => by simp at hv; subst hv; exact hsi)
        have e : wSnap.length = 4 := rfl
        simp at h1
        rw [List.length_append]
        omega) (by omega) D5.out.size).mono ?_
       rintro e w6 ⟨rfl, hu, hb⟩
       rw [List.append_assoc, <- HFL.out] at hu
       have U6 := hdn hu
       have D6 := hdn (D5.out.trans hb.1)
       have X6 := hdn (hb.row X5.out (by omega) (by decide))
       clear hu hb U5 D5 X5
       rw [<- HNX.out] at U6
       go_wp2
       first
        | exact ⟨⟨k + 1, _, by omega, by first | rfl | go_num, rfl, U6.out, D6.out, X6.out⟩, by simp [intOf]; omega⟩
        | (go_roundw
           case rel => exact ⟨k + 1, _, by omega, by first | rfl | go_num, rfl, U6.out, D6.out, X6.out⟩
           case measure => simp [intOf]; omega)
     · have hin : ¬ ((k : Int) < nS) := by omega
       have hkn : k = nS := by omega
       have HM9 : Hid (m = m0 ++ S.flatMap snL) := by show _ = _; rw [HM.out, hkn, <- HNS.out, List.take_length]
       clear HM
       obtain ⟨t0, t1, t2, t3, t4⟩ := cells5 X1.out
       go_wp2_with fail
       clear t0 t1 t2 t3 t4
       obtain ⟨m1, HM1⟩ := nmd m
       have HM1L : Hid (m.length <= 1161000) := by
        have h1 := HSS.out S.length (by rw [HNS.out]; exact hs8)
        have h2 := HM0L.out
        rw [List.take_length] at h1
        show _ <= _
        rw [HM9.out, List.length_append]
        omega
       rw [HM1.out] at HM1L HM9 U1
       have U4 := hdn U1.out
       have D4 := hdn D1.out
       have X4 := hdn X1.out
       clear U1 D1 X1
       go_loopw [53] (fun ti wr => ∃ (k : Nat) (m : List UInt8), k <= nV /\ ti = .int .i64 k /\ Hid (m = m1 ++ (V.take k).flatMap vnL) /\ BU w1.heap.size w1.heap.size m wr /\ Below w1.heap.size w1 wr /\ wr.heap[tb]? = some (.cells #[.string nb, .int .i64 nx, .slice sa nS sc, .slice va nV vc, .int .i64 pub] 36 (0, 0))) (fun ti _ => nV - (intOf ti).toNat)
       case atStart => exact ⟨0, m1, Nat.zero_le _, rfl, by show _ = _; simp, U4.out, D4.out, X4.out⟩
       case round =>
        clear D4 X4 U4
        obtain ⟨k, m, hk, rfl, HM, hu, hb, hx⟩ := hrel
        have U1 := hdn hu
        have D1 := hdn hb
        have X1 := hdn hx
        clear hu hb hx
        by_cases hlt : k < nV
        · have hin : (k : Int) < nV := by omega
          have hkX : k < V.length := by rw [HNV.out]; exact hlt
          obtain ⟨b2, off2, e, c0, c1, c2, c3⟩ := (HTN.out wr D1.out).v.at hkX
          subst e
          have hm := List.getElem_mem hkX
          have hml : m.length <= 1177900 := by
           have h1 := HVS.out k (by omega)
           have h2 := HM1L.out
           rw [HM.out, List.length_append]
           omega
          have HNX : Hid (m1 ++ (V.take (k + 1)).flatMap vnL = m ++ vnL V[k]) := by show _ = _; rw [flat_step vnL hkX, HM.out, List.append_assoc]
          have HE := hdn (HOK.out.ov _ hm)
          have HRO := hdn (HRM.out.1 _ hm)
          have CT : Hid (∀ W, Below w1.heap.size w1 W -> Calls Tryz.prog 63 #[.agg #[.slice V[k].ra V[k].R.length V[k].rc, .slice V[k].la V[k].L.length V[k].lc]] W fun e w' => e = .returned (.string (txt (planW V[k].R V[k].L))) /\ Below W.heap.size W w') := fun W hb => planTxI V[k] W ((HTN.out W hb).v.2 _ hm) HE.out HRO.out (HPW.out W hb)
          have hsi : (0 <= V[k].id /\ V[k].id <= 1000000000) /\ (0 <= V[k].sn /\ V[k].sn <= 1000000000) := ⟨HRR.out.vi _ hm, HRR.out.vs _ hm⟩
          have hcl := planW_len V[k].R V[k].L
          have HFL : Hid (vnL V[k] = lineL wVers [V[k].id, V[k].sn] ++ planW V[k].R V[k].L) := rfl
          clear HE HRO HM hm
          generalize V[k] = s at *
          obtain ⟨sid, ssn, R, L, ra, la, rc, lc⟩ := s
          simp only at c0 c1 c2 c3 CT hsi hcl HFL
          obtain ⟨nr, HNR⟩ := nmd R.length
          rw [HNR.out] at c2 CT
          obtain ⟨nl, HNL⟩ := nmd L.length
          rw [HNL.out] at c3 CT
          have A2 := hdn ((Below.refl wr.heap.size wr).alloc (Nat.le_refl _) (.cells #[.int .i64 sid, .int .i64 ssn, .slice ra nr rc, .slice la nl lc] 70))
          have Y2 : Hid ((wr.alloc (.cells #[.int .i64 sid, .int .i64 ssn, .slice ra nr rc, .slice la nl lc] 70)).heap[wr.heap.size]? = some (.cells #[.int .i64 sid, .int .i64 ssn, .slice ra nr rc, .slice la nl lc] 70 (0, 0))) := heap_alloc_new _ _
          obtain ⟨d0, d1, d2, d3⟩ := cells4v Y2.out
          have A3 := hdn ((Below.refl (wr.alloc (.cells #[.int .i64 sid, .int .i64 ssn, .slice ra nr rc, .slice la nl lc] 70)).heap.size (wr.alloc (.cells #[.int .i64 sid, .int .i64 ssn, .slice ra nr rc, .slice la nl lc] 70))).alloc (Nat.le_refl _) (.cells #[.int .i64 sid, .int .i64 ssn] 2))
          have Z3 : Hid (((wr.alloc (.cells #[.int .i64 sid, .int .i64 ssn, .slice ra nr rc, .slice la nl lc] 70)).alloc (.cells #[.int .i64 sid, .int .i64 ssn] 2)).heap[wr.heap.size + 1]? = some (.cells #[.int .i64 sid, .int .i64 ssn] 2 (0, 0))) := heap_alloc2_new _ _ _
          have Y3 := hdn (below_row A3.out (row_lt Y2.out) Y2.out)
          have X3 := hdn (below_row A3.out (row_lt (below_row A2.out (row_lt X1.out) X1.out)) (below_row A2.out (row_lt X1.out) X1.out))
          have hB1 := D1.out.size
          have hT1 := row_lt X1.out
          have U3 := hdn ((U1.out.below A2.out).below A3.out)
          have D3 := hdn (D1.out.trans ((A2.out.mono hB1).trans (A3.out.mono (Nat.le_trans hB1 A2.out.size))))
          clear A2 A3 Y2 U1 D1 X1
          go_wp2_with fail
          clear d0 d1 d2 d3 c0 c1 c2 c3
          generalize ((wr.alloc (.cells #[.int .i64 sid, .int .i64 ssn, .slice ra nr rc, .slice la nl lc] 70)).alloc (.cells #[.int .i64 sid, .int .i64 ssn] 2)) = W3 at *
          generalize wr.heap.size = nb9 at *
          refine (wrLine w1.heap.size m wVers [sid, ssn] W3 (nb9 + 1) U3.out D3.out.size Z3.out (by omega) (fun W' h => HPW.out W' (D3.out.trans h)) (fun x hx => by simp at hx; rcases hx with rfl | rfl <;> first | exact hsi.1 | exact hsi.2) (by simp) (by simp [wVers]) (by omega) 2).mono ?_
          rintro e w4 ⟨rfl, hu, hb⟩
          have U4 := hdn hu
          have D4 := hdn (D3.out.trans hb.1)
          have X4 := hdn (hb.row X3.out (by omega) (by decide))
          have Y4 := hdn (hb.row Y3.out (by omega) (by decide))
          clear hu hb U3 D3 X3 Y3 Z3
          obtain ⟨d0, d1, d2, d3⟩ := cells4v Y4.out
          go_wp2_with fail
          clear d0 d1 d2 d3
          refine (CT.out w4 D4.out).mono ?_
          rintro e w5 ⟨rfl, hb⟩
          have U5 := hdn (U4.out.below hb)
          have D5 := hdn (D4.out.trans (hb.mono D4.out.size))
          have X5 := hdn (below_row hb (row_lt X4.out) X4.out)
          clear hb U4 D4 X4 Y4 CT
          go_wp2_with fail
          refine (writeString_any w1.heap.size w1.heap.size (m ++ lineL wVers [sid, ssn]) (planW R L) w5 U5.out (by
           have h1 := lineL_len wVers [sid, ssn] (fun x hx => by simp at hx; rcases hx with rfl | rfl <;> first | exact hsi.1 | exact hsi.2)
           have e : wVers.length = 7 := rfl
           simp at h1
           rw [List.length_append]
           omega) (by omega) D5.out.size).mono ?_
          rintro e w6 ⟨rfl, hu, hb⟩
          rw [List.append_assoc, <- HFL.out] at hu
          have U6 := hdn hu
          have D6 := hdn (D5.out.trans hb.1)
          have X6 := hdn (hb.row X5.out (by omega) (by decide))
          clear hu hb U5 D5 X5
          rw [<- HNX.out] at U6
          go_wp2
          first
           | exact ⟨⟨k + 1, _, by omega, by first | rfl | go_num, rfl, U6.out, D6.out, X6.out⟩, by simp [intOf]; omega⟩
           | (go_roundw
              case rel => exact ⟨k + 1, _, by omega, by first | rfl | go_num, rfl, U6.out, D6.out, X6.out⟩
              case measure => simp [intOf]; omega)
        · have hin : ¬ ((k : Int) < nV) := by omega
          have hkn : k = nV := by omega
          have HFN : Hid (m = stH T ++ (T.take (i + 1)).flatMap tnL) := by
           show _ = _
           rw [HNX0.out, HTX.out, HM.out, hkn, HM9.out, <- HM0.out, <- HNV.out, List.take_length]
           simp only [List.append_assoc]
          clear HM
          go_wp2
          first
           | exact ⟨⟨i + 1, m, by omega, by first | rfl | go_num, HFN.out, U1.out, D1.out⟩, by simp [intOf]; omega⟩
           | (go_roundw
              case rel => exact ⟨i + 1, m, by omega, by first | rfl | go_num, HFN.out, U1.out, D1.out⟩
              case measure => simp [intOf]; omega)
  · have hin : ¬ ((i : Int) < n) := by omega
    have hkn : i = n := by omega
    have HF2 : Hid (x = txt l) := by show _ = _; rw [HF.out, HL.out, hkn]; unfold stL; rw [<- HN.out, List.take_length]
    have hne : l ≠ [] := by
     rw [HL.out, HST.out]
     unfold lineL
     simp
    go_wp2_with fail
    refine (string_any w1.heap.size w1.heap.size l wr U1.out hne).mono ?_
    rintro e w2 ⟨rfl, hb⟩
    have D2 := hdn (D1.out.trans hb.1)
    clear hb
    go_wp2
    go_ret
    exact ⟨by rw [HF2.out]; rfl, B1.out.b.trans (D2.out.mono B1.out.b.size)⟩
set_option maxRecDepth 20000 in
set_option maxHeartbeats 4000000 in
theorem lawStoreText (a : Option Addr) (c : Nat) (T : List TN) (w : World) (hA : TensAt w a T) (hn : T.length <= 9223372036854775807) (hok : ∀ t ∈ T, TNOk 9223372036854775807 t) (hG : GS w) (hP : PW w) :
 Calls Tryz.prog 6 #[.agg #[.slice a T.length c]] w fun e w' => e = .returned (.bool true) /\ Below w.heap.size w w' := by
 have HA := hdn hA
 have HG := hdn hG
 have HP := hdn hP
 have CZ := hdn (fun W (h : TensAt W a T) => szStore_any a c T 1048576 W h (by omega) (by omega) hn hok)
 have HSM : Hid ((useTs T : Int) <= 1048576 -> T.length <= 1048576 /\ (∀ t ∈ T, TNOk 1048576 t) /\ ∀ t ∈ T, t.small) := szW_small hn hok
 clear hA hok hG hP
 obtain ⟨x, HX⟩ := nmd (szW 1048576 (useTs T))
 have HXN : Hid (1048576 < (useTs T : Int) -> x = -1) := fun h => HX.out.symm.trans (szW_lt (by omega))
 have HXY : Hid ((useTs T : Int) <= 1048576 -> 0 <= x) := fun h => by have := HX.out.symm.trans (szW_le h); omega
 rw [HX.out] at CZ
 obtain ⟨r, HR⟩ := nmd (txt (stW T))
 obtain ⟨n, HN⟩ := nmd T.length
 rw [HN.out] at CZ HSM ⊢
 clear hn HX
 have B0 := hdn (B1x.new 24 w #[.slice a n c])
 have q0 := cell1x B0.out.s
 go_enter Tryz.func6, Tryz.ntmps6
 go_wp2_with fail
 clear q0
 refine (CZ.out _ (HA.out.below B0.out.b)).mono ?_
 rintro e w1 ⟨rfl, hb⟩
 have B1 := hdn (B0.out.below hb)
 clear hb B0 CZ
 by_cases hx : (useTs T : Int) <= 1048576
 · have hx0 := HXY.out hx
   have hxn : ¬ (x < 0) := by omega
   obtain ⟨hs1, hs2, hs3⟩ := HSM.out hx
   have HOK := hdn hs2
   have CT := hdn (fun W (h : TensAt W a T) => toStore_any a c T W h (by rw [HN.out]; exact hs1) hs2)
   have HCP := hdn (fun (S : List TN) (hp : S.map TN.plain = T.map TN.plain) (hr : ∀ s ∈ S, TN.room s) => TSm.copy (by rw [HN.out]; exact hs1) hs2 hs3 hp hr)
   rw [HN.out] at CT
   have HLN : Hid (∀ S : List TN, S.map TN.plain = T.map TN.plain -> S.length = n) := fun S h => (map_len h).trans HN.out
   have HSB : Hid (∀ S : List TN, S.map TN.plain = T.map TN.plain -> txt (stW S) = r) := fun S h => by rw [stW_same h]; exact HR.out
   clear hs2 hs3 hx HXN HXY HSM
   have q0 := cell1x B1.out.s
   go_wp2_with fail
   clear q0
   refine (CT.out _ (HA.out.below B1.out.b)).mono ?_
   rintro e w2 ⟨g2, S2, rfl, ⟨hp2, hr2⟩, hb, hk⟩
   have B2 := hdn (B1.out.below hb)
   have K2 := hdn hk.now
   have T2 := hdn (HCP.out S2 hp2 hr2)
   clear hb hk B1
   go_wp2_with fail
   have CSp := specStoreText_any (some ⟨g2, 0, none⟩) n S2 w2 K2.out T2.out
   rw [HLN.out S2 hp2, HSB.out S2 hp2] at CSp
   refine CSp.mono ?_
   rintro e w3 ⟨rfl, hb⟩
   have B3 := hdn (B2.out.below hb)
   clear hb B2 K2 T2 CSp hp2 hr2
   have q0 := cell1x B3.out.s
   go_wp2_with fail
   clear q0
   refine (CT.out _ (HA.out.below B3.out.b)).mono ?_
   rintro e w4 ⟨g4, S4, rfl, ⟨hp4, hr4⟩, hb, hk⟩
   have X4 : Hid (Below w4.heap.size w4 (w4.alloc (.cells #[.slice (some ⟨g4, 0, none⟩) n n] 29))) := (Below.refl _ _).alloc (Nat.le_refl _) _
   have B4 := hdn ((B3.out.below hb).below X4.out)
   have K4 := hdn (hk.now.below X4.out)
   have T4 := hdn (HCP.out S4 hp4 hr4)
   have Y4 : Hid ((w4.alloc (.cells #[.slice (some ⟨g4, 0, none⟩) n n] 29)).heap[w4.heap.size]? = some (.cells #[.slice (some ⟨g4, 0, none⟩) n n] 29 (0, 0))) := heap_alloc_new _ _
   clear hb hk B3 X4
   have y0 := cell1x Y4.out
   go_wp2_with fail
   clear y0
   generalize w4.alloc (.cells #[.slice (some ⟨g4, 0, none⟩) n n] 29) = W4 at *
   generalize w4.heap.size = bx at *
   have CIm := implStoreText_any (some ⟨g4, 0, none⟩) n S4 W4 K4.out T4.out (HG.out.below B4.out.b (Nat.le_refl _)) (HP.out.below B4.out.b (Nat.le_refl _))
   rw [HLN.out S4 hp4, HSB.out S4 hp4] at CIm
   refine CIm.mono ?_
   rintro e w5 ⟨rfl, hb⟩
   have B5 := hdn (B4.out.below hb)
   have K5 := hdn (K4.out.below hb)
   have Y5 := hdn (below_row hb (row_lt Y4.out) Y4.out)
   have HP4 := hdn hp4
   clear hb B4 K4 Y4 CIm T4 hr4 hp4
   have hrr : (r.toList == r.toList) = true := str_eq rfl
   have q0 := cell1x B5.out.s
   have y0 := cell1x Y5.out
   have kS := And.intro q0 y0
   have EQ : Hid (∀ (g6 : Nat) (S6 : List TN) W, Below w5.heap.size w5 W -> S6.map TN.plain = T.map TN.plain -> TensAt W (some ⟨g6, 0, none⟩) S6 -> Calls Tryz.prog 12 #[.agg #[.slice (some ⟨g4, 0, none⟩) n n], .agg #[.slice (some ⟨g6, 0, none⟩) n n]] W fun e w' => e = .returned (.bool true) /\ Below W.heap.size W w') := fun g6 S6 W hb hp6 hk6 => by
    have := eqStore_same (some ⟨g4, 0, none⟩) (some ⟨g6, 0, none⟩) n n S4 S6 W (K5.out.below hb) hk6 (hp6.trans HP4.out.symm) (by rw [HLN.out S4 HP4.out]; exact hs1) (fun s hs => by obtain ⟨t, ht, e⟩ := mem_plain HP4.out hs; exact (HOK.out t ht).plain e)
    rw [HLN.out S4 HP4.out] at this
    exact this
   clear HCP HSB HP4 K5 Y5 HOK HLN
   go_wp2_with fail
   go_region_held3 (fun W => W.cell? ⟨w.heap.size, 0, none⟩ = some (.slice a n c) /\ W.cell? ⟨bx, 0, none⟩ = some (.slice (some ⟨g4, 0, none⟩) n n)) (first | with_reducible exact kS | go_keep) ((first
    | (go_at_call 10
       with_reducible refine (CT.out w5.drew (HA.out.below B5.out.b.drew)).mono ?_
       rintro e w6 ⟨g6, S6, rfl, ⟨hp6, hr6⟩, hb, hk⟩
       have D6 : Hid (Below w5.heap.size w5 w6) := (Below.refl _ _).drew.trans (show Below w5.heap.size w5.drew w6 from hb)
       have K6 := hdn hk.now
       have P6 := hdn hp6
       have kS := And.intro (keepC q0 D6.out) (keepC y0 D6.out)
       clear hb hk hp6 hr6)
    | (go_at_call 12
       with_reducible refine (EQ.out g6 S6 w6 D6.out P6.out K6.out).mono ?_
       rintro e w7 ⟨rfl, hb⟩
       have D7 : Hid (Below w5.heap.size w5 w7) := D6.out.trans (hb.mono D6.out.size)
       have B7 := hdn (B5.out.below D7.out)
       have kS := And.intro (keepC q0 D7.out) (keepC y0 D7.out)
       clear hb)))
   all_goals
    go_wp2
    go_ret
    exact ⟨rfl, B7.out.b⟩
 · have hr := HXN.out (by omega)
   subst hr
   go_wp2
   go_ret
   exact ⟨rfl, B1.out.b⟩
end Go.Proofs.YtehfjfmfpdgibaaGreatDoor
