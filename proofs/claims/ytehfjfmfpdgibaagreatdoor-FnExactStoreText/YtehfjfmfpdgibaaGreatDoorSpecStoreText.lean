import Derived.Test.YtehfjfmfpdgibaaGreatDoorPack3
import Derived.Test.YtehfjfmfpdgibaaGreatDoorPack10
import Derived.Test.YtehfjfmfpdgibaaGreatDoorPack15
import Derived.Test.YtehfjfmfpdgibaaGreatDoorAppendNo0
import Derived.Test.YtehfjfmfpdgibaaGreatDoorSpecPlanText
namespace Go.Proofs.YtehfjfmfpdgibaaGreatDoor
open Go.RowKit
theorem caseTx (s : SN) (W : World) (hA : SNAt W s) (ho : SNOk 1048576 s) (hr : s.room) : Calls Tryz.prog 58 #[.agg #[.int .i64 s.c.n, .slice s.za s.c.zs.length s.zc, .slice s.oa s.c.ko s.oc, .slice s.va s.c.kv s.vc, .int .i64 s.c.f]] W fun e w' => e = .returned (.string (txt (caseW s.c))) /\ Below W.heap.size W w' := by
 have := specCaseText_cap s.c.n s.c.f s.za s.oa s.va s.zc s.c.ko s.oc s.c.kv s.vc s.c.zs s.c.os s.c.vs W hA.z hA.o hA.v ho.o ho.v (by have := ho.om; omega) (by have := ho.vm; omega) hr
 rw [<- apply_ite txt] at this
 exact this
theorem planTx (v : VN) (W : World) (hA : VNAt W v) (ho : VNOk 1048576 v) (hr : v.room) : Calls Tryz.prog 59 #[.agg #[.slice v.ra v.R.length v.rc, .slice v.la v.L.length v.lc]] W fun e w' => e = .returned (.string (txt (planW v.R v.L))) /\ Below W.heap.size W w' := by
 have := specPlanText_any v.ra v.la v.rc v.lc v.R v.L W hA.r hA.l ho.n ho.l ho.i (fun r hr2 => .inr (by obtain ⟨g, e⟩ := (hr r hr2).2; exact ⟨g, 0, e⟩))
 rw [<- apply_ite txt] at this
 exact this
theorem lineTx (wd : List UInt8) (ns : List Int) (hs : Small ns) (hn : ns.length <= 2) (hw : wd.length <= 100) (c : Nat) (W : World) (g : Nat) (h : W.heap[g]? = some (.cells (cellsOf ns) 2 (0, 0))) : Calls Tryz.prog 57 #[.string (txt wd), .slice (some ⟨g, 0, none⟩) ns.length c] W fun e w' => e = .returned (.string (txt (lineL wd ns))) /\ Below W.heap.size W w' :=
 l2Line_any wd (some ⟨g, 0, none⟩) c ns W (IntsAt.of_row h) hs (by omega) (by omega)
theorem row_drewS {w : World} {g : Nat} {o : Obj} (h : w.heap[g]? = some o) : w.drew.heap[g]? = some o := h
set_option maxRecDepth 20000 in
set_option maxHeartbeats 8000000 in
theorem specStoreText_any (a : Option Addr) (c : Nat) (T : List TN) (w : World) (hA : TensAt w a T) (hT : TSm T) :
 Calls Tryz.prog 24 #[.agg #[.slice a T.length c]] w fun e w' => e = .returned (.string (txt (stW T))) /\ Below w.heap.size w w' := by
 obtain ⟨x, HX⟩ := nmd (txt (stW T))
 rw [HX.out]
 have HA := hdn hA
 have HT := hdn hT
 have CS := hdn (fun W (h : TensAt W a T) => specStore_any a c T W h hT)
 clear hA hT
 have HN0 : Hid (storeB T = false -> x = txt []) := fun h => by rw [<- HX.out]; unfold stW; rw [h]; rfl
 have HY0 : Hid (storeB T = true -> x = txt (stL T)) := fun h => by rw [<- HX.out]; unfold stW; rw [h]; rfl
 have HRT : Hid (storeB T = true -> T.length <= 5 /\ ∀ t ∈ T, TNR t) := storeB_right
 obtain ⟨n, HN⟩ := nmd T.length
 rw [HN.out] at CS HRT ⊢
 generalize storeB T = sb at *
 clear HX
 have B0 := hdn (B1x.new 29 w #[.slice a n c])
 have q0 := cell1x B0.out.s
 go_enter Tryz.func24, Tryz.ntmps24
 go_wp2_with fail
 clear q0
 refine (CS.out _ (HA.out.below B0.out.b)).mono ?_
 rintro e w1 ⟨rfl, hb⟩
 have B1 := hdn (B0.out.below hb)
 clear hb B0 CS
 cases sb
 · have HF := hdn (HN0.out rfl)
   go_wp2
   go_ret
   exact ⟨by rw [HF.out]; rfl, B1.out.b⟩
 have HF := hdn (HY0.out rfl)
 obtain ⟨hn5, hR⟩ := HRT.out rfl
 have HR := hdn hR
 clear hR HN0 HY0 HRT
 have q0 := cell1x B1.out.s
 have LH := hdn (fun W g h => lineTx wStore [(n : Int)] (fun v hv => by simp at hv; subst hv; omega) (by simp) (by simp [wStore]) 1 W g h)
 have HST : Hid (stH T = lineL wStore [(n : Int)]) := by show _ = _; unfold stH; rw [HN.out]
 have hH := stH_len (T := T) (by rw [HN.out]; exact hn5)
 have HHL := hdn hH
 clear hH
 have A2 := hdn ((Below.refl w1.heap.size w1).alloc (Nat.le_refl _) (.cells #[.int .i64 (n : Int)] 2))
 have Z2 : Hid ((w1.alloc (.cells #[.int .i64 (n : Int)] 2)).heap[w1.heap.size]? = some (.cells #[.int .i64 (n : Int)] 2 (0, 0))) := heap_alloc_new _ _
 go_wp2_with fail
 clear q0
 generalize (w1.alloc (.cells #[.int .i64 (n : Int)] 2)) = W2 at *
 refine (LH.out W2 _ Z2.out).mono ?_
 rintro e w3 ⟨rfl, hb⟩
 have B3 := hdn ((B1.out.below A2.out).below hb)
 clear hb B1 A2 Z2 LH
 rw [<- HST.out]
 go_wp2_with fail
 go_loopw [3, 4] (fun ts ti wr => ∃ (i : Nat) (l : List UInt8), i <= n /\ ti = .int .i64 i /\ ts = .string (txt l) /\ Hid (l = stH T ++ (T.take i).flatMap tnL) /\ B1x 29 w wr #[.slice a n c]) (fun _ ti _ => n - (intOf ti).toNat)
 case atStart => exact ⟨0, _, Nat.zero_le _, rfl, rfl, by show _ = _; simp, B3.out⟩
 case round =>
  obtain ⟨i, l, hi, rfl, rfl, HL, hb⟩ := hrel
  have D1 := hdn hb
  clear hb B3
  have q0 := cell1x D1.out.s
  by_cases hlt : i < n
  · have hin : (i : Int) < n := by omega
    have hiX : i < T.length := by rw [HN.out]; exact hlt
    obtain ⟨b, off, e, c0, c1, c2, c3, c4⟩ := (HA.out.below D1.out.b).at hiX
    subst e
    have hm := List.getElem_mem hiX
    have hll : l.length <= 1000100 := by
     have h1 := tnS_len HR.out i (by omega)
     have h2 := HHL.out
     rw [HL.out, List.length_append]
     omega
    have HTN := hdn ((HA.out.below D1.out.b).2 _ hm)
    have HOK := hdn (HT.out.ok _ hm)
    have HRM := hdn (HT.out.rm _ hm)
    have HRR := hdn (HR.out _ hm)
    have HNX0 : Hid (stH T ++ (T.take (i + 1)).flatMap tnL = l ++ tnL T[i]) := by show _ = _; rw [flat_step tnL hiX, HL.out, List.append_assoc]
    generalize T[i] = t at *
    clear hm HL
    have hs8 := HRR.out.s8
    have hv8 := HRR.out.v8
    have HHT := hdn (tnH_len HRR.out)
    have HSS := hdn (fun k hk => snS_len HRR.out k hk)
    have HVS := hdn (fun k hk => vnS_len HRR.out k hk)
    have LT := hdn (fun W g h => lineTx (wTen ++ t.nm) [t.nx, t.pub] (fun x hx => by simp at hx; rcases hx with rfl | rfl <;> first | exact HRR.out.nx | exact HRR.out.pb) (by simp) (by simp [wTen]; have := HRR.out.nm; omega) 2 W g h)
    have HTX : Hid (tnL t = tnH t ++ (t.S.flatMap snL ++ t.V.flatMap vnL)) := rfl
    have HTH : Hid (tnH t = lineL (wTen ++ t.nm) [t.nx, t.pub]) := rfl
    have hnm := HRR.out.nm
    have HWT : Hid (txt (wTen ++ t.nm) = txt wTen ++ txt t.nm) := by show _ = _; rw [txt_app]
    obtain ⟨nm, nx, S, V, pub, sa, va, sc, vc⟩ := t
    simp only at c0 c1 c2 c3 c4 hs8 hv8 HSS HVS LT HTX HTH hnm HWT
    have hnz : (txt nm).size <= 12 := by rw [txt_size]; exact hnm
    rw [HWT.out] at LT
    rw [<- HTH.out] at LT
    generalize txt nm = nb at *
    obtain ⟨nS, HNS⟩ := nmd S.length
    obtain ⟨nV, HNV⟩ := nmd V.length
    rw [HNS.out] at c2 hs8
    rw [HNV.out] at c3 hv8
    have A2 := hdn ((Below.refl wr.heap.size wr).alloc (Nat.le_refl _) (.cells #[.string nb, .int .i64 nx, .slice sa nS sc, .slice va nV vc, .int .i64 pub] 36))
    have X2 : Hid ((wr.alloc (.cells #[.string nb, .int .i64 nx, .slice sa nS sc, .slice va nV vc, .int .i64 pub] 36)).heap[wr.heap.size]? = some (.cells #[.string nb, .int .i64 nx, .slice sa nS sc, .slice va nV vc, .int .i64 pub] 36 (0, 0))) := heap_alloc_new _ _
    have D2 := hdn (D1.out.below A2.out)
    obtain ⟨d0, d1, d2, d3, d4⟩ := cells5 X2.out
    have htz : (txt l).size <= 1000100 := by rw [txt_size]; exact hll
    have htn : (txt (tnH ⟨nm, nx, S, V, pub, sa, va, sc, vc⟩)).size <= 100 := by rw [txt_size]; exact HHT.out
    have HCA : Hid (txt l ++ txt (tnH ⟨nm, nx, S, V, pub, sa, va, sc, vc⟩) = txt (l ++ tnH ⟨nm, nx, S, V, pub, sa, va, sc, vc⟩)) := txt_app _ _
    have hsz0 : ¬ (9223372036854775807 < 7 + nb.size) := by omega
    have hsz1 : ¬ (9223372036854775807 < (txt l).size + (txt (tnH ⟨nm, nx, S, V, pub, sa, va, sc, vc⟩)).size) := by omega
    have A3 := hdn ((Below.refl (wr.alloc (.cells #[.string nb, .int .i64 nx, .slice sa nS sc, .slice va nV vc, .int .i64 pub] 36)).heap.size (wr.alloc (.cells #[.string nb, .int .i64 nx, .slice sa nS sc, .slice va nV vc, .int .i64 pub] 36))).alloc (Nat.le_refl _) (.cells #[.int .i64 nx, .int .i64 pub] 2))
    have Z3 : Hid (((wr.alloc (.cells #[.string nb, .int .i64 nx, .slice sa nS sc, .slice va nV vc, .int .i64 pub] 36)).alloc (.cells #[.int .i64 nx, .int .i64 pub] 2)).heap[wr.heap.size + 1]? = some (.cells #[.int .i64 nx, .int .i64 pub] 2 (0, 0))) := heap_alloc2_new _ _ _
    have X3 := hdn (below_row A3.out (row_lt X2.out) X2.out)
    have D3 := hdn (D2.out.below A3.out)
    have N3 := hdn ((HTN.out.below A2.out).below A3.out)
    clear D2 A2 A3 X2
    go_wp2_with fail
    clear d0 d1 d2 d3 d4 c0 c1 c2 c3 c4 q0
    generalize ((wr.alloc (.cells #[.string nb, .int .i64 nx, .slice sa nS sc, .slice va nV vc, .int .i64 pub] 36)).alloc (.cells #[.int .i64 nx, .int .i64 pub] 2)) = W3 at *
    have htb := row_lt D1.out.s
    generalize wr.heap.size = tb at *
    refine (LT.out W3 _ Z3.out).mono ?_
    rintro e w4 ⟨rfl, hb⟩
    have D4 := hdn (D3.out.below hb)
    have X4 := hdn (below_row hb (row_lt X3.out) X3.out)
    have N4 := hdn (N3.out.below hb)
    clear hb D3 X3 Z3 LT HWT N3
    go_wp2_with fail
    clear hsz0 hsz1
    obtain ⟨m0, HM0⟩ := nmd (l ++ tnH ⟨nm, nx, S, V, pub, sa, va, sc, vc⟩)
    have HM0L : Hid (m0.length <= 1000200) := by show _ <= _; rw [<- HM0.out, List.length_append]; have := HHT.out; omega
    go_loopw [3, 6] (fun ts ti wr => ∃ (k : Nat) (m : List UInt8), k <= nS /\ ti = .int .i64 k /\ ts = .string (txt m) /\ Hid (m = m0 ++ (S.take k).flatMap snL) /\ B1x 29 w wr #[.slice (some ⟨b, off, none⟩) n c] /\ TNAt wr ⟨nm, nx, S, V, pub, sa, va, sc, vc⟩ /\ wr.heap[tb]? = some (.cells #[.string nb, .int .i64 nx, .slice sa nS sc, .slice va nV vc, .int .i64 pub] 36 (0, 0))) (fun _ ti _ => nS - (intOf ti).toNat)
    case atStart => exact ⟨0, m0, Nat.zero_le _, rfl, by rw [HCA.out, HM0.out], by show _ = _; simp, D4.out, N4.out, X4.out⟩
    case round =>
     clear D4 X4 N4
     obtain ⟨k, m, hk, rfl, rfl, HM, hb, hn9, hx⟩ := hrel
     have D1 := hdn hb
     have X1 := hdn hx
     have N1 := hdn hn9
     clear hb hx hn9
     obtain ⟨t0, t1, t2, t3, t4⟩ := cells5 X1.out
     by_cases hlt : k < nS
     · have hin : (k : Int) < nS := by omega
       have hkX : k < S.length := by rw [HNS.out]; exact hlt
       obtain ⟨b2, off2, e, c0, c1, c2, c3, c4, c5⟩ := N1.out.s.at hkX
       subst e
       have hm := List.getElem_mem hkX
       have hml : m.length <= 1161100 := by
        have h1 := HSS.out k (by omega)
        have h2 := HM0L.out
        rw [HM.out, List.length_append]
        omega
       have HNX : Hid (m0 ++ (S.take (k + 1)).flatMap snL = m ++ snL S[k]) := by show _ = _; rw [flat_step snL hkX, HM.out, List.append_assoc]
       have HE := hdn (HOK.out.os _ hm)
       have HRO := hdn (HRM.out.2 _ hm)
       have HEA := hdn (N1.out.s.2 _ hm)
       have LL : Hid (∀ W g, W.heap[g]? = some (.cells #[.int .i64 S[k].id] 2 (0, 0)) -> Calls Tryz.prog 57 #[.string ⟨#[115, 110, 97, 112]⟩, .slice (some ⟨g, 0, none⟩) 1 1] W fun e w' => e = .returned (.string (txt (lineL wSnap [S[k].id]))) /\ Below W.heap.size W w') := fun W g h => lineTx wSnap [S[k].id] (fun v hv => by simp at hv; subst hv; exact HRR.out.si _ hm) (by simp) (by simp [wSnap]) 1 W g h
       have CT : Hid (∀ W, Below wr.heap.size wr W -> Calls Tryz.prog 58 #[.agg #[.int .i64 S[k].c.n, .slice S[k].za S[k].c.zs.length S[k].zc, .slice S[k].oa S[k].c.ko S[k].oc, .slice S[k].va S[k].c.kv S[k].vc, .int .i64 S[k].c.f]] W fun e w' => e = .returned (.string (txt (caseW S[k].c))) /\ Below W.heap.size W w') := fun W hb => caseTx S[k] W (HEA.out.below hb) HE.out HRO.out
       have hl1 : (txt (lineL wSnap [S[k].id])).size <= 200 := by
        have h1 := lineL_len wSnap [S[k].id] (fun v hv => by simp at hv; subst hv; exact HRR.out.si _ hm)
        have e : wSnap.length = 4 := rfl
        simp at h1
        rw [txt_size]
        omega
       have hl2 : (txt (caseW S[k].c)).size <= 20000 := by rw [txt_size]; have := caseW_len S[k].c; omega
       have hl3 : (txt m).size <= 1161100 := by rw [txt_size]; exact hml
       have HCC : Hid (txt m ++ txt (lineL wSnap [S[k].id]) ++ txt (caseW S[k].c) = txt (m ++ snL S[k])) := by show _ = _; rw [txt_app, txt_app, List.append_assoc]; rfl
       generalize txt (lineL wSnap [S[k].id]) = x1 at *
       generalize txt (caseW S[k].c) = x2 at *
       obtain ⟨m2, HM2⟩ := nmd (m ++ snL S[k])
       rw [HM2.out] at HNX HCC
       obtain ⟨y2, HY2⟩ := nmd (txt m2)
       rw [HY2.out] at HCC
       clear HM HM2 hml HE HRO HEA hm
       generalize txt m = x0 at *
       generalize S[k] = s at *
       obtain ⟨sid, ⟨cn, cf, zs, os, vs, ko, kv⟩, za, oa, va9, zc, oc, vc9⟩ := s
       simp only at c0 c1 c2 c3 c4 c5 LL CT
       obtain ⟨nz, HNZ⟩ := nmd zs.length
       rw [HNZ.out] at c2 CT
       have hs1 : ¬ (9223372036854775807 < x0.size + x1.size) := by omega
       have hs2 : ¬ (9223372036854775807 < x0.size + x1.size + x2.size) := by omega
       have kS := (And.intro t2 (And.intro c0 (And.intro c1 (And.intro c2 (And.intro c3 (And.intro c4 c5))))))
       go_wp2_with fail
       go_region_held3 (fun W => W.cell? ⟨tb, 2, none⟩ = some (.slice (some ⟨b2, off2, none⟩) nS sc) /\ W.cell? ⟨b2, off2 + k * 6, none⟩ = some (.int .i64 sid) /\ W.cell? ⟨b2, off2 + k * 6 + 1, none⟩ = some (.int .i64 cn) /\ W.cell? ⟨b2, off2 + k * 6 + 2, none⟩ = some (.slice za nz zc) /\ W.cell? ⟨b2, off2 + k * 6 + 3, none⟩ = some (.slice oa ko oc) /\ W.cell? ⟨b2, off2 + k * 6 + 4, none⟩ = some (.slice va9 kv vc9) /\ W.cell? ⟨b2, off2 + k * 6 + 5, none⟩ = some (.int .i64 cf)) (first | with_reducible exact kS | go_keep) ((first
        | (go_at_call 57
           with_reducible refine (LL.out _ _ (by first | exact row_drewS (heap_alloc_new _ _) | exact heap_alloc_new _ _)).mono ?_
           rintro e w6 ⟨rfl, hb6⟩
           have D6 : Hid (Below wr.heap.size wr w6) := by first | exact (((Below.refl wr.heap.size wr).alloc (Nat.le_refl _) (.cells #[.int .i64 sid] 2)).drew).trans (hb6.mono (by simp [World.drew])) | exact (((Below.refl wr.heap.size wr).drew).alloc (Nat.le_refl _) (.cells #[.int .i64 sid] 2)).trans (hb6.mono (by simp [World.drew]))
           have kS := (And.intro (keepC t2 D6.out) (And.intro (keepC c0 D6.out) (And.intro (keepC c1 D6.out) (And.intro (keepC c2 D6.out) (And.intro (keepC c3 D6.out) (And.intro (keepC c4 D6.out) (keepC c5 D6.out)))))))
           clear hb6)
        | (go_at_call 58
           with_reducible refine (CT.out w6 D6.out).mono ?_
           rintro e w7 ⟨rfl, hb7⟩
           have D7 : Hid (Below wr.heap.size wr w7) := D6.out.trans (hb7.mono D6.out.size)
           have kS := (And.intro (keepC t2 D7.out) (And.intro (keepC c0 D7.out) (And.intro (keepC c1 D7.out) (And.intro (keepC c2 D7.out) (And.intro (keepC c3 D7.out) (And.intro (keepC c4 D7.out) (keepC c5 D7.out)))))))
           clear hb7)))
       all_goals
        have E7 := hdn (D1.out.below D7.out)
        have N7 := hdn (N1.out.below D7.out)
        have X7 := hdn (below_row D7.out (row_lt X1.out) X1.out)
        clear kS D6 D7 t2 c0 c1 c2 c3 c4 c5
        go_wp2
        go_roundw
        case rel => exact ⟨k + 1, m2, by omega, by first | rfl | go_num, by rw [HY2.out, <- HCC.out], HNX.out.symm, E7.out, N7.out, X7.out⟩
        case measure => simp [intOf]; omega
     · have hin : ¬ ((k : Int) < nS) := by omega
       have hkn : k = nS := by omega
       have HM9 : Hid (m = m0 ++ S.flatMap snL) := by show _ = _; rw [HM.out, hkn, <- HNS.out, List.take_length]
       clear HM
       go_wp2_with fail
       clear t0 t1 t2 t3 t4
       obtain ⟨m1, HM1⟩ := nmd m
       have HM1L : Hid (m.length <= 1161000) := by
        have h1 := HSS.out S.length (by rw [HNS.out]; exact hs8)
        have h2 := HM0L.out
        rw [List.take_length] at h1
        show _ <= _
        rw [HM9.out, List.length_append]
        omega
       rw [HM1.out] at HM1L HM9
       go_loopw [3, 7] (fun ts ti wr => ∃ (k : Nat) (m : List UInt8), k <= nV /\ ti = .int .i64 k /\ ts = .string (txt m) /\ Hid (m = m1 ++ (V.take k).flatMap vnL) /\ B1x 29 w wr #[.slice (some ⟨b, off, none⟩) n c] /\ TNAt wr ⟨nm, nx, S, V, pub, sa, va, sc, vc⟩ /\ wr.heap[tb]? = some (.cells #[.string nb, .int .i64 nx, .slice sa nS sc, .slice va nV vc, .int .i64 pub] 36 (0, 0))) (fun _ ti _ => nV - (intOf ti).toNat)
       case atStart => exact ⟨0, m1, Nat.zero_le _, rfl, by rw [HM1.out], by show _ = _; simp, D1.out, N1.out, X1.out⟩
       case round =>
        clear D1 X1 N1
        obtain ⟨k, m, hk, rfl, rfl, HM, hb, hn9, hx⟩ := hrel
        have D1 := hdn hb
        have X1 := hdn hx
        have N1 := hdn hn9
        clear hb hx hn9
        obtain ⟨t0, t1, t2, t3, t4⟩ := cells5 X1.out
        by_cases hlt : k < nV
        · have hin : (k : Int) < nV := by omega
          have hkX : k < V.length := by rw [HNV.out]; exact hlt
          obtain ⟨b3, off3, e, c0, c1, c2, c3⟩ := N1.out.v.at hkX
          subst e
          have hm := List.getElem_mem hkX
          have hml : m.length <= 1177900 := by
           have h1 := HVS.out k (by omega)
           have h2 := HM1L.out
           rw [HM.out, List.length_append]
           omega
          have HNX : Hid (m1 ++ (V.take (k + 1)).flatMap vnL = m ++ vnL V[k]) := by show _ = _; rw [flat_step vnL hkX, HM.out, List.append_assoc]
          have HE := hdn (HOK.out.ov _ hm)
          have HRO := hdn (HRM.out.1 _ hm)
          have HEA := hdn (N1.out.v.2 _ hm)
          have LL : Hid (∀ W g, W.heap[g]? = some (.cells #[.int .i64 V[k].id, .int .i64 V[k].sn] 2 (0, 0)) -> Calls Tryz.prog 57 #[.string ⟨#[118, 101, 114, 115, 105, 111, 110]⟩, .slice (some ⟨g, 0, none⟩) 2 2] W fun e w' => e = .returned (.string (txt (lineL wVers [V[k].id, V[k].sn]))) /\ Below W.heap.size W w') := fun W g h => lineTx wVers [V[k].id, V[k].sn] (fun x hx => by simp at hx; rcases hx with rfl | rfl <;> first | exact HRR.out.vi _ hm | exact HRR.out.vs _ hm) (by simp) (by simp [wVers]) 2 W g h
          have CT : Hid (∀ W, Below wr.heap.size wr W -> Calls Tryz.prog 59 #[.agg #[.slice V[k].ra V[k].R.length V[k].rc, .slice V[k].la V[k].L.length V[k].lc]] W fun e w' => e = .returned (.string (txt (planW V[k].R V[k].L))) /\ Below W.heap.size W w') := fun W hb => planTx V[k] W (HEA.out.below hb) HE.out HRO.out
          have hl1 : (txt (lineL wVers [V[k].id, V[k].sn])).size <= 200 := by
           have h1 := lineL_len wVers [V[k].id, V[k].sn] (fun x hx => by simp at hx; rcases hx with rfl | rfl <;> first | exact HRR.out.vi _ hm | exact HRR.out.vs _ hm)
           have e : wVers.length = 7 := rfl
           simp at h1
           rw [txt_size]
           omega
          have hl2 : (txt (planW V[k].R V[k].L)).size <= 20000 := by rw [txt_size]; have := planW_len V[k].R V[k].L; omega
          have hl3 : (txt m).size <= 1177900 := by rw [txt_size]; exact hml
          have HCC : Hid (txt m ++ txt (lineL wVers [V[k].id, V[k].sn]) ++ txt (planW V[k].R V[k].L) = txt (m ++ vnL V[k])) := by show _ = _; rw [txt_app, txt_app, List.append_assoc]; rfl
          generalize txt (lineL wVers [V[k].id, V[k].sn]) = x1 at *
          generalize txt (planW V[k].R V[k].L) = x2 at *
          obtain ⟨m2, HM2⟩ := nmd (m ++ vnL V[k])
          rw [HM2.out] at HNX HCC
          obtain ⟨y2, HY2⟩ := nmd (txt m2)
          rw [HY2.out] at HCC
          clear HM HM2 hml HE HRO HEA hm
          generalize txt m = x0 at *
          generalize V[k] = s at *
          obtain ⟨sid, ssn, R, L, ra, la, rc, lc⟩ := s
          simp only at c0 c1 c2 c3 LL CT
          obtain ⟨nr, HNR⟩ := nmd R.length
          rw [HNR.out] at c2 CT
          obtain ⟨nl, HNL⟩ := nmd L.length
          rw [HNL.out] at c3 CT
          have hs1 : ¬ (9223372036854775807 < x0.size + x1.size) := by omega
          have hs2 : ¬ (9223372036854775807 < x0.size + x1.size + x2.size) := by omega
          have kS := (And.intro t3 (And.intro c0 (And.intro c1 (And.intro c2 c3))))
          go_wp2_with fail
          go_region_held3 (fun W => W.cell? ⟨tb, 3, none⟩ = some (.slice (some ⟨b3, off3, none⟩) nV vc) /\ W.cell? ⟨b3, off3 + k * 4, none⟩ = some (.int .i64 sid) /\ W.cell? ⟨b3, off3 + k * 4 + 1, none⟩ = some (.int .i64 ssn) /\ W.cell? ⟨b3, off3 + k * 4 + 2, none⟩ = some (.slice ra nr rc) /\ W.cell? ⟨b3, off3 + k * 4 + 3, none⟩ = some (.slice la nl lc)) (first | with_reducible exact kS | go_keep) ((first
           | (go_at_call 57
              with_reducible refine (LL.out _ _ (by first | exact row_drewS (heap_alloc_new _ _) | exact heap_alloc_new _ _)).mono ?_
              rintro e w6 ⟨rfl, hb6⟩
              have D6 : Hid (Below wr.heap.size wr w6) := by first | exact (((Below.refl wr.heap.size wr).alloc (Nat.le_refl _) (.cells #[.int .i64 sid, .int .i64 ssn] 2)).drew).trans (hb6.mono (by simp [World.drew])) | exact (((Below.refl wr.heap.size wr).drew).alloc (Nat.le_refl _) (.cells #[.int .i64 sid, .int .i64 ssn] 2)).trans (hb6.mono (by simp [World.drew]))
              have kS := (And.intro (keepC t3 D6.out) (And.intro (keepC c0 D6.out) (And.intro (keepC c1 D6.out) (And.intro (keepC c2 D6.out) (keepC c3 D6.out)))))
              clear hb6)
           | (go_at_call 59
              with_reducible refine (CT.out w6 D6.out).mono ?_
              rintro e w7 ⟨rfl, hb7⟩
              have D7 : Hid (Below wr.heap.size wr w7) := D6.out.trans (hb7.mono D6.out.size)
              have kS := (And.intro (keepC t3 D7.out) (And.intro (keepC c0 D7.out) (And.intro (keepC c1 D7.out) (And.intro (keepC c2 D7.out) (keepC c3 D7.out)))))
              clear hb7)))
          all_goals
           have E7 := hdn (D1.out.below D7.out)
           have N7 := hdn (N1.out.below D7.out)
           have X7 := hdn (below_row D7.out (row_lt X1.out) X1.out)
           clear kS D6 D7 t3 c0 c1 c2 c3
           go_wp2
           go_roundw
           case rel => exact ⟨k + 1, m2, by omega, by first | rfl | go_num, by rw [HY2.out, <- HCC.out], HNX.out.symm, E7.out, N7.out, X7.out⟩
           case measure => simp [intOf]; omega
        · have hin : ¬ ((k : Int) < nV) := by omega
          have hkn : k = nV := by omega
          have HFN : Hid (m = stH T ++ (T.take (i + 1)).flatMap tnL) := by
           show _ = _
           rw [HNX0.out, HTX.out, HM.out, hkn, HM9.out, <- HM0.out, <- HNV.out, List.take_length]
           simp only [List.append_assoc]
          clear HM
          go_wp2_with fail
          go_roundw
          case rel => exact ⟨i + 1, m, by omega, by first | rfl | go_num, rfl, HFN.out, D1.out⟩
          case measure => simp [intOf]; omega
  · have hin : ¬ ((i : Int) < n) := by omega
    have hkn : i = n := by omega
    subst hkn
    have HF2 : Hid (x = txt l) := by show _ = _; rw [HF.out, HL.out]; unfold stL; rw [<- HN.out, List.take_length]
    go_wp2
    go_ret
    exact ⟨by rw [HF2.out]; rfl, D1.out.b⟩
end Go.Proofs.YtehfjfmfpdgibaaGreatDoor
