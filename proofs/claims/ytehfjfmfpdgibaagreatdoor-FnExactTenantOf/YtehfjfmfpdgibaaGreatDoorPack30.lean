import Derived.Test.YtehfjfmfpdgibaaGreatDoorPack0
import Derived.Test.YtehfjfmfpdgibaaGreatDoorPack4
import Derived.Test.YtehfjfmfpdgibaaGreatDoorPack6
import Derived.Test.YtehfjfmfpdgibaaGreatDoorPack21
import Derived.Test.YtehfjfmfpdgibaaGreatDoorPack22
import Derived.Test.YtehfjfmfpdgibaaGreatDoorPack23
import Derived.Test.YtehfjfmfpdgibaaGreatDoorSpecCopy
import Derived.Test.YtehfjfmfpdgibaaGreatDoorImplCopy
namespace Go.Proofs.YtehfjfmfpdgibaaGreatDoor
open Go.RowKit
theorem cells4k {w : World} {g : Nat} {T : TypeId} {v0 v1 v2 v3 : Value} (h : w.heap[g]? = some (.cells #[v0, v1, v2, v3] T (0, 0))) : w.cell? ⟨g, 0, none⟩ = some v0 /\ w.cell? ⟨g, 1, none⟩ = some v1 /\ w.cell? ⟨g, 2, none⟩ = some v2 /\ w.cell? ⟨g, 3, none⟩ = some v3 := by
 refine ⟨?_, ?_, ?_, ?_⟩ <;> (rw [cell_of_row _ _ _ _ _ _ h]; rfl)
theorem infoVe4 : (Tryz.prog.info? 70).map (fun i => (i.zero, i.size, i.bytes)) = some (some (.agg #[.int .i64 0, .int .i64 0, .slice none 0 0, .slice none 0 0]), 4, 64) := by kernel_rfl
def VN.fits (v : VN) : Prop := v.R.length <= 500 /\ (∀ r ∈ v.R, r.ids ≠ [] /\ r.ids.length <= 12) /\ v.L.length <= 500 /\ ∃ b off, v.la = some ⟨b, off, none⟩
theorem infoSn6 : (Tryz.prog.info? 86).map (fun i => (i.zero, i.size, i.bytes)) = some (some (.agg #[.int .i64 0, .int .i64 0, .slice none 0 0, .slice none 0 0, .slice none 0 0, .int .i64 0]), 6, 96) := by kernel_rfl
theorem TB.grown {T1 T2 : TypeId} {w W W' : World} {src z out : Array Value} {row : Option Nat} (h : TB T1 T2 w W src z out) (hg : W.grownBy W' row) (hr : ∀ k, row = some k -> w.heap.size + 3 <= k) : TB T1 T2 w W' src z out :=
 ⟨h.b.grown hg h.b.size (fun k e => by have := hr k e; omega), grown_row hg h.s (fun e => by have := hr _ e.symm; omega), grown_row hg h.z (fun e => by have := hr _ e.symm; omega), grown_row hg h.o (fun e => by have := hr _ e.symm; omega)⟩
theorem cellsL_here (W : World) (L : List Value) (T : TypeId) : ∀ j u, L[j]? = some u -> (W.alloc (.cells L.toArray T)).cell? ⟨W.heap.size, 0 + j, none⟩ = some u := by
 intro j u h
 have hr := heap_alloc_new W (.cells L.toArray T)
 rw [Nat.zero_add, cell_of_row _ _ j _ _ _ hr, <- h]
 simp
set_option maxHeartbeats 8000000 in
theorem implCopyTenant_any (t : TN) (w : World) (ho : TNOk 1048576 t) (hA : TNAt w t) (hV : ∀ v ∈ t.V, v.fits) :
 Calls Tryz.prog 36 #[.agg #[.string (txt t.nm), .int .i64 t.nx, .slice t.sa t.S.length t.sc, .slice t.va t.V.length t.vc, .int .i64 t.pub]] w fun e w' => ∃ t' : TN, e = .returned (.agg #[.string (txt t'.nm), .int .i64 t'.nx, .slice t'.sa t'.S.length t'.sc, .slice t'.va t'.V.length t'.vc, .int .i64 t'.pub]) /\ t'.plain = t.plain /\ Below w.heap.size w w' /\ TNO w' (w.heap.size + 3) t' /\ ∀ v ∈ t'.V, Apt v.R v.la := by
 obtain ⟨nm, nx, S, V, pub, sa, va, sc, vc⟩ := t
 have HA := hdn hA
 have HO := hdn ho
 have HF := hdn hV
 clear hA ho hV
 simp only
 have hnS : S.length <= 1048576 := HO.out.s
 have hnV : V.length <= 1048576 := HO.out.v
 obtain ⟨nS, HNS⟩ := nmd S.length
 obtain ⟨nV, HNV⟩ := nmd V.length
 obtain ⟨nb, HNB⟩ := nmd (txt nm)
 rw [HNS.out] at hnS ⊢
 rw [HNV.out] at hnV ⊢
 rw [HNB.out]
 have T0 := hdn (TB.new 36 36 w #[.string nb, .int .i64 nx, .slice sa nS sc, .slice va nV vc, .int .i64 pub] #[.string ⟨#[]⟩, .int .i64 0, .slice none 0 0, .slice none 0 0, .int .i64 0] #[.string nb, .int .i64 nx, .slice none 0 0, .slice none 0 0, .int .i64 pub])
 obtain ⟨c0, c1, c2, c3, c4⟩ := cells5 T0.out.s
 go_enter Tryz.func36, Tryz.ntmps36
 go_wp2_with fail
 clear c0 c1 c2 c3 c4
 generalize (((w.alloc (.cells #[.string nb, .int .i64 nx, .slice sa nS sc, .slice va nV vc, .int .i64 pub] 36)).alloc (.cells #[.string ⟨#[]⟩, .int .i64 0, .slice none 0 0, .slice none 0 0, .int .i64 0] 36)).alloc (.cells #[.string nb, .int .i64 nx, .slice none 0 0, .slice none 0 0, .int .i64 pub] 36)) = W0 at *
 have hW0 := row_lt T0.out.o
 go_loopw [18] (fun ti wr => ∃ (i : Nat) (sl : Value) (S' : List SN), i <= nS /\ ti = .int .i64 i /\ S'.map SN.plain = (S.take i).map SN.plain /\ S'.length = i /\ TB 36 36 w wr #[.string nb, .int .i64 nx, .slice sa nS sc, .slice va nV vc, .int .i64 pub] #[.string ⟨#[]⟩, .int .i64 0, .slice none 0 0, .slice none 0 0, .int .i64 0] #[.string nb, .int .i64 nx, sl, .slice none 0 0, .int .i64 pub] /\ SO wr (w.heap.size + 3) sl S') (fun ti _ => nS - (intOf ti).toNat)
 case atStart => exact ⟨0, .slice none 0 0, [], Nat.zero_le _, rfl, rfl, rfl, T0.out, SO.nil _ _⟩
 case round =>
  obtain ⟨i, sl, S', hi, rfl, hpl, hlen, hT, hS⟩ := hrel
  have T1 := hdn hT
  have O1 := hdn hS
  have HPL := hdn hpl
  have HLN := hdn hlen
  clear hT hS hpl hlen T0 hW0
  by_cases hlt : i < nS
  · have hin : (i : Int) < nS := by omega
    have hiX : i < S.length := by rw [HNS.out]; exact hlt
    obtain ⟨b, off, e, hcs⟩ := (HA.out.s.below T1.out.b).1 i hiX
    subst e
    have hm := List.getElem_mem hiX
    have SA := hdn ((HA.out.s.below T1.out.b).2 _ hm)
    have SK := hdn (HO.out.os _ hm)
    have HTK := hdn (show S.take (i + 1) = S.take i ++ [S[i]] from by rw [List.take_succ_eq_append_getElem hiX])
    clear hm
    generalize S[i] = s at *
    obtain ⟨e0, e1, e2, e3, e4, e5⟩ : wr.cell? ⟨b, off + i * 6, none⟩ = some (.int .i64 s.id) /\ wr.cell? ⟨b, off + i * 6 + 1, none⟩ = some (.int .i64 s.c.n) /\ wr.cell? ⟨b, off + i * 6 + 2, none⟩ = some (.slice s.za s.c.zs.length s.zc) /\ wr.cell? ⟨b, off + i * 6 + 3, none⟩ = some (.slice s.oa s.c.ko s.oc) /\ wr.cell? ⟨b, off + i * 6 + 4, none⟩ = some (.slice s.va s.c.kv s.vc) /\ wr.cell? ⟨b, off + i * 6 + 5, none⟩ = some (.int .i64 s.c.f) :=
     ⟨hcs 0 _ rfl, hcs 1 _ rfl, hcs 2 _ rfl, hcs 3 _ rfl, hcs 4 _ rfl, hcs 5 _ rfl⟩
    clear hcs
    go_wp2_with fail
    clear e0 e1 e2 e3 e4 e5
    have T2 := hdn (T1.out.below ((Below.refl _ _).alloc (Nat.le_refl _) (.cells #[.int .i64 s.id, .int .i64 s.c.n, .slice s.za s.c.zs.length s.zc, .slice s.oa s.c.ko s.oc, .slice s.va s.c.kv s.vc, .int .i64 s.c.f] 86)).drew)
    have O2 := hdn (O1.out.below ((Below.refl _ _).alloc (Nat.le_refl _) (.cells #[.int .i64 s.id, .int .i64 s.c.n, .slice s.za s.c.zs.length s.zc, .slice s.oa s.c.ko s.oc, .slice s.va s.c.kv s.vc, .int .i64 s.c.f] 86)).drew)
    have SA2 := hdn (SA.out.below ((Below.refl _ _).alloc (Nat.le_refl _) (.cells #[.int .i64 s.id, .int .i64 s.c.n, .slice s.za s.c.zs.length s.zc, .slice s.oa s.c.ko s.oc, .slice s.va s.c.kv s.vc, .int .i64 s.c.f] 86)).drew)
    have N2 : Hid ((wr.alloc (.cells #[.int .i64 s.id, .int .i64 s.c.n, .slice s.za s.c.zs.length s.zc, .slice s.oa s.c.ko s.oc, .slice s.va s.c.kv s.vc, .int .i64 s.c.f] 86)).drew.heap[wr.heap.size]? = some (.cells #[.int .i64 s.id, .int .i64 s.c.n, .slice s.za s.c.zs.length s.zc, .slice s.oa s.c.ko s.oc, .slice s.va s.c.kv s.vc, .int .i64 s.c.f] 86 (0, 0))) := hdn (heap_alloc_new wr _)
    have hgbs := row_lt T1.out.o
    have HSL := hdn (show ∀ k, sl.ownBlock = some k -> k < wr.heap.size from fun k e => (O1.out.r.lt k e).2)
    clear T1 O1 SA
    obtain ⟨gb, HGB⟩ := nmd wr.heap.size
    rw [HGB.out] at N2 HSL hgbs ⊢
    clear HGB
    generalize wr.alloc (.cells #[.int .i64 s.id, .int .i64 s.c.n, .slice s.za s.c.zs.length s.zc, .slice s.oa s.c.ko s.oc, .slice s.va s.c.kv s.vc, .int .i64 s.c.f] 86) = W1 at *
    refine wp_region_last (S := (fun W => W.cell? ⟨w.heap.size + 1 + 1, 2, none⟩ = some sl /\ W.cell? ⟨gb, 0, none⟩ = some (.int .i64 s.id) /\ W.cell? ⟨gb, 1, none⟩ = some (.int .i64 s.c.n) /\ W.cell? ⟨gb, 2, none⟩ = some (.slice s.za s.c.zs.length s.zc) /\ W.cell? ⟨gb, 3, none⟩ = some (.slice s.oa s.c.ko s.oc) /\ W.cell? ⟨gb, 4, none⟩ = some (.slice s.va s.c.kv s.vc) /\ W.cell? ⟨gb, 5, none⟩ = some (.int .i64 s.c.f))) 11 (by kernel_rfl) ?_ (fun hHeld => ?_)
    · exact ⟨(cells5 T2.out.o).2.2.1, cells6v N2.out⟩
    generalize W1.drew = W1 at *
    refine tkZ 0 hHeld ?_
    refine tkZ 1 hHeld ?_
    refine tkZ 2 hHeld ?_
    refine tkZ 3 hHeld ?_
    refine tkZ 4 hHeld ?_
    refine tkZ 5 hHeld ?_
    refine wpAnyZ_ready (rs := [6]) (by kernel_rfl) (by simp) ?_
    refine AllReadyZ.cons rfl (fun K hK => ?_) AllReadyZ.nil
    go_simp
    refine (implCopyCase_any s W1 SK.out SA2.out).mono ?_
    rintro e w2 ⟨s', rfl, hp, hb, hs⟩
    have T3 := hdn (T2.out.below hb)
    have O3 := hdn (O2.out.below hb)
    have N3 := hdn (below_row hb (row_lt N2.out) N2.out)
    have HS := hdn hs
    have HB := hdn hb
    have HP := hdn hp
    have HID : Hid (s.id = s'.id) := hdn (congrArg SN.id hp).symm
    clear hb hs hp
    have kS3 := And.intro (cells5 T3.out.o).2.2.1 (cells6v N3.out)
    have hA := (Below.refl w2.heap.size w2).alloc (Nat.le_refl _) (.cells #[.int .i64 s.id, .int .i64 s'.c.n, .slice s'.za s'.c.zs.length s'.zc, .slice s'.oa s'.c.ko s'.oc, .slice s'.va s'.c.kv s'.vc, .int .i64 s'.c.f] 86)
    have T4 := hdn (T3.out.below hA)
    have O4 := hdn (O3.out.below hA)
    have N4 := hdn (below_row hA (row_lt N3.out) N3.out)
    have HS4 := hdn (HS.out.below hA)
    have HB4 := hdn (HB.out.trans (hA.mono HB.out.size))
    clear hA
    have kS4 := And.intro (cells5 T4.out.o).2.2.1 (cells6v N4.out)
    dsimp only
    refine hK.out _ _ ?_ (fun hHeld => ?_)
    · exact kS3
    clear hK K
    try simp only [Act.put, List.setIfInBounds_toArray, List.set_cons_zero, List.set_cons_succ]
    refine tkZ 7 hHeld ?_
    refine wpAnyZ_ready (rs := [8]) (by kernel_rfl) (by simp) ?_
    refine AllReadyZ.cons rfl (fun K hK => ?_) AllReadyZ.nil
    go_simp
    refine hK.out _ _ ?_ (fun hHeld => ?_)
    · exact kS4
    clear hK K
    (try simp only [Act.put, List.setIfInBounds_toArray, List.set_cons_zero, List.set_cons_succ])
    refine wpAnyZ_ready (rs := [9]) (by kernel_rfl) (by simp) ?_
    refine AllReadyZ.cons rfl (fun K hK => ?_) AllReadyZ.nil
    have hws := HB.out.size
    refine step_append_vals Tryz.underlying33 infoSn6 (by rfl) (by omega) rfl (.tmp 23) (.tmp 30) rfl (w.heap.size + 3) sl i (rowX snCells S') rfl (by rw [<- HLN.out]; exact O4.out.r) w2.heap.size 0 1 1 [.int .i64 s.id, .int .i64 s'.c.n, .slice s'.za s'.c.zs.length s'.zc, .slice s'.oa s'.c.ko s'.oc, .slice s'.va s'.c.kv s'.vc, .int .i64 s'.c.f] rfl rfl (cellsL_here w2 [.int .i64 s.id, .int .i64 s'.c.n, .slice s'.za s'.c.zs.length s'.zc, .slice s'.oa s'.c.ko s'.oc, .slice s'.va s'.c.kv s'.vc, .int .i64 s'.c.f] _) (by simp [Value.oneCell']) (by omega) (by omega) (by have := row_lt T3.out.o; simp; omega) ?_
    intro v' w4 ho hg hbk hn
    rcases own_kinds ho with ⟨_, e0⟩ | ⟨g4, c4, e4, -, -⟩
    · omega
    subst e4
    have hge : ∀ k, sl.ownBlock = some k -> w.heap.size + 3 <= k := fun k e => (O4.out.r.lt k e).1
    have T5 := hdn (T4.out.grown hg hge)
    have hlo : W1.heap.size <= W1.heap.size + 2 := by omega
    have hbs := row_lt T2.out.o
    have O5 := hdn (O2.out.add HB4.out HS4.out hlo hbs (by rw [HLN.out]; have e : [.int .i64 s.id, .int .i64 s'.c.n, .slice s'.za s'.c.zs.length s'.zc, .slice s'.oa s'.c.ko s'.oc, .slice s'.va s'.c.kv s'.vc, .int .i64 s'.c.f] = snCells s' := by rw [HID.out]; rfl
                                                           rw [<- e]; exact ho) hg)
    have N5 := hdn (grown_row hg N4.out (fun e => Nat.lt_irrefl _ (HSL.out _ e.symm)))
    clear ho hg hbk hn hge hlo hbs hws
    refine hK.out _ _ ?_ (fun hHeld => ?_)
    · exact And.intro (cells5 T5.out.o).2.2.1 (cells6v N5.out)
    clear hK K
    change wpAnyZ _ _ _ _ _ _ _ _ (Act.put _ (some 31) _) _
    simp only [Act.put, List.setIfInBounds_toArray, List.set_cons_zero, List.set_cons_succ]
    obtain ⟨x0, x1, x2, x3, x4⟩ := cells5 T5.out.o
    have xf := fun i => frozen_of_row _ _ i _ _ T5.out.o
    refine tkZ 10 hHeld ?_
    refine wpAnyZ_ready (rs := [11]) (by kernel_rfl) (by simp) ?_
    refine AllReadyZ.last rfl (fun K hK => ?_)
    go_simp
    refine hK.out _ _ ?_
    clear hK K
    refine wpAnyZ_done (by kernel_rfl) ?_ _
    clear hHeld xf x0 x1 x2 x3 x4 kS3 kS4 hgbs
    have T6 := hdn (T5.out.set 2 (.slice (some ⟨g4, 0, none⟩) (i + 1) c4))
    have O6 := hdn (O5.out.set (i := 2) (u := .slice (some ⟨g4, 0, none⟩) (i + 1) c4) (show w.heap.size + 1 + 1 < w.heap.size + 3 by omega))
    have HPL6 : Hid ((S' ++ [s']).map SN.plain = (S.take (i + 1)).map SN.plain) := hdn (by rw [HTK.out, List.map_append, List.map_append, HPL.out]; simp only [List.map_cons, List.map_nil, HP.out])
    have HLN6 : Hid ((S' ++ [s']).length = i + 1) := hdn (by rw [List.length_append, HLN.out]; rfl)
    clear T5 O5 N5 T2 T3 T4 O2 O3 O4 N2 N3 N4 HS HS4 HB HB4 HP HID HPL HLN SA2 SK
    generalize S' ++ [s'] = S2 at *
    generalize w4.setCell ⟨w.heap.size + 1 + 1, 2, none⟩ (.slice (some ⟨g4, 0, none⟩) (i + 1) c4) = W5 at *
    go_wp2
    go_roundw
    case rel => exact ⟨i + 1, _, S2, by omega, by first | rfl | go_num, HPL6.out, HLN6.out, T6.out, O6.out⟩
    case measure => simp [intOf]; omega
  · have hin : ¬ ((i : Int) < nS) := by omega
    have hie : i = nS := by omega
    have HPS : Hid (S'.map SN.plain = S.map SN.plain) := hdn (by rw [HPL.out, hie, <- HNS.out, List.take_length])
    have HLS : Hid (S'.length = nS) := hdn (by rw [HLN.out, hie])
    clear HPL HLN hie
    obtain ⟨sa', sc', e⟩ := own_anyV O1.out.r
    rw [HLS.out] at e
    subst e
    obtain ⟨c0, c1, c2, c3, c4⟩ := cells5 T1.out.s
    go_wp2_with fail
    clear c0 c1 c2 c3 c4
    obtain ⟨lo, HLOE⟩ := nmd wr.heap.size
    have HLO := hdn (show ∀ s ∈ S', ∀ b, bkS s b -> b < lo from fun s hs b hb => by rw [<- HLOE.out]; exact ((O1.out.s s hs).tops hb).2)
    have HLW := hdn (show w.heap.size + 3 <= lo by rw [<- HLOE.out]; have := row_lt T1.out.o; omega)
    have HLI := hdn (Nat.le_of_eq HLOE.out.symm)
    clear HLOE
    go_loopw [37] (fun ti wr => ∃ (j : Nat) (sv : Value) (V' : List VN), j <= nV /\ ti = .int .i64 j /\ V'.map VN.plain = (V.take j).map VN.plain /\ V'.length = j /\ TB 36 36 w wr #[.string nb, .int .i64 nx, .slice sa nS sc, .slice va nV vc, .int .i64 pub] #[.string ⟨#[]⟩, .int .i64 0, .slice none 0 0, .slice none 0 0, .int .i64 0] #[.string nb, .int .i64 nx, .slice sa' nS sc', sv, .int .i64 pub] /\ SO wr (w.heap.size + 3) (.slice sa' nS sc') S' /\ VO wr (w.heap.size + 3) sv V' /\ (∀ v ∈ V', Apt v.R v.la) /\ (∀ v ∈ V', ∀ b, bkV v b -> lo <= b) /\ lo <= wr.heap.size) (fun ti _ => nV - (intOf ti).toNat)
    case atStart => exact ⟨0, .slice none 0 0, [], Nat.zero_le _, rfl, rfl, rfl, T1.out, O1.out, VO.nil _ _, fun _ h => by simp at h, fun _ h => by simp at h, HLI.out⟩
    case round =>
     obtain ⟨j, sv, V', hj, rfl, hpl, hlen, hT, hS, hVO, hAp, hBk, hLw⟩ := hrel
     clear T1 O1 HLI
     have T1 := hdn hT
     have O1 := hdn hS
     have Q1 := hdn hVO
     have HAP := hdn hAp
     have HBK := hdn hBk
     have HLH := hdn hLw
     have HPL := hdn hpl
     have HLN := hdn hlen
     clear hT hS hVO hAp hBk hLw hpl hlen
     by_cases hltv : j < nV
     · have hinv : (j : Int) < nV := by omega
       have hjX : j < V.length := by rw [HNV.out]; exact hltv
       obtain ⟨b, off, e, hcs⟩ := (HA.out.v.below T1.out.b).1 j hjX
       subst e
       have hm := List.getElem_mem hjX
       have SA := hdn ((HA.out.v.below T1.out.b).2 _ hm)
       have SF := hdn (HF.out _ hm)
       have HTK := hdn (show V.take (j + 1) = V.take j ++ [V[j]] from by rw [List.take_succ_eq_append_getElem hjX])
       clear hm
       generalize V[j] = v at *
       obtain ⟨e0, e1, e2, e3⟩ : wr.cell? ⟨b, off + j * 4, none⟩ = some (.int .i64 v.id) /\ wr.cell? ⟨b, off + j * 4 + 1, none⟩ = some (.int .i64 v.sn) /\ wr.cell? ⟨b, off + j * 4 + 2, none⟩ = some (.slice v.ra v.R.length v.rc) /\ wr.cell? ⟨b, off + j * 4 + 3, none⟩ = some (.slice v.la v.L.length v.lc) :=
        ⟨hcs 0 _ rfl, hcs 1 _ rfl, hcs 2 _ rfl, hcs 3 _ rfl⟩
       clear hcs
       go_wp2_with fail
       clear e0 e1 e2 e3
       have T2 := hdn (T1.out.below ((Below.refl _ _).alloc (Nat.le_refl _) (.cells #[.int .i64 v.id, .int .i64 v.sn, .slice v.ra v.R.length v.rc, .slice v.la v.L.length v.lc] 70)).drew)
       have O2 := hdn (O1.out.below ((Below.refl _ _).alloc (Nat.le_refl _) (.cells #[.int .i64 v.id, .int .i64 v.sn, .slice v.ra v.R.length v.rc, .slice v.la v.L.length v.lc] 70)).drew)
       have Q2 := hdn (Q1.out.below ((Below.refl _ _).alloc (Nat.le_refl _) (.cells #[.int .i64 v.id, .int .i64 v.sn, .slice v.ra v.R.length v.rc, .slice v.la v.L.length v.lc] 70)).drew)
       have SA2 := hdn (SA.out.below ((Below.refl _ _).alloc (Nat.le_refl _) (.cells #[.int .i64 v.id, .int .i64 v.sn, .slice v.ra v.R.length v.rc, .slice v.la v.L.length v.lc] 70)).drew)
       have N2 : Hid ((wr.alloc (.cells #[.int .i64 v.id, .int .i64 v.sn, .slice v.ra v.R.length v.rc, .slice v.la v.L.length v.lc] 70)).drew.heap[wr.heap.size]? = some (.cells #[.int .i64 v.id, .int .i64 v.sn, .slice v.ra v.R.length v.rc, .slice v.la v.L.length v.lc] 70 (0, 0))) := hdn (heap_alloc_new wr _)
       have HL2 : Hid (lo <= (wr.alloc (.cells #[.int .i64 v.id, .int .i64 v.sn, .slice v.ra v.R.length v.rc, .slice v.la v.L.length v.lc] 70)).drew.heap.size) := hdn (by have := HLH.out; have := row_lt N2.out; omega)
       have hgbs := row_lt T1.out.o
       have HSL := hdn (show ∀ k, sv.ownBlock = some k -> k < wr.heap.size from fun k e => (Q1.out.r.lt k e).2)
       clear T1 O1 Q1 SA HLH
       obtain ⟨gb, HGB⟩ := nmd wr.heap.size
       rw [HGB.out] at N2 HSL hgbs ⊢
       clear HGB
       generalize wr.alloc (.cells #[.int .i64 v.id, .int .i64 v.sn, .slice v.ra v.R.length v.rc, .slice v.la v.L.length v.lc] 70) = W1 at *
       refine wp_region_last (S := (fun W => W.cell? ⟨w.heap.size + 1 + 1, 3, none⟩ = some sv /\ W.cell? ⟨gb, 0, none⟩ = some (.int .i64 v.id) /\ W.cell? ⟨gb, 1, none⟩ = some (.int .i64 v.sn) /\ W.cell? ⟨gb, 2, none⟩ = some (.slice v.ra v.R.length v.rc) /\ W.cell? ⟨gb, 3, none⟩ = some (.slice v.la v.L.length v.lc))) 13 (by kernel_rfl) ?_ (fun hHeld => ?_)
       · exact ⟨(cells5 T2.out.o).2.2.2.1, cells4k N2.out⟩
       generalize W1.drew = W1 at *
       refine tkZ 0 hHeld ?_
       refine tkZ 1 hHeld ?_
       refine tkZ 2 hHeld ?_
       refine tkZ 3 hHeld ?_
       refine tkZ 4 hHeld ?_
       refine tkZ 5 hHeld ?_
       refine tkZ 6 hHeld ?_
       refine tkZ 7 hHeld ?_
       refine wpAnyZ_ready (rs := [8]) (by kernel_rfl) (by simp) ?_
       refine AllReadyZ.cons rfl (fun K hK => ?_) AllReadyZ.nil
       go_simp
       refine (copyOfPlan_any v.ra v.la v.rc v.lc v.R v.L W1 SA2.out.r SA2.out.l (.inr SF.out.2.2.2) SF.out.1 SF.out.2.1 SF.out.2.2.1).mono ?_
       rintro e w2 ⟨ra2, rc2, la2, lc2, R2, rfl, hb, hkey, hpo, hap⟩
       have T3 := hdn (T2.out.below hb)
       have O3 := hdn (O2.out.below hb)
       have Q3 := hdn (Q2.out.below hb)
       have N3 := hdn (below_row hb (row_lt N2.out) N2.out)
       have HB := hdn hb
       have HK := hdn hkey
       have HL : Hid (R2.length = v.R.length) := hdn (by have := congrArg List.length hkey; simpa using this)
       have HS : Hid (VNO w2 (W1.heap.size + 2) ⟨v.id, v.sn, R2, v.L, ra2, la2, rc2, lc2⟩) := hdn ⟨by rw [<- HL.out] at hpo; exact hpo⟩
       have HA2 := hdn hap.apt
       clear hb hkey hpo hap
       have kS3 := And.intro (cells5 T3.out.o).2.2.2.1 (cells4k N3.out)
       have hA := (Below.refl w2.heap.size w2).alloc (Nat.le_refl _) (.cells #[.int .i64 v.id, .int .i64 v.sn, .slice ra2 v.R.length rc2, .slice la2 v.L.length lc2] 70)
       have T4 := hdn (T3.out.below hA)
       have O4 := hdn (O3.out.below hA)
       have Q4 := hdn (Q3.out.below hA)
       have N4 := hdn (below_row hA (row_lt N3.out) N3.out)
       have HS4 := hdn (HS.out.below hA)
       have HB4 := hdn (HB.out.trans (hA.mono HB.out.size))
       clear hA
       have kS4 := And.intro (cells5 T4.out.o).2.2.2.1 (cells4k N4.out)
       dsimp only
       refine hK.out _ _ ?_ (fun hHeld => ?_)
       · exact kS3
       clear hK K
       try simp only [Act.put, List.setIfInBounds_toArray, List.set_cons_zero, List.set_cons_succ]
       refine tkZ 9 hHeld ?_
       refine wpAnyZ_ready (rs := [10]) (by kernel_rfl) (by simp) ?_
       refine AllReadyZ.cons rfl (fun K hK => ?_) AllReadyZ.nil
       go_simp
       refine hK.out _ _ ?_ (fun hHeld => ?_)
       · exact kS4
       clear hK K
       (try simp only [Act.put, List.setIfInBounds_toArray, List.set_cons_zero, List.set_cons_succ])
       refine wpAnyZ_ready (rs := [11]) (by kernel_rfl) (by simp) ?_
       refine AllReadyZ.cons rfl (fun K hK => ?_) AllReadyZ.nil
       have hws := HB.out.size
       refine step_append_vals Tryz.underlying34 infoVe4 (by rfl) (by omega) rfl (.tmp 42) (.tmp 51) rfl (w.heap.size + 3) sv j (rowX vnCells V') rfl (by rw [<- HLN.out]; exact Q4.out.r) w2.heap.size 0 1 1 [.int .i64 v.id, .int .i64 v.sn, .slice ra2 v.R.length rc2, .slice la2 v.L.length lc2] rfl rfl (cellsL_here w2 [.int .i64 v.id, .int .i64 v.sn, .slice ra2 v.R.length rc2, .slice la2 v.L.length lc2] _) (by simp [Value.oneCell']) (by omega) (by omega) (by have := row_lt T3.out.o; simp; omega) ?_
       intro v' w4 ho hg hbk hn
       rcases own_kinds ho with ⟨_, e0⟩ | ⟨g4, c4, e4, -, -⟩
       · omega
       subst e4
       have hge : ∀ k, sv.ownBlock = some k -> w.heap.size + 3 <= k := fun k e => (Q4.out.r.lt k e).1
       have T5 := hdn (T4.out.grown hg hge)
       have hlo : W1.heap.size <= W1.heap.size + 2 := by omega
       have hbs := row_lt T2.out.o
       have Q5 := hdn (Q2.out.add HB4.out HS4.out hlo hbs (by rw [HLN.out]; have e : [.int .i64 v.id, .int .i64 v.sn, .slice ra2 v.R.length rc2, .slice la2 v.L.length lc2] = vnCells ⟨v.id, v.sn, R2, v.L, ra2, la2, rc2, lc2⟩ := by simp only [vnCells, HL.out]
                                                              rw [<- e]; exact ho) hg)
       have O5 := hdn (O4.out.gro Q4.out.r hg)
       have N5 := hdn (grown_row hg N4.out (fun e => Nat.lt_irrefl _ (HSL.out _ e.symm)))
       have HAP5 : Hid (∀ u ∈ V' ++ [⟨v.id, v.sn, R2, v.L, ra2, la2, rc2, lc2⟩], Apt u.R u.la) := hdn (fun u hu => by
        rcases List.mem_append.1 hu with hu | hu
        · exact HAP.out u hu
        · obtain rfl := List.mem_singleton.1 hu
          exact HA2.out)
       have HBK5 : Hid (∀ u ∈ V' ++ [⟨v.id, v.sn, R2, v.L, ra2, la2, rc2, lc2⟩], ∀ b, bkV u b -> lo <= b) := hdn (fun u hu b hb => by
        rcases List.mem_append.1 hu with hu | hu
        · exact HBK.out u hu b hb
        · obtain rfl := List.mem_singleton.1 hu
          have h1 := (HS.out.tops hb).1
          have h2 := HL2.out
          omega)
       have HL5 : Hid (lo <= w4.heap.size) := hdn (by have h1 := HL2.out; have h2 := HB4.out.size; have h3 := hg.size; omega)
       clear ho hg hbk hn hge hlo hbs hws
       refine hK.out _ _ ?_ (fun hHeld => ?_)
       · exact And.intro (cells5 T5.out.o).2.2.2.1 (cells4k N5.out)
       clear hK K
       change wpAnyZ _ _ _ _ _ _ _ _ (Act.put _ (some 52) _) _
       simp only [Act.put, List.setIfInBounds_toArray, List.set_cons_zero, List.set_cons_succ]
       obtain ⟨x0, x1, x2, x3, x4⟩ := cells5 T5.out.o
       have xf := fun i => frozen_of_row _ _ i _ _ T5.out.o
       refine tkZ 12 hHeld ?_
       refine wpAnyZ_ready (rs := [13]) (by kernel_rfl) (by simp) ?_
       refine AllReadyZ.last rfl (fun K hK => ?_)
       go_simp
       refine hK.out _ _ ?_
       clear hK K
       refine wpAnyZ_done (by kernel_rfl) ?_ _
       clear hHeld xf x0 x1 x2 x3 x4 kS3 kS4 hgbs
       have T6 := hdn (T5.out.set 3 (.slice (some ⟨g4, 0, none⟩) (j + 1) c4))
       have O6 := hdn (O5.out.set (i := 3) (u := .slice (some ⟨g4, 0, none⟩) (j + 1) c4) (show w.heap.size + 1 + 1 < w.heap.size + 3 by omega))
       have Q6 := hdn (Q5.out.set (i := 3) (u := .slice (some ⟨g4, 0, none⟩) (j + 1) c4) (show w.heap.size + 1 + 1 < w.heap.size + 3 by omega))
       have HL6 : Hid (lo <= (w4.setCell ⟨w.heap.size + 1 + 1, 3, none⟩ (.slice (some ⟨g4, 0, none⟩) (j + 1) c4)).heap.size) := hdn (by have := HL5.out; simpa using this)
       have HPL6 : Hid ((V' ++ [(⟨v.id, v.sn, R2, v.L, ra2, la2, rc2, lc2⟩ : VN)]).map VN.plain = (V.take (j + 1)).map VN.plain) := hdn (by rw [HTK.out, List.map_append, List.map_append, HPL.out]; simp only [List.map_cons, List.map_nil, VN.plain, RT.plain_key HK.out])
       have HLN6 : Hid ((V' ++ [(⟨v.id, v.sn, R2, v.L, ra2, la2, rc2, lc2⟩ : VN)]).length = j + 1) := hdn (by rw [List.length_append, HLN.out]; rfl)
       clear T5 O5 N5 Q5 T2 T3 T4 O2 O3 O4 N2 N3 N4 Q2 Q3 Q4 HS HS4 HB HB4 HPL HLN SA2 SF HL2 HL5
       generalize V' ++ [(⟨v.id, v.sn, R2, v.L, ra2, la2, rc2, lc2⟩ : VN)] = V2 at *
       generalize w4.setCell ⟨w.heap.size + 1 + 1, 3, none⟩ (.slice (some ⟨g4, 0, none⟩) (j + 1) c4) = W5 at *
       go_wp2
       go_roundw
       case rel => exact ⟨j + 1, _, V2, by omega, by first | rfl | go_num, HPL6.out, HLN6.out, T6.out, O6.out, Q6.out, HAP5.out, HBK5.out, HL6.out⟩
       case measure => simp [intOf]; omega
     · have hinv : ¬ ((j : Int) < nV) := by omega
       have hje : j = nV := by omega
       have HPV : Hid (V'.map VN.plain = V.map VN.plain) := hdn (by rw [HPL.out, hje, <- HNV.out, List.take_length])
       have HLV : Hid (V'.length = nV) := hdn (by rw [HLN.out, hje])
       clear HPL HLN hje
       obtain ⟨va', vc', e⟩ := own_anyV Q1.out.r
       rw [HLV.out] at e
       subst e
       obtain ⟨c0, c1, c2, c3, c4⟩ := cells5 T1.out.o
       obtain ⟨z0, z1, z2, z3, z4⟩ := cells5 T1.out.z
       have f1 := fun i => frozen_of_row _ _ i _ _ T1.out.z
       go_wp2
       refine bodyPost_ret (v := .agg #[.string nb, .int .i64 nx, .slice sa' nS sc', .slice va' nV vc', .int .i64 pub]) (by simp [results, Tryz.results36, go_sem, z0, z1, z2, z3, z4]) rfl ⟨⟨nm, nx, S', V', pub, sa', va', sc', vc'⟩, by simp only [HNB.out, HLS.out, HLV.out], by simp only [TN.plain, HPS.out, HPV.out], ?_, ?_, HAP.out⟩
       · repeat (first | with_reducible exact T1.out.b | refine Below.setCell ?_ (by simp <;> omega) _)
       · have h : TNO wr (w.heap.size + 3) ⟨nm, nx, S', V', pub, sa', va', sc', vc'⟩ := ⟨by simp only [HLS.out]; exact O1.out, lo, HLW.out, by simp only [HLV.out]; exact Q1.out, HBK.out, HLO.out⟩
         repeat (first | with_reducible exact h | refine TNO.set ?_ (by omega))
def findT (T : List TN) (q : ByteArray) : Option TN := T.find? (fun t => decide (txt t.nm = q))
structure AtT (T : List TN) (q : ByteArray) (k : Nat) : Prop where
 le : k <= T.length
 lo : ∀ j, j < k -> ltT (txt (T.getD j tn0).nm) q = true
 hi : ∀ j, k <= j -> j < T.length -> ltT (txt (T.getD j tn0).nm) q = false
def fndT (T : List TN) (q : ByteArray) (k : Nat) : Bool := decide (k < T.length /\ txt (T.getD k tn0).nm = q)
def RisT (T : List TN) : Prop := ∀ j, 0 < j -> j < T.length -> ltT (txt (T.getD (j - 1) tn0).nm) (txt (T.getD j tn0).nm) = true
theorem risT_ltd {T : List TN} (h : RisT T) : ∀ (d i : Nat), i + d + 1 < T.length -> ltT (txt (T.getD i tn0).nm) (txt (T.getD (i + d + 1) tn0).nm) = true
 | 0, i, hi => h (i + 1) (by omega) hi
 | d + 1, i, hi => ltT_trans (risT_ltd h d i (by omega)) (h (i + d + 1 + 1) (by omega) hi)
theorem risT_lt {T : List TN} (h : RisT T) {i j : Nat} (hij : i < j) (hj : j < T.length) : ltT (txt (T.getD i tn0).nm) (txt (T.getD j tn0).nm) = true := by
 have := risT_ltd h (j - i - 1) i (by omega)
 rwa [show i + (j - i - 1) + 1 = j by omega] at this
theorem tn_get {T : List TN} {j : Nat} (h : j < T.length) : T.getD j tn0 = T[j] := by rw [List.getD_eq_getElem?_getD, List.getElem?_eq_getElem h]; rfl
theorem findT_at {T : List TN} {q : ByteArray} {k : Nat} (hk : AtT T q k) (hf : fndT T q k = true) : ∃ h : k < T.length, findT T q = some T[k] := by
 obtain ⟨h1, h2⟩ := of_decide_eq_true hf
 refine ⟨h1, findX_at _ h1 (fun s hs => ?_) ?_⟩
 · obtain ⟨j, hj, e⟩ := List.getElem_of_mem hs
   rw [List.length_take] at hj
   rw [List.getElem_take] at e
   have h3 := hk.lo j (by omega)
   rw [tn_get (by omega), e] at h3
   exact decide_eq_false (ltT_ne h3)
 · rw [tn_get h1] at h2
   exact decide_eq_true h2
theorem findT_no {T : List TN} {q : ByteArray} {k : Nat} (hR : RisT T) (hk : AtT T q k) (hf : fndT T q k = false) : findT T q = none := by
 refine findX_no _ (fun s hs => decide_eq_false fun e => ?_)
 obtain ⟨j, hj, e2⟩ := List.getElem_of_mem hs
 have e3 : txt (T.getD j tn0).nm = q := by rw [tn_get hj, e2]; exact e
 rcases Nat.lt_trichotomy j k with h | h | h
 · exact ltT_ne (hk.lo j h) e3
 · subst h
   exact of_decide_eq_false hf ⟨hj, e3⟩
 · have h1 := risT_lt hR h hj
   rw [e3, hk.hi k (Nat.le_refl _) (by omega)] at h1
   cases h1
theorem tTo_step {T : List TN} : ∀ {k : Nat}, tTo T k = true -> ∀ i, i < k -> stepT T i = true := fun {k} h i hi => by
 cases hs : stepT T i
 · rw [tTo_no hs k hi] at h
   cases h
 · rfl
theorem storeB_true {T : List TN} (h : storeB T = true) : T.length <= 5 /\ RisT T /\ ∀ t ∈ T, tenB t = true := by
 unfold storeB at h
 rw [Bool.and_eq_true, decide_eq_true_eq] at h
 refine ⟨h.1, fun j h0 hj => ?_, fun t ht => ?_⟩
 · have h1 := tTo_step h.2 j hj
   unfold stepT at h1
   rw [decide_eq_false (show ¬ j = 0 by omega), Bool.false_or, Bool.and_eq_true] at h1
   exact h1.2
 · obtain ⟨j, hj, e⟩ := List.getElem_of_mem ht
   have h1 := tTo_step h.2 j hj
   unfold stepT at h1
   rw [Bool.and_eq_true, tn_get hj, e] at h1
   exact h1.1
theorem tenB_true {t : TN} (h : tenB t = true) : nmB t.nm = true /\ inB t.nx 1 1000000000 = true /\ snapsB t = true /\ versB t = true /\ pubB t = true := by
 unfold tenB at h
 simp only [Bool.and_eq_true] at h
 exact ⟨h.1, h.2.1, h.2.2.1, h.2.2.2.1, h.2.2.2.2⟩
theorem allTo_geF {R : List RT} (h : ∀ j, j < R.length -> (R.getD j rt0).ids ≠ []) : ∀ k, k <= R.length -> k <= (allTo R k).length
 | 0, _ => Nat.zero_le _
 | k + 1, hk => by
   have ih := allTo_geF h k (by omega)
   have h1 := List.length_pos_iff.2 (h k (by omega))
   rw [allTo_succ (by omega), List.length_append]
   omega
theorem planV_sm {n : Int} {zs os vs : List Int} {ko kv : Nat} {fine : Int} {R : List RT} {L : List Int} (h : planV n zs os vs ko kv fine R L = 0) : caseB n zs os vs ko kv fine = true /\ (∀ r ∈ R, r.ids ≠ [] /\ r.ids.length <= 12) /\ R.length <= 12 /\ L.length <= 12 /\ ko <= 12 /\ kv <= 5 := by
 obtain ⟨h1, h2, _, _, h5⟩ := planV_zero h
 have hc := h1
 unfold caseB at hc
 simp only [Bool.and_eq_true] at hc
 have hko := (ordsB_true hc.1.1.2).1
 have hkv := (vehsB_true hc.1.2).1
 have h6 := allTo_geF (R := R) (fun j hj => (h2 j hj).2.1) R.length (Nat.le_refl _)
 refine ⟨h1, fun r hr => ?_, by omega, by omega, hko, hkv⟩
 obtain ⟨j, hj, e⟩ := List.getElem_of_mem hr
 have e2 : R.getD j rt0 = r := by rw [List.getD_eq_getElem?_getD, List.getElem?_eq_getElem hj, e]; rfl
 obtain ⟨_, h7, h8⟩ := h2 j hj
 rw [e2] at h7 h8
 exact ⟨h7, code12 h8⟩
theorem vers_true {t : TN} (h : versB t = true) : t.V.length <= 8 /\ ∀ v ∈ t.V, ∃ s, findS t.S v.sn = some s /\ planV s.c.n s.c.zs s.c.os s.c.vs s.c.ko s.c.kv s.c.f v.R v.L = 0 := by
 unfold versB rowB9 at h
 rw [Bool.and_eq_true, Bool.and_eq_true, decide_eq_true_eq, List.length_map] at h
 refine ⟨h.1.1, fun v hv => ?_⟩
 obtain ⟨j, hj, e⟩ := List.getElem_of_mem hv
 have h1 := allB_mem h.2 j hj hj
 rw [e] at h1
 unfold vOk at h1
 rw [Bool.and_eq_true, decide_eq_true_eq] at h1
 obtain ⟨s, hs⟩ := Option.isSome_iff_exists.1 h1.1
 refine ⟨s, hs, ?_⟩
 have h2 := h1.2
 rw [hs] at h2
 exact h2
theorem snaps_true {t : TN} (h : snapsB t = true) : t.S.length <= 8 /\ ∀ s ∈ t.S, s.c.ok = true := by
 unfold snapsB rowB9 at h
 rw [Bool.and_eq_true, Bool.and_eq_true, decide_eq_true_eq, List.length_map] at h
 refine ⟨h.1.1, fun v hv => ?_⟩
 obtain ⟨j, hj, e⟩ := List.getElem_of_mem hv
 have h1 := allB_mem h.2 j hj hj
 rw [e] at h1
 exact h1
theorem tenB_fits {t : TN} (h : tenB t = true) (hl : ∀ v ∈ t.V, ∃ b off, v.la = some ⟨b, off, none⟩) : ∀ v ∈ t.V, v.fits := fun v hv => by
 obtain ⟨s, -, hp⟩ := (vers_true (tenB_true h).2.2.2.1).2 v hv
 obtain ⟨-, h1, h2, h3, -, -⟩ := planV_sm hp
 exact ⟨by omega, h1, by omega, hl v hv⟩
set_option maxRecDepth 20000 in
set_option maxHeartbeats 8000000 in
theorem specCopyTenant_any (t : TN) (w : World) (ho : TNOk 1048576 t) (hA : TNAt w t) (hV : ∀ v ∈ t.V, v.fits) :
 Calls Tryz.prog 85 #[.agg #[.string (txt t.nm), .int .i64 t.nx, .slice t.sa t.S.length t.sc, .slice t.va t.V.length t.vc, .int .i64 t.pub]] w fun e w' => ∃ t' : TN, e = .returned (.agg #[.string (txt t'.nm), .int .i64 t'.nx, .slice t'.sa t'.S.length t'.sc, .slice t'.va t'.V.length t'.vc, .int .i64 t'.pub]) /\ t'.plain = t.plain /\ Below w.heap.size w w' /\ TNO w' (w.heap.size + 3) t' := by
 obtain ⟨nm, nx, S, V, pub, sa, va, sc, vc⟩ := t
 have HA := hdn hA
 have HO := hdn ho
 have HF := hdn hV
 clear hA ho hV
 simp only
 have hnS : S.length <= 1048576 := HO.out.s
 have hnV : V.length <= 1048576 := HO.out.v
 obtain ⟨nS, HNS⟩ := nmd S.length
 obtain ⟨nV, HNV⟩ := nmd V.length
 obtain ⟨nb, HNB⟩ := nmd (txt nm)
 rw [HNS.out] at hnS ⊢
 rw [HNV.out] at hnV ⊢
 rw [HNB.out]
 have T0 := hdn (TB.new 36 36 w #[.string nb, .int .i64 nx, .slice sa nS sc, .slice va nV vc, .int .i64 pub] #[.string ⟨#[]⟩, .int .i64 0, .slice none 0 0, .slice none 0 0, .int .i64 0] #[.string nb, .int .i64 nx, .slice none 0 0, .slice none 0 0, .int .i64 pub])
 obtain ⟨c0, c1, c2, c3, c4⟩ := cells5 T0.out.s
 go_enter Tryz.func85, Tryz.ntmps85
 go_wp2_with fail
 clear c0 c1 c2 c3 c4
 generalize (((w.alloc (.cells #[.string nb, .int .i64 nx, .slice sa nS sc, .slice va nV vc, .int .i64 pub] 36)).alloc (.cells #[.string ⟨#[]⟩, .int .i64 0, .slice none 0 0, .slice none 0 0, .int .i64 0] 36)).alloc (.cells #[.string nb, .int .i64 nx, .slice none 0 0, .slice none 0 0, .int .i64 pub] 36)) = W0 at *
 have hW0 := row_lt T0.out.o
 (try go_wp2_with fail)
 go_loopw [4] (fun ti wr => ∃ (i : Nat) (sl : Value) (S' : List SN), i <= nS /\ ti = .int .i64 i /\ S'.map SN.plain = (S.take i).map SN.plain /\ S'.length = i /\ TB 36 36 w wr #[.string nb, .int .i64 nx, .slice sa nS sc, .slice va nV vc, .int .i64 pub] #[.string ⟨#[]⟩, .int .i64 0, .slice none 0 0, .slice none 0 0, .int .i64 0] #[.string nb, .int .i64 nx, sl, .slice none 0 0, .int .i64 pub] /\ SO wr (w.heap.size + 3) sl S') (fun ti _ => nS - (intOf ti).toNat)
 case atStart => exact ⟨0, .slice none 0 0, [], Nat.zero_le _, rfl, rfl, rfl, T0.out, SO.nil _ _⟩
 case round =>
  obtain ⟨i, sl, S', hi, rfl, hpl, hlen, hT, hS⟩ := hrel
  have T1 := hdn hT
  have O1 := hdn hS
  have HPL := hdn hpl
  have HLN := hdn hlen
  clear hT hS hpl hlen T0 hW0
  obtain ⟨c0, c1, c2, c3, c4⟩ := cells5 T1.out.s
  by_cases hlt : i < nS
  · have hin : (i : Int) < nS := by omega
    have hiX : i < S.length := by rw [HNS.out]; exact hlt
    obtain ⟨b, off, e, hcs⟩ := (HA.out.s.below T1.out.b).1 i hiX
    subst e
    have hm := List.getElem_mem hiX
    have SA := hdn ((HA.out.s.below T1.out.b).2 _ hm)
    have SK := hdn (HO.out.os _ hm)
    have HTK := hdn (show S.take (i + 1) = S.take i ++ [S[i]] from by rw [List.take_succ_eq_append_getElem hiX])
    clear hm
    have HEC : Hid (∀ W, Below w.heap.size w W -> W.cell? ⟨b, off + i * 6, none⟩ = some (.int .i64 S[i].id) /\ W.cell? ⟨b, off + i * 6 + 1, none⟩ = some (.int .i64 S[i].c.n) /\ W.cell? ⟨b, off + i * 6 + 2, none⟩ = some (.slice S[i].za S[i].c.zs.length S[i].zc) /\ W.cell? ⟨b, off + i * 6 + 3, none⟩ = some (.slice S[i].oa S[i].c.ko S[i].oc) /\ W.cell? ⟨b, off + i * 6 + 4, none⟩ = some (.slice S[i].va S[i].c.kv S[i].vc) /\ W.cell? ⟨b, off + i * 6 + 5, none⟩ = some (.int .i64 S[i].c.f)) := hdn (fun W hW => by
     obtain ⟨b2, off2, e2, hc2⟩ := (HA.out.s.below hW).1 i hiX
     simp only [Option.some.injEq, Addr.mk.injEq, and_true] at e2
     obtain ⟨rfl, rfl⟩ := e2
     exact ⟨hc2 0 _ rfl, hc2 1 _ rfl, hc2 2 _ rfl, hc2 3 _ rfl, hc2 4 _ rfl, hc2 5 _ rfl⟩)
    generalize S[i] = s at *
    clear hcs
    go_wp2_with fail
    clear c0 c1 c2 c3 c4
    have T2 := hdn (T1.out.below (Below.refl _ _).drew)
    have O2 := hdn (O1.out.below (Below.refl _ _).drew)
    have SA2 := hdn (SA.out.below (Below.refl _ _).drew)
    clear T1 O1 SA
    refine wp_region_last (S := (fun W => W.cell? ⟨w.heap.size + 1 + 1, 2, none⟩ = some sl /\ W.cell? ⟨w.heap.size, 2, none⟩ = some (.slice (some ⟨b, off, none⟩) nS sc) /\ W.cell? ⟨b, off + i * 6, none⟩ = some (.int .i64 s.id) /\ W.cell? ⟨b, off + i * 6 + 1, none⟩ = some (.int .i64 s.c.n) /\ W.cell? ⟨b, off + i * 6 + 2, none⟩ = some (.slice s.za s.c.zs.length s.zc) /\ W.cell? ⟨b, off + i * 6 + 3, none⟩ = some (.slice s.oa s.c.ko s.oc) /\ W.cell? ⟨b, off + i * 6 + 4, none⟩ = some (.slice s.va s.c.kv s.vc) /\ W.cell? ⟨b, off + i * 6 + 5, none⟩ = some (.int .i64 s.c.f))) 19 (by kernel_rfl) ?_ (fun hHeld => ?_)
    · exact ⟨(cells5 T2.out.o).2.2.1, (cells5 T2.out.s).2.2.1, HEC.out _ T2.out.b⟩
    generalize wr.drew = W1 at *
    refine tkZ 0 hHeld ?_
    refine tkZ 1 hHeld ?_
    refine tkZ 2 hHeld ?_
    refine tkZ 3 hHeld ?_
    refine tkZ 4 hHeld ?_
    refine tkZ 5 hHeld ?_
    refine tkZ 6 hHeld ?_
    refine tkZ 7 hHeld ?_
    refine tkZ 8 hHeld ?_
    refine tkZ 9 hHeld ?_
    refine tkZ 10 hHeld ?_
    refine tkZ 11 hHeld ?_
    refine tkZ 12 hHeld ?_
    refine tkZ 13 hHeld ?_
    refine wpAnyZ_ready (rs := [14]) (by kernel_rfl) (by simp) ?_
    refine AllReadyZ.cons rfl (fun K hK => ?_) AllReadyZ.nil
    go_simp
    refine (specCopyCase_any s W1 SK.out SA2.out).mono ?_
    rintro e w2 ⟨s', rfl, hp, hb, hs⟩
    have T3 := hdn (T2.out.below hb)
    have O3 := hdn (O2.out.below hb)
    have HS := hdn hs
    have HB := hdn hb
    have HP := hdn hp
    have HID : Hid (s.id = s'.id) := hdn (congrArg SN.id hp).symm
    clear hb hs hp
    have kS3 := And.intro (cells5 T3.out.o).2.2.1 (And.intro (cells5 T3.out.s).2.2.1 (HEC.out _ T3.out.b))
    have hA := (Below.refl w2.heap.size w2).alloc (Nat.le_refl _) (.cells #[.int .i64 s.id, .int .i64 s'.c.n, .slice s'.za s'.c.zs.length s'.zc, .slice s'.oa s'.c.ko s'.oc, .slice s'.va s'.c.kv s'.vc, .int .i64 s'.c.f] 86)
    have T4 := hdn (T3.out.below hA)
    have O4 := hdn (O3.out.below hA)
    have HS4 := hdn (HS.out.below hA)
    have HB4 := hdn (HB.out.trans (hA.mono HB.out.size))
    clear hA
    have kS4 := And.intro (cells5 T4.out.o).2.2.1 (And.intro (cells5 T4.out.s).2.2.1 (HEC.out _ T4.out.b))
    dsimp only
    refine hK.out _ _ ?_ (fun hHeld => ?_)
    · exact kS3
    clear hK K
    try simp only [Act.put, List.setIfInBounds_toArray, List.set_cons_zero, List.set_cons_succ]
    refine tkZ 15 hHeld ?_
    refine wpAnyZ_ready (rs := [16]) (by kernel_rfl) (by simp) ?_
    refine AllReadyZ.cons rfl (fun K hK => ?_) AllReadyZ.nil
    go_simp
    refine hK.out _ _ ?_ (fun hHeld => ?_)
    · exact kS4
    clear hK K
    (try simp only [Act.put, List.setIfInBounds_toArray, List.set_cons_zero, List.set_cons_succ])
    refine wpAnyZ_ready (rs := [17]) (by kernel_rfl) (by simp) ?_
    refine AllReadyZ.cons rfl (fun K hK => ?_) AllReadyZ.nil
    have hws := HB.out.size
    refine step_append_vals Tryz.underlying33 infoSn6 (by rfl) (by omega) rfl (.tmp 22) (.tmp 37) rfl (w.heap.size + 3) sl i (rowX snCells S') rfl (by rw [<- HLN.out]; exact O4.out.r) w2.heap.size 0 1 1 [.int .i64 s.id, .int .i64 s'.c.n, .slice s'.za s'.c.zs.length s'.zc, .slice s'.oa s'.c.ko s'.oc, .slice s'.va s'.c.kv s'.vc, .int .i64 s'.c.f] rfl rfl (cellsL_here w2 [.int .i64 s.id, .int .i64 s'.c.n, .slice s'.za s'.c.zs.length s'.zc, .slice s'.oa s'.c.ko s'.oc, .slice s'.va s'.c.kv s'.vc, .int .i64 s'.c.f] _) (by simp [Value.oneCell']) (by omega) (by omega) (by have := row_lt T3.out.o; simp; omega) ?_
    intro v' w4 ho hg hbk hn
    rcases own_kinds ho with ⟨_, e0⟩ | ⟨g4, c4, e4, -, -⟩
    · omega
    subst e4
    have hge : ∀ k, sl.ownBlock = some k -> w.heap.size + 3 <= k := fun k e => (O4.out.r.lt k e).1
    have T5 := hdn (T4.out.grown hg hge)
    have hlo : W1.heap.size <= W1.heap.size + 2 := by omega
    have hbs := row_lt T2.out.o
    have O5 := hdn (O2.out.add HB4.out HS4.out hlo hbs (by rw [HLN.out]; have e : [.int .i64 s.id, .int .i64 s'.c.n, .slice s'.za s'.c.zs.length s'.zc, .slice s'.oa s'.c.ko s'.oc, .slice s'.va s'.c.kv s'.vc, .int .i64 s'.c.f] = snCells s' := by rw [HID.out]; rfl
                                                           rw [<- e]; exact ho) hg)
    clear ho hg hbk hn hge hlo hbs hws
    refine hK.out _ _ ?_ (fun hHeld => ?_)
    · exact And.intro (cells5 T5.out.o).2.2.1 (And.intro (cells5 T5.out.s).2.2.1 (HEC.out _ T5.out.b))
    clear hK K
    change wpAnyZ _ _ _ _ _ _ _ _ (Act.put _ (some 38) _) _
    simp only [Act.put, List.setIfInBounds_toArray, List.set_cons_zero, List.set_cons_succ]
    obtain ⟨x0, x1, x2, x3, x4⟩ := cells5 T5.out.o
    have xf := fun i => frozen_of_row _ _ i _ _ T5.out.o
    refine tkZ 18 hHeld ?_
    refine wpAnyZ_ready (rs := [19]) (by kernel_rfl) (by simp) ?_
    refine AllReadyZ.last rfl (fun K hK => ?_)
    go_simp
    refine hK.out _ _ ?_
    clear hK K
    refine wpAnyZ_done (by kernel_rfl) ?_ _
    clear hHeld xf x0 x1 x2 x3 x4 kS3 kS4
    have T6 := hdn (T5.out.set 2 (.slice (some ⟨g4, 0, none⟩) (i + 1) c4))
    have O6 := hdn (O5.out.set (i := 2) (u := .slice (some ⟨g4, 0, none⟩) (i + 1) c4) (show w.heap.size + 1 + 1 < w.heap.size + 3 by omega))
    have HPL6 : Hid ((S' ++ [s']).map SN.plain = (S.take (i + 1)).map SN.plain) := hdn (by rw [HTK.out, List.map_append, List.map_append, HPL.out]; simp only [List.map_cons, List.map_nil, HP.out])
    have HLN6 : Hid ((S' ++ [s']).length = i + 1) := hdn (by rw [List.length_append, HLN.out]; rfl)
    clear T5 O5 T2 T3 T4 O2 O3 O4 HS HS4 HB HB4 HP HID HPL HLN SA2 SK
    generalize S' ++ [s'] = S2 at *
    generalize w4.setCell ⟨w.heap.size + 1 + 1, 2, none⟩ (.slice (some ⟨g4, 0, none⟩) (i + 1) c4) = W5 at *
    go_wp2
    go_roundw
    case rel => exact ⟨i + 1, _, S2, by omega, by first | rfl | go_num, HPL6.out, HLN6.out, T6.out, O6.out⟩
    case measure => simp [intOf]; omega
  · have hin : ¬ ((i : Int) < nS) := by omega
    have hie : i = nS := by omega
    have HPS : Hid (S'.map SN.plain = S.map SN.plain) := hdn (by rw [HPL.out, hie, <- HNS.out, List.take_length])
    have HLS : Hid (S'.length = nS) := hdn (by rw [HLN.out, hie])
    clear HPL HLN hie
    obtain ⟨sa', sc', e⟩ := own_anyV O1.out.r
    rw [HLS.out] at e
    subst e
    go_wp2_with fail
    clear c0 c1 c2 c3 c4
    obtain ⟨lo, HLOE⟩ := nmd wr.heap.size
    have HLO := hdn (show ∀ s ∈ S', ∀ b, bkS s b -> b < lo from fun s hs b hb => by rw [<- HLOE.out]; exact ((O1.out.s s hs).tops hb).2)
    have HLW := hdn (show w.heap.size + 3 <= lo by rw [<- HLOE.out]; have := row_lt T1.out.o; omega)
    have HLI := hdn (Nat.le_of_eq HLOE.out.symm)
    clear HLOE
    go_loopw [5] (fun ti wr => ∃ (j : Nat) (sv : Value) (V' : List VN), j <= nV /\ ti = .int .i64 j /\ V'.map VN.plain = (V.take j).map VN.plain /\ V'.length = j /\ TB 36 36 w wr #[.string nb, .int .i64 nx, .slice sa nS sc, .slice va nV vc, .int .i64 pub] #[.string ⟨#[]⟩, .int .i64 0, .slice none 0 0, .slice none 0 0, .int .i64 0] #[.string nb, .int .i64 nx, .slice sa' nS sc', sv, .int .i64 pub] /\ SO wr (w.heap.size + 3) (.slice sa' nS sc') S' /\ VO wr (w.heap.size + 3) sv V' /\ (∀ v ∈ V', ∀ b, bkV v b -> lo <= b) /\ lo <= wr.heap.size) (fun ti _ => nV - (intOf ti).toNat)
    case atStart => exact ⟨0, .slice none 0 0, [], Nat.zero_le _, rfl, rfl, rfl, T1.out, O1.out, VO.nil _ _, fun _ h => by simp at h, HLI.out⟩
    case round =>
     obtain ⟨j, sv, V', hj, rfl, hpl, hlen, hT, hS, hVO, hBk, hLw⟩ := hrel
     clear T1 O1 HLI
     have T1 := hdn hT
     have O1 := hdn hS
     have Q1 := hdn hVO
     have HBK := hdn hBk
     have HLH := hdn hLw
     have HPL := hdn hpl
     have HLN := hdn hlen
     clear hT hS hVO hBk hLw hpl hlen
     obtain ⟨c0, c1, c2, c3, c4⟩ := cells5 T1.out.s
     by_cases hltv : j < nV
     · have hinv : (j : Int) < nV := by omega
       have hjX : j < V.length := by rw [HNV.out]; exact hltv
       obtain ⟨b, off, e, hcs⟩ := (HA.out.v.below T1.out.b).1 j hjX
       subst e
       have hm := List.getElem_mem hjX
       have SA := hdn ((HA.out.v.below T1.out.b).2 _ hm)
       have SF := hdn (HF.out _ hm)
       have HTK := hdn (show V.take (j + 1) = V.take j ++ [V[j]] from by rw [List.take_succ_eq_append_getElem hjX])
       clear hm
       generalize V[j] = v at *
       obtain ⟨e0, e1, e2, e3⟩ : wr.cell? ⟨b, off + j * 4, none⟩ = some (.int .i64 v.id) /\ wr.cell? ⟨b, off + j * 4 + 1, none⟩ = some (.int .i64 v.sn) /\ wr.cell? ⟨b, off + j * 4 + 2, none⟩ = some (.slice v.ra v.R.length v.rc) /\ wr.cell? ⟨b, off + j * 4 + 3, none⟩ = some (.slice v.la v.L.length v.lc) :=
        ⟨hcs 0 _ rfl, hcs 1 _ rfl, hcs 2 _ rfl, hcs 3 _ rfl⟩
       clear hcs
       go_wp2_with fail
       clear e0 e1 e2 e3 c0 c1 c2 c3 c4
       have T2 := hdn (T1.out.below ((Below.refl _ _).alloc (Nat.le_refl _) (.cells #[.int .i64 v.id, .int .i64 v.sn, .slice v.ra v.R.length v.rc, .slice v.la v.L.length v.lc] 70)))
       have SA2 := hdn (SA.out.below ((Below.refl _ _).alloc (Nat.le_refl _) (.cells #[.int .i64 v.id, .int .i64 v.sn, .slice v.ra v.R.length v.rc, .slice v.la v.L.length v.lc] 70)))
       have N2 : Hid ((wr.alloc (.cells #[.int .i64 v.id, .int .i64 v.sn, .slice v.ra v.R.length v.rc, .slice v.la v.L.length v.lc] 70)).heap[wr.heap.size]? = some (.cells #[.int .i64 v.id, .int .i64 v.sn, .slice v.ra v.R.length v.rc, .slice v.la v.L.length v.lc] 70 (0, 0))) := hdn (heap_alloc_new wr _)
       have BX : Hid (Below wr.heap.size wr (wr.alloc (.cells #[.int .i64 v.id, .int .i64 v.sn, .slice v.ra v.R.length v.rc, .slice v.la v.L.length v.lc] 70))) := hdn ((Below.refl _ _).alloc (Nat.le_refl _) _)
       have hgbs := row_lt T1.out.o
       obtain ⟨gb, HGB⟩ := nmd wr.heap.size
       rw [HGB.out] at N2 BX hgbs ⊢
       generalize wr.alloc (.cells #[.int .i64 v.id, .int .i64 v.sn, .slice v.ra v.R.length v.rc, .slice v.la v.L.length v.lc] 70) = W1 at *
       refine (l4Copy_opt v.ra v.la v.rc v.lc v.R v.L W1 SA2.out.r SA2.out.l (.inr SF.out.2.2.2) SF.out.1 (fun r hr => ⟨(SF.out.2.1 r hr).1, by have := (SF.out.2.1 r hr).2; omega⟩) SF.out.2.2.1).mono ?_
       rintro e w2 ⟨ra2, rc2, gl2, lc2, R2, rfl, hb, hkey, hpo⟩
       have T3 := hdn (T2.out.below hb)
       have N3 := hdn (below_row hb (row_lt N2.out) N2.out)
       have HK := hdn hkey
       have HL : Hid (R2.length = v.R.length) := hdn (by have := congrArg List.length hkey; simpa using this)
       have HS : Hid (VNO w2 (W1.heap.size + 2) (⟨v.id, v.sn, R2, v.L, ra2, some ⟨gl2, 0, none⟩, rc2, lc2⟩ : VN)) := hdn ⟨by rw [<- HL.out] at hpo; exact hpo⟩
       have hg1 : gb < W1.heap.size := row_lt N2.out
       have B3 : Hid (Below gb wr ((w2.setCell ⟨gb, 2, none⟩ (.slice ra2 v.R.length rc2)).setCell ⟨gb, 3, none⟩ (.slice (some ⟨gl2, 0, none⟩) v.L.length lc2))) := hdn (((BX.out.trans (hb.mono (Nat.le_of_lt hg1))).setCell (Nat.le_refl _) _).setCell (Nat.le_refl _) _)
       have N4 : Hid (((w2.setCell ⟨gb, 2, none⟩ (.slice ra2 v.R.length rc2)).setCell ⟨gb, 3, none⟩ (.slice (some ⟨gl2, 0, none⟩) v.L.length lc2)).heap[gb]? = some (.cells #[.int .i64 v.id, .int .i64 v.sn, .slice ra2 v.R.length rc2, .slice (some ⟨gl2, 0, none⟩) v.L.length lc2] 70 (0, 0))) := hdn (heap_setCell_same _ _ _ _ _ _ (heap_setCell_same _ _ _ _ _ _ N3.out))
       have HS3 : Hid (VNO ((w2.setCell ⟨gb, 2, none⟩ (.slice ra2 v.R.length rc2)).setCell ⟨gb, 3, none⟩ (.slice (some ⟨gl2, 0, none⟩) v.L.length lc2)) (W1.heap.size + 2) (⟨v.id, v.sn, R2, v.L, ra2, some ⟨gl2, 0, none⟩, rc2, lc2⟩ : VN)) := hdn ((HS.out.set (by omega)).set (by omega))
       have HT := hdn (show ∀ b, bkV (⟨v.id, v.sn, R2, v.L, ra2, some ⟨gl2, 0, none⟩, rc2, lc2⟩ : VN) b -> W1.heap.size + 2 <= b from fun b hb => (HS.out.tops hb).1)
       clear hb hkey hpo hg1 T2 SA2 N2 SA
       have hA := (Below.refl ((w2.setCell ⟨gb, 2, none⟩ (.slice ra2 v.R.length rc2)).setCell ⟨gb, 3, none⟩ (.slice (some ⟨gl2, 0, none⟩) v.L.length lc2)).heap.size ((w2.setCell ⟨gb, 2, none⟩ (.slice ra2 v.R.length rc2)).setCell ⟨gb, 3, none⟩ (.slice (some ⟨gl2, 0, none⟩) v.L.length lc2))).alloc (Nat.le_refl _) (.cells #[.int .i64 v.id, .int .i64 v.sn, .slice ra2 v.R.length rc2, .slice (some ⟨gl2, 0, none⟩) v.L.length lc2] 70)
       have B4 : Hid (Below wr.heap.size wr (((w2.setCell ⟨gb, 2, none⟩ (.slice ra2 v.R.length rc2)).setCell ⟨gb, 3, none⟩ (.slice (some ⟨gl2, 0, none⟩) v.L.length lc2)).alloc (.cells #[.int .i64 v.id, .int .i64 v.sn, .slice ra2 v.R.length rc2, .slice (some ⟨gl2, 0, none⟩) v.L.length lc2] 70))) := hdn (by rw [HGB.out]; exact B3.out.trans (hA.mono (by have := B3.out.size; have := HGB.out; omega)))
       have T4 := hdn (T1.out.below B4.out)
       have O4 := hdn (O1.out.below B4.out)
       have Q4 := hdn (Q1.out.below B4.out)
       have HS4 := hdn (HS3.out.below hA)
       clear hA
       obtain ⟨n0, n1, n2, n3⟩ := cells4k N3.out
       have nf := fun i => frozen_of_row _ _ i _ _ N3.out
       obtain ⟨x0, x1, x2, x3, x4⟩ := cells5 T3.out.o
       have hne : gb ≠ w.heap.size + 1 + 1 := by omega
       have HC4 : Hid (∀ q u, ([.int .i64 v.id, .int .i64 v.sn, .slice ra2 v.R.length rc2, .slice (some ⟨gl2, 0, none⟩) v.L.length lc2])[q]? = some u -> ∃ b off, some (⟨w2.heap.size, 0, none⟩ : Addr) = some ⟨b, off, none⟩ /\ (((w2.setCell ⟨gb, 2, none⟩ (.slice ra2 v.R.length rc2)).setCell ⟨gb, 3, none⟩ (.slice (some ⟨gl2, 0, none⟩) v.L.length lc2)).alloc (.cells #[.int .i64 v.id, .int .i64 v.sn, .slice ra2 v.R.length rc2, .slice (some ⟨gl2, 0, none⟩) v.L.length lc2] 70)).cell? ⟨b, off + q, none⟩ = some u) := hdn (fun q u hu => ⟨w2.heap.size, 0, rfl, by
        have h := cellsL_here ((w2.setCell ⟨gb, 2, none⟩ (.slice ra2 v.R.length rc2)).setCell ⟨gb, 3, none⟩ (.slice (some ⟨gl2, 0, none⟩) v.L.length lc2)) [.int .i64 v.id, .int .i64 v.sn, .slice ra2 v.R.length rc2, .slice (some ⟨gl2, 0, none⟩) v.L.length lc2] 70 q u hu
        rw [show ((w2.setCell ⟨gb, 2, none⟩ (.slice ra2 v.R.length rc2)).setCell ⟨gb, 3, none⟩ (.slice (some ⟨gl2, 0, none⟩) v.L.length lc2)).heap.size = w2.heap.size from by simp] at h
        exact h⟩)
       have HB4 := hdn (show w.heap.size + 3 <= (((w2.setCell ⟨gb, 2, none⟩ (.slice ra2 v.R.length rc2)).setCell ⟨gb, 3, none⟩ (.slice (some ⟨gl2, 0, none⟩) v.L.length lc2)).alloc (.cells #[.int .i64 v.id, .int .i64 v.sn, .slice ra2 v.R.length rc2, .slice (some ⟨gl2, 0, none⟩) v.L.length lc2] 70)).heap.size from row_lt T4.out.o)
       have HW1 := hdn (show wr.heap.size <= W1.heap.size + 2 by have := BX.out.size; omega)
       go_wp2_with (
        at_builtin
        go_must (refine append_opt Tryz.underlying34 infoVe4 (by rfl) (by omega) _ rfl _ _ rfl (w.heap.size + 3) sv j (rowX vnCells V') rfl (by rw [<- HLN.out]; exact Q4.out.r) (some ⟨w2.heap.size, 0, none⟩) 1 1 [.int .i64 v.id, .int .i64 v.sn, .slice ra2 v.R.length rc2, .slice (some ⟨gl2, 0, none⟩) v.L.length lc2] rfl rfl HC4.out (by simp [Value.oneCell']) (by omega) (by omega) HB4.out ?_)
        go_loud (
         intro v' w4 ho hg hbk hn
         have he4 : ∃ g4 c4, v' = .slice (some ⟨g4, 0, none⟩) (j + 1) c4 := by
          rcases own_kinds ho with ⟨_, e0⟩ | ⟨g4, c4, e4, -, -⟩
          · omega
          · exact ⟨g4, c4, e4⟩
         obtain ⟨g4, c4, e4⟩ := he4
         subst e4
         have hge : ∀ k, sv.ownBlock = some k -> w.heap.size + 3 <= k := fun k e => (Q4.out.r.lt k e).1
         have T5 := hdn (T4.out.grown hg hge)
         have e5 : ([.int .i64 v.id, .int .i64 v.sn, .slice ra2 v.R.length rc2, .slice (some ⟨gl2, 0, none⟩) v.L.length lc2] : List Value) = vnCells (⟨v.id, v.sn, R2, v.L, ra2, some ⟨gl2, 0, none⟩, rc2, lc2⟩ : VN) := by simp only [vnCells, HL.out]
         rw [e5, <- HLN.out] at ho
         have q5 := Q1.out.add B4.out HS4.out HW1.out (row_lt T1.out.o) ho hg
         rw [HLN.out] at q5
         have Q5 := hdn q5
         clear q5
         clear e5
         have O5 := hdn (O4.out.gro Q4.out.r hg)
         have HL5 : Hid (lo <= w4.heap.size) := hdn (by have h1 := HLH.out; have h2 := B4.out.size; have h3 := hg.size; omega)
         obtain ⟨y0, y1, y2, y3, y4⟩ := cells5 T5.out.o
         have yf := fun i => frozen_of_row _ _ i _ _ T5.out.o)
        clear ho hg hbk hn hge n0 n1 n2 n3 nf x0 x1 x2 x3 x4 hne)
       have HBK5 : Hid (∀ u ∈ V' ++ [(⟨v.id, v.sn, R2, v.L, ra2, some ⟨gl2, 0, none⟩, rc2, lc2⟩ : VN)], ∀ b, bkV u b -> lo <= b) := hdn (fun u hu b hb => by
        rcases List.mem_append.1 hu with hu | hu
        · exact HBK.out u hu b hb
        · obtain rfl := List.mem_singleton.1 hu
          have h1 := HT.out b hb
          have h2 := HLH.out
          have h3 := HW1.out
          have h4 := BX.out.size
          omega)
       have T6 := hdn (T5.out.set 3 (.slice (some ⟨g4, 0, none⟩) (j + 1) c4))
       have O6 := hdn (O5.out.set (i := 3) (u := .slice (some ⟨g4, 0, none⟩) (j + 1) c4) (show w.heap.size + 1 + 1 < w.heap.size + 3 by omega))
       have Q6 := hdn (Q5.out.set (i := 3) (u := .slice (some ⟨g4, 0, none⟩) (j + 1) c4) (show w.heap.size + 1 + 1 < w.heap.size + 3 by omega))
       have HL6 : Hid (lo <= (w4.setCell ⟨w.heap.size + 1 + 1, 3, none⟩ (.slice (some ⟨g4, 0, none⟩) (j + 1) c4)).heap.size) := hdn (by have := HL5.out; simpa using this)
       have HPL6 : Hid ((V' ++ [(⟨v.id, v.sn, R2, v.L, ra2, some ⟨gl2, 0, none⟩, rc2, lc2⟩ : VN)]).map VN.plain = (V.take (j + 1)).map VN.plain) := hdn (by rw [HTK.out, List.map_append, List.map_append, HPL.out]; simp only [List.map_cons, List.map_nil, VN.plain, RT.plain_key HK.out])
       have HLN6 : Hid ((V' ++ [(⟨v.id, v.sn, R2, v.L, ra2, some ⟨gl2, 0, none⟩, rc2, lc2⟩ : VN)]).length = j + 1) := hdn (by rw [List.length_append, HLN.out]; rfl)
       go_roundw
       case rel => exact ⟨j + 1, _, V' ++ [(⟨v.id, v.sn, R2, v.L, ra2, some ⟨gl2, 0, none⟩, rc2, lc2⟩ : VN)], by omega, by first | rfl | go_num, HPL6.out, HLN6.out, T6.out, O6.out, Q6.out, HBK5.out, HL6.out⟩
       case measure => simp [intOf]; omega
     · have hinv : ¬ ((j : Int) < nV) := by omega
       have hje : j = nV := by omega
       have HPV : Hid (V'.map VN.plain = V.map VN.plain) := hdn (by rw [HPL.out, hje, <- HNV.out, List.take_length])
       have HLV : Hid (V'.length = nV) := hdn (by rw [HLN.out, hje])
       clear HPL HLN hje
       obtain ⟨va', vc', e⟩ := own_anyV Q1.out.r
       rw [HLV.out] at e
       subst e
       obtain ⟨c0, c1, c2, c3, c4⟩ := cells5 T1.out.o
       obtain ⟨z0, z1, z2, z3, z4⟩ := cells5 T1.out.z
       have f1 := fun i => frozen_of_row _ _ i _ _ T1.out.z
       go_wp2
       refine bodyPost_ret (v := .agg #[.string nb, .int .i64 nx, .slice sa' nS sc', .slice va' nV vc', .int .i64 pub]) (by simp [results, Tryz.results85, go_sem, z0, z1, z2, z3, z4]) rfl ⟨⟨nm, nx, S', V', pub, sa', va', sc', vc'⟩, by simp only [HNB.out, HLS.out, HLV.out], by simp only [TN.plain, HPS.out, HPV.out], ?_, ?_⟩
       · repeat (first | with_reducible exact T1.out.b | refine Below.setCell ?_ (by simp <;> omega) _)
       · have h : TNO wr (w.heap.size + 3) ⟨nm, nx, S', V', pub, sa', va', sc', vc'⟩ := ⟨by simp only [HLS.out]; exact O1.out, lo, HLW.out, by simp only [HLV.out]; exact Q1.out, HBK.out, HLO.out⟩
         repeat (first | with_reducible exact h | refine TNO.set ?_ (by omega))
end Go.Proofs.YtehfjfmfpdgibaaGreatDoor
