import Derived.Test.YtehfjfmfpdgibaaGreatDoorPack10
import Derived.Test.YtehfjfmfpdgibaaGreatDoorImplTenantOf
import Derived.Test.YtehfjfmfpdgibaaGreatDoorPack36
namespace Go.Proofs.YtehfjfmfpdgibaaGreatDoor
open Go.RowKit
def PubOutI (T : List TN) (q : ByteArray) (w : World) (e : Ending) (w' : World) : Prop := (∃ (s0 : SN) (v0 : VN) (ra : Option Addr) (rc : Nat) (la : Option Addr) (lc : Nat) (S : List RT), pubT T q = some (s0, v0) /\ e = .returned (.tuple #[.agg #[.slice ra v0.R.length rc, .slice la v0.L.length lc], .int .i64 (pubC s0 v0), .bool true]) /\ Below w.heap.size w w' /\ S.map RT.key = v0.R.map RT.key /\ PO w' (w.heap.size + 2) (.slice ra v0.R.length rc) S (.slice la v0.L.length lc) v0.L /\ (v0.R.length <= 12 /\ (∀ r ∈ v0.R, r.ids ≠ [] /\ r.ids.length <= 12) /\ v0.L.length <= 12) /\ Apt S la) ∨ (pubT T q = none /\ e = .returned (.tuple #[.agg #[.slice none 0 0, .slice none 0 0], .int .i64 0, .bool false]) /\ Below w.heap.size w w')
set_option maxRecDepth 20000 in
set_option maxHeartbeats 4000000 in
theorem implPub_any (a : Option Addr) (c : Nat) (T : List TN) (q : ByteArray) (w : World) (hA : TensAt w a T) (hT : TSm T) (hL : LasT T) (hG : GS w) (hG3 : GSx 0 w) :
 Calls Tryz.prog 20 #[.agg #[.slice a T.length c], .string q] w (PubOutI T q w) := by
 have B0 := hdn (B2.new 29 46 w #[.slice a T.length c] #[.slice none 0 0, .slice none 0 0])
 have HG0 := hdn (hG.below B0.out.b (Nat.le_refl _))
 have CT := hdn (implTenantOf_any a c T q _ (hA.below B0.out.b) hT hL HG0.out (hG3.below B0.out.b (Nat.le_refl _)))
 obtain ⟨n, HN⟩ := nmd T.length
 clear hA hT hL hG hG3
 rw [HN.out] at CT B0 HG0 ⊢
 have q0 := cell1x B0.out.s
 go_enter Tryz.func20, Tryz.ntmps20
 go_wp2_with fail
 generalize ((w.alloc (.cells #[.slice a n c] 29)).alloc (.cells #[.slice none 0 0, .slice none 0 0] 46)) = W0 at *
 have HW0 := hdn (row_lt B0.out.o)
 refine CT.out.mono ?_
 rintro e w1 (⟨x, t, hf, hm, rfl, hpl, hb1, hO, hap⟩ | ⟨hf, rfl, hb1⟩)
 · have HF := hdn hf
   have HM := hdn hm
   have HPL := hdn hpl
   have HAP := hdn hap
   obtain ⟨hlv, hls⟩ := ten_lens (tenT_true hf hm) hpl
   have hA1 := (Below.refl w1.heap.size w1).alloc (Nat.le_refl _) (.cells #[.string (txt t.nm), .int .i64 t.nx, .slice t.sa t.S.length t.sc, .slice t.va t.V.length t.vc, .int .i64 t.pub] 36)
   have B1 := hdn ((B0.out.below hb1).below hA1)
   have O1 := hdn ((hO.base (b0 := w.heap.size + 2) (by have := HW0.out; omega)).below hA1)
   have K1 := hdn (heap_alloc_new w1 (.cells #[.string (txt t.nm), .int .i64 t.nx, .slice t.sa t.S.length t.sc, .slice t.va t.V.length t.vc, .int .i64 t.pub] 36))
   have G1 := hdn ((HG0.out.below hb1 (Nat.le_refl _)).below hA1 (Nat.le_refl _))
   clear hf hm hpl hb1 hO hap hA1 CT B0 q0 HG0
   obtain ⟨tm, tx, tS, tV, tp, tsa, tva, tsc, tvc⟩ := t
   simp only at K1 B1 O1 G1 HAP hlv hls ⊢
   have CV : Hid (∀ W, TNAt W ⟨tm, tx, tS, tV, tp, tsa, tva, tsc, tvc⟩ -> GS W -> _) := fun W h hg => findVersion_any ⟨tm, tx, tS, tV, tp, tsa, tva, tsc, tvc⟩ tp W h (by show tV.length <= _; omega) hg
   have CN : Hid (∀ id W, TNAt W ⟨tm, tx, tS, tV, tp, tsa, tva, tsc, tvc⟩ -> GS W -> _) := fun id W h hg => findSnap_any ⟨tm, tx, tS, tV, tp, tsa, tva, tsc, tvc⟩ id W h (by show tS.length <= _; omega) hg
   simp only at CV CN
   generalize txt tm = mn at *
   obtain ⟨mS, HMS⟩ := nmd tS.length
   obtain ⟨mV, HMV⟩ := nmd tV.length
   rw [HMS.out, HMV.out] at K1 B1 O1 G1 CV CN ⊢
   obtain ⟨k0, k1, k2, k3, k4⟩ := cells5 K1.out
   go_wp2_with fail
   generalize (w1.alloc (.cells #[.string mn, .int .i64 tx, .slice tsa mS tsc, .slice tva mV tvc, .int .i64 tp] 36)) = W1 at *
   obtain ⟨kt, HKT⟩ := nmd w1.heap.size
   rw [HKT.out] at K1 k0 k1 k2 k3 k4 ⊢
   refine (CV.out W1 O1.out.at G1.out).mono ?_
   rintro e w2 (⟨v, hv, rfl, hb2⟩ | ⟨hv, ⟨T9, v9, rfl⟩, hb2⟩)
   · obtain ⟨s, s0, v0, hs, hpb, hps, hpv, hpl⟩ := pub_copy HF.out HM.out HPL.out hv
     have HV := hdn hv
     have HS := hdn hs
     have HPB := hdn hpb
     have HPS := hdn hps
     have HPV := hdn hpv
     have HPP := hdn hpl
     have HLE := hdn (pub_lens hpl hpv)
     clear hv hs hpb hps hpv hpl CV
     have hA2 := (Below.refl w2.heap.size w2).alloc (Nat.le_refl _) (.cells #[.int .i64 v.id, .int .i64 v.sn, .slice v.ra v.R.length v.rc, .slice v.la v.L.length v.lc] 70)
     have HK2 := hdn (row_lt (B1.out.below hb2).o)
     have B2 := hdn ((B1.out.below hb2).below hA2)
     have O2 := hdn ((O1.out.below hb2).below hA2)
     have K2 := hdn (below_row hA2 (row_lt (below_row hb2 (row_lt K1.out) K1.out)) (below_row hb2 (row_lt K1.out) K1.out))
     have V2 := hdn (heap_alloc_new w2 (.cells #[.int .i64 v.id, .int .i64 v.sn, .slice v.ra v.R.length v.rc, .slice v.la v.L.length v.lc] 70))
     have G2 := hdn ((G1.out.below hb2 (Nat.le_refl _)).below hA2 (Nat.le_refl _))
     clear hb2 hA2 G1 B1 O1 K1 k0 k1 k2 k3 k4
     have HA9 := hdn (HAP.out v (List.mem_of_find?_eq_some HV.out))
     have HC9 : Hid (∀ r ∈ v.R, r.ids.length <= r.c) := fun r hr => ((O2.out.vno (List.mem_of_find?_eq_some HV.out)).p.ints r hr).2
     have HP9 : Hid (∀ W, TNO W (w.heap.size + 2) ⟨tm, tx, tS, tV, tp, tsa, tva, tsc, tvc⟩ -> PO W (w.heap.size + 2) (.slice v.ra v.R.length v.rc) v.R (.slice v.la v.L.length v.lc) v.L) := fun W h => (h.vno (List.mem_of_find?_eq_some HV.out)).p
     have HO9 : Hid (∀ W, TNO W (w.heap.size + 2) ⟨tm, tx, tS, tV, tp, tsa, tva, tsc, tvc⟩ -> RoutesAt W v.ra v.R /\ IntsAt W v.la v.L) := fun W h => by
      have := (h.vno (List.mem_of_find?_eq_some HV.out)).at
      exact ⟨this.r, this.l⟩
     have HS9 : Hid (∀ W, TNO W (w.heap.size + 2) ⟨tm, tx, tS, tV, tp, tsa, tva, tsc, tvc⟩ -> SNAt W s) := fun W h => h.at.s.2 s (List.mem_of_find?_eq_some HS.out)
     have HVL : Hid (v.R.length <= 12 /\ (∀ r ∈ v.R, r.ids ≠ [] /\ r.ids.length <= 12) /\ v.L.length <= 12) := pub_lens HPP.out rfl
     have HLA : Hid ((v.la = none /\ v.L.length = 0) ∨ ∃ bl ol, v.la = some ⟨bl, ol, none⟩) := by
      rcases own_kinds (O2.out.vno (List.mem_of_find?_eq_some HV.out)).p.l with ⟨e, h0⟩ | ⟨g, c9, e, _, _⟩
      · exact .inl ⟨by injection e, h0⟩
      · exact .inr ⟨g, 0, by injection e⟩
     have HSL : Hid (s.c.os.length = s.c.ko * 6 /\ s.c.vs.length = s.c.kv * 5) := by
      have h9 := O2.out.s.s s (List.mem_of_find?_eq_some HS.out)
      exact ⟨by have := h9.o.1; simpa using this, by have := h9.v.1; simpa using this⟩
     obtain ⟨vid, vsn, vR, vL, vra, vla, vrc, vlc⟩ := v
     simp only at V2 B2 O2 K2 G2 HO9 HA9 HC9 HP9 HS HPP HVL HLA ⊢
     have hvl := HVL.out
     have hvn : vR.length <= 12 /\ vL.length <= 12 := ⟨hvl.1, hvl.2.2⟩
     clear hvl
     obtain ⟨nR, HNR⟩ := nmd vR.length
     obtain ⟨nL, HNL⟩ := nmd vL.length
     rw [HNR.out, HNL.out] at V2 B2 O2 K2 G2 HP9 ⊢
     obtain ⟨k0, k1, k2, k3, k4⟩ := cells5 K2.out
     obtain ⟨v9, v1, v2, v3⟩ := cells4v V2.out
     go_wp2_with fail
     generalize (w2.alloc (.cells #[.int .i64 vid, .int .i64 vsn, .slice vra nR vrc, .slice vla nL vlc] 70)) = W2 at *
     obtain ⟨kv, HKV⟩ := nmd w2.heap.size
     rw [HKV.out] at V2 v9 v1 v2 v3 ⊢
     refine (CN.out vsn W2 O2.out.at G2.out).mono ?_
     rintro e w3 (⟨s', hs', rfl, hb3⟩ | ⟨hs', _⟩)
     · obtain rfl : s' = s := Option.some.inj (hs'.symm.trans HS.out)
       clear hs'
       have hA3 := (Below.refl w3.heap.size w3).alloc (Nat.le_refl _) (.cells #[.int .i64 s'.id, .int .i64 s'.c.n, .slice s'.za s'.c.zs.length s'.zc, .slice s'.oa s'.c.ko s'.oc, .slice s'.va s'.c.kv s'.vc, .int .i64 s'.c.f] 86)
       have HK3 := hdn (row_lt (B2.out.below hb3).o)
       have B3 := hdn ((B2.out.below hb3).below hA3)
       have O3 := hdn ((O2.out.below hb3).below hA3)
       have V3 := hdn (below_row hA3 (row_lt (below_row hb3 (row_lt V2.out) V2.out)) (below_row hb3 (row_lt V2.out) V2.out))
       have C3 := hdn (heap_alloc_new w3 (.cells #[.int .i64 s'.id, .int .i64 s'.c.n, .slice s'.za s'.c.zs.length s'.zc, .slice s'.oa s'.c.ko s'.oc, .slice s'.va s'.c.kv s'.vc, .int .i64 s'.c.f] 86))
       clear hb3 hA3 B2 O2 K2 V2 k0 k1 k2 k3 k4 v9 v1 v2 v3 CN
       obtain ⟨sid, ⟨cn, cf, zs, os, vs, ko, kv9⟩, za, oa, va9, zc, oc, vc9⟩ := s'
       simp only at B3 O3 V3 C3 HPP HS9 HSL ⊢
       have LK : Hid (∀ W, TNO W (w.heap.size + 2) ⟨tm, tx, tS, tV, tp, tsa, tva, tsc, tvc⟩ -> _) := fun W h => implCosts_any cn cf za oa va9 vra vla zc ko oc kv9 vc9 vrc vlc zs os vs vL vR W (HS9.out W h).z (HS9.out W h).o (HS9.out W h).v (HO9.out W h).1 HSL.out.1 HSL.out.2 (by have := (planV_sm HPP.out).2.2.2.2; omega) (by have := (planV_sm HPP.out).2.2.2.2; omega) HC9.out HPP.out
       obtain ⟨nz, HNZ⟩ := nmd zs.length
       obtain ⟨cc, HCC⟩ := nmd (costR cn zs os vs ko kv9 vR (cf * vL.length) vR.length)
       rw [HCC.out, HNR.out, HNL.out, HNZ.out] at LK
       rw [HNZ.out] at C3 B3 O3 V3 ⊢
       obtain ⟨v9, v1, v2, v3⟩ := cells4v V3.out
       go_wp2_with fail
       generalize (w3.alloc (.cells #[.int .i64 sid, .int .i64 cn, .slice za nz zc, .slice oa ko oc, .slice va9 kv9 vc9, .int .i64 cf] 86)) = W3 at *
       obtain ⟨kc, HKC⟩ := nmd w3.heap.size
       rw [HKC.out] at C3 HK3 ⊢
       rw [HKV.out] at HK2
       have kS := fun (W : World) (h1 : W.heap[kv]? = some (.cells #[.int .i64 vid, .int .i64 vsn, .slice vra nR vrc, .slice vla nL vlc] 70 (0, 0))) (h2 : W.heap[kc]? = some (.cells #[.int .i64 sid, .int .i64 cn, .slice za nz zc, .slice oa ko oc, .slice va9 kv9 vc9, .int .i64 cf] 86 (0, 0))) => And.intro (cells4v h1).2.2 (cells6v h2).2
       have hkS : Hid _ := kS
       clear kS v9 v1 v2 v3
       have hD : Below W3.heap.size W3 W3.drew := (Below.refl _ _).drew
       refine wp_region_held_drew (S := (fun W => (W.cell? ⟨kv, 2, none⟩ = some (.slice vra nR vrc) /\ W.cell? ⟨kv, 3, none⟩ = some (.slice vla nL vlc)) /\ W.cell? ⟨kc, 1, none⟩ = some (.int .i64 cn) /\ W.cell? ⟨kc, 2, none⟩ = some (.slice za nz zc) /\ W.cell? ⟨kc, 3, none⟩ = some (.slice oa ko oc) /\ W.cell? ⟨kc, 4, none⟩ = some (.slice va9 kv9 vc9) /\ W.cell? ⟨kc, 5, none⟩ = some (.int .i64 cf))) (by kernel_rfl) ?_ (fun hHeld => ?_)
       · exact hkS.out _ (below_row hD (row_lt V3.out) V3.out) (below_row hD (row_lt C3.out) C3.out)
       have B4 := hdn (B3.out.below hD)
       have O4 := hdn (O3.out.below hD)
       have V4 := hdn (below_row hD (row_lt V3.out) V3.out)
       have C4 := hdn (below_row hD (row_lt C3.out) C3.out)
       clear hD B3 O3 V3 C3
       generalize W3.drew = W4 at *
       refine tkH 0 hHeld ?_
       refine tkH 1 hHeld ?_
       refine tkH 2 hHeld ?_
       refine tkH 3 hHeld ?_
       refine tkH 4 hHeld ?_
       refine tkH 5 hHeld ?_
       refine wpAnyH_ready (rs := [6]) (by kernel_rfl) (by simp) ?_
       refine AllReadyH.cons rfl (fun K hK => ?_) AllReadyH.nil
       go_simp
       refine (LK.out W4 O4.out).mono ?_
       rintro e w6 ⟨rfl, hb⟩
       have P6 := hdn ((HP9.out W4 O4.out).below hb)
       have B6 := hdn (B4.out.below hb)
       have V6 := hdn (below_row hb (row_lt V4.out) V4.out)
       have C6 := hdn (below_row hb (row_lt C4.out) C4.out)
       clear hb B4 O4 V4 C4 LK
       (try go_wp2_with fail)
       refine hK.out _ _ ?_ (fun hHeld => ?_)
       · exact hkS.out _ V6.out C6.out
       clear hK K
       (try simp only [Act.put, List.setIfInBounds_toArray, List.set_cons_zero, List.set_cons_succ])
       refine wpAnyH_ready (rs := [7]) (by kernel_rfl) (by simp) ?_
       refine AllReadyH.cons rfl (fun K hK => ?_) AllReadyH.nil
       obtain ⟨r0, r1⟩ := cells2 B6.out.o
       have f0 := fun i => frozen_of_row _ _ i _ _ B6.out.o
       go_simp
       have hg : w6.grownBy ((w6.setCell ⟨w.heap.size + 1, 0, none⟩ (.slice vra nR vrc)).setCell ⟨w.heap.size + 1, 1, none⟩ (.slice vla nL vlc)) (some (w.heap.size + 1)) := grown_trans (grown_set _ _ _ _) (grown_set _ _ _ _)
       refine hK.out _ _ ?_ (fun hHeld => ?_)
       · exact hkS.out _ (grown_row hg V6.out (fun e => by injection e with e; have := HK2.out; omega)) (grown_row hg C6.out (fun e => by injection e with e; have := HK3.out; omega))
       clear hK K hg
       (try simp only [Act.put, List.setIfInBounds_toArray, List.set_cons_zero, List.set_cons_succ])
       refine tkH 8 hHeld ?_
       refine tkH 9 hHeld ?_
       refine wpAnyH_done (by kernel_rfl) ?_ _
       clear hHeld
       go_wp2
       have hpc : cc = pubC s0 v0 := by rw [<- HCC.out]; exact pubC_same HPS.out HPV.out
       have hl1 : nR = v0.R.length := by rw [<- HNR.out]; have := congrArg List.length (congrArg VN.R HPV.out :); simpa [VN.plain] using this
       have hl2 : vL = v0.L := (congrArg VN.L HPV.out :)
       have hl3 : nL = v0.L.length := by rw [<- HNL.out, hl2]
       have hl4 : vR.map RT.key = v0.R.map RT.key := RT.key_plain (congrArg VN.R HPV.out :)
       refine bodyPost_ret (v := .tuple #[.agg #[.slice vra nR vrc, .slice vla nL vlc], .int .i64 cc, .bool true]) (by simp [results, Tryz.results20, go_sem, r0, r1]) rfl (.inl ⟨s0, v0, vra, vrc, vla, vlc, vR, HPB.out, by rw [hl1, hl3, hpc], ?_, hl4, ?_, HLE.out, HA9.out⟩)
       · repeat (first | with_reducible exact B6.out.b | refine Below.setCell ?_ (by simp <;> omega) _)
       · rw [<- hl1, <- hl3, <- hl2]
         exact (P6.out.set (by omega)).set (by omega)
     · rw [HS.out] at hs'
       cases hs'
   · have HN9 := hdn (pub_none HF.out HPL.out hv)
     have hA2 := (Below.refl w2.heap.size w2).alloc (Nat.le_refl _) (.cells #[.int .i64 0, .int .i64 0, .slice none 0 0, .slice none 0 0] 70)
     have B2 := hdn ((B1.out.below hb2).below hA2)
     have HK2 := hdn (row_lt (B1.out.below hb2).o)
     clear hv hb2 hA2 CV CN G1 B1 O1 K1 k0 k1 k2 k3 k4
     obtain ⟨r0, r1⟩ := cells2 B2.out.o
     have f0 := fun i => frozen_of_row _ _ i _ _ B2.out.o
     go_wp2
     refine bodyPost_ret (v := .tuple #[.agg #[.slice none 0 0, .slice none 0 0], .int .i64 0, .bool false]) (by simp [results, Tryz.results20, go_sem, r0, r1]) rfl (.inr ⟨HN9.out, rfl, ?_⟩)
     repeat (first | with_reducible exact B2.out.b | refine Below.setCell ?_ (by simp <;> omega) _)
 · have HF := hdn hf
   have HN9 := hdn (pub_noT HF.out)
   have hA1 := (Below.refl w1.heap.size w1).alloc (Nat.le_refl _) (.cells #[.string ⟨#[]⟩, .int .i64 0, .slice none 0 0, .slice none 0 0, .int .i64 0] 36)
   have B2 := hdn ((B0.out.below hb1).below hA1)
   have HK2 := hdn (row_lt (B0.out.below hb1).o)
   clear hf hb1 hA1 CT B0 q0 HG0
   obtain ⟨r0, r1⟩ := cells2 B2.out.o
   have f0 := fun i => frozen_of_row _ _ i _ _ B2.out.o
   go_wp2
   refine bodyPost_ret (v := .tuple #[.agg #[.slice none 0 0, .slice none 0 0], .int .i64 0, .bool false]) (by simp [results, Tryz.results20, go_sem, r0, r1]) rfl (.inr ⟨HN9.out, rfl, ?_⟩)
   repeat (first | with_reducible exact B2.out.b | refine Below.setCell ?_ (by simp <;> omega) _)
end Go.Proofs.YtehfjfmfpdgibaaGreatDoor
