import Derived.Test.YtehfjfmfpdgibaaGreatDoorPack2
import Derived.Test.YtehfjfmfpdgibaaGreatDoorPack8
namespace Go.Proofs.YtehfjfmfpdgibaaGreatDoor
open Go.RowKit
theorem rts_low {n : Int} {zs os vs : List Int} {ko kv : Nat} {fine : Int} {R : List RT} {k m : Nat} (hc : caseB n zs os vs ko kv fine = true) (hk : k < m) (h : ¬ lastV R k < (R.getD k rt0).v) : ¬ RtsOk n zs os vs ko kv R m := fun H =>
 h ((lastV_lt hc (H k hk).2.2).1 (H k hk).1)
set_option maxRecDepth 100000 in
set_option maxHeartbeats 2000000 in
theorem routesOk_any (n fine : Int) (a ao av ra : Option Addr) (cap ko co kv cv rc : Nat) (zs os vs : List Int) (R : List RT) (w : World) (hA : IntsAt w a zs) (hO : IntsAt w ao os) (hV : IntsAt w av vs) (hR : RoutesAt w ra R) (hlo : os.length = ko * 6) (hlv : vs.length = kv * 5) (hko : ko <= 9223372036854775807) (hkv : kv <= 9223372036854775807) (hn : R.length <= 1048576) (hi : ∀ r ∈ R, r.ids.length <= 1048576) (hrc : ∀ r ∈ R, r.ids.length <= r.c) (hcB : caseB n zs os vs ko kv fine = true) :
 Calls Tryz.prog 164 #[.agg #[.int .i64 n, .slice a zs.length cap, .slice ao ko co, .slice av kv cv, .int .i64 fine], .slice ra R.length rc] w fun e w' => Below w.heap.size w w' /\ ((e = .returned (.bool true) /\ RtsOk n zs os vs ko kv R R.length) ∨ (e = .returned (.bool false) /\ ¬ RtsOk n zs os vs ko kv R R.length)) := by
 have HA : Hid (IntsAt w a zs) := hA
 have HO : Hid (IntsAt w ao os) := hO
 have HV : Hid (IntsAt w av vs) := hV
 have HR : Hid (RoutesAt w ra R) := hR
 have HLO : Hid _ := hlo
 have HLV : Hid _ := hlv
 have HI : Hid _ := hi
 have HRC : Hid _ := hrc
 have HC : Hid _ := hcB
 clear hA hO hV hR hlo hlv hi hrc hcB
 obtain ⟨m, HN⟩ := nmd R.length
 rw [HN.out] at hn ⊢
 have hnn := HN.out
 have B0 : Hid (Below w.heap.size w (w.alloc (.cells #[.int .i64 n, .slice a zs.length cap, .slice ao ko co, .slice av kv cv, .int .i64 fine] 78))) := (Below.refl _ _).alloc (Nat.le_refl _) _
 have G0 : Hid ((w.alloc (.cells #[.int .i64 n, .slice a zs.length cap, .slice ao ko co, .slice av kv cv, .int .i64 fine] 78)).heap[w.heap.size]? = _) := heap_alloc_new _ _
 go_enter Tryz.func164, Tryz.ntmps164
 go_wp2_with fail
 generalize (w.alloc (.cells #[.int .i64 n, .slice a zs.length cap, .slice ao ko co, .slice av kv cv, .int .i64 fine] 78)) = W0 at *
 go_loopw [5, 12] (fun tl t wr => ∃ k : Nat, k <= m /\ t = .int .i64 k /\ tl = .int .i64 (lastV R k) /\ RtsOk n zs os vs ko kv R k /\ Below w.heap.size w wr /\ wr.heap[w.heap.size]? = some (.cells #[.int .i64 n, .slice a zs.length cap, .slice ao ko co, .slice av kv cv, .int .i64 fine] 78 (0, 0))) (fun _ t _ => m - (intOf t).toNat)
 case atStart => exact ⟨0, Nat.zero_le _, rfl, rfl, RtsOk.zero _ _ _ _ _ _ _, B0.out, G0.out⟩
 case round =>
  clear B0 G0
  obtain ⟨k, hk, rfl, rfl, hok, hb, hp⟩ := hrel
  have OK : Hid (RtsOk n zs os vs ko kv R k) := hok
  have B1 : Hid _ := hb
  have P1 : Hid (wr.heap[w.heap.size]? = _) := hp
  clear hok hb hp
  by_cases hlt : k < m
  · have hkl : k < R.length := by omega
    have hmem : R.getD k rt0 ∈ R := by rw [List.getD_eq_getElem?_getD, List.getElem?_eq_getElem hkl]; simp
    obtain ⟨b, off, rfl, h1, h2, h3⟩ := (HR.below B1.out) k hkl
    have hml := HI.out _ hmem
    have hrcl := HRC.out _ hmem
    have HLOW : Hid (¬ lastV R k < (R.getD k rt0).v -> ¬ RtsOk n zs os vs ko kv R m) := rts_low HC.out hlt
    have HNIL : Hid ((R.getD k rt0).ids = [] -> ¬ RtsOk n zs os vs ko kv R m) := fun h H => (H k hlt).2.1 h
    have HCOD : Hid (codeV true n zs os vs ko kv (R.getD k rt0).v (R.getD k rt0).ids ≠ 0 -> ¬ RtsOk n zs os vs ko kv R m) := fun h H => h (H k hlt).2.2
    have HSTEP : Hid _ := fun h1 h2 h3 => OK.step ((lastV_lt HC.out h3).2 h1) h2 h3
    have HLN : Hid (lastV R (k + 1) = (R.getD k rt0).v) := rfl
    obtain ⟨r, HRT⟩ := nmd (R.getD k rt0)
    obtain ⟨last, HLA⟩ := nmd (lastV R k)
    rw [HRT.out] at h1 h2 h3 hml hrcl HLOW HNIL HCOD HSTEP HLN
    rw [HLA.out] at HLOW HSTEP
    rw [HLA.out]
    have IR : Hid (IntsAt wr r.a r.ids) := h3
    clear h3 hmem
    have HQ : Hid (r.ids.length = 0 ↔ r.ids = []) := List.length_eq_zero_iff
    have HRCL : Hid _ := hrcl
    clear hrcl
    have HMAT : Hid (IntsAt wr a zs) := HA.below B1.out
    have HORD : Hid (IntsAt wr ao os) := HO.below B1.out
    have HVEH : Hid (IntsAt wr av vs) := HV.below B1.out
    by_cases hv : last < r.v
    · have hv1 : ¬ (r.v <= last) := by omega
      by_cases hq : r.ids.length = 0
      · have HNOT : Hid _ := HNIL.out (HQ.1 hq)
        have HQE : Hid _ := hq
        rw [HQE.out] at h2
        clear hq hml
        go_wp2
        go_ret
        exact ⟨B1.alloc B1.size _, .inr ⟨rfl, HNOT.out⟩⟩
      · have HNE : Hid (r.ids ≠ []) := fun e => hq (HQ.2 e)
        have BX : Hid (Below wr.heap.size wr (wr.alloc (.cells #[Value.int .i64 r.v, Value.slice r.a r.ids.length r.c] 134))) := (Below.refl _ _).alloc (Nat.le_refl _) _
        have GX : Hid ((wr.alloc (.cells #[Value.int .i64 r.v, Value.slice r.a r.ids.length r.c] 134)).heap[wr.heap.size]? = _) := heap_alloc_new _ _
        obtain ⟨c0, c1, c2, c3, c4⟩ := cells5 (below_row BX.out (row_lt P1.out) P1.out)
        obtain ⟨d0, d1⟩ := cells2 GX.out
        go_wp2_with fail
        clear c0 c1 c2 c3 c4 d0 d1
        generalize (wr.alloc (.cells #[Value.int .i64 r.v, Value.slice r.a r.ids.length r.c] 134)) = W1 at *
        refine (tourOf_any n fine r.v a ao av r.a cap ko co kv cv r.c zs os vs r.ids W1 (HMAT.below BX.out) (HORD.below BX.out) (HVEH.below BX.out) (IR.below BX.out) HLO.out HLV.out hko hkv (by omega) HRCL.out HC.out).mono ?_
        have B2 : Hid _ := B1.trans (BX.mono B1.size)
        have P2 : Hid (W1.heap[w.heap.size]? = _) := below_row BX.out (row_lt P1.out) P1.out
        clear HMAT HORD HVEH IR BX B1 P1 h1 h2
        rintro e w2 ⟨hb, ⟨hcode, rfl⟩ | ⟨hcode, g, -, rfl, -⟩⟩
        · have HNOT : Hid _ := HCOD.out hcode
          have B3 : Hid _ := B2.trans (hb.mono B2.size)
          clear hb
          obtain ⟨cd, HCD⟩ := nmd (codeV true n zs os vs ko kv r.v r.ids)
          rw [HCD.out] at hcode ⊢
          go_wp2
          go_ret
          exact ⟨B3.alloc B3.size _, .inr ⟨rfl, HNOT.out⟩⟩
        · have HST : Hid _ := HSTEP.out hv HNE.out hcode
          have B3 : Hid _ := B2.trans (hb.mono B2.size)
          have P3 : Hid (w2.heap[w.heap.size]? = _) := below_row hb (row_lt P2.out) P2.out
          have BY : Hid (Below w2.heap.size w2 (w2.alloc (.cells #[.int .i64 n, .slice a zs.length cap, .int .i64 (fnd5F vs kv r.v 0), .int .i64 (fnd5F vs kv r.v 1), .int .i64 (fnd5F vs kv r.v 2), .int .i64 (fnd5F vs kv r.v 3), .int .i64 (fnd5F vs kv r.v 4), .slice (some ⟨g, 0, none⟩) r.ids.length r.ids.length] 139))) := (Below.refl _ _).alloc (Nat.le_refl _) _
          have GY : Hid (w2.heap[wr.heap.size]? = _) := below_row hb (row_lt GX.out) GX.out
          have GZ : Hid _ := below_row BY.out (row_lt GY.out) GY.out
          obtain ⟨d0, d1⟩ := cells2 GZ.out
          clear hb hcode d1
          go_wp2
          clear d0
          first
           | exact ⟨⟨k + 1, by omega, by go_num, by rw [HLN.out], HST.out, B3.trans (BY.mono B3.size), below_row BY.out (row_lt P3.out) P3.out⟩, by simp [intOf]; omega⟩
           | (go_roundw
              case rel => exact ⟨k + 1, by omega, by go_num, by rw [HLN.out], HST.out, B3.trans (BY.mono B3.size), below_row BY.out (row_lt P3.out) P3.out⟩
              case measure => simp [intOf]; omega)
    · have HNOT : Hid _ := HLOW.out hv
      have hv1 : r.v <= last := by omega
      clear hv
      go_wp2
      go_ret
      exact ⟨B1.alloc B1.size _, .inr ⟨rfl, HNOT.out⟩⟩
  · have hkn : k = m := by omega
    have HALL : Hid (RtsOk n zs os vs ko kv R m) := hkn ▸ OK.out
    clear hkn
    go_wp2
    go_ret
    exact ⟨B1.out, .inl ⟨rfl, HALL.out⟩⟩
end Go.Proofs.YtehfjfmfpdgibaaGreatDoor
