import Derived.Test.YtonopidjkcmlmaaGreatPack1
import Derived.Test.YtonopidjkcmlmaaGreatPack4
import Derived.Test.YtonopidjkcmlmaaGreatPack6
import Derived.Test.YtonopidjkcmlmaaGreatSpecPlan
import Derived.Test.YtonopidjkcmlmaaGreatPack16
import Derived.Test.YtonopidjkcmlmaaGreatSortInts
namespace Go.Proofs.YtonopidjkcmlmaaGreat
open Go.RowKit

/-- What Served answers. -/
noncomputable def servV (n : Int) (zs os vs : List Int) (ko kv : Nat) (fine : Int) (R : List RT) (L : List Int) : List Int := if planV n zs os vs ko kv fine R L = 0 then srtS (allTo R R.length) else []
theorem serv_small {n : Int} {zs os vs : List Int} {ko kv : Nat} {fine : Int} {R : List RT} {L : List Int} (h : planV n zs os vs ko kv fine R L = 0) : (allTo R R.length).length ≤ 12 ∧ (allTo R R.length).Nodup ∧ ∀ j, j < R.length → (R.getD j rt0).ids ≠ [] := by
  obtain ⟨h1, h2, h3, _, h5⟩ := planV_zero h
  have := (ordsB_true (caseB_parts h1).2.1).1
  exact ⟨by omega, h3.1, fun j hj => (h2 j hj).2.1⟩
theorem servV_len (n : Int) (zs os vs : List Int) (ko kv : Nat) (fine : Int) (R : List RT) (L : List Int) : (servV n zs os vs ko kv fine R L).length ≤ 12 := by
  unfold servV
  split
  · rename_i h
    rw [srtS_len]
    exact (serv_small h).1
  · simp

set_option maxHeartbeats 2000000 in
theorem servedBy_any (ra la : Option Addr) (rc ln lc : Nat) (R : List RT) (w : World) (hA : RoutesAt w ra R) (hn : R.length ≤ 1048576) (hne : ∀ j, j < R.length → (R.getD j rt0).ids ≠ []) (hnd : (allTo R R.length).Nodup) (h12 : (allTo R R.length).length ≤ 12) :
    Calls Tryz.prog 30 #[.agg #[.slice ra R.length rc, .slice la ln lc]] w fun e w' => ∃ sl, e = .returned sl ∧ Below w.heap.size w w' ∧ w'.ownsRow w.heap.size 2 1 sl (srtS (allTo R R.length)).length ((srtS (allTo R R.length)).map (Value.int .i64)) := by
  have HA : Hid (RoutesAt w ra R) := hA
  have HNE : Hid (∀ j, j < R.length → (R.getD j rt0).ids ≠ []) := hne
  have HND : Hid ((allTo R R.length).Nodup) := hnd
  have H12 : Hid ((allTo R R.length).length ≤ 12) := h12
  clear hA hne hnd h12
  have HLE : Hid (∀ k, k ≤ R.length → (allTo R k).length ≤ 12) := fun k hk => Nat.le_trans (allTo_le R hk (Nat.le_refl _)) H12.out
  obtain ⟨n, HN⟩ : ∃ n, Hid (R.length = n) := ⟨_, rfl⟩
  rw [HN.out] at hn HNE HND H12 HLE ⊢
  have G0 : Hid ((w.alloc (.cells #[.slice ra n rc, .slice la ln lc] 43)).heap[w.heap.size]? = some (.cells #[.slice ra n rc, .slice la ln lc] 43 (0, 0))) := heap_alloc_new _ _
  have B0 : Hid (Below w.heap.size w (w.alloc (.cells #[.slice ra n rc, .slice la ln lc] 43))) := (Below.refl _ _).alloc (Nat.le_refl _) _
  go_enter Tryz.func30, Tryz.ntmps30
  obtain ⟨c0, c1⟩ := cells2 G0.out
  go_wp2_with fail
  clear c0 c1
  go_loopw [3, 9] (fun ts t wr => ∃ k : Nat, k ≤ n ∧ t = .int .i64 k ∧ Below w.heap.size w wr ∧ wr.ownsRow w.heap.size 2 1 ts (allTo R k).length ((allTo R k).map (Value.int .i64))) (fun _ t _ => n - (intOf t).toNat)
  case atStart => exact ⟨0, Nat.zero_le _, rfl, B0.out, by rw [allTo_zero]; exact World.ownsRow_nil _ _ _ _⟩
  case round =>
    clear G0 B0
    obtain ⟨k, hk, rfl, hb, ho⟩ := hrel
    have B1 : Hid (Below w.heap.size w wr) := hb
    have O1 : Hid (wr.ownsRow w.heap.size 2 1 u3 (allTo R k).length ((allTo R k).map (Value.int .i64))) := ho
    clear hb ho
    by_cases hlt : k < n
    · have hkn : (k : Int) < n := by omega
      have hkR : k < R.length := by rw [HN.out]; exact hlt
      obtain ⟨b, off, e, c1, c2, i3⟩ := (HA.out.below B1.out) k hkR
      have hne := HNE.out k hlt
      have HTK : Hid (allTo R (k + 1) = allTo R k ++ (R.getD k rt0).ids) := allTo_succ hkR
      have hl1 := HLE.out k hk
      have hl2 := HLE.out (k + 1) (by omega)
      rw [HTK.out, List.length_append] at hl2
      subst e
      generalize R.getD k rt0 = r at *
      obtain ⟨rv, rra, rids, rcc⟩ := r
      simp only at c1 c2 i3 hne HTK hl2
      have hpos : 0 < rids.length := List.length_pos_iff.2 hne
      obtain ⟨b', off', e', -⟩ := i3 0 hpos
      subst e'
      have I3 : Hid (IntsAt wr (some ⟨b', off', none⟩) rids) := i3
      clear i3 hne
      obtain ⟨rl, HRL⟩ : ∃ x, Hid (rids.length = x) := ⟨_, rfl⟩
      obtain ⟨al, HAL⟩ : ∃ x, Hid ((allTo R k).length = x) := ⟨_, rfl⟩
      rw [HRL.out] at c2 hl2 hpos
      rw [HAL.out] at O1 hl1 hl2
      have B2 : Hid (Below w.heap.size w (wr.alloc (.cells #[.int .i64 rv, .slice (some ⟨b', off', none⟩) rl rcc] 58))) := B1.out.alloc B1.out.size _
      go_wp2_with (first
        | (at_builtin
           refine append_more _ rfl (.tmp 13) (.tmp 15) rfl w.heap.size u3 al (allTo R k) rfl (O1.out.alloc _) _ rl _ rids rfl ⟨_, _, rfl⟩ HRL.out (I3.out.below ((Below.refl _ _).alloc (Nat.le_refl _) _)) (by omega) (by omega) B2.out.size ?_
           intro v4 w4 hown hg hbk hnl
           have B4 : Hid (Below w.heap.size w w4) := B2.out.grown hg B2.out.size (fun q e => (O1.out.lt q e).1)
           have O4 : Hid (w4.ownsRow w.heap.size 2 1 v4 (allTo R (k + 1)).length ((allTo R (k + 1)).map (Value.int .i64))) := by rw [HTK.out, List.length_append, HAL.out, HRL.out]; exact hown
           clear hown hg hbk hnl))
      clear c1 c2
      first
        | exact ⟨⟨k + 1, by omega, by first | rfl | go_num, B4.out, O4.out⟩, by simp [intOf]; omega⟩
        | (go_roundw
           case rel => exact ⟨k + 1, by omega, by first | rfl | go_num, B4.out, O4.out⟩
           case measure => simp [intOf]; omega)
    · have hkn : k = n := by omega
      subst hkn
      go_wp2_with fail
      refine (sort_ints u3 (allTo R k).length w.heap.size (allTo R k) wr O1.out rfl H12.out HND.out).mono ?_
      rintro e w5 ⟨rfl, hb, ho⟩
      have B5 : Hid (Below w.heap.size w w5) := B1.out.trans hb
      have O5 : Hid (w5.ownsRow w.heap.size 2 1 u3 (srtS (allTo R k)).length ((srtS (allTo R k)).map (Value.int .i64))) := by rw [srtS_len]; exact ho
      clear hb ho
      go_wp2
      go_ret
      exact ⟨u3, rfl, B5.out, O5.out⟩

set_option maxHeartbeats 1000000 in
theorem implServed_any (n fine : Int) (a ao av ra la : Option Addr) (cap ko co kv cv rc lc : Nat) (zs os vs L : List Int) (R : List RT) (w : World) (hR : RoutesAt w ra R) (hn : R.length ≤ 1048576) (pv : Int) (hpv : planV n zs os vs ko kv fine R L = pv)
    (hpc : ∀ W, Below w.heap.size w W → Calls Tryz.prog 29 #[.agg #[.int .i64 n, .slice a zs.length cap, .slice ao ko co, .slice av kv cv, .int .i64 fine], .agg #[.slice ra R.length rc, .slice la L.length lc]] W fun e w' => e = .returned (.int .i64 pv) ∧ Below W.heap.size W w') :
    Calls Tryz.prog 9 #[.agg #[.int .i64 n, .slice a zs.length cap, .slice ao ko co, .slice av kv cv, .int .i64 fine], .agg #[.slice ra R.length rc, .slice la L.length lc]] w fun e w' => ∃ sl, e = .returned sl ∧ Below w.heap.size w w' ∧ w'.ownsRow w.heap.size 2 1 sl (servV n zs os vs ko kv fine R L).length ((servV n zs os vs ko kv fine R L).map (Value.int .i64)) := by
  have HR : Hid (RoutesAt w ra R) := hR
  have HPC : Hid (∀ W, Below w.heap.size w W → Calls Tryz.prog 29 #[.agg #[.int .i64 n, .slice a zs.length cap, .slice ao ko co, .slice av kv cv, .int .i64 fine], .agg #[.slice ra R.length rc, .slice la L.length lc]] W fun e w' => e = .returned (.int .i64 pv) ∧ Below W.heap.size W w') := hpc
  have HPV : Hid (planV n zs os vs ko kv fine R L = pv) := hpv
  clear hR hpc hpv
  obtain ⟨X, HX⟩ : ∃ X, Hid (servV n zs os vs ko kv fine R L = X) := ⟨_, rfl⟩
  rw [HX.out]
  have C0 : Hid (CP w ((w.alloc (.cells #[.int .i64 n, .slice a zs.length cap, .slice ao ko co, .slice av kv cv, .int .i64 fine] 39)).alloc (.cells #[.slice ra R.length rc, .slice la L.length lc] 43)) #[.int .i64 n, .slice a zs.length cap, .slice ao ko co, .slice av kv cv, .int .i64 fine] #[.slice ra R.length rc, .slice la L.length lc]) :=
    ⟨((Below.refl _ _).alloc (Nat.le_refl _) _).alloc (by simp) _, heap_alloc2_old _ _ _, heap_alloc2_new _ _ _⟩
  go_enter Tryz.func9, Tryz.ntmps9
  obtain ⟨c0, c1, c2, c3, c4⟩ := cells5 C0.out.2.1
  obtain ⟨d0, d1⟩ := cells2 C0.out.2.2
  go_wp2_with fail
  clear c0 c1 c2 c3 c4 d0 d1
  generalize (w.alloc (.cells #[.int .i64 n, .slice a zs.length cap, .slice ao ko co, .slice av kv cv, .int .i64 fine] 39)).alloc (.cells #[.slice ra R.length rc, .slice la L.length lc] 43) = W0 at *
  refine (HPC.out _ C0.out.1).mono ?_
  rintro e w1 ⟨rfl, hb⟩
  have C1 : Hid (CP w w1 #[.int .i64 n, .slice a zs.length cap, .slice ao ko co, .slice av kv cv, .int .i64 fine] #[.slice ra R.length rc, .slice la L.length lc]) := C0.out.below hb
  clear hb C0
  by_cases h0 : pv = 0
  · subst h0
    obtain ⟨h12, hnd, hne⟩ := serv_small HPV.out
    have HXE : Hid (srtS (allTo R R.length) = X) := by
      show _ = _
      rw [← HX.out]
      unfold servV
      rw [if_pos HPV.out]
    have HSB : Hid (∀ W, Below w.heap.size w W → Calls Tryz.prog 30 #[.agg #[.slice ra R.length rc, .slice la L.length lc]] W fun e w' => ∃ sl, e = .returned sl ∧ Below W.heap.size W w' ∧ w'.ownsRow W.heap.size 2 1 sl X.length (X.map (Value.int .i64))) := fun W hb => by
      have := servedBy_any ra la rc L.length lc R W (HR.out.below hb) hn hne hnd h12
      rw [HXE.out] at this
      exact this
    clear h12 hnd hne
    obtain ⟨d0, d1⟩ := cells2 C1.out.2.2
    go_wp2_with fail
    clear d0 d1
    refine (HSB.out _ C1.out.1).mono ?_
    rintro e w2 ⟨sl, rfl, hb, ho⟩
    have B2 : Hid (Below w.heap.size w w2) := C1.out.1.trans (hb.mono C1.out.1.size)
    have O2 : Hid (w2.ownsRow w.heap.size 2 1 sl X.length (X.map (Value.int .i64))) := owns_base ho C1.out.1.size
    clear hb ho
    go_wp2
    go_ret
    exact ⟨sl, rfl, B2.out, O2.out⟩
  · have hpn : (pv != 0) = true := by simp [h0]
    have HXE : Hid (X = []) := by
      show _ = _
      rw [← HX.out]
      unfold servV
      rw [if_neg (by rw [HPV.out]; exact h0)]
    clear h0
    go_wp2
    go_ret
    exact ⟨_, rfl, C1.out.1, by rw [HXE.out]; exact World.ownsRow_nil _ _ _ _⟩

theorem implServed_at (n fine : Int) (a ao av : Option Addr) (cap ko co kv cv g gl : Nat) (zs os vs L : List Int) (S R : List RT) (w : World) (hA : IntsAt w a zs) (hO : IntsAt w ao os) (hV : IntsAt w av vs) (hP : PlanAt w g gl S R L) (hlo : os.length = ko * 6) (hlv : vs.length = kv * 5) (hko : ko ≤ 9223372036854775807) (hkv : kv ≤ 9223372036854775807) (hn : R.length ≤ 1048576) (hi : ∀ r ∈ R, r.ids.length ≤ 1048576) (hll : L.length ≤ 1048576) (hal : (allTo R R.length).length ≤ 1048576) (hwl : ∀ x ∈ L, (Lit.int .i64 x).wf = true) :
    Calls Tryz.prog 9 #[.agg #[.int .i64 n, .slice a zs.length cap, .slice ao ko co, .slice av kv cv, .int .i64 fine], .agg #[.slice (some ⟨g, 0, none⟩) R.length R.length, .slice (some ⟨gl, 0, none⟩) L.length L.length]] w fun e w' => ∃ sl, e = .returned sl ∧ Below w.heap.size w w' ∧ w'.ownsRow w.heap.size 2 1 sl (servV n zs os vs ko kv fine R L).length ((servV n zs os vs ko kv fine R L).map (Value.int .i64)) := by
  have hk := key_len hP.k
  have hpv := planV_key (n := n) (zs := zs) (os := os) (vs := vs) (ko := ko) (kv := kv) (fine := fine) L hP.k
  have e : servV n zs os vs ko kv fine S L = servV n zs os vs ko kv fine R L := by
    unfold servV
    rw [hpv, hk, allTo_key hP.k]
  have := implServed_any n fine a ao av (some ⟨g, 0, none⟩) (some ⟨gl, 0, none⟩) cap ko co kv cv R.length L.length zs os vs L S w hP.r (by omega) _ hpv (fun W hb => by
    have := implPlan_at n fine a ao av cap ko co kv cv g gl zs os vs L S R W (hA.below hb) (hO.below hb) (hV.below hb) (hP.below hb) hlo hlv hko hkv hn hi hll hal hwl
    rw [hk]
    exact this)
  rw [hk, e] at this
  exact this

end Go.Proofs.YtonopidjkcmlmaaGreat

namespace Go.Proofs.YtonopidjkcmlmaaGreat
open Go.RowKit

set_option maxHeartbeats 2000000 in
theorem specServed_any (n fine : Int) (a ao av la : Option Addr) (rb ro : Nat) (cap ko co kv cv rc lc : Nat) (zs os vs L : List Int) (R : List RT) (w : World) (hR : RoutesAt w (some ⟨rb, ro, none⟩) R) (hn : R.length ≤ 1048576) (hrc : ∀ r ∈ R, r.ids.length ≤ r.c) (pv : Int) (hpv : planV n zs os vs ko kv fine R L = pv)
    (hpc : ∀ W, Below w.heap.size w W → Calls Tryz.prog 22 #[.agg #[.int .i64 n, .slice a zs.length cap, .slice ao ko co, .slice av kv cv, .int .i64 fine], .agg #[.slice (some ⟨rb, ro, none⟩) R.length rc, .slice la L.length lc]] W fun e w' => e = .returned (.int .i64 pv) ∧ Below W.heap.size W w') :
    Calls Tryz.prog 6 #[.agg #[.int .i64 n, .slice a zs.length cap, .slice ao ko co, .slice av kv cv, .int .i64 fine], .agg #[.slice (some ⟨rb, ro, none⟩) R.length rc, .slice la L.length lc]] w fun e w' => ∃ sl, e = .returned sl ∧ Below w.heap.size w w' ∧ w'.ownsRow w.heap.size 2 1 sl (servV n zs os vs ko kv fine R L).length ((servV n zs os vs ko kv fine R L).map (Value.int .i64)) := by
  have HR : Hid (RoutesAt w (some ⟨rb, ro, none⟩) R) := hR
  have HPC : Hid (∀ W, Below w.heap.size w W → Calls Tryz.prog 22 #[.agg #[.int .i64 n, .slice a zs.length cap, .slice ao ko co, .slice av kv cv, .int .i64 fine], .agg #[.slice (some ⟨rb, ro, none⟩) R.length rc, .slice la L.length lc]] W fun e w' => e = .returned (.int .i64 pv) ∧ Below W.heap.size W w') := hpc
  have HPV : Hid (planV n zs os vs ko kv fine R L = pv) := hpv
  have HRC : Hid (∀ r ∈ R, r.ids.length ≤ r.c) := hrc
  clear hR hpc hpv hrc
  obtain ⟨X, HX⟩ : ∃ X, Hid (servV n zs os vs ko kv fine R L = X) := ⟨_, rfl⟩
  obtain ⟨m, HN⟩ : ∃ m, Hid (R.length = m) := ⟨_, rfl⟩
  rw [HX.out, HN.out]
  rw [HN.out] at hn HPC
  have C0 : Hid (CP w (((w.alloc (.cells #[.int .i64 n, .slice a zs.length cap, .slice ao ko co, .slice av kv cv, .int .i64 fine] 39)).alloc (.cells #[.slice (some ⟨rb, ro, none⟩) m rc, .slice la L.length lc] 43)).alloc (.cells #[] 2)) #[.int .i64 n, .slice a zs.length cap, .slice ao ko co, .slice av kv cv, .int .i64 fine] #[.slice (some ⟨rb, ro, none⟩) m rc, .slice la L.length lc]) :=
    CP.alloc ⟨((Below.refl _ _).alloc (Nat.le_refl _) _).alloc (by simp) _, heap_alloc2_old _ _ _, heap_alloc2_new _ _ _⟩ _
  have O0 : Hid ((((w.alloc (.cells #[.int .i64 n, .slice a zs.length cap, .slice ao ko co, .slice av kv cv, .int .i64 fine] 39)).alloc (.cells #[.slice (some ⟨rb, ro, none⟩) m rc, .slice la L.length lc] 43)).alloc (.cells #[] 2)).ownsRow w.heap.size 2 1 (.slice (some ⟨w.heap.size + 1 + 1, 0, none⟩) 0 0) 0 (([] : List Int).map (Value.int .i64))) := by
    have := owns_base (own_begin ((w.alloc (.cells #[.int .i64 n, .slice a zs.length cap, .slice ao ko co, .slice av kv cv, .int .i64 fine] 39)).alloc (.cells #[.slice (some ⟨rb, ro, none⟩) m rc, .slice la L.length lc] 43))) (b0 := w.heap.size) (by simp; omega)
    show World.ownsRow _ _ _ _ _ _ _
    simpa using this
  go_enter Tryz.func6, Tryz.ntmps6
  obtain ⟨c0, c1, c2, c3, c4⟩ := cells5 C0.out.2.1
  obtain ⟨d0, d1⟩ := cells2 C0.out.2.2
  go_wp2_with fail
  clear c0 c1 c2 c3 c4 d0 d1
  generalize ((w.alloc (.cells #[.int .i64 n, .slice a zs.length cap, .slice ao ko co, .slice av kv cv, .int .i64 fine] 39)).alloc (.cells #[.slice (some ⟨rb, ro, none⟩) m rc, .slice la L.length lc] 43)).alloc (.cells #[] 2) = W0 at *
  refine (HPC.out _ C0.out.1).mono ?_
  rintro e w1 ⟨rfl, hb⟩
  have C1 : Hid (CP w w1 #[.int .i64 n, .slice a zs.length cap, .slice ao ko co, .slice av kv cv, .int .i64 fine] #[.slice (some ⟨rb, ro, none⟩) m rc, .slice la L.length lc]) := C0.out.below hb
  have O1 : Hid (w1.ownsRow w.heap.size 2 1 (.slice (some ⟨w.heap.size + 1 + 1, 0, none⟩) 0 0) 0 (([] : List Int).map (Value.int .i64))) := owns_below O0.out hb
  clear hb C0 O0
  by_cases h0 : pv = 0
  · subst h0
    obtain ⟨h12, hnd, hne⟩ := serv_small HPV.out
    have H12 : Hid (∀ k j, k < m → j ≤ (R.getD k rt0).ids.length → (allTo R k ++ (R.getD k rt0).ids.take j).length ≤ 12) := fun k j hk hj => Nat.le_trans (allTo_take (by rw [HN.out]; exact hk) hj) h12
    have HXE : Hid (srtS (allTo R m) = X) := by
      show _ = _
      rw [← HX.out, ← HN.out]
      unfold servV
      rw [if_pos HPV.out]
    clear h12 hnd
    have HNE : Hid (∀ j, j < R.length → (R.getD j rt0).ids ≠ []) := hne
    clear hne
    go_wp2_with fail
    go_loopw [5, 6] (fun ts t wr => ∃ (k g c : Nat), k ≤ m ∧ t = .int .i64 k ∧ ts = .slice (some ⟨g, 0, none⟩) (allTo R k).length c ∧ CP w wr #[.int .i64 n, .slice a zs.length cap, .slice ao ko co, .slice av kv cv, .int .i64 fine] #[.slice (some ⟨rb, ro, none⟩) m rc, .slice la L.length lc] ∧ wr.ownsRow w.heap.size 2 1 ts (srtS (allTo R k)).length ((srtS (allTo R k)).map (Value.int .i64))) (fun _ t _ => m - (intOf t).toNat)
    case atStart => exact ⟨0, w.heap.size + 1 + 1, 0, Nat.zero_le _, rfl, by rw [allTo_zero]; rfl, C1.out, by rw [allTo_zero]; exact O1.out⟩
    case round =>
      clear C1 O1
      obtain ⟨k, g, c, hk, rfl, rfl, hC, hO⟩ := hrel
      have C2 : Hid (CP w wr #[.int .i64 n, .slice a zs.length cap, .slice ao ko co, .slice av kv cv, .int .i64 fine] #[.slice (some ⟨rb, ro, none⟩) m rc, .slice la L.length lc]) := hC
      have O2 : Hid (wr.ownsRow w.heap.size 2 1 (.slice (some ⟨g, 0, none⟩) (allTo R k).length c) (srtS (allTo R k)).length ((srtS (allTo R k)).map (Value.int .i64))) := hO
      clear hC hO
      obtain ⟨d0, d1⟩ := cells2 C2.out.2.2
      by_cases hlt : k < m
      · have hkm : (k : Int) < (m : Int) := by omega
        have hkR : k < R.length := by rw [HN.out]; exact hlt
        have HTK : Hid (allTo R (k + 1) = allTo R k ++ (R.getD k rt0).ids) := allTo_succ hkR
        have hmem : R.getD k rt0 ∈ R := by rw [List.getD_eq_getElem?_getD, List.getElem?_eq_getElem hkR]; simp
        have hcc := HRC.out _ hmem
        have hne := HNE.out k hkR
        have HB12 : Hid (∀ j, j ≤ (R.getD k rt0).ids.length → (allTo R k ++ (R.getD k rt0).ids.take j).length ≤ 12) := fun j hj => H12.out k j hlt hj
        have HRK : Hid (∀ W, Below w.heap.size w W → W.cell? ⟨rb, ro + k * 2 + 1, none⟩ = some (.slice (R.getD k rt0).a (R.getD k rt0).ids.length (R.getD k rt0).c) ∧ IntsAt W (R.getD k rt0).a (R.getD k rt0).ids) := fun W hb => by
          obtain ⟨_, _, e, _, h2, h3⟩ := (HR.out.below hb) k hkR
          simp only [Option.some.injEq, Addr.mk.injEq, and_true] at e
          obtain ⟨rfl, rfl⟩ := e
          exact ⟨h2, h3⟩
        generalize R.getD k rt0 = r at *
        obtain ⟨rv, rra, rids, rcc⟩ := r
        simp only at HTK hcc hne HB12 HRK
        have hpos : 0 < rids.length := List.length_pos_iff.2 hne
        obtain ⟨b', off', e', -⟩ := (HRK.out wr C2.out.1).2 0 hpos
        subst e'
        obtain ⟨q, HQ⟩ : ∃ x, Hid (rids.length = x) := ⟨_, rfl⟩
        rw [HQ.out] at hcc hpos HRK HB12
        have hq12 : q ≤ 12 := by
          have := HB12.out q (Nat.le_refl _)
          rw [List.length_append, List.length_take, HQ.out] at this
          omega
        clear hne hmem
        go_wp2_with fail
        clear d0 d1
        go_loopw [5, 7] (fun ts t wr => ∃ (j g c : Nat), j ≤ q ∧ t = .int .i64 j ∧ ts = .slice (some ⟨g, 0, none⟩) (allTo R k ++ rids.take j).length c ∧ CP w wr #[.int .i64 n, .slice a zs.length cap, .slice ao ko co, .slice av kv cv, .int .i64 fine] #[.slice (some ⟨rb, ro, none⟩) m rc, .slice la L.length lc] ∧ wr.ownsRow w.heap.size 2 1 ts (srtS (allTo R k ++ rids.take j)).length ((srtS (allTo R k ++ rids.take j)).map (Value.int .i64))) (fun _ t _ => q - (intOf t).toNat)
        case atStart => exact ⟨0, g, c, Nat.zero_le _, rfl, by rw [List.take_zero, List.append_nil], C2.out, by rw [List.take_zero, List.append_nil]; exact O2.out⟩
        case round =>
          clear C2 O2
          obtain ⟨j, g3, c3, hj, rfl, rfl, hC, hO⟩ := hrel
          have C3 : Hid (CP w wr #[.int .i64 n, .slice a zs.length cap, .slice ao ko co, .slice av kv cv, .int .i64 fine] #[.slice (some ⟨rb, ro, none⟩) m rc, .slice la L.length lc]) := hC
          have hl12 := HB12.out j hj
          obtain ⟨c1, i1⟩ := HRK.out wr C3.out.1
          obtain ⟨d0, d1⟩ := cells2 C3.out.2.2
          by_cases hjq : j < q
          · have hjI : (j : Int) < (q : Int) := by omega
            obtain ⟨_, _, e, cj⟩ := i1 j (by rw [HQ.out]; exact hjq)
            simp only [Option.some.injEq, Addr.mk.injEq, and_true] at e
            obtain ⟨rfl, rfl⟩ := e
            have HSN : Hid (allTo R k ++ rids.take (j + 1) = (allTo R k ++ rids.take j) ++ [rids.getD j 0]) := by
              show _ = _
              rw [List.take_add_one, List.append_assoc, List.getD_eq_getElem?_getD, List.getElem?_eq_getElem (show j < rids.length by rw [HQ.out]; exact hjq)]
              rfl
            obtain ⟨x, HXX⟩ : ∃ x, Hid (rids.getD j 0 = x) := ⟨_, rfl⟩
            rw [HXX.out] at cj HSN
            obtain ⟨F, HF⟩ : ∃ F, Hid (allTo R k ++ rids.take j = F) := ⟨_, rfl⟩
            rw [HF.out] at hO hl12 HSN ⊢
            obtain ⟨fl, HFL⟩ : ∃ F', Hid (F.length = F') := ⟨_, rfl⟩
            have hO' : wr.ownsRow w.heap.size 2 1 (.slice (some ⟨g3, 0, none⟩) fl c3) fl ((srtS F).map (Value.int .i64)) := by
              rw [srtS_len, HFL.out] at hO
              exact hO
            have HSF : Hid ((srtS F).length = fl) := (srtS_len F).trans HFL.out
            have HPT : Hid (∀ W, IntsAt W (some ⟨g3, 0, none⟩) (srtS F) → Calls Tryz.prog 23 #[.slice (some ⟨g3, 0, none⟩) fl c3, .int .i64 x] W fun e w' => ∃ g cc, e = .returned (.slice (some ⟨g, 0, none⟩) (fl + 1) cc) ∧ Below W.heap.size W w' ∧ w'.ownsRow W.heap.size 2 1 (.slice (some ⟨g, 0, none⟩) (fl + 1) cc) (fl + 1) ((srtS (F ++ [x])).map (Value.int .i64))) := fun W h => by
              have := l4Put_any g3 0 c3 (srtS F) x W h (by rw [HSF.out, ← HFL.out]; omega) (by rw [HSF.out]; exact own_cap hO')
              rw [HSF.out] at this
              rw [srtS_snoc]
              exact this
            have I3 : Hid (IntsAt wr (some ⟨g3, 0, none⟩) (srtS F)) := owns_ints' (by rw [HSF.out]; exact hO') HSF.out
            rw [HFL.out] at hl12 ⊢
            clear hC hO hO' i1
            go_wp2_with fail
            clear d0 d1 c1 cj
            refine (HPT.out _ I3.out).mono ?_
            rintro e w4 ⟨g4, c4, rfl, hb, ho⟩
            have C4 : Hid (CP w w4 #[.int .i64 n, .slice a zs.length cap, .slice ao ko co, .slice av kv cv, .int .i64 fine] #[.slice (some ⟨rb, ro, none⟩) m rc, .slice la L.length lc]) := C3.out.below hb
            have O4 : Hid (w4.ownsRow w.heap.size 2 1 (.slice (some ⟨g4, 0, none⟩) (fl + 1) c4) (fl + 1) ((srtS (F ++ [x])).map (Value.int .i64))) := owns_base ho C3.out.1.size
            have HLN : Hid ((F ++ [x]).length = fl + 1) := by show _ = _; rw [List.length_append, HFL.out]; rfl
            clear hb ho C3 I3
            go_wp2
            first
              | exact ⟨⟨j + 1, g4, c4, by omega, by first | rfl | go_num, by rw [HSN.out, HLN.out], C4.out, by rw [HSN.out, srtS_len, HLN.out]; exact O4.out⟩, by simp [intOf]; omega⟩
              | (go_roundw
                 case rel => exact ⟨j + 1, g4, c4, by omega, by first | rfl | go_num, by rw [HSN.out, HLN.out], C4.out, by rw [HSN.out, srtS_len, HLN.out]; exact O4.out⟩
                 case measure => simp [intOf]; omega)
          · have hjI : ¬ ((j : Int) < (q : Int)) := by omega
            have hjq' : j = q := by omega
            have HE : Hid (allTo R k ++ rids.take j = allTo R (k + 1)) := by
              show _ = _
              rw [hjq', ← HQ.out, List.take_length, HTK.out]
            have O3 : Hid (wr.ownsRow w.heap.size 2 1 (.slice (some ⟨g3, 0, none⟩) (allTo R (k + 1)).length c3) (srtS (allTo R (k + 1))).length ((srtS (allTo R (k + 1))).map (Value.int .i64))) := by
              rw [HE.out] at hO
              exact hO
            rw [HE.out]
            obtain ⟨fl, HFL⟩ : ∃ F', Hid ((allTo R (k + 1)).length = F') := ⟨_, rfl⟩
            rw [HFL.out] at O3 ⊢
            clear hC hO i1 hjq'
            go_wp2
            first
              | exact ⟨⟨k + 1, g3, c3, by omega, by first | rfl | go_num, by rw [HFL.out], C3.out, O3.out⟩, by simp [intOf]; omega⟩
              | (go_roundw
                 case rel => exact ⟨k + 1, g3, c3, by omega, by first | rfl | go_num, by rw [HFL.out], C3.out, O3.out⟩
                 case measure => simp [intOf]; omega)
      · have hkm : ¬ ((k : Int) < (m : Int)) := by omega
        have hke : k = m := by omega
        have O3 : Hid (wr.ownsRow w.heap.size 2 1 (.slice (some ⟨g, 0, none⟩) (allTo R k).length c) X.length (X.map (Value.int .i64))) := by
          have := O2.out
          rw [← HXE.out, ← hke]
          exact this
        obtain ⟨fl, HFL⟩ : ∃ F', Hid ((allTo R k).length = F') := ⟨_, rfl⟩
        rw [HFL.out] at O3 ⊢
        clear hke O2
        go_wp2
        go_ret
        exact ⟨_, rfl, C2.out.1, O3.out⟩
  · have hpn : (pv != 0) = true := by simp [h0]
    have HXE : Hid (X = []) := by
      show _ = _
      rw [← HX.out]
      unfold servV
      rw [if_neg (by rw [HPV.out]; exact h0)]
    clear h0
    go_wp2
    go_ret
    exact ⟨_, rfl, C1.out.1, by rw [HXE.out]; exact O1.out⟩

theorem specServed_at (n fine : Int) (a ao av : Option Addr) (cap ko co kv cv g gl : Nat) (zs os vs L : List Int) (S R : List RT) (w : World) (hA : IntsAt w a zs) (hO : IntsAt w ao os) (hV : IntsAt w av vs) (hP : PlanAt w g gl S R L) (hlo : os.length = ko * 6) (hlv : vs.length = kv * 5) (hko : ko ≤ 9223372036854775807) (hkv : kv ≤ 9223372036854775807) (hn : R.length ≤ 1048576) (hi : ∀ r ∈ R, r.ids.length ≤ 1048576) (hll : L.length ≤ 1048576) (hal : (allTo R R.length).length ≤ 1048576) :
    Calls Tryz.prog 6 #[.agg #[.int .i64 n, .slice a zs.length cap, .slice ao ko co, .slice av kv cv, .int .i64 fine], .agg #[.slice (some ⟨g, 0, none⟩) R.length R.length, .slice (some ⟨gl, 0, none⟩) L.length L.length]] w fun e w' => ∃ sl, e = .returned sl ∧ Below w.heap.size w w' ∧ w'.ownsRow w.heap.size 2 1 sl (servV n zs os vs ko kv fine R L).length ((servV n zs os vs ko kv fine R L).map (Value.int .i64)) := by
  have hk := key_len hP.k
  have hpv := planV_key (n := n) (zs := zs) (os := os) (vs := vs) (ko := ko) (kv := kv) (fine := fine) L hP.k
  have e : servV n zs os vs ko kv fine S L = servV n zs os vs ko kv fine R L := by
    unfold servV
    rw [hpv, hk, allTo_key hP.k]
  have := specServed_any n fine a ao av (some ⟨gl, 0, none⟩) g 0 cap ko co kv cv R.length L.length zs os vs L S w hP.r (by omega) hP.room _ hpv (fun W hb => by
    have := specPlan_at n fine a ao av cap ko co kv cv g gl zs os vs L S R W (hA.below hb) (hO.below hb) (hV.below hb) (hP.below hb) hlo hlv hko hkv hn hi hll hal
    rw [hk]
    exact this)
  rw [hk, e] at this
  exact this

end Go.Proofs.YtonopidjkcmlmaaGreat

namespace Go.Proofs.YtonopidjkcmlmaaGreat
open Go.RowKit

set_option maxHeartbeats 4000000 in
theorem lawServed (n fine : Int) (a ao av ra la : Option Addr) (cap ko co kv cv rc lc : Nat) (zs os vs L : List Int) (R : List RT) (w : World) (hA : IntsAt w a zs) (hO : IntsAt w ao os) (hV : IntsAt w av vs) (hR : RoutesAt w ra R) (hL : IntsAt w la L) (hlo : os.length = ko * 6) (hlv : vs.length = kv * 5) (hlt : zs.length ≤ 9223372036854775807) (hko : ko ≤ 9223372036854775807) (hkv : kv ≤ 9223372036854775807) (hRn : R.length ≤ 9223372036854775807) (hRi : ∀ r ∈ R, r.ids.length ≤ 9223372036854775807) (hLn : L.length ≤ 9223372036854775807) (hwl : ∀ x ∈ L, (Lit.int .i64 x).wf = true) :
    Calls Tryz.prog 3 #[.agg #[Value.int IntKind.i64 n, Value.slice a zs.length cap, Value.slice ao ko co, Value.slice av kv cv, Value.int IntKind.i64 fine], .agg #[Value.slice ra R.length rc, Value.slice la L.length lc]] w fun e w' => e = .returned (.bool true) ∧ Below w.heap.size w w' := by
  have HA : Hid (IntsAt w a zs) := hA
  have HO : Hid (IntsAt w ao os) := hO
  have HV : Hid (IntsAt w av vs) := hV
  have HRT : Hid (RoutesAt w ra R) := hR
  have HL : Hid (IntsAt w la L) := hL
  have HLO : Hid _ := hlo
  have HLV : Hid _ := hlv
  have HWL : Hid (∀ x ∈ L, (Lit.int .i64 x).wf = true) := hwl
  have HRI : Hid (∀ r ∈ R, r.ids.length ≤ 9223372036854775807) := hRi
  clear hA hO hV hR hL hlo hlv hwl hRi
  have B0 : Hid (LPB w ((w.alloc (.cells #[Value.int IntKind.i64 n, Value.slice a zs.length cap, Value.slice ao ko co, Value.slice av kv cv, Value.int IntKind.i64 fine] 28)).alloc (.cells #[Value.slice ra R.length rc, Value.slice la L.length lc] 31)) _ _) := LPB.new w _ _
  by_cases hc : ¬ (zs.length + ko + kv ≤ 1048576)
  · have HS : Hid (szV 1048576 zs.length ko kv = -1) := szV_neg hc
    go_enter Tryz.func3, Tryz.ntmps3
    obtain ⟨e0, e1, e2, e3, e4, e5, e6⟩ := B0.out.cells
    go_wp2_with fail
    clear e0 e1 e2 e3 e4 e5 e6
    refine (szCase_any n fine 1048576 a ao av zs.length cap ko co kv cv _ (by omega) (by omega) hlt hko hkv).mono ?_
    rintro e w1 ⟨rfl, hb⟩
    rw [HS.out]
    have B1 : Hid (LPB w w1 _ _) := B0.out.below hb
    clear hb B0
    go_wp2
    go_ret
    exact ⟨rfl, B1.out.1⟩
  have hc := Decidable.not_not.1 hc
  have HSZ : Hid (szV 1048576 zs.length ko kv = 1048576 - zs.length - ko - kv) := szV_pos (by omega)
  obtain ⟨l1, HL1⟩ : ∃ l : Int, Hid ((1048576 - zs.length - ko - kv : Int) = l) := ⟨_, rfl⟩
  have hl1 : 0 ≤ l1 ∧ l1 ≤ 1048576 := by have := HL1.out; omega
  rw [HL1.out] at HSZ
  have hs1 : zs.length ≤ 1048576 := by omega
  have hs2 : ko ≤ 1048576 := by omega
  have hs3 : kv ≤ 1048576 := by omega
  obtain ⟨x, HX⟩ : ∃ x, Hid (szPl R L.length l1 = x) := ⟨_, rfl⟩
  have HSM : Hid (0 ≤ x → R.length ≤ 1048576 ∧ (∀ r ∈ R, r.ids.length ≤ 1048576) ∧ L.length ≤ 1048576 ∧ (allTo R R.length).length ≤ 1048576) := fun h => szPl_small hl1.1 hl1.2 (by rw [HX.out]; exact h)
  have hr12 := servV_len n zs os vs ko kv fine R L
  obtain ⟨r, HR⟩ : ∃ r, Hid (servV n zs os vs ko kv fine R L = r) := ⟨_, rfl⟩
  rw [HR.out] at hr12
  clear hc
  obtain ⟨hl10, hl11⟩ := hl1
  go_enter Tryz.func3, Tryz.ntmps3
  obtain ⟨e0, e1, e2, e3, e4, e5, e6⟩ := B0.out.cells
  go_wp2_with fail
  clear e0 e1 e2 e3 e4 e5 e6
  refine (szCase_any n fine 1048576 a ao av zs.length cap ko co kv cv _ (by omega) (by omega) (by omega) (by omega) (by omega)).mono ?_
  rintro e w1 ⟨rfl, hb⟩
  rw [HSZ.out]
  have B1 : Hid (LPB w w1 _ _) := B0.out.below hb
  clear hb B0
  obtain ⟨e0, e1, e2, e3, e4, e5, e6⟩ := B1.out.cells
  go_wp2_with fail
  clear e0 e1 e2 e3 e4 e5 e6
  refine (szPlan_any ra la rc L.length lc R l1 _ (HRT.out.below B1.out.b) hl10 hl11 hRn hLn HRI.out).mono ?_
  rintro e w2 ⟨rfl, hb⟩
  rw [HX.out]
  have B2 : Hid (LPB w w2 _ _) := B1.out.below hb
  clear hb B1
  by_cases hx : x < 0
  · go_wp2
    go_ret
    exact ⟨rfl, B2.out.1⟩
  obtain ⟨hs4, hs5, hs6, hs7⟩ := HSM.out (by omega)
  have HS5 : Hid (∀ r ∈ R, r.ids.length ≤ 1048576) := hs5
  have HS7 : Hid ((allTo R R.length).length ≤ 1048576) := hs7
  clear HSM hs5 hs7
  obtain ⟨e0, e1, e2, e3, e4, e5, e6⟩ := B2.out.cells
  go_wp2_with fail
  go_region_held3 (fun W => W.cell? ⟨w.heap.size, 0, none⟩ = some (.int .i64 n) ∧ W.cell? ⟨w.heap.size, 1, none⟩ = some (.slice a zs.length cap) ∧ W.cell? ⟨w.heap.size, 2, none⟩ = some (.slice ao ko co) ∧ W.cell? ⟨w.heap.size, 3, none⟩ = some (.slice av kv cv) ∧ W.cell? ⟨w.heap.size, 4, none⟩ = some (.int .i64 fine) ∧ W.cell? ⟨w.heap.size + 1, 0, none⟩ = some (.slice ra R.length rc) ∧ W.cell? ⟨w.heap.size + 1, 1, none⟩ = some (.slice la L.length lc)) (first | with_reducible exact kS | go_keep) ((first
  | (go_at_call 7
     with_reducible refine (toCase_any n fine a ao av cap ko co kv cv zs os vs w2.drew (HA.out.below B2.out.drew.b) (HO.out.below B2.out.drew.b) (HV.out.below B2.out.drew.b) HLO.out HLV.out hs1 hs2 hs3).mono ?_
     rintro e w3 ⟨g3, go3, gv3, _, _, _, rfl, hb, hg⟩
     have B3 : Hid (LPB w w3 _ _) := B2.out.drew.below hb
     have C3 : Hid (CaseAt w3 g3 go3 gv3 zs os vs) := hg
     obtain ⟨k0, k1, k2, k3, k4, k5, k6⟩ := B3.out.cells
     have kS := And.intro k0 (And.intro k1 (And.intro k2 (And.intro k3 (And.intro k4 (And.intro k5 k6)))))
     clear hb hg
     clear k0 k1 k2 k3 k4 k5 k6)
  | (go_at_call 8
     with_reducible refine (toPlan_at ra la rc lc R L w3 (HRT.out.below B3.out.b) (HL.out.below B3.out.b) hs4 HS5.out hs6).mono ?_
     rintro e w4 ⟨gr4, gl4, S4, rfl, hb, hg⟩
     have B4 : Hid (LPB w w4 _ _) := B3.out.below hb
     have C4 : Hid (CaseAt w4 g3 go3 gv3 zs os vs) := C3.out.below hb
     have P4 : Hid (PlanAt w4 gr4 gl4 S4 R L) := hg
     obtain ⟨k0, k1, k2, k3, k4, k5, k6⟩ := B4.out.cells
     have kS := And.intro k0 (And.intro k1 (And.intro k2 (And.intro k3 (And.intro k4 (And.intro k5 k6)))))
     clear hb hg
     clear k0 k1 k2 k3 k4 k5 k6)
  | (go_at_call 6
     with_reducible refine (specServed_at n fine _ _ _ _ ko _ kv _ gr4 gl4 zs os vs L S4 R w4 C4.out.t C4.out.o C4.out.v P4.out HLO.out HLV.out (by omega) (by omega) hs4 HS5.out hs6 HS7.out).mono ?_
     rintro e w6 ⟨wv, rfl, hb, ho⟩
     rw [HR.out] at ho
     obtain ⟨wa, wc, rfl, -, hi⟩ := owns_at1 ho
     have B6 : Hid (LPB w w6 _ _) := B4.out.below hb
     have W6 : Hid (IntsAt w6 wa r) := hi
     clear ho hi
     obtain ⟨k0, k1, k2, k3, k4, k5, k6⟩ := B6.out.cells
     have kS := And.intro k0 (And.intro k1 (And.intro k2 (And.intro k3 (And.intro k4 (And.intro k5 k6)))))
     clear hb
     clear k0 k1 k2 k3 k4 k5 k6)))
  all_goals
    clear e0 e1 e2 e3 e4 e5 e6
    clear kS B2 B3 C3 B4 C4 P4
    obtain ⟨e0, e1, e2, e3, e4, e5, e6⟩ := B6.out.cells
    go_wp2_with fail
    clear e0 e1 e2 e3 e4 e5 e6
    refine (toCase_any n fine a ao av cap ko co kv cv zs os vs _ (HA.out.below B6.out.b) (HO.out.below B6.out.b) (HV.out.below B6.out.b) HLO.out HLV.out hs1 hs2 hs3).mono ?_
    rintro e w7 ⟨g7, go7, gv7, hl1, hl2, hl3, rfl, hb, hg⟩
    have L7 : Hid (w6.heap.size ≤ g7 ∧ w6.heap.size ≤ go7 ∧ w6.heap.size ≤ gv7) := ⟨hl1, hl2, hl3⟩
    have Z7 : Hid (Below w6.heap.size w6 (w7.alloc (Obj.cells #[Value.int IntKind.i64 n, Value.slice (some ⟨g7, 0, none⟩) zs.length zs.length, Value.slice (some ⟨go7, 0, none⟩) ko ko, Value.slice (some ⟨gv7, 0, none⟩) kv kv, Value.int IntKind.i64 fine] 39))) := hb.alloc hb.size _
    have X7 : Hid ((w7.alloc (Obj.cells #[Value.int IntKind.i64 n, Value.slice (some ⟨g7, 0, none⟩) zs.length zs.length, Value.slice (some ⟨go7, 0, none⟩) ko ko, Value.slice (some ⟨gv7, 0, none⟩) kv kv, Value.int IntKind.i64 fine] 39)).heap[w7.heap.size]? = _) := heap_alloc_new _ _
    have C7 : Hid (CaseAt (w7.alloc (Obj.cells #[Value.int IntKind.i64 n, Value.slice (some ⟨g7, 0, none⟩) zs.length zs.length, Value.slice (some ⟨go7, 0, none⟩) ko ko, Value.slice (some ⟨gv7, 0, none⟩) kv kv, Value.int IntKind.i64 fine] 39)) g7 go7 gv7 zs os vs) := hg.below ((Below.refl _ _).alloc (Nat.le_refl _) _)
    have B7 : Hid (LPB w (w7.alloc (Obj.cells #[Value.int IntKind.i64 n, Value.slice (some ⟨g7, 0, none⟩) zs.length zs.length, Value.slice (some ⟨go7, 0, none⟩) ko ko, Value.slice (some ⟨gv7, 0, none⟩) kv kv, Value.int IntKind.i64 fine] 39)) _ _) := B6.out.below Z7.out
    clear hb hg hl1 hl2 hl3
    obtain ⟨e0, e1, e2, e3, e4, e5, e6⟩ := B7.out.cells
    go_wp2_with fail
    clear e0 e1 e2 e3 e4 e5 e6
    generalize w7.alloc (Obj.cells #[Value.int IntKind.i64 n, Value.slice (some ⟨g7, 0, none⟩) zs.length zs.length, Value.slice (some ⟨go7, 0, none⟩) ko ko, Value.slice (some ⟨gv7, 0, none⟩) kv kv, Value.int IntKind.i64 fine] 39) = W7 at *
    generalize w7.heap.size = bx at *
    refine (toPlan_any ra la rc lc R L W7 (HRT.out.below B7.out.b) (HL.out.below B7.out.b) hs4 HS5.out hs6).mono ?_
    rintro e w8 ⟨gr8, gl8, S8, rfl, hb, hlg, hgl, h5, h6, h7⟩
    have Z9 : Hid (Below w6.heap.size w6 (w8.alloc (Obj.cells #[Value.slice (some ⟨gr8, 0, none⟩) R.length R.length, Value.slice (some ⟨gl8, 0, none⟩) L.length L.length] 43))) := (Z7.out.trans (hb.mono Z7.out.size)).alloc (Nat.le_trans Z7.out.size hb.size) _
    have X9 : Hid ((w8.alloc (Obj.cells #[Value.slice (some ⟨gr8, 0, none⟩) R.length R.length, Value.slice (some ⟨gl8, 0, none⟩) L.length L.length] 43)).heap[bx]? = _) := (heap_alloc_old _ _ (row_lt (below_row hb (row_lt X7.out) X7.out))).trans (below_row hb (row_lt X7.out) X7.out)
    have Y9 : Hid ((w8.alloc (Obj.cells #[Value.slice (some ⟨gr8, 0, none⟩) R.length R.length, Value.slice (some ⟨gl8, 0, none⟩) L.length L.length] 43)).heap[w8.heap.size]? = _) := heap_alloc_new _ _
    have C9 : Hid (CaseAt (w8.alloc (Obj.cells #[Value.slice (some ⟨gr8, 0, none⟩) R.length R.length, Value.slice (some ⟨gl8, 0, none⟩) L.length L.length] 43)) g7 go7 gv7 zs os vs) := (C7.out.below hb).below ((Below.refl _ _).alloc (Nat.le_refl _) _)
    have P9 : Hid (PlanAt (w8.alloc (Obj.cells #[Value.slice (some ⟨gr8, 0, none⟩) R.length R.length, Value.slice (some ⟨gl8, 0, none⟩) L.length L.length] 43)) gr8 gl8 S8 R L) := PlanAt.below (w := w8) ⟨h5, h6, h7⟩ ((Below.refl _ _).alloc (Nat.le_refl _) _)
    have U8 : Hid (w6.heap.size ≤ gr8 ∧ gr8 < gl8) := ⟨Nat.le_trans Z7.out.size hlg, hgl⟩
    have U7 : Hid (g7 < gr8 ∧ go7 < gr8 ∧ gv7 < gr8) := ⟨Nat.lt_of_lt_of_le (row_lt C7.out.1) hlg, Nat.lt_of_lt_of_le (row_lt C7.out.2.1) hlg, Nat.lt_of_lt_of_le (row_lt C7.out.2.2) hlg⟩
    clear hb hlg hgl h5 h6 h7 B7 X7 C7 Z7
    obtain ⟨x0, x1, x2, x3, x4⟩ := cells5 X9.out
    obtain ⟨y0, y1⟩ := cells2 Y9.out
    go_wp2_with fail
    clear x0 x1 x2 x3 x4 y0 y1
    generalize w8.alloc (Obj.cells #[Value.slice (some ⟨gr8, 0, none⟩) R.length R.length, Value.slice (some ⟨gl8, 0, none⟩) L.length L.length] 43) = w9 at *
    generalize w8.heap.size = by8 at *
    have U9 : Hid (gr8 < w9.heap.size ∧ gl8 < w9.heap.size ∧ g7 < w9.heap.size ∧ go7 < w9.heap.size ∧ gv7 < w9.heap.size ∧ w6.heap.size ≤ w9.heap.size) := ⟨row_lt P9.out.1, row_lt P9.out.2.2, row_lt C9.out.1, row_lt C9.out.2.1, row_lt C9.out.2.2, Z9.out.size⟩
    have PS : Hid (∀ s ∈ S8, ∀ b, s.a = some ⟨b, 0, none⟩ → w6.heap.size ≤ b ∧ b < w9.heap.size) := fun s hs b e => by
      obtain ⟨g', e1, e2, _, e4⟩ := P9.out.2.1.2 s hs
      rw [e1] at e
      simp only [Option.some.injEq, Addr.mk.injEq, and_true] at e
      have h8 := U8.out
      have h9 := row_lt e4
      omega
    refine (implServed_at n fine _ _ _ _ ko _ kv _ gr8 gl8 zs os vs L S8 R w9 C9.out.t C9.out.o C9.out.v P9.out HLO.out HLV.out (by omega) (by omega) hs4 HS5.out hs6 HS7.out HWL.out).mono ?_
    rintro e w10 ⟨gvv, rfl, hb, ho⟩
    rw [HR.out] at ho
    obtain ⟨ga, gc, rfl, -, -⟩ := owns_at1 ho
    have SZ10 : Hid (w9.heap.size ≤ w10.heap.size) := hb.size
    have O10x : w10.ownsRow w9.heap.size 2 1 (.slice ga r.length gc) r.length (r.map (Value.int .i64)) := ho
    have Z10 : Hid (Below w6.heap.size w6 w10) := Z9.out.trans (Below.mono hb Z9.out.size)
    have X10 : Hid (w10.heap[bx]? = _) := below_row hb (row_lt X9.out) X9.out
    have Y10 : Hid (w10.heap[by8]? = _) := below_row hb (row_lt Y9.out) Y9.out
    have C10 : Hid (CaseAt w10 g7 go7 gv7 zs os vs) := C9.out.below hb
    have P10 : Hid (PlanAt w10 gr8 gl8 S8 R L) := P9.out.below hb
    clear hb ho Z9 X9 Y9 C9 P9
    generalize w9.heap.size = b9 at *
    have O10 : Hid (w10.ownsRow b9 2 1 (.slice ga r.length gc) r.length (r.map (Value.int .i64))) := O10x
    clear O10x
    have G10 : Hid (IntsAt w10 ga r) := by
      obtain ⟨a', c', e, _, hi⟩ := owns_at1 O10.out
      have e2 : ga = a' := by injection e
      rw [e2]; exact hi
    go_wp2_with fail
    refine (eqInts_any ga wa gc wc r r w10 G10.out (W6.out.below Z10.out) (by omega)).mono ?_
    rintro e w11 ⟨rfl, hb⟩
    rw [show decide (r = r) = true by simp]
    have SZ11 : Hid (b9 ≤ w11.heap.size) := Nat.le_trans SZ10.out (Below.size hb)
    have Z11 : Hid (Below w6.heap.size w6 w11) := Z10.out.trans (Below.mono hb Z10.out.size)
    have X11 : Hid (w11.heap[bx]? = _) := below_row hb (row_lt X10.out) X10.out
    have Y11 : Hid (w11.heap[by8]? = _) := below_row hb (row_lt Y10.out) Y10.out
    have C11 : Hid (CaseAt w11 g7 go7 gv7 zs os vs) := C10.out.below hb
    have P11 : Hid (PlanAt w11 gr8 gl8 S8 R L) := P10.out.below hb
    have O11 : Hid (w11.ownsRow b9 2 1 (.slice ga r.length gc) r.length (r.map (Value.int .i64))) := owns_below O10.out hb
    clear hb G10 Z10 X10 Y10 C10 P10 O10
    have B11 : Hid (LPB w w11 _ _) := B6.out.below Z11.out
    obtain ⟨e0, e1, e2, e3, e4, e5, e6⟩ := B11.out.cells
    obtain ⟨x0, x1, x2, x3, x4⟩ := cells5 X11.out
    go_wp2_with fail
    go_region_held3 (fun W => (W.cell? ⟨w.heap.size, 0, none⟩ = some (.int .i64 n) ∧ W.cell? ⟨w.heap.size, 1, none⟩ = some (.slice a zs.length cap) ∧ W.cell? ⟨w.heap.size, 2, none⟩ = some (.slice ao ko co) ∧ W.cell? ⟨w.heap.size, 3, none⟩ = some (.slice av kv cv) ∧ W.cell? ⟨w.heap.size, 4, none⟩ = some (.int .i64 fine) ∧ W.cell? ⟨w.heap.size + 1, 0, none⟩ = some (.slice ra R.length rc) ∧ W.cell? ⟨w.heap.size + 1, 1, none⟩ = some (.slice la L.length lc)) ∧ W.cell? ⟨bx, 0, none⟩ = some (.int .i64 n) ∧ W.cell? ⟨bx, 1, none⟩ = some (.slice (some ⟨g7, 0, none⟩) zs.length zs.length) ∧ W.cell? ⟨bx, 2, none⟩ = some (.slice (some ⟨go7, 0, none⟩) ko ko) ∧ W.cell? ⟨bx, 3, none⟩ = some (.slice (some ⟨gv7, 0, none⟩) kv kv) ∧ W.cell? ⟨bx, 4, none⟩ = some (.int .i64 fine)) (first | with_reducible exact kS | go_keep) ((first
    | (go_at_call 7
       with_reducible refine (toCase_any n fine a ao av cap ko co kv cv zs os vs w11.drew (HA.out.below B11.out.drew.b) (HO.out.below B11.out.drew.b) (HV.out.below B11.out.drew.b) HLO.out HLV.out hs1 hs2 hs3).mono ?_
       rintro e w12 ⟨g12, go12, gv12, _, _, _, rfl, hb', hg⟩
       have hb := (Below.refl w11.heap.size w11).drew.trans (hb'.mono (Nat.le_refl _))
       have SZ12 : Hid (b9 ≤ w12.heap.size) := Nat.le_trans SZ11.out (Below.size hb)
       have Z12 : Hid (Below w6.heap.size w6 w12) := Z11.out.trans (Below.mono hb Z11.out.size)
       have X12 : Hid (w12.heap[bx]? = _) := below_row hb (row_lt X11.out) X11.out
       have Y12 : Hid (w12.heap[by8]? = _) := below_row hb (row_lt Y11.out) Y11.out
       have C12 : Hid (CaseAt w12 g7 go7 gv7 zs os vs) := C11.out.below hb
       have P12 : Hid (PlanAt w12 gr8 gl8 S8 R L) := P11.out.below hb
       have O12 : Hid (w12.ownsRow b9 2 1 (.slice ga r.length gc) r.length (r.map (Value.int .i64))) := owns_below O11.out hb
       have D12 : Hid (CaseAt w12 g12 go12 gv12 zs os vs) := hg
       have kS := And.intro (lp7 (B6.out.below Z12.out)) (cells5 X12.out)
       clear hb hb' hg)
    | (go_at_call 11
       with_reducible refine (eqCase_same n fine _ _ _ _ _ _ _ _ _ _ _ _ _ _ zs os vs w12 C12.out.t C12.out.o C12.out.v D12.out.t D12.out.o D12.out.v HLO.out HLV.out (by omega) (by omega) (by omega)).mono ?_
       rintro e w13 ⟨rfl, hb⟩
       have SZ13 : Hid (b9 ≤ w13.heap.size) := Nat.le_trans SZ12.out (Below.size hb)
       have Z13 : Hid (Below w6.heap.size w6 w13) := Z12.out.trans (Below.mono hb Z12.out.size)
       have X13 : Hid (w13.heap[bx]? = _) := below_row hb (row_lt X12.out) X12.out
       have Y13 : Hid (w13.heap[by8]? = _) := below_row hb (row_lt Y12.out) Y12.out
       have C13 : Hid (CaseAt w13 g7 go7 gv7 zs os vs) := C12.out.below hb
       have P13 : Hid (PlanAt w13 gr8 gl8 S8 R L) := P12.out.below hb
       have O13 : Hid (w13.ownsRow b9 2 1 (.slice ga r.length gc) r.length (r.map (Value.int .i64))) := owns_below O12.out hb
       have kS := And.intro (lp7 (B6.out.below Z13.out)) (cells5 X13.out)
       clear hb)))
    all_goals
      clear e0 e1 e2 e3 e4 e5 e6 x0 x1 x2 x3 x4 kS B11 D12
      clear Z11 X11 Y11 C11 P11 O11
      clear Z12 X12 Y12 C12 P12 O12
      have B13 : Hid (LPB w w13 _ _) := B6.out.below Z13.out
      obtain ⟨e0, e1, e2, e3, e4, e5, e6⟩ := B13.out.cells
      obtain ⟨y0, y1⟩ := cells2 Y13.out
      go_wp2_with fail
      go_region_held3 (fun W => (W.cell? ⟨w.heap.size, 0, none⟩ = some (.int .i64 n) ∧ W.cell? ⟨w.heap.size, 1, none⟩ = some (.slice a zs.length cap) ∧ W.cell? ⟨w.heap.size, 2, none⟩ = some (.slice ao ko co) ∧ W.cell? ⟨w.heap.size, 3, none⟩ = some (.slice av kv cv) ∧ W.cell? ⟨w.heap.size, 4, none⟩ = some (.int .i64 fine) ∧ W.cell? ⟨w.heap.size + 1, 0, none⟩ = some (.slice ra R.length rc) ∧ W.cell? ⟨w.heap.size + 1, 1, none⟩ = some (.slice la L.length lc)) ∧ W.cell? ⟨by8, 0, none⟩ = some (.slice (some ⟨gr8, 0, none⟩) R.length R.length) ∧ W.cell? ⟨by8, 1, none⟩ = some (.slice (some ⟨gl8, 0, none⟩) L.length L.length)) (first | with_reducible exact kS | go_keep) ((first
      | (go_at_call 8
         with_reducible refine (toPlan_at ra la rc lc R L w13.drew (HRT.out.below B13.out.drew.b) (HL.out.below B13.out.drew.b) hs4 HS5.out hs6).mono ?_
         rintro e w14 ⟨gr14, gl14, S14, rfl, hb', hg⟩
         have hb := (Below.refl w13.heap.size w13).drew.trans (hb'.mono (Nat.le_refl _))
         have SZ14 : Hid (b9 ≤ w14.heap.size) := Nat.le_trans SZ13.out (Below.size hb)
         have Z14 : Hid (Below w6.heap.size w6 w14) := Z13.out.trans (Below.mono hb Z13.out.size)
         have X14 : Hid (w14.heap[bx]? = _) := below_row hb (row_lt X13.out) X13.out
         have Y14 : Hid (w14.heap[by8]? = _) := below_row hb (row_lt Y13.out) Y13.out
         have C14 : Hid (CaseAt w14 g7 go7 gv7 zs os vs) := C13.out.below hb
         have P14 : Hid (PlanAt w14 gr8 gl8 S8 R L) := P13.out.below hb
         have O14 : Hid (w14.ownsRow b9 2 1 (.slice ga r.length gc) r.length (r.map (Value.int .i64))) := owns_below O13.out hb
         have Q14 : Hid (PlanAt w14 gr14 gl14 S14 R L) := hg
         have kS := And.intro (lp7 (B6.out.below Z14.out)) (cells2 Y14.out)
         clear hb hb' hg)
      | (go_at_call 12
         with_reducible refine (eqPlan_at gr8 gl8 gr14 gl14 S8 S14 R L w14 P14.out Q14.out hs4 HS5.out hs6).mono ?_
         rintro e w15 ⟨rfl, hb⟩
         have SZ15 : Hid (b9 ≤ w15.heap.size) := Nat.le_trans SZ14.out (Below.size hb)
         have Z15 : Hid (Below w6.heap.size w6 w15) := Z14.out.trans (Below.mono hb Z14.out.size)
         have X15 : Hid (w15.heap[bx]? = _) := below_row hb (row_lt X14.out) X14.out
         have Y15 : Hid (w15.heap[by8]? = _) := below_row hb (row_lt Y14.out) Y14.out
         have C15 : Hid (CaseAt w15 g7 go7 gv7 zs os vs) := C14.out.below hb
         have P15 : Hid (PlanAt w15 gr8 gl8 S8 R L) := P14.out.below hb
         have O15 : Hid (w15.ownsRow b9 2 1 (.slice ga r.length gc) r.length (r.map (Value.int .i64))) := owns_below O14.out hb
         have kS := And.intro (lp7 (B6.out.below Z15.out)) (cells2 Y15.out)
         clear hb)))
      all_goals
        clear e0 e1 e2 e3 e4 e5 e6 y0 y1 kS B13 Q14
        clear Z13 X13 Y13 C13 P13 O13
        clear Z14 X14 Y14 C14 P14 O14
        have N1 : Hid (¬ (by8 = g7 ∨ by8 = go7 ∨ by8 = gv7)) := fun h => by
          rcases h with h | h | h
          · exact type_ne Y15.out C15.out.1 (by decide) h
          · exact type_ne Y15.out C15.out.2.1 (by decide) h
          · exact type_ne Y15.out C15.out.2.2 (by decide) h
        have N2 : Hid (∀ W', GrownBut (fun b => b = g7 ∨ b = go7 ∨ b = gv7) w15 W' → PlanAt W' gr8 gl8 S8 R L) := fun W' hG => by
          have h9 := L7.out
          refine ⟨hG.row P15.out.1 (fun h => ?_), ⟨P15.out.2.1.1, fun s hs => ?_⟩, hG.row P15.out.2.2 (fun h => ?_)⟩
          · rcases h with h | h | h
            · exact type_ne P15.out.1 C15.out.1 (by decide) h
            · exact type_ne P15.out.1 C15.out.2.1 (by decide) h
            · exact type_ne P15.out.1 C15.out.2.2 (by decide) h
          · obtain ⟨g', e1, e2, e3, e4⟩ := P15.out.2.1.2 s hs
            refine ⟨g', e1, e2, e3, hG.row e4 (fun h => ?_)⟩
            have h8 := U7.out
            rcases h with h | h | h <;> omega
          · have h8 := U7.out
            have h7 := U8.out
            rcases h with h | h | h <;> omega
        obtain ⟨x0, x1, x2, x3, x4⟩ := cells5 X15.out
        go_wp2_with fail
        clear x0 x1 x2 x3 x4
        refine (markCase_any n fine g7 go7 gv7 _ ko _ kv _ zs os vs w15 C15.out HLO.out HLV.out hs1 hs2 hs3).mono ?_
        rintro e w16 ⟨kk, rfl, hk1, hk2, hg⟩
        have Z16 : Hid (Below w6.heap.size w6 w16) := Z15.out.trans (hg.below Z15.out.size (fun b h => by have h9 := L7.out; rcases h with h | h | h <;> omega))
        have Y16 : Hid (w16.heap[by8]? = _) := hg.row Y15.out N1.out
        have P16 : Hid (PlanAt w16 gr8 gl8 S8 R L) := N2.out _ hg
        have O16 : Hid (w16.ownsRow b9 2 1 (.slice ga r.length gc) r.length (r.map (Value.int .i64))) := hg.owns O15.out (fun b h => by have h9 := U9.out; rcases h with h | h | h <;> omega)
        have H16 : Hid (b9 ≤ w16.heap.size) := Nat.le_trans SZ15.out hg.size
        clear hg N1 N2
        clear Z15 X15 Y15 C15 P15 O15
        obtain ⟨y0, y1⟩ := cells2 Y16.out
        go_wp2_with fail
        clear y0 y1
        refine (markPlan_any gr8 gl8 w6.heap.size b9 kk S8 R L w16 P16.out PS.out (by have h9 := U9.out; have h8 := U8.out; omega) (by have h9 := U9.out; have h8 := U8.out; omega) hk1 (by omega) hs4 hs6 HS7.out H16.out).mono ?_
        rintro e w17 ⟨kq, rfl, hkq, hg⟩
        have Z17 : Hid (Below w6.heap.size w6 w17) := Z16.out.trans (hg.below Z16.out.size (fun b h => h.1))
        have O17 : Hid (w17.ownsRow b9 2 1 (.slice ga r.length gc) r.length (r.map (Value.int .i64))) := hg.owns O16.out (fun b h => h.2)
        clear hg Z16 Y16 P16 O16
        have G17 : Hid (IntsAt w17 ga r) := by
          obtain ⟨a', c', e, _, hi⟩ := owns_at1 O17.out
          have e2 : ga = a' := by injection e
          rw [e2]; exact hi
        go_wp2_with fail
        refine (eqInts_any ga wa gc wc r r w17 G17.out (W6.out.below Z17.out) (by omega)).mono ?_
        rintro e w18 ⟨rfl, hb⟩
        rw [show decide (r = r) = true by simp]
        have Z18 : Hid (Below w6.heap.size w6 w18) := Z17.out.trans (Below.mono hb Z17.out.size)
        have O18 : Hid (w18.ownsRow b9 2 1 (.slice ga r.length gc) r.length (r.map (Value.int .i64))) := owns_below O17.out hb
        clear hb G17 Z17 O17
        go_wp2_with fail
        refine (markI_o ga r.length gc _ r _ O18.out (by omega)).mono ?_
        rintro e w19 ⟨rfl, hg, hm⟩
        have M19 : Hid (Marked1 w19 ga r.length) := hm
        have Z19 : Hid (Below w6.heap.size w6 w19) := Z18.out.grown hg Z18.out.size (fun k e => by have := (O18.out.lt _ e).1; have := U9.out; omega)
        clear hg hm Z18 O18
        obtain ⟨gm, HGM⟩ : ∃ q, Hid ((1 : Int) + ((r.length : Nat) : Int) = q) := ⟨_, rfl⟩
        have hgm : 0 ≤ gm := by have := HGM.out; omega
        have hgg : (gm != gm) = false := by simp
        rw [HGM.out]
        go_wp2_with fail
        refine (heldI_u ga r.length gc _ M19.out (by omega)).mono ?_
        rintro e w19b ⟨rfl, hw19⟩
        subst w19b
        rw [HGM.out]
        have B19 : Hid (LPB w w19 _ _) := B6.out.below Z19.out
        obtain ⟨e0, e1, e2, e3, e4, e5, e6⟩ := B19.out.cells
        go_wp2_with fail
        go_region_held3 (fun W => W.cell? ⟨w.heap.size, 0, none⟩ = some (.int .i64 n) ∧ W.cell? ⟨w.heap.size, 1, none⟩ = some (.slice a zs.length cap) ∧ W.cell? ⟨w.heap.size, 2, none⟩ = some (.slice ao ko co) ∧ W.cell? ⟨w.heap.size, 3, none⟩ = some (.slice av kv cv) ∧ W.cell? ⟨w.heap.size, 4, none⟩ = some (.int .i64 fine) ∧ W.cell? ⟨w.heap.size + 1, 0, none⟩ = some (.slice ra R.length rc) ∧ W.cell? ⟨w.heap.size + 1, 1, none⟩ = some (.slice la L.length lc)) (first | with_reducible exact kS | go_keep) ((first
        | (go_at_call 7
           with_reducible refine (toCase_any n fine a ao av cap ko co kv cv zs os vs w19.drew (HA.out.below B19.out.drew.b) (HO.out.below B19.out.drew.b) (HV.out.below B19.out.drew.b) HLO.out HLV.out hs1 hs2 hs3).mono ?_
           rintro e w20 ⟨g20, go20, gv20, _, _, _, rfl, hb', hg⟩
           have hb := (Below.refl w19.heap.size w19).drew.trans (hb'.mono (Nat.le_refl _))
           have Z20 : Hid (Below w6.heap.size w6 w20) := Z19.out.trans (Below.mono hb Z19.out.size)
           have M20 : Hid (Marked1 w20 ga r.length) := M19.out.below hb
           have C20 : Hid (CaseAt w20 g20 go20 gv20 zs os vs) := hg
           have kS := lp7 (B6.out.below Z20.out)
           clear hb hb' hg)
        | (go_at_call 8
           with_reducible refine (toPlan_at ra la rc lc R L w20 (HRT.out.below (B6.out.below Z20.out).b) (HL.out.below (B6.out.below Z20.out).b) hs4 HS5.out hs6).mono ?_
           rintro e w21 ⟨gr21, gl21, S21, rfl, hb, hg⟩
           have Z21 : Hid (Below w6.heap.size w6 w21) := Z20.out.trans (Below.mono hb Z20.out.size)
           have M21 : Hid (Marked1 w21 ga r.length) := M20.out.below hb
           have C21 : Hid (CaseAt w21 g20 go20 gv20 zs os vs) := C20.out.below hb
           have P21 : Hid (PlanAt w21 gr21 gl21 S21 R L) := hg
           have kS := lp7 (B6.out.below Z21.out)
           clear hb hg)
        | (go_at_call 9
           with_reducible refine (implServed_at n fine _ _ _ _ ko _ kv _ gr21 gl21 zs os vs L S21 R w21 C21.out.t C21.out.o C21.out.v P21.out HLO.out HLV.out (by omega) (by omega) hs4 HS5.out hs6 HS7.out HWL.out).mono ?_
           rintro e w22 ⟨hvv, rfl, hb, ho⟩
           rw [HR.out] at ho
           obtain ⟨ha, hc', rfl, -, hi⟩ := owns_at1 ho
           have Z22 : Hid (Below w6.heap.size w6 w22) := Z21.out.trans (Below.mono hb Z21.out.size)
           have M22 : Hid (Marked1 w22 ga r.length) := M21.out.below hb
           have I22 : Hid (IntsAt w22 ha r) := hi
           have kS := lp7 (B6.out.below Z22.out)
           clear hb ho hi)))
        all_goals
          clear e0 e1 e2 e3 e4 e5 e6 kS B19 C20 C21 P21 Z20 M20 Z21 M21
          go_wp2_with fail
          refine (eqInts_any ha wa hc' wc r r w22 I22.out (W6.out.below Z22.out) (by omega)).mono ?_
          rintro e w23 ⟨rfl, hb⟩
          rw [show decide (r = r) = true by simp]
          have Z23 : Hid (Below w6.heap.size w6 w23) := Z22.out.trans (Below.mono hb Z22.out.size)
          have M23 : Hid (Marked1 w23 ga r.length) := M22.out.below hb
          have B23 : Hid (Below w.heap.size w w23) := (B6.out.below Z23.out).b
          clear hb I22 Z22 M22
          go_wp2_with fail
          refine (heldI_u ga r.length gc _ M23.out (by omega)).mono ?_
          rintro e w24 ⟨rfl, hw24⟩
          subst w24
          rw [HGM.out]
          go_wp2
          go_ret
          exact ⟨rfl, B23.out⟩

end Go.Proofs.YtonopidjkcmlmaaGreat
