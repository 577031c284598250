import Derived.Test.YtehfjfmfpdgibaaGreatDoorPack3
import Derived.Test.YtehfjfmfpdgibaaGreatDoorPack6
import Derived.Test.YtehfjfmfpdgibaaGreatDoorPack10
import Derived.Test.YtehfjfmfpdgibaaGreatDoorAppendNo0
namespace Go.Proofs.YtehfjfmfpdgibaaGreatDoor
open Go.RowKit
theorem own1a (w : World) (v : Int) : ((w.alloc (.cells #[.int .i64 v] 2)).drew).ownsRow w.heap.size 2 1 (.slice (some ⟨w.heap.size, 0, none⟩) 1 1) 1 (([v] : List Int).map (Value.int .i64)) :=
 ⟨by simp, .inr ⟨w.heap.size, 1, #[.int .i64 v], rfl, Nat.le_refl _, heap_alloc_new _ _, by omega, by unfold maxLen; omega, by simp, by simp⟩⟩
set_option maxRecDepth 10000 in
set_option maxHeartbeats 4000000 in
theorem specPlanText_any (ra la : Option Addr) (rc lc : Nat) (R : List RT) (L : List Int) (w : World) (hR : RoutesAt w ra R) (hL : IntsAt w la L) (hn : R.length <= 1048576) (hl : L.length <= 1048576) (hi : ∀ r ∈ R, r.ids.length <= 1048576) (had : ∀ r ∈ R, (r.a = none /\ r.ids = []) ∨ ∃ b off, r.a = some ⟨b, off, none⟩) :
 Calls Tryz.prog 59 #[.agg #[.slice ra R.length rc, .slice la L.length lc]] w fun e w' => e = .returned (.string (if formB R L = true then txt (planL R L) else txt [])) /\ Below w.heap.size w w' := by
 have HR : Hid (RoutesAt w ra R) := hR
 have HL : Hid (IntsAt w la L) := hL
 have HAD : Hid (∀ r ∈ R, (r.a = none /\ r.ids = []) ∨ ∃ b off, r.a = some ⟨b, off, none⟩) := had
 have C0 : Hid (PX w (w.alloc (.cells #[.slice ra R.length rc, .slice la L.length lc] 46)) #[.slice ra R.length rc, .slice la L.length lc]) := PX.new w _
 have CF := l4Form_any ra la rc lc R L _ (HR.out.below C0.out.1) (HL.out.below C0.out.1) hn hl hi
 clear hR hL hi had
 obtain ⟨x, HX⟩ : ∃ x, Hid ((if formB R L = true then txt (planL R L) else txt []) = x) := ⟨_, rfl⟩
 rw [HX.out]
 obtain ⟨n, HN⟩ : ∃ n, Hid (R.length = n) := ⟨_, rfl⟩
 obtain ⟨l, HLL⟩ : ∃ l, Hid (L.length = l) := ⟨_, rfl⟩
 rw [HN.out, HLL.out] at C0 CF
 rw [HN.out] at hn ⊢
 rw [HLL.out] at hl ⊢
 obtain ⟨c0, c1⟩ := cells2 C0.out.2
 go_enter Tryz.func59, Tryz.ntmps59
 go_wp2_with fail
 clear c0 c1
 generalize w.alloc (.cells #[.slice ra n rc, .slice la l lc] 46) = W0 at *
 refine CF.mono ?_
 rintro e w1 ⟨rfl, hb⟩
 have C1 : Hid (PX w w1 #[.slice ra n rc, .slice la l lc]) := C0.out.below hb
 clear hb C0 CF
 by_cases hf2 : formB R L = false
 · have HE : Hid (x = txt []) := by show _ = _; rw [<- HX.out, if_neg (by rw [hf2]; simp)]
   rw [hf2]
   clear hf2
   go_wp2
   go_ret
   exact ⟨by rw [HE.out]; rfl, C1.out.1⟩
 have hf : formB R L = true := by simpa using hf2
 have HE : Hid (x = txt (routesL R n ++ lineL wLeft L)) := by show _ = _; rw [<- HX.out, if_pos hf, <- HN.out]; rfl
 have HF : Hid (formB R L = true) := hf
 rw [hf]
 have hn5 : n <= 5 := by rw [<- HN.out]; exact (formB_parts hf).1
 have HLS : Hid (Small L) := (idsB_small (formB_parts hf).2.1).2
 have hl12 : l <= 12 := by rw [<- HLL.out]; exact (idsB_small (formB_parts hf).2.1).1
 have HRL : Hid (∀ k, k <= n -> (routesL R k).length <= 400 * k) := HN.out ▸ routesL_len hf
 clear hf hf2
 go_wp2_with fail
 go_loopw [3, 4] (fun ts ti wr => ∃ k : Nat, k <= n /\ ti = .int .i64 k /\ ts = .string (txt (routesL R k)) /\ PX w wr #[.slice ra n rc, .slice la l lc]) (fun _ ti _ => n - (intOf ti).toNat)
 case atStart => exact ⟨0, Nat.zero_le _, rfl, rfl, C1.out⟩
 case round =>
  clear C1
  obtain ⟨k, hk, rfl, rfl, hp⟩ := hrel
  have CW : Hid (PX w wr #[.slice ra n rc, .slice la l lc]) := hp
  clear hp
  obtain ⟨c0, c1⟩ := cells2 CW.out.2
  have hts : (txt (routesL R k)).size <= 20000 := by
   have h1 := HRL.out k hk
   rw [txt_size]
   omega
  by_cases hlt : k < n
  · have hkl : k < R.length := by rw [HN.out]; exact hlt
    have hkn : (k : Int) < n := by omega
    obtain ⟨b, off, rfl, r0, r1, hI⟩ := (HR.out.below CW.out.1) k hkl
    obtain ⟨hsm, hil⟩ := row_smallR HF.out hkl
    have hadk := HAD.out (R.getD k rt0) (by rw [List.getD_eq_getElem?_getD, List.getElem?_eq_getElem hkl]; simp)
    have HSTEP : Hid (txt (routesL R (k + 1)) = txt (routesL R k) ++ txt (lineL wRoute ((R.getD k rt0).v :: (R.getD k rt0).ids))) := by
     show _ = _
     rw [txt_app]
     rfl
    generalize R.getD k rt0 = r at *
    obtain ⟨rv, rra, rids, rcc⟩ := r
    simp only at r0 r1 hI hil hsm hadk HSTEP
    have II : Hid (IntsAt wr rra rids) := hI
    have HSM : Hid (Small (rv :: rids)) := hsm
    have hll : (txt (lineL wRoute (rv :: rids))).size <= 1000 := by
     have h1 := lineL_len wRoute _ hsm
     have e : wRoute.length = 5 := rfl
     simp only [List.length_cons] at h1
     rw [txt_size]
     omega
    clear hkl hI hsm
    obtain ⟨m, HM⟩ : ∃ m, Hid (rids.length = m) := ⟨_, rfl⟩
    rw [HM.out] at r1 hil
    generalize txt (routesL R k) = t0 at *
    have HCL : Hid (∀ g c W, IntsAt W (some ⟨g, 0, none⟩) (rv :: rids) -> Calls Tryz.prog 57 #[.string ⟨#[114, 111, 117, 116, 101]⟩, .slice (some ⟨g, 0, none⟩) (1 + m) c] W fun e w' => e = .returned (.string (txt (lineL wRoute (rv :: rids)))) /\ Below W.heap.size W w') := fun g c W h => by
     have := l2Line_any wRoute (some ⟨g, 0, none⟩) c (rv :: rids) W h HSM.out (by simp only [List.length_cons]; rw [HM.out]; omega) (by simp [wRoute])
     rw [show (rv :: rids).length = 1 + m by simp only [List.length_cons]; rw [HM.out]; omega] at this
     exact this
    generalize txt (lineL wRoute (rv :: rids)) = t1 at *
    have BZ : Hid (Below wr.heap.size wr (wr.alloc (.cells #[.int .i64 rv] 2)).drew) := ((Below.refl _ _).alloc (Nat.le_refl _) _).drew
    have hs0 : (t0 ++ t1).size <= 30000 := by rw [ByteArray.size_append]; omega
    have hs1 : ¬ (9223372036854775807 < t0.size + t1.size) := by omega
    go_wp2_with fail
    rcases hadk with ⟨rfl, hnil⟩ | ⟨b2, off2, rfl⟩
    · have hm0 : m = 0 := by rw [<- HM.out, hnil]; rfl
      subst hm0
      clear II
      have kS := And.intro c0 (And.intro r0 r1)
      go_region_held3 (fun W => W.cell? ⟨w.heap.size, 0, none⟩ = some (.slice (some ⟨b, off, none⟩) n rc) /\ W.cell? ⟨b, off + k * 2, none⟩ = some (.int .i64 rv) /\ W.cell? ⟨b, off + k * 2 + 1, none⟩ = some (.slice none 0 rcc)) (first | with_reducible exact kS | go_keep) ((first
       | (refine step_append_no0 rfl (.tmp 22) (.tmp 28) rfl wr.heap.size 1 1 rcc rfl rfl (by omega) ?_
          rintro w2 rfl
          have HW2 : Hid (Below wr.heap.size wr (wr.alloc (.cells #[.int .i64 rv] 2)).drew) := BZ.out)
       | (go_at_call 57
          refine (HCL.out _ _ _ (by rw [hnil]; exact IntsAt.of_row (heap_alloc_new _ _))).mono ?_
          rintro e w3 ⟨rfl, hb3⟩
          have B3 : Hid (Below wr.heap.size wr w3) := BZ.out.trans (hb3.mono BZ.out.size)
          have kS := And.intro (keepC c0 B3.out) (And.intro (keepC r0 B3.out) (keepC r1 B3.out))
          clear hb3)))
      all_goals
       have C2 : Hid (PX w w3 #[.slice (some ⟨b, off, none⟩) n rc, .slice la l lc]) := CW.out.below B3.out
       go_wp2_with fail
       go_roundw
       case rel => exact ⟨k + 1, by omega, by go_num, by rw [HSTEP.out], C2.out⟩
       case measure => simp [intOf]; omega
    · have kS := And.intro c0 (And.intro r0 r1)
      go_region_held3 (fun W => W.cell? ⟨w.heap.size, 0, none⟩ = some (.slice (some ⟨b, off, none⟩) n rc) /\ W.cell? ⟨b, off + k * 2, none⟩ = some (.int .i64 rv) /\ W.cell? ⟨b, off + k * 2 + 1, none⟩ = some (.slice (some ⟨b2, off2, none⟩) m rcc)) (first | with_reducible exact kS | go_keep) ((first
       | (refine step_append_ints rfl (.tmp 22) (.tmp 28) rfl wr.heap.size (.slice (some ⟨wr.heap.size, 0, none⟩) 1 1) [rv] 1 rfl (own1a wr rv) b2 off2 m rcc rids rfl HM.out (II.out.below BZ.out) (by omega) (by omega) (by simp) ?_
          intro v' w2 ho hg hz
          obtain ⟨g, cg, rfl⟩ : ∃ g cg, v' = .slice (some ⟨g, 0, none⟩) (1 + m) cg := own_shq ho (fun e => by simpa using (hz.1 e).1) (by omega)
          have B2 : Hid (Below wr.heap.size wr w2) := BZ.out.grown hg (by simp) (fun q e => by simp [Value.ownBlock] at e; omega)
          have I2 : Hid (IntsAt w2 (some ⟨g, 0, none⟩) (rv :: rids)) := owns_ints ho
          have kS := And.intro (keepC c0 B2.out) (And.intro (keepC r0 B2.out) (keepC r1 B2.out))
          clear hg ho hz)
       | (go_at_call 57
          refine (HCL.out _ _ _ (by first | exact I2.out | exact I2.out.below (Below.refl _ _).drew)).mono ?_
          rintro e w3 ⟨rfl, hb3⟩
          have B3 : Hid (Below wr.heap.size wr w3) := by first | exact B2.out.trans (hb3.mono B2.out.size) | exact B2.out.drew.trans (hb3.mono B2.out.size)
          have kS := And.intro (keepC c0 B3.out) (And.intro (keepC r0 B3.out) (keepC r1 B3.out))
          clear hb3)))
      all_goals
       have C2 : Hid (PX w w3 #[.slice (some ⟨b, off, none⟩) n rc, .slice la l lc]) := CW.out.below B3.out
       go_wp2_with fail
       go_roundw
       case rel => exact ⟨k + 1, by omega, by go_num, by rw [HSTEP.out], C2.out⟩
       case measure => simp [intOf]; omega
  · have hnlt : ¬ ((k : Int) < (n : Int)) := by omega
    have HK : Hid (k = n) := by show _ = _; omega
    have HEE : Hid (x = txt (routesL R k) ++ txt (lineL wLeft L)) := by
     show _ = _
     rw [HE.out, <- txt_app, HK.out]
    have hll : (txt (lineL wLeft L)).size <= 1000 := by
     have h1 := lineL_len wLeft _ HLS.out
     have e : wLeft.length = 4 := rfl
     rw [txt_size]
     rw [HLL.out] at h1
     omega
    have HCL := l2Line_any wLeft la lc L wr (HL.out.below CW.out.1) HLS.out (by rw [HLL.out]; omega) (by simp [wLeft])
    rw [HLL.out] at HCL
    generalize txt (routesL R k) = t0 at *
    generalize txt (lineL wLeft L) = t1 at *
    have hs0 : (t0 ++ t1).size <= 30000 := by rw [ByteArray.size_append]; omega
    go_wp2_with fail
    refine HCL.mono ?_
    rintro e w2 ⟨rfl, hb⟩
    have C2 : Hid (PX w w2 #[.slice ra n rc, .slice la l lc]) := CW.out.below hb
    clear hb HCL
    go_wp2
    go_ret
    exact ⟨by rw [HEE.out]; rfl, C2.out.1⟩
end Go.Proofs.YtehfjfmfpdgibaaGreatDoor
