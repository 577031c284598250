import Derived.Test.YtfcplmageokdiafOrdersOk
import Derived.Test.YtfcplmageokdiafImplMat
namespace Go.Proofs.Ytfcplmageokdiaf
open Go.RowKit

set_option maxHeartbeats 1000000 in
theorem implCase_any (n fine : Int) (a ao av : Option Addr) (cap ko co kv cv : Nat) (zs os vs : List Int) (w : World) (hA : IntsAt w a zs) (hO : IntsAt w ao os) (hV : IntsAt w av vs) (hlo : os.length = ko * 6) (hlv : vs.length = kv * 5) (hko : ko ≤ 9223372036854775807) (hkv : kv ≤ 9223372036854775807) :
    Calls Try.prog 28 #[.agg #[.int .i64 n, .slice a zs.length cap, .slice ao ko co, .slice av kv cv, .int .i64 fine]] w fun e w' => e = .returned (.bool (caseB n zs os vs ko kv fine)) ∧ Below w.heap.size w w' := by
  have HB0 : Hid (Below w.heap.size w (w.alloc (Obj.cells #[Value.int IntKind.i64 n, Value.slice a zs.length cap, Value.slice ao ko co, Value.slice av kv cv, Value.int IntKind.i64 fine] 39))) := (Below.refl _ _).alloc (Nat.le_refl _) _
  have HA : Hid (IntsAt w a zs) := hA
  have HO : Hid (IntsAt w ao os) := hO
  have HV : Hid (IntsAt w av vs) := hV
  have HLO : Hid _ := hlo
  have HLV : Hid _ := hlv
  clear hA hO hV hlo hlv
  cases h1 : matB n zs
  · have HM : Hid _ := h1
    have HC : Hid (caseB n zs os vs ko kv fine = false) := by show _ = _; simp [caseB, h1]
    clear h1
    go_enter Try.func28, Try.ntmps28
    go_wp2_with fail
    refine (implMat_any n a cap zs _ (HA.out.below HB0.out)).mono ?_
    rintro e w1 ⟨rfl, hb⟩
    rw [HM.out]
    obtain ⟨b1, r1⟩ := box5 hb
    clear hb
    go_wp2
    go_ret
    exact ⟨ret_bool HC.out.symm, b1⟩
  · obtain ⟨hn1, hn2, _, _⟩ := matB_true h1
    have HM : Hid _ := h1
    cases h2 : ordsB n os ko
    · have HC : Hid (caseB n zs os vs ko kv fine = false) := by show _ = _; simp [caseB, h1, h2]
      have HO2 : Hid _ := h2
      clear h1 h2
      go_enter Try.func28, Try.ntmps28
      go_wp2_with fail
      refine (implMat_any n a cap zs _ (HA.out.below HB0.out)).mono ?_
      rintro e w1 ⟨rfl, hb⟩
      rw [HM.out]
      obtain ⟨b1, r1⟩ := box5 hb
      obtain ⟨c0, c1, c2, c3, c4⟩ := cells5 r1
      have B1 : Hid _ := b1
      clear hb b1 r1
      go_wp2_with fail
      refine (ordersOk_any n fine a ao av _ _ _ _ _ _ os _ hn1 hn2 (HO.out.below B1.out) HLO.out hko).mono ?_
      rintro e w2 ⟨rfl, hb⟩
      rw [HO2.out]
      go_wp2
      go_ret
      exact ⟨ret_bool HC.out.symm, B1.out.trans (hb.mono B1.out.size)⟩
    · have HO2 : Hid _ := h2
      cases h3 : vehsB n vs kv
      · have HC : Hid (caseB n zs os vs ko kv fine = false) := by show _ = _; simp [caseB, h1, h2, h3]
        have HV2 : Hid _ := h3
        clear h1 h2 h3
        go_enter Try.func28, Try.ntmps28
        go_wp2_with fail
        refine (implMat_any n a cap zs _ (HA.out.below HB0.out)).mono ?_
        rintro e w1 ⟨rfl, hb⟩
        rw [HM.out]
        obtain ⟨b1, r1⟩ := box5 hb
        obtain ⟨c0, c1, c2, c3, c4⟩ := cells5 r1
        have B1 : Hid _ := b1
        have R1 : Hid _ := r1
        clear hb b1 r1
        go_wp2_with fail
        refine (ordersOk_any n fine a ao av _ _ _ _ _ _ os _ hn1 hn2 (HO.out.below B1.out) HLO.out hko).mono ?_
        rintro e w2 ⟨rfl, hb⟩
        rw [HO2.out]
        obtain ⟨b2, r2⟩ := box_more hb B1.out R1.out
        clear c0 c1 c2 c3 c4
        obtain ⟨c0, c1, c2, c3, c4⟩ := cells5 r2
        have B2 : Hid _ := b2
        clear hb b2 r2
        go_wp2_with fail
        refine (vehiclesOk_any n fine a ao av _ _ _ _ _ _ vs _ hn1 hn2 (HV.out.below B2.out) HLV.out hkv).mono ?_
        rintro e w3 ⟨rfl, hb⟩
        rw [HV2.out]
        go_wp2
        go_ret
        exact ⟨ret_bool HC.out.symm, B2.out.trans (hb.mono B2.out.size)⟩
      · have HC : Hid (caseB n zs os vs ko kv fine = inB fine 0 1000000) := by show _ = _; simp [caseB, h1, h2, h3]
        have HV2 : Hid _ := h3
        clear h1 h2 h3
        go_enter Try.func28, Try.ntmps28
        go_wp2_with fail
        refine (implMat_any n a cap zs _ (HA.out.below HB0.out)).mono ?_
        rintro e w1 ⟨rfl, hb⟩
        rw [HM.out]
        obtain ⟨b1, r1⟩ := box5 hb
        obtain ⟨c0, c1, c2, c3, c4⟩ := cells5 r1
        have B1 : Hid _ := b1
        have R1 : Hid _ := r1
        clear hb b1 r1
        go_wp2_with fail
        refine (ordersOk_any n fine a ao av _ _ _ _ _ _ os _ hn1 hn2 (HO.out.below B1.out) HLO.out hko).mono ?_
        rintro e w2 ⟨rfl, hb⟩
        rw [HO2.out]
        obtain ⟨b2, r2⟩ := box_more hb B1.out R1.out
        clear c0 c1 c2 c3 c4
        obtain ⟨c0, c1, c2, c3, c4⟩ := cells5 r2
        have B2 : Hid _ := b2
        have R2 : Hid _ := r2
        clear hb b2 r2
        go_wp2_with fail
        refine (vehiclesOk_any n fine a ao av _ _ _ _ _ _ vs _ hn1 hn2 (HV.out.below B2.out) HLV.out hkv).mono ?_
        rintro e w3 ⟨rfl, hb⟩
        rw [HV2.out]
        obtain ⟨b3, r3⟩ := box_more hb B2.out R2.out
        clear c0 c1 c2 c3 c4
        obtain ⟨c0, c1, c2, c3, c4⟩ := cells5 r3
        clear hb r3
        go_wp2_with (go_at_call 63; refine (within_any _ _ _ _).mono ?_; rintro e w' ⟨rfl, rfl⟩)
        go_ret
        exact ⟨ret_bool HC.out.symm, b3⟩

end Go.Proofs.Ytfcplmageokdiaf
