import Derived.Test.YtdnfgeojagagnajPlainLoad
import Derived.Test.YtdnfgeojagagnajImplCase
import Derived.Test.YtdnfgeojagagnajImplOrd
namespace Go.Proofs.Ytdnfgeojagagnaj
open Go.RowKit

set_option maxHeartbeats 1000000 in
theorem implLoad_any (n fine : Int) (a ao av bi : Option Addr) (cap ko co kv cv c2 : Nat) (zs os vs ids : List Int) (w : World) (hA : IntsAt w a zs) (hO : IntsAt w ao os) (hV : IntsAt w av vs) (hI : IntsAt w bi ids) (hlo : os.length = ko * 6) (hlv : vs.length = kv * 5) (hko : ko ≤ 9223372036854775807) (hkv : kv ≤ 9223372036854775807) (hli : ids.length ≤ 9223372036854775807) :
    Calls Try.prog 9 #[.agg #[.int .i64 n, .slice a zs.length cap, .slice ao ko co, .slice av kv cv, .int .i64 fine], .slice bi ids.length c2] w fun e w' => e = .returned (.int .i64 (loadV (caseB n zs os vs ko kv fine) os ko ids)) ∧ Below w.heap.size w w' := by
  have HB0 : Hid (Below w.heap.size w (w.alloc (Obj.cells #[Value.int IntKind.i64 n, Value.slice a zs.length cap, Value.slice ao ko co, Value.slice av kv cv, Value.int IntKind.i64 fine] 35))) := (Below.refl _ _).alloc (Nat.le_refl _) _
  have HA : Hid (IntsAt w a zs) := hA
  have HO : Hid (IntsAt w ao os) := hO
  have HV : Hid (IntsAt w av vs) := hV
  have HI : Hid (IntsAt w bi ids) := hI
  have HLO : Hid _ := hlo
  have HLV : Hid _ := hlv
  clear hA hO hV hI hlo hlv
  obtain ⟨r, HR⟩ : ∃ r, Hid (loadV (caseB n zs os vs ko kv fine) os ko ids = r) := ⟨_, rfl⟩
  rw [HR.out]
  go_enter Try.func9, Try.ntmps9
  go_wp2_with fail
  refine (implCase_any n fine a ao av cap ko co kv cv zs os vs _ (HA.out.below HB0.out) (HO.out.below HB0.out) (HV.out.below HB0.out) HLO.out HLV.out hko hkv).mono ?_
  rintro e w1 ⟨rfl, hb⟩
  obtain ⟨b1, p1⟩ := box5 hb
  have B1 : Hid (Below w.heap.size w w1) := b1
  have P1 : Hid _ := p1
  clear hb b1 p1 HB0
  cases hc : caseB n zs os vs ko kv fine
  · have HV1 : Hid (r = -1) := HR.out.symm.trans (loadV_no (by rw [hc]; simp))
    go_wp2
    go_ret
    exact ⟨ret_int HV1.out.symm, B1.out⟩
  · by_cases h12 : ids.length ≤ 12
    · have HOB : Hid (ordsB n os ko = true) := caseB_ords hc
      have HC : Hid (caseB n zs os vs ko kv fine = true) := hc
      clear hc
      go_wp2_with fail
      go_loopw [5, 20] (fun sm t wr => ∃ k : Nat, k ≤ ids.length ∧ t = .int .i64 k ∧ sm = .int .i64 (loadTo os ko ids k) ∧ thereTo os ko ids k ∧ Below w.heap.size w wr ∧ wr.heap[w.heap.size]? = some (.cells #[Value.int IntKind.i64 n, Value.slice a zs.length cap, Value.slice ao ko co, Value.slice av kv cv, Value.int IntKind.i64 fine] 35 (0, 0))) (fun _ t _ => ids.length - (intOf t).toNat)
      case atStart => exact ⟨0, Nat.zero_le _, rfl, rfl, fun j hj => by omega, B1.out, P1.out⟩
      case round =>
        clear B1 P1
        obtain ⟨k, hk, rfl, rfl, hth, hb, hp⟩ := hrel
        have hbd := loadTo_bd HOB.out ids k
        have HT : Hid (thereTo os ko ids k) := hth
        have HB : Hid (Below w.heap.size w wr) := hb
        have HP : Hid _ := hp
        obtain ⟨c0, c1, c2', c3, c4⟩ := cells5 hp
        obtain ⟨s0, HS0⟩ : ∃ s, Hid (loadTo os ko ids k = s) := ⟨_, rfl⟩
        rw [HS0.out] at hbd ⊢
        clear hth hb hp
        by_cases hlt : k < ids.length
        · obtain ⟨b, off, rfl, hcs⟩ := IntsAt.some (IntsAt.below HI.out HB.out) hlt
          have ct := hcs k hlt
          clear hcs
          obtain ⟨id, HID⟩ : ∃ i, Hid (ids.getD k 0 = i) := ⟨_, rfl⟩
          rw [HID.out] at ct
          have hl2 := fnd6F_load HOB.out id
          have hlw := row_lt HP.out
          obtain ⟨o0, H0⟩ : ∃ t, Hid (fnd6F os ko id 0 = t) := ⟨_, rfl⟩
          obtain ⟨o1, H1⟩ : ∃ t, Hid (fnd6F os ko id 1 = t) := ⟨_, rfl⟩
          obtain ⟨o2, H2⟩ : ∃ t, Hid (fnd6F os ko id 2 = t) := ⟨_, rfl⟩
          obtain ⟨o3, H3⟩ : ∃ t, Hid (fnd6F os ko id 3 = t) := ⟨_, rfl⟩
          obtain ⟨o4, H4⟩ : ∃ t, Hid (fnd6F os ko id 4 = t) := ⟨_, rfl⟩
          obtain ⟨o5, H5⟩ : ∃ t, Hid (fnd6F os ko id 5 = t) := ⟨_, rfl⟩
          rw [H2.out] at hl2
          have HL1 : Hid (loadTo os ko ids (k + 1) = s0 + o2) := by
            show _ = _
            unfold loadTo
            rw [HS0.out, HID.out, H2.out]
          cases ht : fnd6T os ko id
          · have HV1 : Hid (r = -1) := HR.out.symm.trans (loadV_no (by
              rintro ⟨_, _, h3⟩
              have := h3 k hlt
              rw [HID.out, ht] at this
              cases this))
            have HTT : Hid _ := ht
            clear ht
            go_wp2_with (
              go_at_call 25
              refine (findOrder_any n fine id a ao av _ cap ko co kv cv os _ (HO.out.below HB.out) HLO.out hko).mono ?_
              rintro e w2 ⟨rfl, hb2⟩
              rw [H0.out, H1.out, H2.out, H3.out, H4.out, H5.out, HTT.out]
              have HB2 : Hid _ := hb2
              clear hb2)
            all_goals
              go_wp2
              go_ret
              exact ⟨ret_int HV1.out.symm, (HB.out.trans (HB2.out.mono HB.out.size)).alloc (Nat.le_trans HB.out.size HB2.out.size) _⟩
          · have HT1 : Hid (thereTo os ko ids (k + 1)) := by
              intro j hj
              by_cases e : j = k
              · rw [e, HID.out]; exact ht
              · exact HT.out j (by omega)
            have HTT : Hid _ := ht
            clear ht
            go_wp2_with (
              go_at_call 25
              refine (findOrder_any n fine id a ao av _ cap ko co kv cv os _ (HO.out.below HB.out) HLO.out hko).mono ?_
              rintro e w2 ⟨rfl, hb2⟩
              rw [H0.out, H1.out, H2.out, H3.out, H4.out, H5.out, HTT.out]
              have HB2 : Hid _ := hb2
              clear hb2)
            all_goals
              go_wp2
              refine ⟨⟨k + 1, by omega, by go_num, by rw [HL1.out], HT1.out, (HB.out.trans (HB2.out.mono HB.out.size)).alloc (Nat.le_trans HB.out.size HB2.out.size) _, (heap_alloc_old _ _ (row_lt (below_row HB2.out (row_lt HP.out) HP.out))).trans (below_row HB2.out (row_lt HP.out) HP.out)⟩, by simp [intOf]; omega⟩
        · have hkl : k = ids.length := by omega
          have HV1 : Hid (r = s0) := by
            have := loadV_yes HC.out h12 (hkl ▸ HT.out)
            rw [HR.out, ← hkl, HS0.out] at this
            exact this
          clear hkl
          go_wp2
          go_ret
          exact ⟨ret_int HV1.out.symm, HB.out⟩
    · have HV1 : Hid (r = -1) := HR.out.symm.trans (loadV_no (fun h => h12 h.2.1))
      go_wp2
      go_ret
      exact ⟨ret_int HV1.out.symm, B1.out⟩

end Go.Proofs.Ytdnfgeojagagnaj
