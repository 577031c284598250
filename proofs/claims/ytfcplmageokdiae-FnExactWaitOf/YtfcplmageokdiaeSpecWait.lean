import Derived.Test.YtfcplmageokdiaeSpecSched
namespace Go.Proofs.Ytfcplmageokdiae
open Go.RowKit

theorem waitTo_bd {n : Int} {zs ros : List Int} {home frm : Int} {m : Nat} (h : ∀ k, k < m → 0 ≤ arrV n zs ros home frm k ∧ arrV n zs ros home frm k ≤ 2000000 ∧ arrV n zs ros home frm k ≤ startV n zs ros home frm k ∧ startV n zs ros home frm k ≤ 2000000) : ∀ k, k ≤ m → 0 ≤ waitTo n zs ros home frm k ∧ waitTo n zs ros home frm k ≤ 2000000 * k
  | 0, _ => by simp [waitTo]
  | k + 1, hk => by
    have ih := waitTo_bd h k (by omega)
    have hx := h k (by omega)
    simp only [waitTo]
    omega

set_option maxHeartbeats 1000000 in
theorem specWait_any (n fine veh : Int) (a ao av bi : Option Addr) (cap ko co kv cv c2 : Nat) (zs os vs ids : List Int) (w : World) (hA : IntsAt w a zs) (hO : IntsAt w ao os) (hV : IntsAt w av vs) (hI : IntsAt w bi ids) (hlo : os.length = ko * 6) (hlv : vs.length = kv * 5) (hko : ko ≤ 9223372036854775807) (hkv : kv ≤ 9223372036854775807) (hli : ids.length ≤ 9223372036854775807) (hc2 : ids.length ≤ c2) :
    Calls Try.prog 29 #[.agg #[.int .i64 n, .slice a zs.length cap, .slice ao ko co, .slice av kv cv, .int .i64 fine], .agg #[.int .i64 veh, .slice bi ids.length c2]] w fun e w' => e = .returned (.int .i64 (waitV (caseB n zs os vs ko kv fine) n zs os vs ko kv veh ids)) ∧ Below w.heap.size w w' := by
  have HA : Hid (IntsAt w a zs) := hA
  have HO : Hid (IntsAt w ao os) := hO
  have HV : Hid (IntsAt w av vs) := hV
  have HI : Hid (IntsAt w bi ids) := hI
  have HLO : Hid _ := hlo
  have HLV : Hid _ := hlv
  clear hA hO hV hI hlo hlv
  have HC0 : Hid (CR w ((w.alloc (.cells #[Value.int IntKind.i64 n, Value.slice a zs.length cap, Value.slice ao ko co, Value.slice av kv cv, Value.int IntKind.i64 fine] 40)).alloc (.cells #[Value.int IntKind.i64 veh, Value.slice bi ids.length c2] 42)) _ _) := CR.new w _ _
  obtain ⟨r, HR⟩ : ∃ r, Hid (waitV (caseB n zs os vs ko kv fine) n zs os vs ko kv veh ids = r) := ⟨_, rfl⟩
  rw [HR.out]
  go_enter Try.func29, Try.ntmps29
  obtain ⟨c0, c1, c2', c3, c4⟩ := cells5 HC0.out.2.1
  obtain ⟨d0, d1⟩ := cells2 HC0.out.2.2
  go_wp2_with fail
  clear c0 c1 c2' c3 c4 d0 d1
  refine (specSchedule_any n fine veh a ao av bi cap ko co kv cv c2 zs os vs ids _ (HA.out.below HC0.out.1) (HO.out.below HC0.out.1) (HV.out.below HC0.out.1) (HI.out.below HC0.out.1) HLO.out HLV.out hko hkv hli hc2).mono ?_
  rintro e w2 ⟨hb, ⟨hf, rfl⟩ | ⟨hf, g, c, _, rfl, hvis⟩⟩
  · have HB2 : Hid (Below w.heap.size w w2) := HC0.out.1.trans (hb.mono HC0.out.1.size)
    have HV1 : Hid (r = -1) := HR.out.symm.trans (waitV_no hf)
    obtain ⟨fv, HFV⟩ : ∃ t, Hid (codeV (caseB n zs os vs ko kv fine) n zs os vs ko kv veh ids = t) := ⟨_, rfl⟩
    rw [HFV.out] at hf ⊢
    have hfb : (fv != 0) = true := by simp [hf]
    clear hb hf HC0
    go_wp2
    go_ret
    exact ⟨ret_int HV1.out.symm, HB2.out⟩
  · have HB2 : Hid (Below w.heap.size w w2) := HC0.out.1.trans (hb.mono HC0.out.1.size)
    obtain ⟨hcb, _, hst⟩ := formV_zero (codeV_zero hf).1
    obtain ⟨hmat, hords, hvehs, hn1, _⟩ := caseB_parts hcb
    have hvb := fnd5F_bd hvehs hn1 veh
    have h12 := (stopsB_true hst).1
    have HWB : Hid (∀ k, k < ids.length → _) := fun k hk => arrV_bd (home := fnd5F vs kv veh 1) hmat (rosBd_of hords hn1 ids) hvb.2.2.1 h12 hk
    have HV1 : Hid (waitTo n zs (rosOf os ko ids) (fnd5F vs kv veh 1) (fnd5F vs kv veh 3) ids.length = r) := (waitV_yes hf).symm.trans HR.out
    have HVIS : Hid (IntsAt w2 (some ⟨g, 0, none⟩) (visL n zs (rosOf os ko ids) (fnd5F vs kv veh 1) (fnd5F vs kv veh 3) ids.length)) := hvis
    clear hb hf HC0 hvis hcb hst hmat hords hvehs hn1 hvb
    generalize homeV n zs (rosOf os ko ids) ids.length (fnd5F vs kv veh 1) (fnd5F vs kv veh 3) = hm
    generalize fnd5F vs kv veh 1 = v1 at *
    generalize fnd5F vs kv veh 3 = v3 at *
    go_wp2_with fail
    go_loopw [8, 9] (fun sm t wr => ∃ k : Nat, k ≤ ids.length ∧ t = .int .i64 k ∧ sm = .int .i64 (waitTo n zs (rosOf os ko ids) v1 v3 k) ∧ Below w.heap.size w wr ∧ IntsAt wr (some ⟨g, 0, none⟩) (visL n zs (rosOf os ko ids) v1 v3 ids.length)) (fun _ t _ => ids.length - (intOf t).toNat)
    case atStart => exact ⟨0, Nat.zero_le _, rfl, rfl, HB2.out, HVIS.out⟩
    case round =>
      clear HB2 HVIS
      obtain ⟨k, hk, rfl, rfl, hb, hvis⟩ := hrel
      have hwb := waitTo_bd HWB.out k hk
      have HB : Hid (Below w.heap.size w wr) := hb
      have HVIS : Hid (IntsAt wr (some ⟨g, 0, none⟩) (visL n zs (rosOf os ko ids) v1 v3 ids.length)) := hvis
      obtain ⟨f, HFR⟩ : ∃ t, Hid (waitTo n zs (rosOf os ko ids) v1 v3 k = t) := ⟨_, rfl⟩
      rw [HFR.out] at hwb
      rw [HFR.out]
      clear hb hvis
      by_cases hlt : k < ids.length
      · have hxb := HWB.out k hlt
        have j1 := ints_cell HVIS.out (j := k * 4 + 1) (by rw [visL_length]; omega) (visL_at n zs (rosOf os ko ids) v1 v3 hlt (by omega))
        have j2 := ints_cell HVIS.out (j := k * 4 + 2) (by rw [visL_length]; omega) (visL_at n zs (rosOf os ko ids) v1 v3 hlt (by omega))
        simp only [visF, Nat.zero_add] at j1 j2
        simp only [if_false, if_true, Nat.reduceEqDiff] at j1 j2
        obtain ⟨xa, HXA⟩ : ∃ t, Hid (arrV n zs (rosOf os ko ids) v1 v3 k = t) := ⟨_, rfl⟩
        obtain ⟨xs, HXS⟩ : ∃ t, Hid (startV n zs (rosOf os ko ids) v1 v3 k = t) := ⟨_, rfl⟩
        rw [HXA.out, HXS.out] at hxb
        rw [HXA.out] at j1
        rw [HXS.out] at j2
        have HNX : Hid (waitTo n zs (rosOf os ko ids) v1 v3 (k + 1) = f + xs - xa) := by
          show _ = _
          simp only [waitTo]
          rw [HFR.out, HXA.out, HXS.out]
          omega
        go_wp2_with fail
        have e1 := fun s : Kin wr => s.cell j1
        have e2 := fun s : Kin wr => s.cell j2
        have hkin := Kin.there wr
        refine wp_region_kin (by kernel_rfl) (by kernel_rfl) ?_
        repeat (go_big_quiet_step ((fail)))
        refine wpQuiet_nil ?_
        rintro _ ⟨s, rfl⟩
        have HB3 : Hid (Below w.heap.size w s.w) := HB.out.trans (s.below.mono HB.out.size)
        have HV3 : Hid (IntsAt s.w (some ⟨g, 0, none⟩) (visL n zs (rosOf os ko ids) v1 v3 ids.length)) := HVIS.out.below s.below
        clear e1 e2 hkin j1 j2
        generalize s.w = W3 at *
        go_wp2
        go_roundw
        case rel => exact ⟨k + 1, by omega, by go_num, by rw [HNX.out], HB3.out, HV3.out⟩
        case measure => simp [intOf]; omega
      · have hkl : k = ids.length := by omega
        have HE : Hid (r = f) := by
          have := HV1.out
          rw [← hkl, HFR.out] at this
          exact this.symm
        clear hkl
        go_wp2
        go_ret
        exact ⟨ret_int HE.out.symm, HB.out⟩

end Go.Proofs.Ytfcplmageokdiae
