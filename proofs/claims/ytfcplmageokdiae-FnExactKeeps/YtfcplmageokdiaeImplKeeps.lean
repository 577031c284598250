import Derived.Test.YtfcplmageokdiaeTourKeeps
import Derived.Test.YtfcplmageokdiaeImplCase
namespace Go.Proofs.Ytfcplmageokdiae
open Go.RowKit

set_option maxHeartbeats 1000000 in
theorem implKeeps_any (n fine veh : Int) (a ao av bi : Option Addr) (cap ko co kv cv c2 : Nat) (bs : Option Addr) (cs : Nat) (zs os vs ids starts : List Int) (w : World) (hA : IntsAt w a zs) (hO : IntsAt w ao os) (hV : IntsAt w av vs) (hI : IntsAt w bi ids) (hlo : os.length = ko * 6) (hlv : vs.length = kv * 5) (hko : ko ≤ 9223372036854775807) (hkv : kv ≤ 9223372036854775807) (hli : ids.length ≤ 9223372036854775807) (hc2 : ids.length ≤ c2) (hS : IntsAt w bs starts) :
    Calls Try.prog 33 #[.agg #[.int .i64 n, .slice a zs.length cap, .slice ao ko co, .slice av kv cv, .int .i64 fine], .agg #[.int .i64 veh, .slice bi ids.length c2], .slice bs starts.length cs] w fun e w' => e = .returned (.bool (keepsV (caseB n zs os vs ko kv fine) n zs os vs ko kv veh ids starts)) ∧ Below w.heap.size w w' := by
  have HA : Hid (IntsAt w a zs) := hA
  have HO : Hid (IntsAt w ao os) := hO
  have HV : Hid (IntsAt w av vs) := hV
  have HI : Hid (IntsAt w bi ids) := hI
  have HLO : Hid _ := hlo
  have HLV : Hid _ := hlv
  clear hA hO hV hI hlo hlv
  have HS : Hid (IntsAt w bs starts) := hS
  clear hS
  have HC0 : Hid (CR w ((w.alloc (.cells #[Value.int IntKind.i64 n, Value.slice a zs.length cap, Value.slice ao ko co, Value.slice av kv cv, Value.int IntKind.i64 fine] 40)).alloc (.cells #[Value.int IntKind.i64 veh, Value.slice bi ids.length c2] 42)) _ _) := CR.new w _ _
  obtain ⟨r, HR⟩ : ∃ r, Hid (keepsV (caseB n zs os vs ko kv fine) n zs os vs ko kv veh ids starts = r) := ⟨_, rfl⟩
  rw [HR.out]
  go_enter Try.func33, Try.ntmps33
  go_wp2_with fail
  refine (implCase_any n fine a ao av cap ko co kv cv zs os vs _ (HA.out.below HC0.out.1) (HO.out.below HC0.out.1) (HV.out.below HC0.out.1) HLO.out HLV.out hko hkv).mono ?_
  rintro e w1 ⟨rfl, hb⟩
  have C1 : Hid (CR w w1 _ _) := HC0.out.below hb
  clear hb HC0
  cases hc : caseB n zs os vs ko kv fine
  · have HV1 : Hid (r = false) := HR.out.symm.trans (keepsV_no (by rw [formV_1 hc]; omega))
    go_wp2
    go_ret
    exact ⟨ret_bool HV1.out.symm, C1.out.1⟩
  · have HC : Hid (caseB n zs os vs ko kv fine = true) := hc
    clear hc
    obtain ⟨c0, c1, c2', c3, c4⟩ := cells5 C1.out.2.1
    obtain ⟨d0, d1⟩ := cells2 C1.out.2.2
    go_wp2_with fail
    clear c0 c1 c2' c3 c4 d0 d1
    refine (loadedTour_any n fine veh a ao av bi cap ko co kv cv c2 zs os vs ids w1 (HA.out.below C1.out.1) (HO.out.below C1.out.1) (HV.out.below C1.out.1) (HI.out.below C1.out.1) HLO.out HLV.out hko hkv hli hc2 HC.out).mono ?_
    rintro e w2 ⟨hb, ⟨hf, rfl⟩ | ⟨hf, g, rfl, hros⟩⟩
    · have HB2 : Hid (Below w.heap.size w w2) := C1.out.1.trans (hb.mono C1.out.1.size)
      have HV1 : Hid (r = false) := HR.out.symm.trans (keepsV_no (by rw [HC.out]; exact fun x => hf x.1))
      obtain ⟨fv, HFV⟩ : ∃ t, Hid (formV true vs os kv ko veh ids = t) := ⟨_, rfl⟩
      rw [HFV.out] at hf ⊢
      have hfb : (fv == 0) = false := by simp [hf]
      clear hb hf
      go_wp2
      go_ret
      exact ⟨ret_bool HV1.out.symm, HB2.out.alloc HB2.out.size _⟩
    · have HROS : Hid (IntsAt w2 (some ⟨g, 0, none⟩) (rosOf os ko ids)) := hros
      have HFV : Hid (formV true vs os kv ko veh ids = 0) := hf
      have HB2 : Hid (Below w.heap.size w w2) := C1.out.1.trans (hb.mono C1.out.1.size)
      obtain ⟨hmat, hords, hvehs, hn1, _⟩ := caseB_parts HC.out
      obtain ⟨hvb1, hvb2, hvb3, hvb4⟩ := fnd5F_bd hvehs hn1 veh
      have HMAT : Hid (matB n zs = true) := hmat
      have HBD : Hid (RosBd n (rosOf os ko ids) ids.length) := rosBd_of hords hn1 ids
      have h12 := (stopsB_true (formV_zero hf).2.2).1
      clear hb hf hros hmat hords hvehs hn1 hvb2 hvb4
      by_cases hsl : starts.length = ids.length
      · have HV1 : Hid (keptB n zs (rosOf os ko ids) ids.length starts (fnd5F vs kv veh 1) (fnd5F vs kv veh 3) (fnd5F vs kv veh 4) = r) := by
          have := HR.out
          rw [HC.out, keepsV_yes HFV.out hsl] at this
          exact this
        obtain ⟨v0, G0⟩ : ∃ t, Hid (fnd5F vs kv veh 0 = t) := ⟨_, rfl⟩
        obtain ⟨v1, G1⟩ : ∃ t, Hid (fnd5F vs kv veh 1 = t) := ⟨_, rfl⟩
        obtain ⟨v2, G2⟩ : ∃ t, Hid (fnd5F vs kv veh 2 = t) := ⟨_, rfl⟩
        obtain ⟨v3, G3⟩ : ∃ t, Hid (fnd5F vs kv veh 3 = t) := ⟨_, rfl⟩
        obtain ⟨v4, G4⟩ : ∃ t, Hid (fnd5F vs kv veh 4 = t) := ⟨_, rfl⟩
        rw [G1.out, G3.out, G4.out] at HV1
        rw [G1.out] at hvb1
        rw [G3.out] at hvb3
        rw [G0.out, G1.out, G2.out, G3.out, G4.out]
        have HX1 : Hid (0 ≤ v1 ∧ v1 < n) := hvb1
        have HX3 : Hid (0 ≤ v3 ∧ v3 ≤ 1000000) := hvb3
        have HSL : Hid (starts.length = ids.length) := hsl
        have hslI : (starts.length : Int) = (ids.length : Int) := by omega
        have heb : ((starts.length : Int) == (ids.length : Int)) = true := by simp [hslI]
        have HBA : Hid (Below w.heap.size w (w2.alloc (Obj.cells #[Value.int IntKind.i64 n, Value.slice a zs.length cap, Value.int IntKind.i64 v0, Value.int IntKind.i64 v1, Value.int IntKind.i64 v2, Value.int IntKind.i64 v3, Value.int IntKind.i64 v4, Value.slice (some ⟨g, 0, none⟩) ids.length ids.length] 88))) := HB2.out.alloc HB2.out.size _
        have HRT : Hid ((w2.alloc (Obj.cells #[Value.int IntKind.i64 n, Value.slice a zs.length cap, Value.int IntKind.i64 v0, Value.int IntKind.i64 v1, Value.int IntKind.i64 v2, Value.int IntKind.i64 v3, Value.int IntKind.i64 v4, Value.slice (some ⟨g, 0, none⟩) ids.length ids.length] 88)).heap[w2.heap.size]? = _) := heap_alloc_new _ _
        have HRA : Hid (IntsAt (w2.alloc (Obj.cells #[Value.int IntKind.i64 n, Value.slice a zs.length cap, Value.int IntKind.i64 v0, Value.int IntKind.i64 v1, Value.int IntKind.i64 v2, Value.int IntKind.i64 v3, Value.int IntKind.i64 v4, Value.slice (some ⟨g, 0, none⟩) ids.length ids.length] 88)) (some ⟨g, 0, none⟩) (rosOf os ko ids)) := HROS.out.below ((Below.refl _ _).alloc (Nat.le_refl _) _)
        clear hvb1 hvb3 hslI hsl
        obtain ⟨t0, t1, t2, t3, t4, t5, t6, t7⟩ := cells8 HRT.out
        go_wp2_with (first | (go_at_call 68; refine (tourKeeps_any n v0 v1 v2 v3 v4 a _ cap ids.length _ zs (rosOf os ko ids) bs cs starts _ HMAT.out (HA.out.below HBA.out) HRA.out (rosOf_length os ko ids) HBD.out HX1.out HX3.out h12 (HS.out.below HBA.out) HSL.out).mono ?_; rintro e w3 ⟨rfl, hb3⟩; rw [HV1.out]; have HB3 : Hid (Below w.heap.size w w3) := HBA.out.trans (hb3.mono HBA.out.size); clear hb3))
        go_ret
        exact ⟨rfl, HB3.out⟩
      · have HV1 : Hid (r = false) := HR.out.symm.trans (keepsV_no (fun x => hsl x.2))
        have hslI : ¬ ((starts.length : Int) = (ids.length : Int)) := by omega
        have heb : ((starts.length : Int) == (ids.length : Int)) = false := by simp [hslI]
        obtain ⟨v0, G0⟩ : ∃ t, Hid (fnd5F vs kv veh 0 = t) := ⟨_, rfl⟩
        obtain ⟨v1, G1⟩ : ∃ t, Hid (fnd5F vs kv veh 1 = t) := ⟨_, rfl⟩
        obtain ⟨v2, G2⟩ : ∃ t, Hid (fnd5F vs kv veh 2 = t) := ⟨_, rfl⟩
        obtain ⟨v3, G3⟩ : ∃ t, Hid (fnd5F vs kv veh 3 = t) := ⟨_, rfl⟩
        obtain ⟨v4, G4⟩ : ∃ t, Hid (fnd5F vs kv veh 4 = t) := ⟨_, rfl⟩
        rw [G0.out, G1.out, G2.out, G3.out, G4.out]
        have HRT : Hid ((w2.alloc (Obj.cells #[Value.int IntKind.i64 n, Value.slice a zs.length cap, Value.int IntKind.i64 v0, Value.int IntKind.i64 v1, Value.int IntKind.i64 v2, Value.int IntKind.i64 v3, Value.int IntKind.i64 v4, Value.slice (some ⟨g, 0, none⟩) ids.length ids.length] 88)).heap[w2.heap.size]? = _) := heap_alloc_new _ _
        obtain ⟨t0, t1, t2, t3, t4, t5, t6, t7⟩ := cells8 HRT.out
        clear hsl hslI hvb1 hvb3
        go_wp2
        go_ret
        exact ⟨ret_bool HV1.out.symm, HB2.out.alloc HB2.out.size _⟩

end Go.Proofs.Ytfcplmageokdiae
