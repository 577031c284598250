import Derived.Test.YtmohcdnhbhigdaaPack0
import Derived.Test.YtmohcdnhbhigdaaPack8
import Derived.Test.YtmohcdnhbhigdaaPack9
namespace Go.Proofs.Ytmohcdnhbhigdaa
open Go.RowKit

set_option maxHeartbeats 1000000 in
theorem tourOf_any (n fine veh : Int) (a ao av bi : Option Addr) (cap ko co kv cv c2 : Nat) (zs os vs ids : List Int) (w : World) (hA : IntsAt w a zs) (hO : IntsAt w ao os) (hV : IntsAt w av vs) (hI : IntsAt w bi ids) (hlo : os.length = ko * 6) (hlv : vs.length = kv * 5) (hko : ko ≤ 9223372036854775807) (hkv : kv ≤ 9223372036854775807) (hli : ids.length ≤ 9223372036854775807) (hc2 : ids.length ≤ c2) (hcB : caseB n zs os vs ko kv fine = true) :
    Calls Try.prog 87 #[.agg #[.int .i64 n, .slice a zs.length cap, .slice ao ko co, .slice av kv cv, .int .i64 fine], .agg #[.int .i64 veh, .slice bi ids.length c2]] w fun e w' => Below w.heap.size w w' ∧ ((codeV true n zs os vs ko kv veh ids ≠ 0 ∧ e = .returned (.tuple #[.agg #[Value.int IntKind.i64 0, Value.slice none 0 0, Value.int IntKind.i64 0, Value.int IntKind.i64 0, Value.int IntKind.i64 0, Value.int IntKind.i64 0, Value.int IntKind.i64 0, Value.slice none 0 0], .int .i64 (codeV true n zs os vs ko kv veh ids)])) ∨ (codeV true n zs os vs ko kv veh ids = 0 ∧ ∃ g, w.heap.size ≤ g ∧ e = .returned (.tuple #[.agg #[.int .i64 n, .slice a zs.length cap, .int .i64 (fnd5F vs kv veh 0), .int .i64 (fnd5F vs kv veh 1), .int .i64 (fnd5F vs kv veh 2), .int .i64 (fnd5F vs kv veh 3), .int .i64 (fnd5F vs kv veh 4), .slice (some ⟨g, 0, none⟩) ids.length ids.length], .int .i64 0]) ∧ IntsAt w' (some ⟨g, 0, none⟩) (rosOf os ko ids))) := by
  have HA : Hid (IntsAt w a zs) := hA
  have HO : Hid (IntsAt w ao os) := hO
  have HV : Hid (IntsAt w av vs) := hV
  have HI : Hid (IntsAt w bi ids) := hI
  have HLO : Hid _ := hlo
  have HLV : Hid _ := hlv
  clear hA hO hV hI hlo hlv
  have HC : Hid (caseB n zs os vs ko kv fine = true) := hcB
  clear hcB
  have HC0 : Hid (CRT w (((w.alloc (.cells #[Value.int IntKind.i64 n, Value.slice a zs.length cap, Value.slice ao ko co, Value.slice av kv cv, Value.int IntKind.i64 fine] 30)).alloc (.cells #[Value.int IntKind.i64 veh, Value.slice bi ids.length c2] 32)).alloc (.cells #[Value.int IntKind.i64 0, Value.slice none 0 0, Value.int IntKind.i64 0, Value.int IntKind.i64 0, Value.int IntKind.i64 0, Value.int IntKind.i64 0, Value.int IntKind.i64 0, Value.slice none 0 0] 81)) _ _ _) := CRT.new w _ _ _
  obtain ⟨r, HR⟩ : ∃ r, Hid (codeV true n zs os vs ko kv veh ids = r) := ⟨_, rfl⟩
  rw [HR.out]
  go_enter Try.func87, Try.ntmps87
  obtain ⟨c0, c1, c2', c3, c4⟩ := cells5 HC0.out.1.2.1
  obtain ⟨d0, d1⟩ := cells2 HC0.out.1.2.2
  go_wp2_with fail
  clear c0 c1 c2' c3 c4 d0 d1
  refine (loadedTour_any n fine veh a ao av bi cap ko co kv cv c2 zs os vs ids _ (HA.out.below HC0.out.1.1) (HO.out.below HC0.out.1.1) (HV.out.below HC0.out.1.1) (HI.out.below HC0.out.1.1) HLO.out HLV.out hko hkv hli hc2 HC.out).mono ?_
  rintro e w2 ⟨hb, ⟨hf, rfl⟩ | ⟨hf, g, hgg, rfl, hros⟩⟩
  · have C2 : Hid (CRT w (w2.alloc (Obj.cells #[Value.int IntKind.i64 0, Value.slice none 0 0, Value.int IntKind.i64 0, Value.int IntKind.i64 0, Value.int IntKind.i64 0, Value.int IntKind.i64 0, Value.int IntKind.i64 0, Value.slice none 0 0] 81)) _ _ _) := (HC0.out.below hb).alloc _
    have HRV : Hid (formV true vs os kv ko veh ids = r) := (codeV_form hf).symm.trans HR.out
    rw [HRV.out] at hf ⊢
    have hfb : (r == 0) = false := by simp [hf]
    have hfn : (r != 0) = true := by simp [hf]
    have HF : Hid (r ≠ 0) := hf
    clear hb hf HC0
    obtain ⟨t0, t1, t2, t3, t4, t5, t6, t7⟩ := cells8 C2.out.2
    have tf := fun i => frozen_of_row _ _ i _ _ C2.out.2
    go_wp2
    refine bodyPost_ret (v := .tuple #[.agg #[Value.int IntKind.i64 0, Value.slice none 0 0, Value.int IntKind.i64 0, Value.int IntKind.i64 0, Value.int IntKind.i64 0, Value.int IntKind.i64 0, Value.int IntKind.i64 0, Value.slice none 0 0], .int .i64 r]) (by simp [results, Try.results87, go_sem, t0, t1, t2, t3, t4, t5, t6, t7]) rfl ⟨?_, .inl ⟨HF.out, rfl⟩⟩
    repeat (first | with_reducible exact C2.out.b | refine Below.setCell ?_ (by simp <;> omega) _)
  · have HFV : Hid (formV true vs os kv ko veh ids = 0) := hf
    obtain ⟨hmat, hords, hvehs, hn1, _⟩ := caseB_parts HC.out
    obtain ⟨hvb1, hvb2, hvb3, hvb4⟩ := fnd5F_bd hvehs hn1 veh
    have HMAT : Hid (matB n zs = true) := hmat
    have HBD : Hid (RosBd n (rosOf os ko ids) ids.length) := rosBd_of hords hn1 ids
    have h12 := (stopsB_true (formV_zero hf).2.2).1
    have HRV := (codeV_hours (n := n) (zs := zs) hf).symm.trans HR.out
    obtain ⟨v0, G0⟩ : ∃ t, Hid (fnd5F vs kv veh 0 = t) := ⟨_, rfl⟩
    obtain ⟨v1, G1⟩ : ∃ t, Hid (fnd5F vs kv veh 1 = t) := ⟨_, rfl⟩
    obtain ⟨v2, G2⟩ : ∃ t, Hid (fnd5F vs kv veh 2 = t) := ⟨_, rfl⟩
    obtain ⟨v3, G3⟩ : ∃ t, Hid (fnd5F vs kv veh 3 = t) := ⟨_, rfl⟩
    obtain ⟨v4, G4⟩ : ∃ t, Hid (fnd5F vs kv veh 4 = t) := ⟨_, rfl⟩
    rw [G1.out, G3.out, G4.out] at HRV
    rw [G1.out] at hvb1
    rw [G3.out] at hvb3
    rw [G0.out, G1.out, G2.out, G3.out, G4.out]
    have HRV' : Hid (hoursV n zs (rosOf os ko ids) ids.length v1 v3 v4 = r) := HRV
    have HX1 : Hid (0 ≤ v1 ∧ v1 < n) := hvb1
    have HX3 : Hid (0 ≤ v3 ∧ v3 ≤ 1000000) := hvb3
    have C2 : Hid (CRT w (w2.alloc (Obj.cells #[Value.int IntKind.i64 n, Value.slice a zs.length cap, Value.int IntKind.i64 v0, Value.int IntKind.i64 v1, Value.int IntKind.i64 v2, Value.int IntKind.i64 v3, Value.int IntKind.i64 v4, Value.slice (some ⟨g, 0, none⟩) ids.length ids.length] 81)) _ _ _) := (HC0.out.below hb).alloc _
    have HRT : Hid ((w2.alloc (Obj.cells #[Value.int IntKind.i64 n, Value.slice a zs.length cap, Value.int IntKind.i64 v0, Value.int IntKind.i64 v1, Value.int IntKind.i64 v2, Value.int IntKind.i64 v3, Value.int IntKind.i64 v4, Value.slice (some ⟨g, 0, none⟩) ids.length ids.length] 81)).heap[w2.heap.size]? = _) := heap_alloc_new _ _
    have HROS : Hid (IntsAt (w2.alloc (Obj.cells #[Value.int IntKind.i64 n, Value.slice a zs.length cap, Value.int IntKind.i64 v0, Value.int IntKind.i64 v1, Value.int IntKind.i64 v2, Value.int IntKind.i64 v3, Value.int IntKind.i64 v4, Value.slice (some ⟨g, 0, none⟩) ids.length ids.length] 81)) (some ⟨g, 0, none⟩) (rosOf os ko ids)) := IntsAt.below hros ((Below.refl _ _).alloc (Nat.le_refl _) _)
    have HGT : Hid (w.heap.size + 2 < w2.heap.size) := row_lt (HC0.out.below hb).2
    have HGG : Hid (w.heap.size + 2 < g) := Nat.lt_of_lt_of_le (row_lt HC0.out.2) hgg
    clear hb hf hros HC0 hgg hmat hords hvehs hn1 hvb1 hvb2 hvb3 hvb4 HRV
    obtain ⟨t0, t1, t2, t3, t4, t5, t6, t7⟩ := cells8 HRT.out
    go_wp2_with fail
    clear t0 t1 t2 t3 t4 t5 t6 t7
    generalize w2.alloc (Obj.cells #[Value.int IntKind.i64 n, Value.slice a zs.length cap, Value.int IntKind.i64 v0, Value.int IntKind.i64 v1, Value.int IntKind.i64 v2, Value.int IntKind.i64 v3, Value.int IntKind.i64 v4, Value.slice (some ⟨g, 0, none⟩) ids.length ids.length] 81) = W2 at *
    generalize w2.heap.size = gt at *
    refine (hoursCode_any n v0 v1 v2 v3 v4 a _ cap ids.length _ zs (rosOf os ko ids) W2 HMAT.out (HA.out.below C2.out.1.1) HROS.out (rosOf_length os ko ids) HBD.out HX1.out HX3.out h12).mono ?_
    rintro e w3 ⟨rfl, hb⟩
    rw [HRV'.out]
    have C3 : Hid (CRT w w3 _ _ _) := C2.out.below hb
    have HRT3 : Hid (w3.heap[gt]? = _) := below_row hb (row_lt HRT.out) HRT.out
    have HROS3 : Hid (IntsAt w3 (some ⟨g, 0, none⟩) (rosOf os ko ids)) := HROS.out.below hb
    clear hb C2 HRT HROS
    obtain ⟨t0, t1, t2, t3, t4, t5, t6, t7⟩ := cells8 C3.out.2
    have tf := fun i => frozen_of_row _ _ i _ _ C3.out.2
    by_cases hr : r = 0
    · have hfn : (r != 0) = false := by simp [hr]
      have HF : Hid (r = 0) := hr
      clear hr
      obtain ⟨s0, s1, s2, s3, s4, s5, s6, s7⟩ := cells8 HRT3.out
      go_wp2
      refine bodyPost_ret (v := .tuple #[.agg #[Value.int IntKind.i64 n, Value.slice a zs.length cap, Value.int IntKind.i64 v0, Value.int IntKind.i64 v1, Value.int IntKind.i64 v2, Value.int IntKind.i64 v3, Value.int IntKind.i64 v4, Value.slice (some ⟨g, 0, none⟩) ids.length ids.length], .int .i64 0]) (by simp [results, Try.results87, go_sem, t0, t1, t2, t3, t4, t5, t6, t7]) rfl ⟨?_, .inr ⟨HF.out, g, by have := HGG.out; omega, ?_, ?_⟩⟩
      · repeat (first | with_reducible exact C3.out.b | refine Below.setCell ?_ (by simp <;> omega) _)
      · rw [G0.out, G1.out, G2.out, G3.out, G4.out]
      · repeat (first | with_reducible exact HROS3.out | with_reducible refine ints_set ?_ (by have := HGG.out; omega))
    · have hfn : (r != 0) = true := by simp [hr]
      have HF : Hid (r ≠ 0) := hr
      clear hr
      go_wp2
      refine bodyPost_ret (v := .tuple #[.agg #[Value.int IntKind.i64 0, Value.slice none 0 0, Value.int IntKind.i64 0, Value.int IntKind.i64 0, Value.int IntKind.i64 0, Value.int IntKind.i64 0, Value.int IntKind.i64 0, Value.slice none 0 0], .int .i64 r]) (by simp [results, Try.results87, go_sem, t0, t1, t2, t3, t4, t5, t6, t7]) rfl ⟨?_, .inl ⟨HF.out, rfl⟩⟩
      repeat (first | with_reducible exact C3.out.b | refine Below.setCell ?_ (by simp <;> omega) _)

set_option maxHeartbeats 1000000 in
theorem checkedTour_any (n fine veh : Int) (a ao av bi : Option Addr) (cap ko co kv cv c2 : Nat) (zs os vs ids : List Int) (w : World) (hA : IntsAt w a zs) (hO : IntsAt w ao os) (hV : IntsAt w av vs) (hI : IntsAt w bi ids) (hlo : os.length = ko * 6) (hlv : vs.length = kv * 5) (hko : ko ≤ 9223372036854775807) (hkv : kv ≤ 9223372036854775807) (hli : ids.length ≤ 9223372036854775807) (hc2 : ids.length ≤ c2) :
    Calls Try.prog 49 #[.agg #[.int .i64 n, .slice a zs.length cap, .slice ao ko co, .slice av kv cv, .int .i64 fine], .agg #[.int .i64 veh, .slice bi ids.length c2]] w fun e w' => Below w.heap.size w w' ∧ ((codeV (caseB n zs os vs ko kv fine) n zs os vs ko kv veh ids ≠ 0 ∧ e = .returned (.tuple #[.agg #[Value.int IntKind.i64 0, Value.slice none 0 0, Value.int IntKind.i64 0, Value.int IntKind.i64 0, Value.int IntKind.i64 0, Value.int IntKind.i64 0, Value.int IntKind.i64 0, Value.slice none 0 0], .int .i64 (codeV (caseB n zs os vs ko kv fine) n zs os vs ko kv veh ids)])) ∨ (codeV (caseB n zs os vs ko kv fine) n zs os vs ko kv veh ids = 0 ∧ ∃ g, w.heap.size ≤ g ∧ e = .returned (.tuple #[.agg #[.int .i64 n, .slice a zs.length cap, .int .i64 (fnd5F vs kv veh 0), .int .i64 (fnd5F vs kv veh 1), .int .i64 (fnd5F vs kv veh 2), .int .i64 (fnd5F vs kv veh 3), .int .i64 (fnd5F vs kv veh 4), .slice (some ⟨g, 0, none⟩) ids.length ids.length], .int .i64 0]) ∧ IntsAt w' (some ⟨g, 0, none⟩) (rosOf os ko ids))) := by
  have HA : Hid (IntsAt w a zs) := hA
  have HO : Hid (IntsAt w ao os) := hO
  have HV : Hid (IntsAt w av vs) := hV
  have HI : Hid (IntsAt w bi ids) := hI
  have HLO : Hid _ := hlo
  have HLV : Hid _ := hlv
  clear hA hO hV hI hlo hlv
  have HC0 : Hid (CRT w (((w.alloc (.cells #[Value.int IntKind.i64 n, Value.slice a zs.length cap, Value.slice ao ko co, Value.slice av kv cv, Value.int IntKind.i64 fine] 30)).alloc (.cells #[Value.int IntKind.i64 veh, Value.slice bi ids.length c2] 32)).alloc (.cells #[Value.int IntKind.i64 0, Value.slice none 0 0, Value.int IntKind.i64 0, Value.int IntKind.i64 0, Value.int IntKind.i64 0, Value.int IntKind.i64 0, Value.int IntKind.i64 0, Value.slice none 0 0] 81)) _ _ _) := CRT.new w _ _ _
  obtain ⟨r, HR⟩ : ∃ r, Hid (codeV (caseB n zs os vs ko kv fine) n zs os vs ko kv veh ids = r) := ⟨_, rfl⟩
  rw [HR.out]
  go_enter Try.func49, Try.ntmps49
  obtain ⟨c0, c1, c2', c3, c4⟩ := cells5 HC0.out.1.2.1
  go_wp2_with fail
  clear c0 c1 c2' c3 c4
  refine (implCase_any n fine a ao av cap ko co kv cv zs os vs _ (HA.out.below HC0.out.1.1) (HO.out.below HC0.out.1.1) (HV.out.below HC0.out.1.1) HLO.out HLV.out hko hkv).mono ?_
  rintro e w1 ⟨rfl, hb⟩
  have C1 : Hid (CRT w w1 _ _ _) := HC0.out.below hb
  clear hb HC0
  cases hc : caseB n zs os vs ko kv fine
  · have hfv : formV (caseB n zs os vs ko kv fine) vs os kv ko veh ids = 1 := formV_1 hc
    have HV1 : Hid (r = 1) := HR.out.symm.trans ((codeV_form (by rw [hfv]; decide)).trans hfv)
    clear hfv
    obtain ⟨t0, t1, t2, t3, t4, t5, t6, t7⟩ := cells8 C1.out.2
    have tf := fun i => frozen_of_row _ _ i _ _ C1.out.2
    go_wp2
    refine bodyPost_ret (v := .tuple #[.agg #[Value.int IntKind.i64 0, Value.slice none 0 0, Value.int IntKind.i64 0, Value.int IntKind.i64 0, Value.int IntKind.i64 0, Value.int IntKind.i64 0, Value.int IntKind.i64 0, Value.slice none 0 0], .int .i64 1]) (by simp [results, Try.results49, go_sem, t0, t1, t2, t3, t4, t5, t6, t7]) rfl ⟨?_, .inl ⟨by rw [HV1.out]; decide, by rw [HV1.out]⟩⟩
    repeat (first | with_reducible exact C1.out.b | refine Below.setCell ?_ (by simp <;> omega) _)
  · have HC : Hid (caseB n zs os vs ko kv fine = true) := hc
    clear hc
    have HR' : Hid (codeV true n zs os vs ko kv veh ids = r) := by
      have := HR.out
      rw [HC.out] at this
      exact this
    obtain ⟨c0, c1, c2', c3, c4⟩ := cells5 C1.out.1.2.1
    obtain ⟨d0, d1⟩ := cells2 C1.out.1.2.2
    go_wp2_with fail
    clear c0 c1 c2' c3 c4 d0 d1
    refine (tourOf_any n fine veh a ao av bi cap ko co kv cv c2 zs os vs ids _ (HA.out.below C1.out.1.1) (HO.out.below C1.out.1.1) (HV.out.below C1.out.1.1) (HI.out.below C1.out.1.1) HLO.out HLV.out hko hkv hli hc2 HC.out).mono ?_
    rintro e w2 ⟨hb, ⟨hf, rfl⟩ | ⟨hf, g, hgg, rfl, hros⟩⟩
    · have C2 : Hid (CRT w w2 _ _ _) := C1.out.below hb
      rw [HR'.out] at hf ⊢
      have HF : Hid (r ≠ 0) := hf
      clear hb hf C1
      obtain ⟨t0, t1, t2, t3, t4, t5, t6, t7⟩ := cells8 C2.out.2
      have tf := fun i => frozen_of_row _ _ i _ _ C2.out.2
      go_wp2
      refine bodyPost_ret (v := .tuple #[.agg #[Value.int IntKind.i64 0, Value.slice none 0 0, Value.int IntKind.i64 0, Value.int IntKind.i64 0, Value.int IntKind.i64 0, Value.int IntKind.i64 0, Value.int IntKind.i64 0, Value.slice none 0 0], .int .i64 r]) (by simp [results, Try.results49, go_sem, t0, t1, t2, t3, t4, t5, t6, t7]) rfl ⟨?_, .inl ⟨HF.out, rfl⟩⟩
      repeat (first | with_reducible exact C2.out.b | refine Below.setCell ?_ (by simp <;> omega) _)
    · have C2 : Hid (CRT w w2 _ _ _) := C1.out.below hb
      rw [HR'.out] at hf
      have HF : Hid (r = 0) := hf
      have HROS : Hid (IntsAt w2 (some ⟨g, 0, none⟩) (rosOf os ko ids)) := hros
      have HGG : Hid (w.heap.size + 2 < g) := Nat.lt_of_lt_of_le (row_lt C1.out.2) hgg
      clear hb hf C1 hros hgg
      obtain ⟨v0, G0⟩ : ∃ t, Hid (fnd5F vs kv veh 0 = t) := ⟨_, rfl⟩
      obtain ⟨v1, G1⟩ : ∃ t, Hid (fnd5F vs kv veh 1 = t) := ⟨_, rfl⟩
      obtain ⟨v2, G2⟩ : ∃ t, Hid (fnd5F vs kv veh 2 = t) := ⟨_, rfl⟩
      obtain ⟨v3, G3⟩ : ∃ t, Hid (fnd5F vs kv veh 3 = t) := ⟨_, rfl⟩
      obtain ⟨v4, G4⟩ : ∃ t, Hid (fnd5F vs kv veh 4 = t) := ⟨_, rfl⟩
      rw [G0.out, G1.out, G2.out, G3.out, G4.out]
      obtain ⟨t0, t1, t2, t3, t4, t5, t6, t7⟩ := cells8 C2.out.2
      have tf := fun i => frozen_of_row _ _ i _ _ C2.out.2
      go_wp2
      refine bodyPost_ret (v := .tuple #[.agg #[Value.int IntKind.i64 n, Value.slice a zs.length cap, Value.int IntKind.i64 v0, Value.int IntKind.i64 v1, Value.int IntKind.i64 v2, Value.int IntKind.i64 v3, Value.int IntKind.i64 v4, Value.slice (some ⟨g, 0, none⟩) ids.length ids.length], .int .i64 0]) (by simp [results, Try.results49, go_sem, t0, t1, t2, t3, t4, t5, t6, t7]) rfl ⟨?_, .inr ⟨HF.out, g, by have := HGG.out; omega, ?_, ?_⟩⟩
      · repeat (first | with_reducible exact C2.out.b | refine Below.setCell ?_ (by simp <;> omega) _)
      · rw [G0.out, G1.out, G2.out, G3.out, G4.out]
      · repeat (first | with_reducible exact HROS.out | with_reducible refine ints_set ?_ (by have := HGG.out; omega))

end Go.Proofs.Ytmohcdnhbhigdaa

namespace Go.Proofs.Ytmohcdnhbhigdaa
open Go.RowKit

set_option maxHeartbeats 1000000 in
theorem tourCost_any (n v0 home v2 frm to : Int) (a ar : Option Addr) (cap m cr : Nat) (zs ros : List Int) (w : World) (hm : matB n zs = true) (hA : IntsAt w a zs) (hR : IntsAt w ar ros) (hl : ros.length = m * 6) (hbd : RosBd n ros m) (hh : 0 ≤ home ∧ home < n) (hm12 : m ≤ 12) :
    Calls Try.prog 50 #[.agg #[.int .i64 n, .slice a zs.length cap, .int .i64 v0, .int .i64 home, .int .i64 v2, .int .i64 frm, .int .i64 to, .slice ar m cr]] w fun e w' => e = .returned (.int .i64 (rideV n zs ros m home)) ∧ Below w.heap.size w w' := by
  have HM : Hid (matB n zs = true) := hm
  have HA : Hid (IntsAt w a zs) := hA
  have HR : Hid (IntsAt w ar ros) := hR
  have HL : Hid (ros.length = m * 6) := hl
  have HBD : Hid (RosBd n ros m) := hbd
  have HH : Hid (0 ≤ home ∧ home < n) := hh
  clear hm hA hR hl hbd hh
  obtain ⟨r, HV⟩ : ∃ r, Hid (rideV n zs ros m home = r) := ⟨_, rfl⟩
  rw [HV.out]
  have HB0 : Hid (Below w.heap.size w (w.alloc (Obj.cells #[Value.int IntKind.i64 n, Value.slice a zs.length cap, Value.int IntKind.i64 v0, Value.int IntKind.i64 home, Value.int IntKind.i64 v2, Value.int IntKind.i64 frm, Value.int IntKind.i64 to, Value.slice ar m cr] 81))) := (Below.refl _ _).alloc (Nat.le_refl _) _
  have HP0 : Hid ((w.alloc (Obj.cells #[Value.int IntKind.i64 n, Value.slice a zs.length cap, Value.int IntKind.i64 v0, Value.int IntKind.i64 home, Value.int IntKind.i64 v2, Value.int IntKind.i64 frm, Value.int IntKind.i64 to, Value.slice ar m cr] 81)).heap[w.heap.size]? = _) := heap_alloc_new _ _
  go_enter Try.func50, Try.ntmps50
  obtain ⟨t0, t1, t2, t3, t4, t5, t6, t7⟩ := cells8 HP0.out
  go_wp2_with fail
  clear t0 t1 t2 t3 t4 t5 t6 t7
  generalize w.alloc (Obj.cells #[Value.int IntKind.i64 n, Value.slice a zs.length cap, Value.int IntKind.i64 v0, Value.int IntKind.i64 home, Value.int IntKind.i64 v2, Value.int IntKind.i64 frm, Value.int IntKind.i64 to, Value.slice ar m cr] 81) = W1 at *
  go_loopw [3, 4, 13] (fun pl sm t wr => ∃ k : Nat, k ≤ m ∧ t = .int .i64 k ∧ pl = .int .i64 (plc ros home k) ∧ sm = .int .i64 (costTo n zs ros home k) ∧ Below w.heap.size w wr ∧ wr.heap[w.heap.size]? = some (.cells #[Value.int IntKind.i64 n, Value.slice a zs.length cap, Value.int IntKind.i64 v0, Value.int IntKind.i64 home, Value.int IntKind.i64 v2, Value.int IntKind.i64 frm, Value.int IntKind.i64 to, Value.slice ar m cr] 81 (0, 0))) (fun _ _ t _ => m - (intOf t).toNat)
  case atStart => exact ⟨0, Nat.zero_le _, rfl, rfl, rfl, HB0.out, HP0.out⟩
  case round =>
    clear HB0 HP0
    obtain ⟨k, hk, rfl, rfl, rfl, hb, hp⟩ := hrel
    have hpl := plc_bd HBD.out HH.out.1 HH.out.2 k hk
    have hcb := costTo_bd (ros := ros) (home := home) HM.out k
    have HB : Hid (Below w.heap.size w wr) := hb
    have HP : Hid (wr.heap[w.heap.size]? = _) := hp
    obtain ⟨t0, t1, t2, t3, t4, t5, t6, t7⟩ := cells8 hp
    obtain ⟨p, HPL⟩ : ∃ t, Hid (plc ros home k = t) := ⟨_, rfl⟩
    obtain ⟨f, HFR⟩ : ∃ t, Hid (costTo n zs ros home k = t) := ⟨_, rfl⟩
    rw [HPL.out] at hpl
    rw [HFR.out] at hcb
    rw [HPL.out, HFR.out]
    have HPB : Hid (0 ≤ p ∧ p < n) := hpl
    clear hb hp hpl
    by_cases hlt : k < m
    · obtain ⟨b, off, rfl, hcs⟩ := IntsAt.some (IntsAt.below HR.out HB.out) (j := k * 6) (by rw [HL.out]; omega)
      obtain ⟨r0, r1, r2, r3, r4, r5⟩ := row6_at hcs HL.out k hlt
      clear hcs
      have HO1 : Hid (0 ≤ og6 ros k 1 ∧ og6 ros k 1 < n) := (HBD.out k hlt).1
      obtain ⟨o0, H0⟩ : ∃ t, Hid (og6 ros k 0 = t) := ⟨_, rfl⟩
      obtain ⟨o1, H1⟩ : ∃ t, Hid (og6 ros k 1 = t) := ⟨_, rfl⟩
      obtain ⟨o2, H2⟩ : ∃ t, Hid (og6 ros k 2 = t) := ⟨_, rfl⟩
      obtain ⟨o3, H3⟩ : ∃ t, Hid (og6 ros k 3 = t) := ⟨_, rfl⟩
      obtain ⟨o4, H4⟩ : ∃ t, Hid (og6 ros k 4 = t) := ⟨_, rfl⟩
      obtain ⟨o5, H5⟩ : ∃ t, Hid (og6 ros k 5 = t) := ⟨_, rfl⟩
      rw [H1.out] at HO1
      rw [H0.out] at r0
      rw [H1.out] at r1
      rw [H2.out] at r2
      rw [H3.out] at r3
      rw [H4.out] at r4
      rw [H5.out] at r5
      obtain ⟨d, HD⟩ : ∃ t, Hid (tmI n zs p o1 = t) := ⟨_, rfl⟩
      have hdb := tmI_bd HM.out p o1
      rw [HD.out] at hdb
      have HNX : Hid (costTo n zs ros home (k + 1) = f + d) := by
        show _ = _
        simp only [costTo]
        rw [HFR.out, HPL.out, H1.out, HD.out]
      have HBA : Hid (Below w.heap.size w (wr.alloc (Obj.cells #[Value.int IntKind.i64 o0, Value.int IntKind.i64 o1, Value.int IntKind.i64 o2, Value.int IntKind.i64 o3, Value.int IntKind.i64 o4, Value.int IntKind.i64 o5] 94))) := HB.out.alloc HB.out.size _
      have HPA : Hid ((wr.alloc (Obj.cells #[Value.int IntKind.i64 o0, Value.int IntKind.i64 o1, Value.int IntKind.i64 o2, Value.int IntKind.i64 o3, Value.int IntKind.i64 o4, Value.int IntKind.i64 o5] 94)).heap[w.heap.size]? = _) := (heap_alloc_old _ _ (row_lt HP.out)).trans HP.out
      have HRO : Hid ((wr.alloc (Obj.cells #[Value.int IntKind.i64 o0, Value.int IntKind.i64 o1, Value.int IntKind.i64 o2, Value.int IntKind.i64 o3, Value.int IntKind.i64 o4, Value.int IntKind.i64 o5] 94)).heap[wr.heap.size]? = _) := heap_alloc_new _ _
      obtain ⟨i0, i1, i2, i3, i4, i5⟩ := cells6 HRO.out
      obtain ⟨s0, s1, s2, s3, s4, s5, s6, s7⟩ := cells8 HPA.out
      go_wp2_with fail
      clear r0 r1 r2 r3 r4 r5 t0 t1 t2 t3 t4 t5 t6 t7 i0 i1 i2 i3 i4 i5 s0 s1 s2 s3 s4 s5 s6 s7
      generalize wr.alloc (Obj.cells #[Value.int IntKind.i64 o0, Value.int IntKind.i64 o1, Value.int IntKind.i64 o2, Value.int IntKind.i64 o3, Value.int IntKind.i64 o4, Value.int IntKind.i64 o5] 94) = W2 at *
      generalize wr.heap.size = g at *
      refine (drive_is n p o1 v0 home v2 frm to _ _ _ _ _ zs _ d HD.out HM.out HPB.out HO1.out (HA.out.below HBA.out)).mono ?_
      rintro e W3 ⟨rfl, hb3⟩
      have HB3 : Hid (Below w.heap.size w W3) := HBA.out.trans (hb3.mono HBA.out.size)
      have HP3 : Hid (W3.heap[w.heap.size]? = _) := below_row hb3 (row_lt HPA.out) HPA.out
      have HR3 : Hid (W3.heap[g]? = _) := below_row hb3 (row_lt HRO.out) HRO.out
      clear hb3 HBA HPA HRO
      obtain ⟨i0, i1, i2, i3, i4, i5⟩ := cells6 HR3.out
      go_wp2
      go_roundw
      case rel => exact ⟨k + 1, by omega, by go_num, by rw [← H1.out]; rfl, by rw [HNX.out], HB3.out, HP3.out⟩
      case measure => simp [intOf]; omega
    · have hkl : k = m := by omega
      have HE : Hid (r = f + tmI n zs p home) := by
        have := HV.out
        unfold rideV at this
        rw [← hkl, HFR.out, HPL.out] at this
        exact this.symm
      clear hkl
      obtain ⟨d, HD⟩ : ∃ t, Hid (tmI n zs p home = t) := ⟨_, rfl⟩
      have hdb := tmI_bd HM.out p home
      rw [HD.out] at hdb HE
      go_wp2_with fail
      refine (drive_is n p home v0 home v2 frm to _ _ _ _ _ zs _ d HD.out HM.out HPB.out HH.out (HA.out.below HB.out)).mono ?_
      rintro e W3 ⟨rfl, hb3⟩
      have HB3 : Hid (Below w.heap.size w W3) := HB.out.trans (hb3.mono HB.out.size)
      clear hb3
      go_wp2
      go_ret
      exact ⟨ret_int HE.out.symm, HB3.out⟩

end Go.Proofs.Ytmohcdnhbhigdaa

namespace Go.Proofs.Ytmohcdnhbhigdaa
open Go.RowKit

set_option maxHeartbeats 1000000 in
theorem routeCost_any (n fine veh : Int) (a ao av bi : Option Addr) (cap ko co kv cv c2 : Nat) (zs os vs ids : List Int) (w : World) (hA : IntsAt w a zs) (hO : IntsAt w ao os) (hV : IntsAt w av vs) (hI : IntsAt w bi ids) (hlo : os.length = ko * 6) (hlv : vs.length = kv * 5) (hko : ko ≤ 9223372036854775807) (hkv : kv ≤ 9223372036854775807) (hli : ids.length ≤ 9223372036854775807) (hc2 : ids.length ≤ c2) (hcB : caseB n zs os vs ko kv fine = true) (ok : Bool) (hok : decide (codeV true n zs os vs ko kv veh ids = 0) = ok) (r : Int) (hr : rcV n zs os vs ko kv veh ids = r) :
    Calls Try.prog 88 #[.agg #[.int .i64 n, .slice a zs.length cap, .slice ao ko co, .slice av kv cv, .int .i64 fine], .agg #[.int .i64 veh, .slice bi ids.length c2]] w fun e w' => e = .returned (.tuple #[.int .i64 r, .bool ok]) ∧ Below w.heap.size w w' := by
  have HA : Hid (IntsAt w a zs) := hA
  have HO : Hid (IntsAt w ao os) := hO
  have HV : Hid (IntsAt w av vs) := hV
  have HI : Hid (IntsAt w bi ids) := hI
  have HLO : Hid _ := hlo
  have HLV : Hid _ := hlv
  have HC : Hid (caseB n zs os vs ko kv fine = true) := hcB
  have HR : Hid (rcV n zs os vs ko kv veh ids = r) := hr
  have HK : Hid (decide (codeV true n zs os vs ko kv veh ids = 0) = ok) := hok
  clear hA hO hV hI hlo hlv hcB hr hok
  have HC0 : Hid (CR w ((w.alloc (.cells #[Value.int IntKind.i64 n, Value.slice a zs.length cap, Value.slice ao ko co, Value.slice av kv cv, Value.int IntKind.i64 fine] 30)).alloc (.cells #[Value.int IntKind.i64 veh, Value.slice bi ids.length c2] 32)) _ _) := CR.new w _ _
  go_enter Try.func88, Try.ntmps88
  obtain ⟨c0, c1, c2', c3, c4⟩ := cells5 HC0.out.2.1
  obtain ⟨d0, d1⟩ := cells2 HC0.out.2.2
  go_wp2_with fail
  clear c0 c1 c2' c3 c4 d0 d1
  refine (tourOf_any n fine veh a ao av bi cap ko co kv cv c2 zs os vs ids _ (HA.out.below HC0.out.1) (HO.out.below HC0.out.1) (HV.out.below HC0.out.1) (HI.out.below HC0.out.1) HLO.out HLV.out hko hkv hli hc2 HC.out).mono ?_
  rintro e w2 ⟨hb, ⟨hf, rfl⟩ | ⟨hf, g, _, rfl, hros⟩⟩
  · have HB2 : Hid (Below w.heap.size w w2) := HC0.out.1.trans (hb.mono HC0.out.1.size)
    have HV1 : Hid (r = 0) := HR.out.symm.trans (rcV_no hf)
    have HK1 : Hid (ok = false) := HK.out.symm.trans (decide_eq_false hf)
    obtain ⟨fv, HFV⟩ : ∃ t, Hid (codeV true n zs os vs ko kv veh ids = t) := ⟨_, rfl⟩
    rw [HFV.out] at hf ⊢
    have hfb : (fv != 0) = true := by simp [hf]
    clear hb hf
    go_wp2
    go_ret2
    refine ⟨?_, HB2.out.alloc HB2.out.size _⟩
    rw [HV1.out, HK1.out]
    rfl
  · have HB2 : Hid (Below w.heap.size w w2) := HC0.out.1.trans (hb.mono HC0.out.1.size)
    have hst := (formV_zero (codeV_zero hf).1).2.2
    obtain ⟨hmat, hords, hvehs, hn1, _⟩ := caseB_parts HC.out
    obtain ⟨hvb1, hvb2, hvb3, hvb4⟩ := fnd5F_bd hvehs hn1 veh
    have HMAT : Hid (matB n zs = true) := hmat
    have HBD : Hid (RosBd n (rosOf os ko ids) ids.length) := rosBd_of hords hn1 ids
    have h12 := (stopsB_true hst).1
    have HV1 := (rcV_yes hf).symm.trans HR.out
    have HK1 : Hid (ok = true) := HK.out.symm.trans (decide_eq_true hf)
    obtain ⟨v0, G0⟩ : ∃ t, Hid (fnd5F vs kv veh 0 = t) := ⟨_, rfl⟩
    obtain ⟨v1, G1⟩ : ∃ t, Hid (fnd5F vs kv veh 1 = t) := ⟨_, rfl⟩
    obtain ⟨v2, G2⟩ : ∃ t, Hid (fnd5F vs kv veh 2 = t) := ⟨_, rfl⟩
    obtain ⟨v3, G3⟩ : ∃ t, Hid (fnd5F vs kv veh 3 = t) := ⟨_, rfl⟩
    obtain ⟨v4, G4⟩ : ∃ t, Hid (fnd5F vs kv veh 4 = t) := ⟨_, rfl⟩
    rw [G1.out] at HV1 hvb1
    rw [G0.out, G1.out, G2.out, G3.out, G4.out]
    have HV1' : Hid (rideV n zs (rosOf os ko ids) ids.length v1 = r) := HV1
    have HX1 : Hid (0 ≤ v1 ∧ v1 < n) := hvb1
    have HBA : Hid (Below w.heap.size w (w2.alloc (Obj.cells #[Value.int IntKind.i64 n, Value.slice a zs.length cap, Value.int IntKind.i64 v0, Value.int IntKind.i64 v1, Value.int IntKind.i64 v2, Value.int IntKind.i64 v3, Value.int IntKind.i64 v4, Value.slice (some ⟨g, 0, none⟩) ids.length ids.length] 81))) := HB2.out.alloc HB2.out.size _
    have HRT : Hid ((w2.alloc (Obj.cells #[Value.int IntKind.i64 n, Value.slice a zs.length cap, Value.int IntKind.i64 v0, Value.int IntKind.i64 v1, Value.int IntKind.i64 v2, Value.int IntKind.i64 v3, Value.int IntKind.i64 v4, Value.slice (some ⟨g, 0, none⟩) ids.length ids.length] 81)).heap[w2.heap.size]? = _) := heap_alloc_new _ _
    have HROS : Hid (IntsAt (w2.alloc (Obj.cells #[Value.int IntKind.i64 n, Value.slice a zs.length cap, Value.int IntKind.i64 v0, Value.int IntKind.i64 v1, Value.int IntKind.i64 v2, Value.int IntKind.i64 v3, Value.int IntKind.i64 v4, Value.slice (some ⟨g, 0, none⟩) ids.length ids.length] 81)) (some ⟨g, 0, none⟩) (rosOf os ko ids)) := IntsAt.below hros ((Below.refl _ _).alloc (Nat.le_refl _) _)
    clear hb hf hros HC0 hmat hords hvehs hn1 hvb1 hvb2 hvb3 hvb4 HV1 hst
    obtain ⟨t0, t1, t2, t3, t4, t5, t6, t7⟩ := cells8 HRT.out
    go_wp2_with fail
    clear t0 t1 t2 t3 t4 t5 t6 t7
    refine (tourCost_any n v0 v1 v2 v3 v4 a _ cap ids.length _ zs (rosOf os ko ids) _ HMAT.out (HA.out.below HBA.out) HROS.out (rosOf_length os ko ids) HBD.out HX1.out h12).mono ?_
    rintro e w3 ⟨rfl, hb⟩
    rw [HV1'.out]
    have HB3 : Hid (Below w.heap.size w w3) := HBA.out.trans (hb.mono HBA.out.size)
    clear hb
    go_wp2
    go_ret2
    refine ⟨?_, HB3.out⟩
    rw [HK1.out]
    rfl

end Go.Proofs.Ytmohcdnhbhigdaa
