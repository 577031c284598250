import Derived.Test.YtoaleabfhcabdaaPack3
import Derived.Test.YtoaleabfhcabdaaPack4
import Derived.RangeFuncNested
import Derived.RangeFuncBound
import Derived.RangeFuncCalls
import Derived.RangeFuncLeaves
import Derived.Shelf.Abstract
import Derived.Shelf.RegionOpen
import Derived.OwnWalkIn
import Derived.TacticsInMore
import Derived.LoopNIn
import Derived.LoopIn
import Derived.Deep.Cut
namespace Go.Proofs.Ytoaleabfhcabdaa
open Go.RowKit

set_option maxHeartbeats 1000000 in
theorem tourOf_any (n fine veh : Int) (a ao av bi : Option Addr) (cap ko co kv cv c2 : Nat) (zs os vs ids : List Int) (w : World) (hA : IntsAt w a zs) (hO : IntsAt w ao os) (hV : IntsAt w av vs) (hI : IntsAt w bi ids) (hlo : os.length = ko * 6) (hlv : vs.length = kv * 5) (hko : ko ≤ 9223372036854775807) (hkv : kv ≤ 9223372036854775807) (hli : ids.length ≤ 9223372036854775807) (hc2 : ids.length ≤ c2) (hcB : caseB n zs os vs ko kv fine = true) :
    Calls Try.prog 55 #[.agg #[.int .i64 n, .slice a zs.length cap, .slice ao ko co, .slice av kv cv, .int .i64 fine], .agg #[.int .i64 veh, .slice bi ids.length c2]] w fun e w' => Below w.heap.size w w' ∧ ((codeV true n zs os vs ko kv veh ids ≠ 0 ∧ e = .returned (.tuple #[.agg #[Value.int IntKind.i64 0, Value.slice none 0 0, Value.int IntKind.i64 0, Value.int IntKind.i64 0, Value.int IntKind.i64 0, Value.int IntKind.i64 0, Value.int IntKind.i64 0, Value.slice none 0 0], .int .i64 (codeV true n zs os vs ko kv veh ids)])) ∨ (codeV true n zs os vs ko kv veh ids = 0 ∧ ∃ g, w.heap.size ≤ g ∧ e = .returned (.tuple #[.agg #[.int .i64 n, .slice a zs.length cap, .int .i64 (fnd5F vs kv veh 0), .int .i64 (fnd5F vs kv veh 1), .int .i64 (fnd5F vs kv veh 2), .int .i64 (fnd5F vs kv veh 3), .int .i64 (fnd5F vs kv veh 4), .slice (some ⟨g, 0, none⟩) ids.length ids.length], .int .i64 0]) ∧ IntsAt w' (some ⟨g, 0, none⟩) (rosOf os ko ids))) := by
  have HA : Hid (IntsAt w a zs) := hA
  have HO : Hid (IntsAt w ao os) := hO
  have HV : Hid (IntsAt w av vs) := hV
  have HI : Hid (IntsAt w bi ids) := hI
  have HLO : Hid _ := hlo
  have HLV : Hid _ := hlv
  clear hA hO hV hI hlo hlv
  have HC : Hid (caseB n zs os vs ko kv fine = true) := hcB
  clear hcB
  have HC0 : Hid (CRT w (((w.alloc (.cells #[Value.int IntKind.i64 n, Value.slice a zs.length cap, Value.slice ao ko co, Value.slice av kv cv, Value.int IntKind.i64 fine] 40)).alloc (.cells #[Value.int IntKind.i64 veh, Value.slice bi ids.length c2] 42)).alloc (.cells #[Value.int IntKind.i64 0, Value.slice none 0 0, Value.int IntKind.i64 0, Value.int IntKind.i64 0, Value.int IntKind.i64 0, Value.int IntKind.i64 0, Value.int IntKind.i64 0, Value.slice none 0 0] 72)) _ _ _) := CRT.new w _ _ _
  obtain ⟨r, HR⟩ : ∃ r, Hid (codeV true n zs os vs ko kv veh ids = r) := ⟨_, rfl⟩
  rw [HR.out]
  go_enter Try.func55, Try.ntmps55
  obtain ⟨c0, c1, c2', c3, c4⟩ := cells5 HC0.out.1.2.1
  obtain ⟨d0, d1⟩ := cells2 HC0.out.1.2.2
  go_wp2_with fail
  clear c0 c1 c2' c3 c4 d0 d1
  refine (loadedTour_any n fine veh a ao av bi cap ko co kv cv c2 zs os vs ids _ (HA.out.below HC0.out.1.1) (HO.out.below HC0.out.1.1) (HV.out.below HC0.out.1.1) (HI.out.below HC0.out.1.1) HLO.out HLV.out hko hkv hli hc2 HC.out).mono ?_
  rintro e w2 ⟨hb, ⟨hf, rfl⟩ | ⟨hf, g, hgg, rfl, hros⟩⟩
  · have C2 : Hid (CRT w (w2.alloc (Obj.cells #[Value.int IntKind.i64 0, Value.slice none 0 0, Value.int IntKind.i64 0, Value.int IntKind.i64 0, Value.int IntKind.i64 0, Value.int IntKind.i64 0, Value.int IntKind.i64 0, Value.slice none 0 0] 72)) _ _ _) := (HC0.out.below hb).alloc _
    have HRV : Hid (formV true vs os kv ko veh ids = r) := (codeV_form hf).symm.trans HR.out
    rw [HRV.out] at hf ⊢
    have hfb : (r == 0) = false := by simp [hf]
    have hfn : (r != 0) = true := by simp [hf]
    have HF : Hid (r ≠ 0) := hf
    clear hb hf HC0
    obtain ⟨t0, t1, t2, t3, t4, t5, t6, t7⟩ := cells8 C2.out.2
    have tf := fun i => frozen_of_row _ _ i _ _ C2.out.2
    go_wp2
    refine bodyPost_ret (v := .tuple #[.agg #[Value.int IntKind.i64 0, Value.slice none 0 0, Value.int IntKind.i64 0, Value.int IntKind.i64 0, Value.int IntKind.i64 0, Value.int IntKind.i64 0, Value.int IntKind.i64 0, Value.slice none 0 0], .int .i64 r]) (by simp [results, Try.results55, go_sem, t0, t1, t2, t3, t4, t5, t6, t7]) rfl ⟨?_, .inl ⟨HF.out, rfl⟩⟩
    repeat (first | with_reducible exact C2.out.b | refine Below.setCell ?_ (by simp <;> omega) _)
  · have HFV : Hid (formV true vs os kv ko veh ids = 0) := hf
    obtain ⟨hmat, hords, hvehs, hn1, _⟩ := caseB_parts HC.out
    obtain ⟨hvb1, hvb2, hvb3, hvb4⟩ := fnd5F_bd hvehs hn1 veh
    have HMAT : Hid (matB n zs = true) := hmat
    have HBD : Hid (RosBd n (rosOf os ko ids) ids.length) := rosBd_of hords hn1 ids
    have h12 := (stopsB_true (formV_zero hf).2.2).1
    have HRV := (codeV_hours (n := n) (zs := zs) hf).symm.trans HR.out
    obtain ⟨v0, G0⟩ : ∃ t, Hid (fnd5F vs kv veh 0 = t) := ⟨_, rfl⟩
    obtain ⟨v1, G1⟩ : ∃ t, Hid (fnd5F vs kv veh 1 = t) := ⟨_, rfl⟩
    obtain ⟨v2, G2⟩ : ∃ t, Hid (fnd5F vs kv veh 2 = t) := ⟨_, rfl⟩
    obtain ⟨v3, G3⟩ : ∃ t, Hid (fnd5F vs kv veh 3 = t) := ⟨_, rfl⟩
    obtain ⟨v4, G4⟩ : ∃ t, Hid (fnd5F vs kv veh 4 = t) := ⟨_, rfl⟩
    rw [G1.out, G3.out, G4.out] at HRV
    rw [G1.out] at hvb1
    rw [G3.out] at hvb3
    rw [G0.out, G1.out, G2.out, G3.out, G4.out]
    have HRV' : Hid (hoursV n zs (rosOf os ko ids) ids.length v1 v3 v4 = r) := HRV
    have HX1 : Hid (0 ≤ v1 ∧ v1 < n) := hvb1
    have HX3 : Hid (0 ≤ v3 ∧ v3 ≤ 1000000) := hvb3
    have C2 : Hid (CRT w (w2.alloc (Obj.cells #[Value.int IntKind.i64 n, Value.slice a zs.length cap, Value.int IntKind.i64 v0, Value.int IntKind.i64 v1, Value.int IntKind.i64 v2, Value.int IntKind.i64 v3, Value.int IntKind.i64 v4, Value.slice (some ⟨g, 0, none⟩) ids.length ids.length] 72)) _ _ _) := (HC0.out.below hb).alloc _
    have HRT : Hid ((w2.alloc (Obj.cells #[Value.int IntKind.i64 n, Value.slice a zs.length cap, Value.int IntKind.i64 v0, Value.int IntKind.i64 v1, Value.int IntKind.i64 v2, Value.int IntKind.i64 v3, Value.int IntKind.i64 v4, Value.slice (some ⟨g, 0, none⟩) ids.length ids.length] 72)).heap[w2.heap.size]? = _) := heap_alloc_new _ _
    have HROS : Hid (IntsAt (w2.alloc (Obj.cells #[Value.int IntKind.i64 n, Value.slice a zs.length cap, Value.int IntKind.i64 v0, Value.int IntKind.i64 v1, Value.int IntKind.i64 v2, Value.int IntKind.i64 v3, Value.int IntKind.i64 v4, Value.slice (some ⟨g, 0, none⟩) ids.length ids.length] 72)) (some ⟨g, 0, none⟩) (rosOf os ko ids)) := IntsAt.below hros ((Below.refl _ _).alloc (Nat.le_refl _) _)
    have HGT : Hid (w.heap.size + 2 < w2.heap.size) := row_lt (HC0.out.below hb).2
    have HGG : Hid (w.heap.size + 2 < g) := Nat.lt_of_lt_of_le (row_lt HC0.out.2) hgg
    clear hb hf hros HC0 hgg hmat hords hvehs hn1 hvb1 hvb2 hvb3 hvb4 HRV
    obtain ⟨t0, t1, t2, t3, t4, t5, t6, t7⟩ := cells8 HRT.out
    go_wp2_with fail
    clear t0 t1 t2 t3 t4 t5 t6 t7
    generalize w2.alloc (Obj.cells #[Value.int IntKind.i64 n, Value.slice a zs.length cap, Value.int IntKind.i64 v0, Value.int IntKind.i64 v1, Value.int IntKind.i64 v2, Value.int IntKind.i64 v3, Value.int IntKind.i64 v4, Value.slice (some ⟨g, 0, none⟩) ids.length ids.length] 72) = W2 at *
    generalize w2.heap.size = gt at *
    refine (hoursCode_any n v0 v1 v2 v3 v4 a _ cap ids.length _ zs (rosOf os ko ids) W2 HMAT.out (HA.out.below C2.out.1.1) HROS.out (rosOf_length os ko ids) HBD.out HX1.out HX3.out h12).mono ?_
    rintro e w3 ⟨rfl, hb⟩
    rw [HRV'.out]
    have C3 : Hid (CRT w w3 _ _ _) := C2.out.below hb
    have HRT3 : Hid (w3.heap[gt]? = _) := below_row hb (row_lt HRT.out) HRT.out
    have HROS3 : Hid (IntsAt w3 (some ⟨g, 0, none⟩) (rosOf os ko ids)) := HROS.out.below hb
    clear hb C2 HRT HROS
    obtain ⟨t0, t1, t2, t3, t4, t5, t6, t7⟩ := cells8 C3.out.2
    have tf := fun i => frozen_of_row _ _ i _ _ C3.out.2
    by_cases hr : r = 0
    · have hfn : (r != 0) = false := by simp [hr]
      have HF : Hid (r = 0) := hr
      clear hr
      obtain ⟨s0, s1, s2, s3, s4, s5, s6, s7⟩ := cells8 HRT3.out
      go_wp2
      refine bodyPost_ret (v := .tuple #[.agg #[Value.int IntKind.i64 n, Value.slice a zs.length cap, Value.int IntKind.i64 v0, Value.int IntKind.i64 v1, Value.int IntKind.i64 v2, Value.int IntKind.i64 v3, Value.int IntKind.i64 v4, Value.slice (some ⟨g, 0, none⟩) ids.length ids.length], .int .i64 0]) (by simp [results, Try.results55, go_sem, t0, t1, t2, t3, t4, t5, t6, t7]) rfl ⟨?_, .inr ⟨HF.out, g, by have := HGG.out; omega, ?_, ?_⟩⟩
      · repeat (first | with_reducible exact C3.out.b | refine Below.setCell ?_ (by simp <;> omega) _)
      · rw [G0.out, G1.out, G2.out, G3.out, G4.out]
      · repeat (first | with_reducible exact HROS3.out | with_reducible refine ints_set ?_ (by have := HGG.out; omega))
    · have hfn : (r != 0) = true := by simp [hr]
      have HF : Hid (r ≠ 0) := hr
      clear hr
      go_wp2
      refine bodyPost_ret (v := .tuple #[.agg #[Value.int IntKind.i64 0, Value.slice none 0 0, Value.int IntKind.i64 0, Value.int IntKind.i64 0, Value.int IntKind.i64 0, Value.int IntKind.i64 0, Value.int IntKind.i64 0, Value.slice none 0 0], .int .i64 r]) (by simp [results, Try.results55, go_sem, t0, t1, t2, t3, t4, t5, t6, t7]) rfl ⟨?_, .inl ⟨HF.out, rfl⟩⟩
      repeat (first | with_reducible exact C3.out.b | refine Below.setCell ?_ (by simp <;> omega) _)

set_option maxHeartbeats 1000000 in
theorem checkedTour_any (n fine veh : Int) (a ao av bi : Option Addr) (cap ko co kv cv c2 : Nat) (zs os vs ids : List Int) (w : World) (hA : IntsAt w a zs) (hO : IntsAt w ao os) (hV : IntsAt w av vs) (hI : IntsAt w bi ids) (hlo : os.length = ko * 6) (hlv : vs.length = kv * 5) (hko : ko ≤ 9223372036854775807) (hkv : kv ≤ 9223372036854775807) (hli : ids.length ≤ 9223372036854775807) (hc2 : ids.length ≤ c2) :
    Calls Try.prog 35 #[.agg #[.int .i64 n, .slice a zs.length cap, .slice ao ko co, .slice av kv cv, .int .i64 fine], .agg #[.int .i64 veh, .slice bi ids.length c2]] w fun e w' => Below w.heap.size w w' ∧ ((codeV (caseB n zs os vs ko kv fine) n zs os vs ko kv veh ids ≠ 0 ∧ e = .returned (.tuple #[.agg #[Value.int IntKind.i64 0, Value.slice none 0 0, Value.int IntKind.i64 0, Value.int IntKind.i64 0, Value.int IntKind.i64 0, Value.int IntKind.i64 0, Value.int IntKind.i64 0, Value.slice none 0 0], .int .i64 (codeV (caseB n zs os vs ko kv fine) n zs os vs ko kv veh ids)])) ∨ (codeV (caseB n zs os vs ko kv fine) n zs os vs ko kv veh ids = 0 ∧ ∃ g, w.heap.size ≤ g ∧ e = .returned (.tuple #[.agg #[.int .i64 n, .slice a zs.length cap, .int .i64 (fnd5F vs kv veh 0), .int .i64 (fnd5F vs kv veh 1), .int .i64 (fnd5F vs kv veh 2), .int .i64 (fnd5F vs kv veh 3), .int .i64 (fnd5F vs kv veh 4), .slice (some ⟨g, 0, none⟩) ids.length ids.length], .int .i64 0]) ∧ IntsAt w' (some ⟨g, 0, none⟩) (rosOf os ko ids))) := by
  have HA : Hid (IntsAt w a zs) := hA
  have HO : Hid (IntsAt w ao os) := hO
  have HV : Hid (IntsAt w av vs) := hV
  have HI : Hid (IntsAt w bi ids) := hI
  have HLO : Hid _ := hlo
  have HLV : Hid _ := hlv
  clear hA hO hV hI hlo hlv
  have HC0 : Hid (CRT w (((w.alloc (.cells #[Value.int IntKind.i64 n, Value.slice a zs.length cap, Value.slice ao ko co, Value.slice av kv cv, Value.int IntKind.i64 fine] 40)).alloc (.cells #[Value.int IntKind.i64 veh, Value.slice bi ids.length c2] 42)).alloc (.cells #[Value.int IntKind.i64 0, Value.slice none 0 0, Value.int IntKind.i64 0, Value.int IntKind.i64 0, Value.int IntKind.i64 0, Value.int IntKind.i64 0, Value.int IntKind.i64 0, Value.slice none 0 0] 72)) _ _ _) := CRT.new w _ _ _
  obtain ⟨r, HR⟩ : ∃ r, Hid (codeV (caseB n zs os vs ko kv fine) n zs os vs ko kv veh ids = r) := ⟨_, rfl⟩
  rw [HR.out]
  go_enter Try.func35, Try.ntmps35
  obtain ⟨c0, c1, c2', c3, c4⟩ := cells5 HC0.out.1.2.1
  go_wp2_with fail
  clear c0 c1 c2' c3 c4
  refine (implCase_any n fine a ao av cap ko co kv cv zs os vs _ (HA.out.below HC0.out.1.1) (HO.out.below HC0.out.1.1) (HV.out.below HC0.out.1.1) HLO.out HLV.out hko hkv).mono ?_
  rintro e w1 ⟨rfl, hb⟩
  have C1 : Hid (CRT w w1 _ _ _) := HC0.out.below hb
  clear hb HC0
  cases hc : caseB n zs os vs ko kv fine
  · have hfv : formV (caseB n zs os vs ko kv fine) vs os kv ko veh ids = 1 := formV_1 hc
    have HV1 : Hid (r = 1) := HR.out.symm.trans ((codeV_form (by rw [hfv]; decide)).trans hfv)
    clear hfv
    obtain ⟨t0, t1, t2, t3, t4, t5, t6, t7⟩ := cells8 C1.out.2
    have tf := fun i => frozen_of_row _ _ i _ _ C1.out.2
    go_wp2
    refine bodyPost_ret (v := .tuple #[.agg #[Value.int IntKind.i64 0, Value.slice none 0 0, Value.int IntKind.i64 0, Value.int IntKind.i64 0, Value.int IntKind.i64 0, Value.int IntKind.i64 0, Value.int IntKind.i64 0, Value.slice none 0 0], .int .i64 1]) (by simp [results, Try.results35, go_sem, t0, t1, t2, t3, t4, t5, t6, t7]) rfl ⟨?_, .inl ⟨by rw [HV1.out]; decide, by rw [HV1.out]⟩⟩
    repeat (first | with_reducible exact C1.out.b | refine Below.setCell ?_ (by simp <;> omega) _)
  · have HC : Hid (caseB n zs os vs ko kv fine = true) := hc
    clear hc
    have HR' : Hid (codeV true n zs os vs ko kv veh ids = r) := by
      have := HR.out
      rw [HC.out] at this
      exact this
    obtain ⟨c0, c1, c2', c3, c4⟩ := cells5 C1.out.1.2.1
    obtain ⟨d0, d1⟩ := cells2 C1.out.1.2.2
    go_wp2_with fail
    clear c0 c1 c2' c3 c4 d0 d1
    refine (tourOf_any n fine veh a ao av bi cap ko co kv cv c2 zs os vs ids _ (HA.out.below C1.out.1.1) (HO.out.below C1.out.1.1) (HV.out.below C1.out.1.1) (HI.out.below C1.out.1.1) HLO.out HLV.out hko hkv hli hc2 HC.out).mono ?_
    rintro e w2 ⟨hb, ⟨hf, rfl⟩ | ⟨hf, g, hgg, rfl, hros⟩⟩
    · have C2 : Hid (CRT w w2 _ _ _) := C1.out.below hb
      rw [HR'.out] at hf ⊢
      have HF : Hid (r ≠ 0) := hf
      clear hb hf C1
      obtain ⟨t0, t1, t2, t3, t4, t5, t6, t7⟩ := cells8 C2.out.2
      have tf := fun i => frozen_of_row _ _ i _ _ C2.out.2
      go_wp2
      refine bodyPost_ret (v := .tuple #[.agg #[Value.int IntKind.i64 0, Value.slice none 0 0, Value.int IntKind.i64 0, Value.int IntKind.i64 0, Value.int IntKind.i64 0, Value.int IntKind.i64 0, Value.int IntKind.i64 0, Value.slice none 0 0], .int .i64 r]) (by simp [results, Try.results35, go_sem, t0, t1, t2, t3, t4, t5, t6, t7]) rfl ⟨?_, .inl ⟨HF.out, rfl⟩⟩
      repeat (first | with_reducible exact C2.out.b | refine Below.setCell ?_ (by simp <;> omega) _)
    · have C2 : Hid (CRT w w2 _ _ _) := C1.out.below hb
      rw [HR'.out] at hf
      have HF : Hid (r = 0) := hf
      have HROS : Hid (IntsAt w2 (some ⟨g, 0, none⟩) (rosOf os ko ids)) := hros
      have HGG : Hid (w.heap.size + 2 < g) := Nat.lt_of_lt_of_le (row_lt C1.out.2) hgg
      clear hb hf C1 hros hgg
      obtain ⟨v0, G0⟩ : ∃ t, Hid (fnd5F vs kv veh 0 = t) := ⟨_, rfl⟩
      obtain ⟨v1, G1⟩ : ∃ t, Hid (fnd5F vs kv veh 1 = t) := ⟨_, rfl⟩
      obtain ⟨v2, G2⟩ : ∃ t, Hid (fnd5F vs kv veh 2 = t) := ⟨_, rfl⟩
      obtain ⟨v3, G3⟩ : ∃ t, Hid (fnd5F vs kv veh 3 = t) := ⟨_, rfl⟩
      obtain ⟨v4, G4⟩ : ∃ t, Hid (fnd5F vs kv veh 4 = t) := ⟨_, rfl⟩
      rw [G0.out, G1.out, G2.out, G3.out, G4.out]
      obtain ⟨t0, t1, t2, t3, t4, t5, t6, t7⟩ := cells8 C2.out.2
      have tf := fun i => frozen_of_row _ _ i _ _ C2.out.2
      go_wp2
      refine bodyPost_ret (v := .tuple #[.agg #[Value.int IntKind.i64 n, Value.slice a zs.length cap, Value.int IntKind.i64 v0, Value.int IntKind.i64 v1, Value.int IntKind.i64 v2, Value.int IntKind.i64 v3, Value.int IntKind.i64 v4, Value.slice (some ⟨g, 0, none⟩) ids.length ids.length], .int .i64 0]) (by simp [results, Try.results35, go_sem, t0, t1, t2, t3, t4, t5, t6, t7]) rfl ⟨?_, .inr ⟨HF.out, g, by have := HGG.out; omega, ?_, ?_⟩⟩
      · repeat (first | with_reducible exact C2.out.b | refine Below.setCell ?_ (by simp <;> omega) _)
      · rw [G0.out, G1.out, G2.out, G3.out, G4.out]
      · repeat (first | with_reducible exact HROS.out | with_reducible refine ints_set ?_ (by have := HGG.out; omega))

end Go.Proofs.Ytoaleabfhcabdaa

namespace Go.Proofs.Ytoaleabfhcabdaa
open Go.RowKit Go.Shelf
attribute [local go_sem] Oper.semAt_some

theorem HoursAt.own' {β : Type} (w : World) (ts : Array Value) (c : β → Int) (B : Nat) (hB : w.heap.size ≤ B) : OwnFrom B (fun s W => HoursAt w W ts (c s)) := fun s W W' row hs hg hr =>
  ⟨ownFrom_below (Nat.le_refl _) hB () W W' row hs.1 hg hr, row_own (cs := fun _ : Unit => ts) () W W' row hs.2.1 hg hr, row_own (cs := fun _ : Unit => #[.int .i64 (c s)]) () W W' row hs.2.2 hg hr⟩
/-- The waiting at what has come. -/
def waitL (n : Int) (zs ros : List Int) (home frm : Int) {m : Nat} (pre : List (Fin m)) : Int := (pre.map fun x => startV n zs ros home frm x.val - arrV n zs ros home frm x.val).sum
theorem waitL_snoc (n : Int) (zs ros : List Int) (home frm : Int) {m : Nat} (pre : List (Fin m)) (x : Fin m) : waitL n zs ros home frm (pre ++ [x]) = waitL n zs ros home frm pre + (startV n zs ros home frm x.val - arrV n zs ros home frm x.val) := by
  simp [waitL]
theorem waitTo_sum (n : Int) (zs ros : List Int) (home frm : Int) : ∀ k, waitTo n zs ros home frm k = ((List.range k).map fun j => startV n zs ros home frm j - arrV n zs ros home frm j).sum
  | 0 => rfl
  | k + 1 => by
    rw [List.range_succ]
    simp only [waitTo, List.map_append, List.sum_append, List.map_cons, List.map_nil, List.sum_cons, List.sum_nil, Int.add_zero]
    rw [waitTo_sum n zs ros home frm k]
theorem waitL_all (n : Int) (zs ros : List Int) (home frm : Int) {m : Nat} (ys : List (Fin m)) (h : ys.map Fin.val = List.range m) : waitL n zs ros home frm ys = waitTo n zs ros home frm m := by
  rw [waitTo_sum, ← h, List.map_map]
  rfl
theorem waitL_bd {n : Int} {zs ros : List Int} {home frm : Int} {m : Nat} (h : ∀ k, k < m → 0 ≤ arrV n zs ros home frm k ∧ arrV n zs ros home frm k ≤ 2000000 ∧ arrV n zs ros home frm k ≤ startV n zs ros home frm k ∧ startV n zs ros home frm k ≤ 2000000) : ∀ pre : List (Fin m), 0 ≤ waitL n zs ros home frm pre ∧ waitL n zs ros home frm pre ≤ 2000000 * pre.length
  | [] => by simp [waitL]
  | x :: pre => by
    have ih := waitL_bd h pre
    have hx := h x.val x.isLt
    have e : waitL n zs ros home frm (x :: pre) = (startV n zs ros home frm x.val - arrV n zs ros home frm x.val) + waitL n zs ros home frm pre := by simp [waitL]
    rw [e]
    simp only [List.length_cons]
    omega

set_option maxRecDepth 100000 in
set_option maxHeartbeats 2000000 in
theorem implWait_any (n fine veh : Int) (a ao av bi : Option Addr) (cap ko co kv cv c2 : Nat) (zs os vs ids : List Int) (w : World) (hA : IntsAt w a zs) (hO : IntsAt w ao os) (hV : IntsAt w av vs) (hI : IntsAt w bi ids) (hlo : os.length = ko * 6) (hlv : vs.length = kv * 5) (hko : ko ≤ 9223372036854775807) (hkv : kv ≤ 9223372036854775807) (hli : ids.length ≤ 9223372036854775807) (hc2 : ids.length ≤ c2) :
    Calls Try.prog 22 #[.agg #[.int .i64 n, .slice a zs.length cap, .slice ao ko co, .slice av kv cv, .int .i64 fine], .agg #[.int .i64 veh, .slice bi ids.length c2]] w fun e w' => e = .returned (.int .i64 (waitV (caseB n zs os vs ko kv fine) n zs os vs ko kv veh ids)) ∧ Below w.heap.size w w' := by
  have HA : Hid (IntsAt w a zs) := hA
  have HO : Hid (IntsAt w ao os) := hO
  have HV : Hid (IntsAt w av vs) := hV
  have HI : Hid (IntsAt w bi ids) := hI
  have HLO : Hid _ := hlo
  have HLV : Hid _ := hlv
  clear hA hO hV hI hlo hlv
  have HC0 : Hid (CR w ((w.alloc (.cells #[Value.int IntKind.i64 n, Value.slice a zs.length cap, Value.slice ao ko co, Value.slice av kv cv, Value.int IntKind.i64 fine] 40)).alloc (.cells #[Value.int IntKind.i64 veh, Value.slice bi ids.length c2] 42)) _ _) := CR.new w _ _
  obtain ⟨r, HR⟩ : ∃ r, Hid (waitV (caseB n zs os vs ko kv fine) n zs os vs ko kv veh ids = r) := ⟨_, rfl⟩
  rw [HR.out]
  refine (callsIn_wide (n := 3)).1 ?_
  refine callsIn_of_wp_marks Try.func22 rfl trivial ?_ rfl
  simp only [Try.ntmps22, List.size_toArray, List.length_cons, List.length_nil, Nat.reduceAdd, Nat.reduceSub, Array.replicate_succ, Array.replicate_zero, List.push_toArray, List.append_toArray, List.nil_append, List.cons_append]
  refine wpIn_wide.2 ?_
  obtain ⟨c0, c1, c2', c3, c4⟩ := cells5 HC0.out.2.1
  obtain ⟨d0, d1⟩ := cells2 HC0.out.2.2
  go_wp2_with fail
  clear c0 c1 c2' c3 c4 d0 d1
  refine (checkedTour_any n fine veh a ao av bi cap ko co kv cv c2 zs os vs ids _ (HA.out.below HC0.out.1) (HO.out.below HC0.out.1) (HV.out.below HC0.out.1) (HI.out.below HC0.out.1) HLO.out HLV.out hko hkv hli hc2).mono ?_
  rintro e w2 ⟨hb, ⟨hf, rfl⟩ | ⟨hf, g, _, rfl, hros⟩⟩
  · have HB2 : Hid (Below w.heap.size w w2) := HC0.out.1.trans (hb.mono HC0.out.1.size)
    have HV1 : Hid (r = -1) := HR.out.symm.trans (waitV_no hf)
    obtain ⟨fv, HFV⟩ : ∃ t, Hid (codeV (caseB n zs os vs ko kv fine) n zs os vs ko kv veh ids = t) := ⟨_, rfl⟩
    rw [HFV.out] at hf ⊢
    have hfb : (fv != 0) = true := by simp [hf]
    clear hb hf
    go_wp2
    rw [HV1.out]
    exact ⟨_, results_tmp rfl _ _ _, rfl, HB2.out.alloc HB2.out.size _⟩
  · have HB2 : Hid (Below w.heap.size w w2) := HC0.out.1.trans (hb.mono HC0.out.1.size)
    have HFV := (codeV_zero hf).1
    obtain ⟨hcb, _, hst⟩ := formV_zero HFV
    obtain ⟨hmat, hords, hvehs, hn1, _⟩ := caseB_parts hcb
    obtain ⟨hvb1, hvb2, hvb3, hvb4⟩ := fnd5F_bd hvehs hn1 veh
    have HMAT : Hid (matB n zs = true) := hmat
    have HBD : Hid (RosBd n (rosOf os ko ids) ids.length) := rosBd_of hords hn1 ids
    have h12 := (stopsB_true hst).1
    have HV1 := (waitV_yes hf).symm.trans HR.out
    obtain ⟨v0, G0⟩ : ∃ t, Hid (fnd5F vs kv veh 0 = t) := ⟨_, rfl⟩
    obtain ⟨v1, G1⟩ : ∃ t, Hid (fnd5F vs kv veh 1 = t) := ⟨_, rfl⟩
    obtain ⟨v2, G2⟩ : ∃ t, Hid (fnd5F vs kv veh 2 = t) := ⟨_, rfl⟩
    obtain ⟨v3, G3⟩ : ∃ t, Hid (fnd5F vs kv veh 3 = t) := ⟨_, rfl⟩
    obtain ⟨v4, G4⟩ : ∃ t, Hid (fnd5F vs kv veh 4 = t) := ⟨_, rfl⟩
    rw [G1.out, G3.out] at HV1
    rw [G1.out] at hvb1
    rw [G3.out] at hvb3
    rw [G0.out, G1.out, G2.out, G3.out, G4.out]
    have HV1' : Hid (waitTo n zs (rosOf os ko ids) v1 v3 ids.length = r) := HV1
    have HX1 : Hid (0 ≤ v1 ∧ v1 < n) := hvb1
    have HX3 : Hid (0 ≤ v3 ∧ v3 ≤ 1000000) := hvb3
    have HX : Hid (HoursAt w2 ((w2.alloc (Obj.cells #[Value.int IntKind.i64 n, Value.slice a zs.length cap, Value.int IntKind.i64 v0, Value.int IntKind.i64 v1, Value.int IntKind.i64 v2, Value.int IntKind.i64 v3, Value.int IntKind.i64 v4, Value.slice (some ⟨g, 0, none⟩) ids.length ids.length] 72)).alloc (Obj.cells #[Value.int IntKind.i64 0] 2)) #[Value.int IntKind.i64 n, Value.slice a zs.length cap, Value.int IntKind.i64 v0, Value.int IntKind.i64 v1, Value.int IntKind.i64 v2, Value.int IntKind.i64 v3, Value.int IntKind.i64 v4, Value.slice (some ⟨g, 0, none⟩) ids.length ids.length] 0) := HoursAt.new w2 _ 0
    have HA2 : Hid (IntsAt w2 a zs) := HA.out.below HB2.out
    have HR2 : Hid (IntsAt w2 (some ⟨g, 0, none⟩) (rosOf os ko ids)) := hros
    have HWB : Hid (∀ pre : List (Fin ids.length), 0 ≤ waitL n zs (rosOf os ko ids) v1 v3 pre ∧ waitL n zs (rosOf os ko ids) v1 v3 pre ≤ 2000000 * pre.length) := waitL_bd (fun k hk => arrV_bd HMAT.out HBD.out HX3.out h12 hk)
    clear hb hf hros HC0 hmat hords hvehs hn1 hvb1 hvb2 hvb3 hvb4 HV1 HFV hcb hst
    obtain ⟨t0, t1, t2, t3, t4, t5, t6, t7⟩ := cells8 HX.out.2.1
    go_wp2_with fail
    clear t0 t1 t2 t3 t4 t5 t6 t7
    have HZ : Hid (w2.heap.size + 1 < ((w2.alloc (Obj.cells #[Value.int IntKind.i64 n, Value.slice a zs.length cap, Value.int IntKind.i64 v0, Value.int IntKind.i64 v1, Value.int IntKind.i64 v2, Value.int IntKind.i64 v3, Value.int IntKind.i64 v4, Value.slice (some ⟨g, 0, none⟩) ids.length ids.length] 72)).alloc (Obj.cells #[Value.int IntKind.i64 0] 2)).heap.size) := row_lt HX.out.2.2
    generalize ((w2.alloc (Obj.cells #[Value.int IntKind.i64 n, Value.slice a zs.length cap, Value.int IntKind.i64 v0, Value.int IntKind.i64 v1, Value.int IntKind.i64 v2, Value.int IntKind.i64 v3, Value.int IntKind.i64 v4, Value.slice (some ⟨g, 0, none⟩) ids.length ids.length] 72)).alloc (Obj.cells #[Value.int IntKind.i64 0] 2)) = W1 at *
    refine (visits_any n v0 v1 v2 v3 v4 a _ cap ids.length ids.length zs W1).mono ?_
    rintro e w3 ⟨rfl, rfl⟩
    have HX2 : Hid (HoursAt w2 (W1.alloc (.cells #[Value.int IntKind.i64 n, Value.slice a zs.length cap, Value.int IntKind.i64 v0, Value.int IntKind.i64 v1, Value.int IntKind.i64 v2, Value.int IntKind.i64 v3, Value.int IntKind.i64 v4, Value.slice (some ⟨g, 0, none⟩) ids.length ids.length] 72)) #[Value.int IntKind.i64 n, Value.slice a zs.length cap, Value.int IntKind.i64 v0, Value.int IntKind.i64 v1, Value.int IntKind.i64 v2, Value.int IntKind.i64 v3, Value.int IntKind.i64 v4, Value.slice (some ⟨g, 0, none⟩) ids.length ids.length] 0) := HX.out.below ((Below.refl _ _).alloc (Nat.le_refl _) _)
    have HT2 : Hid ((W1.alloc (.cells #[Value.int IntKind.i64 n, Value.slice a zs.length cap, Value.int IntKind.i64 v0, Value.int IntKind.i64 v1, Value.int IntKind.i64 v2, Value.int IntKind.i64 v3, Value.int IntKind.i64 v4, Value.slice (some ⟨g, 0, none⟩) ids.length ids.length] 72)).heap[W1.heap.size]? = some (.cells #[Value.int IntKind.i64 n, Value.slice a zs.length cap, Value.int IntKind.i64 v0, Value.int IntKind.i64 v1, Value.int IntKind.i64 v2, Value.int IntKind.i64 v3, Value.int IntKind.i64 v4, Value.slice (some ⟨g, 0, none⟩) ids.length ids.length] 72 (0, 0))) := heap_alloc_new _ _
    go_wp2_with fail
    refine (wpIn_wide (n := 3)).1 ?_
    refine wpIn_rangeFunc_ownH rfl (by omega) (gf := 56) (lb := #[.pointer (some ⟨W1.heap.size, 0, none⟩)]) rfl trivial (enters_of Try.func56 (by kernel_rfl) rfl)
      (visits_stops 2 (by omega) W1.heap.size w2.heap.size n v0 v1 v2 v3 v4 a (some ⟨g, 0, none⟩) cap ids.length ids.length zs (rosOf os ko ids) w2 _ (Nat.le_refl _) HX2.out.1 HT2.out HMAT.out HA2.out HR2.out (rosOf_length os ko ids) HBD.out HX1.out HX3.out h12)
      KpT.trans (KpT.putObj rfl HX2.out.1.size) (Below.refl _ _) (fun _ => rfl)
      (fun pre W => HoursAt w2 W #[Value.int IntKind.i64 n, Value.slice a zs.length cap, Value.int IntKind.i64 v0, Value.int IntKind.i64 v1, Value.int IntKind.i64 v2, Value.int IntKind.i64 v3, Value.int IntKind.i64 v4, Value.slice (some ⟨g, 0, none⟩) ids.length ids.length] (waitL n zs (rosOf os ko ids) v1 v3 pre) ∧ W1.heap.size < W.heap.size)
      (fun _ _ _ => False)
      (OwnFrom.and (HoursAt.own' w2 _ (fun pre => waitL n zs (rosOf os ko ids) v1 v3 pre) _ HX2.out.1.size) (fun _ _ _ _ hs hg _ => Nat.lt_of_lt_of_le hs hg.size))
      (fun _ _ _ _ _ hs _ _ => hs)
      ⟨HX2.out, by simp⟩
      (fun x a' W => ∃ Bv, W1.heap.size < Bv ∧ W.heap[Bv]? = some (.cells #[.int .i64 (og6 (rosOf os ko ids) x.val 0), .int .i64 (arrV n zs (rosOf os ko ids) v1 v3 x.val), .int .i64 (startV n zs (rosOf os ko ids) v1 v3 x.val), .int .i64 (nowT n zs (rosOf os ko ids) v1 v3 (x.val + 1))] 66 (0, 0)) ∧ a' = { tmps := #[.agg #[.int .i64 n, .slice a zs.length cap, .slice ao ko co, .slice av kv cv, .int .i64 fine], .agg #[.int .i64 veh, .slice bi ids.length c2], .pointer (some ⟨w.heap.size, 0, none⟩), .pointer (some ⟨w.heap.size + 1, 0, none⟩), .int .i64 0, .pointer (some ⟨w2.heap.size, 0, none⟩), .int .i64 0, .pointer (some ⟨w2.heap.size + 1, 0, none⟩), undef, .pointer (some ⟨Bv, 0, none⟩), .tuple #[.agg #[.int .i64 n, .slice a zs.length cap, .int .i64 v0, .int .i64 v1, .int .i64 v2, .int .i64 v3, .int .i64 v4, .slice (some ⟨g, 0, none⟩) ids.length ids.length], .int .i64 0], .agg #[.int .i64 n, .slice a zs.length cap, .slice ao ko co, .slice av kv cv, .int .i64 fine], .agg #[.int .i64 veh, .slice bi ids.length c2], .tuple #[.agg #[.int .i64 n, .slice a zs.length cap, .int .i64 v0, .int .i64 v1, .int .i64 v2, .int .i64 v3, .int .i64 v4, .slice (some ⟨g, 0, none⟩) ids.length ids.length], .int .i64 0], .agg #[.int .i64 n, .slice a zs.length cap, .int .i64 v0, .int .i64 v1, .int .i64 v2, .int .i64 v3, .int .i64 v4, .slice (some ⟨g, 0, none⟩) ids.length ids.length], .int .i64 0, .int .i64 0, .bool false, .agg #[.int .i64 n, .slice a zs.length cap, .int .i64 v0, .int .i64 v1, .int .i64 v2, .int .i64 v3, .int .i64 v4, .slice (some ⟨g, 0, none⟩) ids.length ids.length], .func (.func 56) #[] #[.pointer (some ⟨W1.heap.size, 0, none⟩)], .agg #[.int .i64 (og6 (rosOf os ko ids) x.val 0), .int .i64 (og6 (rosOf os ko ids) x.val 1), .int .i64 (og6 (rosOf os ko ids) x.val 2), .int .i64 (og6 (rosOf os ko ids) x.val 3), .int .i64 (og6 (rosOf os ko ids) x.val 4), .int .i64 (og6 (rosOf os ko ids) x.val 5)], .agg #[.int .i64 (og6 (rosOf os ko ids) x.val 0), .int .i64 (arrV n zs (rosOf os ko ids) v1 v3 x.val), .int .i64 (startV n zs (rosOf os ko ids) v1 v3 x.val), .int .i64 (nowT n zs (rosOf os ko ids) v1 v3 (x.val + 1))], undef, undef, undef, undef, undef, undef, undef, undef], defers := [] })
      (fun x a' _ X Y row hs hg hr => by
        obtain ⟨Bv, g2, g4, g5⟩ := hs
        exact ⟨Bv, g2, row_own (cs := fun _ : Unit => _) () X Y row g4 hg hr, g5⟩)
      ?assign ?body ?done ?stop
    case assign =>
      rintro l pre x W K ⟨hi, hsz⟩ hK
      gi_wp2
      exact hK _ _ ((KeepsOthers.alloc _ _).from _) (KpT.alloc _ _ hi.1.size) ⟨hi.below ((Below.refl _ _).alloc (Nat.le_refl _) _), by simp; omega⟩ ⟨W.heap.size, hsz, heap_alloc_new _ _, rfl⟩
    case body =>
      rintro l pre x a' W hl hlr ⟨hi, hsz⟩ ⟨Bv, g2, g4, rfl⟩ hlt
      have HI : Hid (HoursAt w2 W _ _) := hi
      have hwb := HWB.out pre
      have hxb := arrV_bd (home := v1) HMAT.out HBD.out HX3.out h12 x.isLt
      have HSN := waitL_snoc n zs (rosOf os ko ids) v1 v3 pre x
      have hz := HZ.out
      obtain ⟨wp, HWP⟩ : ∃ t, Hid (waitL n zs (rosOf os ko ids) v1 v3 pre = t) := ⟨_, rfl⟩
      obtain ⟨xa, HXA⟩ : ∃ t, Hid (arrV n zs (rosOf os ko ids) v1 v3 x.val = t) := ⟨_, rfl⟩
      obtain ⟨xs, HXS⟩ : ∃ t, Hid (startV n zs (rosOf os ko ids) v1 v3 x.val = t) := ⟨_, rfl⟩
      rw [HWP.out] at hwb HSN
      rw [HXA.out, HXS.out] at hxb HSN
      have HSN' : Hid (waitL n zs (rosOf os ko ids) v1 v3 (pre ++ [x]) = wp + (xs - xa)) := HSN
      have j1 : W.cell? ⟨Bv, 1, none⟩ = some (.int .i64 xa) := by rw [cell_of_row _ _ 1 _ _ _ g4]; simp [HXA.out]
      have j2 : W.cell? ⟨Bv, 2, none⟩ = some (.int .i64 xs) := by rw [cell_of_row _ _ 2 _ _ _ g4]; simp [HXS.out]
      have cc : W.cell? ⟨w2.heap.size + 1, 0, none⟩ = some (.int .i64 wp) := by rw [cell_of_row _ _ 0 _ _ _ hi.2.2]; simp [HWP.out]
      have fc := fun i => frozen_of_row _ _ i _ _ hi.2.2
      clear hi g4 HSN
      gi_wp2
      refine ⟨(KeepsOthers.setCell _ _ _).from _, KpT.set _ _ _ _ (by omega) (by omega), ?_, ?_⟩
      · rw [HSN'.out]
        exact HI.out.set _
      · simpa [World.setCell] using hsz
    case done =>
      rintro D ys W hD hS ⟨hi, hsz⟩ hK
      rw [waitL_all _ _ _ _ _ _ hS, HV1'.out] at hi
      have HI : Hid (HoursAt w2 W _ _) := hi
      have HD : Hid (w2.heap.size ≤ D) := Nat.le_trans HX2.out.1.size hD
      have cc : W.cell? ⟨w2.heap.size + 1, 0, none⟩ = some (.int .i64 r) := by rw [cell_of_row _ _ 0 _ _ _ hi.2.2]; simp
      have HK : Hid (W.heap[D]? = some (.deferred (some []))) := hK
      clear hi hsz hS hD hK
      go_wp2
      refine ⟨by simp, .inl ⟨_, _, rfl, run_takeDeferred HK.out, ?_⟩⟩
      exact ⟨_, results_tmp rfl _ _ _, rfl, (HB2.out.trans (HI.out.1.mono HB2.out.size)).trans (belowK_b (w := w2) HB2.out.size W D _ _ HD.out HK.out rfl rfl)⟩
    case stop =>
      rintro D c pre W _ _ h _
      exact h.elim

end Go.Proofs.Ytoaleabfhcabdaa
