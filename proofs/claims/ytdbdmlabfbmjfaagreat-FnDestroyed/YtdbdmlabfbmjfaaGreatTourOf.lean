import Derived.Test.YtdbdmlabfbmjfaaGreatPack36
import Derived.Test.YtdbdmlabfbmjfaaGreatPack37
namespace Go.Proofs.YtdbdmlabfbmjfaaGreat
open Go.RowKit
set_option maxHeartbeats 1000000 in
theorem tourOf_any (n fine veh : Int) (a ao av bi : Option Addr) (cap ko co kv cv c2 : Nat) (zs os vs ids : List Int) (w : World) (hA : IntsAt w a zs) (hO : IntsAt w ao os) (hV : IntsAt w av vs) (hI : IntsAt w bi ids) (hlo : os.length = ko * 6) (hlv : vs.length = kv * 5) (hko : ko <= 9223372036854775807) (hkv : kv <= 9223372036854775807) (hli : ids.length <= 9223372036854775807) (hc2 : ids.length <= c2) (hcB : caseB n zs os vs ko kv fine = true) :
   Calls Tryz.prog 80 #[.agg #[.int .i64 n, .slice a zs.length cap, .slice ao ko co, .slice av kv cv, .int .i64 fine], .agg #[.int .i64 veh, .slice bi ids.length c2]] w fun e w' => Below w.heap.size w w' /\ ((codeV true n zs os vs ko kv veh ids ≠ 0 /\ e = .returned (.tuple #[.agg #[Value.int .i64 0, Value.slice none 0 0, Value.int .i64 0, Value.int .i64 0, Value.int .i64 0, Value.int .i64 0, Value.int .i64 0, Value.slice none 0 0], .int .i64 (codeV true n zs os vs ko kv veh ids)])) ∨ (codeV true n zs os vs ko kv veh ids = 0 /\ ∃ g, w.heap.size <= g /\ e = .returned (.tuple #[.agg #[.int .i64 n, .slice a zs.length cap, .int .i64 (fnd5F vs kv veh 0), .int .i64 (fnd5F vs kv veh 1), .int .i64 (fnd5F vs kv veh 2), .int .i64 (fnd5F vs kv veh 3), .int .i64 (fnd5F vs kv veh 4), .slice (some ⟨g, 0, none⟩) ids.length ids.length], .int .i64 0]) /\ IntsAt w' (some ⟨g, 0, none⟩) (rosOf os ko ids))) := by
 have HA : Hid (IntsAt w a zs) := hA
 have HO : Hid (IntsAt w ao os) := hO
 have HV : Hid (IntsAt w av vs) := hV
 have HI : Hid (IntsAt w bi ids) := hI
 have HLO : Hid _ := hlo
 have HLV : Hid _ := hlv
 clear hA hO hV hI hlo hlv
 have HC : Hid (caseB n zs os vs ko kv fine = true) := hcB
 clear hcB
 have HC0 : Hid (CRT w (((w.alloc (.cells #[Value.int .i64 n, Value.slice a zs.length cap, Value.slice ao ko co, Value.slice av kv cv, Value.int .i64 fine] 30)).alloc (.cells #[Value.int .i64 veh, Value.slice bi ids.length c2] 57)).alloc (.cells #[Value.int .i64 0, Value.slice none 0 0, Value.int .i64 0, Value.int .i64 0, Value.int .i64 0, Value.int .i64 0, Value.int .i64 0, Value.slice none 0 0] 124)) _ _ _) := CRT.new w _ _ _
 obtain ⟨r, HR⟩ : ∃ r, Hid (codeV true n zs os vs ko kv veh ids = r) := ⟨_, rfl⟩
 rw [HR.out]
 go_enter Tryz.func80, Tryz.ntmps80
 obtain ⟨c0, c1, c2', c3, c4⟩ := cells5 HC0.out.1.2.1
 obtain ⟨d0, d1⟩ := cells2 HC0.out.1.2.2
 go_wp2_with fail
 clear c0 c1 c2' c3 c4 d0 d1
 refine (loadedTour_any n fine veh a ao av bi cap ko co kv cv c2 zs os vs ids _ (HA.out.below HC0.out.1.1) (HO.out.below HC0.out.1.1) (HV.out.below HC0.out.1.1) (HI.out.below HC0.out.1.1) HLO.out HLV.out hko hkv hli hc2 HC.out).mono ?_
 rintro e w2 ⟨hb, ⟨hf, rfl⟩ | ⟨hf, g, hgg, rfl, hros⟩⟩
 · have C2 : Hid (CRT w (w2.alloc (Obj.cells #[Value.int .i64 0, Value.slice none 0 0, Value.int .i64 0, Value.int .i64 0, Value.int .i64 0, Value.int .i64 0, Value.int .i64 0, Value.slice none 0 0] 124)) _ _ _) := (HC0.out.below hb).alloc _
   have HRV : Hid (formV true vs os kv ko veh ids = r) := (codeV_form hf).symm.trans HR.out
   rw [HRV.out] at hf ⊢
   have hfb : (r == 0) = false := by simp [hf]
   have hfn : (r != 0) = true := by simp [hf]
   have HF : Hid (r ≠ 0) := hf
   clear hb hf HC0
   obtain ⟨t0, t1, t2, t3, t4, t5, t6, t7⟩ := cells8 C2.out.2
   have tf := fun i => frozen_of_row _ _ i _ _ C2.out.2
   go_wp2
   refine bodyPost_ret (v := .tuple #[.agg #[Value.int .i64 0, Value.slice none 0 0, Value.int .i64 0, Value.int .i64 0, Value.int .i64 0, Value.int .i64 0, Value.int .i64 0, Value.slice none 0 0], .int .i64 r]) (by simp [results, Tryz.results80, go_sem, t0, t1, t2, t3, t4, t5, t6, t7]) rfl ⟨?_, .inl ⟨HF.out, rfl⟩⟩
   repeat (first | with_reducible exact C2.out.b | refine Below.setCell ?_ (by simp <;> omega) _)
 · have HFV : Hid (formV true vs os kv ko veh ids = 0) := hf
   obtain ⟨hmat, hords, hvehs, hn1, _⟩ := caseB_parts HC.out
   obtain ⟨hvb1, hvb2, hvb3, hvb4⟩ := fnd5F_bd hvehs hn1 veh
   have HMAT : Hid (matB n zs = true) := hmat
   have HBD : Hid (RosBd n (rosOf os ko ids) ids.length) := rosBd_of hords hn1 ids
   have h12 := (stopsB_true (formV_zero hf).2.2).1
   have HRV := (codeV_hours (n := n) (zs := zs) hf).symm.trans HR.out
   obtain ⟨v0, G0⟩ : ∃ t, Hid (fnd5F vs kv veh 0 = t) := ⟨_, rfl⟩
   obtain ⟨v1, G1⟩ : ∃ t, Hid (fnd5F vs kv veh 1 = t) := ⟨_, rfl⟩
   obtain ⟨v2, G2⟩ : ∃ t, Hid (fnd5F vs kv veh 2 = t) := ⟨_, rfl⟩
   obtain ⟨v3, G3⟩ : ∃ t, Hid (fnd5F vs kv veh 3 = t) := ⟨_, rfl⟩
   obtain ⟨v4, G4⟩ : ∃ t, Hid (fnd5F vs kv veh 4 = t) := ⟨_, rfl⟩
   rw [G1.out, G3.out, G4.out] at HRV
   rw [G1.out] at hvb1
   rw [G3.out] at hvb3
   rw [G0.out, G1.out, G2.out, G3.out, G4.out]
   have HRV' : Hid (hoursV n zs (rosOf os ko ids) ids.length v1 v3 v4 = r) := HRV
   have HX1 : Hid (0 <= v1 /\ v1 < n) := hvb1
   have HX3 : Hid (0 <= v3 /\ v3 <= 1000000) := hvb3
   have C2 : Hid (CRT w (w2.alloc (Obj.cells #[Value.int .i64 n, Value.slice a zs.length cap, Value.int .i64 v0, Value.int .i64 v1, Value.int .i64 v2, Value.int .i64 v3, Value.int .i64 v4, Value.slice (some ⟨g, 0, none⟩) ids.length ids.length] 124)) _ _ _) := (HC0.out.below hb).alloc _
   have HRT : Hid ((w2.alloc (Obj.cells #[Value.int .i64 n, Value.slice a zs.length cap, Value.int .i64 v0, Value.int .i64 v1, Value.int .i64 v2, Value.int .i64 v3, Value.int .i64 v4, Value.slice (some ⟨g, 0, none⟩) ids.length ids.length] 124)).heap[w2.heap.size]? = _) := heap_alloc_new _ _
   have HROS : Hid (IntsAt (w2.alloc (Obj.cells #[Value.int .i64 n, Value.slice a zs.length cap, Value.int .i64 v0, Value.int .i64 v1, Value.int .i64 v2, Value.int .i64 v3, Value.int .i64 v4, Value.slice (some ⟨g, 0, none⟩) ids.length ids.length] 124)) (some ⟨g, 0, none⟩) (rosOf os ko ids)) := IntsAt.below hros ((Below.refl _ _).alloc (Nat.le_refl _) _)
   have HGT : Hid (w.heap.size + 2 < w2.heap.size) := row_lt (HC0.out.below hb).2
   have HGG : Hid (w.heap.size + 2 < g) := Nat.lt_of_lt_of_le (row_lt HC0.out.2) hgg
   clear hb hf hros HC0 hgg hmat hords hvehs hn1 hvb1 hvb2 hvb3 hvb4 HRV
   obtain ⟨t0, t1, t2, t3, t4, t5, t6, t7⟩ := cells8 HRT.out
   go_wp2_with fail
   clear t0 t1 t2 t3 t4 t5 t6 t7
   generalize w2.alloc (Obj.cells #[Value.int .i64 n, Value.slice a zs.length cap, Value.int .i64 v0, Value.int .i64 v1, Value.int .i64 v2, Value.int .i64 v3, Value.int .i64 v4, Value.slice (some ⟨g, 0, none⟩) ids.length ids.length] 124) = W2 at *
   generalize w2.heap.size = gt at *
   refine (hoursCode_any n v0 v1 v2 v3 v4 a _ cap ids.length _ zs (rosOf os ko ids) W2 HMAT.out (HA.out.below C2.out.1.1) HROS.out (rosOf_length os ko ids) HBD.out HX1.out HX3.out h12).mono ?_
   rintro e w3 ⟨rfl, hb⟩
   rw [HRV'.out]
   have C3 : Hid (CRT w w3 _ _ _) := C2.out.below hb
   have HRT3 : Hid (w3.heap[gt]? = _) := below_row hb (row_lt HRT.out) HRT.out
   have HROS3 : Hid (IntsAt w3 (some ⟨g, 0, none⟩) (rosOf os ko ids)) := HROS.out.below hb
   clear hb C2 HRT HROS
   obtain ⟨t0, t1, t2, t3, t4, t5, t6, t7⟩ := cells8 C3.out.2
   have tf := fun i => frozen_of_row _ _ i _ _ C3.out.2
   by_cases hr : r = 0
   · have hfn : (r != 0) = false := by simp [hr]
     have HF : Hid (r = 0) := hr
     clear hr
     obtain ⟨s0, s1, s2, s3, s4, s5, s6, s7⟩ := cells8 HRT3.out
     go_wp2
     refine bodyPost_ret (v := .tuple #[.agg #[Value.int .i64 n, Value.slice a zs.length cap, Value.int .i64 v0, Value.int .i64 v1, Value.int .i64 v2, Value.int .i64 v3, Value.int .i64 v4, Value.slice (some ⟨g, 0, none⟩) ids.length ids.length], .int .i64 0]) (by simp [results, Tryz.results80, go_sem, t0, t1, t2, t3, t4, t5, t6, t7]) rfl ⟨?_, .inr ⟨HF.out, g, by have := HGG.out; omega, ?_, ?_⟩⟩
     · repeat (first | with_reducible exact C3.out.b | refine Below.setCell ?_ (by simp <;> omega) _)
     · rw [G0.out, G1.out, G2.out, G3.out, G4.out]
     · repeat (first | with_reducible exact HROS3.out | with_reducible refine ints_set ?_ (by have := HGG.out; omega))
   · have hfn : (r != 0) = true := by simp [hr]
     have HF : Hid (r ≠ 0) := hr
     clear hr
     go_wp2
     refine bodyPost_ret (v := .tuple #[.agg #[Value.int .i64 0, Value.slice none 0 0, Value.int .i64 0, Value.int .i64 0, Value.int .i64 0, Value.int .i64 0, Value.int .i64 0, Value.slice none 0 0], .int .i64 r]) (by simp [results, Tryz.results80, go_sem, t0, t1, t2, t3, t4, t5, t6, t7]) rfl ⟨?_, .inl ⟨HF.out, rfl⟩⟩
     repeat (first | with_reducible exact C3.out.b | refine Below.setCell ?_ (by simp <;> omega) _)
end Go.Proofs.YtdbdmlabfbmjfaaGreat
