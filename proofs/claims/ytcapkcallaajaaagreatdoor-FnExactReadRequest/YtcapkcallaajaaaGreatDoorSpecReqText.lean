import Derived.Test.YtcapkcallaajaaaGreatDoorPack2
import Derived.Test.YtcapkcallaajaaaGreatDoorPack20
import Derived.Test.YtcapkcallaajaaaGreatDoorSpecPlanText
import Derived.Deep.RegionHeld3
namespace Go.Proofs.YtcapkcallaajaaaGreatDoor
open Go.RowKit
theorem txt_lit (l nm : List UInt8) : (ByteArray.mk l.toArray) ++ txt nm = txt (l ++ nm) := txt_app l nm
set_option maxRecDepth 20000 in
set_option maxHeartbeats 8000000 in
theorem reqText_any (k id sd st n f : Int) (nm : List UInt8) (a ao av ra la : Option Addr) (zl cap ko co kv cv rn rc ln lc : Nat) (zs os vs L : List Int) (S : List RT) (w : World) (hA : QA w a ao av ra la zs os vs S L) (hZ : QZ nm zl cap ko kv rn ln zs os vs S L) :
 Calls Tryz.prog 14 #[.agg #[.int .i64 k, .string (txt nm), .int .i64 id, .int .i64 sd, .int .i64 st, .int .i64 n, .slice a zl cap, .slice ao ko co, .slice av kv cv, .int .i64 f, .slice ra rn rc, .slice la ln lc]] w fun e w' => e = .returned (.string (txt (QV.txt ⟨k, nm, id, sd, st, ⟨n, f, zs, os, vs, ko, kv⟩, S, L⟩))) /\ Below w.heap.size w w' := by
 have QW := hdn (hA)
 have ZW := hdn (hZ)
 clear hA hZ
 have R0 : Hid ((w.alloc (.cells #[.int .i64 k, .string (txt nm), .int .i64 id, .int .i64 sd, .int .i64 st, .int .i64 n, .slice a zl cap, .slice ao ko co, .slice av kv cv, .int .i64 f, .slice ra rn rc, .slice la ln lc] 33)).heap[w.heap.size]? = some (.cells #[.int .i64 k, .string (txt nm), .int .i64 id, .int .i64 sd, .int .i64 st, .int .i64 n, .slice a zl cap, .slice ao ko co, .slice av kv cv, .int .i64 f, .slice ra rn rc, .slice la ln lc] 33 (0, 0))) := heap_alloc_new _ _
 have HB := hdn ((Below.refl w.heap.size w).alloc (Nat.le_refl _) (.cells #[.int .i64 k, .string (txt nm), .int .i64 id, .int .i64 sd, .int .i64 st, .int .i64 n, .slice a zl cap, .slice ao ko co, .slice av kv cv, .int .i64 f, .slice ra rn rc, .slice la ln lc] 33))
 have C := l11Form_any k id sd st n f nm a ao av ra la zl cap ko co kv cv rn rc ln lc zs os vs L S _ (QW.out.below HB.out) ZW.out
 obtain ⟨ok, HOK⟩ := nmd (QV.ok ⟨k, nm, id, sd, st, ⟨n, f, zs, os, vs, ko, kv⟩, S, L⟩)
 obtain ⟨X, HX⟩ := nmd (txt (QV.txt ⟨k, nm, id, sd, st, ⟨n, f, zs, os, vs, ko, kv⟩, S, L⟩))
 rw [HOK.out] at C
 rw [HX.out]
 obtain ⟨d0, d1, d2, d3, d4, d5, d6, d7, d8, d9, d10, d11⟩ := cells12q R0.out
 go_enter Tryz.func14, Tryz.ntmps14
 go_wp2_with fail
 clear d0 d1 d2 d3 d4 d5 d6 d7 d8 d9 d10 d11
 generalize (w.alloc (.cells #[.int .i64 k, .string (txt nm), .int .i64 id, .int .i64 sd, .int .i64 st, .int .i64 n, .slice a zl cap, .slice ao ko co, .slice av kv cv, .int .i64 f, .slice ra rn rc, .slice la ln lc] 33)) = W0 at *
 refine C.mono ?_
 rintro e w1 ⟨rfl, hb⟩
 have R1 := hdn (below_row hb (row_lt R0.out) R0.out)
 have B1 := hdn (HB.out.trans (hb.mono HB.out.size))
 clear hb R0 HB C
 have A1 := hdn (QW.out.below B1.out)
 clear QW
 cases ok
 · have e : X = txt [] := by rw [<- HX.out]; unfold QV.txt; rw [HOK.out]; rfl
   go_wp2
   go_ret
   exact ⟨by rw [e]; rfl, B1.out⟩
 have HXT : Hid (X = txt (QV.tx ⟨k, nm, id, sd, st, ⟨n, f, zs, os, vs, ko, kv⟩, S, L⟩)) := by show _ = _; rw [<- HX.out]; unfold QV.txt; rw [HOK.out, if_pos rfl]
 clear HX
 have HK := HOK.out
 unfold QV.ok at HK
 simp only [Bool.and_eq_true] at HK
 obtain ⟨hnm, hkk⟩ := HK
 have HKK := hdn (hkk)
 clear hkk
 have hl12 : nm.length <= 12 := by unfold nmB at hnm; simp only [Bool.and_eq_true, decide_eq_true_eq] at hnm; omega
 clear hnm HOK
 have HTL := fun l => txt_lit l nm
 have hsA : (txt nm).size <= 12 := by rw [txt_size]; exact hl12
 obtain ⟨A, HA⟩ := nmd (txt nm)
 rw [HA.out] at R1 HTL hsA
 obtain ⟨d0, d1, d2, d3, d4, d5, d6, d7, d8, d9, d10, d11⟩ := cells12q R1.out
 by_cases k1 : k = 1
 · subst k1
   have hkk := HKK.out
   simp only [if_true, Bool.and_eq_true] at hkk
   have hc : caseB n zs os vs ko kv f = true := hkk.1
   clear hkk HKK
   have hcl : (txt (caseL n f zs os vs ko kv)).size <= 20000 := by rw [txt_size]; exact tx_len (c := ⟨n, f, zs, os, vs, ko, kv⟩) hc
   have C := fun W (h : QA W a ao av ra la zs os vs S L) => specCaseText_cap n f a ao av cap ko co kv cv zs os vs W h.iz h.io h.iv ZW.out.on ZW.out.vn (by have := ZW.out.kb; omega) (by have := ZW.out.kb; omega) (by rw [ZW.out.zn]; exact ZW.out.cb)
   rw [ZW.out.zn] at C
   rw [if_pos hc] at C
   have CH := hdn C
   clear C
   have e : X = ⟨#[115, 110, 97, 112, 32]⟩ ++ A ++ ⟨#[10]⟩ ++ txt (caseL n f zs os vs ko kv) := by
    have e1 : ⟨#[115, 110, 97, 112, 32]⟩ ++ A = txt (wSnap ++ 32 :: nm) := HTL [115, 110, 97, 112, 32]
    rw [HXT.out, e1]
    show _ = txt (wSnap ++ 32 :: nm) ++ txt [10] ++ _
    rw [txt_app, txt_app]
    have e3 : QV.tx ⟨1, nm, id, sd, st, ⟨n, f, zs, os, vs, ko, kv⟩, S, L⟩ = lineL (wSnap ++ 32 :: nm) [] ++ caseL n f zs os vs ko kv := rfl
    rw [e3, lineL_app]
    simp [idsT]
   clear HXT HTL hc
   obtain ⟨T, HT⟩ := nmd (txt (caseL n f zs os vs ko kv))
   rw [HT.out] at e hcl CH
   clear HT
   have s0 : (ByteArray.mk #[115, 110, 97, 112, 32]).size = 5 := rfl
   have s1 : (⟨#[115, 110, 97, 112, 32]⟩ ++ A : ByteArray).size <= 30 := by rw [ByteArray.size_append]; omega
   have t1 : ¬ (9223372036854775807 < (⟨#[115, 110, 97, 112, 32]⟩ : ByteArray).size + A.size) := by omega
   have t2 : ¬ (9223372036854775807 < 5 + A.size) := by omega
   have s2 : (ByteArray.mk #[10]).size = 1 := rfl
   have s3 : (⟨#[115, 110, 97, 112, 32]⟩ ++ A ++ ⟨#[10]⟩ : ByteArray).size <= 31 := by rw [ByteArray.size_append]; omega
   have t3 : ¬ (9223372036854775807 < (⟨#[115, 110, 97, 112, 32]⟩ ++ A : ByteArray).size + (⟨#[10]⟩ : ByteArray).size) := by omega
   have t4 : ¬ (9223372036854775807 < (⟨#[115, 110, 97, 112, 32]⟩ ++ A : ByteArray).size + 1) := by omega
   have t6 : ¬ (9223372036854775807 < 5 + A.size + 1) := by omega
   have t7 : ¬ (9223372036854775807 < 5 + A.size + (⟨#[10]⟩ : ByteArray).size) := by omega
   have t5 : ¬ (9223372036854775807 < (⟨#[115, 110, 97, 112, 32]⟩ ++ A ++ ⟨#[10]⟩ : ByteArray).size + T.size) := by omega
   have t8 : ¬ (9223372036854775807 < 5 + A.size + 1 + T.size) := by omega
   go_upto_region 5 with fail
   have kS := And.intro d1 (And.intro d5 (And.intro d6 (And.intro d7 (And.intro d8 d9))))
   go_region_held3 (fun W => W.cell? ⟨w.heap.size, 1, none⟩ = some (.string A) /\ W.cell? ⟨w.heap.size, 5, none⟩ = some (.int .i64 n) /\ W.cell? ⟨w.heap.size, 6, none⟩ = some (.slice a zl cap) /\ W.cell? ⟨w.heap.size, 7, none⟩ = some (.slice ao ko co) /\ W.cell? ⟨w.heap.size, 8, none⟩ = some (.slice av kv cv) /\ W.cell? ⟨w.heap.size, 9, none⟩ = some (.int .i64 f)) (first | with_reducible exact kS | go_keep) ((first
    | (go_at_call 25
       refine (CH.out _ (by first | exact A1.out | exact A1.out.below (Below.refl _ _).drew)).mono ?_
       rintro e w3 ⟨rfl, hb3⟩
       have B3 := hdn (B1.out.trans ((by first | exact hb3 | exact (Below.refl _ _).drew.trans hb3 : Below w1.heap.size w1 w3).mono B1.out.size))
       have B4 := hdn ((by first | exact hb3 | exact (Below.refl _ _).drew.trans hb3 : Below w1.heap.size w1 w3))
       have kS := And.intro (keepC d1 B4.out) (And.intro (keepC d5 B4.out) (And.intro (keepC d6 B4.out) (And.intro (keepC d7 B4.out) (And.intro (keepC d8 B4.out) (keepC d9 B4.out)))))
       clear hb3)))
   all_goals
    go_wp2
    go_ret
    exact ⟨by rw [e]; rfl, B3.out⟩
 have b1 : (k == 1) = false := by simpa using k1
 by_cases k2 : k = 2
 · subst k2
   clear k1 b1
   have hkk := HKK.out
   simp only [show ¬ ((2 : Int) = 1) by decide, if_false, if_true, Bool.and_eq_true] at hkk
   have hf : formB S L = true := hkk.2.1
   have hid := inB_true hkk.2.2.2
   clear hkk HKK
   have HSW : Hid (SmallW [id]) := fun x hx => by rw [List.mem_singleton] at hx; subst hx; omega
   clear hid
   have hpl : (txt (planL S L)).size <= 2000 := by rw [txt_size]; exact planL_len hf
   have hll : (txt (lineL (wPlan ++ 32 :: nm) [id])).size <= 1000 := by
    have h1 : (numsTo [id] (0 + 1)).length <= 22 := numsTo_lenW [id] HSW.out 1 (by simp)
    rw [txt_size]
    unfold lineL
    simp only [List.length_append, List.length_cons, List.length_nil, wPlan] at h1 ⊢
    omega
   have C := fun W (h : QA W a ao av ra la zs os vs S L) => specPlanText_any ra la rc lc S L W h.rs h.il (by rw [ZW.out.sn]; exact ZW.out.rb.1) (by rw [ZW.out.ll]; exact ZW.out.rb.2) ZW.out.ib ZW.out.ad
   rw [ZW.out.sn, ZW.out.ll] at C
   rw [if_pos hf] at C
   have CH := hdn C
   clear C
   have e : X = txt (lineL (wPlan ++ 32 :: nm) [id]) ++ txt (planL S L) := by
    rw [HXT.out, txt_app]
    rfl
   have HCL : Hid (∀ g c V, IntsAt V (some ⟨g, 0, none⟩) [id] -> Calls Tryz.prog 28 #[.string (⟨#[112, 108, 97, 110, 32]⟩ ++ A), .slice (some ⟨g, 0, none⟩) 1 c] V fun e w' => e = .returned (.string (txt (lineL (wPlan ++ 32 :: nm) [id]))) /\ Below V.heap.size V w') := fun g c V h => by
    have C := l2LineW_any (wPlan ++ 32 :: nm) (some ⟨g, 0, none⟩) c [id] V h HSW.out (by simp) (by simp [wPlan]; omega)
    rw [show txt (wPlan ++ 32 :: nm) = ⟨#[112, 108, 97, 110, 32]⟩ ++ A from (HTL [112, 108, 97, 110, 32]).symm] at C
    exact C
   clear HXT HTL hf HSW
   obtain ⟨T, HT⟩ := nmd (txt (planL S L))
   obtain ⟨U, HU⟩ := nmd (txt (lineL (wPlan ++ 32 :: nm) [id]))
   rw [HT.out] at e hpl CH
   rw [HU.out] at e hll HCL
   clear HT HU
   have s0 : (ByteArray.mk #[112, 108, 97, 110, 32]).size = 5 := rfl
   have s1 : (⟨#[112, 108, 97, 110, 32]⟩ ++ A : ByteArray).size <= 30 := by rw [ByteArray.size_append]; omega
   have t1 : ¬ (9223372036854775807 < (⟨#[112, 108, 97, 110, 32]⟩ : ByteArray).size + A.size) := by omega
   have t2 : ¬ (9223372036854775807 < 5 + A.size) := by omega
   have t5 : ¬ (9223372036854775807 < U.size + T.size) := by omega
   have BZ : Hid (Below w1.heap.size w1 (w1.alloc (.cells #[.int .i64 id] 2)).drew) := ((Below.refl _ _).alloc (Nat.le_refl _) _).drew
   go_upto_region 7 with fail
   have kS := And.intro d1 (And.intro d2 (And.intro d10 d11))
   go_region_held3 (fun W => W.cell? ⟨w.heap.size, 1, none⟩ = some (.string A) /\ W.cell? ⟨w.heap.size, 2, none⟩ = some (.int .i64 id) /\ W.cell? ⟨w.heap.size, 10, none⟩ = some (.slice ra rn rc) /\ W.cell? ⟨w.heap.size, 11, none⟩ = some (.slice la ln lc)) (first | with_reducible exact kS | go_keep) ((first
    | (go_at_call 28
       refine (HCL.out _ _ _ (by exact IntsAt.of_row (heap_alloc_new _ _))).mono ?_
       rintro e w3 ⟨rfl, hb3⟩
       have B3 : Hid (Below w1.heap.size w1 w3) := BZ.out.trans (hb3.mono BZ.out.size)
       have kS := And.intro (keepC d1 B3.out) (And.intro (keepC d2 B3.out) (And.intro (keepC d10 B3.out) (keepC d11 B3.out)))
       clear hb3)
    | (go_at_call 26
       refine (CH.out _ (A1.out.below B3.out)).mono ?_
       rintro e w4 ⟨rfl, hb4⟩
       have B4 : Hid (Below w1.heap.size w1 w4) := B3.out.trans (hb4.mono B3.out.size)
       have kS := And.intro (keepC d1 B4.out) (And.intro (keepC d2 B4.out) (And.intro (keepC d10 B4.out) (keepC d11 B4.out)))
       clear hb4)))
   all_goals
    have B5 := hdn (B1.out.trans (B4.out.mono B1.out.size))
    go_wp2
    go_ret
    exact ⟨by rw [e]; rfl, B5.out⟩
 have b2 : (k == 2) = false := by simpa using k2
 by_cases k3 : k = 3
 · subst k3
   clear k1 b1 k2 b2
   have hkk := HKK.out
   simp only [show ¬ ((3 : Int) = 1) by decide, show ¬ ((3 : Int) = 2) by decide, if_false, if_true, Bool.and_eq_true] at hkk
   have h1 := inB_true hkk.2.2.1
   have h2 := inB_true hkk.2.2.2.1
   have h3 := inB_true hkk.2.2.2.2
   have HSW : Hid (SmallW [id, sd, st]) := fun x hx => by
    simp only [List.mem_cons, List.not_mem_nil, or_false] at hx
    rcases hx with e | e | e <;> subst e <;> omega
   clear h1 h2 h3
   clear hkk HKK
   have e : X = txt (lineL (wSearch ++ 32 :: nm) [id, sd, st]) := by
    rw [HXT.out]
    have e3 : QV.tx ⟨3, nm, id, sd, st, ⟨n, f, zs, os, vs, ko, kv⟩, S, L⟩ = lineL (wSearch ++ 32 :: nm) [id, sd, st] ++ [] := rfl
    rw [e3, List.append_nil]
   have HCL : Hid (∀ g c V, IntsAt V (some ⟨g, 0, none⟩) [id, sd, st] -> Calls Tryz.prog 28 #[.string (⟨#[115, 101, 97, 114, 99, 104, 32]⟩ ++ A), .slice (some ⟨g, 0, none⟩) 3 c] V fun e w' => e = .returned (.string (txt (lineL (wSearch ++ 32 :: nm) [id, sd, st]))) /\ Below V.heap.size V w') := fun g c V h => by
    have C := l2LineW_any (wSearch ++ 32 :: nm) (some ⟨g, 0, none⟩) c [id, sd, st] V h HSW.out (by simp) (by simp [wSearch]; omega)
    rw [show txt (wSearch ++ 32 :: nm) = ⟨#[115, 101, 97, 114, 99, 104, 32]⟩ ++ A from (HTL [115, 101, 97, 114, 99, 104, 32]).symm] at C
    exact C
   clear HXT HTL HSW
   obtain ⟨U, HU⟩ := nmd (txt (lineL (wSearch ++ 32 :: nm) [id, sd, st]))
   rw [HU.out] at e HCL
   clear HU
   have s0 : (ByteArray.mk #[115, 101, 97, 114, 99, 104, 32]).size = 7 := rfl
   have s1 : (⟨#[115, 101, 97, 114, 99, 104, 32]⟩ ++ A : ByteArray).size <= 30 := by rw [ByteArray.size_append]; omega
   have t1 : ¬ (9223372036854775807 < (⟨#[115, 101, 97, 114, 99, 104, 32]⟩ : ByteArray).size + A.size) := by omega
   have t2 : ¬ (9223372036854775807 < 7 + A.size) := by omega
   have BZ : Hid (Below w1.heap.size w1 (w1.alloc (.cells #[.int .i64 id, .int .i64 sd, .int .i64 st] 2))) := (Below.refl _ _).alloc (Nat.le_refl _) _
   go_wp2_with fail
   refine (HCL.out _ _ _ (by exact IntsAt.of_row (heap_alloc_new _ _))).mono ?_
   rintro e w3 ⟨rfl, hb3⟩
   have B3 : Hid (Below w.heap.size w w3) := B1.out.trans ((BZ.out.trans (hb3.mono BZ.out.size)).mono B1.out.size)
   go_wp2
   go_ret
   exact ⟨by rw [e]; rfl, B3.out⟩
 have b3 : (k == 3) = false := by simpa using k3
 by_cases k4 : k = 4
 · subst k4
   clear k1 b1 k2 b2 k3 b3
   have hkk := HKK.out
   simp only [show ¬ ((4 : Int) = 1) by decide, show ¬ ((4 : Int) = 2) by decide, show ¬ ((4 : Int) = 3) by decide, if_false, if_true, Bool.and_eq_true] at hkk
   have h1 := inB_true hkk.2.2.2
   have HSW : Hid (SmallW [id]) := fun x hx => by rw [List.mem_singleton] at hx; subst hx; omega
   clear h1
   clear hkk HKK
   have e : X = txt (lineL (wPublish ++ 32 :: nm) [id]) := by
    rw [HXT.out]
    have e3 : QV.tx ⟨4, nm, id, sd, st, ⟨n, f, zs, os, vs, ko, kv⟩, S, L⟩ = lineL (wPublish ++ 32 :: nm) [id] ++ [] := rfl
    rw [e3, List.append_nil]
   have HCL : Hid (∀ g c V, IntsAt V (some ⟨g, 0, none⟩) [id] -> Calls Tryz.prog 28 #[.string (⟨#[112, 117, 98, 108, 105, 115, 104, 32]⟩ ++ A), .slice (some ⟨g, 0, none⟩) 1 c] V fun e w' => e = .returned (.string (txt (lineL (wPublish ++ 32 :: nm) [id]))) /\ Below V.heap.size V w') := fun g c V h => by
    have C := l2LineW_any (wPublish ++ 32 :: nm) (some ⟨g, 0, none⟩) c [id] V h HSW.out (by simp) (by simp [wPublish]; omega)
    rw [show txt (wPublish ++ 32 :: nm) = ⟨#[112, 117, 98, 108, 105, 115, 104, 32]⟩ ++ A from (HTL [112, 117, 98, 108, 105, 115, 104, 32]).symm] at C
    exact C
   clear HXT HTL HSW
   obtain ⟨U, HU⟩ := nmd (txt (lineL (wPublish ++ 32 :: nm) [id]))
   rw [HU.out] at e HCL
   clear HU
   have s0 : (ByteArray.mk #[112, 117, 98, 108, 105, 115, 104, 32]).size = 8 := rfl
   have s1 : (⟨#[112, 117, 98, 108, 105, 115, 104, 32]⟩ ++ A : ByteArray).size <= 30 := by rw [ByteArray.size_append]; omega
   have t1 : ¬ (9223372036854775807 < (⟨#[112, 117, 98, 108, 105, 115, 104, 32]⟩ : ByteArray).size + A.size) := by omega
   have t2 : ¬ (9223372036854775807 < 8 + A.size) := by omega
   have BZ : Hid (Below w1.heap.size w1 (w1.alloc (.cells #[.int .i64 id] 2))) := (Below.refl _ _).alloc (Nat.le_refl _) _
   go_wp2_with fail
   refine (HCL.out _ _ _ (by exact IntsAt.of_row (heap_alloc_new _ _))).mono ?_
   rintro e w3 ⟨rfl, hb3⟩
   have B3 : Hid (Below w.heap.size w w3) := B1.out.trans ((BZ.out.trans (hb3.mono BZ.out.size)).mono B1.out.size)
   go_wp2
   go_ret
   exact ⟨by rw [e]; rfl, B3.out⟩
 have b4 : (k == 4) = false := by simpa using k4
 have e : X = ⟨#[115, 119, 101, 101, 112, 32]⟩ ++ A ++ ⟨#[10]⟩ := by
  have e1 : ⟨#[115, 119, 101, 101, 112, 32]⟩ ++ A = txt (wSweep ++ 32 :: nm) := HTL [115, 119, 101, 101, 112, 32]
  rw [HXT.out, e1]
  show _ = txt (wSweep ++ 32 :: nm) ++ txt [10]
  rw [txt_app]
  have e3 : QV.tx ⟨k, nm, id, sd, st, ⟨n, f, zs, os, vs, ko, kv⟩, S, L⟩ = lineL (wSweep ++ 32 :: nm) [] ++ [] := by
   unfold QV.tx wOf QV.nums QV.rest
   simp only [k1, k2, k3, k4, if_false, or_self]
  rw [e3, lineL_app]
  simp [idsT]
 clear HXT HTL HKK
 have s0 : (ByteArray.mk #[115, 119, 101, 101, 112, 32]).size = 6 := rfl
 have s1 : (⟨#[115, 119, 101, 101, 112, 32]⟩ ++ A : ByteArray).size <= 30 := by rw [ByteArray.size_append]; omega
 have t1 : ¬ (9223372036854775807 < (⟨#[115, 119, 101, 101, 112, 32]⟩ : ByteArray).size + A.size) := by omega
 have t2 : ¬ (9223372036854775807 < 6 + A.size) := by omega
 have s2 : (ByteArray.mk #[10]).size = 1 := rfl
 have s3 : (⟨#[115, 119, 101, 101, 112, 32]⟩ ++ A ++ ⟨#[10]⟩ : ByteArray).size <= 31 := by rw [ByteArray.size_append]; omega
 have t3 : ¬ (9223372036854775807 < (⟨#[115, 119, 101, 101, 112, 32]⟩ ++ A : ByteArray).size + (⟨#[10]⟩ : ByteArray).size) := by omega
 have t4 : ¬ (9223372036854775807 < (⟨#[115, 119, 101, 101, 112, 32]⟩ ++ A : ByteArray).size + 1) := by omega
 have t6 : ¬ (9223372036854775807 < 6 + A.size + 1) := by omega
 have t7 : ¬ (9223372036854775807 < 6 + A.size + (⟨#[10]⟩ : ByteArray).size) := by omega
 clear k1 k2 k3 k4
 go_wp2
 go_ret
 exact ⟨by rw [e]; rfl, B1.out⟩
end Go.Proofs.YtcapkcallaajaaaGreatDoor
