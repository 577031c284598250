import Derived.Test.YtkmghjogmedpbaaBestTurn
import Derived.Laws.EntriesVeiled
namespace Go.Proofs.Ytkmghjogmedpbaa
open Go.RowKit

set_option maxHeartbeats 1000000 in
theorem turns_any (cs : Array Value) (w : World) (n fine : Int) (a ao av : Option Addr) (cap ko co kv cv lz : Nat) (hcs : cs = #[.int .i64 n, .slice a lz cap, .slice ao ko co, .slice av kv cv, .int .i64 fine]) :
    Calls Try.prog 59 #[.agg cs] w fun e w' => ∃ pc, e = .returned (.agg #[Value.func (.func 82) #[] #[], Value.func (.func 83) #[] #[.pointer (some ⟨pc, 0, none⟩)]]) ∧ Below w.heap.size w w' ∧ w'.heap[pc]? = some (.cells cs 40 (0, 0)) := by
  subst hcs
  have hmf : ∀ (fn : Fn) (first cap : Array Value) (w : World), (Instr.makeFunc fn first cap).run Try.prog w = .ok (.func fn first cap) w := fun _ _ _ _ => rfl
  go_enter Try.func59, Try.ntmps59
  go_wp2
  have q : ∀ (cs : Array Value), ((w.alloc (.cells cs 40)).alloc (.cells #[Value.func (.func 82) #[] #[], Value.func (.func 83) #[] #[.pointer (some ⟨w.heap.size, 0, none⟩)]] 96)).heap[w.heap.size + 1]? = some (.cells #[Value.func (.func 82) #[] #[], Value.func (.func 83) #[] #[.pointer (some ⟨w.heap.size, 0, none⟩)]] 96 (0, 0)) := fun cs => heap_alloc2_new _ _ _
  obtain ⟨q0, q1⟩ := cells2 (q #[Value.int .i64 n, Value.slice a lz cap, Value.slice ao ko co, Value.slice av kv cv, Value.int .i64 fine])
  refine bodyPost_ret (v := .agg #[Value.func (.func 82) #[] #[], Value.func (.func 83) #[] #[.pointer (some ⟨w.heap.size, 0, none⟩)]]) (by simp [results, Try.results59, go_sem, q0, q1]) rfl ⟨w.heap.size, rfl, ((Below.refl _ _).alloc (Nat.le_refl _) _).alloc (by simp) _, heap_alloc2_old _ _ _⟩

theorem CR.b {w W : World} {cs rs : Array Value} (h : CR w W cs rs) : Below w.heap.size w W := h.1
theorem CR.put {w W : World} {cs rs : Array Value} (h : CR w W cs rs) {k i : Nat} {v : Value} (hk : w.heap.size + 1 < k) : CR w (W.setCell ⟨k, i, none⟩ v) cs rs := h.set hk
theorem cr7s {w W : World} {c0 c1 c2 c3 c4 r0 r1 : Value} (h : CR w W #[c0, c1, c2, c3, c4] #[r0, r1]) {k : Nat} (hk : w.heap.size + 1 < k) (u v : Value) :
    (fun X : World => X.cell? ⟨w.heap.size, 0, none⟩ = some c0 ∧ X.cell? ⟨w.heap.size, 1, none⟩ = some c1 ∧ X.cell? ⟨w.heap.size, 2, none⟩ = some c2 ∧ X.cell? ⟨w.heap.size, 3, none⟩ = some c3 ∧ X.cell? ⟨w.heap.size, 4, none⟩ = some c4 ∧ X.cell? ⟨w.heap.size + 1, 0, none⟩ = some r0 ∧ X.cell? ⟨w.heap.size + 1, 1, none⟩ = some r1) ((W.setCell ⟨k, 0, none⟩ u).setCell ⟨k, 1, none⟩ v) := cr7 ((h.set hk).set hk)
theorem box_set2 {W : World} {k : Nat} {z0 z1 u v : Value} {T : TypeId} (h : W.heap[k]? = some (.cells #[z0, z1] T (0, 0))) : ((W.setCell ⟨k, 0, none⟩ u).setCell ⟨k, 1, none⟩ v).heap[k]? = some (.cells #[u, v] T (0, 0)) := by
  have s1 := heap_setCell_same W k 0 _ _ u h
  have s2 := heap_setCell_same _ k 1 _ _ v s1
  simpa using s2

set_option maxHeartbeats 4000000 in
theorem implBestTwoOpt_any (n fine veh : Int) (a ao av bi : Option Addr) (cap ko co kv cv c2 : Nat) (zs os vs ids : List Int) (w : World) (hA : IntsAt w a zs) (hO : IntsAt w ao os) (hV : IntsAt w av vs) (hI : IntsAt w bi ids) (hlo : os.length = ko * 6) (hlv : vs.length = kv * 5) (hko : ko ≤ 9223372036854775807) (hkv : kv ≤ 9223372036854775807) (hli : ids.length ≤ 9223372036854775807) (hc2 : ids.length ≤ c2) (s0 : BS) (hs0 : btV (caseB n zs os vs ko kv fine) n zs os vs ko kv veh ids = s0) :
    Calls Try.prog 27 #[.agg #[.int .i64 n, .slice a zs.length cap, .slice ao ko co, .slice av kv cv, .int .i64 fine], .agg #[.int .i64 veh, .slice bi ids.length c2]] w fun e w' => e = .returned (.tuple #[.int .i64 (bsA s0), .int .i64 (bsB s0), .int .i64 s0.v]) ∧ Below w.heap.size w w' := by
  have HA : Hid (IntsAt w a zs) := hA
  have HO : Hid (IntsAt w ao os) := hO
  have HV : Hid (IntsAt w av vs) := hV
  have HI : Hid (IntsAt w bi ids) := hI
  have HLO : Hid _ := hlo
  have HLV : Hid _ := hlv
  clear hA hO hV hI hlo hlv
  have HS0 : Hid (btV (caseB n zs os vs ko kv fine) n zs os vs ko kv veh ids = s0) := hs0
  clear hs0
  have C0 : Hid (CR w ((w.alloc (.cells #[Value.int IntKind.i64 n, Value.slice a zs.length cap, Value.slice ao ko co, Value.slice av kv cv, Value.int IntKind.i64 fine] 40)).alloc (.cells #[Value.int IntKind.i64 veh, Value.slice bi ids.length c2] 33)) _ _) := CR.new w _ _
  go_enter Try.func27, Try.ntmps27
  obtain ⟨c0, c1, c2', c3, c4⟩ := cells5 C0.out.2.1
  obtain ⟨d0, d1⟩ := cells2 C0.out.2.2
  go_wp2_with fail
  clear c0 c1 c2' c3 c4 d0 d1
  refine (checkedTour_any n fine veh a ao av bi cap ko co kv cv c2 zs os vs ids _ (HA.out.below C0.out.1) (HO.out.below C0.out.1) (HV.out.below C0.out.1) (HI.out.below C0.out.1) HLO.out HLV.out hko hkv hli hc2).mono ?_
  rintro e w1 ⟨hb, ⟨hf, rfl⟩ | ⟨hf, g, _, rfl, _⟩⟩
  · have C1 : Hid (CR w (w1.alloc (.cells #[Value.int IntKind.i64 0, Value.slice none 0 0, Value.int IntKind.i64 0, Value.int IntKind.i64 0, Value.int IntKind.i64 0, Value.int IntKind.i64 0, Value.int IntKind.i64 0, Value.slice none 0 0] 83)) _ _) := (C0.out.below hb).alloc _
    have HZ : Hid (s0 = bs0) := HS0.out.symm.trans (bst_none (trB_no hf) _)
    obtain ⟨fv, HFV⟩ : ∃ t, Hid (codeV (caseB n zs os vs ko kv fine) n zs os vs ko kv veh ids = t) := ⟨_, rfl⟩
    rw [HFV.out] at hf ⊢
    have hfb : (fv != 0) = true := by simp [hf]
    clear hb hf
    go_wp2
    go_ret3
    refine ⟨?_, C1.out.1⟩
    rw [HZ.out]
    rfl
  · have hcb := code_case hf
    have h12 := code12 hf
    have hbt : bst (trB true n zs os vs ko kv veh ids) (trD true n zs os vs ko kv veh ids) (prsTo ids.length ids.length) = s0 := by
      rw [← HS0.out]
      unfold btV
      rw [hcb, show min ids.length 12 = ids.length by omega]
    have HB : Hid (bst (trB true n zs os vs ko kv veh ids) (trD true n zs os vs ko kv veh ids) (prsTo ids.length ids.length) = s0) := hbt
    have hv := bst_v (ok := trB true n zs os vs ko kv veh ids) (dl := trD true n zs os vs ko kv veh ids) (-130000) (by omega) (fun i j => (trD_bd (caseB_parts hcb).1 os vs ko kv veh ids i j).1) (prsTo ids.length ids.length)
    rw [hbt] at hv
    have HC : Hid (caseB n zs os vs ko kv fine = true) := hcb
    obtain ⟨v0, G0⟩ : ∃ t, Hid (fnd5F vs kv veh 0 = t) := ⟨_, rfl⟩
    obtain ⟨v1, G1⟩ : ∃ t, Hid (fnd5F vs kv veh 1 = t) := ⟨_, rfl⟩
    obtain ⟨v2, G2⟩ : ∃ t, Hid (fnd5F vs kv veh 2 = t) := ⟨_, rfl⟩
    obtain ⟨v3, G3⟩ : ∃ t, Hid (fnd5F vs kv veh 3 = t) := ⟨_, rfl⟩
    obtain ⟨v4, G4⟩ : ∃ t, Hid (fnd5F vs kv veh 4 = t) := ⟨_, rfl⟩
    rw [G0.out, G1.out, G2.out, G3.out, G4.out]
    have C1 : Hid (CR w (w1.alloc (.cells #[Value.int IntKind.i64 n, Value.slice a zs.length cap, Value.int IntKind.i64 v0, Value.int IntKind.i64 v1, Value.int IntKind.i64 v2, Value.int IntKind.i64 v3, Value.int IntKind.i64 v4, Value.slice (some ⟨g, 0, none⟩) ids.length ids.length] 83)) _ _) := (C0.out.below hb).alloc _
    clear hb hf hcb hbt G0 G1 G2 G3 G4
    go_wp2_with fail
    generalize w1.alloc (.cells #[Value.int IntKind.i64 n, Value.slice a zs.length cap, Value.int IntKind.i64 v0, Value.int IntKind.i64 v1, Value.int IntKind.i64 v2, Value.int IntKind.i64 v3, Value.int IntKind.i64 v4, Value.slice (some ⟨g, 0, none⟩) ids.length ids.length] 83) = w2 at *
    obtain ⟨sf, si, sj, sv⟩ := s0
    simp only at hv
    have HV4 : Hid (sf = false → sv = 0) := hv.2.2.1
    clear hv
    have kS := cr7 (C1.out.below (Below.refl _ _).drew)
    go_region_held3 (fun W => W.cell? ⟨w.heap.size, 0, none⟩ = some (.int .i64 n) ∧ W.cell? ⟨w.heap.size, 1, none⟩ = some (.slice a zs.length cap) ∧ W.cell? ⟨w.heap.size, 2, none⟩ = some (.slice ao ko co) ∧ W.cell? ⟨w.heap.size, 3, none⟩ = some (.slice av kv cv) ∧ W.cell? ⟨w.heap.size, 4, none⟩ = some (.int .i64 fine) ∧ W.cell? ⟨w.heap.size + 1, 0, none⟩ = some (.int .i64 veh) ∧ W.cell? ⟨w.heap.size + 1, 1, none⟩ = some (.slice bi ids.length c2)) (first | with_reducible exact kS | with_reducible exact cr7s C4.out C1.out.big _ _ | with_reducible exact cr7s C4.out C3.out.big _ _ | with_reducible exact cr7 (CR.alloc C4.out _) | with_reducible exact cr7 (CR.alloc C3.out _) | with_reducible exact cr7 (CR.drew (CR.alloc C1.out _)) | go_keep) ((first
      | (go_at_call 59
         with_reducible refine (turns_any _ w2.drew n fine a ao av cap ko co kv cv zs.length rfl).mono ?_
         rintro e w3 ⟨pc, rfl, hb, hpc⟩
         have C3 : Hid (CR w w3 #[Value.int IntKind.i64 n, Value.slice a zs.length cap, Value.slice ao ko co, Value.slice av kv cv, Value.int IntKind.i64 fine] #[Value.int IntKind.i64 veh, Value.slice bi ids.length c2]) := C1.out.drew.below hb
         have P3 : Hid (w3.heap[pc]? = some (.cells #[Value.int IntKind.i64 n, Value.slice a zs.length cap, Value.slice ao ko co, Value.slice av kv cv, Value.int IntKind.i64 fine] 40 (0, 0))) := hpc
         have kS := cr7 C3.out
         clear hb hpc)
      | (go_at_call 59
         with_reducible refine (turns_any _ (w2.alloc (Obj.cells #[Value.int IntKind.i64 0, Value.int IntKind.i64 0] 91)).drew n fine a ao av cap ko co kv cv zs.length rfl).mono ?_
         rintro e w3 ⟨pc, rfl, hb, hpc⟩
         have C3 : Hid (CR w w3 #[Value.int IntKind.i64 n, Value.slice a zs.length cap, Value.slice ao ko co, Value.slice av kv cv, Value.int IntKind.i64 fine] #[Value.int IntKind.i64 veh, Value.slice bi ids.length c2]) := (C1.out.alloc (Obj.cells #[Value.int IntKind.i64 0, Value.int IntKind.i64 0] 91)).drew.below hb
         have P3 : Hid (w3.heap[pc]? = some (.cells #[Value.int IntKind.i64 n, Value.slice a zs.length cap, Value.slice ao ko co, Value.slice av kv cv, Value.int IntKind.i64 fine] 40 (0, 0))) := hpc
         have V3 := below_row hb (k := w2.heap.size) (by simp) (heap_alloc_new w2 (Obj.cells #[Value.int IntKind.i64 0, Value.int IntKind.i64 0] 91))
         have kS := cr7 C3.out
         clear hb hpc)
      | (go_at_call 60
         with_reducible refine (best_any n fine veh a ao av bi cap ko co kv cv c2 zs os vs ids w3 (HA.out.below C3.out.b) (HO.out.below C3.out.b) (HV.out.below C3.out.b) (HI.out.below C3.out.b) HLO.out HLV.out hko hkv hli hc2 HC.out h12 pc P3.out _ HB.out).mono ?_
         rintro e w4 ⟨rfl, hb⟩
         dsimp only
         have C4 : Hid (CR w w4 #[Value.int IntKind.i64 n, Value.slice a zs.length cap, Value.slice ao ko co, Value.slice av kv cv, Value.int IntKind.i64 fine] #[Value.int IntKind.i64 veh, Value.slice bi ids.length c2]) := C3.out.below hb
         try (have V4 := below_row hb (row_lt V3) V3
              obtain ⟨z0, z1⟩ := cells2 V4
              have zf := fun i => frozen_of_row _ _ i _ _ V4)
         have kS := cr7 C4.out
         clear hb)
      | (go_at_call 60
         with_reducible refine (best_any n fine veh a ao av bi cap ko co kv cv c2 zs os vs ids (w3.alloc (Obj.cells #[Value.int IntKind.i64 0, Value.int IntKind.i64 0] 91)) (HA.out.below (C3.out.alloc (Obj.cells #[Value.int IntKind.i64 0, Value.int IntKind.i64 0] 91)).b) (HO.out.below (C3.out.alloc (Obj.cells #[Value.int IntKind.i64 0, Value.int IntKind.i64 0] 91)).b) (HV.out.below (C3.out.alloc (Obj.cells #[Value.int IntKind.i64 0, Value.int IntKind.i64 0] 91)).b) (HI.out.below (C3.out.alloc (Obj.cells #[Value.int IntKind.i64 0, Value.int IntKind.i64 0] 91)).b) HLO.out HLV.out hko hkv hli hc2 HC.out h12 pc (below_row ((Below.refl _ _).alloc (Nat.le_refl _) _) (row_lt P3.out) P3.out) _ HB.out).mono ?_
         rintro e w4 ⟨rfl, hb⟩
         dsimp only
         have C4 : Hid (CR w w4 #[Value.int IntKind.i64 n, Value.slice a zs.length cap, Value.slice ao ko co, Value.slice av kv cv, Value.int IntKind.i64 fine] #[Value.int IntKind.i64 veh, Value.slice bi ids.length c2]) := (C3.out.alloc (Obj.cells #[Value.int IntKind.i64 0, Value.int IntKind.i64 0] 91)).below hb
         have V4 := below_row hb (k := w3.heap.size) (by simp) (heap_alloc_new w3 (Obj.cells #[Value.int IntKind.i64 0, Value.int IntKind.i64 0] 91))
         obtain ⟨z0, z1⟩ := cells2 V4
         have zf := fun i => frozen_of_row _ _ i _ _ V4
         have kS := cr7 C4.out
         clear hb)))
    all_goals
      clear kS
      first
        | (have V5 : w4.heap[w2.heap.size]? = _ := V4
           have CF : Hid (CR w ((w4.setCell ⟨w2.heap.size, 0, none⟩ (.int .i64 si)).setCell ⟨w2.heap.size, 1, none⟩ (.int .i64 sj)) #[Value.int IntKind.i64 n, Value.slice a zs.length cap, Value.slice ao ko co, Value.slice av kv cv, Value.int IntKind.i64 fine] #[Value.int IntKind.i64 veh, Value.slice bi ids.length c2]) := (C4.out.set C1.out.big).set C1.out.big
           have VF : Hid (((w4.setCell ⟨w2.heap.size, 0, none⟩ (.int .i64 si)).setCell ⟨w2.heap.size, 1, none⟩ (.int .i64 sj)).heap[w2.heap.size]? = some (.cells #[Value.int IntKind.i64 si, Value.int IntKind.i64 sj] 91 (0, 0))) := box_set2 V4
           clear z0 z1 zf V5
           generalize ((w4.setCell ⟨w2.heap.size, 0, none⟩ (.int .i64 si)).setCell ⟨w2.heap.size, 1, none⟩ (.int .i64 sj)) = WF at *
           generalize w2.heap.size = bt at *)
        | (have V5 : w4.heap[w3.heap.size]? = _ := V4
           have CF : Hid (CR w ((w4.setCell ⟨w3.heap.size, 0, none⟩ (.int .i64 si)).setCell ⟨w3.heap.size, 1, none⟩ (.int .i64 sj)) #[Value.int IntKind.i64 n, Value.slice a zs.length cap, Value.slice ao ko co, Value.slice av kv cv, Value.int IntKind.i64 fine] #[Value.int IntKind.i64 veh, Value.slice bi ids.length c2]) := (C4.out.set C3.out.big).set C3.out.big
           have VF : Hid (((w4.setCell ⟨w3.heap.size, 0, none⟩ (.int .i64 si)).setCell ⟨w3.heap.size, 1, none⟩ (.int .i64 sj)).heap[w3.heap.size]? = some (.cells #[Value.int IntKind.i64 si, Value.int IntKind.i64 sj] 91 (0, 0))) := box_set2 V4
           clear z0 z1 zf V5
           generalize ((w4.setCell ⟨w3.heap.size, 0, none⟩ (.int .i64 si)).setCell ⟨w3.heap.size, 1, none⟩ (.int .i64 sj)) = WF at *
           generalize w3.heap.size = bt at *)
        | (have CF : Hid (CR w (w4.alloc (Obj.cells #[Value.int IntKind.i64 si, Value.int IntKind.i64 sj] 91)) #[Value.int IntKind.i64 n, Value.slice a zs.length cap, Value.slice ao ko co, Value.slice av kv cv, Value.int IntKind.i64 fine] #[Value.int IntKind.i64 veh, Value.slice bi ids.length c2]) := C4.out.alloc _
           have VF : Hid ((w4.alloc (Obj.cells #[Value.int IntKind.i64 si, Value.int IntKind.i64 sj] 91)).heap[w4.heap.size]? = some (.cells #[Value.int IntKind.i64 si, Value.int IntKind.i64 sj] 91 (0, 0))) := heap_alloc_new _ _
           generalize w4.alloc (Obj.cells #[Value.int IntKind.i64 si, Value.int IntKind.i64 sj] 91) = WF at *
           generalize w4.heap.size = bt at *)
      cases sf
      · have h0 : sv = 0 := HV4.out rfl
        subst h0
        go_wp2
        go_ret3
        exact ⟨rfl, CF.out.b⟩
      · obtain ⟨f0, f1⟩ := cells2 VF.out
        go_wp2_with fail
        go_region
        all_goals
          go_wp2
          go_ret3
          exact ⟨rfl, CF.out.1.drew⟩

end Go.Proofs.Ytkmghjogmedpbaa
