import Derived.Test.YtplefpmchhcfcaaPack18
import Derived.Test.YtplefpmchhcfcaaPack19
import Derived.Test.YtplefpmchhcfcaaPack20
import Derived.Laws.EntriesVeiled
namespace Go.Proofs.Ytplefpmchhcfcaa
open Go.RowKit

set_option maxHeartbeats 1000000 in
theorem turns_any (cs : Array Value) (w : World) (n fine : Int) (a ao av : Option Addr) (cap ko co kv cv lz : Nat) (hcs : cs = #[.int .i64 n, .slice a lz cap, .slice ao ko co, .slice av kv cv, .int .i64 fine]) :
    Calls Try.prog 46 #[.agg cs] w fun e w' => ∃ pc, e = .returned (.agg #[Value.func (.func 73) #[] #[], Value.func (.func 74) #[] #[.pointer (some ⟨pc, 0, none⟩)]]) ∧ Below w.heap.size w w' ∧ w'.heap[pc]? = some (.cells cs 30 (0, 0)) := by
  subst hcs
  have hmf : ∀ (fn : Fn) (first cap : Array Value) (w : World), (Instr.makeFunc fn first cap).run Try.prog w = .ok (.func fn first cap) w := fun _ _ _ _ => rfl
  go_enter Try.func46, Try.ntmps46
  go_wp2
  have q : ∀ (cs : Array Value), ((w.alloc (.cells cs 30)).alloc (.cells #[Value.func (.func 73) #[] #[], Value.func (.func 74) #[] #[.pointer (some ⟨w.heap.size, 0, none⟩)]] 79)).heap[w.heap.size + 1]? = some (.cells #[Value.func (.func 73) #[] #[], Value.func (.func 74) #[] #[.pointer (some ⟨w.heap.size, 0, none⟩)]] 79 (0, 0)) := fun cs => heap_alloc2_new _ _ _
  obtain ⟨q0, q1⟩ := cells2 (q #[Value.int .i64 n, Value.slice a lz cap, Value.slice ao ko co, Value.slice av kv cv, Value.int .i64 fine])
  refine bodyPost_ret (v := .agg #[Value.func (.func 73) #[] #[], Value.func (.func 74) #[] #[.pointer (some ⟨w.heap.size, 0, none⟩)]]) (by simp [results, Try.results46, go_sem, q0, q1]) rfl ⟨w.heap.size, rfl, ((Below.refl _ _).alloc (Nat.le_refl _) _).alloc (by simp) _, heap_alloc2_old _ _ _⟩

theorem CR.b {w W : World} {cs rs : Array Value} (h : CR w W cs rs) : Below w.heap.size w W := h.1
theorem CR.put {w W : World} {cs rs : Array Value} (h : CR w W cs rs) {k i : Nat} {v : Value} (hk : w.heap.size + 1 < k) : CR w (W.setCell ⟨k, i, none⟩ v) cs rs := h.set hk
theorem cr7s {w W : World} {c0 c1 c2 c3 c4 r0 r1 : Value} (h : CR w W #[c0, c1, c2, c3, c4] #[r0, r1]) {k : Nat} (hk : w.heap.size + 1 < k) (u v : Value) :
    (fun X : World => X.cell? ⟨w.heap.size, 0, none⟩ = some c0 ∧ X.cell? ⟨w.heap.size, 1, none⟩ = some c1 ∧ X.cell? ⟨w.heap.size, 2, none⟩ = some c2 ∧ X.cell? ⟨w.heap.size, 3, none⟩ = some c3 ∧ X.cell? ⟨w.heap.size, 4, none⟩ = some c4 ∧ X.cell? ⟨w.heap.size + 1, 0, none⟩ = some r0 ∧ X.cell? ⟨w.heap.size + 1, 1, none⟩ = some r1) ((W.setCell ⟨k, 0, none⟩ u).setCell ⟨k, 1, none⟩ v) := cr7 ((h.set hk).set hk)
theorem box_set2 {W : World} {k : Nat} {z0 z1 u v : Value} {T : TypeId} (h : W.heap[k]? = some (.cells #[z0, z1] T (0, 0))) : ((W.setCell ⟨k, 0, none⟩ u).setCell ⟨k, 1, none⟩ v).heap[k]? = some (.cells #[u, v] T (0, 0)) := by
  have s1 := heap_setCell_same W k 0 _ _ u h
  have s2 := heap_setCell_same _ k 1 _ _ v s1
  simpa using s2

set_option maxHeartbeats 4000000 in
theorem implBestTwoOpt_any (n fine veh : Int) (a ao av bi : Option Addr) (cap ko co kv cv c2 : Nat) (zs os vs ids : List Int) (w : World) (hA : IntsAt w a zs) (hO : IntsAt w ao os) (hV : IntsAt w av vs) (hI : IntsAt w bi ids) (hlo : os.length = ko * 6) (hlv : vs.length = kv * 5) (hko : ko ≤ 9223372036854775807) (hkv : kv ≤ 9223372036854775807) (hli : ids.length ≤ 9223372036854775807) (hc2 : ids.length ≤ c2) (s0 : BS) (hs0 : btV (caseB n zs os vs ko kv fine) n zs os vs ko kv veh ids = s0) :
    Calls Try.prog 23 #[.agg #[.int .i64 n, .slice a zs.length cap, .slice ao ko co, .slice av kv cv, .int .i64 fine], .agg #[.int .i64 veh, .slice bi ids.length c2]] w fun e w' => e = .returned (.tuple #[.int .i64 (bsA s0), .int .i64 (bsB s0), .int .i64 s0.v]) ∧ Below w.heap.size w w' := by
  have HA : Hid (IntsAt w a zs) := hA
  have HO : Hid (IntsAt w ao os) := hO
  have HV : Hid (IntsAt w av vs) := hV
  have HI : Hid (IntsAt w bi ids) := hI
  have HLO : Hid _ := hlo
  have HLV : Hid _ := hlv
  clear hA hO hV hI hlo hlv
  have HS0 : Hid (btV (caseB n zs os vs ko kv fine) n zs os vs ko kv veh ids = s0) := hs0
  clear hs0
  have C0 : Hid (CR w ((w.alloc (.cells #[Value.int IntKind.i64 n, Value.slice a zs.length cap, Value.slice ao ko co, Value.slice av kv cv, Value.int IntKind.i64 fine] 30)).alloc (.cells #[Value.int IntKind.i64 veh, Value.slice bi ids.length c2] 32)) _ _) := CR.new w _ _
  go_enter Try.func23, Try.ntmps23
  obtain ⟨c0, c1, c2', c3, c4⟩ := cells5 C0.out.2.1
  obtain ⟨d0, d1⟩ := cells2 C0.out.2.2
  go_wp2_with fail
  clear c0 c1 c2' c3 c4 d0 d1
  refine (checkedTour_any n fine veh a ao av bi cap ko co kv cv c2 zs os vs ids _ (HA.out.below C0.out.1) (HO.out.below C0.out.1) (HV.out.below C0.out.1) (HI.out.below C0.out.1) HLO.out HLV.out hko hkv hli hc2).mono ?_
  rintro e w1 ⟨hb, ⟨hf, rfl⟩ | ⟨hf, g, _, rfl, _⟩⟩
  · have C1 : Hid (CR w (w1.alloc (.cells #[Value.int IntKind.i64 0, Value.slice none 0 0, Value.int IntKind.i64 0, Value.int IntKind.i64 0, Value.int IntKind.i64 0, Value.int IntKind.i64 0, Value.int IntKind.i64 0, Value.slice none 0 0] 68)) _ _) := (C0.out.below hb).alloc _
    have HZ : Hid (s0 = bs0) := HS0.out.symm.trans (bst_none (trB_no hf) _)
    obtain ⟨fv, HFV⟩ : ∃ t, Hid (codeV (caseB n zs os vs ko kv fine) n zs os vs ko kv veh ids = t) := ⟨_, rfl⟩
    rw [HFV.out] at hf ⊢
    have hfb : (fv != 0) = true := by simp [hf]
    clear hb hf
    go_wp2
    go_ret3
    refine ⟨?_, C1.out.1⟩
    rw [HZ.out]
    rfl
  · have hcb := code_case hf
    have h12 := code12 hf
    have hbt : bst (trB true n zs os vs ko kv veh ids) (trD true n zs os vs ko kv veh ids) (prsTo ids.length ids.length) = s0 := by
      rw [← HS0.out]
      unfold btV
      rw [hcb, show min ids.length 12 = ids.length by omega]
    have HB : Hid (bst (trB true n zs os vs ko kv veh ids) (trD true n zs os vs ko kv veh ids) (prsTo ids.length ids.length) = s0) := hbt
    have hv := bst_v (ok := trB true n zs os vs ko kv veh ids) (dl := trD true n zs os vs ko kv veh ids) (-130000) (by omega) (fun i j => (trD_bd (caseB_parts hcb).1 os vs ko kv veh ids i j).1) (prsTo ids.length ids.length)
    rw [hbt] at hv
    have HC : Hid (caseB n zs os vs ko kv fine = true) := hcb
    obtain ⟨v0, G0⟩ : ∃ t, Hid (fnd5F vs kv veh 0 = t) := ⟨_, rfl⟩
    obtain ⟨v1, G1⟩ : ∃ t, Hid (fnd5F vs kv veh 1 = t) := ⟨_, rfl⟩
    obtain ⟨v2, G2⟩ : ∃ t, Hid (fnd5F vs kv veh 2 = t) := ⟨_, rfl⟩
    obtain ⟨v3, G3⟩ : ∃ t, Hid (fnd5F vs kv veh 3 = t) := ⟨_, rfl⟩
    obtain ⟨v4, G4⟩ : ∃ t, Hid (fnd5F vs kv veh 4 = t) := ⟨_, rfl⟩
    rw [G0.out, G1.out, G2.out, G3.out, G4.out]
    have C1 : Hid (CR w (w1.alloc (.cells #[Value.int IntKind.i64 n, Value.slice a zs.length cap, Value.int IntKind.i64 v0, Value.int IntKind.i64 v1, Value.int IntKind.i64 v2, Value.int IntKind.i64 v3, Value.int IntKind.i64 v4, Value.slice (some ⟨g, 0, none⟩) ids.length ids.length] 68)) _ _) := (C0.out.below hb).alloc _
    clear hb hf hcb hbt G0 G1 G2 G3 G4
    go_wp2_with fail
    generalize w1.alloc (.cells #[Value.int IntKind.i64 n, Value.slice a zs.length cap, Value.int IntKind.i64 v0, Value.int IntKind.i64 v1, Value.int IntKind.i64 v2, Value.int IntKind.i64 v3, Value.int IntKind.i64 v4, Value.slice (some ⟨g, 0, none⟩) ids.length ids.length] 68) = w2 at *
    obtain ⟨sf, si, sj, sv⟩ := s0
    simp only at hv
    have HV4 : Hid (sf = false → sv = 0) := hv.2.2.1
    clear hv
    have kS := cr7 (C1.out.below (Below.refl _ _).drew)
    go_region_held3 (fun W => W.cell? ⟨w.heap.size, 0, none⟩ = some (.int .i64 n) ∧ W.cell? ⟨w.heap.size, 1, none⟩ = some (.slice a zs.length cap) ∧ W.cell? ⟨w.heap.size, 2, none⟩ = some (.slice ao ko co) ∧ W.cell? ⟨w.heap.size, 3, none⟩ = some (.slice av kv cv) ∧ W.cell? ⟨w.heap.size, 4, none⟩ = some (.int .i64 fine) ∧ W.cell? ⟨w.heap.size + 1, 0, none⟩ = some (.int .i64 veh) ∧ W.cell? ⟨w.heap.size + 1, 1, none⟩ = some (.slice bi ids.length c2)) (first | with_reducible exact kS | with_reducible exact cr7s C4.out C1.out.big _ _ | with_reducible exact cr7s C4.out C3.out.big _ _ | with_reducible exact cr7 (CR.alloc C4.out _) | with_reducible exact cr7 (CR.alloc C3.out _) | with_reducible exact cr7 (CR.drew (CR.alloc C1.out _)) | go_keep) ((first
      | (go_at_call 46
         with_reducible refine (turns_any _ w2.drew n fine a ao av cap ko co kv cv zs.length rfl).mono ?_
         rintro e w3 ⟨pc, rfl, hb, hpc⟩
         have C3 : Hid (CR w w3 #[Value.int IntKind.i64 n, Value.slice a zs.length cap, Value.slice ao ko co, Value.slice av kv cv, Value.int IntKind.i64 fine] #[Value.int IntKind.i64 veh, Value.slice bi ids.length c2]) := C1.out.drew.below hb
         have P3 : Hid (w3.heap[pc]? = some (.cells #[Value.int IntKind.i64 n, Value.slice a zs.length cap, Value.slice ao ko co, Value.slice av kv cv, Value.int IntKind.i64 fine] 30 (0, 0))) := hpc
         have kS := cr7 C3.out
         clear hb hpc)
      | (go_at_call 46
         with_reducible refine (turns_any _ (w2.alloc (Obj.cells #[Value.int IntKind.i64 0, Value.int IntKind.i64 0] 83)).drew n fine a ao av cap ko co kv cv zs.length rfl).mono ?_
         rintro e w3 ⟨pc, rfl, hb, hpc⟩
         have C3 : Hid (CR w w3 #[Value.int IntKind.i64 n, Value.slice a zs.length cap, Value.slice ao ko co, Value.slice av kv cv, Value.int IntKind.i64 fine] #[Value.int IntKind.i64 veh, Value.slice bi ids.length c2]) := (C1.out.alloc (Obj.cells #[Value.int IntKind.i64 0, Value.int IntKind.i64 0] 83)).drew.below hb
         have P3 : Hid (w3.heap[pc]? = some (.cells #[Value.int IntKind.i64 n, Value.slice a zs.length cap, Value.slice ao ko co, Value.slice av kv cv, Value.int IntKind.i64 fine] 30 (0, 0))) := hpc
         have V3 := below_row hb (k := w2.heap.size) (by simp) (heap_alloc_new w2 (Obj.cells #[Value.int IntKind.i64 0, Value.int IntKind.i64 0] 83))
         have kS := cr7 C3.out
         clear hb hpc)
      | (go_at_call 51
         with_reducible refine (best_any n fine veh a ao av bi cap ko co kv cv c2 zs os vs ids w3 (HA.out.below C3.out.b) (HO.out.below C3.out.b) (HV.out.below C3.out.b) (HI.out.below C3.out.b) HLO.out HLV.out hko hkv hli hc2 HC.out h12 pc P3.out _ HB.out).mono ?_
         rintro e w4 ⟨rfl, hb⟩
         dsimp only
         have C4 : Hid (CR w w4 #[Value.int IntKind.i64 n, Value.slice a zs.length cap, Value.slice ao ko co, Value.slice av kv cv, Value.int IntKind.i64 fine] #[Value.int IntKind.i64 veh, Value.slice bi ids.length c2]) := C3.out.below hb
         try (have V4 := below_row hb (row_lt V3) V3
              obtain ⟨z0, z1⟩ := cells2 V4
              have zf := fun i => frozen_of_row _ _ i _ _ V4)
         have kS := cr7 C4.out
         clear hb)
      | (go_at_call 51
         with_reducible refine (best_any n fine veh a ao av bi cap ko co kv cv c2 zs os vs ids (w3.alloc (Obj.cells #[Value.int IntKind.i64 0, Value.int IntKind.i64 0] 83)) (HA.out.below (C3.out.alloc (Obj.cells #[Value.int IntKind.i64 0, Value.int IntKind.i64 0] 83)).b) (HO.out.below (C3.out.alloc (Obj.cells #[Value.int IntKind.i64 0, Value.int IntKind.i64 0] 83)).b) (HV.out.below (C3.out.alloc (Obj.cells #[Value.int IntKind.i64 0, Value.int IntKind.i64 0] 83)).b) (HI.out.below (C3.out.alloc (Obj.cells #[Value.int IntKind.i64 0, Value.int IntKind.i64 0] 83)).b) HLO.out HLV.out hko hkv hli hc2 HC.out h12 pc (below_row ((Below.refl _ _).alloc (Nat.le_refl _) _) (row_lt P3.out) P3.out) _ HB.out).mono ?_
         rintro e w4 ⟨rfl, hb⟩
         dsimp only
         have C4 : Hid (CR w w4 #[Value.int IntKind.i64 n, Value.slice a zs.length cap, Value.slice ao ko co, Value.slice av kv cv, Value.int IntKind.i64 fine] #[Value.int IntKind.i64 veh, Value.slice bi ids.length c2]) := (C3.out.alloc (Obj.cells #[Value.int IntKind.i64 0, Value.int IntKind.i64 0] 83)).below hb
         have V4 := below_row hb (k := w3.heap.size) (by simp) (heap_alloc_new w3 (Obj.cells #[Value.int IntKind.i64 0, Value.int IntKind.i64 0] 83))
         obtain ⟨z0, z1⟩ := cells2 V4
         have zf := fun i => frozen_of_row _ _ i _ _ V4
         have kS := cr7 C4.out
         clear hb)))
    all_goals
      clear kS
      first
        | (have V5 : w4.heap[w2.heap.size]? = _ := V4
           have CF : Hid (CR w ((w4.setCell ⟨w2.heap.size, 0, none⟩ (.int .i64 si)).setCell ⟨w2.heap.size, 1, none⟩ (.int .i64 sj)) #[Value.int IntKind.i64 n, Value.slice a zs.length cap, Value.slice ao ko co, Value.slice av kv cv, Value.int IntKind.i64 fine] #[Value.int IntKind.i64 veh, Value.slice bi ids.length c2]) := (C4.out.set C1.out.big).set C1.out.big
           have VF : Hid (((w4.setCell ⟨w2.heap.size, 0, none⟩ (.int .i64 si)).setCell ⟨w2.heap.size, 1, none⟩ (.int .i64 sj)).heap[w2.heap.size]? = some (.cells #[Value.int IntKind.i64 si, Value.int IntKind.i64 sj] 83 (0, 0))) := box_set2 V4
           clear z0 z1 zf V5
           generalize ((w4.setCell ⟨w2.heap.size, 0, none⟩ (.int .i64 si)).setCell ⟨w2.heap.size, 1, none⟩ (.int .i64 sj)) = WF at *
           generalize w2.heap.size = bt at *)
        | (have V5 : w4.heap[w3.heap.size]? = _ := V4
           have CF : Hid (CR w ((w4.setCell ⟨w3.heap.size, 0, none⟩ (.int .i64 si)).setCell ⟨w3.heap.size, 1, none⟩ (.int .i64 sj)) #[Value.int IntKind.i64 n, Value.slice a zs.length cap, Value.slice ao ko co, Value.slice av kv cv, Value.int IntKind.i64 fine] #[Value.int IntKind.i64 veh, Value.slice bi ids.length c2]) := (C4.out.set C3.out.big).set C3.out.big
           have VF : Hid (((w4.setCell ⟨w3.heap.size, 0, none⟩ (.int .i64 si)).setCell ⟨w3.heap.size, 1, none⟩ (.int .i64 sj)).heap[w3.heap.size]? = some (.cells #[Value.int IntKind.i64 si, Value.int IntKind.i64 sj] 83 (0, 0))) := box_set2 V4
           clear z0 z1 zf V5
           generalize ((w4.setCell ⟨w3.heap.size, 0, none⟩ (.int .i64 si)).setCell ⟨w3.heap.size, 1, none⟩ (.int .i64 sj)) = WF at *
           generalize w3.heap.size = bt at *)
        | (have CF : Hid (CR w (w4.alloc (Obj.cells #[Value.int IntKind.i64 si, Value.int IntKind.i64 sj] 83)) #[Value.int IntKind.i64 n, Value.slice a zs.length cap, Value.slice ao ko co, Value.slice av kv cv, Value.int IntKind.i64 fine] #[Value.int IntKind.i64 veh, Value.slice bi ids.length c2]) := C4.out.alloc _
           have VF : Hid ((w4.alloc (Obj.cells #[Value.int IntKind.i64 si, Value.int IntKind.i64 sj] 83)).heap[w4.heap.size]? = some (.cells #[Value.int IntKind.i64 si, Value.int IntKind.i64 sj] 83 (0, 0))) := heap_alloc_new _ _
           generalize w4.alloc (Obj.cells #[Value.int IntKind.i64 si, Value.int IntKind.i64 sj] 83) = WF at *
           generalize w4.heap.size = bt at *)
      cases sf
      · have h0 : sv = 0 := HV4.out rfl
        subst h0
        go_wp2
        go_ret3
        exact ⟨rfl, CF.out.b⟩
      · obtain ⟨f0, f1⟩ := cells2 VF.out
        go_wp2_with fail
        go_region
        all_goals
          go_wp2
          go_ret3
          exact ⟨rfl, CF.out.1.drew⟩

end Go.Proofs.Ytplefpmchhcfcaa

namespace Go.Proofs.Ytplefpmchhcfcaa
open Go.RowKit

/-- The moves' box, the box of the route as it is now, the answer's box. -/
def DB (w W : World) (ms rs : Array Value) : Prop := Below w.heap.size w W ∧ W.heap[w.heap.size]? = some (.cells ms 79 (0, 0)) ∧ W.heap[w.heap.size + 1]? = some (.cells rs 32 (0, 0)) ∧ W.heap[w.heap.size + 2]? = some (.cells #[Value.int IntKind.i64 0, Value.slice none 0 0] 32 (0, 0))
theorem DB.new (w : World) (ms rs : Array Value) : DB w (((w.alloc (.cells ms 79)).alloc (.cells rs 32)).alloc (.cells #[Value.int IntKind.i64 0, Value.slice none 0 0] 32)) ms rs := by
  refine ⟨(((Below.refl _ _).alloc (Nat.le_refl _) _).alloc (by simp) _).alloc (by simp; omega) _, ?_, ?_, ?_⟩
  · exact (heap_alloc_old _ _ (by simp; omega)).trans (heap_alloc2_old _ _ _)
  · exact (heap_alloc_old _ _ (by simp)).trans (heap_alloc2_new _ _ _)
  · have := heap_alloc_new ((w.alloc (.cells ms 79)).alloc (.cells rs 32)) (.cells #[Value.int IntKind.i64 0, Value.slice none 0 0] 32)
    simpa using this
theorem DB.below {w W W' : World} {ms rs : Array Value} (h : DB w W ms rs) (hb : Below W.heap.size W W') : DB w W' ms rs := ⟨h.1.trans (hb.mono h.1.size), below_row hb (row_lt h.2.1) h.2.1, below_row hb (row_lt h.2.2.1) h.2.2.1, below_row hb (row_lt h.2.2.2) h.2.2.2⟩
theorem DB.b {w W : World} {ms rs : Array Value} (h : DB w W ms rs) : Below w.heap.size w W := h.1
theorem DB.big {w W : World} {ms rs : Array Value} (h : DB w W ms rs) : w.heap.size + 2 < W.heap.size := row_lt h.2.2.2
theorem DB.put {w W : World} {ms : Array Value} {r0 r1 : Value} (h : DB w W ms #[r0, r1]) (u v : Value) : DB w ((W.setCell ⟨w.heap.size + 1, 0, none⟩ u).setCell ⟨w.heap.size + 1, 1, none⟩ v) ms #[u, v] :=
  ⟨(h.1.setCell (by simp) _).setCell (by simp) _, row_set' (row_set' h.2.1 (by omega)) (by omega), box_set2 h.2.2.1, row_set' (row_set' h.2.2.2 (by omega)) (by omega)⟩
theorem ints_low {W : World} {ad : Option Addr} {xs : List Int} (h : IntsAt W ad xs) {k i : Nat} {v : Value} (hk : ∀ b off, ad = some ⟨b, off, none⟩ → 0 < xs.length → b ≠ k) : IntsAt (W.setCell ⟨k, i, none⟩ v) ad xs := by
  intro j hj
  obtain ⟨b, off, e, hc⟩ := h j hj
  exact ⟨b, off, e, keep_set hc (hk b off e (by omega))⟩
theorem bt_len {c : Bool} {n : Int} {zs os vs : List Int} {ko kv : Nat} {veh : Int} {cur : List Int} (h12 : cur.length ≤ 12) : bst (trB c n zs os vs ko kv veh cur) (trD c n zs os vs ko kv veh cur) (prsTo cur.length cur.length) = btV c n zs os vs ko kv veh cur := by
  unfold btV
  rw [show min cur.length 12 = cur.length by omega]

/-- An address of a slice: none, or the start of a row's part. -/
def AdO (ad : Option Addr) : Prop := ad = none ∨ ∃ b off, ad = some ⟨b, off, none⟩
/-- What descended answers: a route with these stops, wherever they lie, and how often. -/
def DescOk (w : World) (bi : Option Addr) (len : Nat) (veh : Int) (xs : List Int) (e : Ending) (w' : World) : Prop := ∃ ad cc cnt, e = .returned (.tuple #[.agg #[.int .i64 veh, .slice ad xs.length cc], .int .i64 cnt]) ∧ AdO ad ∧ ((ad = bi ∧ xs.length = len) ∨ ∀ b off, ad = some ⟨b, off, none⟩ → w.heap.size + 2 < b) ∧ Below w.heap.size w w' ∧ IntsAt w' ad xs ∧ xs.length ≤ 12

set_option maxHeartbeats 4000000 in
theorem descended_any (n fine veh : Int) (a ao av bi : Option Addr) (cap ko co kv cv c2 : Nat) (zs os vs ids : List Int) (w : World) (hA : IntsAt w a zs) (hO : IntsAt w ao os) (hV : IntsAt w av vs) (hI : IntsAt w bi ids) (hlo : os.length = ko * 6) (hlv : vs.length = kv * 5) (hko : ko ≤ 9223372036854775807) (hkv : kv ≤ 9223372036854775807) (_hli : ids.length ≤ 9223372036854775807) (hc2 : ids.length ≤ c2) (hbi : AdO bi) (hcB : caseB n zs os vs ko kv fine = true) (pc : Nat) (hpc : w.heap[pc]? = some (.cells #[Value.int IntKind.i64 n, Value.slice a zs.length cap, Value.slice ao ko co, Value.slice av kv cv, Value.int IntKind.i64 fine] 30 (0, 0))) (hcode : codeV true n zs os vs ko kv veh ids = 0) (xs : List Int) (hxs : polV n zs os vs ko kv veh ids = xs) :
    Calls Try.prog 47 #[.agg #[Value.func (.func 73) #[] #[], Value.func (.func 74) #[] #[.pointer (some ⟨pc, 0, none⟩)]], .agg #[.int .i64 veh, .slice bi ids.length c2], .int .i64 130000] w (DescOk w bi ids.length veh xs) := by
  have HA : Hid (IntsAt w a zs) := hA
  have HO : Hid (IntsAt w ao os) := hO
  have HV : Hid (IntsAt w av vs) := hV
  have HI : Hid (IntsAt w bi ids) := hI
  have HLO : Hid _ := hlo
  have HLV : Hid _ := hlv
  clear hA hO hV hI hlo hlv
  have HC : Hid (caseB n zs os vs ko kv fine = true) := hcB
  have HZ : Hid (matB n zs = true) := (caseB_parts hcB).1
  have HXS : Hid (polV n zs os vs ko kv veh ids = xs) := hxs
  have HCO : Hid (codeV true n zs os vs ko kv veh ids = 0) := hcode
  have PC : Hid (w.heap[pc]? = some (.cells #[Value.int IntKind.i64 n, Value.slice a zs.length cap, Value.slice ao ko co, Value.slice av kv cv, Value.int IntKind.i64 fine] 30 (0, 0))) := hpc
  have HRC : Hid (rcV n zs os vs ko kv veh ids ≤ 130000) := (rcV_bd (caseB_parts hcB).1 os vs ko kv veh ids).2
  have HBI : Hid (AdO bi) := hbi
  clear hcB hxs hcode hpc hbi
  have D0 : Hid (DB w (((w.alloc (.cells #[Value.func (.func 73) #[] #[], Value.func (.func 74) #[] #[.pointer (some ⟨pc, 0, none⟩)]] 79)).alloc (.cells #[Value.int IntKind.i64 veh, Value.slice bi ids.length c2] 32)).alloc (.cells #[Value.int IntKind.i64 0, Value.slice none 0 0] 32)) #[Value.func (.func 73) #[] #[], Value.func (.func 74) #[] #[.pointer (some ⟨pc, 0, none⟩)]] #[Value.int IntKind.i64 veh, Value.slice bi ids.length c2]) := DB.new w _ _
  go_enter Try.func47, Try.ntmps47
  go_wp2_with fail
  go_loopw [13] (fun t wr => ∃ (k : Nat) (cur : List Int) (ad : Option Addr) (cc : Nat), k ≤ 130000 ∧ t = .int .i64 k ∧ AdO ad ∧ DB w wr #[Value.func (.func 73) #[] #[], Value.func (.func 74) #[] #[.pointer (some ⟨pc, 0, none⟩)]] #[Value.int IntKind.i64 veh, Value.slice ad cur.length cc] ∧ ((ad = bi ∧ cur.length = ids.length) ∨ ∀ b off, ad = some ⟨b, off, none⟩ → w.heap.size + 2 < b) ∧ IntsAt wr ad cur ∧ cur.length ≤ cc ∧ codeV true n zs os vs ko kv veh cur = 0 ∧ polV n zs os vs ko kv veh cur = xs ∧ rcV n zs os vs ko kv veh cur + k ≤ 130000) (fun t _ => 130000 - (intOf t).toNat)
  case atStart =>
    refine ⟨0, ids, bi, c2, by omega, rfl, HBI.out, D0.out, .inl ⟨rfl, rfl⟩, HI.out.below D0.out.b, hc2, HCO.out, HXS.out, by have := HRC.out; omega⟩
  case round =>
    clear D0
    obtain ⟨k, cur, ad, cc, hk, rfl, hadr, hD, hlow, hcur, hcc, hco, hpo, hrc⟩ := hrel
    have ADR : Hid (AdO ad) := hadr
    clear hadr
    have D1 : Hid (DB w wr #[Value.func (.func 73) #[] #[], Value.func (.func 74) #[] #[.pointer (some ⟨pc, 0, none⟩)]] #[Value.int IntKind.i64 veh, Value.slice ad cur.length cc]) := hD
    have LOW0 : Hid ((ad = bi ∧ cur.length = ids.length) ∨ ∀ b off, ad = some ⟨b, off, none⟩ → w.heap.size + 2 < b) := hlow
    have LOW : Hid (∀ b off, ad = some ⟨b, off, none⟩ → 0 < cur.length → b < w.heap.size ∨ w.heap.size + 2 < b) := fun b' off' e h => by
      rcases hlow with ⟨h1, h2⟩ | h1
      · refine .inl ?_
        obtain ⟨b2, off2, e2, hc⟩ := HI.out 0 (by omega)
        rw [← h1, e] at e2
        simp at e2
        obtain ⟨rfl, rfl⟩ := e2
        have := block_lt_of_cell hc
        simpa using this
      · exact .inr (h1 b' off' e)
    have CUR : Hid (IntsAt wr ad cur) := hcur
    have CO : Hid (codeV true n zs os vs ko kv veh cur = 0) := hco
    have PO : Hid (polV n zs os vs ko kv veh cur = xs) := hpo
    have h12 := code12 hco
    have RC : Hid (rcV n zs os vs ko kv veh cur + (k : Int) ≤ 130000) := hrc
    clear hD hlow hcur hco hpo hrc
    obtain ⟨q0, q1⟩ := cells2 D1.out.2.2.1
    by_cases hlt : k < 130000
    · have hlt' : (k : Int) < 130000 := by omega
      have hwk : IntKind.i64.wrap ((k : Int) + 1) = ((k + 1 : Nat) : Int) := by rw [IntWalk.i64_in _ (by omega)]; omega
      obtain ⟨m0, m1⟩ := cells2 D1.out.2.1
      obtain ⟨s, HS⟩ : ∃ t, Hid (btV true n zs os vs ko kv veh cur = t) := ⟨_, rfl⟩
      have hbv := bt_v (os := os) (vs := vs) (ko := ko) (kv := kv) (veh := veh) (ids := cur) HZ.out
      rw [HS.out] at hbv
      have HBV : Hid (-130000 ≤ s.v ∧ s.v ≤ 0 ∧ (s.f = false → s.v = 0) ∧ (s.f = true → s.v < 0)) := hbv
      clear hbv
      go_wp2_with fail
      clear m0 m1 q0 q1
      refine (best_any n fine veh a ao av ad cap ko co kv cv cc zs os vs cur wr (HA.out.below D1.out.b) (HO.out.below D1.out.b) (HV.out.below D1.out.b) CUR.out HLO.out HLV.out hko hkv (by omega) hcc HC.out h12 pc (below_row D1.out.b (row_lt PC.out) PC.out) s ((bt_len h12).trans HS.out)).mono ?_
      rintro e w2 ⟨rfl, hb⟩
      obtain ⟨sf, si, sj, sv⟩ := s
      dsimp only
      have D2 : Hid (DB w (w2.alloc (.cells #[Value.int IntKind.i64 si, Value.int IntKind.i64 sj] 83)) #[Value.func (.func 73) #[] #[], Value.func (.func 74) #[] #[.pointer (some ⟨pc, 0, none⟩)]] #[Value.int IntKind.i64 veh, Value.slice ad cur.length cc]) := (D1.out.below hb).below ((Below.refl _ _).alloc (Nat.le_refl _) _)
      have N2 : Hid ((w2.alloc (.cells #[Value.int IntKind.i64 si, Value.int IntKind.i64 sj] 83)).heap[w2.heap.size]? = some (.cells #[Value.int IntKind.i64 si, Value.int IntKind.i64 sj] 83 (0, 0))) := heap_alloc_new _ _
      have CU2 : Hid (IntsAt (w2.alloc (.cells #[Value.int IntKind.i64 si, Value.int IntKind.i64 sj] 83)) ad cur) := (CUR.out.below hb).below ((Below.refl _ _).alloc (Nat.le_refl _) _)
      clear hb D1 CUR
      obtain ⟨q0, q1⟩ := cells2 D2.out.2.2.1
      cases sf
      · have hst : (btV true n zs os vs ko kv veh cur).f = false := by rw [HS.out]
        have hx := PO.out
        rw [polV_stop hst] at hx
        subst hx
        obtain ⟨t0, t1⟩ := cells2 D2.out.2.2.2
        have tf := fun i => frozen_of_row _ _ i _ _ D2.out.2.2.2
        clear hst
        go_wp2
        refine bodyPost_ret (v := .tuple #[.agg #[.int .i64 veh, .slice ad cur.length cc], .int .i64 k]) (by simp [results, Try.results47, go_sem, t0, t1]) rfl ⟨ad, cc, k, rfl, ADR.out, LOW0.out, ?_, ?_, h12⟩
        · repeat (first | with_reducible exact D2.out.b | refine Below.setCell ?_ (by simp <;> omega) _)
        · refine ints_low (ints_low CU2.out ?_) ?_
          · intro b off e h
            have := LOW.out b off e h
            omega
          · intro b off e h
            have := LOW.out b off e h
            omega
      · have hst : (btV true n zs os vs ko kv veh cur).f = true := by rw [HS.out]
        obtain ⟨a1, a2, a3, a4⟩ := bt_made hst
        have hx := PO.out
        rw [polV_step HZ.out hst] at hx
        rw [HS.out] at a1 a2 a3 a4 hx
        dsimp only at a1 a2 a3 a4 hx
        obtain ⟨nx, HNX⟩ : ∃ t, Hid (revL cur si sj = t) := ⟨_, rfl⟩
        have hsv : Hid (sv < 0) := HBV.out.2.2.2 rfl
        have A4 : Hid (rcV n zs os vs ko kv veh nx - rcV n zs os vs ko kv veh cur = sv) := by rw [← HNX.out]; exact a4
        rw [HNX.out] at a1 hx
        have htb := turnB_true a2
        have HNL : Hid (nx.length = cur.length ∧ 0 < cur.length) := by
          refine ⟨?_, by omega⟩
          rw [← HNX.out]
          exact revL_length (by omega) (by omega)
        clear htb
        have A1 : Hid (codeV true n zs os vs ko kv veh nx = 0) := a1
        have A3 : Hid (trB true n zs os vs ko kv veh cur si sj = true) := a3
        have HX2 : Hid (polV n zs os vs ko kv veh nx = xs) := hx
        clear hst hx a1 a2 a3 a4
        obtain ⟨m0, m1⟩ := cells2 D2.out.2.1
        obtain ⟨n0, n1⟩ := cells2 N2.out
        have qf := fun i => frozen_of_row _ _ i _ _ D2.out.2.2.1
        go_wp2_with fail
        clear m0 m1 n0 n1 q0 q1 qf
        refine (turns1_any n fine veh a ao av ad cap ko co kv cv cc zs os vs cur (w2.alloc (.cells #[Value.int IntKind.i64 si, Value.int IntKind.i64 sj] 83)) (HA.out.below D2.out.b) (HO.out.below D2.out.b) (HV.out.below D2.out.b) CU2.out HLO.out HLV.out hko hkv (by omega) hcc HC.out pc (below_row D2.out.b (row_lt PC.out) PC.out) (si : Int) (sj : Int) true A3.out _ rfl nx (by rw [← HNX.out]; rfl)).mono ?_
        rintro e w4 ⟨hb, ad2, cc2, rfl, ho⟩
        have hvv : chI true veh = veh := rfl
        rw [hvv]
        clear hvv
        obtain ⟨DD, HDD⟩ : ∃ t, Hid (chD true n zs os vs ko kv veh cur (revL cur ((si : Int).toNat) ((sj : Int).toNat)) = t) := ⟨_, rfl⟩
        rw [HDD.out]
        have D4 : Hid (DB w w4 #[Value.func (.func 73) #[] #[], Value.func (.func 74) #[] #[.pointer (some ⟨pc, 0, none⟩)]] #[Value.int IntKind.i64 veh, Value.slice ad cur.length cc]) := D2.out.below hb
        have O4 : Hid (w4.ownsRow (w2.alloc (.cells #[Value.int IntKind.i64 si, Value.int IntKind.i64 sj] 83)).heap.size 2 1 (.slice ad2 nx.length cc2) nx.length _) := ho
        have L4 : Hid (w.heap.size + 2 < (w2.alloc (.cells #[Value.int IntKind.i64 si, Value.int IntKind.i64 sj] 83)).heap.size) := D2.out.big
        clear hb ho D2 CU2 N2
        have D5 : Hid (DB w _ #[Value.func (.func 73) #[] #[], Value.func (.func 74) #[] #[.pointer (some ⟨pc, 0, none⟩)]] #[Value.int IntKind.i64 veh, Value.slice ad2 nx.length cc2]) := D4.out.put (.int .i64 veh) (.slice ad2 nx.length cc2)
        obtain ⟨q0, q1⟩ := cells2 D4.out.2.2.1
        have qf := fun i => frozen_of_row _ _ i _ _ D4.out.2.2.1
        go_wp2
        go_roundw
        case rel =>
          obtain ⟨ad3, cc3, e3, _, hi3⟩ := owns_at1 O4.out
          simp only [Value.slice.injEq] at e3
          obtain ⟨rfl, _, rfl⟩ := e3
          have hlow3 : ∀ b off, ad2 = some ⟨b, off, none⟩ → w.heap.size + 2 < b := by
            intro b off e
            have := (O4.out.lt b (by rw [e]; rfl)).1
            have := L4.out
            omega
          have hlow2 : ∀ b off, ad2 = some ⟨b, off, none⟩ → 0 < nx.length → b < w.heap.size ∨ w.heap.size + 2 < b := fun b off e _ => .inr (hlow3 b off e)
          have hadr2 : ∃ b off, ad2 = some ⟨b, off, none⟩ := by
            rcases own_shape O4.out with h | ⟨g, c, h⟩
            · simp only [Value.slice.injEq] at h
              have := HNL.out
              omega
            · simp only [Value.slice.injEq] at h
              exact ⟨g, 0, h.1⟩
          refine ⟨k + 1, nx, ad2, cc2, by omega, by first | rfl | go_num, .inr hadr2, D5.out, .inr hlow3, ?_, ?_, A1.out, HX2.out, by have h1 := RC.out; have h2 := A4.out; have h3 := hsv.out; omega⟩
          · refine ints_low (ints_low hi3 ?_) ?_
            · intro b off e h
              have := hlow2 b off e h
              omega
            · intro b off e h
              have := hlow2 b off e h
              omega
          · rcases own_shape O4.out with h | ⟨g, c, h⟩
            · simp only [Value.slice.injEq] at h
              omega
            · simp only [Value.slice.injEq] at h
              obtain ⟨rfl, _, rfl⟩ := h
              exact (own_bd O4.out).1
        case measure => simp [intOf]; omega
    · have hke : k = 130000 := by omega
      subst hke
      have hst := bt_free (os := os) (vs := vs) (ko := ko) (kv := kv) (veh := veh) (ids := cur) HZ.out (by have := RC.out; omega)
      have hx := PO.out
      rw [polV_stop hst] at hx
      subst hx
      obtain ⟨t0, t1⟩ := cells2 D1.out.2.2.2
      have tf := fun i => frozen_of_row _ _ i _ _ D1.out.2.2.2
      clear hst
      go_wp2
      refine bodyPost_ret (v := .tuple #[.agg #[.int .i64 veh, .slice ad cur.length cc], .int .i64 130000]) (by simp [results, Try.results47, go_sem, t0, t1]) rfl ⟨ad, cc, 130000, rfl, ADR.out, LOW0.out, ?_, ?_, h12⟩
      · repeat (first | with_reducible exact D1.out.b | refine Below.setCell ?_ (by simp <;> omega) _)
      · refine ints_low (ints_low CUR.out ?_) ?_
        · intro b off e h
          have := LOW.out b off e h
          omega
        · intro b off e h
          have := LOW.out b off e h
          omega

end Go.Proofs.Ytplefpmchhcfcaa
