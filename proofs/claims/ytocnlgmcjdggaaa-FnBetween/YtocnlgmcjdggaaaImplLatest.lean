import Derived.Test.YtocnlgmcjdggaaaPack1
import Derived.Test.YtocnlgmcjdggaaaPack2
import Derived.Test.YtocnlgmcjdggaaaPack17
import Derived.Test.YtocnlgmcjdggaaaKinTailIn
import Derived.RangeFuncNested
import Derived.RangeFuncBound
import Derived.RangeFuncCalls
import Derived.RangeFuncLeaves
import Derived.Shelf.Abstract
import Derived.Shelf.RegionOpen
import Derived.OwnWalkIn
import Derived.TacticsInMore
import Derived.LoopNIn
import Derived.LoopIn
import Derived.Deep.CutRange
namespace Go.Proofs.Ytocnlgmcjdggaaa
open Go.RowKit Go.Shelf
attribute [local go_sem] Oper.semAt_some

theorem KpT.below {n₀ Bt : Nat} {ob : Obj} {W W' : World} (hb : Below W.heap.size W W') (hn : n₀ ≤ W.heap.size) : KpT n₀ Bt ob W W' :=
  ⟨hb.mono hn, fun h => below_row hb (Array.getElem?_eq_some_iff.1 h).1 h⟩
theorem keepsOthers_below {W W' : World} (hb : Below W.heap.size W W') : KeepsOthers W W' := KeepsOthers.of_grownBy (grown_of hb) (fun _ _ e => by cases e)

set_option maxRecDepth 100000 in
set_option maxHeartbeats 4000000 in
theorem implLatest_any (n fine veh : Int) (a ao av bi : Option Addr) (cap ko co kv cv c2 : Nat) (zs os vs ids : List Int) (w : World) (hA : IntsAt w a zs) (hO : IntsAt w ao os) (hV : IntsAt w av vs) (hI : IntsAt w bi ids) (hlo : os.length = ko * 6) (hlv : vs.length = kv * 5) (hko : ko ≤ 9223372036854775807) (hkv : kv ≤ 9223372036854775807) (hli : ids.length ≤ 9223372036854775807) (hc2 : ids.length ≤ c2) :
    Calls Try.prog 19 #[.agg #[.int .i64 n, .slice a zs.length cap, .slice ao ko co, .slice av kv cv, .int .i64 fine], .agg #[.int .i64 veh, .slice bi ids.length c2]] w fun e w' => Below w.heap.size w w' ∧ ((codeV (caseB n zs os vs ko kv fine) n zs os vs ko kv veh ids ≠ 0 ∧ e = .returned (.tuple #[.slice none 0 0, .int .i64 (-1)])) ∨ (codeV (caseB n zs os vs ko kv fine) n zs os vs ko kv veh ids = 0 ∧ ∃ gs, e = .returned (.tuple #[.slice (some ⟨gs, 0, none⟩) ids.length ids.length, .int .i64 (leaveV n zs (rosOf os ko ids) ids.length (fnd5F vs kv veh 1) (fnd5F vs kv veh 4))]) ∧ w'.ownsRow w.heap.size 2 1 (.slice (some ⟨gs, 0, none⟩) ids.length ids.length) ids.length ((latL n zs (rosOf os ko ids) ids.length (fnd5F vs kv veh 1) (fnd5F vs kv veh 4)).map (Value.int .i64)))) := by
  have HA : Hid (IntsAt w a zs) := hA
  have HO : Hid (IntsAt w ao os) := hO
  have HV : Hid (IntsAt w av vs) := hV
  have HI : Hid (IntsAt w bi ids) := hI
  have HLO : Hid _ := hlo
  have HLV : Hid _ := hlv
  clear hA hO hV hI hlo hlv
  have HC0 : Hid (CR w ((w.alloc (.cells #[Value.int IntKind.i64 n, Value.slice a zs.length cap, Value.slice ao ko co, Value.slice av kv cv, Value.int IntKind.i64 fine] 30)).alloc (.cells #[Value.int IntKind.i64 veh, Value.slice bi ids.length c2] 32)) _ _) := CR.new w _ _
  refine (callsIn_wide (n := 3)).1 ?_
  refine callsIn_of_wp_marks Try.func19 rfl trivial ?_ rfl
  simp only [Try.ntmps19, List.size_toArray, List.length_cons, List.length_nil, Nat.reduceAdd, Nat.reduceSub, Array.replicate_succ, Array.replicate_zero, List.push_toArray, List.append_toArray, List.nil_append, List.cons_append]
  refine wpIn_wide.2 ?_
  obtain ⟨c0, c1, c2', c3, c4⟩ := cells5 HC0.out.2.1
  obtain ⟨d0, d1⟩ := cells2 HC0.out.2.2
  go_wp2_with fail
  clear c0 c1 c2' c3 c4 d0 d1
  refine (checkedTour_any n fine veh a ao av bi cap ko co kv cv c2 zs os vs ids _ (HA.out.below HC0.out.1) (HO.out.below HC0.out.1) (HV.out.below HC0.out.1) (HI.out.below HC0.out.1) HLO.out HLV.out hko hkv hli hc2).mono ?_
  rintro e w2 ⟨hb, ⟨hf, rfl⟩ | ⟨hf, g, _, rfl, hros⟩⟩
  · have HB2 : Hid (Below w.heap.size w w2) := HC0.out.1.trans (hb.mono HC0.out.1.size)
    have HF : Hid (codeV (caseB n zs os vs ko kv fine) n zs os vs ko kv veh ids ≠ 0) := hf
    obtain ⟨fv, HFV⟩ : ∃ t, Hid (codeV (caseB n zs os vs ko kv fine) n zs os vs ko kv veh ids = t) := ⟨_, rfl⟩
    rw [HFV.out] at hf ⊢
    have hfb : (fv != 0) = true := by simp [hf]
    clear hb hf
    go_wp2
    exact ⟨.tuple #[.slice none 0 0, .int .i64 (-1)], by simp [results, Try.results19, go_sem], HB2.out.alloc HB2.out.size _, .inl ⟨HF.out, rfl⟩⟩
  · have HB2 : Hid (Below w.heap.size w w2) := HC0.out.1.trans (hb.mono HC0.out.1.size)
    have HFZ : Hid (codeV (caseB n zs os vs ko kv fine) n zs os vs ko kv veh ids = 0) := hf
    obtain ⟨hcb, _, hst⟩ := formV_zero (codeV_zero hf).1
    obtain ⟨hmat, hords, hvehs, hn1, _⟩ := caseB_parts hcb
    obtain ⟨hvb1, hvb2, hvb3, hvb4⟩ := fnd5F_bd hvehs hn1 veh
    have HMAT : Hid (matB n zs = true) := hmat
    have HBD : Hid (RosBd n (rosOf os ko ids) ids.length) := rosBd_of hords hn1 ids
    have h12 := (stopsB_true hst).1
    obtain ⟨v0, G0⟩ : ∃ t, Hid (fnd5F vs kv veh 0 = t) := ⟨_, rfl⟩
    obtain ⟨v1, G1⟩ : ∃ t, Hid (fnd5F vs kv veh 1 = t) := ⟨_, rfl⟩
    obtain ⟨v2, G2⟩ : ∃ t, Hid (fnd5F vs kv veh 2 = t) := ⟨_, rfl⟩
    obtain ⟨v3, G3⟩ : ∃ t, Hid (fnd5F vs kv veh 3 = t) := ⟨_, rfl⟩
    obtain ⟨v4, G4⟩ : ∃ t, Hid (fnd5F vs kv veh 4 = t) := ⟨_, rfl⟩
    rw [G1.out] at hvb1
    rw [G4.out] at hvb4
    rw [G0.out, G1.out, G2.out, G3.out, G4.out]
    have HX1 : Hid (0 ≤ v1 ∧ v1 < n) := hvb1
    have HX4 : Hid (0 ≤ v4 ∧ v4 ≤ 1000000) := hvb4
    have HA2 : Hid (IntsAt w2 a zs) := HA.out.below HB2.out
    have HR2 : Hid (IntsAt w2 (some ⟨g, 0, none⟩) (rosOf os ko ids)) := hros
    have hmk := fun X : World => make_ints X ids.length (by omega)
    clear hb hf hros HC0 hmat hords hvehs hn1 hvb1 hvb2 hvb3 hvb4 hcb hst
    have HB3 : Hid (Below w2.heap.size w2 (((w2.alloc (Obj.cells #[Value.int IntKind.i64 n, Value.slice a zs.length cap, Value.int IntKind.i64 v0, Value.int IntKind.i64 v1, Value.int IntKind.i64 v2, Value.int IntKind.i64 v3, Value.int IntKind.i64 v4, Value.slice (some ⟨g, 0, none⟩) ids.length ids.length] 74)).alloc (Obj.cells (cellsOf (List.replicate ids.length 0)) 2)).alloc (Obj.cells #[.slice (some ⟨w2.heap.size + 1, 0, none⟩) ids.length ids.length] 24))) := (((Below.refl _ _).alloc (Nat.le_refl _) _).alloc (by simp) _).alloc (by simp; omega) _
    have HR0 : Hid ((((w2.alloc (Obj.cells #[Value.int IntKind.i64 n, Value.slice a zs.length cap, Value.int IntKind.i64 v0, Value.int IntKind.i64 v1, Value.int IntKind.i64 v2, Value.int IntKind.i64 v3, Value.int IntKind.i64 v4, Value.slice (some ⟨g, 0, none⟩) ids.length ids.length] 74)).alloc (Obj.cells (cellsOf (List.replicate ids.length 0)) 2)).alloc (Obj.cells #[.slice (some ⟨w2.heap.size + 1, 0, none⟩) ids.length ids.length] 24)).heap[w2.heap.size]? = some (.cells #[Value.int IntKind.i64 n, Value.slice a zs.length cap, Value.int IntKind.i64 v0, Value.int IntKind.i64 v1, Value.int IntKind.i64 v2, Value.int IntKind.i64 v3, Value.int IntKind.i64 v4, Value.slice (some ⟨g, 0, none⟩) ids.length ids.length] 74 (0, 0))) := (heap_alloc_old _ _ (row_lt (heap_alloc2_old w2 _ _))).trans (heap_alloc2_old w2 _ _)
    have HR1 : Hid ((((w2.alloc (Obj.cells #[Value.int IntKind.i64 n, Value.slice a zs.length cap, Value.int IntKind.i64 v0, Value.int IntKind.i64 v1, Value.int IntKind.i64 v2, Value.int IntKind.i64 v3, Value.int IntKind.i64 v4, Value.slice (some ⟨g, 0, none⟩) ids.length ids.length] 74)).alloc (Obj.cells (cellsOf (List.replicate ids.length 0)) 2)).alloc (Obj.cells #[.slice (some ⟨w2.heap.size + 1, 0, none⟩) ids.length ids.length] 24)).heap[w2.heap.size + 1]? = some (.cells (cellsOf (List.replicate ids.length 0)) 2 (0, 0))) := (heap_alloc_old _ _ (row_lt (heap_alloc2_new w2 _ _))).trans (heap_alloc2_new w2 _ _)
    have HR3 : Hid ((((w2.alloc (Obj.cells #[Value.int IntKind.i64 n, Value.slice a zs.length cap, Value.int IntKind.i64 v0, Value.int IntKind.i64 v1, Value.int IntKind.i64 v2, Value.int IntKind.i64 v3, Value.int IntKind.i64 v4, Value.slice (some ⟨g, 0, none⟩) ids.length ids.length] 74)).alloc (Obj.cells (cellsOf (List.replicate ids.length 0)) 2)).alloc (Obj.cells #[.slice (some ⟨w2.heap.size + 1, 0, none⟩) ids.length ids.length] 24)).heap[w2.heap.size + 2]? = some (.cells #[.slice (some ⟨w2.heap.size + 1, 0, none⟩) ids.length ids.length] 24 (0, 0))) := by
      have h9 := heap_alloc_new ((w2.alloc (Obj.cells #[Value.int IntKind.i64 n, Value.slice a zs.length cap, Value.int IntKind.i64 v0, Value.int IntKind.i64 v1, Value.int IntKind.i64 v2, Value.int IntKind.i64 v3, Value.int IntKind.i64 v4, Value.slice (some ⟨g, 0, none⟩) ids.length ids.length] 74)).alloc (Obj.cells (cellsOf (List.replicate ids.length 0)) 2)) (.cells #[.slice (some ⟨w2.heap.size + 1, 0, none⟩) ids.length ids.length] 24)
      rw [World.size_alloc, World.size_alloc] at h9
      exact h9
    obtain ⟨t0, t1, t2, t3, t4, t5, t6, t7⟩ := cells8 (heap_alloc_new w2 (Obj.cells #[Value.int IntKind.i64 n, Value.slice a zs.length cap, Value.int IntKind.i64 v0, Value.int IntKind.i64 v1, Value.int IntKind.i64 v2, Value.int IntKind.i64 v3, Value.int IntKind.i64 v4, Value.slice (some ⟨g, 0, none⟩) ids.length ids.length] 74))
    go_upto_region 5 with fail
    clear t0 t1 t2 t3 t4 t5 t6 t7
    generalize ((w2.alloc (Obj.cells #[Value.int IntKind.i64 n, Value.slice a zs.length cap, Value.int IntKind.i64 v0, Value.int IntKind.i64 v1, Value.int IntKind.i64 v2, Value.int IntKind.i64 v3, Value.int IntKind.i64 v4, Value.slice (some ⟨g, 0, none⟩) ids.length ids.length] 74)).alloc (Obj.cells (cellsOf (List.replicate ids.length 0)) 2)).alloc (Obj.cells #[.slice (some ⟨w2.heap.size + 1, 0, none⟩) ids.length ids.length] 24) = W0 at *
    obtain ⟨t0, t1, t2, t3, t4, t5, t6, t7⟩ := cells8 HR0.out
    have HZ0 : Hid (w2.heap.size + 2 < W0.heap.size) := row_lt HR3.out
    go_cut [8, 9, 10] from 24 to 30 (fun s8 s9 s10 wx => ∃ gs bs bp bn : Nat, s8 = .pointer (some ⟨bs, 0, none⟩) ∧ s9 = .pointer (some ⟨bp, 0, none⟩) ∧ s10 = .pointer (some ⟨bn, 0, none⟩) ∧ LateAt w2 wx #[Value.int IntKind.i64 n, Value.slice a zs.length cap, Value.int IntKind.i64 v0, Value.int IntKind.i64 v1, Value.int IntKind.i64 v2, Value.int IntKind.i64 v3, Value.int IntKind.i64 v4, Value.slice (some ⟨g, 0, none⟩) ids.length ids.length] ids.length gs bs bp bn v1 v4 (List.replicate ids.length 0))
    case first =>
      have K1 : Hid (LateAt w2 ((W0.alloc (Obj.cells #[Value.int IntKind.i64 v1] 2)).alloc (Obj.cells #[Value.int IntKind.i64 v4] 2)).drew #[Value.int IntKind.i64 n, Value.slice a zs.length cap, Value.int IntKind.i64 v0, Value.int IntKind.i64 v1, Value.int IntKind.i64 v2, Value.int IntKind.i64 v3, Value.int IntKind.i64 v4, Value.slice (some ⟨g, 0, none⟩) ids.length ids.length] ids.length (w2.heap.size + 1) (w2.heap.size + 1 + 1) W0.heap.size (W0.heap.size + 1) v1 v4 (List.replicate ids.length 0)) := by
        have hb := ((Below.refl W0.heap.size W0).alloc (Nat.le_refl _) (Obj.cells #[Value.int IntKind.i64 v1] 2)).alloc (by simp) (Obj.cells #[Value.int IntKind.i64 v4] 2)
        have h9 := HZ0.out
        exact ⟨(HB3.out.trans (hb.mono HB3.out.size)).drew, below_row hb (row_lt HR0.out) HR0.out, below_row hb (row_lt HR1.out) HR1.out, below_row hb (row_lt HR3.out) HR3.out, heap_alloc2_old W0 _ _, heap_alloc2_new W0 _ _, by omega, by omega, by omega, by omega, by omega⟩
      have K2 : Hid (LateAt w2 ((W0.alloc (Obj.cells #[Value.int IntKind.i64 v4] 2)).alloc (Obj.cells #[Value.int IntKind.i64 v1] 2)).drew #[Value.int IntKind.i64 n, Value.slice a zs.length cap, Value.int IntKind.i64 v0, Value.int IntKind.i64 v1, Value.int IntKind.i64 v2, Value.int IntKind.i64 v3, Value.int IntKind.i64 v4, Value.slice (some ⟨g, 0, none⟩) ids.length ids.length] ids.length (w2.heap.size + 1) (w2.heap.size + 1 + 1) (W0.heap.size + 1) W0.heap.size v1 v4 (List.replicate ids.length 0)) := by
        have hb := ((Below.refl W0.heap.size W0).alloc (Nat.le_refl _) (Obj.cells #[Value.int IntKind.i64 v4] 2)).alloc (by simp) (Obj.cells #[Value.int IntKind.i64 v1] 2)
        have h9 := HZ0.out
        exact ⟨(HB3.out.trans (hb.mono HB3.out.size)).drew, below_row hb (row_lt HR0.out) HR0.out, below_row hb (row_lt HR1.out) HR1.out, below_row hb (row_lt HR3.out) HR3.out, heap_alloc2_new W0 _ _, heap_alloc2_old W0 _ _, by omega, by omega, by omega, by omega, by omega⟩
      have hz1 := row_lt HR0.out
      have hz2 := HZ0.out
      go_region
      all_goals (try go_wp2_with fail)
      all_goals go_meet
      all_goals first
        | exact ⟨_, _, _, _, rfl, rfl, rfl, K1.out⟩
        | exact ⟨_, _, _, _, rfl, rfl, rfl, K2.out⟩
    case rest =>
      clear t0 t1 t2 t3 t4 t5 t6 t7 HB3 HR0 HR1 HR3 HZ0 hmk
      obtain ⟨gs, bs, bp, bn, rfl, rfl, rfl, hx⟩ := hcut
      have HX : Hid (LateAt w2 wc #[Value.int IntKind.i64 n, Value.slice a zs.length cap, Value.int IntKind.i64 v0, Value.int IntKind.i64 v1, Value.int IntKind.i64 v2, Value.int IntKind.i64 v3, Value.int IntKind.i64 v4, Value.slice (some ⟨g, 0, none⟩) ids.length ids.length] ids.length gs bs bp bn v1 v4 (List.replicate ids.length 0)) := hx
      obtain ⟨t0, t1, t2, t3, t4, t5, t6, t7⟩ := cells8 hx.2.1
      clear hx
      go_wp2_with fail
      clear t0 t1 t2 t3 t4 t5 t6 t7
      refine (backward_any (some ⟨g, 0, none⟩) ids.length ids.length wc).mono ?_
      rintro e w3 ⟨rfl, rfl⟩
      have HX2 : Hid (LateAt w2 (wc.alloc (.cells #[Value.slice (some ⟨g, 0, none⟩) ids.length ids.length] 27)) #[Value.int IntKind.i64 n, Value.slice a zs.length cap, Value.int IntKind.i64 v0, Value.int IntKind.i64 v1, Value.int IntKind.i64 v2, Value.int IntKind.i64 v3, Value.int IntKind.i64 v4, Value.slice (some ⟨g, 0, none⟩) ids.length ids.length] ids.length gs bs bp bn v1 v4 (List.replicate ids.length 0)) := HX.out.below ((Below.refl _ _).alloc (Nat.le_refl _) _)
      have HT2 : Hid ((wc.alloc (.cells #[Value.slice (some ⟨g, 0, none⟩) ids.length ids.length] 27)).heap[wc.heap.size]? = some (.cells #[Value.slice (some ⟨g, 0, none⟩) ids.length ids.length] 27 (0, 0))) := heap_alloc_new _ _
      have HZ : Hid (bs < wc.heap.size ∧ bp < wc.heap.size ∧ bn < wc.heap.size) := ⟨row_lt HX.out.2.2.2.1, row_lt HX.out.2.2.2.2.1, row_lt HX.out.2.2.2.2.2.1⟩
      go_wp2_with fail
      refine (wpIn_wide (n := 3)).1 ?_
      refine wpIn_rangeFunc_ownH rfl (by omega) (gf := 78) (lb := #[.pointer (some ⟨wc.heap.size, 0, none⟩)]) rfl trivial (enters_of Try.func78 (by kernel_rfl) rfl)
        (back_stops 2 (by omega) wc.heap.size w2.heap.size (some ⟨g, 0, none⟩) ids.length ids.length (rosOf os ko ids) w2 _ (Nat.le_refl _) HX2.out.1 HT2.out HR2.out (rosOf_length os ko ids) h12)
        KpT.trans (KpT.putObj rfl HX2.out.1.size) (Below.refl _ _) (fun _ => rfl)
        (fun pre W => LateAt w2 W #[Value.int IntKind.i64 n, Value.slice a zs.length cap, Value.int IntKind.i64 v0, Value.int IntKind.i64 v1, Value.int IntKind.i64 v2, Value.int IntKind.i64 v3, Value.int IntKind.i64 v4, Value.slice (some ⟨g, 0, none⟩) ids.length ids.length] ids.length gs bs bp bn (lateS n zs (rosOf os ko ids) ids.length v1 v4 (pre.map Fin.val)).1 (lateS n zs (rosOf os ko ids) ids.length v1 v4 (pre.map Fin.val)).2.1 (lateS n zs (rosOf os ko ids) ids.length v1 v4 (pre.map Fin.val)).2.2 ∧ wc.heap.size < W.heap.size)
        (fun _ _ _ => False)
        (OwnFrom.and (LateAt.own w2 _ ids.length gs bs bp bn (fun pre : List (Fin ids.length) => (lateS n zs (rosOf os ko ids) ids.length v1 v4 (pre.map Fin.val)).1) (fun pre : List (Fin ids.length) => (lateS n zs (rosOf os ko ids) ids.length v1 v4 (pre.map Fin.val)).2.1) (fun pre : List (Fin ids.length) => (lateS n zs (rosOf os ko ids) ids.length v1 v4 (pre.map Fin.val)).2.2) _ HX2.out.1.size) (fun _ _ _ _ hs hg _ => Nat.lt_of_lt_of_le hs hg.size))
        (fun _ _ _ _ _ hs _ _ => hs)
        ⟨HX2.out, by simp⟩
        (fun x a' W => ∃ Bo, wc.heap.size < Bo ∧ W.heap[Bo]? = some (.cells #[.int .i64 (og6 (rosOf os ko ids) x.val 0), .int .i64 (og6 (rosOf os ko ids) x.val 1), .int .i64 (og6 (rosOf os ko ids) x.val 2), .int .i64 (og6 (rosOf os ko ids) x.val 3), .int .i64 (og6 (rosOf os ko ids) x.val 4), .int .i64 (og6 (rosOf os ko ids) x.val 5)] 43 (0, 0)) ∧ a' = { tmps := List.toArray (Value.agg #[Value.int IntKind.i64 n, Value.slice a zs.length cap, Value.slice ao ko co, Value.slice av kv cv, Value.int IntKind.i64 fine] :: Value.agg #[Value.int IntKind.i64 veh, Value.slice bi ids.length c2] :: Value.pointer (some ⟨w.heap.size, 0, none⟩) :: Value.pointer (some ⟨w.heap.size + 1, 0, none⟩) :: Value.slice none 0 0 :: Value.int IntKind.i64 0 :: Value.pointer (some ⟨w2.heap.size, 0, none⟩) :: Value.int IntKind.i64 0 :: Value.pointer (some ⟨bs, 0, none⟩) :: Value.pointer (some ⟨bp, 0, none⟩) :: Value.pointer (some ⟨bn, 0, none⟩) :: Value.int IntKind.i64 (x.val : Int) :: Value.pointer (some ⟨Bo, 0, none⟩) :: Value.tuple #[Value.agg #[Value.int IntKind.i64 n, Value.slice a zs.length cap, Value.int IntKind.i64 v0, Value.int IntKind.i64 v1, Value.int IntKind.i64 v2, Value.int IntKind.i64 v3, Value.int IntKind.i64 v4, Value.slice (some ⟨g, 0, none⟩) ids.length ids.length], Value.int IntKind.i64 0] :: Value.agg #[Value.int IntKind.i64 n, Value.slice a zs.length cap, Value.slice ao ko co, Value.slice av kv cv, Value.int IntKind.i64 fine] :: Value.agg #[Value.int IntKind.i64 veh, Value.slice bi ids.length c2] :: Value.tuple #[Value.agg #[Value.int IntKind.i64 n, Value.slice a zs.length cap, Value.int IntKind.i64 v0, Value.int IntKind.i64 v1, Value.int IntKind.i64 v2, Value.int IntKind.i64 v3, Value.int IntKind.i64 v4, Value.slice (some ⟨g, 0, none⟩) ids.length ids.length], Value.int IntKind.i64 0] :: Value.agg #[Value.int IntKind.i64 n, Value.slice a zs.length cap, Value.int IntKind.i64 v0, Value.int IntKind.i64 v1, Value.int IntKind.i64 v2, Value.int IntKind.i64 v3, Value.int IntKind.i64 v4, Value.slice (some ⟨g, 0, none⟩) ids.length ids.length] :: Value.int IntKind.i64 0 :: Value.int IntKind.i64 0 :: Value.bool false :: Value.pointer (some ⟨w2.heap.size, 7, none⟩) :: Value.slice (some ⟨g, 0, none⟩) ids.length ids.length :: Value.int IntKind.i64 (ids.length : Int) :: u24 :: u25 :: u26 :: u27 :: u28 :: u29 :: u30 :: Value.pointer (some ⟨w2.heap.size, 7, none⟩) :: Value.slice (some ⟨g, 0, none⟩) ids.length ids.length :: Value.func (Fn.func 78) #[] #[Value.pointer (some ⟨wc.heap.size, 0, none⟩)] :: Value.int IntKind.i64 (x.val : Int) :: Value.agg #[Value.int IntKind.i64 (og6 (rosOf os ko ids) x.val 0), Value.int IntKind.i64 (og6 (rosOf os ko ids) x.val 1), Value.int IntKind.i64 (og6 (rosOf os ko ids) x.val 2), Value.int IntKind.i64 (og6 (rosOf os ko ids) x.val 3), Value.int IntKind.i64 (og6 (rosOf os ko ids) x.val 4), Value.int IntKind.i64 (og6 (rosOf os ko ids) x.val 5)] :: undef :: undef :: undef :: undef :: undef :: undef :: undef :: undef :: undef :: undef :: undef :: undef :: undef :: undef :: undef :: undef :: undef :: undef :: undef :: undef :: undef :: undef :: undef :: undef :: undef :: undef :: undef :: undef :: undef :: undef :: undef :: []), defers := [] })
        (fun x a' _ X Y row hs hg hr => by
          obtain ⟨Bo, g2, g4, g5⟩ := hs
          exact ⟨Bo, g2, row_own (cs := fun _ : Unit => _) () X Y row g4 hg hr, g5⟩)
        ?assign ?body ?done ?stop
      case assign =>
        rintro l pre x W K ⟨hi, hsz⟩ hK
        gi_wp2
        
        exact hK _ _ ((KeepsOthers.alloc _ _).from _) (KpT.alloc _ _ hi.1.size) ⟨hi.below ((Below.refl _ _).alloc (Nat.le_refl _) _), by simp; omega⟩ ⟨W.heap.size, hsz, heap_alloc_new _ _, rfl⟩
      case body =>
        rintro l pre x a' W hl hlr ⟨hi, hsz⟩ ⟨Bo, g2, g4, rfl⟩ hlt
        have hbd := lateS_bd HMAT.out HBD.out HX1.out HX4.out pre
        have HSN := lateS_snoc n zs (rosOf os ko ids) ids.length v1 v4 (pre.map Fin.val) x.val
        unfold lateStep at HSN
        obtain ⟨p, HP⟩ : ∃ t, Hid ((lateS n zs (rosOf os ko ids) ids.length v1 v4 (pre.map Fin.val)).1 = t) := ⟨_, rfl⟩
        obtain ⟨th, HTH⟩ : ∃ t, Hid ((lateS n zs (rosOf os ko ids) ids.length v1 v4 (pre.map Fin.val)).2.1 = t) := ⟨_, rfl⟩
        obtain ⟨xs, HXS⟩ : ∃ t, Hid ((lateS n zs (rosOf os ko ids) ids.length v1 v4 (pre.map Fin.val)).2.2 = t) := ⟨_, rfl⟩
        rw [HP.out, HTH.out, HXS.out] at HSN hbd hi
        have hxb := HBD.out x.val x.isLt
        obtain ⟨o0, H0⟩ : ∃ t, Hid (og6 (rosOf os ko ids) x.val 0 = t) := ⟨_, rfl⟩
        obtain ⟨o1, H1⟩ : ∃ t, Hid (og6 (rosOf os ko ids) x.val 1 = t) := ⟨_, rfl⟩
        obtain ⟨o2, H2⟩ : ∃ t, Hid (og6 (rosOf os ko ids) x.val 2 = t) := ⟨_, rfl⟩
        obtain ⟨o3, H3⟩ : ∃ t, Hid (og6 (rosOf os ko ids) x.val 3 = t) := ⟨_, rfl⟩
        obtain ⟨o4, H4⟩ : ∃ t, Hid (og6 (rosOf os ko ids) x.val 4 = t) := ⟨_, rfl⟩
        obtain ⟨o5, H5⟩ : ∃ t, Hid (og6 (rosOf os ko ids) x.val 5 = t) := ⟨_, rfl⟩
        rw [H0.out, H1.out, H2.out, H3.out, H4.out, H5.out] at g4
        rw [H1.out, H4.out, H5.out] at HSN
        rw [H1.out, H4.out, H5.out] at hxb
        rw [H0.out, H1.out, H2.out, H3.out, H4.out, H5.out]
        obtain ⟨d, HDD⟩ : ∃ t, Hid (tmI n zs o1 p = t) := ⟨_, rfl⟩
        have hdb := tmI_bd HMAT.out o1 p
        rw [HDD.out] at HSN hdb
        obtain ⟨mn, HMN⟩ : ∃ t, Hid (min o4 (th - d - o5) = t) := ⟨_, rfl⟩
        rw [HMN.out] at HSN
        have HSN' : Hid (lateS n zs (rosOf os ko ids) ids.length v1 v4 (pre.map Fin.val ++ [x.val]) = (o1, mn, xs.set x.val mn)) := HSN
        have HI : Hid (LateAt w2 W #[Value.int IntKind.i64 n, Value.slice a zs.length cap, Value.int IntKind.i64 v0, Value.int IntKind.i64 v1, Value.int IntKind.i64 v2, Value.int IntKind.i64 v3, Value.int IntKind.i64 v4, Value.slice (some ⟨g, 0, none⟩) ids.length ids.length] ids.length gs bs bp bn p th xs) := hi
        have HSZ : Hid (wc.heap.size < W.heap.size) := hsz
        have HOB : Hid (W.heap[Bo]? = some (.cells #[.int .i64 o0, .int .i64 o1, .int .i64 o2, .int .i64 o3, .int .i64 o4, .int .i64 o5] 43 (0, 0))) := g4
        have HPB : Hid (0 ≤ p ∧ p < n) := hbd.1
        have HO1 : Hid (0 ≤ o1 ∧ o1 < n) := hxb.1
        have HXL : Hid (xs.length = ids.length) := hbd.2.2
        have hth := hbd.2.1
        have ho4 := hxb.2.2.2.1
        have ho5 := hxb.2.2.2.2
        have hxl := x.isLt
        obtain ⟨xi, HXI⟩ : ∃ t, Hid (x.val = t) := ⟨_, rfl⟩
        rw [HXI.out] at hxl HSN'
        rw [HXI.out]
        have cg := hi.cell (i := xi) (by rw [HXL.out]; exact hxl)
        obtain ⟨z9, HZ9⟩ : ∃ t, Hid (xs.getD xi 0 = t) := ⟨_, rfl⟩
        rw [HZ9.out] at cg
        have fg := frozen_of_row _ _ xi _ _ hi.2.2.1
        have cs := hi.bs
        have cp := hi.bp
        have cn := hi.bn
        obtain ⟨t0, t1, t2, t3, t4, t5, t6, t7⟩ := cells8 hi.2.1
        obtain ⟨i0, i1, i2, i3, i4, i5⟩ := cells6 g4
        obtain ⟨y9, HY9⟩ : ∃ t, Hid (th - d - o5 = t) := ⟨_, rfl⟩
        rw [HY9.out] at HMN
        clear hi g4 hbd hxb HSN HP HTH HXS H0 H1 H2 H3 H4 H5 hsz
        have w1a : wrap64 (th - d) = th - d := IntWalk.wrap64_in _ (by omega)
        have w1b : IntKind.i64.wrap (th - d) = th - d := by rw [IntKind.wrap_i64]; omega
        have w2a : wrap64 (th - d - o5) = y9 := by rw [IntWalk.wrap64_in _ (by omega)]; exact HY9.out
        have w2b : IntKind.i64.wrap (th - d - o5) = y9 := by rw [← HY9.out, IntKind.wrap_i64]; omega
        have hmv : (o4 ≤ y9 ∧ mn = o4) ∨ (¬ o4 ≤ y9 ∧ mn = y9) := by have := HMN.out; omega
        clear HMN HY9
        have HC : ∀ s : Kin W, Calls Try.prog 54 #[.agg #[Value.int IntKind.i64 n, Value.slice a zs.length cap, Value.int IntKind.i64 v0, Value.int IntKind.i64 v1, Value.int IntKind.i64 v2, Value.int IntKind.i64 v3, Value.int IntKind.i64 v4, Value.slice (some ⟨g, 0, none⟩) ids.length ids.length], .int .i64 o1, .int .i64 p] s.w fun e w' => e = .returned (.int .i64 d) ∧ Below s.w.heap.size s.w w' := fun s => drive_is n o1 p v0 v1 v2 v3 v4 _ _ _ _ _ zs _ d HDD.out HMAT.out HO1.out HPB.out ((HA2.out.below HI.out.1).below s.below)
        gi_wp2
        have e0 := fun s : Kin W => s.cell t0
        have e1 := fun s : Kin W => s.cell t1
        have e2 := fun s : Kin W => s.cell t2
        have e3 := fun s : Kin W => s.cell t3
        have e4 := fun s : Kin W => s.cell t4
        have e5 := fun s : Kin W => s.cell t5
        have e6 := fun s : Kin W => s.cell t6
        have e7 := fun s : Kin W => s.cell t7
        have ep := fun s : Kin W => s.cell cp
        have en := fun s : Kin W => s.cell cn
        have es := fun s : Kin W => s.cell cs
        have q1 := fun s : Kin W => s.cell i1
        have q4 := fun s : Kin W => s.cell i4
        have q5 := fun s : Kin W => s.cell i5
        have hkin := Kin.there W
        have hlo : (0 : Int) ≤ (xi : Int) := by omega
        rcases hmv with ⟨hcmp, e9⟩ | ⟨hcmp, e9⟩
        all_goals
          subst e9
          refine wpIn_region_kin_tail 16 (by kernel_rfl) (by kernel_rfl) (by kernel_rfl) ?_
          simp only [List.take_succ_cons, List.take_zero, List.drop_succ_cons, List.drop_zero]
          repeat (go_big_quiet_step ((go_at_call 54; exact Kin.call (HC _))))
          refine wpQuiet_nil ?_
          rintro _ ⟨s, rfl⟩
          have HI2 : Hid (LateAt w2 s.w #[Value.int IntKind.i64 n, Value.slice a zs.length cap, Value.int IntKind.i64 v0, Value.int IntKind.i64 v1, Value.int IntKind.i64 v2, Value.int IntKind.i64 v3, Value.int IntKind.i64 v4, Value.slice (some ⟨g, 0, none⟩) ids.length ids.length] ids.length gs bs bp bn p th xs) := HI.out.below s.below
          have HOB2 : Hid (s.w.heap[Bo]? = _) := below_row s.below (row_lt HOB.out) HOB.out
          have cg2 := s.cell cg
          have fg2 := frozen_of_row _ _ xi _ _ HI2.out.2.2.1
          have HSB : Hid (Below W.heap.size W s.w) := s.below
          clear e0 e1 e2 e3 e4 e5 e6 e7 ep en es q1 q4 q5 hkin HC t0 t1 t2 t3 t4 t5 t6 t7 i0 i1 i2 i3 i4 i5 cg fg cs cp cn w1a w1b w2a w2b
          generalize s.w = W1 at *
          go_wp2
          have hlt9 := HI2.out.lt
          have hz9 := HZ.out
          have hne9 : Bo ≠ gs := by omega
          have HI3 := HI2.out.put xi mn
          have HO3 := row_set' (v := .int .i64 mn) (i := xi) HOB2.out hne9
          have HK3 : Hid (KeepsOthers W (W1.setCell ⟨gs, xi, none⟩ (.int .i64 mn)) ∧ KpT w2.heap.size wc.heap.size (.cells #[Value.slice (some ⟨g, 0, none⟩) ids.length ids.length] 27 (0, 0)) W (W1.setCell ⟨gs, xi, none⟩ (.int .i64 mn)) ∧ wc.heap.size < (W1.setCell ⟨gs, xi, none⟩ (.int .i64 mn)).heap.size) := ⟨(keepsOthers_below HSB.out).trans (KeepsOthers.setCell _ _ _), (KpT.below HSB.out HI.out.1.size).trans (KpT.set _ _ _ _ (by omega) (by omega)), by have h7 := HSZ.out; have h8 := HSB.out.size; simp [World.setCell]; omega⟩
          generalize W1.setCell ⟨gs, xi, none⟩ (.int .i64 mn) = W3 at *
          have HIH : Hid (LateAt w2 W3 #[Value.int IntKind.i64 n, Value.slice a zs.length cap, Value.int IntKind.i64 v0, Value.int IntKind.i64 v1, Value.int IntKind.i64 v2, Value.int IntKind.i64 v3, Value.int IntKind.i64 v4, Value.slice (some ⟨g, 0, none⟩) ids.length ids.length] ids.length gs bs bp bn p th (xs.set xi mn)) := HI3
          have cs := HI3.bs
          have cp := HI3.bp
          have cn := HI3.bn
          have cg := HI3.cell (i := xi) (by rw [List.length_set, HXL.out]; exact hxl)
          have hgm : (xs.set xi mn).getD xi 0 = mn := by rw [List.getD, List.getElem?_set_self (by rw [HXL.out]; exact hxl)]; rfl
          rw [hgm] at cg
          obtain ⟨i0, i1, i2, i3, i4, i5⟩ := cells6 HO3
          clear HI3 HO3 cg2 fg2 hgm
          have hlt3 := HIH.out.lt
          have fp := fun i => frozen_of_row _ _ i _ _ HIH.out.2.2.2.2.1
          have fn := fun i => frozen_of_row _ _ i _ _ HIH.out.2.2.2.2.2.1
          have HFIN : Hid (KeepsFrom (wc.alloc (Obj.cells #[Value.slice (some ⟨g, 0, none⟩) ids.length ids.length] 27)).heap.size W (((W3.setCell ⟨bp, 0, none⟩ (.int .i64 o1)).setCell ⟨bn, 0, none⟩ (.int .i64 mn)).drew) ∧ KpT w2.heap.size wc.heap.size (.cells #[Value.slice (some ⟨g, 0, none⟩) ids.length ids.length] 27 (0, 0)) W (((W3.setCell ⟨bp, 0, none⟩ (.int .i64 o1)).setCell ⟨bn, 0, none⟩ (.int .i64 mn)).drew) ∧ LateAt w2 (((W3.setCell ⟨bp, 0, none⟩ (.int .i64 o1)).setCell ⟨bn, 0, none⟩ (.int .i64 mn)).drew) #[Value.int IntKind.i64 n, Value.slice a zs.length cap, Value.int IntKind.i64 v0, Value.int IntKind.i64 v1, Value.int IntKind.i64 v2, Value.int IntKind.i64 v3, Value.int IntKind.i64 v4, Value.slice (some ⟨g, 0, none⟩) ids.length ids.length] ids.length gs bs bp bn (lateS n zs (rosOf os ko ids) ids.length v1 v4 ((pre ++ [x]).map Fin.val)).1 (lateS n zs (rosOf os ko ids) ids.length v1 v4 ((pre ++ [x]).map Fin.val)).2.1 (lateS n zs (rosOf os ko ids) ids.length v1 v4 ((pre ++ [x]).map Fin.val)).2.2 ∧ wc.heap.size < (((W3.setCell ⟨bp, 0, none⟩ (.int .i64 o1)).setCell ⟨bn, 0, none⟩ (.int .i64 mn)).drew).heap.size) := by
            refine ⟨(((HK3.out.1.trans (KeepsOthers.setCell _ _ _)).trans (KeepsOthers.setCell _ _ _)).trans (KeepsOthers.drew _)).from _, ((HK3.out.2.1.trans (KpT.set _ _ _ _ (by omega) (by omega))).trans (KpT.set _ _ _ _ (by omega) (by omega))).trans ⟨(Below.refl _ _).drew, fun h => h⟩, ?_, ?_⟩
            · rw [List.map_append, List.map_cons, List.map_nil, HXI.out, HSN'.out]
              exact (HIH.out.set o1 mn).below (Below.refl _ _).drew
            · have h7 := HK3.out.2.2
              simpa [World.setCell] using h7
          clear HIH HK3 HI2 HOB2 HSB HI HSZ HOB HX HX2 HT2 HSN' i0 i2 i3 i4 i5
          generalize Value.agg #[Value.int IntKind.i64 n, Value.slice a zs.length cap, Value.slice ao ko co, Value.slice av kv cv, Value.int IntKind.i64 fine] = A0
          generalize Value.tuple #[Value.agg #[Value.int IntKind.i64 n, Value.slice a zs.length cap, Value.int IntKind.i64 v0, Value.int IntKind.i64 v1, Value.int IntKind.i64 v2, Value.int IntKind.i64 v3, Value.int IntKind.i64 v4, Value.slice (some ⟨g, 0, none⟩) ids.length ids.length], Value.int IntKind.i64 0] = A1
          generalize Value.agg #[Value.int IntKind.i64 n, Value.slice a zs.length cap, Value.int IntKind.i64 v0, Value.int IntKind.i64 v1, Value.int IntKind.i64 v2, Value.int IntKind.i64 v3, Value.int IntKind.i64 v4, Value.slice (some ⟨g, 0, none⟩) ids.length ids.length] = A2
          generalize Value.agg #[Value.int IntKind.i64 veh, Value.slice bi ids.length c2] = A3
          generalize Value.agg #[Value.int IntKind.i64 o0, Value.int IntKind.i64 o1, Value.int IntKind.i64 o2, Value.int IntKind.i64 o3, _, Value.int IntKind.i64 o5] = A5
          generalize Value.func (Fn.func 78) #[] #[Value.pointer (some ⟨wc.heap.size, 0, none⟩)] = A6
          have hmx : Try.prog.follows .mixedOrders = true := by kernel_rfl
          gi_region_o
          all_goals exact HFIN.out
      case done =>
        rintro D ys W hD hS ⟨hi, hsz⟩ hK
        rw [hS, lateS_all] at hi
        have hi : LateAt w2 W #[Value.int IntKind.i64 n, Value.slice a zs.length cap, Value.int IntKind.i64 v0, Value.int IntKind.i64 v1, Value.int IntKind.i64 v2, Value.int IntKind.i64 v3, Value.int IntKind.i64 v4, Value.slice (some ⟨g, 0, none⟩) ids.length ids.length] ids.length gs bs bp bn (nextP (rosOf os ko ids) ids.length v1 ids.length) (latT n zs (rosOf os ko ids) ids.length v1 v4 ids.length) (latL n zs (rosOf os ko ids) ids.length v1 v4) := hi
        have hpb := nextP_bd HBD.out HX1.out ids.length (Nat.le_refl _)
        have htb := latT_bd (home := v1) HMAT.out HBD.out HX4.out ids.length (Nat.le_refl _)
        have HLV9 : Hid (leaveV n zs (rosOf os ko ids) ids.length v1 v4 = latT n zs (rosOf os ko ids) ids.length v1 v4 ids.length - tmI n zs v1 (nextP (rosOf os ko ids) ids.length v1 ids.length)) := rfl
        obtain ⟨p, HPL⟩ : ∃ t, Hid (nextP (rosOf os ko ids) ids.length v1 ids.length = t) := ⟨_, rfl⟩
        obtain ⟨f, HFR⟩ : ∃ t, Hid (latT n zs (rosOf os ko ids) ids.length v1 v4 ids.length = t) := ⟨_, rfl⟩
        obtain ⟨d, HDD⟩ : ∃ t, Hid (tmI n zs v1 p = t) := ⟨_, rfl⟩
        have hdb := tmI_bd HMAT.out v1 p
        rw [HDD.out] at hdb
        rw [HPL.out] at hpb hi HLV9
        rw [HFR.out] at htb hi HLV9
        rw [HDD.out] at HLV9
        have HPB : Hid (0 ≤ p ∧ p < n) := hpb
        have HI : Hid (LateAt w2 W #[Value.int IntKind.i64 n, Value.slice a zs.length cap, Value.int IntKind.i64 v0, Value.int IntKind.i64 v1, Value.int IntKind.i64 v2, Value.int IntKind.i64 v3, Value.int IntKind.i64 v4, Value.slice (some ⟨g, 0, none⟩) ids.length ids.length] ids.length gs bs bp bn p f (latL n zs (rosOf os ko ids) ids.length v1 v4)) := hi
        have HK : Hid (W.heap[D]? = some (.deferred (some []))) := hK
        have HD : Hid (w2.heap.size ≤ D) := Nat.le_trans HX2.out.1.size hD
        have cs := hi.bs
        have cp := hi.bp
        have cn := hi.bn
        obtain ⟨t0, t1, t2, t3, t4, t5, t6, t7⟩ := cells8 hi.2.1
        clear hi hK hD hS hsz hpb
        go_wp2_with fail
        have e0 := fun s : Kin W => s.cell t0
        have e1 := fun s : Kin W => s.cell t1
        have e2 := fun s : Kin W => s.cell t2
        have e3 := fun s : Kin W => s.cell t3
        have e4 := fun s : Kin W => s.cell t4
        have e5 := fun s : Kin W => s.cell t5
        have e6 := fun s : Kin W => s.cell t6
        have e7 := fun s : Kin W => s.cell t7
        have ep := fun s : Kin W => s.cell cp
        have en := fun s : Kin W => s.cell cn
        have es := fun s : Kin W => s.cell cs
        have hkin := Kin.there W
        refine wp_region_kin (by kernel_rfl) (by kernel_rfl) ?_
        repeat (go_big_quiet_step ((first
          | (go_at_call 54; exact Kin.call (drive_is n v1 p v0 v1 v2 v3 v4 _ _ _ _ _ zs _ d HDD.out HMAT.out HX1.out HPB.out ((HA2.out.below HI.out.1).below (Kin.below _)))))))
        refine wpQuiet_nil ?_
        rintro _ ⟨s, rfl⟩
        have HI5 : Hid (LateAt w2 s.w #[Value.int IntKind.i64 n, Value.slice a zs.length cap, Value.int IntKind.i64 v0, Value.int IntKind.i64 v1, Value.int IntKind.i64 v2, Value.int IntKind.i64 v3, Value.int IntKind.i64 v4, Value.slice (some ⟨g, 0, none⟩) ids.length ids.length] ids.length gs bs bp bn p f (latL n zs (rosOf os ko ids) ids.length v1 v4)) := HI.out.below s.below
        have HK5 : Hid (s.w.heap[D]? = some (.deferred (some []))) := below_row s.below (Array.getElem?_eq_some_iff.1 HK.out).1 HK.out
        clear t0 t1 t2 t3 t4 t5 t6 t7 e0 e1 e2 e3 e4 e5 e6 e7 ep en es hkin cs cp cn
        generalize s.w = W5 at *
        go_wp2
        refine ⟨by simp, .inl ⟨_, _, rfl, run_takeDeferred HK5.out, ?_⟩⟩
        refine ⟨.tuple #[.slice (some ⟨gs, 0, none⟩) ids.length ids.length, .int .i64 (f - d)], by simp [results, Try.results19, go_sem], (HB2.out.trans (HI5.out.1.mono HB2.out.size)).trans (belowK_b (w := w2) HB2.out.size W5 D _ _ HD.out HK5.out rfl rfl), .inr ⟨HFZ.out, gs, ?_, ?_⟩⟩
        · rw [G1.out, G4.out, HLV9.out]
        · rw [G1.out, G4.out]
          have hrow := row_own (B := 0) (cs := fun _ : Unit => cellsOf (latL n zs (rosOf os ko ids) ids.length v1 v4)) () W5 _ (some D) HI5.out.2.2.1 (grownBy_putObj' W5 D (.deferred none)) (fun r e => by cases e; exact ⟨Nat.zero_le _, _, HK5.out, rfl⟩)
          have hg := HI5.out.lt
          have h7 := HB2.out.size
          refine ⟨by rw [List.length_map, latL_length, Nat.mul_one], .inr ⟨gs, ids.length, cellsOf (latL n zs (rosOf os ko ids) ids.length v1 v4), rfl, by omega, hrow, Nat.le_refl _, by unfold maxLen; omega, by simp [cellsOf, latL_length], ?_⟩⟩
          simp only [cellsOf, Nat.mul_one]
          exact List.take_of_length_le (by rw [List.length_map, latL_length]; exact Nat.le_refl _)
      case stop =>
        rintro D c pre W _ _ h _
        exact h.elim

end Go.Proofs.Ytocnlgmcjdggaaa
