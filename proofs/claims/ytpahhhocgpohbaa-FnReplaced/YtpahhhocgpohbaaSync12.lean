import Derived.Test.YtpahhhocgpohbaaPack17
import Derived.Test.YtpahhhocgpohbaaPack18
import Derived.Test.YtpahhhocgpohbaaPack21
namespace Go.Proofs.Ytpahhhocgpohbaa
open Go.RowKit

/-- What a synced disk has. -/
def syL (L S : List FI) (O : List OP) : List FI := if dskB L S O then L else []

/-- An answer's box is written last. -/
theorem below_boxed {w W : World} {lv sv ov x y z : Value} {L S : List FI} {O : List OP} {cs : Array Value} (b : Below w.heap.size w W) (h : DA W w.heap.size lv sv ov L S O) (hr : W.heap[w.heap.size + 1]? = some (.cells cs 27 (0, 0))) :
    Below w.heap.size w (((W.setCell ⟨w.heap.size + 1, 0, none⟩ x).setCell ⟨w.heap.size + 1, 1, none⟩ y).setCell ⟨w.heap.size + 1, 2, none⟩ z) ∧ DA (((W.setCell ⟨w.heap.size + 1, 0, none⟩ x).setCell ⟨w.heap.size + 1, 1, none⟩ y).setCell ⟨w.heap.size + 1, 2, none⟩ z) w.heap.size lv sv ov L S O := by
  have r2 := heap_setCell_same _ (w.heap.size + 1) 0 _ _ x hr
  have r3 := heap_setCell_same _ (w.heap.size + 1) 1 _ _ y r2
  refine ⟨((b.setCell (by show w.heap.size ≤ w.heap.size + 1; omega) _).setCell (by show w.heap.size ≤ w.heap.size + 1; omega) _).setCell (by show w.heap.size ≤ w.heap.size + 1; omega) _, ⟨⟨?_, ?_, ?_⟩, h.ap⟩⟩
  · exact own_setT (own_setT (own_setT h.d.l hr (by decide)) r2 (by decide)) r3 (by decide)
  · exact own_setT (own_setT (own_setT h.d.s hr (by decide)) r2 (by decide)) r3 (by decide)
  · exact own_setT (own_setT (own_setT h.d.o hr (by decide)) r2 (by decide)) r3 (by decide)

set_option maxHeartbeats 8000000 in
set_option maxRecDepth 20000 in
theorem specSync_any (la sa oa : Option Addr) (lc sc oc ln sn on xn : Nat) (L S : List FI) (O : List OP) (w : World) (hD : DAt w la sa oa L S O) (hK : DskOk L S O) (hLn : L.length = ln) (hSn : S.length = sn) (hOn : O.length = on) (hxn : (syL L S O).length = xn) :
    Calls Try.prog 43 #[.agg #[.slice la ln lc, .slice sa sn sc, .slice oa on oc]] w fun e w' => ∃ a1 c1 a2 c2 a3 c3, e = .returned (.agg #[.slice a1 xn c1, .slice a2 xn c2, .slice a3 0 c3]) ∧ Below w.heap.size w w' ∧ DA w' w.heap.size (.slice a1 xn c1) (.slice a2 xn c2) (.slice a3 0 c3) (syL L S O) (syL L S O) [] := by
  have bl := hK.ln
  rw [hLn] at bl
  have B0i : Hid (Below w.heap.size w ((w.alloc (.cells #[.slice la ln lc, .slice sa sn sc, .slice oa on oc] 27)).alloc (.cells #[.slice none 0 0, .slice none 0 0, .slice none 0 0] 27))) := ((Below.refl _ _).alloc (Nat.le_refl _) _).alloc (by simp) _
  have RAi : Hid (((w.alloc (.cells #[.slice la ln lc, .slice sa sn sc, .slice oa on oc] 27)).alloc (.cells #[.slice none 0 0, .slice none 0 0, .slice none 0 0] 27)).heap[w.heap.size]? = some (.cells #[.slice la ln lc, .slice sa sn sc, .slice oa on oc] 27 (0, 0))) := heap_alloc2_old _ _ _
  have RBi : Hid (((w.alloc (.cells #[.slice la ln lc, .slice sa sn sc, .slice oa on oc] 27)).alloc (.cells #[.slice none 0 0, .slice none 0 0, .slice none 0 0] 27)).heap[w.heap.size + 1]? = some (.cells #[.slice none 0 0, .slice none 0 0, .slice none 0 0] 27 (0, 0))) := heap_alloc2_new _ _ _
  have HD : Hid (DAt w la sa oa L S O) := hD
  have HLN : Hid (L.length = ln) := hLn
  have NIL : Hid (∀ W : World, Below w.heap.size w W → Below w.heap.size w W ∧ DA W w.heap.size (.slice none 0 0) (.slice none 0 0) (.slice none 0 0) [] [] []) := fun W h => ⟨h, ⟨⟨⟨rfl, .inl ⟨rfl, rfl⟩⟩, ⟨rfl, .inl ⟨rfl, rfl⟩⟩, ⟨rfl, .inl ⟨rfl, rfl⟩⟩⟩, fun k h => by cases h⟩⟩
  have ID : Hid (∀ W, Below w.heap.size w W → Calls Try.prog 9 #[.agg #[.slice la ln lc, .slice sa sn sc, .slice oa on oc]] W fun e w' => e = .returned (.bool (dskB L S O)) ∧ Below W.heap.size W w') := fun W hW => specDisk_at la sa oa lc sc oc ln sn on L S O W (hD.below hW) hK hLn hSn hOn
  clear hD hK hLn hSn hOn
  obtain ⟨a0, a1, a2⟩ := cells3 RAi.out
  cases hd : dskB L S O
  · have hs : syL L S O = [] := by unfold syL; rw [hd]; rfl
    rw [hd] at ID
    rw [hs] at hxn ⊢
    have hx0 : xn = 0 := by rw [← hxn]; rfl
    subst hx0
    go_enter Try.func43, Try.ntmps43
    go_wp2_with fail
    generalize ((w.alloc (.cells #[.slice la ln lc, .slice sa sn sc, .slice oa on oc] 27)).alloc (.cells #[.slice none 0 0, .slice none 0 0, .slice none 0 0] 27)) = W0 at *
    refine (ID.out W0 B0i.out).mono ?_
    rintro e w1 ⟨rfl, hb1⟩
    have B1 : Hid (Below w.heap.size w w1) := B0i.out.trans (hb1.mono B0i.out.size)
    have R1 := below_row hb1 (row_lt RBi.out) RBi.out
    obtain ⟨r0, r1, r2⟩ := cells3 R1
    have rf := fun i => frozen_of_row _ _ i _ _ R1
    clear hb1 a0 a1 a2
    go_wp2
    refine bodyPost_ret (v := .agg #[.slice none 0 0, .slice none 0 0, .slice none 0 0]) (by simp [results, Try.results43, go_sem, r0, r1, r2]) rfl ⟨none, 0, none, 0, none, 0, rfl, NIL.out _ ?_⟩
    repeat (first | with_reducible exact B1.out | refine Below.setCell ?_ (by simp <;> omega) _)
  have hs : syL L S O = L := by unfold syL; rw [hd]; rfl
  rw [hd] at ID
  rw [hs] at hxn ⊢
  have hxl : xn = ln := by rw [← hxn, ← HLN.out]
  subst hxl
  go_enter Try.func43, Try.ntmps43
  go_wp2_with fail
  refine (ID.out _ B0i.out).mono ?_
  rintro e W0 ⟨rfl, hb1⟩
  have B0 : Hid (Below w.heap.size w W0) := B0i.out.trans (hb1.mono B0i.out.size)
  have RA : Hid (W0.heap[w.heap.size]? = some (.cells #[.slice la xn lc, .slice sa sn sc, .slice oa on oc] 27 (0, 0))) := below_row hb1 (row_lt RAi.out) RAi.out
  have RB : Hid (W0.heap[w.heap.size + 1]? = some (.cells #[.slice none 0 0, .slice none 0 0, .slice none 0 0] 27 (0, 0))) := below_row hb1 (row_lt RBi.out) RBi.out
  clear hb1 a0 a1 a2 RAi RBi B0i ID NIL
  go_wp2_with fail
  have HSS : Hid (∀ W, Below W0.heap.size W0 W → (fun W => W.cell? ⟨w.heap.size, 0, none⟩ = some (.slice la xn lc) ∧ W.cell? ⟨w.heap.size, 1, none⟩ = some (.slice sa sn sc) ∧ W.cell? ⟨w.heap.size, 2, none⟩ = some (.slice oa on oc)) W) := fun W hW => cells3 (below_row hW (row_lt RA.out) RA.out)
  have HRB : Hid (∀ W, Below W0.heap.size W0 W → W.heap[w.heap.size + 1]? = some (.cells #[.slice none 0 0, .slice none 0 0, .slice none 0 0] 27 (0, 0))) := fun W hW => below_row hW (row_lt RB.out) RB.out
  have HSK : Hid (∀ W, Below W0.heap.size W0 W → ∀ x y z, (fun W => W.cell? ⟨w.heap.size, 0, none⟩ = some (.slice la xn lc) ∧ W.cell? ⟨w.heap.size, 1, none⟩ = some (.slice sa sn sc) ∧ W.cell? ⟨w.heap.size, 2, none⟩ = some (.slice oa on oc)) (((W.setCell ⟨w.heap.size + 1, 0, none⟩ x).setCell ⟨w.heap.size + 1, 1, none⟩ y).setCell ⟨w.heap.size + 1, 2, none⟩ z)) := fun W hW x y z => by
    obtain ⟨s1, s2, s3⟩ := HSS.out W hW
    have hne : w.heap.size ≠ w.heap.size + 1 := by omega
    exact ⟨keep_setT (keep_setT (keep_setT s1 hne) hne) hne, keep_setT (keep_setT (keep_setT s2 hne) hne) hne, keep_setT (keep_setT (keep_setT s3 hne) hne) hne⟩
  have FL : Hid (∀ W, Below W0.heap.size W0 W → ∀ j u, (rowF L)[j]? = some u → ∃ b off, la = some ⟨b, off, none⟩ ∧ W.cell? ⟨b, off + j, none⟩ = some u) := fun W hW => ((HD.out.l.below B0.out).below hW).cells
  have CS : Hid (CI W0 W0.drew none none (some (.slice none 0 0, 0, rowO []))) := CI.nilC W0
  have hlf : (rowF L).length = xn * 2 := by rw [rowF_len, HLN.out]
  clear HD RA RB hxn
  refine wp_region_held_drew (S := (fun W => W.cell? ⟨w.heap.size, 0, none⟩ = some (.slice la xn lc) ∧ W.cell? ⟨w.heap.size, 1, none⟩ = some (.slice sa sn sc) ∧ W.cell? ⟨w.heap.size, 2, none⟩ = some (.slice oa on oc))) (by kernel_rfl) ?_ (fun hHeld => ?_)
  · exact HSS.out _ CS.out.bel
  generalize W0.drew = WD at *
  refine wpAnyH_take (i := 1) (v := ?_) rfl (by kernel_rfl) (by kernel_rfl) (by kernel_rfl) (fun _ _ _ h => h) (Or.inl ⟨by kernel_rfl, ?_⟩) hHeld ?_
  rotate_left 1; focus (intro w hSw; (try dsimp only at hSw); (try go_split_ands); go_simp; all_goals (first | done | with_reducible rfl))
  change wpAnyH _ _ _ _ _ _ _ (Act.put _ (some 8) _) _; simp only [Act.put, List.setIfInBounds_toArray, List.set_cons_zero, List.set_cons_succ]
  refine wpAnyH_take (i := 2) (v := ?_) rfl (by kernel_rfl) (by kernel_rfl) (by kernel_rfl) (fun _ _ _ h => h) (Or.inl ⟨by kernel_rfl, ?_⟩) hHeld ?_
  rotate_left 1; focus (intro w hSw; (try dsimp only at hSw); (try go_split_ands); go_simp; all_goals (first | done | with_reducible rfl))
  change wpAnyH _ _ _ _ _ _ _ (Act.put _ (some 9) _) _; simp only [Act.put, List.setIfInBounds_toArray, List.set_cons_zero, List.set_cons_succ]
  refine wpAnyH_take (i := 5) (v := ?_) rfl (by kernel_rfl) (by kernel_rfl) (by kernel_rfl) (fun _ _ _ h => h) (Or.inl ⟨by kernel_rfl, ?_⟩) hHeld ?_
  rotate_left 1; focus (intro w hSw; (try dsimp only at hSw); (try go_split_ands); go_simp; all_goals (first | done | with_reducible rfl))
  change wpAnyH _ _ _ _ _ _ _ (Act.put _ (some 12) _) _; simp only [Act.put, List.setIfInBounds_toArray, List.set_cons_zero, List.set_cons_succ]
  refine wpAnyH_take (i := 6) (v := ?_) rfl (by kernel_rfl) (by kernel_rfl) (by kernel_rfl) (fun _ _ _ h => h) (Or.inl ⟨by kernel_rfl, ?_⟩) hHeld ?_
  rotate_left 1; focus (intro w hSw; (try dsimp only at hSw); (try go_split_ands); go_simp; all_goals (first | done | with_reducible rfl))
  change wpAnyH _ _ _ _ _ _ _ (Act.put _ (some 13) _) _; simp only [Act.put, List.setIfInBounds_toArray, List.set_cons_zero, List.set_cons_succ]
  refine wpAnyH_ready (rs := [0, 4]) (by kernel_rfl) (by simp) ?_
  refine AllReadyH.cons rfl (fun K hK => ?_) ?_
  · skip
    have C1 : Hid (CI W0 (WD.alloc (.cells #[] 55)) (some (.slice (some ⟨WD.heap.size, 0, none⟩) 0 0, 0, [])) (none) (some (.slice none 0 0, 0, rowO []))) := CS.out.newA
    (try simp only [Act.put, List.setIfInBounds_toArray])
    go_simp
    refine hK.out _ _ ?_ (fun hHeld => ?_)
    · exact HSS.out _ C1.out.bel
    clear hK K
    obtain ⟨G1, HG1⟩ : ∃ g, Hid (WD.heap.size = g) := ⟨_, rfl⟩
    rw [HG1.out] at C1 ⊢
    generalize (WD.alloc (.cells #[] 55)) = V1 at *
    clear CS HG1
    refine wpAnyH_ready (rs := [3, 4]) (by kernel_rfl) (by simp) ?_
    refine AllReadyH.cons rfl (fun K hK => ?_) ?_
    · skip
      refine step_append_opt Try.underlying24 infF32 (by rfl) (by decide) rfl (.tmp 7) (.tmp 9) rfl W0.heap.size (.slice (some ⟨G1, 0, none⟩) 0 0) 0 [] rfl (C1.out.a) la xn lc (rowF L) rfl hlf (FL.out _ C1.out.bel) (rowF_one _) (by omega) (by omega) C1.out.bel.size ?_
      intro v2 V2 hown hg hbk hnl
      rw [List.nil_append, Nat.zero_add] at hown
      obtain ⟨a2, c2, rfl⟩ := own_anyV hown
      have C2 : Hid (CI W0 V2 (some (.slice a2 xn c2, xn, rowF L)) (none) (some (.slice none 0 0, 0, rowO []))) := C1.out.appA hg hown hbk
      clear hown hg hbk hnl C1
      refine hK.out _ _ ?_ (fun hHeld => ?_)
      · exact HSS.out _ C2.out.bel
      clear hK K
      change wpAnyH _ _ _ _ _ _ _ (Act.put _ (some 10) _) _
      simp only [Act.put, List.setIfInBounds_toArray, List.set_cons_zero, List.set_cons_succ]
      refine wpAnyH_ready (rs := [4]) (by kernel_rfl) (by simp) ?_
      refine AllReadyH.cons rfl (fun K hK => ?_) AllReadyH.nil
      have C3 : Hid (CI W0 (V2.alloc (.cells #[] 55)) (some (.slice a2 xn c2, xn, rowF L)) (some (.slice (some ⟨V2.heap.size, 0, none⟩) 0 0, 0, [])) (some (.slice none 0 0, 0, rowO []))) := C2.out.newB
      (try simp only [Act.put, List.setIfInBounds_toArray])
      go_simp
      refine hK.out _ _ ?_ (fun hHeld => ?_)
      · exact HSS.out _ C3.out.bel
      clear hK K
      obtain ⟨G3, HG3⟩ : ∃ g, Hid (V2.heap.size = g) := ⟨_, rfl⟩
      rw [HG3.out] at C3 ⊢
      generalize (V2.alloc (.cells #[] 55)) = V3 at *
      clear C2 HG3
      refine wpAnyH_ready (rs := [7]) (by kernel_rfl) (by simp) ?_
      refine AllReadyH.cons rfl (fun K hK => ?_) AllReadyH.nil
      refine step_append_opt Try.underlying24 infF32 (by rfl) (by decide) rfl (.tmp 11) (.tmp 13) rfl W0.heap.size (.slice (some ⟨G3, 0, none⟩) 0 0) 0 [] rfl (C3.out.b) la xn lc (rowF L) rfl hlf (FL.out _ C3.out.bel) (rowF_one _) (by omega) (by omega) C3.out.bel.size ?_
      intro v4 V4 hown hg hbk hnl
      rw [List.nil_append, Nat.zero_add] at hown
      obtain ⟨a4, c4, rfl⟩ := own_anyV hown
      have C4 : Hid (CI W0 V4 (some (.slice a2 xn c2, xn, rowF L)) (some (.slice a4 xn c4, xn, rowF L)) (some (.slice none 0 0, 0, rowO []))) := C3.out.appB hg hown hbk
      clear hown hg hbk hnl C3
      refine hK.out _ _ ?_ (fun hHeld => ?_)
      · exact HSS.out _ C4.out.bel
      clear hK K
      change wpAnyH _ _ _ _ _ _ _ (Act.put _ (some 14) _) _
      simp only [Act.put, List.setIfInBounds_toArray, List.set_cons_zero, List.set_cons_succ]
      refine wpAnyH_take (i := 8) (v := ?_) rfl (by kernel_rfl) (by kernel_rfl) (by kernel_rfl) (fun _ _ _ h => h) (Or.inl ⟨by kernel_rfl, ?_⟩) hHeld ?_
      rotate_left 1; focus (intro w hSw; (try dsimp only at hSw); (try go_split_ands); go_simp; all_goals (first | done | with_reducible rfl))
      change wpAnyH _ _ _ _ _ _ _ (Act.put _ (some 15) _) _; simp only [Act.put, List.setIfInBounds_toArray, List.set_cons_zero, List.set_cons_succ]
      refine wpAnyH_ready (rs := [9]) (by kernel_rfl) (by simp) ?_
      refine AllReadyH.cons rfl (fun K hK => ?_) AllReadyH.nil
      obtain ⟨r0, r1, r2⟩ := cells3 (HRB.out _ C4.out.bel)
      have rf := fun i => frozen_of_row _ _ i _ _ (HRB.out _ C4.out.bel)
      go_simp
      refine hK.out _ _ ?_ (fun hHeld => ?_)
      · exact HSK.out _ C4.out.bel _ _ _
      clear hK K
      refine wpAnyH_done (by kernel_rfl) ?_ _
      clear hHeld
      obtain ⟨r0, r1, r2⟩ := cells3 (HRB.out _ C4.out.bel)
      have DN := fun x y z => C4.out.done (x := x) (y := y) (z := z) B0.out (HRB.out _ C4.out.bel) HLN.out HLN.out rfl
      go_wp2
      refine bodyPost_ret (v := .agg #[.slice a2 xn c2, .slice a4 xn c4, .slice none 0 0]) (by simp [results, Try.results43, go_sem, r0, r1, r2]) rfl ⟨_, _, _, _, _, _, rfl, (DN _ _ _).1, (DN _ _ _).2⟩
    refine AllReadyH.cons rfl (fun K hK => ?_) AllReadyH.nil
    have C2 : Hid (CI W0 (V1.alloc (.cells #[] 55)) (some (.slice (some ⟨G1, 0, none⟩) 0 0, 0, [])) (some (.slice (some ⟨V1.heap.size, 0, none⟩) 0 0, 0, [])) (some (.slice none 0 0, 0, rowO []))) := C1.out.newB
    (try simp only [Act.put, List.setIfInBounds_toArray])
    go_simp
    refine hK.out _ _ ?_ (fun hHeld => ?_)
    · exact HSS.out _ C2.out.bel
    clear hK K
    obtain ⟨G2, HG2⟩ : ∃ g, Hid (V1.heap.size = g) := ⟨_, rfl⟩
    rw [HG2.out] at C2 ⊢
    generalize (V1.alloc (.cells #[] 55)) = V2 at *
    clear C1 HG2
    refine wpAnyH_ready (rs := [3]) (by kernel_rfl) (by simp) ?_
    refine AllReadyH.cons rfl (fun K hK => ?_) AllReadyH.nil
    refine step_append_opt Try.underlying24 infF32 (by rfl) (by decide) rfl (.tmp 7) (.tmp 9) rfl W0.heap.size (.slice (some ⟨G1, 0, none⟩) 0 0) 0 [] rfl (C2.out.a) la xn lc (rowF L) rfl hlf (FL.out _ C2.out.bel) (rowF_one _) (by omega) (by omega) C2.out.bel.size ?_
    intro v3 V3 hown hg hbk hnl
    rw [List.nil_append, Nat.zero_add] at hown
    obtain ⟨a3, c3, rfl⟩ := own_anyV hown
    have C3 : Hid (CI W0 V3 (some (.slice a3 xn c3, xn, rowF L)) (some (.slice (some ⟨G2, 0, none⟩) 0 0, 0, [])) (some (.slice none 0 0, 0, rowO []))) := C2.out.appA hg hown hbk
    clear hown hg hbk hnl C2
    refine hK.out _ _ ?_ (fun hHeld => ?_)
    · exact HSS.out _ C3.out.bel
    clear hK K
    change wpAnyH _ _ _ _ _ _ _ (Act.put _ (some 10) _) _
    simp only [Act.put, List.setIfInBounds_toArray, List.set_cons_zero, List.set_cons_succ]
    refine wpAnyH_ready (rs := [7]) (by kernel_rfl) (by simp) ?_
    refine AllReadyH.cons rfl (fun K hK => ?_) AllReadyH.nil
    refine step_append_opt Try.underlying24 infF32 (by rfl) (by decide) rfl (.tmp 11) (.tmp 13) rfl W0.heap.size (.slice (some ⟨G2, 0, none⟩) 0 0) 0 [] rfl (C3.out.b) la xn lc (rowF L) rfl hlf (FL.out _ C3.out.bel) (rowF_one _) (by omega) (by omega) C3.out.bel.size ?_
    intro v4 V4 hown hg hbk hnl
    rw [List.nil_append, Nat.zero_add] at hown
    obtain ⟨a4, c4, rfl⟩ := own_anyV hown
    have C4 : Hid (CI W0 V4 (some (.slice a3 xn c3, xn, rowF L)) (some (.slice a4 xn c4, xn, rowF L)) (some (.slice none 0 0, 0, rowO []))) := C3.out.appB hg hown hbk
    clear hown hg hbk hnl C3
    refine hK.out _ _ ?_ (fun hHeld => ?_)
    · exact HSS.out _ C4.out.bel
    clear hK K
    change wpAnyH _ _ _ _ _ _ _ (Act.put _ (some 14) _) _
    simp only [Act.put, List.setIfInBounds_toArray, List.set_cons_zero, List.set_cons_succ]
    refine wpAnyH_take (i := 8) (v := ?_) rfl (by kernel_rfl) (by kernel_rfl) (by kernel_rfl) (fun _ _ _ h => h) (Or.inl ⟨by kernel_rfl, ?_⟩) hHeld ?_
    rotate_left 1; focus (intro w hSw; (try dsimp only at hSw); (try go_split_ands); go_simp; all_goals (first | done | with_reducible rfl))
    change wpAnyH _ _ _ _ _ _ _ (Act.put _ (some 15) _) _; simp only [Act.put, List.setIfInBounds_toArray, List.set_cons_zero, List.set_cons_succ]
    refine wpAnyH_ready (rs := [9]) (by kernel_rfl) (by simp) ?_
    refine AllReadyH.cons rfl (fun K hK => ?_) AllReadyH.nil
    obtain ⟨r0, r1, r2⟩ := cells3 (HRB.out _ C4.out.bel)
    have rf := fun i => frozen_of_row _ _ i _ _ (HRB.out _ C4.out.bel)
    go_simp
    refine hK.out _ _ ?_ (fun hHeld => ?_)
    · exact HSK.out _ C4.out.bel _ _ _
    clear hK K
    refine wpAnyH_done (by kernel_rfl) ?_ _
    clear hHeld
    obtain ⟨r0, r1, r2⟩ := cells3 (HRB.out _ C4.out.bel)
    have DN := fun x y z => C4.out.done (x := x) (y := y) (z := z) B0.out (HRB.out _ C4.out.bel) HLN.out HLN.out rfl
    go_wp2
    refine bodyPost_ret (v := .agg #[.slice a3 xn c3, .slice a4 xn c4, .slice none 0 0]) (by simp [results, Try.results43, go_sem, r0, r1, r2]) rfl ⟨_, _, _, _, _, _, rfl, (DN _ _ _).1, (DN _ _ _).2⟩
  refine AllReadyH.cons rfl (fun K hK => ?_) AllReadyH.nil
  have C1 : Hid (CI W0 (WD.alloc (.cells #[] 55)) (none) (some (.slice (some ⟨WD.heap.size, 0, none⟩) 0 0, 0, [])) (some (.slice none 0 0, 0, rowO []))) := CS.out.newB
  (try simp only [Act.put, List.setIfInBounds_toArray])
  go_simp
  refine hK.out _ _ ?_ (fun hHeld => ?_)
  · exact HSS.out _ C1.out.bel
  clear hK K
  obtain ⟨G1, HG1⟩ : ∃ g, Hid (WD.heap.size = g) := ⟨_, rfl⟩
  rw [HG1.out] at C1 ⊢
  generalize (WD.alloc (.cells #[] 55)) = V1 at *
  clear CS HG1
  refine wpAnyH_ready (rs := [0]) (by kernel_rfl) (by simp) ?_
  refine AllReadyH.cons rfl (fun K hK => ?_) AllReadyH.nil
  have C2 : Hid (CI W0 (V1.alloc (.cells #[] 55)) (some (.slice (some ⟨V1.heap.size, 0, none⟩) 0 0, 0, [])) (some (.slice (some ⟨G1, 0, none⟩) 0 0, 0, [])) (some (.slice none 0 0, 0, rowO []))) := C1.out.newA
  (try simp only [Act.put, List.setIfInBounds_toArray])
  go_simp
  refine hK.out _ _ ?_ (fun hHeld => ?_)
  · exact HSS.out _ C2.out.bel
  clear hK K
  obtain ⟨G2, HG2⟩ : ∃ g, Hid (V1.heap.size = g) := ⟨_, rfl⟩
  rw [HG2.out] at C2 ⊢
  generalize (V1.alloc (.cells #[] 55)) = V2 at *
  clear C1 HG2
  refine wpAnyH_ready (rs := [3]) (by kernel_rfl) (by simp) ?_
  refine AllReadyH.cons rfl (fun K hK => ?_) AllReadyH.nil
  refine step_append_opt Try.underlying24 infF32 (by rfl) (by decide) rfl (.tmp 7) (.tmp 9) rfl W0.heap.size (.slice (some ⟨G2, 0, none⟩) 0 0) 0 [] rfl (C2.out.a) la xn lc (rowF L) rfl hlf (FL.out _ C2.out.bel) (rowF_one _) (by omega) (by omega) C2.out.bel.size ?_
  intro v3 V3 hown hg hbk hnl
  rw [List.nil_append, Nat.zero_add] at hown
  obtain ⟨a3, c3, rfl⟩ := own_anyV hown
  have C3 : Hid (CI W0 V3 (some (.slice a3 xn c3, xn, rowF L)) (some (.slice (some ⟨G1, 0, none⟩) 0 0, 0, [])) (some (.slice none 0 0, 0, rowO []))) := C2.out.appA hg hown hbk
  clear hown hg hbk hnl C2
  refine hK.out _ _ ?_ (fun hHeld => ?_)
  · exact HSS.out _ C3.out.bel
  clear hK K
  change wpAnyH _ _ _ _ _ _ _ (Act.put _ (some 10) _) _
  simp only [Act.put, List.setIfInBounds_toArray, List.set_cons_zero, List.set_cons_succ]
  refine wpAnyH_ready (rs := [7]) (by kernel_rfl) (by simp) ?_
  refine AllReadyH.cons rfl (fun K hK => ?_) AllReadyH.nil
  refine step_append_opt Try.underlying24 infF32 (by rfl) (by decide) rfl (.tmp 11) (.tmp 13) rfl W0.heap.size (.slice (some ⟨G1, 0, none⟩) 0 0) 0 [] rfl (C3.out.b) la xn lc (rowF L) rfl hlf (FL.out _ C3.out.bel) (rowF_one _) (by omega) (by omega) C3.out.bel.size ?_
  intro v4 V4 hown hg hbk hnl
  rw [List.nil_append, Nat.zero_add] at hown
  obtain ⟨a4, c4, rfl⟩ := own_anyV hown
  have C4 : Hid (CI W0 V4 (some (.slice a3 xn c3, xn, rowF L)) (some (.slice a4 xn c4, xn, rowF L)) (some (.slice none 0 0, 0, rowO []))) := C3.out.appB hg hown hbk
  clear hown hg hbk hnl C3
  refine hK.out _ _ ?_ (fun hHeld => ?_)
  · exact HSS.out _ C4.out.bel
  clear hK K
  change wpAnyH _ _ _ _ _ _ _ (Act.put _ (some 14) _) _
  simp only [Act.put, List.setIfInBounds_toArray, List.set_cons_zero, List.set_cons_succ]
  refine wpAnyH_take (i := 8) (v := ?_) rfl (by kernel_rfl) (by kernel_rfl) (by kernel_rfl) (fun _ _ _ h => h) (Or.inl ⟨by kernel_rfl, ?_⟩) hHeld ?_
  rotate_left 1; focus (intro w hSw; (try dsimp only at hSw); (try go_split_ands); go_simp; all_goals (first | done | with_reducible rfl))
  change wpAnyH _ _ _ _ _ _ _ (Act.put _ (some 15) _) _; simp only [Act.put, List.setIfInBounds_toArray, List.set_cons_zero, List.set_cons_succ]
  refine wpAnyH_ready (rs := [9]) (by kernel_rfl) (by simp) ?_
  refine AllReadyH.cons rfl (fun K hK => ?_) AllReadyH.nil
  obtain ⟨r0, r1, r2⟩ := cells3 (HRB.out _ C4.out.bel)
  have rf := fun i => frozen_of_row _ _ i _ _ (HRB.out _ C4.out.bel)
  go_simp
  refine hK.out _ _ ?_ (fun hHeld => ?_)
  · exact HSK.out _ C4.out.bel _ _ _
  clear hK K
  refine wpAnyH_done (by kernel_rfl) ?_ _
  clear hHeld
  obtain ⟨r0, r1, r2⟩ := cells3 (HRB.out _ C4.out.bel)
  have DN := fun x y z => C4.out.done (x := x) (y := y) (z := z) B0.out (HRB.out _ C4.out.bel) HLN.out HLN.out rfl
  go_wp2
  refine bodyPost_ret (v := .agg #[.slice a3 xn c3, .slice a4 xn c4, .slice none 0 0]) (by simp [results, Try.results43, go_sem, r0, r1, r2]) rfl ⟨_, _, _, _, _, _, rfl, (DN _ _ _).1, (DN _ _ _).2⟩

set_option maxHeartbeats 1000000 in
theorem synced_any (la sa oa : Option Addr) (lc sc oc ln sn on : Nat) (w : World) :
    Calls Try.prog 30 #[.agg #[.slice la ln lc, .slice sa sn sc, .slice oa on oc]] w fun e w' => e = .returned (.agg #[.slice la ln lc, .slice la ln lc, .slice none 0 0]) ∧ Below w.heap.size w w' := by
  go_enter Try.func30, Try.ntmps30
  go_wp2
  refine bodyPost_ret (v := .agg #[.slice la ln lc, .slice la ln lc, .slice none 0 0]) (by simp [results, Try.results30, go_sem]) rfl ⟨rfl, ?_⟩
  exact ((Below.refl _ _).alloc (Nat.le_refl _) _).alloc (by simp) _

set_option maxHeartbeats 8000000 in
set_option maxRecDepth 20000 in
theorem implSync_any (la sa oa : Option Addr) (lc sc oc ln sn on xn : Nat) (L S : List FI) (O : List OP) (w : World) (hD : DAt w la sa oa L S O) (hK : DskOk L S O) (hLn : L.length = ln) (hSn : S.length = sn) (hOn : O.length = on) (hxn : (syL L S O).length = xn) :
    Calls Try.prog 11 #[.agg #[.slice la ln lc, .slice sa sn sc, .slice oa on oc]] w fun e w' => ∃ a1 c1 a2 c2 a3 c3, e = .returned (.agg #[.slice a1 xn c1, .slice a2 xn c2, .slice a3 0 c3]) ∧ Below w.heap.size w w' ∧ DA w' w.heap.size (.slice a1 xn c1) (.slice a2 xn c2) (.slice a3 0 c3) (syL L S O) (syL L S O) [] := by
  have bl := hK.ln
  rw [hLn] at bl
  have B0i : Hid (Below w.heap.size w ((w.alloc (.cells #[.slice la ln lc, .slice sa sn sc, .slice oa on oc] 27)).alloc (.cells #[.slice none 0 0, .slice none 0 0, .slice none 0 0] 27))) := ((Below.refl _ _).alloc (Nat.le_refl _) _).alloc (by simp) _
  have RAi : Hid (((w.alloc (.cells #[.slice la ln lc, .slice sa sn sc, .slice oa on oc] 27)).alloc (.cells #[.slice none 0 0, .slice none 0 0, .slice none 0 0] 27)).heap[w.heap.size]? = some (.cells #[.slice la ln lc, .slice sa sn sc, .slice oa on oc] 27 (0, 0))) := heap_alloc2_old _ _ _
  have RBi : Hid (((w.alloc (.cells #[.slice la ln lc, .slice sa sn sc, .slice oa on oc] 27)).alloc (.cells #[.slice none 0 0, .slice none 0 0, .slice none 0 0] 27)).heap[w.heap.size + 1]? = some (.cells #[.slice none 0 0, .slice none 0 0, .slice none 0 0] 27 (0, 0))) := heap_alloc2_new _ _ _
  have HD : Hid (DAt w la sa oa L S O) := hD
  have HLN : Hid (L.length = ln) := hLn
  have NIL : Hid (∀ W : World, Below w.heap.size w W → Below w.heap.size w W ∧ DA W w.heap.size (.slice none 0 0) (.slice none 0 0) (.slice none 0 0) [] [] []) := fun W h => ⟨h, ⟨⟨⟨rfl, .inl ⟨rfl, rfl⟩⟩, ⟨rfl, .inl ⟨rfl, rfl⟩⟩, ⟨rfl, .inl ⟨rfl, rfl⟩⟩⟩, fun k h => by cases h⟩⟩
  have ID : Hid (∀ W, Below w.heap.size w W → Calls Try.prog 8 #[.agg #[.slice la ln lc, .slice sa sn sc, .slice oa on oc]] W fun e w' => e = .returned (.bool (dskB L S O)) ∧ Below W.heap.size W w') := fun W hW => implDisk_any la sa oa lc sc oc ln sn on L S O W (hD.below hW) hK hLn hSn hOn
  clear hD hK hLn hSn hOn
  obtain ⟨a0, a1, a2⟩ := cells3 RAi.out
  cases hd : dskB L S O
  · have hs : syL L S O = [] := by unfold syL; rw [hd]; rfl
    rw [hd] at ID
    rw [hs] at hxn ⊢
    have hx0 : xn = 0 := by rw [← hxn]; rfl
    subst hx0
    go_enter Try.func11, Try.ntmps11
    go_wp2_with fail
    generalize ((w.alloc (.cells #[.slice la ln lc, .slice sa sn sc, .slice oa on oc] 27)).alloc (.cells #[.slice none 0 0, .slice none 0 0, .slice none 0 0] 27)) = W0 at *
    refine (ID.out W0 B0i.out).mono ?_
    rintro e w1 ⟨rfl, hb1⟩
    have B1 : Hid (Below w.heap.size w w1) := B0i.out.trans (hb1.mono B0i.out.size)
    have R1 := below_row hb1 (row_lt RBi.out) RBi.out
    obtain ⟨r0, r1, r2⟩ := cells3 R1
    have rf := fun i => frozen_of_row _ _ i _ _ R1
    clear hb1 a0 a1 a2
    go_wp2
    refine bodyPost_ret (v := .agg #[.slice none 0 0, .slice none 0 0, .slice none 0 0]) (by simp [results, Try.results11, go_sem, r0, r1, r2]) rfl ⟨none, 0, none, 0, none, 0, rfl, NIL.out _ ?_⟩
    repeat (first | with_reducible exact B1.out | refine Below.setCell ?_ (by simp <;> omega) _)
  have hs : syL L S O = L := by unfold syL; rw [hd]; rfl
  rw [hd] at ID
  rw [hs] at hxn ⊢
  have hxl : xn = ln := by rw [← hxn, ← HLN.out]
  subst hxl
  have CD : Hid (∀ W, Below w.heap.size w W → Calls Try.prog 29 #[.agg #[.slice la xn lc, .slice la xn lc, .slice none 0 0]] W fun e w' => ∃ a1 c1 a2 c2 a3 c3, e = .returned (.agg #[.slice a1 xn c1, .slice a2 xn c2, .slice a3 0 c3]) ∧ Below W.heap.size W w' ∧ DA w' W.heap.size (.slice a1 xn c1) (.slice a2 xn c2) (.slice a3 0 c3) L L []) := fun W hW => copyOfDisk_any la la none lc lc 0 xn xn 0 L L [] W ⟨HD.out.l.below hW, HD.out.l.below hW, fun j hj => by simp at hj⟩ HLN.out HLN.out rfl bl bl (by omega)
  go_enter Try.func11, Try.ntmps11
  go_wp2_with fail
  refine (ID.out _ B0i.out).mono ?_
  rintro e W0 ⟨rfl, hb1⟩
  have B0 : Hid (Below w.heap.size w W0) := B0i.out.trans (hb1.mono B0i.out.size)
  have RA : Hid (W0.heap[w.heap.size]? = some (.cells #[.slice la xn lc, .slice sa sn sc, .slice oa on oc] 27 (0, 0))) := below_row hb1 (row_lt RAi.out) RAi.out
  have RB : Hid (W0.heap[w.heap.size + 1]? = some (.cells #[.slice none 0 0, .slice none 0 0, .slice none 0 0] 27 (0, 0))) := below_row hb1 (row_lt RBi.out) RBi.out
  clear hb1 a0 a1 a2 RAi RBi B0i ID NIL
  obtain ⟨d0, d1, d2⟩ := cells3 RA.out
  go_wp2_with fail
  refine (synced_any la sa oa lc sc oc xn sn on W0).mono ?_
  rintro e w2 ⟨rfl, hb2⟩
  have B2 : Hid (Below w.heap.size w w2) := B0.out.trans (hb2.mono B0.out.size)
  have R2 : Hid (w2.heap[w.heap.size + 1]? = some (.cells #[.slice none 0 0, .slice none 0 0, .slice none 0 0] 27 (0, 0))) := below_row hb2 (row_lt RB.out) RB.out
  clear hb2 d0 d1 d2 RA RB
  go_wp2_with fail
  refine (CD.out w2 B2.out).mono ?_
  rintro e w3 ⟨a1, c1, a2, c2, a3, c3, rfl, hb3, hd3⟩
  have B3 : Hid (Below w.heap.size w w3) := B2.out.trans (hb3.mono B2.out.size)
  have R3 := below_row hb3 (row_lt R2.out) R2.out
  have DN : Hid (∀ x y z, Below w.heap.size w (((w3.setCell ⟨w.heap.size + 1, 0, none⟩ x).setCell ⟨w.heap.size + 1, 1, none⟩ y).setCell ⟨w.heap.size + 1, 2, none⟩ z) ∧ DA (((w3.setCell ⟨w.heap.size + 1, 0, none⟩ x).setCell ⟨w.heap.size + 1, 1, none⟩ y).setCell ⟨w.heap.size + 1, 2, none⟩ z) w.heap.size (.slice a1 xn c1) (.slice a2 xn c2) (.slice a3 0 c3) L L []) := fun x y z => below_boxed B3.out (hd3.bse B2.out.size) R3
  obtain ⟨r0, r1, r2⟩ := cells3 R3
  have rf := fun i => frozen_of_row _ _ i _ _ R3
  clear hb3 hd3 R3
  go_wp2
  refine bodyPost_ret (v := .agg #[.slice a1 xn c1, .slice a2 xn c2, .slice a3 0 c3]) (by simp [results, Try.results11, go_sem, r0, r1, r2]) rfl ⟨_, _, _, _, _, _, rfl, (DN.out _ _ _).1, (DN.out _ _ _).2⟩

end Go.Proofs.Ytpahhhocgpohbaa
