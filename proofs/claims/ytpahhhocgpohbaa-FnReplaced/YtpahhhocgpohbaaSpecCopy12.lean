import Derived.Test.YtpahhhocgpohbaaPack17
namespace Go.Proofs.Ytpahhhocgpohbaa
open Go.RowKit

/-- What the copies leave: the answer's box is written last. -/
theorem CI.done {w W0 W : World} {lv sv ov x y z : Value} {ln sn on : Nat} {L S : List FI} {O : List OP} (h : CI W0 W (some (lv, ln, rowF L)) (some (sv, sn, rowF S)) (some (ov, on, rowO O))) (hb : Below w.heap.size w W0) (hr : W.heap[w.heap.size + 1]? = some (.cells #[.slice none 0 0, .slice none 0 0, .slice none 0 0] 27 (0, 0))) (hL : L.length = ln) (hS : S.length = sn) (hO : O.length = on) :
    Below w.heap.size w (((W.setCell ⟨w.heap.size + 1, 0, none⟩ x).setCell ⟨w.heap.size + 1, 1, none⟩ y).setCell ⟨w.heap.size + 1, 2, none⟩ z) ∧ DA (((W.setCell ⟨w.heap.size + 1, 0, none⟩ x).setCell ⟨w.heap.size + 1, 1, none⟩ y).setCell ⟨w.heap.size + 1, 2, none⟩ z) w.heap.size lv sv ov L S O := by
  have r2 := heap_setCell_same _ (w.heap.size + 1) 0 _ _ x hr
  have r3 := heap_setCell_same _ (w.heap.size + 1) 1 _ _ y r2
  have b := hb.trans (h.bel.mono hb.size)
  subst hL hS hO
  refine ⟨((b.setCell (by show w.heap.size ≤ w.heap.size + 1; omega) _).setCell (by show w.heap.size ≤ w.heap.size + 1; omega) _).setCell (by show w.heap.size ≤ w.heap.size + 1; omega) _, ⟨⟨?_, ?_, ?_⟩, h.ap _ _ rfl rfl⟩⟩
  · exact own_bse (own_setT (own_setT (own_setT (show World.ownsRow _ _ _ _ _ _ _ from h.a) hr (by decide)) r2 (by decide)) r3 (by decide)) hb.size
  · exact own_bse (own_setT (own_setT (own_setT (show World.ownsRow _ _ _ _ _ _ _ from h.b) hr (by decide)) r2 (by decide)) r3 (by decide)) hb.size
  · exact own_bse (own_setT (own_setT (own_setT (show World.ownsRow _ _ _ _ _ _ _ from h.c) hr (by decide)) r2 (by decide)) r3 (by decide)) hb.size

set_option maxHeartbeats 8000000 in
set_option maxRecDepth 20000 in
/-- A copy of a disk, as the model makes it. -/
theorem l12Copy_any (la sa oa : Option Addr) (lc sc oc ln sn on : Nat) (L S : List FI) (O : List OP) (w : World) (hD : DAt w la sa oa L S O) (hLn : L.length = ln) (hSn : S.length = sn) (hOn : O.length = on) (bl : ln ≤ 1048576) (bs : sn ≤ 1048576) (bo : on ≤ 1048576) :
    Calls Try.prog 41 #[.agg #[.slice la ln lc, .slice sa sn sc, .slice oa on oc]] w fun e w' => ∃ a1 c1 a2 c2 a3 c3, e = .returned (.agg #[.slice a1 ln c1, .slice a2 sn c2, .slice a3 on c3]) ∧ Below w.heap.size w w' ∧ DA w' w.heap.size (.slice a1 ln c1) (.slice a2 sn c2) (.slice a3 on c3) L S O := by
  have B0 : Hid (Below w.heap.size w ((w.alloc (.cells #[.slice la ln lc, .slice sa sn sc, .slice oa on oc] 27)).alloc (.cells #[.slice none 0 0, .slice none 0 0, .slice none 0 0] 27))) := ((Below.refl _ _).alloc (Nat.le_refl _) _).alloc (by simp) _
  have RA : Hid (((w.alloc (.cells #[.slice la ln lc, .slice sa sn sc, .slice oa on oc] 27)).alloc (.cells #[.slice none 0 0, .slice none 0 0, .slice none 0 0] 27)).heap[w.heap.size]? = some (.cells #[.slice la ln lc, .slice sa sn sc, .slice oa on oc] 27 (0, 0))) := heap_alloc2_old _ _ _
  have RB : Hid (((w.alloc (.cells #[.slice la ln lc, .slice sa sn sc, .slice oa on oc] 27)).alloc (.cells #[.slice none 0 0, .slice none 0 0, .slice none 0 0] 27)).heap[w.heap.size + 1]? = some (.cells #[.slice none 0 0, .slice none 0 0, .slice none 0 0] 27 (0, 0))) := heap_alloc2_new _ _ _
  have HD : Hid (DAt w la sa oa L S O) := hD
  have HLN : Hid (L.length = ln) := hLn
  have HSN : Hid (S.length = sn) := hSn
  have HON : Hid (O.length = on) := hOn
  clear hD hLn hSn hOn
  go_enter Try.func41, Try.ntmps41
  go_wp2_with fail
  generalize ((w.alloc (.cells #[.slice la ln lc, .slice sa sn sc, .slice oa on oc] 27)).alloc (.cells #[.slice none 0 0, .slice none 0 0, .slice none 0 0] 27)) = W0 at *
  have HSS : Hid (∀ W, Below W0.heap.size W0 W → (fun W => W.cell? ⟨w.heap.size, 0, none⟩ = some (.slice la ln lc) ∧ W.cell? ⟨w.heap.size, 1, none⟩ = some (.slice sa sn sc) ∧ W.cell? ⟨w.heap.size, 2, none⟩ = some (.slice oa on oc)) W) := fun W hW => cells3 (below_row hW (row_lt RA.out) RA.out)
  have HRB : Hid (∀ W, Below W0.heap.size W0 W → W.heap[w.heap.size + 1]? = some (.cells #[.slice none 0 0, .slice none 0 0, .slice none 0 0] 27 (0, 0))) := fun W hW => below_row hW (row_lt RB.out) RB.out
  have HSK : Hid (∀ W, Below W0.heap.size W0 W → ∀ x y z, (fun W => W.cell? ⟨w.heap.size, 0, none⟩ = some (.slice la ln lc) ∧ W.cell? ⟨w.heap.size, 1, none⟩ = some (.slice sa sn sc) ∧ W.cell? ⟨w.heap.size, 2, none⟩ = some (.slice oa on oc)) (((W.setCell ⟨w.heap.size + 1, 0, none⟩ x).setCell ⟨w.heap.size + 1, 1, none⟩ y).setCell ⟨w.heap.size + 1, 2, none⟩ z)) := fun W hW x y z => by
    obtain ⟨s1, s2, s3⟩ := HSS.out W hW
    have hne : w.heap.size ≠ w.heap.size + 1 := by omega
    exact ⟨keep_setT (keep_setT (keep_setT s1 hne) hne) hne, keep_setT (keep_setT (keep_setT s2 hne) hne) hne, keep_setT (keep_setT (keep_setT s3 hne) hne) hne⟩
  have FL : Hid (∀ W, Below W0.heap.size W0 W → ∀ j u, (rowF L)[j]? = some u → ∃ b off, la = some ⟨b, off, none⟩ ∧ W.cell? ⟨b, off + j, none⟩ = some u) := fun W hW => ((HD.out.l.below B0.out).below hW).cells
  have FS : Hid (∀ W, Below W0.heap.size W0 W → ∀ j u, (rowF S)[j]? = some u → ∃ b off, sa = some ⟨b, off, none⟩ ∧ W.cell? ⟨b, off + j, none⟩ = some u) := fun W hW => ((HD.out.s.below B0.out).below hW).cells
  have FO : Hid (∀ W, Below W0.heap.size W0 W → ∀ j u, (rowO O)[j]? = some u → ∃ b off, oa = some ⟨b, off, none⟩ ∧ W.cell? ⟨b, off + j, none⟩ = some u) := fun W hW => ((HD.out.o.below B0.out).below hW).cells
  have CS : Hid (CI W0 W0.drew none none none) := CI.new W0
  clear HD RA RB
  have hlf : (rowF L).length = ln * 2 := by rw [rowF_len, HLN.out]
  have hsf : (rowF S).length = sn * 2 := by rw [rowF_len, HSN.out]
  have hof : (rowO O).length = on * 4 := by rw [rowO_len, HON.out]
  refine wp_region_held_drew (S := (fun W => W.cell? ⟨w.heap.size, 0, none⟩ = some (.slice la ln lc) ∧ W.cell? ⟨w.heap.size, 1, none⟩ = some (.slice sa sn sc) ∧ W.cell? ⟨w.heap.size, 2, none⟩ = some (.slice oa on oc))) (by kernel_rfl) ?_ (fun hHeld => ?_)
  · exact HSS.out _ CS.out.bel
  generalize W0.drew = WD at *
  refine wpAnyH_take (i := 1) (v := ?_) rfl (by kernel_rfl) (by kernel_rfl) (by kernel_rfl) (fun _ _ _ h => h) (Or.inl ⟨by kernel_rfl, ?_⟩) hHeld ?_
  rotate_left 1; focus (intro w hSw; (try dsimp only at hSw); (try go_split_ands); go_simp; all_goals (first | done | with_reducible rfl))
  change wpAnyH _ _ _ _ _ _ _ (Act.put _ (some 4) _) _; simp only [Act.put, List.setIfInBounds_toArray, List.set_cons_zero, List.set_cons_succ]
  refine wpAnyH_take (i := 2) (v := ?_) rfl (by kernel_rfl) (by kernel_rfl) (by kernel_rfl) (fun _ _ _ h => h) (Or.inl ⟨by kernel_rfl, ?_⟩) hHeld ?_
  rotate_left 1; focus (intro w hSw; (try dsimp only at hSw); (try go_split_ands); go_simp; all_goals (first | done | with_reducible rfl))
  change wpAnyH _ _ _ _ _ _ _ (Act.put _ (some 5) _) _; simp only [Act.put, List.setIfInBounds_toArray, List.set_cons_zero, List.set_cons_succ]
  refine wpAnyH_take (i := 5) (v := ?_) rfl (by kernel_rfl) (by kernel_rfl) (by kernel_rfl) (fun _ _ _ h => h) (Or.inl ⟨by kernel_rfl, ?_⟩) hHeld ?_
  rotate_left 1; focus (intro w hSw; (try dsimp only at hSw); (try go_split_ands); go_simp; all_goals (first | done | with_reducible rfl))
  change wpAnyH _ _ _ _ _ _ _ (Act.put _ (some 8) _) _; simp only [Act.put, List.setIfInBounds_toArray, List.set_cons_zero, List.set_cons_succ]
  refine wpAnyH_take (i := 6) (v := ?_) rfl (by kernel_rfl) (by kernel_rfl) (by kernel_rfl) (fun _ _ _ h => h) (Or.inl ⟨by kernel_rfl, ?_⟩) hHeld ?_
  rotate_left 1; focus (intro w hSw; (try dsimp only at hSw); (try go_split_ands); go_simp; all_goals (first | done | with_reducible rfl))
  change wpAnyH _ _ _ _ _ _ _ (Act.put _ (some 9) _) _; simp only [Act.put, List.setIfInBounds_toArray, List.set_cons_zero, List.set_cons_succ]
  refine wpAnyH_take (i := 9) (v := ?_) rfl (by kernel_rfl) (by kernel_rfl) (by kernel_rfl) (fun _ _ _ h => h) (Or.inl ⟨by kernel_rfl, ?_⟩) hHeld ?_
  rotate_left 1; focus (intro w hSw; (try dsimp only at hSw); (try go_split_ands); go_simp; all_goals (first | done | with_reducible rfl))
  change wpAnyH _ _ _ _ _ _ _ (Act.put _ (some 12) _) _; simp only [Act.put, List.setIfInBounds_toArray, List.set_cons_zero, List.set_cons_succ]
  refine wpAnyH_take (i := 10) (v := ?_) rfl (by kernel_rfl) (by kernel_rfl) (by kernel_rfl) (fun _ _ _ h => h) (Or.inl ⟨by kernel_rfl, ?_⟩) hHeld ?_
  rotate_left 1; focus (intro w hSw; (try dsimp only at hSw); (try go_split_ands); go_simp; all_goals (first | done | with_reducible rfl))
  change wpAnyH _ _ _ _ _ _ _ (Act.put _ (some 13) _) _; simp only [Act.put, List.setIfInBounds_toArray, List.set_cons_zero, List.set_cons_succ]
  refine wpAnyH_ready (rs := [0, 4, 8]) (by kernel_rfl) (by simp) ?_
  refine AllReadyH.cons rfl (fun K hK => ?_) ?_
  · skip
    have C1 : Hid (CI W0 (WD.alloc (.cells #[] 55)) (some (.slice (some ⟨WD.heap.size, 0, none⟩) 0 0, 0, [])) (none) (none)) := CS.out.newA
    (try simp only [Act.put, List.setIfInBounds_toArray])
    go_simp
    refine hK.out _ _ ?_ (fun hHeld => ?_)
    · exact HSS.out _ C1.out.bel
    clear hK K
    obtain ⟨G1, HG1⟩ : ∃ g, Hid (WD.heap.size = g) := ⟨_, rfl⟩
    rw [HG1.out] at C1 ⊢
    generalize (WD.alloc (.cells #[] 55)) = V1 at *
    clear CS HG1
    refine wpAnyH_ready (rs := [3, 4, 8]) (by kernel_rfl) (by simp) ?_
    refine AllReadyH.cons rfl (fun K hK => ?_) ?_
    · skip
      refine step_append_opt Try.underlying24 infF32 (by rfl) (by decide) rfl (.tmp 3) (.tmp 5) rfl W0.heap.size (.slice (some ⟨G1, 0, none⟩) 0 0) 0 [] rfl (C1.out.a) la ln lc (rowF L) rfl hlf (FL.out _ C1.out.bel) (rowF_one _) (by omega) (by omega) C1.out.bel.size ?_
      intro v2 V2 hown hg hbk hnl
      rw [List.nil_append, Nat.zero_add] at hown
      obtain ⟨a2, c2, rfl⟩ := own_anyV hown
      have C2 : Hid (CI W0 V2 (some (.slice a2 ln c2, ln, rowF L)) (none) (none)) := C1.out.appA hg hown hbk
      clear hown hg hbk hnl C1
      refine hK.out _ _ ?_ (fun hHeld => ?_)
      · exact HSS.out _ C2.out.bel
      clear hK K
      change wpAnyH _ _ _ _ _ _ _ (Act.put _ (some 6) _) _
      simp only [Act.put, List.setIfInBounds_toArray, List.set_cons_zero, List.set_cons_succ]
      refine wpAnyH_ready (rs := [4, 8]) (by kernel_rfl) (by simp) ?_
      refine AllReadyH.cons rfl (fun K hK => ?_) ?_
      · skip
        have C3 : Hid (CI W0 (V2.alloc (.cells #[] 55)) (some (.slice a2 ln c2, ln, rowF L)) (some (.slice (some ⟨V2.heap.size, 0, none⟩) 0 0, 0, [])) (none)) := C2.out.newB
        (try simp only [Act.put, List.setIfInBounds_toArray])
        go_simp
        refine hK.out _ _ ?_ (fun hHeld => ?_)
        · exact HSS.out _ C3.out.bel
        clear hK K
        obtain ⟨G3, HG3⟩ : ∃ g, Hid (V2.heap.size = g) := ⟨_, rfl⟩
        rw [HG3.out] at C3 ⊢
        generalize (V2.alloc (.cells #[] 55)) = V3 at *
        clear C2 HG3
        refine wpAnyH_ready (rs := [7, 8]) (by kernel_rfl) (by simp) ?_
        refine AllReadyH.cons rfl (fun K hK => ?_) ?_
        · skip
          refine step_append_opt Try.underlying24 infF32 (by rfl) (by decide) rfl (.tmp 7) (.tmp 9) rfl W0.heap.size (.slice (some ⟨G3, 0, none⟩) 0 0) 0 [] rfl (C3.out.b) sa sn sc (rowF S) rfl hsf (FS.out _ C3.out.bel) (rowF_one _) (by omega) (by omega) C3.out.bel.size ?_
          intro v4 V4 hown hg hbk hnl
          rw [List.nil_append, Nat.zero_add] at hown
          obtain ⟨a4, c4, rfl⟩ := own_anyV hown
          have C4 : Hid (CI W0 V4 (some (.slice a2 ln c2, ln, rowF L)) (some (.slice a4 sn c4, sn, rowF S)) (none)) := C3.out.appB hg hown hbk
          clear hown hg hbk hnl C3
          refine hK.out _ _ ?_ (fun hHeld => ?_)
          · exact HSS.out _ C4.out.bel
          clear hK K
          change wpAnyH _ _ _ _ _ _ _ (Act.put _ (some 10) _) _
          simp only [Act.put, List.setIfInBounds_toArray, List.set_cons_zero, List.set_cons_succ]
          refine wpAnyH_ready (rs := [8]) (by kernel_rfl) (by simp) ?_
          refine AllReadyH.cons rfl (fun K hK => ?_) AllReadyH.nil
          have C5 : Hid (CI W0 (V4.alloc (.cells #[] 36)) (some (.slice a2 ln c2, ln, rowF L)) (some (.slice a4 sn c4, sn, rowF S)) (some (.slice (some ⟨V4.heap.size, 0, none⟩) 0 0, 0, []))) := C4.out.newC
          (try simp only [Act.put, List.setIfInBounds_toArray])
          go_simp
          refine hK.out _ _ ?_ (fun hHeld => ?_)
          · exact HSS.out _ C5.out.bel
          clear hK K
          obtain ⟨G5, HG5⟩ : ∃ g, Hid (V4.heap.size = g) := ⟨_, rfl⟩
          rw [HG5.out] at C5 ⊢
          generalize (V4.alloc (.cells #[] 36)) = V5 at *
          clear C4 HG5
          refine wpAnyH_ready (rs := [11]) (by kernel_rfl) (by simp) ?_
          refine AllReadyH.cons rfl (fun K hK => ?_) AllReadyH.nil
          refine step_append_opt Try.underlying25 infO56 (by rfl) (by decide) rfl (.tmp 11) (.tmp 13) rfl W0.heap.size (.slice (some ⟨G5, 0, none⟩) 0 0) 0 [] rfl (C5.out.c) oa on oc (rowO O) rfl hof (FO.out _ C5.out.bel) (rowO_one _) (by omega) (by omega) C5.out.bel.size ?_
          intro v6 V6 hown hg hbk hnl
          rw [List.nil_append, Nat.zero_add] at hown
          obtain ⟨a6, c6, rfl⟩ := own_anyV hown
          have C6 : Hid (CI W0 V6 (some (.slice a2 ln c2, ln, rowF L)) (some (.slice a4 sn c4, sn, rowF S)) (some (.slice a6 on c6, on, rowO O))) := C5.out.appC hg hown
          clear hown hg hbk hnl C5
          refine hK.out _ _ ?_ (fun hHeld => ?_)
          · exact HSS.out _ C6.out.bel
          clear hK K
          change wpAnyH _ _ _ _ _ _ _ (Act.put _ (some 14) _) _
          simp only [Act.put, List.setIfInBounds_toArray, List.set_cons_zero, List.set_cons_succ]
          refine wpAnyH_take (i := 12) (v := ?_) rfl (by kernel_rfl) (by kernel_rfl) (by kernel_rfl) (fun _ _ _ h => h) (Or.inl ⟨by kernel_rfl, ?_⟩) hHeld ?_
          rotate_left 1; focus (intro w hSw; (try dsimp only at hSw); (try go_split_ands); go_simp; all_goals (first | done | with_reducible rfl))
          change wpAnyH _ _ _ _ _ _ _ (Act.put _ (some 15) _) _; simp only [Act.put, List.setIfInBounds_toArray, List.set_cons_zero, List.set_cons_succ]
          refine wpAnyH_ready (rs := [13]) (by kernel_rfl) (by simp) ?_
          refine AllReadyH.cons rfl (fun K hK => ?_) AllReadyH.nil
          obtain ⟨r0, r1, r2⟩ := cells3 (HRB.out _ C6.out.bel)
          have rf := fun i => frozen_of_row _ _ i _ _ (HRB.out _ C6.out.bel)
          go_simp
          refine hK.out _ _ ?_ (fun hHeld => ?_)
          · exact HSK.out _ C6.out.bel _ _ _
          clear hK K
          refine wpAnyH_done (by kernel_rfl) ?_ _
          clear hHeld
          obtain ⟨r0, r1, r2⟩ := cells3 (HRB.out _ C6.out.bel)
          have DN := fun x y z => C6.out.done (x := x) (y := y) (z := z) B0.out (HRB.out _ C6.out.bel) HLN.out HSN.out HON.out
          go_wp2
          refine bodyPost_ret (v := .agg #[.slice a2 ln c2, .slice a4 sn c4, .slice a6 on c6]) (by simp [results, Try.results41, go_sem, r0, r1, r2]) rfl ⟨_, _, _, _, _, _, rfl, (DN _ _ _).1, (DN _ _ _).2⟩
        refine AllReadyH.cons rfl (fun K hK => ?_) AllReadyH.nil
        have C4 : Hid (CI W0 (V3.alloc (.cells #[] 36)) (some (.slice a2 ln c2, ln, rowF L)) (some (.slice (some ⟨G3, 0, none⟩) 0 0, 0, [])) (some (.slice (some ⟨V3.heap.size, 0, none⟩) 0 0, 0, []))) := C3.out.newC
        (try simp only [Act.put, List.setIfInBounds_toArray])
        go_simp
        refine hK.out _ _ ?_ (fun hHeld => ?_)
        · exact HSS.out _ C4.out.bel
        clear hK K
        obtain ⟨G4, HG4⟩ : ∃ g, Hid (V3.heap.size = g) := ⟨_, rfl⟩
        rw [HG4.out] at C4 ⊢
        generalize (V3.alloc (.cells #[] 36)) = V4 at *
        clear C3 HG4
        refine wpAnyH_ready (rs := [7]) (by kernel_rfl) (by simp) ?_
        refine AllReadyH.cons rfl (fun K hK => ?_) AllReadyH.nil
        refine step_append_opt Try.underlying24 infF32 (by rfl) (by decide) rfl (.tmp 7) (.tmp 9) rfl W0.heap.size (.slice (some ⟨G3, 0, none⟩) 0 0) 0 [] rfl (C4.out.b) sa sn sc (rowF S) rfl hsf (FS.out _ C4.out.bel) (rowF_one _) (by omega) (by omega) C4.out.bel.size ?_
        intro v5 V5 hown hg hbk hnl
        rw [List.nil_append, Nat.zero_add] at hown
        obtain ⟨a5, c5, rfl⟩ := own_anyV hown
        have C5 : Hid (CI W0 V5 (some (.slice a2 ln c2, ln, rowF L)) (some (.slice a5 sn c5, sn, rowF S)) (some (.slice (some ⟨G4, 0, none⟩) 0 0, 0, []))) := C4.out.appB hg hown hbk
        clear hown hg hbk hnl C4
        refine hK.out _ _ ?_ (fun hHeld => ?_)
        · exact HSS.out _ C5.out.bel
        clear hK K
        change wpAnyH _ _ _ _ _ _ _ (Act.put _ (some 10) _) _
        simp only [Act.put, List.setIfInBounds_toArray, List.set_cons_zero, List.set_cons_succ]
        refine wpAnyH_ready (rs := [11]) (by kernel_rfl) (by simp) ?_
        refine AllReadyH.cons rfl (fun K hK => ?_) AllReadyH.nil
        refine step_append_opt Try.underlying25 infO56 (by rfl) (by decide) rfl (.tmp 11) (.tmp 13) rfl W0.heap.size (.slice (some ⟨G4, 0, none⟩) 0 0) 0 [] rfl (C5.out.c) oa on oc (rowO O) rfl hof (FO.out _ C5.out.bel) (rowO_one _) (by omega) (by omega) C5.out.bel.size ?_
        intro v6 V6 hown hg hbk hnl
        rw [List.nil_append, Nat.zero_add] at hown
        obtain ⟨a6, c6, rfl⟩ := own_anyV hown
        have C6 : Hid (CI W0 V6 (some (.slice a2 ln c2, ln, rowF L)) (some (.slice a5 sn c5, sn, rowF S)) (some (.slice a6 on c6, on, rowO O))) := C5.out.appC hg hown
        clear hown hg hbk hnl C5
        refine hK.out _ _ ?_ (fun hHeld => ?_)
        · exact HSS.out _ C6.out.bel
        clear hK K
        change wpAnyH _ _ _ _ _ _ _ (Act.put _ (some 14) _) _
        simp only [Act.put, List.setIfInBounds_toArray, List.set_cons_zero, List.set_cons_succ]
        refine wpAnyH_take (i := 12) (v := ?_) rfl (by kernel_rfl) (by kernel_rfl) (by kernel_rfl) (fun _ _ _ h => h) (Or.inl ⟨by kernel_rfl, ?_⟩) hHeld ?_
        rotate_left 1; focus (intro w hSw; (try dsimp only at hSw); (try go_split_ands); go_simp; all_goals (first | done | with_reducible rfl))
        change wpAnyH _ _ _ _ _ _ _ (Act.put _ (some 15) _) _; simp only [Act.put, List.setIfInBounds_toArray, List.set_cons_zero, List.set_cons_succ]
        refine wpAnyH_ready (rs := [13]) (by kernel_rfl) (by simp) ?_
        refine AllReadyH.cons rfl (fun K hK => ?_) AllReadyH.nil
        obtain ⟨r0, r1, r2⟩ := cells3 (HRB.out _ C6.out.bel)
        have rf := fun i => frozen_of_row _ _ i _ _ (HRB.out _ C6.out.bel)
        go_simp
        refine hK.out _ _ ?_ (fun hHeld => ?_)
        · exact HSK.out _ C6.out.bel _ _ _
        clear hK K
        refine wpAnyH_done (by kernel_rfl) ?_ _
        clear hHeld
        obtain ⟨r0, r1, r2⟩ := cells3 (HRB.out _ C6.out.bel)
        have DN := fun x y z => C6.out.done (x := x) (y := y) (z := z) B0.out (HRB.out _ C6.out.bel) HLN.out HSN.out HON.out
        go_wp2
        refine bodyPost_ret (v := .agg #[.slice a2 ln c2, .slice a5 sn c5, .slice a6 on c6]) (by simp [results, Try.results41, go_sem, r0, r1, r2]) rfl ⟨_, _, _, _, _, _, rfl, (DN _ _ _).1, (DN _ _ _).2⟩
      refine AllReadyH.cons rfl (fun K hK => ?_) AllReadyH.nil
      have C3 : Hid (CI W0 (V2.alloc (.cells #[] 36)) (some (.slice a2 ln c2, ln, rowF L)) (none) (some (.slice (some ⟨V2.heap.size, 0, none⟩) 0 0, 0, []))) := C2.out.newC
      (try simp only [Act.put, List.setIfInBounds_toArray])
      go_simp
      refine hK.out _ _ ?_ (fun hHeld => ?_)
      · exact HSS.out _ C3.out.bel
      clear hK K
      obtain ⟨G3, HG3⟩ : ∃ g, Hid (V2.heap.size = g) := ⟨_, rfl⟩
      rw [HG3.out] at C3 ⊢
      generalize (V2.alloc (.cells #[] 36)) = V3 at *
      clear C2 HG3
      refine wpAnyH_ready (rs := [4]) (by kernel_rfl) (by simp) ?_
      refine AllReadyH.cons rfl (fun K hK => ?_) AllReadyH.nil
      have C4 : Hid (CI W0 (V3.alloc (.cells #[] 55)) (some (.slice a2 ln c2, ln, rowF L)) (some (.slice (some ⟨V3.heap.size, 0, none⟩) 0 0, 0, [])) (some (.slice (some ⟨G3, 0, none⟩) 0 0, 0, []))) := C3.out.newB
      (try simp only [Act.put, List.setIfInBounds_toArray])
      go_simp
      refine hK.out _ _ ?_ (fun hHeld => ?_)
      · exact HSS.out _ C4.out.bel
      clear hK K
      obtain ⟨G4, HG4⟩ : ∃ g, Hid (V3.heap.size = g) := ⟨_, rfl⟩
      rw [HG4.out] at C4 ⊢
      generalize (V3.alloc (.cells #[] 55)) = V4 at *
      clear C3 HG4
      refine wpAnyH_ready (rs := [7]) (by kernel_rfl) (by simp) ?_
      refine AllReadyH.cons rfl (fun K hK => ?_) AllReadyH.nil
      refine step_append_opt Try.underlying24 infF32 (by rfl) (by decide) rfl (.tmp 7) (.tmp 9) rfl W0.heap.size (.slice (some ⟨G4, 0, none⟩) 0 0) 0 [] rfl (C4.out.b) sa sn sc (rowF S) rfl hsf (FS.out _ C4.out.bel) (rowF_one _) (by omega) (by omega) C4.out.bel.size ?_
      intro v5 V5 hown hg hbk hnl
      rw [List.nil_append, Nat.zero_add] at hown
      obtain ⟨a5, c5, rfl⟩ := own_anyV hown
      have C5 : Hid (CI W0 V5 (some (.slice a2 ln c2, ln, rowF L)) (some (.slice a5 sn c5, sn, rowF S)) (some (.slice (some ⟨G3, 0, none⟩) 0 0, 0, []))) := C4.out.appB hg hown hbk
      clear hown hg hbk hnl C4
      refine hK.out _ _ ?_ (fun hHeld => ?_)
      · exact HSS.out _ C5.out.bel
      clear hK K
      change wpAnyH _ _ _ _ _ _ _ (Act.put _ (some 10) _) _
      simp only [Act.put, List.setIfInBounds_toArray, List.set_cons_zero, List.set_cons_succ]
      refine wpAnyH_ready (rs := [11]) (by kernel_rfl) (by simp) ?_
      refine AllReadyH.cons rfl (fun K hK => ?_) AllReadyH.nil
      refine step_append_opt Try.underlying25 infO56 (by rfl) (by decide) rfl (.tmp 11) (.tmp 13) rfl W0.heap.size (.slice (some ⟨G3, 0, none⟩) 0 0) 0 [] rfl (C5.out.c) oa on oc (rowO O) rfl hof (FO.out _ C5.out.bel) (rowO_one _) (by omega) (by omega) C5.out.bel.size ?_
      intro v6 V6 hown hg hbk hnl
      rw [List.nil_append, Nat.zero_add] at hown
      obtain ⟨a6, c6, rfl⟩ := own_anyV hown
      have C6 : Hid (CI W0 V6 (some (.slice a2 ln c2, ln, rowF L)) (some (.slice a5 sn c5, sn, rowF S)) (some (.slice a6 on c6, on, rowO O))) := C5.out.appC hg hown
      clear hown hg hbk hnl C5
      refine hK.out _ _ ?_ (fun hHeld => ?_)
      · exact HSS.out _ C6.out.bel
      clear hK K
      change wpAnyH _ _ _ _ _ _ _ (Act.put _ (some 14) _) _
      simp only [Act.put, List.setIfInBounds_toArray, List.set_cons_zero, List.set_cons_succ]
      refine wpAnyH_take (i := 12) (v := ?_) rfl (by kernel_rfl) (by kernel_rfl) (by kernel_rfl) (fun _ _ _ h => h) (Or.inl ⟨by kernel_rfl, ?_⟩) hHeld ?_
      rotate_left 1; focus (intro w hSw; (try dsimp only at hSw); (try go_split_ands); go_simp; all_goals (first | done | with_reducible rfl))
      change wpAnyH _ _ _ _ _ _ _ (Act.put _ (some 15) _) _; simp only [Act.put, List.setIfInBounds_toArray, List.set_cons_zero, List.set_cons_succ]
      refine wpAnyH_ready (rs := [13]) (by kernel_rfl) (by simp) ?_
      refine AllReadyH.cons rfl (fun K hK => ?_) AllReadyH.nil
      obtain ⟨r0, r1, r2⟩ := cells3 (HRB.out _ C6.out.bel)
      have rf := fun i => frozen_of_row _ _ i _ _ (HRB.out _ C6.out.bel)
      go_simp
      refine hK.out _ _ ?_ (fun hHeld => ?_)
      · exact HSK.out _ C6.out.bel _ _ _
      clear hK K
      refine wpAnyH_done (by kernel_rfl) ?_ _
      clear hHeld
      obtain ⟨r0, r1, r2⟩ := cells3 (HRB.out _ C6.out.bel)
      have DN := fun x y z => C6.out.done (x := x) (y := y) (z := z) B0.out (HRB.out _ C6.out.bel) HLN.out HSN.out HON.out
      go_wp2
      refine bodyPost_ret (v := .agg #[.slice a2 ln c2, .slice a5 sn c5, .slice a6 on c6]) (by simp [results, Try.results41, go_sem, r0, r1, r2]) rfl ⟨_, _, _, _, _, _, rfl, (DN _ _ _).1, (DN _ _ _).2⟩
    refine AllReadyH.cons rfl (fun K hK => ?_) ?_
    · skip
      have C2 : Hid (CI W0 (V1.alloc (.cells #[] 55)) (some (.slice (some ⟨G1, 0, none⟩) 0 0, 0, [])) (some (.slice (some ⟨V1.heap.size, 0, none⟩) 0 0, 0, [])) (none)) := C1.out.newB
      (try simp only [Act.put, List.setIfInBounds_toArray])
      go_simp
      refine hK.out _ _ ?_ (fun hHeld => ?_)
      · exact HSS.out _ C2.out.bel
      clear hK K
      obtain ⟨G2, HG2⟩ : ∃ g, Hid (V1.heap.size = g) := ⟨_, rfl⟩
      rw [HG2.out] at C2 ⊢
      generalize (V1.alloc (.cells #[] 55)) = V2 at *
      clear C1 HG2
      refine wpAnyH_ready (rs := [3, 8]) (by kernel_rfl) (by simp) ?_
      refine AllReadyH.cons rfl (fun K hK => ?_) ?_
      · skip
        refine step_append_opt Try.underlying24 infF32 (by rfl) (by decide) rfl (.tmp 3) (.tmp 5) rfl W0.heap.size (.slice (some ⟨G1, 0, none⟩) 0 0) 0 [] rfl (C2.out.a) la ln lc (rowF L) rfl hlf (FL.out _ C2.out.bel) (rowF_one _) (by omega) (by omega) C2.out.bel.size ?_
        intro v3 V3 hown hg hbk hnl
        rw [List.nil_append, Nat.zero_add] at hown
        obtain ⟨a3, c3, rfl⟩ := own_anyV hown
        have C3 : Hid (CI W0 V3 (some (.slice a3 ln c3, ln, rowF L)) (some (.slice (some ⟨G2, 0, none⟩) 0 0, 0, [])) (none)) := C2.out.appA hg hown hbk
        clear hown hg hbk hnl C2
        refine hK.out _ _ ?_ (fun hHeld => ?_)
        · exact HSS.out _ C3.out.bel
        clear hK K
        change wpAnyH _ _ _ _ _ _ _ (Act.put _ (some 6) _) _
        simp only [Act.put, List.setIfInBounds_toArray, List.set_cons_zero, List.set_cons_succ]
        refine wpAnyH_ready (rs := [7, 8]) (by kernel_rfl) (by simp) ?_
        refine AllReadyH.cons rfl (fun K hK => ?_) ?_
        · skip
          refine step_append_opt Try.underlying24 infF32 (by rfl) (by decide) rfl (.tmp 7) (.tmp 9) rfl W0.heap.size (.slice (some ⟨G2, 0, none⟩) 0 0) 0 [] rfl (C3.out.b) sa sn sc (rowF S) rfl hsf (FS.out _ C3.out.bel) (rowF_one _) (by omega) (by omega) C3.out.bel.size ?_
          intro v4 V4 hown hg hbk hnl
          rw [List.nil_append, Nat.zero_add] at hown
          obtain ⟨a4, c4, rfl⟩ := own_anyV hown
          have C4 : Hid (CI W0 V4 (some (.slice a3 ln c3, ln, rowF L)) (some (.slice a4 sn c4, sn, rowF S)) (none)) := C3.out.appB hg hown hbk
          clear hown hg hbk hnl C3
          refine hK.out _ _ ?_ (fun hHeld => ?_)
          · exact HSS.out _ C4.out.bel
          clear hK K
          change wpAnyH _ _ _ _ _ _ _ (Act.put _ (some 10) _) _
          simp only [Act.put, List.setIfInBounds_toArray, List.set_cons_zero, List.set_cons_succ]
          refine wpAnyH_ready (rs := [8]) (by kernel_rfl) (by simp) ?_
          refine AllReadyH.cons rfl (fun K hK => ?_) AllReadyH.nil
          have C5 : Hid (CI W0 (V4.alloc (.cells #[] 36)) (some (.slice a3 ln c3, ln, rowF L)) (some (.slice a4 sn c4, sn, rowF S)) (some (.slice (some ⟨V4.heap.size, 0, none⟩) 0 0, 0, []))) := C4.out.newC
          (try simp only [Act.put, List.setIfInBounds_toArray])
          go_simp
          refine hK.out _ _ ?_ (fun hHeld => ?_)
          · exact HSS.out _ C5.out.bel
          clear hK K
          obtain ⟨G5, HG5⟩ : ∃ g, Hid (V4.heap.size = g) := ⟨_, rfl⟩
          rw [HG5.out] at C5 ⊢
          generalize (V4.alloc (.cells #[] 36)) = V5 at *
          clear C4 HG5
          refine wpAnyH_ready (rs := [11]) (by kernel_rfl) (by simp) ?_
          refine AllReadyH.cons rfl (fun K hK => ?_) AllReadyH.nil
          refine step_append_opt Try.underlying25 infO56 (by rfl) (by decide) rfl (.tmp 11) (.tmp 13) rfl W0.heap.size (.slice (some ⟨G5, 0, none⟩) 0 0) 0 [] rfl (C5.out.c) oa on oc (rowO O) rfl hof (FO.out _ C5.out.bel) (rowO_one _) (by omega) (by omega) C5.out.bel.size ?_
          intro v6 V6 hown hg hbk hnl
          rw [List.nil_append, Nat.zero_add] at hown
          obtain ⟨a6, c6, rfl⟩ := own_anyV hown
          have C6 : Hid (CI W0 V6 (some (.slice a3 ln c3, ln, rowF L)) (some (.slice a4 sn c4, sn, rowF S)) (some (.slice a6 on c6, on, rowO O))) := C5.out.appC hg hown
          clear hown hg hbk hnl C5
          refine hK.out _ _ ?_ (fun hHeld => ?_)
          · exact HSS.out _ C6.out.bel
          clear hK K
          change wpAnyH _ _ _ _ _ _ _ (Act.put _ (some 14) _) _
          simp only [Act.put, List.setIfInBounds_toArray, List.set_cons_zero, List.set_cons_succ]
          refine wpAnyH_take (i := 12) (v := ?_) rfl (by kernel_rfl) (by kernel_rfl) (by kernel_rfl) (fun _ _ _ h => h) (Or.inl ⟨by kernel_rfl, ?_⟩) hHeld ?_
          rotate_left 1; focus (intro w hSw; (try dsimp only at hSw); (try go_split_ands); go_simp; all_goals (first | done | with_reducible rfl))
          change wpAnyH _ _ _ _ _ _ _ (Act.put _ (some 15) _) _; simp only [Act.put, List.setIfInBounds_toArray, List.set_cons_zero, List.set_cons_succ]
          refine wpAnyH_ready (rs := [13]) (by kernel_rfl) (by simp) ?_
          refine AllReadyH.cons rfl (fun K hK => ?_) AllReadyH.nil
          obtain ⟨r0, r1, r2⟩ := cells3 (HRB.out _ C6.out.bel)
          have rf := fun i => frozen_of_row _ _ i _ _ (HRB.out _ C6.out.bel)
          go_simp
          refine hK.out _ _ ?_ (fun hHeld => ?_)
          · exact HSK.out _ C6.out.bel _ _ _
          clear hK K
          refine wpAnyH_done (by kernel_rfl) ?_ _
          clear hHeld
          obtain ⟨r0, r1, r2⟩ := cells3 (HRB.out _ C6.out.bel)
          have DN := fun x y z => C6.out.done (x := x) (y := y) (z := z) B0.out (HRB.out _ C6.out.bel) HLN.out HSN.out HON.out
          go_wp2
          refine bodyPost_ret (v := .agg #[.slice a3 ln c3, .slice a4 sn c4, .slice a6 on c6]) (by simp [results, Try.results41, go_sem, r0, r1, r2]) rfl ⟨_, _, _, _, _, _, rfl, (DN _ _ _).1, (DN _ _ _).2⟩
        refine AllReadyH.cons rfl (fun K hK => ?_) AllReadyH.nil
        have C4 : Hid (CI W0 (V3.alloc (.cells #[] 36)) (some (.slice a3 ln c3, ln, rowF L)) (some (.slice (some ⟨G2, 0, none⟩) 0 0, 0, [])) (some (.slice (some ⟨V3.heap.size, 0, none⟩) 0 0, 0, []))) := C3.out.newC
        (try simp only [Act.put, List.setIfInBounds_toArray])
        go_simp
        refine hK.out _ _ ?_ (fun hHeld => ?_)
        · exact HSS.out _ C4.out.bel
        clear hK K
        obtain ⟨G4, HG4⟩ : ∃ g, Hid (V3.heap.size = g) := ⟨_, rfl⟩
        rw [HG4.out] at C4 ⊢
        generalize (V3.alloc (.cells #[] 36)) = V4 at *
        clear C3 HG4
        refine wpAnyH_ready (rs := [7]) (by kernel_rfl) (by simp) ?_
        refine AllReadyH.cons rfl (fun K hK => ?_) AllReadyH.nil
        refine step_append_opt Try.underlying24 infF32 (by rfl) (by decide) rfl (.tmp 7) (.tmp 9) rfl W0.heap.size (.slice (some ⟨G2, 0, none⟩) 0 0) 0 [] rfl (C4.out.b) sa sn sc (rowF S) rfl hsf (FS.out _ C4.out.bel) (rowF_one _) (by omega) (by omega) C4.out.bel.size ?_
        intro v5 V5 hown hg hbk hnl
        rw [List.nil_append, Nat.zero_add] at hown
        obtain ⟨a5, c5, rfl⟩ := own_anyV hown
        have C5 : Hid (CI W0 V5 (some (.slice a3 ln c3, ln, rowF L)) (some (.slice a5 sn c5, sn, rowF S)) (some (.slice (some ⟨G4, 0, none⟩) 0 0, 0, []))) := C4.out.appB hg hown hbk
        clear hown hg hbk hnl C4
        refine hK.out _ _ ?_ (fun hHeld => ?_)
        · exact HSS.out _ C5.out.bel
        clear hK K
        change wpAnyH _ _ _ _ _ _ _ (Act.put _ (some 10) _) _
        simp only [Act.put, List.setIfInBounds_toArray, List.set_cons_zero, List.set_cons_succ]
        refine wpAnyH_ready (rs := [11]) (by kernel_rfl) (by simp) ?_
        refine AllReadyH.cons rfl (fun K hK => ?_) AllReadyH.nil
        refine step_append_opt Try.underlying25 infO56 (by rfl) (by decide) rfl (.tmp 11) (.tmp 13) rfl W0.heap.size (.slice (some ⟨G4, 0, none⟩) 0 0) 0 [] rfl (C5.out.c) oa on oc (rowO O) rfl hof (FO.out _ C5.out.bel) (rowO_one _) (by omega) (by omega) C5.out.bel.size ?_
        intro v6 V6 hown hg hbk hnl
        rw [List.nil_append, Nat.zero_add] at hown
        obtain ⟨a6, c6, rfl⟩ := own_anyV hown
        have C6 : Hid (CI W0 V6 (some (.slice a3 ln c3, ln, rowF L)) (some (.slice a5 sn c5, sn, rowF S)) (some (.slice a6 on c6, on, rowO O))) := C5.out.appC hg hown
        clear hown hg hbk hnl C5
        refine hK.out _ _ ?_ (fun hHeld => ?_)
        · exact HSS.out _ C6.out.bel
        clear hK K
        change wpAnyH _ _ _ _ _ _ _ (Act.put _ (some 14) _) _
        simp only [Act.put, List.setIfInBounds_toArray, List.set_cons_zero, List.set_cons_succ]
        refine wpAnyH_take (i := 12) (v := ?_) rfl (by kernel_rfl) (by kernel_rfl) (by kernel_rfl) (fun _ _ _ h => h) (Or.inl ⟨by kernel_rfl, ?_⟩) hHeld ?_
        rotate_left 1; focus (intro w hSw; (try dsimp only at hSw); (try go_split_ands); go_simp; all_goals (first | done | with_reducible rfl))
        change wpAnyH _ _ _ _ _ _ _ (Act.put _ (some 15) _) _; simp only [Act.put, List.setIfInBounds_toArray, List.set_cons_zero, List.set_cons_succ]
        refine wpAnyH_ready (rs := [13]) (by kernel_rfl) (by simp) ?_
        refine AllReadyH.cons rfl (fun K hK => ?_) AllReadyH.nil
        obtain ⟨r0, r1, r2⟩ := cells3 (HRB.out _ C6.out.bel)
        have rf := fun i => frozen_of_row _ _ i _ _ (HRB.out _ C6.out.bel)
        go_simp
        refine hK.out _ _ ?_ (fun hHeld => ?_)
        · exact HSK.out _ C6.out.bel _ _ _
        clear hK K
        refine wpAnyH_done (by kernel_rfl) ?_ _
        clear hHeld
        obtain ⟨r0, r1, r2⟩ := cells3 (HRB.out _ C6.out.bel)
        have DN := fun x y z => C6.out.done (x := x) (y := y) (z := z) B0.out (HRB.out _ C6.out.bel) HLN.out HSN.out HON.out
        go_wp2
        refine bodyPost_ret (v := .agg #[.slice a3 ln c3, .slice a5 sn c5, .slice a6 on c6]) (by simp [results, Try.results41, go_sem, r0, r1, r2]) rfl ⟨_, _, _, _, _, _, rfl, (DN _ _ _).1, (DN _ _ _).2⟩
      refine AllReadyH.cons rfl (fun K hK => ?_) AllReadyH.nil
      have C3 : Hid (CI W0 (V2.alloc (.cells #[] 36)) (some (.slice (some ⟨G1, 0, none⟩) 0 0, 0, [])) (some (.slice (some ⟨G2, 0, none⟩) 0 0, 0, [])) (some (.slice (some ⟨V2.heap.size, 0, none⟩) 0 0, 0, []))) := C2.out.newC
      (try simp only [Act.put, List.setIfInBounds_toArray])
      go_simp
      refine hK.out _ _ ?_ (fun hHeld => ?_)
      · exact HSS.out _ C3.out.bel
      clear hK K
      obtain ⟨G3, HG3⟩ : ∃ g, Hid (V2.heap.size = g) := ⟨_, rfl⟩
      rw [HG3.out] at C3 ⊢
      generalize (V2.alloc (.cells #[] 36)) = V3 at *
      clear C2 HG3
      refine wpAnyH_ready (rs := [3]) (by kernel_rfl) (by simp) ?_
      refine AllReadyH.cons rfl (fun K hK => ?_) AllReadyH.nil
      refine step_append_opt Try.underlying24 infF32 (by rfl) (by decide) rfl (.tmp 3) (.tmp 5) rfl W0.heap.size (.slice (some ⟨G1, 0, none⟩) 0 0) 0 [] rfl (C3.out.a) la ln lc (rowF L) rfl hlf (FL.out _ C3.out.bel) (rowF_one _) (by omega) (by omega) C3.out.bel.size ?_
      intro v4 V4 hown hg hbk hnl
      rw [List.nil_append, Nat.zero_add] at hown
      obtain ⟨a4, c4, rfl⟩ := own_anyV hown
      have C4 : Hid (CI W0 V4 (some (.slice a4 ln c4, ln, rowF L)) (some (.slice (some ⟨G2, 0, none⟩) 0 0, 0, [])) (some (.slice (some ⟨G3, 0, none⟩) 0 0, 0, []))) := C3.out.appA hg hown hbk
      clear hown hg hbk hnl C3
      refine hK.out _ _ ?_ (fun hHeld => ?_)
      · exact HSS.out _ C4.out.bel
      clear hK K
      change wpAnyH _ _ _ _ _ _ _ (Act.put _ (some 6) _) _
      simp only [Act.put, List.setIfInBounds_toArray, List.set_cons_zero, List.set_cons_succ]
      refine wpAnyH_ready (rs := [7]) (by kernel_rfl) (by simp) ?_
      refine AllReadyH.cons rfl (fun K hK => ?_) AllReadyH.nil
      refine step_append_opt Try.underlying24 infF32 (by rfl) (by decide) rfl (.tmp 7) (.tmp 9) rfl W0.heap.size (.slice (some ⟨G2, 0, none⟩) 0 0) 0 [] rfl (C4.out.b) sa sn sc (rowF S) rfl hsf (FS.out _ C4.out.bel) (rowF_one _) (by omega) (by omega) C4.out.bel.size ?_
      intro v5 V5 hown hg hbk hnl
      rw [List.nil_append, Nat.zero_add] at hown
      obtain ⟨a5, c5, rfl⟩ := own_anyV hown
      have C5 : Hid (CI W0 V5 (some (.slice a4 ln c4, ln, rowF L)) (some (.slice a5 sn c5, sn, rowF S)) (some (.slice (some ⟨G3, 0, none⟩) 0 0, 0, []))) := C4.out.appB hg hown hbk
      clear hown hg hbk hnl C4
      refine hK.out _ _ ?_ (fun hHeld => ?_)
      · exact HSS.out _ C5.out.bel
      clear hK K
      change wpAnyH _ _ _ _ _ _ _ (Act.put _ (some 10) _) _
      simp only [Act.put, List.setIfInBounds_toArray, List.set_cons_zero, List.set_cons_succ]
      refine wpAnyH_ready (rs := [11]) (by kernel_rfl) (by simp) ?_
      refine AllReadyH.cons rfl (fun K hK => ?_) AllReadyH.nil
      refine step_append_opt Try.underlying25 infO56 (by rfl) (by decide) rfl (.tmp 11) (.tmp 13) rfl W0.heap.size (.slice (some ⟨G3, 0, none⟩) 0 0) 0 [] rfl (C5.out.c) oa on oc (rowO O) rfl hof (FO.out _ C5.out.bel) (rowO_one _) (by omega) (by omega) C5.out.bel.size ?_
      intro v6 V6 hown hg hbk hnl
      rw [List.nil_append, Nat.zero_add] at hown
      obtain ⟨a6, c6, rfl⟩ := own_anyV hown
      have C6 : Hid (CI W0 V6 (some (.slice a4 ln c4, ln, rowF L)) (some (.slice a5 sn c5, sn, rowF S)) (some (.slice a6 on c6, on, rowO O))) := C5.out.appC hg hown
      clear hown hg hbk hnl C5
      refine hK.out _ _ ?_ (fun hHeld => ?_)
      · exact HSS.out _ C6.out.bel
      clear hK K
      change wpAnyH _ _ _ _ _ _ _ (Act.put _ (some 14) _) _
      simp only [Act.put, List.setIfInBounds_toArray, List.set_cons_zero, List.set_cons_succ]
      refine wpAnyH_take (i := 12) (v := ?_) rfl (by kernel_rfl) (by kernel_rfl) (by kernel_rfl) (fun _ _ _ h => h) (Or.inl ⟨by kernel_rfl, ?_⟩) hHeld ?_
      rotate_left 1; focus (intro w hSw; (try dsimp only at hSw); (try go_split_ands); go_simp; all_goals (first | done | with_reducible rfl))
      change wpAnyH _ _ _ _ _ _ _ (Act.put _ (some 15) _) _; simp only [Act.put, List.setIfInBounds_toArray, List.set_cons_zero, List.set_cons_succ]
      refine wpAnyH_ready (rs := [13]) (by kernel_rfl) (by simp) ?_
      refine AllReadyH.cons rfl (fun K hK => ?_) AllReadyH.nil
      obtain ⟨r0, r1, r2⟩ := cells3 (HRB.out _ C6.out.bel)
      have rf := fun i => frozen_of_row _ _ i _ _ (HRB.out _ C6.out.bel)
      go_simp
      refine hK.out _ _ ?_ (fun hHeld => ?_)
      · exact HSK.out _ C6.out.bel _ _ _
      clear hK K
      refine wpAnyH_done (by kernel_rfl) ?_ _
      clear hHeld
      obtain ⟨r0, r1, r2⟩ := cells3 (HRB.out _ C6.out.bel)
      have DN := fun x y z => C6.out.done (x := x) (y := y) (z := z) B0.out (HRB.out _ C6.out.bel) HLN.out HSN.out HON.out
      go_wp2
      refine bodyPost_ret (v := .agg #[.slice a4 ln c4, .slice a5 sn c5, .slice a6 on c6]) (by simp [results, Try.results41, go_sem, r0, r1, r2]) rfl ⟨_, _, _, _, _, _, rfl, (DN _ _ _).1, (DN _ _ _).2⟩
    refine AllReadyH.cons rfl (fun K hK => ?_) AllReadyH.nil
    have C2 : Hid (CI W0 (V1.alloc (.cells #[] 36)) (some (.slice (some ⟨G1, 0, none⟩) 0 0, 0, [])) (none) (some (.slice (some ⟨V1.heap.size, 0, none⟩) 0 0, 0, []))) := C1.out.newC
    (try simp only [Act.put, List.setIfInBounds_toArray])
    go_simp
    refine hK.out _ _ ?_ (fun hHeld => ?_)
    · exact HSS.out _ C2.out.bel
    clear hK K
    obtain ⟨G2, HG2⟩ : ∃ g, Hid (V1.heap.size = g) := ⟨_, rfl⟩
    rw [HG2.out] at C2 ⊢
    generalize (V1.alloc (.cells #[] 36)) = V2 at *
    clear C1 HG2
    refine wpAnyH_ready (rs := [3, 4]) (by kernel_rfl) (by simp) ?_
    refine AllReadyH.cons rfl (fun K hK => ?_) ?_
    · skip
      refine step_append_opt Try.underlying24 infF32 (by rfl) (by decide) rfl (.tmp 3) (.tmp 5) rfl W0.heap.size (.slice (some ⟨G1, 0, none⟩) 0 0) 0 [] rfl (C2.out.a) la ln lc (rowF L) rfl hlf (FL.out _ C2.out.bel) (rowF_one _) (by omega) (by omega) C2.out.bel.size ?_
      intro v3 V3 hown hg hbk hnl
      rw [List.nil_append, Nat.zero_add] at hown
      obtain ⟨a3, c3, rfl⟩ := own_anyV hown
      have C3 : Hid (CI W0 V3 (some (.slice a3 ln c3, ln, rowF L)) (none) (some (.slice (some ⟨G2, 0, none⟩) 0 0, 0, []))) := C2.out.appA hg hown hbk
      clear hown hg hbk hnl C2
      refine hK.out _ _ ?_ (fun hHeld => ?_)
      · exact HSS.out _ C3.out.bel
      clear hK K
      change wpAnyH _ _ _ _ _ _ _ (Act.put _ (some 6) _) _
      simp only [Act.put, List.setIfInBounds_toArray, List.set_cons_zero, List.set_cons_succ]
      refine wpAnyH_ready (rs := [4]) (by kernel_rfl) (by simp) ?_
      refine AllReadyH.cons rfl (fun K hK => ?_) AllReadyH.nil
      have C4 : Hid (CI W0 (V3.alloc (.cells #[] 55)) (some (.slice a3 ln c3, ln, rowF L)) (some (.slice (some ⟨V3.heap.size, 0, none⟩) 0 0, 0, [])) (some (.slice (some ⟨G2, 0, none⟩) 0 0, 0, []))) := C3.out.newB
      (try simp only [Act.put, List.setIfInBounds_toArray])
      go_simp
      refine hK.out _ _ ?_ (fun hHeld => ?_)
      · exact HSS.out _ C4.out.bel
      clear hK K
      obtain ⟨G4, HG4⟩ : ∃ g, Hid (V3.heap.size = g) := ⟨_, rfl⟩
      rw [HG4.out] at C4 ⊢
      generalize (V3.alloc (.cells #[] 55)) = V4 at *
      clear C3 HG4
      refine wpAnyH_ready (rs := [7]) (by kernel_rfl) (by simp) ?_
      refine AllReadyH.cons rfl (fun K hK => ?_) AllReadyH.nil
      refine step_append_opt Try.underlying24 infF32 (by rfl) (by decide) rfl (.tmp 7) (.tmp 9) rfl W0.heap.size (.slice (some ⟨G4, 0, none⟩) 0 0) 0 [] rfl (C4.out.b) sa sn sc (rowF S) rfl hsf (FS.out _ C4.out.bel) (rowF_one _) (by omega) (by omega) C4.out.bel.size ?_
      intro v5 V5 hown hg hbk hnl
      rw [List.nil_append, Nat.zero_add] at hown
      obtain ⟨a5, c5, rfl⟩ := own_anyV hown
      have C5 : Hid (CI W0 V5 (some (.slice a3 ln c3, ln, rowF L)) (some (.slice a5 sn c5, sn, rowF S)) (some (.slice (some ⟨G2, 0, none⟩) 0 0, 0, []))) := C4.out.appB hg hown hbk
      clear hown hg hbk hnl C4
      refine hK.out _ _ ?_ (fun hHeld => ?_)
      · exact HSS.out _ C5.out.bel
      clear hK K
      change wpAnyH _ _ _ _ _ _ _ (Act.put _ (some 10) _) _
      simp only [Act.put, List.setIfInBounds_toArray, List.set_cons_zero, List.set_cons_succ]
      refine wpAnyH_ready (rs := [11]) (by kernel_rfl) (by simp) ?_
      refine AllReadyH.cons rfl (fun K hK => ?_) AllReadyH.nil
      refine step_append_opt Try.underlying25 infO56 (by rfl) (by decide) rfl (.tmp 11) (.tmp 13) rfl W0.heap.size (.slice (some ⟨G2, 0, none⟩) 0 0) 0 [] rfl (C5.out.c) oa on oc (rowO O) rfl hof (FO.out _ C5.out.bel) (rowO_one _) (by omega) (by omega) C5.out.bel.size ?_
      intro v6 V6 hown hg hbk hnl
      rw [List.nil_append, Nat.zero_add] at hown
      obtain ⟨a6, c6, rfl⟩ := own_anyV hown
      have C6 : Hid (CI W0 V6 (some (.slice a3 ln c3, ln, rowF L)) (some (.slice a5 sn c5, sn, rowF S)) (some (.slice a6 on c6, on, rowO O))) := C5.out.appC hg hown
      clear hown hg hbk hnl C5
      refine hK.out _ _ ?_ (fun hHeld => ?_)
      · exact HSS.out _ C6.out.bel
      clear hK K
      change wpAnyH _ _ _ _ _ _ _ (Act.put _ (some 14) _) _
      simp only [Act.put, List.setIfInBounds_toArray, List.set_cons_zero, List.set_cons_succ]
      refine wpAnyH_take (i := 12) (v := ?_) rfl (by kernel_rfl) (by kernel_rfl) (by kernel_rfl) (fun _ _ _ h => h) (Or.inl ⟨by kernel_rfl, ?_⟩) hHeld ?_
      rotate_left 1; focus (intro w hSw; (try dsimp only at hSw); (try go_split_ands); go_simp; all_goals (first | done | with_reducible rfl))
      change wpAnyH _ _ _ _ _ _ _ (Act.put _ (some 15) _) _; simp only [Act.put, List.setIfInBounds_toArray, List.set_cons_zero, List.set_cons_succ]
      refine wpAnyH_ready (rs := [13]) (by kernel_rfl) (by simp) ?_
      refine AllReadyH.cons rfl (fun K hK => ?_) AllReadyH.nil
      obtain ⟨r0, r1, r2⟩ := cells3 (HRB.out _ C6.out.bel)
      have rf := fun i => frozen_of_row _ _ i _ _ (HRB.out _ C6.out.bel)
      go_simp
      refine hK.out _ _ ?_ (fun hHeld => ?_)
      · exact HSK.out _ C6.out.bel _ _ _
      clear hK K
      refine wpAnyH_done (by kernel_rfl) ?_ _
      clear hHeld
      obtain ⟨r0, r1, r2⟩ := cells3 (HRB.out _ C6.out.bel)
      have DN := fun x y z => C6.out.done (x := x) (y := y) (z := z) B0.out (HRB.out _ C6.out.bel) HLN.out HSN.out HON.out
      go_wp2
      refine bodyPost_ret (v := .agg #[.slice a3 ln c3, .slice a5 sn c5, .slice a6 on c6]) (by simp [results, Try.results41, go_sem, r0, r1, r2]) rfl ⟨_, _, _, _, _, _, rfl, (DN _ _ _).1, (DN _ _ _).2⟩
    refine AllReadyH.cons rfl (fun K hK => ?_) AllReadyH.nil
    have C3 : Hid (CI W0 (V2.alloc (.cells #[] 55)) (some (.slice (some ⟨G1, 0, none⟩) 0 0, 0, [])) (some (.slice (some ⟨V2.heap.size, 0, none⟩) 0 0, 0, [])) (some (.slice (some ⟨G2, 0, none⟩) 0 0, 0, []))) := C2.out.newB
    (try simp only [Act.put, List.setIfInBounds_toArray])
    go_simp
    refine hK.out _ _ ?_ (fun hHeld => ?_)
    · exact HSS.out _ C3.out.bel
    clear hK K
    obtain ⟨G3, HG3⟩ : ∃ g, Hid (V2.heap.size = g) := ⟨_, rfl⟩
    rw [HG3.out] at C3 ⊢
    generalize (V2.alloc (.cells #[] 55)) = V3 at *
    clear C2 HG3
    refine wpAnyH_ready (rs := [3]) (by kernel_rfl) (by simp) ?_
    refine AllReadyH.cons rfl (fun K hK => ?_) AllReadyH.nil
    refine step_append_opt Try.underlying24 infF32 (by rfl) (by decide) rfl (.tmp 3) (.tmp 5) rfl W0.heap.size (.slice (some ⟨G1, 0, none⟩) 0 0) 0 [] rfl (C3.out.a) la ln lc (rowF L) rfl hlf (FL.out _ C3.out.bel) (rowF_one _) (by omega) (by omega) C3.out.bel.size ?_
    intro v4 V4 hown hg hbk hnl
    rw [List.nil_append, Nat.zero_add] at hown
    obtain ⟨a4, c4, rfl⟩ := own_anyV hown
    have C4 : Hid (CI W0 V4 (some (.slice a4 ln c4, ln, rowF L)) (some (.slice (some ⟨G3, 0, none⟩) 0 0, 0, [])) (some (.slice (some ⟨G2, 0, none⟩) 0 0, 0, []))) := C3.out.appA hg hown hbk
    clear hown hg hbk hnl C3
    refine hK.out _ _ ?_ (fun hHeld => ?_)
    · exact HSS.out _ C4.out.bel
    clear hK K
    change wpAnyH _ _ _ _ _ _ _ (Act.put _ (some 6) _) _
    simp only [Act.put, List.setIfInBounds_toArray, List.set_cons_zero, List.set_cons_succ]
    refine wpAnyH_ready (rs := [7]) (by kernel_rfl) (by simp) ?_
    refine AllReadyH.cons rfl (fun K hK => ?_) AllReadyH.nil
    refine step_append_opt Try.underlying24 infF32 (by rfl) (by decide) rfl (.tmp 7) (.tmp 9) rfl W0.heap.size (.slice (some ⟨G3, 0, none⟩) 0 0) 0 [] rfl (C4.out.b) sa sn sc (rowF S) rfl hsf (FS.out _ C4.out.bel) (rowF_one _) (by omega) (by omega) C4.out.bel.size ?_
    intro v5 V5 hown hg hbk hnl
    rw [List.nil_append, Nat.zero_add] at hown
    obtain ⟨a5, c5, rfl⟩ := own_anyV hown
    have C5 : Hid (CI W0 V5 (some (.slice a4 ln c4, ln, rowF L)) (some (.slice a5 sn c5, sn, rowF S)) (some (.slice (some ⟨G2, 0, none⟩) 0 0, 0, []))) := C4.out.appB hg hown hbk
    clear hown hg hbk hnl C4
    refine hK.out _ _ ?_ (fun hHeld => ?_)
    · exact HSS.out _ C5.out.bel
    clear hK K
    change wpAnyH _ _ _ _ _ _ _ (Act.put _ (some 10) _) _
    simp only [Act.put, List.setIfInBounds_toArray, List.set_cons_zero, List.set_cons_succ]
    refine wpAnyH_ready (rs := [11]) (by kernel_rfl) (by simp) ?_
    refine AllReadyH.cons rfl (fun K hK => ?_) AllReadyH.nil
    refine step_append_opt Try.underlying25 infO56 (by rfl) (by decide) rfl (.tmp 11) (.tmp 13) rfl W0.heap.size (.slice (some ⟨G2, 0, none⟩) 0 0) 0 [] rfl (C5.out.c) oa on oc (rowO O) rfl hof (FO.out _ C5.out.bel) (rowO_one _) (by omega) (by omega) C5.out.bel.size ?_
    intro v6 V6 hown hg hbk hnl
    rw [List.nil_append, Nat.zero_add] at hown
    obtain ⟨a6, c6, rfl⟩ := own_anyV hown
    have C6 : Hid (CI W0 V6 (some (.slice a4 ln c4, ln, rowF L)) (some (.slice a5 sn c5, sn, rowF S)) (some (.slice a6 on c6, on, rowO O))) := C5.out.appC hg hown
    clear hown hg hbk hnl C5
    refine hK.out _ _ ?_ (fun hHeld => ?_)
    · exact HSS.out _ C6.out.bel
    clear hK K
    change wpAnyH _ _ _ _ _ _ _ (Act.put _ (some 14) _) _
    simp only [Act.put, List.setIfInBounds_toArray, List.set_cons_zero, List.set_cons_succ]
    refine wpAnyH_take (i := 12) (v := ?_) rfl (by kernel_rfl) (by kernel_rfl) (by kernel_rfl) (fun _ _ _ h => h) (Or.inl ⟨by kernel_rfl, ?_⟩) hHeld ?_
    rotate_left 1; focus (intro w hSw; (try dsimp only at hSw); (try go_split_ands); go_simp; all_goals (first | done | with_reducible rfl))
    change wpAnyH _ _ _ _ _ _ _ (Act.put _ (some 15) _) _; simp only [Act.put, List.setIfInBounds_toArray, List.set_cons_zero, List.set_cons_succ]
    refine wpAnyH_ready (rs := [13]) (by kernel_rfl) (by simp) ?_
    refine AllReadyH.cons rfl (fun K hK => ?_) AllReadyH.nil
    obtain ⟨r0, r1, r2⟩ := cells3 (HRB.out _ C6.out.bel)
    have rf := fun i => frozen_of_row _ _ i _ _ (HRB.out _ C6.out.bel)
    go_simp
    refine hK.out _ _ ?_ (fun hHeld => ?_)
    · exact HSK.out _ C6.out.bel _ _ _
    clear hK K
    refine wpAnyH_done (by kernel_rfl) ?_ _
    clear hHeld
    obtain ⟨r0, r1, r2⟩ := cells3 (HRB.out _ C6.out.bel)
    have DN := fun x y z => C6.out.done (x := x) (y := y) (z := z) B0.out (HRB.out _ C6.out.bel) HLN.out HSN.out HON.out
    go_wp2
    refine bodyPost_ret (v := .agg #[.slice a4 ln c4, .slice a5 sn c5, .slice a6 on c6]) (by simp [results, Try.results41, go_sem, r0, r1, r2]) rfl ⟨_, _, _, _, _, _, rfl, (DN _ _ _).1, (DN _ _ _).2⟩
  refine AllReadyH.cons rfl (fun K hK => ?_) ?_
  · skip
    have C1 : Hid (CI W0 (WD.alloc (.cells #[] 55)) (none) (some (.slice (some ⟨WD.heap.size, 0, none⟩) 0 0, 0, [])) (none)) := CS.out.newB
    (try simp only [Act.put, List.setIfInBounds_toArray])
    go_simp
    refine hK.out _ _ ?_ (fun hHeld => ?_)
    · exact HSS.out _ C1.out.bel
    clear hK K
    obtain ⟨G1, HG1⟩ : ∃ g, Hid (WD.heap.size = g) := ⟨_, rfl⟩
    rw [HG1.out] at C1 ⊢
    generalize (WD.alloc (.cells #[] 55)) = V1 at *
    clear CS HG1
    refine wpAnyH_ready (rs := [0, 8]) (by kernel_rfl) (by simp) ?_
    refine AllReadyH.cons rfl (fun K hK => ?_) ?_
    · skip
      have C2 : Hid (CI W0 (V1.alloc (.cells #[] 55)) (some (.slice (some ⟨V1.heap.size, 0, none⟩) 0 0, 0, [])) (some (.slice (some ⟨G1, 0, none⟩) 0 0, 0, [])) (none)) := C1.out.newA
      (try simp only [Act.put, List.setIfInBounds_toArray])
      go_simp
      refine hK.out _ _ ?_ (fun hHeld => ?_)
      · exact HSS.out _ C2.out.bel
      clear hK K
      obtain ⟨G2, HG2⟩ : ∃ g, Hid (V1.heap.size = g) := ⟨_, rfl⟩
      rw [HG2.out] at C2 ⊢
      generalize (V1.alloc (.cells #[] 55)) = V2 at *
      clear C1 HG2
      refine wpAnyH_ready (rs := [3, 8]) (by kernel_rfl) (by simp) ?_
      refine AllReadyH.cons rfl (fun K hK => ?_) ?_
      · skip
        refine step_append_opt Try.underlying24 infF32 (by rfl) (by decide) rfl (.tmp 3) (.tmp 5) rfl W0.heap.size (.slice (some ⟨G2, 0, none⟩) 0 0) 0 [] rfl (C2.out.a) la ln lc (rowF L) rfl hlf (FL.out _ C2.out.bel) (rowF_one _) (by omega) (by omega) C2.out.bel.size ?_
        intro v3 V3 hown hg hbk hnl
        rw [List.nil_append, Nat.zero_add] at hown
        obtain ⟨a3, c3, rfl⟩ := own_anyV hown
        have C3 : Hid (CI W0 V3 (some (.slice a3 ln c3, ln, rowF L)) (some (.slice (some ⟨G1, 0, none⟩) 0 0, 0, [])) (none)) := C2.out.appA hg hown hbk
        clear hown hg hbk hnl C2
        refine hK.out _ _ ?_ (fun hHeld => ?_)
        · exact HSS.out _ C3.out.bel
        clear hK K
        change wpAnyH _ _ _ _ _ _ _ (Act.put _ (some 6) _) _
        simp only [Act.put, List.setIfInBounds_toArray, List.set_cons_zero, List.set_cons_succ]
        refine wpAnyH_ready (rs := [7, 8]) (by kernel_rfl) (by simp) ?_
        refine AllReadyH.cons rfl (fun K hK => ?_) ?_
        · skip
          refine step_append_opt Try.underlying24 infF32 (by rfl) (by decide) rfl (.tmp 7) (.tmp 9) rfl W0.heap.size (.slice (some ⟨G1, 0, none⟩) 0 0) 0 [] rfl (C3.out.b) sa sn sc (rowF S) rfl hsf (FS.out _ C3.out.bel) (rowF_one _) (by omega) (by omega) C3.out.bel.size ?_
          intro v4 V4 hown hg hbk hnl
          rw [List.nil_append, Nat.zero_add] at hown
          obtain ⟨a4, c4, rfl⟩ := own_anyV hown
          have C4 : Hid (CI W0 V4 (some (.slice a3 ln c3, ln, rowF L)) (some (.slice a4 sn c4, sn, rowF S)) (none)) := C3.out.appB hg hown hbk
          clear hown hg hbk hnl C3
          refine hK.out _ _ ?_ (fun hHeld => ?_)
          · exact HSS.out _ C4.out.bel
          clear hK K
          change wpAnyH _ _ _ _ _ _ _ (Act.put _ (some 10) _) _
          simp only [Act.put, List.setIfInBounds_toArray, List.set_cons_zero, List.set_cons_succ]
          refine wpAnyH_ready (rs := [8]) (by kernel_rfl) (by simp) ?_
          refine AllReadyH.cons rfl (fun K hK => ?_) AllReadyH.nil
          have C5 : Hid (CI W0 (V4.alloc (.cells #[] 36)) (some (.slice a3 ln c3, ln, rowF L)) (some (.slice a4 sn c4, sn, rowF S)) (some (.slice (some ⟨V4.heap.size, 0, none⟩) 0 0, 0, []))) := C4.out.newC
          (try simp only [Act.put, List.setIfInBounds_toArray])
          go_simp
          refine hK.out _ _ ?_ (fun hHeld => ?_)
          · exact HSS.out _ C5.out.bel
          clear hK K
          obtain ⟨G5, HG5⟩ : ∃ g, Hid (V4.heap.size = g) := ⟨_, rfl⟩
          rw [HG5.out] at C5 ⊢
          generalize (V4.alloc (.cells #[] 36)) = V5 at *
          clear C4 HG5
          refine wpAnyH_ready (rs := [11]) (by kernel_rfl) (by simp) ?_
          refine AllReadyH.cons rfl (fun K hK => ?_) AllReadyH.nil
          refine step_append_opt Try.underlying25 infO56 (by rfl) (by decide) rfl (.tmp 11) (.tmp 13) rfl W0.heap.size (.slice (some ⟨G5, 0, none⟩) 0 0) 0 [] rfl (C5.out.c) oa on oc (rowO O) rfl hof (FO.out _ C5.out.bel) (rowO_one _) (by omega) (by omega) C5.out.bel.size ?_
          intro v6 V6 hown hg hbk hnl
          rw [List.nil_append, Nat.zero_add] at hown
          obtain ⟨a6, c6, rfl⟩ := own_anyV hown
          have C6 : Hid (CI W0 V6 (some (.slice a3 ln c3, ln, rowF L)) (some (.slice a4 sn c4, sn, rowF S)) (some (.slice a6 on c6, on, rowO O))) := C5.out.appC hg hown
          clear hown hg hbk hnl C5
          refine hK.out _ _ ?_ (fun hHeld => ?_)
          · exact HSS.out _ C6.out.bel
          clear hK K
          change wpAnyH _ _ _ _ _ _ _ (Act.put _ (some 14) _) _
          simp only [Act.put, List.setIfInBounds_toArray, List.set_cons_zero, List.set_cons_succ]
          refine wpAnyH_take (i := 12) (v := ?_) rfl (by kernel_rfl) (by kernel_rfl) (by kernel_rfl) (fun _ _ _ h => h) (Or.inl ⟨by kernel_rfl, ?_⟩) hHeld ?_
          rotate_left 1; focus (intro w hSw; (try dsimp only at hSw); (try go_split_ands); go_simp; all_goals (first | done | with_reducible rfl))
          change wpAnyH _ _ _ _ _ _ _ (Act.put _ (some 15) _) _; simp only [Act.put, List.setIfInBounds_toArray, List.set_cons_zero, List.set_cons_succ]
          refine wpAnyH_ready (rs := [13]) (by kernel_rfl) (by simp) ?_
          refine AllReadyH.cons rfl (fun K hK => ?_) AllReadyH.nil
          obtain ⟨r0, r1, r2⟩ := cells3 (HRB.out _ C6.out.bel)
          have rf := fun i => frozen_of_row _ _ i _ _ (HRB.out _ C6.out.bel)
          go_simp
          refine hK.out _ _ ?_ (fun hHeld => ?_)
          · exact HSK.out _ C6.out.bel _ _ _
          clear hK K
          refine wpAnyH_done (by kernel_rfl) ?_ _
          clear hHeld
          obtain ⟨r0, r1, r2⟩ := cells3 (HRB.out _ C6.out.bel)
          have DN := fun x y z => C6.out.done (x := x) (y := y) (z := z) B0.out (HRB.out _ C6.out.bel) HLN.out HSN.out HON.out
          go_wp2
          refine bodyPost_ret (v := .agg #[.slice a3 ln c3, .slice a4 sn c4, .slice a6 on c6]) (by simp [results, Try.results41, go_sem, r0, r1, r2]) rfl ⟨_, _, _, _, _, _, rfl, (DN _ _ _).1, (DN _ _ _).2⟩
        refine AllReadyH.cons rfl (fun K hK => ?_) AllReadyH.nil
        have C4 : Hid (CI W0 (V3.alloc (.cells #[] 36)) (some (.slice a3 ln c3, ln, rowF L)) (some (.slice (some ⟨G1, 0, none⟩) 0 0, 0, [])) (some (.slice (some ⟨V3.heap.size, 0, none⟩) 0 0, 0, []))) := C3.out.newC
        (try simp only [Act.put, List.setIfInBounds_toArray])
        go_simp
        refine hK.out _ _ ?_ (fun hHeld => ?_)
        · exact HSS.out _ C4.out.bel
        clear hK K
        obtain ⟨G4, HG4⟩ : ∃ g, Hid (V3.heap.size = g) := ⟨_, rfl⟩
        rw [HG4.out] at C4 ⊢
        generalize (V3.alloc (.cells #[] 36)) = V4 at *
        clear C3 HG4
        refine wpAnyH_ready (rs := [7]) (by kernel_rfl) (by simp) ?_
        refine AllReadyH.cons rfl (fun K hK => ?_) AllReadyH.nil
        refine step_append_opt Try.underlying24 infF32 (by rfl) (by decide) rfl (.tmp 7) (.tmp 9) rfl W0.heap.size (.slice (some ⟨G1, 0, none⟩) 0 0) 0 [] rfl (C4.out.b) sa sn sc (rowF S) rfl hsf (FS.out _ C4.out.bel) (rowF_one _) (by omega) (by omega) C4.out.bel.size ?_
        intro v5 V5 hown hg hbk hnl
        rw [List.nil_append, Nat.zero_add] at hown
        obtain ⟨a5, c5, rfl⟩ := own_anyV hown
        have C5 : Hid (CI W0 V5 (some (.slice a3 ln c3, ln, rowF L)) (some (.slice a5 sn c5, sn, rowF S)) (some (.slice (some ⟨G4, 0, none⟩) 0 0, 0, []))) := C4.out.appB hg hown hbk
        clear hown hg hbk hnl C4
        refine hK.out _ _ ?_ (fun hHeld => ?_)
        · exact HSS.out _ C5.out.bel
        clear hK K
        change wpAnyH _ _ _ _ _ _ _ (Act.put _ (some 10) _) _
        simp only [Act.put, List.setIfInBounds_toArray, List.set_cons_zero, List.set_cons_succ]
        refine wpAnyH_ready (rs := [11]) (by kernel_rfl) (by simp) ?_
        refine AllReadyH.cons rfl (fun K hK => ?_) AllReadyH.nil
        refine step_append_opt Try.underlying25 infO56 (by rfl) (by decide) rfl (.tmp 11) (.tmp 13) rfl W0.heap.size (.slice (some ⟨G4, 0, none⟩) 0 0) 0 [] rfl (C5.out.c) oa on oc (rowO O) rfl hof (FO.out _ C5.out.bel) (rowO_one _) (by omega) (by omega) C5.out.bel.size ?_
        intro v6 V6 hown hg hbk hnl
        rw [List.nil_append, Nat.zero_add] at hown
        obtain ⟨a6, c6, rfl⟩ := own_anyV hown
        have C6 : Hid (CI W0 V6 (some (.slice a3 ln c3, ln, rowF L)) (some (.slice a5 sn c5, sn, rowF S)) (some (.slice a6 on c6, on, rowO O))) := C5.out.appC hg hown
        clear hown hg hbk hnl C5
        refine hK.out _ _ ?_ (fun hHeld => ?_)
        · exact HSS.out _ C6.out.bel
        clear hK K
        change wpAnyH _ _ _ _ _ _ _ (Act.put _ (some 14) _) _
        simp only [Act.put, List.setIfInBounds_toArray, List.set_cons_zero, List.set_cons_succ]
        refine wpAnyH_take (i := 12) (v := ?_) rfl (by kernel_rfl) (by kernel_rfl) (by kernel_rfl) (fun _ _ _ h => h) (Or.inl ⟨by kernel_rfl, ?_⟩) hHeld ?_
        rotate_left 1; focus (intro w hSw; (try dsimp only at hSw); (try go_split_ands); go_simp; all_goals (first | done | with_reducible rfl))
        change wpAnyH _ _ _ _ _ _ _ (Act.put _ (some 15) _) _; simp only [Act.put, List.setIfInBounds_toArray, List.set_cons_zero, List.set_cons_succ]
        refine wpAnyH_ready (rs := [13]) (by kernel_rfl) (by simp) ?_
        refine AllReadyH.cons rfl (fun K hK => ?_) AllReadyH.nil
        obtain ⟨r0, r1, r2⟩ := cells3 (HRB.out _ C6.out.bel)
        have rf := fun i => frozen_of_row _ _ i _ _ (HRB.out _ C6.out.bel)
        go_simp
        refine hK.out _ _ ?_ (fun hHeld => ?_)
        · exact HSK.out _ C6.out.bel _ _ _
        clear hK K
        refine wpAnyH_done (by kernel_rfl) ?_ _
        clear hHeld
        obtain ⟨r0, r1, r2⟩ := cells3 (HRB.out _ C6.out.bel)
        have DN := fun x y z => C6.out.done (x := x) (y := y) (z := z) B0.out (HRB.out _ C6.out.bel) HLN.out HSN.out HON.out
        go_wp2
        refine bodyPost_ret (v := .agg #[.slice a3 ln c3, .slice a5 sn c5, .slice a6 on c6]) (by simp [results, Try.results41, go_sem, r0, r1, r2]) rfl ⟨_, _, _, _, _, _, rfl, (DN _ _ _).1, (DN _ _ _).2⟩
      refine AllReadyH.cons rfl (fun K hK => ?_) AllReadyH.nil
      have C3 : Hid (CI W0 (V2.alloc (.cells #[] 36)) (some (.slice (some ⟨G2, 0, none⟩) 0 0, 0, [])) (some (.slice (some ⟨G1, 0, none⟩) 0 0, 0, [])) (some (.slice (some ⟨V2.heap.size, 0, none⟩) 0 0, 0, []))) := C2.out.newC
      (try simp only [Act.put, List.setIfInBounds_toArray])
      go_simp
      refine hK.out _ _ ?_ (fun hHeld => ?_)
      · exact HSS.out _ C3.out.bel
      clear hK K
      obtain ⟨G3, HG3⟩ : ∃ g, Hid (V2.heap.size = g) := ⟨_, rfl⟩
      rw [HG3.out] at C3 ⊢
      generalize (V2.alloc (.cells #[] 36)) = V3 at *
      clear C2 HG3
      refine wpAnyH_ready (rs := [3]) (by kernel_rfl) (by simp) ?_
      refine AllReadyH.cons rfl (fun K hK => ?_) AllReadyH.nil
      refine step_append_opt Try.underlying24 infF32 (by rfl) (by decide) rfl (.tmp 3) (.tmp 5) rfl W0.heap.size (.slice (some ⟨G2, 0, none⟩) 0 0) 0 [] rfl (C3.out.a) la ln lc (rowF L) rfl hlf (FL.out _ C3.out.bel) (rowF_one _) (by omega) (by omega) C3.out.bel.size ?_
      intro v4 V4 hown hg hbk hnl
      rw [List.nil_append, Nat.zero_add] at hown
      obtain ⟨a4, c4, rfl⟩ := own_anyV hown
      have C4 : Hid (CI W0 V4 (some (.slice a4 ln c4, ln, rowF L)) (some (.slice (some ⟨G1, 0, none⟩) 0 0, 0, [])) (some (.slice (some ⟨G3, 0, none⟩) 0 0, 0, []))) := C3.out.appA hg hown hbk
      clear hown hg hbk hnl C3
      refine hK.out _ _ ?_ (fun hHeld => ?_)
      · exact HSS.out _ C4.out.bel
      clear hK K
      change wpAnyH _ _ _ _ _ _ _ (Act.put _ (some 6) _) _
      simp only [Act.put, List.setIfInBounds_toArray, List.set_cons_zero, List.set_cons_succ]
      refine wpAnyH_ready (rs := [7]) (by kernel_rfl) (by simp) ?_
      refine AllReadyH.cons rfl (fun K hK => ?_) AllReadyH.nil
      refine step_append_opt Try.underlying24 infF32 (by rfl) (by decide) rfl (.tmp 7) (.tmp 9) rfl W0.heap.size (.slice (some ⟨G1, 0, none⟩) 0 0) 0 [] rfl (C4.out.b) sa sn sc (rowF S) rfl hsf (FS.out _ C4.out.bel) (rowF_one _) (by omega) (by omega) C4.out.bel.size ?_
      intro v5 V5 hown hg hbk hnl
      rw [List.nil_append, Nat.zero_add] at hown
      obtain ⟨a5, c5, rfl⟩ := own_anyV hown
      have C5 : Hid (CI W0 V5 (some (.slice a4 ln c4, ln, rowF L)) (some (.slice a5 sn c5, sn, rowF S)) (some (.slice (some ⟨G3, 0, none⟩) 0 0, 0, []))) := C4.out.appB hg hown hbk
      clear hown hg hbk hnl C4
      refine hK.out _ _ ?_ (fun hHeld => ?_)
      · exact HSS.out _ C5.out.bel
      clear hK K
      change wpAnyH _ _ _ _ _ _ _ (Act.put _ (some 10) _) _
      simp only [Act.put, List.setIfInBounds_toArray, List.set_cons_zero, List.set_cons_succ]
      refine wpAnyH_ready (rs := [11]) (by kernel_rfl) (by simp) ?_
      refine AllReadyH.cons rfl (fun K hK => ?_) AllReadyH.nil
      refine step_append_opt Try.underlying25 infO56 (by rfl) (by decide) rfl (.tmp 11) (.tmp 13) rfl W0.heap.size (.slice (some ⟨G3, 0, none⟩) 0 0) 0 [] rfl (C5.out.c) oa on oc (rowO O) rfl hof (FO.out _ C5.out.bel) (rowO_one _) (by omega) (by omega) C5.out.bel.size ?_
      intro v6 V6 hown hg hbk hnl
      rw [List.nil_append, Nat.zero_add] at hown
      obtain ⟨a6, c6, rfl⟩ := own_anyV hown
      have C6 : Hid (CI W0 V6 (some (.slice a4 ln c4, ln, rowF L)) (some (.slice a5 sn c5, sn, rowF S)) (some (.slice a6 on c6, on, rowO O))) := C5.out.appC hg hown
      clear hown hg hbk hnl C5
      refine hK.out _ _ ?_ (fun hHeld => ?_)
      · exact HSS.out _ C6.out.bel
      clear hK K
      change wpAnyH _ _ _ _ _ _ _ (Act.put _ (some 14) _) _
      simp only [Act.put, List.setIfInBounds_toArray, List.set_cons_zero, List.set_cons_succ]
      refine wpAnyH_take (i := 12) (v := ?_) rfl (by kernel_rfl) (by kernel_rfl) (by kernel_rfl) (fun _ _ _ h => h) (Or.inl ⟨by kernel_rfl, ?_⟩) hHeld ?_
      rotate_left 1; focus (intro w hSw; (try dsimp only at hSw); (try go_split_ands); go_simp; all_goals (first | done | with_reducible rfl))
      change wpAnyH _ _ _ _ _ _ _ (Act.put _ (some 15) _) _; simp only [Act.put, List.setIfInBounds_toArray, List.set_cons_zero, List.set_cons_succ]
      refine wpAnyH_ready (rs := [13]) (by kernel_rfl) (by simp) ?_
      refine AllReadyH.cons rfl (fun K hK => ?_) AllReadyH.nil
      obtain ⟨r0, r1, r2⟩ := cells3 (HRB.out _ C6.out.bel)
      have rf := fun i => frozen_of_row _ _ i _ _ (HRB.out _ C6.out.bel)
      go_simp
      refine hK.out _ _ ?_ (fun hHeld => ?_)
      · exact HSK.out _ C6.out.bel _ _ _
      clear hK K
      refine wpAnyH_done (by kernel_rfl) ?_ _
      clear hHeld
      obtain ⟨r0, r1, r2⟩ := cells3 (HRB.out _ C6.out.bel)
      have DN := fun x y z => C6.out.done (x := x) (y := y) (z := z) B0.out (HRB.out _ C6.out.bel) HLN.out HSN.out HON.out
      go_wp2
      refine bodyPost_ret (v := .agg #[.slice a4 ln c4, .slice a5 sn c5, .slice a6 on c6]) (by simp [results, Try.results41, go_sem, r0, r1, r2]) rfl ⟨_, _, _, _, _, _, rfl, (DN _ _ _).1, (DN _ _ _).2⟩
    refine AllReadyH.cons rfl (fun K hK => ?_) AllReadyH.nil
    have C2 : Hid (CI W0 (V1.alloc (.cells #[] 36)) (none) (some (.slice (some ⟨G1, 0, none⟩) 0 0, 0, [])) (some (.slice (some ⟨V1.heap.size, 0, none⟩) 0 0, 0, []))) := C1.out.newC
    (try simp only [Act.put, List.setIfInBounds_toArray])
    go_simp
    refine hK.out _ _ ?_ (fun hHeld => ?_)
    · exact HSS.out _ C2.out.bel
    clear hK K
    obtain ⟨G2, HG2⟩ : ∃ g, Hid (V1.heap.size = g) := ⟨_, rfl⟩
    rw [HG2.out] at C2 ⊢
    generalize (V1.alloc (.cells #[] 36)) = V2 at *
    clear C1 HG2
    refine wpAnyH_ready (rs := [0]) (by kernel_rfl) (by simp) ?_
    refine AllReadyH.cons rfl (fun K hK => ?_) AllReadyH.nil
    have C3 : Hid (CI W0 (V2.alloc (.cells #[] 55)) (some (.slice (some ⟨V2.heap.size, 0, none⟩) 0 0, 0, [])) (some (.slice (some ⟨G1, 0, none⟩) 0 0, 0, [])) (some (.slice (some ⟨G2, 0, none⟩) 0 0, 0, []))) := C2.out.newA
    (try simp only [Act.put, List.setIfInBounds_toArray])
    go_simp
    refine hK.out _ _ ?_ (fun hHeld => ?_)
    · exact HSS.out _ C3.out.bel
    clear hK K
    obtain ⟨G3, HG3⟩ : ∃ g, Hid (V2.heap.size = g) := ⟨_, rfl⟩
    rw [HG3.out] at C3 ⊢
    generalize (V2.alloc (.cells #[] 55)) = V3 at *
    clear C2 HG3
    refine wpAnyH_ready (rs := [3]) (by kernel_rfl) (by simp) ?_
    refine AllReadyH.cons rfl (fun K hK => ?_) AllReadyH.nil
    refine step_append_opt Try.underlying24 infF32 (by rfl) (by decide) rfl (.tmp 3) (.tmp 5) rfl W0.heap.size (.slice (some ⟨G3, 0, none⟩) 0 0) 0 [] rfl (C3.out.a) la ln lc (rowF L) rfl hlf (FL.out _ C3.out.bel) (rowF_one _) (by omega) (by omega) C3.out.bel.size ?_
    intro v4 V4 hown hg hbk hnl
    rw [List.nil_append, Nat.zero_add] at hown
    obtain ⟨a4, c4, rfl⟩ := own_anyV hown
    have C4 : Hid (CI W0 V4 (some (.slice a4 ln c4, ln, rowF L)) (some (.slice (some ⟨G1, 0, none⟩) 0 0, 0, [])) (some (.slice (some ⟨G2, 0, none⟩) 0 0, 0, []))) := C3.out.appA hg hown hbk
    clear hown hg hbk hnl C3
    refine hK.out _ _ ?_ (fun hHeld => ?_)
    · exact HSS.out _ C4.out.bel
    clear hK K
    change wpAnyH _ _ _ _ _ _ _ (Act.put _ (some 6) _) _
    simp only [Act.put, List.setIfInBounds_toArray, List.set_cons_zero, List.set_cons_succ]
    refine wpAnyH_ready (rs := [7]) (by kernel_rfl) (by simp) ?_
    refine AllReadyH.cons rfl (fun K hK => ?_) AllReadyH.nil
    refine step_append_opt Try.underlying24 infF32 (by rfl) (by decide) rfl (.tmp 7) (.tmp 9) rfl W0.heap.size (.slice (some ⟨G1, 0, none⟩) 0 0) 0 [] rfl (C4.out.b) sa sn sc (rowF S) rfl hsf (FS.out _ C4.out.bel) (rowF_one _) (by omega) (by omega) C4.out.bel.size ?_
    intro v5 V5 hown hg hbk hnl
    rw [List.nil_append, Nat.zero_add] at hown
    obtain ⟨a5, c5, rfl⟩ := own_anyV hown
    have C5 : Hid (CI W0 V5 (some (.slice a4 ln c4, ln, rowF L)) (some (.slice a5 sn c5, sn, rowF S)) (some (.slice (some ⟨G2, 0, none⟩) 0 0, 0, []))) := C4.out.appB hg hown hbk
    clear hown hg hbk hnl C4
    refine hK.out _ _ ?_ (fun hHeld => ?_)
    · exact HSS.out _ C5.out.bel
    clear hK K
    change wpAnyH _ _ _ _ _ _ _ (Act.put _ (some 10) _) _
    simp only [Act.put, List.setIfInBounds_toArray, List.set_cons_zero, List.set_cons_succ]
    refine wpAnyH_ready (rs := [11]) (by kernel_rfl) (by simp) ?_
    refine AllReadyH.cons rfl (fun K hK => ?_) AllReadyH.nil
    refine step_append_opt Try.underlying25 infO56 (by rfl) (by decide) rfl (.tmp 11) (.tmp 13) rfl W0.heap.size (.slice (some ⟨G2, 0, none⟩) 0 0) 0 [] rfl (C5.out.c) oa on oc (rowO O) rfl hof (FO.out _ C5.out.bel) (rowO_one _) (by omega) (by omega) C5.out.bel.size ?_
    intro v6 V6 hown hg hbk hnl
    rw [List.nil_append, Nat.zero_add] at hown
    obtain ⟨a6, c6, rfl⟩ := own_anyV hown
    have C6 : Hid (CI W0 V6 (some (.slice a4 ln c4, ln, rowF L)) (some (.slice a5 sn c5, sn, rowF S)) (some (.slice a6 on c6, on, rowO O))) := C5.out.appC hg hown
    clear hown hg hbk hnl C5
    refine hK.out _ _ ?_ (fun hHeld => ?_)
    · exact HSS.out _ C6.out.bel
    clear hK K
    change wpAnyH _ _ _ _ _ _ _ (Act.put _ (some 14) _) _
    simp only [Act.put, List.setIfInBounds_toArray, List.set_cons_zero, List.set_cons_succ]
    refine wpAnyH_take (i := 12) (v := ?_) rfl (by kernel_rfl) (by kernel_rfl) (by kernel_rfl) (fun _ _ _ h => h) (Or.inl ⟨by kernel_rfl, ?_⟩) hHeld ?_
    rotate_left 1; focus (intro w hSw; (try dsimp only at hSw); (try go_split_ands); go_simp; all_goals (first | done | with_reducible rfl))
    change wpAnyH _ _ _ _ _ _ _ (Act.put _ (some 15) _) _; simp only [Act.put, List.setIfInBounds_toArray, List.set_cons_zero, List.set_cons_succ]
    refine wpAnyH_ready (rs := [13]) (by kernel_rfl) (by simp) ?_
    refine AllReadyH.cons rfl (fun K hK => ?_) AllReadyH.nil
    obtain ⟨r0, r1, r2⟩ := cells3 (HRB.out _ C6.out.bel)
    have rf := fun i => frozen_of_row _ _ i _ _ (HRB.out _ C6.out.bel)
    go_simp
    refine hK.out _ _ ?_ (fun hHeld => ?_)
    · exact HSK.out _ C6.out.bel _ _ _
    clear hK K
    refine wpAnyH_done (by kernel_rfl) ?_ _
    clear hHeld
    obtain ⟨r0, r1, r2⟩ := cells3 (HRB.out _ C6.out.bel)
    have DN := fun x y z => C6.out.done (x := x) (y := y) (z := z) B0.out (HRB.out _ C6.out.bel) HLN.out HSN.out HON.out
    go_wp2
    refine bodyPost_ret (v := .agg #[.slice a4 ln c4, .slice a5 sn c5, .slice a6 on c6]) (by simp [results, Try.results41, go_sem, r0, r1, r2]) rfl ⟨_, _, _, _, _, _, rfl, (DN _ _ _).1, (DN _ _ _).2⟩
  refine AllReadyH.cons rfl (fun K hK => ?_) AllReadyH.nil
  have C1 : Hid (CI W0 (WD.alloc (.cells #[] 36)) (none) (none) (some (.slice (some ⟨WD.heap.size, 0, none⟩) 0 0, 0, []))) := CS.out.newC
  (try simp only [Act.put, List.setIfInBounds_toArray])
  go_simp
  refine hK.out _ _ ?_ (fun hHeld => ?_)
  · exact HSS.out _ C1.out.bel
  clear hK K
  obtain ⟨G1, HG1⟩ : ∃ g, Hid (WD.heap.size = g) := ⟨_, rfl⟩
  rw [HG1.out] at C1 ⊢
  generalize (WD.alloc (.cells #[] 36)) = V1 at *
  clear CS HG1
  refine wpAnyH_ready (rs := [0, 4]) (by kernel_rfl) (by simp) ?_
  refine AllReadyH.cons rfl (fun K hK => ?_) ?_
  · skip
    have C2 : Hid (CI W0 (V1.alloc (.cells #[] 55)) (some (.slice (some ⟨V1.heap.size, 0, none⟩) 0 0, 0, [])) (none) (some (.slice (some ⟨G1, 0, none⟩) 0 0, 0, []))) := C1.out.newA
    (try simp only [Act.put, List.setIfInBounds_toArray])
    go_simp
    refine hK.out _ _ ?_ (fun hHeld => ?_)
    · exact HSS.out _ C2.out.bel
    clear hK K
    obtain ⟨G2, HG2⟩ : ∃ g, Hid (V1.heap.size = g) := ⟨_, rfl⟩
    rw [HG2.out] at C2 ⊢
    generalize (V1.alloc (.cells #[] 55)) = V2 at *
    clear C1 HG2
    refine wpAnyH_ready (rs := [3, 4]) (by kernel_rfl) (by simp) ?_
    refine AllReadyH.cons rfl (fun K hK => ?_) ?_
    · skip
      refine step_append_opt Try.underlying24 infF32 (by rfl) (by decide) rfl (.tmp 3) (.tmp 5) rfl W0.heap.size (.slice (some ⟨G2, 0, none⟩) 0 0) 0 [] rfl (C2.out.a) la ln lc (rowF L) rfl hlf (FL.out _ C2.out.bel) (rowF_one _) (by omega) (by omega) C2.out.bel.size ?_
      intro v3 V3 hown hg hbk hnl
      rw [List.nil_append, Nat.zero_add] at hown
      obtain ⟨a3, c3, rfl⟩ := own_anyV hown
      have C3 : Hid (CI W0 V3 (some (.slice a3 ln c3, ln, rowF L)) (none) (some (.slice (some ⟨G1, 0, none⟩) 0 0, 0, []))) := C2.out.appA hg hown hbk
      clear hown hg hbk hnl C2
      refine hK.out _ _ ?_ (fun hHeld => ?_)
      · exact HSS.out _ C3.out.bel
      clear hK K
      change wpAnyH _ _ _ _ _ _ _ (Act.put _ (some 6) _) _
      simp only [Act.put, List.setIfInBounds_toArray, List.set_cons_zero, List.set_cons_succ]
      refine wpAnyH_ready (rs := [4]) (by kernel_rfl) (by simp) ?_
      refine AllReadyH.cons rfl (fun K hK => ?_) AllReadyH.nil
      have C4 : Hid (CI W0 (V3.alloc (.cells #[] 55)) (some (.slice a3 ln c3, ln, rowF L)) (some (.slice (some ⟨V3.heap.size, 0, none⟩) 0 0, 0, [])) (some (.slice (some ⟨G1, 0, none⟩) 0 0, 0, []))) := C3.out.newB
      (try simp only [Act.put, List.setIfInBounds_toArray])
      go_simp
      refine hK.out _ _ ?_ (fun hHeld => ?_)
      · exact HSS.out _ C4.out.bel
      clear hK K
      obtain ⟨G4, HG4⟩ : ∃ g, Hid (V3.heap.size = g) := ⟨_, rfl⟩
      rw [HG4.out] at C4 ⊢
      generalize (V3.alloc (.cells #[] 55)) = V4 at *
      clear C3 HG4
      refine wpAnyH_ready (rs := [7]) (by kernel_rfl) (by simp) ?_
      refine AllReadyH.cons rfl (fun K hK => ?_) AllReadyH.nil
      refine step_append_opt Try.underlying24 infF32 (by rfl) (by decide) rfl (.tmp 7) (.tmp 9) rfl W0.heap.size (.slice (some ⟨G4, 0, none⟩) 0 0) 0 [] rfl (C4.out.b) sa sn sc (rowF S) rfl hsf (FS.out _ C4.out.bel) (rowF_one _) (by omega) (by omega) C4.out.bel.size ?_
      intro v5 V5 hown hg hbk hnl
      rw [List.nil_append, Nat.zero_add] at hown
      obtain ⟨a5, c5, rfl⟩ := own_anyV hown
      have C5 : Hid (CI W0 V5 (some (.slice a3 ln c3, ln, rowF L)) (some (.slice a5 sn c5, sn, rowF S)) (some (.slice (some ⟨G1, 0, none⟩) 0 0, 0, []))) := C4.out.appB hg hown hbk
      clear hown hg hbk hnl C4
      refine hK.out _ _ ?_ (fun hHeld => ?_)
      · exact HSS.out _ C5.out.bel
      clear hK K
      change wpAnyH _ _ _ _ _ _ _ (Act.put _ (some 10) _) _
      simp only [Act.put, List.setIfInBounds_toArray, List.set_cons_zero, List.set_cons_succ]
      refine wpAnyH_ready (rs := [11]) (by kernel_rfl) (by simp) ?_
      refine AllReadyH.cons rfl (fun K hK => ?_) AllReadyH.nil
      refine step_append_opt Try.underlying25 infO56 (by rfl) (by decide) rfl (.tmp 11) (.tmp 13) rfl W0.heap.size (.slice (some ⟨G1, 0, none⟩) 0 0) 0 [] rfl (C5.out.c) oa on oc (rowO O) rfl hof (FO.out _ C5.out.bel) (rowO_one _) (by omega) (by omega) C5.out.bel.size ?_
      intro v6 V6 hown hg hbk hnl
      rw [List.nil_append, Nat.zero_add] at hown
      obtain ⟨a6, c6, rfl⟩ := own_anyV hown
      have C6 : Hid (CI W0 V6 (some (.slice a3 ln c3, ln, rowF L)) (some (.slice a5 sn c5, sn, rowF S)) (some (.slice a6 on c6, on, rowO O))) := C5.out.appC hg hown
      clear hown hg hbk hnl C5
      refine hK.out _ _ ?_ (fun hHeld => ?_)
      · exact HSS.out _ C6.out.bel
      clear hK K
      change wpAnyH _ _ _ _ _ _ _ (Act.put _ (some 14) _) _
      simp only [Act.put, List.setIfInBounds_toArray, List.set_cons_zero, List.set_cons_succ]
      refine wpAnyH_take (i := 12) (v := ?_) rfl (by kernel_rfl) (by kernel_rfl) (by kernel_rfl) (fun _ _ _ h => h) (Or.inl ⟨by kernel_rfl, ?_⟩) hHeld ?_
      rotate_left 1; focus (intro w hSw; (try dsimp only at hSw); (try go_split_ands); go_simp; all_goals (first | done | with_reducible rfl))
      change wpAnyH _ _ _ _ _ _ _ (Act.put _ (some 15) _) _; simp only [Act.put, List.setIfInBounds_toArray, List.set_cons_zero, List.set_cons_succ]
      refine wpAnyH_ready (rs := [13]) (by kernel_rfl) (by simp) ?_
      refine AllReadyH.cons rfl (fun K hK => ?_) AllReadyH.nil
      obtain ⟨r0, r1, r2⟩ := cells3 (HRB.out _ C6.out.bel)
      have rf := fun i => frozen_of_row _ _ i _ _ (HRB.out _ C6.out.bel)
      go_simp
      refine hK.out _ _ ?_ (fun hHeld => ?_)
      · exact HSK.out _ C6.out.bel _ _ _
      clear hK K
      refine wpAnyH_done (by kernel_rfl) ?_ _
      clear hHeld
      obtain ⟨r0, r1, r2⟩ := cells3 (HRB.out _ C6.out.bel)
      have DN := fun x y z => C6.out.done (x := x) (y := y) (z := z) B0.out (HRB.out _ C6.out.bel) HLN.out HSN.out HON.out
      go_wp2
      refine bodyPost_ret (v := .agg #[.slice a3 ln c3, .slice a5 sn c5, .slice a6 on c6]) (by simp [results, Try.results41, go_sem, r0, r1, r2]) rfl ⟨_, _, _, _, _, _, rfl, (DN _ _ _).1, (DN _ _ _).2⟩
    refine AllReadyH.cons rfl (fun K hK => ?_) AllReadyH.nil
    have C3 : Hid (CI W0 (V2.alloc (.cells #[] 55)) (some (.slice (some ⟨G2, 0, none⟩) 0 0, 0, [])) (some (.slice (some ⟨V2.heap.size, 0, none⟩) 0 0, 0, [])) (some (.slice (some ⟨G1, 0, none⟩) 0 0, 0, []))) := C2.out.newB
    (try simp only [Act.put, List.setIfInBounds_toArray])
    go_simp
    refine hK.out _ _ ?_ (fun hHeld => ?_)
    · exact HSS.out _ C3.out.bel
    clear hK K
    obtain ⟨G3, HG3⟩ : ∃ g, Hid (V2.heap.size = g) := ⟨_, rfl⟩
    rw [HG3.out] at C3 ⊢
    generalize (V2.alloc (.cells #[] 55)) = V3 at *
    clear C2 HG3
    refine wpAnyH_ready (rs := [3]) (by kernel_rfl) (by simp) ?_
    refine AllReadyH.cons rfl (fun K hK => ?_) AllReadyH.nil
    refine step_append_opt Try.underlying24 infF32 (by rfl) (by decide) rfl (.tmp 3) (.tmp 5) rfl W0.heap.size (.slice (some ⟨G2, 0, none⟩) 0 0) 0 [] rfl (C3.out.a) la ln lc (rowF L) rfl hlf (FL.out _ C3.out.bel) (rowF_one _) (by omega) (by omega) C3.out.bel.size ?_
    intro v4 V4 hown hg hbk hnl
    rw [List.nil_append, Nat.zero_add] at hown
    obtain ⟨a4, c4, rfl⟩ := own_anyV hown
    have C4 : Hid (CI W0 V4 (some (.slice a4 ln c4, ln, rowF L)) (some (.slice (some ⟨G3, 0, none⟩) 0 0, 0, [])) (some (.slice (some ⟨G1, 0, none⟩) 0 0, 0, []))) := C3.out.appA hg hown hbk
    clear hown hg hbk hnl C3
    refine hK.out _ _ ?_ (fun hHeld => ?_)
    · exact HSS.out _ C4.out.bel
    clear hK K
    change wpAnyH _ _ _ _ _ _ _ (Act.put _ (some 6) _) _
    simp only [Act.put, List.setIfInBounds_toArray, List.set_cons_zero, List.set_cons_succ]
    refine wpAnyH_ready (rs := [7]) (by kernel_rfl) (by simp) ?_
    refine AllReadyH.cons rfl (fun K hK => ?_) AllReadyH.nil
    refine step_append_opt Try.underlying24 infF32 (by rfl) (by decide) rfl (.tmp 7) (.tmp 9) rfl W0.heap.size (.slice (some ⟨G3, 0, none⟩) 0 0) 0 [] rfl (C4.out.b) sa sn sc (rowF S) rfl hsf (FS.out _ C4.out.bel) (rowF_one _) (by omega) (by omega) C4.out.bel.size ?_
    intro v5 V5 hown hg hbk hnl
    rw [List.nil_append, Nat.zero_add] at hown
    obtain ⟨a5, c5, rfl⟩ := own_anyV hown
    have C5 : Hid (CI W0 V5 (some (.slice a4 ln c4, ln, rowF L)) (some (.slice a5 sn c5, sn, rowF S)) (some (.slice (some ⟨G1, 0, none⟩) 0 0, 0, []))) := C4.out.appB hg hown hbk
    clear hown hg hbk hnl C4
    refine hK.out _ _ ?_ (fun hHeld => ?_)
    · exact HSS.out _ C5.out.bel
    clear hK K
    change wpAnyH _ _ _ _ _ _ _ (Act.put _ (some 10) _) _
    simp only [Act.put, List.setIfInBounds_toArray, List.set_cons_zero, List.set_cons_succ]
    refine wpAnyH_ready (rs := [11]) (by kernel_rfl) (by simp) ?_
    refine AllReadyH.cons rfl (fun K hK => ?_) AllReadyH.nil
    refine step_append_opt Try.underlying25 infO56 (by rfl) (by decide) rfl (.tmp 11) (.tmp 13) rfl W0.heap.size (.slice (some ⟨G1, 0, none⟩) 0 0) 0 [] rfl (C5.out.c) oa on oc (rowO O) rfl hof (FO.out _ C5.out.bel) (rowO_one _) (by omega) (by omega) C5.out.bel.size ?_
    intro v6 V6 hown hg hbk hnl
    rw [List.nil_append, Nat.zero_add] at hown
    obtain ⟨a6, c6, rfl⟩ := own_anyV hown
    have C6 : Hid (CI W0 V6 (some (.slice a4 ln c4, ln, rowF L)) (some (.slice a5 sn c5, sn, rowF S)) (some (.slice a6 on c6, on, rowO O))) := C5.out.appC hg hown
    clear hown hg hbk hnl C5
    refine hK.out _ _ ?_ (fun hHeld => ?_)
    · exact HSS.out _ C6.out.bel
    clear hK K
    change wpAnyH _ _ _ _ _ _ _ (Act.put _ (some 14) _) _
    simp only [Act.put, List.setIfInBounds_toArray, List.set_cons_zero, List.set_cons_succ]
    refine wpAnyH_take (i := 12) (v := ?_) rfl (by kernel_rfl) (by kernel_rfl) (by kernel_rfl) (fun _ _ _ h => h) (Or.inl ⟨by kernel_rfl, ?_⟩) hHeld ?_
    rotate_left 1; focus (intro w hSw; (try dsimp only at hSw); (try go_split_ands); go_simp; all_goals (first | done | with_reducible rfl))
    change wpAnyH _ _ _ _ _ _ _ (Act.put _ (some 15) _) _; simp only [Act.put, List.setIfInBounds_toArray, List.set_cons_zero, List.set_cons_succ]
    refine wpAnyH_ready (rs := [13]) (by kernel_rfl) (by simp) ?_
    refine AllReadyH.cons rfl (fun K hK => ?_) AllReadyH.nil
    obtain ⟨r0, r1, r2⟩ := cells3 (HRB.out _ C6.out.bel)
    have rf := fun i => frozen_of_row _ _ i _ _ (HRB.out _ C6.out.bel)
    go_simp
    refine hK.out _ _ ?_ (fun hHeld => ?_)
    · exact HSK.out _ C6.out.bel _ _ _
    clear hK K
    refine wpAnyH_done (by kernel_rfl) ?_ _
    clear hHeld
    obtain ⟨r0, r1, r2⟩ := cells3 (HRB.out _ C6.out.bel)
    have DN := fun x y z => C6.out.done (x := x) (y := y) (z := z) B0.out (HRB.out _ C6.out.bel) HLN.out HSN.out HON.out
    go_wp2
    refine bodyPost_ret (v := .agg #[.slice a4 ln c4, .slice a5 sn c5, .slice a6 on c6]) (by simp [results, Try.results41, go_sem, r0, r1, r2]) rfl ⟨_, _, _, _, _, _, rfl, (DN _ _ _).1, (DN _ _ _).2⟩
  refine AllReadyH.cons rfl (fun K hK => ?_) AllReadyH.nil
  have C2 : Hid (CI W0 (V1.alloc (.cells #[] 55)) (none) (some (.slice (some ⟨V1.heap.size, 0, none⟩) 0 0, 0, [])) (some (.slice (some ⟨G1, 0, none⟩) 0 0, 0, []))) := C1.out.newB
  (try simp only [Act.put, List.setIfInBounds_toArray])
  go_simp
  refine hK.out _ _ ?_ (fun hHeld => ?_)
  · exact HSS.out _ C2.out.bel
  clear hK K
  obtain ⟨G2, HG2⟩ : ∃ g, Hid (V1.heap.size = g) := ⟨_, rfl⟩
  rw [HG2.out] at C2 ⊢
  generalize (V1.alloc (.cells #[] 55)) = V2 at *
  clear C1 HG2
  refine wpAnyH_ready (rs := [0]) (by kernel_rfl) (by simp) ?_
  refine AllReadyH.cons rfl (fun K hK => ?_) AllReadyH.nil
  have C3 : Hid (CI W0 (V2.alloc (.cells #[] 55)) (some (.slice (some ⟨V2.heap.size, 0, none⟩) 0 0, 0, [])) (some (.slice (some ⟨G2, 0, none⟩) 0 0, 0, [])) (some (.slice (some ⟨G1, 0, none⟩) 0 0, 0, []))) := C2.out.newA
  (try simp only [Act.put, List.setIfInBounds_toArray])
  go_simp
  refine hK.out _ _ ?_ (fun hHeld => ?_)
  · exact HSS.out _ C3.out.bel
  clear hK K
  obtain ⟨G3, HG3⟩ : ∃ g, Hid (V2.heap.size = g) := ⟨_, rfl⟩
  rw [HG3.out] at C3 ⊢
  generalize (V2.alloc (.cells #[] 55)) = V3 at *
  clear C2 HG3
  refine wpAnyH_ready (rs := [3]) (by kernel_rfl) (by simp) ?_
  refine AllReadyH.cons rfl (fun K hK => ?_) AllReadyH.nil
  refine step_append_opt Try.underlying24 infF32 (by rfl) (by decide) rfl (.tmp 3) (.tmp 5) rfl W0.heap.size (.slice (some ⟨G3, 0, none⟩) 0 0) 0 [] rfl (C3.out.a) la ln lc (rowF L) rfl hlf (FL.out _ C3.out.bel) (rowF_one _) (by omega) (by omega) C3.out.bel.size ?_
  intro v4 V4 hown hg hbk hnl
  rw [List.nil_append, Nat.zero_add] at hown
  obtain ⟨a4, c4, rfl⟩ := own_anyV hown
  have C4 : Hid (CI W0 V4 (some (.slice a4 ln c4, ln, rowF L)) (some (.slice (some ⟨G2, 0, none⟩) 0 0, 0, [])) (some (.slice (some ⟨G1, 0, none⟩) 0 0, 0, []))) := C3.out.appA hg hown hbk
  clear hown hg hbk hnl C3
  refine hK.out _ _ ?_ (fun hHeld => ?_)
  · exact HSS.out _ C4.out.bel
  clear hK K
  change wpAnyH _ _ _ _ _ _ _ (Act.put _ (some 6) _) _
  simp only [Act.put, List.setIfInBounds_toArray, List.set_cons_zero, List.set_cons_succ]
  refine wpAnyH_ready (rs := [7]) (by kernel_rfl) (by simp) ?_
  refine AllReadyH.cons rfl (fun K hK => ?_) AllReadyH.nil
  refine step_append_opt Try.underlying24 infF32 (by rfl) (by decide) rfl (.tmp 7) (.tmp 9) rfl W0.heap.size (.slice (some ⟨G2, 0, none⟩) 0 0) 0 [] rfl (C4.out.b) sa sn sc (rowF S) rfl hsf (FS.out _ C4.out.bel) (rowF_one _) (by omega) (by omega) C4.out.bel.size ?_
  intro v5 V5 hown hg hbk hnl
  rw [List.nil_append, Nat.zero_add] at hown
  obtain ⟨a5, c5, rfl⟩ := own_anyV hown
  have C5 : Hid (CI W0 V5 (some (.slice a4 ln c4, ln, rowF L)) (some (.slice a5 sn c5, sn, rowF S)) (some (.slice (some ⟨G1, 0, none⟩) 0 0, 0, []))) := C4.out.appB hg hown hbk
  clear hown hg hbk hnl C4
  refine hK.out _ _ ?_ (fun hHeld => ?_)
  · exact HSS.out _ C5.out.bel
  clear hK K
  change wpAnyH _ _ _ _ _ _ _ (Act.put _ (some 10) _) _
  simp only [Act.put, List.setIfInBounds_toArray, List.set_cons_zero, List.set_cons_succ]
  refine wpAnyH_ready (rs := [11]) (by kernel_rfl) (by simp) ?_
  refine AllReadyH.cons rfl (fun K hK => ?_) AllReadyH.nil
  refine step_append_opt Try.underlying25 infO56 (by rfl) (by decide) rfl (.tmp 11) (.tmp 13) rfl W0.heap.size (.slice (some ⟨G1, 0, none⟩) 0 0) 0 [] rfl (C5.out.c) oa on oc (rowO O) rfl hof (FO.out _ C5.out.bel) (rowO_one _) (by omega) (by omega) C5.out.bel.size ?_
  intro v6 V6 hown hg hbk hnl
  rw [List.nil_append, Nat.zero_add] at hown
  obtain ⟨a6, c6, rfl⟩ := own_anyV hown
  have C6 : Hid (CI W0 V6 (some (.slice a4 ln c4, ln, rowF L)) (some (.slice a5 sn c5, sn, rowF S)) (some (.slice a6 on c6, on, rowO O))) := C5.out.appC hg hown
  clear hown hg hbk hnl C5
  refine hK.out _ _ ?_ (fun hHeld => ?_)
  · exact HSS.out _ C6.out.bel
  clear hK K
  change wpAnyH _ _ _ _ _ _ _ (Act.put _ (some 14) _) _
  simp only [Act.put, List.setIfInBounds_toArray, List.set_cons_zero, List.set_cons_succ]
  refine wpAnyH_take (i := 12) (v := ?_) rfl (by kernel_rfl) (by kernel_rfl) (by kernel_rfl) (fun _ _ _ h => h) (Or.inl ⟨by kernel_rfl, ?_⟩) hHeld ?_
  rotate_left 1; focus (intro w hSw; (try dsimp only at hSw); (try go_split_ands); go_simp; all_goals (first | done | with_reducible rfl))
  change wpAnyH _ _ _ _ _ _ _ (Act.put _ (some 15) _) _; simp only [Act.put, List.setIfInBounds_toArray, List.set_cons_zero, List.set_cons_succ]
  refine wpAnyH_ready (rs := [13]) (by kernel_rfl) (by simp) ?_
  refine AllReadyH.cons rfl (fun K hK => ?_) AllReadyH.nil
  obtain ⟨r0, r1, r2⟩ := cells3 (HRB.out _ C6.out.bel)
  have rf := fun i => frozen_of_row _ _ i _ _ (HRB.out _ C6.out.bel)
  go_simp
  refine hK.out _ _ ?_ (fun hHeld => ?_)
  · exact HSK.out _ C6.out.bel _ _ _
  clear hK K
  refine wpAnyH_done (by kernel_rfl) ?_ _
  clear hHeld
  obtain ⟨r0, r1, r2⟩ := cells3 (HRB.out _ C6.out.bel)
  have DN := fun x y z => C6.out.done (x := x) (y := y) (z := z) B0.out (HRB.out _ C6.out.bel) HLN.out HSN.out HON.out
  go_wp2
  refine bodyPost_ret (v := .agg #[.slice a4 ln c4, .slice a5 sn c5, .slice a6 on c6]) (by simp [results, Try.results41, go_sem, r0, r1, r2]) rfl ⟨_, _, _, _, _, _, rfl, (DN _ _ _).1, (DN _ _ _).2⟩

end Go.Proofs.Ytpahhhocgpohbaa
