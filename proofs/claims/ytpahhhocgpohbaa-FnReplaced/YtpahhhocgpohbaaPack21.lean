import Derived.Test.YtpahhhocgpohbaaPack17
import Derived.Test.YtpahhhocgpohbaaSpecCopy12
import Derived.Lib.SmallJoins
namespace Go.Proofs.Ytpahhhocgpohbaa
open Go.RowKit

set_option maxHeartbeats 1000000 in
theorem cloneFiles_any (a : Option Addr) (c n : Nat) (F : List FI) (w : World) (hF : FilesAt w a F) (hn : F.length = n) (hl : n ≤ 1048576) :
    Calls Try.prog 55 #[.slice a n c] w fun e w' => ∃ ao co, e = .returned (.slice ao n co) ∧ Below w.heap.size w w' ∧ w'.ownsRow w.heap.size 55 2 (.slice ao n co) n (rowF F) := by
  have hnl := fun (W : World) => Lib.run_eql_slice_nil (P := Try.prog) W 24 _ a n c 0 0 Try.underlying24
  cases a with
  | none =>
    have h0 : F = [] := by
      cases F with
      | nil => rfl
      | cons f F => obtain ⟨b, off, e, _⟩ := hF 0 (by simp); cases e
    subst h0
    simp at hn
    subst hn
    go_enter Try.func55, Try.ntmps55
    go_wp2
    go_ret
    exact ⟨none, 0, rfl, Below.refl _ _, ⟨rfl, .inl ⟨rfl, rfl⟩⟩⟩
  | some A =>
    have ON : Hid ((w.alloc (.cells #[] 55)).ownsRow w.heap.size 55 2 (.slice (some ⟨w.heap.size, 0, none⟩) 0 0) 0 ([] : List Value)) := own_new0 w _ 2 _ (Nat.le_refl _)
    have BN : Hid (Below w.heap.size w (w.alloc (.cells #[] 55))) := (Below.refl _ _).alloc (Nat.le_refl _) _
    have HFC : Hid (∀ j u, (rowF F)[j]? = some u → ∃ b off, some A = some ⟨b, off, none⟩ ∧ (w.alloc (.cells #[] 55)).cell? ⟨b, off + j, none⟩ = some u) := (hF.below BN.out).cells
    have HN : Hid (F.length = n) := hn
    clear hF hn
    go_enter Try.func55, Try.ntmps55
    go_wp2_with (
      at_builtin
      refine append_opt Try.underlying24 infF32 rfl (by decide) _ rfl _ _ rfl w.heap.size _ 0 [] rfl ON.out (some A) n c (rowF F) rfl (by rw [rowF_len, HN.out]) HFC.out (rowF_one F) (by omega) (by omega) BN.out.size ?_
      intro v' w4 hown hg hbk hnl
      rw [List.nil_append, Nat.zero_add] at hown
      obtain ⟨ao, co, rfl⟩ := own_anyV hown
      have O4 : Hid (w4.ownsRow w.heap.size 55 2 (.slice ao n co) n (rowF F)) := hown
      have B4 : Hid (Below w.heap.size w w4) := BN.out.grown hg BN.out.size (fun k e => (ON.out.lt k e).1)
      clear hown hg hbk hnl)
    go_ret
    exact ⟨ao, co, rfl, B4.out, O4.out⟩
set_option maxHeartbeats 1000000 in
theorem cloneOps_any (a : Option Addr) (c n : Nat) (F : List OP) (w : World) (hF : OpsAt w a F) (hn : F.length = n) (hl : n ≤ 1048576) :
    Calls Try.prog 56 #[.slice a n c] w fun e w' => ∃ ao co, e = .returned (.slice ao n co) ∧ Below w.heap.size w w' ∧ w'.ownsRow w.heap.size 36 4 (.slice ao n co) n (rowO F) := by
  have hnl := fun (W : World) => Lib.run_eql_slice_nil (P := Try.prog) W 25 _ a n c 0 0 Try.underlying25
  cases a with
  | none =>
    have h0 : F = [] := by
      cases F with
      | nil => rfl
      | cons f F => obtain ⟨b, off, e, _⟩ := hF 0 (by simp); cases e
    subst h0
    simp at hn
    subst hn
    go_enter Try.func56, Try.ntmps56
    go_wp2
    go_ret
    exact ⟨none, 0, rfl, Below.refl _ _, ⟨rfl, .inl ⟨rfl, rfl⟩⟩⟩
  | some A =>
    have ON : Hid ((w.alloc (.cells #[] 36)).ownsRow w.heap.size 36 4 (.slice (some ⟨w.heap.size, 0, none⟩) 0 0) 0 ([] : List Value)) := own_new0 w _ 4 _ (Nat.le_refl _)
    have BN : Hid (Below w.heap.size w (w.alloc (.cells #[] 36))) := (Below.refl _ _).alloc (Nat.le_refl _) _
    have HFC : Hid (∀ j u, (rowO F)[j]? = some u → ∃ b off, some A = some ⟨b, off, none⟩ ∧ (w.alloc (.cells #[] 36)).cell? ⟨b, off + j, none⟩ = some u) := (hF.below BN.out).cells
    have HN : Hid (F.length = n) := hn
    clear hF hn
    go_enter Try.func56, Try.ntmps56
    go_wp2_with (
      at_builtin
      refine append_opt Try.underlying25 infO56 rfl (by decide) _ rfl _ _ rfl w.heap.size _ 0 [] rfl ON.out (some A) n c (rowO F) rfl (by rw [rowO_len, HN.out]) HFC.out (rowO_one F) (by omega) (by omega) BN.out.size ?_
      intro v' w4 hown hg hbk hnl
      rw [List.nil_append, Nat.zero_add] at hown
      obtain ⟨ao, co, rfl⟩ := own_anyV hown
      have O4 : Hid (w4.ownsRow w.heap.size 36 4 (.slice ao n co) n (rowO F)) := hown
      have B4 : Hid (Below w.heap.size w w4) := BN.out.grown hg BN.out.size (fun k e => (ON.out.lt k e).1)
      clear hown hg hbk hnl)
    go_ret
    exact ⟨ao, co, rfl, B4.out, O4.out⟩

end Go.Proofs.Ytpahhhocgpohbaa

namespace Go.Proofs.Ytpahhhocgpohbaa
open Go.RowKit

set_option maxHeartbeats 8000000 in
set_option maxRecDepth 20000 in
/-- A copy of a disk. -/
theorem copyOfDisk_any (la sa oa : Option Addr) (lc sc oc ln sn on : Nat) (L S : List FI) (O : List OP) (w : World) (hD : DAt w la sa oa L S O) (hLn : L.length = ln) (hSn : S.length = sn) (hOn : O.length = on) (bl : ln ≤ 1048576) (bs : sn ≤ 1048576) (bo : on ≤ 1048576) :
    Calls Try.prog 29 #[.agg #[.slice la ln lc, .slice sa sn sc, .slice oa on oc]] w fun e w' => ∃ a1 c1 a2 c2 a3 c3, e = .returned (.agg #[.slice a1 ln c1, .slice a2 sn c2, .slice a3 on c3]) ∧ Below w.heap.size w w' ∧ DA w' w.heap.size (.slice a1 ln c1) (.slice a2 sn c2) (.slice a3 on c3) L S O := by
  have B0 : Hid (Below w.heap.size w ((w.alloc (.cells #[.slice la ln lc, .slice sa sn sc, .slice oa on oc] 27)).alloc (.cells #[.slice none 0 0, .slice none 0 0, .slice none 0 0] 27))) := ((Below.refl _ _).alloc (Nat.le_refl _) _).alloc (by simp) _
  have RA : Hid (((w.alloc (.cells #[.slice la ln lc, .slice sa sn sc, .slice oa on oc] 27)).alloc (.cells #[.slice none 0 0, .slice none 0 0, .slice none 0 0] 27)).heap[w.heap.size]? = some (.cells #[.slice la ln lc, .slice sa sn sc, .slice oa on oc] 27 (0, 0))) := heap_alloc2_old _ _ _
  have RB : Hid (((w.alloc (.cells #[.slice la ln lc, .slice sa sn sc, .slice oa on oc] 27)).alloc (.cells #[.slice none 0 0, .slice none 0 0, .slice none 0 0] 27)).heap[w.heap.size + 1]? = some (.cells #[.slice none 0 0, .slice none 0 0, .slice none 0 0] 27 (0, 0))) := heap_alloc2_new _ _ _
  have HD : Hid (DAt w la sa oa L S O) := hD
  have HLN : Hid (L.length = ln) := hLn
  have HSN : Hid (S.length = sn) := hSn
  have HON : Hid (O.length = on) := hOn
  clear hD hLn hSn hOn
  go_enter Try.func29, Try.ntmps29
  go_wp2_with fail
  generalize ((w.alloc (.cells #[.slice la ln lc, .slice sa sn sc, .slice oa on oc] 27)).alloc (.cells #[.slice none 0 0, .slice none 0 0, .slice none 0 0] 27)) = W0 at *
  have HSS : Hid (∀ W, Below W0.heap.size W0 W → (fun W => W.cell? ⟨w.heap.size, 0, none⟩ = some (.slice la ln lc) ∧ W.cell? ⟨w.heap.size, 1, none⟩ = some (.slice sa sn sc) ∧ W.cell? ⟨w.heap.size, 2, none⟩ = some (.slice oa on oc)) W) := fun W hW => cells3 (below_row hW (row_lt RA.out) RA.out)
  have HRB : Hid (∀ W, Below W0.heap.size W0 W → W.heap[w.heap.size + 1]? = some (.cells #[.slice none 0 0, .slice none 0 0, .slice none 0 0] 27 (0, 0))) := fun W hW => below_row hW (row_lt RB.out) RB.out
  have HSK : Hid (∀ W, Below W0.heap.size W0 W → ∀ x y z, (fun W => W.cell? ⟨w.heap.size, 0, none⟩ = some (.slice la ln lc) ∧ W.cell? ⟨w.heap.size, 1, none⟩ = some (.slice sa sn sc) ∧ W.cell? ⟨w.heap.size, 2, none⟩ = some (.slice oa on oc)) (((W.setCell ⟨w.heap.size + 1, 0, none⟩ x).setCell ⟨w.heap.size + 1, 1, none⟩ y).setCell ⟨w.heap.size + 1, 2, none⟩ z)) := fun W hW x y z => by
    obtain ⟨s1, s2, s3⟩ := HSS.out W hW
    have hne : w.heap.size ≠ w.heap.size + 1 := by omega
    exact ⟨keep_setT (keep_setT (keep_setT s1 hne) hne) hne, keep_setT (keep_setT (keep_setT s2 hne) hne) hne, keep_setT (keep_setT (keep_setT s3 hne) hne) hne⟩
  have KL : Hid (∀ W, Below W0.heap.size W0 W → Calls Try.prog 55 #[.slice la ln lc] W fun e w' => ∃ ao co, e = .returned (.slice ao ln co) ∧ Below W.heap.size W w' ∧ w'.ownsRow W.heap.size 55 2 (.slice ao ln co) ln (rowF L)) := fun W hW => cloneFiles_any la lc ln L W ((HD.out.l.below B0.out).below hW) HLN.out bl
  have KS : Hid (∀ W, Below W0.heap.size W0 W → Calls Try.prog 55 #[.slice sa sn sc] W fun e w' => ∃ ao co, e = .returned (.slice ao sn co) ∧ Below W.heap.size W w' ∧ w'.ownsRow W.heap.size 55 2 (.slice ao sn co) sn (rowF S)) := fun W hW => cloneFiles_any sa sc sn S W ((HD.out.s.below B0.out).below hW) HSN.out bs
  have KO : Hid (∀ W, Below W0.heap.size W0 W → Calls Try.prog 56 #[.slice oa on oc] W fun e w' => ∃ ao co, e = .returned (.slice ao on co) ∧ Below W.heap.size W w' ∧ w'.ownsRow W.heap.size 36 4 (.slice ao on co) on (rowO O)) := fun W hW => cloneOps_any oa oc on O W ((HD.out.o.below B0.out).below hW) HON.out bo
  have CS : Hid (CI W0 W0.drew none none none) := CI.new W0
  clear HD RA RB
  refine wp_region_held_drew (S := (fun W => W.cell? ⟨w.heap.size, 0, none⟩ = some (.slice la ln lc) ∧ W.cell? ⟨w.heap.size, 1, none⟩ = some (.slice sa sn sc) ∧ W.cell? ⟨w.heap.size, 2, none⟩ = some (.slice oa on oc))) (by kernel_rfl) ?_ (fun hHeld => ?_)
  · exact HSS.out _ CS.out.bel
  generalize W0.drew = WD at *
  refine wpAnyH_take (i := 0) (v := ?_) rfl (by kernel_rfl) (by kernel_rfl) (by kernel_rfl) (fun _ _ _ h => h) (Or.inl ⟨by kernel_rfl, ?_⟩) hHeld ?_
  rotate_left 1; focus (intro w hSw; (try dsimp only at hSw); (try go_split_ands); go_simp; all_goals (first | done | with_reducible rfl))
  change wpAnyH _ _ _ _ _ _ _ (Act.put _ (some 3) _) _; simp only [Act.put, List.setIfInBounds_toArray, List.set_cons_zero, List.set_cons_succ]
  refine wpAnyH_take (i := 1) (v := ?_) rfl (by kernel_rfl) (by kernel_rfl) (by kernel_rfl) (fun _ _ _ h => h) (Or.inl ⟨by kernel_rfl, ?_⟩) hHeld ?_
  rotate_left 1; focus (intro w hSw; (try dsimp only at hSw); (try go_split_ands); go_simp; all_goals (first | done | with_reducible rfl))
  change wpAnyH _ _ _ _ _ _ _ (Act.put _ (some 4) _) _; simp only [Act.put, List.setIfInBounds_toArray, List.set_cons_zero, List.set_cons_succ]
  refine wpAnyH_take (i := 3) (v := ?_) rfl (by kernel_rfl) (by kernel_rfl) (by kernel_rfl) (fun _ _ _ h => h) (Or.inl ⟨by kernel_rfl, ?_⟩) hHeld ?_
  rotate_left 1; focus (intro w hSw; (try dsimp only at hSw); (try go_split_ands); go_simp; all_goals (first | done | with_reducible rfl))
  change wpAnyH _ _ _ _ _ _ _ (Act.put _ (some 6) _) _; simp only [Act.put, List.setIfInBounds_toArray, List.set_cons_zero, List.set_cons_succ]
  refine wpAnyH_take (i := 4) (v := ?_) rfl (by kernel_rfl) (by kernel_rfl) (by kernel_rfl) (fun _ _ _ h => h) (Or.inl ⟨by kernel_rfl, ?_⟩) hHeld ?_
  rotate_left 1; focus (intro w hSw; (try dsimp only at hSw); (try go_split_ands); go_simp; all_goals (first | done | with_reducible rfl))
  change wpAnyH _ _ _ _ _ _ _ (Act.put _ (some 7) _) _; simp only [Act.put, List.setIfInBounds_toArray, List.set_cons_zero, List.set_cons_succ]
  refine wpAnyH_take (i := 6) (v := ?_) rfl (by kernel_rfl) (by kernel_rfl) (by kernel_rfl) (fun _ _ _ h => h) (Or.inl ⟨by kernel_rfl, ?_⟩) hHeld ?_
  rotate_left 1; focus (intro w hSw; (try dsimp only at hSw); (try go_split_ands); go_simp; all_goals (first | done | with_reducible rfl))
  change wpAnyH _ _ _ _ _ _ _ (Act.put _ (some 9) _) _; simp only [Act.put, List.setIfInBounds_toArray, List.set_cons_zero, List.set_cons_succ]
  refine wpAnyH_take (i := 7) (v := ?_) rfl (by kernel_rfl) (by kernel_rfl) (by kernel_rfl) (fun _ _ _ h => h) (Or.inl ⟨by kernel_rfl, ?_⟩) hHeld ?_
  rotate_left 1; focus (intro w hSw; (try dsimp only at hSw); (try go_split_ands); go_simp; all_goals (first | done | with_reducible rfl))
  change wpAnyH _ _ _ _ _ _ _ (Act.put _ (some 10) _) _; simp only [Act.put, List.setIfInBounds_toArray, List.set_cons_zero, List.set_cons_succ]
  refine wpAnyH_ready (rs := [2]) (by kernel_rfl) (by simp) ?_
  refine AllReadyH.cons rfl (fun K hK => ?_) AllReadyH.nil
  (try simp only [Act.put, List.setIfInBounds_toArray])
  go_simp
  refine (KL.out _ CS.out.bel).mono ?_
  rintro e V1 ⟨a1, c1, rfl, hb, ho⟩
  have C1 : Hid (CI W0 V1 (some (.slice a1 ln c1, ln, rowF L)) (none) (none)) := CS.out.callA hb ho
  clear hb ho CS
  (try go_wp2_with fail)
  refine hK.out _ _ ?_ (fun hHeld => ?_)
  · exact HSS.out _ C1.out.bel
  clear hK K
  refine wpAnyH_ready (rs := [5]) (by kernel_rfl) (by simp) ?_
  refine AllReadyH.cons rfl (fun K hK => ?_) AllReadyH.nil
  (try simp only [Act.put, List.setIfInBounds_toArray])
  go_simp
  refine (KS.out _ C1.out.bel).mono ?_
  rintro e V2 ⟨a2, c2, rfl, hb, ho⟩
  have C2 : Hid (CI W0 V2 (some (.slice a1 ln c1, ln, rowF L)) (some (.slice a2 sn c2, sn, rowF S)) (none)) := C1.out.callB hb ho
  clear hb ho C1
  (try go_wp2_with fail)
  refine hK.out _ _ ?_ (fun hHeld => ?_)
  · exact HSS.out _ C2.out.bel
  clear hK K
  refine wpAnyH_ready (rs := [8]) (by kernel_rfl) (by simp) ?_
  refine AllReadyH.cons rfl (fun K hK => ?_) AllReadyH.nil
  (try simp only [Act.put, List.setIfInBounds_toArray])
  go_simp
  refine (KO.out _ C2.out.bel).mono ?_
  rintro e V3 ⟨a3, c3, rfl, hb, ho⟩
  have C3 : Hid (CI W0 V3 (some (.slice a1 ln c1, ln, rowF L)) (some (.slice a2 sn c2, sn, rowF S)) (some (.slice a3 on c3, on, rowO O))) := C2.out.callC hb ho
  clear hb ho C2
  (try go_wp2_with fail)
  refine hK.out _ _ ?_ (fun hHeld => ?_)
  · exact HSS.out _ C3.out.bel
  clear hK K
  refine wpAnyH_take (i := 9) (v := ?_) rfl (by kernel_rfl) (by kernel_rfl) (by kernel_rfl) (fun _ _ _ h => h) (Or.inl ⟨by kernel_rfl, ?_⟩) hHeld ?_
  rotate_left 1; focus (intro w hSw; (try dsimp only at hSw); (try go_split_ands); go_simp; all_goals (first | done | with_reducible rfl))
  change wpAnyH _ _ _ _ _ _ _ (Act.put _ (some 12) _) _; simp only [Act.put, List.setIfInBounds_toArray, List.set_cons_zero, List.set_cons_succ]
  refine wpAnyH_ready (rs := [10]) (by kernel_rfl) (by simp) ?_
  refine AllReadyH.cons rfl (fun K hK => ?_) AllReadyH.nil
  obtain ⟨r0, r1, r2⟩ := cells3 (HRB.out _ C3.out.bel)
  have rf := fun i => frozen_of_row _ _ i _ _ (HRB.out _ C3.out.bel)
  go_simp
  refine hK.out _ _ ?_ (fun hHeld => ?_)
  · exact HSK.out _ C3.out.bel _ _ _
  clear hK K
  refine wpAnyH_done (by kernel_rfl) ?_ _
  clear hHeld
  obtain ⟨r0, r1, r2⟩ := cells3 (HRB.out _ C3.out.bel)
  have DN := fun x y z => C3.out.done (x := x) (y := y) (z := z) B0.out (HRB.out _ C3.out.bel) HLN.out HSN.out HON.out
  go_wp2
  refine bodyPost_ret (v := .agg #[.slice a1 ln c1, .slice a2 sn c2, .slice a3 on c3]) (by simp [results, Try.results29, go_sem, r0, r1, r2]) rfl ⟨_, _, _, _, _, _, rfl, (DN _ _ _).1, (DN _ _ _).2⟩

end Go.Proofs.Ytpahhhocgpohbaa
