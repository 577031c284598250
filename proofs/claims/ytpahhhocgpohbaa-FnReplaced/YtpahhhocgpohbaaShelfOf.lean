import Derived.Test.YtpahhhocgpohbaaPack5
import Derived.Test.YtpahhhocgpohbaaPack6
namespace Go.Proofs.Ytpahhhocgpohbaa
open Go.RowKit

theorem three_row (W : World) (T : TypeId) (x y z : Value) (g : Nat) (hg : W.heap.size = g) : ∀ j u, [x, y, z][j]? = some u → (W.alloc (.cells #[x, y, z] T)).cell? ⟨g, 0 + j, none⟩ = some u := by
  subst hg
  intro j u hu
  match j, hu with
  | 0, hu =>
    simp at hu
    subst hu
    rw [cell_of_row _ _ _ _ _ _ (heap_alloc_new _ _)]
    rfl
  | 1, hu =>
    simp at hu
    subst hu
    rw [cell_of_row _ _ _ _ _ _ (heap_alloc_new _ _)]
    rfl
  | 2, hu =>
    simp at hu
    subst hu
    rw [cell_of_row _ _ _ _ _ _ (heap_alloc_new _ _)]
    rfl
  | j + 3, hu => simp at hu
/-- A new row of one text. -/
theorem own_text1 (W : World) (y : ByteArray) (base : Nat) (hb : base ≤ W.heap.size) : (W.alloc (.cells #[.string y] 9)).ownsRow base 9 1 (.slice (some ⟨W.heap.size, 0, none⟩) 1 1) 1 [.string y] :=
  ⟨rfl, .inr ⟨W.heap.size, 1, #[.string y], rfl, hb, heap_alloc_new _ _, Nat.le_refl _, by unfold maxLen; omega, rfl, rfl⟩⟩
/-- A shelf gets one file more, behind all. -/
theorem SH.more {w w4 : World} {base s g : Nat} {fv fv' : Value} {S : List GR} {x y : ByteArray} (h : SH w base s fv S) (hbw : base ≤ w.heap.size) {box : Array Value} {T : TypeId} (hg : g = (w.alloc (.cells box T)).heap.size)
    (hgr : (((w.alloc (.cells box T)).alloc (.cells #[.string y] 9)).alloc (.cells #[.string x, .slice (some ⟨g, 0, none⟩) 1 1, .int .i64 y.size] 90)).grownBy w4 fv.ownBlock)
    (ho : w4.ownsRow base 90 3 fv' (S.length + 1) (rowG S ++ [.string x, .slice (some ⟨g, 0, none⟩) 1 1, .int .i64 y.size])) :
    w4.heap[s]? = some (.cells #[fv] 88 (0, 0)) ∧ SH (w4.setCell ⟨s, 0, none⟩ fv') base s fv' (S ++ [⟨x, some ⟨g, 0, none⟩, [y], 1, y.size⟩]) := by
  subst hg
  have b1 : Below w.heap.size w (w.alloc (.cells box T)) := (Below.refl _ _).alloc (Nat.le_refl _) _
  have h1 := h.below b1
  have b2 : Below (w.alloc (.cells box T)).heap.size (w.alloc (.cells box T)) ((w.alloc (.cells box T)).alloc (.cells #[.string y] 9)) := (Below.refl _ _).alloc (Nat.le_refl _) _
  have h2 := h1.below b2
  have op := own_text1 (w.alloc (.cells box T)) y base (Nat.le_trans hbw b1.size)
  generalize hW2 : (w.alloc (.cells box T)).alloc (.cells #[.string y] 9) = W2 at *
  have b3 : Below W2.heap.size W2 (W2.alloc (.cells #[.string x, .slice (some ⟨(w.alloc (.cells box T)).heap.size, 0, none⟩) 1 1, .int .i64 y.size] 90)) := (Below.refl _ _).alloc (Nat.le_refl _) _
  have h3 := h2.below b3
  have op3 := own_blw op b3
  generalize W2.alloc (.cells #[.string x, .slice (some ⟨(w.alloc (.cells box T)).heap.size, 0, none⟩) 1 1, .int .i64 y.size] 90) = W3 at *
  have hrow : w4.heap[s]? = some (.cells #[fv] 88 (0, 0)) := (hgr.block s h3.lt (own_otherT h3.r h3.row (by decide))).trans h3.row
  refine ⟨hrow, SH.make hrow h.bs (by rw [List.length_append, rowG_app]; exact ho) (fun q hq => ?_) ?_ (fun q hq => ?_)⟩
  · rcases List.mem_append.1 hq with hq | hq
    · exact own_grownT (h3.p q hq) hgr (fun k hk e => own_apartT (h3.p q hq) h3.r (by decide) k hk e)
    · have : q = ⟨x, some ⟨(w.alloc (.cells box T)).heap.size, 0, none⟩, [y], 1, y.size⟩ := by simpa using hq
      subst this
      exact own_grownT op3 hgr (fun k hk e => own_apartT op3 h3.r (by decide) k hk e)
  · rw [List.pairwise_append]
    refine ⟨h.ap, List.pairwise_singleton _ _, fun q hq z hz k hk hk2 => ?_⟩
    have : z = ⟨x, some ⟨(w.alloc (.cells box T)).heap.size, 0, none⟩, [y], 1, y.size⟩ := by simpa using hz
    subst this
    have h5 : (w.alloc (.cells box T)).heap.size = k := by simpa [GR.v, Value.ownBlock] using hk2
    have h6 := ((h.p q hq).lt k hk).2
    have h7 := b1.size
    omega
  · rcases List.mem_append.1 hq with hq | hq
    · exact h.sz q hq
    · have : q = ⟨x, some ⟨(w.alloc (.cells box T)).heap.size, 0, none⟩, [y], 1, y.size⟩ := by simpa using hq
      subst this
      show (y.size : Int) = (jn [y]).size
      rw [jn_one]

set_option maxHeartbeats 4000000 in
set_option maxRecDepth 20000 in
theorem shelfOf_any (a : Option Addr) (c : Nat) (F : List FI) (w : World) (hF : FilesAt w a F) (hn : F.length ≤ 1000) :
    Calls Try.prog 45 #[.slice a F.length c] w fun e w' => ∃ fv S, e = .returned (.pointer (some ⟨w.heap.size, 0, none⟩)) ∧ Below w.heap.size w w' ∧ SH w' w.heap.size w.heap.size fv S ∧ keysG S = F ∧ ∀ g ∈ S, g.ps.length ≤ 1 := by
  have HF : Hid (FilesAt w a F) := hF
  clear hF
  obtain ⟨n, HN⟩ : ∃ n, Hid (F.length = n) := ⟨_, rfl⟩
  rw [HN.out] at hn ⊢
  have B0 : Hid (Below w.heap.size w (w.alloc (.cells #[.slice none 0 0] 88))) := (Below.refl _ _).alloc (Nat.le_refl _) _
  have H0 : Hid (SH (w.alloc (.cells #[.slice none 0 0] 88)) w.heap.size w.heap.size (.slice none 0 0) []) := ⟨heap_alloc_new _ _, Nat.le_refl _, ⟨rfl, .inl ⟨rfl, rfl⟩⟩, fun g hg => by simp at hg, List.Pairwise.nil, fun g hg => by simp at hg⟩
  go_enter Try.func45, Try.ntmps45
  go_wp2_with fail
  go_loopw [10] (fun ti wr => ∃ (i : Nat) (ao : Option Addr) (co : Nat) (S : List GR), i ≤ n ∧ ti = .int .i64 i ∧ Below w.heap.size w wr ∧ SH wr w.heap.size w.heap.size (.slice ao S.length co) S ∧ keysG S = F.take i ∧ ∀ g ∈ S, g.ps.length ≤ 1) (fun ti _ => n - (intOf ti).toNat)
  case atStart => exact ⟨0, none, 0, [], Nat.zero_le _, rfl, B0.out, H0.out, rfl, fun g hg => by simp at hg⟩
  case round =>
    clear B0 H0
    obtain ⟨i, ao, co, S, hi, rfl, hb, hsh, hk, hl⟩ := hrel
    have B1 : Hid (Below w.heap.size w wr) := hb
    have S1 : Hid (SH wr w.heap.size w.heap.size (.slice ao S.length co) S) := hsh
    have HK : Hid (keysG S = F.take i) := hk
    have HL : Hid (∀ g ∈ S, g.ps.length ≤ 1) := hl
    clear hb hsh hk hl
    by_cases hlt : i < n
    · have hin : (i : Int) < n := by omega
      have hiF : i < F.length := by rw [HN.out]; exact hlt
      obtain ⟨b, off, e, c1, c2⟩ := (HF.out.below B1.out) i hiF
      subst e
      have hsl : S.length = i := by rw [← keys_len, HK.out, List.length_take]; omega
      have HTK : Hid (F.take (i + 1) = F.take i ++ [F.getD i fi0]) := take_snocF F i hiF
      generalize F.getD i fi0 = f at *
      obtain ⟨x, y⟩ := f
      simp only at c1 c2
      have hww : w.heap.size < wr.heap.size := S1.out.lt
      obtain ⟨s0, sf⟩ := cell1 S1.out.row
      rw [hsl] at s0
      have SR : Hid (wr.heap[w.heap.size]? = some (.cells #[.slice ao i co] 88 (0, 0))) := by have := S1.out.row; rw [hsl] at this; exact this
      have B2 : Hid (Below w.heap.size w (((wr.alloc (.cells #[.string x, .string y] 55)).alloc (.cells #[.string y] 9)).alloc (.cells #[.string x, .slice (some ⟨wr.heap.size + 1, 0, none⟩) 1 1, .int .i64 y.size] 90))) := ((B1.out.alloc B1.out.size _).alloc (by simp; omega) _).alloc (by simp; omega) _
      have O2 : Hid ((((wr.alloc (.cells #[.string x, .string y] 55)).alloc (.cells #[.string y] 9)).alloc (.cells #[.string x, .slice (some ⟨wr.heap.size + 1, 0, none⟩) 1 1, .int .i64 y.size] 90)).ownsRow w.heap.size 90 3 (.slice ao i co) i (rowG S)) := by
        have := ((S1.out.r.alloc (.cells #[.string x, .string y] 55)).alloc (.cells #[.string y] 9)).alloc (.cells #[.string x, .slice (some ⟨wr.heap.size + 1, 0, none⟩) 1 1, .int .i64 y.size] 90)
        rw [hsl] at this
        exact this
      have MORE : Hid (∀ w4 ao' co', (((wr.alloc (.cells #[.string x, .string y] 55)).alloc (.cells #[.string y] 9)).alloc (.cells #[.string x, .slice (some ⟨wr.heap.size + 1, 0, none⟩) 1 1, .int .i64 y.size] 90)).drew.grownBy w4 (Value.slice ao i co).ownBlock → w4.ownsRow w.heap.size 90 3 (.slice ao' (i + 1) co') (i + 1) (rowG S ++ [.string x, .slice (some ⟨wr.heap.size + 1, 0, none⟩) 1 1, .int .i64 y.size]) → w4.heap[w.heap.size]? = some (.cells #[.slice ao i co] 88 (0, 0)) ∧ ∃ S', SH (w4.setCell ⟨w.heap.size, 0, none⟩ (.slice ao' (i + 1) co')) w.heap.size w.heap.size (.slice ao' S'.length co') S' ∧ keysG S' = F.take (i + 1) ∧ ∀ g ∈ S', g.ps.length ≤ 1) := fun w4 ao' co' hg ho => by
        have := SH.more (x := x) (y := y) (fv' := .slice ao' (i + 1) co') S1.out B1.out.size (box := #[.string x, .string y]) (T := 55) (g := wr.heap.size + 1) (by simp) (grownV_of_drew (by rw [hsl]; exact hg)) (by rw [hsl]; exact ho)
        refine ⟨by have h1 := this.1; rw [hsl] at h1; exact h1, S ++ [⟨x, some ⟨wr.heap.size + 1, 0, none⟩, [y], 1, y.size⟩], by rw [List.length_append, hsl]; exact this.2, ?_, fun g hg => ?_⟩
        · rw [HTK.out, ← HK.out]
          simp [keysG, GR.key, jn_one]
        · rcases List.mem_append.1 hg with hg | hg
          · exact HL.out g hg
          · have : g = ⟨x, some ⟨wr.heap.size + 1, 0, none⟩, [y], 1, y.size⟩ := by simpa using hg
            subst this
            exact Nat.le_refl _
      clear hsl
      go_wp2_with fail
      have kR0 : Hid ((wr.alloc (.cells #[.string x, .string y] 55)).heap[wr.heap.size]? = some (.cells #[.string x, .string y] 55 (0, 0))) := heap_alloc_new _ _
      have kS0 := cells2 kR0.out
      have sR0 : Hid ((wr.alloc (.cells #[.string x, .string y] 55)).heap[w.heap.size]? = some (.cells #[.slice ao i co] 88 (0, 0))) := (heap_alloc_old _ _ hww).trans SR.out
      have sc0 := (cell1 sR0.out).1
      have kR1 : Hid (((wr.alloc (.cells #[.string x, .string y] 55)).alloc (.cells #[.string y] 9)).heap[wr.heap.size]? = some (.cells #[.string x, .string y] 55 (0, 0))) := (heap_alloc_old _ _ (row_lt kR0.out)).trans kR0.out
      have kS1 := cells2 kR1.out
      have sR1 : Hid (((wr.alloc (.cells #[.string x, .string y] 55)).alloc (.cells #[.string y] 9)).heap[w.heap.size]? = some (.cells #[.slice ao i co] 88 (0, 0))) := (heap_alloc_old _ _ (row_lt sR0.out)).trans sR0.out
      have sc1 := (cell1 sR1.out).1
      have kR2 : Hid ((((wr.alloc (.cells #[.string x, .string y] 55)).alloc (.cells #[.string y] 9)).alloc (.cells #[.string x, .slice (some ⟨wr.heap.size + 1, 0, none⟩) 1 1, .int .i64 y.size] 90)).heap[wr.heap.size]? = some (.cells #[.string x, .string y] 55 (0, 0))) := (heap_alloc_old _ _ (row_lt kR1.out)).trans kR1.out
      have kS2 := cells2 kR2.out
      have sR2 : Hid ((((wr.alloc (.cells #[.string x, .string y] 55)).alloc (.cells #[.string y] 9)).alloc (.cells #[.string x, .slice (some ⟨wr.heap.size + 1, 0, none⟩) 1 1, .int .i64 y.size] 90)).heap[w.heap.size]? = some (.cells #[.slice ao i co] 88 (0, 0))) := (heap_alloc_old _ _ (row_lt sR1.out)).trans sR1.out
      have sc2 := (cell1 sR2.out).1
      refine wp_region_held_drew (S := (fun W => W.cell? ⟨wr.heap.size, 0, none⟩ = some (.string x) ∧ W.cell? ⟨wr.heap.size, 1, none⟩ = some (.string y))) (by kernel_rfl) ?_ (fun hHeld => ?_)
      · exact kS0
      refine wpAnyH_take (i := 0) (v := ?_) rfl (by kernel_rfl) (by kernel_rfl) (by kernel_rfl) (fun _ _ _ h => h) (Or.inl ⟨by kernel_rfl, ?_⟩) hHeld ?_
      rotate_left 1; focus (intro w hSw; (try dsimp only at hSw); (try go_split_ands); go_simp; all_goals (first | done | with_reducible rfl))
      change wpAnyH _ _ _ _ _ _ _ (Act.put _ (some 14) _) _; simp only [Act.put, List.setIfInBounds_toArray, List.set_cons_zero, List.set_cons_succ]
      refine wpAnyH_take (i := 1) (v := ?_) rfl (by kernel_rfl) (by kernel_rfl) (by kernel_rfl) (fun _ _ _ h => h) (Or.inl ⟨by kernel_rfl, ?_⟩) hHeld ?_
      rotate_left 1; focus (intro w hSw; (try dsimp only at hSw); (try go_split_ands); go_simp; all_goals (first | done | with_reducible rfl))
      change wpAnyH _ _ _ _ _ _ _ (Act.put _ (some 15) _) _; simp only [Act.put, List.setIfInBounds_toArray, List.set_cons_zero, List.set_cons_succ]
      refine wpAnyH_take (i := 2) (v := ?_) rfl (by kernel_rfl) (by kernel_rfl) (by kernel_rfl) (fun _ _ _ h => h) (Or.inl ⟨by kernel_rfl, ?_⟩) hHeld ?_
      rotate_left 1; focus (intro w hSw; (try dsimp only at hSw); (try go_split_ands); go_simp; all_goals (first | done | with_reducible rfl))
      change wpAnyH _ _ _ _ _ _ _ (Act.put _ (some 16) _) _; simp only [Act.put, List.setIfInBounds_toArray, List.set_cons_zero, List.set_cons_succ]
      refine wpAnyH_take (i := 3) (v := ?_) rfl (by kernel_rfl) (by kernel_rfl) (by kernel_rfl) (fun _ _ _ h => h) (Or.inl ⟨by kernel_rfl, ?_⟩) hHeld ?_
      rotate_left 1; focus (intro w hSw; (try dsimp only at hSw); (try go_split_ands); go_simp; all_goals (first | done | with_reducible rfl))
      change wpAnyH _ _ _ _ _ _ _ (Act.put _ (some 17) _) _; simp only [Act.put, List.setIfInBounds_toArray, List.set_cons_zero, List.set_cons_succ]
      refine wpAnyH_take (i := 5) (v := ?_) rfl (by kernel_rfl) (by kernel_rfl) (by kernel_rfl) (fun _ _ _ h => h) (Or.inl ⟨by kernel_rfl, ?_⟩) hHeld ?_
      rotate_left 1; focus (intro w hSw; (try dsimp only at hSw); (try go_split_ands); go_simp; all_goals (first | done | with_reducible rfl))
      change wpAnyH _ _ _ _ _ _ _ (Act.put _ (some 19) _) _; simp only [Act.put, List.setIfInBounds_toArray, List.set_cons_zero, List.set_cons_succ]
      refine wpAnyH_take (i := 6) (v := ?_) rfl (by kernel_rfl) (by kernel_rfl) (by kernel_rfl) (fun _ _ _ h => h) (Or.inl ⟨by kernel_rfl, ?_⟩) hHeld ?_
      rotate_left 1; focus (intro w hSw; (try dsimp only at hSw); (try go_split_ands); go_simp; all_goals (first | done | with_reducible rfl))
      change wpAnyH _ _ _ _ _ _ _ (Act.put _ (some 20) _) _; simp only [Act.put, List.setIfInBounds_toArray, List.set_cons_zero, List.set_cons_succ]
      refine wpAnyH_take (i := 7) (v := ?_) rfl (by kernel_rfl) (by kernel_rfl) (by kernel_rfl) (fun _ _ _ h => h) (Or.inl ⟨by kernel_rfl, ?_⟩) hHeld ?_
      rotate_left 1; focus (intro w hSw; (try dsimp only at hSw); (try go_split_ands); go_simp; all_goals (first | done | with_reducible rfl))
      change wpAnyH _ _ _ _ _ _ _ (Act.put _ (some 21) _) _; simp only [Act.put, List.setIfInBounds_toArray, List.set_cons_zero, List.set_cons_succ]
      refine wpAnyH_take (i := 8) (v := ?_) rfl (by kernel_rfl) (by kernel_rfl) (by kernel_rfl) (fun _ _ _ h => h) (Or.inl ⟨by kernel_rfl, ?_⟩) hHeld ?_
      rotate_left 1; focus (intro w hSw; (try dsimp only at hSw); (try go_split_ands); go_simp; all_goals (first | done | with_reducible rfl))
      change wpAnyH _ _ _ _ _ _ _ (Act.put _ (some 22) _) _; simp only [Act.put, List.setIfInBounds_toArray, List.set_cons_zero, List.set_cons_succ]
      refine wpAnyH_take (i := 10) (v := ?_) rfl (by kernel_rfl) (by kernel_rfl) (by kernel_rfl) (fun _ _ _ h => h) (Or.inl ⟨by kernel_rfl, ?_⟩) hHeld ?_
      rotate_left 1; focus (intro w hSw; (try dsimp only at hSw); (try go_split_ands); go_simp; all_goals (first | done | with_reducible rfl))
      change wpAnyH _ _ _ _ _ _ _ (Act.put _ (some 24) _) _; simp only [Act.put, List.setIfInBounds_toArray, List.set_cons_zero, List.set_cons_succ]
      refine wpAnyH_take (i := 11) (v := ?_) rfl (by kernel_rfl) (by kernel_rfl) (by kernel_rfl) (fun _ _ _ h => h) (Or.inl ⟨by kernel_rfl, ?_⟩) hHeld ?_
      rotate_left 1; focus (intro w hSw; (try dsimp only at hSw); (try go_split_ands); go_simp; all_goals (first | done | with_reducible rfl))
      change wpAnyH _ _ _ _ _ _ _ (Act.put _ (some 25) _) _; simp only [Act.put, List.setIfInBounds_toArray, List.set_cons_zero, List.set_cons_succ]
      refine wpAnyH_take (i := 12) (v := ?_) rfl (by kernel_rfl) (by kernel_rfl) (by kernel_rfl) (fun _ _ _ h => h) (Or.inl ⟨by kernel_rfl, ?_⟩) hHeld ?_
      rotate_left 1; focus (intro w hSw; (try dsimp only at hSw); (try go_split_ands); go_simp; all_goals (first | done | with_reducible rfl))
      change wpAnyH _ _ _ _ _ _ _ (Act.put _ (some 26) _) _; simp only [Act.put, List.setIfInBounds_toArray, List.set_cons_zero, List.set_cons_succ]
      refine wpAnyH_ready (rs := [4, 9]) (by kernel_rfl) (by simp) ?_
      refine AllReadyH.cons rfl (fun K hK => ?_) ?_
      · skip
        (try simp only [Act.put, List.setIfInBounds_toArray])
        go_simp
        refine hK.out _ _ ?_ (fun hHeld => ?_)
        · first | with_reducible exact hHeld | exact kS0 | exact kS1 | exact kS2
        clear hK K
        refine wpAnyH_ready (rs := [9]) (by kernel_rfl) (by simp) ?_
        refine AllReadyH.cons rfl (fun K hK => ?_) AllReadyH.nil
        (try simp only [Act.put, List.setIfInBounds_toArray])
        go_simp
        refine hK.out _ _ ?_ (fun hHeld => ?_)
        · first | exact kS1 | exact kS2
        clear hK K
        refine wpAnyH_take (i := 13) (v := ?_) rfl (by kernel_rfl) (by kernel_rfl) (by kernel_rfl) (fun _ _ _ h => h) (Or.inl ⟨by kernel_rfl, ?_⟩) hHeld ?_
        rotate_left 1; focus (intro w hSw; (try dsimp only at hSw); (try go_split_ands); go_simp; all_goals (first | done | with_reducible rfl))
        change wpAnyH _ _ _ _ _ _ _ (Act.put _ (some 27) _) _; simp only [Act.put, List.setIfInBounds_toArray, List.set_cons_zero, List.set_cons_succ]
        refine wpAnyH_ready (rs := [14]) (by kernel_rfl) (by simp) ?_
        refine AllReadyH.cons rfl (fun K hK => ?_) AllReadyH.nil
        (try simp only [Act.put, List.setIfInBounds_toArray])
        go_simp
        refine hK.out _ _ ?_ (fun hHeld => ?_)
        · first | exact kS1 | exact kS2
        clear hK K
        refine wpAnyH_ready (rs := [15]) (by kernel_rfl) (by simp) ?_
        refine AllReadyH.cons rfl (fun K hK => ?_) AllReadyH.nil
        refine step_append_vals Try.underlying86 infG (by rfl) (by decide) rfl (.tmp 18) (.tmp 28) rfl w.heap.size (.slice ao i co) i (rowG S) rfl O2.out (wr.heap.size + 2) 0 1 1 [.string x, .slice (some ⟨wr.heap.size + 1, 0, none⟩) 1 1, .int .i64 y.size] rfl rfl (three_row _ _ _ _ _ _ (by simp)) (by simp [Value.oneCell']) (by omega) (by omega) B2.out.size ?_
        intro v' w4 hown hg hbk hnl
        obtain ⟨ao', co', rfl⟩ := own_anyV hown
        obtain ⟨hr4, S4, hs4, hk4, hl4⟩ := MORE.out w4 ao' co' hg hown
        have SH4 : Hid (SH (w4.setCell ⟨w.heap.size, 0, none⟩ (.slice ao' (i + 1) co')) w.heap.size w.heap.size (.slice ao' S4.length co') S4) := hs4
        have HK4 : Hid (keysG S4 = F.take (i + 1)) := hk4
        have HL4 : Hid (∀ g ∈ S4, g.ps.length ≤ 1) := hl4
        have B4 : Hid (Below w.heap.size w w4) := B2.out.drew.grown hg B2.out.size (fun k e => (O2.out.lt k e).1)
        have kR4 : w4.heap[wr.heap.size]? = some (.cells #[.string x, .string y] 55 (0, 0)) := (hg.block _ (row_lt kR2.out) (own_otherT O2.out kR2.out (by decide))).trans kR2.out
        have kS4 := cells2 kR4
        obtain ⟨t0, tf⟩ := cell1 hr4
        have kS5 : (fun W => W.cell? ⟨wr.heap.size, 0, none⟩ = some (.string x) ∧ W.cell? ⟨wr.heap.size, 1, none⟩ = some (.string y)) (w4.setCell ⟨w.heap.size, 0, none⟩ (.slice ao' (i + 1) co')) := ⟨keep_setT kS4.1 (by show wr.heap.size ≠ w.heap.size; omega), keep_setT kS4.2 (by show wr.heap.size ≠ w.heap.size; omega)⟩
        clear hown hg hnl hbk hr4 hs4 hk4 hl4 kR4
        refine hK.out _ _ ?_ (fun hHeld => ?_)
        · exact kS4
        clear hK K
        change wpAnyH _ _ _ _ _ _ _ (Act.put _ (some 29) _) _
        simp only [Act.put, List.setIfInBounds_toArray, List.set_cons_zero, List.set_cons_succ]
        refine wpAnyH_take (i := 16) (v := ?_) rfl (by kernel_rfl) (by kernel_rfl) (by kernel_rfl) (fun _ _ _ h => h) (Or.inl ⟨by kernel_rfl, ?_⟩) hHeld ?_
        rotate_left 1; focus (intro w hSw; (try dsimp only at hSw); (try go_split_ands); go_simp; all_goals (first | done | with_reducible rfl))
        change wpAnyH _ _ _ _ _ _ _ (Act.put _ (some 30) _) _; simp only [Act.put, List.setIfInBounds_toArray, List.set_cons_zero, List.set_cons_succ]
        refine wpAnyH_take (i := 17) (v := ?_) rfl (by kernel_rfl) (by kernel_rfl) (by kernel_rfl) (fun _ _ _ h => h) (Or.inl ⟨by kernel_rfl, ?_⟩) hHeld ?_
        rotate_left 1; focus (intro w hSw; (try dsimp only at hSw); (try go_split_ands); go_simp; all_goals (first | done | with_reducible rfl))
        change wpAnyH _ _ _ _ _ _ _ (Act.put _ (some 31) _) _; simp only [Act.put, List.setIfInBounds_toArray, List.set_cons_zero, List.set_cons_succ]
        refine wpAnyH_ready (rs := [18]) (by kernel_rfl) (by simp) ?_
        refine AllReadyH.cons rfl (fun K hK => ?_) AllReadyH.nil
        go_simp
        refine hK.out _ _ ?_ (fun hHeld => ?_)
        · exact kS5
        clear hK K
        refine wpAnyH_done (by kernel_rfl) ?_ _
        clear hHeld kS4 kS5 t0 tf kS0 kS1 kS2 sc0 sc1 sc2
        go_wp2
        go_roundw
        case rel => exact ⟨i + 1, ao', co', S4, by omega, by first | rfl | go_num, B4.out.setCell (Nat.le_refl _) _, SH4.out, HK4.out, HL4.out⟩
        case measure => simp [intOf]; omega
      refine AllReadyH.cons rfl (fun K hK => ?_) AllReadyH.nil
      (try simp only [Act.put, List.setIfInBounds_toArray])
      go_simp
      refine hK.out _ _ ?_ (fun hHeld => ?_)
      · first | exact kS1 | exact kS2
      clear hK K
      refine wpAnyH_take (i := 13) (v := ?_) rfl (by kernel_rfl) (by kernel_rfl) (by kernel_rfl) (fun _ _ _ h => h) (Or.inl ⟨by kernel_rfl, ?_⟩) hHeld ?_
      rotate_left 1; focus (intro w hSw; (try dsimp only at hSw); (try go_split_ands); go_simp; all_goals (first | done | with_reducible rfl))
      change wpAnyH _ _ _ _ _ _ _ (Act.put _ (some 27) _) _; simp only [Act.put, List.setIfInBounds_toArray, List.set_cons_zero, List.set_cons_succ]
      refine wpAnyH_ready (rs := [4, 14]) (by kernel_rfl) (by simp) ?_
      refine AllReadyH.cons rfl (fun K hK => ?_) ?_
      · skip
        (try simp only [Act.put, List.setIfInBounds_toArray])
        go_simp
        refine hK.out _ _ ?_ (fun hHeld => ?_)
        · first | with_reducible exact hHeld | exact kS0 | exact kS1 | exact kS2
        clear hK K
        refine wpAnyH_ready (rs := [14]) (by kernel_rfl) (by simp) ?_
        refine AllReadyH.cons rfl (fun K hK => ?_) AllReadyH.nil
        (try simp only [Act.put, List.setIfInBounds_toArray])
        go_simp
        refine hK.out _ _ ?_ (fun hHeld => ?_)
        · first | exact kS1 | exact kS2
        clear hK K
        refine wpAnyH_ready (rs := [15]) (by kernel_rfl) (by simp) ?_
        refine AllReadyH.cons rfl (fun K hK => ?_) AllReadyH.nil
        refine step_append_vals Try.underlying86 infG (by rfl) (by decide) rfl (.tmp 18) (.tmp 28) rfl w.heap.size (.slice ao i co) i (rowG S) rfl O2.out (wr.heap.size + 2) 0 1 1 [.string x, .slice (some ⟨wr.heap.size + 1, 0, none⟩) 1 1, .int .i64 y.size] rfl rfl (three_row _ _ _ _ _ _ (by simp)) (by simp [Value.oneCell']) (by omega) (by omega) B2.out.size ?_
        intro v' w4 hown hg hbk hnl
        obtain ⟨ao', co', rfl⟩ := own_anyV hown
        obtain ⟨hr4, S4, hs4, hk4, hl4⟩ := MORE.out w4 ao' co' hg hown
        have SH4 : Hid (SH (w4.setCell ⟨w.heap.size, 0, none⟩ (.slice ao' (i + 1) co')) w.heap.size w.heap.size (.slice ao' S4.length co') S4) := hs4
        have HK4 : Hid (keysG S4 = F.take (i + 1)) := hk4
        have HL4 : Hid (∀ g ∈ S4, g.ps.length ≤ 1) := hl4
        have B4 : Hid (Below w.heap.size w w4) := B2.out.drew.grown hg B2.out.size (fun k e => (O2.out.lt k e).1)
        have kR4 : w4.heap[wr.heap.size]? = some (.cells #[.string x, .string y] 55 (0, 0)) := (hg.block _ (row_lt kR2.out) (own_otherT O2.out kR2.out (by decide))).trans kR2.out
        have kS4 := cells2 kR4
        obtain ⟨t0, tf⟩ := cell1 hr4
        have kS5 : (fun W => W.cell? ⟨wr.heap.size, 0, none⟩ = some (.string x) ∧ W.cell? ⟨wr.heap.size, 1, none⟩ = some (.string y)) (w4.setCell ⟨w.heap.size, 0, none⟩ (.slice ao' (i + 1) co')) := ⟨keep_setT kS4.1 (by show wr.heap.size ≠ w.heap.size; omega), keep_setT kS4.2 (by show wr.heap.size ≠ w.heap.size; omega)⟩
        clear hown hg hnl hbk hr4 hs4 hk4 hl4 kR4
        refine hK.out _ _ ?_ (fun hHeld => ?_)
        · exact kS4
        clear hK K
        change wpAnyH _ _ _ _ _ _ _ (Act.put _ (some 29) _) _
        simp only [Act.put, List.setIfInBounds_toArray, List.set_cons_zero, List.set_cons_succ]
        refine wpAnyH_take (i := 16) (v := ?_) rfl (by kernel_rfl) (by kernel_rfl) (by kernel_rfl) (fun _ _ _ h => h) (Or.inl ⟨by kernel_rfl, ?_⟩) hHeld ?_
        rotate_left 1; focus (intro w hSw; (try dsimp only at hSw); (try go_split_ands); go_simp; all_goals (first | done | with_reducible rfl))
        change wpAnyH _ _ _ _ _ _ _ (Act.put _ (some 30) _) _; simp only [Act.put, List.setIfInBounds_toArray, List.set_cons_zero, List.set_cons_succ]
        refine wpAnyH_take (i := 17) (v := ?_) rfl (by kernel_rfl) (by kernel_rfl) (by kernel_rfl) (fun _ _ _ h => h) (Or.inl ⟨by kernel_rfl, ?_⟩) hHeld ?_
        rotate_left 1; focus (intro w hSw; (try dsimp only at hSw); (try go_split_ands); go_simp; all_goals (first | done | with_reducible rfl))
        change wpAnyH _ _ _ _ _ _ _ (Act.put _ (some 31) _) _; simp only [Act.put, List.setIfInBounds_toArray, List.set_cons_zero, List.set_cons_succ]
        refine wpAnyH_ready (rs := [18]) (by kernel_rfl) (by simp) ?_
        refine AllReadyH.cons rfl (fun K hK => ?_) AllReadyH.nil
        go_simp
        refine hK.out _ _ ?_ (fun hHeld => ?_)
        · exact kS5
        clear hK K
        refine wpAnyH_done (by kernel_rfl) ?_ _
        clear hHeld kS4 kS5 t0 tf kS0 kS1 kS2 sc0 sc1 sc2
        go_wp2
        go_roundw
        case rel => exact ⟨i + 1, ao', co', S4, by omega, by first | rfl | go_num, B4.out.setCell (Nat.le_refl _) _, SH4.out, HK4.out, HL4.out⟩
        case measure => simp [intOf]; omega
      refine AllReadyH.cons rfl (fun K hK => ?_) AllReadyH.nil
      (try simp only [Act.put, List.setIfInBounds_toArray])
      go_simp
      refine hK.out _ _ ?_ (fun hHeld => ?_)
      · first | exact kS1 | exact kS2
      clear hK K
      refine wpAnyH_ready (rs := [4]) (by kernel_rfl) (by simp) ?_
      refine AllReadyH.cons rfl (fun K hK => ?_) AllReadyH.nil
      (try simp only [Act.put, List.setIfInBounds_toArray])
      go_simp
      refine hK.out _ _ ?_ (fun hHeld => ?_)
      · first | with_reducible exact hHeld | exact kS0 | exact kS1 | exact kS2
      clear hK K
      refine wpAnyH_ready (rs := [15]) (by kernel_rfl) (by simp) ?_
      refine AllReadyH.cons rfl (fun K hK => ?_) AllReadyH.nil
      refine step_append_vals Try.underlying86 infG (by rfl) (by decide) rfl (.tmp 18) (.tmp 28) rfl w.heap.size (.slice ao i co) i (rowG S) rfl O2.out (wr.heap.size + 2) 0 1 1 [.string x, .slice (some ⟨wr.heap.size + 1, 0, none⟩) 1 1, .int .i64 y.size] rfl rfl (three_row _ _ _ _ _ _ (by simp)) (by simp [Value.oneCell']) (by omega) (by omega) B2.out.size ?_
      intro v' w4 hown hg hbk hnl
      obtain ⟨ao', co', rfl⟩ := own_anyV hown
      obtain ⟨hr4, S4, hs4, hk4, hl4⟩ := MORE.out w4 ao' co' hg hown
      have SH4 : Hid (SH (w4.setCell ⟨w.heap.size, 0, none⟩ (.slice ao' (i + 1) co')) w.heap.size w.heap.size (.slice ao' S4.length co') S4) := hs4
      have HK4 : Hid (keysG S4 = F.take (i + 1)) := hk4
      have HL4 : Hid (∀ g ∈ S4, g.ps.length ≤ 1) := hl4
      have B4 : Hid (Below w.heap.size w w4) := B2.out.drew.grown hg B2.out.size (fun k e => (O2.out.lt k e).1)
      have kR4 : w4.heap[wr.heap.size]? = some (.cells #[.string x, .string y] 55 (0, 0)) := (hg.block _ (row_lt kR2.out) (own_otherT O2.out kR2.out (by decide))).trans kR2.out
      have kS4 := cells2 kR4
      obtain ⟨t0, tf⟩ := cell1 hr4
      have kS5 : (fun W => W.cell? ⟨wr.heap.size, 0, none⟩ = some (.string x) ∧ W.cell? ⟨wr.heap.size, 1, none⟩ = some (.string y)) (w4.setCell ⟨w.heap.size, 0, none⟩ (.slice ao' (i + 1) co')) := ⟨keep_setT kS4.1 (by show wr.heap.size ≠ w.heap.size; omega), keep_setT kS4.2 (by show wr.heap.size ≠ w.heap.size; omega)⟩
      clear hown hg hnl hbk hr4 hs4 hk4 hl4 kR4
      refine hK.out _ _ ?_ (fun hHeld => ?_)
      · exact kS4
      clear hK K
      change wpAnyH _ _ _ _ _ _ _ (Act.put _ (some 29) _) _
      simp only [Act.put, List.setIfInBounds_toArray, List.set_cons_zero, List.set_cons_succ]
      refine wpAnyH_take (i := 16) (v := ?_) rfl (by kernel_rfl) (by kernel_rfl) (by kernel_rfl) (fun _ _ _ h => h) (Or.inl ⟨by kernel_rfl, ?_⟩) hHeld ?_
      rotate_left 1; focus (intro w hSw; (try dsimp only at hSw); (try go_split_ands); go_simp; all_goals (first | done | with_reducible rfl))
      change wpAnyH _ _ _ _ _ _ _ (Act.put _ (some 30) _) _; simp only [Act.put, List.setIfInBounds_toArray, List.set_cons_zero, List.set_cons_succ]
      refine wpAnyH_take (i := 17) (v := ?_) rfl (by kernel_rfl) (by kernel_rfl) (by kernel_rfl) (fun _ _ _ h => h) (Or.inl ⟨by kernel_rfl, ?_⟩) hHeld ?_
      rotate_left 1; focus (intro w hSw; (try dsimp only at hSw); (try go_split_ands); go_simp; all_goals (first | done | with_reducible rfl))
      change wpAnyH _ _ _ _ _ _ _ (Act.put _ (some 31) _) _; simp only [Act.put, List.setIfInBounds_toArray, List.set_cons_zero, List.set_cons_succ]
      refine wpAnyH_ready (rs := [18]) (by kernel_rfl) (by simp) ?_
      refine AllReadyH.cons rfl (fun K hK => ?_) AllReadyH.nil
      go_simp
      refine hK.out _ _ ?_ (fun hHeld => ?_)
      · exact kS5
      clear hK K
      refine wpAnyH_done (by kernel_rfl) ?_ _
      clear hHeld kS4 kS5 t0 tf kS0 kS1 kS2 sc0 sc1 sc2
      go_wp2
      go_roundw
      case rel => exact ⟨i + 1, ao', co', S4, by omega, by first | rfl | go_num, B4.out.setCell (Nat.le_refl _) _, SH4.out, HK4.out, HL4.out⟩
      case measure => simp [intOf]; omega
    · have hin : i = n := by omega
      subst hin
      have HKE : Hid (keysG S = F) := by show _ = _; rw [HK.out, ← HN.out, List.take_length]
      go_wp2
      go_ret
      exact ⟨_, S, rfl, B1.out, S1.out, HKE.out, HL.out⟩

end Go.Proofs.Ytpahhhocgpohbaa
