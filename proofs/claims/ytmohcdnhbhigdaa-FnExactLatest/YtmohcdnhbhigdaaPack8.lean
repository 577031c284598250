import Derived.Test.YtmohcdnhbhigdaaPack5
import Derived.Test.YtmohcdnhbhigdaaPack7
namespace Go.Proofs.Ytmohcdnhbhigdaa
open Go.RowKit Go.Shelf
attribute [local go_sem] Oper.semAt_some

/-- The places from the last one on, the first k of them. -/
def backL (m k : Nat) : List Nat := (List.range k).map fun j => m - 1 - j
theorem backL_succ (m k : Nat) : backL m (k + 1) = backL m k ++ [m - 1 - k] := by
  unfold backL
  rw [List.range_succ, List.map_append]
  rfl
theorem backL_length (m k : Nat) : (backL m k).length = k := by simp [backL]

theorem backward_any (ar : Option Addr) (m cr : Nat) (w : World) :
    Calls Try.prog 66 #[.slice ar m cr] w fun e w' => e = .returned (.func (.func 91) #[] #[.pointer (some ⟨w.heap.size, 0, none⟩)]) ∧ w' = w.alloc (.cells #[Value.slice ar m cr] 27) := by
  go_enter Try.func66, Try.ntmps66
  go_wp2
  go_ret
  exact ⟨rfl, rfl⟩

set_option maxHeartbeats 2000000 in
/-- The closure: each order with its place, from the last one on, for whatever loop body that keeps the box. -/
theorem back1_in (nf : Nat) (hnf : 1 ≤ nf) (l Bt n₀ : Nat) (ar : Option Addr) (m cr : Nat) (ros : List Int) (J Jx : List (Fin m) → World → Prop)
    (hY : ∀ pre x W, J pre W → pre.length < m → YieldAt Fence.wide (nf - 1) Try.prog l #[.int .i64 (x.val : Int), .agg #[.int .i64 (og6 ros x.val 0), .int .i64 (og6 ros x.val 1), .int .i64 (og6 ros x.val 2), .int .i64 (og6 ros x.val 3), .int .i64 (og6 ros x.val 4), .int .i64 (og6 ros x.val 5)]] W fun e W' =>
      (e = .returned (.bool true) ∧ J (pre ++ [x]) W' ∧ KpT n₀ Bt (.cells #[Value.slice ar m cr] 27 (0, 0)) W W') ∨ (e = .returned (.bool false) ∧ Jx (pre ++ [x]) W'))
    (w W : World) (hJA : AbidesFrom W.heap.size J) (hn₀ : w.heap.size ≤ n₀) (hwW : Below w.heap.size w W) (hT : W.heap[Bt]? = some (.cells #[Value.slice ar m cr] 27 (0, 0))) (hR : IntsAt w ar ros) (hl : ros.length = m * 6) (hm12 : m ≤ 12) (h0 : J [] W) :
    Calls Try.prog 91 #[.func (.yield l) #[] #[], .pointer (some ⟨Bt, 0, none⟩)] W fun e W' => (∃ v, e = .returned v) ∧
      ((∃ ys : List (Fin m), ys.map Fin.val = backL m m ∧ J ys W') ∨ (∃ pre : List (Fin m), (∃ k, k ≤ m ∧ pre.map Fin.val = backL m k) ∧ Jx pre W')) := by
  have HR : Hid (IntsAt w ar ros) := hR
  have HL : Hid (ros.length = m * 6) := hl
  have HY : Hid _ := hY
  have HJA : Hid (AbidesFrom W.heap.size J) := hJA
  have HB0 : Hid (Below w.heap.size w W) := hwW
  have HT0 : Hid (W.heap[Bt]? = _) := hT
  have HJ0 : Hid (J [] W) := h0
  clear hR hl hY hJA hwW hT h0
  go_enter Try.func91, Try.ntmps91
  have t0 := cell_of_row _ _ 0 _ _ _ HT0.out
  simp at t0
  go_wp2_with fail
  clear t0
  go_loopw [3] (fun t wr => ∃ (k : Nat) (pre : List (Fin m)), k ≤ m ∧ t = .int .i64 ((m : Int) - 1 - k) ∧ pre.map Fin.val = backL m k ∧ J pre wr ∧ Below w.heap.size w wr ∧ W.heap.size ≤ wr.heap.size ∧ wr.heap[Bt]? = some (.cells #[Value.slice ar m cr] 27 (0, 0))) (fun t _ => (intOf t + 1).toNat)
  case atStart => exact ⟨0, [], Nat.zero_le _, by first | rfl | go_num | (simp; done), rfl, HJ0.out, HB0.out, Nat.le_refl _, HT0.out⟩
  case round =>
    clear HB0 HT0 HJ0
    obtain ⟨k, pre, hk, rfl, hpre, hj, hb, hsz, ht⟩ := hrel
    have HPRE : Hid (pre.map Fin.val = backL m k) := hpre
    have HJ : Hid (J pre wr) := hj
    have HB : Hid (Below w.heap.size w wr) := hb
    have HSZ : Hid (W.heap.size ≤ wr.heap.size) := hsz
    have HT : Hid (wr.heap[Bt]? = _) := ht
    have t0 := cell_of_row _ _ 0 _ _ _ ht
    simp at t0
    clear hpre hj hb hsz ht
    by_cases hlt : k < m
    · obtain ⟨i, HI⟩ : ∃ i : Nat, Hid (i = m - 1 - k) := ⟨_, rfl⟩
      have him : i < m := by have := HI.out; omega
      have hii : (m : Int) - 1 - k = (i : Int) := by have := HI.out; omega
      rw [hii]
      obtain ⟨b, off, rfl, hcs⟩ := IntsAt.some (IntsAt.below HR.out HB.out) (j := i * 6) (by rw [HL.out]; omega)
      obtain ⟨r0, r1, r2, r3, r4, r5⟩ := row6_at hcs HL.out i him
      clear hcs
      have hY1 := HY.out pre ⟨i, him⟩
      obtain ⟨o0, H0⟩ : ∃ t, Hid (og6 ros i 0 = t) := ⟨_, rfl⟩
      obtain ⟨o1, H1⟩ : ∃ t, Hid (og6 ros i 1 = t) := ⟨_, rfl⟩
      obtain ⟨o2, H2⟩ : ∃ t, Hid (og6 ros i 2 = t) := ⟨_, rfl⟩
      obtain ⟨o3, H3⟩ : ∃ t, Hid (og6 ros i 3 = t) := ⟨_, rfl⟩
      obtain ⟨o4, H4⟩ : ∃ t, Hid (og6 ros i 4 = t) := ⟨_, rfl⟩
      obtain ⟨o5, H5⟩ : ∃ t, Hid (og6 ros i 5 = t) := ⟨_, rfl⟩
      rw [H0.out] at r0
      rw [H1.out] at r1
      rw [H2.out] at r2
      rw [H3.out] at r3
      rw [H4.out] at r4
      rw [H5.out] at r5
      dsimp only at hY1
      rw [H0.out, H1.out, H2.out, H3.out, H4.out, H5.out] at hY1
      have HY1 : Hid (∀ W, J pre W → pre.length < m → YieldAt Fence.wide (nf - 1) Try.prog l #[.int .i64 (i : Int), .agg #[.int .i64 o0, .int .i64 o1, .int .i64 o2, .int .i64 o3, .int .i64 o4, .int .i64 o5]] W _) := hY1
      have HPRE5 : Hid ((pre ++ [(⟨i, him⟩ : Fin m)]).map Fin.val = backL m (k + 1)) := by
        show _ = _
        rw [List.map_append, HPRE.out, backL_succ, ← HI.out]
        rfl
      have hpl : pre.length < m := by
        have := congrArg List.length HPRE.out
        rw [List.length_map, backL_length] at this
        omega
      have HSUB : Hid ((i : Int) - 1 = (m : Int) - 1 - ((k + 1 : Nat) : Int)) := by show _ = _; omega
      clear hY1 hii
      go_upto_region 3 with (fail)
      refine (wpIn_wide (n := nf)).1 ?_
      obtain ⟨fn, tmps, assign, body, hy, hR⟩ := HY1.out wr HJ.out hpl
      have HRND : Hid (RoundIn Fence.wide (nf - 1) Try.prog l fn tmps assign body wr _) := hR
      clear hR
      gi_wp2
      refine HRND.out.mono ?_
      rintro e W5 (⟨rfl, hJ5, hk5⟩ | ⟨rfl, hJx5⟩)
      · have HJ5 : Hid (J (pre ++ [⟨i, him⟩]) W5) := hJ5
        have HB5 : Hid (Below w.heap.size w W5) := HB.out.trans (hk5.1.mono hn₀)
        have HT5 : Hid (W5.heap[Bt]? = _) := hk5.2 HT.out
        have HS5 : Hid (W.heap.size ≤ W5.heap.size) := Nat.le_trans HSZ.out hk5.1.size
        clear hJ5 hk5 hy HRND
        gi_wp2
        go_wp2
        go_roundw
        case rel => exact ⟨k + 1, _, by omega, by first | exact congrArg (Value.int IntKind.i64) HSUB.out | (have h9 := HSUB.out; simp at h9 ⊢; omega), HPRE5.out, HJ5.out, HB5.out, HS5.out, HT5.out⟩
        case measure => simp [intOf] <;> omega
      · have HJx5 : Hid (Jx (pre ++ [⟨i, him⟩]) W5) := hJx5
        clear hJx5 hy HRND
        gi_wp2
        go_wp2
        refine bodyPost_ret (results_none rfl _ _ _) rfl ?_
        exact ⟨⟨_, rfl⟩, .inr ⟨_, ⟨k + 1, hlt, HPRE5.out⟩, HJx5.out⟩⟩
    · obtain rfl : k = m := by omega
      go_wp2
      go_end0
      exact ⟨⟨_, rfl⟩, .inl ⟨_, HPRE.out, HJ.out⟩⟩

/-- The closure's contract for a loop's caller. -/
theorem back_stops (nf : Nat) (hnf : 1 ≤ nf) (Bt n₀ : Nat) (ar : Option Addr) (m cr : Nat) (ros : List Int) (w w0 : World) (hn₀ : w.heap.size ≤ n₀) (hw0 : Below w.heap.size w w0) (hT : w0.heap[Bt]? = some (.cells #[Value.slice ar m cr] 27 (0, 0))) (hR : IntsAt w ar ros) (hl : ros.length = m * 6) (hm12 : m ≤ 12) :
    SeqStopsK Fence.wide nf Try.prog 91 #[.pointer (some ⟨Bt, 0, none⟩)] (fun x : Fin m => #[.int .i64 (x.val : Int), .agg #[.int .i64 (og6 ros x.val 0), .int .i64 (og6 ros x.val 1), .int .i64 (og6 ros x.val 2), .int .i64 (og6 ros x.val 3), .int .i64 (og6 ros x.val 4), .int .i64 (og6 ros x.val 5)]]) (KpT n₀ Bt (.cells #[Value.slice ar m cr] 27 (0, 0)))
      (fun ys => ys.map Fin.val = backL m m) (fun pre => ∃ k, k ≤ m ∧ pre.map Fin.val = backL m k) m w0 := fun l J Jx W hW hJ _ hY h0 =>
  callsIn_wide.2 (back1_in nf hnf l Bt n₀ ar m cr ros J Jx hY w W hJ hn₀ (hw0.trans (hW.mono hw0.size)) (below_row hW (row_lt hT) hT) hR hl hm12 h0)

end Go.Proofs.Ytmohcdnhbhigdaa

namespace Go.Proofs.Ytmohcdnhbhigdaa
open Go.RowKit Go.Shelf

/-- One step of the way back: the place, the time by which one must be there, the starts so far. -/
def lateStep (n : Int) (zs ros : List Int) (s : Int × Int × List Int) (x : Nat) : Int × Int × List Int :=
  (og6 ros x 1, min (og6 ros x 4) (s.2.1 - tmI n zs (og6 ros x 1) s.1 - og6 ros x 5), s.2.2.set x (min (og6 ros x 4) (s.2.1 - tmI n zs (og6 ros x 1) s.1 - og6 ros x 5)))
def lateS (n : Int) (zs ros : List Int) (m : Nat) (home tz : Int) (pre : List Nat) : Int × Int × List Int := pre.foldl (lateStep n zs ros) (home, tz, List.replicate m 0)
theorem lateS_snoc (n : Int) (zs ros : List Int) (m : Nat) (home tz : Int) (pre : List Nat) (x : Nat) : lateS n zs ros m home tz (pre ++ [x]) = lateStep n zs ros (lateS n zs ros m home tz pre) x := by
  unfold lateS
  rw [List.foldl_append]
  rfl
/-- The starts behind the last k stops. -/
def lateTo (n : Int) (zs ros : List Int) (m : Nat) (home tz : Int) (k : Nat) : List Int := (List.range m).map fun i => if m ≤ i + k then latT n zs ros m home tz (m - i) else 0
theorem lateTo_zero (n : Int) (zs ros : List Int) (m : Nat) (home tz : Int) : lateTo n zs ros m home tz 0 = List.replicate m 0 := by
  apply List.ext_getElem
  · simp [lateTo]
  · intro i h1 h2
    simp [lateTo] at h1 ⊢
    omega
theorem lateTo_all (n : Int) (zs ros : List Int) (m : Nat) (home tz : Int) : lateTo n zs ros m home tz m = latL n zs ros m home tz := by
  unfold lateTo latL
  apply List.map_congr_left
  intro i _
  rw [if_pos (by omega)]
theorem lateTo_succ (n : Int) (zs ros : List Int) (m : Nat) (home tz : Int) {k : Nat} (hk : k < m) : (lateTo n zs ros m home tz k).set (m - 1 - k) (latT n zs ros m home tz (k + 1)) = lateTo n zs ros m home tz (k + 1) := by
  apply List.ext_getElem
  · simp [lateTo]
  · intro i h1 h2
    simp [lateTo] at h1 h2
    rw [List.getElem_set]
    by_cases e : m - 1 - k = i
    · rw [if_pos e]
      simp only [lateTo, List.getElem_map, List.getElem_range]
      rw [if_pos (by omega), show m - i = k + 1 from by omega]
    · rw [if_neg e]
      simp only [lateTo, List.getElem_map, List.getElem_range]
      by_cases h3 : m ≤ i + k
      · rw [if_pos h3, if_pos (by omega)]
      · rw [if_neg h3, if_neg (by omega)]
theorem lateS_back (n : Int) (zs ros : List Int) (m : Nat) (home tz : Int) : ∀ k, k ≤ m → lateS n zs ros m home tz (backL m k) = (nextP ros m home k, latT n zs ros m home tz k, lateTo n zs ros m home tz k)
  | 0, _ => by rw [lateTo_zero]; rfl
  | k + 1, hk => by
    rw [backL_succ, lateS_snoc, lateS_back n zs ros m home tz k (by omega)]
    unfold lateStep
    rw [← lateTo_succ n zs ros m home tz (by omega : k < m), latT_succ, nextP_succ]
theorem lateS_all (n : Int) (zs ros : List Int) (m : Nat) (home tz : Int) : lateS n zs ros m home tz (backL m m) = (nextP ros m home m, latT n zs ros m home tz m, latL n zs ros m home tz) := by
  rw [lateS_back n zs ros m home tz m (Nat.le_refl _), lateTo_all]
theorem lateS_bd {n : Int} {zs ros : List Int} {m : Nat} {home tz : Int} (hz : matB n zs = true) (h : RosBd n ros m) (hh : 0 ≤ home ∧ home < n) (ht : 0 ≤ tz ∧ tz ≤ 1000000) (pre : List (Fin m)) : (0 ≤ (lateS n zs ros m home tz (pre.map Fin.val)).1 ∧ (lateS n zs ros m home tz (pre.map Fin.val)).1 < n) ∧ (-20000 * (pre.length : Int) ≤ (lateS n zs ros m home tz (pre.map Fin.val)).2.1 ∧ (lateS n zs ros m home tz (pre.map Fin.val)).2.1 ≤ 1000000) ∧ (lateS n zs ros m home tz (pre.map Fin.val)).2.2.length = m := by
  obtain ⟨rv, e⟩ : ∃ rv, rv = pre.reverse := ⟨_, rfl⟩
  induction rv generalizing pre with
  | nil =>
    have : pre = [] := by simpa using e.symm
    subst this
    refine ⟨hh, ?_, ?_⟩
    · show -20000 * ((0 : Nat) : Int) ≤ tz ∧ tz ≤ 1000000
      omega
    · simp [lateS]
  | cons x rv ih =>
    have e2 : pre = rv.reverse ++ [x] := by
      have := congrArg List.reverse e
      simpa using this.symm
    subst e2
    obtain ⟨h1, h2, h3⟩ := ih rv.reverse (by simp)
    rw [List.map_append, List.map_cons, List.map_nil, lateS_snoc]
    have hx := h x.val x.isLt
    have hd := tmI_bd hz (og6 ros x.val 1) (lateS n zs ros m home tz (rv.reverse.map Fin.val)).1
    unfold lateStep
    refine ⟨hx.1, ?_, ?_⟩
    · rw [List.length_append, List.length_singleton]
      simp only []
      omega
    · simp only []
      rw [List.length_set]
      exact h3

/-- Inside Latest: the tour's box, the starts and their box, the place's and the time's. -/
def LateAt (w W : World) (ts : Array Value) (m gs bs bp bn : Nat) (pl nw : Int) (xs : List Int) : Prop :=
  Below w.heap.size w W ∧ W.heap[w.heap.size]? = some (.cells ts 81 (0, 0)) ∧ W.heap[gs]? = some (.cells (cellsOf xs) 2 (0, 0)) ∧ W.heap[bs]? = some (.cells #[.slice (some ⟨gs, 0, none⟩) m m] 24 (0, 0)) ∧ W.heap[bp]? = some (.cells #[.int .i64 pl] 2 (0, 0)) ∧ W.heap[bn]? = some (.cells #[.int .i64 nw] 2 (0, 0)) ∧ (w.heap.size < gs ∧ gs < bs ∧ bs < bp ∧ bs < bn ∧ bp ≠ bn)
theorem LateAt.below {w W W' : World} {ts : Array Value} {m gs bs bp bn : Nat} {pl nw : Int} {xs : List Int} (h : LateAt w W ts m gs bs bp bn pl nw xs) (hb : Below W.heap.size W W') : LateAt w W' ts m gs bs bp bn pl nw xs := by
  obtain ⟨h1, h2, h3, h4, h5, h6, h7⟩ := h
  exact ⟨h1.trans (hb.mono h1.size), below_row hb (row_lt h2) h2, below_row hb (row_lt h3) h3, below_row hb (row_lt h4) h4, below_row hb (row_lt h5) h5, below_row hb (row_lt h6) h6, h7⟩
theorem LateAt.own {β : Type} (w : World) (ts : Array Value) (m gs bs bp bn : Nat) (pl nw : β → Int) (xs : β → List Int) (B : Nat) (hB : w.heap.size ≤ B) : OwnFrom B (fun s W => LateAt w W ts m gs bs bp bn (pl s) (nw s) (xs s)) := fun s W W' row hs hg hr =>
  ⟨ownFrom_below (Nat.le_refl _) hB () W W' row hs.1 hg hr, row_own (cs := fun _ : Unit => ts) () W W' row hs.2.1 hg hr, row_own (cs := fun _ : Unit => cellsOf (xs s)) () W W' row hs.2.2.1 hg hr, row_own (cs := fun _ : Unit => #[.slice (some ⟨gs, 0, none⟩) m m]) () W W' row hs.2.2.2.1 hg hr, row_own (cs := fun _ : Unit => #[.int .i64 (pl s)]) () W W' row hs.2.2.2.2.1 hg hr, row_own (cs := fun _ : Unit => #[.int .i64 (nw s)]) () W W' row hs.2.2.2.2.2.1 hg hr, hs.2.2.2.2.2.2⟩
theorem cells_put (xs : List Int) (i : Nat) (v : Int) : (cellsOf xs).setIfInBounds i (.int .i64 v) = cellsOf (xs.set i v) := by
  apply Array.toList_inj.1
  simp [cellsOf, List.map_set]
theorem LateAt.put {w W : World} {ts : Array Value} {m gs bs bp bn : Nat} {pl nw : Int} {xs : List Int} (h : LateAt w W ts m gs bs bp bn pl nw xs) (i : Nat) (v : Int) : LateAt w (W.setCell ⟨gs, i, none⟩ (.int .i64 v)) ts m gs bs bp bn pl nw (xs.set i v) := by
  obtain ⟨h1, h2, h3, h4, h5, h6, h7⟩ := h
  refine ⟨h1.setCell (by simp; omega) _, row_set' h2 (by omega), ?_, row_set' h4 (by omega), row_set' h5 (by omega), row_set' h6 (by omega), h7⟩
  rw [← cells_put]
  exact heap_setCell_same _ _ _ _ _ _ h3
theorem LateAt.set {w W : World} {ts : Array Value} {m gs bs bp bn : Nat} {pl nw : Int} {xs : List Int} (h : LateAt w W ts m gs bs bp bn pl nw xs) (pl' nw' : Int) : LateAt w ((W.setCell ⟨bp, 0, none⟩ (.int .i64 pl')).setCell ⟨bn, 0, none⟩ (.int .i64 nw')) ts m gs bs bp bn pl' nw' xs := by
  obtain ⟨h1, h2, h3, h4, h5, h6, h7, h8, h10, h11, h9⟩ := h
  exact ⟨(h1.setCell (by simp; omega) _).setCell (by simp; omega) _, row_set' (row_set' h2 (by omega)) (by omega), row_set' (row_set' h3 (by omega)) (by omega), row_set' (row_set' h4 (by omega)) (by omega), row_set' (heap_setCell_same _ _ _ _ _ _ h5) h9, heap_setCell_same _ _ _ _ _ _ (row_set' h6 (fun e => h9 e.symm)), h7, h8, h10, h11, h9⟩
theorem LateAt.cell {w W : World} {ts : Array Value} {m gs bs bp bn : Nat} {pl nw : Int} {xs : List Int} (h : LateAt w W ts m gs bs bp bn pl nw xs) {i : Nat} (hi : i < xs.length) : W.cell? ⟨gs, i, none⟩ = some (.int .i64 (xs.getD i 0)) := by
  rw [cell_of_row _ _ i _ _ _ h.2.2.1]
  simp [cellsOf, List.getD, hi]
theorem LateAt.bs {w W : World} {ts : Array Value} {m gs bs bp bn : Nat} {pl nw : Int} {xs : List Int} (h : LateAt w W ts m gs bs bp bn pl nw xs) : W.cell? ⟨bs, 0, none⟩ = some (.slice (some ⟨gs, 0, none⟩) m m) := by
  rw [cell_of_row _ _ 0 _ _ _ h.2.2.2.1]; simp
theorem LateAt.bp {w W : World} {ts : Array Value} {m gs bs bp bn : Nat} {pl nw : Int} {xs : List Int} (h : LateAt w W ts m gs bs bp bn pl nw xs) : W.cell? ⟨bp, 0, none⟩ = some (.int .i64 pl) := by
  rw [cell_of_row _ _ 0 _ _ _ h.2.2.2.2.1]; simp
theorem LateAt.bn {w W : World} {ts : Array Value} {m gs bs bp bn : Nat} {pl nw : Int} {xs : List Int} (h : LateAt w W ts m gs bs bp bn pl nw xs) : W.cell? ⟨bn, 0, none⟩ = some (.int .i64 nw) := by
  rw [cell_of_row _ _ 0 _ _ _ h.2.2.2.2.2.1]; simp
theorem LateAt.lt {w W : World} {ts : Array Value} {m gs bs bp bn : Nat} {pl nw : Int} {xs : List Int} (h : LateAt w W ts m gs bs bp bn pl nw xs) : w.heap.size < gs ∧ gs < bs ∧ bs < bp ∧ bs < bn ∧ bp ≠ bn := h.2.2.2.2.2.2

end Go.Proofs.Ytmohcdnhbhigdaa
