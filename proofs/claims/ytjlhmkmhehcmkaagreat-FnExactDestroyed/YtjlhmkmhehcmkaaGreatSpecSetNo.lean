import Derived.Test.YtjlhmkmhehcmkaaGreatSpecSet
namespace Go.Proofs.YtjlhmkmhehcmkaaGreat
open Go.RowKit
def snoL (R : List RT) (v : Int) : List RT := R.filter (fun x => decide (x.v ≠ v))
def sno (R : List RT) (v : Int) (k : Nat) : List RT := snoL (R.take k) v
theorem sno_all {R : List RT} {v : Int} : sno R v R.length = snoL R v := by rw [sno, List.take_length]
theorem sno_succ {R : List RT} {k : Nat} (v : Int) (hk : k < R.length) : sno R v (k + 1) = sno R v k ++ (if (R.getD k rt0).v = v then [] else [R.getD k rt0]) := by
 unfold sno snoL
 rw [List.take_succ_eq_append_getElem hk, List.filter_append]
 have : R.getD k rt0 = R[k] := by simp [List.getD, hk]
 rw [this]
 by_cases h : R[k].v = v <;> simp [h]
theorem sno_mem {R : List RT} {v : Int} {k : Nat} : ∀ x ∈ sno R v k, x ∈ R := fun _ hx => List.mem_of_mem_take (List.mem_filter.1 hx).1
theorem sno_len {R : List RT} {v : Int} {k : Nat} : (sno R v k).length <= k := Nat.le_trans (List.length_filter_le _ _) (by simp; omega)
theorem sno_step {R : List RT} {v : Int} {k : Nat} {o : List RT} (h : sno R v k = o) (hk : k < R.length) : ((R.getD k rt0).v = v -> sno R v (k + 1) = o) /\ ((R.getD k rt0).v ≠ v -> sno R v (k + 1) = o ++ [R.getD k rt0]) := by
 rw [sno_succ v hk, h]
 exact ⟨fun e => by rw [if_pos e, List.append_nil], fun e => by rw [if_neg e]⟩
def SetNo (w : World) (R : List RT) (v : Int) (L : List Int) (e : Ending) (w' : World) : Prop := ∃ ra rc gl lc S, e = .returned (.agg #[.slice ra S.length rc, .slice (some ⟨gl, 0, none⟩) L.length lc]) /\ Below w.heap.size w w' /\ S.map RT.key = (snoL R v).map RT.key /\ PO w' w.heap.size (.slice ra S.length rc) S (.slice (some ⟨gl, 0, none⟩) L.length lc) L
set_option maxHeartbeats 8000000 in
theorem l4Set_no (ra xx : Option Addr) (bl ol rc lc cr : Nat) (R : List RT) (L : List Int) (rv : Int) (w : World) (hR : RoutesAt w ra R) (hL : IntsAt w (some ⟨bl, ol, none⟩) L) (hn : R.length <= 400) (hi : ∀ r ∈ R, r.ids ≠ [] /\ r.ids.length <= 500) (hl : L.length <= 500) :
   Calls Tryz.prog 26 #[.agg #[.slice ra R.length rc, .slice (some ⟨bl, ol, none⟩) L.length lc], .agg #[.int .i64 rv, .slice xx 0 cr]] w (SetNo w R rv L) := by
 have HR : Hid (RoutesAt w ra R) := hR
 have HL : Hid (IntsAt w (some ⟨bl, ol, none⟩) L) := hL
 have HI : Hid (∀ r ∈ R, r.ids ≠ [] /\ r.ids.length <= 500) := hi
 clear hR hL hi
 obtain ⟨n, HN⟩ : ∃ n, Hid (R.length = n) := ⟨_, rfl⟩
 obtain ⟨m, HM⟩ : ∃ n, Hid (L.length = n) := ⟨_, rfl⟩
 rw [HN.out] at hn ⊢
 rw [HM.out] at hl ⊢
 have B1 : Hid (Below w.heap.size w ((((w.alloc (.cells #[.slice ra n rc, .slice (some ⟨bl, ol, none⟩) m lc] 36)).alloc (.cells #[.int .i64 rv, .slice xx 0 cr] 64)).alloc (.cells #[.slice none 0 0, .slice none 0 0] 36)).alloc (.cells #[] 2))) := ((((Below.refl _ _).alloc (Nat.le_refl _) _).alloc (by simp) _).alloc (by simp; omega) _).alloc (by simp; omega) _
 have P1 : Hid (((((w.alloc (.cells #[.slice ra n rc, .slice (some ⟨bl, ol, none⟩) m lc] 36)).alloc (.cells #[.int .i64 rv, .slice xx 0 cr] 64)).alloc (.cells #[.slice none 0 0, .slice none 0 0] 36)).alloc (.cells #[] 2)).heap[w.heap.size]? = some (.cells #[.slice ra n rc, .slice (some ⟨bl, ol, none⟩) m lc] 36 (0, 0))) := (heap_alloc_old _ _ (by simp; omega)).trans ((heap_alloc_old _ _ (by simp; omega)).trans (heap_alloc2_old _ _ _))
 have X1 : Hid (((((w.alloc (.cells #[.slice ra n rc, .slice (some ⟨bl, ol, none⟩) m lc] 36)).alloc (.cells #[.int .i64 rv, .slice xx 0 cr] 64)).alloc (.cells #[.slice none 0 0, .slice none 0 0] 36)).alloc (.cells #[] 2)).heap[w.heap.size + 1]? = some (.cells #[.int .i64 rv, .slice xx 0 cr] 64 (0, 0))) := (heap_alloc_old _ _ (by simp)).trans ((heap_alloc_old _ _ (by simp)).trans (heap_alloc2_new _ _ _))
 have A1 : Hid (((((w.alloc (.cells #[.slice ra n rc, .slice (some ⟨bl, ol, none⟩) m lc] 36)).alloc (.cells #[.int .i64 rv, .slice xx 0 cr] 64)).alloc (.cells #[.slice none 0 0, .slice none 0 0] 36)).alloc (.cells #[] 2)).heap[w.heap.size + 2]? = some (.cells #[.slice none 0 0, .slice none 0 0] 36 (0, 0))) := (heap_alloc_old _ _ (by simp)).trans (by
   have := heap_alloc_new ((w.alloc (.cells #[.slice ra n rc, .slice (some ⟨bl, ol, none⟩) m lc] 36)).alloc (.cells #[.int .i64 rv, .slice xx 0 cr] 64)) (.cells #[.slice none 0 0, .slice none 0 0] 36)
   simpa using this)
 have O1 : Hid (((((w.alloc (.cells #[.slice ra n rc, .slice (some ⟨bl, ol, none⟩) m lc] 36)).alloc (.cells #[.int .i64 rv, .slice xx 0 cr] 64)).alloc (.cells #[.slice none 0 0, .slice none 0 0] 36)).alloc (.cells #[] 2)).ownsRow (w.heap.size + 3) 2 1 (.slice (some ⟨w.heap.size + 1 + 1 + 1, 0, none⟩) 0 0) 0 (([] : List Int).map (Value.int .i64))) := by
   have := World.ownsRow_made (((w.alloc (.cells #[.slice ra n rc, .slice (some ⟨bl, ol, none⟩) m lc] 36)).alloc (.cells #[.int .i64 rv, .slice xx 0 cr] 64)).alloc (.cells #[.slice none 0 0, .slice none 0 0] 36)) #[] 0 (base := w.heap.size + 3) (e := 2) (size := 1) (by simp) (by unfold maxLen; omega) (by simp)
   show World.ownsRow _ _ _ _ _ _ _
   simpa using this
 obtain ⟨p0, p1⟩ := cells2 P1.out
 obtain ⟨x0, x1⟩ := cells2 X1.out
 go_enter Tryz.func26, Tryz.ntmps26
 go_wp2_with (first
   | (at_builtin
      go_must (refine append_many _ rfl (.tmp 8) (.tmp 10) rfl (w.heap.size + 3) _ 0 [] rfl O1.out bl ol m lc L rfl HM.out (HL.out.below B1.out) (by omega) (by omega) (by simp) ?_)
      go_must (
        intro lv w2 hown hg hbk hnl
        have hsz := B1.out.size
        have hge : ∀ k, (Value.slice (some ⟨w.heap.size + 1 + 1 + 1, 0, none⟩) 0 0).ownBlock = some k -> w.heap.size + 3 <= k := fun k e => by have := own_at e; omega
        have Q2 : Hid (SQ w (w2.alloc (.cells #[.slice none 0 0, lv] 36)) w2.heap.size (.slice ra n rc) (.slice (some ⟨bl, ol, none⟩) m lc) (.int .i64 rv) (.slice xx 0 cr) (.slice none 0 0) lv [] L) := by
          have hb2 : Below w.heap.size w w2 := B1.out.grown hg B1.out.size (fun k e => by have := hge k e; omega)
          have ha : Below w2.heap.size w2 (w2.alloc (.cells #[.slice none 0 0, lv] 36)) := (Below.refl _ _).alloc (Nat.le_refl _) _
          have hp2 := grown_row hg P1.out (fun e => by have := hge _ e.symm; omega)
          have hx2 := grown_row hg X1.out (fun e => by have := hge _ e.symm; omega)
          have ha2 := grown_row hg A1.out (fun e => by have := hge _ e.symm; omega)
          refine ⟨hb2.trans (ha.mono hb2.size), below_row ha (row_lt hp2) hp2, below_row ha (row_lt hx2) hx2, below_row ha (row_lt ha2) ha2, heap_alloc_new _ _, row_lt ha2, World.ownsRow_nil _ _ _ _, ?_⟩
          rw [Nat.zero_add, List.nil_append] at hown
          rw [HM.out]
          exact hown.alloc _
        obtain ⟨gl, cl, e⟩ := own_sm hown (not_nil hnl ⟨_, _, _, rfl⟩)
        rw [Nat.zero_add] at e
        subst e
        obtain ⟨x0, x1⟩ := cells2 Q2.out.x)
      clear hown hg hbk hnl hsz hge))
 clear p0 p1 x0 x1
 obtain ⟨kb, HKB⟩ : ∃ v, Hid (w2.heap.size = v) := ⟨_, rfl⟩
 rw [HKB.out] at Q2 ⊢
 generalize w2.alloc (.cells #[.slice none 0 0, .slice (some ⟨gl, 0, none⟩) m cl] 36) = W2 at *
 go_loopw [6, 7] (fun td t wr => ∃ (k : Nat) (rs : Value) (o : List RT), k <= n /\ t = .int .i64 k /\ td = .bool true /\ sno R rv k = o /\ SQ w wr kb (.slice ra n rc) (.slice (some ⟨bl, ol, none⟩) m lc) (.int .i64 rv) (.slice xx 0 cr) rs (.slice (some ⟨gl, 0, none⟩) m cl) o L) (fun _ t _ => n - (intOf t).toNat)
 case atStart => exact ⟨0, .slice none 0 0, [], Nat.zero_le _, rfl, by first | rfl | simp, rfl, Q2.out⟩
 case round =>
   clear Q2 B1 P1 X1 A1 O1
   obtain ⟨k, rs, o, hk, rfl, rfl, hst, hQ⟩ := hrel
   have Q3 : Hid (SQ w wr kb (.slice ra n rc) (.slice (some ⟨bl, ol, none⟩) m lc) (.int .i64 rv) (.slice xx 0 cr) rs (.slice (some ⟨gl, 0, none⟩) m cl) o L) := hQ
   have HST : Hid (sno R rv k = o) := hst
   have HOL : Hid ((∀ x ∈ o, x ∈ R) /\ o.length <= k + 1) := by
     rw [<- hst]
     exact ⟨sno_mem, Nat.le_succ_of_le sno_len⟩
   clear hQ hst
   obtain ⟨ko, HKO⟩ : ∃ v, Hid (o.length = v) := ⟨_, rfl⟩
   have hko : ko <= k + 1 := by rw [<- HKO.out]; exact HOL.out.2
   obtain ⟨p0, p1⟩ := cells2 Q3.out.p
   obtain ⟨x0, x1⟩ := cells2 Q3.out.x
   by_cases hlt : k < n
   · have hkI : (k : Int) < (n : Int) := by omega
     have hkR : k < R.length := by rw [HN.out]; exact hlt
     obtain ⟨b, off, e, r1, r2, -⟩ := (HR.out.below Q3.out.b) k hkR
     have HRC : Hid (∀ W, Below w.heap.size w W -> W.cell? ⟨b, off + k * 2, none⟩ = some (.int .i64 (R.getD k rt0).v) /\ W.cell? ⟨b, off + k * 2 + 1, none⟩ = some (.slice (R.getD k rt0).a (R.getD k rt0).ids.length (R.getD k rt0).c)) := fun W hW => by
       obtain ⟨b2, off2, e2, q1, q2, _⟩ := (HR.out.below hW) k hkR
       rw [e] at e2
       simp only [Option.some.injEq, Addr.mk.injEq, and_true] at e2
       obtain ⟨rfl, rfl⟩ := e2
       exact ⟨q1, q2⟩
     have HGO : Hid (((R.getD k rt0).v = rv -> sno R rv (k + 1) = o) /\ ((R.getD k rt0).v ≠ rv -> sno R rv (k + 1) = o ++ [R.getD k rt0])) := sno_step HST.out hkR
     subst e
     generalize R.getD k rt0 = x at *
     obtain ⟨xv, xa, xids, xc⟩ := x
     simp only at r1 r2 HRC
     obtain ⟨y, HY⟩ : ∃ v, Hid (xids.length = v) := ⟨_, rfl⟩
     simp only [HY.out] at r2 HRC
     by_cases h2 : xv = rv
     · skip
       have HNX : Hid (sno R rv (k + 1) = o) := HGO.out.1 h2
       have g2 : (xv != rv) = false := by simp; omega
       have HKO2 : Hid (o.length = ko) := HKO.out
       clear HST HGO h2
       go_wp2_with fail
       go_quiet (fail)
       have Q8 : Hid (SQ w (wr.drewN nq) kb (.slice (some ⟨b, off, none⟩) n rc) (.slice (some ⟨bl, ol, none⟩) m lc) (.int .i64 rv) (.slice xx 0 cr) rs (.slice (some ⟨gl, 0, none⟩) m cl) o L) := Q3.out.below (below_drewN (Below.refl _ _) nq)
       clear Q3 p0 p1 x0 x1 r1 r2
       generalize wr.drewN nq = W8 at *
       obtain ⟨p0, p1⟩ := cells2 Q8.out.p
       obtain ⟨x0, x1⟩ := cells2 Q8.out.x
       obtain ⟨r1, r2⟩ := HRC.out _ Q8.out.b
       go_wp2_with fail
       go_quiet (fail)
       have Q9 : Hid (SQ w (W8.drewN nq) kb (.slice (some ⟨b, off, none⟩) n rc) (.slice (some ⟨bl, ol, none⟩) m lc) (.int .i64 rv) (.slice xx 0 cr) rs (.slice (some ⟨gl, 0, none⟩) m cl) o L) := Q8.out.below (below_drewN (Below.refl _ _) nq)
       clear Q8 p0 p1 x0 x1 r1 r2
       generalize W8.drewN nq = W9 at *
       obtain ⟨p0, p1⟩ := cells2 Q9.out.p
       obtain ⟨x0, x1⟩ := cells2 Q9.out.x
       obtain ⟨r1, r2⟩ := HRC.out _ Q9.out.b
       go_wp2
       go_roundw
       case rel => exact ⟨k + 1, _, _, by omega, by first | rfl | go_num, rfl, HNX.out, Q9.out⟩
       case measure => simp [intOf]; omega
     · skip
       have HNX : Hid (sno R rv (k + 1) = o ++ [⟨xv, xa, xids, xc⟩]) := HGO.out.2 h2
       have g2 : (xv != rv) = true := by simp; omega
       have HKO2 : Hid (o.length = ko) := HKO.out
       clear HST HGO h2
       go_wp2_with fail
       go_quiet (fail)
       have Q8 : Hid (SQ w (wr.drewN nq) kb (.slice (some ⟨b, off, none⟩) n rc) (.slice (some ⟨bl, ol, none⟩) m lc) (.int .i64 rv) (.slice xx 0 cr) rs (.slice (some ⟨gl, 0, none⟩) m cl) o L) := Q3.out.below (below_drewN (Below.refl _ _) nq)
       clear Q3 p0 p1 x0 x1 r1 r2
       generalize wr.drewN nq = W8 at *
       obtain ⟨p0, p1⟩ := cells2 Q8.out.p
       obtain ⟨x0, x1⟩ := cells2 Q8.out.x
       obtain ⟨r1, r2⟩ := HRC.out _ Q8.out.b
       go_wp2_with fail
       go_quiet (fail)
       have Q9 : Hid (SQ w (W8.drewN nq) kb (.slice (some ⟨b, off, none⟩) n rc) (.slice (some ⟨bl, ol, none⟩) m lc) (.int .i64 rv) (.slice xx 0 cr) rs (.slice (some ⟨gl, 0, none⟩) m cl) o L) := Q8.out.below (below_drewN (Below.refl _ _) nq)
       clear Q8 p0 p1 x0 x1 r1 r2
       generalize W8.drewN nq = W9 at *
       obtain ⟨p0, p1⟩ := cells2 Q9.out.p
       obtain ⟨x0, x1⟩ := cells2 Q9.out.x
       obtain ⟨r1, r2⟩ := HRC.out _ Q9.out.b
       have kS := And.intro p0 (And.intro r1 r2)
       go_wp2_with fail
       refine wp_region_held_drew (S := (fun W => W.cell? ⟨w.heap.size, 0, none⟩ = some (.slice (some ⟨b, off, none⟩) n rc) /\ W.cell? ⟨b, off + k * 2, none⟩ = some (.int .i64 xv) /\ W.cell? ⟨b, off + k * 2 + 1, none⟩ = some (.slice xa y xc))) (by kernel_rfl) ?_ (fun hHeld => ?_)
       · exact kS
       have Q1 : Hid (SQ w W9.drew kb (.slice (some ⟨b, off, none⟩) n rc) (.slice (some ⟨bl, ol, none⟩) m lc) (.int .i64 rv) (.slice xx 0 cr) rs (.slice (some ⟨gl, 0, none⟩) m cl) o L) := Q9.out.below (Below.refl _ _).drew
       clear Q9 p0 p1 r1 r2 x0 x1 kS
       generalize W9.drew = W1 at *
       have QA : Hid (SQ w (W1.alloc (.cells #[.int .i64 xv, .slice xa y xc] 64)) kb (.slice (some ⟨b, off, none⟩) n rc) (.slice (some ⟨bl, ol, none⟩) m lc) (.int .i64 rv) (.slice xx 0 cr) rs (.slice (some ⟨gl, 0, none⟩) m cl) o L) := Q1.out.below ((Below.refl _ _).alloc (Nat.le_refl _) _)
       obtain ⟨o0, o1⟩ := cells2 Q1.out.o
       obtain ⟨oa0, oa1⟩ := cells2 QA.out.o
       have kSa : (fun W => W.cell? ⟨w.heap.size, 0, none⟩ = some (.slice (some ⟨b, off, none⟩) n rc) /\ W.cell? ⟨b, off + k * 2, none⟩ = some (.int .i64 xv) /\ W.cell? ⟨b, off + k * 2 + 1, none⟩ = some (.slice xa y xc)) (W1.alloc (.cells #[.int .i64 xv, .slice xa y xc] 64)) := ⟨(cells2 QA.out.p).1, HRC.out _ QA.out.b⟩
       refine wpAnyH_take (i := 0) (v := ?_) rfl (by kernel_rfl) (by kernel_rfl) (by kernel_rfl) (fun _ _ _ h => h) (Or.inl ⟨by kernel_rfl, ?_⟩) hHeld ?_
       rotate_left; focus (intro w hSw; (try dsimp only at hSw); (try go_split_ands); go_simp; all_goals with_reducible rfl)
       change wpAnyH _ _ _ _ _ _ _ (Act.put _ (some 52) _) _; simp only [Act.put, List.setIfInBounds_toArray, List.set_cons_zero, List.set_cons_succ]
       refine wpAnyH_take (i := 2) (v := ?_) rfl (by kernel_rfl) (by kernel_rfl) (by kernel_rfl) (fun _ _ _ h => h) (Or.inl ⟨by kernel_rfl, ?_⟩) hHeld ?_
       rotate_left; focus (intro w hSw; (try dsimp only at hSw); (try go_split_ands); go_simp; all_goals with_reducible rfl)
       change wpAnyH _ _ _ _ _ _ _ (Act.put _ (some 54) _) _; simp only [Act.put, List.setIfInBounds_toArray, List.set_cons_zero, List.set_cons_succ]
       refine wpAnyH_take (i := 3) (v := ?_) rfl (by kernel_rfl) (by kernel_rfl) (by kernel_rfl) (fun _ _ _ h => h) (Or.inl ⟨by kernel_rfl, ?_⟩) hHeld ?_
       rotate_left; focus (intro w hSw; (try dsimp only at hSw); (try go_split_ands); go_simp; all_goals with_reducible rfl)
       change wpAnyH _ _ _ _ _ _ _ (Act.put _ (some 55) _) _; simp only [Act.put, List.setIfInBounds_toArray, List.set_cons_zero, List.set_cons_succ]
       refine wpAnyH_take (i := 4) (v := ?_) rfl (by kernel_rfl) (by kernel_rfl) (by kernel_rfl) (fun _ _ _ h => h) (Or.inl ⟨by kernel_rfl, ?_⟩) hHeld ?_
       rotate_left; focus (intro w hSw; (try dsimp only at hSw); (try go_split_ands); go_simp; all_goals with_reducible rfl)
       change wpAnyH _ _ _ _ _ _ _ (Act.put _ (some 56) _) _; simp only [Act.put, List.setIfInBounds_toArray, List.set_cons_zero, List.set_cons_succ]
       refine wpAnyH_take (i := 5) (v := ?_) rfl (by kernel_rfl) (by kernel_rfl) (by kernel_rfl) (fun _ _ _ h => h) (Or.inl ⟨by kernel_rfl, ?_⟩) hHeld ?_
       rotate_left; focus (intro w hSw; (try dsimp only at hSw); (try go_split_ands); go_simp; all_goals with_reducible rfl)
       change wpAnyH _ _ _ _ _ _ _ (Act.put _ (some 57) _) _; simp only [Act.put, List.setIfInBounds_toArray, List.set_cons_zero, List.set_cons_succ]
       refine wpAnyH_take (i := 6) (v := ?_) rfl (by kernel_rfl) (by kernel_rfl) (by kernel_rfl) (fun _ _ _ h => h) (Or.inl ⟨by kernel_rfl, ?_⟩) hHeld ?_
       rotate_left; focus (intro w hSw; (try dsimp only at hSw); (try go_split_ands); go_simp; all_goals with_reducible rfl)
       change wpAnyH _ _ _ _ _ _ _ (Act.put _ (some 58) _) _; simp only [Act.put, List.setIfInBounds_toArray, List.set_cons_zero, List.set_cons_succ]
       refine wpAnyH_ready (rs := [1, 7]) (by kernel_rfl) (by simp) ?_
       refine AllReadyH.cons rfl (fun K hK => ?_) ?_
       · skip
         go_simp
         refine hK.out _ _ ?_ (fun hHeld => ?_)
         · exact hHeld
         clear hK K
         refine wpAnyH_ready (rs := [7]) (by kernel_rfl) (by simp) ?_
         refine AllReadyH.cons rfl (fun K hK => ?_) AllReadyH.nil
         go_simp
         refine hK.out _ _ ?_ (fun hHeld => ?_)
         · exact kSa
         clear hK K
         refine wpAnyH_ready (rs := [8]) (by kernel_rfl) (by simp) ?_
         refine AllReadyH.cons rfl (fun K hK => ?_) AllReadyH.nil
         refine step_append_vals Tryz.underlying34 infoRt (by rfl) (by omega) rfl (.tmp 53) (.tmp 59) rfl (w.heap.size + 3) rs (ko) (rowR o) rfl (by have := QA.out.r; rw [HKO2.out] at this; exact this) W1.heap.size 0 1 1 [.int .i64 xv, .slice xa y xc] rfl rfl (cells2_here _ _ _ _ _ rfl) (by simp [Value.oneCell']) (by omega) (by omega) (by have := row_lt Q1.out.a; simp; omega) ?_
         intro v' w4 ho hg hbk hn4
         rcases own_kinds ho with ⟨_, e0⟩ | ⟨g4, c4, e4, -, -⟩
         · omega
         subst e4
         have Q5 : Hid (SQ w (w4.setCell ⟨kb, 0, none⟩ (.slice (some ⟨g4, 0, none⟩) (ko + 1) c4)) kb (.slice (some ⟨b, off, none⟩) n rc) (.slice (some ⟨bl, ol, none⟩) m lc) (.int .i64 rv) (.slice xx 0 cr) (.slice (some ⟨g4, 0, none⟩) (ko + 1) c4) (.slice (some ⟨gl, 0, none⟩) m cl) (o ++ [⟨xv, xa, xids, xc⟩]) L) := QA.out.more ⟨xv, xa, xids, xc⟩ HY.out HKO2.out hg ho
         have X4 := QA.out.moreO hg
         have kS4 : (fun W => W.cell? ⟨w.heap.size, 0, none⟩ = some (.slice (some ⟨b, off, none⟩) n rc) /\ W.cell? ⟨b, off + k * 2, none⟩ = some (.int .i64 xv) /\ W.cell? ⟨b, off + k * 2 + 1, none⟩ = some (.slice xa y xc)) w4 := ⟨X4.1, HRC.out _ X4.2.2⟩
         obtain ⟨x4, y4⟩ := cells2 X4.2.1
         have xf := fun i => frozen_of_row _ _ i _ _ X4.2.1
         have kS5 : (fun W => W.cell? ⟨w.heap.size, 0, none⟩ = some (.slice (some ⟨b, off, none⟩) n rc) /\ W.cell? ⟨b, off + k * 2, none⟩ = some (.int .i64 xv) /\ W.cell? ⟨b, off + k * 2 + 1, none⟩ = some (.slice xa y xc)) (w4.setCell ⟨kb, 0, none⟩ (.slice (some ⟨g4, 0, none⟩) (ko + 1) c4)) := ⟨(cells2 Q5.out.p).1, HRC.out _ Q5.out.b⟩
         clear ho hg hbk hn4 X4
         refine hK.out _ _ ?_ (fun hHeld => ?_)
         · exact kS4
         clear hK K
         change wpAnyH _ _ _ _ _ _ _ (Act.put _ (some 60) _) _
         simp only [Act.put, List.setIfInBounds_toArray, List.set_cons_zero, List.set_cons_succ]
         refine wpAnyH_take (i := 9) (v := ?_) rfl (by kernel_rfl) (by kernel_rfl) (by kernel_rfl) (fun _ _ _ h => h) (Or.inl ⟨by kernel_rfl, ?_⟩) hHeld ?_
         rotate_left; focus (intro w hSw; (try dsimp only at hSw); (try go_split_ands); go_simp; all_goals with_reducible rfl)
         change wpAnyH _ _ _ _ _ _ _ (Act.put _ (some 61) _) _; simp only [Act.put, List.setIfInBounds_toArray, List.set_cons_zero, List.set_cons_succ]
         refine wpAnyH_ready (rs := [10]) (by kernel_rfl) (by simp) ?_
         refine AllReadyH.cons rfl (fun K hK => ?_) AllReadyH.nil
         go_simp
         refine hK.out _ _ ?_ (fun hHeld => ?_)
         · exact kS5
         clear hK K
         refine wpAnyH_done (by kernel_rfl) ?_ _
         clear hHeld kS5 xf x4 y4 kS4 kSa oa0 oa1 o0 o1 QA Q1
         generalize w4.setCell ⟨kb, 0, none⟩ (.slice (some ⟨g4, 0, none⟩) (ko + 1) c4) = W5 at *
         go_wp2
         go_roundw
         case rel => exact ⟨k + 1, _, _, by omega, by first | rfl | go_num, rfl, HNX.out, Q5.out⟩
         case measure => simp [intOf]; omega
       refine AllReadyH.cons rfl (fun K hK => ?_) AllReadyH.nil
       go_simp
       refine hK.out _ _ ?_ (fun hHeld => ?_)
       · exact kSa
       clear hK K
       refine wpAnyH_ready (rs := [1]) (by kernel_rfl) (by simp) ?_
       refine AllReadyH.cons rfl (fun K hK => ?_) AllReadyH.nil
       go_simp
       refine hK.out _ _ ?_ (fun hHeld => ?_)
       · exact kSa
       clear hK K
       refine wpAnyH_ready (rs := [8]) (by kernel_rfl) (by simp) ?_
       refine AllReadyH.cons rfl (fun K hK => ?_) AllReadyH.nil
       refine step_append_vals Tryz.underlying34 infoRt (by rfl) (by omega) rfl (.tmp 53) (.tmp 59) rfl (w.heap.size + 3) rs (ko) (rowR o) rfl (by have := QA.out.r; rw [HKO2.out] at this; exact this) W1.heap.size 0 1 1 [.int .i64 xv, .slice xa y xc] rfl rfl (cells2_here _ _ _ _ _ rfl) (by simp [Value.oneCell']) (by omega) (by omega) (by have := row_lt Q1.out.a; simp; omega) ?_
       intro v' w4 ho hg hbk hn4
       rcases own_kinds ho with ⟨_, e0⟩ | ⟨g4, c4, e4, -, -⟩
       · omega
       subst e4
       have Q5 : Hid (SQ w (w4.setCell ⟨kb, 0, none⟩ (.slice (some ⟨g4, 0, none⟩) (ko + 1) c4)) kb (.slice (some ⟨b, off, none⟩) n rc) (.slice (some ⟨bl, ol, none⟩) m lc) (.int .i64 rv) (.slice xx 0 cr) (.slice (some ⟨g4, 0, none⟩) (ko + 1) c4) (.slice (some ⟨gl, 0, none⟩) m cl) (o ++ [⟨xv, xa, xids, xc⟩]) L) := QA.out.more ⟨xv, xa, xids, xc⟩ HY.out HKO2.out hg ho
       have X4 := QA.out.moreO hg
       have kS4 : (fun W => W.cell? ⟨w.heap.size, 0, none⟩ = some (.slice (some ⟨b, off, none⟩) n rc) /\ W.cell? ⟨b, off + k * 2, none⟩ = some (.int .i64 xv) /\ W.cell? ⟨b, off + k * 2 + 1, none⟩ = some (.slice xa y xc)) w4 := ⟨X4.1, HRC.out _ X4.2.2⟩
       obtain ⟨x4, y4⟩ := cells2 X4.2.1
       have xf := fun i => frozen_of_row _ _ i _ _ X4.2.1
       have kS5 : (fun W => W.cell? ⟨w.heap.size, 0, none⟩ = some (.slice (some ⟨b, off, none⟩) n rc) /\ W.cell? ⟨b, off + k * 2, none⟩ = some (.int .i64 xv) /\ W.cell? ⟨b, off + k * 2 + 1, none⟩ = some (.slice xa y xc)) (w4.setCell ⟨kb, 0, none⟩ (.slice (some ⟨g4, 0, none⟩) (ko + 1) c4)) := ⟨(cells2 Q5.out.p).1, HRC.out _ Q5.out.b⟩
       clear ho hg hbk hn4 X4
       refine hK.out _ _ ?_ (fun hHeld => ?_)
       · exact kS4
       clear hK K
       change wpAnyH _ _ _ _ _ _ _ (Act.put _ (some 60) _) _
       simp only [Act.put, List.setIfInBounds_toArray, List.set_cons_zero, List.set_cons_succ]
       refine wpAnyH_take (i := 9) (v := ?_) rfl (by kernel_rfl) (by kernel_rfl) (by kernel_rfl) (fun _ _ _ h => h) (Or.inl ⟨by kernel_rfl, ?_⟩) hHeld ?_
       rotate_left; focus (intro w hSw; (try dsimp only at hSw); (try go_split_ands); go_simp; all_goals with_reducible rfl)
       change wpAnyH _ _ _ _ _ _ _ (Act.put _ (some 61) _) _; simp only [Act.put, List.setIfInBounds_toArray, List.set_cons_zero, List.set_cons_succ]
       refine wpAnyH_ready (rs := [10]) (by kernel_rfl) (by simp) ?_
       refine AllReadyH.cons rfl (fun K hK => ?_) AllReadyH.nil
       go_simp
       refine hK.out _ _ ?_ (fun hHeld => ?_)
       · exact kS5
       clear hK K
       refine wpAnyH_done (by kernel_rfl) ?_ _
       clear hHeld kS5 xf x4 y4 kS4 kSa oa0 oa1 o0 o1 QA Q1
       generalize w4.setCell ⟨kb, 0, none⟩ (.slice (some ⟨g4, 0, none⟩) (ko + 1) c4) = W5 at *
       go_wp2
       go_roundw
       case rel => exact ⟨k + 1, _, _, by omega, by first | rfl | go_num, rfl, HNX.out, Q5.out⟩
       case measure => simp [intOf]; omega
   · have hkI : ¬ ((k : Int) < (n : Int)) := by omega
     have hke : k = n := by omega
     obtain ⟨o0, o1⟩ := cells2 Q3.out.o
     have of := fun i => frozen_of_row _ _ i _ _ Q3.out.o
     have HSL : Hid (snoL R rv = o) := by
       show _ = _
       have h := HST.out
       rw [hke, <- HN.out, sno_all] at h
       exact h
     clear hke HST
     obtain ⟨ga, ca, e⟩ : ∃ ga ca, rs = .slice ga ko ca := by
       rcases own_kinds Q3.out.r with ⟨e, h0⟩ | ⟨g, c, e, _, _⟩
       · exact ⟨none, 0, by rw [e, <- HKO.out, h0]⟩
       · exact ⟨_, c, by rw [e, HKO.out]⟩
     subst e
     have HKO2 : Hid (o.length = ko) := HKO.out
     have HAT : Hid (RoutesAt wr ga o) := SQ.at (o := o) (r := ⟨0, none, [], 0⟩) (R := R) (by rw [HKO2.out]; exact Q3.out) HR.out (by intro j hj; simp at hj) (fun x hx => .inl (HOL.out.1 x hx))
     have C := l4Copy_any ga gl 0 ca cl o L wr HAT.out (owns_ints (by have := Q3.out.l; rw [HM.out] at this; exact this)) (by rw [HKO2.out]; omega) (fun x hx => HI.out x (HOL.out.1 x hx)) (by rw [HM.out]; omega)
     rw [HKO2.out, HM.out] at C
     go_wp2_with (first
       | (go_at_call 24
          go_must (refine C.mono ?_)
          rintro e w5 ⟨ra5, rc5, gl5, lc5, S5, rfl, hb5, hk5, ho5⟩
          have AR := below_row hb5 (row_lt Q3.out.a) Q3.out.a
          obtain ⟨a0, a1⟩ := cells2 AR
          have af := fun i => frozen_of_row _ _ i _ _ AR
          have hl5 : S5.length = o.length := by have := congrArg List.length hk5; simpa using this
          have B5 : Hid (Below w.heap.size w w5) := Q3.out.b.trans (hb5.mono Q3.out.b.size)
          have O5 : Hid (PO w5 (w.heap.size + 3) (.slice ra5 S5.length rc5) S5 (.slice (some ⟨gl5, 0, none⟩) L.length lc5) L) := by
            rw [hl5]
            exact ho5.base (by have := row_lt Q3.out.a; omega)
          have HK5 : Hid (S5.map RT.key = (snoL R rv).map RT.key) := by show _ = _; rw [HSL.out]; exact hk5
          have HL5 : Hid (S5.length = ko) := hl5.trans HKO2.out
          rw [HKO2.out, HM.out]
          clear hb5 hk5 ho5 hl5 AR))
     refine bodyPost_ret (v := .agg #[.slice ra5 ko rc5, .slice (some ⟨gl5, 0, none⟩) m lc5]) (by simp [results, Tryz.results26, go_sem, a0, a1]) rfl ⟨ra5, rc5, gl5, lc5, S5, by rw [HL5.out, HM.out], ?_, HK5.out, ?_⟩
     · repeat (first | with_reducible exact B5.out | refine Below.setCell ?_ (by simp <;> omega) _)
     · refine PO.base (base := w.heap.size + 3) ?_ (by omega)
       repeat (first | with_reducible exact O5.out | refine PO.set ?_ (by omega))
end Go.Proofs.YtjlhmkmhehcmkaaGreat