import Derived.Test.YtjlhmkmhehcmkaaGreatPack2
import Derived.Test.YtjlhmkmhehcmkaaGreatPack11
import Derived.Test.YtjlhmkmhehcmkaaGreatPack16
import Derived.Deep.RegionHeld3
namespace Go.Proofs.YtjlhmkmhehcmkaaGreat
open Go.RowKit
theorem PO.box {w : World} {base k i : Nat} {rs ls u : Value} {S : List RT} {L : List Int} {cs : Array Value} (h : PO w base rs S ls L) (hk : w.heap[k]? = some (.cells cs 36 (0, 0))) : PO (w.setCell ⟨k, i, none⟩ u) base rs S ls L :=
 ⟨ownsRow_setCell_other h.r (own_typ h.r hk (by decide)) _, fun s hs => ownsRow_setCell_other (h.s s hs) (own_typ (h.s s hs) hk (by decide)) _, ownsRow_setCell_other h.l (own_typ h.l hk (by decide)) _⟩
theorem PO.more {w w' : World} {base : Nat} {rs rs' ls : Value} {S : List RT} {L : List Int} {r : RT} (h : PO w base rs S ls L) (hr : w.ownsRow base 2 1 (.slice r.a r.ids.length r.c) r.ids.length (r.ids.map (Value.int .i64))) (hg : w.grownBy w' rs.ownBlock) (ho : w'.ownsRow base 64 2 rs' (S.length + 1) (rowR S ++ rtCells r)) : PO w' base rs' (S ++ [r]) ls L := by
 have keep : ∀ (v : Value) n xs, w.ownsRow base 2 1 v n xs -> w'.ownsRow base 2 1 v n xs := fun v n xs hv => by
   refine hv.kept hg ?_
   rcases h.rv with ⟨e, _⟩ | ⟨g, c, e, _, _⟩
   · rw [e] at hg ⊢
     cases hb : v.ownBlock with
     | none => exact .inl rfl
     | some q => exact .inr (by simp [Value.ownBlock])
   · rw [e]
     refine .inr fun e2 => ?_
     have hrow : ∃ cs, w.heap[g]? = some (.cells cs 64 (0, 0)) := by
       have h2 := h.r
       rw [e] at h2
       obtain ⟨_, ⟨h3, _⟩ | ⟨g', cap, cur, h3, _, h4, _⟩⟩ := h2
       · cases h3
       · simp only [Value.slice.injEq, Option.some.injEq, Addr.mk.injEq] at h3
         exact ⟨cur, by rw [h3.1.1]; exact h4⟩
     obtain ⟨cs, hcs⟩ := hrow
     exact own_typ hv hcs (by decide) e2
 refine ⟨?_, fun s hs => ?_, keep _ _ _ h.l⟩
 · rw [List.length_append, rowR_app, show rowR [r] = rtCells r by simp [rowR]]
   exact ho
 · rcases List.mem_append.1 hs with hs | hs
   · exact keep _ _ _ (h.s s hs)
   · have : s = r := by simpa using hs
     subst this
     exact keep _ _ _ hr
structure CQ (w W : World) (kb : Nat) (p0 p1 rs ls : Value) (S : List RT) (L : List Int) : Prop where
 b : Below w.heap.size w W
 p : W.heap[w.heap.size]? = some (.cells #[p0, p1] 36 (0, 0))
 a : W.heap[w.heap.size + 1]? = some (.cells #[.slice none 0 0, .slice none 0 0] 36 (0, 0))
 o : W.heap[kb]? = some (.cells #[rs, ls] 36 (0, 0))
 k : w.heap.size + 1 < kb
 q : PO W (w.heap.size + 2) rs S ls L
theorem CQ.below {w W W' : World} {kb : Nat} {p0 p1 rs ls : Value} {S : List RT} {L : List Int} (h : CQ w W kb p0 p1 rs ls S L) (hb : Below W.heap.size W W') : CQ w W' kb p0 p1 rs ls S L :=
 ⟨h.b.trans (hb.mono h.b.size), below_row hb (row_lt h.p) h.p, below_row hb (row_lt h.a) h.a, below_row hb (row_lt h.o) h.o, h.k, h.q.below hb⟩
theorem CQ.moreO {w W w4 : World} {kb : Nat} {p0 p1 rs ls : Value} {S : List RT} {L : List Int} (h : CQ w W kb p0 p1 rs ls S L) (hg : W.grownBy w4 rs.ownBlock) : w4.cell? ⟨w.heap.size, 0, none⟩ = some p0 /\ w4.heap[kb]? = some (.cells #[rs, ls] 36 (0, 0)) /\ Below w.heap.size w w4 := by
 have hnp : ∀ j cs, W.heap[j]? = some (.cells cs 36 (0, 0)) -> some j ≠ rs.ownBlock := fun j cs hj e => own_typ h.q.r hj (by decide) e.symm
 exact ⟨(cells2 (grown_row hg h.p (hnp _ _ h.p))).1, grown_row hg h.o (hnp _ _ h.o), h.b.grown hg h.b.size (fun j e => by have := (h.q.r.lt j e).1; omega)⟩
theorem CQ.more {w W w4 : World} {kb k q g3 c3 : Nat} {p0 p1 rs ls v' : Value} {S : List RT} {L rids : List Int} {rv : Int} (h : CQ w W kb p0 p1 rs ls S L) (hq : rids.length = q) (hk : S.length = k) (hs : W.ownsRow (w.heap.size + 2) 2 1 (.slice (some ⟨g3, 0, none⟩) q c3) q (rids.map (Value.int .i64))) (hg : W.grownBy w4 rs.ownBlock) (ho : w4.ownsRow (w.heap.size + 2) 64 2 v' (k + 1) (rowR S ++ [.int .i64 rv, .slice (some ⟨g3, 0, none⟩) q c3])) : CQ w (w4.setCell ⟨kb, 0, none⟩ v') kb p0 p1 v' ls (S ++ [⟨rv, some ⟨g3, 0, none⟩, rids, c3⟩]) L := by
 subst hq hk
 have hnp : ∀ j cs, W.heap[j]? = some (.cells cs 36 (0, 0)) -> some j ≠ rs.ownBlock := fun j cs hj e => own_typ h.q.r hj (by decide) e.symm
 have hb4 : Below w.heap.size w w4 := h.b.grown hg h.b.size (fun j e => by have := (h.q.r.lt j e).1; omega)
 have MO : PO w4 (w.heap.size + 2) v' (S ++ [⟨rv, some ⟨g3, 0, none⟩, rids, c3⟩]) ls L := h.q.more (r := ⟨rv, some ⟨g3, 0, none⟩, rids, c3⟩) hs hg ho
 have hk5 := h.k
 have ho4 := grown_row hg h.o (hnp _ _ h.o)
 have s1 := heap_setCell_same w4 kb 0 _ _ v' ho4
 refine ⟨hb4.setCell (by simp; omega) _, ?_, ?_, by simpa using s1, hk5, MO.box ho4⟩
 · rw [heap_setCell_other _ _ _ _ (by simp; omega)]; exact grown_row hg h.p (hnp _ _ h.p)
 · rw [heap_setCell_other _ _ _ _ (by simp; omega)]; exact grown_row hg h.a (hnp _ _ h.a)
theorem own_one {w : World} {base size n : Nat} {e : TypeId} {v : Value} {xs : List Value} (h : w.ownsRow base e size v n xs) : v.oneCell' = true := by
 rcases h.2 with ⟨rfl, _⟩ | ⟨g, c, cur, rfl, _⟩ <;> rfl
theorem cells2_here (W : World) (o0 o1 : Value) (T : TypeId) (g : Nat) (hg : W.heap.size = g) : ∀ j u, [o0, o1][j]? = some u -> (W.alloc (.cells #[o0, o1] T)).cell? ⟨g, 0 + j, none⟩ = some u := by
 subst hg
 intro j u h
 have hr := heap_alloc_new W (.cells #[o0, o1] T)
 rw [Nat.zero_add, cell_of_row _ _ j _ _ _ hr, <- h]
 simp
def CopyOk (w : World) (R : List RT) (L : List Int) (e : Ending) (w' : World) : Prop := ∃ ra rc gl lc S, e = .returned (.agg #[.slice ra R.length rc, .slice (some ⟨gl, 0, none⟩) L.length lc]) /\ Below w.heap.size w w' /\ S.map RT.key = R.map RT.key /\ PO w' (w.heap.size + 2) (.slice ra R.length rc) S (.slice (some ⟨gl, 0, none⟩) L.length lc) L
set_option maxHeartbeats 4000000 in
theorem l4Copy_any (ra : Option Addr) (bl ol rc lc : Nat) (R : List RT) (L : List Int) (w : World) (hR : RoutesAt w ra R) (hL : IntsAt w (some ⟨bl, ol, none⟩) L) (hn : R.length <= 500) (hi : ∀ r ∈ R, r.ids ≠ [] /\ r.ids.length <= 500) (hl : L.length <= 500) :
   Calls Tryz.prog 24 #[.agg #[.slice ra R.length rc, .slice (some ⟨bl, ol, none⟩) L.length lc]] w (CopyOk w R L) := by
 have HR : Hid (RoutesAt w ra R) := hR
 have HL : Hid (IntsAt w (some ⟨bl, ol, none⟩) L) := hL
 have HI : Hid (∀ r ∈ R, r.ids ≠ [] /\ r.ids.length <= 500) := hi
 clear hR hL hi
 obtain ⟨n, HN⟩ : ∃ n, Hid (R.length = n) := ⟨_, rfl⟩
 obtain ⟨m, HM⟩ : ∃ n, Hid (L.length = n) := ⟨_, rfl⟩
 rw [HN.out] at hn ⊢
 rw [HM.out] at hl ⊢
 have B1 : Hid (Below w.heap.size w (((w.alloc (.cells #[.slice ra n rc, .slice (some ⟨bl, ol, none⟩) m lc] 36)).alloc (.cells #[.slice none 0 0, .slice none 0 0] 36)).alloc (.cells #[] 2))) := (((Below.refl _ _).alloc (Nat.le_refl _) _).alloc (by simp) _).alloc (by simp; omega) _
 have P1 : Hid ((((w.alloc (.cells #[.slice ra n rc, .slice (some ⟨bl, ol, none⟩) m lc] 36)).alloc (.cells #[.slice none 0 0, .slice none 0 0] 36)).alloc (.cells #[] 2)).heap[w.heap.size]? = some (.cells #[.slice ra n rc, .slice (some ⟨bl, ol, none⟩) m lc] 36 (0, 0))) := (heap_alloc_old _ _ (by simp; omega)).trans (heap_alloc2_old _ _ _)
 have A1 : Hid ((((w.alloc (.cells #[.slice ra n rc, .slice (some ⟨bl, ol, none⟩) m lc] 36)).alloc (.cells #[.slice none 0 0, .slice none 0 0] 36)).alloc (.cells #[] 2)).heap[w.heap.size + 1]? = some (.cells #[.slice none 0 0, .slice none 0 0] 36 (0, 0))) := (heap_alloc_old _ _ (by simp)).trans (heap_alloc2_new _ _ _)
 have O1 : Hid ((((w.alloc (.cells #[.slice ra n rc, .slice (some ⟨bl, ol, none⟩) m lc] 36)).alloc (.cells #[.slice none 0 0, .slice none 0 0] 36)).alloc (.cells #[] 2)).ownsRow (w.heap.size + 2) 2 1 (.slice (some ⟨w.heap.size + 1 + 1, 0, none⟩) 0 0) 0 (([] : List Int).map (Value.int .i64))) := by
   have := World.ownsRow_made ((w.alloc (.cells #[.slice ra n rc, .slice (some ⟨bl, ol, none⟩) m lc] 36)).alloc (.cells #[.slice none 0 0, .slice none 0 0] 36)) #[] 0 (base := w.heap.size + 2) (e := 2) (size := 1) (by simp) (by unfold maxLen; omega) (by simp)
   show World.ownsRow _ _ _ _ _ _ _
   simpa using this
 go_enter Tryz.func24, Tryz.ntmps24
 obtain ⟨p0, p1⟩ := cells2 P1.out
 go_wp2_with (first
   | (at_builtin
      go_must (refine append_many _ rfl (.tmp 5) (.tmp 7) rfl (w.heap.size + 2) _ 0 [] rfl O1.out bl ol m lc L rfl HM.out (HL.out.below B1.out) (by omega) (by omega) (by simp) ?_)
      go_loud (
        intro lv w2 hown hg hbk hnl
        have hsz := B1.out.size
        have hge : ∀ k, (Value.slice (some ⟨w.heap.size + 1 + 1, 0, none⟩) 0 0).ownBlock = some k -> w.heap.size + 2 <= k := fun k e => by have := own_at e; omega
        have Q2 : Hid (CQ w (w2.alloc (.cells #[.slice none 0 0, lv] 36)) w2.heap.size (.slice ra n rc) (.slice (some ⟨bl, ol, none⟩) m lc) (.slice none 0 0) lv [] L) := by
          have hb2 : Below w.heap.size w w2 := B1.out.grown hg B1.out.size (fun k e => by have := hge k e; omega)
          have ha : Below w2.heap.size w2 (w2.alloc (.cells #[.slice none 0 0, lv] 36)) := (Below.refl _ _).alloc (Nat.le_refl _) _
          have hp2 := grown_row hg P1.out (fun e => by have := hge _ e.symm; omega)
          have ha2 := grown_row hg A1.out (fun e => by have := hge _ e.symm; omega)
          refine ⟨hb2.trans (ha.mono hb2.size), below_row ha (row_lt hp2) hp2, below_row ha (row_lt ha2) ha2, heap_alloc_new _ _, row_lt ha2, ⟨World.ownsRow_nil _ _ _ _, (fun s hs => by cases hs), ?_⟩⟩
          rw [Nat.zero_add, List.nil_append] at hown
          rw [HM.out]
          exact hown.alloc _
        obtain ⟨gl, cl, e⟩ := own_sm hown (not_nil hnl ⟨_, _, _, rfl⟩)
        rw [Nat.zero_add] at e
        subst e)
      clear hown hg hbk hnl hsz hge))
 clear p0 p1
 obtain ⟨kb, HKB⟩ : ∃ v, Hid (w2.heap.size = v) := ⟨_, rfl⟩
 rw [HKB.out] at Q2 ⊢
 generalize w2.alloc (.cells #[.slice none 0 0, .slice (some ⟨gl, 0, none⟩) m cl] 36) = W2 at *
 go_loopw [4] (fun t wr => ∃ (k : Nat) (rs : Value) (S : List RT), k <= n /\ t = .int .i64 k /\ S.map RT.key = (R.take k).map RT.key /\ CQ w wr kb (.slice ra n rc) (.slice (some ⟨bl, ol, none⟩) m lc) rs (.slice (some ⟨gl, 0, none⟩) m cl) S L) (fun t _ => n - (intOf t).toNat)
 case atStart => exact ⟨0, .slice none 0 0, [], Nat.zero_le _, rfl, rfl, Q2.out⟩
 case round =>
   clear Q2 B1 P1 A1 O1
   obtain ⟨k, rs, S, hk, rfl, hkey, hQ⟩ := hrel
   have Q3 : Hid (CQ w wr kb (.slice ra n rc) (.slice (some ⟨bl, ol, none⟩) m lc) rs (.slice (some ⟨gl, 0, none⟩) m cl) S L) := hQ
   have HKY : Hid (S.map RT.key = (R.take k).map RT.key) := hkey
   have hSk : S.length = k := by
     have := congrArg List.length hkey
     simp only [List.length_map, List.length_take, HN.out] at this
     omega
   have HSK : Hid (S.length = k) := hSk
   clear hQ hkey hSk
   obtain ⟨p0, p1⟩ := cells2 Q3.out.p
   by_cases hlt : k < n
   · have hkI : (k : Int) < (n : Int) := by omega
     have hkR : k < R.length := by rw [HN.out]; exact hlt
     obtain ⟨b, off, e, r1, r2, i3⟩ := (HR.out.below Q3.out.b) k hkR
     have hmem : R.getD k rt0 ∈ R := by rw [List.getD_eq_getElem?_getD, List.getElem?_eq_getElem hkR]; simp
     obtain ⟨hne, h500⟩ := HI.out _ hmem
     have HRC : Hid (∀ W, Below w.heap.size w W -> W.cell? ⟨b, off + k * 2, none⟩ = some (.int .i64 (R.getD k rt0).v) /\ W.cell? ⟨b, off + k * 2 + 1, none⟩ = some (.slice (R.getD k rt0).a (R.getD k rt0).ids.length (R.getD k rt0).c)) := fun W hW => by
       obtain ⟨b2, off2, e2, q1, q2, _⟩ := (HR.out.below hW) k hkR
       rw [e] at e2
       simp only [Option.some.injEq, Addr.mk.injEq, and_true] at e2
       obtain ⟨rfl, rfl⟩ := e2
       exact ⟨q1, q2⟩
     have HTK : Hid (R.take (k + 1) = R.take k ++ [R.getD k rt0]) := by
       show _ = _
       rw [List.take_succ_eq_append_getElem hkR]
       simp [List.getD, hkR]
     subst e
     generalize R.getD k rt0 = r at *
     obtain ⟨rv, rra, rids, rcc⟩ := r
     simp only at r1 r2 i3 hne h500
     have hpos : 0 < rids.length := List.length_pos_iff.2 hne
     obtain ⟨b', off', e', -⟩ := i3 0 hpos
     subst e'
     have I3 : Hid (IntsAt wr (some ⟨b', off', none⟩) rids) := i3
     obtain ⟨q, HQ⟩ : ∃ x, Hid (rids.length = x) := ⟨_, rfl⟩
     simp only [HQ.out] at r2 h500 hpos HRC
     clear i3 hne hmem
     obtain ⟨o0, o1⟩ := cells2 Q3.out.o
     have of := fun i => frozen_of_row _ _ i _ _ Q3.out.o
     have kS := And.intro p0 (And.intro r1 r2)
     have hkb := row_lt Q3.out.o
     go_wp2_with fail
     -- REGION
     refine wp_region_held_drew (S := (fun W => W.cell? ⟨w.heap.size, 0, none⟩ = some (.slice (some ⟨b, off, none⟩) n rc) /\ W.cell? ⟨b, off + k * 2, none⟩ = some (.int .i64 rv) /\ W.cell? ⟨b, off + k * 2 + 1, none⟩ = some (.slice (some ⟨b', off', none⟩) q rcc))) (by kernel_rfl) ?_ (fun hHeld => ?_)
     · exact kS
     have Q1 : Hid (CQ w wr.drew kb (.slice (some ⟨b, off, none⟩) n rc) (.slice (some ⟨bl, ol, none⟩) m lc) rs (.slice (some ⟨gl, 0, none⟩) m cl) S L) := Q3.out.below (Below.refl _ _).drew
     have I1 : Hid (IntsAt wr.drew (some ⟨b', off', none⟩) rids) := I3.out.below (Below.refl _ _).drew
     clear Q3 I3 p0 p1 r1 r2 o0 o1 of kS
     generalize wr.drew = W1 at *
     have QA : Hid (CQ w (W1.alloc (.cells #[] 2)) kb (.slice (some ⟨b, off, none⟩) n rc) (.slice (some ⟨bl, ol, none⟩) m lc) rs (.slice (some ⟨gl, 0, none⟩) m cl) S L) := Q1.out.below ((Below.refl _ _).alloc (Nat.le_refl _) _)
     obtain ⟨o0, o1⟩ := cells2 Q1.out.o
     obtain ⟨oa0, oa1⟩ := cells2 QA.out.o
     have kSa : (fun W => W.cell? ⟨w.heap.size, 0, none⟩ = some (.slice (some ⟨b, off, none⟩) n rc) /\ W.cell? ⟨b, off + k * 2, none⟩ = some (.int .i64 rv) /\ W.cell? ⟨b, off + k * 2 + 1, none⟩ = some (.slice (some ⟨b', off', none⟩) q rcc)) (W1.alloc (.cells #[] 2)) := ⟨(cells2 QA.out.p).1, HRC.out _ QA.out.b⟩
     refine wpAnyH_take (i := 0) (v := ?_) rfl (by kernel_rfl) (by kernel_rfl) (by kernel_rfl) (fun _ _ _ h => h) (Or.inl ⟨by kernel_rfl, ?_⟩) hHeld ?_
     rotate_left; focus (intro w hSw; (try dsimp only at hSw); (try go_split_ands); go_simp; all_goals with_reducible rfl)
     change wpAnyH _ _ _ _ _ _ _ (Act.put _ (some 17) _) _; simp only [Act.put, List.setIfInBounds_toArray, List.set_cons_zero, List.set_cons_succ]
     refine wpAnyH_take (i := 2) (v := ?_) rfl (by kernel_rfl) (by kernel_rfl) (by kernel_rfl) (fun _ _ _ h => h) (Or.inl ⟨by kernel_rfl, ?_⟩) hHeld ?_
     rotate_left; focus (intro w hSw; (try dsimp only at hSw); (try go_split_ands); go_simp; all_goals with_reducible rfl)
     change wpAnyH _ _ _ _ _ _ _ (Act.put _ (some 19) _) _; simp only [Act.put, List.setIfInBounds_toArray, List.set_cons_zero, List.set_cons_succ]
     refine wpAnyH_take (i := 3) (v := ?_) rfl (by kernel_rfl) (by kernel_rfl) (by kernel_rfl) (fun _ _ _ h => h) (Or.inl ⟨by kernel_rfl, ?_⟩) hHeld ?_
     rotate_left; focus (intro w hSw; (try dsimp only at hSw); (try go_split_ands); go_simp; all_goals with_reducible rfl)
     change wpAnyH _ _ _ _ _ _ _ (Act.put _ (some 20) _) _; simp only [Act.put, List.setIfInBounds_toArray, List.set_cons_zero, List.set_cons_succ]
     refine wpAnyH_take (i := 4) (v := ?_) rfl (by kernel_rfl) (by kernel_rfl) (by kernel_rfl) (fun _ _ _ h => h) (Or.inl ⟨by kernel_rfl, ?_⟩) hHeld ?_
     rotate_left; focus (intro w hSw; (try dsimp only at hSw); (try go_split_ands); go_simp; all_goals with_reducible rfl)
     change wpAnyH _ _ _ _ _ _ _ (Act.put _ (some 21) _) _; simp only [Act.put, List.setIfInBounds_toArray, List.set_cons_zero, List.set_cons_succ]
     refine wpAnyH_take (i := 5) (v := ?_) rfl (by kernel_rfl) (by kernel_rfl) (by kernel_rfl) (fun _ _ _ h => h) (Or.inl ⟨by kernel_rfl, ?_⟩) hHeld ?_
     rotate_left; focus (intro w hSw; (try dsimp only at hSw); (try go_split_ands); go_simp; all_goals with_reducible rfl)
     change wpAnyH _ _ _ _ _ _ _ (Act.put _ (some 22) _) _; simp only [Act.put, List.setIfInBounds_toArray, List.set_cons_zero, List.set_cons_succ]
     refine wpAnyH_take (i := 6) (v := ?_) rfl (by kernel_rfl) (by kernel_rfl) (by kernel_rfl) (fun _ _ _ h => h) (Or.inl ⟨by kernel_rfl, ?_⟩) hHeld ?_
     rotate_left; focus (intro w hSw; (try dsimp only at hSw); (try go_split_ands); go_simp; all_goals with_reducible rfl)
     change wpAnyH _ _ _ _ _ _ _ (Act.put _ (some 23) _) _; simp only [Act.put, List.setIfInBounds_toArray, List.set_cons_zero, List.set_cons_succ]
     refine wpAnyH_take (i := 7) (v := ?_) rfl (by kernel_rfl) (by kernel_rfl) (by kernel_rfl) (fun _ _ _ h => h) (Or.inl ⟨by kernel_rfl, ?_⟩) hHeld ?_
     rotate_left; focus (intro w hSw; (try dsimp only at hSw); (try go_split_ands); go_simp; all_goals with_reducible rfl)
     change wpAnyH _ _ _ _ _ _ _ (Act.put _ (some 24) _) _; simp only [Act.put, List.setIfInBounds_toArray, List.set_cons_zero, List.set_cons_succ]
     refine wpAnyH_take (i := 9) (v := ?_) rfl (by kernel_rfl) (by kernel_rfl) (by kernel_rfl) (fun _ _ _ h => h) (Or.inl ⟨by kernel_rfl, ?_⟩) hHeld ?_
     rotate_left; focus (intro w hSw; (try dsimp only at hSw); (try go_split_ands); go_simp; all_goals with_reducible rfl)
     change wpAnyH _ _ _ _ _ _ _ (Act.put _ (some 26) _) _; simp only [Act.put, List.setIfInBounds_toArray, List.set_cons_zero, List.set_cons_succ]
     refine wpAnyH_take (i := 10) (v := ?_) rfl (by kernel_rfl) (by kernel_rfl) (by kernel_rfl) (fun _ _ _ h => h) (Or.inl ⟨by kernel_rfl, ?_⟩) hHeld ?_
     rotate_left; focus (intro w hSw; (try dsimp only at hSw); (try go_split_ands); go_simp; all_goals with_reducible rfl)
     change wpAnyH _ _ _ _ _ _ _ (Act.put _ (some 27) _) _; simp only [Act.put, List.setIfInBounds_toArray, List.set_cons_zero, List.set_cons_succ]
     refine wpAnyH_take (i := 11) (v := ?_) rfl (by kernel_rfl) (by kernel_rfl) (by kernel_rfl) (fun _ _ _ h => h) (Or.inl ⟨by kernel_rfl, ?_⟩) hHeld ?_
     rotate_left; focus (intro w hSw; (try dsimp only at hSw); (try go_split_ands); go_simp; all_goals with_reducible rfl)
     change wpAnyH _ _ _ _ _ _ _ (Act.put _ (some 28) _) _; simp only [Act.put, List.setIfInBounds_toArray, List.set_cons_zero, List.set_cons_succ]
     refine wpAnyH_take (i := 12) (v := ?_) rfl (by kernel_rfl) (by kernel_rfl) (by kernel_rfl) (fun _ _ _ h => h) (Or.inl ⟨by kernel_rfl, ?_⟩) hHeld ?_
     rotate_left; focus (intro w hSw; (try dsimp only at hSw); (try go_split_ands); go_simp; all_goals with_reducible rfl)
     change wpAnyH _ _ _ _ _ _ _ (Act.put _ (some 29) _) _; simp only [Act.put, List.setIfInBounds_toArray, List.set_cons_zero, List.set_cons_succ]
     refine wpAnyH_take (i := 13) (v := ?_) rfl (by kernel_rfl) (by kernel_rfl) (by kernel_rfl) (fun _ _ _ h => h) (Or.inl ⟨by kernel_rfl, ?_⟩) hHeld ?_
     rotate_left; focus (intro w hSw; (try dsimp only at hSw); (try go_split_ands); go_simp; all_goals with_reducible rfl)
     change wpAnyH _ _ _ _ _ _ _ (Act.put _ (some 30) _) _; simp only [Act.put, List.setIfInBounds_toArray, List.set_cons_zero, List.set_cons_succ]
     refine wpAnyH_take (i := 14) (v := ?_) rfl (by kernel_rfl) (by kernel_rfl) (by kernel_rfl) (fun _ _ _ h => h) (Or.inl ⟨by kernel_rfl, ?_⟩) hHeld ?_
     rotate_left; focus (intro w hSw; (try dsimp only at hSw); (try go_split_ands); go_simp; all_goals with_reducible rfl)
     change wpAnyH _ _ _ _ _ _ _ (Act.put _ (some 31) _) _; simp only [Act.put, List.setIfInBounds_toArray, List.set_cons_zero, List.set_cons_succ]
     refine wpAnyH_ready (rs := [1, 8]) (by kernel_rfl) (by simp) ?_
     refine AllReadyH.cons rfl (fun K hK => ?_) ?_
     · skip
       go_simp
       refine hK.out _ _ ?_ (fun hHeld => ?_)
       · exact hHeld
       clear hK K
       refine wpAnyH_ready (rs := [8]) (by kernel_rfl) (by simp) ?_
       refine AllReadyH.cons rfl (fun K hK => ?_) AllReadyH.nil
       go_simp
       refine hK.out _ _ ?_ (fun hHeld => ?_)
       · exact kSa
       clear hK K
       refine wpAnyH_ready (rs := [15]) (by kernel_rfl) (by simp) ?_
       refine AllReadyH.cons rfl (fun K hK => ?_) AllReadyH.nil
       refine step_append_ints rfl (.tmp 25) (.tmp 31) rfl W1.heap.size (.slice (some ⟨W1.heap.size, 0, none⟩) 0 0) [] 0 rfl (World.ownsRow_made W1 #[] 0 (Nat.le_refl _) (by unfold maxLen; omega) (by simp)) b' off' q rcc rids rfl HQ.out (I1.out.below ((Below.refl _ _).alloc (Nat.le_refl _) _)) (by omega) (by omega) (by simp) ?_
       intro v3 w3 ho hg hn
       obtain ⟨g3, c3, e3⟩ := own_sm ho (not_nil hn ⟨_, _, _, rfl⟩)
       rw [Nat.zero_add] at e3
       subst e3
       have hbx : Below W1.heap.size W1 w3 := ((Below.refl W1.heap.size W1).alloc (Nat.le_refl _) _).grown hg (by simp) (fun k e => own_at e)
       have Q4 : Hid (CQ w w3 kb (.slice (some ⟨b, off, none⟩) n rc) (.slice (some ⟨bl, ol, none⟩) m lc) rs (.slice (some ⟨gl, 0, none⟩) m cl) S L) := Q1.out.below hbx
       have O4 : Hid (w3.ownsRow (w.heap.size + 2) 2 1 (.slice (some ⟨g3, 0, none⟩) q c3) q (rids.map (Value.int .i64))) := by
         rw [Nat.zero_add, List.nil_append] at ho
         exact owns_base ho (by have := row_lt Q1.out.a; omega)
       have kS3 : (fun W => W.cell? ⟨w.heap.size, 0, none⟩ = some (.slice (some ⟨b, off, none⟩) n rc) /\ W.cell? ⟨b, off + k * 2, none⟩ = some (.int .i64 rv) /\ W.cell? ⟨b, off + k * 2 + 1, none⟩ = some (.slice (some ⟨b', off', none⟩) q rcc)) w3 := ⟨(cells2 Q4.out.p).1, HRC.out _ Q4.out.b⟩
       have QB : Hid (CQ w (w3.alloc (.cells #[.int .i64 rv, .slice (some ⟨g3, 0, none⟩) q c3] 64)) kb (.slice (some ⟨b, off, none⟩) n rc) (.slice (some ⟨bl, ol, none⟩) m lc) rs (.slice (some ⟨gl, 0, none⟩) m cl) S L) := Q4.out.below ((Below.refl _ _).alloc (Nat.le_refl _) _)
       have OB : Hid (World.ownsRow (w3.alloc (.cells #[.int .i64 rv, .slice (some ⟨g3, 0, none⟩) q c3] 64)) (w.heap.size + 2) 2 1 (.slice (some ⟨g3, 0, none⟩) q c3) q (rids.map (Value.int .i64))) := O4.out.alloc _
       have kSb : (fun W => W.cell? ⟨w.heap.size, 0, none⟩ = some (.slice (some ⟨b, off, none⟩) n rc) /\ W.cell? ⟨b, off + k * 2, none⟩ = some (.int .i64 rv) /\ W.cell? ⟨b, off + k * 2 + 1, none⟩ = some (.slice (some ⟨b', off', none⟩) q rcc)) (w3.alloc (.cells #[.int .i64 rv, .slice (some ⟨g3, 0, none⟩) q c3] 64)) := ⟨(cells2 QB.out.p).1, HRC.out _ QB.out.b⟩
       obtain ⟨x0, x1⟩ := cells2 Q4.out.o
       obtain ⟨xa0, xa1⟩ := cells2 QB.out.o
       clear ho hg hn hbx
       refine hK.out _ _ ?_ (fun hHeld => ?_)
       · exact kS3
       clear hK K
       change wpAnyH _ _ _ _ _ _ _ (Act.put _ (some 32) _) _
       simp only [Act.put, List.setIfInBounds_toArray, List.set_cons_zero, List.set_cons_succ]
       refine wpAnyH_take (i := 16) (v := ?_) rfl (by kernel_rfl) (by kernel_rfl) (by kernel_rfl) (fun _ _ _ h => h) (Or.inl ⟨by kernel_rfl, ?_⟩) hHeld ?_
       rotate_left; focus (intro w hSw; (try dsimp only at hSw); (try go_split_ands); go_simp; all_goals with_reducible rfl)
       change wpAnyH _ _ _ _ _ _ _ (Act.put _ (some 33) _) _; simp only [Act.put, List.setIfInBounds_toArray, List.set_cons_zero, List.set_cons_succ]
       refine wpAnyH_ready (rs := [17]) (by kernel_rfl) (by simp) ?_
       refine AllReadyH.cons rfl (fun K hK => ?_) AllReadyH.nil
       go_simp
       refine hK.out _ _ ?_ (fun hHeld => ?_)
       · exact kSb
       clear hK K
       refine wpAnyH_ready (rs := [18]) (by kernel_rfl) (by simp) ?_
       refine AllReadyH.cons rfl (fun K hK => ?_) AllReadyH.nil
       refine step_append_vals Tryz.underlying34 infoRt (by rfl) (by omega) rfl (.tmp 18) (.tmp 34) rfl (w.heap.size + 2) rs k (rowR S) rfl (by rw [<- HSK.out]; exact QB.out.q.r) w3.heap.size 0 1 1 [.int .i64 rv, .slice (some ⟨g3, 0, none⟩) q c3] rfl rfl (cells2_here _ _ _ _ _ rfl) (by simp [Value.oneCell']) (by omega) (by omega) (by have := row_lt Q4.out.a; simp; omega) ?_
       intro v' w4 ho hg hbk hn
       rcases own_kinds ho with ⟨_, e0⟩ | ⟨g4, c4, e4, -, -⟩
       · omega
       subst e4
       have Q5 : Hid (CQ w (w4.setCell ⟨kb, 0, none⟩ (.slice (some ⟨g4, 0, none⟩) (k + 1) c4)) kb (.slice (some ⟨b, off, none⟩) n rc) (.slice (some ⟨bl, ol, none⟩) m lc) (.slice (some ⟨g4, 0, none⟩) (k + 1) c4) (.slice (some ⟨gl, 0, none⟩) m cl) (S ++ [⟨rv, some ⟨g3, 0, none⟩, rids, c3⟩]) L) := QB.out.more HQ.out HSK.out OB.out hg ho
       have X4 := QB.out.moreO hg
       have kS4 : (fun W => W.cell? ⟨w.heap.size, 0, none⟩ = some (.slice (some ⟨b, off, none⟩) n rc) /\ W.cell? ⟨b, off + k * 2, none⟩ = some (.int .i64 rv) /\ W.cell? ⟨b, off + k * 2 + 1, none⟩ = some (.slice (some ⟨b', off', none⟩) q rcc)) w4 := ⟨X4.1, HRC.out _ X4.2.2⟩
       obtain ⟨x4, y4⟩ := cells2 X4.2.1
       have xf := fun i => frozen_of_row _ _ i _ _ X4.2.1
       have kS5 : (fun W => W.cell? ⟨w.heap.size, 0, none⟩ = some (.slice (some ⟨b, off, none⟩) n rc) /\ W.cell? ⟨b, off + k * 2, none⟩ = some (.int .i64 rv) /\ W.cell? ⟨b, off + k * 2 + 1, none⟩ = some (.slice (some ⟨b', off', none⟩) q rcc)) (w4.setCell ⟨kb, 0, none⟩ (.slice (some ⟨g4, 0, none⟩) (k + 1) c4)) := ⟨(cells2 Q5.out.p).1, HRC.out _ Q5.out.b⟩
       clear ho hg hbk hn X4
       refine hK.out _ _ ?_ (fun hHeld => ?_)
       · exact kS4
       clear hK K
       change wpAnyH _ _ _ _ _ _ _ (Act.put _ (some 35) _) _
       simp only [Act.put, List.setIfInBounds_toArray, List.set_cons_zero, List.set_cons_succ]
       refine wpAnyH_take (i := 19) (v := ?_) rfl (by kernel_rfl) (by kernel_rfl) (by kernel_rfl) (fun _ _ _ h => h) (Or.inl ⟨by kernel_rfl, ?_⟩) hHeld ?_
       rotate_left; focus (intro w hSw; (try dsimp only at hSw); (try go_split_ands); go_simp; all_goals with_reducible rfl)
       change wpAnyH _ _ _ _ _ _ _ (Act.put _ (some 36) _) _; simp only [Act.put, List.setIfInBounds_toArray, List.set_cons_zero, List.set_cons_succ]
       refine wpAnyH_ready (rs := [20]) (by kernel_rfl) (by simp) ?_
       refine AllReadyH.cons rfl (fun K hK => ?_) AllReadyH.nil
       go_simp
       refine hK.out _ _ ?_ (fun hHeld => ?_)
       · exact kS5
       clear hK K
       refine wpAnyH_done (by kernel_rfl) ?_ _
       clear hHeld kS5 xf x4 y4 kS4 x0 x1 xa0 xa1 kSb kS3 kSa oa0 oa1 o0 o1 QB OB Q4 O4 QA Q1 I1
       generalize w4.setCell ⟨kb, 0, none⟩ (.slice (some ⟨g4, 0, none⟩) (k + 1) c4) = W5 at *
       go_wp2
       go_roundw
       case rel =>
         refine ⟨k + 1, _, _, by omega, by first | rfl | go_num, ?_, Q5.out⟩
         rw [HTK.out, List.map_append, List.map_append, HKY.out]
         rfl
       case measure => simp [intOf]; omega
     refine AllReadyH.cons rfl (fun K hK => ?_) AllReadyH.nil
     go_simp
     refine hK.out _ _ ?_ (fun hHeld => ?_)
     · exact kSa
     clear hK K
     refine wpAnyH_ready (rs := [1, 15]) (by kernel_rfl) (by simp) ?_
     refine AllReadyH.cons rfl (fun K hK => ?_) ?_
     · skip
       go_simp
       refine hK.out _ _ ?_ (fun hHeld => ?_)
       · exact kSa
       clear hK K
       refine wpAnyH_ready (rs := [15]) (by kernel_rfl) (by simp) ?_
       refine AllReadyH.cons rfl (fun K hK => ?_) AllReadyH.nil
       refine step_append_ints rfl (.tmp 25) (.tmp 31) rfl W1.heap.size (.slice (some ⟨W1.heap.size, 0, none⟩) 0 0) [] 0 rfl (World.ownsRow_made W1 #[] 0 (Nat.le_refl _) (by unfold maxLen; omega) (by simp)) b' off' q rcc rids rfl HQ.out (I1.out.below ((Below.refl _ _).alloc (Nat.le_refl _) _)) (by omega) (by omega) (by simp) ?_
       intro v3 w3 ho hg hn
       obtain ⟨g3, c3, e3⟩ := own_sm ho (not_nil hn ⟨_, _, _, rfl⟩)
       rw [Nat.zero_add] at e3
       subst e3
       have hbx : Below W1.heap.size W1 w3 := ((Below.refl W1.heap.size W1).alloc (Nat.le_refl _) _).grown hg (by simp) (fun k e => own_at e)
       have Q4 : Hid (CQ w w3 kb (.slice (some ⟨b, off, none⟩) n rc) (.slice (some ⟨bl, ol, none⟩) m lc) rs (.slice (some ⟨gl, 0, none⟩) m cl) S L) := Q1.out.below hbx
       have O4 : Hid (w3.ownsRow (w.heap.size + 2) 2 1 (.slice (some ⟨g3, 0, none⟩) q c3) q (rids.map (Value.int .i64))) := by
         rw [Nat.zero_add, List.nil_append] at ho
         exact owns_base ho (by have := row_lt Q1.out.a; omega)
       have kS3 : (fun W => W.cell? ⟨w.heap.size, 0, none⟩ = some (.slice (some ⟨b, off, none⟩) n rc) /\ W.cell? ⟨b, off + k * 2, none⟩ = some (.int .i64 rv) /\ W.cell? ⟨b, off + k * 2 + 1, none⟩ = some (.slice (some ⟨b', off', none⟩) q rcc)) w3 := ⟨(cells2 Q4.out.p).1, HRC.out _ Q4.out.b⟩
       have QB : Hid (CQ w (w3.alloc (.cells #[.int .i64 rv, .slice (some ⟨g3, 0, none⟩) q c3] 64)) kb (.slice (some ⟨b, off, none⟩) n rc) (.slice (some ⟨bl, ol, none⟩) m lc) rs (.slice (some ⟨gl, 0, none⟩) m cl) S L) := Q4.out.below ((Below.refl _ _).alloc (Nat.le_refl _) _)
       have OB : Hid (World.ownsRow (w3.alloc (.cells #[.int .i64 rv, .slice (some ⟨g3, 0, none⟩) q c3] 64)) (w.heap.size + 2) 2 1 (.slice (some ⟨g3, 0, none⟩) q c3) q (rids.map (Value.int .i64))) := O4.out.alloc _
       have kSb : (fun W => W.cell? ⟨w.heap.size, 0, none⟩ = some (.slice (some ⟨b, off, none⟩) n rc) /\ W.cell? ⟨b, off + k * 2, none⟩ = some (.int .i64 rv) /\ W.cell? ⟨b, off + k * 2 + 1, none⟩ = some (.slice (some ⟨b', off', none⟩) q rcc)) (w3.alloc (.cells #[.int .i64 rv, .slice (some ⟨g3, 0, none⟩) q c3] 64)) := ⟨(cells2 QB.out.p).1, HRC.out _ QB.out.b⟩
       obtain ⟨x0, x1⟩ := cells2 Q4.out.o
       obtain ⟨xa0, xa1⟩ := cells2 QB.out.o
       clear ho hg hn hbx
       refine hK.out _ _ ?_ (fun hHeld => ?_)
       · exact kS3
       clear hK K
       change wpAnyH _ _ _ _ _ _ _ (Act.put _ (some 32) _) _
       simp only [Act.put, List.setIfInBounds_toArray, List.set_cons_zero, List.set_cons_succ]
       refine wpAnyH_take (i := 16) (v := ?_) rfl (by kernel_rfl) (by kernel_rfl) (by kernel_rfl) (fun _ _ _ h => h) (Or.inl ⟨by kernel_rfl, ?_⟩) hHeld ?_
       rotate_left; focus (intro w hSw; (try dsimp only at hSw); (try go_split_ands); go_simp; all_goals with_reducible rfl)
       change wpAnyH _ _ _ _ _ _ _ (Act.put _ (some 33) _) _; simp only [Act.put, List.setIfInBounds_toArray, List.set_cons_zero, List.set_cons_succ]
       refine wpAnyH_ready (rs := [17]) (by kernel_rfl) (by simp) ?_
       refine AllReadyH.cons rfl (fun K hK => ?_) AllReadyH.nil
       go_simp
       refine hK.out _ _ ?_ (fun hHeld => ?_)
       · exact kSb
       clear hK K
       refine wpAnyH_ready (rs := [18]) (by kernel_rfl) (by simp) ?_
       refine AllReadyH.cons rfl (fun K hK => ?_) AllReadyH.nil
       refine step_append_vals Tryz.underlying34 infoRt (by rfl) (by omega) rfl (.tmp 18) (.tmp 34) rfl (w.heap.size + 2) rs k (rowR S) rfl (by rw [<- HSK.out]; exact QB.out.q.r) w3.heap.size 0 1 1 [.int .i64 rv, .slice (some ⟨g3, 0, none⟩) q c3] rfl rfl (cells2_here _ _ _ _ _ rfl) (by simp [Value.oneCell']) (by omega) (by omega) (by have := row_lt Q4.out.a; simp; omega) ?_
       intro v' w4 ho hg hbk hn
       rcases own_kinds ho with ⟨_, e0⟩ | ⟨g4, c4, e4, -, -⟩
       · omega
       subst e4
       have Q5 : Hid (CQ w (w4.setCell ⟨kb, 0, none⟩ (.slice (some ⟨g4, 0, none⟩) (k + 1) c4)) kb (.slice (some ⟨b, off, none⟩) n rc) (.slice (some ⟨bl, ol, none⟩) m lc) (.slice (some ⟨g4, 0, none⟩) (k + 1) c4) (.slice (some ⟨gl, 0, none⟩) m cl) (S ++ [⟨rv, some ⟨g3, 0, none⟩, rids, c3⟩]) L) := QB.out.more HQ.out HSK.out OB.out hg ho
       have X4 := QB.out.moreO hg
       have kS4 : (fun W => W.cell? ⟨w.heap.size, 0, none⟩ = some (.slice (some ⟨b, off, none⟩) n rc) /\ W.cell? ⟨b, off + k * 2, none⟩ = some (.int .i64 rv) /\ W.cell? ⟨b, off + k * 2 + 1, none⟩ = some (.slice (some ⟨b', off', none⟩) q rcc)) w4 := ⟨X4.1, HRC.out _ X4.2.2⟩
       obtain ⟨x4, y4⟩ := cells2 X4.2.1
       have xf := fun i => frozen_of_row _ _ i _ _ X4.2.1
       have kS5 : (fun W => W.cell? ⟨w.heap.size, 0, none⟩ = some (.slice (some ⟨b, off, none⟩) n rc) /\ W.cell? ⟨b, off + k * 2, none⟩ = some (.int .i64 rv) /\ W.cell? ⟨b, off + k * 2 + 1, none⟩ = some (.slice (some ⟨b', off', none⟩) q rcc)) (w4.setCell ⟨kb, 0, none⟩ (.slice (some ⟨g4, 0, none⟩) (k + 1) c4)) := ⟨(cells2 Q5.out.p).1, HRC.out _ Q5.out.b⟩
       clear ho hg hbk hn X4
       refine hK.out _ _ ?_ (fun hHeld => ?_)
       · exact kS4
       clear hK K
       change wpAnyH _ _ _ _ _ _ _ (Act.put _ (some 35) _) _
       simp only [Act.put, List.setIfInBounds_toArray, List.set_cons_zero, List.set_cons_succ]
       refine wpAnyH_take (i := 19) (v := ?_) rfl (by kernel_rfl) (by kernel_rfl) (by kernel_rfl) (fun _ _ _ h => h) (Or.inl ⟨by kernel_rfl, ?_⟩) hHeld ?_
       rotate_left; focus (intro w hSw; (try dsimp only at hSw); (try go_split_ands); go_simp; all_goals with_reducible rfl)
       change wpAnyH _ _ _ _ _ _ _ (Act.put _ (some 36) _) _; simp only [Act.put, List.setIfInBounds_toArray, List.set_cons_zero, List.set_cons_succ]
       refine wpAnyH_ready (rs := [20]) (by kernel_rfl) (by simp) ?_
       refine AllReadyH.cons rfl (fun K hK => ?_) AllReadyH.nil
       go_simp
       refine hK.out _ _ ?_ (fun hHeld => ?_)
       · exact kS5
       clear hK K
       refine wpAnyH_done (by kernel_rfl) ?_ _
       clear hHeld kS5 xf x4 y4 kS4 x0 x1 xa0 xa1 kSb kS3 kSa oa0 oa1 o0 o1 QB OB Q4 O4 QA Q1 I1
       generalize w4.setCell ⟨kb, 0, none⟩ (.slice (some ⟨g4, 0, none⟩) (k + 1) c4) = W5 at *
       go_wp2
       go_roundw
       case rel =>
         refine ⟨k + 1, _, _, by omega, by first | rfl | go_num, ?_, Q5.out⟩
         rw [HTK.out, List.map_append, List.map_append, HKY.out]
         rfl
       case measure => simp [intOf]; omega
     refine AllReadyH.cons rfl (fun K hK => ?_) AllReadyH.nil
     refine step_append_ints rfl (.tmp 25) (.tmp 31) rfl W1.heap.size (.slice (some ⟨W1.heap.size, 0, none⟩) 0 0) [] 0 rfl (World.ownsRow_made W1 #[] 0 (Nat.le_refl _) (by unfold maxLen; omega) (by simp)) b' off' q rcc rids rfl HQ.out (I1.out.below ((Below.refl _ _).alloc (Nat.le_refl _) _)) (by omega) (by omega) (by simp) ?_
     intro v3 w3 ho hg hn
     obtain ⟨g3, c3, e3⟩ := own_sm ho (not_nil hn ⟨_, _, _, rfl⟩)
     rw [Nat.zero_add] at e3
     subst e3
     have hbx : Below W1.heap.size W1 w3 := ((Below.refl W1.heap.size W1).alloc (Nat.le_refl _) _).grown hg (by simp) (fun k e => own_at e)
     have Q4 : Hid (CQ w w3 kb (.slice (some ⟨b, off, none⟩) n rc) (.slice (some ⟨bl, ol, none⟩) m lc) rs (.slice (some ⟨gl, 0, none⟩) m cl) S L) := Q1.out.below hbx
     have O4 : Hid (w3.ownsRow (w.heap.size + 2) 2 1 (.slice (some ⟨g3, 0, none⟩) q c3) q (rids.map (Value.int .i64))) := by
       rw [Nat.zero_add, List.nil_append] at ho
       exact owns_base ho (by have := row_lt Q1.out.a; omega)
     have kS3 : (fun W => W.cell? ⟨w.heap.size, 0, none⟩ = some (.slice (some ⟨b, off, none⟩) n rc) /\ W.cell? ⟨b, off + k * 2, none⟩ = some (.int .i64 rv) /\ W.cell? ⟨b, off + k * 2 + 1, none⟩ = some (.slice (some ⟨b', off', none⟩) q rcc)) w3 := ⟨(cells2 Q4.out.p).1, HRC.out _ Q4.out.b⟩
     have QB : Hid (CQ w (w3.alloc (.cells #[.int .i64 rv, .slice (some ⟨g3, 0, none⟩) q c3] 64)) kb (.slice (some ⟨b, off, none⟩) n rc) (.slice (some ⟨bl, ol, none⟩) m lc) rs (.slice (some ⟨gl, 0, none⟩) m cl) S L) := Q4.out.below ((Below.refl _ _).alloc (Nat.le_refl _) _)
     have OB : Hid (World.ownsRow (w3.alloc (.cells #[.int .i64 rv, .slice (some ⟨g3, 0, none⟩) q c3] 64)) (w.heap.size + 2) 2 1 (.slice (some ⟨g3, 0, none⟩) q c3) q (rids.map (Value.int .i64))) := O4.out.alloc _
     have kSb : (fun W => W.cell? ⟨w.heap.size, 0, none⟩ = some (.slice (some ⟨b, off, none⟩) n rc) /\ W.cell? ⟨b, off + k * 2, none⟩ = some (.int .i64 rv) /\ W.cell? ⟨b, off + k * 2 + 1, none⟩ = some (.slice (some ⟨b', off', none⟩) q rcc)) (w3.alloc (.cells #[.int .i64 rv, .slice (some ⟨g3, 0, none⟩) q c3] 64)) := ⟨(cells2 QB.out.p).1, HRC.out _ QB.out.b⟩
     obtain ⟨x0, x1⟩ := cells2 Q4.out.o
     obtain ⟨xa0, xa1⟩ := cells2 QB.out.o
     clear ho hg hn hbx
     refine hK.out _ _ ?_ (fun hHeld => ?_)
     · exact kS3
     clear hK K
     change wpAnyH _ _ _ _ _ _ _ (Act.put _ (some 32) _) _
     simp only [Act.put, List.setIfInBounds_toArray, List.set_cons_zero, List.set_cons_succ]
     refine wpAnyH_take (i := 16) (v := ?_) rfl (by kernel_rfl) (by kernel_rfl) (by kernel_rfl) (fun _ _ _ h => h) (Or.inl ⟨by kernel_rfl, ?_⟩) hHeld ?_
     rotate_left; focus (intro w hSw; (try dsimp only at hSw); (try go_split_ands); go_simp; all_goals with_reducible rfl)
     change wpAnyH _ _ _ _ _ _ _ (Act.put _ (some 33) _) _; simp only [Act.put, List.setIfInBounds_toArray, List.set_cons_zero, List.set_cons_succ]
     refine wpAnyH_ready (rs := [1, 17]) (by kernel_rfl) (by simp) ?_
     refine AllReadyH.cons rfl (fun K hK => ?_) ?_
     · skip
       go_simp
       refine hK.out _ _ ?_ (fun hHeld => ?_)
       · exact kS3
       clear hK K
       refine wpAnyH_ready (rs := [17]) (by kernel_rfl) (by simp) ?_
       refine AllReadyH.cons rfl (fun K hK => ?_) AllReadyH.nil
       go_simp
       refine hK.out _ _ ?_ (fun hHeld => ?_)
       · exact kSb
       clear hK K
       refine wpAnyH_ready (rs := [18]) (by kernel_rfl) (by simp) ?_
       refine AllReadyH.cons rfl (fun K hK => ?_) AllReadyH.nil
       refine step_append_vals Tryz.underlying34 infoRt (by rfl) (by omega) rfl (.tmp 18) (.tmp 34) rfl (w.heap.size + 2) rs k (rowR S) rfl (by rw [<- HSK.out]; exact QB.out.q.r) w3.heap.size 0 1 1 [.int .i64 rv, .slice (some ⟨g3, 0, none⟩) q c3] rfl rfl (cells2_here _ _ _ _ _ rfl) (by simp [Value.oneCell']) (by omega) (by omega) (by have := row_lt Q4.out.a; simp; omega) ?_
       intro v' w4 ho hg hbk hn
       rcases own_kinds ho with ⟨_, e0⟩ | ⟨g4, c4, e4, -, -⟩
       · omega
       subst e4
       have Q5 : Hid (CQ w (w4.setCell ⟨kb, 0, none⟩ (.slice (some ⟨g4, 0, none⟩) (k + 1) c4)) kb (.slice (some ⟨b, off, none⟩) n rc) (.slice (some ⟨bl, ol, none⟩) m lc) (.slice (some ⟨g4, 0, none⟩) (k + 1) c4) (.slice (some ⟨gl, 0, none⟩) m cl) (S ++ [⟨rv, some ⟨g3, 0, none⟩, rids, c3⟩]) L) := QB.out.more HQ.out HSK.out OB.out hg ho
       have X4 := QB.out.moreO hg
       have kS4 : (fun W => W.cell? ⟨w.heap.size, 0, none⟩ = some (.slice (some ⟨b, off, none⟩) n rc) /\ W.cell? ⟨b, off + k * 2, none⟩ = some (.int .i64 rv) /\ W.cell? ⟨b, off + k * 2 + 1, none⟩ = some (.slice (some ⟨b', off', none⟩) q rcc)) w4 := ⟨X4.1, HRC.out _ X4.2.2⟩
       obtain ⟨x4, y4⟩ := cells2 X4.2.1
       have xf := fun i => frozen_of_row _ _ i _ _ X4.2.1
       have kS5 : (fun W => W.cell? ⟨w.heap.size, 0, none⟩ = some (.slice (some ⟨b, off, none⟩) n rc) /\ W.cell? ⟨b, off + k * 2, none⟩ = some (.int .i64 rv) /\ W.cell? ⟨b, off + k * 2 + 1, none⟩ = some (.slice (some ⟨b', off', none⟩) q rcc)) (w4.setCell ⟨kb, 0, none⟩ (.slice (some ⟨g4, 0, none⟩) (k + 1) c4)) := ⟨(cells2 Q5.out.p).1, HRC.out _ Q5.out.b⟩
       clear ho hg hbk hn X4
       refine hK.out _ _ ?_ (fun hHeld => ?_)
       · exact kS4
       clear hK K
       change wpAnyH _ _ _ _ _ _ _ (Act.put _ (some 35) _) _
       simp only [Act.put, List.setIfInBounds_toArray, List.set_cons_zero, List.set_cons_succ]
       refine wpAnyH_take (i := 19) (v := ?_) rfl (by kernel_rfl) (by kernel_rfl) (by kernel_rfl) (fun _ _ _ h => h) (Or.inl ⟨by kernel_rfl, ?_⟩) hHeld ?_
       rotate_left; focus (intro w hSw; (try dsimp only at hSw); (try go_split_ands); go_simp; all_goals with_reducible rfl)
       change wpAnyH _ _ _ _ _ _ _ (Act.put _ (some 36) _) _; simp only [Act.put, List.setIfInBounds_toArray, List.set_cons_zero, List.set_cons_succ]
       refine wpAnyH_ready (rs := [20]) (by kernel_rfl) (by simp) ?_
       refine AllReadyH.cons rfl (fun K hK => ?_) AllReadyH.nil
       go_simp
       refine hK.out _ _ ?_ (fun hHeld => ?_)
       · exact kS5
       clear hK K
       refine wpAnyH_done (by kernel_rfl) ?_ _
       clear hHeld kS5 xf x4 y4 kS4 x0 x1 xa0 xa1 kSb kS3 kSa oa0 oa1 o0 o1 QB OB Q4 O4 QA Q1 I1
       generalize w4.setCell ⟨kb, 0, none⟩ (.slice (some ⟨g4, 0, none⟩) (k + 1) c4) = W5 at *
       go_wp2
       go_roundw
       case rel =>
         refine ⟨k + 1, _, _, by omega, by first | rfl | go_num, ?_, Q5.out⟩
         rw [HTK.out, List.map_append, List.map_append, HKY.out]
         rfl
       case measure => simp [intOf]; omega
     refine AllReadyH.cons rfl (fun K hK => ?_) AllReadyH.nil
     go_simp
     refine hK.out _ _ ?_ (fun hHeld => ?_)
     · exact kSb
     clear hK K
     refine wpAnyH_ready (rs := [1]) (by kernel_rfl) (by simp) ?_
     refine AllReadyH.cons rfl (fun K hK => ?_) AllReadyH.nil
     go_simp
     refine hK.out _ _ ?_ (fun hHeld => ?_)
     · exact kSb
     clear hK K
     refine wpAnyH_ready (rs := [18]) (by kernel_rfl) (by simp) ?_
     refine AllReadyH.cons rfl (fun K hK => ?_) AllReadyH.nil
     refine step_append_vals Tryz.underlying34 infoRt (by rfl) (by omega) rfl (.tmp 18) (.tmp 34) rfl (w.heap.size + 2) rs k (rowR S) rfl (by rw [<- HSK.out]; exact QB.out.q.r) w3.heap.size 0 1 1 [.int .i64 rv, .slice (some ⟨g3, 0, none⟩) q c3] rfl rfl (cells2_here _ _ _ _ _ rfl) (by simp [Value.oneCell']) (by omega) (by omega) (by have := row_lt Q4.out.a; simp; omega) ?_
     intro v' w4 ho hg hbk hn
     rcases own_kinds ho with ⟨_, e0⟩ | ⟨g4, c4, e4, -, -⟩
     · omega
     subst e4
     have Q5 : Hid (CQ w (w4.setCell ⟨kb, 0, none⟩ (.slice (some ⟨g4, 0, none⟩) (k + 1) c4)) kb (.slice (some ⟨b, off, none⟩) n rc) (.slice (some ⟨bl, ol, none⟩) m lc) (.slice (some ⟨g4, 0, none⟩) (k + 1) c4) (.slice (some ⟨gl, 0, none⟩) m cl) (S ++ [⟨rv, some ⟨g3, 0, none⟩, rids, c3⟩]) L) := QB.out.more HQ.out HSK.out OB.out hg ho
     have X4 := QB.out.moreO hg
     have kS4 : (fun W => W.cell? ⟨w.heap.size, 0, none⟩ = some (.slice (some ⟨b, off, none⟩) n rc) /\ W.cell? ⟨b, off + k * 2, none⟩ = some (.int .i64 rv) /\ W.cell? ⟨b, off + k * 2 + 1, none⟩ = some (.slice (some ⟨b', off', none⟩) q rcc)) w4 := ⟨X4.1, HRC.out _ X4.2.2⟩
     obtain ⟨x4, y4⟩ := cells2 X4.2.1
     have xf := fun i => frozen_of_row _ _ i _ _ X4.2.1
     have kS5 : (fun W => W.cell? ⟨w.heap.size, 0, none⟩ = some (.slice (some ⟨b, off, none⟩) n rc) /\ W.cell? ⟨b, off + k * 2, none⟩ = some (.int .i64 rv) /\ W.cell? ⟨b, off + k * 2 + 1, none⟩ = some (.slice (some ⟨b', off', none⟩) q rcc)) (w4.setCell ⟨kb, 0, none⟩ (.slice (some ⟨g4, 0, none⟩) (k + 1) c4)) := ⟨(cells2 Q5.out.p).1, HRC.out _ Q5.out.b⟩
     clear ho hg hbk hn X4
     refine hK.out _ _ ?_ (fun hHeld => ?_)
     · exact kS4
     clear hK K
     change wpAnyH _ _ _ _ _ _ _ (Act.put _ (some 35) _) _
     simp only [Act.put, List.setIfInBounds_toArray, List.set_cons_zero, List.set_cons_succ]
     refine wpAnyH_take (i := 19) (v := ?_) rfl (by kernel_rfl) (by kernel_rfl) (by kernel_rfl) (fun _ _ _ h => h) (Or.inl ⟨by kernel_rfl, ?_⟩) hHeld ?_
     rotate_left; focus (intro w hSw; (try dsimp only at hSw); (try go_split_ands); go_simp; all_goals with_reducible rfl)
     change wpAnyH _ _ _ _ _ _ _ (Act.put _ (some 36) _) _; simp only [Act.put, List.setIfInBounds_toArray, List.set_cons_zero, List.set_cons_succ]
     refine wpAnyH_ready (rs := [20]) (by kernel_rfl) (by simp) ?_
     refine AllReadyH.cons rfl (fun K hK => ?_) AllReadyH.nil
     go_simp
     refine hK.out _ _ ?_ (fun hHeld => ?_)
     · exact kS5
     clear hK K
     refine wpAnyH_done (by kernel_rfl) ?_ _
     clear hHeld kS5 xf x4 y4 kS4 x0 x1 xa0 xa1 kSb kS3 kSa oa0 oa1 o0 o1 QB OB Q4 O4 QA Q1 I1
     generalize w4.setCell ⟨kb, 0, none⟩ (.slice (some ⟨g4, 0, none⟩) (k + 1) c4) = W5 at *
     go_wp2
     go_roundw
     case rel =>
       refine ⟨k + 1, _, _, by omega, by first | rfl | go_num, ?_, Q5.out⟩
       rw [HTK.out, List.map_append, List.map_append, HKY.out]
       rfl
     case measure => simp [intOf]; omega
     -- NOIGER
   · have hkI : ¬ ((k : Int) < (n : Int)) := by omega
     have hke : k = n := by omega
     obtain ⟨a0, a1⟩ := cells2 Q3.out.a
     have af := fun i => frozen_of_row _ _ i _ _ Q3.out.a
     obtain ⟨o0, o1⟩ := cells2 Q3.out.o
     have HKE : Hid (S.map RT.key = R.map RT.key) := by
       show _ = _
       rw [HKY.out, hke, <- HN.out, List.take_length]
     have hSn : S.length = n := by rw [HSK.out]; exact hke
     obtain ⟨ga, ca, e⟩ : ∃ ga ca, rs = .slice ga n ca := by
       rcases Q3.out.q.rv with ⟨e, h0⟩ | ⟨g, c, e, _, _⟩
       · exact ⟨none, 0, by rw [e, <- hSn, h0]⟩
       · exact ⟨_, c, by rw [e, hSn]⟩
     subst e
     clear hke hSn HSK HKY
     go_wp2
     refine bodyPost_ret (v := .agg #[.slice ga n ca, .slice (some ⟨gl, 0, none⟩) m cl]) (by simp [results, Tryz.results24, go_sem, a0, a1]) rfl ⟨ga, ca, gl, cl, S, by rw [HN.out, HM.out], ?_, HKE.out, ?_⟩
     · repeat (first | with_reducible exact Q3.out.b | refine Below.setCell ?_ (by simp <;> omega) _)
     · rw [HN.out, HM.out]
       repeat (first | with_reducible exact Q3.out.q | refine PO.set ?_ (by omega))
end Go.Proofs.YtjlhmkmhehcmkaaGreat