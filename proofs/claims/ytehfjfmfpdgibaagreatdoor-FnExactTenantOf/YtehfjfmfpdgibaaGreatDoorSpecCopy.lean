import Derived.Test.YtehfjfmfpdgibaaGreatDoorPack2
import Derived.Test.YtehfjfmfpdgibaaGreatDoorPack5
import Derived.Test.YtehfjfmfpdgibaaGreatDoorPack20
import Derived.Test.YtehfjfmfpdgibaaGreatDoorPack23
import Derived.Test.YtehfjfmfpdgibaaGreatDoorPack24
import Derived.Deep.RegionHeld3
import Derived.Deep.CutRange
namespace Go.Proofs.YtehfjfmfpdgibaaGreatDoor
open Go.RowKit
theorem PO.box {w : World} {base k i : Nat} {rs ls u : Value} {S : List RT} {L : List Int} {cs : Array Value} (h : PO w base rs S ls L) (hk : w.heap[k]? = some (.cells cs 46 (0, 0))) : PO (w.setCell ⟨k, i, none⟩ u) base rs S ls L :=
 ⟨ownsRow_setCell_other h.r (own_typ h.r hk (by decide)) _, fun s hs => ownsRow_setCell_other (h.s s hs) (own_typ (h.s s hs) hk (by decide)) _, ownsRow_setCell_other h.l (own_typ h.l hk (by decide)) _⟩
theorem PO.more {w w' : World} {base : Nat} {rs rs' ls : Value} {S : List RT} {L : List Int} {r : RT} (h : PO w base rs S ls L) (hr : w.ownsRow base 2 1 (.slice r.a r.ids.length r.c) r.ids.length (r.ids.map (Value.int .i64))) (hg : w.grownBy w' rs.ownBlock) (ho : w'.ownsRow base 134 2 rs' (S.length + 1) (rowR S ++ rtCells r)) : PO w' base rs' (S ++ [r]) ls L := by
 have keep : ∀ (v : Value) n xs, w.ownsRow base 2 1 v n xs -> w'.ownsRow base 2 1 v n xs := fun v n xs hv => by
  refine hv.kept hg ?_
  rcases h.rv with ⟨e, _⟩ | ⟨g, c, e, _, _⟩
  · rw [e] at hg ⊢
    cases hb : v.ownBlock with
    | none => exact .inl rfl
    | some q => exact .inr (by simp [Value.ownBlock])
  · rw [e]
    refine .inr fun e2 => ?_
    have hrow : ∃ cs, w.heap[g]? = some (.cells cs 134 (0, 0)) := by
     have h2 := h.r
     rw [e] at h2
     obtain ⟨_, ⟨h3, _⟩ | ⟨g', cap, cur, h3, _, h4, _⟩⟩ := h2
     · cases h3
     · simp only [Value.slice.injEq, Option.some.injEq, Addr.mk.injEq] at h3
       exact ⟨cur, by rw [h3.1.1]; exact h4⟩
    obtain ⟨cs, hcs⟩ := hrow
    exact own_typ hv hcs (by decide) e2
 refine ⟨?_, fun s hs => ?_, keep _ _ _ h.l⟩
 · rw [List.length_append, rowR_app, show rowR [r] = rtCells r by simp [rowR]]
   exact ho
 · rcases List.mem_append.1 hs with hs | hs
   · exact keep _ _ _ (h.s s hs)
   · have : s = r := by simpa using hs
     subst this
     exact keep _ _ _ hr
structure CQ (w W : World) (kb : Nat) (p0 p1 rs ls : Value) (S : List RT) (L : List Int) : Prop where
 b : Below w.heap.size w W
 p : W.heap[w.heap.size]? = some (.cells #[p0, p1] 46 (0, 0))
 a : W.heap[w.heap.size + 1]? = some (.cells #[.slice none 0 0, .slice none 0 0] 46 (0, 0))
 o : W.heap[kb]? = some (.cells #[rs, ls] 46 (0, 0))
 k : w.heap.size + 1 < kb
 q : PO W (w.heap.size + 2) rs S ls L
theorem CQ.below {w W W' : World} {kb : Nat} {p0 p1 rs ls : Value} {S : List RT} {L : List Int} (h : CQ w W kb p0 p1 rs ls S L) (hb : Below W.heap.size W W') : CQ w W' kb p0 p1 rs ls S L :=
 ⟨h.b.trans (hb.mono h.b.size), below_row hb (row_lt h.p) h.p, below_row hb (row_lt h.a) h.a, below_row hb (row_lt h.o) h.o, h.k, h.q.below hb⟩
theorem CQ.moreO {w W w4 : World} {kb : Nat} {p0 p1 rs ls : Value} {S : List RT} {L : List Int} (h : CQ w W kb p0 p1 rs ls S L) (hg : W.grownBy w4 rs.ownBlock) : w4.cell? ⟨w.heap.size, 0, none⟩ = some p0 /\ w4.heap[kb]? = some (.cells #[rs, ls] 46 (0, 0)) /\ Below w.heap.size w w4 := by
 have hnp : ∀ j cs, W.heap[j]? = some (.cells cs 46 (0, 0)) -> some j ≠ rs.ownBlock := fun j cs hj e => own_typ h.q.r hj (by decide) e.symm
 exact ⟨(cells2 (grown_row hg h.p (hnp _ _ h.p))).1, grown_row hg h.o (hnp _ _ h.o), h.b.grown hg h.b.size (fun j e => by have := (h.q.r.lt j e).1; omega)⟩
theorem CQ.more {w W w4 : World} {kb k q g3 c3 : Nat} {p0 p1 rs ls v' : Value} {S : List RT} {L rids : List Int} {rv : Int} (h : CQ w W kb p0 p1 rs ls S L) (hq : rids.length = q) (hk : S.length = k) (hs : W.ownsRow (w.heap.size + 2) 2 1 (.slice (some ⟨g3, 0, none⟩) q c3) q (rids.map (Value.int .i64))) (hg : W.grownBy w4 rs.ownBlock) (ho : w4.ownsRow (w.heap.size + 2) 134 2 v' (k + 1) (rowR S ++ [.int .i64 rv, .slice (some ⟨g3, 0, none⟩) q c3])) : CQ w (w4.setCell ⟨kb, 0, none⟩ v') kb p0 p1 v' ls (S ++ [⟨rv, some ⟨g3, 0, none⟩, rids, c3⟩]) L := by
 subst hq hk
 have hnp : ∀ j cs, W.heap[j]? = some (.cells cs 46 (0, 0)) -> some j ≠ rs.ownBlock := fun j cs hj e => own_typ h.q.r hj (by decide) e.symm
 have hb4 : Below w.heap.size w w4 := h.b.grown hg h.b.size (fun j e => by have := (h.q.r.lt j e).1; omega)
 have MO := h.q.more (r := ⟨rv, some ⟨g3, 0, none⟩, rids, c3⟩) hs hg ho
 have hk5 := h.k
 have ho4 := grown_row hg h.o (hnp _ _ h.o)
 have s1 := heap_setCell_same w4 kb 0 _ _ v' ho4
 refine ⟨hb4.setCell (by simp; omega) _, ?_, ?_, by simpa using s1, hk5, MO.box ho4⟩
 · rw [heap_setCell_other _ _ _ _ (by simp; omega)]; exact grown_row hg h.p (hnp _ _ h.p)
 · rw [heap_setCell_other _ _ _ _ (by simp; omega)]; exact grown_row hg h.a (hnp _ _ h.a)
theorem cells2_here (W : World) (o0 o1 : Value) (T : TypeId) (g : Nat) (hg : W.heap.size = g) : ∀ j u, [o0, o1][j]? = some u -> (W.alloc (.cells #[o0, o1] T)).cell? ⟨g, 0 + j, none⟩ = some u := by
 subst hg
 intro j u h
 have hr := heap_alloc_new W (.cells #[o0, o1] T)
 rw [Nat.zero_add, cell_of_row _ _ j _ _ _ hr, <- h]
 simp
def CopyOk (w : World) (R : List RT) (L : List Int) (e : Ending) (w' : World) : Prop := ∃ ra rc gl lc S, e = .returned (.agg #[.slice ra R.length rc, .slice (some ⟨gl, 0, none⟩) L.length lc]) /\ Below w.heap.size w w' /\ S.map RT.key = R.map RT.key /\ PO w' (w.heap.size + 2) (.slice ra R.length rc) S (.slice (some ⟨gl, 0, none⟩) L.length lc) L
set_option maxHeartbeats 4000000 in
theorem l4Copy_opt (ra la : Option Addr) (rc lc : Nat) (R : List RT) (L : List Int) (w : World) (hR : RoutesAt w ra R) (hL : IntsAt w la L) (hla : (la = none /\ L.length = 0) ∨ ∃ bl ol, la = some ⟨bl, ol, none⟩) (hn : R.length <= 500) (hi : ∀ r ∈ R, r.ids ≠ [] /\ r.ids.length <= 500) (hl : L.length <= 500) :
 Calls Tryz.prog 46 #[.agg #[.slice ra R.length rc, .slice la L.length lc]] w (CopyOk w R L) := by
 have HR : Hid (RoutesAt w ra R) := hR
 have HL : Hid (IntsAt w la L) := hL
 have HLA : Hid _ := hla
 have HI : Hid _ := hi
 clear hR hL hi hla
 obtain ⟨n, HN⟩ := nmd R.length
 obtain ⟨m, HM⟩ := nmd L.length
 rw [HN.out] at hn ⊢
 rw [HM.out] at hl ⊢
 have B1 : Hid (Below w.heap.size w (((w.alloc (.cells #[.slice ra n rc, .slice la m lc] 46)).alloc (.cells #[.slice none 0 0, .slice none 0 0] 46)).alloc (.cells #[] 2))) := (((Below.refl _ _).alloc (Nat.le_refl _) _).alloc (by simp) _).alloc (by simp; omega) _
 have P1 : Hid ((((w.alloc (.cells #[.slice ra n rc, .slice la m lc] 46)).alloc (.cells #[.slice none 0 0, .slice none 0 0] 46)).alloc (.cells #[] 2)).heap[w.heap.size]? = some (.cells #[.slice ra n rc, .slice la m lc] 46 (0, 0))) := (heap_alloc_old _ _ (by simp; omega)).trans (heap_alloc2_old _ _ _)
 have A1 : Hid ((((w.alloc (.cells #[.slice ra n rc, .slice la m lc] 46)).alloc (.cells #[.slice none 0 0, .slice none 0 0] 46)).alloc (.cells #[] 2)).heap[w.heap.size + 1]? = some (.cells #[.slice none 0 0, .slice none 0 0] 46 (0, 0))) := (heap_alloc_old _ _ (by simp)).trans (heap_alloc2_new _ _ _)
 have O1 : Hid ((((w.alloc (.cells #[.slice ra n rc, .slice la m lc] 46)).alloc (.cells #[.slice none 0 0, .slice none 0 0] 46)).alloc (.cells #[] 2)).ownsRow (w.heap.size + 2) 2 1 (.slice (some ⟨w.heap.size + 1 + 1, 0, none⟩) 0 0) 0 (([] : List Int).map (Value.int .i64))) := by
  have := World.ownsRow_made ((w.alloc (.cells #[.slice ra n rc, .slice la m lc] 46)).alloc (.cells #[.slice none 0 0, .slice none 0 0] 46)) #[] 0 (base := w.heap.size + 2) (e := 2) (size := 1) (by simp) (by unfold maxLen; omega) (by simp)
  show World.ownsRow _ _ _ _ _ _ _
  simpa using this
 go_enter Tryz.func46, Tryz.ntmps46
 obtain ⟨p0, p1⟩ := cells2 P1.out
 go_upto_region 1 with fail
 go_cut [3] from 5 to 9 (fun s3 wx => ∃ (kb gl cl : Nat), s3 = .pointer (some ⟨kb, 0, none⟩) /\ CQ w wx kb (.slice ra n rc) (.slice la m lc) (.slice none 0 0) (.slice (some ⟨gl, 0, none⟩) m cl) [] L)
 case first =>
  rcases HLA.out with ⟨h1, h2⟩ | ⟨bl, ol, h1⟩
  · have hm0 : m = 0 := HM.out.symm.trans h2
    have hL0 : L = [] := List.eq_nil_of_length_eq_zero h2
    subst hm0 h1
    go_wp2_with (at_builtin
                 refine append_no1 _ rfl (.tmp 5) (.tmp 7) rfl (w.heap.size + 1 + 1) 0 0 lc rfl rfl (Nat.le_refl _) ?_)
    go_meet
    refine ⟨_, w.heap.size + 1 + 1, 0, rfl, ?_⟩
    subst hL0
    have hA := (Below.refl _ (((w.alloc (.cells #[.slice ra n rc, .slice none 0 lc] 46)).alloc (.cells #[.slice none 0 0, .slice none 0 0] 46)).alloc (.cells #[] 2))).alloc (Nat.le_refl _) (.cells #[.slice none 0 0, .slice (some ⟨w.heap.size + 1 + 1, 0, none⟩) 0 0] 46)
    have hb := B1.out.trans (hA.mono B1.out.size)
    have hp := below_row hA (row_lt P1.out) P1.out
    have ha := below_row hA (row_lt A1.out) A1.out
    have hk : ((((w.alloc (.cells #[.slice ra n rc, .slice none 0 lc] 46)).alloc (.cells #[.slice none 0 0, .slice none 0 0] 46)).alloc (.cells #[] 2))).heap.size = w.heap.size + 3 := by simp
    have ho := heap_alloc_new (((w.alloc (.cells #[.slice ra n rc, .slice none 0 lc] 46)).alloc (.cells #[.slice none 0 0, .slice none 0 0] 46)).alloc (.cells #[] 2)) (.cells #[.slice none 0 0, .slice (some ⟨w.heap.size + 1 + 1, 0, none⟩) 0 0] 46)
    rw [hk] at ho
    exact ⟨hb, hp, ha, by first | exact ho | simpa using ho, by simp, ⟨World.ownsRow_nil _ _ _ _, (fun s hs => by cases hs), O1.out.alloc _⟩⟩
  · subst h1
    go_wp2_with (first
     | (at_builtin
        go_must (refine append_many _ rfl (.tmp 5) (.tmp 7) rfl (w.heap.size + 2) _ 0 [] rfl O1.out bl ol m lc L rfl HM.out (HL.out.below B1.out) (by omega) (by omega) (by simp) ?_)
        go_loud (
         intro lv w2 hown hg hbk hnl
         have hsz := B1.out.size
         have hge : ∀ k, (Value.slice (some ⟨w.heap.size + 1 + 1, 0, none⟩) 0 0).ownBlock = some k -> w.heap.size + 2 <= k := fun k e => by have := own_at e; omega
         have Q2 : Hid (CQ w (w2.alloc (.cells #[.slice none 0 0, lv] 46)) w2.heap.size (.slice ra n rc) (.slice (some ⟨bl, ol, none⟩) m lc) (.slice none 0 0) lv [] L) := by
          have hb2 : Below w.heap.size w w2 := B1.out.grown hg B1.out.size (fun k e => by have := hge k e; omega)
          have ha : Below w2.heap.size w2 (w2.alloc (.cells #[.slice none 0 0, lv] 46)) := (Below.refl _ _).alloc (Nat.le_refl _) _
          have hp2 := grown_row hg P1.out (fun e => by have := hge _ e.symm; omega)
          have ha2 := grown_row hg A1.out (fun e => by have := hge _ e.symm; omega)
          refine ⟨hb2.trans (ha.mono hb2.size), below_row ha (row_lt hp2) hp2, below_row ha (row_lt ha2) ha2, heap_alloc_new _ _, row_lt ha2, ⟨World.ownsRow_nil _ _ _ _, (fun s hs => by cases hs), ?_⟩⟩
          rw [Nat.zero_add, List.nil_append] at hown
          rw [HM.out]
          exact hown.alloc _
         obtain ⟨gl, cl, e⟩ := own_sm hown (not_nil hnl ⟨_, _, _, rfl⟩)
         rw [Nat.zero_add] at e
         subst e)
        clear hown hg hbk hnl hsz hge))
    go_meet
    exact ⟨w2.heap.size, gl, cl, rfl, Q2.out⟩
 case rest =>
  obtain ⟨kb, gl, cl, rfl, hQ2⟩ := hcut
  have Q2 : Hid _ := hQ2
  clear hQ2 p0 p1
  obtain ⟨W2, hW2⟩ : ∃ v, v = wc := ⟨_, rfl⟩
  subst hW2
  go_wp2_with fail
  go_loopw [4] (fun t wr => ∃ (k : Nat) (rs : Value) (S : List RT), k <= n /\ t = .int .i64 k /\ S.map RT.key = (R.take k).map RT.key /\ CQ w wr kb (.slice ra n rc) (.slice la m lc) rs (.slice (some ⟨gl, 0, none⟩) m cl) S L) (fun t _ => n - (intOf t).toNat)
  case atStart => exact ⟨0, .slice none 0 0, [], Nat.zero_le _, rfl, rfl, Q2.out⟩
  case round =>
   clear Q2 B1 P1 A1 O1
   obtain ⟨k, rs, S, hk, rfl, hkey, hQ⟩ := hrel
   have Q3 : Hid _ := hQ
   have HKY : Hid _ := hkey
   have hSk : S.length = k := by
    have := congrArg List.length hkey
    simp only [List.length_map, List.length_take, HN.out] at this
    omega
   have HSK : Hid (S.length = k) := hSk
   clear hQ hkey hSk
   obtain ⟨p0, p1⟩ := cells2 Q3.out.p
   by_cases hlt : k < n
   · have hkI : (k : Int) < (n : Int) := by omega
     have hkR : k < R.length := by rw [HN.out]; exact hlt
     obtain ⟨b, off, e, r1, r2, i3⟩ := (HR.out.below Q3.out.b) k hkR
     have hmem : R.getD k rt0 ∈ R := by rw [List.getD_eq_getElem?_getD, List.getElem?_eq_getElem hkR]; simp
     obtain ⟨hne, h500⟩ := HI.out _ hmem
     have HRC : Hid (∀ W, Below w.heap.size w W -> W.cell? ⟨b, off + k * 2, none⟩ = some (.int .i64 (R.getD k rt0).v) /\ W.cell? ⟨b, off + k * 2 + 1, none⟩ = some (.slice (R.getD k rt0).a (R.getD k rt0).ids.length (R.getD k rt0).c)) := fun W hW => by
      obtain ⟨b2, off2, e2, q1, q2, _⟩ := (HR.out.below hW) k hkR
      rw [e] at e2
      simp only [Option.some.injEq, Addr.mk.injEq, and_true] at e2
      obtain ⟨rfl, rfl⟩ := e2
      exact ⟨q1, q2⟩
     have HTK : Hid (R.take (k + 1) = R.take k ++ [R.getD k rt0]) := by
      show _ = _
      rw [List.take_succ_eq_append_getElem hkR]
      simp [List.getD, hkR]
     subst e
     generalize R.getD k rt0 = r at *
     obtain ⟨rv, rra, rids, rcc⟩ := r
     simp only at r1 r2 i3 hne h500
     have hpos := List.length_pos_iff.2 hne
     obtain ⟨b', off', e', -⟩ := i3 0 hpos
     subst e'
     have I3 : Hid (IntsAt wr (some ⟨b', off', none⟩) rids) := i3
     obtain ⟨q, HQ⟩ := nmd rids.length
     simp only [HQ.out] at r2 h500 hpos HRC
     clear i3 hne hmem
     obtain ⟨o0, o1⟩ := cells2 Q3.out.o
     have of := fun i => frozen_of_row _ _ i _ _ Q3.out.o
     have kS := And.intro p0 (And.intro o0 (And.intro r1 r2))
     have hkb := row_lt Q3.out.o
     go_wp2_with fail
     -- REGION
     refine wp_region_last (S := (fun W => W.cell? ⟨w.heap.size, 0, none⟩ = some (.slice (some ⟨b, off, none⟩) n rc) /\ W.cell? ⟨kb, 0, none⟩ = some rs /\ W.cell? ⟨b, off + k * 2, none⟩ = some (.int .i64 rv) /\ W.cell? ⟨b, off + k * 2 + 1, none⟩ = some (.slice (some ⟨b', off', none⟩) q rcc))) 20 (by kernel_rfl) ?_ (fun hHeld => ?_)
     · exact kS
     have Q1 : Hid _ := Q3.out.below (Below.refl _ _).drew
     have I1 : Hid (IntsAt wr.drew (some ⟨b', off', none⟩) rids) := I3.out.below (Below.refl _ _).drew
     clear Q3 I3 p0 p1 r1 r2 o0 o1 of kS
     generalize wr.drew = W1 at *
     have QA : Hid (CQ w (W1.alloc (.cells #[] 2)) kb (.slice (some ⟨b, off, none⟩) n rc) (.slice la m lc) rs (.slice (some ⟨gl, 0, none⟩) m cl) S L) := Q1.out.below ((Below.refl _ _).alloc (Nat.le_refl _) _)
     obtain ⟨o0, o1⟩ := cells2 Q1.out.o
     obtain ⟨oa0, oa1⟩ := cells2 QA.out.o
     have kSa : (fun W => W.cell? ⟨w.heap.size, 0, none⟩ = some (.slice (some ⟨b, off, none⟩) n rc) /\ W.cell? ⟨kb, 0, none⟩ = some rs /\ W.cell? ⟨b, off + k * 2, none⟩ = some (.int .i64 rv) /\ W.cell? ⟨b, off + k * 2 + 1, none⟩ = some (.slice (some ⟨b', off', none⟩) q rcc)) (W1.alloc (.cells #[] 2)) := ⟨(cells2 QA.out.p).1, (cells2 QA.out.o).1, HRC.out _ QA.out.b⟩
     refine tkZ 0 hHeld ?_
     refine tkZ 1 hHeld ?_
     refine tkZ 2 hHeld ?_
     refine tkZ 3 hHeld ?_
     refine tkZ 4 hHeld ?_
     refine tkZ 5 hHeld ?_
     refine tkZ 6 hHeld ?_
     refine tkZ 7 hHeld ?_
     refine tkZ 9 hHeld ?_
     refine tkZ 10 hHeld ?_
     refine tkZ 11 hHeld ?_
     refine tkZ 12 hHeld ?_
     refine tkZ 13 hHeld ?_
     refine tkZ 14 hHeld ?_
     refine wpAnyZ_ready (rs := [8]) (by kernel_rfl) (by simp) ?_
     refine AllReadyZ.cons rfl (fun K hK => ?_) AllReadyZ.nil
     go_simp
     refine hK.out _ _ ?_ (fun hHeld => ?_)
     · exact kSa
     clear hK K
     (try simp only [Act.put, List.setIfInBounds_toArray, List.set_cons_zero, List.set_cons_succ])
     refine wpAnyZ_ready (rs := [15]) (by kernel_rfl) (by simp) ?_
     refine AllReadyZ.cons rfl (fun K hK => ?_) AllReadyZ.nil
     refine step_append_ints rfl (.tmp 25) (.tmp 31) rfl W1.heap.size (.slice (some ⟨W1.heap.size, 0, none⟩) 0 0) [] 0 rfl (World.ownsRow_made W1 #[] 0 (Nat.le_refl _) (by unfold maxLen; omega) (by simp)) b' off' q rcc rids rfl HQ.out (I1.out.below ((Below.refl _ _).alloc (Nat.le_refl _) _)) (by omega) (by omega) (by simp) ?_
     intro v3 w3 ho hg hn
     obtain ⟨g3, c3, e3⟩ := own_sm ho (not_nil hn ⟨_, _, _, rfl⟩)
     rw [Nat.zero_add] at e3
     subst e3
     have hbx : Below W1.heap.size W1 w3 := ((Below.refl W1.heap.size W1).alloc (Nat.le_refl _) _).grown hg (by simp) (fun k e => own_at e)
     have Q4 : Hid _ := Q1.out.below hbx
     have O4 : Hid (w3.ownsRow (w.heap.size + 2) 2 1 (.slice (some ⟨g3, 0, none⟩) q c3) q (rids.map (Value.int .i64))) := by
      rw [Nat.zero_add, List.nil_append] at ho
      exact owns_base ho (by have := row_lt Q1.out.a; omega)
     have kS3 : (fun W => W.cell? ⟨w.heap.size, 0, none⟩ = some (.slice (some ⟨b, off, none⟩) n rc) /\ W.cell? ⟨kb, 0, none⟩ = some rs /\ W.cell? ⟨b, off + k * 2, none⟩ = some (.int .i64 rv) /\ W.cell? ⟨b, off + k * 2 + 1, none⟩ = some (.slice (some ⟨b', off', none⟩) q rcc)) w3 := ⟨(cells2 Q4.out.p).1, (cells2 Q4.out.o).1, HRC.out _ Q4.out.b⟩
     have QB : Hid (CQ w (w3.alloc (.cells #[.int .i64 rv, .slice (some ⟨g3, 0, none⟩) q c3] 134)) kb (.slice (some ⟨b, off, none⟩) n rc) (.slice la m lc) rs (.slice (some ⟨gl, 0, none⟩) m cl) S L) := Q4.out.below ((Below.refl _ _).alloc (Nat.le_refl _) _)
     have OB : Hid (World.ownsRow (w3.alloc (.cells #[.int .i64 rv, .slice (some ⟨g3, 0, none⟩) q c3] 134)) (w.heap.size + 2) 2 1 (.slice (some ⟨g3, 0, none⟩) q c3) q (rids.map (Value.int .i64))) := O4.out.alloc _
     have kSb : (fun W => W.cell? ⟨w.heap.size, 0, none⟩ = some (.slice (some ⟨b, off, none⟩) n rc) /\ W.cell? ⟨kb, 0, none⟩ = some rs /\ W.cell? ⟨b, off + k * 2, none⟩ = some (.int .i64 rv) /\ W.cell? ⟨b, off + k * 2 + 1, none⟩ = some (.slice (some ⟨b', off', none⟩) q rcc)) (w3.alloc (.cells #[.int .i64 rv, .slice (some ⟨g3, 0, none⟩) q c3] 134)) := ⟨(cells2 QB.out.p).1, (cells2 QB.out.o).1, HRC.out _ QB.out.b⟩
     obtain ⟨x0, x1⟩ := cells2 Q4.out.o
     obtain ⟨xa0, xa1⟩ := cells2 QB.out.o
     clear ho hg hn hbx
     refine hK.out _ _ ?_ (fun hHeld => ?_)
     · exact kS3
     clear hK K
     change wpAnyZ _ _ _ _ _ _ _ _ (Act.put _ (some 32) _) _
     simp only [Act.put, List.setIfInBounds_toArray, List.set_cons_zero, List.set_cons_succ]
     refine tkZ 16 hHeld ?_
     refine wpAnyZ_ready (rs := [17]) (by kernel_rfl) (by simp) ?_
     refine AllReadyZ.cons rfl (fun K hK => ?_) AllReadyZ.nil
     go_simp
     refine hK.out _ _ ?_ (fun hHeld => ?_)
     · exact kSb
     clear hK K
     (try simp only [Act.put, List.setIfInBounds_toArray, List.set_cons_zero, List.set_cons_succ])
     refine wpAnyZ_ready (rs := [18]) (by kernel_rfl) (by simp) ?_
     refine AllReadyZ.cons rfl (fun K hK => ?_) AllReadyZ.nil
     refine step_append_vals Tryz.underlying43 infoRt (by rfl) (by omega) rfl (.tmp 18) (.tmp 34) rfl (w.heap.size + 2) rs k (rowR S) rfl (by rw [<- HSK.out]; exact QB.out.q.r) w3.heap.size 0 1 1 [.int .i64 rv, .slice (some ⟨g3, 0, none⟩) q c3] rfl rfl (cells2_here _ _ _ _ _ rfl) (by simp [Value.oneCell']) (by omega) (by omega) (by have := row_lt Q4.out.a; simp; omega) ?_
     intro v' w4 ho hg hbk hn
     rcases own_kinds ho with ⟨_, e0⟩ | ⟨g4, c4, e4, -, -⟩
     · omega
     subst e4
     have Q5 : Hid _ := QB.out.more HQ.out HSK.out OB.out hg ho
     have X4 := QB.out.moreO hg
     have kS4 : (fun W => W.cell? ⟨w.heap.size, 0, none⟩ = some (.slice (some ⟨b, off, none⟩) n rc) /\ W.cell? ⟨kb, 0, none⟩ = some rs /\ W.cell? ⟨b, off + k * 2, none⟩ = some (.int .i64 rv) /\ W.cell? ⟨b, off + k * 2 + 1, none⟩ = some (.slice (some ⟨b', off', none⟩) q rcc)) w4 := ⟨X4.1, (cells2 X4.2.1).1, HRC.out _ X4.2.2⟩
     obtain ⟨x4, y4⟩ := cells2 X4.2.1
     have xf := fun i => frozen_of_row _ _ i _ _ X4.2.1
     clear ho hg hbk hn X4
     refine hK.out _ _ ?_ (fun hHeld => ?_)
     · exact kS4
     clear hK K
     change wpAnyZ _ _ _ _ _ _ _ _ (Act.put _ (some 35) _) _
     simp only [Act.put, List.setIfInBounds_toArray, List.set_cons_zero, List.set_cons_succ]
     refine tkZ 19 hHeld ?_
     refine wpAnyZ_ready (rs := [20]) (by kernel_rfl) (by simp) ?_
     refine AllReadyZ.last rfl (fun K hK => ?_)
     go_simp
     refine hK.out _ _ ?_
     clear hK K
     refine wpAnyZ_done (by kernel_rfl) ?_ _
     clear hHeld xf x4 y4 kS4 x0 x1 xa0 xa1 kSb kS3 kSa oa0 oa1 o0 o1 QB OB Q4 O4 QA Q1 I1
     generalize w4.setCell ⟨kb, 0, none⟩ (.slice (some ⟨g4, 0, none⟩) (k + 1) c4) = W5 at *
     go_wp2
     go_roundw
     case rel =>
      refine ⟨k + 1, _, _, by omega, by first | rfl | go_num, ?_, Q5.out⟩
      rw [HTK.out, List.map_append, List.map_append, HKY.out]
      rfl
     case measure => simp [intOf]; omega
     -- NOIGER
   · have hkI : ¬ ((k : Int) < (n : Int)) := by omega
     have hke : k = n := by omega
     obtain ⟨a0, a1⟩ := cells2 Q3.out.a
     have af := fun i => frozen_of_row _ _ i _ _ Q3.out.a
     obtain ⟨o0, o1⟩ := cells2 Q3.out.o
     have HKE : Hid (S.map RT.key = R.map RT.key) := by
      show _ = _
      rw [HKY.out, hke, <- HN.out, List.take_length]
     have hSn : S.length = n := by rw [HSK.out]; exact hke
     obtain ⟨ga, ca, e⟩ : ∃ ga ca, rs = .slice ga n ca := by
      rcases Q3.out.q.rv with ⟨e, h0⟩ | ⟨g, c, e, _, _⟩
      · exact ⟨none, 0, by rw [e, <- hSn, h0]⟩
      · exact ⟨_, c, by rw [e, hSn]⟩
     subst e
     clear hke hSn HSK HKY
     go_wp2
     refine bodyPost_ret (v := .agg #[.slice ga n ca, .slice (some ⟨gl, 0, none⟩) m cl]) (by simp [results, Tryz.results46, go_sem, a0, a1]) rfl ⟨ga, ca, gl, cl, S, by rw [HN.out, HM.out], ?_, HKE.out, ?_⟩
     · repeat (first | with_reducible exact Q3.out.b | refine Below.setCell ?_ (by simp <;> omega) _)
     · rw [HN.out, HM.out]
       repeat (first | with_reducible exact Q3.out.q | refine PO.set ?_ (by omega))
end Go.Proofs.YtehfjfmfpdgibaaGreatDoor
