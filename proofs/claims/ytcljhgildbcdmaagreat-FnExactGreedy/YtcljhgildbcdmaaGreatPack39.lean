import Derived.Test.YtcljhgildbcdmaaGreatPack6
import Derived.Test.YtcljhgildbcdmaaGreatPack18
import Derived.Test.YtcljhgildbcdmaaGreatPack23
import Derived.Test.YtcljhgildbcdmaaGreatSpecCopy
import Derived.Test.YtcljhgildbcdmaaGreatOwnBox
namespace Go.Proofs.YtcljhgildbcdmaaGreat
open Go.RowKit
def Apart (S : List RT) (la : Option Addr) : Prop := (la :: S.map RT.a).Nodup
theorem Apart.nil (la : Option Addr) : Apart [] la := by simp [Apart]
theorem Apart.add {S : List RT} {la : Option Addr} {r : RT} (h : Apart S la) (hn : r.a ∉ la :: S.map RT.a) : Apart (S ++ [r]) la := by
 unfold Apart at h ⊢
 rw [List.map_append, <- List.cons_append]
 refine List.nodup_append.2 ⟨h, by simp, fun a ha b hb e => ?_⟩
 have : b = r.a := by simpa using hb
 exact hn (by rw [<- this, <- e]; exact ha)
theorem PO.blk {w : World} {base m lc : Nat} {rs : Value} {la : Option Addr} {S : List RT} {L : List Int} (h : PO w base rs S (.slice la m lc) L) (hm : L.length = m) : ∀ a ∈ la :: S.map RT.a, ∀ g, a = some ⟨g, 0, none⟩ -> g < w.heap.size := fun a ha g e => by
 rcases List.mem_cons.1 ha with h1 | h1
 · have h2 := h.l
   rw [hm] at h2
   exact (h2.lt g (by rw [<- h1, e]; rfl)).2
 · obtain ⟨s, hs, e2⟩ := List.mem_map.1 h1
   exact ((h.s s hs).lt g (by rw [e2, e]; rfl)).2
def CopyIs (w : World) (R : List RT) (L : List Int) (e : Ending) (w' : World) : Prop := ∃ ra rc la lc S, e = .returned (.agg #[.slice ra R.length rc, .slice la L.length lc]) /\ Below w.heap.size w w' /\ S.map RT.key = R.map RT.key /\ PO w' (w.heap.size + 2) (.slice ra R.length rc) S (.slice la L.length lc) L /\ Apart S la
set_option maxHeartbeats 4000000 in
theorem copyOfPlan_any (ra la : Option Addr) (rc lc : Nat) (R : List RT) (L : List Int) (w : World) (hR : RoutesAt w ra R) (hL : IntsAt w la L) (hla : (la = none /\ L.length = 0) ∨ ∃ b off, la = some ⟨b, off, none⟩) (hn : R.length <= 500) (hi : ∀ r ∈ R, r.ids ≠ [] /\ r.ids.length <= 12) (hl : L.length <= 500) :
   Calls Tryz.prog 41 #[.agg #[.slice ra R.length rc, .slice la L.length lc]] w (CopyIs w R L) := by
 have HR : Hid (RoutesAt w ra R) := hR
 have HL : Hid (IntsAt w la L) := hL
 have HLA : Hid ((la = none /\ L.length = 0) ∨ ∃ b off, la = some ⟨b, off, none⟩) := hla
 have HI : Hid (∀ r ∈ R, r.ids ≠ [] /\ r.ids.length <= 12) := hi
 clear hR hL hi hla
 obtain ⟨n, HN⟩ : ∃ n, Hid (R.length = n) := ⟨_, rfl⟩
 obtain ⟨m, HM⟩ : ∃ n, Hid (L.length = n) := ⟨_, rfl⟩
 rw [HN.out] at hn ⊢
 rw [HM.out] at hl ⊢
 have B1 : Hid (Below w.heap.size w ((w.alloc (.cells #[.slice ra n rc, .slice la m lc] 36)).alloc (.cells #[.slice none 0 0, .slice none 0 0] 36))) := ((Below.refl _ _).alloc (Nat.le_refl _) _).alloc (by simp) _
 have P1 : Hid (((w.alloc (.cells #[.slice ra n rc, .slice la m lc] 36)).alloc (.cells #[.slice none 0 0, .slice none 0 0] 36)).heap[w.heap.size]? = some (.cells #[.slice ra n rc, .slice la m lc] 36 (0, 0))) := heap_alloc2_old _ _ _
 have A1 : Hid (((w.alloc (.cells #[.slice ra n rc, .slice la m lc] 36)).alloc (.cells #[.slice none 0 0, .slice none 0 0] 36)).heap[w.heap.size + 1]? = some (.cells #[.slice none 0 0, .slice none 0 0] 36 (0, 0))) := heap_alloc2_new _ _ _
 have CL := clone_any la lc m L ((w.alloc (.cells #[.slice ra n rc, .slice la m lc] 36)).alloc (.cells #[.slice none 0 0, .slice none 0 0] 36)) (HL.out.below B1.out) HM.out (by omega) (by rw [<- HM.out]; exact HLA.out)
 go_enter Tryz.func41, Tryz.ntmps41
 obtain ⟨p0, p1⟩ := cells2 P1.out
 go_wp2_with fail
 generalize (w.alloc (.cells #[.slice ra n rc, .slice la m lc] 36)).alloc (.cells #[.slice none 0 0, .slice none 0 0] 36) = W0 at *
 refine CL.mono ?_
 rintro e w2 ⟨sl, rfl, hb, ho⟩
 obtain ⟨la2, lc2, e⟩ := own_anyV ho
 subst e
 have Q2 : Hid (CQ w (w2.alloc (.cells #[.slice none 0 0, .slice la2 m lc2] 36)) w2.heap.size (.slice ra n rc) (.slice la m lc) (.slice none 0 0) (.slice la2 m lc2) [] L) := by
   have hb2 : Below w.heap.size w w2 := B1.out.trans (hb.mono B1.out.size)
   have ha : Below w2.heap.size w2 (w2.alloc (.cells #[.slice none 0 0, .slice la2 m lc2] 36)) := (Below.refl _ _).alloc (Nat.le_refl _) _
   have hp2 := below_row hb (row_lt P1.out) P1.out
   have ha2 := below_row hb (row_lt A1.out) A1.out
   refine ⟨hb2.trans (ha.mono hb2.size), below_row ha (row_lt hp2) hp2, below_row ha (row_lt ha2) ha2, heap_alloc_new _ _, row_lt ha2, ⟨World.ownsRow_nil _ _ _ _, (fun s hs => by cases hs), ?_⟩⟩
   rw [HM.out]
   exact owns_base (ho.alloc _) (row_lt A1.out)
 have P2 : Hid (w2.heap[w.heap.size]? = some (.cells #[.slice ra n rc, .slice la m lc] 36 (0, 0))) := below_row hb (row_lt P1.out) P1.out
 clear hb ho CL p0 p1 B1 P1 A1
 obtain ⟨p0, p1⟩ := cells2 P2.out
 obtain ⟨p2, p3⟩ := cells2 Q2.out.p
 go_wp2_with fail
 clear p0 p1 P2 p2 p3
 obtain ⟨kb, HKB⟩ : ∃ v, Hid (w2.heap.size = v) := ⟨_, rfl⟩
 rw [HKB.out] at Q2 ⊢
 generalize w2.alloc (.cells #[.slice none 0 0, .slice la2 m lc2] 36) = W2 at *
 go_loopw [13] (fun t wr => ∃ (k : Nat) (rs : Value) (S : List RT), k <= n /\ t = .int .i64 k /\ S.map RT.key = (R.take k).map RT.key /\ CQ w wr kb (.slice ra n rc) (.slice la m lc) rs (.slice la2 m lc2) S L /\ Apart S la2) (fun t _ => n - (intOf t).toNat)
 case atStart => exact ⟨0, .slice none 0 0, [], Nat.zero_le _, rfl, rfl, Q2.out, Apart.nil _⟩
 case round =>
   clear Q2
   obtain ⟨k, rs, S, hk, rfl, hkey, hQ, hap⟩ := hrel
   have Q3 : Hid (CQ w wr kb (.slice ra n rc) (.slice la m lc) rs (.slice la2 m lc2) S L) := hQ
   have HKY : Hid (S.map RT.key = (R.take k).map RT.key) := hkey
   have hSk : S.length = k := by
     have := congrArg List.length hkey
     simp only [List.length_map, List.length_take, HN.out] at this
     omega
   have HSK : Hid (S.length = k) := hSk
   have HAP : Hid (Apart S la2) := hap
   clear hQ hkey hSk hap
   obtain ⟨p0, p1⟩ := cells2 Q3.out.p
   by_cases hlt : k < n
   · have hkI : (k : Int) < (n : Int) := by omega
     have hkR : k < R.length := by rw [HN.out]; exact hlt
     obtain ⟨b, off, e, r1, r2, i3⟩ := (HR.out.below Q3.out.b) k hkR
     have hmem : R.getD k rt0 ∈ R := by rw [List.getD_eq_getElem?_getD, List.getElem?_eq_getElem hkR]; simp
     obtain ⟨hne, h500⟩ := HI.out _ hmem
     have HRC : Hid (∀ W, Below w.heap.size w W -> W.cell? ⟨b, off + k * 2, none⟩ = some (.int .i64 (R.getD k rt0).v) /\ W.cell? ⟨b, off + k * 2 + 1, none⟩ = some (.slice (R.getD k rt0).a (R.getD k rt0).ids.length (R.getD k rt0).c)) := fun W hW => by
       obtain ⟨b2, off2, e2, q1, q2, _⟩ := (HR.out.below hW) k hkR
       rw [e] at e2
       simp only [Option.some.injEq, Addr.mk.injEq, and_true] at e2
       obtain ⟨rfl, rfl⟩ := e2
       exact ⟨q1, q2⟩
     have HTK : Hid (R.take (k + 1) = R.take k ++ [R.getD k rt0]) := by
       show _ = _
       rw [List.take_succ_eq_append_getElem hkR]
       simp [List.getD, hkR]
     subst e
     generalize R.getD k rt0 = r at *
     obtain ⟨rv, rra, rids, rcc⟩ := r
     simp only at r1 r2 i3 hne h500
     have hpos : 0 < rids.length := List.length_pos_iff.2 hne
     obtain ⟨b', off', e', -⟩ := i3 0 hpos
     subst e'
     have I3 : Hid (IntsAt wr (some ⟨b', off', none⟩) rids) := i3
     obtain ⟨q, HQ⟩ : ∃ x, Hid (rids.length = x) := ⟨_, rfl⟩
     simp only [HQ.out] at r2 h500 hpos HRC
     clear i3 hne hmem
     have hkb := row_lt Q3.out.o
     have HSB : Hid (∀ a ∈ la2 :: S.map RT.a, ∀ g, a = some ⟨g, 0, none⟩ -> g < wr.heap.size) := Q3.out.q.blk HM.out
     have HNB : Hid (rs.ownBlock ≠ some wr.heap.size) := own_not Q3.out.q.r (.inr (Nat.le_refl _))
     have Q1 : Hid (CQ w (wr.alloc (.cells #[.int .i64 rv, .slice (some ⟨b', off', none⟩) q rcc] 102)).drew kb (.slice (some ⟨b, off, none⟩) n rc) (.slice la m lc) rs (.slice la2 m lc2) S L) := Q3.out.below ((Below.refl _ _).alloc (Nat.le_refl _) _).drew
     have I1 : Hid (IntsAt (wr.alloc (.cells #[.int .i64 rv, .slice (some ⟨b', off', none⟩) q rcc] 102)).drew (some ⟨b', off', none⟩) rids) := I3.out.below ((Below.refl _ _).alloc (Nat.le_refl _) _).drew
     have RB1 : Hid ((wr.alloc (.cells #[.int .i64 rv, .slice (some ⟨b', off', none⟩) q rcc] 102)).drew.heap[wr.heap.size]? = some (.cells #[.int .i64 rv, .slice (some ⟨b', off', none⟩) q rcc] 102 (0, 0))) := heap_alloc_new wr _
     go_wp2_with fail
     clear p0 p1 r1 r2 Q3 I3
     obtain ⟨rb, HRB⟩ : ∃ v, Hid (wr.heap.size = v) := ⟨_, rfl⟩
     rw [HRB.out] at RB1 HNB HSB hkb ⊢
     have kS := cells2 RB1.out
     have CR := copyOfRoute_any rv b' off' rcc rids _ I1.out (by rw [HQ.out]; exact h500)
     rw [HQ.out] at CR
     obtain ⟨o0, o1⟩ := cells2 Q1.out.o
     generalize hW1 : (wr.alloc (.cells #[.int .i64 rv, .slice (some ⟨b', off', none⟩) q rcc] 102)) = W1 at *
     clear hW1
     -- REGION
     refine wp_region_held_drew (S := (fun W => W.cell? ⟨rb, 0, none⟩ = some (.int .i64 rv) /\ W.cell? ⟨rb, 1, none⟩ = some (.slice (some ⟨b', off', none⟩) q rcc))) (by kernel_rfl) ?_ (fun hHeld => ?_)
     · exact kS
     refine wpAnyH_take (i := 0) (v := ?_) rfl (by kernel_rfl) (by kernel_rfl) (by kernel_rfl) (fun _ _ _ h => h) (Or.inl ⟨by kernel_rfl, ?_⟩) hHeld ?_
     rotate_left; focus (intro w hSw; (try dsimp only at hSw); (try go_split_ands); go_simp; all_goals with_reducible rfl)
     change wpAnyH _ _ _ _ _ _ _ (Act.put _ (some 17) _) _; simp only [Act.put, List.setIfInBounds_toArray, List.set_cons_zero, List.set_cons_succ]
     refine wpAnyH_take (i := 2) (v := ?_) rfl (by kernel_rfl) (by kernel_rfl) (by kernel_rfl) (fun _ _ _ h => h) (Or.inl ⟨by kernel_rfl, ?_⟩) hHeld ?_
     rotate_left; focus (intro w hSw; (try dsimp only at hSw); (try go_split_ands); go_simp; all_goals with_reducible rfl)
     change wpAnyH _ _ _ _ _ _ _ (Act.put _ (some 19) _) _; simp only [Act.put, List.setIfInBounds_toArray, List.set_cons_zero, List.set_cons_succ]
     refine wpAnyH_ready (rs := [1, 3]) (by kernel_rfl) (by simp) ?_
     refine AllReadyH.cons rfl (fun K hK => ?_) ?_
     · skip
       go_simp
       refine hK.out _ _ ?_ (fun hHeld => ?_)
       · exact hHeld
       clear hK K
       refine wpAnyH_ready (rs := [3]) (by kernel_rfl) (by simp) ?_
       refine AllReadyH.cons rfl (fun K hK => ?_) AllReadyH.nil
       go_simp
       refine CR.mono ?_
       rintro e w3 ⟨g3, c3, rfl, hb, ho⟩
       have Q4 : Hid (CQ w w3 kb (.slice (some ⟨b, off, none⟩) n rc) (.slice la m lc) rs (.slice la2 m lc2) S L) := Q1.out.below hb
       have O4 : Hid (w3.ownsRow (w.heap.size + 2) 2 1 (.slice (some ⟨g3, 0, none⟩) q c3) q (rids.map (Value.int .i64))) := owns_base ho (by have := row_lt Q1.out.a; omega)
       have HG3 : Hid (rb < g3) := by have h1 := (ho.lt g3 rfl).1; have h2 := row_lt RB1.out; show rb < g3; omega
       have RB3 : Hid (w3.heap[rb]? = some (.cells #[.int .i64 rv, .slice (some ⟨b', off', none⟩) q rcc] 102 (0, 0))) := below_row hb (row_lt RB1.out) RB1.out
       have kS3 := cells2 RB3.out
       have QB : Hid (CQ w (w3.alloc (.cells #[.int .i64 rv, .slice (some ⟨g3, 0, none⟩) q c3] 102)) kb (.slice (some ⟨b, off, none⟩) n rc) (.slice la m lc) rs (.slice la2 m lc2) S L) := Q4.out.below ((Below.refl _ _).alloc (Nat.le_refl _) _)
       have OB : Hid (World.ownsRow (w3.alloc (.cells #[.int .i64 rv, .slice (some ⟨g3, 0, none⟩) q c3] 102)) (w.heap.size + 2) 2 1 (.slice (some ⟨g3, 0, none⟩) q c3) q (rids.map (Value.int .i64))) := O4.out.alloc _
       have RBb : Hid ((w3.alloc (.cells #[.int .i64 rv, .slice (some ⟨g3, 0, none⟩) q c3] 102)).heap[rb]? = some (.cells #[.int .i64 rv, .slice (some ⟨b', off', none⟩) q rcc] 102 (0, 0))) := (heap_alloc_old _ _ (row_lt RB3.out)).trans RB3.out
       have kSb := cells2 RBb.out
       obtain ⟨x0, x1⟩ := cells2 Q4.out.o
       obtain ⟨xa0, xa1⟩ := cells2 QB.out.o
       clear hb ho
       (try go_wp2_with fail)
       refine hK.out _ _ ?_ (fun hHeld => ?_)
       · exact kS3
       clear hK K
       refine wpAnyH_ready (rs := [4]) (by kernel_rfl) (by simp) ?_
       refine AllReadyH.cons rfl (fun K hK => ?_) AllReadyH.nil
       (try simp only [Act.put, List.setIfInBounds_toArray])
       go_simp
       refine hK.out _ _ ?_ (fun hHeld => ?_)
       · exact kSb
       clear hK K
       refine wpAnyH_ready (rs := [5]) (by kernel_rfl) (by simp) ?_
       refine AllReadyH.cons rfl (fun K hK => ?_) AllReadyH.nil
       refine step_append_vals Tryz.underlying34 infoRt (by rfl) (by omega) rfl (.tmp 18) (.tmp 21) rfl (w.heap.size + 2) rs k (rowR S) rfl (by rw [<- HSK.out]; exact QB.out.q.r) w3.heap.size 0 1 1 [.int .i64 rv, .slice (some ⟨g3, 0, none⟩) q c3] rfl rfl (cells2_here _ _ _ _ _ rfl) (by simp [Value.oneCell']) (by omega) (by omega) (by have := row_lt Q4.out.a; simp; omega) ?_
       intro v' w4 ho hg hbk hn
       rcases own_kinds ho with ⟨_, e0⟩ | ⟨g4, c4, e4, -, -⟩
       · omega
       subst e4
       have Q5 : Hid (CQ w (w4.setCell ⟨kb, 0, none⟩ (.slice (some ⟨g4, 0, none⟩) (k + 1) c4)) kb (.slice (some ⟨b, off, none⟩) n rc) (.slice la m lc) (.slice (some ⟨g4, 0, none⟩) (k + 1) c4) (.slice la2 m lc2) (S ++ [⟨rv, some ⟨g3, 0, none⟩, rids, c3⟩]) L) := QB.out.more HQ.out HSK.out OB.out hg ho
       have X4 := QB.out.moreO hg
       have R4 := grown_row hg RBb.out (fun e => HNB.out e.symm)
       have kS4 := cells2 R4
       obtain ⟨x4, y4⟩ := cells2 X4.2.1
       have xf := fun i => frozen_of_row _ _ i _ _ X4.2.1
       have kS5 : (fun W => W.cell? ⟨rb, 0, none⟩ = some (.int .i64 rv) /\ W.cell? ⟨rb, 1, none⟩ = some (.slice (some ⟨b', off', none⟩) q rcc)) (w4.setCell ⟨kb, 0, none⟩ (.slice (some ⟨g4, 0, none⟩) (k + 1) c4)) := ⟨keep_set kS4.1 (by show rb ≠ kb; omega), keep_set kS4.2 (by show rb ≠ kb; omega)⟩
       clear ho hg hbk hn X4 R4
       refine hK.out _ _ ?_ (fun hHeld => ?_)
       · exact kS4
       clear hK K
       change wpAnyH _ _ _ _ _ _ _ (Act.put _ (some 22) _) _
       simp only [Act.put, List.setIfInBounds_toArray, List.set_cons_zero, List.set_cons_succ]
       refine wpAnyH_take (i := 6) (v := ?_) rfl (by kernel_rfl) (by kernel_rfl) (by kernel_rfl) (fun _ _ _ h => h) (Or.inl ⟨by kernel_rfl, ?_⟩) hHeld ?_
       rotate_left; focus (intro w hSw; (try dsimp only at hSw); (try go_split_ands); go_simp; all_goals with_reducible rfl)
       change wpAnyH _ _ _ _ _ _ _ (Act.put _ (some 23) _) _; simp only [Act.put, List.setIfInBounds_toArray, List.set_cons_zero, List.set_cons_succ]
       refine wpAnyH_ready (rs := [7]) (by kernel_rfl) (by simp) ?_
       refine AllReadyH.cons rfl (fun K hK => ?_) AllReadyH.nil
       go_simp
       refine hK.out _ _ ?_ (fun hHeld => ?_)
       · exact kS5
       clear hK K
       refine wpAnyH_done (by kernel_rfl) ?_ _
       clear hHeld kS5 xf x4 y4 kS4 x0 x1 xa0 xa1 kSb kS3 o0 o1 QB OB Q4 O4 Q1 RB1 RB3 RBb CR
       generalize w4.setCell ⟨kb, 0, none⟩ (.slice (some ⟨g4, 0, none⟩) (k + 1) c4) = W5 at *
       go_wp2
       go_roundw
       case rel =>
         refine ⟨k + 1, _, _, by omega, by first | rfl | go_num, ?_, Q5.out, HAP.out.add (r := ⟨rv, some ⟨g3, 0, none⟩, rids, c3⟩) (fun h => by have := HSB.out _ h g3 rfl; have := HG3.out; omega)⟩
         rw [HTK.out, List.map_append, List.map_append, HKY.out]
         rfl
       case measure => simp [intOf]; omega
     refine AllReadyH.cons rfl (fun K hK => ?_) AllReadyH.nil
     go_simp
     refine CR.mono ?_
     rintro e w3 ⟨g3, c3, rfl, hb, ho⟩
     have Q4 : Hid (CQ w w3 kb (.slice (some ⟨b, off, none⟩) n rc) (.slice la m lc) rs (.slice la2 m lc2) S L) := Q1.out.below hb
     have O4 : Hid (w3.ownsRow (w.heap.size + 2) 2 1 (.slice (some ⟨g3, 0, none⟩) q c3) q (rids.map (Value.int .i64))) := owns_base ho (by have := row_lt Q1.out.a; omega)
     have HG3 : Hid (rb < g3) := by have h1 := (ho.lt g3 rfl).1; have h2 := row_lt RB1.out; show rb < g3; omega
     have RB3 : Hid (w3.heap[rb]? = some (.cells #[.int .i64 rv, .slice (some ⟨b', off', none⟩) q rcc] 102 (0, 0))) := below_row hb (row_lt RB1.out) RB1.out
     have kS3 := cells2 RB3.out
     have QB : Hid (CQ w (w3.alloc (.cells #[.int .i64 rv, .slice (some ⟨g3, 0, none⟩) q c3] 102)) kb (.slice (some ⟨b, off, none⟩) n rc) (.slice la m lc) rs (.slice la2 m lc2) S L) := Q4.out.below ((Below.refl _ _).alloc (Nat.le_refl _) _)
     have OB : Hid (World.ownsRow (w3.alloc (.cells #[.int .i64 rv, .slice (some ⟨g3, 0, none⟩) q c3] 102)) (w.heap.size + 2) 2 1 (.slice (some ⟨g3, 0, none⟩) q c3) q (rids.map (Value.int .i64))) := O4.out.alloc _
     have RBb : Hid ((w3.alloc (.cells #[.int .i64 rv, .slice (some ⟨g3, 0, none⟩) q c3] 102)).heap[rb]? = some (.cells #[.int .i64 rv, .slice (some ⟨b', off', none⟩) q rcc] 102 (0, 0))) := (heap_alloc_old _ _ (row_lt RB3.out)).trans RB3.out
     have kSb := cells2 RBb.out
     obtain ⟨x0, x1⟩ := cells2 Q4.out.o
     obtain ⟨xa0, xa1⟩ := cells2 QB.out.o
     clear hb ho
     (try go_wp2_with fail)
     refine hK.out _ _ ?_ (fun hHeld => ?_)
     · exact kS3
     clear hK K
     refine wpAnyH_ready (rs := [1, 4]) (by kernel_rfl) (by simp) ?_
     refine AllReadyH.cons rfl (fun K hK => ?_) ?_
     · skip
       go_simp
       refine hK.out _ _ ?_ (fun hHeld => ?_)
       · exact kS3
       clear hK K
       refine wpAnyH_ready (rs := [4]) (by kernel_rfl) (by simp) ?_
       refine AllReadyH.cons rfl (fun K hK => ?_) AllReadyH.nil
       (try simp only [Act.put, List.setIfInBounds_toArray])
       go_simp
       refine hK.out _ _ ?_ (fun hHeld => ?_)
       · exact kSb
       clear hK K
       refine wpAnyH_ready (rs := [5]) (by kernel_rfl) (by simp) ?_
       refine AllReadyH.cons rfl (fun K hK => ?_) AllReadyH.nil
       refine step_append_vals Tryz.underlying34 infoRt (by rfl) (by omega) rfl (.tmp 18) (.tmp 21) rfl (w.heap.size + 2) rs k (rowR S) rfl (by rw [<- HSK.out]; exact QB.out.q.r) w3.heap.size 0 1 1 [.int .i64 rv, .slice (some ⟨g3, 0, none⟩) q c3] rfl rfl (cells2_here _ _ _ _ _ rfl) (by simp [Value.oneCell']) (by omega) (by omega) (by have := row_lt Q4.out.a; simp; omega) ?_
       intro v' w4 ho hg hbk hn
       rcases own_kinds ho with ⟨_, e0⟩ | ⟨g4, c4, e4, -, -⟩
       · omega
       subst e4
       have Q5 : Hid (CQ w (w4.setCell ⟨kb, 0, none⟩ (.slice (some ⟨g4, 0, none⟩) (k + 1) c4)) kb (.slice (some ⟨b, off, none⟩) n rc) (.slice la m lc) (.slice (some ⟨g4, 0, none⟩) (k + 1) c4) (.slice la2 m lc2) (S ++ [⟨rv, some ⟨g3, 0, none⟩, rids, c3⟩]) L) := QB.out.more HQ.out HSK.out OB.out hg ho
       have X4 := QB.out.moreO hg
       have R4 := grown_row hg RBb.out (fun e => HNB.out e.symm)
       have kS4 := cells2 R4
       obtain ⟨x4, y4⟩ := cells2 X4.2.1
       have xf := fun i => frozen_of_row _ _ i _ _ X4.2.1
       have kS5 : (fun W => W.cell? ⟨rb, 0, none⟩ = some (.int .i64 rv) /\ W.cell? ⟨rb, 1, none⟩ = some (.slice (some ⟨b', off', none⟩) q rcc)) (w4.setCell ⟨kb, 0, none⟩ (.slice (some ⟨g4, 0, none⟩) (k + 1) c4)) := ⟨keep_set kS4.1 (by show rb ≠ kb; omega), keep_set kS4.2 (by show rb ≠ kb; omega)⟩
       clear ho hg hbk hn X4 R4
       refine hK.out _ _ ?_ (fun hHeld => ?_)
       · exact kS4
       clear hK K
       change wpAnyH _ _ _ _ _ _ _ (Act.put _ (some 22) _) _
       simp only [Act.put, List.setIfInBounds_toArray, List.set_cons_zero, List.set_cons_succ]
       refine wpAnyH_take (i := 6) (v := ?_) rfl (by kernel_rfl) (by kernel_rfl) (by kernel_rfl) (fun _ _ _ h => h) (Or.inl ⟨by kernel_rfl, ?_⟩) hHeld ?_
       rotate_left; focus (intro w hSw; (try dsimp only at hSw); (try go_split_ands); go_simp; all_goals with_reducible rfl)
       change wpAnyH _ _ _ _ _ _ _ (Act.put _ (some 23) _) _; simp only [Act.put, List.setIfInBounds_toArray, List.set_cons_zero, List.set_cons_succ]
       refine wpAnyH_ready (rs := [7]) (by kernel_rfl) (by simp) ?_
       refine AllReadyH.cons rfl (fun K hK => ?_) AllReadyH.nil
       go_simp
       refine hK.out _ _ ?_ (fun hHeld => ?_)
       · exact kS5
       clear hK K
       refine wpAnyH_done (by kernel_rfl) ?_ _
       clear hHeld kS5 xf x4 y4 kS4 x0 x1 xa0 xa1 kSb kS3 o0 o1 QB OB Q4 O4 Q1 RB1 RB3 RBb CR
       generalize w4.setCell ⟨kb, 0, none⟩ (.slice (some ⟨g4, 0, none⟩) (k + 1) c4) = W5 at *
       go_wp2
       go_roundw
       case rel =>
         refine ⟨k + 1, _, _, by omega, by first | rfl | go_num, ?_, Q5.out, HAP.out.add (r := ⟨rv, some ⟨g3, 0, none⟩, rids, c3⟩) (fun h => by have := HSB.out _ h g3 rfl; have := HG3.out; omega)⟩
         rw [HTK.out, List.map_append, List.map_append, HKY.out]
         rfl
       case measure => simp [intOf]; omega
     refine AllReadyH.cons rfl (fun K hK => ?_) AllReadyH.nil
     (try simp only [Act.put, List.setIfInBounds_toArray])
     go_simp
     refine hK.out _ _ ?_ (fun hHeld => ?_)
     · exact kSb
     clear hK K
     refine wpAnyH_ready (rs := [1]) (by kernel_rfl) (by simp) ?_
     refine AllReadyH.cons rfl (fun K hK => ?_) AllReadyH.nil
     go_simp
     refine hK.out _ _ ?_ (fun hHeld => ?_)
     · exact kSb
     clear hK K
     refine wpAnyH_ready (rs := [5]) (by kernel_rfl) (by simp) ?_
     refine AllReadyH.cons rfl (fun K hK => ?_) AllReadyH.nil
     refine step_append_vals Tryz.underlying34 infoRt (by rfl) (by omega) rfl (.tmp 18) (.tmp 21) rfl (w.heap.size + 2) rs k (rowR S) rfl (by rw [<- HSK.out]; exact QB.out.q.r) w3.heap.size 0 1 1 [.int .i64 rv, .slice (some ⟨g3, 0, none⟩) q c3] rfl rfl (cells2_here _ _ _ _ _ rfl) (by simp [Value.oneCell']) (by omega) (by omega) (by have := row_lt Q4.out.a; simp; omega) ?_
     intro v' w4 ho hg hbk hn
     rcases own_kinds ho with ⟨_, e0⟩ | ⟨g4, c4, e4, -, -⟩
     · omega
     subst e4
     have Q5 : Hid (CQ w (w4.setCell ⟨kb, 0, none⟩ (.slice (some ⟨g4, 0, none⟩) (k + 1) c4)) kb (.slice (some ⟨b, off, none⟩) n rc) (.slice la m lc) (.slice (some ⟨g4, 0, none⟩) (k + 1) c4) (.slice la2 m lc2) (S ++ [⟨rv, some ⟨g3, 0, none⟩, rids, c3⟩]) L) := QB.out.more HQ.out HSK.out OB.out hg ho
     have X4 := QB.out.moreO hg
     have R4 := grown_row hg RBb.out (fun e => HNB.out e.symm)
     have kS4 := cells2 R4
     obtain ⟨x4, y4⟩ := cells2 X4.2.1
     have xf := fun i => frozen_of_row _ _ i _ _ X4.2.1
     have kS5 : (fun W => W.cell? ⟨rb, 0, none⟩ = some (.int .i64 rv) /\ W.cell? ⟨rb, 1, none⟩ = some (.slice (some ⟨b', off', none⟩) q rcc)) (w4.setCell ⟨kb, 0, none⟩ (.slice (some ⟨g4, 0, none⟩) (k + 1) c4)) := ⟨keep_set kS4.1 (by show rb ≠ kb; omega), keep_set kS4.2 (by show rb ≠ kb; omega)⟩
     clear ho hg hbk hn X4 R4
     refine hK.out _ _ ?_ (fun hHeld => ?_)
     · exact kS4
     clear hK K
     change wpAnyH _ _ _ _ _ _ _ (Act.put _ (some 22) _) _
     simp only [Act.put, List.setIfInBounds_toArray, List.set_cons_zero, List.set_cons_succ]
     refine wpAnyH_take (i := 6) (v := ?_) rfl (by kernel_rfl) (by kernel_rfl) (by kernel_rfl) (fun _ _ _ h => h) (Or.inl ⟨by kernel_rfl, ?_⟩) hHeld ?_
     rotate_left; focus (intro w hSw; (try dsimp only at hSw); (try go_split_ands); go_simp; all_goals with_reducible rfl)
     change wpAnyH _ _ _ _ _ _ _ (Act.put _ (some 23) _) _; simp only [Act.put, List.setIfInBounds_toArray, List.set_cons_zero, List.set_cons_succ]
     refine wpAnyH_ready (rs := [7]) (by kernel_rfl) (by simp) ?_
     refine AllReadyH.cons rfl (fun K hK => ?_) AllReadyH.nil
     go_simp
     refine hK.out _ _ ?_ (fun hHeld => ?_)
     · exact kS5
     clear hK K
     refine wpAnyH_done (by kernel_rfl) ?_ _
     clear hHeld kS5 xf x4 y4 kS4 x0 x1 xa0 xa1 kSb kS3 o0 o1 QB OB Q4 O4 Q1 RB1 RB3 RBb CR
     generalize w4.setCell ⟨kb, 0, none⟩ (.slice (some ⟨g4, 0, none⟩) (k + 1) c4) = W5 at *
     go_wp2
     go_roundw
     case rel =>
       refine ⟨k + 1, _, _, by omega, by first | rfl | go_num, ?_, Q5.out, HAP.out.add (r := ⟨rv, some ⟨g3, 0, none⟩, rids, c3⟩) (fun h => by have := HSB.out _ h g3 rfl; have := HG3.out; omega)⟩
       rw [HTK.out, List.map_append, List.map_append, HKY.out]
       rfl
     case measure => simp [intOf]; omega
     -- NOIGER
   · have hkI : ¬ ((k : Int) < (n : Int)) := by omega
     have hke : k = n := by omega
     obtain ⟨a0, a1⟩ := cells2 Q3.out.a
     have af := fun i => frozen_of_row _ _ i _ _ Q3.out.a
     obtain ⟨o0, o1⟩ := cells2 Q3.out.o
     have HKE : Hid (S.map RT.key = R.map RT.key) := by
       show _ = _
       rw [HKY.out, hke, <- HN.out, List.take_length]
     have hSn : S.length = n := by rw [HSK.out]; exact hke
     obtain ⟨ga, ca, e⟩ : ∃ ga ca, rs = .slice ga n ca := by
       rcases Q3.out.q.rv with ⟨e, h0⟩ | ⟨g, c, e, _, _⟩
       · exact ⟨none, 0, by rw [e, <- hSn, h0]⟩
       · exact ⟨_, c, by rw [e, hSn]⟩
     subst e
     clear hke hSn HSK HKY
     go_wp2
     refine bodyPost_ret (v := .agg #[.slice ga n ca, .slice la2 m lc2]) (by simp [results, Tryz.results41, go_sem, a0, a1]) rfl ⟨ga, ca, la2, lc2, S, by rw [HN.out, HM.out], ?_, HKE.out, ?_, HAP.out⟩
     · repeat (first | with_reducible exact Q3.out.b | refine Below.setCell ?_ (by simp <;> omega) _)
     · rw [HN.out, HM.out]
       repeat (first | with_reducible exact Q3.out.q | refine PO.set ?_ (by omega))
end Go.Proofs.YtcljhgildbcdmaaGreat
namespace Go.Proofs.YtcljhgildbcdmaaGreat
open Go.RowKit
def seqL (k : Int) (n : Nat) : List Int := (List.range n).map (fun i : Nat => k + (i : Int))
theorem seqL_len (k : Int) (n : Nat) : (seqL k n).length = n := by simp [seqL]
theorem seqL_at {k : Int} {n j : Nat} (h : j < n) : (seqL k n)[j]? = some (k + (j : Int)) := by simp [seqL, h]
def mkS : List RT -> Int -> List RT
 | [], _ => []
 | s :: S, k => ⟨k, s.a, seqL (k + 1) s.ids.length, s.c⟩ :: mkS S (k + 1 + (s.ids.length : Int))
def mkK : List RT -> Int -> Int
 | [], k => k
 | s :: S, k => mkK S (k + 1 + (s.ids.length : Int))
theorem mkS_len : ∀ (S : List RT) (k : Int), (mkS S k).length = S.length
 | [], _ => rfl
 | s :: S, k => by simp [mkS, mkS_len S]
theorem mkK_bd : ∀ (S : List RT) (k : Int), (∀ s ∈ S, s.ids.length <= 1000) -> k <= mkK S k /\ mkK S k <= k + (S.length : Int) * 1001
 | [], k, _ => by simp [mkK]
 | s :: S, k, h => by
   have h1 := mkK_bd S (k + 1 + (s.ids.length : Int)) (fun x hx => h x (List.mem_cons_of_mem _ hx))
   have h2 := h s (List.mem_cons_self ..)
   simp only [mkK, List.length_cons]
   omega
theorem rowR_setv (P Q : List RT) (s : RT) (K : Int) : (rowR (P ++ s :: Q)).set (P.length * 2) (.int .i64 K) = rowR (P ++ ⟨K, s.a, s.ids, s.c⟩ :: Q) := by
 rw [rowR_app, rowR_app, rowR_cons, rowR_cons, List.set_append_right _ _ (by rw [rowR_len]; exact Nat.le_refl _), rowR_len, Nat.sub_self]
 rfl
theorem own_row_of {w : World} {base size n rc g : Nat} {e : TypeId} {xs : List Value} (h : w.ownsRow base e size (.slice (some ⟨g, 0, none⟩) n rc) n xs) : ∃ cur, w.heap[g]? = some (.cells cur e (0, 0)) /\ cur.size = rc * size /\ n <= rc /\ rc <= maxLen /\ base <= g := by
 obtain ⟨_, ⟨h1, _⟩ | ⟨g', cap, cur, h2, h3, h4, h5, h6, h7, _⟩⟩ := h
 · cases h1
 · simp only [Value.slice.injEq, Option.some.injEq, Addr.mk.injEq, and_true, true_and] at h2
   obtain ⟨rfl, rfl⟩ := h2
   exact ⟨cur, h4, h7, h5, h6, h3⟩
theorem PO.markV {w : World} {base gr n rc : Nat} {P Q : List RT} {s : RT} {ls : Value} {L : List Int} (K : Int) (h : PO w base (.slice (some ⟨gr, 0, none⟩) n rc) (P ++ s :: Q) ls L) (hn : (P ++ s :: Q).length = n) : PO (w.setCell ⟨gr, P.length * 2, none⟩ (.int .i64 K)) base (.slice (some ⟨gr, 0, none⟩) n rc) (P ++ ⟨K, s.a, s.ids, s.c⟩ :: Q) ls L := by
 have hr := h.r
 rw [hn] at hr
 obtain ⟨cur, h4, _⟩ := own_row_of hr
 refine ⟨?_, fun t ht => ?_, own_box_of h.l h4 (by decide)⟩
 · have h1 := own_putV (k := P.length * 2) (.int .i64 K) hr
   rw [rowR_setv] at h1
   have : (P ++ (⟨K, s.a, s.ids, s.c⟩ : RT) :: Q).length = n := by rw [<- hn]; simp
   rw [this]
   exact h1
 · have : ∃ t' ∈ P ++ s :: Q, t'.a = t.a /\ t'.ids = t.ids /\ t'.c = t.c := by
     rcases List.mem_append.1 ht with h5 | h5
     · exact ⟨t, List.mem_append_left _ h5, rfl, rfl, rfl⟩
     · rcases List.mem_cons.1 h5 with h6 | h6
       · exact ⟨s, by simp, by rw [h6], by rw [h6], by rw [h6]⟩
       · exact ⟨t, by simp [h6], rfl, rfl, rfl⟩
   obtain ⟨t', h5, h6, h7, h8⟩ := this
   rw [<- h6, <- h7, <- h8]
   exact own_box_of (h.s t' h5) h4 (by decide)
theorem PO.markI {w w' : World} {base g : Nat} {P Q : List RT} {s : RT} {rs : Value} {la : Option Addr} {m lc : Nat} {L : List Int} {K : Int} {cur : Array Value} (h : PO w base rs (P ++ s :: Q) (.slice la m lc) L) (hap : Apart (P ++ s :: Q) la) (hs : s.a = some ⟨g, 0, none⟩) (hrow : w.heap[g]? = some (.cells cur 2 (0, 0))) (hg : w.grownBy w' (some g)) (hr : w'.heap[g]? = some (.cells (markA cur K s.ids.length) 2 (0, 0))) : PO w' base rs (P ++ ⟨s.v, s.a, seqL K s.ids.length, s.c⟩ :: Q) (.slice la m lc) L := by
 have hnd := hap
 unfold Apart at hnd
 obtain ⟨hn1, hn2⟩ := List.nodup_cons.1 hnd
 rw [List.map_append, List.map_cons] at hn1 hn2
 obtain ⟨_, hn3, hn4⟩ := List.nodup_append.1 hn2
 obtain ⟨hn5, _⟩ := List.nodup_cons.1 hn3
 have oth : ∀ t ∈ P ++ s :: Q, t.a ≠ s.a -> w'.ownsRow base 2 1 (.slice t.a t.ids.length t.c) t.ids.length (t.ids.map (Value.int .i64)) := fun t ht hne => by
   refine own_grown (h.s t ht) hg (fun e => hne ?_)
   rcases own_kinds (h.s t ht) with ⟨e1, _⟩ | ⟨g1, c1, e1, _, _⟩
   · rw [e1] at e; cases e
   · rw [e1] at e
     simp only [Value.slice.injEq] at e1
     simp only [Value.ownBlock, Option.some.injEq] at e
     rw [e1.1, hs, e]
 have hss := h.s s (by simp)
 rw [hs] at hss
 obtain ⟨cur2, k1, k2, k3, k4, k5⟩ := own_row_of hss
 rw [hrow] at k1
 simp only [Option.some.injEq, Obj.cells.injEq, and_true] at k1
 subst k1
 refine ⟨?_, fun t ht => ?_, ?_⟩
 · have e1 : rowR (P ++ (⟨s.v, s.a, seqL K s.ids.length, s.c⟩ : RT) :: Q) = rowR (P ++ s :: Q) := by
     rw [rowR_app, rowR_app, rowR_cons, rowR_cons]
     simp [rtCells, seqL_len]
   have e2 : (P ++ (⟨s.v, s.a, seqL K s.ids.length, s.c⟩ : RT) :: Q).length = (P ++ s :: Q).length := by simp
   rw [e1, e2]
   exact own_grown h.r hg (own_typ h.r hrow (by decide))
 · rcases List.mem_append.1 ht with h5 | h5
   · exact oth t (List.mem_append_left _ h5) (fun e => hn4 t.a (List.mem_map_of_mem h5) s.a (by simp) e)
   · rcases List.mem_cons.1 h5 with h6 | h6
     · rw [h6]
       simp only [seqL_len]
       rw [hs]
       refine ownV_of_cells hr (by rw [markA_size, k2]) k3 k4 k5 (by rw [List.length_map, seqL_len, Nat.mul_one]) (fun j hj => ?_)
       rw [Nat.mul_one] at hj
       rw [cell_of_row _ _ j _ _ _ hr, markA_get cur K s.ids.length (by rw [k2]; omega) j hj, List.getElem?_map, seqL_at hj]
       rfl
     · exact oth t (by simp [h6]) (fun e => hn5 (by rw [<- e]; exact List.mem_map_of_mem h6))
 · refine own_grown h.l hg (fun e => hn1 ?_)
   rcases own_kinds h.l with ⟨e1, _⟩ | ⟨g1, c1, e1, _, _⟩
   · rw [e1] at e; cases e
   · simp only [Value.slice.injEq] at e1
     rw [e1.1] at e ⊢
     simp only [Value.ownBlock, Option.some.injEq] at e
     rw [e, <- hs]
     simp
end Go.Proofs.YtcljhgildbcdmaaGreat
namespace Go.Proofs.YtcljhgildbcdmaaGreat
open Go.RowKit
theorem Apart.keys {S T : List RT} {la : Option Addr} (h : Apart S la) (e : T.map RT.a = S.map RT.a) : Apart T la := by unfold Apart at h ⊢; rw [e]; exact h
theorem mkS_a : ∀ (S : List RT) (k : Int), (mkS S k).map RT.a = S.map RT.a
 | [], _ => rfl
 | s :: S, k => by simp [mkS, mkS_a S]
set_option maxHeartbeats 2000000 in
theorem markRouteS_own (ra la : Option Addr) (n rc m lc base : Nat) (k0 : Int) (S : List RT) (L : List Int) (w : World) (hP : PO w base (.slice ra n rc) S (.slice la m lc) L) (hn : S.length = n) (hap : Apart S la) (hn1 : n <= 1000) (hi : ∀ s ∈ S, s.ids.length <= 1000) (h0 : 0 <= k0) (h1 : k0 <= 1000000) (top : Nat) (hB1 : ∀ g, ra = some ⟨g, 0, none⟩ -> g < top) (hB2 : ∀ a ∈ S.map RT.a, ∀ g, a = some ⟨g, 0, none⟩ -> g < top) :
   Calls Tryz.prog 50 #[.slice ra n rc, .int .i64 k0] w fun e w' => e = .returned (.int .i64 (mkK S k0)) /\ GrownBut (fun b => base <= b /\ b < top) w w' /\ PO w' base (.slice ra n rc) (mkS S k0) (.slice la m lc) L := by
 have HP : Hid (PO w base (.slice ra n rc) S (.slice la m lc) L) := hP
 have HAP : Hid (Apart S la) := hap
 have HN : Hid (S.length = n) := hn
 have HI : Hid (∀ s ∈ S, s.ids.length <= 1000) := hi
 have HB1 : Hid (∀ g, ra = some ⟨g, 0, none⟩ -> g < top) := hB1
 have HB2 : Hid (∀ a ∈ S.map RT.a, ∀ g, a = some ⟨g, 0, none⟩ -> g < top) := hB2
 clear hP hap hn hi hB1 hB2
 obtain ⟨KE, HKE⟩ : ∃ x, Hid (mkK S k0 = x) := ⟨_, rfl⟩
 obtain ⟨SE, HSE⟩ : ∃ x, Hid (mkS S k0 = x) := ⟨_, rfl⟩
 rw [HKE.out, HSE.out]
 go_enter Tryz.func50, Tryz.ntmps50
 go_wp2_with fail
 go_loopw [1, 5] (fun kk t wr => ∃ (P Q : List RT) (K : Int), P.length + Q.length = n /\ t = .int .i64 (P.length : Int) /\ kk = .int .i64 K /\ 0 <= K /\ K <= k0 + (P.length : Int) * 1001 /\ PO wr base (.slice ra n rc) (P ++ Q) (.slice la m lc) L /\ (P ++ Q).map RT.a = S.map RT.a /\ (∀ s ∈ Q, s.ids.length <= 1000) /\ P ++ mkS Q K = SE /\ mkK Q K = KE /\ GrownBut (fun b => base <= b /\ b < top) w wr ) (fun _ t _ => n - (intOf t).toNat)
 case atStart => exact ⟨[], S, k0, by simpa using HN.out, rfl, rfl, h0, by simp, HP.out, rfl, HI.out, HSE.out, HKE.out, GrownBut.of_below (Below.refl _ _)⟩
 case round =>
   clear HP
   obtain ⟨P, Q, K, hl, rfl, rfl, hK0, hK1, hp, ha, hq, hS, hKK, hG⟩ := hrel
   have HP : Hid (PO wr base (.slice ra n rc) (P ++ Q) (.slice la m lc) L) := hp
   have HA : Hid ((P ++ Q).map RT.a = S.map RT.a) := ha
   have HQ : Hid (∀ s ∈ Q, s.ids.length <= 1000) := hq
   have HS : Hid (P ++ mkS Q K = SE) := hS
   have HK : Hid (mkK Q K = KE) := hKK
   have HG : Hid (GrownBut (fun b => base <= b /\ b < top) w wr) := hG
   obtain ⟨i, HPL⟩ : ∃ x, Hid (P.length = x) := ⟨_, rfl⟩
   rw [HPL.out] at hl hK1 ⊢
   clear hp ha hq hS hKK hG
   cases Q with
   | nil =>
     have hiI : ¬ ((i : Int) < (n : Int)) := by simp at hl; omega
     have e1 : K = KE := HK.out
     have e2 : P = SE := by have := HS.out; simpa [mkS] using this
     subst e1 e2
     go_wp2
     go_ret
     exact ⟨rfl, HG.out, by have := HP.out; simpa using this⟩
   | cons s Q =>
     have hlt : i < n := by simp at hl; omega
     have hiI : (i : Int) < (n : Int) := by omega
     have hsl := HQ.out s (List.mem_cons_self ..)
     have hPn : (P ++ s :: Q).length = n := by rw [List.length_append, HPL.out]; exact hl
     obtain ⟨gr, e⟩ : ∃ gr, ra = some ⟨gr, 0, none⟩ := by
       have hr := HP.out.r
       rw [hPn] at hr
       rcases own_kinds hr with ⟨_, h9⟩ | ⟨g, c, e, _, _⟩
       · omega
       · simp only [Value.slice.injEq] at e
         exact ⟨g, e.1⟩
     subst e
     have hr9 := HP.out.r
     rw [hPn] at hr9
     obtain ⟨cr, hcr, hcs, hcn, -, hbg⟩ := own_row_of hr9
     obtain ⟨x1, x2⟩ := rowR_at (P ++ s :: Q) i (by rw [hPn]; exact hlt)
     have e9 : (P ++ s :: Q).getD i rt0 = s := by rw [List.getD_eq_getElem?_getD, List.getElem?_append_right (by rw [HPL.out]; exact Nat.le_refl _), HPL.out, Nat.sub_self]; rfl
     rw [e9] at x1 x2
     have y0 := (own_cellV hr9 x1).1
     have yf := fun j => frozen_of_row _ _ j _ _ hcr
     have P2 : Hid (PO (wr.setCell ⟨gr, i * 2, none⟩ (.int .i64 K)) base (.slice (some ⟨gr, 0, none⟩) n rc) (P ++ ⟨K, s.a, s.ids, s.c⟩ :: Q) (.slice la m lc) L) := by have := HP.out.markV K hPn; rw [HPL.out] at this; exact this
     have G2 : Hid (GrownBut (fun b => base <= b /\ b < top) w (wr.setCell ⟨gr, i * 2, none⟩ (.int .i64 K))) := HG.out.trans (GrownBut.of_grown (grown_set _ _ _ _) ⟨hbg, HB1.out gr rfl⟩)
     have y1 : (wr.setCell ⟨gr, i * 2, none⟩ (.int .i64 K)).cell? ⟨gr, i * 2 + 1, none⟩ = some (.slice s.a s.ids.length s.c) := by
       have h5 := P2.out.r
       have h6 : (P ++ (⟨K, s.a, s.ids, s.c⟩ : RT) :: Q).length = n := by rw [<- hPn]; simp
       rw [h6] at h5
       obtain ⟨_, z2⟩ := rowR_at (P ++ (⟨K, s.a, s.ids, s.c⟩ : RT) :: Q) i (by rw [h6]; exact hlt)
       have e8 : (P ++ (⟨K, s.a, s.ids, s.c⟩ : RT) :: Q).getD i rt0 = ⟨K, s.a, s.ids, s.c⟩ := by rw [List.getD_eq_getElem?_getD, List.getElem?_append_right (by rw [HPL.out]; exact Nat.le_refl _), HPL.out, Nat.sub_self]; rfl
       rw [e8] at z2
       exact (own_cellV h5 z2).1
     have hwk : IntKind.i64.wrap (K + 1) = K + 1 := by rw [IntKind.wrap_i64]; omega
     have AP2 : Hid (Apart (P ++ ⟨K, s.a, s.ids, s.c⟩ :: Q) la) := HAP.out.keys (by have := HA.out; simpa using this)
     have HS2 : Hid (P ++ (⟨K, s.a, seqL (K + 1) s.ids.length, s.c⟩ : RT) :: mkS Q (K + 1 + (s.ids.length : Int)) = SE) := HS.out
     have HK2 : Hid (mkK Q (K + 1 + (s.ids.length : Int)) = KE) := HK.out
     have HA2 : Hid ((P ++ (⟨K, s.a, seqL (K + 1) s.ids.length, s.c⟩ : RT) :: Q).map RT.a = S.map RT.a) := by have := HA.out; show _ = _; rw [<- this]; simp
     have HQ2 : Hid (∀ t ∈ Q, t.ids.length <= 1000) := fun t ht => HQ.out t (List.mem_cons_of_mem _ ht)
     have HSA : Hid (∀ g, s.a = some ⟨g, 0, none⟩ -> g < top) := fun g e => HB2.out s.a (by rw [<- HA.out]; simp) g e
     clear HP HS HK HA HQ HG hr9 x1 x2 e9
     obtain ⟨sv, sa, sids, sc⟩ := s
     simp only at hsl y0 y1 P2 AP2 HS2 HK2 HA2 HSA
     obtain ⟨sl, HSL⟩ : ∃ x, Hid (sids.length = x) := ⟨_, rfl⟩
     rw [HSL.out] at hsl y1 HS2 HK2 HA2
     have MI : Calls Tryz.prog 51 #[.slice sa sl sc, .int .i64 (K + 1)] (wr.setCell ⟨gr, i * 2, none⟩ (.int .i64 K)) fun e w' => e = .returned (.int .i64 (K + 1 + (sl : Int))) /\ PO w' base (.slice (some ⟨gr, 0, none⟩) n rc) (P ++ ⟨K, sa, seqL (K + 1) sl, sc⟩ :: Q) (.slice la m lc) L /\ GrownBut (fun b => base <= b /\ b < top) w w' := by
       have hs9 := P2.out.s ⟨K, sa, sids, sc⟩ (by simp)
       simp only [HSL.out] at hs9
       rcases own_kinds hs9 with ⟨e, hz⟩ | ⟨g, c, e, _, _⟩
       · subst hz
         refine (markInt64S_nil sa sc (K + 1) _).mono ?_
         rintro e w' ⟨rfl, rfl⟩
         have : sids = [] := List.length_eq_zero_iff.1 HSL.out
         subst this
         exact ⟨by simp, P2.out, G2.out⟩
       · simp only [Value.slice.injEq, true_and] at e
         obtain ⟨rfl, rfl⟩ := e
         obtain ⟨cur, k1, k2, k3, k4, k5⟩ := own_row_of hs9
         refine (markInt64S_any g sl sc (K + 1) cur _ _ k1 (by omega) (by omega) (by omega) (by omega)).mono ?_
         rintro e w' ⟨rfl, hg, hr⟩
         have PM := P2.out.markI (K := K + 1) AP2.out rfl k1 hg (by simp only [HSL.out]; exact hr)
         simp only [HSL.out] at PM
         exact ⟨rfl, PM, G2.out.trans (GrownBut.of_grown hg ⟨k5, HSA.out g rfl⟩)⟩
     go_wp2_with fail
     refine MI.mono ?_
     rintro e w3 ⟨rfl, hp, hg⟩
     obtain ⟨K2, HKZ⟩ : ∃ t, Hid (K + 1 + (sl : Int) = t) := ⟨_, rfl⟩
     have hK2 : 0 <= K2 /\ K2 <= k0 + ((i : Int) + 1) * 1001 := by have := HKZ.out; omega
     rw [HKZ.out] at HS2 HK2 ⊢
     have P3 : Hid (PO w3 base (.slice (some ⟨gr, 0, none⟩) n rc) (P ++ ⟨K, sa, seqL (K + 1) sl, sc⟩ :: Q) (.slice la m lc) L) := hp
     have G3 : Hid (GrownBut (fun b => base <= b /\ b < top) w w3) := hg
     clear MI hp hg P2 G2 AP2 y0 y1 yf
     go_wp2
     first
       | exact ⟨⟨P ++ [⟨K, sa, seqL (K + 1) sl, sc⟩], Q, K2, by simp; simp at hl; have := HPL.out; omega, by simp [HPL.out], rfl, hK2.1, by simp [HPL.out]; omega, by simpa using P3.out, by simpa using HA2.out, HQ2.out, by simpa using HS2.out, HK2.out, G3.out⟩, by simp [intOf]; omega⟩
       | (go_roundw
          case rel => exact ⟨P ++ [⟨K, sa, seqL (K + 1) sl, sc⟩], Q, K2, by simp; simp at hl; have := HPL.out; omega, by simp [HPL.out], rfl, hK2.1, by simp [HPL.out]; omega, by simpa using P3.out, by simpa using HA2.out, HQ2.out, by simpa using HS2.out, HK2.out, G3.out⟩
          case measure => simp [intOf]; omega)
end Go.Proofs.YtcljhgildbcdmaaGreat
namespace Go.Proofs.YtcljhgildbcdmaaGreat
open Go.RowKit
set_option maxHeartbeats 2000000 in
theorem heldRouteS_own (ra : Option Addr) (n rc base : Nat) (k0 : Int) (S : List RT) (ls : Value) (L : List Int) (w : World) (hP : PO w base (.slice ra n rc) (mkS S k0) ls L) (hn : S.length = n) (hn1 : n <= 1000) (hi : ∀ s ∈ S, s.ids.length <= 1000) (h0 : 0 <= k0) (h1 : k0 <= 1000000) :
   Calls Tryz.prog 52 #[.slice ra n rc, .int .i64 k0] w fun e w' => e = .returned (.int .i64 (mkK S k0)) /\ w' = w := by
 have HP : Hid (PO w base (.slice ra n rc) (mkS S k0) ls L) := hP
 have HN : Hid ((mkS S k0).length = n) := by rw [mkS_len]; exact hn
 have HI : Hid (∀ s ∈ S, s.ids.length <= 1000) := hi
 have hn9 : S.length = n := hn
 clear hP hn hi
 obtain ⟨KE, HKE⟩ : ∃ x, Hid (mkK S k0 = x) := ⟨_, rfl⟩
 rw [HKE.out]
 go_enter Tryz.func52, Tryz.ntmps52
 go_wp2_with fail
 go_loop [1, 5] (fun kk t => ∃ (P Q : List RT) (K : Int), P.length + Q.length = n /\ t = .int .i64 (P.length : Int) /\ kk = .int .i64 K /\ 0 <= K /\ K <= k0 + (P.length : Int) * 1001 /\ (∀ s ∈ Q, s.ids.length <= 1000) /\ mkS S k0 = P ++ mkS Q K /\ mkK Q K = KE) (fun _ t => n - (intOf t).toNat)
 case atStart => exact ⟨[], S, k0, by simpa using hn9, rfl, rfl, h0, by simp, HI.out, rfl, HKE.out⟩
 case round =>
   obtain ⟨P, Q, K, hl, rfl, rfl, hK0, hK1, hq, hS, hKK⟩ := hrel
   have HQ : Hid (∀ s ∈ Q, s.ids.length <= 1000) := hq
   have HS : Hid (mkS S k0 = P ++ mkS Q K) := hS
   have HK : Hid (mkK Q K = KE) := hKK
   obtain ⟨i, HPL⟩ : ∃ x, Hid (P.length = x) := ⟨_, rfl⟩
   rw [HPL.out] at hl hK1 ⊢
   clear hq hS hKK
   cases Q with
   | nil =>
     have hiI : ¬ ((i : Int) < (n : Int)) := by simp at hl; omega
     have e1 : K = KE := HK.out
     subst e1
     go_wp2
     go_ret
     exact ⟨rfl, rfl⟩
   | cons s Q =>
     have hlt : i < n := by simp at hl; omega
     have hiI : (i : Int) < (n : Int) := by omega
     have hsl := HQ.out s (List.mem_cons_self ..)
     have hr9 := HP.out.r
     rw [HN.out] at hr9
     obtain ⟨gr, e⟩ : ∃ gr, ra = some ⟨gr, 0, none⟩ := by
       rcases own_kinds hr9 with ⟨_, h9⟩ | ⟨g, c, e, _, _⟩
       · omega
       · simp only [Value.slice.injEq] at e
         exact ⟨g, e.1⟩
     subst e
     obtain ⟨x1, x2⟩ := rowR_at (mkS S k0) i (by rw [HN.out]; exact hlt)
     have e9 : (mkS S k0).getD i rt0 = ⟨K, s.a, seqL (K + 1) s.ids.length, s.c⟩ := by rw [HS.out, List.getD_eq_getElem?_getD, List.getElem?_append_right (by rw [HPL.out]; exact Nat.le_refl _), HPL.out, Nat.sub_self]; rfl
     have hmem : (⟨K, s.a, seqL (K + 1) s.ids.length, s.c⟩ : RT) ∈ mkS S k0 := by rw [HS.out]; simp [mkS]
     have hs9 := HP.out.s _ hmem
     rw [e9] at x1 x2
     simp only [seqL_len] at x1 x2 hs9
     have y0 := (own_cellV hr9 x1).1
     have y1 := (own_cellV hr9 x2).1
     have hwk : IntKind.i64.wrap (K + 1) = K + 1 := by rw [IntKind.wrap_i64]; omega
     have HS2 : Hid (mkS S k0 = (P ++ [⟨K, s.a, seqL (K + 1) s.ids.length, s.c⟩]) ++ mkS Q (K + 1 + (s.ids.length : Int))) := by show _ = _; rw [HS.out]; simp [mkS]
     have HK2 : Hid (mkK Q (K + 1 + (s.ids.length : Int)) = KE) := HK.out
     have HQ2 : Hid (∀ t ∈ Q, t.ids.length <= 1000) := fun t ht => HQ.out t (List.mem_cons_of_mem _ ht)
     clear HS HK HQ hr9 x1 x2 e9 hmem
     obtain ⟨sv, sa, sids, sc⟩ := s
     simp only at hsl y0 y1 HS2 HK2 hs9
     obtain ⟨sl, HSL⟩ : ∃ x, Hid (sids.length = x) := ⟨_, rfl⟩
     rw [HSL.out] at hsl y1 HS2 HK2 hs9
     have HI9 : Calls Tryz.prog 53 #[.slice sa sl sc, .int .i64 (K + 1)] w fun e w' => e = .returned (.int .i64 (K + 1 + (sl : Int))) /\ w' = w := by
       rcases own_kinds hs9 with ⟨e, hz⟩ | ⟨g, c, e, _, _⟩
       · subst hz
         refine (heldInt64S_nil sa sc (K + 1) _).mono ?_
         rintro e w' ⟨rfl, rfl⟩
         exact ⟨by simp, rfl⟩
       · simp only [Value.slice.injEq, true_and] at e
         obtain ⟨rfl, rfl⟩ := e
         exact heldInt64S_any g sl sc (K + 1) w (fun j hj => (own_cellV hs9 (by rw [List.getElem?_map, seqL_at hj]; rfl)).1) (by omega) (by omega) (by omega)
     have hvv : (K != K) = false := by simp
     clear hs9
     go_wp2_with fail
     refine HI9.mono ?_
     rintro e w3 ⟨rfl, rfl⟩
     obtain ⟨K2, HKZ⟩ : ∃ t, Hid (K + 1 + (sl : Int) = t) := ⟨_, rfl⟩
     have hK2 : 0 <= K2 /\ K2 <= k0 + ((i : Int) + 1) * 1001 := by have := HKZ.out; omega
     rw [HKZ.out] at HS2 HK2 ⊢
     obtain ⟨hK20, hK21⟩ := hK2
     have hK2n : ¬ K2 < 0 := by omega
     clear HI9
     go_wp2
     go_round
     case rel => exact ⟨P ++ [⟨K, sa, seqL (K + 1) sl, sc⟩], Q, K2, by simp; simp at hl; have := HPL.out; omega, by simp [HPL.out], rfl, hK20, by simp [HPL.out]; omega, HQ2.out, HS2.out, HK2.out⟩
     case measure => simp [intOf]; omega
theorem PO.but {w w' : World} {base : Nat} {rs ls : Value} {S : List RT} {L : List Int} {C : Nat -> Prop} (h : PO w base rs S ls L) (hG : GrownBut C w w') (hs : ∀ b, C b -> b < base) : PO w' base rs S ls L := ⟨hG.owns h.r hs, fun s h9 => hG.owns (h.s s h9) hs, hG.owns h.l hs⟩
theorem PO.markL {w w' : World} {base gl m lc : Nat} {S : List RT} {rs : Value} {L : List Int} {K : Int} {cur : Array Value} (h : PO w base rs S (.slice (some ⟨gl, 0, none⟩) m lc) L) (hm : L.length = m) (hap : Apart S (some ⟨gl, 0, none⟩)) (hrow : w.heap[gl]? = some (.cells cur 2 (0, 0))) (hg : w.grownBy w' (some gl)) (hr : w'.heap[gl]? = some (.cells (markA cur K m) 2 (0, 0))) : PO w' base rs S (.slice (some ⟨gl, 0, none⟩) m lc) (seqL K m) := by
 have hnd := hap
 unfold Apart at hnd
 obtain ⟨hn1, _⟩ := List.nodup_cons.1 hnd
 have hl := h.l
 rw [hm] at hl
 obtain ⟨cur2, k1, k2, k3, k4, k5⟩ := own_row_of hl
 rw [hrow] at k1
 simp only [Option.some.injEq, Obj.cells.injEq, and_true] at k1
 subst k1
 refine ⟨own_grown h.r hg (own_typ h.r hrow (by decide)), fun t ht => own_grown (h.s t ht) hg (fun e => hn1 ?_), ?_⟩
 · rcases own_kinds (h.s t ht) with ⟨e1, _⟩ | ⟨g1, c1, e1, _, _⟩
   · rw [e1] at e; cases e
   · simp only [Value.slice.injEq] at e1
     rw [e1.1] at e
     simp only [Value.ownBlock, Option.some.injEq] at e
     rw [<- e, <- e1.1]
     exact List.mem_map_of_mem ht
 · rw [seqL_len]
   refine ownV_of_cells hr (by rw [markA_size, k2]) k3 k4 k5 (by rw [List.length_map, seqL_len, Nat.mul_one]) (fun j hj => ?_)
   rw [Nat.mul_one] at hj
   rw [cell_of_row _ _ j _ _ _ hr, markA_get cur K m (by rw [k2]; omega) j hj, List.getElem?_map, seqL_at hj]
   rfl
set_option maxHeartbeats 2000000 in
theorem markPlan_own (ra la : Option Addr) (n rc m lc base : Nat) (k0 : Int) (S : List RT) (L : List Int) (w : World) (hP : PO w base (.slice ra n rc) S (.slice la m lc) L) (hn : S.length = n) (hm : L.length = m) (hap : Apart S la) (hn1 : n <= 1000) (hm1 : m <= 1000) (hi : ∀ s ∈ S, s.ids.length <= 1000) (h0 : 0 <= k0) (h1 : k0 <= 1000000) (top : Nat) (htop : top <= w.heap.size) (hB1 : ∀ g, ra = some ⟨g, 0, none⟩ -> g < top) (hB2 : ∀ a ∈ S.map RT.a, ∀ g, a = some ⟨g, 0, none⟩ -> g < top) (hB3 : ∀ g, la = some ⟨g, 0, none⟩ -> g < top) :
   Calls Tryz.prog 17 #[.agg #[.slice ra n rc, .slice la m lc], .int .i64 k0] w fun e w' => e = .returned (.int .i64 (mkK S k0 + (m : Int))) /\ GrownBut (fun b => base <= b /\ b < top) w w' /\ PO w' base (.slice ra n rc) (mkS S k0) (.slice la m lc) (seqL (mkK S k0) m) := by
 have hkb := mkK_bd S k0 hi
 have hA : Below w.heap.size w (w.alloc (.cells #[.slice ra n rc, .slice la m lc] 36)) := (Below.refl _ _).alloc (Nat.le_refl _) _
 have MR := markRouteS_own ra la n rc m lc base k0 S L _ (hP.below hA) hn hap hn1 hi h0 h1 top hB1 hB2
 have HLB : Hid (∀ g, la = some ⟨g, 0, none⟩ -> g < top) := hB3
 have HAP : Hid (Apart (mkS S k0) la) := hap.keys (mkS_a S k0)
 have X0 : Hid ((w.alloc (.cells #[.slice ra n rc, .slice la m lc] 36)).heap[w.heap.size]? = some (.cells #[.slice ra n rc, .slice la m lc] 36 (0, 0))) := heap_alloc_new _ _
 rw [hn] at hkb
 have hKb : k0 <= mkK S k0 /\ mkK S k0 <= 3000000 := by omega
 obtain ⟨K, HKK⟩ : ∃ x, Hid (mkK S k0 = x) := ⟨_, rfl⟩
 rw [HKK.out] at MR hKb ⊢
 have HM : Hid (L.length = m) := hm
 obtain ⟨hK0, hK1⟩ := hKb
 clear hP hap hi hn hm hkb hB1 hB2 hB3
 obtain ⟨c0, c1⟩ := cells2 X0.out
 go_enter Tryz.func17, Tryz.ntmps17
 go_wp2_with fail
 refine MR.mono ?_
 rintro e w1 ⟨rfl, hG, hp⟩
 have X1 : Hid (w1.heap[w.heap.size]? = some (.cells #[.slice ra n rc, .slice la m lc] 36 (0, 0))) := hG.row X0.out (fun h => by omega)
 have B1 : Hid (GrownBut (fun b => base <= b /\ b < top) w w1) := (GrownBut.of_below hA).trans hG
 have P1 : Hid (PO w1 base (.slice ra n rc) (mkS S k0) (.slice la m lc) L) := hp
 clear hG hp MR X0 c0 c1 hA
 obtain ⟨c0, c1⟩ := cells2 X1.out
 have ML : Calls Tryz.prog 51 #[.slice la m lc, .int .i64 K] w1 fun e w' => e = .returned (.int .i64 (K + (m : Int))) /\ GrownBut (fun b => base <= b /\ b < top) w w' /\ PO w' base (.slice ra n rc) (mkS S k0) (.slice la m lc) (seqL K m) := by
   have hl := P1.out.l
   rw [HM.out] at hl
   rcases own_kinds hl with ⟨e, hz⟩ | ⟨g, c, e, _, _⟩
   · subst hz
     refine (markInt64S_nil la lc K _).mono ?_
     rintro e w' ⟨rfl, rfl⟩
     have : L = [] := List.length_eq_zero_iff.1 HM.out
     subst this
     exact ⟨by simp, B1.out, P1.out⟩
   · simp only [Value.slice.injEq, true_and] at e
     obtain ⟨rfl, rfl⟩ := e
     obtain ⟨cur, k1, k2, k3, k4, k5⟩ := own_row_of hl
     refine (markInt64S_any g m lc K cur _ _ k1 (by omega) (by omega) (by omega) (by omega)).mono ?_
     rintro e w' ⟨rfl, hg, hr⟩
     refine ⟨rfl, B1.out.trans (GrownBut.of_grown hg ⟨k5, HLB.out g rfl⟩), P1.out.markL HM.out HAP.out k1 hg hr⟩
 go_wp2_with fail
 refine ML.mono ?_
 rintro e w2 ⟨rfl, hb2, hp2⟩
 clear ML
 go_wp2
 go_ret
 exact ⟨rfl, hb2, hp2⟩
set_option maxHeartbeats 2000000 in
theorem heldPlan_own (ra la : Option Addr) (n rc m lc base : Nat) (k0 : Int) (S : List RT) (w : World) (hP : PO w base (.slice ra n rc) (mkS S k0) (.slice la m lc) (seqL (mkK S k0) m)) (hn : S.length = n) (hn1 : n <= 1000) (hm1 : m <= 1000) (hi : ∀ s ∈ S, s.ids.length <= 1000) (h0 : 0 <= k0) (h1 : k0 <= 1000000) :
   Calls Tryz.prog 18 #[.agg #[.slice ra n rc, .slice la m lc], .int .i64 k0] w fun e w' => e = .returned (.int .i64 (mkK S k0 + (m : Int))) /\ Below w.heap.size w w' := by
 have hkb := mkK_bd S k0 hi
 have hA : Below w.heap.size w (w.alloc (.cells #[.slice ra n rc, .slice la m lc] 36)) := (Below.refl _ _).alloc (Nat.le_refl _) _
 have HR := heldRouteS_own ra n rc base k0 S _ _ _ (hP.below hA) hn hn1 hi h0 h1
 have X0 : Hid ((w.alloc (.cells #[.slice ra n rc, .slice la m lc] 36)).heap[w.heap.size]? = some (.cells #[.slice ra n rc, .slice la m lc] 36 (0, 0))) := heap_alloc_new _ _
 rw [hn] at hkb
 have hKb : k0 <= mkK S k0 /\ mkK S k0 <= 3000000 := by omega
 have hl := (hP.below hA).l
 rw [seqL_len] at hl
 obtain ⟨K, HKK⟩ : ∃ x, Hid (mkK S k0 = x) := ⟨_, rfl⟩
 rw [HKK.out] at HR hKb hl ⊢
 obtain ⟨hK0, hK1⟩ := hKb
 have HB0 : Hid (Below w.heap.size w (w.alloc (.cells #[.slice ra n rc, .slice la m lc] 36))) := hA
 have HL : Calls Tryz.prog 53 #[.slice la m lc, .int .i64 K] (w.alloc (.cells #[.slice ra n rc, .slice la m lc] 36)) fun e w' => e = .returned (.int .i64 (K + (m : Int))) /\ w' = w.alloc (.cells #[.slice ra n rc, .slice la m lc] 36) := by
   rcases own_kinds hl with ⟨e, hz⟩ | ⟨g, c, e, _, _⟩
   · subst hz
     refine (heldInt64S_nil la lc K _).mono ?_
     rintro e w' ⟨rfl, rfl⟩
     exact ⟨by simp, rfl⟩
   · simp only [Value.slice.injEq, true_and] at e
     obtain ⟨rfl, rfl⟩ := e
     exact heldInt64S_any g m lc K _ (fun j hj => (own_cellV hl (by rw [List.getElem?_map, seqL_at hj]; rfl)).1) (by omega) (by omega) (by omega)
 clear hP hi hn hkb hA hl
 obtain ⟨c0, c1⟩ := cells2 X0.out
 have hKn : ¬ K < 0 := by omega
 have hKm : ¬ K + (m : Int) < 0 := by omega
 go_enter Tryz.func18, Tryz.ntmps18
 go_wp2_with fail
 generalize w.alloc (.cells #[.slice ra n rc, .slice la m lc] 36) = W0 at *
 refine HR.mono ?_
 rintro e w1 ⟨rfl, rfl⟩
 go_wp2_with fail
 refine HL.mono ?_
 rintro e w2 ⟨rfl, rfl⟩
 go_wp2
 go_ret
 exact ⟨rfl, HB0.out⟩
end Go.Proofs.YtcljhgildbcdmaaGreat