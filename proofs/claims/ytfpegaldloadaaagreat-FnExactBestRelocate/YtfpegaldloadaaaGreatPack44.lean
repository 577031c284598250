import Derived.Test.YtfpegaldloadaaaGreatPack1
import Derived.Test.YtfpegaldloadaaaGreatPack2
import Derived.Test.YtfpegaldloadaaaGreatPack8
namespace Go.Proofs.YtfpegaldloadaaaGreat
open Go.RowKit
set_option maxHeartbeats 1000000 in
theorem szRouteS_any (ra : Option Addr) (rc : Nat) (R : List RT) (left : Int) (w : World) (hA : RoutesAt w ra R) (h0 : 0 <= left) (h1 : left <= 1048576) (hn : R.length <= 9223372036854775807) (hi : ∀ r ∈ R, r.ids.length <= 9223372036854775807) :
   Calls Tryz.prog 24 #[.slice ra R.length rc, .int .i64 left] w fun e w' => e = .returned (.int .i64 (szRS R left)) /\ Below w.heap.size w w' := by
 have HA : Hid (RoutesAt w ra R) := hA
 have HI : Hid (∀ r ∈ R, r.ids.length <= 9223372036854775807) := hi
 clear hA hi
 obtain ⟨n, HN⟩ : ∃ n, Hid (R.length = n) := ⟨_, rfl⟩
 rw [HN.out] at hn ⊢
 by_cases hl : left < n
 · have HS : Hid (szRS R left = -1) := by show _ = _; unfold szRS; rw [HN.out, if_pos hl]
   have hl2 : left - (n : Int) < 0 := by omega
   go_enter Tryz.func24, Tryz.ntmps24
   go_wp2
   go_ret
   exact ⟨by rw [HS.out]; rfl, Below.refl _ _⟩
 · obtain ⟨l0, HL0⟩ : ∃ l, Hid (left - (n : Int) = l) := ⟨_, rfl⟩
   have HS : Hid (szRS R left = szR R l0 n) := by show _ = _; unfold szRS; rw [HN.out, if_neg hl, HL0.out]
   have hl0 : 0 <= l0 /\ l0 <= 1048576 := by have := HL0.out; omega
   have hl0e := HL0.out
   have hw1 : IntKind.i64.wrap (left - (n : Int)) = l0 := by rw [hl0e]; exact IntWalk.i64_in _ (by omega)
   have hn0 : ¬ (l0 < 0) := by omega
   go_enter Tryz.func24, Tryz.ntmps24
   go_wp2_with fail
   clear hw1 hl0e
   go_loopw [1, 5] (fun tl ti wr => ∃ k : Nat, k <= n /\ ti = .int .i64 k /\ tl = .int .i64 (szR R l0 k) /\ 0 <= szR R l0 k /\ Below w.heap.size w wr) (fun _ ti _ => n - (intOf ti).toNat)
   case atStart => exact ⟨0, Nat.zero_le _, rfl, rfl, hl0.1, Below.refl _ _⟩
   case round =>
     obtain ⟨k, hk, rfl, rfl, hs0, hb⟩ := hrel
     have B1 : Hid (Below w.heap.size w wr) := hb
     clear hb
     have hsl := (szR_le R l0 hl0.1 k).1
     have HNX : Hid (szR R l0 (k + 1) = if szR R l0 k < ((R.getD k rt0).ids.length : Int) then -1 else szR R l0 k - (R.getD k rt0).ids.length) := by
       show _ = _
       simp only [szR]
       rw [if_neg (by omega)]
     obtain ⟨s, HSK⟩ : ∃ s, Hid (szR R l0 k = s) := ⟨_, rfl⟩
     rw [HSK.out] at hs0 hsl HNX ⊢
     by_cases hlt : k < n
     · have hkn : (k : Int) < n := by omega
       obtain ⟨b, off, e, c1, c2, _⟩ := (HA.out.below B1.out) k (by rw [HN.out]; exact hlt)
       have him : (R.getD k rt0).ids.length <= 9223372036854775807 := HI.out _ (by
         have : k < R.length := by rw [HN.out]; exact hlt
         rw [List.getD_eq_getElem?_getD, List.getElem?_eq_getElem this]; simp)
       subst e
       generalize R.getD k rt0 = r at *
       obtain ⟨rv, rra, rids, rcc⟩ := r
       simp only at c1 c2 HNX him
       generalize rids.length = m at *
       go_wp2_with fail
       refine (szRoute_any rv rra m rcc s wr hs0 (by omega) him).mono ?_
       rintro e w2 ⟨rfl, hb2⟩
       have B2 : Hid (Below w.heap.size w w2) := B1.out.trans (hb2.mono B1.out.size)
       clear hb2 B1
       by_cases hms : s < m
       · rw [if_pos hms] at HNX ⊢
         have HSN : Hid (szR R l0 n = -1) := by
           rcases szR_down R l0 (show k + 1 <= n by omega) HNX.out with h | h
           · exact h
           · rw [<- h]; exact HNX.out
         go_wp2
         go_ret
         exact ⟨by rw [HS.out, HSN.out]; rfl, B2.out⟩
       · rw [if_neg hms] at HNX ⊢
         obtain ⟨s2, HS2⟩ : ∃ t, Hid (s - (m : Int) = t) := ⟨_, rfl⟩
         have hs2 : ¬ (s2 < 0) := by have := HS2.out; omega
         rw [HS2.out] at HNX ⊢
         clear hms
         go_wp2
         first
           | exact ⟨⟨k + 1, by omega, by first | rfl | go_num, by rw [HNX.out], by rw [HNX.out]; omega, B2.out⟩, by simp [intOf]; omega⟩
           | (go_roundw
              case rel => exact ⟨k + 1, by omega, by first | rfl | go_num, by rw [HNX.out], by rw [HNX.out]; omega, B2.out⟩
              case measure => simp [intOf]; omega)
     · have hkn : k = n := by omega
       subst hkn
       have HSF : Hid (szRS R left = s) := HS.out.trans HSK.out
       clear HS HSK HNX
       go_wp2
       go_ret
       exact ⟨by rw [HSF.out]; rfl, B1.out⟩
set_option maxHeartbeats 1000000 in
theorem szPlan_any (ra la : Option Addr) (rc ln lc : Nat) (R : List RT) (left : Int) (w : World) (hA : RoutesAt w ra R) (h0 : 0 <= left) (h1 : left <= 1048576) (hn : R.length <= 9223372036854775807) (hln : ln <= 9223372036854775807) (hi : ∀ r ∈ R, r.ids.length <= 9223372036854775807) :
   Calls Tryz.prog 7 #[.agg #[.slice ra R.length rc, .slice la ln lc], .int .i64 left] w fun e w' => e = .returned (.int .i64 (szPl R ln left)) /\ Below w.heap.size w w' := by
 have HA : Hid (RoutesAt w ra R) := hA
 clear hA
 have B0 : Hid (Below w.heap.size w (w.alloc (.cells #[.slice ra R.length rc, .slice la ln lc] 31))) := (Below.refl _ _).alloc (Nat.le_refl _) _
 have G0 : Hid ((w.alloc (.cells #[.slice ra R.length rc, .slice la ln lc] 31)).heap[w.heap.size]? = some (.cells #[.slice ra R.length rc, .slice la ln lc] 31 (0, 0))) := heap_alloc_new _ _
 have A0 : Hid (RoutesAt (w.alloc (.cells #[.slice ra R.length rc, .slice la ln lc] 31)) ra R) := HA.out.below B0.out
 have hsb : szRS R left <= 1048576 /\ -1 <= szRS R left := by
   unfold szRS
   split
   · omega
   · have := szR_le R (left - R.length) (by omega) R.length
     omega
 go_enter Tryz.func7, Tryz.ntmps7
 obtain ⟨d0, d1⟩ := cells2 G0.out
 go_wp2_with fail
 clear d0 d1
 generalize w.alloc (.cells #[.slice ra R.length rc, .slice la ln lc] 31) = W0 at *
 refine (szRouteS_any ra rc R left W0 A0.out h0 h1 hn hi).mono ?_
 rintro e w1 ⟨rfl, hb⟩
 have B1 : Hid (Below w.heap.size w w1) := B0.out.trans (hb.mono B0.out.size)
 have G1 := below_row hb (row_lt G0.out) G0.out
 clear hb A0 B0 G0
 have HP : Hid (szPl R ln left = if szRS R left < 0 then -1 else if szRS R left < (ln : Int) then -1 else szRS R left - ln) := rfl
 generalize szRS R left = s at *
 by_cases hs : s < 0
 · rw [if_pos hs] at HP
   clear G1
   go_wp2
   go_ret
   exact ⟨by rw [HP.out]; rfl, B1.out⟩
 · rw [if_neg hs] at HP
   obtain ⟨d0, d1⟩ := cells2 G1
   have hs0 : 0 <= s := by omega
   go_wp2_with fail
   clear d0 d1 G1
   refine (szInts_any la ln lc s w1 hs0 hsb.1 hln).mono ?_
   rintro e w2 ⟨rfl, rfl⟩
   have B2 : Hid (Below w.heap.size w w2) := B1.out
   clear B1
   obtain ⟨f, HF⟩ : ∃ f, Hid (szPl R ln left = f) := ⟨_, rfl⟩
   rw [<- HP.out, HF.out]
   rw [HF.out] at HP
   by_cases hf : f < 0
   · have hfe : f = -1 := by
       have := HP.out
       split at this <;> omega
     subst hfe
     clear hf
     go_wp2
     go_ret
     exact ⟨by rw [HF.out]; rfl, B2.out⟩
   · go_wp2
     go_ret
     exact ⟨by rw [HF.out]; rfl, B2.out⟩
set_option maxHeartbeats 2000000 in
theorem toRouteS_any (ra : Option Addr) (rc : Nat) (R : List RT) (w : World) (hA : RoutesAt w ra R) (hn : R.length <= 1048576) (hi : ∀ r ∈ R, r.ids.length <= 1048576) :
   Calls Tryz.prog 34 #[.slice ra R.length rc] w fun e w' => ∃ S, e = .returned (.slice (some ⟨w.heap.size, 0, none⟩) R.length R.length) /\ Below w.heap.size w w' /\ w'.heap[w.heap.size]? = some (.cells (rowR S).toArray 100 (0, 0)) /\ NewR w' (w.heap.size + 1) R S := by
 have HA : Hid (RoutesAt w ra R) := hA
 have HI : Hid (∀ r ∈ R, r.ids.length <= 1048576) := hi
 clear hA hi
 obtain ⟨n, HN⟩ : ∃ n, Hid (R.length = n) := ⟨_, rfl⟩
 rw [HN.out] at hn ⊢
 have hmk := fun W => make_rt W n hn
 go_enter Tryz.func34, Tryz.ntmps34
 go_wp2_with fail
 clear hmk
 go_loopw [4] (fun t wr => ∃ (k : Nat) (S : List RT), k <= n /\ t = .int .i64 k /\ Below w.heap.size w wr /\ w.heap.size < wr.heap.size /\ S.length = k /\ NewR wr (w.heap.size + 1) (R.take k) S /\ wr.heap[w.heap.size]? = some (.cells (rowR (S ++ List.replicate (n - k) rt0)).toArray 100 (0, 0))) (fun t _ => n - (intOf t).toNat)
 case atStart =>
   refine ⟨0, [], Nat.zero_le _, rfl, (Below.refl _ _).alloc (Nat.le_refl _) _, by simp, rfl, ⟨by simp, fun s hs => by simp at hs⟩, ?_⟩
   rw [List.nil_append, Nat.sub_zero]
   exact heap_alloc_new w _
 case round =>
   obtain ⟨k, S, hk, rfl, hb, hsz, hS, hN, hg⟩ := hrel
   have B1 : Hid (Below w.heap.size w wr) := hb
   have N1 : Hid (NewR wr (w.heap.size + 1) (R.take k) S) := hN
   have G1 : Hid (wr.heap[w.heap.size]? = some (.cells (rowR (S ++ List.replicate (n - k) rt0)).toArray 100 (0, 0))) := hg
   have HSk : Hid (S.length = k) := hS
   clear hb hN hg hS
   by_cases hlt : k < n
   · have hkn : (k : Int) < n := by omega
     obtain ⟨b, off, e, c1, c2, i3⟩ := (HA.out.below B1.out) k (by rw [HN.out]; exact hlt)
     have hkR : k < R.length := by rw [HN.out]; exact hlt
     have hmem : R.getD k rt0 ∈ R := by rw [List.getD_eq_getElem?_getD, List.getElem?_eq_getElem hkR]; simp
     have him := HI.out _ hmem
     have HTK : Hid (R.take (k + 1) = R.take k ++ [R.getD k rt0]) := by
       show _ = _
       rw [List.take_succ_eq_append_getElem hkR]
       simp [List.getD, hkR]
     subst e
     generalize R.getD k rt0 = r at *
     obtain ⟨rv, rra, rids, rcc⟩ := r
     simp only at c1 c2 i3 him
     have I3 : Hid (IntsAt wr rra rids) := i3
     clear i3 hmem
     go_wp2_with fail
     clear c1 c2
     refine (toRoute_any rv rra rcc rids wr I3.out him).mono ?_
     rintro e w2 ⟨g2, hg2, rfl, hb2, hr2⟩
     have B2 : Hid (Below w.heap.size w w2) := B1.out.trans (hb2.mono B1.out.size)
     have N2 : Hid (NewR w2 (w.heap.size + 1) (R.take k) S) := N1.out.below hb2
     have G2 : Hid (w2.heap[w.heap.size]? = some (.cells (rowR (S ++ List.replicate (n - k) rt0)).toArray 100 (0, 0))) := below_row hb2 (row_lt G1.out) G1.out
     have R2 : Hid (w2.heap[g2]? = some (.cells (cellsOf rids) 2 (0, 0))) := hr2
     have hsz2 : w.heap.size < w2.heap.size := by have := hb2.size; omega
     have hgw : w.heap.size + 1 <= g2 := by omega
     clear hb2 hr2 B1 N1 G1 I3
     obtain ⟨q1, q2⟩ := rowR_at (S ++ List.replicate (n - k) rt0) k (by simp [HSk.out]; omega)
     have f1 := cell_of_row _ _ (k * 2) _ _ _ G2.out
     have f2 := cell_of_row _ _ (k * 2 + 1) _ _ _ G2.out
     have ff := fun i => frozen_of_row _ _ i _ _ G2.out
     rw [List.getElem?_toArray] at f1 f2
     rw [q1] at f1
     rw [q2] at f2
     clear q1 q2
     have HNEW : Hid (((w2.setCell ⟨w.heap.size, k * 2, none⟩ (.int .i64 rv)).setCell ⟨w.heap.size, k * 2 + 1, none⟩ (.slice (some ⟨g2, 0, none⟩) rids.length rids.length)).heap[w.heap.size]? = some (.cells (rowR ((S ++ [(⟨rv, some ⟨g2, 0, none⟩, rids, rids.length⟩ : RT)]) ++ List.replicate (n - (k + 1)) rt0)).toArray 100 (0, 0))) := by
       show _ = _
       have s1 := heap_setCell_same w2 w.heap.size (k * 2) _ _ (.int .i64 rv) G2.out
       have s2 := heap_setCell_same _ w.heap.size (k * 2 + 1) _ _ (.slice (some ⟨g2, 0, none⟩) rids.length rids.length) s1
       rw [s2]
       have e := rowR_set (S ++ List.replicate (n - k) rt0) k ⟨rv, some ⟨g2, 0, none⟩, rids, rids.length⟩ (by simp [HSk.out]; omega)
       have e2 : (S ++ List.replicate (n - k) rt0).set k ⟨rv, some ⟨g2, 0, none⟩, rids, rids.length⟩ = (S ++ [(⟨rv, some ⟨g2, 0, none⟩, rids, rids.length⟩ : RT)]) ++ List.replicate (n - (k + 1)) rt0 := by
         rw [List.set_append_right _ _ (by rw [HSk.out]; exact Nat.le_refl _), HSk.out, Nat.sub_self, show n - k = (n - (k + 1)) + 1 by omega, List.replicate_succ, List.set_cons_zero, List.append_assoc]
         rfl
       rw [e2] at e
       rw [<- e]
       simp
     have HB3 : Hid (Below w.heap.size w ((w2.setCell ⟨w.heap.size, k * 2, none⟩ (.int .i64 rv)).setCell ⟨w.heap.size, k * 2 + 1, none⟩ (.slice (some ⟨g2, 0, none⟩) rids.length rids.length))) := (B2.out.setCell (Nat.le_refl _) _).setCell (Nat.le_refl _) _
     have HN3 : Hid (NewR ((w2.setCell ⟨w.heap.size, k * 2, none⟩ (.int .i64 rv)).setCell ⟨w.heap.size, k * 2 + 1, none⟩ (.slice (some ⟨g2, 0, none⟩) rids.length rids.length)) (w.heap.size + 1) (R.take (k + 1)) (S ++ [(⟨rv, some ⟨g2, 0, none⟩, rids, rids.length⟩ : RT)])) := by
       rw [HTK.out]
       refine ⟨by rw [List.map_append, List.map_append, N2.out.1]; rfl, fun s hs => ?_⟩
       have hkeep : ∀ g o, w.heap.size + 1 <= g -> w2.heap[g]? = some o -> ((w2.setCell ⟨w.heap.size, k * 2, none⟩ (.int .i64 rv)).setCell ⟨w.heap.size, k * 2 + 1, none⟩ (.slice (some ⟨g2, 0, none⟩) rids.length rids.length)).heap[g]? = some o := fun g o hg h => by
         rw [heap_setCell_other _ _ _ _ (by show g ≠ w.heap.size; omega), heap_setCell_other _ _ _ _ (by show g ≠ w.heap.size; omega)]
         exact h
       rcases List.mem_append.1 hs with hs | hs
       · obtain ⟨g, h1, h2, h3, h4⟩ := N2.out.2 s hs
         exact ⟨g, h1, h2, h3, hkeep g _ h2 h4⟩
       · have : s = ⟨rv, some ⟨g2, 0, none⟩, rids, rids.length⟩ := by simpa using hs
         subst this
         exact ⟨g2, rfl, hgw, rfl, hkeep g2 _ hgw R2.out⟩
     have hsz3 : w.heap.size < ((w2.setCell ⟨w.heap.size, k * 2, none⟩ (.int .i64 rv)).setCell ⟨w.heap.size, k * 2 + 1, none⟩ (.slice (some ⟨g2, 0, none⟩) rids.length rids.length)).heap.size := by simpa [World.setCell] using hsz2
     clear B2 N2 G2 R2
     go_wp2_with fail
     exact ⟨⟨k + 1, _, by omega, by first | rfl | go_num, HB3.out, hsz3, by simp [HSk.out], HN3.out, HNEW.out⟩, by simp [intOf]; omega⟩
   · have hkn : k = n := by omega
     subst hkn
     have HT : Hid (R.take k = R) := by show _ = _; rw [<- HN.out, List.take_length]
     rw [HT.out] at N1
     rw [Nat.sub_self, List.replicate_zero, List.append_nil] at G1
     go_wp2
     go_ret
     exact ⟨S, rfl, B1.out, G1.out, N1.out⟩
structure TP (w W : World) (src z out : Array Value) : Prop where
 b : Below w.heap.size w W
 s : W.heap[w.heap.size]? = some (.cells src 31 (0, 0))
 z : W.heap[w.heap.size + 1]? = some (.cells z 36 (0, 0))
 o : W.heap[w.heap.size + 1 + 1]? = some (.cells out 36 (0, 0))
theorem TP.below {w W W' : World} {src z out : Array Value} (h : TP w W src z out) (hb : Below W.heap.size W W') : TP w W' src z out :=
 ⟨h.b.trans (hb.mono h.b.size), below_row hb (row_lt h.s) h.s, below_row hb (row_lt h.z) h.z, below_row hb (row_lt h.o) h.o⟩
theorem TP.set {w W : World} {src z out : Array Value} (h : TP w W src z out) (i : Nat) (v : Value) : TP w (W.setCell ⟨w.heap.size + 1 + 1, i, none⟩ v) src z (out.setIfInBounds i v) :=
 ⟨h.b.setCell (by simp; omega) _, by rw [heap_setCell_other _ _ _ _ (by simp; omega)]; exact h.s, by rw [heap_setCell_other _ _ _ _ (by simp)]; exact h.z, heap_setCell_same _ _ _ _ _ _ h.o⟩
set_option maxHeartbeats 2000000 in
theorem toPlan_any (ra la : Option Addr) (rc lc : Nat) (R : List RT) (L : List Int) (w : World) (hA : RoutesAt w ra R) (hL : IntsAt w la L) (hn : R.length <= 1048576) (hi : ∀ r ∈ R, r.ids.length <= 1048576) (hll : L.length <= 1048576) :
   Calls Tryz.prog 10 #[.agg #[.slice ra R.length rc, .slice la L.length lc]] w fun e w' => ∃ g gl S, e = .returned (.agg #[.slice (some ⟨g, 0, none⟩) R.length R.length, .slice (some ⟨gl, 0, none⟩) L.length L.length]) /\ Below w.heap.size w w' /\ w.heap.size <= g /\ g < gl /\ w'.heap[g]? = some (.cells (rowR S).toArray 100 (0, 0)) /\ NewR w' (g + 1) R S /\ w'.heap[gl]? = some (.cells (cellsOf L) 2 (0, 0)) := by
 have HA : Hid (RoutesAt w ra R) := hA
 have HL : Hid (IntsAt w la L) := hL
 have HI : Hid (∀ r ∈ R, r.ids.length <= 1048576) := hi
 clear hA hL hi
 have T0 : Hid (TP w (((w.alloc (.cells #[.slice ra R.length rc, .slice la L.length lc] 31)).alloc (.cells #[.slice none 0 0, .slice none 0 0] 36)).alloc (.cells #[.slice none 0 0, .slice none 0 0] 36)) #[.slice ra R.length rc, .slice la L.length lc] #[.slice none 0 0, .slice none 0 0] #[.slice none 0 0, .slice none 0 0]) := by
   have h2 := heap_alloc_new ((w.alloc (.cells #[.slice ra R.length rc, .slice la L.length lc] 31)).alloc (.cells #[.slice none 0 0, .slice none 0 0] 36)) (.cells #[.slice none 0 0, .slice none 0 0] 36)
   have ha : Below (w.heap.size + 1 + 1) ((w.alloc (.cells #[.slice ra R.length rc, .slice la L.length lc] 31)).alloc (.cells #[.slice none 0 0, .slice none 0 0] 36)) (((w.alloc (.cells #[.slice ra R.length rc, .slice la L.length lc] 31)).alloc (.cells #[.slice none 0 0, .slice none 0 0] 36)).alloc (.cells #[.slice none 0 0, .slice none 0 0] 36)) := (Below.refl _ _).alloc (by simp) _
   exact ⟨(((Below.refl _ _).alloc (Nat.le_refl _) _).alloc (by simp) _).alloc (by simp; omega) _, (ha.block _ (by omega)).trans (heap_alloc2_old _ _ _), (ha.block _ (by omega)).trans (heap_alloc2_new _ _ _), by simpa using h2⟩
 go_enter Tryz.func10, Tryz.ntmps10
 obtain ⟨c0, c1⟩ := cells2 T0.out.s
 go_wp2_with fail
 clear c0 c1
 generalize ((w.alloc (.cells #[.slice ra R.length rc, .slice la L.length lc] 31)).alloc (.cells #[.slice none 0 0, .slice none 0 0] 36)).alloc (.cells #[.slice none 0 0, .slice none 0 0] 36) = W0 at *
 have hW0 := row_lt T0.out.o
 refine (toRouteS_any ra rc R W0 (HA.out.below T0.out.b) hn HI.out).mono ?_
 rintro e w1 ⟨S, rfl, hb, hg, hN⟩
 have T1 : Hid (TP w w1 _ _ _) := T0.out.below hb
 obtain ⟨g, HG⟩ : ∃ g, Hid (W0.heap.size = g) := ⟨_, rfl⟩
 rw [HG.out] at hg hN hW0 ⊢
 have G1 : Hid (w1.heap[g]? = some (.cells (rowR S).toArray 100 (0, 0))) := hg
 have N1 : Hid (NewR w1 (g + 1) R S) := hN
 have hg1 : g < w1.heap.size := row_lt hg
 clear T0 hb hg hN HG W0
 obtain ⟨x0, x1⟩ := cells2 T1.out.o
 obtain ⟨c0, c1⟩ := cells2 T1.out.s
 have f0 := fun i => frozen_of_row _ _ i _ _ T1.out.o
 go_wp2_with fail
 clear x0 x1 c0 c1 f0
 have T2 : Hid (TP w (w1.setCell ⟨w.heap.size + 1 + 1, 0, none⟩ (.slice (some ⟨g, 0, none⟩) R.length R.length)) #[.slice ra R.length rc, .slice la L.length lc] #[.slice none 0 0, .slice none 0 0] #[.slice (some ⟨g, 0, none⟩) R.length R.length, .slice none 0 0]) := by
   have := T1.out.set 0 (.slice (some ⟨g, 0, none⟩) R.length R.length)
   change TP w _ _ _ _
   simpa using this
 have G2 : Hid ((w1.setCell ⟨w.heap.size + 1 + 1, 0, none⟩ (.slice (some ⟨g, 0, none⟩) R.length R.length)).heap[g]? = some (.cells (rowR S).toArray 100 (0, 0))) := row_sets G1.out (by omega)
 have N2 : Hid (NewR (w1.setCell ⟨w.heap.size + 1 + 1, 0, none⟩ (.slice (some ⟨g, 0, none⟩) R.length R.length)) (g + 1) R S) := N1.out.set (by omega)
 have hg2 : g < (w1.setCell ⟨w.heap.size + 1 + 1, 0, none⟩ (.slice (some ⟨g, 0, none⟩) R.length R.length)).heap.size := row_lt G2.out
 clear T1 G1 N1 hg1
 generalize w1.setCell ⟨w.heap.size + 1 + 1, 0, none⟩ (.slice (some ⟨g, 0, none⟩) R.length R.length) = W2 at *
 refine (toInts_any la lc L W2 (HL.out.below T2.out.b) hll).mono ?_
 rintro e w3 ⟨rfl, hb, -, hr⟩
 have T3 : Hid (TP w w3 _ _ _) := T2.out.below hb
 have G3 : Hid (w3.heap[g]? = some (.cells (rowR S).toArray 100 (0, 0))) := below_row hb (row_lt G2.out) G2.out
 have N3 : Hid (NewR w3 (g + 1) R S) := N2.out.below hb
 obtain ⟨gl, HGL⟩ : ∃ g, Hid (W2.heap.size = g) := ⟨_, rfl⟩
 rw [HGL.out] at hr hg2 ⊢
 have L3 : Hid (w3.heap[gl]? = some (.cells (cellsOf L) 2 (0, 0))) := hr
 clear T2 G2 N2 hb hr HGL W2
 obtain ⟨x0, x1⟩ := cells2 T3.out.o
 obtain ⟨z0, z1⟩ := cells2 T3.out.z
 obtain ⟨c0, c1⟩ := cells2 T3.out.s
 have f0 := fun i => frozen_of_row _ _ i _ _ T3.out.o
 have f1 := fun i => frozen_of_row _ _ i _ _ T3.out.z
 go_wp2
 refine bodyPost_ret (v := .agg #[.slice (some ⟨g, 0, none⟩) R.length R.length, .slice (some ⟨gl, 0, none⟩) L.length L.length]) (by simp [results, Tryz.results10, go_sem, z0, z1]) rfl ⟨g, gl, S, rfl, ?_, by omega, hg2, ?_, ?_, ?_⟩
 · repeat (first | with_reducible exact T3.out.b | refine Below.setCell ?_ (by simp <;> omega) _)
 · repeat (first | with_reducible exact G3.out | refine row_sets ?_ (by omega))
 · repeat (first | with_reducible exact N3.out | refine NewR.set ?_ (by omega))
 · repeat (first | with_reducible exact L3.out | refine row_sets ?_ (by omega))
set_option maxHeartbeats 1000000 in
theorem eqRouteS_same (ra sa : Option Addr) (rc sc n : Nat) (R S : List RT) (w : World) (hA : RoutesAt w ra R) (hB : RoutesAt w sa S) (hk : S.map RT.key = R.map RT.key) (hR : R.length = n) (hn : n <= 1048576) (hi : ∀ r ∈ R, r.ids.length <= 1048576) :
   Calls Tryz.prog 39 #[.slice ra n rc, .slice sa n sc] w fun e w' => e = .returned (.bool true) /\ Below w.heap.size w w' := by
 have HA : Hid (RoutesAt w ra R) := hA
 have HB : Hid (RoutesAt w sa S) := hB
 have HK : Hid (S.map RT.key = R.map RT.key) := hk
 have HR : Hid (R.length = n) := hR
 have HS : Hid (S.length = n) := by show _ = _; rw [<- hR]; simpa using congrArg List.length hk
 have HI : Hid (∀ r ∈ R, r.ids.length <= 1048576) := hi
 clear hA hB hk hR hi
 go_enter Tryz.func39, Tryz.ntmps39
 go_wp2_with fail
 go_loopw [5] (fun ti wr => ∃ i : Nat, i <= n /\ ti = .int .i64 i /\ Below w.heap.size w wr) (fun ti _ => n - (intOf ti).toNat)
 case atStart => exact ⟨0, Nat.zero_le _, rfl, Below.refl _ _⟩
 case round =>
   obtain ⟨i, hi, rfl, hb⟩ := hrel
   have B1 : Hid (Below w.heap.size w wr) := hb
   clear hb
   by_cases hlt : i < n
   · obtain ⟨b1, o1, e1, c1, c2, i1⟩ := (HA.out.below B1.out) i (by rw [HR.out]; exact hlt)
     obtain ⟨b2, o2, e2, d1, d2, i2⟩ := (HB.out.below B1.out) i (by rw [HS.out]; exact hlt)
     have hkey := key_at HK.out i
     have him : (R.getD i rt0).ids.length <= 1048576 := HI.out _ (by
       have : i < R.length := by rw [HR.out]; exact hlt
       rw [List.getD_eq_getElem?_getD, List.getElem?_eq_getElem this]; simp)
     subst e1 e2
     generalize R.getD i rt0 = r at *
     generalize S.getD i rt0 = s at *
     obtain ⟨rv, rra, rids, rcc⟩ := r
     obtain ⟨sv, ssa, sids, scc⟩ := s
     simp only at hkey c1 c2 i1 d1 d2 i2 him
     obtain ⟨rfl, rfl⟩ := hkey
     have ER : Hid (∀ W, Below wr.heap.size wr W -> Calls Tryz.prog 79 #[.agg #[.int .i64 sv, .slice rra sids.length rcc], .agg #[.int .i64 sv, .slice ssa sids.length scc]] W fun e w' => e = .returned (.bool true) /\ Below W.heap.size W w') := fun W hb => eqRoute_same sv rra ssa rcc scc sids W (i1.below hb) (i2.below hb) (by omega)
     clear i1 i2
     have hin : (i : Int) < n := by omega
     have z1 := fun s : Kin wr => s.cell c1
     have z2 := fun s : Kin wr => s.cell c2
     have z3 := fun s : Kin wr => s.cell d1
     have z4 := fun s : Kin wr => s.cell d2
     have hkin := Kin.there wr
     generalize sids.length = m at *
     go_wp2_with fail
     refine wp_region_kin (by kernel_rfl) (by kernel_rfl) ?_
     repeat (go_big_quiet_step ((go_at_call 79; with_reducible exact Kin.call (ER.out _ (Kin.below _)))))
     refine wpQuiet_nil ?_
     rintro _ ⟨s1, rfl⟩
     clear z1 z2 z3 z4 hkin
     go_wp2
     go_roundw
     case rel => exact ⟨i + 1, by omega, by first | rfl | go_num, B1.out.trans (s1.below.mono B1.out.size)⟩
     case measure => simp [intOf]; omega
   · have hin : ¬ ((i : Int) < n) := by omega
     go_wp2
     go_ret
     exact ⟨rfl, B1.out⟩
set_option maxHeartbeats 1000000 in
theorem eqPlan_same (ra sa la ma : Option Addr) (rc sc n lc mc : Nat) (R S : List RT) (L : List Int) (w : World) (hA : RoutesAt w ra R) (hB : RoutesAt w sa S) (hk : S.map RT.key = R.map RT.key) (hR : R.length = n) (hn : n <= 1048576) (hi : ∀ r ∈ R, r.ids.length <= 1048576) (hL : IntsAt w la L) (hM : IntsAt w ma L) (hll : L.length <= 1048576) :
   Calls Tryz.prog 12 #[.agg #[.slice ra n rc, .slice la L.length lc], .agg #[.slice sa n sc, .slice ma L.length mc]] w fun e w' => e = .returned (.bool true) /\ Below w.heap.size w w' := by
 have HA : Hid (RoutesAt w ra R) := hA
 have HB : Hid (RoutesAt w sa S) := hB
 have HL : Hid (IntsAt w la L) := hL
 have HM : Hid (IntsAt w ma L) := hM
 have B0 : Hid (Below w.heap.size w ((w.alloc (.cells #[.slice ra n rc, .slice la L.length lc] 36)).alloc (.cells #[.slice sa n sc, .slice ma L.length mc] 36))) := ((Below.refl _ _).alloc (Nat.le_refl _) _).alloc (by simp) _
 have G0 : Hid (((w.alloc (.cells #[.slice ra n rc, .slice la L.length lc] 36)).alloc (.cells #[.slice sa n sc, .slice ma L.length mc] 36)).heap[w.heap.size]? = some (.cells #[.slice ra n rc, .slice la L.length lc] 36 (0, 0))) := heap_alloc2_old _ _ _
 have G1 : Hid (((w.alloc (.cells #[.slice ra n rc, .slice la L.length lc] 36)).alloc (.cells #[.slice sa n sc, .slice ma L.length mc] 36)).heap[w.heap.size + 1]? = some (.cells #[.slice sa n sc, .slice ma L.length mc] 36 (0, 0))) := heap_alloc2_new _ _ _
 clear hA hB hL hM
 obtain ⟨c0, c1⟩ := cells2 G0.out
 obtain ⟨d0, d1⟩ := cells2 G1.out
 go_enter Tryz.func12, Tryz.ntmps12
 go_wp2_with fail
 clear c0 c1 d0 d1
 generalize (w.alloc (.cells #[.slice ra n rc, .slice la L.length lc] 36)).alloc (.cells #[.slice sa n sc, .slice ma L.length mc] 36) = W0 at *
 refine (eqRouteS_same ra sa rc sc n R S W0 (HA.out.below B0.out) (HB.out.below B0.out) hk hR hn hi).mono ?_
 rintro e w1 ⟨rfl, hb⟩
 have B1 : Hid (Below w.heap.size w w1) := B0.out.trans (hb.mono B0.out.size)
 obtain ⟨c0, c1⟩ := cells2 (below_row hb (row_lt G0.out) G0.out)
 obtain ⟨d0, d1⟩ := cells2 (below_row hb (row_lt G1.out) G1.out)
 clear hb B0 G0 G1
 go_wp2_with fail
 clear c0 c1 d0 d1
 refine (eqInts_any la ma lc mc L L w1 (HL.out.below B1.out) (HM.out.below B1.out) (by omega)).mono ?_
 rintro e w2 ⟨rfl, hb⟩
 have B2 : Hid (Below w.heap.size w w2) := B1.out.trans (hb.mono B1.out.size)
 clear hb
 rw [show decide (L = L) = true from decide_eq_true rfl]
 go_wp2
 go_ret
 exact ⟨rfl, B2.out⟩
theorem eqPlan_at (g gl g2 gl2 : Nat) (S S2 R : List RT) (L : List Int) (w : World) (hP : PlanAt w g gl S R L) (hQ : PlanAt w g2 gl2 S2 R L) (hn : R.length <= 1048576) (hi : ∀ r ∈ R, r.ids.length <= 1048576) (hll : L.length <= 1048576) :
   Calls Tryz.prog 12 #[.agg #[.slice (some ⟨g, 0, none⟩) R.length R.length, .slice (some ⟨gl, 0, none⟩) L.length L.length], .agg #[.slice (some ⟨g2, 0, none⟩) R.length R.length, .slice (some ⟨gl2, 0, none⟩) L.length L.length]] w fun e w' => e = .returned (.bool true) /\ Below w.heap.size w w' :=
 eqPlan_same _ _ _ _ _ _ R.length _ _ S S2 L w hP.r hQ.r (hQ.k.trans hP.k.symm) (key_len hP.k) hn (key_ids hP.k hi) hP.l hQ.l hll
theorem toPlan_at (ra la : Option Addr) (rc lc : Nat) (R : List RT) (L : List Int) (w : World) (hA : RoutesAt w ra R) (hL : IntsAt w la L) (hn : R.length <= 1048576) (hi : ∀ r ∈ R, r.ids.length <= 1048576) (hll : L.length <= 1048576) :
   Calls Tryz.prog 10 #[.agg #[.slice ra R.length rc, .slice la L.length lc]] w fun e w' => ∃ g gl S, e = .returned (.agg #[.slice (some ⟨g, 0, none⟩) R.length R.length, .slice (some ⟨gl, 0, none⟩) L.length L.length]) /\ Below w.heap.size w w' /\ PlanAt w' g gl S R L :=
 (toPlan_any ra la rc lc R L w hA hL hn hi hll).mono fun _ _ ⟨g, gl, S, h1, h2, _, _, h5, h6, h7⟩ => ⟨g, gl, S, h1, h2, h5, h6, h7⟩
end Go.Proofs.YtfpegaldloadaaaGreat
