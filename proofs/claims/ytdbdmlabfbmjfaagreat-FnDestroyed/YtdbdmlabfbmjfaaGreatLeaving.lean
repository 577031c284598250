import Derived.Test.YtdbdmlabfbmjfaaGreatPack1
import Derived.Test.YtdbdmlabfbmjfaaGreatPack3
import Derived.Test.YtdbdmlabfbmjfaaGreatPack4
import Derived.Test.YtdbdmlabfbmjfaaGreatWithRoute
import Derived.Test.YtdbdmlabfbmjfaaGreatPack27
import Derived.Test.YtdbdmlabfbmjfaaGreatPack28
import Derived.Test.YtdbdmlabfbmjfaaGreatInsOne
import Derived.Test.YtdbdmlabfbmjfaaGreatPack30
import Derived.Deep.RegionHeld3
namespace Go.Proofs.YtdbdmlabfbmjfaaGreat
open Go.RowKit
def LeaveOk (w : World) (R : List RT) (L : List Int) (id : Int) (r : RT) (at_ : Nat) (e : Ending) (w' : World) : Prop :=
 ∃ (g c g2 c2 k : Nat) (rs : Value), e = .returned (.agg #[rs, .slice (some ⟨g2, 0, none⟩) (L.length + 1) c2]) /\ Below w.heap.size w w' /\ AtI L id k ∧
   w'.ownsRow w.heap.size 2 1 (.slice (some ⟨g, 0, none⟩) (remL r.ids at_).length c) (remL r.ids at_).length ((remL r.ids at_).map (Value.int .i64)) ∧
   w'.ownsRow w.heap.size 57 2 rs (wrL R ⟨r.v, some ⟨g, 0, none⟩, remL r.ids at_, c⟩).length (rowR (wrL R ⟨r.v, some ⟨g, 0, none⟩, remL r.ids at_, c⟩)) ∧
   w'.ownsRow w.heap.size 2 1 (.slice (some ⟨g2, 0, none⟩) (L.length + 1) c2) (L.length + 1) ((insL L k id).map (Value.int .i64))
theorem keepL {w1 X : World} {b o : Nat} {v : Value} (hc : w1.cell? ⟨b, o, none⟩ = some v) (hb : Below w1.heap.size w1 X) : X.cell? ⟨b, o, none⟩ = some v := by
 rw [hb.cell (p := ⟨b, o, none⟩) (block_lt_of_cell hc)]; exact hc
theorem own_offL {W : World} {base size n : Nat} {e : TypeId} {v : Value} {xs : List Value} (h : W.ownsRow base e size v n xs) {b : Nat} (j : Nat) (x : Value) (hb : v.ownBlock ≠ some b) : (W.setCell ⟨b, j, none⟩ x).ownsRow base e size v n xs := h.kept (grown_set W b j x) (.inr hb)
theorem own_formL {w : World} {base n size : Nat} {e : TypeId} {v : Value} {xs : List Value} (h : w.ownsRow base e size v n xs) : ∃ a c, v = .slice a n c := by
 rcases own_kinds h with ⟨h1, h2⟩ | ⟨g9, c9, h1, _⟩
 · exact ⟨none, 0, by rw [h1, h2]⟩
 · exact ⟨_, c9, h1⟩
theorem own_rowL {W : World} {base size n : Nat} {e : TypeId} {v : Value} {xs : List Value} {z : Nat} (h : W.ownsRow base e size v n xs) (hz : v.ownBlock = some z) : ∃ cs, W.heap[z]? = some (.cells cs e (0, 0)) := by
 obtain ⟨_, ⟨h1, _⟩ | ⟨g, cap, cur, h2, _, h4, _⟩⟩ := h
 · subst h1; cases hz
 · subst h2; cases hz; exact ⟨cur, h4⟩
theorem sizePl2 : (Tryz.prog.info? 33).map (·.size) = some 2 := by kernel_rfl
set_option maxHeartbeats 8000000 in
set_option maxRecDepth 20000 in
theorem leaving_any (ra la : Option Addr) (n rc l lc k : Nat) (R : List RT) (L : List Int) (id : Int) (w : World) (hR : RoutesAt w ra R) (hn : R.length = n) (bn : n <= 100) (hS : Rises R) (hra : (ra = none /\ R.length = 0) ∨ ∃ b off, ra = some ⟨b, off, none⟩) (hL : IntsAt w la L) (hl : L.length = l) (bl : l <= 12) (hU : UpI L) (hla : (la = none /\ l = 0) ∨ ∃ b off, la = some ⟨b, off, none⟩)
   (hids : ∀ j, j < R.length -> (R.getD j rt0).ids.length <= 12) (hk : k < R.length) (hno : ∀ j, j < k -> idxV (R.getD j rt0).ids (R.getD j rt0).ids.length id < 0) (at_ : Nat) (hat : idxV (R.getD k rt0).ids (R.getD k rt0).ids.length id = at_) (hin : at_ < (R.getD k rt0).ids.length) :
   Calls Tryz.prog 46 #[.agg #[.slice ra n rc, .slice la l lc], .int .i64 id] w (LeaveOk w R L id (R.getD k rt0) at_) := by
 have B0 : Hid (Below w.heap.size w ((w.alloc (.cells #[.slice ra n rc, .slice la l lc] 33)).alloc (.cells #[.slice none 0 0, .slice none 0 0] 33))) := ((Below.refl _ _).alloc (Nat.le_refl _) _).alloc (by simp) _
 have P0 : Hid (((w.alloc (.cells #[.slice ra n rc, .slice la l lc] 33)).alloc (.cells #[.slice none 0 0, .slice none 0 0] 33)).heap[w.heap.size]? = some (.cells #[.slice ra n rc, .slice la l lc] 33 (0, 0))) := heap_alloc2_old _ _ _
 have Q0 : Hid (((w.alloc (.cells #[.slice ra n rc, .slice la l lc] 33)).alloc (.cells #[.slice none 0 0, .slice none 0 0] 33)).heap[w.heap.size + 1]? = some (.cells #[.slice none 0 0, .slice none 0 0] 33 (0, 0))) := heap_alloc2_new _ _ _
 have HR : Hid (RoutesAt w ra R) := hR
 have HL : Hid (IntsAt w la L) := hL
 have HN : Hid (R.length = n) := hn
 have HLL : Hid (L.length = l) := hl
 have HS : Hid (Rises R) := hS
 have HU : Hid (UpI L) := hU
 have HRA : Hid ((ra = none /\ R.length = 0) ∨ ∃ b off, ra = some ⟨b, off, none⟩) := hra
 have HLA : Hid ((la = none /\ l = 0) ∨ ∃ b off, la = some ⟨b, off, none⟩) := hla
 have ST : Hid (∀ W, Below w.heap.size w W -> Calls Tryz.prog 66 #[.agg #[.slice ra n rc, .slice la l lc], .int .i64 id] W fun e w' => e = .returned (.tuple #[.agg #[.int .i64 (R.getD k rt0).v, .slice (R.getD k rt0).a (R.getD k rt0).ids.length (R.getD k rt0).c], .int .i64 at_, .bool true]) /\ Below W.heap.size W w') := fun W hW => by
   have h := stopOf_any ra la rc l lc R id W (HR.out.below hW) (by rw [HN.out]; omega) (fun j hj => by have := hids j hj; omega)
   rw [HN.out] at h
   refine h.mono fun e w' ⟨hs, hb⟩ => ⟨?_, hb⟩
   rcases hs with ⟨k', hk', hno', hy', he⟩ | ⟨hno', he⟩
   · have hkk : k' = k := by
       rcases Nat.lt_trichotomy k' k with h1 | h1 | h1
       · have := hno k' h1; omega
       · exact h1
       · have := hno' k h1; omega
     subst hkk
     rw [he, hat]
   · have := hno' k hk
     omega
 obtain ⟨b, off, e0, c0, c1, hI0⟩ := HR.out k hk
 clear c0 c1 e0 b off
 have HI0 : Hid (IntsAt w (R.getD k rt0).a (R.getD k rt0).ids) := hI0
 have h12 := hids k hk
 clear hI0 hids hno hk hR hL hS hU hra hla hn hl hat
 generalize R.getD k rt0 = r at *
 obtain ⟨rv, xa, ids, xc⟩ := r
 simp only at ST HI0 h12 hin ⊢
 obtain ⟨sl, HSL⟩ : ∃ v, Hid (ids.length = v) := ⟨_, rfl⟩
 obtain ⟨M, HM⟩ : ∃ v, Hid (remL ids at_ = v) := ⟨_, rfl⟩
 obtain ⟨rl, HRL⟩ : ∃ v, Hid (M.length = v) := ⟨_, rfl⟩
 have hrl : rl <= 12 := by
   rw [<- HRL.out, <- HM.out, remL_length hin]
   omega
 rw [HSL.out] at ST
 have TK : Hid (∀ W p, Below w.heap.size w W -> W.cell? ⟨p, 0, none⟩ = some (.int .i64 at_) -> Calls Tryz.prog 88 #[.slice xa sl xc, .pointer (some ⟨p, 0, none⟩)] W fun e w' => ∃ g cap, e = .returned (.tuple #[.slice (some ⟨g, 0, none⟩) rl cap, .bool true]) /\ Below W.heap.size W w' /\ w'.ownsRow W.heap.size 2 1 (.slice (some ⟨g, 0, none⟩) rl cap) rl (M.map (Value.int .i64))) := fun W p hW hp => by
   have h := takeOut_any p at_ xa xc ids W hp (HI0.out.below hW) (by omega)
   have hb : inB (at_ : Int) 0 ((ids.length : Int) - 1) = true := inB_mk (by omega)
   rw [hb, Int.toNat_natCast, HM.out, HSL.out] at h
   refine h.mono ?_
   rintro e w' ⟨hb, ⟨h, _⟩ | ⟨_, g, cap, he, ho⟩⟩
   · cases h
   · rw [HRL.out] at he ho
     exact ⟨g, cap, he, hb, ho⟩
 have WR : Hid (∀ W g cap, Below w.heap.size w W -> Calls Tryz.prog 68 #[.agg #[.slice ra n rc, .slice la l lc], .agg #[.int .i64 rv, .slice (some ⟨g, 0, none⟩) rl cap]] W fun e w' => ∃ sl, e = .returned (.agg #[sl, .slice la l lc]) /\ Below W.heap.size W w' /\ w'.ownsRow W.heap.size 57 2 sl (wrL R ⟨rv, some ⟨g, 0, none⟩, M, cap⟩).length (rowR (wrL R ⟨rv, some ⟨g, 0, none⟩, M, cap⟩))) := fun W g cap hW => by
   have h := withRoute_any ra la rc l lc R ⟨rv, some ⟨g, 0, none⟩, M, cap⟩ W (HR.out.below hW) (by rw [HN.out]; omega) HS.out HRA.out (by show M.length <= 1000; rw [HRL.out]; omega)
   simp only [HN.out, HRL.out] at h
   exact h
 have BS : Hid (∀ W, Below w.heap.size w W -> Calls Tryz.prog 69 #[.slice la l lc, .int .i64 id] W (BinOk L id W)) := fun W hW => binInts_any la l lc L id W (HL.out.below hW) HLL.out (by omega) HU.out
 have CL : Hid (∀ W, Below w.heap.size w W -> Calls Tryz.prog 47 #[.slice la l lc] W fun e w' => ∃ sl, e = .returned sl /\ Below W.heap.size W w' /\ w'.ownsRow W.heap.size 2 1 sl l (L.map (Value.int .i64))) := fun W hW => clone_any la lc l L W (HL.out.below hW) HLL.out (by omega) HLA.out
 obtain ⟨p1, p2⟩ := cells2 P0.out
 go_enter Tryz.func46, Tryz.ntmps46
 go_wp2_with fail
 clear p1 p2
 generalize (w.alloc (.cells #[.slice ra n rc, .slice la l lc] 33)).alloc (.cells #[.slice none 0 0, .slice none 0 0] 33) = W0 at *
 obtain ⟨q, HQ⟩ : ∃ v, Hid (w.heap.size = v) := ⟨_, rfl⟩
 obtain ⟨q1, HQ1⟩ : ∃ v, Hid (w.heap.size + 1 = v) := ⟨_, rfl⟩
 rw [HQ1.out] at Q0 ⊢
 rw [HQ.out] at P0
 try rw [HQ.out]
 refine (ST.out W0 B0.out).mono ?_
 rintro e w1 ⟨rfl, hb⟩
 have A2 : Below w1.heap.size w1 (w1.alloc (.cells #[.int .i64 rv, .slice xa sl xc] 57)) := (Below.refl _ _).alloc (Nat.le_refl _) _
 have b2 : Below W0.heap.size W0 (w1.alloc (.cells #[.int .i64 rv, .slice xa sl xc] 57)) := hb.trans (A2.mono hb.size)
 have B2 : Hid (Below w.heap.size w (w1.alloc (.cells #[.int .i64 rv, .slice xa sl xc] 57))) := B0.out.trans (b2.mono B0.out.size)
 have P2 : Hid ((w1.alloc (.cells #[.int .i64 rv, .slice xa sl xc] 57)).heap[q]? = some (.cells #[.slice ra n rc, .slice la l lc] 33 (0, 0))) := below_row b2 (row_lt P0.out) P0.out
 have Q2 : Hid ((w1.alloc (.cells #[.int .i64 rv, .slice xa sl xc] 57)).heap[q1]? = some (.cells #[.slice none 0 0, .slice none 0 0] 33 (0, 0))) := below_row b2 (row_lt Q0.out) Q0.out
 have R2 : Hid ((w1.alloc (.cells #[.int .i64 rv, .slice xa sl xc] 57)).heap[w1.heap.size]? = some (.cells #[.int .i64 rv, .slice xa sl xc] 57 (0, 0))) := heap_alloc_new _ _
 clear hb A2 b2 P0 Q0 ST
 go_wp2_with fail
 generalize w1.alloc (.cells #[.int .i64 rv, .slice xa sl xc] 57) = W2 at *
 generalize w1.heap.size = b5 at *
 obtain ⟨x0, x1⟩ := cells2 R2.out
 have kS := x1
 go_region_held3 (fun W => W.cell? ⟨b5, 1, none⟩ = some (.slice xa sl xc)) (first | with_reducible exact kS | go_keep) ((first
   | (go_at_call 67
      with_reducible refine (takingOut_any at_ W2.drew).mono ?_
      rintro e w3 ⟨p, hp, rfl, hb, hc⟩
      have D3 : Hid (Below W2.heap.size W2 w3) := (Below.refl _ _).drew.trans (show Below W2.heap.size W2.drew w3 from hb)
      have C3 : Hid (w3.cell? ⟨p, 0, none⟩ = some (.int .i64 at_)) := hc
      have kS := keepL x1 D3.out
      clear hb hc)
   | (go_at_call 88
      with_reducible refine (TK.out w3 p (B2.out.trans (D3.out.mono B2.out.size)) C3.out).mono ?_
      rintro e w4 ⟨g, cg, rfl, hb, ho⟩
      have D4 : Hid (Below W2.heap.size W2 w4) := D3.out.trans (hb.mono D3.out.size)
      have M4 : Hid (w4.ownsRow w.heap.size 2 1 (.slice (some ⟨g, 0, none⟩) rl cg) rl (M.map (Value.int .i64))) := own_bse ho (B2.out.trans (D3.out.mono B2.out.size)).size
      have kS := keepL x1 D4.out
      clear hb ho)))
 all_goals
   clear kS x0 x1
   have B4 : Hid (Below w.heap.size w w4) := B2.out.trans (D4.out.mono B2.out.size)
   have P4 : Hid (w4.heap[q]? = some (.cells #[.slice ra n rc, .slice la l lc] 33 (0, 0))) := below_row D4.out (row_lt P2.out) P2.out
   have Q4 : Hid (w4.heap[q1]? = some (.cells #[.slice none 0 0, .slice none 0 0] 33 (0, 0))) := below_row D4.out (row_lt Q2.out) Q2.out
   have R4 : Hid (w4.heap[b5]? = some (.cells #[.int .i64 rv, .slice xa sl xc] 57 (0, 0))) := below_row D4.out (row_lt R2.out) R2.out
   clear B2 P2 Q2 R2 D4
   obtain ⟨p1, p2⟩ := cells2 P4.out
   obtain ⟨x0, x1⟩ := cells2 R4.out
   go_wp2_with fail
   clear p1 p2 x0 x1
   refine (WR.out w4 g cg B4.out).mono ?_
   rintro e w5 ⟨rs, rfl, hb, ho⟩
   obtain ⟨N9, HN9⟩ : ∃ v, Hid (wrL R ⟨rv, some ⟨g, 0, none⟩, M, cg⟩ = v) := ⟨_, rfl⟩
   rw [HN9.out] at ho
   obtain ⟨n9, HN9L⟩ : ∃ v, Hid (N9.length = v) := ⟨_, rfl⟩
   rw [HN9L.out] at ho
   obtain ⟨ra9, rc9, hrs⟩ := own_formL ho
   subst hrs
   have A5 : Below w5.heap.size w5 (w5.alloc (.cells #[.slice ra9 n9 rc9, .slice la l lc] 33)) := (Below.refl _ _).alloc (Nat.le_refl _) _
   have b5' : Below w4.heap.size w4 (w5.alloc (.cells #[.slice ra9 n9 rc9, .slice la l lc] 33)) := hb.trans (A5.mono hb.size)
   have B5 : Hid (Below w.heap.size w (w5.alloc (.cells #[.slice ra9 n9 rc9, .slice la l lc] 33))) := B4.out.trans (b5'.mono B4.out.size)
   have P5 : Hid ((w5.alloc (.cells #[.slice ra9 n9 rc9, .slice la l lc] 33)).heap[q]? = some (.cells #[.slice ra n rc, .slice la l lc] 33 (0, 0))) := below_row b5' (row_lt P4.out) P4.out
   have Q5 : Hid ((w5.alloc (.cells #[.slice ra9 n9 rc9, .slice la l lc] 33)).heap[q1]? = some (.cells #[.slice none 0 0, .slice none 0 0] 33 (0, 0))) := below_row b5' (row_lt Q4.out) Q4.out
   have N5 : Hid ((w5.alloc (.cells #[.slice ra9 n9 rc9, .slice la l lc] 33)).heap[w5.heap.size]? = some (.cells #[.slice ra9 n9 rc9, .slice la l lc] 33 (0, 0))) := heap_alloc_new _ _
   have M5 : Hid ((w5.alloc (.cells #[.slice ra9 n9 rc9, .slice la l lc] 33)).ownsRow w.heap.size 2 1 (.slice (some ⟨g, 0, none⟩) rl cg) rl (M.map (Value.int .i64))) := own_blw M4.out b5'
   have O5 : Hid ((w5.alloc (.cells #[.slice ra9 n9 rc9, .slice la l lc] 33)).ownsRow w.heap.size 57 2 (.slice ra9 n9 rc9) n9 (rowR N9)) := own_blw (own_bse ho B4.out.size) A5
   have LM : Hid (∀ z, (Value.slice (some ⟨g, 0, none⟩) rl cg).ownBlock = some z -> w.heap.size <= z /\ z < w5.heap.size /\ z ≠ q1) := fun z hz => by
     have h1 := M4.out.lt z hz
     have h2 := hb.size
     refine ⟨h1.1, by omega, fun e => ?_⟩
     subst e
     obtain ⟨g', h3⟩ := own_rowL M4.out hz
     rw [Q4.out] at h3
     cases h3
   have LO5 : Hid (∀ z, (Value.slice ra9 n9 rc9).ownBlock = some z -> w4.heap.size <= z /\ z < w5.heap.size) := fun z hz => ho.lt z hz
   have SZ : Hid (q1 < w4.heap.size /\ w4.heap.size <= w5.heap.size) := ⟨row_lt Q4.out, hb.size⟩
   clear hb ho A5 b5' B4 P4 Q4 R4 M4
   obtain ⟨p1, p2⟩ := cells2 P5.out
   go_wp2_with fail
   clear p1 p2
   have SW5 : Hid ((w5.alloc (.cells #[.slice ra9 n9 rc9, .slice la l lc] 33)).heap.size = w5.heap.size + 1) := by show _ = _; simp
   generalize w5.alloc (.cells #[.slice ra9 n9 rc9, .slice la l lc] 33) = W5 at *
   generalize w5.heap.size = b10 at *
   refine (BS.out W5 B5.out).mono ?_
   rintro e wq ⟨kp, bf, rfl, hat9, hw⟩
   rw [hw]
   clear hw wq
   have HAT : Hid (AtI L id kp) := hat9
   clear hat9
   obtain ⟨p1, p2⟩ := cells2 P5.out
   go_wp2_with fail
   clear p1 p2
   refine (CL.out W5 B5.out).mono ?_
   rintro e w7 ⟨sl7, rfl, hb7, ho7⟩
   obtain ⟨la7, lc7, hsl⟩ := own_formL ho7
   subst hsl
   have V7 : Hid ((w7.alloc (.cells #[.int .i64 id] 2)).heap[w7.heap.size]? = some (.cells #[.int .i64 id] 2 (0, 0))) := heap_alloc_new _ _
   have A7 : Below w7.heap.size w7 (w7.alloc (.cells #[.int .i64 id] 2)) := (Below.refl _ _).alloc (Nat.le_refl _) _
   have D7 : Hid (Below W5.heap.size W5 (w7.alloc (.cells #[.int .i64 id] 2))) := hb7.trans (A7.mono hb7.size)
   have O7 : Hid ((w7.alloc (.cells #[.int .i64 id] 2)).ownsRow W5.heap.size 2 1 (.slice la7 l lc7) l (L.map (Value.int .i64))) := own_blw ho7 A7
   have H7 : Hid ((Value.slice la7 l lc7).ownBlock ≠ some w7.heap.size) := fun e => by have := (ho7.lt _ e).2; omega
   clear A7 hb7 ho7
   go_wp2_with fail
   generalize w7.alloc (.cells #[.int .i64 id] 2) = W7 at *
   generalize w7.heap.size = b7 at *
   refine (insert_one (.slice la7 l lc7) kp b7 W5.heap.size l id L W7 HLL.out O7.out D7.out.size V7.out H7.out (by have := HAT.out.le; rw [HLL.out] at this; exact this) (by omega)).mono ?_
   rintro e w8 ⟨g2, c2, rfl, hb8, ho8⟩
   have D8 : Hid (Below W5.heap.size W5 w8) := D7.out.trans hb8
   have L8 : Hid (w8.ownsRow W5.heap.size 2 1 (.slice (some ⟨g2, 0, none⟩) (l + 1) c2) (l + 1) ((insL L kp id).map (Value.int .i64))) := ho8
   clear hb8 ho8 O7 D7 V7 H7
   have Q8 : Hid (w8.heap[q1]? = some (.cells #[.slice none 0 0, .slice none 0 0] 33 (0, 0))) := below_row D8.out (row_lt Q5.out) Q5.out
   have N8 : Hid (w8.heap[b10]? = some (.cells #[.slice ra9 n9 rc9, .slice la l lc] 33 (0, 0))) := below_row D8.out (row_lt N5.out) N5.out
   have hqb : q1 ≠ b10 := by have := SZ.out; omega
   have hqw : w.heap.size <= q1 := by have := HQ1.out; omega
   have hbw : w.heap.size <= b10 := by have := SZ.out; omega
   obtain ⟨l1, HL1⟩ : ∃ v, Hid (l + 1 = v) := ⟨_, rfl⟩
   have N9' : Hid ((w8.setCell ⟨b10, 1, none⟩ (.slice (some ⟨g2, 0, none⟩) l1 c2)).heap[b10]? = some (.cells #[.slice ra9 n9 rc9, .slice (some ⟨g2, 0, none⟩) l1 c2] 33 (0, 0))) := by
     have := heap_setCell_same w8 b10 1 _ _ (.slice (some ⟨g2, 0, none⟩) l1 c2) N8.out
     show _ = _
     simpa using this
   have Q9 : Hid ((w8.setCell ⟨b10, 1, none⟩ (.slice (some ⟨g2, 0, none⟩) l1 c2)).heap[q1]? = some (.cells #[.slice none 0 0, .slice none 0 0] 33 (0, 0))) := grown_row (grown_set w8 b10 1 _) Q8.out (fun e => by injection e with e; exact hqb e)
   have ROW : Hid ((((w8.setCell ⟨b10, 1, none⟩ (.slice (some ⟨g2, 0, none⟩) l1 c2)).setCell ⟨q1, 0, none⟩ (.slice ra9 n9 rc9)).setCell ⟨q1, 1, none⟩ (.slice (some ⟨g2, 0, none⟩) l1 c2)).heap[q1]? = some (.cells #[.slice ra9 n9 rc9, .slice (some ⟨g2, 0, none⟩) l1 c2] 33 (0, 0))) := by
     have := heap_setCell_same _ q1 1 _ _ (.slice (some ⟨g2, 0, none⟩) l1 c2) (heap_setCell_same _ q1 0 _ _ (.slice ra9 n9 rc9) Q9.out)
     show _ = _
     simpa using this
   have TOLD : Hid (LeaveOk w R L id ⟨rv, xa, ids, xc⟩ at_ (.returned (.agg #[.slice ra9 n9 rc9, .slice (some ⟨g2, 0, none⟩) l1 c2])) (((w8.setCell ⟨b10, 1, none⟩ (.slice (some ⟨g2, 0, none⟩) l1 c2)).setCell ⟨q1, 0, none⟩ (.slice ra9 n9 rc9)).setCell ⟨q1, 1, none⟩ (.slice (some ⟨g2, 0, none⟩) l1 c2))) := by
     have m8 := own_blw M5.out D8.out
     have o8 := own_blw O5.out D8.out
     have l8 := L8.out
     rw [HL1.out] at l8
     have nm : ∀ z, (Value.slice (some ⟨g, 0, none⟩) rl cg).ownBlock = some z -> z ≠ b10 /\ z ≠ q1 := fun z hz => by have := LM.out z hz; exact ⟨by omega, this.2.2⟩
     have no : ∀ z, (Value.slice ra9 n9 rc9).ownBlock = some z -> z ≠ b10 /\ z ≠ q1 := fun z hz => by have := LO5.out z hz; have := SZ.out; exact ⟨by omega, by omega⟩
     have nl : ∀ z, (Value.slice (some ⟨g2, 0, none⟩) l1 c2).ownBlock = some z -> z ≠ b10 /\ z ≠ q1 := fun z hz => by have := (l8.lt z hz).1; have := SW5.out; have := SZ.out; exact ⟨by omega, by omega⟩
     refine ⟨g, cg, g2, c2, kp, .slice ra9 n9 rc9, by rw [HLL.out, HL1.out], ?_, HAT.out, ?_, ?_, ?_⟩
     · exact ((B5.out.trans (D8.out.mono B5.out.size)).setCell hbw _).setCell hqw _ |>.setCell hqw _
     · show World.ownsRow _ _ _ _ (.slice (some ⟨g, 0, none⟩) (remL ids at_).length cg) (remL ids at_).length ((remL ids at_).map (Value.int .i64))
       rw [HM.out, HRL.out]
       exact own_offL (own_offL (own_offL m8 _ _ (fun e => (nm _ e).1 rfl)) _ _ (fun e => (nm _ e).2 rfl)) _ _ (fun e => (nm _ e).2 rfl)
     · show World.ownsRow _ _ _ _ _ (wrL R ⟨rv, some ⟨g, 0, none⟩, remL ids at_, cg⟩).length (rowR (wrL R ⟨rv, some ⟨g, 0, none⟩, remL ids at_, cg⟩))
       rw [HM.out, HN9.out, HN9L.out]
       exact own_offL (own_offL (own_offL o8 _ _ (fun e => (no _ e).1 rfl)) _ _ (fun e => (no _ e).2 rfl)) _ _ (fun e => (no _ e).2 rfl)
     · rw [HLL.out, HL1.out]
       exact own_bse (own_offL (own_offL (own_offL l8 _ _ (fun e => (nl _ e).1 rfl)) _ _ (fun e => (nl _ e).2 rfl)) _ _ (fun e => (nl _ e).2 rfl)) B5.out.size
   obtain ⟨y0, y1⟩ := cells2 N8.out
   have yf := fun i => frozen_of_row _ _ i _ _ N8.out
   obtain ⟨z0, z1⟩ := cells2 N9'.out
   obtain ⟨v0, v1⟩ := cells2 Q9.out
   have vf := fun i => frozen_of_row _ _ i _ _ Q9.out
   rw [HL1.out]
   clear Q8 N8 Q9 N9' Q5 N5 M5 O5 L8 D8 LM LO5
   go_wp2
   exact bodyPost_ret (v := .agg #[.slice ra9 n9 rc9, .slice (some ⟨g2, 0, none⟩) l1 c2]) (results_cell_row Tryz.results46 _ _ q1 33 _ (0, 0) _ (by rfl) ROW.out Tryz.underlying33 rfl sizePl2) (by rfl) TOLD.out
end Go.Proofs.YtdbdmlabfbmjfaaGreat
