import Derived.Test.YtidhnmmhniiolaaPack3
import Derived.Test.YtidhnmmhniiolaaPack11
import Derived.Test.YtidhnmmhniiolaaSpecReadPlan
import Derived.Test.YtidhnmmhniiolaaPack16
namespace Go.Proofs.Ytidhnmmhniiolaa
open Go.RowKit

/-- What is read: routes and what is left. -/
def rdK (s : List UInt8) : List (Int × List Int) × List Int := match readF s with | some (R, L) => (R.map RT.key, L) | none => ([], [])
def rdB (s : List UInt8) : Bool := (readF s).isSome
theorem rdK_small (s : List UInt8) : (rdK s).1.length ≤ 5 ∧ (∀ x ∈ (rdK s).1, x.2.length ≤ 12) ∧ (rdK s).2.length ≤ 12 := by
  unfold rdK
  cases h : readF s with
  | none => simp
  | some q =>
    obtain ⟨R, L⟩ := q
    obtain ⟨h1, _, _⟩ := readF_is h
    obtain ⟨k1, k2, k3⟩ := (formB_iff R L).1 h1
    refine ⟨by simpa using k1, fun x hx => ?_, ((idsB_iff L).1 k2).1⟩
    obtain ⟨r, hr, rfl⟩ := List.mem_map.1 hx
    exact (k3 r hr).2.1
theorem PO.nil0 (w : World) (base : Nat) : PO w base (.slice none 0 0) [] (.slice none 0 0) [] := ⟨⟨by simp [rowR], .inl ⟨rfl, rfl⟩⟩, fun s hs => by simp at hs, ⟨by simp, .inl ⟨rfl, rfl⟩⟩⟩
theorem key_bare (S : List RT) : (S.map bare).map RT.key = S.map RT.key := by rw [List.map_map]; rfl
/-- What impl.ReadPlan answers, found or not. -/
theorem implRead_is {w w' : World} {s : List UInt8} {e : Ending} (h : ReadOk w s e w') : ∃ S ra rc la lc L, e = .returned (.tuple #[.agg #[.slice ra S.length rc, .slice la L.length lc], .bool (rdB s)]) ∧ Below w.heap.size w w' ∧ PO w' (w.heap.size + 3) (.slice ra S.length rc) S (.slice la L.length lc) L ∧ Apt S la ∧ S.map RT.key = (rdK s).1 ∧ L = (rdK s).2 := by
  rcases h with ⟨S, rs, ls, L, hr, rfl, hb, ho, la, lc, rfl, hap⟩ | ⟨hr, rfl, hb⟩
  · obtain ⟨ra, rc, e1, -⟩ := own_sl ho.r
    subst e1
    refine ⟨S, ra, rc, la, lc, L, ?_, hb, ho, hap, ?_, ?_⟩
    · unfold rdB; rw [hr]; rfl
    · unfold rdK; rw [hr]; exact (key_bare S).symm
    · unfold rdK; rw [hr]
  · refine ⟨[], none, 0, none, 0, [], ?_, hb, PO.nil0 _ _, by simp [Apt], ?_, ?_⟩
    · unfold rdB; rw [hr]; rfl
    · unfold rdK; rw [hr]; rfl
    · unfold rdK; rw [hr]
theorem specReadP_is {w w' : World} {s : List UInt8} {e : Ending} (h : SReadOk w s e w') : ∃ S ra rc la lc L, e = .returned (.tuple #[.agg #[.slice ra S.length rc, .slice la L.length lc], .bool (rdB s)]) ∧ Below w.heap.size w w' ∧ PO w' (w.heap.size + 1) (.slice ra S.length rc) S (.slice la L.length lc) L ∧ S.map RT.key = (rdK s).1 ∧ L = (rdK s).2 := by
  unfold SReadOk at h
  rw [specRead_is] at h
  rcases h with ⟨S, rs, ls, L, hr, rfl, hb, ho⟩ | ⟨hr, rfl, hb⟩
  · obtain ⟨ra, rc, e1, -⟩ := own_sl ho.r
    obtain ⟨la, lc, e2, -⟩ := own_sl ho.l
    subst e1 e2
    refine ⟨S, ra, rc, la, lc, L, ?_, hb, ho, ?_, ?_⟩
    · unfold rdB; rw [hr]; rfl
    · unfold rdK; rw [hr]; exact (key_bare S).symm
    · unfold rdK; rw [hr]
  · refine ⟨[], none, 0, none, 0, [], ?_, hb, PO.nil0 _ _, ?_, ?_⟩
    · unfold rdB; rw [hr]; rfl
    · unfold rdK; rw [hr]; rfl
    · unfold rdK; rw [hr]

/-- A plan of n routes and m that are left, of the call's own. -/
def PL (w : World) (base : Nat) (ra : Option Addr) (rc : Nat) (la : Option Addr) (lc n m : Nat) (S : List RT) (L : List Int) : Prop := PO w base (.slice ra n rc) S (.slice la m lc) L ∧ S.length = n ∧ L.length = m
theorem PL.below {w w' : World} {base rc lc n m : Nat} {ra la : Option Addr} {S : List RT} {L : List Int} (h : PL w base ra rc la lc n m S L) (hb : Below w.heap.size w w') : PL w' base ra rc la lc n m S L := ⟨h.1.below hb, h.2⟩
theorem PL.at {w : World} {base rc lc n m : Nat} {ra la : Option Addr} {S : List RT} {L : List Int} (h : PL w base ra rc la lc n m S L) : RoutesAt w ra S := by
  have := h.1
  rw [← h.2.1] at this
  exact this.at
theorem PL.lf {w : World} {base rc lc n m : Nat} {ra la : Option Addr} {S : List RT} {L : List Int} (h : PL w base ra rc la lc n m S L) : IntsAt w la L := by
  obtain ⟨la2, lc2, e, hi⟩ := h.1.lv
  simp only [Value.slice.injEq] at e
  rw [e.1]
  exact hi
theorem eqPL {w : World} {b1 b2 rc1 lc1 rc2 lc2 n m : Nat} {ra1 la1 ra2 la2 : Option Addr} {S1 S2 : List RT} {L : List Int} (h1 : PL w b1 ra1 rc1 la1 lc1 n m S1 L) (h2 : PL w b2 ra2 rc2 la2 lc2 n m S2 L) (hk : S2.map RT.key = S1.map RT.key) (hn : n ≤ 5) (hm : m ≤ 12) (hi : ∀ s ∈ S1, s.ids.length ≤ 12) :
    Calls Try.prog 6 #[.agg #[.slice ra1 n rc1, .slice la1 m lc1], .agg #[.slice ra2 n rc2, .slice la2 m lc2]] w fun e w' => e = .returned (.bool true) ∧ Below w.heap.size w w' := by
  have := eqPlan_same ra1 ra2 la1 la2 rc1 rc2 n lc1 lc2 S1 S2 L w h1.at h2.at hk h1.2.1 (by omega) (fun r hr => by have := hi r hr; omega) h1.lf h2.lf (by rw [h1.2.2]; omega)
  rw [h1.2.2] at this
  exact this
theorem PL.tops {w : World} {base rc lc n m : Nat} {ra la : Option Addr} {S : List RT} {L : List Int} (h : PL w base ra rc la lc n m S L) : (∀ g, ra = some ⟨g, 0, none⟩ → g < w.heap.size) ∧ (∀ a ∈ S.map RT.a, ∀ g, a = some ⟨g, 0, none⟩ → g < w.heap.size) ∧ (∀ g, la = some ⟨g, 0, none⟩ → g < w.heap.size) :=
  ⟨fun g e => (h.1.r.lt g (by rw [e]; rfl)).2, fun a ha g e => by
    obtain ⟨s, hs, rfl⟩ := List.mem_map.1 ha
    exact ((h.1.s s hs).lt g (by rw [e]; rfl)).2, fun g e => (h.1.l.lt g (by rw [e]; rfl)).2⟩

theorem own_keeps {w w' : World} {B base size n : Nat} {e : TypeId} {v : Value} {xs : List Value} (h : w.ownsRow base e size v n xs) (hb : Below B w w') (hk : ∀ k, v.ownBlock = some k → k < B) : w'.ownsRow base e size v n xs := by
  obtain ⟨h0, ⟨h1, h2⟩ | ⟨g, cap, cur, h2, h3, h4, h5⟩⟩ := h
  · exact ⟨h0, .inl ⟨h1, h2⟩⟩
  · refine ⟨h0, .inr ⟨g, cap, cur, h2, h3, ?_, h5⟩⟩
    rw [← h4]
    exact hb.block g (hk g (by rw [h2]; rfl))
/-- All blocks of the plan lie below B. -/
def LO (B : Nat) (ra : Option Addr) (rc : Nat) (la : Option Addr) (lc n m : Nat) (S : List RT) : Prop := (∀ k, (Value.slice ra n rc).ownBlock = some k → k < B) ∧ (∀ s ∈ S, ∀ k, (Value.slice s.a s.ids.length s.c).ownBlock = some k → k < B) ∧ ∀ k, (Value.slice la m lc).ownBlock = some k → k < B
theorem PL.low {w : World} {base rc lc n m : Nat} {ra la : Option Addr} {S : List RT} {L : List Int} (h : PL w base ra rc la lc n m S L) : LO w.heap.size ra rc la lc n m S := ⟨fun k e => (h.1.r.lt k e).2, fun s hs k e => ((h.1.s s hs).lt k e).2, fun k e => (h.1.l.lt k e).2⟩
theorem PL.keep {w w' : World} {B base rc lc n m : Nat} {ra la : Option Addr} {S : List RT} {L : List Int} (h : PL w base ra rc la lc n m S L) (hb : Below B w w') (lo : LO B ra rc la lc n m S) : PL w' base ra rc la lc n m S L := ⟨⟨own_keeps h.1.r hb lo.1, fun s hs => own_keeps (h.1.s s hs) hb (lo.2.1 s hs), own_keeps h.1.l hb lo.2.2⟩, h.2⟩

set_option maxHeartbeats 4000000 in
theorem lawReadPlan (s : List UInt8) (hs : s.length ≤ 9223372036854775807) (w : World) :
    Calls Try.prog 3 #[.string (txt s)] w fun e w' => e = .returned (.bool true) ∧ Below w.heap.size w w' := by
  have HS : Hid ((txt s).size = s.length) := txt_size s
  by_cases hb : 1048576 < s.length
  · have hb' : (1048576 : Int) < (txt s).size := by rw [HS.out]; omega
    generalize txt s = a at *
    go_enter Try.func3, Try.ntmps3
    go_wp2
    go_ret
    exact ⟨rfl, Below.refl _ _⟩
  have hb' : ¬ ((1048576 : Int) < (txt s).size) := by rw [HS.out]; omega
  have hsl : s.length ≤ 1048576 := by omega
  have CS : ∀ W, Calls Try.prog 4 #[.string (txt s)] W (SReadOk W s) := fun W => specReadPlan_any s W hsl
  have CI : ∀ W, Calls Try.prog 5 #[.string (txt s)] W (ReadOk W s) := fun W => implReadPlan_any s W (by omega)
  obtain ⟨hk1, hk2, hk3⟩ := rdK_small s
  obtain ⟨bb, HBB⟩ : ∃ b, Hid (rdB s = b) := ⟨_, rfl⟩
  obtain ⟨q, HQ⟩ : ∃ q, Hid (rdK s = q) := ⟨_, rfl⟩
  obtain ⟨KS, LS⟩ := q
  rw [HQ.out] at hk1 hk2 hk3
  simp only at hk1 hk2 hk3
  obtain ⟨n, HN⟩ : ∃ n, Hid (KS.length = n) := ⟨_, rfl⟩
  obtain ⟨m, HM⟩ : ∃ m, Hid (LS.length = m) := ⟨_, rfl⟩
  rw [HN.out] at hk1
  rw [HM.out] at hk3
  have HK2 : Hid (∀ x ∈ KS, x.2.length ≤ 12) := hk2
  have CS2 : Hid (∀ W, Calls Try.prog 4 #[.string (txt s)] W fun e w' => ∃ S ra rc la lc, e = .returned (.tuple #[.agg #[.slice ra n rc, .slice la m lc], .bool bb]) ∧ Below W.heap.size W w' ∧ PL w' (W.heap.size + 1) ra rc la lc n m S LS ∧ S.map RT.key = KS) := fun W => (CS W).mono fun e w' h => by
    obtain ⟨S, ra, rc, la, lc, L, h1, h2, h3, h4, h5⟩ := specReadP_is h
    rw [HQ.out] at h4 h5
    simp only at h4 h5
    subst h5
    have hn : S.length = n := by rw [← HN.out, ← h4]; simp
    rw [hn, HM.out] at h1 h3
    rw [HBB.out] at h1
    exact ⟨S, ra, rc, la, lc, h1, h2, ⟨h3, hn, HM.out⟩, h4⟩
  have CI2 : Hid (∀ W, Calls Try.prog 5 #[.string (txt s)] W fun e w' => ∃ S ra rc la lc, e = .returned (.tuple #[.agg #[.slice ra n rc, .slice la m lc], .bool bb]) ∧ Below W.heap.size W w' ∧ PL w' (W.heap.size + 3) ra rc la lc n m S LS ∧ Apt S la ∧ S.map RT.key = KS ∧ ∀ s ∈ S, s.ids.length ≤ 12) := fun W => (CI W).mono fun e w' h => by
    obtain ⟨S, ra, rc, la, lc, L, h1, h2, h3, hap, h4, h5⟩ := implRead_is h
    rw [HQ.out] at h4 h5
    simp only at h4 h5
    subst h5
    have hn : S.length = n := by rw [← HN.out, ← h4]; simp
    rw [hn, HM.out] at h1 h3
    rw [HBB.out] at h1
    exact ⟨S, ra, rc, la, lc, h1, h2, ⟨h3, hn, HM.out⟩, hap, h4, fun s hs => HK2.out s.key (by rw [← h4]; exact List.mem_map_of_mem hs)⟩
  clear CS CI hk2
  generalize txt s = a at *
  go_enter Try.func3, Try.ntmps3
  go_wp2_with fail
  refine (CS2.out w).mono ?_
  rintro e w1 ⟨S0, ra0, rc0, la0, lc0, rfl, hb1, hp1, hk0⟩
  have HK0 : Hid (S0.map RT.key = KS) := hk0
  have A1 : Hid (Below w1.heap.size w1 (w1.alloc (.cells #[.slice ra0 n rc0, .slice la0 m lc0] 25))) := (Below.refl _ _).alloc (Nat.le_refl _) _
  have B1 : Hid (Below w.heap.size w (w1.alloc (.cells #[.slice ra0 n rc0, .slice la0 m lc0] 25))) := hb1.trans (A1.out.mono hb1.size)
  have P1 : Hid (PL (w1.alloc (.cells #[.slice ra0 n rc0, .slice la0 m lc0] 25)) (w.heap.size + 1) ra0 rc0 la0 lc0 n m S0 LS) := hp1.below A1.out
  have X1 : Hid ((w1.alloc (.cells #[.slice ra0 n rc0, .slice la0 m lc0] 25)).heap[w1.heap.size]? = some (.cells #[.slice ra0 n rc0, .slice la0 m lc0] 25 (0, 0))) := heap_alloc_new _ _
  have HLOW : Hid (LO (w1.alloc (.cells #[.slice ra0 n rc0, .slice la0 m lc0] 25)).heap.size ra0 rc0 la0 lc0 n m S0) := P1.out.low
  have HBW : Hid (w.heap.size ≤ (w1.alloc (.cells #[.slice ra0 n rc0, .slice la0 m lc0] 25)).heap.size) := B1.out.size
  have Z1 : Hid (w1.heap.size < (w1.alloc (.cells #[.slice ra0 n rc0, .slice la0 m lc0] 25)).heap.size) := row_lt X1.out
  clear hb1 hp1 hk0 A1
  go_wp2_with fail
  generalize (w1.alloc (.cells #[.slice ra0 n rc0, .slice la0 m lc0] 25)) = W1 at *
  generalize w1.heap.size = b3 at *
  refine (CI2.out W1).mono ?_
  rintro e w2 ⟨S1, ra1, rc1, la1, lc1, rfl, hb2, hp2, hap, hk1', hi1⟩
  have HK1 : Hid (S1.map RT.key = KS) := hk1'
  have HI1 : Hid (∀ s ∈ S1, s.ids.length ≤ 12) := hi1
  have HAP : Hid (Apt S1 la1) := hap
  have HTP : Hid _ := PL.tops hp2
  have A2 : Hid (Below w2.heap.size w2 (w2.alloc (.cells #[.slice ra1 n rc1, .slice la1 m lc1] 25))) := (Below.refl _ _).alloc (Nat.le_refl _) _
  have BX : Below W1.heap.size W1 (w2.alloc (.cells #[.slice ra1 n rc1, .slice la1 m lc1] 25)) := hb2.trans (A2.out.mono hb2.size)
  have B2 : Hid (Below w.heap.size w (w2.alloc (.cells #[.slice ra1 n rc1, .slice la1 m lc1] 25))) := B1.out.trans (BX.mono B1.out.size)
  have P2 : Hid (PL (w2.alloc (.cells #[.slice ra1 n rc1, .slice la1 m lc1] 25)) (w.heap.size + 1) ra0 rc0 la0 lc0 n m S0 LS) := P1.out.below BX
  have G2 : Hid (PL (w2.alloc (.cells #[.slice ra1 n rc1, .slice la1 m lc1] 25)) (W1.heap.size + 3) ra1 rc1 la1 lc1 n m S1 LS) := hp2.below A2.out
  have X2 : Hid ((w2.alloc (.cells #[.slice ra1 n rc1, .slice la1 m lc1] 25)).heap[b3]? = some (.cells #[.slice ra0 n rc0, .slice la0 m lc0] 25 (0, 0))) := below_row BX (row_lt X1.out) X1.out
  have Y2 : Hid ((w2.alloc (.cells #[.slice ra1 n rc1, .slice la1 m lc1] 25)).heap[w2.heap.size]? = some (.cells #[.slice ra1 n rc1, .slice la1 m lc1] 25 (0, 0))) := heap_alloc_new _ _
  have HB5 : Hid (W1.heap.size ≤ w2.heap.size) := hb2.size
  clear hb2 hp2 hap hk1' hi1 A2 BX B1 P1 X1
  obtain ⟨x0, x1⟩ := cells2 X2.out
  obtain ⟨y0, y1⟩ := cells2 Y2.out
  have hbb : (bb != bb) = false := by simp
  go_wp2_with fail
  clear x0 x1 y0 y1
  generalize (w2.alloc (.cells #[.slice ra1 n rc1, .slice la1 m lc1] 25)) = W2 at *
  generalize w2.heap.size = b5 at *
  refine (eqPL G2.out P2.out (HK0.out.trans HK1.out.symm) hk1 hk3 HI1.out).mono ?_
  rintro e w3 ⟨rfl, hb3⟩
  have B3 : Hid (Below w.heap.size w w3) := B2.out.trans (hb3.mono B2.out.size)
  have P3 : Hid (PL w3 (w.heap.size + 1) ra0 rc0 la0 lc0 n m S0 LS) := P2.out.below hb3
  have G3 : Hid (PL w3 (W1.heap.size + 3) ra1 rc1 la1 lc1 n m S1 LS) := G2.out.below hb3
  have X3 : Hid (w3.heap[b3]? = some (.cells #[.slice ra0 n rc0, .slice la0 m lc0] 25 (0, 0))) := below_row hb3 (row_lt X2.out) X2.out
  have Y3 : Hid (w3.heap[b5]? = some (.cells #[.slice ra1 n rc1, .slice la1 m lc1] 25 (0, 0))) := below_row hb3 (row_lt Y2.out) Y2.out
  clear hb3 B2 P2 G2 X2 Y2
  obtain ⟨y0, y1⟩ := cells2 Y3.out
  go_wp2_with fail
  clear y0 y1
  have MK := markPlan_own ra1 la1 n rc1 m lc1 (W1.heap.size + 3) 1 S1 LS w3 G3.out.1 G3.out.2.1 G3.out.2.2 HAP.out (by omega) (by omega) (fun s hs => by have := HI1.out s hs; omega) (by omega) (by omega) b5 (Nat.le_of_lt (row_lt Y3.out)) HTP.out.1 HTP.out.2.1 HTP.out.2.2
  have hmk := mkK_bd S1 1 (fun s hs => by have := HI1.out s hs; omega)
  rw [G3.out.2.1] at hmk
  have HSN : Hid (S1.length = n) := G3.out.2.1
  obtain ⟨K, HKK⟩ : ∃ k, Hid (mkK S1 1 = k) := ⟨_, rfl⟩
  rw [HKK.out] at MK hmk
  refine MK.mono ?_
  rintro e w4 ⟨rfl, hg4, hp4⟩
  have BG : Hid (Below W1.heap.size w3 w4) := hg4.below (by have h9 := row_lt Y3.out; have := HB5.out; omega) (fun b hb => by omega)
  have B4 : Hid (Below w.heap.size w w4) := B3.out.trans (BG.out.mono HBW.out)
  have M4 : Hid (PO w4 (W1.heap.size + 3) (.slice ra1 n rc1) (mkS S1 1) (.slice la1 m lc1) (seqL (mkK S1 1) m)) := by rw [HKK.out]; exact hp4
  have X4 : Hid (w4.heap[b3]? = some (.cells #[.slice ra0 n rc0, .slice la0 m lc0] 25 (0, 0))) := hg4.row X3.out (fun h => by have := Z1.out; omega)
  have Y4 : Hid (w4.heap[b5]? = some (.cells #[.slice ra1 n rc1, .slice la1 m lc1] 25 (0, 0))) := hg4.row Y3.out (fun h => by omega)
  have P4 : Hid (PL w4 (w.heap.size + 1) ra0 rc0 la0 lc0 n m S0 LS) := P3.out.keep BG.out HLOW.out
  have CH : Hid (∀ W, PO W (W1.heap.size + 3) (.slice ra1 n rc1) (mkS S1 1) (.slice la1 m lc1) (seqL (mkK S1 1) m) → Calls Try.prog 8 #[.agg #[.slice ra1 n rc1, .slice la1 m lc1], .int .i64 1] W fun e w' => e = .returned (.int .i64 (K + (m : Int))) ∧ Below W.heap.size W w') := fun W h => by
    have := heldPlan_own ra1 la1 n rc1 m lc1 (W1.heap.size + 3) 1 S1 W h HSN.out (by omega) (by omega) (fun s hs => by have := HI1.out s hs; omega) (by omega) (by omega)
    rw [HKK.out] at this
    exact this
  clear hg4 hp4 B3 P3 G3 X3 Y3 MK HTP BG
  obtain ⟨M, HMM⟩ : ∃ x, Hid (K + (m : Int) = x) := ⟨_, rfl⟩
  rw [HMM.out] at CH ⊢
  have hM : 0 ≤ M := by have := HMM.out; omega
  have hM0 : ¬ (M < 0) := by omega
  clear hmk
  obtain ⟨y0, y1⟩ := cells2 Y4.out
  go_wp2_with fail
  clear y0 y1
  refine (CH.out w4 M4.out).mono ?_
  rintro e w5 ⟨rfl, hb5⟩
  have B5 : Hid (Below w.heap.size w w5) := B4.out.trans (hb5.mono B4.out.size)
  have P5 : Hid (PL w5 (w.heap.size + 1) ra0 rc0 la0 lc0 n m S0 LS) := P4.out.below hb5
  have M5 : Hid (PO w5 (W1.heap.size + 3) (.slice ra1 n rc1) (mkS S1 1) (.slice la1 m lc1) (seqL (mkK S1 1) m)) := M4.out.below hb5
  have X5 : Hid (w5.heap[b3]? = some (.cells #[.slice ra0 n rc0, .slice la0 m lc0] 25 (0, 0))) := below_row hb5 (row_lt X4.out) X4.out
  have Y5 : Hid (w5.heap[b5]? = some (.cells #[.slice ra1 n rc1, .slice la1 m lc1] 25 (0, 0))) := below_row hb5 (row_lt Y4.out) Y4.out
  clear hb5 B4 P4 M4 X4 Y4
  go_wp2_with fail
  refine (CI2.out w5).mono ?_
  rintro e w6 ⟨S2, ra2, rc2, la2, lc2, rfl, hb6, hp6, -, hk6, hi6⟩
  have HK6 : Hid (S2.map RT.key = KS) := hk6
  have HI6 : Hid (∀ s ∈ S2, s.ids.length ≤ 12) := hi6
  have A6 : Hid (Below w6.heap.size w6 (w6.alloc (.cells #[.slice ra2 n rc2, .slice la2 m lc2] 25))) := (Below.refl _ _).alloc (Nat.le_refl _) _
  have BX : Below w5.heap.size w5 (w6.alloc (.cells #[.slice ra2 n rc2, .slice la2 m lc2] 25)) := hb6.trans (A6.out.mono hb6.size)
  have B6 : Hid (Below w.heap.size w (w6.alloc (.cells #[.slice ra2 n rc2, .slice la2 m lc2] 25))) := B5.out.trans (BX.mono B5.out.size)
  have P6 : Hid (PL (w6.alloc (.cells #[.slice ra2 n rc2, .slice la2 m lc2] 25)) (w.heap.size + 1) ra0 rc0 la0 lc0 n m S0 LS) := P5.out.below BX
  have G6 : Hid (PL (w6.alloc (.cells #[.slice ra2 n rc2, .slice la2 m lc2] 25)) (w5.heap.size + 3) ra2 rc2 la2 lc2 n m S2 LS) := hp6.below A6.out
  have M6 : Hid (PO (w6.alloc (.cells #[.slice ra2 n rc2, .slice la2 m lc2] 25)) (W1.heap.size + 3) (.slice ra1 n rc1) (mkS S1 1) (.slice la1 m lc1) (seqL (mkK S1 1) m)) := M5.out.below BX
  have X6 : Hid ((w6.alloc (.cells #[.slice ra2 n rc2, .slice la2 m lc2] 25)).heap[b3]? = some (.cells #[.slice ra0 n rc0, .slice la0 m lc0] 25 (0, 0))) := below_row BX (row_lt X5.out) X5.out
  have Y6 : Hid ((w6.alloc (.cells #[.slice ra2 n rc2, .slice la2 m lc2] 25)).heap[b5]? = some (.cells #[.slice ra1 n rc1, .slice la1 m lc1] 25 (0, 0))) := below_row BX (row_lt Y5.out) Y5.out
  have Z6 : Hid ((w6.alloc (.cells #[.slice ra2 n rc2, .slice la2 m lc2] 25)).heap[w6.heap.size]? = some (.cells #[.slice ra2 n rc2, .slice la2 m lc2] 25 (0, 0))) := heap_alloc_new _ _
  clear hb6 hp6 hk6 hi6 A6 BX B5 P5 M5 X5 Y5
  obtain ⟨x0, x1⟩ := cells2 X6.out
  obtain ⟨y0, y1⟩ := cells2 Z6.out
  go_wp2_with fail
  clear x0 x1 y0 y1
  generalize (w6.alloc (.cells #[.slice ra2 n rc2, .slice la2 m lc2] 25)) = W6 at *
  generalize w6.heap.size = b9 at *
  refine (eqPL G6.out P6.out (HK0.out.trans HK6.out.symm) hk1 hk3 HI6.out).mono ?_
  rintro e w7 ⟨rfl, hb7⟩
  have B7 : Hid (Below w.heap.size w w7) := B6.out.trans (hb7.mono B6.out.size)
  have M7 : Hid (PO w7 (W1.heap.size + 3) (.slice ra1 n rc1) (mkS S1 1) (.slice la1 m lc1) (seqL (mkK S1 1) m)) := M6.out.below hb7
  have Y7 : Hid (w7.heap[b5]? = some (.cells #[.slice ra1 n rc1, .slice la1 m lc1] 25 (0, 0))) := below_row hb7 (row_lt Y6.out) Y6.out
  clear hb7 B6 P6 G6 M6 X6 Y6 Z6
  obtain ⟨y0, y1⟩ := cells2 Y7.out
  go_wp2_with fail
  clear y0 y1
  refine (CH.out w7 M7.out).mono ?_
  rintro e w8 ⟨rfl, hb8⟩
  have B8 : Hid (Below w.heap.size w w8) := B7.out.trans (hb8.mono B7.out.size)
  clear hb8 B7 M7 Y7
  go_wp2_with fail
  go_ret
  exact ⟨rfl, B8.out⟩

end Go.Proofs.Ytidhnmmhniiolaa
