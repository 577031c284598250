import Derived.Test.YtidhnmmhniiolaaDoorPack1
import Derived.Test.YtidhnmmhniiolaaDoorDrawTexts
import Derived.Test.YtidhnmmhniiolaaDoorSamePlan
namespace Go.Proofs.YtidhnmmhniiolaaDoor
open Go.RowKit

set_option maxHeartbeats 400000 in
theorem lawFnPlanTexts_big (a : Option Addr) (c len : Nat) (w : World) (hl : len ≤ 9223372036854775807) (h : 1048576 < len) :
    Calls Tryd.prog 3 #[.slice a len c] w fun e w' => e = .returned (.bool true) ∧ Below w.heap.size w w' := by
  have hd : decide (1048576 < len) = true := decide_eq_true h
  go_enter Tryd.func3, Tryd.ntmps3
  go_wp2_with (go_at_call 4; refine (big_any a c len w hl).mono ?_; rintro e w1 ⟨rfl, hw1⟩; subst w1; rw [hd])
  go_ret
  exact ⟨rfl, Below.refl _ _⟩

set_option maxRecDepth 10000 in
set_option maxHeartbeats 4000000 in
theorem lawFnPlanTexts (a : Option Addr) (ca : Nat) (bs : List Int) (w : World) (hA : CodeAt w a bs) (hl : bs.length ≤ 1048576) (hT : PW w) :
    Calls Tryd.prog 3 #[.slice a bs.length ca] w fun e w' => e = .returned (.bool true) ∧ Below w.heap.size w w' := by
  have HA : Hid (CodeAt w a bs) := hA
  have HPW : Hid (PW w) := hT
  clear hA hT
  have hd : decide (1048576 < bs.length) = false := decide_eq_false (by omega)
  go_enter Tryd.func3, Tryd.ntmps3
  go_wp2_with fail
  refine (big_any a ca bs.length w (by omega)).mono ?_
  rintro e w1 ⟨rfl, hw1⟩
  subst w1
  rw [hd]
  clear hd
  go_wp2_with fail
  refine (drawPlanText_any a ca bs w HA.out hl).mono ?_
  rintro e w1 ⟨ra, la, rc, lc, n, m, R, L, rfl, hn, hi, hm, hb1, hp1⟩
  obtain ⟨N, HLb⟩ : ∃ v, Hid (bs.length = v) := ⟨_, rfl⟩
  have CDR : Hid (∀ W, CodeAt W a bs → Calls Tryd.prog 10 #[.slice a N ca] W fun e w' => ∃ s : List UInt8, e = .returned (.string (txt s)) ∧ s.length ≤ 2002 ∧ Below W.heap.size W w') := fun W h => by
    have := drawReadPlan_any a ca bs W h hl
    rw [HLb.out] at this
    exact this
  rw [HLb.out] at hl ⊢
  have HI : Hid (∀ r ∈ R, r.ids.length ≤ 9) := hi
  obtain ⟨s, HS⟩ : ∃ s, Hid (plTx R L = s) := ⟨_, rfl⟩
  have hsl : s.length ≤ 2000 := by rw [← HS.out]; exact plTx_len R L
  have hrd := rd_of R L
  rw [HS.out] at hrd
  have HRK : Hid (rdB s = true → rdK s = (R.map RT.key, L)) := fun h => hrd.2 (by rw [← hrd.1]; exact h)
  have HNE : Hid ((txt s).toList.isEmpty = !(rdB s)) := by
    show _ = _
    have h1 := plTx_nil R L
    rw [HS.out, ← hrd.1] at h1
    rw [txt_none]
    cases hb : rdB s with
    | false => rw [h1.2 hb]; simp
    | true =>
      rw [decide_eq_false (fun h => by have := h1.1 h; rw [hb] at this; cases this)]
      rfl
  have CI : Hid (∀ W, Calls Tryd.prog 7 #[.string (txt s)] W fun e w' => ∃ S ra rc la lc n m L, e = .returned (.tuple #[.agg #[.slice ra n rc, .slice la m lc], .bool (rdB s)]) ∧ Below W.heap.size W w' ∧ PL w' (W.heap.size + 3) ra rc la lc n m S L ∧ (n ≤ 5 ∧ m ≤ 12 ∧ ∀ r ∈ S, r.ids.length ≤ 12) ∧ S.map RT.key = (rdK s).1 ∧ L = (rdK s).2) := fun W => implReadPL s W (by omega)
  have A1 : Hid (Below w1.heap.size w1 (w1.alloc (.cells #[.slice ra n rc, .slice la m lc] 27))) := (Below.refl _ _).alloc (Nat.le_refl _) _
  have B1 : Hid (Below w.heap.size w (w1.alloc (.cells #[.slice ra n rc, .slice la m lc] 27))) := hb1.trans (A1.out.mono hb1.size)
  have P1 : Hid (PL (w1.alloc (.cells #[.slice ra n rc, .slice la m lc] 27)) w.heap.size ra rc la lc n m R L) := hp1.below A1.out
  have X1 : Hid ((w1.alloc (.cells #[.slice ra n rc, .slice la m lc] 27)).heap[w1.heap.size]? = some (.cells #[.slice ra n rc, .slice la m lc] 27 (0, 0))) := heap_alloc_new _ _
  clear hb1 hp1 hi A1 hrd
  obtain ⟨x0, x1⟩ := cells2 X1.out
  go_wp2_with fail
  clear x0 x1
  generalize (w1.alloc (.cells #[.slice ra n rc, .slice la m lc] 27)) = W1 at *
  generalize w1.heap.size = k1 at *
  refine (implTextPL P1.out (by omega) (by omega) (fun r hr => by have := HI.out r hr; omega) (HPW.out.below B1.out (Nat.le_refl _))).mono ?_
  rintro e w2 ⟨rfl, hb2⟩
  rw [HS.out]
  have B2 : Hid (Below w.heap.size w w2) := B1.out.trans (hb2.mono B1.out.size)
  have P2 : Hid (PL w2 w.heap.size ra rc la lc n m R L) := P1.out.below hb2
  have X2 : Hid (w2.heap[k1]? = some (.cells #[.slice ra n rc, .slice la m lc] 27 (0, 0))) := below_row hb2 (row_lt X1.out) X1.out
  clear hb2 B1 P1 X1
  obtain ⟨bb, HBB⟩ : ∃ v, Hid (rdB s = v) := ⟨_, rfl⟩
  obtain ⟨tx, HTX⟩ : ∃ v, Hid (txt s = v) := ⟨_, rfl⟩
  rw [HBB.out] at CI HNE
  rw [HTX.out] at CI HNE ⊢
  go_wp2_with fail
  refine (CI.out w2).mono ?_
  rintro e w3 ⟨S1, ra1, rc1, la1, lc1, n1, m1, L1, rfl, hb3, hp3, -, hk3, hl3⟩
  have A3 : Hid (Below w3.heap.size w3 (w3.alloc (.cells #[.slice ra1 n1 rc1, .slice la1 m1 lc1] 27))) := (Below.refl _ _).alloc (Nat.le_refl _) _
  have BX : Below w2.heap.size w2 (w3.alloc (.cells #[.slice ra1 n1 rc1, .slice la1 m1 lc1] 27)) := hb3.trans (A3.out.mono hb3.size)
  have B3 : Hid (Below w.heap.size w (w3.alloc (.cells #[.slice ra1 n1 rc1, .slice la1 m1 lc1] 27))) := B2.out.trans (BX.mono B2.out.size)
  have P3 : Hid (PL (w3.alloc (.cells #[.slice ra1 n1 rc1, .slice la1 m1 lc1] 27)) w.heap.size ra rc la lc n m R L) := P2.out.below BX
  have Q3 : Hid (PL (w3.alloc (.cells #[.slice ra1 n1 rc1, .slice la1 m1 lc1] 27)) (w2.heap.size + 3) ra1 rc1 la1 lc1 n1 m1 S1 L1) := hp3.below A3.out
  have X3 : Hid ((w3.alloc (.cells #[.slice ra1 n1 rc1, .slice la1 m1 lc1] 27)).heap[k1]? = some (.cells #[.slice ra n rc, .slice la m lc] 27 (0, 0))) := below_row BX (row_lt X2.out) X2.out
  have Y3 : Hid ((w3.alloc (.cells #[.slice ra1 n1 rc1, .slice la1 m1 lc1] 27)).heap[w3.heap.size]? = some (.cells #[.slice ra1 n1 rc1, .slice la1 m1 lc1] 27 (0, 0))) := heap_alloc_new _ _
  have HK3 : Hid (bb = true → S1.map RT.key = R.map RT.key ∧ L1 = L) := fun h => by
    have h9 := HRK.out (by rw [HBB.out]; exact h)
    rw [h9] at hk3 hl3
    exact ⟨hk3, hl3⟩
  clear hb3 hp3 hk3 hl3 A3 BX B2 P2 X2
  obtain ⟨x0, x1⟩ := cells2 X3.out
  go_wp2_with fail
  clear x0 x1
  generalize (w3.alloc (.cells #[.slice ra1 n1 rc1, .slice la1 m1 lc1] 27)) = W3 at *
  generalize w3.heap.size = k3 at *
  refine (specTextPL P3.out (by omega) (by omega) (fun r hr => by have := HI.out r hr; omega)).mono ?_
  rintro e w4 ⟨rfl, hb4⟩
  rw [HS.out, HTX.out]
  have B4 : Hid (Below w.heap.size w w4) := B3.out.trans (hb4.mono B3.out.size)
  have P4 : Hid (PL w4 w.heap.size ra rc la lc n m R L) := P3.out.below hb4
  have Q4 : Hid (PL w4 (w2.heap.size + 3) ra1 rc1 la1 lc1 n1 m1 S1 L1) := Q3.out.below hb4
  have X4 : Hid (w4.heap[k1]? = some (.cells #[.slice ra n rc, .slice la m lc] 27 (0, 0))) := below_row hb4 (row_lt X3.out) X3.out
  have Y4 : Hid (w4.heap[k3]? = some (.cells #[.slice ra1 n1 rc1, .slice la1 m1 lc1] 27 (0, 0))) := below_row hb4 (row_lt Y3.out) Y3.out
  clear hb4 B3 P3 Q3 X3 Y3 CI
  have htt : (tx.toList == tx.toList) = true := beq_self_eq_true _
  have hne := HNE.out
  cases bb
  · simp only [Bool.not_false] at hne
    go_wp2_with fail
    have B5 : Hid (Below w.heap.size w w4) := B4.out
    clear B4 P4 Q4 X4 Y4 hne htt
    generalize w4 = w5 at *
    refine (CDR.out w5 (HA.out.blw B5.out)).mono ?_
    rintro e w6 ⟨s2, rfl, hs2, hb6⟩
    have CI2 : Hid (∀ W, Calls Tryd.prog 7 #[.string (txt s2)] W fun e w' => ∃ S ra rc la lc n m L, e = .returned (.tuple #[.agg #[.slice ra n rc, .slice la m lc], .bool (rdB s2)]) ∧ Below W.heap.size W w' ∧ PL w' (W.heap.size + 3) ra rc la lc n m S L ∧ (n ≤ 5 ∧ m ≤ 12 ∧ ∀ r ∈ S, r.ids.length ≤ 12) ∧ S.map RT.key = (rdK s2).1 ∧ L = (rdK s2).2) := fun W => implReadPL s2 W (by omega)
    have CS2 : Hid (∀ W, Calls Tryd.prog 11 #[.string (txt s2)] W fun e w' => ∃ ra rc la lc n m, e = .returned (.tuple #[.agg #[.slice ra n rc, .slice la m lc], .bool (rdB s2)]) ∧ Below W.heap.size W w') := fun W => specReadPL s2 W (by omega)
    have HBK : Hid (∀ (S : List RT) (L : List Int), rdB s2 = true → S.map RT.key = (rdK s2).1 → L = (rdK s2).2 → txt (plTx S L) = txt s2) := fun S L h1 h2 h3 => by rw [rd_back h1 h2 h3]
    have B6 : Hid (Below w.heap.size w w6) := B5.out.trans (hb6.mono B5.out.size)
    clear hb6 hs2 B5
    obtain ⟨b2, HB2⟩ : ∃ v, Hid (rdB s2 = v) := ⟨_, rfl⟩
    obtain ⟨t2, HT2⟩ : ∃ v, Hid (txt s2 = v) := ⟨_, rfl⟩
    rw [HB2.out, HT2.out] at CI2 CS2
    rw [HT2.out] at ⊢
    go_wp2_with fail
    refine (CI2.out w6).mono ?_
    rintro e w7 ⟨S3, ra3, rc3, la3, lc3, n3, m3, L3, rfl, hb7, hp7, ⟨hn3, hm3, hi3⟩, hk3, hl3⟩
    have HI3 : Hid (∀ r ∈ S3, r.ids.length ≤ 12) := hi3
    have HK3 : Hid (S3.map RT.key = (rdK s2).1 ∧ L3 = (rdK s2).2) := ⟨hk3, hl3⟩
    have A7 : Hid (Below w7.heap.size w7 (w7.alloc (.cells #[.slice ra3 n3 rc3, .slice la3 m3 lc3] 27))) := (Below.refl _ _).alloc (Nat.le_refl _) _
    have B7 : Hid (Below w.heap.size w (w7.alloc (.cells #[.slice ra3 n3 rc3, .slice la3 m3 lc3] 27))) := (B6.out.trans (hb7.mono B6.out.size)).trans (A7.out.mono (Nat.le_trans B6.out.size hb7.size))
    have P7 : Hid (PL (w7.alloc (.cells #[.slice ra3 n3 rc3, .slice la3 m3 lc3] 27)) (w6.heap.size + 3) ra3 rc3 la3 lc3 n3 m3 S3 L3) := hp7.below A7.out
    have X7 : Hid ((w7.alloc (.cells #[.slice ra3 n3 rc3, .slice la3 m3 lc3] 27)).heap[w7.heap.size]? = some (.cells #[.slice ra3 n3 rc3, .slice la3 m3 lc3] 27 (0, 0))) := heap_alloc_new _ _
    clear hb7 hp7 hi3 hk3 hl3 A7 B6
    go_wp2_with fail
    generalize (w7.alloc (.cells #[.slice ra3 n3 rc3, .slice la3 m3 lc3] 27)) = W7 at *
    generalize w7.heap.size = k7 at *
    refine (CS2.out W7).mono ?_
    rintro e w8 ⟨ra4, rc4, la4, lc4, n4, m4, rfl, hb8⟩
    have A8 : Below w8.heap.size w8 (w8.alloc (.cells #[.slice ra4 n4 rc4, .slice la4 m4 lc4] 27)) := (Below.refl _ _).alloc (Nat.le_refl _) _
    have BX : Below W7.heap.size W7 (w8.alloc (.cells #[.slice ra4 n4 rc4, .slice la4 m4 lc4] 27)) := hb8.trans (A8.mono hb8.size)
    have B8 : Hid (Below w.heap.size w (w8.alloc (.cells #[.slice ra4 n4 rc4, .slice la4 m4 lc4] 27))) := B7.out.trans (BX.mono B7.out.size)
    have P8 : Hid (PL (w8.alloc (.cells #[.slice ra4 n4 rc4, .slice la4 m4 lc4] 27)) (w6.heap.size + 3) ra3 rc3 la3 lc3 n3 m3 S3 L3) := P7.out.below BX
    have X8 : Hid ((w8.alloc (.cells #[.slice ra4 n4 rc4, .slice la4 m4 lc4] 27)).heap[k7]? = some (.cells #[.slice ra3 n3 rc3, .slice la3 m3 lc3] 27 (0, 0))) := below_row BX (row_lt X7.out) X7.out
    clear hb8 A8 BX B7 P7 X7
    obtain ⟨x0, x1⟩ := cells2 X8.out
    cases b2
    · go_wp2
      go_ret
      exact ⟨rfl, B8.out⟩
    · go_wp2_with fail
      clear x0 x1
      generalize (w8.alloc (.cells #[.slice ra4 n4 rc4, .slice la4 m4 lc4] 27)) = W8 at *
      refine (implTextPL P8.out (by omega) (by omega) (fun r hr => by have := HI3.out r hr; omega) (HPW.out.below B8.out (Nat.le_refl _))).mono ?_
      rintro e w9 ⟨rfl, hb9⟩
      rw [HBK.out S3 L3 HB2.out HK3.out.1 HK3.out.2, HT2.out]
      have B9 : Hid (Below w.heap.size w w9) := B8.out.trans (hb9.mono B8.out.size)
      clear hb9 B8 P8 X8
      have htt : (t2.toList == t2.toList) = true := beq_self_eq_true _
      go_wp2
      go_ret
      exact ⟨by first | rfl | simp, B9.out⟩
  · simp only [Bool.not_true] at hne
    obtain ⟨x0, x1⟩ := cells2 X4.out
    obtain ⟨y0, y1⟩ := cells2 Y4.out
    obtain ⟨hk4, hl4⟩ := HK3.out rfl
    have HK4 : Hid (S1.map RT.key = R.map RT.key) := hk4
    subst hl4
    have hn1 : n1 = n := by
      have := congrArg List.length hk4
      simp at this
      rw [← Q4.out.2.1, ← P4.out.2.1]; exact this
    have hm1 : m1 = m := by rw [← Q4.out.2.2, ← P4.out.2.2]
    subst hn1 hm1
    go_wp2_with fail
    clear x0 x1 y0 y1
    refine (samePlan_same ra1 ra la1 la rc1 rc n1 lc1 lc m1 S1 R L1 w4 Q4.out.at P4.out.at HK4.out.symm Q4.out.2.1 (by omega) (fun r hr => ?_) Q4.out.lf P4.out.lf Q4.out.2.2 (by omega)).mono ?_
    · obtain ⟨x, hx, e⟩ : ∃ x ∈ R, x.key = r.key := List.mem_map.1 (by rw [← HK4.out]; exact List.mem_map_of_mem hr)
      have := HI.out x hx
      have e2 : x.ids = r.ids := (Prod.mk.inj e).2
      rw [← e2]; omega
    rintro e w5 ⟨rfl, hb5⟩
    have B5 : Hid (Below w.heap.size w w5) := B4.out.trans (hb5.mono B4.out.size)
    clear hb5 B4 P4 Q4 X4 Y4 hne htt hk4
    go_wp2_with fail
    refine (CDR.out w5 (HA.out.blw B5.out)).mono ?_
    rintro e w6 ⟨s2, rfl, hs2, hb6⟩
    have CI2 : Hid (∀ W, Calls Tryd.prog 7 #[.string (txt s2)] W fun e w' => ∃ S ra rc la lc n m L, e = .returned (.tuple #[.agg #[.slice ra n rc, .slice la m lc], .bool (rdB s2)]) ∧ Below W.heap.size W w' ∧ PL w' (W.heap.size + 3) ra rc la lc n m S L ∧ (n ≤ 5 ∧ m ≤ 12 ∧ ∀ r ∈ S, r.ids.length ≤ 12) ∧ S.map RT.key = (rdK s2).1 ∧ L = (rdK s2).2) := fun W => implReadPL s2 W (by omega)
    have CS2 : Hid (∀ W, Calls Tryd.prog 11 #[.string (txt s2)] W fun e w' => ∃ ra rc la lc n m, e = .returned (.tuple #[.agg #[.slice ra n rc, .slice la m lc], .bool (rdB s2)]) ∧ Below W.heap.size W w') := fun W => specReadPL s2 W (by omega)
    have HBK : Hid (∀ (S : List RT) (L : List Int), rdB s2 = true → S.map RT.key = (rdK s2).1 → L = (rdK s2).2 → txt (plTx S L) = txt s2) := fun S L h1 h2 h3 => by rw [rd_back h1 h2 h3]
    have B6 : Hid (Below w.heap.size w w6) := B5.out.trans (hb6.mono B5.out.size)
    clear hb6 hs2 B5
    obtain ⟨b2, HB2⟩ : ∃ v, Hid (rdB s2 = v) := ⟨_, rfl⟩
    obtain ⟨t2, HT2⟩ : ∃ v, Hid (txt s2 = v) := ⟨_, rfl⟩
    rw [HB2.out, HT2.out] at CI2 CS2
    rw [HT2.out] at ⊢
    go_wp2_with fail
    refine (CI2.out w6).mono ?_
    rintro e w7 ⟨S3, ra3, rc3, la3, lc3, n3, m3, L3, rfl, hb7, hp7, ⟨hn3, hm3, hi3⟩, hk3, hl3⟩
    have HI3 : Hid (∀ r ∈ S3, r.ids.length ≤ 12) := hi3
    have HK3 : Hid (S3.map RT.key = (rdK s2).1 ∧ L3 = (rdK s2).2) := ⟨hk3, hl3⟩
    have A7 : Hid (Below w7.heap.size w7 (w7.alloc (.cells #[.slice ra3 n3 rc3, .slice la3 m3 lc3] 27))) := (Below.refl _ _).alloc (Nat.le_refl _) _
    have B7 : Hid (Below w.heap.size w (w7.alloc (.cells #[.slice ra3 n3 rc3, .slice la3 m3 lc3] 27))) := (B6.out.trans (hb7.mono B6.out.size)).trans (A7.out.mono (Nat.le_trans B6.out.size hb7.size))
    have P7 : Hid (PL (w7.alloc (.cells #[.slice ra3 n3 rc3, .slice la3 m3 lc3] 27)) (w6.heap.size + 3) ra3 rc3 la3 lc3 n3 m3 S3 L3) := hp7.below A7.out
    have X7 : Hid ((w7.alloc (.cells #[.slice ra3 n3 rc3, .slice la3 m3 lc3] 27)).heap[w7.heap.size]? = some (.cells #[.slice ra3 n3 rc3, .slice la3 m3 lc3] 27 (0, 0))) := heap_alloc_new _ _
    clear hb7 hp7 hi3 hk3 hl3 A7 B6
    go_wp2_with fail
    generalize (w7.alloc (.cells #[.slice ra3 n3 rc3, .slice la3 m3 lc3] 27)) = W7 at *
    generalize w7.heap.size = k7 at *
    refine (CS2.out W7).mono ?_
    rintro e w8 ⟨ra4, rc4, la4, lc4, n4, m4, rfl, hb8⟩
    have A8 : Below w8.heap.size w8 (w8.alloc (.cells #[.slice ra4 n4 rc4, .slice la4 m4 lc4] 27)) := (Below.refl _ _).alloc (Nat.le_refl _) _
    have BX : Below W7.heap.size W7 (w8.alloc (.cells #[.slice ra4 n4 rc4, .slice la4 m4 lc4] 27)) := hb8.trans (A8.mono hb8.size)
    have B8 : Hid (Below w.heap.size w (w8.alloc (.cells #[.slice ra4 n4 rc4, .slice la4 m4 lc4] 27))) := B7.out.trans (BX.mono B7.out.size)
    have P8 : Hid (PL (w8.alloc (.cells #[.slice ra4 n4 rc4, .slice la4 m4 lc4] 27)) (w6.heap.size + 3) ra3 rc3 la3 lc3 n3 m3 S3 L3) := P7.out.below BX
    have X8 : Hid ((w8.alloc (.cells #[.slice ra4 n4 rc4, .slice la4 m4 lc4] 27)).heap[k7]? = some (.cells #[.slice ra3 n3 rc3, .slice la3 m3 lc3] 27 (0, 0))) := below_row BX (row_lt X7.out) X7.out
    clear hb8 A8 BX B7 P7 X7
    obtain ⟨x0, x1⟩ := cells2 X8.out
    cases b2
    · go_wp2
      go_ret
      exact ⟨rfl, B8.out⟩
    · go_wp2_with fail
      clear x0 x1
      generalize (w8.alloc (.cells #[.slice ra4 n4 rc4, .slice la4 m4 lc4] 27)) = W8 at *
      refine (implTextPL P8.out (by omega) (by omega) (fun r hr => by have := HI3.out r hr; omega) (HPW.out.below B8.out (Nat.le_refl _))).mono ?_
      rintro e w9 ⟨rfl, hb9⟩
      rw [HBK.out S3 L3 HB2.out HK3.out.1 HK3.out.2, HT2.out]
      have B9 : Hid (Below w.heap.size w w9) := B8.out.trans (hb9.mono B8.out.size)
      clear hb9 B8 P8 X8
      have htt : (t2.toList == t2.toList) = true := beq_self_eq_true _
      go_wp2
      go_ret
      exact ⟨by first | rfl | simp, B9.out⟩
theorem lawFnPlanTexts_all (a : Option Addr) (c : Nat) (bs : List Int) (w : World) (hA : CodeAt w a bs) (hl : bs.length ≤ 9223372036854775807) (hT : PW w) :
    Calls Tryd.prog 3 #[.slice a bs.length c] w fun e w' => e = .returned (.bool true) ∧ Below w.heap.size w w' := by
  by_cases h : bs.length ≤ 1048576
  · exact lawFnPlanTexts a c bs w hA h hT
  · exact lawFnPlanTexts_big a c bs.length w hl (by omega)

end Go.Proofs.YtidhnmmhniiolaaDoor
