import Derived.Test.YtighhcdlgjaacaaPack22
import Derived.Test.YtighhcdlgjaacaaSpecCrash12
import Derived.Deep.RegionHeld3
namespace Go.Proofs.Ytighhcdlgjaacaa
open Go.RowKit

/-- The cells of two boxes. -/
theorem SSc {W : World} {p q : Nat} {T U : TypeId} {u0 u1 u2 v0 v1 v2 : Value} (h1 : W.heap[p]? = some (.cells #[u0, u1, u2] T (0, 0))) (h2 : W.heap[q]? = some (.cells #[v0, v1, v2] U (0, 0))) : W.cell? ⟨p, 0, none⟩ = some u0 ∧ W.cell? ⟨p, 1, none⟩ = some u1 ∧ W.cell? ⟨p, 2, none⟩ = some u2 ∧ W.cell? ⟨q, 0, none⟩ = some v0 ∧ W.cell? ⟨q, 1, none⟩ = some v1 ∧ W.cell? ⟨q, 2, none⟩ = some v2 := by
  obtain ⟨a, b, c⟩ := cells3 h1
  exact ⟨a, b, c, cells3 h2⟩

set_option maxHeartbeats 8000000 in
set_option maxRecDepth 20000 in
theorem lawCrash (ka : Option Addr) (kc : Nat) (K : List Int) (tz : Int) (la sa oa : Option Addr) (lc sc oc : Nat) (L S : List FI) (O : List OP) (w : World) (hD : DAt w la sa oa L S O) (hKA : IntsAt w ka K) (hKn : K.length ≤ 9223372036854775807) (hLn : L.length ≤ 9223372036854775807) (hSn : S.length ≤ 9223372036854775807) (hOn : O.length ≤ 9223372036854775807) (hLt : TxF L) (hSt : TxF S) (hOt : TxO O) :
    Calls Try.prog 6 #[.agg #[.slice la L.length lc, .slice sa S.length sc, .slice oa O.length oc], .slice ka K.length kc, .int .i64 tz] w fun e w' => e = .returned (.bool true) ∧ Below w.heap.size w w' := by
  have SZ : Hid (∀ W, DAt W la sa oa L S O → Calls Try.prog 9 #[.agg #[.slice la L.length lc, .slice sa S.length sc, .slice oa O.length oc], .int .i64 1048576] W fun e w' => ∃ x : Int, e = .returned (.int .i64 x) ∧ x ≤ 1048576 ∧ (0 ≤ x → DskOk L S O) ∧ Below W.heap.size W w') := fun W h => szDisk_any la sa oa lc sc oc L S O W h.l h.s h.o hLn hSn hOn hLt hSt hOt
  obtain ⟨ln, HLN⟩ : ∃ n, Hid (L.length = n) := ⟨_, rfl⟩
  obtain ⟨sn, HSN⟩ : ∃ n, Hid (S.length = n) := ⟨_, rfl⟩
  obtain ⟨on, HON⟩ : ∃ n, Hid (O.length = n) := ⟨_, rfl⟩
  rw [HLN.out, HSN.out, HON.out] at SZ ⊢
  clear hLn hSn hOn hLt hSt hOt
  have B0 : Hid (Below w.heap.size w (w.alloc (.cells #[.slice la ln lc, .slice sa sn sc, .slice oa on oc] 25))) := (Below.refl _ _).alloc (Nat.le_refl _) _
  have R0 : Hid ((w.alloc (.cells #[.slice la ln lc, .slice sa sn sc, .slice oa on oc] 25)).heap[w.heap.size]? = some (.cells #[.slice la ln lc, .slice sa sn sc, .slice oa on oc] 25 (0, 0))) := heap_alloc_new _ _
  obtain ⟨c0, c1, c2⟩ := cells3 R0.out
  have H0 : Hid (DAt w la sa oa L S O) := hD
  clear hD
  have HKA : Hid (IntsAt w ka K) := hKA
  obtain ⟨kn, HKN⟩ : ∃ n, Hid (K.length = n) := ⟨_, rfl⟩
  rw [HKN.out] at hKn ⊢
  clear hKA
  by_cases hbn : 1048576 < kn
  · have hbn' : (1048576 : Int) < kn := by omega
    go_enter Try.func6, Try.ntmps6
    go_wp2
    go_ret
    exact ⟨rfl, B0.out⟩
  have hbn' : ¬ ((1048576 : Int) < kn) := by omega
  go_enter Try.func6, Try.ntmps6
  go_wp2_with fail
  refine (SZ.out _ (H0.out.below B0.out)).mono ?_
  rintro e w1 ⟨x, rfl, hx1, hx2, hb1⟩
  have HK0 : Hid (0 ≤ x → DskOk L S O) := hx2
  have B1 : Hid (Below w.heap.size w w1) := B0.out.trans (hb1.mono B0.out.size)
  have R1 : Hid (w1.heap[w.heap.size]? = some (.cells #[.slice la ln lc, .slice sa sn sc, .slice oa on oc] 25 (0, 0))) := below_row hb1 (row_lt R0.out) R0.out
  obtain ⟨d0, d1, d2⟩ := cells3 R1.out
  clear hx2 hb1 c0 c1 c2
  by_cases hneg : x < 0
  · go_wp2
    go_ret
    exact ⟨rfl, B1.out⟩
  have HK : Hid (DskOk L S O) := HK0.out (by omega)
  clear HK0
  have bl : ln ≤ 1048576 := by rw [← HLN.out]; exact HK.out.ln
  have bs : sn ≤ 1048576 := by rw [← HSN.out]; exact HK.out.sn
  have bo : on ≤ 1048576 := by rw [← HON.out]; exact HK.out.on
  have TD : Hid (∀ W, Below w.heap.size w W → Calls Try.prog 11 #[.agg #[.slice la ln lc, .slice sa sn sc, .slice oa on oc]] W fun e w' => ∃ gl gs go : Nat, e = .returned (.agg #[.slice (some ⟨gl, 0, none⟩) ln ln, .slice (some ⟨gs, 0, none⟩) sn sn, .slice (some ⟨go, 0, none⟩) on on]) ∧ Below W.heap.size W w' ∧ gl ≠ gs ∧ DO w' W.heap.size (.slice (some ⟨gl, 0, none⟩) ln ln) (.slice (some ⟨gs, 0, none⟩) sn sn) (.slice (some ⟨go, 0, none⟩) on on) L S O ∧ DAt w' (some ⟨gl, 0, none⟩) (some ⟨gs, 0, none⟩) (some ⟨go, 0, none⟩) L S O) := fun W hW => toDisk_at la sa oa lc sc oc ln sn on L S O W (H0.out.below hW) HK.out HLN.out HSN.out HON.out
  obtain ⟨XL, XS, XO, x1, x2, x3, kd, hx1, hx2, hx3, bx1, bx2, bx3, hsp, him⟩ : ∃ (XL XS : List FI) (XO : List OP) (x1 x2 x3 : Nat) (kd : Bool), XL.length = x1 ∧ XS.length = x2 ∧ XO.length = x3 ∧ x1 ≤ 1048576 ∧ x2 ≤ 1048576 ∧ x3 ≤ 1048576 ∧ (∀ W a b c g, DAt W a b c L S O → IntsAt W (some ⟨g, 0, none⟩) K → Calls Try.prog 22 #[.agg #[.slice a ln ln, .slice b sn sn, .slice c on on], .slice (some ⟨g, 0, none⟩) kn kn, .int .i64 tz] W fun e w' => ∃ a1 c1 a2 c2 a3 c3, e = .returned (.tuple #[.agg #[.slice a1 x1 c1, .slice a2 x2 c2, .slice a3 x3 c3], .bool kd]) ∧ Below W.heap.size W w' ∧ DA w' W.heap.size (.slice a1 x1 c1) (.slice a2 x2 c2) (.slice a3 x3 c3) XL XS XO) ∧ (∀ W a b c g, DAt W a b c L S O → IntsAt W (some ⟨g, 0, none⟩) K → Calls Try.prog 24 #[.agg #[.slice a ln ln, .slice b sn sn, .slice c on on], .slice (some ⟨g, 0, none⟩) kn kn, .int .i64 tz] W fun e w' => ∃ a1 c1 a2 c2 a3 c3, e = .returned (.tuple #[.agg #[.slice a1 x1 c1, .slice a2 x2 c2, .slice a3 x3 c3], .bool kd]) ∧ Below W.heap.size W w' ∧ DA w' W.heap.size (.slice a1 x1 c1) (.slice a2 x2 c2) (.slice a3 x3 c3) XL XS XO) := by
    have hb : (crL L S O K tz).length ≤ 1048576 := by
      cases h : crB L S O K tz
      · rw [crL_no h]; simp
      · rw [crL_yes h]
        unfold crB at h
        rw [Bool.and_eq_true, Bool.and_eq_true, Bool.and_eq_true] at h
        have := (filB_true.1 h.2.2.2).1
        omega
    exact ⟨crL L S O K tz, crL L S O K tz, [], _, _, 0, crB L S O K tz, rfl, rfl, rfl, hb, hb, by omega, fun W a b c g h hk => (specCrash_any a b c _ ln sn on ln sn on kn kn _ tz _ L S O K W h HK.out hk HLN.out HSN.out HON.out HKN.out (by omega) rfl rfl).mono fun e w' ⟨p1, p2, p3, p4, p5, p6, p7⟩ => ⟨p1, p2, p3, p4, none, 0, p5, p6, p7⟩, fun W a b c g h hk => (implCrash_any a b c _ ln sn on ln sn on kn kn _ tz _ L S O K W h HK.out hk HLN.out HSN.out HON.out HKN.out (by omega) rfl rfl).mono fun e w' ⟨p1, p2, p3, p4, p5, p6, p7⟩ => ⟨p1, p2, p3, p4, none, 0, p5, p6, p7⟩⟩
  have SP : Hid (∀ W a b c g, DAt W a b c L S O → IntsAt W (some ⟨g, 0, none⟩) K → Calls Try.prog 22 #[.agg #[.slice a ln ln, .slice b sn sn, .slice c on on], .slice (some ⟨g, 0, none⟩) kn kn, .int .i64 tz] W fun e w' => ∃ a1 c1 a2 c2 a3 c3, e = .returned (.tuple #[.agg #[.slice a1 x1 c1, .slice a2 x2 c2, .slice a3 x3 c3], .bool kd]) ∧ Below W.heap.size W w' ∧ DA w' W.heap.size (.slice a1 x1 c1) (.slice a2 x2 c2) (.slice a3 x3 c3) XL XS XO) := hsp
  have IM : Hid (∀ W a b c g, DAt W a b c L S O → IntsAt W (some ⟨g, 0, none⟩) K → Calls Try.prog 24 #[.agg #[.slice a ln ln, .slice b sn sn, .slice c on on], .slice (some ⟨g, 0, none⟩) kn kn, .int .i64 tz] W fun e w' => ∃ a1 c1 a2 c2 a3 c3, e = .returned (.tuple #[.agg #[.slice a1 x1 c1, .slice a2 x2 c2, .slice a3 x3 c3], .bool kd]) ∧ Below W.heap.size W w' ∧ DA w' W.heap.size (.slice a1 x1 c1) (.slice a2 x2 c2) (.slice a3 x3 c3) XL XS XO) := him
  have hkd : (kd != kd) = false := by simp
  have TI : Hid (∀ W, Below w.heap.size w W → Calls Try.prog 23 #[.slice ka kn kc] W fun e w' => ∃ g, e = .returned (.slice (some ⟨g, 0, none⟩) kn kn) ∧ Below W.heap.size W w' ∧ IntsAt w' (some ⟨g, 0, none⟩) K ∧ w'.heap[g]? = some (.cells (cellsOf K) 2 (0, 0)) ∧ w.heap.size ≤ g) := fun W hW => by
    have h := toInts_any ka kc K W (HKA.out.below hW) (by rw [HKN.out]; omega)
    rw [HKN.out] at h
    exact h.mono fun e w' ⟨r1, r2, _, r4⟩ => ⟨_, r1, r2, IntsAt.of_row r4, r4, hW.size⟩
  have EI : Hid (∀ W g h, IntsAt W (some ⟨g, 0, none⟩) K → IntsAt W (some ⟨h, 0, none⟩) K → Calls Try.prog 25 #[.slice (some ⟨g, 0, none⟩) kn kn, .slice (some ⟨h, 0, none⟩) kn kn] W fun e w' => e = .returned (.bool true) ∧ Below W.heap.size W w') := fun W g h h1 h2 => by
    have q := eqInts_any (some ⟨g, 0, none⟩) (some ⟨h, 0, none⟩) kn kn K K W h1 h2 (by rw [HKN.out]; omega)
    rw [HKN.out, decide_eq_true rfl] at q
    exact q
  have X1 : Hid (XL.length = x1) := hx1
  have X2 : Hid (XS.length = x2) := hx2
  have X3 : Hid (XO.length = x3) := hx3
  clear hsp him hx1 hx2 hx3
  have EQ : Hid (∀ W a b c a2 b2 c2, DAt W a b c L S O → DAt W a2 b2 c2 L S O → Calls Try.prog 13 #[.agg #[.slice a ln ln, .slice b sn sn, .slice c on on], .agg #[.slice a2 ln ln, .slice b2 sn sn, .slice c2 on on]] W fun e w' => e = .returned (.bool true) ∧ Below W.heap.size W w') := fun W a b c a2 b2 c2 h1 h2 => eqDisk_same a b c a2 b2 c2 ln sn on ln sn on ln sn on L S O W h1 h2 HLN.out HSN.out HON.out bl bs bo
  have EX : Hid (∀ W B B2 a1 c1 a2 c2 a3 c3 b1 e1 b2 e2 b3 e3, DA W B (.slice b1 x1 e1) (.slice b2 x2 e2) (.slice b3 x3 e3) XL XS XO → DA W B2 (.slice a1 x1 c1) (.slice a2 x2 c2) (.slice a3 x3 c3) XL XS XO → Calls Try.prog 13 #[.agg #[.slice b1 x1 e1, .slice b2 x2 e2, .slice b3 x3 e3], .agg #[.slice a1 x1 c1, .slice a2 x2 c2, .slice a3 x3 c3]] W fun e w' => e = .returned (.bool true) ∧ Below W.heap.size W w') := fun W B B2 a1 c1 a2 c2 a3 c3 b1 e1 b2 e2 b3 e3 h1 h2 => eqDisk_same b1 b2 b3 a1 a2 a3 e1 e2 e3 c1 c2 c3 x1 x2 x3 XL XS XO W (h1.at X1.out X2.out X3.out) (h2.at X1.out X2.out X3.out) X1.out X2.out X3.out bx1 bx2 bx3
  obtain ⟨m, HM⟩ : ∃ n : Nat, Hid (1 + 2 * ln + 2 * sn + 4 * on = n) := ⟨_, rfl⟩
  obtain ⟨n, HN⟩ : ∃ n : Nat, Hid (1 + 2 * x1 + 2 * x2 + 4 * x3 = n) := ⟨_, rfl⟩
  have MX : Hid (∀ W B gl gs go, DA W B (.slice (some ⟨gl, 0, none⟩) ln ln) (.slice (some ⟨gs, 0, none⟩) sn sn) (.slice (some ⟨go, 0, none⟩) on on) L S O → Calls Try.prog 18 #[.agg #[.slice (some ⟨gl, 0, none⟩) ln ln, .slice (some ⟨gs, 0, none⟩) sn sn, .slice (some ⟨go, 0, none⟩) on on], .int .i64 1] W fun e w' => e = .returned (.int .i64 (m : Int)) ∧ Chg3 W w' (Value.slice (some ⟨gl, 0, none⟩) ln ln).ownBlock (Value.slice (some ⟨gs, 0, none⟩) sn sn).ownBlock (Value.slice (some ⟨go, 0, none⟩) on on).ownBlock) := fun W B gl gs go h => by
    rw [← HM.out]
    exact (markDisk_any _ _ _ ln sn on ln sn on 1 B L S O W h HLN.out HSN.out HON.out bl bs bo (by omega) (by omega)).mono fun e w' ⟨h1, h2, _⟩ => ⟨h1, h2⟩
  have MG : Hid (∀ W B b1 e1 b2 e2 b3 e3, DA W B (.slice b1 x1 e1) (.slice b2 x2 e2) (.slice b3 x3 e3) XL XS XO → Calls Try.prog 18 #[.agg #[.slice b1 x1 e1, .slice b2 x2 e2, .slice b3 x3 e3], .int .i64 1] W fun e w' => e = .returned (.int .i64 (n : Int)) ∧ Chg3 W w' (Value.slice b1 x1 e1).ownBlock (Value.slice b2 x2 e2).ownBlock (Value.slice b3 x3 e3).ownBlock ∧ DA w' B (.slice b1 x1 e1) (.slice b2 x2 e2) (.slice b3 x3 e3) (mkF 1 x1) (mkF (1 + 2 * x1) x2) (mkO (1 + 2 * x1 + 2 * x2) x3)) := fun W B b1 e1 b2 e2 b3 e3 h => by
    rw [← HN.out]
    exact markDisk_any b1 b2 b3 e1 e2 e3 x1 x2 x3 1 B XL XS XO W h X1.out X2.out X3.out bx1 bx2 bx3 (by omega) (by omega)
  have HE : Hid (∀ W B b1 e1 b2 e2 b3 e3, DA W B (.slice b1 x1 e1) (.slice b2 x2 e2) (.slice b3 x3 e3) (mkF 1 x1) (mkF (1 + 2 * x1) x2) (mkO (1 + 2 * x1 + 2 * x2) x3) → Calls Try.prog 19 #[.agg #[.slice b1 x1 e1, .slice b2 x2 e2, .slice b3 x3 e3], .int .i64 1] W fun e w' => e = .returned (.int .i64 (n : Int)) ∧ Below W.heap.size W w') := fun W B b1 e1 b2 e2 b3 e3 h => by
    rw [← HN.out]
    exact heldDisk_any b1 b2 b3 e1 e2 e3 x1 x2 x3 1 B W h.d bx1 bx2 bx3 (by omega) (by omega)
  obtain ⟨m2, HM2⟩ : ∃ n : Nat, Hid (m + kn = n) := ⟨_, rfl⟩
  have MI : Hid (∀ W g, W.heap[g]? = some (.cells (cellsOf K) 2 (0, 0)) → Calls Try.prog 26 #[.slice (some ⟨g, 0, none⟩) kn kn, .int .i64 (m : Int)] W fun e w' => e = .returned (.int .i64 (m2 : Int)) ∧ W.grownBy w' (some g)) := fun W g h => by
    have q := markInt64S_any g kn kn (m : Int) (cellsOf K) 2 W h (by rw [cellsOf_size, HKN.out]; exact Nat.le_refl _) (by omega) (by have := HM.out; omega) (by omega)
    rw [show (m : Int) + ((kn : Nat) : Int) = (m2 : Int) by have := HM2.out; omega] at q
    exact q.mono fun e w' ⟨r1, r2, _⟩ => ⟨r1, r2⟩
  have hmn : ¬ ((m2 : Int) < 0) := by omega
  have hnn : ¬ ((n : Int) < 0) := by omega
  have hne : ((n : Int) != (n : Int)) = false := by simp
  clear HM HN HM2
  go_wp2_with fail
  refine (TD.out w1 B1.out).mono ?_
  rintro e w2 ⟨gl2, gs2, go2, rfl, hb2, -, -, hd2⟩
  have B2 : Hid (Below w.heap.size w w2) := B1.out.trans (hb2.mono B1.out.size)
  have R2 : Hid (w2.heap[w.heap.size]? = some (.cells #[.slice la ln lc, .slice sa sn sc, .slice oa on oc] 25 (0, 0))) := below_row hb2 (row_lt R1.out) R1.out
  clear B1 R1
  have D2 : Hid (DAt w2 (some ⟨gl2, 0, none⟩) (some ⟨gs2, 0, none⟩) (some ⟨go2, 0, none⟩) L S O) := hd2
  clear hb2 hd2 d0 d1 d2
  go_wp2_with fail
  refine (TI.out w2 B2.out).mono ?_
  rintro e w21 ⟨gk2, rfl, hb, hi, -, -⟩
  have B21 : Hid (Below w.heap.size w w21) := B2.out.trans (hb.mono B2.out.size)
  have R21 : Hid (w21.heap[w.heap.size]? = some (.cells #[.slice la ln lc, .slice sa sn sc, .slice oa on oc] 25 (0, 0))) := below_row hb (row_lt R2.out) R2.out
  have D21 : Hid (DAt w21 (some ⟨gl2, 0, none⟩) (some ⟨gs2, 0, none⟩) (some ⟨go2, 0, none⟩) L S O) := D2.out.below hb
  clear B2 R2 D2
  have I21 : Hid (IntsAt w21 (some ⟨gk2, 0, none⟩) K) := hi
  clear hb hi
  go_wp2_with fail
  refine (SP.out w21 _ _ _ _ D21.out I21.out).mono ?_
  rintro e w3 ⟨a1, c1, a2, c2, a3, c3, rfl, hb3, hw3⟩
  have B3 : Hid (Below w.heap.size w w3) := B21.out.trans (hb3.mono B21.out.size)
  have R3 : Hid (w3.heap[w.heap.size]? = some (.cells #[.slice la ln lc, .slice sa sn sc, .slice oa on oc] 25 (0, 0))) := below_row hb3 (row_lt R21.out) R21.out
  clear B21 R21
  have W3 : Hid (DA w3 w21.heap.size (.slice a1 x1 c1) (.slice a2 x2 c2) (.slice a3 x3 c3) XL XS XO) := hw3
  clear hb3 hw3 D21 I21
  have hb4 : Below w3.heap.size w3 (w3.alloc (.cells #[.slice a1 x1 c1, .slice a2 x2 c2, .slice a3 x3 c3] 31)) := (Below.refl _ _).alloc (Nat.le_refl _) _
  have B4 : Hid (Below w.heap.size w (w3.alloc (.cells #[.slice a1 x1 c1, .slice a2 x2 c2, .slice a3 x3 c3] 31))) := B3.out.trans (hb4.mono B3.out.size)
  have R4 : Hid ((w3.alloc (.cells #[.slice a1 x1 c1, .slice a2 x2 c2, .slice a3 x3 c3] 31)).heap[w.heap.size]? = some (.cells #[.slice la ln lc, .slice sa sn sc, .slice oa on oc] 25 (0, 0))) := below_row hb4 (row_lt R3.out) R3.out
  have W4 : Hid (DA (w3.alloc (.cells #[.slice a1 x1 c1, .slice a2 x2 c2, .slice a3 x3 c3] 31)) w21.heap.size (.slice a1 x1 c1) (.slice a2 x2 c2) (.slice a3 x3 c3) XL XS XO) := W3.out.below hb4
  clear B3 R3 W3
  have P4 : Hid ((w3.alloc (.cells #[.slice a1 x1 c1, .slice a2 x2 c2, .slice a3 x3 c3] 31)).heap[w3.heap.size]? = some (.cells #[.slice a1 x1 c1, .slice a2 x2 c2, .slice a3 x3 c3] 31 (0, 0))) := heap_alloc_new _ _
  clear hb4
  obtain ⟨zr0, zr1, zr2⟩ := cells3 R4.out
  go_wp2_with fail
  refine (TD.out _ B4.out).mono ?_
  rintro e w5 ⟨gl, gs, go, rfl, hb5, hne5, hdo5, -⟩
  obtain ⟨bx, hbx, hlw, hx5⟩ : ∃ bx, w.heap.size ≤ bx ∧ LowD (.slice a1 x1 c1) (.slice a2 x2 c2) (.slice a3 x3 c3) bx ∧ DA w5 bx (.slice (some ⟨gl, 0, none⟩) ln ln) (.slice (some ⟨gs, 0, none⟩) sn sn) (.slice (some ⟨go, 0, none⟩) on on) L S O := ⟨_, B4.out.size, W4.out.low, ⟨hdo5, fun k h1 h2 => hne5 (Option.some.inj ((show some gl = some k from h1).trans (show some gs = some k from h2).symm))⟩⟩
  have BX : Hid (w.heap.size ≤ bx) := hbx
  have LW : Hid (LowD (.slice a1 x1 c1) (.slice a2 x2 c2) (.slice a3 x3 c3) bx) := hlw
  have B5 : Hid (Below w.heap.size w w5) := B4.out.trans (hb5.mono B4.out.size)
  have R5 : Hid (w5.heap[w.heap.size]? = some (.cells #[.slice la ln lc, .slice sa sn sc, .slice oa on oc] 25 (0, 0))) := below_row hb5 (row_lt R4.out) R4.out
  have W5 : Hid (DA w5 w21.heap.size (.slice a1 x1 c1) (.slice a2 x2 c2) (.slice a3 x3 c3) XL XS XO) := W4.out.below hb5
  have P5 : Hid (w5.heap[w3.heap.size]? = some (.cells #[.slice a1 x1 c1, .slice a2 x2 c2, .slice a3 x3 c3] 31 (0, 0))) := below_row hb5 (row_lt P4.out) P4.out
  clear B4 R4 W4 P4
  have X5 : Hid (DA w5 bx (.slice (some ⟨gl, 0, none⟩) ln ln) (.slice (some ⟨gs, 0, none⟩) sn sn) (.slice (some ⟨go, 0, none⟩) on on) L S O) := hx5
  clear zr0 zr1 zr2
  clear hb5 hne5 hdo5 hbx hlw hx5
  have hb6 : Below w5.heap.size w5 (w5.alloc (.cells #[.slice (some ⟨gl, 0, none⟩) ln ln, .slice (some ⟨gs, 0, none⟩) sn sn, .slice (some ⟨go, 0, none⟩) on on] 31)) := (Below.refl _ _).alloc (Nat.le_refl _) _
  have B6 : Hid (Below w.heap.size w (w5.alloc (.cells #[.slice (some ⟨gl, 0, none⟩) ln ln, .slice (some ⟨gs, 0, none⟩) sn sn, .slice (some ⟨go, 0, none⟩) on on] 31))) := B5.out.trans (hb6.mono B5.out.size)
  have R6 : Hid ((w5.alloc (.cells #[.slice (some ⟨gl, 0, none⟩) ln ln, .slice (some ⟨gs, 0, none⟩) sn sn, .slice (some ⟨go, 0, none⟩) on on] 31)).heap[w.heap.size]? = some (.cells #[.slice la ln lc, .slice sa sn sc, .slice oa on oc] 25 (0, 0))) := below_row hb6 (row_lt R5.out) R5.out
  have W6 : Hid (DA (w5.alloc (.cells #[.slice (some ⟨gl, 0, none⟩) ln ln, .slice (some ⟨gs, 0, none⟩) sn sn, .slice (some ⟨go, 0, none⟩) on on] 31)) w21.heap.size (.slice a1 x1 c1) (.slice a2 x2 c2) (.slice a3 x3 c3) XL XS XO) := W5.out.below hb6
  have P6 : Hid ((w5.alloc (.cells #[.slice (some ⟨gl, 0, none⟩) ln ln, .slice (some ⟨gs, 0, none⟩) sn sn, .slice (some ⟨go, 0, none⟩) on on] 31)).heap[w3.heap.size]? = some (.cells #[.slice a1 x1 c1, .slice a2 x2 c2, .slice a3 x3 c3] 31 (0, 0))) := below_row hb6 (row_lt P5.out) P5.out
  have X6 : Hid (DA (w5.alloc (.cells #[.slice (some ⟨gl, 0, none⟩) ln ln, .slice (some ⟨gs, 0, none⟩) sn sn, .slice (some ⟨go, 0, none⟩) on on] 31)) bx (.slice (some ⟨gl, 0, none⟩) ln ln) (.slice (some ⟨gs, 0, none⟩) sn sn) (.slice (some ⟨go, 0, none⟩) on on) L S O) := X5.out.below hb6
  clear B5 R5 W5 P5 X5
  have Q6 : Hid ((w5.alloc (.cells #[.slice (some ⟨gl, 0, none⟩) ln ln, .slice (some ⟨gs, 0, none⟩) sn sn, .slice (some ⟨go, 0, none⟩) on on] 31)).heap[w5.heap.size]? = some (.cells #[.slice (some ⟨gl, 0, none⟩) ln ln, .slice (some ⟨gs, 0, none⟩) sn sn, .slice (some ⟨go, 0, none⟩) on on] 31 (0, 0))) := heap_alloc_new _ _
  clear hb6
  go_wp2_with fail
  refine (TI.out _ B6.out).mono ?_
  rintro e w61 ⟨gk, rfl, hb, hi, hc, hg⟩
  have IG : Hid (w.heap.size ≤ gk) := hg
  have B61 : Hid (Below w.heap.size w w61) := B6.out.trans (hb.mono B6.out.size)
  have R61 : Hid (w61.heap[w.heap.size]? = some (.cells #[.slice la ln lc, .slice sa sn sc, .slice oa on oc] 25 (0, 0))) := below_row hb (row_lt R6.out) R6.out
  have W61 : Hid (DA w61 w21.heap.size (.slice a1 x1 c1) (.slice a2 x2 c2) (.slice a3 x3 c3) XL XS XO) := W6.out.below hb
  have P61 : Hid (w61.heap[w3.heap.size]? = some (.cells #[.slice a1 x1 c1, .slice a2 x2 c2, .slice a3 x3 c3] 31 (0, 0))) := below_row hb (row_lt P6.out) P6.out
  have X61 : Hid (DA w61 bx (.slice (some ⟨gl, 0, none⟩) ln ln) (.slice (some ⟨gs, 0, none⟩) sn sn) (.slice (some ⟨go, 0, none⟩) on on) L S O) := X6.out.below hb
  have Q61 : Hid (w61.heap[w5.heap.size]? = some (.cells #[.slice (some ⟨gl, 0, none⟩) ln ln, .slice (some ⟨gs, 0, none⟩) sn sn, .slice (some ⟨go, 0, none⟩) on on] 31 (0, 0))) := below_row hb (row_lt Q6.out) Q6.out
  clear B6 R6 W6 P6 X6 Q6
  have C61 : Hid (w61.heap[gk]? = some (.cells (cellsOf K) 2 (0, 0))) := hc
  have I61 : Hid (IntsAt w61 (some ⟨gk, 0, none⟩) K) := hi
  clear hb hi hc hg
  obtain ⟨zq0, zq1, zq2⟩ := cells3 Q61.out
  go_wp2_with fail
  refine (IM.out _ _ _ _ _ (X61.out.at HLN.out HSN.out HON.out) I61.out).mono ?_
  rintro e w7 ⟨b1, e1, b2, e2, b3, e3, rfl, hb7, hg7⟩
  obtain ⟨bg, hbg, hlw, hlx, hg⟩ : ∃ bg, w.heap.size ≤ bg ∧ LowD (.slice a1 x1 c1) (.slice a2 x2 c2) (.slice a3 x3 c3) bg ∧ LowD (.slice (some ⟨gl, 0, none⟩) ln ln) (.slice (some ⟨gs, 0, none⟩) sn sn) (.slice (some ⟨go, 0, none⟩) on on) bg ∧ DA w7 bg (.slice b1 x1 e1) (.slice b2 x2 e2) (.slice b3 x3 e3) XL XS XO := ⟨_, B61.out.size, W61.out.low, X61.out.low, hg7⟩
  have BG : Hid (w.heap.size ≤ bg) := hbg
  have LV : Hid (LowD (.slice a1 x1 c1) (.slice a2 x2 c2) (.slice a3 x3 c3) bg) := hlw
  have LX : Hid (LowD (.slice (some ⟨gl, 0, none⟩) ln ln) (.slice (some ⟨gs, 0, none⟩) sn sn) (.slice (some ⟨go, 0, none⟩) on on) bg) := hlx
  have B7 : Hid (Below w.heap.size w w7) := B61.out.trans (hb7.mono B61.out.size)
  have R7 : Hid (w7.heap[w.heap.size]? = some (.cells #[.slice la ln lc, .slice sa sn sc, .slice oa on oc] 25 (0, 0))) := below_row hb7 (row_lt R61.out) R61.out
  have W7 : Hid (DA w7 w21.heap.size (.slice a1 x1 c1) (.slice a2 x2 c2) (.slice a3 x3 c3) XL XS XO) := W61.out.below hb7
  have P7 : Hid (w7.heap[w3.heap.size]? = some (.cells #[.slice a1 x1 c1, .slice a2 x2 c2, .slice a3 x3 c3] 31 (0, 0))) := below_row hb7 (row_lt P61.out) P61.out
  have X7 : Hid (DA w7 bx (.slice (some ⟨gl, 0, none⟩) ln ln) (.slice (some ⟨gs, 0, none⟩) sn sn) (.slice (some ⟨go, 0, none⟩) on on) L S O) := X61.out.below hb7
  have Q7 : Hid (w7.heap[w5.heap.size]? = some (.cells #[.slice (some ⟨gl, 0, none⟩) ln ln, .slice (some ⟨gs, 0, none⟩) sn sn, .slice (some ⟨go, 0, none⟩) on on] 31 (0, 0))) := below_row hb7 (row_lt Q61.out) Q61.out
  have C7 : Hid (w7.heap[gk]? = some (.cells (cellsOf K) 2 (0, 0))) := below_row hb7 (row_lt C61.out) C61.out
  clear B61 R61 W61 P61 X61 Q61 C61
  have G7 : Hid (DA w7 bg (.slice b1 x1 e1) (.slice b2 x2 e2) (.slice b3 x3 e3) XL XS XO) := hg
  clear zq0 zq1 zq2
  clear hb7 hg7 hbg hlw hlx hg I61
  have hb8 : Below w7.heap.size w7 (w7.alloc (.cells #[.slice b1 x1 e1, .slice b2 x2 e2, .slice b3 x3 e3] 31)) := (Below.refl _ _).alloc (Nat.le_refl _) _
  have B8 : Hid (Below w.heap.size w (w7.alloc (.cells #[.slice b1 x1 e1, .slice b2 x2 e2, .slice b3 x3 e3] 31))) := B7.out.trans (hb8.mono B7.out.size)
  have R8 : Hid ((w7.alloc (.cells #[.slice b1 x1 e1, .slice b2 x2 e2, .slice b3 x3 e3] 31)).heap[w.heap.size]? = some (.cells #[.slice la ln lc, .slice sa sn sc, .slice oa on oc] 25 (0, 0))) := below_row hb8 (row_lt R7.out) R7.out
  have W8 : Hid (DA (w7.alloc (.cells #[.slice b1 x1 e1, .slice b2 x2 e2, .slice b3 x3 e3] 31)) w21.heap.size (.slice a1 x1 c1) (.slice a2 x2 c2) (.slice a3 x3 c3) XL XS XO) := W7.out.below hb8
  have P8 : Hid ((w7.alloc (.cells #[.slice b1 x1 e1, .slice b2 x2 e2, .slice b3 x3 e3] 31)).heap[w3.heap.size]? = some (.cells #[.slice a1 x1 c1, .slice a2 x2 c2, .slice a3 x3 c3] 31 (0, 0))) := below_row hb8 (row_lt P7.out) P7.out
  have X8 : Hid (DA (w7.alloc (.cells #[.slice b1 x1 e1, .slice b2 x2 e2, .slice b3 x3 e3] 31)) bx (.slice (some ⟨gl, 0, none⟩) ln ln) (.slice (some ⟨gs, 0, none⟩) sn sn) (.slice (some ⟨go, 0, none⟩) on on) L S O) := X7.out.below hb8
  have Q8 : Hid ((w7.alloc (.cells #[.slice b1 x1 e1, .slice b2 x2 e2, .slice b3 x3 e3] 31)).heap[w5.heap.size]? = some (.cells #[.slice (some ⟨gl, 0, none⟩) ln ln, .slice (some ⟨gs, 0, none⟩) sn sn, .slice (some ⟨go, 0, none⟩) on on] 31 (0, 0))) := below_row hb8 (row_lt Q7.out) Q7.out
  have C8 : Hid ((w7.alloc (.cells #[.slice b1 x1 e1, .slice b2 x2 e2, .slice b3 x3 e3] 31)).heap[gk]? = some (.cells (cellsOf K) 2 (0, 0))) := below_row hb8 (row_lt C7.out) C7.out
  have G8 : Hid (DA (w7.alloc (.cells #[.slice b1 x1 e1, .slice b2 x2 e2, .slice b3 x3 e3] 31)) bg (.slice b1 x1 e1) (.slice b2 x2 e2) (.slice b3 x3 e3) XL XS XO) := G7.out.below hb8
  clear B7 R7 W7 P7 X7 Q7 C7 G7
  have O8 : Hid ((w7.alloc (.cells #[.slice b1 x1 e1, .slice b2 x2 e2, .slice b3 x3 e3] 31)).heap[w7.heap.size]? = some (.cells #[.slice b1 x1 e1, .slice b2 x2 e2, .slice b3 x3 e3] 31 (0, 0))) := heap_alloc_new _ _
  clear hb8
  obtain ⟨zo0, zo1, zo2⟩ := cells3 O8.out
  obtain ⟨zp0, zp1, zp2⟩ := cells3 P8.out
  go_wp2_with fail
  refine (EX.out _ _ _ _ _ _ _ _ _ _ _ _ _ _ _ G8.out W8.out).mono ?_
  rintro e w9 ⟨rfl, hb9⟩
  have B9 : Hid (Below w.heap.size w w9) := B8.out.trans (hb9.mono B8.out.size)
  have R9 : Hid (w9.heap[w.heap.size]? = some (.cells #[.slice la ln lc, .slice sa sn sc, .slice oa on oc] 25 (0, 0))) := below_row hb9 (row_lt R8.out) R8.out
  have W9 : Hid (DA w9 w21.heap.size (.slice a1 x1 c1) (.slice a2 x2 c2) (.slice a3 x3 c3) XL XS XO) := W8.out.below hb9
  have P9 : Hid (w9.heap[w3.heap.size]? = some (.cells #[.slice a1 x1 c1, .slice a2 x2 c2, .slice a3 x3 c3] 31 (0, 0))) := below_row hb9 (row_lt P8.out) P8.out
  have X9 : Hid (DA w9 bx (.slice (some ⟨gl, 0, none⟩) ln ln) (.slice (some ⟨gs, 0, none⟩) sn sn) (.slice (some ⟨go, 0, none⟩) on on) L S O) := X8.out.below hb9
  have Q9 : Hid (w9.heap[w5.heap.size]? = some (.cells #[.slice (some ⟨gl, 0, none⟩) ln ln, .slice (some ⟨gs, 0, none⟩) sn sn, .slice (some ⟨go, 0, none⟩) on on] 31 (0, 0))) := below_row hb9 (row_lt Q8.out) Q8.out
  have C9 : Hid (w9.heap[gk]? = some (.cells (cellsOf K) 2 (0, 0))) := below_row hb9 (row_lt C8.out) C8.out
  have G9 : Hid (DA w9 bg (.slice b1 x1 e1) (.slice b2 x2 e2) (.slice b3 x3 e3) XL XS XO) := G8.out.below hb9
  have O9 : Hid (w9.heap[w7.heap.size]? = some (.cells #[.slice b1 x1 e1, .slice b2 x2 e2, .slice b3 x3 e3] 31 (0, 0))) := below_row hb9 (row_lt O8.out) O8.out
  clear B8 R8 W8 P8 X8 Q8 C8 G8 O8
  clear zo0 zo1 zo2 zp0 zp1 zp2
  clear hb9
  obtain ⟨zq0, zq1, zq2⟩ := cells3 Q9.out
  obtain ⟨zr0, zr1, zr2⟩ := cells3 R9.out
  go_wp2_with fail
  have kS := SSc (below_row (Below.refl _ _).drew (row_lt Q9.out) Q9.out) (below_row (Below.refl _ _).drew (row_lt R9.out) R9.out)
  go_region_held3 (fun W => W.cell? ⟨w5.heap.size, 0, none⟩ = some (.slice (some ⟨gl, 0, none⟩) ln ln) ∧ W.cell? ⟨w5.heap.size, 1, none⟩ = some (.slice (some ⟨gs, 0, none⟩) sn sn) ∧ W.cell? ⟨w5.heap.size, 2, none⟩ = some (.slice (some ⟨go, 0, none⟩) on on) ∧ W.cell? ⟨w.heap.size, 0, none⟩ = some (.slice la ln lc) ∧ W.cell? ⟨w.heap.size, 1, none⟩ = some (.slice sa sn sc) ∧ W.cell? ⟨w.heap.size, 2, none⟩ = some (.slice oa on oc)) (first | with_reducible exact kS) ((first
    | (go_at_call 11
       with_reducible refine (TD.out _ B9.out.drew).mono ?_
       rintro e wa ⟨gl7, gs7, go7, rfl, hba, hnea, hdoa, hda⟩
       have A1 : Hid (Below w9.heap.size w9 wa) := Below.trans (Below.refl _ _).drew hba
       have A2 : Hid (DAt wa (some ⟨gl7, 0, none⟩) (some ⟨gs7, 0, none⟩) (some ⟨go7, 0, none⟩) L S O) := hda
       have A3 : Hid (DAt wa (some ⟨gl, 0, none⟩) (some ⟨gs, 0, none⟩) (some ⟨go, 0, none⟩) L S O) := (X9.out.below A1.out).at HLN.out HSN.out HON.out
       have kS := SSc (below_row A1.out (row_lt Q9.out) Q9.out) (below_row A1.out (row_lt R9.out) R9.out)
       clear hba hda hdoa hnea)
    | (go_at_call 13
       with_reducible refine (EQ.out wa _ _ _ _ _ _ A3.out A2.out).mono ?_
       rintro e wb ⟨rfl, hbb⟩
       have A4 : Hid (Below w9.heap.size w9 wb) := A1.out.trans (hbb.mono A1.out.size)
       have kS := SSc (below_row A4.out (row_lt Q9.out) Q9.out) (below_row A4.out (row_lt R9.out) R9.out)
       clear hbb A1 A2 A3)))
  clear kS
  have B10 : Hid (Below w.heap.size w wb) := B9.out.trans (A4.out.mono B9.out.size)
  have R10 : Hid (wb.heap[w.heap.size]? = some (.cells #[.slice la ln lc, .slice sa sn sc, .slice oa on oc] 25 (0, 0))) := below_row A4.out (row_lt R9.out) R9.out
  have W10 : Hid (DA wb w21.heap.size (.slice a1 x1 c1) (.slice a2 x2 c2) (.slice a3 x3 c3) XL XS XO) := W9.out.below A4.out
  have P10 : Hid (wb.heap[w3.heap.size]? = some (.cells #[.slice a1 x1 c1, .slice a2 x2 c2, .slice a3 x3 c3] 31 (0, 0))) := below_row A4.out (row_lt P9.out) P9.out
  have X10 : Hid (DA wb bx (.slice (some ⟨gl, 0, none⟩) ln ln) (.slice (some ⟨gs, 0, none⟩) sn sn) (.slice (some ⟨go, 0, none⟩) on on) L S O) := X9.out.below A4.out
  have Q10 : Hid (wb.heap[w5.heap.size]? = some (.cells #[.slice (some ⟨gl, 0, none⟩) ln ln, .slice (some ⟨gs, 0, none⟩) sn sn, .slice (some ⟨go, 0, none⟩) on on] 31 (0, 0))) := below_row A4.out (row_lt Q9.out) Q9.out
  have C10 : Hid (wb.heap[gk]? = some (.cells (cellsOf K) 2 (0, 0))) := below_row A4.out (row_lt C9.out) C9.out
  have G10 : Hid (DA wb bg (.slice b1 x1 e1) (.slice b2 x2 e2) (.slice b3 x3 e3) XL XS XO) := G9.out.below A4.out
  have O10 : Hid (wb.heap[w7.heap.size]? = some (.cells #[.slice b1 x1 e1, .slice b2 x2 e2, .slice b3 x3 e3] 31 (0, 0))) := below_row A4.out (row_lt O9.out) O9.out
  clear B9 R9 W9 P9 X9 Q9 C9 G9 O9
  clear zq0 zq1 zq2 zr0 zr1 zr2
  clear A4
  go_wp2_with fail
  refine (TI.out _ B10.out).mono ?_
  rintro e w101 ⟨gk3, rfl, hb, hi, -, -⟩
  have B101 : Hid (Below w.heap.size w w101) := B10.out.trans (hb.mono B10.out.size)
  have R101 : Hid (w101.heap[w.heap.size]? = some (.cells #[.slice la ln lc, .slice sa sn sc, .slice oa on oc] 25 (0, 0))) := below_row hb (row_lt R10.out) R10.out
  have W101 : Hid (DA w101 w21.heap.size (.slice a1 x1 c1) (.slice a2 x2 c2) (.slice a3 x3 c3) XL XS XO) := W10.out.below hb
  have P101 : Hid (w101.heap[w3.heap.size]? = some (.cells #[.slice a1 x1 c1, .slice a2 x2 c2, .slice a3 x3 c3] 31 (0, 0))) := below_row hb (row_lt P10.out) P10.out
  have X101 : Hid (DA w101 bx (.slice (some ⟨gl, 0, none⟩) ln ln) (.slice (some ⟨gs, 0, none⟩) sn sn) (.slice (some ⟨go, 0, none⟩) on on) L S O) := X10.out.below hb
  have Q101 : Hid (w101.heap[w5.heap.size]? = some (.cells #[.slice (some ⟨gl, 0, none⟩) ln ln, .slice (some ⟨gs, 0, none⟩) sn sn, .slice (some ⟨go, 0, none⟩) on on] 31 (0, 0))) := below_row hb (row_lt Q10.out) Q10.out
  have C101 : Hid (w101.heap[gk]? = some (.cells (cellsOf K) 2 (0, 0))) := below_row hb (row_lt C10.out) C10.out
  have G101 : Hid (DA w101 bg (.slice b1 x1 e1) (.slice b2 x2 e2) (.slice b3 x3 e3) XL XS XO) := G10.out.below hb
  have O101 : Hid (w101.heap[w7.heap.size]? = some (.cells #[.slice b1 x1 e1, .slice b2 x2 e2, .slice b3 x3 e3] 31 (0, 0))) := below_row hb (row_lt O10.out) O10.out
  clear B10 R10 W10 P10 X10 Q10 C10 G10 O10
  have I101 : Hid (IntsAt w101 (some ⟨gk3, 0, none⟩) K) := hi
  clear hb hi
  go_wp2_with fail
  refine (EI.out _ _ _ (IntsAt.of_row C101.out) I101.out).mono ?_
  rintro e w11 ⟨rfl, hb⟩
  have B11 : Hid (Below w.heap.size w w11) := B101.out.trans (hb.mono B101.out.size)
  have R11 : Hid (w11.heap[w.heap.size]? = some (.cells #[.slice la ln lc, .slice sa sn sc, .slice oa on oc] 25 (0, 0))) := below_row hb (row_lt R101.out) R101.out
  have W11 : Hid (DA w11 w21.heap.size (.slice a1 x1 c1) (.slice a2 x2 c2) (.slice a3 x3 c3) XL XS XO) := W101.out.below hb
  have P11 : Hid (w11.heap[w3.heap.size]? = some (.cells #[.slice a1 x1 c1, .slice a2 x2 c2, .slice a3 x3 c3] 31 (0, 0))) := below_row hb (row_lt P101.out) P101.out
  have X11 : Hid (DA w11 bx (.slice (some ⟨gl, 0, none⟩) ln ln) (.slice (some ⟨gs, 0, none⟩) sn sn) (.slice (some ⟨go, 0, none⟩) on on) L S O) := X101.out.below hb
  have Q11 : Hid (w11.heap[w5.heap.size]? = some (.cells #[.slice (some ⟨gl, 0, none⟩) ln ln, .slice (some ⟨gs, 0, none⟩) sn sn, .slice (some ⟨go, 0, none⟩) on on] 31 (0, 0))) := below_row hb (row_lt Q101.out) Q101.out
  have C11 : Hid (w11.heap[gk]? = some (.cells (cellsOf K) 2 (0, 0))) := below_row hb (row_lt C101.out) C101.out
  have G11 : Hid (DA w11 bg (.slice b1 x1 e1) (.slice b2 x2 e2) (.slice b3 x3 e3) XL XS XO) := G101.out.below hb
  have O11 : Hid (w11.heap[w7.heap.size]? = some (.cells #[.slice b1 x1 e1, .slice b2 x2 e2, .slice b3 x3 e3] 31 (0, 0))) := below_row hb (row_lt O101.out) O101.out
  clear B101 R101 W101 P101 X101 Q101 C101 G101 O101
  clear hb I101
  obtain ⟨zq0, zq1, zq2⟩ := cells3 Q11.out
  go_wp2_with fail
  refine (MX.out _ _ _ _ _ X11.out).mono ?_
  rintro e w12 ⟨rfl, hc⟩
  have B12 : Hid (Below w.heap.size w w12) := B11.out.trans (X11.out.bel hc BX.out B11.out.size)
  have R12 : Hid (w12.heap[w.heap.size]? = some (.cells #[.slice la ln lc, .slice sa sn sc, .slice oa on oc] 25 (0, 0))) := X11.out.row hc R11.out (by decide) (by decide)
  have W12 : Hid (DA w12 w21.heap.size (.slice a1 x1 c1) (.slice a2 x2 c2) (.slice a3 x3 c3) XL XS XO) := W11.out.keepLow LW.out hc X11.out.ge.1 X11.out.ge.2.1 X11.out.ge.2.2
  have P12 : Hid (w12.heap[w3.heap.size]? = some (.cells #[.slice a1 x1 c1, .slice a2 x2 c2, .slice a3 x3 c3] 31 (0, 0))) := X11.out.row hc P11.out (by decide) (by decide)
  have C12 : Hid (w12.heap[gk]? = some (.cells (cellsOf K) 2 (0, 0))) := X11.out.row hc C11.out (by decide) (by decide)
  have G12 : Hid (DA w12 bg (.slice b1 x1 e1) (.slice b2 x2 e2) (.slice b3 x3 e3) XL XS XO) := G11.out.keepHigh hc LX.out.1 LX.out.2.1 LX.out.2.2
  have O12 : Hid (w12.heap[w7.heap.size]? = some (.cells #[.slice b1 x1 e1, .slice b2 x2 e2, .slice b3 x3 e3] 31 (0, 0))) := X11.out.row hc O11.out (by decide) (by decide)
  clear zq0 zq1 zq2
  clear hc Q11 X11 B11 R11 W11 P11 C11 G11 O11
  go_wp2_with fail
  refine (MI.out _ _ C12.out).mono ?_
  rintro e w121 ⟨rfl, hg⟩
  have B121 : Hid (Below w.heap.size w w121) := bel_gr B12.out hg IG.out
  have R121 : Hid (w121.heap[w.heap.size]? = some (.cells #[.slice la ln lc, .slice sa sn sc, .slice oa on oc] 25 (0, 0))) := row_gr R12.out hg C12.out (by decide)
  have W121 : Hid (DA w121 w21.heap.size (.slice a1 x1 c1) (.slice a2 x2 c2) (.slice a3 x3 c3) XL XS XO) := W12.out.gr hg C12.out (by decide) (by decide)
  have P121 : Hid (w121.heap[w3.heap.size]? = some (.cells #[.slice a1 x1 c1, .slice a2 x2 c2, .slice a3 x3 c3] 31 (0, 0))) := row_gr P12.out hg C12.out (by decide)
  have G121 : Hid (DA w121 bg (.slice b1 x1 e1) (.slice b2 x2 e2) (.slice b3 x3 e3) XL XS XO) := G12.out.gr hg C12.out (by decide) (by decide)
  have O121 : Hid (w121.heap[w7.heap.size]? = some (.cells #[.slice b1 x1 e1, .slice b2 x2 e2, .slice b3 x3 e3] 31 (0, 0))) := row_gr O12.out hg C12.out (by decide)
  clear hg B12 R12 W12 P12 C12 G12 O12
  obtain ⟨zo0, zo1, zo2⟩ := cells3 O121.out
  obtain ⟨zp0, zp1, zp2⟩ := cells3 P121.out
  go_wp2_with fail
  refine (EX.out _ _ _ _ _ _ _ _ _ _ _ _ _ _ _ G121.out W121.out).mono ?_
  rintro e w13 ⟨rfl, hb⟩
  have B13 : Hid (Below w.heap.size w w13) := B121.out.trans (hb.mono B121.out.size)
  have R13 : Hid (w13.heap[w.heap.size]? = some (.cells #[.slice la ln lc, .slice sa sn sc, .slice oa on oc] 25 (0, 0))) := below_row hb (row_lt R121.out) R121.out
  have W13 : Hid (DA w13 w21.heap.size (.slice a1 x1 c1) (.slice a2 x2 c2) (.slice a3 x3 c3) XL XS XO) := W121.out.below hb
  have P13 : Hid (w13.heap[w3.heap.size]? = some (.cells #[.slice a1 x1 c1, .slice a2 x2 c2, .slice a3 x3 c3] 31 (0, 0))) := below_row hb (row_lt P121.out) P121.out
  have G13 : Hid (DA w13 bg (.slice b1 x1 e1) (.slice b2 x2 e2) (.slice b3 x3 e3) XL XS XO) := G121.out.below hb
  have O13 : Hid (w13.heap[w7.heap.size]? = some (.cells #[.slice b1 x1 e1, .slice b2 x2 e2, .slice b3 x3 e3] 31 (0, 0))) := below_row hb (row_lt O121.out) O121.out
  clear B121 R121 W121 P121 G121 O121
  clear zo0 zo1 zo2 zp0 zp1 zp2
  clear hb
  obtain ⟨zo0, zo1, zo2⟩ := cells3 O13.out
  go_wp2_with fail
  refine (MG.out _ _ _ _ _ _ _ _ G13.out).mono ?_
  rintro e w14 ⟨rfl, hc, hg⟩
  have B14 : Hid (Below w.heap.size w w14) := B13.out.trans (G13.out.bel hc BG.out B13.out.size)
  have R14 : Hid (w14.heap[w.heap.size]? = some (.cells #[.slice la ln lc, .slice sa sn sc, .slice oa on oc] 25 (0, 0))) := G13.out.row hc R13.out (by decide) (by decide)
  have W14 : Hid (DA w14 w21.heap.size (.slice a1 x1 c1) (.slice a2 x2 c2) (.slice a3 x3 c3) XL XS XO) := W13.out.keepLow LV.out hc G13.out.ge.1 G13.out.ge.2.1 G13.out.ge.2.2
  have P14 : Hid (w14.heap[w3.heap.size]? = some (.cells #[.slice a1 x1 c1, .slice a2 x2 c2, .slice a3 x3 c3] 31 (0, 0))) := G13.out.row hc P13.out (by decide) (by decide)
  have O14 : Hid (w14.heap[w7.heap.size]? = some (.cells #[.slice b1 x1 e1, .slice b2 x2 e2, .slice b3 x3 e3] 31 (0, 0))) := G13.out.row hc O13.out (by decide) (by decide)
  have G14 : Hid (DA w14 bg (.slice b1 x1 e1) (.slice b2 x2 e2) (.slice b3 x3 e3) (mkF 1 x1) (mkF (1 + 2 * x1) x2) (mkO (1 + 2 * x1 + 2 * x2) x3)) := hg
  clear zo0 zo1 zo2
  clear hc hg B13 R13 W13 P13 G13 O13
  obtain ⟨zo0, zo1, zo2⟩ := cells3 O14.out
  go_wp2_with fail
  refine (HE.out _ _ _ _ _ _ _ _ G14.out).mono ?_
  rintro e w15 ⟨rfl, hb⟩
  have B15 : Hid (Below w.heap.size w w15) := B14.out.trans (hb.mono B14.out.size)
  have R15 : Hid (w15.heap[w.heap.size]? = some (.cells #[.slice la ln lc, .slice sa sn sc, .slice oa on oc] 25 (0, 0))) := below_row hb (row_lt R14.out) R14.out
  have W15 : Hid (DA w15 w21.heap.size (.slice a1 x1 c1) (.slice a2 x2 c2) (.slice a3 x3 c3) XL XS XO) := W14.out.below hb
  have P15 : Hid (w15.heap[w3.heap.size]? = some (.cells #[.slice a1 x1 c1, .slice a2 x2 c2, .slice a3 x3 c3] 31 (0, 0))) := below_row hb (row_lt P14.out) P14.out
  have G15 : Hid (DA w15 bg (.slice b1 x1 e1) (.slice b2 x2 e2) (.slice b3 x3 e3) (mkF 1 x1) (mkF (1 + 2 * x1) x2) (mkO (1 + 2 * x1 + 2 * x2) x3)) := G14.out.below hb
  have O15 : Hid (w15.heap[w7.heap.size]? = some (.cells #[.slice b1 x1 e1, .slice b2 x2 e2, .slice b3 x3 e3] 31 (0, 0))) := below_row hb (row_lt O14.out) O14.out
  clear B14 R14 W14 P14 G14 O14
  clear zo0 zo1 zo2
  clear hb
  obtain ⟨zr0, zr1, zr2⟩ := cells3 R15.out
  go_wp2_with fail
  refine (TD.out _ B15.out).mono ?_
  rintro e w16 ⟨gl6, gs6, go6, rfl, hb, -, -, hd⟩
  have B16 : Hid (Below w.heap.size w w16) := B15.out.trans (hb.mono B15.out.size)
  have R16 : Hid (w16.heap[w.heap.size]? = some (.cells #[.slice la ln lc, .slice sa sn sc, .slice oa on oc] 25 (0, 0))) := below_row hb (row_lt R15.out) R15.out
  have W16 : Hid (DA w16 w21.heap.size (.slice a1 x1 c1) (.slice a2 x2 c2) (.slice a3 x3 c3) XL XS XO) := W15.out.below hb
  have P16 : Hid (w16.heap[w3.heap.size]? = some (.cells #[.slice a1 x1 c1, .slice a2 x2 c2, .slice a3 x3 c3] 31 (0, 0))) := below_row hb (row_lt P15.out) P15.out
  have G16 : Hid (DA w16 bg (.slice b1 x1 e1) (.slice b2 x2 e2) (.slice b3 x3 e3) (mkF 1 x1) (mkF (1 + 2 * x1) x2) (mkO (1 + 2 * x1 + 2 * x2) x3)) := G15.out.below hb
  have O16 : Hid (w16.heap[w7.heap.size]? = some (.cells #[.slice b1 x1 e1, .slice b2 x2 e2, .slice b3 x3 e3] 31 (0, 0))) := below_row hb (row_lt O15.out) O15.out
  clear B15 R15 W15 P15 G15 O15
  have D16 : Hid (DAt w16 (some ⟨gl6, 0, none⟩) (some ⟨gs6, 0, none⟩) (some ⟨go6, 0, none⟩) L S O) := hd
  clear zr0 zr1 zr2
  clear hb hd
  go_wp2_with fail
  refine (TI.out _ B16.out).mono ?_
  rintro e w161 ⟨gk4, rfl, hb, hi, -, -⟩
  have B161 : Hid (Below w.heap.size w w161) := B16.out.trans (hb.mono B16.out.size)
  have R161 : Hid (w161.heap[w.heap.size]? = some (.cells #[.slice la ln lc, .slice sa sn sc, .slice oa on oc] 25 (0, 0))) := below_row hb (row_lt R16.out) R16.out
  have W161 : Hid (DA w161 w21.heap.size (.slice a1 x1 c1) (.slice a2 x2 c2) (.slice a3 x3 c3) XL XS XO) := W16.out.below hb
  have P161 : Hid (w161.heap[w3.heap.size]? = some (.cells #[.slice a1 x1 c1, .slice a2 x2 c2, .slice a3 x3 c3] 31 (0, 0))) := below_row hb (row_lt P16.out) P16.out
  have G161 : Hid (DA w161 bg (.slice b1 x1 e1) (.slice b2 x2 e2) (.slice b3 x3 e3) (mkF 1 x1) (mkF (1 + 2 * x1) x2) (mkO (1 + 2 * x1 + 2 * x2) x3)) := G16.out.below hb
  have O161 : Hid (w161.heap[w7.heap.size]? = some (.cells #[.slice b1 x1 e1, .slice b2 x2 e2, .slice b3 x3 e3] 31 (0, 0))) := below_row hb (row_lt O16.out) O16.out
  have D161 : Hid (DAt w161 (some ⟨gl6, 0, none⟩) (some ⟨gs6, 0, none⟩) (some ⟨go6, 0, none⟩) L S O) := D16.out.below hb
  clear B16 R16 W16 P16 G16 O16 D16
  have I161 : Hid (IntsAt w161 (some ⟨gk4, 0, none⟩) K) := hi
  clear hb hi
  go_wp2_with fail
  refine (IM.out _ _ _ _ _ D161.out I161.out).mono ?_
  rintro e w17 ⟨k1, f1, k2, f2, k3, f3, rfl, hb, hh⟩
  have B17 : Hid (Below w.heap.size w w17) := B161.out.trans (hb.mono B161.out.size)
  have R17 : Hid (w17.heap[w.heap.size]? = some (.cells #[.slice la ln lc, .slice sa sn sc, .slice oa on oc] 25 (0, 0))) := below_row hb (row_lt R161.out) R161.out
  have W17 : Hid (DA w17 w21.heap.size (.slice a1 x1 c1) (.slice a2 x2 c2) (.slice a3 x3 c3) XL XS XO) := W161.out.below hb
  have P17 : Hid (w17.heap[w3.heap.size]? = some (.cells #[.slice a1 x1 c1, .slice a2 x2 c2, .slice a3 x3 c3] 31 (0, 0))) := below_row hb (row_lt P161.out) P161.out
  have G17 : Hid (DA w17 bg (.slice b1 x1 e1) (.slice b2 x2 e2) (.slice b3 x3 e3) (mkF 1 x1) (mkF (1 + 2 * x1) x2) (mkO (1 + 2 * x1 + 2 * x2) x3)) := G161.out.below hb
  have O17 : Hid (w17.heap[w7.heap.size]? = some (.cells #[.slice b1 x1 e1, .slice b2 x2 e2, .slice b3 x3 e3] 31 (0, 0))) := below_row hb (row_lt O161.out) O161.out
  clear B161 R161 W161 P161 G161 O161
  have H17 : Hid (DA w17 w161.heap.size (.slice k1 x1 f1) (.slice k2 x2 f2) (.slice k3 x3 f3) XL XS XO) := hh
  clear hb hh D161 I161
  have hb18 : Below w17.heap.size w17 (w17.alloc (.cells #[.slice k1 x1 f1, .slice k2 x2 f2, .slice k3 x3 f3] 31)) := (Below.refl _ _).alloc (Nat.le_refl _) _
  have B18 : Hid (Below w.heap.size w (w17.alloc (.cells #[.slice k1 x1 f1, .slice k2 x2 f2, .slice k3 x3 f3] 31))) := B17.out.trans (hb18.mono B17.out.size)
  have R18 : Hid ((w17.alloc (.cells #[.slice k1 x1 f1, .slice k2 x2 f2, .slice k3 x3 f3] 31)).heap[w.heap.size]? = some (.cells #[.slice la ln lc, .slice sa sn sc, .slice oa on oc] 25 (0, 0))) := below_row hb18 (row_lt R17.out) R17.out
  have W18 : Hid (DA (w17.alloc (.cells #[.slice k1 x1 f1, .slice k2 x2 f2, .slice k3 x3 f3] 31)) w21.heap.size (.slice a1 x1 c1) (.slice a2 x2 c2) (.slice a3 x3 c3) XL XS XO) := W17.out.below hb18
  have P18 : Hid ((w17.alloc (.cells #[.slice k1 x1 f1, .slice k2 x2 f2, .slice k3 x3 f3] 31)).heap[w3.heap.size]? = some (.cells #[.slice a1 x1 c1, .slice a2 x2 c2, .slice a3 x3 c3] 31 (0, 0))) := below_row hb18 (row_lt P17.out) P17.out
  have G18 : Hid (DA (w17.alloc (.cells #[.slice k1 x1 f1, .slice k2 x2 f2, .slice k3 x3 f3] 31)) bg (.slice b1 x1 e1) (.slice b2 x2 e2) (.slice b3 x3 e3) (mkF 1 x1) (mkF (1 + 2 * x1) x2) (mkO (1 + 2 * x1 + 2 * x2) x3)) := G17.out.below hb18
  have O18 : Hid ((w17.alloc (.cells #[.slice k1 x1 f1, .slice k2 x2 f2, .slice k3 x3 f3] 31)).heap[w7.heap.size]? = some (.cells #[.slice b1 x1 e1, .slice b2 x2 e2, .slice b3 x3 e3] 31 (0, 0))) := below_row hb18 (row_lt O17.out) O17.out
  have H18 : Hid (DA (w17.alloc (.cells #[.slice k1 x1 f1, .slice k2 x2 f2, .slice k3 x3 f3] 31)) w161.heap.size (.slice k1 x1 f1) (.slice k2 x2 f2) (.slice k3 x3 f3) XL XS XO) := H17.out.below hb18
  clear B17 R17 W17 P17 G17 O17 H17
  have U18 : Hid ((w17.alloc (.cells #[.slice k1 x1 f1, .slice k2 x2 f2, .slice k3 x3 f3] 31)).heap[w17.heap.size]? = some (.cells #[.slice k1 x1 f1, .slice k2 x2 f2, .slice k3 x3 f3] 31 (0, 0))) := heap_alloc_new _ _
  clear hb18
  obtain ⟨zu0, zu1, zu2⟩ := cells3 U18.out
  obtain ⟨zp0, zp1, zp2⟩ := cells3 P18.out
  go_wp2_with fail
  refine (EX.out _ _ _ _ _ _ _ _ _ _ _ _ _ _ _ H18.out W18.out).mono ?_
  rintro e w19 ⟨rfl, hb⟩
  have B19 : Hid (Below w.heap.size w w19) := B18.out.trans (hb.mono B18.out.size)
  have R19 : Hid (w19.heap[w.heap.size]? = some (.cells #[.slice la ln lc, .slice sa sn sc, .slice oa on oc] 25 (0, 0))) := below_row hb (row_lt R18.out) R18.out
  have W19 : Hid (DA w19 w21.heap.size (.slice a1 x1 c1) (.slice a2 x2 c2) (.slice a3 x3 c3) XL XS XO) := W18.out.below hb
  have P19 : Hid (w19.heap[w3.heap.size]? = some (.cells #[.slice a1 x1 c1, .slice a2 x2 c2, .slice a3 x3 c3] 31 (0, 0))) := below_row hb (row_lt P18.out) P18.out
  have G19 : Hid (DA w19 bg (.slice b1 x1 e1) (.slice b2 x2 e2) (.slice b3 x3 e3) (mkF 1 x1) (mkF (1 + 2 * x1) x2) (mkO (1 + 2 * x1 + 2 * x2) x3)) := G18.out.below hb
  have O19 : Hid (w19.heap[w7.heap.size]? = some (.cells #[.slice b1 x1 e1, .slice b2 x2 e2, .slice b3 x3 e3] 31 (0, 0))) := below_row hb (row_lt O18.out) O18.out
  have H19 : Hid (DA w19 w161.heap.size (.slice k1 x1 f1) (.slice k2 x2 f2) (.slice k3 x3 f3) XL XS XO) := H18.out.below hb
  have U19 : Hid (w19.heap[w17.heap.size]? = some (.cells #[.slice k1 x1 f1, .slice k2 x2 f2, .slice k3 x3 f3] 31 (0, 0))) := below_row hb (row_lt U18.out) U18.out
  clear B18 R18 W18 P18 G18 O18 H18 U18
  clear zu0 zu1 zu2 zp0 zp1 zp2
  clear hb
  obtain ⟨zo0, zo1, zo2⟩ := cells3 O19.out
  go_wp2_with fail
  refine (HE.out _ _ _ _ _ _ _ _ G19.out).mono ?_
  rintro e w20 ⟨rfl, hb⟩
  have B20 : Hid (Below w.heap.size w w20) := B19.out.trans (hb.mono B19.out.size)
  clear hb
  clear zo0 zo1 zo2
  go_wp2
  go_ret
  exact ⟨rfl, B20.out⟩

end Go.Proofs.Ytighhcdlgjaacaa
