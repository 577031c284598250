import Derived.Test.YtighhcdlgjaacaaPack22
import Derived.Test.YtighhcdlgjaacaaPack32
import Derived.Test.YtighhcdlgjaacaaSpecRepl12
import Derived.Deep.RegionHeld3
namespace Go.Proofs.Ytighhcdlgjaacaa
open Go.RowKit

/-- The cells of two boxes. -/
theorem SS {W : World} {p q : Nat} {T U : TypeId} {u0 u1 u2 v0 v1 v2 : Value} (h1 : W.heap[p]? = some (.cells #[u0, u1, u2] T (0, 0))) (h2 : W.heap[q]? = some (.cells #[v0, v1, v2] U (0, 0))) : W.cell? ⟨p, 0, none⟩ = some u0 ∧ W.cell? ⟨p, 1, none⟩ = some u1 ∧ W.cell? ⟨p, 2, none⟩ = some u2 ∧ W.cell? ⟨q, 0, none⟩ = some v0 ∧ W.cell? ⟨q, 1, none⟩ = some v1 ∧ W.cell? ⟨q, 2, none⟩ = some v2 := by
  obtain ⟨a, b, c⟩ := cells3 h1
  exact ⟨a, b, c, cells3 h2⟩

set_option maxHeartbeats 8000000 in
set_option maxRecDepth 20000 in
theorem lawRepl (nm dt : ByteArray) (hnm : nm.size ≤ 9223372036854775807) (hdt : dt.size ≤ 9223372036854775807) (la sa oa : Option Addr) (lc sc oc : Nat) (L S : List FI) (O : List OP) (w : World) (hD : DAt w la sa oa L S O) (hLn : L.length ≤ 9223372036854775807) (hSn : S.length ≤ 9223372036854775807) (hOn : O.length ≤ 9223372036854775807) (hLt : TxF L) (hSt : TxF S) (hOt : TxO O) :
    Calls Try.prog 8 #[.agg #[.slice la L.length lc, .slice sa S.length sc, .slice oa O.length oc], .string nm, .string dt] w fun e w' => e = .returned (.bool true) ∧ Below w.heap.size w w' := by
  have SZ : Hid (∀ W, DAt W la sa oa L S O → Calls Try.prog 9 #[.agg #[.slice la L.length lc, .slice sa S.length sc, .slice oa O.length oc], .int .i64 1048576] W fun e w' => ∃ x : Int, e = .returned (.int .i64 x) ∧ x ≤ 1048576 ∧ (0 ≤ x → DskOk L S O) ∧ Below W.heap.size W w') := fun W h => szDisk_any la sa oa lc sc oc L S O W h.l h.s h.o hLn hSn hOn hLt hSt hOt
  obtain ⟨ln, HLN⟩ : ∃ n, Hid (L.length = n) := ⟨_, rfl⟩
  obtain ⟨sn, HSN⟩ : ∃ n, Hid (S.length = n) := ⟨_, rfl⟩
  obtain ⟨on, HON⟩ : ∃ n, Hid (O.length = n) := ⟨_, rfl⟩
  rw [HLN.out, HSN.out, HON.out] at SZ ⊢
  clear hLn hSn hOn hLt hSt hOt
  have B0 : Hid (Below w.heap.size w (w.alloc (.cells #[.slice la ln lc, .slice sa sn sc, .slice oa on oc] 25))) := (Below.refl _ _).alloc (Nat.le_refl _) _
  have R0 : Hid ((w.alloc (.cells #[.slice la ln lc, .slice sa sn sc, .slice oa on oc] 25)).heap[w.heap.size]? = some (.cells #[.slice la ln lc, .slice sa sn sc, .slice oa on oc] 25 (0, 0))) := heap_alloc_new _ _
  obtain ⟨c0, c1, c2⟩ := cells3 R0.out
  have H0 : Hid (DAt w la sa oa L S O) := hD
  clear hD
  by_cases hbn : 1048576 < nm.size
  · have hbn' : (1048576 : Int) < nm.size := by omega
    go_enter Try.func8, Try.ntmps8
    go_wp2
    go_ret
    exact ⟨rfl, B0.out⟩
  have hbn' : ¬ ((1048576 : Int) < nm.size) := by omega
  by_cases hbd : 1048576 < dt.size
  · have hbd' : (1048576 : Int) < dt.size := by omega
    go_enter Try.func8, Try.ntmps8
    go_wp2
    go_ret
    exact ⟨rfl, B0.out⟩
  have hbd' : ¬ ((1048576 : Int) < dt.size) := by omega
  go_enter Try.func8, Try.ntmps8
  go_wp2_with fail
  refine (SZ.out _ (H0.out.below B0.out)).mono ?_
  rintro e w1 ⟨x, rfl, hx1, hx2, hb1⟩
  have HK0 : Hid (0 ≤ x → DskOk L S O) := hx2
  have B1 : Hid (Below w.heap.size w w1) := B0.out.trans (hb1.mono B0.out.size)
  have R1 : Hid (w1.heap[w.heap.size]? = some (.cells #[.slice la ln lc, .slice sa sn sc, .slice oa on oc] 25 (0, 0))) := below_row hb1 (row_lt R0.out) R0.out
  obtain ⟨d0, d1, d2⟩ := cells3 R1.out
  clear hx2 hb1 c0 c1 c2
  by_cases hneg : x < 0
  · go_wp2
    go_ret
    exact ⟨rfl, B1.out⟩
  have HK : Hid (DskOk L S O) := HK0.out (by omega)
  clear HK0
  have bl : ln ≤ 1048576 := by rw [← HLN.out]; exact HK.out.ln
  have bs : sn ≤ 1048576 := by rw [← HSN.out]; exact HK.out.sn
  have bo : on ≤ 1048576 := by rw [← HON.out]; exact HK.out.on
  have TD : Hid (∀ W, Below w.heap.size w W → Calls Try.prog 11 #[.agg #[.slice la ln lc, .slice sa sn sc, .slice oa on oc]] W fun e w' => ∃ gl gs go : Nat, e = .returned (.agg #[.slice (some ⟨gl, 0, none⟩) ln ln, .slice (some ⟨gs, 0, none⟩) sn sn, .slice (some ⟨go, 0, none⟩) on on]) ∧ Below W.heap.size W w' ∧ gl ≠ gs ∧ DO w' W.heap.size (.slice (some ⟨gl, 0, none⟩) ln ln) (.slice (some ⟨gs, 0, none⟩) sn sn) (.slice (some ⟨go, 0, none⟩) on on) L S O ∧ DAt w' (some ⟨gl, 0, none⟩) (some ⟨gs, 0, none⟩) (some ⟨go, 0, none⟩) L S O) := fun W hW => toDisk_at la sa oa lc sc oc ln sn on L S O W (H0.out.below hW) HK.out HLN.out HSN.out HON.out
  obtain ⟨XL, XS, XO, x1, x2, x3, kd, hx1, hx2, hx3, bx1, bx2, bx3, hsp, him⟩ : ∃ (XL XS : List FI) (XO : List OP) (x1 x2 x3 : Nat) (kd : Int), XL.length = x1 ∧ XS.length = x2 ∧ XO.length = x3 ∧ x1 ≤ 1048576 ∧ x2 ≤ 1048576 ∧ x3 ≤ 1048576 ∧ (∀ W gl gs go, DAt W (some ⟨gl, 0, none⟩) (some ⟨gs, 0, none⟩) (some ⟨go, 0, none⟩) L S O → Calls Try.prog 29 #[.agg #[.slice (some ⟨gl, 0, none⟩) ln ln, .slice (some ⟨gs, 0, none⟩) sn sn, .slice (some ⟨go, 0, none⟩) on on], .string nm, .string dt] W fun e w' => ∃ a1 c1 a2 c2 a3 c3, e = .returned (.tuple #[.agg #[.slice a1 x1 c1, .slice a2 x2 c2, .slice a3 x3 c3], .int .i64 kd]) ∧ Below W.heap.size W w' ∧ DA w' W.heap.size (.slice a1 x1 c1) (.slice a2 x2 c2) (.slice a3 x3 c3) XL XS XO) ∧ (∀ W gl gs go, DAt W (some ⟨gl, 0, none⟩) (some ⟨gs, 0, none⟩) (some ⟨go, 0, none⟩) L S O → Calls Try.prog 30 #[.agg #[.slice (some ⟨gl, 0, none⟩) ln ln, .slice (some ⟨gs, 0, none⟩) sn sn, .slice (some ⟨go, 0, none⟩) on on], .string nm, .string dt] W fun e w' => ∃ a1 c1 a2 c2 a3 c3, e = .returned (.tuple #[.agg #[.slice a1 x1 c1, .slice a2 x2 c2, .slice a3 x3 c3], .int .i64 kd]) ∧ Below W.heap.size W w' ∧ DA w' W.heap.size (.slice a1 x1 c1) (.slice a2 x2 c2) (.slice a3 x3 c3) XL XS XO) := by
    have hb : (rpL L S O nm dt).length ≤ 1048576 ∧ (rpS L S O).length ≤ 1048576 ∧ (rpO L S O nm dt).length ≤ 1048576 := by
      unfold rpL rpS rpO
      cases hd : dskB L S O
      · simp
      · obtain ⟨hfl, hfs, h200⟩ := dsk_parts hd
        have h1 := runR_ok (repO L nm dt) L O hfl
        have h2 := repO_len L nm dt
        have := (filB_true.1 hfl).1
        have := (filB_true.1 hfs).1
        have := (filB_true.1 h1.1).1
        rw [if_pos rfl, if_pos rfl, if_pos rfl]
        refine ⟨?_, by omega, ?_⟩
        · split <;> omega
        · split <;> omega
    exact ⟨rpL L S O nm dt, rpS L S O, rpO L S O nm dt, _, _, _, rpK L S O nm dt, rfl, rfl, rfl, hb.1, hb.2.1, hb.2.2, fun W gl gs go h => specRepl_any nm dt (by omega) (by omega) _ _ _ ln sn on ln sn on _ _ _ _ L S O W h HK.out HLN.out HSN.out HON.out rfl rfl rfl rfl, fun W gl gs go h => implRepl_any nm dt (by omega) (by omega) _ _ _ ln sn on ln sn on _ _ _ _ L S O W h HK.out HLN.out HSN.out HON.out (Nat.le_refl _) (fun h => by cases h) rfl rfl rfl rfl⟩
  have SP : Hid (∀ W gl gs go, DAt W (some ⟨gl, 0, none⟩) (some ⟨gs, 0, none⟩) (some ⟨go, 0, none⟩) L S O → Calls Try.prog 29 #[.agg #[.slice (some ⟨gl, 0, none⟩) ln ln, .slice (some ⟨gs, 0, none⟩) sn sn, .slice (some ⟨go, 0, none⟩) on on], .string nm, .string dt] W fun e w' => ∃ a1 c1 a2 c2 a3 c3, e = .returned (.tuple #[.agg #[.slice a1 x1 c1, .slice a2 x2 c2, .slice a3 x3 c3], .int .i64 kd]) ∧ Below W.heap.size W w' ∧ DA w' W.heap.size (.slice a1 x1 c1) (.slice a2 x2 c2) (.slice a3 x3 c3) XL XS XO) := hsp
  have IM : Hid (∀ W gl gs go, DAt W (some ⟨gl, 0, none⟩) (some ⟨gs, 0, none⟩) (some ⟨go, 0, none⟩) L S O → Calls Try.prog 30 #[.agg #[.slice (some ⟨gl, 0, none⟩) ln ln, .slice (some ⟨gs, 0, none⟩) sn sn, .slice (some ⟨go, 0, none⟩) on on], .string nm, .string dt] W fun e w' => ∃ a1 c1 a2 c2 a3 c3, e = .returned (.tuple #[.agg #[.slice a1 x1 c1, .slice a2 x2 c2, .slice a3 x3 c3], .int .i64 kd]) ∧ Below W.heap.size W w' ∧ DA w' W.heap.size (.slice a1 x1 c1) (.slice a2 x2 c2) (.slice a3 x3 c3) XL XS XO) := him
  have hkd : (kd != kd) = false := by simp
  have X1 : Hid (XL.length = x1) := hx1
  have X2 : Hid (XS.length = x2) := hx2
  have X3 : Hid (XO.length = x3) := hx3
  clear hsp him hx1 hx2 hx3
  have EQ : Hid (∀ W a b c a2 b2 c2, DAt W a b c L S O → DAt W a2 b2 c2 L S O → Calls Try.prog 13 #[.agg #[.slice a ln ln, .slice b sn sn, .slice c on on], .agg #[.slice a2 ln ln, .slice b2 sn sn, .slice c2 on on]] W fun e w' => e = .returned (.bool true) ∧ Below W.heap.size W w') := fun W a b c a2 b2 c2 h1 h2 => eqDisk_same a b c a2 b2 c2 ln sn on ln sn on ln sn on L S O W h1 h2 HLN.out HSN.out HON.out bl bs bo
  have EX : Hid (∀ W B B2 a1 c1 a2 c2 a3 c3 b1 e1 b2 e2 b3 e3, DA W B (.slice b1 x1 e1) (.slice b2 x2 e2) (.slice b3 x3 e3) XL XS XO → DA W B2 (.slice a1 x1 c1) (.slice a2 x2 c2) (.slice a3 x3 c3) XL XS XO → Calls Try.prog 13 #[.agg #[.slice b1 x1 e1, .slice b2 x2 e2, .slice b3 x3 e3], .agg #[.slice a1 x1 c1, .slice a2 x2 c2, .slice a3 x3 c3]] W fun e w' => e = .returned (.bool true) ∧ Below W.heap.size W w') := fun W B B2 a1 c1 a2 c2 a3 c3 b1 e1 b2 e2 b3 e3 h1 h2 => eqDisk_same b1 b2 b3 a1 a2 a3 e1 e2 e3 c1 c2 c3 x1 x2 x3 XL XS XO W (h1.at X1.out X2.out X3.out) (h2.at X1.out X2.out X3.out) X1.out X2.out X3.out bx1 bx2 bx3
  obtain ⟨m, HM⟩ : ∃ n : Nat, Hid (1 + 2 * ln + 2 * sn + 4 * on = n) := ⟨_, rfl⟩
  obtain ⟨n, HN⟩ : ∃ n : Nat, Hid (1 + 2 * x1 + 2 * x2 + 4 * x3 = n) := ⟨_, rfl⟩
  have MX : Hid (∀ W B gl gs go, DA W B (.slice (some ⟨gl, 0, none⟩) ln ln) (.slice (some ⟨gs, 0, none⟩) sn sn) (.slice (some ⟨go, 0, none⟩) on on) L S O → Calls Try.prog 18 #[.agg #[.slice (some ⟨gl, 0, none⟩) ln ln, .slice (some ⟨gs, 0, none⟩) sn sn, .slice (some ⟨go, 0, none⟩) on on], .int .i64 1] W fun e w' => e = .returned (.int .i64 (m : Int)) ∧ Chg3 W w' (Value.slice (some ⟨gl, 0, none⟩) ln ln).ownBlock (Value.slice (some ⟨gs, 0, none⟩) sn sn).ownBlock (Value.slice (some ⟨go, 0, none⟩) on on).ownBlock) := fun W B gl gs go h => by
    rw [← HM.out]
    exact (markDisk_any _ _ _ ln sn on ln sn on 1 B L S O W h HLN.out HSN.out HON.out bl bs bo (by omega) (by omega)).mono fun e w' ⟨h1, h2, _⟩ => ⟨h1, h2⟩
  have MG : Hid (∀ W B b1 e1 b2 e2 b3 e3, DA W B (.slice b1 x1 e1) (.slice b2 x2 e2) (.slice b3 x3 e3) XL XS XO → Calls Try.prog 18 #[.agg #[.slice b1 x1 e1, .slice b2 x2 e2, .slice b3 x3 e3], .int .i64 1] W fun e w' => e = .returned (.int .i64 (n : Int)) ∧ Chg3 W w' (Value.slice b1 x1 e1).ownBlock (Value.slice b2 x2 e2).ownBlock (Value.slice b3 x3 e3).ownBlock ∧ DA w' B (.slice b1 x1 e1) (.slice b2 x2 e2) (.slice b3 x3 e3) (mkF 1 x1) (mkF (1 + 2 * x1) x2) (mkO (1 + 2 * x1 + 2 * x2) x3)) := fun W B b1 e1 b2 e2 b3 e3 h => by
    rw [← HN.out]
    exact markDisk_any b1 b2 b3 e1 e2 e3 x1 x2 x3 1 B XL XS XO W h X1.out X2.out X3.out bx1 bx2 bx3 (by omega) (by omega)
  have HE : Hid (∀ W B b1 e1 b2 e2 b3 e3, DA W B (.slice b1 x1 e1) (.slice b2 x2 e2) (.slice b3 x3 e3) (mkF 1 x1) (mkF (1 + 2 * x1) x2) (mkO (1 + 2 * x1 + 2 * x2) x3) → Calls Try.prog 19 #[.agg #[.slice b1 x1 e1, .slice b2 x2 e2, .slice b3 x3 e3], .int .i64 1] W fun e w' => e = .returned (.int .i64 (n : Int)) ∧ Below W.heap.size W w') := fun W B b1 e1 b2 e2 b3 e3 h => by
    rw [← HN.out]
    exact heldDisk_any b1 b2 b3 e1 e2 e3 x1 x2 x3 1 B W h.d bx1 bx2 bx3 (by omega) (by omega)
  have hmn : ¬ ((m : Int) < 0) := by omega
  have hnn : ¬ ((n : Int) < 0) := by omega
  have hne : ((n : Int) != (n : Int)) = false := by simp
  clear HM HN
  go_wp2_with fail
  refine (TD.out w1 B1.out).mono ?_
  rintro e w2 ⟨gl2, gs2, go2, rfl, hb2, -, -, hd2⟩
  have B2 : Hid (Below w.heap.size w w2) := B1.out.trans (hb2.mono B1.out.size)
  have R2 : Hid (w2.heap[w.heap.size]? = some (.cells #[.slice la ln lc, .slice sa sn sc, .slice oa on oc] 25 (0, 0))) := below_row hb2 (row_lt R1.out) R1.out
  clear B1 R1
  have D2 : Hid (DAt w2 (some ⟨gl2, 0, none⟩) (some ⟨gs2, 0, none⟩) (some ⟨go2, 0, none⟩) L S O) := hd2
  clear hb2 hd2 d0 d1 d2
  go_wp2_with fail
  refine (SP.out w2 _ _ _ D2.out).mono ?_
  rintro e w3 ⟨a1, c1, a2, c2, a3, c3, rfl, hb3, hw3⟩
  have B3 : Hid (Below w.heap.size w w3) := B2.out.trans (hb3.mono B2.out.size)
  have R3 : Hid (w3.heap[w.heap.size]? = some (.cells #[.slice la ln lc, .slice sa sn sc, .slice oa on oc] 25 (0, 0))) := below_row hb3 (row_lt R2.out) R2.out
  clear B2 R2
  have W3 : Hid (DA w3 w2.heap.size (.slice a1 x1 c1) (.slice a2 x2 c2) (.slice a3 x3 c3) XL XS XO) := hw3
  clear hb3 hw3 D2
  have hb4 : Below w3.heap.size w3 (w3.alloc (.cells #[.slice a1 x1 c1, .slice a2 x2 c2, .slice a3 x3 c3] 31)) := (Below.refl _ _).alloc (Nat.le_refl _) _
  have B4 : Hid (Below w.heap.size w (w3.alloc (.cells #[.slice a1 x1 c1, .slice a2 x2 c2, .slice a3 x3 c3] 31))) := B3.out.trans (hb4.mono B3.out.size)
  have R4 : Hid ((w3.alloc (.cells #[.slice a1 x1 c1, .slice a2 x2 c2, .slice a3 x3 c3] 31)).heap[w.heap.size]? = some (.cells #[.slice la ln lc, .slice sa sn sc, .slice oa on oc] 25 (0, 0))) := below_row hb4 (row_lt R3.out) R3.out
  have W4 : Hid (DA (w3.alloc (.cells #[.slice a1 x1 c1, .slice a2 x2 c2, .slice a3 x3 c3] 31)) w2.heap.size (.slice a1 x1 c1) (.slice a2 x2 c2) (.slice a3 x3 c3) XL XS XO) := W3.out.below hb4
  clear B3 R3 W3
  have P4 : Hid ((w3.alloc (.cells #[.slice a1 x1 c1, .slice a2 x2 c2, .slice a3 x3 c3] 31)).heap[w3.heap.size]? = some (.cells #[.slice a1 x1 c1, .slice a2 x2 c2, .slice a3 x3 c3] 31 (0, 0))) := heap_alloc_new _ _
  clear hb4
  obtain ⟨zr0, zr1, zr2⟩ := cells3 R4.out
  go_wp2_with fail
  refine (TD.out _ B4.out).mono ?_
  rintro e w5 ⟨gl, gs, go, rfl, hb5, hne5, hdo5, -⟩
  obtain ⟨bx, hbx, hlw, hx5⟩ : ∃ bx, w.heap.size ≤ bx ∧ LowD (.slice a1 x1 c1) (.slice a2 x2 c2) (.slice a3 x3 c3) bx ∧ DA w5 bx (.slice (some ⟨gl, 0, none⟩) ln ln) (.slice (some ⟨gs, 0, none⟩) sn sn) (.slice (some ⟨go, 0, none⟩) on on) L S O := ⟨_, B4.out.size, W4.out.low, ⟨hdo5, fun k h1 h2 => hne5 (Option.some.inj ((show some gl = some k from h1).trans (show some gs = some k from h2).symm))⟩⟩
  have BX : Hid (w.heap.size ≤ bx) := hbx
  have LW : Hid (LowD (.slice a1 x1 c1) (.slice a2 x2 c2) (.slice a3 x3 c3) bx) := hlw
  have B5 : Hid (Below w.heap.size w w5) := B4.out.trans (hb5.mono B4.out.size)
  have R5 : Hid (w5.heap[w.heap.size]? = some (.cells #[.slice la ln lc, .slice sa sn sc, .slice oa on oc] 25 (0, 0))) := below_row hb5 (row_lt R4.out) R4.out
  have W5 : Hid (DA w5 w2.heap.size (.slice a1 x1 c1) (.slice a2 x2 c2) (.slice a3 x3 c3) XL XS XO) := W4.out.below hb5
  have P5 : Hid (w5.heap[w3.heap.size]? = some (.cells #[.slice a1 x1 c1, .slice a2 x2 c2, .slice a3 x3 c3] 31 (0, 0))) := below_row hb5 (row_lt P4.out) P4.out
  clear B4 R4 W4 P4
  have X5 : Hid (DA w5 bx (.slice (some ⟨gl, 0, none⟩) ln ln) (.slice (some ⟨gs, 0, none⟩) sn sn) (.slice (some ⟨go, 0, none⟩) on on) L S O) := hx5
  clear zr0 zr1 zr2
  clear hb5 hne5 hdo5 hbx hlw hx5
  have hb6 : Below w5.heap.size w5 (w5.alloc (.cells #[.slice (some ⟨gl, 0, none⟩) ln ln, .slice (some ⟨gs, 0, none⟩) sn sn, .slice (some ⟨go, 0, none⟩) on on] 31)) := (Below.refl _ _).alloc (Nat.le_refl _) _
  have B6 : Hid (Below w.heap.size w (w5.alloc (.cells #[.slice (some ⟨gl, 0, none⟩) ln ln, .slice (some ⟨gs, 0, none⟩) sn sn, .slice (some ⟨go, 0, none⟩) on on] 31))) := B5.out.trans (hb6.mono B5.out.size)
  have R6 : Hid ((w5.alloc (.cells #[.slice (some ⟨gl, 0, none⟩) ln ln, .slice (some ⟨gs, 0, none⟩) sn sn, .slice (some ⟨go, 0, none⟩) on on] 31)).heap[w.heap.size]? = some (.cells #[.slice la ln lc, .slice sa sn sc, .slice oa on oc] 25 (0, 0))) := below_row hb6 (row_lt R5.out) R5.out
  have W6 : Hid (DA (w5.alloc (.cells #[.slice (some ⟨gl, 0, none⟩) ln ln, .slice (some ⟨gs, 0, none⟩) sn sn, .slice (some ⟨go, 0, none⟩) on on] 31)) w2.heap.size (.slice a1 x1 c1) (.slice a2 x2 c2) (.slice a3 x3 c3) XL XS XO) := W5.out.below hb6
  have P6 : Hid ((w5.alloc (.cells #[.slice (some ⟨gl, 0, none⟩) ln ln, .slice (some ⟨gs, 0, none⟩) sn sn, .slice (some ⟨go, 0, none⟩) on on] 31)).heap[w3.heap.size]? = some (.cells #[.slice a1 x1 c1, .slice a2 x2 c2, .slice a3 x3 c3] 31 (0, 0))) := below_row hb6 (row_lt P5.out) P5.out
  have X6 : Hid (DA (w5.alloc (.cells #[.slice (some ⟨gl, 0, none⟩) ln ln, .slice (some ⟨gs, 0, none⟩) sn sn, .slice (some ⟨go, 0, none⟩) on on] 31)) bx (.slice (some ⟨gl, 0, none⟩) ln ln) (.slice (some ⟨gs, 0, none⟩) sn sn) (.slice (some ⟨go, 0, none⟩) on on) L S O) := X5.out.below hb6
  clear B5 R5 W5 P5 X5
  have Q6 : Hid ((w5.alloc (.cells #[.slice (some ⟨gl, 0, none⟩) ln ln, .slice (some ⟨gs, 0, none⟩) sn sn, .slice (some ⟨go, 0, none⟩) on on] 31)).heap[w5.heap.size]? = some (.cells #[.slice (some ⟨gl, 0, none⟩) ln ln, .slice (some ⟨gs, 0, none⟩) sn sn, .slice (some ⟨go, 0, none⟩) on on] 31 (0, 0))) := heap_alloc_new _ _
  clear hb6
  obtain ⟨zq0, zq1, zq2⟩ := cells3 Q6.out
  go_wp2_with fail
  refine (IM.out _ _ _ _ (X6.out.at HLN.out HSN.out HON.out)).mono ?_
  rintro e w7 ⟨b1, e1, b2, e2, b3, e3, rfl, hb7, hg7⟩
  obtain ⟨bg, hbg, hlw, hlx, hg⟩ : ∃ bg, w.heap.size ≤ bg ∧ LowD (.slice a1 x1 c1) (.slice a2 x2 c2) (.slice a3 x3 c3) bg ∧ LowD (.slice (some ⟨gl, 0, none⟩) ln ln) (.slice (some ⟨gs, 0, none⟩) sn sn) (.slice (some ⟨go, 0, none⟩) on on) bg ∧ DA w7 bg (.slice b1 x1 e1) (.slice b2 x2 e2) (.slice b3 x3 e3) XL XS XO := ⟨_, B6.out.size, W6.out.low, X6.out.low, hg7⟩
  have BG : Hid (w.heap.size ≤ bg) := hbg
  have LV : Hid (LowD (.slice a1 x1 c1) (.slice a2 x2 c2) (.slice a3 x3 c3) bg) := hlw
  have LX : Hid (LowD (.slice (some ⟨gl, 0, none⟩) ln ln) (.slice (some ⟨gs, 0, none⟩) sn sn) (.slice (some ⟨go, 0, none⟩) on on) bg) := hlx
  have B7 : Hid (Below w.heap.size w w7) := B6.out.trans (hb7.mono B6.out.size)
  have R7 : Hid (w7.heap[w.heap.size]? = some (.cells #[.slice la ln lc, .slice sa sn sc, .slice oa on oc] 25 (0, 0))) := below_row hb7 (row_lt R6.out) R6.out
  have W7 : Hid (DA w7 w2.heap.size (.slice a1 x1 c1) (.slice a2 x2 c2) (.slice a3 x3 c3) XL XS XO) := W6.out.below hb7
  have P7 : Hid (w7.heap[w3.heap.size]? = some (.cells #[.slice a1 x1 c1, .slice a2 x2 c2, .slice a3 x3 c3] 31 (0, 0))) := below_row hb7 (row_lt P6.out) P6.out
  have X7 : Hid (DA w7 bx (.slice (some ⟨gl, 0, none⟩) ln ln) (.slice (some ⟨gs, 0, none⟩) sn sn) (.slice (some ⟨go, 0, none⟩) on on) L S O) := X6.out.below hb7
  have Q7 : Hid (w7.heap[w5.heap.size]? = some (.cells #[.slice (some ⟨gl, 0, none⟩) ln ln, .slice (some ⟨gs, 0, none⟩) sn sn, .slice (some ⟨go, 0, none⟩) on on] 31 (0, 0))) := below_row hb7 (row_lt Q6.out) Q6.out
  clear B6 R6 W6 P6 X6 Q6
  have G7 : Hid (DA w7 bg (.slice b1 x1 e1) (.slice b2 x2 e2) (.slice b3 x3 e3) XL XS XO) := hg
  clear zq0 zq1 zq2
  clear hb7 hg7 hbg hlw hlx hg
  have hb8 : Below w7.heap.size w7 (w7.alloc (.cells #[.slice b1 x1 e1, .slice b2 x2 e2, .slice b3 x3 e3] 31)) := (Below.refl _ _).alloc (Nat.le_refl _) _
  have B8 : Hid (Below w.heap.size w (w7.alloc (.cells #[.slice b1 x1 e1, .slice b2 x2 e2, .slice b3 x3 e3] 31))) := B7.out.trans (hb8.mono B7.out.size)
  have R8 : Hid ((w7.alloc (.cells #[.slice b1 x1 e1, .slice b2 x2 e2, .slice b3 x3 e3] 31)).heap[w.heap.size]? = some (.cells #[.slice la ln lc, .slice sa sn sc, .slice oa on oc] 25 (0, 0))) := below_row hb8 (row_lt R7.out) R7.out
  have W8 : Hid (DA (w7.alloc (.cells #[.slice b1 x1 e1, .slice b2 x2 e2, .slice b3 x3 e3] 31)) w2.heap.size (.slice a1 x1 c1) (.slice a2 x2 c2) (.slice a3 x3 c3) XL XS XO) := W7.out.below hb8
  have P8 : Hid ((w7.alloc (.cells #[.slice b1 x1 e1, .slice b2 x2 e2, .slice b3 x3 e3] 31)).heap[w3.heap.size]? = some (.cells #[.slice a1 x1 c1, .slice a2 x2 c2, .slice a3 x3 c3] 31 (0, 0))) := below_row hb8 (row_lt P7.out) P7.out
  have X8 : Hid (DA (w7.alloc (.cells #[.slice b1 x1 e1, .slice b2 x2 e2, .slice b3 x3 e3] 31)) bx (.slice (some ⟨gl, 0, none⟩) ln ln) (.slice (some ⟨gs, 0, none⟩) sn sn) (.slice (some ⟨go, 0, none⟩) on on) L S O) := X7.out.below hb8
  have Q8 : Hid ((w7.alloc (.cells #[.slice b1 x1 e1, .slice b2 x2 e2, .slice b3 x3 e3] 31)).heap[w5.heap.size]? = some (.cells #[.slice (some ⟨gl, 0, none⟩) ln ln, .slice (some ⟨gs, 0, none⟩) sn sn, .slice (some ⟨go, 0, none⟩) on on] 31 (0, 0))) := below_row hb8 (row_lt Q7.out) Q7.out
  have G8 : Hid (DA (w7.alloc (.cells #[.slice b1 x1 e1, .slice b2 x2 e2, .slice b3 x3 e3] 31)) bg (.slice b1 x1 e1) (.slice b2 x2 e2) (.slice b3 x3 e3) XL XS XO) := G7.out.below hb8
  clear B7 R7 W7 P7 X7 Q7 G7
  have O8 : Hid ((w7.alloc (.cells #[.slice b1 x1 e1, .slice b2 x2 e2, .slice b3 x3 e3] 31)).heap[w7.heap.size]? = some (.cells #[.slice b1 x1 e1, .slice b2 x2 e2, .slice b3 x3 e3] 31 (0, 0))) := heap_alloc_new _ _
  clear hb8
  obtain ⟨zo0, zo1, zo2⟩ := cells3 O8.out
  obtain ⟨zp0, zp1, zp2⟩ := cells3 P8.out
  go_wp2_with fail
  refine (EX.out _ _ _ _ _ _ _ _ _ _ _ _ _ _ _ G8.out W8.out).mono ?_
  rintro e w9 ⟨rfl, hb9⟩
  have B9 : Hid (Below w.heap.size w w9) := B8.out.trans (hb9.mono B8.out.size)
  have R9 : Hid (w9.heap[w.heap.size]? = some (.cells #[.slice la ln lc, .slice sa sn sc, .slice oa on oc] 25 (0, 0))) := below_row hb9 (row_lt R8.out) R8.out
  have W9 : Hid (DA w9 w2.heap.size (.slice a1 x1 c1) (.slice a2 x2 c2) (.slice a3 x3 c3) XL XS XO) := W8.out.below hb9
  have P9 : Hid (w9.heap[w3.heap.size]? = some (.cells #[.slice a1 x1 c1, .slice a2 x2 c2, .slice a3 x3 c3] 31 (0, 0))) := below_row hb9 (row_lt P8.out) P8.out
  have X9 : Hid (DA w9 bx (.slice (some ⟨gl, 0, none⟩) ln ln) (.slice (some ⟨gs, 0, none⟩) sn sn) (.slice (some ⟨go, 0, none⟩) on on) L S O) := X8.out.below hb9
  have Q9 : Hid (w9.heap[w5.heap.size]? = some (.cells #[.slice (some ⟨gl, 0, none⟩) ln ln, .slice (some ⟨gs, 0, none⟩) sn sn, .slice (some ⟨go, 0, none⟩) on on] 31 (0, 0))) := below_row hb9 (row_lt Q8.out) Q8.out
  have G9 : Hid (DA w9 bg (.slice b1 x1 e1) (.slice b2 x2 e2) (.slice b3 x3 e3) XL XS XO) := G8.out.below hb9
  have O9 : Hid (w9.heap[w7.heap.size]? = some (.cells #[.slice b1 x1 e1, .slice b2 x2 e2, .slice b3 x3 e3] 31 (0, 0))) := below_row hb9 (row_lt O8.out) O8.out
  clear B8 R8 W8 P8 X8 Q8 G8 O8
  clear zo0 zo1 zo2 zp0 zp1 zp2
  clear hb9
  obtain ⟨zq0, zq1, zq2⟩ := cells3 Q9.out
  obtain ⟨zr0, zr1, zr2⟩ := cells3 R9.out
  go_wp2_with fail
  have kS := SS (below_row (Below.refl _ _).drew (row_lt Q9.out) Q9.out) (below_row (Below.refl _ _).drew (row_lt R9.out) R9.out)
  go_region_held3 (fun W => W.cell? ⟨w5.heap.size, 0, none⟩ = some (.slice (some ⟨gl, 0, none⟩) ln ln) ∧ W.cell? ⟨w5.heap.size, 1, none⟩ = some (.slice (some ⟨gs, 0, none⟩) sn sn) ∧ W.cell? ⟨w5.heap.size, 2, none⟩ = some (.slice (some ⟨go, 0, none⟩) on on) ∧ W.cell? ⟨w.heap.size, 0, none⟩ = some (.slice la ln lc) ∧ W.cell? ⟨w.heap.size, 1, none⟩ = some (.slice sa sn sc) ∧ W.cell? ⟨w.heap.size, 2, none⟩ = some (.slice oa on oc)) (first | with_reducible exact kS) ((first
    | (go_at_call 11
       with_reducible refine (TD.out _ B9.out.drew).mono ?_
       rintro e wa ⟨gl7, gs7, go7, rfl, hba, hnea, hdoa, hda⟩
       have A1 : Hid (Below w9.heap.size w9 wa) := Below.trans (Below.refl _ _).drew hba
       have A2 : Hid (DAt wa (some ⟨gl7, 0, none⟩) (some ⟨gs7, 0, none⟩) (some ⟨go7, 0, none⟩) L S O) := hda
       have A3 : Hid (DAt wa (some ⟨gl, 0, none⟩) (some ⟨gs, 0, none⟩) (some ⟨go, 0, none⟩) L S O) := (X9.out.below A1.out).at HLN.out HSN.out HON.out
       have kS := SS (below_row A1.out (row_lt Q9.out) Q9.out) (below_row A1.out (row_lt R9.out) R9.out)
       clear hba hda hdoa hnea)
    | (go_at_call 13
       with_reducible refine (EQ.out wa _ _ _ _ _ _ A3.out A2.out).mono ?_
       rintro e wb ⟨rfl, hbb⟩
       have A4 : Hid (Below w9.heap.size w9 wb) := A1.out.trans (hbb.mono A1.out.size)
       have kS := SS (below_row A4.out (row_lt Q9.out) Q9.out) (below_row A4.out (row_lt R9.out) R9.out)
       clear hbb A1 A2 A3)))
  clear kS
  have B11 : Hid (Below w.heap.size w wb) := B9.out.trans (A4.out.mono B9.out.size)
  have R11 : Hid (wb.heap[w.heap.size]? = some (.cells #[.slice la ln lc, .slice sa sn sc, .slice oa on oc] 25 (0, 0))) := below_row A4.out (row_lt R9.out) R9.out
  have W11 : Hid (DA wb w2.heap.size (.slice a1 x1 c1) (.slice a2 x2 c2) (.slice a3 x3 c3) XL XS XO) := W9.out.below A4.out
  have P11 : Hid (wb.heap[w3.heap.size]? = some (.cells #[.slice a1 x1 c1, .slice a2 x2 c2, .slice a3 x3 c3] 31 (0, 0))) := below_row A4.out (row_lt P9.out) P9.out
  have X11 : Hid (DA wb bx (.slice (some ⟨gl, 0, none⟩) ln ln) (.slice (some ⟨gs, 0, none⟩) sn sn) (.slice (some ⟨go, 0, none⟩) on on) L S O) := X9.out.below A4.out
  have Q11 : Hid (wb.heap[w5.heap.size]? = some (.cells #[.slice (some ⟨gl, 0, none⟩) ln ln, .slice (some ⟨gs, 0, none⟩) sn sn, .slice (some ⟨go, 0, none⟩) on on] 31 (0, 0))) := below_row A4.out (row_lt Q9.out) Q9.out
  have G11 : Hid (DA wb bg (.slice b1 x1 e1) (.slice b2 x2 e2) (.slice b3 x3 e3) XL XS XO) := G9.out.below A4.out
  have O11 : Hid (wb.heap[w7.heap.size]? = some (.cells #[.slice b1 x1 e1, .slice b2 x2 e2, .slice b3 x3 e3] 31 (0, 0))) := below_row A4.out (row_lt O9.out) O9.out
  clear B9 R9 W9 P9 X9 Q9 G9 O9
  clear zq0 zq1 zq2 zr0 zr1 zr2
  clear A4
  obtain ⟨zq0, zq1, zq2⟩ := cells3 Q11.out
  go_wp2_with fail
  refine (MX.out _ _ _ _ _ X11.out).mono ?_
  rintro e w12 ⟨rfl, hc⟩
  have B12 : Hid (Below w.heap.size w w12) := B11.out.trans (X11.out.bel hc BX.out B11.out.size)
  have R12 : Hid (w12.heap[w.heap.size]? = some (.cells #[.slice la ln lc, .slice sa sn sc, .slice oa on oc] 25 (0, 0))) := X11.out.row hc R11.out (by decide) (by decide)
  have W12 : Hid (DA w12 w2.heap.size (.slice a1 x1 c1) (.slice a2 x2 c2) (.slice a3 x3 c3) XL XS XO) := W11.out.keepLow LW.out hc X11.out.ge.1 X11.out.ge.2.1 X11.out.ge.2.2
  have P12 : Hid (w12.heap[w3.heap.size]? = some (.cells #[.slice a1 x1 c1, .slice a2 x2 c2, .slice a3 x3 c3] 31 (0, 0))) := X11.out.row hc P11.out (by decide) (by decide)
  have G12 : Hid (DA w12 bg (.slice b1 x1 e1) (.slice b2 x2 e2) (.slice b3 x3 e3) XL XS XO) := G11.out.keepHigh hc LX.out.1 LX.out.2.1 LX.out.2.2
  have O12 : Hid (w12.heap[w7.heap.size]? = some (.cells #[.slice b1 x1 e1, .slice b2 x2 e2, .slice b3 x3 e3] 31 (0, 0))) := X11.out.row hc O11.out (by decide) (by decide)
  clear zq0 zq1 zq2
  clear hc Q11 X11 B11 R11 W11 P11 G11 O11
  obtain ⟨zo0, zo1, zo2⟩ := cells3 O12.out
  obtain ⟨zp0, zp1, zp2⟩ := cells3 P12.out
  go_wp2_with fail
  refine (EX.out _ _ _ _ _ _ _ _ _ _ _ _ _ _ _ G12.out W12.out).mono ?_
  rintro e w13 ⟨rfl, hb⟩
  have B13 : Hid (Below w.heap.size w w13) := B12.out.trans (hb.mono B12.out.size)
  have R13 : Hid (w13.heap[w.heap.size]? = some (.cells #[.slice la ln lc, .slice sa sn sc, .slice oa on oc] 25 (0, 0))) := below_row hb (row_lt R12.out) R12.out
  have W13 : Hid (DA w13 w2.heap.size (.slice a1 x1 c1) (.slice a2 x2 c2) (.slice a3 x3 c3) XL XS XO) := W12.out.below hb
  have P13 : Hid (w13.heap[w3.heap.size]? = some (.cells #[.slice a1 x1 c1, .slice a2 x2 c2, .slice a3 x3 c3] 31 (0, 0))) := below_row hb (row_lt P12.out) P12.out
  have G13 : Hid (DA w13 bg (.slice b1 x1 e1) (.slice b2 x2 e2) (.slice b3 x3 e3) XL XS XO) := G12.out.below hb
  have O13 : Hid (w13.heap[w7.heap.size]? = some (.cells #[.slice b1 x1 e1, .slice b2 x2 e2, .slice b3 x3 e3] 31 (0, 0))) := below_row hb (row_lt O12.out) O12.out
  clear B12 R12 W12 P12 G12 O12
  clear zo0 zo1 zo2 zp0 zp1 zp2
  clear hb
  obtain ⟨zo0, zo1, zo2⟩ := cells3 O13.out
  go_wp2_with fail
  refine (MG.out _ _ _ _ _ _ _ _ G13.out).mono ?_
  rintro e w14 ⟨rfl, hc, hg⟩
  have B14 : Hid (Below w.heap.size w w14) := B13.out.trans (G13.out.bel hc BG.out B13.out.size)
  have R14 : Hid (w14.heap[w.heap.size]? = some (.cells #[.slice la ln lc, .slice sa sn sc, .slice oa on oc] 25 (0, 0))) := G13.out.row hc R13.out (by decide) (by decide)
  have W14 : Hid (DA w14 w2.heap.size (.slice a1 x1 c1) (.slice a2 x2 c2) (.slice a3 x3 c3) XL XS XO) := W13.out.keepLow LV.out hc G13.out.ge.1 G13.out.ge.2.1 G13.out.ge.2.2
  have P14 : Hid (w14.heap[w3.heap.size]? = some (.cells #[.slice a1 x1 c1, .slice a2 x2 c2, .slice a3 x3 c3] 31 (0, 0))) := G13.out.row hc P13.out (by decide) (by decide)
  have O14 : Hid (w14.heap[w7.heap.size]? = some (.cells #[.slice b1 x1 e1, .slice b2 x2 e2, .slice b3 x3 e3] 31 (0, 0))) := G13.out.row hc O13.out (by decide) (by decide)
  have G14 : Hid (DA w14 bg (.slice b1 x1 e1) (.slice b2 x2 e2) (.slice b3 x3 e3) (mkF 1 x1) (mkF (1 + 2 * x1) x2) (mkO (1 + 2 * x1 + 2 * x2) x3)) := hg
  clear zo0 zo1 zo2
  clear hc hg B13 R13 W13 P13 G13 O13
  obtain ⟨zo0, zo1, zo2⟩ := cells3 O14.out
  go_wp2_with fail
  refine (HE.out _ _ _ _ _ _ _ _ G14.out).mono ?_
  rintro e w15 ⟨rfl, hb⟩
  have B15 : Hid (Below w.heap.size w w15) := B14.out.trans (hb.mono B14.out.size)
  have R15 : Hid (w15.heap[w.heap.size]? = some (.cells #[.slice la ln lc, .slice sa sn sc, .slice oa on oc] 25 (0, 0))) := below_row hb (row_lt R14.out) R14.out
  have W15 : Hid (DA w15 w2.heap.size (.slice a1 x1 c1) (.slice a2 x2 c2) (.slice a3 x3 c3) XL XS XO) := W14.out.below hb
  have P15 : Hid (w15.heap[w3.heap.size]? = some (.cells #[.slice a1 x1 c1, .slice a2 x2 c2, .slice a3 x3 c3] 31 (0, 0))) := below_row hb (row_lt P14.out) P14.out
  have G15 : Hid (DA w15 bg (.slice b1 x1 e1) (.slice b2 x2 e2) (.slice b3 x3 e3) (mkF 1 x1) (mkF (1 + 2 * x1) x2) (mkO (1 + 2 * x1 + 2 * x2) x3)) := G14.out.below hb
  have O15 : Hid (w15.heap[w7.heap.size]? = some (.cells #[.slice b1 x1 e1, .slice b2 x2 e2, .slice b3 x3 e3] 31 (0, 0))) := below_row hb (row_lt O14.out) O14.out
  clear B14 R14 W14 P14 G14 O14
  clear zo0 zo1 zo2
  clear hb
  obtain ⟨zr0, zr1, zr2⟩ := cells3 R15.out
  go_wp2_with fail
  refine (TD.out _ B15.out).mono ?_
  rintro e w16 ⟨gl6, gs6, go6, rfl, hb, -, -, hd⟩
  have B16 : Hid (Below w.heap.size w w16) := B15.out.trans (hb.mono B15.out.size)
  have R16 : Hid (w16.heap[w.heap.size]? = some (.cells #[.slice la ln lc, .slice sa sn sc, .slice oa on oc] 25 (0, 0))) := below_row hb (row_lt R15.out) R15.out
  have W16 : Hid (DA w16 w2.heap.size (.slice a1 x1 c1) (.slice a2 x2 c2) (.slice a3 x3 c3) XL XS XO) := W15.out.below hb
  have P16 : Hid (w16.heap[w3.heap.size]? = some (.cells #[.slice a1 x1 c1, .slice a2 x2 c2, .slice a3 x3 c3] 31 (0, 0))) := below_row hb (row_lt P15.out) P15.out
  have G16 : Hid (DA w16 bg (.slice b1 x1 e1) (.slice b2 x2 e2) (.slice b3 x3 e3) (mkF 1 x1) (mkF (1 + 2 * x1) x2) (mkO (1 + 2 * x1 + 2 * x2) x3)) := G15.out.below hb
  have O16 : Hid (w16.heap[w7.heap.size]? = some (.cells #[.slice b1 x1 e1, .slice b2 x2 e2, .slice b3 x3 e3] 31 (0, 0))) := below_row hb (row_lt O15.out) O15.out
  clear B15 R15 W15 P15 G15 O15
  have D16 : Hid (DAt w16 (some ⟨gl6, 0, none⟩) (some ⟨gs6, 0, none⟩) (some ⟨go6, 0, none⟩) L S O) := hd
  clear zr0 zr1 zr2
  clear hb hd
  go_wp2_with fail
  refine (IM.out _ _ _ _ D16.out).mono ?_
  rintro e w17 ⟨k1, f1, k2, f2, k3, f3, rfl, hb, hh⟩
  have B17 : Hid (Below w.heap.size w w17) := B16.out.trans (hb.mono B16.out.size)
  have R17 : Hid (w17.heap[w.heap.size]? = some (.cells #[.slice la ln lc, .slice sa sn sc, .slice oa on oc] 25 (0, 0))) := below_row hb (row_lt R16.out) R16.out
  have W17 : Hid (DA w17 w2.heap.size (.slice a1 x1 c1) (.slice a2 x2 c2) (.slice a3 x3 c3) XL XS XO) := W16.out.below hb
  have P17 : Hid (w17.heap[w3.heap.size]? = some (.cells #[.slice a1 x1 c1, .slice a2 x2 c2, .slice a3 x3 c3] 31 (0, 0))) := below_row hb (row_lt P16.out) P16.out
  have G17 : Hid (DA w17 bg (.slice b1 x1 e1) (.slice b2 x2 e2) (.slice b3 x3 e3) (mkF 1 x1) (mkF (1 + 2 * x1) x2) (mkO (1 + 2 * x1 + 2 * x2) x3)) := G16.out.below hb
  have O17 : Hid (w17.heap[w7.heap.size]? = some (.cells #[.slice b1 x1 e1, .slice b2 x2 e2, .slice b3 x3 e3] 31 (0, 0))) := below_row hb (row_lt O16.out) O16.out
  clear B16 R16 W16 P16 G16 O16
  have H17 : Hid (DA w17 w16.heap.size (.slice k1 x1 f1) (.slice k2 x2 f2) (.slice k3 x3 f3) XL XS XO) := hh
  clear hb hh D16
  have hb18 : Below w17.heap.size w17 (w17.alloc (.cells #[.slice k1 x1 f1, .slice k2 x2 f2, .slice k3 x3 f3] 31)) := (Below.refl _ _).alloc (Nat.le_refl _) _
  have B18 : Hid (Below w.heap.size w (w17.alloc (.cells #[.slice k1 x1 f1, .slice k2 x2 f2, .slice k3 x3 f3] 31))) := B17.out.trans (hb18.mono B17.out.size)
  have R18 : Hid ((w17.alloc (.cells #[.slice k1 x1 f1, .slice k2 x2 f2, .slice k3 x3 f3] 31)).heap[w.heap.size]? = some (.cells #[.slice la ln lc, .slice sa sn sc, .slice oa on oc] 25 (0, 0))) := below_row hb18 (row_lt R17.out) R17.out
  have W18 : Hid (DA (w17.alloc (.cells #[.slice k1 x1 f1, .slice k2 x2 f2, .slice k3 x3 f3] 31)) w2.heap.size (.slice a1 x1 c1) (.slice a2 x2 c2) (.slice a3 x3 c3) XL XS XO) := W17.out.below hb18
  have P18 : Hid ((w17.alloc (.cells #[.slice k1 x1 f1, .slice k2 x2 f2, .slice k3 x3 f3] 31)).heap[w3.heap.size]? = some (.cells #[.slice a1 x1 c1, .slice a2 x2 c2, .slice a3 x3 c3] 31 (0, 0))) := below_row hb18 (row_lt P17.out) P17.out
  have G18 : Hid (DA (w17.alloc (.cells #[.slice k1 x1 f1, .slice k2 x2 f2, .slice k3 x3 f3] 31)) bg (.slice b1 x1 e1) (.slice b2 x2 e2) (.slice b3 x3 e3) (mkF 1 x1) (mkF (1 + 2 * x1) x2) (mkO (1 + 2 * x1 + 2 * x2) x3)) := G17.out.below hb18
  have O18 : Hid ((w17.alloc (.cells #[.slice k1 x1 f1, .slice k2 x2 f2, .slice k3 x3 f3] 31)).heap[w7.heap.size]? = some (.cells #[.slice b1 x1 e1, .slice b2 x2 e2, .slice b3 x3 e3] 31 (0, 0))) := below_row hb18 (row_lt O17.out) O17.out
  have H18 : Hid (DA (w17.alloc (.cells #[.slice k1 x1 f1, .slice k2 x2 f2, .slice k3 x3 f3] 31)) w16.heap.size (.slice k1 x1 f1) (.slice k2 x2 f2) (.slice k3 x3 f3) XL XS XO) := H17.out.below hb18
  clear B17 R17 W17 P17 G17 O17 H17
  have U18 : Hid ((w17.alloc (.cells #[.slice k1 x1 f1, .slice k2 x2 f2, .slice k3 x3 f3] 31)).heap[w17.heap.size]? = some (.cells #[.slice k1 x1 f1, .slice k2 x2 f2, .slice k3 x3 f3] 31 (0, 0))) := heap_alloc_new _ _
  clear hb18
  obtain ⟨zu0, zu1, zu2⟩ := cells3 U18.out
  obtain ⟨zp0, zp1, zp2⟩ := cells3 P18.out
  go_wp2_with fail
  refine (EX.out _ _ _ _ _ _ _ _ _ _ _ _ _ _ _ H18.out W18.out).mono ?_
  rintro e w19 ⟨rfl, hb⟩
  have B19 : Hid (Below w.heap.size w w19) := B18.out.trans (hb.mono B18.out.size)
  have R19 : Hid (w19.heap[w.heap.size]? = some (.cells #[.slice la ln lc, .slice sa sn sc, .slice oa on oc] 25 (0, 0))) := below_row hb (row_lt R18.out) R18.out
  have W19 : Hid (DA w19 w2.heap.size (.slice a1 x1 c1) (.slice a2 x2 c2) (.slice a3 x3 c3) XL XS XO) := W18.out.below hb
  have P19 : Hid (w19.heap[w3.heap.size]? = some (.cells #[.slice a1 x1 c1, .slice a2 x2 c2, .slice a3 x3 c3] 31 (0, 0))) := below_row hb (row_lt P18.out) P18.out
  have G19 : Hid (DA w19 bg (.slice b1 x1 e1) (.slice b2 x2 e2) (.slice b3 x3 e3) (mkF 1 x1) (mkF (1 + 2 * x1) x2) (mkO (1 + 2 * x1 + 2 * x2) x3)) := G18.out.below hb
  have O19 : Hid (w19.heap[w7.heap.size]? = some (.cells #[.slice b1 x1 e1, .slice b2 x2 e2, .slice b3 x3 e3] 31 (0, 0))) := below_row hb (row_lt O18.out) O18.out
  have H19 : Hid (DA w19 w16.heap.size (.slice k1 x1 f1) (.slice k2 x2 f2) (.slice k3 x3 f3) XL XS XO) := H18.out.below hb
  have U19 : Hid (w19.heap[w17.heap.size]? = some (.cells #[.slice k1 x1 f1, .slice k2 x2 f2, .slice k3 x3 f3] 31 (0, 0))) := below_row hb (row_lt U18.out) U18.out
  clear B18 R18 W18 P18 G18 O18 H18 U18
  clear zu0 zu1 zu2 zp0 zp1 zp2
  clear hb
  obtain ⟨zo0, zo1, zo2⟩ := cells3 O19.out
  go_wp2_with fail
  refine (HE.out _ _ _ _ _ _ _ _ G19.out).mono ?_
  rintro e w20 ⟨rfl, hb⟩
  have B20 : Hid (Below w.heap.size w w20) := B19.out.trans (hb.mono B19.out.size)
  clear hb
  clear zo0 zo1 zo2
  go_wp2
  go_ret
  exact ⟨rfl, B20.out⟩

end Go.Proofs.Ytighhcdlgjaacaa
