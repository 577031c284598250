import Derived.Test.YtighhcdlgjaacaaDo12
import Derived.Deep.RegionHeld3
import Derived.Deep.CutRange
namespace Go.Proofs.Ytighhcdlgjaacaa
open Go.RowKit

/-- The cells of two boxes. -/
theorem SS33 {W : World} {p q : Nat} {T U : TypeId} {u0 u1 u2 v0 v1 v2 : Value} (h1 : W.heap[p]? = some (.cells #[u0, u1, u2] T (0, 0))) (h2 : W.heap[q]? = some (.cells #[v0, v1, v2] U (0, 0))) : W.cell? ⟨p, 0, none⟩ = some u0 ∧ W.cell? ⟨p, 1, none⟩ = some u1 ∧ W.cell? ⟨p, 2, none⟩ = some u2 ∧ W.cell? ⟨q, 0, none⟩ = some v0 ∧ W.cell? ⟨q, 1, none⟩ = some v1 ∧ W.cell? ⟨q, 2, none⟩ = some v2 := by
  obtain ⟨a, b, c⟩ := cells3 h1
  exact ⟨a, b, c, cells3 h2⟩
theorem SS34 {W : World} {p q : Nat} {T U : TypeId} {u0 u1 u2 v0 v1 v2 v3 : Value} (h1 : W.heap[p]? = some (.cells #[u0, u1, u2] T (0, 0))) (h2 : W.heap[q]? = some (.cells #[v0, v1, v2, v3] U (0, 0))) : W.cell? ⟨p, 0, none⟩ = some u0 ∧ W.cell? ⟨p, 1, none⟩ = some u1 ∧ W.cell? ⟨p, 2, none⟩ = some u2 ∧ W.cell? ⟨q, 0, none⟩ = some v0 ∧ W.cell? ⟨q, 1, none⟩ = some v1 ∧ W.cell? ⟨q, 2, none⟩ = some v2 ∧ W.cell? ⟨q, 3, none⟩ = some v3 := by
  obtain ⟨a, b, c⟩ := cells3 h1
  exact ⟨a, b, c, cells4 h2⟩
theorem box3_set {W : World} {k : Nat} {z0 z1 z2 u v x : Value} {T : TypeId} (h : W.heap[k]? = some (.cells #[z0, z1, z2] T (0, 0))) : (((W.setCell ⟨k, 0, none⟩ u).setCell ⟨k, 1, none⟩ v).setCell ⟨k, 2, none⟩ x).heap[k]? = some (.cells #[u, v, x] T (0, 0)) := by
  have s1 := heap_setCell_same W k 0 _ _ u h
  have s2 := heap_setCell_same _ k 1 _ _ v s1
  have s3 := heap_setCell_same _ k 2 _ _ x s2
  simpa using s3
theorem da_box3 {W : World} {k base : Nat} {z0 z1 z2 u v x lv sv ov : Value} {L S : List FI} {O : List OP} (d : DA W base lv sv ov L S O) (h : W.heap[k]? = some (.cells #[z0, z1, z2] 31 (0, 0))) : DA (((W.setCell ⟨k, 0, none⟩ u).setCell ⟨k, 1, none⟩ v).setCell ⟨k, 2, none⟩ x) base lv sv ov L S O := by
  have s1 := heap_setCell_same W k 0 _ _ u h
  have s2 := heap_setCell_same _ k 1 _ _ v s1
  exact ⟨⟨own_setT (own_setT (own_setT d.d.l h (by decide)) s1 (by decide)) s2 (by decide), own_setT (own_setT (own_setT d.d.s h (by decide)) s1 (by decide)) s2 (by decide), own_setT (own_setT (own_setT d.d.o h (by decide)) s1 (by decide)) s2 (by decide)⟩, d.ap⟩

set_option maxHeartbeats 16000000 in
set_option maxRecDepth 20000 in
theorem lawDo (la sa oa : Option Addr) (lc sc oc : Nat) (L S : List FI) (O : List OP) (o : OP) (w : World) (hD : DAt w la sa oa L S O) (hLn : L.length ≤ 9223372036854775807) (hSn : S.length ≤ 9223372036854775807) (hOn : O.length ≤ 9223372036854775807) (hLt : TxF L) (hSt : TxF S) (hOt : TxO O) (z1 : o.n.size ≤ 9223372036854775807) (z2 : o.t.size ≤ 9223372036854775807) (z3 : o.d.size ≤ 9223372036854775807) :
    Calls Try.prog 4 #[.agg #[.slice la L.length lc, .slice sa S.length sc, .slice oa O.length oc], .agg #[.int .i64 o.k, .string o.n, .string o.t, .string o.d]] w fun e w' => e = .returned (.bool true) ∧ Below w.heap.size w w' := by
  have SZ : Hid (∀ W, DAt W la sa oa L S O → Calls Try.prog 9 #[.agg #[.slice la L.length lc, .slice sa S.length sc, .slice oa O.length oc], .int .i64 1048576] W fun e w' => ∃ x : Int, e = .returned (.int .i64 x) ∧ x ≤ 1048576 ∧ (0 ≤ x → DskOk L S O) ∧ Below W.heap.size W w') := fun W h => szDisk_any la sa oa lc sc oc L S O W h.l h.s h.o hLn hSn hOn hLt hSt hOt
  obtain ⟨ln, HLN⟩ : ∃ n, Hid (L.length = n) := ⟨_, rfl⟩
  obtain ⟨sn, HSN⟩ : ∃ n, Hid (S.length = n) := ⟨_, rfl⟩
  obtain ⟨on, HON⟩ : ∃ n, Hid (O.length = n) := ⟨_, rfl⟩
  rw [HLN.out, HSN.out, HON.out] at SZ ⊢
  clear hLn hSn hOn hLt hSt hOt
  have B0 : Hid (Below w.heap.size w ((w.alloc (.cells #[.slice la ln lc, .slice sa sn sc, .slice oa on oc] 25)).alloc (.cells #[.int .i64 o.k, .string o.n, .string o.t, .string o.d] 36))) := ((Below.refl _ _).alloc (Nat.le_refl _) _).alloc (by simp) _
  have R0 : Hid (((w.alloc (.cells #[.slice la ln lc, .slice sa sn sc, .slice oa on oc] 25)).alloc (.cells #[.int .i64 o.k, .string o.n, .string o.t, .string o.d] 36)).heap[w.heap.size]? = some (.cells #[.slice la ln lc, .slice sa sn sc, .slice oa on oc] 25 (0, 0))) := heap_alloc2_old _ _ _
  have Y0 : Hid (((w.alloc (.cells #[.slice la ln lc, .slice sa sn sc, .slice oa on oc] 25)).alloc (.cells #[.int .i64 o.k, .string o.n, .string o.t, .string o.d] 36)).heap[w.heap.size + 1]? = some (.cells #[.int .i64 o.k, .string o.n, .string o.t, .string o.d] 36 (0, 0))) := heap_alloc2_new _ _ _
  obtain ⟨c0, c1, c2⟩ := cells3 R0.out
  have H0 : Hid (DAt w la sa oa L S O) := hD
  clear hD
  go_enter Try.func4, Try.ntmps4
  go_wp2_with fail
  refine (SZ.out _ (H0.out.below B0.out)).mono ?_
  rintro e w1 ⟨x, rfl, hx1, hx2, hb1⟩
  have HK0 : Hid (0 ≤ x → DskOk L S O) := hx2
  have B1 : Hid (Below w.heap.size w w1) := B0.out.trans (hb1.mono B0.out.size)
  have R1 : Hid (w1.heap[w.heap.size]? = some (.cells #[.slice la ln lc, .slice sa sn sc, .slice oa on oc] 25 (0, 0))) := below_row hb1 (row_lt R0.out) R0.out
  have Y1 : Hid (w1.heap[w.heap.size + 1]? = some (.cells #[.int .i64 o.k, .string o.n, .string o.t, .string o.d] 36 (0, 0))) := below_row hb1 (row_lt Y0.out) Y0.out
  clear B0 R0 Y0
  clear hx2 hb1 c0 c1 c2
  by_cases hneg : x < 0
  · go_wp2
    go_ret
    exact ⟨rfl, B1.out⟩
  have HK : Hid (DskOk L S O) := HK0.out (by omega)
  clear HK0
  obtain ⟨zy1_0, zy1_1, zy1_2, zy1_3⟩ := cells4 Y1.out
  go_wp2_with fail
  refine (szDOp_any o x w1 (by omega) hx1 z1 z2 z3).mono ?_
  rintro e w2 ⟨rfl, hb2⟩
  have B2 : Hid (Below w.heap.size w w2) := B1.out.trans (hb2.mono B1.out.size)
  have R2 : Hid (w2.heap[w.heap.size]? = some (.cells #[.slice la ln lc, .slice sa sn sc, .slice oa on oc] 25 (0, 0))) := below_row hb2 (row_lt R1.out) R1.out
  have Y2 : Hid (w2.heap[w.heap.size + 1]? = some (.cells #[.int .i64 o.k, .string o.n, .string o.t, .string o.d] 36 (0, 0))) := below_row hb2 (row_lt Y1.out) Y1.out
  clear B1 R1 Y1
  clear zy1_0 zy1_1 zy1_2 zy1_3
  clear hb2
  obtain ⟨y, HY⟩ : ∃ y, Hid (szU x (o.n.size + o.t.size + o.d.size) = y) := ⟨_, rfl⟩
  rw [HY.out]
  by_cases hney : y < 0
  · go_wp2
    go_ret
    exact ⟨rfl, B2.out⟩
  have hsz := szU_pos (l := x) (u := o.n.size + o.t.size + o.d.size) (by rw [HY.out]; omega)
  have z1 : o.n.size ≤ 1048576 := by omega
  have z2 : o.t.size ≤ 1048576 := by omega
  have z3 : o.d.size ≤ 1048576 := by omega
  clear hsz HY
  have bl : ln ≤ 1048576 := by rw [← HLN.out]; exact HK.out.ln
  have bs : sn ≤ 1048576 := by rw [← HSN.out]; exact HK.out.sn
  have bo : on ≤ 1048576 := by rw [← HON.out]; exact HK.out.on
  have TD : Hid (∀ W, Below w.heap.size w W → Calls Try.prog 11 #[.agg #[.slice la ln lc, .slice sa sn sc, .slice oa on oc]] W fun e w' => ∃ gl gs go : Nat, e = .returned (.agg #[.slice (some ⟨gl, 0, none⟩) ln ln, .slice (some ⟨gs, 0, none⟩) sn sn, .slice (some ⟨go, 0, none⟩) on on]) ∧ Below W.heap.size W w' ∧ gl ≠ gs ∧ DO w' W.heap.size (.slice (some ⟨gl, 0, none⟩) ln ln) (.slice (some ⟨gs, 0, none⟩) sn sn) (.slice (some ⟨go, 0, none⟩) on on) L S O ∧ DAt w' (some ⟨gl, 0, none⟩) (some ⟨gs, 0, none⟩) (some ⟨go, 0, none⟩) L S O) := fun W hW => toDisk_at la sa oa lc sc oc ln sn on L S O W (H0.out.below hW) HK.out HLN.out HSN.out HON.out
  obtain ⟨XL, XS, XO, x1, x2, x3, kd, hx1, hx2, hx3, bx1, bx2, bx3, hsp, him⟩ : ∃ (XL XS : List FI) (XO : List OP) (x1 x2 x3 : Nat) (kd : Int), XL.length = x1 ∧ XS.length = x2 ∧ XO.length = x3 ∧ x1 ≤ 1048576 ∧ x2 ≤ 1048576 ∧ x3 ≤ 1048576 ∧ (∀ W gl gs go, DAt W (some ⟨gl, 0, none⟩) (some ⟨gs, 0, none⟩) (some ⟨go, 0, none⟩) L S O → Calls Try.prog 15 #[.agg #[.slice (some ⟨gl, 0, none⟩) ln ln, .slice (some ⟨gs, 0, none⟩) sn sn, .slice (some ⟨go, 0, none⟩) on on], .agg #[.int .i64 o.k, .string o.n, .string o.t, .string o.d]] W fun e w' => ∃ a1 c1 a2 c2 a3 c3, e = .returned (.tuple #[.agg #[.slice a1 x1 c1, .slice a2 x2 c2, .slice a3 x3 c3], .int .i64 kd]) ∧ Below W.heap.size W w' ∧ DA w' W.heap.size (.slice a1 x1 c1) (.slice a2 x2 c2) (.slice a3 x3 c3) XL XS XO) ∧ (∀ W gl gs go, DAt W (some ⟨gl, 0, none⟩) (some ⟨gs, 0, none⟩) (some ⟨go, 0, none⟩) L S O → Calls Try.prog 17 #[.agg #[.slice (some ⟨gl, 0, none⟩) ln ln, .slice (some ⟨gs, 0, none⟩) sn sn, .slice (some ⟨go, 0, none⟩) on on], .agg #[.int .i64 o.k, .string o.n, .string o.t, .string o.d]] W fun e w' => ∃ a1 c1 a2 c2 a3 c3, e = .returned (.tuple #[.agg #[.slice a1 x1 c1, .slice a2 x2 c2, .slice a3 x3 c3], .int .i64 kd]) ∧ Below W.heap.size W w' ∧ DA w' W.heap.size (.slice a1 x1 c1) (.slice a2 x2 c2) (.slice a3 x3 c3) XL XS XO) := by
    have hb : (dL L S O o).length ≤ 1048576 ∧ (dS L S O).length ≤ 1048576 ∧ (dO L S O o).length ≤ 1048576 := by
      have ha := act_len L O o
      unfold dL dS dO
      cases hd : dskB L S O
      · simp
      · obtain ⟨hfl, hfs, h200⟩ := dsk_parts hd
        have := (filB_true.1 hfl).1
        have := (filB_true.1 hfs).1
        rw [if_pos rfl, if_pos rfl, if_pos rfl]
        omega
    exact ⟨dL L S O o, dS L S O, dO L S O o, _, _, _, dK L S O o, rfl, rfl, rfl, hb.1, hb.2.1, hb.2.2, fun W gl gs go h => specDo_any _ _ _ ln sn on ln sn on _ _ _ _ L S O o W h HK.out HLN.out HSN.out HON.out z1 z2 z3 rfl rfl rfl rfl, fun W gl gs go h => implDo_any _ _ _ ln sn on ln sn on _ _ _ _ L S O o W h HK.out HLN.out HSN.out HON.out (Nat.le_refl _) (fun h => by cases h) z1 z2 z3 rfl rfl rfl rfl⟩
  have SP : Hid (∀ W gl gs go, DAt W (some ⟨gl, 0, none⟩) (some ⟨gs, 0, none⟩) (some ⟨go, 0, none⟩) L S O → Calls Try.prog 15 #[.agg #[.slice (some ⟨gl, 0, none⟩) ln ln, .slice (some ⟨gs, 0, none⟩) sn sn, .slice (some ⟨go, 0, none⟩) on on], .agg #[.int .i64 o.k, .string o.n, .string o.t, .string o.d]] W fun e w' => ∃ a1 c1 a2 c2 a3 c3, e = .returned (.tuple #[.agg #[.slice a1 x1 c1, .slice a2 x2 c2, .slice a3 x3 c3], .int .i64 kd]) ∧ Below W.heap.size W w' ∧ DA w' W.heap.size (.slice a1 x1 c1) (.slice a2 x2 c2) (.slice a3 x3 c3) XL XS XO) := hsp
  have IM : Hid (∀ W gl gs go, DAt W (some ⟨gl, 0, none⟩) (some ⟨gs, 0, none⟩) (some ⟨go, 0, none⟩) L S O → Calls Try.prog 17 #[.agg #[.slice (some ⟨gl, 0, none⟩) ln ln, .slice (some ⟨gs, 0, none⟩) sn sn, .slice (some ⟨go, 0, none⟩) on on], .agg #[.int .i64 o.k, .string o.n, .string o.t, .string o.d]] W fun e w' => ∃ a1 c1 a2 c2 a3 c3, e = .returned (.tuple #[.agg #[.slice a1 x1 c1, .slice a2 x2 c2, .slice a3 x3 c3], .int .i64 kd]) ∧ Below W.heap.size W w' ∧ DA w' W.heap.size (.slice a1 x1 c1) (.slice a2 x2 c2) (.slice a3 x3 c3) XL XS XO) := him
  have X1 : Hid (XL.length = x1) := hx1
  have X2 : Hid (XS.length = x2) := hx2
  have X3 : Hid (XO.length = x3) := hx3
  clear hsp him hx1 hx2 hx3
  have EQ : Hid (∀ W a b c a2 b2 c2, DAt W a b c L S O → DAt W a2 b2 c2 L S O → Calls Try.prog 13 #[.agg #[.slice a ln ln, .slice b sn sn, .slice c on on], .agg #[.slice a2 ln ln, .slice b2 sn sn, .slice c2 on on]] W fun e w' => e = .returned (.bool true) ∧ Below W.heap.size W w') := fun W a b c a2 b2 c2 h1 h2 => eqDisk_same a b c a2 b2 c2 ln sn on ln sn on ln sn on L S O W h1 h2 HLN.out HSN.out HON.out bl bs bo
  have EX : Hid (∀ W B B2 a1 c1 a2 c2 a3 c3 b1 e1 b2 e2 b3 e3, DA W B (.slice b1 x1 e1) (.slice b2 x2 e2) (.slice b3 x3 e3) XL XS XO → DA W B2 (.slice a1 x1 c1) (.slice a2 x2 c2) (.slice a3 x3 c3) XL XS XO → Calls Try.prog 13 #[.agg #[.slice b1 x1 e1, .slice b2 x2 e2, .slice b3 x3 e3], .agg #[.slice a1 x1 c1, .slice a2 x2 c2, .slice a3 x3 c3]] W fun e w' => e = .returned (.bool true) ∧ Below W.heap.size W w') := fun W B B2 a1 c1 a2 c2 a3 c3 b1 e1 b2 e2 b3 e3 h1 h2 => eqDisk_same b1 b2 b3 a1 a2 a3 e1 e2 e3 c1 c2 c3 x1 x2 x3 XL XS XO W (h1.at X1.out X2.out X3.out) (h2.at X1.out X2.out X3.out) X1.out X2.out X3.out bx1 bx2 bx3
  obtain ⟨m, HM⟩ : ∃ n : Nat, Hid (1 + 2 * ln + 2 * sn + 4 * on = n) := ⟨_, rfl⟩
  obtain ⟨n, HN⟩ : ∃ n : Nat, Hid (1 + 2 * x1 + 2 * x2 + 4 * x3 = n) := ⟨_, rfl⟩
  have MX : Hid (∀ W B gl gs go, DA W B (.slice (some ⟨gl, 0, none⟩) ln ln) (.slice (some ⟨gs, 0, none⟩) sn sn) (.slice (some ⟨go, 0, none⟩) on on) L S O → Calls Try.prog 18 #[.agg #[.slice (some ⟨gl, 0, none⟩) ln ln, .slice (some ⟨gs, 0, none⟩) sn sn, .slice (some ⟨go, 0, none⟩) on on], .int .i64 1] W fun e w' => e = .returned (.int .i64 (m : Int)) ∧ Chg3 W w' (Value.slice (some ⟨gl, 0, none⟩) ln ln).ownBlock (Value.slice (some ⟨gs, 0, none⟩) sn sn).ownBlock (Value.slice (some ⟨go, 0, none⟩) on on).ownBlock) := fun W B gl gs go h => by
    rw [← HM.out]
    exact (markDisk_any _ _ _ ln sn on ln sn on 1 B L S O W h HLN.out HSN.out HON.out bl bs bo (by omega) (by omega)).mono fun e w' ⟨h1, h2, _⟩ => ⟨h1, h2⟩
  have MG : Hid (∀ W B b1 e1 b2 e2 b3 e3, DA W B (.slice b1 x1 e1) (.slice b2 x2 e2) (.slice b3 x3 e3) XL XS XO → Calls Try.prog 18 #[.agg #[.slice b1 x1 e1, .slice b2 x2 e2, .slice b3 x3 e3], .int .i64 1] W fun e w' => e = .returned (.int .i64 (n : Int)) ∧ Chg3 W w' (Value.slice b1 x1 e1).ownBlock (Value.slice b2 x2 e2).ownBlock (Value.slice b3 x3 e3).ownBlock ∧ DA w' B (.slice b1 x1 e1) (.slice b2 x2 e2) (.slice b3 x3 e3) (mkF 1 x1) (mkF (1 + 2 * x1) x2) (mkO (1 + 2 * x1 + 2 * x2) x3)) := fun W B b1 e1 b2 e2 b3 e3 h => by
    rw [← HN.out]
    exact markDisk_any b1 b2 b3 e1 e2 e3 x1 x2 x3 1 B XL XS XO W h X1.out X2.out X3.out bx1 bx2 bx3 (by omega) (by omega)
  have HE : Hid (∀ W B b1 e1 b2 e2 b3 e3, DA W B (.slice b1 x1 e1) (.slice b2 x2 e2) (.slice b3 x3 e3) (mkF 1 x1) (mkF (1 + 2 * x1) x2) (mkO (1 + 2 * x1 + 2 * x2) x3) → Calls Try.prog 19 #[.agg #[.slice b1 x1 e1, .slice b2 x2 e2, .slice b3 x3 e3], .int .i64 1] W fun e w' => e = .returned (.int .i64 (n : Int)) ∧ Below W.heap.size W w') := fun W B b1 e1 b2 e2 b3 e3 h => by
    rw [← HN.out]
    exact heldDisk_any b1 b2 b3 e1 e2 e3 x1 x2 x3 1 B W h.d bx1 bx2 bx3 (by omega) (by omega)
  have hmn : ¬ ((m : Int) < 0) := by omega
  have hnn : ¬ ((n : Int) < 0) := by omega
  have hne : ((n : Int) != (n : Int)) = false := by simp
  have hkd : (kd != kd) = false := by simp
  clear HM HN
  skip
  go_upto_region 8 with fail
  go_cut [6, 7] from 16 to 108 (fun s6 s7 wx => ∃ (kz bw : Nat) (a1 : Option Addr) (c1 : Nat) (a2 : Option Addr) (c2 : Nat) (a3 : Option Addr) (c3 : Nat), s6 = .pointer (some ⟨kz, 0, none⟩) ∧ s7 = .int .i64 kd ∧ Below w2.heap.size w2 wx ∧ wx.heap[kz]? = some (.cells #[.slice a1 x1 c1, .slice a2 x2 c2, .slice a3 x3 c3] 31 (0, 0)) ∧ w2.heap.size ≤ bw ∧ DA wx bw (.slice a1 x1 c1) (.slice a2 x2 c2) (.slice a3 x3 c3) XL XS XO)
  case first =>
    go_wp2_with fail
    have HSS : Hid (∀ W, Below w2.heap.size w2 W → (fun W => W.cell? ⟨w.heap.size, 0, none⟩ = some (.slice la ln lc) ∧ W.cell? ⟨w.heap.size, 1, none⟩ = some (.slice sa sn sc) ∧ W.cell? ⟨w.heap.size, 2, none⟩ = some (.slice oa on oc) ∧ W.cell? ⟨w.heap.size + 1, 0, none⟩ = some (.int .i64 o.k) ∧ W.cell? ⟨w.heap.size + 1, 1, none⟩ = some (.string o.n) ∧ W.cell? ⟨w.heap.size + 1, 2, none⟩ = some (.string o.t) ∧ W.cell? ⟨w.heap.size + 1, 3, none⟩ = some (.string o.d)) W) := fun W hW => SS34 (below_row hW (row_lt R2.out) R2.out) (below_row hW (row_lt Y2.out) Y2.out)
    have CS : Hid (Below w2.heap.size w2 w2.drew) := (Below.refl _ _).drew
    refine wp_region_held_drew (S := (fun W => W.cell? ⟨w.heap.size, 0, none⟩ = some (.slice la ln lc) ∧ W.cell? ⟨w.heap.size, 1, none⟩ = some (.slice sa sn sc) ∧ W.cell? ⟨w.heap.size, 2, none⟩ = some (.slice oa on oc) ∧ W.cell? ⟨w.heap.size + 1, 0, none⟩ = some (.int .i64 o.k) ∧ W.cell? ⟨w.heap.size + 1, 1, none⟩ = some (.string o.n) ∧ W.cell? ⟨w.heap.size + 1, 2, none⟩ = some (.string o.t) ∧ W.cell? ⟨w.heap.size + 1, 3, none⟩ = some (.string o.d))) (by kernel_rfl) ?_ (fun hHeld => ?_)
    · exact HSS.out _ CS.out
    generalize w2.drew = WD at *
    refine wpAnyH_take (i := 0) (v := ?_) rfl (by kernel_rfl) (by kernel_rfl) (by kernel_rfl) (fun _ _ _ h => h) (Or.inl ⟨by kernel_rfl, ?_⟩) hHeld ?_
    rotate_left 1; focus (intro w hSw; (try dsimp only at hSw); (try go_split_ands); go_simp; all_goals (first | done | with_reducible rfl))
    change wpAnyH _ _ _ _ _ _ _ (Act.put _ (some 27) _) _; simp only [Act.put, List.setIfInBounds_toArray, List.set_cons_zero, List.set_cons_succ]
    refine wpAnyH_take (i := 2) (v := ?_) rfl (by kernel_rfl) (by kernel_rfl) (by kernel_rfl) (fun _ _ _ h => h) (Or.inl ⟨by kernel_rfl, ?_⟩) hHeld ?_
    rotate_left 1; focus (intro w hSw; (try dsimp only at hSw); (try go_split_ands); go_simp; all_goals (first | done | with_reducible rfl))
    change wpAnyH _ _ _ _ _ _ _ (Act.put _ (some 29) _) _; simp only [Act.put, List.setIfInBounds_toArray, List.set_cons_zero, List.set_cons_succ]
    refine wpAnyH_ready (rs := [1, 8]) (by kernel_rfl) (by simp) ?_
    refine AllReadyH.cons rfl (fun K hK => ?_) ?_
    · skip
      (try simp only [Act.put, List.setIfInBounds_toArray])
      go_simp
      refine (TD.out _ (B2.out.trans (CS.out.mono B2.out.size))).mono ?_
      rintro e V1 ⟨gl9, gs9, go9, rfl, hb, -, -, hd⟩
      have C1 : Hid (Below w2.heap.size w2 V1) := CS.out.trans (hb.mono CS.out.size)
      have D1 : Hid (DAt V1 (some ⟨gl9, 0, none⟩) (some ⟨gs9, 0, none⟩) (some ⟨go9, 0, none⟩) L S O) := hd
      clear hb hd
      (try go_wp2_with fail)
      refine hK.out _ _ ?_ (fun hHeld => ?_)
      · exact HSS.out _ C1.out
      clear hK K
      refine wpAnyH_ready (rs := [3, 8]) (by kernel_rfl) (by simp) ?_
      refine AllReadyH.cons rfl (fun K hK => ?_) ?_
      · skip
        (try simp only [Act.put, List.setIfInBounds_toArray])
        go_simp
        refine (toDOp_any o.k o.n o.t o.d _).mono ?_
        rintro e V2 ⟨rfl, hb⟩
        have D2 : Hid (DAt V2 (some ⟨gl9, 0, none⟩) (some ⟨gs9, 0, none⟩) (some ⟨go9, 0, none⟩) L S O) := D1.out.below hb
        have C2 : Hid (Below w2.heap.size w2 V2) := C1.out.trans (hb.mono C1.out.size)
        clear hb
        (try go_wp2_with fail)
        refine hK.out _ _ ?_ (fun hHeld => ?_)
        · exact HSS.out _ C2.out
        clear hK K
        refine wpAnyH_ready (rs := [4, 8]) (by kernel_rfl) (by simp) ?_
        refine AllReadyH.cons rfl (fun K hK => ?_) ?_
        · skip
          (try simp only [Act.put, List.setIfInBounds_toArray])
          go_simp
          refine (SP.out V2 _ _ _ D2.out).mono ?_
          rintro e V3 ⟨a1, c1, a2, c2, a3, c3, rfl, hb, hda⟩
          obtain ⟨bw, LBW, hda⟩ : ∃ b, Hid (w2.heap.size ≤ b) ∧ DA V3 b (.slice a1 x1 c1) (.slice a2 x2 c2) (.slice a3 x3 c3) XL XS XO := ⟨_, C2.out.size, hda⟩
          have D3 : Hid (DAt V3 (some ⟨gl9, 0, none⟩) (some ⟨gs9, 0, none⟩) (some ⟨go9, 0, none⟩) L S O) := D2.out.below hb
          have C3 : Hid (Below w2.heap.size w2 V3) := C2.out.trans (hb.mono C2.out.size)
          have A3 : Hid (DA V3 bw (.slice a1 x1 c1) (.slice a2 x2 c2) (.slice a3 x3 c3) XL XS XO) := hda
          clear hb hda
          (try go_wp2_with fail)
          refine hK.out _ _ ?_ (fun hHeld => ?_)
          · exact HSS.out _ C3.out
          clear hK K
          refine wpAnyH_take (i := 5) (v := ?_) rfl (by kernel_rfl) (by kernel_rfl) (by kernel_rfl) (fun _ _ _ h => h) (Or.inl ⟨by kernel_rfl, ?_⟩) hHeld ?_
          rotate_left 1; focus (intro w hSw; (try dsimp only at hSw); (try go_split_ands); go_simp; all_goals (first | done | with_reducible rfl))
          change wpAnyH _ _ _ _ _ _ _ (Act.put _ (some 26) _) _; simp only [Act.put, List.setIfInBounds_toArray, List.set_cons_zero, List.set_cons_succ]
          refine wpAnyH_take (i := 6) (v := ?_) rfl (by kernel_rfl) (by kernel_rfl) (by kernel_rfl) (fun _ _ _ h => h) (Or.inl ⟨by kernel_rfl, ?_⟩) hHeld ?_
          rotate_left 1; focus (intro w hSw; (try dsimp only at hSw); (try go_split_ands); go_simp; all_goals (first | done | with_reducible rfl))
          change wpAnyH _ _ _ _ _ _ _ (Act.put _ (some 32) _) _; simp only [Act.put, List.setIfInBounds_toArray, List.set_cons_zero, List.set_cons_succ]
          refine wpAnyH_take (i := 7) (v := ?_) rfl (by kernel_rfl) (by kernel_rfl) (by kernel_rfl) (fun _ _ _ h => h) (Or.inl ⟨by kernel_rfl, ?_⟩) hHeld ?_
          rotate_left 1; focus (intro w hSw; (try dsimp only at hSw); (try go_split_ands); go_simp; all_goals (first | done | with_reducible rfl))
          change wpAnyH _ _ _ _ _ _ _ (Act.put _ (some 33) _) _; simp only [Act.put, List.setIfInBounds_toArray, List.set_cons_zero, List.set_cons_succ]
          refine wpAnyH_ready (rs := [8]) (by kernel_rfl) (by simp) ?_
          refine AllReadyH.cons rfl (fun K hK => ?_) AllReadyH.nil
          have hb : Below V3.heap.size V3 (V3.alloc (.cells #[.slice none 0 0, .slice none 0 0, .slice none 0 0] 31)) := (Below.refl _ _).alloc (Nat.le_refl _) _
          have KZL : Hid (w2.heap.size ≤ V3.heap.size) := C3.out.size
          have D4 : Hid (DAt (V3.alloc (.cells #[.slice none 0 0, .slice none 0 0, .slice none 0 0] 31)) (some ⟨gl9, 0, none⟩) (some ⟨gs9, 0, none⟩) (some ⟨go9, 0, none⟩) L S O) := D3.out.below hb
          have A4 : Hid (DA (V3.alloc (.cells #[.slice none 0 0, .slice none 0 0, .slice none 0 0] 31)) bw (.slice a1 x1 c1) (.slice a2 x2 c2) (.slice a3 x3 c3) XL XS XO) := A3.out.below hb
          have C4 : Hid (Below w2.heap.size w2 (V3.alloc (.cells #[.slice none 0 0, .slice none 0 0, .slice none 0 0] 31))) := C3.out.trans (hb.mono C3.out.size)
          have ZX : Hid ((V3.alloc (.cells #[.slice none 0 0, .slice none 0 0, .slice none 0 0] 31)).heap[V3.heap.size]? = some (.cells #[.slice none 0 0, .slice none 0 0, .slice none 0 0] 31 (0, 0))) := heap_alloc_new _ _
          clear hb
          (try simp only [Act.put, List.setIfInBounds_toArray])
          go_simp
          refine hK.out _ _ ?_ (fun hHeld => ?_)
          · exact HSS.out _ C4.out
          clear hK K
          obtain ⟨kz, HG⟩ : ∃ g, Hid (V3.heap.size = g) := ⟨_, rfl⟩
          rw [HG.out] at ZX KZL ⊢
          generalize (V3.alloc (.cells #[.slice none 0 0, .slice none 0 0, .slice none 0 0] 31)) = V4 at *
          clear HG
          refine wpAnyH_ready (rs := [9]) (by kernel_rfl) (by simp) ?_
          refine AllReadyH.cons rfl (fun K hK => ?_) AllReadyH.nil
          obtain ⟨r0, r1, r2⟩ := cells3 ZX.out
          have rf := fun i => frozen_of_row _ _ i _ _ ZX.out
          have ZF : Hid ((((V4.setCell ⟨kz, 0, none⟩ (.slice a1 x1 c1)).setCell ⟨kz, 1, none⟩ (.slice a2 x2 c2)).setCell ⟨kz, 2, none⟩ (.slice a3 x3 c3)).heap[kz]? = some (.cells #[.slice a1 x1 c1, .slice a2 x2 c2, .slice a3 x3 c3] 31 (0, 0))) := box3_set ZX.out
          have AF : Hid (DA (((V4.setCell ⟨kz, 0, none⟩ (.slice a1 x1 c1)).setCell ⟨kz, 1, none⟩ (.slice a2 x2 c2)).setCell ⟨kz, 2, none⟩ (.slice a3 x3 c3)) bw (.slice a1 x1 c1) (.slice a2 x2 c2) (.slice a3 x3 c3) XL XS XO) := da_box3 A4.out ZX.out
          have CF : Hid (Below w2.heap.size w2 (((V4.setCell ⟨kz, 0, none⟩ (.slice a1 x1 c1)).setCell ⟨kz, 1, none⟩ (.slice a2 x2 c2)).setCell ⟨kz, 2, none⟩ (.slice a3 x3 c3))) := ((C4.out.setCell KZL.out _).setCell KZL.out _).setCell KZL.out _
          go_simp
          refine hK.out _ _ ?_ (fun hHeld => ?_)
          · exact HSS.out _ CF.out
          clear hK K
          clear r0 r1 r2 rf
          generalize (((V4.setCell ⟨kz, 0, none⟩ (.slice a1 x1 c1)).setCell ⟨kz, 1, none⟩ (.slice a2 x2 c2)).setCell ⟨kz, 2, none⟩ (.slice a3 x3 c3)) = WF at *
          refine wpAnyH_take (i := 10) (v := ?_) rfl (by kernel_rfl) (by kernel_rfl) (by kernel_rfl) (fun _ _ _ h => h) (Or.inl ⟨by kernel_rfl, ?_⟩) hHeld ?_
          rotate_left 1; focus (intro w hSw; (try dsimp only at hSw); (try go_split_ands); go_simp; all_goals (first | done | with_reducible rfl))
          change wpAnyH _ _ _ _ _ _ _ (Act.put _ (some 7) _) _; simp only [Act.put, List.setIfInBounds_toArray, List.set_cons_zero, List.set_cons_succ]
          refine wpAnyH_done (by kernel_rfl) ?_ _
          clear hHeld
          (try go_wp2_with fail)
          go_meet
          exact ⟨kz, bw, a1, c1, a2, c2, a3, c3, rfl, rfl, CF.out, ZF.out, LBW.out, AF.out⟩
        refine AllReadyH.cons rfl (fun K hK => ?_) AllReadyH.nil
        have hb : Below V2.heap.size V2 (V2.alloc (.cells #[.slice none 0 0, .slice none 0 0, .slice none 0 0] 31)) := (Below.refl _ _).alloc (Nat.le_refl _) _
        have KZL : Hid (w2.heap.size ≤ V2.heap.size) := C2.out.size
        have D3 : Hid (DAt (V2.alloc (.cells #[.slice none 0 0, .slice none 0 0, .slice none 0 0] 31)) (some ⟨gl9, 0, none⟩) (some ⟨gs9, 0, none⟩) (some ⟨go9, 0, none⟩) L S O) := D2.out.below hb
        have C3 : Hid (Below w2.heap.size w2 (V2.alloc (.cells #[.slice none 0 0, .slice none 0 0, .slice none 0 0] 31))) := C2.out.trans (hb.mono C2.out.size)
        have ZX : Hid ((V2.alloc (.cells #[.slice none 0 0, .slice none 0 0, .slice none 0 0] 31)).heap[V2.heap.size]? = some (.cells #[.slice none 0 0, .slice none 0 0, .slice none 0 0] 31 (0, 0))) := heap_alloc_new _ _
        clear hb
        (try simp only [Act.put, List.setIfInBounds_toArray])
        go_simp
        refine hK.out _ _ ?_ (fun hHeld => ?_)
        · exact HSS.out _ C3.out
        clear hK K
        obtain ⟨kz, HG⟩ : ∃ g, Hid (V2.heap.size = g) := ⟨_, rfl⟩
        rw [HG.out] at ZX KZL ⊢
        generalize (V2.alloc (.cells #[.slice none 0 0, .slice none 0 0, .slice none 0 0] 31)) = V3 at *
        clear HG
        refine wpAnyH_ready (rs := [4]) (by kernel_rfl) (by simp) ?_
        refine AllReadyH.cons rfl (fun K hK => ?_) AllReadyH.nil
        (try simp only [Act.put, List.setIfInBounds_toArray])
        go_simp
        refine (SP.out V3 _ _ _ D3.out).mono ?_
        rintro e V4 ⟨a1, c1, a2, c2, a3, c3, rfl, hb, hda⟩
        obtain ⟨bw, LBW, hda⟩ : ∃ b, Hid (w2.heap.size ≤ b) ∧ DA V4 b (.slice a1 x1 c1) (.slice a2 x2 c2) (.slice a3 x3 c3) XL XS XO := ⟨_, C3.out.size, hda⟩
        have D4 : Hid (DAt V4 (some ⟨gl9, 0, none⟩) (some ⟨gs9, 0, none⟩) (some ⟨go9, 0, none⟩) L S O) := D3.out.below hb
        have Z4 : Hid (V4.heap[kz]? = some (.cells #[.slice none 0 0, .slice none 0 0, .slice none 0 0] 31 (0, 0))) := below_row hb (row_lt ZX.out) ZX.out
        have C4 : Hid (Below w2.heap.size w2 V4) := C3.out.trans (hb.mono C3.out.size)
        have A4 : Hid (DA V4 bw (.slice a1 x1 c1) (.slice a2 x2 c2) (.slice a3 x3 c3) XL XS XO) := hda
        clear hb hda
        (try go_wp2_with fail)
        refine hK.out _ _ ?_ (fun hHeld => ?_)
        · exact HSS.out _ C4.out
        clear hK K
        refine wpAnyH_take (i := 5) (v := ?_) rfl (by kernel_rfl) (by kernel_rfl) (by kernel_rfl) (fun _ _ _ h => h) (Or.inl ⟨by kernel_rfl, ?_⟩) hHeld ?_
        rotate_left 1; focus (intro w hSw; (try dsimp only at hSw); (try go_split_ands); go_simp; all_goals (first | done | with_reducible rfl))
        change wpAnyH _ _ _ _ _ _ _ (Act.put _ (some 26) _) _; simp only [Act.put, List.setIfInBounds_toArray, List.set_cons_zero, List.set_cons_succ]
        refine wpAnyH_take (i := 6) (v := ?_) rfl (by kernel_rfl) (by kernel_rfl) (by kernel_rfl) (fun _ _ _ h => h) (Or.inl ⟨by kernel_rfl, ?_⟩) hHeld ?_
        rotate_left 1; focus (intro w hSw; (try dsimp only at hSw); (try go_split_ands); go_simp; all_goals (first | done | with_reducible rfl))
        change wpAnyH _ _ _ _ _ _ _ (Act.put _ (some 32) _) _; simp only [Act.put, List.setIfInBounds_toArray, List.set_cons_zero, List.set_cons_succ]
        refine wpAnyH_take (i := 7) (v := ?_) rfl (by kernel_rfl) (by kernel_rfl) (by kernel_rfl) (fun _ _ _ h => h) (Or.inl ⟨by kernel_rfl, ?_⟩) hHeld ?_
        rotate_left 1; focus (intro w hSw; (try dsimp only at hSw); (try go_split_ands); go_simp; all_goals (first | done | with_reducible rfl))
        change wpAnyH _ _ _ _ _ _ _ (Act.put _ (some 33) _) _; simp only [Act.put, List.setIfInBounds_toArray, List.set_cons_zero, List.set_cons_succ]
        refine wpAnyH_ready (rs := [9]) (by kernel_rfl) (by simp) ?_
        refine AllReadyH.cons rfl (fun K hK => ?_) AllReadyH.nil
        obtain ⟨r0, r1, r2⟩ := cells3 Z4.out
        have rf := fun i => frozen_of_row _ _ i _ _ Z4.out
        have ZF : Hid ((((V4.setCell ⟨kz, 0, none⟩ (.slice a1 x1 c1)).setCell ⟨kz, 1, none⟩ (.slice a2 x2 c2)).setCell ⟨kz, 2, none⟩ (.slice a3 x3 c3)).heap[kz]? = some (.cells #[.slice a1 x1 c1, .slice a2 x2 c2, .slice a3 x3 c3] 31 (0, 0))) := box3_set Z4.out
        have AF : Hid (DA (((V4.setCell ⟨kz, 0, none⟩ (.slice a1 x1 c1)).setCell ⟨kz, 1, none⟩ (.slice a2 x2 c2)).setCell ⟨kz, 2, none⟩ (.slice a3 x3 c3)) bw (.slice a1 x1 c1) (.slice a2 x2 c2) (.slice a3 x3 c3) XL XS XO) := da_box3 A4.out Z4.out
        have CF : Hid (Below w2.heap.size w2 (((V4.setCell ⟨kz, 0, none⟩ (.slice a1 x1 c1)).setCell ⟨kz, 1, none⟩ (.slice a2 x2 c2)).setCell ⟨kz, 2, none⟩ (.slice a3 x3 c3))) := ((C4.out.setCell KZL.out _).setCell KZL.out _).setCell KZL.out _
        go_simp
        refine hK.out _ _ ?_ (fun hHeld => ?_)
        · exact HSS.out _ CF.out
        clear hK K
        clear r0 r1 r2 rf
        generalize (((V4.setCell ⟨kz, 0, none⟩ (.slice a1 x1 c1)).setCell ⟨kz, 1, none⟩ (.slice a2 x2 c2)).setCell ⟨kz, 2, none⟩ (.slice a3 x3 c3)) = WF at *
        refine wpAnyH_take (i := 10) (v := ?_) rfl (by kernel_rfl) (by kernel_rfl) (by kernel_rfl) (fun _ _ _ h => h) (Or.inl ⟨by kernel_rfl, ?_⟩) hHeld ?_
        rotate_left 1; focus (intro w hSw; (try dsimp only at hSw); (try go_split_ands); go_simp; all_goals (first | done | with_reducible rfl))
        change wpAnyH _ _ _ _ _ _ _ (Act.put _ (some 7) _) _; simp only [Act.put, List.setIfInBounds_toArray, List.set_cons_zero, List.set_cons_succ]
        refine wpAnyH_done (by kernel_rfl) ?_ _
        clear hHeld
        (try go_wp2_with fail)
        go_meet
        exact ⟨kz, bw, a1, c1, a2, c2, a3, c3, rfl, rfl, CF.out, ZF.out, LBW.out, AF.out⟩
      refine AllReadyH.cons rfl (fun K hK => ?_) AllReadyH.nil
      have hb : Below V1.heap.size V1 (V1.alloc (.cells #[.slice none 0 0, .slice none 0 0, .slice none 0 0] 31)) := (Below.refl _ _).alloc (Nat.le_refl _) _
      have KZL : Hid (w2.heap.size ≤ V1.heap.size) := C1.out.size
      have D2 : Hid (DAt (V1.alloc (.cells #[.slice none 0 0, .slice none 0 0, .slice none 0 0] 31)) (some ⟨gl9, 0, none⟩) (some ⟨gs9, 0, none⟩) (some ⟨go9, 0, none⟩) L S O) := D1.out.below hb
      have C2 : Hid (Below w2.heap.size w2 (V1.alloc (.cells #[.slice none 0 0, .slice none 0 0, .slice none 0 0] 31))) := C1.out.trans (hb.mono C1.out.size)
      have ZX : Hid ((V1.alloc (.cells #[.slice none 0 0, .slice none 0 0, .slice none 0 0] 31)).heap[V1.heap.size]? = some (.cells #[.slice none 0 0, .slice none 0 0, .slice none 0 0] 31 (0, 0))) := heap_alloc_new _ _
      clear hb
      (try simp only [Act.put, List.setIfInBounds_toArray])
      go_simp
      refine hK.out _ _ ?_ (fun hHeld => ?_)
      · exact HSS.out _ C2.out
      clear hK K
      obtain ⟨kz, HG⟩ : ∃ g, Hid (V1.heap.size = g) := ⟨_, rfl⟩
      rw [HG.out] at ZX KZL ⊢
      generalize (V1.alloc (.cells #[.slice none 0 0, .slice none 0 0, .slice none 0 0] 31)) = V2 at *
      clear HG
      refine wpAnyH_ready (rs := [3]) (by kernel_rfl) (by simp) ?_
      refine AllReadyH.cons rfl (fun K hK => ?_) AllReadyH.nil
      (try simp only [Act.put, List.setIfInBounds_toArray])
      go_simp
      refine (toDOp_any o.k o.n o.t o.d _).mono ?_
      rintro e V3 ⟨rfl, hb⟩
      have D3 : Hid (DAt V3 (some ⟨gl9, 0, none⟩) (some ⟨gs9, 0, none⟩) (some ⟨go9, 0, none⟩) L S O) := D2.out.below hb
      have Z3 : Hid (V3.heap[kz]? = some (.cells #[.slice none 0 0, .slice none 0 0, .slice none 0 0] 31 (0, 0))) := below_row hb (row_lt ZX.out) ZX.out
      have C3 : Hid (Below w2.heap.size w2 V3) := C2.out.trans (hb.mono C2.out.size)
      clear hb
      (try go_wp2_with fail)
      refine hK.out _ _ ?_ (fun hHeld => ?_)
      · exact HSS.out _ C3.out
      clear hK K
      refine wpAnyH_ready (rs := [4]) (by kernel_rfl) (by simp) ?_
      refine AllReadyH.cons rfl (fun K hK => ?_) AllReadyH.nil
      (try simp only [Act.put, List.setIfInBounds_toArray])
      go_simp
      refine (SP.out V3 _ _ _ D3.out).mono ?_
      rintro e V4 ⟨a1, c1, a2, c2, a3, c3, rfl, hb, hda⟩
      obtain ⟨bw, LBW, hda⟩ : ∃ b, Hid (w2.heap.size ≤ b) ∧ DA V4 b (.slice a1 x1 c1) (.slice a2 x2 c2) (.slice a3 x3 c3) XL XS XO := ⟨_, C3.out.size, hda⟩
      have D4 : Hid (DAt V4 (some ⟨gl9, 0, none⟩) (some ⟨gs9, 0, none⟩) (some ⟨go9, 0, none⟩) L S O) := D3.out.below hb
      have Z4 : Hid (V4.heap[kz]? = some (.cells #[.slice none 0 0, .slice none 0 0, .slice none 0 0] 31 (0, 0))) := below_row hb (row_lt Z3.out) Z3.out
      have C4 : Hid (Below w2.heap.size w2 V4) := C3.out.trans (hb.mono C3.out.size)
      have A4 : Hid (DA V4 bw (.slice a1 x1 c1) (.slice a2 x2 c2) (.slice a3 x3 c3) XL XS XO) := hda
      clear hb hda
      (try go_wp2_with fail)
      refine hK.out _ _ ?_ (fun hHeld => ?_)
      · exact HSS.out _ C4.out
      clear hK K
      refine wpAnyH_take (i := 5) (v := ?_) rfl (by kernel_rfl) (by kernel_rfl) (by kernel_rfl) (fun _ _ _ h => h) (Or.inl ⟨by kernel_rfl, ?_⟩) hHeld ?_
      rotate_left 1; focus (intro w hSw; (try dsimp only at hSw); (try go_split_ands); go_simp; all_goals (first | done | with_reducible rfl))
      change wpAnyH _ _ _ _ _ _ _ (Act.put _ (some 26) _) _; simp only [Act.put, List.setIfInBounds_toArray, List.set_cons_zero, List.set_cons_succ]
      refine wpAnyH_take (i := 6) (v := ?_) rfl (by kernel_rfl) (by kernel_rfl) (by kernel_rfl) (fun _ _ _ h => h) (Or.inl ⟨by kernel_rfl, ?_⟩) hHeld ?_
      rotate_left 1; focus (intro w hSw; (try dsimp only at hSw); (try go_split_ands); go_simp; all_goals (first | done | with_reducible rfl))
      change wpAnyH _ _ _ _ _ _ _ (Act.put _ (some 32) _) _; simp only [Act.put, List.setIfInBounds_toArray, List.set_cons_zero, List.set_cons_succ]
      refine wpAnyH_take (i := 7) (v := ?_) rfl (by kernel_rfl) (by kernel_rfl) (by kernel_rfl) (fun _ _ _ h => h) (Or.inl ⟨by kernel_rfl, ?_⟩) hHeld ?_
      rotate_left 1; focus (intro w hSw; (try dsimp only at hSw); (try go_split_ands); go_simp; all_goals (first | done | with_reducible rfl))
      change wpAnyH _ _ _ _ _ _ _ (Act.put _ (some 33) _) _; simp only [Act.put, List.setIfInBounds_toArray, List.set_cons_zero, List.set_cons_succ]
      refine wpAnyH_ready (rs := [9]) (by kernel_rfl) (by simp) ?_
      refine AllReadyH.cons rfl (fun K hK => ?_) AllReadyH.nil
      obtain ⟨r0, r1, r2⟩ := cells3 Z4.out
      have rf := fun i => frozen_of_row _ _ i _ _ Z4.out
      have ZF : Hid ((((V4.setCell ⟨kz, 0, none⟩ (.slice a1 x1 c1)).setCell ⟨kz, 1, none⟩ (.slice a2 x2 c2)).setCell ⟨kz, 2, none⟩ (.slice a3 x3 c3)).heap[kz]? = some (.cells #[.slice a1 x1 c1, .slice a2 x2 c2, .slice a3 x3 c3] 31 (0, 0))) := box3_set Z4.out
      have AF : Hid (DA (((V4.setCell ⟨kz, 0, none⟩ (.slice a1 x1 c1)).setCell ⟨kz, 1, none⟩ (.slice a2 x2 c2)).setCell ⟨kz, 2, none⟩ (.slice a3 x3 c3)) bw (.slice a1 x1 c1) (.slice a2 x2 c2) (.slice a3 x3 c3) XL XS XO) := da_box3 A4.out Z4.out
      have CF : Hid (Below w2.heap.size w2 (((V4.setCell ⟨kz, 0, none⟩ (.slice a1 x1 c1)).setCell ⟨kz, 1, none⟩ (.slice a2 x2 c2)).setCell ⟨kz, 2, none⟩ (.slice a3 x3 c3))) := ((C4.out.setCell KZL.out _).setCell KZL.out _).setCell KZL.out _
      go_simp
      refine hK.out _ _ ?_ (fun hHeld => ?_)
      · exact HSS.out _ CF.out
      clear hK K
      clear r0 r1 r2 rf
      generalize (((V4.setCell ⟨kz, 0, none⟩ (.slice a1 x1 c1)).setCell ⟨kz, 1, none⟩ (.slice a2 x2 c2)).setCell ⟨kz, 2, none⟩ (.slice a3 x3 c3)) = WF at *
      refine wpAnyH_take (i := 10) (v := ?_) rfl (by kernel_rfl) (by kernel_rfl) (by kernel_rfl) (fun _ _ _ h => h) (Or.inl ⟨by kernel_rfl, ?_⟩) hHeld ?_
      rotate_left 1; focus (intro w hSw; (try dsimp only at hSw); (try go_split_ands); go_simp; all_goals (first | done | with_reducible rfl))
      change wpAnyH _ _ _ _ _ _ _ (Act.put _ (some 7) _) _; simp only [Act.put, List.setIfInBounds_toArray, List.set_cons_zero, List.set_cons_succ]
      refine wpAnyH_done (by kernel_rfl) ?_ _
      clear hHeld
      (try go_wp2_with fail)
      go_meet
      exact ⟨kz, bw, a1, c1, a2, c2, a3, c3, rfl, rfl, CF.out, ZF.out, LBW.out, AF.out⟩
    refine AllReadyH.cons rfl (fun K hK => ?_) AllReadyH.nil
    have hb : Below WD.heap.size WD (WD.alloc (.cells #[.slice none 0 0, .slice none 0 0, .slice none 0 0] 31)) := (Below.refl _ _).alloc (Nat.le_refl _) _
    have KZL : Hid (w2.heap.size ≤ WD.heap.size) := CS.out.size
    have C1 : Hid (Below w2.heap.size w2 (WD.alloc (.cells #[.slice none 0 0, .slice none 0 0, .slice none 0 0] 31))) := CS.out.trans (hb.mono CS.out.size)
    have ZX : Hid ((WD.alloc (.cells #[.slice none 0 0, .slice none 0 0, .slice none 0 0] 31)).heap[WD.heap.size]? = some (.cells #[.slice none 0 0, .slice none 0 0, .slice none 0 0] 31 (0, 0))) := heap_alloc_new _ _
    clear hb
    (try simp only [Act.put, List.setIfInBounds_toArray])
    go_simp
    refine hK.out _ _ ?_ (fun hHeld => ?_)
    · exact HSS.out _ C1.out
    clear hK K
    obtain ⟨kz, HG⟩ : ∃ g, Hid (WD.heap.size = g) := ⟨_, rfl⟩
    rw [HG.out] at ZX KZL ⊢
    generalize (WD.alloc (.cells #[.slice none 0 0, .slice none 0 0, .slice none 0 0] 31)) = V1 at *
    clear HG
    refine wpAnyH_ready (rs := [1]) (by kernel_rfl) (by simp) ?_
    refine AllReadyH.cons rfl (fun K hK => ?_) AllReadyH.nil
    (try simp only [Act.put, List.setIfInBounds_toArray])
    go_simp
    refine (TD.out _ (B2.out.trans (C1.out.mono B2.out.size))).mono ?_
    rintro e V2 ⟨gl9, gs9, go9, rfl, hb, -, -, hd⟩
    have Z2 : Hid (V2.heap[kz]? = some (.cells #[.slice none 0 0, .slice none 0 0, .slice none 0 0] 31 (0, 0))) := below_row hb (row_lt ZX.out) ZX.out
    have C2 : Hid (Below w2.heap.size w2 V2) := C1.out.trans (hb.mono C1.out.size)
    have D2 : Hid (DAt V2 (some ⟨gl9, 0, none⟩) (some ⟨gs9, 0, none⟩) (some ⟨go9, 0, none⟩) L S O) := hd
    clear hb hd
    (try go_wp2_with fail)
    refine hK.out _ _ ?_ (fun hHeld => ?_)
    · exact HSS.out _ C2.out
    clear hK K
    refine wpAnyH_ready (rs := [3]) (by kernel_rfl) (by simp) ?_
    refine AllReadyH.cons rfl (fun K hK => ?_) AllReadyH.nil
    (try simp only [Act.put, List.setIfInBounds_toArray])
    go_simp
    refine (toDOp_any o.k o.n o.t o.d _).mono ?_
    rintro e V3 ⟨rfl, hb⟩
    have D3 : Hid (DAt V3 (some ⟨gl9, 0, none⟩) (some ⟨gs9, 0, none⟩) (some ⟨go9, 0, none⟩) L S O) := D2.out.below hb
    have Z3 : Hid (V3.heap[kz]? = some (.cells #[.slice none 0 0, .slice none 0 0, .slice none 0 0] 31 (0, 0))) := below_row hb (row_lt Z2.out) Z2.out
    have C3 : Hid (Below w2.heap.size w2 V3) := C2.out.trans (hb.mono C2.out.size)
    clear hb
    (try go_wp2_with fail)
    refine hK.out _ _ ?_ (fun hHeld => ?_)
    · exact HSS.out _ C3.out
    clear hK K
    refine wpAnyH_ready (rs := [4]) (by kernel_rfl) (by simp) ?_
    refine AllReadyH.cons rfl (fun K hK => ?_) AllReadyH.nil
    (try simp only [Act.put, List.setIfInBounds_toArray])
    go_simp
    refine (SP.out V3 _ _ _ D3.out).mono ?_
    rintro e V4 ⟨a1, c1, a2, c2, a3, c3, rfl, hb, hda⟩
    obtain ⟨bw, LBW, hda⟩ : ∃ b, Hid (w2.heap.size ≤ b) ∧ DA V4 b (.slice a1 x1 c1) (.slice a2 x2 c2) (.slice a3 x3 c3) XL XS XO := ⟨_, C3.out.size, hda⟩
    have D4 : Hid (DAt V4 (some ⟨gl9, 0, none⟩) (some ⟨gs9, 0, none⟩) (some ⟨go9, 0, none⟩) L S O) := D3.out.below hb
    have Z4 : Hid (V4.heap[kz]? = some (.cells #[.slice none 0 0, .slice none 0 0, .slice none 0 0] 31 (0, 0))) := below_row hb (row_lt Z3.out) Z3.out
    have C4 : Hid (Below w2.heap.size w2 V4) := C3.out.trans (hb.mono C3.out.size)
    have A4 : Hid (DA V4 bw (.slice a1 x1 c1) (.slice a2 x2 c2) (.slice a3 x3 c3) XL XS XO) := hda
    clear hb hda
    (try go_wp2_with fail)
    refine hK.out _ _ ?_ (fun hHeld => ?_)
    · exact HSS.out _ C4.out
    clear hK K
    refine wpAnyH_take (i := 5) (v := ?_) rfl (by kernel_rfl) (by kernel_rfl) (by kernel_rfl) (fun _ _ _ h => h) (Or.inl ⟨by kernel_rfl, ?_⟩) hHeld ?_
    rotate_left 1; focus (intro w hSw; (try dsimp only at hSw); (try go_split_ands); go_simp; all_goals (first | done | with_reducible rfl))
    change wpAnyH _ _ _ _ _ _ _ (Act.put _ (some 26) _) _; simp only [Act.put, List.setIfInBounds_toArray, List.set_cons_zero, List.set_cons_succ]
    refine wpAnyH_take (i := 6) (v := ?_) rfl (by kernel_rfl) (by kernel_rfl) (by kernel_rfl) (fun _ _ _ h => h) (Or.inl ⟨by kernel_rfl, ?_⟩) hHeld ?_
    rotate_left 1; focus (intro w hSw; (try dsimp only at hSw); (try go_split_ands); go_simp; all_goals (first | done | with_reducible rfl))
    change wpAnyH _ _ _ _ _ _ _ (Act.put _ (some 32) _) _; simp only [Act.put, List.setIfInBounds_toArray, List.set_cons_zero, List.set_cons_succ]
    refine wpAnyH_take (i := 7) (v := ?_) rfl (by kernel_rfl) (by kernel_rfl) (by kernel_rfl) (fun _ _ _ h => h) (Or.inl ⟨by kernel_rfl, ?_⟩) hHeld ?_
    rotate_left 1; focus (intro w hSw; (try dsimp only at hSw); (try go_split_ands); go_simp; all_goals (first | done | with_reducible rfl))
    change wpAnyH _ _ _ _ _ _ _ (Act.put _ (some 33) _) _; simp only [Act.put, List.setIfInBounds_toArray, List.set_cons_zero, List.set_cons_succ]
    refine wpAnyH_ready (rs := [9]) (by kernel_rfl) (by simp) ?_
    refine AllReadyH.cons rfl (fun K hK => ?_) AllReadyH.nil
    obtain ⟨r0, r1, r2⟩ := cells3 Z4.out
    have rf := fun i => frozen_of_row _ _ i _ _ Z4.out
    have ZF : Hid ((((V4.setCell ⟨kz, 0, none⟩ (.slice a1 x1 c1)).setCell ⟨kz, 1, none⟩ (.slice a2 x2 c2)).setCell ⟨kz, 2, none⟩ (.slice a3 x3 c3)).heap[kz]? = some (.cells #[.slice a1 x1 c1, .slice a2 x2 c2, .slice a3 x3 c3] 31 (0, 0))) := box3_set Z4.out
    have AF : Hid (DA (((V4.setCell ⟨kz, 0, none⟩ (.slice a1 x1 c1)).setCell ⟨kz, 1, none⟩ (.slice a2 x2 c2)).setCell ⟨kz, 2, none⟩ (.slice a3 x3 c3)) bw (.slice a1 x1 c1) (.slice a2 x2 c2) (.slice a3 x3 c3) XL XS XO) := da_box3 A4.out Z4.out
    have CF : Hid (Below w2.heap.size w2 (((V4.setCell ⟨kz, 0, none⟩ (.slice a1 x1 c1)).setCell ⟨kz, 1, none⟩ (.slice a2 x2 c2)).setCell ⟨kz, 2, none⟩ (.slice a3 x3 c3))) := ((C4.out.setCell KZL.out _).setCell KZL.out _).setCell KZL.out _
    go_simp
    refine hK.out _ _ ?_ (fun hHeld => ?_)
    · exact HSS.out _ CF.out
    clear hK K
    clear r0 r1 r2 rf
    generalize (((V4.setCell ⟨kz, 0, none⟩ (.slice a1 x1 c1)).setCell ⟨kz, 1, none⟩ (.slice a2 x2 c2)).setCell ⟨kz, 2, none⟩ (.slice a3 x3 c3)) = WF at *
    refine wpAnyH_take (i := 10) (v := ?_) rfl (by kernel_rfl) (by kernel_rfl) (by kernel_rfl) (fun _ _ _ h => h) (Or.inl ⟨by kernel_rfl, ?_⟩) hHeld ?_
    rotate_left 1; focus (intro w hSw; (try dsimp only at hSw); (try go_split_ands); go_simp; all_goals (first | done | with_reducible rfl))
    change wpAnyH _ _ _ _ _ _ _ (Act.put _ (some 7) _) _; simp only [Act.put, List.setIfInBounds_toArray, List.set_cons_zero, List.set_cons_succ]
    refine wpAnyH_done (by kernel_rfl) ?_ _
    clear hHeld
    (try go_wp2_with fail)
    go_meet
    exact ⟨kz, bw, a1, c1, a2, c2, a3, c3, rfl, rfl, CF.out, ZF.out, LBW.out, AF.out⟩
  case rest =>
    obtain ⟨kz, bw, a1, c1, a2, c2, a3, c3, rfl, rfl, hbc, hrow, hbw, hda⟩ := hcut
    obtain ⟨w4, hw4⟩ : ∃ v, v = wc := ⟨_, rfl⟩
    subst hw4
    have BW : Hid (w.heap.size ≤ bw) := Nat.le_trans B2.out.size hbw
    have B4 : Hid (Below w.heap.size w w4) := B2.out.trans (hbc.mono B2.out.size)
    have R4 : Hid (w4.heap[w.heap.size]? = some (.cells #[.slice la ln lc, .slice sa sn sc, .slice oa on oc] 25 (0, 0))) := below_row hbc (row_lt R2.out) R2.out
    have Y4 : Hid (w4.heap[w.heap.size + 1]? = some (.cells #[.int .i64 o.k, .string o.n, .string o.t, .string o.d] 36 (0, 0))) := below_row hbc (row_lt Y2.out) Y2.out
    clear B2 R2 Y2
    obtain ⟨i6, HI6⟩ : ∃ i, i = kz := ⟨_, rfl⟩
    subst HI6
    have P4 : Hid (w4.heap[i6]? = some (.cells #[.slice a1 x1 c1, .slice a2 x2 c2, .slice a3 x3 c3] 31 (0, 0))) := hrow
    have W4 : Hid (DA w4 bw (.slice a1 x1 c1) (.slice a2 x2 c2) (.slice a3 x3 c3) XL XS XO) := hda
    clear hbc hrow hda hbw
    obtain ⟨zr4_0, zr4_1, zr4_2⟩ := cells3 R4.out
    go_wp2_with fail
    refine (TD.out _ B4.out).mono ?_
    rintro e w5 ⟨gl, gs, go, rfl, hb5, hne5, hdo5, -⟩
    obtain ⟨bx, hbx, hlw, hx5⟩ : ∃ bx, w.heap.size ≤ bx ∧ LowD (.slice a1 x1 c1) (.slice a2 x2 c2) (.slice a3 x3 c3) bx ∧ DA w5 bx (.slice (some ⟨gl, 0, none⟩) ln ln) (.slice (some ⟨gs, 0, none⟩) sn sn) (.slice (some ⟨go, 0, none⟩) on on) L S O := ⟨_, B4.out.size, W4.out.low, ⟨hdo5, fun k h1 h2 => hne5 (Option.some.inj ((show some gl = some k from h1).trans (show some gs = some k from h2).symm))⟩⟩
    have BX : Hid (w.heap.size ≤ bx) := hbx
    have LW : Hid (LowD (.slice a1 x1 c1) (.slice a2 x2 c2) (.slice a3 x3 c3) bx) := hlw
    have B5 : Hid (Below w.heap.size w w5) := B4.out.trans (hb5.mono B4.out.size)
    have R5 : Hid (w5.heap[w.heap.size]? = some (.cells #[.slice la ln lc, .slice sa sn sc, .slice oa on oc] 25 (0, 0))) := below_row hb5 (row_lt R4.out) R4.out
    have Y5 : Hid (w5.heap[w.heap.size + 1]? = some (.cells #[.int .i64 o.k, .string o.n, .string o.t, .string o.d] 36 (0, 0))) := below_row hb5 (row_lt Y4.out) Y4.out
    have P5 : Hid (w5.heap[i6]? = some (.cells #[.slice a1 x1 c1, .slice a2 x2 c2, .slice a3 x3 c3] 31 (0, 0))) := below_row hb5 (row_lt P4.out) P4.out
    have W5 : Hid (DA w5 bw (.slice a1 x1 c1) (.slice a2 x2 c2) (.slice a3 x3 c3) XL XS XO) := W4.out.below hb5
    clear B4 R4 Y4 P4 W4
    have X5 : Hid (DA w5 bx (.slice (some ⟨gl, 0, none⟩) ln ln) (.slice (some ⟨gs, 0, none⟩) sn sn) (.slice (some ⟨go, 0, none⟩) on on) L S O) := hx5
    clear zr4_0 zr4_1 zr4_2
    clear hb5 hne5 hdo5 hbx hlw hx5
    have hb6 : Below w5.heap.size w5 (w5.alloc (.cells #[.slice (some ⟨gl, 0, none⟩) ln ln, .slice (some ⟨gs, 0, none⟩) sn sn, .slice (some ⟨go, 0, none⟩) on on] 31)) := (Below.refl _ _).alloc (Nat.le_refl _) _
    have B6 : Hid (Below w.heap.size w (w5.alloc (.cells #[.slice (some ⟨gl, 0, none⟩) ln ln, .slice (some ⟨gs, 0, none⟩) sn sn, .slice (some ⟨go, 0, none⟩) on on] 31))) := B5.out.trans (hb6.mono B5.out.size)
    have R6 : Hid ((w5.alloc (.cells #[.slice (some ⟨gl, 0, none⟩) ln ln, .slice (some ⟨gs, 0, none⟩) sn sn, .slice (some ⟨go, 0, none⟩) on on] 31)).heap[w.heap.size]? = some (.cells #[.slice la ln lc, .slice sa sn sc, .slice oa on oc] 25 (0, 0))) := below_row hb6 (row_lt R5.out) R5.out
    have Y6 : Hid ((w5.alloc (.cells #[.slice (some ⟨gl, 0, none⟩) ln ln, .slice (some ⟨gs, 0, none⟩) sn sn, .slice (some ⟨go, 0, none⟩) on on] 31)).heap[w.heap.size + 1]? = some (.cells #[.int .i64 o.k, .string o.n, .string o.t, .string o.d] 36 (0, 0))) := below_row hb6 (row_lt Y5.out) Y5.out
    have P6 : Hid ((w5.alloc (.cells #[.slice (some ⟨gl, 0, none⟩) ln ln, .slice (some ⟨gs, 0, none⟩) sn sn, .slice (some ⟨go, 0, none⟩) on on] 31)).heap[i6]? = some (.cells #[.slice a1 x1 c1, .slice a2 x2 c2, .slice a3 x3 c3] 31 (0, 0))) := below_row hb6 (row_lt P5.out) P5.out
    have W6 : Hid (DA (w5.alloc (.cells #[.slice (some ⟨gl, 0, none⟩) ln ln, .slice (some ⟨gs, 0, none⟩) sn sn, .slice (some ⟨go, 0, none⟩) on on] 31)) bw (.slice a1 x1 c1) (.slice a2 x2 c2) (.slice a3 x3 c3) XL XS XO) := W5.out.below hb6
    have X6 : Hid (DA (w5.alloc (.cells #[.slice (some ⟨gl, 0, none⟩) ln ln, .slice (some ⟨gs, 0, none⟩) sn sn, .slice (some ⟨go, 0, none⟩) on on] 31)) bx (.slice (some ⟨gl, 0, none⟩) ln ln) (.slice (some ⟨gs, 0, none⟩) sn sn) (.slice (some ⟨go, 0, none⟩) on on) L S O) := X5.out.below hb6
    clear B5 R5 Y5 P5 W5 X5
    have Q6 : Hid ((w5.alloc (.cells #[.slice (some ⟨gl, 0, none⟩) ln ln, .slice (some ⟨gs, 0, none⟩) sn sn, .slice (some ⟨go, 0, none⟩) on on] 31)).heap[w5.heap.size]? = some (.cells #[.slice (some ⟨gl, 0, none⟩) ln ln, .slice (some ⟨gs, 0, none⟩) sn sn, .slice (some ⟨go, 0, none⟩) on on] 31 (0, 0))) := heap_alloc_new _ _
    clear hb6
    go_upto_region 10 with fail
    obtain ⟨i8, HI8⟩ : ∃ i, Hid (w5.heap.size = i) := ⟨_, rfl⟩
    rw [HI8.out] at Q6 ⊢
    generalize (w5.alloc (.cells #[.slice (some ⟨gl, 0, none⟩) ln ln, .slice (some ⟨gs, 0, none⟩) sn sn, .slice (some ⟨go, 0, none⟩) on on] 31)) = w6 at *
    go_cut [9, 10] from 16 to 108 (fun s6 s7 wx => ∃ (kz bw : Nat) (b1 : Option Addr) (e1 : Nat) (b2 : Option Addr) (e2 : Nat) (b3 : Option Addr) (e3 : Nat), s6 = .pointer (some ⟨kz, 0, none⟩) ∧ s7 = .int .i64 kd ∧ Below w6.heap.size w6 wx ∧ wx.heap[kz]? = some (.cells #[.slice b1 x1 e1, .slice b2 x2 e2, .slice b3 x3 e3] 31 (0, 0)) ∧ w6.heap.size ≤ bw ∧ DA wx bw (.slice b1 x1 e1) (.slice b2 x2 e2) (.slice b3 x3 e3) XL XS XO)
    case first =>
      go_wp2_with fail
      have HSS : Hid (∀ W, Below w6.heap.size w6 W → (fun W => W.cell? ⟨i8, 0, none⟩ = some (.slice (some ⟨gl, 0, none⟩) ln ln) ∧ W.cell? ⟨i8, 1, none⟩ = some (.slice (some ⟨gs, 0, none⟩) sn sn) ∧ W.cell? ⟨i8, 2, none⟩ = some (.slice (some ⟨go, 0, none⟩) on on) ∧ W.cell? ⟨w.heap.size + 1, 0, none⟩ = some (.int .i64 o.k) ∧ W.cell? ⟨w.heap.size + 1, 1, none⟩ = some (.string o.n) ∧ W.cell? ⟨w.heap.size + 1, 2, none⟩ = some (.string o.t) ∧ W.cell? ⟨w.heap.size + 1, 3, none⟩ = some (.string o.d)) W) := fun W hW => SS34 (below_row hW (row_lt Q6.out) Q6.out) (below_row hW (row_lt Y6.out) Y6.out)
      have CS : Hid (Below w6.heap.size w6 w6.drew) := (Below.refl _ _).drew
      refine wp_region_held_drew (S := (fun W => W.cell? ⟨i8, 0, none⟩ = some (.slice (some ⟨gl, 0, none⟩) ln ln) ∧ W.cell? ⟨i8, 1, none⟩ = some (.slice (some ⟨gs, 0, none⟩) sn sn) ∧ W.cell? ⟨i8, 2, none⟩ = some (.slice (some ⟨go, 0, none⟩) on on) ∧ W.cell? ⟨w.heap.size + 1, 0, none⟩ = some (.int .i64 o.k) ∧ W.cell? ⟨w.heap.size + 1, 1, none⟩ = some (.string o.n) ∧ W.cell? ⟨w.heap.size + 1, 2, none⟩ = some (.string o.t) ∧ W.cell? ⟨w.heap.size + 1, 3, none⟩ = some (.string o.d))) (by kernel_rfl) ?_ (fun hHeld => ?_)
      · exact HSS.out _ CS.out
      generalize w6.drew = WD at *
      refine wpAnyH_take (i := 0) (v := ?_) rfl (by kernel_rfl) (by kernel_rfl) (by kernel_rfl) (fun _ _ _ h => h) (Or.inl ⟨by kernel_rfl, ?_⟩) hHeld ?_
      rotate_left 1; focus (intro w hSw; (try dsimp only at hSw); (try go_split_ands); go_simp; all_goals (first | done | with_reducible rfl))
      change wpAnyH _ _ _ _ _ _ _ (Act.put _ (some 37) _) _; simp only [Act.put, List.setIfInBounds_toArray, List.set_cons_zero, List.set_cons_succ]
      refine wpAnyH_take (i := 1) (v := ?_) rfl (by kernel_rfl) (by kernel_rfl) (by kernel_rfl) (fun _ _ _ h => h) (Or.inl ⟨by kernel_rfl, ?_⟩) hHeld ?_
      rotate_left 1; focus (intro w hSw; (try dsimp only at hSw); (try go_split_ands); go_simp; all_goals (first | done | with_reducible rfl))
      change wpAnyH _ _ _ _ _ _ _ (Act.put _ (some 38) _) _; simp only [Act.put, List.setIfInBounds_toArray, List.set_cons_zero, List.set_cons_succ]
      refine wpAnyH_ready (rs := [2, 7]) (by kernel_rfl) (by simp) ?_
      refine AllReadyH.cons rfl (fun K hK => ?_) ?_
      · skip
        (try simp only [Act.put, List.setIfInBounds_toArray])
        go_simp
        refine (toDOp_any o.k o.n o.t o.d _).mono ?_
        rintro e V1 ⟨rfl, hb⟩
        have C1 : Hid (Below w6.heap.size w6 V1) := CS.out.trans (hb.mono CS.out.size)
        clear hb
        (try go_wp2_with fail)
        refine hK.out _ _ ?_ (fun hHeld => ?_)
        · exact HSS.out _ C1.out
        clear hK K
        refine wpAnyH_ready (rs := [3, 7]) (by kernel_rfl) (by simp) ?_
        refine AllReadyH.cons rfl (fun K hK => ?_) ?_
        · skip
          (try simp only [Act.put, List.setIfInBounds_toArray])
          go_simp
          refine (IM.out V1 _ _ _ ((X6.out.below C1.out).at HLN.out HSN.out HON.out)).mono ?_
          rintro e V2 ⟨b1, e1, b2, e2, b3, e3, rfl, hb, hda⟩
          obtain ⟨bw, LBW, hda⟩ : ∃ b, Hid (w6.heap.size ≤ b) ∧ DA V2 b (.slice b1 x1 e1) (.slice b2 x2 e2) (.slice b3 x3 e3) XL XS XO := ⟨_, C1.out.size, hda⟩
          have C2 : Hid (Below w6.heap.size w6 V2) := C1.out.trans (hb.mono C1.out.size)
          have A2 : Hid (DA V2 bw (.slice b1 x1 e1) (.slice b2 x2 e2) (.slice b3 x3 e3) XL XS XO) := hda
          clear hb hda
          (try go_wp2_with fail)
          refine hK.out _ _ ?_ (fun hHeld => ?_)
          · exact HSS.out _ C2.out
          clear hK K
          refine wpAnyH_take (i := 4) (v := ?_) rfl (by kernel_rfl) (by kernel_rfl) (by kernel_rfl) (fun _ _ _ h => h) (Or.inl ⟨by kernel_rfl, ?_⟩) hHeld ?_
          rotate_left 1; focus (intro w hSw; (try dsimp only at hSw); (try go_split_ands); go_simp; all_goals (first | done | with_reducible rfl))
          change wpAnyH _ _ _ _ _ _ _ (Act.put _ (some 36) _) _; simp only [Act.put, List.setIfInBounds_toArray, List.set_cons_zero, List.set_cons_succ]
          refine wpAnyH_take (i := 5) (v := ?_) rfl (by kernel_rfl) (by kernel_rfl) (by kernel_rfl) (fun _ _ _ h => h) (Or.inl ⟨by kernel_rfl, ?_⟩) hHeld ?_
          rotate_left 1; focus (intro w hSw; (try dsimp only at hSw); (try go_split_ands); go_simp; all_goals (first | done | with_reducible rfl))
          change wpAnyH _ _ _ _ _ _ _ (Act.put _ (some 41) _) _; simp only [Act.put, List.setIfInBounds_toArray, List.set_cons_zero, List.set_cons_succ]
          refine wpAnyH_take (i := 6) (v := ?_) rfl (by kernel_rfl) (by kernel_rfl) (by kernel_rfl) (fun _ _ _ h => h) (Or.inl ⟨by kernel_rfl, ?_⟩) hHeld ?_
          rotate_left 1; focus (intro w hSw; (try dsimp only at hSw); (try go_split_ands); go_simp; all_goals (first | done | with_reducible rfl))
          change wpAnyH _ _ _ _ _ _ _ (Act.put _ (some 42) _) _; simp only [Act.put, List.setIfInBounds_toArray, List.set_cons_zero, List.set_cons_succ]
          refine wpAnyH_ready (rs := [7]) (by kernel_rfl) (by simp) ?_
          refine AllReadyH.cons rfl (fun K hK => ?_) AllReadyH.nil
          have hb : Below V2.heap.size V2 (V2.alloc (.cells #[.slice none 0 0, .slice none 0 0, .slice none 0 0] 31)) := (Below.refl _ _).alloc (Nat.le_refl _) _
          have KZL : Hid (w6.heap.size ≤ V2.heap.size) := C2.out.size
          have A3 : Hid (DA (V2.alloc (.cells #[.slice none 0 0, .slice none 0 0, .slice none 0 0] 31)) bw (.slice b1 x1 e1) (.slice b2 x2 e2) (.slice b3 x3 e3) XL XS XO) := A2.out.below hb
          have C3 : Hid (Below w6.heap.size w6 (V2.alloc (.cells #[.slice none 0 0, .slice none 0 0, .slice none 0 0] 31))) := C2.out.trans (hb.mono C2.out.size)
          have ZX : Hid ((V2.alloc (.cells #[.slice none 0 0, .slice none 0 0, .slice none 0 0] 31)).heap[V2.heap.size]? = some (.cells #[.slice none 0 0, .slice none 0 0, .slice none 0 0] 31 (0, 0))) := heap_alloc_new _ _
          clear hb
          (try simp only [Act.put, List.setIfInBounds_toArray])
          go_simp
          refine hK.out _ _ ?_ (fun hHeld => ?_)
          · exact HSS.out _ C3.out
          clear hK K
          obtain ⟨kz, HG⟩ : ∃ g, Hid (V2.heap.size = g) := ⟨_, rfl⟩
          rw [HG.out] at ZX KZL ⊢
          generalize (V2.alloc (.cells #[.slice none 0 0, .slice none 0 0, .slice none 0 0] 31)) = V3 at *
          clear HG
          refine wpAnyH_ready (rs := [8]) (by kernel_rfl) (by simp) ?_
          refine AllReadyH.cons rfl (fun K hK => ?_) AllReadyH.nil
          obtain ⟨r0, r1, r2⟩ := cells3 ZX.out
          have rf := fun i => frozen_of_row _ _ i _ _ ZX.out
          have ZF : Hid ((((V3.setCell ⟨kz, 0, none⟩ (.slice b1 x1 e1)).setCell ⟨kz, 1, none⟩ (.slice b2 x2 e2)).setCell ⟨kz, 2, none⟩ (.slice b3 x3 e3)).heap[kz]? = some (.cells #[.slice b1 x1 e1, .slice b2 x2 e2, .slice b3 x3 e3] 31 (0, 0))) := box3_set ZX.out
          have AF : Hid (DA (((V3.setCell ⟨kz, 0, none⟩ (.slice b1 x1 e1)).setCell ⟨kz, 1, none⟩ (.slice b2 x2 e2)).setCell ⟨kz, 2, none⟩ (.slice b3 x3 e3)) bw (.slice b1 x1 e1) (.slice b2 x2 e2) (.slice b3 x3 e3) XL XS XO) := da_box3 A3.out ZX.out
          have CF : Hid (Below w6.heap.size w6 (((V3.setCell ⟨kz, 0, none⟩ (.slice b1 x1 e1)).setCell ⟨kz, 1, none⟩ (.slice b2 x2 e2)).setCell ⟨kz, 2, none⟩ (.slice b3 x3 e3))) := ((C3.out.setCell KZL.out _).setCell KZL.out _).setCell KZL.out _
          go_simp
          refine hK.out _ _ ?_ (fun hHeld => ?_)
          · exact HSS.out _ CF.out
          clear hK K
          clear r0 r1 r2 rf
          generalize (((V3.setCell ⟨kz, 0, none⟩ (.slice b1 x1 e1)).setCell ⟨kz, 1, none⟩ (.slice b2 x2 e2)).setCell ⟨kz, 2, none⟩ (.slice b3 x3 e3)) = WF at *
          refine wpAnyH_take (i := 9) (v := ?_) rfl (by kernel_rfl) (by kernel_rfl) (by kernel_rfl) (fun _ _ _ h => h) (Or.inl ⟨by kernel_rfl, ?_⟩) hHeld ?_
          rotate_left 1; focus (intro w hSw; (try dsimp only at hSw); (try go_split_ands); go_simp; all_goals (first | done | with_reducible rfl))
          change wpAnyH _ _ _ _ _ _ _ (Act.put _ (some 10) _) _; simp only [Act.put, List.setIfInBounds_toArray, List.set_cons_zero, List.set_cons_succ]
          refine wpAnyH_done (by kernel_rfl) ?_ _
          clear hHeld
          (try go_wp2_with fail)
          go_meet
          exact ⟨kz, bw, b1, e1, b2, e2, b3, e3, rfl, rfl, CF.out, ZF.out, LBW.out, AF.out⟩
        refine AllReadyH.cons rfl (fun K hK => ?_) AllReadyH.nil
        have hb : Below V1.heap.size V1 (V1.alloc (.cells #[.slice none 0 0, .slice none 0 0, .slice none 0 0] 31)) := (Below.refl _ _).alloc (Nat.le_refl _) _
        have KZL : Hid (w6.heap.size ≤ V1.heap.size) := C1.out.size
        have C2 : Hid (Below w6.heap.size w6 (V1.alloc (.cells #[.slice none 0 0, .slice none 0 0, .slice none 0 0] 31))) := C1.out.trans (hb.mono C1.out.size)
        have ZX : Hid ((V1.alloc (.cells #[.slice none 0 0, .slice none 0 0, .slice none 0 0] 31)).heap[V1.heap.size]? = some (.cells #[.slice none 0 0, .slice none 0 0, .slice none 0 0] 31 (0, 0))) := heap_alloc_new _ _
        clear hb
        (try simp only [Act.put, List.setIfInBounds_toArray])
        go_simp
        refine hK.out _ _ ?_ (fun hHeld => ?_)
        · exact HSS.out _ C2.out
        clear hK K
        obtain ⟨kz, HG⟩ : ∃ g, Hid (V1.heap.size = g) := ⟨_, rfl⟩
        rw [HG.out] at ZX KZL ⊢
        generalize (V1.alloc (.cells #[.slice none 0 0, .slice none 0 0, .slice none 0 0] 31)) = V2 at *
        clear HG
        refine wpAnyH_ready (rs := [3]) (by kernel_rfl) (by simp) ?_
        refine AllReadyH.cons rfl (fun K hK => ?_) AllReadyH.nil
        (try simp only [Act.put, List.setIfInBounds_toArray])
        go_simp
        refine (IM.out V2 _ _ _ ((X6.out.below C2.out).at HLN.out HSN.out HON.out)).mono ?_
        rintro e V3 ⟨b1, e1, b2, e2, b3, e3, rfl, hb, hda⟩
        obtain ⟨bw, LBW, hda⟩ : ∃ b, Hid (w6.heap.size ≤ b) ∧ DA V3 b (.slice b1 x1 e1) (.slice b2 x2 e2) (.slice b3 x3 e3) XL XS XO := ⟨_, C2.out.size, hda⟩
        have Z3 : Hid (V3.heap[kz]? = some (.cells #[.slice none 0 0, .slice none 0 0, .slice none 0 0] 31 (0, 0))) := below_row hb (row_lt ZX.out) ZX.out
        have C3 : Hid (Below w6.heap.size w6 V3) := C2.out.trans (hb.mono C2.out.size)
        have A3 : Hid (DA V3 bw (.slice b1 x1 e1) (.slice b2 x2 e2) (.slice b3 x3 e3) XL XS XO) := hda
        clear hb hda
        (try go_wp2_with fail)
        refine hK.out _ _ ?_ (fun hHeld => ?_)
        · exact HSS.out _ C3.out
        clear hK K
        refine wpAnyH_take (i := 4) (v := ?_) rfl (by kernel_rfl) (by kernel_rfl) (by kernel_rfl) (fun _ _ _ h => h) (Or.inl ⟨by kernel_rfl, ?_⟩) hHeld ?_
        rotate_left 1; focus (intro w hSw; (try dsimp only at hSw); (try go_split_ands); go_simp; all_goals (first | done | with_reducible rfl))
        change wpAnyH _ _ _ _ _ _ _ (Act.put _ (some 36) _) _; simp only [Act.put, List.setIfInBounds_toArray, List.set_cons_zero, List.set_cons_succ]
        refine wpAnyH_take (i := 5) (v := ?_) rfl (by kernel_rfl) (by kernel_rfl) (by kernel_rfl) (fun _ _ _ h => h) (Or.inl ⟨by kernel_rfl, ?_⟩) hHeld ?_
        rotate_left 1; focus (intro w hSw; (try dsimp only at hSw); (try go_split_ands); go_simp; all_goals (first | done | with_reducible rfl))
        change wpAnyH _ _ _ _ _ _ _ (Act.put _ (some 41) _) _; simp only [Act.put, List.setIfInBounds_toArray, List.set_cons_zero, List.set_cons_succ]
        refine wpAnyH_take (i := 6) (v := ?_) rfl (by kernel_rfl) (by kernel_rfl) (by kernel_rfl) (fun _ _ _ h => h) (Or.inl ⟨by kernel_rfl, ?_⟩) hHeld ?_
        rotate_left 1; focus (intro w hSw; (try dsimp only at hSw); (try go_split_ands); go_simp; all_goals (first | done | with_reducible rfl))
        change wpAnyH _ _ _ _ _ _ _ (Act.put _ (some 42) _) _; simp only [Act.put, List.setIfInBounds_toArray, List.set_cons_zero, List.set_cons_succ]
        refine wpAnyH_ready (rs := [8]) (by kernel_rfl) (by simp) ?_
        refine AllReadyH.cons rfl (fun K hK => ?_) AllReadyH.nil
        obtain ⟨r0, r1, r2⟩ := cells3 Z3.out
        have rf := fun i => frozen_of_row _ _ i _ _ Z3.out
        have ZF : Hid ((((V3.setCell ⟨kz, 0, none⟩ (.slice b1 x1 e1)).setCell ⟨kz, 1, none⟩ (.slice b2 x2 e2)).setCell ⟨kz, 2, none⟩ (.slice b3 x3 e3)).heap[kz]? = some (.cells #[.slice b1 x1 e1, .slice b2 x2 e2, .slice b3 x3 e3] 31 (0, 0))) := box3_set Z3.out
        have AF : Hid (DA (((V3.setCell ⟨kz, 0, none⟩ (.slice b1 x1 e1)).setCell ⟨kz, 1, none⟩ (.slice b2 x2 e2)).setCell ⟨kz, 2, none⟩ (.slice b3 x3 e3)) bw (.slice b1 x1 e1) (.slice b2 x2 e2) (.slice b3 x3 e3) XL XS XO) := da_box3 A3.out Z3.out
        have CF : Hid (Below w6.heap.size w6 (((V3.setCell ⟨kz, 0, none⟩ (.slice b1 x1 e1)).setCell ⟨kz, 1, none⟩ (.slice b2 x2 e2)).setCell ⟨kz, 2, none⟩ (.slice b3 x3 e3))) := ((C3.out.setCell KZL.out _).setCell KZL.out _).setCell KZL.out _
        go_simp
        refine hK.out _ _ ?_ (fun hHeld => ?_)
        · exact HSS.out _ CF.out
        clear hK K
        clear r0 r1 r2 rf
        generalize (((V3.setCell ⟨kz, 0, none⟩ (.slice b1 x1 e1)).setCell ⟨kz, 1, none⟩ (.slice b2 x2 e2)).setCell ⟨kz, 2, none⟩ (.slice b3 x3 e3)) = WF at *
        refine wpAnyH_take (i := 9) (v := ?_) rfl (by kernel_rfl) (by kernel_rfl) (by kernel_rfl) (fun _ _ _ h => h) (Or.inl ⟨by kernel_rfl, ?_⟩) hHeld ?_
        rotate_left 1; focus (intro w hSw; (try dsimp only at hSw); (try go_split_ands); go_simp; all_goals (first | done | with_reducible rfl))
        change wpAnyH _ _ _ _ _ _ _ (Act.put _ (some 10) _) _; simp only [Act.put, List.setIfInBounds_toArray, List.set_cons_zero, List.set_cons_succ]
        refine wpAnyH_done (by kernel_rfl) ?_ _
        clear hHeld
        (try go_wp2_with fail)
        go_meet
        exact ⟨kz, bw, b1, e1, b2, e2, b3, e3, rfl, rfl, CF.out, ZF.out, LBW.out, AF.out⟩
      refine AllReadyH.cons rfl (fun K hK => ?_) AllReadyH.nil
      have hb : Below WD.heap.size WD (WD.alloc (.cells #[.slice none 0 0, .slice none 0 0, .slice none 0 0] 31)) := (Below.refl _ _).alloc (Nat.le_refl _) _
      have KZL : Hid (w6.heap.size ≤ WD.heap.size) := CS.out.size
      have C1 : Hid (Below w6.heap.size w6 (WD.alloc (.cells #[.slice none 0 0, .slice none 0 0, .slice none 0 0] 31))) := CS.out.trans (hb.mono CS.out.size)
      have ZX : Hid ((WD.alloc (.cells #[.slice none 0 0, .slice none 0 0, .slice none 0 0] 31)).heap[WD.heap.size]? = some (.cells #[.slice none 0 0, .slice none 0 0, .slice none 0 0] 31 (0, 0))) := heap_alloc_new _ _
      clear hb
      (try simp only [Act.put, List.setIfInBounds_toArray])
      go_simp
      refine hK.out _ _ ?_ (fun hHeld => ?_)
      · exact HSS.out _ C1.out
      clear hK K
      obtain ⟨kz, HG⟩ : ∃ g, Hid (WD.heap.size = g) := ⟨_, rfl⟩
      rw [HG.out] at ZX KZL ⊢
      generalize (WD.alloc (.cells #[.slice none 0 0, .slice none 0 0, .slice none 0 0] 31)) = V1 at *
      clear HG
      refine wpAnyH_ready (rs := [2]) (by kernel_rfl) (by simp) ?_
      refine AllReadyH.cons rfl (fun K hK => ?_) AllReadyH.nil
      (try simp only [Act.put, List.setIfInBounds_toArray])
      go_simp
      refine (toDOp_any o.k o.n o.t o.d _).mono ?_
      rintro e V2 ⟨rfl, hb⟩
      have Z2 : Hid (V2.heap[kz]? = some (.cells #[.slice none 0 0, .slice none 0 0, .slice none 0 0] 31 (0, 0))) := below_row hb (row_lt ZX.out) ZX.out
      have C2 : Hid (Below w6.heap.size w6 V2) := C1.out.trans (hb.mono C1.out.size)
      clear hb
      (try go_wp2_with fail)
      refine hK.out _ _ ?_ (fun hHeld => ?_)
      · exact HSS.out _ C2.out
      clear hK K
      refine wpAnyH_ready (rs := [3]) (by kernel_rfl) (by simp) ?_
      refine AllReadyH.cons rfl (fun K hK => ?_) AllReadyH.nil
      (try simp only [Act.put, List.setIfInBounds_toArray])
      go_simp
      refine (IM.out V2 _ _ _ ((X6.out.below C2.out).at HLN.out HSN.out HON.out)).mono ?_
      rintro e V3 ⟨b1, e1, b2, e2, b3, e3, rfl, hb, hda⟩
      obtain ⟨bw, LBW, hda⟩ : ∃ b, Hid (w6.heap.size ≤ b) ∧ DA V3 b (.slice b1 x1 e1) (.slice b2 x2 e2) (.slice b3 x3 e3) XL XS XO := ⟨_, C2.out.size, hda⟩
      have Z3 : Hid (V3.heap[kz]? = some (.cells #[.slice none 0 0, .slice none 0 0, .slice none 0 0] 31 (0, 0))) := below_row hb (row_lt Z2.out) Z2.out
      have C3 : Hid (Below w6.heap.size w6 V3) := C2.out.trans (hb.mono C2.out.size)
      have A3 : Hid (DA V3 bw (.slice b1 x1 e1) (.slice b2 x2 e2) (.slice b3 x3 e3) XL XS XO) := hda
      clear hb hda
      (try go_wp2_with fail)
      refine hK.out _ _ ?_ (fun hHeld => ?_)
      · exact HSS.out _ C3.out
      clear hK K
      refine wpAnyH_take (i := 4) (v := ?_) rfl (by kernel_rfl) (by kernel_rfl) (by kernel_rfl) (fun _ _ _ h => h) (Or.inl ⟨by kernel_rfl, ?_⟩) hHeld ?_
      rotate_left 1; focus (intro w hSw; (try dsimp only at hSw); (try go_split_ands); go_simp; all_goals (first | done | with_reducible rfl))
      change wpAnyH _ _ _ _ _ _ _ (Act.put _ (some 36) _) _; simp only [Act.put, List.setIfInBounds_toArray, List.set_cons_zero, List.set_cons_succ]
      refine wpAnyH_take (i := 5) (v := ?_) rfl (by kernel_rfl) (by kernel_rfl) (by kernel_rfl) (fun _ _ _ h => h) (Or.inl ⟨by kernel_rfl, ?_⟩) hHeld ?_
      rotate_left 1; focus (intro w hSw; (try dsimp only at hSw); (try go_split_ands); go_simp; all_goals (first | done | with_reducible rfl))
      change wpAnyH _ _ _ _ _ _ _ (Act.put _ (some 41) _) _; simp only [Act.put, List.setIfInBounds_toArray, List.set_cons_zero, List.set_cons_succ]
      refine wpAnyH_take (i := 6) (v := ?_) rfl (by kernel_rfl) (by kernel_rfl) (by kernel_rfl) (fun _ _ _ h => h) (Or.inl ⟨by kernel_rfl, ?_⟩) hHeld ?_
      rotate_left 1; focus (intro w hSw; (try dsimp only at hSw); (try go_split_ands); go_simp; all_goals (first | done | with_reducible rfl))
      change wpAnyH _ _ _ _ _ _ _ (Act.put _ (some 42) _) _; simp only [Act.put, List.setIfInBounds_toArray, List.set_cons_zero, List.set_cons_succ]
      refine wpAnyH_ready (rs := [8]) (by kernel_rfl) (by simp) ?_
      refine AllReadyH.cons rfl (fun K hK => ?_) AllReadyH.nil
      obtain ⟨r0, r1, r2⟩ := cells3 Z3.out
      have rf := fun i => frozen_of_row _ _ i _ _ Z3.out
      have ZF : Hid ((((V3.setCell ⟨kz, 0, none⟩ (.slice b1 x1 e1)).setCell ⟨kz, 1, none⟩ (.slice b2 x2 e2)).setCell ⟨kz, 2, none⟩ (.slice b3 x3 e3)).heap[kz]? = some (.cells #[.slice b1 x1 e1, .slice b2 x2 e2, .slice b3 x3 e3] 31 (0, 0))) := box3_set Z3.out
      have AF : Hid (DA (((V3.setCell ⟨kz, 0, none⟩ (.slice b1 x1 e1)).setCell ⟨kz, 1, none⟩ (.slice b2 x2 e2)).setCell ⟨kz, 2, none⟩ (.slice b3 x3 e3)) bw (.slice b1 x1 e1) (.slice b2 x2 e2) (.slice b3 x3 e3) XL XS XO) := da_box3 A3.out Z3.out
      have CF : Hid (Below w6.heap.size w6 (((V3.setCell ⟨kz, 0, none⟩ (.slice b1 x1 e1)).setCell ⟨kz, 1, none⟩ (.slice b2 x2 e2)).setCell ⟨kz, 2, none⟩ (.slice b3 x3 e3))) := ((C3.out.setCell KZL.out _).setCell KZL.out _).setCell KZL.out _
      go_simp
      refine hK.out _ _ ?_ (fun hHeld => ?_)
      · exact HSS.out _ CF.out
      clear hK K
      clear r0 r1 r2 rf
      generalize (((V3.setCell ⟨kz, 0, none⟩ (.slice b1 x1 e1)).setCell ⟨kz, 1, none⟩ (.slice b2 x2 e2)).setCell ⟨kz, 2, none⟩ (.slice b3 x3 e3)) = WF at *
      refine wpAnyH_take (i := 9) (v := ?_) rfl (by kernel_rfl) (by kernel_rfl) (by kernel_rfl) (fun _ _ _ h => h) (Or.inl ⟨by kernel_rfl, ?_⟩) hHeld ?_
      rotate_left 1; focus (intro w hSw; (try dsimp only at hSw); (try go_split_ands); go_simp; all_goals (first | done | with_reducible rfl))
      change wpAnyH _ _ _ _ _ _ _ (Act.put _ (some 10) _) _; simp only [Act.put, List.setIfInBounds_toArray, List.set_cons_zero, List.set_cons_succ]
      refine wpAnyH_done (by kernel_rfl) ?_ _
      clear hHeld
      (try go_wp2_with fail)
      go_meet
      exact ⟨kz, bw, b1, e1, b2, e2, b3, e3, rfl, rfl, CF.out, ZF.out, LBW.out, AF.out⟩
    case rest =>
      obtain ⟨kv, bw2, b1, e1, b2, e2, b3, e3, rfl, rfl, hbc, hrow, hbw, hda⟩ := hcut
      obtain ⟨w8, hw8⟩ : ∃ v, v = wc := ⟨_, rfl⟩
      subst hw8
      obtain ⟨bg, HBG⟩ : ∃ b, b = bw2 := ⟨_, rfl⟩
      subst HBG
      have BG : Hid (w.heap.size ≤ bg) := Nat.le_trans B6.out.size hbw
      have LV : Hid (LowD (.slice a1 x1 c1) (.slice a2 x2 c2) (.slice a3 x3 c3) bg) := ⟨fun k h => Nat.lt_of_lt_of_le (W6.out.low.1 k h) hbw, fun k h => Nat.lt_of_lt_of_le (W6.out.low.2.1 k h) hbw, fun k h => Nat.lt_of_lt_of_le (W6.out.low.2.2 k h) hbw⟩
      have LX : Hid (LowD (.slice (some ⟨gl, 0, none⟩) ln ln) (.slice (some ⟨gs, 0, none⟩) sn sn) (.slice (some ⟨go, 0, none⟩) on on) bg) := ⟨fun k h => Nat.lt_of_lt_of_le (X6.out.low.1 k h) hbw, fun k h => Nat.lt_of_lt_of_le (X6.out.low.2.1 k h) hbw, fun k h => Nat.lt_of_lt_of_le (X6.out.low.2.2 k h) hbw⟩
      have B8 : Hid (Below w.heap.size w w8) := B6.out.trans (hbc.mono B6.out.size)
      have R8 : Hid (w8.heap[w.heap.size]? = some (.cells #[.slice la ln lc, .slice sa sn sc, .slice oa on oc] 25 (0, 0))) := below_row hbc (row_lt R6.out) R6.out
      have Y8 : Hid (w8.heap[w.heap.size + 1]? = some (.cells #[.int .i64 o.k, .string o.n, .string o.t, .string o.d] 36 (0, 0))) := below_row hbc (row_lt Y6.out) Y6.out
      have P8 : Hid (w8.heap[i6]? = some (.cells #[.slice a1 x1 c1, .slice a2 x2 c2, .slice a3 x3 c3] 31 (0, 0))) := below_row hbc (row_lt P6.out) P6.out
      have W8 : Hid (DA w8 bw (.slice a1 x1 c1) (.slice a2 x2 c2) (.slice a3 x3 c3) XL XS XO) := W6.out.below hbc
      have X8 : Hid (DA w8 bx (.slice (some ⟨gl, 0, none⟩) ln ln) (.slice (some ⟨gs, 0, none⟩) sn sn) (.slice (some ⟨go, 0, none⟩) on on) L S O) := X6.out.below hbc
      have Q8 : Hid (w8.heap[i8]? = some (.cells #[.slice (some ⟨gl, 0, none⟩) ln ln, .slice (some ⟨gs, 0, none⟩) sn sn, .slice (some ⟨go, 0, none⟩) on on] 31 (0, 0))) := below_row hbc (row_lt Q6.out) Q6.out
      clear B6 R6 Y6 P6 W6 X6 Q6
      obtain ⟨i9, HI9⟩ : ∃ i, i = kv := ⟨_, rfl⟩
      subst HI9
      have O8 : Hid (w8.heap[i9]? = some (.cells #[.slice b1 x1 e1, .slice b2 x2 e2, .slice b3 x3 e3] 31 (0, 0))) := hrow
      have G8 : Hid (DA w8 bg (.slice b1 x1 e1) (.slice b2 x2 e2) (.slice b3 x3 e3) XL XS XO) := hda
      clear hbc hrow hda hbw
      obtain ⟨zo8_0, zo8_1, zo8_2⟩ := cells3 O8.out
      obtain ⟨zp8_0, zp8_1, zp8_2⟩ := cells3 P8.out
      go_wp2_with fail
      refine (EX.out _ _ _ _ _ _ _ _ _ _ _ _ _ _ _ G8.out W8.out).mono ?_
      rintro e w9 ⟨rfl, hb9⟩
      have B9 : Hid (Below w.heap.size w w9) := B8.out.trans (hb9.mono B8.out.size)
      have R9 : Hid (w9.heap[w.heap.size]? = some (.cells #[.slice la ln lc, .slice sa sn sc, .slice oa on oc] 25 (0, 0))) := below_row hb9 (row_lt R8.out) R8.out
      have Y9 : Hid (w9.heap[w.heap.size + 1]? = some (.cells #[.int .i64 o.k, .string o.n, .string o.t, .string o.d] 36 (0, 0))) := below_row hb9 (row_lt Y8.out) Y8.out
      have P9 : Hid (w9.heap[i6]? = some (.cells #[.slice a1 x1 c1, .slice a2 x2 c2, .slice a3 x3 c3] 31 (0, 0))) := below_row hb9 (row_lt P8.out) P8.out
      have W9 : Hid (DA w9 bw (.slice a1 x1 c1) (.slice a2 x2 c2) (.slice a3 x3 c3) XL XS XO) := W8.out.below hb9
      have X9 : Hid (DA w9 bx (.slice (some ⟨gl, 0, none⟩) ln ln) (.slice (some ⟨gs, 0, none⟩) sn sn) (.slice (some ⟨go, 0, none⟩) on on) L S O) := X8.out.below hb9
      have Q9 : Hid (w9.heap[i8]? = some (.cells #[.slice (some ⟨gl, 0, none⟩) ln ln, .slice (some ⟨gs, 0, none⟩) sn sn, .slice (some ⟨go, 0, none⟩) on on] 31 (0, 0))) := below_row hb9 (row_lt Q8.out) Q8.out
      have O9 : Hid (w9.heap[i9]? = some (.cells #[.slice b1 x1 e1, .slice b2 x2 e2, .slice b3 x3 e3] 31 (0, 0))) := below_row hb9 (row_lt O8.out) O8.out
      have G9 : Hid (DA w9 bg (.slice b1 x1 e1) (.slice b2 x2 e2) (.slice b3 x3 e3) XL XS XO) := G8.out.below hb9
      clear B8 R8 Y8 P8 W8 X8 Q8 O8 G8
      clear zo8_0 zo8_1 zo8_2 zp8_0 zp8_1 zp8_2
      clear hb9
      obtain ⟨zq9_0, zq9_1, zq9_2⟩ := cells3 Q9.out
      obtain ⟨zr9_0, zr9_1, zr9_2⟩ := cells3 R9.out
      go_wp2_with fail
      have kS := SS33 (below_row (Below.refl _ _).drew (row_lt Q9.out) Q9.out) (below_row (Below.refl _ _).drew (row_lt R9.out) R9.out)
      go_region_held3 (fun W => W.cell? ⟨i8, 0, none⟩ = some (.slice (some ⟨gl, 0, none⟩) ln ln) ∧ W.cell? ⟨i8, 1, none⟩ = some (.slice (some ⟨gs, 0, none⟩) sn sn) ∧ W.cell? ⟨i8, 2, none⟩ = some (.slice (some ⟨go, 0, none⟩) on on) ∧ W.cell? ⟨w.heap.size, 0, none⟩ = some (.slice la ln lc) ∧ W.cell? ⟨w.heap.size, 1, none⟩ = some (.slice sa sn sc) ∧ W.cell? ⟨w.heap.size, 2, none⟩ = some (.slice oa on oc)) (first | with_reducible exact kS) ((first
        | (go_at_call 11
           with_reducible refine (TD.out _ B9.out.drew).mono ?_
           rintro e wa ⟨gl7, gs7, go7, rfl, hba, hnea, hdoa, hda⟩
           have A1 : Hid (Below w9.heap.size w9 wa) := Below.trans (Below.refl _ _).drew hba
           have A2 : Hid (DAt wa (some ⟨gl7, 0, none⟩) (some ⟨gs7, 0, none⟩) (some ⟨go7, 0, none⟩) L S O) := hda
           have A3 : Hid (DAt wa (some ⟨gl, 0, none⟩) (some ⟨gs, 0, none⟩) (some ⟨go, 0, none⟩) L S O) := (X9.out.below A1.out).at HLN.out HSN.out HON.out
           have kS := SS33 (below_row A1.out (row_lt Q9.out) Q9.out) (below_row A1.out (row_lt R9.out) R9.out)
           clear hba hda hdoa hnea)
        | (go_at_call 13
           with_reducible refine (EQ.out wa _ _ _ _ _ _ A3.out A2.out).mono ?_
           rintro e wb ⟨rfl, hbb⟩
           have A4 : Hid (Below w9.heap.size w9 wb) := A1.out.trans (hbb.mono A1.out.size)
           have kS := SS33 (below_row A4.out (row_lt Q9.out) Q9.out) (below_row A4.out (row_lt R9.out) R9.out)
           clear hbb A1 A2 A3)))
      clear kS
      have B11 : Hid (Below w.heap.size w wb) := B9.out.trans (A4.out.mono B9.out.size)
      have R11 : Hid (wb.heap[w.heap.size]? = some (.cells #[.slice la ln lc, .slice sa sn sc, .slice oa on oc] 25 (0, 0))) := below_row A4.out (row_lt R9.out) R9.out
      have Y11 : Hid (wb.heap[w.heap.size + 1]? = some (.cells #[.int .i64 o.k, .string o.n, .string o.t, .string o.d] 36 (0, 0))) := below_row A4.out (row_lt Y9.out) Y9.out
      have P11 : Hid (wb.heap[i6]? = some (.cells #[.slice a1 x1 c1, .slice a2 x2 c2, .slice a3 x3 c3] 31 (0, 0))) := below_row A4.out (row_lt P9.out) P9.out
      have W11 : Hid (DA wb bw (.slice a1 x1 c1) (.slice a2 x2 c2) (.slice a3 x3 c3) XL XS XO) := W9.out.below A4.out
      have X11 : Hid (DA wb bx (.slice (some ⟨gl, 0, none⟩) ln ln) (.slice (some ⟨gs, 0, none⟩) sn sn) (.slice (some ⟨go, 0, none⟩) on on) L S O) := X9.out.below A4.out
      have Q11 : Hid (wb.heap[i8]? = some (.cells #[.slice (some ⟨gl, 0, none⟩) ln ln, .slice (some ⟨gs, 0, none⟩) sn sn, .slice (some ⟨go, 0, none⟩) on on] 31 (0, 0))) := below_row A4.out (row_lt Q9.out) Q9.out
      have O11 : Hid (wb.heap[i9]? = some (.cells #[.slice b1 x1 e1, .slice b2 x2 e2, .slice b3 x3 e3] 31 (0, 0))) := below_row A4.out (row_lt O9.out) O9.out
      have G11 : Hid (DA wb bg (.slice b1 x1 e1) (.slice b2 x2 e2) (.slice b3 x3 e3) XL XS XO) := G9.out.below A4.out
      clear B9 R9 Y9 P9 W9 X9 Q9 O9 G9
      clear zq9_0 zq9_1 zq9_2 zr9_0 zr9_1 zr9_2
      clear A4
      obtain ⟨zq11_0, zq11_1, zq11_2⟩ := cells3 Q11.out
      go_wp2_with fail
      refine (MX.out _ _ _ _ _ X11.out).mono ?_
      rintro e w12 ⟨rfl, hc⟩
      have B12 : Hid (Below w.heap.size w w12) := B11.out.trans (X11.out.bel hc BX.out B11.out.size)
      have R12 : Hid (w12.heap[w.heap.size]? = some (.cells #[.slice la ln lc, .slice sa sn sc, .slice oa on oc] 25 (0, 0))) := X11.out.row hc R11.out (by decide) (by decide)
      have Y12 : Hid (w12.heap[w.heap.size + 1]? = some (.cells #[.int .i64 o.k, .string o.n, .string o.t, .string o.d] 36 (0, 0))) := X11.out.row hc Y11.out (by decide) (by decide)
      have P12 : Hid (w12.heap[i6]? = some (.cells #[.slice a1 x1 c1, .slice a2 x2 c2, .slice a3 x3 c3] 31 (0, 0))) := X11.out.row hc P11.out (by decide) (by decide)
      have W12 : Hid (DA w12 bw (.slice a1 x1 c1) (.slice a2 x2 c2) (.slice a3 x3 c3) XL XS XO) := W11.out.keepLow LW.out hc X11.out.ge.1 X11.out.ge.2.1 X11.out.ge.2.2
      have O12 : Hid (w12.heap[i9]? = some (.cells #[.slice b1 x1 e1, .slice b2 x2 e2, .slice b3 x3 e3] 31 (0, 0))) := X11.out.row hc O11.out (by decide) (by decide)
      have G12 : Hid (DA w12 bg (.slice b1 x1 e1) (.slice b2 x2 e2) (.slice b3 x3 e3) XL XS XO) := G11.out.keepHigh hc LX.out.1 LX.out.2.1 LX.out.2.2
      clear zq11_0 zq11_1 zq11_2
      clear hc Q11 X11 B11 R11 Y11 P11 W11 O11 G11
      obtain ⟨zo12_0, zo12_1, zo12_2⟩ := cells3 O12.out
      obtain ⟨zp12_0, zp12_1, zp12_2⟩ := cells3 P12.out
      go_wp2_with fail
      refine (EX.out _ _ _ _ _ _ _ _ _ _ _ _ _ _ _ G12.out W12.out).mono ?_
      rintro e w13 ⟨rfl, hb⟩
      have B13 : Hid (Below w.heap.size w w13) := B12.out.trans (hb.mono B12.out.size)
      have R13 : Hid (w13.heap[w.heap.size]? = some (.cells #[.slice la ln lc, .slice sa sn sc, .slice oa on oc] 25 (0, 0))) := below_row hb (row_lt R12.out) R12.out
      have Y13 : Hid (w13.heap[w.heap.size + 1]? = some (.cells #[.int .i64 o.k, .string o.n, .string o.t, .string o.d] 36 (0, 0))) := below_row hb (row_lt Y12.out) Y12.out
      have P13 : Hid (w13.heap[i6]? = some (.cells #[.slice a1 x1 c1, .slice a2 x2 c2, .slice a3 x3 c3] 31 (0, 0))) := below_row hb (row_lt P12.out) P12.out
      have W13 : Hid (DA w13 bw (.slice a1 x1 c1) (.slice a2 x2 c2) (.slice a3 x3 c3) XL XS XO) := W12.out.below hb
      have O13 : Hid (w13.heap[i9]? = some (.cells #[.slice b1 x1 e1, .slice b2 x2 e2, .slice b3 x3 e3] 31 (0, 0))) := below_row hb (row_lt O12.out) O12.out
      have G13 : Hid (DA w13 bg (.slice b1 x1 e1) (.slice b2 x2 e2) (.slice b3 x3 e3) XL XS XO) := G12.out.below hb
      clear B12 R12 Y12 P12 W12 O12 G12
      clear zo12_0 zo12_1 zo12_2 zp12_0 zp12_1 zp12_2
      clear hb
      obtain ⟨zo13_0, zo13_1, zo13_2⟩ := cells3 O13.out
      go_wp2_with fail
      refine (MG.out _ _ _ _ _ _ _ _ G13.out).mono ?_
      rintro e w14 ⟨rfl, hc, hg⟩
      have B14 : Hid (Below w.heap.size w w14) := B13.out.trans (G13.out.bel hc BG.out B13.out.size)
      have R14 : Hid (w14.heap[w.heap.size]? = some (.cells #[.slice la ln lc, .slice sa sn sc, .slice oa on oc] 25 (0, 0))) := G13.out.row hc R13.out (by decide) (by decide)
      have Y14 : Hid (w14.heap[w.heap.size + 1]? = some (.cells #[.int .i64 o.k, .string o.n, .string o.t, .string o.d] 36 (0, 0))) := G13.out.row hc Y13.out (by decide) (by decide)
      have P14 : Hid (w14.heap[i6]? = some (.cells #[.slice a1 x1 c1, .slice a2 x2 c2, .slice a3 x3 c3] 31 (0, 0))) := G13.out.row hc P13.out (by decide) (by decide)
      have W14 : Hid (DA w14 bw (.slice a1 x1 c1) (.slice a2 x2 c2) (.slice a3 x3 c3) XL XS XO) := W13.out.keepLow LV.out hc G13.out.ge.1 G13.out.ge.2.1 G13.out.ge.2.2
      have O14 : Hid (w14.heap[i9]? = some (.cells #[.slice b1 x1 e1, .slice b2 x2 e2, .slice b3 x3 e3] 31 (0, 0))) := G13.out.row hc O13.out (by decide) (by decide)
      have G14 : Hid (DA w14 bg (.slice b1 x1 e1) (.slice b2 x2 e2) (.slice b3 x3 e3) (mkF 1 x1) (mkF (1 + 2 * x1) x2) (mkO (1 + 2 * x1 + 2 * x2) x3)) := hg
      clear zo13_0 zo13_1 zo13_2
      clear hc hg B13 R13 Y13 P13 W13 O13 G13
      obtain ⟨zo14_0, zo14_1, zo14_2⟩ := cells3 O14.out
      go_wp2_with fail
      refine (HE.out _ _ _ _ _ _ _ _ G14.out).mono ?_
      rintro e w15 ⟨rfl, hb⟩
      have B15 : Hid (Below w.heap.size w w15) := B14.out.trans (hb.mono B14.out.size)
      have R15 : Hid (w15.heap[w.heap.size]? = some (.cells #[.slice la ln lc, .slice sa sn sc, .slice oa on oc] 25 (0, 0))) := below_row hb (row_lt R14.out) R14.out
      have Y15 : Hid (w15.heap[w.heap.size + 1]? = some (.cells #[.int .i64 o.k, .string o.n, .string o.t, .string o.d] 36 (0, 0))) := below_row hb (row_lt Y14.out) Y14.out
      have P15 : Hid (w15.heap[i6]? = some (.cells #[.slice a1 x1 c1, .slice a2 x2 c2, .slice a3 x3 c3] 31 (0, 0))) := below_row hb (row_lt P14.out) P14.out
      have W15 : Hid (DA w15 bw (.slice a1 x1 c1) (.slice a2 x2 c2) (.slice a3 x3 c3) XL XS XO) := W14.out.below hb
      have O15 : Hid (w15.heap[i9]? = some (.cells #[.slice b1 x1 e1, .slice b2 x2 e2, .slice b3 x3 e3] 31 (0, 0))) := below_row hb (row_lt O14.out) O14.out
      have G15 : Hid (DA w15 bg (.slice b1 x1 e1) (.slice b2 x2 e2) (.slice b3 x3 e3) (mkF 1 x1) (mkF (1 + 2 * x1) x2) (mkO (1 + 2 * x1 + 2 * x2) x3)) := G14.out.below hb
      clear B14 R14 Y14 P14 W14 O14 G14
      clear zo14_0 zo14_1 zo14_2
      clear hb
      go_upto_region 27 with fail
      go_cut [14, 15] from 16 to 108 (fun s6 s7 wx => ∃ (kz bw : Nat) (k1 : Option Addr) (f1 : Nat) (k2 : Option Addr) (f2 : Nat) (k3 : Option Addr) (f3 : Nat), s6 = .pointer (some ⟨kz, 0, none⟩) ∧ s7 = .int .i64 kd ∧ Below w15.heap.size w15 wx ∧ wx.heap[kz]? = some (.cells #[.slice k1 x1 f1, .slice k2 x2 f2, .slice k3 x3 f3] 31 (0, 0)) ∧ w15.heap.size ≤ bw ∧ DA wx bw (.slice k1 x1 f1) (.slice k2 x2 f2) (.slice k3 x3 f3) XL XS XO)
      case first =>
        go_wp2_with fail
        have HSS : Hid (∀ W, Below w15.heap.size w15 W → (fun W => W.cell? ⟨w.heap.size, 0, none⟩ = some (.slice la ln lc) ∧ W.cell? ⟨w.heap.size, 1, none⟩ = some (.slice sa sn sc) ∧ W.cell? ⟨w.heap.size, 2, none⟩ = some (.slice oa on oc) ∧ W.cell? ⟨w.heap.size + 1, 0, none⟩ = some (.int .i64 o.k) ∧ W.cell? ⟨w.heap.size + 1, 1, none⟩ = some (.string o.n) ∧ W.cell? ⟨w.heap.size + 1, 2, none⟩ = some (.string o.t) ∧ W.cell? ⟨w.heap.size + 1, 3, none⟩ = some (.string o.d)) W) := fun W hW => SS34 (below_row hW (row_lt R15.out) R15.out) (below_row hW (row_lt Y15.out) Y15.out)
        have CS : Hid (Below w15.heap.size w15 w15.drew) := (Below.refl _ _).drew
        refine wp_region_held_drew (S := (fun W => W.cell? ⟨w.heap.size, 0, none⟩ = some (.slice la ln lc) ∧ W.cell? ⟨w.heap.size, 1, none⟩ = some (.slice sa sn sc) ∧ W.cell? ⟨w.heap.size, 2, none⟩ = some (.slice oa on oc) ∧ W.cell? ⟨w.heap.size + 1, 0, none⟩ = some (.int .i64 o.k) ∧ W.cell? ⟨w.heap.size + 1, 1, none⟩ = some (.string o.n) ∧ W.cell? ⟨w.heap.size + 1, 2, none⟩ = some (.string o.t) ∧ W.cell? ⟨w.heap.size + 1, 3, none⟩ = some (.string o.d))) (by kernel_rfl) ?_ (fun hHeld => ?_)
        · exact HSS.out _ CS.out
        generalize w15.drew = WD at *
        refine wpAnyH_take (i := 0) (v := ?_) rfl (by kernel_rfl) (by kernel_rfl) (by kernel_rfl) (fun _ _ _ h => h) (Or.inl ⟨by kernel_rfl, ?_⟩) hHeld ?_
        rotate_left 1; focus (intro w hSw; (try dsimp only at hSw); (try go_split_ands); go_simp; all_goals (first | done | with_reducible rfl))
        change wpAnyH _ _ _ _ _ _ _ (Act.put _ (some 85) _) _; simp only [Act.put, List.setIfInBounds_toArray, List.set_cons_zero, List.set_cons_succ]
        refine wpAnyH_take (i := 2) (v := ?_) rfl (by kernel_rfl) (by kernel_rfl) (by kernel_rfl) (fun _ _ _ h => h) (Or.inl ⟨by kernel_rfl, ?_⟩) hHeld ?_
        rotate_left 1; focus (intro w hSw; (try dsimp only at hSw); (try go_split_ands); go_simp; all_goals (first | done | with_reducible rfl))
        change wpAnyH _ _ _ _ _ _ _ (Act.put _ (some 87) _) _; simp only [Act.put, List.setIfInBounds_toArray, List.set_cons_zero, List.set_cons_succ]
        refine wpAnyH_ready (rs := [1, 8]) (by kernel_rfl) (by simp) ?_
        refine AllReadyH.cons rfl (fun K hK => ?_) ?_
        · skip
          (try simp only [Act.put, List.setIfInBounds_toArray])
          go_simp
          refine (TD.out _ (B15.out.trans (CS.out.mono B15.out.size))).mono ?_
          rintro e V1 ⟨gl9, gs9, go9, rfl, hb, -, -, hd⟩
          have C1 : Hid (Below w15.heap.size w15 V1) := CS.out.trans (hb.mono CS.out.size)
          have D1 : Hid (DAt V1 (some ⟨gl9, 0, none⟩) (some ⟨gs9, 0, none⟩) (some ⟨go9, 0, none⟩) L S O) := hd
          clear hb hd
          (try go_wp2_with fail)
          refine hK.out _ _ ?_ (fun hHeld => ?_)
          · exact HSS.out _ C1.out
          clear hK K
          refine wpAnyH_ready (rs := [3, 8]) (by kernel_rfl) (by simp) ?_
          refine AllReadyH.cons rfl (fun K hK => ?_) ?_
          · skip
            (try simp only [Act.put, List.setIfInBounds_toArray])
            go_simp
            refine (toDOp_any o.k o.n o.t o.d _).mono ?_
            rintro e V2 ⟨rfl, hb⟩
            have D2 : Hid (DAt V2 (some ⟨gl9, 0, none⟩) (some ⟨gs9, 0, none⟩) (some ⟨go9, 0, none⟩) L S O) := D1.out.below hb
            have C2 : Hid (Below w15.heap.size w15 V2) := C1.out.trans (hb.mono C1.out.size)
            clear hb
            (try go_wp2_with fail)
            refine hK.out _ _ ?_ (fun hHeld => ?_)
            · exact HSS.out _ C2.out
            clear hK K
            refine wpAnyH_ready (rs := [4, 8]) (by kernel_rfl) (by simp) ?_
            refine AllReadyH.cons rfl (fun K hK => ?_) ?_
            · skip
              (try simp only [Act.put, List.setIfInBounds_toArray])
              go_simp
              refine (IM.out V2 _ _ _ D2.out).mono ?_
              rintro e V3 ⟨k1, f1, k2, f2, k3, f3, rfl, hb, hda⟩
              obtain ⟨bw, LBW, hda⟩ : ∃ b, Hid (w15.heap.size ≤ b) ∧ DA V3 b (.slice k1 x1 f1) (.slice k2 x2 f2) (.slice k3 x3 f3) XL XS XO := ⟨_, C2.out.size, hda⟩
              have D3 : Hid (DAt V3 (some ⟨gl9, 0, none⟩) (some ⟨gs9, 0, none⟩) (some ⟨go9, 0, none⟩) L S O) := D2.out.below hb
              have C3 : Hid (Below w15.heap.size w15 V3) := C2.out.trans (hb.mono C2.out.size)
              have A3 : Hid (DA V3 bw (.slice k1 x1 f1) (.slice k2 x2 f2) (.slice k3 x3 f3) XL XS XO) := hda
              clear hb hda
              (try go_wp2_with fail)
              refine hK.out _ _ ?_ (fun hHeld => ?_)
              · exact HSS.out _ C3.out
              clear hK K
              refine wpAnyH_take (i := 5) (v := ?_) rfl (by kernel_rfl) (by kernel_rfl) (by kernel_rfl) (fun _ _ _ h => h) (Or.inl ⟨by kernel_rfl, ?_⟩) hHeld ?_
              rotate_left 1; focus (intro w hSw; (try dsimp only at hSw); (try go_split_ands); go_simp; all_goals (first | done | with_reducible rfl))
              change wpAnyH _ _ _ _ _ _ _ (Act.put _ (some 84) _) _; simp only [Act.put, List.setIfInBounds_toArray, List.set_cons_zero, List.set_cons_succ]
              refine wpAnyH_take (i := 6) (v := ?_) rfl (by kernel_rfl) (by kernel_rfl) (by kernel_rfl) (fun _ _ _ h => h) (Or.inl ⟨by kernel_rfl, ?_⟩) hHeld ?_
              rotate_left 1; focus (intro w hSw; (try dsimp only at hSw); (try go_split_ands); go_simp; all_goals (first | done | with_reducible rfl))
              change wpAnyH _ _ _ _ _ _ _ (Act.put _ (some 90) _) _; simp only [Act.put, List.setIfInBounds_toArray, List.set_cons_zero, List.set_cons_succ]
              refine wpAnyH_take (i := 7) (v := ?_) rfl (by kernel_rfl) (by kernel_rfl) (by kernel_rfl) (fun _ _ _ h => h) (Or.inl ⟨by kernel_rfl, ?_⟩) hHeld ?_
              rotate_left 1; focus (intro w hSw; (try dsimp only at hSw); (try go_split_ands); go_simp; all_goals (first | done | with_reducible rfl))
              change wpAnyH _ _ _ _ _ _ _ (Act.put _ (some 91) _) _; simp only [Act.put, List.setIfInBounds_toArray, List.set_cons_zero, List.set_cons_succ]
              refine wpAnyH_ready (rs := [8]) (by kernel_rfl) (by simp) ?_
              refine AllReadyH.cons rfl (fun K hK => ?_) AllReadyH.nil
              have hb : Below V3.heap.size V3 (V3.alloc (.cells #[.slice none 0 0, .slice none 0 0, .slice none 0 0] 31)) := (Below.refl _ _).alloc (Nat.le_refl _) _
              have KZL : Hid (w15.heap.size ≤ V3.heap.size) := C3.out.size
              have D4 : Hid (DAt (V3.alloc (.cells #[.slice none 0 0, .slice none 0 0, .slice none 0 0] 31)) (some ⟨gl9, 0, none⟩) (some ⟨gs9, 0, none⟩) (some ⟨go9, 0, none⟩) L S O) := D3.out.below hb
              have A4 : Hid (DA (V3.alloc (.cells #[.slice none 0 0, .slice none 0 0, .slice none 0 0] 31)) bw (.slice k1 x1 f1) (.slice k2 x2 f2) (.slice k3 x3 f3) XL XS XO) := A3.out.below hb
              have C4 : Hid (Below w15.heap.size w15 (V3.alloc (.cells #[.slice none 0 0, .slice none 0 0, .slice none 0 0] 31))) := C3.out.trans (hb.mono C3.out.size)
              have ZX : Hid ((V3.alloc (.cells #[.slice none 0 0, .slice none 0 0, .slice none 0 0] 31)).heap[V3.heap.size]? = some (.cells #[.slice none 0 0, .slice none 0 0, .slice none 0 0] 31 (0, 0))) := heap_alloc_new _ _
              clear hb
              (try simp only [Act.put, List.setIfInBounds_toArray])
              go_simp
              refine hK.out _ _ ?_ (fun hHeld => ?_)
              · exact HSS.out _ C4.out
              clear hK K
              obtain ⟨kz, HG⟩ : ∃ g, Hid (V3.heap.size = g) := ⟨_, rfl⟩
              rw [HG.out] at ZX KZL ⊢
              generalize (V3.alloc (.cells #[.slice none 0 0, .slice none 0 0, .slice none 0 0] 31)) = V4 at *
              clear HG
              refine wpAnyH_ready (rs := [9]) (by kernel_rfl) (by simp) ?_
              refine AllReadyH.cons rfl (fun K hK => ?_) AllReadyH.nil
              obtain ⟨r0, r1, r2⟩ := cells3 ZX.out
              have rf := fun i => frozen_of_row _ _ i _ _ ZX.out
              have ZF : Hid ((((V4.setCell ⟨kz, 0, none⟩ (.slice k1 x1 f1)).setCell ⟨kz, 1, none⟩ (.slice k2 x2 f2)).setCell ⟨kz, 2, none⟩ (.slice k3 x3 f3)).heap[kz]? = some (.cells #[.slice k1 x1 f1, .slice k2 x2 f2, .slice k3 x3 f3] 31 (0, 0))) := box3_set ZX.out
              have AF : Hid (DA (((V4.setCell ⟨kz, 0, none⟩ (.slice k1 x1 f1)).setCell ⟨kz, 1, none⟩ (.slice k2 x2 f2)).setCell ⟨kz, 2, none⟩ (.slice k3 x3 f3)) bw (.slice k1 x1 f1) (.slice k2 x2 f2) (.slice k3 x3 f3) XL XS XO) := da_box3 A4.out ZX.out
              have CF : Hid (Below w15.heap.size w15 (((V4.setCell ⟨kz, 0, none⟩ (.slice k1 x1 f1)).setCell ⟨kz, 1, none⟩ (.slice k2 x2 f2)).setCell ⟨kz, 2, none⟩ (.slice k3 x3 f3))) := ((C4.out.setCell KZL.out _).setCell KZL.out _).setCell KZL.out _
              go_simp
              refine hK.out _ _ ?_ (fun hHeld => ?_)
              · exact HSS.out _ CF.out
              clear hK K
              clear r0 r1 r2 rf
              generalize (((V4.setCell ⟨kz, 0, none⟩ (.slice k1 x1 f1)).setCell ⟨kz, 1, none⟩ (.slice k2 x2 f2)).setCell ⟨kz, 2, none⟩ (.slice k3 x3 f3)) = WF at *
              refine wpAnyH_take (i := 10) (v := ?_) rfl (by kernel_rfl) (by kernel_rfl) (by kernel_rfl) (fun _ _ _ h => h) (Or.inl ⟨by kernel_rfl, ?_⟩) hHeld ?_
              rotate_left 1; focus (intro w hSw; (try dsimp only at hSw); (try go_split_ands); go_simp; all_goals (first | done | with_reducible rfl))
              change wpAnyH _ _ _ _ _ _ _ (Act.put _ (some 15) _) _; simp only [Act.put, List.setIfInBounds_toArray, List.set_cons_zero, List.set_cons_succ]
              refine wpAnyH_done (by kernel_rfl) ?_ _
              clear hHeld
              (try go_wp2_with fail)
              go_meet
              exact ⟨kz, bw, k1, f1, k2, f2, k3, f3, rfl, rfl, CF.out, ZF.out, LBW.out, AF.out⟩
            refine AllReadyH.cons rfl (fun K hK => ?_) AllReadyH.nil
            have hb : Below V2.heap.size V2 (V2.alloc (.cells #[.slice none 0 0, .slice none 0 0, .slice none 0 0] 31)) := (Below.refl _ _).alloc (Nat.le_refl _) _
            have KZL : Hid (w15.heap.size ≤ V2.heap.size) := C2.out.size
            have D3 : Hid (DAt (V2.alloc (.cells #[.slice none 0 0, .slice none 0 0, .slice none 0 0] 31)) (some ⟨gl9, 0, none⟩) (some ⟨gs9, 0, none⟩) (some ⟨go9, 0, none⟩) L S O) := D2.out.below hb
            have C3 : Hid (Below w15.heap.size w15 (V2.alloc (.cells #[.slice none 0 0, .slice none 0 0, .slice none 0 0] 31))) := C2.out.trans (hb.mono C2.out.size)
            have ZX : Hid ((V2.alloc (.cells #[.slice none 0 0, .slice none 0 0, .slice none 0 0] 31)).heap[V2.heap.size]? = some (.cells #[.slice none 0 0, .slice none 0 0, .slice none 0 0] 31 (0, 0))) := heap_alloc_new _ _
            clear hb
            (try simp only [Act.put, List.setIfInBounds_toArray])
            go_simp
            refine hK.out _ _ ?_ (fun hHeld => ?_)
            · exact HSS.out _ C3.out
            clear hK K
            obtain ⟨kz, HG⟩ : ∃ g, Hid (V2.heap.size = g) := ⟨_, rfl⟩
            rw [HG.out] at ZX KZL ⊢
            generalize (V2.alloc (.cells #[.slice none 0 0, .slice none 0 0, .slice none 0 0] 31)) = V3 at *
            clear HG
            refine wpAnyH_ready (rs := [4]) (by kernel_rfl) (by simp) ?_
            refine AllReadyH.cons rfl (fun K hK => ?_) AllReadyH.nil
            (try simp only [Act.put, List.setIfInBounds_toArray])
            go_simp
            refine (IM.out V3 _ _ _ D3.out).mono ?_
            rintro e V4 ⟨k1, f1, k2, f2, k3, f3, rfl, hb, hda⟩
            obtain ⟨bw, LBW, hda⟩ : ∃ b, Hid (w15.heap.size ≤ b) ∧ DA V4 b (.slice k1 x1 f1) (.slice k2 x2 f2) (.slice k3 x3 f3) XL XS XO := ⟨_, C3.out.size, hda⟩
            have D4 : Hid (DAt V4 (some ⟨gl9, 0, none⟩) (some ⟨gs9, 0, none⟩) (some ⟨go9, 0, none⟩) L S O) := D3.out.below hb
            have Z4 : Hid (V4.heap[kz]? = some (.cells #[.slice none 0 0, .slice none 0 0, .slice none 0 0] 31 (0, 0))) := below_row hb (row_lt ZX.out) ZX.out
            have C4 : Hid (Below w15.heap.size w15 V4) := C3.out.trans (hb.mono C3.out.size)
            have A4 : Hid (DA V4 bw (.slice k1 x1 f1) (.slice k2 x2 f2) (.slice k3 x3 f3) XL XS XO) := hda
            clear hb hda
            (try go_wp2_with fail)
            refine hK.out _ _ ?_ (fun hHeld => ?_)
            · exact HSS.out _ C4.out
            clear hK K
            refine wpAnyH_take (i := 5) (v := ?_) rfl (by kernel_rfl) (by kernel_rfl) (by kernel_rfl) (fun _ _ _ h => h) (Or.inl ⟨by kernel_rfl, ?_⟩) hHeld ?_
            rotate_left 1; focus (intro w hSw; (try dsimp only at hSw); (try go_split_ands); go_simp; all_goals (first | done | with_reducible rfl))
            change wpAnyH _ _ _ _ _ _ _ (Act.put _ (some 84) _) _; simp only [Act.put, List.setIfInBounds_toArray, List.set_cons_zero, List.set_cons_succ]
            refine wpAnyH_take (i := 6) (v := ?_) rfl (by kernel_rfl) (by kernel_rfl) (by kernel_rfl) (fun _ _ _ h => h) (Or.inl ⟨by kernel_rfl, ?_⟩) hHeld ?_
            rotate_left 1; focus (intro w hSw; (try dsimp only at hSw); (try go_split_ands); go_simp; all_goals (first | done | with_reducible rfl))
            change wpAnyH _ _ _ _ _ _ _ (Act.put _ (some 90) _) _; simp only [Act.put, List.setIfInBounds_toArray, List.set_cons_zero, List.set_cons_succ]
            refine wpAnyH_take (i := 7) (v := ?_) rfl (by kernel_rfl) (by kernel_rfl) (by kernel_rfl) (fun _ _ _ h => h) (Or.inl ⟨by kernel_rfl, ?_⟩) hHeld ?_
            rotate_left 1; focus (intro w hSw; (try dsimp only at hSw); (try go_split_ands); go_simp; all_goals (first | done | with_reducible rfl))
            change wpAnyH _ _ _ _ _ _ _ (Act.put _ (some 91) _) _; simp only [Act.put, List.setIfInBounds_toArray, List.set_cons_zero, List.set_cons_succ]
            refine wpAnyH_ready (rs := [9]) (by kernel_rfl) (by simp) ?_
            refine AllReadyH.cons rfl (fun K hK => ?_) AllReadyH.nil
            obtain ⟨r0, r1, r2⟩ := cells3 Z4.out
            have rf := fun i => frozen_of_row _ _ i _ _ Z4.out
            have ZF : Hid ((((V4.setCell ⟨kz, 0, none⟩ (.slice k1 x1 f1)).setCell ⟨kz, 1, none⟩ (.slice k2 x2 f2)).setCell ⟨kz, 2, none⟩ (.slice k3 x3 f3)).heap[kz]? = some (.cells #[.slice k1 x1 f1, .slice k2 x2 f2, .slice k3 x3 f3] 31 (0, 0))) := box3_set Z4.out
            have AF : Hid (DA (((V4.setCell ⟨kz, 0, none⟩ (.slice k1 x1 f1)).setCell ⟨kz, 1, none⟩ (.slice k2 x2 f2)).setCell ⟨kz, 2, none⟩ (.slice k3 x3 f3)) bw (.slice k1 x1 f1) (.slice k2 x2 f2) (.slice k3 x3 f3) XL XS XO) := da_box3 A4.out Z4.out
            have CF : Hid (Below w15.heap.size w15 (((V4.setCell ⟨kz, 0, none⟩ (.slice k1 x1 f1)).setCell ⟨kz, 1, none⟩ (.slice k2 x2 f2)).setCell ⟨kz, 2, none⟩ (.slice k3 x3 f3))) := ((C4.out.setCell KZL.out _).setCell KZL.out _).setCell KZL.out _
            go_simp
            refine hK.out _ _ ?_ (fun hHeld => ?_)
            · exact HSS.out _ CF.out
            clear hK K
            clear r0 r1 r2 rf
            generalize (((V4.setCell ⟨kz, 0, none⟩ (.slice k1 x1 f1)).setCell ⟨kz, 1, none⟩ (.slice k2 x2 f2)).setCell ⟨kz, 2, none⟩ (.slice k3 x3 f3)) = WF at *
            refine wpAnyH_take (i := 10) (v := ?_) rfl (by kernel_rfl) (by kernel_rfl) (by kernel_rfl) (fun _ _ _ h => h) (Or.inl ⟨by kernel_rfl, ?_⟩) hHeld ?_
            rotate_left 1; focus (intro w hSw; (try dsimp only at hSw); (try go_split_ands); go_simp; all_goals (first | done | with_reducible rfl))
            change wpAnyH _ _ _ _ _ _ _ (Act.put _ (some 15) _) _; simp only [Act.put, List.setIfInBounds_toArray, List.set_cons_zero, List.set_cons_succ]
            refine wpAnyH_done (by kernel_rfl) ?_ _
            clear hHeld
            (try go_wp2_with fail)
            go_meet
            exact ⟨kz, bw, k1, f1, k2, f2, k3, f3, rfl, rfl, CF.out, ZF.out, LBW.out, AF.out⟩
          refine AllReadyH.cons rfl (fun K hK => ?_) AllReadyH.nil
          have hb : Below V1.heap.size V1 (V1.alloc (.cells #[.slice none 0 0, .slice none 0 0, .slice none 0 0] 31)) := (Below.refl _ _).alloc (Nat.le_refl _) _
          have KZL : Hid (w15.heap.size ≤ V1.heap.size) := C1.out.size
          have D2 : Hid (DAt (V1.alloc (.cells #[.slice none 0 0, .slice none 0 0, .slice none 0 0] 31)) (some ⟨gl9, 0, none⟩) (some ⟨gs9, 0, none⟩) (some ⟨go9, 0, none⟩) L S O) := D1.out.below hb
          have C2 : Hid (Below w15.heap.size w15 (V1.alloc (.cells #[.slice none 0 0, .slice none 0 0, .slice none 0 0] 31))) := C1.out.trans (hb.mono C1.out.size)
          have ZX : Hid ((V1.alloc (.cells #[.slice none 0 0, .slice none 0 0, .slice none 0 0] 31)).heap[V1.heap.size]? = some (.cells #[.slice none 0 0, .slice none 0 0, .slice none 0 0] 31 (0, 0))) := heap_alloc_new _ _
          clear hb
          (try simp only [Act.put, List.setIfInBounds_toArray])
          go_simp
          refine hK.out _ _ ?_ (fun hHeld => ?_)
          · exact HSS.out _ C2.out
          clear hK K
          obtain ⟨kz, HG⟩ : ∃ g, Hid (V1.heap.size = g) := ⟨_, rfl⟩
          rw [HG.out] at ZX KZL ⊢
          generalize (V1.alloc (.cells #[.slice none 0 0, .slice none 0 0, .slice none 0 0] 31)) = V2 at *
          clear HG
          refine wpAnyH_ready (rs := [3]) (by kernel_rfl) (by simp) ?_
          refine AllReadyH.cons rfl (fun K hK => ?_) AllReadyH.nil
          (try simp only [Act.put, List.setIfInBounds_toArray])
          go_simp
          refine (toDOp_any o.k o.n o.t o.d _).mono ?_
          rintro e V3 ⟨rfl, hb⟩
          have D3 : Hid (DAt V3 (some ⟨gl9, 0, none⟩) (some ⟨gs9, 0, none⟩) (some ⟨go9, 0, none⟩) L S O) := D2.out.below hb
          have Z3 : Hid (V3.heap[kz]? = some (.cells #[.slice none 0 0, .slice none 0 0, .slice none 0 0] 31 (0, 0))) := below_row hb (row_lt ZX.out) ZX.out
          have C3 : Hid (Below w15.heap.size w15 V3) := C2.out.trans (hb.mono C2.out.size)
          clear hb
          (try go_wp2_with fail)
          refine hK.out _ _ ?_ (fun hHeld => ?_)
          · exact HSS.out _ C3.out
          clear hK K
          refine wpAnyH_ready (rs := [4]) (by kernel_rfl) (by simp) ?_
          refine AllReadyH.cons rfl (fun K hK => ?_) AllReadyH.nil
          (try simp only [Act.put, List.setIfInBounds_toArray])
          go_simp
          refine (IM.out V3 _ _ _ D3.out).mono ?_
          rintro e V4 ⟨k1, f1, k2, f2, k3, f3, rfl, hb, hda⟩
          obtain ⟨bw, LBW, hda⟩ : ∃ b, Hid (w15.heap.size ≤ b) ∧ DA V4 b (.slice k1 x1 f1) (.slice k2 x2 f2) (.slice k3 x3 f3) XL XS XO := ⟨_, C3.out.size, hda⟩
          have D4 : Hid (DAt V4 (some ⟨gl9, 0, none⟩) (some ⟨gs9, 0, none⟩) (some ⟨go9, 0, none⟩) L S O) := D3.out.below hb
          have Z4 : Hid (V4.heap[kz]? = some (.cells #[.slice none 0 0, .slice none 0 0, .slice none 0 0] 31 (0, 0))) := below_row hb (row_lt Z3.out) Z3.out
          have C4 : Hid (Below w15.heap.size w15 V4) := C3.out.trans (hb.mono C3.out.size)
          have A4 : Hid (DA V4 bw (.slice k1 x1 f1) (.slice k2 x2 f2) (.slice k3 x3 f3) XL XS XO) := hda
          clear hb hda
          (try go_wp2_with fail)
          refine hK.out _ _ ?_ (fun hHeld => ?_)
          · exact HSS.out _ C4.out
          clear hK K
          refine wpAnyH_take (i := 5) (v := ?_) rfl (by kernel_rfl) (by kernel_rfl) (by kernel_rfl) (fun _ _ _ h => h) (Or.inl ⟨by kernel_rfl, ?_⟩) hHeld ?_
          rotate_left 1; focus (intro w hSw; (try dsimp only at hSw); (try go_split_ands); go_simp; all_goals (first | done | with_reducible rfl))
          change wpAnyH _ _ _ _ _ _ _ (Act.put _ (some 84) _) _; simp only [Act.put, List.setIfInBounds_toArray, List.set_cons_zero, List.set_cons_succ]
          refine wpAnyH_take (i := 6) (v := ?_) rfl (by kernel_rfl) (by kernel_rfl) (by kernel_rfl) (fun _ _ _ h => h) (Or.inl ⟨by kernel_rfl, ?_⟩) hHeld ?_
          rotate_left 1; focus (intro w hSw; (try dsimp only at hSw); (try go_split_ands); go_simp; all_goals (first | done | with_reducible rfl))
          change wpAnyH _ _ _ _ _ _ _ (Act.put _ (some 90) _) _; simp only [Act.put, List.setIfInBounds_toArray, List.set_cons_zero, List.set_cons_succ]
          refine wpAnyH_take (i := 7) (v := ?_) rfl (by kernel_rfl) (by kernel_rfl) (by kernel_rfl) (fun _ _ _ h => h) (Or.inl ⟨by kernel_rfl, ?_⟩) hHeld ?_
          rotate_left 1; focus (intro w hSw; (try dsimp only at hSw); (try go_split_ands); go_simp; all_goals (first | done | with_reducible rfl))
          change wpAnyH _ _ _ _ _ _ _ (Act.put _ (some 91) _) _; simp only [Act.put, List.setIfInBounds_toArray, List.set_cons_zero, List.set_cons_succ]
          refine wpAnyH_ready (rs := [9]) (by kernel_rfl) (by simp) ?_
          refine AllReadyH.cons rfl (fun K hK => ?_) AllReadyH.nil
          obtain ⟨r0, r1, r2⟩ := cells3 Z4.out
          have rf := fun i => frozen_of_row _ _ i _ _ Z4.out
          have ZF : Hid ((((V4.setCell ⟨kz, 0, none⟩ (.slice k1 x1 f1)).setCell ⟨kz, 1, none⟩ (.slice k2 x2 f2)).setCell ⟨kz, 2, none⟩ (.slice k3 x3 f3)).heap[kz]? = some (.cells #[.slice k1 x1 f1, .slice k2 x2 f2, .slice k3 x3 f3] 31 (0, 0))) := box3_set Z4.out
          have AF : Hid (DA (((V4.setCell ⟨kz, 0, none⟩ (.slice k1 x1 f1)).setCell ⟨kz, 1, none⟩ (.slice k2 x2 f2)).setCell ⟨kz, 2, none⟩ (.slice k3 x3 f3)) bw (.slice k1 x1 f1) (.slice k2 x2 f2) (.slice k3 x3 f3) XL XS XO) := da_box3 A4.out Z4.out
          have CF : Hid (Below w15.heap.size w15 (((V4.setCell ⟨kz, 0, none⟩ (.slice k1 x1 f1)).setCell ⟨kz, 1, none⟩ (.slice k2 x2 f2)).setCell ⟨kz, 2, none⟩ (.slice k3 x3 f3))) := ((C4.out.setCell KZL.out _).setCell KZL.out _).setCell KZL.out _
          go_simp
          refine hK.out _ _ ?_ (fun hHeld => ?_)
          · exact HSS.out _ CF.out
          clear hK K
          clear r0 r1 r2 rf
          generalize (((V4.setCell ⟨kz, 0, none⟩ (.slice k1 x1 f1)).setCell ⟨kz, 1, none⟩ (.slice k2 x2 f2)).setCell ⟨kz, 2, none⟩ (.slice k3 x3 f3)) = WF at *
          refine wpAnyH_take (i := 10) (v := ?_) rfl (by kernel_rfl) (by kernel_rfl) (by kernel_rfl) (fun _ _ _ h => h) (Or.inl ⟨by kernel_rfl, ?_⟩) hHeld ?_
          rotate_left 1; focus (intro w hSw; (try dsimp only at hSw); (try go_split_ands); go_simp; all_goals (first | done | with_reducible rfl))
          change wpAnyH _ _ _ _ _ _ _ (Act.put _ (some 15) _) _; simp only [Act.put, List.setIfInBounds_toArray, List.set_cons_zero, List.set_cons_succ]
          refine wpAnyH_done (by kernel_rfl) ?_ _
          clear hHeld
          (try go_wp2_with fail)
          go_meet
          exact ⟨kz, bw, k1, f1, k2, f2, k3, f3, rfl, rfl, CF.out, ZF.out, LBW.out, AF.out⟩
        refine AllReadyH.cons rfl (fun K hK => ?_) AllReadyH.nil
        have hb : Below WD.heap.size WD (WD.alloc (.cells #[.slice none 0 0, .slice none 0 0, .slice none 0 0] 31)) := (Below.refl _ _).alloc (Nat.le_refl _) _
        have KZL : Hid (w15.heap.size ≤ WD.heap.size) := CS.out.size
        have C1 : Hid (Below w15.heap.size w15 (WD.alloc (.cells #[.slice none 0 0, .slice none 0 0, .slice none 0 0] 31))) := CS.out.trans (hb.mono CS.out.size)
        have ZX : Hid ((WD.alloc (.cells #[.slice none 0 0, .slice none 0 0, .slice none 0 0] 31)).heap[WD.heap.size]? = some (.cells #[.slice none 0 0, .slice none 0 0, .slice none 0 0] 31 (0, 0))) := heap_alloc_new _ _
        clear hb
        (try simp only [Act.put, List.setIfInBounds_toArray])
        go_simp
        refine hK.out _ _ ?_ (fun hHeld => ?_)
        · exact HSS.out _ C1.out
        clear hK K
        obtain ⟨kz, HG⟩ : ∃ g, Hid (WD.heap.size = g) := ⟨_, rfl⟩
        rw [HG.out] at ZX KZL ⊢
        generalize (WD.alloc (.cells #[.slice none 0 0, .slice none 0 0, .slice none 0 0] 31)) = V1 at *
        clear HG
        refine wpAnyH_ready (rs := [1]) (by kernel_rfl) (by simp) ?_
        refine AllReadyH.cons rfl (fun K hK => ?_) AllReadyH.nil
        (try simp only [Act.put, List.setIfInBounds_toArray])
        go_simp
        refine (TD.out _ (B15.out.trans (C1.out.mono B15.out.size))).mono ?_
        rintro e V2 ⟨gl9, gs9, go9, rfl, hb, -, -, hd⟩
        have Z2 : Hid (V2.heap[kz]? = some (.cells #[.slice none 0 0, .slice none 0 0, .slice none 0 0] 31 (0, 0))) := below_row hb (row_lt ZX.out) ZX.out
        have C2 : Hid (Below w15.heap.size w15 V2) := C1.out.trans (hb.mono C1.out.size)
        have D2 : Hid (DAt V2 (some ⟨gl9, 0, none⟩) (some ⟨gs9, 0, none⟩) (some ⟨go9, 0, none⟩) L S O) := hd
        clear hb hd
        (try go_wp2_with fail)
        refine hK.out _ _ ?_ (fun hHeld => ?_)
        · exact HSS.out _ C2.out
        clear hK K
        refine wpAnyH_ready (rs := [3]) (by kernel_rfl) (by simp) ?_
        refine AllReadyH.cons rfl (fun K hK => ?_) AllReadyH.nil
        (try simp only [Act.put, List.setIfInBounds_toArray])
        go_simp
        refine (toDOp_any o.k o.n o.t o.d _).mono ?_
        rintro e V3 ⟨rfl, hb⟩
        have D3 : Hid (DAt V3 (some ⟨gl9, 0, none⟩) (some ⟨gs9, 0, none⟩) (some ⟨go9, 0, none⟩) L S O) := D2.out.below hb
        have Z3 : Hid (V3.heap[kz]? = some (.cells #[.slice none 0 0, .slice none 0 0, .slice none 0 0] 31 (0, 0))) := below_row hb (row_lt Z2.out) Z2.out
        have C3 : Hid (Below w15.heap.size w15 V3) := C2.out.trans (hb.mono C2.out.size)
        clear hb
        (try go_wp2_with fail)
        refine hK.out _ _ ?_ (fun hHeld => ?_)
        · exact HSS.out _ C3.out
        clear hK K
        refine wpAnyH_ready (rs := [4]) (by kernel_rfl) (by simp) ?_
        refine AllReadyH.cons rfl (fun K hK => ?_) AllReadyH.nil
        (try simp only [Act.put, List.setIfInBounds_toArray])
        go_simp
        refine (IM.out V3 _ _ _ D3.out).mono ?_
        rintro e V4 ⟨k1, f1, k2, f2, k3, f3, rfl, hb, hda⟩
        obtain ⟨bw, LBW, hda⟩ : ∃ b, Hid (w15.heap.size ≤ b) ∧ DA V4 b (.slice k1 x1 f1) (.slice k2 x2 f2) (.slice k3 x3 f3) XL XS XO := ⟨_, C3.out.size, hda⟩
        have D4 : Hid (DAt V4 (some ⟨gl9, 0, none⟩) (some ⟨gs9, 0, none⟩) (some ⟨go9, 0, none⟩) L S O) := D3.out.below hb
        have Z4 : Hid (V4.heap[kz]? = some (.cells #[.slice none 0 0, .slice none 0 0, .slice none 0 0] 31 (0, 0))) := below_row hb (row_lt Z3.out) Z3.out
        have C4 : Hid (Below w15.heap.size w15 V4) := C3.out.trans (hb.mono C3.out.size)
        have A4 : Hid (DA V4 bw (.slice k1 x1 f1) (.slice k2 x2 f2) (.slice k3 x3 f3) XL XS XO) := hda
        clear hb hda
        (try go_wp2_with fail)
        refine hK.out _ _ ?_ (fun hHeld => ?_)
        · exact HSS.out _ C4.out
        clear hK K
        refine wpAnyH_take (i := 5) (v := ?_) rfl (by kernel_rfl) (by kernel_rfl) (by kernel_rfl) (fun _ _ _ h => h) (Or.inl ⟨by kernel_rfl, ?_⟩) hHeld ?_
        rotate_left 1; focus (intro w hSw; (try dsimp only at hSw); (try go_split_ands); go_simp; all_goals (first | done | with_reducible rfl))
        change wpAnyH _ _ _ _ _ _ _ (Act.put _ (some 84) _) _; simp only [Act.put, List.setIfInBounds_toArray, List.set_cons_zero, List.set_cons_succ]
        refine wpAnyH_take (i := 6) (v := ?_) rfl (by kernel_rfl) (by kernel_rfl) (by kernel_rfl) (fun _ _ _ h => h) (Or.inl ⟨by kernel_rfl, ?_⟩) hHeld ?_
        rotate_left 1; focus (intro w hSw; (try dsimp only at hSw); (try go_split_ands); go_simp; all_goals (first | done | with_reducible rfl))
        change wpAnyH _ _ _ _ _ _ _ (Act.put _ (some 90) _) _; simp only [Act.put, List.setIfInBounds_toArray, List.set_cons_zero, List.set_cons_succ]
        refine wpAnyH_take (i := 7) (v := ?_) rfl (by kernel_rfl) (by kernel_rfl) (by kernel_rfl) (fun _ _ _ h => h) (Or.inl ⟨by kernel_rfl, ?_⟩) hHeld ?_
        rotate_left 1; focus (intro w hSw; (try dsimp only at hSw); (try go_split_ands); go_simp; all_goals (first | done | with_reducible rfl))
        change wpAnyH _ _ _ _ _ _ _ (Act.put _ (some 91) _) _; simp only [Act.put, List.setIfInBounds_toArray, List.set_cons_zero, List.set_cons_succ]
        refine wpAnyH_ready (rs := [9]) (by kernel_rfl) (by simp) ?_
        refine AllReadyH.cons rfl (fun K hK => ?_) AllReadyH.nil
        obtain ⟨r0, r1, r2⟩ := cells3 Z4.out
        have rf := fun i => frozen_of_row _ _ i _ _ Z4.out
        have ZF : Hid ((((V4.setCell ⟨kz, 0, none⟩ (.slice k1 x1 f1)).setCell ⟨kz, 1, none⟩ (.slice k2 x2 f2)).setCell ⟨kz, 2, none⟩ (.slice k3 x3 f3)).heap[kz]? = some (.cells #[.slice k1 x1 f1, .slice k2 x2 f2, .slice k3 x3 f3] 31 (0, 0))) := box3_set Z4.out
        have AF : Hid (DA (((V4.setCell ⟨kz, 0, none⟩ (.slice k1 x1 f1)).setCell ⟨kz, 1, none⟩ (.slice k2 x2 f2)).setCell ⟨kz, 2, none⟩ (.slice k3 x3 f3)) bw (.slice k1 x1 f1) (.slice k2 x2 f2) (.slice k3 x3 f3) XL XS XO) := da_box3 A4.out Z4.out
        have CF : Hid (Below w15.heap.size w15 (((V4.setCell ⟨kz, 0, none⟩ (.slice k1 x1 f1)).setCell ⟨kz, 1, none⟩ (.slice k2 x2 f2)).setCell ⟨kz, 2, none⟩ (.slice k3 x3 f3))) := ((C4.out.setCell KZL.out _).setCell KZL.out _).setCell KZL.out _
        go_simp
        refine hK.out _ _ ?_ (fun hHeld => ?_)
        · exact HSS.out _ CF.out
        clear hK K
        clear r0 r1 r2 rf
        generalize (((V4.setCell ⟨kz, 0, none⟩ (.slice k1 x1 f1)).setCell ⟨kz, 1, none⟩ (.slice k2 x2 f2)).setCell ⟨kz, 2, none⟩ (.slice k3 x3 f3)) = WF at *
        refine wpAnyH_take (i := 10) (v := ?_) rfl (by kernel_rfl) (by kernel_rfl) (by kernel_rfl) (fun _ _ _ h => h) (Or.inl ⟨by kernel_rfl, ?_⟩) hHeld ?_
        rotate_left 1; focus (intro w hSw; (try dsimp only at hSw); (try go_split_ands); go_simp; all_goals (first | done | with_reducible rfl))
        change wpAnyH _ _ _ _ _ _ _ (Act.put _ (some 15) _) _; simp only [Act.put, List.setIfInBounds_toArray, List.set_cons_zero, List.set_cons_succ]
        refine wpAnyH_done (by kernel_rfl) ?_ _
        clear hHeld
        (try go_wp2_with fail)
        go_meet
        exact ⟨kz, bw, k1, f1, k2, f2, k3, f3, rfl, rfl, CF.out, ZF.out, LBW.out, AF.out⟩
      case rest =>
        obtain ⟨kz, bh, k1, f1, k2, f2, k3, f3, rfl, rfl, hbc, hrow, hbw, hda⟩ := hcut
        obtain ⟨w18, hw18⟩ : ∃ v, v = wc := ⟨_, rfl⟩
        subst hw18
        have B18 : Hid (Below w.heap.size w w18) := B15.out.trans (hbc.mono B15.out.size)
        have R18 : Hid (w18.heap[w.heap.size]? = some (.cells #[.slice la ln lc, .slice sa sn sc, .slice oa on oc] 25 (0, 0))) := below_row hbc (row_lt R15.out) R15.out
        have Y18 : Hid (w18.heap[w.heap.size + 1]? = some (.cells #[.int .i64 o.k, .string o.n, .string o.t, .string o.d] 36 (0, 0))) := below_row hbc (row_lt Y15.out) Y15.out
        have P18 : Hid (w18.heap[i6]? = some (.cells #[.slice a1 x1 c1, .slice a2 x2 c2, .slice a3 x3 c3] 31 (0, 0))) := below_row hbc (row_lt P15.out) P15.out
        have W18 : Hid (DA w18 bw (.slice a1 x1 c1) (.slice a2 x2 c2) (.slice a3 x3 c3) XL XS XO) := W15.out.below hbc
        have O18 : Hid (w18.heap[i9]? = some (.cells #[.slice b1 x1 e1, .slice b2 x2 e2, .slice b3 x3 e3] 31 (0, 0))) := below_row hbc (row_lt O15.out) O15.out
        have G18 : Hid (DA w18 bg (.slice b1 x1 e1) (.slice b2 x2 e2) (.slice b3 x3 e3) (mkF 1 x1) (mkF (1 + 2 * x1) x2) (mkO (1 + 2 * x1 + 2 * x2) x3)) := G15.out.below hbc
        clear B15 R15 Y15 P15 W15 O15 G15
        obtain ⟨i14, HI14⟩ : ∃ i, i = kz := ⟨_, rfl⟩
        subst HI14
        have U18 : Hid (w18.heap[i14]? = some (.cells #[.slice k1 x1 f1, .slice k2 x2 f2, .slice k3 x3 f3] 31 (0, 0))) := hrow
        have H18 : Hid (DA w18 bh (.slice k1 x1 f1) (.slice k2 x2 f2) (.slice k3 x3 f3) XL XS XO) := hda
        clear hbc hrow hda hbw
        obtain ⟨zu18_0, zu18_1, zu18_2⟩ := cells3 U18.out
        obtain ⟨zp18_0, zp18_1, zp18_2⟩ := cells3 P18.out
        go_wp2_with fail
        refine (EX.out _ _ _ _ _ _ _ _ _ _ _ _ _ _ _ H18.out W18.out).mono ?_
        rintro e w19 ⟨rfl, hb⟩
        have B19 : Hid (Below w.heap.size w w19) := B18.out.trans (hb.mono B18.out.size)
        have R19 : Hid (w19.heap[w.heap.size]? = some (.cells #[.slice la ln lc, .slice sa sn sc, .slice oa on oc] 25 (0, 0))) := below_row hb (row_lt R18.out) R18.out
        have Y19 : Hid (w19.heap[w.heap.size + 1]? = some (.cells #[.int .i64 o.k, .string o.n, .string o.t, .string o.d] 36 (0, 0))) := below_row hb (row_lt Y18.out) Y18.out
        have P19 : Hid (w19.heap[i6]? = some (.cells #[.slice a1 x1 c1, .slice a2 x2 c2, .slice a3 x3 c3] 31 (0, 0))) := below_row hb (row_lt P18.out) P18.out
        have W19 : Hid (DA w19 bw (.slice a1 x1 c1) (.slice a2 x2 c2) (.slice a3 x3 c3) XL XS XO) := W18.out.below hb
        have O19 : Hid (w19.heap[i9]? = some (.cells #[.slice b1 x1 e1, .slice b2 x2 e2, .slice b3 x3 e3] 31 (0, 0))) := below_row hb (row_lt O18.out) O18.out
        have G19 : Hid (DA w19 bg (.slice b1 x1 e1) (.slice b2 x2 e2) (.slice b3 x3 e3) (mkF 1 x1) (mkF (1 + 2 * x1) x2) (mkO (1 + 2 * x1 + 2 * x2) x3)) := G18.out.below hb
        have U19 : Hid (w19.heap[i14]? = some (.cells #[.slice k1 x1 f1, .slice k2 x2 f2, .slice k3 x3 f3] 31 (0, 0))) := below_row hb (row_lt U18.out) U18.out
        have H19 : Hid (DA w19 bh (.slice k1 x1 f1) (.slice k2 x2 f2) (.slice k3 x3 f3) XL XS XO) := H18.out.below hb
        clear B18 R18 Y18 P18 W18 O18 G18 U18 H18
        clear zu18_0 zu18_1 zu18_2 zp18_0 zp18_1 zp18_2
        clear hb
        obtain ⟨zo19_0, zo19_1, zo19_2⟩ := cells3 O19.out
        go_wp2_with fail
        refine (HE.out _ _ _ _ _ _ _ _ G19.out).mono ?_
        rintro e w20 ⟨rfl, hb⟩
        have B20 : Hid (Below w.heap.size w w20) := B19.out.trans (hb.mono B19.out.size)
        clear hb
        clear zo19_0 zo19_1 zo19_2
        go_wp2
        go_ret
        exact ⟨rfl, B20.out⟩

end Go.Proofs.Ytighhcdlgjaacaa
