import Derived.Test.YtighhcdlgjaacaaDiskToD
import Derived.Test.YtighhcdlgjaacaaImplDisk12
namespace Go.Proofs.Ytighhcdlgjaacaa
open Go.RowKit

theorem DO.at {w : World} {base gl gs go lc sc oc : Nat} {L S : List FI} {O : List OP} (h : DO w base (.slice (some ⟨gl, 0, none⟩) L.length lc) (.slice (some ⟨gs, 0, none⟩) S.length sc) (.slice (some ⟨go, 0, none⟩) O.length oc) L S O) : DAt w (some ⟨gl, 0, none⟩) (some ⟨gs, 0, none⟩) (some ⟨go, 0, none⟩) L S O := by
  obtain ⟨a1, c1, e1, h1⟩ := own_files h.l rfl
  obtain ⟨a2, c2, e2, h2⟩ := own_files h.s rfl
  obtain ⟨a3, c3, e3, h3⟩ := own_ops h.o rfl
  injection e1 with e1 _ _
  injection e2 with e2 _ _
  injection e3 with e3 _ _
  rw [e1, e2, e3]
  exact ⟨h1, h2, h3⟩
/-- The same, told of lengths that have names. -/
theorem toDisk_at (la sa oa : Option Addr) (lc sc oc ln sn on : Nat) (L S : List FI) (O : List OP) (w : World) (hD : DAt w la sa oa L S O) (hK : DskOk L S O) (hLn : L.length = ln) (hSn : S.length = sn) (hOn : O.length = on) :
    Calls Try.prog 11 #[.agg #[.slice la ln lc, .slice sa sn sc, .slice oa on oc]] w fun e w' => ∃ gl gs go : Nat, e = .returned (.agg #[.slice (some ⟨gl, 0, none⟩) ln ln, .slice (some ⟨gs, 0, none⟩) sn sn, .slice (some ⟨go, 0, none⟩) on on]) ∧ Below w.heap.size w w' ∧ gl ≠ gs ∧ DO w' w.heap.size (.slice (some ⟨gl, 0, none⟩) ln ln) (.slice (some ⟨gs, 0, none⟩) sn sn) (.slice (some ⟨go, 0, none⟩) on on) L S O ∧ DAt w' (some ⟨gl, 0, none⟩) (some ⟨gs, 0, none⟩) (some ⟨go, 0, none⟩) L S O := by
  subst hLn hSn hOn
  refine (toDisk_any la sa oa lc sc oc L S O w hD.l hD.s hD.o hK.ln hK.sn hK.on).mono ?_
  rintro e w' ⟨gl, gs, go, rfl, hb, hne, hd⟩
  exact ⟨gl, gs, go, rfl, hb, hne, hd, hd.at⟩
theorem specDisk_at (la sa oa : Option Addr) (lc sc oc ln sn on : Nat) (L S : List FI) (O : List OP) (w : World) (hD : DAt w la sa oa L S O) (hK : DskOk L S O) (hLn : L.length = ln) (hSn : S.length = sn) (hOn : O.length = on) :
    Calls Try.prog 10 #[.agg #[.slice la ln lc, .slice sa sn sc, .slice oa on oc]] w fun e w' => e = .returned (.bool (dskB L S O)) ∧ Below w.heap.size w w' := by
  subst hLn hSn hOn
  exact specDisk_any la sa oa lc sc oc L S O w hD.l hD.s hD.o hK.ln hK.sn hK.on hK.lt hK.st hK.ls hK.ss hK.os

set_option maxHeartbeats 4000000 in
theorem lawDiskOk (la sa oa : Option Addr) (lc sc oc : Nat) (L S : List FI) (O : List OP) (w : World) (hD : DAt w la sa oa L S O) (hLn : L.length ≤ 9223372036854775807) (hSn : S.length ≤ 9223372036854775807) (hOn : O.length ≤ 9223372036854775807) (hLt : TxF L) (hSt : TxF S) (hOt : TxO O) :
    Calls Try.prog 3 #[.agg #[.slice la L.length lc, .slice sa S.length sc, .slice oa O.length oc]] w fun e w' => e = .returned (.bool true) ∧ Below w.heap.size w w' := by
  have SZ : Hid (∀ W, DAt W la sa oa L S O → Calls Try.prog 9 #[.agg #[.slice la L.length lc, .slice sa S.length sc, .slice oa O.length oc], .int .i64 1048576] W fun e w' => ∃ x : Int, e = .returned (.int .i64 x) ∧ x ≤ 1048576 ∧ (0 ≤ x → DskOk L S O) ∧ Below W.heap.size W w') := fun W h => szDisk_any la sa oa lc sc oc L S O W h.l h.s h.o hLn hSn hOn hLt hSt hOt
  obtain ⟨ln, HLN⟩ : ∃ n, Hid (L.length = n) := ⟨_, rfl⟩
  obtain ⟨sn, HSN⟩ : ∃ n, Hid (S.length = n) := ⟨_, rfl⟩
  obtain ⟨on, HON⟩ : ∃ n, Hid (O.length = n) := ⟨_, rfl⟩
  rw [HLN.out, HSN.out, HON.out] at SZ ⊢
  clear hLn hSn hOn hLt hSt hOt
  have B0 : Hid (Below w.heap.size w (w.alloc (.cells #[.slice la ln lc, .slice sa sn sc, .slice oa on oc] 25))) := (Below.refl _ _).alloc (Nat.le_refl _) _
  have R0 : Hid ((w.alloc (.cells #[.slice la ln lc, .slice sa sn sc, .slice oa on oc] 25)).heap[w.heap.size]? = some (.cells #[.slice la ln lc, .slice sa sn sc, .slice oa on oc] 25 (0, 0))) := heap_alloc_new _ _
  obtain ⟨c0, c1, c2⟩ := cells3 R0.out
  have H0 : Hid (DAt w la sa oa L S O) := hD
  clear hD
  go_enter Try.func3, Try.ntmps3
  go_wp2_with fail
  refine (SZ.out _ (H0.out.below B0.out)).mono ?_
  rintro e w1 ⟨x, rfl, hx1, hx2, hb1⟩
  have HK0 : Hid (0 ≤ x → DskOk L S O) := hx2
  have B1 : Hid (Below w.heap.size w w1) := B0.out.trans (hb1.mono B0.out.size)
  have R1 : Hid (w1.heap[w.heap.size]? = some (.cells #[.slice la ln lc, .slice sa sn sc, .slice oa on oc] 25 (0, 0))) := below_row hb1 (row_lt R0.out) R0.out
  obtain ⟨d0, d1, d2⟩ := cells3 R1.out
  clear hx2 hb1 c0 c1 c2
  by_cases hneg : x < 0
  · go_wp2
    go_ret
    exact ⟨rfl, B1.out⟩
  have HK : Hid (DskOk L S O) := HK0.out (by omega)
  clear HK0
  have bl : ln ≤ 1048576 := by rw [← HLN.out]; exact HK.out.ln
  have bs : sn ≤ 1048576 := by rw [← HSN.out]; exact HK.out.sn
  have bo : on ≤ 1048576 := by rw [← HON.out]; exact HK.out.on
  have TD : Hid (∀ W, Below w.heap.size w W → Calls Try.prog 11 #[.agg #[.slice la ln lc, .slice sa sn sc, .slice oa on oc]] W fun e w' => ∃ gl gs go : Nat, e = .returned (.agg #[.slice (some ⟨gl, 0, none⟩) ln ln, .slice (some ⟨gs, 0, none⟩) sn sn, .slice (some ⟨go, 0, none⟩) on on]) ∧ Below W.heap.size W w' ∧ gl ≠ gs ∧ DO w' W.heap.size (.slice (some ⟨gl, 0, none⟩) ln ln) (.slice (some ⟨gs, 0, none⟩) sn sn) (.slice (some ⟨go, 0, none⟩) on on) L S O ∧ DAt w' (some ⟨gl, 0, none⟩) (some ⟨gs, 0, none⟩) (some ⟨go, 0, none⟩) L S O) := fun W hW => toDisk_at la sa oa lc sc oc ln sn on L S O W (H0.out.below hW) HK.out HLN.out HSN.out HON.out
  have SP : Hid (∀ W a b c, DAt W a b c L S O → Calls Try.prog 10 #[.agg #[.slice a ln ln, .slice b sn sn, .slice c on on]] W fun e w' => e = .returned (.bool (dskB L S O)) ∧ Below W.heap.size W w') := fun W a b c h => specDisk_at a b c ln sn on ln sn on L S O W h HK.out HLN.out HSN.out HON.out
  have IM : Hid (∀ W a b c, DAt W a b c L S O → Calls Try.prog 12 #[.agg #[.slice a ln ln, .slice b sn sn, .slice c on on]] W fun e w' => e = .returned (.bool (dskB L S O)) ∧ Below W.heap.size W w') := fun W a b c h => implDisk_any a b c ln sn on ln sn on L S O W h HK.out HLN.out HSN.out HON.out
  have EQ : Hid (∀ W a b c a2 b2 c2, DAt W a b c L S O → DAt W a2 b2 c2 L S O → Calls Try.prog 13 #[.agg #[.slice a ln ln, .slice b sn sn, .slice c on on], .agg #[.slice a2 ln ln, .slice b2 sn sn, .slice c2 on on]] W fun e w' => e = .returned (.bool true) ∧ Below W.heap.size W w') := fun W a b c a2 b2 c2 h1 h2 => eqDisk_same a b c a2 b2 c2 ln sn on ln sn on ln sn on L S O W h1 h2 HLN.out HSN.out HON.out bl bs bo
  obtain ⟨r, HR⟩ : ∃ r, Hid (dskB L S O = r) := ⟨_, rfl⟩
  rw [HR.out] at SP IM
  have hrr : (r != r) = false := by cases r <;> rfl
  go_wp2_with fail
  refine (TD.out w1 B1.out).mono ?_
  rintro e w2 ⟨gl2, gs2, go2, rfl, hb2, -, -, hd2⟩
  have B2 : Hid (Below w.heap.size w w2) := B1.out.trans (hb2.mono B1.out.size)
  have R2 : Hid (w2.heap[w.heap.size]? = some (.cells #[.slice la ln lc, .slice sa sn sc, .slice oa on oc] 25 (0, 0))) := below_row hb2 (row_lt R1.out) R1.out
  have D2 : Hid (DAt w2 (some ⟨gl2, 0, none⟩) (some ⟨gs2, 0, none⟩) (some ⟨go2, 0, none⟩) L S O) := hd2
  clear hb2 hd2 d0 d1 d2
  go_wp2_with fail
  refine (SP.out w2 _ _ _ D2.out).mono ?_
  rintro e w3 ⟨rfl, hb3⟩
  have B3 : Hid (Below w.heap.size w w3) := B2.out.trans (hb3.mono B2.out.size)
  have R3 : Hid (w3.heap[w.heap.size]? = some (.cells #[.slice la ln lc, .slice sa sn sc, .slice oa on oc] 25 (0, 0))) := below_row hb3 (row_lt R2.out) R2.out
  obtain ⟨d0, d1, d2⟩ := cells3 R3.out
  clear hb3 D2
  go_wp2_with fail
  refine (TD.out w3 B3.out).mono ?_
  rintro e w4 ⟨gl, gs, go, rfl, hb4, -, -, hd4⟩
  have B4 : Hid (Below w.heap.size w w4) := B3.out.trans (hb4.mono B3.out.size)
  have R4 : Hid (w4.heap[w.heap.size]? = some (.cells #[.slice la ln lc, .slice sa sn sc, .slice oa on oc] 25 (0, 0))) := below_row hb4 (row_lt R3.out) R3.out
  have D4 : Hid (DAt w4 (some ⟨gl, 0, none⟩) (some ⟨gs, 0, none⟩) (some ⟨go, 0, none⟩) L S O) := hd4
  clear hb4 hd4 d0 d1 d2
  have B5 : Hid (Below w.heap.size w (w4.alloc (.cells #[.slice (some ⟨gl, 0, none⟩) ln ln, .slice (some ⟨gs, 0, none⟩) sn sn, .slice (some ⟨go, 0, none⟩) on on] 31))) := B4.out.alloc B4.out.size _
  have D5 : Hid (DAt (w4.alloc (.cells #[.slice (some ⟨gl, 0, none⟩) ln ln, .slice (some ⟨gs, 0, none⟩) sn sn, .slice (some ⟨go, 0, none⟩) on on] 31)) (some ⟨gl, 0, none⟩) (some ⟨gs, 0, none⟩) (some ⟨go, 0, none⟩) L S O) := D4.out.below ((Below.refl _ _).alloc (Nat.le_refl _) _)
  have Q5 : Hid ((w4.alloc (.cells #[.slice (some ⟨gl, 0, none⟩) ln ln, .slice (some ⟨gs, 0, none⟩) sn sn, .slice (some ⟨go, 0, none⟩) on on] 31)).heap[w4.heap.size]? = some (.cells #[.slice (some ⟨gl, 0, none⟩) ln ln, .slice (some ⟨gs, 0, none⟩) sn sn, .slice (some ⟨go, 0, none⟩) on on] 31 (0, 0))) := heap_alloc_new _ _
  have R5 : Hid ((w4.alloc (.cells #[.slice (some ⟨gl, 0, none⟩) ln ln, .slice (some ⟨gs, 0, none⟩) sn sn, .slice (some ⟨go, 0, none⟩) on on] 31)).heap[w.heap.size]? = some (.cells #[.slice la ln lc, .slice sa sn sc, .slice oa on oc] 25 (0, 0))) := (heap_alloc_old _ _ (row_lt R4.out)).trans R4.out
  obtain ⟨q0, q1, q2⟩ := cells3 Q5.out
  go_wp2_with fail
  refine (IM.out _ _ _ _ D5.out).mono ?_
  rintro e w6 ⟨rfl, hb6⟩
  have B6 : Hid (Below w.heap.size w w6) := B5.out.trans (hb6.mono B5.out.size)
  have D6 : Hid (DAt w6 (some ⟨gl, 0, none⟩) (some ⟨gs, 0, none⟩) (some ⟨go, 0, none⟩) L S O) := D5.out.below hb6
  have Q6 : Hid (w6.heap[w4.heap.size]? = some (.cells #[.slice (some ⟨gl, 0, none⟩) ln ln, .slice (some ⟨gs, 0, none⟩) sn sn, .slice (some ⟨go, 0, none⟩) on on] 31 (0, 0))) := below_row hb6 (row_lt Q5.out) Q5.out
  have R6 : Hid (w6.heap[w.heap.size]? = some (.cells #[.slice la ln lc, .slice sa sn sc, .slice oa on oc] 25 (0, 0))) := below_row hb6 (row_lt R5.out) R5.out
  clear hb6 q0 q1 q2
  obtain ⟨p0, p1, p2⟩ := cells3 Q6.out
  obtain ⟨d0, d1, d2⟩ := cells3 R6.out
  go_wp2_with fail
  go_region_with (first
    | (go_at_call 11
       with_reducible refine (TD.out _ B6.out.drew).mono ?_
       rintro e w7 ⟨gl7, gs7, go7, rfl, hb7, hne7, hdo7, hd7⟩
       have B7 : Hid (Below w.heap.size w w7) := B6.out.drew.trans (hb7.mono B6.out.size)
       have D7 : Hid (DAt w7 (some ⟨gl7, 0, none⟩) (some ⟨gs7, 0, none⟩) (some ⟨go7, 0, none⟩) L S O) := hd7
       have E7 : Hid (DAt w7 (some ⟨gl, 0, none⟩) (some ⟨gs, 0, none⟩) (some ⟨go, 0, none⟩) L S O) := (D6.out.below (Below.refl _ _).drew).below hb7
       obtain ⟨m0, m1, m2⟩ := cells3 (below_row (Below.trans (Below.refl _ _).drew hb7) (row_lt Q6.out) Q6.out)
       clear hb7 hd7 hdo7 hne7)
    | (go_at_call 13
       with_reducible refine (EQ.out w7 _ _ _ _ _ _ E7.out D7.out).mono ?_
       rintro e w8 ⟨rfl, hb8⟩
       have B8 : Hid (Below w.heap.size w w8) := B7.out.trans (hb8.mono B7.out.size)
       clear hb8))
  all_goals
    go_wp2
    go_ret
    exact ⟨rfl, B8.out⟩

end Go.Proofs.Ytighhcdlgjaacaa
