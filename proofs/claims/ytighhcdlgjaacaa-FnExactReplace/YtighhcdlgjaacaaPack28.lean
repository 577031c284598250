import Derived.Test.YtighhcdlgjaacaaPack4
import Derived.Test.YtighhcdlgjaacaaPack14
import Derived.Test.YtighhcdlgjaacaaDiskToD
import Derived.Test.YtighhcdlgjaacaaImplDisk12
namespace Go.Proofs.Ytighhcdlgjaacaa
open Go.RowKit

theorem DO.at {w : World} {base gl gs go lc sc oc : Nat} {L S : List FI} {O : List OP} (h : DO w base (.slice (some ⟨gl, 0, none⟩) L.length lc) (.slice (some ⟨gs, 0, none⟩) S.length sc) (.slice (some ⟨go, 0, none⟩) O.length oc) L S O) : DAt w (some ⟨gl, 0, none⟩) (some ⟨gs, 0, none⟩) (some ⟨go, 0, none⟩) L S O := by
  obtain ⟨a1, c1, e1, h1⟩ := own_files h.l rfl
  obtain ⟨a2, c2, e2, h2⟩ := own_files h.s rfl
  obtain ⟨a3, c3, e3, h3⟩ := own_ops h.o rfl
  injection e1 with e1 _ _
  injection e2 with e2 _ _
  injection e3 with e3 _ _
  rw [e1, e2, e3]
  exact ⟨h1, h2, h3⟩
/-- The same, told of lengths that have names. -/
theorem toDisk_at (la sa oa : Option Addr) (lc sc oc ln sn on : Nat) (L S : List FI) (O : List OP) (w : World) (hD : DAt w la sa oa L S O) (hK : DskOk L S O) (hLn : L.length = ln) (hSn : S.length = sn) (hOn : O.length = on) :
    Calls Try.prog 11 #[.agg #[.slice la ln lc, .slice sa sn sc, .slice oa on oc]] w fun e w' => ∃ gl gs go : Nat, e = .returned (.agg #[.slice (some ⟨gl, 0, none⟩) ln ln, .slice (some ⟨gs, 0, none⟩) sn sn, .slice (some ⟨go, 0, none⟩) on on]) ∧ Below w.heap.size w w' ∧ gl ≠ gs ∧ DO w' w.heap.size (.slice (some ⟨gl, 0, none⟩) ln ln) (.slice (some ⟨gs, 0, none⟩) sn sn) (.slice (some ⟨go, 0, none⟩) on on) L S O ∧ DAt w' (some ⟨gl, 0, none⟩) (some ⟨gs, 0, none⟩) (some ⟨go, 0, none⟩) L S O := by
  subst hLn hSn hOn
  refine (toDisk_any la sa oa lc sc oc L S O w hD.l hD.s hD.o hK.ln hK.sn hK.on).mono ?_
  rintro e w' ⟨gl, gs, go, rfl, hb, hne, hd⟩
  exact ⟨gl, gs, go, rfl, hb, hne, hd, hd.at⟩
theorem specDisk_at (la sa oa : Option Addr) (lc sc oc ln sn on : Nat) (L S : List FI) (O : List OP) (w : World) (hD : DAt w la sa oa L S O) (hK : DskOk L S O) (hLn : L.length = ln) (hSn : S.length = sn) (hOn : O.length = on) :
    Calls Try.prog 10 #[.agg #[.slice la ln lc, .slice sa sn sc, .slice oa on oc]] w fun e w' => e = .returned (.bool (dskB L S O)) ∧ Below w.heap.size w w' := by
  subst hLn hSn hOn
  exact specDisk_any la sa oa lc sc oc L S O w hD.l hD.s hD.o hK.ln hK.sn hK.on hK.lt hK.st hK.ls hK.ss hK.os

set_option maxHeartbeats 4000000 in
theorem lawDiskOk (la sa oa : Option Addr) (lc sc oc : Nat) (L S : List FI) (O : List OP) (w : World) (hD : DAt w la sa oa L S O) (hLn : L.length ≤ 9223372036854775807) (hSn : S.length ≤ 9223372036854775807) (hOn : O.length ≤ 9223372036854775807) (hLt : TxF L) (hSt : TxF S) (hOt : TxO O) :
    Calls Try.prog 3 #[.agg #[.slice la L.length lc, .slice sa S.length sc, .slice oa O.length oc]] w fun e w' => e = .returned (.bool true) ∧ Below w.heap.size w w' := by
  have SZ : Hid (∀ W, DAt W la sa oa L S O → Calls Try.prog 9 #[.agg #[.slice la L.length lc, .slice sa S.length sc, .slice oa O.length oc], .int .i64 1048576] W fun e w' => ∃ x : Int, e = .returned (.int .i64 x) ∧ x ≤ 1048576 ∧ (0 ≤ x → DskOk L S O) ∧ Below W.heap.size W w') := fun W h => szDisk_any la sa oa lc sc oc L S O W h.l h.s h.o hLn hSn hOn hLt hSt hOt
  obtain ⟨ln, HLN⟩ : ∃ n, Hid (L.length = n) := ⟨_, rfl⟩
  obtain ⟨sn, HSN⟩ : ∃ n, Hid (S.length = n) := ⟨_, rfl⟩
  obtain ⟨on, HON⟩ : ∃ n, Hid (O.length = n) := ⟨_, rfl⟩
  rw [HLN.out, HSN.out, HON.out] at SZ ⊢
  clear hLn hSn hOn hLt hSt hOt
  have B0 : Hid (Below w.heap.size w (w.alloc (.cells #[.slice la ln lc, .slice sa sn sc, .slice oa on oc] 25))) := (Below.refl _ _).alloc (Nat.le_refl _) _
  have R0 : Hid ((w.alloc (.cells #[.slice la ln lc, .slice sa sn sc, .slice oa on oc] 25)).heap[w.heap.size]? = some (.cells #[.slice la ln lc, .slice sa sn sc, .slice oa on oc] 25 (0, 0))) := heap_alloc_new _ _
  obtain ⟨c0, c1, c2⟩ := cells3 R0.out
  have H0 : Hid (DAt w la sa oa L S O) := hD
  clear hD
  go_enter Try.func3, Try.ntmps3
  go_wp2_with fail
  refine (SZ.out _ (H0.out.below B0.out)).mono ?_
  rintro e w1 ⟨x, rfl, hx1, hx2, hb1⟩
  have HK0 : Hid (0 ≤ x → DskOk L S O) := hx2
  have B1 : Hid (Below w.heap.size w w1) := B0.out.trans (hb1.mono B0.out.size)
  have R1 : Hid (w1.heap[w.heap.size]? = some (.cells #[.slice la ln lc, .slice sa sn sc, .slice oa on oc] 25 (0, 0))) := below_row hb1 (row_lt R0.out) R0.out
  obtain ⟨d0, d1, d2⟩ := cells3 R1.out
  clear hx2 hb1 c0 c1 c2
  by_cases hneg : x < 0
  · go_wp2
    go_ret
    exact ⟨rfl, B1.out⟩
  have HK : Hid (DskOk L S O) := HK0.out (by omega)
  clear HK0
  have bl : ln ≤ 1048576 := by rw [← HLN.out]; exact HK.out.ln
  have bs : sn ≤ 1048576 := by rw [← HSN.out]; exact HK.out.sn
  have bo : on ≤ 1048576 := by rw [← HON.out]; exact HK.out.on
  have TD : Hid (∀ W, Below w.heap.size w W → Calls Try.prog 11 #[.agg #[.slice la ln lc, .slice sa sn sc, .slice oa on oc]] W fun e w' => ∃ gl gs go : Nat, e = .returned (.agg #[.slice (some ⟨gl, 0, none⟩) ln ln, .slice (some ⟨gs, 0, none⟩) sn sn, .slice (some ⟨go, 0, none⟩) on on]) ∧ Below W.heap.size W w' ∧ gl ≠ gs ∧ DO w' W.heap.size (.slice (some ⟨gl, 0, none⟩) ln ln) (.slice (some ⟨gs, 0, none⟩) sn sn) (.slice (some ⟨go, 0, none⟩) on on) L S O ∧ DAt w' (some ⟨gl, 0, none⟩) (some ⟨gs, 0, none⟩) (some ⟨go, 0, none⟩) L S O) := fun W hW => toDisk_at la sa oa lc sc oc ln sn on L S O W (H0.out.below hW) HK.out HLN.out HSN.out HON.out
  have SP : Hid (∀ W a b c, DAt W a b c L S O → Calls Try.prog 10 #[.agg #[.slice a ln ln, .slice b sn sn, .slice c on on]] W fun e w' => e = .returned (.bool (dskB L S O)) ∧ Below W.heap.size W w') := fun W a b c h => specDisk_at a b c ln sn on ln sn on L S O W h HK.out HLN.out HSN.out HON.out
  have IM : Hid (∀ W a b c, DAt W a b c L S O → Calls Try.prog 12 #[.agg #[.slice a ln ln, .slice b sn sn, .slice c on on]] W fun e w' => e = .returned (.bool (dskB L S O)) ∧ Below W.heap.size W w') := fun W a b c h => implDisk_any a b c ln sn on ln sn on L S O W h HK.out HLN.out HSN.out HON.out
  have EQ : Hid (∀ W a b c a2 b2 c2, DAt W a b c L S O → DAt W a2 b2 c2 L S O → Calls Try.prog 13 #[.agg #[.slice a ln ln, .slice b sn sn, .slice c on on], .agg #[.slice a2 ln ln, .slice b2 sn sn, .slice c2 on on]] W fun e w' => e = .returned (.bool true) ∧ Below W.heap.size W w') := fun W a b c a2 b2 c2 h1 h2 => eqDisk_same a b c a2 b2 c2 ln sn on ln sn on ln sn on L S O W h1 h2 HLN.out HSN.out HON.out bl bs bo
  obtain ⟨r, HR⟩ : ∃ r, Hid (dskB L S O = r) := ⟨_, rfl⟩
  rw [HR.out] at SP IM
  have hrr : (r != r) = false := by cases r <;> rfl
  go_wp2_with fail
  refine (TD.out w1 B1.out).mono ?_
  rintro e w2 ⟨gl2, gs2, go2, rfl, hb2, -, -, hd2⟩
  have B2 : Hid (Below w.heap.size w w2) := B1.out.trans (hb2.mono B1.out.size)
  have R2 : Hid (w2.heap[w.heap.size]? = some (.cells #[.slice la ln lc, .slice sa sn sc, .slice oa on oc] 25 (0, 0))) := below_row hb2 (row_lt R1.out) R1.out
  have D2 : Hid (DAt w2 (some ⟨gl2, 0, none⟩) (some ⟨gs2, 0, none⟩) (some ⟨go2, 0, none⟩) L S O) := hd2
  clear hb2 hd2 d0 d1 d2
  go_wp2_with fail
  refine (SP.out w2 _ _ _ D2.out).mono ?_
  rintro e w3 ⟨rfl, hb3⟩
  have B3 : Hid (Below w.heap.size w w3) := B2.out.trans (hb3.mono B2.out.size)
  have R3 : Hid (w3.heap[w.heap.size]? = some (.cells #[.slice la ln lc, .slice sa sn sc, .slice oa on oc] 25 (0, 0))) := below_row hb3 (row_lt R2.out) R2.out
  obtain ⟨d0, d1, d2⟩ := cells3 R3.out
  clear hb3 D2
  go_wp2_with fail
  refine (TD.out w3 B3.out).mono ?_
  rintro e w4 ⟨gl, gs, go, rfl, hb4, -, -, hd4⟩
  have B4 : Hid (Below w.heap.size w w4) := B3.out.trans (hb4.mono B3.out.size)
  have R4 : Hid (w4.heap[w.heap.size]? = some (.cells #[.slice la ln lc, .slice sa sn sc, .slice oa on oc] 25 (0, 0))) := below_row hb4 (row_lt R3.out) R3.out
  have D4 : Hid (DAt w4 (some ⟨gl, 0, none⟩) (some ⟨gs, 0, none⟩) (some ⟨go, 0, none⟩) L S O) := hd4
  clear hb4 hd4 d0 d1 d2
  have B5 : Hid (Below w.heap.size w (w4.alloc (.cells #[.slice (some ⟨gl, 0, none⟩) ln ln, .slice (some ⟨gs, 0, none⟩) sn sn, .slice (some ⟨go, 0, none⟩) on on] 31))) := B4.out.alloc B4.out.size _
  have D5 : Hid (DAt (w4.alloc (.cells #[.slice (some ⟨gl, 0, none⟩) ln ln, .slice (some ⟨gs, 0, none⟩) sn sn, .slice (some ⟨go, 0, none⟩) on on] 31)) (some ⟨gl, 0, none⟩) (some ⟨gs, 0, none⟩) (some ⟨go, 0, none⟩) L S O) := D4.out.below ((Below.refl _ _).alloc (Nat.le_refl _) _)
  have Q5 : Hid ((w4.alloc (.cells #[.slice (some ⟨gl, 0, none⟩) ln ln, .slice (some ⟨gs, 0, none⟩) sn sn, .slice (some ⟨go, 0, none⟩) on on] 31)).heap[w4.heap.size]? = some (.cells #[.slice (some ⟨gl, 0, none⟩) ln ln, .slice (some ⟨gs, 0, none⟩) sn sn, .slice (some ⟨go, 0, none⟩) on on] 31 (0, 0))) := heap_alloc_new _ _
  have R5 : Hid ((w4.alloc (.cells #[.slice (some ⟨gl, 0, none⟩) ln ln, .slice (some ⟨gs, 0, none⟩) sn sn, .slice (some ⟨go, 0, none⟩) on on] 31)).heap[w.heap.size]? = some (.cells #[.slice la ln lc, .slice sa sn sc, .slice oa on oc] 25 (0, 0))) := (heap_alloc_old _ _ (row_lt R4.out)).trans R4.out
  obtain ⟨q0, q1, q2⟩ := cells3 Q5.out
  go_wp2_with fail
  refine (IM.out _ _ _ _ D5.out).mono ?_
  rintro e w6 ⟨rfl, hb6⟩
  have B6 : Hid (Below w.heap.size w w6) := B5.out.trans (hb6.mono B5.out.size)
  have D6 : Hid (DAt w6 (some ⟨gl, 0, none⟩) (some ⟨gs, 0, none⟩) (some ⟨go, 0, none⟩) L S O) := D5.out.below hb6
  have Q6 : Hid (w6.heap[w4.heap.size]? = some (.cells #[.slice (some ⟨gl, 0, none⟩) ln ln, .slice (some ⟨gs, 0, none⟩) sn sn, .slice (some ⟨go, 0, none⟩) on on] 31 (0, 0))) := below_row hb6 (row_lt Q5.out) Q5.out
  have R6 : Hid (w6.heap[w.heap.size]? = some (.cells #[.slice la ln lc, .slice sa sn sc, .slice oa on oc] 25 (0, 0))) := below_row hb6 (row_lt R5.out) R5.out
  clear hb6 q0 q1 q2
  obtain ⟨p0, p1, p2⟩ := cells3 Q6.out
  obtain ⟨d0, d1, d2⟩ := cells3 R6.out
  go_wp2_with fail
  go_region_with (first
    | (go_at_call 11
       with_reducible refine (TD.out _ B6.out.drew).mono ?_
       rintro e w7 ⟨gl7, gs7, go7, rfl, hb7, hne7, hdo7, hd7⟩
       have B7 : Hid (Below w.heap.size w w7) := B6.out.drew.trans (hb7.mono B6.out.size)
       have D7 : Hid (DAt w7 (some ⟨gl7, 0, none⟩) (some ⟨gs7, 0, none⟩) (some ⟨go7, 0, none⟩) L S O) := hd7
       have E7 : Hid (DAt w7 (some ⟨gl, 0, none⟩) (some ⟨gs, 0, none⟩) (some ⟨go, 0, none⟩) L S O) := (D6.out.below (Below.refl _ _).drew).below hb7
       obtain ⟨m0, m1, m2⟩ := cells3 (below_row (Below.trans (Below.refl _ _).drew hb7) (row_lt Q6.out) Q6.out)
       clear hb7 hd7 hdo7 hne7)
    | (go_at_call 13
       with_reducible refine (EQ.out w7 _ _ _ _ _ _ E7.out D7.out).mono ?_
       rintro e w8 ⟨rfl, hb8⟩
       have B8 : Hid (Below w.heap.size w w8) := B7.out.trans (hb8.mono B7.out.size)
       clear hb8))
  all_goals
    go_wp2
    go_ret
    exact ⟨rfl, B8.out⟩

end Go.Proofs.Ytighhcdlgjaacaa

namespace Go.Proofs.Ytighhcdlgjaacaa
open Go.RowKit

/-- What a file's place tells, with its name. -/
theorem atF_name (F : List FI) (n : ByteArray) : (hasF F n = false ∧ datF F n = ⟨#[]⟩ ∧ ∀ j, j < F.length → (F.getD j fi0).1 ≠ n) ∨ ∃ i : Nat, i < F.length ∧ hasF F n = true ∧ datF F n = (F.getD i fi0).2 ∧ (F.getD i fi0).1 = n ∧ ∀ j, j < i → (F.getD j fi0).1 ≠ n := by
  induction F with
  | nil => exact .inl ⟨rfl, rfl, fun j hj => by simp at hj⟩
  | cons f G ih =>
    by_cases e : f.1 = n
    · exact .inr ⟨0, by simp, by simp [hasF, e], by simp [datF, e], by simpa using e, fun j hj => by omega⟩
    · rcases ih with ⟨h1, h2, h3⟩ | ⟨i, h0, h1, h2, h3, h4⟩
      · refine .inl ⟨by simpa [hasF, e] using h1, by simpa [datF, e] using h2, fun j hj => ?_⟩
        cases j with
        | zero => simpa using e
        | succ j => simpa using h3 j (by simpa using hj)
      · refine .inr ⟨i + 1, by simpa using h0, by simpa [hasF, e] using h1, by simpa [datF, e] using h2, by simpa using h3, fun j hj => ?_⟩
        cases j with
        | zero => simpa using e
        | succ j => simpa using h4 j (by omega)

set_option maxHeartbeats 1000000 in
theorem fileOf_any (la sa oa : Option Addr) (lc sc oc ln sn on : Nat) (L : List FI) (nm : ByteArray) (w : World) (hL : FilesAt w la L) (hLn : L.length = ln) (bl : ln ≤ 1048576) :
    Calls Try.prog 54 #[.agg #[.slice la ln lc, .slice sa sn sc, .slice oa on oc], .string nm] w fun e w' => e = .returned (.tuple #[.string (datF L nm), .bool (hasF L nm)]) ∧ Below w.heap.size w w' := by
  have B0 : Hid (Below w.heap.size w (w.alloc (.cells #[.slice la ln lc, .slice sa sn sc, .slice oa on oc] 31))) := (Below.refl _ _).alloc (Nat.le_refl _) _
  have HL : Hid (FilesAt w la L) := hL
  have HN : Hid (L.length = ln) := hLn
  have HV : Hid ((hasF L nm = false ∧ datF L nm = ⟨#[]⟩ ∧ ∀ j, j < L.length → (L.getD j fi0).1 ≠ nm) ∨ ∃ i : Nat, i < L.length ∧ hasF L nm = true ∧ datF L nm = (L.getD i fi0).2 ∧ (L.getD i fi0).1 = nm ∧ ∀ j, j < i → (L.getD j fi0).1 ≠ nm) := atF_name L nm
  clear hL hLn
  obtain ⟨dv, HDV⟩ : ∃ d, Hid (datF L nm = d) := ⟨_, rfl⟩
  obtain ⟨hv, HHV⟩ : ∃ d, Hid (hasF L nm = d) := ⟨_, rfl⟩
  rw [HDV.out, HHV.out] at HV ⊢
  go_enter Try.func54, Try.ntmps54
  go_wp2_with fail
  go_loopw [11] (fun ti wr => ∃ i : Nat, i ≤ ln ∧ ti = .int .i64 i ∧ (∀ j, j < i → (L.getD j fi0).1 ≠ nm) ∧ Below w.heap.size w wr) (fun ti _ => ln - (intOf ti).toNat)
  case atStart => exact ⟨0, Nat.zero_le _, rfl, fun j hj => by omega, B0.out⟩
  case round =>
    obtain ⟨i, hi, rfl, hno, hb⟩ := hrel
    have HNO : Hid (∀ j, j < i → (L.getD j fi0).1 ≠ nm) := hno
    have B1 : Hid (Below w.heap.size w wr) := hb
    clear hno hb
    by_cases hlt : i < ln
    · have hin : (i : Int) < ln := by omega
      have hiF : i < L.length := by rw [HN.out]; exact hlt
      obtain ⟨b, off, e, c1, c2⟩ := (HL.out.below B1.out) i hiF
      subst e
      have HY : Hid ((L.getD i fi0).1 = nm → dv = (L.getD i fi0).2 ∧ hv = true) := fun h => by
        rcases HV.out with ⟨-, -, h3⟩ | ⟨k, hk, h1, h2, h3, h4⟩
        · exact absurd h (h3 i hiF)
        · have : k = i := by
            rcases Nat.lt_trichotomy k i with h5 | h5 | h5
            · exact absurd h3 (HNO.out k h5)
            · exact h5
            · exact absurd h (h4 i h5)
          subst this
          exact ⟨h2, h1⟩
      have HS : Hid ((L.getD i fi0).1 ≠ nm → ∀ j, j < i + 1 → (L.getD j fi0).1 ≠ nm) := fun h j hj => by
        by_cases e : j = i
        · rw [e]; exact h
        · exact HNO.out j (by omega)
      generalize L.getD i fi0 = f at *
      obtain ⟨x, y⟩ := f
      simp only at c1 c2 HY HS
      have B2 : Hid (Below w.heap.size w (wr.alloc (.cells #[.string x, .string y] 72))) := B1.out.alloc B1.out.size _
      by_cases he : x = nm
      · obtain ⟨h1, h2⟩ := HY.out he
        subst h1 h2
        have heb := str_eq he
        clear he HY HS
        go_wp2
        go_ret2
        exact ⟨rfl, B2.out⟩
      · have heb := str_ne he
        have HS2 : Hid (∀ j, j < i + 1 → (L.getD j fi0).1 ≠ nm) := HS.out he
        clear he HY HS
        go_wp2
        go_roundw
        case rel => exact ⟨i + 1, by omega, by first | rfl | go_num, HS2.out, B2.out⟩
        case measure => simp [intOf]; omega
    · have hin : ¬ ((i : Int) < ln) := by omega
      have hE : dv = ⟨#[]⟩ ∧ hv = false := by
        rcases HV.out with ⟨h1, h2, -⟩ | ⟨k, hk, -, -, h3, -⟩
        · exact ⟨h2, h1⟩
        · exact absurd h3 (HNO.out k (by rw [HN.out] at hk; omega))
      obtain ⟨h1, h2⟩ := hE
      subst h1 h2
      go_wp2
      go_ret2
      exact ⟨rfl, B1.out⟩
/-- What is read of a file. -/
def rdD (L S : List FI) (O : List OP) (n : ByteArray) : ByteArray := if dskB L S O then datF L n else ⟨#[]⟩
def rdB (L S : List FI) (O : List OP) (n : ByteArray) : Bool := dskB L S O && hasF L n

set_option maxHeartbeats 1000000 in
theorem implRead_any (la sa oa : Option Addr) (lc sc oc ln sn on : Nat) (L S : List FI) (O : List OP) (nm : ByteArray) (w : World) (hD : DAt w la sa oa L S O) (hK : DskOk L S O) (hLn : L.length = ln) (hSn : S.length = sn) (hOn : O.length = on) :
    Calls Try.prog 28 #[.agg #[.slice la ln lc, .slice sa sn sc, .slice oa on oc], .string nm] w fun e w' => e = .returned (.tuple #[.string (rdD L S O nm), .bool (rdB L S O nm)]) ∧ Below w.heap.size w w' := by
  have B0 : Hid (Below w.heap.size w (w.alloc (.cells #[.slice la ln lc, .slice sa sn sc, .slice oa on oc] 31))) := (Below.refl _ _).alloc (Nat.le_refl _) _
  have R0 : Hid ((w.alloc (.cells #[.slice la ln lc, .slice sa sn sc, .slice oa on oc] 31)).heap[w.heap.size]? = some (.cells #[.slice la ln lc, .slice sa sn sc, .slice oa on oc] 31 (0, 0))) := heap_alloc_new _ _
  obtain ⟨c0, c1, c2⟩ := cells3 R0.out
  have bl := hK.ln
  have ID : Hid (∀ W, Below w.heap.size w W → Calls Try.prog 12 #[.agg #[.slice la ln lc, .slice sa sn sc, .slice oa on oc]] W fun e w' => e = .returned (.bool (dskB L S O)) ∧ Below W.heap.size W w') := fun W hW => implDisk_any la sa oa lc sc oc ln sn on L S O W (hD.below hW) hK hLn hSn hOn
  have FO : Hid (∀ W, Below w.heap.size w W → Calls Try.prog 54 #[.agg #[.slice la ln lc, .slice sa sn sc, .slice oa on oc], .string nm] W fun e w' => e = .returned (.tuple #[.string (datF L nm), .bool (hasF L nm)]) ∧ Below W.heap.size W w') := fun W hW => fileOf_any la sa oa lc sc oc ln sn on L nm W (hD.l.below hW) hLn (by omega)
  unfold rdD rdB
  clear hD hK
  cases hd : dskB L S O
  · rw [hd] at ID
    go_enter Try.func28, Try.ntmps28
    go_wp2_with fail
    refine (ID.out _ B0.out).mono ?_
    rintro e w1 ⟨rfl, hb1⟩
    have B1 : Hid (Below w.heap.size w w1) := B0.out.trans (hb1.mono B0.out.size)
    clear hb1
    go_wp2
    go_ret2
    exact ⟨rfl, B1.out⟩
  · rw [hd] at ID
    rw [if_pos rfl, Bool.true_and]
    obtain ⟨dv, HDV⟩ : ∃ d, Hid (datF L nm = d) := ⟨_, rfl⟩
    obtain ⟨hv, HHV⟩ : ∃ d, Hid (hasF L nm = d) := ⟨_, rfl⟩
    rw [HDV.out, HHV.out] at FO ⊢
    go_enter Try.func28, Try.ntmps28
    go_wp2_with fail
    refine (ID.out _ B0.out).mono ?_
    rintro e w1 ⟨rfl, hb1⟩
    have B1 : Hid (Below w.heap.size w w1) := B0.out.trans (hb1.mono B0.out.size)
    obtain ⟨d0, d1, d2⟩ := cells3 (below_row hb1 (row_lt R0.out) R0.out)
    clear hb1 c0 c1 c2
    go_wp2_with fail
    refine (FO.out w1 B1.out).mono ?_
    rintro e w2 ⟨rfl, hb2⟩
    have B2 : Hid (Below w.heap.size w w2) := B1.out.trans (hb2.mono B1.out.size)
    clear hb2
    go_wp2
    go_ret2
    exact ⟨rfl, B2.out⟩

set_option maxHeartbeats 1000000 in
theorem specRead_any (la sa oa : Option Addr) (lc sc oc ln sn on : Nat) (L S : List FI) (O : List OP) (nm : ByteArray) (w : World) (hD : DAt w la sa oa L S O) (hK : DskOk L S O) (hLn : L.length = ln) (hSn : S.length = sn) (hOn : O.length = on) :
    Calls Try.prog 27 #[.agg #[.slice la ln lc, .slice sa sn sc, .slice oa on oc], .string nm] w fun e w' => e = .returned (.tuple #[.string (rdD L S O nm), .bool (rdB L S O nm)]) ∧ Below w.heap.size w w' := by
  have B0 : Hid (Below w.heap.size w (w.alloc (.cells #[.slice la ln lc, .slice sa sn sc, .slice oa on oc] 31))) := (Below.refl _ _).alloc (Nat.le_refl _) _
  have R0 : Hid ((w.alloc (.cells #[.slice la ln lc, .slice sa sn sc, .slice oa on oc] 31)).heap[w.heap.size]? = some (.cells #[.slice la ln lc, .slice sa sn sc, .slice oa on oc] 31 (0, 0))) := heap_alloc_new _ _
  obtain ⟨c0, c1, c2⟩ := cells3 R0.out
  have bl := hK.ln
  have ID : Hid (∀ W, Below w.heap.size w W → Calls Try.prog 10 #[.agg #[.slice la ln lc, .slice sa sn sc, .slice oa on oc]] W fun e w' => e = .returned (.bool (dskB L S O)) ∧ Below W.heap.size W w') := fun W hW => specDisk_at la sa oa lc sc oc ln sn on L S O W (hD.below hW) hK hLn hSn hOn
  have LA : Hid (∀ W, Below w.heap.size w W → Calls Try.prog 53 #[.slice la ln lc, .string nm] W fun e w' => e = .returned (.int .i64 (atF L nm)) ∧ w' = W) := fun W hW => by
    have := l12At_any la lc L nm W (hD.l.below hW) (by omega)
    rw [hLn] at this
    exact this
  have HL : Hid (FilesAt w la L) := hD.l
  unfold rdD rdB
  clear hD hK
  cases hd : dskB L S O
  · rw [hd] at ID
    go_enter Try.func27, Try.ntmps27
    go_wp2_with fail
    refine (ID.out _ B0.out).mono ?_
    rintro e w1 ⟨rfl, hb1⟩
    have B1 : Hid (Below w.heap.size w w1) := B0.out.trans (hb1.mono B0.out.size)
    clear hb1
    go_wp2
    go_ret2
    exact ⟨rfl, B1.out⟩
  · rw [hd] at ID
    rw [if_pos rfl, Bool.true_and]
    rcases atF_or L nm with ⟨h1, h2, h3⟩ | ⟨i, hi, h1, h2, h3⟩
    · rw [h2, h3]
      rw [h1] at LA
      go_enter Try.func27, Try.ntmps27
      go_wp2_with fail
      refine (ID.out _ B0.out).mono ?_
      rintro e w1 ⟨rfl, hb1⟩
      have B1 : Hid (Below w.heap.size w w1) := B0.out.trans (hb1.mono B0.out.size)
      obtain ⟨d0, d1, d2⟩ := cells3 (below_row hb1 (row_lt R0.out) R0.out)
      clear hb1 c0 c1 c2
      go_wp2_with fail
      refine (LA.out w1 B1.out).mono ?_
      rintro e w2 ⟨rfl, hw⟩
      subst hw
      go_wp2
      go_ret2
      exact ⟨rfl, B1.out⟩
    · rw [h2, h3]
      rw [h1] at LA
      have hi' : (i : Int) < ln := by omega
      go_enter Try.func27, Try.ntmps27
      go_wp2_with fail
      refine (ID.out _ B0.out).mono ?_
      rintro e w1 ⟨rfl, hb1⟩
      have B1 : Hid (Below w.heap.size w w1) := B0.out.trans (hb1.mono B0.out.size)
      obtain ⟨d0, d1, d2⟩ := cells3 (below_row hb1 (row_lt R0.out) R0.out)
      clear hb1 c0 c1 c2
      go_wp2_with fail
      refine (LA.out w1 B1.out).mono ?_
      rintro e w2 ⟨rfl, hw⟩
      subst hw
      obtain ⟨b, off, e, p1, p2⟩ := (HL.out.below B1.out) i hi
      subst e
      obtain ⟨y, HY⟩ : ∃ y, Hid ((L.getD i fi0).2 = y) := ⟨_, rfl⟩
      rw [HY.out] at p2
      clear p1 h2 h3
      go_wp2
      go_ret2
      exact ⟨by rw [HY.out]; rfl, B1.out⟩

end Go.Proofs.Ytighhcdlgjaacaa

namespace Go.Proofs.Ytighhcdlgjaacaa
open Go.RowKit

set_option maxHeartbeats 4000000 in
set_option maxRecDepth 20000 in
theorem replacing_any (n d : ByteArray) (hn : n.size ≤ 1048576) (la sa oa : Option Addr) (lc sc oc ln sn on rn : Nat) (L : List FI) (w : World) (hL : FilesAt w la L) (hLn : L.length = ln) (bl : ln ≤ 1048576) (hr : (repO L n d).length = rn) :
    Calls Try.prog 56 #[.agg #[.slice la ln lc, .slice sa sn sc, .slice oa on oc], .string n, .string d] w fun e w' => ∃ a c, e = .returned (.slice a rn c) ∧ Below w.heap.size w w' ∧ w'.ownsRow w.heap.size 40 4 (.slice a rn c) rn (rowO (repO L n d)) := by
  have B0 : Hid (Below w.heap.size w (w.alloc (.cells #[.slice la ln lc, .slice sa sn sc, .slice oa on oc] 31))) := (Below.refl _ _).alloc (Nat.le_refl _) _
  have R0 : Hid ((w.alloc (.cells #[.slice la ln lc, .slice sa sn sc, .slice oa on oc] 31)).heap[w.heap.size]? = some (.cells #[.slice la ln lc, .slice sa sn sc, .slice oa on oc] 31 (0, 0))) := heap_alloc_new _ _
  obtain ⟨c0, c1, c2⟩ := cells3 R0.out
  have B1 : Hid (Below w.heap.size w ((w.alloc (.cells #[.slice la ln lc, .slice sa sn sc, .slice oa on oc] 31)).alloc (.cells #[.int .i64 1, .string (n ++ ⟨#[46, 110, 101, 119]⟩), .string ⟨#[]⟩, .string d, .int .i64 2, .string (n ++ ⟨#[46, 110, 101, 119]⟩), .string n, .string ⟨#[]⟩] 40))) := B0.out.alloc B0.out.size _
  have R1 : Hid (((w.alloc (.cells #[.slice la ln lc, .slice sa sn sc, .slice oa on oc] 31)).alloc (.cells #[.int .i64 1, .string (n ++ ⟨#[46, 110, 101, 119]⟩), .string ⟨#[]⟩, .string d, .int .i64 2, .string (n ++ ⟨#[46, 110, 101, 119]⟩), .string n, .string ⟨#[]⟩] 40)).heap[w.heap.size + 1]? = some (.cells #[.int .i64 1, .string (n ++ ⟨#[46, 110, 101, 119]⟩), .string ⟨#[]⟩, .string d, .int .i64 2, .string (n ++ ⟨#[46, 110, 101, 119]⟩), .string n, .string ⟨#[]⟩] 40 (0, 0))) := heap_alloc2_new _ _ _
  have O1 : Hid (((w.alloc (.cells #[.slice la ln lc, .slice sa sn sc, .slice oa on oc] 31)).alloc (.cells #[.int .i64 1, .string (n ++ ⟨#[46, 110, 101, 119]⟩), .string ⟨#[]⟩, .string d, .int .i64 2, .string (n ++ ⟨#[46, 110, 101, 119]⟩), .string n, .string ⟨#[]⟩] 40)).ownsRow w.heap.size 40 4 (.slice (some ⟨w.heap.size + 1, 0, none⟩) 2 2) 2 (rowO [⟨1, dft n, ⟨#[]⟩, d⟩, ⟨2, dft n, n, ⟨#[]⟩⟩])) := ⟨rfl, .inr ⟨w.heap.size + 1, 2, #[.int .i64 1, .string (n ++ ⟨#[46, 110, 101, 119]⟩), .string ⟨#[]⟩, .string d, .int .i64 2, .string (n ++ ⟨#[46, 110, 101, 119]⟩), .string n, .string ⟨#[]⟩], rfl, by omega, R1.out, Nat.le_refl _, by unfold maxLen; omega, rfl, rfl⟩⟩
  have FO : Hid (∀ W, Below w.heap.size w W → ∀ b, hasF L (dft n) = b → Calls Try.prog 54 #[.agg #[.slice la ln lc, .slice sa sn sc, .slice oa on oc], .string (n ++ ⟨#[46, 110, 101, 119]⟩)] W fun e w' => e = .returned (.tuple #[.string (datF L (dft n)), .bool b]) ∧ Below W.heap.size W w') := fun W hW b hb => by
    rw [← hb]
    exact fileOf_any la sa oa lc sc oc ln sn on L (dft n) W (hL.below hW) hLn bl
  have IN : Hid (∀ (W : World) vb, W.ownsRow w.heap.size 40 4 (.slice (some ⟨w.heap.size + 1, 0, none⟩) 2 2) 2 (rowO [⟨1, dft n, ⟨#[]⟩, d⟩, ⟨2, dft n, n, ⟨#[]⟩⟩]) → w.heap.size + 1 < vb → w.heap.size ≤ W.heap.size → W.heap[vb]? = some (.cells #[.int .i64 3, .string (n ++ ⟨#[46, 110, 101, 119]⟩), .string ⟨#[]⟩, .string ⟨#[]⟩] 40 (0, 0)) → Calls Try.prog 75 #[.slice (some ⟨w.heap.size + 1, 0, none⟩) 2 2, .int .i64 0, .slice (some ⟨vb, 0, none⟩) 1 1] W fun e w' => ∃ a c, e = .returned (.slice a 3 c) ∧ Below w.heap.size W w' ∧ w'.ownsRow w.heap.size 40 4 (.slice a 3 c) 3 (rowO [⟨3, dft n, ⟨#[]⟩, ⟨#[]⟩⟩, ⟨1, dft n, ⟨#[]⟩, d⟩, ⟨2, dft n, n, ⟨#[]⟩⟩])) := fun W vb ho hlt hbw hr => by
    refine (insertO _ 0 vb w.heap.size 2 _ [.int .i64 3, .string (n ++ ⟨#[46, 110, 101, 119]⟩), .string ⟨#[]⟩, .string ⟨#[]⟩] W rfl rfl (rowO_one _) (by simp [Value.oneCell']) ho hbw hr (fun e => by have : w.heap.size + 1 = vb := Option.some.inj e; omega) (by omega) (by omega)).mono ?_
    rintro e w' ⟨sl, rfl, hg, hown⟩
    obtain ⟨a, c, rfl⟩ := own_anyV hown
    exact ⟨a, c, rfl, ⟨hg.os, hg.tape, hg.output, hg.size, fun k hk => hg.block k (by omega) (fun e => by have : k = w.heap.size + 1 := Option.some.inj e; omega)⟩, hown⟩
  clear hL hLn
  cases hh : hasF L (dft n)
  · have e0 : repO L n d = [⟨1, dft n, ⟨#[]⟩, d⟩, ⟨2, dft n, n, ⟨#[]⟩⟩] := by unfold repO; rw [hh]; rfl
    rw [e0] at hr ⊢
    have hr : 2 = rn := hr
    subst hr
    clear e0
    go_enter Try.func56, Try.ntmps56
    go_wp2_with fail
    refine (FO.out _ B1.out _ hh).mono ?_
    rintro e w2 ⟨rfl, hb2⟩
    have B2 : Hid (Below w.heap.size w w2) := B1.out.trans (hb2.mono B1.out.size)
    have O2 : Hid (w2.ownsRow w.heap.size 40 4 (.slice (some ⟨w.heap.size + 1, 0, none⟩) 2 2) 2 (rowO [⟨1, dft n, ⟨#[]⟩, d⟩, ⟨2, dft n, n, ⟨#[]⟩⟩])) := own_blw O1.out hb2
    clear hb2 c0 c1 c2
    go_wp2
    go_ret
    exact ⟨_, _, rfl, B2.out, O2.out⟩
  have e0 : repO L n d = [⟨3, dft n, ⟨#[]⟩, ⟨#[]⟩⟩, ⟨1, dft n, ⟨#[]⟩, d⟩, ⟨2, dft n, n, ⟨#[]⟩⟩] := by unfold repO; rw [hh]; rfl
  rw [e0] at hr ⊢
  have hr : 3 = rn := hr
  subst hr
  clear e0
  go_enter Try.func56, Try.ntmps56
  go_wp2_with fail
  refine (FO.out _ B1.out _ hh).mono ?_
  rintro e w2 ⟨rfl, hb2⟩
  have B2 : Hid (Below w.heap.size w w2) := B1.out.trans (hb2.mono B1.out.size)
  have hlt : Hid (w.heap.size + 1 < w2.heap.size) := Nat.lt_of_lt_of_le (row_lt R1.out) hb2.size
  have B3 : Hid (Below w.heap.size w (w2.alloc (.cells #[.int .i64 3, .string (n ++ ⟨#[46, 110, 101, 119]⟩), .string ⟨#[]⟩, .string ⟨#[]⟩] 40))) := B2.out.alloc B2.out.size _
  have O3 : Hid ((w2.alloc (.cells #[.int .i64 3, .string (n ++ ⟨#[46, 110, 101, 119]⟩), .string ⟨#[]⟩, .string ⟨#[]⟩] 40)).ownsRow w.heap.size 40 4 (.slice (some ⟨w.heap.size + 1, 0, none⟩) 2 2) 2 (rowO [⟨1, dft n, ⟨#[]⟩, d⟩, ⟨2, dft n, n, ⟨#[]⟩⟩])) := own_blw (own_blw O1.out hb2) ((Below.refl _ _).alloc (Nat.le_refl _) _)
  clear hb2 c0 c1 c2
  go_wp2_with fail
  refine (IN.out _ _ O3.out hlt.out B3.out.size (heap_alloc_new _ _)).mono ?_
  rintro e w4 ⟨a, c, rfl, hb4, hown⟩
  have B4 : Hid (Below w.heap.size w w4) := B3.out.trans hb4
  have O4 : Hid (w4.ownsRow w.heap.size 40 4 (.slice a 3 c) 3 (rowO [⟨3, dft n, ⟨#[]⟩, ⟨#[]⟩⟩, ⟨1, dft n, ⟨#[]⟩, d⟩, ⟨2, dft n, n, ⟨#[]⟩⟩])) := hown
  clear hb4 hown
  go_wp2
  go_ret
  exact ⟨_, _, rfl, B4.out, O4.out⟩

end Go.Proofs.Ytighhcdlgjaacaa
