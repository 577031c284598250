import Derived.Test.YtighhcdlgjaacaaPack12
import Derived.Test.YtighhcdlgjaacaaPack15
namespace Go.Proofs.Ytighhcdlgjaacaa
open Go.RowKit

set_option maxHeartbeats 1000000 in
theorem szDOpS_any (a : Option Addr) (c : Nat) (F : List OP) (l : Int) (w : World) (hF : OpsAt w a F) (h0 : 0 ≤ l) (h1 : l ≤ 1048576) (hn : F.length ≤ 9223372036854775807) (hT : TxO F) :
    Calls Try.prog 32 #[.slice a F.length c, .int .i64 l] w fun e w' => e = .returned (.int .i64 (szU l (F.length + useO F F.length))) ∧ Below w.heap.size w w' := by
  have HF : Hid (OpsAt w a F) := hF
  have HT : Hid (TxO F) := hT
  clear hF hT
  obtain ⟨r, HR⟩ : ∃ r, Hid (szU l (F.length + useO F F.length) = r) := ⟨_, rfl⟩
  rw [HR.out]
  obtain ⟨n, HN⟩ : ∃ n, Hid (F.length = n) := ⟨_, rfl⟩
  rw [HN.out] at hn HR ⊢
  by_cases hl : (n : Int) ≤ l
  · have hl' : ¬ (l - n < 0) := by omega
    go_enter Try.func32, Try.ntmps32
    go_wp2_with fail
    go_loopw [1, 5] (fun tl ti wr => ∃ i : Nat, i ≤ n ∧ ti = .int .i64 i ∧ tl = .int .i64 (l - n - (useO F i : Nat)) ∧ 0 ≤ l - n - (useO F i : Nat) ∧ Below w.heap.size w wr) (fun _ ti _ => n - (intOf ti).toNat)
    case atStart => exact ⟨0, Nat.zero_le _, rfl, by simp [useO], by simp [useO]; omega, Below.refl _ _⟩
    case round =>
      obtain ⟨i, hi, rfl, rfl, hu, hb⟩ := hrel
      have B1 : Hid (Below w.heap.size w wr) := hb
      clear hb
      by_cases hlt : i < n
      · have hin : (i : Int) < n := by omega
        have hiF : i < F.length := by rw [HN.out]; exact hlt
        obtain ⟨b, off, e, c0, c1, c2, c3⟩ := (HF.out.below B1.out) i hiF
        subst e
        obtain ⟨t1, t2, t3⟩ := HT.out i hiF
        have HU1 : Hid (useO F (i + 1) = useO F i + ((F.getD i op0).n.size + (F.getD i op0).t.size + (F.getD i op0).d.size)) := rfl
        have hmono := useO_mono F hlt
        have HNO : Hid (l - n < (useO F (i + 1) : Nat) → r = -1) := fun h => by
          rw [← HR.out]; unfold szU; rw [if_neg]
          have : useO F (i + 1) ≤ useO F n := hmono
          omega
        rw [HU1.out] at HNO
        clear hmono
        generalize F.getD i op0 = f at *
        obtain ⟨fk, x, y, z⟩ := f
        simp only at c0 c1 c2 c3 t1 t2 t3 HU1 HNO
        obtain ⟨li, HLI⟩ : ∃ v, Hid (l - n - (useO F i : Nat) = v) := ⟨_, rfl⟩
        have hli1 : li ≤ 1048576 := by rw [← HLI.out]; omega
        have SZ : Hid (∀ v, szU li (x.size + y.size + z.size) = v → Calls Try.prog 14 #[.agg #[.int .i64 fk, .string x, .string y, .string z], .int .i64 li] wr fun e w' => e = .returned (.int .i64 v) ∧ Below wr.heap.size wr w') := fun v hv => by
          have := szDOp_any ⟨fk, x, y, z⟩ li wr (by rw [← HLI.out]; exact hu) hli1 t1 t2 t3
          rw [hv] at this
          exact this
        rw [HLI.out] at hu ⊢
        by_cases hc : (x.size : Int) + y.size + z.size ≤ li
        · have hv : szU li (x.size + y.size + z.size) = li - ((x.size + y.size + z.size : Nat) : Int) := by unfold szU; rw [if_pos (by omega)]
          have hp : ¬ (li - ((x.size + y.size + z.size : Nat) : Int) < 0) := by omega
          have HE : Hid (l - n - (useO F (i + 1) : Nat) = li - ((x.size + y.size + z.size : Nat) : Int)) := by show _ = _; rw [HU1.out, ← HLI.out]; omega
          have hp0 : 0 ≤ li - ((x.size + y.size + z.size : Nat) : Int) := by omega
          generalize li - ((x.size + y.size + z.size : Nat) : Int) = v at *
          go_wp2_with fail
          refine (SZ.out v hv).mono ?_
          rintro e w2 ⟨rfl, hb2⟩
          have B2 : Hid (Below w.heap.size w w2) := B1.out.trans (hb2.mono B1.out.size)
          clear hb2
          go_wp2
          go_roundw
          case rel => exact ⟨i + 1, by omega, by first | rfl | go_num, by rw [HE.out], by rw [HE.out]; exact hp0, B2.out⟩
          case measure => simp [intOf]; omega
        · have hv : szU li (x.size + y.size + z.size) = -1 := by unfold szU; rw [if_neg (by omega)]
          have hr : r = -1 := HNO.out (by rw [← HLI.out] at hc; omega)
          subst hr
          go_wp2_with fail
          refine (SZ.out (-1) hv).mono ?_
          rintro e w2 ⟨rfl, hb2⟩
          have B2 : Hid (Below w.heap.size w w2) := B1.out.trans (hb2.mono B1.out.size)
          clear hb2
          go_wp2
          go_ret
          exact ⟨rfl, B2.out⟩
      · have hin : i = n := by omega
        subst hin
        have hr : Hid (r = l - i - (useO F i : Nat)) := by show _ = _; rw [← HR.out]; unfold szU; rw [if_pos (by omega)]; omega
        generalize l - i - (useO F i : Nat) = v at *
        go_wp2
        go_ret
        exact ⟨by rw [hr.out]; rfl, B1.out⟩
  · have hl' : l - n < 0 := by omega
    have hr : r = -1 := by rw [← HR.out]; unfold szU; rw [if_neg (by omega)]
    subst hr
    go_enter Try.func32, Try.ntmps32
    go_wp2
    go_ret
    exact ⟨rfl, Below.refl _ _⟩

/-- What the sizes tell of a disk. -/
structure DskOk (L S : List FI) (O : List OP) : Prop where
  ln : L.length ≤ 1048576
  sn : S.length ≤ 1048576
  on : O.length ≤ 1048576
  lt : totL L ≤ 1048576
  st : totL S ≤ 1048576
  ls : Shrt L
  ss : Shrt S
  os : OOk O
theorem szU_pos {l : Int} {u : Nat} (h : 0 ≤ szU l u) : (u : Int) ≤ l ∧ szU l u = l - u := by
  unfold szU at h ⊢
  split at h
  · rename_i c; rw [if_pos c]; exact ⟨c, rfl⟩
  · omega
theorem szU_le {l : Int} {u : Nat} (h0 : 0 ≤ l) : szU l u ≤ l := by
  unfold szU
  split <;> omega
theorem fok_use {F : List FI} (h : F.length + useTo F F.length ≤ 1048576) : F.length ≤ 1048576 ∧ totL F ≤ 1048576 ∧ Shrt F := by
  refine ⟨by omega, ?_, fun f hf => ?_⟩
  · rw [← totTo_all]
    have := tot_use F F.length
    omega
  · obtain ⟨j, hj, e⟩ := List.getElem_of_mem hf
    have := useTo_le F F.length j hj
    rw [List.getD_eq_getElem?_getD, List.getElem?_eq_getElem hj, Option.getD_some, e] at this
    omega
theorem ook_use {O : List OP} (h : O.length + useO O O.length ≤ 1048576) : O.length ≤ 1048576 ∧ OOk O := by
  refine ⟨by omega, fun j hj => ?_⟩
  have := useO_le O O.length j hj
  omega

set_option maxHeartbeats 1000000 in
theorem szDisk_any (la sa oa : Option Addr) (lc sc oc : Nat) (L S : List FI) (O : List OP) (w : World) (hL : FilesAt w la L) (hS : FilesAt w sa S) (hO : OpsAt w oa O)
    (hLn : L.length ≤ 9223372036854775807) (hSn : S.length ≤ 9223372036854775807) (hOn : O.length ≤ 9223372036854775807) (hLt : TxF L) (hSt : TxF S) (hOt : TxO O) :
    Calls Try.prog 9 #[.agg #[.slice la L.length lc, .slice sa S.length sc, .slice oa O.length oc], .int .i64 1048576] w fun e w' => ∃ x : Int, e = .returned (.int .i64 x) ∧ x ≤ 1048576 ∧ (0 ≤ x → DskOk L S O) ∧ Below w.heap.size w w' := by
  obtain ⟨ln, HLN⟩ : ∃ n, Hid (L.length = n) := ⟨_, rfl⟩
  obtain ⟨sn, HSN⟩ : ∃ n, Hid (S.length = n) := ⟨_, rfl⟩
  obtain ⟨on, HON⟩ : ∃ n, Hid (O.length = n) := ⟨_, rfl⟩
  have ZL : Hid (∀ W l, FilesAt W la L → 0 ≤ l → l ≤ 1048576 → Calls Try.prog 31 #[.slice la ln lc, .int .i64 l] W fun e w' => e = .returned (.int .i64 (szU l (L.length + useTo L L.length))) ∧ Below W.heap.size W w') := fun W l h h0 h1 => by
    have := szFileS_any la lc L l W h h0 h1 hLn hLt
    rw [HLN.out] at this ⊢
    exact this
  have ZS : Hid (∀ W l, FilesAt W sa S → 0 ≤ l → l ≤ 1048576 → Calls Try.prog 31 #[.slice sa sn sc, .int .i64 l] W fun e w' => e = .returned (.int .i64 (szU l (S.length + useTo S S.length))) ∧ Below W.heap.size W w') := fun W l h h0 h1 => by
    have := szFileS_any sa sc S l W h h0 h1 hSn hSt
    rw [HSN.out] at this ⊢
    exact this
  have ZO : Hid (∀ W l, OpsAt W oa O → 0 ≤ l → l ≤ 1048576 → Calls Try.prog 32 #[.slice oa on oc, .int .i64 l] W fun e w' => e = .returned (.int .i64 (szU l (O.length + useO O O.length))) ∧ Below W.heap.size W w') := fun W l h h0 h1 => by
    have := szDOpS_any oa oc O l W h h0 h1 hOn hOt
    rw [HON.out] at this ⊢
    exact this
  have DK : Hid (((L.length + useTo L L.length : Nat) : Int) ≤ 1048576 → ((S.length + useTo S S.length : Nat) : Int) ≤ 1048576 → ((O.length + useO O O.length : Nat) : Int) ≤ 1048576 → DskOk L S O) := fun h1 h2 h3 => by
    obtain ⟨a1, a2, a3⟩ := fok_use (F := L) (by omega)
    obtain ⟨b1, b2, b3⟩ := fok_use (F := S) (by omega)
    obtain ⟨d1, d2⟩ := ook_use (O := O) (by omega)
    exact ⟨a1, b1, d1, a2, b2, a3, b3, d2⟩
  rw [HLN.out, HSN.out, HON.out]
  generalize L.length + useTo L L.length = ul at *
  generalize S.length + useTo S S.length = us at *
  generalize O.length + useO O O.length = uo at *
  have B0 : Hid (Below w.heap.size w (w.alloc (.cells #[.slice la ln lc, .slice sa sn sc, .slice oa on oc] 25))) := (Below.refl _ _).alloc (Nat.le_refl _) _
  have R0 : Hid ((w.alloc (.cells #[.slice la ln lc, .slice sa sn sc, .slice oa on oc] 25)).heap[w.heap.size]? = some (.cells #[.slice la ln lc, .slice sa sn sc, .slice oa on oc] 25 (0, 0))) := heap_alloc_new _ _
  obtain ⟨c0, c1, c2⟩ := cells3 R0.out
  have FL : Hid (FilesAt (w.alloc (.cells #[.slice la ln lc, .slice sa sn sc, .slice oa on oc] 25)) la L) := hL.below B0.out
  have FS : Hid (FilesAt (w.alloc (.cells #[.slice la ln lc, .slice sa sn sc, .slice oa on oc] 25)) sa S) := hS.below B0.out
  have FO : Hid (OpsAt (w.alloc (.cells #[.slice la ln lc, .slice sa sn sc, .slice oa on oc] 25)) oa O) := hO.below B0.out
  clear hL hS hO hLt hSt hOt hLn hSn hOn HLN HSN HON
  obtain ⟨x1, HX1⟩ : ∃ x, Hid (szU 1048576 ul = x) := ⟨_, rfl⟩
  go_enter Try.func9, Try.ntmps9
  go_wp2_with fail
  refine (ZL.out _ 1048576 FL.out (by omega) (by omega)).mono ?_
  rintro e w1 ⟨rfl, hb1⟩
  rw [HX1.out]
  have B1 : Hid (Below w.heap.size w w1) := B0.out.trans (hb1.mono B0.out.size)
  have R1 : Hid (w1.heap[w.heap.size]? = some (.cells #[.slice la ln lc, .slice sa sn sc, .slice oa on oc] 25 (0, 0))) := below_row hb1 (row_lt R0.out) R0.out
  obtain ⟨d0, d1, d2⟩ := cells3 R1.out
  have S1 : Hid (FilesAt w1 sa S) := FS.out.below hb1
  have O1 : Hid (OpsAt w1 oa O) := FO.out.below hb1
  clear hb1 c0 c1 c2
  by_cases h1 : x1 < 0
  · go_wp2
    go_ret
    exact ⟨-1, rfl, by omega, fun h => by omega, B1.out⟩
  have p1 : 0 ≤ x1 := by omega
  have q1 := szU_pos (l := 1048576) (u := ul) (by rw [HX1.out]; exact p1)
  have q1' : x1 ≤ 1048576 := by have := q1.2; rw [HX1.out] at this; omega
  have Q1 : Hid ((ul : Int) ≤ 1048576) := q1.1
  clear q1
  obtain ⟨x2, HX2⟩ : ∃ x, Hid (szU x1 us = x) := ⟨_, rfl⟩
  go_wp2_with fail
  refine (ZS.out w1 x1 S1.out p1 q1').mono ?_
  rintro e w2 ⟨rfl, hb2⟩
  rw [HX2.out]
  have B2 : Hid (Below w.heap.size w w2) := B1.out.trans (hb2.mono B1.out.size)
  have R2 : Hid (w2.heap[w.heap.size]? = some (.cells #[.slice la ln lc, .slice sa sn sc, .slice oa on oc] 25 (0, 0))) := below_row hb2 (row_lt R1.out) R1.out
  obtain ⟨e0, e1, e2⟩ := cells3 R2.out
  have O2 : Hid (OpsAt w2 oa O) := O1.out.below hb2
  clear hb2 d0 d1 d2
  by_cases h2 : x2 < 0
  · go_wp2
    go_ret
    exact ⟨-1, rfl, by omega, fun h => by omega, B2.out⟩
  have p2 : 0 ≤ x2 := by omega
  have q2 := szU_pos (l := x1) (u := us) (by rw [HX2.out]; exact p2)
  have q2' : x2 ≤ 1048576 := by have := q2.2; rw [HX2.out] at this; omega
  have Q2 : Hid ((us : Int) ≤ 1048576) := by show (us : Int) ≤ _; have := q2.1; omega
  clear q2
  obtain ⟨x3, HX3⟩ : ∃ x, Hid (szU x2 uo = x) := ⟨_, rfl⟩
  go_wp2_with fail
  refine (ZO.out w2 x2 O2.out p2 q2').mono ?_
  rintro e w3 ⟨rfl, hb3⟩
  rw [HX3.out]
  have B3 : Hid (Below w.heap.size w w3) := B2.out.trans (hb3.mono B2.out.size)
  clear hb3 e0 e1 e2
  by_cases h3 : x3 < 0
  · go_wp2
    go_ret
    exact ⟨-1, rfl, by omega, fun h => by omega, B3.out⟩
  have p3 : 0 ≤ x3 := by omega
  have q3 := szU_pos (l := x2) (u := uo) (by rw [HX3.out]; exact p3)
  have q3' : x3 ≤ 1048576 := by have := q3.2; rw [HX3.out] at this; omega
  have Q3 : Hid ((uo : Int) ≤ 1048576) := by show (uo : Int) ≤ _; have := q3.1; omega
  clear q3
  go_wp2
  go_ret
  exact ⟨x3, rfl, q3', fun _ => DK.out Q1.out Q2.out Q3.out, B3.out⟩

end Go.Proofs.Ytighhcdlgjaacaa
