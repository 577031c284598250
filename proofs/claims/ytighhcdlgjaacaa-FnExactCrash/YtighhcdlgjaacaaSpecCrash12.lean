import Derived.Test.YtighhcdlgjaacaaPack1
import Derived.Test.YtighhcdlgjaacaaPack12
import Derived.Test.YtighhcdlgjaacaaImplCrash12
namespace Go.Proofs.Ytighhcdlgjaacaa
open Go.RowKit

theorem l1In_v (n lo hi : Int) (w : World) (v : Bool) (hv : inB n lo hi = v) :
    Calls Try.prog 51 #[.int .i64 n, .int .i64 lo, .int .i64 hi] w fun e w' => e = .returned (.bool v) ∧ w' = w := hv ▸ l1In_any n lo hi w
theorem torO_no {k : Int} {n t d : ByteArray} {x : Nat} (h : ¬ x < d.size) : torO ⟨k, n, t, d⟩ x = ⟨k, n, t, d⟩ := by
  unfold torO
  simp only
  rw [if_neg h]
theorem wrap_same {a b : Int} (h : a = b) (h1 : -1000000000 ≤ b) (h2 : b ≤ 1000000000) : IntKind.i64.wrap a = b := by
  subst h
  exact IntWalk.i64_in _ (by omega)

set_option maxHeartbeats 8000000 in
set_option maxRecDepth 20000 in
theorem specCrash_any (la sa oa ka : Option Addr) (lc sc oc ln sn on kn kc xn : Nat) (tz : Int) (b : Bool) (L S : List FI) (O : List OP) (K : List Int) (w : World) (hD : DAt w la sa oa L S O) (hK : DskOk L S O) (hKA : IntsAt w ka K) (hLn : L.length = ln) (hSn : S.length = sn) (hOn : O.length = on) (hKn : K.length = kn) (bk : kn ≤ 1048576) (hb : crB L S O K tz = b) (hx : (crL L S O K tz).length = xn) :
    Calls Try.prog 22 #[.agg #[.slice la ln lc, .slice sa sn sc, .slice oa on oc], .slice ka kn kc, .int .i64 tz] w fun e w' => ∃ a1 c1 a2 c2, e = .returned (.tuple #[.agg #[.slice a1 xn c1, .slice a2 xn c2, .slice none 0 0], .bool b]) ∧ Below w.heap.size w w' ∧ DA w' w.heap.size (.slice a1 xn c1) (.slice a2 xn c2) (.slice none 0 0) (crL L S O K tz) (crL L S O K tz) [] := by
  have B0 : Hid (Below w.heap.size w ((w.alloc (.cells #[.slice la ln lc, .slice sa sn sc, .slice oa on oc] 31)).alloc (.cells #[.slice none 0 0, .slice none 0 0, .slice none 0 0] 31))) := ((Below.refl _ _).alloc (Nat.le_refl _) _).alloc (by simp) _
  have RA0 : Hid (((w.alloc (.cells #[.slice la ln lc, .slice sa sn sc, .slice oa on oc] 31)).alloc (.cells #[.slice none 0 0, .slice none 0 0, .slice none 0 0] 31)).heap[w.heap.size]? = some (.cells #[.slice la ln lc, .slice sa sn sc, .slice oa on oc] 31 (0, 0))) := heap_alloc2_old _ _ _
  have RB0 : Hid (((w.alloc (.cells #[.slice la ln lc, .slice sa sn sc, .slice oa on oc] 31)).alloc (.cells #[.slice none 0 0, .slice none 0 0, .slice none 0 0] 31)).heap[w.heap.size + 1]? = some (.cells #[.slice none 0 0, .slice none 0 0, .slice none 0 0] 31 (0, 0))) := heap_alloc2_new _ _ _
  have ID : Hid (∀ W, Below w.heap.size w W → ∀ y, dskB L S O = y → Calls Try.prog 10 #[.agg #[.slice la ln lc, .slice sa sn sc, .slice oa on oc]] W fun e w' => e = .returned (.bool y) ∧ Below W.heap.size W w') := fun W hW y hy => by
    rw [← hy]
    exact specDisk_at la sa oa lc sc oc ln sn on L S O W (hD.below hW) hK hLn hSn hOn
  obtain ⟨a0, a1, a2⟩ := cells3 RA0.out
  cases hd : dskB L S O
  · have hb0 : b = false := by rw [← hb]; unfold crB; rw [hd]; rfl
    have hl0 : crL L S O K tz = [] := crL_no (by rw [hb]; exact hb0)
    rw [hl0] at hx ⊢
    have hx0 : xn = 0 := hx.symm
    subst hx0
    subst hb0
    clear hl0 hx
    clear hD hK hLn hSn hOn hKA hKn bk
    go_enter Try.func22, Try.ntmps22
    go_wp2_with fail
    refine (ID.out _ B0.out _ hd).mono ?_
    rintro e w1 ⟨rfl, hb1⟩
    have B1 : Hid (Below w.heap.size w w1) := B0.out.trans (hb1.mono B0.out.size)
    have RA1 : Hid (w1.heap[w.heap.size]? = some (.cells #[.slice la ln lc, .slice sa sn sc, .slice oa on oc] 31 (0, 0))) := below_row hb1 (row_lt RA0.out) RA0.out
    have RB1 : Hid (w1.heap[w.heap.size + 1]? = some (.cells #[.slice none 0 0, .slice none 0 0, .slice none 0 0] 31 (0, 0))) := below_row hb1 (row_lt RB0.out) RB0.out
    clear hb1 a0 a1 a2 RA0 RB0 B0 ID
    obtain ⟨r0, r1, r2⟩ := cells3 RB1.out
    have rf := fun i => frozen_of_row _ _ i _ _ RB1.out
    go_wp2
    refine bodyPost_ret (v := .tuple #[.agg #[.slice none 0 0, .slice none 0 0, .slice none 0 0], .bool false]) (by simp [results, Try.results22, go_sem, r0, r1, r2]) rfl ⟨none, 0, none, 0, rfl, ?_⟩
    exact ⟨by repeat (first | with_reducible exact B1.out | refine Below.setCell ?_ (by simp <;> omega) _), da_nil⟩
  by_cases hneg : tz < 0
  · have hb0 : b = false := by rw [← hb]; unfold crB; rw [decide_eq_false (show ¬ 0 ≤ tz by omega)]; simp
    have hl0 : crL L S O K tz = [] := crL_no (by rw [hb]; exact hb0)
    rw [hl0] at hx ⊢
    have hx0 : xn = 0 := hx.symm
    subst hx0
    subst hb0
    clear hl0 hx
    clear hD hK hLn hSn hOn hKA hKn bk
    go_enter Try.func22, Try.ntmps22
    go_wp2_with fail
    refine (ID.out _ B0.out _ hd).mono ?_
    rintro e w1 ⟨rfl, hb1⟩
    have B1 : Hid (Below w.heap.size w w1) := B0.out.trans (hb1.mono B0.out.size)
    have RA1 : Hid (w1.heap[w.heap.size]? = some (.cells #[.slice la ln lc, .slice sa sn sc, .slice oa on oc] 31 (0, 0))) := below_row hb1 (row_lt RA0.out) RA0.out
    have RB1 : Hid (w1.heap[w.heap.size + 1]? = some (.cells #[.slice none 0 0, .slice none 0 0, .slice none 0 0] 31 (0, 0))) := below_row hb1 (row_lt RB0.out) RB0.out
    clear hb1 a0 a1 a2 RA0 RB0 B0 ID
    obtain ⟨r0, r1, r2⟩ := cells3 RB1.out
    have rf := fun i => frozen_of_row _ _ i _ _ RB1.out
    go_wp2
    refine bodyPost_ret (v := .tuple #[.agg #[.slice none 0 0, .slice none 0 0, .slice none 0 0], .bool false]) (by simp [results, Try.results22, go_sem, r0, r1, r2]) rfl ⟨none, 0, none, 0, rfl, ?_⟩
    exact ⟨by repeat (first | with_reducible exact B1.out | refine Below.setCell ?_ (by simp <;> omega) _), da_nil⟩
  have hcb : Hid (crB L S O K tz = (risTo K on kn && filB (crF S O K kn tz.toNat kn))) := by show _ = _; unfold crB; rw [hd, hOn, hKn, Bool.true_and, decide_eq_true (show 0 ≤ tz by omega), Bool.true_and]
  obtain ⟨hfl, hfs, h200⟩ := dsk_parts hd
  have bs : sn ≤ 60 := by rw [← hSn]; exact (filB_true.1 hfs).1
  have bo : on ≤ 200 := by rw [← hOn]; exact h200
  have HD0 : Hid (DAt w la sa oa L S O) := hD
  have HKA : Hid (IntsAt w ka K) := hKA
  have HSN : Hid (S.length = sn) := hSn
  have HON : Hid (O.length = on) := hOn
  have HKN : Hid (K.length = kn) := hKn
  have HOO : Hid (OOk O) := hK.os
  have HDD : Hid (dskB L S O = true) := hd
  have HFS : Hid (filB S = true) := hfs
  have HB : Hid (crB L S O K tz = b) := hb
  obtain ⟨X, HXL⟩ : ∃ X, Hid (crL L S O K tz = X) := ⟨_, rfl⟩
  rw [HXL.out] at hx ⊢
  have HX : Hid (X.length = xn) := hx
  have hw1 : wrap64 ((on : Int) - 1) = (on : Int) - 1 := by unfold wrap64; omega
  have hw2 : IntKind.i64.wrap ((on : Int) - 1) = (on : Int) - 1 := wrap_same rfl (by omega) (by omega)
  clear hD hKA hSn hKn hfl h200 hfs hLn hOn hK hb hx
  go_enter Try.func22, Try.ntmps22
  go_wp2_with fail
  refine (ID.out _ B0.out _ hd).mono ?_
  rintro e w1 ⟨rfl, hb1⟩
  have B1 : Hid (Below w.heap.size w w1) := B0.out.trans (hb1.mono B0.out.size)
  have RA1 : Hid (w1.heap[w.heap.size]? = some (.cells #[.slice la ln lc, .slice sa sn sc, .slice oa on oc] 31 (0, 0))) := below_row hb1 (row_lt RA0.out) RA0.out
  have RB1 : Hid (w1.heap[w.heap.size + 1]? = some (.cells #[.slice none 0 0, .slice none 0 0, .slice none 0 0] 31 (0, 0))) := below_row hb1 (row_lt RB0.out) RB0.out
  clear hb1 a0 a1 a2 RA0 RB0 B0 ID hd
  go_wp2_with fail
  go_loopw [8] (fun t wr => ∃ i : Nat, i ≤ kn ∧ t = .int .i64 i ∧ risTo K on i = true ∧ Below w1.heap.size w1 wr) (fun t _ => kn - (intOf t).toNat)
  case atStart => exact ⟨0, Nat.zero_le _, rfl, rfl, Below.refl _ _⟩
  case round =>
    obtain ⟨i, hi, rfl, hrt, hbr⟩ := hrel
    have HRT : Hid (risTo K on i = true) := hrt
    have BR : Hid (Below w.heap.size w wr) := B1.out.trans (hbr.mono B1.out.size)
    have BR1 : Hid (Below w1.heap.size w1 wr) := hbr
    have RA2 : Hid (wr.heap[w.heap.size]? = some (.cells #[.slice la ln lc, .slice sa sn sc, .slice oa on oc] 31 (0, 0))) := below_row hbr (row_lt RA1.out) RA1.out
    have RB2 : Hid (wr.heap[w.heap.size + 1]? = some (.cells #[.slice none 0 0, .slice none 0 0, .slice none 0 0] 31 (0, 0))) := below_row hbr (row_lt RB1.out) RB1.out
    clear hrt hbr
    obtain ⟨g0, g1, g2⟩ := cells3 RA2.out
    clear g0 g1
    by_cases hlt : i < kn
    · have hin : (i : Int) < kn := by omega
      obtain ⟨kb, ko, e, kc0⟩ := (HKA.out.below BR.out) i (by rw [HKN.out]; exact hlt)
      subst e
      have HST : Hid (risS K on i = decide (prvK K i < K.getD i 0 ∧ K.getD i 0 < (on : Int))) := rfl
      have HPV : Hid (prvK K i = if i = 0 then -1 else K.getD (i - 1) 0) := rfl
      have HKP : Hid (∀ m, m < kn → wr.cell? ⟨kb, ko + m, none⟩ = some (.int .i64 (K.getD m 0))) := fun m hm => by
        obtain ⟨kb', ko', e, h⟩ := (HKA.out.below BR.out) m (by rw [HKN.out]; exact hm)
        injection e with e; injection e with e1 e2 e3
        subst e1 e2
        exact h
      have HI0 : Hid (i ≠ 0 → -1 < K.getD (i - 1) 0) := fun h => by have := ris_at i HRT.out (i - 1) (by omega); omega
      have hnx : (risS K on i = false → Hid (b = false)) := fun h => by
        show b = false
        rw [← HB.out, hcb.out, risTo_step hlt h]; rfl
      obtain ⟨x, HXX⟩ : ∃ x, Hid (K.getD i 0 = x) := ⟨_, rfl⟩
      rw [HXX.out] at kc0 HST
      by_cases hin0 : inB x 0 ((on : Int) - 1) = false
      · have hno : ¬ (prvK K i < x ∧ x < (on : Int)) := by
          intro h
          have h1 := h.1
          rw [HPV.out] at h1
          have h2 : ¬ (0 ≤ x ∧ x ≤ (on : Int) - 1) := fun h3 => by rw [inB_mk h3] at hin0; cases hin0
          by_cases h0 : i = 0
          · rw [if_pos h0] at h1; omega
          · rw [if_neg h0] at h1; have := HI0.out h0; omega
        have hb0 : b = false := (hnx (by rw [HST.out]; exact decide_eq_false hno)).out
        clear hno
        have hl0 : X = [] := HXL.out.symm.trans (crL_no (by rw [HB.out]; exact hb0))
        subst hl0
        have hx0 : xn = 0 := HX.out.symm
        subst hx0
        subst hb0
        clear HX hnx HST
        go_wp2
        go_quiet ((go_at_call 51; exact Calls.quiet_of_same (l1In_v _ _ _ _ _ hin0)))
        have BD : Hid (Below w.heap.size w (wr.drewN nq)) := below_drewN BR.out nq
        have RB3 : Hid ((wr.drewN nq).heap[w.heap.size + 1]? = some (.cells #[.slice none 0 0, .slice none 0 0, .slice none 0 0] 31 (0, 0))) := RB2.out
        generalize wr.drewN nq = wd at *
        obtain ⟨r0, r1, r2⟩ := cells3 RB3.out
        have rf := fun i => frozen_of_row _ _ i _ _ RB3.out
        go_wp2
        refine bodyPost_ret (v := .tuple #[.agg #[.slice none 0 0, .slice none 0 0, .slice none 0 0], .bool false]) (by simp [results, Try.results22, go_sem, r0, r1, r2]) rfl ⟨none, 0, none, 0, rfl, ?_⟩
        exact ⟨by repeat (first | with_reducible exact BD.out | refine Below.setCell ?_ (by simp <;> omega) _), da_nil⟩
      have hin1 : inB x 0 ((on : Int) - 1) = true := by cases h : inB x 0 ((on : Int) - 1) <;> simp_all
      clear hin0
      have hin0 := hin1
      clear hin1
      have hxr := inB_true hin0
      by_cases hi0 : i = 0
      · have hi0b : ¬ ((0 : Int) < (i : Int)) := by omega
        have hdi : decide (0 < i) = false := decide_eq_false (by omega)
        have HI00 : Hid (i = 0) := hi0
        clear hi0
        have HR1 : Hid (risTo K on (i + 1) = true) := by show _ = _; rw [risTo, HRT.out, HST.out, decide_eq_true (by rw [HPV.out, if_pos HI00.out]; omega)]; rfl
        clear hnx HST HPV HI0
        go_wp2
        go_quiet ((go_at_call 51; exact Calls.quiet_of_same (l1In_v _ _ _ _ _ hin0)))
        have BD : Hid (Below w1.heap.size w1 (wr.drewN nq)) := below_drewN BR1.out nq
        go_wp2
        go_roundw
        case rel => exact ⟨i + 1, by omega, by first | rfl | go_num, HR1.out, BD.out⟩
        case measure => simp [intOf]; omega
      have hi1 : (0 : Int) < (i : Int) := by omega
      have hsub : wrap64 ((i : Int) - 1) = ((i - 1 : Nat) : Int) := by unfold wrap64; omega
      have kc1 := HKP.out (i - 1) (by omega)
      obtain ⟨y, HYY⟩ : ∃ y, Hid (K.getD (i - 1) 0 = y) := ⟨_, rfl⟩
      obtain ⟨i1, HI1⟩ : ∃ y, Hid (i - 1 = y) := ⟨_, rfl⟩
      rw [HYY.out] at kc1 HPV
      rw [HI1.out] at hsub kc1
      have hi1n : i1 < kn := by have := HI1.out; omega
      have hi1m : (i1 : Int) < (kn : Int) := by omega
      have hsub2 : IntKind.i64.wrap ((i : Int) - 1) = (i1 : Int) := wrap_same (by have := HI1.out; omega) (by omega) (by omega)
      have hdi : decide (0 < i) = true := decide_eq_true (by omega)
      by_cases hle : x ≤ y
      · have hno : ¬ (prvK K i < x ∧ x < (on : Int)) := by
          rw [HPV.out, if_neg hi0]; omega
        have hb0 : b = false := (hnx (by rw [HST.out]; exact decide_eq_false hno)).out
        clear hno
        have hl0 : X = [] := HXL.out.symm.trans (crL_no (by rw [HB.out]; exact hb0))
        subst hl0
        have hx0 : xn = 0 := HX.out.symm
        subst hx0
        subst hb0
        clear HX hnx HST
        go_wp2
        go_quiet ((go_at_call 51; exact Calls.quiet_of_same (l1In_v _ _ _ _ _ hin0)))
        have BD : Hid (Below w.heap.size w (wr.drewN nq)) := below_drewN BR.out nq
        have RB3 : Hid ((wr.drewN nq).heap[w.heap.size + 1]? = some (.cells #[.slice none 0 0, .slice none 0 0, .slice none 0 0] 31 (0, 0))) := RB2.out
        generalize wr.drewN nq = wd at *
        obtain ⟨r0, r1, r2⟩ := cells3 RB3.out
        have rf := fun i => frozen_of_row _ _ i _ _ RB3.out
        go_wp2
        refine bodyPost_ret (v := .tuple #[.agg #[.slice none 0 0, .slice none 0 0, .slice none 0 0], .bool false]) (by simp [results, Try.results22, go_sem, r0, r1, r2]) rfl ⟨none, 0, none, 0, rfl, ?_⟩
        exact ⟨by repeat (first | with_reducible exact BD.out | refine Below.setCell ?_ (by simp <;> omega) _), da_nil⟩
      have HR1 : Hid (risTo K on (i + 1) = true) := by show _ = _; rw [risTo, HRT.out, HST.out, decide_eq_true (by rw [HPV.out, if_neg hi0]; omega)]; rfl
      clear hnx HST HPV HI0
      go_wp2
      go_quiet ((go_at_call 51; exact Calls.quiet_of_same (l1In_v _ _ _ _ _ hin0)))
      have BD : Hid (Below w1.heap.size w1 (wr.drewN nq)) := below_drewN BR1.out nq
      go_wp2
      go_roundw
      case rel => exact ⟨i + 1, by omega, by first | rfl | go_num, HR1.out, BD.out⟩
      case measure => simp [intOf]; omega
    · have hin : kn = i := by omega
      subst hin
      have HRS : Hid (risTo K O.length kn = true) := by show _ = _; rw [HON.out]; exact HRT.out
      clear hlt hi hw1 hw2 g2 BR1 HRT
      have BN : Hid (Below wr.heap.size wr (wr.alloc (.cells #[] 72))) := (Below.refl _ _).alloc (Nat.le_refl _) _
      obtain ⟨g0, g1, g2⟩ := cells3 (below_row BN.out (row_lt RA2.out) RA2.out)
      have ON : Hid ((wr.alloc (.cells #[] 72)).ownsRow wr.heap.size 72 2 (.slice (some ⟨wr.heap.size, 0, none⟩) 0 0) 0 ([] : List Value)) := own_newF _
      have HFC : Hid (∀ j u, (rowF S)[j]? = some u → ∃ b off, sa = some ⟨b, off, none⟩ ∧ (wr.alloc (.cells #[] 72)).cell? ⟨b, off + j, none⟩ = some u) := (((HD0.out.s.below BR.out)).below BN.out).cells
      go_wp2_with (
        at_builtin
        refine append_opt Try.underlying28 infF32 rfl (by decide) _ rfl _ _ rfl wr.heap.size _ 0 [] rfl ON.out sa sn sc (rowF S) rfl (by rw [rowF_len, HSN.out]) HFC.out (rowF_one S) (by omega) (by omega) BN.out.size ?_
        intro v' w4 hown hg hbk hnl
        rw [List.nil_append, Nat.zero_add] at hown
        have hb4 : Below wr.heap.size wr w4 := BN.out.grown hg BN.out.size (fun k e => (ON.out.lt k e).1)
        obtain ⟨na, nc, rfl⟩ := own_anyV hown
        have O4 : Hid (w4.ownsRow w.heap.size 72 2 (.slice na sn nc) sn (rowF S)) := own_bse hown BR.out.size
        have B4 : Hid (Below w.heap.size w w4) := BR.out.trans (hb4.mono BR.out.size)
        have RA4 : Hid (w4.heap[w.heap.size]? = some (.cells #[.slice la ln lc, .slice sa sn sc, .slice oa on oc] 31 (0, 0))) := below_row hb4 (row_lt RA2.out) RA2.out
        have RB4 : Hid (w4.heap[w.heap.size + 1]? = some (.cells #[.slice none 0 0, .slice none 0 0, .slice none 0 0] 31 (0, 0))) := below_row hb4 (row_lt RB2.out) RB2.out
        clear hown hg hbk hnl hb4)
      clear BN ON HFC g0 g1 g2 RA2 RB2 BR RA1 RB1 B1
      go_loopw [9, 10] (fun tn ti wq => ∃ (i : Nat) (na : Option Addr) (fn nc : Nat), i ≤ kn ∧ ti = .int .i64 i ∧ tn = .slice na fn nc ∧ (crF S O K kn tz.toNat i).length = fn ∧ wq.ownsRow w.heap.size 72 2 (.slice na fn nc) fn (rowF (crF S O K kn tz.toNat i)) ∧ Below w4.heap.size w4 wq) (fun _ ti _ => kn - (intOf ti).toNat)
      case atStart => exact ⟨0, _, _, _, Nat.zero_le _, rfl, rfl, HSN.out, O4.out, Below.refl _ _⟩
      case round =>
        obtain ⟨i, ma, fn, mc, hi, rfl, rfl, hfn, hown, hbr⟩ := hrel

        have BR : Hid (Below w.heap.size w wr) := B4.out.trans (hbr.mono B4.out.size)
        have BR4 : Hid (Below w4.heap.size w4 wr) := hbr
        have RAr : Hid (wr.heap[w.heap.size]? = some (.cells #[.slice la ln lc, .slice sa sn sc, .slice oa on oc] 31 (0, 0))) := below_row hbr (row_lt RA4.out) RA4.out
        have RBr : Hid (wr.heap[w.heap.size + 1]? = some (.cells #[.slice none 0 0, .slice none 0 0, .slice none 0 0] 31 (0, 0))) := below_row hbr (row_lt RB4.out) RB4.out
        have HFN : Hid ((crF S O K kn tz.toNat i).length = fn) := hfn
        have HOW : Hid (wr.ownsRow w.heap.size 72 2 (.slice ma fn mc) fn (rowF (crF S O K kn tz.toNat i))) := hown
        have CK : Hid (CrK (crF S O K kn tz.toNat i) i) := crF_ok (t := tz.toNat) HDD.out HFS.out HOO.out HRS.out i hi
        have bkn : kn ≤ 200 := by have := ris_len HRS.out; have := HON.out; omega
        have bfn : fn ≤ 60 + i := by rw [← hfn]; exact CK.out.l
        have bft := CK.out.t
        clear hbr hfn hown
        by_cases hlt : i < kn
        · have hin : (i : Int) < kn := by omega
          obtain ⟨kb, ko, e, kc0⟩ := (HKA.out.below BR.out) i (by rw [HKN.out]; exact hlt)
          subst e
          have hra := ris_at kn HRS.out i hlt
          obtain ⟨j, hj⟩ : ∃ j : Nat, K.getD i 0 = j := ⟨(K.getD i 0).toNat, by omega⟩
          have HJ : Hid (K.getD i 0 = j) := hj
          rw [hj] at hra kc0
          have hjo : j < O.length := by omega
          have hjn : (j : Int) < on := by have := HON.out; omega
          obtain ⟨ob, oo, e, o0, o1, o2, o3⟩ := (HD0.out.o.below BR.out) j hjo
          subst e
          have HCO : Hid (crO O K kn tz.toNat i = if i + 1 = kn then torO (O.getD j op0) tz.toNat else O.getD j op0) := by
            show _ = _
            unfold crO
            rw [hj]
            rfl
          have HOK : Hid (OpK (crO O K kn tz.toNat i) ∧ OpK (O.getD (K.getD i 0).toNat op0)) := crO_ok (t := tz.toNat) HDD.out HOO.out HRS.out hlt
          have HO2 : Hid (OpK (O.getD j op0)) := by have := HOK.out.2; rw [hj] at this; exact this
          have HFX : Hid (crF S O K kn tz.toNat (i + 1) = doF (crF S O K kn tz.toNat i) (crO O K kn tz.toNat i)) := rfl
          generalize O.getD j op0 = o at *
          obtain ⟨k, nm, tt, dd⟩ := o
          simp only at o0 o1 o2 o3
          clear hj hra hjo
          obtain ⟨g0, g1, g2⟩ := cells3 RAr.out
          clear g0 g1
          have BZ : Below wr.heap.size wr (wr.alloc (.cells #[.int .i64 0, .string ⟨#[]⟩, .string ⟨#[]⟩, .string ⟨#[]⟩] 40)) := (Below.refl _ _).alloc (Nat.le_refl _) _
          have kz0 := (BZ.cell (p := ⟨kb, ko + i, none⟩) (block_lt_of_cell kc0)).trans kc0
          have oz0 := (BZ.cell (p := ⟨ob, oo + j * 4, none⟩) (block_lt_of_cell o0)).trans o0
          have oz1 := (BZ.cell (p := ⟨ob, oo + j * 4 + 1, none⟩) (block_lt_of_cell o1)).trans o1
          have oz2 := (BZ.cell (p := ⟨ob, oo + j * 4 + 2, none⟩) (block_lt_of_cell o2)).trans o2
          have oz3 := (BZ.cell (p := ⟨ob, oo + j * 4 + 3, none⟩) (block_lt_of_cell o3)).trans o3
          have gz2 := (BZ.cell (p := ⟨w.heap.size, 2, none⟩) (block_lt_of_cell g2)).trans g2
          clear BZ
          go_wp2_with fail
          go_region

          clear kz0 oz0 oz1 oz2 oz3 gz2 kc0 o0 o1 o2 o3 g2
          have BV : Hid (Below wr.heap.size wr ((wr.alloc (.cells #[.int .i64 k, .string nm, .string tt, .string dd] 40)).drew)) := ((Below.refl _ _).alloc (Nat.le_refl _) _).drew
          have RO : Hid (((wr.alloc (.cells #[.int .i64 k, .string nm, .string tt, .string dd] 40)).drew).heap[wr.heap.size]? = some (.cells #[.int .i64 k, .string nm, .string tt, .string dd] 40 (0, 0))) := heap_alloc_new _ _
          have B5 : Hid (Below w4.heap.size w4 ((wr.alloc (.cells #[.int .i64 k, .string nm, .string tt, .string dd] 40)).drew)) := BR4.out.trans (BV.out.mono BR4.out.size)
          have BB : Hid (w.heap.size ≤ ((wr.alloc (.cells #[.int .i64 k, .string nm, .string tt, .string dd] 40)).drew).heap.size) := (BR.out.trans (BV.out.mono BR.out.size)).size
          have OW5 : Hid (((wr.alloc (.cells #[.int .i64 k, .string nm, .string tt, .string dd] 40)).drew).ownsRow w.heap.size 72 2 (.slice ma fn mc) fn (rowF (crF S O K kn tz.toNat i))) := own_blw HOW.out BV.out
          have hbx : Hid (w4.heap.size ≤ wr.heap.size) := BR4.out.size
          obtain ⟨bx, HBX⟩ : ∃ i, Hid (wr.heap.size = i) := ⟨_, rfl⟩
          rw [HBX.out] at RO hbx ⊢
          clear BV BR4 HOW BR RAr RBr
          generalize ((wr.alloc (.cells #[.int .i64 k, .string nm, .string tt, .string dd] 40)).drew) = w5 at *
          clear HBX
          obtain ⟨F1, HF1⟩ : ∃ F, Hid (crF S O K kn tz.toNat (i + 1) = F) := ⟨_, rfl⟩
          obtain ⟨f1, HN1⟩ : ∃ n, Hid (F1.length = n) := ⟨_, rfl⟩
          have LD : Hid (∀ W d, crO O K kn tz.toNat i = ⟨k, nm, tt, d⟩ → W.ownsRow w.heap.size 72 2 (.slice ma fn mc) fn (rowF (crF S O K kn tz.toNat i)) → Calls Try.prog 34 #[.slice ma fn mc, .agg #[.int .i64 k, .string nm, .string tt, .string d]] W fun e w' => ∃ v ok, e = .returned (.tuple #[v, .bool ok]) ∧ Below W.heap.size W w' ∧ w'.ownsRow W.heap.size 72 2 v f1 (rowF F1)) := fun W d he hw => by
            obtain ⟨a', c', e', hfa⟩ := own_files hw HFN.out
            injection e' with e1 e2 e3
            subst e1
            have h := l12Do_any ma mc (crF S O K kn tz.toNat i) ⟨k, nm, tt, d⟩ W hfa (by rw [HFN.out]; omega) CK.out.r (by omega) (by have := HOK.out.1.d; rw [he] at this; simp only at this ⊢; omega)
            have hdo : doF (crF S O K kn tz.toNat i) ⟨k, nm, tt, d⟩ = F1 := by rw [← he, ← HFX.out, HF1.out]
            simp only at h
            rw [HFN.out, hdo, HN1.out] at h
            exact h.mono fun e w' ⟨v, r1, r2, r3⟩ => ⟨v, _, r1, r2, r3⟩
          clear HFX
          obtain ⟨z0, z1, z2, z3⟩ := cells4 RO.out
          have hwk : wrap64 ((kn : Int) - 1) = (kn : Int) - 1 := by unfold wrap64; omega
          have hwk2 : IntKind.i64.wrap ((kn : Int) - 1) = (kn : Int) - 1 := wrap_same rfl (by omega) (by omega)
          by_cases hl : i + 1 = kn
          · have hq : ((i : Int) == (kn : Int) - 1) = true := by simp; omega
            have HL : Hid (i + 1 = kn) := hl
            clear hl
            by_cases hk1 : k = 1
            · subst hk1
              by_cases hts : tz < dd.size
              · have hts2 : tz.toNat < dd.size := by omega
                have hce : crO O K kn tz.toNat i = ⟨1, nm, tt, dd.extract 0 tz.toNat⟩ := by rw [HCO.out, if_pos HL.out]; unfold torO; rw [if_pos hts2]
                have hbx2 : w4.heap.size ≤ bx := hbx.out
                have O7 : Hid ((w5.setCell ⟨bx, 3, none⟩ (.string (dd.extract 0 tz.toNat))).ownsRow w.heap.size 72 2 (.slice ma fn mc) fn (rowF (crF S O K kn tz.toNat i))) := own_setT OW5.out RO.out (by decide)
                have LD1 := LD.out (w5.setCell ⟨bx, 3, none⟩ (.string (dd.extract 0 tz.toNat))) _ hce O7.out
                have HLD : Hid (Calls Try.prog 34 #[.slice ma fn mc, .agg #[.int .i64 1, .string nm, .string tt, .string (dd.extract 0 tz.toNat)]] (w5.setCell ⟨bx, 3, none⟩ (.string (dd.extract 0 tz.toNat))) fun e w' => ∃ v ok, e = .returned (.tuple #[v, .bool ok]) ∧ Below (w5.setCell ⟨bx, 3, none⟩ (.string (dd.extract 0 tz.toNat))).heap.size (w5.setCell ⟨bx, 3, none⟩ (.string (dd.extract 0 tz.toNat))) w' ∧ w'.ownsRow (w5.setCell ⟨bx, 3, none⟩ (.string (dd.extract 0 tz.toNat))).heap.size 72 2 v f1 (rowF F1)) := LD1
                have B7 : Hid (Below w4.heap.size w4 (w5.setCell ⟨bx, 3, none⟩ (.string (dd.extract 0 tz.toNat)))) := B5.out.setCell hbx2 _
                have BB7 : Hid (w.heap.size ≤ (w5.setCell ⟨bx, 3, none⟩ (.string (dd.extract 0 tz.toNat))).heap.size) := Nat.le_trans BB.out (Below.setCell (Below.refl 0 w5) (Nat.zero_le _) _).size
                have RO7 : (w5.setCell ⟨bx, 3, none⟩ (.string (dd.extract 0 tz.toNat))).heap[bx]? = some (.cells #[.int .i64 1, .string nm, .string tt, .string (dd.extract 0 tz.toNat)] 40 (0, 0)) := by have := heap_setCell_same w5 bx 3 _ _ (.string (dd.extract 0 tz.toNat)) RO.out; simpa using this
                have rf := fun i => frozen_of_row _ _ i _ _ RO.out
                obtain ⟨y0, y1, y2, y3⟩ := cells4 RO7
                clear LD1 hce HCO LD hbx2 RO7 O7
                go_wp2_with fail
                refine HLD.out.mono ?_
                rintro e w6 ⟨v, ok, rfl, hb6, ho6⟩
                obtain ⟨va, vc, rfl⟩ := own_anyV ho6
                have B6 : Hid (Below w4.heap.size w4 w6) := B7.out.trans (hb6.mono B7.out.size)
                have O6 : Hid (w6.ownsRow w.heap.size 72 2 (.slice va f1 vc) f1 (rowF F1)) := own_bse ho6 BB7.out
                clear hb6 ho6
                go_wp2
                go_roundw
                case rel => exact ⟨i + 1, va, f1, vc, by omega, by first | rfl | go_num, rfl, by rw [HF1.out]; exact HN1.out, by rw [HF1.out]; exact O6.out, B6.out⟩
                case measure => simp [intOf]; omega
              have HT2 : Hid (¬ tz.toNat < dd.size) := by show ¬ _; omega
              have hdt : decide (tz < (dd.size : Int)) = false := decide_eq_false hts
              clear hts
              have hce : crO O K kn tz.toNat i = ⟨1, nm, tt, dd⟩ := by rw [HCO.out]; rw [if_pos HL.out]; exact torO_no HT2.out
              have LD1 : Hid (Calls Try.prog 34 #[.slice ma fn mc, .agg #[.int .i64 1, .string nm, .string tt, .string dd]] w5 fun e w' => ∃ v ok, e = .returned (.tuple #[v, .bool ok]) ∧ Below w5.heap.size w5 w' ∧ w'.ownsRow w5.heap.size 72 2 v f1 (rowF F1)) := LD.out w5 dd hce OW5.out
              clear hce HCO LD
              go_wp2_with fail
              refine LD1.out.mono ?_
              rintro e w6 ⟨v, ok, rfl, hb6, ho6⟩
              obtain ⟨va, vc, rfl⟩ := own_anyV ho6
              have B6 : Hid (Below w4.heap.size w4 w6) := B5.out.trans (hb6.mono B5.out.size)
              have O6 : Hid (w6.ownsRow w.heap.size 72 2 (.slice va f1 vc) f1 (rowF F1)) := own_bse ho6 BB.out
              clear hb6 ho6
              go_wp2
              go_roundw
              case rel => exact ⟨i + 1, va, f1, vc, by omega, by first | rfl | go_num, rfl, by rw [HF1.out]; exact HN1.out, by rw [HF1.out]; exact O6.out, B6.out⟩
              case measure => simp [intOf]; omega
            have hkb : (k == 1) = false := by simp [hk1]
            have hce : crO O K kn tz.toNat i = ⟨k, nm, tt, dd⟩ := by rw [HCO.out]; rw [if_pos HL.out]; have h := frm_data HO2.out.f hk1; simp only at h; unfold torO; rw [h]; rfl
            have LD1 : Hid (Calls Try.prog 34 #[.slice ma fn mc, .agg #[.int .i64 k, .string nm, .string tt, .string dd]] w5 fun e w' => ∃ v ok, e = .returned (.tuple #[v, .bool ok]) ∧ Below w5.heap.size w5 w' ∧ w'.ownsRow w5.heap.size 72 2 v f1 (rowF F1)) := LD.out w5 dd hce OW5.out
            clear hce HCO LD
            go_wp2_with fail
            refine LD1.out.mono ?_
            rintro e w6 ⟨v, ok, rfl, hb6, ho6⟩
            obtain ⟨va, vc, rfl⟩ := own_anyV ho6
            have B6 : Hid (Below w4.heap.size w4 w6) := B5.out.trans (hb6.mono B5.out.size)
            have O6 : Hid (w6.ownsRow w.heap.size 72 2 (.slice va f1 vc) f1 (rowF F1)) := own_bse ho6 BB.out
            clear hb6 ho6
            go_wp2
            go_roundw
            case rel => exact ⟨i + 1, va, f1, vc, by omega, by first | rfl | go_num, rfl, by rw [HF1.out]; exact HN1.out, by rw [HF1.out]; exact O6.out, B6.out⟩
            case measure => simp [intOf]; omega
          have hq : ((i : Int) == (kn : Int) - 1) = false := by simp; omega
          have hce : crO O K kn tz.toNat i = ⟨k, nm, tt, dd⟩ := by rw [HCO.out]; rw [if_neg hl]
          have LD1 : Hid (Calls Try.prog 34 #[.slice ma fn mc, .agg #[.int .i64 k, .string nm, .string tt, .string dd]] w5 fun e w' => ∃ v ok, e = .returned (.tuple #[v, .bool ok]) ∧ Below w5.heap.size w5 w' ∧ w'.ownsRow w5.heap.size 72 2 v f1 (rowF F1)) := LD.out w5 dd hce OW5.out
          clear hce HCO LD
          go_wp2_with fail
          refine LD1.out.mono ?_
          rintro e w6 ⟨v, ok, rfl, hb6, ho6⟩
          obtain ⟨va, vc, rfl⟩ := own_anyV ho6
          have B6 : Hid (Below w4.heap.size w4 w6) := B5.out.trans (hb6.mono B5.out.size)
          have O6 : Hid (w6.ownsRow w.heap.size 72 2 (.slice va f1 vc) f1 (rowF F1)) := own_bse ho6 BB.out
          clear hb6 ho6
          go_wp2
          go_roundw
          case rel => exact ⟨i + 1, va, f1, vc, by omega, by first | rfl | go_num, rfl, by rw [HF1.out]; exact HN1.out, by rw [HF1.out]; exact O6.out, B6.out⟩
          case measure => simp [intOf]; omega
        · have hin : kn = i := by omega
          subst hin
          have hrk : risTo K on kn = true := by have := HRS.out; rw [HON.out] at this; exact this
          have HCB : Hid (crB L S O K tz = filB (crF S O K kn tz.toNat kn)) := by show _ = _; rw [hcb.out, hrk, Bool.true_and]
          obtain ⟨F, HF⟩ : ∃ F, Hid (crF S O K kn tz.toNat kn = F) := ⟨_, rfl⟩
          rw [HF.out] at HFN HOW CK HCB bft
          have HXF : Hid (filB F = true → X = F) := fun h => by rw [← HXL.out, crL_yes (by rw [HCB.out]; exact h), HKN.out]; exact HF.out
          have LFi : Hid (∀ y, filB F = y → Calls Try.prog 33 #[.slice ma fn mc] wr fun e w' => e = .returned (.bool y) ∧ Below wr.heap.size wr w') := fun y hy => by
            obtain ⟨a', c', e', hfa⟩ := own_files HOW.out HFN.out
            injection e' with e1 e2 e3
            subst e1
            have h := l12Files_any ma mc F wr hfa (by rw [HFN.out]; omega) (by rw [totTo_all]; omega) (fun j hj => shrt_at CK.out.shrt j hj)
            rw [HFN.out, hy] at h
            exact h
          clear hrk hlt hi RAr BR4
          cases hff : filB F
          · have hb0 : b = false := by rw [← HB.out, HCB.out]; exact hff
            have hl0 : X = [] := HXL.out.symm.trans (crL_no (by rw [HCB.out]; exact hff))
            subst hl0
            have hx0 : xn = 0 := HX.out.symm
            subst hx0
            subst hb0
            clear HX
            go_wp2_with fail
            refine (LFi.out _ hff).mono ?_
            rintro e w6 ⟨rfl, hb6⟩
            have B6 : Hid (Below w.heap.size w w6) := BR.out.trans (hb6.mono BR.out.size)
            have RB6 : Hid (w6.heap[w.heap.size + 1]? = some (.cells #[.slice none 0 0, .slice none 0 0, .slice none 0 0] 31 (0, 0))) := below_row hb6 (row_lt RBr.out) RBr.out
            clear hb6
            obtain ⟨r0, r1, r2⟩ := cells3 RB6.out
            have rf := fun i => frozen_of_row _ _ i _ _ RB6.out
            go_wp2
            refine bodyPost_ret (v := .tuple #[.agg #[.slice none 0 0, .slice none 0 0, .slice none 0 0], .bool false]) (by simp [results, Try.results22, go_sem, r0, r1, r2]) rfl ⟨none, 0, none, 0, rfl, ?_⟩
            exact ⟨by repeat (first | with_reducible exact B6.out | refine Below.setCell ?_ (by simp <;> omega) _), da_nil⟩
          · have hb0 : b = true := by rw [← HB.out, HCB.out]; exact hff
            have hl0 : X = F := HXF.out hff
            subst hl0
            have hx0 : xn = fn := HX.out.symm.trans HFN.out
            subst hx0
            subst hb0
            go_wp2_with fail
            refine (LFi.out _ hff).mono ?_
            rintro e w6 ⟨rfl, hb6⟩
            have B6 : Hid (Below w.heap.size w w6) := BR.out.trans (hb6.mono BR.out.size)
            have RB6 : Hid (w6.heap[w.heap.size + 1]? = some (.cells #[.slice none 0 0, .slice none 0 0, .slice none 0 0] 31 (0, 0))) := below_row hb6 (row_lt RBr.out) RBr.out
            have O6 : Hid (w6.ownsRow w.heap.size 72 2 (.slice ma xn mc) xn (rowF X)) := own_blw HOW.out hb6
            have BN : Hid (Below w6.heap.size w6 (w6.alloc (.cells #[] 72))) := (Below.refl _ _).alloc (Nat.le_refl _) _
            have ON : Hid ((w6.alloc (.cells #[] 72)).ownsRow w6.heap.size 72 2 (.slice (some ⟨w6.heap.size, 0, none⟩) 0 0) 0 ([] : List Value)) := own_newF _
            have HFC : Hid (∀ j u, (rowF X)[j]? = some u → ∃ b off, ma = some ⟨b, off, none⟩ ∧ (w6.alloc (.cells #[] 72)).cell? ⟨b, off + j, none⟩ = some u) := by
              obtain ⟨a', c', e', hfa⟩ := own_files O6.out HFN.out
              injection e' with e1 e2 e3
              subst e1
              exact (hfa.below BN.out).cells
            clear hb6
            go_wp2_with (
              at_builtin
              refine append_opt Try.underlying28 infF32 rfl (by decide) _ rfl _ _ rfl w6.heap.size _ 0 [] rfl ON.out ma xn mc (rowF X) rfl (by rw [rowF_len, HFN.out]) HFC.out (rowF_one X) (by omega) (by omega) BN.out.size ?_
              intro v' w7 hown hg hbk hnl
              rw [List.nil_append, Nat.zero_add] at hown
              have hb7 : Below w6.heap.size w6 w7 := BN.out.grown hg BN.out.size (fun k e => (ON.out.lt k e).1)
              obtain ⟨na7, nc7, rfl⟩ := own_anyV hown
              have B7 : Hid (Below w.heap.size w w7) := B6.out.trans (hb7.mono B6.out.size)
              have RB7 : Hid (w7.heap[w.heap.size + 1]? = some (.cells #[.slice none 0 0, .slice none 0 0, .slice none 0 0] 31 (0, 0))) := below_row hb7 (row_lt RB6.out) RB6.out
              have D7 : Hid (DA w7 w.heap.size (.slice ma xn mc) (.slice na7 xn nc7) (.slice none 0 0) X X []) := da_two (own_blw O6.out hb7) hown HFN.out B6.out.size (fun k h => (O6.out.lt k h).2)
              have FN : Hid (∀ x y z, Below w.heap.size w (((w7.setCell ⟨w.heap.size + 1, 0, none⟩ x).setCell ⟨w.heap.size + 1, 1, none⟩ y).setCell ⟨w.heap.size + 1, 2, none⟩ z) ∧ DA (((w7.setCell ⟨w.heap.size + 1, 0, none⟩ x).setCell ⟨w.heap.size + 1, 1, none⟩ y).setCell ⟨w.heap.size + 1, 2, none⟩ z) w.heap.size (.slice ma xn mc) (.slice na7 xn nc7) (.slice none 0 0) X X []) := fun x y z => boxedAt (by omega) B7.out D7.out RB7.out
              obtain ⟨r0, r1, r2⟩ := cells3 RB7.out
              have rf := fun i => frozen_of_row _ _ i _ _ RB7.out
              clear hown hg hbk hnl hb7)
            refine bodyPost_ret (v := .tuple #[.agg #[.slice ma xn mc, .slice na7 xn nc7, .slice none 0 0], .bool true]) (by simp [results, Try.results22, go_sem, r0, r1, r2]) rfl ⟨_, _, _, _, rfl, (FN.out _ _ _).1, (FN.out _ _ _).2⟩

end Go.Proofs.Ytighhcdlgjaacaa
