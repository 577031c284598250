import Derived.Test.YtpahhhocgpohbaaPack16
import Derived.Test.YtpahhhocgpohbaaPack17
import Derived.Test.YtpahhhocgpohbaaPack25
namespace Go.Proofs.Ytpahhhocgpohbaa
open Go.RowKit

set_option maxHeartbeats 8000000 in
set_option maxRecDepth 20000 in
theorem specRepl_any (n d : ByteArray) (zn : n.size ≤ 1048576) (zd : d.size ≤ 1048576) (la sa oa : Option Addr) (lc sc oc ln sn on x1 x2 x3 : Nat) (kd : Int) (L S : List FI) (O : List OP) (w : World) (hD : DAt w la sa oa L S O) (hK : DskOk L S O) (hLn : L.length = ln) (hSn : S.length = sn) (hOn : O.length = on)
    (hk : rpK L S O n d = kd) (hx1 : (rpL L S O n d).length = x1) (hx2 : (rpS L S O).length = x2) (hx3 : (rpO L S O n d).length = x3) :
    Calls Try.prog 19 #[.agg #[.slice la ln lc, .slice sa sn sc, .slice oa on oc], .string n, .string d] w fun e w' => ∃ a1 c1 a2 c2 a3 c3, e = .returned (.tuple #[.agg #[.slice a1 x1 c1, .slice a2 x2 c2, .slice a3 x3 c3], .int .i64 kd]) ∧ Below w.heap.size w w' ∧ DA w' w.heap.size (.slice a1 x1 c1) (.slice a2 x2 c2) (.slice a3 x3 c3) (rpL L S O n d) (rpS L S O) (rpO L S O n d) := by
  have B0 : Hid (Below w.heap.size w ((w.alloc (.cells #[.slice la ln lc, .slice sa sn sc, .slice oa on oc] 27)).alloc (.cells #[.slice none 0 0, .slice none 0 0, .slice none 0 0] 27))) := ((Below.refl _ _).alloc (Nat.le_refl _) _).alloc (by simp) _
  have RA0 : Hid (((w.alloc (.cells #[.slice la ln lc, .slice sa sn sc, .slice oa on oc] 27)).alloc (.cells #[.slice none 0 0, .slice none 0 0, .slice none 0 0] 27)).heap[w.heap.size]? = some (.cells #[.slice la ln lc, .slice sa sn sc, .slice oa on oc] 27 (0, 0))) := heap_alloc2_old _ _ _
  have RB0 : Hid (((w.alloc (.cells #[.slice la ln lc, .slice sa sn sc, .slice oa on oc] 27)).alloc (.cells #[.slice none 0 0, .slice none 0 0, .slice none 0 0] 27)).heap[w.heap.size + 1]? = some (.cells #[.slice none 0 0, .slice none 0 0, .slice none 0 0] 27 (0, 0))) := heap_alloc2_new _ _ _
  have HD0 : Hid (DAt w la sa oa L S O) := hD
  have ID : Hid (∀ W, Below w.heap.size w W → ∀ b, dskB L S O = b → Calls Try.prog 9 #[.agg #[.slice la ln lc, .slice sa sn sc, .slice oa on oc]] W fun e w' => e = .returned (.bool b) ∧ Below W.heap.size W w') := fun W hW b hb => by
    rw [← hb]
    exact specDisk_at la sa oa lc sc oc ln sn on L S O W (hD.below hW) hK hLn hSn hOn
  have HLN : Hid (L.length = ln) := hLn
  have HSN : Hid (S.length = sn) := hSn
  have HON : Hid (O.length = on) := hOn
  have HZ : Hid (∀ o ∈ repO L n d, o.n.size ≤ 2000000 ∧ o.t.size ≤ 2000000 ∧ o.d.size ≤ 1048576) := repO_sz L n d zn zd
  obtain ⟨a0, a1, a2⟩ := cells3 RA0.out
  cases hd : dskB L S O
  · have e0 : rpK L S O n d = 1 := by unfold rpK; rw [hd]; rfl
    have e1 : rpL L S O n d = [] := by unfold rpL; rw [hd]; rfl
    have e2 : rpS L S O = [] := by unfold rpS; rw [hd]; rfl
    have e3 : rpO L S O n d = [] := by unfold rpO; rw [hd]; rfl
    rw [e0] at hk
    rw [e1] at hx1 ⊢
    rw [e2] at hx2 ⊢
    rw [e3] at hx3 ⊢
    have hx1 : 0 = x1 := hx1
    have hx2 : 0 = x2 := hx2
    have hx3 : 0 = x3 := hx3
    subst hx1 hx2 hx3 hk
    clear e0 e1 e2 e3 hD hK hLn hSn hOn
    go_enter Try.func19, Try.ntmps19
    go_wp2_with fail
    refine (ID.out _ B0.out _ hd).mono ?_
    rintro e w1 ⟨rfl, hb1⟩
    have B1 : Hid (Below w.heap.size w w1) := B0.out.trans (hb1.mono B0.out.size)
    have RB1 : Hid (w1.heap[w.heap.size + 1]? = some (.cells #[.slice none 0 0, .slice none 0 0, .slice none 0 0] 27 (0, 0))) := below_row hb1 (row_lt RB0.out) RB0.out
    clear B0 RB0
    clear hb1 a0 a1 a2
    obtain ⟨zrb1_0, zrb1_1, zrb1_2⟩ := cells3 RB1.out
    have rf := fun i => frozen_of_row _ _ i _ _ RB1.out
    go_wp2
    refine bodyPost_ret (v := .tuple #[.agg #[.slice none 0 0, .slice none 0 0, .slice none 0 0], .int .i64 1]) (by simp [results, Try.results19, go_sem, zrb1_0, zrb1_1, zrb1_2]) rfl ⟨none, 0, none, 0, none, 0, rfl, ?_⟩
    exact ⟨by repeat (first | with_reducible exact B1.out | refine Below.setCell ?_ (by simp <;> omega) _), da_nil⟩
  have e2 : rpS L S O = S := by unfold rpS; rw [hd]; rfl
  rw [e2] at hx2 ⊢
  have hx2 : sn = x2 := hSn.symm.trans hx2
  subst hx2
  clear e2
  obtain ⟨hfl, hfs, h200⟩ := dsk_parts hd
  have bl : ln ≤ 60 := by rw [← hLn]; exact (filB_true.1 hfl).1
  have bs : sn ≤ 60 := by rw [← hSn]; exact (filB_true.1 hfs).1
  have bo : on ≤ 200 := by rw [← hOn]; exact h200
  have HF0 : Hid (filB L = true) := hfl
  have AT : Hid (∀ W, Below w.heap.size w W → Calls Try.prog 40 #[.slice la ln lc, .string (n ++ ⟨#[46, 110, 101, 119]⟩)] W fun e w' => e = .returned (.int .i64 (atF L (dft n))) ∧ w' = W) := fun W hW => by
    have := l12At_any la lc L (dft n) W (HD0.out.l.below hW) (by rw [hLn]; omega)
    rw [hLn] at this
    exact this
  have CP : Hid (∀ W, Below w.heap.size w W → Calls Try.prog 41 #[.agg #[.slice la ln lc, .slice sa sn sc, .slice oa on oc]] W fun e w' => ∃ a1 c1 a2 c2 a3 c3, e = .returned (.agg #[.slice a1 ln c1, .slice a2 sn c2, .slice a3 on c3]) ∧ Below W.heap.size W w' ∧ DA w' W.heap.size (.slice a1 ln c1) (.slice a2 sn c2) (.slice a3 on c3) L S O) := fun W hW => l12Copy_any la sa oa lc sc oc ln sn on L S O W (HD0.out.below hW) HLN.out HSN.out HON.out (by omega) (by omega) (by omega)
  unfold rpK at hk
  unfold rpL at hx1 ⊢
  unfold rpO at hx3 ⊢
  rw [if_pos hd] at hk hx1 hx3 ⊢
  rw [if_pos hd]
  clear hD hK hLn hSn hOn hfl hfs h200
  obtain ⟨XL, HXL⟩ : ∃ X, Hid ((if (runR L O (repO L n d)).1 = 0 then (runR L O (repO L n d)).2.1 else L) = X) := ⟨_, rfl⟩
  obtain ⟨XO, HXO⟩ : ∃ X, Hid ((if (runR L O (repO L n d)).1 = 0 then (runR L O (repO L n d)).2.2 else O) = X) := ⟨_, rfl⟩
  have HKD : Hid ((runR L O (repO L n d)).1 = kd) := hk
  rw [HXL.out] at hx1 ⊢
  rw [HXO.out] at hx3 ⊢
  have X1 : Hid (XL.length = x1) := hx1
  have X3 : Hid (XO.length = x3) := hx3
  clear hk hx1 hx3
  obtain ⟨av, HAV⟩ : ∃ v, Hid (atF L (dft n) = v) := ⟨_, rfl⟩
  rw [HAV.out] at AT
  have hav : (hasF L (dft n) = false ∧ -1 = av) ∨ (hasF L (dft n) = true ∧ 0 ≤ av) := by
    rcases atF_or L (dft n) with ⟨h1, h2, _⟩ | ⟨i, _, h1, h2, _⟩
    · exact .inl ⟨h2, h1.symm.trans HAV.out⟩
    · exact .inr ⟨h2, by rw [← HAV.out, h1]; omega⟩
  clear HAV
  rcases hav with ⟨hh, hv⟩ | ⟨hh, hv⟩
  · subst hv
    have er : repO L n d = [⟨1, dft n, ⟨#[]⟩, d⟩, ⟨2, dft n, n, ⟨#[]⟩⟩] := by unfold repO; rw [hh]; rfl
    rw [er] at HXL HXO HKD HZ
    clear er hh
    go_enter Try.func19, Try.ntmps19
    go_wp2_with fail
    refine (ID.out _ B0.out _ hd).mono ?_
    rintro e w1 ⟨rfl, hb1⟩
    have B1 : Hid (Below w.heap.size w w1) := B0.out.trans (hb1.mono B0.out.size)
    have RA1 : Hid (w1.heap[w.heap.size]? = some (.cells #[.slice la ln lc, .slice sa sn sc, .slice oa on oc] 27 (0, 0))) := below_row hb1 (row_lt RA0.out) RA0.out
    have RB1 : Hid (w1.heap[w.heap.size + 1]? = some (.cells #[.slice none 0 0, .slice none 0 0, .slice none 0 0] 27 (0, 0))) := below_row hb1 (row_lt RB0.out) RB0.out
    clear B0 RA0 RB0
    clear hb1 a0 a1 a2
    obtain ⟨zra1_0, zra1_1, zra1_2⟩ := cells3 RA1.out
    have I8 : Hid (w.heap.size + 1 < w1.heap.size) := row_lt RB1.out
    have hb2 : Below w1.heap.size w1 (w1.alloc (.cells #[.slice la ln lc, .slice sa sn sc, .slice oa on oc] 27)) := (Below.refl _ _).alloc (Nat.le_refl _) _
    have B2 : Hid (Below w.heap.size w (w1.alloc (.cells #[.slice la ln lc, .slice sa sn sc, .slice oa on oc] 27))) := B1.out.trans (hb2.mono B1.out.size)
    have RA2 : Hid ((w1.alloc (.cells #[.slice la ln lc, .slice sa sn sc, .slice oa on oc] 27)).heap[w.heap.size]? = some (.cells #[.slice la ln lc, .slice sa sn sc, .slice oa on oc] 27 (0, 0))) := below_row hb2 (row_lt RA1.out) RA1.out
    have RB2 : Hid ((w1.alloc (.cells #[.slice la ln lc, .slice sa sn sc, .slice oa on oc] 27)).heap[w.heap.size + 1]? = some (.cells #[.slice none 0 0, .slice none 0 0, .slice none 0 0] 27 (0, 0))) := below_row hb2 (row_lt RB1.out) RB1.out
    clear B1 RA1 RB1
    have M2 : Hid ((w1.alloc (.cells #[.slice la ln lc, .slice sa sn sc, .slice oa on oc] 27)).heap[w1.heap.size]? = some (.cells #[.slice la ln lc, .slice sa sn sc, .slice oa on oc] 27 (0, 0))) := heap_alloc_new _ _
    clear hb2
    obtain ⟨zra2_0, zra2_1, zra2_2⟩ := cells3 RA2.out
    go_wp2_with fail
    clear zra1_0 zra1_1 zra1_2 zra2_0 zra2_1 zra2_2
    obtain ⟨i8, HI8⟩ : ∃ i, Hid (w1.heap.size = i) := ⟨_, rfl⟩
    rw [HI8.out] at M2 I8 ⊢
    generalize (w1.alloc (.cells #[.slice la ln lc, .slice sa sn sc, .slice oa on oc] 27)) = w2 at *
    clear HI8
    refine (AT.out w2 B2.out).mono ?_
    rintro e w3 ⟨rfl, rfl⟩
    obtain ⟨q1, HQ1⟩ : ∃ k, Hid (actK L O (⟨1, dft n, ⟨#[]⟩, d⟩ : OP) = k) := ⟨_, rfl⟩
    obtain ⟨L1, HL1⟩ : ∃ k, Hid (actL L O (⟨1, dft n, ⟨#[]⟩, d⟩ : OP) = k) := ⟨_, rfl⟩
    obtain ⟨O1, HO1⟩ : ∃ k, Hid (actO L O (⟨1, dft n, ⟨#[]⟩, d⟩ : OP) = k) := ⟨_, rfl⟩
    obtain ⟨y1, HY1⟩ : ∃ k, Hid (L1.length = k) := ⟨_, rfl⟩
    obtain ⟨v1, HV1⟩ : ∃ k, Hid (O1.length = k) := ⟨_, rfl⟩
    have hyv1 : y1 ≤ ln + 1 ∧ v1 ≤ on + 1 := by
      have := act_len L O (⟨1, dft n, ⟨#[]⟩, d⟩ : OP)
      rw [HL1.out, HO1.out, HY1.out, HV1.out, HLN.out, HON.out] at this
      exact this
    obtain ⟨zz1, zz2, zz3⟩ := HZ.out (⟨1, dft n, ⟨#[]⟩, d⟩ : OP) (by simp)
    obtain ⟨zm2_0, zm2_1, zm2_2⟩ := cells3 M2.out
    go_wp2_with fail
    refine (l12Act_any _ _ _ _ _ _ _ _ _ y1 v1 q1 L S O ⟨1, dft n, ⟨#[]⟩, d⟩ w3 (HD0.out.below B2.out) HLN.out HSN.out HON.out HF0.out (by omega) (by omega) zz1 zz2 zz3 HQ1.out (by rw [HL1.out]; exact HY1.out) (by rw [HO1.out]; exact HV1.out)).mono ?_
    rintro e u1 ⟨a11, c11, a12, c12, a13, c13, rfl, hb, hda⟩
    rw [HL1.out, HO1.out] at hda
    have BS1 : Hid (w.heap.size ≤ w3.heap.size) := B2.out.size
    have B10 : Hid (Below w.heap.size w u1) := B2.out.trans (hb.mono B2.out.size)
    have RA10 : Hid (u1.heap[w.heap.size]? = some (.cells #[.slice la ln lc, .slice sa sn sc, .slice oa on oc] 27 (0, 0))) := below_row hb (row_lt RA2.out) RA2.out
    have RB10 : Hid (u1.heap[w.heap.size + 1]? = some (.cells #[.slice none 0 0, .slice none 0 0, .slice none 0 0] 27 (0, 0))) := below_row hb (row_lt RB2.out) RB2.out
    have M10 : Hid (u1.heap[i8]? = some (.cells #[.slice la ln lc, .slice sa sn sc, .slice oa on oc] 27 (0, 0))) := below_row hb (row_lt M2.out) M2.out
    clear B2 RA2 RB2 M2
    clear zm2_0 zm2_1 zm2_2
    obtain ⟨zm10_0, zm10_1, zm10_2⟩ := cells3 M10.out
    have mf1 := fun i => frozen_of_row _ _ i _ _ M10.out
    have hne0 : w.heap.size ≠ i8 := by have := I8.out; omega
    have hne1 : w.heap.size + 1 ≠ i8 := by have := I8.out; omega
    have hi8 : w.heap.size ≤ i8 := by have := I8.out; omega
    have B11 : Hid (Below w.heap.size w (((u1.setCell ⟨i8, 0, none⟩ (.slice a11 y1 c11)).setCell ⟨i8, 1, none⟩ (.slice a12 sn c12)).setCell ⟨i8, 2, none⟩ (.slice a13 v1 c13))) := ((B10.out.setCell hi8 _).setCell hi8 _).setCell hi8 _
    have RA11 : Hid ((((u1.setCell ⟨i8, 0, none⟩ (.slice a11 y1 c11)).setCell ⟨i8, 1, none⟩ (.slice a12 sn c12)).setCell ⟨i8, 2, none⟩ (.slice a13 v1 c13)).heap[w.heap.size]? = some (.cells #[.slice la ln lc, .slice sa sn sc, .slice oa on oc] 27 (0, 0))) := (heap_setCell_other _ _ _ _ hne0).trans ((heap_setCell_other _ _ _ _ hne0).trans ((heap_setCell_other _ _ _ _ hne0).trans RA10.out))
    have RB11 : Hid ((((u1.setCell ⟨i8, 0, none⟩ (.slice a11 y1 c11)).setCell ⟨i8, 1, none⟩ (.slice a12 sn c12)).setCell ⟨i8, 2, none⟩ (.slice a13 v1 c13)).heap[w.heap.size + 1]? = some (.cells #[.slice none 0 0, .slice none 0 0, .slice none 0 0] 27 (0, 0))) := (heap_setCell_other _ _ _ _ hne1).trans ((heap_setCell_other _ _ _ _ hne1).trans ((heap_setCell_other _ _ _ _ hne1).trans RB10.out))
    have N11 : Hid (DA (((u1.setCell ⟨i8, 0, none⟩ (.slice a11 y1 c11)).setCell ⟨i8, 1, none⟩ (.slice a12 sn c12)).setCell ⟨i8, 2, none⟩ (.slice a13 v1 c13)) w3.heap.size (.slice a11 y1 c11) (.slice a12 sn c12) (.slice a13 v1 c13) L1 S O1) := da_box3 hda M10.out
    have M11 : Hid ((((u1.setCell ⟨i8, 0, none⟩ (.slice a11 y1 c11)).setCell ⟨i8, 1, none⟩ (.slice a12 sn c12)).setCell ⟨i8, 2, none⟩ (.slice a13 v1 c13)).heap[i8]? = some (.cells #[.slice a11 y1 c11, .slice a12 sn c12, .slice a13 v1 c13] 27 (0, 0))) := boxW M10.out
    clear hne0 hne1 hi8 hb hda zz1 zz2 zz3 B10 RA10 RB10 M10
    by_cases hq1 : q1 = 0
    · skip
      subst hq1
      rw [runR_go HQ1.out, HL1.out, HO1.out] at HXL HXO HKD
      have HF1 : Hid (filB L1 = true) := by have := act_fil HQ1.out; rw [HL1.out] at this; exact this
      obtain ⟨q2, HQ2⟩ : ∃ k, Hid (actK L1 O1 (⟨2, dft n, n, ⟨#[]⟩⟩ : OP) = k) := ⟨_, rfl⟩
      obtain ⟨L2, HL2⟩ : ∃ k, Hid (actL L1 O1 (⟨2, dft n, n, ⟨#[]⟩⟩ : OP) = k) := ⟨_, rfl⟩
      obtain ⟨O2, HO2⟩ : ∃ k, Hid (actO L1 O1 (⟨2, dft n, n, ⟨#[]⟩⟩ : OP) = k) := ⟨_, rfl⟩
      obtain ⟨y2, HY2⟩ : ∃ k, Hid (L2.length = k) := ⟨_, rfl⟩
      obtain ⟨v2, HV2⟩ : ∃ k, Hid (O2.length = k) := ⟨_, rfl⟩
      have hyv2 : y2 ≤ y1 + 1 ∧ v2 ≤ v1 + 1 := by
        have := act_len L1 O1 (⟨2, dft n, n, ⟨#[]⟩⟩ : OP)
        rw [HL2.out, HO2.out, HY2.out, HV2.out, HY1.out, HV1.out] at this
        exact this
      obtain ⟨zz1, zz2, zz3⟩ := HZ.out (⟨2, dft n, n, ⟨#[]⟩⟩ : OP) (by simp)
      obtain ⟨zm11_0, zm11_1, zm11_2⟩ := cells3 M11.out
      go_wp2_with fail
      generalize (((u1.setCell ⟨i8, 0, none⟩ (.slice a11 y1 c11)).setCell ⟨i8, 1, none⟩ (.slice a12 sn c12)).setCell ⟨i8, 2, none⟩ (.slice a13 v1 c13)) = w10 at *
      refine (l12Act_any _ _ _ _ _ _ _ _ _ y2 v2 q2 L1 S O1 ⟨2, dft n, n, ⟨#[]⟩⟩ w10 (N11.out.at HY1.out HSN.out HV1.out) HY1.out HSN.out HV1.out HF1.out (by omega) (by omega) zz1 zz2 zz3 HQ2.out (by rw [HL2.out]; exact HY2.out) (by rw [HO2.out]; exact HV2.out)).mono ?_
      rintro e u2 ⟨a21, c21, a22, c22, a23, c23, rfl, hb, hda⟩
      rw [HL2.out, HO2.out] at hda
      have BS2 : Hid (w.heap.size ≤ w10.heap.size) := B11.out.size
      have B20 : Hid (Below w.heap.size w u2) := B11.out.trans (hb.mono B11.out.size)
      have RA20 : Hid (u2.heap[w.heap.size]? = some (.cells #[.slice la ln lc, .slice sa sn sc, .slice oa on oc] 27 (0, 0))) := below_row hb (row_lt RA11.out) RA11.out
      have RB20 : Hid (u2.heap[w.heap.size + 1]? = some (.cells #[.slice none 0 0, .slice none 0 0, .slice none 0 0] 27 (0, 0))) := below_row hb (row_lt RB11.out) RB11.out
      have M20 : Hid (u2.heap[i8]? = some (.cells #[.slice a11 y1 c11, .slice a12 sn c12, .slice a13 v1 c13] 27 (0, 0))) := below_row hb (row_lt M11.out) M11.out
      clear B11 RA11 RB11 M11
      clear zm11_0 zm11_1 zm11_2
      obtain ⟨zm20_0, zm20_1, zm20_2⟩ := cells3 M20.out
      have mf2 := fun i => frozen_of_row _ _ i _ _ M20.out
      have hne0 : w.heap.size ≠ i8 := by have := I8.out; omega
      have hne1 : w.heap.size + 1 ≠ i8 := by have := I8.out; omega
      have hi8 : w.heap.size ≤ i8 := by have := I8.out; omega
      have B21 : Hid (Below w.heap.size w (((u2.setCell ⟨i8, 0, none⟩ (.slice a21 y2 c21)).setCell ⟨i8, 1, none⟩ (.slice a22 sn c22)).setCell ⟨i8, 2, none⟩ (.slice a23 v2 c23))) := ((B20.out.setCell hi8 _).setCell hi8 _).setCell hi8 _
      have RA21 : Hid ((((u2.setCell ⟨i8, 0, none⟩ (.slice a21 y2 c21)).setCell ⟨i8, 1, none⟩ (.slice a22 sn c22)).setCell ⟨i8, 2, none⟩ (.slice a23 v2 c23)).heap[w.heap.size]? = some (.cells #[.slice la ln lc, .slice sa sn sc, .slice oa on oc] 27 (0, 0))) := (heap_setCell_other _ _ _ _ hne0).trans ((heap_setCell_other _ _ _ _ hne0).trans ((heap_setCell_other _ _ _ _ hne0).trans RA20.out))
      have RB21 : Hid ((((u2.setCell ⟨i8, 0, none⟩ (.slice a21 y2 c21)).setCell ⟨i8, 1, none⟩ (.slice a22 sn c22)).setCell ⟨i8, 2, none⟩ (.slice a23 v2 c23)).heap[w.heap.size + 1]? = some (.cells #[.slice none 0 0, .slice none 0 0, .slice none 0 0] 27 (0, 0))) := (heap_setCell_other _ _ _ _ hne1).trans ((heap_setCell_other _ _ _ _ hne1).trans ((heap_setCell_other _ _ _ _ hne1).trans RB20.out))
      have N21 : Hid (DA (((u2.setCell ⟨i8, 0, none⟩ (.slice a21 y2 c21)).setCell ⟨i8, 1, none⟩ (.slice a22 sn c22)).setCell ⟨i8, 2, none⟩ (.slice a23 v2 c23)) w10.heap.size (.slice a21 y2 c21) (.slice a22 sn c22) (.slice a23 v2 c23) L2 S O2) := da_box3 hda M20.out
      have M21 : Hid ((((u2.setCell ⟨i8, 0, none⟩ (.slice a21 y2 c21)).setCell ⟨i8, 1, none⟩ (.slice a22 sn c22)).setCell ⟨i8, 2, none⟩ (.slice a23 v2 c23)).heap[i8]? = some (.cells #[.slice a21 y2 c21, .slice a22 sn c22, .slice a23 v2 c23] 27 (0, 0))) := boxW M20.out
      clear hne0 hne1 hi8 hb hda zz1 zz2 zz3 B20 RA20 RB20 M20
      by_cases hq2 : q2 = 0
      · skip
        subst hq2
        rw [runR_go HQ2.out, HL2.out, HO2.out] at HXL HXO HKD
        have HF2 : Hid (filB L2 = true) := by have := act_fil HQ2.out; rw [HL2.out] at this; exact this
        rw [runR] at HXL HXO HKD
        have e1 : L2 = XL := by have := HXL.out; rwa [if_pos rfl] at this
        have e2 : O2 = XO := by have := HXO.out; rwa [if_pos rfl] at this
        have e3 : 0 = kd := HKD.out
        subst e1 e2 e3
        have ey : y2 = x1 := HY2.out.symm.trans X1.out
        have ev : v2 = x3 := HV2.out.symm.trans X3.out
        subst ey ev
        obtain ⟨zm21_0, zm21_1, zm21_2⟩ := cells3 M21.out
        go_wp2_with fail
        refine (l12Copy_any _ _ _ _ _ _ _ _ _ L2 S O2 _ (N21.out.at HY2.out HSN.out HV2.out) HY2.out HSN.out HV2.out (by omega) (by omega) (by omega)).mono ?_
        rintro e wz ⟨g1, e1, g2, e2, g3, e3, rfl, hb, hda⟩
        have BZ : Hid (w.heap.size ≤ (((u2.setCell ⟨i8, 0, none⟩ (.slice a21 y2 c21)).setCell ⟨i8, 1, none⟩ (.slice a22 sn c22)).setCell ⟨i8, 2, none⟩ (.slice a23 v2 c23)).heap.size) := B21.out.size
        have B99 : Hid (Below w.heap.size w wz) := B21.out.trans (hb.mono B21.out.size)
        have RB99 : Hid (wz.heap[w.heap.size + 1]? = some (.cells #[.slice none 0 0, .slice none 0 0, .slice none 0 0] 27 (0, 0))) := below_row hb (row_lt RB21.out) RB21.out
        clear B21 RB21
        have FN : Hid (∀ x y z, Below w.heap.size w (((wz.setCell ⟨w.heap.size + 1, 0, none⟩ x).setCell ⟨w.heap.size + 1, 1, none⟩ y).setCell ⟨w.heap.size + 1, 2, none⟩ z) ∧ DA (((wz.setCell ⟨w.heap.size + 1, 0, none⟩ x).setCell ⟨w.heap.size + 1, 1, none⟩ y).setCell ⟨w.heap.size + 1, 2, none⟩ z) w.heap.size (.slice g1 y2 e1) (.slice g2 sn e2) (.slice g3 v2 e3) L2 S O2) := fun x y z => boxedAt (by omega) B99.out (hda.bse BZ.out) RB99.out
        clear hb hda
        obtain ⟨zrb99_0, zrb99_1, zrb99_2⟩ := cells3 RB99.out
        have rf := fun i => frozen_of_row _ _ i _ _ RB99.out
        go_wp2
        refine bodyPost_ret (v := .tuple #[.agg #[.slice g1 y2 e1, .slice g2 sn e2, .slice g3 v2 e3], .int .i64 0]) (by simp [results, Try.results19, go_sem, zrb99_0, zrb99_1, zrb99_2]) rfl ⟨_, _, _, _, _, _, rfl, (FN.out _ _ _).1, (FN.out _ _ _).2⟩
      rw [runR_no (by rw [HQ2.out]; exact hq2)] at HXL HXO HKD
      simp only at HXL HXO HKD
      rw [HQ2.out] at HXL HXO HKD
      rw [if_neg hq2] at HXL HXO
      have e1 : L = XL := HXL.out
      have e2 : O = XO := HXO.out
      have e3 : q2 = kd := HKD.out
      subst e1 e2 e3
      have ey : ln = x1 := HLN.out.symm.trans X1.out
      have ev : on = x3 := HON.out.symm.trans X3.out
      subst ey ev
      have hqe : (q2 == 0) = false := by simp [hq2]
      have hqn : (q2 != 0) = true := by simp [hq2]
      obtain ⟨zra21_0, zra21_1, zra21_2⟩ := cells3 RA21.out
      go_wp2_with fail
      refine (CP.out _ B21.out).mono ?_
      rintro e wz ⟨g1, e1, g2, e2, g3, e3, rfl, hb, hda⟩
      have BZ : Hid (w.heap.size ≤ (((u2.setCell ⟨i8, 0, none⟩ (.slice a21 y2 c21)).setCell ⟨i8, 1, none⟩ (.slice a22 sn c22)).setCell ⟨i8, 2, none⟩ (.slice a23 v2 c23)).heap.size) := B21.out.size
      have B99 : Hid (Below w.heap.size w wz) := B21.out.trans (hb.mono B21.out.size)
      have RB99 : Hid (wz.heap[w.heap.size + 1]? = some (.cells #[.slice none 0 0, .slice none 0 0, .slice none 0 0] 27 (0, 0))) := below_row hb (row_lt RB21.out) RB21.out
      clear B21 RB21
      have FN : Hid (∀ x y z, Below w.heap.size w (((wz.setCell ⟨w.heap.size + 1, 0, none⟩ x).setCell ⟨w.heap.size + 1, 1, none⟩ y).setCell ⟨w.heap.size + 1, 2, none⟩ z) ∧ DA (((wz.setCell ⟨w.heap.size + 1, 0, none⟩ x).setCell ⟨w.heap.size + 1, 1, none⟩ y).setCell ⟨w.heap.size + 1, 2, none⟩ z) w.heap.size (.slice g1 ln e1) (.slice g2 sn e2) (.slice g3 on e3) L S O) := fun x y z => boxedAt (by omega) B99.out (hda.bse BZ.out) RB99.out
      clear hb hda
      obtain ⟨zrb99_0, zrb99_1, zrb99_2⟩ := cells3 RB99.out
      have rf := fun i => frozen_of_row _ _ i _ _ RB99.out
      go_wp2
      refine bodyPost_ret (v := .tuple #[.agg #[.slice g1 ln e1, .slice g2 sn e2, .slice g3 on e3], .int .i64 q2]) (by simp [results, Try.results19, go_sem, zrb99_0, zrb99_1, zrb99_2]) rfl ⟨_, _, _, _, _, _, rfl, (FN.out _ _ _).1, (FN.out _ _ _).2⟩
    rw [runR_no (by rw [HQ1.out]; exact hq1)] at HXL HXO HKD
    simp only at HXL HXO HKD
    rw [HQ1.out] at HXL HXO HKD
    rw [if_neg hq1] at HXL HXO
    have e1 : L = XL := HXL.out
    have e2 : O = XO := HXO.out
    have e3 : q1 = kd := HKD.out
    subst e1 e2 e3
    have ey : ln = x1 := HLN.out.symm.trans X1.out
    have ev : on = x3 := HON.out.symm.trans X3.out
    subst ey ev
    have hqe : (q1 == 0) = false := by simp [hq1]
    have hqn : (q1 != 0) = true := by simp [hq1]
    obtain ⟨zra11_0, zra11_1, zra11_2⟩ := cells3 RA11.out
    go_wp2_with fail
    refine (CP.out _ B11.out).mono ?_
    rintro e wz ⟨g1, e1, g2, e2, g3, e3, rfl, hb, hda⟩
    have BZ : Hid (w.heap.size ≤ (((u1.setCell ⟨i8, 0, none⟩ (.slice a11 y1 c11)).setCell ⟨i8, 1, none⟩ (.slice a12 sn c12)).setCell ⟨i8, 2, none⟩ (.slice a13 v1 c13)).heap.size) := B11.out.size
    have B99 : Hid (Below w.heap.size w wz) := B11.out.trans (hb.mono B11.out.size)
    have RB99 : Hid (wz.heap[w.heap.size + 1]? = some (.cells #[.slice none 0 0, .slice none 0 0, .slice none 0 0] 27 (0, 0))) := below_row hb (row_lt RB11.out) RB11.out
    clear B11 RB11
    have FN : Hid (∀ x y z, Below w.heap.size w (((wz.setCell ⟨w.heap.size + 1, 0, none⟩ x).setCell ⟨w.heap.size + 1, 1, none⟩ y).setCell ⟨w.heap.size + 1, 2, none⟩ z) ∧ DA (((wz.setCell ⟨w.heap.size + 1, 0, none⟩ x).setCell ⟨w.heap.size + 1, 1, none⟩ y).setCell ⟨w.heap.size + 1, 2, none⟩ z) w.heap.size (.slice g1 ln e1) (.slice g2 sn e2) (.slice g3 on e3) L S O) := fun x y z => boxedAt (by omega) B99.out (hda.bse BZ.out) RB99.out
    clear hb hda
    obtain ⟨zrb99_0, zrb99_1, zrb99_2⟩ := cells3 RB99.out
    have rf := fun i => frozen_of_row _ _ i _ _ RB99.out
    go_wp2
    refine bodyPost_ret (v := .tuple #[.agg #[.slice g1 ln e1, .slice g2 sn e2, .slice g3 on e3], .int .i64 q1]) (by simp [results, Try.results19, go_sem, zrb99_0, zrb99_1, zrb99_2]) rfl ⟨_, _, _, _, _, _, rfl, (FN.out _ _ _).1, (FN.out _ _ _).2⟩
  · skip
    have er : repO L n d = [⟨3, dft n, ⟨#[]⟩, ⟨#[]⟩⟩, ⟨1, dft n, ⟨#[]⟩, d⟩, ⟨2, dft n, n, ⟨#[]⟩⟩] := by unfold repO; rw [hh]; rfl
    rw [er] at HXL HXO HKD HZ
    clear er hh
    go_enter Try.func19, Try.ntmps19
    go_wp2_with fail
    refine (ID.out _ B0.out _ hd).mono ?_
    rintro e w1 ⟨rfl, hb1⟩
    have B1 : Hid (Below w.heap.size w w1) := B0.out.trans (hb1.mono B0.out.size)
    have RA1 : Hid (w1.heap[w.heap.size]? = some (.cells #[.slice la ln lc, .slice sa sn sc, .slice oa on oc] 27 (0, 0))) := below_row hb1 (row_lt RA0.out) RA0.out
    have RB1 : Hid (w1.heap[w.heap.size + 1]? = some (.cells #[.slice none 0 0, .slice none 0 0, .slice none 0 0] 27 (0, 0))) := below_row hb1 (row_lt RB0.out) RB0.out
    clear B0 RA0 RB0
    clear hb1 a0 a1 a2
    obtain ⟨zra1_0, zra1_1, zra1_2⟩ := cells3 RA1.out
    have I8 : Hid (w.heap.size + 1 < w1.heap.size) := row_lt RB1.out
    have hb2 : Below w1.heap.size w1 (w1.alloc (.cells #[.slice la ln lc, .slice sa sn sc, .slice oa on oc] 27)) := (Below.refl _ _).alloc (Nat.le_refl _) _
    have B2 : Hid (Below w.heap.size w (w1.alloc (.cells #[.slice la ln lc, .slice sa sn sc, .slice oa on oc] 27))) := B1.out.trans (hb2.mono B1.out.size)
    have RA2 : Hid ((w1.alloc (.cells #[.slice la ln lc, .slice sa sn sc, .slice oa on oc] 27)).heap[w.heap.size]? = some (.cells #[.slice la ln lc, .slice sa sn sc, .slice oa on oc] 27 (0, 0))) := below_row hb2 (row_lt RA1.out) RA1.out
    have RB2 : Hid ((w1.alloc (.cells #[.slice la ln lc, .slice sa sn sc, .slice oa on oc] 27)).heap[w.heap.size + 1]? = some (.cells #[.slice none 0 0, .slice none 0 0, .slice none 0 0] 27 (0, 0))) := below_row hb2 (row_lt RB1.out) RB1.out
    clear B1 RA1 RB1
    have M2 : Hid ((w1.alloc (.cells #[.slice la ln lc, .slice sa sn sc, .slice oa on oc] 27)).heap[w1.heap.size]? = some (.cells #[.slice la ln lc, .slice sa sn sc, .slice oa on oc] 27 (0, 0))) := heap_alloc_new _ _
    clear hb2
    obtain ⟨zra2_0, zra2_1, zra2_2⟩ := cells3 RA2.out
    go_wp2_with fail
    clear zra1_0 zra1_1 zra1_2 zra2_0 zra2_1 zra2_2
    obtain ⟨i8, HI8⟩ : ∃ i, Hid (w1.heap.size = i) := ⟨_, rfl⟩
    rw [HI8.out] at M2 I8 ⊢
    generalize (w1.alloc (.cells #[.slice la ln lc, .slice sa sn sc, .slice oa on oc] 27)) = w2 at *
    clear HI8
    refine (AT.out w2 B2.out).mono ?_
    rintro e w3 ⟨rfl, rfl⟩
    obtain ⟨q1, HQ1⟩ : ∃ k, Hid (actK L O (⟨3, dft n, ⟨#[]⟩, ⟨#[]⟩⟩ : OP) = k) := ⟨_, rfl⟩
    obtain ⟨L1, HL1⟩ : ∃ k, Hid (actL L O (⟨3, dft n, ⟨#[]⟩, ⟨#[]⟩⟩ : OP) = k) := ⟨_, rfl⟩
    obtain ⟨O1, HO1⟩ : ∃ k, Hid (actO L O (⟨3, dft n, ⟨#[]⟩, ⟨#[]⟩⟩ : OP) = k) := ⟨_, rfl⟩
    obtain ⟨y1, HY1⟩ : ∃ k, Hid (L1.length = k) := ⟨_, rfl⟩
    obtain ⟨v1, HV1⟩ : ∃ k, Hid (O1.length = k) := ⟨_, rfl⟩
    have hyv1 : y1 ≤ ln + 1 ∧ v1 ≤ on + 1 := by
      have := act_len L O (⟨3, dft n, ⟨#[]⟩, ⟨#[]⟩⟩ : OP)
      rw [HL1.out, HO1.out, HY1.out, HV1.out, HLN.out, HON.out] at this
      exact this
    obtain ⟨zz1, zz2, zz3⟩ := HZ.out (⟨3, dft n, ⟨#[]⟩, ⟨#[]⟩⟩ : OP) (by simp)
    obtain ⟨zm2_0, zm2_1, zm2_2⟩ := cells3 M2.out
    go_wp2_with fail
    refine (l12Act_any _ _ _ _ _ _ _ _ _ y1 v1 q1 L S O ⟨3, dft n, ⟨#[]⟩, ⟨#[]⟩⟩ w3 (HD0.out.below B2.out) HLN.out HSN.out HON.out HF0.out (by omega) (by omega) zz1 zz2 zz3 HQ1.out (by rw [HL1.out]; exact HY1.out) (by rw [HO1.out]; exact HV1.out)).mono ?_
    rintro e u1 ⟨a11, c11, a12, c12, a13, c13, rfl, hb, hda⟩
    rw [HL1.out, HO1.out] at hda
    have BS1 : Hid (w.heap.size ≤ w3.heap.size) := B2.out.size
    have B10 : Hid (Below w.heap.size w u1) := B2.out.trans (hb.mono B2.out.size)
    have RA10 : Hid (u1.heap[w.heap.size]? = some (.cells #[.slice la ln lc, .slice sa sn sc, .slice oa on oc] 27 (0, 0))) := below_row hb (row_lt RA2.out) RA2.out
    have RB10 : Hid (u1.heap[w.heap.size + 1]? = some (.cells #[.slice none 0 0, .slice none 0 0, .slice none 0 0] 27 (0, 0))) := below_row hb (row_lt RB2.out) RB2.out
    have M10 : Hid (u1.heap[i8]? = some (.cells #[.slice la ln lc, .slice sa sn sc, .slice oa on oc] 27 (0, 0))) := below_row hb (row_lt M2.out) M2.out
    clear B2 RA2 RB2 M2
    clear zm2_0 zm2_1 zm2_2
    obtain ⟨zm10_0, zm10_1, zm10_2⟩ := cells3 M10.out
    have mf1 := fun i => frozen_of_row _ _ i _ _ M10.out
    have hne0 : w.heap.size ≠ i8 := by have := I8.out; omega
    have hne1 : w.heap.size + 1 ≠ i8 := by have := I8.out; omega
    have hi8 : w.heap.size ≤ i8 := by have := I8.out; omega
    have B11 : Hid (Below w.heap.size w (((u1.setCell ⟨i8, 0, none⟩ (.slice a11 y1 c11)).setCell ⟨i8, 1, none⟩ (.slice a12 sn c12)).setCell ⟨i8, 2, none⟩ (.slice a13 v1 c13))) := ((B10.out.setCell hi8 _).setCell hi8 _).setCell hi8 _
    have RA11 : Hid ((((u1.setCell ⟨i8, 0, none⟩ (.slice a11 y1 c11)).setCell ⟨i8, 1, none⟩ (.slice a12 sn c12)).setCell ⟨i8, 2, none⟩ (.slice a13 v1 c13)).heap[w.heap.size]? = some (.cells #[.slice la ln lc, .slice sa sn sc, .slice oa on oc] 27 (0, 0))) := (heap_setCell_other _ _ _ _ hne0).trans ((heap_setCell_other _ _ _ _ hne0).trans ((heap_setCell_other _ _ _ _ hne0).trans RA10.out))
    have RB11 : Hid ((((u1.setCell ⟨i8, 0, none⟩ (.slice a11 y1 c11)).setCell ⟨i8, 1, none⟩ (.slice a12 sn c12)).setCell ⟨i8, 2, none⟩ (.slice a13 v1 c13)).heap[w.heap.size + 1]? = some (.cells #[.slice none 0 0, .slice none 0 0, .slice none 0 0] 27 (0, 0))) := (heap_setCell_other _ _ _ _ hne1).trans ((heap_setCell_other _ _ _ _ hne1).trans ((heap_setCell_other _ _ _ _ hne1).trans RB10.out))
    have N11 : Hid (DA (((u1.setCell ⟨i8, 0, none⟩ (.slice a11 y1 c11)).setCell ⟨i8, 1, none⟩ (.slice a12 sn c12)).setCell ⟨i8, 2, none⟩ (.slice a13 v1 c13)) w3.heap.size (.slice a11 y1 c11) (.slice a12 sn c12) (.slice a13 v1 c13) L1 S O1) := da_box3 hda M10.out
    have M11 : Hid ((((u1.setCell ⟨i8, 0, none⟩ (.slice a11 y1 c11)).setCell ⟨i8, 1, none⟩ (.slice a12 sn c12)).setCell ⟨i8, 2, none⟩ (.slice a13 v1 c13)).heap[i8]? = some (.cells #[.slice a11 y1 c11, .slice a12 sn c12, .slice a13 v1 c13] 27 (0, 0))) := boxW M10.out
    clear hne0 hne1 hi8 hb hda zz1 zz2 zz3 B10 RA10 RB10 M10
    by_cases hq1 : q1 = 0
    · skip
      subst hq1
      rw [runR_go HQ1.out, HL1.out, HO1.out] at HXL HXO HKD
      have HF1 : Hid (filB L1 = true) := by have := act_fil HQ1.out; rw [HL1.out] at this; exact this
      obtain ⟨q2, HQ2⟩ : ∃ k, Hid (actK L1 O1 (⟨1, dft n, ⟨#[]⟩, d⟩ : OP) = k) := ⟨_, rfl⟩
      obtain ⟨L2, HL2⟩ : ∃ k, Hid (actL L1 O1 (⟨1, dft n, ⟨#[]⟩, d⟩ : OP) = k) := ⟨_, rfl⟩
      obtain ⟨O2, HO2⟩ : ∃ k, Hid (actO L1 O1 (⟨1, dft n, ⟨#[]⟩, d⟩ : OP) = k) := ⟨_, rfl⟩
      obtain ⟨y2, HY2⟩ : ∃ k, Hid (L2.length = k) := ⟨_, rfl⟩
      obtain ⟨v2, HV2⟩ : ∃ k, Hid (O2.length = k) := ⟨_, rfl⟩
      have hyv2 : y2 ≤ y1 + 1 ∧ v2 ≤ v1 + 1 := by
        have := act_len L1 O1 (⟨1, dft n, ⟨#[]⟩, d⟩ : OP)
        rw [HL2.out, HO2.out, HY2.out, HV2.out, HY1.out, HV1.out] at this
        exact this
      obtain ⟨zz1, zz2, zz3⟩ := HZ.out (⟨1, dft n, ⟨#[]⟩, d⟩ : OP) (by simp)
      obtain ⟨zm11_0, zm11_1, zm11_2⟩ := cells3 M11.out
      go_wp2_with fail
      generalize (((u1.setCell ⟨i8, 0, none⟩ (.slice a11 y1 c11)).setCell ⟨i8, 1, none⟩ (.slice a12 sn c12)).setCell ⟨i8, 2, none⟩ (.slice a13 v1 c13)) = w10 at *
      refine (l12Act_any _ _ _ _ _ _ _ _ _ y2 v2 q2 L1 S O1 ⟨1, dft n, ⟨#[]⟩, d⟩ w10 (N11.out.at HY1.out HSN.out HV1.out) HY1.out HSN.out HV1.out HF1.out (by omega) (by omega) zz1 zz2 zz3 HQ2.out (by rw [HL2.out]; exact HY2.out) (by rw [HO2.out]; exact HV2.out)).mono ?_
      rintro e u2 ⟨a21, c21, a22, c22, a23, c23, rfl, hb, hda⟩
      rw [HL2.out, HO2.out] at hda
      have BS2 : Hid (w.heap.size ≤ w10.heap.size) := B11.out.size
      have B20 : Hid (Below w.heap.size w u2) := B11.out.trans (hb.mono B11.out.size)
      have RA20 : Hid (u2.heap[w.heap.size]? = some (.cells #[.slice la ln lc, .slice sa sn sc, .slice oa on oc] 27 (0, 0))) := below_row hb (row_lt RA11.out) RA11.out
      have RB20 : Hid (u2.heap[w.heap.size + 1]? = some (.cells #[.slice none 0 0, .slice none 0 0, .slice none 0 0] 27 (0, 0))) := below_row hb (row_lt RB11.out) RB11.out
      have M20 : Hid (u2.heap[i8]? = some (.cells #[.slice a11 y1 c11, .slice a12 sn c12, .slice a13 v1 c13] 27 (0, 0))) := below_row hb (row_lt M11.out) M11.out
      clear B11 RA11 RB11 M11
      clear zm11_0 zm11_1 zm11_2
      obtain ⟨zm20_0, zm20_1, zm20_2⟩ := cells3 M20.out
      have mf2 := fun i => frozen_of_row _ _ i _ _ M20.out
      have hne0 : w.heap.size ≠ i8 := by have := I8.out; omega
      have hne1 : w.heap.size + 1 ≠ i8 := by have := I8.out; omega
      have hi8 : w.heap.size ≤ i8 := by have := I8.out; omega
      have B21 : Hid (Below w.heap.size w (((u2.setCell ⟨i8, 0, none⟩ (.slice a21 y2 c21)).setCell ⟨i8, 1, none⟩ (.slice a22 sn c22)).setCell ⟨i8, 2, none⟩ (.slice a23 v2 c23))) := ((B20.out.setCell hi8 _).setCell hi8 _).setCell hi8 _
      have RA21 : Hid ((((u2.setCell ⟨i8, 0, none⟩ (.slice a21 y2 c21)).setCell ⟨i8, 1, none⟩ (.slice a22 sn c22)).setCell ⟨i8, 2, none⟩ (.slice a23 v2 c23)).heap[w.heap.size]? = some (.cells #[.slice la ln lc, .slice sa sn sc, .slice oa on oc] 27 (0, 0))) := (heap_setCell_other _ _ _ _ hne0).trans ((heap_setCell_other _ _ _ _ hne0).trans ((heap_setCell_other _ _ _ _ hne0).trans RA20.out))
      have RB21 : Hid ((((u2.setCell ⟨i8, 0, none⟩ (.slice a21 y2 c21)).setCell ⟨i8, 1, none⟩ (.slice a22 sn c22)).setCell ⟨i8, 2, none⟩ (.slice a23 v2 c23)).heap[w.heap.size + 1]? = some (.cells #[.slice none 0 0, .slice none 0 0, .slice none 0 0] 27 (0, 0))) := (heap_setCell_other _ _ _ _ hne1).trans ((heap_setCell_other _ _ _ _ hne1).trans ((heap_setCell_other _ _ _ _ hne1).trans RB20.out))
      have N21 : Hid (DA (((u2.setCell ⟨i8, 0, none⟩ (.slice a21 y2 c21)).setCell ⟨i8, 1, none⟩ (.slice a22 sn c22)).setCell ⟨i8, 2, none⟩ (.slice a23 v2 c23)) w10.heap.size (.slice a21 y2 c21) (.slice a22 sn c22) (.slice a23 v2 c23) L2 S O2) := da_box3 hda M20.out
      have M21 : Hid ((((u2.setCell ⟨i8, 0, none⟩ (.slice a21 y2 c21)).setCell ⟨i8, 1, none⟩ (.slice a22 sn c22)).setCell ⟨i8, 2, none⟩ (.slice a23 v2 c23)).heap[i8]? = some (.cells #[.slice a21 y2 c21, .slice a22 sn c22, .slice a23 v2 c23] 27 (0, 0))) := boxW M20.out
      clear hne0 hne1 hi8 hb hda zz1 zz2 zz3 B20 RA20 RB20 M20
      by_cases hq2 : q2 = 0
      · skip
        subst hq2
        rw [runR_go HQ2.out, HL2.out, HO2.out] at HXL HXO HKD
        have HF2 : Hid (filB L2 = true) := by have := act_fil HQ2.out; rw [HL2.out] at this; exact this
        obtain ⟨q3, HQ3⟩ : ∃ k, Hid (actK L2 O2 (⟨2, dft n, n, ⟨#[]⟩⟩ : OP) = k) := ⟨_, rfl⟩
        obtain ⟨L3, HL3⟩ : ∃ k, Hid (actL L2 O2 (⟨2, dft n, n, ⟨#[]⟩⟩ : OP) = k) := ⟨_, rfl⟩
        obtain ⟨O3, HO3⟩ : ∃ k, Hid (actO L2 O2 (⟨2, dft n, n, ⟨#[]⟩⟩ : OP) = k) := ⟨_, rfl⟩
        obtain ⟨y3, HY3⟩ : ∃ k, Hid (L3.length = k) := ⟨_, rfl⟩
        obtain ⟨v3, HV3⟩ : ∃ k, Hid (O3.length = k) := ⟨_, rfl⟩
        have hyv3 : y3 ≤ y2 + 1 ∧ v3 ≤ v2 + 1 := by
          have := act_len L2 O2 (⟨2, dft n, n, ⟨#[]⟩⟩ : OP)
          rw [HL3.out, HO3.out, HY3.out, HV3.out, HY2.out, HV2.out] at this
          exact this
        obtain ⟨zz1, zz2, zz3⟩ := HZ.out (⟨2, dft n, n, ⟨#[]⟩⟩ : OP) (by simp)
        obtain ⟨zm21_0, zm21_1, zm21_2⟩ := cells3 M21.out
        go_wp2_with fail
        generalize (((u2.setCell ⟨i8, 0, none⟩ (.slice a21 y2 c21)).setCell ⟨i8, 1, none⟩ (.slice a22 sn c22)).setCell ⟨i8, 2, none⟩ (.slice a23 v2 c23)) = w20 at *
        refine (l12Act_any _ _ _ _ _ _ _ _ _ y3 v3 q3 L2 S O2 ⟨2, dft n, n, ⟨#[]⟩⟩ w20 (N21.out.at HY2.out HSN.out HV2.out) HY2.out HSN.out HV2.out HF2.out (by omega) (by omega) zz1 zz2 zz3 HQ3.out (by rw [HL3.out]; exact HY3.out) (by rw [HO3.out]; exact HV3.out)).mono ?_
        rintro e u3 ⟨a31, c31, a32, c32, a33, c33, rfl, hb, hda⟩
        rw [HL3.out, HO3.out] at hda
        have BS3 : Hid (w.heap.size ≤ w20.heap.size) := B21.out.size
        have B30 : Hid (Below w.heap.size w u3) := B21.out.trans (hb.mono B21.out.size)
        have RA30 : Hid (u3.heap[w.heap.size]? = some (.cells #[.slice la ln lc, .slice sa sn sc, .slice oa on oc] 27 (0, 0))) := below_row hb (row_lt RA21.out) RA21.out
        have RB30 : Hid (u3.heap[w.heap.size + 1]? = some (.cells #[.slice none 0 0, .slice none 0 0, .slice none 0 0] 27 (0, 0))) := below_row hb (row_lt RB21.out) RB21.out
        have M30 : Hid (u3.heap[i8]? = some (.cells #[.slice a21 y2 c21, .slice a22 sn c22, .slice a23 v2 c23] 27 (0, 0))) := below_row hb (row_lt M21.out) M21.out
        clear B21 RA21 RB21 M21
        clear zm21_0 zm21_1 zm21_2
        obtain ⟨zm30_0, zm30_1, zm30_2⟩ := cells3 M30.out
        have mf3 := fun i => frozen_of_row _ _ i _ _ M30.out
        have hne0 : w.heap.size ≠ i8 := by have := I8.out; omega
        have hne1 : w.heap.size + 1 ≠ i8 := by have := I8.out; omega
        have hi8 : w.heap.size ≤ i8 := by have := I8.out; omega
        have B31 : Hid (Below w.heap.size w (((u3.setCell ⟨i8, 0, none⟩ (.slice a31 y3 c31)).setCell ⟨i8, 1, none⟩ (.slice a32 sn c32)).setCell ⟨i8, 2, none⟩ (.slice a33 v3 c33))) := ((B30.out.setCell hi8 _).setCell hi8 _).setCell hi8 _
        have RA31 : Hid ((((u3.setCell ⟨i8, 0, none⟩ (.slice a31 y3 c31)).setCell ⟨i8, 1, none⟩ (.slice a32 sn c32)).setCell ⟨i8, 2, none⟩ (.slice a33 v3 c33)).heap[w.heap.size]? = some (.cells #[.slice la ln lc, .slice sa sn sc, .slice oa on oc] 27 (0, 0))) := (heap_setCell_other _ _ _ _ hne0).trans ((heap_setCell_other _ _ _ _ hne0).trans ((heap_setCell_other _ _ _ _ hne0).trans RA30.out))
        have RB31 : Hid ((((u3.setCell ⟨i8, 0, none⟩ (.slice a31 y3 c31)).setCell ⟨i8, 1, none⟩ (.slice a32 sn c32)).setCell ⟨i8, 2, none⟩ (.slice a33 v3 c33)).heap[w.heap.size + 1]? = some (.cells #[.slice none 0 0, .slice none 0 0, .slice none 0 0] 27 (0, 0))) := (heap_setCell_other _ _ _ _ hne1).trans ((heap_setCell_other _ _ _ _ hne1).trans ((heap_setCell_other _ _ _ _ hne1).trans RB30.out))
        have N31 : Hid (DA (((u3.setCell ⟨i8, 0, none⟩ (.slice a31 y3 c31)).setCell ⟨i8, 1, none⟩ (.slice a32 sn c32)).setCell ⟨i8, 2, none⟩ (.slice a33 v3 c33)) w20.heap.size (.slice a31 y3 c31) (.slice a32 sn c32) (.slice a33 v3 c33) L3 S O3) := da_box3 hda M30.out
        have M31 : Hid ((((u3.setCell ⟨i8, 0, none⟩ (.slice a31 y3 c31)).setCell ⟨i8, 1, none⟩ (.slice a32 sn c32)).setCell ⟨i8, 2, none⟩ (.slice a33 v3 c33)).heap[i8]? = some (.cells #[.slice a31 y3 c31, .slice a32 sn c32, .slice a33 v3 c33] 27 (0, 0))) := boxW M30.out
        clear hne0 hne1 hi8 hb hda zz1 zz2 zz3 B30 RA30 RB30 M30
        by_cases hq3 : q3 = 0
        · skip
          subst hq3
          rw [runR_go HQ3.out, HL3.out, HO3.out] at HXL HXO HKD
          have HF3 : Hid (filB L3 = true) := by have := act_fil HQ3.out; rw [HL3.out] at this; exact this
          rw [runR] at HXL HXO HKD
          have e1 : L3 = XL := by have := HXL.out; rwa [if_pos rfl] at this
          have e2 : O3 = XO := by have := HXO.out; rwa [if_pos rfl] at this
          have e3 : 0 = kd := HKD.out
          subst e1 e2 e3
          have ey : y3 = x1 := HY3.out.symm.trans X1.out
          have ev : v3 = x3 := HV3.out.symm.trans X3.out
          subst ey ev
          obtain ⟨zm31_0, zm31_1, zm31_2⟩ := cells3 M31.out
          go_wp2_with fail
          refine (l12Copy_any _ _ _ _ _ _ _ _ _ L3 S O3 _ (N31.out.at HY3.out HSN.out HV3.out) HY3.out HSN.out HV3.out (by omega) (by omega) (by omega)).mono ?_
          rintro e wz ⟨g1, e1, g2, e2, g3, e3, rfl, hb, hda⟩
          have BZ : Hid (w.heap.size ≤ (((u3.setCell ⟨i8, 0, none⟩ (.slice a31 y3 c31)).setCell ⟨i8, 1, none⟩ (.slice a32 sn c32)).setCell ⟨i8, 2, none⟩ (.slice a33 v3 c33)).heap.size) := B31.out.size
          have B99 : Hid (Below w.heap.size w wz) := B31.out.trans (hb.mono B31.out.size)
          have RB99 : Hid (wz.heap[w.heap.size + 1]? = some (.cells #[.slice none 0 0, .slice none 0 0, .slice none 0 0] 27 (0, 0))) := below_row hb (row_lt RB31.out) RB31.out
          clear B31 RB31
          have FN : Hid (∀ x y z, Below w.heap.size w (((wz.setCell ⟨w.heap.size + 1, 0, none⟩ x).setCell ⟨w.heap.size + 1, 1, none⟩ y).setCell ⟨w.heap.size + 1, 2, none⟩ z) ∧ DA (((wz.setCell ⟨w.heap.size + 1, 0, none⟩ x).setCell ⟨w.heap.size + 1, 1, none⟩ y).setCell ⟨w.heap.size + 1, 2, none⟩ z) w.heap.size (.slice g1 y3 e1) (.slice g2 sn e2) (.slice g3 v3 e3) L3 S O3) := fun x y z => boxedAt (by omega) B99.out (hda.bse BZ.out) RB99.out
          clear hb hda
          obtain ⟨zrb99_0, zrb99_1, zrb99_2⟩ := cells3 RB99.out
          have rf := fun i => frozen_of_row _ _ i _ _ RB99.out
          go_wp2
          refine bodyPost_ret (v := .tuple #[.agg #[.slice g1 y3 e1, .slice g2 sn e2, .slice g3 v3 e3], .int .i64 0]) (by simp [results, Try.results19, go_sem, zrb99_0, zrb99_1, zrb99_2]) rfl ⟨_, _, _, _, _, _, rfl, (FN.out _ _ _).1, (FN.out _ _ _).2⟩
        rw [runR_no (by rw [HQ3.out]; exact hq3)] at HXL HXO HKD
        simp only at HXL HXO HKD
        rw [HQ3.out] at HXL HXO HKD
        rw [if_neg hq3] at HXL HXO
        have e1 : L = XL := HXL.out
        have e2 : O = XO := HXO.out
        have e3 : q3 = kd := HKD.out
        subst e1 e2 e3
        have ey : ln = x1 := HLN.out.symm.trans X1.out
        have ev : on = x3 := HON.out.symm.trans X3.out
        subst ey ev
        have hqe : (q3 == 0) = false := by simp [hq3]
        have hqn : (q3 != 0) = true := by simp [hq3]
        obtain ⟨zra31_0, zra31_1, zra31_2⟩ := cells3 RA31.out
        go_wp2_with fail
        refine (CP.out _ B31.out).mono ?_
        rintro e wz ⟨g1, e1, g2, e2, g3, e3, rfl, hb, hda⟩
        have BZ : Hid (w.heap.size ≤ (((u3.setCell ⟨i8, 0, none⟩ (.slice a31 y3 c31)).setCell ⟨i8, 1, none⟩ (.slice a32 sn c32)).setCell ⟨i8, 2, none⟩ (.slice a33 v3 c33)).heap.size) := B31.out.size
        have B99 : Hid (Below w.heap.size w wz) := B31.out.trans (hb.mono B31.out.size)
        have RB99 : Hid (wz.heap[w.heap.size + 1]? = some (.cells #[.slice none 0 0, .slice none 0 0, .slice none 0 0] 27 (0, 0))) := below_row hb (row_lt RB31.out) RB31.out
        clear B31 RB31
        have FN : Hid (∀ x y z, Below w.heap.size w (((wz.setCell ⟨w.heap.size + 1, 0, none⟩ x).setCell ⟨w.heap.size + 1, 1, none⟩ y).setCell ⟨w.heap.size + 1, 2, none⟩ z) ∧ DA (((wz.setCell ⟨w.heap.size + 1, 0, none⟩ x).setCell ⟨w.heap.size + 1, 1, none⟩ y).setCell ⟨w.heap.size + 1, 2, none⟩ z) w.heap.size (.slice g1 ln e1) (.slice g2 sn e2) (.slice g3 on e3) L S O) := fun x y z => boxedAt (by omega) B99.out (hda.bse BZ.out) RB99.out
        clear hb hda
        obtain ⟨zrb99_0, zrb99_1, zrb99_2⟩ := cells3 RB99.out
        have rf := fun i => frozen_of_row _ _ i _ _ RB99.out
        go_wp2
        refine bodyPost_ret (v := .tuple #[.agg #[.slice g1 ln e1, .slice g2 sn e2, .slice g3 on e3], .int .i64 q3]) (by simp [results, Try.results19, go_sem, zrb99_0, zrb99_1, zrb99_2]) rfl ⟨_, _, _, _, _, _, rfl, (FN.out _ _ _).1, (FN.out _ _ _).2⟩
      rw [runR_no (by rw [HQ2.out]; exact hq2)] at HXL HXO HKD
      simp only at HXL HXO HKD
      rw [HQ2.out] at HXL HXO HKD
      rw [if_neg hq2] at HXL HXO
      have e1 : L = XL := HXL.out
      have e2 : O = XO := HXO.out
      have e3 : q2 = kd := HKD.out
      subst e1 e2 e3
      have ey : ln = x1 := HLN.out.symm.trans X1.out
      have ev : on = x3 := HON.out.symm.trans X3.out
      subst ey ev
      have hqe : (q2 == 0) = false := by simp [hq2]
      have hqn : (q2 != 0) = true := by simp [hq2]
      obtain ⟨zra21_0, zra21_1, zra21_2⟩ := cells3 RA21.out
      go_wp2_with fail
      refine (CP.out _ B21.out).mono ?_
      rintro e wz ⟨g1, e1, g2, e2, g3, e3, rfl, hb, hda⟩
      have BZ : Hid (w.heap.size ≤ (((u2.setCell ⟨i8, 0, none⟩ (.slice a21 y2 c21)).setCell ⟨i8, 1, none⟩ (.slice a22 sn c22)).setCell ⟨i8, 2, none⟩ (.slice a23 v2 c23)).heap.size) := B21.out.size
      have B99 : Hid (Below w.heap.size w wz) := B21.out.trans (hb.mono B21.out.size)
      have RB99 : Hid (wz.heap[w.heap.size + 1]? = some (.cells #[.slice none 0 0, .slice none 0 0, .slice none 0 0] 27 (0, 0))) := below_row hb (row_lt RB21.out) RB21.out
      clear B21 RB21
      have FN : Hid (∀ x y z, Below w.heap.size w (((wz.setCell ⟨w.heap.size + 1, 0, none⟩ x).setCell ⟨w.heap.size + 1, 1, none⟩ y).setCell ⟨w.heap.size + 1, 2, none⟩ z) ∧ DA (((wz.setCell ⟨w.heap.size + 1, 0, none⟩ x).setCell ⟨w.heap.size + 1, 1, none⟩ y).setCell ⟨w.heap.size + 1, 2, none⟩ z) w.heap.size (.slice g1 ln e1) (.slice g2 sn e2) (.slice g3 on e3) L S O) := fun x y z => boxedAt (by omega) B99.out (hda.bse BZ.out) RB99.out
      clear hb hda
      obtain ⟨zrb99_0, zrb99_1, zrb99_2⟩ := cells3 RB99.out
      have rf := fun i => frozen_of_row _ _ i _ _ RB99.out
      go_wp2
      refine bodyPost_ret (v := .tuple #[.agg #[.slice g1 ln e1, .slice g2 sn e2, .slice g3 on e3], .int .i64 q2]) (by simp [results, Try.results19, go_sem, zrb99_0, zrb99_1, zrb99_2]) rfl ⟨_, _, _, _, _, _, rfl, (FN.out _ _ _).1, (FN.out _ _ _).2⟩
    rw [runR_no (by rw [HQ1.out]; exact hq1)] at HXL HXO HKD
    simp only at HXL HXO HKD
    rw [HQ1.out] at HXL HXO HKD
    rw [if_neg hq1] at HXL HXO
    have e1 : L = XL := HXL.out
    have e2 : O = XO := HXO.out
    have e3 : q1 = kd := HKD.out
    subst e1 e2 e3
    have ey : ln = x1 := HLN.out.symm.trans X1.out
    have ev : on = x3 := HON.out.symm.trans X3.out
    subst ey ev
    have hqe : (q1 == 0) = false := by simp [hq1]
    have hqn : (q1 != 0) = true := by simp [hq1]
    obtain ⟨zra11_0, zra11_1, zra11_2⟩ := cells3 RA11.out
    go_wp2_with fail
    refine (CP.out _ B11.out).mono ?_
    rintro e wz ⟨g1, e1, g2, e2, g3, e3, rfl, hb, hda⟩
    have BZ : Hid (w.heap.size ≤ (((u1.setCell ⟨i8, 0, none⟩ (.slice a11 y1 c11)).setCell ⟨i8, 1, none⟩ (.slice a12 sn c12)).setCell ⟨i8, 2, none⟩ (.slice a13 v1 c13)).heap.size) := B11.out.size
    have B99 : Hid (Below w.heap.size w wz) := B11.out.trans (hb.mono B11.out.size)
    have RB99 : Hid (wz.heap[w.heap.size + 1]? = some (.cells #[.slice none 0 0, .slice none 0 0, .slice none 0 0] 27 (0, 0))) := below_row hb (row_lt RB11.out) RB11.out
    clear B11 RB11
    have FN : Hid (∀ x y z, Below w.heap.size w (((wz.setCell ⟨w.heap.size + 1, 0, none⟩ x).setCell ⟨w.heap.size + 1, 1, none⟩ y).setCell ⟨w.heap.size + 1, 2, none⟩ z) ∧ DA (((wz.setCell ⟨w.heap.size + 1, 0, none⟩ x).setCell ⟨w.heap.size + 1, 1, none⟩ y).setCell ⟨w.heap.size + 1, 2, none⟩ z) w.heap.size (.slice g1 ln e1) (.slice g2 sn e2) (.slice g3 on e3) L S O) := fun x y z => boxedAt (by omega) B99.out (hda.bse BZ.out) RB99.out
    clear hb hda
    obtain ⟨zrb99_0, zrb99_1, zrb99_2⟩ := cells3 RB99.out
    have rf := fun i => frozen_of_row _ _ i _ _ RB99.out
    go_wp2
    refine bodyPost_ret (v := .tuple #[.agg #[.slice g1 ln e1, .slice g2 sn e2, .slice g3 on e3], .int .i64 q1]) (by simp [results, Try.results19, go_sem, zrb99_0, zrb99_1, zrb99_2]) rfl ⟨_, _, _, _, _, _, rfl, (FN.out _ _ _).1, (FN.out _ _ _).2⟩

end Go.Proofs.Ytpahhhocgpohbaa
