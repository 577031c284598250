import Derived.Test.YtiojgkebdjdgbaaPack3
import Derived.Test.YtiojgkebdjdgbaaPack4
import Derived.Test.YtiojgkebdjdgbaaPack6
namespace Go.Proofs.Ytiojgkebdjdgbaa
open Go.RowKit

theorem arrPrices : Try.prog.arrayLen 67 = 6 := by kernel_rfl
theorem elPrices : (Try.prog.info? (Try.prog.elem 67)).map (·.size) = some 1 := by kernel_rfl
theorem undPrices : Try.prog.underlying 67 = some (.array (Try.prog.arrayLen 67) (Try.prog.elem 67)) := by kernel_rfl
theorem slice_prices (W : World) (g l : Nat) (h : l ≤ 6) : (Instr.sliceAt 67 (.pointer (some ⟨g, 0, none⟩)) none (some (.int .i64 l)) none).run Try.prog W = .ok (.slice (some ⟨g, 0, none⟩) l 6) W := by
  rw [run_sliceAt_array_h W _ _ undPrices .i64 (l : Int) (by omega) (by rw [arrPrices]; omega), arrPrices]
  have h1 := elPrices
  cases hq : Try.prog.info? (Try.prog.elem 67) with
  | none => simp [hq] at h1
  | some i => simp [sizeOf, typeInfo, hq, slicedAt, Addr.add]

/-- The columns of a row are columns. -/
theorem own_row {m k : Nat} (hk : k < facN m) : ∀ i, i < m → (rowL m k).getD i 0 = (own (rowL m k) i : Nat) ∧ own (rowL m k) i < m := by
  intro i hi
  have hi' : i < (rowN m k).length := by rw [rowN_length hk]; exact hi
  have e : (rowL m k).getD i 0 = (((rowN m k)[i] : Nat) : Int) := by simp [rowL, List.getD, hi']
  have h2 := rowN_lt (List.getElem_mem hi')
  unfold own
  rw [e]
  omega

theorem first_ints {W : World} {g m : Nat} {l : List Int} (h : W.heap[g]? = some (.cells (cellsOf l) 67 (0, 0))) : IntsAt W (some ⟨g, 0, none⟩) (l.take m) := ints_take' (IntsAt.of_row h) m

theorem apart {W X : World} {B n m : Nat} {e : TypeId} {u v : Value} {xs ys : List Value} (hu : W.ownsRow B e 1 u n xs) (hv : X.ownsRow W.heap.size e 1 v m ys) : (∀ b, u.ownBlock = some b → v.ownBlock ≠ some b) ∧ ∀ b, v.ownBlock = some b → u.ownBlock ≠ some b :=
  ⟨fun b h h2 => by have := (hu.lt b h).2; have := (hv.lt b h2).1; omega, fun b h h2 => by have := (hu.lt b h2).2; have := (hv.lt b h).1; omega⟩

set_option maxHeartbeats 2000000 in
theorem implDuals_any (n : Int) (a1 : Option Addr) (c1 : Nat) (cs : List Int) (w : World) (hA : IntsAt w a1 cs) :
    Calls Try.prog 21 #[.int .i64 n, .slice a1 cs.length c1] w fun e w' => ∃ s1 s2, e = .returned (.tuple #[s1, s2, .bool (costsB n cs)]) ∧ Below w.heap.size w w' ∧ w'.ownsRow w.heap.size 2 1 s1 (duR n cs).length ((duR n cs).map (Value.int .i64)) ∧ w'.ownsRow w.heap.size 2 1 s2 (duC n cs).length ((duC n cs).map (Value.int .i64)) ∧ ∀ b, s1.ownBlock = some b → s2.ownBlock ≠ some b := by
  have HA : Hid (IntsAt w a1 cs) := hA
  clear hA
  have hz := (zero_of_info Try.infoFees).1
  generalize hz0 : cellsOf z36 = z0 at hz
  have HZ : Hid (cellsOf z36 = z0) := hz0
  clear hz0
  have hzp := (zero_of_info Try.infoPrices).1
  generalize hzp0 : cellsOf (List.replicate 6 0) = zp at hzp
  have HZP : Hid (cellsOf (List.replicate 6 0) = zp) := hzp0
  clear hzp0
  obtain ⟨R, HR⟩ : ∃ v, Hid (duR n cs = v) := ⟨_, rfl⟩
  obtain ⟨C, HC⟩ : ∃ v, Hid (duC n cs = v) := ⟨_, rfl⟩
  obtain ⟨cb, HCB⟩ : ∃ cb, Hid (costsB n cs = cb) := ⟨_, rfl⟩
  rw [HR.out, HC.out, HCB.out]
  go_enter Try.func21, Try.ntmps21
  go_wp2_with fail
  refine (fees_any n a1 c1 cs _ HA.out).mono ?_
  rintro e w1 ⟨rfl, hb⟩
  have B1 : Hid (Below w.heap.size w w1) := hb
  clear hb
  obtain ⟨gr, HGR⟩ : ∃ gr, Hid (cellsOf (feeRes n cs) = gr) := ⟨_, rfl⟩
  have BW : Hid (Below w.heap.size w (w1.alloc (Obj.cells gr 61))) := B1.out.alloc B1.out.size _
  have GW : Hid ((w1.alloc (Obj.cells gr 61)).heap[w1.heap.size]? = some (.cells gr 61 (0, 0))) := heap_alloc_new _ _
  have hsz : (Try.prog.info? 61).map (·.size) = some gr.size := by rw [← HGR.out]; exact sizeFees_of (feeRes_length _ _)
  have HSZ : Hid _ := hsz
  have hone : gr.all (·.oneCell') = true := by rw [← HGR.out]; exact cellsOf_one _
  have hzz : z0.size = gr.size := by rw [← HZ.out, ← HGR.out, cellsOf_size, cellsOf_size, z36_length, feeRes_length]
  have HON : Hid _ := hone
  have HZZ : Hid _ := hzz
  clear hsz hone hzz
  rw [HGR.out, HCB.out]
  cases cb
  · obtain ⟨q1, q2⟩ := du_no HCB.out
    have HE : Hid (R = [] ∧ C = []) := ⟨HR.out.symm.trans q1, HC.out.symm.trans q2⟩
    clear q1 q2
    go_wp2_with (first
      | (with_reducible refine wpList_store_row ?_ 61 (.tmp 7) (.tmp 17) ?_ w1.heap.size gr ?_ ?_ 61 z0 ?_ ?_ ?_ ?_ ?_
         · rfl
         · rfl
         · rfl
         · rfl
         · exact heap_alloc_new _ _
         · exact HSZ.out
         · exact HZZ.out
         · exact HON.out
         rw [World.setRow_alloc_new]
         generalize w1.alloc (Obj.cells gr 61) = W at *))
    refine bodyPost_ret (v := .tuple #[.slice none 0 0, .slice none 0 0, .bool false]) (by simp [results, Try.results21, go_sem]) rfl ⟨_, _, rfl, BW.out, by rw [HE.out.1]; exact World.ownsRow_nil _ _ _ _, by rw [HE.out.2]; exact World.ownsRow_nil _ _ _ _, fun b h => by cases h⟩
  · obtain ⟨m, hnm, h1, h2, hl, hf⟩ := costsB_nat HCB.out
    subst hnm
    obtain ⟨q1, q2⟩ := du_yes HCB.out
    have hbk := bestK_lt m cs
    have HOW : Hid (∀ i, i < m → (rowL m (bestK m cs)).getD i 0 = (own (rowL m (bestK m cs)) i : Nat) ∧ own (rowL m (bestK m cs)) i < m) := own_row hbk
    have HLL : Hid ((rowL m (bestK m cs)).length = m) := rowL_length hbk
    obtain ⟨ls, HLS⟩ : ∃ v, Hid (rowL m (bestK m cs) = v) := ⟨_, rfl⟩
    rw [HLS.out] at q1 q2 HOW HLL
    have HO2 : Hid (∀ i, i < m → own ls i < m) := fun i hi => (HOW.out i hi).2
    obtain ⟨V, HV⟩ : ∃ v, Hid (costK m cs (bestK m cs) = v) := ⟨_, rfl⟩
    have HGF : Hid (cellsOf (feesTo m cs (m * m)) = gr) := by show _ = _; rw [← HGR.out, feeRes_true HCB.out]
    have HP6 : Hid ((kS m cs ls (List.replicate 6 0) m).length = 6) := by show _ = _; rw [kS_length]; simp
    have HPB : Hid (bdP 432000000 (kS m cs ls (List.replicate 6 0) m)) := bdP_mono (bd_kS (bd_zero 6) hf h2 HO2.out m) (by omega)
    have HR6 : Hid ((rS m cs ls (kS m cs ls (List.replicate 6 0) m) (List.replicate 6 0) m).length = 6) := by show _ = _; rw [rS_length]; simp
    have HRR : Hid ((rS m cs ls (kS m cs ls (List.replicate 6 0) m) (List.replicate 6 0) m).take m = R) := (rprice6 h2 HO2.out).trans (q1.symm.trans HR.out)
    have HCC : Hid ((kS m cs ls (List.replicate 6 0) m).take m = C) := (cprice6 h2 HO2.out).trans (q2.symm.trans HC.out)
    have HRL : Hid (R.length = m) := by show _ = _; rw [← HRR.out, List.length_take, HR6.out]; omega
    have HCL : Hid (C.length = m) := by show _ = _; rw [← HCC.out, List.length_take, HP6.out]; omega
    clear q1 q2 hl hbk
    have HCA : Hid (∀ W, Calls Try.prog 46 #[.agg gr, .int .i64 m] W fun e w' => ∃ sl, e = .returned (.tuple #[sl, .int .i64 V]) ∧ Below W.heap.size W w' ∧ w'.ownsRow W.heap.size 2 1 sl m (ls.map (Value.int .i64))) := by
      intro W
      have := assigned_any m cs W h2 hf
      rw [HV.out, HLS.out, HGF.out] at this
      exact this
    have HCC2 : Hid (∀ W b c, IntsAt W (some ⟨b, 0, none⟩) ls → Calls Try.prog 47 #[.agg gr, .slice (some ⟨b, 0, none⟩) m c] W fun e w' => e = .returned (.agg (cellsOf (kS m cs ls (List.replicate 6 0) m))) ∧ Below W.heap.size W w') := by
      intro W b c hI
      have := columnPrices_any m b 0 c cs ls W h2 hf hI HLL.out HOW.out
      rw [HGF.out] at this
      exact this
    obtain ⟨P, HP⟩ : ∃ v, Hid (kS m cs ls (List.replicate 6 0) m = v) := ⟨_, rfl⟩
    rw [HP.out] at HP6 HPB HR6 HRR HCC HCC2
    have HCR : Hid (∀ W b c, IntsAt W (some ⟨b, 0, none⟩) ls → Calls Try.prog 48 #[.agg gr, .slice (some ⟨b, 0, none⟩) m c, .agg (cellsOf P)] W fun e w' => e = .returned (.agg (cellsOf (rS m cs ls P (List.replicate 6 0) m))) ∧ Below W.heap.size W w') := by
      intro W b c hI
      have := rowPrices_any m b 0 c cs ls P W h2 hf hI HLL.out HOW.out HP6.out HPB.out
      rw [HGF.out] at this
      exact this
    obtain ⟨Q, HQ⟩ : ∃ v, Hid (rS m cs ls P (List.replicate 6 0) m = v) := ⟨_, rfl⟩
    rw [HQ.out] at HR6 HRR HCR
    clear hf HOW HO2 HPB HV HP HQ
    obtain ⟨pr, HPR⟩ : ∃ v, Hid (cellsOf P = v) := ⟨_, rfl⟩
    rw [HPR.out] at HCC2 HCR
    obtain ⟨qr, HQR⟩ : ∃ v, Hid (cellsOf Q = v) := ⟨_, rfl⟩
    rw [HQR.out] at HCR
    have SP : Hid ((Try.prog.info? 67).map (·.size) = some pr.size) := by show _ = _; rw [← HPR.out]; exact sizePrices_of HP6.out
    have SQ : Hid ((Try.prog.info? 67).map (·.size) = some qr.size) := by show _ = _; rw [← HQR.out]; exact sizePrices_of HR6.out
    have ZP : Hid (zp.size = pr.size) := by show _ = _; rw [← HZP.out, ← HPR.out, cellsOf_size, cellsOf_size, HP6.out]; simp
    have ZQ : Hid (zp.size = qr.size) := by show _ = _; rw [← HZP.out, ← HQR.out, cellsOf_size, cellsOf_size, HR6.out]; simp
    have NP : Hid (pr.all (·.oneCell') = true) := by show _ = _; rw [← HPR.out]; exact cellsOf_one _
    have NQ : Hid (qr.all (·.oneCell') = true) := by show _ = _; rw [← HQR.out]; exact cellsOf_one _
    have hsl := fun X : World => fun G : Nat => slice_prices X G m h2
    go_wp2_with (first
      | (with_reducible refine wpList_store_row ?_ 61 (.tmp 7) (.tmp 17) ?_ w1.heap.size gr ?_ ?_ 61 z0 ?_ ?_ ?_ ?_ ?_
         · rfl
         · rfl
         · rfl
         · rfl
         · exact heap_alloc_new _ _
         · exact HSZ.out
         · exact HZZ.out
         · exact HON.out
         rw [World.setRow_alloc_new]
         generalize w1.alloc (Obj.cells gr 61) = W at *)
      | (with_reducible refine wpList_load_row ?_ 61 (.tmp 7) ?_ (w1.heap.size) ?_ 61 gr (0, 0) _ ?_ Try.underlying61 ?_ ?_ ?_
         · rfl
         · rfl
         · rfl
         · first | exact GW.out | exact G3.out | exact G6.out
         · rfl
         · exact HSZ.out)
      | (go_at_call 46
         refine (HCA.out _).mono ?_
         rintro e w3 ⟨sl, rfl, hb3, ho3⟩
         obtain ⟨gs, gc, rfl⟩ : ∃ g c, sl = .slice (some ⟨g, 0, none⟩) m c := own_sm ho3 (fun e => by obtain ⟨_, ⟨_, h⟩ | ⟨_, _, _, h, _⟩⟩ := ho3 <;> first | omega | (rw [e] at h; cases h))
         have B3 : Hid (Below w.heap.size w w3) := BW.out.trans (hb3.mono BW.out.size)
         have G3 : Hid (w3.heap[w1.heap.size]? = some (.cells gr 61 (0, 0))) := below_row hb3 (row_lt GW.out) GW.out
         have I3 : Hid (IntsAt w3 (some ⟨gs, 0, none⟩) ls) := owns_ints ho3
         clear hb3 ho3)
      | (go_at_call 47
         refine (HCC2.out _ _ _ I3.out).mono ?_
         rintro e w4 ⟨rfl, hb4⟩
         have X6 : Hid (Below w3.heap.size w3 (w4.alloc (.cells pr 67))) := hb4.alloc hb4.size _
         have B6 : Hid (Below w.heap.size w (w4.alloc (.cells pr 67))) := B3.out.trans (X6.out.mono B3.out.size)
         have G6 : Hid ((w4.alloc (.cells pr 67)).heap[w1.heap.size]? = some (.cells gr 61 (0, 0))) := below_row X6.out (row_lt G3.out) G3.out
         have I6 : Hid (IntsAt (w4.alloc (.cells pr 67)) (some ⟨gs, 0, none⟩) ls) := I3.out.below X6.out
         have P6 : Hid ((w4.alloc (.cells pr 67)).heap[w4.heap.size]? = some (.cells pr 67 (0, 0))) := heap_alloc_new _ _
         clear hb4)
      | (with_reducible refine wpList_store_row ?_ 67 (.tmp 11) (.tmp 29) ?_ w4.heap.size pr ?_ ?_ 67 zp ?_ ?_ ?_ ?_ ?_
         · rfl
         · rfl
         · rfl
         · rfl
         · exact heap_alloc_new _ _
         · exact SP.out
         · exact ZP.out
         · exact NP.out
         rw [World.setRow_alloc_new]
         generalize w4.alloc (Obj.cells pr 67) = W4 at *)
      | (with_reducible refine wpList_load_row ?_ 67 (.tmp 11) ?_ (w4.heap.size) ?_ 67 pr (0, 0) _ ?_ Try.underlying67 ?_ ?_ ?_
         · rfl
         · rfl
         · rfl
         · exact P6.out
         · rfl
         · exact SP.out)
      | (go_at_call 48
         refine (HCR.out _ _ _ I6.out).mono ?_
         rintro e w5 ⟨rfl, hb5⟩
         have X7 : Hid (Below W4.heap.size W4 (w5.alloc (.cells qr 67))) := hb5.alloc hb5.size _
         have B7 : Hid (Below w.heap.size w (w5.alloc (.cells qr 67))) := B6.out.trans (X7.out.mono B6.out.size)
         have P7 : Hid ((w5.alloc (.cells qr 67)).heap[w4.heap.size]? = some (.cells pr 67 (0, 0))) := below_row X7.out (row_lt P6.out) P6.out
         have Q7 : Hid ((w5.alloc (.cells qr 67)).heap[w5.heap.size]? = some (.cells qr 67 (0, 0))) := heap_alloc_new _ _
         clear hb5)
      | (with_reducible refine wpList_store_row ?_ 67 (.tmp 12) (.tmp 33) ?_ w5.heap.size qr ?_ ?_ 67 zp ?_ ?_ ?_ ?_ ?_
         · rfl
         · rfl
         · rfl
         · rfl
         · exact heap_alloc_new _ _
         · exact SQ.out
         · exact ZQ.out
         · exact NQ.out
         rw [World.setRow_alloc_new]
         generalize w5.alloc (Obj.cells qr 67) = W5 at *))
    have IP : Hid (IntsAt W5 (some ⟨w4.heap.size, 0, none⟩) C) := by have := first_ints (l := P) (m := m) (HPR.out.symm ▸ P7.out); rw [HCC.out] at this; exact this
    have IQ : Hid (IntsAt W5 (some ⟨w5.heap.size, 0, none⟩) R) := by have := first_ints (l := Q) (m := m) (HQR.out.symm ▸ Q7.out); rw [HRR.out] at this; exact this
    clear P7 Q7 P6 G6 I6 X7 X6 G3 I3 GW BW HCR HCC2 HCA SP SQ ZP ZQ NP NQ HSZ HON HZZ
    go_region_with (first
      | (go_at_call 49
         with_reducible refine (clone_own w5.heap.size 0 m 6 R _ (IQ.out.below (Below.refl _ _).drew) HRL.out (by omega)).mono ?_
         rintro e wa ⟨sa, rfl, hba, hoa⟩
         have BA : Hid (Below W5.heap.size W5 wa) := (Below.refl _ _).drew.trans hba
         have OA : Hid (wa.ownsRow W5.heap.size 2 1 sa m (R.map (Value.int .i64))) := hoa
         clear hba hoa)
      | (go_at_call 49
         with_reducible refine (clone_own w4.heap.size 0 m 6 C wa (IP.out.below BA.out) HCL.out (by omega)).mono ?_
         rintro e wc ⟨sc, rfl, hbc, hoc⟩
         have BC : Hid (Below W5.heap.size W5 wc) := BA.out.trans (hbc.mono BA.out.size)
         have O1 : Hid (wc.ownsRow W5.heap.size 2 1 sa m (R.map (Value.int .i64))) := owns_below OA.out hbc
         have O2 : Hid (wc.ownsRow W5.heap.size 2 1 sc m (C.map (Value.int .i64))) := owns_base hoc BA.out.size
         have AP : Hid (∀ b, sa.ownBlock = some b → sc.ownBlock ≠ some b) := (apart OA.out hoc).1
         clear hbc hoc)
      | (go_at_call 49
         with_reducible refine (clone_own w4.heap.size 0 m 6 C _ (IP.out.below (Below.refl _ _).drew) HCL.out (by omega)).mono ?_
         rintro e wb ⟨sc, rfl, hbb, hob⟩
         have BB : Hid (Below W5.heap.size W5 wb) := (Below.refl _ _).drew.trans hbb
         have OB : Hid (wb.ownsRow W5.heap.size 2 1 sc m (C.map (Value.int .i64))) := hob
         clear hbb hob)
      | (go_at_call 49
         with_reducible refine (clone_own w5.heap.size 0 m 6 R wb (IQ.out.below BB.out) HRL.out (by omega)).mono ?_
         rintro e wc ⟨sa, rfl, hbc, hoc⟩
         have BC : Hid (Below W5.heap.size W5 wc) := BB.out.trans (hbc.mono BB.out.size)
         have O2 : Hid (wc.ownsRow W5.heap.size 2 1 sc m (C.map (Value.int .i64))) := owns_below OB.out hbc
         have O1 : Hid (wc.ownsRow W5.heap.size 2 1 sa m (R.map (Value.int .i64))) := owns_base hoc BB.out.size
         have AP : Hid (∀ b, sa.ownBlock = some b → sc.ownBlock ≠ some b) := (apart OB.out hoc).2
         clear hbc hoc))
    all_goals
      go_wp2
      refine bodyPost_ret (v := .tuple #[sa, sc, .bool true]) (by simp [results, Try.results21, go_sem]) rfl ⟨_, _, rfl, B7.out.trans (BC.out.mono B7.out.size), by rw [HRL.out]; exact owns_base O1.out B7.out.size, by rw [HCL.out]; exact owns_base O2.out B7.out.size, AP.out⟩

end Go.Proofs.Ytiojgkebdjdgbaa
