import Derived.Test.YtimieikdngoppaaPack2
import Derived.Test.YtimieikdngoppaaPack3
import Derived.Test.YtimieikdngoppaaSpecDuals
import Derived.Test.YtimieikdngoppaaPack5
import Derived.Test.YtimieikdngoppaaPack6
namespace Go.Proofs.Ytimieikdngoppaa
open Go.RowKit

theorem arrPrices : Try.prog.arrayLen 42 = 6 := by kernel_rfl
theorem elPrices : (Try.prog.info? (Try.prog.elem 42)).map (·.size) = some 1 := by kernel_rfl
theorem undPrices : Try.prog.underlying 42 = some (.array (Try.prog.arrayLen 42) (Try.prog.elem 42)) := by kernel_rfl
theorem slice_prices (W : World) (g l : Nat) (h : l ≤ 6) : (Instr.sliceAt 42 (.pointer (some ⟨g, 0, none⟩)) none (some (.int .i64 l)) none).run Try.prog W = .ok (.slice (some ⟨g, 0, none⟩) l 6) W := by
  rw [run_sliceAt_array_h W _ _ undPrices .i64 (l : Int) (by omega) (by rw [arrPrices]; omega), arrPrices]
  have h1 := elPrices
  cases hq : Try.prog.info? (Try.prog.elem 42) with
  | none => simp [hq] at h1
  | some i => simp [sizeOf, typeInfo, hq, slicedAt, Addr.add]

/-- The columns of a row are columns. -/
theorem own_row {m k : Nat} (hk : k < facN m) : ∀ i, i < m → (rowL m k).getD i 0 = (own (rowL m k) i : Nat) ∧ own (rowL m k) i < m := by
  intro i hi
  have hi' : i < (rowN m k).length := by rw [rowN_length hk]; exact hi
  have e : (rowL m k).getD i 0 = (((rowN m k)[i] : Nat) : Int) := by simp [rowL, List.getD, hi']
  have h2 := rowN_lt (List.getElem_mem hi')
  unfold own
  rw [e]
  omega

theorem first_ints {W : World} {g m : Nat} {l : List Int} (h : W.heap[g]? = some (.cells (cellsOf l) 42 (0, 0))) : IntsAt W (some ⟨g, 0, none⟩) (l.take m) := ints_take' (IntsAt.of_row h) m

theorem apart {W X : World} {B n m : Nat} {e : TypeId} {u v : Value} {xs ys : List Value} (hu : W.ownsRow B e 1 u n xs) (hv : X.ownsRow W.heap.size e 1 v m ys) : (∀ b, u.ownBlock = some b → v.ownBlock ≠ some b) ∧ ∀ b, v.ownBlock = some b → u.ownBlock ≠ some b :=
  ⟨fun b h h2 => by have := (hu.lt b h).2; have := (hv.lt b h2).1; omega, fun b h h2 => by have := (hu.lt b h2).2; have := (hv.lt b h).1; omega⟩

set_option maxHeartbeats 2000000 in
theorem implDuals_any (n : Int) (a1 : Option Addr) (c1 : Nat) (cs : List Int) (w : World) (hA : IntsAt w a1 cs) :
    Calls Try.prog 8 #[.int .i64 n, .slice a1 cs.length c1] w fun e w' => ∃ s1 s2, e = .returned (.tuple #[s1, s2, .bool (costsB n cs)]) ∧ Below w.heap.size w w' ∧ w'.ownsRow w.heap.size 2 1 s1 (duR n cs).length ((duR n cs).map (Value.int .i64)) ∧ w'.ownsRow w.heap.size 2 1 s2 (duC n cs).length ((duC n cs).map (Value.int .i64)) ∧ ∀ b, s1.ownBlock = some b → s2.ownBlock ≠ some b := by
  have HA : Hid (IntsAt w a1 cs) := hA
  clear hA
  have hz := (zero_of_info Try.infoFees).1
  generalize hz0 : cellsOf z36 = z0 at hz
  have HZ : Hid (cellsOf z36 = z0) := hz0
  clear hz0
  have hzp := (zero_of_info Try.infoPrices).1
  generalize hzp0 : cellsOf (List.replicate 6 0) = zp at hzp
  have HZP : Hid (cellsOf (List.replicate 6 0) = zp) := hzp0
  clear hzp0
  obtain ⟨R, HR⟩ : ∃ v, Hid (duR n cs = v) := ⟨_, rfl⟩
  obtain ⟨C, HC⟩ : ∃ v, Hid (duC n cs = v) := ⟨_, rfl⟩
  obtain ⟨cb, HCB⟩ : ∃ cb, Hid (costsB n cs = cb) := ⟨_, rfl⟩
  rw [HR.out, HC.out, HCB.out]
  go_enter Try.func8, Try.ntmps8
  go_wp2_with fail
  refine (fees_any n a1 c1 cs _ HA.out).mono ?_
  rintro e w1 ⟨rfl, hb⟩
  have B1 : Hid (Below w.heap.size w w1) := hb
  clear hb
  obtain ⟨gr, HGR⟩ : ∃ gr, Hid (cellsOf (feeRes n cs) = gr) := ⟨_, rfl⟩
  have BW : Hid (Below w.heap.size w (w1.alloc (Obj.cells gr 38))) := B1.out.alloc B1.out.size _
  have GW : Hid ((w1.alloc (Obj.cells gr 38)).heap[w1.heap.size]? = some (.cells gr 38 (0, 0))) := heap_alloc_new _ _
  have hsz : (Try.prog.info? 38).map (·.size) = some gr.size := by rw [← HGR.out]; exact sizeFees_of (feeRes_length _ _)
  have HSZ : Hid _ := hsz
  have hone : gr.all (·.oneCell') = true := by rw [← HGR.out]; exact cellsOf_one _
  have hzz : z0.size = gr.size := by rw [← HZ.out, ← HGR.out, cellsOf_size, cellsOf_size, z36_length, feeRes_length]
  have HON : Hid _ := hone
  have HZZ : Hid _ := hzz
  clear hsz hone hzz
  rw [HGR.out, HCB.out]
  cases cb
  · obtain ⟨q1, q2⟩ := du_no HCB.out
    have HE : Hid (R = [] ∧ C = []) := ⟨HR.out.symm.trans q1, HC.out.symm.trans q2⟩
    clear q1 q2
    go_wp2_with (first
      | (with_reducible refine wpList_store_row ?_ 38 (.tmp 7) (.tmp 17) ?_ w1.heap.size gr ?_ ?_ 38 z0 ?_ ?_ ?_ ?_ ?_
         · rfl
         · rfl
         · rfl
         · rfl
         · exact heap_alloc_new _ _
         · exact HSZ.out
         · exact HZZ.out
         · exact HON.out
         rw [World.setRow_alloc_new]
         generalize w1.alloc (Obj.cells gr 38) = W at *))
    refine bodyPost_ret (v := .tuple #[.slice none 0 0, .slice none 0 0, .bool false]) (by simp [results, Try.results8, go_sem]) rfl ⟨_, _, rfl, BW.out, by rw [HE.out.1]; exact World.ownsRow_nil _ _ _ _, by rw [HE.out.2]; exact World.ownsRow_nil _ _ _ _, fun b h => by cases h⟩
  · obtain ⟨m, hnm, h1, h2, hl, hf⟩ := costsB_nat HCB.out
    subst hnm
    obtain ⟨q1, q2⟩ := du_yes HCB.out
    have hbk := bestK_lt m cs
    have HOW : Hid (∀ i, i < m → (rowL m (bestK m cs)).getD i 0 = (own (rowL m (bestK m cs)) i : Nat) ∧ own (rowL m (bestK m cs)) i < m) := own_row hbk
    have HLL : Hid ((rowL m (bestK m cs)).length = m) := rowL_length hbk
    obtain ⟨ls, HLS⟩ : ∃ v, Hid (rowL m (bestK m cs) = v) := ⟨_, rfl⟩
    rw [HLS.out] at q1 q2 HOW HLL
    have HO2 : Hid (∀ i, i < m → own ls i < m) := fun i hi => (HOW.out i hi).2
    obtain ⟨V, HV⟩ : ∃ v, Hid (costK m cs (bestK m cs) = v) := ⟨_, rfl⟩
    have HGF : Hid (cellsOf (feesTo m cs (m * m)) = gr) := by show _ = _; rw [← HGR.out, feeRes_true HCB.out]
    have HP6 : Hid ((kS m cs ls (List.replicate 6 0) m).length = 6) := by show _ = _; rw [kS_length]; simp
    have HPB : Hid (bdP 432000000 (kS m cs ls (List.replicate 6 0) m)) := bdP_mono (bd_kS (bd_zero 6) hf h2 HO2.out m) (by omega)
    have HR6 : Hid ((rS m cs ls (kS m cs ls (List.replicate 6 0) m) (List.replicate 6 0) m).length = 6) := by show _ = _; rw [rS_length]; simp
    have HRR : Hid ((rS m cs ls (kS m cs ls (List.replicate 6 0) m) (List.replicate 6 0) m).take m = R) := (rprice6 h2 HO2.out).trans (q1.symm.trans HR.out)
    have HCC : Hid ((kS m cs ls (List.replicate 6 0) m).take m = C) := (cprice6 h2 HO2.out).trans (q2.symm.trans HC.out)
    have HRL : Hid (R.length = m) := by show _ = _; rw [← HRR.out, List.length_take, HR6.out]; omega
    have HCL : Hid (C.length = m) := by show _ = _; rw [← HCC.out, List.length_take, HP6.out]; omega
    clear q1 q2 hl hbk
    have HCA : Hid (∀ W, Calls Try.prog 18 #[.agg gr, .int .i64 m] W fun e w' => ∃ sl, e = .returned (.tuple #[sl, .int .i64 V]) ∧ Below W.heap.size W w' ∧ w'.ownsRow W.heap.size 2 1 sl m (ls.map (Value.int .i64))) := by
      intro W
      have := assigned_any m cs W h2 hf
      rw [HV.out, HLS.out, HGF.out] at this
      exact this
    have HCC2 : Hid (∀ W b c, IntsAt W (some ⟨b, 0, none⟩) ls → Calls Try.prog 19 #[.agg gr, .slice (some ⟨b, 0, none⟩) m c] W fun e w' => e = .returned (.agg (cellsOf (kS m cs ls (List.replicate 6 0) m))) ∧ Below W.heap.size W w') := by
      intro W b c hI
      have := columnPrices_any m b 0 c cs ls W h2 hf hI HLL.out HOW.out
      rw [HGF.out] at this
      exact this
    obtain ⟨P, HP⟩ : ∃ v, Hid (kS m cs ls (List.replicate 6 0) m = v) := ⟨_, rfl⟩
    rw [HP.out] at HP6 HPB HR6 HRR HCC HCC2
    have HCR : Hid (∀ W b c, IntsAt W (some ⟨b, 0, none⟩) ls → Calls Try.prog 20 #[.agg gr, .slice (some ⟨b, 0, none⟩) m c, .agg (cellsOf P)] W fun e w' => e = .returned (.agg (cellsOf (rS m cs ls P (List.replicate 6 0) m))) ∧ Below W.heap.size W w') := by
      intro W b c hI
      have := rowPrices_any m b 0 c cs ls P W h2 hf hI HLL.out HOW.out HP6.out HPB.out
      rw [HGF.out] at this
      exact this
    obtain ⟨Q, HQ⟩ : ∃ v, Hid (rS m cs ls P (List.replicate 6 0) m = v) := ⟨_, rfl⟩
    rw [HQ.out] at HR6 HRR HCR
    clear hf HOW HO2 HPB HV HP HQ
    obtain ⟨pr, HPR⟩ : ∃ v, Hid (cellsOf P = v) := ⟨_, rfl⟩
    rw [HPR.out] at HCC2 HCR
    obtain ⟨qr, HQR⟩ : ∃ v, Hid (cellsOf Q = v) := ⟨_, rfl⟩
    rw [HQR.out] at HCR
    have SP : Hid ((Try.prog.info? 42).map (·.size) = some pr.size) := by show _ = _; rw [← HPR.out]; exact sizePrices_of HP6.out
    have SQ : Hid ((Try.prog.info? 42).map (·.size) = some qr.size) := by show _ = _; rw [← HQR.out]; exact sizePrices_of HR6.out
    have ZP : Hid (zp.size = pr.size) := by show _ = _; rw [← HZP.out, ← HPR.out, cellsOf_size, cellsOf_size, HP6.out]; simp
    have ZQ : Hid (zp.size = qr.size) := by show _ = _; rw [← HZP.out, ← HQR.out, cellsOf_size, cellsOf_size, HR6.out]; simp
    have NP : Hid (pr.all (·.oneCell') = true) := by show _ = _; rw [← HPR.out]; exact cellsOf_one _
    have NQ : Hid (qr.all (·.oneCell') = true) := by show _ = _; rw [← HQR.out]; exact cellsOf_one _
    have hsl := fun X : World => fun G : Nat => slice_prices X G m h2
    go_wp2_with (first
      | (with_reducible refine wpList_store_row ?_ 38 (.tmp 7) (.tmp 17) ?_ w1.heap.size gr ?_ ?_ 38 z0 ?_ ?_ ?_ ?_ ?_
         · rfl
         · rfl
         · rfl
         · rfl
         · exact heap_alloc_new _ _
         · exact HSZ.out
         · exact HZZ.out
         · exact HON.out
         rw [World.setRow_alloc_new]
         generalize w1.alloc (Obj.cells gr 38) = W at *)
      | (with_reducible refine wpList_load_row ?_ 38 (.tmp 7) ?_ (w1.heap.size) ?_ 38 gr (0, 0) _ ?_ Try.underlying38 ?_ ?_ ?_
         · rfl
         · rfl
         · rfl
         · first | exact GW.out | exact G3.out | exact G6.out
         · rfl
         · exact HSZ.out)
      | (go_at_call 18
         refine (HCA.out _).mono ?_
         rintro e w3 ⟨sl, rfl, hb3, ho3⟩
         obtain ⟨gs, gc, rfl⟩ : ∃ g c, sl = .slice (some ⟨g, 0, none⟩) m c := own_sm ho3 (fun e => by obtain ⟨_, ⟨_, h⟩ | ⟨_, _, _, h, _⟩⟩ := ho3 <;> first | omega | (rw [e] at h; cases h))
         have B3 : Hid (Below w.heap.size w w3) := BW.out.trans (hb3.mono BW.out.size)
         have G3 : Hid (w3.heap[w1.heap.size]? = some (.cells gr 38 (0, 0))) := below_row hb3 (row_lt GW.out) GW.out
         have I3 : Hid (IntsAt w3 (some ⟨gs, 0, none⟩) ls) := owns_ints ho3
         clear hb3 ho3)
      | (go_at_call 19
         refine (HCC2.out _ _ _ I3.out).mono ?_
         rintro e w4 ⟨rfl, hb4⟩
         have X6 : Hid (Below w3.heap.size w3 (w4.alloc (.cells pr 42))) := hb4.alloc hb4.size _
         have B6 : Hid (Below w.heap.size w (w4.alloc (.cells pr 42))) := B3.out.trans (X6.out.mono B3.out.size)
         have G6 : Hid ((w4.alloc (.cells pr 42)).heap[w1.heap.size]? = some (.cells gr 38 (0, 0))) := below_row X6.out (row_lt G3.out) G3.out
         have I6 : Hid (IntsAt (w4.alloc (.cells pr 42)) (some ⟨gs, 0, none⟩) ls) := I3.out.below X6.out
         have P6 : Hid ((w4.alloc (.cells pr 42)).heap[w4.heap.size]? = some (.cells pr 42 (0, 0))) := heap_alloc_new _ _
         clear hb4)
      | (with_reducible refine wpList_store_row ?_ 42 (.tmp 11) (.tmp 29) ?_ w4.heap.size pr ?_ ?_ 42 zp ?_ ?_ ?_ ?_ ?_
         · rfl
         · rfl
         · rfl
         · rfl
         · exact heap_alloc_new _ _
         · exact SP.out
         · exact ZP.out
         · exact NP.out
         rw [World.setRow_alloc_new]
         generalize w4.alloc (Obj.cells pr 42) = W4 at *)
      | (with_reducible refine wpList_load_row ?_ 42 (.tmp 11) ?_ (w4.heap.size) ?_ 42 pr (0, 0) _ ?_ Try.underlying42 ?_ ?_ ?_
         · rfl
         · rfl
         · rfl
         · exact P6.out
         · rfl
         · exact SP.out)
      | (go_at_call 20
         refine (HCR.out _ _ _ I6.out).mono ?_
         rintro e w5 ⟨rfl, hb5⟩
         have X7 : Hid (Below W4.heap.size W4 (w5.alloc (.cells qr 42))) := hb5.alloc hb5.size _
         have B7 : Hid (Below w.heap.size w (w5.alloc (.cells qr 42))) := B6.out.trans (X7.out.mono B6.out.size)
         have P7 : Hid ((w5.alloc (.cells qr 42)).heap[w4.heap.size]? = some (.cells pr 42 (0, 0))) := below_row X7.out (row_lt P6.out) P6.out
         have Q7 : Hid ((w5.alloc (.cells qr 42)).heap[w5.heap.size]? = some (.cells qr 42 (0, 0))) := heap_alloc_new _ _
         clear hb5)
      | (with_reducible refine wpList_store_row ?_ 42 (.tmp 12) (.tmp 33) ?_ w5.heap.size qr ?_ ?_ 42 zp ?_ ?_ ?_ ?_ ?_
         · rfl
         · rfl
         · rfl
         · rfl
         · exact heap_alloc_new _ _
         · exact SQ.out
         · exact ZQ.out
         · exact NQ.out
         rw [World.setRow_alloc_new]
         generalize w5.alloc (Obj.cells qr 42) = W5 at *))
    have IP : Hid (IntsAt W5 (some ⟨w4.heap.size, 0, none⟩) C) := by have := first_ints (l := P) (m := m) (HPR.out.symm ▸ P7.out); rw [HCC.out] at this; exact this
    have IQ : Hid (IntsAt W5 (some ⟨w5.heap.size, 0, none⟩) R) := by have := first_ints (l := Q) (m := m) (HQR.out.symm ▸ Q7.out); rw [HRR.out] at this; exact this
    clear P7 Q7 P6 G6 I6 X7 X6 G3 I3 GW BW HCR HCC2 HCA SP SQ ZP ZQ NP NQ HSZ HON HZZ
    go_region_with (first
      | (go_at_call 21
         with_reducible refine (clone_own w5.heap.size 0 m 6 R _ (IQ.out.below (Below.refl _ _).drew) HRL.out (by omega)).mono ?_
         rintro e wa ⟨sa, rfl, hba, hoa⟩
         have BA : Hid (Below W5.heap.size W5 wa) := (Below.refl _ _).drew.trans hba
         have OA : Hid (wa.ownsRow W5.heap.size 2 1 sa m (R.map (Value.int .i64))) := hoa
         clear hba hoa)
      | (go_at_call 21
         with_reducible refine (clone_own w4.heap.size 0 m 6 C wa (IP.out.below BA.out) HCL.out (by omega)).mono ?_
         rintro e wc ⟨sc, rfl, hbc, hoc⟩
         have BC : Hid (Below W5.heap.size W5 wc) := BA.out.trans (hbc.mono BA.out.size)
         have O1 : Hid (wc.ownsRow W5.heap.size 2 1 sa m (R.map (Value.int .i64))) := owns_below OA.out hbc
         have O2 : Hid (wc.ownsRow W5.heap.size 2 1 sc m (C.map (Value.int .i64))) := owns_base hoc BA.out.size
         have AP : Hid (∀ b, sa.ownBlock = some b → sc.ownBlock ≠ some b) := (apart OA.out hoc).1
         clear hbc hoc)
      | (go_at_call 21
         with_reducible refine (clone_own w4.heap.size 0 m 6 C _ (IP.out.below (Below.refl _ _).drew) HCL.out (by omega)).mono ?_
         rintro e wb ⟨sc, rfl, hbb, hob⟩
         have BB : Hid (Below W5.heap.size W5 wb) := (Below.refl _ _).drew.trans hbb
         have OB : Hid (wb.ownsRow W5.heap.size 2 1 sc m (C.map (Value.int .i64))) := hob
         clear hbb hob)
      | (go_at_call 21
         with_reducible refine (clone_own w5.heap.size 0 m 6 R wb (IQ.out.below BB.out) HRL.out (by omega)).mono ?_
         rintro e wc ⟨sa, rfl, hbc, hoc⟩
         have BC : Hid (Below W5.heap.size W5 wc) := BB.out.trans (hbc.mono BB.out.size)
         have O2 : Hid (wc.ownsRow W5.heap.size 2 1 sc m (C.map (Value.int .i64))) := owns_below OB.out hbc
         have O1 : Hid (wc.ownsRow W5.heap.size 2 1 sa m (R.map (Value.int .i64))) := owns_base hoc BB.out.size
         have AP : Hid (∀ b, sa.ownBlock = some b → sc.ownBlock ≠ some b) := (apart OB.out hoc).2
         clear hbc hoc))
    all_goals
      go_wp2
      refine bodyPost_ret (v := .tuple #[sa, sc, .bool true]) (by simp [results, Try.results8, go_sem]) rfl ⟨_, _, rfl, B7.out.trans (BC.out.mono B7.out.size), by rw [HRL.out]; exact owns_base O1.out B7.out.size, by rw [HCL.out]; exact owns_base O2.out B7.out.size, AP.out⟩

end Go.Proofs.Ytimieikdngoppaa

namespace Go.Proofs.Ytimieikdngoppaa
open Go.RowKit

set_option maxHeartbeats 400000 in
theorem lawDuals_big (a : Option Addr) (len cap : Nat) (n : Int) (w : World) (hlen : len ≤ 9223372036854775807) (h : 1048576 < len) :
    Calls Try.prog 3 #[.int .i64 n, .slice a len cap] w fun e w' => e = .returned (.bool true) ∧ Below w.heap.size w w' := by
  go_enter Try.func3, Try.ntmps3
  go_wp2
  go_ret
  exact ⟨rfl, Below.refl _ _⟩

theorem kept_of {u v : Value} (h : ∀ b, u.ownBlock = some b → v.ownBlock ≠ some b) : v.ownBlock = none ∨ v.ownBlock ≠ u.ownBlock := by
  cases e : v.ownBlock with
  | none => exact .inl rfl
  | some b => exact .inr fun e2 => h b e2.symm e

set_option maxRecDepth 10000 in
set_option maxHeartbeats 4000000 in
theorem lawDuals (a : Option Addr) (cap : Nat) (zs : List Int) (n : Int) (w : World) (hA : IntsAt w a zs) (hs : zs.length ≤ 1048576) :
    Calls Try.prog 3 #[.int .i64 n, .slice a zs.length cap] w fun e w' => e = .returned (.bool true) ∧ Below w.heap.size w w' := by
  have HA : Hid (IntsAt w a zs) := hA
  clear hA
  obtain ⟨hl1, hl2⟩ := du_len n zs
  obtain ⟨p, HP⟩ : ∃ p, Hid (duR n zs = p) := ⟨_, rfl⟩
  obtain ⟨r, HR⟩ : ∃ p, Hid (duC n zs = p) := ⟨_, rfl⟩
  obtain ⟨t, HT⟩ : ∃ p, Hid (costsB n zs = p) := ⟨_, rfl⟩
  rw [HP.out, HR.out] at hl1
  rw [HR.out] at hl2
  obtain ⟨K, HK⟩ : ∃ k, Hid (r.length = k) := ⟨_, rfl⟩
  have HKP : Hid (p.length = K) := hl1.trans HK.out
  rw [HK.out] at hl2
  clear hl1
  have htt : (t != t) = false := by simp
  go_enter Try.func3, Try.ntmps3
  -- the model
  go_wp2_with fail
  refine (toInts_any _ _ zs _ HA.out (by omega)).mono ?_
  rintro e v1 ⟨rfl, hb, -, hg⟩
  have B1 : Hid (Below w.heap.size w v1) := hb
  have F1 : Hid (IntsAt v1 (some ⟨w.heap.size, 0, none⟩) zs) := IntsAt.of_row hg
  clear hb hg
  go_wp2_with fail
  refine (specDuals_any n _ _ zs _ F1.out).mono ?_
  rintro e v2 ⟨s1, s2, rfl, hb, ho1, ho2⟩
  rw [HP.out, HKP.out] at ho1
  rw [HR.out, HK.out] at ho2
  obtain ⟨wa, wc, rfl, -, hi1⟩ := owns_at1 ho1
  obtain ⟨xa, xc, rfl, -, hi2⟩ := owns_at1 ho2
  have W2 : Hid (IntsAt v2 wa p) := hi1
  have X2 : Hid (IntsAt v2 xa r) := hi2
  have WB : Hid (∀ b, (Value.slice wa 0 0).ownBlock = some b → b < v2.heap.size) := fun b e => (ho1.lt b (by rw [own_block_any wa _ _ 0 0]; exact e)).2
  have XB : Hid (∀ b, (Value.slice xa 0 0).ownBlock = some b → b < v2.heap.size) := fun b e => (ho2.lt b (by rw [own_block_any xa _ _ 0 0]; exact e)).2
  have B2 : Hid (Below w.heap.size w v2) := B1.out.trans (hb.mono B1.out.size)
  rw [HT.out, HKP.out, HK.out]
  clear hb ho1 ho2 hi1 hi2 B1 F1
  -- the program
  go_wp2_with fail
  refine (toInts_any _ _ zs _ (HA.out.below B2.out) (by omega)).mono ?_
  rintro e v3 ⟨rfl, hb, hz3, hg⟩
  have B3 : Hid (Below w.heap.size w v3) := B2.out.trans (hb.mono B2.out.size)
  have W3 : Hid (IntsAt v3 wa p) := W2.out.below hb
  have X3 : Hid (IntsAt v3 xa r) := X2.out.below hb
  have Z3 : Hid (v3.heap.size = v2.heap.size + 1) := hz3
  have A3 : Hid (v3.heap[v2.heap.size]? = some (.cells (cellsOf zs) 2 (0, 0))) := hg
  have L2 : Hid (w.heap.size ≤ v2.heap.size) := B2.out.size
  clear hb hg hz3 B2 W2 X2
  go_wp2_with fail
  refine (implDuals_any n _ _ zs _ (IntsAt.of_row A3.out)).mono ?_
  rintro e v4 ⟨s1, s2, rfl, hb, ho1, ho2, hap⟩
  rw [HP.out, HKP.out] at ho1
  rw [HR.out, HK.out] at ho2
  obtain ⟨ga, gc, rfl, -, hi1⟩ := owns_at1 ho1
  obtain ⟨ha, hc, rfl, -, hi2⟩ := owns_at1 ho2
  rw [HKP.out] at ho1 hap
  rw [HK.out] at ho2 hap
  have G4 : Hid (v4.ownsRow v3.heap.size 2 1 (.slice ga K gc) K (p.map (Value.int .i64))) := ho1
  have H4 : Hid (v4.ownsRow v3.heap.size 2 1 (.slice ha K hc) K (r.map (Value.int .i64))) := ho2
  have AP : Hid (∀ b, (Value.slice ga K gc).ownBlock = some b → (Value.slice ha K hc).ownBlock ≠ some b) := hap
  have I4 : Hid (IntsAt v4 ga p) := hi1
  have J4 : Hid (IntsAt v4 ha r) := hi2
  have B4 : Hid (Below w.heap.size w v4) := B3.out.trans (hb.mono B3.out.size)
  have W4 : Hid (IntsAt v4 wa p) := W3.out.below hb
  have X4 : Hid (IntsAt v4 xa r) := X3.out.below hb
  have A4 : Hid (v4.heap[v2.heap.size]? = some (.cells (cellsOf zs) 2 (0, 0))) := below_row hb (row_lt A3.out) A3.out
  rw [HT.out, HKP.out, HK.out]
  clear hb ho1 ho2 hi1 hi2 hap B3 W3 X3 A3
  have EQP : Hid (∀ (W : World) (b1 b2 : Option Addr) (c1 c2 : Nat), IntsAt W b1 p → IntsAt W b2 p → Calls Try.prog 9 #[.slice b1 K c1, .slice b2 K c2] W fun e w' => e = .returned (.bool true) ∧ Below W.heap.size W w') := by
    intro W b1 b2 c1 c2 h1 h2
    have := eqInts_any b1 b2 c1 c2 p p W h1 h2 (by rw [HKP.out]; omega)
    rw [HKP.out, show decide (p = p) = true by simp] at this
    exact this
  have EQR : Hid (∀ (W : World) (b1 b2 : Option Addr) (c1 c2 : Nat), IntsAt W b1 r → IntsAt W b2 r → Calls Try.prog 9 #[.slice b1 K c1, .slice b2 K c2] W fun e w' => e = .returned (.bool true) ∧ Below W.heap.size W w') := by
    intro W b1 b2 c1 c2 h1 h2
    have := eqInts_any b1 b2 c1 c2 r r W h1 h2 (by rw [HK.out]; omega)
    rw [HK.out, show decide (r = r) = true by simp] at this
    exact this
  go_wp2_with fail
  refine (EQP.out _ _ _ _ _ I4.out W4.out).mono ?_
  rintro e v5 ⟨rfl, hb⟩
  have G5 : Hid (v5.ownsRow v3.heap.size 2 1 (.slice ga K gc) K (p.map (Value.int .i64))) := owns_below G4.out hb
  have H5 : Hid (v5.ownsRow v3.heap.size 2 1 (.slice ha K hc) K (r.map (Value.int .i64))) := owns_below H4.out hb
  have J5 : Hid (IntsAt v5 ha r) := J4.out.below hb
  have B5 : Hid (Below w.heap.size w v5) := B4.out.trans (hb.mono B4.out.size)
  have W5 : Hid (IntsAt v5 wa p) := W4.out.below hb
  have X5 : Hid (IntsAt v5 xa r) := X4.out.below hb
  have A5 : Hid (v5.heap[v2.heap.size]? = some (.cells (cellsOf zs) 2 (0, 0))) := below_row hb (row_lt A4.out) A4.out
  clear hb G4 H4 I4 J4 B4 W4 X4 A4
  go_wp2_with fail
  refine (EQR.out _ _ _ _ _ J5.out X5.out).mono ?_
  rintro e v6 ⟨rfl, hb⟩
  have G6 : Hid (v6.ownsRow v3.heap.size 2 1 (.slice ga K gc) K (p.map (Value.int .i64))) := owns_below G5.out hb
  have H6 : Hid (v6.ownsRow v3.heap.size 2 1 (.slice ha K hc) K (r.map (Value.int .i64))) := owns_below H5.out hb
  have B6 : Hid (Below w.heap.size w v6) := B5.out.trans (hb.mono B5.out.size)
  have W6 : Hid (IntsAt v6 wa p) := W5.out.below hb
  have X6 : Hid (IntsAt v6 xa r) := X5.out.below hb
  have A6 : Hid (v6.heap[v2.heap.size]? = some (.cells (cellsOf zs) 2 (0, 0))) := below_row hb (row_lt A5.out) A5.out
  clear hb G5 H5 J5 B5 W5 X5 A5
  -- the argument
  go_wp2_with fail
  refine (toInts_any _ _ zs _ (HA.out.below B6.out) (by omega)).mono ?_
  rintro e v7 ⟨rfl, hb, -, hg⟩
  have G7 : Hid (v7.ownsRow v3.heap.size 2 1 (.slice ga K gc) K (p.map (Value.int .i64))) := owns_below G6.out hb
  have H7 : Hid (v7.ownsRow v3.heap.size 2 1 (.slice ha K hc) K (r.map (Value.int .i64))) := owns_below H6.out hb
  have B7 : Hid (Below w.heap.size w v7) := B6.out.trans (hb.mono B6.out.size)
  have W7 : Hid (IntsAt v7 wa p) := W6.out.below hb
  have X7 : Hid (IntsAt v7 xa r) := X6.out.below hb
  have A7 : Hid (v7.heap[v2.heap.size]? = some (.cells (cellsOf zs) 2 (0, 0))) := below_row hb (row_lt A6.out) A6.out
  have Y7 : Hid (IntsAt v7 (some ⟨v6.heap.size, 0, none⟩) zs) := IntsAt.of_row hg
  clear hb hg G6 H6 B6 W6 X6 A6
  go_wp2_with fail
  refine (eqInts_any _ _ _ _ zs zs _ (IntsAt.of_row A7.out) Y7.out (by omega)).mono ?_
  rintro e v8 ⟨rfl, hb⟩
  rw [show decide (zs = zs) = true by simp]
  have G8 : Hid (v8.ownsRow v3.heap.size 2 1 (.slice ga K gc) K (p.map (Value.int .i64))) := owns_below G7.out hb
  have H8 : Hid (v8.ownsRow v3.heap.size 2 1 (.slice ha K hc) K (r.map (Value.int .i64))) := owns_below H7.out hb
  have B8 : Hid (Below w.heap.size w v8) := B7.out.trans (hb.mono B7.out.size)
  have W8 : Hid (IntsAt v8 wa p) := W7.out.below hb
  have X8 : Hid (IntsAt v8 xa r) := X7.out.below hb
  have A8 : Hid (v8.heap[v2.heap.size]? = some (.cells (cellsOf zs) 2 (0, 0))) := below_row hb (row_lt A7.out) A7.out
  clear hb G7 H7 B7 W7 X7 A7 Y7
  -- its marks
  go_wp2_with fail
  refine (markInt64S_any v2.heap.size zs.length zs.length 1 (cellsOf zs) _ _ A8.out (by rw [cellsOf_size]; exact Nat.le_refl _) (by omega) (by omega) (by omega)).mono ?_
  rintro e v9 ⟨rfl, hg, -⟩
  have G9 : Hid (v9.ownsRow v3.heap.size 2 1 (.slice ga K gc) K (p.map (Value.int .i64))) := G8.out.kept hg (.inr fun e => by have := (G8.out.lt _ e).1; have := Z3.out; omega)
  have H9 : Hid (v9.ownsRow v3.heap.size 2 1 (.slice ha K hc) K (r.map (Value.int .i64))) := H8.out.kept hg (.inr fun e => by have := (H8.out.lt _ e).1; have := Z3.out; omega)
  have B9 : Hid (Below w.heap.size w v9) := B8.out.grown hg B8.out.size (fun k e => by injection e with e; have := L2.out; omega)
  have W9 : Hid (IntsAt v9 wa p) := ints_grown W8.out hg (fun b e e2 => by injection e2 with e2; have := WB.out b e; omega)
  have X9 : Hid (IntsAt v9 xa r) := ints_grown X8.out hg (fun b e e2 => by injection e2 with e2; have := XB.out b e; omega)
  clear hg G8 H8 B8 W8 X8 A8
  obtain ⟨km, HKM⟩ : ∃ q, Hid ((1 : Int) + ((zs.length : Nat) : Int) = q) := ⟨_, rfl⟩
  have hkm : 0 ≤ km := by have := HKM.out; omega
  rw [HKM.out]
  have I9 : Hid (IntsAt v9 ga p) := by
    obtain ⟨a', c', e, _, hi⟩ := owns_at1 G9.out
    have e2 : ga = a' := by injection e
    rw [e2]; exact hi
  have J9 : Hid (IntsAt v9 ha r) := by
    obtain ⟨a', c', e, _, hi⟩ := owns_at1 H9.out
    have e2 : ha = a' := by injection e
    rw [e2]; exact hi
  go_wp2_with fail
  refine (EQP.out _ _ _ _ _ I9.out W9.out).mono ?_
  rintro e v10 ⟨rfl, hb⟩
  have G10 : Hid (v10.ownsRow v3.heap.size 2 1 (.slice ga K gc) K (p.map (Value.int .i64))) := owns_below G9.out hb
  have H10 : Hid (v10.ownsRow v3.heap.size 2 1 (.slice ha K hc) K (r.map (Value.int .i64))) := owns_below H9.out hb
  have J10 : Hid (IntsAt v10 ha r) := J9.out.below hb
  have B10 : Hid (Below w.heap.size w v10) := B9.out.trans (hb.mono B9.out.size)
  have W10 : Hid (IntsAt v10 wa p) := W9.out.below hb
  have X10 : Hid (IntsAt v10 xa r) := X9.out.below hb
  clear hb G9 H9 I9 J9 B9 W9 X9
  go_wp2_with fail
  refine (EQR.out _ _ _ _ _ J10.out X10.out).mono ?_
  rintro e v11 ⟨rfl, hb⟩
  have G11 : Hid (v11.ownsRow v3.heap.size 2 1 (.slice ga K gc) K (p.map (Value.int .i64))) := owns_below G10.out hb
  have H11 : Hid (v11.ownsRow v3.heap.size 2 1 (.slice ha K hc) K (r.map (Value.int .i64))) := owns_below H10.out hb
  have B11 : Hid (Below w.heap.size w v11) := B10.out.trans (hb.mono B10.out.size)
  have W11 : Hid (IntsAt v11 wa p) := W10.out.below hb
  have X11 : Hid (IntsAt v11 xa r) := X10.out.below hb
  clear hb G10 H10 J10 B10 W10 X10
  -- the answers' marks
  go_wp2_with fail
  refine (markF ga K gc _ 1 p _ G11.out (by omega) (by omega) (by omega)).mono ?_
  rintro e v12 ⟨rfl, hg, hm⟩
  have M12 : Hid (MarkedF v12 ga K 1) := hm
  have H12 : Hid (v12.ownsRow v3.heap.size 2 1 (.slice ha K hc) K (r.map (Value.int .i64))) := H11.out.kept hg (kept_of AP.out)
  have B12 : Hid (Below w.heap.size w v12) := B11.out.grown hg B11.out.size (fun k e => by have := (G11.out.lt _ e).1; have := Z3.out; have := L2.out; omega)
  have W12 : Hid (IntsAt v12 wa p) := ints_grown W11.out hg (fun b e e2 => by have := (G11.out.lt _ e2.symm).1; have := WB.out b e; have := Z3.out; omega)
  have X12 : Hid (IntsAt v12 xa r) := ints_grown X11.out hg (fun b e e2 => by have := (G11.out.lt _ e2.symm).1; have := XB.out b e; have := Z3.out; omega)
  clear hg hm G11 H11 B11 W11 X11
  obtain ⟨gm, HGM⟩ : ∃ q, Hid ((1 : Int) + ((K : Nat) : Int) = q) := ⟨_, rfl⟩
  have hgm : 0 ≤ gm ∧ gm ≤ 1000 := by have := HGM.out; omega
  rw [HGM.out]
  go_wp2_with fail
  refine (markF ha K hc _ gm r _ H12.out (by omega) (by omega) (by omega)).mono ?_
  rintro e v13 ⟨rfl, hg, hm⟩
  have N13 : Hid (MarkedF v13 ha K gm) := hm
  have M13 : Hid (MarkedF v13 ga K 1) := M12.out.grown hg (fun b e e2 => AP.out b (by rw [own_block_any ga _ _ 0 0]; exact e) e2.symm)
  have B13 : Hid (Below w.heap.size w v13) := B12.out.grown hg B12.out.size (fun k e => by have := (H12.out.lt _ e).1; have := Z3.out; have := L2.out; omega)
  have W13 : Hid (IntsAt v13 wa p) := ints_grown W12.out hg (fun b e e2 => by have := (H12.out.lt _ e2.symm).1; have := WB.out b e; have := Z3.out; omega)
  have X13 : Hid (IntsAt v13 xa r) := ints_grown X12.out hg (fun b e e2 => by have := (H12.out.lt _ e2.symm).1; have := XB.out b e; have := Z3.out; omega)
  clear hg hm H12 B12 W12 X12 M12
  obtain ⟨hm2, HHM⟩ : ∃ q, Hid (gm + ((K : Nat) : Int) = q) := ⟨_, rfl⟩
  have hhm : 0 ≤ hm2 := by have := HHM.out; omega
  have hgg : (hm2 != hm2) = false := by simp
  have hg0 : 0 ≤ gm := hgm.1
  rw [HHM.out]
  go_wp2_with fail
  refine (heldF ga K gc 1 _ M13.out (by omega) (by omega) (by omega)).mono ?_
  rintro e w' ⟨rfl, hw'⟩
  subst w'
  rw [HGM.out]
  go_wp2_with fail
  refine (heldF ha K hc gm _ N13.out (by omega) (by omega) (by omega)).mono ?_
  rintro e w' ⟨rfl, hw'⟩
  subst w'
  rw [HHM.out]
  -- once more
  go_wp2_with fail
  refine (toInts_any _ _ zs _ (HA.out.below B13.out) (by omega)).mono ?_
  rintro e v14 ⟨rfl, hb, -, hg⟩
  have B14 : Hid (Below w.heap.size w v14) := B13.out.trans (hb.mono B13.out.size)
  have W14 : Hid (IntsAt v14 wa p) := W13.out.below hb
  have X14 : Hid (IntsAt v14 xa r) := X13.out.below hb
  have M14 : Hid (MarkedF v14 ga K 1) := M13.out.below hb
  have N14 : Hid (MarkedF v14 ha K gm) := N13.out.below hb
  have Y14 : Hid (IntsAt v14 (some ⟨v13.heap.size, 0, none⟩) zs) := IntsAt.of_row hg
  clear hb hg M13 N13 B13 W13 X13
  go_wp2_with fail
  refine (implDuals_any n _ _ zs _ Y14.out).mono ?_
  rintro e v15 ⟨s1, s2, rfl, hb, ho1, ho2, -⟩
  rw [HP.out, HKP.out] at ho1
  rw [HR.out, HK.out] at ho2
  obtain ⟨pa, pc, rfl, -, hi1⟩ := owns_at1 ho1
  obtain ⟨qa, qc, rfl, -, hi2⟩ := owns_at1 ho2
  have P15 : Hid (IntsAt v15 pa p) := hi1
  have Q15 : Hid (IntsAt v15 qa r) := hi2
  have B15 : Hid (Below w.heap.size w v15) := B14.out.trans (hb.mono B14.out.size)
  have W15 : Hid (IntsAt v15 wa p) := W14.out.below hb
  have X15 : Hid (IntsAt v15 xa r) := X14.out.below hb
  have M15 : Hid (MarkedF v15 ga K 1) := M14.out.below hb
  have N15 : Hid (MarkedF v15 ha K gm) := N14.out.below hb
  rw [HT.out, HKP.out, HK.out]
  clear hb ho1 ho2 hi1 hi2 B14 W14 X14 M14 N14 Y14
  go_wp2_with fail
  refine (EQP.out _ _ _ _ _ P15.out W15.out).mono ?_
  rintro e v16 ⟨rfl, hb⟩
  have B16 : Hid (Below w.heap.size w v16) := B15.out.trans (hb.mono B15.out.size)
  have Q16 : Hid (IntsAt v16 qa r) := Q15.out.below hb
  have X16 : Hid (IntsAt v16 xa r) := X15.out.below hb
  have M16 : Hid (MarkedF v16 ga K 1) := M15.out.below hb
  have N16 : Hid (MarkedF v16 ha K gm) := N15.out.below hb
  clear hb B15 W15 X15 M15 N15 P15 Q15
  go_wp2_with fail
  refine (EQR.out _ _ _ _ _ Q16.out X16.out).mono ?_
  rintro e v17 ⟨rfl, hb⟩
  have B17 : Hid (Below w.heap.size w v17) := B16.out.trans (hb.mono B16.out.size)
  have M17 : Hid (MarkedF v17 ga K 1) := M16.out.below hb
  have N17 : Hid (MarkedF v17 ha K gm) := N16.out.below hb
  clear hb B16 Q16 X16 M16 N16
  go_wp2_with fail
  refine (heldF ga K gc 1 _ M17.out (by omega) (by omega) (by omega)).mono ?_
  rintro e w' ⟨rfl, hw'⟩
  subst w'
  rw [HGM.out]
  go_wp2_with fail
  refine (heldF ha K hc gm _ N17.out (by omega) (by omega) (by omega)).mono ?_
  rintro e w' ⟨rfl, hw'⟩
  subst w'
  rw [HHM.out]
  go_wp2
  go_ret
  exact ⟨rfl, B17.out⟩

theorem lawDuals_all (a : Option Addr) (cap : Nat) (zs : List Int) (n : Int) (w : World) (hA : IntsAt w a zs) (hlen : zs.length ≤ 9223372036854775807) :
    Calls Try.prog 3 #[.int .i64 n, .slice a zs.length cap] w fun e w' => e = .returned (.bool true) ∧ Below w.heap.size w w' := by
  by_cases h : zs.length ≤ 1048576
  · exact lawDuals a cap zs n w hA h
  · exact lawDuals_big a _ cap n w hlen (by omega)

end Go.Proofs.Ytimieikdngoppaa
