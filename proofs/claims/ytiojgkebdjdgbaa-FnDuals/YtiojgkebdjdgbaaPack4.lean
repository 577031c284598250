import Derived.Test.YtiojgkebdjdgbaaPack1
import Derived.Test.YtiojgkebdjdgbaaPack2
import Derived.Lib.MinMax
import Derived.BigRegion
namespace Go.Proofs.Ytiojgkebdjdgbaa
open Go.RowKit

theorem Try.infoPrices : (Try.prog.info? 67).map (fun i => (i.zero, i.size)) = some (some (.agg (cellsOf (List.replicate 6 0))), 6) := by kernel_rfl
theorem sizePrices : (Try.prog.info? 67).map (·.size) = some 6 := (zero_of_info Try.infoPrices).2
theorem sizePrices_of {l : List Int} (h : l.length = 6) : (Try.prog.info? 67).map (·.size) = some (cellsOf l).size := by
  rw [cellsOf_size, h]; exact sizePrices

/-- The world inside columnPrices: the fees' box, the result's cells, the prices. -/
def CW (w wr : World) (gr z0 : Array Value) (P : List Int) : Prop :=
  Below w.heap.size w wr ∧ wr.heap[w.heap.size]? = some (.cells gr 61 (0, 0)) ∧ wr.heap[w.heap.size + 1]? = some (.cells z0 67 (0, 0)) ∧ wr.heap[w.heap.size + 2]? = some (.cells (cellsOf P) 67 (0, 0))
theorem CW.put {w wr : World} {gr z0 : Array Value} {P : List Int} (h : CW w wr gr z0 P) (j : Nat) (v : Int) : CW w (wr.setCell ⟨w.heap.size + 2, j, none⟩ (.int .i64 v)) gr z0 (P.set j v) := by
  obtain ⟨g1, g2, g3, g4⟩ := h
  refine ⟨g1.setCell (by simp) _, ?_, ?_, ?_⟩
  · rw [heap_setCell_other _ _ _ _ (by simp)]; exact g2
  · rw [heap_setCell_other _ _ _ _ (by simp)]; exact g3
  · rw [heap_setCell_same _ _ _ _ _ _ g4, cellsOf_set]
theorem CW.drew {w wr : World} {gr z0 : Array Value} {P : List Int} (h : CW w wr gr z0 P) : CW w wr.drew gr z0 P := ⟨h.1.drew, h.2.1, h.2.2.1, h.2.2.2⟩
theorem CW.at {w wr : World} {gr z0 : Array Value} {P : List Int} (h : CW w wr gr z0 P) {j : Nat} (hj : j < P.length) : wr.cell? ⟨w.heap.size + 2, j, none⟩ = some (.int .i64 (P.getD j 0)) ∧ wr.frozen? ⟨w.heap.size + 2, j, none⟩ = false := by
  refine ⟨?_, frozen_of_row _ _ j _ _ h.2.2.2⟩
  rw [cell_of_row _ _ j _ _ _ h.2.2.2, cellsOf_get _ _ hj]
theorem ret_prices (tmps : Array Value) (W : World) (g : Nat) (l : List Int) (hl : l.length = 6)
    (hp : tmps.getD 4 undef = .pointer (some ⟨g, 0, none⟩)) (hg : W.heap[g]? = some (.cells (cellsOf l) 67 (0, 0))) :
    (results Try.f47 tmps).run Try.prog W = .ok (.agg (cellsOf l)) W := by
  exact results_cell_row Try.results47 tmps W g 67 (cellsOf l) (0, 0) _ hp hg Try.underlying67 rfl (sizePrices_of hl)

set_option maxHeartbeats 2000000 in
theorem columnPrices_any (m b off c : Nat) (cs ls : List Int) (w : World) (hm : m ≤ 6) (hf : feeTo cs (m * m)) (hI : IntsAt w (some ⟨b, off, none⟩) ls) (hl : ls.length = m) (ho : ∀ i, i < m → ls.getD i 0 = (own ls i : Nat) ∧ own ls i < m) :
    Calls Try.prog 47 #[.agg (cellsOf (feesTo m cs (m * m))), .slice (some ⟨b, off, none⟩) m c] w fun e w' => e = .returned (.agg (cellsOf (kS m cs ls (List.replicate 6 0) m))) ∧ Below w.heap.size w w' := by
  have HF : Hid (feeTo cs (m * m)) := hf
  have HI : Hid (IntsAt w (some ⟨b, off, none⟩) ls) := hI
  have HL : Hid (ls.length = m) := hl
  have HO : Hid (∀ i, i < m → ls.getD i 0 = (own ls i : Nat) ∧ own ls i < m) := ho
  have HO2 : Hid (∀ i, i < m → own ls i < m) := fun i hi => (ho i hi).2
  clear hf hI hl ho
  have hz := (zero_of_info Try.infoPrices).1
  generalize hz0 : cellsOf (List.replicate 6 0) = z0 at hz
  have HZ : Hid (cellsOf (List.replicate 6 0) = z0) := hz0
  clear hz0
  obtain ⟨gr, HGR⟩ : ∃ gr, Hid (cellsOf (feesTo m cs (m * m)) = gr) := ⟨_, rfl⟩
  rw [HGR.out]
  obtain ⟨R, HR⟩ : ∃ r, Hid (kS m cs ls (List.replicate 6 0) m = r) := ⟨_, rfl⟩
  rw [HR.out]
  have H0 : Hid (CW w (((w.alloc (.cells gr 61)).alloc (.cells z0 67)).alloc (.cells z0 67)) gr z0 (List.replicate 6 0)) := by
    refine ⟨(((Below.refl _ _).alloc (Nat.le_refl _) _).alloc (by simp) _).alloc (by simp; omega) _, ?_, ?_, ?_⟩
    · rw [heap_alloc_old _ _ (by simp; omega)]; exact heap_alloc2_old _ _ _
    · rw [heap_alloc_old _ _ (by simp)]; exact heap_alloc2_new _ _ _
    · rw [HZ.out]
      have := heap_alloc_new ((w.alloc (.cells gr 61)).alloc (.cells z0 67)) (.cells z0 67)
      simpa using this
  go_enter Try.func47, Try.ntmps47
  go_wp2_with fail
  go_loopw [11] (fun t wr => ∃ k : Nat, k ≤ m ∧ t = .int .i64 k ∧ CW w wr gr z0 (kS m cs ls (List.replicate 6 0) k)) (fun t _ => m - (intOf t).toNat)
  case atStart => exact ⟨0, Nat.zero_le _, rfl, H0.out⟩
  case round =>
    clear H0
    obtain ⟨k, hk, rfl, hcw⟩ := hrel
    have H1 : Hid (CW w wr gr z0 (kS m cs ls (List.replicate 6 0) k)) := hcw
    clear hcw
    by_cases hlt : k < m
    · have HB : Hid (bdP (72000000 * k) (kS m cs ls (List.replicate 6 0) k)) := bd_kS (bd_zero 6) HF.out hm HO2.out k
      have HN : Hid (kS m cs ls (List.replicate 6 0) (k + 1) = iS m cs ls (kS m cs ls (List.replicate 6 0) k) m) := rfl
      have HP6 : Hid ((kS m cs ls (List.replicate 6 0) k).length = 6) := by show _ = _; rw [kS_length]; simp
      obtain ⟨P, HP⟩ : ∃ P, Hid (kS m cs ls (List.replicate 6 0) k = P) := ⟨_, rfl⟩
      rw [HP.out] at HB HN H1 HP6
      go_wp2_with fail
      go_loopw [6, 7, 15] (fun _ _ t wr => ∃ i : Nat, i ≤ m ∧ t = .int .i64 i ∧ CW w wr gr z0 (iS m cs ls P i)) (fun _ _ t _ => m - (intOf t).toNat)
      case atStart => exact ⟨0, Nat.zero_le _, rfl, H1.out⟩
      case round =>
        clear H1
        obtain ⟨i, hi, rfl, hcw⟩ := hrel
        have H1 : Hid (CW w wr gr z0 (iS m cs ls P i)) := hcw
        clear hcw
        by_cases hlti : i < m
        · have HBi : Hid (bdP (72000000 * k + 12000000 * i) (iS m cs ls P i)) := bd_iS HB.out HF.out hm HO2.out i hi
          have HNi : Hid (iS m cs ls P (i + 1) = jS m cs ls i (iS m cs ls P i) m) := rfl
          have HQ6 : Hid ((iS m cs ls P i).length = 6) := by show _ = _; rw [iS_length, HP6.out]
          obtain ⟨Q, HQ⟩ : ∃ X, Hid (iS m cs ls P i = X) := ⟨_, rfl⟩
          rw [HQ.out] at HBi HNi H1 HQ6
          obtain ⟨hoi, holt⟩ := HO.out i hlti
          have cl : wr.cell? ⟨b, off + i, none⟩ = some (.int .i64 (ls.getD i 0)) := by
            obtain ⟨_, _, e, h⟩ := (HI.out.below H1.out.1) i (by rw [HL.out]; exact hlti)
            simp at e
            obtain ⟨rfl, rfl⟩ := e
            exact h
          rw [hoi] at cl
          obtain ⟨o, HOo⟩ : ∃ o, Hid (own ls i = o) := ⟨_, rfl⟩
          rw [HOo.out] at cl holt
          clear hoi
          go_wp2_with fail
          go_loopw [8, 22] (fun _ t wr => ∃ j : Nat, j ≤ m ∧ t = .int .i64 j ∧ CW w wr gr z0 (jS m cs ls i Q j)) (fun _ t _ => m - (intOf t).toNat)
          case atStart => exact ⟨0, Nat.zero_le _, rfl, H1.out⟩
          case round =>
            clear H1 cl
            obtain ⟨j, hj, rfl, hcw⟩ := hrel
            have H1 : Hid (CW w wr gr z0 (jS m cs ls i Q j)) := hcw
            clear hcw
            by_cases hltj : j < m
            · have hbj := bd_jS HBi.out HF.out hlti (HO2.out i hlti) j hj
              have hT6 : (jS m cs ls i Q j).length = 6 := by rw [jS_length, HQ6.out]
              have HNj : Hid (jS m cs ls i Q (j + 1) = (jS m cs ls i Q j).set j (min ((jS m cs ls i Q j).getD j 0) ((jS m cs ls i Q j).getD o 0 + fee m cs i j - fee m cs i o))) := by
                show stp m cs ls i j (jS m cs ls i Q j) = _
                unfold stp wayV
                rw [HOo.out]
              obtain ⟨T, HT⟩ : ∃ P, Hid (jS m cs ls i Q j = P) := ⟨_, rfl⟩
              rw [HT.out] at hbj hT6 HNj H1
              obtain ⟨cj, fj⟩ := H1.out.at (j := j) (by omega)
              obtain ⟨co, _⟩ := H1.out.at (j := o) (by omega)
              have f1 := fee_cell (HGR.out.symm ▸ H1.out.2.1) (cs := cs) (n := m) hlti hltj hm
              have f2 := fee_cell (HGR.out.symm ▸ H1.out.2.1) (cs := cs) (n := m) hlti holt hm
              have d1 := fee_bd HF.out hlti hltj
              have d2 := fee_bd HF.out hlti holt
              have e1 := hbj j
              have e2 := hbj o
              clear hbj hT6
              obtain ⟨x1, HX1⟩ : ∃ f, Hid (fee m cs i j = f) := ⟨_, rfl⟩
              obtain ⟨x2, HX2⟩ : ∃ f, Hid (fee m cs i o = f) := ⟨_, rfl⟩
              obtain ⟨pj, HPJ⟩ : ∃ f, Hid (T.getD j 0 = f) := ⟨_, rfl⟩
              obtain ⟨po, HPO⟩ : ∃ f, Hid (T.getD o 0 = f) := ⟨_, rfl⟩
              rw [HX1.out] at f1 d1 HNj
              rw [HX2.out] at f2 d2 HNj
              rw [HPJ.out] at cj e1 HNj
              rw [HPO.out] at co e2 HNj
              obtain ⟨v, HV⟩ : ∃ v, Hid (min pj (po + x1 - x2) = v) := ⟨_, rfl⟩
              rw [HV.out] at HNj
              have hmin := HV.out
              have H2 : Hid (CW w (wr.setCell ⟨w.heap.size + 2, j, none⟩ (.int .i64 v)) gr z0 (jS m cs ls i Q (j + 1))) := by
                show CW _ _ _ _ _
                rw [HNj.out]
                exact H1.out.put j v
              clear HNj
              go_wp2
              go_region
              all_goals
                go_wp2
                refine ⟨⟨j + 1, by omega, by go_num, H2.out.drew⟩, by simp [intOf]; omega⟩
            · have hjm : j = m := by omega
              have H2 : Hid (CW w wr gr z0 (iS m cs ls P (i + 1))) := by
                have := H1.out
                rw [hjm] at this
                rw [← HNi.out] at this
                exact this
              clear hjm
              go_wp2
              refine ⟨⟨i + 1, by omega, by go_num, H2.out⟩, by simp [intOf]; omega⟩
        · have him : i = m := by omega
          have H2 : Hid (CW w wr gr z0 (kS m cs ls (List.replicate 6 0) (k + 1))) := by
            show CW _ _ _ _ _
            have h := H1.out
            rw [him] at h
            rw [HN.out]
            exact h
          clear him
          go_wp2
          refine ⟨⟨k + 1, by omega, by go_num, H2.out⟩, by simp [intOf]; omega⟩
    · have hkm : k = m := by omega
      have H2 : Hid (CW w wr gr z0 R) := by
        have := H1.out
        rw [hkm, HR.out] at this
        exact this
      have HR6 : Hid (R.length = 6) := by show _ = _; rw [← HR.out, kS_length]; simp
      have HG4 := H2.out.2.2.1
      have HG5 := H2.out.2.2.2
      clear H1 hkm
      go_wp2_with (first
        | (with_reducible refine wpList_load_row ?_ 67 (.tmp 5) ?_ (w.heap.size + 2) ?_ 67 (cellsOf R) (0, 0) _ ?_ Try.underlying67 ?_ ?_ ?_
           · rfl
           · rfl
           · rfl
           · exact HG5
           · rfl
           · exact sizePrices_of HR6.out)
        | (with_reducible refine wpList_store_row ?_ 67 (.tmp 4) (.tmp 49) ?_ (w.heap.size + 1) (cellsOf R) ?_ ?_ 67 z0 ?_ ?_ ?_ ?_ ?_
           · rfl
           · rfl
           · rfl
           · rfl
           · exact HG4
           · exact sizePrices_of HR6.out
           · rw [← HZ.out, cellsOf_size, cellsOf_size, HR6.out]; simp
           · exact cellsOf_one _))
      refine bodyPost_ret (v := .agg (cellsOf R)) (ret_prices _ _ (w.heap.size + 1) R HR6.out rfl ?_) rfl ⟨rfl, ?_⟩
      · exact setRow_heap _ _ _ _ _ _ HG4
      · exact below_setRow H2.out.1 (by omega) _

end Go.Proofs.Ytiojgkebdjdgbaa

namespace Go.Proofs.Ytiojgkebdjdgbaa
open Go.RowKit

/-- The world inside rowPrices: the fees' box, the columns' prices, the result's cells, the rows' prices. -/
def RW (w wr : World) (gr pr z0 : Array Value) (P : List Int) : Prop :=
  Below w.heap.size w wr ∧ wr.heap[w.heap.size]? = some (.cells gr 61 (0, 0)) ∧ wr.heap[w.heap.size + 1]? = some (.cells pr 67 (0, 0)) ∧ wr.heap[w.heap.size + 2]? = some (.cells z0 67 (0, 0)) ∧ wr.heap[w.heap.size + 3]? = some (.cells (cellsOf P) 67 (0, 0))
theorem RW.put {w wr : World} {gr pr z0 : Array Value} {P : List Int} (h : RW w wr gr pr z0 P) (j : Nat) (v : Int) : RW w (wr.setCell ⟨w.heap.size + 3, j, none⟩ (.int .i64 v)) gr pr z0 (P.set j v) := by
  obtain ⟨g1, g2, g3, g4, g5⟩ := h
  refine ⟨g1.setCell (by simp) _, ?_, ?_, ?_, ?_⟩
  · rw [heap_setCell_other _ _ _ _ (by simp)]; exact g2
  · rw [heap_setCell_other _ _ _ _ (by simp)]; exact g3
  · rw [heap_setCell_other _ _ _ _ (by simp)]; exact g4
  · rw [heap_setCell_same _ _ _ _ _ _ g5, cellsOf_set]
theorem RW.drew {w wr : World} {gr pr z0 : Array Value} {P : List Int} (h : RW w wr gr pr z0 P) : RW w wr.drew gr pr z0 P := ⟨h.1.drew, h.2.1, h.2.2.1, h.2.2.2.1, h.2.2.2.2⟩
theorem RW.at {w wr : World} {gr pr z0 : Array Value} {P : List Int} (h : RW w wr gr pr z0 P) {j : Nat} (hj : j < P.length) : wr.cell? ⟨w.heap.size + 3, j, none⟩ = some (.int .i64 (P.getD j 0)) ∧ wr.frozen? ⟨w.heap.size + 3, j, none⟩ = false := by
  refine ⟨?_, frozen_of_row _ _ j _ _ h.2.2.2.2⟩
  rw [cell_of_row _ _ j _ _ _ h.2.2.2.2, cellsOf_get _ _ hj]
theorem heap_alloc4 (w : World) (o1 o2 o3 o4 : Obj) : (((((w.alloc o1).alloc o2).alloc o3).alloc o4).heap[w.heap.size]? = some o1 ∧ ((((w.alloc o1).alloc o2).alloc o3).alloc o4).heap[w.heap.size + 1]? = some o2 ∧ ((((w.alloc o1).alloc o2).alloc o3).alloc o4).heap[w.heap.size + 2]? = some o3 ∧ ((((w.alloc o1).alloc o2).alloc o3).alloc o4).heap[w.heap.size + 3]? = some o4) := by
  refine ⟨?_, ?_, ?_, ?_⟩
  · rw [heap_alloc_old _ _ (by simp <;> omega), heap_alloc_old _ _ (by simp <;> omega)]; exact heap_alloc2_old _ _ _
  · rw [heap_alloc_old _ _ (by simp <;> omega), heap_alloc_old _ _ (by simp)]; exact heap_alloc2_new _ _ _
  · rw [heap_alloc_old _ _ (by simp)]
    have := heap_alloc_new ((w.alloc o1).alloc o2) o3
    simpa using this
  · have := heap_alloc_new (((w.alloc o1).alloc o2).alloc o3) o4
    simpa using this
theorem ret_rprices (tmps : Array Value) (W : World) (g : Nat) (l : List Int) (hl : l.length = 6)
    (hp : tmps.getD 6 undef = .pointer (some ⟨g, 0, none⟩)) (hg : W.heap[g]? = some (.cells (cellsOf l) 67 (0, 0))) :
    (results Try.f48 tmps).run Try.prog W = .ok (.agg (cellsOf l)) W := by
  exact results_cell_row Try.results48 tmps W g 67 (cellsOf l) (0, 0) _ hp hg Try.underlying67 rfl (sizePrices_of hl)

set_option maxHeartbeats 2000000 in
theorem rowPrices_any (m b off c : Nat) (cs ls P : List Int) (w : World) (hm : m ≤ 6) (hf : feeTo cs (m * m)) (hI : IntsAt w (some ⟨b, off, none⟩) ls) (hl : ls.length = m) (ho : ∀ i, i < m → ls.getD i 0 = (own ls i : Nat) ∧ own ls i < m) (hP : P.length = 6) (hbd : bdP 432000000 P) :
    Calls Try.prog 48 #[.agg (cellsOf (feesTo m cs (m * m))), .slice (some ⟨b, off, none⟩) m c, .agg (cellsOf P)] w fun e w' => e = .returned (.agg (cellsOf (rS m cs ls P (List.replicate 6 0) m))) ∧ Below w.heap.size w w' := by
  have HF : Hid (feeTo cs (m * m)) := hf
  have HI : Hid (IntsAt w (some ⟨b, off, none⟩) ls) := hI
  have HL : Hid (ls.length = m) := hl
  have HO : Hid (∀ i, i < m → ls.getD i 0 = (own ls i : Nat) ∧ own ls i < m) := ho
  have HB : Hid (bdP 432000000 P) := hbd
  have HP : Hid (P.length = 6) := hP
  clear hf hI hl ho hbd hP
  have hz := (zero_of_info Try.infoPrices).1
  generalize hz0 : cellsOf (List.replicate 6 0) = z0 at hz
  have HZ : Hid (cellsOf (List.replicate 6 0) = z0) := hz0
  clear hz0
  obtain ⟨gr, HGR⟩ : ∃ gr, Hid (cellsOf (feesTo m cs (m * m)) = gr) := ⟨_, rfl⟩
  rw [HGR.out]
  obtain ⟨pr, HPR⟩ : ∃ gr, Hid (cellsOf P = gr) := ⟨_, rfl⟩
  rw [HPR.out]
  obtain ⟨R, HR⟩ : ∃ r, Hid (rS m cs ls P (List.replicate 6 0) m = r) := ⟨_, rfl⟩
  rw [HR.out]
  have H0 : Hid (RW w ((((w.alloc (.cells gr 61)).alloc (.cells pr 67)).alloc (.cells z0 67)).alloc (.cells z0 67)) gr pr z0 (List.replicate 6 0)) := by
    obtain ⟨q1, q2, q3, q4⟩ := heap_alloc4 w (.cells gr 61) (.cells pr 67) (.cells z0 67) (.cells z0 67)
    exact ⟨((((Below.refl _ _).alloc (Nat.le_refl _) _).alloc (by simp) _).alloc (by simp <;> omega) _).alloc (by simp <;> omega) _, q1, q2, q3, by rw [HZ.out]; exact q4⟩
  go_enter Try.func48, Try.ntmps48
  go_wp2_with fail
  go_loopw [8, 9, 12] (fun _ _ t wr => ∃ i : Nat, i ≤ m ∧ t = .int .i64 i ∧ RW w wr gr pr z0 (rS m cs ls P (List.replicate 6 0) i)) (fun _ _ t _ => m - (intOf t).toNat)
  case atStart => exact ⟨0, Nat.zero_le _, rfl, H0.out⟩
  case round =>
    clear H0
    obtain ⟨i, hi, rfl, hcw⟩ := hrel
    have H1 : Hid (RW w wr gr pr z0 (rS m cs ls P (List.replicate 6 0) i)) := hcw
    clear hcw
    by_cases hlt : i < m
    · obtain ⟨hoi, holt⟩ := HO.out i hlt
      have cl : wr.cell? ⟨b, off + i, none⟩ = some (.int .i64 (ls.getD i 0)) := by
        obtain ⟨_, _, e, h⟩ := (HI.out.below H1.out.1) i (by rw [HL.out]; exact hlt)
        simp at e
        obtain ⟨rfl, rfl⟩ := e
        exact h
      rw [hoi] at cl
      have HN : Hid (rS m cs ls P (List.replicate 6 0) (i + 1) = (rS m cs ls P (List.replicate 6 0) i).set i (fee m cs i (own ls i) - P.getD (own ls i) 0)) := rfl
      obtain ⟨o, HOo⟩ : ∃ o, Hid (own ls i = o) := ⟨_, rfl⟩
      rw [HOo.out] at cl holt HN
      have hT6 : (rS m cs ls P (List.replicate 6 0) i).length = 6 := by rw [rS_length]; simp
      obtain ⟨T, HT⟩ : ∃ X, Hid (rS m cs ls P (List.replicate 6 0) i = X) := ⟨_, rfl⟩
      rw [HT.out] at hT6 HN H1
      obtain ⟨cj, fj⟩ := H1.out.at (j := i) (by omega)
      have co : wr.cell? ⟨w.heap.size + 1, o, none⟩ = some (.int .i64 (P.getD o 0)) := by
        rw [cell_of_row _ _ o _ _ _ H1.out.2.2.1, ← HPR.out, cellsOf_get _ _ (by rw [HP.out]; omega)]
      have f2 := fee_cell (HGR.out.symm ▸ H1.out.2.1) (cs := cs) (n := m) hlt holt hm
      have d2 := fee_bd HF.out hlt holt
      have e2 := HB.out o
      clear hT6 hoi
      obtain ⟨x2, HX2⟩ : ∃ f, Hid (fee m cs i o = f) := ⟨_, rfl⟩
      obtain ⟨pj, HPJ⟩ : ∃ f, Hid (T.getD i 0 = f) := ⟨_, rfl⟩
      obtain ⟨po, HPO⟩ : ∃ f, Hid (P.getD o 0 = f) := ⟨_, rfl⟩
      rw [HX2.out] at f2 d2 HN
      rw [HPJ.out] at cj
      rw [HPO.out] at co e2 HN
      have H2 : Hid (RW w (wr.setCell ⟨w.heap.size + 3, i, none⟩ (.int .i64 (x2 - po))) gr pr z0 (rS m cs ls P (List.replicate 6 0) (i + 1))) := by
        show RW _ _ _ _ _ _
        rw [HN.out]
        exact H1.out.put i _
      clear HN
      go_wp2
      go_region
      all_goals
        go_wp2
        refine ⟨⟨i + 1, by omega, by go_num, H2.out.drew⟩, by simp [intOf]; omega⟩
    · have him : i = m := by omega
      have H2 : Hid (RW w wr gr pr z0 R) := by
        have := H1.out
        rw [him, HR.out] at this
        exact this
      have HR6 : Hid (R.length = 6) := by show _ = _; rw [← HR.out, rS_length]; simp
      have HG4 := H2.out.2.2.2.1
      have HG5 := H2.out.2.2.2.2
      clear H1 him
      go_wp2_with (first
        | (with_reducible refine wpList_load_row ?_ 67 (.tmp 7) ?_ (w.heap.size + 3) ?_ 67 (cellsOf R) (0, 0) _ ?_ Try.underlying67 ?_ ?_ ?_
           · rfl
           · rfl
           · rfl
           · exact HG5
           · rfl
           · exact sizePrices_of HR6.out)
        | (with_reducible refine wpList_store_row ?_ 67 (.tmp 6) (.tmp 29) ?_ (w.heap.size + 2) (cellsOf R) ?_ ?_ 67 z0 ?_ ?_ ?_ ?_ ?_
           · rfl
           · rfl
           · rfl
           · rfl
           · exact HG4
           · exact sizePrices_of HR6.out
           · rw [← HZ.out, cellsOf_size, cellsOf_size, HR6.out]; simp
           · exact cellsOf_one _))
      refine bodyPost_ret (v := .agg (cellsOf R)) (ret_rprices _ _ (w.heap.size + 2) R HR6.out rfl ?_) rfl ⟨rfl, ?_⟩
      · exact setRow_heap _ _ _ _ _ _ HG4
      · exact below_setRow H2.out.1 (by omega) _

end Go.Proofs.Ytiojgkebdjdgbaa
