import Derived.Test.YtiojgkebdjdgbaaPack1
import Derived.Test.YtiojgkebdjdgbaaPack2
import Derived.Test.YtiojgkebdjdgbaaPack5
import Derived.Lib.MinMax
import Derived.BigRegion
namespace Go.Proofs.Ytiojgkebdjdgbaa
open Go.RowKit

/-- A row of numbers that stands in a block is owned. -/
theorem own_of_row {W : World} {B g n : Nat} {l : List Int} (h : W.heap[g]? = some (.cells (cellsOf l) 2 (0, 0))) (hB : B ≤ g) (hl : l.length = n) (hn : n ≤ 1000) : W.ownsRow B 2 1 (.slice (some ⟨g, 0, none⟩) n n) n (l.map (Value.int .i64)) := by
  refine ⟨by simpa using hl, .inr ⟨g, n, cellsOf l, rfl, hB, h, Nat.le_refl _, by unfold maxLen; omega, by rw [cellsOf_size]; omega, ?_⟩⟩
  have : (cellsOf l).toList = l.map (Value.int .i64) := by simp [cellsOf]
  rw [this, List.take_of_length_le (by simp; omega)]

theorem own_row' {m k : Nat} (hk : k < facN m) : ∀ i, i < m → (rowL m k).getD i 0 = (own (rowL m k) i : Nat) ∧ own (rowL m k) i < m := by
  intro i hi
  have hi' : i < (rowN m k).length := by rw [rowN_length hk]; exact hi
  have e : (rowL m k).getD i 0 = (((rowN m k)[i] : Nat) : Int) := by simp [rowL, List.getD, hi']
  have h2 := rowN_lt (List.getElem_mem hi')
  unfold own
  rw [e]
  omega

theorem wrap_42 {q j M : Nat} (h : q + j < M) (hM : M ≤ 36) : wrap64 ((q : Int) + (j : Int)) = (q : Int) + (j : Int) ∧ IntKind.i64.wrap ((q : Int) + (j : Int)) = (q : Int) + (j : Int) :=
  ⟨by unfold wrap64; omega, IntWalk.i64_in _ (by omega)⟩
theorem idx_42 {q j M : Nat} (h : q + j < M) : (0 ≤ (q : Int) + (j : Int) ∧ (q : Int) + (j : Int) < (M : Int)) ∧ ((q : Int) + (j : Int)).toNat = q + j := by omega
theorem hid_of {p : Prop} (h : p) : Hid p := h
theorem wrap_36 {a : Int} {q : Nat} (h : a = (q : Nat)) (hq : q ≤ 36) : wrap64 a = (q : Nat) ∧ IntKind.i64.wrap a = (q : Nat) := by
  subst h
  exact ⟨by unfold wrap64; omega, IntWalk.i64_in _ (by omega)⟩

/-- The world inside the model's DualsOf: the list, the prices of the columns. -/
def DW (w W : World) (gs g : Nat) (ls P : List Int) : Prop :=
  Below w.heap.size w W ∧ IntsAt W (some ⟨gs, 0, none⟩) ls ∧ (gs ≠ g ∧ w.heap.size ≤ g) ∧ W.heap[g]? = some (.cells (cellsOf P) 2 (0, 0))
theorem ints_set {W : World} {gs g j : Nat} {ls : List Int} {v : Value} (h : IntsAt W (some ⟨gs, 0, none⟩) ls) (hne : gs ≠ g) : IntsAt (W.setCell ⟨g, j, none⟩ v) (some ⟨gs, 0, none⟩) ls := by
  intro k hk
  obtain ⟨b, off, e, hc⟩ := h k hk
  refine ⟨b, off, e, ?_⟩
  simp at e
  rw [← hc]
  exact World.cell?_of_block (heap_setCell_other _ _ _ _ (by simp; omega))
theorem DW.put {w W : World} {gs g : Nat} {ls P : List Int} (h : DW w W gs g ls P) (j : Nat) (v : Int) : DW w (W.setCell ⟨g, j, none⟩ (.int .i64 v)) gs g ls (P.set j v) := by
  obtain ⟨g1, g2, g3, g4⟩ := h
  refine ⟨g1.setCell (by simpa using g3.2) _, ints_set g2 g3.1, g3, ?_⟩
  rw [heap_setCell_same _ _ _ _ _ _ g4, cellsOf_set]
theorem DW.drewN {w W : World} {gs g : Nat} {ls P : List Int} (h : DW w W gs g ls P) (n : Nat) : DW w (W.drewN n) gs g ls P := ⟨below_drewN h.1 n, h.2.1, h.2.2.1, h.2.2.2⟩
theorem DW.at {w W : World} {gs g : Nat} {ls P : List Int} (h : DW w W gs g ls P) {j : Nat} (hj : j < P.length) : W.cell? ⟨g, j, none⟩ = some (.int .i64 (P.getD j 0)) ∧ W.frozen? ⟨g, j, none⟩ = false := by
  refine ⟨?_, frozen_of_row _ _ j _ _ h.2.2.2⟩
  rw [cell_of_row _ _ j _ _ _ h.2.2.2, cellsOf_get _ _ hj]
theorem DW.ls {w W : World} {gs g : Nat} {ls P : List Int} (h : DW w W gs g ls P) {j : Nat} (hj : j < ls.length) : W.cell? ⟨gs, j, none⟩ = some (.int .i64 (ls.getD j 0)) := by
  obtain ⟨_, _, e, hc⟩ := h.2.1 j hj
  simp at e
  obtain ⟨rfl, rfl⟩ := e
  rw [Nat.zero_add] at hc
  exact hc
theorem cost_cell {w W : World} {b off m i j : Nat} {cs : List Int} (hA : IntsAt w (some ⟨b, off, none⟩) cs) (hb : Below w.heap.size w W) (hl : cs.length = m * m) (hi : i < m) (hj : j < m) : W.cell? ⟨b, off + (i * m + j), none⟩ = some (.int .i64 (fee m cs i j)) := by
  obtain ⟨_, _, e, hc⟩ := (hA.below hb) (i * m + j) (by rw [hl]; exact in_sq hi hj)
  simp at e
  obtain ⟨rfl, rfl⟩ := e
  exact hc
/-- With the prices of the rows. -/
def EW (w W : World) (gs g h : Nat) (ls P T : List Int) : Prop := DW w W gs g ls P ∧ (gs ≠ h ∧ g ≠ h ∧ w.heap.size ≤ h) ∧ W.heap[h]? = some (.cells (cellsOf T) 2 (0, 0))
theorem EW.put {w W : World} {gs g h : Nat} {ls P T : List Int} (e : EW w W gs g h ls P T) (j : Nat) (v : Int) : EW w (W.setCell ⟨h, j, none⟩ (.int .i64 v)) gs g h ls P (T.set j v) := by
  obtain ⟨⟨g1, g2, g3, g4⟩, g5, g6⟩ := e
  refine ⟨⟨g1.setCell (by simpa using g5.2.2) _, ints_set g2 g5.1, g3, ?_⟩, g5, ?_⟩
  · rw [heap_setCell_other _ _ _ _ (by simpa using g5.2.1)]; exact g4
  · rw [heap_setCell_same _ _ _ _ _ _ g6, cellsOf_set]
theorem EW.drew {w W : World} {gs g h : Nat} {ls P T : List Int} (e : EW w W gs g h ls P T) : EW w W.drew gs g h ls P T := ⟨e.1.drewN 1, e.2.1, e.2.2⟩
theorem EW.at {w W : World} {gs g h : Nat} {ls P T : List Int} (e : EW w W gs g h ls P T) {j : Nat} (hj : j < T.length) : W.cell? ⟨h, j, none⟩ = some (.int .i64 (T.getD j 0)) ∧ W.frozen? ⟨h, j, none⟩ = false := by
  refine ⟨?_, frozen_of_row _ _ j _ _ e.2.2⟩
  rw [cell_of_row _ _ j _ _ _ e.2.2, cellsOf_get _ _ hj]

set_option maxHeartbeats 4000000 in
theorem specDuals_yes (m b off c1 : Nat) (cs : List Int) (w : World) (hA : IntsAt w (some ⟨b, off, none⟩) cs) (hC : costsB m cs = true) :
    Calls Try.prog 22 #[.int .i64 m, .slice (some ⟨b, off, none⟩) cs.length c1] w fun e w' => ∃ s1 s2, e = .returned (.tuple #[s1, s2, .bool true]) ∧ Below w.heap.size w w' ∧ w'.ownsRow w.heap.size 2 1 s1 m ((duR m cs).map (Value.int .i64)) ∧ w'.ownsRow w.heap.size 2 1 s2 m ((duC m cs).map (Value.int .i64)) ∧ ∀ b, s1.ownBlock = some b → s2.ownBlock ≠ some b := by
  have HA : Hid (IntsAt w (some ⟨b, off, none⟩) cs) := hA
  have HC : Hid (costsB m cs = true) := hC
  obtain ⟨h1, h2, hl, hf⟩ : 1 ≤ m ∧ m ≤ 6 ∧ cs.length = m * m ∧ feeTo cs (m * m) := by
    obtain ⟨m', hm, q1, q2, q3, q4⟩ := costsB_nat hC
    obtain rfl : m = m' := by omega
    exact ⟨q1, q2, q3, q4⟩
  have HF : Hid (feeTo cs (m * m)) := hf
  have HLC : Hid (cs.length = m * m) := hl
  clear hA hC hf hl
  obtain ⟨q1, q2⟩ := du_yes HC.out
  have hbk := bestK_lt m cs
  have HOW : Hid (∀ i, i < m → (rowL m (bestK m cs)).getD i 0 = (own (rowL m (bestK m cs)) i : Nat) ∧ own (rowL m (bestK m cs)) i < m) := own_row' hbk
  have HLL : Hid ((rowL m (bestK m cs)).length = m) := rowL_length hbk
  have HAS : Hid (asgL m cs = rowL m (bestK m cs)) := (asg_yes HC.out).1
  obtain ⟨ls, HLS⟩ : ∃ v, Hid (rowL m (bestK m cs) = v) := ⟨_, rfl⟩
  rw [HLS.out] at q1 q2 HOW HLL HAS
  have HO2 : Hid (∀ i, i < m → own ls i < m) := fun i hi => (HOW.out i hi).2
  obtain ⟨R, HR⟩ : ∃ v, Hid (duR m cs = v) := ⟨_, rfl⟩
  obtain ⟨C, HCc⟩ : ∃ v, Hid (duC m cs = v) := ⟨_, rfl⟩
  have HC1 : Hid (kS m cs ls (List.replicate m 0) m = C) := q2.symm.trans HCc.out
  have HR1 : Hid (rS m cs ls C (List.replicate m 0) m = R) := by
    have := q1.symm.trans HR.out
    rw [← HC1.out]
    exact this
  rw [HR.out, HCc.out]
  clear q1 q2 hbk
  have HAA : Hid (Calls Try.prog 19 #[.int .i64 m, .slice (some ⟨b, off, none⟩) cs.length c1] w fun e w' => ∃ sl, e = .returned (.tuple #[sl, .int .i64 (asgV m cs), .bool true]) ∧ Below w.heap.size w w' ∧ w'.ownsRow w.heap.size 2 1 sl m (ls.map (Value.int .i64))) := by
    have := specAssigned_any m (some ⟨b, off, none⟩) c1 cs w HA.out
    rw [HC.out, HAS.out, HLL.out] at this
    exact this
  obtain ⟨V, HV⟩ : ∃ v, Hid (asgV m cs = v) := ⟨_, rfl⟩
  rw [HV.out] at HAA
  obtain ⟨M, HM⟩ : ∃ v, Hid (m * m = v) := ⟨_, rfl⟩
  have HCL : Hid (cs.length = M) := HLC.out.trans HM.out
  have hM : M ≤ 36 := by rw [← HM.out]; exact mul_bd6 m m h2 h2
  rw [HCL.out] at HAA ⊢
  have hmk := fun X : World => make_ints X m (by omega)
  go_enter Try.func22, Try.ntmps22
  go_wp2_with fail
  refine HAA.out.mono ?_
  rintro e w1 ⟨sl, rfl, hb1, ho1⟩
  obtain ⟨gs, gc, rfl⟩ : ∃ g c, sl = .slice (some ⟨g, 0, none⟩) m c := own_sm ho1 (fun e => by obtain ⟨_, ⟨_, h⟩ | ⟨_, _, _, h, _⟩⟩ := ho1 <;> first | omega | (rw [e] at h; cases h))
  have B1 : Hid (Below w.heap.size w w1) := hb1
  have D1 : Hid (DW w (w1.alloc (.cells (cellsOf (List.replicate m 0)) 2)) gs w1.heap.size ls (List.replicate m 0)) :=
    ⟨hb1.alloc hb1.size _, (owns_ints ho1).below ((Below.refl _ _).alloc (Nat.le_refl _) _), ⟨fun e => by have := (ho1.lt gs rfl).2; omega, hb1.size⟩, heap_alloc_new _ _⟩
  clear hb1 ho1 HAA
  go_wp2_with fail
  obtain ⟨g, HG⟩ : ∃ v, Hid (w1.heap.size = v) := ⟨_, rfl⟩
  rw [HG.out] at D1 ⊢
  generalize w1.alloc (.cells (cellsOf (List.replicate m 0)) 2) = X1 at *
  clear hmk
  go_loopw [11, 12, 13, 14] (fun t _ _ _ wr => ∃ k : Nat, k ≤ m ∧ t = .int .i64 k ∧ DW w wr gs g ls (kS m cs ls (List.replicate m 0) k)) (fun t _ _ _ _ => m - (intOf t).toNat)
  case atStart => exact ⟨0, Nat.zero_le _, rfl, D1.out⟩
  case round =>
    clear D1
    obtain ⟨k, hk, rfl, hcw⟩ := hrel
    have H1 : Hid (DW w wr gs g ls (kS m cs ls (List.replicate m 0) k)) := hcw
    clear hcw
    by_cases hlt : k < m
    · have HB : Hid (bdP (72000000 * k) (kS m cs ls (List.replicate m 0) k)) := bd_kS (bd_zero m) HF.out h2 HO2.out k
      have HN : Hid (kS m cs ls (List.replicate m 0) (k + 1) = iS m cs ls (kS m cs ls (List.replicate m 0) k) m) := rfl
      have HP6 : Hid ((kS m cs ls (List.replicate m 0) k).length = m) := by show _ = _; rw [kS_length]; simp
      obtain ⟨P, HP⟩ : ∃ P, Hid (kS m cs ls (List.replicate m 0) k = P) := ⟨_, rfl⟩
      rw [HP.out] at HB HN H1 HP6
      go_wp2_with fail
      go_loopw [12, 13, 14] (fun t _ _ wr => ∃ i : Nat, i ≤ m ∧ t = .int .i64 i ∧ DW w wr gs g ls (iS m cs ls P i)) (fun t _ _ _ => m - (intOf t).toNat)
      case atStart => exact ⟨0, Nat.zero_le _, rfl, H1.out⟩
      case round =>
        clear H1
        obtain ⟨i, hi, rfl, hcw⟩ := hrel
        have H1 : Hid (DW w wr gs g ls (iS m cs ls P i)) := hcw
        clear hcw
        by_cases hlti : i < m
        · have HBi : Hid (bdP (72000000 * k + 12000000 * i) (iS m cs ls P i)) := bd_iS HB.out HF.out h2 HO2.out i hi
          have HNi : Hid (iS m cs ls P (i + 1) = jS m cs ls i (iS m cs ls P i) m) := rfl
          have HQ6 : Hid ((iS m cs ls P i).length = m) := by show _ = _; rw [iS_length, HP6.out]
          obtain ⟨Q, HQ⟩ : ∃ X, Hid (iS m cs ls P i = X) := ⟨_, rfl⟩
          rw [HQ.out] at HBi HNi H1 HQ6
          obtain ⟨hoi, holt⟩ := HOW.out i hlti
          have HOI : Hid (ls.getD i 0 = (own ls i : Nat)) := hoi
          obtain ⟨o, HOo⟩ : ∃ o, Hid (own ls i = o) := ⟨_, rfl⟩
          rw [HOo.out] at holt HOI
          clear hoi
          have hkn : (i : Int) * (m : Int) = ((i * m : Nat) : Int) := by simp
          have hb0 : i * m ≤ 36 := mul_bd6 i m (by omega) h2
          go_wp2_with fail
          go_loopw [13, 14] (fun t _ wr => ∃ j : Nat, j ≤ m ∧ t = .int .i64 j ∧ DW w wr gs g ls (jS m cs ls i Q j)) (fun t _ _ => m - (intOf t).toNat)
          case atStart => exact ⟨0, Nat.zero_le _, rfl, H1.out⟩
          case round =>
            clear H1
            obtain ⟨j, hj, rfl, hcw⟩ := hrel
            have H1 : Hid (DW w wr gs g ls (jS m cs ls i Q j)) := hcw
            clear hcw
            by_cases hltj : j < m
            · have hbj : bdP 432000000 (jS m cs ls i Q j) := bdP_mono (bd_jS HBi.out HF.out hlti (HO2.out i hlti) j hj) (by omega)
              have hT6 : (jS m cs ls i Q j).length = m := by rw [jS_length, HQ6.out]
              have HNj : Hid (jS m cs ls i Q (j + 1) = (jS m cs ls i Q j).set j (min ((jS m cs ls i Q j).getD j 0) ((jS m cs ls i Q j).getD o 0 + fee m cs i j - fee m cs i o))) := by
                show stp m cs ls i j (jS m cs ls i Q j) = _
                unfold stp wayV
                rw [HOo.out]
              obtain ⟨T, HT⟩ : ∃ P, Hid (jS m cs ls i Q j = P) := ⟨_, rfl⟩
              rw [HT.out] at hbj hT6 HNj H1
              obtain ⟨cj, fj⟩ := H1.out.at (j := j) (by omega)
              obtain ⟨co, _⟩ := H1.out.at (j := o) (by omega)
              have cl := H1.out.ls (j := i) (by rw [HLL.out]; exact hlti)
              rw [HOI.out] at cl
              have f1 := cost_cell HA.out H1.out.1 HLC.out hlti hltj
              have f2 := cost_cell HA.out H1.out.1 HLC.out hlti holt
              have s1 := in_sq hlti hltj
              have s2 := in_sq hlti holt
              rw [HM.out] at s1 s2
              have d1 := fee_bd HF.out hlti hltj
              have d2 := fee_bd HF.out hlti holt
              have e1 := hbj j
              have e2 := hbj o
              clear hbj hT6
              obtain ⟨x1, HX1⟩ : ∃ f, Hid (fee m cs i j = f) := ⟨_, rfl⟩
              obtain ⟨x2, HX2⟩ : ∃ f, Hid (fee m cs i o = f) := ⟨_, rfl⟩
              obtain ⟨pj, HPJ⟩ : ∃ f, Hid (T.getD j 0 = f) := ⟨_, rfl⟩
              obtain ⟨po, HPO⟩ : ∃ f, Hid (T.getD o 0 = f) := ⟨_, rfl⟩
              obtain ⟨im, HIM⟩ : ∃ q, Hid (i * m = q) := ⟨_, rfl⟩
              rw [HX1.out] at f1 d1 HNj
              rw [HX2.out] at f2 d2 HNj
              rw [HPJ.out] at cj e1 HNj
              rw [HPO.out] at co e2 HNj
              rw [HIM.out] at f1 f2 s1 s2 hb0 hkn
              have HW1 := hid_of (wrap_36 hkn hb0)
              have HW2 := hid_of (wrap_42 s1 hM)
              have HW3 := hid_of (wrap_42 s2 hM)
              have HI1 := hid_of (idx_42 s1)
              have HI2 := hid_of (idx_42 s2)
              clear s1 s2 hb0
              clear hkn
              have H2 : Hid (∀ N, DW w ((wr.drewN N).setCell ⟨g, j, none⟩ (.int .i64 (min pj (po + x1 - x2)))) gs g ls (jS m cs ls i Q (j + 1))) := by
                intro N
                rw [HNj.out]
                exact (H1.out.drewN N).put j _
              clear HNj
              go_wp2
              obtain ⟨hw1, hv1⟩ := HW1.out
              obtain ⟨hw2, hv2⟩ := HW2.out
              obtain ⟨hw3, hv3⟩ := HW3.out
              obtain ⟨⟨i1, i2⟩, i3⟩ := HI1.out
              obtain ⟨⟨i4, i5⟩, i6⟩ := HI2.out
              go_region
              all_goals
                clear hw1 hv1 hw2 hv2 hw3 hv3 i1 i2 i3 i4 i5 i6 d1 d2 e1 e2
                go_wp2
                refine ⟨⟨j + 1, by omega, by go_num, H2.out 1⟩, by simp [intOf]; omega⟩
            · have hjm : j = m := by omega
              have H2 : Hid (DW w wr gs g ls (iS m cs ls P (i + 1))) := by
                have := H1.out
                rw [hjm] at this
                rw [← HNi.out] at this
                exact this
              clear hjm
              go_wp2
              refine ⟨⟨i + 1, by omega, by go_num, H2.out⟩, by simp [intOf]; omega⟩
        · have him : i = m := by omega
          have H2 : Hid (DW w wr gs g ls (kS m cs ls (List.replicate m 0) (k + 1))) := by
            show DW _ _ _ _ _ _
            have h := H1.out
            rw [him] at h
            rw [HN.out]
            exact h
          clear him
          go_wp2
          refine ⟨⟨k + 1, by omega, by go_num, H2.out⟩, by simp [intOf]; omega⟩
    · have hkm : k = m := by omega
      have H2 : Hid (DW w wr gs g ls C) := by
        have := H1.out
        rw [hkm, HC1.out] at this
        exact this
      have HCn : Hid (C.length = m) := by show _ = _; rw [← HC1.out, kS_length]; simp
      have HBC : Hid (bdP 432000000 C) := by
        show bdP _ _
        rw [← HC1.out]
        exact bdP_mono (bd_kS (bd_zero m) HF.out h2 HO2.out m) (by omega)
      have hmk := fun X : World => make_ints X m (by omega)
      have hgs : gs < wr.heap.size := block_lt_of_cell (H2.out.ls (j := 0) (by rw [HLL.out]; omega))
      have E1 : Hid (EW w (wr.alloc (.cells (cellsOf (List.replicate m 0)) 2)) gs g wr.heap.size ls C (List.replicate m 0)) := by
        have hbb : Below wr.heap.size wr (wr.alloc (.cells (cellsOf (List.replicate m 0)) 2)) := (Below.refl _ _).alloc (Nat.le_refl _) _
        have hg := row_lt H2.out.2.2.2
        exact ⟨⟨H2.out.1.alloc H2.out.1.size _, H2.out.2.1.below hbb, H2.out.2.2.1, (heap_alloc_old _ _ hg).trans H2.out.2.2.2⟩, ⟨by omega, by omega, H2.out.1.size⟩, heap_alloc_new _ _⟩
      clear H1 H2 hkm hgs
      go_wp2_with fail
      obtain ⟨h, HH⟩ : ∃ v, Hid (wr.heap.size = v) := ⟨_, rfl⟩
      rw [HH.out] at E1 ⊢
      generalize wr.alloc (.cells (cellsOf (List.replicate m 0)) 2) = X2 at *
      clear hmk
      go_loopw [16] (fun t wr => ∃ i : Nat, i ≤ m ∧ t = .int .i64 i ∧ EW w wr gs g h ls C (rS m cs ls C (List.replicate m 0) i)) (fun t _ => m - (intOf t).toNat)
      case atStart => exact ⟨0, Nat.zero_le _, rfl, E1.out⟩
      case round =>
        clear E1
        obtain ⟨i, hi, rfl, hcw⟩ := hrel
        have H1 : Hid (EW w wr gs g h ls C (rS m cs ls C (List.replicate m 0) i)) := hcw
        clear hcw
        by_cases hlti : i < m
        · obtain ⟨hoi, holt⟩ := HOW.out i hlti
          have HN : Hid (rS m cs ls C (List.replicate m 0) (i + 1) = (rS m cs ls C (List.replicate m 0) i).set i (fee m cs i (own ls i) - C.getD (own ls i) 0)) := rfl
          have hT6 : (rS m cs ls C (List.replicate m 0) i).length = m := by rw [rS_length]; simp
          obtain ⟨T, HT⟩ : ∃ P, Hid (rS m cs ls C (List.replicate m 0) i = P) := ⟨_, rfl⟩
          rw [HT.out] at hT6 HN H1
          have cl := H1.out.1.ls (j := i) (by rw [HLL.out]; exact hlti)
          rw [hoi] at cl
          obtain ⟨o, HOo⟩ : ∃ o, Hid (own ls i = o) := ⟨_, rfl⟩
          rw [HOo.out] at holt cl HN
          obtain ⟨co, _⟩ := H1.out.1.at (j := o) (by rw [HCn.out]; exact holt)
          obtain ⟨ci, fi⟩ := H1.out.at (j := i) (by omega)
          have f2 := cost_cell HA.out H1.out.1.1 HLC.out hlti holt
          have s2 := in_sq hlti holt
          rw [HM.out] at s2
          have d2 := fee_bd HF.out hlti holt
          have e2 := HBC.out o
          have hkn : (i : Int) * (m : Int) = ((i * m : Nat) : Int) := by simp
          have hb0 : i * m ≤ 36 := mul_bd6 i m (by omega) h2
          clear hT6 hoi
          obtain ⟨x2, HX2⟩ : ∃ f, Hid (fee m cs i o = f) := ⟨_, rfl⟩
          obtain ⟨pj, HPJ⟩ : ∃ f, Hid (T.getD i 0 = f) := ⟨_, rfl⟩
          obtain ⟨po, HPO⟩ : ∃ f, Hid (C.getD o 0 = f) := ⟨_, rfl⟩
          obtain ⟨im, HIM⟩ : ∃ q, Hid (i * m = q) := ⟨_, rfl⟩
          rw [HX2.out] at f2 d2 HN
          rw [HPJ.out] at ci
          rw [HPO.out] at co e2 HN
          rw [HIM.out] at f2 s2 hb0 hkn
          have HW1 := hid_of (wrap_36 hkn hb0)
          have HW3 := hid_of (wrap_42 s2 hM)
          have HI2 := hid_of (idx_42 s2)
          clear s2 hb0 hkn
          have H2 : Hid (EW w (wr.setCell ⟨h, i, none⟩ (.int .i64 (x2 - po))) gs g h ls C (rS m cs ls C (List.replicate m 0) (i + 1))) := by
            show EW _ _ _ _ _ _ _ _
            rw [HN.out]
            exact H1.out.put i _
          clear HN
          go_wp2
          obtain ⟨hw1, hv1⟩ := HW1.out
          obtain ⟨hw3, hv3⟩ := HW3.out
          obtain ⟨⟨i4, i5⟩, i6⟩ := HI2.out
          go_region
          all_goals
            clear hw1 hv1 hw3 hv3 i4 i5 i6 d2 e2
            go_wp2
            refine ⟨⟨i + 1, by omega, by go_num, H2.out.drew⟩, by simp [intOf]; omega⟩
        · have him : i = m := by omega
          have H2 : Hid (EW w wr gs g h ls C R) := by
            have := H1.out
            rw [him, HR1.out] at this
            exact this
          have HRn : Hid (R.length = m) := by show _ = _; rw [← HR1.out, rS_length]; simp
          clear H1 him
          go_wp2
          refine bodyPost_ret (v := .tuple #[.slice (some ⟨h, 0, none⟩) m m, .slice (some ⟨g, 0, none⟩) m m, .bool true]) (by simp [results, Try.results22, go_sem]) rfl ⟨_, _, rfl, H2.out.1.1, own_of_row H2.out.2.2 H2.out.2.1.2.2 HRn.out (by omega), own_of_row H2.out.1.2.2.2 H2.out.1.2.2.1.2 HCn.out (by omega), fun b e1 e2 => by injection e1 with e1; injection e2 with e2; exact H2.out.2.1.2.1 (e2.trans e1.symm)⟩

theorem specDuals_any (n : Int) (a1 : Option Addr) (c1 : Nat) (cs : List Int) (w : World) (hA : IntsAt w a1 cs) :
    Calls Try.prog 22 #[.int .i64 n, .slice a1 cs.length c1] w fun e w' => ∃ s1 s2, e = .returned (.tuple #[s1, s2, .bool (costsB n cs)]) ∧ Below w.heap.size w w' ∧ w'.ownsRow w.heap.size 2 1 s1 (duR n cs).length ((duR n cs).map (Value.int .i64)) ∧ w'.ownsRow w.heap.size 2 1 s2 (duC n cs).length ((duC n cs).map (Value.int .i64)) ∧ ∀ b, s1.ownBlock = some b → s2.ownBlock ≠ some b := by
  cases hc : costsB n cs
  · obtain ⟨q1, q2⟩ := du_no hc
    rw [q1, q2]
    have HC : Hid (costsB n cs = false) := hc
    have HA : Hid (IntsAt w a1 cs) := hA
    obtain ⟨V, HV⟩ : ∃ v, Hid (asgV n cs = v) := ⟨_, rfl⟩
    clear hc hA q1 q2
    go_enter Try.func22, Try.ntmps22
    go_wp2_with fail
    refine (specAssigned_any n a1 c1 cs w HA.out).mono ?_
    rintro e w1 ⟨sl, rfl, hb, ho⟩
    have B1 : Hid (Below w.heap.size w w1) := hb
    rw [HC.out, HV.out]
    clear hb ho
    go_wp2
    refine bodyPost_ret (v := .tuple #[.slice none 0 0, .slice none 0 0, .bool false]) (by simp [results, Try.results22, go_sem]) rfl ⟨_, _, rfl, B1.out, World.ownsRow_nil _ _ _ _, World.ownsRow_nil _ _ _ _, fun b e => by cases e⟩
  · obtain ⟨m, rfl, h1, h2, hl, hf⟩ := costsB_nat hc
    obtain ⟨b, off, rfl, _⟩ := hA.some (j := 0) (by rw [hl]; exact Nat.mul_pos h1 h1)
    have h := specDuals_yes m b off c1 cs w hA hc
    obtain ⟨e1, e2⟩ := du_yes hc
    rw [e1, e2] at h ⊢
    rw [rowP_length, colP_length]
    exact h

end Go.Proofs.Ytiojgkebdjdgbaa
