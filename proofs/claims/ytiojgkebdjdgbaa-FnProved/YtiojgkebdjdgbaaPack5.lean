import Derived.Test.YtiojgkebdjdgbaaPack1
import Derived.Test.YtiojgkebdjdgbaaPack2
import Derived.Test.YtiojgkebdjdgbaaPack4
import Derived.Lib.MinMax
import Derived.BigRegion
namespace Go.Proofs.Ytiojgkebdjdgbaa
open Go.RowKit

/-- A row of numbers that stands in a block is owned. -/
theorem own_of_row {W : World} {B g n : Nat} {l : List Int} (h : W.heap[g]? = some (.cells (cellsOf l) 2 (0, 0))) (hB : B ≤ g) (hl : l.length = n) (hn : n ≤ 1000) : W.ownsRow B 2 1 (.slice (some ⟨g, 0, none⟩) n n) n (l.map (Value.int .i64)) := by
  refine ⟨by simpa using hl, .inr ⟨g, n, cellsOf l, rfl, hB, h, Nat.le_refl _, by unfold maxLen; omega, by rw [cellsOf_size]; omega, ?_⟩⟩
  have : (cellsOf l).toList = l.map (Value.int .i64) := by simp [cellsOf]
  rw [this, List.take_of_length_le (by simp; omega)]

theorem own_row' {m k : Nat} (hk : k < facN m) : ∀ i, i < m → (rowL m k).getD i 0 = (own (rowL m k) i : Nat) ∧ own (rowL m k) i < m := by
  intro i hi
  have hi' : i < (rowN m k).length := by rw [rowN_length hk]; exact hi
  have e : (rowL m k).getD i 0 = (((rowN m k)[i] : Nat) : Int) := by simp [rowL, List.getD, hi']
  have h2 := rowN_lt (List.getElem_mem hi')
  unfold own
  rw [e]
  omega

theorem wrap_42 {q j M : Nat} (h : q + j < M) (hM : M ≤ 36) : wrap64 ((q : Int) + (j : Int)) = (q : Int) + (j : Int) ∧ IntKind.i64.wrap ((q : Int) + (j : Int)) = (q : Int) + (j : Int) :=
  ⟨by unfold wrap64; omega, IntWalk.i64_in _ (by omega)⟩
theorem idx_42 {q j M : Nat} (h : q + j < M) : (0 ≤ (q : Int) + (j : Int) ∧ (q : Int) + (j : Int) < (M : Int)) ∧ ((q : Int) + (j : Int)).toNat = q + j := by omega
theorem hid_of {p : Prop} (h : p) : Hid p := h
theorem wrap_36 {a : Int} {q : Nat} (h : a = (q : Nat)) (hq : q ≤ 36) : wrap64 a = (q : Nat) ∧ IntKind.i64.wrap a = (q : Nat) := by
  subst h
  exact ⟨by unfold wrap64; omega, IntWalk.i64_in _ (by omega)⟩

/-- The world inside the model's DualsOf: the list, the prices of the columns. -/
def DW (w W : World) (gs g : Nat) (ls P : List Int) : Prop :=
  Below w.heap.size w W ∧ IntsAt W (some ⟨gs, 0, none⟩) ls ∧ (gs ≠ g ∧ w.heap.size ≤ g) ∧ W.heap[g]? = some (.cells (cellsOf P) 2 (0, 0))
theorem ints_set {W : World} {gs g j : Nat} {ls : List Int} {v : Value} (h : IntsAt W (some ⟨gs, 0, none⟩) ls) (hne : gs ≠ g) : IntsAt (W.setCell ⟨g, j, none⟩ v) (some ⟨gs, 0, none⟩) ls := by
  intro k hk
  obtain ⟨b, off, e, hc⟩ := h k hk
  refine ⟨b, off, e, ?_⟩
  simp at e
  rw [← hc]
  exact World.cell?_of_block (heap_setCell_other _ _ _ _ (by simp; omega))
theorem DW.put {w W : World} {gs g : Nat} {ls P : List Int} (h : DW w W gs g ls P) (j : Nat) (v : Int) : DW w (W.setCell ⟨g, j, none⟩ (.int .i64 v)) gs g ls (P.set j v) := by
  obtain ⟨g1, g2, g3, g4⟩ := h
  refine ⟨g1.setCell (by simpa using g3.2) _, ints_set g2 g3.1, g3, ?_⟩
  rw [heap_setCell_same _ _ _ _ _ _ g4, cellsOf_set]
theorem DW.drewN {w W : World} {gs g : Nat} {ls P : List Int} (h : DW w W gs g ls P) (n : Nat) : DW w (W.drewN n) gs g ls P := ⟨below_drewN h.1 n, h.2.1, h.2.2.1, h.2.2.2⟩
theorem DW.at {w W : World} {gs g : Nat} {ls P : List Int} (h : DW w W gs g ls P) {j : Nat} (hj : j < P.length) : W.cell? ⟨g, j, none⟩ = some (.int .i64 (P.getD j 0)) ∧ W.frozen? ⟨g, j, none⟩ = false := by
  refine ⟨?_, frozen_of_row _ _ j _ _ h.2.2.2⟩
  rw [cell_of_row _ _ j _ _ _ h.2.2.2, cellsOf_get _ _ hj]
theorem DW.ls {w W : World} {gs g : Nat} {ls P : List Int} (h : DW w W gs g ls P) {j : Nat} (hj : j < ls.length) : W.cell? ⟨gs, j, none⟩ = some (.int .i64 (ls.getD j 0)) := by
  obtain ⟨_, _, e, hc⟩ := h.2.1 j hj
  simp at e
  obtain ⟨rfl, rfl⟩ := e
  rw [Nat.zero_add] at hc
  exact hc
theorem cost_cell {w W : World} {b off m i j : Nat} {cs : List Int} (hA : IntsAt w (some ⟨b, off, none⟩) cs) (hb : Below w.heap.size w W) (hl : cs.length = m * m) (hi : i < m) (hj : j < m) : W.cell? ⟨b, off + (i * m + j), none⟩ = some (.int .i64 (fee m cs i j)) := by
  obtain ⟨_, _, e, hc⟩ := (hA.below hb) (i * m + j) (by rw [hl]; exact in_sq hi hj)
  simp at e
  obtain ⟨rfl, rfl⟩ := e
  exact hc
/-- With the prices of the rows. -/
def EW (w W : World) (gs g h : Nat) (ls P T : List Int) : Prop := DW w W gs g ls P ∧ (gs ≠ h ∧ g ≠ h ∧ w.heap.size ≤ h) ∧ W.heap[h]? = some (.cells (cellsOf T) 2 (0, 0))
theorem EW.put {w W : World} {gs g h : Nat} {ls P T : List Int} (e : EW w W gs g h ls P T) (j : Nat) (v : Int) : EW w (W.setCell ⟨h, j, none⟩ (.int .i64 v)) gs g h ls P (T.set j v) := by
  obtain ⟨⟨g1, g2, g3, g4⟩, g5, g6⟩ := e
  refine ⟨⟨g1.setCell (by simpa using g5.2.2) _, ints_set g2 g5.1, g3, ?_⟩, g5, ?_⟩
  · rw [heap_setCell_other _ _ _ _ (by simpa using g5.2.1)]; exact g4
  · rw [heap_setCell_same _ _ _ _ _ _ g6, cellsOf_set]
theorem EW.drew {w W : World} {gs g h : Nat} {ls P T : List Int} (e : EW w W gs g h ls P T) : EW w W.drew gs g h ls P T := ⟨e.1.drewN 1, e.2.1, e.2.2⟩
theorem EW.at {w W : World} {gs g h : Nat} {ls P T : List Int} (e : EW w W gs g h ls P T) {j : Nat} (hj : j < T.length) : W.cell? ⟨h, j, none⟩ = some (.int .i64 (T.getD j 0)) ∧ W.frozen? ⟨h, j, none⟩ = false := by
  refine ⟨?_, frozen_of_row _ _ j _ _ e.2.2⟩
  rw [cell_of_row _ _ j _ _ _ e.2.2, cellsOf_get _ _ hj]

set_option maxHeartbeats 4000000 in
theorem specDuals_yes (m b off c1 : Nat) (cs : List Int) (w : World) (hA : IntsAt w (some ⟨b, off, none⟩) cs) (hC : costsB m cs = true) :
    Calls Try.prog 22 #[.int .i64 m, .slice (some ⟨b, off, none⟩) cs.length c1] w fun e w' => ∃ s1 s2, e = .returned (.tuple #[s1, s2, .bool true]) ∧ Below w.heap.size w w' ∧ w'.ownsRow w.heap.size 2 1 s1 m ((duR m cs).map (Value.int .i64)) ∧ w'.ownsRow w.heap.size 2 1 s2 m ((duC m cs).map (Value.int .i64)) ∧ ∀ b, s1.ownBlock = some b → s2.ownBlock ≠ some b := by
  have HA : Hid (IntsAt w (some ⟨b, off, none⟩) cs) := hA
  have HC : Hid (costsB m cs = true) := hC
  obtain ⟨h1, h2, hl, hf⟩ : 1 ≤ m ∧ m ≤ 6 ∧ cs.length = m * m ∧ feeTo cs (m * m) := by
    obtain ⟨m', hm, q1, q2, q3, q4⟩ := costsB_nat hC
    obtain rfl : m = m' := by omega
    exact ⟨q1, q2, q3, q4⟩
  have HF : Hid (feeTo cs (m * m)) := hf
  have HLC : Hid (cs.length = m * m) := hl
  clear hA hC hf hl
  obtain ⟨q1, q2⟩ := du_yes HC.out
  have hbk := bestK_lt m cs
  have HOW : Hid (∀ i, i < m → (rowL m (bestK m cs)).getD i 0 = (own (rowL m (bestK m cs)) i : Nat) ∧ own (rowL m (bestK m cs)) i < m) := own_row' hbk
  have HLL : Hid ((rowL m (bestK m cs)).length = m) := rowL_length hbk
  have HAS : Hid (asgL m cs = rowL m (bestK m cs)) := (asg_yes HC.out).1
  obtain ⟨ls, HLS⟩ : ∃ v, Hid (rowL m (bestK m cs) = v) := ⟨_, rfl⟩
  rw [HLS.out] at q1 q2 HOW HLL HAS
  have HO2 : Hid (∀ i, i < m → own ls i < m) := fun i hi => (HOW.out i hi).2
  obtain ⟨R, HR⟩ : ∃ v, Hid (duR m cs = v) := ⟨_, rfl⟩
  obtain ⟨C, HCc⟩ : ∃ v, Hid (duC m cs = v) := ⟨_, rfl⟩
  have HC1 : Hid (kS m cs ls (List.replicate m 0) m = C) := q2.symm.trans HCc.out
  have HR1 : Hid (rS m cs ls C (List.replicate m 0) m = R) := by
    have := q1.symm.trans HR.out
    rw [← HC1.out]
    exact this
  rw [HR.out, HCc.out]
  clear q1 q2 hbk
  have HAA : Hid (Calls Try.prog 19 #[.int .i64 m, .slice (some ⟨b, off, none⟩) cs.length c1] w fun e w' => ∃ sl, e = .returned (.tuple #[sl, .int .i64 (asgV m cs), .bool true]) ∧ Below w.heap.size w w' ∧ w'.ownsRow w.heap.size 2 1 sl m (ls.map (Value.int .i64))) := by
    have := specAssigned_any m (some ⟨b, off, none⟩) c1 cs w HA.out
    rw [HC.out, HAS.out, HLL.out] at this
    exact this
  obtain ⟨V, HV⟩ : ∃ v, Hid (asgV m cs = v) := ⟨_, rfl⟩
  rw [HV.out] at HAA
  obtain ⟨M, HM⟩ : ∃ v, Hid (m * m = v) := ⟨_, rfl⟩
  have HCL : Hid (cs.length = M) := HLC.out.trans HM.out
  have hM : M ≤ 36 := by rw [← HM.out]; exact mul_bd6 m m h2 h2
  rw [HCL.out] at HAA ⊢
  have hmk := fun X : World => make_ints X m (by omega)
  go_enter Try.func22, Try.ntmps22
  go_wp2_with fail
  refine HAA.out.mono ?_
  rintro e w1 ⟨sl, rfl, hb1, ho1⟩
  obtain ⟨gs, gc, rfl⟩ : ∃ g c, sl = .slice (some ⟨g, 0, none⟩) m c := own_sm ho1 (fun e => by obtain ⟨_, ⟨_, h⟩ | ⟨_, _, _, h, _⟩⟩ := ho1 <;> first | omega | (rw [e] at h; cases h))
  have B1 : Hid (Below w.heap.size w w1) := hb1
  have D1 : Hid (DW w (w1.alloc (.cells (cellsOf (List.replicate m 0)) 2)) gs w1.heap.size ls (List.replicate m 0)) :=
    ⟨hb1.alloc hb1.size _, (owns_ints ho1).below ((Below.refl _ _).alloc (Nat.le_refl _) _), ⟨fun e => by have := (ho1.lt gs rfl).2; omega, hb1.size⟩, heap_alloc_new _ _⟩
  clear hb1 ho1 HAA
  go_wp2_with fail
  obtain ⟨g, HG⟩ : ∃ v, Hid (w1.heap.size = v) := ⟨_, rfl⟩
  rw [HG.out] at D1 ⊢
  generalize w1.alloc (.cells (cellsOf (List.replicate m 0)) 2) = X1 at *
  clear hmk
  go_loopw [11, 12, 13, 14] (fun t _ _ _ wr => ∃ k : Nat, k ≤ m ∧ t = .int .i64 k ∧ DW w wr gs g ls (kS m cs ls (List.replicate m 0) k)) (fun t _ _ _ _ => m - (intOf t).toNat)
  case atStart => exact ⟨0, Nat.zero_le _, rfl, D1.out⟩
  case round =>
    clear D1
    obtain ⟨k, hk, rfl, hcw⟩ := hrel
    have H1 : Hid (DW w wr gs g ls (kS m cs ls (List.replicate m 0) k)) := hcw
    clear hcw
    by_cases hlt : k < m
    · have HB : Hid (bdP (72000000 * k) (kS m cs ls (List.replicate m 0) k)) := bd_kS (bd_zero m) HF.out h2 HO2.out k
      have HN : Hid (kS m cs ls (List.replicate m 0) (k + 1) = iS m cs ls (kS m cs ls (List.replicate m 0) k) m) := rfl
      have HP6 : Hid ((kS m cs ls (List.replicate m 0) k).length = m) := by show _ = _; rw [kS_length]; simp
      obtain ⟨P, HP⟩ : ∃ P, Hid (kS m cs ls (List.replicate m 0) k = P) := ⟨_, rfl⟩
      rw [HP.out] at HB HN H1 HP6
      go_wp2_with fail
      go_loopw [12, 13, 14] (fun t _ _ wr => ∃ i : Nat, i ≤ m ∧ t = .int .i64 i ∧ DW w wr gs g ls (iS m cs ls P i)) (fun t _ _ _ => m - (intOf t).toNat)
      case atStart => exact ⟨0, Nat.zero_le _, rfl, H1.out⟩
      case round =>
        clear H1
        obtain ⟨i, hi, rfl, hcw⟩ := hrel
        have H1 : Hid (DW w wr gs g ls (iS m cs ls P i)) := hcw
        clear hcw
        by_cases hlti : i < m
        · have HBi : Hid (bdP (72000000 * k + 12000000 * i) (iS m cs ls P i)) := bd_iS HB.out HF.out h2 HO2.out i hi
          have HNi : Hid (iS m cs ls P (i + 1) = jS m cs ls i (iS m cs ls P i) m) := rfl
          have HQ6 : Hid ((iS m cs ls P i).length = m) := by show _ = _; rw [iS_length, HP6.out]
          obtain ⟨Q, HQ⟩ : ∃ X, Hid (iS m cs ls P i = X) := ⟨_, rfl⟩
          rw [HQ.out] at HBi HNi H1 HQ6
          obtain ⟨hoi, holt⟩ := HOW.out i hlti
          have HOI : Hid (ls.getD i 0 = (own ls i : Nat)) := hoi
          obtain ⟨o, HOo⟩ : ∃ o, Hid (own ls i = o) := ⟨_, rfl⟩
          rw [HOo.out] at holt HOI
          clear hoi
          have hkn : (i : Int) * (m : Int) = ((i * m : Nat) : Int) := by simp
          have hb0 : i * m ≤ 36 := mul_bd6 i m (by omega) h2
          go_wp2_with fail
          go_loopw [13, 14] (fun t _ wr => ∃ j : Nat, j ≤ m ∧ t = .int .i64 j ∧ DW w wr gs g ls (jS m cs ls i Q j)) (fun t _ _ => m - (intOf t).toNat)
          case atStart => exact ⟨0, Nat.zero_le _, rfl, H1.out⟩
          case round =>
            clear H1
            obtain ⟨j, hj, rfl, hcw⟩ := hrel
            have H1 : Hid (DW w wr gs g ls (jS m cs ls i Q j)) := hcw
            clear hcw
            by_cases hltj : j < m
            · have hbj : bdP 432000000 (jS m cs ls i Q j) := bdP_mono (bd_jS HBi.out HF.out hlti (HO2.out i hlti) j hj) (by omega)
              have hT6 : (jS m cs ls i Q j).length = m := by rw [jS_length, HQ6.out]
              have HNj : Hid (jS m cs ls i Q (j + 1) = (jS m cs ls i Q j).set j (min ((jS m cs ls i Q j).getD j 0) ((jS m cs ls i Q j).getD o 0 + fee m cs i j - fee m cs i o))) := by
                show stp m cs ls i j (jS m cs ls i Q j) = _
                unfold stp wayV
                rw [HOo.out]
              obtain ⟨T, HT⟩ : ∃ P, Hid (jS m cs ls i Q j = P) := ⟨_, rfl⟩
              rw [HT.out] at hbj hT6 HNj H1
              obtain ⟨cj, fj⟩ := H1.out.at (j := j) (by omega)
              obtain ⟨co, _⟩ := H1.out.at (j := o) (by omega)
              have cl := H1.out.ls (j := i) (by rw [HLL.out]; exact hlti)
              rw [HOI.out] at cl
              have f1 := cost_cell HA.out H1.out.1 HLC.out hlti hltj
              have f2 := cost_cell HA.out H1.out.1 HLC.out hlti holt
              have s1 := in_sq hlti hltj
              have s2 := in_sq hlti holt
              rw [HM.out] at s1 s2
              have d1 := fee_bd HF.out hlti hltj
              have d2 := fee_bd HF.out hlti holt
              have e1 := hbj j
              have e2 := hbj o
              clear hbj hT6
              obtain ⟨x1, HX1⟩ : ∃ f, Hid (fee m cs i j = f) := ⟨_, rfl⟩
              obtain ⟨x2, HX2⟩ : ∃ f, Hid (fee m cs i o = f) := ⟨_, rfl⟩
              obtain ⟨pj, HPJ⟩ : ∃ f, Hid (T.getD j 0 = f) := ⟨_, rfl⟩
              obtain ⟨po, HPO⟩ : ∃ f, Hid (T.getD o 0 = f) := ⟨_, rfl⟩
              obtain ⟨im, HIM⟩ : ∃ q, Hid (i * m = q) := ⟨_, rfl⟩
              rw [HX1.out] at f1 d1 HNj
              rw [HX2.out] at f2 d2 HNj
              rw [HPJ.out] at cj e1 HNj
              rw [HPO.out] at co e2 HNj
              rw [HIM.out] at f1 f2 s1 s2 hb0 hkn
              have HW1 := hid_of (wrap_36 hkn hb0)
              have HW2 := hid_of (wrap_42 s1 hM)
              have HW3 := hid_of (wrap_42 s2 hM)
              have HI1 := hid_of (idx_42 s1)
              have HI2 := hid_of (idx_42 s2)
              clear s1 s2 hb0
              clear hkn
              have H2 : Hid (∀ N, DW w ((wr.drewN N).setCell ⟨g, j, none⟩ (.int .i64 (min pj (po + x1 - x2)))) gs g ls (jS m cs ls i Q (j + 1))) := by
                intro N
                rw [HNj.out]
                exact (H1.out.drewN N).put j _
              clear HNj
              go_wp2
              obtain ⟨hw1, hv1⟩ := HW1.out
              obtain ⟨hw2, hv2⟩ := HW2.out
              obtain ⟨hw3, hv3⟩ := HW3.out
              obtain ⟨⟨i1, i2⟩, i3⟩ := HI1.out
              obtain ⟨⟨i4, i5⟩, i6⟩ := HI2.out
              go_region
              all_goals
                clear hw1 hv1 hw2 hv2 hw3 hv3 i1 i2 i3 i4 i5 i6 d1 d2 e1 e2
                go_wp2
                refine ⟨⟨j + 1, by omega, by go_num, H2.out 1⟩, by simp [intOf]; omega⟩
            · have hjm : j = m := by omega
              have H2 : Hid (DW w wr gs g ls (iS m cs ls P (i + 1))) := by
                have := H1.out
                rw [hjm] at this
                rw [← HNi.out] at this
                exact this
              clear hjm
              go_wp2
              refine ⟨⟨i + 1, by omega, by go_num, H2.out⟩, by simp [intOf]; omega⟩
        · have him : i = m := by omega
          have H2 : Hid (DW w wr gs g ls (kS m cs ls (List.replicate m 0) (k + 1))) := by
            show DW _ _ _ _ _ _
            have h := H1.out
            rw [him] at h
            rw [HN.out]
            exact h
          clear him
          go_wp2
          refine ⟨⟨k + 1, by omega, by go_num, H2.out⟩, by simp [intOf]; omega⟩
    · have hkm : k = m := by omega
      have H2 : Hid (DW w wr gs g ls C) := by
        have := H1.out
        rw [hkm, HC1.out] at this
        exact this
      have HCn : Hid (C.length = m) := by show _ = _; rw [← HC1.out, kS_length]; simp
      have HBC : Hid (bdP 432000000 C) := by
        show bdP _ _
        rw [← HC1.out]
        exact bdP_mono (bd_kS (bd_zero m) HF.out h2 HO2.out m) (by omega)
      have hmk := fun X : World => make_ints X m (by omega)
      have hgs : gs < wr.heap.size := block_lt_of_cell (H2.out.ls (j := 0) (by rw [HLL.out]; omega))
      have E1 : Hid (EW w (wr.alloc (.cells (cellsOf (List.replicate m 0)) 2)) gs g wr.heap.size ls C (List.replicate m 0)) := by
        have hbb : Below wr.heap.size wr (wr.alloc (.cells (cellsOf (List.replicate m 0)) 2)) := (Below.refl _ _).alloc (Nat.le_refl _) _
        have hg := row_lt H2.out.2.2.2
        exact ⟨⟨H2.out.1.alloc H2.out.1.size _, H2.out.2.1.below hbb, H2.out.2.2.1, (heap_alloc_old _ _ hg).trans H2.out.2.2.2⟩, ⟨by omega, by omega, H2.out.1.size⟩, heap_alloc_new _ _⟩
      clear H1 H2 hkm hgs
      go_wp2_with fail
      obtain ⟨h, HH⟩ : ∃ v, Hid (wr.heap.size = v) := ⟨_, rfl⟩
      rw [HH.out] at E1 ⊢
      generalize wr.alloc (.cells (cellsOf (List.replicate m 0)) 2) = X2 at *
      clear hmk
      go_loopw [16] (fun t wr => ∃ i : Nat, i ≤ m ∧ t = .int .i64 i ∧ EW w wr gs g h ls C (rS m cs ls C (List.replicate m 0) i)) (fun t _ => m - (intOf t).toNat)
      case atStart => exact ⟨0, Nat.zero_le _, rfl, E1.out⟩
      case round =>
        clear E1
        obtain ⟨i, hi, rfl, hcw⟩ := hrel
        have H1 : Hid (EW w wr gs g h ls C (rS m cs ls C (List.replicate m 0) i)) := hcw
        clear hcw
        by_cases hlti : i < m
        · obtain ⟨hoi, holt⟩ := HOW.out i hlti
          have HN : Hid (rS m cs ls C (List.replicate m 0) (i + 1) = (rS m cs ls C (List.replicate m 0) i).set i (fee m cs i (own ls i) - C.getD (own ls i) 0)) := rfl
          have hT6 : (rS m cs ls C (List.replicate m 0) i).length = m := by rw [rS_length]; simp
          obtain ⟨T, HT⟩ : ∃ P, Hid (rS m cs ls C (List.replicate m 0) i = P) := ⟨_, rfl⟩
          rw [HT.out] at hT6 HN H1
          have cl := H1.out.1.ls (j := i) (by rw [HLL.out]; exact hlti)
          rw [hoi] at cl
          obtain ⟨o, HOo⟩ : ∃ o, Hid (own ls i = o) := ⟨_, rfl⟩
          rw [HOo.out] at holt cl HN
          obtain ⟨co, _⟩ := H1.out.1.at (j := o) (by rw [HCn.out]; exact holt)
          obtain ⟨ci, fi⟩ := H1.out.at (j := i) (by omega)
          have f2 := cost_cell HA.out H1.out.1.1 HLC.out hlti holt
          have s2 := in_sq hlti holt
          rw [HM.out] at s2
          have d2 := fee_bd HF.out hlti holt
          have e2 := HBC.out o
          have hkn : (i : Int) * (m : Int) = ((i * m : Nat) : Int) := by simp
          have hb0 : i * m ≤ 36 := mul_bd6 i m (by omega) h2
          clear hT6 hoi
          obtain ⟨x2, HX2⟩ : ∃ f, Hid (fee m cs i o = f) := ⟨_, rfl⟩
          obtain ⟨pj, HPJ⟩ : ∃ f, Hid (T.getD i 0 = f) := ⟨_, rfl⟩
          obtain ⟨po, HPO⟩ : ∃ f, Hid (C.getD o 0 = f) := ⟨_, rfl⟩
          obtain ⟨im, HIM⟩ : ∃ q, Hid (i * m = q) := ⟨_, rfl⟩
          rw [HX2.out] at f2 d2 HN
          rw [HPJ.out] at ci
          rw [HPO.out] at co e2 HN
          rw [HIM.out] at f2 s2 hb0 hkn
          have HW1 := hid_of (wrap_36 hkn hb0)
          have HW3 := hid_of (wrap_42 s2 hM)
          have HI2 := hid_of (idx_42 s2)
          clear s2 hb0 hkn
          have H2 : Hid (EW w (wr.setCell ⟨h, i, none⟩ (.int .i64 (x2 - po))) gs g h ls C (rS m cs ls C (List.replicate m 0) (i + 1))) := by
            show EW _ _ _ _ _ _ _ _
            rw [HN.out]
            exact H1.out.put i _
          clear HN
          go_wp2
          obtain ⟨hw1, hv1⟩ := HW1.out
          obtain ⟨hw3, hv3⟩ := HW3.out
          obtain ⟨⟨i4, i5⟩, i6⟩ := HI2.out
          go_region
          all_goals
            clear hw1 hv1 hw3 hv3 i4 i5 i6 d2 e2
            go_wp2
            refine ⟨⟨i + 1, by omega, by go_num, H2.out.drew⟩, by simp [intOf]; omega⟩
        · have him : i = m := by omega
          have H2 : Hid (EW w wr gs g h ls C R) := by
            have := H1.out
            rw [him, HR1.out] at this
            exact this
          have HRn : Hid (R.length = m) := by show _ = _; rw [← HR1.out, rS_length]; simp
          clear H1 him
          go_wp2
          refine bodyPost_ret (v := .tuple #[.slice (some ⟨h, 0, none⟩) m m, .slice (some ⟨g, 0, none⟩) m m, .bool true]) (by simp [results, Try.results22, go_sem]) rfl ⟨_, _, rfl, H2.out.1.1, own_of_row H2.out.2.2 H2.out.2.1.2.2 HRn.out (by omega), own_of_row H2.out.1.2.2.2 H2.out.1.2.2.1.2 HCn.out (by omega), fun b e1 e2 => by injection e1 with e1; injection e2 with e2; exact H2.out.2.1.2.1 (e2.trans e1.symm)⟩

theorem specDuals_any (n : Int) (a1 : Option Addr) (c1 : Nat) (cs : List Int) (w : World) (hA : IntsAt w a1 cs) :
    Calls Try.prog 22 #[.int .i64 n, .slice a1 cs.length c1] w fun e w' => ∃ s1 s2, e = .returned (.tuple #[s1, s2, .bool (costsB n cs)]) ∧ Below w.heap.size w w' ∧ w'.ownsRow w.heap.size 2 1 s1 (duR n cs).length ((duR n cs).map (Value.int .i64)) ∧ w'.ownsRow w.heap.size 2 1 s2 (duC n cs).length ((duC n cs).map (Value.int .i64)) ∧ ∀ b, s1.ownBlock = some b → s2.ownBlock ≠ some b := by
  cases hc : costsB n cs
  · obtain ⟨q1, q2⟩ := du_no hc
    rw [q1, q2]
    have HC : Hid (costsB n cs = false) := hc
    have HA : Hid (IntsAt w a1 cs) := hA
    obtain ⟨V, HV⟩ : ∃ v, Hid (asgV n cs = v) := ⟨_, rfl⟩
    clear hc hA q1 q2
    go_enter Try.func22, Try.ntmps22
    go_wp2_with fail
    refine (specAssigned_any n a1 c1 cs w HA.out).mono ?_
    rintro e w1 ⟨sl, rfl, hb, ho⟩
    have B1 : Hid (Below w.heap.size w w1) := hb
    rw [HC.out, HV.out]
    clear hb ho
    go_wp2
    refine bodyPost_ret (v := .tuple #[.slice none 0 0, .slice none 0 0, .bool false]) (by simp [results, Try.results22, go_sem]) rfl ⟨_, _, rfl, B1.out, World.ownsRow_nil _ _ _ _, World.ownsRow_nil _ _ _ _, fun b e => by cases e⟩
  · obtain ⟨m, rfl, h1, h2, hl, hf⟩ := costsB_nat hc
    obtain ⟨b, off, rfl, _⟩ := hA.some (j := 0) (by rw [hl]; exact Nat.mul_pos h1 h1)
    have h := specDuals_yes m b off c1 cs w hA hc
    obtain ⟨e1, e2⟩ := du_yes hc
    rw [e1, e2] at h ⊢
    rw [rowP_length, colP_length]
    exact h

end Go.Proofs.Ytiojgkebdjdgbaa

namespace Go.Proofs.Ytiojgkebdjdgbaa
open Go.RowKit

/-- Inside the draw of prices: the reader, the costs, the prices of rows and columns. -/
structure TL (w w2 W : World) (q : Nat) (a : Option Addr) (bs : List Int) (c g1 : Nat) (cs : List Int) (gr cr : Nat) (rs : List Int) (gq cq : Nat) (qs : List Int) (m : Nat) : Prop where
  b : Below w.heap.size w W
  hw : w.heap.size ≤ w2.heap.size ∧ w2.heap.size ≤ W.heap.size ∧ w.heap.size ≤ q
  r0 : ∃ p, RD w2 q a bs c p
  r : ∃ p, RD W q a bs c p
  i : IntsAt W (some ⟨g1, 0, none⟩) cs
  g : g1 < w2.heap.size ∧ g1 ≠ q
  o : W.ownsRow w2.heap.size 2 1 (.slice (some ⟨gr, 0, none⟩) m cr) m (rs.map (Value.int .i64))
  u : W.ownsRow w2.heap.size 2 1 (.slice (some ⟨gq, 0, none⟩) m cq) m (qs.map (Value.int .i64))
  ne : gr ≠ gq
theorem TL.read {w w2 W W' : World} {q : Nat} {a : Option Addr} {bs : List Int} {c g1 : Nat} {cs : List Int} {gr cr : Nat} {rs : List Int} {gq cq : Nat} {qs : List Int} {m p : Nat} (h : TL w w2 W q a bs c g1 cs gr cr rs gq cq qs m) (hr : RD W' q a bs c p) (hg : W.grownBy W' (some q)) : TL w w2 W' q a bs c g1 cs gr cr rs gq cq qs m := by
  have hq : q < w2.heap.size := by obtain ⟨p0, h0⟩ := h.r0; exact row_lt h0.1
  refine ⟨grown_below h.b h.hw.2.2 hg, ⟨h.hw.1, Nat.le_trans h.hw.2.1 hg.size, h.hw.2.2⟩, h.r0, ⟨p, hr⟩, ints_grownQ h.i hg h.g.2, h.g, h.o.kept hg (.inr fun e => by have := (h.o.lt q e).1; omega), h.u.kept hg (.inr fun e => by have := (h.u.lt q e).1; omega), h.ne⟩
theorem TL.setR {w w2 W : World} {q : Nat} {a : Option Addr} {bs : List Int} {c g1 : Nat} {cs : List Int} {gr cr : Nat} {rs : List Int} {gq cq : Nat} {qs : List Int} {m : Nat} (h : TL w w2 W q a bs c g1 cs gr cr rs gq cq qs m) {j : Nat} (hj : j < m) (v : Int) : TL w w2 (W.setCell ⟨gr, j, none⟩ (.int .i64 v)) q a bs c g1 cs gr cr (rs.set j v) gq cq qs m := by
  have hgr := (h.o.lt gr rfl).1
  have hlt : ∀ k, some gr = some k → w2.heap.size ≤ k := fun k e => by injection e with e; omega
  obtain ⟨p0, h0⟩ := h.r0
  obtain ⟨p, hr⟩ := h.r
  have hg := grown_set W gr j (.int .i64 v)
  refine ⟨h.b.grown hg h.b.size (fun k e => by have := hlt k e; have := h.hw.1; omega), ⟨h.hw.1, Nat.le_trans h.hw.2.1 hg.size, h.hw.2.2⟩, h.r0, ⟨p, RD.kept2 h0 hr hg hlt⟩, ints_grownQ h.i hg (by have := h.g.1; omega), h.g, own_put v h.o hj, h.u.kept hg (.inr fun e => h.ne (by injection e with e; exact e.symm)), h.ne⟩
theorem TL.setQ {w w2 W : World} {q : Nat} {a : Option Addr} {bs : List Int} {c g1 : Nat} {cs : List Int} {gr cr : Nat} {rs : List Int} {gq cq : Nat} {qs : List Int} {m : Nat} (h : TL w w2 W q a bs c g1 cs gr cr rs gq cq qs m) {j : Nat} (hj : j < m) (v : Int) : TL w w2 (W.setCell ⟨gq, j, none⟩ (.int .i64 v)) q a bs c g1 cs gr cr rs gq cq (qs.set j v) m := by
  have hgr := (h.u.lt gq rfl).1
  have hlt : ∀ k, some gq = some k → w2.heap.size ≤ k := fun k e => by injection e with e; omega
  obtain ⟨p0, h0⟩ := h.r0
  obtain ⟨p, hr⟩ := h.r
  have hg := grown_set W gq j (.int .i64 v)
  refine ⟨h.b.grown hg h.b.size (fun k e => by have := hlt k e; have := h.hw.1; omega), ⟨h.hw.1, Nat.le_trans h.hw.2.1 hg.size, h.hw.2.2⟩, h.r0, ⟨p, RD.kept2 h0 hr hg hlt⟩, ints_grownQ h.i hg (by have := h.g.1; omega), h.g, h.o.kept hg (.inr fun e => h.ne (by injection e with e)), own_put v h.u hj, h.ne⟩

theorem TL.drew {w w2 W : World} {q : Nat} {a : Option Addr} {bs : List Int} {c g1 : Nat} {cs : List Int} {gr cr : Nat} {rs : List Int} {gq cq : Nat} {qs : List Int} {m : Nat} (h : TL w w2 W q a bs c g1 cs gr cr rs gq cq qs m) : TL w w2 W.drew q a bs c g1 cs gr cr rs gq cq qs m := by
  obtain ⟨p, hr⟩ := h.r
  have hd : Below W.heap.size W W.drew := (Below.refl _ _).drew
  exact ⟨h.b.drew, h.hw, h.r0, ⟨p, hr.below hd⟩, h.i.below hd, h.g, owns_below h.o hd, owns_below h.u hd, h.ne⟩

/-- What DrawProves answers. -/
def ProveDraw (w : World) (e : Ending) (w' : World) : Prop := ∃ (n : Int) (g1 c1 : Nat) (ra qa : Option Addr) (rc qc : Nat) (cs rs qs : List Int), e = .returned (.tuple #[.int .i64 n, .slice (some ⟨g1, 0, none⟩) cs.length c1, .slice ra rs.length rc, .slice qa qs.length qc]) ∧ cs.length ≤ 16 ∧ rs.length ≤ 6 ∧ qs.length ≤ 6 ∧ Below w.heap.size w w' ∧ IntsAt w' (some ⟨g1, 0, none⟩) cs ∧ IntsAt w' ra rs ∧ IntsAt w' qa qs

set_option maxHeartbeats 4000000 in
theorem drawProve_any (a : Option Addr) (c : Nat) (bs : List Int) (w : World) (h : CodeAt w a bs) (hl : bs.length ≤ 1048576) :
    Calls Try.prog 24 #[.slice a bs.length c] w (ProveDraw w) := by
  have H : Hid (CodeAt w a bs) := h
  clear h
  go_enter Try.func24, Try.ntmps24
  go_wp2_with fail
  refine (l1Open_any a c bs w H.out hl).mono ?_
  rintro e w1 ⟨rfl, hb, hr⟩
  obtain ⟨q, HQ⟩ : ∃ q, Hid (w.heap.size = q) := ⟨_, rfl⟩
  have B1 : Hid (Below w.heap.size w w1) := hb
  have R1 : Hid (RD w1 q a bs c 0) := by have := hr; rw [HQ.out] at this; exact this
  clear hb hr
  rw [HQ.out]
  go_wp2_with fail
  refine (costs_any q 0 c a bs w1 R1.out).mono ?_
  rintro e w2 ⟨n, g1, c1, cs, rfl, -, hcs, hcl⟩
  have B2 : Hid (Below w.heap.size w w2) := grown_below B1.out (by rw [HQ.out]; exact Nat.le_refl _) hcl.g
  have I2 : Hid (IntsAt w2 (some ⟨g1, 0, none⟩) cs) := owns_ints hcl.o
  have NE : Hid (g1 < w2.heap.size ∧ g1 ≠ q) := ⟨(hcl.o.lt g1 rfl).2, fun e => by have := (hcl.o.lt g1 rfl).1; have := hcl.lt; omega⟩
  obtain ⟨p2, hr2⟩ := hcl.r
  have R2 : Hid (RD w2 q a bs c p2) := hr2
  clear hcl hr2 B1 R1
  obtain ⟨hl1, hl2⟩ := du_len n cs
  go_wp2_with fail
  refine (specDuals_any n _ c1 cs w2 I2.out).mono ?_
  rintro e w3 ⟨s1, s2, rfl, hb, ho1, ho2, hap⟩
  obtain ⟨cl, HCS⟩ : ∃ v, Hid (cs.length = v) := ⟨_, rfl⟩
  rw [HCS.out] at hcs ⊢
  obtain ⟨rs, HRS⟩ : ∃ v, Hid (duR n cs = v) := ⟨_, rfl⟩
  obtain ⟨qs, HQS⟩ : ∃ v, Hid (duC n cs = v) := ⟨_, rfl⟩
  obtain ⟨t, HT⟩ : ∃ v, Hid (costsB n cs = v) := ⟨_, rfl⟩
  rw [HRS.out] at ho1 hl1
  rw [HQS.out] at ho2 hl1 hl2
  rw [HT.out]
  obtain ⟨m, HM⟩ : ∃ v, Hid (qs.length = v) := ⟨_, rfl⟩
  have HMR : Hid (rs.length = m) := hl1.trans HM.out
  rw [HM.out] at hl2 ho2
  rw [HMR.out] at ho1
  clear hl1
  have B3 : Hid (Below w.heap.size w w3) := B2.out.trans (hb.mono B2.out.size)
  have I3 : Hid (IntsAt w3 (some ⟨g1, 0, none⟩) cs) := I2.out.below hb
  by_cases hm : m = 0
  · obtain ⟨ra, rc, e1, -, hi1⟩ := owns_at1 ho1
    obtain ⟨qa, qc, e2, -, hi2⟩ := owns_at1 ho2
    rw [HMR.out, hm] at e1
    rw [HM.out, hm] at e2
    subst e1
    subst e2
    have HR0 : Hid (rs.length = 0) := by show _ = _; rw [HMR.out]; exact hm
    have HQ0 : Hid (qs.length = 0) := by show _ = _; rw [HM.out]; exact hm
    have P3 : Hid (IntsAt w3 ra rs ∧ IntsAt w3 qa qs) := ⟨hi1, hi2⟩
    clear hb ho1 ho2 hap hi1 hi2 hm
    go_wp2
    refine bodyPost_ret (v := .tuple #[.int .i64 n, .slice (some ⟨g1, 0, none⟩) cl c1, .slice ra 0 rc, .slice qa 0 qc]) (by simp [results, Try.results24, go_sem]) rfl ⟨n, g1, c1, ra, qa, rc, qc, cs, rs, qs, by rw [HCS.out, HR0.out, HQ0.out], by rw [HCS.out]; exact hcs, by rw [HR0.out]; omega, by rw [HQ0.out]; omega, B3.out, I3.out, P3.out.1, P3.out.2⟩
  · have hm0 : 0 < m := by omega
    obtain ⟨gr, cr, rfl⟩ := own_pos0 ho1 hm0
    obtain ⟨gq, cq, rfl⟩ := own_pos0 ho2 hm0
    have T3 : Hid (TL w w2 w3 q a bs c g1 cs gr cr rs gq cq qs m) := ⟨B3.out, ⟨B2.out.size, hb.size, by rw [HQ.out]; exact Nat.le_refl _⟩, ⟨p2, R2.out⟩, ⟨p2, R2.out.below hb⟩, I3.out, NE.out, ho1, ho2, fun e => hap gr rfl (by rw [e]; rfl)⟩
    have KEY : Hid (∀ (W : World) (rs qs : List Int), rs.length = m → qs.length = m → TL w w2 W q a bs c g1 cs gr cr rs gq cq qs m → ProveDraw w (.returned (.tuple #[.int .i64 n, .slice (some ⟨g1, 0, none⟩) cl c1, .slice (some ⟨gr, 0, none⟩) m cr, .slice (some ⟨gq, 0, none⟩) m cq])) W) := by
      intro W rs qs h1 h2 hT
      exact ⟨n, g1, c1, _, _, cr, cq, cs, rs, qs, by rw [HCS.out, h1, h2], by rw [HCS.out]; exact hcs, by omega, by omega, hT.b, hT.i, owns_ints hT.o, owns_ints hT.u⟩
    clear hb ho1 ho2 hap hm B3 I3 B2 I2
    obtain ⟨p3, hr3⟩ := T3.out.r
    have R3 : Hid (RD w3 q a bs c p3) := hr3
    clear hr3
    go_wp2_with fail
    refine (once_any q p3 c 2 a bs w3 R3.out (by omega) (by omega)).mono ?_
    rintro e w4 ⟨v, p4, rfl, hr, hg⟩
    have T4 : Hid (TL w w2 w4 q a bs c g1 cs gr cr rs gq cq qs m) := T3.out.read hr hg
    have R4 : Hid (RD w4 q a bs c p4) := hr
    clear hr hg T3 R3 R2
    cases v
    · go_wp2
      refine bodyPost_ret (v := .tuple #[.int .i64 n, .slice (some ⟨g1, 0, none⟩) cl c1, .slice (some ⟨gr, 0, none⟩) m cr, .slice (some ⟨gq, 0, none⟩) m cq]) (by simp [results, Try.results24, go_sem]) rfl (KEY.out _ rs qs HMR.out HM.out T4.out)
    · go_wp2_with fail
      refine (below_any q p4 c m a bs w4 R4.out (by omega)).mono ?_
      rintro e w5 ⟨x, p5, rfl, hx0, hx1, hr, hg⟩
      obtain ⟨x, rfl⟩ := Int.eq_ofNat_of_zero_le hx0
      have hxm : x < m := by omega
      have T5 : Hid (TL w w2 w5 q a bs c g1 cs gr cr rs gq cq qs m) := T4.out.read hr hg
      have R5 : Hid (RD w5 q a bs c p5) := hr
      clear hr hg T4 R4 hx0 hx1
      go_wp2_with fail
      refine (below_any q p5 c 7 a bs w5 R5.out (by omega)).mono ?_
      rintro e w6 ⟨y, p6, rfl, hy0, hy1, hr, hg⟩
      have hy2 : y < 7 := by omega
      have T6 : Hid (TL w w2 w6 q a bs c g1 cs gr cr rs gq cq qs m) := T5.out.read hr hg
      clear hr hg T5 R5 hy1
      obtain ⟨cc, fc⟩ := own_cell (k := x) T6.out.o (by rw [HMR.out]; exact hxm)
      obtain ⟨cv, HCV0⟩ : ∃ v, Hid (rs.getD x 0 = v) := ⟨_, rfl⟩
      rw [HCV0.out] at cc
      have T7 : Hid (∀ v : Int, TL w w2 (w6.setCell ⟨gr, x, none⟩ (.int .i64 v)) q a bs c g1 cs gr cr (rs.set x v) gq cq qs m) := fun v => T6.out.setR hxm v
      obtain ⟨V, hv1⟩ : ∃ V, wrap64 (cv - (y - 3)) = V := ⟨_, rfl⟩
      have hv2 : IntKind.i64.wrap (cv - (y - 3)) = V := by rw [← hv1, IntKind.wrap_i64]; unfold wrap64; rfl
      have T8 : Hid (TL w w2 (w6.setCell ⟨gr, x, none⟩ (.int .i64 V)) q a bs c g1 cs gr cr (rs.set x V) gq cq qs m) := T7.out V
      have HMR8 : Hid ((rs.set x V).length = m) := by show _ = _; rw [List.length_set]; exact HMR.out
      go_wp2_with fail
      clear hv1 hv2 cc fc T7 T6
      generalize w6.setCell ⟨gr, x, none⟩ (.int .i64 V) = W7 at *
      generalize rs.set x V = rs8 at *
      obtain ⟨p7, hr7⟩ := T8.out.r
      have RD7 : Hid (RD W7.drew q a bs c p7) := hr7.below (Below.refl _ _).drew
      clear hr7
      obtain ⟨d, hd⟩ : ∃ d, y - 3 = d := ⟨_, rfl⟩
      rw [hd]
      clear hd hy0 hy2
      go_region_with (first
        | (go_at_call 33
           with_reducible refine (below_any q p7 c (m : Nat) a bs W7.drew RD7.out (by omega)).mono ?_
           rintro e wa ⟨xa, pa, rfl, hx0, hx1, hr, hg⟩
           obtain ⟨xa, rfl⟩ := Int.eq_ofNat_of_zero_le hx0
           have hxa : xa < m := by omega
           have TA : Hid (TL w w2 wa q a bs c g1 cs gr cr rs8 gq cq qs m) := T8.out.drew.read hr hg
           have RA : Hid (RD wa q a bs c pa) := hr
           obtain ⟨ca1, fa1⟩ := own_cell (k := xa) TA.out.u (by rw [HM.out]; exact hxa)
           obtain ⟨cv1, HCV1⟩ : ∃ v, Hid (qs.getD xa 0 = v) := ⟨_, rfl⟩
           rw [HCV1.out] at ca1
           clear hr hg hx0 hx1)
        | (go_at_call 33
           with_reducible refine (below_any q pa c 3 a bs wa RA.out (by omega)).mono ?_
           rintro e wb ⟨zb, pb, rfl, hz0, hz1, hr, hg⟩
           have TB : Hid (TL w w2 wb q a bs c g1 cs gr cr rs8 gq cq qs m) := TA.out.read hr hg
           obtain ⟨cb1, fb1⟩ := own_cell (k := xa) TB.out.u (by rw [HM.out]; exact hxa)
           rw [HCV1.out] at cb1
           have TC : Hid (∀ v : Int, TL w w2 (wb.setCell ⟨gq, xa, none⟩ (.int .i64 v)) q a bs c g1 cs gr cr rs8 gq cq (qs.set xa v) m) := fun v => TB.out.setQ hxa v
           clear hr hg))
      all_goals
        go_wp2
        refine bodyPost_ret (v := .tuple #[.int .i64 n, .slice (some ⟨g1, 0, none⟩) cl c1, .slice (some ⟨gr, 0, none⟩) m cr, .slice (some ⟨gq, 0, none⟩) m cq]) (by simp [results, Try.results24, go_sem]) rfl (KEY.out _ rs8 (qs.set xa _) HMR8.out (by rw [List.length_set]; exact HM.out) (TC.out _))

end Go.Proofs.Ytiojgkebdjdgbaa
