import Derived.Test.YtpahhhocgpohbaaPack25
import Derived.Test.YtpahhhocgpohbaaPack28
import Derived.Test.YtpahhhocgpohbaaPack30
import Derived.Test.YtpahhhocgpohbaaSpecRepl12
import Derived.Test.YtpahhhocgpohbaaLawFnCrashed
import Derived.Test.YtpahhhocgpohbaaLawFnDone
namespace Go.Proofs.Ytpahhhocgpohbaa
open Go.RowKit

theorem sy_dsk (L S : List FI) (O : List OP) : dskB (syL L S O) (syL L S O) [] = true := by
  cases h : dskB L S O
  · have : syL L S O = [] := by unfold syL; rw [h]; rfl
    rw [this]
    exact dsk_nil
  · rw [sy_right h]
    exact dsk_sync h
theorem osm_rep {n d : ByteArray} (hn : n.size ≤ 98) (hd : d.size ≤ 3) : OSm [rO1 n d, rO2 n] := by
  have h : (dft n).size ≤ 200 := by
    unfold dft
    rw [ByteArray.size_append]
    have : (ByteArray.mk #[46, 110, 101, 119]).size = 4 := rfl
    omega
  have h0 : (ByteArray.mk #[]).size = 0 := rfl
  intro o ho
  simp only [List.mem_cons, List.not_mem_nil, or_false] at ho
  rcases ho with rfl | rfl <;> refine ⟨?_, ?_, ?_⟩ <;> simp only <;> omega
/-- The places that are kept, of the first i. -/
def KS (i : Nat) (K : List Int) : Prop := (i = 0 ∧ K = []) ∨ (i = 1 ∧ (K = [] ∨ K = [0])) ∨ (i = 2 ∧ KSet K)
theorem KS.skip {i : Nat} {K : List Int} (h : KS i K) (hi : i < 2) : KS (i + 1) K := by
  rcases h with ⟨rfl, rfl⟩ | ⟨rfl, rfl | rfl⟩ | ⟨rfl, _⟩
  · exact .inr (.inl ⟨rfl, .inl rfl⟩)
  · exact .inr (.inr ⟨rfl, .inl rfl⟩)
  · exact .inr (.inr ⟨rfl, .inr (.inl rfl)⟩)
  · omega
theorem KS.put {i : Nat} {K : List Int} (h : KS i K) (hi : i < 2) : KS (i + 1) (K ++ [(i : Int)]) := by
  rcases h with ⟨rfl, rfl⟩ | ⟨rfl, rfl | rfl⟩ | ⟨rfl, _⟩
  · exact .inr (.inl ⟨rfl, .inr rfl⟩)
  · exact .inr (.inr ⟨rfl, .inr (.inr (.inl rfl))⟩)
  · exact .inr (.inr ⟨rfl, .inr (.inr (.inr rfl))⟩)
  · omega
theorem KS.set {i : Nat} {K : List Int} (h : KS i K) (hi : i = 2) : KSet K := by
  rcases h with ⟨e, _⟩ | ⟨e, _⟩ | ⟨_, h⟩
  · omega
  · omega
  · exact h

set_option maxHeartbeats 8000000 in
set_option maxRecDepth 20000 in
theorem lawFnReplaced (a : Option Addr) (c : Nat) (bs : List Int) (w : World) (h : CodeAt w a bs) (hl : bs.length ≤ 9223372036854775807) :
    Calls Try.prog 5 #[.slice a bs.length c] w fun e w' => e = .returned (.bool true) ∧ Below w.heap.size w w' := by
  have HCA : Hid (CodeAt w a bs) := h
  clear h
  by_cases hbig : 1048576 < bs.length
  · go_enter Try.func5, Try.ntmps5
    go_wp2_with fail
    refine (big_any a c bs.length w hl).mono ?_
    rintro e w1 ⟨rfl, rfl⟩
    rw [decide_eq_true hbig]
    go_wp2
    go_ret
    exact ⟨rfl, Below.refl _ _⟩
  have hbl : bs.length ≤ 1048576 := by omega
  have DR : Hid (Calls Try.prog 17 #[.slice a bs.length c] w (RepOk w)) := drawRep_any a c bs w HCA.out hbl
  go_enter Try.func5, Try.ntmps5
  go_wp2_with fail
  refine (big_any a c bs.length w hl).mono ?_
  rintro e w0 ⟨rfl, hw⟩
  replace hw := hw.symm
  subst hw
  rw [decide_eq_false hbig]
  go_wp2_with fail
  refine DR.out.mono ?_
  rintro e w1 ⟨la, sa, oa, ln, sn, on, lc, sc, oc, L, S, O, nm, dt, rfl, hd, hk, ⟨hln, hsn, hon⟩, ⟨hnm, hdt⟩, hb⟩
  have B1 : Hid (Below w.heap.size w w1) := hb
  have A1 : Hid (DAt w1 la sa oa L S O) := hd
  obtain ⟨X, HX⟩ : ∃ X, Hid (syL L S O = X) := ⟨_, rfl⟩
  obtain ⟨x, HXN⟩ : ∃ n, Hid (X.length = n) := ⟨_, rfl⟩
  have HD : Hid (dskB X X [] = true) := by have := sy_dsk L S O; rw [HX.out] at this; exact this
  have HK : Hid (DskOk X X []) := dsk_dok HD.out (fun o h => by cases h)
  have bx : x ≤ 60 := by rw [← HXN.out]; exact (filB_true.1 (dsk_parts HD.out).1).1
  have SY : Hid (∀ W, DAt W la sa oa L S O → Calls Try.prog 11 #[.agg #[.slice la ln lc, .slice sa sn sc, .slice oa on oc]] W fun e w' => ∃ d1 f1 d2 f2 d3 f3, e = .returned (.agg #[.slice d1 x f1, .slice d2 x f2, .slice d3 0 f3]) ∧ Below W.heap.size W w' ∧ DA w' W.heap.size (.slice d1 x f1) (.slice d2 x f2) (.slice d3 0 f3) X X []) := fun W hD => by
    have h := implSync_any la sa oa lc sc oc ln sn on x L S O W hD hk hln hsn hon (by rw [HX.out]; exact HXN.out)
    rw [HX.out] at h
    exact h
  clear hd hb DR hbig
  have HB1 : Hid (w.heap.size ≤ w1.heap.size) := B1.out.size
  have hb2 : Below w1.heap.size w1 (w1.alloc (.cells #[.slice la ln lc, .slice sa sn sc, .slice oa on oc] 27)) := (Below.refl _ _).alloc (Nat.le_refl _) _
  have B2 : Hid (Below w.heap.size w (w1.alloc (.cells #[.slice la ln lc, .slice sa sn sc, .slice oa on oc] 27))) := B1.out.trans (hb2.mono B1.out.size)
  have A2 : Hid (DAt (w1.alloc (.cells #[.slice la ln lc, .slice sa sn sc, .slice oa on oc] 27)) la sa oa L S O) := A1.out.below hb2
  clear B1 A1
  have M2 : Hid ((w1.alloc (.cells #[.slice la ln lc, .slice sa sn sc, .slice oa on oc] 27)).heap[w1.heap.size]? = some (.cells #[.slice la ln lc, .slice sa sn sc, .slice oa on oc] 27 (0, 0))) := heap_alloc_new _ _
  clear hb2
  obtain ⟨zm2_0, zm2_1, zm2_2⟩ := cells3 M2.out
  go_wp2_with fail
  obtain ⟨i3, HI3⟩ : ∃ i, Hid (w1.heap.size = i) := ⟨_, rfl⟩
  have HI3B : Hid (w.heap.size ≤ i3) := by show _ ≤ _; rw [← HI3.out]; exact HB1.out
  rw [HI3.out] at M2 ⊢
  generalize (w1.alloc (.cells #[.slice la ln lc, .slice sa sn sc, .slice oa on oc] 27)) = w2 at *
  clear HI3
  refine (SY.out w2 A2.out).mono ?_
  rintro e w3 ⟨d1, f1, d2, f2, d3, f3, rfl, hb, hda⟩
  clear A2
  have B3 : Hid (Below w.heap.size w w3) := B2.out.trans (hb.mono B2.out.size)
  have M3 : Hid (w3.heap[i3]? = some (.cells #[.slice la ln lc, .slice sa sn sc, .slice oa on oc] 27 (0, 0))) := below_row hb (row_lt M2.out) M2.out
  clear B2 M2
  clear zm2_0 zm2_1 zm2_2
  have HCP : Hid (0 ≤ f3 ∧ (d3 = none → 0 = 0 ∧ f3 = 0)) := own_capF hda.d.o
  have B4 : Hid (Below w.heap.size w (((w3.setCell ⟨i3, 0, none⟩ (.slice d1 x f1)).setCell ⟨i3, 1, none⟩ (.slice d2 x f2)).setCell ⟨i3, 2, none⟩ (.slice d3 0 f3))) := ((B3.out.setCell HI3B.out _).setCell HI3B.out _).setCell HI3B.out _
  have P4 : Hid (DA (((w3.setCell ⟨i3, 0, none⟩ (.slice d1 x f1)).setCell ⟨i3, 1, none⟩ (.slice d2 x f2)).setCell ⟨i3, 2, none⟩ (.slice d3 0 f3)) w2.heap.size (.slice d1 x f1) (.slice d2 x f2) (.slice d3 0 f3) X X []) := da_box3 hda M3.out
  have M4 : Hid ((((w3.setCell ⟨i3, 0, none⟩ (.slice d1 x f1)).setCell ⟨i3, 1, none⟩ (.slice d2 x f2)).setCell ⟨i3, 2, none⟩ (.slice d3 0 f3)).heap[i3]? = some (.cells #[.slice d1 x f1, .slice d2 x f2, .slice d3 0 f3] 27 (0, 0))) := boxW M3.out
  obtain ⟨y0, y1, y2⟩ := cells3 M3.out
  have yf := fun i => frozen_of_row _ _ i _ _ M3.out
  obtain ⟨z0, z1, z2⟩ := cells3 M4.out
  clear hb hda SY
  obtain ⟨R1, HR1⟩ : ∃ r, Hid (rpL X X [] nm dt = r) := ⟨_, rfl⟩
  obtain ⟨R2, HR2⟩ : ∃ r, Hid (rpS X X [] = r) := ⟨_, rfl⟩
  obtain ⟨R3, HR3⟩ : ∃ r, Hid (rpO X X [] nm dt = r) := ⟨_, rfl⟩
  obtain ⟨kd, HKD⟩ : ∃ r, Hid (rpK X X [] nm dt = r) := ⟨_, rfl⟩
  obtain ⟨x1, HX1⟩ : ∃ n, Hid (R1.length = n) := ⟨_, rfl⟩
  obtain ⟨x2, HX2⟩ : ∃ n, Hid (R2.length = n) := ⟨_, rfl⟩
  obtain ⟨x3, HX3⟩ : ∃ n, Hid (R3.length = n) := ⟨_, rfl⟩
  have IR : Hid (∀ W, DAt W d1 d2 d3 X X [] → Calls Try.prog 18 #[.agg #[.slice d1 x f1, .slice d2 x f2, .slice d3 0 f3], .string nm, .string dt] W fun e w' => ∃ a1 c1 a2 c2 a3 c3, e = .returned (.tuple #[.agg #[.slice a1 x1 c1, .slice a2 x2 c2, .slice a3 x3 c3], .int .i64 kd]) ∧ Below W.heap.size W w' ∧ DA w' W.heap.size (.slice a1 x1 c1) (.slice a2 x2 c2) (.slice a3 x3 c3) R1 R2 R3) := fun W hD => by
    have h := implRepl_any nm dt (by omega) (by omega) d1 d2 d3 f1 f2 f3 x x 0 x1 x2 x3 kd X X [] W hD HK.out HXN.out HXN.out rfl HCP.out.1 HCP.out.2 HKD.out (by rw [HR1.out]; exact HX1.out) (by rw [HR2.out]; exact HX2.out) (by rw [HR3.out]; exact HX3.out)
    rw [HR1.out, HR2.out, HR3.out] at h
    exact h
  have SR : Hid (∀ W, DAt W d1 d2 d3 X X [] → Calls Try.prog 19 #[.agg #[.slice d1 x f1, .slice d2 x f2, .slice d3 0 f3], .string nm, .string dt] W fun e w' => ∃ a1 c1 a2 c2 a3 c3, e = .returned (.tuple #[.agg #[.slice a1 x1 c1, .slice a2 x2 c2, .slice a3 x3 c3], .int .i64 kd]) ∧ Below W.heap.size W w' ∧ DA w' W.heap.size (.slice a1 x1 c1) (.slice a2 x2 c2) (.slice a3 x3 c3) R1 R2 R3) := fun W hD => by
    have h := specRepl_any nm dt (by omega) (by omega) d1 d2 d3 f1 f2 f3 x x 0 x1 x2 x3 kd X X [] W hD HK.out HXN.out HXN.out rfl HKD.out (by rw [HR1.out]; exact HX1.out) (by rw [HR2.out]; exact HX2.out) (by rw [HR3.out]; exact HX3.out)
    rw [HR1.out, HR2.out, HR3.out] at h
    exact h
  have RD0 : Hid (∀ W m, DAt W d1 d2 d3 X X [] → Calls Try.prog 16 #[.agg #[.slice d1 x f1, .slice d2 x f2, .slice d3 0 f3], .string m] W fun e w' => e = .returned (.tuple #[.string (datF X m), .bool (hasF X m)]) ∧ Below W.heap.size W w') := fun W m hD => by
    have h := implRead_any d1 d2 d3 f1 f2 f3 x x 0 X X [] m W hD HK.out HXN.out HXN.out rfl
    rw [(rd_right HD.out m).1, (rd_right HD.out m).2] at h
    exact h
  go_wp2_with fail
  clear y0 y1 y2 yf M3 B3
  generalize (((w3.setCell ⟨i3, 0, none⟩ (.slice d1 x f1)).setCell ⟨i3, 1, none⟩ (.slice d2 x f2)).setCell ⟨i3, 2, none⟩ (.slice d3 0 f3)) = w4 at *
  refine (IR.out w4 (P4.out.at HXN.out HXN.out rfl)).mono ?_
  rintro e w5 ⟨a1, c1, a2, c2, a3, c3, rfl, hb, hda⟩
  have B5 : Hid (Below w.heap.size w w5) := B4.out.trans (hb.mono B4.out.size)
  have M5 : Hid (w5.heap[i3]? = some (.cells #[.slice d1 x f1, .slice d2 x f2, .slice d3 0 f3] 27 (0, 0))) := below_row hb (row_lt M4.out) M4.out
  have P5 : Hid (DA w5 w2.heap.size (.slice d1 x f1) (.slice d2 x f2) (.slice d3 0 f3) X X []) := P4.out.below hb
  clear B4 M4 P4
  clear z0 z1 z2
  have Q5 : Hid (DA w5 w4.heap.size (.slice a1 x1 c1) (.slice a2 x2 c2) (.slice a3 x3 c3) R1 R2 R3) := hda
  clear hb hda
  have hb : Below w5.heap.size w5 (w5.alloc (.cells #[.slice a1 x1 c1, .slice a2 x2 c2, .slice a3 x3 c3] 27)) := (Below.refl _ _).alloc (Nat.le_refl _) _
  have B6 : Hid (Below w.heap.size w (w5.alloc (.cells #[.slice a1 x1 c1, .slice a2 x2 c2, .slice a3 x3 c3] 27))) := B5.out.trans (hb.mono B5.out.size)
  have M6 : Hid ((w5.alloc (.cells #[.slice a1 x1 c1, .slice a2 x2 c2, .slice a3 x3 c3] 27)).heap[i3]? = some (.cells #[.slice d1 x f1, .slice d2 x f2, .slice d3 0 f3] 27 (0, 0))) := below_row hb (row_lt M5.out) M5.out
  have P6 : Hid (DA (w5.alloc (.cells #[.slice a1 x1 c1, .slice a2 x2 c2, .slice a3 x3 c3] 27)) w2.heap.size (.slice d1 x f1) (.slice d2 x f2) (.slice d3 0 f3) X X []) := P5.out.below hb
  have Q6 : Hid (DA (w5.alloc (.cells #[.slice a1 x1 c1, .slice a2 x2 c2, .slice a3 x3 c3] 27)) w4.heap.size (.slice a1 x1 c1) (.slice a2 x2 c2) (.slice a3 x3 c3) R1 R2 R3) := Q5.out.below hb
  clear B5 M5 P5 Q5
  have N6 : Hid ((w5.alloc (.cells #[.slice a1 x1 c1, .slice a2 x2 c2, .slice a3 x3 c3] 27)).heap[w5.heap.size]? = some (.cells #[.slice a1 x1 c1, .slice a2 x2 c2, .slice a3 x3 c3] 27 (0, 0))) := heap_alloc_new _ _
  clear hb
  obtain ⟨zm6_0, zm6_1, zm6_2⟩ := cells3 M6.out
  go_wp2_with fail
  obtain ⟨i6, HIi6⟩ : ∃ i, Hid (w5.heap.size = i) := ⟨_, rfl⟩
  rw [HIi6.out] at N6 ⊢
  generalize (w5.alloc (.cells #[.slice a1 x1 c1, .slice a2 x2 c2, .slice a3 x3 c3] 27)) = w6 at *
  clear HIi6
  refine (SR.out w6 (P6.out.at HXN.out HXN.out rfl)).mono ?_
  rintro e w7 ⟨g1, h1, g2, h2, g3, h3, rfl, hb, -⟩
  have B7 : Hid (Below w.heap.size w w7) := B6.out.trans (hb.mono B6.out.size)
  have M7 : Hid (w7.heap[i3]? = some (.cells #[.slice d1 x f1, .slice d2 x f2, .slice d3 0 f3] 27 (0, 0))) := below_row hb (row_lt M6.out) M6.out
  have P7 : Hid (DA w7 w2.heap.size (.slice d1 x f1) (.slice d2 x f2) (.slice d3 0 f3) X X []) := P6.out.below hb
  have Q7 : Hid (DA w7 w4.heap.size (.slice a1 x1 c1) (.slice a2 x2 c2) (.slice a3 x3 c3) R1 R2 R3) := Q6.out.below hb
  have N7 : Hid (w7.heap[i6]? = some (.cells #[.slice a1 x1 c1, .slice a2 x2 c2, .slice a3 x3 c3] 27 (0, 0))) := below_row hb (row_lt N6.out) N6.out
  clear B6 M6 P6 Q6 N6
  clear zm6_0 zm6_1 zm6_2
  clear hb
  have hb : Below w7.heap.size w7 (w7.alloc (.cells #[.slice g1 x1 h1, .slice g2 x2 h2, .slice g3 x3 h3] 27)) := (Below.refl _ _).alloc (Nat.le_refl _) _
  have B8 : Hid (Below w.heap.size w (w7.alloc (.cells #[.slice g1 x1 h1, .slice g2 x2 h2, .slice g3 x3 h3] 27))) := B7.out.trans (hb.mono B7.out.size)
  have M8 : Hid ((w7.alloc (.cells #[.slice g1 x1 h1, .slice g2 x2 h2, .slice g3 x3 h3] 27)).heap[i3]? = some (.cells #[.slice d1 x f1, .slice d2 x f2, .slice d3 0 f3] 27 (0, 0))) := below_row hb (row_lt M7.out) M7.out
  have P8 : Hid (DA (w7.alloc (.cells #[.slice g1 x1 h1, .slice g2 x2 h2, .slice g3 x3 h3] 27)) w2.heap.size (.slice d1 x f1) (.slice d2 x f2) (.slice d3 0 f3) X X []) := P7.out.below hb
  have Q8 : Hid (DA (w7.alloc (.cells #[.slice g1 x1 h1, .slice g2 x2 h2, .slice g3 x3 h3] 27)) w4.heap.size (.slice a1 x1 c1) (.slice a2 x2 c2) (.slice a3 x3 c3) R1 R2 R3) := Q7.out.below hb
  have N8 : Hid ((w7.alloc (.cells #[.slice g1 x1 h1, .slice g2 x2 h2, .slice g3 x3 h3] 27)).heap[i6]? = some (.cells #[.slice a1 x1 c1, .slice a2 x2 c2, .slice a3 x3 c3] 27 (0, 0))) := below_row hb (row_lt N7.out) N7.out
  clear B7 M7 P7 Q7 N7
  clear hb
  by_cases hkd : kd = 0
  · subst hkd
    obtain ⟨zm8_0, zm8_1, zm8_2⟩ := cells3 M8.out
    go_wp2_with fail
    generalize (w7.alloc (.cells #[.slice g1 x1 h1, .slice g2 x2 h2, .slice g3 x3 h3] 27)) = w8 at *
    refine (RD0.out w8 _ (P8.out.at HXN.out HXN.out rfl)).mono ?_
    rintro e w9 ⟨rfl, hb⟩
    have B9 : Hid (Below w.heap.size w w9) := B8.out.trans (hb.mono B8.out.size)
    have M9 : Hid (w9.heap[i3]? = some (.cells #[.slice d1 x f1, .slice d2 x f2, .slice d3 0 f3] 27 (0, 0))) := below_row hb (row_lt M8.out) M8.out
    have P9 : Hid (DA w9 w2.heap.size (.slice d1 x f1) (.slice d2 x f2) (.slice d3 0 f3) X X []) := P8.out.below hb
    have Q9 : Hid (DA w9 w4.heap.size (.slice a1 x1 c1) (.slice a2 x2 c2) (.slice a3 x3 c3) R1 R2 R3) := Q8.out.below hb
    have N9 : Hid (w9.heap[i6]? = some (.cells #[.slice a1 x1 c1, .slice a2 x2 c2, .slice a3 x3 c3] 27 (0, 0))) := below_row hb (row_lt N8.out) N8.out
    clear B8 M8 P8 Q8 N8
    clear zm8_0 zm8_1 zm8_2
    clear hb
    cases hhf : hasF X (nm ++ (ByteArray.mk #[46, 110, 101, 119]))
    · have hf : hasF X (dft nm) = false := hhf
      obtain ⟨⟨k1, k2⟩, e1, e2, e3⟩ := rep_parts HD.out hf HKD.out
      have r1 : R1 = rXL X nm dt := HR1.out.symm.trans e1
      have r2 : R2 = X := HR2.out.symm.trans e3
      have r3 : R3 = [rO1 nm dt, rO2 nm] := HR3.out.symm.trans e2
      have HDA : Hid (dskB R1 R2 R3 = true) := by show _ = _; rw [r1, r2, r3]; exact rep_right HD.out k1 k2
      have HKA : Hid (DskOk R1 R2 R3) := dsk_dok HDA.out (by rw [r3]; exact osm_rep hnm hdt)
      have HR2N : Hid (x3 = 2) := by show _ = _; rw [← HX3.out, r3]; rfl
      have HNEW : Hid (fndF R1 nm = some (nm, dt)) := by show _ = _; rw [r1]; exact rep_new hf
      have CRA : Hid (∀ Z : List Int, KSet Z → ∀ t : Nat, ∃ F, crB R1 R2 R3 Z t = true ∧ crL R1 R2 R3 Z t = F ∧ filB F = true ∧ (fndF F nm = fndF X nm ∨ fndF F nm = some (nm, dt))) := fun Z hZ t => by
        rw [r1, r2, r3]
        exact crash_rep HD.out hf k1 k2 hZ t
      clear k1 k2 e1 e2 e3 r1 r2 r3 hhf hf HR1 HR2 HR3 HKD IR SR
      obtain ⟨old, HOLD⟩ : ∃ s, Hid (datF X nm = s) := ⟨_, rfl⟩
      obtain ⟨was, HWAS⟩ : ∃ s, Hid (hasF X nm = s) := ⟨_, rfl⟩
      obtain ⟨zm9_0, zm9_1, zm9_2⟩ := cells3 M9.out
      go_wp2_with fail
      refine (RD0.out w9 nm (P9.out.at HXN.out HXN.out rfl)).mono ?_
      rintro e w10 ⟨rfl, hb⟩
      rw [HOLD.out, HWAS.out]
      have B10 : Hid (Below w.heap.size w w10) := B9.out.trans (hb.mono B9.out.size)
      have M10 : Hid (w10.heap[i3]? = some (.cells #[.slice d1 x f1, .slice d2 x f2, .slice d3 0 f3] 27 (0, 0))) := below_row hb (row_lt M9.out) M9.out
      have P10 : Hid (DA w10 w2.heap.size (.slice d1 x f1) (.slice d2 x f2) (.slice d3 0 f3) X X []) := P9.out.below hb
      have Q10 : Hid (DA w10 w4.heap.size (.slice a1 x1 c1) (.slice a2 x2 c2) (.slice a3 x3 c3) R1 R2 R3) := Q9.out.below hb
      have N10 : Hid (w10.heap[i6]? = some (.cells #[.slice a1 x1 c1, .slice a2 x2 c2, .slice a3 x3 c3] 27 (0, 0))) := below_row hb (row_lt N9.out) N9.out
      clear B9 M9 P9 Q9 N9
      clear zm9_0 zm9_1 zm9_2
      clear hb RD0
      have hx3 : x3 ≤ 2 := by have := HR2N.out; omega
      go_wp2_with fail
      go_loopw [14, 15] (fun t14 t15 wr => ∃ (i m : Nat) (ka : Option Addr) (kc : Nat) (Z : List Int), i ≤ x3 ∧ t15 = .int .i64 i ∧ t14 = .slice ka m kc ∧ Z.length = m ∧ m ≤ i ∧ KS i Z ∧ wr.ownsRow w10.heap.size 2 1 (.slice ka m kc) m (Z.map (Value.int .i64)) ∧ Below w10.heap.size w10 wr) (fun _ t15 _ => x3 - (intOf t15).toNat)
      case atStart => exact ⟨0, 0, _, _, [], Nat.zero_le _, rfl, rfl, rfl, Nat.le_refl _, .inl ⟨rfl, rfl⟩, own_newI _, (Below.refl _ _).alloc (Nat.le_refl _) _⟩
      case round =>
        obtain ⟨i, m, ka, kc, Z, hi, rfl, rfl, hzm, hmi, hks, hown, hbr⟩ := hrel
        have HZM : Hid (Z.length = m) := hzm
        have HKS : Hid (KS i Z) := hks
        have OR : Hid (wr.ownsRow w10.heap.size 2 1 (.slice ka m kc) m (Z.map (Value.int .i64))) := hown
        have BR : Hid (Below w10.heap.size w10 wr) := hbr
        have BW : Hid (Below w.heap.size w wr) := B10.out.trans (hbr.mono B10.out.size)
        obtain ⟨z0, z1, z2⟩ := cells3 (below_row hbr (row_lt N10.out) N10.out)
        clear hown hzm hks
        by_cases hlt : i < x3
        · have hin : (i : Int) < x3 := by omega
          have hi2 : i < 2 := by omega
          have HIX : Hid (i < x3) := hlt
          by_cases hb0 : 0 < bs.length
          · have hb0' : (0 : Int) < bs.length := by omega
            have hb0d : decide (0 < bs.length) = true := decide_eq_true hb0
            have hnz : ¬ (bs.length : Int) = 0 := by omega
            have hnzb : ((bs.length : Int) == 0) = false := by rw [beq_eq_false_iff_ne]; omega
            rcases (show i = 0 ∨ i = 1 by omega) with hi01 | hi01
            · subst hi01
              obtain ⟨cb, co, rfl, cc, cv0, cv1⟩ := HCA.out 0 hb0
              have cw := (BW.out.cell (p := ⟨cb, co + 0, none⟩) (block_lt_of_cell cc)).trans cc
              rw [Nat.add_zero] at cw
              obtain ⟨y, HY⟩ : ∃ y, Hid (bs.getD 0 0 = y) := ⟨_, rfl⟩
              rw [HY.out] at cw cv0 cv1
              clear cc HY
              have hb4 : Below wr.heap.size wr (wr.alloc (.cells #[.int .i64 0] 2)) := (Below.refl _ _).alloc (Nat.le_refl _) _
              have OA : Hid ((wr.alloc (.cells #[.int .i64 0] 2)).ownsRow w10.heap.size 2 1 (.slice ka m kc) m (Z.map (Value.int .i64))) := own_blw OR.out hb4
              have BA : Hid (Below w10.heap.size w10 (wr.alloc (.cells #[.int .i64 0] 2))) := BR.out.trans (hb4.mono BR.out.size)
              have HFC : Hid (∀ j u, [Value.int .i64 0][j]? = some u → ∃ b off, some (⟨wr.heap.size, 0, none⟩ : Addr) = some ⟨b, off, none⟩ ∧ (wr.alloc (.cells #[.int .i64 0] 2)).cell? ⟨b, off + j, none⟩ = some u) := fun j u hu => ⟨_, 0, rfl, by rw [Nat.zero_add, cell_of_row _ _ j _ _ _ (heap_alloc_new _ _)]; simpa using hu⟩
              have HK2 : Hid (KS (0 + 1) (Z ++ [0])) := HKS.out.put (by omega)
              have HK1 : Hid (KS (0 + 1) Z) := HKS.out.skip (by omega)
              clear hb4 hbr HKS
              go_wp2_with (
                at_builtin
                refine append_opt Try.underlying30 Try.info2 rfl (by decide) _ rfl _ _ rfl w10.heap.size (.slice ka m kc) m (Z.map (Value.int .i64)) rfl OA.out (some ⟨wr.heap.size, 0, none⟩) 1 1 [Value.int .i64 0] rfl rfl HFC.out (by simp [Value.oneCell']) (by omega) (by omega) BA.out.size ?_
                intro v' w4 hown hg hbk hnl
                obtain ⟨na, nc, rfl⟩ := own_anyV hown
                have O4 : Hid (w4.ownsRow w10.heap.size 2 1 (.slice na (m + 1) nc) (m + 1) ((Z ++ [0]).map (Value.int .i64))) := by show World.ownsRow _ _ _ _ _ _ _; rw [List.map_append]; exact hown
                have B4 : Hid (Below w10.heap.size w10 w4) := BA.out.grown hg BA.out.size (fun k e => (OA.out.lt k e).1)
                have HZ4 : Hid ((Z ++ [0]).length = m + 1) := by show _ = _; rw [List.length_append, HZM.out]; rfl
                clear hown hg hbk hnl)
              all_goals first
                | (go_roundw
                   case rel => exact ⟨0 + 1, m + 1, na, nc, Z ++ [0], by omega, by first | rfl | go_num, rfl, HZ4.out, by omega, HK2.out, O4.out, B4.out⟩
                   case measure => simp [intOf]; omega)
                | (go_roundw
                   case rel => exact ⟨0 + 1, m, ka, kc, Z, by omega, by first | rfl | go_num, rfl, HZM.out, by omega, HK1.out, OR.out, BR.out⟩
                   case measure => simp [intOf]; omega)
            · subst hi01
              obtain ⟨j, HJ⟩ : ∃ j, Hid (1 % bs.length = j) := ⟨_, rfl⟩
              have hjl : j < bs.length := by rw [← HJ.out]; exact Nat.mod_lt _ hb0
              have hrem : (1 : Int).tmod (bs.length : Int) = (j : Int) := by rw [← HJ.out, Int.tmod_eq_emod_of_nonneg (by omega)]; simp
              obtain ⟨cb, co, rfl, cc, cv0, cv1⟩ := HCA.out j hjl
              have cw := (BW.out.cell (p := ⟨cb, co + j, none⟩) (block_lt_of_cell cc)).trans cc
              obtain ⟨y, HY⟩ : ∃ y, Hid (bs.getD j 0 = y) := ⟨_, rfl⟩
              rw [HY.out] at cw cv0 cv1
              clear cc HY HJ
              have hb4 : Below wr.heap.size wr (wr.alloc (.cells #[.int .i64 1] 2)) := (Below.refl _ _).alloc (Nat.le_refl _) _
              have OA : Hid ((wr.alloc (.cells #[.int .i64 1] 2)).ownsRow w10.heap.size 2 1 (.slice ka m kc) m (Z.map (Value.int .i64))) := own_blw OR.out hb4
              have BA : Hid (Below w10.heap.size w10 (wr.alloc (.cells #[.int .i64 1] 2))) := BR.out.trans (hb4.mono BR.out.size)
              have HFC : Hid (∀ j u, [Value.int .i64 1][j]? = some u → ∃ b off, some (⟨wr.heap.size, 0, none⟩ : Addr) = some ⟨b, off, none⟩ ∧ (wr.alloc (.cells #[.int .i64 1] 2)).cell? ⟨b, off + j, none⟩ = some u) := fun j u hu => ⟨_, 0, rfl, by rw [Nat.zero_add, cell_of_row _ _ j _ _ _ (heap_alloc_new _ _)]; simpa using hu⟩
              have HK2 : Hid (KS (1 + 1) (Z ++ [1])) := HKS.out.put (by omega)
              have HK1 : Hid (KS (1 + 1) Z) := HKS.out.skip (by omega)
              clear hb4 hbr HKS
              go_wp2_with (
                at_builtin
                refine append_opt Try.underlying30 Try.info2 rfl (by decide) _ rfl _ _ rfl w10.heap.size (.slice ka m kc) m (Z.map (Value.int .i64)) rfl OA.out (some ⟨wr.heap.size, 0, none⟩) 1 1 [Value.int .i64 1] rfl rfl HFC.out (by simp [Value.oneCell']) (by omega) (by omega) BA.out.size ?_
                intro v' w4 hown hg hbk hnl
                obtain ⟨na, nc, rfl⟩ := own_anyV hown
                have O4 : Hid (w4.ownsRow w10.heap.size 2 1 (.slice na (m + 1) nc) (m + 1) ((Z ++ [1]).map (Value.int .i64))) := by show World.ownsRow _ _ _ _ _ _ _; rw [List.map_append]; exact hown
                have B4 : Hid (Below w10.heap.size w10 w4) := BA.out.grown hg BA.out.size (fun k e => (OA.out.lt k e).1)
                have HZ4 : Hid ((Z ++ [1]).length = m + 1) := by show _ = _; rw [List.length_append, HZM.out]; rfl
                clear hown hg hbk hnl)
              all_goals first
                | (go_roundw
                   case rel => exact ⟨1 + 1, m + 1, na, nc, Z ++ [1], by omega, by first | rfl | go_num, rfl, HZ4.out, by omega, HK2.out, O4.out, B4.out⟩
                   case measure => simp [intOf]; omega)
                | (go_roundw
                   case rel => exact ⟨1 + 1, m, ka, kc, Z, by omega, by first | rfl | go_num, rfl, HZM.out, by omega, HK1.out, OR.out, BR.out⟩
                   case measure => simp [intOf]; omega)
          have hb0' : ¬ (0 : Int) < bs.length := by omega
          have hb0d : decide (0 < bs.length) = false := decide_eq_false hb0
          go_wp2_with fail
          go_roundw
          case rel => exact ⟨i + 1, m, ka, kc, Z, by omega, by first | rfl | go_num, rfl, HZM.out, by omega, HKS.out.skip hi2, OR.out, BR.out⟩
          case measure => simp [intOf]; omega
        have hin : ¬ ((i : Int) < x3) := by omega
        have hie : i = 2 := by have := HR2N.out; omega
        have HST : Hid (KSet Z) := HKS.out.set hie
        have IK : Hid (IntsAt wr ka Z) := own_intsL OR.out HZM.out
        have hm2 : m ≤ 2 := by omega
        clear hie OR HKS z0 z1 z2 BW
        have B11 : Hid (Below w.heap.size w wr) := B10.out.trans (hbr.mono B10.out.size)
        have M11 : Hid (wr.heap[i3]? = some (.cells #[.slice d1 x f1, .slice d2 x f2, .slice d3 0 f3] 27 (0, 0))) := below_row hbr (row_lt M10.out) M10.out
        have P11 : Hid (DA wr w2.heap.size (.slice d1 x f1) (.slice d2 x f2) (.slice d3 0 f3) X X []) := P10.out.below hbr
        have Q11 : Hid (DA wr w4.heap.size (.slice a1 x1 c1) (.slice a2 x2 c2) (.slice a3 x3 c3) R1 R2 R3) := Q10.out.below hbr
        have N11 : Hid (wr.heap[i6]? = some (.cells #[.slice a1 x1 c1, .slice a2 x2 c2, .slice a3 x3 c3] 27 (0, 0))) := below_row hbr (row_lt N10.out) N10.out
        clear B10 M10 P10 Q10 N10
        clear hbr BR
        obtain ⟨tq, HTQ⟩ : ∃ t, Hid (bs.length % 4 = t) := ⟨_, rfl⟩
        have htl : tq < 4 := by rw [← HTQ.out]; exact Nat.mod_lt _ (by decide)
        obtain ⟨F, hcb, hcl, hff, hfn⟩ := CRA.out Z HST.out tq
        obtain ⟨xf, HXF⟩ : ∃ n, Hid (F.length = n) := ⟨_, rfl⟩
        have HFF : Hid (dskB F F [] = true) := dsk_of hff hff (by simp) rfl
        have HKF : Hid (DskOk F F []) := dsk_dok HFF.out (fun o h => by cases h)
        have CC : Hid (Calls Try.prog 10 #[.agg #[.slice a1 x1 c1, .slice a2 x2 c2, .slice a3 x3 c3], .slice ka m kc, .int .i64 tq] wr fun e w' => ∃ b1 e1 b2 e2, e = .returned (.tuple #[.agg #[.slice b1 xf e1, .slice b2 xf e2, .slice none 0 0], .bool true]) ∧ Below wr.heap.size wr w' ∧ DA w' wr.heap.size (.slice b1 xf e1) (.slice b2 xf e2) (.slice none 0 0) F F []) := by
          have h := implCrash_any a1 a2 a3 ka c1 c2 c3 x1 x2 x3 m kc xf tq true R1 R2 R3 Z wr (Q11.out.at HX1.out HX2.out HX3.out) HKA.out IK.out HX1.out HX2.out HX3.out HZM.out (by omega) hcb (by rw [hcl]; exact HXF.out)
          rw [hcl] at h
          exact h
        have RA : Hid (∀ W, DAt W a1 a2 a3 R1 R2 R3 → Calls Try.prog 16 #[.agg #[.slice a1 x1 c1, .slice a2 x2 c2, .slice a3 x3 c3], .string nm] W fun e w' => e = .returned (.tuple #[.string dt, .bool true]) ∧ Below W.heap.size W w') := fun W hD => by
          have h := implRead_any a1 a2 a3 c1 c2 c3 x1 x2 x3 R1 R2 R3 nm W hD HKA.out HX1.out HX2.out HX3.out
          rw [(rd_right HDA.out nm).1, (rd_right HDA.out nm).2, dat_fnd, has_fnd, HNEW.out] at h
          exact h
        have RB0 : Hid (∀ W b1 e1 b2 e2, DAt W b1 b2 none F F [] → Calls Try.prog 16 #[.agg #[.slice b1 xf e1, .slice b2 xf e2, .slice none 0 0], .string nm] W fun e w' => e = .returned (.tuple #[.string (datF F nm), .bool (hasF F nm)]) ∧ Below W.heap.size W w') := fun W b1 e1 b2 e2 hD => by
          have h := implRead_any b1 b2 none e1 e2 0 xf xf 0 F F [] nm W hD HKF.out HXF.out HXF.out rfl
          rw [(rd_right HFF.out nm).1, (rd_right HFF.out nm).2] at h
          exact h
        have htq : (bs.length : Int).tmod 4 = (tq : Int) := by rw [← HTQ.out, Int.tmod_eq_emod_of_nonneg (by omega)]; simp
        clear hcb hcl hff HTQ CRA IK HST HKF HNEW HKA HDA
        rcases hfn with hfn | hfn
        · have RB : Hid (∀ W b1 e1 b2 e2, DAt W b1 b2 none F F [] → Calls Try.prog 16 #[.agg #[.slice b1 xf e1, .slice b2 xf e2, .slice none 0 0], .string nm] W fun e w' => e = .returned (.tuple #[.string old, .bool was]) ∧ Below W.heap.size W w') := by have h := RB0.out; rw [dat_fnd, has_fnd, hfn, ← dat_fnd, ← has_fnd, HOLD.out, HWAS.out] at h; exact h
          clear RB0 hfn HOLD HWAS
          obtain ⟨zn11_0, zn11_1, zn11_2⟩ := cells3 N11.out
          go_wp2_with fail
          refine CC.out.mono ?_
          rintro e w12 ⟨b1, e1, b2, e2, rfl, hb, hda⟩
          have B12 : Hid (Below w.heap.size w w12) := B11.out.trans (hb.mono B11.out.size)
          have M12 : Hid (w12.heap[i3]? = some (.cells #[.slice d1 x f1, .slice d2 x f2, .slice d3 0 f3] 27 (0, 0))) := below_row hb (row_lt M11.out) M11.out
          have P12 : Hid (DA w12 w2.heap.size (.slice d1 x f1) (.slice d2 x f2) (.slice d3 0 f3) X X []) := P11.out.below hb
          have Q12 : Hid (DA w12 w4.heap.size (.slice a1 x1 c1) (.slice a2 x2 c2) (.slice a3 x3 c3) R1 R2 R3) := Q11.out.below hb
          have N12 : Hid (w12.heap[i6]? = some (.cells #[.slice a1 x1 c1, .slice a2 x2 c2, .slice a3 x3 c3] 27 (0, 0))) := below_row hb (row_lt N11.out) N11.out
          clear B11 M11 P11 Q11 N11
          clear zn11_0 zn11_1 zn11_2
          have G12 : Hid (DA w12 wr.heap.size (.slice b1 xf e1) (.slice b2 xf e2) (.slice none 0 0) F F []) := hda
          clear hb hda htq
          have hb : Below w12.heap.size w12 (w12.alloc (.cells #[.slice b1 xf e1, .slice b2 xf e2, .slice none 0 0] 27)) := (Below.refl _ _).alloc (Nat.le_refl _) _
          have B13 : Hid (Below w.heap.size w (w12.alloc (.cells #[.slice b1 xf e1, .slice b2 xf e2, .slice none 0 0] 27))) := B12.out.trans (hb.mono B12.out.size)
          have M13 : Hid ((w12.alloc (.cells #[.slice b1 xf e1, .slice b2 xf e2, .slice none 0 0] 27)).heap[i3]? = some (.cells #[.slice d1 x f1, .slice d2 x f2, .slice d3 0 f3] 27 (0, 0))) := below_row hb (row_lt M12.out) M12.out
          have P13 : Hid (DA (w12.alloc (.cells #[.slice b1 xf e1, .slice b2 xf e2, .slice none 0 0] 27)) w2.heap.size (.slice d1 x f1) (.slice d2 x f2) (.slice d3 0 f3) X X []) := P12.out.below hb
          have Q13 : Hid (DA (w12.alloc (.cells #[.slice b1 xf e1, .slice b2 xf e2, .slice none 0 0] 27)) w4.heap.size (.slice a1 x1 c1) (.slice a2 x2 c2) (.slice a3 x3 c3) R1 R2 R3) := Q12.out.below hb
          have N13 : Hid ((w12.alloc (.cells #[.slice b1 xf e1, .slice b2 xf e2, .slice none 0 0] 27)).heap[i6]? = some (.cells #[.slice a1 x1 c1, .slice a2 x2 c2, .slice a3 x3 c3] 27 (0, 0))) := below_row hb (row_lt N12.out) N12.out
          have G13 : Hid (DA (w12.alloc (.cells #[.slice b1 xf e1, .slice b2 xf e2, .slice none 0 0] 27)) wr.heap.size (.slice b1 xf e1) (.slice b2 xf e2) (.slice none 0 0) F F []) := G12.out.below hb
          clear B12 M12 P12 Q12 N12 G12
          have O13 : Hid ((w12.alloc (.cells #[.slice b1 xf e1, .slice b2 xf e2, .slice none 0 0] 27)).heap[w12.heap.size]? = some (.cells #[.slice b1 xf e1, .slice b2 xf e2, .slice none 0 0] 27 (0, 0))) := heap_alloc_new _ _
          clear hb
          obtain ⟨zo13_0, zo13_1, zo13_2⟩ := cells3 O13.out
          go_wp2_with fail
          generalize w12.heap.size = i16 at *
          generalize (w12.alloc (.cells #[.slice b1 xf e1, .slice b2 xf e2, .slice none 0 0] 27)) = w13 at *
          refine (RB.out w13 _ _ _ _ (G13.out.at HXF.out HXF.out rfl)).mono ?_
          rintro e w14 ⟨rfl, hb⟩
          have B14 : Hid (Below w.heap.size w w14) := B13.out.trans (hb.mono B13.out.size)
          have M14 : Hid (w14.heap[i3]? = some (.cells #[.slice d1 x f1, .slice d2 x f2, .slice d3 0 f3] 27 (0, 0))) := below_row hb (row_lt M13.out) M13.out
          have P14 : Hid (DA w14 w2.heap.size (.slice d1 x f1) (.slice d2 x f2) (.slice d3 0 f3) X X []) := P13.out.below hb
          have Q14 : Hid (DA w14 w4.heap.size (.slice a1 x1 c1) (.slice a2 x2 c2) (.slice a3 x3 c3) R1 R2 R3) := Q13.out.below hb
          have N14 : Hid (w14.heap[i6]? = some (.cells #[.slice a1 x1 c1, .slice a2 x2 c2, .slice a3 x3 c3] 27 (0, 0))) := below_row hb (row_lt N13.out) N13.out
          have G14 : Hid (DA w14 wr.heap.size (.slice b1 xf e1) (.slice b2 xf e2) (.slice none 0 0) F F []) := G13.out.below hb
          have O14 : Hid (w14.heap[i16]? = some (.cells #[.slice b1 xf e1, .slice b2 xf e2, .slice none 0 0] 27 (0, 0))) := below_row hb (row_lt O13.out) O13.out
          clear B13 M13 P13 Q13 N13 G13 O13
          clear zo13_0 zo13_1 zo13_2
          clear hb
          obtain ⟨zn14_0, zn14_1, zn14_2⟩ := cells3 N14.out
          go_wp2_with fail
          refine (RA.out w14 (Q14.out.at HX1.out HX2.out HX3.out)).mono ?_
          rintro e w15 ⟨rfl, hb⟩
          have B15 : Hid (Below w.heap.size w w15) := B14.out.trans (hb.mono B14.out.size)
          have M15 : Hid (w15.heap[i3]? = some (.cells #[.slice d1 x f1, .slice d2 x f2, .slice d3 0 f3] 27 (0, 0))) := below_row hb (row_lt M14.out) M14.out
          have P15 : Hid (DA w15 w2.heap.size (.slice d1 x f1) (.slice d2 x f2) (.slice d3 0 f3) X X []) := P14.out.below hb
          have Q15 : Hid (DA w15 w4.heap.size (.slice a1 x1 c1) (.slice a2 x2 c2) (.slice a3 x3 c3) R1 R2 R3) := Q14.out.below hb
          have N15 : Hid (w15.heap[i6]? = some (.cells #[.slice a1 x1 c1, .slice a2 x2 c2, .slice a3 x3 c3] 27 (0, 0))) := below_row hb (row_lt N14.out) N14.out
          have G15 : Hid (DA w15 wr.heap.size (.slice b1 xf e1) (.slice b2 xf e2) (.slice none 0 0) F F []) := G14.out.below hb
          have O15 : Hid (w15.heap[i16]? = some (.cells #[.slice b1 xf e1, .slice b2 xf e2, .slice none 0 0] 27 (0, 0))) := below_row hb (row_lt O14.out) O14.out
          clear B14 M14 P14 Q14 N14 G14 O14
          clear zn14_0 zn14_1 zn14_2
          clear hb
          go_wp2
          go_ret
          exact ⟨by simp, B15.out⟩
        have RB : Hid (∀ W b1 e1 b2 e2, DAt W b1 b2 none F F [] → Calls Try.prog 16 #[.agg #[.slice b1 xf e1, .slice b2 xf e2, .slice none 0 0], .string nm] W fun e w' => e = .returned (.tuple #[.string dt, .bool true]) ∧ Below W.heap.size W w') := by have h := RB0.out; rw [dat_fnd, has_fnd, hfn] at h; exact h
        clear RB0 hfn HOLD HWAS
        cases was
        · skip
          obtain ⟨zn11_0, zn11_1, zn11_2⟩ := cells3 N11.out
          go_wp2_with fail
          refine CC.out.mono ?_
          rintro e w12 ⟨b1, e1, b2, e2, rfl, hb, hda⟩
          have B12 : Hid (Below w.heap.size w w12) := B11.out.trans (hb.mono B11.out.size)
          have M12 : Hid (w12.heap[i3]? = some (.cells #[.slice d1 x f1, .slice d2 x f2, .slice d3 0 f3] 27 (0, 0))) := below_row hb (row_lt M11.out) M11.out
          have P12 : Hid (DA w12 w2.heap.size (.slice d1 x f1) (.slice d2 x f2) (.slice d3 0 f3) X X []) := P11.out.below hb
          have Q12 : Hid (DA w12 w4.heap.size (.slice a1 x1 c1) (.slice a2 x2 c2) (.slice a3 x3 c3) R1 R2 R3) := Q11.out.below hb
          have N12 : Hid (w12.heap[i6]? = some (.cells #[.slice a1 x1 c1, .slice a2 x2 c2, .slice a3 x3 c3] 27 (0, 0))) := below_row hb (row_lt N11.out) N11.out
          clear B11 M11 P11 Q11 N11
          clear zn11_0 zn11_1 zn11_2
          have G12 : Hid (DA w12 wr.heap.size (.slice b1 xf e1) (.slice b2 xf e2) (.slice none 0 0) F F []) := hda
          clear hb hda htq
          have hb : Below w12.heap.size w12 (w12.alloc (.cells #[.slice b1 xf e1, .slice b2 xf e2, .slice none 0 0] 27)) := (Below.refl _ _).alloc (Nat.le_refl _) _
          have B13 : Hid (Below w.heap.size w (w12.alloc (.cells #[.slice b1 xf e1, .slice b2 xf e2, .slice none 0 0] 27))) := B12.out.trans (hb.mono B12.out.size)
          have M13 : Hid ((w12.alloc (.cells #[.slice b1 xf e1, .slice b2 xf e2, .slice none 0 0] 27)).heap[i3]? = some (.cells #[.slice d1 x f1, .slice d2 x f2, .slice d3 0 f3] 27 (0, 0))) := below_row hb (row_lt M12.out) M12.out
          have P13 : Hid (DA (w12.alloc (.cells #[.slice b1 xf e1, .slice b2 xf e2, .slice none 0 0] 27)) w2.heap.size (.slice d1 x f1) (.slice d2 x f2) (.slice d3 0 f3) X X []) := P12.out.below hb
          have Q13 : Hid (DA (w12.alloc (.cells #[.slice b1 xf e1, .slice b2 xf e2, .slice none 0 0] 27)) w4.heap.size (.slice a1 x1 c1) (.slice a2 x2 c2) (.slice a3 x3 c3) R1 R2 R3) := Q12.out.below hb
          have N13 : Hid ((w12.alloc (.cells #[.slice b1 xf e1, .slice b2 xf e2, .slice none 0 0] 27)).heap[i6]? = some (.cells #[.slice a1 x1 c1, .slice a2 x2 c2, .slice a3 x3 c3] 27 (0, 0))) := below_row hb (row_lt N12.out) N12.out
          have G13 : Hid (DA (w12.alloc (.cells #[.slice b1 xf e1, .slice b2 xf e2, .slice none 0 0] 27)) wr.heap.size (.slice b1 xf e1) (.slice b2 xf e2) (.slice none 0 0) F F []) := G12.out.below hb
          clear B12 M12 P12 Q12 N12 G12
          have O13 : Hid ((w12.alloc (.cells #[.slice b1 xf e1, .slice b2 xf e2, .slice none 0 0] 27)).heap[w12.heap.size]? = some (.cells #[.slice b1 xf e1, .slice b2 xf e2, .slice none 0 0] 27 (0, 0))) := heap_alloc_new _ _
          clear hb
          obtain ⟨zo13_0, zo13_1, zo13_2⟩ := cells3 O13.out
          go_wp2_with fail
          generalize w12.heap.size = i16 at *
          generalize (w12.alloc (.cells #[.slice b1 xf e1, .slice b2 xf e2, .slice none 0 0] 27)) = w13 at *
          refine (RB.out w13 _ _ _ _ (G13.out.at HXF.out HXF.out rfl)).mono ?_
          rintro e w14 ⟨rfl, hb⟩
          have B14 : Hid (Below w.heap.size w w14) := B13.out.trans (hb.mono B13.out.size)
          have M14 : Hid (w14.heap[i3]? = some (.cells #[.slice d1 x f1, .slice d2 x f2, .slice d3 0 f3] 27 (0, 0))) := below_row hb (row_lt M13.out) M13.out
          have P14 : Hid (DA w14 w2.heap.size (.slice d1 x f1) (.slice d2 x f2) (.slice d3 0 f3) X X []) := P13.out.below hb
          have Q14 : Hid (DA w14 w4.heap.size (.slice a1 x1 c1) (.slice a2 x2 c2) (.slice a3 x3 c3) R1 R2 R3) := Q13.out.below hb
          have N14 : Hid (w14.heap[i6]? = some (.cells #[.slice a1 x1 c1, .slice a2 x2 c2, .slice a3 x3 c3] 27 (0, 0))) := below_row hb (row_lt N13.out) N13.out
          have G14 : Hid (DA w14 wr.heap.size (.slice b1 xf e1) (.slice b2 xf e2) (.slice none 0 0) F F []) := G13.out.below hb
          have O14 : Hid (w14.heap[i16]? = some (.cells #[.slice b1 xf e1, .slice b2 xf e2, .slice none 0 0] 27 (0, 0))) := below_row hb (row_lt O13.out) O13.out
          clear B13 M13 P13 Q13 N13 G13 O13
          clear zo13_0 zo13_1 zo13_2
          clear hb
          obtain ⟨zn14_0, zn14_1, zn14_2⟩ := cells3 N14.out
          go_wp2_with fail
          refine (RA.out w14 (Q14.out.at HX1.out HX2.out HX3.out)).mono ?_
          rintro e w15 ⟨rfl, hb⟩
          have B15 : Hid (Below w.heap.size w w15) := B14.out.trans (hb.mono B14.out.size)
          have M15 : Hid (w15.heap[i3]? = some (.cells #[.slice d1 x f1, .slice d2 x f2, .slice d3 0 f3] 27 (0, 0))) := below_row hb (row_lt M14.out) M14.out
          have P15 : Hid (DA w15 w2.heap.size (.slice d1 x f1) (.slice d2 x f2) (.slice d3 0 f3) X X []) := P14.out.below hb
          have Q15 : Hid (DA w15 w4.heap.size (.slice a1 x1 c1) (.slice a2 x2 c2) (.slice a3 x3 c3) R1 R2 R3) := Q14.out.below hb
          have N15 : Hid (w15.heap[i6]? = some (.cells #[.slice a1 x1 c1, .slice a2 x2 c2, .slice a3 x3 c3] 27 (0, 0))) := below_row hb (row_lt N14.out) N14.out
          have G15 : Hid (DA w15 wr.heap.size (.slice b1 xf e1) (.slice b2 xf e2) (.slice none 0 0) F F []) := G14.out.below hb
          have O15 : Hid (w15.heap[i16]? = some (.cells #[.slice b1 xf e1, .slice b2 xf e2, .slice none 0 0] 27 (0, 0))) := below_row hb (row_lt O14.out) O14.out
          clear B14 M14 P14 Q14 N14 G14 O14
          clear zn14_0 zn14_1 zn14_2
          clear hb
          go_wp2
          go_ret
          exact ⟨by simp, B15.out⟩
        · cases hdo : (dt.toList == old.toList)
          · skip
            obtain ⟨zn11_0, zn11_1, zn11_2⟩ := cells3 N11.out
            go_wp2_with fail
            refine CC.out.mono ?_
            rintro e w12 ⟨b1, e1, b2, e2, rfl, hb, hda⟩
            have B12 : Hid (Below w.heap.size w w12) := B11.out.trans (hb.mono B11.out.size)
            have M12 : Hid (w12.heap[i3]? = some (.cells #[.slice d1 x f1, .slice d2 x f2, .slice d3 0 f3] 27 (0, 0))) := below_row hb (row_lt M11.out) M11.out
            have P12 : Hid (DA w12 w2.heap.size (.slice d1 x f1) (.slice d2 x f2) (.slice d3 0 f3) X X []) := P11.out.below hb
            have Q12 : Hid (DA w12 w4.heap.size (.slice a1 x1 c1) (.slice a2 x2 c2) (.slice a3 x3 c3) R1 R2 R3) := Q11.out.below hb
            have N12 : Hid (w12.heap[i6]? = some (.cells #[.slice a1 x1 c1, .slice a2 x2 c2, .slice a3 x3 c3] 27 (0, 0))) := below_row hb (row_lt N11.out) N11.out
            clear B11 M11 P11 Q11 N11
            clear zn11_0 zn11_1 zn11_2
            have G12 : Hid (DA w12 wr.heap.size (.slice b1 xf e1) (.slice b2 xf e2) (.slice none 0 0) F F []) := hda
            clear hb hda htq
            have hb : Below w12.heap.size w12 (w12.alloc (.cells #[.slice b1 xf e1, .slice b2 xf e2, .slice none 0 0] 27)) := (Below.refl _ _).alloc (Nat.le_refl _) _
            have B13 : Hid (Below w.heap.size w (w12.alloc (.cells #[.slice b1 xf e1, .slice b2 xf e2, .slice none 0 0] 27))) := B12.out.trans (hb.mono B12.out.size)
            have M13 : Hid ((w12.alloc (.cells #[.slice b1 xf e1, .slice b2 xf e2, .slice none 0 0] 27)).heap[i3]? = some (.cells #[.slice d1 x f1, .slice d2 x f2, .slice d3 0 f3] 27 (0, 0))) := below_row hb (row_lt M12.out) M12.out
            have P13 : Hid (DA (w12.alloc (.cells #[.slice b1 xf e1, .slice b2 xf e2, .slice none 0 0] 27)) w2.heap.size (.slice d1 x f1) (.slice d2 x f2) (.slice d3 0 f3) X X []) := P12.out.below hb
            have Q13 : Hid (DA (w12.alloc (.cells #[.slice b1 xf e1, .slice b2 xf e2, .slice none 0 0] 27)) w4.heap.size (.slice a1 x1 c1) (.slice a2 x2 c2) (.slice a3 x3 c3) R1 R2 R3) := Q12.out.below hb
            have N13 : Hid ((w12.alloc (.cells #[.slice b1 xf e1, .slice b2 xf e2, .slice none 0 0] 27)).heap[i6]? = some (.cells #[.slice a1 x1 c1, .slice a2 x2 c2, .slice a3 x3 c3] 27 (0, 0))) := below_row hb (row_lt N12.out) N12.out
            have G13 : Hid (DA (w12.alloc (.cells #[.slice b1 xf e1, .slice b2 xf e2, .slice none 0 0] 27)) wr.heap.size (.slice b1 xf e1) (.slice b2 xf e2) (.slice none 0 0) F F []) := G12.out.below hb
            clear B12 M12 P12 Q12 N12 G12
            have O13 : Hid ((w12.alloc (.cells #[.slice b1 xf e1, .slice b2 xf e2, .slice none 0 0] 27)).heap[w12.heap.size]? = some (.cells #[.slice b1 xf e1, .slice b2 xf e2, .slice none 0 0] 27 (0, 0))) := heap_alloc_new _ _
            clear hb
            obtain ⟨zo13_0, zo13_1, zo13_2⟩ := cells3 O13.out
            go_wp2_with fail
            generalize w12.heap.size = i16 at *
            generalize (w12.alloc (.cells #[.slice b1 xf e1, .slice b2 xf e2, .slice none 0 0] 27)) = w13 at *
            refine (RB.out w13 _ _ _ _ (G13.out.at HXF.out HXF.out rfl)).mono ?_
            rintro e w14 ⟨rfl, hb⟩
            have B14 : Hid (Below w.heap.size w w14) := B13.out.trans (hb.mono B13.out.size)
            have M14 : Hid (w14.heap[i3]? = some (.cells #[.slice d1 x f1, .slice d2 x f2, .slice d3 0 f3] 27 (0, 0))) := below_row hb (row_lt M13.out) M13.out
            have P14 : Hid (DA w14 w2.heap.size (.slice d1 x f1) (.slice d2 x f2) (.slice d3 0 f3) X X []) := P13.out.below hb
            have Q14 : Hid (DA w14 w4.heap.size (.slice a1 x1 c1) (.slice a2 x2 c2) (.slice a3 x3 c3) R1 R2 R3) := Q13.out.below hb
            have N14 : Hid (w14.heap[i6]? = some (.cells #[.slice a1 x1 c1, .slice a2 x2 c2, .slice a3 x3 c3] 27 (0, 0))) := below_row hb (row_lt N13.out) N13.out
            have G14 : Hid (DA w14 wr.heap.size (.slice b1 xf e1) (.slice b2 xf e2) (.slice none 0 0) F F []) := G13.out.below hb
            have O14 : Hid (w14.heap[i16]? = some (.cells #[.slice b1 xf e1, .slice b2 xf e2, .slice none 0 0] 27 (0, 0))) := below_row hb (row_lt O13.out) O13.out
            clear B13 M13 P13 Q13 N13 G13 O13
            clear zo13_0 zo13_1 zo13_2
            clear hb
            obtain ⟨zn14_0, zn14_1, zn14_2⟩ := cells3 N14.out
            go_wp2_with fail
            refine (RA.out w14 (Q14.out.at HX1.out HX2.out HX3.out)).mono ?_
            rintro e w15 ⟨rfl, hb⟩
            have B15 : Hid (Below w.heap.size w w15) := B14.out.trans (hb.mono B14.out.size)
            have M15 : Hid (w15.heap[i3]? = some (.cells #[.slice d1 x f1, .slice d2 x f2, .slice d3 0 f3] 27 (0, 0))) := below_row hb (row_lt M14.out) M14.out
            have P15 : Hid (DA w15 w2.heap.size (.slice d1 x f1) (.slice d2 x f2) (.slice d3 0 f3) X X []) := P14.out.below hb
            have Q15 : Hid (DA w15 w4.heap.size (.slice a1 x1 c1) (.slice a2 x2 c2) (.slice a3 x3 c3) R1 R2 R3) := Q14.out.below hb
            have N15 : Hid (w15.heap[i6]? = some (.cells #[.slice a1 x1 c1, .slice a2 x2 c2, .slice a3 x3 c3] 27 (0, 0))) := below_row hb (row_lt N14.out) N14.out
            have G15 : Hid (DA w15 wr.heap.size (.slice b1 xf e1) (.slice b2 xf e2) (.slice none 0 0) F F []) := G14.out.below hb
            have O15 : Hid (w15.heap[i16]? = some (.cells #[.slice b1 xf e1, .slice b2 xf e2, .slice none 0 0] 27 (0, 0))) := below_row hb (row_lt O14.out) O14.out
            clear B14 M14 P14 Q14 N14 G14 O14
            clear zn14_0 zn14_1 zn14_2
            clear hb
            go_wp2
            go_ret
            exact ⟨by simp, B15.out⟩
          · skip
            obtain ⟨zn11_0, zn11_1, zn11_2⟩ := cells3 N11.out
            go_wp2_with fail
            refine CC.out.mono ?_
            rintro e w12 ⟨b1, e1, b2, e2, rfl, hb, hda⟩
            have B12 : Hid (Below w.heap.size w w12) := B11.out.trans (hb.mono B11.out.size)
            have M12 : Hid (w12.heap[i3]? = some (.cells #[.slice d1 x f1, .slice d2 x f2, .slice d3 0 f3] 27 (0, 0))) := below_row hb (row_lt M11.out) M11.out
            have P12 : Hid (DA w12 w2.heap.size (.slice d1 x f1) (.slice d2 x f2) (.slice d3 0 f3) X X []) := P11.out.below hb
            have Q12 : Hid (DA w12 w4.heap.size (.slice a1 x1 c1) (.slice a2 x2 c2) (.slice a3 x3 c3) R1 R2 R3) := Q11.out.below hb
            have N12 : Hid (w12.heap[i6]? = some (.cells #[.slice a1 x1 c1, .slice a2 x2 c2, .slice a3 x3 c3] 27 (0, 0))) := below_row hb (row_lt N11.out) N11.out
            clear B11 M11 P11 Q11 N11
            clear zn11_0 zn11_1 zn11_2
            have G12 : Hid (DA w12 wr.heap.size (.slice b1 xf e1) (.slice b2 xf e2) (.slice none 0 0) F F []) := hda
            clear hb hda htq
            have hb : Below w12.heap.size w12 (w12.alloc (.cells #[.slice b1 xf e1, .slice b2 xf e2, .slice none 0 0] 27)) := (Below.refl _ _).alloc (Nat.le_refl _) _
            have B13 : Hid (Below w.heap.size w (w12.alloc (.cells #[.slice b1 xf e1, .slice b2 xf e2, .slice none 0 0] 27))) := B12.out.trans (hb.mono B12.out.size)
            have M13 : Hid ((w12.alloc (.cells #[.slice b1 xf e1, .slice b2 xf e2, .slice none 0 0] 27)).heap[i3]? = some (.cells #[.slice d1 x f1, .slice d2 x f2, .slice d3 0 f3] 27 (0, 0))) := below_row hb (row_lt M12.out) M12.out
            have P13 : Hid (DA (w12.alloc (.cells #[.slice b1 xf e1, .slice b2 xf e2, .slice none 0 0] 27)) w2.heap.size (.slice d1 x f1) (.slice d2 x f2) (.slice d3 0 f3) X X []) := P12.out.below hb
            have Q13 : Hid (DA (w12.alloc (.cells #[.slice b1 xf e1, .slice b2 xf e2, .slice none 0 0] 27)) w4.heap.size (.slice a1 x1 c1) (.slice a2 x2 c2) (.slice a3 x3 c3) R1 R2 R3) := Q12.out.below hb
            have N13 : Hid ((w12.alloc (.cells #[.slice b1 xf e1, .slice b2 xf e2, .slice none 0 0] 27)).heap[i6]? = some (.cells #[.slice a1 x1 c1, .slice a2 x2 c2, .slice a3 x3 c3] 27 (0, 0))) := below_row hb (row_lt N12.out) N12.out
            have G13 : Hid (DA (w12.alloc (.cells #[.slice b1 xf e1, .slice b2 xf e2, .slice none 0 0] 27)) wr.heap.size (.slice b1 xf e1) (.slice b2 xf e2) (.slice none 0 0) F F []) := G12.out.below hb
            clear B12 M12 P12 Q12 N12 G12
            have O13 : Hid ((w12.alloc (.cells #[.slice b1 xf e1, .slice b2 xf e2, .slice none 0 0] 27)).heap[w12.heap.size]? = some (.cells #[.slice b1 xf e1, .slice b2 xf e2, .slice none 0 0] 27 (0, 0))) := heap_alloc_new _ _
            clear hb
            obtain ⟨zo13_0, zo13_1, zo13_2⟩ := cells3 O13.out
            go_wp2_with fail
            generalize w12.heap.size = i16 at *
            generalize (w12.alloc (.cells #[.slice b1 xf e1, .slice b2 xf e2, .slice none 0 0] 27)) = w13 at *
            refine (RB.out w13 _ _ _ _ (G13.out.at HXF.out HXF.out rfl)).mono ?_
            rintro e w14 ⟨rfl, hb⟩
            have B14 : Hid (Below w.heap.size w w14) := B13.out.trans (hb.mono B13.out.size)
            have M14 : Hid (w14.heap[i3]? = some (.cells #[.slice d1 x f1, .slice d2 x f2, .slice d3 0 f3] 27 (0, 0))) := below_row hb (row_lt M13.out) M13.out
            have P14 : Hid (DA w14 w2.heap.size (.slice d1 x f1) (.slice d2 x f2) (.slice d3 0 f3) X X []) := P13.out.below hb
            have Q14 : Hid (DA w14 w4.heap.size (.slice a1 x1 c1) (.slice a2 x2 c2) (.slice a3 x3 c3) R1 R2 R3) := Q13.out.below hb
            have N14 : Hid (w14.heap[i6]? = some (.cells #[.slice a1 x1 c1, .slice a2 x2 c2, .slice a3 x3 c3] 27 (0, 0))) := below_row hb (row_lt N13.out) N13.out
            have G14 : Hid (DA w14 wr.heap.size (.slice b1 xf e1) (.slice b2 xf e2) (.slice none 0 0) F F []) := G13.out.below hb
            have O14 : Hid (w14.heap[i16]? = some (.cells #[.slice b1 xf e1, .slice b2 xf e2, .slice none 0 0] 27 (0, 0))) := below_row hb (row_lt O13.out) O13.out
            clear B13 M13 P13 Q13 N13 G13 O13
            clear zo13_0 zo13_1 zo13_2
            clear hb
            obtain ⟨zn14_0, zn14_1, zn14_2⟩ := cells3 N14.out
            go_wp2_with fail
            refine (RA.out w14 (Q14.out.at HX1.out HX2.out HX3.out)).mono ?_
            rintro e w15 ⟨rfl, hb⟩
            have B15 : Hid (Below w.heap.size w w15) := B14.out.trans (hb.mono B14.out.size)
            have M15 : Hid (w15.heap[i3]? = some (.cells #[.slice d1 x f1, .slice d2 x f2, .slice d3 0 f3] 27 (0, 0))) := below_row hb (row_lt M14.out) M14.out
            have P15 : Hid (DA w15 w2.heap.size (.slice d1 x f1) (.slice d2 x f2) (.slice d3 0 f3) X X []) := P14.out.below hb
            have Q15 : Hid (DA w15 w4.heap.size (.slice a1 x1 c1) (.slice a2 x2 c2) (.slice a3 x3 c3) R1 R2 R3) := Q14.out.below hb
            have N15 : Hid (w15.heap[i6]? = some (.cells #[.slice a1 x1 c1, .slice a2 x2 c2, .slice a3 x3 c3] 27 (0, 0))) := below_row hb (row_lt N14.out) N14.out
            have G15 : Hid (DA w15 wr.heap.size (.slice b1 xf e1) (.slice b2 xf e2) (.slice none 0 0) F F []) := G14.out.below hb
            have O15 : Hid (w15.heap[i16]? = some (.cells #[.slice b1 xf e1, .slice b2 xf e2, .slice none 0 0] 27 (0, 0))) := below_row hb (row_lt O14.out) O14.out
            clear B14 M14 P14 Q14 N14 G14 O14
            clear zn14_0 zn14_1 zn14_2
            clear hb
            go_wp2
            go_ret
            exact ⟨by simp, B15.out⟩
    · go_wp2
      go_ret
      exact ⟨rfl, B9.out⟩
  have hkb : (kd == 0) = false := by simp [hkd]
  have hkn : (kd != 0) = true := by simp [hkd]
  go_wp2
  go_ret
  exact ⟨rfl, B8.out⟩

end Go.Proofs.Ytpahhhocgpohbaa
