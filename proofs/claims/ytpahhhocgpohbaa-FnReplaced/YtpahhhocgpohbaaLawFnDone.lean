import Derived.Test.YtpahhhocgpohbaaPack1
import Derived.Test.YtpahhhocgpohbaaPack14
import Derived.Test.YtpahhhocgpohbaaPack25
import Derived.Test.YtpahhhocgpohbaaDrawDo
namespace Go.Proofs.Ytpahhhocgpohbaa
open Go.RowKit

theorem rd_right {L S : List FI} {O : List OP} (h : dskB L S O = true) (n : ByteArray) : rdD L S O n = datF L n ∧ rdB L S O n = hasF L n := by
  unfold rdD rdB
  rw [h]
  exact ⟨rfl, rfl⟩
theorem done1 {L : List FI} {O : List OP} {n t d : ByteArray} (h : actK L O ⟨1, n, t, d⟩ = 0) : datF (actL L O ⟨1, n, t, d⟩) n = datF L n ++ d ∧ hasF (actL L O ⟨1, n, t, d⟩) n = true := by
  unfold actL
  rw [if_pos h, dat_fnd, has_fnd, fnd_do1, if_pos rfl]
  exact ⟨rfl, rfl⟩
theorem done2 {L : List FI} {O : List OP} {n t d : ByteArray} (h : actK L O ⟨2, n, t, d⟩ = 0) : (datF (actL L O ⟨2, n, t, d⟩) t = datF L n ∧ hasF (actL L O ⟨2, n, t, d⟩) t = true) ∧ hasF (actL L O ⟨2, n, t, d⟩) n = decide (t = n) := by
  have hok := (act_zero h).2.1
  unfold okF at hok
  have hh : hasF L n = true := by simpa using hok
  unfold actL
  rw [if_pos h, dat_fnd, has_fnd, has_fnd, fnd_do2 _ _ _ _ _ hh, fnd_do2 _ _ _ _ _ hh, if_pos rfl]
  refine ⟨⟨rfl, rfl⟩, ?_⟩
  by_cases e : n = t
  · rw [if_pos e, decide_eq_true e.symm]; rfl
  · rw [if_neg e, if_pos rfl, decide_eq_false (fun h => e h.symm)]; rfl
theorem done3 {L : List FI} {O : List OP} {n t d : ByteArray} (h : actK L O ⟨3, n, t, d⟩ = 0) : hasF (actL L O ⟨3, n, t, d⟩) n = false := by
  have hok := (act_zero h).2.1
  unfold okF at hok
  have hh : hasF L n = true := by simpa using hok
  unfold actL
  rw [if_pos h, has_fnd, fnd_do3 _ _ _ _ _ hh, if_pos rfl]
  rfl
theorem str_dec (x y : ByteArray) : (x.toList == y.toList) = decide (x = y) := by
  by_cases h : x = y
  · subst h; simp
  · rw [decide_eq_false h, beq_eq_false_iff_ne]
    exact fun e => h (toL_inj e)
theorem kind_frm {k : Int} {n t d : ByteArray} (h : frmB ⟨k, n, t, d⟩ = true) : k = 1 ∨ k = 2 ∨ k = 3 := by
  unfold frmB at h
  rw [Bool.and_eq_true] at h
  have := of_decide_eq_true h.1
  simp only at this
  omega

set_option maxHeartbeats 8000000 in
set_option maxRecDepth 20000 in
theorem lawFnDone (a : Option Addr) (c : Nat) (bs : List Int) (w : World) (h : CodeAt w a bs) (hl : bs.length ≤ 9223372036854775807) :
    Calls Try.prog 4 #[.slice a bs.length c] w fun e w' => e = .returned (.bool true) ∧ Below w.heap.size w w' := by
  have H : Hid (CodeAt w a bs) := h
  clear h
  by_cases hbig : 1048576 < bs.length
  · go_enter Try.func4, Try.ntmps4
    go_wp2_with fail
    refine (big_any a c bs.length w hl).mono ?_
    rintro e w1 ⟨rfl, rfl⟩
    rw [decide_eq_true hbig]
    go_wp2
    go_ret
    exact ⟨rfl, Below.refl _ _⟩
  have hbl : bs.length ≤ 1048576 := by omega
  have DW : Hid (Calls Try.prog 13 #[.slice a bs.length c] w (DoOk w)) := drawDo_any a c bs w H.out hbl
  clear H hbl
  go_enter Try.func4, Try.ntmps4
  go_wp2_with fail
  refine (big_any a c bs.length w hl).mono ?_
  rintro e w0 ⟨rfl, hw⟩
  replace hw := hw.symm
  subst hw
  rw [decide_eq_false hbig]
  go_wp2_with fail
  refine DW.out.mono ?_
  rintro e w1 ⟨la, sa, oa, ln, sn, on, lc, sc, oc, L, S, O, k, n, t, d, rfl, hd, hk, ⟨hln, hsn, hon⟩, hcp, ⟨hs1, hs2, hs3⟩, hb⟩
  have B1 : Hid (Below w.heap.size w w1) := hb
  have A1 : Hid (DAt w1 la sa oa L S O) := hd
  have HK : Hid (DskOk L S O) := hk
  have HLN : Hid (L.length = ln) := hln
  have HSN : Hid (S.length = sn) := hsn
  have HON : Hid (O.length = on) := hon
  have bl : ln ≤ 1048576 := by rw [← hln]; exact hk.ln
  have bs' : sn ≤ 1048576 := by rw [← hsn]; exact hk.sn
  have bo : on ≤ 1048576 := by rw [← hon]; exact hk.on
  have HCP : Hid (on ≤ oc ∧ (oa = none → on = 0 ∧ oc = 0)) := hcp
  clear hd hk hln hsn hon hb DW hbig hcp
  have SD : Hid (∀ W y, DAt W la sa oa L S O → dskB L S O = y → Calls Try.prog 9 #[.agg #[.slice la ln lc, .slice sa sn sc, .slice oa on oc]] W fun e w' => e = .returned (.bool y) ∧ Below W.heap.size W w') := fun W y hD hy => by
    rw [← hy]
    exact specDisk_at la sa oa lc sc oc ln sn on L S O W hD HK.out HLN.out HSN.out HON.out
  have SM : Hid (∀ W x y n a1 a2 F, F.length = n → n ≤ 1048576 → FilesAt W x F → FilesAt W y F → Calls Try.prog 12 #[.slice x n a1, .slice y n a2] W fun e w' => e = .returned (.bool true) ∧ Below W.heap.size W w') := fun W x y n a1 a2 F hn hb h1 h2 => by
    subst hn
    have h := sameFiles_any x y a1 a2 F F W h1 h2 hb hb
    rw [decide_eq_true rfl] at h
    exact h
  cases hd : dskB L S O
  · have HAN : Hid (dK L S O ⟨k, n, t, d⟩ = 1 ∧ dL L S O ⟨k, n, t, d⟩ = [] ∧ dS L S O = [] ∧ dO L S O ⟨k, n, t, d⟩ = []) := by
      show _ ∧ _
      unfold dK dL dS dO
      rw [hd]
      exact ⟨rfl, rfl, rfl, rfl⟩
    have HXN : Hid (([] : List FI).length = 0 ∧ ([] : List FI).length = 0 ∧ ([] : List OP).length = 0) := ⟨rfl, rfl, rfl⟩
    have ID : Hid (∀ W, DAt W la sa oa L S O → Calls Try.prog 14 #[.agg #[.slice la ln lc, .slice sa sn sc, .slice oa on oc], .agg #[.int .i64 k, .string n, .string t, .string d]] W fun e w' => ∃ a1 c1 a2 c2 a3 c3, e = .returned (.tuple #[.agg #[.slice a1 0 c1, .slice a2 0 c2, .slice a3 0 c3], .int .i64 1]) ∧ Below W.heap.size W w' ∧ DA w' W.heap.size (.slice a1 0 c1) (.slice a2 0 c2) (.slice a3 0 c3) [] [] []) := fun W hD => by
      obtain ⟨e1, e2, e3, e4⟩ := HAN.out
      have h := implDo_any la sa oa lc sc oc ln sn on 0 0 0 1 L S O ⟨k, n, t, d⟩ W hD HK.out HLN.out HSN.out HON.out HCP.out.1 HCP.out.2 (by simp only; omega) (by simp only; omega) (by simp only; omega) e1 (by rw [e2]; exact HXN.out.1) (by rw [e3]; exact HXN.out.2.1) (by rw [e4]; exact HXN.out.2.2)
      rw [e2, e3, e4] at h
      exact h
    have SO : Hid (∀ W, DAt W la sa oa L S O → Calls Try.prog 15 #[.agg #[.slice la ln lc, .slice sa sn sc, .slice oa on oc], .agg #[.int .i64 k, .string n, .string t, .string d]] W fun e w' => ∃ a1 c1 a2 c2 a3 c3, e = .returned (.tuple #[.agg #[.slice a1 0 c1, .slice a2 0 c2, .slice a3 0 c3], .int .i64 1]) ∧ Below W.heap.size W w' ∧ DA w' W.heap.size (.slice a1 0 c1) (.slice a2 0 c2) (.slice a3 0 c3) [] [] []) := fun W hD => by
      obtain ⟨e1, e2, e3, e4⟩ := HAN.out
      have h := specDo_any la sa oa lc sc oc ln sn on 0 0 0 1 L S O ⟨k, n, t, d⟩ W hD HK.out HLN.out HSN.out HON.out (by simp only; omega) (by simp only; omega) (by simp only; omega) e1 (by rw [e2]; exact HXN.out.1) (by rw [e3]; exact HXN.out.2.1) (by rw [e4]; exact HXN.out.2.2)
      rw [e2, e3, e4] at h
      exact h
    have hb2 : Below w1.heap.size w1 ((w1.alloc (.cells #[.slice la ln lc, .slice sa sn sc, .slice oa on oc] 27)).alloc (.cells #[.int .i64 k, .string n, .string t, .string d] 36)) := ((Below.refl _ _).alloc (Nat.le_refl _) _).alloc (by simp) _
    have B2 : Hid (Below w.heap.size w ((w1.alloc (.cells #[.slice la ln lc, .slice sa sn sc, .slice oa on oc] 27)).alloc (.cells #[.int .i64 k, .string n, .string t, .string d] 36))) := B1.out.trans (hb2.mono B1.out.size)
    have A2 : Hid (DAt ((w1.alloc (.cells #[.slice la ln lc, .slice sa sn sc, .slice oa on oc] 27)).alloc (.cells #[.int .i64 k, .string n, .string t, .string d] 36)) la sa oa L S O) := A1.out.below hb2
    clear B1 A1
    have M2 : Hid (((w1.alloc (.cells #[.slice la ln lc, .slice sa sn sc, .slice oa on oc] 27)).alloc (.cells #[.int .i64 k, .string n, .string t, .string d] 36)).heap[w1.heap.size]? = some (.cells #[.slice la ln lc, .slice sa sn sc, .slice oa on oc] 27 (0, 0))) := heap_alloc2_old _ _ _
    have Y2 : Hid (((w1.alloc (.cells #[.slice la ln lc, .slice sa sn sc, .slice oa on oc] 27)).alloc (.cells #[.int .i64 k, .string n, .string t, .string d] 36)).heap[w1.heap.size + 1]? = some (.cells #[.int .i64 k, .string n, .string t, .string d] 36 (0, 0))) := heap_alloc2_new _ _ _
    clear hb2
    obtain ⟨zm2_0, zm2_1, zm2_2⟩ := cells3 M2.out
    obtain ⟨zy2_0, zy2_1, zy2_2, zy2_3⟩ := cells4 Y2.out
    go_wp2_with fail
    obtain ⟨i3, HI3⟩ : ∃ i, Hid (w1.heap.size = i) := ⟨_, rfl⟩
    rw [HI3.out] at M2 Y2 ⊢
    generalize ((w1.alloc (.cells #[.slice la ln lc, .slice sa sn sc, .slice oa on oc] 27)).alloc (.cells #[.int .i64 k, .string n, .string t, .string d] 36)) = w2 at *
    clear HI3
    refine (ID.out w2 A2.out).mono ?_
    rintro e w3 ⟨a1, c1, a2, c2, a3, c3, rfl, hb, hda⟩
    have B3 : Hid (Below w.heap.size w w3) := B2.out.trans (hb.mono B2.out.size)
    have A3 : Hid (DAt w3 la sa oa L S O) := A2.out.below hb
    have M3 : Hid (w3.heap[i3]? = some (.cells #[.slice la ln lc, .slice sa sn sc, .slice oa on oc] 27 (0, 0))) := below_row hb (row_lt M2.out) M2.out
    have Y3 : Hid (w3.heap[i3 + 1]? = some (.cells #[.int .i64 k, .string n, .string t, .string d] 36 (0, 0))) := below_row hb (row_lt Y2.out) Y2.out
    clear B2 A2 M2 Y2
    clear zm2_0 zm2_1 zm2_2 zy2_0 zy2_1 zy2_2 zy2_3
    have P3 : Hid (DA w3 w2.heap.size (.slice a1 0 c1) (.slice a2 0 c2) (.slice a3 0 c3) [] [] []) := hda
    clear hb hda
    have hb : Below w3.heap.size w3 (w3.alloc (.cells #[.slice a1 0 c1, .slice a2 0 c2, .slice a3 0 c3] 27)) := (Below.refl _ _).alloc (Nat.le_refl _) _
    have B4 : Hid (Below w.heap.size w (w3.alloc (.cells #[.slice a1 0 c1, .slice a2 0 c2, .slice a3 0 c3] 27))) := B3.out.trans (hb.mono B3.out.size)
    have A4 : Hid (DAt (w3.alloc (.cells #[.slice a1 0 c1, .slice a2 0 c2, .slice a3 0 c3] 27)) la sa oa L S O) := A3.out.below hb
    have M4 : Hid ((w3.alloc (.cells #[.slice a1 0 c1, .slice a2 0 c2, .slice a3 0 c3] 27)).heap[i3]? = some (.cells #[.slice la ln lc, .slice sa sn sc, .slice oa on oc] 27 (0, 0))) := below_row hb (row_lt M3.out) M3.out
    have Y4 : Hid ((w3.alloc (.cells #[.slice a1 0 c1, .slice a2 0 c2, .slice a3 0 c3] 27)).heap[i3 + 1]? = some (.cells #[.int .i64 k, .string n, .string t, .string d] 36 (0, 0))) := below_row hb (row_lt Y3.out) Y3.out
    have P4 : Hid (DA (w3.alloc (.cells #[.slice a1 0 c1, .slice a2 0 c2, .slice a3 0 c3] 27)) w2.heap.size (.slice a1 0 c1) (.slice a2 0 c2) (.slice a3 0 c3) [] [] []) := P3.out.below hb
    clear B3 A3 M3 Y3 P3
    have N4 : Hid ((w3.alloc (.cells #[.slice a1 0 c1, .slice a2 0 c2, .slice a3 0 c3] 27)).heap[w3.heap.size]? = some (.cells #[.slice a1 0 c1, .slice a2 0 c2, .slice a3 0 c3] 27 (0, 0))) := heap_alloc_new _ _
    clear hb
    obtain ⟨zm4_0, zm4_1, zm4_2⟩ := cells3 M4.out
    obtain ⟨zy4_0, zy4_1, zy4_2, zy4_3⟩ := cells4 Y4.out
    go_wp2_with fail
    obtain ⟨i5, HIi5⟩ : ∃ i, Hid (w3.heap.size = i) := ⟨_, rfl⟩
    rw [HIi5.out] at N4 ⊢
    generalize (w3.alloc (.cells #[.slice a1 0 c1, .slice a2 0 c2, .slice a3 0 c3] 27)) = w4 at *
    clear HIi5
    refine (SO.out w4 A4.out).mono ?_
    rintro e w5 ⟨b1, e1, b2, e2, b3, e3, rfl, hb, -⟩
    have B5 : Hid (Below w.heap.size w w5) := B4.out.trans (hb.mono B4.out.size)
    have A5 : Hid (DAt w5 la sa oa L S O) := A4.out.below hb
    have M5 : Hid (w5.heap[i3]? = some (.cells #[.slice la ln lc, .slice sa sn sc, .slice oa on oc] 27 (0, 0))) := below_row hb (row_lt M4.out) M4.out
    have Y5 : Hid (w5.heap[i3 + 1]? = some (.cells #[.int .i64 k, .string n, .string t, .string d] 36 (0, 0))) := below_row hb (row_lt Y4.out) Y4.out
    have P5 : Hid (DA w5 w2.heap.size (.slice a1 0 c1) (.slice a2 0 c2) (.slice a3 0 c3) [] [] []) := P4.out.below hb
    have N5 : Hid (w5.heap[i5]? = some (.cells #[.slice a1 0 c1, .slice a2 0 c2, .slice a3 0 c3] 27 (0, 0))) := below_row hb (row_lt N4.out) N4.out
    clear B4 A4 M4 Y4 P4 N4
    clear zm4_0 zm4_1 zm4_2 zy4_0 zy4_1 zy4_2 zy4_3
    clear hb
    have hb : Below w5.heap.size w5 (w5.alloc (.cells #[.slice b1 0 e1, .slice b2 0 e2, .slice b3 0 e3] 27)) := (Below.refl _ _).alloc (Nat.le_refl _) _
    have B6 : Hid (Below w.heap.size w (w5.alloc (.cells #[.slice b1 0 e1, .slice b2 0 e2, .slice b3 0 e3] 27))) := B5.out.trans (hb.mono B5.out.size)
    have A6 : Hid (DAt (w5.alloc (.cells #[.slice b1 0 e1, .slice b2 0 e2, .slice b3 0 e3] 27)) la sa oa L S O) := A5.out.below hb
    have M6 : Hid ((w5.alloc (.cells #[.slice b1 0 e1, .slice b2 0 e2, .slice b3 0 e3] 27)).heap[i3]? = some (.cells #[.slice la ln lc, .slice sa sn sc, .slice oa on oc] 27 (0, 0))) := below_row hb (row_lt M5.out) M5.out
    have Y6 : Hid ((w5.alloc (.cells #[.slice b1 0 e1, .slice b2 0 e2, .slice b3 0 e3] 27)).heap[i3 + 1]? = some (.cells #[.int .i64 k, .string n, .string t, .string d] 36 (0, 0))) := below_row hb (row_lt Y5.out) Y5.out
    have P6 : Hid (DA (w5.alloc (.cells #[.slice b1 0 e1, .slice b2 0 e2, .slice b3 0 e3] 27)) w2.heap.size (.slice a1 0 c1) (.slice a2 0 c2) (.slice a3 0 c3) [] [] []) := P5.out.below hb
    have N6 : Hid ((w5.alloc (.cells #[.slice b1 0 e1, .slice b2 0 e2, .slice b3 0 e3] 27)).heap[i5]? = some (.cells #[.slice a1 0 c1, .slice a2 0 c2, .slice a3 0 c3] 27 (0, 0))) := below_row hb (row_lt N5.out) N5.out
    clear B5 A5 M5 Y5 P5 N5
    have U6 : Hid ((w5.alloc (.cells #[.slice b1 0 e1, .slice b2 0 e2, .slice b3 0 e3] 27)).heap[w5.heap.size]? = some (.cells #[.slice b1 0 e1, .slice b2 0 e2, .slice b3 0 e3] 27 (0, 0))) := heap_alloc_new _ _
    clear hb
    obtain ⟨zm6_0, zm6_1, zm6_2⟩ := cells3 M6.out
    go_wp2_with fail
    obtain ⟨i7, HIi7⟩ : ∃ i, Hid (w5.heap.size = i) := ⟨_, rfl⟩
    rw [HIi7.out] at U6 ⊢
    generalize (w5.alloc (.cells #[.slice b1 0 e1, .slice b2 0 e2, .slice b3 0 e3] 27)) = w6 at *
    clear HIi7
    refine (SD.out w6 _ A6.out hd).mono ?_
    rintro e w7 ⟨rfl, hb⟩
    have B7 : Hid (Below w.heap.size w w7) := B6.out.trans (hb.mono B6.out.size)
    have A7 : Hid (DAt w7 la sa oa L S O) := A6.out.below hb
    have M7 : Hid (w7.heap[i3]? = some (.cells #[.slice la ln lc, .slice sa sn sc, .slice oa on oc] 27 (0, 0))) := below_row hb (row_lt M6.out) M6.out
    have Y7 : Hid (w7.heap[i3 + 1]? = some (.cells #[.int .i64 k, .string n, .string t, .string d] 36 (0, 0))) := below_row hb (row_lt Y6.out) Y6.out
    have P7 : Hid (DA w7 w2.heap.size (.slice a1 0 c1) (.slice a2 0 c2) (.slice a3 0 c3) [] [] []) := P6.out.below hb
    have N7 : Hid (w7.heap[i5]? = some (.cells #[.slice a1 0 c1, .slice a2 0 c2, .slice a3 0 c3] 27 (0, 0))) := below_row hb (row_lt N6.out) N6.out
    have U7 : Hid (w7.heap[i7]? = some (.cells #[.slice b1 0 e1, .slice b2 0 e2, .slice b3 0 e3] 27 (0, 0))) := below_row hb (row_lt U6.out) U6.out
    clear B6 A6 M6 Y6 P6 N6 U6
    clear zm6_0 zm6_1 zm6_2
    clear hb
    go_wp2
    go_ret
    exact ⟨rfl, B7.out⟩
  obtain ⟨f1, f2, f3, f4⟩ := do_right (o := ⟨k, n, t, d⟩) hd
  by_cases hkd0 : actK L O ⟨k, n, t, d⟩ = 0
  · have hkind := kind_frm (act_zero hkd0).1
    have HDX : Hid (dskB (actL L O ⟨k, n, t, d⟩) S (actO L O ⟨k, n, t, d⟩) = true) := dsk_act hd hkd0
    have HKX : Hid (DskOk (actL L O ⟨k, n, t, d⟩) S (actO L O ⟨k, n, t, d⟩)) := dok_act HK.out hd hkd0 (by simp only; omega) (by simp only; omega) (by simp only; omega)
    have HXO : Hid ((actO L O ⟨k, n, t, d⟩).length = on + 1) := by show _ = _; rw [actO_len hkd0, HON.out]
    have HK0 : Hid (actK L O ⟨k, n, t, d⟩ = 0) := hkd0
    obtain ⟨OL, HOL⟩ : ∃ x, Hid (datF L n = x) := ⟨_, rfl⟩
    have hol : OL.size ≤ 200000 := by
      rw [← HOL.out]
      have h1 := datF_le L n
      have h2 := (filB_true.1 (dsk_parts hd).1).2.2
      rw [totTo_all] at h2
      omega
    have RO : Hid (∀ W, DAt W la sa oa L S O → Calls Try.prog 16 #[.agg #[.slice la ln lc, .slice sa sn sc, .slice oa on oc], .string n] W fun e w' => e = .returned (.tuple #[.string OL, .bool (hasF L n)]) ∧ Below W.heap.size W w') := fun W hD => by
      have h := implRead_any la sa oa lc sc oc ln sn on L S O n W hD HK.out HLN.out HSN.out HON.out
      rw [(rd_right hd n).1, (rd_right hd n).2, HOL.out] at h
      exact h
    obtain ⟨hs9, HH9⟩ : ∃ x, Hid (hasF L n = x) := ⟨_, rfl⟩
    rw [HH9.out] at RO
    clear HH9
    rcases hkind with hk1 | hk1 | hk1
    · subst hk1
      have HF : Hid (datF (actL L O ⟨1, n, t, d⟩) n = OL ++ d ∧ hasF (actL L O ⟨1, n, t, d⟩) n = true) := by have := done1 HK0.out; rw [HOL.out] at this; exact this
      generalize actL L O ⟨1, n, t, d⟩ = XL at *
      generalize actO L O ⟨1, n, t, d⟩ = XO at *
      rw [HK0.out] at f1
      have HAN : Hid (dK L S O ⟨1, n, t, d⟩ = 0 ∧ dL L S O ⟨1, n, t, d⟩ = XL ∧ dS L S O = S ∧ dO L S O ⟨1, n, t, d⟩ = XO) := ⟨f1, f2, f3, f4⟩
      obtain ⟨x1, HX1⟩ : ∃ n, Hid (XL.length = n) := ⟨_, rfl⟩
      have HXN : Hid (XL.length = x1 ∧ S.length = sn ∧ XO.length = on + 1) := ⟨HX1.out, HSN.out, HXO.out⟩
      clear f1 f2 f3 f4 hkd0 HK0
      have RX : Hid (∀ (m : ByteArray) W a1 c1 a2 c2 a3 c3, DAt W a1 a2 a3 XL S XO → Calls Try.prog 16 #[.agg #[.slice a1 x1 c1, .slice a2 sn c2, .slice a3 (on + 1) c3], .string m] W fun e w' => e = .returned (.tuple #[.string (datF XL m), .bool (hasF XL m)]) ∧ Below W.heap.size W w') := fun m W a1 c1 a2 c2 a3 c3 hD => by
        have h := implRead_any a1 a2 a3 c1 c2 c3 x1 sn (on + 1) XL S XO m W hD HKX.out HX1.out HSN.out HXO.out
        rw [(rd_right HDX.out m).1, (rd_right HDX.out m).2] at h
        exact h
      have IX : Hid (∀ W a1 c1 a2 c2 a3 c3, DAt W a1 a2 a3 XL S XO → Calls Try.prog 8 #[.agg #[.slice a1 x1 c1, .slice a2 sn c2, .slice a3 (on + 1) c3]] W fun e w' => e = .returned (.bool true) ∧ Below W.heap.size W w') := fun W a1 c1 a2 c2 a3 c3 hD => by
        have h := implDisk_any a1 a2 a3 c1 c2 c3 x1 sn (on + 1) XL S XO W hD HKX.out HX1.out HSN.out HXO.out
        rw [HDX.out] at h
        exact h
      have RN : Hid (∀ W a1 c1 a2 c2 a3 c3, DAt W a1 a2 a3 XL S XO → Calls Try.prog 16 #[.agg #[.slice a1 x1 c1, .slice a2 sn c2, .slice a3 (on + 1) c3], .string n] W fun e w' => e = .returned (.tuple #[.string (OL ++ d), .bool true]) ∧ Below W.heap.size W w') := by have h := RX.out n; rw [HF.out.1, HF.out.2] at h; exact h
      clear RX HF HOL
      have ID : Hid (∀ W, DAt W la sa oa L S O → Calls Try.prog 14 #[.agg #[.slice la ln lc, .slice sa sn sc, .slice oa on oc], .agg #[.int .i64 1, .string n, .string t, .string d]] W fun e w' => ∃ a1 c1 a2 c2 a3 c3, e = .returned (.tuple #[.agg #[.slice a1 x1 c1, .slice a2 sn c2, .slice a3 (on + 1) c3], .int .i64 0]) ∧ Below W.heap.size W w' ∧ DA w' W.heap.size (.slice a1 x1 c1) (.slice a2 sn c2) (.slice a3 (on + 1) c3) XL S XO) := fun W hD => by
        obtain ⟨e1, e2, e3, e4⟩ := HAN.out
        have h := implDo_any la sa oa lc sc oc ln sn on x1 sn (on + 1) 0 L S O ⟨1, n, t, d⟩ W hD HK.out HLN.out HSN.out HON.out HCP.out.1 HCP.out.2 (by simp only; omega) (by simp only; omega) (by simp only; omega) e1 (by rw [e2]; exact HXN.out.1) (by rw [e3]; exact HXN.out.2.1) (by rw [e4]; exact HXN.out.2.2)
        rw [e2, e3, e4] at h
        exact h
      have SO : Hid (∀ W, DAt W la sa oa L S O → Calls Try.prog 15 #[.agg #[.slice la ln lc, .slice sa sn sc, .slice oa on oc], .agg #[.int .i64 1, .string n, .string t, .string d]] W fun e w' => ∃ a1 c1 a2 c2 a3 c3, e = .returned (.tuple #[.agg #[.slice a1 x1 c1, .slice a2 sn c2, .slice a3 (on + 1) c3], .int .i64 0]) ∧ Below W.heap.size W w' ∧ DA w' W.heap.size (.slice a1 x1 c1) (.slice a2 sn c2) (.slice a3 (on + 1) c3) XL S XO) := fun W hD => by
        obtain ⟨e1, e2, e3, e4⟩ := HAN.out
        have h := specDo_any la sa oa lc sc oc ln sn on x1 sn (on + 1) 0 L S O ⟨1, n, t, d⟩ W hD HK.out HLN.out HSN.out HON.out (by simp only; omega) (by simp only; omega) (by simp only; omega) e1 (by rw [e2]; exact HXN.out.1) (by rw [e3]; exact HXN.out.2.1) (by rw [e4]; exact HXN.out.2.2)
        rw [e2, e3, e4] at h
        exact h
      have hb2 : Below w1.heap.size w1 ((w1.alloc (.cells #[.slice la ln lc, .slice sa sn sc, .slice oa on oc] 27)).alloc (.cells #[.int .i64 1, .string n, .string t, .string d] 36)) := ((Below.refl _ _).alloc (Nat.le_refl _) _).alloc (by simp) _
      have B2 : Hid (Below w.heap.size w ((w1.alloc (.cells #[.slice la ln lc, .slice sa sn sc, .slice oa on oc] 27)).alloc (.cells #[.int .i64 1, .string n, .string t, .string d] 36))) := B1.out.trans (hb2.mono B1.out.size)
      have A2 : Hid (DAt ((w1.alloc (.cells #[.slice la ln lc, .slice sa sn sc, .slice oa on oc] 27)).alloc (.cells #[.int .i64 1, .string n, .string t, .string d] 36)) la sa oa L S O) := A1.out.below hb2
      clear B1 A1
      have M2 : Hid (((w1.alloc (.cells #[.slice la ln lc, .slice sa sn sc, .slice oa on oc] 27)).alloc (.cells #[.int .i64 1, .string n, .string t, .string d] 36)).heap[w1.heap.size]? = some (.cells #[.slice la ln lc, .slice sa sn sc, .slice oa on oc] 27 (0, 0))) := heap_alloc2_old _ _ _
      have Y2 : Hid (((w1.alloc (.cells #[.slice la ln lc, .slice sa sn sc, .slice oa on oc] 27)).alloc (.cells #[.int .i64 1, .string n, .string t, .string d] 36)).heap[w1.heap.size + 1]? = some (.cells #[.int .i64 1, .string n, .string t, .string d] 36 (0, 0))) := heap_alloc2_new _ _ _
      clear hb2
      obtain ⟨zm2_0, zm2_1, zm2_2⟩ := cells3 M2.out
      obtain ⟨zy2_0, zy2_1, zy2_2, zy2_3⟩ := cells4 Y2.out
      go_wp2_with fail
      obtain ⟨i3, HI3⟩ : ∃ i, Hid (w1.heap.size = i) := ⟨_, rfl⟩
      rw [HI3.out] at M2 Y2 ⊢
      generalize ((w1.alloc (.cells #[.slice la ln lc, .slice sa sn sc, .slice oa on oc] 27)).alloc (.cells #[.int .i64 1, .string n, .string t, .string d] 36)) = w2 at *
      clear HI3
      refine (ID.out w2 A2.out).mono ?_
      rintro e w3 ⟨a1, c1, a2, c2, a3, c3, rfl, hb, hda⟩
      have B3 : Hid (Below w.heap.size w w3) := B2.out.trans (hb.mono B2.out.size)
      have A3 : Hid (DAt w3 la sa oa L S O) := A2.out.below hb
      have M3 : Hid (w3.heap[i3]? = some (.cells #[.slice la ln lc, .slice sa sn sc, .slice oa on oc] 27 (0, 0))) := below_row hb (row_lt M2.out) M2.out
      have Y3 : Hid (w3.heap[i3 + 1]? = some (.cells #[.int .i64 1, .string n, .string t, .string d] 36 (0, 0))) := below_row hb (row_lt Y2.out) Y2.out
      clear B2 A2 M2 Y2
      clear zm2_0 zm2_1 zm2_2 zy2_0 zy2_1 zy2_2 zy2_3
      have P3 : Hid (DA w3 w2.heap.size (.slice a1 x1 c1) (.slice a2 sn c2) (.slice a3 (on + 1) c3) XL S XO) := hda
      clear hb hda
      have hb : Below w3.heap.size w3 (w3.alloc (.cells #[.slice a1 x1 c1, .slice a2 sn c2, .slice a3 (on + 1) c3] 27)) := (Below.refl _ _).alloc (Nat.le_refl _) _
      have B4 : Hid (Below w.heap.size w (w3.alloc (.cells #[.slice a1 x1 c1, .slice a2 sn c2, .slice a3 (on + 1) c3] 27))) := B3.out.trans (hb.mono B3.out.size)
      have A4 : Hid (DAt (w3.alloc (.cells #[.slice a1 x1 c1, .slice a2 sn c2, .slice a3 (on + 1) c3] 27)) la sa oa L S O) := A3.out.below hb
      have M4 : Hid ((w3.alloc (.cells #[.slice a1 x1 c1, .slice a2 sn c2, .slice a3 (on + 1) c3] 27)).heap[i3]? = some (.cells #[.slice la ln lc, .slice sa sn sc, .slice oa on oc] 27 (0, 0))) := below_row hb (row_lt M3.out) M3.out
      have Y4 : Hid ((w3.alloc (.cells #[.slice a1 x1 c1, .slice a2 sn c2, .slice a3 (on + 1) c3] 27)).heap[i3 + 1]? = some (.cells #[.int .i64 1, .string n, .string t, .string d] 36 (0, 0))) := below_row hb (row_lt Y3.out) Y3.out
      have P4 : Hid (DA (w3.alloc (.cells #[.slice a1 x1 c1, .slice a2 sn c2, .slice a3 (on + 1) c3] 27)) w2.heap.size (.slice a1 x1 c1) (.slice a2 sn c2) (.slice a3 (on + 1) c3) XL S XO) := P3.out.below hb
      clear B3 A3 M3 Y3 P3
      have N4 : Hid ((w3.alloc (.cells #[.slice a1 x1 c1, .slice a2 sn c2, .slice a3 (on + 1) c3] 27)).heap[w3.heap.size]? = some (.cells #[.slice a1 x1 c1, .slice a2 sn c2, .slice a3 (on + 1) c3] 27 (0, 0))) := heap_alloc_new _ _
      clear hb
      obtain ⟨zm4_0, zm4_1, zm4_2⟩ := cells3 M4.out
      obtain ⟨zy4_0, zy4_1, zy4_2, zy4_3⟩ := cells4 Y4.out
      go_wp2_with fail
      obtain ⟨i5, HIi5⟩ : ∃ i, Hid (w3.heap.size = i) := ⟨_, rfl⟩
      rw [HIi5.out] at N4 ⊢
      generalize (w3.alloc (.cells #[.slice a1 x1 c1, .slice a2 sn c2, .slice a3 (on + 1) c3] 27)) = w4 at *
      clear HIi5
      refine (SO.out w4 A4.out).mono ?_
      rintro e w5 ⟨b1, e1, b2, e2, b3, e3, rfl, hb, -⟩
      have B5 : Hid (Below w.heap.size w w5) := B4.out.trans (hb.mono B4.out.size)
      have A5 : Hid (DAt w5 la sa oa L S O) := A4.out.below hb
      have M5 : Hid (w5.heap[i3]? = some (.cells #[.slice la ln lc, .slice sa sn sc, .slice oa on oc] 27 (0, 0))) := below_row hb (row_lt M4.out) M4.out
      have Y5 : Hid (w5.heap[i3 + 1]? = some (.cells #[.int .i64 1, .string n, .string t, .string d] 36 (0, 0))) := below_row hb (row_lt Y4.out) Y4.out
      have P5 : Hid (DA w5 w2.heap.size (.slice a1 x1 c1) (.slice a2 sn c2) (.slice a3 (on + 1) c3) XL S XO) := P4.out.below hb
      have N5 : Hid (w5.heap[i5]? = some (.cells #[.slice a1 x1 c1, .slice a2 sn c2, .slice a3 (on + 1) c3] 27 (0, 0))) := below_row hb (row_lt N4.out) N4.out
      clear B4 A4 M4 Y4 P4 N4
      clear zm4_0 zm4_1 zm4_2 zy4_0 zy4_1 zy4_2 zy4_3
      clear hb
      have hb : Below w5.heap.size w5 (w5.alloc (.cells #[.slice b1 x1 e1, .slice b2 sn e2, .slice b3 (on + 1) e3] 27)) := (Below.refl _ _).alloc (Nat.le_refl _) _
      have B6 : Hid (Below w.heap.size w (w5.alloc (.cells #[.slice b1 x1 e1, .slice b2 sn e2, .slice b3 (on + 1) e3] 27))) := B5.out.trans (hb.mono B5.out.size)
      have A6 : Hid (DAt (w5.alloc (.cells #[.slice b1 x1 e1, .slice b2 sn e2, .slice b3 (on + 1) e3] 27)) la sa oa L S O) := A5.out.below hb
      have M6 : Hid ((w5.alloc (.cells #[.slice b1 x1 e1, .slice b2 sn e2, .slice b3 (on + 1) e3] 27)).heap[i3]? = some (.cells #[.slice la ln lc, .slice sa sn sc, .slice oa on oc] 27 (0, 0))) := below_row hb (row_lt M5.out) M5.out
      have Y6 : Hid ((w5.alloc (.cells #[.slice b1 x1 e1, .slice b2 sn e2, .slice b3 (on + 1) e3] 27)).heap[i3 + 1]? = some (.cells #[.int .i64 1, .string n, .string t, .string d] 36 (0, 0))) := below_row hb (row_lt Y5.out) Y5.out
      have P6 : Hid (DA (w5.alloc (.cells #[.slice b1 x1 e1, .slice b2 sn e2, .slice b3 (on + 1) e3] 27)) w2.heap.size (.slice a1 x1 c1) (.slice a2 sn c2) (.slice a3 (on + 1) c3) XL S XO) := P5.out.below hb
      have N6 : Hid ((w5.alloc (.cells #[.slice b1 x1 e1, .slice b2 sn e2, .slice b3 (on + 1) e3] 27)).heap[i5]? = some (.cells #[.slice a1 x1 c1, .slice a2 sn c2, .slice a3 (on + 1) c3] 27 (0, 0))) := below_row hb (row_lt N5.out) N5.out
      clear B5 A5 M5 Y5 P5 N5
      have U6 : Hid ((w5.alloc (.cells #[.slice b1 x1 e1, .slice b2 sn e2, .slice b3 (on + 1) e3] 27)).heap[w5.heap.size]? = some (.cells #[.slice b1 x1 e1, .slice b2 sn e2, .slice b3 (on + 1) e3] 27 (0, 0))) := heap_alloc_new _ _
      clear hb
      obtain ⟨zm6_0, zm6_1, zm6_2⟩ := cells3 M6.out
      go_wp2_with fail
      obtain ⟨i7, HIi7⟩ : ∃ i, Hid (w5.heap.size = i) := ⟨_, rfl⟩
      rw [HIi7.out] at U6 ⊢
      generalize (w5.alloc (.cells #[.slice b1 x1 e1, .slice b2 sn e2, .slice b3 (on + 1) e3] 27)) = w6 at *
      clear HIi7
      refine (SD.out w6 _ A6.out hd).mono ?_
      rintro e w7 ⟨rfl, hb⟩
      have B7 : Hid (Below w.heap.size w w7) := B6.out.trans (hb.mono B6.out.size)
      have A7 : Hid (DAt w7 la sa oa L S O) := A6.out.below hb
      have M7 : Hid (w7.heap[i3]? = some (.cells #[.slice la ln lc, .slice sa sn sc, .slice oa on oc] 27 (0, 0))) := below_row hb (row_lt M6.out) M6.out
      have Y7 : Hid (w7.heap[i3 + 1]? = some (.cells #[.int .i64 1, .string n, .string t, .string d] 36 (0, 0))) := below_row hb (row_lt Y6.out) Y6.out
      have P7 : Hid (DA w7 w2.heap.size (.slice a1 x1 c1) (.slice a2 sn c2) (.slice a3 (on + 1) c3) XL S XO) := P6.out.below hb
      have N7 : Hid (w7.heap[i5]? = some (.cells #[.slice a1 x1 c1, .slice a2 sn c2, .slice a3 (on + 1) c3] 27 (0, 0))) := below_row hb (row_lt N6.out) N6.out
      have U7 : Hid (w7.heap[i7]? = some (.cells #[.slice b1 x1 e1, .slice b2 sn e2, .slice b3 (on + 1) e3] 27 (0, 0))) := below_row hb (row_lt U6.out) U6.out
      clear B6 A6 M6 Y6 P6 N6 U6
      clear zm6_0 zm6_1 zm6_2
      clear hb
      obtain ⟨zn7_0, zn7_1, zn7_2⟩ := cells3 N7.out
      obtain ⟨zy7_0, zy7_1, zy7_2, zy7_3⟩ := cells4 Y7.out
      go_wp2_with fail
      refine (RN.out w7 _ _ _ _ _ _ (P7.out.at HX1.out HSN.out HXO.out)).mono ?_
      rintro e w8 ⟨rfl, hb⟩
      have B8 : Hid (Below w.heap.size w w8) := B7.out.trans (hb.mono B7.out.size)
      have A8 : Hid (DAt w8 la sa oa L S O) := A7.out.below hb
      have M8 : Hid (w8.heap[i3]? = some (.cells #[.slice la ln lc, .slice sa sn sc, .slice oa on oc] 27 (0, 0))) := below_row hb (row_lt M7.out) M7.out
      have Y8 : Hid (w8.heap[i3 + 1]? = some (.cells #[.int .i64 1, .string n, .string t, .string d] 36 (0, 0))) := below_row hb (row_lt Y7.out) Y7.out
      have P8 : Hid (DA w8 w2.heap.size (.slice a1 x1 c1) (.slice a2 sn c2) (.slice a3 (on + 1) c3) XL S XO) := P7.out.below hb
      have N8 : Hid (w8.heap[i5]? = some (.cells #[.slice a1 x1 c1, .slice a2 sn c2, .slice a3 (on + 1) c3] 27 (0, 0))) := below_row hb (row_lt N7.out) N7.out
      have U8 : Hid (w8.heap[i7]? = some (.cells #[.slice b1 x1 e1, .slice b2 sn e2, .slice b3 (on + 1) e3] 27 (0, 0))) := below_row hb (row_lt U7.out) U7.out
      clear B7 A7 M7 Y7 P7 N7 U7
      clear zn7_0 zn7_1 zn7_2 zy7_0 zy7_1 zy7_2 zy7_3
      clear hb
      obtain ⟨zm8_0, zm8_1, zm8_2⟩ := cells3 M8.out
      obtain ⟨zy8_0, zy8_1, zy8_2, zy8_3⟩ := cells4 Y8.out
      go_wp2_with fail
      refine (RO.out w8 A8.out).mono ?_
      rintro e w9 ⟨rfl, hb⟩
      have B9 : Hid (Below w.heap.size w w9) := B8.out.trans (hb.mono B8.out.size)
      have A9 : Hid (DAt w9 la sa oa L S O) := A8.out.below hb
      have M9 : Hid (w9.heap[i3]? = some (.cells #[.slice la ln lc, .slice sa sn sc, .slice oa on oc] 27 (0, 0))) := below_row hb (row_lt M8.out) M8.out
      have Y9 : Hid (w9.heap[i3 + 1]? = some (.cells #[.int .i64 1, .string n, .string t, .string d] 36 (0, 0))) := below_row hb (row_lt Y8.out) Y8.out
      have P9 : Hid (DA w9 w2.heap.size (.slice a1 x1 c1) (.slice a2 sn c2) (.slice a3 (on + 1) c3) XL S XO) := P8.out.below hb
      have N9 : Hid (w9.heap[i5]? = some (.cells #[.slice a1 x1 c1, .slice a2 sn c2, .slice a3 (on + 1) c3] 27 (0, 0))) := below_row hb (row_lt N8.out) N8.out
      have U9 : Hid (w9.heap[i7]? = some (.cells #[.slice b1 x1 e1, .slice b2 sn e2, .slice b3 (on + 1) e3] 27 (0, 0))) := below_row hb (row_lt U8.out) U8.out
      clear B8 A8 M8 Y8 P8 N8 U8
      clear zm8_0 zm8_1 zm8_2 zy8_0 zy8_1 zy8_2 zy8_3
      clear hb
      obtain ⟨zn9_0, zn9_1, zn9_2⟩ := cells3 N9.out
      obtain ⟨zy9_0, zy9_1, zy9_2, zy9_3⟩ := cells4 Y9.out
      go_wp2_with fail
      refine (IX.out w9 _ _ _ _ _ _ (P9.out.at HX1.out HSN.out HXO.out)).mono ?_
      rintro e w11 ⟨rfl, hb⟩
      have B11 : Hid (Below w.heap.size w w11) := B9.out.trans (hb.mono B9.out.size)
      have A11 : Hid (DAt w11 la sa oa L S O) := A9.out.below hb
      have M11 : Hid (w11.heap[i3]? = some (.cells #[.slice la ln lc, .slice sa sn sc, .slice oa on oc] 27 (0, 0))) := below_row hb (row_lt M9.out) M9.out
      have Y11 : Hid (w11.heap[i3 + 1]? = some (.cells #[.int .i64 1, .string n, .string t, .string d] 36 (0, 0))) := below_row hb (row_lt Y9.out) Y9.out
      have P11 : Hid (DA w11 w2.heap.size (.slice a1 x1 c1) (.slice a2 sn c2) (.slice a3 (on + 1) c3) XL S XO) := P9.out.below hb
      have N11 : Hid (w11.heap[i5]? = some (.cells #[.slice a1 x1 c1, .slice a2 sn c2, .slice a3 (on + 1) c3] 27 (0, 0))) := below_row hb (row_lt N9.out) N9.out
      have U11 : Hid (w11.heap[i7]? = some (.cells #[.slice b1 x1 e1, .slice b2 sn e2, .slice b3 (on + 1) e3] 27 (0, 0))) := below_row hb (row_lt U9.out) U9.out
      clear B9 A9 M9 Y9 P9 N9 U9
      clear zn9_0 zn9_1 zn9_2 zy9_0 zy9_1 zy9_2 zy9_3
      clear hb
      obtain ⟨zm11_0, zm11_1, zm11_2⟩ := cells3 M11.out
      obtain ⟨zn11_0, zn11_1, zn11_2⟩ := cells3 N11.out
      go_wp2_with fail
      refine (SM.out w11 _ _ _ _ _ S HSN.out bs' (P11.out.at HX1.out HSN.out HXO.out).s A11.out.s).mono ?_
      rintro e w12 ⟨rfl, hb⟩
      have B12 : Hid (Below w.heap.size w w12) := B11.out.trans (hb.mono B11.out.size)
      have A12 : Hid (DAt w12 la sa oa L S O) := A11.out.below hb
      have M12 : Hid (w12.heap[i3]? = some (.cells #[.slice la ln lc, .slice sa sn sc, .slice oa on oc] 27 (0, 0))) := below_row hb (row_lt M11.out) M11.out
      have Y12 : Hid (w12.heap[i3 + 1]? = some (.cells #[.int .i64 1, .string n, .string t, .string d] 36 (0, 0))) := below_row hb (row_lt Y11.out) Y11.out
      have P12 : Hid (DA w12 w2.heap.size (.slice a1 x1 c1) (.slice a2 sn c2) (.slice a3 (on + 1) c3) XL S XO) := P11.out.below hb
      have N12 : Hid (w12.heap[i5]? = some (.cells #[.slice a1 x1 c1, .slice a2 sn c2, .slice a3 (on + 1) c3] 27 (0, 0))) := below_row hb (row_lt N11.out) N11.out
      have U12 : Hid (w12.heap[i7]? = some (.cells #[.slice b1 x1 e1, .slice b2 sn e2, .slice b3 (on + 1) e3] 27 (0, 0))) := below_row hb (row_lt U11.out) U11.out
      clear B11 A11 M11 Y11 P11 N11 U11
      clear zm11_0 zm11_1 zm11_2 zn11_0 zn11_1 zn11_2
      clear hb
      obtain ⟨zm12_0, zm12_1, zm12_2⟩ := cells3 M12.out
      obtain ⟨zn12_0, zn12_1, zn12_2⟩ := cells3 N12.out
      have hwo : wrap64 ((on : Int) + 1) = (on : Int) + 1 := by unfold wrap64; omega
      go_wp2
      go_ret
      exact ⟨by simp, B12.out⟩
    · subst hk1
      have HF : Hid ((datF (actL L O ⟨2, n, t, d⟩) t = OL ∧ hasF (actL L O ⟨2, n, t, d⟩) t = true) ∧ hasF (actL L O ⟨2, n, t, d⟩) n = decide (t = n)) := by have := done2 HK0.out; rw [HOL.out] at this; exact this
      generalize actL L O ⟨2, n, t, d⟩ = XL at *
      generalize actO L O ⟨2, n, t, d⟩ = XO at *
      rw [HK0.out] at f1
      have HAN : Hid (dK L S O ⟨2, n, t, d⟩ = 0 ∧ dL L S O ⟨2, n, t, d⟩ = XL ∧ dS L S O = S ∧ dO L S O ⟨2, n, t, d⟩ = XO) := ⟨f1, f2, f3, f4⟩
      obtain ⟨x1, HX1⟩ : ∃ n, Hid (XL.length = n) := ⟨_, rfl⟩
      have HXN : Hid (XL.length = x1 ∧ S.length = sn ∧ XO.length = on + 1) := ⟨HX1.out, HSN.out, HXO.out⟩
      clear f1 f2 f3 f4 hkd0 HK0
      have RX : Hid (∀ (m : ByteArray) W a1 c1 a2 c2 a3 c3, DAt W a1 a2 a3 XL S XO → Calls Try.prog 16 #[.agg #[.slice a1 x1 c1, .slice a2 sn c2, .slice a3 (on + 1) c3], .string m] W fun e w' => e = .returned (.tuple #[.string (datF XL m), .bool (hasF XL m)]) ∧ Below W.heap.size W w') := fun m W a1 c1 a2 c2 a3 c3 hD => by
        have h := implRead_any a1 a2 a3 c1 c2 c3 x1 sn (on + 1) XL S XO m W hD HKX.out HX1.out HSN.out HXO.out
        rw [(rd_right HDX.out m).1, (rd_right HDX.out m).2] at h
        exact h
      have IX : Hid (∀ W a1 c1 a2 c2 a3 c3, DAt W a1 a2 a3 XL S XO → Calls Try.prog 8 #[.agg #[.slice a1 x1 c1, .slice a2 sn c2, .slice a3 (on + 1) c3]] W fun e w' => e = .returned (.bool true) ∧ Below W.heap.size W w') := fun W a1 c1 a2 c2 a3 c3 hD => by
        have h := implDisk_any a1 a2 a3 c1 c2 c3 x1 sn (on + 1) XL S XO W hD HKX.out HX1.out HSN.out HXO.out
        rw [HDX.out] at h
        exact h
      have RT : Hid (∀ W a1 c1 a2 c2 a3 c3, DAt W a1 a2 a3 XL S XO → Calls Try.prog 16 #[.agg #[.slice a1 x1 c1, .slice a2 sn c2, .slice a3 (on + 1) c3], .string t] W fun e w' => e = .returned (.tuple #[.string OL, .bool true]) ∧ Below W.heap.size W w') := by have h := RX.out t; rw [HF.out.1.1, HF.out.1.2] at h; exact h
      have RN0 : Hid (∀ W a1 c1 a2 c2 a3 c3, DAt W a1 a2 a3 XL S XO → Calls Try.prog 16 #[.agg #[.slice a1 x1 c1, .slice a2 sn c2, .slice a3 (on + 1) c3], .string n] W fun e w' => e = .returned (.tuple #[.string (datF XL n), .bool (decide (t = n))]) ∧ Below W.heap.size W w') := by have h := RX.out n; rw [HF.out.2] at h; exact h
      obtain ⟨s9, HS9⟩ : ∃ x, Hid (datF XL n = x) := ⟨_, rfl⟩
      obtain ⟨b9, HB9⟩ : ∃ x, Hid (decide (t = n) = x) := ⟨_, rfl⟩
      have RN : Hid (∀ W a1 c1 a2 c2 a3 c3, DAt W a1 a2 a3 XL S XO → Calls Try.prog 16 #[.agg #[.slice a1 x1 c1, .slice a2 sn c2, .slice a3 (on + 1) c3], .string n] W fun e w' => e = .returned (.tuple #[.string s9, .bool b9]) ∧ Below W.heap.size W w') := by have h := RN0.out; rw [HS9.out, HB9.out] at h; exact h
      have htn : (t.toList == n.toList) = b9 := by rw [← HB9.out]; exact str_dec t n
      clear RX HF HOL RN0 HS9 HB9
      have ID : Hid (∀ W, DAt W la sa oa L S O → Calls Try.prog 14 #[.agg #[.slice la ln lc, .slice sa sn sc, .slice oa on oc], .agg #[.int .i64 2, .string n, .string t, .string d]] W fun e w' => ∃ a1 c1 a2 c2 a3 c3, e = .returned (.tuple #[.agg #[.slice a1 x1 c1, .slice a2 sn c2, .slice a3 (on + 1) c3], .int .i64 0]) ∧ Below W.heap.size W w' ∧ DA w' W.heap.size (.slice a1 x1 c1) (.slice a2 sn c2) (.slice a3 (on + 1) c3) XL S XO) := fun W hD => by
        obtain ⟨e1, e2, e3, e4⟩ := HAN.out
        have h := implDo_any la sa oa lc sc oc ln sn on x1 sn (on + 1) 0 L S O ⟨2, n, t, d⟩ W hD HK.out HLN.out HSN.out HON.out HCP.out.1 HCP.out.2 (by simp only; omega) (by simp only; omega) (by simp only; omega) e1 (by rw [e2]; exact HXN.out.1) (by rw [e3]; exact HXN.out.2.1) (by rw [e4]; exact HXN.out.2.2)
        rw [e2, e3, e4] at h
        exact h
      have SO : Hid (∀ W, DAt W la sa oa L S O → Calls Try.prog 15 #[.agg #[.slice la ln lc, .slice sa sn sc, .slice oa on oc], .agg #[.int .i64 2, .string n, .string t, .string d]] W fun e w' => ∃ a1 c1 a2 c2 a3 c3, e = .returned (.tuple #[.agg #[.slice a1 x1 c1, .slice a2 sn c2, .slice a3 (on + 1) c3], .int .i64 0]) ∧ Below W.heap.size W w' ∧ DA w' W.heap.size (.slice a1 x1 c1) (.slice a2 sn c2) (.slice a3 (on + 1) c3) XL S XO) := fun W hD => by
        obtain ⟨e1, e2, e3, e4⟩ := HAN.out
        have h := specDo_any la sa oa lc sc oc ln sn on x1 sn (on + 1) 0 L S O ⟨2, n, t, d⟩ W hD HK.out HLN.out HSN.out HON.out (by simp only; omega) (by simp only; omega) (by simp only; omega) e1 (by rw [e2]; exact HXN.out.1) (by rw [e3]; exact HXN.out.2.1) (by rw [e4]; exact HXN.out.2.2)
        rw [e2, e3, e4] at h
        exact h
      have hb2 : Below w1.heap.size w1 ((w1.alloc (.cells #[.slice la ln lc, .slice sa sn sc, .slice oa on oc] 27)).alloc (.cells #[.int .i64 2, .string n, .string t, .string d] 36)) := ((Below.refl _ _).alloc (Nat.le_refl _) _).alloc (by simp) _
      have B2 : Hid (Below w.heap.size w ((w1.alloc (.cells #[.slice la ln lc, .slice sa sn sc, .slice oa on oc] 27)).alloc (.cells #[.int .i64 2, .string n, .string t, .string d] 36))) := B1.out.trans (hb2.mono B1.out.size)
      have A2 : Hid (DAt ((w1.alloc (.cells #[.slice la ln lc, .slice sa sn sc, .slice oa on oc] 27)).alloc (.cells #[.int .i64 2, .string n, .string t, .string d] 36)) la sa oa L S O) := A1.out.below hb2
      clear B1 A1
      have M2 : Hid (((w1.alloc (.cells #[.slice la ln lc, .slice sa sn sc, .slice oa on oc] 27)).alloc (.cells #[.int .i64 2, .string n, .string t, .string d] 36)).heap[w1.heap.size]? = some (.cells #[.slice la ln lc, .slice sa sn sc, .slice oa on oc] 27 (0, 0))) := heap_alloc2_old _ _ _
      have Y2 : Hid (((w1.alloc (.cells #[.slice la ln lc, .slice sa sn sc, .slice oa on oc] 27)).alloc (.cells #[.int .i64 2, .string n, .string t, .string d] 36)).heap[w1.heap.size + 1]? = some (.cells #[.int .i64 2, .string n, .string t, .string d] 36 (0, 0))) := heap_alloc2_new _ _ _
      clear hb2
      obtain ⟨zm2_0, zm2_1, zm2_2⟩ := cells3 M2.out
      obtain ⟨zy2_0, zy2_1, zy2_2, zy2_3⟩ := cells4 Y2.out
      go_wp2_with fail
      obtain ⟨i3, HI3⟩ : ∃ i, Hid (w1.heap.size = i) := ⟨_, rfl⟩
      rw [HI3.out] at M2 Y2 ⊢
      generalize ((w1.alloc (.cells #[.slice la ln lc, .slice sa sn sc, .slice oa on oc] 27)).alloc (.cells #[.int .i64 2, .string n, .string t, .string d] 36)) = w2 at *
      clear HI3
      refine (ID.out w2 A2.out).mono ?_
      rintro e w3 ⟨a1, c1, a2, c2, a3, c3, rfl, hb, hda⟩
      have B3 : Hid (Below w.heap.size w w3) := B2.out.trans (hb.mono B2.out.size)
      have A3 : Hid (DAt w3 la sa oa L S O) := A2.out.below hb
      have M3 : Hid (w3.heap[i3]? = some (.cells #[.slice la ln lc, .slice sa sn sc, .slice oa on oc] 27 (0, 0))) := below_row hb (row_lt M2.out) M2.out
      have Y3 : Hid (w3.heap[i3 + 1]? = some (.cells #[.int .i64 2, .string n, .string t, .string d] 36 (0, 0))) := below_row hb (row_lt Y2.out) Y2.out
      clear B2 A2 M2 Y2
      clear zm2_0 zm2_1 zm2_2 zy2_0 zy2_1 zy2_2 zy2_3
      have P3 : Hid (DA w3 w2.heap.size (.slice a1 x1 c1) (.slice a2 sn c2) (.slice a3 (on + 1) c3) XL S XO) := hda
      clear hb hda
      have hb : Below w3.heap.size w3 (w3.alloc (.cells #[.slice a1 x1 c1, .slice a2 sn c2, .slice a3 (on + 1) c3] 27)) := (Below.refl _ _).alloc (Nat.le_refl _) _
      have B4 : Hid (Below w.heap.size w (w3.alloc (.cells #[.slice a1 x1 c1, .slice a2 sn c2, .slice a3 (on + 1) c3] 27))) := B3.out.trans (hb.mono B3.out.size)
      have A4 : Hid (DAt (w3.alloc (.cells #[.slice a1 x1 c1, .slice a2 sn c2, .slice a3 (on + 1) c3] 27)) la sa oa L S O) := A3.out.below hb
      have M4 : Hid ((w3.alloc (.cells #[.slice a1 x1 c1, .slice a2 sn c2, .slice a3 (on + 1) c3] 27)).heap[i3]? = some (.cells #[.slice la ln lc, .slice sa sn sc, .slice oa on oc] 27 (0, 0))) := below_row hb (row_lt M3.out) M3.out
      have Y4 : Hid ((w3.alloc (.cells #[.slice a1 x1 c1, .slice a2 sn c2, .slice a3 (on + 1) c3] 27)).heap[i3 + 1]? = some (.cells #[.int .i64 2, .string n, .string t, .string d] 36 (0, 0))) := below_row hb (row_lt Y3.out) Y3.out
      have P4 : Hid (DA (w3.alloc (.cells #[.slice a1 x1 c1, .slice a2 sn c2, .slice a3 (on + 1) c3] 27)) w2.heap.size (.slice a1 x1 c1) (.slice a2 sn c2) (.slice a3 (on + 1) c3) XL S XO) := P3.out.below hb
      clear B3 A3 M3 Y3 P3
      have N4 : Hid ((w3.alloc (.cells #[.slice a1 x1 c1, .slice a2 sn c2, .slice a3 (on + 1) c3] 27)).heap[w3.heap.size]? = some (.cells #[.slice a1 x1 c1, .slice a2 sn c2, .slice a3 (on + 1) c3] 27 (0, 0))) := heap_alloc_new _ _
      clear hb
      obtain ⟨zm4_0, zm4_1, zm4_2⟩ := cells3 M4.out
      obtain ⟨zy4_0, zy4_1, zy4_2, zy4_3⟩ := cells4 Y4.out
      go_wp2_with fail
      obtain ⟨i5, HIi5⟩ : ∃ i, Hid (w3.heap.size = i) := ⟨_, rfl⟩
      rw [HIi5.out] at N4 ⊢
      generalize (w3.alloc (.cells #[.slice a1 x1 c1, .slice a2 sn c2, .slice a3 (on + 1) c3] 27)) = w4 at *
      clear HIi5
      refine (SO.out w4 A4.out).mono ?_
      rintro e w5 ⟨b1, e1, b2, e2, b3, e3, rfl, hb, -⟩
      have B5 : Hid (Below w.heap.size w w5) := B4.out.trans (hb.mono B4.out.size)
      have A5 : Hid (DAt w5 la sa oa L S O) := A4.out.below hb
      have M5 : Hid (w5.heap[i3]? = some (.cells #[.slice la ln lc, .slice sa sn sc, .slice oa on oc] 27 (0, 0))) := below_row hb (row_lt M4.out) M4.out
      have Y5 : Hid (w5.heap[i3 + 1]? = some (.cells #[.int .i64 2, .string n, .string t, .string d] 36 (0, 0))) := below_row hb (row_lt Y4.out) Y4.out
      have P5 : Hid (DA w5 w2.heap.size (.slice a1 x1 c1) (.slice a2 sn c2) (.slice a3 (on + 1) c3) XL S XO) := P4.out.below hb
      have N5 : Hid (w5.heap[i5]? = some (.cells #[.slice a1 x1 c1, .slice a2 sn c2, .slice a3 (on + 1) c3] 27 (0, 0))) := below_row hb (row_lt N4.out) N4.out
      clear B4 A4 M4 Y4 P4 N4
      clear zm4_0 zm4_1 zm4_2 zy4_0 zy4_1 zy4_2 zy4_3
      clear hb
      have hb : Below w5.heap.size w5 (w5.alloc (.cells #[.slice b1 x1 e1, .slice b2 sn e2, .slice b3 (on + 1) e3] 27)) := (Below.refl _ _).alloc (Nat.le_refl _) _
      have B6 : Hid (Below w.heap.size w (w5.alloc (.cells #[.slice b1 x1 e1, .slice b2 sn e2, .slice b3 (on + 1) e3] 27))) := B5.out.trans (hb.mono B5.out.size)
      have A6 : Hid (DAt (w5.alloc (.cells #[.slice b1 x1 e1, .slice b2 sn e2, .slice b3 (on + 1) e3] 27)) la sa oa L S O) := A5.out.below hb
      have M6 : Hid ((w5.alloc (.cells #[.slice b1 x1 e1, .slice b2 sn e2, .slice b3 (on + 1) e3] 27)).heap[i3]? = some (.cells #[.slice la ln lc, .slice sa sn sc, .slice oa on oc] 27 (0, 0))) := below_row hb (row_lt M5.out) M5.out
      have Y6 : Hid ((w5.alloc (.cells #[.slice b1 x1 e1, .slice b2 sn e2, .slice b3 (on + 1) e3] 27)).heap[i3 + 1]? = some (.cells #[.int .i64 2, .string n, .string t, .string d] 36 (0, 0))) := below_row hb (row_lt Y5.out) Y5.out
      have P6 : Hid (DA (w5.alloc (.cells #[.slice b1 x1 e1, .slice b2 sn e2, .slice b3 (on + 1) e3] 27)) w2.heap.size (.slice a1 x1 c1) (.slice a2 sn c2) (.slice a3 (on + 1) c3) XL S XO) := P5.out.below hb
      have N6 : Hid ((w5.alloc (.cells #[.slice b1 x1 e1, .slice b2 sn e2, .slice b3 (on + 1) e3] 27)).heap[i5]? = some (.cells #[.slice a1 x1 c1, .slice a2 sn c2, .slice a3 (on + 1) c3] 27 (0, 0))) := below_row hb (row_lt N5.out) N5.out
      clear B5 A5 M5 Y5 P5 N5
      have U6 : Hid ((w5.alloc (.cells #[.slice b1 x1 e1, .slice b2 sn e2, .slice b3 (on + 1) e3] 27)).heap[w5.heap.size]? = some (.cells #[.slice b1 x1 e1, .slice b2 sn e2, .slice b3 (on + 1) e3] 27 (0, 0))) := heap_alloc_new _ _
      clear hb
      obtain ⟨zm6_0, zm6_1, zm6_2⟩ := cells3 M6.out
      go_wp2_with fail
      obtain ⟨i7, HIi7⟩ : ∃ i, Hid (w5.heap.size = i) := ⟨_, rfl⟩
      rw [HIi7.out] at U6 ⊢
      generalize (w5.alloc (.cells #[.slice b1 x1 e1, .slice b2 sn e2, .slice b3 (on + 1) e3] 27)) = w6 at *
      clear HIi7
      refine (SD.out w6 _ A6.out hd).mono ?_
      rintro e w7 ⟨rfl, hb⟩
      have B7 : Hid (Below w.heap.size w w7) := B6.out.trans (hb.mono B6.out.size)
      have A7 : Hid (DAt w7 la sa oa L S O) := A6.out.below hb
      have M7 : Hid (w7.heap[i3]? = some (.cells #[.slice la ln lc, .slice sa sn sc, .slice oa on oc] 27 (0, 0))) := below_row hb (row_lt M6.out) M6.out
      have Y7 : Hid (w7.heap[i3 + 1]? = some (.cells #[.int .i64 2, .string n, .string t, .string d] 36 (0, 0))) := below_row hb (row_lt Y6.out) Y6.out
      have P7 : Hid (DA w7 w2.heap.size (.slice a1 x1 c1) (.slice a2 sn c2) (.slice a3 (on + 1) c3) XL S XO) := P6.out.below hb
      have N7 : Hid (w7.heap[i5]? = some (.cells #[.slice a1 x1 c1, .slice a2 sn c2, .slice a3 (on + 1) c3] 27 (0, 0))) := below_row hb (row_lt N6.out) N6.out
      have U7 : Hid (w7.heap[i7]? = some (.cells #[.slice b1 x1 e1, .slice b2 sn e2, .slice b3 (on + 1) e3] 27 (0, 0))) := below_row hb (row_lt U6.out) U6.out
      clear B6 A6 M6 Y6 P6 N6 U6
      clear zm6_0 zm6_1 zm6_2
      clear hb
      obtain ⟨zn7_0, zn7_1, zn7_2⟩ := cells3 N7.out
      obtain ⟨zy7_0, zy7_1, zy7_2, zy7_3⟩ := cells4 Y7.out
      go_wp2_with fail
      refine (RN.out w7 _ _ _ _ _ _ (P7.out.at HX1.out HSN.out HXO.out)).mono ?_
      rintro e w8 ⟨rfl, hb⟩
      have B8 : Hid (Below w.heap.size w w8) := B7.out.trans (hb.mono B7.out.size)
      have A8 : Hid (DAt w8 la sa oa L S O) := A7.out.below hb
      have M8 : Hid (w8.heap[i3]? = some (.cells #[.slice la ln lc, .slice sa sn sc, .slice oa on oc] 27 (0, 0))) := below_row hb (row_lt M7.out) M7.out
      have Y8 : Hid (w8.heap[i3 + 1]? = some (.cells #[.int .i64 2, .string n, .string t, .string d] 36 (0, 0))) := below_row hb (row_lt Y7.out) Y7.out
      have P8 : Hid (DA w8 w2.heap.size (.slice a1 x1 c1) (.slice a2 sn c2) (.slice a3 (on + 1) c3) XL S XO) := P7.out.below hb
      have N8 : Hid (w8.heap[i5]? = some (.cells #[.slice a1 x1 c1, .slice a2 sn c2, .slice a3 (on + 1) c3] 27 (0, 0))) := below_row hb (row_lt N7.out) N7.out
      have U8 : Hid (w8.heap[i7]? = some (.cells #[.slice b1 x1 e1, .slice b2 sn e2, .slice b3 (on + 1) e3] 27 (0, 0))) := below_row hb (row_lt U7.out) U7.out
      clear B7 A7 M7 Y7 P7 N7 U7
      clear zn7_0 zn7_1 zn7_2 zy7_0 zy7_1 zy7_2 zy7_3
      clear hb
      obtain ⟨zm8_0, zm8_1, zm8_2⟩ := cells3 M8.out
      obtain ⟨zy8_0, zy8_1, zy8_2, zy8_3⟩ := cells4 Y8.out
      go_wp2_with fail
      refine (RO.out w8 A8.out).mono ?_
      rintro e w9 ⟨rfl, hb⟩
      have B9 : Hid (Below w.heap.size w w9) := B8.out.trans (hb.mono B8.out.size)
      have A9 : Hid (DAt w9 la sa oa L S O) := A8.out.below hb
      have M9 : Hid (w9.heap[i3]? = some (.cells #[.slice la ln lc, .slice sa sn sc, .slice oa on oc] 27 (0, 0))) := below_row hb (row_lt M8.out) M8.out
      have Y9 : Hid (w9.heap[i3 + 1]? = some (.cells #[.int .i64 2, .string n, .string t, .string d] 36 (0, 0))) := below_row hb (row_lt Y8.out) Y8.out
      have P9 : Hid (DA w9 w2.heap.size (.slice a1 x1 c1) (.slice a2 sn c2) (.slice a3 (on + 1) c3) XL S XO) := P8.out.below hb
      have N9 : Hid (w9.heap[i5]? = some (.cells #[.slice a1 x1 c1, .slice a2 sn c2, .slice a3 (on + 1) c3] 27 (0, 0))) := below_row hb (row_lt N8.out) N8.out
      have U9 : Hid (w9.heap[i7]? = some (.cells #[.slice b1 x1 e1, .slice b2 sn e2, .slice b3 (on + 1) e3] 27 (0, 0))) := below_row hb (row_lt U8.out) U8.out
      clear B8 A8 M8 Y8 P8 N8 U8
      clear zm8_0 zm8_1 zm8_2 zy8_0 zy8_1 zy8_2 zy8_3
      clear hb
      obtain ⟨zn9_0, zn9_1, zn9_2⟩ := cells3 N9.out
      obtain ⟨zy9_0, zy9_1, zy9_2, zy9_3⟩ := cells4 Y9.out
      go_wp2_with fail
      refine (RT.out w9 _ _ _ _ _ _ (P9.out.at HX1.out HSN.out HXO.out)).mono ?_
      rintro e w10 ⟨rfl, hb⟩
      have B10 : Hid (Below w.heap.size w w10) := B9.out.trans (hb.mono B9.out.size)
      have A10 : Hid (DAt w10 la sa oa L S O) := A9.out.below hb
      have M10 : Hid (w10.heap[i3]? = some (.cells #[.slice la ln lc, .slice sa sn sc, .slice oa on oc] 27 (0, 0))) := below_row hb (row_lt M9.out) M9.out
      have Y10 : Hid (w10.heap[i3 + 1]? = some (.cells #[.int .i64 2, .string n, .string t, .string d] 36 (0, 0))) := below_row hb (row_lt Y9.out) Y9.out
      have P10 : Hid (DA w10 w2.heap.size (.slice a1 x1 c1) (.slice a2 sn c2) (.slice a3 (on + 1) c3) XL S XO) := P9.out.below hb
      have N10 : Hid (w10.heap[i5]? = some (.cells #[.slice a1 x1 c1, .slice a2 sn c2, .slice a3 (on + 1) c3] 27 (0, 0))) := below_row hb (row_lt N9.out) N9.out
      have U10 : Hid (w10.heap[i7]? = some (.cells #[.slice b1 x1 e1, .slice b2 sn e2, .slice b3 (on + 1) e3] 27 (0, 0))) := below_row hb (row_lt U9.out) U9.out
      clear B9 A9 M9 Y9 P9 N9 U9
      clear zn9_0 zn9_1 zn9_2 zy9_0 zy9_1 zy9_2 zy9_3
      clear hb
      obtain ⟨zn10_0, zn10_1, zn10_2⟩ := cells3 N10.out
      obtain ⟨zy10_0, zy10_1, zy10_2, zy10_3⟩ := cells4 Y10.out
      go_wp2_with fail
      refine (IX.out w10 _ _ _ _ _ _ (P10.out.at HX1.out HSN.out HXO.out)).mono ?_
      rintro e w11 ⟨rfl, hb⟩
      have B11 : Hid (Below w.heap.size w w11) := B10.out.trans (hb.mono B10.out.size)
      have A11 : Hid (DAt w11 la sa oa L S O) := A10.out.below hb
      have M11 : Hid (w11.heap[i3]? = some (.cells #[.slice la ln lc, .slice sa sn sc, .slice oa on oc] 27 (0, 0))) := below_row hb (row_lt M10.out) M10.out
      have Y11 : Hid (w11.heap[i3 + 1]? = some (.cells #[.int .i64 2, .string n, .string t, .string d] 36 (0, 0))) := below_row hb (row_lt Y10.out) Y10.out
      have P11 : Hid (DA w11 w2.heap.size (.slice a1 x1 c1) (.slice a2 sn c2) (.slice a3 (on + 1) c3) XL S XO) := P10.out.below hb
      have N11 : Hid (w11.heap[i5]? = some (.cells #[.slice a1 x1 c1, .slice a2 sn c2, .slice a3 (on + 1) c3] 27 (0, 0))) := below_row hb (row_lt N10.out) N10.out
      have U11 : Hid (w11.heap[i7]? = some (.cells #[.slice b1 x1 e1, .slice b2 sn e2, .slice b3 (on + 1) e3] 27 (0, 0))) := below_row hb (row_lt U10.out) U10.out
      clear B10 A10 M10 Y10 P10 N10 U10
      clear zn10_0 zn10_1 zn10_2 zy10_0 zy10_1 zy10_2 zy10_3
      clear hb
      obtain ⟨zm11_0, zm11_1, zm11_2⟩ := cells3 M11.out
      obtain ⟨zn11_0, zn11_1, zn11_2⟩ := cells3 N11.out
      go_wp2_with fail
      refine (SM.out w11 _ _ _ _ _ S HSN.out bs' (P11.out.at HX1.out HSN.out HXO.out).s A11.out.s).mono ?_
      rintro e w12 ⟨rfl, hb⟩
      have B12 : Hid (Below w.heap.size w w12) := B11.out.trans (hb.mono B11.out.size)
      have A12 : Hid (DAt w12 la sa oa L S O) := A11.out.below hb
      have M12 : Hid (w12.heap[i3]? = some (.cells #[.slice la ln lc, .slice sa sn sc, .slice oa on oc] 27 (0, 0))) := below_row hb (row_lt M11.out) M11.out
      have Y12 : Hid (w12.heap[i3 + 1]? = some (.cells #[.int .i64 2, .string n, .string t, .string d] 36 (0, 0))) := below_row hb (row_lt Y11.out) Y11.out
      have P12 : Hid (DA w12 w2.heap.size (.slice a1 x1 c1) (.slice a2 sn c2) (.slice a3 (on + 1) c3) XL S XO) := P11.out.below hb
      have N12 : Hid (w12.heap[i5]? = some (.cells #[.slice a1 x1 c1, .slice a2 sn c2, .slice a3 (on + 1) c3] 27 (0, 0))) := below_row hb (row_lt N11.out) N11.out
      have U12 : Hid (w12.heap[i7]? = some (.cells #[.slice b1 x1 e1, .slice b2 sn e2, .slice b3 (on + 1) e3] 27 (0, 0))) := below_row hb (row_lt U11.out) U11.out
      clear B11 A11 M11 Y11 P11 N11 U11
      clear zm11_0 zm11_1 zm11_2 zn11_0 zn11_1 zn11_2
      clear hb
      obtain ⟨zm12_0, zm12_1, zm12_2⟩ := cells3 M12.out
      obtain ⟨zn12_0, zn12_1, zn12_2⟩ := cells3 N12.out
      have hwo : wrap64 ((on : Int) + 1) = (on : Int) + 1 := by unfold wrap64; omega
      go_wp2
      go_ret
      exact ⟨by simp, B12.out⟩
    · subst hk1
      have HF : Hid (hasF (actL L O ⟨3, n, t, d⟩) n = false) := done3 HK0.out
      generalize actL L O ⟨3, n, t, d⟩ = XL at *
      generalize actO L O ⟨3, n, t, d⟩ = XO at *
      rw [HK0.out] at f1
      have HAN : Hid (dK L S O ⟨3, n, t, d⟩ = 0 ∧ dL L S O ⟨3, n, t, d⟩ = XL ∧ dS L S O = S ∧ dO L S O ⟨3, n, t, d⟩ = XO) := ⟨f1, f2, f3, f4⟩
      obtain ⟨x1, HX1⟩ : ∃ n, Hid (XL.length = n) := ⟨_, rfl⟩
      have HXN : Hid (XL.length = x1 ∧ S.length = sn ∧ XO.length = on + 1) := ⟨HX1.out, HSN.out, HXO.out⟩
      clear f1 f2 f3 f4 hkd0 HK0
      have RX : Hid (∀ (m : ByteArray) W a1 c1 a2 c2 a3 c3, DAt W a1 a2 a3 XL S XO → Calls Try.prog 16 #[.agg #[.slice a1 x1 c1, .slice a2 sn c2, .slice a3 (on + 1) c3], .string m] W fun e w' => e = .returned (.tuple #[.string (datF XL m), .bool (hasF XL m)]) ∧ Below W.heap.size W w') := fun m W a1 c1 a2 c2 a3 c3 hD => by
        have h := implRead_any a1 a2 a3 c1 c2 c3 x1 sn (on + 1) XL S XO m W hD HKX.out HX1.out HSN.out HXO.out
        rw [(rd_right HDX.out m).1, (rd_right HDX.out m).2] at h
        exact h
      have IX : Hid (∀ W a1 c1 a2 c2 a3 c3, DAt W a1 a2 a3 XL S XO → Calls Try.prog 8 #[.agg #[.slice a1 x1 c1, .slice a2 sn c2, .slice a3 (on + 1) c3]] W fun e w' => e = .returned (.bool true) ∧ Below W.heap.size W w') := fun W a1 c1 a2 c2 a3 c3 hD => by
        have h := implDisk_any a1 a2 a3 c1 c2 c3 x1 sn (on + 1) XL S XO W hD HKX.out HX1.out HSN.out HXO.out
        rw [HDX.out] at h
        exact h
      have RN0 : Hid (∀ W a1 c1 a2 c2 a3 c3, DAt W a1 a2 a3 XL S XO → Calls Try.prog 16 #[.agg #[.slice a1 x1 c1, .slice a2 sn c2, .slice a3 (on + 1) c3], .string n] W fun e w' => e = .returned (.tuple #[.string (datF XL n), .bool false]) ∧ Below W.heap.size W w') := by have h := RX.out n; rw [HF.out] at h; exact h
      obtain ⟨s9, HS9⟩ : ∃ x, Hid (datF XL n = x) := ⟨_, rfl⟩
      have RN : Hid (∀ W a1 c1 a2 c2 a3 c3, DAt W a1 a2 a3 XL S XO → Calls Try.prog 16 #[.agg #[.slice a1 x1 c1, .slice a2 sn c2, .slice a3 (on + 1) c3], .string n] W fun e w' => e = .returned (.tuple #[.string s9, .bool false]) ∧ Below W.heap.size W w') := by have h := RN0.out; rw [HS9.out] at h; exact h
      clear RX HF HOL RN0 HS9
      have ID : Hid (∀ W, DAt W la sa oa L S O → Calls Try.prog 14 #[.agg #[.slice la ln lc, .slice sa sn sc, .slice oa on oc], .agg #[.int .i64 3, .string n, .string t, .string d]] W fun e w' => ∃ a1 c1 a2 c2 a3 c3, e = .returned (.tuple #[.agg #[.slice a1 x1 c1, .slice a2 sn c2, .slice a3 (on + 1) c3], .int .i64 0]) ∧ Below W.heap.size W w' ∧ DA w' W.heap.size (.slice a1 x1 c1) (.slice a2 sn c2) (.slice a3 (on + 1) c3) XL S XO) := fun W hD => by
        obtain ⟨e1, e2, e3, e4⟩ := HAN.out
        have h := implDo_any la sa oa lc sc oc ln sn on x1 sn (on + 1) 0 L S O ⟨3, n, t, d⟩ W hD HK.out HLN.out HSN.out HON.out HCP.out.1 HCP.out.2 (by simp only; omega) (by simp only; omega) (by simp only; omega) e1 (by rw [e2]; exact HXN.out.1) (by rw [e3]; exact HXN.out.2.1) (by rw [e4]; exact HXN.out.2.2)
        rw [e2, e3, e4] at h
        exact h
      have SO : Hid (∀ W, DAt W la sa oa L S O → Calls Try.prog 15 #[.agg #[.slice la ln lc, .slice sa sn sc, .slice oa on oc], .agg #[.int .i64 3, .string n, .string t, .string d]] W fun e w' => ∃ a1 c1 a2 c2 a3 c3, e = .returned (.tuple #[.agg #[.slice a1 x1 c1, .slice a2 sn c2, .slice a3 (on + 1) c3], .int .i64 0]) ∧ Below W.heap.size W w' ∧ DA w' W.heap.size (.slice a1 x1 c1) (.slice a2 sn c2) (.slice a3 (on + 1) c3) XL S XO) := fun W hD => by
        obtain ⟨e1, e2, e3, e4⟩ := HAN.out
        have h := specDo_any la sa oa lc sc oc ln sn on x1 sn (on + 1) 0 L S O ⟨3, n, t, d⟩ W hD HK.out HLN.out HSN.out HON.out (by simp only; omega) (by simp only; omega) (by simp only; omega) e1 (by rw [e2]; exact HXN.out.1) (by rw [e3]; exact HXN.out.2.1) (by rw [e4]; exact HXN.out.2.2)
        rw [e2, e3, e4] at h
        exact h
      have hb2 : Below w1.heap.size w1 ((w1.alloc (.cells #[.slice la ln lc, .slice sa sn sc, .slice oa on oc] 27)).alloc (.cells #[.int .i64 3, .string n, .string t, .string d] 36)) := ((Below.refl _ _).alloc (Nat.le_refl _) _).alloc (by simp) _
      have B2 : Hid (Below w.heap.size w ((w1.alloc (.cells #[.slice la ln lc, .slice sa sn sc, .slice oa on oc] 27)).alloc (.cells #[.int .i64 3, .string n, .string t, .string d] 36))) := B1.out.trans (hb2.mono B1.out.size)
      have A2 : Hid (DAt ((w1.alloc (.cells #[.slice la ln lc, .slice sa sn sc, .slice oa on oc] 27)).alloc (.cells #[.int .i64 3, .string n, .string t, .string d] 36)) la sa oa L S O) := A1.out.below hb2
      clear B1 A1
      have M2 : Hid (((w1.alloc (.cells #[.slice la ln lc, .slice sa sn sc, .slice oa on oc] 27)).alloc (.cells #[.int .i64 3, .string n, .string t, .string d] 36)).heap[w1.heap.size]? = some (.cells #[.slice la ln lc, .slice sa sn sc, .slice oa on oc] 27 (0, 0))) := heap_alloc2_old _ _ _
      have Y2 : Hid (((w1.alloc (.cells #[.slice la ln lc, .slice sa sn sc, .slice oa on oc] 27)).alloc (.cells #[.int .i64 3, .string n, .string t, .string d] 36)).heap[w1.heap.size + 1]? = some (.cells #[.int .i64 3, .string n, .string t, .string d] 36 (0, 0))) := heap_alloc2_new _ _ _
      clear hb2
      obtain ⟨zm2_0, zm2_1, zm2_2⟩ := cells3 M2.out
      obtain ⟨zy2_0, zy2_1, zy2_2, zy2_3⟩ := cells4 Y2.out
      go_wp2_with fail
      obtain ⟨i3, HI3⟩ : ∃ i, Hid (w1.heap.size = i) := ⟨_, rfl⟩
      rw [HI3.out] at M2 Y2 ⊢
      generalize ((w1.alloc (.cells #[.slice la ln lc, .slice sa sn sc, .slice oa on oc] 27)).alloc (.cells #[.int .i64 3, .string n, .string t, .string d] 36)) = w2 at *
      clear HI3
      refine (ID.out w2 A2.out).mono ?_
      rintro e w3 ⟨a1, c1, a2, c2, a3, c3, rfl, hb, hda⟩
      have B3 : Hid (Below w.heap.size w w3) := B2.out.trans (hb.mono B2.out.size)
      have A3 : Hid (DAt w3 la sa oa L S O) := A2.out.below hb
      have M3 : Hid (w3.heap[i3]? = some (.cells #[.slice la ln lc, .slice sa sn sc, .slice oa on oc] 27 (0, 0))) := below_row hb (row_lt M2.out) M2.out
      have Y3 : Hid (w3.heap[i3 + 1]? = some (.cells #[.int .i64 3, .string n, .string t, .string d] 36 (0, 0))) := below_row hb (row_lt Y2.out) Y2.out
      clear B2 A2 M2 Y2
      clear zm2_0 zm2_1 zm2_2 zy2_0 zy2_1 zy2_2 zy2_3
      have P3 : Hid (DA w3 w2.heap.size (.slice a1 x1 c1) (.slice a2 sn c2) (.slice a3 (on + 1) c3) XL S XO) := hda
      clear hb hda
      have hb : Below w3.heap.size w3 (w3.alloc (.cells #[.slice a1 x1 c1, .slice a2 sn c2, .slice a3 (on + 1) c3] 27)) := (Below.refl _ _).alloc (Nat.le_refl _) _
      have B4 : Hid (Below w.heap.size w (w3.alloc (.cells #[.slice a1 x1 c1, .slice a2 sn c2, .slice a3 (on + 1) c3] 27))) := B3.out.trans (hb.mono B3.out.size)
      have A4 : Hid (DAt (w3.alloc (.cells #[.slice a1 x1 c1, .slice a2 sn c2, .slice a3 (on + 1) c3] 27)) la sa oa L S O) := A3.out.below hb
      have M4 : Hid ((w3.alloc (.cells #[.slice a1 x1 c1, .slice a2 sn c2, .slice a3 (on + 1) c3] 27)).heap[i3]? = some (.cells #[.slice la ln lc, .slice sa sn sc, .slice oa on oc] 27 (0, 0))) := below_row hb (row_lt M3.out) M3.out
      have Y4 : Hid ((w3.alloc (.cells #[.slice a1 x1 c1, .slice a2 sn c2, .slice a3 (on + 1) c3] 27)).heap[i3 + 1]? = some (.cells #[.int .i64 3, .string n, .string t, .string d] 36 (0, 0))) := below_row hb (row_lt Y3.out) Y3.out
      have P4 : Hid (DA (w3.alloc (.cells #[.slice a1 x1 c1, .slice a2 sn c2, .slice a3 (on + 1) c3] 27)) w2.heap.size (.slice a1 x1 c1) (.slice a2 sn c2) (.slice a3 (on + 1) c3) XL S XO) := P3.out.below hb
      clear B3 A3 M3 Y3 P3
      have N4 : Hid ((w3.alloc (.cells #[.slice a1 x1 c1, .slice a2 sn c2, .slice a3 (on + 1) c3] 27)).heap[w3.heap.size]? = some (.cells #[.slice a1 x1 c1, .slice a2 sn c2, .slice a3 (on + 1) c3] 27 (0, 0))) := heap_alloc_new _ _
      clear hb
      obtain ⟨zm4_0, zm4_1, zm4_2⟩ := cells3 M4.out
      obtain ⟨zy4_0, zy4_1, zy4_2, zy4_3⟩ := cells4 Y4.out
      go_wp2_with fail
      obtain ⟨i5, HIi5⟩ : ∃ i, Hid (w3.heap.size = i) := ⟨_, rfl⟩
      rw [HIi5.out] at N4 ⊢
      generalize (w3.alloc (.cells #[.slice a1 x1 c1, .slice a2 sn c2, .slice a3 (on + 1) c3] 27)) = w4 at *
      clear HIi5
      refine (SO.out w4 A4.out).mono ?_
      rintro e w5 ⟨b1, e1, b2, e2, b3, e3, rfl, hb, -⟩
      have B5 : Hid (Below w.heap.size w w5) := B4.out.trans (hb.mono B4.out.size)
      have A5 : Hid (DAt w5 la sa oa L S O) := A4.out.below hb
      have M5 : Hid (w5.heap[i3]? = some (.cells #[.slice la ln lc, .slice sa sn sc, .slice oa on oc] 27 (0, 0))) := below_row hb (row_lt M4.out) M4.out
      have Y5 : Hid (w5.heap[i3 + 1]? = some (.cells #[.int .i64 3, .string n, .string t, .string d] 36 (0, 0))) := below_row hb (row_lt Y4.out) Y4.out
      have P5 : Hid (DA w5 w2.heap.size (.slice a1 x1 c1) (.slice a2 sn c2) (.slice a3 (on + 1) c3) XL S XO) := P4.out.below hb
      have N5 : Hid (w5.heap[i5]? = some (.cells #[.slice a1 x1 c1, .slice a2 sn c2, .slice a3 (on + 1) c3] 27 (0, 0))) := below_row hb (row_lt N4.out) N4.out
      clear B4 A4 M4 Y4 P4 N4
      clear zm4_0 zm4_1 zm4_2 zy4_0 zy4_1 zy4_2 zy4_3
      clear hb
      have hb : Below w5.heap.size w5 (w5.alloc (.cells #[.slice b1 x1 e1, .slice b2 sn e2, .slice b3 (on + 1) e3] 27)) := (Below.refl _ _).alloc (Nat.le_refl _) _
      have B6 : Hid (Below w.heap.size w (w5.alloc (.cells #[.slice b1 x1 e1, .slice b2 sn e2, .slice b3 (on + 1) e3] 27))) := B5.out.trans (hb.mono B5.out.size)
      have A6 : Hid (DAt (w5.alloc (.cells #[.slice b1 x1 e1, .slice b2 sn e2, .slice b3 (on + 1) e3] 27)) la sa oa L S O) := A5.out.below hb
      have M6 : Hid ((w5.alloc (.cells #[.slice b1 x1 e1, .slice b2 sn e2, .slice b3 (on + 1) e3] 27)).heap[i3]? = some (.cells #[.slice la ln lc, .slice sa sn sc, .slice oa on oc] 27 (0, 0))) := below_row hb (row_lt M5.out) M5.out
      have Y6 : Hid ((w5.alloc (.cells #[.slice b1 x1 e1, .slice b2 sn e2, .slice b3 (on + 1) e3] 27)).heap[i3 + 1]? = some (.cells #[.int .i64 3, .string n, .string t, .string d] 36 (0, 0))) := below_row hb (row_lt Y5.out) Y5.out
      have P6 : Hid (DA (w5.alloc (.cells #[.slice b1 x1 e1, .slice b2 sn e2, .slice b3 (on + 1) e3] 27)) w2.heap.size (.slice a1 x1 c1) (.slice a2 sn c2) (.slice a3 (on + 1) c3) XL S XO) := P5.out.below hb
      have N6 : Hid ((w5.alloc (.cells #[.slice b1 x1 e1, .slice b2 sn e2, .slice b3 (on + 1) e3] 27)).heap[i5]? = some (.cells #[.slice a1 x1 c1, .slice a2 sn c2, .slice a3 (on + 1) c3] 27 (0, 0))) := below_row hb (row_lt N5.out) N5.out
      clear B5 A5 M5 Y5 P5 N5
      have U6 : Hid ((w5.alloc (.cells #[.slice b1 x1 e1, .slice b2 sn e2, .slice b3 (on + 1) e3] 27)).heap[w5.heap.size]? = some (.cells #[.slice b1 x1 e1, .slice b2 sn e2, .slice b3 (on + 1) e3] 27 (0, 0))) := heap_alloc_new _ _
      clear hb
      obtain ⟨zm6_0, zm6_1, zm6_2⟩ := cells3 M6.out
      go_wp2_with fail
      obtain ⟨i7, HIi7⟩ : ∃ i, Hid (w5.heap.size = i) := ⟨_, rfl⟩
      rw [HIi7.out] at U6 ⊢
      generalize (w5.alloc (.cells #[.slice b1 x1 e1, .slice b2 sn e2, .slice b3 (on + 1) e3] 27)) = w6 at *
      clear HIi7
      refine (SD.out w6 _ A6.out hd).mono ?_
      rintro e w7 ⟨rfl, hb⟩
      have B7 : Hid (Below w.heap.size w w7) := B6.out.trans (hb.mono B6.out.size)
      have A7 : Hid (DAt w7 la sa oa L S O) := A6.out.below hb
      have M7 : Hid (w7.heap[i3]? = some (.cells #[.slice la ln lc, .slice sa sn sc, .slice oa on oc] 27 (0, 0))) := below_row hb (row_lt M6.out) M6.out
      have Y7 : Hid (w7.heap[i3 + 1]? = some (.cells #[.int .i64 3, .string n, .string t, .string d] 36 (0, 0))) := below_row hb (row_lt Y6.out) Y6.out
      have P7 : Hid (DA w7 w2.heap.size (.slice a1 x1 c1) (.slice a2 sn c2) (.slice a3 (on + 1) c3) XL S XO) := P6.out.below hb
      have N7 : Hid (w7.heap[i5]? = some (.cells #[.slice a1 x1 c1, .slice a2 sn c2, .slice a3 (on + 1) c3] 27 (0, 0))) := below_row hb (row_lt N6.out) N6.out
      have U7 : Hid (w7.heap[i7]? = some (.cells #[.slice b1 x1 e1, .slice b2 sn e2, .slice b3 (on + 1) e3] 27 (0, 0))) := below_row hb (row_lt U6.out) U6.out
      clear B6 A6 M6 Y6 P6 N6 U6
      clear zm6_0 zm6_1 zm6_2
      clear hb
      obtain ⟨zn7_0, zn7_1, zn7_2⟩ := cells3 N7.out
      obtain ⟨zy7_0, zy7_1, zy7_2, zy7_3⟩ := cells4 Y7.out
      go_wp2_with fail
      refine (RN.out w7 _ _ _ _ _ _ (P7.out.at HX1.out HSN.out HXO.out)).mono ?_
      rintro e w8 ⟨rfl, hb⟩
      have B8 : Hid (Below w.heap.size w w8) := B7.out.trans (hb.mono B7.out.size)
      have A8 : Hid (DAt w8 la sa oa L S O) := A7.out.below hb
      have M8 : Hid (w8.heap[i3]? = some (.cells #[.slice la ln lc, .slice sa sn sc, .slice oa on oc] 27 (0, 0))) := below_row hb (row_lt M7.out) M7.out
      have Y8 : Hid (w8.heap[i3 + 1]? = some (.cells #[.int .i64 3, .string n, .string t, .string d] 36 (0, 0))) := below_row hb (row_lt Y7.out) Y7.out
      have P8 : Hid (DA w8 w2.heap.size (.slice a1 x1 c1) (.slice a2 sn c2) (.slice a3 (on + 1) c3) XL S XO) := P7.out.below hb
      have N8 : Hid (w8.heap[i5]? = some (.cells #[.slice a1 x1 c1, .slice a2 sn c2, .slice a3 (on + 1) c3] 27 (0, 0))) := below_row hb (row_lt N7.out) N7.out
      have U8 : Hid (w8.heap[i7]? = some (.cells #[.slice b1 x1 e1, .slice b2 sn e2, .slice b3 (on + 1) e3] 27 (0, 0))) := below_row hb (row_lt U7.out) U7.out
      clear B7 A7 M7 Y7 P7 N7 U7
      clear zn7_0 zn7_1 zn7_2 zy7_0 zy7_1 zy7_2 zy7_3
      clear hb
      obtain ⟨zm8_0, zm8_1, zm8_2⟩ := cells3 M8.out
      obtain ⟨zy8_0, zy8_1, zy8_2, zy8_3⟩ := cells4 Y8.out
      go_wp2_with fail
      refine (RO.out w8 A8.out).mono ?_
      rintro e w9 ⟨rfl, hb⟩
      have B9 : Hid (Below w.heap.size w w9) := B8.out.trans (hb.mono B8.out.size)
      have A9 : Hid (DAt w9 la sa oa L S O) := A8.out.below hb
      have M9 : Hid (w9.heap[i3]? = some (.cells #[.slice la ln lc, .slice sa sn sc, .slice oa on oc] 27 (0, 0))) := below_row hb (row_lt M8.out) M8.out
      have Y9 : Hid (w9.heap[i3 + 1]? = some (.cells #[.int .i64 3, .string n, .string t, .string d] 36 (0, 0))) := below_row hb (row_lt Y8.out) Y8.out
      have P9 : Hid (DA w9 w2.heap.size (.slice a1 x1 c1) (.slice a2 sn c2) (.slice a3 (on + 1) c3) XL S XO) := P8.out.below hb
      have N9 : Hid (w9.heap[i5]? = some (.cells #[.slice a1 x1 c1, .slice a2 sn c2, .slice a3 (on + 1) c3] 27 (0, 0))) := below_row hb (row_lt N8.out) N8.out
      have U9 : Hid (w9.heap[i7]? = some (.cells #[.slice b1 x1 e1, .slice b2 sn e2, .slice b3 (on + 1) e3] 27 (0, 0))) := below_row hb (row_lt U8.out) U8.out
      clear B8 A8 M8 Y8 P8 N8 U8
      clear zm8_0 zm8_1 zm8_2 zy8_0 zy8_1 zy8_2 zy8_3
      clear hb
      obtain ⟨zn9_0, zn9_1, zn9_2⟩ := cells3 N9.out
      obtain ⟨zy9_0, zy9_1, zy9_2, zy9_3⟩ := cells4 Y9.out
      go_wp2_with fail
      refine (IX.out w9 _ _ _ _ _ _ (P9.out.at HX1.out HSN.out HXO.out)).mono ?_
      rintro e w11 ⟨rfl, hb⟩
      have B11 : Hid (Below w.heap.size w w11) := B9.out.trans (hb.mono B9.out.size)
      have A11 : Hid (DAt w11 la sa oa L S O) := A9.out.below hb
      have M11 : Hid (w11.heap[i3]? = some (.cells #[.slice la ln lc, .slice sa sn sc, .slice oa on oc] 27 (0, 0))) := below_row hb (row_lt M9.out) M9.out
      have Y11 : Hid (w11.heap[i3 + 1]? = some (.cells #[.int .i64 3, .string n, .string t, .string d] 36 (0, 0))) := below_row hb (row_lt Y9.out) Y9.out
      have P11 : Hid (DA w11 w2.heap.size (.slice a1 x1 c1) (.slice a2 sn c2) (.slice a3 (on + 1) c3) XL S XO) := P9.out.below hb
      have N11 : Hid (w11.heap[i5]? = some (.cells #[.slice a1 x1 c1, .slice a2 sn c2, .slice a3 (on + 1) c3] 27 (0, 0))) := below_row hb (row_lt N9.out) N9.out
      have U11 : Hid (w11.heap[i7]? = some (.cells #[.slice b1 x1 e1, .slice b2 sn e2, .slice b3 (on + 1) e3] 27 (0, 0))) := below_row hb (row_lt U9.out) U9.out
      clear B9 A9 M9 Y9 P9 N9 U9
      clear zn9_0 zn9_1 zn9_2 zy9_0 zy9_1 zy9_2 zy9_3
      clear hb
      obtain ⟨zm11_0, zm11_1, zm11_2⟩ := cells3 M11.out
      obtain ⟨zn11_0, zn11_1, zn11_2⟩ := cells3 N11.out
      go_wp2_with fail
      refine (SM.out w11 _ _ _ _ _ S HSN.out bs' (P11.out.at HX1.out HSN.out HXO.out).s A11.out.s).mono ?_
      rintro e w12 ⟨rfl, hb⟩
      have B12 : Hid (Below w.heap.size w w12) := B11.out.trans (hb.mono B11.out.size)
      have A12 : Hid (DAt w12 la sa oa L S O) := A11.out.below hb
      have M12 : Hid (w12.heap[i3]? = some (.cells #[.slice la ln lc, .slice sa sn sc, .slice oa on oc] 27 (0, 0))) := below_row hb (row_lt M11.out) M11.out
      have Y12 : Hid (w12.heap[i3 + 1]? = some (.cells #[.int .i64 3, .string n, .string t, .string d] 36 (0, 0))) := below_row hb (row_lt Y11.out) Y11.out
      have P12 : Hid (DA w12 w2.heap.size (.slice a1 x1 c1) (.slice a2 sn c2) (.slice a3 (on + 1) c3) XL S XO) := P11.out.below hb
      have N12 : Hid (w12.heap[i5]? = some (.cells #[.slice a1 x1 c1, .slice a2 sn c2, .slice a3 (on + 1) c3] 27 (0, 0))) := below_row hb (row_lt N11.out) N11.out
      have U12 : Hid (w12.heap[i7]? = some (.cells #[.slice b1 x1 e1, .slice b2 sn e2, .slice b3 (on + 1) e3] 27 (0, 0))) := below_row hb (row_lt U11.out) U11.out
      clear B11 A11 M11 Y11 P11 N11 U11
      clear zm11_0 zm11_1 zm11_2 zn11_0 zn11_1 zn11_2
      clear hb
      obtain ⟨zm12_0, zm12_1, zm12_2⟩ := cells3 M12.out
      obtain ⟨zn12_0, zn12_1, zn12_2⟩ := cells3 N12.out
      have hwo : wrap64 ((on : Int) + 1) = (on : Int) + 1 := by unfold wrap64; omega
      go_wp2
      go_ret
      exact ⟨by simp, B12.out⟩
  obtain ⟨kd, HKD⟩ : ∃ x, Hid (actK L O ⟨k, n, t, d⟩ = x) := ⟨_, rfl⟩
  have hkd : ¬ kd = 0 := by rw [← HKD.out]; exact hkd0
  have hal : actL L O ⟨k, n, t, d⟩ = L := by unfold actL; rw [if_neg hkd0]
  have hao : actO L O ⟨k, n, t, d⟩ = O := by unfold actO; rw [if_neg hkd0]
  rw [HKD.out] at f1
  rw [hal] at f2
  rw [hao] at f4
  have HAN : Hid (dK L S O ⟨k, n, t, d⟩ = kd ∧ dL L S O ⟨k, n, t, d⟩ = L ∧ dS L S O = S ∧ dO L S O ⟨k, n, t, d⟩ = O) := ⟨f1, f2, f3, f4⟩
  have HXN : Hid (L.length = ln ∧ S.length = sn ∧ O.length = on) := ⟨HLN.out, HSN.out, HON.out⟩
  clear f1 f2 f3 f4 hkd0 hal hao HKD
  have ID : Hid (∀ W, DAt W la sa oa L S O → Calls Try.prog 14 #[.agg #[.slice la ln lc, .slice sa sn sc, .slice oa on oc], .agg #[.int .i64 k, .string n, .string t, .string d]] W fun e w' => ∃ a1 c1 a2 c2 a3 c3, e = .returned (.tuple #[.agg #[.slice a1 ln c1, .slice a2 sn c2, .slice a3 on c3], .int .i64 kd]) ∧ Below W.heap.size W w' ∧ DA w' W.heap.size (.slice a1 ln c1) (.slice a2 sn c2) (.slice a3 on c3) L S O) := fun W hD => by
    obtain ⟨e1, e2, e3, e4⟩ := HAN.out
    have h := implDo_any la sa oa lc sc oc ln sn on ln sn on kd L S O ⟨k, n, t, d⟩ W hD HK.out HLN.out HSN.out HON.out HCP.out.1 HCP.out.2 (by simp only; omega) (by simp only; omega) (by simp only; omega) e1 (by rw [e2]; exact HXN.out.1) (by rw [e3]; exact HXN.out.2.1) (by rw [e4]; exact HXN.out.2.2)
    rw [e2, e3, e4] at h
    exact h
  have SO : Hid (∀ W, DAt W la sa oa L S O → Calls Try.prog 15 #[.agg #[.slice la ln lc, .slice sa sn sc, .slice oa on oc], .agg #[.int .i64 k, .string n, .string t, .string d]] W fun e w' => ∃ a1 c1 a2 c2 a3 c3, e = .returned (.tuple #[.agg #[.slice a1 ln c1, .slice a2 sn c2, .slice a3 on c3], .int .i64 kd]) ∧ Below W.heap.size W w' ∧ DA w' W.heap.size (.slice a1 ln c1) (.slice a2 sn c2) (.slice a3 on c3) L S O) := fun W hD => by
    obtain ⟨e1, e2, e3, e4⟩ := HAN.out
    have h := specDo_any la sa oa lc sc oc ln sn on ln sn on kd L S O ⟨k, n, t, d⟩ W hD HK.out HLN.out HSN.out HON.out (by simp only; omega) (by simp only; omega) (by simp only; omega) e1 (by rw [e2]; exact HXN.out.1) (by rw [e3]; exact HXN.out.2.1) (by rw [e4]; exact HXN.out.2.2)
    rw [e2, e3, e4] at h
    exact h
  have hb2 : Below w1.heap.size w1 ((w1.alloc (.cells #[.slice la ln lc, .slice sa sn sc, .slice oa on oc] 27)).alloc (.cells #[.int .i64 k, .string n, .string t, .string d] 36)) := ((Below.refl _ _).alloc (Nat.le_refl _) _).alloc (by simp) _
  have B2 : Hid (Below w.heap.size w ((w1.alloc (.cells #[.slice la ln lc, .slice sa sn sc, .slice oa on oc] 27)).alloc (.cells #[.int .i64 k, .string n, .string t, .string d] 36))) := B1.out.trans (hb2.mono B1.out.size)
  have A2 : Hid (DAt ((w1.alloc (.cells #[.slice la ln lc, .slice sa sn sc, .slice oa on oc] 27)).alloc (.cells #[.int .i64 k, .string n, .string t, .string d] 36)) la sa oa L S O) := A1.out.below hb2
  clear B1 A1
  have M2 : Hid (((w1.alloc (.cells #[.slice la ln lc, .slice sa sn sc, .slice oa on oc] 27)).alloc (.cells #[.int .i64 k, .string n, .string t, .string d] 36)).heap[w1.heap.size]? = some (.cells #[.slice la ln lc, .slice sa sn sc, .slice oa on oc] 27 (0, 0))) := heap_alloc2_old _ _ _
  have Y2 : Hid (((w1.alloc (.cells #[.slice la ln lc, .slice sa sn sc, .slice oa on oc] 27)).alloc (.cells #[.int .i64 k, .string n, .string t, .string d] 36)).heap[w1.heap.size + 1]? = some (.cells #[.int .i64 k, .string n, .string t, .string d] 36 (0, 0))) := heap_alloc2_new _ _ _
  clear hb2
  obtain ⟨zm2_0, zm2_1, zm2_2⟩ := cells3 M2.out
  obtain ⟨zy2_0, zy2_1, zy2_2, zy2_3⟩ := cells4 Y2.out
  go_wp2_with fail
  obtain ⟨i3, HI3⟩ : ∃ i, Hid (w1.heap.size = i) := ⟨_, rfl⟩
  rw [HI3.out] at M2 Y2 ⊢
  generalize ((w1.alloc (.cells #[.slice la ln lc, .slice sa sn sc, .slice oa on oc] 27)).alloc (.cells #[.int .i64 k, .string n, .string t, .string d] 36)) = w2 at *
  clear HI3
  refine (ID.out w2 A2.out).mono ?_
  rintro e w3 ⟨a1, c1, a2, c2, a3, c3, rfl, hb, hda⟩
  have B3 : Hid (Below w.heap.size w w3) := B2.out.trans (hb.mono B2.out.size)
  have A3 : Hid (DAt w3 la sa oa L S O) := A2.out.below hb
  have M3 : Hid (w3.heap[i3]? = some (.cells #[.slice la ln lc, .slice sa sn sc, .slice oa on oc] 27 (0, 0))) := below_row hb (row_lt M2.out) M2.out
  have Y3 : Hid (w3.heap[i3 + 1]? = some (.cells #[.int .i64 k, .string n, .string t, .string d] 36 (0, 0))) := below_row hb (row_lt Y2.out) Y2.out
  clear B2 A2 M2 Y2
  clear zm2_0 zm2_1 zm2_2 zy2_0 zy2_1 zy2_2 zy2_3
  have P3 : Hid (DA w3 w2.heap.size (.slice a1 ln c1) (.slice a2 sn c2) (.slice a3 on c3) L S O) := hda
  clear hb hda
  have hb : Below w3.heap.size w3 (w3.alloc (.cells #[.slice a1 ln c1, .slice a2 sn c2, .slice a3 on c3] 27)) := (Below.refl _ _).alloc (Nat.le_refl _) _
  have B4 : Hid (Below w.heap.size w (w3.alloc (.cells #[.slice a1 ln c1, .slice a2 sn c2, .slice a3 on c3] 27))) := B3.out.trans (hb.mono B3.out.size)
  have A4 : Hid (DAt (w3.alloc (.cells #[.slice a1 ln c1, .slice a2 sn c2, .slice a3 on c3] 27)) la sa oa L S O) := A3.out.below hb
  have M4 : Hid ((w3.alloc (.cells #[.slice a1 ln c1, .slice a2 sn c2, .slice a3 on c3] 27)).heap[i3]? = some (.cells #[.slice la ln lc, .slice sa sn sc, .slice oa on oc] 27 (0, 0))) := below_row hb (row_lt M3.out) M3.out
  have Y4 : Hid ((w3.alloc (.cells #[.slice a1 ln c1, .slice a2 sn c2, .slice a3 on c3] 27)).heap[i3 + 1]? = some (.cells #[.int .i64 k, .string n, .string t, .string d] 36 (0, 0))) := below_row hb (row_lt Y3.out) Y3.out
  have P4 : Hid (DA (w3.alloc (.cells #[.slice a1 ln c1, .slice a2 sn c2, .slice a3 on c3] 27)) w2.heap.size (.slice a1 ln c1) (.slice a2 sn c2) (.slice a3 on c3) L S O) := P3.out.below hb
  clear B3 A3 M3 Y3 P3
  have N4 : Hid ((w3.alloc (.cells #[.slice a1 ln c1, .slice a2 sn c2, .slice a3 on c3] 27)).heap[w3.heap.size]? = some (.cells #[.slice a1 ln c1, .slice a2 sn c2, .slice a3 on c3] 27 (0, 0))) := heap_alloc_new _ _
  clear hb
  obtain ⟨zm4_0, zm4_1, zm4_2⟩ := cells3 M4.out
  obtain ⟨zy4_0, zy4_1, zy4_2, zy4_3⟩ := cells4 Y4.out
  go_wp2_with fail
  obtain ⟨i5, HIi5⟩ : ∃ i, Hid (w3.heap.size = i) := ⟨_, rfl⟩
  rw [HIi5.out] at N4 ⊢
  generalize (w3.alloc (.cells #[.slice a1 ln c1, .slice a2 sn c2, .slice a3 on c3] 27)) = w4 at *
  clear HIi5
  refine (SO.out w4 A4.out).mono ?_
  rintro e w5 ⟨b1, e1, b2, e2, b3, e3, rfl, hb, -⟩
  have B5 : Hid (Below w.heap.size w w5) := B4.out.trans (hb.mono B4.out.size)
  have A5 : Hid (DAt w5 la sa oa L S O) := A4.out.below hb
  have M5 : Hid (w5.heap[i3]? = some (.cells #[.slice la ln lc, .slice sa sn sc, .slice oa on oc] 27 (0, 0))) := below_row hb (row_lt M4.out) M4.out
  have Y5 : Hid (w5.heap[i3 + 1]? = some (.cells #[.int .i64 k, .string n, .string t, .string d] 36 (0, 0))) := below_row hb (row_lt Y4.out) Y4.out
  have P5 : Hid (DA w5 w2.heap.size (.slice a1 ln c1) (.slice a2 sn c2) (.slice a3 on c3) L S O) := P4.out.below hb
  have N5 : Hid (w5.heap[i5]? = some (.cells #[.slice a1 ln c1, .slice a2 sn c2, .slice a3 on c3] 27 (0, 0))) := below_row hb (row_lt N4.out) N4.out
  clear B4 A4 M4 Y4 P4 N4
  clear zm4_0 zm4_1 zm4_2 zy4_0 zy4_1 zy4_2 zy4_3
  clear hb
  have hb : Below w5.heap.size w5 (w5.alloc (.cells #[.slice b1 ln e1, .slice b2 sn e2, .slice b3 on e3] 27)) := (Below.refl _ _).alloc (Nat.le_refl _) _
  have B6 : Hid (Below w.heap.size w (w5.alloc (.cells #[.slice b1 ln e1, .slice b2 sn e2, .slice b3 on e3] 27))) := B5.out.trans (hb.mono B5.out.size)
  have A6 : Hid (DAt (w5.alloc (.cells #[.slice b1 ln e1, .slice b2 sn e2, .slice b3 on e3] 27)) la sa oa L S O) := A5.out.below hb
  have M6 : Hid ((w5.alloc (.cells #[.slice b1 ln e1, .slice b2 sn e2, .slice b3 on e3] 27)).heap[i3]? = some (.cells #[.slice la ln lc, .slice sa sn sc, .slice oa on oc] 27 (0, 0))) := below_row hb (row_lt M5.out) M5.out
  have Y6 : Hid ((w5.alloc (.cells #[.slice b1 ln e1, .slice b2 sn e2, .slice b3 on e3] 27)).heap[i3 + 1]? = some (.cells #[.int .i64 k, .string n, .string t, .string d] 36 (0, 0))) := below_row hb (row_lt Y5.out) Y5.out
  have P6 : Hid (DA (w5.alloc (.cells #[.slice b1 ln e1, .slice b2 sn e2, .slice b3 on e3] 27)) w2.heap.size (.slice a1 ln c1) (.slice a2 sn c2) (.slice a3 on c3) L S O) := P5.out.below hb
  have N6 : Hid ((w5.alloc (.cells #[.slice b1 ln e1, .slice b2 sn e2, .slice b3 on e3] 27)).heap[i5]? = some (.cells #[.slice a1 ln c1, .slice a2 sn c2, .slice a3 on c3] 27 (0, 0))) := below_row hb (row_lt N5.out) N5.out
  clear B5 A5 M5 Y5 P5 N5
  have U6 : Hid ((w5.alloc (.cells #[.slice b1 ln e1, .slice b2 sn e2, .slice b3 on e3] 27)).heap[w5.heap.size]? = some (.cells #[.slice b1 ln e1, .slice b2 sn e2, .slice b3 on e3] 27 (0, 0))) := heap_alloc_new _ _
  clear hb
  obtain ⟨zm6_0, zm6_1, zm6_2⟩ := cells3 M6.out
  go_wp2_with fail
  obtain ⟨i7, HIi7⟩ : ∃ i, Hid (w5.heap.size = i) := ⟨_, rfl⟩
  rw [HIi7.out] at U6 ⊢
  generalize (w5.alloc (.cells #[.slice b1 ln e1, .slice b2 sn e2, .slice b3 on e3] 27)) = w6 at *
  clear HIi7
  refine (SD.out w6 _ A6.out hd).mono ?_
  rintro e w7 ⟨rfl, hb⟩
  have B7 : Hid (Below w.heap.size w w7) := B6.out.trans (hb.mono B6.out.size)
  have A7 : Hid (DAt w7 la sa oa L S O) := A6.out.below hb
  have M7 : Hid (w7.heap[i3]? = some (.cells #[.slice la ln lc, .slice sa sn sc, .slice oa on oc] 27 (0, 0))) := below_row hb (row_lt M6.out) M6.out
  have Y7 : Hid (w7.heap[i3 + 1]? = some (.cells #[.int .i64 k, .string n, .string t, .string d] 36 (0, 0))) := below_row hb (row_lt Y6.out) Y6.out
  have P7 : Hid (DA w7 w2.heap.size (.slice a1 ln c1) (.slice a2 sn c2) (.slice a3 on c3) L S O) := P6.out.below hb
  have N7 : Hid (w7.heap[i5]? = some (.cells #[.slice a1 ln c1, .slice a2 sn c2, .slice a3 on c3] 27 (0, 0))) := below_row hb (row_lt N6.out) N6.out
  have U7 : Hid (w7.heap[i7]? = some (.cells #[.slice b1 ln e1, .slice b2 sn e2, .slice b3 on e3] 27 (0, 0))) := below_row hb (row_lt U6.out) U6.out
  clear B6 A6 M6 Y6 P6 N6 U6
  clear zm6_0 zm6_1 zm6_2
  clear hb
  have hkb : (kd == 0) = false := by simp [hkd]
  have hkn : (kd != 0) = true := by simp [hkd]
  obtain ⟨zm7_0, zm7_1, zm7_2⟩ := cells3 M7.out
  obtain ⟨zn7_0, zn7_1, zn7_2⟩ := cells3 N7.out
  go_wp2_with fail
  refine (SM.out w7 _ _ _ _ _ L HLN.out bl (P7.out.at HLN.out HSN.out HON.out).l A7.out.l).mono ?_
  rintro e w8 ⟨rfl, hb⟩
  have B8 : Hid (Below w.heap.size w w8) := B7.out.trans (hb.mono B7.out.size)
  have A8 : Hid (DAt w8 la sa oa L S O) := A7.out.below hb
  have M8 : Hid (w8.heap[i3]? = some (.cells #[.slice la ln lc, .slice sa sn sc, .slice oa on oc] 27 (0, 0))) := below_row hb (row_lt M7.out) M7.out
  have Y8 : Hid (w8.heap[i3 + 1]? = some (.cells #[.int .i64 k, .string n, .string t, .string d] 36 (0, 0))) := below_row hb (row_lt Y7.out) Y7.out
  have P8 : Hid (DA w8 w2.heap.size (.slice a1 ln c1) (.slice a2 sn c2) (.slice a3 on c3) L S O) := P7.out.below hb
  have N8 : Hid (w8.heap[i5]? = some (.cells #[.slice a1 ln c1, .slice a2 sn c2, .slice a3 on c3] 27 (0, 0))) := below_row hb (row_lt N7.out) N7.out
  have U8 : Hid (w8.heap[i7]? = some (.cells #[.slice b1 ln e1, .slice b2 sn e2, .slice b3 on e3] 27 (0, 0))) := below_row hb (row_lt U7.out) U7.out
  clear B7 A7 M7 Y7 P7 N7 U7
  clear zm7_0 zm7_1 zm7_2 zn7_0 zn7_1 zn7_2
  clear hb
  obtain ⟨zm8_0, zm8_1, zm8_2⟩ := cells3 M8.out
  obtain ⟨zn8_0, zn8_1, zn8_2⟩ := cells3 N8.out
  go_wp2_with fail
  refine (SM.out w8 _ _ _ _ _ S HSN.out bs' (P8.out.at HLN.out HSN.out HON.out).s A8.out.s).mono ?_
  rintro e w9 ⟨rfl, hb⟩
  have B9 : Hid (Below w.heap.size w w9) := B8.out.trans (hb.mono B8.out.size)
  have A9 : Hid (DAt w9 la sa oa L S O) := A8.out.below hb
  have M9 : Hid (w9.heap[i3]? = some (.cells #[.slice la ln lc, .slice sa sn sc, .slice oa on oc] 27 (0, 0))) := below_row hb (row_lt M8.out) M8.out
  have Y9 : Hid (w9.heap[i3 + 1]? = some (.cells #[.int .i64 k, .string n, .string t, .string d] 36 (0, 0))) := below_row hb (row_lt Y8.out) Y8.out
  have P9 : Hid (DA w9 w2.heap.size (.slice a1 ln c1) (.slice a2 sn c2) (.slice a3 on c3) L S O) := P8.out.below hb
  have N9 : Hid (w9.heap[i5]? = some (.cells #[.slice a1 ln c1, .slice a2 sn c2, .slice a3 on c3] 27 (0, 0))) := below_row hb (row_lt N8.out) N8.out
  have U9 : Hid (w9.heap[i7]? = some (.cells #[.slice b1 ln e1, .slice b2 sn e2, .slice b3 on e3] 27 (0, 0))) := below_row hb (row_lt U8.out) U8.out
  clear B8 A8 M8 Y8 P8 N8 U8
  clear zm8_0 zm8_1 zm8_2 zn8_0 zn8_1 zn8_2
  clear hb
  obtain ⟨zm9_0, zm9_1, zm9_2⟩ := cells3 M9.out
  obtain ⟨zn9_0, zn9_1, zn9_2⟩ := cells3 N9.out
  go_wp2
  go_ret
  exact ⟨by simp, B9.out⟩

end Go.Proofs.Ytpahhhocgpohbaa
