import Derived.Test.YtenkeinigkahaaaDoorPack1
import Derived.Test.YtenkeinigkahaaaDoorPack4
import Derived.Test.YtenkeinigkahaaaDoorFrClone
namespace Go.Proofs.YtenkeinigkahaaaDoor
open Go.RowKit

/-- The number of four bytes. -/
def wrdAt (s : ByteArray) (i : Nat) : Nat := ((byt s i * 256 + byt s (i + 1)) * 256 + byt s (i + 2)) * 256 + byt s (i + 3)
theorem wrdAt_lt (s : ByteArray) (i : Nat) : wrdAt s i < 4294967296 := by
  have h0 := byt_lt s i
  have h1 := byt_lt s (i + 1)
  have h2 := byt_lt s (i + 2)
  have h3 := byt_lt s (i + 3)
  unfold wrdAt
  omega
theorem or_add (k a b : Nat) (h : b < 2 ^ k) : 2 ^ k * a ||| b = 2 ^ k * a + b := (Nat.two_pow_add_eq_or_of_lt h a).symm
theorem or4 (b0 b1 b2 b3 : Nat) (h0 : b0 < 256) (h1 : b1 < 256) (h2 : b2 < 256) (h3 : b3 < 256) : bits BinOp.or IntKind.u32 (bits BinOp.or IntKind.u32 (bits BinOp.or IntKind.u32 ((b0 : Int) * 16777216) ((b1 : Int) * 65536)) ((b2 : Int) * 256)) (b3 : Int) = ((((b0 * 256 + b1) * 256 + b2) * 256 + b3 : Nat) : Int) := by
  have e1 : bits BinOp.or IntKind.u32 ((b0 : Int) * 16777216) ((b1 : Int) * 65536) = ((b0 * 16777216 + b1 * 65536 : Nat) : Int) := by
    have := u32_or_nat (b0 * 16777216) (b1 * 65536) (by omega) (by omega)
    rw [show b0 * 16777216 ||| b1 * 65536 = b0 * 16777216 + b1 * 65536 by rw [Nat.mul_comm b0]; exact or_add 24 b0 (b1 * 65536) (by omega)] at this
    exact this
  have e2 : bits BinOp.or IntKind.u32 ((b0 * 16777216 + b1 * 65536 : Nat) : Int) ((b2 : Int) * 256) = ((b0 * 16777216 + b1 * 65536 + b2 * 256 : Nat) : Int) := by
    have := u32_or_nat (b0 * 16777216 + b1 * 65536) (b2 * 256) (by omega) (by omega)
    rw [show b0 * 16777216 + b1 * 65536 ||| b2 * 256 = b0 * 16777216 + b1 * 65536 + b2 * 256 by
      rw [show b0 * 16777216 + b1 * 65536 = 2 ^ 16 * (b0 * 256 + b1) by omega]; exact or_add 16 _ _ (by omega)] at this
    exact this
  have e3 : bits BinOp.or IntKind.u32 ((b0 * 16777216 + b1 * 65536 + b2 * 256 : Nat) : Int) (b3 : Int) = ((b0 * 16777216 + b1 * 65536 + b2 * 256 + b3 : Nat) : Int) := by
    have := u32_or_nat (b0 * 16777216 + b1 * 65536 + b2 * 256) b3 (by omega) (by omega)
    rw [show b0 * 16777216 + b1 * 65536 + b2 * 256 ||| b3 = b0 * 16777216 + b1 * 65536 + b2 * 256 + b3 by
      rw [show b0 * 16777216 + b1 * 65536 + b2 * 256 = 2 ^ 8 * ((b0 * 256 + b1) * 256 + b2) by omega]; exact or_add 8 _ _ (by omega)] at this
    exact this
  rw [e1, e2, e3]
  omega

set_option maxRecDepth 100000 in
set_option maxHeartbeats 1000000 in
theorem wordAt_any (s : ByteArray) (hs : 4 ≤ s.size) (w : World) :
    Calls Tryd.prog 30 #[.string s] w fun e w' => e = .returned (.int .u32 (wrdAt s 0)) ∧ Below w.heap.size w w' := by
  have i0 := byt_idx s 0 (by omega)
  have i1 := byt_idx s 1 (by omega)
  have i2 := byt_idx s 2 (by omega)
  have i3 := byt_idx s 3 (by omega)
  have h0 := byt_lt s 0
  have h1 := byt_lt s 1
  have h2 := byt_lt s 2
  have h3 := byt_lt s 3
  have HW : Hid (wrdAt s 0 = ((byt s 0 * 256 + byt s 1) * 256 + byt s 2) * 256 + byt s 3) := rfl
  generalize byt s 0 = b0 at *
  generalize byt s 1 = b1 at *
  generalize byt s 2 = b2 at *
  generalize byt s 3 = b3 at *
  have HO : Hid _ := or4 b0 b1 b2 b3 h0 h1 h2 h3
  have hs0 : (0 : Int) < s.size := by omega
  have hs1 : (1 : Int) < s.size := by omega
  have hs2 : (2 : Int) < s.size := by omega
  have hs3 : (3 : Int) < s.size := by omega
  go_enter Tryd.func30, Tryd.ntmps30
  go_wp2_with fail
  go_region
  go_wp2
  go_ret
  refine ⟨?_, (Below.refl _ _).drew⟩
  rw [HW.out, ← HO.out]
  rfl

end Go.Proofs.YtenkeinigkahaaaDoor

namespace Go.Proofs.YtenkeinigkahaaaDoor
open Go.RowKit

theorem wrd_ext (s : ByteArray) (a b i : Nat) (h : a + i + 3 < b) : wrdAt (s.extract a b) i = wrdAt s (a + i) := by
  unfold wrdAt
  rw [byt_ext s a b i (by omega), byt_ext s a b (i + 1) (by omega), byt_ext s a b (i + 2) (by omega), byt_ext s a b (i + 3) (by omega)]
  simp only [Nat.add_assoc]
/-- Whether a text has a frame at i: it is whole, not too long, and its sum is right. -/
def frB (s : ByteArray) (i : Nat) : Bool := decide (i + 8 ≤ s.size) && (decide (wrdAt s i ≤ 1000000) && (decide (i + 8 + wrdAt s i ≤ s.size) && decide (sumV (s.extract (i + 8) (i + 8 + wrdAt s i)) = wrdAt s (i + 4))))
/-- Its data. -/
def frD (s : ByteArray) (i : Nat) : ByteArray := s.extract (i + 8) (i + 8 + wrdAt s i)
theorem frB_true {s : ByteArray} {i : Nat} (h : frB s i = true) : i + 8 ≤ s.size ∧ wrdAt s i ≤ 1000000 ∧ i + 8 + wrdAt s i ≤ s.size ∧ sumV (frD s i) = wrdAt s (i + 4) := by
  unfold frB at h
  simp only [Bool.and_eq_true, decide_eq_true_eq] at h
  exact h
theorem frD_size {s : ByteArray} {i : Nat} (h : i + 8 + wrdAt s i ≤ s.size) : (frD s i).size = wrdAt s i := by
  unfold frD; rw [ext_size _ _ _ h]; omega

set_option maxRecDepth 100000 in
set_option maxHeartbeats 1000000 in
theorem firstFrame_any (s : ByteArray) (hs : s.size ≤ 1048576) (w : World) (hT : TabW w) (b : Bool) (hb : frB s 0 = b) :
    Calls Tryd.prog 21 #[.string s] w fun e w' => ∃ d, e = .returned (.tuple #[.string d, .bool b]) ∧ (b = true → d = frD s 0) ∧ Below w.heap.size w w' := by
  have T1 : Hid (TabW w) := hT
  clear hT
  have HB : Hid (frB s 0 = b) := hb
  clear hb
  by_cases h8 : s.size < 8
  · have hb : b = false := by rw [← HB.out]; unfold frB; rw [decide_eq_false (by omega)]; rfl
    subst hb
    have h8' : (s.size : Int) < 8 := by omega
    go_enter Tryd.func21, Tryd.ntmps21
    go_wp2
    go_ret2
    first | exact ⟨_, rfl, (fun h => Bool.noConfusion h), Below.refl _ _⟩ | exact Below.refl _ _ | exact ⟨_, rfl, Below.refl _ _⟩ | exact ⟨⟨_, rfl⟩, Below.refl _ _⟩
  · have h8' : ¬ ((s.size : Int) < 8) := by omega
    have W1 : Hid (∀ W, Calls Tryd.prog 30 #[.string s] W fun e w' => e = .returned (.int .u32 (wrdAt s 0)) ∧ Below W.heap.size W w') := fun W => wordAt_any s (by omega) W
    have W2 : Hid (∀ W, Calls Tryd.prog 30 #[.string (s.extract 4 s.size)] W fun e w' => e = .returned (.int .u32 (wrdAt s 4)) ∧ Below W.heap.size W w') := fun W => by
      have := wordAt_any (s.extract 4 s.size) (by rw [ext_size _ _ _ (Nat.le_refl _)]; omega) W
      rw [wrd_ext s 4 s.size 0 (by omega)] at this
      exact this
    have hl1 := wrdAt_lt s 0
    have hl2 := wrdAt_lt s 4
    obtain ⟨n, HN⟩ : ∃ n, Hid (wrdAt s 0 = n) := ⟨_, rfl⟩
    obtain ⟨m, HM⟩ : ∃ n, Hid (wrdAt s 4 = n) := ⟨_, rfl⟩
    rw [HN.out] at hl1 W1
    rw [HM.out] at hl2 W2
    obtain ⟨t, HTt⟩ : ∃ t, Hid (s.extract 4 s.size = t) := ⟨_, rfl⟩
    rw [HTt.out] at W2
    have hTt := HTt.out
    have h4 : (4 : Int) ≤ s.size := by omega
    have h8n : (8 : Int) ≤ s.size := by omega
    have hkin := Kin.there w
    go_enter Tryd.func21, Tryd.ntmps21
    go_wp2_with fail
    refine wp_region_kin (by kernel_rfl) (by kernel_rfl) ?_
    repeat (go_big_quiet_step ((first
      | (go_at_call 30; with_reducible exact Kin.call (W1.out _))
      | (go_at_call 30; with_reducible exact Kin.call (W2.out _)))))
    refine wpQuiet_nil ?_
    rintro _ ⟨s1, rfl⟩
    clear hkin hTt HTt W1 W2
    obtain ⟨r, HR⟩ : ∃ r, Hid (s.extract 8 s.size = r) := ⟨_, rfl⟩
    rw [HR.out]
    have hrs : r.size = s.size - 8 := by rw [← HR.out, ext_size _ _ _ (Nat.le_refl _)]
    have T2 : Hid (TabW s1.w) := T1.out.below s1.below
    have B2 : Hid (Below w.heap.size w s1.w) := s1.below
    generalize s1.w = w2 at *
    clear T1
    by_cases hbig : 1000000 < n
    · have hb : b = false := by rw [← HB.out]; unfold frB; rw [HN.out, decide_eq_false (show ¬ n ≤ 1000000 by omega)]; simp
      subst hb
      have hbig' : (1000000 : Int) < n := by omega
      go_wp2
      go_ret2
      first | exact ⟨_, rfl, (fun h => Bool.noConfusion h), B2.out⟩ | exact B2.out | exact ⟨_, rfl, B2.out⟩ | exact ⟨⟨_, rfl⟩, B2.out⟩
    · have hbig' : ¬ ((1000000 : Int) < n) := by omega
      by_cases hlong : r.size < n
      · have hb : b = false := by rw [← HB.out]; unfold frB; rw [HN.out, decide_eq_false (show ¬ 0 + 8 + n ≤ s.size by omega)]; simp
        subst hb
        have hlong' : (r.size : Int) < n := by omega
        go_wp2
        go_ret2
        exact ⟨⟨_, rfl⟩, B2.out⟩
      · have hlong' : ¬ ((r.size : Int) < n) := by omega
        have hle : (n : Int) ≤ r.size := by omega
        obtain ⟨d, HD⟩ : ∃ d, Hid (r.extract 0 n = d) := ⟨_, rfl⟩
        have HDF : Hid (d = frD s 0) := by
          show d = _
          unfold frD
          rw [← HD.out, ← HR.out, ext_ext s 8 s.size 0 n (by omega), HN.out]
        have hds : d.size = n := by rw [← HD.out, ext_size _ _ _ (by omega)]; omega
        have hDe := HD.out
        go_wp2_with fail
        refine (crcOf_any d (by omega) w2 T2.out).mono ?_
        rintro e w3 ⟨rfl, hb3⟩
        have B3 : Hid (Below w.heap.size w w3) := B2.out.trans (hb3.mono B2.out.size)
        clear hb3
        obtain ⟨x, HX⟩ : ∃ x, Hid (sumV d = x) := ⟨_, rfl⟩
        rw [HX.out]
        have HBX : Hid (b = decide (x = m)) := by
          show b = _
          rw [← HB.out, ← HX.out, ← HM.out, HDF.out]
          unfold frB frD
          rw [HN.out, decide_eq_true (show 0 + 8 ≤ s.size by omega), decide_eq_true (show n ≤ 1000000 by omega), decide_eq_true (show 0 + 8 + n ≤ s.size by omega)]
          simp
        by_cases hxm : x = m
        · have hb : b = true := by rw [HBX.out]; exact decide_eq_true hxm
          subst hb hxm
          have hee : ((x : Int) == (x : Int)) = true := by simp
          go_wp2
          go_ret2
          first | exact ⟨_, rfl, (fun _ => HDF.out), B3.out⟩ | exact ⟨HDF.out, B3.out⟩ | exact ⟨_, rfl, HDF.out, B3.out⟩
        · have hb : b = false := by rw [HBX.out]; exact decide_eq_false hxm
          subst hb
          have hne : ((x : Int) == (m : Int)) = false := by simp; omega
          go_wp2
          go_ret2
          first | exact ⟨_, rfl, (fun h => Bool.noConfusion h), B3.out⟩ | exact B3.out | exact ⟨_, rfl, B3.out⟩ | exact ⟨⟨_, rfl⟩, B3.out⟩

end Go.Proofs.YtenkeinigkahaaaDoor

namespace Go.Proofs.YtenkeinigkahaaaDoor
open Go.RowKit

theorem byt_four (x j : Nat) (hj : j < 4) : byt (fourB x) j = UInt8.toNat (UInt8.ofNat ((fourL x).getD j 0).toNat) := by
  unfold byt fourB
  rw [strOfNums_data]
  match j, hj with
  | 0, _ => rfl
  | 1, _ => rfl
  | 2, _ => rfl
  | 3, _ => rfl
theorem u8_of {n : Nat} (h : n < 256) : UInt8.toNat (UInt8.ofNat n) = n := by
  simp [UInt8.toNat_ofNat']; omega
theorem four_bytes (x : Nat) (hx : x < 4294967296) : byt (fourB x) 0 = x / 16777216 ∧ byt (fourB x) 1 = x / 65536 % 256 ∧ byt (fourB x) 2 = x / 256 % 256 ∧ byt (fourB x) 3 = x % 256 := by
  refine ⟨?_, ?_, ?_, ?_⟩
  · rw [byt_four x 0 (by omega), show ((fourL x).getD 0 0).toNat = x / 16777216 by simp [fourL]; omega, u8_of (by omega)]
  · rw [byt_four x 1 (by omega), show ((fourL x).getD 1 0).toNat = x / 65536 % 256 by simp [fourL]; omega, u8_of (by omega)]
  · rw [byt_four x 2 (by omega), show ((fourL x).getD 2 0).toNat = x / 256 % 256 by simp [fourL]; omega, u8_of (by omega)]
  · rw [byt_four x 3 (by omega), show ((fourL x).getD 3 0).toNat = x % 256 by simp [fourL]; omega, u8_of (by omega)]
theorem wrd_four (x : Nat) (hx : x < 4294967296) : wrdAt (fourB x) 0 = x := by
  obtain ⟨h0, h1, h2, h3⟩ := four_bytes x hx
  unfold wrdAt
  simp only [Nat.zero_add]
  rw [h0, h1, h2, h3]
  omega
theorem four_wrd (t : ByteArray) (ht : t.size = 4) : fourB (wrdAt t 0) = t := by
  have hx := wrdAt_lt t 0
  obtain ⟨h0, h1, h2, h3⟩ := four_bytes (wrdAt t 0) hx
  have b0 := byt_lt t 0
  have b1 := byt_lt t 1
  have b2 := byt_lt t 2
  have b3 := byt_lt t 3
  have hw : wrdAt t 0 = ((byt t 0 * 256 + byt t 1) * 256 + byt t 2) * 256 + byt t 3 := rfl
  apply ba_ext (by rw [fourB_size, ht])
  intro i hi
  rw [fourB_size] at hi
  match i, hi with
  | 0, _ => rw [h0, hw]; omega
  | 1, _ => rw [h1, hw]; omega
  | 2, _ => rw [h2, hw]; omega
  | 3, _ => rw [h3, hw]; omega
/-- Four bytes are those of a number just where it is theirs. -/
theorem four_iff {s : ByteArray} {a x : Nat} (hx : x < 4294967296) (ha : a + 4 ≤ s.size) : fourB x = s.extract a (a + 4) ↔ x = wrdAt s a := by
  have hsz : (s.extract a (a + 4)).size = 4 := by rw [ext_size _ _ _ ha]; omega
  have hw : wrdAt (s.extract a (a + 4)) 0 = wrdAt s a := wrd_ext s a (a + 4) 0 (by omega)
  constructor
  · intro h
    have := wrd_four x hx
    rw [h, hw] at this
    exact this.symm
  · intro h
    rw [h, ← hw]
    exact four_wrd _ hsz
theorem frB_iff {s : ByteArray} {i : Nat} : frB s i = true ↔ i + 8 ≤ s.size ∧ wrdAt s i ≤ 1000000 ∧ i + 8 + wrdAt s i ≤ s.size ∧ sumV (frD s i) = wrdAt s (i + 4) := by
  unfold frB frD
  simp only [Bool.and_eq_true, decide_eq_true_eq]
theorem frD_ext' (s : ByteArray) (i : Nat) (h : i + 8 + wrdAt s i ≤ s.size) : frD (s.extract i s.size) 0 = frD s i := by
  have e1 : wrdAt (s.extract i s.size) 0 = wrdAt s i := wrd_ext s i s.size 0 (by omega)
  unfold frD
  rw [e1, ext_ext s i s.size (0 + 8) (0 + 8 + wrdAt s i) (by omega), show i + (0 + 8) = i + 8 by omega, show i + (0 + 8 + wrdAt s i) = i + 8 + wrdAt s i by omega]
theorem frB_ext (s : ByteArray) (i : Nat) (hi : i ≤ s.size) : frB (s.extract i s.size) 0 = frB s i := by
  have hsz : (s.extract i s.size).size = s.size - i := ext_size _ _ _ (Nat.le_refl _)
  apply Bool.eq_iff_iff.2
  rw [frB_iff, frB_iff, hsz]
  by_cases h : i + 8 ≤ s.size
  · have e1 : wrdAt (s.extract i s.size) 0 = wrdAt s i := wrd_ext s i s.size 0 (by omega)
    have e2 : wrdAt (s.extract i s.size) (0 + 4) = wrdAt s (i + 4) := wrd_ext s i s.size (0 + 4) (by omega)
    rw [e1, e2]
    constructor
    · rintro ⟨_, b, c, d⟩
      have hc : i + 8 + wrdAt s i ≤ s.size := by omega
      rw [frD_ext' s i hc] at d
      exact ⟨h, b, hc, d⟩
    · rintro ⟨_, b, c, d⟩
      rw [frD_ext' s i c]
      exact ⟨by omega, b, by omega, d⟩
  · constructor
    · rintro ⟨a, _⟩
      omega
    · rintro ⟨a, _⟩
      omega
theorem frD_ext (s : ByteArray) (i : Nat) (h : frB s i = true) : frD (s.extract i s.size) 0 = frD s i := frD_ext' s i (frB_true h).2.2.1
/-- What was taken in so many steps, and the place behind it. -/
def tkS (s : ByteArray) : Nat → List ByteArray × Nat
  | 0 => ([], 0)
  | k + 1 => if frB s (tkS s k).2 = true then ((tkS s k).1 ++ [frD s (tkS s k).2], (tkS s k).2 + 8 + wrdAt s (tkS s k).2) else tkS s k
theorem tkS_yes {s : ByteArray} {k : Nat} (h : frB s (tkS s k).2 = true) : tkS s (k + 1) = ((tkS s k).1 ++ [frD s (tkS s k).2], (tkS s k).2 + 8 + wrdAt s (tkS s k).2) := by
  simp only [tkS]; rw [if_pos h]
theorem tkS_no {s : ByteArray} {k : Nat} (h : frB s (tkS s k).2 = false) : ∀ m, tkS s (k + m) = tkS s k
  | 0 => rfl
  | m + 1 => by
    have ih := tkS_no h m
    show tkS s (k + m + 1) = _
    simp only [tkS]
    rw [ih, if_neg (by rw [h]; simp)]
theorem tkS_end {s : ByteArray} {j k : Nat} (hj : frB s (tkS s j).2 = false) (hk : frB s (tkS s k).2 = false) : tkS s j = tkS s k := by
  rcases Nat.le_total j k with h | h
  · have := tkS_no hj (k - j); rw [show j + (k - j) = k by omega] at this; exact this.symm
  · have := tkS_no hk (j - k); rw [show k + (j - k) = j by omega] at this; exact this
theorem tkS_le (s : ByteArray) : ∀ k, (tkS s k).2 ≤ s.size ∧ 8 * (tkS s k).1.length ≤ (tkS s k).2
  | 0 => ⟨Nat.zero_le _, by simp [tkS]⟩
  | k + 1 => by
    have ih := tkS_le s k
    by_cases h : frB s (tkS s k).2 = true
    · rw [tkS_yes h]
      obtain ⟨h1, h2, h3, _⟩ := frB_true h
      exact ⟨h3, by simp; omega⟩
    · simp only [tkS]; rw [if_neg h]; exact ih

end Go.Proofs.YtenkeinigkahaaaDoor

namespace Go.Proofs.YtenkeinigkahaaaDoor
open Go.RowKit

theorem byt_app_l (a b : ByteArray) (i : Nat) (h : i < a.size) : byt (a ++ b) i = byt a i := by
  unfold byt
  have : (a ++ b).data.toList = a.data.toList ++ b.data.toList := by simp [ByteArray.data_append]
  have hl : a.data.toList.length = a.size := Array.length_toList
  rw [this, List.getD_eq_getElem?_getD, List.getElem?_append_left (by omega), List.getD_eq_getElem?_getD]
theorem byt_app_r (a b : ByteArray) (i : Nat) : byt (a ++ b) (a.size + i) = byt b i := by
  unfold byt
  have : (a ++ b).data.toList = a.data.toList ++ b.data.toList := by simp [ByteArray.data_append]
  have hl : a.data.toList.length = a.size := Array.length_toList
  rw [this, List.getD_eq_getElem?_getD, List.getElem?_append_right (by omega), hl, Nat.add_sub_cancel_left, List.getD_eq_getElem?_getD]
theorem ext_app (s : ByteArray) (a b c : Nat) (hab : a ≤ b) (hbc : b ≤ c) (hc : c ≤ s.size) : s.extract a b ++ s.extract b c = s.extract a c := by
  have h1 : (s.extract a b).size = b - a := ext_size _ _ _ (by omega)
  have h2 : (s.extract b c).size = c - b := ext_size _ _ _ hc
  have h3 : (s.extract a c).size = c - a := ext_size _ _ _ hc
  apply ba_ext (by rw [ByteArray.size_append, h1, h2, h3]; omega)
  intro i hi
  rw [ByteArray.size_append, h1, h2] at hi
  rw [byt_ext s a c i (by omega)]
  by_cases h : i < b - a
  · rw [byt_app_l _ _ _ (by omega), byt_ext s a b i (by omega)]
  · have e : i = (s.extract a b).size + (i - (b - a)) := by omega
    rw [e, byt_app_r, byt_ext s b c _ (by omega)]
    congr 1
    omega
theorem app_ext_l (a b : ByteArray) (i j : Nat) (h : j ≤ a.size) : (a ++ b).extract i j = a.extract i j := by
  have hs : (a ++ b).size = a.size + b.size := ByteArray.size_append
  have h1 : ((a ++ b).extract i j).size = j - i := ext_size _ _ _ (by omega)
  have h2 : (a.extract i j).size = j - i := ext_size _ _ _ h
  apply ba_ext (by omega)
  intro k hk
  rw [byt_ext _ _ _ _ (by omega), byt_ext _ _ _ _ (by omega), byt_app_l _ _ _ (by omega)]
theorem app_ext_r (a b : ByteArray) (i j : Nat) (h : j ≤ b.size) : (a ++ b).extract (a.size + i) (a.size + j) = b.extract i j := by
  have hs : (a ++ b).size = a.size + b.size := ByteArray.size_append
  have h1 : ((a ++ b).extract (a.size + i) (a.size + j)).size = j - i := by rw [ext_size _ _ _ (by omega)]; omega
  have h2 : (b.extract i j).size = j - i := ext_size _ _ _ h
  apply ba_ext (by omega)
  intro k hk
  rw [byt_ext _ _ _ _ (by omega), byt_ext _ _ _ _ (by omega), Nat.add_assoc, byt_app_r]
theorem ext_all (s : ByteArray) : s.extract 0 s.size = s := by
  apply ba_ext (by rw [ext_size _ _ _ (Nat.le_refl _)]; omega)
  intro i hi
  rw [ext_size _ _ _ (Nat.le_refl _)] at hi
  rw [byt_ext s 0 s.size i (by omega), Nat.zero_add]
theorem wrd_app_r (a b : ByteArray) (i : Nat) : wrdAt (a ++ b) (a.size + i) = wrdAt b i := by
  unfold wrdAt
  rw [byt_app_r, Nat.add_assoc a.size i 1, Nat.add_assoc a.size i 2, Nat.add_assoc a.size i 3, byt_app_r, byt_app_r, byt_app_r]
theorem wrd_app_l (a b : ByteArray) (i : Nat) (h : i + 3 < a.size) : wrdAt (a ++ b) i = wrdAt a i := by
  unfold wrdAt
  rw [byt_app_l _ _ _ (by omega), byt_app_l _ _ _ (by omega), byt_app_l _ _ _ (by omega), byt_app_l _ _ _ (by omega)]
/-- The frame of what is read is what was read. -/
theorem frV_frD {s : ByteArray} {i : Nat} (h : frB s i = true) : frV (frD s i) = s.extract i (i + 8 + wrdAt s i) := by
  obtain ⟨h1, h2, h3, h4⟩ := frB_true h
  have hsz := frD_size h3
  rw [frV_yes (by omega), hsz, h4]
  have e1 : fourB (wrdAt s i) = s.extract i (i + 4) := (four_iff (wrdAt_lt s i) (by omega)).2 rfl
  have e2 : fourB (wrdAt s (i + 4)) = s.extract (i + 4) (i + 4 + 4) := (four_iff (wrdAt_lt s (i + 4)) (by omega)).2 rfl
  rw [e1, e2, show i + 4 + 4 = i + 8 by omega]
  unfold frD
  rw [ext_app s i (i + 4) (i + 8) (by omega) (by omega) (by omega), ext_app s i (i + 8) _ (by omega) (by omega) h3]
/-- A frame that stands in a text is read there. -/
theorem parse_one (A x r : ByteArray) (hx : x.size ≤ 1000000) : frB (A ++ (frV x ++ r)) A.size = true ∧ wrdAt (A ++ (frV x ++ r)) A.size = x.size ∧ frD (A ++ (frV x ++ r)) A.size = x := by
  have hf : frV x = fourB x.size ++ (fourB (sumV x) ++ x) := by rw [frV_yes (by omega), ByteArray.append_assoc]
  have hfs : (frV x).size = 8 + x.size := by rw [hf, ByteArray.size_append, ByteArray.size_append, fourB_size, fourB_size]; omega
  have hu : (A ++ (frV x ++ r)).size = A.size + (8 + x.size + r.size) := by rw [ByteArray.size_append, ByteArray.size_append, hfs]
  have hw0 : wrdAt (A ++ (frV x ++ r)) A.size = x.size := by
    have := wrd_app_r A (frV x ++ r) 0
    rw [Nat.add_zero] at this
    rw [this, wrd_app_l _ _ _ (by omega), hf, wrd_app_l _ _ _ (by rw [fourB_size]; omega), wrd_four _ (by omega)]
  have hw4 : wrdAt (A ++ (frV x ++ r)) (A.size + 4) = sumV x := by
    rw [wrd_app_r, wrd_app_l _ _ _ (by omega), hf]
    have := wrd_app_r (fourB x.size) (fourB (sumV x) ++ x) 0
    rw [fourB_size, Nat.add_zero] at this
    rw [this, wrd_app_l _ _ _ (by rw [fourB_size]; omega), wrd_four _ (sumV_lt x)]
  have hd : frD (A ++ (frV x ++ r)) A.size = x := by
    unfold frD
    rw [hw0, Nat.add_assoc A.size 8 x.size, app_ext_r A (frV x ++ r) 8 (8 + x.size) (by rw [ByteArray.size_append, hfs]; omega), app_ext_l _ _ _ _ (by omega), hf, ← ByteArray.append_assoc]
    have h8 : (fourB x.size ++ fourB (sumV x)).size = 8 := by rw [ByteArray.size_append, fourB_size, fourB_size]
    have := app_ext_r (fourB x.size ++ fourB (sumV x)) x 0 x.size (Nat.le_refl _)
    rw [h8, Nat.add_zero] at this
    rw [this, ext_all]
  refine ⟨frB_iff.2 ⟨by omega, by rw [hw0]; exact hx, by rw [hw0]; omega, by rw [hd, hw4]⟩, hw0, hd⟩
/-- The frames of texts, one behind the other. -/
def catF (l : List ByteArray) : ByteArray := l.foldl (fun a x => a ++ frV x) ⟨#[]⟩
theorem catF_snoc (l : List ByteArray) (x : ByteArray) : catF (l ++ [x]) = catF l ++ frV x := by simp [catF, List.foldl_append]
theorem catF_tk (s : ByteArray) : ∀ k, catF (tkS s k).1 = s.extract 0 (tkS s k).2
  | 0 => by
    show (⟨#[]⟩ : ByteArray) = s.extract 0 0
    apply ba_ext
    · rw [ByteArray.size_extract]; simp; rfl
    · intro i hi
      exact absurd hi (by show ¬ i < 0; omega)
  | k + 1 => by
    by_cases h : frB s (tkS s k).2 = true
    · rw [tkS_yes h, catF_snoc, catF_tk s k, frV_frD h]
      have := (frB_true h).2.2.1
      exact ext_app s 0 _ _ (Nat.zero_le _) (by omega) this
    · simp only [tkS]; rw [if_neg h]; exact catF_tk s k
theorem tk_small (s : ByteArray) : ∀ k, ∀ x ∈ (tkS s k).1, x.size ≤ 1000000
  | 0 => by simp [tkS]
  | k + 1 => by
    by_cases h : frB s (tkS s k).2 = true
    · rw [tkS_yes h]
      intro x hx
      rcases List.mem_append.1 hx with hx | hx
      · exact tk_small s k x hx
      · have : x = frD s (tkS s k).2 := by simpa using hx
        rw [this, frD_size (frB_true h).2.2.1]
        exact (frB_true h).2.1
    · simp only [tkS]; rw [if_neg h]; exact tk_small s k
theorem app_nil (s : ByteArray) : s ++ (⟨#[]⟩ : ByteArray) = s := by
  apply ByteArray.ext; simp
/-- Frames that stand one behind the other are read one behind the other. -/
theorem parse_all : ∀ (n : Nat) (l : List ByteArray) (r : ByteArray), l.length = n → (∀ x ∈ l, x.size ≤ 1000000) → tkS (catF l ++ r) n = (l, (catF l).size)
  | 0, l, r, hl, _ => by
    have : l = [] := List.eq_nil_of_length_eq_zero hl
    subst this
    rfl
  | n + 1, l, r, hl, hs => by
    obtain ⟨l', x, rfl⟩ : ∃ l' x, l = l' ++ [x] := ⟨l.dropLast, l.getLast (by intro e; rw [e] at hl; simp at hl), (List.dropLast_concat_getLast _).symm⟩
    have hl' : l'.length = n := by simpa using hl
    have hx : x.size ≤ 1000000 := hs x (by simp)
    have ih := parse_all n l' (frV x ++ r) hl' (fun y hy => hs y (List.mem_append_left _ hy))
    obtain ⟨p1, p2, p3⟩ := parse_one (catF l') x r hx
    have e : catF (l' ++ [x]) ++ r = catF l' ++ (frV x ++ r) := by rw [catF_snoc, ByteArray.append_assoc]
    rw [e, tkS_yes (by rw [ih]; exact p1), ih]
    simp only
    rw [p2, p3, catF_snoc, ByteArray.size_append, frV_yes (by omega), ByteArray.size_append, ByteArray.size_append, fourB_size, fourB_size]
    simp only [Prod.mk.injEq, true_and]
    omega
theorem frB_end (s : ByteArray) : frB s s.size = false := by
  unfold frB
  rw [decide_eq_false (by omega)]
  rfl
theorem catF_take (l : List ByteArray) : ∀ i, i < l.length → catF (l.take (i + 1)) = catF (l.take i) ++ frV (l.getD i ⟨#[]⟩) := fun i hi => by
  rw [List.take_succ_eq_append_getElem hi, catF_snoc]
  simp [List.getD, hi]
/-- The texts that are read of frames that are cut are the first few. -/
theorem parse_cut (l : List ByteArray) (hs : ∀ x ∈ l, x.size ≤ 1000000) (k : Nat) (hk : k ≤ (catF l).size) : ∀ j, ∃ i, i ≤ l.length ∧ tkS ((catF l).extract 0 k) j = (l.take i, (catF (l.take i)).size)
  | 0 => ⟨0, Nat.zero_le _, rfl⟩
  | j + 1 => by
    obtain ⟨i, hi, h⟩ := parse_cut l hs k hk j
    by_cases hb : frB ((catF l).extract 0 k) (tkS ((catF l).extract 0 k) j).2 = true
    · rw [tkS_yes hb, h]
      rw [h] at hb
      simp only at hb ⊢
      obtain ⟨b1, b2, b3, b4⟩ := frB_true hb
      have hvs : ((catF l).extract 0 k).size = k := by rw [ext_size _ _ _ hk]; omega
      rw [hvs] at b1 b3
      have hil : i < l.length := by
        rcases Nat.lt_or_ge i l.length with h' | h'
        · exact h'
        · have : l.take i = l := List.take_of_length_le h'
          rw [this] at b1
          omega
      obtain ⟨A, HA⟩ : ∃ A, catF (l.take i) = A := ⟨_, rfl⟩
      have hcat : ∃ r, catF l = A ++ (frV (l.getD i ⟨#[]⟩) ++ r) := by
        have hex : ∀ m, i + 1 + m ≤ l.length → ∃ r, catF (l.take (i + 1 + m)) = A ++ (frV (l.getD i ⟨#[]⟩) ++ r) := by
          intro m
          induction m with
          | zero => intro _; exact ⟨⟨#[]⟩, by rw [Nat.add_zero, catF_take l i hil, HA, app_nil]⟩
          | succ m ih =>
            intro hm
            obtain ⟨r, hr⟩ := ih (by omega)
            exact ⟨r ++ frV (l.getD (i + 1 + m) ⟨#[]⟩), by rw [show i + 1 + (m + 1) = i + 1 + m + 1 by omega, catF_take l _ (by omega), hr]; simp only [ByteArray.append_assoc]⟩
        have := hex (l.length - (i + 1)) (by omega)
        rw [show i + 1 + (l.length - (i + 1)) = l.length by omega, List.take_length] at this
        exact this
      obtain ⟨r, hr⟩ := hcat
      have hx : (l.getD i ⟨#[]⟩).size ≤ 1000000 := hs _ (by rw [List.getD_eq_getElem?_getD, List.getElem?_eq_getElem hil]; simp)
      obtain ⟨p1, p2, p3⟩ := parse_one A (l.getD i ⟨#[]⟩) r hx
      rw [← hr] at p1 p2 p3
      rw [HA] at b1 b2 b3 b4 ⊢
      have hw : wrdAt ((catF l).extract 0 k) A.size = (l.getD i ⟨#[]⟩).size := by
        rw [wrd_ext (catF l) 0 k A.size (by omega), Nat.zero_add, p2]
      have hd : frD ((catF l).extract 0 k) A.size = l.getD i ⟨#[]⟩ := by
        rw [hw] at b3
        unfold frD
        rw [hw, ext_ext (catF l) 0 k _ _ (by omega), Nat.zero_add, Nat.zero_add]
        have := p3
        unfold frD at this
        rw [p2] at this
        exact this
      refine ⟨i + 1, hil, ?_⟩
      rw [hd, hw, catF_take l i hil, HA, ByteArray.size_append, frV_yes (by omega), ByteArray.size_append, ByteArray.size_append, fourB_size, fourB_size, List.take_succ_eq_append_getElem hil]
      simp only [Prod.mk.injEq]
      refine ⟨?_, by omega⟩
      simp [List.getD, hil]
    · refine ⟨i, hi, ?_⟩
      simp only [tkS]
      rw [if_neg hb]
      exact h

end Go.Proofs.YtenkeinigkahaaaDoor
