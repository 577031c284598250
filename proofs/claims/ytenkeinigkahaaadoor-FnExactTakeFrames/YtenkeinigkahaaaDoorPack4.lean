import Derived.Test.YtenkeinigkahaaaDoorPack2
import Derived.Test.YtenkeinigkahaaaDoorAppendVals
namespace Go.Proofs.YtenkeinigkahaaaDoor
open Go.RowKit

/-- A byte of a text. -/
def byt (s : ByteArray) (i : Nat) : Nat := (s.data.toList.getD i 0).toNat
theorem byt_lt (s : ByteArray) (i : Nat) : byt s i < 256 := UInt8.toNat_lt _
/-- The sum of the first bytes; of all. -/
def crcTo (s : ByteArray) : Nat → Nat
  | 0 => 4294967295
  | k + 1 => crcIt 8 (crcTo s k ^^^ byt s k)
theorem crcTo_lt (s : ByteArray) : ∀ k, crcTo s k < 4294967296
  | 0 => by simp [crcTo]
  | k + 1 => crcIt_lt 8 _ (Nat.xor_lt_two_pow (n := 32) (crcTo_lt s k) (by have := byt_lt s k; omega))
def sumV (s : ByteArray) : Nat := 4294967295 ^^^ crcTo s s.size
theorem sumV_lt (s : ByteArray) : sumV s < 4294967296 := Nat.xor_lt_two_pow (n := 32) (by omega) (crcTo_lt s _)

/-- The table of bytes. -/
def tabL (k : Nat) : List Value := (List.range k).map fun i => .int .u32 (crcIt 8 i : Int)
theorem tabL_length (k : Nat) : (tabL k).length = k := by simp [tabL]
theorem tabL_succ (k : Nat) : tabL (k + 1) = tabL k ++ [.int .u32 (crcIt 8 k : Int)] := by simp [tabL, List.range_succ]
theorem infoU4 : (Tryd.prog.info? 39).map (fun i => (i.zero, i.size, i.bytes)) = some (some (Value.int .u32 0), 1, 4) := by kernel_rfl
theorem own_newU (W : World) : (W.alloc (.cells #[] 39)).ownsRow W.heap.size 39 1 (.slice (some ⟨W.heap.size, 0, none⟩) 0 0) 0 ([] : List Value) := World.ownsRow_made W #[] 0 (Nat.le_refl _) (by unfold maxLen; omega) (by simp)

theorem crcF_yes {c : Nat} (h : c % 2 = 1) : crcF c = c / 2 ^^^ 3988292384 := by unfold crcF; rw [if_pos h]
theorem crcF_no {c : Nat} (h : ¬ c % 2 = 1) : crcF c = c / 2 := by unfold crcF; rw [if_neg h, Nat.xor_zero]
theorem crcIt_more : ∀ (k x : Nat), crcIt (k + 1) x = crcF (crcIt k x)
  | 0, _ => rfl
  | k + 1, x => by rw [show crcIt (k + 1 + 1) x = crcIt (k + 1) (crcF x) from rfl, crcIt_more k]; rfl

set_option maxHeartbeats 1000000 in
set_option maxRecDepth 100000 in
theorem l13K_any (w : World) :
    Calls Tryd.prog 32 #[] w fun e w' => ∃ g cg, e = .returned (.slice (some ⟨g, 0, none⟩) 256 cg) ∧ Below w.heap.size w w' ∧ w'.ownsRow w.heap.size 39 1 (.slice (some ⟨g, 0, none⟩) 256 cg) 256 (tabL 256) := by
  have OB : Hid (Below w.heap.size w (w.alloc (.cells #[] 39))) := (Below.refl _ _).alloc (Nat.le_refl _) _
  go_enter Tryd.func32, Tryd.ntmps32
  go_wp2_with fail
  go_loopw [1, 2] (fun av t wr => ∃ k : Nat, k ≤ 256 ∧ t = .int .u32 k ∧ wr.ownsRow w.heap.size 39 1 av k (tabL k) ∧ Below w.heap.size w wr ∧ av ≠ .slice none 0 0) (fun _ t _ => 256 - (intOf t).toNat)
  case atStart => exact ⟨0, Nat.zero_le _, rfl, own_newU w, OB.out, by simp⟩
  case round =>
    clear OB
    obtain ⟨k, hk, rfl, ho, hb, hnl⟩ := hrel
    obtain ⟨g, cg, rfl⟩ := own_smg ho hnl
    have O1 : Hid (wr.ownsRow w.heap.size 39 1 (.slice (some ⟨g, 0, none⟩) k cg) k (tabL k)) := ho
    have B1 : Hid (Below w.heap.size w wr) := hb
    clear ho hb hnl
    by_cases hlt : k < 256
    · have h1 : (k : Int) < 256 := by omega
      go_wp2_with fail
      go_loopw [3, 4] (fun tc ti wr2 => ∃ (i : Nat), i ≤ 8 ∧ ti = .int .i64 i ∧ tc = .int .u32 (crcIt i k : Nat) ∧ wr2 = wr) (fun _ ti _ => 8 - (intOf ti).toNat)
      case atStart => exact ⟨0, by omega, rfl, rfl, rfl⟩
      case round =>
        obtain ⟨i, hi, rfl, rfl, rfl⟩ := hrel
        obtain ⟨c, HC⟩ : ∃ c, Hid (crcIt i k = c) := ⟨_, rfl⟩
        have hc : c < 4294967296 := by rw [← HC.out]; exact crcIt_lt i k (by omega)
        have HN : Hid (crcIt (i + 1) k = crcF c) := by show _ = _; rw [crcIt_more, HC.out]
        rw [HC.out]
        by_cases hi8 : i < 8
        · by_cases ho2 : c % 2 = 1
          · have hx : bits BinOp.xor IntKind.u32 ((c : Int) / 2) 3988292384 = ((crcF c : Nat) : Int) := by
              rw [crcF_yes ho2]
              exact u32_xor_nat (c / 2) 3988292384 (by omega) (by omega)
            go_wp2_with fail
            refine ⟨⟨i + 1, by omega, by first | rfl | go_num, ?_, trivial⟩, by simp [intOf]; omega⟩
            rw [HN.out]
          · have ho3 : ¬ ((c : Int) % 2 = 1) := by omega
            go_wp2_with fail
            refine ⟨⟨i + 1, by omega, by first | rfl | go_num, ?_, trivial⟩, by simp [intOf]; omega⟩
            rw [HN.out, crcF_no ho2]
            rfl
        · have hi8' : i = 8 := by omega
          subst hi8'
          have HT : Hid (tabL (k + 1) = tabL k ++ [.int .u32 (c : Int)]) := by show _ = _; rw [tabL_succ, HC.out]
          clear hi8 HN HC
          have BA : Hid (Below w.heap.size w (wr.alloc (.cells #[.int .u32 (c : Int)] 39))) := B1.out.alloc B1.out.size _
          have hwr : IntKind.u32.wrap ((k : Int) + 1) = ((k + 1 : Nat) : Int) := by rw [IntKind.wrap_u32]; omega
          go_wp2_with (
            at_builtin
            refine append_vals Tryd.underlying46 infoU4 rfl (by decide) _ rfl _ _ rfl w.heap.size _ k (tabL k) rfl (O1.out.alloc _) wr.heap.size 0 1 1 [.int .u32 (c : Int)] rfl rfl (fun j u hu => ?_) (by simp [Value.oneCell']) (by omega) (by omega) (Nat.le_trans B1.out.size (by simp)) ?_
            · match j, hu with
              | 0, hu => 
                simp at hu
                subst hu
                rw [cell_of_row _ _ _ _ _ _ (heap_alloc_new _ _)]
                rfl
              | j + 1, hu => simp at hu
            intro v' w4 hown hg _ hnl
            have O4 : Hid (w4.ownsRow w.heap.size 39 1 v' (k + 1) (tabL (k + 1))) := by show World.ownsRow _ _ _ _ _ _ _; rw [HT.out]; exact hown
            have B4 : Hid (Below w.heap.size w w4) := BA.out.grown hg BA.out.size (fun k e => (O1.out.lt k e).1)
            have N4 : Hid (v' ≠ .slice none 0 0) := not_nilg hnl ⟨_, _, _, rfl⟩
            clear hown hg hnl)
          go_roundw
          case rel => exact ⟨k + 1, by omega, by first | rfl | go_num, O4.out, B4.out, N4.out⟩
          case measure => simp [intOf]; omega
    · have hkn : k = 256 := by omega
      subst hkn
      clear hlt
      go_wp2
      go_ret
      exact ⟨g, cg, rfl, B1.out, O1.out⟩

end Go.Proofs.YtenkeinigkahaaaDoor

namespace Go.Proofs.YtenkeinigkahaaaDoor
open Go.RowKit

theorem byt_idx (s : ByteArray) (i : Nat) (h : i < s.size) : ((s[i]'h).toNat : Int) = (byt s i : Int) := by
  obtain ⟨⟨l⟩⟩ := s
  have hl : i < l.length := h
  unfold byt
  have e : (ByteArray.mk ⟨l⟩)[i]'h = l.getD i 0 := by
    simp only [List.getD, List.getElem?_eq_getElem hl, Option.getD_some]
    rfl
  simp [e]

set_option maxRecDepth 100000 in
set_option maxHeartbeats 1000000 in
theorem l13Sum_any (s : ByteArray) (hs : s.size ≤ 1048576) (w : World) :
    Calls Tryd.prog 24 #[.string s] w fun e w' => e = .returned (.int .u32 (sumV s)) ∧ Below w.heap.size w w' := by
  go_enter Tryd.func24, Tryd.ntmps24
  go_wp2_with fail
  refine (l13K_any w).mono ?_
  rintro e w1 ⟨g, cg, rfl, hb, ho⟩
  have B1 : Hid (Below w.heap.size w w1) := hb
  have T1 : Hid (∀ i, i < 256 → w1.cell? ⟨g, i, none⟩ = some (.int .u32 (crcIt 8 i : Int))) := fun i hi => by
    have := ho.cells (g := g) rfl i (.int .u32 (crcIt 8 i : Int)) (by simp [tabL, hi])
    rw [add_plain, Nat.zero_add] at this
    exact this
  clear hb ho
  go_wp2_with fail
  go_loopw [4, 5] (fun tc ti wr => ∃ (i : Nat), i ≤ s.size ∧ ti = .int .i64 i ∧ tc = .int .u32 (crcTo s i : Nat) ∧ wr = w1) (fun _ ti _ => s.size - (intOf ti).toNat)
  case atStart => exact ⟨0, Nat.zero_le _, rfl, rfl, rfl⟩
  case round =>
    obtain ⟨i, hi, rfl, rfl, rfl⟩ := hrel
    obtain ⟨c, HC⟩ : ∃ c, Hid (crcTo s i = c) := ⟨_, rfl⟩
    have hc : c < 4294967296 := by rw [← HC.out]; exact crcTo_lt s i
    rw [HC.out]
    by_cases hlt : i < s.size
    · have hbl := byt_lt s i
      have hbi := byt_idx s i hlt
      have HN : Hid (crcTo s (i + 1) = c / 256 ^^^ crcIt 8 (c % 256 ^^^ byt s i)) := by show crcIt 8 (crcTo s i ^^^ byt s i) = _; rw [HC.out, crc_byte c _ hbl]
      obtain ⟨b, HB⟩ : ∃ b, Hid (byt s i = b) := ⟨_, rfl⟩
      rw [HB.out] at hbl hbi HN
      have hx8 : bits BinOp.xor IntKind.u8 ((c : Int) % 256) (b : Int) = ((c % 256 ^^^ b : Nat) : Int) := u8_xor_nat (c % 256) b (by omega) hbl
      have hxl : c % 256 ^^^ b < 256 := Nat.xor_lt_two_pow (n := 8) (by omega) hbl
      generalize c % 256 ^^^ b = j at *
      have hcell := T1.out j hxl
      have hjl := crcIt_lt 8 j (by omega)
      generalize crcIt 8 j = t at *
      have hx32 : bits BinOp.xor IntKind.u32 ((c : Int) / 256) (t : Int) = ((c / 256 ^^^ t : Nat) : Int) := u32_xor_nat (c / 256) t (by omega) hjl
      go_wp2_with fail
      exact ⟨⟨i + 1, by omega, by first | rfl | go_num, by rw [HN.out], trivial⟩, by simp [intOf]; omega⟩
    · have hin : i = s.size := by omega
      subst hin
      have hn : bits BinOp.xor IntKind.u32 IntKind.u32.max (c : Int) = ((sumV s : Nat) : Int) := by
        unfold sumV
        rw [HC.out]
        exact u32_xor_nat 4294967295 c (by omega) hc
      go_wp2
      all_goals go_ret
      all_goals exact ⟨by first | (simp; done) | (simp; exact hn), B1.out⟩

/-- The table of half bytes lies in block 0. -/
def TabW (w : World) : Prop := ∀ i, i < 16 → w.cell? ⟨0, i, none⟩ = some (.int .u32 ((crcTab.getD i 0 : Nat) : Int))
theorem TabW.below {w w' : World} (h : TabW w) (hb : Below w.heap.size w w') : TabW w' := fun i hi =>
  (hb.cell (p := ⟨0, i, none⟩) (block_lt_of_cell (h i hi))).trans (h i hi)
theorem and15 (x : Nat) : x &&& 15 = x % 16 := Nat.and_two_pow_sub_one_eq_mod x 4

set_option maxRecDepth 100000 in
set_option maxHeartbeats 1000000 in
theorem crcOf_any (s : ByteArray) (hs : s.size ≤ 1048576) (w : World) (hT : TabW w) :
    Calls Tryd.prog 26 #[.string s] w fun e w' => e = .returned (.int .u32 (sumV s)) ∧ Below w.heap.size w w' := by
  have T1 : Hid (TabW w) := hT
  clear hT
  go_enter Tryd.func26, Tryd.ntmps26
  go_wp2_with fail
  go_loopw [3, 7] (fun tc ti wr => ∃ (i : Nat), i ≤ s.size ∧ ti = .int .i64 i ∧ tc = .int .u32 (crcTo s i : Nat) ∧ wr = w) (fun _ ti _ => s.size - (intOf ti).toNat)
  case atStart => exact ⟨0, Nat.zero_le _, rfl, rfl, rfl⟩
  case round =>
    obtain ⟨i, hi, rfl, rfl, rfl⟩ := hrel
    obtain ⟨c, HC⟩ : ∃ c, Hid (crcTo s i = c) := ⟨_, rfl⟩
    have hc : c < 4294967296 := by rw [← HC.out]; exact crcTo_lt s i
    rw [HC.out]
    by_cases hlt : i < s.size
    · have hbl := byt_lt s i
      have hbi := byt_idx s i hlt
      have HN : Hid (crcTo s (i + 1) = crcIt 8 (c ^^^ byt s i)) := by show crcIt 8 (crcTo s i ^^^ byt s i) = _; rw [HC.out]
      obtain ⟨b, HB⟩ : ∃ b, Hid (byt s i = b) := ⟨_, rfl⟩
      rw [HB.out] at hbl hbi HN
      have hx1 : bits BinOp.xor IntKind.u32 (c : Int) (b : Int) = ((c ^^^ b : Nat) : Int) := u32_xor_nat c b hc (by omega)
      have hxl : c ^^^ b < 4294967296 := Nat.xor_lt_two_pow (n := 32) hc (by omega)
      generalize c ^^^ b = x at *
      have hH := crc_half x
      have hH4 := crc_half4 x
      have ha1 : bits BinOp.and IntKind.u32 (x : Int) 15 = ((x % 16 : Nat) : Int) := by rw [← and15]; exact u32_and_nat x 15 hxl (by omega)
      have hc1 := T1.out (x % 16) (by omega)
      rw [crcTab_at (x % 16) (by omega)] at hc1
      have ht1 := crcIt_lt 4 (x % 16) (by omega)
      have hx16 : x % 16 < 16 := by omega
      generalize crcIt 4 (x % 16) = t1 at *
      have hx2 : bits BinOp.xor IntKind.u32 ((x : Int) / 16) (t1 : Int) = ((x / 16 ^^^ t1 : Nat) : Int) := u32_xor_nat (x / 16) t1 (by omega) ht1
      rw [← hH4] at hx2
      have hyl := crcIt_lt 4 x hxl
      generalize crcIt 4 x = y at *
      have ha2 : bits BinOp.and IntKind.u32 (y : Int) 15 = ((y % 16 : Nat) : Int) := by rw [← and15]; exact u32_and_nat y 15 hyl (by omega)
      have hc2 := T1.out (y % 16) (by omega)
      rw [crcTab_at (y % 16) (by omega)] at hc2
      have ht2 := crcIt_lt 4 (y % 16) (by omega)
      have hy16 : y % 16 < 16 := by omega
      generalize crcIt 4 (y % 16) = t2 at *
      have hx3 : bits BinOp.xor IntKind.u32 ((y : Int) / 16) (t2 : Int) = ((y / 16 ^^^ t2 : Nat) : Int) := u32_xor_nat (y / 16) t2 (by omega) ht2
      rw [← hH] at hx3
      clear hH hH4
      generalize crcIt 8 x = z at *
      generalize x % 16 = xm at *
      generalize y % 16 = ym at *
      go_wp2_with fail
      exact ⟨⟨i + 1, by omega, by first | rfl | go_num, by rw [HN.out], trivial⟩, by simp [intOf]; omega⟩
    · have hin : i = s.size := by omega
      subst hin
      have hn : bits BinOp.xor IntKind.u32 IntKind.u32.max (c : Int) = ((sumV s : Nat) : Int) := by
        unfold sumV
        rw [HC.out]
        exact u32_xor_nat 4294967295 c (by omega) hc
      go_wp2
      all_goals go_ret
      all_goals exact ⟨by first | (simp; done) | (simp; exact hn), Below.refl _ _⟩

end Go.Proofs.YtenkeinigkahaaaDoor

namespace Go.Proofs.YtenkeinigkahaaaDoor
open Go.RowKit

theorem fourB_size (n : Nat) : (fourB n).size = 4 := by unfold fourB; rw [strOfNums_size]; rfl
/-- The frame of a text. -/
def frV (s : ByteArray) : ByteArray := if 1000000 < s.size then ⟨#[]⟩ else fourB s.size ++ fourB (sumV s) ++ s
theorem frV_no {s : ByteArray} (h : 1000000 < s.size) : frV s = ⟨#[]⟩ := if_pos h
theorem frV_yes {s : ByteArray} (h : ¬ 1000000 < s.size) : frV s = fourB s.size ++ fourB (sumV s) ++ s := if_neg h

set_option maxRecDepth 100000 in
set_option maxHeartbeats 1000000 in
theorem specFrameOf_any (s : ByteArray) (hs : s.size ≤ 1048576) (w : World) :
    Calls Tryd.prog 13 #[.string s] w fun e w' => e = .returned (.string (frV s)) ∧ Below w.heap.size w w' := by
  by_cases hb : 1000000 < s.size
  · have hb' : (1000000 : Int) < s.size := by omega
    go_enter Tryd.func13, Tryd.ntmps13
    go_wp2
    go_ret
    exact ⟨by rw [frV_no hb]; rfl, Below.refl _ _⟩
  · have hb' : ¬ ((1000000 : Int) < s.size) := by omega
    go_enter Tryd.func13, Tryd.ntmps13
    go_wp2_with fail
    refine (l13Four_any s.size (by omega) w).mono ?_
    rintro e w1 ⟨rfl, hb1⟩
    have B1 : Hid (Below w.heap.size w w1) := hb1
    clear hb1
    go_wp2_with fail
    refine (l13Sum_any s hs w1).mono ?_
    rintro e w2 ⟨rfl, hb1⟩
    have B2 : Hid (Below w.heap.size w w2) := B1.out.trans (hb1.mono B1.out.size)
    clear hb1
    have hsl := sumV_lt s
    have HF : Hid (frV s = fourB s.size ++ fourB (sumV s) ++ s) := frV_yes hb
    generalize sumV s = m at *
    go_wp2_with fail
    refine (l13Four_any m hsl w2).mono ?_
    rintro e w3 ⟨rfl, hb1⟩
    have B3 : Hid (Below w.heap.size w w3) := B2.out.trans (hb1.mono B2.out.size)
    clear hb1
    have h1 := fourB_size s.size
    have h2 := fourB_size m
    generalize fourB s.size = f1 at *
    generalize fourB m = f2 at *
    have h12 : (f1 ++ f2).size = 8 := by rw [ByteArray.size_append, h1, h2]
    go_wp2
    go_ret
    exact ⟨by rw [HF.out]; rfl, B3.out⟩

set_option maxRecDepth 100000 in
set_option maxHeartbeats 1000000 in
theorem implFrameOf_any (s : ByteArray) (hs : s.size ≤ 1048576) (w : World) (hT : TabW w) :
    Calls Tryd.prog 11 #[.string s] w fun e w' => e = .returned (.string (frV s)) ∧ Below w.heap.size w w' := by
  by_cases hb : 1000000 < s.size
  · have hb' : (1000000 : Int) < s.size := by omega
    go_enter Tryd.func11, Tryd.ntmps11
    go_wp2
    go_ret
    exact ⟨by rw [frV_no hb]; rfl, Below.refl _ _⟩
  · have hb' : ¬ ((1000000 : Int) < s.size) := by omega
    go_enter Tryd.func11, Tryd.ntmps11
    go_wp2_with fail
    refine (wordOf_any s.size (by omega) w).mono ?_
    rintro e w1 ⟨rfl, hb1⟩
    have T1 : Hid (TabW w1) := hT.below hb1
    clear hT
    have B1 : Hid (Below w.heap.size w w1) := hb1
    clear hb1
    go_wp2_with fail
    refine (crcOf_any s hs w1 T1.out).mono ?_
    rintro e w2 ⟨rfl, hb1⟩
    have B2 : Hid (Below w.heap.size w w2) := B1.out.trans (hb1.mono B1.out.size)
    clear hb1
    have hsl := sumV_lt s
    have HF : Hid (frV s = fourB s.size ++ fourB (sumV s) ++ s) := frV_yes hb
    generalize sumV s = m at *
    go_wp2_with fail
    refine (wordOf_any m hsl w2).mono ?_
    rintro e w3 ⟨rfl, hb1⟩
    have B3 : Hid (Below w.heap.size w w3) := B2.out.trans (hb1.mono B2.out.size)
    clear hb1
    have h1 := fourB_size s.size
    have h2 := fourB_size m
    generalize fourB s.size = f1 at *
    generalize fourB m = f2 at *
    have h12 : (f1 ++ f2).size = 8 := by rw [ByteArray.size_append, h1, h2]
    go_wp2
    go_ret
    exact ⟨by rw [HF.out]; rfl, B3.out⟩

end Go.Proofs.YtenkeinigkahaaaDoor

namespace Go.Proofs.YtenkeinigkahaaaDoor
open Go.RowKit

theorem ext_list (s : ByteArray) (a b : Nat) : (s.extract a b).data.toList = (s.data.toList.drop a).take (b - a) := by
  simp [ByteArray.data_extract, Array.toList_extract, List.extract]
theorem byt_ext (s : ByteArray) (a b i : Nat) (h : a + i < b) : byt (s.extract a b) i = byt s (a + i) := by
  unfold byt
  rw [ext_list, List.getD_eq_getElem?_getD, List.getElem?_take, if_pos (by omega), List.getElem?_drop, List.getD_eq_getElem?_getD]
theorem ext_size (s : ByteArray) (a b : Nat) (h : b ≤ s.size) : (s.extract a b).size = b - a := by
  rw [ByteArray.size_extract]; omega
theorem ext_ext (s : ByteArray) (a b c d : Nat) (h : a + d ≤ b) : (s.extract a b).extract c d = s.extract (a + c) (a + d) := by
  apply ByteArray.ext
  apply Array.toList_inj.1
  rw [ext_list, ext_list, ext_list, List.drop_take, List.take_take, List.drop_drop]
  congr 1
  omega
theorem ba_ext {s t : ByteArray} (h : s.size = t.size) (hb : ∀ i, i < s.size → byt s i = byt t i) : s = t := by
  apply ByteArray.ext
  apply Array.toList_inj.1
  have hs : s.data.toList.length = s.size := Array.length_toList
  have ht : t.data.toList.length = t.size := Array.length_toList
  apply List.ext_getElem (by omega)
  intro i h1 h2
  have := hb i (by omega)
  unfold byt at this
  rw [List.getD_eq_getElem?_getD, List.getD_eq_getElem?_getD, List.getElem?_eq_getElem h1, List.getElem?_eq_getElem h2] at this
  exact UInt8.toNat_inj.1 this

theorem str_ne {f t : ByteArray} (h : ¬ f = t) : (f.toList == t.toList) = false := by
  rw [ByteArray.toList_eq, ByteArray.toList_eq]
  apply beq_eq_false_iff_ne.2
  intro e
  exact h (ByteArray.ext (Array.toList_inj.1 e))
theorem str_eq {f t : ByteArray} (h : f = t) : (f.toList == t.toList) = true := by
  rw [h]
  exact beq_self_eq_true _

end Go.Proofs.YtenkeinigkahaaaDoor
