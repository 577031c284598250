import Derived.Test.YtenkeinigkahaaaDoorPack1
import Derived.Test.YtenkeinigkahaaaDoorPack2
import Derived.Test.YtenkeinigkahaaaDoorAppendVals
import Derived.Laws.BytesArg
namespace Go.Proofs.YtenkeinigkahaaaDoor
open Go.RowKit

/-- A byte of a text. -/
def byt (s : ByteArray) (i : Nat) : Nat := (s.data.toList.getD i 0).toNat
theorem byt_lt (s : ByteArray) (i : Nat) : byt s i < 256 := UInt8.toNat_lt _
/-- The sum of the first bytes; of all. -/
def crcTo (s : ByteArray) : Nat → Nat
  | 0 => 4294967295
  | k + 1 => crcIt 8 (crcTo s k ^^^ byt s k)
theorem crcTo_lt (s : ByteArray) : ∀ k, crcTo s k < 4294967296
  | 0 => by simp [crcTo]
  | k + 1 => crcIt_lt 8 _ (Nat.xor_lt_two_pow (n := 32) (crcTo_lt s k) (by have := byt_lt s k; omega))
def sumV (s : ByteArray) : Nat := 4294967295 ^^^ crcTo s s.size
theorem sumV_lt (s : ByteArray) : sumV s < 4294967296 := Nat.xor_lt_two_pow (n := 32) (by omega) (crcTo_lt s _)

/-- The table of bytes. -/
def tabL (k : Nat) : List Value := (List.range k).map fun i => .int .u32 (crcIt 8 i : Int)
theorem tabL_length (k : Nat) : (tabL k).length = k := by simp [tabL]
theorem tabL_succ (k : Nat) : tabL (k + 1) = tabL k ++ [.int .u32 (crcIt 8 k : Int)] := by simp [tabL, List.range_succ]
theorem infoU4 : (Tryd.prog.info? 39).map (fun i => (i.zero, i.size, i.bytes)) = some (some (Value.int .u32 0), 1, 4) := by kernel_rfl
theorem own_newU (W : World) : (W.alloc (.cells #[] 39)).ownsRow W.heap.size 39 1 (.slice (some ⟨W.heap.size, 0, none⟩) 0 0) 0 ([] : List Value) := World.ownsRow_made W #[] 0 (Nat.le_refl _) (by unfold maxLen; omega) (by simp)

theorem crcF_yes {c : Nat} (h : c % 2 = 1) : crcF c = c / 2 ^^^ 3988292384 := by unfold crcF; rw [if_pos h]
theorem crcF_no {c : Nat} (h : ¬ c % 2 = 1) : crcF c = c / 2 := by unfold crcF; rw [if_neg h, Nat.xor_zero]
theorem crcIt_more : ∀ (k x : Nat), crcIt (k + 1) x = crcF (crcIt k x)
  | 0, _ => rfl
  | k + 1, x => by rw [show crcIt (k + 1 + 1) x = crcIt (k + 1) (crcF x) from rfl, crcIt_more k]; rfl

set_option maxHeartbeats 1000000 in
set_option maxRecDepth 100000 in
theorem l13K_any (w : World) :
    Calls Tryd.prog 32 #[] w fun e w' => ∃ g cg, e = .returned (.slice (some ⟨g, 0, none⟩) 256 cg) ∧ Below w.heap.size w w' ∧ w'.ownsRow w.heap.size 39 1 (.slice (some ⟨g, 0, none⟩) 256 cg) 256 (tabL 256) := by
  have OB : Hid (Below w.heap.size w (w.alloc (.cells #[] 39))) := (Below.refl _ _).alloc (Nat.le_refl _) _
  go_enter Tryd.func32, Tryd.ntmps32
  go_wp2_with fail
  go_loopw [1, 2] (fun av t wr => ∃ k : Nat, k ≤ 256 ∧ t = .int .u32 k ∧ wr.ownsRow w.heap.size 39 1 av k (tabL k) ∧ Below w.heap.size w wr ∧ av ≠ .slice none 0 0) (fun _ t _ => 256 - (intOf t).toNat)
  case atStart => exact ⟨0, Nat.zero_le _, rfl, own_newU w, OB.out, by simp⟩
  case round =>
    clear OB
    obtain ⟨k, hk, rfl, ho, hb, hnl⟩ := hrel
    obtain ⟨g, cg, rfl⟩ := own_smg ho hnl
    have O1 : Hid (wr.ownsRow w.heap.size 39 1 (.slice (some ⟨g, 0, none⟩) k cg) k (tabL k)) := ho
    have B1 : Hid (Below w.heap.size w wr) := hb
    clear ho hb hnl
    by_cases hlt : k < 256
    · have h1 : (k : Int) < 256 := by omega
      go_wp2_with fail
      go_loopw [3, 4] (fun tc ti wr2 => ∃ (i : Nat), i ≤ 8 ∧ ti = .int .i64 i ∧ tc = .int .u32 (crcIt i k : Nat) ∧ wr2 = wr) (fun _ ti _ => 8 - (intOf ti).toNat)
      case atStart => exact ⟨0, by omega, rfl, rfl, rfl⟩
      case round =>
        obtain ⟨i, hi, rfl, rfl, rfl⟩ := hrel
        obtain ⟨c, HC⟩ : ∃ c, Hid (crcIt i k = c) := ⟨_, rfl⟩
        have hc : c < 4294967296 := by rw [← HC.out]; exact crcIt_lt i k (by omega)
        have HN : Hid (crcIt (i + 1) k = crcF c) := by show _ = _; rw [crcIt_more, HC.out]
        rw [HC.out]
        by_cases hi8 : i < 8
        · by_cases ho2 : c % 2 = 1
          · have hx : bits BinOp.xor IntKind.u32 ((c : Int) / 2) 3988292384 = ((crcF c : Nat) : Int) := by
              rw [crcF_yes ho2]
              exact u32_xor_nat (c / 2) 3988292384 (by omega) (by omega)
            go_wp2_with fail
            refine ⟨⟨i + 1, by omega, by first | rfl | go_num, ?_, trivial⟩, by simp [intOf]; omega⟩
            rw [HN.out]
          · have ho3 : ¬ ((c : Int) % 2 = 1) := by omega
            go_wp2_with fail
            refine ⟨⟨i + 1, by omega, by first | rfl | go_num, ?_, trivial⟩, by simp [intOf]; omega⟩
            rw [HN.out, crcF_no ho2]
            rfl
        · have hi8' : i = 8 := by omega
          subst hi8'
          have HT : Hid (tabL (k + 1) = tabL k ++ [.int .u32 (c : Int)]) := by show _ = _; rw [tabL_succ, HC.out]
          clear hi8 HN HC
          have BA : Hid (Below w.heap.size w (wr.alloc (.cells #[.int .u32 (c : Int)] 39))) := B1.out.alloc B1.out.size _
          have hwr : IntKind.u32.wrap ((k : Int) + 1) = ((k + 1 : Nat) : Int) := by rw [IntKind.wrap_u32]; omega
          go_wp2_with (
            at_builtin
            refine append_vals Tryd.underlying46 infoU4 rfl (by decide) _ rfl _ _ rfl w.heap.size _ k (tabL k) rfl (O1.out.alloc _) wr.heap.size 0 1 1 [.int .u32 (c : Int)] rfl rfl (fun j u hu => ?_) (by simp [Value.oneCell']) (by omega) (by omega) (Nat.le_trans B1.out.size (by simp)) ?_
            · match j, hu with
              | 0, hu => 
                simp at hu
                subst hu
                rw [cell_of_row _ _ _ _ _ _ (heap_alloc_new _ _)]
                rfl
              | j + 1, hu => simp at hu
            intro v' w4 hown hg _ hnl
            have O4 : Hid (w4.ownsRow w.heap.size 39 1 v' (k + 1) (tabL (k + 1))) := by show World.ownsRow _ _ _ _ _ _ _; rw [HT.out]; exact hown
            have B4 : Hid (Below w.heap.size w w4) := BA.out.grown hg BA.out.size (fun k e => (O1.out.lt k e).1)
            have N4 : Hid (v' ≠ .slice none 0 0) := not_nilg hnl ⟨_, _, _, rfl⟩
            clear hown hg hnl)
          go_roundw
          case rel => exact ⟨k + 1, by omega, by first | rfl | go_num, O4.out, B4.out, N4.out⟩
          case measure => simp [intOf]; omega
    · have hkn : k = 256 := by omega
      subst hkn
      clear hlt
      go_wp2
      go_ret
      exact ⟨g, cg, rfl, B1.out, O1.out⟩

end Go.Proofs.YtenkeinigkahaaaDoor

namespace Go.Proofs.YtenkeinigkahaaaDoor
open Go.RowKit

theorem byt_idx (s : ByteArray) (i : Nat) (h : i < s.size) : ((s[i]'h).toNat : Int) = (byt s i : Int) := by
  obtain ⟨⟨l⟩⟩ := s
  have hl : i < l.length := h
  unfold byt
  have e : (ByteArray.mk ⟨l⟩)[i]'h = l.getD i 0 := by
    simp only [List.getD, List.getElem?_eq_getElem hl, Option.getD_some]
    rfl
  simp [e]

set_option maxRecDepth 100000 in
set_option maxHeartbeats 1000000 in
theorem l13Sum_any (s : ByteArray) (hs : s.size ≤ 1048576) (w : World) :
    Calls Tryd.prog 24 #[.string s] w fun e w' => e = .returned (.int .u32 (sumV s)) ∧ Below w.heap.size w w' := by
  go_enter Tryd.func24, Tryd.ntmps24
  go_wp2_with fail
  refine (l13K_any w).mono ?_
  rintro e w1 ⟨g, cg, rfl, hb, ho⟩
  have B1 : Hid (Below w.heap.size w w1) := hb
  have T1 : Hid (∀ i, i < 256 → w1.cell? ⟨g, i, none⟩ = some (.int .u32 (crcIt 8 i : Int))) := fun i hi => by
    have := ho.cells (g := g) rfl i (.int .u32 (crcIt 8 i : Int)) (by simp [tabL, hi])
    rw [add_plain, Nat.zero_add] at this
    exact this
  clear hb ho
  go_wp2_with fail
  go_loopw [4, 5] (fun tc ti wr => ∃ (i : Nat), i ≤ s.size ∧ ti = .int .i64 i ∧ tc = .int .u32 (crcTo s i : Nat) ∧ wr = w1) (fun _ ti _ => s.size - (intOf ti).toNat)
  case atStart => exact ⟨0, Nat.zero_le _, rfl, rfl, rfl⟩
  case round =>
    obtain ⟨i, hi, rfl, rfl, rfl⟩ := hrel
    obtain ⟨c, HC⟩ : ∃ c, Hid (crcTo s i = c) := ⟨_, rfl⟩
    have hc : c < 4294967296 := by rw [← HC.out]; exact crcTo_lt s i
    rw [HC.out]
    by_cases hlt : i < s.size
    · have hbl := byt_lt s i
      have hbi := byt_idx s i hlt
      have HN : Hid (crcTo s (i + 1) = c / 256 ^^^ crcIt 8 (c % 256 ^^^ byt s i)) := by show crcIt 8 (crcTo s i ^^^ byt s i) = _; rw [HC.out, crc_byte c _ hbl]
      obtain ⟨b, HB⟩ : ∃ b, Hid (byt s i = b) := ⟨_, rfl⟩
      rw [HB.out] at hbl hbi HN
      have hx8 : bits BinOp.xor IntKind.u8 ((c : Int) % 256) (b : Int) = ((c % 256 ^^^ b : Nat) : Int) := u8_xor_nat (c % 256) b (by omega) hbl
      have hxl : c % 256 ^^^ b < 256 := Nat.xor_lt_two_pow (n := 8) (by omega) hbl
      generalize c % 256 ^^^ b = j at *
      have hcell := T1.out j hxl
      have hjl := crcIt_lt 8 j (by omega)
      generalize crcIt 8 j = t at *
      have hx32 : bits BinOp.xor IntKind.u32 ((c : Int) / 256) (t : Int) = ((c / 256 ^^^ t : Nat) : Int) := u32_xor_nat (c / 256) t (by omega) hjl
      go_wp2_with fail
      exact ⟨⟨i + 1, by omega, by first | rfl | go_num, by rw [HN.out], trivial⟩, by simp [intOf]; omega⟩
    · have hin : i = s.size := by omega
      subst hin
      have hn : bits BinOp.xor IntKind.u32 IntKind.u32.max (c : Int) = ((sumV s : Nat) : Int) := by
        unfold sumV
        rw [HC.out]
        exact u32_xor_nat 4294967295 c (by omega) hc
      go_wp2
      all_goals go_ret
      all_goals exact ⟨by first | (simp; done) | (simp; exact hn), B1.out⟩

/-- The table of half bytes lies in block 0. -/
def TabW (w : World) : Prop := ∀ i, i < 16 → w.cell? ⟨0, i, none⟩ = some (.int .u32 ((crcTab.getD i 0 : Nat) : Int))
theorem TabW.below {w w' : World} (h : TabW w) (hb : Below w.heap.size w w') : TabW w' := fun i hi =>
  (hb.cell (p := ⟨0, i, none⟩) (block_lt_of_cell (h i hi))).trans (h i hi)
theorem and15 (x : Nat) : x &&& 15 = x % 16 := Nat.and_two_pow_sub_one_eq_mod x 4

set_option maxRecDepth 100000 in
set_option maxHeartbeats 1000000 in
theorem crcOf_any (s : ByteArray) (hs : s.size ≤ 1048576) (w : World) (hT : TabW w) :
    Calls Tryd.prog 26 #[.string s] w fun e w' => e = .returned (.int .u32 (sumV s)) ∧ Below w.heap.size w w' := by
  have T1 : Hid (TabW w) := hT
  clear hT
  go_enter Tryd.func26, Tryd.ntmps26
  go_wp2_with fail
  go_loopw [3, 7] (fun tc ti wr => ∃ (i : Nat), i ≤ s.size ∧ ti = .int .i64 i ∧ tc = .int .u32 (crcTo s i : Nat) ∧ wr = w) (fun _ ti _ => s.size - (intOf ti).toNat)
  case atStart => exact ⟨0, Nat.zero_le _, rfl, rfl, rfl⟩
  case round =>
    obtain ⟨i, hi, rfl, rfl, rfl⟩ := hrel
    obtain ⟨c, HC⟩ : ∃ c, Hid (crcTo s i = c) := ⟨_, rfl⟩
    have hc : c < 4294967296 := by rw [← HC.out]; exact crcTo_lt s i
    rw [HC.out]
    by_cases hlt : i < s.size
    · have hbl := byt_lt s i
      have hbi := byt_idx s i hlt
      have HN : Hid (crcTo s (i + 1) = crcIt 8 (c ^^^ byt s i)) := by show crcIt 8 (crcTo s i ^^^ byt s i) = _; rw [HC.out]
      obtain ⟨b, HB⟩ : ∃ b, Hid (byt s i = b) := ⟨_, rfl⟩
      rw [HB.out] at hbl hbi HN
      have hx1 : bits BinOp.xor IntKind.u32 (c : Int) (b : Int) = ((c ^^^ b : Nat) : Int) := u32_xor_nat c b hc (by omega)
      have hxl : c ^^^ b < 4294967296 := Nat.xor_lt_two_pow (n := 32) hc (by omega)
      generalize c ^^^ b = x at *
      have hH := crc_half x
      have hH4 := crc_half4 x
      have ha1 : bits BinOp.and IntKind.u32 (x : Int) 15 = ((x % 16 : Nat) : Int) := by rw [← and15]; exact u32_and_nat x 15 hxl (by omega)
      have hc1 := T1.out (x % 16) (by omega)
      rw [crcTab_at (x % 16) (by omega)] at hc1
      have ht1 := crcIt_lt 4 (x % 16) (by omega)
      have hx16 : x % 16 < 16 := by omega
      generalize crcIt 4 (x % 16) = t1 at *
      have hx2 : bits BinOp.xor IntKind.u32 ((x : Int) / 16) (t1 : Int) = ((x / 16 ^^^ t1 : Nat) : Int) := u32_xor_nat (x / 16) t1 (by omega) ht1
      rw [← hH4] at hx2
      have hyl := crcIt_lt 4 x hxl
      generalize crcIt 4 x = y at *
      have ha2 : bits BinOp.and IntKind.u32 (y : Int) 15 = ((y % 16 : Nat) : Int) := by rw [← and15]; exact u32_and_nat y 15 hyl (by omega)
      have hc2 := T1.out (y % 16) (by omega)
      rw [crcTab_at (y % 16) (by omega)] at hc2
      have ht2 := crcIt_lt 4 (y % 16) (by omega)
      have hy16 : y % 16 < 16 := by omega
      generalize crcIt 4 (y % 16) = t2 at *
      have hx3 : bits BinOp.xor IntKind.u32 ((y : Int) / 16) (t2 : Int) = ((y / 16 ^^^ t2 : Nat) : Int) := u32_xor_nat (y / 16) t2 (by omega) ht2
      rw [← hH] at hx3
      clear hH hH4
      generalize crcIt 8 x = z at *
      generalize x % 16 = xm at *
      generalize y % 16 = ym at *
      go_wp2_with fail
      exact ⟨⟨i + 1, by omega, by first | rfl | go_num, by rw [HN.out], trivial⟩, by simp [intOf]; omega⟩
    · have hin : i = s.size := by omega
      subst hin
      have hn : bits BinOp.xor IntKind.u32 IntKind.u32.max (c : Int) = ((sumV s : Nat) : Int) := by
        unfold sumV
        rw [HC.out]
        exact u32_xor_nat 4294967295 c (by omega) hc
      go_wp2
      all_goals go_ret
      all_goals exact ⟨by first | (simp; done) | (simp; exact hn), Below.refl _ _⟩

end Go.Proofs.YtenkeinigkahaaaDoor

namespace Go.Proofs.YtenkeinigkahaaaDoor
open Go.RowKit

/-- What a drawn text answers: one that is no longer than hi; the reader alone has changed. -/
def TextOk (w : World) (q : Nat) (a : Option Addr) (bs : List Int) (c : Nat) (hi : Nat) (e : Ending) (w' : World) : Prop :=
  ∃ (s : ByteArray) (p' : Nat), e = .returned (.string s) ∧ s.size ≤ hi ∧ RD w' q a bs c p' ∧ w.grownBy w' (some q)
theorem grown_blw {w w1 w2 : World} {row : Option Nat} (h : w.grownBy w1 row) (hb : Below w1.heap.size w1 w2) : w.grownBy w2 row :=
  ⟨hb.os.trans h.os, hb.tape.trans h.tape, hb.output.trans h.output, Nat.le_trans h.size hb.size, fun j hj hne => (hb.block j (Nat.lt_of_lt_of_le hj h.size)).trans (h.block j hj hne)⟩
theorem grown_of_below {w w1 : World} (q : Option Nat) (hb : Below w.heap.size w w1) : w.grownBy w1 q :=
  ⟨hb.os, hb.tape, hb.output, hb.size, fun j hj _ => hb.block j hj⟩
theorem grown_trn {w w1 w2 : World} {q : Nat} (h1 : w.grownBy w1 (some q)) (h2 : w1.grownBy w2 (some q)) : w.grownBy w2 (some q) := grown_trans h1 h2

/-- A row of texts, none longer than hi. -/
def TextsRow (w : World) (g : Nat) (cs : Array Value) (hi : Nat) : Prop := (∃ T, w.heap[g]? = some (.cells cs T (0, 0))) ∧ ∀ j, j < cs.size → ∃ s : ByteArray, cs[j]? = some (.string s) ∧ s.size ≤ hi
theorem TextsRow.at {w : World} {g : Nat} {cs : Array Value} {hi j : Nat} (h : TextsRow w g cs hi) (hj : j < cs.size) : ∃ s : ByteArray, w.cell? ⟨g, j, none⟩ = some (.string s) ∧ s.size ≤ hi := by
  obtain ⟨⟨T, hr⟩, hc⟩ := h
  obtain ⟨s, e, hs⟩ := hc j hj
  exact ⟨s, by rw [cell_of_row _ _ j _ _ _ hr, e], hs⟩
theorem TextsRow.grown {w w' : World} {g q : Nat} {cs : Array Value} {hi : Nat} (h : TextsRow w g cs hi) (hg : w.grownBy w' (some q)) (hne : g ≠ q) : TextsRow w' g cs hi := by
  obtain ⟨⟨T, hr⟩, hc⟩ := h
  exact ⟨⟨T, (hg.block g (row_lt hr) (fun e => hne (by injection e))).trans hr⟩, hc⟩

set_option maxHeartbeats 1000000 in
theorem text_any (q p c : Nat) (a : Option Addr) (bs : List Int) (w : World) (h : RD w q a bs c p) :
    Calls Tryd.prog 19 #[.pointer (some ⟨q, 0, none⟩)] w (TextOk w q a bs c 3) := by
  have hq : q < w.heap.size := row_lt h.1
  have BA : Hid (Below w.heap.size w (w.alloc (Obj.cells #[.string ⟨#[]⟩, .string ⟨#[97]⟩, .string ⟨#[98]⟩, .string ⟨#[97, 98]⟩, .string ⟨#[97, 98, 99]⟩, .string ⟨#[120, 32, 121]⟩] 9))) := (Below.refl w.heap.size w).alloc (Nat.le_refl _) _
  have TR : Hid (TextsRow (w.alloc (Obj.cells #[.string ⟨#[]⟩, .string ⟨#[97]⟩, .string ⟨#[98]⟩, .string ⟨#[97, 98]⟩, .string ⟨#[97, 98, 99]⟩, .string ⟨#[120, 32, 121]⟩] 9)) w.heap.size #[.string ⟨#[]⟩, .string ⟨#[97]⟩, .string ⟨#[98]⟩, .string ⟨#[97, 98]⟩, .string ⟨#[97, 98, 99]⟩, .string ⟨#[120, 32, 121]⟩] 3) := by
    refine ⟨⟨_, heap_alloc_new _ _⟩, fun j hj => ?_⟩
    match j, hj with
    | 0, _ => exact ⟨_, rfl, by decide⟩
    | 1, _ => exact ⟨_, rfl, by decide⟩
    | 2, _ => exact ⟨_, rfl, by decide⟩
    | 3, _ => exact ⟨_, rfl, by decide⟩
    | 4, _ => exact ⟨_, rfl, by decide⟩
    | 5, _ => exact ⟨_, rfl, by decide⟩
  have R0 : Hid (RD (w.alloc (Obj.cells #[.string ⟨#[]⟩, .string ⟨#[97]⟩, .string ⟨#[98]⟩, .string ⟨#[97, 98]⟩, .string ⟨#[97, 98, 99]⟩, .string ⟨#[120, 32, 121]⟩] 9)) q a bs c p) := h.below BA.out
  clear h
  go_enter Tryd.func19, Tryd.ntmps19
  go_wp2_with fail
  generalize w.alloc (Obj.cells #[.string ⟨#[]⟩, .string ⟨#[97]⟩, .string ⟨#[98]⟩, .string ⟨#[97, 98]⟩, .string ⟨#[97, 98, 99]⟩, .string ⟨#[120, 32, 121]⟩] 9) = W0 at *
  refine (below_any q p c 6 a bs W0 R0.out (by omega)).mono ?_
  rintro e w1 ⟨v, p1, rfl, hv0, hv1, hr, hg⟩
  have R1 : Hid (RD w1 q a bs c p1) := hr
  have G1 : Hid (w.grownBy w1 (some q)) := grown_trn (grown_of_below _ BA.out) hg
  obtain ⟨j, rfl⟩ := Int.eq_ofNat_of_zero_le hv0
  have hj : j < 6 := by omega
  obtain ⟨s, hc, hs⟩ := (TR.out.grown hg (by omega)).at (j := j) (by simpa using hj)
  clear hr hg hv0 hv1 R0 TR BA
  have hj' : (j : Int) < 6 := by omega
  go_wp2
  go_ret
  exact ⟨s, p1, rfl, hs, R1.out, G1.out⟩

theorem infoB1' : (Tryd.prog.info? 5).map (fun i => (i.zero, i.size, i.bytes)) = some (some (Value.int .u8 0), 1, 1) := by kernel_rfl
theorem own_newB (W : World) : (W.alloc (.cells #[] 5)).ownsRow W.heap.size 5 1 (.slice (some ⟨W.heap.size, 0, none⟩) 0 0) 0 ([] : List Value) := World.ownsRow_made W #[] 0 (Nat.le_refl _) (by unfold maxLen; omega) (by simp)
theorem one_rowB (W : World) (T : TypeId) (x : Value) : ∀ j u, [x][j]? = some u → (W.alloc (.cells #[x] T)).cell? ⟨W.heap.size, 0 + j, none⟩ = some u := by
  intro j u hu
  match j, hu with
  | 0, hu =>
    simp at hu
    subst hu
    rw [cell_of_row _ _ _ _ _ _ (heap_alloc_new _ _)]
    rfl
  | j + 1, hu => simp at hu

/-- The reader stays where what is new to the call is written. -/
theorem RD.own {w W W' : World} {q : Nat} {a : Option Addr} {bs : List Int} {c p0 p : Nat} {row : Option Nat} (h0 : RD w q a bs c p0) (h : RD W q a bs c p) (hg : W.grownBy W' row) (hr : ∀ k, row = some k → w.heap.size ≤ k) : RD W' q a bs c p := by
  have hq : q < w.heap.size := row_lt h0.1
  refine ⟨(hg.block q (row_lt h.1) (fun e => ?_)).trans h.1, h.2.1, fun j hj => ?_, h.2.2.2⟩
  · have := hr q e.symm
    omega
  · obtain ⟨b, off, e, hne, hc, hv⟩ := h.2.2.1 j hj
    obtain ⟨b', off', e', _, hc', _⟩ := h0.2.2.1 j hj
    rw [e] at e'
    simp at e'
    obtain ⟨rfl, rfl⟩ := e'
    have hb : b < w.heap.size := block_lt_of_cell hc'
    refine ⟨b, off, e, hne, hg.cell hc (fun e2 => ?_), hv⟩
    have := hr b e2.symm
    omega
/-- As grownBy, where what else was written is new to the call. -/
theorem grown_own {w W W' : World} {q row : Option Nat} (h : w.grownBy W q) (hg : W.grownBy W' row) (hr : ∀ k, row = some k → w.heap.size ≤ k) : w.grownBy W' q :=
  ⟨hg.os.trans h.os, hg.tape.trans h.tape, hg.output.trans h.output, Nat.le_trans h.size hg.size, fun j hj hne => (hg.block j (Nat.lt_of_lt_of_le hj h.size) (fun e => by have := hr j e.symm; omega)).trans (h.block j hj hne)⟩
theorem own_grown {w W' : World} {base n size q : Nat} {e : TypeId} {v : Value} {xs : List Value} (h : w.ownsRow base e size v n xs) (hg : w.grownBy W' (some q)) (hq : q < base) : W'.ownsRow base e size v n xs := by
  obtain ⟨h1, h2 | ⟨g, cap, cur, h2, h3, h4, h5⟩⟩ := h
  · exact ⟨h1, .inl h2⟩
  · exact ⟨h1, .inr ⟨g, cap, cur, h2, h3, (hg.block g (row_lt h4) (fun e => by injection e with e; omega)).trans h4, h5⟩⟩

set_option maxHeartbeats 1000000 in
theorem bytes_any (q p c most : Nat) (a : Option Addr) (bs : List Int) (w : World) (h : RD w q a bs c p) (hm : most ≤ 1000) :
    Calls Tryd.prog 27 #[.pointer (some ⟨q, 0, none⟩), .int .i64 most] w (TextOk w q a bs c most) := by
  have hq : q < w.heap.size := row_lt h.1
  have BA : Hid (Below w.heap.size w (w.alloc (.cells #[] 5))) := (Below.refl w.heap.size w).alloc (Nat.le_refl _) _
  have R0 : Hid (RD (w.alloc (.cells #[] 5)) q a bs c p) := h.below BA.out
  have O0 : Hid ((w.alloc (.cells #[] 5)).ownsRow w.heap.size 5 1 (.slice (some ⟨w.heap.size, 0, none⟩) 0 0) 0 ([] : List Value)) := own_newB w
  have H : Hid (RD w q a bs c p) := h
  clear h
  go_enter Tryd.func27, Tryd.ntmps27
  go_wp2_with fail
  generalize w.alloc (.cells #[] 5) = W0 at *
  have hmm : ((most : Int) + 1) ≤ 65536 := by omega
  refine (below_any q p c ((most : Int) + 1) a bs W0 R0.out hmm).mono ?_
  rintro e w1 ⟨v, p1, rfl, hv0, hv1, hr, hg⟩
  obtain ⟨k, rfl⟩ := Int.eq_ofNat_of_zero_le hv0
  have hk : k ≤ most := by omega
  have R1 : Hid (RD w1 q a bs c p1) := hr
  have G1 : Hid (w.grownBy w1 (some q)) := grown_trn (grown_of_below _ BA.out) hg
  have O1 : Hid (w1.ownsRow w.heap.size 5 1 (.slice (some ⟨w.heap.size, 0, none⟩) 0 0) 0 (([] : List Int).map (Value.int .u8))) := own_grown O0.out hg hq
  clear hr hg hv0 hv1 R0 O0
  go_wp2_with fail
  go_loopw [5, 6] (fun tl ti wr => ∃ (i p2 : Nat) (xs : List Int), i ≤ k ∧ xs.length + i = k ∧ ti = .int .i64 i ∧ RD wr q a bs c p2 ∧ w.grownBy wr (some q) ∧ wr.ownsRow w.heap.size 5 1 tl xs.length (xs.map (Value.int .u8)) ∧ tl ≠ .slice none 0 0) (fun _ ti _ => (intOf ti).toNat)
  case atStart => exact ⟨k, p1, [], Nat.le_refl _, by simp, rfl, R1.out, G1.out, O1.out, by simp⟩
  case round =>
    clear R1 G1 O1
    obtain ⟨i, p2, xs, hi, hxi, rfl, hr, hg, ho, hnl⟩ := hrel
    have R1 : Hid (RD wr q a bs c p2) := hr
    have G1 : Hid (w.grownBy wr (some q)) := hg
    obtain ⟨g, cg, rfl⟩ := own_smg ho hnl
    have O1 : Hid (wr.ownsRow w.heap.size 5 1 (.slice (some ⟨g, 0, none⟩) xs.length cg) xs.length (xs.map (Value.int .u8))) := ho
    clear hr hg ho hnl
    by_cases h0 : 0 < i
    · have h0' : (0 : Int) < i := by omega
      go_wp2_with fail
      refine (below_any q p2 c 256 a bs wr R1.out (by omega)).mono ?_
      rintro e w2 ⟨v, p3, rfl, hv0, hv1, hr, hg⟩
      have R2 : Hid (RD w2 q a bs c p3) := hr
      have G2 : Hid (w.grownBy w2 (some q)) := grown_trn G1.out hg
      have O2 : Hid (w2.ownsRow w.heap.size 5 1 (.slice (some ⟨g, 0, none⟩) xs.length cg) xs.length (xs.map (Value.int .u8))) := own_grown O1.out hg hq
      clear hr hg R1 G1 O1
      have hv256 : v < 256 := by have : max (256 : Int) 1 = 256 := by decide
                                 omega
      clear hv1
      have BA2 : Hid (Below w2.heap.size w2 (w2.alloc (.cells #[.int .u8 v] 5))) := (Below.refl _ _).alloc (Nat.le_refl _) _
      obtain ⟨n, HN⟩ : ∃ n, Hid (xs.length = n) := ⟨_, rfl⟩
      rw [HN.out] at hxi O2 ⊢
      go_wp2_with (
        at_builtin
        refine append_vals Tryd.underlying22 infoB1' rfl (by decide) _ rfl _ _ rfl w.heap.size _ n (xs.map (Value.int .u8)) rfl (O2.out.alloc _) w2.heap.size 0 1 1 [.int .u8 v] rfl rfl (one_rowB w2 _ _) (by simp [Value.oneCell']) (by omega) (by omega) (Nat.le_trans G2.out.size (by simp)) ?_
        intro v' w4 hown hg _ hnl
        have hro : ∀ k, (Value.slice (some ⟨g, 0, none⟩) n cg).ownBlock = some k → w.heap.size ≤ k := fun k e => (O2.out.lt k e).1
        have O4 : Hid (w4.ownsRow w.heap.size 5 1 v' (n + 1) ((xs ++ [v]).map (Value.int .u8))) := by show World.ownsRow _ _ _ _ _ _ _; rw [List.map_append]; exact hown
        have R4 : Hid (RD w4 q a bs c p3) := RD.own H.out (R2.out.below BA2.out) hg hro
        have G4 : Hid (w.grownBy w4 (some q)) := grown_own (grown_blw G2.out BA2.out) hg hro
        have N4 : Hid (v' ≠ .slice none 0 0) := not_nilg hnl ⟨_, _, _, rfl⟩
        clear hown hg hnl hro)
      go_roundw
      case rel => exact ⟨i - 1, p3, xs ++ [v], by omega, by simp [HN.out]; omega, by first | rfl | (congr 1; omega) | go_num, R4.out, G4.out, by simpa [HN.out] using O4.out, N4.out⟩
      case measure => simp [intOf]; omega
    · have hi0 : i = 0 := by omega
      subst hi0
      have hconv := run_convert_bytes_arg (P := Tryd.prog) wr 22 5 Tryd.underlying22 Tryd.underlying5 g 0 xs.length cg xs rfl (fun i hi => by rw [Nat.zero_add]; exact (own_cellV O1.out (k := i) (x := .int .u8 (xs.getD i 0)) (by simp [List.getD, hi])).1) 9 Tryd.underlying9
      have hsz := strOfNums_size xs
      have HX : Hid (xs.length ≤ most) := by show _ ≤ _; omega
      generalize strOfNums xs = t at *
      go_wp2
      go_ret
      exact ⟨t, p2, rfl, by rw [hsz]; exact HX.out, R1.out, G1.out⟩

end Go.Proofs.YtenkeinigkahaaaDoor

namespace Go.Proofs.YtenkeinigkahaaaDoor
open Go.RowKit

def fiveT : Array Value := #[.string ⟨#[48]⟩, .string ⟨#[49]⟩, .string ⟨#[32]⟩, .string ⟨#[10]⟩, .string ⟨#[97]⟩]
theorem five_row {w : World} {g : Nat} (h : w.heap[g]? = some (.cells #[.string ⟨#[48]⟩, .string ⟨#[49]⟩, .string ⟨#[32]⟩, .string ⟨#[10]⟩, .string ⟨#[97]⟩] 9 (0, 0))) : TextsRow w g #[.string ⟨#[48]⟩, .string ⟨#[49]⟩, .string ⟨#[32]⟩, .string ⟨#[10]⟩, .string ⟨#[97]⟩] 1 := by
  refine ⟨⟨_, h⟩, fun j hj => ?_⟩
  match j, hj with
  | 0, _ => exact ⟨_, rfl, by decide⟩
  | 1, _ => exact ⟨_, rfl, by decide⟩
  | 2, _ => exact ⟨_, rfl, by decide⟩
  | 3, _ => exact ⟨_, rfl, by decide⟩
  | 4, _ => exact ⟨_, rfl, by decide⟩

set_option maxHeartbeats 2000000 in
theorem hurt_any (q p c : Nat) (a : Option Addr) (bs : List Int) (s : ByteArray) (hi : Nat) (w : World) (h : RD w q a bs c p) (hs : s.size ≤ hi) (hh : hi ≤ 60000) :
    Calls Tryd.prog 20 #[.pointer (some ⟨q, 0, none⟩), .string s] w (TextOk w q a bs c (hi + 2)) := by
  have hq : q < w.heap.size := row_lt h.1
  have H : Hid (RD w q a bs c p) := h
  clear h
  go_enter Tryd.func20, Tryd.ntmps20
  go_wp2_with fail
  refine (below_any q p c 6 a bs w H.out (by omega)).mono ?_
  rintro e w1 ⟨v, p1, rfl, hv0, hv1, hr, hg⟩
  have R1 : Hid (RD w1 q a bs c p1) := hr
  have G1 : Hid (w.grownBy w1 (some q)) := hg
  clear hr hg hv1
  by_cases h0 : v = 0
  · subst h0
    go_wp2_with fail
    refine (bytes_any q p1 c 2 a bs w1 R1.out (by omega)).mono ?_
    rintro e w2 ⟨t, p2, rfl, ht, hr, hg⟩
    have R2 : Hid (RD w2 q a bs c p2) := hr
    have G2 : Hid (w.grownBy w2 (some q)) := grown_trn G1.out hg
    clear hr hg R1 G1
    have hsz : (s ++ t).size = s.size + t.size := ByteArray.size_append
    have hle : (s ++ t).size ≤ hi + 2 := by omega
    clear hsz
    go_wp2
    go_ret
    exact ⟨_, p2, rfl, hle, R2.out, G2.out⟩
  · have hb0 : (v == 0) = false := by simpa using h0
    by_cases h1 : v = 1
    · subst h1
      have hle : ((s.size : Int) + 1) ≤ 65536 := by omega
      go_wp2_with fail
      refine (below_any q p1 c ((s.size : Int) + 1) a bs w1 R1.out hle).mono ?_
      rintro e w2 ⟨v, p2, rfl, hv0, hv1, hr, hg⟩
      have R2 : Hid (RD w2 q a bs c p2) := hr
      have G2 : Hid (w.grownBy w2 (some q)) := grown_trn G1.out hg
      clear hr hg R1 G1
      obtain ⟨k, rfl⟩ := Int.eq_ofNat_of_zero_le hv0
      have hk : k ≤ s.size := by omega
      have hk' : (k : Int) ≤ s.size := by omega
      have hsz : (s.extract 0 k).size ≤ hi + 2 := by rw [ByteArray.size_extract]; omega
      clear hv1
      go_wp2
      go_ret
      exact ⟨_, p2, rfl, hsz, R2.out, G2.out⟩
    · have hb1 : (v == 1) = false := by simpa using h1
      have FIN : ∀ W p2, RD W q a bs c p2 → w.grownBy W (some q) → TextOk w q a bs c (hi + 2) (.returned (.string s)) W := fun W p2 h1 h2 => ⟨s, p2, rfl, by omega, h1, h2⟩
      by_cases h2 : v = 2
      · subst h2
        by_cases hpos : 0 < s.size
        · have hpos' : (0 : Int) < s.size := by omega
          have hle : (s.size : Int) ≤ 65536 := by omega
          go_wp2_with fail
          refine (below_any q p1 c (s.size : Int) a bs w1 R1.out hle).mono ?_
          rintro e w2 ⟨v, p2, rfl, hv0, hv1, hr, hg⟩
          have R2 : Hid (RD w2 q a bs c p2) := hr
          have G2 : Hid (w.grownBy w2 (some q)) := grown_trn G1.out hg
          clear hr hg R1 G1
          obtain ⟨k, rfl⟩ := Int.eq_ofNat_of_zero_le hv0
          have hk : k < s.size := by omega
          have hk' : (k : Int) ≤ s.size := by omega
          have hk1 : (k : Int) + 1 ≤ s.size := by omega
          have hk3 : (0 : Int) ≤ (k : Int) + 1 := by omega
          have hkl : (k : Int) < s.size := by omega
          clear hv1
          have hq2 : q < w2.heap.size := row_lt R2.out.1
          go_wp2_with fail
          have hk1 : (k : Int) + 1 ≤ s.size := by omega
          have hk5 : ¬ ((k : Int) + 1 < 0) := by omega
          have hw1 : IntKind.i64.wrap ((k : Int) + 1) = (k : Int) + 1 := IntWalk.i64_in _ (by omega)
          have hw2 : wrap64 ((k : Int) + 1) = (k : Int) + 1 := IntWalk.wrap64_in _ (by omega)
          go_region_with (first
            | (go_at_call 18
               with_reducible refine (below_any q p2 c 5 a bs w2.drew (R2.out.below (Below.refl _ _).drew) (by omega)).mono ?_
               rintro e w3 ⟨v3, p3, rfl, hv30, hv31, hr3, hg3⟩
               have R3 : Hid (RD w3 q a bs c p3) := hr3
               have G3 : Hid (w.grownBy w3 (some q)) := grown_trn (grown_blw G2.out (Below.refl _ _).drew) hg3
               obtain ⟨j, rfl⟩ := Int.eq_ofNat_of_zero_le hv30
               have hj : j < 5 := by omega
               have hj' : (j : Int) < 5 := by omega
               obtain ⟨t, hct, hts⟩ := (five_row (heap_alloc_new w3 (.cells #[.string ⟨#[48]⟩, .string ⟨#[49]⟩, .string ⟨#[32]⟩, .string ⟨#[10]⟩, .string ⟨#[97]⟩] 9))).at (j := j) (by simpa using hj)
               clear hr3 hg3 hv31
               have hk1 : (k : Int) + 1 ≤ s.size := by omega
               have hk5 : ¬ ((k : Int) + 1 < 0) := by omega)
            | (go_at_call 18
               with_reducible refine (below_any q p2 c 5 a bs (w2.alloc (.cells #[.string ⟨#[48]⟩, .string ⟨#[49]⟩, .string ⟨#[32]⟩, .string ⟨#[10]⟩, .string ⟨#[97]⟩] 9)).drew (R2.out.below ((Below.refl _ _).alloc (Nat.le_refl _) _).drew) (by omega)).mono ?_
               rintro e w3 ⟨v3, p3, rfl, hv30, hv31, hr3, hg3⟩
               have R3 : Hid (RD w3 q a bs c p3) := hr3
               have G3 : Hid (w.grownBy w3 (some q)) := grown_trn (grown_blw G2.out ((Below.refl _ _).alloc (Nat.le_refl _) _).drew) hg3
               obtain ⟨j, rfl⟩ := Int.eq_ofNat_of_zero_le hv30
               have hj : j < 5 := by omega
               have hj' : (j : Int) < 5 := by omega
               obtain ⟨t, hct, hts⟩ := ((five_row (w := (w2.alloc (.cells #[.string ⟨#[48]⟩, .string ⟨#[49]⟩, .string ⟨#[32]⟩, .string ⟨#[10]⟩, .string ⟨#[97]⟩] 9)).drew) (heap_alloc_new w2 (.cells #[.string ⟨#[48]⟩, .string ⟨#[49]⟩, .string ⟨#[32]⟩, .string ⟨#[10]⟩, .string ⟨#[97]⟩] 9))).grown hg3 (by omega)).at (j := j) (by simpa using hj)
               clear hr3 hg3 hv31
               have hk1 : (k : Int) + 1 ≤ s.size := by omega
               have hk5 : ¬ ((k : Int) + 1 < 0) := by omega))
          all_goals
            have hsz : (s.extract 0 k ++ t ++ s.extract (k + 1) s.size).size ≤ hi + 2 := by
              rw [ByteArray.size_append, ByteArray.size_append, ByteArray.size_extract, ByteArray.size_extract]
              omega
            generalize s.extract 0 k ++ t ++ s.extract (k + 1) s.size = r at *
            go_wp2
            go_ret
            first
              | exact ⟨r, p3, rfl, hsz, R3.out, G3.out⟩
              | exact ⟨r, p3, rfl, hsz, R3.out.below ((Below.refl _ _).alloc (Nat.le_refl _) _), grown_blw G3.out ((Below.refl _ _).alloc (Nat.le_refl _) _)⟩
        · have hpos' : ¬ ((0 : Int) < s.size) := by omega
          go_wp2
          go_ret
          exact FIN _ _ R1.out G1.out
      · have hb2 : (v == 2) = false := by simpa using h2
        go_wp2
        go_ret
        exact FIN _ _ R1.out G1.out

end Go.Proofs.YtenkeinigkahaaaDoor

namespace Go.Proofs.YtenkeinigkahaaaDoor
open Go.RowKit

theorem fourB_size (n : Nat) : (fourB n).size = 4 := by unfold fourB; rw [strOfNums_size]; rfl
/-- The frame of a text. -/
def frV (s : ByteArray) : ByteArray := if 1000000 < s.size then ⟨#[]⟩ else fourB s.size ++ fourB (sumV s) ++ s
theorem frV_no {s : ByteArray} (h : 1000000 < s.size) : frV s = ⟨#[]⟩ := if_pos h
theorem frV_yes {s : ByteArray} (h : ¬ 1000000 < s.size) : frV s = fourB s.size ++ fourB (sumV s) ++ s := if_neg h

set_option maxRecDepth 100000 in
set_option maxHeartbeats 1000000 in
theorem specFrameOf_any (s : ByteArray) (hs : s.size ≤ 1048576) (w : World) :
    Calls Tryd.prog 13 #[.string s] w fun e w' => e = .returned (.string (frV s)) ∧ Below w.heap.size w w' := by
  by_cases hb : 1000000 < s.size
  · have hb' : (1000000 : Int) < s.size := by omega
    go_enter Tryd.func13, Tryd.ntmps13
    go_wp2
    go_ret
    exact ⟨by rw [frV_no hb]; rfl, Below.refl _ _⟩
  · have hb' : ¬ ((1000000 : Int) < s.size) := by omega
    go_enter Tryd.func13, Tryd.ntmps13
    go_wp2_with fail
    refine (l13Four_any s.size (by omega) w).mono ?_
    rintro e w1 ⟨rfl, hb1⟩
    have B1 : Hid (Below w.heap.size w w1) := hb1
    clear hb1
    go_wp2_with fail
    refine (l13Sum_any s hs w1).mono ?_
    rintro e w2 ⟨rfl, hb1⟩
    have B2 : Hid (Below w.heap.size w w2) := B1.out.trans (hb1.mono B1.out.size)
    clear hb1
    have hsl := sumV_lt s
    have HF : Hid (frV s = fourB s.size ++ fourB (sumV s) ++ s) := frV_yes hb
    generalize sumV s = m at *
    go_wp2_with fail
    refine (l13Four_any m hsl w2).mono ?_
    rintro e w3 ⟨rfl, hb1⟩
    have B3 : Hid (Below w.heap.size w w3) := B2.out.trans (hb1.mono B2.out.size)
    clear hb1
    have h1 := fourB_size s.size
    have h2 := fourB_size m
    generalize fourB s.size = f1 at *
    generalize fourB m = f2 at *
    have h12 : (f1 ++ f2).size = 8 := by rw [ByteArray.size_append, h1, h2]
    go_wp2
    go_ret
    exact ⟨by rw [HF.out]; rfl, B3.out⟩

set_option maxRecDepth 100000 in
set_option maxHeartbeats 1000000 in
theorem implFrameOf_any (s : ByteArray) (hs : s.size ≤ 1048576) (w : World) (hT : TabW w) :
    Calls Tryd.prog 11 #[.string s] w fun e w' => e = .returned (.string (frV s)) ∧ Below w.heap.size w w' := by
  by_cases hb : 1000000 < s.size
  · have hb' : (1000000 : Int) < s.size := by omega
    go_enter Tryd.func11, Tryd.ntmps11
    go_wp2
    go_ret
    exact ⟨by rw [frV_no hb]; rfl, Below.refl _ _⟩
  · have hb' : ¬ ((1000000 : Int) < s.size) := by omega
    go_enter Tryd.func11, Tryd.ntmps11
    go_wp2_with fail
    refine (wordOf_any s.size (by omega) w).mono ?_
    rintro e w1 ⟨rfl, hb1⟩
    have T1 : Hid (TabW w1) := hT.below hb1
    clear hT
    have B1 : Hid (Below w.heap.size w w1) := hb1
    clear hb1
    go_wp2_with fail
    refine (crcOf_any s hs w1 T1.out).mono ?_
    rintro e w2 ⟨rfl, hb1⟩
    have B2 : Hid (Below w.heap.size w w2) := B1.out.trans (hb1.mono B1.out.size)
    clear hb1
    have hsl := sumV_lt s
    have HF : Hid (frV s = fourB s.size ++ fourB (sumV s) ++ s) := frV_yes hb
    generalize sumV s = m at *
    go_wp2_with fail
    refine (wordOf_any m hsl w2).mono ?_
    rintro e w3 ⟨rfl, hb1⟩
    have B3 : Hid (Below w.heap.size w w3) := B2.out.trans (hb1.mono B2.out.size)
    clear hb1
    have h1 := fourB_size s.size
    have h2 := fourB_size m
    generalize fourB s.size = f1 at *
    generalize fourB m = f2 at *
    have h12 : (f1 ++ f2).size = 8 := by rw [ByteArray.size_append, h1, h2]
    go_wp2
    go_ret
    exact ⟨by rw [HF.out]; rfl, B3.out⟩

end Go.Proofs.YtenkeinigkahaaaDoor

namespace Go.Proofs.YtenkeinigkahaaaDoor
open Go.RowKit

theorem frV_size (s : ByteArray) : (frV s).size ≤ s.size + 8 := by
  by_cases h : 1000000 < s.size
  · rw [frV_no h]; exact Nat.zero_le _
  · rw [frV_yes h, ByteArray.size_append, ByteArray.size_append, fourB_size, fourB_size]; omega

set_option maxHeartbeats 1000000 in
theorem drawFrameOf_any (a : Option Addr) (c : Nat) (bs : List Int) (w : World) (h : CodeAt w a bs) (hl : bs.length ≤ 1048576) :
    Calls Tryd.prog 12 #[.slice a bs.length c] w fun e w' => ∃ s : ByteArray, e = .returned (.string s) ∧ s.size ≤ 8 ∧ Below w.heap.size w w' := by
  have H : Hid (CodeAt w a bs) := h
  clear h
  go_enter Tryd.func12, Tryd.ntmps12
  go_wp2_with fail
  refine (l1Open_any a c bs w H.out hl).mono ?_
  rintro e w1 ⟨rfl, hb, hr⟩
  have B1 : Hid (Below w.heap.size w w1) := hb
  have R1 : Hid (RD w1 w.heap.size a bs c 0) := hr
  clear hb hr
  obtain ⟨q, HQ⟩ : ∃ q, Hid (w.heap.size = q) := ⟨_, rfl⟩
  have HQL : Hid (w.heap.size ≤ q) := by show _ ≤ _; rw [HQ.out]; exact Nat.le_refl _
  rw [HQ.out] at R1 ⊢
  go_wp2_with fail
  refine (text_any q 0 c a bs w1 R1.out).mono ?_
  rintro e w2 ⟨s, p2, rfl, hs, hr, hg⟩
  have B2 : Hid (Below w.heap.size w w2) := grown_below B1.out HQL.out hg
  have R2 : Hid (RD w2 q a bs c p2) := hr
  clear hr hg B1 R1
  go_wp2_with fail
  refine (bytes_any q p2 c 5 a bs w2 R2.out (by omega)).mono ?_
  rintro e w3 ⟨t, p3, rfl, ht, hr, hg⟩
  have B3 : Hid (Below w.heap.size w w3) := grown_below B2.out HQL.out hg
  clear hr hg B2 R2
  have hsz : (s ++ t).size ≤ 8 := by rw [ByteArray.size_append]; omega
  go_wp2
  go_ret
  exact ⟨_, rfl, hsz, B3.out⟩

set_option maxHeartbeats 1000000 in
theorem drawTakeFrames_any (a : Option Addr) (c : Nat) (bs : List Int) (w : World) (h : CodeAt w a bs) (hl : bs.length ≤ 1048576) :
    Calls Tryd.prog 7 #[.slice a bs.length c] w fun e w' => ∃ s : ByteArray, e = .returned (.string s) ∧ s.size ≤ 100 ∧ Below w.heap.size w w' := by
  have H : Hid (CodeAt w a bs) := h
  clear h
  go_enter Tryd.func7, Tryd.ntmps7
  go_wp2_with fail
  refine (l1Open_any a c bs w H.out hl).mono ?_
  rintro e w1 ⟨rfl, hb, hr⟩
  have B1 : Hid (Below w.heap.size w w1) := hb
  have R1 : Hid (RD w1 w.heap.size a bs c 0) := hr
  clear hb hr
  obtain ⟨q, HQ⟩ : ∃ q, Hid (w.heap.size = q) := ⟨_, rfl⟩
  have HQL : Hid (w.heap.size ≤ q) := by show _ ≤ _; rw [HQ.out]; exact Nat.le_refl _
  rw [HQ.out] at R1 ⊢
  go_wp2_with fail
  refine (below_any q 0 c 4 a bs w1 R1.out (by omega)).mono ?_
  rintro e w2 ⟨v, p2, rfl, hv0, hv1, hr, hg⟩
  have B2 : Hid (Below w.heap.size w w2) := grown_below B1.out HQL.out hg
  have R2 : Hid (RD w2 q a bs c p2) := hr
  obtain ⟨k, rfl⟩ := Int.eq_ofNat_of_zero_le hv0
  have hk : k ≤ 3 := by omega
  clear hr hg B1 R1 hv1 hv0
  go_wp2_with fail
  go_loopw [4, 5] (fun ts ti wr => ∃ (i p3 : Nat) (s : ByteArray), i ≤ k ∧ ti = .int .i64 i ∧ ts = .string s ∧ s.size + i * 20 ≤ k * 20 ∧ RD wr q a bs c p3 ∧ Below w.heap.size w wr) (fun _ ti _ => (intOf ti).toNat)
  case atStart => exact ⟨k, p2, _, Nat.le_refl _, rfl, rfl, by show 0 + k * 20 ≤ k * 20; omega, R2.out, B2.out⟩
  case round =>
    clear B2 R2
    obtain ⟨i, p3, s, hi, rfl, rfl, hs, hr, hb⟩ := hrel
    have R3 : Hid (RD wr q a bs c p3) := hr
    have B3 : Hid (Below w.heap.size w wr) := hb
    clear hr hb
    by_cases h0 : 0 < i
    · have h0' : (0 : Int) < i := by omega
      go_wp2_with fail
      refine (text_any q p3 c a bs wr R3.out).mono ?_
      rintro e w4 ⟨t, p4, rfl, ht, hr, hg⟩
      have B4 : Hid (Below w.heap.size w w4) := grown_below B3.out HQL.out hg
      have R4 : Hid (RD w4 q a bs c p4) := hr
      clear hr hg B3 R3
      go_wp2_with fail
      refine (specFrameOf_any t (by omega) w4).mono ?_
      rintro e w5 ⟨rfl, hb5⟩
      have B5 : Hid (Below w.heap.size w w5) := B4.out.trans (hb5.mono B4.out.size)
      have R5 : Hid (RD w5 q a bs c p4) := R4.out.below hb5
      clear hb5 B4 R4
      have hf := frV_size t
      generalize frV t = f at *
      have hsz : (s ++ f).size ≤ s.size + 11 := by rw [ByteArray.size_append]; omega
      go_wp2
      first
        | exact ⟨⟨i - 1, p4, s ++ f, by omega, by first | rfl | (congr 1; omega) | go_num, rfl, by omega, R5.out, B5.out⟩, by simp [intOf]; omega⟩
        | (go_roundw
           case rel => exact ⟨i - 1, p4, s ++ f, by omega, by first | rfl | (congr 1; omega) | go_num, rfl, by omega, R5.out, B5.out⟩
           case measure => simp [intOf]; omega)
    · have h0' : ¬ ((0 : Int) < i) := by omega
      go_wp2_with fail
      refine (hurt_any q p3 c a bs s 60 wr R3.out (by omega) (by omega)).mono ?_
      rintro e w4 ⟨t, p4, rfl, ht, hr, hg⟩
      have B4 : Hid (Below w.heap.size w w4) := grown_below B3.out HQL.out hg
      clear hr hg B3 R3
      go_wp2
      go_ret
      exact ⟨t, rfl, by omega, B4.out⟩

end Go.Proofs.YtenkeinigkahaaaDoor

namespace Go.Proofs.YtenkeinigkahaaaDoor
open Go.RowKit

theorem ext_list (s : ByteArray) (a b : Nat) : (s.extract a b).data.toList = (s.data.toList.drop a).take (b - a) := by
  simp [ByteArray.data_extract, Array.toList_extract, List.extract]
theorem byt_ext (s : ByteArray) (a b i : Nat) (h : a + i < b) : byt (s.extract a b) i = byt s (a + i) := by
  unfold byt
  rw [ext_list, List.getD_eq_getElem?_getD, List.getElem?_take, if_pos (by omega), List.getElem?_drop, List.getD_eq_getElem?_getD]
theorem ext_size (s : ByteArray) (a b : Nat) (h : b ≤ s.size) : (s.extract a b).size = b - a := by
  rw [ByteArray.size_extract]; omega
theorem ext_ext (s : ByteArray) (a b c d : Nat) (h : a + d ≤ b) : (s.extract a b).extract c d = s.extract (a + c) (a + d) := by
  apply ByteArray.ext
  apply Array.toList_inj.1
  rw [ext_list, ext_list, ext_list, List.drop_take, List.take_take, List.drop_drop]
  congr 1
  omega
theorem ba_ext {s t : ByteArray} (h : s.size = t.size) (hb : ∀ i, i < s.size → byt s i = byt t i) : s = t := by
  apply ByteArray.ext
  apply Array.toList_inj.1
  have hs : s.data.toList.length = s.size := Array.length_toList
  have ht : t.data.toList.length = t.size := Array.length_toList
  apply List.ext_getElem (by omega)
  intro i h1 h2
  have := hb i (by omega)
  unfold byt at this
  rw [List.getD_eq_getElem?_getD, List.getD_eq_getElem?_getD, List.getElem?_eq_getElem h1, List.getElem?_eq_getElem h2] at this
  exact UInt8.toNat_inj.1 this

theorem str_ne {f t : ByteArray} (h : ¬ f = t) : (f.toList == t.toList) = false := by
  rw [ByteArray.toList_eq, ByteArray.toList_eq]
  apply beq_eq_false_iff_ne.2
  intro e
  exact h (ByteArray.ext (Array.toList_inj.1 e))
theorem str_eq {f t : ByteArray} (h : f = t) : (f.toList == t.toList) = true := by
  rw [h]
  exact beq_self_eq_true _

end Go.Proofs.YtenkeinigkahaaaDoor
