import Derived.Test.YtenkeinigkahaaaDoorPack1
import Derived.Laws.BytesArg
namespace Go.Proofs.YtenkeinigkahaaaDoor
open Go.RowKit

/-- The four bytes of a number, the greatest first. -/
def fourL (n : Nat) : List Int := [(n : Int) / 16777216, (n : Int) / 65536 % 256, (n : Int) / 256 % 256, (n : Int) % 256]
def fourB (n : Nat) : ByteArray := strOfNums (fourL n)
theorem four_cells (w : World) (n : Nat) (i : Nat) (hi : i < 4) : (w.alloc (.cells #[.int .u8 ((n : Int) / 16777216), .int .u8 ((n : Int) / 65536 % 256), .int .u8 ((n : Int) / 256 % 256), .int .u8 ((n : Int) % 256)] 5)).cell? ⟨w.heap.size, 0 + i, none⟩ = some (.int .u8 ((fourL n).getD i 0)) := by
  rw [cell_of_row _ _ _ _ _ _ (heap_alloc_new _ _)]
  match i, hi with
  | 0, _ => rfl
  | 1, _ => rfl
  | 2, _ => rfl
  | 3, _ => rfl

set_option maxHeartbeats 400000 in
theorem l13Four_any (n : Nat) (hn : n < 4294967296) (w : World) :
    Calls Tryd.prog 23 #[.int .u32 n] w fun e w' => e = .returned (.string (fourB n)) ∧ Below w.heap.size w w' := by
  have hconv := run_convert_bytes_arg (P := Tryd.prog) _ 22 5 Tryd.underlying22 Tryd.underlying5 w.heap.size 0 4 4 (fourL n) rfl (four_cells w n) 9 Tryd.underlying9
  go_enter Tryd.func23, Tryd.ntmps23
  go_wp2
  go_ret
  exact ⟨rfl, (Below.refl _ _).alloc (Nat.le_refl _) _⟩
set_option maxHeartbeats 400000 in
theorem wordOf_any (n : Nat) (hn : n < 4294967296) (w : World) :
    Calls Tryd.prog 25 #[.int .u32 n] w fun e w' => e = .returned (.string (fourB n)) ∧ Below w.heap.size w w' := by
  have hconv := run_convert_bytes_arg (P := Tryd.prog) _ 22 5 Tryd.underlying22 Tryd.underlying5 w.heap.size 0 4 4 (fourL n) rfl (four_cells w n) 9 Tryd.underlying9
  go_enter Tryd.func25, Tryd.ntmps25
  go_wp2
  go_ret
  exact ⟨rfl, (Below.refl _ _).alloc (Nat.le_refl _) _⟩

end Go.Proofs.YtenkeinigkahaaaDoor

namespace Go.Proofs.YtenkeinigkahaaaDoor
open Go.RowKit

/-- A slice of texts. -/
def TxtsAt (w : World) (a : Option Addr) (xs : List ByteArray) : Prop := ∀ j, j < xs.length → ∃ b off, a = some ⟨b, off, none⟩ ∧ w.cell? ⟨b, off + j, none⟩ = some (.string (xs.getD j ⟨#[]⟩))
theorem TxtsAt.below {w w' : World} {a : Option Addr} {xs : List ByteArray} (h : TxtsAt w a xs) (hb : Below w.heap.size w w') : TxtsAt w' a xs := fun j hj => by
  obtain ⟨b, off, e, hc⟩ := h j hj
  exact ⟨b, off, e, (hb.cell (p := ⟨b, off + j, none⟩) (block_lt_of_cell hc)).trans hc⟩
theorem own_txts {w : World} {base : Nat} {e : TypeId} {v : Value} {xs : List ByteArray} (h : w.ownsRow base e 1 v xs.length (xs.map Value.string)) : ∃ a c, v = .slice a xs.length c ∧ TxtsAt w a xs := by
  rcases own_kinds h with ⟨rfl, h0⟩ | ⟨g, c, rfl, _, _⟩
  · exact ⟨none, 0, by rw [h0], fun j hj => by omega⟩
  · refine ⟨_, c, rfl, fun j hj => ⟨g, 0, rfl, ?_⟩⟩
    rw [Nat.zero_add]
    exact (own_cellV h (k := j) (x := .string (xs.getD j ⟨#[]⟩)) (by simp [List.getD, hj])).1

set_option maxHeartbeats 1000000 in
theorem eqTexts_same (a1 a2 : Option Addr) (c1 c2 n : Nat) (xs : List ByteArray) (w : World) (h1 : TxtsAt w a1 xs) (h2 : TxtsAt w a2 xs) (hn : xs.length = n) (hl : n ≤ 1048576) :
    Calls Tryd.prog 14 #[.slice a1 n c1, .slice a2 n c2] w fun e w' => e = .returned (.bool true) ∧ Below w.heap.size w w' := by
  have H1 : Hid (TxtsAt w a1 xs) := h1
  have H2 : Hid (TxtsAt w a2 xs) := h2
  have HN : Hid (xs.length = n) := hn
  clear h1 h2 hn
  go_enter Tryd.func14, Tryd.ntmps14
  go_wp2_with fail
  go_loopw [5] (fun ti wr => ∃ i : Nat, i ≤ n ∧ ti = .int .i64 i ∧ Below w.heap.size w wr) (fun ti _ => n - (intOf ti).toNat)
  case atStart => exact ⟨0, Nat.zero_le _, rfl, Below.refl _ _⟩
  case round =>
    obtain ⟨i, hi, rfl, hb⟩ := hrel
    have B1 : Hid (Below w.heap.size w wr) := hb
    clear hb
    by_cases hlt : i < n
    · obtain ⟨b1, o1, e1, c1'⟩ := (H1.out.below B1.out) i (by rw [HN.out]; exact hlt)
      obtain ⟨b2, o2, e2, c2'⟩ := (H2.out.below B1.out) i (by rw [HN.out]; exact hlt)
      subst e1 e2
      generalize xs.getD i ⟨#[]⟩ = x at *
      have hxx : (x.toList == x.toList) = true := beq_self_eq_true _
      have hin : (i : Int) < n := by omega
      have z1 := fun s : Kin wr => s.cell c1'
      have z2 := fun s : Kin wr => s.cell c2'
      have hkin := Kin.there wr
      go_wp2_with fail
      refine wp_region_kin (by kernel_rfl) (by kernel_rfl) ?_
      repeat (go_big_quiet_step (fail))
      refine wpQuiet_nil ?_
      rintro _ ⟨s1, rfl⟩
      clear z1 z2 hkin
      go_wp2
      go_roundw
      case rel => exact ⟨i + 1, by omega, by first | rfl | go_num, B1.out.trans (s1.below.mono B1.out.size)⟩
      case measure => simp [intOf]; omega
    · have hin : ¬ ((i : Int) < n) := by omega
      go_wp2
      go_ret
      exact ⟨rfl, B1.out⟩

/-- The decimal digits of a number above nought. -/
def digS (k : Nat) : List Int := if _h : k = 0 then [] else digS (k / 10) ++ [48 + (k : Int) % 10]
decreasing_by omega
theorem digS_zero : digS 0 = [] := by unfold digS; simp
theorem digS_pos {k : Nat} (h : k ≠ 0) : digS k = digS (k / 10) ++ [48 + (k : Int) % 10] := by rw [digS, dif_neg h]
theorem digS_len : ∀ (f k : Nat), k < 10 ^ f → (digS k).length ≤ f
  | 0, k, h => by
    have : k = 0 := by simpa using h
    subst this
    rw [digS_zero]; simp
  | f + 1, k, h => by
    by_cases h0 : k = 0
    · subst h0; rw [digS_zero]; simp
    · rw [digS_pos h0]
      have := digS_len f (k / 10) (by rw [Nat.pow_succ] at h; omega)
      simp
      omega
/-- A mark's text. -/
def mtV (k : Nat) : ByteArray := ⟨#[109]⟩ ++ strOfNums (digS k)
theorem nums_append (a b : List Int) : strOfNums (a ++ b) = strOfNums a ++ strOfNums b := by
  apply ByteArray.ext
  simp [strOfNums]
theorem byte_cell (w : World) (n : Int) (i : Nat) (hi : i < 1) : (w.alloc (.cells #[.int .u8 n] 5)).cell? ⟨w.heap.size, 0 + i, none⟩ = some (.int .u8 (([n] : List Int).getD i 0)) := by
  rw [cell_of_row _ _ _ _ _ _ (heap_alloc_new _ _)]
  match i, hi with
  | 0, _ => rfl

set_option maxRecDepth 100000 in
set_option maxHeartbeats 1000000 in
theorem markText_any (k : Nat) (w : World) (h0 : 1 ≤ k) (h1 : k ≤ 1000000000) :
    Calls Tryd.prog 28 #[.int .i64 k] w fun e w' => e = .returned (.string (mtV k)) ∧ Below w.heap.size w w' := by
  have hk0 : ¬ ((k : Int) ≤ 0) := by omega
  go_enter Tryd.func28, Tryd.ntmps28
  go_wp2_with fail
  go_loopw [0, 3] (fun tk ts wr => ∃ (j : Nat) (l : List Int), j ≤ k ∧ tk = .int .i64 j ∧ ts = .string (strOfNums l) ∧ digS k = digS j ++ l ∧ l.length ≤ 10 ∧ Below w.heap.size w wr) (fun tk _ _ => (intOf tk).toNat)
  case atStart => exact ⟨k, [], Nat.le_refl _, rfl, rfl, by simp, by simp, Below.refl _ _⟩
  case round =>
    obtain ⟨j, l, hj, rfl, rfl, hd, hl, hb⟩ := hrel
    have HD : Hid (digS k = digS j ++ l) := hd
    have B1 : Hid (Below w.heap.size w wr) := hb
    clear hd hb
    have HLl : Hid ((digS k).length ≤ 10) := digS_len 10 k (by omega)
    have hss := strOfNums_size l
    by_cases hj0 : 0 < j
    · have hj' : (0 : Int) < j := by omega
      have hl2 : l.length + 1 ≤ 10 := by
        have := HLl.out
        rw [HD.out, digS_pos (by omega)] at this
        simp at this
        omega
      have HD2 : Hid (digS k = digS (j / 10) ++ ([48 + (j : Int) % 10] ++ l)) := by
        show _ = _
        rw [HD.out, digS_pos (by omega), List.append_assoc]
      have HA : Hid (strOfNums ([48 + (j : Int) % 10] ++ l) = strOfNums [48 + (j : Int) % 10] ++ strOfNums l) := nums_append _ _
      have hconv := run_convert_bytes_arg (P := Tryd.prog) _ 22 5 Tryd.underlying22 Tryd.underlying5 wr.heap.size 0 1 1 [48 + (j : Int) % 10] rfl (byte_cell wr (48 + (j : Int) % 10)) 9 Tryd.underlying9
      have hs1 := strOfNums_size [48 + (j : Int) % 10]
      generalize strOfNums [48 + (j : Int) % 10] = t1 at *
      generalize strOfNums l = t2 at *
      have hs1' : t1.size = 1 := by simpa using hs1
      clear hs1
      have BA : Hid (Below w.heap.size w (wr.alloc (.cells #[.int .u8 (48 + (j : Int) % 10)] 5))) := B1.out.alloc B1.out.size _
      go_wp2_with fail
      exact ⟨⟨j / 10, _, by omega, by simp, by rw [HA.out], HD2.out, by simp; omega, BA.out⟩, by simp [intOf]; omega⟩
    · have hj' : j = 0 := by omega
      subst hj'
      have HM : Hid (mtV k = ⟨#[109]⟩ ++ strOfNums l) := by
        show _ = _
        unfold mtV
        rw [HD.out, digS_zero, List.nil_append]
      clear HD hj0
      generalize strOfNums l = t2 at *
      have hm1 : (ByteArray.mk #[109]).size = 1 := rfl
      go_wp2
      go_ret
      exact ⟨by rw [HM.out]; rfl, B1.out⟩

theorem grown_below2 {w w1 w2 : World} {row : Option Nat} (h : w.grownBy w1 row) (hb : Below w1.heap.size w1 w2) : w.grownBy w2 row :=
  ⟨hb.os.trans h.os, hb.tape.trans h.tape, hb.output.trans h.output, Nat.le_trans h.size hb.size, fun j hj hne => (hb.block j (Nat.lt_of_lt_of_le hj h.size)).trans (h.block j hj hne)⟩
theorem grown_set2 {w w1 : World} {g i : Nat} {v : Value} (h : w.grownBy w1 (some g)) : w.grownBy (w1.setCell ⟨g, i, none⟩ v) (some g) :=
  ⟨h.os, h.tape, h.output, Nat.le_trans h.size (by simp [World.setCell]), fun b hb hne => (heap_setCell_other w1 ⟨g, i, none⟩ b v (fun e => hne (by rw [e]))).trans (h.block b hb hne)⟩
/-- The first m of a slice's texts are marks from k on; the others as they were. -/
def mkL (k : Nat) (m : Nat) : List Value := (List.range m).map fun i => .string (mtV (k + i))
theorem mkL_length (k m : Nat) : (mkL k m).length = m := by simp [mkL]
theorem mkL_succ (k m : Nat) : mkL k (m + 1) = mkL k m ++ [.string (mtV (k + m))] := by simp [mkL, List.range_succ]
def mkA (k m : Nat) (xs : List Value) : List Value := mkL k m ++ xs.drop m
theorem mkA_step (k m : Nat) (xs : List Value) (h : m < xs.length) : (mkA k m xs).set m (.string (mtV (k + m))) = mkA k (m + 1) xs := by
  unfold mkA
  rw [mkL_succ, List.set_append_right _ _ (by rw [mkL_length]; exact Nat.le_refl _), mkL_length, Nat.sub_self, List.append_assoc, List.drop_eq_getElem_cons h]
  rfl
theorem mkA_len (k m : Nat) (xs : List Value) (h : m ≤ xs.length) : (mkA k m xs).length = xs.length := by
  unfold mkA
  simp [mkL_length]
  omega
theorem mkA_all (k : Nat) (xs : List Value) : mkA k xs.length xs = mkL k xs.length := by
  unfold mkA
  rw [List.drop_of_length_le (Nat.le_refl _), List.append_nil]

set_option maxHeartbeats 1000000 in
theorem markTexts_any (v : Value) (n k base : Nat) (xs : List Value) (w : World) (ho : w.ownsRow base 9 1 v n xs) (hx : xs.length = n) (hn : n ≤ 1048576) (hk0 : 1 ≤ k) (hk : k ≤ 100000000) :
    Calls Tryd.prog 15 #[v, .int .i64 k] w fun e w' => e = .returned (.int .i64 ((k + n : Nat) : Int)) ∧ w.grownBy w' v.ownBlock ∧ w'.ownsRow base 9 1 v n (mkL k n) := by
  rcases own_kinds ho with ⟨rfl, rfl⟩ | ⟨g, c, rfl, hg1, hg2⟩
  · have hxe : xs = [] := List.eq_nil_of_length_eq_zero hx
    subst hxe
    clear ho
    go_enter Tryd.func15, Tryd.ntmps15
    go_wp2_with fail
    go_loopw [1, 5] (fun tk ti wr => tk = .int .i64 k ∧ ti = .int .i64 0 ∧ wr = w) (fun _ ti _ => (intOf ti).toNat)
    case atStart => exact ⟨rfl, rfl, rfl⟩
    case round =>
      obtain ⟨rfl, rfl, rfl⟩ := hrel
      go_wp2
      go_ret
      exact ⟨by simp, ⟨rfl, rfl, rfl, Nat.le_refl _, fun _ _ _ => rfl⟩, ⟨rfl, .inl ⟨rfl, rfl⟩⟩⟩
  · have O0 : Hid (w.ownsRow base 9 1 (.slice (some ⟨g, 0, none⟩) n c) n xs) := ho
    have HX : Hid (xs.length = n) := hx
    clear ho hx
    go_enter Tryd.func15, Tryd.ntmps15
    go_wp2_with fail
    go_loopw [1, 5] (fun tk ti wr => ∃ i : Nat, i ≤ n ∧ tk = .int .i64 ((k + i : Nat) : Int) ∧ ti = .int .i64 i ∧ w.grownBy wr (some g) ∧ wr.ownsRow base 9 1 (.slice (some ⟨g, 0, none⟩) n c) n (mkA k i xs)) (fun _ ti _ => n - (intOf ti).toNat)
    case atStart => exact ⟨0, Nat.zero_le _, rfl, rfl, ⟨rfl, rfl, rfl, Nat.le_refl _, fun _ _ _ => rfl⟩, by unfold mkA; simpa [mkL] using O0.out⟩
    case round =>
      obtain ⟨i, hi, rfl, rfl, hgr, ho⟩ := hrel
      have G1 : Hid (w.grownBy wr (some g)) := hgr
      have O1 : Hid (wr.ownsRow base 9 1 (.slice (some ⟨g, 0, none⟩) n c) n (mkA k i xs)) := ho
      clear hgr ho
      by_cases hlt : i < n
      · have hin : (i : Int) < n := by omega
        have hkk : ((k + i : Nat) : Int) + 1 = ((k + (i + 1) : Nat) : Int) := by omega
        go_wp2_with fail
        refine (markText_any (k + i) wr (by omega) (by omega)).mono ?_
        rintro e w2 ⟨rfl, hb⟩
        have O2 : Hid (w2.ownsRow base 9 1 (.slice (some ⟨g, 0, none⟩) n c) n (mkA k i xs)) := own_blw O1.out hb
        have G2 : Hid (w.grownBy w2 (some g)) := grown_below2 G1.out hb
        clear hb O1 G1
        obtain ⟨x, hx⟩ : ∃ x, (mkA k i xs)[i]? = some x := ⟨_, List.getElem?_eq_getElem (by rw [mkA_len _ _ _ (by rw [HX.out]; exact hi), HX.out]; exact hlt)⟩
        obtain ⟨cc, cf⟩ := own_cellV O2.out hx
        clear hx
        have O3 : Hid ((w2.setCell ⟨g, i, none⟩ (.string (mtV (k + i)))).ownsRow base 9 1 (.slice (some ⟨g, 0, none⟩) n c) n (mkA k (i + 1) xs)) := by
          have := own_putV (k := i) (.string (mtV (k + i))) O2.out
          rw [mkA_step _ _ _ (by rw [HX.out]; exact hlt)] at this
          exact this
        have G3 : Hid (w.grownBy (w2.setCell ⟨g, i, none⟩ (.string (mtV (k + i)))) (some g)) := grown_set2 G2.out
        generalize mtV (k + i) = m at *
        go_wp2
        go_roundw
        case rel => exact ⟨i + 1, by omega, by first | rfl | (rw [← hkk]; rfl) | go_num, by first | rfl | go_num, G3.out, O3.out⟩
        case measure => simp [intOf]; omega
      · have hin : i = n := by omega
        subst hin
        have O2 : Hid (wr.ownsRow base 9 1 (.slice (some ⟨g, 0, none⟩) i c) i (mkL k i)) := by
          have := O1.out
          rw [show mkA k i xs = mkL k i by have := mkA_all k xs; rw [HX.out] at this; exact this] at this
          exact this
        clear O1
        go_wp2
        go_ret
        exact ⟨rfl, G1.out, O2.out⟩

set_option maxHeartbeats 1000000 in
theorem heldTexts_any (v : Value) (n k base : Nat) (w : World) (ho : w.ownsRow base 9 1 v n (mkL k n)) (hn : n ≤ 1048576) (hk0 : 1 ≤ k) (hk : k ≤ 100000000) :
    Calls Tryd.prog 16 #[v, .int .i64 k] w fun e w' => e = .returned (.int .i64 ((k + n : Nat) : Int)) ∧ Below w.heap.size w w' := by
  rcases own_kinds ho with ⟨rfl, rfl⟩ | ⟨g, c, rfl, hg1, hg2⟩
  · clear ho
    go_enter Tryd.func16, Tryd.ntmps16
    go_wp2_with fail
    go_loopw [1, 5] (fun tk ti wr => tk = .int .i64 k ∧ ti = .int .i64 0 ∧ wr = w) (fun _ ti _ => (intOf ti).toNat)
    case atStart => exact ⟨rfl, rfl, rfl⟩
    case round =>
      obtain ⟨rfl, rfl, rfl⟩ := hrel
      go_wp2
      go_ret
      exact ⟨by simp, Below.refl _ _⟩
  · have O0 : Hid (w.ownsRow base 9 1 (.slice (some ⟨g, 0, none⟩) n c) n (mkL k n)) := ho
    clear ho
    go_enter Tryd.func16, Tryd.ntmps16
    go_wp2_with fail
    go_loopw [1, 5] (fun tk ti wr => ∃ i : Nat, i ≤ n ∧ tk = .int .i64 ((k + i : Nat) : Int) ∧ ti = .int .i64 i ∧ Below w.heap.size w wr) (fun _ ti _ => n - (intOf ti).toNat)
    case atStart => exact ⟨0, Nat.zero_le _, rfl, rfl, Below.refl _ _⟩
    case round =>
      obtain ⟨i, hi, rfl, rfl, hb⟩ := hrel
      have B1 : Hid (Below w.heap.size w wr) := hb
      clear hb
      by_cases hlt : i < n
      · have hin : (i : Int) < n := by omega
        obtain ⟨kj, HJ⟩ : ∃ j, Hid (k + i = j) := ⟨_, rfl⟩
        have hkk : (kj : Int) + 1 = ((k + (i + 1) : Nat) : Int) := by have := HJ.out; omega
        have hkb : 1 ≤ kj ∧ kj ≤ 1000000000 := by have := HJ.out; omega
        obtain ⟨cc, _⟩ := own_cellV (own_blw O0.out B1.out) (k := i) (x := .string (mtV (k + i))) (by simp [mkL, hlt])
        rw [HJ.out] at cc ⊢
        have MT : Hid (∀ W, Calls Tryd.prog 28 #[.int .i64 (kj : Int)] W fun e w' => e = .returned (.string (mtV kj)) ∧ Below W.heap.size W w') := fun W => markText_any kj W hkb.1 hkb.2
        generalize mtV kj = x at *
        have hxx : (x.toList == x.toList) = true := beq_self_eq_true _
        have z1 := fun s : Kin wr => s.cell cc
        have hkin := Kin.there wr
        go_wp2_with fail
        refine wp_region_kin (by kernel_rfl) (by kernel_rfl) ?_
        repeat (go_big_quiet_step ((go_at_call 28; with_reducible exact Kin.call (MT.out _))))
        refine wpQuiet_nil ?_
        rintro _ ⟨s1, rfl⟩
        clear z1 hkin
        have B2 : Hid (Below w.heap.size w s1.w) := B1.out.trans (s1.below.mono B1.out.size)
        generalize s1.w = w2 at *
        go_wp2
        go_roundw
        case rel => exact ⟨i + 1, by omega, by first | rfl | (rw [← hkk]; rfl) | go_num, by first | rfl | go_num, B2.out⟩
        case measure => simp [intOf]; omega
      · have hin : i = n := by omega
        subst hin
        go_wp2
        go_ret
        exact ⟨rfl, B1.out⟩

end Go.Proofs.YtenkeinigkahaaaDoor

namespace Go.Proofs.YtenkeinigkahaaaDoor
open Go.RowKit

set_option maxHeartbeats 1000000 in
theorem sameTexts_same (a1 a2 : Option Addr) (c1 c2 n : Nat) (xs : List ByteArray) (w : World) (h1 : TxtsAt w a1 xs) (h2 : TxtsAt w a2 xs) (hn : xs.length = n) (hl : n ≤ 1048576) :
    Calls Tryd.prog 10 #[.slice a1 n c1, .slice a2 n c2] w fun e w' => e = .returned (.bool true) ∧ Below w.heap.size w w' := by
  have H1 : Hid (TxtsAt w a1 xs) := h1
  have H2 : Hid (TxtsAt w a2 xs) := h2
  have HN : Hid (xs.length = n) := hn
  clear h1 h2 hn
  go_enter Tryd.func10, Tryd.ntmps10
  go_wp2_with fail
  go_loopw [5] (fun ti wr => ∃ i : Nat, i ≤ n ∧ ti = .int .i64 i ∧ Below w.heap.size w wr) (fun ti _ => n - (intOf ti).toNat)
  case atStart => exact ⟨0, Nat.zero_le _, rfl, Below.refl _ _⟩
  case round =>
    obtain ⟨i, hi, rfl, hb⟩ := hrel
    have B1 : Hid (Below w.heap.size w wr) := hb
    clear hb
    by_cases hlt : i < n
    · obtain ⟨b1, o1, e1, c1'⟩ := (H1.out.below B1.out) i (by rw [HN.out]; exact hlt)
      obtain ⟨b2, o2, e2, c2'⟩ := (H2.out.below B1.out) i (by rw [HN.out]; exact hlt)
      subst e1 e2
      generalize xs.getD i ⟨#[]⟩ = x at *
      have hxx : (x.toList == x.toList) = true := beq_self_eq_true _
      have hin : (i : Int) < n := by omega
      have z1 := fun s : Kin wr => s.cell c1'
      have z2 := fun s : Kin wr => s.cell c2'
      have hkin := Kin.there wr
      go_wp2_with fail
      refine wp_region_kin (by kernel_rfl) (by kernel_rfl) ?_
      repeat (go_big_quiet_step (fail))
      refine wpQuiet_nil ?_
      rintro _ ⟨s1, rfl⟩
      clear z1 z2 hkin
      go_wp2
      go_roundw
      case rel => exact ⟨i + 1, by omega, by first | rfl | go_num, B1.out.trans (s1.below.mono B1.out.size)⟩
      case measure => simp [intOf]; omega
    · have hin : ¬ ((i : Int) < n) := by omega
      go_wp2
      go_ret
      exact ⟨rfl, B1.out⟩

theorem TxtsAt.take {w : World} {a : Option Addr} {xs : List ByteArray} (h : TxtsAt w a xs) (i : Nat) : TxtsAt w a (xs.take i) := fun j hj => by
  have hj' : j < xs.length ∧ j < i := by rw [List.length_take] at hj; omega
  obtain ⟨b, off, e, hc⟩ := h j hj'.1
  refine ⟨b, off, e, ?_⟩
  rw [hc, List.getD_eq_getElem?_getD, List.getD_eq_getElem?_getD, List.getElem?_take, if_pos hj'.2]

end Go.Proofs.YtenkeinigkahaaaDoor
