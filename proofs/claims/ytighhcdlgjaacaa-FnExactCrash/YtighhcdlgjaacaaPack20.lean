import Derived.Test.YtighhcdlgjaacaaMarkText
import Derived.Test.YtighhcdlgjaacaaDiskTo
namespace Go.Proofs.Ytighhcdlgjaacaa
open Go.RowKit

/-- Marked files. -/
def mkF (k n : Nat) : List FI := (List.range n).map fun i => (mtV (k + 2 * i), mtV (k + 2 * i + 1))
theorem mkF_len (k n : Nat) : (mkF k n).length = n := by simp [mkF]
theorem mkF_succ (k n : Nat) : mkF k (n + 1) = mkF k n ++ [(mtV (k + 2 * n), mtV (k + 2 * n + 1))] := by simp [mkF, List.range_succ]
theorem mkF_getD (k n i : Nat) (h : i < n) : (mkF k n).getD i fi0 = (mtV (k + 2 * i), mtV (k + 2 * i + 1)) := by
  rw [List.getD_eq_getElem?_getD]
  unfold mkF
  rw [List.getElem?_map, List.getElem?_range h]
  rfl
theorem mkF_step (k i : Nat) (F : List FI) (h : i < F.length) : (mkF k i ++ F.drop i).set i (mtV (k + 2 * i), mtV (k + 2 * i + 1)) = mkF k (i + 1) ++ F.drop (i + 1) := by
  rw [List.set_append_right _ _ (by rw [mkF_len]; exact Nat.le_refl _), mkF_len, Nat.sub_self, mkF_succ, List.append_assoc, List.drop_eq_getElem_cons h]
  rfl

set_option maxHeartbeats 2000000 in
set_option maxRecDepth 20000 in
theorem markFileS_any (v : Value) (n k base : Nat) (F : List FI) (w : World) (ho : w.ownsRow base 72 2 v n (rowF F)) (hx : F.length = n) (hn : n ≤ 1048576) (hk0 : 1 ≤ k) (hk : k ≤ 100000000) :
    Calls Try.prog 46 #[v, .int .i64 k] w fun e w' => e = .returned (.int .i64 ((k + 2 * n : Nat) : Int)) ∧ w.grownBy w' v.ownBlock ∧ w'.ownsRow base 72 2 v n (rowF (mkF k n)) := by
  rcases own_kinds ho with ⟨rfl, rfl⟩ | ⟨g, c, rfl, hg1, hg2⟩
  · clear ho hx
    go_enter Try.func46, Try.ntmps46
    go_wp2_with fail
    go_loopw [1, 5] (fun tk ti wr => tk = .int .i64 k ∧ ti = .int .i64 0 ∧ wr = w) (fun _ ti _ => (intOf ti).toNat)
    case atStart => exact ⟨rfl, rfl, rfl⟩
    case round =>
      obtain ⟨rfl, rfl, rfl⟩ := hrel
      go_wp2
      go_ret
      exact ⟨by simp, ⟨rfl, rfl, rfl, Nat.le_refl _, fun _ _ _ => rfl⟩, ⟨rfl, .inl ⟨rfl, rfl⟩⟩⟩
  · have O0 : Hid (w.ownsRow base 72 2 (.slice (some ⟨g, 0, none⟩) n c) n (rowF F)) := ho
    have HX : Hid (F.length = n) := hx
    clear ho hx
    go_enter Try.func46, Try.ntmps46
    go_wp2_with fail
    go_loopw [1, 5] (fun tk ti wr => ∃ i : Nat, i ≤ n ∧ tk = .int .i64 ((k + 2 * i : Nat) : Int) ∧ ti = .int .i64 i ∧ w.grownBy wr (some g) ∧ wr.ownsRow base 72 2 (.slice (some ⟨g, 0, none⟩) n c) n (rowF (mkF k i ++ F.drop i))) (fun _ ti _ => n - (intOf ti).toNat)
    case atStart => exact ⟨0, Nat.zero_le _, rfl, rfl, ⟨rfl, rfl, rfl, Nat.le_refl _, fun _ _ _ => rfl⟩, O0.out⟩
    case round =>
      obtain ⟨i, hi, rfl, rfl, hgr, ho⟩ := hrel
      have G1 : Hid (w.grownBy wr (some g)) := hgr
      have O1 : Hid (wr.ownsRow base 72 2 (.slice (some ⟨g, 0, none⟩) n c) n (rowF (mkF k i ++ F.drop i))) := ho
      clear hgr ho
      by_cases hlt : i < n
      · have hin : (i : Int) < n := by omega
        have hlen : i < (mkF k i ++ F.drop i).length := by rw [List.length_append, mkF_len, List.length_drop, HX.out]; omega
        have HST : Hid (((rowF (mkF k i ++ F.drop i)).set (i * 2) (.string (mtV (k + 2 * i)))).set (i * 2 + 1) (.string (mtV (k + 2 * i + 1))) = rowF (mkF k (i + 1) ++ F.drop (i + 1))) := by
          show _ = _
          rw [rowF_set _ i (mtV (k + 2 * i), mtV (k + 2 * i + 1)) hlen, mkF_step k i F (by rw [HX.out]; exact hlt)]
        obtain ⟨z0, z1⟩ := rowF_at (mkF k i ++ F.drop i) i hlen
        obtain ⟨k0, HK0⟩ : ∃ j, Hid (k + 2 * i = j) := ⟨_, rfl⟩
        obtain ⟨k1, HK1⟩ : ∃ j, Hid (k + 2 * i + 1 = j) := ⟨_, rfl⟩
        obtain ⟨k2, HK2⟩ : ∃ j, Hid (k + 2 * (i + 1) = j) := ⟨_, rfl⟩
        rw [HK1.out] at HST
        rw [HK0.out] at HST ⊢
        have hkb0 : 1 ≤ k0 ∧ k0 ≤ 200000000 := by have := HK0.out; omega
        have hkb1 : 1 ≤ k1 ∧ k1 ≤ 200000000 := by have := HK1.out; omega
        have hks1 : (k0 : Int) + 1 = (k1 : Int) := by have := HK0.out; have := HK1.out; omega
        have hks2 : (k1 : Int) + 1 = (k2 : Int) := by have := HK1.out; have := HK2.out; omega
        have MT0 : Hid (∀ W, Calls Try.prog 73 #[.int .i64 (k0 : Int)] W fun e w' => e = .returned (.string (mtV k0)) ∧ Below W.heap.size W w') := fun W => markText_any k0 W (by omega) (by omega)
        go_wp2_with fail
        refine (MT0.out _).mono ?_
        rintro e w2 ⟨rfl, hb2⟩
        have Ob0 : Hid (w2.ownsRow base 72 2 (.slice (some ⟨g, 0, none⟩) n c) n (rowF (mkF k i ++ F.drop i))) := own_blw O1.out hb2
        have Gb0 : Hid (w.grownBy w2 (some g)) := grown_below2 G1.out hb2
        obtain ⟨y0, yf0⟩ := own_cellV Ob0.out (k := i * 2) z0
        have Oa0 : Hid ((w2.setCell ⟨g, i * 2, none⟩ (.string (mtV k0))).ownsRow base 72 2 (.slice (some ⟨g, 0, none⟩) n c) n ((rowF (mkF k i ++ F.drop i)).set (i * 2) (.string (mtV k0)))) := own_putV (k := i * 2) (.string (mtV k0)) Ob0.out
        have Ga0 : Hid (w.grownBy (w2.setCell ⟨g, i * 2, none⟩ (.string (mtV k0))) (some g)) := grown_set2 Gb0.out
        clear hb2 Ob0 Gb0
        have MT1 : Hid (∀ W, Calls Try.prog 73 #[.int .i64 (k1 : Int)] W fun e w' => e = .returned (.string (mtV k1)) ∧ Below W.heap.size W w') := fun W => markText_any k1 W (by omega) (by omega)
        go_wp2_with fail
        refine (MT1.out _).mono ?_
        rintro e w3 ⟨rfl, hb3⟩
        have Ob1 : Hid (w3.ownsRow base 72 2 (.slice (some ⟨g, 0, none⟩) n c) n ((rowF (mkF k i ++ F.drop i)).set (i * 2) (.string (mtV k0)))) := own_blw Oa0.out hb3
        have Gb1 : Hid (w.grownBy w3 (some g)) := grown_below2 Ga0.out hb3
        obtain ⟨y1, yf1⟩ := own_cellV Ob1.out (k := i * 2 + 1) (by simp only [List.getElem?_set]; rw [if_neg (by omega)]; exact z1)
        have Oa1 : Hid ((w3.setCell ⟨g, i * 2 + 1, none⟩ (.string (mtV k1))).ownsRow base 72 2 (.slice (some ⟨g, 0, none⟩) n c) n (((rowF (mkF k i ++ F.drop i)).set (i * 2) (.string (mtV k0))).set (i * 2 + 1) (.string (mtV k1)))) := own_putV (k := i * 2 + 1) (.string (mtV k1)) Ob1.out
        have Ga1 : Hid (w.grownBy (w3.setCell ⟨g, i * 2 + 1, none⟩ (.string (mtV k1))) (some g)) := grown_set2 Gb1.out
        clear hb3 Ob1 Gb1
        have OE : Hid ((w3.setCell ⟨g, i * 2 + 1, none⟩ (.string (mtV k1))).ownsRow base 72 2 (.slice (some ⟨g, 0, none⟩) n c) n (rowF (mkF k (i + 1) ++ F.drop (i + 1)))) := by
          have := Oa1.out
          rw [HST.out] at this
          exact this
        go_wp2
        go_roundw
        case rel => exact ⟨i + 1, by omega, by rw [HK2.out], by first | rfl | go_num, Ga1.out, OE.out⟩
        case measure => simp [intOf]; omega
      · have hin : i = n := by omega
        subst hin
        have O2 : Hid (wr.ownsRow base 72 2 (.slice (some ⟨g, 0, none⟩) i c) i (rowF (mkF k i))) := by
          have := O1.out
          rw [List.drop_of_length_le (by rw [HX.out]; exact Nat.le_refl _), List.append_nil] at this
          exact this
        clear O1
        go_wp2
        go_ret
        exact ⟨rfl, G1.out, O2.out⟩

set_option maxHeartbeats 2000000 in
set_option maxRecDepth 20000 in
theorem heldFileS_any (v : Value) (n k base : Nat) (w : World) (ho : w.ownsRow base 72 2 v n (rowF (mkF k n))) (hn : n ≤ 1048576) (hk0 : 1 ≤ k) (hk : k ≤ 100000000) :
    Calls Try.prog 48 #[v, .int .i64 k] w fun e w' => e = .returned (.int .i64 ((k + 2 * n : Nat) : Int)) ∧ Below w.heap.size w w' := by
  obtain ⟨a, c, rfl, hA⟩ := own_files ho (mkF_len k n)
  have HA : Hid (FilesAt w a (mkF k n)) := hA
  clear ho hA
  go_enter Try.func48, Try.ntmps48
  go_wp2_with fail
  go_loopw [1, 5] (fun tk ti wr => ∃ i : Nat, i ≤ n ∧ tk = .int .i64 ((k + 2 * i : Nat) : Int) ∧ ti = .int .i64 i ∧ Below w.heap.size w wr) (fun _ ti _ => n - (intOf ti).toNat)
  case atStart => exact ⟨0, Nat.zero_le _, rfl, rfl, Below.refl _ _⟩
  case round =>
    obtain ⟨i, hi, rfl, rfl, hb⟩ := hrel
    have B1 : Hid (Below w.heap.size w wr) := hb
    clear hb
    by_cases hlt : i < n
    · have hin : (i : Int) < n := by omega
      obtain ⟨b, off, e, c0, c1⟩ := (HA.out.below B1.out) i (by rw [mkF_len]; exact hlt)
      subst e
      rw [mkF_getD k n i hlt] at c0 c1
      simp only at c0 c1
      obtain ⟨k0, HK0⟩ : ∃ j, Hid (k + 2 * i = j) := ⟨_, rfl⟩
      obtain ⟨k1, HK1⟩ : ∃ j, Hid (k + 2 * i + 1 = j) := ⟨_, rfl⟩
      obtain ⟨k2, HK2⟩ : ∃ j, Hid (k + 2 * (i + 1) = j) := ⟨_, rfl⟩
      rw [HK1.out] at c1
      rw [HK0.out] at c0 ⊢
      have hkb0 : 1 ≤ k0 ∧ k0 ≤ 200000000 := by have := HK0.out; omega
      have hkb1 : 1 ≤ k1 ∧ k1 ≤ 200000000 := by have := HK1.out; omega
      have hks1 : (k0 : Int) + 1 = (k1 : Int) := by have := HK0.out; have := HK1.out; omega
      have hks2 : (k1 : Int) + 1 = (k2 : Int) := by have := HK1.out; have := HK2.out; omega
      have hkn : ((k0 : Int) != (k0 : Int)) = false := by simp
      have MT0 : Hid (∀ W, Calls Try.prog 73 #[.int .i64 ((k0 : Int))] W fun e w' => e = .returned (.string (mtV k0)) ∧ Below W.heap.size W w') := fun W => markText_any k0 W (by omega) (by omega)
      obtain ⟨x0, HX0⟩ : ∃ x, Hid (mtV k0 = x) := ⟨_, rfl⟩
      rw [HX0.out] at c0 MT0
      have hxx0 : (x0.toList == x0.toList) = true := beq_self_eq_true _
      have MT1 : Hid (∀ W, Calls Try.prog 73 #[.int .i64 ((k1 : Int))] W fun e w' => e = .returned (.string (mtV k1)) ∧ Below W.heap.size W w') := fun W => markText_any k1 W (by omega) (by omega)
      obtain ⟨x1, HX1⟩ : ∃ x, Hid (mtV k1 = x) := ⟨_, rfl⟩
      rw [HX1.out] at c1 MT1
      have hxx1 : (x1.toList == x1.toList) = true := beq_self_eq_true _
      go_wp2_with fail
      have q0 := fun s : Kin wr => s.cell c0
      have hkin0 := Kin.there wr
      refine wp_region_kin (by kernel_rfl) (by kernel_rfl) ?_
      repeat (go_big_quiet_step ((go_at_call 73; with_reducible exact Kin.call (MT0.out _))))
      refine wpQuiet_nil ?_
      rintro _ ⟨s0, rfl⟩
      have B10 : Hid (Below w.heap.size w s0.w) := B1.out.trans (s0.below.mono B1.out.size)
      have c1_v0 := s0.cell c1
      clear q0 hkin0
      generalize s0.w = v0 at *
      go_wp2_with fail
      have q1 := fun s : Kin v0 => s.cell c1_v0
      have hkin1 := Kin.there v0
      refine wp_region_kin (by kernel_rfl) (by kernel_rfl) ?_
      repeat (go_big_quiet_step ((go_at_call 73; with_reducible exact Kin.call (MT1.out _))))
      refine wpQuiet_nil ?_
      rintro _ ⟨s1, rfl⟩
      have B11 : Hid (Below w.heap.size w s1.w) := B10.out.trans (s1.below.mono B10.out.size)
      clear q1 hkin1
      generalize s1.w = v1 at *
      go_wp2
      go_roundw
      case rel => exact ⟨i + 1, by omega, by rw [HK2.out], by first | rfl | go_num, B11.out⟩
      case measure => simp [intOf]; omega
    · have hin : i = n := by omega
      subst hin
      go_wp2
      go_ret
      exact ⟨rfl, B1.out⟩

end Go.Proofs.Ytighhcdlgjaacaa

namespace Go.Proofs.Ytighhcdlgjaacaa
open Go.RowKit

/-- Marked ops. -/
def mkO (k n : Nat) : List OP := (List.range n).map fun i => ⟨((k + 4 * i : Nat) : Int), mtV (k + 4 * i + 1), mtV (k + 4 * i + 2), mtV (k + 4 * i + 3)⟩
theorem mkO_len (k n : Nat) : (mkO k n).length = n := by simp [mkO]
theorem mkO_succ (k n : Nat) : mkO k (n + 1) = mkO k n ++ [⟨((k + 4 * n : Nat) : Int), mtV (k + 4 * n + 1), mtV (k + 4 * n + 2), mtV (k + 4 * n + 3)⟩] := by simp [mkO, List.range_succ]
theorem mkO_getD (k n i : Nat) (h : i < n) : (mkO k n).getD i op0 = ⟨((k + 4 * i : Nat) : Int), mtV (k + 4 * i + 1), mtV (k + 4 * i + 2), mtV (k + 4 * i + 3)⟩ := by
  rw [List.getD_eq_getElem?_getD]
  unfold mkO
  rw [List.getElem?_map, List.getElem?_range h]
  rfl
theorem mkO_step (k i : Nat) (F : List OP) (h : i < F.length) : (mkO k i ++ F.drop i).set i ⟨((k + 4 * i : Nat) : Int), mtV (k + 4 * i + 1), mtV (k + 4 * i + 2), mtV (k + 4 * i + 3)⟩ = mkO k (i + 1) ++ F.drop (i + 1) := by
  rw [List.set_append_right _ _ (by rw [mkO_len]; exact Nat.le_refl _), mkO_len, Nat.sub_self, mkO_succ, List.append_assoc, List.drop_eq_getElem_cons h]
  rfl

set_option maxHeartbeats 2000000 in
set_option maxRecDepth 20000 in
theorem markDOpS_any (v : Value) (n k base : Nat) (F : List OP) (w : World) (ho : w.ownsRow base 40 4 v n (rowO F)) (hx : F.length = n) (hn : n ≤ 1048576) (hk0 : 1 ≤ k) (hk : k ≤ 100000000) :
    Calls Try.prog 47 #[v, .int .i64 k] w fun e w' => e = .returned (.int .i64 ((k + 4 * n : Nat) : Int)) ∧ w.grownBy w' v.ownBlock ∧ w'.ownsRow base 40 4 v n (rowO (mkO k n)) := by
  rcases own_kinds ho with ⟨rfl, rfl⟩ | ⟨g, c, rfl, hg1, hg2⟩
  · clear ho hx
    go_enter Try.func47, Try.ntmps47
    go_wp2_with fail
    go_loopw [1, 5] (fun tk ti wr => tk = .int .i64 k ∧ ti = .int .i64 0 ∧ wr = w) (fun _ ti _ => (intOf ti).toNat)
    case atStart => exact ⟨rfl, rfl, rfl⟩
    case round =>
      obtain ⟨rfl, rfl, rfl⟩ := hrel
      go_wp2
      go_ret
      exact ⟨by simp, ⟨rfl, rfl, rfl, Nat.le_refl _, fun _ _ _ => rfl⟩, ⟨rfl, .inl ⟨rfl, rfl⟩⟩⟩
  · have O0 : Hid (w.ownsRow base 40 4 (.slice (some ⟨g, 0, none⟩) n c) n (rowO F)) := ho
    have HX : Hid (F.length = n) := hx
    clear ho hx
    go_enter Try.func47, Try.ntmps47
    go_wp2_with fail
    go_loopw [1, 5] (fun tk ti wr => ∃ i : Nat, i ≤ n ∧ tk = .int .i64 ((k + 4 * i : Nat) : Int) ∧ ti = .int .i64 i ∧ w.grownBy wr (some g) ∧ wr.ownsRow base 40 4 (.slice (some ⟨g, 0, none⟩) n c) n (rowO (mkO k i ++ F.drop i))) (fun _ ti _ => n - (intOf ti).toNat)
    case atStart => exact ⟨0, Nat.zero_le _, rfl, rfl, ⟨rfl, rfl, rfl, Nat.le_refl _, fun _ _ _ => rfl⟩, O0.out⟩
    case round =>
      obtain ⟨i, hi, rfl, rfl, hgr, ho⟩ := hrel
      have G1 : Hid (w.grownBy wr (some g)) := hgr
      have O1 : Hid (wr.ownsRow base 40 4 (.slice (some ⟨g, 0, none⟩) n c) n (rowO (mkO k i ++ F.drop i))) := ho
      clear hgr ho
      by_cases hlt : i < n
      · have hin : (i : Int) < n := by omega
        have hlen : i < (mkO k i ++ F.drop i).length := by rw [List.length_append, mkO_len, List.length_drop, HX.out]; omega
        have HST : Hid (((((rowO (mkO k i ++ F.drop i)).set (i * 4) (.int .i64 ((k + 4 * i : Nat) : Int))).set (i * 4 + 1) (.string (mtV (k + 4 * i + 1)))).set (i * 4 + 2) (.string (mtV (k + 4 * i + 2)))).set (i * 4 + 3) (.string (mtV (k + 4 * i + 3))) = rowO (mkO k (i + 1) ++ F.drop (i + 1))) := by
          show _ = _
          rw [rowO_set _ i ⟨((k + 4 * i : Nat) : Int), mtV (k + 4 * i + 1), mtV (k + 4 * i + 2), mtV (k + 4 * i + 3)⟩ hlen, mkO_step k i F (by rw [HX.out]; exact hlt)]
        obtain ⟨z0, z1, z2, z3⟩ := rowO_at (mkO k i ++ F.drop i) i hlen
        obtain ⟨k0, HK0⟩ : ∃ j, Hid (k + 4 * i = j) := ⟨_, rfl⟩
        obtain ⟨k1, HK1⟩ : ∃ j, Hid (k + 4 * i + 1 = j) := ⟨_, rfl⟩
        obtain ⟨k2, HK2⟩ : ∃ j, Hid (k + 4 * i + 2 = j) := ⟨_, rfl⟩
        obtain ⟨k3, HK3⟩ : ∃ j, Hid (k + 4 * i + 3 = j) := ⟨_, rfl⟩
        obtain ⟨k4, HK4⟩ : ∃ j, Hid (k + 4 * (i + 1) = j) := ⟨_, rfl⟩
        rw [HK3.out] at HST
        rw [HK2.out] at HST
        rw [HK1.out] at HST
        rw [HK0.out] at HST ⊢
        have hkb0 : 1 ≤ k0 ∧ k0 ≤ 200000000 := by have := HK0.out; omega
        have hkb1 : 1 ≤ k1 ∧ k1 ≤ 200000000 := by have := HK1.out; omega
        have hkb2 : 1 ≤ k2 ∧ k2 ≤ 200000000 := by have := HK2.out; omega
        have hkb3 : 1 ≤ k3 ∧ k3 ≤ 200000000 := by have := HK3.out; omega
        have hks1 : (k0 : Int) + 1 = (k1 : Int) := by have := HK0.out; have := HK1.out; omega
        have hks2 : (k1 : Int) + 1 = (k2 : Int) := by have := HK1.out; have := HK2.out; omega
        have hks3 : (k2 : Int) + 1 = (k3 : Int) := by have := HK2.out; have := HK3.out; omega
        have hks4 : (k3 : Int) + 1 = (k4 : Int) := by have := HK3.out; have := HK4.out; omega
        obtain ⟨y0, yf0⟩ := own_cellV O1.out z0
        have Oa0 : Hid ((wr.setCell ⟨g, i * 4, none⟩ (.int .i64 (k0 : Int))).ownsRow base 40 4 (.slice (some ⟨g, 0, none⟩) n c) n ((rowO (mkO k i ++ F.drop i)).set (i * 4) (.int .i64 (k0 : Int)))) := own_putV (k := i * 4) (.int .i64 (k0 : Int)) O1.out
        have Ga0 : Hid (w.grownBy (wr.setCell ⟨g, i * 4, none⟩ (.int .i64 (k0 : Int))) (some g)) := grown_set2 G1.out
        have MT1 : Hid (∀ W, Calls Try.prog 73 #[.int .i64 (k1 : Int)] W fun e w' => e = .returned (.string (mtV k1)) ∧ Below W.heap.size W w') := fun W => markText_any k1 W (by omega) (by omega)
        go_wp2_with fail
        refine (MT1.out _).mono ?_
        rintro e w3 ⟨rfl, hb3⟩
        have Ob1 : Hid (w3.ownsRow base 40 4 (.slice (some ⟨g, 0, none⟩) n c) n ((rowO (mkO k i ++ F.drop i)).set (i * 4) (.int .i64 (k0 : Int)))) := own_blw Oa0.out hb3
        have Gb1 : Hid (w.grownBy w3 (some g)) := grown_below2 Ga0.out hb3
        obtain ⟨y1, yf1⟩ := own_cellV Ob1.out (k := i * 4 + 1) (by simp only [List.getElem?_set]; rw [if_neg (by omega)]; exact z1)
        have Oa1 : Hid ((w3.setCell ⟨g, i * 4 + 1, none⟩ (.string (mtV k1))).ownsRow base 40 4 (.slice (some ⟨g, 0, none⟩) n c) n (((rowO (mkO k i ++ F.drop i)).set (i * 4) (.int .i64 (k0 : Int))).set (i * 4 + 1) (.string (mtV k1)))) := own_putV (k := i * 4 + 1) (.string (mtV k1)) Ob1.out
        have Ga1 : Hid (w.grownBy (w3.setCell ⟨g, i * 4 + 1, none⟩ (.string (mtV k1))) (some g)) := grown_set2 Gb1.out
        clear hb3 Ob1 Gb1
        have MT2 : Hid (∀ W, Calls Try.prog 73 #[.int .i64 (k2 : Int)] W fun e w' => e = .returned (.string (mtV k2)) ∧ Below W.heap.size W w') := fun W => markText_any k2 W (by omega) (by omega)
        go_wp2_with fail
        refine (MT2.out _).mono ?_
        rintro e w4 ⟨rfl, hb4⟩
        have Ob2 : Hid (w4.ownsRow base 40 4 (.slice (some ⟨g, 0, none⟩) n c) n (((rowO (mkO k i ++ F.drop i)).set (i * 4) (.int .i64 (k0 : Int))).set (i * 4 + 1) (.string (mtV k1)))) := own_blw Oa1.out hb4
        have Gb2 : Hid (w.grownBy w4 (some g)) := grown_below2 Ga1.out hb4
        obtain ⟨y2, yf2⟩ := own_cellV Ob2.out (k := i * 4 + 2) (by simp only [List.getElem?_set]; rw [if_neg (by omega), if_neg (by omega)]; exact z2)
        have Oa2 : Hid ((w4.setCell ⟨g, i * 4 + 2, none⟩ (.string (mtV k2))).ownsRow base 40 4 (.slice (some ⟨g, 0, none⟩) n c) n ((((rowO (mkO k i ++ F.drop i)).set (i * 4) (.int .i64 (k0 : Int))).set (i * 4 + 1) (.string (mtV k1))).set (i * 4 + 2) (.string (mtV k2)))) := own_putV (k := i * 4 + 2) (.string (mtV k2)) Ob2.out
        have Ga2 : Hid (w.grownBy (w4.setCell ⟨g, i * 4 + 2, none⟩ (.string (mtV k2))) (some g)) := grown_set2 Gb2.out
        clear hb4 Ob2 Gb2
        have MT3 : Hid (∀ W, Calls Try.prog 73 #[.int .i64 (k3 : Int)] W fun e w' => e = .returned (.string (mtV k3)) ∧ Below W.heap.size W w') := fun W => markText_any k3 W (by omega) (by omega)
        go_wp2_with fail
        refine (MT3.out _).mono ?_
        rintro e w5 ⟨rfl, hb5⟩
        have Ob3 : Hid (w5.ownsRow base 40 4 (.slice (some ⟨g, 0, none⟩) n c) n ((((rowO (mkO k i ++ F.drop i)).set (i * 4) (.int .i64 (k0 : Int))).set (i * 4 + 1) (.string (mtV k1))).set (i * 4 + 2) (.string (mtV k2)))) := own_blw Oa2.out hb5
        have Gb3 : Hid (w.grownBy w5 (some g)) := grown_below2 Ga2.out hb5
        obtain ⟨y3, yf3⟩ := own_cellV Ob3.out (k := i * 4 + 3) (by simp only [List.getElem?_set]; rw [if_neg (by omega), if_neg (by omega), if_neg (by omega)]; exact z3)
        have Oa3 : Hid ((w5.setCell ⟨g, i * 4 + 3, none⟩ (.string (mtV k3))).ownsRow base 40 4 (.slice (some ⟨g, 0, none⟩) n c) n (((((rowO (mkO k i ++ F.drop i)).set (i * 4) (.int .i64 (k0 : Int))).set (i * 4 + 1) (.string (mtV k1))).set (i * 4 + 2) (.string (mtV k2))).set (i * 4 + 3) (.string (mtV k3)))) := own_putV (k := i * 4 + 3) (.string (mtV k3)) Ob3.out
        have Ga3 : Hid (w.grownBy (w5.setCell ⟨g, i * 4 + 3, none⟩ (.string (mtV k3))) (some g)) := grown_set2 Gb3.out
        clear hb5 Ob3 Gb3
        have OE : Hid ((w5.setCell ⟨g, i * 4 + 3, none⟩ (.string (mtV k3))).ownsRow base 40 4 (.slice (some ⟨g, 0, none⟩) n c) n (rowO (mkO k (i + 1) ++ F.drop (i + 1)))) := by
          have := Oa3.out
          rw [HST.out] at this
          exact this
        go_wp2
        go_roundw
        case rel => exact ⟨i + 1, by omega, by rw [HK4.out], by first | rfl | go_num, Ga3.out, OE.out⟩
        case measure => simp [intOf]; omega
      · have hin : i = n := by omega
        subst hin
        have O2 : Hid (wr.ownsRow base 40 4 (.slice (some ⟨g, 0, none⟩) i c) i (rowO (mkO k i))) := by
          have := O1.out
          rw [List.drop_of_length_le (by rw [HX.out]; exact Nat.le_refl _), List.append_nil] at this
          exact this
        clear O1
        go_wp2
        go_ret
        exact ⟨rfl, G1.out, O2.out⟩

set_option maxHeartbeats 2000000 in
set_option maxRecDepth 20000 in
theorem heldDOpS_any (v : Value) (n k base : Nat) (w : World) (ho : w.ownsRow base 40 4 v n (rowO (mkO k n))) (hn : n ≤ 1048576) (hk0 : 1 ≤ k) (hk : k ≤ 100000000) :
    Calls Try.prog 49 #[v, .int .i64 k] w fun e w' => e = .returned (.int .i64 ((k + 4 * n : Nat) : Int)) ∧ Below w.heap.size w w' := by
  obtain ⟨a, c, rfl, hA⟩ := own_ops ho (mkO_len k n)
  have HA : Hid (OpsAt w a (mkO k n)) := hA
  clear ho hA
  go_enter Try.func49, Try.ntmps49
  go_wp2_with fail
  go_loopw [1, 5] (fun tk ti wr => ∃ i : Nat, i ≤ n ∧ tk = .int .i64 ((k + 4 * i : Nat) : Int) ∧ ti = .int .i64 i ∧ Below w.heap.size w wr) (fun _ ti _ => n - (intOf ti).toNat)
  case atStart => exact ⟨0, Nat.zero_le _, rfl, rfl, Below.refl _ _⟩
  case round =>
    obtain ⟨i, hi, rfl, rfl, hb⟩ := hrel
    have B1 : Hid (Below w.heap.size w wr) := hb
    clear hb
    by_cases hlt : i < n
    · have hin : (i : Int) < n := by omega
      obtain ⟨b, off, e, c0, c1, c2, c3⟩ := (HA.out.below B1.out) i (by rw [mkO_len]; exact hlt)
      subst e
      rw [mkO_getD k n i hlt] at c0 c1 c2 c3
      simp only at c0 c1 c2 c3
      obtain ⟨k0, HK0⟩ : ∃ j, Hid (k + 4 * i = j) := ⟨_, rfl⟩
      obtain ⟨k1, HK1⟩ : ∃ j, Hid (k + 4 * i + 1 = j) := ⟨_, rfl⟩
      obtain ⟨k2, HK2⟩ : ∃ j, Hid (k + 4 * i + 2 = j) := ⟨_, rfl⟩
      obtain ⟨k3, HK3⟩ : ∃ j, Hid (k + 4 * i + 3 = j) := ⟨_, rfl⟩
      obtain ⟨k4, HK4⟩ : ∃ j, Hid (k + 4 * (i + 1) = j) := ⟨_, rfl⟩
      rw [HK3.out] at c3
      rw [HK2.out] at c2
      rw [HK1.out] at c1
      rw [HK0.out] at c0 ⊢
      have hkb0 : 1 ≤ k0 ∧ k0 ≤ 200000000 := by have := HK0.out; omega
      have hkb1 : 1 ≤ k1 ∧ k1 ≤ 200000000 := by have := HK1.out; omega
      have hkb2 : 1 ≤ k2 ∧ k2 ≤ 200000000 := by have := HK2.out; omega
      have hkb3 : 1 ≤ k3 ∧ k3 ≤ 200000000 := by have := HK3.out; omega
      have hks1 : (k0 : Int) + 1 = (k1 : Int) := by have := HK0.out; have := HK1.out; omega
      have hks2 : (k1 : Int) + 1 = (k2 : Int) := by have := HK1.out; have := HK2.out; omega
      have hks3 : (k2 : Int) + 1 = (k3 : Int) := by have := HK2.out; have := HK3.out; omega
      have hks4 : (k3 : Int) + 1 = (k4 : Int) := by have := HK3.out; have := HK4.out; omega
      have hkn : ((k0 : Int) != (k0 : Int)) = false := by simp
      have MT1 : Hid (∀ W, Calls Try.prog 73 #[.int .i64 ((k1 : Int))] W fun e w' => e = .returned (.string (mtV k1)) ∧ Below W.heap.size W w') := fun W => markText_any k1 W (by omega) (by omega)
      obtain ⟨x1, HX1⟩ : ∃ x, Hid (mtV k1 = x) := ⟨_, rfl⟩
      rw [HX1.out] at c1 MT1
      have hxx1 : (x1.toList == x1.toList) = true := beq_self_eq_true _
      have MT2 : Hid (∀ W, Calls Try.prog 73 #[.int .i64 ((k2 : Int))] W fun e w' => e = .returned (.string (mtV k2)) ∧ Below W.heap.size W w') := fun W => markText_any k2 W (by omega) (by omega)
      obtain ⟨x2, HX2⟩ : ∃ x, Hid (mtV k2 = x) := ⟨_, rfl⟩
      rw [HX2.out] at c2 MT2
      have hxx2 : (x2.toList == x2.toList) = true := beq_self_eq_true _
      have MT3 : Hid (∀ W, Calls Try.prog 73 #[.int .i64 ((k3 : Int))] W fun e w' => e = .returned (.string (mtV k3)) ∧ Below W.heap.size W w') := fun W => markText_any k3 W (by omega) (by omega)
      obtain ⟨x3, HX3⟩ : ∃ x, Hid (mtV k3 = x) := ⟨_, rfl⟩
      rw [HX3.out] at c3 MT3
      have hxx3 : (x3.toList == x3.toList) = true := beq_self_eq_true _
      go_wp2_with fail
      have q1 := fun s : Kin wr => s.cell c1
      have hkin1 := Kin.there wr
      refine wp_region_kin (by kernel_rfl) (by kernel_rfl) ?_
      repeat (go_big_quiet_step ((go_at_call 73; with_reducible exact Kin.call (MT1.out _))))
      refine wpQuiet_nil ?_
      rintro _ ⟨s1, rfl⟩
      have B11 : Hid (Below w.heap.size w s1.w) := B1.out.trans (s1.below.mono B1.out.size)
      have c2_v1 := s1.cell c2
      have c3_v1 := s1.cell c3
      clear q1 hkin1
      generalize s1.w = v1 at *
      go_wp2_with fail
      have q2 := fun s : Kin v1 => s.cell c2_v1
      have hkin2 := Kin.there v1
      refine wp_region_kin (by kernel_rfl) (by kernel_rfl) ?_
      repeat (go_big_quiet_step ((go_at_call 73; with_reducible exact Kin.call (MT2.out _))))
      refine wpQuiet_nil ?_
      rintro _ ⟨s2, rfl⟩
      have B12 : Hid (Below w.heap.size w s2.w) := B11.out.trans (s2.below.mono B11.out.size)
      have c3_v2 := s2.cell c3_v1
      clear q2 hkin2
      generalize s2.w = v2 at *
      go_wp2_with fail
      have q3 := fun s : Kin v2 => s.cell c3_v2
      have hkin3 := Kin.there v2
      refine wp_region_kin (by kernel_rfl) (by kernel_rfl) ?_
      repeat (go_big_quiet_step ((go_at_call 73; with_reducible exact Kin.call (MT3.out _))))
      refine wpQuiet_nil ?_
      rintro _ ⟨s3, rfl⟩
      have B13 : Hid (Below w.heap.size w s3.w) := B12.out.trans (s3.below.mono B12.out.size)
      clear q3 hkin3
      generalize s3.w = v3 at *
      go_wp2
      go_roundw
      case rel => exact ⟨i + 1, by omega, by rw [HK4.out], by first | rfl | go_num, B13.out⟩
      case measure => simp [intOf]; omega
    · have hin : i = n := by omega
      subst hin
      go_wp2
      go_ret
      exact ⟨rfl, B1.out⟩

end Go.Proofs.Ytighhcdlgjaacaa
