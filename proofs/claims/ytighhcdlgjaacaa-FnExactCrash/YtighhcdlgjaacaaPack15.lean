import Derived.Test.YtighhcdlgjaacaaPack0
import Derived.Test.YtighhcdlgjaacaaPack1
import Derived.Test.YtighhcdlgjaacaaPack2
import Derived.WalkKit
import Derived.Deep.RegionLaw
namespace Go.Proofs.Ytighhcdlgjaacaa
open Go.RowKit

set_option maxHeartbeats 1000000 in
theorem eqFile_same (x y : ByteArray) (w : World) : Calls Try.prog 68 #[.agg #[.string x, .string y], .agg #[.string x, .string y]] w fun e w' => e = .returned (.bool true) ∧ Below w.heap.size w w' := by
  have hx : (x.toList == x.toList) = true := beq_self_eq_true _
  have hy : (y.toList == y.toList) = true := beq_self_eq_true _
  go_enter Try.func68, Try.ntmps68
  go_wp2
  go_ret
  exact ⟨rfl, ((Below.refl _ _).alloc (Nat.le_refl _) _).alloc (by simp) _⟩
set_option maxHeartbeats 1000000 in
theorem eqDOp_same (k : Int) (x y z : ByteArray) (w : World) : Calls Try.prog 69 #[.agg #[.int .i64 k, .string x, .string y, .string z], .agg #[.int .i64 k, .string x, .string y, .string z]] w fun e w' => e = .returned (.bool true) ∧ Below w.heap.size w w' := by
  have hk : (k != k) = false := by simp
  have hx : (x.toList == x.toList) = true := beq_self_eq_true _
  have hy : (y.toList == y.toList) = true := beq_self_eq_true _
  have hz : (z.toList == z.toList) = true := beq_self_eq_true _
  go_enter Try.func69, Try.ntmps69
  go_wp2
  go_ret
  exact ⟨rfl, ((Below.refl _ _).alloc (Nat.le_refl _) _).alloc (by simp) _⟩

set_option maxHeartbeats 1000000 in
theorem eqFileS_same (a1 a2 : Option Addr) (c1 c2 n : Nat) (F : List FI) (w : World) (h1 : FilesAt w a1 F) (h2 : FilesAt w a2 F) (hn : F.length = n) (hl : n ≤ 1048576) :
    Calls Try.prog 41 #[.slice a1 n c1, .slice a2 n c2] w fun e w' => e = .returned (.bool true) ∧ Below w.heap.size w w' := by
  have H1 : Hid (FilesAt w a1 F) := h1
  have H2 : Hid (FilesAt w a2 F) := h2
  have HN : Hid (F.length = n) := hn
  clear h1 h2 hn
  have hnn : ((n : Int) != (n : Int)) = false := by simp
  go_enter Try.func41, Try.ntmps41
  go_wp2_with fail
  go_loopw [5] (fun ti wr => ∃ i : Nat, i ≤ n ∧ ti = .int .i64 i ∧ Below w.heap.size w wr) (fun ti _ => n - (intOf ti).toNat)
  case atStart => exact ⟨0, Nat.zero_le _, rfl, Below.refl _ _⟩
  case round =>
    obtain ⟨i, hi, rfl, hb⟩ := hrel
    have B1 : Hid (Below w.heap.size w wr) := hb
    clear hb
    by_cases hlt : i < n
    · obtain ⟨b1, o1, e1, p1, p2⟩ := (H1.out.below B1.out) i (by rw [HN.out]; exact hlt)
      obtain ⟨b2, o2, e2, q1, q2⟩ := (H2.out.below B1.out) i (by rw [HN.out]; exact hlt)
      subst e1 e2
      generalize F.getD i fi0 = f at *
      obtain ⟨x, y⟩ := f
      simp only at p1 p2 q1 q2
      have hin : (i : Int) < n := by omega
      have z1 := fun s : Kin wr => s.cell p1
      have z2 := fun s : Kin wr => s.cell p2
      have z3 := fun s : Kin wr => s.cell q1
      have z4 := fun s : Kin wr => s.cell q2
      have hkin := Kin.there wr
      go_wp2_with fail
      refine wp_region_kin (by kernel_rfl) (by kernel_rfl) ?_
      repeat (go_big_quiet_step ((go_at_call 68; with_reducible exact Kin.call (eqFile_same _ _ _))))
      refine wpQuiet_nil ?_
      rintro _ ⟨s1, rfl⟩
      clear z1 z2 z3 z4 hkin
      go_wp2
      go_roundw
      case rel => exact ⟨i + 1, by omega, by first | rfl | go_num, B1.out.trans (s1.below.mono B1.out.size)⟩
      case measure => simp [intOf]; omega
    · have hin : ¬ ((i : Int) < n) := by omega
      go_wp2
      go_ret
      exact ⟨rfl, B1.out⟩
set_option maxHeartbeats 1000000 in
theorem eqDOpS_same (a1 a2 : Option Addr) (c1 c2 n : Nat) (F : List OP) (w : World) (h1 : OpsAt w a1 F) (h2 : OpsAt w a2 F) (hn : F.length = n) (hl : n ≤ 1048576) :
    Calls Try.prog 42 #[.slice a1 n c1, .slice a2 n c2] w fun e w' => e = .returned (.bool true) ∧ Below w.heap.size w w' := by
  have H1 : Hid (OpsAt w a1 F) := h1
  have H2 : Hid (OpsAt w a2 F) := h2
  have HN : Hid (F.length = n) := hn
  clear h1 h2 hn
  have hnn : ((n : Int) != (n : Int)) = false := by simp
  go_enter Try.func42, Try.ntmps42
  go_wp2_with fail
  go_loopw [5] (fun ti wr => ∃ i : Nat, i ≤ n ∧ ti = .int .i64 i ∧ Below w.heap.size w wr) (fun ti _ => n - (intOf ti).toNat)
  case atStart => exact ⟨0, Nat.zero_le _, rfl, Below.refl _ _⟩
  case round =>
    obtain ⟨i, hi, rfl, hb⟩ := hrel
    have B1 : Hid (Below w.heap.size w wr) := hb
    clear hb
    by_cases hlt : i < n
    · obtain ⟨b1, o1, e1, p0, p1, p2, p3⟩ := (H1.out.below B1.out) i (by rw [HN.out]; exact hlt)
      obtain ⟨b2, o2, e2, q0, q1, q2, q3⟩ := (H2.out.below B1.out) i (by rw [HN.out]; exact hlt)
      subst e1 e2
      generalize F.getD i op0 = f at *
      obtain ⟨k, x, y, z⟩ := f
      simp only at p0 p1 p2 p3 q0 q1 q2 q3
      have hin : (i : Int) < n := by omega
      have z0 := fun s : Kin wr => s.cell p0
      have z1 := fun s : Kin wr => s.cell p1
      have z2 := fun s : Kin wr => s.cell p2
      have z3 := fun s : Kin wr => s.cell p3
      have y0 := fun s : Kin wr => s.cell q0
      have y1 := fun s : Kin wr => s.cell q1
      have y2 := fun s : Kin wr => s.cell q2
      have y3 := fun s : Kin wr => s.cell q3
      have hkin := Kin.there wr
      go_wp2_with fail
      refine wp_region_kin (by kernel_rfl) (by kernel_rfl) ?_
      repeat (go_big_quiet_step ((go_at_call 69; with_reducible exact Kin.call (eqDOp_same _ _ _ _ _))))
      refine wpQuiet_nil ?_
      rintro _ ⟨s1, rfl⟩
      clear z0 z1 z2 z3 y0 y1 y2 y3 hkin
      go_wp2
      go_roundw
      case rel => exact ⟨i + 1, by omega, by first | rfl | go_num, B1.out.trans (s1.below.mono B1.out.size)⟩
      case measure => simp [intOf]; omega
    · have hin : ¬ ((i : Int) < n) := by omega
      go_wp2
      go_ret
      exact ⟨rfl, B1.out⟩

/-- A disk lies there. -/
structure DAt (w : World) (la sa oa : Option Addr) (L S : List FI) (O : List OP) : Prop where
  l : FilesAt w la L
  s : FilesAt w sa S
  o : OpsAt w oa O
theorem DAt.below {w w' : World} {la sa oa : Option Addr} {L S : List FI} {O : List OP} (h : DAt w la sa oa L S O) (hb : Below w.heap.size w w') : DAt w' la sa oa L S O := ⟨h.l.below hb, h.s.below hb, h.o.below hb⟩

set_option maxHeartbeats 2000000 in
theorem eqDisk_same (la sa oa la2 sa2 oa2 : Option Addr) (lc sc oc lc2 sc2 oc2 ln sn on : Nat) (L S : List FI) (O : List OP) (w : World) (h1 : DAt w la sa oa L S O) (h2 : DAt w la2 sa2 oa2 L S O) (hLn : L.length = ln) (hSn : S.length = sn) (hOn : O.length = on) (bl : ln ≤ 1048576) (bs : sn ≤ 1048576) (bo : on ≤ 1048576) :
    Calls Try.prog 13 #[.agg #[.slice la ln lc, .slice sa sn sc, .slice oa on oc], .agg #[.slice la2 ln lc2, .slice sa2 sn sc2, .slice oa2 on oc2]] w fun e w' => e = .returned (.bool true) ∧ Below w.heap.size w w' := by
  have B0 : Hid (Below w.heap.size w ((w.alloc (.cells #[.slice la ln lc, .slice sa sn sc, .slice oa on oc] 31)).alloc (.cells #[.slice la2 ln lc2, .slice sa2 sn sc2, .slice oa2 on oc2] 31))) := ((Below.refl _ _).alloc (Nat.le_refl _) _).alloc (by simp) _
  have RA : Hid (((w.alloc (.cells #[.slice la ln lc, .slice sa sn sc, .slice oa on oc] 31)).alloc (.cells #[.slice la2 ln lc2, .slice sa2 sn sc2, .slice oa2 on oc2] 31)).heap[w.heap.size]? = some (.cells #[.slice la ln lc, .slice sa sn sc, .slice oa on oc] 31 (0, 0))) := heap_alloc2_old _ _ _
  have RB : Hid (((w.alloc (.cells #[.slice la ln lc, .slice sa sn sc, .slice oa on oc] 31)).alloc (.cells #[.slice la2 ln lc2, .slice sa2 sn sc2, .slice oa2 on oc2] 31)).heap[w.heap.size + 1]? = some (.cells #[.slice la2 ln lc2, .slice sa2 sn sc2, .slice oa2 on oc2] 31 (0, 0))) := heap_alloc2_new _ _ _
  obtain ⟨a0, a1, a2⟩ := cells3 RA.out
  obtain ⟨b0, b1, b2⟩ := cells3 RB.out
  have H1 : Hid (DAt w la sa oa L S O) := h1
  have H2 : Hid (DAt w la2 sa2 oa2 L S O) := h2
  have EL : Hid (∀ W, Below w.heap.size w W → Calls Try.prog 41 #[.slice la ln lc, .slice la2 ln lc2] W fun e w' => e = .returned (.bool true) ∧ Below W.heap.size W w') := fun W hW => eqFileS_same la la2 lc lc2 ln L W (h1.l.below hW) (h2.l.below hW) hLn bl
  have ES : Hid (∀ W, Below w.heap.size w W → Calls Try.prog 41 #[.slice sa sn sc, .slice sa2 sn sc2] W fun e w' => e = .returned (.bool true) ∧ Below W.heap.size W w') := fun W hW => eqFileS_same sa sa2 sc sc2 sn S W (h1.s.below hW) (h2.s.below hW) hSn bs
  have EO : Hid (∀ W, Below w.heap.size w W → Calls Try.prog 42 #[.slice oa on oc, .slice oa2 on oc2] W fun e w' => e = .returned (.bool true) ∧ Below W.heap.size W w') := fun W hW => eqDOpS_same oa oa2 oc oc2 on O W (h1.o.below hW) (h2.o.below hW) hOn bo
  clear h1 h2 hLn hSn hOn
  go_enter Try.func13, Try.ntmps13
  go_wp2_with fail
  refine (EL.out _ B0.out).mono ?_
  rintro e w1 ⟨rfl, hb1⟩
  have B1 : Hid (Below w.heap.size w w1) := B0.out.trans (hb1.mono B0.out.size)
  have RA1 : Hid (w1.heap[w.heap.size]? = _) := below_row hb1 (row_lt RA.out) RA.out
  have RB1 : Hid (w1.heap[w.heap.size + 1]? = _) := below_row hb1 (row_lt RB.out) RB.out
  obtain ⟨c0, c1, c2⟩ := cells3 RA1.out
  obtain ⟨d0, d1, d2⟩ := cells3 RB1.out
  clear hb1 a0 a1 a2 b0 b1 b2
  go_wp2_with fail
  refine (ES.out w1 B1.out).mono ?_
  rintro e w2 ⟨rfl, hb2⟩
  have B2 : Hid (Below w.heap.size w w2) := B1.out.trans (hb2.mono B1.out.size)
  obtain ⟨e0, e1, e2⟩ := cells3 (below_row hb2 (row_lt RA1.out) RA1.out)
  obtain ⟨f0, f1, f2⟩ := cells3 (below_row hb2 (row_lt RB1.out) RB1.out)
  clear hb2 c0 c1 c2 d0 d1 d2
  go_wp2_with fail
  refine (EO.out w2 B2.out).mono ?_
  rintro e w3 ⟨rfl, hb3⟩
  have B3 : Hid (Below w.heap.size w w3) := B2.out.trans (hb3.mono B2.out.size)
  clear hb3
  go_wp2
  go_ret
  exact ⟨rfl, B3.out⟩

end Go.Proofs.Ytighhcdlgjaacaa

namespace Go.Proofs.Ytighhcdlgjaacaa
open Go.RowKit

/-- What is left of l behind u. -/
def szU (l : Int) (u : Nat) : Int := if (u : Int) ≤ l then l - u else -1
def useTo (F : List FI) : Nat → Nat
  | 0 => 0
  | k + 1 => useTo F k + ((F.getD k fi0).1.size + (F.getD k fi0).2.size)
def useO (O : List OP) : Nat → Nat
  | 0 => 0
  | k + 1 => useO O k + ((O.getD k op0).n.size + (O.getD k op0).t.size + (O.getD k op0).d.size)
/-- Every text is one that the machine can hold. -/
def TxF (F : List FI) : Prop := ∀ j, j < F.length → (F.getD j fi0).1.size ≤ 9223372036854775807 ∧ (F.getD j fi0).2.size ≤ 9223372036854775807
def TxO (O : List OP) : Prop := ∀ j, j < O.length → (O.getD j op0).n.size ≤ 9223372036854775807 ∧ (O.getD j op0).t.size ≤ 9223372036854775807 ∧ (O.getD j op0).d.size ≤ 9223372036854775807
theorem useTo_le (F : List FI) : ∀ (m k : Nat), k < m → (F.getD k fi0).1.size + (F.getD k fi0).2.size ≤ useTo F m
  | 0, k, h => by omega
  | m + 1, k, h => by
    by_cases e : k = m
    · subst e; rw [useTo]; omega
    · have := useTo_le F m k (by omega); rw [useTo]; omega
theorem useO_le (O : List OP) : ∀ (m k : Nat), k < m → (O.getD k op0).n.size + (O.getD k op0).t.size + (O.getD k op0).d.size ≤ useO O m
  | 0, k, h => by omega
  | m + 1, k, h => by
    by_cases e : k = m
    · subst e; rw [useO]; omega
    · have := useO_le O m k (by omega); rw [useO]; omega
theorem tot_use (F : List FI) : ∀ k, totTo F k ≤ useTo F k
  | 0 => Nat.le_refl _
  | k + 1 => by have := tot_use F k; rw [totTo, useTo]; omega
theorem useTo_mono (F : List FI) {k m : Nat} (h : k ≤ m) : useTo F k ≤ useTo F m := by
  obtain ⟨d, rfl⟩ : ∃ d, m = k + d := ⟨m - k, by omega⟩
  clear h
  induction d with
  | zero => exact Nat.le_refl _
  | succ d ih => rw [← Nat.add_assoc, useTo]; omega
theorem useO_mono (O : List OP) {k m : Nat} (h : k ≤ m) : useO O k ≤ useO O m := by
  obtain ⟨d, rfl⟩ : ∃ d, m = k + d := ⟨m - k, by omega⟩
  clear h
  induction d with
  | zero => exact Nat.le_refl _
  | succ d ih => rw [← Nat.add_assoc, useO]; omega

set_option maxHeartbeats 1000000 in
theorem szFile_any (x y : ByteArray) (l : Int) (w : World) (h0 : 0 ≤ l) (h1 : l ≤ 1048576) (hx : x.size ≤ 9223372036854775807) (hy : y.size ≤ 9223372036854775807) :
    Calls Try.prog 57 #[.agg #[.string x, .string y], .int .i64 l] w fun e w' => e = .returned (.int .i64 (szU l (x.size + y.size))) ∧ Below w.heap.size w w' := by
  have B0 : Hid (Below w.heap.size w (w.alloc (.cells #[.string x, .string y] 75))) := (Below.refl _ _).alloc (Nat.le_refl _) _
  obtain ⟨r, HR⟩ : ∃ r, Hid (szU l (x.size + y.size) = r) := ⟨_, rfl⟩
  rw [HR.out]
  by_cases a : (x.size : Int) ≤ l
  · have a' : ¬ (l - x.size < 0) := by omega
    by_cases b : (x.size : Int) + y.size ≤ l
    · have b' : ¬ (l - x.size - y.size < 0) := by omega
      have hr : Hid (r = l - x.size - y.size) := by show _ = _; rw [← HR.out]; unfold szU; rw [if_pos (by omega)]; omega
      go_enter Try.func57, Try.ntmps57
      go_wp2
      go_ret
      exact ⟨by rw [hr.out]; rfl, B0.out⟩
    · have b' : l - x.size - y.size < 0 := by omega
      have hr : Hid (r = -1) := by show _ = _; rw [← HR.out]; unfold szU; rw [if_neg (by omega)]
      go_enter Try.func57, Try.ntmps57
      go_wp2
      go_ret
      exact ⟨by rw [hr.out]; rfl, B0.out⟩
  · have a' : l - x.size < 0 := by omega
    have hr : Hid (r = -1) := by show _ = _; rw [← HR.out]; unfold szU; rw [if_neg (by omega)]
    go_enter Try.func57, Try.ntmps57
    go_wp2
    go_ret
    exact ⟨by rw [hr.out]; rfl, B0.out⟩

set_option maxHeartbeats 1000000 in
theorem szDOp_any (o : OP) (l : Int) (w : World) (h0 : 0 ≤ l) (h1 : l ≤ 1048576) (hx : o.n.size ≤ 9223372036854775807) (hy : o.t.size ≤ 9223372036854775807) (hz : o.d.size ≤ 9223372036854775807) :
    Calls Try.prog 14 #[.agg #[.int .i64 o.k, .string o.n, .string o.t, .string o.d], .int .i64 l] w fun e w' => e = .returned (.int .i64 (szU l (o.n.size + o.t.size + o.d.size))) ∧ Below w.heap.size w w' := by
  obtain ⟨k, x, y, z⟩ := o
  simp only at hx hy hz ⊢
  have B0 : Hid (Below w.heap.size w (w.alloc (.cells #[.int .i64 k, .string x, .string y, .string z] 36))) := (Below.refl _ _).alloc (Nat.le_refl _) _
  obtain ⟨r, HR⟩ : ∃ r, Hid (szU l (x.size + y.size + z.size) = r) := ⟨_, rfl⟩
  rw [HR.out]
  by_cases a : (x.size : Int) ≤ l
  · have a' : ¬ (l - x.size < 0) := by omega
    by_cases b : (x.size : Int) + y.size ≤ l
    · have b' : ¬ (l - x.size - y.size < 0) := by omega
      by_cases c : (x.size : Int) + y.size + z.size ≤ l
      · have c' : ¬ (l - x.size - y.size - z.size < 0) := by omega
        have hr : Hid (r = l - x.size - y.size - z.size) := by show _ = _; rw [← HR.out]; unfold szU; rw [if_pos (by omega)]; omega
        go_enter Try.func14, Try.ntmps14
        go_wp2
        go_ret
        exact ⟨by rw [hr.out]; rfl, B0.out⟩
      · have c' : l - x.size - y.size - z.size < 0 := by omega
        have hr : Hid (r = -1) := by show _ = _; rw [← HR.out]; unfold szU; rw [if_neg (by omega)]
        go_enter Try.func14, Try.ntmps14
        go_wp2
        go_ret
        exact ⟨by rw [hr.out]; rfl, B0.out⟩
    · have b' : l - x.size - y.size < 0 := by omega
      have hr : Hid (r = -1) := by show _ = _; rw [← HR.out]; unfold szU; rw [if_neg (by omega)]
      go_enter Try.func14, Try.ntmps14
      go_wp2
      go_ret
      exact ⟨by rw [hr.out]; rfl, B0.out⟩
  · have a' : l - x.size < 0 := by omega
    have hr : Hid (r = -1) := by show _ = _; rw [← HR.out]; unfold szU; rw [if_neg (by omega)]
    go_enter Try.func14, Try.ntmps14
    go_wp2
    go_ret
    exact ⟨by rw [hr.out]; rfl, B0.out⟩

set_option maxHeartbeats 1000000 in
theorem szFileS_any (a : Option Addr) (c : Nat) (F : List FI) (l : Int) (w : World) (hF : FilesAt w a F) (h0 : 0 ≤ l) (h1 : l ≤ 1048576) (hn : F.length ≤ 9223372036854775807) (hT : TxF F) :
    Calls Try.prog 31 #[.slice a F.length c, .int .i64 l] w fun e w' => e = .returned (.int .i64 (szU l (F.length + useTo F F.length))) ∧ Below w.heap.size w w' := by
  have HF : Hid (FilesAt w a F) := hF
  have HT : Hid (TxF F) := hT
  clear hF hT
  obtain ⟨r, HR⟩ : ∃ r, Hid (szU l (F.length + useTo F F.length) = r) := ⟨_, rfl⟩
  rw [HR.out]
  obtain ⟨n, HN⟩ : ∃ n, Hid (F.length = n) := ⟨_, rfl⟩
  rw [HN.out] at hn HR ⊢
  by_cases hl : (n : Int) ≤ l
  · have hl' : ¬ (l - n < 0) := by omega
    go_enter Try.func31, Try.ntmps31
    go_wp2_with fail
    go_loopw [1, 5] (fun tl ti wr => ∃ i : Nat, i ≤ n ∧ ti = .int .i64 i ∧ tl = .int .i64 (l - n - (useTo F i : Nat)) ∧ 0 ≤ l - n - (useTo F i : Nat) ∧ Below w.heap.size w wr) (fun _ ti _ => n - (intOf ti).toNat)
    case atStart => exact ⟨0, Nat.zero_le _, rfl, by simp [useTo], by simp [useTo]; omega, Below.refl _ _⟩
    case round =>
      obtain ⟨i, hi, rfl, rfl, hu, hb⟩ := hrel
      have B1 : Hid (Below w.heap.size w wr) := hb
      clear hb
      by_cases hlt : i < n
      · have hin : (i : Int) < n := by omega
        have hiF : i < F.length := by rw [HN.out]; exact hlt
        obtain ⟨b, off, e, c1, c2⟩ := (HF.out.below B1.out) i hiF
        subst e
        obtain ⟨t1, t2⟩ := HT.out i hiF
        have HU1 : Hid (useTo F (i + 1) = useTo F i + ((F.getD i fi0).1.size + (F.getD i fi0).2.size)) := rfl
        have hmono := useTo_mono F hlt
        have HNO : Hid (l - n < (useTo F (i + 1) : Nat) → r = -1) := fun h => by
          rw [← HR.out]; unfold szU; rw [if_neg]
          have : useTo F (i + 1) ≤ useTo F n := hmono
          omega
        rw [HU1.out] at HNO
        clear hmono
        generalize F.getD i fi0 = f at *
        obtain ⟨x, y⟩ := f
        simp only at c1 c2 t1 t2 HU1 HNO
        obtain ⟨li, HLI⟩ : ∃ v, Hid (l - n - (useTo F i : Nat) = v) := ⟨_, rfl⟩
        have hli1 : li ≤ 1048576 := by rw [← HLI.out]; omega
        have SZ : Hid (∀ v, szU li (x.size + y.size) = v → Calls Try.prog 57 #[.agg #[.string x, .string y], .int .i64 li] wr fun e w' => e = .returned (.int .i64 v) ∧ Below wr.heap.size wr w') := fun v hv => by
          have := szFile_any x y li wr (by rw [← HLI.out]; exact hu) hli1 t1 t2
          rw [hv] at this
          exact this
        rw [HLI.out] at hu ⊢
        by_cases hc : (x.size : Int) + y.size ≤ li
        · have hv : szU li (x.size + y.size) = li - ((x.size + y.size : Nat) : Int) := by unfold szU; rw [if_pos (by omega)]
          have hp : ¬ (li - ((x.size + y.size : Nat) : Int) < 0) := by omega
          have HE : Hid (l - n - (useTo F (i + 1) : Nat) = li - ((x.size + y.size : Nat) : Int)) := by show _ = _; rw [HU1.out, ← HLI.out]; omega
          have hp0 : 0 ≤ li - ((x.size + y.size : Nat) : Int) := by omega
          generalize li - ((x.size + y.size : Nat) : Int) = v at *
          go_wp2_with fail
          refine (SZ.out v hv).mono ?_
          rintro e w2 ⟨rfl, hb2⟩
          have B2 : Hid (Below w.heap.size w w2) := B1.out.trans (hb2.mono B1.out.size)
          clear hb2
          go_wp2
          go_roundw
          case rel => exact ⟨i + 1, by omega, by first | rfl | go_num, by rw [HE.out], by rw [HE.out]; exact hp0, B2.out⟩
          case measure => simp [intOf]; omega
        · have hv : szU li (x.size + y.size) = -1 := by unfold szU; rw [if_neg (by omega)]
          have hr : r = -1 := HNO.out (by rw [← HLI.out] at hc; omega)
          subst hr
          go_wp2_with fail
          refine (SZ.out (-1) hv).mono ?_
          rintro e w2 ⟨rfl, hb2⟩
          have B2 : Hid (Below w.heap.size w w2) := B1.out.trans (hb2.mono B1.out.size)
          clear hb2
          go_wp2
          go_ret
          exact ⟨rfl, B2.out⟩
      · have hin : i = n := by omega
        subst hin
        have hr : Hid (r = l - i - (useTo F i : Nat)) := by show _ = _; rw [← HR.out]; unfold szU; rw [if_pos (by omega)]; omega
        generalize l - i - (useTo F i : Nat) = v at *
        go_wp2
        go_ret
        exact ⟨by rw [hr.out]; rfl, B1.out⟩
  · have hl' : l - n < 0 := by omega
    have hr : r = -1 := by rw [← HR.out]; unfold szU; rw [if_neg (by omega)]
    subst hr
    go_enter Try.func31, Try.ntmps31
    go_wp2
    go_ret
    exact ⟨rfl, Below.refl _ _⟩

end Go.Proofs.Ytighhcdlgjaacaa

namespace Go.Proofs.Ytighhcdlgjaacaa
open Go.RowKit

theorem grown_row {w w' : World} {row : Option Nat} {k : Nat} {o : Obj} (hg : w.grownBy w' row) (h : w.heap[k]? = some o) (hne : some k ≠ row) : w'.heap[k]? = some o := (hg.block k (row_lt h) hne).trans h

/-- What is owned of a row of numbers lies there. -/
theorem owns_ints {w : World} {base size g n cap : Nat} {e : TypeId} {zs : List Int} (h : w.ownsRow base e size (.slice (some ⟨g, 0, none⟩) n cap) n (zs.map (Value.int .i64))) : IntsAt w (some ⟨g, 0, none⟩) zs := by
  intro j hj
  refine ⟨g, 0, rfl, ?_⟩
  have := h.cells (g := g) rfl j (.int .i64 (zs.getD j 0)) (by simp [List.getD, hj])
  have hadd : (⟨g, 0, none⟩ : Addr).add j = ⟨g, 0 + j, none⟩ := by unfold Addr.add; split <;> simp_all
  rw [hadd] at this
  exact this

theorem owns_below {w w' : World} {base size n : Nat} {e : TypeId} {v : Value} {xs : List Value} (h : w.ownsRow base e size v n xs) (hb : Below w.heap.size w w') : w'.ownsRow base e size v n xs := by
  obtain ⟨h1, h2 | ⟨g, cap, cur, h2, h3, h4, h5⟩⟩ := h
  · exact ⟨h1, .inl h2⟩
  · exact ⟨h1, .inr ⟨g, cap, cur, h2, h3, below_row hb (row_lt h4) h4, h5⟩⟩

theorem own_some {w : World} {base k : Nat} {v : Value} {e : TypeId} {size : Nat} {xs : List Value} (h : w.ownsRow base e size v (k + 1) xs) : ∃ g c, v = .slice (some ⟨g, 0, none⟩) (k + 1) c ∧ base ≤ g := by
  obtain ⟨_, ⟨_, h2⟩ | ⟨g, cap, cur, h2, h3, _⟩⟩ := h
  · omega
  · exact ⟨g, cap, h2, h3⟩
theorem own_shape {w : World} {base k : Nat} {v : Value} {e : TypeId} {size : Nat} {xs : List Value} (h : w.ownsRow base e size v k xs) : v = .slice none 0 0 ∨ ∃ g c, v = .slice (some ⟨g, 0, none⟩) k c := by
  obtain ⟨_, ⟨h1, _⟩ | ⟨g, cap, cur, h2, _⟩⟩ := h
  · exact .inl h1
  · exact .inr ⟨g, cap, h2⟩
theorem owns_base {w : World} {base b0 k : Nat} {v : Value} {e : TypeId} {size : Nat} {xs : List Value} (h : w.ownsRow base e size v k xs) (hb : b0 ≤ base) : w.ownsRow b0 e size v k xs := by
  obtain ⟨h0, h1 | ⟨g, cap, cur, h2, h3, h4⟩⟩ := h
  · exact ⟨h0, .inl h1⟩
  · exact ⟨h0, .inr ⟨g, cap, cur, h2, Nat.le_trans hb h3, h4⟩⟩
theorem owns_set {w : World} {base k b i : Nat} {v u : Value} {e : TypeId} {size : Nat} {xs : List Value} (h : w.ownsRow base e size v k xs) (hb : b < base) : (w.setCell ⟨b, i, none⟩ u).ownsRow base e size v k xs := ownsRow_setCell_below h hb u
theorem owns_at1 {w : World} {base n : Nat} {e : TypeId} {sl : Value} {xs : List Int} (h : w.ownsRow base e 1 sl n (xs.map (Value.int .i64))) : ∃ a c, sl = .slice a xs.length c ∧ xs.length = n ∧ IntsAt w a xs := by
  obtain ⟨h1, ⟨rfl, h2⟩ | ⟨g, cap, cur, rfl, h3, h4, h5⟩⟩ := id h
  · subst h2
    have : xs = [] := by simpa using h1
    subst this
    exact ⟨none, 0, rfl, rfl, fun j hj => by simp at hj⟩
  · have hl : xs.length = n := by simpa using h1
    exact ⟨_, _, by rw [hl], hl, owns_ints h⟩

theorem cell_new1 (W : World) (v : Value) (T : TypeId) (g : Nat) (hg : W.heap.size = g) : (W.alloc (.cells #[v] T)).cell? ⟨g, 0, none⟩ = some v := by
  subst hg
  rw [cell_of_row _ _ 0 _ _ _ (heap_alloc_new W (.cells #[v] T))]
  simp
theorem one_cell {w : World} {ad : Addr} {x0 : Value} (hc : w.cell? ad = some x0) : ∀ j u, [x0][j]? = some u → w.cell? (ad.add j) = some u := by
  intro j u hu
  have hj : j = 0 := by
    rcases j with _ | j
    · rfl
    · simp at hu
  subst hj
  have : ad.add 0 = ad := by unfold Addr.add; split <;> simp_all
  rw [this, hc]
  simpa using hu
theorem append_int (w : World) {ops : Array Oper} {rest : List Oper} {o : Oper} {a : Act} {Q : Exit → Act → World → Prop}
    (hg : o.guard = none) (s x : Operand) (hop : o.op = Op.call { callee := Callee.builtin Builtin.append, args := #[s, x], argTypes := #[45, 45] })
    (base : Nat) (v : Value) (k : Nat) (xs : List Value) (hs : a.eval s = v) (hown : w.ownsRow base 2 1 v k xs) (ad : Addr) (c : Nat) (x0 : Value) (hx : a.eval x = .slice (some ad) 1 c)
    (hc : w.cell? ad = some x0) (h1c : x0.oneCell' = true) (b1 : k ≤ 1000) (hb : base ≤ w.heap.size)
    (hK : ∀ v' w', w'.ownsRow base 2 1 v' (k + 1) (xs ++ [x0]) → w.grownBy w' v.ownBlock → wpList Try.prog ops Q rest (a.put o.dst v') w') :
    wpList Try.prog ops Q (o :: rest) a w := by
  obtain ⟨i0, hi, hz0, hz1, hz2⟩ := info_parts Try.info2
  exact wpList_append_own w hg s x _ hop base _ i0 _ 1 8 Try.underlying45 hi hz0 hz1 hz2 rfl (by decide) v k xs hs hown ad 1 c [x0] hx rfl (one_cell hc) (by simpa using h1c) (by unfold maxLen; omega) (by omega) hb (fun v' w' h1 h2 _ => hK v' w' h1 h2)

/-- 'append' of a number to a slice of the call's own, as a step of a region that draws. -/
theorem step_append_int {ops : Array Oper} {o : Oper} {a : Act} {w : World} {K : Act → World → Prop} {Q : Exit → Act → World → Prop} {E : Prop}
    (hg : o.guard = none) (s x : Operand) (hop : o.op = Op.call { callee := Callee.builtin Builtin.append, args := #[s, x], argTypes := #[45, 45] })
    (base : Nat) (v : Value) (k : Nat) (xs : List Value) (hs : a.eval s = v) (hown : w.ownsRow base 2 1 v k xs) (ad : Addr) (c : Nat) (x0 : Value) (hx : a.eval x = .slice (some ad) 1 c)
    (hc : w.cell? ad = some x0) (h1c : x0.oneCell' = true) (b1 : k ≤ 1000) (hb : base ≤ w.heap.size)
    (hK : ∀ v' w', w'.ownsRow base 2 1 v' (k + 1) (xs ++ [x0]) → w.grownBy w' v.ownBlock → K (a.put o.dst v') w') :
    if Region.wanted o (yielded ops a.tmps) = true then Oper.wp Try.prog o a w K Q else E := by
  have hw : Region.wanted o (yielded ops a.tmps) = true := by simp [Region.wanted, hg]
  rw [if_pos hw]
  obtain ⟨i0, hi, hz0, hz1, hz2⟩ := info_parts Try.info2
  obtain ⟨v', w', hrun, r1, r2, _⟩ := run_append_own (P := Try.prog) w base 45 o.type _ i0 _ 1 8 Try.underlying45 hi hz0 hz1 hz2 rfl (by decide) v k xs hown ad 1 c [x0] rfl (one_cell hc) (by simpa using h1c) (by unfold maxLen; omega) (by omega) hb
  unfold Oper.wp
  simp [execOp, hop, resolve, invoke, builtin, hs, hx, hrun, Result.andThen]
  exact hK _ _ r1 r2

end Go.Proofs.Ytighhcdlgjaacaa

namespace Go.Proofs.Ytighhcdlgjaacaa
open Go.RowKit

/-- The first m cells marked by k0, k0 + 1, .. -/
def markA (cur : Array Value) (k0 : Int) : Nat → Array Value
  | 0 => cur
  | m + 1 => (markA cur k0 m).setIfInBounds m (.int .i64 (k0 + (m : Nat)))
theorem markA_size (cur : Array Value) (k0 : Int) : ∀ m, (markA cur k0 m).size = cur.size
  | 0 => rfl
  | m + 1 => by simp [markA, markA_size cur k0 m]
theorem markA_get (cur : Array Value) (k0 : Int) : ∀ m, m ≤ cur.size → ∀ j, j < m → (markA cur k0 m)[j]? = some (.int .i64 (k0 + (j : Nat)))
  | 0, _, j, hj => by omega
  | m + 1, hm, j, hj => by
    unfold markA
    by_cases e : j = m
    · subst e
      rw [Array.getElem?_setIfInBounds_self_of_lt (by rw [markA_size]; omega)]
    · rw [Array.getElem?_setIfInBounds_ne (by omega)]
      exact markA_get cur k0 m (by omega) j (by omega)
theorem row_some {w : World} {g : Nat} {cur : Array Value} {T : TypeId} (h : w.heap[g]? = some (.cells cur T (0, 0))) {j : Nat} (hj : j < cur.size) : ∃ v, w.cell? ⟨g, j, none⟩ = some v := by
  rw [cell_of_row _ _ j _ _ _ h]
  exact ⟨cur[j], by simp [hj]⟩
theorem mark_step {w : World} {g m : Nat} {cur : Array Value} {T : TypeId} {k0 v : Int} (h : w.heap[g]? = some (.cells (markA cur k0 m) T (0, 0))) (hv : v = k0 + (m : Nat)) : (w.setCell ⟨g, m, none⟩ (.int .i64 v)).heap[g]? = some (.cells (markA cur k0 (m + 1)) T (0, 0)) := by
  rw [heap_setCell_same _ _ _ _ _ _ h, hv]
  rfl
end Go.Proofs.Ytighhcdlgjaacaa

namespace Go.Proofs.Ytighhcdlgjaacaa
open Go.RowKit

set_option maxHeartbeats 1000000 in
theorem markInt64S_any (g n cap : Nat) (k0 : Int) (cur : Array Value) (T : TypeId) (w : World) (hrow0 : w.heap[g]? = some (.cells cur T (0, 0))) (hn : n ≤ cur.size) (h0 : 0 ≤ k0) (h1 : k0 ≤ 1000000000000) (hn1 : n ≤ 10000000) :
    Calls Try.prog 26 #[.slice (some ⟨g, 0, none⟩) n cap, .int .i64 k0] w fun e w' => e = .returned (.int .i64 (k0 + ((n : Nat) : Int))) ∧ w.grownBy w' (some g) ∧ w'.heap[g]? = some (.cells (markA cur k0 (n)) T (0, 0)) := by
  have HR0 : Hid (w.heap[g]? = some (.cells cur T (0, 0))) := hrow0
  clear hrow0
  go_enter Try.func26, Try.ntmps26
  go_wp2_with fail
  go_loopw [1, 5] (fun kk t wr => ∃ k : Nat, k ≤ n ∧ t = .int .i64 k ∧ kk = .int .i64 (k0 + ((k : Nat) : Int)) ∧ w.grownBy wr (some g) ∧ wr.heap[g]? = some (.cells (markA cur k0 (k)) T (0, 0))) (fun _ t _ => n - (intOf t).toNat)
  case atStart => exact ⟨0, Nat.zero_le _, rfl, by simp, grown_refl _ _, HR0.out⟩
  case round =>
    obtain ⟨k, hk, rfl, rfl, hg, hrow⟩ := hrel
    have HG : Hid (w.grownBy wr (some g)) := hg
    clear hg
    obtain ⟨K, HK⟩ : ∃ t, Hid (k0 + ((k : Nat) : Int) = t) := ⟨_, rfl⟩
    have hkb : 0 ≤ K ∧ K ≤ 1000100000000 := by
      have := HK.out
      omega
    rw [HK.out]
    by_cases hlt : k < n
    · have fz := fun i => frozen_of_row _ _ i _ _ hrow
      obtain ⟨z0, y0⟩ := row_some hrow (j := k) (by rw [markA_size]; omega)
      have HROW : Hid ((World.heap (World.setCell wr ⟨g, k, none⟩ (Value.int IntKind.i64 K)))[g]? = some (.cells (markA cur k0 ((k + 1))) T (0, 0))) := by
        show _ = _
        exact (mark_step hrow (by have := HK.out; omega))
      have HGR : Hid (w.grownBy (World.setCell wr ⟨g, k, none⟩ (Value.int IntKind.i64 K)) (some g)) := (grown_trans HG.out (grown_set _ _ _ _))
      have HK1 : Hid (k0 + (((k + 1) : Nat) : Int) = K + 1) := by
        show _ = _
        have := HK.out
        omega
      clear hrow
      go_wp2
      go_roundw
      case rel => exact ⟨k + 1, by omega, by go_num, by first | (rw [HK1.out]; go_num) | rw [HK1.out], HGR.out, HROW.out⟩
      case measure => simp [intOf]; omega
    · have hkl : k = n := by omega
      subst hkl
      have HROW : Hid (wr.heap[g]? = _) := hrow
      clear hrow
      go_wp2
      go_ret
      exact ⟨ret_int HK.out.symm, HG.out, HROW.out⟩

set_option maxHeartbeats 400000 in
theorem markInt64S_nil (a : Option Addr) (cap : Nat) (k0 : Int) (w : World) :
    Calls Try.prog 26 #[.slice a 0 cap, .int .i64 k0] w fun e w' => e = .returned (.int .i64 k0) ∧ w' = w := by
  go_enter Try.func26, Try.ntmps26
  go_wp2_with fail
  go_loop [1, 5] (fun kk t => t = .int .i64 0 ∧ kk = .int .i64 k0) (fun _ _ => 0)
  case atStart => exact ⟨rfl, rfl⟩
  case round =>
    obtain ⟨rfl, rfl⟩ := hrel
    go_wp2
    go_ret
    exact ⟨rfl, rfl⟩

end Go.Proofs.Ytighhcdlgjaacaa
