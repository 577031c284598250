import Derived.Test.YtighhcdlgjaacaaPack5
import Derived.Test.YtighhcdlgjaacaaDiskTo
namespace Go.Proofs.Ytighhcdlgjaacaa
open Go.RowKit

theorem take_snocO (F : List OP) (k : Nat) (h : k < F.length) : F.take (k + 1) = F.take k ++ [F.getD k op0] := by
  rw [List.take_succ_eq_append_getElem h]; simp [List.getD, h]

set_option maxHeartbeats 2000000 in
theorem toDOpS_any (a : Option Addr) (c : Nat) (F : List OP) (w : World) (hF : OpsAt w a F) (hn : F.length ≤ 1048576) :
    Calls Try.prog 38 #[.slice a F.length c] w fun e w' => e = .returned (.slice (some ⟨w.heap.size, 0, none⟩) F.length F.length) ∧ Below w.heap.size w w' ∧ w'.ownsRow w.heap.size 40 4 (.slice (some ⟨w.heap.size, 0, none⟩) F.length F.length) F.length (rowO F) := by
  have HF : Hid (OpsAt w a F) := hF
  clear hF
  obtain ⟨n, HN⟩ : ∃ n, Hid (F.length = n) := ⟨_, rfl⟩
  rw [HN.out] at hn ⊢
  have hmk := fun W => make_op W n hn
  have O0 : Hid ((w.alloc (.cells (rowO (List.replicate n op0)).toArray 40)).ownsRow w.heap.size 40 4 (.slice (some ⟨w.heap.size, 0, none⟩) n n) n (rowO (List.replicate n op0))) := own_op w n hn
  have B0 : Hid (Below w.heap.size w (w.alloc (.cells (rowO (List.replicate n op0)).toArray 40))) := (Below.refl _ _).alloc (Nat.le_refl _) _
  go_enter Try.func38, Try.ntmps38
  go_wp2_with fail
  clear hmk
  go_loopw [4] (fun t wr => ∃ k : Nat, k ≤ n ∧ t = .int .i64 k ∧ Below w.heap.size w wr ∧ wr.ownsRow w.heap.size 40 4 (.slice (some ⟨w.heap.size, 0, none⟩) n n) n (rowO (F.take k ++ List.replicate (n - k) op0))) (fun t _ => n - (intOf t).toNat)
  case atStart => exact ⟨0, Nat.zero_le _, rfl, B0.out, O0.out⟩
  case round =>
    clear B0 O0
    obtain ⟨k, hk, rfl, hb, ho⟩ := hrel
    have B1 : Hid (Below w.heap.size w wr) := hb
    have O1 : Hid (wr.ownsRow w.heap.size 40 4 (.slice (some ⟨w.heap.size, 0, none⟩) n n) n (rowO (F.take k ++ List.replicate (n - k) op0))) := ho
    clear hb ho
    by_cases hlt : k < n
    · have hkn : (k : Int) < n := by omega
      have hkF : k < F.length := by rw [HN.out]; exact hlt
      obtain ⟨b, off, e, c0, c1, c2, c3⟩ := (HF.out.below B1.out) k hkF
      subst e
      have hlk : (F.take k).length = k := by rw [List.length_take]; omega
      have HTK : Hid (F.take (k + 1) = F.take k ++ [F.getD k op0]) := take_snocO F k hkF
      generalize F.getD k op0 = f at *
      obtain ⟨fk, x, y, z⟩ := f
      simp only at c0 c1 c2 c3
      have hlen : k < (F.take k ++ List.replicate (n - k) op0).length := by simp; omega
      obtain ⟨q0, q1, q2, q3⟩ := rowO_at (F.take k ++ List.replicate (n - k) op0) k hlen
      have HST : Hid (((((rowO (F.take k ++ List.replicate (n - k) op0)).set (k * 4) (.int .i64 fk)).set (k * 4 + 1) (.string x)).set (k * 4 + 2) (.string y)).set (k * 4 + 3) (.string z) = rowO (F.take (k + 1) ++ List.replicate (n - (k + 1)) op0)) := by
        show _ = _
        rw [rowO_set _ k ⟨fk, x, y, z⟩ hlen, set_rep (F.take k) op0 ⟨fk, x, y, z⟩ k n hlt hlk, HTK.out]
      go_wp2_with fail
      refine (toDOp_any fk x y z wr).mono ?_
      rintro e w2 ⟨rfl, hb2⟩
      have B2 : Hid (Below w.heap.size w w2) := B1.out.trans (hb2.mono B1.out.size)
      have O2 : Hid (w2.ownsRow w.heap.size 40 4 (.slice (some ⟨w.heap.size, 0, none⟩) n n) n (rowO (F.take k ++ List.replicate (n - k) op0))) := own_blw O1.out hb2
      obtain ⟨f0, ff0⟩ := own_cellV O2.out q0
      obtain ⟨f1, ff1⟩ := own_cellV O2.out q1
      obtain ⟨f2, ff2⟩ := own_cellV O2.out q2
      obtain ⟨f3, ff3⟩ := own_cellV O2.out q3
      have O3 : Hid (((((w2.setCell ⟨w.heap.size, k * 4, none⟩ (.int .i64 fk)).setCell ⟨w.heap.size, k * 4 + 1, none⟩ (.string x)).setCell ⟨w.heap.size, k * 4 + 2, none⟩ (.string y)).setCell ⟨w.heap.size, k * 4 + 3, none⟩ (.string z)).ownsRow w.heap.size 40 4 (.slice (some ⟨w.heap.size, 0, none⟩) n n) n (rowO (F.take (k + 1) ++ List.replicate (n - (k + 1)) op0))) := by
        have := own_putV (k := k * 4 + 3) (.string z) (own_putV (k := k * 4 + 2) (.string y) (own_putV (k := k * 4 + 1) (.string x) (own_putV (k := k * 4) (.int .i64 fk) O2.out)))
        rw [HST.out] at this
        exact this
      clear hb2 B1 O1 q0 q1 q2 q3
      go_wp2
      go_roundw
      case rel => exact ⟨k + 1, by omega, by first | rfl | go_num, (((B2.out.setCell (Nat.le_refl _) _).setCell (Nat.le_refl _) _).setCell (Nat.le_refl _) _).setCell (Nat.le_refl _) _, O3.out⟩
      case measure => simp [intOf]; omega
    · have hke : k = n := by omega
      subst hke
      have O2 : Hid (wr.ownsRow w.heap.size 40 4 (.slice (some ⟨w.heap.size, 0, none⟩) k k) k (rowO F)) := by
        have := O1.out
        rw [show F.take k = F by rw [← HN.out, List.take_length], Nat.sub_self, List.replicate_zero, List.append_nil] at this
        exact this
      go_wp2
      go_ret
      exact ⟨rfl, B1.out, O2.out⟩

/-- A disk of the call's own. -/
structure DO (w : World) (base : Nat) (lv sv ov : Value) (L S : List FI) (O : List OP) : Prop where
  l : w.ownsRow base 72 2 lv L.length (rowF L)
  s : w.ownsRow base 72 2 sv S.length (rowF S)
  o : w.ownsRow base 40 4 ov O.length (rowO O)
theorem DO.below {w w' : World} {base : Nat} {lv sv ov : Value} {L S : List FI} {O : List OP} (h : DO w base lv sv ov L S O) (hb : Below w.heap.size w w') : DO w' base lv sv ov L S O := ⟨own_blw h.l hb, own_blw h.s hb, own_blw h.o hb⟩
theorem DO.bse {w : World} {base b0 : Nat} {lv sv ov : Value} {L S : List FI} {O : List OP} (h : DO w base lv sv ov L S O) (hb : b0 ≤ base) : DO w b0 lv sv ov L S O := ⟨own_bse h.l hb, own_bse h.s hb, own_bse h.o hb⟩

set_option maxHeartbeats 2000000 in
theorem toDisk_any (la sa oa : Option Addr) (lc sc oc : Nat) (L S : List FI) (O : List OP) (w : World) (hL : FilesAt w la L) (hS : FilesAt w sa S) (hO : OpsAt w oa O) (hLn : L.length ≤ 1048576) (hSn : S.length ≤ 1048576) (hOn : O.length ≤ 1048576) :
    Calls Try.prog 11 #[.agg #[.slice la L.length lc, .slice sa S.length sc, .slice oa O.length oc]] w fun e w' => ∃ gl gs go : Nat, e = .returned (.agg #[.slice (some ⟨gl, 0, none⟩) L.length L.length, .slice (some ⟨gs, 0, none⟩) S.length S.length, .slice (some ⟨go, 0, none⟩) O.length O.length]) ∧ Below w.heap.size w w' ∧ (gl ≠ gs) ∧ DO w' w.heap.size (.slice (some ⟨gl, 0, none⟩) L.length L.length) (.slice (some ⟨gs, 0, none⟩) S.length S.length) (.slice (some ⟨go, 0, none⟩) O.length O.length) L S O := by
  obtain ⟨ln, HLN⟩ : ∃ n, Hid (L.length = n) := ⟨_, rfl⟩
  obtain ⟨sn, HSN⟩ : ∃ n, Hid (S.length = n) := ⟨_, rfl⟩
  obtain ⟨on, HON⟩ : ∃ n, Hid (O.length = n) := ⟨_, rfl⟩
  have TL : Hid (∀ W, FilesAt W la L → Calls Try.prog 37 #[.slice la ln lc] W fun e w' => e = .returned (.slice (some ⟨W.heap.size, 0, none⟩) ln ln) ∧ Below W.heap.size W w' ∧ w'.ownsRow W.heap.size 72 2 (.slice (some ⟨W.heap.size, 0, none⟩) ln ln) ln (rowF L)) := fun W h => by
    have := toFileS_any la lc L W h hLn
    rw [HLN.out] at this
    exact this
  have TS : Hid (∀ W, FilesAt W sa S → Calls Try.prog 37 #[.slice sa sn sc] W fun e w' => e = .returned (.slice (some ⟨W.heap.size, 0, none⟩) sn sn) ∧ Below W.heap.size W w' ∧ w'.ownsRow W.heap.size 72 2 (.slice (some ⟨W.heap.size, 0, none⟩) sn sn) sn (rowF S)) := fun W h => by
    have := toFileS_any sa sc S W h hSn
    rw [HSN.out] at this
    exact this
  have TO : Hid (∀ W, OpsAt W oa O → Calls Try.prog 38 #[.slice oa on oc] W fun e w' => e = .returned (.slice (some ⟨W.heap.size, 0, none⟩) on on) ∧ Below W.heap.size W w' ∧ w'.ownsRow W.heap.size 40 4 (.slice (some ⟨W.heap.size, 0, none⟩) on on) on (rowO O)) := fun W h => by
    have := toDOpS_any oa oc O W h hOn
    rw [HON.out] at this
    exact this
  have DD : Hid (∀ w' gl gs go, w'.ownsRow w.heap.size 72 2 (.slice (some ⟨gl, 0, none⟩) ln ln) ln (rowF L) → w'.ownsRow w.heap.size 72 2 (.slice (some ⟨gs, 0, none⟩) sn sn) sn (rowF S) → w'.ownsRow w.heap.size 40 4 (.slice (some ⟨go, 0, none⟩) on on) on (rowO O) → DO w' w.heap.size (.slice (some ⟨gl, 0, none⟩) L.length L.length) (.slice (some ⟨gs, 0, none⟩) S.length S.length) (.slice (some ⟨go, 0, none⟩) O.length O.length) L S O) := fun w' gl gs go h1 h2 h3 => by
    rw [HLN.out, HSN.out, HON.out]
    exact ⟨by rw [HLN.out]; exact h1, by rw [HSN.out]; exact h2, by rw [HON.out]; exact h3⟩
  rw [HLN.out, HSN.out, HON.out] at DD ⊢
  have B0 : Hid (Below w.heap.size w (((w.alloc (.cells #[.slice la ln lc, .slice sa sn sc, .slice oa on oc] 25)).alloc (.cells #[.slice none 0 0, .slice none 0 0, .slice none 0 0] 31)).alloc (.cells #[.slice none 0 0, .slice none 0 0, .slice none 0 0] 31))) := (((Below.refl _ _).alloc (Nat.le_refl _) _).alloc (by simp) _).alloc (by simp; omega) _
  have RA : Hid ((((w.alloc (.cells #[.slice la ln lc, .slice sa sn sc, .slice oa on oc] 25)).alloc (.cells #[.slice none 0 0, .slice none 0 0, .slice none 0 0] 31)).alloc (.cells #[.slice none 0 0, .slice none 0 0, .slice none 0 0] 31)).heap[w.heap.size]? = some (.cells #[.slice la ln lc, .slice sa sn sc, .slice oa on oc] 25 (0, 0))) := by
    show _ = _
    rw [heap_alloc_old _ _ (by simp; omega), heap_alloc_old _ _ (by simp)]
    exact heap_alloc_new _ _
  have RB : Hid ((((w.alloc (.cells #[.slice la ln lc, .slice sa sn sc, .slice oa on oc] 25)).alloc (.cells #[.slice none 0 0, .slice none 0 0, .slice none 0 0] 31)).alloc (.cells #[.slice none 0 0, .slice none 0 0, .slice none 0 0] 31)).heap[w.heap.size + 1]? = some (.cells #[.slice none 0 0, .slice none 0 0, .slice none 0 0] 31 (0, 0))) := by
    show _ = _
    rw [heap_alloc_old _ _ (by simp)]
    have := heap_alloc_new (w.alloc (.cells #[.slice la ln lc, .slice sa sn sc, .slice oa on oc] 25)) (.cells #[.slice none 0 0, .slice none 0 0, .slice none 0 0] 31)
    simpa using this
  have RC : Hid ((((w.alloc (.cells #[.slice la ln lc, .slice sa sn sc, .slice oa on oc] 25)).alloc (.cells #[.slice none 0 0, .slice none 0 0, .slice none 0 0] 31)).alloc (.cells #[.slice none 0 0, .slice none 0 0, .slice none 0 0] 31)).heap[w.heap.size + 1 + 1]? = some (.cells #[.slice none 0 0, .slice none 0 0, .slice none 0 0] 31 (0, 0))) := by
    show _ = _
    have := heap_alloc_new ((w.alloc (.cells #[.slice la ln lc, .slice sa sn sc, .slice oa on oc] 25)).alloc (.cells #[.slice none 0 0, .slice none 0 0, .slice none 0 0] 31)) (.cells #[.slice none 0 0, .slice none 0 0, .slice none 0 0] 31)
    simpa using this
  have FL : Hid (FilesAt w la L) := hL
  have FS : Hid (FilesAt w sa S) := hS
  have FO : Hid (OpsAt w oa O) := hO
  clear hL hS hO hLn hSn hOn HLN HSN HON
  obtain ⟨a0, a1, a2⟩ := cells3 RA.out
  go_enter Try.func11, Try.ntmps11
  go_wp2_with fail
  generalize (((w.alloc (.cells #[.slice la ln lc, .slice sa sn sc, .slice oa on oc] 25)).alloc (.cells #[.slice none 0 0, .slice none 0 0, .slice none 0 0] 31)).alloc (.cells #[.slice none 0 0, .slice none 0 0, .slice none 0 0] 31)) = W0 at *
  have hw0 : w.heap.size + 1 + 1 < W0.heap.size := row_lt RC.out
  refine (TL.out W0 (FL.out.below B0.out)).mono ?_
  rintro e w1 ⟨rfl, hb1, ho1⟩
  have hw1 : W0.heap.size < w1.heap.size := (ho1.lt _ rfl).2
  obtain ⟨gl, HGL⟩ : ∃ g, Hid (W0.heap.size = g) := ⟨_, rfl⟩
  rw [HGL.out] at hw0 hw1 ho1 ⊢
  have A1 := below_row hb1 (row_lt RA.out) RA.out
  have D1 := below_row hb1 (row_lt RB.out) RB.out
  have C1 := below_row hb1 (row_lt RC.out) RC.out
  have ST1 : Hid (Below w.heap.size w (w1.setCell ⟨w.heap.size + 1 + 1, 0, none⟩ (.slice (some ⟨gl, 0, none⟩) ln ln)) ∧ (w1.setCell ⟨w.heap.size + 1 + 1, 0, none⟩ (.slice (some ⟨gl, 0, none⟩) ln ln)).ownsRow w.heap.size 72 2 (.slice (some ⟨gl, 0, none⟩) ln ln) ln (rowF L) ∧ (w1.setCell ⟨w.heap.size + 1 + 1, 0, none⟩ (.slice (some ⟨gl, 0, none⟩) ln ln)).heap[w.heap.size]? = some (.cells #[.slice la ln lc, .slice sa sn sc, .slice oa on oc] 25 (0, 0)) ∧ (w1.setCell ⟨w.heap.size + 1 + 1, 0, none⟩ (.slice (some ⟨gl, 0, none⟩) ln ln)).heap[w.heap.size + 1]? = some (.cells #[.slice none 0 0, .slice none 0 0, .slice none 0 0] 31 (0, 0)) ∧ (w1.setCell ⟨w.heap.size + 1 + 1, 0, none⟩ (.slice (some ⟨gl, 0, none⟩) ln ln)).heap[w.heap.size + 1 + 1]? = some (.cells #[.slice (some ⟨gl, 0, none⟩) ln ln, .slice none 0 0, .slice none 0 0] 31 (0, 0)) ∧ gl < (w1.setCell ⟨w.heap.size + 1 + 1, 0, none⟩ (.slice (some ⟨gl, 0, none⟩) ln ln)).heap.size) := by
    refine ⟨(B0.out.trans (hb1.mono B0.out.size)).setCell (by show w.heap.size ≤ w.heap.size + 1 + 1; omega) _, own_setT (own_bse ho1 (by omega)) C1 (by decide), (heap_setCell_other _ _ _ _ (by show w.heap.size ≠ w.heap.size + 1 + 1; omega)).trans A1, (heap_setCell_other _ _ _ _ (by show w.heap.size + 1 ≠ w.heap.size + 1 + 1; omega)).trans D1, by have := heap_setCell_same w1 (w.heap.size + 1 + 1) 0 _ _ (.slice (some ⟨gl, 0, none⟩) ln ln) C1; simpa using this, by simp [World.setCell]; omega⟩
  obtain ⟨c10, c11, c12⟩ := cells3 C1
  have c1f := fun i => frozen_of_row _ _ i _ _ C1
  obtain ⟨a10, a11, a12⟩ := cells3 ST1.out.2.2.1
  clear hb1 ho1 a0 a1 a2 RA RB RC FL B0 A1 D1 C1
  go_wp2_with fail
  clear c10 c11 c12 c1f a10 a11 a12
  generalize w1.setCell ⟨w.heap.size + 1 + 1, 0, none⟩ (.slice (some ⟨gl, 0, none⟩) ln ln) = W1 at *
  obtain ⟨B1, OL1, A1, D1, C1, hgl1⟩ := ST1.out
  clear ST1 hw1
  refine (TS.out W1 (FS.out.below B1)).mono ?_
  rintro e w2 ⟨rfl, hb2, ho2⟩
  have hw2 : W1.heap.size < w2.heap.size := (ho2.lt _ rfl).2
  obtain ⟨gs, HGS⟩ : ∃ g, Hid (W1.heap.size = g) := ⟨_, rfl⟩
  rw [HGS.out] at hw2 ho2 hgl1 ⊢
  have A2 := below_row hb2 (row_lt A1) A1
  have D2 := below_row hb2 (row_lt D1) D1
  have C2 := below_row hb2 (row_lt C1) C1
  have ST2 : Hid (Below w.heap.size w (w2.setCell ⟨w.heap.size + 1 + 1, 1, none⟩ (.slice (some ⟨gs, 0, none⟩) sn sn)) ∧ (w2.setCell ⟨w.heap.size + 1 + 1, 1, none⟩ (.slice (some ⟨gs, 0, none⟩) sn sn)).ownsRow w.heap.size 72 2 (.slice (some ⟨gl, 0, none⟩) ln ln) ln (rowF L) ∧ (w2.setCell ⟨w.heap.size + 1 + 1, 1, none⟩ (.slice (some ⟨gs, 0, none⟩) sn sn)).ownsRow w.heap.size 72 2 (.slice (some ⟨gs, 0, none⟩) sn sn) sn (rowF S) ∧ (w2.setCell ⟨w.heap.size + 1 + 1, 1, none⟩ (.slice (some ⟨gs, 0, none⟩) sn sn)).heap[w.heap.size]? = some (.cells #[.slice la ln lc, .slice sa sn sc, .slice oa on oc] 25 (0, 0)) ∧ (w2.setCell ⟨w.heap.size + 1 + 1, 1, none⟩ (.slice (some ⟨gs, 0, none⟩) sn sn)).heap[w.heap.size + 1]? = some (.cells #[.slice none 0 0, .slice none 0 0, .slice none 0 0] 31 (0, 0)) ∧ (w2.setCell ⟨w.heap.size + 1 + 1, 1, none⟩ (.slice (some ⟨gs, 0, none⟩) sn sn)).heap[w.heap.size + 1 + 1]? = some (.cells #[.slice (some ⟨gl, 0, none⟩) ln ln, .slice (some ⟨gs, 0, none⟩) sn sn, .slice none 0 0] 31 (0, 0))) := by
    have hb12 := B1.size
    refine ⟨(B1.trans (hb2.mono B1.size)).setCell (by show w.heap.size ≤ w.heap.size + 1 + 1; omega) _, own_setT (own_blw OL1 hb2) C2 (by decide), own_setT (own_bse ho2 (by omega)) C2 (by decide), (heap_setCell_other _ _ _ _ (by show w.heap.size ≠ w.heap.size + 1 + 1; omega)).trans A2, (heap_setCell_other _ _ _ _ (by show w.heap.size + 1 ≠ w.heap.size + 1 + 1; omega)).trans D2, by have := heap_setCell_same w2 (w.heap.size + 1 + 1) 1 _ _ (.slice (some ⟨gs, 0, none⟩) sn sn) C2; simpa using this⟩
  have HNE : Hid (gl ≠ gs) := by show gl ≠ gs; omega
  obtain ⟨c20, c21, c22⟩ := cells3 C2
  have c2f := fun i => frozen_of_row _ _ i _ _ C2
  obtain ⟨a20, a21, a22⟩ := cells3 ST2.out.2.2.2.1
  clear hb2 ho2 FS B1 OL1 A1 D1 C1 A2 D2 C2 hgl1 hw2
  go_wp2_with fail
  clear c20 c21 c22 c2f a20 a21 a22
  generalize w2.setCell ⟨w.heap.size + 1 + 1, 1, none⟩ (.slice (some ⟨gs, 0, none⟩) sn sn) = W2 at *
  obtain ⟨B2, OL2, OS2, A2, D2, C2⟩ := ST2.out
  clear ST2
  refine (TO.out W2 (FO.out.below B2)).mono ?_
  rintro e w3 ⟨rfl, hb3, ho3⟩
  obtain ⟨go, HGO⟩ : ∃ g, Hid (W2.heap.size = g) := ⟨_, rfl⟩
  rw [HGO.out] at ho3 ⊢
  have D3 := below_row hb3 (row_lt D2) D2
  have C3 := below_row hb3 (row_lt C2) C2
  have ST3 : Hid (Below w.heap.size w (w3.setCell ⟨w.heap.size + 1 + 1, 2, none⟩ (.slice (some ⟨go, 0, none⟩) on on)) ∧ DO (w3.setCell ⟨w.heap.size + 1 + 1, 2, none⟩ (.slice (some ⟨go, 0, none⟩) on on)) w.heap.size (.slice (some ⟨gl, 0, none⟩) ln ln) (.slice (some ⟨gs, 0, none⟩) sn sn) (.slice (some ⟨go, 0, none⟩) on on) L S O ∧ (w3.setCell ⟨w.heap.size + 1 + 1, 2, none⟩ (.slice (some ⟨go, 0, none⟩) on on)).heap[w.heap.size + 1]? = some (.cells #[.slice none 0 0, .slice none 0 0, .slice none 0 0] 31 (0, 0)) ∧ (w3.setCell ⟨w.heap.size + 1 + 1, 2, none⟩ (.slice (some ⟨go, 0, none⟩) on on)).heap[w.heap.size + 1 + 1]? = some (.cells #[.slice (some ⟨gl, 0, none⟩) ln ln, .slice (some ⟨gs, 0, none⟩) sn sn, .slice (some ⟨go, 0, none⟩) on on] 31 (0, 0))) := by
    have hb12 := B2.size
    have hgo := HGO.out
    refine ⟨(B2.trans (hb3.mono B2.size)).setCell (by show w.heap.size ≤ w.heap.size + 1 + 1; omega) _, DD.out _ _ _ _ (own_setT (own_blw OL2 hb3) C3 (by decide)) (own_setT (own_blw OS2 hb3) C3 (by decide)) (own_setT (own_bse ho3 (by omega)) C3 (by decide)), (heap_setCell_other _ _ _ _ (by show w.heap.size + 1 ≠ w.heap.size + 1 + 1; omega)).trans D3, by have := heap_setCell_same w3 (w.heap.size + 1 + 1) 2 _ _ (.slice (some ⟨go, 0, none⟩) on on) C3; simpa using this⟩
  obtain ⟨c30, c31, c32⟩ := cells3 C3
  have c3f := fun i => frozen_of_row _ _ i _ _ C3
  obtain ⟨e0, e1, e2⟩ := cells3 ST3.out.2.2.2
  obtain ⟨d0, d1, d2⟩ := cells3 ST3.out.2.2.1
  have df := fun i => frozen_of_row _ _ i _ _ ST3.out.2.2.1
  have ED : Hid (∀ W', (∃ x y z, W' = ((((w3.setCell ⟨w.heap.size + 1 + 1, 2, none⟩ (.slice (some ⟨go, 0, none⟩) on on)).setCell ⟨w.heap.size + 1, 0, none⟩ x).setCell ⟨w.heap.size + 1, 1, none⟩ y).setCell ⟨w.heap.size + 1, 2, none⟩ z)) → Below w.heap.size w W' ∧ DO W' w.heap.size (.slice (some ⟨gl, 0, none⟩) ln ln) (.slice (some ⟨gs, 0, none⟩) sn sn) (.slice (some ⟨go, 0, none⟩) on on) L S O) := by
    rintro W' ⟨x, y, z, rfl⟩
    obtain ⟨b, d, r1, -⟩ := ST3.out
    have r2 := heap_setCell_same _ (w.heap.size + 1) 0 _ _ x r1
    have r3 := heap_setCell_same _ (w.heap.size + 1) 1 _ _ y r2
    refine ⟨((b.setCell (by show w.heap.size ≤ w.heap.size + 1; omega) _).setCell (by show w.heap.size ≤ w.heap.size + 1; omega) _).setCell (by show w.heap.size ≤ w.heap.size + 1; omega) _, ⟨?_, ?_, ?_⟩⟩
    · exact own_setT (own_setT (own_setT d.l r1 (by decide)) r2 (by decide)) r3 (by decide)
    · exact own_setT (own_setT (own_setT d.s r1 (by decide)) r2 (by decide)) r3 (by decide)
    · exact own_setT (own_setT (own_setT d.o r1 (by decide)) r2 (by decide)) r3 (by decide)
  clear hb3 ho3 FO B2 OL2 OS2 A2 D2 C2 D3 C3 ST3 DD TL TS TO
  go_wp2
  generalize w3.setCell ⟨w.heap.size + 1 + 1, 2, none⟩ (.slice (some ⟨go, 0, none⟩) on on) = W3 at *
  refine bodyPost_ret (v := .agg #[.slice (some ⟨gl, 0, none⟩) ln ln, .slice (some ⟨gs, 0, none⟩) sn sn, .slice (some ⟨go, 0, none⟩) on on]) (by simp [results, Try.results11, go_sem, d0, d1, d2]) rfl ⟨gl, gs, go, rfl, (ED.out _ ⟨_, _, _, rfl⟩).1, HNE.out, (ED.out _ ⟨_, _, _, rfl⟩).2⟩

end Go.Proofs.Ytighhcdlgjaacaa
