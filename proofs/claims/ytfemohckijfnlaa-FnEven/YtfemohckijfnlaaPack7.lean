import Derived.Test.YtfemohckijfnlaaPack1
import Derived.Test.YtfemohckijfnlaaDrawMatrix
namespace Go.Proofs.Ytfemohckijfnlaa
open Go.RowKit

theorem ints_other {W W' : World} {g q : Nat} {xs : List Int} (h : IntsAt W (some ⟨g, 0, none⟩) xs) (hg : W.grownBy W' (some q)) (hne : g ≠ q) : IntsAt W' (some ⟨g, 0, none⟩) xs := by
  intro j hj
  obtain ⟨b, off, e, hc⟩ := h j hj
  simp at e
  obtain ⟨rfl, rfl⟩ := e
  exact ⟨g, 0, rfl, hg.cell hc (fun e => by injection e with e; exact hne e)⟩

/-- A drawn matrix, told to its caller. -/
def MatTold (w : World) (e : Ending) (w' : World) : Prop := ∃ (n g cg : Nat) (zs : List Int), e = .returned (.agg #[.int .i64 n, .slice (some ⟨g, 0, none⟩) zs.length cg]) ∧ n ≤ 9 ∧ zs.length = n * n ∧ Below w.heap.size w w' ∧ IntsAt w' (some ⟨g, 0, none⟩) zs

set_option maxHeartbeats 1000000 in
theorem drawSym_any (a : Option Addr) (c : Nat) (bs : List Int) (w : World) (h : CodeAt w a bs) (hl : bs.length ≤ 1048576) :
    Calls Try.prog 10 #[.slice a bs.length c] w (MatTold w) := by
  have H : Hid (CodeAt w a bs) := h
  clear h
  have BA : Hid (Below w.heap.size w (w.alloc (.cells #[.int .i64 0, .slice none 0 0] 26))) := (Below.refl _ _).alloc (Nat.le_refl _) _
  have GA : Hid ((w.alloc (.cells #[.int .i64 0, .slice none 0 0] 26)).heap[w.heap.size]? = some (.cells #[.int .i64 0, .slice none 0 0] 26 (0, 0))) := heap_alloc_new _ _
  have CA : Hid (CodeAt (w.alloc (.cells #[.int .i64 0, .slice none 0 0] 26)) a bs) := by
    intro j hj
    obtain ⟨b, off, e, hc, hv⟩ := H.out j hj
    exact ⟨b, off, e, (BA.out.cell (p := ⟨b, off + j, none⟩) (block_lt_of_cell hc)).trans hc, hv⟩
  go_enter Try.func10, Try.ntmps10
  go_wp2_with fail
  generalize w.alloc (.cells #[.int .i64 0, .slice none 0 0] 26) = W0 at *
  refine (l1Open_any a c bs W0 CA.out hl).mono ?_
  rintro e w1 ⟨rfl, hb, hr⟩
  obtain ⟨q, HQ⟩ : ∃ q, Hid (W0.heap.size = q) := ⟨_, rfl⟩
  have hw0 : w.heap.size < W0.heap.size := row_lt GA.out
  have HQL : Hid (w.heap.size < q) := by show _ < _; rw [← HQ.out]; exact hw0
  have B1 : Hid (Below w.heap.size w w1) := BA.out.trans (hb.mono BA.out.size)
  have G1 : Hid (w1.heap[w.heap.size]? = some (.cells #[.int .i64 0, .slice none 0 0] 26 (0, 0))) := below_row hb (row_lt GA.out) GA.out
  have R1 : Hid (RD w1 q a bs c 0) := by have := hr; rw [HQ.out] at this; exact this
  clear hb hr hw0
  rw [HQ.out]
  go_wp2_with fail
  refine (below_any q 0 c 5 a bs w1 R1.out (by omega)).mono ?_
  rintro e w2 ⟨x, p2, rfl, hx0, hx1, hr, hg⟩
  obtain ⟨x, rfl⟩ := Int.eq_ofNat_of_zero_le hx0
  obtain ⟨n, HN⟩ : ∃ n, Hid (x + 1 = n) := ⟨_, rfl⟩
  have hn1 : 1 ≤ n := by have := HN.out; omega
  have hn9 : n ≤ 9 := by have := HN.out; omega
  have hxn : 1 + (x : Int) = (n : Nat) := by have := HN.out; omega
  have hxw : wrap64 (1 + (x : Int)) = (n : Nat) := by rw [hxn]; unfold wrap64; omega
  have R2 : Hid (RD w2 q a bs c p2) := hr
  have B2 : Hid (Below w.heap.size w w2) := grown_below B1.out (by have := HQL.out; omega) hg
  have G2 : Hid (w2.heap[w.heap.size]? = some (.cells #[.int .i64 0, .slice none 0 0] 26 (0, 0))) := grown_row hg G1.out (fun e => by injection e with e; have := HQL.out; omega)
  clear hr hg B1 R1 G1 hx0 hx1
  go_wp2_with fail
  refine (matrix_any q p2 c n a bs w2 R2.out hn1 hn9).mono ?_
  rintro e w3 ⟨g, cg, zs, rfl, hzl, hzc, hgl, hg, hr, hrow⟩
  have B3 : Hid (Below w.heap.size w w3) := grown_below B2.out (by have := HQL.out; omega) hg
  have G3 : Hid (w3.heap[w.heap.size]? = some (.cells #[.int .i64 0, .slice none 0 0] 26 (0, 0))) := grown_row hg G2.out (fun e => by injection e with e; have := HQL.out; omega)
  have hne : w.heap.size ≠ g := fun e => by have := row_lt G2.out; omega
  have I3 : Hid (IntsAt w3 (some ⟨g, 0, none⟩) zs) := hrow.ints
  have HZL : Hid (zs.length = n * n) := hzl
  obtain ⟨zl, HZ⟩ : ∃ v, Hid (zs.length = v) := ⟨_, rfl⟩
  rw [HZ.out]
  clear hr hg hrow hzc hgl B2 R2 G2 hzl
  obtain ⟨c0, c1⟩ := cells2 G3.out
  have f0 := fun k => frozen_of_row _ _ k _ _ G3.out
  have ROW : Hid (((w3.setCell ⟨w.heap.size, 0, none⟩ (.int .i64 n)).setCell ⟨w.heap.size, 1, none⟩ (.slice (some ⟨g, 0, none⟩) zl cg)).heap[w.heap.size]? = some (.cells #[.int .i64 n, .slice (some ⟨g, 0, none⟩) zl cg] 26 (0, 0))) := by
    have := heap_setCell_same _ w.heap.size 1 _ _ (.slice (some ⟨g, 0, none⟩) zl cg) (heap_setCell_same w3 w.heap.size 0 _ _ (.int .i64 n) G3.out)
    show _ = _
    simpa using this
  have g1 := grown_set w3 w.heap.size 0 (.int .i64 n)
  have g2 := grown_set (w3.setCell ⟨w.heap.size, 0, none⟩ (.int .i64 n)) w.heap.size 1 (.slice (some ⟨g, 0, none⟩) zl cg)
  have B4 : Hid (Below w.heap.size w ((w3.setCell ⟨w.heap.size, 0, none⟩ (.int .i64 n)).setCell ⟨w.heap.size, 1, none⟩ (.slice (some ⟨g, 0, none⟩) zl cg))) := grown_below (grown_below B3.out (Nat.le_refl _) g1) (Nat.le_refl _) g2
  have I4 : Hid (IntsAt ((w3.setCell ⟨w.heap.size, 0, none⟩ (.int .i64 n)).setCell ⟨w.heap.size, 1, none⟩ (.slice (some ⟨g, 0, none⟩) zl cg)) (some ⟨g, 0, none⟩) zs) := ints_other (ints_other I3.out g1 (fun e => hne e.symm)) g2 (fun e => hne e.symm)
  clear g1 g2
  go_wp2
  refine bodyPost_ret (v := .agg #[.int .i64 n, .slice (some ⟨g, 0, none⟩) zl cg]) (results_cell_row Try.results10 _ _ w.heap.size 26 _ (0, 0) _ (by rfl) ROW.out Try.underlying26 rfl sizeMat2) (by rfl) ⟨n, g, cg, zs, by rw [HZ.out], hn9, HZL.out, B4.out, I4.out⟩

end Go.Proofs.Ytfemohckijfnlaa

namespace Go.Proofs.Ytfemohckijfnlaa
open Go.RowKit

/-- All pairs so far are the same in both ways: the rows before x, and of x the first y. -/
def evTo (n : Nat) (zs : List Int) (x y : Nat) : Bool := decide (∀ i, i < n → ∀ j, j < n → (i < x ∨ (i = x ∧ j < y)) → tm n zs i j = tm n zs j i)
theorem evTo_zero (n : Nat) (zs : List Int) : evTo n zs 0 0 = true := decide_eq_true fun i _ j _ h => by omega
theorem evTo_step {n : Nat} {zs : List Int} {x y : Nat} (hx : x < n) (hy : y < n) : evTo n zs x (y + 1) = (evTo n zs x y && decide (tm n zs x y = tm n zs y x)) := by
  unfold evTo
  rw [← Bool.decide_and]
  apply decide_eq_decide.2
  constructor
  · intro h
    exact ⟨fun i hi j hj hij => h i hi j hj (by omega), h x hx y hy (by omega)⟩
  · rintro ⟨h, e⟩ i hi j hj hij
    by_cases hc : i = x ∧ j = y
    · rw [hc.1, hc.2]; exact e
    · exact h i hi j hj (by omega)
theorem evTo_row {n : Nat} {zs : List Int} {x : Nat} : evTo n zs x n = evTo n zs (x + 1) 0 := by
  unfold evTo
  apply decide_eq_decide.2
  exact ⟨fun h i hi j hj hij => h i hi j hj (by omega), fun h i hi j hj hij => h i hi j hj (by omega)⟩
theorem evTo_all {n : Nat} {zs : List Int} (hm : matB n zs = true) : evTo n zs n 0 = symB n zs := by
  unfold evTo symB
  apply decide_eq_decide.2
  rw [Int.toNat_natCast]
  constructor
  · exact fun h => ⟨hm, fun i hi j hj => h i hi j (by omega) (by omega)⟩
  · rintro ⟨_, h⟩ i hi j hj _
    rcases Nat.lt_trichotomy i j with hij | hij | hij
    · exact (h j hj i hij).symm
    · rw [hij]
    · exact h i hi j hij
theorem timeV_tm {n : Nat} {zs : List Int} (hm : matB n zs = true) {x y : Nat} (hx : x < n) (hy : y < n) : timeV n zs x y = tm n zs x y := by
  unfold timeV tm
  rw [if_pos ⟨hm, inB_mk (by omega), inB_mk (by omega)⟩]
  simp

set_option maxHeartbeats 400000 in
theorem lawFnEven_big (a : Option Addr) (c len : Nat) (w : World) (hl : len ≤ 9223372036854775807) (h : 1048576 < len) :
    Calls Try.prog 4 #[.slice a len c] w fun e w' => e = .returned (.bool true) ∧ Below w.heap.size w w' := by
  have hd : decide (1048576 < len) = true := decide_eq_true h
  go_enter Try.func4, Try.ntmps4
  go_wp2_with (go_at_call 5; refine (big_any a c len w hl).mono ?_; rintro e w1 ⟨rfl, hw1⟩; subst w1; rw [hd])
  go_ret
  exact ⟨rfl, Below.refl _ _⟩

set_option maxRecDepth 10000 in
set_option maxHeartbeats 4000000 in
theorem lawFnEven (a : Option Addr) (ca : Nat) (bs : List Int) (w : World) (hA : CodeAt w a bs) (hl : bs.length ≤ 1048576) :
    Calls Try.prog 4 #[.slice a bs.length ca] w fun e w' => e = .returned (.bool true) ∧ Below w.heap.size w w' := by
  have HA : Hid (CodeAt w a bs) := hA
  clear hA
  have hd : decide (1048576 < bs.length) = false := decide_eq_false (by omega)
  go_enter Try.func4, Try.ntmps4
  go_wp2_with fail
  refine (big_any a ca bs.length w (by omega)).mono ?_
  rintro e w1 ⟨rfl, hw1⟩
  subst w1
  rw [hd]
  clear hd
  go_wp2_with fail
  refine (drawSym_any a ca bs w HA.out hl).mono ?_
  rintro e w1 ⟨n, g, cg, zs, rfl, hn9, hzl, hb, hi⟩
  obtain ⟨zl, HZ⟩ : ∃ v, Hid (zs.length = v) := ⟨_, rfl⟩
  have HZL : Hid (zl = n * n) := HZ.out.symm.trans hzl
  rw [HZ.out]
  have BX : Hid (Below w.heap.size w (w1.alloc (.cells #[.int .i64 n, .slice (some ⟨g, 0, none⟩) zl cg] 26))) := hb.alloc hb.size _
  have GX : Hid ((w1.alloc (.cells #[.int .i64 n, .slice (some ⟨g, 0, none⟩) zl cg] 26)).heap[w1.heap.size]? = some (.cells #[.int .i64 n, .slice (some ⟨g, 0, none⟩) zl cg] 26 (0, 0))) := heap_alloc_new _ _
  have IX : Hid (IntsAt (w1.alloc (.cells #[.int .i64 n, .slice (some ⟨g, 0, none⟩) zl cg] 26)) (some ⟨g, 0, none⟩) zs) := hi.below ((Below.refl _ _).alloc (Nat.le_refl _) _)
  clear hb hi hzl
  obtain ⟨t, HT⟩ : ∃ v, Hid (symB n zs = v) := ⟨_, rfl⟩
  have htt : (t != t) = false := by simp
  have htt2 : (t == t) = true := by simp
  have ISY : Hid (∀ W, IntsAt W (some ⟨g, 0, none⟩) zs → Calls Try.prog 11 #[.agg #[.int .i64 n, .slice (some ⟨g, 0, none⟩) zl cg]] W fun e w' => e = .returned (.bool t) ∧ Below W.heap.size W w') := fun W h => by
    have := implSym_any n (some ⟨g, 0, none⟩) cg zs W h
    rw [HZ.out, HT.out] at this
    exact this
  have SSY : Hid (∀ W, IntsAt W (some ⟨g, 0, none⟩) zs → Calls Try.prog 12 #[.agg #[.int .i64 n, .slice (some ⟨g, 0, none⟩) zl cg]] W fun e w' => e = .returned (.bool t) ∧ Below W.heap.size W w') := fun W h => by
    have := specSym_any n (some ⟨g, 0, none⟩) cg zs W h
    rw [HZ.out, HT.out] at this
    exact this
  have SMO : Hid (∀ W, IntsAt W (some ⟨g, 0, none⟩) zs → Calls Try.prog 13 #[.agg #[.int .i64 n, .slice (some ⟨g, 0, none⟩) zl cg]] W fun e w' => e = .returned (.bool (matB n zs)) ∧ Below W.heap.size W w') := fun W h => by
    have := specMat_any n (some ⟨g, 0, none⟩) cg zs W h
    rw [HZ.out] at this
    exact this
  go_wp2_with fail
  generalize w1.alloc (.cells #[.int .i64 n, .slice (some ⟨g, 0, none⟩) zl cg] 26) = W1 at *
  obtain ⟨k, HK⟩ : ∃ v, Hid (w1.heap.size = v) := ⟨_, rfl⟩
  rw [HK.out] at GX ⊢
  obtain ⟨c0, c1⟩ := cells2 GX.out
  first
    | (refine (ISY.out _ IX.out).mono ?_)
    | (go_wp2_with fail
       refine (ISY.out _ IX.out).mono ?_)
  rintro e w2 ⟨rfl, hb⟩
  have B2 : Hid (Below w.heap.size w w2) := BX.out.trans (hb.mono BX.out.size)
  have G2 : Hid (w2.heap[k]? = some (.cells #[.int .i64 n, .slice (some ⟨g, 0, none⟩) zl cg] 26 (0, 0))) := below_row hb (row_lt GX.out) GX.out
  have I2 : Hid (IntsAt w2 (some ⟨g, 0, none⟩) zs) := IX.out.below hb
  clear hb c0 c1 BX GX IX
  obtain ⟨c0, c1⟩ := cells2 G2.out
  go_wp2_with fail
  refine (SSY.out _ I2.out).mono ?_
  rintro e w3 ⟨rfl, hb⟩
  have B3 : Hid (Below w.heap.size w w3) := B2.out.trans (hb.mono B2.out.size)
  have G3 : Hid (w3.heap[k]? = some (.cells #[.int .i64 n, .slice (some ⟨g, 0, none⟩) zl cg] 26 (0, 0))) := below_row hb (row_lt G2.out) G2.out
  have I3 : Hid (IntsAt w3 (some ⟨g, 0, none⟩) zs) := I2.out.below hb
  clear hb c0 c1 B2 G2 I2
  obtain ⟨c0, c1⟩ := cells2 G3.out
  go_wp2_with fail
  refine (SMO.out _ I3.out).mono ?_
  rintro e w4 ⟨rfl, hb⟩
  have B4 : Hid (Below w.heap.size w w4) := B3.out.trans (hb.mono B3.out.size)
  have G4 : Hid (w4.heap[k]? = some (.cells #[.int .i64 n, .slice (some ⟨g, 0, none⟩) zl cg] 26 (0, 0))) := below_row hb (row_lt G3.out) G3.out
  have I4 : Hid (IntsAt w4 (some ⟨g, 0, none⟩) zs) := I3.out.below hb
  clear hb c0 c1 B3 G3 I3
  obtain ⟨c0, c1⟩ := cells2 G4.out
  cases hm : matB n zs
  · have HTF : Hid (t = false) := HT.out.symm.trans (symB_no hm)
    clear hm
    go_wp2_with fail
    refine (SSY.out _ I4.out).mono ?_
    rintro e w5 ⟨rfl, hb⟩
    have B5 : Hid (Below w.heap.size w w5) := B4.out.trans (hb.mono B4.out.size)
    clear hb
    have e1 := HTF.out
    subst e1
    go_wp2
    go_ret
    exact ⟨by first | rfl | simp, B5.out⟩
  · have HMT : Hid (matB n zs = true) := hm
    clear hm ISY SSY SMO
    have TIM : Hid (∀ (W : World) (x y : Nat), x < n → y < n → IntsAt W (some ⟨g, 0, none⟩) zs → Calls Try.prog 9 #[.agg #[.int .i64 n, .slice (some ⟨g, 0, none⟩) zl cg], .int .i64 x, .int .i64 y] W fun e w' => e = .returned (.int .i64 (tm n zs x y)) ∧ Below W.heap.size W w') := fun W x y hx hy h => by
      have := implTime_any n x y (some ⟨g, 0, none⟩) cg zs W h
      rw [HZ.out, timeV_tm HMT.out hx hy] at this
      exact this
    go_wp2_with fail
    clear c0 c1
    go_loopw [5, 6, 7] (fun al t _ wr => ∃ x : Nat, x ≤ n ∧ t = .int .i64 x ∧ al = .bool (evTo n zs x 0) ∧ Below w.heap.size w wr ∧ wr.heap[k]? = some (.cells #[.int .i64 n, .slice (some ⟨g, 0, none⟩) zl cg] 26 (0, 0)) ∧ IntsAt wr (some ⟨g, 0, none⟩) zs) (fun _ t _ _ => n - (intOf t).toNat)
    case atStart => exact ⟨0, Nat.zero_le _, rfl, by rw [evTo_zero], B4.out, G4.out, I4.out⟩
    case round =>
      clear B4 G4 I4
      obtain ⟨x, hx, rfl, rfl, hb, hg, hi⟩ := hrel
      have B4 : Hid (Below w.heap.size w wr) := hb
      have G4 : Hid (wr.heap[k]? = some (.cells #[.int .i64 n, .slice (some ⟨g, 0, none⟩) zl cg] 26 (0, 0))) := hg
      have I4 : Hid (IntsAt wr (some ⟨g, 0, none⟩) zs) := hi
      clear hb hg hi
      obtain ⟨c0, c1⟩ := cells2 G4.out
      by_cases hxn : x < n
      · go_wp2_with fail
        clear c0 c1
        go_loopw [5, 7] (fun al t wr => ∃ y : Nat, y ≤ n ∧ t = .int .i64 y ∧ al = .bool (evTo n zs x y) ∧ Below w.heap.size w wr ∧ wr.heap[k]? = some (.cells #[.int .i64 n, .slice (some ⟨g, 0, none⟩) zl cg] 26 (0, 0)) ∧ IntsAt wr (some ⟨g, 0, none⟩) zs) (fun _ t _ => n - (intOf t).toNat)
        case atStart => exact ⟨0, Nat.zero_le _, rfl, rfl, B4.out, G4.out, I4.out⟩
        case round =>
          clear B4 G4 I4
          obtain ⟨y, hy, rfl, rfl, hb, hg, hi⟩ := hrel
          have B4 : Hid (Below w.heap.size w wr) := hb
          have G4 : Hid (wr.heap[k]? = some (.cells #[.int .i64 n, .slice (some ⟨g, 0, none⟩) zl cg] 26 (0, 0))) := hg
          have I4 : Hid (IntsAt wr (some ⟨g, 0, none⟩) zs) := hi
          clear hb hg hi
          obtain ⟨c0, c1⟩ := cells2 G4.out
          by_cases hyn : y < n
          · have HST : Hid (evTo n zs x (y + 1) = (evTo n zs x y && decide (tm n zs x y = tm n zs y x))) := evTo_step hxn hyn
            obtain ⟨ev, HEV⟩ : ∃ v, Hid (evTo n zs x y = v) := ⟨_, rfl⟩
            rw [HEV.out] at HST ⊢
            have e0 := fun s : Kin wr => s.cell c0
            have e1 := fun s : Kin wr => s.cell c1
            have hkin := Kin.there wr
            have HC : ∀ (p q : Nat) (s : Kin wr), p < n → q < n → Calls Try.prog 9 #[.agg #[.int .i64 n, .slice (some ⟨g, 0, none⟩) zl cg], .int .i64 p, .int .i64 q] s.w fun e w' => e = .returned (.int .i64 (tm n zs p q)) ∧ Below s.w.heap.size s.w w' := fun p q s hp hq => TIM.out s.w p q hp hq (I4.out.below s.below)
            cases ev
            · go_wp2_with fail
              refine wp_region_kin (by kernel_rfl) (by kernel_rfl) ?_
              repeat (go_big_quiet_step (fail))
              refine wpQuiet_nil ?_
              rintro _ ⟨s, rfl⟩
              clear e0 e1 hkin HC c0 c1
              go_wp2
              refine ⟨⟨y + 1, by omega, by go_num, by rw [HST.out]; first | rfl | simp, B4.out.trans (s.below.mono B4.out.size), below_row s.below (row_lt G4.out) G4.out, I4.out.below s.below⟩, by simp [intOf]; omega⟩
            · by_cases htq : tm n zs x y = tm n zs y x
              · have hq : (tm n zs x y == tm n zs y x) = true := by simp [htq]
                have HTQ : Hid (decide (tm n zs x y = tm n zs y x) = true) := decide_eq_true htq
                clear htq
                go_wp2_with fail
                refine wp_region_kin (by kernel_rfl) (by kernel_rfl) ?_
                repeat (go_big_quiet_step ((go_at_call 9; exact Kin.call (HC _ _ _ (by omega) (by omega)))))
                refine wpQuiet_nil ?_
                rintro _ ⟨s, rfl⟩
                clear e0 e1 hkin HC c0 c1
                go_wp2
                refine ⟨⟨y + 1, by omega, by go_num, by rw [HST.out, HTQ.out]; first | rfl | simp, B4.out.trans (s.below.mono B4.out.size), below_row s.below (row_lt G4.out) G4.out, I4.out.below s.below⟩, by simp [intOf]; omega⟩
              · have hq : (tm n zs x y == tm n zs y x) = false := by simp [htq]
                have HTQ : Hid (decide (tm n zs x y = tm n zs y x) = false) := decide_eq_false htq
                clear htq
                go_wp2_with fail
                refine wp_region_kin (by kernel_rfl) (by kernel_rfl) ?_
                repeat (go_big_quiet_step ((go_at_call 9; exact Kin.call (HC _ _ _ (by omega) (by omega)))))
                refine wpQuiet_nil ?_
                rintro _ ⟨s, rfl⟩
                clear e0 e1 hkin HC c0 c1
                go_wp2
                refine ⟨⟨y + 1, by omega, by go_num, by rw [HST.out, HTQ.out]; first | rfl | simp, B4.out.trans (s.below.mono B4.out.size), below_row s.below (row_lt G4.out) G4.out, I4.out.below s.below⟩, by simp [intOf]; omega⟩
          · have hyn' : y = n := by omega
            have HRW : Hid (evTo n zs x y = evTo n zs (x + 1) 0) := by show _ = _; rw [hyn']; exact evTo_row
            clear hyn'
            rw [HRW.out]
            go_wp2
            refine ⟨⟨x + 1, by omega, by go_num, rfl, B4.out, G4.out, I4.out⟩, by simp [intOf]; omega⟩
      · have hxn' : x = n := by omega
        have HAL : Hid (evTo n zs x 0 = t) := by show _ = _; rw [hxn', evTo_all HMT.out]; exact HT.out
        clear hxn'
        rw [HAL.out]
        go_wp2
        go_ret
        exact ⟨by first | rfl | simp, B4.out⟩

theorem lawFnEven_all (a : Option Addr) (c : Nat) (bs : List Int) (w : World) (hA : CodeAt w a bs) (hl : bs.length ≤ 9223372036854775807) :
    Calls Try.prog 4 #[.slice a bs.length c] w fun e w' => e = .returned (.bool true) ∧ Below w.heap.size w w' := by
  by_cases h : bs.length ≤ 1048576
  · exact lawFnEven a c bs w hA h
  · exact lawFnEven_big a c _ w hl (by omega)

end Go.Proofs.Ytfemohckijfnlaa
