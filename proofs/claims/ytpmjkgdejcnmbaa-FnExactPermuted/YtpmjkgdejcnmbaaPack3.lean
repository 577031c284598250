import Derived.Test.YtpmjkgdejcnmbaaPack1
import Derived.Test.YtpmjkgdejcnmbaaPack2
import Derived.Deep.Cut
import Derived.Laws.EntriesVeiled
namespace Go.Proofs.Ytpmjkgdejcnmbaa
open Go.RowKit

theorem pad_nil : cellsOf (padL []) = #[.int .i64 0, .int .i64 0, .int .i64 0, .int .i64 0, .int .i64 0, .int .i64 0] := rfl

/-- The world inside rowsOf, ahead of its store. -/
def W3 (w : World) (c : Nat) : World := ((w.alloc (.cells #[.int .i64 c] 2)).alloc (.cells #[.slice none 0 0] 48)).alloc (.cells #[.nilFunc] 64)
theorem W3.rows (w : World) (c : Nat) : (W3 w c).heap[w.heap.size]? = some (.cells #[.int .i64 c] 2 (0, 0)) ∧ (W3 w c).heap[w.heap.size + 1]? = some (.cells #[.slice none 0 0] 48 (0, 0)) ∧ (W3 w c).heap[w.heap.size + 1 + 1]? = some (.cells #[.nilFunc] 64 (0, 0)) := by
  unfold W3
  refine ⟨?_, ?_, ?_⟩
  · rw [heap_alloc_old _ _ (by simp; omega)]
    exact heap_alloc2_old _ _ _
  · rw [heap_alloc_old _ _ (by simp)]
    exact heap_alloc2_new _ _ _
  · have := heap_alloc_new ((w.alloc (.cells #[.int .i64 c] 2)).alloc (.cells #[.slice none 0 0] 48)) (.cells #[.nilFunc] 64)
    simpa using this
theorem W3.below (w : World) (c : Nat) : Below w.heap.size w (W3 w c) := (((Below.refl _ _).alloc (Nat.le_refl _) _).alloc (by simp) _).alloc (by simp; omega) _
theorem GB.start (w : World) (c : Nat) : GB ((W3 w c).setCell ⟨w.heap.size + 1 + 1, 0, none⟩ (.func (.func 42) #[] #[.pointer (some ⟨w.heap.size, 0, none⟩), .pointer (some ⟨w.heap.size + 1, 0, none⟩), .pointer (some ⟨w.heap.size + 1 + 1, 0, none⟩)])) c w.heap.size (.slice none 0 0) [] := by
  obtain ⟨h1, h2, h3⟩ := W3.rows w c
  refine ⟨?_, ?_, ?_, World.ownsRow_nil _ _ _ _⟩
  · rw [heap_setCell_other _ _ _ _ (by simp; omega)]; exact h1
  · rw [heap_setCell_other _ _ _ _ (by simp)]; exact h2
  · show _ = _
    rw [show w.heap.size + 2 = w.heap.size + 1 + 1 from rfl, heap_setCell_same _ _ _ _ _ _ h3]; rfl

set_option maxHeartbeats 1000000 in
theorem rowsOf_any (c : Nat) (hc : c ≤ 6) (w : World) :
    Calls Try.prog 30 #[.int .i64 c] w fun e w' => ∃ sl, e = .returned sl ∧ Below w.heap.size w w' ∧ w'.ownsRow (w.heap.size + 3) 47 6 sl (facN c) ((flatR (gen c c [])).map (Value.int .i64)) := by
  have HC : Hid (∀ W, GB W c w.heap.size (.slice none 0 0) [] → Calls Try.prog 42 #[.agg #[.int .i64 0, .int .i64 0, .int .i64 0, .int .i64 0, .int .i64 0, .int .i64 0], .int .i64 0, .pointer (some ⟨w.heap.size, 0, none⟩), .pointer (some ⟨w.heap.size + 1, 0, none⟩), .pointer (some ⟨w.heap.size + 1 + 1, 0, none⟩)] W fun e w' => e = .returned (.tuple #[]) ∧ ∃ sl', GB w' c w.heap.size sl' (gen c c []) ∧ RF W w' w.heap.size (.slice none 0 0) sl') :=
    fun W h => grow_any c hc w.heap.size c [] (.slice none 0 0) [] W (by simp) (by rw [av_nil]; simp) (by have := facN_bd c hc; simpa using this) h
  have HS : Hid (GB ((W3 w c).setCell ⟨w.heap.size + 1 + 1, 0, none⟩ (.func (.func 42) #[] #[.pointer (some ⟨w.heap.size, 0, none⟩), .pointer (some ⟨w.heap.size + 1, 0, none⟩), .pointer (some ⟨w.heap.size + 1 + 1, 0, none⟩)])) c w.heap.size (.slice none 0 0) []) := GB.start w c
  have HB : Hid (Below w.heap.size w ((W3 w c).setCell ⟨w.heap.size + 1 + 1, 0, none⟩ (.func (.func 42) #[] #[.pointer (some ⟨w.heap.size, 0, none⟩), .pointer (some ⟨w.heap.size + 1, 0, none⟩), .pointer (some ⟨w.heap.size + 1 + 1, 0, none⟩)]))) := (W3.below w c).setCell (by simp; omega) _
  obtain ⟨x0, x1, x2⟩ := HS.out.cells
  have x2' : (((W3 w c).setCell ⟨w.heap.size + 1 + 1, 0, none⟩ (.func (.func 42) #[] #[.pointer (some ⟨w.heap.size, 0, none⟩), .pointer (some ⟨w.heap.size + 1, 0, none⟩), .pointer (some ⟨w.heap.size + 1 + 1, 0, none⟩)])).cell? ⟨w.heap.size + 1 + 1, 0, none⟩) = some (.func (.func 42) #[] #[.pointer (some ⟨w.heap.size, 0, none⟩), .pointer (some ⟨w.heap.size + 1, 0, none⟩), .pointer (some ⟨w.heap.size + 1 + 1, 0, none⟩)]) := x2
  have y1 := cell_of_row _ _ 0 _ _ _ (W3.rows w c).2.2
  have y2 := frozen_of_row _ _ 0 _ _ (W3.rows w c).2.2
  simp only [List.getElem?_toArray, List.getElem?_cons_zero] at y1
  clear x0 x1 x2
  have HW : Hid (W3 w c = ((w.alloc (.cells #[.int .i64 c] 2)).alloc (.cells #[.slice none 0 0] 48)).alloc (.cells #[.nilFunc] 64)) := rfl
  go_enter Try.func30, Try.ntmps30
  go_upto_region 3 with fail
  rw [← HW.out]
  clear HW
  generalize W3 w c = W0 at *
  go_wp2_with (
    go_at_call 42
    refine (HC.out _ HS.out).mono ?_
    rintro e w1 ⟨rfl, sl, hg, hr⟩
    have HG : Hid (GB w1 c w.heap.size sl (gen c c [])) := hg
    have HR : Hid (Below w.heap.size w w1) := HB.out.trans hr.1
    obtain ⟨_, d1, _⟩ := hg.cells
    clear hg hr)
  go_ret
  refine ⟨_, rfl, HR.out, ?_⟩
  have := HG.out.o
  rwa [gen_len] at this

end Go.Proofs.Ytpmjkgdejcnmbaa

namespace Go.Proofs.Ytpmjkgdejcnmbaa
open Go.RowKit

/-- 'make([]int64, 0, n)'. -/
theorem make_room (w : World) {ops : Array Oper} {rest : List Oper} {o : Oper} {a : Act} {Q : Exit → Act → World → Prop}
    (hg : o.guard = none) (l c : Operand) (hop : o.op = Op.makeSlice 24 l c) (base : Nat)
    (kl kc : IntKind) (C : Int) (n : Nat) (hl : a.eval l = .int kl 0) (hc : a.eval c = .int kc C) (hC : C = (n : Int)) (b2 : n ≤ 1048576) (b4 : base ≤ w.heap.size)
    (hK : ∀ w', w'.ownsRow base 2 1 (.slice (some ⟨w.heap.size, 0, none⟩) 0 n) 0 [] → w.grownBy w' none → wpList Try.prog ops Q rest (a.put o.dst (.slice (some ⟨w.heap.size, 0, none⟩) 0 n)) w') :
    wpList Try.prog ops Q (o :: rest) a w := by
  obtain ⟨i0, hi, hz0, hz1, hz2⟩ := info_parts Try.info2
  exact wpList_make_own w hg l c _ hop base _ i0 _ 1 Try.underlying24 hi hz0 hz1 kl kc C n hl hc hC (by rw [hz2]; omega) (by unfold maxLen; omega) b4 hK

/-- What stands at the places. -/
def ofL (pr : List Nat) (zs : List Int) : List Int := pr.map fun p => zs.getD p 0
theorem ofL_length (pr : List Nat) (zs : List Int) : (ofL pr zs).length = pr.length := by simp [ofL]
theorem ofL_step (pr : List Nat) (zs : List Int) (k : Nat) (h : k < pr.length) : ((ofL pr zs).take (k + 1)).map (Value.int .i64) = ((ofL pr zs).take k).map (Value.int .i64) ++ [.int .i64 (zs.getD (pr.getD k 0) 0)] := by
  rw [take_snoc _ _ (by rw [ofL_length]; exact h), List.map_append]
  simp [ofL, List.getD, h]

/-- The world inside of: the row's box, the answer that grows. -/
def OW (w W : World) (gr : Array Value) (sl : Value) (k : Nat) (xs : List Value) : Prop := Below w.heap.size w W ∧ W.heap[w.heap.size]? = some (.cells gr 47 (0, 0)) ∧ W.ownsRow (w.heap.size + 1) 2 1 sl k xs
theorem OW.b {w W : World} {gr : Array Value} {sl : Value} {k : Nat} {xs : List Value} (h : OW w W gr sl k xs) : Below w.heap.size w W := h.1
theorem OW.o {w W : World} {gr : Array Value} {sl : Value} {k : Nat} {xs : List Value} (h : OW w W gr sl k xs) : W.ownsRow (w.heap.size + 1) 2 1 sl k xs := h.2.2
theorem OW.r {w W : World} {gr : Array Value} {sl : Value} {k : Nat} {xs : List Value} (h : OW w W gr sl k xs) : W.heap[w.heap.size]? = some (.cells gr 47 (0, 0)) := h.2.1
theorem OW.size {w W : World} {gr : Array Value} {sl : Value} {k : Nat} {xs : List Value} (h : OW w W gr sl k xs) : w.heap.size + 1 ≤ W.heap.size := row_lt h.2.1
theorem OW.grown {w W W' : World} {gr : Array Value} {sl sl' : Value} {k k' : Nat} {xs xs' : List Value} {o : Obj} (h : OW w W gr sl k xs) (hg : (W.alloc o).grownBy W' sl.ownBlock) (ho : W'.ownsRow (w.heap.size + 1) 2 1 sl' k' xs') : OW w W' gr sl' k' xs' := by
  have hA : Below w.heap.size w (W.alloc o) := h.1.alloc h.1.size _
  have hr : (W.alloc o).heap[w.heap.size]? = some (.cells gr 47 (0, 0)) := (heap_alloc_old _ _ (row_lt h.2.1)).trans h.2.1
  refine ⟨hA.grown hg hA.size (fun k e => by have := (h.o.lt k e).1; omega), ?_, ho⟩
  exact (hg.block _ (row_lt hr) (fun e => by have := (h.o.lt _ e.symm).1; omega)).trans hr

set_option maxHeartbeats 1000000 in
theorem rowOf_any (b off cap : Nat) (pr : List Nat) (zs : List Int) (w : World) (hA : IntsAt w (some ⟨b, off, none⟩) zs) (hl : pr.length = zs.length) (h6 : zs.length ≤ 6) (hp : ∀ x ∈ pr, x < zs.length) :
    Calls Try.prog 31 #[.agg (cellsOf (padL pr)), .slice (some ⟨b, off, none⟩) zs.length cap] w fun e w' => ∃ sl, e = .returned sl ∧ Below w.heap.size w w' ∧ w'.ownsRow (w.heap.size + 1) 2 1 sl zs.length ((ofL pr zs).map (Value.int .i64)) := by
  have HA : Hid (IntsAt w (some ⟨b, off, none⟩) zs) := hA
  have HP : Hid (∀ x ∈ pr, x < zs.length) := hp
  have HL : Hid (pr.length = zs.length) := hl
  clear hA hp hl
  obtain ⟨n, HN⟩ : ∃ n, Hid (zs.length = n) := ⟨_, rfl⟩
  rw [HN.out] at h6 ⊢
  obtain ⟨gr, HGR⟩ : ∃ gr, Hid (cellsOf (padL pr) = gr) := ⟨_, rfl⟩
  rw [HGR.out]
  have hsl := fun W => slice_row W w.heap.size n h6
  have hn9 : n ≤ 9223372036854775807 := by omega
  go_enter Try.func31, Try.ntmps31
  go_wp2_with (
    refine make_room _ rfl _ _ rfl (w.heap.size + 1) _ _ (n : Int) n rfl rfl rfl (by omega) (by simp) ?_
    intro w1 hown hg
    have O1 : Hid (OW w w1 gr (.slice (some ⟨(w.alloc (Obj.cells gr 47)).heap.size, 0, none⟩) 0 n) 0 []) := ⟨((Below.refl w.heap.size w).alloc (Nat.le_refl _) _).grown hg (by simp) (fun k e => by cases e), (hg.block _ (by simp) (by simp)).trans (heap_alloc_new _ _), hown⟩
    clear hown hg)
  go_loopw [5, 15] (fun sl t wr => ∃ k : Nat, k ≤ n ∧ t = .int .i64 k ∧ OW w wr gr sl k (((ofL pr zs).take k).map (Value.int .i64))) (fun _ t _ => n - (intOf t).toNat)
  case atStart => exact ⟨0, Nat.zero_le _, rfl, by simpa using O1.out⟩
  case round =>
    clear O1
    obtain ⟨k, hk, rfl, ho⟩ := hrel
    by_cases hlt : k < n
    · have HO : Hid (OW w wr gr u5 k (((ofL pr zs).take k).map (Value.int .i64))) := ho
      clear ho
      have hpk : k < pr.length := by rw [HL.out, HN.out]; exact hlt
      have cp := cell_of_row _ _ k _ _ _ HO.out.r
      rw [← HGR.out, cellsOf_get _ _ (by rw [padL_length]; omega), padL_get pr k hpk (by omega)] at cp
      have hpl : pr.getD k 0 < n := by
        rw [← HN.out]
        apply HP.out
        rw [List.getD_eq_getElem?_getD, List.getElem?_eq_getElem hpk]
        exact List.getElem_mem hpk
      have HST : Hid (((ofL pr zs).take (k + 1)).map (Value.int .i64) = ((ofL pr zs).take k).map (Value.int .i64) ++ [.int .i64 (zs.getD (pr.getD k 0) 0)]) := ofL_step pr zs k hpk
      obtain ⟨p, HPk⟩ : ∃ p, Hid (pr.getD k 0 = p) := ⟨_, rfl⟩
      rw [HPk.out] at cp hpl HST
      have cz : wr.cell? ⟨b, off + p, none⟩ = some (.int .i64 (zs.getD p 0)) := by
        obtain ⟨_, _, e, h⟩ := HA.out.below HO.out.b p (by rw [HN.out]; exact hpl)
        simp at e
        obtain ⟨rfl, rfl⟩ := e
        exact h
      obtain ⟨v, HV⟩ : ∃ v, Hid (zs.getD p 0 = v) := ⟨_, rfl⟩
      rw [HV.out] at cz HST
      clear hpk
      go_wp2_with (
        at_builtin
        refine append_int _ rfl _ _ rfl (w.heap.size + 1) u5 k _ rfl (HO.out.o.alloc _) _ _ (.int .i64 v) rfl (cell_new1 _ _ _ _ (by simp)) rfl (by omega) (Nat.le_trans HO.out.size (by simp)) ?_
        intro v' w4 hown hg
        have O4 : Hid (OW w w4 gr v' (k + 1) (((ofL pr zs).take (k + 1)).map (Value.int .i64))) := HO.out.grown hg (by rw [HST.out]; exact hown)
        clear hown hg)
      go_roundw
      case rel => exact ⟨k + 1, by omega, by first | rfl | go_num, O4.out⟩
      case measure => simp [intOf]; omega
    · have hkn : k = n := by omega
      have HO : Hid (wr.ownsRow (w.heap.size + 1) 2 1 u5 n ((ofL pr zs).map (Value.int .i64))) := by
        have h := ho.o
        rw [hkn, List.take_of_length_le (by rw [ofL_length, HL.out, HN.out]; exact Nat.le_refl _)] at h
        exact h
      have HB : Hid (Below w.heap.size w wr) := ho.b
      clear ho hkn
      go_wp2
      go_ret
      exact ⟨_, rfl, HB.out, HO.out⟩

end Go.Proofs.Ytpmjkgdejcnmbaa

namespace Go.Proofs.Ytpmjkgdejcnmbaa
open Go.RowKit

theorem cells_lit (c0 c1 c2 c3 c4 c5 : Int) : cellsOf [c0, c1, c2, c3, c4, c5] = #[.int .i64 c0, .int .i64 c1, .int .i64 c2, .int .i64 c3, .int .i64 c4, .int .i64 c5] := rfl

/-- The row m of those that rowsOf tells, cell by cell. -/
theorem row_cells {w : World} {g c m : Nat} {c0 c1 c2 c3 c4 c5 : Int} (h : IntsAt w (some ⟨g, 0, none⟩) (flatR (gen c c []))) (hm : m < facN c) (hp : padL (rowN c m) = [c0, c1, c2, c3, c4, c5]) :
    w.cell? ⟨g, m * 6, none⟩ = some (.int .i64 c0) ∧ w.cell? ⟨g, m * 6 + 1, none⟩ = some (.int .i64 c1) ∧ w.cell? ⟨g, m * 6 + 2, none⟩ = some (.int .i64 c2) ∧ w.cell? ⟨g, m * 6 + 3, none⟩ = some (.int .i64 c3) ∧ w.cell? ⟨g, m * 6 + 4, none⟩ = some (.int .i64 c4) ∧ w.cell? ⟨g, m * 6 + 5, none⟩ = some (.int .i64 c5) := by
  have key : ∀ j, j < 6 → w.cell? ⟨g, m * 6 + j, none⟩ = some (.int .i64 ([c0, c1, c2, c3, c4, c5].getD j 0)) := by
    intro j hj
    obtain ⟨_, _, e, hc⟩ := h (m * 6 + j) (by rw [flatR_length, gen_len]; omega)
    simp at e
    obtain ⟨rfl, rfl⟩ := e
    rw [Nat.zero_add] at hc
    rw [hc, flatR_at (gen_at hm) hj, hp]
  exact ⟨key 0 (by omega), key 1 (by omega), key 2 (by omega), key 3 (by omega), key 4 (by omega), key 5 (by omega)⟩

set_option maxHeartbeats 1000000 in
theorem implPermuted_any (b off cap : Nat) (zs : List Int) (n : Int) (w : World) (hA : IntsAt w (some ⟨b, off, none⟩) zs) (hlen : zs.length ≤ 9223372036854775807) :
    Calls Try.prog 13 #[.slice (some ⟨b, off, none⟩) zs.length cap, .int .i64 n] w fun e w' => ∃ sl, e = .returned (.tuple #[sl, .bool (permT zs n)]) ∧ Below w.heap.size w w' ∧ w'.ownsRow w.heap.size 2 1 sl (permV zs n).length ((permV zs n).map (Value.int .i64)) := by
  have HA : Hid (IntsAt w (some ⟨b, off, none⟩) zs) := hA
  clear hA
  have hcb : -1 ≤ countV zs.length ∧ countV zs.length ≤ 720 := by
    by_cases h6 : zs.length ≤ 6
    · rw [countV_yes h6]
      have := fac_bd _ h6
      omega
    · rw [countV_no (inB_not (by omega))]; omega
  obtain ⟨cv, HCV⟩ : ∃ v, Hid (countV zs.length = v) := ⟨_, rfl⟩
  rw [HCV.out] at hcb
  cases hin : permT zs n
  · have HPV : Hid (permV zs n = []) := permV_no hin
    rw [HPV.out]
    have hin2 : inB n 0 (cv - 1) = false := by
      have := hin
      unfold permT at this
      rw [HCV.out] at this
      exact this
    clear hin
    go_enter Try.func13, Try.ntmps13
    go_wp2_with (first
      | (go_at_call 10; refine (implCount_any _ _).mono ?_; rintro e w' ⟨rfl, hw'⟩; subst w'; rw [HCV.out])
      | (go_at_call 29; refine (within_any _ _ _ _).mono ?_; rintro e w' ⟨rfl, hw'⟩; subst w'))
    refine bodyPost_ret (v := .tuple #[.slice none 0 0, .bool false]) (by simp [results, Try.results13, go_sem]) rfl ⟨_, rfl, Below.refl _ _, World.ownsRow_nil _ _ _ _⟩
  · have hin2 : inB n 0 (cv - 1) = true := by
      have := hin
      unfold permT at this
      rw [HCV.out] at this
      exact this
    obtain ⟨m, hnm, h6, hm, hpv⟩ := permT_nat hin
    subst hnm
    obtain ⟨c, HC⟩ : ∃ c, Hid (zs.length = c) := ⟨_, rfl⟩
    have HPV : Hid (permV zs m = ofL (rowN c m) zs) := by
      show _ = _
      rw [hpv, ← rowN_of, HC.out]; rfl
    have HRL : Hid ((rowN c m).length = c) := rowN_length (by rw [← HC.out]; exact hm)
    rw [HPV.out, ofL_length, HRL.out]
    rw [HC.out] at h6 hm hlen HCV ⊢
    have HM : Hid (m < facN c) := hm
    have HCT : Hid (∀ (W : World), Below w.heap.size w W → ∀ (c0 c1 c2 c3 c4 c5 : Int), padL (rowN c m) = [c0, c1, c2, c3, c4, c5] → Calls Try.prog 31 #[.agg #[.int .i64 c0, .int .i64 c1, .int .i64 c2, .int .i64 c3, .int .i64 c4, .int .i64 c5], .slice (some ⟨b, off, none⟩) c cap] W fun e w' => ∃ sl, e = .returned sl ∧ Below W.heap.size W w' ∧ w'.ownsRow (W.heap.size + 1) 2 1 sl c ((ofL (rowN c m) zs).map (Value.int .i64))) := by
      intro W hW c0 c1 c2 c3 c4 c5 hp
      have := rowOf_any b off cap (rowN c m) zs W (HA.out.below hW) (by rw [HRL.out, HC.out]) (by rw [HC.out]; exact h6) (fun x hx => by rw [HC.out]; exact rowN_lt hx)
      rw [hp, cells_lit, HC.out] at this
      exact this
    obtain ⟨c0, c1, c2, c3, c4, c5, hpl⟩ := list6 (padL_length (rowN c m))
    have HPL : Hid (padL (rowN c m) = [c0, c1, c2, c3, c4, c5]) := hpl
    have hfb := facN_bd c h6
    have hfp : m < facN c := hm
    obtain ⟨fc, HFC⟩ : ∃ f, Hid (facN c = f) := ⟨_, rfl⟩
    rw [HFC.out] at hfb hfp
    clear hpl hin hpv hm
    go_enter Try.func13, Try.ntmps13
    go_wp2_with (first
      | (go_at_call 10; refine (implCount_any _ _).mono ?_; rintro e w' ⟨rfl, hw'⟩; subst w'; rw [HCV.out])
      | (go_at_call 29; refine (within_any _ _ _ _).mono ?_; rintro e w' ⟨rfl, hw'⟩; subst w')
      | (go_at_call 30
         refine (rowsOf_any c h6 _).mono ?_
         rintro e w1 ⟨sl, rfl, hb, ho⟩
         rw [HFC.out] at ho
         obtain ⟨g, cg, rfl⟩ : ∃ g cg, sl = .slice (some ⟨g, 0, none⟩) fc cg := by
           rcases own_shape ho with e | e
           · obtain ⟨_, ⟨_, h3⟩ | ⟨g, cap, cur, h2, _⟩⟩ := ho
             · omega
             · exact ⟨g, cap, h2⟩
           · exact e
         obtain ⟨r0, r1, r2, r3, r4, r5⟩ := row_cells (owns_ints ho) HM.out HPL.out
         have B1 : Hid (Below w.heap.size w w1) := hb
         clear hb ho)
      | (go_at_call 31
         refine (HCT.out _ B1.out _ _ _ _ _ _ HPL.out).mono ?_
         rintro e w2 ⟨sl2, rfl, hb2, ho2⟩
         have B2 : Hid (Below w.heap.size w w2) := B1.out.trans (hb2.mono B1.out.size)
         have O2 : Hid (w2.ownsRow w.heap.size 2 1 sl2 c ((ofL (rowN c m) zs).map (Value.int .i64))) := owns_base ho2 (by have := B1.out.size; omega)
         clear hb2 ho2))
    refine bodyPost_ret (v := .tuple #[sl2, .bool true]) (by simp [results, Try.results13, go_sem]) rfl ⟨_, rfl, B2.out, O2.out⟩

end Go.Proofs.Ytpmjkgdejcnmbaa

namespace Go.Proofs.Ytpmjkgdejcnmbaa
open Go.RowKit

theorem permV_len (zs : List Int) (n : Int) : (permV zs n).length ≤ 6 := by
  cases h : permT zs n
  · rw [permV_no h]; simp
  · obtain ⟨m, _, h6, hm, e⟩ := permT_nat h
    rw [e, unr_length _ _ _ rfl hm]
    exact h6

set_option maxHeartbeats 400000 in
theorem lawPermuted_big (a : Option Addr) (len cap : Nat) (n : Int) (w : World) (hlen : len ≤ 9223372036854775807) (h : 1048576 < len) :
    Calls Try.prog 4 #[.slice a len cap, .int .i64 n] w fun e w' => e = .returned (.bool true) ∧ Below w.heap.size w w' := by
  go_enter Try.func4, Try.ntmps4
  go_wp2
  go_ret
  exact ⟨rfl, Below.refl _ _⟩

set_option maxHeartbeats 2000000 in
theorem lawPermuted (a : Option Addr) (cap : Nat) (zs : List Int) (n : Int) (w : World) (hA : IntsAt w a zs) (hs : zs.length ≤ 1048576) :
    Calls Try.prog 4 #[.slice a zs.length cap, .int .i64 n] w fun e w' => e = .returned (.bool true) ∧ Below w.heap.size w w' := by
  have HA : Hid (IntsAt w a zs) := hA
  clear hA
  have hp6 := permV_len zs n
  obtain ⟨p, HP⟩ : ∃ p, Hid (permV zs n = p) := ⟨_, rfl⟩
  obtain ⟨t, HT⟩ : ∃ p, Hid (permT zs n = p) := ⟨_, rfl⟩
  rw [HP.out] at hp6
  have htt : (t != t) = false := by simp
  go_enter Try.func4, Try.ntmps4
  -- the model
  go_wp2_with fail
  refine (toInts_any _ _ zs _ HA.out (by omega)).mono ?_
  rintro e v1 ⟨rfl, hb, -, hg⟩
  have B1 : Hid (Below w.heap.size w v1) := hb
  have F1 : Hid (IntsAt v1 (some ⟨w.heap.size, 0, none⟩) zs) := IntsAt.of_row hg
  clear hb hg
  go_wp2_with fail
  refine (specPermuted_any _ _ _ zs n _ F1.out (by omega)).mono ?_
  rintro e v2 ⟨wv, rfl, hb, ho⟩
  rw [HP.out] at ho
  obtain ⟨wa, wc, rfl, -, hi⟩ := owns_at1 ho
  have W2 : Hid (IntsAt v2 wa p) := hi
  have WB : Hid (∀ b, (Value.slice wa 0 0).ownBlock = some b → b < v2.heap.size) := fun b e => (ho.lt b (by rw [own_block_any wa _ _ 0 0]; exact e)).2
  have B2 : Hid (Below w.heap.size w v2) := B1.out.trans (hb.mono B1.out.size)
  rw [HT.out]
  clear hb ho hi B1 F1
  -- the program
  go_wp2_with fail
  refine (toInts_any _ _ zs _ (HA.out.below B2.out) (by omega)).mono ?_
  rintro e v3 ⟨rfl, hb, hz3, hg⟩
  have B3 : Hid (Below w.heap.size w v3) := B2.out.trans (hb.mono B2.out.size)
  have W3 : Hid (IntsAt v3 wa p) := W2.out.below hb
  have Z3 : Hid (v3.heap.size = v2.heap.size + 1) := hz3
  have X3 : Hid (v3.heap[v2.heap.size]? = some (.cells (cellsOf zs) 2 (0, 0))) := hg
  have L2 : Hid (w.heap.size ≤ v2.heap.size) := B2.out.size
  clear hb hg hz3 B2 W2
  go_wp2_with fail
  refine (implPermuted_any _ _ _ zs n _ (IntsAt.of_row X3.out) (by omega)).mono ?_
  rintro e v4 ⟨gv, rfl, hb, ho⟩
  rw [HP.out] at ho
  obtain ⟨ga, gc, rfl, -, hi⟩ := owns_at1 ho
  have O4 : Hid (v4.ownsRow v3.heap.size 2 1 (.slice ga p.length gc) p.length (p.map (Value.int .i64))) := ho
  have G4 : Hid (IntsAt v4 ga p) := hi
  have B4 : Hid (Below w.heap.size w v4) := B3.out.trans (hb.mono B3.out.size)
  have W4 : Hid (IntsAt v4 wa p) := W3.out.below hb
  have X4 : Hid (v4.heap[v2.heap.size]? = some (.cells (cellsOf zs) 2 (0, 0))) := below_row hb (row_lt X3.out) X3.out
  rw [HT.out]
  clear hb ho hi B3 W3 X3
  go_wp2_with fail
  refine (eqInts_any _ _ _ _ p p _ G4.out W4.out (by omega)).mono ?_
  rintro e v5 ⟨rfl, hb⟩
  rw [show decide (p = p) = true by simp]
  have O5 : Hid (v5.ownsRow v3.heap.size 2 1 (.slice ga p.length gc) p.length (p.map (Value.int .i64))) := owns_below O4.out hb
  have B5 : Hid (Below w.heap.size w v5) := B4.out.trans (hb.mono B4.out.size)
  have W5 : Hid (IntsAt v5 wa p) := W4.out.below hb
  have X5 : Hid (v5.heap[v2.heap.size]? = some (.cells (cellsOf zs) 2 (0, 0))) := below_row hb (row_lt X4.out) X4.out
  clear hb O4 G4 B4 W4 X4
  -- the argument
  go_wp2_with fail
  refine (toInts_any _ _ zs _ (HA.out.below B5.out) (by omega)).mono ?_
  rintro e v6 ⟨rfl, hb, -, hg⟩
  have O6 : Hid (v6.ownsRow v3.heap.size 2 1 (.slice ga p.length gc) p.length (p.map (Value.int .i64))) := owns_below O5.out hb
  have B6 : Hid (Below w.heap.size w v6) := B5.out.trans (hb.mono B5.out.size)
  have W6 : Hid (IntsAt v6 wa p) := W5.out.below hb
  have X6 : Hid (v6.heap[v2.heap.size]? = some (.cells (cellsOf zs) 2 (0, 0))) := below_row hb (row_lt X5.out) X5.out
  have Y6 : Hid (IntsAt v6 (some ⟨v5.heap.size, 0, none⟩) zs) := IntsAt.of_row hg
  clear hb hg O5 B5 W5 X5
  go_wp2_with fail
  refine (eqInts_any _ _ _ _ zs zs _ (IntsAt.of_row X6.out) Y6.out (by omega)).mono ?_
  rintro e v7 ⟨rfl, hb⟩
  rw [show decide (zs = zs) = true by simp]
  have O7 : Hid (v7.ownsRow v3.heap.size 2 1 (.slice ga p.length gc) p.length (p.map (Value.int .i64))) := owns_below O6.out hb
  have B7 : Hid (Below w.heap.size w v7) := B6.out.trans (hb.mono B6.out.size)
  have W7 : Hid (IntsAt v7 wa p) := W6.out.below hb
  have X7 : Hid (v7.heap[v2.heap.size]? = some (.cells (cellsOf zs) 2 (0, 0))) := below_row hb (row_lt X6.out) X6.out
  clear hb O6 B6 W6 X6 Y6
  -- its marks
  go_wp2_with fail
  refine (markInt64S_any v2.heap.size zs.length zs.length 1 (cellsOf zs) _ _ X7.out (by rw [cellsOf_size]; exact Nat.le_refl _) (by omega) (by omega) (by omega)).mono ?_
  rintro e v8 ⟨rfl, hg, -⟩
  have O8 : Hid (v8.ownsRow v3.heap.size 2 1 (.slice ga p.length gc) p.length (p.map (Value.int .i64))) := O7.out.kept hg (.inr fun e => by have := (O7.out.lt _ e).1; have := Z3.out; omega)
  have B8 : Hid (Below w.heap.size w v8) := B7.out.grown hg B7.out.size (fun k e => by injection e with e; have := L2.out; omega)
  have W8 : Hid (IntsAt v8 wa p) := ints_grown W7.out hg (fun b e e2 => by injection e2 with e2; have := WB.out b e; omega)
  clear hg O7 B7 W7 X7
  obtain ⟨km, HKM⟩ : ∃ q, Hid ((1 : Int) + ((zs.length : Nat) : Int) = q) := ⟨_, rfl⟩
  have hkm : 0 ≤ km := by have := HKM.out; omega
  rw [HKM.out]
  have G8 : Hid (IntsAt v8 ga p) := by
    obtain ⟨a', c', e, _, hi⟩ := owns_at1 O8.out
    have e2 : ga = a' := by injection e
    rw [e2]; exact hi
  go_wp2_with fail
  refine (eqInts_any _ _ _ _ p p _ G8.out W8.out (by omega)).mono ?_
  rintro e v9 ⟨rfl, hb⟩
  rw [show decide (p = p) = true by simp]
  have O9 : Hid (v9.ownsRow v3.heap.size 2 1 (.slice ga p.length gc) p.length (p.map (Value.int .i64))) := owns_below O8.out hb
  have B9 : Hid (Below w.heap.size w v9) := B8.out.trans (hb.mono B8.out.size)
  have W9 : Hid (IntsAt v9 wa p) := W8.out.below hb
  clear hb O8 B8 W8 G8
  -- the answer's marks
  go_wp2_with fail
  refine (markI_o ga p.length gc _ p _ O9.out (by omega)).mono ?_
  rintro e v10 ⟨rfl, hg, hm⟩
  have M10 : Hid (Marked1 v10 ga p.length) := hm
  have B10 : Hid (Below w.heap.size w v10) := B9.out.grown hg B9.out.size (fun k e => by have := (O9.out.lt _ e).1; have := Z3.out; have := L2.out; omega)
  have W10 : Hid (IntsAt v10 wa p) := ints_grown W9.out hg (fun b e e2 => by have := (O9.out.lt _ e2.symm).1; have := WB.out b e; have := Z3.out; omega)
  clear hg hm O9 B9 W9
  obtain ⟨gm, HGM⟩ : ∃ q, Hid ((1 : Int) + ((p.length : Nat) : Int) = q) := ⟨_, rfl⟩
  have hgm : 0 ≤ gm := by have := HGM.out; omega
  have hgg : (gm != gm) = false := by simp
  rw [HGM.out]
  go_wp2_with fail
  refine (heldI_u ga p.length gc _ M10.out (by omega)).mono ?_
  rintro e v11 ⟨rfl, hw11⟩
  subst v11
  rw [HGM.out]
  -- once more
  go_wp2_with fail
  refine (toInts_any _ _ zs _ (HA.out.below B10.out) (by omega)).mono ?_
  rintro e v12 ⟨rfl, hb, -, hg⟩
  have B12 : Hid (Below w.heap.size w v12) := B10.out.trans (hb.mono B10.out.size)
  have W12 : Hid (IntsAt v12 wa p) := W10.out.below hb
  have M12 : Hid (Marked1 v12 ga p.length) := M10.out.below hb
  have Y12 : Hid (IntsAt v12 (some ⟨v10.heap.size, 0, none⟩) zs) := IntsAt.of_row hg
  clear hb hg M10 B10 W10
  go_wp2_with fail
  refine (implPermuted_any _ _ _ zs n _ Y12.out (by omega)).mono ?_
  rintro e v13 ⟨hv, rfl, hb, ho⟩
  rw [HP.out] at ho
  obtain ⟨ha, hc, rfl, -, hi⟩ := owns_at1 ho
  have H13 : Hid (IntsAt v13 ha p) := hi
  have B13 : Hid (Below w.heap.size w v13) := B12.out.trans (hb.mono B12.out.size)
  have W13 : Hid (IntsAt v13 wa p) := W12.out.below hb
  have M13 : Hid (Marked1 v13 ga p.length) := M12.out.below hb
  rw [HT.out]
  clear hb ho hi B12 W12 M12 Y12
  go_wp2_with fail
  refine (eqInts_any _ _ _ _ p p _ H13.out W13.out (by omega)).mono ?_
  rintro e v14 ⟨rfl, hb⟩
  rw [show decide (p = p) = true by simp]
  have B14 : Hid (Below w.heap.size w v14) := B13.out.trans (hb.mono B13.out.size)
  have M14 : Hid (Marked1 v14 ga p.length) := M13.out.below hb
  clear hb B13 W13 M13 H13
  go_wp2_with fail
  refine (heldI_u ga p.length gc _ M14.out (by omega)).mono ?_
  rintro e v15 ⟨rfl, hw15⟩
  subst v15
  rw [HGM.out]
  go_wp2
  go_ret
  exact ⟨rfl, B14.out⟩

theorem lawPermuted_all (a : Option Addr) (cap : Nat) (zs : List Int) (n : Int) (w : World) (hA : IntsAt w a zs) (hlen : zs.length ≤ 9223372036854775807) :
    Calls Try.prog 4 #[.slice a zs.length cap, .int .i64 n] w fun e w' => e = .returned (.bool true) ∧ Below w.heap.size w w' := by
  by_cases h : zs.length ≤ 1048576
  · exact lawPermuted a cap zs n w hA h
  · exact lawPermuted_big a _ cap n w hlen (by omega)

end Go.Proofs.Ytpmjkgdejcnmbaa
