import Derived.Test.YtaehhlkpbhmdfaaPack3
import Derived.Test.YtaehhlkpbhmdfaaPack7
import Derived.Test.YtaehhlkpbhmdfaaPack8
import Derived.Deep.Cut
import Derived.Laws.EntriesVeiled
namespace Go.Proofs.Ytaehhlkpbhmdfaa
open Go.RowKit

theorem pad_nil : cellsOf (padL []) = #[.int .i64 0, .int .i64 0, .int .i64 0, .int .i64 0, .int .i64 0, .int .i64 0] := rfl

/-- The world inside rowsOf, ahead of its store. -/
def W3 (w : World) (c : Nat) : World := ((w.alloc (.cells #[.int .i64 c] 2)).alloc (.cells #[.slice none 0 0] 77)).alloc (.cells #[.nilFunc] 89)
theorem W3.rows (w : World) (c : Nat) : (W3 w c).heap[w.heap.size]? = some (.cells #[.int .i64 c] 2 (0, 0)) ∧ (W3 w c).heap[w.heap.size + 1]? = some (.cells #[.slice none 0 0] 77 (0, 0)) ∧ (W3 w c).heap[w.heap.size + 1 + 1]? = some (.cells #[.nilFunc] 89 (0, 0)) := by
  unfold W3
  refine ⟨?_, ?_, ?_⟩
  · rw [heap_alloc_old _ _ (by simp; omega)]
    exact heap_alloc2_old _ _ _
  · rw [heap_alloc_old _ _ (by simp)]
    exact heap_alloc2_new _ _ _
  · have := heap_alloc_new ((w.alloc (.cells #[.int .i64 c] 2)).alloc (.cells #[.slice none 0 0] 77)) (.cells #[.nilFunc] 89)
    simpa using this
theorem W3.below (w : World) (c : Nat) : Below w.heap.size w (W3 w c) := (((Below.refl _ _).alloc (Nat.le_refl _) _).alloc (by simp) _).alloc (by simp; omega) _
theorem GB.start (w : World) (c : Nat) : GB ((W3 w c).setCell ⟨w.heap.size + 1 + 1, 0, none⟩ (.func (.func 51) #[] #[.pointer (some ⟨w.heap.size, 0, none⟩), .pointer (some ⟨w.heap.size + 1, 0, none⟩), .pointer (some ⟨w.heap.size + 1 + 1, 0, none⟩)])) c w.heap.size (.slice none 0 0) [] := by
  obtain ⟨h1, h2, h3⟩ := W3.rows w c
  refine ⟨?_, ?_, ?_, World.ownsRow_nil _ _ _ _⟩
  · rw [heap_setCell_other _ _ _ _ (by simp; omega)]; exact h1
  · rw [heap_setCell_other _ _ _ _ (by simp)]; exact h2
  · show _ = _
    rw [show w.heap.size + 2 = w.heap.size + 1 + 1 from rfl, heap_setCell_same _ _ _ _ _ _ h3]; rfl

set_option maxHeartbeats 1000000 in
theorem rowsOf_any (c : Nat) (hc : c ≤ 6) (w : World) :
    Calls Try.prog 42 #[.int .i64 c] w fun e w' => ∃ sl, e = .returned sl ∧ Below w.heap.size w w' ∧ w'.ownsRow (w.heap.size + 3) 76 6 sl (facN c) ((flatR (gen c c [])).map (Value.int .i64)) := by
  have HC : Hid (∀ W, GB W c w.heap.size (.slice none 0 0) [] → Calls Try.prog 51 #[.agg #[.int .i64 0, .int .i64 0, .int .i64 0, .int .i64 0, .int .i64 0, .int .i64 0], .int .i64 0, .pointer (some ⟨w.heap.size, 0, none⟩), .pointer (some ⟨w.heap.size + 1, 0, none⟩), .pointer (some ⟨w.heap.size + 1 + 1, 0, none⟩)] W fun e w' => e = .returned (.tuple #[]) ∧ ∃ sl', GB w' c w.heap.size sl' (gen c c []) ∧ RF W w' w.heap.size (.slice none 0 0) sl') :=
    fun W h => grow_any c hc w.heap.size c [] (.slice none 0 0) [] W (by simp) (by rw [av_nil]; simp) (by have := facN_bd c hc; simpa using this) h
  have HS : Hid (GB ((W3 w c).setCell ⟨w.heap.size + 1 + 1, 0, none⟩ (.func (.func 51) #[] #[.pointer (some ⟨w.heap.size, 0, none⟩), .pointer (some ⟨w.heap.size + 1, 0, none⟩), .pointer (some ⟨w.heap.size + 1 + 1, 0, none⟩)])) c w.heap.size (.slice none 0 0) []) := GB.start w c
  have HB : Hid (Below w.heap.size w ((W3 w c).setCell ⟨w.heap.size + 1 + 1, 0, none⟩ (.func (.func 51) #[] #[.pointer (some ⟨w.heap.size, 0, none⟩), .pointer (some ⟨w.heap.size + 1, 0, none⟩), .pointer (some ⟨w.heap.size + 1 + 1, 0, none⟩)]))) := (W3.below w c).setCell (by simp; omega) _
  obtain ⟨x0, x1, x2⟩ := HS.out.cells
  have x2' : (((W3 w c).setCell ⟨w.heap.size + 1 + 1, 0, none⟩ (.func (.func 51) #[] #[.pointer (some ⟨w.heap.size, 0, none⟩), .pointer (some ⟨w.heap.size + 1, 0, none⟩), .pointer (some ⟨w.heap.size + 1 + 1, 0, none⟩)])).cell? ⟨w.heap.size + 1 + 1, 0, none⟩) = some (.func (.func 51) #[] #[.pointer (some ⟨w.heap.size, 0, none⟩), .pointer (some ⟨w.heap.size + 1, 0, none⟩), .pointer (some ⟨w.heap.size + 1 + 1, 0, none⟩)]) := x2
  have y1 := cell_of_row _ _ 0 _ _ _ (W3.rows w c).2.2
  have y2 := frozen_of_row _ _ 0 _ _ (W3.rows w c).2.2
  simp only [List.getElem?_toArray, List.getElem?_cons_zero] at y1
  clear x0 x1 x2
  have HW : Hid (W3 w c = ((w.alloc (.cells #[.int .i64 c] 2)).alloc (.cells #[.slice none 0 0] 77)).alloc (.cells #[.nilFunc] 89)) := rfl
  go_enter Try.func42, Try.ntmps42
  go_upto_region 3 with fail
  rw [← HW.out]
  clear HW
  generalize W3 w c = W0 at *
  go_wp2_with (
    go_at_call 51
    refine (HC.out _ HS.out).mono ?_
    rintro e w1 ⟨rfl, sl, hg, hr⟩
    have HG : Hid (GB w1 c w.heap.size sl (gen c c [])) := hg
    have HR : Hid (Below w.heap.size w w1) := HB.out.trans hr.1
    obtain ⟨_, d1, _⟩ := hg.cells
    clear hg hr)
  go_ret
  refine ⟨_, rfl, HR.out, ?_⟩
  have := HG.out.o
  rwa [gen_len] at this

theorem cells_lit (c0 c1 c2 c3 c4 c5 : Int) : cellsOf [c0, c1, c2, c3, c4, c5] = #[.int .i64 c0, .int .i64 c1, .int .i64 c2, .int .i64 c3, .int .i64 c4, .int .i64 c5] := rfl

/-- The row m of those that rowsOf tells, cell by cell. -/
theorem row_cells {w : World} {g c m : Nat} {c0 c1 c2 c3 c4 c5 : Int} (h : IntsAt w (some ⟨g, 0, none⟩) (flatR (gen c c []))) (hm : m < facN c) (hp : padL (rowN c m) = [c0, c1, c2, c3, c4, c5]) :
    w.cell? ⟨g, m * 6, none⟩ = some (.int .i64 c0) ∧ w.cell? ⟨g, m * 6 + 1, none⟩ = some (.int .i64 c1) ∧ w.cell? ⟨g, m * 6 + 2, none⟩ = some (.int .i64 c2) ∧ w.cell? ⟨g, m * 6 + 3, none⟩ = some (.int .i64 c3) ∧ w.cell? ⟨g, m * 6 + 4, none⟩ = some (.int .i64 c4) ∧ w.cell? ⟨g, m * 6 + 5, none⟩ = some (.int .i64 c5) := by
  have key : ∀ j, j < 6 → w.cell? ⟨g, m * 6 + j, none⟩ = some (.int .i64 ([c0, c1, c2, c3, c4, c5].getD j 0)) := by
    intro j hj
    obtain ⟨_, _, e, hc⟩ := h (m * 6 + j) (by rw [flatR_length, gen_len]; omega)
    simp at e
    obtain ⟨rfl, rfl⟩ := e
    rw [Nat.zero_add] at hc
    rw [hc, flatR_at (gen_at hm) hj, hp]
  exact ⟨key 0 (by omega), key 1 (by omega), key 2 (by omega), key 3 (by omega), key 4 (by omega), key 5 (by omega)⟩

end Go.Proofs.Ytaehhlkpbhmdfaa

namespace Go.Proofs.Ytaehhlkpbhmdfaa
open Go.RowKit

/-- What stands at the places. -/
def ofL (pr : List Nat) (zs : List Int) : List Int := pr.map fun p => zs.getD p 0
theorem ofL_length (pr : List Nat) (zs : List Int) : (ofL pr zs).length = pr.length := by simp [ofL]
theorem ofL_step (pr : List Nat) (zs : List Int) (k : Nat) (h : k < pr.length) : ((ofL pr zs).take (k + 1)).map (Value.int .i64) = ((ofL pr zs).take k).map (Value.int .i64) ++ [.int .i64 (zs.getD (pr.getD k 0) 0)] := by
  rw [take_snoc _ _ (by rw [ofL_length]; exact h), List.map_append]
  simp [ofL, List.getD, h]

/-- The world inside of: the row's box, the answer that grows. -/
def OW (w W : World) (gr : Array Value) (sl : Value) (k : Nat) (xs : List Value) : Prop := Below w.heap.size w W ∧ W.heap[w.heap.size]? = some (.cells gr 76 (0, 0)) ∧ W.ownsRow (w.heap.size + 1) 2 1 sl k xs
theorem OW.b {w W : World} {gr : Array Value} {sl : Value} {k : Nat} {xs : List Value} (h : OW w W gr sl k xs) : Below w.heap.size w W := h.1
theorem OW.o {w W : World} {gr : Array Value} {sl : Value} {k : Nat} {xs : List Value} (h : OW w W gr sl k xs) : W.ownsRow (w.heap.size + 1) 2 1 sl k xs := h.2.2
theorem OW.r {w W : World} {gr : Array Value} {sl : Value} {k : Nat} {xs : List Value} (h : OW w W gr sl k xs) : W.heap[w.heap.size]? = some (.cells gr 76 (0, 0)) := h.2.1
theorem OW.size {w W : World} {gr : Array Value} {sl : Value} {k : Nat} {xs : List Value} (h : OW w W gr sl k xs) : w.heap.size + 1 ≤ W.heap.size := row_lt h.2.1
theorem OW.grown {w W W' : World} {gr : Array Value} {sl sl' : Value} {k k' : Nat} {xs xs' : List Value} {o : Obj} (h : OW w W gr sl k xs) (hg : (W.alloc o).grownBy W' sl.ownBlock) (ho : W'.ownsRow (w.heap.size + 1) 2 1 sl' k' xs') : OW w W' gr sl' k' xs' := by
  have hA : Below w.heap.size w (W.alloc o) := h.1.alloc h.1.size _
  have hr : (W.alloc o).heap[w.heap.size]? = some (.cells gr 76 (0, 0)) := (heap_alloc_old _ _ (row_lt h.2.1)).trans h.2.1
  refine ⟨hA.grown hg hA.size (fun k e => by have := (h.o.lt k e).1; omega), ?_, ho⟩
  exact (hg.block _ (row_lt hr) (fun e => by have := (h.o.lt _ e.symm).1; omega)).trans hr

set_option maxHeartbeats 1000000 in
theorem rowOf_opt (bi : Option Addr) (cap : Nat) (pr : List Nat) (zs : List Int) (w : World) (hA : IntsAt w bi zs) (hl : pr.length = zs.length) (h6 : zs.length ≤ 6) (hp : ∀ x ∈ pr, x < zs.length) :
    Calls Try.prog 43 #[.agg (cellsOf (padL pr)), .slice bi zs.length cap] w fun e w' => ∃ sl, e = .returned sl ∧ Below w.heap.size w w' ∧ w'.ownsRow (w.heap.size + 1) 2 1 sl zs.length ((ofL pr zs).map (Value.int .i64)) := by
  have HA : Hid (IntsAt w bi zs) := hA
  have HP : Hid (∀ x ∈ pr, x < zs.length) := hp
  have HL : Hid (pr.length = zs.length) := hl
  clear hA hp hl
  obtain ⟨n, HN⟩ : ∃ n, Hid (zs.length = n) := ⟨_, rfl⟩
  rw [HN.out] at h6 ⊢
  obtain ⟨gr, HGR⟩ : ∃ gr, Hid (cellsOf (padL pr) = gr) := ⟨_, rfl⟩
  rw [HGR.out]
  have hsl := fun W => slice_row W w.heap.size n h6
  have hn9 : n ≤ 9223372036854775807 := by omega
  go_enter Try.func43, Try.ntmps43
  go_wp2_with (
    refine make_room _ rfl _ _ rfl (w.heap.size + 1) _ _ (n : Int) n rfl rfl rfl (by omega) (by simp) ?_
    intro w1 hown hg
    have O1 : Hid (OW w w1 gr (.slice (some ⟨(w.alloc (Obj.cells gr 76)).heap.size, 0, none⟩) 0 n) 0 []) := ⟨((Below.refl w.heap.size w).alloc (Nat.le_refl _) _).grown hg (by simp) (fun k e => by cases e), (hg.block _ (by simp) (by simp)).trans (heap_alloc_new _ _), hown⟩
    clear hown hg)
  go_loopw [5, 15] (fun sl t wr => ∃ k : Nat, k ≤ n ∧ t = .int .i64 k ∧ OW w wr gr sl k (((ofL pr zs).take k).map (Value.int .i64))) (fun _ t _ => n - (intOf t).toNat)
  case atStart => exact ⟨0, Nat.zero_le _, rfl, by simpa using O1.out⟩
  case round =>
    clear O1
    obtain ⟨k, hk, rfl, ho⟩ := hrel
    by_cases hlt : k < n
    · have HO : Hid (OW w wr gr u5 k (((ofL pr zs).take k).map (Value.int .i64))) := ho
      clear ho
      have hpk : k < pr.length := by rw [HL.out, HN.out]; exact hlt
      have cp := cell_of_row _ _ k _ _ _ HO.out.r
      rw [← HGR.out, cellsOf_get _ _ (by rw [padL_length]; omega), padL_get pr k hpk (by omega)] at cp
      have hpl : pr.getD k 0 < n := by
        rw [← HN.out]
        apply HP.out
        rw [List.getD_eq_getElem?_getD, List.getElem?_eq_getElem hpk]
        exact List.getElem_mem hpk
      have HST : Hid (((ofL pr zs).take (k + 1)).map (Value.int .i64) = ((ofL pr zs).take k).map (Value.int .i64) ++ [.int .i64 (zs.getD (pr.getD k 0) 0)]) := ofL_step pr zs k hpk
      obtain ⟨p, HPk⟩ : ∃ p, Hid (pr.getD k 0 = p) := ⟨_, rfl⟩
      rw [HPk.out] at cp hpl HST
      obtain ⟨b, off, e, cz⟩ := HA.out.below HO.out.b p (by rw [HN.out]; exact hpl)
      subst e
      obtain ⟨v, HV⟩ : ∃ v, Hid (zs.getD p 0 = v) := ⟨_, rfl⟩
      rw [HV.out] at cz HST
      clear hpk
      go_wp2_with (
        at_builtin
        refine append_int _ rfl _ _ rfl (w.heap.size + 1) u5 k _ rfl (HO.out.o.alloc _) _ _ (.int .i64 v) rfl (cell_new1 _ _ _ _ (by simp)) rfl (by omega) (Nat.le_trans HO.out.size (by simp)) ?_
        intro v' w4 hown hg
        have O4 : Hid (OW w w4 gr v' (k + 1) (((ofL pr zs).take (k + 1)).map (Value.int .i64))) := HO.out.grown hg (by rw [HST.out]; exact hown)
        clear hown hg)
      go_roundw
      case rel => exact ⟨k + 1, by omega, by first | rfl | go_num, O4.out⟩
      case measure => simp [intOf]; omega
    · have hkn : k = n := by omega
      have HO : Hid (wr.ownsRow (w.heap.size + 1) 2 1 u5 n ((ofL pr zs).map (Value.int .i64))) := by
        have h := ho.o
        rw [hkn, List.take_of_length_le (by rw [ofL_length, HL.out, HN.out]; exact Nat.le_refl _)] at h
        exact h
      have HB : Hid (Below w.heap.size w wr) := ho.b
      clear ho hkn
      go_wp2
      go_ret
      exact ⟨_, rfl, HB.out, HO.out⟩

theorem rowOf_any (b off cap : Nat) (pr : List Nat) (zs : List Int) (w : World) (hA : IntsAt w (some ⟨b, off, none⟩) zs) (hl : pr.length = zs.length) (h6 : zs.length ≤ 6) (hp : ∀ x ∈ pr, x < zs.length) :
    Calls Try.prog 43 #[.agg (cellsOf (padL pr)), .slice (some ⟨b, off, none⟩) zs.length cap] w fun e w' => ∃ sl, e = .returned sl ∧ Below w.heap.size w w' ∧ w'.ownsRow (w.heap.size + 1) 2 1 sl zs.length ((ofL pr zs).map (Value.int .i64)) := rowOf_opt _ cap pr zs w hA hl h6 hp

end Go.Proofs.Ytaehhlkpbhmdfaa

namespace Go.Proofs.Ytaehhlkpbhmdfaa
open Go.RowKit

set_option maxHeartbeats 1000000 in
theorem implPermuted_opt (bi : Option Addr) (cap : Nat) (zs : List Int) (n : Int) (w : World) (hA : IntsAt w bi zs) (hlen : zs.length ≤ 9223372036854775807) :
    Calls Try.prog 17 #[.slice bi zs.length cap, .int .i64 n] w fun e w' => ∃ sl, e = .returned (.tuple #[sl, .bool (permT zs n)]) ∧ Below w.heap.size w w' ∧ w'.ownsRow w.heap.size 2 1 sl (permV zs n).length ((permV zs n).map (Value.int .i64)) := by
  have HA : Hid (IntsAt w bi zs) := hA
  clear hA
  have hcb : -1 ≤ countV zs.length ∧ countV zs.length ≤ 720 := by
    by_cases h6 : zs.length ≤ 6
    · rw [countV_yes h6]
      have := fac_bd _ h6
      omega
    · rw [countV_no (inB_not (by omega))]; omega
  obtain ⟨cv, HCV⟩ : ∃ v, Hid (countV zs.length = v) := ⟨_, rfl⟩
  rw [HCV.out] at hcb
  cases hin : permT zs n
  · have HPV : Hid (permV zs n = []) := permV_no hin
    rw [HPV.out]
    have hin2 : inB n 0 (cv - 1) = false := by
      have := hin
      unfold permT at this
      rw [HCV.out] at this
      exact this
    clear hin
    go_enter Try.func17, Try.ntmps17
    go_wp2_with (first
      | (go_at_call 41; refine (implCount_any _ _).mono ?_; rintro e w' ⟨rfl, hw'⟩; subst w'; rw [HCV.out])
      | (go_at_call 38; refine (within_any _ _ _ _).mono ?_; rintro e w' ⟨rfl, hw'⟩; subst w'))
    refine bodyPost_ret (v := .tuple #[.slice none 0 0, .bool false]) (by simp [results, Try.results17, go_sem]) rfl ⟨_, rfl, Below.refl _ _, World.ownsRow_nil _ _ _ _⟩
  · have hin2 : inB n 0 (cv - 1) = true := by
      have := hin
      unfold permT at this
      rw [HCV.out] at this
      exact this
    obtain ⟨m, hnm, h6, hm, hpv⟩ := permT_nat hin
    subst hnm
    obtain ⟨c, HC⟩ : ∃ c, Hid (zs.length = c) := ⟨_, rfl⟩
    have HPV : Hid (permV zs m = ofL (rowN c m) zs) := by
      show _ = _
      rw [hpv, ← rowN_of, HC.out]; rfl
    have HRL : Hid ((rowN c m).length = c) := rowN_length (by rw [← HC.out]; exact hm)
    rw [HPV.out, ofL_length, HRL.out]
    rw [HC.out] at h6 hm hlen HCV ⊢
    have HM : Hid (m < facN c) := hm
    have HCT : Hid (∀ (W : World), Below w.heap.size w W → ∀ (c0 c1 c2 c3 c4 c5 : Int), padL (rowN c m) = [c0, c1, c2, c3, c4, c5] → Calls Try.prog 43 #[.agg #[.int .i64 c0, .int .i64 c1, .int .i64 c2, .int .i64 c3, .int .i64 c4, .int .i64 c5], .slice bi c cap] W fun e w' => ∃ sl, e = .returned sl ∧ Below W.heap.size W w' ∧ w'.ownsRow (W.heap.size + 1) 2 1 sl c ((ofL (rowN c m) zs).map (Value.int .i64))) := by
      intro W hW c0 c1 c2 c3 c4 c5 hp
      have := rowOf_opt bi cap (rowN c m) zs W (HA.out.below hW) (by rw [HRL.out, HC.out]) (by rw [HC.out]; exact h6) (fun x hx => by rw [HC.out]; exact rowN_lt hx)
      rw [hp, cells_lit, HC.out] at this
      exact this
    obtain ⟨c0, c1, c2, c3, c4, c5, hpl⟩ := list6 (padL_length (rowN c m))
    have HPL : Hid (padL (rowN c m) = [c0, c1, c2, c3, c4, c5]) := hpl
    have hfb := facN_bd c h6
    have hfp : m < facN c := hm
    obtain ⟨fc, HFC⟩ : ∃ f, Hid (facN c = f) := ⟨_, rfl⟩
    rw [HFC.out] at hfb hfp
    clear hpl hin hpv hm
    go_enter Try.func17, Try.ntmps17
    go_wp2_with (first
      | (go_at_call 41; refine (implCount_any _ _).mono ?_; rintro e w' ⟨rfl, hw'⟩; subst w'; rw [HCV.out])
      | (go_at_call 38; refine (within_any _ _ _ _).mono ?_; rintro e w' ⟨rfl, hw'⟩; subst w')
      | (go_at_call 42
         refine (rowsOf_any c h6 _).mono ?_
         rintro e w1 ⟨sl, rfl, hb, ho⟩
         rw [HFC.out] at ho
         obtain ⟨g, cg, rfl⟩ : ∃ g cg, sl = .slice (some ⟨g, 0, none⟩) fc cg := by
           rcases own_shape ho with e | e
           · obtain ⟨_, ⟨_, h3⟩ | ⟨g, cap, cur, h2, _⟩⟩ := ho
             · omega
             · exact ⟨g, cap, h2⟩
           · exact e
         obtain ⟨r0, r1, r2, r3, r4, r5⟩ := row_cells (owns_ints ho) HM.out HPL.out
         have B1 : Hid (Below w.heap.size w w1) := hb
         clear hb ho)
      | (go_at_call 43
         refine (HCT.out _ B1.out _ _ _ _ _ _ HPL.out).mono ?_
         rintro e w2 ⟨sl2, rfl, hb2, ho2⟩
         have B2 : Hid (Below w.heap.size w w2) := B1.out.trans (hb2.mono B1.out.size)
         have O2 : Hid (w2.ownsRow w.heap.size 2 1 sl2 c ((ofL (rowN c m) zs).map (Value.int .i64))) := owns_base ho2 (by have := B1.out.size; omega)
         clear hb2 ho2))
    refine bodyPost_ret (v := .tuple #[sl2, .bool true]) (by simp [results, Try.results17, go_sem]) rfl ⟨_, rfl, B2.out, O2.out⟩

theorem implPermuted_any (b off cap : Nat) (zs : List Int) (n : Int) (w : World) (hA : IntsAt w (some ⟨b, off, none⟩) zs) (hlen : zs.length ≤ 9223372036854775807) :
    Calls Try.prog 17 #[.slice (some ⟨b, off, none⟩) zs.length cap, .int .i64 n] w fun e w' => ∃ sl, e = .returned (.tuple #[sl, .bool (permT zs n)]) ∧ Below w.heap.size w w' ∧ w'.ownsRow w.heap.size 2 1 sl (permV zs n).length ((permV zs n).map (Value.int .i64)) := implPermuted_opt _ cap zs n w hA hlen

end Go.Proofs.Ytaehhlkpbhmdfaa
