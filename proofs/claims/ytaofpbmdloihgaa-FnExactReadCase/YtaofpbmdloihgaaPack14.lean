import Derived.Test.YtaofpbmdloihgaaPack6
import Derived.Test.YtaofpbmdloihgaaPack9
import Derived.Test.YtaofpbmdloihgaaReadIsC
import Derived.Test.YtaofpbmdloihgaaPack12
import Derived.Test.YtaofpbmdloihgaaSeqRow
namespace Go.Proofs.Ytaofpbmdloihgaa
open Go.RowKit

/-- A case of the call's own that was marked from k on. -/
structure CM (w : World) (base : Nat) (za : Option Addr) (nz zc : Nat) (oa : Option Addr) (no oc : Nat) (va : Option Addr) (nv vc : Nat) (k : Int) : Prop where
  z : w.ownsRow base 2 1 (.slice za nz zc) nz ((seqL k (nz * 1)).map (Value.int .i64))
  o : w.ownsRow base 40 6 (.slice oa no oc) no ((seqL (k + ((nz : Nat) : Int)) (no * 6)).map (Value.int .i64))
  v : w.ownsRow base 42 5 (.slice va nv vc) nv ((seqL (k + ((nz : Nat) : Int) + ((no * 6 : Nat) : Int)) (nv * 5)).map (Value.int .i64))
theorem CM.below {w w' : World} {base nz zc no oc nv vc : Nat} {za oa va : Option Addr} {k : Int} (h : CM w base za nz zc oa no oc va nv vc k) (hb : Below w.heap.size w w') : CM w' base za nz zc oa no oc va nv vc k := ⟨owns_below h.z hb, owns_below h.o hb, owns_below h.v hb⟩

theorem markZ_own (a : Option Addr) (n c base : Nat) (K : Int) (xs : List Value) (w : World) (h : w.ownsRow base 2 1 (.slice a n c) n xs) (h0 : 0 ≤ K) (h1 : K ≤ 1000000000000) (hn : n ≤ 10000000) :
    Calls Try.prog 35 #[.slice a n c, .int .i64 K] w fun e w' => e = .returned (.int .i64 (K + ((n : Nat) : Int))) ∧ GrownBut (fun b => (Value.slice a n c).ownBlock = some b) w w' ∧ w'.ownsRow base 2 1 (.slice a n c) n ((seqL K (n * 1)).map (Value.int .i64)) := by
  rcases own_kinds h with ⟨e, hz⟩ | ⟨g, c', e, _, _⟩
  · subst hz
    have hx : xs = [] := List.length_eq_zero_iff.1 (by have := h.1; simpa using this)
    subst hx
    refine (markInt64S_nil a c K _).mono ?_
    rintro e w' ⟨rfl, rfl⟩
    exact ⟨by simp, GrownBut.of_below (Below.refl _ _), by simpa [seqL] using h⟩
  · simp only [Value.slice.injEq, true_and] at e
    obtain ⟨rfl, rfl⟩ := e
    obtain ⟨cur, k1, k2, k3, k4, k5⟩ := own_row_of h
    refine (markInt64S_any g n c K cur _ _ k1 (by omega) h0 h1 hn).mono ?_
    rintro e w' ⟨rfl, hg, hr⟩
    exact ⟨rfl, GrownBut.of_grown hg rfl, mark_row h k1 (by simpa using hr)⟩
theorem heldZ_own (a : Option Addr) (n c base : Nat) (K : Int) (w : World) (h : w.ownsRow base 2 1 (.slice a n c) n ((seqL K (n * 1)).map (Value.int .i64))) (h0 : 0 ≤ K) (h1 : K ≤ 1000000000000) (hn : n ≤ 10000000) :
    Calls Try.prog 36 #[.slice a n c, .int .i64 K] w fun e w' => e = .returned (.int .i64 (K + ((n : Nat) : Int))) ∧ w' = w := by
  rcases own_kinds h with ⟨e, hz⟩ | ⟨g, c', e, _, _⟩
  · subst hz
    refine (heldInt64S_nil a c K _).mono ?_
    rintro e w' ⟨rfl, rfl⟩
    exact ⟨by simp, rfl⟩
  · simp only [Value.slice.injEq, true_and] at e
    obtain ⟨rfl, rfl⟩ := e
    exact heldInt64S_any g n c K w (fun j hj => (own_cellV h (by rw [List.getElem?_map, seqL_at (by omega)]; rfl)).1) h0 h1 hn
theorem markO_own (a : Option Addr) (n c base : Nat) (K : Int) (xs : List Value) (w : World) (h : w.ownsRow base 40 6 (.slice a n c) n xs) (h0 : 0 ≤ K) (h1 : K ≤ 1000000000000) (hn : n ≤ 10000000) :
    Calls Try.prog 18 #[.slice a n c, .int .i64 K] w fun e w' => e = .returned (.int .i64 (K + ((n * 6 : Nat) : Int))) ∧ GrownBut (fun b => (Value.slice a n c).ownBlock = some b) w w' ∧ w'.ownsRow base 40 6 (.slice a n c) n ((seqL K (n * 6)).map (Value.int .i64)) := by
  rcases own_kinds h with ⟨e, hz⟩ | ⟨g, c', e, _, _⟩
  · subst hz
    have hx : xs = [] := List.length_eq_zero_iff.1 (by have := h.1; simpa using this)
    subst hx
    refine (markOrderS_nil a c K _).mono ?_
    rintro e w' ⟨rfl, rfl⟩
    exact ⟨by simp, GrownBut.of_below (Below.refl _ _), by simpa [seqL] using h⟩
  · simp only [Value.slice.injEq, true_and] at e
    obtain ⟨rfl, rfl⟩ := e
    obtain ⟨cur, k1, k2, k3, k4, k5⟩ := own_row_of h
    refine (markOrderS_any g n c K cur _ _ k1 (by omega) h0 h1 hn).mono ?_
    rintro e w' ⟨rfl, hg, hr⟩
    exact ⟨rfl, GrownBut.of_grown hg rfl, mark_row h k1 (by simpa using hr)⟩
theorem heldO_own (a : Option Addr) (n c base : Nat) (K : Int) (w : World) (h : w.ownsRow base 40 6 (.slice a n c) n ((seqL K (n * 6)).map (Value.int .i64))) (h0 : 0 ≤ K) (h1 : K ≤ 1000000000000) (hn : n ≤ 10000000) :
    Calls Try.prog 21 #[.slice a n c, .int .i64 K] w fun e w' => e = .returned (.int .i64 (K + ((n * 6 : Nat) : Int))) ∧ w' = w := by
  rcases own_kinds h with ⟨e, hz⟩ | ⟨g, c', e, _, _⟩
  · subst hz
    refine (heldOrderS_nil a c K _).mono ?_
    rintro e w' ⟨rfl, rfl⟩
    exact ⟨by simp, rfl⟩
  · simp only [Value.slice.injEq, true_and] at e
    obtain ⟨rfl, rfl⟩ := e
    exact heldOrderS_any g n c K w (fun j hj => (own_cellV h (by rw [List.getElem?_map, seqL_at (by omega)]; rfl)).1) h0 h1 hn
theorem markV_own (a : Option Addr) (n c base : Nat) (K : Int) (xs : List Value) (w : World) (h : w.ownsRow base 42 5 (.slice a n c) n xs) (h0 : 0 ≤ K) (h1 : K ≤ 1000000000000) (hn : n ≤ 10000000) :
    Calls Try.prog 19 #[.slice a n c, .int .i64 K] w fun e w' => e = .returned (.int .i64 (K + ((n * 5 : Nat) : Int))) ∧ GrownBut (fun b => (Value.slice a n c).ownBlock = some b) w w' ∧ w'.ownsRow base 42 5 (.slice a n c) n ((seqL K (n * 5)).map (Value.int .i64)) := by
  rcases own_kinds h with ⟨e, hz⟩ | ⟨g, c', e, _, _⟩
  · subst hz
    have hx : xs = [] := List.length_eq_zero_iff.1 (by have := h.1; simpa using this)
    subst hx
    refine (markVehicleS_nil a c K _).mono ?_
    rintro e w' ⟨rfl, rfl⟩
    exact ⟨by simp, GrownBut.of_below (Below.refl _ _), by simpa [seqL] using h⟩
  · simp only [Value.slice.injEq, true_and] at e
    obtain ⟨rfl, rfl⟩ := e
    obtain ⟨cur, k1, k2, k3, k4, k5⟩ := own_row_of h
    refine (markVehicleS_any g n c K cur _ _ k1 (by omega) h0 h1 hn).mono ?_
    rintro e w' ⟨rfl, hg, hr⟩
    exact ⟨rfl, GrownBut.of_grown hg rfl, mark_row h k1 (by simpa using hr)⟩
theorem heldV_own (a : Option Addr) (n c base : Nat) (K : Int) (w : World) (h : w.ownsRow base 42 5 (.slice a n c) n ((seqL K (n * 5)).map (Value.int .i64))) (h0 : 0 ≤ K) (h1 : K ≤ 1000000000000) (hn : n ≤ 10000000) :
    Calls Try.prog 22 #[.slice a n c, .int .i64 K] w fun e w' => e = .returned (.int .i64 (K + ((n * 5 : Nat) : Int))) ∧ w' = w := by
  rcases own_kinds h with ⟨e, hz⟩ | ⟨g, c', e, _, _⟩
  · subst hz
    refine (heldVehicleS_nil a c K _).mono ?_
    rintro e w' ⟨rfl, rfl⟩
    exact ⟨by simp, rfl⟩
  · simp only [Value.slice.injEq, true_and] at e
    obtain ⟨rfl, rfl⟩ := e
    exact heldVehicleS_any g n c K w (fun j hj => (own_cellV h (by rw [List.getElem?_map, seqL_at (by omega)]; rfl)).1) h0 h1 hn

set_option maxHeartbeats 400000 in
theorem markM_own (n : Int) (a : Option Addr) (nz c base : Nat) (K : Int) (xs : List Value) (w : World) (h : w.ownsRow base 2 1 (.slice a nz c) nz xs) (h0 : 0 ≤ K) (h1 : K ≤ 1000000000000) (hn : nz ≤ 10000000) :
    Calls Try.prog 17 #[.agg #[.int .i64 n, .slice a nz c], .int .i64 K] w fun e w' => e = .returned (.int .i64 (K + ((nz : Nat) : Int))) ∧ GrownBut (fun b => (Value.slice a nz c).ownBlock = some b) w w' ∧ w'.ownsRow base 2 1 (.slice a nz c) nz ((seqL K (nz * 1)).map (Value.int .i64)) := by
  have HB0 : Hid (Below w.heap.size w (w.alloc (.cells #[.int .i64 n, .slice a nz c] 24))) := (Below.refl _ _).alloc (Nat.le_refl _) _
  have M := markZ_own a nz c base K xs _ (owns_below h HB0.out) h0 h1 hn
  clear h
  go_enter Try.func17, Try.ntmps17
  go_wp2_with fail
  refine M.mono ?_
  rintro e w1 ⟨rfl, hg, ho⟩
  have HG : Hid (GrownBut (fun b => (Value.slice a nz c).ownBlock = some b) w w1) := (GrownBut.of_below HB0.out).trans hg
  have HO : Hid (w1.ownsRow base 2 1 (.slice a nz c) nz ((seqL K (nz * 1)).map (Value.int .i64))) := ho
  clear hg ho M
  go_wp2
  go_ret
  exact ⟨rfl, HG.out, HO.out⟩

set_option maxHeartbeats 400000 in
theorem heldM_own (n : Int) (a : Option Addr) (nz c base : Nat) (K : Int) (w : World) (h : w.ownsRow base 2 1 (.slice a nz c) nz ((seqL K (nz * 1)).map (Value.int .i64))) (h0 : 0 ≤ K) (h1 : K ≤ 1000000000000) (hn : nz ≤ 10000000) :
    Calls Try.prog 20 #[.agg #[.int .i64 n, .slice a nz c], .int .i64 K] w fun e w' => e = .returned (.int .i64 (K + ((nz : Nat) : Int))) ∧ Below w.heap.size w w' := by
  have HB0 : Hid (Below w.heap.size w (w.alloc (.cells #[.int .i64 n, .slice a nz c] 24))) := (Below.refl _ _).alloc (Nat.le_refl _) _
  have M := heldZ_own a nz c base K _ (owns_below h HB0.out) h0 h1 hn
  have hk : ¬ (K + ((nz : Nat) : Int) < 0) := by omega
  clear h
  go_enter Try.func20, Try.ntmps20
  go_wp2_with fail
  refine M.mono ?_
  rintro e w1 ⟨rfl, rfl⟩
  clear M
  go_wp2
  go_ret
  exact ⟨rfl, HB0.out⟩

set_option maxHeartbeats 2000000 in
theorem markCase_own (n f k0 : Int) (za oa va : Option Addr) (nz zc no oc nv vc base : Nat) (xz xo xv : List Value) (w : World) (hz : w.ownsRow base 2 1 (.slice za nz zc) nz xz) (ho : w.ownsRow base 40 6 (.slice oa no oc) no xo) (hv : w.ownsRow base 42 5 (.slice va nv vc) nv xv) (h0 : 0 ≤ k0) (h1 : k0 ≤ 100000000) (bz : nz ≤ 1000000) (bo : no ≤ 1000000) (bv : nv ≤ 1000000) :
    Calls Try.prog 7 #[.agg #[.int .i64 n, .slice za nz zc, .slice oa no oc, .slice va nv vc, .int .i64 f], .int .i64 k0] w fun e w' => e = .returned (.int .i64 (k0 + ((nz : Nat) : Int) + ((no * 6 : Nat) : Int) + ((nv * 5 : Nat) : Int))) ∧ GrownBut (caseBl (.slice za nz zc) (.slice oa no oc) (.slice va nv vc)) w w' ∧ CM w' base za nz zc oa no oc va nv vc k0 := by
  have HB0 : Hid (Below w.heap.size w (w.alloc (.cells #[.int .i64 n, .slice za nz zc, .slice oa no oc, .slice va nv vc, .int .i64 f] 28))) := (Below.refl _ _).alloc (Nat.le_refl _) _
  have P0 : Hid ((w.alloc (.cells #[.int .i64 n, .slice za nz zc, .slice oa no oc, .slice va nv vc, .int .i64 f] 28)).heap[w.heap.size]? = some (.cells #[.int .i64 n, .slice za nz zc, .slice oa no oc, .slice va nv vc, .int .i64 f] 28 (0, 0))) := heap_alloc_new _ _
  have NB : Hid (¬ caseBl (.slice za nz zc) (.slice oa no oc) (.slice va nv vc) w.heap.size) := fun h => by
    rcases h with h | h | h
    · have := (hz.lt _ h).2; omega
    · have := (ho.lt _ h).2; omega
    · have := (hv.lt _ h).2; omega
  have Z0 := owns_below hz HB0.out
  have O0 : Hid ((w.alloc (.cells #[.int .i64 n, .slice za nz zc, .slice oa no oc, .slice va nv vc, .int .i64 f] 28)).ownsRow base 40 6 (.slice oa no oc) no xo) := owns_below ho HB0.out
  have V0 : Hid ((w.alloc (.cells #[.int .i64 n, .slice za nz zc, .slice oa no oc, .slice va nv vc, .int .i64 f] 28)).ownsRow base 42 5 (.slice va nv vc) nv xv) := owns_below hv HB0.out
  have M1 := markM_own n za nz zc base k0 xz _ Z0 h0 (by omega) (by omega)
  have N1 : Hid (∀ b, (Value.slice oa no oc).ownBlock = some b → ¬ ((Value.slice za nz zc).ownBlock = some b)) := fun b e => own_twoC ho hz (by decide) b e
  have N2 : Hid (∀ b, (Value.slice va nv vc).ownBlock = some b → ¬ ((Value.slice za nz zc).ownBlock = some b)) := fun b e => own_twoC hv hz (by decide) b e
  have N3 : Hid (∀ b, (Value.slice va nv vc).ownBlock = some b → ¬ ((Value.slice oa no oc).ownBlock = some b)) := fun b e => own_twoC hv ho (by decide) b e
  clear hz ho hv Z0
  obtain ⟨c0, c1, c2, c3, c4⟩ := cells5 P0.out
  go_enter Try.func7, Try.ntmps7
  go_wp2_with fail
  clear c0 c1 c2 c3 c4
  generalize w.alloc (.cells #[.int .i64 n, .slice za nz zc, .slice oa no oc, .slice va nv vc, .int .i64 f] 28) = W0 at *
  refine M1.mono ?_
  rintro e w1 ⟨rfl, hg, hz1⟩
  have G1 : Hid (GrownBut (caseBl (.slice za nz zc) (.slice oa no oc) (.slice va nv vc)) w w1) := (GrownBut.of_below HB0.out).trans (hg.mono (fun b e => .inl e))
  have P1 : Hid (w1.heap[w.heap.size]? = some (.cells #[.int .i64 n, .slice za nz zc, .slice oa no oc, .slice va nv vc, .int .i64 f] 28 (0, 0))) := hg.row P0.out (fun e => NB.out (.inl e))
  have Z1 : Hid (w1.ownsRow base 2 1 (.slice za nz zc) nz ((seqL k0 (nz * 1)).map (Value.int .i64))) := hz1
  have O1 : w1.ownsRow base 40 6 (.slice oa no oc) no xo := but_own hg O0.out N1.out
  have V1 : Hid (w1.ownsRow base 42 5 (.slice va nv vc) nv xv) := but_own hg V0.out N2.out
  clear hg hz1 HB0 P0 O0 V0 M1
  obtain ⟨K1, HK1⟩ : ∃ t, Hid (k0 + ((nz : Nat) : Int) = t) := ⟨_, rfl⟩
  have hk1 : 0 ≤ K1 ∧ K1 ≤ 200000000 := by have := HK1.out; omega
  have M2 := markO_own oa no oc base K1 xo _ O1 hk1.1 (by omega) (by omega)
  have N4 : Hid (∀ b, (Value.slice za nz zc).ownBlock = some b → ¬ ((Value.slice oa no oc).ownBlock = some b)) := fun b e e2 => N1.out b e2 e
  clear O1
  rw [HK1.out]
  obtain ⟨c0, c1, c2, c3, c4⟩ := cells5 P1.out
  go_wp2_with fail
  clear c0 c1 c2 c3 c4
  refine M2.mono ?_
  rintro e w2 ⟨rfl, hg, ho2⟩
  have G2 : Hid (GrownBut (caseBl (.slice za nz zc) (.slice oa no oc) (.slice va nv vc)) w w2) := G1.out.trans (hg.mono (fun b e => .inr (.inl e)))
  have P2 : Hid (w2.heap[w.heap.size]? = some (.cells #[.int .i64 n, .slice za nz zc, .slice oa no oc, .slice va nv vc, .int .i64 f] 28 (0, 0))) := hg.row P1.out (fun e => NB.out (.inr (.inl e)))
  have Z2 : Hid (w2.ownsRow base 2 1 (.slice za nz zc) nz ((seqL k0 (nz * 1)).map (Value.int .i64))) := but_own hg Z1.out N4.out
  have O2 : Hid (w2.ownsRow base 40 6 (.slice oa no oc) no ((seqL K1 (no * 6)).map (Value.int .i64))) := ho2
  have V2 : w2.ownsRow base 42 5 (.slice va nv vc) nv xv := but_own hg V1.out N3.out
  clear hg ho2 G1 P1 Z1 V1 M2 N4
  obtain ⟨K2, HK2⟩ : ∃ t, Hid (K1 + ((no * 6 : Nat) : Int) = t) := ⟨_, rfl⟩
  have hk2 : 0 ≤ K2 ∧ K2 ≤ 300000000 := by have := HK2.out; omega
  have M3 := markV_own va nv vc base K2 xv _ V2 hk2.1 (by omega) (by omega)
  have N5 : Hid (∀ b, (Value.slice za nz zc).ownBlock = some b → ¬ ((Value.slice va nv vc).ownBlock = some b)) := fun b e e2 => N2.out b e2 e
  have N6 : Hid (∀ b, (Value.slice oa no oc).ownBlock = some b → ¬ ((Value.slice va nv vc).ownBlock = some b)) := fun b e e2 => N3.out b e2 e
  clear V2
  rw [HK2.out]
  obtain ⟨c0, c1, c2, c3, c4⟩ := cells5 P2.out
  go_wp2_with fail
  clear c0 c1 c2 c3 c4
  refine M3.mono ?_
  rintro e w3 ⟨rfl, hg, hv3⟩
  have G3 : Hid (GrownBut (caseBl (.slice za nz zc) (.slice oa no oc) (.slice va nv vc)) w w3) := G2.out.trans (hg.mono (fun b e => .inr (.inr e)))
  have HM : Hid (CM w3 base za nz zc oa no oc va nv vc k0) := ⟨but_own hg Z2.out N5.out, by rw [HK1.out]; exact but_own hg O2.out N6.out, by rw [HK1.out, HK2.out]; exact hv3⟩
  clear hg hv3 M3
  obtain ⟨K3, HK3⟩ : ∃ t, Hid (K2 + ((nv * 5 : Nat) : Int) = t) := ⟨_, rfl⟩
  rw [HK3.out]
  go_wp2
  go_ret
  exact ⟨ret_int (show K3 = _ by rw [HK1.out, HK2.out, HK3.out]), G3.out, HM.out⟩

set_option maxHeartbeats 2000000 in
theorem heldCase_own (n f k0 : Int) (za oa va : Option Addr) (nz zc no oc nv vc base : Nat) (w : World) (hC : CM w base za nz zc oa no oc va nv vc k0) (h0 : 0 ≤ k0) (h1 : k0 ≤ 100000000) (bz : nz ≤ 1000000) (bo : no ≤ 1000000) (bv : nv ≤ 1000000) :
    Calls Try.prog 8 #[.agg #[.int .i64 n, .slice za nz zc, .slice oa no oc, .slice va nv vc, .int .i64 f], .int .i64 k0] w fun e w' => e = .returned (.int .i64 (k0 + ((nz : Nat) : Int) + ((no * 6 : Nat) : Int) + ((nv * 5 : Nat) : Int))) ∧ Below w.heap.size w w' := by
  have HB0 : Hid (Below w.heap.size w (w.alloc (.cells #[.int .i64 n, .slice za nz zc, .slice oa no oc, .slice va nv vc, .int .i64 f] 28))) := (Below.refl _ _).alloc (Nat.le_refl _) _
  have P0 : Hid ((w.alloc (.cells #[.int .i64 n, .slice za nz zc, .slice oa no oc, .slice va nv vc, .int .i64 f] 28)).heap[w.heap.size]? = some (.cells #[.int .i64 n, .slice za nz zc, .slice oa no oc, .slice va nv vc, .int .i64 f] 28 (0, 0))) := heap_alloc_new _ _
  have C0 : Hid (CM (w.alloc (.cells #[.int .i64 n, .slice za nz zc, .slice oa no oc, .slice va nv vc, .int .i64 f] 28)) base za nz zc oa no oc va nv vc k0) := hC.below HB0.out
  have M1 := heldM_own n za nz zc base k0 _ C0.out.z h0 (by omega) (by omega)
  clear hC
  obtain ⟨c0, c1, c2, c3, c4⟩ := cells5 P0.out
  go_enter Try.func8, Try.ntmps8
  go_wp2_with fail
  clear c0 c1 c2 c3 c4
  generalize w.alloc (.cells #[.int .i64 n, .slice za nz zc, .slice oa no oc, .slice va nv vc, .int .i64 f] 28) = W0 at *
  refine M1.mono ?_
  rintro e w1 ⟨rfl, hb⟩
  have HB1 : Hid (Below w.heap.size w w1) := HB0.out.trans (hb.mono HB0.out.size)
  have P1 : Hid (w1.heap[w.heap.size]? = some (.cells #[.int .i64 n, .slice za nz zc, .slice oa no oc, .slice va nv vc, .int .i64 f] 28 (0, 0))) := below_row hb (row_lt P0.out) P0.out
  have C1 : Hid (CM w1 base za nz zc oa no oc va nv vc k0) := C0.out.below hb
  clear hb HB0 P0 C0 M1
  have M2 := heldO_own oa no oc base _ _ C1.out.o (by omega) (by omega) (by omega)
  have M3 := heldV_own va nv vc base _ _ C1.out.v (by omega) (by omega) (by omega)
  obtain ⟨K1, HK1⟩ : ∃ t, Hid (k0 + ((nz : Nat) : Int) = t) := ⟨_, rfl⟩
  have hk1 : ¬ (K1 < 0) := by have := HK1.out; omega
  rw [HK1.out] at M2 M3 ⊢
  obtain ⟨K2, HK2⟩ : ∃ t, Hid (K1 + ((no * 6 : Nat) : Int) = t) := ⟨_, rfl⟩
  have hk2 : ¬ (K2 < 0) := by have := HK1.out; have := HK2.out; omega
  rw [HK2.out] at M2 M3
  obtain ⟨K3, HK3⟩ : ∃ t, Hid (K2 + ((nv * 5 : Nat) : Int) = t) := ⟨_, rfl⟩
  have hk3 : ¬ (K3 < 0) := by have := HK1.out; have := HK2.out; have := HK3.out; omega
  rw [HK3.out] at M3
  obtain ⟨c0, c1, c2, c3, c4⟩ := cells5 P1.out
  go_wp2_with fail
  refine M2.mono ?_
  rintro e w2 ⟨rfl, rfl⟩
  clear M2
  go_wp2_with fail
  refine M3.mono ?_
  rintro e w3 ⟨rfl, rfl⟩
  clear M3
  go_wp2
  go_ret
  exact ⟨ret_int (show K3 = _ by rw [HK1.out, HK2.out, HK3.out]), HB1.out⟩

end Go.Proofs.Ytaofpbmdloihgaa

namespace Go.Proofs.Ytaofpbmdloihgaa
open Go.RowKit

theorem eqCK {w : World} {b1 b2 nz zc1 no oc1 nv vc1 zc2 oc2 vc2 : Nat} {za1 oa1 va1 za2 oa2 va2 : Option Addr} {zs os vs : List Int} (cn cf : Int) (h1 : CK w b1 za1 nz zc1 oa1 no oc1 va1 nv vc1 zs os vs) (h2 : CK w b2 za2 nz zc2 oa2 no oc2 va2 nv vc2 zs os vs) (hz : zs.length = nz) (ho : os.length = no * 6) (hv : vs.length = nv * 5) (bz : nz ≤ 1000000) (bo : no ≤ 1000000) (bv : nv ≤ 1000000) :
    Calls Try.prog 6 #[.agg #[.int .i64 cn, .slice za1 nz zc1, .slice oa1 no oc1, .slice va1 nv vc1, .int .i64 cf], .agg #[.int .i64 cn, .slice za2 nz zc2, .slice oa2 no oc2, .slice va2 nv vc2, .int .i64 cf]] w fun e w' => e = .returned (.bool true) ∧ Below w.heap.size w w' := by
  subst hz
  exact eqCase_same cn cf za1 oa1 va1 za2 oa2 va2 zc1 no oc1 nv vc1 zc2 oc2 vc2 zs os vs w (own_intsC h1.z) (own_intsC h1.o) (own_intsC h1.v) (own_intsC h2.z) (own_intsC h2.o) (own_intsC h2.v) ho hv (by omega) (by omega) (by omega)

set_option maxHeartbeats 4000000 in
theorem lawReadCase (s : List UInt8) (hs : s.length ≤ 9223372036854775807) (w : World) :
    Calls Try.prog 3 #[.string (txt s)] w fun e w' => e = .returned (.bool true) ∧ Below w.heap.size w w' := by
  have HS : Hid ((txt s).size = s.length) := txt_size s
  by_cases hb : 1048576 < s.length
  · have hb' : (1048576 : Int) < (txt s).size := by rw [HS.out]; omega
    generalize txt s = a at *
    go_enter Try.func3, Try.ntmps3
    go_wp2
    go_ret
    exact ⟨rfl, Below.refl _ _⟩
  have hb' : ¬ ((1048576 : Int) < (txt s).size) := by rw [HS.out]; omega
  have hsl : s.length ≤ 1048576 := by omega
  obtain ⟨hk1, hk2, hk3, hk4, hk5⟩ := rdC_small s
  have CS : ∀ W, Calls Try.prog 4 #[.string (txt s)] W fun e w' => ∃ za zc oa oc va vc, e = .returned (.tuple #[.agg #[.int .i64 (rdC s).n, .slice za (rdC s).zs.length zc, .slice oa (rdC s).ko oc, .slice va (rdC s).kv vc, .int .i64 (rdC s).f], .bool (rdCB s)]) ∧ Below W.heap.size W w' ∧ CK w' (W.heap.size + 1) za (rdC s).zs.length zc oa (rdC s).ko oc va (rdC s).kv vc (rdC s).zs (rdC s).os (rdC s).vs := fun W => (specReadCase_any s W hsl).mono fun e w' h => by
    obtain ⟨za, zc, oa, oc, va, vc, h1, h2, h3⟩ := specReadC_is h
    exact ⟨za, zc, oa, oc, va, vc, h1, h2, ⟨h3.z, h3.o, h3.v⟩⟩
  have CI : ∀ W, Calls Try.prog 5 #[.string (txt s)] W fun e w' => ∃ za zc oa oc va vc, e = .returned (.tuple #[.agg #[.int .i64 (rdC s).n, .slice za (rdC s).zs.length zc, .slice oa (rdC s).ko oc, .slice va (rdC s).kv vc, .int .i64 (rdC s).f], .bool (rdCB s)]) ∧ Below W.heap.size W w' ∧ CK w' (W.heap.size + 3) za (rdC s).zs.length zc oa (rdC s).ko oc va (rdC s).kv vc (rdC s).zs (rdC s).os (rdC s).vs := fun W => (implReadCase_any s W (by omega)).mono fun e w' h => by
    obtain ⟨za, zc, oa, oc, va, vc, h1, h2, h3⟩ := implReadC_is h
    exact ⟨za, zc, oa, oc, va, vc, h1, h2, ⟨h3.z, h3.o, h3.v⟩⟩
  generalize rdCB s = bb at *
  generalize rdC s = c at *
  obtain ⟨cn, cf, zs, os, vs, no, nv⟩ := c
  simp only at hk1 hk2 hk3 hk4 hk5 CS CI
  obtain ⟨nz, HNZ⟩ : ∃ n, Hid (zs.length = n) := ⟨_, rfl⟩
  rw [HNZ.out] at hk1 CS CI
  have HLO : Hid (os.length = no * 6) := hk4
  have HLV : Hid (vs.length = nv * 5) := hk5
  have CS2 : Hid (∀ W, Calls Try.prog 4 #[.string (txt s)] W fun e w' => ∃ za zc oa oc va vc, e = .returned (.tuple #[.agg #[.int .i64 cn, .slice za nz zc, .slice oa no oc, .slice va nv vc, .int .i64 cf], .bool bb]) ∧ Below W.heap.size W w' ∧ CK w' (W.heap.size + 1) za nz zc oa no oc va nv vc zs os vs) := CS
  have CI2 : Hid (∀ W, Calls Try.prog 5 #[.string (txt s)] W fun e w' => ∃ za zc oa oc va vc, e = .returned (.tuple #[.agg #[.int .i64 cn, .slice za nz zc, .slice oa no oc, .slice va nv vc, .int .i64 cf], .bool bb]) ∧ Below W.heap.size W w' ∧ CK w' (W.heap.size + 3) za nz zc oa no oc va nv vc zs os vs) := CI
  clear CS CI hk4 hk5
  generalize txt s = a at *
  go_enter Try.func3, Try.ntmps3
  go_wp2_with fail
  refine (CS2.out w).mono ?_
  rintro e w1 ⟨za0, zc0, oa0, oc0, va0, vc0, rfl, hb1, hp1⟩
  have A1 : Hid (Below w1.heap.size w1 (w1.alloc (.cells #[.int .i64 cn, .slice za0 nz zc0, .slice oa0 no oc0, .slice va0 nv vc0, .int .i64 cf] 28))) := (Below.refl _ _).alloc (Nat.le_refl _) _
  have B1 : Hid (Below w.heap.size w (w1.alloc (.cells #[.int .i64 cn, .slice za0 nz zc0, .slice oa0 no oc0, .slice va0 nv vc0, .int .i64 cf] 28))) := hb1.trans (A1.out.mono hb1.size)
  have P1 : Hid (CK (w1.alloc (.cells #[.int .i64 cn, .slice za0 nz zc0, .slice oa0 no oc0, .slice va0 nv vc0, .int .i64 cf] 28)) (w.heap.size + 1) za0 nz zc0 oa0 no oc0 va0 nv vc0 zs os vs) := hp1.below A1.out
  have X1 : Hid ((w1.alloc (.cells #[.int .i64 cn, .slice za0 nz zc0, .slice oa0 no oc0, .slice va0 nv vc0, .int .i64 cf] 28)).heap[w1.heap.size]? = some (.cells #[.int .i64 cn, .slice za0 nz zc0, .slice oa0 no oc0, .slice va0 nv vc0, .int .i64 cf] 28 (0, 0))) := heap_alloc_new _ _
  have HLOW : Hid (∀ b, caseBl (.slice za0 nz zc0) (.slice oa0 no oc0) (.slice va0 nv vc0) b → w.heap.size + 1 ≤ b ∧ b < (w1.alloc (.cells #[.int .i64 cn, .slice za0 nz zc0, .slice oa0 no oc0, .slice va0 nv vc0, .int .i64 cf] 28)).heap.size) := P1.out.tops
  have HBW : Hid (w.heap.size ≤ (w1.alloc (.cells #[.int .i64 cn, .slice za0 nz zc0, .slice oa0 no oc0, .slice va0 nv vc0, .int .i64 cf] 28)).heap.size) := B1.out.size
  have Z1 : Hid (w1.heap.size < (w1.alloc (.cells #[.int .i64 cn, .slice za0 nz zc0, .slice oa0 no oc0, .slice va0 nv vc0, .int .i64 cf] 28)).heap.size) := row_lt X1.out
  clear hb1 hp1 A1
  go_wp2_with fail
  generalize (w1.alloc (.cells #[.int .i64 cn, .slice za0 nz zc0, .slice oa0 no oc0, .slice va0 nv vc0, .int .i64 cf] 28)) = W1 at *
  generalize w1.heap.size = b3 at *
  refine (CI2.out W1).mono ?_
  rintro e w2 ⟨za1, zc1, oa1, oc1, va1, vc1, rfl, hb2, hp2⟩
  have HTP : Hid (∀ b, caseBl (.slice za1 nz zc1) (.slice oa1 no oc1) (.slice va1 nv vc1) b → W1.heap.size + 3 ≤ b ∧ b < w2.heap.size) := hp2.tops
  have A2 : Hid (Below w2.heap.size w2 (w2.alloc (.cells #[.int .i64 cn, .slice za1 nz zc1, .slice oa1 no oc1, .slice va1 nv vc1, .int .i64 cf] 28))) := (Below.refl _ _).alloc (Nat.le_refl _) _
  have BX : Below W1.heap.size W1 (w2.alloc (.cells #[.int .i64 cn, .slice za1 nz zc1, .slice oa1 no oc1, .slice va1 nv vc1, .int .i64 cf] 28)) := hb2.trans (A2.out.mono hb2.size)
  have B2 : Hid (Below w.heap.size w (w2.alloc (.cells #[.int .i64 cn, .slice za1 nz zc1, .slice oa1 no oc1, .slice va1 nv vc1, .int .i64 cf] 28))) := B1.out.trans (BX.mono B1.out.size)
  have P2 : Hid (CK (w2.alloc (.cells #[.int .i64 cn, .slice za1 nz zc1, .slice oa1 no oc1, .slice va1 nv vc1, .int .i64 cf] 28)) (w.heap.size + 1) za0 nz zc0 oa0 no oc0 va0 nv vc0 zs os vs) := P1.out.below BX
  have G2 : Hid (CK (w2.alloc (.cells #[.int .i64 cn, .slice za1 nz zc1, .slice oa1 no oc1, .slice va1 nv vc1, .int .i64 cf] 28)) (W1.heap.size + 3) za1 nz zc1 oa1 no oc1 va1 nv vc1 zs os vs) := hp2.below A2.out
  have X2 : Hid ((w2.alloc (.cells #[.int .i64 cn, .slice za1 nz zc1, .slice oa1 no oc1, .slice va1 nv vc1, .int .i64 cf] 28)).heap[b3]? = some (.cells #[.int .i64 cn, .slice za0 nz zc0, .slice oa0 no oc0, .slice va0 nv vc0, .int .i64 cf] 28 (0, 0))) := below_row BX (row_lt X1.out) X1.out
  have Y2 : Hid ((w2.alloc (.cells #[.int .i64 cn, .slice za1 nz zc1, .slice oa1 no oc1, .slice va1 nv vc1, .int .i64 cf] 28)).heap[w2.heap.size]? = some (.cells #[.int .i64 cn, .slice za1 nz zc1, .slice oa1 no oc1, .slice va1 nv vc1, .int .i64 cf] 28 (0, 0))) := heap_alloc_new _ _
  have HB5 : Hid (W1.heap.size ≤ w2.heap.size) := hb2.size
  clear hb2 hp2 A2 BX B1 P1 X1
  obtain ⟨x0, x1, x2, x3, x4⟩ := cells5 X2.out
  obtain ⟨y0, y1, y2, y3, y4⟩ := cells5 Y2.out
  have hbb : (bb != bb) = false := by simp
  go_wp2_with fail
  clear x0 x1 x2 x3 x4 y0 y1 y2 y3 y4
  generalize (w2.alloc (.cells #[.int .i64 cn, .slice za1 nz zc1, .slice oa1 no oc1, .slice va1 nv vc1, .int .i64 cf] 28)) = W2 at *
  generalize w2.heap.size = b5 at *
  refine (eqCK cn cf G2.out P2.out HNZ.out HLO.out HLV.out (by omega) (by omega) (by omega)).mono ?_
  rintro e w3 ⟨rfl, hb3⟩
  have B3 : Hid (Below w.heap.size w w3) := B2.out.trans (hb3.mono B2.out.size)
  have P3 : Hid (CK w3 (w.heap.size + 1) za0 nz zc0 oa0 no oc0 va0 nv vc0 zs os vs) := P2.out.below hb3
  have G3 : Hid (CK w3 (W1.heap.size + 3) za1 nz zc1 oa1 no oc1 va1 nv vc1 zs os vs) := G2.out.below hb3
  have X3 : Hid (w3.heap[b3]? = some (.cells #[.int .i64 cn, .slice za0 nz zc0, .slice oa0 no oc0, .slice va0 nv vc0, .int .i64 cf] 28 (0, 0))) := below_row hb3 (row_lt X2.out) X2.out
  have Y3 : Hid (w3.heap[b5]? = some (.cells #[.int .i64 cn, .slice za1 nz zc1, .slice oa1 no oc1, .slice va1 nv vc1, .int .i64 cf] 28 (0, 0))) := below_row hb3 (row_lt Y2.out) Y2.out
  clear hb3 B2 P2 G2 X2 Y2
  obtain ⟨y0, y1, y2, y3, y4⟩ := cells5 Y3.out
  go_wp2_with fail
  clear y0 y1 y2 y3 y4
  have MK := markCase_own cn cf 1 za1 oa1 va1 nz zc1 no oc1 nv vc1 (W1.heap.size + 3) _ _ _ w3 G3.out.z G3.out.o G3.out.v (by omega) (by omega) (by omega) (by omega) (by omega)
  obtain ⟨M, HMM⟩ : ∃ x, Hid ((1 : Int) + ((nz : Nat) : Int) + ((no * 6 : Nat) : Int) + ((nv * 5 : Nat) : Int) = x) := ⟨_, rfl⟩
  rw [HMM.out] at MK
  refine MK.mono ?_
  rintro e w4 ⟨rfl, hg4, hp4⟩
  have BG : Hid (Below W1.heap.size w3 w4) := hg4.below (by have h9 := row_lt Y3.out; have := HB5.out; omega) (fun b hb => by have := HTP.out b hb; omega)
  have B4 : Hid (Below w.heap.size w w4) := B3.out.trans (BG.out.mono HBW.out)
  have M4 : Hid (CM w4 (W1.heap.size + 3) za1 nz zc1 oa1 no oc1 va1 nv vc1 1) := hp4
  have X4 : Hid (w4.heap[b3]? = some (.cells #[.int .i64 cn, .slice za0 nz zc0, .slice oa0 no oc0, .slice va0 nv vc0, .int .i64 cf] 28 (0, 0))) := hg4.row X3.out (fun h => by have := Z1.out; have := HTP.out _ h; omega)
  have Y4 : Hid (w4.heap[b5]? = some (.cells #[.int .i64 cn, .slice za1 nz zc1, .slice oa1 no oc1, .slice va1 nv vc1, .int .i64 cf] 28 (0, 0))) := hg4.row Y3.out (fun h => by have := HTP.out _ h; omega)
  have P4 : Hid (CK w4 (w.heap.size + 1) za0 nz zc0 oa0 no oc0 va0 nv vc0 zs os vs) := P3.out.but hg4 (fun b h1 h2 => by have := HLOW.out b h1; have := HTP.out b h2; omega)
  have CH : Hid (∀ W, CM W (W1.heap.size + 3) za1 nz zc1 oa1 no oc1 va1 nv vc1 1 → Calls Try.prog 8 #[.agg #[.int .i64 cn, .slice za1 nz zc1, .slice oa1 no oc1, .slice va1 nv vc1, .int .i64 cf], .int .i64 1] W fun e w' => e = .returned (.int .i64 M) ∧ Below W.heap.size W w') := fun W h => by
    have := heldCase_own cn cf 1 za1 oa1 va1 nz zc1 no oc1 nv vc1 (W1.heap.size + 3) W h (by omega) (by omega) (by omega) (by omega) (by omega)
    rw [HMM.out] at this
    exact this
  clear hg4 hp4 B3 P3 G3 X3 Y3 MK HTP BG
  have hM0 : ¬ (M < 0) := by have := HMM.out; omega
  obtain ⟨y0, y1, y2, y3, y4⟩ := cells5 Y4.out
  go_wp2_with fail
  clear y0 y1 y2 y3 y4
  refine (CH.out w4 M4.out).mono ?_
  rintro e w5 ⟨rfl, hb5⟩
  have B5 : Hid (Below w.heap.size w w5) := B4.out.trans (hb5.mono B4.out.size)
  have P5 : Hid (CK w5 (w.heap.size + 1) za0 nz zc0 oa0 no oc0 va0 nv vc0 zs os vs) := P4.out.below hb5
  have M5 : Hid (CM w5 (W1.heap.size + 3) za1 nz zc1 oa1 no oc1 va1 nv vc1 1) := M4.out.below hb5
  have X5 : Hid (w5.heap[b3]? = some (.cells #[.int .i64 cn, .slice za0 nz zc0, .slice oa0 no oc0, .slice va0 nv vc0, .int .i64 cf] 28 (0, 0))) := below_row hb5 (row_lt X4.out) X4.out
  have Y5 : Hid (w5.heap[b5]? = some (.cells #[.int .i64 cn, .slice za1 nz zc1, .slice oa1 no oc1, .slice va1 nv vc1, .int .i64 cf] 28 (0, 0))) := below_row hb5 (row_lt Y4.out) Y4.out
  clear hb5 B4 P4 M4 X4 Y4
  go_wp2_with fail
  refine (CI2.out w5).mono ?_
  rintro e w6 ⟨za2, zc2, oa2, oc2, va2, vc2, rfl, hb6, hp6⟩
  have A6 : Hid (Below w6.heap.size w6 (w6.alloc (.cells #[.int .i64 cn, .slice za2 nz zc2, .slice oa2 no oc2, .slice va2 nv vc2, .int .i64 cf] 28))) := (Below.refl _ _).alloc (Nat.le_refl _) _
  have BX : Below w5.heap.size w5 (w6.alloc (.cells #[.int .i64 cn, .slice za2 nz zc2, .slice oa2 no oc2, .slice va2 nv vc2, .int .i64 cf] 28)) := hb6.trans (A6.out.mono hb6.size)
  have B6 : Hid (Below w.heap.size w (w6.alloc (.cells #[.int .i64 cn, .slice za2 nz zc2, .slice oa2 no oc2, .slice va2 nv vc2, .int .i64 cf] 28))) := B5.out.trans (BX.mono B5.out.size)
  have P6 : Hid (CK (w6.alloc (.cells #[.int .i64 cn, .slice za2 nz zc2, .slice oa2 no oc2, .slice va2 nv vc2, .int .i64 cf] 28)) (w.heap.size + 1) za0 nz zc0 oa0 no oc0 va0 nv vc0 zs os vs) := P5.out.below BX
  have G6 : Hid (CK (w6.alloc (.cells #[.int .i64 cn, .slice za2 nz zc2, .slice oa2 no oc2, .slice va2 nv vc2, .int .i64 cf] 28)) (w5.heap.size + 3) za2 nz zc2 oa2 no oc2 va2 nv vc2 zs os vs) := hp6.below A6.out
  have M6 : Hid (CM (w6.alloc (.cells #[.int .i64 cn, .slice za2 nz zc2, .slice oa2 no oc2, .slice va2 nv vc2, .int .i64 cf] 28)) (W1.heap.size + 3) za1 nz zc1 oa1 no oc1 va1 nv vc1 1) := M5.out.below BX
  have X6 : Hid ((w6.alloc (.cells #[.int .i64 cn, .slice za2 nz zc2, .slice oa2 no oc2, .slice va2 nv vc2, .int .i64 cf] 28)).heap[b3]? = some (.cells #[.int .i64 cn, .slice za0 nz zc0, .slice oa0 no oc0, .slice va0 nv vc0, .int .i64 cf] 28 (0, 0))) := below_row BX (row_lt X5.out) X5.out
  have Y6 : Hid ((w6.alloc (.cells #[.int .i64 cn, .slice za2 nz zc2, .slice oa2 no oc2, .slice va2 nv vc2, .int .i64 cf] 28)).heap[b5]? = some (.cells #[.int .i64 cn, .slice za1 nz zc1, .slice oa1 no oc1, .slice va1 nv vc1, .int .i64 cf] 28 (0, 0))) := below_row BX (row_lt Y5.out) Y5.out
  have Z6 : Hid ((w6.alloc (.cells #[.int .i64 cn, .slice za2 nz zc2, .slice oa2 no oc2, .slice va2 nv vc2, .int .i64 cf] 28)).heap[w6.heap.size]? = some (.cells #[.int .i64 cn, .slice za2 nz zc2, .slice oa2 no oc2, .slice va2 nv vc2, .int .i64 cf] 28 (0, 0))) := heap_alloc_new _ _
  clear hb6 hp6 A6 BX B5 P5 M5 X5 Y5
  obtain ⟨x0, x1, x2, x3, x4⟩ := cells5 X6.out
  obtain ⟨y0, y1, y2, y3, y4⟩ := cells5 Z6.out
  go_wp2_with fail
  clear x0 x1 x2 x3 x4 y0 y1 y2 y3 y4
  generalize (w6.alloc (.cells #[.int .i64 cn, .slice za2 nz zc2, .slice oa2 no oc2, .slice va2 nv vc2, .int .i64 cf] 28)) = W6 at *
  generalize w6.heap.size = b9 at *
  refine (eqCK cn cf G6.out P6.out HNZ.out HLO.out HLV.out (by omega) (by omega) (by omega)).mono ?_
  rintro e w7 ⟨rfl, hb7⟩
  have B7 : Hid (Below w.heap.size w w7) := B6.out.trans (hb7.mono B6.out.size)
  have M7 : Hid (CM w7 (W1.heap.size + 3) za1 nz zc1 oa1 no oc1 va1 nv vc1 1) := M6.out.below hb7
  have Y7 : Hid (w7.heap[b5]? = some (.cells #[.int .i64 cn, .slice za1 nz zc1, .slice oa1 no oc1, .slice va1 nv vc1, .int .i64 cf] 28 (0, 0))) := below_row hb7 (row_lt Y6.out) Y6.out
  clear hb7 B6 P6 G6 M6 X6 Y6 Z6
  obtain ⟨y0, y1, y2, y3, y4⟩ := cells5 Y7.out
  go_wp2_with fail
  clear y0 y1 y2 y3 y4
  refine (CH.out w7 M7.out).mono ?_
  rintro e w8 ⟨rfl, hb8⟩
  have B8 : Hid (Below w.heap.size w w8) := B7.out.trans (hb8.mono B7.out.size)
  clear hb8 B7 M7 Y7
  go_wp2_with fail
  go_ret
  exact ⟨rfl, B8.out⟩

end Go.Proofs.Ytaofpbmdloihgaa
