import Derived.Test.YtehfjfmfpdgibaaGreatDoorPack0
import Derived.Test.YtehfjfmfpdgibaaGreatDoorPack6
import Derived.Shelf.Spec.SlicesInsert
import Derived.Lib.AppendZerosOnto
import Derived.Laws.NewBlocks
import Derived.Deep.RegionLaw
namespace Go.Proofs.YtehfjfmfpdgibaaGreatDoor
open Go.RowKit Go.Lib
theorem row_setCells (g : Nat) (T : TypeId) : ∀ (vs : List Value) (o : Nat) (w : World) (cur : Array Value), w.heap[g]? = some (.cells cur T (0, 0)) -> ∃ cur', (w.setCells g o vs).heap[g]? = some (.cells cur' T (0, 0)) /\ cur'.size = cur.size
 | [], _, _, cur, h => ⟨cur, h, rfl⟩
 | v :: r, o, w, cur, h => by
   obtain ⟨cur', h1, h2⟩ := row_setCells g T r (o + 1) (w.setCell ⟨g, o, none⟩ v) _ (heap_setCell_same w g o cur T v h)
   exact ⟨cur', h1, by rw [h2, Array.size_setIfInBounds]⟩
theorem below_setCells {base g : Nat} (hb : base <= g) : ∀ (vs : List Value) (o : Nat) {w w' : World}, Below base w w' -> Below base w (w'.setCells g o vs)
 | [], _, _, _, h => h
 | _ :: r, o, _, _, h => below_setCells hb r (o + 1) (h.setCell hb _)
theorem own_of_cells {W : World} {base g cap n : Nat} {cur : Array Value} {xs : List Int} (hr : W.heap[g]? = some (.cells cur 2 (0, 0))) (hsz : cur.size = cap) (hn : n <= cap) (hm : cap <= maxLen) (hb : base <= g) (hx : xs.length = n) (hc : ∀ j, j < n -> W.cell? ⟨g, j, none⟩ = some (.int .i64 (xs.getD j 0))) : W.ownsRow base 2 1 (.slice (some ⟨g, 0, none⟩) n cap) n (xs.map (Value.int .i64)) := by
 refine ⟨by rw [List.length_map, hx, Nat.mul_one], .inr ⟨g, cap, cur, rfl, hb, hr, hn, hm, by rw [hsz, Nat.mul_one], ?_⟩⟩
 apply List.ext_getElem?
 intro j
 rw [List.getElem?_take, Nat.mul_one]
 by_cases hj : j < n
 · have h1 := hc j hj
   rw [cell_of_row _ _ _ _ _ _ hr] at h1
   rw [if_pos hj, Array.getElem?_toList, h1, List.getElem?_map, List.getD_eq_getElem?_getD, List.getElem?_eq_getElem (by omega)]
   rfl
 · rw [if_neg hj, List.getElem?_eq_none (by rw [List.length_map]; omega)]
theorem insL_at {ids : List Int} {i j : Nat} (id : Int) (hi : i <= ids.length) : (insL ids i id).getD j 0 = if j < i then ids.getD j 0 else if j = i then id else ids.getD (j - 1) 0 := by
 unfold insL
 simp only [List.getD_eq_getElem?_getD]
 by_cases h1 : j < i
 · rw [if_pos h1, List.getElem?_append_left (by rw [List.length_take]; omega), List.getElem?_take, if_pos h1]
 · rw [if_neg h1, List.getElem?_append_right (by rw [List.length_take]; omega), List.length_take, Nat.min_eq_left hi]
   by_cases h2 : j = i
   · rw [if_pos h2, h2, Nat.sub_self]
     rfl
   · rw [if_neg h2, show j - i = (j - 1 - i) + 1 from by omega, List.getElem?_cons_succ, List.getElem?_drop, show i + (j - 1 - i) = j - 1 from by omega]
theorem sizeI64 (w : World) : (Go.sizeOf 2).run Tryz.prog w = .ok 1 w := by
 obtain ⟨i0, hi, _, hz1, _⟩ := info_parts Tryz.info2
 simp [Go.sizeOf, typeInfo, hi, hz1]
theorem sizeI64' : (Tryz.prog.info? 2).map (·.size) = some 1 := by
 obtain ⟨i0, hi, _, hz1, _⟩ := info_parts Tryz.info2
 rw [hi]
 simp [hz1]
theorem overlaps_no (w : World) (vb g o lb cb : Nat) (x : Value) (cur : Array Value) (hne : vb ≠ g) (hv : w.heap[vb]? = some (.cells #[x] 2 (0, 0))) (hg : w.heap[g]? = some (.cells cur 2 (0, 0))) (hc : cur.size ≠ 0) :
 (callFunc 151 #[.slice (some ⟨vb, 0, none⟩) 1 1, .slice (some ⟨g, o, none⟩) lb cb]).run Tryz.prog w = .ok (.value (.bool false)) w := by
 rw [run_callFunc_extern Tryz.func151 (by kernel_rfl) (by kernel_rfl) (by kernel_rfl) (e := Extern.SlicesOverlaps.overlaps #[44, 44] #[4]) (by kernel_rfl),
  Lib.run_overlaps_apart w 44 4 2 Tryz.underlying44 1 sizeI64 ⟨vb, 0, none⟩ ⟨g, o, none⟩ 1 1 lb cb hne 2 2 1 cur.size (by unfold World.shape?; rw [hv]; rfl) (by unfold World.shape?; rw [hg]) hc (frozen_of_row _ _ 0 _ _ hv) (frozen_of_row _ _ 1 _ _ hv)]
 rfl
set_option maxHeartbeats 4000000 in
set_option maxRecDepth 100000 in
theorem insert_room (g c i vb base n : Nat) (x : Int) (ids : List Int) (w : World) (hn : ids.length = n) (ho : w.ownsRow base 2 1 (.slice (some ⟨g, 0, none⟩) n c) n (ids.map (Value.int .i64))) (hv : w.heap[vb]? = some (.cells #[.int .i64 x] 2 (0, 0))) (hvb : vb ≠ g) (hi : i < n) (hroom : n + 1 <= c) (hl : n <= 1000) :
 Calls Tryz.prog 109 #[.slice (some ⟨g, 0, none⟩) n c, .int .i64 i, .slice (some ⟨vb, 0, none⟩) 1 1] w fun e w' => ∃ sl', e = .returned sl' /\ Below base w w' /\ w'.ownsRow base 2 1 sl' (n + 1) ((insL ids i x).map (Value.int .i64)) := by
 obtain ⟨hlen, ⟨h0, _⟩ | ⟨g', cap, cur, h2, hbg, hrow, hnc, hcm, hcs, htk⟩⟩ := id ho
 · cases h0
 simp at h2
 obtain ⟨rfl, rfl⟩ := h2
 rw [Nat.mul_one] at hcs
 have hcell : ∀ j, j < n -> w.cell? ⟨g, j, none⟩ = some (.int .i64 (ids.getD j 0)) := fun j hj => by
  obtain ⟨_, _, e, h⟩ := owns_ints ho j (by omega)
  simp at e
  obtain ⟨rfl, rfl⟩ := e
  rw [Nat.zero_add] at h
  exact h
 have hsp : ∀ j, j < c -> (w.cell? ⟨g, j, none⟩).isSome = true := fun j hj => by
  rw [cell_of_row _ _ _ _ _ _ hrow, Array.getElem?_eq_getElem (by omega)]; rfl
 have hfz : ∀ j, w.frozen? ⟨g, j, none⟩ = false := fun j => frozen_of_row _ _ j _ _ hrow
 have hvs : w.cell? ⟨vb, 0, none⟩ = some (.int .i64 x) := by rw [cell_of_row _ _ _ _ _ _ hv]; rfl
 have hc63 : c <= 9223372036854775807 := by unfold maxLen at hcm; omega
 have hov := fun lb cb => overlaps_no w vb g (i + 1) lb cb _ cur hvb hv hrow (by omega)
 obtain ⟨D, HD⟩ : ∃ D : List Value, Hid ((ids.map (Value.int .i64)).drop i = D) := ⟨_, rfl⟩
 have hdl : D.length = n - i := by rw [<- HD.out, List.length_drop, List.length_map, hn]
 have hD : ∀ j, j < n - i -> D[j]? = some (.int .i64 (ids.getD (i + j) 0)) := fun j hj => by
  rw [<- HD.out, List.getElem?_drop, List.getElem?_map, List.getD_eq_getElem?_getD, List.getElem?_eq_getElem (by omega)]
  rfl
 have hD1 : ∀ v ∈ D, v.oneCell' = true := fun v hv9 => by
  rw [<- HD.out] at hv9
  obtain ⟨y, _, rfl⟩ := List.mem_map.1 (List.mem_of_mem_drop hv9)
  rfl
 have hcp1 : ∀ ty dc sc, (Builtin.copy_ #[44, 44] ty #[.slice (some ⟨g, i + 1, none⟩) (n - i) dc, .slice (some ⟨g, i, none⟩) (n + 1 - i) sc]).run Tryz.prog w.drew = .ok (goInt D.length) (w.drew.setCells g (i + 1) D) := fun ty dc sc =>
  run_copy_cells w.drew _ _ ty 2 g (i + 1) (n - i) dc ⟨g, i, none⟩ (n + 1 - i) sc D Tryz.underlying44 sizeI64' (by rw [hdl]; simp only [Nat.min_def]; split <;> omega)
   (fun j v hj => by
     have hj9 : j < n - i := by
      rcases Nat.lt_or_ge j (n - i) with h | h
      · exact h
      · rw [List.getElem?_eq_none (by omega)] at hj; cases hj
     rw [hD j hj9] at hj
     cases hj
     rw [Addr.add_lit]
     exact hcell (i + j) (by omega))
   (fun j hj => hsp _ (by omega)) (fun j _ => hfz _) hD1
 obtain ⟨W1, hW1⟩ : ∃ W1, W1 = w.drew.setCells g (i + 1) D := ⟨_, rfl⟩
 have hsp1 : ∀ k, k < c -> (W1.cell? ⟨g, k, none⟩).isSome = true := fun k hk => by
  rw [hW1]
  exact isSome_setCells g D (i + 1) w.drew (fun j hj => hsp _ (by omega)) k (hsp k hk)
 have hcp2 : ∀ (W : World), (∀ y, W.cell? y = W1.cell? y) -> (∀ y, W.frozen? y = W1.frozen? y) -> ∀ ty dc, (Builtin.copy_ #[44, 44] ty #[.slice (some ⟨g, i, none⟩) (n + 1 - i) dc, .slice (some ⟨vb, 0, none⟩) 1 1]).run Tryz.prog W = .ok (goInt 1) (W.setCells g i [.int .i64 x]) := fun W hWc hWf ty dc =>
  run_copy_cells W _ _ ty 2 g i (n + 1 - i) dc ⟨vb, 0, none⟩ 1 1 [.int .i64 x] Tryz.underlying44 sizeI64' (by simp only [Nat.min_def, List.length_cons, List.length_nil]; split <;> omega)
   (fun j v hj => by
     cases j with
     | zero =>
       simp at hj
       subst hj
       rw [Addr.add_lit, hWc, hW1, World.cell?_setCells_out g _ _ _ _ (fun h _ => absurd h hvb)]
       exact hvs
     | succ j => simp at hj)
   (fun j hj => by rw [hWc]; exact hsp1 _ (by simp at hj; omega)) (fun j _ => by rw [hWf, hW1, World.frozen?_setCells]; exact hfz _) (fun v hv9 => by simp at hv9; subst hv9; rfl)
 have FIN : Hid (Below base w (W1.setCells g i [.int .i64 x]) /\ (W1.setCells g i [.int .i64 x]).ownsRow base 2 1 (.slice (some ⟨g, 0, none⟩) (n + 1) c) (n + 1) ((insL ids i x).map (Value.int .i64))) := by
  refine ⟨?_, ?_⟩
  · rw [hW1]
    exact below_setCells hbg _ _ (below_setCells hbg _ _ (Below.refl _ _).drew)
  · obtain ⟨cur1, hr1, hs1⟩ := row_setCells g 2 D (i + 1) w.drew cur hrow
    obtain ⟨cur2, hr2, hs2⟩ := row_setCells g 2 [.int .i64 x] i _ cur1 hr1
    rw [<- hW1] at hr2
    refine own_of_cells hr2 (by rw [hs2, hs1, hcs]) hroom hcm hbg (by rw [insL_length _ (by omega), hn]) (fun j hj => ?_)
    rw [insL_at x (by omega)]
    by_cases h1 : j = i
    · rw [if_neg (by omega), if_pos h1, h1]
      have := World.cell?_setCells_in g [.int .i64 x] i W1 (fun j hj => hsp1 _ (by simp at hj; omega)) 0 (by simp)
      simpa using this
    · rw [World.cell?_setCells_out g _ _ _ _ (fun _ _ => by simp; omega), hW1]
      by_cases h2 : j < i
      · rw [if_pos h2, World.cell?_setCells_out g _ _ _ _ (fun _ _ => by simp; omega)]
        exact hcell j (by omega)
      · rw [if_neg h2, if_neg h1]
        have h3 := World.cell?_setCells_in g D (i + 1) w.drew (fun j hj => hsp _ (by omega)) (j - (i + 1)) (by omega)
        rw [show i + 1 + (j - (i + 1)) = j from by omega] at h3
        rw [h3]
        have h4 := hD (j - (i + 1)) (by omega)
        rw [List.getElem?_eq_getElem (by omega)] at h4
        rw [h4, show i + (j - (i + 1)) = j - 1 from by omega]
 rw [<- hW1] at hcp1
 rw [hW1] at FIN
 have mixed : Tryz.prog.follows .mixedOrders = true := by kernel_rfl
 have hz2 : ¬ ((i : Int) = (n : Int)) := by omega
 have hw1 : IntKind.i64.wrap ((i : Int) + 1) = (i : Int) + 1 := by rw [IntKind.wrap_i64]; omega
 have hw2 : IntKind.i64.wrap ((n : Int) + 1) = (n : Int) + 1 := by rw [IntKind.wrap_i64]; omega
 have hb1 : (0 : Int) <= (i : Int) + 1 := by omega
 have hin : i <= n := by omega
 have htn : ((i : Int) + 1).toNat = i + 1 := by omega
 have htn2 : ((n : Int) + 1).toNat = n + 1 := by omega
 have hb2 : ¬ (c = i + 1) := by omega
 have hb3 : (i : Int) <= (n : Int) + 1 := by omega
 have hb4 : ¬ (c = i) := by omega
 have hb5 : ¬ ((c : Int) < (n : Int) + 1) := by omega
 have hb6 : (n : Int) + 1 <= (c : Int) := by omega
 clear ho hlen htk hcell hsp hfz hvs hsp1 hD hD1 hrow hv hcm hcs hnc
 go_enter Tryz.func109, Tryz.ntmps109
 go_wp2_with (simp only [hov])
 go_region_law (refine step_copy_runI rfl _ _ 44 44 rfl _ _ (by simp [Act.eval, Act.put]) (by simp [Act.eval, Act.put]) (hcp1 _ _ _) ?_)
 all_goals
  go_wp2_with (at_builtin; refine wpList_copy_runI _ rfl _ _ 44 44 rfl _ _ rfl rfl (hcp2 _ (fun _ => rfl) (fun _ => rfl) _ _) ?_)
  go_ret
  exact ⟨_, rfl, FIN.out⟩
set_option maxHeartbeats 4000000 in
set_option maxRecDepth 100000 in
theorem insert_grow (g c i vb base n : Nat) (x : Int) (ids : List Int) (w : World) (hn : ids.length = n) (ho : w.ownsRow base 2 1 (.slice (some ⟨g, 0, none⟩) n c) n (ids.map (Value.int .i64))) (hbw : base <= w.heap.size) (hv : w.heap[vb]? = some (.cells #[.int .i64 x] 2 (0, 0))) (hi : i < n) (hroom : c < n + 1) (hl : n <= 1000) :
 Calls Tryz.prog 109 #[.slice (some ⟨g, 0, none⟩) n c, .int .i64 i, .slice (some ⟨vb, 0, none⟩) 1 1] w fun e w' => ∃ sl', e = .returned sl' /\ Below base w w' /\ w'.ownsRow base 2 1 sl' (n + 1) ((insL ids i x).map (Value.int .i64)) := by
 obtain ⟨hlen, ⟨h0, _⟩ | ⟨g', cap, cur, h2, hbg, hrow, hnc, hcm, hcs, htk⟩⟩ := id ho
 · cases h0
 simp at h2
 obtain ⟨rfl, rfl⟩ := h2
 have hcn : c = n := by omega
 subst hcn
 rw [Nat.mul_one] at hcs
 have hcell : ∀ j, j < c -> w.cell? ⟨g, j, none⟩ = some (.int .i64 (ids.getD j 0)) := fun j hj => by
  obtain ⟨_, _, e, h⟩ := owns_ints ho j (by omega)
  simp at e
  obtain ⟨rfl, rfl⟩ := e
  rw [Nat.zero_add] at h
  exact h
 have hvs : w.cell? ⟨vb, 0, none⟩ = some (.int .i64 x) := by rw [cell_of_row _ _ _ _ _ _ hv]; rfl
 have hgw := row_lt hrow
 have hvw := row_lt hv
 obtain ⟨i0, hi0, hz0, hz1, hz2⟩ := info_parts Tryz.info2
 obtain ⟨A, HA⟩ : ∃ A : List Value, Hid ((ids.map (Value.int .i64)).take i = A) := ⟨_, rfl⟩
 have hal : A.length = i := by rw [<- HA.out, List.length_take, List.length_map, hn]; omega
 have hAj : ∀ j, j < i -> A[j]? = some (.int .i64 (ids.getD j 0)) := fun j hj => by
  rw [<- HA.out, List.getElem?_take, if_pos hj, List.getElem?_map, List.getD_eq_getElem?_getD, List.getElem?_eq_getElem (by omega)]
  rfl
 obtain ⟨D, HD⟩ : ∃ D : List Value, Hid ((ids.map (Value.int .i64)).drop i = D) := ⟨_, rfl⟩
 have hdl : D.length = c - i := by rw [<- HD.out, List.length_drop, List.length_map, hn]
 have hD : ∀ j, j < c - i -> D[j]? = some (.int .i64 (ids.getD (i + j) 0)) := fun j hj => by
  rw [<- HD.out, List.getElem?_drop, List.getElem?_map, List.getD_eq_getElem?_getD, List.getElem?_eq_getElem (by omega)]
  rfl
 have hD1 : ∀ v ∈ D, v.oneCell' = true := fun v hv9 => by
  rw [<- HD.out] at hv9
  obtain ⟨y, _, rfl⟩ := List.mem_map.1 (List.mem_of_mem_drop hv9)
  rfl
 have hold : (Builtin.firstCells i0.size i (.slice (some ⟨g, 0, none⟩) i c)).run Tryz.prog w.drew = .ok A.toArray w.drew := by
  rw [hz1]
  exact run_firstCells_some w.drew 1 i ⟨g, 0, none⟩ i c A (by omega) (fun j v hj => by
   have hj9 : j < i := by
    rcases Nat.lt_or_ge j i with h | h
    · exact h
    · rw [List.getElem?_eq_none (by omega)] at hj; cases hj
   rw [hAj j hj9] at hj
   cases hj
   rw [Addr.add_lit, Nat.zero_add]
   exact hcell j (by omega))
 have hik : i + (c + 1 - i) = c + 1 := by omega
 obtain ⟨G, hG⟩ : ∃ G, G = grownCap w (c + 1) c 2 := ⟨_, rfl⟩
 obtain ⟨ROW, hROW⟩ : ∃ ROW : Array Value, ROW = A.toArray ++ Builtin.zeroCells (Value.int .i64 0).cells (c + 1 - i) ++ Builtin.zeroCells (Value.int .i64 0).cells (G - (c + 1)) := ⟨_, rfl⟩
 have hrz : ∀ ty, (Builtin.append_ #[44, 3] ty #[.slice (some ⟨g, 0, none⟩) i c, .int .i64 ((c : Int) + 1 - (i : Int))]).run Tryz.prog w = .ok (.slice (some ⟨w.heap.size, 0, none⟩) (c + 1) G) (w.drew.alloc (.cells ROW 2)) := fun ty => by
  have h := Lib.run_append_grow_zeros w 44 3 ty 2 i0 _ .i64 .i64 Tryz.underlying44 Tryz.underlying3 hi0 hz0 (some ⟨g, 0, none⟩) i c A hold (c + 1 - i) (by omega) (by omega) (by omega) (by omega) (by rw [hz2]; omega) (by rw [hz2, hik]; exact growslice_fits hroom (by omega))
  rw [hik, <- hG, <- hROW] at h
  rw [show (c : Int) + 1 - (i : Int) = ((c + 1 - i : Nat) : Int) from by omega]
  exact h
 have hGn : c + 1 <= G := by rw [hG]; exact grownCap_ge w _ _ _
 have hGm : G <= maxLen := by rw [hG]; exact grownCap_le_maxLen w (c + 1) c 2 (by unfold maxLen; omega)
 have hG63 : G <= 9223372036854775807 := by unfold maxLen at hGm; omega
 have hRl : ROW.size = G := by
  rw [hROW]
  simp [Builtin.zeroCells, Value.cells, hal]
  omega
 obtain ⟨W1, hW1⟩ : ∃ W1, W1 = w.drew.alloc (.cells ROW 2) := ⟨_, rfl⟩
 have hN0 : W1.heap[w.heap.size]? = some (.cells ROW 2 (0, 0)) := by rw [hW1]; exact heap_alloc_new w.drew _
 have hN : ∀ j, j < G -> (W1.cell? ⟨w.heap.size, j, none⟩).isSome = true := fun j hj => by
  rw [cell_of_row _ _ _ _ _ _ hN0, Array.getElem?_eq_getElem (by omega)]; rfl
 have hNf : ∀ j, W1.frozen? ⟨w.heap.size, j, none⟩ = false := fun j => frozen_of_row _ _ j _ _ hN0
 have hB1 : Below w.heap.size w W1 := by rw [hW1]; exact (Below.refl _ _).drew.alloc (Nat.le_refl _) _
 have hA1 : ∀ j, j < i -> W1.cell? ⟨w.heap.size, j, none⟩ = some (.int .i64 (ids.getD j 0)) := fun j hj => by
  rw [cell_of_row _ _ _ _ _ _ hN0, hROW, Array.append_assoc, Array.getElem?_append_left (by simp; omega)]
  have h9 := hAj j hj
  simpa using h9
 have hcpA : ∀ (W : World), (∀ y, W.cell? y = W1.cell? y) -> (∀ y, W.frozen? y = W1.frozen? y) -> ∀ ty dc, (Builtin.copy_ #[44, 44] ty #[.slice (some ⟨w.heap.size, i, none⟩) (c + 1 - i) dc, .slice (some ⟨vb, 0, none⟩) 1 1]).run Tryz.prog W = .ok (goInt 1) (W.setCells w.heap.size i [.int .i64 x]) := fun W hWc hWf ty dc =>
  run_copy_cells W _ _ ty 2 w.heap.size i (c + 1 - i) dc ⟨vb, 0, none⟩ 1 1 [.int .i64 x] Tryz.underlying44 sizeI64' (by simp only [Nat.min_def, List.length_cons, List.length_nil]; split <;> omega)
   (fun j v hj => by
     cases j with
     | zero =>
       simp at hj
       subst hj
       rw [Addr.add_lit, hWc]
       exact (hB1.cell (p := ⟨vb, 0, none⟩) hvw).trans hvs
     | succ j => simp at hj)
   (fun j hj => by rw [hWc]; exact hN _ (by simp at hj; omega)) (fun j _ => by rw [hWf]; exact hNf _) (fun v hv9 => by simp at hv9; subst hv9; rfl)
 obtain ⟨W2, hW2⟩ : ∃ W2, W2 = W1.setCells w.heap.size i [.int .i64 x] := ⟨_, rfl⟩
 have hN2 : ∀ j, j < G -> (W2.cell? ⟨w.heap.size, j, none⟩).isSome = true := fun j hj => by
  rw [hW2]
  exact isSome_setCells w.heap.size [.int .i64 x] i W1 (fun k hk => hN _ (by simp at hk; omega)) j (hN j hj)
 have hcpB : ∀ (W : World), (∀ y, W.cell? y = W2.cell? y) -> (∀ y, W.frozen? y = W2.frozen? y) -> ∀ ty dc sc, (Builtin.copy_ #[44, 44] ty #[.slice (some ⟨w.heap.size, i + 1, none⟩) (c - i) dc, .slice (some ⟨g, i, none⟩) (c - i) sc]).run Tryz.prog W = .ok (goInt D.length) (W.setCells w.heap.size (i + 1) D) := fun W hWc hWf ty dc sc =>
  run_copy_cells W _ _ ty 2 w.heap.size (i + 1) (c - i) dc ⟨g, i, none⟩ (c - i) sc D Tryz.underlying44 sizeI64' (by rw [hdl]; simp only [Nat.min_def]; split <;> omega)
   (fun j v hj => by
     have hj9 : j < c - i := by
      rcases Nat.lt_or_ge j (c - i) with h | h
      · exact h
      · rw [List.getElem?_eq_none (by omega)] at hj; cases hj
     rw [hD j hj9] at hj
     cases hj
     rw [Addr.add_lit, hWc, hW2, World.cell?_setCells_out _ _ _ _ _ (fun h _ => absurd h (by show g ≠ _; omega))]
     exact (hB1.cell (p := ⟨g, i + j, none⟩) hgw).trans (hcell (i + j) (by omega)))
   (fun j hj => by rw [hWc]; exact hN2 _ (by omega)) (fun j _ => by rw [hWf, hW2, World.frozen?_setCells]; exact hNf _) hD1
 have FIN : Hid (∀ W : World, (∀ y, W.cell? y = W2.cell? y) -> W.heap = W2.heap -> Below base w W -> Below base w (W.setCells w.heap.size (i + 1) D) /\ (W.setCells w.heap.size (i + 1) D).ownsRow base 2 1 (.slice (some ⟨w.heap.size, 0, none⟩) (c + 1) G) (c + 1) ((insL ids i x).map (Value.int .i64))) := fun W hWc hWh hWb => by
  refine ⟨below_setCells hbw _ _ hWb, ?_⟩
  obtain ⟨cur1, hr1, hs1⟩ := row_setCells w.heap.size 2 [.int .i64 x] i W1 ROW hN0
  rw [<- hW2, <- hWh] at hr1
  obtain ⟨cur2, hr2, hs2⟩ := row_setCells w.heap.size 2 D (i + 1) W cur1 hr1
  refine own_of_cells hr2 (by rw [hs2, hs1, hRl]) hGn hGm hbw (by rw [insL_length _ (by omega), hn]) (fun j hj => ?_)
  rw [insL_at x (by omega)]
  by_cases h2 : j <= i
  · rw [World.cell?_setCells_out _ _ _ _ _ (fun _ _ => by simp; omega), hWc, hW2]
    by_cases h1 : j = i
    · rw [if_neg (by omega), if_pos h1, h1]
      have := World.cell?_setCells_in w.heap.size [.int .i64 x] i W1 (fun j hj => hN _ (by simp at hj; omega)) 0 (by simp)
      simpa using this
    · rw [if_pos (by omega), World.cell?_setCells_out _ _ _ _ _ (fun _ _ => by simp; omega)]
      exact hA1 j (by omega)
  · rw [if_neg (by omega), if_neg (by omega)]
    have h3 := World.cell?_setCells_in w.heap.size D (i + 1) W (fun j hj => by rw [hWc]; exact hN2 _ (by omega)) (j - (i + 1)) (by omega)
    rw [show i + 1 + (j - (i + 1)) = j from by omega] at h3
    rw [h3]
    have h4 := hD (j - (i + 1)) (by omega)
    rw [List.getElem?_eq_getElem (by omega)] at h4
    rw [h4, show i + (j - (i + 1)) = j - 1 from by omega]
 have mixed : Tryz.prog.follows .mixedOrders = true := by kernel_rfl
 have hq2 : ¬ ((i : Int) = (c : Int)) := by omega
 have hw1 : IntKind.i64.wrap ((i : Int) + 1) = (i : Int) + 1 := by rw [IntKind.wrap_i64]; omega
 have hw2 : IntKind.i64.wrap ((c : Int) + 1) = (c : Int) + 1 := by rw [IntKind.wrap_i64]; omega
 have hw3 : IntKind.i64.wrap ((c : Int) + 1 - (i : Int)) = (c : Int) + 1 - (i : Int) := by rw [IntKind.wrap_i64]; omega
 have hb1 : (0 : Int) <= (i : Int) + 1 := by omega
 have hin : i <= c := by omega
 have htn : ((i : Int) + 1).toNat = i + 1 := by omega
 have hb3 : (i : Int) <= (c : Int) + 1 := by omega
 have hb5 : (c : Int) < (c : Int) + 1 := by omega
 have hGi : ¬ (G = i) := by omega
 have hGim : ¬ (G = i + 1) := by omega
 have hci : ¬ (c = i) := by omega
 have hB1' : Hid _ := hB1.mono hbw
 clear ho hlen htk hcell hvs hD hD1 hrow hv hcm hcs hnc hAj hal hold hik hROW hG hRl hN hNf hN0 hA1 hN2 hB1 hi0 hz0 hz1 hz2 hdl
 subst hW1
 subst hW2
 have hE1 : ∀ y, ((w.alloc (.cells ROW 2)).drew).cell? y = (w.drew.alloc (.cells ROW 2)).cell? y := fun _ => rfl
 have hE2 : ∀ y, ((w.alloc (.cells ROW 2)).drew).frozen? y = (w.drew.alloc (.cells ROW 2)).frozen? y := fun _ => rfl
 have hF1 : ∀ y, (((w.alloc (.cells ROW 2)).drew.setCells w.heap.size i [.int .i64 x]).drew).cell? y = ((w.drew.alloc (.cells ROW 2)).setCells w.heap.size i [.int .i64 x]).cell? y := fun _ => rfl
 have hF2 : ∀ y, (((w.alloc (.cells ROW 2)).drew.setCells w.heap.size i [.int .i64 x]).drew).frozen? y = ((w.drew.alloc (.cells ROW 2)).setCells w.heap.size i [.int .i64 x]).frozen? y := fun _ => rfl
 have FIN2 : Hid (Below base w ((((w.alloc (.cells ROW 2)).drew.setCells w.heap.size i [.int .i64 x]).drew).setCells w.heap.size (i + 1) D) /\ ((((w.alloc (.cells ROW 2)).drew.setCells w.heap.size i [.int .i64 x]).drew).setCells w.heap.size (i + 1) D).ownsRow base 2 1 (.slice (some ⟨w.heap.size, 0, none⟩) (c + 1) G) (c + 1) ((insL ids i x).map (Value.int .i64))) :=
  FIN.out _ hF1 rfl (below_setCells hbw _ _ ((Below.refl _ _).alloc hbw _).drew).drew
 have hcA := fun ty dc => hcpA _ hE1 hE2 ty dc
 have hcB := fun ty dc sc => hcpB _ hF1 hF2 ty dc sc
 clear hcpA hcpB FIN hB1' hE1 hE2 hF1 hF2
 go_enter Tryz.func109, Tryz.ntmps109
 go_wp2_with (first
  | (at_builtin; refine Lib.wpList_append_run _ rfl _ _ _ _ rfl _ _ rfl rfl _ _ (hrz _) ?_)
  | (at_builtin; refine wpList_copy_runI _ rfl _ _ 44 44 rfl _ _ rfl rfl (hcA _ _) ?_))
 go_region_law (refine step_copy_runI rfl _ _ 44 44 rfl _ _ (by simp [Act.eval, Act.put]) (by simp [Act.eval, Act.put]) (hcB _ _ _) ?_)
 all_goals
  go_wp2
  go_ret
  exact ⟨_, rfl, FIN2.out⟩
end Go.Proofs.YtehfjfmfpdgibaaGreatDoor
