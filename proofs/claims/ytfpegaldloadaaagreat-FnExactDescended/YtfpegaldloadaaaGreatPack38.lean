import Derived.Test.YtfpegaldloadaaaGreatPack5
import Derived.Test.YtfpegaldloadaaaGreatPack6
import Derived.Test.YtfpegaldloadaaaGreatPack9
import Derived.Test.YtfpegaldloadaaaGreatPack22
namespace Go.Proofs.YtfpegaldloadaaaGreat
end Go.Proofs.YtfpegaldloadaaaGreat

namespace Go.Proofs.YtfpegaldloadaaaGreat
open Go.RowKit
def rngL (k : Nat) : List Int := (List.range k).map (fun i : Nat => (i : Int))
theorem rngL_length (k : Nat) : (rngL k).length = k := by simp [rngL]
theorem rngL_succ (k : Nat) : rngL (k + 1) = rngL k ++ [(k : Int)] := by simp [rngL, List.range_succ]
theorem rngL_at {m k : Nat} (h : k < m) : (rngL m).getD k 0 = (k : Int) := by simp [rngL, List.getD, h]
def PWF (w W : World) (rs : Array Value) (sl : Value) (k : Nat) (xs : List Value) : Prop := Below w.heap.size w W /\ W.heap[w.heap.size]? = some (.cells rs 100 (0, 0)) /\ W.ownsRow (w.heap.size + 1) 2 1 sl k xs
theorem PWF.b {w W : World} {rs : Array Value} {sl : Value} {k : Nat} {xs : List Value} (h : PWF w W rs sl k xs) : Below w.heap.size w W := h.1
theorem PWF.o {w W : World} {rs : Array Value} {sl : Value} {k : Nat} {xs : List Value} (h : PWF w W rs sl k xs) : W.ownsRow (w.heap.size + 1) 2 1 sl k xs := h.2.2
theorem PWF.r {w W : World} {rs : Array Value} {sl : Value} {k : Nat} {xs : List Value} (h : PWF w W rs sl k xs) : W.heap[w.heap.size]? = some (.cells rs 100 (0, 0)) := h.2.1
theorem PWF.size {w W : World} {rs : Array Value} {sl : Value} {k : Nat} {xs : List Value} (h : PWF w W rs sl k xs) : w.heap.size + 1 <= W.heap.size := row_lt h.2.1
theorem PWF.grown {w W W' : World} {rs : Array Value} {sl sl' : Value} {k k' : Nat} {xs xs' : List Value} {o : Obj} (h : PWF w W rs sl k xs) (hg : (W.alloc o).grownBy W' sl.ownBlock) (ho : W'.ownsRow (w.heap.size + 1) 2 1 sl' k' xs') : PWF w W' rs sl' k' xs' := by
 have hA : Below w.heap.size w (W.alloc o) := h.1.alloc h.1.size _
 have hr : (W.alloc o).heap[w.heap.size]? = some (.cells rs 100 (0, 0)) := (heap_alloc_old _ _ (row_lt h.2.1)).trans h.2.1
 refine ⟨hA.grown hg hA.size (fun k e => by have := (h.o.lt k e).1; omega), ?_, ho⟩
 exact (hg.block _ (row_lt hr) (fun e => by have := (h.o.lt _ e.symm).1; omega)).trans hr
theorem rngL_map (k : Nat) : (rngL (k + 1)).map (Value.int .i64) = (rngL k).map (Value.int .i64) ++ [.int .i64 (k : Int)] := by rw [rngL_succ, List.map_append]; rfl
set_option maxHeartbeats 1000000 in
theorem placesFor_own (veh : Int) (bi : Option Addr) (c2 m : Nat) (w : World) (h12 : m <= 12) :
   Calls Tryz.prog 111 #[.agg #[.int .i64 veh, .slice bi m c2]] w fun e w' => ∃ g c, e = .returned (.slice (some ⟨g, 0, none⟩) (m + 1) c) /\ Below w.heap.size w w' /\ IntsAt w' (some ⟨g, 0, none⟩) (rngL (m + 1)) /\ w.heap.size <= g := by
 have R0 : Hid ((w.alloc (.cells #[Value.int .i64 veh, Value.slice bi m c2] 100)).heap[w.heap.size]? = some (.cells #[Value.int .i64 veh, Value.slice bi m c2] 100 (0, 0))) := heap_alloc_new _ _
 have hwr : IntKind.i64.wrap ((m : Int) + 1) = (m : Int) + 1 := IntWalk.i64_in _ (by omega)
 go_enter Tryz.func111, Tryz.ntmps111
 obtain ⟨d0, d1⟩ := cells2 R0.out
 go_wp2_with (first
   | (refine make_room _ rfl _ _ rfl (w.heap.size + 1) _ _ ((m : Int) + 1) (m + 1) rfl rfl (by omega) (by omega) (by simp) ?_
      intro w1 hown hg
      have O1 : Hid (PWF w w1 #[Value.int .i64 veh, Value.slice bi m c2] (.slice (some ⟨(w.alloc (Obj.cells #[Value.int .i64 veh, Value.slice bi m c2] 100)).heap.size, 0, none⟩) 0 (m + 1)) 0 []) := ⟨((Below.refl w.heap.size w).alloc (Nat.le_refl _) _).grown hg (by simp) (fun k e => by cases e), (hg.block _ (by simp) (by simp)).trans (heap_alloc_new _ _), hown⟩
      clear hown hg d0 d1
      obtain ⟨d0, d1⟩ := cells2 O1.out.r))
 go_loopw [3, 14] (fun sl t wr => ∃ k : Nat, k <= m + 1 /\ t = .int .i64 k /\ PWF w wr #[Value.int .i64 veh, Value.slice bi m c2] sl k ((rngL k).map (Value.int .i64)) /\ sl ≠ .slice none 0 0) (fun _ t _ => m + 1 - (intOf t).toNat)
 case atStart => exact ⟨0, Nat.zero_le _, rfl, by simpa [rngL] using O1.out, by simp⟩
 case round =>
   clear O1 R0 d0 d1
   obtain ⟨k, hk, rfl, ho, hne⟩ := hrel
   have HO : Hid (PWF w wr #[Value.int .i64 veh, Value.slice bi m c2] u3 k ((rngL k).map (Value.int .i64))) := ho
   clear ho
   by_cases hlt : k < m + 1
   · have hlt' : (k : Int) < (m : Int) + 1 := by omega
     have hwk : IntKind.i64.wrap ((k : Int) + 1) = ((k + 1 : Nat) : Int) := by rw [IntWalk.i64_in _ (by omega)]; omega
     have HNE : Hid (u3 ≠ .slice none 0 0) := hne
     clear hne
     go_wp2_with (first
       | (at_builtin
          refine append_int _ rfl _ _ rfl (w.heap.size + 1) u3 k _ rfl (HO.out.o.alloc _) _ _ (.int .i64 (k : Int)) rfl (cell_new1 _ _ _ _ (by simp)) rfl (by omega) (Nat.le_trans HO.out.size (by simp)) ?_
          intro v' w4 hown hg
          have NE4 : Hid (v' ≠ .slice none 0 0) := by
            intro e
            rw [e] at hown
            have hz := hown.2
            rcases hz with ⟨_, h0⟩ | ⟨_, _, _, e2, _⟩
            · simp at h0
            · cases e2
          have O4 : Hid (PWF w w4 #[Value.int .i64 veh, Value.slice bi m c2] v' (k + 1) ((rngL (k + 1)).map (Value.int .i64))) := HO.out.grown hg (by rw [rngL_map]; exact hown)
          clear hown hg))
     go_roundw
     case rel => exact ⟨k + 1, by omega, by first | rfl | go_num, O4.out, NE4.out⟩
     case measure => simp [intOf]; omega
   · have hkn : k = m + 1 := by omega
     subst hkn
     have hlt' : ¬ ((m : Int) + 1 < (m : Int) + 1) := by omega
     obtain ⟨g, c, rfl⟩ : ∃ g c, u3 = .slice (some ⟨g, 0, none⟩) (m + 1) c := by
       rcases own_shape HO.out.o with h | h
       · exact absurd h hne
       · exact h
     clear hne
     go_wp2
     go_ret
     exact ⟨g, ⟨c, rfl⟩, HO.out.b, owns_ints HO.out.o, by have := (HO.out.o.lt g rfl).1; omega⟩
end Go.Proofs.YtfpegaldloadaaaGreat
