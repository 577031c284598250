import Derived.Test.YtjlhmkmhehcmkaaGreatPack0
import Derived.Test.YtjlhmkmhehcmkaaGreatPack4
import Derived.Test.YtjlhmkmhehcmkaaGreatPack6
import Derived.Test.YtjlhmkmhehcmkaaGreatSliceLays
namespace Go.Proofs.YtjlhmkmhehcmkaaGreat
open Go.RowKit Go.Sort Go.Lib
theorem clone_ints (b off c : Nat) (ids : List Int) (w : World) (hI : IntsAt w (some ⟨b, off, none⟩) ids) (hl : ids.length <= 1048576) :
   Calls Tryz.prog 65 #[.slice (some ⟨b, off, none⟩) ids.length c] w fun e w' => ∃ g cap, e = .returned (.slice (some ⟨g, 0, none⟩) ids.length cap) /\ Below w.heap.size w w' /\ w'.ownsRow w.heap.size 2 1 (.slice (some ⟨g, 0, none⟩) ids.length cap) ids.length (ids.map (Value.int .i64)) := by
 have hi := infoI64
 cases hq : Tryz.prog.info? 2 with
 | none => rw [hq] at hi; simp at hi
 | some i0 =>
   rw [hq] at hi
   simp only [Option.map_some, Option.some.injEq, Prod.mk.injEq] at hi
   refine (AnyE.slices_Clone Tryz.lClone i0 (Value.int .i64 0) 1 8 hq hi.1 hi.2.1 hi.2.2 rfl (by omega) Tryz.sizeOf2 b off ids.length c (ids.map (Value.int .i64)) w (by simp) (by unfold maxLen; omega) (by omega) ?_ ?_).mono ?_
   · intro j u hu
     have hj : j < ids.length := by
       rcases Nat.lt_or_ge j ids.length with h' | h'
       · exact h'
       · simp [List.getElem?_eq_none (by simpa using h' : (ids.map (Value.int .i64)).length <= j)] at hu
     obtain ⟨b', off', e, hc⟩ := hI j hj
     simp at e
     obtain ⟨rfl, rfl⟩ := e
     rw [hc, <- hu]
     simp [List.getD, hj]
   · intro u hu
     simp only [List.mem_map] at hu
     obtain ⟨x, _, rfl⟩ := hu
     rfl
   · rintro e w' ⟨v', rfl, ho, hne, hb⟩
     have ho' : w'.ownsRow w.heap.size 2 1 v' ids.length (ids.map (Value.int .i64)) := ho
     obtain ⟨g, cap, rfl, _⟩ := holds_of_ownsRow (enc := Value.int .i64) ho' hne
     exact ⟨g, cap, rfl, hb, ho'⟩
theorem putRow_part {w : World} {base g n cap q i : Nat} {zs ys : List Int} (h : w.ownsRow base 2 1 (.slice (some ⟨g, 0, none⟩) n cap) n (zs.map (Value.int .i64))) (hk : i + ys.length <= n) :
   (putRow (Value.int .i64) (Sort.ahead w q) g i ys.toArray).ownsRow base 2 1 (.slice (some ⟨g, 0, none⟩) n cap) n ((zs.take i ++ ys ++ zs.drop (i + ys.length)).map (Value.int .i64)) := by
 have hz : zs.length = n := by simpa using h.1
 rcases h.2 with ⟨e0, _⟩ | ⟨g', cap', cur, e0, hb, hg, hn, hm, hs, ht⟩
 · cases e0
 · injection e0 with e1 _ e3
   injection e1 with e1
   injection e1 with e1
   subst e1; subst e3
   refine ⟨by simp; omega, .inr ⟨g, cap, putCells (Value.int .i64) i ys.toArray cur, rfl, hb, ?_, hn, hm, by simpa [putCells] using hs, ?_⟩⟩
   · simp [putRow, mapBlock, Sort.ahead, Array.getElem?_modify, hg, onCells]
   · apply List.ext_getElem?
     intro j
     have e1 : ∀ j, j < n -> cur[j]? = (zs.map (Value.int .i64))[j]? := fun j hj => by
       have : (cur.toList.take (n * 1))[j]? = (zs.map (Value.int .i64))[j]? := by rw [ht]
       rw [List.getElem?_take, if_pos (by omega), Array.getElem?_toList] at this
       exact this
     rw [List.getElem?_take, Array.getElem?_toList]
     by_cases hj : j < n
     · have hjc : j < cur.size := by omega
       rw [if_pos (by omega)]
       simp only [putCells, Array.getElem?_mapIdx, List.size_toArray]
       by_cases h1 : j < i
       · rw [e1 j hj, List.append_assoc, List.map_append, List.getElem?_append_left (by simp; omega)]
         simp only [List.getElem?_map, List.getElem?_take, if_pos h1]
         rw [List.getElem?_eq_getElem (by omega)]
         simp; omega
       · by_cases h2 : j < i + ys.length
         · rw [Array.getElem?_eq_getElem hjc, Option.map_some, if_pos (by omega), List.append_assoc, List.map_append, List.getElem?_append_right (by simp; omega), List.map_append, List.getElem?_append_left (by simp; omega)]
           have e4 : j - (List.map (Value.int .i64) (List.take i zs)).length = j - i := by simp; omega
           rw [e4, List.getElem?_map, List.getElem?_eq_getElem (by omega)]
           simp [getElem!_pos, show j - i < ys.length by omega]
         · rw [e1 j hj, List.map_append, List.getElem?_append_right (by simp; omega)]
           have e4 : j - (List.map (Value.int .i64) (List.take i zs ++ ys)).length = j - (i + ys.length) := by simp; omega
           rw [e4, List.getElem?_map, List.getElem?_map, List.getElem?_drop, show i + ys.length + (j - (i + ys.length)) = j by omega, List.getElem?_eq_getElem (by omega)]
           simp; omega
     · rw [if_neg (by omega), List.getElem?_eq_none (by simp; omega)]
theorem reverse_ints (g cap c2 i j base : Nat) (ids : List Int) (w : World) (ho : w.ownsRow base 2 1 (.slice (some ⟨g, 0, none⟩) ids.length cap) ids.length (ids.map (Value.int .i64))) (hi : i <= j) (hj : j < ids.length) (hl : ids.length <= 1048576) (m : Nat) (hm : m = j + 1 - i) :
   Calls Tryz.prog 143 #[.slice (some ⟨g, i, none⟩) m c2] w fun e w' => e = .returned (.tuple #[]) /\ Below base w w' /\ w'.ownsRow base 2 1 (.slice (some ⟨g, 0, none⟩) ids.length cap) ids.length ((revL ids i j).map (Value.int .i64)) := by
 obtain ⟨g', cap', e1, hb, hlt, hn, hmx, _, hH⟩ := holds_of_ownsRow (enc := Value.int .i64) ho (by simp)
 simp at e1
 obtain ⟨rfl, rfl⟩ := e1
 have hlen : ((ids.drop i).take (j + 1 - i)).length = m := by simp; omega
 have hc := AnyE.slices_Reverse Tryz.lReverse (Value.int .i64) (fun _ => rfl) g i c2 ((ids.drop i).take (j + 1 - i)) w (fun k hk => by
   have hk' : k < m := by simpa [hlen] using hk
   have := hH (i + k) (by simp; omega)
   rw [Nat.zero_add] at this
   refine ⟨this.1.trans ?_, this.2⟩
   simp [getElem!_pos, show i + k < ids.length by omega, show k < j + 1 - i by omega]) (by omega)
 rw [hlen] at hc
 refine hc.mono ?_
 rintro e w' ⟨rfl, q, rfl⟩
 refine ⟨rfl, ?_, ?_⟩
 · exact ⟨rfl, rfl, rfl, by simp [putRow, mapBlock, Sort.ahead], fun k hk => by simp [putRow, mapBlock, Sort.ahead, Array.getElem?_modify, show g ≠ k by omega]⟩
 · have hh := putRow_part (q := q) (i := i) (ys := ((ids.drop i).take (j + 1 - i)).reverse) ho (by simp; omega)
   have e5 : i + ((ids.drop i).take (j + 1 - i)).reverse.length = j + 1 := by simp; omega
   rw [e5] at hh
   exact hh
end Go.Proofs.YtjlhmkmhehcmkaaGreat
namespace Go.Proofs.YtjlhmkmhehcmkaaGreat
open Go.RowKit
def HowOk (w : World) (ok : Bool) (ids' : List Int) (e : Ending) (w' : World) : Prop :=
 Below w.heap.size w w' /\ ((ok = false /\ e = .returned (.tuple #[.slice none 0 0, .bool false])) ∨
   (ok = true /\ ∃ g cap, e = .returned (.tuple #[.slice (some ⟨g, 0, none⟩) ids'.length cap, .bool true]) /\ w'.ownsRow w.heap.size 2 1 (.slice (some ⟨g, 0, none⟩) ids'.length cap) ids'.length (ids'.map (Value.int .i64))))
end Go.Proofs.YtjlhmkmhehcmkaaGreat