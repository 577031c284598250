import Derived.Test.YtehfjfmfpdgibaaGreatDoorPack1
import Derived.Laws.BytesArg
namespace Go.Proofs.YtehfjfmfpdgibaaGreatDoor
open Go.RowKit
def digS (k : Nat) : List Int := if _h : k = 0 then [] else digS (k / 10) ++ [48 + (k : Int) % 10]
decreasing_by omega
theorem digS_zero : digS 0 = [] := by unfold digS; simp
theorem digS_pos {k : Nat} (h : k ≠ 0) : digS k = digS (k / 10) ++ [48 + (k : Int) % 10] := by rw [digS, dif_neg h]
theorem digS_len : ∀ (f k : Nat), k < 10 ^ f -> (digS k).length <= f
 | 0, k, h => by
   have : k = 0 := by simpa using h
   subst this
   rw [digS_zero]; simp
 | f + 1, k, h => by
   by_cases h0 : k = 0
   · subst h0; rw [digS_zero]; simp
   · rw [digS_pos h0]
     have := digS_len f (k / 10) (by rw [Nat.pow_succ] at h; omega)
     simp
     omega
def mtV (k : Nat) : ByteArray := ⟨#[109]⟩ ++ strOfNums (digS k)
theorem nums_append (a b : List Int) : strOfNums (a ++ b) = strOfNums a ++ strOfNums b := by
 apply ByteArray.ext
 simp [strOfNums]
theorem byte_cell (w : World) (n : Int) (i : Nat) (hi : i < 1) : (w.alloc (.cells #[.int .u8 n] 5)).cell? ⟨w.heap.size, 0 + i, none⟩ = some (.int .u8 (([n] : List Int).getD i 0)) := by
 rw [cell_of_row _ _ _ _ _ _ (heap_alloc_new _ _)]
 match i, hi with
 | 0, _ => rfl
set_option maxRecDepth 100000 in
set_option maxHeartbeats 1000000 in
theorem markText_any (k : Nat) (w : World) (h0 : 1 <= k) (h1 : k <= 1000000000) :
 Calls Tryz.prog 93 #[.int .i64 k] w fun e w' => e = .returned (.string (mtV k)) /\ Below w.heap.size w w' := by
 have hk0 : ¬ ((k : Int) <= 0) := by omega
 go_enter Tryz.func93, Tryz.ntmps93
 go_wp2_with fail
 go_loopw [0, 3] (fun tk ts wr => ∃ (j : Nat) (l : List Int), j <= k /\ tk = .int .i64 j /\ ts = .string (strOfNums l) /\ digS k = digS j ++ l /\ l.length <= 10 /\ Below w.heap.size w wr) (fun tk _ _ => (intOf tk).toNat)
 case atStart => exact ⟨k, [], Nat.le_refl _, rfl, rfl, by simp, by simp, Below.refl _ _⟩
 case round =>
  obtain ⟨j, l, hj, rfl, rfl, hd, hl, hb⟩ := hrel
  have HD : Hid (digS k = digS j ++ l) := hd
  have B1 : Hid (Below w.heap.size w wr) := hb
  clear hd hb
  have HLl : Hid ((digS k).length <= 10) := digS_len 10 k (by omega)
  have hss := strOfNums_size l
  by_cases hj0 : 0 < j
  · have hj' : (0 : Int) < j := by omega
    have hl2 : l.length + 1 <= 10 := by
     have := HLl.out
     rw [HD.out, digS_pos (by omega)] at this
     simp at this
     omega
    have HD2 : Hid (digS k = digS (j / 10) ++ ([48 + (j : Int) % 10] ++ l)) := by
     show _ = _
     rw [HD.out, digS_pos (by omega), List.append_assoc]
    have HA : Hid (strOfNums ([48 + (j : Int) % 10] ++ l) = strOfNums [48 + (j : Int) % 10] ++ strOfNums l) := nums_append _ _
    have hconv := run_convert_bytes_arg (P := Tryz.prog) _ 97 5 Tryz.underlying97 Tryz.underlying5 wr.heap.size 0 1 1 [48 + (j : Int) % 10] rfl (byte_cell wr (48 + (j : Int) % 10)) 9 Tryz.underlying9
    have hs1 := strOfNums_size [48 + (j : Int) % 10]
    generalize strOfNums [48 + (j : Int) % 10] = t1 at *
    generalize strOfNums l = t2 at *
    have hs1' : t1.size = 1 := by simpa using hs1
    clear hs1
    have BA : Hid (Below w.heap.size w (wr.alloc (.cells #[.int .u8 (48 + (j : Int) % 10)] 5))) := B1.out.alloc B1.out.size _
    go_wp2_with fail
    exact ⟨⟨j / 10, _, by omega, by simp, by rw [HA.out], HD2.out, by simp; omega, BA.out⟩, by simp [intOf]; omega⟩
  · have hj' : j = 0 := by omega
    subst hj'
    have HM : Hid (mtV k = ⟨#[109]⟩ ++ strOfNums l) := by
     show _ = _
     unfold mtV
     rw [HD.out, digS_zero, List.nil_append]
    clear HD hj0
    generalize strOfNums l = t2 at *
    have hm1 : (ByteArray.mk #[109]).size = 1 := rfl
    go_wp2
    go_ret
    exact ⟨by rw [HM.out]; rfl, B1.out⟩
end Go.Proofs.YtehfjfmfpdgibaaGreatDoor
