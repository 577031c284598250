import Derived.Test.YtehfjfmfpdgibaaGreatDoorPack0
import Derived.Test.YtehfjfmfpdgibaaGreatDoorPack1
import Derived.Shelf.Small.Strs
namespace Go.Proofs.YtehfjfmfpdgibaaGreatDoor
open Go.Shelf Go.Proofs Go.RowKit
def Tryz.lays106_ren : Go.Shelf.Ren := ⟨fun | 106 => 88 | 213 => 134 | 265 => 167 | n => n, fun | 9 => 9 | 3 => 3 | n => n, fun | n => n⟩
theorem Tryz.lays106 : Go.Proofs.Lays.n106 Tryz.prog Tryz.lays106_ren := {
 mixed := by kernel_rfl
 f106 := Tryz.func88.trans (congrArg some (by kernel_rfl))
 f213 := Tryz.func134.trans (congrArg some (by kernel_rfl))
 f265 := Tryz.func167.trans (congrArg some (by kernel_rfl))
 t3 := Tryz.underlying3
 a3 := Tryz.isAgg3
 z3 := Tryz.sizeOf3
 v3 := Tryz.zeroValue3
 t9 := Tryz.underlying9
 a9 := Tryz.isAgg9
 z9 := Tryz.sizeOf9
 v9 := Tryz.zeroValue9 }
theorem Tryz.strings_Compare (a b : ByteArray) (w : World) :
 Calls Tryz.prog 88 #[.string a, .string b] w fun e w' => e = .returned (.int .i64 (Lib.compareBytes a.data.toList b.data.toList)) /\ w' = w := Any.strings_Compare Tryz.lays106 a b w
end Go.Proofs.YtehfjfmfpdgibaaGreatDoor

namespace Go.Proofs.YtehfjfmfpdgibaaGreatDoor
open Go.RowKit
def cmpT (x y : ByteArray) : Int := Lib.compareBytes x.data.toList y.data.toList
theorem cmpL_lt : ∀ x y : List UInt8, (Op.bytesLess x y = true -> Lib.compareBytes x y = -1) /\ (x = y -> Lib.compareBytes x y = 0) /\ (Op.bytesLess x y = false -> x ≠ y -> Lib.compareBytes x y = 1)
 | [], [] => ⟨fun h => by simp [Op.bytesLess] at h, fun _ => rfl, fun _ h => absurd rfl h⟩
 | [], _ :: _ => ⟨fun _ => rfl, fun h => (by cases h), fun h => (by simp [Op.bytesLess] at h)⟩
 | _ :: _, [] => ⟨fun h => (by simp [Op.bytesLess] at h), fun h => (by cases h), fun _ _ => rfl⟩
 | a :: x, b :: y => by
   have ih := cmpL_lt x y
   simp only [Op.bytesLess, Lib.compareBytes]
   by_cases h1 : a < b
   · refine ⟨fun _ => by rw [if_pos h1], fun e => ?_, fun h => ?_⟩
     · injection e with e _; subst e; exact absurd h1 (UInt8.lt_irrefl _)
     · simp [h1] at h
   · rw [if_neg h1]
     by_cases h2 : b < a
     · have hne : (a == b) = false := by
        rw [beq_eq_false_iff_ne]
        intro e
        subst e
        exact absurd h2 (UInt8.lt_irrefl _)
       refine ⟨fun h => ?_, fun e => ?_, fun _ _ => by rw [if_pos h2]⟩
       · rw [hne] at h; simp [h1] at h
       · injection e with e _; subst e; exact absurd h2 (UInt8.lt_irrefl _)
     · rw [if_neg h2]
       have e : a = b := by
        rcases Nat.lt_trichotomy a.toNat b.toNat with h | h | h
        · exact absurd (UInt8.lt_iff_toNat_lt.2 h) h1
        · exact UInt8.toNat_inj.1 h
        · exact absurd (UInt8.lt_iff_toNat_lt.2 h) h2
       subst e
       refine ⟨fun h => ih.1 (by simpa [h1] using h), fun e => ih.2.1 (by injection e), fun h hn => ih.2.2 (by simpa using h) (fun e => hn (by rw [e]))⟩
theorem cmpT_lt {x y : ByteArray} (h : ltT x y = true) : cmpT x y = -1 := by
 unfold ltT at h
 rw [ByteArray.toList_eq, ByteArray.toList_eq] at h
 exact (cmpL_lt _ _).1 h
theorem cmpT_eq {x y : ByteArray} (h : x = y) : cmpT x y = 0 := (cmpL_lt _ _).2.1 (by rw [h])
theorem cmpT_gt {x y : ByteArray} (h : ltT x y = false) (hne : x ≠ y) : cmpT x y = 1 := by
 unfold ltT at h
 rw [ByteArray.toList_eq, ByteArray.toList_eq] at h
 exact (cmpL_lt _ _).2.2 h (fun e => hne (ByteArray.ext (Array.toList_inj.1 e)))
theorem cmpT_ge {x y : ByteArray} (h : ltT x y = false) : ¬ cmpT x y < 0 := by
 by_cases e : x = y
 · rw [cmpT_eq e]; omega
 · rw [cmpT_gt h e]; omega
end Go.Proofs.YtehfjfmfpdgibaaGreatDoor
