import Derived.Test.YtaehhlkpbhmdfaaPack1
import Derived.ProofKit
import Derived.OpenShut
import Derived.ChangeOld
import Derived.Lib.SmallJoins
namespace Go.Proofs.Ytaehhlkpbhmdfaa
open Go.ChangeShapes Go.WideShapes Go.ChangeAt Go.RowKit Go.Joins

theorem Try.own : ownKnob Try.prog.godebug = none := by kernel_rfl
theorem Try.laidOut : laidOutB Try.prog = true := by kernel_rfl

end Go.Proofs.Ytaehhlkpbhmdfaa

namespace Go.Proofs.Ytaehhlkpbhmdfaa
open Go.ChangeShapes Go.WideShapes Go.ChangeAt Go.RowKit Go.Joins

theorem Try.cellsInt : Try.prog.cellsOf 2 = 1 := by kernel_rfl

/-- A slice of int64s that came in, opened. -/
theorem ints_open {H : Type} {enc : TypeId × Value → H} {W : World} {fuel : Nat} {cs : List Value} {y : DataW H × List MemPlace} (h : DataW.trod enc Try.prog W 0 (fun _ => true) true fuel 24 cs = some y) :
    ∃ a len cap zs, cs = [.slice a len cap] ∧ zs.length = len ∧ len ≤ 9223372036854775807 ∧ IntsAt W a zs := by
  rcases open_ints Try.underlying24 Try.underlying2 Try.cellsInt h with ⟨hcs, _⟩ | ⟨x, l, c, zs, hcs, _, hl, hm, hz, _, hcell, _⟩
  · exact ⟨none, 0, 0, [], hcs, rfl, by omega, fun j hj => by simp at hj⟩
  · simp [maxLen] at hm
    have hzc : zs.length = c := by simpa using hz
    have htl : (zs.take l).length = l := by rw [List.length_take]; omega
    refine ⟨some x, l, c, zs.take l, hcs, htl, by omega, fun j hj => ?_⟩
    rw [htl] at hj
    obtain ⟨b, off, rfl, hc⟩ := ints_at hcell (by omega)
    refine ⟨b, off, rfl, ?_⟩
    rw [hc j (by omega)]
    simp [List.getD, hj]

end Go.Proofs.Ytaehhlkpbhmdfaa

namespace Go.Proofs.Ytaehhlkpbhmdfaa

theorem Try.cellsMat : Try.prog.cellsOf 42 = 2 := by kernel_rfl

end Go.Proofs.Ytaehhlkpbhmdfaa
