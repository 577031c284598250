import Derived.Test.YtfcplmageokdiaeLiftCase
namespace Go.Proofs.Ytfcplmageokdiae
open Go.ChangeShapes Go.WideShapes Go.ChangeAt Go.RowKit Go.Joins Go.Deep

theorem array2 {α : Type} {cs : Array α} (h : cs.size = 2) : ∃ c0 c1, cs = #[c0, c1] := by
  match cs, h with
  | ⟨[c0, c1]⟩, _ => exact ⟨c0, c1, rfl⟩
theorem Try.cellsRoute : Try.prog.cellsOf 30 = 2 := by kernel_rfl
set_option maxRecDepth 100000 in
theorem route_open {H : Type} {enc : TypeId × Value → H} {W : World} {r : Reach} {base : Nat} {v : Value} {d : DataW H} {p : List MemPlace}
    (hv : Value.okWide Try.prog W r base 30 v) (h : DataW.Trod enc Try.prog W 0 (fun _ => true) true 30 v d p) :
    ∃ veh bi c2 ids, v = .agg #[.int .i64 veh, .slice bi (List.length ids) c2] ∧ List.length ids ≤ 9223372036854775807 ∧ IntsAt W bi ids := by
  obtain ⟨cs, rfl, hsz⟩ := okWide_struct Try.underlying30 hv
  obtain ⟨c0, c1, rfl⟩ := array2 (hsz.trans Try.cellsRoute)
  obtain ⟨fuel, hf⟩ := h
  simp only [Value.cells] at hf
  obtain ⟨z0, z1, m', _, _, k0, k1⟩ := trod_struct2 Try.underlying30 hf
  simp only [Try.cellsInt, Try.cellsInts, List.drop_zero, List.drop_succ_cons, List.take_succ_cons, List.take_zero] at k0 k1
  obtain ⟨n, e0, _, _⟩ := DataW.trod_int Try.underlying2 k0
  obtain ⟨a, lt, cap, zs, e1, rfl, hlt, hA⟩ := ints_open k1
  simp at e0 e1
  subst e0 e1
  exact ⟨n, a, cap, zs, rfl, hlt, hA⟩

end Go.Proofs.Ytfcplmageokdiae
