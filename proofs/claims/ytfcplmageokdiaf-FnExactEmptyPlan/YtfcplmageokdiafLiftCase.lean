import Derived.Test.YtfcplmageokdiafLiftRecs
namespace Go.Proofs.Ytfcplmageokdiaf
open Go.ChangeShapes Go.WideShapes Go.ChangeAt Go.RowKit Go.Joins Go.Deep

theorem array5 {α : Type} {cs : Array α} (h : cs.size = 5) : ∃ c0 c1 c2 c3 c4, cs = #[c0, c1, c2, c3, c4] := by
  obtain ⟨l⟩ := cs
  match l, h with
  | [c0, c1, c2, c3, c4], _ => exact ⟨c0, c1, c2, c3, c4, rfl⟩

theorem Try.cellsCase : Try.prog.cellsOf 28 = 5 := by kernel_rfl
theorem Try.cellsOrd : Try.prog.cellsOf 94 = 6 := by kernel_rfl
theorem Try.cellsVeh : Try.prog.cellsOf 96 = 5 := by kernel_rfl
theorem Try.cellsOrds : Try.prog.cellsOf 25 = 1 := by kernel_rfl
theorem Try.cellsVehs : Try.prog.cellsOf 26 = 1 := by kernel_rfl
theorem Try.cellsInts : Try.prog.cellsOf 22 = 1 := by kernel_rfl

set_option maxRecDepth 100000 in
/-- A case that came in, opened. -/
theorem case_open {H : Type} {enc : TypeId × Value → H} {W : World} {r : Reach} {base : Nat} {v : Value} {d : DataW H} {p : List MemPlace}
    (hv : Value.okWide Try.prog W r base 28 v) (h : DataW.Trod enc Try.prog W 0 (fun _ => true) true 28 v d p) :
    ∃ n fine a ao av cap ko co kv cv zs os vs, v = .agg #[.int .i64 n, .slice a (List.length zs) cap, .slice ao ko co, .slice av kv cv, .int .i64 fine] ∧ List.length os = ko * 6 ∧ List.length vs = kv * 5 ∧
      List.length zs ≤ 9223372036854775807 ∧ ko ≤ 9223372036854775807 ∧ kv ≤ 9223372036854775807 ∧ IntsAt W a zs ∧ IntsAt W ao os ∧ IntsAt W av vs := by
  obtain ⟨cs, rfl, hsz⟩ := okWide_struct Try.underlying28 hv
  obtain ⟨c0, c1, c2, c3, c4, rfl⟩ := array5 (hsz.trans Try.cellsCase)
  obtain ⟨fuel, hf⟩ := h
  obtain ⟨y0, y1, y2, y3, m, _, _, h0, h1, h2, h3⟩ := trod_struct4 Try.underlying28 hf
  simp only [Value.cells, Try.cellsMat, Try.cellsOrds, Try.cellsVehs, Try.cellsInt, List.drop_zero, List.drop_succ_cons, List.take_succ_cons, List.take_zero] at h0 h1 h2 h3
  obtain ⟨z0, z1, m', _, _, k0, k1⟩ := trod_struct2 Try.underlying24 h0
  simp only [Try.cellsInt, Try.cellsInts, List.drop_zero, List.drop_succ_cons, List.take_succ_cons, List.take_zero] at k0 k1
  obtain ⟨n, e0, _, _⟩ := DataW.trod_int Try.underlying2 k0
  obtain ⟨a, lt, cap, zs, e1, rfl, hlt, hA⟩ := ints_open k1
  obtain ⟨ao, ko, co, os, e2, hlo, hko, hO⟩ := recs_open Try.underlying25 Try.underlying94 Try.cellsOrd (by omega) (by kernel_rfl) h1
  obtain ⟨av, kv, cv, vs, e3, hlv, hkv, hV⟩ := recs_open Try.underlying26 Try.underlying96 Try.cellsVeh (by omega) (by kernel_rfl) h2
  obtain ⟨fine, e4, _, _⟩ := DataW.trod_int Try.underlying2 h3
  simp at e0 e1 e2 e3 e4
  subst e0 e1 e2 e3 e4
  exact ⟨n, fine, a, ao, av, cap, ko, co, kv, cv, zs, os, vs, rfl, hlo, hlv, hlt, hko, hkv, hA, hO, hV⟩

end Go.Proofs.Ytfcplmageokdiaf
