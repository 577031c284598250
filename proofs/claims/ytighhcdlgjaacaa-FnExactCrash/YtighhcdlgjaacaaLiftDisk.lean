import Derived.Test.YtighhcdlgjaacaaPack15
import Derived.Test.YtighhcdlgjaacaaPack36
import Derived.Deep.Slices
namespace Go.Proofs.Ytighhcdlgjaacaa
open Go.ChangeShapes Go.WideShapes Go.ChangeAt Go.RowKit Go.Joins Go.Deep

theorem Try.cellsStr : Try.prog.cellsOf 9 = 1 := by kernel_rfl
theorem Try.cellsFile : Try.prog.cellsOf 75 = 2 := by kernel_rfl
theorem Try.cellsDOp : Try.prog.cellsOf 36 = 4 := by kernel_rfl
theorem Try.cellsFiles : Try.prog.cellsOf 22 = 1 := by kernel_rfl
theorem Try.cellsOps : Try.prog.cellsOf 23 = 1 := by kernel_rfl
theorem Try.cellsDisk : Try.prog.cellsOf 25 = 3 := by kernel_rfl
theorem array3 {α : Type} {cs : Array α} (h : cs.size = 3) : ∃ c0 c1 c2, cs = #[c0, c1, c2] := by
  match cs, h with
  | ⟨[c0, c1, c2]⟩, _ => exact ⟨c0, c1, c2, rfl⟩

set_option maxRecDepth 100000 in
/-- Files that came in, opened. -/
theorem files_open {H : Type} {enc : TypeId × Value → H} {W : World} {fuel : Nat} {cs : List Value} {y : DataW H × List MemPlace} (h : DataW.trod enc Try.prog W 0 (fun _ => true) true fuel 22 cs = some y) :
    ∃ a c F, cs = [.slice a (List.length F) c] ∧ List.length F ≤ 9223372036854775807 ∧ TxF F ∧ FilesAt W a F := by
  rcases open_slice Try.underlying22 h with ⟨hcs, _⟩ | ⟨x, len, cap, m, n, D, Pl, hcs, _, hl, hm, hmm, _, hel⟩
  · exact ⟨none, 0, [], hcs, by simp, (fun j hj => by simp at hj), fun j hj => by simp at hj⟩
  · simp [maxLen] at hm
    have hmc : m = cap := by simpa using hmm
    have hone : ∀ i, i < len → ∃ r : FI, W.cell? ((x.add (i * 2)).add 0) = some (.string r.1) ∧ W.cell? ((x.add (i * 2)).add 1) = some (.string r.2) ∧ r.1.size ≤ 9223372036854775807 ∧ r.2.size ≤ 9223372036854775807 := by
      intro i hi
      obtain ⟨cs', hc, htr⟩ := hel i (by omega)
      rw [Try.cellsFile] at hc
      obtain ⟨_, _, hcc⟩ := World.cells?_some hc
      obtain ⟨z0, z1, m', _, _, k0, k1⟩ := trod_struct2 Try.underlying75 htr
      simp only [Try.cellsStr, List.drop_zero] at k0 k1
      obtain ⟨s0, e0, _, w0⟩ := DataW.trod_string Try.underlying9 k0
      obtain ⟨s1, e1, _, w1⟩ := DataW.trod_string Try.underlying9 k1
      simp [maxLen] at w0 w1
      refine ⟨(s0, s1), ?_, ?_, by simp only; omega, by simp only; omega⟩
      · rw [hcc 0 (by omega)]
        have := congrArg (fun l => l[0]?) e0
        simpa [List.getElem?_take, List.getElem?_drop] using this
      · rw [hcc 1 (by omega)]
        have := congrArg (fun l => l[0]?) e1
        simpa [List.getElem?_take, List.getElem?_drop] using this
    by_cases hlen : len = 0
    · subst hlen
      exact ⟨some x, cap, [], hcs, by simp, (fun j hj => by simp at hj), fun j hj => by simp at hj⟩
    · obtain ⟨b, off, spot⟩ := x
      have hspot : spot = none := by
        obtain ⟨r, hv, _⟩ := hone 0 (by omega)
        simpa [Addr.add] using World.cell?_spot hv
      subst hspot
      have hch : ∃ f : Nat → FI, ∀ i, i < len → W.cell? ((Addr.add ⟨b, off, none⟩ (i * 2)).add 0) = some (.string (f i).1) ∧ W.cell? ((Addr.add ⟨b, off, none⟩ (i * 2)).add 1) = some (.string (f i).2) ∧ (f i).1.size ≤ 9223372036854775807 ∧ (f i).2.size ≤ 9223372036854775807 := by
        refine ⟨fun i => if hi : i < len then Classical.choose (hone i hi) else fi0, fun i hi => ?_⟩
        simp only [dif_pos hi]
        exact Classical.choose_spec (hone i hi)
      obtain ⟨f, hf⟩ := hch
      have hR : ((List.range len).map f).length = len := by simp
      have hget : ∀ j, j < len → ((List.range len).map f).getD j fi0 = f j := fun j hj => by
        rw [List.getD_eq_getElem?_getD, List.getElem?_map, List.getElem?_range hj]; rfl
      refine ⟨some ⟨b, off, none⟩, cap, (List.range len).map f, by rw [hR]; exact hcs, by rw [hR]; omega, fun j hj => ?_, fun j hj => ?_⟩
      · rw [hR] at hj
        rw [hget j hj]
        exact ⟨(hf j hj).2.2.1, (hf j hj).2.2.2⟩
      · rw [hR] at hj
        obtain ⟨h1, h2, _, _⟩ := hf j hj
        rw [add_plain, add_plain] at h1 h2
        rw [hget j hj]
        exact ⟨b, off, rfl, h1, h2⟩
set_option maxRecDepth 100000 in
/-- Ops that came in, opened. -/
theorem ops_open {H : Type} {enc : TypeId × Value → H} {W : World} {fuel : Nat} {cs : List Value} {y : DataW H × List MemPlace} (h : DataW.trod enc Try.prog W 0 (fun _ => true) true fuel 23 cs = some y) :
    ∃ a c F, cs = [.slice a (List.length F) c] ∧ List.length F ≤ 9223372036854775807 ∧ TxO F ∧ OpsAt W a F := by
  rcases open_slice Try.underlying23 h with ⟨hcs, _⟩ | ⟨x, len, cap, m, n, D, Pl, hcs, _, hl, hm, hmm, _, hel⟩
  · exact ⟨none, 0, [], hcs, by simp, (fun j hj => by simp at hj), fun j hj => by simp at hj⟩
  · simp [maxLen] at hm
    have hmc : m = cap := by simpa using hmm
    have hone : ∀ i, i < len → ∃ r : OP, W.cell? ((x.add (i * 4)).add 0) = some (.int .i64 r.k) ∧ W.cell? ((x.add (i * 4)).add 1) = some (.string r.n) ∧ W.cell? ((x.add (i * 4)).add 2) = some (.string r.t) ∧ W.cell? ((x.add (i * 4)).add 3) = some (.string r.d) ∧ r.n.size ≤ 9223372036854775807 ∧ r.t.size ≤ 9223372036854775807 ∧ r.d.size ≤ 9223372036854775807 := by
      intro i hi
      obtain ⟨cs', hc, htr⟩ := hel i (by omega)
      rw [Try.cellsDOp] at hc
      obtain ⟨_, _, hcc⟩ := World.cells?_some hc
      obtain ⟨xs, n', _, _, hln, hxl, hff⟩ := DataW.trod_struct Try.underlying36 htr
      have k0 := hff 0 _ rfl
      have k1 := hff 1 _ rfl
      have k2 := hff 2 _ rfl
      have k3 := hff 3 _ rfl
      have hx4 : xs.length = 4 := by simpa using hxl
      obtain ⟨a0, a1, a2, a3, rfl⟩ : ∃ a0 a1 a2 a3, xs = [a0, a1, a2, a3] := by
        match xs, hx4 with
        | [a0, a1, a2, a3], _ => exact ⟨a0, a1, a2, a3, rfl⟩
      simp only [List.getElem?_cons_zero, List.getElem?_cons_succ] at k0 k1 k2 k3
      obtain ⟨kk, e0, _, _⟩ := DataW.trod_int Try.underlying2 k0
      obtain ⟨s1, e1, _, w1⟩ := DataW.trod_string Try.underlying9 k1
      obtain ⟨s2, e2, _, w2⟩ := DataW.trod_string Try.underlying9 k2
      obtain ⟨s3, e3, _, w3⟩ := DataW.trod_string Try.underlying9 k3
      simp [maxLen] at w1 w2 w3
      refine ⟨⟨kk, s1, s2, s3⟩, ?_, ?_, ?_, ?_, by simp only; omega, by simp only; omega, by simp only; omega⟩
      · rw [hcc 0 (by omega)]
        have := congrArg (fun l => l[0]?) e0
        simp [List.getElem?_take] at this
        exact this.2
      · rw [hcc 1 (by omega)]
        have := congrArg (fun l => l[0]?) e1
        simp [List.getElem?_take] at this
        exact this.2
      · rw [hcc 2 (by omega)]
        have := congrArg (fun l => l[0]?) e2
        simp [List.getElem?_take, List.getElem?_drop] at this
        exact this.2
      · rw [hcc 3 (by omega)]
        have := congrArg (fun l => l[0]?) e3
        simp [List.getElem?_take, List.getElem?_drop] at this
        exact this.2
    by_cases hlen : len = 0
    · subst hlen
      exact ⟨some x, cap, [], hcs, by simp, (fun j hj => by simp at hj), fun j hj => by simp at hj⟩
    · obtain ⟨b, off, spot⟩ := x
      have hspot : spot = none := by
        obtain ⟨r, hv, _⟩ := hone 0 (by omega)
        simpa [Addr.add] using World.cell?_spot hv
      subst hspot
      have hch : ∃ f : Nat → OP, ∀ i, i < len → W.cell? ((Addr.add ⟨b, off, none⟩ (i * 4)).add 0) = some (.int .i64 (f i).k) ∧ W.cell? ((Addr.add ⟨b, off, none⟩ (i * 4)).add 1) = some (.string (f i).n) ∧ W.cell? ((Addr.add ⟨b, off, none⟩ (i * 4)).add 2) = some (.string (f i).t) ∧ W.cell? ((Addr.add ⟨b, off, none⟩ (i * 4)).add 3) = some (.string (f i).d) ∧ (f i).n.size ≤ 9223372036854775807 ∧ (f i).t.size ≤ 9223372036854775807 ∧ (f i).d.size ≤ 9223372036854775807 := by
        refine ⟨fun i => if hi : i < len then Classical.choose (hone i hi) else op0, fun i hi => ?_⟩
        simp only [dif_pos hi]
        exact Classical.choose_spec (hone i hi)
      obtain ⟨f, hf⟩ := hch
      have hR : ((List.range len).map f).length = len := by simp
      have hget : ∀ j, j < len → ((List.range len).map f).getD j op0 = f j := fun j hj => by
        rw [List.getD_eq_getElem?_getD, List.getElem?_map, List.getElem?_range hj]; rfl
      refine ⟨some ⟨b, off, none⟩, cap, (List.range len).map f, by rw [hR]; exact hcs, by rw [hR]; omega, fun j hj => ?_, fun j hj => ?_⟩
      · rw [hR] at hj
        rw [hget j hj]
        exact (hf j hj).2.2.2.2
      · rw [hR] at hj
        obtain ⟨h1, h2, h3, h4, _⟩ := hf j hj
        rw [add_plain, add_plain] at h1 h2 h3 h4
        rw [hget j hj]
        exact ⟨b, off, rfl, h1, h2, h3, h4⟩
set_option maxRecDepth 100000 in
/-- A disk that came in, opened. -/
theorem disk_open {H : Type} {enc : TypeId × Value → H} {W : World} {r : Reach} {base : Nat} {v : Value} {d : DataW H} {p : List MemPlace}
    (hv : Value.okWide Try.prog W r base 25 v) (h : DataW.Trod enc Try.prog W 0 (fun _ => true) true 25 v d p) :
    ∃ la lc sa sc oa oc L S O, v = .agg #[.slice la (List.length L) lc, .slice sa (List.length S) sc, .slice oa (List.length O) oc] ∧ List.length L ≤ 9223372036854775807 ∧ List.length S ≤ 9223372036854775807 ∧ List.length O ≤ 9223372036854775807 ∧ TxF L ∧ TxF S ∧ TxO O ∧ DAt W la sa oa L S O := by
  obtain ⟨cs, rfl, hsz⟩ := okWide_struct Try.underlying25 hv
  obtain ⟨c0, c1, c2, rfl⟩ := array3 (hsz.trans Try.cellsDisk)
  obtain ⟨fuel, hf⟩ := h
  simp only [Value.cells] at hf
  obtain ⟨z0, z1, z2, m', _, _, k0, k1, k2⟩ := trod_struct3 Try.underlying25 hf
  simp only [Try.cellsFiles, Try.cellsOps, List.drop_zero, List.drop_succ_cons, List.take_succ_cons, List.take_zero] at k0 k1 k2
  obtain ⟨la, lc, L, e0, hLn, hLt, hL⟩ := files_open k0
  obtain ⟨sa, sc, S, e1, hSn, hSt, hS⟩ := files_open k1
  obtain ⟨oa, oc, O, e2, hOn, hOt, hO⟩ := ops_open k2
  simp at e0 e1 e2
  subst e0 e1 e2
  exact ⟨la, lc, sa, sc, oa, oc, L, S, O, rfl, hLn, hSn, hOn, hLt, hSt, hOt, ⟨hL, hS, hO⟩⟩

end Go.Proofs.Ytighhcdlgjaacaa
