import Derived.Test.YtehfjfmfpdgibaaGreatDoorPack16
import Derived.Deep.Slices
namespace Go.Proofs.YtehfjfmfpdgibaaGreatDoor
open Go.ChangeShapes Go.WideShapes Go.ChangeAt Go.RowKit Go.Joins Go.Deep
def numAt (w : World) (b off j : Nat) : Int := match w.cell? ⟨b, off + j, none⟩ with
 | some (.int _ m) => m
 | _ => 0
theorem numAt_of {w : World} {b off j : Nat} {m : Int} (h : w.cell? ⟨b, off + j, none⟩ = some (.int .i64 m)) : w.cell? ⟨b, off + j, none⟩ = some (.int .i64 (numAt w b off j)) := by
 unfold numAt; rw [h]
theorem recs_open {H : Type} {enc : TypeId × Value -> H} {W : World} {fuel : Nat} {cs : List Value} {y : DataW H × List MemPlace} {t e : TypeId} {fs : Array Field} {k : Nat}
 (ht : Tryz.prog.underlying t = some (.slice e)) (he : Tryz.prog.underlying e = some (.struct fs)) (hk : Tryz.prog.cellsOf e = k) (hk0 : 0 < k)
 (hfs : fs.toList.map (fun f => (f.offset, f.type)) = (List.range k).map fun f => (f, 2))
 (h : DataW.trod enc Tryz.prog W 0 (fun _ => true) true fuel t cs = some y) :
 ∃ a len cap zs, cs = [.slice a len cap] /\ zs.length = len * k /\ len <= 9223372036854775807 /\ IntsAt W a zs := by
 rcases open_slice ht h with ⟨hcs, _⟩ | ⟨x, len, cap, m, n, D, Pl, hcs, _, hl, hm, hmm, _, hel⟩
 · exact ⟨none, 0, 0, [], hcs, by simp, by omega, fun j hj => by simp at hj⟩
 · simp [maxLen] at hm
   have hmc : m = cap := by simpa using hmm
   have hcell : ∀ i f, i < len -> f < k -> ∃ v, W.cell? ((x.add (i * k)).add f) = some (.int .i64 v) := by
    intro i f hi hf
    obtain ⟨cs', hc, htr⟩ := hel i (by omega)
    rw [hk] at hc
    obtain ⟨xs, n', _, _, hlen, hxl, hff⟩ := DataW.trod_struct he htr
    rw [hk] at hlen
    have hsz : fs.size = k := by
     have := congrArg List.length hfs
     simpa using this
    have hfl : fs[f]? = some fs[f] := by simp [hsz, hf]
    have hft : (fs[f].offset, fs[f].type) = (f, 2) := by
     have := congrArg (fun l => l[f]?) hfs
     simp [hsz, hf] at this
     simp [this]
    simp at hft
    have h1 := hff f _ hfl
    rw [hft.1, hft.2, Tryz.cellsInt] at h1
    have h2 : xs[f]? = some xs[f] := by simp
    rw [h2] at h1
    obtain ⟨v, hv, _, _⟩ := DataW.trod_int Tryz.underlying2 h1
    have h3 : cs'[f]? = some (.int .i64 v) := by
     have := congrArg (fun l => l[0]?) hv
     simpa [List.getElem?_take, List.getElem?_drop] using this
    obtain ⟨_, _, hcc⟩ := World.cells?_some hc
    exact ⟨v, by rw [hcc f hf, h3]⟩
   by_cases hlen : len = 0
   · subst hlen
     exact ⟨some x, 0, cap, [], hcs, by simp, by omega, fun j hj => by simp at hj⟩
   · obtain ⟨b, off, spot⟩ := x
     have hspot : spot = none := by
      obtain ⟨v, hv⟩ := hcell 0 0 (by omega) hk0
      simpa [Addr.add] using World.cell?_spot hv
     subst hspot
     refine ⟨some ⟨b, off, none⟩, len, cap, (List.range (len * k)).map fun j => numAt W b off j, hcs, by simp, by omega, fun j hj => ⟨b, off, rfl, ?_⟩⟩
     have hj' : j < len * k := by simpa using hj
     obtain ⟨v, hv⟩ := hcell (j / k) (j % k) ((Nat.div_lt_iff_lt_mul hk0).2 hj') (Nat.mod_lt _ hk0)
     rw [add_plain, add_plain, Nat.add_assoc, Nat.mul_comm, Nat.div_add_mod] at hv
     rw [List.getD_eq_getElem?_getD, List.getElem?_map, List.getElem?_range hj']
     exact numAt_of hv
theorem Tryz.cellsCase : Tryz.prog.cellsOf 206 = 5 := by kernel_rfl
theorem Tryz.cellsOrd : Tryz.prog.cellsOf 286 = 6 := by kernel_rfl
theorem Tryz.cellsVeh : Tryz.prog.cellsOf 288 = 5 := by kernel_rfl
theorem Tryz.cellsOrds : Tryz.prog.cellsOf 203 = 1 := by kernel_rfl
theorem Tryz.cellsVehs : Tryz.prog.cellsOf 204 = 1 := by kernel_rfl
theorem Tryz.cellsInts : Tryz.prog.cellsOf 44 = 1 := by kernel_rfl
theorem Tryz.cellsRoute : Tryz.prog.cellsOf 284 = 2 := by kernel_rfl
end Go.Proofs.YtehfjfmfpdgibaaGreatDoor
