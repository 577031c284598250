import Derived.Test.YtehfjfmfpdgibaaGreatDoorPack2
import Derived.Test.YtehfjfmfpdgibaaGreatDoorPack43
namespace Go.Proofs.YtehfjfmfpdgibaaGreatDoor
open Go.ChangeShapes Go.WideShapes Go.ChangeAt Go.RowKit Go.Joins Go.Deep
theorem Tryz.cellsPlan : Tryz.prog.cellsOf 212 = 2 := by kernel_rfl
theorem Tryz.cellsRoutes : Tryz.prog.cellsOf 210 = 1 := by kernel_rfl
theorem ints_open_wf {H : Type} {enc : TypeId × Value -> H} {W : World} {fuel : Nat} {cs : List Value} {y : DataW H × List MemPlace} (h : DataW.trod enc Tryz.prog W 0 (fun _ => true) true fuel 44 cs = some y) :
 ∃ a len cap zs, cs = [.slice a len cap] /\ zs.length = len /\ len <= 9223372036854775807 /\ IntsAt W a zs /\ ∀ x ∈ zs, (Lit.int .i64 x).wf = true := by
 rcases open_ints Tryz.underlying44 Tryz.underlying2 Tryz.cellsInt h with ⟨hcs, _⟩ | ⟨x, l, c, zs, hcs, _, hl, hm, hz, _, hcell, hwf⟩
 · exact ⟨none, 0, 0, [], hcs, rfl, by omega, fun j hj => by simp at hj, fun x hx => by cases hx⟩
 · simp [maxLen] at hm
   have hzc : zs.length = c := by simpa using hz
   have htl : (zs.take l).length = l := by rw [List.length_take]; omega
   refine ⟨some x, l, c, zs.take l, hcs, htl, by omega, fun j hj => ?_, fun x hx => hwf x (List.mem_of_mem_take hx)⟩
   rw [htl] at hj
   obtain ⟨b, off, rfl, hc⟩ := ints_at hcell (by omega)
   refine ⟨b, off, rfl, ?_⟩
   rw [hc j (by omega)]
   simp [List.getD, hj]
set_option maxRecDepth 100000 in
theorem routes_open {H : Type} {enc : TypeId × Value -> H} {W : World} {fuel : Nat} {cs : List Value} {y : DataW H × List MemPlace} (h : DataW.trod enc Tryz.prog W 0 (fun _ => true) true fuel 210 cs = some y) :
 ∃ ra rc R, cs = [.slice ra (List.length R) rc] /\ List.length R <= 9223372036854775807 /\ (∀ r ∈ R, (RT.ids r).length <= 9223372036854775807) /\ RoutesAt W ra R := by
 rcases open_slice Tryz.underlying210 h with ⟨hcs, _⟩ | ⟨x, len, cap, m, n, D, Pl, hcs, _, hl, hm, hmm, _, hel⟩
 · exact ⟨none, 0, [], hcs, by simp, (fun r hr => absurd hr (by simp)), fun j hj => by simp at hj⟩
 · simp [maxLen] at hm
   have hmc : m = cap := by simpa using hmm
   have hone : ∀ i, i < len -> ∃ r : RT, W.cell? ((x.add (i * 2)).add 0) = some (.int .i64 r.v) /\ W.cell? ((x.add (i * 2)).add 1) = some (.slice r.a r.ids.length r.c) /\ r.ids.length <= 9223372036854775807 /\ IntsAt W r.a r.ids := by
    intro i hi
    obtain ⟨cs', hc, htr⟩ := hel i (by omega)
    rw [Tryz.cellsRoute] at hc
    obtain ⟨_, _, hcc⟩ := World.cells?_some hc
    obtain ⟨z0, z1, m', _, _, k0, k1⟩ := trod_struct2 Tryz.underlying284 htr
    simp only [Tryz.cellsInt, Tryz.cellsInts, List.drop_zero] at k0 k1
    obtain ⟨n, e0, _, _⟩ := DataW.trod_int Tryz.underlying2 k0
    obtain ⟨a, lt, cap, zs, e1, rfl, hlt, hA⟩ := ints_open k1
    refine ⟨⟨n, a, zs, cap⟩, ?_, ?_, hlt, hA⟩
    · rw [hcc 0 (by omega)]
      have := congrArg (fun l => l[0]?) e0
      simpa [List.getElem?_take, List.getElem?_drop] using this
    · rw [hcc 1 (by omega)]
      have := congrArg (fun l => l[0]?) e1
      simpa [List.getElem?_take, List.getElem?_drop] using this
   by_cases hlen : len = 0
   · subst hlen
     exact ⟨some x, cap, [], hcs, by simp, (fun r hr => absurd hr (by simp)), fun j hj => by simp at hj⟩
   · obtain ⟨b, off, spot⟩ := x
     have hspot : spot = none := by
      obtain ⟨r, hv, _⟩ := hone 0 (by omega)
      simpa [Addr.add] using World.cell?_spot hv
     subst hspot
     have hch : ∃ f : Nat -> RT, ∀ i, i < len -> W.cell? ((Addr.add ⟨b, off, none⟩ (i * 2)).add 0) = some (.int .i64 (f i).v) /\ W.cell? ((Addr.add ⟨b, off, none⟩ (i * 2)).add 1) = some (.slice (f i).a (f i).ids.length (f i).c) /\ (f i).ids.length <= 9223372036854775807 /\ IntsAt W (f i).a (f i).ids := by
      refine ⟨fun i => if hi : i < len then Classical.choose (hone i hi) else rt0, fun i hi => ?_⟩
      simp only [dif_pos hi]
      exact Classical.choose_spec (hone i hi)
     obtain ⟨f, hf⟩ := hch
     have hR : ((List.range len).map f).length = len := by simp
     refine ⟨some ⟨b, off, none⟩, cap, (List.range len).map f, by rw [hR]; exact hcs, by rw [hR]; omega, fun r hr => ?_, fun j hj => ?_⟩
     · obtain ⟨i, hi, rfl⟩ := List.mem_map.1 hr
       exact (hf i (by simpa using hi)).2.2.1
     · rw [hR] at hj
       obtain ⟨h1, h2, _, h4⟩ := hf j hj
       rw [add_plain, add_plain] at h1 h2
       have e : ((List.range len).map f).getD j rt0 = f j := by
        rw [List.getD_eq_getElem?_getD, List.getElem?_map, List.getElem?_range hj]; rfl
       rw [e]
       exact ⟨b, off, rfl, h1, h2, h4⟩
end Go.Proofs.YtehfjfmfpdgibaaGreatDoor
