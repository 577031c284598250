import Derived.Test.YtehfjfmfpdgibaaGreatDoorPack4
import Derived.Test.YtehfjfmfpdgibaaGreatDoorPack15
import Derived.Test.YtehfjfmfpdgibaaGreatDoorAppendNo0
namespace Go.Proofs.YtehfjfmfpdgibaaGreatDoor
open Go.RowKit
theorem szW_small {T : List TN} (hn : T.length <= 9223372036854775807) (hok : ∀ t ∈ T, TNOk 9223372036854775807 t) (h : (useTs T : Int) <= 1048576) : T.length <= 1048576 /\ (∀ t ∈ T, TNOk 1048576 t) /\ ∀ t ∈ T, t.small := by
 unfold useTs at h
 have ht : ∀ t ∈ T, useT t <= 1048576 := fun t hm => by have := sumF9_mem useT T t hm; omega
 have hS : ∀ t ∈ T, ∀ s ∈ t.S, useS s <= 1048576 := fun t hm s hs => by
  have h1 := ht t hm
  have h2 := sumF9_mem useS t.S s hs
  unfold useT useSs at h1
  omega
 have hV : ∀ t ∈ T, ∀ v ∈ t.V, useV v <= 1048576 := fun t hm v hv => by
  have h1 := ht t hm
  have h2 := sumF9_mem useV t.V v hv
  unfold useT useVs at h1
  omega
 refine ⟨by omega, fun t hm => ⟨?_, ?_, ?_, fun s hs => ?_, fun v hv => ?_⟩, fun t hm v hv => ?_⟩
 · have := ht t hm; unfold useT at this; omega
 · have := ht t hm; unfold useT useSs at this; omega
 · have := ht t hm; unfold useT useVs at this; omega
 · have h1 := hS t hm s hs
   have h2 := (hok t hm).os s hs
   unfold useS at h1
   exact ⟨h2.o, h2.v, by omega, by omega, by omega⟩
 · have h1 := hV t hm v hv
   have h2 := (hok t hm).ov v hv
   unfold useV at h1
   refine ⟨by omega, fun r hr => ?_, by omega, h2.w⟩
   obtain ⟨j, hj, e⟩ := List.getElem_of_mem hr
   have h3 : (allTo v.R (j + 1)).length <= (allTo v.R v.R.length).length := by
    unfold allTo
    have e1 : v.R.take (j + 1) = (v.R.take v.R.length).take (j + 1) := by rw [List.take_length]
    rw [e1]
    generalize v.R.take v.R.length = Q
    have e2 : Q = Q.take (j + 1) ++ Q.drop (j + 1) := (List.take_append_drop _ _).symm
    have e3 := congrArg (fun l => (l.flatMap RT.ids).length) e2
    simp only [List.flatMap_append, List.length_append] at e3
    omega
   rw [allTo_succ hj, List.length_append, List.getD_eq_getElem?_getD, List.getElem?_eq_getElem hj] at h3
   simp only [Option.getD_some, e] at h3
   omega
 · have h1 := hV t hm v hv
   unfold useV at h1
   omega
theorem TSm.copy {S T : List TN} (hn : T.length <= 1048576) (hok : ∀ t ∈ T, TNOk 1048576 t) (hsm : ∀ t ∈ T, t.small) (hp : S.map TN.plain = T.map TN.plain) (hr : ∀ s ∈ S, TN.room s) : TSm S := by
 refine ⟨by rw [map_len hp]; exact hn, fun s hs => ?_, fun s hs => ?_, hr⟩
 · obtain ⟨t, ht, e⟩ := mem_plain hp hs
   exact (hok t ht).plain e
 · obtain ⟨t, ht, e⟩ := mem_plain hp hs
   obtain ⟨-, -, -, e4, -⟩ := TN.plain_c e
   intro v hv
   obtain ⟨u, hu, e5⟩ := mem_plain e4 hv
   obtain ⟨-, -, e6, -⟩ := VN.plain_c e5
   rw [allTo_key (RT.key_plain e6), map_len e6]
   exact hsm t ht u hu
set_option maxRecDepth 20000 in
set_option maxHeartbeats 4000000 in
theorem lawStoreOk (a : Option Addr) (c : Nat) (T : List TN) (w : World) (hA : TensAt w a T) (hn : T.length <= 9223372036854775807) (hok : ∀ t ∈ T, TNOk 9223372036854775807 t) (hG : GS w) :
 Calls Tryz.prog 3 #[.agg #[.slice a T.length c]] w fun e w' => e = .returned (.bool true) /\ Below w.heap.size w w' := by
 have HA := hdn hA
 have HG := hdn hG
 have CZ := hdn (fun W (h : TensAt W a T) => szStore_any a c T 1048576 W h (by omega) (by omega) hn hok)
 have HSM : Hid ((useTs T : Int) <= 1048576 -> T.length <= 1048576 /\ (∀ t ∈ T, TNOk 1048576 t) /\ ∀ t ∈ T, t.small) := szW_small hn hok
 clear hA hok hG
 obtain ⟨x, HX⟩ := nmd (szW 1048576 (useTs T))
 have HXN : Hid (1048576 < (useTs T : Int) -> x = -1) := fun h => HX.out.symm.trans (szW_lt (by omega))
 have HXY : Hid ((useTs T : Int) <= 1048576 -> 0 <= x) := fun h => by have := HX.out.symm.trans (szW_le h); omega
 rw [HX.out] at CZ
 obtain ⟨r, HR⟩ := nmd (storeB T)
 obtain ⟨n, HN⟩ := nmd T.length
 rw [HN.out] at CZ HSM ⊢
 clear hn HX
 have B0 := hdn (B1x.new 24 w #[.slice a n c])
 have q0 := cell1x B0.out.s
 go_enter Tryz.func3, Tryz.ntmps3
 go_wp2_with fail
 clear q0
 refine (CZ.out _ (HA.out.below B0.out.b)).mono ?_
 rintro e w1 ⟨rfl, hb⟩
 have B1 := hdn (B0.out.below hb)
 clear hb B0 CZ
 by_cases hx : (useTs T : Int) <= 1048576
 · have hx0 := HXY.out hx
   have hxn : ¬ (x < 0) := by omega
   obtain ⟨hs1, hs2, hs3⟩ := HSM.out hx
   have HOK := hdn hs2
   have CT := hdn (fun W (h : TensAt W a T) => toStore_any a c T W h (by rw [HN.out]; exact hs1) hs2)
   have HCP := hdn (fun (S : List TN) (hp : S.map TN.plain = T.map TN.plain) (hr : ∀ s ∈ S, TN.room s) => TSm.copy (by rw [HN.out]; exact hs1) hs2 hs3 hp hr)
   rw [HN.out] at CT
   have HLN : Hid (∀ S : List TN, S.map TN.plain = T.map TN.plain -> S.length = n) := fun S h => (map_len h).trans HN.out
   have HSB : Hid (∀ S : List TN, S.map TN.plain = T.map TN.plain -> storeB S = r) := fun S h => (storeB_same h).trans HR.out
   clear hs2 hs3 hx HXN HXY HSM
   have q0 := cell1x B1.out.s
   go_wp2_with fail
   clear q0
   refine (CT.out _ (HA.out.below B1.out.b)).mono ?_
   rintro e w2 ⟨g2, S2, rfl, ⟨hp2, hr2⟩, hb, hk⟩
   have B2 := hdn (B1.out.below hb)
   have K2 := hdn hk.now
   have T2 := hdn (HCP.out S2 hp2 hr2)
   clear hb hk B1
   go_wp2_with fail
   have CSp := specStore_any (some ⟨g2, 0, none⟩) n S2 w2 K2.out T2.out
   rw [HLN.out S2 hp2, HSB.out S2 hp2] at CSp
   refine CSp.mono ?_
   rintro e w3 ⟨rfl, hb⟩
   have B3 := hdn (B2.out.below hb)
   clear hb B2 K2 T2 CSp hp2 hr2
   have q0 := cell1x B3.out.s
   go_wp2_with fail
   clear q0
   refine (CT.out _ (HA.out.below B3.out.b)).mono ?_
   rintro e w4 ⟨g4, S4, rfl, ⟨hp4, hr4⟩, hb, hk⟩
   have X4 : Hid (Below w4.heap.size w4 (w4.alloc (.cells #[.slice (some ⟨g4, 0, none⟩) n n] 29))) := (Below.refl _ _).alloc (Nat.le_refl _) _
   have B4 := hdn ((B3.out.below hb).below X4.out)
   have K4 := hdn (hk.now.below X4.out)
   have T4 := hdn (HCP.out S4 hp4 hr4)
   have Y4 : Hid ((w4.alloc (.cells #[.slice (some ⟨g4, 0, none⟩) n n] 29)).heap[w4.heap.size]? = some (.cells #[.slice (some ⟨g4, 0, none⟩) n n] 29 (0, 0))) := heap_alloc_new _ _
   clear hb hk B3 X4
   have y0 := cell1x Y4.out
   go_wp2_with fail
   clear y0
   generalize w4.alloc (.cells #[.slice (some ⟨g4, 0, none⟩) n n] 29) = W4 at *
   generalize w4.heap.size = bx at *
   have CIm := implStore_any (some ⟨g4, 0, none⟩) n S4 W4 K4.out T4.out (HG.out.below B4.out.b (Nat.le_refl _))
   rw [HLN.out S4 hp4, HSB.out S4 hp4] at CIm
   refine CIm.mono ?_
   rintro e w5 ⟨rfl, hb⟩
   have B5 := hdn (B4.out.below hb)
   have K5 := hdn (K4.out.below hb)
   have Y5 := hdn (below_row hb (row_lt Y4.out) Y4.out)
   have HP4 := hdn hp4
   clear hb B4 K4 Y4 CIm T4 hr4 hp4
   have hrr : (r != r) = false := by simp
   have q0 := cell1x B5.out.s
   have y0 := cell1x Y5.out
   have kS := And.intro q0 y0
   have EQ : Hid (∀ (g6 : Nat) (S6 : List TN) W, Below w5.heap.size w5 W -> S6.map TN.plain = T.map TN.plain -> TensAt W (some ⟨g6, 0, none⟩) S6 -> Calls Tryz.prog 12 #[.agg #[.slice (some ⟨g4, 0, none⟩) n n], .agg #[.slice (some ⟨g6, 0, none⟩) n n]] W fun e w' => e = .returned (.bool true) /\ Below W.heap.size W w') := fun g6 S6 W hb hp6 hk6 => by
    have := eqStore_same (some ⟨g4, 0, none⟩) (some ⟨g6, 0, none⟩) n n S4 S6 W (K5.out.below hb) hk6 (hp6.trans HP4.out.symm) (by rw [HLN.out S4 HP4.out]; exact hs1) (fun s hs => by obtain ⟨t, ht, e⟩ := mem_plain HP4.out hs; exact (HOK.out t ht).plain e)
    rw [HLN.out S4 HP4.out] at this
    exact this
   clear HCP HSB HP4 K5 Y5 HOK HLN
   go_wp2_with fail
   go_region_held3 (fun W => W.cell? ⟨w.heap.size, 0, none⟩ = some (.slice a n c) /\ W.cell? ⟨bx, 0, none⟩ = some (.slice (some ⟨g4, 0, none⟩) n n)) (first | with_reducible exact kS | go_keep) ((first
    | (go_at_call 10
       with_reducible refine (CT.out w5.drew (HA.out.below B5.out.b.drew)).mono ?_
       rintro e w6 ⟨g6, S6, rfl, ⟨hp6, hr6⟩, hb, hk⟩
       have D6 : Hid (Below w5.heap.size w5 w6) := (Below.refl _ _).drew.trans (show Below w5.heap.size w5.drew w6 from hb)
       have K6 := hdn hk.now
       have P6 := hdn hp6
       have kS := And.intro (keepC q0 D6.out) (keepC y0 D6.out)
       clear hb hk hp6 hr6)
    | (go_at_call 12
       with_reducible refine (EQ.out g6 S6 w6 D6.out P6.out K6.out).mono ?_
       rintro e w7 ⟨rfl, hb⟩
       have D7 : Hid (Below w5.heap.size w5 w7) := D6.out.trans (hb.mono D6.out.size)
       have B7 := hdn (B5.out.below D7.out)
       have kS := And.intro (keepC q0 D7.out) (keepC y0 D7.out)
       clear hb)))
   all_goals
    go_wp2
    go_ret
    exact ⟨rfl, B7.out.b⟩
 · have hr := HXN.out (by omega)
   subst hr
   go_wp2
   go_ret
   exact ⟨rfl, B1.out.b⟩
end Go.Proofs.YtehfjfmfpdgibaaGreatDoor
