import Derived.Test.YtcapkcallaajaaaGreatDoorPack13
import Derived.Test.YtcapkcallaajaaaGreatDoorPack25
import Derived.Test.YtcapkcallaajaaaGreatDoorPack27
namespace Go.Proofs.YtcapkcallaajaaaGreatDoor
open Go.RowKit
theorem PO.butQ {w w' : World} {base n rc m lc : Nat} {zl ol vl : Value} {ra la : Option Addr} {S : List RT} {L : List Int} (h : PO w base (.slice ra n rc) S (.slice la m lc) L) (hG : GrownBut (caseBl zl ol vl) w w') (hn : NilQ zl ol vl (.slice ra n rc) la S) : PO w' base (.slice ra n rc) S (.slice la m lc) L := by
 rcases hn with ⟨h1, h2, h3⟩ | ⟨h1, h2, h3⟩
 · subst h2 h3
   exact ⟨but_own hG h.r (fun b e => by rw [h1] at e; cases e), fun s hs => by simp at hs, but_own hG h.l (fun b e => by cases e)⟩
 · exact h.but hG (fun b hb => by
    rcases hb with e | e | e
    · rw [h1] at e; cases e
    · rw [h2] at e; cases e
    · rw [h3] at e; cases e)
theorem CM.but9 {C : Nat -> Prop} {w w' : World} {base nz zc no oc nv vc : Nat} {za oa va : Option Addr} {k : Int} (h : CM w base za nz zc oa no oc va nv vc k) (hg : GrownBut C w w') (hs : ∀ b, caseBl (.slice za nz zc) (.slice oa no oc) (.slice va nv vc) b -> ¬ C b) : CM w' base za nz zc oa no oc va nv vc k := ⟨but_own hg h.z (fun b e => hs b (.inl e)), but_own hg h.o (fun b e => hs b (.inr (.inl e))), but_own hg h.v (fun b e => hs b (.inr (.inr e)))⟩
set_option maxHeartbeats 2000000 in
theorem markReq_own (k id sd st cn cf : Int) (nm : ByteArray) (za oa va ra la : Option Addr) (nz zc no oc nv vc n rc m lc base top : Nat) (zs os vs L : List Int) (S : List RT) (w : World) (K K2 : Int) (HK : Hid (1 + ((nz : Nat) : Int) + ((no * 6 : Nat) : Int) + ((nv * 5 : Nat) : Int) = K)) (HK2 : Hid (mkK S K + (m : Int) = K2)) (h : RK w base za nz zc oa no oc va nv vc ra n rc la m lc zs os vs S L) (hap : Apt S la) (hn : NilQ (.slice za nz zc) (.slice oa no oc) (.slice va nv vc) (.slice ra n rc) la S) (bz : nz <= 256) (bo : no <= 12) (bv : nv <= 5) (bn : n <= 5) (bm : m <= 12) (hi : ∀ s ∈ S, s.ids.length <= 12) (htop : top <= w.heap.size) (hlo : RL top za nz zc oa no oc va nv vc ra n rc la m lc S) :
 Calls Tryz.prog 7 #[.agg #[.int .i64 k, .string nm, .int .i64 id, .int .i64 sd, .int .i64 st, .int .i64 cn, .slice za nz zc, .slice oa no oc, .slice va nv vc, .int .i64 cf, .slice ra n rc, .slice la m lc], .int .i64 1] w fun e w' => e = .returned (.int .i64 K2) /\ GrownBut (fun b => base <= b /\ b < top) w w' /\ CM w' base za nz zc oa no oc va nv vc 1 /\ PO w' base (.slice ra n rc) (mkS S K) (.slice la m lc) (seqL (mkK S K) m) := by
 have B0 := hdn ((Below.refl w.heap.size w).alloc (Nat.le_refl _) (.cells #[.int .i64 k, .string nm, .int .i64 id, .int .i64 sd, .int .i64 st, .int .i64 cn, .slice za nz zc, .slice oa no oc, .slice va nv vc, .int .i64 cf, .slice ra n rc, .slice la m lc] 33))
 have X0 : Hid ((w.alloc (.cells #[.int .i64 k, .string nm, .int .i64 id, .int .i64 sd, .int .i64 st, .int .i64 cn, .slice za nz zc, .slice oa no oc, .slice va nv vc, .int .i64 cf, .slice ra n rc, .slice la m lc] 33)).heap[w.heap.size]? = some (.cells #[.int .i64 k, .string nm, .int .i64 id, .int .i64 sd, .int .i64 st, .int .i64 cn, .slice za nz zc, .slice oa no oc, .slice va nv vc, .int .i64 cf, .slice ra n rc, .slice la m lc] 33 (0, 0))) := heap_alloc_new _ _
 have R0 := hdn (h.below B0.out)
 have HT := hdn htop
 have CN : Hid (∀ b, caseBl (.slice za nz zc) (.slice oa no oc) (.slice va nv vc) b -> base <= b /\ b < top) := fun b hb => ⟨(h.c.tops b hb).1, hlo.c b hb⟩
 have HN := hdn hn
 have HP := hdn hlo.p
 have HAP := hdn hap
 have HI := hdn hi
 clear h hap hn hi hlo htop
 obtain ⟨d0, d1, d2, d3, d4, d5, d6, d7, d8, d9, d10, d11⟩ := cells12q X0.out
 go_enter Tryz.func7, Tryz.ntmps7
 go_wp2_with fail
 clear d0 d1 d2 d3 d4 d5 d6 d7 d8 d9 d10 d11
 generalize (w.alloc (.cells #[.int .i64 k, .string nm, .int .i64 id, .int .i64 sd, .int .i64 st, .int .i64 cn, .slice za nz zc, .slice oa no oc, .slice va nv vc, .int .i64 cf, .slice ra n rc, .slice la m lc] 33)) = W0 at *
 refine (markCase_own cn cf 1 za oa va nz zc no oc nv vc base _ _ _ W0 R0.out.c.z R0.out.c.o R0.out.c.v (by omega) (by omega) (by omega) (by omega) (by omega)).mono ?_
 rintro e w1 ⟨rfl, hg1, hm1⟩
 have G1 : Hid (GrownBut (fun b => base <= b /\ b < top) w w1) := (GrownBut.of_below B0.out).trans (hg1.mono CN.out)
 have X1 := hdn (hg1.row X0.out (fun h => by have := (CN.out _ h).2; have := HT.out; omega))
 have M1 := hdn hm1
 have P1 := hdn (R0.out.p.1.butQ hg1 HN.out)
 have HS := hdn R0.out.p.2.1
 have HM := hdn R0.out.p.2.2
 have HT1 : Hid (top <= w1.heap.size) := by have := hg1.size; have := B0.out.size; have := HT.out; show _ <= _; omega
 clear hg1 hm1 R0 X0
 have hK : 1 <= K /\ K <= 400 := by have := HK.out; omega
 have MP : Calls Tryz.prog 20 #[.agg #[.slice ra n rc, .slice la m lc], .int .i64 K] w1 fun e w' => e = .returned (.int .i64 K2) /\ GrownBut (fun b => base <= b /\ b < top) w1 w' /\ CM w' base za nz zc oa no oc va nv vc 1 /\ PO w' base (.slice ra n rc) (mkS S K) (.slice la m lc) (seqL (mkK S K) m) := by
  rcases HN.out with ⟨h1, h2, h3⟩ | ⟨h1, h2, h3⟩
  · refine (markPlan_own ra la n rc m lc base K S L w1 P1.out HS.out HM.out HAP.out (by omega) (by omega) (fun s hs => by have := HI.out s hs; omega) (by omega) (by omega) 0 (Nat.zero_le _) (fun g e => by rw [e] at h1; cases h1) (fun a ha => by rw [h3] at ha; simp at ha) (fun g e => by rw [e] at h2; cases h2)).mono ?_
    rintro e w2 ⟨rfl, hg, hp⟩
    exact ⟨by rw [HK2.out], hg.mono (fun b hb => by omega), M1.out.but9 hg (fun b _ hb => by omega), hp⟩
  · refine (markPlan_own ra la n rc m lc base K S L w1 P1.out HS.out HM.out HAP.out (by omega) (by omega) (fun s hs => by have := HI.out s hs; omega) (by omega) (by omega) top HT1.out (fun g e => HP.out.1 g (by rw [e]; rfl)) (fun a ha g e => by
     obtain ⟨s, hs, rfl⟩ := List.mem_map.1 ha
     exact HP.out.2.1 s hs g (by rw [e]; rfl)) (fun g e => HP.out.2.2 g (by rw [e]; rfl))).mono ?_
    rintro e w2 ⟨rfl, hg, hp⟩
    exact ⟨by rw [HK2.out], hg, M1.out.but9 hg (fun b hb => by
     rcases hb with e | e | e
     · rw [h1] at e; cases e
     · rw [h2] at e; cases e
     · rw [h3] at e; cases e), hp⟩
 rw [HK.out]
 obtain ⟨d0, d1, d2, d3, d4, d5, d6, d7, d8, d9, d10, d11⟩ := cells12q X1.out
 go_wp2_with fail
 clear d0 d1 d2 d3 d4 d5 d6 d7 d8 d9 d10 d11
 refine MP.mono ?_
 rintro e w2 ⟨rfl, hg2, hm2, hp2⟩
 have G2 := hdn (G1.out.trans hg2)
 have M2 := hdn hm2
 have P2 := hdn hp2
 clear hg2 hm2 hp2 MP P1 M1 X1 G1
 go_wp2
 go_ret
 exact ⟨rfl, G2.out, M2.out, P2.out⟩
set_option maxHeartbeats 2000000 in
theorem heldReq_own (k id sd st cn cf : Int) (nm : ByteArray) (za oa va ra la : Option Addr) (nz zc no oc nv vc n rc m lc base : Nat) (S : List RT) (w : World) (K K2 : Int) (HK : Hid (1 + ((nz : Nat) : Int) + ((no * 6 : Nat) : Int) + ((nv * 5 : Nat) : Int) = K)) (HK2 : Hid (mkK S K + (m : Int) = K2)) (hm : CM w base za nz zc oa no oc va nv vc 1) (hp : PO w base (.slice ra n rc) (mkS S K) (.slice la m lc) (seqL (mkK S K) m)) (hS : S.length = n) (bz : nz <= 256) (bo : no <= 12) (bv : nv <= 5) (bn : n <= 5) (bm : m <= 12) (hi : ∀ s ∈ S, s.ids.length <= 12) :
 Calls Tryz.prog 8 #[.agg #[.int .i64 k, .string nm, .int .i64 id, .int .i64 sd, .int .i64 st, .int .i64 cn, .slice za nz zc, .slice oa no oc, .slice va nv vc, .int .i64 cf, .slice ra n rc, .slice la m lc], .int .i64 1] w fun e w' => e = .returned (.int .i64 K2) /\ Below w.heap.size w w' := by
 have B0 := hdn ((Below.refl w.heap.size w).alloc (Nat.le_refl _) (.cells #[.int .i64 k, .string nm, .int .i64 id, .int .i64 sd, .int .i64 st, .int .i64 cn, .slice za nz zc, .slice oa no oc, .slice va nv vc, .int .i64 cf, .slice ra n rc, .slice la m lc] 33))
 have X0 : Hid ((w.alloc (.cells #[.int .i64 k, .string nm, .int .i64 id, .int .i64 sd, .int .i64 st, .int .i64 cn, .slice za nz zc, .slice oa no oc, .slice va nv vc, .int .i64 cf, .slice ra n rc, .slice la m lc] 33)).heap[w.heap.size]? = some (.cells #[.int .i64 k, .string nm, .int .i64 id, .int .i64 sd, .int .i64 st, .int .i64 cn, .slice za nz zc, .slice oa no oc, .slice va nv vc, .int .i64 cf, .slice ra n rc, .slice la m lc] 33 (0, 0))) := heap_alloc_new _ _
 have M0 := hdn (hm.below B0.out)
 have P0 := hdn (hp.below B0.out)
 have HS := hdn hS
 have HI := hdn hi
 have hkb := mkK_bd S K (fun s hs => by have := hi s hs; omega)
 rw [hS] at hkb
 clear hm hp hi hS
 obtain ⟨d0, d1, d2, d3, d4, d5, d6, d7, d8, d9, d10, d11⟩ := cells12q X0.out
 go_enter Tryz.func8, Tryz.ntmps8
 go_wp2_with fail
 clear d0 d1 d2 d3 d4 d5 d6 d7 d8 d9 d10 d11
 generalize (w.alloc (.cells #[.int .i64 k, .string nm, .int .i64 id, .int .i64 sd, .int .i64 st, .int .i64 cn, .slice za nz zc, .slice oa no oc, .slice va nv vc, .int .i64 cf, .slice ra n rc, .slice la m lc] 33)) = W0 at *
 refine (heldCase_own cn cf 1 za oa va nz zc no oc nv vc base W0 M0.out (by omega) (by omega) (by omega) (by omega) (by omega)).mono ?_
 rintro e w1 ⟨rfl, hb1⟩
 have B1 := hdn (B0.out.trans (hb1.mono B0.out.size))
 have X1 := hdn (below_row hb1 (row_lt X0.out) X0.out)
 have P1 := hdn (P0.out.below hb1)
 clear hb1 M0 P0 X0 B0
 have hK : 1 <= K /\ K <= 400 := by have := HK.out; omega
 rw [HK.out]
 have HC := heldPlan_own ra la n rc m lc base K S w1 P1.out HS.out (by omega) (by omega) (fun s hs => by have := HI.out s hs; omega) (by omega) (by omega)
 have hK2 : ¬ (K2 < 0) := by have := HK2.out; omega
 have hK1 : ¬ (K < 0) := by omega
 rw [HK2.out] at HC
 clear hkb
 obtain ⟨d0, d1, d2, d3, d4, d5, d6, d7, d8, d9, d10, d11⟩ := cells12q X1.out
 go_wp2_with fail
 clear d0 d1 d2 d3 d4 d5 d6 d7 d8 d9 d10 d11
 refine HC.mono ?_
 rintro e w2 ⟨rfl, hb2⟩
 have B2 := hdn (B1.out.trans (hb2.mono B1.out.size))
 clear hb2 HC P1 X1 B1
 go_wp2
 go_ret
 exact ⟨rfl, B2.out⟩
set_option maxHeartbeats 4000000 in
theorem lawReadReq (s : List UInt8) (hs : s.length <= 9223372036854775807) (w : World) (hG : GE w) :
 Calls Tryz.prog 3 #[.string (txt s)] w fun e w' => e = .returned (.bool true) /\ Below w.heap.size w w' := by
 have HS : Hid ((txt s).size = s.length) := txt_size s
 by_cases hb : 1048576 < s.length
 · have hb' : (1048576 : Int) < (txt s).size := by rw [HS.out]; omega
   generalize txt s = a at *
   go_enter Tryz.func3, Tryz.ntmps3
   go_wp2
   go_ret
   exact ⟨rfl, Below.refl _ _⟩
 have hb' : ¬ ((1048576 : Int) < (txt s).size) := by rw [HS.out]; omega
 have hsl : s.length <= 1048576 := by omega
 have HG := hdn hG
 clear hG
 obtain ⟨⟨hk1, hk2, hk3, hk4, hk5⟩, hk6, hk7, hk8⟩ := rdQ_small s
 have CS : ∀ W, Calls Tryz.prog 4 #[.string (txt s)] W _ := fun W => (specReadReq_any s W hsl).mono fun e w' h => specReadQ_is h
 have CI : ∀ W, GE W -> Calls Tryz.prog 5 #[.string (txt s)] W _ := fun W hW => (implReadReq_any s W hW (by omega)).mono fun e w' h => implReadQ_is h
 generalize rdQB s = bb at *
 generalize rdQ s = q at *
 obtain ⟨k, nm, id, sd, st, ⟨cn, cf, zs, os, vs, no, nv⟩, R, LS⟩ := q
 simp only at hk1 hk2 hk3 hk4 hk5 hk6 hk7 hk8 CS CI
 obtain ⟨nz, HNZ⟩ := nmd zs.length
 obtain ⟨n, HN⟩ := nmd R.length
 obtain ⟨m, HM⟩ := nmd LS.length
 rw [HNZ.out] at hk1 CS CI
 rw [HN.out] at hk6 CS CI
 rw [HM.out] at hk8 CS CI
 have HI9 : Hid (∀ x ∈ R.map RT.key, x.2.length <= 12) := fun x hx => by
  obtain ⟨r, hr, rfl⟩ := List.mem_map.1 hx
  exact hk7 r hr
 generalize R.map RT.key = KS at *
 generalize txt nm = nm at *
 have HLO : Hid (os.length = no * 6) := hk4
 have HLV : Hid (vs.length = nv * 5) := hk5
 have CS2 : Hid (∀ W, Calls Tryz.prog 4 #[.string (txt s)] W fun e w' => ∃ za zc oa oc va vc ra rc la lc S, e = .returned (.tuple #[.agg #[.int .i64 k, .string nm, .int .i64 id, .int .i64 sd, .int .i64 st, .int .i64 cn, .slice za nz zc, .slice oa no oc, .slice va nv vc, .int .i64 cf, .slice ra n rc, .slice la m lc], .bool bb]) /\ Below W.heap.size W w' /\ RK w' (W.heap.size + 1) za nz zc oa no oc va nv vc ra n rc la m lc zs os vs S LS /\ S.map RT.key = KS) := CS
 have CI2 : Hid (∀ W, GE W -> Calls Tryz.prog 5 #[.string (txt s)] W fun e w' => ∃ za zc oa oc va vc ra rc la lc S, e = .returned (.tuple #[.agg #[.int .i64 k, .string nm, .int .i64 id, .int .i64 sd, .int .i64 st, .int .i64 cn, .slice za nz zc, .slice oa no oc, .slice va nv vc, .int .i64 cf, .slice ra n rc, .slice la m lc], .bool bb]) /\ Below W.heap.size W w' /\ RK w' (W.heap.size + 3) za nz zc oa no oc va nv vc ra n rc la m lc zs os vs S LS /\ Apt S la /\ NilQ (.slice za nz zc) (.slice oa no oc) (.slice va nv vc) (.slice ra n rc) la S /\ S.map RT.key = KS) := CI
 have HKI : Hid (∀ S : List RT, S.map RT.key = KS -> ∀ s ∈ S, s.ids.length <= 12) := fun S h s hs => HI9.out s.key (by rw [<- h]; exact List.mem_map_of_mem hs)
 clear CS CI hk4 hk5 hk7 HI9 HN
 generalize txt s = a at *
 go_enter Tryz.func3, Tryz.ntmps3
 go_wp2_with fail
 refine (CS2.out w).mono ?_
 rintro e w1 ⟨za0, zc0, oa0, oc0, va0, vc0, ra0, rc0, la0, lc0, S0, rfl, hb1, hp1, hk0⟩
 have HK0 := hdn hk0
 have A1 := hdn ((Below.refl w1.heap.size w1).alloc (Nat.le_refl _) (.cells #[.int .i64 k, .string nm, .int .i64 id, .int .i64 sd, .int .i64 st, .int .i64 cn, .slice za0 nz zc0, .slice oa0 no oc0, .slice va0 nv vc0, .int .i64 cf, .slice ra0 n rc0, .slice la0 m lc0] 33))
 have B1 := hdn (hb1.trans (A1.out.mono hb1.size))
 have P1 := hdn (hp1.below A1.out)
 have X1 : Hid ((w1.alloc (.cells #[.int .i64 k, .string nm, .int .i64 id, .int .i64 sd, .int .i64 st, .int .i64 cn, .slice za0 nz zc0, .slice oa0 no oc0, .slice va0 nv vc0, .int .i64 cf, .slice ra0 n rc0, .slice la0 m lc0] 33)).heap[w1.heap.size]? = some (.cells #[.int .i64 k, .string nm, .int .i64 id, .int .i64 sd, .int .i64 st, .int .i64 cn, .slice za0 nz zc0, .slice oa0 no oc0, .slice va0 nv vc0, .int .i64 cf, .slice ra0 n rc0, .slice la0 m lc0] 33 (0, 0))) := heap_alloc_new _ _
 have HLOW := hdn P1.out.low
 have HBW := hdn B1.out.size
 have Z1 := hdn (row_lt X1.out)
 have G1 := hdn (HG.out.below B1.out (Nat.le_refl _))
 clear hb1 hp1 hk0 A1
 go_wp2_with fail
 generalize (w1.alloc (.cells #[.int .i64 k, .string nm, .int .i64 id, .int .i64 sd, .int .i64 st, .int .i64 cn, .slice za0 nz zc0, .slice oa0 no oc0, .slice va0 nv vc0, .int .i64 cf, .slice ra0 n rc0, .slice la0 m lc0] 33)) = W1 at *
 generalize w1.heap.size = b3 at *
 refine (CI2.out W1 G1.out).mono ?_
 rintro e w2 ⟨za1, zc1, oa1, oc1, va1, vc1, ra1, rc1, la1, lc1, S1, rfl, hb2, hp2, hap, hnq, hk1'⟩
 have HK1 := hdn hk1'
 have HI1 := hdn (HKI.out _ hk1')
 have HAP := hdn hap
 have HNQ := hdn hnq
 have HTP := hdn hp2.low
 have A2 := hdn ((Below.refl w2.heap.size w2).alloc (Nat.le_refl _) (.cells #[.int .i64 k, .string nm, .int .i64 id, .int .i64 sd, .int .i64 st, .int .i64 cn, .slice za1 nz zc1, .slice oa1 no oc1, .slice va1 nv vc1, .int .i64 cf, .slice ra1 n rc1, .slice la1 m lc1] 33))
 have BX := hb2.trans (A2.out.mono hb2.size)
 have B2 := hdn (B1.out.trans (BX.mono B1.out.size))
 have P2 := hdn (P1.out.below BX)
 have G2 := hdn (hp2.below A2.out)
 have X2 := hdn (below_row BX (row_lt X1.out) X1.out)
 have Y2 : Hid ((w2.alloc (.cells #[.int .i64 k, .string nm, .int .i64 id, .int .i64 sd, .int .i64 st, .int .i64 cn, .slice za1 nz zc1, .slice oa1 no oc1, .slice va1 nv vc1, .int .i64 cf, .slice ra1 n rc1, .slice la1 m lc1] 33)).heap[w2.heap.size]? = some (.cells #[.int .i64 k, .string nm, .int .i64 id, .int .i64 sd, .int .i64 st, .int .i64 cn, .slice za1 nz zc1, .slice oa1 no oc1, .slice va1 nv vc1, .int .i64 cf, .slice ra1 n rc1, .slice la1 m lc1] 33 (0, 0))) := heap_alloc_new _ _
 have HB6 := hdn hb2.size
 clear hb2 hp2 hap hnq hk1' A2 BX B1 P1 X1 G1
 obtain ⟨x0, x1, x2, x3, x4, x5, x6, x7, x8, x9, x10, x11⟩ := cells12q X2.out
 obtain ⟨y0, y1, y2, y3, y4, y5, y6, y7, y8, y9, y10, y11⟩ := cells12q Y2.out
 have hbb : (bb != bb) = false := by simp
 go_wp2_with fail
 clear x0 x1 x2 x3 x4 x5 x6 x7 x8 x9 x10 x11 y0 y1 y2 y3 y4 y5 y6 y7 y8 y9 y10 y11
 generalize (w2.alloc (.cells #[.int .i64 k, .string nm, .int .i64 id, .int .i64 sd, .int .i64 st, .int .i64 cn, .slice za1 nz zc1, .slice oa1 no oc1, .slice va1 nv vc1, .int .i64 cf, .slice ra1 n rc1, .slice la1 m lc1] 33)) = W2 at *
 generalize w2.heap.size = b5 at *
 refine (eqRK k id sd st cn cf nm G2.out P2.out (HK0.out.trans HK1.out.symm) HNZ.out HLO.out HLV.out hk1 hk2 hk3 hk6 hk8 HI1.out).mono ?_
 rintro e w3 ⟨rfl, hb3⟩
 have B3 := hdn (B2.out.trans (hb3.mono B2.out.size))
 have P3 := hdn (P2.out.below hb3)
 have G3 := hdn (G2.out.below hb3)
 have X3 := hdn (below_row hb3 (row_lt X2.out) X2.out)
 have Y3 := hdn (below_row hb3 (row_lt Y2.out) Y2.out)
 clear hb3 B2 P2 G2 X2 Y2
 obtain ⟨y0, y1, y2, y3, y4, y5, y6, y7, y8, y9, y10, y11⟩ := cells12q Y3.out
 go_wp2_with fail
 clear y0 y1 y2 y3 y4 y5 y6 y7 y8 y9 y10 y11
 obtain ⟨KM0, HKM⟩ := nmd (1 + ((nz : Nat) : Int) + ((no * 6 : Nat) : Int) + ((nv * 5 : Nat) : Int))
 obtain ⟨M, HMM⟩ := nmd (mkK S1 KM0 + (m : Int))
 have MK := markReq_own k id sd st cn cf nm za1 oa1 va1 ra1 la1 nz zc1 no oc1 nv vc1 n rc1 m lc1 (W1.heap.size + 3) b5 zs os vs LS S1 w3 KM0 M HKM HMM G3.out HAP.out HNQ.out hk1 hk2 hk3 hk6 hk8 HI1.out (Nat.le_of_lt (row_lt Y3.out)) HTP.out
 have HSN := hdn G3.out.p.2.1
 have hmk := mkK_bd S1 KM0 (fun s hs => by have := HI1.out s hs; omega)
 rw [HSN.out] at hmk
 have hM0 : ¬ (M < 0) := by have := HMM.out; have := HKM.out; omega
 refine MK.mono ?_
 rintro e w4 ⟨rfl, hg4, hm4, hp4⟩
 have BG := hdn (hg4.below (B := W1.heap.size) (by have h9 := row_lt Y3.out; have := HB6.out; omega) (fun b hb => by omega))
 have B4 := hdn (B3.out.trans (BG.out.mono HBW.out))
 have M4 : Hid (CM w4 (W1.heap.size + 3) za1 nz zc1 oa1 no oc1 va1 nv vc1 1 /\ PO w4 (W1.heap.size + 3) (.slice ra1 n rc1) (mkS S1 KM0) (.slice la1 m lc1) (seqL (mkK S1 KM0) m)) := ⟨hm4, hp4⟩
 have X4 := hdn (hg4.row X3.out (fun h => by have := Z1.out; omega))
 have Y4 := hdn (hg4.row Y3.out (fun h => by omega))
 have P4 := hdn (P3.out.keep BG.out HLOW.out)
 have CH : Hid (∀ W, CM W (W1.heap.size + 3) za1 nz zc1 oa1 no oc1 va1 nv vc1 1 /\ PO W (W1.heap.size + 3) (.slice ra1 n rc1) (mkS S1 KM0) (.slice la1 m lc1) (seqL (mkK S1 KM0) m) -> Calls Tryz.prog 8 #[.agg #[.int .i64 k, .string nm, .int .i64 id, .int .i64 sd, .int .i64 st, .int .i64 cn, .slice za1 nz zc1, .slice oa1 no oc1, .slice va1 nv vc1, .int .i64 cf, .slice ra1 n rc1, .slice la1 m lc1], .int .i64 1] W fun e w' => e = .returned (.int .i64 M) /\ Below W.heap.size W w') := fun W h => by
  exact heldReq_own k id sd st cn cf nm za1 oa1 va1 ra1 la1 nz zc1 no oc1 nv vc1 n rc1 m lc1 (W1.heap.size + 3) S1 W KM0 M HKM HMM h.1 h.2 HSN.out hk1 hk2 hk3 hk6 hk8 HI1.out
 have KM : Hid (∀ W W', Below W.heap.size W W' -> CM W (W1.heap.size + 3) za1 nz zc1 oa1 no oc1 va1 nv vc1 1 /\ PO W (W1.heap.size + 3) (.slice ra1 n rc1) (mkS S1 KM0) (.slice la1 m lc1) (seqL (mkK S1 KM0) m) -> CM W' (W1.heap.size + 3) za1 nz zc1 oa1 no oc1 va1 nv vc1 1 /\ PO W' (W1.heap.size + 3) (.slice ra1 n rc1) (mkS S1 KM0) (.slice la1 m lc1) (seqL (mkK S1 KM0) m)) := fun W W' hb h => ⟨h.1.below hb, h.2.below hb⟩
 clear hg4 hm4 hp4 B3 P3 G3 X3 Y3 MK HTP BG hmk
 obtain ⟨y0, y1, y2, y3, y4, y5, y6, y7, y8, y9, y10, y11⟩ := cells12q Y4.out
 go_wp2_with fail
 clear y0 y1 y2 y3 y4 y5 y6 y7 y8 y9 y10 y11
 refine (CH.out w4 M4.out).mono ?_
 rintro e w5 ⟨rfl, hb5⟩
 have B5 := hdn (B4.out.trans (hb5.mono B4.out.size))
 have P5 := hdn (P4.out.below hb5)
 have M5 := hdn (KM.out _ _ hb5 M4.out)
 have X5 := hdn (below_row hb5 (row_lt X4.out) X4.out)
 have Y5 := hdn (below_row hb5 (row_lt Y4.out) Y4.out)
 have G5 := hdn (HG.out.below B5.out (Nat.le_refl _))
 clear hb5 B4 P4 M4 X4 Y4
 go_wp2_with fail
 refine (CI2.out w5 G5.out).mono ?_
 rintro e w6 ⟨za2, zc2, oa2, oc2, va2, vc2, ra2, rc2, la2, lc2, S2, rfl, hb6, hp6, -, -, hk6'⟩
 have HK6 := hdn hk6'
 have HI6 := hdn (HKI.out _ hk6')
 have A6 := hdn ((Below.refl w6.heap.size w6).alloc (Nat.le_refl _) (.cells #[.int .i64 k, .string nm, .int .i64 id, .int .i64 sd, .int .i64 st, .int .i64 cn, .slice za2 nz zc2, .slice oa2 no oc2, .slice va2 nv vc2, .int .i64 cf, .slice ra2 n rc2, .slice la2 m lc2] 33))
 have BX := hb6.trans (A6.out.mono hb6.size)
 have B6 := hdn (B5.out.trans (BX.mono B5.out.size))
 have P6 := hdn (P5.out.below BX)
 have G6 := hdn (hp6.below A6.out)
 have M6 := hdn (KM.out _ _ BX M5.out)
 have X6 := hdn (below_row BX (row_lt X5.out) X5.out)
 have Y6 := hdn (below_row BX (row_lt Y5.out) Y5.out)
 have Z6 : Hid ((w6.alloc (.cells #[.int .i64 k, .string nm, .int .i64 id, .int .i64 sd, .int .i64 st, .int .i64 cn, .slice za2 nz zc2, .slice oa2 no oc2, .slice va2 nv vc2, .int .i64 cf, .slice ra2 n rc2, .slice la2 m lc2] 33)).heap[w6.heap.size]? = some (.cells #[.int .i64 k, .string nm, .int .i64 id, .int .i64 sd, .int .i64 st, .int .i64 cn, .slice za2 nz zc2, .slice oa2 no oc2, .slice va2 nv vc2, .int .i64 cf, .slice ra2 n rc2, .slice la2 m lc2] 33 (0, 0))) := heap_alloc_new _ _
 clear hb6 hp6 hk6' A6 BX B5 P5 M5 X5 Y5 G5
 obtain ⟨x0, x1, x2, x3, x4, x5, x6, x7, x8, x9, x10, x11⟩ := cells12q X6.out
 obtain ⟨y0, y1, y2, y3, y4, y5, y6, y7, y8, y9, y10, y11⟩ := cells12q Z6.out
 go_wp2_with fail
 clear x0 x1 x2 x3 x4 x5 x6 x7 x8 x9 x10 x11 y0 y1 y2 y3 y4 y5 y6 y7 y8 y9 y10 y11
 generalize (w6.alloc (.cells #[.int .i64 k, .string nm, .int .i64 id, .int .i64 sd, .int .i64 st, .int .i64 cn, .slice za2 nz zc2, .slice oa2 no oc2, .slice va2 nv vc2, .int .i64 cf, .slice ra2 n rc2, .slice la2 m lc2] 33)) = W6 at *
 generalize w6.heap.size = b9 at *
 refine (eqRK k id sd st cn cf nm G6.out P6.out (HK0.out.trans HK6.out.symm) HNZ.out HLO.out HLV.out hk1 hk2 hk3 hk6 hk8 HI6.out).mono ?_
 rintro e w7 ⟨rfl, hb7⟩
 have B7 := hdn (B6.out.trans (hb7.mono B6.out.size))
 have M7 := hdn (KM.out _ _ hb7 M6.out)
 have Y7 := hdn (below_row hb7 (row_lt Y6.out) Y6.out)
 clear hb7 B6 P6 G6 M6 X6 Y6 Z6
 obtain ⟨y0, y1, y2, y3, y4, y5, y6, y7, y8, y9, y10, y11⟩ := cells12q Y7.out
 go_wp2_with fail
 clear y0 y1 y2 y3 y4 y5 y6 y7 y8 y9 y10 y11
 refine (CH.out w7 M7.out).mono ?_
 rintro e w8 ⟨rfl, hb8⟩
 have B8 := hdn (B7.out.trans (hb8.mono B7.out.size))
 clear hb8 B7 M7 Y7
 go_wp2_with fail
 go_ret
 exact ⟨rfl, B8.out⟩
end Go.Proofs.YtcapkcallaajaaaGreatDoor
