import Derived.Test.YtehfjfmfpdgibaaGreatDoorPack2
import Derived.Test.YtehfjfmfpdgibaaGreatDoorPack24
import Derived.Test.YtehfjfmfpdgibaaGreatDoorPubAns
import Derived.Test.YtehfjfmfpdgibaaGreatDoorPack41
namespace Go.Proofs.YtehfjfmfpdgibaaGreatDoor
open Go.RowKit
def PubX (n m : Nat) (KS : List (Int × List Int)) (PL : List Int) (PC : Int) (PB : Bool) (w : World) (e : Ending) (w' : World) : Prop := ∃ (ra : Option Addr) (rc : Nat) (la : Option Addr) (lc : Nat) (S : List RT), e = .returned (.tuple #[.agg #[.slice ra n rc, .slice la m lc], .int .i64 PC, .bool PB]) /\ Below w.heap.size w w' /\ S.map RT.key = KS /\ PO w' (w.heap.size + 2) (.slice ra n rc) S (.slice la m lc) PL /\ (n <= 12 /\ m <= 12 /\ S.length = n) /\ ∀ r ∈ S, r.ids.length <= 12
def PubXI (n m : Nat) (KS : List (Int × List Int)) (PL : List Int) (PC : Int) (PB : Bool) (w : World) (e : Ending) (w' : World) : Prop := ∃ (ra : Option Addr) (rc : Nat) (la : Option Addr) (lc : Nat) (S : List RT), e = .returned (.tuple #[.agg #[.slice ra n rc, .slice la m lc], .int .i64 PC, .bool PB]) /\ Below w.heap.size w w' /\ S.map RT.key = KS /\ PO w' (w.heap.size + 2) (.slice ra n rc) S (.slice la m lc) PL /\ ((n <= 12 /\ m <= 12 /\ S.length = n) /\ ∀ r ∈ S, r.ids.length <= 12) /\ Apt S la
theorem PubU.x {T : List TN} {q : ByteArray} {w w' : World} {e : Ending} (h : PubU T q w e w') : PubX (pR T q).length (pL T q).length ((pR T q).map RT.key) (pL T q) (pC T q) (pB T q) w e w' := by
 obtain ⟨ra, rc, la, lc, S, h1, h2, h3, h4, h5, h6, h7⟩ := h
 exact ⟨ra, rc, la, lc, S, h1, h2, h3, h4, ⟨h5, h7, by have := congrArg List.length h3; simpa using this⟩, key_ids12 h3 h6⟩
theorem PubUI.x {T : List TN} {q : ByteArray} {w w' : World} {e : Ending} (h : PubUI T q w e w') : PubXI (pR T q).length (pL T q).length ((pR T q).map RT.key) (pL T q) (pC T q) (pB T q) w e w' := by
 obtain ⟨ra, rc, la, lc, S, h1, h2, h3, h4, ⟨h5, h6, h7⟩, h8⟩ := h
 exact ⟨ra, rc, la, lc, S, h1, h2, h3, h4, ⟨⟨h5, h7, by have := congrArg List.length h3; simpa using this⟩, key_ids12 h3 h6⟩, h8⟩
structure PQ (W : World) (k base : Nat) (ra : Option Addr) (n rc : Nat) (la : Option Addr) (m lc : Nat) (S : List RT) (L : List Int) : Prop where
 b : W.heap[k]? = some (.cells #[.slice ra n rc, .slice la m lc] 46 (0, 0))
 p : PO W base (.slice ra n rc) S (.slice la m lc) L
theorem PQ.below {W W' : World} {k base : Nat} {ra la : Option Addr} {n rc m lc : Nat} {S : List RT} {L : List Int} (h : PQ W k base ra n rc la m lc S L) (hb : Below W.heap.size W W') : PQ W' k base ra n rc la m lc S L := ⟨below_row hb (row_lt h.b) h.b, h.p.below hb⟩
theorem PQ.but {C : Nat -> Prop} {W W' : World} {k base : Nat} {ra la : Option Addr} {n rc m lc : Nat} {S : List RT} {L : List Int} (h : PQ W k base ra n rc la m lc S L) (hG : GrownBut C W W') (hs : ∀ b, C b -> b < base) (hk : ¬ C k) : PQ W' k base ra n rc la m lc S L := ⟨hG.row h.b hk, h.p.but hG hs⟩
theorem PQ.new {W : World} {base : Nat} {ra la : Option Addr} {n rc m lc : Nat} {S : List RT} {L : List Int} (h : PO W base (.slice ra n rc) S (.slice la m lc) L) : PQ (W.alloc (.cells #[.slice ra n rc, .slice la m lc] 46)) W.heap.size base ra n rc la m lc S L := ⟨heap_alloc_new _ _, h.below ((Below.refl _ _).alloc (Nat.le_refl _) _)⟩
theorem PO.atn {W : World} {base : Nat} {ra : Option Addr} {n rc : Nat} {ls : Value} {S : List RT} {L : List Int} (h : PO W base (.slice ra n rc) S ls L) (hn : S.length = n) : RoutesAt W ra S := by
 subst hn
 exact h.at
theorem PO.intsL {W : World} {base : Nat} {la : Option Addr} {m lc : Nat} {rs : Value} {S : List RT} {L : List Int} (h : PO W base rs S (.slice la m lc) L) : IntsAt W la L := by
 obtain ⟨la2, lc2, e, hi⟩ := h.lv
 simp only [Value.slice.injEq] at e
 obtain ⟨rfl, _, _⟩ := e
 exact hi
theorem PO.topsX {W : World} {base : Nat} {ra la : Option Addr} {n rc m lc : Nat} {S : List RT} {L : List Int} (h : PO W base (.slice ra n rc) S (.slice la m lc) L) : (∀ g, ra = some ⟨g, 0, none⟩ -> g < W.heap.size) /\ (∀ a ∈ S.map RT.a, ∀ g, a = some ⟨g, 0, none⟩ -> g < W.heap.size) /\ ∀ g, la = some ⟨g, 0, none⟩ -> g < W.heap.size := by
 refine ⟨fun g e => (h.r.lt g (by rw [e]; rfl)).2, fun a ha g e => ?_, fun g e => (h.l.lt g (by rw [e]; rfl)).2⟩
 obtain ⟨s, hs, e2⟩ := List.mem_map.1 ha
 exact ((h.s s hs).lt g (by rw [e2, e]; rfl)).2
theorem B1x.but {T : TypeId} {w W W' : World} {src : Array Value} {C : Nat -> Prop} (h : B1x T w W src) (hG : GrownBut C W W') (hs : ∀ b, C b -> w.heap.size < b) : B1x T w W' src := ⟨h.b.trans (hG.below h.b.size (fun b hb => Nat.le_of_lt (hs b hb))), hG.row h.s (fun hb => Nat.lt_irrefl _ (hs _ hb))⟩
theorem las_of {lo : Nat} {W : World} {a : Option Addr} {S : List TN} (h : TensB lo W a S) : LasT S := fun t ht v hv => by
 obtain ⟨g, e, _⟩ := ((h.2 t ht).m.vs v hv).l
 exact ⟨g, 0, e⟩
set_option maxRecDepth 20000 in
set_option maxHeartbeats 8000000 in
theorem lawPub (a : Option Addr) (c : Nat) (T : List TN) (q : ByteArray) (w : World) (hA : TensAt w a T) (hn : T.length <= 9223372036854775807) (hok : ∀ t ∈ T, TNOk 9223372036854775807 t) (hG : GS w) (hG3 : GSx 0 w) :
 Calls Tryz.prog 5 #[.agg #[.slice a T.length c], .string q] w fun e w' => e = .returned (.bool true) /\ Below w.heap.size w w' := by
 have HA := hdn hA
 have HG := hdn hG
 have HG3 := hdn hG3
 have CZ := hdn (fun W (h : TensAt W a T) => szStore_any a c T 1048576 W h (by omega) (by omega) hn hok)
 have HSM : Hid ((useTs T : Int) <= 1048576 -> T.length <= 1048576 /\ (∀ t ∈ T, TNOk 1048576 t) /\ ∀ t ∈ T, t.small) := szW_small hn hok
 clear hA hok hG hG3
 obtain ⟨x, HX⟩ := nmd (szW 1048576 (useTs T))
 have HXN : Hid (1048576 < (useTs T : Int) -> x = -1) := fun h => HX.out.symm.trans (szW_lt (by omega))
 have HXY : Hid ((useTs T : Int) <= 1048576 -> 0 <= x) := fun h => by have := HX.out.symm.trans (szW_le h); omega
 rw [HX.out] at CZ
 obtain ⟨n, HN⟩ := nmd T.length
 rw [HN.out] at CZ HSM ⊢
 clear hn HX
 have B0 := hdn (B1x.new 24 w #[.slice a n c])
 have q0 := cell1x B0.out.s
 by_cases hq : (1048576 : Int) < (q.size : Int)
 · go_enter Tryz.func5, Tryz.ntmps5
   go_wp2
   go_ret
   exact ⟨rfl, B0.out.b⟩
 go_enter Tryz.func5, Tryz.ntmps5
 go_wp2_with fail
 clear q0
 refine (CZ.out _ (HA.out.below B0.out.b)).mono ?_
 rintro e w1 ⟨rfl, hb⟩
 have B1 := hdn (B0.out.below hb)
 clear hb B0 CZ hq
 by_cases hx : (useTs T : Int) <= 1048576
 · have hx0 := HXY.out hx
   have hxn : ¬ (x < 0) := by omega
   obtain ⟨hs1, hs2, hs3⟩ := HSM.out hx
   have HOK := hdn hs2
   have HUSE := hdn (fun (S : List TN) (hp : S.map TN.plain = T.map TN.plain) => store_use hp hx)
   have CT := hdn (fun W (h : TensAt W a T) => toStore_any a c T W h (by rw [HN.out]; exact hs1) hs2)
   have HCP := hdn (fun (S : List TN) (hp : S.map TN.plain = T.map TN.plain) (hr : ∀ s ∈ S, TN.room s) => TSm.copy (by rw [HN.out]; exact hs1) hs2 hs3 hp hr)
   have HLN : Hid (∀ S : List TN, S.map TN.plain = T.map TN.plain -> S.length = n) := fun S h => (map_len h).trans HN.out
   have CSp : Hid (∀ (g : Nat) (S : List TN) W, TensAt W (some ⟨g, 0, none⟩) S -> TSm S -> LasT S -> S.map TN.plain = T.map TN.plain -> Calls Tryz.prog 19 #[.agg #[.slice (some ⟨g, 0, none⟩) n n], .string q] W (PubX (pR T q).length (pL T q).length ((pR T q).map RT.key) (pL T q) (pC T q) (pB T q) W)) := fun g S W h1 h2 h3 h4 => by
    have := specPub_any (some ⟨g, 0, none⟩) n S q W h1 h2 h3
    rw [HLN.out S h4] at this
    exact this.mono fun e w' h => (h.uni h4).x
   have CIm : Hid (∀ (g : Nat) (S : List TN) W, TensAt W (some ⟨g, 0, none⟩) S -> TSm S -> LasT S -> S.map TN.plain = T.map TN.plain -> Below w.heap.size w W -> Calls Tryz.prog 20 #[.agg #[.slice (some ⟨g, 0, none⟩) n n], .string q] W (PubXI (pR T q).length (pL T q).length ((pR T q).map RT.key) (pL T q) (pC T q) (pB T q) W)) := fun g S W h1 h2 h3 h4 h5 => by
    have := implPub_any (some ⟨g, 0, none⟩) n S q W h1 h2 h3 (HG.out.below h5 (Nat.le_refl _)) (HG3.out.below h5 (Nat.le_refl _))
    rw [HLN.out S h4] at this
    exact this.mono fun e w' h => (h.uni h4).x
   obtain ⟨nR, HNR⟩ := nmd (pR T q).length
   obtain ⟨KS, HKS⟩ := nmd ((pR T q).map RT.key)
   obtain ⟨PL, HPL⟩ := nmd (pL T q)
   obtain ⟨PC, HPC⟩ := nmd (pC T q)
   obtain ⟨PB, HPB⟩ := nmd (pB T q)
   rw [HNR.out, HKS.out, HPL.out, HPC.out, HPB.out] at CSp CIm
   obtain ⟨m, HM⟩ := nmd PL.length
   rw [HM.out] at CSp CIm
   rw [HN.out] at CT
   clear hs2 hs3 hx HXN HXY HSM HNR HKS HPL HPC HPB HG HG3
   have q0 := cell1x B1.out.s
   go_wp2_with fail
   clear q0
   refine (CT.out _ (HA.out.below B1.out.b)).mono ?_
   rintro e w2 ⟨g2, S2, rfl, ⟨hp2, hr2⟩, hb, hk⟩
   have B2 := hdn (B1.out.below hb)
   have K2 := hdn hk.now.1.1
   have L2 := hdn (las_of hk.now)
   have T2 := hdn (HCP.out S2 hp2 hr2)
   have P2 := hdn hp2
   clear hb hk B1 hp2 hr2
   go_wp2_with fail
   refine (CSp.out g2 S2 w2 K2.out T2.out L2.out P2.out).mono ?_
   rintro e w3 ⟨xa, xc, xl, xd, SX, rfl, hb, hkx, hpo, ⟨hn12, hm12, hxn9⟩, hxi⟩
   have A3 := (Below.refl w3.heap.size w3).alloc (Nat.le_refl _) (.cells #[.slice xa nR xc, .slice xl m xd] 46)
   have B3 := hdn ((B2.out.below hb).below A3)
   have X3 := hdn (PQ.new hpo)
   have HKX := hdn hkx
   have HXN9 := hdn hxn9
   have HXI := hdn hxi
   clear hb hkx hpo hxn9 hxi A3 B2 K2 L2 T2 P2 CSp
   have q0 := cell1x B3.out.s
   obtain ⟨x0, x1⟩ := cells2 X3.out.b
   go_wp2_with fail
   clear q0 x0 x1
   generalize w3.alloc (.cells #[.slice xa nR xc, .slice xl m xd] 46) = W3 at *
   generalize w3.heap.size = kw at *
   have HW3 := hdn (row_lt B3.out.s)
   refine (CT.out _ (HA.out.below B3.out.b)).mono ?_
   rintro e w4 ⟨g4, S4, rfl, ⟨hp4, hr4⟩, hb, hk⟩
   have A4 : Hid (Below w4.heap.size w4 (w4.alloc (.cells #[.slice (some ⟨g4, 0, none⟩) n n] 29))) := (Below.refl _ _).alloc (Nat.le_refl _) _
   have D4 : Hid (Below W3.heap.size W3 (w4.alloc (.cells #[.slice (some ⟨g4, 0, none⟩) n n] 29))) := hb.trans (A4.out.mono hb.size)
   have B4 := hdn (B3.out.below D4.out)
   have K4 := hdn (hk.now.1.1.below A4.out)
   have L4 := hdn (las_of hk.now)
   have T4 := hdn (HCP.out S4 hp4 hr4)
   have P4 := hdn hp4
   have HLO := hdn (show W3.heap.size <= w4.heap.size from hb.size)
   have Y4 : Hid ((w4.alloc (.cells #[.slice (some ⟨g4, 0, none⟩) n n] 29)).heap[w4.heap.size]? = some (.cells #[.slice (some ⟨g4, 0, none⟩) n n] 29 (0, 0))) := heap_alloc_new _ _
   have I4 := hdn hk.now.1.2
   have M4 := hdn (fun x hx => (hk.now.2 x hx).m)
   have HMK : Hid (∀ W, Below w4.heap.size w4 W -> Calls Tryz.prog 16 #[.agg #[.slice (some ⟨g4, 0, none⟩) n n], .int .i64 1] W fun e w' => ∃ k', e = .returned (.int .i64 k') /\ 1 <= k' /\ MK W3.heap.size w4.heap.size W w') := fun W h => by
    obtain ⟨h1, h2⟩ := HUSE.out S4 P4.out
    have := markStore_mk W3.heap.size w4.heap.size (some ⟨g4, 0, none⟩) n S4 W (I4.out.mk (MK.below h)) (fun x hx => (M4.out x hx).keep (MK.below h)) (fun x hx => ⟨T4.out.ok x hx, h2 x hx⟩) T4.out.n h1
    rw [HLN.out S4 P4.out] at this
    exact this
   clear hb hk B3 hp4 hr4
   have y0 := cell1x Y4.out
   go_wp2_with fail
   clear y0
   have A4m := hdn (A4.out)
   generalize w4.alloc (.cells #[.slice (some ⟨g4, 0, none⟩) n n] 29) = W4 at *
   refine (CIm.out g4 S4 W4 K4.out T4.out L4.out P4.out B4.out.b).mono ?_
   rintro e w5 ⟨ga, gc, gl, gd, SG, rfl, hb, hkg, hpo, ⟨⟨-, -, hgn9⟩, hgi⟩, hap⟩
   have A5 := (Below.refl w5.heap.size w5).alloc (Nat.le_refl _) (.cells #[.slice ga nR gc, .slice gl m gd] 46)
   have F5 := hb.trans (A5.mono hb.size)
   have B5 := hdn (B4.out.below F5)
   have D5 := hdn (D4.out.trans (F5.mono D4.out.size))
   have E5 := hdn (A4m.out.trans (F5.mono A4m.out.size))
   have K5 := hdn (K4.out.below F5)
   have Y5 := hdn (below_row F5 (row_lt Y4.out) Y4.out)
   have G5 := hdn (PQ.new hpo)
   have HTP := hdn hpo.topsX
   have HKG := hdn hkg
   have HGN9 := hdn hgn9
   have HGI := hdn hgi
   have HAP := hdn hap
   have HZ1 : Hid (w4.heap.size < W4.heap.size /\ W4.heap.size <= w5.heap.size) := ⟨row_lt Y4.out, hb.size⟩
   clear hb hkg hpo hgn9 hgi hap A5 F5 B4 D4 K4 Y4 L4 A4 A4m
   obtain ⟨x0, x1⟩ := cells2 (X3.out.below D5.out).b
   obtain ⟨y0, y1⟩ := cells2 G5.out.b
   have hee : (PC != PC) = false := by simp
   have hbb : (PB != PB) = false := by simp
   go_wp2_with fail
   clear x0 x1 y0 y1
   generalize w5.alloc (.cells #[.slice ga nR gc, .slice gl m gd] 46) = W5 at *
   generalize w5.heap.size = kg at *
   have EQP : Hid (∀ (ra la : Option Addr) (rc lc : Nat) (S : List RT) W, RoutesAt W ra S -> IntsAt W la PL -> S.map RT.key = KS -> S.length = nR -> (∀ r ∈ S, r.ids.length <= 12) -> Below W3.heap.size W3 W -> Calls Tryz.prog 21 #[.agg #[.slice ra nR rc, .slice la m lc], .agg #[.slice xa nR xc, .slice xl m xd]] W fun e w' => e = .returned (.bool true) /\ Below W.heap.size W w') := fun ra la rc lc S W h1 h2 h3 h4 h5 h6 => by
    have hx := (X3.out.below h6).p
    have := eqPlan_same ra xa la xl rc xc nR lc xd S SX PL W h1 (hx.atn HXN9.out) (HKX.out.trans h3.symm) h4 (by omega) (fun r hr => by have := h5 r hr; omega) h2 hx.intsL (by rw [HM.out]; omega)
    rw [HM.out] at this
    exact this
   refine (EQP.out ga gl gc gd SG W5 (G5.out.p.atn HGN9.out) G5.out.p.intsL HKG.out HGN9.out HGI.out D5.out).mono ?_
   rintro e w6 ⟨rfl, hb⟩
   have B6 := hdn (B5.out.below hb)
   have D6 := hdn (D5.out.trans (hb.mono D5.out.size))
   have E6 := hdn (E5.out.trans (hb.mono E5.out.size))
   have K6 := hdn (K5.out.below hb)
   have Y6 := hdn (below_row hb (row_lt Y5.out) Y5.out)
   have G6 := hdn (G5.out.below hb)
   clear hb B5 D5 E5 K5 Y5 G5
   have q0 := cell1x B6.out.s
   have y0 := cell1x Y6.out
   have kS := And.intro q0 y0
   have EQ : Hid (∀ (g6 : Nat) (S6 : List TN) W, Below w6.heap.size w6 W -> S6.map TN.plain = T.map TN.plain -> TensAt W (some ⟨g6, 0, none⟩) S6 -> Calls Tryz.prog 12 #[.agg #[.slice (some ⟨g4, 0, none⟩) n n], .agg #[.slice (some ⟨g6, 0, none⟩) n n]] W fun e w' => e = .returned (.bool true) /\ Below W.heap.size W w') := fun g6 S6 W hb hp6 hk6 => by
    have := eqStore_same (some ⟨g4, 0, none⟩) (some ⟨g6, 0, none⟩) n n S4 S6 W (K6.out.below hb) hk6 (hp6.trans P4.out.symm) (by rw [HLN.out S4 P4.out]; exact hs1) (fun s hs => by obtain ⟨t, ht, e⟩ := mem_plain P4.out hs; exact (HOK.out t ht).plain e)
    rw [HLN.out S4 P4.out] at this
    exact this
   go_wp2_with fail
   go_region_held3 (fun W => W.cell? ⟨w.heap.size, 0, none⟩ = some (.slice a n c) /\ W.cell? ⟨w4.heap.size, 0, none⟩ = some (.slice (some ⟨g4, 0, none⟩) n n)) (first | with_reducible exact kS | go_keep) ((first
    | (go_at_call 10
       with_reducible refine (CT.out w6.drew (HA.out.below B6.out.b.drew)).mono ?_
       rintro e w7 ⟨g6, S6, rfl, ⟨hp6, hr6⟩, hb, hk⟩
       have Q7 : Hid (Below w6.heap.size w6 w7) := (Below.refl _ _).drew.trans (show Below w6.heap.size w6.drew w7 from hb)
       have K7 := hdn hk.now.1.1
       have P7 := hdn hp6
       have kS := And.intro (keepC q0 Q7.out) (keepC y0 Q7.out)
       clear hb hk hp6 hr6)
    | (go_at_call 12
       with_reducible refine (EQ.out g6 S6 w7 Q7.out P7.out K7.out).mono ?_
       rintro e w8 ⟨rfl, hb⟩
       have Q8 : Hid (Below w6.heap.size w6 w8) := Q7.out.trans (hb.mono Q7.out.size)
       have kS := And.intro (keepC q0 Q8.out) (keepC y0 Q8.out)
       clear hb)))
   all_goals
    have B8 := hdn (B6.out.below Q8.out)
    have D8 := hdn (D6.out.trans (Q8.out.mono D6.out.size))
    have E8 := hdn (E6.out.trans (Q8.out.mono E6.out.size))
    have Y8 := hdn (below_row Q8.out (row_lt Y6.out) Y6.out)
    have G8 := hdn (G6.out.below Q8.out)
    clear kS q0 y0 EQ K6 B6 D6 E6 Y6 G6 K7 P7 Q7 Q8
    have y0 := cell1x Y8.out
    go_wp2_with fail
    clear y0
    refine (HMK.out w8 E8.out).mono ?_
    rintro e w9 ⟨k9, rfl, hk9, hmk⟩
    have hG9 := hmk.1
    have B9 := hdn (B8.out.but hG9 (fun b hb => by have := HW3.out; omega))
    have D9 := hdn (D8.out.trans (hG9.below D8.out.size (fun b hb => hb.1)))
    have G9 := hdn (G8.out.but hG9 (fun b hb => by have := HZ1.out; omega) (fun hb => by have := HZ1.out; omega))
    have hk0 : ¬ (k9 < 0) := by omega
    clear hG9 hmk hk9 B8 D8 E8 G8 Y8 HMK
    obtain ⟨x0, x1⟩ := cells2 (X3.out.below D9.out).b
    obtain ⟨y0, y1⟩ := cells2 G9.out.b
    go_wp2_with fail
    clear x0 x1 y0 y1
    refine (EQP.out ga gl gc gd SG w9 (G9.out.p.atn HGN9.out) G9.out.p.intsL HKG.out HGN9.out HGI.out D9.out).mono ?_
    rintro e w10 ⟨rfl, hb⟩
    have B10 := hdn (B9.out.below hb)
    have D10 := hdn (D9.out.trans (hb.mono D9.out.size))
    have G10 := hdn (G9.out.below hb)
    clear hb B9 D9 G9
    obtain ⟨y0, y1⟩ := cells2 G10.out.b
    go_wp2_with fail
    clear y0 y1 hk0
    have MKP := markPlan_own ga gl nR gc m gd (W4.heap.size + 2) 1 SG PL w10 G10.out.p HGN9.out HM.out HAP.out (by omega) (by omega) (fun s hs => by have := HGI.out s hs; omega) (by omega) (by omega) kg (Nat.le_of_lt (row_lt G10.out.b)) HTP.out.1 HTP.out.2.1 HTP.out.2.2
    have hmk := mkK_bd SG 1 (fun s hs => by have := HGI.out s hs; omega)
    rw [HGN9.out] at hmk
    obtain ⟨K, HKK⟩ := nmd (mkK SG 1)
    rw [HKK.out] at MKP hmk
    refine MKP.mono ?_
    rintro e w11 ⟨rfl, hg, hp⟩
    have B11 := hdn (B10.out.but hg (fun b hb => by have := HZ1.out; have := HLO.out; have := HW3.out; omega))
    have D11 := hdn (D10.out.trans (hg.below D10.out.size (fun b hb => by have := HZ1.out; have := HLO.out; omega)))
    have Z11 : Hid (w11.heap[kg]? = some (.cells #[.slice ga nR gc, .slice gl m gd] 46 (0, 0))) := hg.row G10.out.b (fun hb => by omega)
    have M11 : Hid (PO w11 (W4.heap.size + 2) (.slice ga nR gc) (mkS SG 1) (.slice gl m gd) (seqL (mkK SG 1) m)) := by rw [HKK.out]; exact hp
    have CH : Hid (∀ W, PO W (W4.heap.size + 2) (.slice ga nR gc) (mkS SG 1) (.slice gl m gd) (seqL (mkK SG 1) m) -> Calls Tryz.prog 23 #[.agg #[.slice ga nR gc, .slice gl m gd], .int .i64 1] W fun e w' => e = .returned (.int .i64 (K + (m : Int))) /\ Below W.heap.size W w') := fun W h => by
     have := heldPlan_own ga gl nR gc m gd (W4.heap.size + 2) 1 SG W h HGN9.out (by omega) (by omega) (fun s hs => by have := HGI.out s hs; omega) (by omega) (by omega)
     rw [HKK.out] at this
     exact this
    clear hg hp MKP B10 D10 G10 HTP HAP
    obtain ⟨M, HMM⟩ := nmd (K + (m : Int))
    rw [HMM.out] at CH ⊢
    have hM : 0 <= M := by have := HMM.out; omega
    have hM0 : ¬ (M < 0) := by omega
    clear hmk hM
    obtain ⟨y0, y1⟩ := cells2 Z11.out
    go_wp2_with fail
    clear y0 y1
    refine (CH.out w11 M11.out).mono ?_
    rintro e w12 ⟨rfl, hb⟩
    have B12 := hdn (B11.out.below hb)
    have D12 := hdn (D11.out.trans (hb.mono D11.out.size))
    have Z12 := hdn (below_row hb (row_lt Z11.out) Z11.out)
    have M12 := hdn (M11.out.below hb)
    clear hb B11 D11 Z11 M11
    have q0 := cell1x B12.out.s
    go_wp2_with fail
    clear q0
    refine (CT.out _ (HA.out.below B12.out.b)).mono ?_
    rintro e w13 ⟨g13, S13, rfl, ⟨hp13, hr13⟩, hb, hk⟩
    have B13 := hdn (B12.out.below hb)
    have D13 := hdn (D12.out.trans (hb.mono D12.out.size))
    have Z13 := hdn (below_row hb (row_lt Z12.out) Z12.out)
    have M13 := hdn (M12.out.below hb)
    have K13 := hdn hk.now.1.1
    have L13 := hdn (las_of hk.now)
    have T13 := hdn (HCP.out S13 hp13 hr13)
    have P13 := hdn hp13
    clear hb hk hp13 hr13 B12 D12 Z12 M12
    go_wp2_with fail
    refine (CIm.out g13 S13 w13 K13.out T13.out L13.out P13.out B13.out.b).mono ?_
    rintro e w14 ⟨ha, hc, hl, hd, SH, rfl, hb, hkh, hpo, ⟨⟨-, -, hhn⟩, hhi⟩, -⟩
    have A14 := (Below.refl w14.heap.size w14).alloc (Nat.le_refl _) (.cells #[.slice ha nR hc, .slice hl m hd] 46)
    have F14 := hb.trans (A14.mono hb.size)
    have B14 := hdn (B13.out.below F14)
    have D14 := hdn (D13.out.trans (F14.mono D13.out.size))
    have Z14 := hdn (below_row F14 (row_lt Z13.out) Z13.out)
    have M14 := hdn (M13.out.below F14)
    have H14 := hdn (PQ.new hpo)
    have HKH := hdn hkh
    have HHN := hdn hhn
    have HHI := hdn hhi
    clear hb hkh hpo hhn hhi A14 F14 B13 D13 Z13 M13 K13 L13 T13 P13
    obtain ⟨x0, x1⟩ := cells2 (X3.out.below D14.out).b
    obtain ⟨y0, y1⟩ := cells2 H14.out.b
    go_wp2_with fail
    clear x0 x1 y0 y1
    generalize w14.alloc (.cells #[.slice ha nR hc, .slice hl m hd] 46) = W14 at *
    generalize w14.heap.size = kh at *
    refine (EQP.out ha hl hc hd SH W14 (H14.out.p.atn HHN.out) H14.out.p.intsL HKH.out HHN.out HHI.out D14.out).mono ?_
    rintro e w15 ⟨rfl, hb⟩
    have B15 := hdn (B14.out.below hb)
    have Z15 := hdn (below_row hb (row_lt Z14.out) Z14.out)
    have M15 := hdn (M14.out.below hb)
    clear hb B14 D14 Z14 M14 H14
    obtain ⟨y0, y1⟩ := cells2 Z15.out
    go_wp2_with fail
    clear y0 y1
    refine (CH.out w15 M15.out).mono ?_
    rintro e w16 ⟨rfl, hb⟩
    have B16 := hdn (B15.out.below hb)
    clear hb B15 Z15 M15
    have hMM : (M != M) = false := by simp
    go_wp2
    go_ret
    exact ⟨rfl, B16.out.b⟩
 · have hr := HXN.out (by omega)
   subst hr
   go_wp2
   go_ret
   exact ⟨rfl, B1.out.b⟩
end Go.Proofs.YtehfjfmfpdgibaaGreatDoor
