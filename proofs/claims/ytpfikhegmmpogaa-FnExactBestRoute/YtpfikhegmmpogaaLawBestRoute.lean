import Derived.Test.YtpfikhegmmpogaaPack3
import Derived.Test.YtpfikhegmmpogaaPack5
import Derived.Test.YtpfikhegmmpogaaPack8
import Derived.Test.YtpfikhegmmpogaaPack9
import Derived.Test.YtpfikhegmmpogaaPack10
namespace Go.Proofs.Ytpfikhegmmpogaa
open Go.RowKit

theorem row_drew {W : World} {k : Nat} {o : Obj} (h : W.heap[k]? = some o) : W.drew.heap[k]? = some o := below_row (Below.refl _ _).drew (row_lt h) h
/-- A law's case in its box. -/
structure LCB (w W : World) (cs : Array Value) : Prop where
  b : Below w.heap.size w W
  c : W.heap[w.heap.size]? = some (.cells cs 61 (0, 0))
theorem LCB.new (w : World) (cs : Array Value) : LCB w (w.alloc (.cells cs 61)) cs := ⟨(Below.refl _ _).alloc (Nat.le_refl _) _, heap_alloc_new _ _⟩
theorem LCB.below {w W W' : World} {cs : Array Value} (h : LCB w W cs) (hb : Below W.heap.size W W') : LCB w W' cs := ⟨h.b.trans (hb.mono h.b.size), below_row hb (row_lt h.c) h.c⟩
theorem brX_len {c : Bool} {n : Int} {zs os vs : List Int} {ko kv : Nat} {veh : Int} {ids : List Int} : (chL (brV c n zs os vs ko kv veh ids).f (unr ids.length ids (brV c n zs os vs ko kv veh ids).i)).length ≤ 12 := by
  cases hf : (brV c n zs os vs ko kv veh ids).f
  · simp [chL]
  · by_cases h6 : ids.length ≤ 6
    · have h : (brV c n zs os vs ko kv veh ids).i < brN ids := (pst_made (ok := brB c n zs os vs ko kv veh ids) (dl := brC n zs os vs ko kv veh ids) (brN ids) hf).2.2
      have h2 : (brV c n zs os vs ko kv veh ids).i < facN ids.length := Nat.lt_of_lt_of_eq h (brN_yes h6)
      have := unr_length ids.length ids (brV c n zs os vs ko kv veh ids).i rfl h2
      simp only [chL, if_true]
      omega
    · rw [brV_long h6] at hf
      cases hf

set_option maxRecDepth 10000 in
set_option maxHeartbeats 1000000 in
theorem lawBestRoute_long (n fine veh : Int) (a ao av bi : Option Addr) (cap ko co kv cv c2 zl il : Nat) (w : World) (h : 1048576 < il) (hl : il ≤ 9223372036854775807) :
    Calls Try.prog 6 #[.agg #[.int .i64 n, .slice a zl cap, .slice ao ko co, .slice av kv cv, .int .i64 fine], .int .i64 veh, .slice bi il c2] w fun e w' => e = .returned (.bool true) ∧ Below w.heap.size w w' := by
  have h1 : (1048576 : Int) < (il : Int) := by omega
  go_enter Try.func6, Try.ntmps6
  go_wp2
  go_ret
  exact ⟨rfl, (Below.refl _ _).alloc (Nat.le_refl _) _⟩

set_option maxRecDepth 10000 in
set_option maxHeartbeats 1000000 in
theorem lawBestRoute_big (n fine veh : Int) (a ao av bi : Option Addr) (cap ko co kv cv c2 zl il : Nat) (w : World) (hlt : zl ≤ 9223372036854775807) (hko : ko ≤ 9223372036854775807) (hkv : kv ≤ 9223372036854775807) (hc : ¬ (zl + ko + kv ≤ 1048576)) (h : il ≤ 1048576) :
    Calls Try.prog 6 #[.agg #[.int .i64 n, .slice a zl cap, .slice ao ko co, .slice av kv cv, .int .i64 fine], .int .i64 veh, .slice bi il c2] w fun e w' => e = .returned (.bool true) ∧ Below w.heap.size w w' := by
  have h1 : ¬ ((1048576 : Int) < (il : Int)) := by omega
  have HS : Hid (szV 1048576 zl ko kv = -1) := szV_neg hc
  have B0 : Hid (LCB w (w.alloc (.cells #[.int .i64 n, .slice a zl cap, .slice ao ko co, .slice av kv cv, .int .i64 fine] 61)) #[.int .i64 n, .slice a zl cap, .slice ao ko co, .slice av kv cv, .int .i64 fine]) := LCB.new w _
  go_enter Try.func6, Try.ntmps6
  obtain ⟨e0, e1, e2, e3, e4⟩ := cells5 B0.out.c
  go_wp2_with fail
  clear e0 e1 e2 e3 e4
  refine (szCase_any n fine 1048576 a ao av zl cap ko co kv cv _ (by omega) (by omega) hlt hko hkv).mono ?_
  rintro e w1 ⟨rfl, hb⟩
  rw [HS.out]
  have B1 : Hid (LCB w w1 _) := B0.out.below hb
  clear hb B0
  go_wp2
  go_ret
  exact ⟨rfl, B1.out.b⟩

set_option maxRecDepth 10000 in
set_option maxHeartbeats 16000000 in
theorem lawBestRoute (n fine veh : Int) (a ao av bi : Option Addr) (cap ko co kv cv c2 : Nat) (zs os vs ids : List Int) (w : World) (hA : IntsAt w a zs) (hO : IntsAt w ao os) (hV : IntsAt w av vs) (hI : IntsAt w bi ids) (hlo : os.length = ko * 6) (hlv : vs.length = kv * 5) (hsm : zs.length + ko + kv ≤ 1048576) (hs4 : ids.length ≤ 1048576) :
    Calls Try.prog 6 #[.agg #[.int .i64 n, .slice a zs.length cap, .slice ao ko co, .slice av kv cv, .int .i64 fine], .int .i64 veh, .slice bi ids.length c2] w fun e w' => e = .returned (.bool true) ∧ Below w.heap.size w w' := by
  have HA : Hid (IntsAt w a zs) := hA
  have HO : Hid (IntsAt w ao os) := hO
  have HV : Hid (IntsAt w av vs) := hV
  have HI : Hid (IntsAt w bi ids) := hI
  have HLO : Hid (os.length = ko * 6) := hlo
  have HLV : Hid (vs.length = kv * 5) := hlv
  clear hA hO hV hI hlo hlv
  have HSZ : Hid (szV 1048576 zs.length ko kv = 1048576 - zs.length - ko - kv) := szV_pos (by omega)
  have hs1 : zs.length ≤ 1048576 := by omega
  have hs2 : ko ≤ 1048576 := by omega
  have hs3 : kv ≤ 1048576 := by omega
  have hid : ¬ ((1048576 : Int) < (ids.length : Int)) := by omega
  obtain ⟨l1, HL1⟩ : ∃ l : Int, Hid ((1048576 - zs.length - ko - kv : Int) = l) := ⟨_, rfl⟩
  have hl1 : 0 ≤ l1 := by have := HL1.out; omega
  rw [HL1.out] at HSZ
  have hK12 := brX_len (c := caseB n zs os vs ko kv fine) (n := n) (zs := zs) (os := os) (vs := vs) (ko := ko) (kv := kv) (veh := veh) (ids := ids)
  obtain ⟨s0, HS0⟩ : ∃ t, Hid (brV (caseB n zs os vs ko kv fine) n zs os vs ko kv veh ids = t) := ⟨_, rfl⟩
  rw [HS0.out] at hK12
  obtain ⟨xs, HXX⟩ : ∃ t, Hid (chL s0.f (unr ids.length ids s0.i) = t) := ⟨_, rfl⟩
  rw [HXX.out] at hK12
  have IBR : Hid (∀ W g go gv gi, CaseAt W g go gv zs os vs → IntsAt W (some ⟨gi, 0, none⟩) ids → Calls Try.prog 10 #[.agg #[.int .i64 n, .slice (some ⟨g, 0, none⟩) zs.length zs.length, .slice (some ⟨go, 0, none⟩) ko ko, .slice (some ⟨gv, 0, none⟩) kv kv, .int .i64 fine], .int .i64 veh, .slice (some ⟨gi, 0, none⟩) ids.length ids.length] W (ChgOk W s0.f veh s0.v xs)) := fun W g go gv gi hC hJ =>
    implBestRoute_any n fine veh _ _ _ _ _ ko _ kv _ _ zs os vs ids W hC.t hC.o hC.v hJ HLO.out HLV.out (by omega) (by omega) (by omega) s0 HS0.out xs HXX.out
  have SBR : Hid (∀ W g go gv gi, CaseAt W g go gv zs os vs → IntsAt W (some ⟨gi, 0, none⟩) ids → Calls Try.prog 11 #[.agg #[.int .i64 n, .slice (some ⟨g, 0, none⟩) zs.length zs.length, .slice (some ⟨go, 0, none⟩) ko ko, .slice (some ⟨gv, 0, none⟩) kv kv, .int .i64 fine], .int .i64 veh, .slice (some ⟨gi, 0, none⟩) ids.length ids.length] W (ChgOk W s0.f veh s0.v xs)) := fun W g go gv gi hC hJ =>
    specBestRoute_any n fine veh _ _ _ _ _ ko _ kv _ _ zs os vs ids W hC.t hC.o hC.v HLO.out HLV.out (by omega) (by omega) (by omega) (fun X k hb hk => by
      have h6 : ids.length ≤ 6 := hk.2
      have := specPermuted_any gi 0 ids.length ids (k : Int) X (hJ.below hb) (by omega)
      have hpT : permT ids (k : Int) = true := by
        unfold permT
        rw [countV_yes h6, fac_nat]
        exact inB_mk (by have := hk.1; omega)
      obtain ⟨k2, e1, _, _, e4⟩ := permT_nat hpT
      have e5 : k = k2 := by omega
      rw [hpT, e4, ← e5] at this
      exact this) s0 HS0.out xs HXX.out
  obtain ⟨ch, sI, D⟩ := s0
  simp only at IBR SBR
  obtain ⟨vv, HVV⟩ : ∃ t, Hid (chI ch veh = t) := ⟨_, rfl⟩
  have B0 : Hid (LCB w (w.alloc (.cells #[.int .i64 n, .slice a zs.length cap, .slice ao ko co, .slice av kv cv, .int .i64 fine] 61)) #[.int .i64 n, .slice a zs.length cap, .slice ao ko co, .slice av kv cv, .int .i64 fine]) := LCB.new w _
  go_enter Try.func6, Try.ntmps6
  obtain ⟨e0, e1, e2, e3, e4⟩ := cells5 B0.out.c
  go_wp2_with fail
  clear e0 e1 e2 e3 e4
  refine (szCase_any n fine 1048576 a ao av zs.length cap ko co kv cv _ (by omega) (by omega) (by omega) (by omega) (by omega)).mono ?_
  rintro e w1 ⟨rfl, hb⟩
  rw [HSZ.out]
  have B1 : Hid (LCB w w1 #[.int .i64 n, .slice a zs.length cap, .slice ao ko co, .slice av kv cv, .int .i64 fine]) := B0.out.below hb
  clear hb B0
  obtain ⟨e0, e1, e2, e3, e4⟩ := cells5 B1.out.c
  go_wp2_with fail
  clear e0 e1 e2 e3 e4
  refine (toCase_any n fine a ao av cap ko co kv cv zs os vs w1 (HA.out.below B1.out.b) (HO.out.below B1.out.b) (HV.out.below B1.out.b) HLO.out HLV.out hs1 hs2 hs3).mono ?_
  rintro e w2 ⟨g2, go2, gv2, _, _, _, rfl, hb, hg⟩
  have B2 : Hid (LCB w w2 #[.int .i64 n, .slice a zs.length cap, .slice ao ko co, .slice av kv cv, .int .i64 fine]) := B1.out.below hb
  have C2 : Hid (CaseAt w2 g2 go2 gv2 zs os vs) := hg
  clear hb hg B1
  go_wp2_with fail
  refine (toInts_any _ _ ids w2 (HI.out.below B2.out.b) hs4).mono ?_
  rintro e w3 ⟨rfl, hb, -, hg⟩
  have B3 : Hid (LCB w w3 #[.int .i64 n, .slice a zs.length cap, .slice ao ko co, .slice av kv cv, .int .i64 fine]) := B2.out.below hb
  have C3 : Hid (CaseAt w3 g2 go2 gv2 zs os vs) := C2.out.below hb
  have J3 : Hid (IntsAt w3 (some ⟨w2.heap.size, 0, none⟩) ids) := IntsAt.of_row hg
  clear hb hg B2 C2
  generalize w2.heap.size = gj at *
  go_wp2_with fail
  refine (SBR.out w3 _ _ _ _ C3.out J3.out).mono ?_
  rintro e w4 ⟨hb, ad0, c0, rfl, ho⟩
  rw [HVV.out]
  have B6 : Hid (LCB w (w4.alloc (Obj.cells #[.int .i64 vv, .slice ad0 xs.length c0] 34)) #[.int .i64 n, .slice a zs.length cap, .slice ao ko co, .slice av kv cv, .int .i64 fine]) := (B3.out.below hb).below ((Below.refl _ _).alloc (Nat.le_refl _) _)
  have V6 : Hid ((w4.alloc (Obj.cells #[.int .i64 vv, .slice ad0 xs.length c0] 34)).heap[w4.heap.size]? = some (.cells #[.int .i64 vv, .slice ad0 xs.length c0] 34 (0, 0))) := heap_alloc_new _ _
  have O6 : Hid ((w4.alloc (Obj.cells #[.int .i64 vv, .slice ad0 xs.length c0] 34)).ownsRow w3.heap.size 2 1 (.slice ad0 xs.length c0) xs.length (xs.map (Value.int .i64))) := ho.alloc _
  clear hb ho B3 C3 J3 SBR
  obtain ⟨e0, e1, e2, e3, e4⟩ := cells5 B6.out.c
  go_wp2_with fail
  clear e0 e1 e2 e3 e4
  generalize w4.alloc (Obj.cells #[.int .i64 vv, .slice ad0 xs.length c0] 34) = w6 at *
  generalize w4.heap.size = bw at *
  generalize w3.heap.size = bs at *
  refine (toCase_any n fine a ao av cap ko co kv cv zs os vs w6 (HA.out.below B6.out.b) (HO.out.below B6.out.b) (HV.out.below B6.out.b) HLO.out HLV.out hs1 hs2 hs3).mono ?_
  rintro e w7 ⟨g7, go7, gv7, hl1', hl2', hl3', rfl, hb, hg⟩
  have L7 : Hid (w6.heap.size ≤ g7 ∧ w6.heap.size ≤ go7 ∧ w6.heap.size ≤ gv7) := ⟨hl1', hl2', hl3'⟩
  have Z7 : Hid (Below w6.heap.size w6 (w7.alloc (Obj.cells #[.int .i64 n, .slice (some ⟨g7, 0, none⟩) zs.length zs.length, .slice (some ⟨go7, 0, none⟩) ko ko, .slice (some ⟨gv7, 0, none⟩) kv kv, .int .i64 fine] 30))) := hb.alloc hb.size _
  have X7 : Hid ((w7.alloc (Obj.cells #[.int .i64 n, .slice (some ⟨g7, 0, none⟩) zs.length zs.length, .slice (some ⟨go7, 0, none⟩) ko ko, .slice (some ⟨gv7, 0, none⟩) kv kv, .int .i64 fine] 30)).heap[w7.heap.size]? = _) := heap_alloc_new _ _
  have C7 : Hid (CaseAt (w7.alloc (Obj.cells #[.int .i64 n, .slice (some ⟨g7, 0, none⟩) zs.length zs.length, .slice (some ⟨go7, 0, none⟩) ko ko, .slice (some ⟨gv7, 0, none⟩) kv kv, .int .i64 fine] 30)) g7 go7 gv7 zs os vs) := hg.below ((Below.refl _ _).alloc (Nat.le_refl _) _)
  clear hb hg hl1' hl2' hl3'
  go_wp2_with fail
  generalize w7.alloc (Obj.cells #[.int .i64 n, .slice (some ⟨g7, 0, none⟩) zs.length zs.length, .slice (some ⟨go7, 0, none⟩) ko ko, .slice (some ⟨gv7, 0, none⟩) kv kv, .int .i64 fine] 30) = W7 at *
  generalize w7.heap.size = bx at *
  refine (toInts_any _ _ ids W7 (HI.out.below (B6.out.below Z7.out).b) hs4).mono ?_
  rintro e w9 ⟨rfl, hb, hz9, hg⟩
  obtain ⟨gi, HGI⟩ : ∃ v, Hid (W7.heap.size = v) := ⟨_, rfl⟩
  rw [HGI.out] at hg hz9 ⊢
  have Z9 : Hid (Below w6.heap.size w6 w9) := Z7.out.trans (hb.mono Z7.out.size)
  have X9 : Hid (w9.heap[bx]? = _) := below_row hb (row_lt X7.out) X7.out
  have C9 : Hid (CaseAt w9 g7 go7 gv7 zs os vs) := C7.out.below hb
  have R9 : Hid (w9.heap[gi]? = some (.cells (cellsOf ids) 2 (0, 0))) := hg
  have U7 : Hid (g7 < gi ∧ go7 < gi ∧ gv7 < gi ∧ w6.heap.size ≤ gi ∧ bx < gi) := by
    rw [← HGI.out]
    exact ⟨row_lt C7.out.1, row_lt C7.out.2.1, row_lt C7.out.2.2, Z7.out.size, row_lt X7.out⟩
  have U9 : Hid (gi < w9.heap.size) := row_lt hg
  clear hb hg hz9 Z7 X7 C7 HGI
  obtain ⟨x0, x1, x2, x3, x4⟩ := cells5 X9.out
  go_wp2_with fail
  clear x0 x1 x2 x3 x4
  refine (IBR.out w9 _ _ _ _ C9.out (IntsAt.of_row R9.out)).mono ?_
  rintro e w10' ⟨hb', ad, c, rfl, ho⟩
  rw [HVV.out]
  have hb : Below w9.heap.size w9 (w10'.alloc (Obj.cells #[.int .i64 vv, .slice ad xs.length c] 34)) := hb'.alloc hb'.size _
  have Z10 : Hid (Below w6.heap.size w6 (w10'.alloc (Obj.cells #[.int .i64 vv, .slice ad xs.length c] 34))) := Z9.out.trans (Below.mono hb Z9.out.size)
  have X10 : Hid ((w10'.alloc (Obj.cells #[.int .i64 vv, .slice ad xs.length c] 34)).heap[bx]? = _) := below_row hb (row_lt X9.out) X9.out
  have C10 : Hid (CaseAt (w10'.alloc (Obj.cells #[.int .i64 vv, .slice ad xs.length c] 34)) g7 go7 gv7 zs os vs) := C9.out.below hb
  have R10 : Hid ((w10'.alloc (Obj.cells #[.int .i64 vv, .slice ad xs.length c] 34)).heap[gi]? = some (.cells (cellsOf ids) 2 (0, 0))) := below_row hb (row_lt R9.out) R9.out
  have O10 : Hid ((w10'.alloc (Obj.cells #[.int .i64 vv, .slice ad xs.length c] 34)).ownsRow w9.heap.size 2 1 (.slice ad xs.length c) xs.length (xs.map (Value.int .i64))) := ho.alloc _
  have G10 : Hid ((w10'.alloc (Obj.cells #[.int .i64 vv, .slice ad xs.length c] 34)).heap[w10'.heap.size]? = some (.cells #[.int .i64 vv, .slice ad xs.length c] 34 (0, 0))) := heap_alloc_new _ _
  have V10 : Hid ((w10'.alloc (Obj.cells #[.int .i64 vv, .slice ad xs.length c] 34)).heap[bw]? = _) := below_row Z10.out (row_lt V6.out) V6.out
  clear hb hb' ho Z9 X9 C9 R9
  have hDD : (D != D) = false := by simp
  have hcc : (ch != ch) = false := by simp
  obtain ⟨y0, y1⟩ := cells2 G10.out
  obtain ⟨z0, z1⟩ := cells2 V10.out
  go_wp2_with fail
  clear y0 y1 z0 z1 V10
  generalize w10'.alloc (Obj.cells #[.int .i64 vv, .slice ad xs.length c] 34) = w10 at *
  generalize w10'.heap.size = bg at *
  generalize w9.heap.size = b9 at *
  refine (eqRoute_u vv ad ad0 c c0 b9 bs xs w10 O10.out (owns_below O6.out Z10.out) (by omega)).mono ?_
  rintro e w11 ⟨rfl, hb⟩
  have Z11 : Hid (Below w6.heap.size w6 w11) := Z10.out.trans (Below.mono hb Z10.out.size)
  have X11 : Hid (w11.heap[bx]? = _) := below_row hb (row_lt X10.out) X10.out
  have C11 : Hid (CaseAt w11 g7 go7 gv7 zs os vs) := C10.out.below hb
  have R11 : Hid (w11.heap[gi]? = some (.cells (cellsOf ids) 2 (0, 0))) := below_row hb (row_lt R10.out) R10.out
  have O11 : Hid (w11.ownsRow b9 2 1 (.slice ad xs.length c) xs.length (xs.map (Value.int .i64))) := owns_below O10.out hb
  have G11 : Hid (w11.heap[bg]? = some (.cells #[.int .i64 vv, .slice ad xs.length c] 34 (0, 0))) := below_row hb (row_lt G10.out) G10.out
  clear Z10 X10 C10 R10 O10 G10 hb
  have B11 : Hid (LCB w w11 #[.int .i64 n, .slice a zs.length cap, .slice ao ko co, .slice av kv cv, .int .i64 fine]) := B6.out.below Z11.out
  obtain ⟨e0, e1, e2, e3, e4⟩ := cells5 B11.out.c
  obtain ⟨x0, x1, x2, x3, x4⟩ := cells5 X11.out
  go_wp2_with fail
  have kS := And.intro (cells5 (B11.out.below (Below.refl _ _).drew).c) (cells5 (row_drew X11.out))
  go_region_held3 (fun W => (W.cell? ⟨w.heap.size, 0, none⟩ = some (.int .i64 n) ∧ W.cell? ⟨w.heap.size, 1, none⟩ = some (.slice a zs.length cap) ∧ W.cell? ⟨w.heap.size, 2, none⟩ = some (.slice ao ko co) ∧ W.cell? ⟨w.heap.size, 3, none⟩ = some (.slice av kv cv) ∧ W.cell? ⟨w.heap.size, 4, none⟩ = some (.int .i64 fine)) ∧ W.cell? ⟨bx, 0, none⟩ = some (.int .i64 n) ∧ W.cell? ⟨bx, 1, none⟩ = some (.slice (some ⟨g7, 0, none⟩) zs.length zs.length) ∧ W.cell? ⟨bx, 2, none⟩ = some (.slice (some ⟨go7, 0, none⟩) ko ko) ∧ W.cell? ⟨bx, 3, none⟩ = some (.slice (some ⟨gv7, 0, none⟩) kv kv) ∧ W.cell? ⟨bx, 4, none⟩ = some (.int .i64 fine)) (first | with_reducible exact kS | go_keep) ((first
  | (go_at_call 31
     with_reducible refine (toCase_any n fine a ao av cap ko co kv cv zs os vs w11.drew (HA.out.below (B11.out.below (Below.refl _ _).drew).b) (HO.out.below (B11.out.below (Below.refl _ _).drew).b) (HV.out.below (B11.out.below (Below.refl _ _).drew).b) HLO.out HLV.out hs1 hs2 hs3).mono ?_
     rintro e w12 ⟨g12, go12, gv12, _, _, _, rfl, hb', hg⟩
     have hb := (Below.refl w11.heap.size w11).drew.trans (hb'.mono (Nat.le_refl _))
     have Z12 : Hid (Below w6.heap.size w6 w12) := Z11.out.trans (Below.mono hb Z11.out.size)
     have X12 : Hid (w12.heap[bx]? = _) := below_row hb (row_lt X11.out) X11.out
     have C12 : Hid (CaseAt w12 g7 go7 gv7 zs os vs) := C11.out.below hb
     have R12 : Hid (w12.heap[gi]? = some (.cells (cellsOf ids) 2 (0, 0))) := below_row hb (row_lt R11.out) R11.out
     have O12 : Hid (w12.ownsRow b9 2 1 (.slice ad xs.length c) xs.length (xs.map (Value.int .i64))) := owns_below O11.out hb
     have G12 : Hid (w12.heap[bg]? = some (.cells #[.int .i64 vv, .slice ad xs.length c] 34 (0, 0))) := below_row hb (row_lt G11.out) G11.out
     have D12 : Hid (CaseAt w12 g12 go12 gv12 zs os vs) := hg
     have kS := And.intro (cells5 (B6.out.below Z12.out).c) (cells5 X12.out)
     clear hb hb' hg)
  | (go_at_call 34
     with_reducible refine (eqCase_same n fine _ _ _ _ _ _ _ _ _ _ _ _ _ _ zs os vs w12 C12.out.t C12.out.o C12.out.v D12.out.t D12.out.o D12.out.v HLO.out HLV.out (by omega) (by omega) (by omega)).mono ?_
     rintro e w13 ⟨rfl, hb⟩
     have Z13 : Hid (Below w6.heap.size w6 w13) := Z12.out.trans (Below.mono hb Z12.out.size)
     have X13 : Hid (w13.heap[bx]? = _) := below_row hb (row_lt X12.out) X12.out
     have C13 : Hid (CaseAt w13 g7 go7 gv7 zs os vs) := C12.out.below hb
     have R13 : Hid (w13.heap[gi]? = some (.cells (cellsOf ids) 2 (0, 0))) := below_row hb (row_lt R12.out) R12.out
     have O13 : Hid (w13.ownsRow b9 2 1 (.slice ad xs.length c) xs.length (xs.map (Value.int .i64))) := owns_below O12.out hb
     have G13 : Hid (w13.heap[bg]? = some (.cells #[.int .i64 vv, .slice ad xs.length c] 34 (0, 0))) := below_row hb (row_lt G12.out) G12.out
     have kS := And.intro (cells5 (B6.out.below Z13.out).c) (cells5 X13.out)
     clear hb)))
  all_goals
    clear e0 e1 e2 e3 e4 x0 x1 x2 x3 x4 kS B11 D12
    clear Z11 X11 C11 R11 O11 G11
    clear Z12 X12 C12 R12 O12 G12
    go_wp2_with fail
    refine (toInts_any _ _ ids w13 (HI.out.below (B6.out.below Z13.out).b) hs4).mono ?_
    rintro e w14 ⟨rfl, hb, -, hg⟩
    have Z14 : Hid (Below w6.heap.size w6 w14) := Z13.out.trans (Below.mono hb Z13.out.size)
    have X14 : Hid (w14.heap[bx]? = _) := below_row hb (row_lt X13.out) X13.out
    have C14 : Hid (CaseAt w14 g7 go7 gv7 zs os vs) := C13.out.below hb
    have R14 : Hid (w14.heap[gi]? = some (.cells (cellsOf ids) 2 (0, 0))) := below_row hb (row_lt R13.out) R13.out
    have O14 : Hid (w14.ownsRow b9 2 1 (.slice ad xs.length c) xs.length (xs.map (Value.int .i64))) := owns_below O13.out hb
    have G14 : Hid (w14.heap[bg]? = some (.cells #[.int .i64 vv, .slice ad xs.length c] 34 (0, 0))) := below_row hb (row_lt G13.out) G13.out
    have J14 : Hid (IntsAt w14 (some ⟨w13.heap.size, 0, none⟩) ids) := IntsAt.of_row hg
    clear hb hg Z13 X13 C13 R13 O13 G13
    generalize w13.heap.size = gk at *
    go_wp2_with fail
    refine (eqInts_any _ _ _ _ ids ids w14 (IntsAt.of_row R14.out) J14.out (by omega)).mono ?_
    rintro e w15 ⟨rfl, hb⟩
    rw [show decide (ids = ids) = true by simp]
    have Z15 : Hid (Below w6.heap.size w6 w15) := Z14.out.trans (Below.mono hb Z14.out.size)
    have X15 : Hid (w15.heap[bx]? = _) := below_row hb (row_lt X14.out) X14.out
    have C15 : Hid (CaseAt w15 g7 go7 gv7 zs os vs) := C14.out.below hb
    have R15 : Hid (w15.heap[gi]? = some (.cells (cellsOf ids) 2 (0, 0))) := below_row hb (row_lt R14.out) R14.out
    have O15 : Hid (w15.ownsRow b9 2 1 (.slice ad xs.length c) xs.length (xs.map (Value.int .i64))) := owns_below O14.out hb
    have G15 : Hid (w15.heap[bg]? = some (.cells #[.int .i64 vv, .slice ad xs.length c] 34 (0, 0))) := below_row hb (row_lt G14.out) G14.out
    clear hb J14 Z14 X14 C14 R14 O14 G14
    have N2 : Hid (¬ (bg = g7 ∨ bg = go7 ∨ bg = gv7)) := fun h => by
      rcases h with h | h | h
      · exact type_ne G15.out C15.out.1 (by decide) h
      · exact type_ne G15.out C15.out.2.1 (by decide) h
      · exact type_ne G15.out C15.out.2.2 (by decide) h
    have N3 : Hid (bg ≠ gi) := type_ne G15.out R15.out (by decide)
    obtain ⟨x0, x1, x2, x3, x4⟩ := cells5 X15.out
    go_wp2_with fail
    clear x0 x1 x2 x3 x4
    refine (markCase_any n fine g7 go7 gv7 _ ko _ kv _ zs os vs w15 C15.out HLO.out HLV.out hs1 hs2 hs3).mono ?_
    rintro e w16 ⟨kk, rfl, hk1, hk2, hg⟩
    have Z16 : Hid (Below w6.heap.size w6 w16) := Z15.out.trans (hg.below Z15.out.size (fun b h => by have h9 := L7.out; rcases h with h | h | h <;> omega))
    have G16 : Hid (w16.heap[bg]? = some (.cells #[.int .i64 vv, .slice ad xs.length c] 34 (0, 0))) := hg.row G15.out N2.out
    have R16 : Hid (w16.heap[gi]? = some (.cells (cellsOf ids) 2 (0, 0))) := hg.row R15.out (fun h => by have h9 := U7.out; rcases h with h | h | h <;> omega)
    have O16 : Hid (w16.ownsRow b9 2 1 (.slice ad xs.length c) xs.length (xs.map (Value.int .i64))) := hg.owns O15.out (fun b h => by have h9 := U9.out; have h8 := U7.out; rcases h with h | h | h <;> omega)
    clear hg Z15 X15 C15 R15 O15 G15
    go_wp2_with fail
    refine (markInt64S_any gi ids.length _ kk (cellsOf ids) _ _ R16.out (by rw [cellsOf_size]; exact Nat.le_refl _) hk1 (by omega) (by omega)).mono ?_
    rintro e w17 ⟨rfl, hg0, -⟩
    have hg : GrownBut (fun b => b = gi) w16 w17 := GrownBut.of_grown hg0 rfl
    have Z17 : Hid (Below w6.heap.size w6 w17) := Z16.out.trans (hg.below Z16.out.size (fun b h => by have h8 := U7.out; omega))
    have O17 : Hid (w17.ownsRow b9 2 1 (.slice ad xs.length c) xs.length (xs.map (Value.int .i64))) := hg.owns O16.out (fun b h => by have h9 := U9.out; omega)
    have G17 : Hid (w17.heap[bg]? = some (.cells #[.int .i64 vv, .slice ad xs.length c] 34 (0, 0))) := hg.row G16.out (fun h => N3.out h)
    have V17 : Hid (w17.heap[bw]? = _) := below_row Z17.out (row_lt V6.out) V6.out
    clear hg hg0 Z16 R16 O16 G16
    obtain ⟨kq, HKQ⟩ : ∃ t, Hid (kk + ((ids.length : Nat) : Int) = t) := ⟨_, rfl⟩
    have hkq : 0 ≤ kq := by have := HKQ.out; omega
    rw [HKQ.out]
    obtain ⟨y0, y1⟩ := cells2 G17.out
    obtain ⟨z0, z1⟩ := cells2 V17.out
    go_wp2_with fail
    clear y0 y1 z0 z1 V17
    refine (eqRoute_u vv ad ad0 c c0 b9 bs xs w17 O17.out (owns_below O6.out Z17.out) (by omega)).mono ?_
    rintro e w18 ⟨rfl, hb⟩
    have Z18 : Hid (Below w6.heap.size w6 w18) := Z17.out.trans (Below.mono hb Z17.out.size)
    have O18 : Hid (w18.ownsRow b9 2 1 (.slice ad xs.length c) xs.length (xs.map (Value.int .i64))) := owns_below O17.out hb
    have G18 : Hid (w18.heap[bg]? = some (.cells #[.int .i64 vv, .slice ad xs.length c] 34 (0, 0))) := below_row hb (row_lt G17.out) G17.out
    clear hb Z17 O17 G17
    obtain ⟨y0, y1⟩ := cells2 G18.out
    go_wp2_with fail
    clear y0 y1
    refine (markRoute_u vv ad xs.length c b9 xs w18 O18.out (by omega)).mono ?_
    rintro e w19' ⟨rfl, hg, hm⟩
    have Z19' : Hid (Below w6.heap.size w6 w19') := Z18.out.trans (hg.below Z18.out.size (fun b h => by have h9 := (O18.out.lt _ h).1; have h8 := U9.out; have h7 := U7.out; omega))
    have G19' : Hid (w19'.heap[bg]? = some (.cells #[.int .i64 vv, .slice ad xs.length c] 34 (0, 0))) := hg.row G18.out (fun h => own_type O18.out h G18.out (by decide))
    have M19' : Hid (Marked1 w19' ad xs.length) := hm
    clear hg hm Z18 O18 G18
    obtain ⟨q, HQ⟩ : ∃ t, Hid ((1 : Int) + (xs.length : Int) = t) := ⟨_, rfl⟩
    have hq : 0 ≤ q := by have := HQ.out; omega
    have hqq : (q != q) = false := by simp
    rw [HQ.out]
    obtain ⟨y0, y1⟩ := cells2 G19'.out
    go_wp2_with fail
    clear y0 y1
    refine (heldRoute_u vv ad xs.length c w19' M19'.out (by omega)).mono ?_
    rintro e w19 ⟨rfl, hb⟩
    rw [HQ.out]
    have Z19 : Hid (Below w6.heap.size w6 w19) := Z19'.out.trans (Below.mono hb Z19'.out.size)
    have G19 : Hid (w19.heap[bg]? = some (.cells #[.int .i64 vv, .slice ad xs.length c] 34 (0, 0))) := below_row hb (row_lt G19'.out) G19'.out
    have M19 : Hid (Marked1 w19 ad xs.length) := M19'.out.below hb
    clear hb Z19' G19' M19'
    have B19 : Hid (LCB w w19 #[.int .i64 n, .slice a zs.length cap, .slice ao ko co, .slice av kv cv, .int .i64 fine]) := B6.out.below Z19.out
    obtain ⟨e0, e1, e2, e3, e4⟩ := cells5 B19.out.c
    go_wp2_with fail
    clear e0 e1 e2 e3 e4
    refine (toCase_any n fine a ao av cap ko co kv cv zs os vs w19 (HA.out.below B19.out.b) (HO.out.below B19.out.b) (HV.out.below B19.out.b) HLO.out HLV.out hs1 hs2 hs3).mono ?_
    rintro e w20 ⟨g20, go20, gv20, _, _, _, rfl, hb, hg⟩
    have Z20 : Hid (Below w6.heap.size w6 w20) := Z19.out.trans (Below.mono hb Z19.out.size)
    have G20 : Hid (w20.heap[bg]? = some (.cells #[.int .i64 vv, .slice ad xs.length c] 34 (0, 0))) := below_row hb (row_lt G19.out) G19.out
    have M20 : Hid (Marked1 w20 ad xs.length) := M19.out.below hb
    have C20 : Hid (CaseAt w20 g20 go20 gv20 zs os vs) := hg
    clear hb hg Z19 G19 M19 B19
    go_wp2_with fail
    refine (toInts_any _ _ ids w20 (HI.out.below (B6.out.below Z20.out).b) hs4).mono ?_
    rintro e w21 ⟨rfl, hb, -, hg⟩
    have Z21 : Hid (Below w6.heap.size w6 w21) := Z20.out.trans (Below.mono hb Z20.out.size)
    have G21 : Hid (w21.heap[bg]? = some (.cells #[.int .i64 vv, .slice ad xs.length c] 34 (0, 0))) := below_row hb (row_lt G20.out) G20.out
    have M21 : Hid (Marked1 w21 ad xs.length) := M20.out.below hb
    have C21 : Hid (CaseAt w21 g20 go20 gv20 zs os vs) := C20.out.below hb
    have J21 : Hid (IntsAt w21 (some ⟨w20.heap.size, 0, none⟩) ids) := IntsAt.of_row hg
    clear hb hg Z20 G20 M20 C20
    generalize w20.heap.size = gl at *
    go_wp2_with fail
    refine (IBR.out w21 _ _ _ _ C21.out J21.out).mono ?_
    rintro e w22' ⟨hb', ad2, c3, rfl, ho⟩
    rw [HVV.out]
    have hb : Below w21.heap.size w21 (w22'.alloc (Obj.cells #[.int .i64 vv, .slice ad2 xs.length c3] 34)) := hb'.alloc hb'.size _
    have O22 : Hid ((w22'.alloc (Obj.cells #[.int .i64 vv, .slice ad2 xs.length c3] 34)).ownsRow w21.heap.size 2 1 (.slice ad2 xs.length c3) xs.length (xs.map (Value.int .i64))) := ho.alloc _
    have H22 : Hid ((w22'.alloc (Obj.cells #[.int .i64 vv, .slice ad2 xs.length c3] 34)).heap[w22'.heap.size]? = some (.cells #[.int .i64 vv, .slice ad2 xs.length c3] 34 (0, 0))) := heap_alloc_new _ _
    have Z22 : Hid (Below w6.heap.size w6 (w22'.alloc (Obj.cells #[.int .i64 vv, .slice ad2 xs.length c3] 34))) := Z21.out.trans (Below.mono hb Z21.out.size)
    have G22 : Hid ((w22'.alloc (Obj.cells #[.int .i64 vv, .slice ad2 xs.length c3] 34)).heap[bg]? = some (.cells #[.int .i64 vv, .slice ad xs.length c] 34 (0, 0))) := below_row hb (row_lt G21.out) G21.out
    have M22 : Hid (Marked1 (w22'.alloc (Obj.cells #[.int .i64 vv, .slice ad2 xs.length c3] 34)) ad xs.length) := M21.out.below hb
    have V22 : Hid ((w22'.alloc (Obj.cells #[.int .i64 vv, .slice ad2 xs.length c3] 34)).heap[bw]? = _) := below_row Z22.out (row_lt V6.out) V6.out
    clear hb hb' ho Z21 G21 M21 C21 J21
    obtain ⟨y0, y1⟩ := cells2 H22.out
    obtain ⟨z0, z1⟩ := cells2 V22.out
    go_wp2_with fail
    clear y0 y1 z0 z1 V22 H22
    generalize w22'.alloc (Obj.cells #[.int .i64 vv, .slice ad2 xs.length c3] 34) = w22 at *
    generalize w21.heap.size = b21 at *
    refine (eqRoute_u vv ad2 ad0 c3 c0 b21 bs xs w22 O22.out (owns_below O6.out Z22.out) (by omega)).mono ?_
    rintro e w23 ⟨rfl, hb⟩
    have Z23 : Hid (Below w6.heap.size w6 w23) := Z22.out.trans (Below.mono hb Z22.out.size)
    have G23 : Hid (w23.heap[bg]? = some (.cells #[.int .i64 vv, .slice ad xs.length c] 34 (0, 0))) := below_row hb (row_lt G22.out) G22.out
    have M23 : Hid (Marked1 w23 ad xs.length) := M22.out.below hb
    have B23 : Hid (Below w.heap.size w w23) := (B6.out.below Z23.out).b
    clear hb Z22 G22 M22 O22
    obtain ⟨y0, y1⟩ := cells2 G23.out
    go_wp2_with fail
    clear y0 y1
    refine (heldRoute_u vv ad xs.length c w23 M23.out (by omega)).mono ?_
    rintro e w24 ⟨rfl, hb⟩
    rw [HQ.out]
    have B24 : Hid (Below w.heap.size w w24) := B23.out.trans (hb.mono B23.out.size)
    clear hb
    go_wp2
    go_ret
    exact ⟨rfl, B24.out⟩

theorem lawBestRoute_all (n fine veh : Int) (a ao av bi : Option Addr) (cap ko co kv cv c2 : Nat) (zs os vs ids : List Int) (w : World) (hA : IntsAt w a zs) (hO : IntsAt w ao os) (hV : IntsAt w av vs) (hI : IntsAt w bi ids) (hlo : os.length = ko * 6) (hlv : vs.length = kv * 5) (hlt : zs.length ≤ 9223372036854775807) (hko : ko ≤ 9223372036854775807) (hkv : kv ≤ 9223372036854775807) (hli : ids.length ≤ 9223372036854775807) :
    Calls Try.prog 6 #[.agg #[.int .i64 n, .slice a zs.length cap, .slice ao ko co, .slice av kv cv, .int .i64 fine], .int .i64 veh, .slice bi ids.length c2] w fun e w' => e = .returned (.bool true) ∧ Below w.heap.size w w' := by
  by_cases h1 : ids.length ≤ 1048576
  · by_cases h2 : zs.length + ko + kv ≤ 1048576
    · exact lawBestRoute n fine veh a ao av bi cap ko co kv cv c2 zs os vs ids w hA hO hV hI hlo hlv h2 h1
    · exact lawBestRoute_big n fine veh a ao av bi cap ko co kv cv c2 _ _ w hlt hko hkv h2 h1
  · exact lawBestRoute_long n fine veh a ao av bi cap ko co kv cv c2 _ _ w (by omega) hli

end Go.Proofs.Ytpfikhegmmpogaa
