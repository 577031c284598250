import Derived.Test.YtdnfgeojagagnaiCases
import Derived.Test.YtdnfgeojagagnaiSpecOrdOf
import Derived.Test.YtdnfgeojagagnaiImplOrdOf
namespace Go.Proofs.Ytdnfgeojagagnai
open Go.RowKit

set_option maxHeartbeats 1000000 in
theorem lawOrderOf_big (n fine id : Int) (a ao av : Option Addr) (lt cap ko co kv cv : Nat) (w : World) (hlt : lt ≤ 9223372036854775807) (hko : ko ≤ 9223372036854775807) (hkv : kv ≤ 9223372036854775807) (h : ¬ (lt + ko + kv ≤ 1048576)) :
    Calls Try.prog 7 #[.agg #[.int .i64 n, .slice a lt cap, .slice ao ko co, .slice av kv cv, .int .i64 fine], .int .i64 id] w fun e w' => e = .returned (.bool true) ∧ Below w.heap.size w w' := by
  have HS : Hid (szV 1048576 lt ko kv = -1) := szV_neg h
  clear h
  go_enter Try.func7, Try.ntmps7
  go_wp2_with fail
  refine (szCase_any n fine 1048576 a ao av lt cap ko co kv cv _ (by omega) (by omega) hlt hko hkv).mono ?_
  rintro e w1 ⟨rfl, hb⟩
  rw [HS.out]
  obtain ⟨b1, r1⟩ := box5 hb
  clear hb r1
  go_wp2
  go_ret
  exact ⟨rfl, b1⟩

set_option maxHeartbeats 2000000 in
theorem lawOrderOf (n fine id : Int) (a ao av : Option Addr) (cap ko co kv cv : Nat) (zs os vs : List Int) (w : World) (hA : IntsAt w a zs) (hO : IntsAt w ao os) (hV : IntsAt w av vs) (hlo : os.length = ko * 6) (hlv : vs.length = kv * 5) (hsm : zs.length + ko + kv ≤ 1048576) :
    Calls Try.prog 7 #[.agg #[.int .i64 n, .slice a zs.length cap, .slice ao ko co, .slice av kv cv, .int .i64 fine], .int .i64 id] w fun e w' => e = .returned (.bool true) ∧ Below w.heap.size w w' := by
  have HA : Hid (IntsAt w a zs) := hA
  have HO : Hid (IntsAt w ao os) := hO
  have HV : Hid (IntsAt w av vs) := hV
  have HLO : Hid _ := hlo
  have HLV : Hid _ := hlv
  have HS : Hid (szV 1048576 zs.length ko kv = 1048576 - zs.length - ko - kv) := szV_pos hsm
  have hs1 : zs.length ≤ 1048576 := by omega
  have hs2 : ko ≤ 1048576 := by omega
  have hs3 : kv ≤ 1048576 := by omega
  clear hA hO hV hlo hlv
  go_enter Try.func7, Try.ntmps7
  go_wp2_with fail
  refine (szCase_any n fine 1048576 a ao av zs.length cap ko co kv cv _ (by omega) (by omega) (by omega) (by omega) (by omega)).mono ?_
  rintro e w1 ⟨rfl, hb⟩
  rw [HS.out]
  obtain ⟨b1, r1⟩ := box5 hb
  obtain ⟨c0, c1, c2, c3, c4⟩ := cells5 r1
  have B1 : Hid (Below w.heap.size w w1) := b1
  have R1 : Hid _ := r1
  clear hb b1 r1
  have hle : (0 : Int) ≤ 1048576 - zs.length - ko - kv := by omega
  go_wp2_with fail
  refine (toCase_any n fine a ao av cap ko co kv cv zs os vs _ (HA.out.below B1.out) (HO.out.below B1.out) (HV.out.below B1.out) HLO.out HLV.out hs1 hs2 hs3).mono ?_
  rintro e w2 ⟨g2, go2, gv2, _, _, _, rfl, hb, hg⟩
  obtain ⟨b2, r2⟩ := box_more hb B1.out R1.out
  have B2 : Hid (Below w.heap.size w w2) := b2
  have R2 : Hid _ := r2
  have G2 : Hid (CaseAt w2 g2 go2 gv2 zs os vs) := hg
  clear hb hg b2 r2 B1 R1 c0 c1 c2 c3 c4
  go_wp2_with fail
  refine (specOrdOf_any n fine id _ _ _ _ _ _ _ _ zs os vs _ G2.out.t G2.out.o G2.out.v HLO.out HLV.out (by omega) (by omega)).mono ?_
  rintro e w3 ⟨rfl, hb⟩
  obtain ⟨b3, r3⟩ := box_more hb B2.out R2.out
  have B3 : Hid (Below w.heap.size w w3) := b3
  have R3 : Hid _ := r3
  clear hb b3 r3 B2 R2 G2
  obtain ⟨o0, H0⟩ : ∃ t, Hid (got6F (caseB n zs os vs ko kv fine) os ko id 0 = t) := ⟨_, rfl⟩
  obtain ⟨o1, H1⟩ : ∃ t, Hid (got6F (caseB n zs os vs ko kv fine) os ko id 1 = t) := ⟨_, rfl⟩
  obtain ⟨o2, H2⟩ : ∃ t, Hid (got6F (caseB n zs os vs ko kv fine) os ko id 2 = t) := ⟨_, rfl⟩
  obtain ⟨o3, H3⟩ : ∃ t, Hid (got6F (caseB n zs os vs ko kv fine) os ko id 3 = t) := ⟨_, rfl⟩
  obtain ⟨o4, H4⟩ : ∃ t, Hid (got6F (caseB n zs os vs ko kv fine) os ko id 4 = t) := ⟨_, rfl⟩
  obtain ⟨o5, H5⟩ : ∃ t, Hid (got6F (caseB n zs os vs ko kv fine) os ko id 5 = t) := ⟨_, rfl⟩
  obtain ⟨tb, HTB⟩ : ∃ t, Hid (got6T (caseB n zs os vs ko kv fine) os ko id = t) := ⟨_, rfl⟩
  rw [H0.out, H1.out, H2.out, H3.out, H4.out, H5.out, HTB.out]
  obtain ⟨c0, c1, c2, c3, c4⟩ := cells5 R3.out
  have hlw3 := row_lt R3.out
  go_wp2_with fail
  have B3' : Hid (Below w.heap.size w (w3.alloc (Obj.cells #[Value.int IntKind.i64 o0, Value.int IntKind.i64 o1, Value.int IntKind.i64 o2, Value.int IntKind.i64 o3, Value.int IntKind.i64 o4, Value.int IntKind.i64 o5] 47))) := B3.out.alloc B3.out.size _
  have R3' : Hid ((w3.alloc (Obj.cells #[Value.int IntKind.i64 o0, Value.int IntKind.i64 o1, Value.int IntKind.i64 o2, Value.int IntKind.i64 o3, Value.int IntKind.i64 o4, Value.int IntKind.i64 o5] 47)).heap[w.heap.size]? = _) := (heap_alloc_old _ _ (row_lt R3.out)).trans R3.out
  have Y3 : Hid ((w3.alloc (Obj.cells #[Value.int IntKind.i64 o0, Value.int IntKind.i64 o1, Value.int IntKind.i64 o2, Value.int IntKind.i64 o3, Value.int IntKind.i64 o4, Value.int IntKind.i64 o5] 47)).heap[w3.heap.size]? = _) := heap_alloc_new _ _
  clear B3 R3 c0 c1 c2 c3 c4
  obtain ⟨ky, HKY⟩ : ∃ ky, Hid (w3.heap.size = ky) := ⟨_, rfl⟩
  rw [HKY.out] at Y3 hlw3 ⊢
  generalize w3.alloc (Obj.cells #[Value.int IntKind.i64 o0, Value.int IntKind.i64 o1, Value.int IntKind.i64 o2, Value.int IntKind.i64 o3, Value.int IntKind.i64 o4, Value.int IntKind.i64 o5] 47) = W3 at *
  refine (toCase_any n fine a ao av cap ko co kv cv zs os vs _ (HA.out.below B3'.out) (HO.out.below B3'.out) (HV.out.below B3'.out) HLO.out HLV.out hs1 hs2 hs3).mono ?_
  rintro e w4 ⟨g4, go4, gv4, _, _, _, rfl, hb, hg⟩
  obtain ⟨b4, r4⟩ := box_more hb B3'.out R3'.out
  have B4 : Hid (Below w.heap.size w w4) := b4
  have R4 : Hid _ := r4
  have Y4 : Hid _ := below_row hb (row_lt Y3.out) Y3.out
  have G4 : Hid (CaseAt w4 g4 go4 gv4 zs os vs) := hg
  clear hb hg b4 r4 B3' R3' Y3
  go_wp2_with fail
  have X4 : Hid (Below w4.heap.size w4 (w4.alloc (Obj.cells #[Value.int IntKind.i64 n, Value.slice (some ⟨g4, 0, none⟩) zs.length zs.length, Value.slice (some ⟨go4, 0, none⟩) ko ko, Value.slice (some ⟨gv4, 0, none⟩) kv kv, Value.int IntKind.i64 fine] 42))) := (Below.refl _ _).alloc (Nat.le_refl _) _
  refine (implOrdOf_any n fine id _ _ _ _ _ _ _ _ zs os vs _ (G4.out.below X4.out).t (G4.out.below X4.out).o (G4.out.below X4.out).v HLO.out HLV.out (by omega) (by omega)).mono ?_
  rintro e w5 ⟨rfl, hb⟩
  rw [H0.out, H1.out, H2.out, H3.out, H4.out, H5.out, HTB.out]
  obtain ⟨b5, x5⟩ := box5 hb
  obtain ⟨b5', r5⟩ := box_more b5 B4.out R4.out
  have B5 : Hid (Below w.heap.size w w5) := b5'
  have R5 : Hid _ := r5
  have X5 : Hid _ := x5
  have Y5 : Hid _ := below_row b5 (row_lt Y4.out) Y4.out
  have G5 : Hid (CaseAt w5 g4 go4 gv4 zs os vs) := G4.out.below b5
  clear hb b5 b5' r5 x5 B4 R4 X4 G4 Y4
  obtain ⟨y0, y1, y2, y3, y4, y5⟩ := cells6 Y5.out
  have hly := row_lt Y5.out
  go_wp2_with fail
  have A5 : Hid (Below w5.heap.size w5 (w5.alloc (Obj.cells #[Value.int IntKind.i64 o0, Value.int IntKind.i64 o1, Value.int IntKind.i64 o2, Value.int IntKind.i64 o3, Value.int IntKind.i64 o4, Value.int IntKind.i64 o5] 47))) := (Below.refl _ _).alloc (Nat.le_refl _) _
  refine (eqOrder_same _ _ _ _ _ _ _).mono ?_
  rintro e w6 ⟨rfl, hb⟩
  have b6 : Below w5.heap.size w5 w6 := A5.out.trans (hb.mono A5.out.size)
  have B6 : Hid (Below w.heap.size w w6) := B5.out.trans (b6.mono B5.out.size)
  have R6 : Hid _ := below_row b6 (row_lt R5.out) R5.out
  have X6 : Hid _ := below_row b6 (row_lt X5.out) X5.out
  have G6 : Hid (CaseAt w6 g4 go4 gv4 zs os vs) := G5.out.below b6
  clear hb b6 B5 R5 X5 G5 Y5 A5 y0 y1 y2 y3 y4 y5
  have htt : (tb != tb) = false := by simp
  obtain ⟨c0, c1, c2, c3, c4⟩ := cells5 R6.out
  obtain ⟨x0, x1, x2, x3, x4⟩ := cells5 X6.out
  go_wp2_with fail
  go_region_held3 (fun W => W.cell? ⟨w.heap.size, 0, none⟩ = some (.int .i64 n) ∧ W.cell? ⟨w.heap.size, 1, none⟩ = some (.slice a zs.length cap) ∧ W.cell? ⟨w.heap.size, 2, none⟩ = some (.slice ao ko co) ∧ W.cell? ⟨w.heap.size, 3, none⟩ = some (.slice av kv cv) ∧ W.cell? ⟨w.heap.size, 4, none⟩ = some (.int .i64 fine) ∧ W.cell? ⟨w4.heap.size, 0, none⟩ = some (.int .i64 n) ∧ W.cell? ⟨w4.heap.size, 1, none⟩ = some (.slice (some ⟨g4, 0, none⟩) zs.length zs.length) ∧ W.cell? ⟨w4.heap.size, 2, none⟩ = some (.slice (some ⟨go4, 0, none⟩) ko ko) ∧ W.cell? ⟨w4.heap.size, 3, none⟩ = some (.slice (some ⟨gv4, 0, none⟩) kv kv) ∧ W.cell? ⟨w4.heap.size, 4, none⟩ = some (.int .i64 fine)) (first | go_keep | exact kS) ((first
    | (go_at_call 22
       refine (toCase_any n fine a ao av cap ko co kv cv zs os vs _ (by exact HA.out.below B6.out.drew) (by exact HO.out.below B6.out.drew) (by exact HV.out.below B6.out.drew) HLO.out HLV.out hs1 hs2 hs3).mono ?_
       rintro e w8 ⟨g8, go8, gv8, _, _, _, rfl, hb8, hg8⟩
       obtain ⟨k0, k1, k2, k3, k4⟩ := cells5 (below_row hb8 (row_lt R6.out) R6.out)
       obtain ⟨y0, y1, y2, y3, y4⟩ := cells5 (below_row hb8 (row_lt X6.out) X6.out)
       have kS := And.intro k0 (And.intro k1 (And.intro k2 (And.intro k3 (And.intro k4 (And.intro y0 (And.intro y1 (And.intro y2 (And.intro y3 y4))))))))
       have HB8 : Hid _ := hb8
       have HG8 : Hid (CaseAt w8 g8 go8 gv8 zs os vs) := hg8
       clear hb8 hg8 k0 k1 k2 k3 k4 y0 y1 y2 y3 y4)
    | (go_at_call 24
       refine (eqCase_same n fine _ _ _ _ _ _ _ _ _ _ _ _ _ _ zs os vs _ (by exact ((G6.out.below ((Below.refl _ _).drew)).below HB8.out).t) (by exact ((G6.out.below ((Below.refl _ _).drew)).below HB8.out).o) (by exact ((G6.out.below ((Below.refl _ _).drew)).below HB8.out).v) (by exact HG8.out.t) (by exact HG8.out.o) (by exact HG8.out.v) HLO.out HLV.out (by omega) (by omega) (by omega)).mono ?_
       rintro e w9 ⟨rfl, hb9⟩
       obtain ⟨k0, k1, k2, k3, k4⟩ := cells5 (below_row hb9 (row_lt (below_row HB8.out (row_lt R6.out) R6.out)) (below_row HB8.out (row_lt R6.out) R6.out))
       obtain ⟨y0, y1, y2, y3, y4⟩ := cells5 (below_row hb9 (row_lt (below_row HB8.out (row_lt X6.out) X6.out)) (below_row HB8.out (row_lt X6.out) X6.out))
       have kS := And.intro k0 (And.intro k1 (And.intro k2 (And.intro k3 (And.intro k4 (And.intro y0 (And.intro y1 (And.intro y2 (And.intro y3 y4))))))))
       have HB9 : Hid _ := hb9
       clear hb9 k0 k1 k2 k3 k4 y0 y1 y2 y3 y4)))
  all_goals
    have B8 : Below w.heap.size w w8 := B6.out.drew.trans (HB8.out.mono B6.out.size)
    have B9 : Below w.heap.size w w9 := B8.trans (HB9.out.mono B8.size)
    go_wp2
    go_ret
    exact ⟨rfl, B9⟩


end Go.Proofs.Ytdnfgeojagagnai
