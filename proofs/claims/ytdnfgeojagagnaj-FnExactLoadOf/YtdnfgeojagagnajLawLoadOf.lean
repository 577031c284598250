import Derived.Test.YtdnfgeojagagnajCases
import Derived.Test.YtdnfgeojagagnajSpecLoad
import Derived.Test.YtdnfgeojagagnajImplLoad
namespace Go.Proofs.Ytdnfgeojagagnaj
open Go.RowKit

set_option maxHeartbeats 1000000 in
theorem lawLoadOf_big (n fine : Int) (a ao av bi : Option Addr) (lt cap ko co kv cv li c2 : Nat) (w : World) (hlt : lt ≤ 9223372036854775807) (hko : ko ≤ 9223372036854775807) (hkv : kv ≤ 9223372036854775807) (hli : li ≤ 9223372036854775807) (h : ¬ (lt + ko + kv ≤ 1048576 ∧ li ≤ 1048576)) :
    Calls Try.prog 3 #[.agg #[.int .i64 n, .slice a lt cap, .slice ao ko co, .slice av kv cv, .int .i64 fine], .slice bi li c2] w fun e w' => e = .returned (.bool true) ∧ Below w.heap.size w w' := by
  by_cases hb : 1048576 < li
  · clear h
    go_enter Try.func3, Try.ntmps3
    go_wp2
    go_ret
    exact ⟨rfl, (Below.refl _ _).alloc (Nat.le_refl _) _⟩
  · have HS : Hid (szV 1048576 lt ko kv = -1) := szV_neg (by omega)
    clear h
    go_enter Try.func3, Try.ntmps3
    go_wp2_with fail
    refine (szCase_any n fine 1048576 a ao av lt cap ko co kv cv _ (by omega) (by omega) hlt hko hkv).mono ?_
    rintro e w1 ⟨rfl, hb⟩
    rw [HS.out]
    obtain ⟨b1, r1⟩ := box5 hb
    clear hb r1
    go_wp2
    go_ret
    exact ⟨rfl, b1⟩

set_option maxHeartbeats 2000000 in
theorem lawLoadOf (n fine : Int) (bi : Option Addr) (c2 : Nat) (ids : List Int) (a ao av : Option Addr) (cap ko co kv cv : Nat) (zs os vs : List Int) (w : World) (hA : IntsAt w a zs) (hO : IntsAt w ao os) (hV : IntsAt w av vs) (hlo : os.length = ko * 6) (hlv : vs.length = kv * 5) (hI : IntsAt w bi ids) (hsm : zs.length + ko + kv ≤ 1048576) (hli : ids.length ≤ 1048576) :
    Calls Try.prog 3 #[.agg #[.int .i64 n, .slice a zs.length cap, .slice ao ko co, .slice av kv cv, .int .i64 fine], .slice bi ids.length c2] w fun e w' => e = .returned (.bool true) ∧ Below w.heap.size w w' := by
  have HI : Hid (IntsAt w bi ids) := hI
  clear hI
  have HA : Hid (IntsAt w a zs) := hA
  have HO : Hid (IntsAt w ao os) := hO
  have HV : Hid (IntsAt w av vs) := hV
  have HLO : Hid _ := hlo
  have HLV : Hid _ := hlv
  have HS : Hid (szV 1048576 zs.length ko kv = 1048576 - zs.length - ko - kv) := szV_pos hsm
  have hs1 : zs.length ≤ 1048576 := by omega
  have hs2 : ko ≤ 1048576 := by omega
  have hs3 : kv ≤ 1048576 := by omega
  clear hA hO hV hlo hlv
  go_enter Try.func3, Try.ntmps3
  go_wp2_with fail
  refine (szCase_any n fine 1048576 a ao av zs.length cap ko co kv cv _ (by omega) (by omega) (by omega) (by omega) (by omega)).mono ?_
  rintro e w1 ⟨rfl, hb⟩
  rw [HS.out]
  obtain ⟨b1, r1⟩ := box5 hb
  obtain ⟨c0, c1, c2, c3, c4⟩ := cells5 r1
  have B1 : Hid (Below w.heap.size w w1) := b1
  have R1 : Hid _ := r1
  clear hb b1 r1
  have hle : (0 : Int) ≤ 1048576 - zs.length - ko - kv := by omega
  go_wp2_with fail
  refine (toCase_any n fine a ao av cap ko co kv cv zs os vs _ (HA.out.below B1.out) (HO.out.below B1.out) (HV.out.below B1.out) HLO.out HLV.out hs1 hs2 hs3).mono ?_
  rintro e w2 ⟨g2, go2, gv2, _, _, _, rfl, hb, hg⟩
  obtain ⟨b2, r2⟩ := box_more hb B1.out R1.out
  have B2 : Hid (Below w.heap.size w w2) := b2
  have R2 : Hid _ := r2
  have G2 : Hid (CaseAt w2 g2 go2 gv2 zs os vs) := hg
  clear hb hg b2 r2 B1 R1 c0 c1 c2 c3 c4
  go_wp2_with fail
  refine (toInts_any bi _ ids _ (HI.out.below B2.out) hli).mono ?_
  rintro e w3 ⟨rfl, hb, _, hg⟩
  obtain ⟨b3, r3⟩ := box_more hb B2.out R2.out
  have B3 : Hid (Below w.heap.size w w3) := b3
  have R3 : Hid _ := r3
  have G3 : Hid (CaseAt w3 g2 go2 gv2 zs os vs) := G2.out.below hb
  have I3 : Hid (IntsAt w3 (some ⟨w2.heap.size, 0, none⟩) ids) := IntsAt.of_row hg
  clear hb hg b3 r3 B2 R2 G2
  go_wp2_with fail
  refine (specLoad_any n fine _ _ _ _ _ _ _ _ _ _ zs os vs ids _ G3.out.t G3.out.o G3.out.v I3.out HLO.out HLV.out (by omega) (by omega) (by omega)).mono ?_
  rintro e w4 ⟨rfl, hb⟩
  obtain ⟨b4, r4⟩ := box_more hb B3.out R3.out
  have B4 : Hid (Below w.heap.size w w4) := b4
  have R4 : Hid _ := r4
  obtain ⟨c0, c1, c2, c3, c4⟩ := cells5 r4
  clear hb b4 r4 B3 R3 G3 I3
  obtain ⟨mb, HM⟩ : ∃ mb, Hid (loadV (caseB n zs os vs ko kv fine) os ko ids = mb) := ⟨_, rfl⟩
  rw [HM.out]
  go_wp2_with fail
  refine (toCase_any n fine a ao av cap ko co kv cv zs os vs _ (HA.out.below B4.out) (HO.out.below B4.out) (HV.out.below B4.out) HLO.out HLV.out hs1 hs2 hs3).mono ?_
  rintro e w5 ⟨g5, go5, gv5, _, _, _, rfl, hb, hg⟩
  obtain ⟨b5, r5⟩ := box_more hb B4.out R4.out
  have B5 : Hid (Below w.heap.size w w5) := b5
  have R5 : Hid _ := r5
  have G5 : Hid (CaseAt w5 g5 go5 gv5 zs os vs) := hg
  clear hb hg b5 r5 B4 R4 c0 c1 c2 c3 c4
  go_wp2_with fail
  have X5a : Hid (Below w5.heap.size w5 (w5.alloc (Obj.cells #[Value.int IntKind.i64 n, Value.slice (some ⟨g5, 0, none⟩) zs.length zs.length, Value.slice (some ⟨go5, 0, none⟩) ko ko, Value.slice (some ⟨gv5, 0, none⟩) kv kv, Value.int IntKind.i64 fine] 35))) := (Below.refl _ _).alloc (Nat.le_refl _) _
  refine (toInts_any bi _ ids _ (HI.out.below (B5.out.trans (X5a.out.mono B5.out.size))) hli).mono ?_
  rintro e w6 ⟨rfl, hb, _, hg⟩
  obtain ⟨b6, x6⟩ := box5 hb
  obtain ⟨b6', r6⟩ := box_more b6 B5.out R5.out
  have B6 : Hid (Below w.heap.size w w6) := b6'
  have R6 : Hid _ := r6
  have X6 : Hid _ := x6
  have G6 : Hid (CaseAt w6 g5 go5 gv5 zs os vs) := G5.out.below b6
  have I6 : Hid (IntsAt w6 (some ⟨w5.heap.size + 1, 0, none⟩) ids) := IntsAt.of_row (by simpa using hg)
  clear hb hg b6 b6' r6 x6 B5 R5 G5 X5a
  obtain ⟨x0, x1, x2, x3, x4⟩ := cells5 X6.out
  go_wp2_with fail
  refine (implLoad_any n fine _ _ _ _ _ _ _ _ _ _ zs os vs ids _ G6.out.t G6.out.o G6.out.v (by simpa using I6.out) HLO.out HLV.out (by omega) (by omega) (by omega)).mono ?_
  rintro e w7 ⟨rfl, hb⟩
  rw [HM.out]
  obtain ⟨b7, r7⟩ := box_more hb B6.out R6.out
  have B7 : Hid (Below w.heap.size w w7) := b7
  have R7 : Hid _ := r7
  have X7 : Hid _ := below_row hb (row_lt X6.out) X6.out
  have G7 : Hid (CaseAt w7 g5 go5 gv5 zs os vs) := G6.out.below hb
  have I7 : Hid (IntsAt w7 (some ⟨w5.heap.size + 1, 0, none⟩) ids) := I6.out.below hb
  clear hb b7 r7 B6 R6 X6 G6 I6 x0 x1 x2 x3 x4
  have hmm : (mb != mb) = false := by simp
  obtain ⟨c0, c1, c2, c3, c4⟩ := cells5 R7.out
  obtain ⟨x0, x1, x2, x3, x4⟩ := cells5 X7.out
  go_wp2_with fail
  go_region_held3 (fun W => W.cell? ⟨w.heap.size, 0, none⟩ = some (.int .i64 n) ∧ W.cell? ⟨w.heap.size, 1, none⟩ = some (.slice a zs.length cap) ∧ W.cell? ⟨w.heap.size, 2, none⟩ = some (.slice ao ko co) ∧ W.cell? ⟨w.heap.size, 3, none⟩ = some (.slice av kv cv) ∧ W.cell? ⟨w.heap.size, 4, none⟩ = some (.int .i64 fine) ∧ W.cell? ⟨w5.heap.size, 0, none⟩ = some (.int .i64 n) ∧ W.cell? ⟨w5.heap.size, 1, none⟩ = some (.slice (some ⟨g5, 0, none⟩) zs.length zs.length) ∧ W.cell? ⟨w5.heap.size, 2, none⟩ = some (.slice (some ⟨go5, 0, none⟩) ko ko) ∧ W.cell? ⟨w5.heap.size, 3, none⟩ = some (.slice (some ⟨gv5, 0, none⟩) kv kv) ∧ W.cell? ⟨w5.heap.size, 4, none⟩ = some (.int .i64 fine)) (first | go_keep | exact kS) ((first
    | (go_at_call 7
       refine (toCase_any n fine a ao av cap ko co kv cv zs os vs _ (by exact HA.out.below B7.out.drew) (by exact HO.out.below B7.out.drew) (by exact HV.out.below B7.out.drew) HLO.out HLV.out hs1 hs2 hs3).mono ?_
       rintro e w8 ⟨g8, go8, gv8, _, _, _, rfl, hb8, hg8⟩
       obtain ⟨k0, k1, k2, k3, k4⟩ := cells5 (below_row hb8 (row_lt R7.out) R7.out)
       obtain ⟨y0, y1, y2, y3, y4⟩ := cells5 (below_row hb8 (row_lt X7.out) X7.out)
       have kS := And.intro k0 (And.intro k1 (And.intro k2 (And.intro k3 (And.intro k4 (And.intro y0 (And.intro y1 (And.intro y2 (And.intro y3 y4))))))))
       have HB8 : Hid _ := hb8
       have HG8 : Hid (CaseAt w8 g8 go8 gv8 zs os vs) := hg8
       clear hb8 hg8 k0 k1 k2 k3 k4 y0 y1 y2 y3 y4)
    | (go_at_call 10
       refine (eqCase_same n fine _ _ _ _ _ _ _ _ _ _ _ _ _ _ zs os vs _ (by exact ((G7.out.below ((Below.refl _ _).drew)).below HB8.out).t) (by exact ((G7.out.below ((Below.refl _ _).drew)).below HB8.out).o) (by exact ((G7.out.below ((Below.refl _ _).drew)).below HB8.out).v) (by exact HG8.out.t) (by exact HG8.out.o) (by exact HG8.out.v) HLO.out HLV.out (by omega) (by omega) (by omega)).mono ?_
       rintro e w9 ⟨rfl, hb9⟩
       obtain ⟨k0, k1, k2, k3, k4⟩ := cells5 (below_row hb9 (row_lt (below_row HB8.out (row_lt R7.out) R7.out)) (below_row HB8.out (row_lt R7.out) R7.out))
       obtain ⟨y0, y1, y2, y3, y4⟩ := cells5 (below_row hb9 (row_lt (below_row HB8.out (row_lt X7.out) X7.out)) (below_row HB8.out (row_lt X7.out) X7.out))
       have kS := And.intro k0 (And.intro k1 (And.intro k2 (And.intro k3 (And.intro k4 (And.intro y0 (And.intro y1 (And.intro y2 (And.intro y3 y4))))))))
       have HB9 : Hid _ := hb9
       clear hb9 k0 k1 k2 k3 k4 y0 y1 y2 y3 y4)))
  all_goals
    have B8 : Below w.heap.size w w8 := B7.out.drew.trans (HB8.out.mono B7.out.size)
    have B9 : Hid (Below w.heap.size w w9) := B8.trans (HB9.out.mono B8.size)
    have I9 : Hid (IntsAt w9 (some ⟨w5.heap.size + 1, 0, none⟩) ids) := ((I7.out.below ((Below.refl _ _).drew)).below HB8.out).below HB9.out
    clear B8
    go_wp2_with fail
    refine (toInts_any bi _ ids _ (HI.out.below B9.out) hli).mono ?_
    rintro e w10 ⟨rfl, hb, _, hg⟩
    have B10 : Hid (Below w.heap.size w w10) := B9.out.trans (hb.mono B9.out.size)
    have I10 : Hid (IntsAt w10 (some ⟨w5.heap.size + 1, 0, none⟩) ids) := I9.out.below hb
    have HG : Hid _ := hg
    clear hb hg
    go_wp2_with fail
    refine (eqInts_any _ _ _ _ ids ids _ (by simpa using I10.out) (IntsAt.of_row HG.out) (by omega)).mono ?_
    rintro e w11 ⟨rfl, hb⟩
    have hd : decide (ids = ids) = true := by simp
    rw [hd]
    clear hd
    go_wp2
    go_ret
    exact ⟨rfl, B10.out.trans (hb.mono B10.out.size)⟩

end Go.Proofs.Ytdnfgeojagagnaj
