import Derived.Test.YtdnfgeojagagnajPlainLoad
import Derived.Test.YtdnfgeojagagnajSpecCase
import Derived.Test.YtdnfgeojagagnajSpecOrd
namespace Go.Proofs.Ytdnfgeojagagnaj
open Go.RowKit

theorem keep_set {W : World} {b o k i : Nat} {v x : Value} (h : W.cell? ⟨b, o, none⟩ = some x) (hne : b ≠ k) : (W.setCell ⟨k, i, none⟩ v).cell? ⟨b, o, none⟩ = some x := by
  rw [World.cell?_of_block (w := W) (heap_setCell_other W ⟨k, i, none⟩ b v hne)]; exact h
theorem row_set' {W : World} {g k i : Nat} {o : Obj} {v : Value} (h : W.heap[g]? = some o) (hne : g ≠ k) : (W.setCell ⟨k, i, none⟩ v).heap[g]? = some o := by
  rw [heap_setCell_other _ _ _ _ (by simpa using hne)]; exact h

set_option maxHeartbeats 1000000 in
theorem specLoad_any (n fine : Int) (a ao av bi : Option Addr) (cap ko co kv cv c2 : Nat) (zs os vs ids : List Int) (w : World) (hA : IntsAt w a zs) (hO : IntsAt w ao os) (hV : IntsAt w av vs) (hI : IntsAt w bi ids) (hlo : os.length = ko * 6) (hlv : vs.length = kv * 5) (hko : ko ≤ 9223372036854775807) (hkv : kv ≤ 9223372036854775807) (hli : ids.length ≤ 9223372036854775807) :
    Calls Try.prog 6 #[.agg #[.int .i64 n, .slice a zs.length cap, .slice ao ko co, .slice av kv cv, .int .i64 fine], .slice bi ids.length c2] w fun e w' => e = .returned (.int .i64 (loadV (caseB n zs os vs ko kv fine) os ko ids)) ∧ Below w.heap.size w w' := by
  have HB0 : Hid (Below w.heap.size w (w.alloc (Obj.cells #[Value.int IntKind.i64 n, Value.slice a zs.length cap, Value.slice ao ko co, Value.slice av kv cv, Value.int IntKind.i64 fine] 35))) := (Below.refl _ _).alloc (Nat.le_refl _) _
  have HA : Hid (IntsAt w a zs) := hA
  have HO : Hid (IntsAt w ao os) := hO
  have HV : Hid (IntsAt w av vs) := hV
  have HI : Hid (IntsAt w bi ids) := hI
  have HLO : Hid _ := hlo
  have HLV : Hid _ := hlv
  clear hA hO hV hI hlo hlv
  obtain ⟨r, HR⟩ : ∃ r, Hid (loadV (caseB n zs os vs ko kv fine) os ko ids = r) := ⟨_, rfl⟩
  rw [HR.out]
  go_enter Try.func6, Try.ntmps6
  go_wp2_with fail
  refine (specCase_any n fine a ao av cap ko co kv cv zs os vs _ (HA.out.below HB0.out) (HO.out.below HB0.out) (HV.out.below HB0.out) HLO.out HLV.out hko hkv).mono ?_
  rintro e w1 ⟨rfl, hb⟩
  obtain ⟨b1, p1⟩ := box5 hb
  have B1 : Hid (Below w.heap.size w w1) := b1
  have P1 : Hid _ := p1
  clear hb b1 p1 HB0
  cases hc : caseB n zs os vs ko kv fine
  · have HV1 : Hid (r = -1) := HR.out.symm.trans (loadV_no (by rw [hc]; simp))
    go_wp2
    go_ret
    exact ⟨ret_int HV1.out.symm, B1.out⟩
  · by_cases h12 : ids.length ≤ 12
    · have HOB : Hid (ordsB n os ko = true) := caseB_ords hc
      have HC : Hid (caseB n zs os vs ko kv fine = true) := hc
      clear hc
      go_wp2_with fail
      go_loopw [5, 6] (fun sm t wr => ∃ k : Nat, k ≤ ids.length ∧ t = .int .i64 k ∧ sm = .int .i64 (loadTo os ko ids k) ∧ thereTo os ko ids k ∧ Below w.heap.size w wr ∧ wr.heap[w.heap.size]? = some (.cells #[Value.int IntKind.i64 n, Value.slice a zs.length cap, Value.slice ao ko co, Value.slice av kv cv, Value.int IntKind.i64 fine] 35 (0, 0))) (fun _ t _ => ids.length - (intOf t).toNat)
      case atStart => exact ⟨0, Nat.zero_le _, rfl, rfl, fun j hj => by omega, B1.out, P1.out⟩
      case round =>
        clear B1 P1
        obtain ⟨k, hk, rfl, rfl, hth, hb, hp⟩ := hrel
        have hbd := loadTo_bd HOB.out ids k
        have HT : Hid (thereTo os ko ids k) := hth
        have HB : Hid (Below w.heap.size w wr) := hb
        have HP : Hid _ := hp
        obtain ⟨c0, c1, c2', c3, c4⟩ := cells5 hp
        obtain ⟨s0, HS0⟩ : ∃ s, Hid (loadTo os ko ids k = s) := ⟨_, rfl⟩
        rw [HS0.out] at hbd ⊢
        clear hth hb hp
        by_cases hlt : k < ids.length
        · obtain ⟨b, off, rfl, hcs⟩ := IntsAt.some (IntsAt.below HI.out HB.out) hlt
          have ct := hcs k hlt
          clear hcs
          obtain ⟨id, HID⟩ : ∃ i, Hid (ids.getD k 0 = i) := ⟨_, rfl⟩
          rw [HID.out] at ct
          have hl2 := fnd6F_load HOB.out id
          have hlw := row_lt HP.out
          have hlb := block_lt_of_cell ct
          simp at hlb
          obtain ⟨o0, H0⟩ : ∃ t, Hid (fnd6F os ko id 0 = t) := ⟨_, rfl⟩
          obtain ⟨o1, H1⟩ : ∃ t, Hid (fnd6F os ko id 1 = t) := ⟨_, rfl⟩
          obtain ⟨o2, H2⟩ : ∃ t, Hid (fnd6F os ko id 2 = t) := ⟨_, rfl⟩
          obtain ⟨o3, H3⟩ : ∃ t, Hid (fnd6F os ko id 3 = t) := ⟨_, rfl⟩
          obtain ⟨o4, H4⟩ : ∃ t, Hid (fnd6F os ko id 4 = t) := ⟨_, rfl⟩
          obtain ⟨o5, H5⟩ : ∃ t, Hid (fnd6F os ko id 5 = t) := ⟨_, rfl⟩
          rw [H2.out] at hl2
          have HL1 : Hid (loadTo os ko ids (k + 1) = s0 + o2) := by
            show _ = _
            unfold loadTo
            rw [HS0.out, HID.out, H2.out]
          cases ht : fnd6T os ko id
          · have HV1 : Hid (r = -1) := HR.out.symm.trans (loadV_no (by
              rintro ⟨_, _, h3⟩
              have := h3 k hlt
              rw [HID.out, ht] at this
              cases this))
            have HTT : Hid _ := ht
            clear ht
            have HLB : Hid _ := hlb
            have HCT : Hid _ := ct
            have HPA : Hid ((wr.alloc (Obj.cells #[Value.int IntKind.i64 0, Value.int IntKind.i64 0, Value.int IntKind.i64 0, Value.int IntKind.i64 0, Value.int IntKind.i64 0, Value.int IntKind.i64 0] 50)).heap[w.heap.size]? = _) := (heap_alloc_old _ _ (row_lt HP.out)).trans HP.out
            have HPL : Hid _ := row_lt HPA.out
            have HCA : Hid ((wr.alloc (Obj.cells #[Value.int IntKind.i64 0, Value.int IntKind.i64 0, Value.int IntKind.i64 0, Value.int IntKind.i64 0, Value.int IntKind.i64 0, Value.int IntKind.i64 0] 50)).cell? ⟨b, off + k, none⟩ = _) := (((Below.refl wr.heap.size wr).alloc (Nat.le_refl _) _).cell (p := ⟨b, off + k, none⟩) hlb).trans ct
            have HCL : Hid _ := block_lt_of_cell HCA.out
            go_wp2_with fail
            go_region_held3 (fun W => W.cell? ⟨w.heap.size, 0, none⟩ = some (.int .i64 n) ∧ W.cell? ⟨w.heap.size, 1, none⟩ = some (.slice a zs.length cap) ∧ W.cell? ⟨w.heap.size, 2, none⟩ = some (.slice ao ko co) ∧ W.cell? ⟨w.heap.size, 3, none⟩ = some (.slice av kv cv) ∧ W.cell? ⟨w.heap.size, 4, none⟩ = some (.int .i64 fine) ∧ W.cell? ⟨b, off + k, none⟩ = some (.int .i64 id)) (first | with_reducible exact kS | with_reducible exact ⟨(keep_set (keep_set (keep_set (keep_set (keep_set (keep_set kS.1 (Nat.ne_of_lt hlw)) (Nat.ne_of_lt hlw)) (Nat.ne_of_lt hlw)) (Nat.ne_of_lt hlw)) (Nat.ne_of_lt hlw)) (Nat.ne_of_lt hlw)), (keep_set (keep_set (keep_set (keep_set (keep_set (keep_set kS.2.1 (Nat.ne_of_lt hlw)) (Nat.ne_of_lt hlw)) (Nat.ne_of_lt hlw)) (Nat.ne_of_lt hlw)) (Nat.ne_of_lt hlw)) (Nat.ne_of_lt hlw)), (keep_set (keep_set (keep_set (keep_set (keep_set (keep_set kS.2.2.1 (Nat.ne_of_lt hlw)) (Nat.ne_of_lt hlw)) (Nat.ne_of_lt hlw)) (Nat.ne_of_lt hlw)) (Nat.ne_of_lt hlw)) (Nat.ne_of_lt hlw)), (keep_set (keep_set (keep_set (keep_set (keep_set (keep_set kS.2.2.2.1 (Nat.ne_of_lt hlw)) (Nat.ne_of_lt hlw)) (Nat.ne_of_lt hlw)) (Nat.ne_of_lt hlw)) (Nat.ne_of_lt hlw)) (Nat.ne_of_lt hlw)), (keep_set (keep_set (keep_set (keep_set (keep_set (keep_set kS.2.2.2.2.1 (Nat.ne_of_lt hlw)) (Nat.ne_of_lt hlw)) (Nat.ne_of_lt hlw)) (Nat.ne_of_lt hlw)) (Nat.ne_of_lt hlw)) (Nat.ne_of_lt hlw)), (keep_set (keep_set (keep_set (keep_set (keep_set (keep_set kS.2.2.2.2.2 (Nat.ne_of_lt hlb)) (Nat.ne_of_lt hlb)) (Nat.ne_of_lt hlb)) (Nat.ne_of_lt hlb)) (Nat.ne_of_lt hlb)) (Nat.ne_of_lt hlb))⟩ | go_keep) ((first
              | (go_at_call 20
                 with_reducible refine (l2At_any n fine id a ao av _ cap ko co kv cv os wr.drew ?_ HLO.out hko).mono ?_
                 · exact HO.out.below HB.out.drew
                 rintro e w2 ⟨rfl, hb2⟩
                 rw [H0.out, H1.out, H2.out, H3.out, H4.out, H5.out, HTT.out]
                 have HP2 := below_row hb2 (row_lt HP.out) HP.out
                 obtain ⟨k0, k1, k2, k3, k4⟩ := cells5 HP2
                 have k5 := (hb2.cell (p := ⟨b, off + k, none⟩) HLB.out).trans HCT.out
                 have kS := And.intro k0 (And.intro k1 (And.intro k2 (And.intro k3 (And.intro k4 k5))))
                 have R2 : Hid _ := HP2
                 have B2 : Hid (Below w.heap.size w w2) := HB.out.drew.trans (hb2.mono HB.out.drew.size)
                 clear hb2 HP2 k0 k1 k2 k3 k4 k5)
              | (go_at_call 20
                 with_reducible refine (l2At_any n fine id a ao av _ cap ko co kv cv os (wr.alloc (Obj.cells #[Value.int IntKind.i64 0, Value.int IntKind.i64 0, Value.int IntKind.i64 0, Value.int IntKind.i64 0, Value.int IntKind.i64 0, Value.int IntKind.i64 0] 50)).drew ?_ HLO.out hko).mono ?_
                 · exact HO.out.below (HB.out.alloc HB.out.size (Obj.cells #[Value.int IntKind.i64 0, Value.int IntKind.i64 0, Value.int IntKind.i64 0, Value.int IntKind.i64 0, Value.int IntKind.i64 0, Value.int IntKind.i64 0] 50)).drew
                 rintro e w2 ⟨rfl, hb2⟩
                 rw [H0.out, H1.out, H2.out, H3.out, H4.out, H5.out, HTT.out]
                 have HP2 := below_row hb2 HPL.out HPA.out
                 obtain ⟨k0, k1, k2, k3, k4⟩ := cells5 HP2
                 have k5 := (hb2.cell (p := ⟨b, off + k, none⟩) HCL.out).trans HCA.out
                 have kS := And.intro k0 (And.intro k1 (And.intro k2 (And.intro k3 (And.intro k4 k5))))
                 obtain ⟨z0, z1, z2, z3, z4, z5⟩ := cells6 (below_row hb2 (k := wr.heap.size) (by simp) (heap_alloc_new wr (Obj.cells #[Value.int IntKind.i64 0, Value.int IntKind.i64 0, Value.int IntKind.i64 0, Value.int IntKind.i64 0, Value.int IntKind.i64 0, Value.int IntKind.i64 0] 50)))
                 have zf := fun i => frozen_of_row _ _ i _ _ (below_row hb2 (k := wr.heap.size) (by simp) (heap_alloc_new wr (Obj.cells #[Value.int IntKind.i64 0, Value.int IntKind.i64 0, Value.int IntKind.i64 0, Value.int IntKind.i64 0, Value.int IntKind.i64 0, Value.int IntKind.i64 0] 50)))
                 have R2 : Hid _ := HP2
                 have B2 : Hid (Below w.heap.size w w2) := (HB.out.alloc HB.out.size (Obj.cells #[Value.int IntKind.i64 0, Value.int IntKind.i64 0, Value.int IntKind.i64 0, Value.int IntKind.i64 0, Value.int IntKind.i64 0, Value.int IntKind.i64 0] 50)).drew.trans (hb2.mono (HB.out.alloc HB.out.size (Obj.cells #[Value.int IntKind.i64 0, Value.int IntKind.i64 0, Value.int IntKind.i64 0, Value.int IntKind.i64 0, Value.int IntKind.i64 0, Value.int IntKind.i64 0] 50)).drew.size)
                 clear hb2 HP2 k0 k1 k2 k3 k4 k5)))
            all_goals
              go_wp2
              go_ret
              exact ⟨ret_int HV1.out.symm, (by first | (with_reducible refine Below.alloc ?_ B2.out.size _; exact B2.out) | (repeat (first | with_reducible exact B2.out | with_reducible refine Below.setCell ?_ HB.out.size _)))⟩
          · have HT1 : Hid (thereTo os ko ids (k + 1)) := by
              intro j hj
              by_cases e : j = k
              · rw [e, HID.out]; exact ht
              · exact HT.out j (by omega)
            have HTT : Hid _ := ht
            clear ht
            have HLB : Hid _ := hlb
            have HCT : Hid _ := ct
            have HPA : Hid ((wr.alloc (Obj.cells #[Value.int IntKind.i64 0, Value.int IntKind.i64 0, Value.int IntKind.i64 0, Value.int IntKind.i64 0, Value.int IntKind.i64 0, Value.int IntKind.i64 0] 50)).heap[w.heap.size]? = _) := (heap_alloc_old _ _ (row_lt HP.out)).trans HP.out
            have HPL : Hid _ := row_lt HPA.out
            have HCA : Hid ((wr.alloc (Obj.cells #[Value.int IntKind.i64 0, Value.int IntKind.i64 0, Value.int IntKind.i64 0, Value.int IntKind.i64 0, Value.int IntKind.i64 0, Value.int IntKind.i64 0] 50)).cell? ⟨b, off + k, none⟩ = _) := (((Below.refl wr.heap.size wr).alloc (Nat.le_refl _) _).cell (p := ⟨b, off + k, none⟩) hlb).trans ct
            have HCL : Hid _ := block_lt_of_cell HCA.out
            go_wp2_with fail
            go_region_held3 (fun W => W.cell? ⟨w.heap.size, 0, none⟩ = some (.int .i64 n) ∧ W.cell? ⟨w.heap.size, 1, none⟩ = some (.slice a zs.length cap) ∧ W.cell? ⟨w.heap.size, 2, none⟩ = some (.slice ao ko co) ∧ W.cell? ⟨w.heap.size, 3, none⟩ = some (.slice av kv cv) ∧ W.cell? ⟨w.heap.size, 4, none⟩ = some (.int .i64 fine) ∧ W.cell? ⟨b, off + k, none⟩ = some (.int .i64 id)) (first | with_reducible exact kS | with_reducible exact ⟨(keep_set (keep_set (keep_set (keep_set (keep_set (keep_set kS.1 (Nat.ne_of_lt hlw)) (Nat.ne_of_lt hlw)) (Nat.ne_of_lt hlw)) (Nat.ne_of_lt hlw)) (Nat.ne_of_lt hlw)) (Nat.ne_of_lt hlw)), (keep_set (keep_set (keep_set (keep_set (keep_set (keep_set kS.2.1 (Nat.ne_of_lt hlw)) (Nat.ne_of_lt hlw)) (Nat.ne_of_lt hlw)) (Nat.ne_of_lt hlw)) (Nat.ne_of_lt hlw)) (Nat.ne_of_lt hlw)), (keep_set (keep_set (keep_set (keep_set (keep_set (keep_set kS.2.2.1 (Nat.ne_of_lt hlw)) (Nat.ne_of_lt hlw)) (Nat.ne_of_lt hlw)) (Nat.ne_of_lt hlw)) (Nat.ne_of_lt hlw)) (Nat.ne_of_lt hlw)), (keep_set (keep_set (keep_set (keep_set (keep_set (keep_set kS.2.2.2.1 (Nat.ne_of_lt hlw)) (Nat.ne_of_lt hlw)) (Nat.ne_of_lt hlw)) (Nat.ne_of_lt hlw)) (Nat.ne_of_lt hlw)) (Nat.ne_of_lt hlw)), (keep_set (keep_set (keep_set (keep_set (keep_set (keep_set kS.2.2.2.2.1 (Nat.ne_of_lt hlw)) (Nat.ne_of_lt hlw)) (Nat.ne_of_lt hlw)) (Nat.ne_of_lt hlw)) (Nat.ne_of_lt hlw)) (Nat.ne_of_lt hlw)), (keep_set (keep_set (keep_set (keep_set (keep_set (keep_set kS.2.2.2.2.2 (Nat.ne_of_lt hlb)) (Nat.ne_of_lt hlb)) (Nat.ne_of_lt hlb)) (Nat.ne_of_lt hlb)) (Nat.ne_of_lt hlb)) (Nat.ne_of_lt hlb))⟩ | go_keep) ((first
              | (go_at_call 20
                 with_reducible refine (l2At_any n fine id a ao av _ cap ko co kv cv os wr.drew ?_ HLO.out hko).mono ?_
                 · exact HO.out.below HB.out.drew
                 rintro e w2 ⟨rfl, hb2⟩
                 rw [H0.out, H1.out, H2.out, H3.out, H4.out, H5.out, HTT.out]
                 have HP2 := below_row hb2 (row_lt HP.out) HP.out
                 obtain ⟨k0, k1, k2, k3, k4⟩ := cells5 HP2
                 have k5 := (hb2.cell (p := ⟨b, off + k, none⟩) HLB.out).trans HCT.out
                 have kS := And.intro k0 (And.intro k1 (And.intro k2 (And.intro k3 (And.intro k4 k5))))
                 have R2 : Hid _ := HP2
                 have B2 : Hid (Below w.heap.size w w2) := HB.out.drew.trans (hb2.mono HB.out.drew.size)
                 clear hb2 HP2 k0 k1 k2 k3 k4 k5)
              | (go_at_call 20
                 with_reducible refine (l2At_any n fine id a ao av _ cap ko co kv cv os (wr.alloc (Obj.cells #[Value.int IntKind.i64 0, Value.int IntKind.i64 0, Value.int IntKind.i64 0, Value.int IntKind.i64 0, Value.int IntKind.i64 0, Value.int IntKind.i64 0] 50)).drew ?_ HLO.out hko).mono ?_
                 · exact HO.out.below (HB.out.alloc HB.out.size (Obj.cells #[Value.int IntKind.i64 0, Value.int IntKind.i64 0, Value.int IntKind.i64 0, Value.int IntKind.i64 0, Value.int IntKind.i64 0, Value.int IntKind.i64 0] 50)).drew
                 rintro e w2 ⟨rfl, hb2⟩
                 rw [H0.out, H1.out, H2.out, H3.out, H4.out, H5.out, HTT.out]
                 have HP2 := below_row hb2 HPL.out HPA.out
                 obtain ⟨k0, k1, k2, k3, k4⟩ := cells5 HP2
                 have k5 := (hb2.cell (p := ⟨b, off + k, none⟩) HCL.out).trans HCA.out
                 have kS := And.intro k0 (And.intro k1 (And.intro k2 (And.intro k3 (And.intro k4 k5))))
                 obtain ⟨z0, z1, z2, z3, z4, z5⟩ := cells6 (below_row hb2 (k := wr.heap.size) (by simp) (heap_alloc_new wr (Obj.cells #[Value.int IntKind.i64 0, Value.int IntKind.i64 0, Value.int IntKind.i64 0, Value.int IntKind.i64 0, Value.int IntKind.i64 0, Value.int IntKind.i64 0] 50)))
                 have zf := fun i => frozen_of_row _ _ i _ _ (below_row hb2 (k := wr.heap.size) (by simp) (heap_alloc_new wr (Obj.cells #[Value.int IntKind.i64 0, Value.int IntKind.i64 0, Value.int IntKind.i64 0, Value.int IntKind.i64 0, Value.int IntKind.i64 0, Value.int IntKind.i64 0] 50)))
                 have R2 : Hid _ := HP2
                 have B2 : Hid (Below w.heap.size w w2) := (HB.out.alloc HB.out.size (Obj.cells #[Value.int IntKind.i64 0, Value.int IntKind.i64 0, Value.int IntKind.i64 0, Value.int IntKind.i64 0, Value.int IntKind.i64 0, Value.int IntKind.i64 0] 50)).drew.trans (hb2.mono (HB.out.alloc HB.out.size (Obj.cells #[Value.int IntKind.i64 0, Value.int IntKind.i64 0, Value.int IntKind.i64 0, Value.int IntKind.i64 0, Value.int IntKind.i64 0, Value.int IntKind.i64 0] 50)).drew.size)
                 clear hb2 HP2 k0 k1 k2 k3 k4 k5)))
            all_goals
              go_wp2
              refine ⟨⟨k + 1, by omega, by go_num, by rw [HL1.out], HT1.out, (by first | (with_reducible refine Below.alloc ?_ B2.out.size _; exact B2.out) | (repeat (first | with_reducible exact B2.out | with_reducible refine Below.setCell ?_ HB.out.size _))), (by first | (with_reducible refine row_set' ?_ (Nat.ne_of_lt hlw); repeat (first | with_reducible exact R2.out | with_reducible refine row_set' ?_ (Nat.ne_of_lt hlw))) | (exact (heap_alloc_old _ _ (row_lt R2.out)).trans R2.out))⟩, by simp [intOf]; omega⟩
        · have hkl : k = ids.length := by omega
          have HV1 : Hid (r = s0) := by
            have := loadV_yes HC.out h12 (hkl ▸ HT.out)
            rw [HR.out, ← hkl, HS0.out] at this
            exact this
          clear hkl
          go_wp2
          go_ret
          exact ⟨ret_int HV1.out.symm, HB.out⟩
    · have HV1 : Hid (r = -1) := HR.out.symm.trans (loadV_no (fun h => h12 h.2.1))
      go_wp2
      go_ret
      exact ⟨ret_int HV1.out.symm, B1.out⟩

end Go.Proofs.Ytdnfgeojagagnaj
