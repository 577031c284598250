import Derived.Test.YtplefpmchhcfcaaPack1
import Derived.Test.YtplefpmchhcfcaaKinTail
import Derived.Test.YtplefpmchhcfcaaSpecL3
import Derived.Test.YtplefpmchhcfcaaPack21
namespace Go.Proofs.Ytplefpmchhcfcaa
open Go.RowKit

set_option maxHeartbeats 4000000 in
theorem specRemoved_any (n fine veh : Int) (a ao av bi : Option Addr) (cap ko co kv cv c2 : Nat) (zs os vs ids : List Int) (w : World) (hA : IntsAt w a zs) (hO : IntsAt w ao os) (hV : IntsAt w av vs) (hI : IntsAt w bi ids) (hlo : os.length = ko * 6) (hlv : vs.length = kv * 5) (hko : ko ≤ 9223372036854775807) (hkv : kv ≤ 9223372036854775807) (hli : ids.length ≤ 9223372036854775807) (hc2 : ids.length ≤ c2) (x : Int) (ch : Bool) (hch : chB (caseB n zs os vs ko kv fine) n zs os vs ko kv veh ids (inB x 0 ((ids.length : Int) - 1)) (remL ids x.toNat) = ch) (D : Int) (hD : chD ch n zs os vs ko kv veh ids (remL ids x.toNat) = D) (xs : List Int) (hxs : chL ch (remL ids x.toNat) = xs) :
    Calls Try.prog 15 #[.agg #[.int .i64 n, .slice a zs.length cap, .slice ao ko co, .slice av kv cv, .int .i64 fine], .agg #[.int .i64 veh, .slice bi ids.length c2], .int .i64 x] w (ChgOk w ch veh D xs) := by
  have HA : Hid (IntsAt w a zs) := hA
  have HO : Hid (IntsAt w ao os) := hO
  have HV : Hid (IntsAt w av vs) := hV
  have HI : Hid (IntsAt w bi ids) := hI
  have HLO : Hid _ := hlo
  have HLV : Hid _ := hlv
  clear hA hO hV hI hlo hlv
  have HCh : Hid (chB (caseB n zs os vs ko kv fine) n zs os vs ko kv veh ids (inB x 0 ((ids.length : Int) - 1)) (remL ids x.toNat) = ch) := hch
  have HD : Hid (chD ch n zs os vs ko kv veh ids (remL ids x.toNat) = D) := hD
  have HXs : Hid (chL ch (remL ids x.toNat) = xs) := hxs
  clear hch hD hxs
  have C0 : Hid (CRR w (((w.alloc (.cells #[Value.int IntKind.i64 n, Value.slice a zs.length cap, Value.slice ao ko co, Value.slice av kv cv, Value.int IntKind.i64 fine] 30)).alloc (.cells #[Value.int IntKind.i64 veh, Value.slice bi ids.length c2] 32)).alloc (.cells #[Value.int IntKind.i64 0, Value.slice none 0 0] 32)) _ _ _) := CRR.new w _ _ _
  obtain ⟨o1, HO1⟩ : ∃ t, Hid (decide (codeV (caseB n zs os vs ko kv fine) n zs os vs ko kv veh ids = 0) = t) := ⟨_, rfl⟩
  obtain ⟨v1, HV1⟩ : ∃ t, Hid (inB x 0 ((ids.length : Int) - 1) = t) := ⟨_, rfl⟩
  go_enter Try.func15, Try.ntmps15
  obtain ⟨c0, c1, c2', c3, c4⟩ := cells5 C0.out.1.2.1
  obtain ⟨d0, d1⟩ := cells2 C0.out.1.2.2
  go_wp2_with fail
  clear c0 c1 c2' c3 c4 d0 d1
  refine (l3Ok_any n fine veh a ao av bi cap ko co kv cv c2 zs os vs ids _ (HA.out.below C0.out.b) (HO.out.below C0.out.b) (HV.out.below C0.out.b) (HI.out.below C0.out.b) HLO.out HLV.out hko hkv hli hc2 o1 HO1.out).mono ?_
  rintro e w1 ⟨rfl, hb⟩
  have C1 : Hid (CRR w w1 _ _ _) := C0.out.below hb
  clear hb C0
  cases o1
  · have HCH : Hid (ch = false) := HCh.out.symm.trans (chB_no1 (of_decide_eq_false HO1.out) _ _)
    have HX : Hid (xs = []) := HXs.out.symm.trans (by rw [HCH.out]; rfl)
    have HDD : Hid (D = 0) := HD.out.symm.trans (by rw [HCH.out]; rfl)
    obtain ⟨t0, t1⟩ := cells2 C1.out.2
    have tf := fun i => frozen_of_row _ _ i _ _ C1.out.2
    go_wp2
    refine bodyPost_ret (v := .tuple #[.agg #[Value.int IntKind.i64 0, Value.slice none 0 0], .int .i64 0, .bool false]) (by simp [results, Try.results15, go_sem, t0, t1]) rfl ⟨?_, none, 0, ?_, ?_⟩
    · repeat (first | with_reducible exact C1.out.b | refine Below.setCell ?_ (by simp <;> omega) _)
    · rw [HCH.out, HDD.out, HX.out]; rfl
    · rw [HX.out]; exact World.ownsRow_nil _ _ _ _
  · have hz1 : codeV (caseB n zs os vs ko kv fine) n zs os vs ko kv veh ids = 0 := of_decide_eq_true HO1.out
    have HZ1 : Hid (codeV (caseB n zs os vs ko kv fine) n zs os vs ko kv veh ids = 0) := hz1
    have h12 := code12 hz1
    clear hz1
    obtain ⟨d0, d1⟩ := cells2 C1.out.1.2.2
    cases v1
    · have HCH : Hid (ch = false) := HCh.out.symm.trans (chB_no2 HV1.out _)
      have HX : Hid (xs = []) := HXs.out.symm.trans (by rw [HCH.out]; rfl)
      have HDD : Hid (D = 0) := HD.out.symm.trans (by rw [HCH.out]; rfl)
      obtain ⟨t0, t1⟩ := cells2 C1.out.2
      have tf := fun i => frozen_of_row _ _ i _ _ C1.out.2
      go_wp2_with (first | (go_at_call 35; refine (l1In_any x 0 ((ids.length : Int) - 1) w1).mono ?_; rintro e w1' ⟨rfl, rfl⟩; rw [HV1.out]))
      refine bodyPost_ret (v := .tuple #[.agg #[Value.int IntKind.i64 0, Value.slice none 0 0], .int .i64 0, .bool false]) (by simp [results, Try.results15, go_sem, t0, t1]) rfl ⟨?_, none, 0, ?_, ?_⟩
      · repeat (first | with_reducible exact C1.out.b | refine Below.setCell ?_ (by simp <;> omega) _)
      · rw [HCH.out, HDD.out, HX.out]; rfl
      · rw [HX.out]; exact World.ownsRow_nil _ _ _ _
    · have h1 := inB_true HV1.out
      obtain ⟨i, rfl⟩ : ∃ i : Nat, x = i := ⟨x.toNat, by omega⟩
      have hi : i < ids.length := by omega
      rw [show ((i : Int)).toNat = i by omega] at HCh HD HXs
      obtain ⟨b, off, rfl, _⟩ := HI.out.some hi
      go_wp2_with (first | (go_at_call 35; refine (l1In_any i 0 ((ids.length : Int) - 1) w1).mono ?_; rintro e w1' ⟨rfl, rfl⟩; rw [HV1.out]))
      generalize w1' = w1 at *
      rename_i Kx hKx
      have htl : (ids.take i).length = i := by simp; omega
      have HTL : Hid ((ids.take i).length = i) := htl
      clear htl
      have key : ∀ (gb g cg kb : Nat) (W : World), OX w W w1.heap.size kb #[Value.int IntKind.i64 n, Value.slice a zs.length cap, Value.slice ao ko co, Value.slice av kv cv, Value.int IntKind.i64 fine] #[Value.int IntKind.i64 veh, Value.slice (some ⟨b, off, none⟩) ids.length c2] #[Value.int IntKind.i64 0, Value.slice none 0 0] veh (.slice (some ⟨g, 0, none⟩) i cg) (ids.take i) → Kx { tmps := #[.agg #[.int .i64 n, .slice a zs.length cap, .slice ao ko co, .slice av kv cv, .int .i64 fine], .agg #[.int .i64 veh, .slice (some ⟨b, off, none⟩) ids.length c2], .int .i64 (i : Int), .pointer (some ⟨w.heap.size, 0, none⟩), .pointer (some ⟨w.heap.size + 1, 0, none⟩), undef, .pointer (some ⟨w.heap.size + 1 + 1, 0, none⟩), .int .i64 0, .bool false, .pointer (some ⟨kb, 0, none⟩), .agg #[.int .i64 n, .slice a zs.length cap, .slice ao ko co, .slice av kv cv, .int .i64 fine], .agg #[.int .i64 veh, .slice (some ⟨b, off, none⟩) ids.length c2], .bool true, .bool false, .bool false, .int .i64 (i : Int), .pointer (some ⟨w.heap.size + 1, 1, none⟩), .slice (some ⟨b, off, none⟩) ids.length c2, .int .i64 (ids.length : Int), .int .i64 ((ids.length : Int) - 1), .bool true, .bool false, .bool false, undef, .pointer (some ⟨w.heap.size + 1, 0, none⟩), .int .i64 veh, .slice (some ⟨gb, 0, none⟩) 0 0, .pointer (some ⟨w.heap.size + 1, 1, none⟩), .slice (some ⟨b, off, none⟩) ids.length c2, .int .i64 (i : Int), .slice (some ⟨b, off, none⟩) i c2, .slice (some ⟨g, 0, none⟩) i cg, .agg #[.int .i64 veh, .slice (some ⟨g, 0, none⟩) i cg], undef, undef, undef, undef, undef, undef, undef, undef, undef, undef, undef, undef, undef, undef, undef, undef, undef, undef, undef, undef, undef, undef], defers := [] } W := by
        intro gb g cg kb W hT
        have T0 : Hid (OX w W w1.heap.size kb _ _ _ veh (.slice (some ⟨g, 0, none⟩) i cg) (ids.take i)) := hT
        clear hT d0 d1 C1
        apply hKx
        clear hKx
        obtain ⟨e0, e1⟩ := cells2 T0.out.2.1
        obtain ⟨d0, d1⟩ := cells2 T0.out.c.1.2.2
        have ef := fun i => frozen_of_row _ _ i _ _ T0.out.2.1
        have hwr : IntKind.i64.wrap ((i : Int) + 1) = i + 1 := IntWalk.i64_in _ (by omega)
        have hc0 : (0 : Int) ≤ (i : Int) + 1 := by omega
        have hc1 : (i : Int) + 1 ≤ (ids.length : Int) := by omega
        have hc3 : (ids.length : Int) ≤ (c2 : Int) := by omega
        go_wp2_with fail
        have IW : Hid (IntsAt W (some ⟨b, off, none⟩) ids) := HI.out.below T0.out.b
        have hne : w.heap.size + 1 ≠ kb := by have := T0.out.2.2.1; have := T0.out.2.2.2.1; omega
        go_region_law ((first
          | (refine step_append_at rfl (.tmp 34) (.tmp 39) rfl w1.heap.size (.slice (some ⟨g, 0, none⟩) i cg) (ids.take i) i rfl (own_k T0.out.drew.o HTL.out) _ _ _ (ids.drop (i + 1)) rfl (cut_some _ _ _ _) (by simp) (ints_cut (IW.out.below (Below.refl _ _).drew) _ _ hc2) (by omega) (by omega) T0.out.drew.size ?_
             intro v' w2 ho hg hn
             obtain ⟨g2, cg2, rfl⟩ : ∃ g cg, v' = .slice (some ⟨g, 0, none⟩) (remL ids i).length cg := own_sh ho (fun e => by simpa using (hn.1 e).1) (by rw [remL_length hi]; omega)
             have T2 : Hid (OX w (w2.setCell ⟨kb, 1, none⟩ (.slice (some ⟨g2, 0, none⟩) (remL ids i).length cg2)) w1.heap.size kb _ _ _ veh (.slice (some ⟨g2, 0, none⟩) (remL ids i).length cg2) (remL ids i)) := T0.out.drew.grow hg (own_len2 ho HTL.out (by simp))
             obtain ⟨kS, f1, ff⟩ := T0.out.drew.keep hg
             clear ho hg hn)))
        all_goals
          clear kS f1 ff e0 e1 d0 d1 ef hwr hc0 hc1 hc3 T0 IW
          generalize (if c2 = i + 1 then some (⟨b, off, none⟩ : Addr) else some ⟨b, off + (i + 1), none⟩) = adx at *
          generalize (w2.setCell ⟨kb, 1, none⟩ (.slice (some ⟨g2, 0, none⟩) (remL ids i).length cg2)) = W2 at *
          generalize remL ids i = ids' at *
          obtain ⟨o2, HO2⟩ : ∃ t, Hid (decide (codeV (caseB n zs os vs ko kv fine) n zs os vs ko kv veh ids' = 0) = t) := ⟨_, rfl⟩
          obtain ⟨hcg, hli'⟩ := own_bd T2.out.o
          obtain ⟨c0, c1, c2', c3, c4⟩ := cells5 T2.out.c.1.2.1
          obtain ⟨e0, e1⟩ := cells2 T2.out.2.1
          go_wp2_with fail
          clear c0 c1 c2' c3 c4 e0 e1
          refine (l3Ok_any n fine veh a ao av (some ⟨g2, 0, none⟩) cap ko co kv cv cg2 zs os vs ids' _ (HA.out.below T2.out.b) (HO.out.below T2.out.b) (HV.out.below T2.out.b) (owns_ints T2.out.o) HLO.out HLV.out hko hkv hli' hcg o2 HO2.out).mono ?_
          rintro e w3 ⟨rfl, hb⟩
          have T3 : Hid (OX w w3 _ kb _ _ _ veh _ ids') := T2.out.below hb
          have C3 : Hid (CRR w w3 _ _ _) := T3.out.c
          clear hb T2
          cases o2
          · have HCH : Hid (ch = false) := HCh.out.symm.trans (chB_no3 _ (of_decide_eq_false HO2.out))
            have HX : Hid (xs = []) := HXs.out.symm.trans (by rw [HCH.out]; rfl)
            have HDD : Hid (D = 0) := HD.out.symm.trans (by rw [HCH.out]; rfl)
            obtain ⟨t0, t1⟩ := cells2 C3.out.2
            have tf := fun i => frozen_of_row _ _ i _ _ C3.out.2
            go_wp2
            refine bodyPost_ret (v := .tuple #[.agg #[Value.int IntKind.i64 0, Value.slice none 0 0], .int .i64 0, .bool false]) (by simp [results, Try.results15, go_sem, t0, t1]) rfl ⟨?_, none, 0, ?_, ?_⟩
            · repeat (first | with_reducible exact C3.out.b | refine Below.setCell ?_ (by simp <;> omega) _)
            · rw [HCH.out, HDD.out, HX.out]; rfl
            · rw [HX.out]; exact World.ownsRow_nil _ _ _ _
          · have hz2 : codeV (caseB n zs os vs ko kv fine) n zs os vs ko kv veh ids' = 0 := of_decide_eq_true HO2.out
            have HZ2 : Hid (codeV (caseB n zs os vs ko kv fine) n zs os vs ko kv veh ids' = 0) := hz2
            have HCH : Hid (ch = true) := HCh.out.symm.trans (chB_yes HZ1.out HV1.out hz2)
            have HX : Hid (xs = ids') := HXs.out.symm.trans (by rw [HCH.out]; rfl)
            have hmat := (caseB_parts (code_case hz2)).1
            have hq1 := rideV_bd hmat (rosOf os ko ids) ids.length (code12 HZ1.out) (fnd5F vs kv veh 1)
            have hq2 := rideV_bd hmat (rosOf os ko ids') ids'.length (code12 hz2) (fnd5F vs kv veh 1)
            have HDD := HD.out.symm.trans (chD_yes HCH.out HZ1.out hz2)
            obtain ⟨q1, HQ1⟩ : ∃ t, Hid (rideV n zs (rosOf os ko ids) ids.length (fnd5F vs kv veh 1) = t) := ⟨_, rfl⟩
            obtain ⟨q2, HQ2⟩ : ∃ t, Hid (rideV n zs (rosOf os ko ids') ids'.length (fnd5F vs kv veh 1) = t) := ⟨_, rfl⟩
            rw [HQ1.out] at hq1 HDD
            rw [HQ2.out] at hq2 HDD
            have HDE : Hid (D = q2 - q1) := HDD
            have hwr2 : IntKind.i64.wrap (q2 - q1) = q2 - q1 := IntWalk.i64_in _ (by omega)
            clear hz2 hmat HDD hq1 hq2
            have HC1 : Hid (∀ W, Below w3.heap.size w3 W → Calls Try.prog 36 #[.agg #[.int .i64 n, .slice a zs.length cap, .slice ao ko co, .slice av kv cv, .int .i64 fine], .agg #[.int .i64 veh, .slice (some ⟨b, off, none⟩) ids.length c2]] W fun e w' => e = .returned (.int .i64 q1) ∧ Below W.heap.size W w') := fun W hW =>
              HQ1.out ▸ l3Cost_any n fine veh a ao av _ cap ko co kv cv c2 zs os vs ids W ((HA.out.below C3.out.b).below hW) ((HO.out.below C3.out.b).below hW) ((HV.out.below C3.out.b).below hW) ((HI.out.below C3.out.b).below hW) HLO.out HLV.out hko hkv hli HZ1.out
            have HC2 : Hid (∀ W, Below w3.heap.size w3 W → Calls Try.prog 36 #[.agg #[.int .i64 n, .slice a zs.length cap, .slice ao ko co, .slice av kv cv, .int .i64 fine], .agg #[.int .i64 veh, .slice (some ⟨g2, 0, none⟩) ids'.length cg2]] W fun e w' => e = .returned (.int .i64 q2) ∧ Below W.heap.size W w') := fun W hW =>
              HQ2.out ▸ l3Cost_any n fine veh a ao av _ cap ko co kv cv cg2 zs os vs ids' W ((HA.out.below C3.out.b).below hW) ((HO.out.below C3.out.b).below hW) ((HV.out.below C3.out.b).below hW) ((owns_ints T3.out.o).below hW) HLO.out HLV.out hko hkv hli' HZ2.out
            go_wp2_with fail
            have kS := ox9 T3.out.drew
            go_region_held3 (fun W => W.cell? ⟨w.heap.size, 0, none⟩ = some (.int .i64 n) ∧ W.cell? ⟨w.heap.size, 1, none⟩ = some (.slice a zs.length cap) ∧ W.cell? ⟨w.heap.size, 2, none⟩ = some (.slice ao ko co) ∧ W.cell? ⟨w.heap.size, 3, none⟩ = some (.slice av kv cv) ∧ W.cell? ⟨w.heap.size, 4, none⟩ = some (.int .i64 fine) ∧ W.cell? ⟨w.heap.size + 1, 0, none⟩ = some (.int .i64 veh) ∧ W.cell? ⟨w.heap.size + 1, 1, none⟩ = some (.slice (some ⟨b, off, none⟩) ids.length c2) ∧ W.cell? ⟨kb, 0, none⟩ = some (.int .i64 veh) ∧ W.cell? ⟨kb, 1, none⟩ = some (.slice (some ⟨g2, 0, none⟩) ids'.length cg2)) (first | with_reducible exact kS | with_reducible exact ox9s T6.out _ _) ((first
              | (go_at_call 36
                 with_reducible refine (HC2.out w3.drew (Below.refl _ _).drew).mono ?_
                 rintro e w5 ⟨rfl, hb⟩
                 have T5 : Hid (OX w w5 _ kb _ _ _ veh _ ids') := T3.out.drew.below hb
                 have B5 : Hid (Below w3.heap.size w3 w5) := (Below.refl _ _).drew.trans (hb.mono (Nat.le_refl _))
                 have kS := ox9 T5.out
                 clear hb)
              | (go_at_call 36
                 with_reducible refine (HC1.out w5 B5.out).mono ?_
                 rintro e w6 ⟨rfl, hb⟩
                 have T6 : Hid (OX w w6 _ kb _ _ _ veh _ ids') := T5.out.below hb
                 have kS := ox9 T6.out
                 obtain ⟨t0, t1⟩ := cells2 T6.out.c.2
                 have tf := fun i => frozen_of_row _ _ i _ _ T6.out.c.2
                 clear hb)))
            all_goals
              clear kS
              go_wp2
              refine bodyPost_ret (v := .tuple #[.agg #[.int .i64 veh, .slice (some ⟨g2, 0, none⟩) ids'.length cg2], .int .i64 (q2 - q1), .bool true]) (by simp [results, Try.results15, go_sem, t0, t1]) rfl ⟨?_, some ⟨g2, 0, none⟩, cg2, ?_, ?_⟩
              · repeat (first | with_reducible exact T6.out.b | refine Below.setCell ?_ (by simp <;> omega) _)
              · rw [HCH.out, HDE.out, HX.out]; rfl
              · rw [HX.out]; exact owns_base (owns_set (owns_set T6.out.o T6.out.2.2.2.1) T6.out.2.2.2.1) (by have := T6.out.2.2.2.1; omega)
      have hc0 : (0 : Int) ≤ (i : Int) := by omega
      have hc1 : (i : Int) ≤ (c2 : Int) := by omega
      have IT : Hid (IntsAt w1 (some ⟨b, off, none⟩) (ids.take i)) := ints_take (HI.out.below C1.out.b) i
      have ne1 : w.heap.size + 1 ≠ w1.heap.size := by have := C1.out.big; omega
      have ne2 : w.heap.size + 1 ≠ w1.heap.size + 1 := by have := C1.out.big; omega
      go_region_held3 (fun W => W.cell? ⟨w.heap.size + 1, 0, none⟩ = some (.int .i64 veh) ∧ W.cell? ⟨w.heap.size + 1, 1, none⟩ = some (.slice (some ⟨b, off, none⟩) ids.length c2)) (first
        | with_reducible exact kS
        | exact ⟨keep_set (keep_set kS.1 ne2) ne2, keep_set (keep_set kS.2 ne2) ne2⟩
        | exact ⟨keep_set (keep_set kS.1 ne1) ne1, keep_set (keep_set kS.2 ne1) ne1⟩
        | exact ⟨keepB kS.1 (by repeat (first | with_reducible exact Below.refl _ _ | with_reducible refine Below.drew ?_ | with_reducible refine Below.alloc ?_ (by simp <;> omega) _ | with_reducible refine Below.setCell ?_ (by simp <;> omega) _)), keepB kS.2 (by repeat (first | with_reducible exact Below.refl _ _ | with_reducible refine Below.drew ?_ | with_reducible refine Below.alloc ?_ (by simp <;> omega) _ | with_reducible refine Below.setCell ?_ (by simp <;> omega) _))⟩
        | exact ⟨keepB d0 (by repeat (first | with_reducible exact Below.refl _ _ | with_reducible refine Below.drew ?_ | with_reducible refine Below.alloc ?_ (by simp <;> omega) _ | with_reducible refine Below.setCell ?_ (by simp <;> omega) _)), keepB d1 (by repeat (first | with_reducible exact Below.refl _ _ | with_reducible refine Below.drew ?_ | with_reducible refine Below.alloc ?_ (by simp <;> omega) _ | with_reducible refine Below.setCell ?_ (by simp <;> omega) _))⟩) ((first
        | (refine step_append_ints rfl (.tmp 26) (.tmp 30) rfl w1.heap.size (.slice (some ⟨w1.heap.size, 0, none⟩) 0 0) [] 0 rfl (own0a w1) b off i c2 (ids.take i) rfl HTL.out (IT.out.below ((Below.refl _ _).alloc (Nat.le_refl _) _).drew) (by omega) (by omega) (by simp) ?_
           intro v' w2 ho hg hn
           obtain ⟨g, cg, rfl⟩ : ∃ g cg, v' = .slice (some ⟨g, 0, none⟩) i cg := own_sh ho (fun e => by simpa using (hn.1 e).1) (by omega)
           have kS : w2.cell? ⟨w.heap.size + 1, 0, none⟩ = some (.int .i64 veh) ∧ w2.cell? ⟨w.heap.size + 1, 1, none⟩ = some (.slice (some ⟨b, off, none⟩) ids.length c2) := grown_keep2 hg (C1.out.alloc _).drew (fun q e => by have := C1.out.big; simp [Value.ownBlock] at e; omega)
           have HG2 : Hid (World.grownBy _ w2 _) := hg
           have HO2 : Hid (w2.ownsRow w1.heap.size 2 1 (.slice (some ⟨g, 0, none⟩) i cg) (ids.take i).length ((ids.take i).map (Value.int .i64))) := own_len ho HTL.out
           clear hg ho hn)
        | (refine step_append_ints rfl (.tmp 26) (.tmp 30) rfl w1.heap.size (.slice (some ⟨w1.heap.size, 0, none⟩) 0 0) [] 0 rfl (own0b w1 _) b off i c2 (ids.take i) rfl HTL.out (IT.out.below (((Below.refl _ _).alloc (Nat.le_refl _) _).alloc (by simp) _).drew) (by omega) (by omega) (by simp; omega) ?_
           intro v' w2 ho hg hn
           obtain ⟨g, cg, rfl⟩ : ∃ g cg, v' = .slice (some ⟨g, 0, none⟩) i cg := own_sh ho (fun e => by simpa using (hn.1 e).1) (by omega)
           have kS : w2.cell? ⟨w.heap.size + 1, 0, none⟩ = some (.int .i64 veh) ∧ w2.cell? ⟨w.heap.size + 1, 1, none⟩ = some (.slice (some ⟨b, off, none⟩) ids.length c2) := grown_keep2 hg ((C1.out.alloc _).alloc _).drew (fun q e => by have := C1.out.big; simp [Value.ownBlock] at e; omega)
           have HG2 : Hid (World.grownBy _ w2 _) := hg
           obtain ⟨z0, z1⟩ := cells2 (rowb hg)
           have zf := fun i => frozen_of_row _ _ i _ _ (rowb hg)
           have HO2 : Hid (w2.ownsRow w1.heap.size 2 1 (.slice (some ⟨g, 0, none⟩) i cg) (ids.take i).length ((ids.take i).map (Value.int .i64))) := own_len ho HTL.out
           clear hg ho hn)
        | (refine step_append_ints rfl (.tmp 26) (.tmp 30) rfl w1.heap.size (.slice (some ⟨w1.heap.size + 1, 0, none⟩) 0 0) [] 0 rfl (own0c w1 _) b off i c2 (ids.take i) rfl HTL.out (IT.out.below (((Below.refl _ _).alloc (Nat.le_refl _) _).alloc (by simp) _).drew) (by omega) (by omega) (by simp; omega) ?_
           intro v' w2 ho hg hn
           obtain ⟨g, cg, rfl⟩ : ∃ g cg, v' = .slice (some ⟨g, 0, none⟩) i cg := own_sh ho (fun e => by simpa using (hn.1 e).1) (by omega)
           have kS : w2.cell? ⟨w.heap.size + 1, 0, none⟩ = some (.int .i64 veh) ∧ w2.cell? ⟨w.heap.size + 1, 1, none⟩ = some (.slice (some ⟨b, off, none⟩) ids.length c2) := grown_keep2 hg ((C1.out.alloc _).alloc _).drew (fun q e => by have := C1.out.big; simp [Value.ownBlock] at e; omega)
           have HG2 : Hid (World.grownBy _ w2 _) := hg
           obtain ⟨z0, z1⟩ := cells2 (rowc hg)
           have zf := fun i => frozen_of_row _ _ i _ _ (rowc hg)
           have HO2 : Hid (w2.ownsRow w1.heap.size 2 1 (.slice (some ⟨g, 0, none⟩) i cg) (ids.take i).length ((ids.take i).map (Value.int .i64))) := own_len ho HTL.out
           clear hg ho hn)))
      · exact key _ _ _ _ _ (OX.newa C1.out HG2.out HO2.out)
      · exact key _ _ _ _ _ (OX.newb C1.out HG2.out HO2.out)
      · exact key _ _ _ _ _ (OX.newc C1.out HG2.out HO2.out)

end Go.Proofs.Ytplefpmchhcfcaa
