import Derived.Test.YthljonnhkleglaaPack1
import Derived.Test.YthljonnhkleglaaKinTail
import Derived.Test.YthljonnhkleglaaSpecL3
import Derived.Test.YthljonnhkleglaaPack22
namespace Go.Proofs.Ythljonnhkleglaa
open Go.RowKit

set_option maxHeartbeats 4000000 in
theorem specTwoOpt_any (n fine veh : Int) (a ao av bi : Option Addr) (cap ko co kv cv c2 : Nat) (zs os vs ids : List Int) (w : World) (hA : IntsAt w a zs) (hO : IntsAt w ao os) (hV : IntsAt w av vs) (hI : IntsAt w bi ids) (hlo : os.length = ko * 6) (hlv : vs.length = kv * 5) (hko : ko ≤ 9223372036854775807) (hkv : kv ≤ 9223372036854775807) (hli : ids.length ≤ 9223372036854775807) (hc2 : ids.length ≤ c2) (x y : Int) (ch : Bool) (hch : chB (caseB n zs os vs ko kv fine) n zs os vs ko kv veh ids (turnB x y ids.length) (revL ids x.toNat y.toNat) = ch) (D : Int) (hD : chD ch n zs os vs ko kv veh ids (revL ids x.toNat y.toNat) = D) (xs : List Int) (hxs : chL ch (revL ids x.toNat y.toNat) = xs) :
    Calls Try.prog 29 #[.agg #[.int .i64 n, .slice a zs.length cap, .slice ao ko co, .slice av kv cv, .int .i64 fine], .agg #[.int .i64 veh, .slice bi ids.length c2], .int .i64 x, .int .i64 y] w (ChgOk w ch veh D xs) := by
  have HA : Hid (IntsAt w a zs) := hA
  have HO : Hid (IntsAt w ao os) := hO
  have HV : Hid (IntsAt w av vs) := hV
  have HI : Hid (IntsAt w bi ids) := hI
  have HLO : Hid _ := hlo
  have HLV : Hid _ := hlv
  clear hA hO hV hI hlo hlv
  have HCh : Hid (chB (caseB n zs os vs ko kv fine) n zs os vs ko kv veh ids (turnB x y ids.length) (revL ids x.toNat y.toNat) = ch) := hch
  have HD : Hid (chD ch n zs os vs ko kv veh ids (revL ids x.toNat y.toNat) = D) := hD
  have HXs : Hid (chL ch (revL ids x.toNat y.toNat) = xs) := hxs
  clear hch hD hxs
  have C0 : Hid (CRR w (((w.alloc (.cells #[Value.int IntKind.i64 n, Value.slice a zs.length cap, Value.slice ao ko co, Value.slice av kv cv, Value.int IntKind.i64 fine] 30)).alloc (.cells #[Value.int IntKind.i64 veh, Value.slice bi ids.length c2] 44)).alloc (.cells #[Value.int IntKind.i64 0, Value.slice none 0 0] 44)) _ _ _) := CRR.new w _ _ _
  obtain ⟨o1, HO1⟩ : ∃ t, Hid (decide (codeV (caseB n zs os vs ko kv fine) n zs os vs ko kv veh ids = 0) = t) := ⟨_, rfl⟩
  obtain ⟨v1, HV1⟩ : ∃ t, Hid (turnB x y ids.length = t) := ⟨_, rfl⟩
  go_enter Try.func29, Try.ntmps29
  obtain ⟨c0, c1, c2', c3, c4⟩ := cells5 C0.out.1.2.1
  obtain ⟨d0, d1⟩ := cells2 C0.out.1.2.2
  go_wp2_with fail
  clear c0 c1 c2' c3 c4 d0 d1
  refine (l3Ok_any n fine veh a ao av bi cap ko co kv cv c2 zs os vs ids _ (HA.out.below C0.out.b) (HO.out.below C0.out.b) (HV.out.below C0.out.b) (HI.out.below C0.out.b) HLO.out HLV.out hko hkv hli hc2 o1 HO1.out).mono ?_
  rintro e w1 ⟨rfl, hb⟩
  have C1 : Hid (CRR w w1 _ _ _) := C0.out.below hb
  clear hb C0
  cases o1
  · have HCH : Hid (ch = false) := HCh.out.symm.trans (chB_no1 (of_decide_eq_false HO1.out) _ _)
    have HX : Hid (xs = []) := HXs.out.symm.trans (by rw [HCH.out]; rfl)
    have HDD : Hid (D = 0) := HD.out.symm.trans (by rw [HCH.out]; rfl)
    obtain ⟨t0, t1⟩ := cells2 C1.out.2
    have tf := fun i => frozen_of_row _ _ i _ _ C1.out.2
    go_wp2
    refine bodyPost_ret (v := .tuple #[.agg #[Value.int IntKind.i64 0, Value.slice none 0 0], .int .i64 0, .bool false]) (by simp [results, Try.results29, go_sem, t0, t1]) rfl ⟨?_, none, 0, ?_, ?_⟩
    · repeat (first | with_reducible exact C1.out.b | refine Below.setCell ?_ (by simp <;> omega) _)
    · rw [HCH.out, HDD.out, HX.out]; rfl
    · rw [HX.out]; exact World.ownsRow_nil _ _ _ _
  · have hz1 : codeV (caseB n zs os vs ko kv fine) n zs os vs ko kv veh ids = 0 := of_decide_eq_true HO1.out
    have HZ1 : Hid (codeV (caseB n zs os vs ko kv fine) n zs os vs ko kv veh ids = 0) := hz1
    have h12 := code12 hz1
    clear hz1
    obtain ⟨d0, d1⟩ := cells2 C1.out.1.2.2
    cases v1
    · have h1 := turnB_false HV1.out
      rcases (show x < 0 ∨ (0 ≤ x ∧ y ≤ x) ∨ (0 ≤ x ∧ x < y ∧ (ids.length : Int) ≤ y) from by omega) with h | ⟨h, h'⟩ | ⟨h, h', h''⟩
      all_goals
        clear h1
        have HCH : Hid (ch = false) := HCh.out.symm.trans (chB_no2 HV1.out _)
        have HX : Hid (xs = []) := HXs.out.symm.trans (by rw [HCH.out]; rfl)
        have HDD : Hid (D = 0) := HD.out.symm.trans (by rw [HCH.out]; rfl)
        obtain ⟨t0, t1⟩ := cells2 C1.out.2
        have tf := fun i => frozen_of_row _ _ i _ _ C1.out.2
        go_wp2
        refine bodyPost_ret (v := .tuple #[.agg #[Value.int IntKind.i64 0, Value.slice none 0 0], .int .i64 0, .bool false]) (by simp [results, Try.results29, go_sem, t0, t1]) rfl ⟨?_, none, 0, ?_, ?_⟩
        · repeat (first | with_reducible exact C1.out.b | refine Below.setCell ?_ (by simp <;> omega) _)
        · rw [HCH.out, HDD.out, HX.out]; rfl
        · rw [HX.out]; exact World.ownsRow_nil _ _ _ _
    · obtain ⟨h1, h2, h3⟩ := turnB_true HV1.out
      obtain ⟨i, rfl⟩ : ∃ i : Nat, x = i := ⟨x.toNat, by omega⟩
      obtain ⟨j, rfl⟩ : ∃ j : Nat, y = j := ⟨y.toNat, by omega⟩
      have hij : i < j := by omega
      have hj : j < ids.length := by omega
      rw [show ((i : Int)).toNat = i by omega, show ((j : Int)).toNat = j by omega] at HCh HD HXs
      obtain ⟨b, off, rfl, _⟩ := HI.out.some hj
      go_wp2_with fail
      generalize decide ((i : Int) < 0) = q1 at *
      generalize decide (j ≤ i) = q2 at *
      generalize decide (ids.length ≤ j) = q3 at *
      rename_i Kx hKx
      have key : ∀ (gb g cg kb : Nat) (W : World), OX w W w1.heap.size kb #[Value.int IntKind.i64 n, Value.slice a zs.length cap, Value.slice ao ko co, Value.slice av kv cv, Value.int IntKind.i64 fine] #[Value.int IntKind.i64 veh, Value.slice (some ⟨b, off, none⟩) ids.length c2] #[Value.int IntKind.i64 0, Value.slice none 0 0] veh (.slice (some ⟨g, 0, none⟩) ids.length cg) ids → Kx { tmps := List.toArray ((.agg #[.int .i64 n, .slice a zs.length cap, .slice ao ko co, .slice av kv cv, .int .i64 fine] : Value) :: (.agg #[.int .i64 veh, .slice (some ⟨b, off, none⟩) ids.length c2] : Value) :: (.int .i64 (i : Int) : Value) :: (.int .i64 (j : Int) : Value) :: (.pointer (some ⟨w.heap.size, 0, none⟩) : Value) :: (.pointer (some ⟨w.heap.size + 1, 0, none⟩) : Value) :: (undef : Value) :: (undef : Value) :: (.pointer (some ⟨w.heap.size + 1 + 1, 0, none⟩) : Value) :: (.int .i64 0 : Value) :: (.bool false : Value) :: (.pointer (some ⟨kb, 0, none⟩) : Value) :: (undef : Value) :: (.agg #[.int .i64 n, .slice a zs.length cap, .slice ao ko co, .slice av kv cv, .int .i64 fine] : Value) :: (.agg #[.int .i64 veh, .slice (some ⟨b, off, none⟩) ids.length c2] : Value) :: (.bool true : Value) :: (.bool false : Value) :: (.bool false : Value) :: (.int .i64 (i : Int) : Value) :: (.bool q1 : Value) :: (.bool q1 : Value) :: (.bool q1 : Value) :: (.int .i64 (j : Int) : Value) :: (.int .i64 (i : Int) : Value) :: (.bool q2 : Value) :: (.bool (q1 || q2) : Value) :: (.bool (q1 || q2) : Value) :: (.int .i64 (j : Int) : Value) :: (.pointer (some ⟨w.heap.size + 1, 1, none⟩) : Value) :: (.slice (some ⟨b, off, none⟩) ids.length c2 : Value) :: (.int .i64 (ids.length : Int) : Value) :: (.bool q3 : Value) :: (.bool (q1 || q2 || q3) : Value) :: (undef : Value) :: (.pointer (some ⟨w.heap.size + 1, 0, none⟩) : Value) :: (.int .i64 veh : Value) :: (.slice (some ⟨gb, 0, none⟩) 0 0 : Value) :: (.pointer (some ⟨w.heap.size + 1, 1, none⟩) : Value) :: (.slice (some ⟨b, off, none⟩) ids.length c2 : Value) :: (.slice (some ⟨g, 0, none⟩) ids.length cg : Value) :: (.agg #[.int .i64 veh, .slice (some ⟨g, 0, none⟩) ids.length cg] : Value) :: (undef : Value) :: (undef : Value) :: (undef : Value) :: (undef : Value) :: (undef : Value) :: (undef : Value) :: (undef : Value) :: (undef : Value) :: (undef : Value) :: (undef : Value) :: (undef : Value) :: (undef : Value) :: (undef : Value) :: (undef : Value) :: (undef : Value) :: (undef : Value) :: (undef : Value) :: (undef : Value) :: (undef : Value) :: (undef : Value) :: (undef : Value) :: (undef : Value) :: (undef : Value) :: (undef : Value) :: (undef : Value) :: (undef : Value) :: (undef : Value) :: (undef : Value) :: (undef : Value) :: (undef : Value) :: (undef : Value) :: (undef : Value) :: []), defers := [] } W := by
        intro gb g cg kb W hT
        have T0 : Hid (OX w W w1.heap.size kb _ _ _ veh (.slice (some ⟨g, 0, none⟩) ids.length cg) ids) := hT
        clear hT d0 d1
        apply hKx
        clear hKx
        go_wp2_with fail
        go_loopw [12] (fun t wr => ∃ m : Nat, m ≤ j + 1 - i ∧ t = .int .i64 ((i + m : Nat) : Int) ∧ OX w wr w1.heap.size kb #[Value.int IntKind.i64 n, Value.slice a zs.length cap, Value.slice ao ko co, Value.slice av kv cv, Value.int IntKind.i64 fine] #[Value.int IntKind.i64 veh, Value.slice (some ⟨b, off, none⟩) ids.length c2] #[Value.int IntKind.i64 0, Value.slice none 0 0] veh (.slice (some ⟨g, 0, none⟩) ids.length cg) (revTo ids i j m)) (fun t _ => j + 1 - (intOf t).toNat)
        case atStart => exact ⟨0, Nat.zero_le _, rfl, T0.out⟩
        case round =>
          clear T0
          obtain ⟨m, hm, rfl, hT⟩ := hrel
          have T1 : Hid (OX w wr w1.heap.size kb _ _ _ veh (.slice (some ⟨g, 0, none⟩) ids.length cg) (revTo ids i j m)) := hT
          clear hT
          by_cases hlt : m < j + 1 - i
          · obtain ⟨k, hk⟩ : ∃ k : Nat, i + m = k := ⟨_, rfl⟩
            obtain ⟨s, hs⟩ : ∃ s : Nat, i + j - k = s := ⟨_, rfl⟩
            obtain ⟨v, HVS⟩ : ∃ t, Hid (ids.getD s 0 = t) := ⟨_, rfl⟩
            have hrl := revTo_length ids i j m
            have hsrc := ints_cell (HI.out.below T1.out.b) (j := s) (by omega) HVS.out
            obtain ⟨hgk, hgf⟩ := ox_cell T1.out (k := k) (by omega)
            have HNX : Hid (revTo ids i j (m + 1) = (revTo ids i j m).set k v) := by
              show revTo ids i j (m + 1) = _
              simp only [revTo]
              rw [hk, hs, HVS.out]
            have t2 := (T1.out.put v hrl (k := k) (by omega)).drew
            rw [← HNX.out] at t2
            have T2 : Hid (OX w (wr.setCell ⟨g, k, none⟩ (.int .i64 v)).drew w1.heap.size kb #[Value.int IntKind.i64 n, Value.slice a zs.length cap, Value.slice ao ko co, Value.slice av kv cv, Value.int IntKind.i64 fine] #[Value.int IntKind.i64 veh, Value.slice (some ⟨b, off, none⟩) ids.length c2] #[Value.int IntKind.i64 0, Value.slice none 0 0] veh (.slice (some ⟨g, 0, none⟩) ids.length cg) (revTo ids i j (m + 1))) := t2
            clear t2
            obtain ⟨e0, e1⟩ := cells2 T1.out.2.1
            obtain ⟨d0, d1⟩ := cells2 T1.out.c.1.2.2
            have hbk : kb ≠ g := fun e => own_ne T1.out.o T1.out.2.1 (by rw [e]; rfl)
            have hgB : w1.heap.size ≤ g := (T1.out.o.lt g rfl).1
            have hrg : w.heap.size + 1 ≠ g := by have := T1.out.2.2.2.1; omega
            have hbb : b < w.heap.size := by
              have := block_lt_of_cell (ints_cell HI.out (j := s) (by omega) HVS.out)
              simpa using this
            have hbg : b ≠ g := by have := T1.out.2.2.2.1; omega
            have hw1' : IntKind.i64.wrap ((i : Int) + (j : Int)) = (i : Int) + (j : Int) := IntWalk.i64_in _ (by omega)
            have hw2' : IntKind.i64.wrap ((i : Int) + (j : Int) - (k : Int)) = (s : Int) := by rw [IntWalk.i64_in _ (by omega)]; omega
            have hs0 : (0 : Int) ≤ (s : Int) := by omega
            have hs1 : (s : Int) < (ids.length : Int) := by omega
            have hk0 : (0 : Int) ≤ (k : Int) := by omega
            have hk1 : (k : Int) < (ids.length : Int) := by omega
            have hkj : (k : Int) ≤ (j : Int) := by omega
            rw [hk]
            go_wp2_with fail
            go_region_held3 (fun W => W.cell? ⟨kb, 1, none⟩ = some (.slice (some ⟨g, 0, none⟩) ids.length cg) ∧ W.cell? ⟨w.heap.size + 1, 1, none⟩ = some (.slice (some ⟨b, off, none⟩) ids.length c2) ∧ W.cell? ⟨b, off + s, none⟩ = some (.int .i64 v)) (first
              | with_reducible exact ⟨keepB e1 (Below.refl _ _).drew, keepB d1 (Below.refl _ _).drew, keepB hsrc (Below.refl _ _).drew⟩
              | with_reducible exact ⟨keepB (keep_set e1 hbk) (Below.refl _ _).drew, keepB (keep_set d1 hrg) (Below.refl _ _).drew, keepB (keep_set hsrc hbg) (Below.refl _ _).drew⟩) ((fail))
            clear e0 e1 d0 d1 hsrc hgk hgf hbk hrg hbg hbb hw1' hw2' hs0 hs1 hgB
            generalize (wr.setCell ⟨g, k, none⟩ (.int .i64 v)).drew = wn at *
            have hwk : IntKind.i64.wrap ((k : Int) + 1) = ((k + 1 : Nat) : Int) := by rw [IntWalk.i64_in _ (by omega)]; omega
            go_wp2
            go_roundw
            case rel => exact ⟨m + 1, by omega, by rw [← hk]; first | rfl | (congr 1) | go_num, T2.out⟩
            case measure => simp [intOf]; omega
          · have hme : m = j + 1 - i := by omega
            subst hme
            have er : (revL ids i j).length = ids.length := revL_length (by omega) hj
            have t2 := T1.out
            rw [revTo_all (by omega) hj] at t2
            have hkj : ¬ (((i + (j + 1 - i) : Nat) : Int) ≤ (j : Int)) := by omega
            generalize ((i + (j + 1 - i) : Nat) : Int) = kk at *
            have T2 : Hid (OX w wr w1.heap.size kb #[Value.int IntKind.i64 n, Value.slice a zs.length cap, Value.slice ao ko co, Value.slice av kv cv, Value.int IntKind.i64 fine] #[Value.int IntKind.i64 veh, Value.slice (some ⟨b, off, none⟩) ids.length c2] #[Value.int IntKind.i64 0, Value.slice none 0 0] veh (.slice (some ⟨g, 0, none⟩) (revL ids i j).length cg) (revL ids i j)) := by
              show OX w wr w1.heap.size kb _ _ _ veh (.slice (some ⟨g, 0, none⟩) (revL ids i j).length cg) (revL ids i j)
              rw [er]
              exact t2
            clear t2 T1 hm hlt er
            generalize revL ids i j = ids' at *
            generalize g = g2 at *
            generalize cg = cg2 at *
            obtain ⟨o2, HO2⟩ : ∃ t, Hid (decide (codeV (caseB n zs os vs ko kv fine) n zs os vs ko kv veh ids' = 0) = t) := ⟨_, rfl⟩
            obtain ⟨hcg, hli'⟩ := own_bd T2.out.o
            obtain ⟨c0, c1, c2', c3, c4⟩ := cells5 T2.out.c.1.2.1
            obtain ⟨e0, e1⟩ := cells2 T2.out.2.1
            go_wp2_with fail
            clear c0 c1 c2' c3 c4 e0 e1
            refine (l3Ok_any n fine veh a ao av (some ⟨g2, 0, none⟩) cap ko co kv cv cg2 zs os vs ids' _ (HA.out.below T2.out.b) (HO.out.below T2.out.b) (HV.out.below T2.out.b) (owns_ints T2.out.o) HLO.out HLV.out hko hkv hli' hcg o2 HO2.out).mono ?_
            rintro e w3 ⟨rfl, hb⟩
            have T3 : Hid (OX w w3 _ kb _ _ _ veh _ ids') := T2.out.below hb
            have C3 : Hid (CRR w w3 _ _ _) := T3.out.c
            clear hb T2
            cases o2
            · have HCH : Hid (ch = false) := HCh.out.symm.trans (chB_no3 _ (of_decide_eq_false HO2.out))
              have HX : Hid (xs = []) := HXs.out.symm.trans (by rw [HCH.out]; rfl)
              have HDD : Hid (D = 0) := HD.out.symm.trans (by rw [HCH.out]; rfl)
              obtain ⟨t0, t1⟩ := cells2 C3.out.2
              have tf := fun i => frozen_of_row _ _ i _ _ C3.out.2
              go_wp2
              refine bodyPost_ret (v := .tuple #[.agg #[Value.int IntKind.i64 0, Value.slice none 0 0], .int .i64 0, .bool false]) (by simp [results, Try.results29, go_sem, t0, t1]) rfl ⟨?_, none, 0, ?_, ?_⟩
              · repeat (first | with_reducible exact C3.out.b | refine Below.setCell ?_ (by simp <;> omega) _)
              · rw [HCH.out, HDD.out, HX.out]; rfl
              · rw [HX.out]; exact World.ownsRow_nil _ _ _ _
            · have hz2 : codeV (caseB n zs os vs ko kv fine) n zs os vs ko kv veh ids' = 0 := of_decide_eq_true HO2.out
              have HZ2 : Hid (codeV (caseB n zs os vs ko kv fine) n zs os vs ko kv veh ids' = 0) := hz2
              have HCH : Hid (ch = true) := HCh.out.symm.trans (chB_yes HZ1.out HV1.out hz2)
              have HX : Hid (xs = ids') := HXs.out.symm.trans (by rw [HCH.out]; rfl)
              have hmat := (caseB_parts (code_case hz2)).1
              have hq1 := rideV_bd hmat (rosOf os ko ids) ids.length (code12 HZ1.out) (fnd5F vs kv veh 1)
              have hq2 := rideV_bd hmat (rosOf os ko ids') ids'.length (code12 hz2) (fnd5F vs kv veh 1)
              have HDD := HD.out.symm.trans (chD_yes HCH.out HZ1.out hz2)
              obtain ⟨q1, HQ1⟩ : ∃ t, Hid (rideV n zs (rosOf os ko ids) ids.length (fnd5F vs kv veh 1) = t) := ⟨_, rfl⟩
              obtain ⟨q2, HQ2⟩ : ∃ t, Hid (rideV n zs (rosOf os ko ids') ids'.length (fnd5F vs kv veh 1) = t) := ⟨_, rfl⟩
              rw [HQ1.out] at hq1 HDD
              rw [HQ2.out] at hq2 HDD
              have HDE : Hid (D = q2 - q1) := HDD
              have hwr2 : IntKind.i64.wrap (q2 - q1) = q2 - q1 := IntWalk.i64_in _ (by omega)
              clear hz2 hmat HDD hq1 hq2
              have HC1 : Hid (∀ W, Below w3.heap.size w3 W → Calls Try.prog 48 #[.agg #[.int .i64 n, .slice a zs.length cap, .slice ao ko co, .slice av kv cv, .int .i64 fine], .agg #[.int .i64 veh, .slice (some ⟨b, off, none⟩) ids.length c2]] W fun e w' => e = .returned (.int .i64 q1) ∧ Below W.heap.size W w') := fun W hW =>
                HQ1.out ▸ l3Cost_any n fine veh a ao av _ cap ko co kv cv c2 zs os vs ids W ((HA.out.below C3.out.b).below hW) ((HO.out.below C3.out.b).below hW) ((HV.out.below C3.out.b).below hW) ((HI.out.below C3.out.b).below hW) HLO.out HLV.out hko hkv hli HZ1.out
              have HC2 : Hid (∀ W, Below w3.heap.size w3 W → Calls Try.prog 48 #[.agg #[.int .i64 n, .slice a zs.length cap, .slice ao ko co, .slice av kv cv, .int .i64 fine], .agg #[.int .i64 veh, .slice (some ⟨g2, 0, none⟩) ids'.length cg2]] W fun e w' => e = .returned (.int .i64 q2) ∧ Below W.heap.size W w') := fun W hW =>
                HQ2.out ▸ l3Cost_any n fine veh a ao av _ cap ko co kv cv cg2 zs os vs ids' W ((HA.out.below C3.out.b).below hW) ((HO.out.below C3.out.b).below hW) ((HV.out.below C3.out.b).below hW) ((owns_ints T3.out.o).below hW) HLO.out HLV.out hko hkv hli' HZ2.out
              go_wp2_with fail
              have kS := ox9 T3.out.drew
              go_region_held3 (fun W => W.cell? ⟨w.heap.size, 0, none⟩ = some (.int .i64 n) ∧ W.cell? ⟨w.heap.size, 1, none⟩ = some (.slice a zs.length cap) ∧ W.cell? ⟨w.heap.size, 2, none⟩ = some (.slice ao ko co) ∧ W.cell? ⟨w.heap.size, 3, none⟩ = some (.slice av kv cv) ∧ W.cell? ⟨w.heap.size, 4, none⟩ = some (.int .i64 fine) ∧ W.cell? ⟨w.heap.size + 1, 0, none⟩ = some (.int .i64 veh) ∧ W.cell? ⟨w.heap.size + 1, 1, none⟩ = some (.slice (some ⟨b, off, none⟩) ids.length c2) ∧ W.cell? ⟨kb, 0, none⟩ = some (.int .i64 veh) ∧ W.cell? ⟨kb, 1, none⟩ = some (.slice (some ⟨g2, 0, none⟩) ids'.length cg2)) (first | with_reducible exact kS | with_reducible exact ox9s T6.out _ _) ((first
                | (go_at_call 48
                   with_reducible refine (HC2.out w3.drew (Below.refl _ _).drew).mono ?_
                   rintro e w5 ⟨rfl, hb⟩
                   have T5 : Hid (OX w w5 _ kb _ _ _ veh _ ids') := T3.out.drew.below hb
                   have B5 : Hid (Below w3.heap.size w3 w5) := (Below.refl _ _).drew.trans (hb.mono (Nat.le_refl _))
                   have kS := ox9 T5.out
                   clear hb)
                | (go_at_call 48
                   with_reducible refine (HC1.out w5 B5.out).mono ?_
                   rintro e w6 ⟨rfl, hb⟩
                   have T6 : Hid (OX w w6 _ kb _ _ _ veh _ ids') := T5.out.below hb
                   have kS := ox9 T6.out
                   obtain ⟨t0, t1⟩ := cells2 T6.out.c.2
                   have tf := fun i => frozen_of_row _ _ i _ _ T6.out.c.2
                   clear hb)))
              all_goals
                clear kS
                go_wp2
                refine bodyPost_ret (v := .tuple #[.agg #[.int .i64 veh, .slice (some ⟨g2, 0, none⟩) ids'.length cg2], .int .i64 (q2 - q1), .bool true]) (by simp [results, Try.results29, go_sem, t0, t1]) rfl ⟨?_, some ⟨g2, 0, none⟩, cg2, ?_, ?_⟩
                · repeat (first | with_reducible exact T6.out.b | refine Below.setCell ?_ (by simp <;> omega) _)
                · rw [HCH.out, HDE.out, HX.out]; rfl
                · rw [HX.out]; exact owns_base (owns_set (owns_set T6.out.o T6.out.2.2.2.1) T6.out.2.2.2.1) (by have := T6.out.2.2.2.1; omega)

      have IT : Hid (IntsAt w1 (some ⟨b, off, none⟩) ids) := HI.out.below C1.out.b
      have ne1 : w.heap.size + 1 ≠ w1.heap.size := by have := C1.out.big; omega
      have ne2 : w.heap.size + 1 ≠ w1.heap.size + 1 := by have := C1.out.big; omega
      go_region_held3 (fun W => W.cell? ⟨w.heap.size + 1, 0, none⟩ = some (.int .i64 veh) ∧ W.cell? ⟨w.heap.size + 1, 1, none⟩ = some (.slice (some ⟨b, off, none⟩) ids.length c2)) (first
        | with_reducible exact kS
        | exact ⟨keep_set (keep_set kS.1 ne2) ne2, keep_set (keep_set kS.2 ne2) ne2⟩
        | exact ⟨keep_set (keep_set kS.1 ne1) ne1, keep_set (keep_set kS.2 ne1) ne1⟩
        | exact ⟨keepB kS.1 (by repeat (first | with_reducible exact Below.refl _ _ | with_reducible refine Below.drew ?_ | with_reducible refine Below.alloc ?_ (by simp <;> omega) _ | with_reducible refine Below.setCell ?_ (by simp <;> omega) _)), keepB kS.2 (by repeat (first | with_reducible exact Below.refl _ _ | with_reducible refine Below.drew ?_ | with_reducible refine Below.alloc ?_ (by simp <;> omega) _ | with_reducible refine Below.setCell ?_ (by simp <;> omega) _))⟩
        | exact ⟨keepB d0 (by repeat (first | with_reducible exact Below.refl _ _ | with_reducible refine Below.drew ?_ | with_reducible refine Below.alloc ?_ (by simp <;> omega) _ | with_reducible refine Below.setCell ?_ (by simp <;> omega) _)), keepB d1 (by repeat (first | with_reducible exact Below.refl _ _ | with_reducible refine Below.drew ?_ | with_reducible refine Below.alloc ?_ (by simp <;> omega) _ | with_reducible refine Below.setCell ?_ (by simp <;> omega) _))⟩) ((first
        | (refine step_append_ints rfl (.tmp 36) (.tmp 38) rfl w1.heap.size (.slice (some ⟨w1.heap.size, 0, none⟩) 0 0) [] 0 rfl (own0a w1) b off ids.length c2 ids rfl rfl (IT.out.below ((Below.refl _ _).alloc (Nat.le_refl _) _).drew) (by omega) (by omega) (by simp) ?_
           intro v' w2 ho hg hn
           obtain ⟨g, cg, rfl⟩ : ∃ g cg, v' = .slice (some ⟨g, 0, none⟩) ids.length cg := own_sh ho (fun e => by simpa using (hn.1 e).1) (by omega)
           have kS : w2.cell? ⟨w.heap.size + 1, 0, none⟩ = some (.int .i64 veh) ∧ w2.cell? ⟨w.heap.size + 1, 1, none⟩ = some (.slice (some ⟨b, off, none⟩) ids.length c2) := grown_keep2 hg (C1.out.alloc _).drew (fun q e => by have := C1.out.big; simp [Value.ownBlock] at e; omega)
           have HG2 : Hid (World.grownBy _ w2 _) := hg
           have HO2 : Hid (w2.ownsRow w1.heap.size 2 1 (.slice (some ⟨g, 0, none⟩) ids.length cg) ids.length (ids.map (Value.int .i64))) := own_len ho rfl
           clear hg ho hn)
        | (refine step_append_ints rfl (.tmp 36) (.tmp 38) rfl w1.heap.size (.slice (some ⟨w1.heap.size, 0, none⟩) 0 0) [] 0 rfl (own0b w1 _) b off ids.length c2 ids rfl rfl (IT.out.below (((Below.refl _ _).alloc (Nat.le_refl _) _).alloc (by simp) _).drew) (by omega) (by omega) (by simp; omega) ?_
           intro v' w2 ho hg hn
           obtain ⟨g, cg, rfl⟩ : ∃ g cg, v' = .slice (some ⟨g, 0, none⟩) ids.length cg := own_sh ho (fun e => by simpa using (hn.1 e).1) (by omega)
           have kS : w2.cell? ⟨w.heap.size + 1, 0, none⟩ = some (.int .i64 veh) ∧ w2.cell? ⟨w.heap.size + 1, 1, none⟩ = some (.slice (some ⟨b, off, none⟩) ids.length c2) := grown_keep2 hg ((C1.out.alloc _).alloc _).drew (fun q e => by have := C1.out.big; simp [Value.ownBlock] at e; omega)
           have HG2 : Hid (World.grownBy _ w2 _) := hg
           obtain ⟨z0, z1⟩ := cells2 (rowb hg)
           have zf := fun i => frozen_of_row _ _ i _ _ (rowb hg)
           have HO2 : Hid (w2.ownsRow w1.heap.size 2 1 (.slice (some ⟨g, 0, none⟩) ids.length cg) ids.length (ids.map (Value.int .i64))) := own_len ho rfl
           clear hg ho hn)
        | (refine step_append_ints rfl (.tmp 36) (.tmp 38) rfl w1.heap.size (.slice (some ⟨w1.heap.size + 1, 0, none⟩) 0 0) [] 0 rfl (own0c w1 _) b off ids.length c2 ids rfl rfl (IT.out.below (((Below.refl _ _).alloc (Nat.le_refl _) _).alloc (by simp) _).drew) (by omega) (by omega) (by simp; omega) ?_
           intro v' w2 ho hg hn
           obtain ⟨g, cg, rfl⟩ : ∃ g cg, v' = .slice (some ⟨g, 0, none⟩) ids.length cg := own_sh ho (fun e => by simpa using (hn.1 e).1) (by omega)
           have kS : w2.cell? ⟨w.heap.size + 1, 0, none⟩ = some (.int .i64 veh) ∧ w2.cell? ⟨w.heap.size + 1, 1, none⟩ = some (.slice (some ⟨b, off, none⟩) ids.length c2) := grown_keep2 hg ((C1.out.alloc _).alloc _).drew (fun q e => by have := C1.out.big; simp [Value.ownBlock] at e; omega)
           have HG2 : Hid (World.grownBy _ w2 _) := hg
           obtain ⟨z0, z1⟩ := cells2 (rowc hg)
           have zf := fun i => frozen_of_row _ _ i _ _ (rowc hg)
           have HO2 : Hid (w2.ownsRow w1.heap.size 2 1 (.slice (some ⟨g, 0, none⟩) ids.length cg) ids.length (ids.map (Value.int .i64))) := own_len ho rfl
           clear hg ho hn)))
      · exact key _ _ _ _ _ (OX.newa C1.out HG2.out HO2.out)
      · exact key _ _ _ _ _ (OX.newb C1.out HG2.out HO2.out)
      · exact key _ _ _ _ _ (OX.newc C1.out HG2.out HO2.out)

end Go.Proofs.Ythljonnhkleglaa
