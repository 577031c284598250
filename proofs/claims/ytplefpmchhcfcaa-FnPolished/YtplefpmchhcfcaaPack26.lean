import Derived.Test.YtplefpmchhcfcaaPack20
import Derived.Test.YtplefpmchhcfcaaPack25
import Derived.Deep.LoopGhost
namespace Go.Proofs.Ytplefpmchhcfcaa
open Go.RowKit

set_option maxHeartbeats 4000000 in
theorem specPolished_any (n fine veh : Int) (a ao av : Option Addr) (b off : Nat) (cap ko co kv cv c2 : Nat) (zs os vs ids : List Int) (w : World) (hA : IntsAt w a zs) (hO : IntsAt w ao os) (hV : IntsAt w av vs) (hI : IntsAt w (some ⟨b, off, none⟩) ids) (hlo : os.length = ko * 6) (hlv : vs.length = kv * 5) (hko : ko ≤ 9223372036854775807) (hkv : kv ≤ 9223372036854775807) (hli : ids.length ≤ 9223372036854775807) (hc2 : ids.length ≤ c2) (ok : Bool) (hok : decide (codeV (caseB n zs os vs ko kv fine) n zs os vs ko kv veh ids = 0) = ok) (xs : List Int) (hxs : chL ok (polV n zs os vs ko kv veh ids) = xs) :
    Calls Try.prog 22 #[.agg #[.int .i64 n, .slice a zs.length cap, .slice ao ko co, .slice av kv cv, .int .i64 fine], .agg #[.int .i64 veh, .slice (some ⟨b, off, none⟩) ids.length c2]] w (PolOk w ok veh xs) := by
  have HA : Hid (IntsAt w a zs) := hA
  have HO : Hid (IntsAt w ao os) := hO
  have HV : Hid (IntsAt w av vs) := hV
  have HI : Hid (IntsAt w (some ⟨b, off, none⟩) ids) := hI
  have HLO : Hid _ := hlo
  have HLV : Hid _ := hlv
  clear hA hO hV hI hlo hlv
  have HOK : Hid (decide (codeV (caseB n zs os vs ko kv fine) n zs os vs ko kv veh ids = 0) = ok) := hok
  have HXs : Hid (chL ok (polV n zs os vs ko kv veh ids) = xs) := hxs
  clear hok hxs
  have C0 : Hid (CRR w (((w.alloc (.cells #[Value.int IntKind.i64 n, Value.slice a zs.length cap, Value.slice ao ko co, Value.slice av kv cv, Value.int IntKind.i64 fine] 30)).alloc (.cells #[Value.int IntKind.i64 veh, Value.slice (some ⟨b, off, none⟩) ids.length c2] 32)).alloc (.cells #[Value.int IntKind.i64 0, Value.slice none 0 0] 32)) _ _ _) := CRR.new w _ _ _
  go_enter Try.func22, Try.ntmps22
  obtain ⟨c0, c1, c2', c3, c4⟩ := cells5 C0.out.1.2.1
  obtain ⟨d0, d1⟩ := cells2 C0.out.1.2.2
  go_wp2_with fail
  clear c0 c1 c2' c3 c4 d0 d1
  refine (l3Ok_any n fine veh a ao av _ cap ko co kv cv c2 zs os vs ids _ (HA.out.below C0.out.b) (HO.out.below C0.out.b) (HV.out.below C0.out.b) (HI.out.below C0.out.b) HLO.out HLV.out hko hkv hli hc2 ok HOK.out).mono ?_
  rintro e w1 ⟨rfl, hb⟩
  have C1 : Hid (CRR w w1 #[Value.int IntKind.i64 n, Value.slice a zs.length cap, Value.slice ao ko co, Value.slice av kv cv, Value.int IntKind.i64 fine] #[Value.int IntKind.i64 veh, Value.slice (some ⟨b, off, none⟩) ids.length c2] #[Value.int IntKind.i64 0, Value.slice none 0 0]) := C0.out.below hb
  clear hb C0
  cases ok
  · have HX : Hid (xs = []) := HXs.out.symm
    obtain ⟨t0, t1⟩ := cells2 C1.out.2
    have tf := fun i => frozen_of_row _ _ i _ _ C1.out.2
    go_wp2
    refine bodyPost_ret (v := .tuple #[.agg #[Value.int IntKind.i64 0, Value.slice none 0 0], .bool false]) (by simp [results, Try.results22, go_sem, t0, t1]) rfl ⟨?_, none, 0, ?_, ?_⟩
    · repeat (first | with_reducible exact C1.out.b | refine Below.setCell ?_ (by simp <;> omega) _)
    · rw [HX.out]; rfl
    · rw [HX.out]; exact World.ownsRow_nil _ _ _ _
  · have hz1 : codeV (caseB n zs os vs ko kv fine) n zs os vs ko kv veh ids = 0 := of_decide_eq_true HOK.out
    have hcb := code_case hz1
    have h12 := code12 hz1
    have HC : Hid (caseB n zs os vs ko kv fine = true) := hcb
    have HZ : Hid (matB n zs = true) := (caseB_parts hcb).1
    have hz2 := hz1
    rw [hcb] at hz2
    have HZ1 : Hid (codeV true n zs os vs ko kv veh ids = 0) := hz2
    have HPO : Hid (polV n zs os vs ko kv veh ids = xs) := HXs.out
    have HRC : Hid (rcV n zs os vs ko kv veh ids ≤ 130000) := (rcV_bd (caseB_parts hcb).1 os vs ko kv veh ids).2
    clear hz1 hcb hz2
    obtain ⟨d0, d1⟩ := cells2 C1.out.1.2.2
    go_wp2_with fail
    rename_i Kx hKx
    have key : ∀ (gb g cg kb : Nat) (W : World), OX w W w1.heap.size kb #[Value.int IntKind.i64 n, Value.slice a zs.length cap, Value.slice ao ko co, Value.slice av kv cv, Value.int IntKind.i64 fine] #[Value.int IntKind.i64 veh, Value.slice (some ⟨b, off, none⟩) ids.length c2] #[Value.int IntKind.i64 0, Value.slice none 0 0] veh (.slice (some ⟨g, 0, none⟩) ids.length cg) ids → Kx { tmps := #[.agg #[.int .i64 n, .slice a zs.length cap, .slice ao ko co, .slice av kv cv, .int .i64 fine], .agg #[.int .i64 veh, .slice (some ⟨b, off, none⟩) ids.length c2], .pointer (some ⟨w.heap.size, 0, none⟩), .pointer (some ⟨w.heap.size + 1, 0, none⟩), .pointer (some ⟨w.heap.size + 1 + 1, 0, none⟩), .bool false, .pointer (some ⟨kb, 0, none⟩), undef, undef, undef, .agg #[.int .i64 n, .slice a zs.length cap, .slice ao ko co, .slice av kv cv, .int .i64 fine], .agg #[.int .i64 veh, .slice (some ⟨b, off, none⟩) ids.length c2], .bool true, .bool false, undef, .pointer (some ⟨w.heap.size + 1, 0, none⟩), .int .i64 veh, .slice (some ⟨gb, 0, none⟩) 0 0, .pointer (some ⟨w.heap.size + 1, 1, none⟩), .slice (some ⟨b, off, none⟩) ids.length c2, .slice (some ⟨g, 0, none⟩) ids.length cg, .agg #[.int .i64 veh, .slice (some ⟨g, 0, none⟩) ids.length cg], undef, undef, undef, undef, undef, undef, undef, undef, undef, undef, undef, undef, undef, undef, undef, undef, undef, undef, undef], defers := [] } W := by
      intro gb g cg kb W hT
      have T0 : Hid (OX w W w1.heap.size kb #[Value.int IntKind.i64 n, Value.slice a zs.length cap, Value.slice ao ko co, Value.slice av kv cv, Value.int IntKind.i64 fine] #[Value.int IntKind.i64 veh, Value.slice (some ⟨b, off, none⟩) ids.length c2] #[Value.int IntKind.i64 0, Value.slice none 0 0] veh (.slice (some ⟨g, 0, none⟩) ids.length cg) ids) := hT
      clear hT d0 d1
      apply hKx
      clear hKx
      go_wp2_with fail
      go_loopg [7, 8, 9] 130000 (fun gk _ _ _ wr => ∃ (cur : List Int) (g cg : Nat), OX w wr w1.heap.size kb #[Value.int IntKind.i64 n, Value.slice a zs.length cap, Value.slice ao ko co, Value.slice av kv cv, Value.int IntKind.i64 fine] #[Value.int IntKind.i64 veh, Value.slice (some ⟨b, off, none⟩) ids.length c2] #[Value.int IntKind.i64 0, Value.slice none 0 0] veh (.slice (some ⟨g, 0, none⟩) cur.length cg) cur ∧ codeV true n zs os vs ko kv veh cur = 0 ∧ polV n zs os vs ko kv veh cur = xs ∧ rcV n zs os vs ko kv veh cur ≤ gk)
      case atStart => exact ⟨ids, g, cg, T0.out, HZ1.out, HPO.out, HRC.out⟩
      case round =>
        clear T0
        obtain ⟨cur, g, cg, hT, hco, hpo, hrc⟩ := hrel
        have T1 : Hid (OX w wr w1.heap.size kb #[Value.int IntKind.i64 n, Value.slice a zs.length cap, Value.slice ao ko co, Value.slice av kv cv, Value.int IntKind.i64 fine] #[Value.int IntKind.i64 veh, Value.slice (some ⟨b, off, none⟩) ids.length c2] #[Value.int IntKind.i64 0, Value.slice none 0 0] veh (.slice (some ⟨g, 0, none⟩) cur.length cg) cur) := hT
        have CO : Hid (codeV true n zs os vs ko kv veh cur = 0) := hco
        have CO' : Hid (codeV (caseB n zs os vs ko kv fine) n zs os vs ko kv veh cur = 0) := by
          show codeV (caseB n zs os vs ko kv fine) n zs os vs ko kv veh cur = 0
          rw [HC.out]; exact hco
        have PO : Hid (polV n zs os vs ko kv veh cur = xs) := hpo
        have RC : Hid (rcV n zs os vs ko kv veh cur ≤ gk) := hrc
        have hc12 := code12 hco
        clear hT hco hpo hrc
        obtain ⟨hcg, hlc⟩ := own_bd T1.out.o
        obtain ⟨s, HS⟩ : ∃ t, Hid (btV true n zs os vs ko kv veh cur = t) := ⟨_, rfl⟩
        have HBV : Hid (-130000 ≤ s.v ∧ s.v ≤ 0 ∧ (s.f = false → s.v = 0) ∧ (s.f = true → s.v < 0)) := by
          show -130000 ≤ s.v ∧ s.v ≤ 0 ∧ (s.f = false → s.v = 0) ∧ (s.f = true → s.v < 0)
          rw [← HS.out]
          exact bt_v HZ.out
        obtain ⟨c0, c1, c2', c3, c4⟩ := cells5 T1.out.c.1.2.1
        obtain ⟨e0, e1⟩ := cells2 T1.out.2.1
        go_wp2_with fail
        clear c0 c1 c2' c3 c4 e0 e1
        refine (specBestTwoOpt_any n fine veh a ao av (some ⟨g, 0, none⟩) cap ko co kv cv cg zs os vs cur wr (HA.out.below T1.out.b) (HO.out.below T1.out.b) (HV.out.below T1.out.b) (owns_ints T1.out.o) HLO.out HLV.out hko hkv hlc hcg s (by rw [HC.out]; exact HS.out)).mono ?_
        rintro e w2 ⟨rfl, hb⟩
        have T2 : Hid (OX w w2 w1.heap.size kb #[Value.int IntKind.i64 n, Value.slice a zs.length cap, Value.slice ao ko co, Value.slice av kv cv, Value.int IntKind.i64 fine] #[Value.int IntKind.i64 veh, Value.slice (some ⟨b, off, none⟩) ids.length c2] #[Value.int IntKind.i64 0, Value.slice none 0 0] veh (.slice (some ⟨g, 0, none⟩) cur.length cg) cur) := T1.out.below hb
        clear hb T1
        obtain ⟨sf, si, sj, sv⟩ := s
        obtain ⟨e0, e1⟩ := cells2 T2.out.2.1
        cases sf
        · have h0 : sv = 0 := HBV.out.2.2.1 rfl
          subst h0
          have hst : (btV true n zs os vs ko kv veh cur).f = false := by rw [HS.out]
          have hx := PO.out
          rw [polV_stop hst] at hx
          subst hx
          clear hst
          obtain ⟨t0, t1⟩ := cells2 T2.out.c.2
          have tf := fun i => frozen_of_row _ _ i _ _ T2.out.c.2
          simp only [bsA, bsB]
          go_wp2
          refine bodyPost_ret (v := .tuple #[.agg #[.int .i64 veh, .slice (some ⟨g, 0, none⟩) cur.length cg], .bool true]) (by simp [results, Try.results22, go_sem, t0, t1]) rfl ⟨?_, some ⟨g, 0, none⟩, cg, rfl, ?_⟩
          · repeat (first | with_reducible exact T2.out.b | refine Below.setCell ?_ (by simp <;> omega) _)
          · exact owns_base (owns_set (owns_set T2.out.o T2.out.2.2.2.1) T2.out.2.2.2.1) (by have := T2.out.2.2.2.1; omega)
        · have hst : (btV true n zs os vs ko kv veh cur).f = true := by rw [HS.out]
          obtain ⟨a1, a2, a3, a4⟩ := bt_made hst
          have hx := PO.out
          rw [polV_step HZ.out hst] at hx
          rw [HS.out] at a1 a2 a3 a4 hx
          dsimp only at a1 a2 a3 a4 hx
          have hsv : sv < 0 := HBV.out.2.2.2 rfl
          have hsn : (sv == 0) = false := by simp; omega
          have hsn2 : ¬ sv = 0 := by omega
          have htb := turnB_true a2
          obtain ⟨nx, HNX⟩ : ∃ t, Hid (revL cur si sj = t) := ⟨_, rfl⟩
          have HNL : Hid (nx.length = cur.length) := by
            show nx.length = cur.length
            rw [← HNX.out]
            exact revL_length (by omega) (by omega)
          rw [HNX.out] at a1 a4 hx
          have A1 : Hid (codeV true n zs os vs ko kv veh nx = 0) := a1
          have A3 : Hid (trB (caseB n zs os vs ko kv fine) n zs os vs ko kv veh cur si sj = true) := by
            show trB (caseB n zs os vs ko kv fine) n zs os vs ko kv veh cur si sj = true
            rw [HC.out]; exact a3
          have A4 : Hid (rcV n zs os vs ko kv veh nx - rcV n zs os vs ko kv veh cur = sv ∧ sv < 0 ∧ 0 < cur.length ∧ 0 ≤ rcV n zs os vs ko kv veh nx) := ⟨a4, hsv, by omega, (rcV_bd HZ.out os vs ko kv veh nx).1⟩
          have HX2 : Hid (polV n zs os vs ko kv veh nx = xs) := hx
          clear hst hx a1 a2 a3 a4 htb
          obtain ⟨c0, c1, c2', c3, c4⟩ := cells5 T2.out.c.1.2.1
          simp only [bsA, bsB, if_true]
          go_wp2_with fail
          clear c0 c1 c2' c3 c4 e0 e1
          refine (specTwoOpt_any n fine veh a ao av (some ⟨g, 0, none⟩) cap ko co kv cv cg zs os vs cur w2 (HA.out.below T2.out.b) (HO.out.below T2.out.b) (HV.out.below T2.out.b) (owns_ints T2.out.o) HLO.out HLV.out hko hkv hlc hcg (si : Int) (sj : Int) true A3.out _ rfl nx (by rw [← HNX.out]; rfl)).mono ?_
          rintro e w3 ⟨hb, ad2, cc2, rfl, ho⟩
          have hvv : chI true veh = veh := rfl
          rw [hvv]
          clear hvv
          generalize chD true n zs os vs ko kv veh cur (revL cur ((si : Int).toNat) ((sj : Int).toNat)) = DD
          obtain ⟨g2, cg2, e2⟩ : ∃ g2 cg2, Value.slice ad2 nx.length cc2 = .slice (some ⟨g2, 0, none⟩) nx.length cg2 := own_sh ho (fun e => by simp only [Value.slice.injEq] at e; have h1 := HNL.out; have h2 := A4.out; omega) rfl
          simp only [Value.slice.injEq] at e2
          obtain ⟨rfl, _, rfl⟩ := e2
          have T3 : Hid (OX w w3 w1.heap.size kb #[Value.int IntKind.i64 n, Value.slice a zs.length cap, Value.slice ao ko co, Value.slice av kv cv, Value.int IntKind.i64 fine] #[Value.int IntKind.i64 veh, Value.slice (some ⟨b, off, none⟩) ids.length c2] #[Value.int IntKind.i64 0, Value.slice none 0 0] veh (.slice (some ⟨g, 0, none⟩) cur.length cg) cur) := T2.out.below hb
          have O3 : Hid (w3.ownsRow w1.heap.size 2 1 (.slice (some ⟨g2, 0, none⟩) nx.length cc2) nx.length (nx.map (Value.int .i64))) := owns_base ho T2.out.size
          clear hb ho T2
          have T4 : Hid (OX w ((w3.setCell ⟨kb, 0, none⟩ (.int .i64 veh)).setCell ⟨kb, 1, none⟩ (.slice (some ⟨g2, 0, none⟩) nx.length cc2)) w1.heap.size kb #[Value.int IntKind.i64 n, Value.slice a zs.length cap, Value.slice ao ko co, Value.slice av kv cv, Value.int IntKind.i64 fine] #[Value.int IntKind.i64 veh, Value.slice (some ⟨b, off, none⟩) ids.length c2] #[Value.int IntKind.i64 0, Value.slice none 0 0] veh (.slice (some ⟨g2, 0, none⟩) nx.length cc2) nx) := OX.turn T3.out O3.out
          obtain ⟨e0, e1⟩ := cells2 T3.out.2.1
          have ef := fun i => frozen_of_row _ _ i _ _ T3.out.2.1
          go_wp2
          go_roundg (rcV n zs os vs ko kv veh nx).toNat
          case rel => exact ⟨nx, g2, cc2, T4.out, A1.out, HX2.out, by have := A4.out; omega⟩
          case measure => have h1 := A4.out; have h2 := RC.out; omega
    have IT : Hid (IntsAt w1 (some ⟨b, off, none⟩) ids) := HI.out.below C1.out.b
    have ne1 : w.heap.size + 1 ≠ w1.heap.size := by have := C1.out.big; omega
    have ne2 : w.heap.size + 1 ≠ w1.heap.size + 1 := by have := C1.out.big; omega
    go_region_held3 (fun W => W.cell? ⟨w.heap.size + 1, 0, none⟩ = some (.int .i64 veh) ∧ W.cell? ⟨w.heap.size + 1, 1, none⟩ = some (.slice (some ⟨b, off, none⟩) ids.length c2)) (first
      | with_reducible exact kS
      | exact ⟨keep_set (keep_set kS.1 ne2) ne2, keep_set (keep_set kS.2 ne2) ne2⟩
      | exact ⟨keep_set (keep_set kS.1 ne1) ne1, keep_set (keep_set kS.2 ne1) ne1⟩
      | exact ⟨keepB kS.1 (by repeat (first | with_reducible exact Below.refl _ _ | with_reducible refine Below.drew ?_ | with_reducible refine Below.alloc ?_ (by simp <;> omega) _ | with_reducible refine Below.setCell ?_ (by simp <;> omega) _)), keepB kS.2 (by repeat (first | with_reducible exact Below.refl _ _ | with_reducible refine Below.drew ?_ | with_reducible refine Below.alloc ?_ (by simp <;> omega) _ | with_reducible refine Below.setCell ?_ (by simp <;> omega) _))⟩
      | exact ⟨keepB d0 (by repeat (first | with_reducible exact Below.refl _ _ | with_reducible refine Below.drew ?_ | with_reducible refine Below.alloc ?_ (by simp <;> omega) _ | with_reducible refine Below.setCell ?_ (by simp <;> omega) _)), keepB d1 (by repeat (first | with_reducible exact Below.refl _ _ | with_reducible refine Below.drew ?_ | with_reducible refine Below.alloc ?_ (by simp <;> omega) _ | with_reducible refine Below.setCell ?_ (by simp <;> omega) _))⟩) ((first
      | (refine step_append_ints rfl (.tmp 17) (.tmp 19) rfl w1.heap.size (.slice (some ⟨w1.heap.size, 0, none⟩) 0 0) [] 0 rfl (own0a w1) b off ids.length c2 ids rfl rfl (IT.out.below ((Below.refl _ _).alloc (Nat.le_refl _) _).drew) (by omega) (by omega) (by simp) ?_
         intro v' w2 ho hg hn
         obtain ⟨g, cg, rfl⟩ : ∃ g cg, v' = .slice (some ⟨g, 0, none⟩) ids.length cg := own_sh ho (fun e => by simpa using (hn.1 e).1) (by omega)
         have kS : w2.cell? ⟨w.heap.size + 1, 0, none⟩ = some (.int .i64 veh) ∧ w2.cell? ⟨w.heap.size + 1, 1, none⟩ = some (.slice (some ⟨b, off, none⟩) ids.length c2) := grown_keep2 hg (C1.out.alloc _).drew (fun q e => by have := C1.out.big; simp [Value.ownBlock] at e; omega)
         have HG2 : Hid (World.grownBy _ w2 _) := hg
         have HO2 : Hid (w2.ownsRow w1.heap.size 2 1 (.slice (some ⟨g, 0, none⟩) ids.length cg) ids.length (ids.map (Value.int .i64))) := own_len ho rfl
         clear hg ho hn)
      | (refine step_append_ints rfl (.tmp 17) (.tmp 19) rfl w1.heap.size (.slice (some ⟨w1.heap.size, 0, none⟩) 0 0) [] 0 rfl (own0b w1 _) b off ids.length c2 ids rfl rfl (IT.out.below (((Below.refl _ _).alloc (Nat.le_refl _) _).alloc (by simp) _).drew) (by omega) (by omega) (by simp; omega) ?_
         intro v' w2 ho hg hn
         obtain ⟨g, cg, rfl⟩ : ∃ g cg, v' = .slice (some ⟨g, 0, none⟩) ids.length cg := own_sh ho (fun e => by simpa using (hn.1 e).1) (by omega)
         have kS : w2.cell? ⟨w.heap.size + 1, 0, none⟩ = some (.int .i64 veh) ∧ w2.cell? ⟨w.heap.size + 1, 1, none⟩ = some (.slice (some ⟨b, off, none⟩) ids.length c2) := grown_keep2 hg ((C1.out.alloc _).alloc _).drew (fun q e => by have := C1.out.big; simp [Value.ownBlock] at e; omega)
         have HG2 : Hid (World.grownBy _ w2 _) := hg
         obtain ⟨z0, z1⟩ := cells2 (rowb hg)
         have zf := fun i => frozen_of_row _ _ i _ _ (rowb hg)
         have HO2 : Hid (w2.ownsRow w1.heap.size 2 1 (.slice (some ⟨g, 0, none⟩) ids.length cg) ids.length (ids.map (Value.int .i64))) := own_len ho rfl
         clear hg ho hn)
      | (refine step_append_ints rfl (.tmp 17) (.tmp 19) rfl w1.heap.size (.slice (some ⟨w1.heap.size + 1, 0, none⟩) 0 0) [] 0 rfl (own0c w1 _) b off ids.length c2 ids rfl rfl (IT.out.below (((Below.refl _ _).alloc (Nat.le_refl _) _).alloc (by simp) _).drew) (by omega) (by omega) (by simp; omega) ?_
         intro v' w2 ho hg hn
         obtain ⟨g, cg, rfl⟩ : ∃ g cg, v' = .slice (some ⟨g, 0, none⟩) ids.length cg := own_sh ho (fun e => by simpa using (hn.1 e).1) (by omega)
         have kS : w2.cell? ⟨w.heap.size + 1, 0, none⟩ = some (.int .i64 veh) ∧ w2.cell? ⟨w.heap.size + 1, 1, none⟩ = some (.slice (some ⟨b, off, none⟩) ids.length c2) := grown_keep2 hg ((C1.out.alloc _).alloc _).drew (fun q e => by have := C1.out.big; simp [Value.ownBlock] at e; omega)
         have HG2 : Hid (World.grownBy _ w2 _) := hg
         obtain ⟨z0, z1⟩ := cells2 (rowc hg)
         have zf := fun i => frozen_of_row _ _ i _ _ (rowc hg)
         have HO2 : Hid (w2.ownsRow w1.heap.size 2 1 (.slice (some ⟨g, 0, none⟩) ids.length cg) ids.length (ids.map (Value.int .i64))) := own_len ho rfl
         clear hg ho hn)))
    · exact key _ _ _ _ _ (OX.newa C1.out HG2.out HO2.out)
    · exact key _ _ _ _ _ (OX.newb C1.out HG2.out HO2.out)
    · exact key _ _ _ _ _ (OX.newc C1.out HG2.out HO2.out)

end Go.Proofs.Ytplefpmchhcfcaa

namespace Go.Proofs.Ytplefpmchhcfcaa
open Go.RowKit

set_option maxHeartbeats 4000000 in
theorem specPolished_nil (n fine veh : Int) (a ao av : Option Addr) (cap ko co kv cv : Nat) (zs os vs ids : List Int) (hids : ids = []) (w : World) (hA : IntsAt w a zs) (hO : IntsAt w ao os) (hV : IntsAt w av vs) (hlo : os.length = ko * 6) (hlv : vs.length = kv * 5) (hko : ko ≤ 9223372036854775807) (hkv : kv ≤ 9223372036854775807) (ok : Bool) (hok : decide (codeV (caseB n zs os vs ko kv fine) n zs os vs ko kv veh ids = 0) = ok) (xs : List Int) (hxs : chL ok (polV n zs os vs ko kv veh ids) = xs) :
    Calls Try.prog 22 #[.agg #[.int .i64 n, .slice a zs.length cap, .slice ao ko co, .slice av kv cv, .int .i64 fine], .agg #[.int .i64 veh, .slice none 0 0]] w (PolOk w ok veh xs) := by
  have HA : Hid (IntsAt w a zs) := hA
  have HO : Hid (IntsAt w ao os) := hO
  have HV : Hid (IntsAt w av vs) := hV
  have HID : Hid (ids = []) := hids
  have HIL : Hid (ids.length = 0) := by show _ = _; rw [hids]; rfl
  have HLO : Hid _ := hlo
  have HLV : Hid _ := hlv
  clear hA hO hV hlo hlv hids
  have HOK : Hid (decide (codeV (caseB n zs os vs ko kv fine) n zs os vs ko kv veh ids = 0) = ok) := hok
  have HXs : Hid (chL ok (polV n zs os vs ko kv veh ids) = xs) := hxs
  clear hok hxs
  have L3 : Hid (∀ W, IntsAt W a zs → IntsAt W ao os → IntsAt W av vs → Calls Try.prog 34 #[.agg #[.int .i64 n, .slice a zs.length cap, .slice ao ko co, .slice av kv cv, .int .i64 fine], .agg #[.int .i64 veh, .slice none 0 0]] W fun e w' => e = .returned (.bool ok) ∧ Below W.heap.size W w') := fun W h1 h2 h3 => by
    have := l3Ok_any n fine veh a ao av none cap ko co kv cv 0 zs os vs ids W h1 h2 h3 (fun j hj => by rw [HIL.out] at hj; omega) HLO.out HLV.out hko hkv (by rw [HIL.out]; omega) (by rw [HIL.out]; omega) ok HOK.out
    rw [HIL.out] at this
    exact this
  have C0 : Hid (CRR w (((w.alloc (.cells #[Value.int IntKind.i64 n, Value.slice a zs.length cap, Value.slice ao ko co, Value.slice av kv cv, Value.int IntKind.i64 fine] 30)).alloc (.cells #[Value.int IntKind.i64 veh, Value.slice none 0 0] 32)).alloc (.cells #[Value.int IntKind.i64 0, Value.slice none 0 0] 32)) _ _ _) := CRR.new w _ _ _
  go_enter Try.func22, Try.ntmps22
  obtain ⟨c0, c1, c2', c3, c4⟩ := cells5 C0.out.1.2.1
  obtain ⟨d0, d1⟩ := cells2 C0.out.1.2.2
  go_wp2_with fail
  clear c0 c1 c2' c3 c4 d0 d1
  refine (L3.out _ (HA.out.below C0.out.b) (HO.out.below C0.out.b) (HV.out.below C0.out.b)).mono ?_
  rintro e w1 ⟨rfl, hb⟩
  have C1 : Hid (CRR w w1 #[Value.int IntKind.i64 n, Value.slice a zs.length cap, Value.slice ao ko co, Value.slice av kv cv, Value.int IntKind.i64 fine] #[Value.int IntKind.i64 veh, Value.slice none 0 0] #[Value.int IntKind.i64 0, Value.slice none 0 0]) := C0.out.below hb
  clear hb C0
  cases ok
  · have HX : Hid (xs = []) := HXs.out.symm
    obtain ⟨t0, t1⟩ := cells2 C1.out.2
    have tf := fun i => frozen_of_row _ _ i _ _ C1.out.2
    go_wp2
    refine bodyPost_ret (v := .tuple #[.agg #[Value.int IntKind.i64 0, Value.slice none 0 0], .bool false]) (by simp [results, Try.results22, go_sem, t0, t1]) rfl ⟨?_, none, 0, ?_, ?_⟩
    · repeat (first | with_reducible exact C1.out.b | refine Below.setCell ?_ (by simp <;> omega) _)
    · rw [HX.out]; rfl
    · rw [HX.out]; exact World.ownsRow_nil _ _ _ _
  · have hz1 : codeV (caseB n zs os vs ko kv fine) n zs os vs ko kv veh ids = 0 := of_decide_eq_true HOK.out
    have hcb := code_case hz1
    have h12 := code12 hz1
    have HC : Hid (caseB n zs os vs ko kv fine = true) := hcb
    have HZ : Hid (matB n zs = true) := (caseB_parts hcb).1
    have hz2 := hz1
    rw [hcb] at hz2
    have HZ1 : Hid (codeV true n zs os vs ko kv veh ids = 0) := hz2
    have HPO : Hid (polV n zs os vs ko kv veh ids = xs) := HXs.out
    have HRC : Hid (rcV n zs os vs ko kv veh ids ≤ 130000) := (rcV_bd (caseB_parts hcb).1 os vs ko kv veh ids).2
    clear hz1 hcb hz2
    obtain ⟨d0, d1⟩ := cells2 C1.out.1.2.2
    go_wp2_with fail
    rename_i Kx hKx
    have key : ∀ (gb g cg kb : Nat) (W : World), OX w W w1.heap.size kb #[Value.int IntKind.i64 n, Value.slice a zs.length cap, Value.slice ao ko co, Value.slice av kv cv, Value.int IntKind.i64 fine] #[Value.int IntKind.i64 veh, Value.slice none 0 0] #[Value.int IntKind.i64 0, Value.slice none 0 0] veh (.slice (some ⟨g, 0, none⟩) 0 cg) ids → Kx { tmps := #[.agg #[.int .i64 n, .slice a zs.length cap, .slice ao ko co, .slice av kv cv, .int .i64 fine], .agg #[.int .i64 veh, .slice none 0 0], .pointer (some ⟨w.heap.size, 0, none⟩), .pointer (some ⟨w.heap.size + 1, 0, none⟩), .pointer (some ⟨w.heap.size + 1 + 1, 0, none⟩), .bool false, .pointer (some ⟨kb, 0, none⟩), undef, undef, undef, .agg #[.int .i64 n, .slice a zs.length cap, .slice ao ko co, .slice av kv cv, .int .i64 fine], .agg #[.int .i64 veh, .slice none 0 0], .bool true, .bool false, undef, .pointer (some ⟨w.heap.size + 1, 0, none⟩), .int .i64 veh, .slice (some ⟨gb, 0, none⟩) 0 0, .pointer (some ⟨w.heap.size + 1, 1, none⟩), .slice none 0 0, .slice (some ⟨g, 0, none⟩) 0 cg, .agg #[.int .i64 veh, .slice (some ⟨g, 0, none⟩) 0 cg], undef, undef, undef, undef, undef, undef, undef, undef, undef, undef, undef, undef, undef, undef, undef, undef, undef, undef, undef], defers := [] } W := by
      intro gb g cg kb W hT
      have T0 : Hid (OX w W w1.heap.size kb #[Value.int IntKind.i64 n, Value.slice a zs.length cap, Value.slice ao ko co, Value.slice av kv cv, Value.int IntKind.i64 fine] #[Value.int IntKind.i64 veh, Value.slice none 0 0] #[Value.int IntKind.i64 0, Value.slice none 0 0] veh (.slice (some ⟨g, 0, none⟩) 0 cg) ids) := hT
      clear hT d0 d1
      apply hKx
      clear hKx
      go_wp2_with fail
      go_loopg [7, 8, 9] 130000 (fun gk _ _ _ wr => ∃ (cur : List Int) (g cg : Nat), OX w wr w1.heap.size kb #[Value.int IntKind.i64 n, Value.slice a zs.length cap, Value.slice ao ko co, Value.slice av kv cv, Value.int IntKind.i64 fine] #[Value.int IntKind.i64 veh, Value.slice none 0 0] #[Value.int IntKind.i64 0, Value.slice none 0 0] veh (.slice (some ⟨g, 0, none⟩) cur.length cg) cur ∧ codeV true n zs os vs ko kv veh cur = 0 ∧ polV n zs os vs ko kv veh cur = xs ∧ rcV n zs os vs ko kv veh cur ≤ gk)
      case atStart => exact ⟨ids, g, cg, by rw [HIL.out]; exact T0.out, HZ1.out, HPO.out, HRC.out⟩
      case round =>
        clear T0
        obtain ⟨cur, g, cg, hT, hco, hpo, hrc⟩ := hrel
        have T1 : Hid (OX w wr w1.heap.size kb #[Value.int IntKind.i64 n, Value.slice a zs.length cap, Value.slice ao ko co, Value.slice av kv cv, Value.int IntKind.i64 fine] #[Value.int IntKind.i64 veh, Value.slice none 0 0] #[Value.int IntKind.i64 0, Value.slice none 0 0] veh (.slice (some ⟨g, 0, none⟩) cur.length cg) cur) := hT
        have CO : Hid (codeV true n zs os vs ko kv veh cur = 0) := hco
        have CO' : Hid (codeV (caseB n zs os vs ko kv fine) n zs os vs ko kv veh cur = 0) := by
          show codeV (caseB n zs os vs ko kv fine) n zs os vs ko kv veh cur = 0
          rw [HC.out]; exact hco
        have PO : Hid (polV n zs os vs ko kv veh cur = xs) := hpo
        have RC : Hid (rcV n zs os vs ko kv veh cur ≤ gk) := hrc
        have hc12 := code12 hco
        clear hT hco hpo hrc
        obtain ⟨hcg, hlc⟩ := own_bd T1.out.o
        obtain ⟨s, HS⟩ : ∃ t, Hid (btV true n zs os vs ko kv veh cur = t) := ⟨_, rfl⟩
        have HBV : Hid (-130000 ≤ s.v ∧ s.v ≤ 0 ∧ (s.f = false → s.v = 0) ∧ (s.f = true → s.v < 0)) := by
          show -130000 ≤ s.v ∧ s.v ≤ 0 ∧ (s.f = false → s.v = 0) ∧ (s.f = true → s.v < 0)
          rw [← HS.out]
          exact bt_v HZ.out
        obtain ⟨c0, c1, c2', c3, c4⟩ := cells5 T1.out.c.1.2.1
        obtain ⟨e0, e1⟩ := cells2 T1.out.2.1
        go_wp2_with fail
        clear c0 c1 c2' c3 c4 e0 e1
        refine (specBestTwoOpt_any n fine veh a ao av (some ⟨g, 0, none⟩) cap ko co kv cv cg zs os vs cur wr (HA.out.below T1.out.b) (HO.out.below T1.out.b) (HV.out.below T1.out.b) (owns_ints T1.out.o) HLO.out HLV.out hko hkv hlc hcg s (by rw [HC.out]; exact HS.out)).mono ?_
        rintro e w2 ⟨rfl, hb⟩
        have T2 : Hid (OX w w2 w1.heap.size kb #[Value.int IntKind.i64 n, Value.slice a zs.length cap, Value.slice ao ko co, Value.slice av kv cv, Value.int IntKind.i64 fine] #[Value.int IntKind.i64 veh, Value.slice none 0 0] #[Value.int IntKind.i64 0, Value.slice none 0 0] veh (.slice (some ⟨g, 0, none⟩) cur.length cg) cur) := T1.out.below hb
        clear hb T1
        obtain ⟨sf, si, sj, sv⟩ := s
        obtain ⟨e0, e1⟩ := cells2 T2.out.2.1
        cases sf
        · have h0 : sv = 0 := HBV.out.2.2.1 rfl
          subst h0
          have hst : (btV true n zs os vs ko kv veh cur).f = false := by rw [HS.out]
          have hx := PO.out
          rw [polV_stop hst] at hx
          subst hx
          clear hst
          obtain ⟨t0, t1⟩ := cells2 T2.out.c.2
          have tf := fun i => frozen_of_row _ _ i _ _ T2.out.c.2
          simp only [bsA, bsB]
          go_wp2
          refine bodyPost_ret (v := .tuple #[.agg #[.int .i64 veh, .slice (some ⟨g, 0, none⟩) cur.length cg], .bool true]) (by simp [results, Try.results22, go_sem, t0, t1]) rfl ⟨?_, some ⟨g, 0, none⟩, cg, rfl, ?_⟩
          · repeat (first | with_reducible exact T2.out.b | refine Below.setCell ?_ (by simp <;> omega) _)
          · exact owns_base (owns_set (owns_set T2.out.o T2.out.2.2.2.1) T2.out.2.2.2.1) (by have := T2.out.2.2.2.1; omega)
        · have hst : (btV true n zs os vs ko kv veh cur).f = true := by rw [HS.out]
          obtain ⟨a1, a2, a3, a4⟩ := bt_made hst
          have hx := PO.out
          rw [polV_step HZ.out hst] at hx
          rw [HS.out] at a1 a2 a3 a4 hx
          dsimp only at a1 a2 a3 a4 hx
          have hsv : sv < 0 := HBV.out.2.2.2 rfl
          have hsn : (sv == 0) = false := by simp; omega
          have hsn2 : ¬ sv = 0 := by omega
          have htb := turnB_true a2
          obtain ⟨nx, HNX⟩ : ∃ t, Hid (revL cur si sj = t) := ⟨_, rfl⟩
          have HNL : Hid (nx.length = cur.length) := by
            show nx.length = cur.length
            rw [← HNX.out]
            exact revL_length (by omega) (by omega)
          rw [HNX.out] at a1 a4 hx
          have A1 : Hid (codeV true n zs os vs ko kv veh nx = 0) := a1
          have A3 : Hid (trB (caseB n zs os vs ko kv fine) n zs os vs ko kv veh cur si sj = true) := by
            show trB (caseB n zs os vs ko kv fine) n zs os vs ko kv veh cur si sj = true
            rw [HC.out]; exact a3
          have A4 : Hid (rcV n zs os vs ko kv veh nx - rcV n zs os vs ko kv veh cur = sv ∧ sv < 0 ∧ 0 < cur.length ∧ 0 ≤ rcV n zs os vs ko kv veh nx) := ⟨a4, hsv, by omega, (rcV_bd HZ.out os vs ko kv veh nx).1⟩
          have HX2 : Hid (polV n zs os vs ko kv veh nx = xs) := hx
          clear hst hx a1 a2 a3 a4 htb
          obtain ⟨c0, c1, c2', c3, c4⟩ := cells5 T2.out.c.1.2.1
          simp only [bsA, bsB, if_true]
          go_wp2_with fail
          clear c0 c1 c2' c3 c4 e0 e1
          refine (specTwoOpt_any n fine veh a ao av (some ⟨g, 0, none⟩) cap ko co kv cv cg zs os vs cur w2 (HA.out.below T2.out.b) (HO.out.below T2.out.b) (HV.out.below T2.out.b) (owns_ints T2.out.o) HLO.out HLV.out hko hkv hlc hcg (si : Int) (sj : Int) true A3.out _ rfl nx (by rw [← HNX.out]; rfl)).mono ?_
          rintro e w3 ⟨hb, ad2, cc2, rfl, ho⟩
          have hvv : chI true veh = veh := rfl
          rw [hvv]
          clear hvv
          generalize chD true n zs os vs ko kv veh cur (revL cur ((si : Int).toNat) ((sj : Int).toNat)) = DD
          obtain ⟨g2, cg2, e2⟩ : ∃ g2 cg2, Value.slice ad2 nx.length cc2 = .slice (some ⟨g2, 0, none⟩) nx.length cg2 := own_sh ho (fun e => by simp only [Value.slice.injEq] at e; have h1 := HNL.out; have h2 := A4.out; omega) rfl
          simp only [Value.slice.injEq] at e2
          obtain ⟨rfl, _, rfl⟩ := e2
          have T3 : Hid (OX w w3 w1.heap.size kb #[Value.int IntKind.i64 n, Value.slice a zs.length cap, Value.slice ao ko co, Value.slice av kv cv, Value.int IntKind.i64 fine] #[Value.int IntKind.i64 veh, Value.slice none 0 0] #[Value.int IntKind.i64 0, Value.slice none 0 0] veh (.slice (some ⟨g, 0, none⟩) cur.length cg) cur) := T2.out.below hb
          have O3 : Hid (w3.ownsRow w1.heap.size 2 1 (.slice (some ⟨g2, 0, none⟩) nx.length cc2) nx.length (nx.map (Value.int .i64))) := owns_base ho T2.out.size
          clear hb ho T2
          have T4 : Hid (OX w ((w3.setCell ⟨kb, 0, none⟩ (.int .i64 veh)).setCell ⟨kb, 1, none⟩ (.slice (some ⟨g2, 0, none⟩) nx.length cc2)) w1.heap.size kb #[Value.int IntKind.i64 n, Value.slice a zs.length cap, Value.slice ao ko co, Value.slice av kv cv, Value.int IntKind.i64 fine] #[Value.int IntKind.i64 veh, Value.slice none 0 0] #[Value.int IntKind.i64 0, Value.slice none 0 0] veh (.slice (some ⟨g2, 0, none⟩) nx.length cc2) nx) := OX.turn T3.out O3.out
          obtain ⟨e0, e1⟩ := cells2 T3.out.2.1
          have ef := fun i => frozen_of_row _ _ i _ _ T3.out.2.1
          go_wp2
          go_roundg (rcV n zs os vs ko kv veh nx).toNat
          case rel => exact ⟨nx, g2, cc2, T4.out, A1.out, HX2.out, by have := A4.out; omega⟩
          case measure => have h1 := A4.out; have h2 := RC.out; omega
    have ne1 : w.heap.size + 1 ≠ w1.heap.size := by have := C1.out.big; omega
    have ne2 : w.heap.size + 1 ≠ w1.heap.size + 1 := by have := C1.out.big; omega
    go_region_held3 (fun W => W.cell? ⟨w.heap.size + 1, 0, none⟩ = some (.int .i64 veh) ∧ W.cell? ⟨w.heap.size + 1, 1, none⟩ = some (.slice none 0 0)) (first
      | with_reducible exact kS
      | with_reducible exact ⟨keep_set (keep_set kS.1 ne2) ne2, keep_set (keep_set kS.2 ne2) ne2⟩
      | with_reducible exact ⟨keep_set (keep_set kS.1 ne1) ne1, keep_set (keep_set kS.2 ne1) ne1⟩
      | with_reducible exact ⟨keepB kS.1 (by repeat (first | with_reducible exact Below.refl _ _ | with_reducible refine Below.drew ?_ | with_reducible refine Below.alloc ?_ (by simp <;> omega) _ | with_reducible refine Below.setCell ?_ (by simp <;> omega) _)), keepB kS.2 (by repeat (first | with_reducible exact Below.refl _ _ | with_reducible refine Below.drew ?_ | with_reducible refine Below.alloc ?_ (by simp <;> omega) _ | with_reducible refine Below.setCell ?_ (by simp <;> omega) _))⟩
      | with_reducible exact ⟨keepB d0 (by repeat (first | with_reducible exact Below.refl _ _ | with_reducible refine Below.drew ?_ | with_reducible refine Below.alloc ?_ (by simp <;> omega) _ | with_reducible refine Below.setCell ?_ (by simp <;> omega) _)), keepB d1 (by repeat (first | with_reducible exact Below.refl _ _ | with_reducible refine Below.drew ?_ | with_reducible refine Below.alloc ?_ (by simp <;> omega) _ | with_reducible refine Below.setCell ?_ (by simp <;> omega) _))⟩) ((first
      | (refine step_append_no (w := (w1.alloc (Obj.cells #[] 2)).drew) rfl (.tmp 17) (.tmp 19) rfl w1.heap.size 0 0 rfl rfl (Nat.le_refl _) ?_
         intro w2 hw2
         have HG2 : Hid (World.grownBy (w1.alloc (Obj.cells #[] 2)).drew w2 (some w1.heap.size)) := hw2 ▸ World.grownBy.refl _ _
         have HO2 : Hid (World.ownsRow w2 w1.heap.size 2 1 (.slice (some ⟨w1.heap.size, 0, none⟩) 0 0) ids.length (ids.map (Value.int .i64))) := by rw [HID.out]; exact hw2 ▸ (own0a w1)
         clear hw2
         have kS := grown_keep2 HG2.out (C1.out.alloc _).drew (fun q e => by have := C1.out.big; simp at e; omega))
      | (refine step_append_no (w := ((w1.alloc (Obj.cells #[] 2)).alloc (Obj.cells #[Value.int IntKind.i64 0, Value.slice none 0 0] 32)).drew) rfl (.tmp 17) (.tmp 19) rfl w1.heap.size 0 0 rfl rfl (Nat.le_refl _) ?_
         intro w2 hw2
         have HG2 : Hid (World.grownBy ((w1.alloc (Obj.cells #[] 2)).alloc (Obj.cells #[Value.int IntKind.i64 0, Value.slice none 0 0] 32)).drew w2 (some w1.heap.size)) := hw2 ▸ World.grownBy.refl _ _
         have HO2 : Hid (World.ownsRow w2 w1.heap.size 2 1 (.slice (some ⟨w1.heap.size, 0, none⟩) 0 0) ids.length (ids.map (Value.int .i64))) := by rw [HID.out]; exact hw2 ▸ (own0b w1 _)
         clear hw2
         have kS := grown_keep2 HG2.out ((C1.out.alloc _).alloc _).drew (fun q e => by have := C1.out.big; simp at e; omega)
         obtain ⟨z0, z1⟩ := cells2 (rowb HG2.out)
         have zf := fun i => frozen_of_row _ _ i _ _ (rowb HG2.out))
      | (refine step_append_no (w := ((w1.alloc (Obj.cells #[Value.int IntKind.i64 0, Value.slice none 0 0] 32)).alloc (Obj.cells #[] 2)).drew) rfl (.tmp 17) (.tmp 19) rfl (w1.heap.size + 1) 0 0 rfl rfl (Nat.le_refl _) ?_
         intro w2 hw2
         have HG2 : Hid (World.grownBy ((w1.alloc (Obj.cells #[Value.int IntKind.i64 0, Value.slice none 0 0] 32)).alloc (Obj.cells #[] 2)).drew w2 (some (w1.heap.size + 1))) := hw2 ▸ World.grownBy.refl _ _
         have HO2 : Hid (World.ownsRow w2 w1.heap.size 2 1 (.slice (some ⟨(w1.heap.size + 1), 0, none⟩) 0 0) ids.length (ids.map (Value.int .i64))) := by rw [HID.out]; exact hw2 ▸ (own0c w1 _)
         clear hw2
         have kS := grown_keep2 HG2.out ((C1.out.alloc _).alloc _).drew (fun q e => by have := C1.out.big; simp at e; omega)
         obtain ⟨z0, z1⟩ := cells2 (rowc HG2.out)
         have zf := fun i => frozen_of_row _ _ i _ _ (rowc HG2.out))))
    · exact key _ _ _ _ _ (OX.newa C1.out HG2.out HO2.out)
    · exact key _ _ _ _ _ (OX.newb C1.out HG2.out HO2.out)
    · exact key _ _ _ _ _ (OX.newc C1.out HG2.out HO2.out)

end Go.Proofs.Ytplefpmchhcfcaa
