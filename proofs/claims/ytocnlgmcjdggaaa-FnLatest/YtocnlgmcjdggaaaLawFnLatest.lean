import Derived.Test.YtocnlgmcjdggaaaPack0
import Derived.Test.YtocnlgmcjdggaaaPack2
import Derived.Test.YtocnlgmcjdggaaaPack11
import Derived.Test.YtocnlgmcjdggaaaPack14
import Derived.Test.YtocnlgmcjdggaaaPack15
import Derived.Test.YtocnlgmcjdggaaaPack16
import Derived.Test.YtocnlgmcjdggaaaImplLatest
import Derived.Test.YtocnlgmcjdggaaaSpecLatest
import Derived.Test.YtocnlgmcjdggaaaPack21
import Derived.Deep.CutRange
namespace Go.Proofs.Ytocnlgmcjdggaaa
open Go.RowKit

set_option maxRecDepth 10000 in
set_option maxHeartbeats 400000 in
theorem lawFnLatest_big (a : Option Addr) (c len : Nat) (w : World) (hl : len ≤ 9223372036854775807) (h : 1048576 < len) :
    Calls Try.prog 5 #[.slice a len c] w fun e w' => e = .returned (.bool true) ∧ Below w.heap.size w w' := by
  have hd : decide (1048576 < len) = true := decide_eq_true h
  go_enter Try.func5, Try.ntmps5
  go_wp2_with (go_at_call 7; refine (big_any a c len w hl).mono ?_; rintro e w1 ⟨rfl, hw1⟩; subst w1; rw [hd])
  go_ret
  exact ⟨rfl, Below.refl _ _⟩

/-- Where a route can't be driven no starts at all keep its hours either. -/
theorem keeps_none {c : Bool} {n : Int} {zs os vs : List Int} {ko kv : Nat} {veh : Int} {ids : List Int} (h : codeV c n zs os vs ko kv veh ids ≠ 0) : keepsV c n zs os vs ko kv veh ids [] = false := by
  by_cases h1 : formV c vs os kv ko veh ids = 0 ∧ ([] : List Int).length = ids.length
  · rw [keepsV_yes h1.1 h1.2]
    cases hk : keptB n zs (rosOf os ko ids) ids.length [] (fnd5F vs kv veh 1) (fnd5F vs kv veh 3) (fnd5F vs kv veh 4)
    · rfl
    · have h2 := kept_hours hk
      rw [← codeV_hours h1.1] at h2
      exact absurd h2 h
  · exact keepsV_no h1
theorem late_keeps {n : Int} {zs os vs : List Int} {ko kv : Nat} {veh : Int} {ids : List Int} (h : codeV true n zs os vs ko kv veh ids = 0) : keepsV true n zs os vs ko kv veh ids (latL n zs (rosOf os ko ids) ids.length (fnd5F vs kv veh 1) (fnd5F vs kv veh 4)) = true ∧ fnd5F vs kv veh 3 ≤ leaveV n zs (rosOf os ko ids) ids.length (fnd5F vs kv veh 1) (fnd5F vs kv veh 4) := by
  obtain ⟨h1, h2⟩ := codeV_zero h
  rw [keepsV_yes h1 (latL_length _ _ _ _ _ _)]
  exact late_kept h2

set_option maxRecDepth 10000 in
set_option maxHeartbeats 8000000 in
theorem lawFnLatest (a : Option Addr) (ca : Nat) (bs : List Int) (w : World) (hA : CodeAt w a bs) (hl : bs.length ≤ 1048576) :
    Calls Try.prog 5 #[.slice a bs.length ca] w fun e w' => e = .returned (.bool true) ∧ Below w.heap.size w w' := by
  have HA : Hid (CodeAt w a bs) := hA
  clear hA
  have hd : decide (1048576 < bs.length) = false := decide_eq_false (by omega)
  go_enter Try.func5, Try.ntmps5
  go_wp2_with fail
  refine (big_any a ca bs.length w (by omega)).mono ?_
  rintro e w1 ⟨rfl, hw1⟩
  subst w1
  rw [hd]
  clear hd
  go_wp2_with fail
  refine (drawLatest_any a ca bs w HA.out hl).mono ?_
  rintro e w1 ⟨n, g, zl, cg, go, ko, co, gv, kv, cv, zs, O, V, L, fi, veh, ao, m, co2, rfl, ⟨hz, hO, hV, hko1, hko5, hkv1, hkv3⟩, ⟨hm, hm4, hmc⟩, hb, iz, io, iv, il, -⟩
  obtain ⟨N, HLb⟩ : ∃ v, Hid (bs.length = v) := ⟨_, rfl⟩
  rw [HLb.out] at hl ⊢
  have HM : Hid (L.length = m) := hm
  have HZ : Hid (zs.length = zl) := hz
  have HO : Hid (O.length = ko * 6) := hO
  have HV : Hid (V.length = kv * 5) := hV
  have K1 : Hid (KC w ((w1.alloc (.cells #[.int .i64 n, .slice (some ⟨g, 0, none⟩) zl cg, .slice (some ⟨go, 0, none⟩) ko co, .slice (some ⟨gv, 0, none⟩) kv cv, .int .i64 fi] 30)).alloc (.cells #[.int .i64 veh, .slice ao m co2] 32)) w1.heap.size (w1.heap.size + 1) #[.int .i64 n, .slice (some ⟨g, 0, none⟩) zl cg, .slice (some ⟨go, 0, none⟩) ko co, .slice (some ⟨gv, 0, none⟩) kv cv, .int .i64 fi] #[.int .i64 veh, .slice ao m co2] g go gv zs O V ao L) := by
    have ha : Below w1.heap.size w1 ((w1.alloc (.cells #[.int .i64 n, .slice (some ⟨g, 0, none⟩) zl cg, .slice (some ⟨go, 0, none⟩) ko co, .slice (some ⟨gv, 0, none⟩) kv cv, .int .i64 fi] 30)).alloc (.cells #[.int .i64 veh, .slice ao m co2] 32)) := ((Below.refl _ _).alloc (Nat.le_refl _) _).alloc (by simp) _
    exact ⟨hb.trans (ha.mono hb.size), heap_alloc2_old _ _ _, heap_alloc2_new _ _ _, iz.below ha, io.below ha, iv.below ha, il.below ha⟩
  clear hz hO hV hm hb iz io iv il
  obtain ⟨cb, HCB⟩ : ∃ v, Hid (caseB n zs O V ko kv fi = v) := ⟨_, rfl⟩
  have ILA : Hid (∀ W k kr, KC w W k kr #[.int .i64 n, .slice (some ⟨g, 0, none⟩) zl cg, .slice (some ⟨go, 0, none⟩) ko co, .slice (some ⟨gv, 0, none⟩) kv cv, .int .i64 fi] #[.int .i64 veh, .slice ao m co2] g go gv zs O V ao L → Calls Try.prog 19 #[.agg #[.int .i64 n, .slice (some ⟨g, 0, none⟩) zl cg, .slice (some ⟨go, 0, none⟩) ko co, .slice (some ⟨gv, 0, none⟩) kv cv, .int .i64 fi], .agg #[.int .i64 veh, .slice ao m co2]] W fun e w' => Below W.heap.size W w' ∧ ((codeV cb n zs O V ko kv veh L ≠ 0 ∧ e = .returned (.tuple #[.slice none 0 0, .int .i64 (-1)])) ∨ (codeV cb n zs O V ko kv veh L = 0 ∧ ∃ gs, e = .returned (.tuple #[.slice (some ⟨gs, 0, none⟩) m m, .int .i64 (leaveV n zs (rosOf O ko L) m (fnd5F V kv veh 1) (fnd5F V kv veh 4))]) ∧ IntsAt w' (some ⟨gs, 0, none⟩) (latL n zs (rosOf O ko L) m (fnd5F V kv veh 1) (fnd5F V kv veh 4))))) := fun W k kr h => by
    have := implLatest_any n fi veh (some ⟨g, 0, none⟩) (some ⟨go, 0, none⟩) (some ⟨gv, 0, none⟩) ao cg ko co kv cv co2 zs O V L W h.iz h.io h.iv h.il HO.out HV.out (by omega) (by omega) (by rw [HM.out]; omega) (by rw [HM.out]; exact hmc)
    rw [HZ.out, HM.out, HCB.out] at this
    refine this.mono ?_
    rintro e w' ⟨hb, h9 | ⟨h9, gs, h8, h7⟩⟩
    · exact ⟨hb, .inl h9⟩
    · exact ⟨hb, .inr ⟨h9, gs, h8, owns_ints h7⟩⟩
  have SLA : Hid (∀ W k kr, KC w W k kr #[.int .i64 n, .slice (some ⟨g, 0, none⟩) zl cg, .slice (some ⟨go, 0, none⟩) ko co, .slice (some ⟨gv, 0, none⟩) kv cv, .int .i64 fi] #[.int .i64 veh, .slice ao m co2] g go gv zs O V ao L → Calls Try.prog 21 #[.agg #[.int .i64 n, .slice (some ⟨g, 0, none⟩) zl cg, .slice (some ⟨go, 0, none⟩) ko co, .slice (some ⟨gv, 0, none⟩) kv cv, .int .i64 fi], .agg #[.int .i64 veh, .slice ao m co2]] W fun e w' => Below W.heap.size W w' ∧ ((codeV cb n zs O V ko kv veh L ≠ 0 ∧ e = .returned (.tuple #[.slice none 0 0, .int .i64 (-1)])) ∨ (codeV cb n zs O V ko kv veh L = 0 ∧ ∃ gs, e = .returned (.tuple #[.slice (some ⟨gs, 0, none⟩) m m, .int .i64 (leaveV n zs (rosOf O ko L) m (fnd5F V kv veh 1) (fnd5F V kv veh 4))]) ∧ IntsAt w' (some ⟨gs, 0, none⟩) (latL n zs (rosOf O ko L) m (fnd5F V kv veh 1) (fnd5F V kv veh 4))))) := fun W k kr h => by
    have := specLatest_any n fi veh (some ⟨g, 0, none⟩) (some ⟨go, 0, none⟩) (some ⟨gv, 0, none⟩) ao cg ko co kv cv co2 zs O V L W h.iz h.io h.iv h.il HO.out HV.out (by omega) (by omega) (by rw [HM.out]; omega) (by rw [HM.out]; exact hmc)
    rw [HZ.out, HM.out, HCB.out] at this
    exact this
  have IOK : Hid (∀ v, decide (codeV cb n zs O V ko kv veh L = 0) = v → ∀ W k kr, KC w W k kr #[.int .i64 n, .slice (some ⟨g, 0, none⟩) zl cg, .slice (some ⟨go, 0, none⟩) ko co, .slice (some ⟨gv, 0, none⟩) kv cv, .int .i64 fi] #[.int .i64 veh, .slice ao m co2] g go gv zs O V ao L → Calls Try.prog 23 #[.agg #[.int .i64 n, .slice (some ⟨g, 0, none⟩) zl cg, .slice (some ⟨go, 0, none⟩) ko co, .slice (some ⟨gv, 0, none⟩) kv cv, .int .i64 fi], .agg #[.int .i64 veh, .slice ao m co2]] W fun e w' => e = .returned (.bool v) ∧ Below W.heap.size W w') := fun v hv W k kr h => by
    have := lawOk_any n fi veh (some ⟨g, 0, none⟩) (some ⟨go, 0, none⟩) (some ⟨gv, 0, none⟩) ao cg ko co kv cv co2 zs O V L W h.iz h.io h.iv h.il HO.out HV.out (by omega) (by omega) (by rw [HM.out]; omega) (by rw [HM.out]; exact hmc) v (by rw [HCB.out]; exact hv)
    rw [HZ.out, HM.out] at this
    exact this
  obtain ⟨d0, d1, d2, d3, d4⟩ := cells5z K1.out.b1
  obtain ⟨e0, e1⟩ := cells2 K1.out.b2
  go_wp2_with fail
  generalize (w1.alloc (.cells #[.int .i64 n, .slice (some ⟨g, 0, none⟩) zl cg, .slice (some ⟨go, 0, none⟩) ko co, .slice (some ⟨gv, 0, none⟩) kv cv, .int .i64 fi] 30)).alloc (.cells #[.int .i64 veh, .slice ao m co2] 32) = W1 at *
  obtain ⟨k, HK⟩ : ∃ v, Hid (w1.heap.size = v) := ⟨_, rfl⟩
  rw [HK.out] at K1 d0 d1 d2 d3 d4 e0 e1 ⊢
  obtain ⟨kr, HKR⟩ : ∃ v, Hid (k + 1 = v) := ⟨_, rfl⟩
  rw [HKR.out] at K1 e0 e1 ⊢
  refine (ILA.out _ _ _ K1.out).mono ?_
  rintro e w2 ⟨hb, ⟨hc0, rfl⟩ | ⟨hc0, gs, rfl, hls⟩⟩
  · have K2 : Hid (KC w w2 k kr #[.int .i64 n, .slice (some ⟨g, 0, none⟩) zl cg, .slice (some ⟨go, 0, none⟩) ko co, .slice (some ⟨gv, 0, none⟩) kv cv, .int .i64 fi] #[.int .i64 veh, .slice ao m co2] g go gv zs O V ao L) := K1.out.below hb
    have HCO : Hid (codeV cb n zs O V ko kv veh L ≠ 0) := hc0
    clear hb K1 d0 d1 d2 d3 d4 e0 e1
    obtain ⟨d0, d1, d2, d3, d4⟩ := cells5z K2.out.b1
    obtain ⟨e0, e1⟩ := cells2 K2.out.b2
    go_wp2_with fail
    refine (SLA.out _ _ _ K2.out).mono ?_
    rintro e w3 ⟨hb, ⟨hc1, rfl⟩ | ⟨hc1, _⟩⟩
    · have K3 : Hid (KC w w3 k kr #[.int .i64 n, .slice (some ⟨g, 0, none⟩) zl cg, .slice (some ⟨go, 0, none⟩) ko co, .slice (some ⟨gv, 0, none⟩) kv cv, .int .i64 fi] #[.int .i64 veh, .slice ao m co2] g go gv zs O V ao L) := K2.out.below hb
      clear hb K2 d0 d1 d2 d3 d4 e0 e1 hc0 hc1
      have SMI : Hid (∀ W : World, Calls Try.prog 22 #[.slice none 0 0, .slice none 0 0] W fun e w' => e = .returned (.bool true) ∧ Below W.heap.size W w') := fun W => by
        have := sameInts_any none none 0 0 [] [] W (fun j hj => by simp at hj) (fun j hj => by simp at hj) (by simp)
        simpa using this
      have IST : Hid (∀ W : World, Calls Try.prog 15 #[.slice none 0 0] W fun e w' => ∃ g cg, e = .returned (.slice (some ⟨g, 0, none⟩) 0 cg) ∧ Below W.heap.size W w') := fun W => by
        refine (startsOf_any none 0 0 [] W (fun j hj => by simp at hj) rfl (by omega)).mono ?_
        rintro e w' ⟨g9, c9, rfl, hb9, ho9⟩
        exact ⟨g9, c9, rfl, hb9⟩
      have SKE : Hid (∀ W gq cq, KC w W k kr #[.int .i64 n, .slice (some ⟨g, 0, none⟩) zl cg, .slice (some ⟨go, 0, none⟩) ko co, .slice (some ⟨gv, 0, none⟩) kv cv, .int .i64 fi] #[.int .i64 veh, .slice ao m co2] g go gv zs O V ao L → Calls Try.prog 18 #[.agg #[.int .i64 n, .slice (some ⟨g, 0, none⟩) zl cg, .slice (some ⟨go, 0, none⟩) ko co, .slice (some ⟨gv, 0, none⟩) kv cv, .int .i64 fi], .agg #[.int .i64 veh, .slice ao m co2], .slice (some ⟨gq, 0, none⟩) 0 cq] W fun e w' => e = .returned (.bool false) ∧ Below W.heap.size W w') := fun W gq cq h => by
        have := specKeeps_any n fi veh (some ⟨g, 0, none⟩) (some ⟨go, 0, none⟩) (some ⟨gv, 0, none⟩) ao cg ko co kv cv co2 (some ⟨gq, 0, none⟩) cq zs O V L [] W h.iz h.io h.iv h.il HO.out HV.out (by omega) (by omega) (by rw [HM.out]; omega) (by rw [HM.out]; exact hmc) (fun j hj => by simp at hj)
        rw [HZ.out, HM.out, HCB.out, keeps_none HCO.out] at this
        exact this
      have KS : Hid (∀ W, KC w W k kr #[.int .i64 n, .slice (some ⟨g, 0, none⟩) zl cg, .slice (some ⟨go, 0, none⟩) ko co, .slice (some ⟨gv, 0, none⟩) kv cv, .int .i64 fi] #[.int .i64 veh, .slice ao m co2] g go gv zs O V ao L → W.cell? ⟨k, 0, none⟩ = some (.int .i64 n) ∧ W.cell? ⟨k, 1, none⟩ = some (.slice (some ⟨g, 0, none⟩) zl cg) ∧ W.cell? ⟨k, 2, none⟩ = some (.slice (some ⟨go, 0, none⟩) ko co) ∧ W.cell? ⟨k, 3, none⟩ = some (.slice (some ⟨gv, 0, none⟩) kv cv) ∧ W.cell? ⟨k, 4, none⟩ = some (.int .i64 fi) ∧ W.cell? ⟨kr, 0, none⟩ = some (.int .i64 veh) ∧ W.cell? ⟨kr, 1, none⟩ = some (.slice ao m co2)) := fun W h => by
        obtain ⟨d0, d1, d2, d3, d4⟩ := cells5z h.b1
        obtain ⟨e0, e1⟩ := cells2 h.b2
        exact ⟨d0, d1, d2, d3, d4, e0, e1⟩
      go_wp2_with fail
      refine (SMI.out _).mono ?_
      rintro e w4 ⟨rfl, hb⟩
      have K4 : Hid (KC w w4 k kr #[.int .i64 n, .slice (some ⟨g, 0, none⟩) zl cg, .slice (some ⟨go, 0, none⟩) ko co, .slice (some ⟨gv, 0, none⟩) kv cv, .int .i64 fi] #[.int .i64 veh, .slice ao m co2] g go gv zs O V ao L) := K3.out.below hb
      clear hb K3
      go_wp2_with fail
      have K5 : Hid (KC w w4.drew k kr #[.int .i64 n, .slice (some ⟨g, 0, none⟩) zl cg, .slice (some ⟨go, 0, none⟩) ko co, .slice (some ⟨gv, 0, none⟩) kv cv, .int .i64 fi] #[.int .i64 veh, .slice ao m co2] g go gv zs O V ao L) := K4.out.below (Below.refl _ _).drew
      have kS := KS.out _ K5.out
      have hm1 : ((-1 : Int) == -1) = true := by decide
      have hff : (false == false) = true := rfl
      refine wp_region_held_drew (S := (fun W => W.cell? ⟨k, 0, none⟩ = some (.int .i64 n) ∧ W.cell? ⟨k, 1, none⟩ = some (.slice (some ⟨g, 0, none⟩) zl cg) ∧ W.cell? ⟨k, 2, none⟩ = some (.slice (some ⟨go, 0, none⟩) ko co) ∧ W.cell? ⟨k, 3, none⟩ = some (.slice (some ⟨gv, 0, none⟩) kv cv) ∧ W.cell? ⟨k, 4, none⟩ = some (.int .i64 fi) ∧ W.cell? ⟨kr, 0, none⟩ = some (.int .i64 veh) ∧ W.cell? ⟨kr, 1, none⟩ = some (.slice ao m co2))) (by kernel_rfl) ?_ (fun hHeld => ?_)
      · exact kS
      refine wpAnyH_take (i := 0) (v := ?_) rfl (by kernel_rfl) (by kernel_rfl) (by kernel_rfl) (fun _ _ _ h => h) (Or.inl ⟨by kernel_rfl, ?_⟩) hHeld ?_
      rotate_left 1
      · intro w hSw
        (try dsimp only at hSw)
        (try go_split_ands)
        go_simp
        all_goals (first | done | with_reducible rfl)
      change wpAnyH _ _ _ _ _ _ _ (Act.put _ (some 48) _) _
      simp only [Act.put, List.setIfInBounds_toArray, List.set_cons_zero, List.set_cons_succ]
      refine wpAnyH_take (i := 1) (v := ?_) rfl (by kernel_rfl) (by kernel_rfl) (by kernel_rfl) (fun _ _ _ h => h) (Or.inl ⟨by kernel_rfl, ?_⟩) hHeld ?_
      rotate_left 1
      · intro w hSw
        (try dsimp only at hSw)
        (try go_split_ands)
        go_simp
        all_goals (first | done | with_reducible rfl)
      change wpAnyH _ _ _ _ _ _ _ (Act.put _ (some 49) _) _
      simp only [Act.put, List.setIfInBounds_toArray, List.set_cons_zero, List.set_cons_succ]
      refine wpAnyH_ready (rs := [2]) (by kernel_rfl) (by simp) ?_
      refine AllReadyH.cons rfl (fun K hK => ?_) AllReadyH.nil
      go_simp
      refine (SMI.out w4.drew).mono ?_
      rintro e wa ⟨rfl, hb⟩
      have KA : Hid (KC w wa k kr #[.int .i64 n, .slice (some ⟨g, 0, none⟩) zl cg, .slice (some ⟨go, 0, none⟩) ko co, .slice (some ⟨gv, 0, none⟩) kv cv, .int .i64 fi] #[.int .i64 veh, .slice ao m co2] g go gv zs O V ao L) := K5.out.below hb
      clear hb
      (try go_wp2_with fail)
      refine hK.out _ _ ?_ (fun hHeld => ?_)
      · exact KS.out _ KA.out
      clear hK K
      (try simp only [Act.put, List.setIfInBounds_toArray, List.set_cons_zero, List.set_cons_succ])
      refine wpAnyH_take (i := 3) (v := ?_) rfl (by kernel_rfl) (by kernel_rfl) (by kernel_rfl) (fun _ _ _ h => h) (Or.inl ⟨by kernel_rfl, ?_⟩) hHeld ?_
      rotate_left 1
      · intro w hSw
        (try dsimp only at hSw)
        (try go_split_ands)
        go_simp
        all_goals (first | done | with_reducible rfl)
      change wpAnyH _ _ _ _ _ _ _ (Act.put _ (some 51) _) _
      simp only [Act.put, List.setIfInBounds_toArray, List.set_cons_zero, List.set_cons_succ]
      refine wpAnyH_take (i := 4) (v := ?_) rfl (by kernel_rfl) (by kernel_rfl) (by kernel_rfl) (fun _ _ _ h => h) (Or.inl ⟨by kernel_rfl, ?_⟩) hHeld ?_
      rotate_left 1
      · intro w hSw
        (try dsimp only at hSw)
        (try go_split_ands)
        go_simp
        all_goals (first | done | with_reducible rfl)
      change wpAnyH _ _ _ _ _ _ _ (Act.put _ (some 52) _) _
      simp only [Act.put, List.setIfInBounds_toArray, List.set_cons_zero, List.set_cons_succ]
      refine wpAnyH_take (i := 5) (v := ?_) rfl (by kernel_rfl) (by kernel_rfl) (by kernel_rfl) (fun _ _ _ h => h) (Or.inl ⟨by kernel_rfl, ?_⟩) hHeld ?_
      rotate_left 1
      · intro w hSw
        (try dsimp only at hSw)
        (try go_split_ands)
        go_simp
        all_goals (first | done | with_reducible rfl)
      change wpAnyH _ _ _ _ _ _ _ (Act.put _ (some 53) _) _
      simp only [Act.put, List.setIfInBounds_toArray, List.set_cons_zero, List.set_cons_succ]
      refine wpAnyH_take (i := 6) (v := ?_) rfl (by kernel_rfl) (by kernel_rfl) (by kernel_rfl) (fun _ _ _ h => h) (Or.inl ⟨by kernel_rfl, ?_⟩) hHeld ?_
      rotate_left 1
      · intro w hSw
        (try dsimp only at hSw)
        (try go_split_ands)
        go_simp
        all_goals (first | done | with_reducible rfl)
      change wpAnyH _ _ _ _ _ _ _ (Act.put _ (some 54) _) _
      simp only [Act.put, List.setIfInBounds_toArray, List.set_cons_zero, List.set_cons_succ]
      refine wpAnyH_take (i := 7) (v := ?_) rfl (by kernel_rfl) (by kernel_rfl) (by kernel_rfl) (fun _ _ _ h => h) (Or.inl ⟨by kernel_rfl, ?_⟩) hHeld ?_
      rotate_left 1
      · intro w hSw
        (try dsimp only at hSw)
        (try go_split_ands)
        go_simp
        all_goals (first | done | with_reducible rfl)
      change wpAnyH _ _ _ _ _ _ _ (Act.put _ (some 55) _) _
      simp only [Act.put, List.setIfInBounds_toArray, List.set_cons_zero, List.set_cons_succ]
      refine wpAnyH_take (i := 8) (v := ?_) rfl (by kernel_rfl) (by kernel_rfl) (by kernel_rfl) (fun _ _ _ h => h) (Or.inl ⟨by kernel_rfl, ?_⟩) hHeld ?_
      rotate_left 1
      · intro w hSw
        (try dsimp only at hSw)
        (try go_split_ands)
        go_simp
        all_goals (first | done | with_reducible rfl)
      change wpAnyH _ _ _ _ _ _ _ (Act.put _ (some 56) _) _
      simp only [Act.put, List.setIfInBounds_toArray, List.set_cons_zero, List.set_cons_succ]
      refine wpAnyH_take (i := 9) (v := ?_) rfl (by kernel_rfl) (by kernel_rfl) (by kernel_rfl) (fun _ _ _ h => h) (Or.inl ⟨by kernel_rfl, ?_⟩) hHeld ?_
      rotate_left 1
      · intro w hSw
        (try dsimp only at hSw)
        (try go_split_ands)
        go_simp
        all_goals (first | done | with_reducible rfl)
      change wpAnyH _ _ _ _ _ _ _ (Act.put _ (some 57) _) _
      simp only [Act.put, List.setIfInBounds_toArray, List.set_cons_zero, List.set_cons_succ]
      refine wpAnyH_take (i := 10) (v := ?_) rfl (by kernel_rfl) (by kernel_rfl) (by kernel_rfl) (fun _ _ _ h => h) (Or.inl ⟨by kernel_rfl, ?_⟩) hHeld ?_
      rotate_left 1
      · intro w hSw
        (try dsimp only at hSw)
        (try go_split_ands)
        go_simp
        all_goals (first | done | with_reducible rfl)
      change wpAnyH _ _ _ _ _ _ _ (Act.put _ (some 58) _) _
      simp only [Act.put, List.setIfInBounds_toArray, List.set_cons_zero, List.set_cons_succ]
      refine wpAnyH_take (i := 12) (v := ?_) rfl (by kernel_rfl) (by kernel_rfl) (by kernel_rfl) (fun _ _ _ h => h) (Or.inl ⟨by kernel_rfl, ?_⟩) hHeld ?_
      rotate_left 1
      · intro w hSw
        (try dsimp only at hSw)
        (try go_split_ands)
        go_simp
        all_goals (first | done | with_reducible rfl)
      change wpAnyH _ _ _ _ _ _ _ (Act.put _ (some 60) _) _
      simp only [Act.put, List.setIfInBounds_toArray, List.set_cons_zero, List.set_cons_succ]
      refine wpAnyH_take (i := 13) (v := ?_) rfl (by kernel_rfl) (by kernel_rfl) (by kernel_rfl) (fun _ _ _ h => h) (Or.inl ⟨by kernel_rfl, ?_⟩) hHeld ?_
      rotate_left 1
      · intro w hSw
        (try dsimp only at hSw)
        (try go_split_ands)
        go_simp
        all_goals (first | done | with_reducible rfl)
      change wpAnyH _ _ _ _ _ _ _ (Act.put _ (some 61) _) _
      simp only [Act.put, List.setIfInBounds_toArray, List.set_cons_zero, List.set_cons_succ]
      refine wpAnyH_ready (rs := [11]) (by kernel_rfl) (by simp) ?_
      refine AllReadyH.cons rfl (fun K hK => ?_) AllReadyH.nil
      go_simp
      refine (IOK.out false (decide_eq_false HCO.out) wa k kr KA.out).mono ?_
      rintro e wb ⟨rfl, hb⟩
      have KB : Hid (KC w wb k kr #[.int .i64 n, .slice (some ⟨g, 0, none⟩) zl cg, .slice (some ⟨go, 0, none⟩) ko co, .slice (some ⟨gv, 0, none⟩) kv cv, .int .i64 fi] #[.int .i64 veh, .slice ao m co2] g go gv zs O V ao L) := KA.out.below hb
      clear hb
      (try go_wp2_with fail)
      refine hK.out _ _ ?_ (fun hHeld => ?_)
      · exact KS.out _ KB.out
      clear hK K
      (try simp only [Act.put, List.setIfInBounds_toArray, List.set_cons_zero, List.set_cons_succ])
      refine wpAnyH_ready (rs := [14]) (by kernel_rfl) (by simp) ?_
      refine AllReadyH.cons rfl (fun K hK => ?_) AllReadyH.nil
      go_simp
      refine (IST.out wb).mono ?_
      rintro e wd ⟨gq, cq, rfl, hb⟩
      have KD : Hid (KC w wd k kr #[.int .i64 n, .slice (some ⟨g, 0, none⟩) zl cg, .slice (some ⟨go, 0, none⟩) ko co, .slice (some ⟨gv, 0, none⟩) kv cv, .int .i64 fi] #[.int .i64 veh, .slice ao m co2] g go gv zs O V ao L) := KB.out.below hb
      clear hb
      (try go_wp2_with fail)
      refine hK.out _ _ ?_ (fun hHeld => ?_)
      · exact KS.out _ KD.out
      clear hK K
      (try simp only [Act.put, List.setIfInBounds_toArray, List.set_cons_zero, List.set_cons_succ])
      refine wpAnyH_ready (rs := [15]) (by kernel_rfl) (by simp) ?_
      refine AllReadyH.cons rfl (fun K hK => ?_) AllReadyH.nil
      go_simp
      refine (SKE.out wd gq cq KD.out).mono ?_
      rintro e we ⟨rfl, hb⟩
      have KE : Hid (KC w we k kr #[.int .i64 n, .slice (some ⟨g, 0, none⟩) zl cg, .slice (some ⟨go, 0, none⟩) ko co, .slice (some ⟨gv, 0, none⟩) kv cv, .int .i64 fi] #[.int .i64 veh, .slice ao m co2] g go gv zs O V ao L) := KD.out.below hb
      clear hb
      (try go_wp2_with fail)
      refine hK.out _ _ ?_ (fun hHeld => ?_)
      · exact KS.out _ KE.out
      clear hK K
      (try simp only [Act.put, List.setIfInBounds_toArray, List.set_cons_zero, List.set_cons_succ])
      refine wpAnyH_take (i := 16) (v := ?_) rfl (by kernel_rfl) (by kernel_rfl) (by kernel_rfl) (fun _ _ _ h => h) (Or.inl ⟨by kernel_rfl, ?_⟩) hHeld ?_
      rotate_left 1
      · intro w hSw
        (try dsimp only at hSw)
        (try go_split_ands)
        go_simp
        all_goals (first | done | with_reducible rfl)
      change wpAnyH _ _ _ _ _ _ _ (Act.put _ (some 64) _) _
      simp only [Act.put, List.setIfInBounds_toArray, List.set_cons_zero, List.set_cons_succ]
      refine wpAnyH_take (i := 17) (v := ?_) rfl (by kernel_rfl) (by kernel_rfl) (by kernel_rfl) (fun _ _ _ h => h) (Or.inl ⟨by kernel_rfl, ?_⟩) hHeld ?_
      rotate_left 1
      · intro w hSw
        (try dsimp only at hSw)
        (try go_split_ands)
        go_simp
        all_goals (first | done | with_reducible rfl)
      change wpAnyH _ _ _ _ _ _ _ (Act.put _ (some 65) _) _
      simp only [Act.put, List.setIfInBounds_toArray, List.set_cons_zero, List.set_cons_succ]
      refine wpAnyH_take (i := 18) (v := undef) rfl (by kernel_rfl) (by kernel_rfl) (by kernel_rfl) (fun _ _ _ h => h) (Or.inr ⟨by kernel_rfl, rfl⟩) hHeld ?_
      change wpAnyH _ _ _ _ _ _ _ (Act.put _ (some 66) _) _
      simp only [Act.put, List.setIfInBounds_toArray, List.set_cons_zero, List.set_cons_succ]
      refine wpAnyH_take (i := 19) (v := undef) rfl (by kernel_rfl) (by kernel_rfl) (by kernel_rfl) (fun _ _ _ h => h) (Or.inr ⟨by kernel_rfl, rfl⟩) hHeld ?_
      change wpAnyH _ _ _ _ _ _ _ (Act.put _ (some 67) _) _
      simp only [Act.put, List.setIfInBounds_toArray, List.set_cons_zero, List.set_cons_succ]
      refine wpAnyH_take (i := 20) (v := undef) rfl (by kernel_rfl) (by kernel_rfl) (by kernel_rfl) (fun _ _ _ h => h) (Or.inr ⟨by kernel_rfl, rfl⟩) hHeld ?_
      change wpAnyH _ _ _ _ _ _ _ (Act.put _ (some 68) _) _
      simp only [Act.put, List.setIfInBounds_toArray, List.set_cons_zero, List.set_cons_succ]
      refine wpAnyH_take (i := 21) (v := undef) rfl (by kernel_rfl) (by kernel_rfl) (by kernel_rfl) (fun _ _ _ h => h) (Or.inr ⟨by kernel_rfl, rfl⟩) hHeld ?_
      change wpAnyH _ _ _ _ _ _ _ (Act.put _ (some 69) _) _
      simp only [Act.put, List.setIfInBounds_toArray, List.set_cons_zero, List.set_cons_succ]
      refine wpAnyH_take (i := 22) (v := ?_) rfl (by kernel_rfl) (by kernel_rfl) (by kernel_rfl) (fun _ _ _ h => h) (Or.inl ⟨by kernel_rfl, ?_⟩) hHeld ?_
      rotate_left 1
      · intro w hSw
        (try dsimp only at hSw)
        (try go_split_ands)
        go_simp
        all_goals (first | done | with_reducible rfl)
      change wpAnyH _ _ _ _ _ _ _ (Act.put _ (some 70) _) _
      simp only [Act.put, List.setIfInBounds_toArray, List.set_cons_zero, List.set_cons_succ]
      refine wpAnyH_take (i := 23) (v := ?_) rfl (by kernel_rfl) (by kernel_rfl) (by kernel_rfl) (fun _ _ _ h => h) (Or.inl ⟨by kernel_rfl, ?_⟩) hHeld ?_
      rotate_left 1
      · intro w hSw
        (try dsimp only at hSw)
        (try go_split_ands)
        go_simp
        all_goals (first | done | with_reducible rfl)
      change wpAnyH _ _ _ _ _ _ _ (Act.put _ (some 71) _) _
      simp only [Act.put, List.setIfInBounds_toArray, List.set_cons_zero, List.set_cons_succ]
      refine wpAnyH_take (i := 24) (v := ?_) rfl (by kernel_rfl) (by kernel_rfl) (by kernel_rfl) (fun _ _ _ h => h) (Or.inl ⟨by kernel_rfl, ?_⟩) hHeld ?_
      rotate_left 1
      · intro w hSw
        (try dsimp only at hSw)
        (try go_split_ands)
        go_simp
        all_goals (first | done | with_reducible rfl)
      change wpAnyH _ _ _ _ _ _ _ (Act.put _ (some 2) _) _
      simp only [Act.put, List.setIfInBounds_toArray, List.set_cons_zero, List.set_cons_succ]
      refine wpAnyH_done (by kernel_rfl) ?_ _
      go_wp2
      go_ret
      exact ⟨by first | rfl | simp, KE.out.b⟩
    · exact absurd hc1 hc0
  · have HCO : Hid (codeV cb n zs O V ko kv veh L = 0) := hc0
    have hcbt : cb = true := (formV_zero (codeV_zero HCO.out).1).1
    subst hcbt
    obtain ⟨hk9, hl9⟩ := late_keeps HCO.out
    rw [HM.out] at hk9 hl9
    have hn1 : 1 ≤ n := (caseB_parts HCB.out).2.2.2.1
    have hvb := fnd5F_bd (caseB_vehs HCB.out) hn1 veh
    obtain ⟨ros, HROS⟩ : ∃ r, Hid (rosOf O ko L = r) := ⟨_, rfl⟩
    obtain ⟨hm0, HHM⟩ : ∃ x, Hid (fnd5F V kv veh 1 = x) := ⟨_, rfl⟩
    obtain ⟨rm, HRM⟩ : ∃ x, Hid (fnd5F V kv veh 2 = x) := ⟨_, rfl⟩
    obtain ⟨fr, HFR⟩ : ∃ x, Hid (fnd5F V kv veh 3 = x) := ⟨_, rfl⟩
    obtain ⟨tz, HTO⟩ : ∃ x, Hid (fnd5F V kv veh 4 = x) := ⟨_, rfl⟩
    rw [HFR.out] at hvb hl9
    rw [HROS.out, HHM.out, HTO.out] at hls hl9 hk9 SLA
    rw [HROS.out, HHM.out, HTO.out]
    obtain ⟨lt, HLT⟩ : ∃ x, Hid (latL n zs ros m hm0 tz = x) := ⟨_, rfl⟩
    obtain ⟨lv, HLV⟩ : ∃ x, Hid (leaveV n zs ros m hm0 tz = x) := ⟨_, rfl⟩
    have HLL : Hid (lt.length = m) := by show _ = _; rw [← HLT.out, latL_length]
    rw [HLT.out] at hls hk9 SLA
    rw [HLV.out] at hl9 SLA ⊢
    have HKE : Hid (keepsV true n zs O V ko kv veh L lt = true) := hk9
    have hlv0 : (lv == -1) = false := by have := hvb.2.2.1.1; simp; omega
    have hge : decide (fr ≤ lv) = true := decide_eq_true hl9
    have hlvn : (lv != lv) = false := by simp
    have K2 : Hid (KC w w2 k kr #[.int .i64 n, .slice (some ⟨g, 0, none⟩) zl cg, .slice (some ⟨go, 0, none⟩) ko co, .slice (some ⟨gv, 0, none⟩) kv cv, .int .i64 fi] #[.int .i64 veh, .slice ao m co2] g go gv zs O V ao L) := K1.out.below hb
    have I2 : Hid (IntsAt w2 (some ⟨gs, 0, none⟩) lt) := hls
    clear hb K1 d0 d1 d2 d3 d4 e0 e1 hls hk9 hc0 hvb hl9
    obtain ⟨d0, d1, d2, d3, d4⟩ := cells5z K2.out.b1
    obtain ⟨e0, e1⟩ := cells2 K2.out.b2
    go_wp2_with fail
    refine (SLA.out _ _ _ K2.out).mono ?_
    rintro e w3 ⟨hb, ⟨hc1, _⟩ | ⟨-, gw, rfl, hlw⟩⟩
    · exact absurd HCO.out hc1
    have K3 : Hid (KC w w3 k kr #[.int .i64 n, .slice (some ⟨g, 0, none⟩) zl cg, .slice (some ⟨go, 0, none⟩) ko co, .slice (some ⟨gv, 0, none⟩) kv cv, .int .i64 fi] #[.int .i64 veh, .slice ao m co2] g go gv zs O V ao L) := K2.out.below hb
    have I3 : Hid (IntsAt w3 (some ⟨gs, 0, none⟩) lt ∧ IntsAt w3 (some ⟨gw, 0, none⟩) lt) := ⟨I2.out.below hb, hlw⟩
    clear hb K2 I2 d0 d1 d2 d3 d4 e0 e1 hlw
    have SMI : Hid (∀ W : World, IntsAt W (some ⟨gs, 0, none⟩) lt → IntsAt W (some ⟨gw, 0, none⟩) lt → Calls Try.prog 22 #[.slice (some ⟨gs, 0, none⟩) m m, .slice (some ⟨gw, 0, none⟩) m m] W fun e w' => e = .returned (.bool true) ∧ Below W.heap.size W w') := fun W h1 h2 => by
      have := sameInts_any (some ⟨gs, 0, none⟩) (some ⟨gw, 0, none⟩) m m lt lt W h1 h2 (by rw [HLL.out]; omega)
      rw [HLL.out] at this
      simpa using this
    obtain ⟨d0, d1, d2, d3, d4⟩ := cells5z K3.out.b1
    obtain ⟨e0, e1⟩ := cells2 K3.out.b2
    go_wp2_with fail
    refine (SMI.out _ I3.out.1 I3.out.2).mono ?_
    rintro e w4 ⟨rfl, hb⟩
    have K4 : Hid (KC w w4 k kr #[.int .i64 n, .slice (some ⟨g, 0, none⟩) zl cg, .slice (some ⟨go, 0, none⟩) ko co, .slice (some ⟨gv, 0, none⟩) kv cv, .int .i64 fi] #[.int .i64 veh, .slice ao m co2] g go gv zs O V ao L) := K3.out.below hb
    have I4 : Hid (IntsAt w4 (some ⟨gs, 0, none⟩) lt) := I3.out.1.below hb
    clear hb K3 I3 d0 d1 d2 d3 d4 e0 e1
    obtain ⟨d0, d1, d2, d3, d4⟩ := cells5z K4.out.b1
    obtain ⟨e0, e1⟩ := cells2 K4.out.b2
    have IVE : Hid (∀ W, KC w W k kr #[.int .i64 n, .slice (some ⟨g, 0, none⟩) zl cg, .slice (some ⟨go, 0, none⟩) ko co, .slice (some ⟨gv, 0, none⟩) kv cv, .int .i64 fi] #[.int .i64 veh, .slice ao m co2] g go gv zs O V ao L → Calls Try.prog 11 #[.agg #[.int .i64 n, .slice (some ⟨g, 0, none⟩) zl cg, .slice (some ⟨go, 0, none⟩) ko co, .slice (some ⟨gv, 0, none⟩) kv cv, .int .i64 fi], .int .i64 veh] W fun e w' => (∃ x0 t, e = .returned (.tuple #[.agg #[.int .i64 x0, .int .i64 hm0, .int .i64 rm, .int .i64 fr, .int .i64 tz], .bool t])) ∧ Below W.heap.size W w') := fun W h => by
      have := implVehOf_any n fi veh (some ⟨g, 0, none⟩) (some ⟨go, 0, none⟩) (some ⟨gv, 0, none⟩) cg ko co kv cv zs O V W h.iz h.io h.iv HO.out HV.out (by omega) (by omega)
      rw [HZ.out, HCB.out] at this
      have gf : ∀ f, got5F true V kv veh f = fnd5F V kv veh f := fun f => by unfold got5F; rw [if_pos rfl]
      rw [gf 1, gf 2, gf 3, gf 4, HHM.out, HRM.out, HFR.out, HTO.out] at this
      exact this.mono fun e w' h => ⟨⟨_, _, h.1⟩, h.2⟩
    have IKE : Hid (∀ W, KC w W k kr #[.int .i64 n, .slice (some ⟨g, 0, none⟩) zl cg, .slice (some ⟨go, 0, none⟩) ko co, .slice (some ⟨gv, 0, none⟩) kv cv, .int .i64 fi] #[.int .i64 veh, .slice ao m co2] g go gv zs O V ao L → IntsAt W (some ⟨gs, 0, none⟩) lt → Calls Try.prog 14 #[.agg #[.int .i64 n, .slice (some ⟨g, 0, none⟩) zl cg, .slice (some ⟨go, 0, none⟩) ko co, .slice (some ⟨gv, 0, none⟩) kv cv, .int .i64 fi], .agg #[.int .i64 veh, .slice ao m co2], .slice (some ⟨gs, 0, none⟩) m m] W fun e w' => e = .returned (.bool true) ∧ Below W.heap.size W w') := fun W h hI => by
      have := implKeeps_any n fi veh (some ⟨g, 0, none⟩) (some ⟨go, 0, none⟩) (some ⟨gv, 0, none⟩) ao cg ko co kv cv co2 (some ⟨gs, 0, none⟩) m zs O V L lt W h.iz h.io h.iv h.il HO.out HV.out (by omega) (by omega) (by rw [HM.out]; omega) (by rw [HM.out]; exact hmc) hI
      rw [HZ.out, HM.out, HLL.out, HCB.out, HKE.out] at this
      exact this
    clear ILA SLA SMI
    go_wp2_with fail
    refine (IVE.out _ K4.out).mono ?_
    rintro e w6 ⟨⟨x0, tv, rfl⟩, hb⟩
    have K6 : Hid (KC w w6 k kr #[.int .i64 n, .slice (some ⟨g, 0, none⟩) zl cg, .slice (some ⟨go, 0, none⟩) ko co, .slice (some ⟨gv, 0, none⟩) kv cv, .int .i64 fi] #[.int .i64 veh, .slice ao m co2] g go gv zs O V ao L) := K4.out.below hb
    have I6 : Hid (IntsAt w6 (some ⟨gs, 0, none⟩) lt) := I4.out.below hb
    clear hb K4 I4 d0 d1 d2 d3 d4 e0 e1 IVE
    have K7 : Hid (KC w (w6.alloc (Obj.cells #[Value.int IntKind.i64 x0, Value.int IntKind.i64 hm0, Value.int IntKind.i64 rm, Value.int IntKind.i64 fr, Value.int IntKind.i64 tz] 39)) k kr #[.int .i64 n, .slice (some ⟨g, 0, none⟩) zl cg, .slice (some ⟨go, 0, none⟩) ko co, .slice (some ⟨gv, 0, none⟩) kv cv, .int .i64 fi] #[.int .i64 veh, .slice ao m co2] g go gv zs O V ao L ∧ (w6.alloc (Obj.cells #[Value.int IntKind.i64 x0, Value.int IntKind.i64 hm0, Value.int IntKind.i64 rm, Value.int IntKind.i64 fr, Value.int IntKind.i64 tz] 39)).heap[w6.heap.size]? = some (.cells #[Value.int IntKind.i64 x0, Value.int IntKind.i64 hm0, Value.int IntKind.i64 rm, Value.int IntKind.i64 fr, Value.int IntKind.i64 tz] 39 (0, 0))) := ⟨K6.out.below ((Below.refl _ _).alloc (Nat.le_refl _) _), heap_alloc_new _ _⟩
    have I7 : Hid (IntsAt (w6.alloc (Obj.cells #[Value.int IntKind.i64 x0, Value.int IntKind.i64 hm0, Value.int IntKind.i64 rm, Value.int IntKind.i64 fr, Value.int IntKind.i64 tz] 39)) (some ⟨gs, 0, none⟩) lt) := I6.out.below ((Below.refl _ _).alloc (Nat.le_refl _) _)
    clear K6 I6
    go_upto_region 9 with fail
    generalize w6.alloc (Obj.cells #[Value.int IntKind.i64 x0, Value.int IntKind.i64 hm0, Value.int IntKind.i64 rm, Value.int IntKind.i64 fr, Value.int IntKind.i64 tz] 39) = W7 at *
    obtain ⟨k7, HK7⟩ : ∃ v, Hid (w6.heap.size = v) := ⟨_, rfl⟩
    rw [HK7.out] at K7 ⊢
    obtain ⟨d0, d1, d2, d3, d4⟩ := cells5z K7.out.1.b1
    obtain ⟨e0, e1⟩ := cells2 K7.out.1.b2
    go_wp2_with fail
    refine (IKE.out _ K7.out.1 I7.out).mono ?_
    rintro e w8 ⟨rfl, hb⟩
    have K8 : Hid (KC w w8 k kr #[.int .i64 n, .slice (some ⟨g, 0, none⟩) zl cg, .slice (some ⟨go, 0, none⟩) ko co, .slice (some ⟨gv, 0, none⟩) kv cv, .int .i64 fi] #[.int .i64 veh, .slice ao m co2] g go gv zs O V ao L) := K7.out.1.below hb
    have HR8 : Hid (w8.heap[k7]? = some (.cells #[Value.int IntKind.i64 x0, Value.int IntKind.i64 hm0, Value.int IntKind.i64 rm, Value.int IntKind.i64 fr, Value.int IntKind.i64 tz] 39 (0, 0))) := below_row hb (row_lt K7.out.2) K7.out.2
    clear hb d0 d1 d2 d3 d4 e0 e1 IKE K7
    obtain ⟨d0, d1, d2, d3, d4⟩ := cells5z K8.out.b1
    obtain ⟨e0, e1⟩ := cells2 K8.out.b2
    obtain ⟨y0, y1, y2, y3, y4⟩ := cells5z HR8.out
    go_wp2_with fail
    refine (IOK.out true (decide_eq_true HCO.out) _ _ _ K8.out).mono ?_
    rintro e w9 ⟨rfl, hb⟩
    have K9 : Hid (KC w w9 k kr #[.int .i64 n, .slice (some ⟨g, 0, none⟩) zl cg, .slice (some ⟨go, 0, none⟩) ko co, .slice (some ⟨gv, 0, none⟩) kv cv, .int .i64 fi] #[.int .i64 veh, .slice ao m co2] g go gv zs O V ao L) := K8.out.below hb
    clear hb d0 d1 d2 d3 d4 e0 e1 y0 y1 y2 y3 y4
    go_wp2
    go_ret
    exact ⟨by first | rfl | simp, K9.out.b⟩

theorem lawFnLatest_all (a : Option Addr) (c : Nat) (bs : List Int) (w : World) (hA : CodeAt w a bs) (hl : bs.length ≤ 9223372036854775807) :
    Calls Try.prog 5 #[.slice a bs.length c] w fun e w' => e = .returned (.bool true) ∧ Below w.heap.size w w' := by
  by_cases h : bs.length ≤ 1048576
  · exact lawFnLatest a c bs w hA h
  · exact lawFnLatest_big a c _ w hl (by omega)

end Go.Proofs.Ytocnlgmcjdggaaa
