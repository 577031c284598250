import Derived.Test.YtmohcdnhbhigdaaPack1
import Derived.Test.YtmohcdnhbhigdaaPack2
import Derived.Test.YtmohcdnhbhigdaaImplLatest
import Derived.Test.YtmohcdnhbhigdaaSpecLatest
namespace Go.Proofs.Ytmohcdnhbhigdaa
open Go.RowKit

/-- A slice of numbers that was marked from 1 on. -/
def MarkedI (W : World) (sl : Value) (K : Nat) : Prop := (sl = .slice none 0 0 ∧ K = 0) ∨ ∃ g cap, sl = .slice (some ⟨g, 0, none⟩) K cap ∧ g < W.heap.size ∧ ∀ j, j < K → W.cell? ⟨g, j, none⟩ = some (.int .i64 (1 + (j : Nat)))
theorem MarkedI.below {W W' : World} {sl : Value} {K : Nat} (h : MarkedI W sl K) (hb : Below W.heap.size W W') : MarkedI W' sl K := by
  rcases h with h | ⟨g, cap, h1, h2, h3⟩
  · exact .inl h
  · exact .inr ⟨g, cap, h1, Nat.lt_of_lt_of_le h2 hb.size, fun j hj => (hb.cell (p := ⟨g, j, none⟩) h2).trans (h3 j hj)⟩
theorem markIn_u (sl : Value) (K base : Nat) (xs : List Int) (w : World) (ho : w.ownsRow base 2 1 sl K (xs.map (Value.int .i64))) (hb : base ≤ w.heap.size) (hK : K ≤ 1000000) :
    Calls Try.prog 33 #[sl, .int .i64 1] w fun e w' => e = .returned (.int .i64 (1 + ((K : Nat) : Int))) ∧ Below base w w' ∧ MarkedI w' sl K := by
  obtain ⟨h1, ⟨rfl, rfl⟩ | ⟨g, cap, cur, rfl, h3, h4, h5, _, h7, _⟩⟩ := ho
  · refine (markInt64S_nil none 0 1 w).mono ?_
    rintro e w' ⟨rfl, rfl⟩
    exact ⟨rfl, Below.refl _ _, .inl ⟨rfl, rfl⟩⟩
  · have hsz : K ≤ cur.size := by rw [h7, Nat.mul_one]; exact h5
    refine (markInt64S_any g K cap 1 cur _ w h4 hsz (by omega) (by omega) (by omega)).mono ?_
    rintro e w' ⟨rfl, hg, hr⟩
    refine ⟨rfl, (Below.refl _ _).grown hg hb (fun k e => by cases e; exact h3), .inr ⟨g, cap, rfl, row_lt hr, fun j hj => ?_⟩⟩
    rw [cell_of_row _ _ j _ _ _ hr]
    exact markA_get cur 1 K hsz j hj
theorem heldIn_u (sl : Value) (K : Nat) (w : World) (hm : MarkedI w sl K) (hK : K ≤ 1000000) :
    Calls Try.prog 34 #[sl, .int .i64 1] w fun e w' => e = .returned (.int .i64 (1 + ((K : Nat) : Int))) ∧ w' = w := by
  rcases hm with ⟨rfl, rfl⟩ | ⟨g, cap, rfl, _, hc⟩
  · exact (heldInt64S_nil none 0 1 w).mono fun e w' ⟨h1, h2⟩ => ⟨h1, h2⟩
  · exact heldInt64S_any g K cap 1 w hc (by omega) (by omega) (by omega)
theorem eqIn_u (sl : Value) (b : Option Addr) (K c2 base : Nat) (xs : List Int) (w : World) (ho : w.ownsRow base 2 1 sl K (xs.map (Value.int .i64))) (hB : IntsAt w b xs) (hl : xs.length = K) (hK : K ≤ 1000000) :
    Calls Try.prog 28 #[sl, .slice b K c2] w fun e w' => e = .returned (.bool true) ∧ Below w.heap.size w w' := by
  obtain ⟨a, c, rfl, _, hA⟩ := owns_at1 ho
  have := eqInts_any a b c c2 xs xs w hA hB (by omega)
  rw [hl] at this ⊢
  simpa using this

/-- What Latest tells: how many starts, which, when it may leave. -/
def lateK (code : Int) (k : Nat) : Nat := if code = 0 then k else 0
def lateX (code : Int) (xs : List Int) : List Int := if code = 0 then xs else []
def lateH (code h : Int) : Int := if code = 0 then h else -1
theorem specLate_u (n fine veh : Int) (a ao av bi : Option Addr) (cap ko co kv cv c2 : Nat) (zs os vs ids : List Int) (w : World) (hA : IntsAt w a zs) (hO : IntsAt w ao os) (hV : IntsAt w av vs) (hI : IntsAt w bi ids) (hlo : os.length = ko * 6) (hlv : vs.length = kv * 5) (hko : ko ≤ 9223372036854775807) (hkv : kv ≤ 9223372036854775807) (hli : ids.length ≤ 9223372036854775807) (hc2 : ids.length ≤ c2) (K : Nat) (X : List Int) (H C : Int) (hC : codeV (caseB n zs os vs ko kv fine) n zs os vs ko kv veh ids = C) (hK : lateK C ids.length = K) (hX : lateX C (latL n zs (rosOf os ko ids) ids.length (fnd5F vs kv veh 1) (fnd5F vs kv veh 4)) = X) (hH : lateH C (leaveV n zs (rosOf os ko ids) ids.length (fnd5F vs kv veh 1) (fnd5F vs kv veh 4)) = H) :
    Calls Try.prog 24 #[.agg #[.int .i64 n, .slice a zs.length cap, .slice ao ko co, .slice av kv cv, .int .i64 fine], .agg #[.int .i64 veh, .slice bi ids.length c2]] w fun e w' => ∃ ad c, e = .returned (.tuple #[.slice ad K c, .int .i64 H]) ∧ Below w.heap.size w w' ∧ IntsAt w' ad X := by
  refine (specLatest_any n fine veh a ao av bi cap ko co kv cv c2 zs os vs ids w hA hO hV hI hlo hlv hko hkv hli hc2).mono ?_
  rintro e w' ⟨hb, ⟨hf, rfl⟩ | ⟨hf, g, rfl, hv⟩⟩
  · rw [hC] at hf
    unfold lateK at hK
    unfold lateX at hX
    unfold lateH at hH
    rw [if_neg hf] at hK hX hH
    subst hK hX hH
    exact ⟨none, 0, rfl, hb, fun j hj => by simp at hj⟩
  · rw [hC] at hf
    unfold lateK at hK
    unfold lateX at hX
    unfold lateH at hH
    rw [if_pos hf] at hK hX hH
    subst hK hX hH
    exact ⟨some ⟨g, 0, none⟩, _, rfl, hb, hv⟩
theorem implLate_u (n fine veh : Int) (a ao av bi : Option Addr) (cap ko co kv cv c2 : Nat) (zs os vs ids : List Int) (w : World) (hA : IntsAt w a zs) (hO : IntsAt w ao os) (hV : IntsAt w av vs) (hI : IntsAt w bi ids) (hlo : os.length = ko * 6) (hlv : vs.length = kv * 5) (hko : ko ≤ 9223372036854775807) (hkv : kv ≤ 9223372036854775807) (hli : ids.length ≤ 9223372036854775807) (hc2 : ids.length ≤ c2) (K : Nat) (X : List Int) (H C : Int) (hC : codeV (caseB n zs os vs ko kv fine) n zs os vs ko kv veh ids = C) (hK : lateK C ids.length = K) (hX : lateX C (latL n zs (rosOf os ko ids) ids.length (fnd5F vs kv veh 1) (fnd5F vs kv veh 4)) = X) (hH : lateH C (leaveV n zs (rosOf os ko ids) ids.length (fnd5F vs kv veh 1) (fnd5F vs kv veh 4)) = H) :
    Calls Try.prog 27 #[.agg #[.int .i64 n, .slice a zs.length cap, .slice ao ko co, .slice av kv cv, .int .i64 fine], .agg #[.int .i64 veh, .slice bi ids.length c2]] w fun e w' => ∃ sl, e = .returned (.tuple #[sl, .int .i64 H]) ∧ Below w.heap.size w w' ∧ w'.ownsRow w.heap.size 2 1 sl K (X.map (Value.int .i64)) := by
  refine (implLatest_any n fine veh a ao av bi cap ko co kv cv c2 zs os vs ids w hA hO hV hI hlo hlv hko hkv hli hc2).mono ?_
  rintro e w' ⟨hb, ⟨hf, rfl⟩ | ⟨hf, g, rfl, hv⟩⟩
  · rw [hC] at hf
    unfold lateK at hK
    unfold lateX at hX
    unfold lateH at hH
    rw [if_neg hf] at hK hX hH
    subst hK hX hH
    exact ⟨_, rfl, hb, World.ownsRow_nil _ _ _ _⟩
  · rw [hC] at hf
    unfold lateK at hK
    unfold lateX at hX
    unfold lateH at hH
    rw [if_pos hf] at hK hX hH
    subst hK hX hH
    exact ⟨_, rfl, hb, hv⟩
theorem lateX_length (code : Int) (n : Int) (zs ros : List Int) (home tz : Int) (m : Nat) : (lateX code (latL n zs ros m home tz)).length = lateK code m := by
  unfold lateX lateK
  by_cases h : code = 0
  · rw [if_pos h, if_pos h, latL_length]
  · rw [if_neg h, if_neg h]
    rfl
theorem lateK_le {c : Bool} {n : Int} {zs os vs : List Int} {ko kv : Nat} {veh : Int} {ids : List Int} : lateK (codeV c n zs os vs ko kv veh ids) ids.length ≤ 12 := by
  unfold lateK
  by_cases h : codeV c n zs os vs ko kv veh ids = 0
  · rw [if_pos h]
    exact (stopsB_true (formV_zero (codeV_zero h).1).2.2).1
  · rw [if_neg h]
    omega

end Go.Proofs.Ytmohcdnhbhigdaa

namespace Go.Proofs.Ytmohcdnhbhigdaa
open Go.RowKit

theorem lr7' {w W : World} {c0 c1 c2 c3 c4 r0 r1 : Value} (h : LR w W #[c0, c1, c2, c3, c4] #[r0, r1]) :
    W.cell? ⟨w.heap.size, 0, none⟩ = some c0 ∧ W.cell? ⟨w.heap.size, 1, none⟩ = some c1 ∧ W.cell? ⟨w.heap.size, 2, none⟩ = some c2 ∧ W.cell? ⟨w.heap.size, 3, none⟩ = some c3 ∧ W.cell? ⟨w.heap.size, 4, none⟩ = some c4 ∧ W.cell? ⟨w.heap.size + 1, 0, none⟩ = some r0 ∧ W.cell? ⟨w.heap.size + 1, 1, none⟩ = some r1 := h.cells

set_option maxHeartbeats 1000000 in
theorem lawLatest_big (n fine veh : Int) (a ao av bi : Option Addr) (lt cap ko co kv cv li c2 : Nat) (w : World) (hlt : lt ≤ 9223372036854775807) (hko : ko ≤ 9223372036854775807) (hkv : kv ≤ 9223372036854775807) (hli : li ≤ 9223372036854775807) (h : ¬ (lt + ko + kv + li ≤ 1048576)) :
    Calls Try.prog 6 #[.agg #[.int .i64 n, .slice a lt cap, .slice ao ko co, .slice av kv cv, .int .i64 fine], .agg #[.int .i64 veh, .slice bi li c2]] w fun e w' => e = .returned (.bool true) ∧ Below w.heap.size w w' := by
  have HB0 : Hid (LR w ((w.alloc (.cells #[Value.int IntKind.i64 n, Value.slice a lt cap, Value.slice ao ko co, Value.slice av kv cv, Value.int IntKind.i64 fine] 49)).alloc (.cells #[Value.int IntKind.i64 veh, Value.slice bi li c2] 50)) _ _) := LR.new w _ _
  by_cases hc : lt + ko + kv ≤ 1048576
  · have HS : Hid (szV 1048576 lt ko kv = 1048576 - lt - ko - kv) := szV_pos hc
    have HX : Hid ((if (1048576 - lt - ko - kv : Int) < li then -1 else (1048576 - lt - ko - kv : Int) - li) = -1) := if_pos (by omega)
    clear h
    go_enter Try.func6, Try.ntmps6
    obtain ⟨e0, e1, e2, e3, e4, e5, e6⟩ := HB0.out.cells
    go_wp2_with fail
    clear e0 e1 e2 e3 e4 e5 e6
    refine (szCase_any n fine 1048576 a ao av lt cap ko co kv cv _ (by omega) (by omega) hlt hko hkv).mono ?_
    rintro e w1 ⟨rfl, hb⟩
    rw [HS.out]
    have B1 : Hid (LR w w1 _ _) := HB0.out.below hb
    clear hb HB0
    obtain ⟨e0, e1, e2, e3, e4, e5, e6⟩ := B1.out.cells
    have hle : (0 : Int) ≤ 1048576 - lt - ko - kv := by omega
    go_wp2_with fail
    clear e0 e1 e2 e3 e4 e5 e6
    refine (szRoute_any veh bi li c2 (1048576 - lt - ko - kv) _ (by omega) (by omega) hli).mono ?_
    rintro e w2 ⟨rfl, hb⟩
    rw [HX.out]
    have B2 : Hid (LR w w2 _ _) := B1.out.below hb
    clear hb B1
    go_wp2
    go_ret
    exact ⟨rfl, B2.out.1⟩
  · have HS : Hid (szV 1048576 lt ko kv = -1) := szV_neg hc
    clear h
    go_enter Try.func6, Try.ntmps6
    obtain ⟨e0, e1, e2, e3, e4, e5, e6⟩ := HB0.out.cells
    go_wp2_with fail
    clear e0 e1 e2 e3 e4 e5 e6
    refine (szCase_any n fine 1048576 a ao av lt cap ko co kv cv _ (by omega) (by omega) hlt hko hkv).mono ?_
    rintro e w1 ⟨rfl, hb⟩
    rw [HS.out]
    have B1 : Hid (LR w w1 _ _) := HB0.out.below hb
    clear hb HB0
    go_wp2
    go_ret
    exact ⟨rfl, B1.out.1⟩

set_option maxHeartbeats 8000000 in
theorem lawLatest (n fine veh : Int) (a ao av bi : Option Addr) (cap ko co kv cv c2 : Nat) (zs os vs ids : List Int) (w : World) (hA : IntsAt w a zs) (hO : IntsAt w ao os) (hV : IntsAt w av vs) (hI : IntsAt w bi ids) (hlo : os.length = ko * 6) (hlv : vs.length = kv * 5) (hsm : zs.length + ko + kv + ids.length ≤ 1048576) :
    Calls Try.prog 6 #[.agg #[.int .i64 n, .slice a zs.length cap, .slice ao ko co, .slice av kv cv, .int .i64 fine], .agg #[.int .i64 veh, .slice bi ids.length c2]] w fun e w' => e = .returned (.bool true) ∧ Below w.heap.size w w' := by
  have HA : Hid (IntsAt w a zs) := hA
  have HO : Hid (IntsAt w ao os) := hO
  have HV : Hid (IntsAt w av vs) := hV
  have HI : Hid (IntsAt w bi ids) := hI
  have HLO : Hid _ := hlo
  have HLV : Hid _ := hlv
  clear hA hO hV hI hlo hlv
  have HSZ : Hid (szV 1048576 zs.length ko kv = 1048576 - zs.length - ko - kv) := szV_pos (by omega)
  have HX : Hid ((if (1048576 - zs.length - ko - kv : Int) < ids.length then -1 else (1048576 - zs.length - ko - kv : Int) - ids.length) = 1048576 - zs.length - ko - kv - ids.length) := if_neg (by omega)
  have hs1 : zs.length ≤ 1048576 := by omega
  have hs2 : ko ≤ 1048576 := by omega
  have hs3 : kv ≤ 1048576 := by omega
  have hs4 : ids.length ≤ 1048576 := by omega
  have B0 : Hid (LR w ((w.alloc (.cells #[Value.int IntKind.i64 n, Value.slice a zs.length cap, Value.slice ao ko co, Value.slice av kv cv, Value.int IntKind.i64 fine] 49)).alloc (.cells #[Value.int IntKind.i64 veh, Value.slice bi ids.length c2] 50)) _ _) := LR.new w _ _
  obtain ⟨C, HCC⟩ : ∃ t, Hid (codeV (caseB n zs os vs ko kv fine) n zs os vs ko kv veh ids = t) := ⟨_, rfl⟩
  have hK12 : lateK C ids.length ≤ 12 := by
    rw [← HCC.out]
    exact lateK_le
  obtain ⟨K, HKK⟩ : ∃ t, Hid (lateK C ids.length = t) := ⟨_, rfl⟩
  obtain ⟨X, HXX⟩ : ∃ t, Hid (lateX C (latL n zs (rosOf os ko ids) ids.length (fnd5F vs kv veh 1) (fnd5F vs kv veh 4)) = t) := ⟨_, rfl⟩
  obtain ⟨H, HHH⟩ : ∃ t, Hid (lateH C (leaveV n zs (rosOf os ko ids) ids.length (fnd5F vs kv veh 1) (fnd5F vs kv veh 4)) = t) := ⟨_, rfl⟩
  rw [HKK.out] at hK12
  have HXL : Hid (X.length = K) := by
    show _ = _
    rw [← HXX.out, ← HKK.out]
    exact lateX_length _ _ _ _ _ _ _
  go_enter Try.func6, Try.ntmps6
  obtain ⟨e0, e1, e2, e3, e4, e5, e6⟩ := B0.out.cells
  go_wp2_with fail
  clear e0 e1 e2 e3 e4 e5 e6
  refine (szCase_any n fine 1048576 a ao av zs.length cap ko co kv cv _ (by omega) (by omega) (by omega) (by omega) (by omega)).mono ?_
  rintro e w1 ⟨rfl, hb⟩
  rw [HSZ.out]
  have B1 : Hid (LR w w1 _ _) := B0.out.below hb
  clear hb B0
  obtain ⟨e0, e1, e2, e3, e4, e5, e6⟩ := B1.out.cells
  have hle : (0 : Int) ≤ 1048576 - zs.length - ko - kv := by omega
  go_wp2_with fail
  clear e0 e1 e2 e3 e4 e5 e6
  refine (szRoute_any veh bi ids.length c2 (1048576 - zs.length - ko - kv) _ (by omega) (by omega) (by omega)).mono ?_
  rintro e w2 ⟨rfl, hb⟩
  rw [HX.out]
  have B2 : Hid (LR w w2 _ _) := B1.out.below hb
  clear hb B1
  have hle2 : (0 : Int) ≤ 1048576 - zs.length - ko - kv - ids.length := by omega
  obtain ⟨e0, e1, e2, e3, e4, e5, e6⟩ := B2.out.cells
  go_wp2_with fail
  go_region_held3 (fun W => W.cell? ⟨w.heap.size, 0, none⟩ = some (.int .i64 n) ∧ W.cell? ⟨w.heap.size, 1, none⟩ = some (.slice a zs.length cap) ∧ W.cell? ⟨w.heap.size, 2, none⟩ = some (.slice ao ko co) ∧ W.cell? ⟨w.heap.size, 3, none⟩ = some (.slice av kv cv) ∧ W.cell? ⟨w.heap.size, 4, none⟩ = some (.int .i64 fine) ∧ W.cell? ⟨w.heap.size + 1, 0, none⟩ = some (.int .i64 veh) ∧ W.cell? ⟨w.heap.size + 1, 1, none⟩ = some (.slice bi ids.length c2)) (first | with_reducible exact kS | go_keep) ((first
  | (go_at_call 25
     with_reducible refine (toCase_any n fine a ao av cap ko co kv cv zs os vs w2.drew (HA.out.below B2.out.drew.b) (HO.out.below B2.out.drew.b) (HV.out.below B2.out.drew.b) HLO.out HLV.out hs1 hs2 hs3).mono ?_
     rintro e w3 ⟨g3, go3, gv3, _, _, _, rfl, hb, hg⟩
     have B3 : Hid (LR w w3 _ _) := B2.out.drew.below hb
     have C3 : Hid (CaseAt w3 g3 go3 gv3 zs os vs) := hg
     obtain ⟨k0, k1, k2, k3, k4, k5, k6⟩ := B3.out.cells
     have kS := And.intro k0 (And.intro k1 (And.intro k2 (And.intro k3 (And.intro k4 (And.intro k5 k6)))))
     clear hb hg
     clear k0 k1 k2 k3 k4 k5 k6)
  | (go_at_call 26
     with_reducible refine (toRoute_any veh bi c2 ids w3 (HI.out.below B3.out.b) hs4).mono ?_
     rintro e w4 ⟨gr4, _, rfl, hb, hg⟩
     have B4 : Hid (LR w w4 _ _) := B3.out.below hb
     have C4 : Hid (CaseAt w4 g3 go3 gv3 zs os vs) := C3.out.below hb
     have I4 : Hid (IntsAt w4 (some ⟨gr4, 0, none⟩) ids) := IntsAt.of_row hg
     obtain ⟨k0, k1, k2, k3, k4, k5, k6⟩ := B4.out.cells
     have kS := And.intro k0 (And.intro k1 (And.intro k2 (And.intro k3 (And.intro k4 (And.intro k5 k6)))))
     clear hb hg
     clear k0 k1 k2 k3 k4 k5 k6)
  | (go_at_call 24
     with_reducible refine (specLate_u n fine veh _ _ _ _ _ _ _ _ _ _ zs os vs ids w4 C4.out.t C4.out.o C4.out.v I4.out HLO.out HLV.out (by omega) (by omega) (by omega) (Nat.le_refl _) K X H C HCC.out HKK.out HXX.out HHH.out).mono ?_
     rintro e w6 ⟨ad, cw, rfl, hb, hv⟩
     have B6 : Hid (LR w w6 _ _) := B4.out.below hb
     have V6 : Hid (IntsAt w6 ad X) := hv
     obtain ⟨k0, k1, k2, k3, k4, k5, k6⟩ := B6.out.cells
     have kS := And.intro k0 (And.intro k1 (And.intro k2 (And.intro k3 (And.intro k4 (And.intro k5 k6)))))
     clear hb hv
     clear k0 k1 k2 k3 k4 k5 k6)))
  all_goals
    clear e0 e1 e2 e3 e4 e5 e6 kS B2 B3 C3 B4 C4 I4
    obtain ⟨e0, e1, e2, e3, e4, e5, e6⟩ := B6.out.cells
    go_wp2_with fail
    clear e0 e1 e2 e3 e4 e5 e6
    refine (toCase_any n fine a ao av cap ko co kv cv zs os vs _ (HA.out.below B6.out.b) (HO.out.below B6.out.b) (HV.out.below B6.out.b) HLO.out HLV.out hs1 hs2 hs3).mono ?_
    rintro e w7 ⟨g7, go7, gv7, hl1, hl2, hl3, rfl, hb, hg⟩
    have L7 : Hid (w6.heap.size ≤ g7 ∧ w6.heap.size ≤ go7 ∧ w6.heap.size ≤ gv7) := ⟨hl1, hl2, hl3⟩
    have Z7 : Hid (Below w6.heap.size w6 (w7.alloc (Obj.cells #[Value.int IntKind.i64 n, Value.slice (some ⟨g7, 0, none⟩) zs.length zs.length, Value.slice (some ⟨go7, 0, none⟩) ko ko, Value.slice (some ⟨gv7, 0, none⟩) kv kv, Value.int IntKind.i64 fine] 30))) := hb.alloc hb.size _
    have X7 : Hid ((w7.alloc (Obj.cells #[Value.int IntKind.i64 n, Value.slice (some ⟨g7, 0, none⟩) zs.length zs.length, Value.slice (some ⟨go7, 0, none⟩) ko ko, Value.slice (some ⟨gv7, 0, none⟩) kv kv, Value.int IntKind.i64 fine] 30)).heap[w7.heap.size]? = _) := heap_alloc_new _ _
    have C7 : Hid (CaseAt (w7.alloc (Obj.cells #[Value.int IntKind.i64 n, Value.slice (some ⟨g7, 0, none⟩) zs.length zs.length, Value.slice (some ⟨go7, 0, none⟩) ko ko, Value.slice (some ⟨gv7, 0, none⟩) kv kv, Value.int IntKind.i64 fine] 30)) g7 go7 gv7 zs os vs) := hg.below ((Below.refl _ _).alloc (Nat.le_refl _) _)
    have B7 : Hid (LR w (w7.alloc (Obj.cells #[Value.int IntKind.i64 n, Value.slice (some ⟨g7, 0, none⟩) zs.length zs.length, Value.slice (some ⟨go7, 0, none⟩) ko ko, Value.slice (some ⟨gv7, 0, none⟩) kv kv, Value.int IntKind.i64 fine] 30)) _ _) := B6.out.below Z7.out
    clear hb hg hl1 hl2 hl3
    obtain ⟨e0, e1, e2, e3, e4, e5, e6⟩ := B7.out.cells
    go_wp2_with fail
    clear e0 e1 e2 e3 e4 e5 e6
    generalize w7.alloc (Obj.cells #[Value.int IntKind.i64 n, Value.slice (some ⟨g7, 0, none⟩) zs.length zs.length, Value.slice (some ⟨go7, 0, none⟩) ko ko, Value.slice (some ⟨gv7, 0, none⟩) kv kv, Value.int IntKind.i64 fine] 30) = W7 at *
    generalize w7.heap.size = bx at *
    refine (toRoute_any veh bi c2 ids W7 (HI.out.below B7.out.b) hs4).mono ?_
    rintro e w8 ⟨gr8, hl4, rfl, hb, hg⟩
    have U7 : Hid (bx < gr8 ∧ g7 < gr8 ∧ go7 < gr8 ∧ gv7 < gr8) := ⟨Nat.lt_of_lt_of_le (row_lt X7.out) hl4, Nat.lt_of_lt_of_le (row_lt C7.out.1) hl4, Nat.lt_of_lt_of_le (row_lt C7.out.2.1) hl4, Nat.lt_of_lt_of_le (row_lt C7.out.2.2) hl4⟩
    have Z8 : Hid (Below w6.heap.size w6 (w8.alloc (Obj.cells #[Value.int IntKind.i64 veh, Value.slice (some ⟨gr8, 0, none⟩) ids.length ids.length] 32))) := (Z7.out.trans (hb.mono Z7.out.size)).alloc (Nat.le_trans Z7.out.size hb.size) _
    have X8 : Hid ((w8.alloc (Obj.cells #[Value.int IntKind.i64 veh, Value.slice (some ⟨gr8, 0, none⟩) ids.length ids.length] 32)).heap[bx]? = _) := (heap_alloc_old _ _ (row_lt (below_row hb (row_lt X7.out) X7.out))).trans (below_row hb (row_lt X7.out) X7.out)
    have Y8 : Hid ((w8.alloc (Obj.cells #[Value.int IntKind.i64 veh, Value.slice (some ⟨gr8, 0, none⟩) ids.length ids.length] 32)).heap[w8.heap.size]? = _) := heap_alloc_new _ _
    have C8 : Hid (CaseAt (w8.alloc (Obj.cells #[Value.int IntKind.i64 veh, Value.slice (some ⟨gr8, 0, none⟩) ids.length ids.length] 32)) g7 go7 gv7 zs os vs) := (C7.out.below hb).below ((Below.refl _ _).alloc (Nat.le_refl _) _)
    have R8 : Hid ((w8.alloc (Obj.cells #[Value.int IntKind.i64 veh, Value.slice (some ⟨gr8, 0, none⟩) ids.length ids.length] 32)).heap[gr8]? = _) := (heap_alloc_old _ _ (row_lt hg)).trans hg
    clear hb hg hl4 B7 Z7 X7 C7
    obtain ⟨x0, x1, x2, x3, x4⟩ := cells5 X8.out
    obtain ⟨y0, y1⟩ := cells2 Y8.out
    go_wp2_with fail
    clear x0 x1 x2 x3 x4 y0 y1
    generalize w8.alloc (Obj.cells #[Value.int IntKind.i64 veh, Value.slice (some ⟨gr8, 0, none⟩) ids.length ids.length] 32) = w9 at *
    generalize w8.heap.size = by8 at *
    refine (implLate_u n fine veh _ _ _ _ _ _ _ _ _ _ zs os vs ids w9 C8.out.t C8.out.o C8.out.v (IntsAt.of_row R8.out) HLO.out HLV.out (by omega) (by omega) (by omega) (Nat.le_refl _) K X H C HCC.out HKK.out HXX.out HHH.out).mono ?_
    rintro e w10 ⟨sl, rfl, hb, ho⟩
    have Z10 : Hid (Below w6.heap.size w6 w10) := Z8.out.trans (hb.mono Z8.out.size)
    have X10 : Hid (w10.heap[bx]? = _) := below_row hb (row_lt X8.out) X8.out
    have Y10 : Hid (w10.heap[by8]? = _) := below_row hb (row_lt Y8.out) Y8.out
    have C10 : Hid (CaseAt w10 g7 go7 gv7 zs os vs) := C8.out.below hb
    have R10 : Hid (w10.heap[gr8]? = _) := below_row hb (row_lt R8.out) R8.out
    have O10 : Hid (w10.ownsRow w9.heap.size 2 1 sl K _) := ho
    have U9 : Hid (gr8 < w9.heap.size ∧ g7 < w9.heap.size ∧ go7 < w9.heap.size ∧ gv7 < w9.heap.size) := ⟨row_lt R8.out, row_lt C8.out.1, row_lt C8.out.2.1, row_lt C8.out.2.2⟩
    have U9' : Hid (w6.heap.size ≤ w9.heap.size ∧ w9.heap.size ≤ w10.heap.size) := ⟨Z8.out.size, hb.size⟩
    clear hb ho Z8 X8 Y8 C8 R8
    generalize w9.heap.size = b9 at *
    have hHH : (H != H) = false := by simp
    go_wp2_with (first | (go_at_call 28; refine (eqIn_u sl ad K cw b9 X w10 O10.out (V6.out.below Z10.out) HXL.out (by omega)).mono ?_; rintro e w11 ⟨rfl, hb⟩))
    have Z11 : Hid (Below w6.heap.size w6 w11) := Z10.out.trans (Below.mono hb Z10.out.size)
    have X11 : Hid (w11.heap[bx]? = _) := below_row hb (row_lt X10.out) X10.out
    have Y11 : Hid (w11.heap[by8]? = _) := below_row hb (row_lt Y10.out) Y10.out
    have C11 : Hid (CaseAt w11 g7 go7 gv7 zs os vs) := C10.out.below hb
    have R11 : Hid (w11.heap[gr8]? = _) := below_row hb (row_lt R10.out) R10.out
    have O11 : Hid (w11.ownsRow b9 2 1 sl K _) := owns_below O10.out hb
    clear Z10 X10 Y10 C10 R10 O10
    have P11 : Hid (b9 ≤ w11.heap.size) := Nat.le_trans U9'.out.2 hb.size
    clear hb
    have B11 : Hid (LR w w11 _ _) := B6.out.below Z11.out
    obtain ⟨e0, e1, e2, e3, e4, e5, e6⟩ := B11.out.cells
    obtain ⟨x0, x1, x2, x3, x4⟩ := cells5 X11.out
    try go_wp2_with fail
    go_region_held3 (fun W => (W.cell? ⟨w.heap.size, 0, none⟩ = some (.int .i64 n) ∧ W.cell? ⟨w.heap.size, 1, none⟩ = some (.slice a zs.length cap) ∧ W.cell? ⟨w.heap.size, 2, none⟩ = some (.slice ao ko co) ∧ W.cell? ⟨w.heap.size, 3, none⟩ = some (.slice av kv cv) ∧ W.cell? ⟨w.heap.size, 4, none⟩ = some (.int .i64 fine) ∧ W.cell? ⟨w.heap.size + 1, 0, none⟩ = some (.int .i64 veh) ∧ W.cell? ⟨w.heap.size + 1, 1, none⟩ = some (.slice bi ids.length c2)) ∧ W.cell? ⟨bx, 0, none⟩ = some (.int .i64 n) ∧ W.cell? ⟨bx, 1, none⟩ = some (.slice (some ⟨g7, 0, none⟩) zs.length zs.length) ∧ W.cell? ⟨bx, 2, none⟩ = some (.slice (some ⟨go7, 0, none⟩) ko ko) ∧ W.cell? ⟨bx, 3, none⟩ = some (.slice (some ⟨gv7, 0, none⟩) kv kv) ∧ W.cell? ⟨bx, 4, none⟩ = some (.int .i64 fine)) (first | with_reducible exact kS | go_keep) ((first
    | (go_at_call 25
       with_reducible refine (toCase_any n fine a ao av cap ko co kv cv zs os vs w11.drew (HA.out.below B11.out.drew.b) (HO.out.below B11.out.drew.b) (HV.out.below B11.out.drew.b) HLO.out HLV.out hs1 hs2 hs3).mono ?_
       rintro e w12 ⟨g12, go12, gv12, _, _, _, rfl, hb', hg⟩
       have hb := (Below.refl w11.heap.size w11).drew.trans (hb'.mono (Nat.le_refl _))
       have Z12 : Hid (Below w6.heap.size w6 w12) := Z11.out.trans (Below.mono hb Z11.out.size)
       have X12 : Hid (w12.heap[bx]? = _) := below_row hb (row_lt X11.out) X11.out
       have Y12 : Hid (w12.heap[by8]? = _) := below_row hb (row_lt Y11.out) Y11.out
       have C12 : Hid (CaseAt w12 g7 go7 gv7 zs os vs) := C11.out.below hb
       have R12 : Hid (w12.heap[gr8]? = _) := below_row hb (row_lt R11.out) R11.out
       have O12 : Hid (w12.ownsRow b9 2 1 sl K _) := owns_below O11.out hb
       have P12 : Hid (b9 ≤ w12.heap.size) := Nat.le_trans P11.out hb.size
       have D12 : Hid (CaseAt w12 g12 go12 gv12 zs os vs) := hg
       have kS := And.intro (lr7' (B6.out.below Z12.out)) (cells5 X12.out)
       clear hb hb' hg)
    | (go_at_call 29
       with_reducible refine (eqCase_same n fine _ _ _ _ _ _ _ _ _ _ _ _ _ _ zs os vs w12 C12.out.t C12.out.o C12.out.v D12.out.t D12.out.o D12.out.v HLO.out HLV.out (by omega) (by omega) (by omega)).mono ?_
       rintro e w13 ⟨rfl, hb⟩
       have Z13 : Hid (Below w6.heap.size w6 w13) := Z12.out.trans (Below.mono hb Z12.out.size)
       have X13 : Hid (w13.heap[bx]? = _) := below_row hb (row_lt X12.out) X12.out
       have Y13 : Hid (w13.heap[by8]? = _) := below_row hb (row_lt Y12.out) Y12.out
       have C13 : Hid (CaseAt w13 g7 go7 gv7 zs os vs) := C12.out.below hb
       have R13 : Hid (w13.heap[gr8]? = _) := below_row hb (row_lt R12.out) R12.out
       have O13 : Hid (w13.ownsRow b9 2 1 sl K _) := owns_below O12.out hb
       have P13 : Hid (b9 ≤ w13.heap.size) := Nat.le_trans P12.out hb.size
       have kS := And.intro (lr7' (B6.out.below Z13.out)) (cells5 X13.out)
       clear hb)))
    all_goals
      clear e0 e1 e2 e3 e4 e5 e6 x0 x1 x2 x3 x4 kS B11 D12 P11 P12
      clear Z11 X11 Y11 C11 R11 O11
      clear Z12 X12 Y12 C12 R12 O12
      have B13 : Hid (LR w w13 _ _) := B6.out.below Z13.out
      obtain ⟨e0, e1, e2, e3, e4, e5, e6⟩ := B13.out.cells
      obtain ⟨y0, y1⟩ := cells2 Y13.out
      go_wp2_with fail
      go_region_held3 (fun W => (W.cell? ⟨w.heap.size, 0, none⟩ = some (.int .i64 n) ∧ W.cell? ⟨w.heap.size, 1, none⟩ = some (.slice a zs.length cap) ∧ W.cell? ⟨w.heap.size, 2, none⟩ = some (.slice ao ko co) ∧ W.cell? ⟨w.heap.size, 3, none⟩ = some (.slice av kv cv) ∧ W.cell? ⟨w.heap.size, 4, none⟩ = some (.int .i64 fine) ∧ W.cell? ⟨w.heap.size + 1, 0, none⟩ = some (.int .i64 veh) ∧ W.cell? ⟨w.heap.size + 1, 1, none⟩ = some (.slice bi ids.length c2)) ∧ W.cell? ⟨by8, 0, none⟩ = some (.int .i64 veh) ∧ W.cell? ⟨by8, 1, none⟩ = some (.slice (some ⟨gr8, 0, none⟩) ids.length ids.length)) (first | with_reducible exact kS | go_keep) ((first
      | (go_at_call 26
         with_reducible refine (toRoute_any veh bi c2 ids w13.drew (HI.out.below B13.out.drew.b) hs4).mono ?_
         rintro e w14 ⟨gr14, _, rfl, hb', hg⟩
         have hb := (Below.refl w13.heap.size w13).drew.trans (hb'.mono (Nat.le_refl _))
         have Z14 : Hid (Below w6.heap.size w6 w14) := Z13.out.trans (Below.mono hb Z13.out.size)
         have X14 : Hid (w14.heap[bx]? = _) := below_row hb (row_lt X13.out) X13.out
         have Y14 : Hid (w14.heap[by8]? = _) := below_row hb (row_lt Y13.out) Y13.out
         have C14 : Hid (CaseAt w14 g7 go7 gv7 zs os vs) := C13.out.below hb
         have R14 : Hid (w14.heap[gr8]? = _) := below_row hb (row_lt R13.out) R13.out
         have O14 : Hid (w14.ownsRow b9 2 1 sl K _) := owns_below O13.out hb
         have P14 : Hid (b9 ≤ w14.heap.size) := Nat.le_trans P13.out hb.size
         have J14 : Hid (IntsAt w14 (some ⟨gr14, 0, none⟩) ids) := IntsAt.of_row hg
         have kS := And.intro (lr7' (B6.out.below Z14.out)) (cells2 Y14.out)
         clear hb hb' hg)
      | (go_at_call 30
         with_reducible refine (eqRoute_same veh _ _ _ _ ids w14 (IntsAt.of_row R14.out) J14.out (by omega)).mono ?_
         rintro e w15 ⟨rfl, hb⟩
         have Z15 : Hid (Below w6.heap.size w6 w15) := Z14.out.trans (Below.mono hb Z14.out.size)
         have X15 : Hid (w15.heap[bx]? = _) := below_row hb (row_lt X14.out) X14.out
         have Y15 : Hid (w15.heap[by8]? = _) := below_row hb (row_lt Y14.out) Y14.out
         have C15 : Hid (CaseAt w15 g7 go7 gv7 zs os vs) := C14.out.below hb
         have R15 : Hid (w15.heap[gr8]? = _) := below_row hb (row_lt R14.out) R14.out
         have O15 : Hid (w15.ownsRow b9 2 1 sl K _) := owns_below O14.out hb
         have P15 : Hid (b9 ≤ w15.heap.size) := Nat.le_trans P14.out hb.size
         have kS := And.intro (lr7' (B6.out.below Z15.out)) (cells2 Y15.out)
         clear hb)))
      all_goals
        clear e0 e1 e2 e3 e4 e5 e6 y0 y1 kS B13 J14 P13 P14
        clear Z13 X13 Y13 C13 R13 O13
        clear Z14 X14 Y14 C14 R14 O14
        have N1 : Hid (¬ (by8 = g7 ∨ by8 = go7 ∨ by8 = gv7) ∧ by8 ≠ gr8) := ⟨fun h => by
          rcases h with h | h | h
          · exact type_ne Y15.out C15.out.1 (by decide) h
          · exact type_ne Y15.out C15.out.2.1 (by decide) h
          · exact type_ne Y15.out C15.out.2.2 (by decide) h, type_ne Y15.out R15.out (by decide)⟩
        obtain ⟨x0, x1, x2, x3, x4⟩ := cells5 X15.out
        go_wp2_with fail
        clear x0 x1 x2 x3 x4
        refine (markCase_any n fine g7 go7 gv7 _ ko _ kv _ zs os vs w15 C15.out HLO.out HLV.out hs1 hs2 hs3).mono ?_
        rintro e w16 ⟨kk, rfl, hk1, hk2, hg⟩
        have Z16 : Hid (Below w6.heap.size w6 w16) := Z15.out.trans (hg.below Z15.out.size (fun b h => by have h9 := L7.out; rcases h with h | h | h <;> omega))
        have Y16 : Hid (w16.heap[by8]? = _) := hg.row Y15.out N1.out.1
        have R16 : Hid (w16.heap[gr8]? = _) := hg.row R15.out (fun h => by have h9 := U7.out; rcases h with h | h | h <;> omega)
        have O16 : Hid (w16.ownsRow b9 2 1 sl K _) := hg.owns O15.out (fun b h => by have h9 := U9.out; rcases h with h | h | h <;> omega)
        have P16 : Hid (b9 ≤ w16.heap.size) := Nat.le_trans P15.out hg.size
        clear hg P15
        clear Z15 X15 Y15 C15 R15 O15
        obtain ⟨y0, y1⟩ := cells2 Y16.out
        go_wp2_with fail
        clear y0 y1
        refine (markRoute_any veh kk gr8 _ ids w16 R16.out hk1 (by omega) hs4).mono ?_
        rintro e w17 ⟨rfl, hg⟩
        have Z17 : Hid (Below w6.heap.size w6 w17) := Z16.out.trans (hg.below Z16.out.size (fun b h => by have h9 := L7.out; have h8 := U7.out; omega))
        have O17 : Hid (w17.ownsRow b9 2 1 sl K _) := hg.owns O16.out (fun b h => by have h9 := U9.out; omega)
        have P17 : Hid (b9 ≤ w17.heap.size) := Nat.le_trans P16.out hg.size
        clear hg P16 Z16 Y16 R16 O16
        obtain ⟨kq, HKQ⟩ : ∃ t, Hid (kk + (ids.length : Int) = t) := ⟨_, rfl⟩
        have hkq : 0 ≤ kq := by have := HKQ.out; omega
        rw [HKQ.out]
        go_wp2_with (first | (go_at_call 28; refine (eqIn_u sl ad K cw b9 X w17 O17.out (V6.out.below Z17.out) HXL.out (by omega)).mono ?_; rintro e w18 ⟨rfl, hb⟩; have Z18 : Hid (Below w6.heap.size w6 w18) := Z17.out.trans (Below.mono hb Z17.out.size); have O18 : Hid (w18.ownsRow b9 2 1 sl K _) := owns_below O17.out hb; have P18 : Hid (b9 ≤ w18.heap.size) := Nat.le_trans P17.out hb.size; clear hb))
        try go_wp2_with fail
        refine (markIn_u sl K b9 X w18 O18.out P18.out (by omega)).mono ?_
        rintro e w19 ⟨rfl, hb, hm⟩
        have Z19 : Hid (Below w6.heap.size w6 w19) := Z18.out.trans (hb.mono U9'.out.1)
        have M19 : Hid (MarkedI w19 sl K) := hm
        clear hb hm P17 P18 Z17 Z18 O17 O18
        obtain ⟨q, HQ⟩ : ∃ t, Hid ((1 : Int) + ((K : Nat) : Int) = t) := ⟨_, rfl⟩
        have hq : 0 ≤ q := by have := HQ.out; omega
        rw [HQ.out]
        go_wp2_with fail
        refine (heldIn_u sl K w19 M19.out (by omega)).mono ?_
        rintro e w19' ⟨rfl, rfl⟩
        rw [HQ.out]
        have hqq : (q != q) = false := by simp
        have B19 : Hid (LR w w19' _ _) := B6.out.below Z19.out
        obtain ⟨e0, e1, e2, e3, e4, e5, e6⟩ := B19.out.cells
        go_wp2_with fail
        go_region_held3 (fun W => W.cell? ⟨w.heap.size, 0, none⟩ = some (.int .i64 n) ∧ W.cell? ⟨w.heap.size, 1, none⟩ = some (.slice a zs.length cap) ∧ W.cell? ⟨w.heap.size, 2, none⟩ = some (.slice ao ko co) ∧ W.cell? ⟨w.heap.size, 3, none⟩ = some (.slice av kv cv) ∧ W.cell? ⟨w.heap.size, 4, none⟩ = some (.int .i64 fine) ∧ W.cell? ⟨w.heap.size + 1, 0, none⟩ = some (.int .i64 veh) ∧ W.cell? ⟨w.heap.size + 1, 1, none⟩ = some (.slice bi ids.length c2)) (first | with_reducible exact kS | go_keep) ((first
        | (go_at_call 25
           with_reducible refine (toCase_any n fine a ao av cap ko co kv cv zs os vs w19'.drew (HA.out.below B19.out.drew.b) (HO.out.below B19.out.drew.b) (HV.out.below B19.out.drew.b) HLO.out HLV.out hs1 hs2 hs3).mono ?_
           rintro e w20 ⟨g20, go20, gv20, _, _, _, rfl, hb', hg⟩
           have hb := (Below.refl w19'.heap.size w19').drew.trans (hb'.mono (Nat.le_refl _))
           have B20 : Hid (LR w w20 _ _) := B19.out.below hb
           have Z20 : Hid (Below w6.heap.size w6 w20) := Z19.out.trans (Below.mono hb Z19.out.size)
           have M20 : Hid (MarkedI w20 sl K) := M19.out.below hb
           have C20 : Hid (CaseAt w20 g20 go20 gv20 zs os vs) := hg
           obtain ⟨k0, k1, k2, k3, k4, k5, k6⟩ := B20.out.cells
           have kS := And.intro k0 (And.intro k1 (And.intro k2 (And.intro k3 (And.intro k4 (And.intro k5 k6)))))
           clear hb hb' hg
           clear k0 k1 k2 k3 k4 k5 k6)
        | (go_at_call 26
           with_reducible refine (toRoute_any veh bi c2 ids w20 (HI.out.below B20.out.b) hs4).mono ?_
           rintro e w21 ⟨gr21, _, rfl, hb, hg⟩
           have B21 : Hid (LR w w21 _ _) := B20.out.below hb
           have Z21 : Hid (Below w6.heap.size w6 w21) := Z20.out.trans (Below.mono hb Z20.out.size)
           have M21 : Hid (MarkedI w21 sl K) := M20.out.below hb
           have C21 : Hid (CaseAt w21 g20 go20 gv20 zs os vs) := C20.out.below hb
           have I21 : Hid (IntsAt w21 (some ⟨gr21, 0, none⟩) ids) := IntsAt.of_row hg
           obtain ⟨k0, k1, k2, k3, k4, k5, k6⟩ := B21.out.cells
           have kS := And.intro k0 (And.intro k1 (And.intro k2 (And.intro k3 (And.intro k4 (And.intro k5 k6)))))
           clear hb hg
           clear k0 k1 k2 k3 k4 k5 k6)
        | (go_at_call 27
           with_reducible refine (implLate_u n fine veh _ _ _ _ _ _ _ _ _ _ zs os vs ids w21 C21.out.t C21.out.o C21.out.v I21.out HLO.out HLV.out (by omega) (by omega) (by omega) (Nat.le_refl _) K X H C HCC.out HKK.out HXX.out HHH.out).mono ?_
           rintro e w22 ⟨sl2, rfl, hb, ho⟩
           have B22 : Hid (LR w w22 _ _) := B21.out.below hb
           have Z22 : Hid (Below w6.heap.size w6 w22) := Z21.out.trans (Below.mono hb Z21.out.size)
           have M22 : Hid (MarkedI w22 sl K) := M21.out.below hb
           have O22 : Hid (w22.ownsRow w21.heap.size 2 1 sl2 K _) := ho
           obtain ⟨k0, k1, k2, k3, k4, k5, k6⟩ := B22.out.cells
           have kS := And.intro k0 (And.intro k1 (And.intro k2 (And.intro k3 (And.intro k4 (And.intro k5 k6)))))
           clear hb ho
           clear k0 k1 k2 k3 k4 k5 k6)))
        all_goals
          clear e0 e1 e2 e3 e4 e5 e6 kS B20 Z20 M20 C20 B21 Z21 M21 C21 I21
          go_wp2_with (first | (go_at_call 28; refine (eqIn_u sl2 ad K cw w21.heap.size X w22 O22.out (V6.out.below Z22.out) HXL.out (by omega)).mono ?_; rintro e w23 ⟨rfl, hb⟩; have B23 : Hid (LR w w23 _ _) := B22.out.below hb; have M23 : Hid (MarkedI w23 sl K) := M22.out.below hb; clear hb))
          try go_wp2_with fail
          refine (heldIn_u sl K w23 M23.out (by omega)).mono ?_
          rintro e w24 ⟨rfl, rfl⟩
          rw [HQ.out]
          go_wp2
          go_ret
          exact ⟨rfl, B23.out.b⟩

end Go.Proofs.Ytmohcdnhbhigdaa
