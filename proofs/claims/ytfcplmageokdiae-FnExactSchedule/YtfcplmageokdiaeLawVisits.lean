import Derived.Test.YtfcplmageokdiaeMarkVisits
import Derived.Test.YtfcplmageokdiaeLawMarks
import Derived.Test.YtfcplmageokdiaeImplSched
namespace Go.Proofs.Ytfcplmageokdiae
open Go.RowKit

set_option maxHeartbeats 400000 in
theorem eqVisit_same (x0 x1 x2 x3 : Int) (w : World) :
    Calls Try.prog 53 #[.agg #[.int .i64 x0, .int .i64 x1, .int .i64 x2, .int .i64 x3], .agg #[.int .i64 x0, .int .i64 x1, .int .i64 x2, .int .i64 x3]] w fun e w' => e = .returned (.bool true) ∧ Below w.heap.size w w' := by
  go_enter Try.func53, Try.ntmps53
  go_wp2
  go_ret
  exact ⟨rfl, ((Below.refl _ _).alloc (Nat.le_refl _) _).alloc (by simp) _⟩

theorem row4_at {w : World} {b off : Nat} {zs : List Int} {n : Nat} (h : ∀ j, j < zs.length → w.cell? ⟨b, off + j, none⟩ = some (.int .i64 (zs.getD j 0))) (hl : zs.length = n * 4) (i : Nat) (hi : i < n) :
    w.cell? ⟨b, off + i * 4, none⟩ = some (.int .i64 (zs.getD (i * 4) 0)) ∧ w.cell? ⟨b, off + i * 4 + 1, none⟩ = some (.int .i64 (zs.getD (i * 4 + 1) 0)) ∧ w.cell? ⟨b, off + i * 4 + 2, none⟩ = some (.int .i64 (zs.getD (i * 4 + 2) 0)) ∧ w.cell? ⟨b, off + i * 4 + 3, none⟩ = some (.int .i64 (zs.getD (i * 4 + 3) 0)) :=
  ⟨h _ (by omega), h (i * 4 + 1) (by omega), h (i * 4 + 2) (by omega), h (i * 4 + 3) (by omega)⟩

set_option maxHeartbeats 1000000 in
theorem eqVisits_same (a b : Option Addr) (n c1 c2 : Nat) (xs : List Int) (w : World) (hA : IntsAt w a xs) (hB : IntsAt w b xs) (hl : xs.length = n * 4) (hn : n ≤ 1000000) :
    Calls Try.prog 15 #[.slice a n c1, .slice b n c2] w fun e w' => e = .returned (.bool true) ∧ Below w.heap.size w w' := by
  have HA : Hid (IntsAt w a xs) := hA
  have HB : Hid (IntsAt w b xs) := hB
  have HL : Hid (xs.length = n * 4) := hl
  clear hA hB hl
  go_enter Try.func15, Try.ntmps15
  go_wp2_with fail
  go_loopw [5] (fun t wr => ∃ k : Nat, k ≤ n ∧ t = .int .i64 k ∧ Below w.heap.size w wr) (fun t _ => n - (intOf t).toNat)
  case atStart => exact ⟨0, Nat.zero_le _, rfl, Below.refl _ _⟩
  case round =>
    obtain ⟨k, hk, rfl, hb⟩ := hrel
    have HW : Hid (Below w.heap.size w wr) := hb
    clear hb
    by_cases hlt : k < n
    · obtain ⟨b1, o1, rfl, hc1⟩ := IntsAt.some (IntsAt.below HA.out HW.out) (j := k * 4) (by rw [HL.out]; omega)
      obtain ⟨b2, o2, rfl, hc2⟩ := IntsAt.some (IntsAt.below HB.out HW.out) (j := k * 4) (by rw [HL.out]; omega)
      obtain ⟨y0, y1, y2, y3⟩ := row4_at hc1 HL.out k hlt
      obtain ⟨z0, z1, z2, z3⟩ := row4_at hc2 HL.out k hlt
      clear hc1 hc2
      generalize xs.getD (k * 4) 0 = x0 at *
      generalize xs.getD (k * 4 + 1) 0 = x1 at *
      generalize xs.getD (k * 4 + 2) 0 = x2 at *
      generalize xs.getD (k * 4 + 3) 0 = x3 at *
      go_wp2_with fail
      have e0 := fun s : Kin wr => s.cell y0
      have e1 := fun s : Kin wr => s.cell y1
      have e2 := fun s : Kin wr => s.cell y2
      have e3 := fun s : Kin wr => s.cell y3
      have f0 := fun s : Kin wr => s.cell z0
      have f1 := fun s : Kin wr => s.cell z1
      have f2 := fun s : Kin wr => s.cell z2
      have f3 := fun s : Kin wr => s.cell z3
      have hkin := Kin.there wr
      refine wp_region_kin (by kernel_rfl) (by kernel_rfl) ?_
      repeat (go_big_quiet_step ((go_at_call 53; exact Kin.call (eqVisit_same x0 x1 x2 x3 _))))
      refine wpQuiet_nil ?_
      rintro _ ⟨s, rfl⟩
      have HW2 : Hid (Below w.heap.size w s.w) := HW.out.trans (s.below.mono HW.out.size)
      clear e0 e1 e2 e3 f0 f1 f2 f3 hkin y0 y1 y2 y3 z0 z1 z2 z3
      generalize s.w = W2 at *
      go_wp2
      go_roundw
      case rel => exact ⟨k + 1, by omega, by go_num, HW2.out⟩
      case measure => simp [intOf]; omega
    · go_wp2
      go_ret
      exact ⟨rfl, HW.out⟩

/-- A slice of visits that was marked from 1 on. -/
def MarkedV (W : World) (sl : Value) (K : Nat) : Prop := (sl = .slice none 0 0 ∧ K = 0) ∨ ∃ g cap, sl = .slice (some ⟨g, 0, none⟩) K cap ∧ g < W.heap.size ∧ ∀ j, j < K * 4 → W.cell? ⟨g, j, none⟩ = some (.int .i64 (1 + (j : Nat)))
theorem MarkedV.below {W W' : World} {sl : Value} {K : Nat} (h : MarkedV W sl K) (hb : Below W.heap.size W W') : MarkedV W' sl K := by
  rcases h with h | ⟨g, cap, h1, h2, h3⟩
  · exact .inl h
  · exact .inr ⟨g, cap, h1, Nat.lt_of_lt_of_le h2 hb.size, fun j hj => (hb.cell (p := ⟨g, j, none⟩) h2).trans (h3 j hj)⟩
theorem owns_at {w : World} {base n : Nat} {e : TypeId} {sl : Value} {xs : List Int} (h : w.ownsRow base e 4 sl n (xs.map (Value.int .i64))) : ∃ a c, sl = .slice a n c ∧ IntsAt w a xs := by
  obtain ⟨h1, ⟨rfl, h2⟩ | ⟨g, cap, cur, rfl, h3, h4, h5⟩⟩ := id h
  · subst h2
    have : xs = [] := by simpa using h1
    subst this
    exact ⟨none, 0, rfl, fun j hj => by simp at hj⟩
  · exact ⟨_, _, rfl, owns_ints h⟩

theorem markVis_u (sl : Value) (K base : Nat) (xs : List Int) (w : World) (ho : w.ownsRow base 83 4 sl K (xs.map (Value.int .i64))) (hb : base ≤ w.heap.size) (hK : K ≤ 1000000) :
    Calls Try.prog 20 #[sl, .int .i64 1] w fun e w' => e = .returned (.int .i64 (1 + ((K * 4 : Nat) : Int))) ∧ Below base w w' ∧ MarkedV w' sl K := by
  obtain ⟨h1, ⟨rfl, rfl⟩ | ⟨g, cap, cur, rfl, h3, h4, h5, _, h7, _⟩⟩ := ho
  · refine (markVisitS_nil none 0 1 w).mono ?_
    rintro e w' ⟨rfl, rfl⟩
    exact ⟨rfl, Below.refl _ _, .inl ⟨rfl, rfl⟩⟩
  · have hsz : K * 4 ≤ cur.size := by rw [h7]; exact Nat.mul_le_mul_right 4 h5
    refine (markVisitS_any g K cap 1 cur _ w h4 hsz (by omega) (by omega) (by omega)).mono ?_
    rintro e w' ⟨rfl, hg, hr⟩
    refine ⟨rfl, (Below.refl _ _).grown hg hb (fun k e => by cases e; exact h3), .inr ⟨g, cap, rfl, row_lt hr, fun j hj => ?_⟩⟩
    rw [cell_of_row _ _ j _ _ _ hr]
    exact markA_get cur 1 (K * 4) hsz j hj
theorem heldVis_u (sl : Value) (K : Nat) (w : World) (hm : MarkedV w sl K) (hK : K ≤ 1000000) :
    Calls Try.prog 21 #[sl, .int .i64 1] w fun e w' => e = .returned (.int .i64 (1 + ((K * 4 : Nat) : Int))) ∧ w' = w := by
  rcases hm with ⟨rfl, rfl⟩ | ⟨g, cap, rfl, _, hc⟩
  · exact (heldVisitS_nil none 0 1 w).mono fun e w' ⟨h1, h2⟩ => ⟨h1, h2⟩
  · exact heldVisitS_any g K cap 1 w hc (by omega) (by omega) (by omega)
theorem eqVis_u (sl : Value) (b : Option Addr) (K c2 base : Nat) (xs : List Int) (w : World) (ho : w.ownsRow base 83 4 sl K (xs.map (Value.int .i64))) (hB : IntsAt w b xs) (hl : xs.length = K * 4) (hK : K ≤ 1000000) :
    Calls Try.prog 15 #[sl, .slice b K c2] w fun e w' => e = .returned (.bool true) ∧ Below w.heap.size w w' := by
  obtain ⟨a, c, rfl, hA⟩ := owns_at ho
  exact eqVisits_same a b K c c2 xs w hA hB hl hK

/-- What Schedule tells: how many visits, which, when it is home. -/
def schedK (code : Int) (k : Nat) : Nat := if code = 0 then k else 0
def schedX (code : Int) (xs : List Int) : List Int := if code = 0 then xs else []
def schedH (code h : Int) : Int := if code = 0 then h else 0
theorem specSched_u (n fine veh : Int) (a ao av bi : Option Addr) (cap ko co kv cv c2 : Nat) (zs os vs ids : List Int) (w : World) (hA : IntsAt w a zs) (hO : IntsAt w ao os) (hV : IntsAt w av vs) (hI : IntsAt w bi ids) (hlo : os.length = ko * 6) (hlv : vs.length = kv * 5) (hko : ko ≤ 9223372036854775807) (hkv : kv ≤ 9223372036854775807) (hli : ids.length ≤ 9223372036854775807) (hc2 : ids.length ≤ c2) (K : Nat) (X : List Int) (H C : Int) (hC : codeV (caseB n zs os vs ko kv fine) n zs os vs ko kv veh ids = C) (hK : schedK C ids.length = K) (hX : schedX C (visL n zs (rosOf os ko ids) (fnd5F vs kv veh 1) (fnd5F vs kv veh 3) ids.length) = X) (hH : schedH C (homeV n zs (rosOf os ko ids) ids.length (fnd5F vs kv veh 1) (fnd5F vs kv veh 3)) = H) :
    Calls Try.prog 11 #[.agg #[.int .i64 n, .slice a zs.length cap, .slice ao ko co, .slice av kv cv, .int .i64 fine], .agg #[.int .i64 veh, .slice bi ids.length c2]] w fun e w' => ∃ ad c, e = .returned (.tuple #[.slice ad K c, .int .i64 H, .int .i64 C]) ∧ Below w.heap.size w w' ∧ IntsAt w' ad X := by
  refine (specSchedule_any n fine veh a ao av bi cap ko co kv cv c2 zs os vs ids w hA hO hV hI hlo hlv hko hkv hli hc2).mono ?_
  rintro e w' ⟨hb, ⟨hf, rfl⟩ | ⟨hf, g, c, _, rfl, hv⟩⟩
  · rw [hC] at hf ⊢
    unfold schedK at hK
    unfold schedX at hX
    unfold schedH at hH
    rw [if_neg hf] at hK hX hH
    subst hK hX hH
    exact ⟨none, 0, rfl, hb, fun j hj => by simp at hj⟩
  · rw [hC] at hf
    unfold schedK at hK
    unfold schedX at hX
    unfold schedH at hH
    rw [if_pos hf] at hK hX hH
    subst hK hX hH
    exact ⟨some ⟨g, 0, none⟩, c, by rw [hf], hb, hv⟩
theorem implSched_u (n fine veh : Int) (a ao av bi : Option Addr) (cap ko co kv cv c2 : Nat) (zs os vs ids : List Int) (w : World) (hA : IntsAt w a zs) (hO : IntsAt w ao os) (hV : IntsAt w av vs) (hI : IntsAt w bi ids) (hlo : os.length = ko * 6) (hlv : vs.length = kv * 5) (hko : ko ≤ 9223372036854775807) (hkv : kv ≤ 9223372036854775807) (hli : ids.length ≤ 9223372036854775807) (hc2 : ids.length ≤ c2) (K : Nat) (X : List Int) (H C : Int) (hC : codeV (caseB n zs os vs ko kv fine) n zs os vs ko kv veh ids = C) (hK : schedK C ids.length = K) (hX : schedX C (visL n zs (rosOf os ko ids) (fnd5F vs kv veh 1) (fnd5F vs kv veh 3) ids.length) = X) (hH : schedH C (homeV n zs (rosOf os ko ids) ids.length (fnd5F vs kv veh 1) (fnd5F vs kv veh 3)) = H) :
    Calls Try.prog 14 #[.agg #[.int .i64 n, .slice a zs.length cap, .slice ao ko co, .slice av kv cv, .int .i64 fine], .agg #[.int .i64 veh, .slice bi ids.length c2]] w fun e w' => ∃ sl, e = .returned (.tuple #[sl, .int .i64 H, .int .i64 C]) ∧ Below w.heap.size w w' ∧ w'.ownsRow w.heap.size 83 4 sl K (X.map (Value.int .i64)) := by
  refine (implSchedule_any n fine veh a ao av bi cap ko co kv cv c2 zs os vs ids w hA hO hV hI hlo hlv hko hkv hli hc2).mono ?_
  rintro e w' ⟨hb, ⟨hf, rfl⟩ | ⟨hf, sl, rfl, hv⟩⟩
  · rw [hC] at hf ⊢
    unfold schedK at hK
    unfold schedX at hX
    unfold schedH at hH
    rw [if_neg hf] at hK hX hH
    subst hK hX hH
    exact ⟨_, rfl, hb, World.ownsRow_nil _ _ _ _⟩
  · rw [hC] at hf
    unfold schedK at hK
    unfold schedX at hX
    unfold schedH at hH
    rw [if_pos hf] at hK hX hH
    subst hK hX hH
    exact ⟨sl, by rw [hf], hb, hv⟩
theorem schedX_length (code : Int) (n : Int) (zs ros : List Int) (home frm : Int) (m : Nat) : (schedX code (visL n zs ros home frm m)).length = schedK code m * 4 := by
  unfold schedX schedK
  by_cases h : code = 0
  · rw [if_pos h, if_pos h, visL_length]
  · rw [if_neg h, if_neg h]
    rfl
theorem schedK_le {c : Bool} {n : Int} {zs os vs : List Int} {ko kv : Nat} {veh : Int} {ids : List Int} : schedK (codeV c n zs os vs ko kv veh ids) ids.length ≤ 12 := by
  unfold schedK
  by_cases h : codeV c n zs os vs ko kv veh ids = 0
  · rw [if_pos h]
    exact (stopsB_true (formV_zero (codeV_zero h).1).2.2).1
  · rw [if_neg h]
    omega

end Go.Proofs.Ytfcplmageokdiae
