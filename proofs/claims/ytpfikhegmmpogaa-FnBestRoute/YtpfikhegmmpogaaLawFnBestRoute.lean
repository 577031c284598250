import Derived.Test.YtpfikhegmmpogaaPack1
import Derived.Test.YtpfikhegmmpogaaDrawBR
import Derived.Test.YtpfikhegmmpogaaPack14
import Derived.Test.YtpfikhegmmpogaaPack18
import Derived.Test.YtpfikhegmmpogaaPlainBR
import Derived.Test.YtpfikhegmmpogaaPack21
import Derived.Test.YtpfikhegmmpogaaPack22
import Derived.Test.YtpfikhegmmpogaaPack23
import Derived.Test.YtpfikhegmmpogaaImplPolished
import Derived.Test.YtpfikhegmmpogaaPack29
namespace Go.Proofs.Ytpfikhegmmpogaa
open Go.RowKit

set_option maxRecDepth 10000 in
set_option maxHeartbeats 400000 in
theorem lawFnBestRoute_big (a : Option Addr) (c len : Nat) (w : World) (hl : len ≤ 9223372036854775807) (h : 1048576 < len) :
    Calls Try.prog 3 #[.slice a len c] w fun e w' => e = .returned (.bool true) ∧ Below w.heap.size w w' := by
  have hd : decide (1048576 < len) = true := decide_eq_true h
  go_enter Try.func3, Try.ntmps3
  go_wp2_with (go_at_call 8; refine (big_any a c len w hl).mono ?_; rintro e w1 ⟨rfl, hw1⟩; subst w1; rw [hd])
  go_ret
  exact ⟨rfl, Below.refl _ _⟩

/-- Inside the law: the case in its box, its rows, the list. -/
structure KB (w W : World) (k : Nat) (cs : Array Value) (g go gv : Nat) (zs O V : List Int) (ao : Option Addr) (L : List Int) : Prop where
  b : Below w.heap.size w W
  b1 : W.heap[k]? = some (.cells cs 30 (0, 0))
  iz : IntsAt W (some ⟨g, 0, none⟩) zs
  io : IntsAt W (some ⟨go, 0, none⟩) O
  iv : IntsAt W (some ⟨gv, 0, none⟩) V
  il : IntsAt W ao L
theorem KB.below {w W W' : World} {k : Nat} {cs : Array Value} {g go gv : Nat} {zs O V : List Int} {ao : Option Addr} {L : List Int} (h : KB w W k cs g go gv zs O V ao L) (hb : Below W.heap.size W W') : KB w W' k cs g go gv zs O V ao L :=
  ⟨h.b.trans (hb.mono h.b.size), below_row hb (row_lt h.b1) h.b1, h.iz.below hb, h.io.below hb, h.iv.below hb, h.il.below hb⟩
/-- A route in a box, its stops. -/
structure RB (W : World) (kx : Nat) (v : Int) (ad : Option Addr) (l cc : Nat) (xs : List Int) : Prop where
  x : W.heap[kx]? = some (.cells #[.int .i64 v, .slice ad l cc] 34 (0, 0))
  i : IntsAt W ad xs
theorem RB.below {W W' : World} {kx : Nat} {v : Int} {ad : Option Addr} {l cc : Nat} {xs : List Int} (h : RB W kx v ad l cc xs) (hb : Below W.heap.size W W') : RB W' kx v ad l cc xs := ⟨below_row hb (row_lt h.x) h.x, h.i.below hb⟩
theorem own_ic {w : World} {base m c : Nat} {e : TypeId} {ad : Option Addr} {xs : List Int} (h : w.ownsRow base e 1 (.slice ad m c) m (xs.map (Value.int .i64))) : IntsAt w ad xs ∧ m ≤ c := own_at_cap4 h
theorem chg_at {w w' : World} {ch : Bool} {veh D : Int} {xs : List Int} {e : Ending} (h : ChgOk w ch veh D xs e w') : ∃ ad cc, e = .returned (.tuple #[.agg #[.int .i64 (chI ch veh), .slice ad xs.length cc], .int .i64 D, .bool ch]) ∧ Below w.heap.size w w' ∧ IntsAt w' ad xs ∧ xs.length ≤ cc := by
  obtain ⟨hb, ad, cc, rfl, ho⟩ := h
  obtain ⟨h1, h2⟩ := own_ic ho
  exact ⟨ad, cc, rfl, hb, h1, h2⟩
theorem pol_at {w w' : World} {ok : Bool} {veh : Int} {xs : List Int} {e : Ending} (h : PolOk w ok veh xs e w') : ∃ ad cc, e = .returned (.tuple #[.agg #[.int .i64 (chI ok veh), .slice ad xs.length cc], .bool ok]) ∧ Below w.heap.size w w' ∧ IntsAt w' ad xs ∧ xs.length ≤ cc := by
  obtain ⟨hb, ad, cc, rfl, ho⟩ := h
  obtain ⟨h1, h2⟩ := own_ic ho
  exact ⟨ad, cc, rfl, hb, h1, h2⟩

set_option maxRecDepth 10000 in
set_option maxHeartbeats 8000000 in
theorem lawFnBestRoute (a : Option Addr) (ca : Nat) (bs : List Int) (w : World) (hA : CodeAt w a bs) (hl : bs.length ≤ 1048576) :
    Calls Try.prog 3 #[.slice a bs.length ca] w fun e w' => e = .returned (.bool true) ∧ Below w.heap.size w w' := by
  have HA : Hid (CodeAt w a bs) := hA
  clear hA
  have hd : decide (1048576 < bs.length) = false := decide_eq_false (by omega)
  go_enter Try.func3, Try.ntmps3
  go_wp2_with fail
  refine (big_any a ca bs.length w (by omega)).mono ?_
  rintro e w1 ⟨rfl, hw1⟩
  subst w1
  rw [hd]
  clear hd
  go_wp2_with fail
  refine (drawBestRoute_any a ca bs w HA.out hl).mono ?_
  rintro e w1 ⟨n, g, zl, cg, go, ko, co, gv, kv, cv, zs, O, V, L, fi, veh, ao, m, co2, rfl, ⟨hz, hO, hV, hko1, hko5, hkv1, hkv3⟩, ⟨hm, hm4, hmc, hadr⟩, hb, iz, io, iv, il⟩
  obtain ⟨N, HLb⟩ : ∃ v, Hid (bs.length = v) := ⟨_, rfl⟩
  rw [HLb.out] at hl ⊢
  have HM : Hid (L.length = m) := hm
  have HAD : Hid (AdrOk ao m co2) := hadr
  have HAO : Hid (AdO ao) := by
    rcases hadr with ⟨h, _⟩ | ⟨g, h⟩
    · exact .inl h
    · exact .inr ⟨g, 0, h⟩
  have HZ : Hid (zs.length = zl) := hz
  have HO : Hid (O.length = ko * 6) := hO
  have HV : Hid (V.length = kv * 5) := hV
  have K1 : Hid (KB w (w1.alloc (.cells #[.int .i64 n, .slice (some ⟨g, 0, none⟩) zl cg, .slice (some ⟨go, 0, none⟩) ko co, .slice (some ⟨gv, 0, none⟩) kv cv, .int .i64 fi] 30)) w1.heap.size #[.int .i64 n, .slice (some ⟨g, 0, none⟩) zl cg, .slice (some ⟨go, 0, none⟩) ko co, .slice (some ⟨gv, 0, none⟩) kv cv, .int .i64 fi] g go gv zs O V ao L) := by
    have ha : Below w1.heap.size w1 (w1.alloc (.cells #[.int .i64 n, .slice (some ⟨g, 0, none⟩) zl cg, .slice (some ⟨go, 0, none⟩) ko co, .slice (some ⟨gv, 0, none⟩) kv cv, .int .i64 fi] 30)) := (Below.refl _ _).alloc (Nat.le_refl _) _
    exact ⟨hb.trans (ha.mono hb.size), heap_alloc_new _ _, iz.below ha, io.below ha, iv.below ha, il.below ha⟩
  clear hz hO hV hm hb iz io iv il hadr
  obtain ⟨cb, HCB⟩ : ∃ v, Hid (caseB n zs O V ko kv fi = v) := ⟨_, rfl⟩
  obtain ⟨F, HF⟩ : ∃ v, Hid (facN m = v) := ⟨_, rfl⟩
  have hF7 : F ≤ 720 := by rw [← HF.out]; exact facN_bd m (by omega)
  have HCV : Hid (countV (m : Int) = (F : Int)) := by show _ = _; rw [countV_yes (by omega), fac_nat, HF.out]
  obtain ⟨s0, HS0⟩ : ∃ v, Hid (brV cb n zs O V ko kv veh L = v) := ⟨_, rfl⟩
  obtain ⟨ok, HOK⟩ : ∃ v, Hid (brB cb n zs O V ko kv veh L = v) := ⟨_, rfl⟩
  obtain ⟨dl, HDL⟩ : ∃ v, Hid (brC n zs O V ko kv veh L = v) := ⟨_, rfl⟩
  have HPS : Hid (pst ok dl F = s0) := by
    show _ = _
    have := HS0.out
    unfold brV at this
    rw [brN_yes (by rw [HM.out]; omega), HM.out, HF.out, HOK.out, HDL.out] at this
    exact this
  obtain ⟨xs, HXS⟩ : ∃ v, Hid (chL s0.f (unr L.length L s0.i) = v) := ⟨_, rfl⟩
  have HUL : Hid (∀ k, k < F → (unr L.length L k).length = m) := fun k hk => by
    rw [← HM.out]
    exact unr_length _ _ _ rfl (by rw [HM.out, HF.out]; exact hk)
  have hx12 : xs.length ≤ 12 := by
    rw [← HXS.out]
    cases hf : s0.f
    · simp [chL]
    · have h := (pst_made (ok := ok) (dl := dl) F (by rw [HPS.out]; exact hf)).2.2
      rw [HPS.out] at h
      have := HUL.out s0.i h
      simp only [chL, if_true]
      omega
  obtain ⟨xl, HXL⟩ : ∃ v, Hid (xs.length = v) := ⟨_, rfl⟩
  rw [HXL.out] at hx12
  obtain ⟨vi, HVI⟩ : ∃ v, Hid (chI s0.f veh = v) := ⟨_, rfl⟩
  have IBR : Hid (∀ W, KB w W w1.heap.size #[.int .i64 n, .slice (some ⟨g, 0, none⟩) zl cg, .slice (some ⟨go, 0, none⟩) ko co, .slice (some ⟨gv, 0, none⟩) kv cv, .int .i64 fi] g go gv zs O V ao L → Calls Try.prog 10 #[.agg #[.int .i64 n, .slice (some ⟨g, 0, none⟩) zl cg, .slice (some ⟨go, 0, none⟩) ko co, .slice (some ⟨gv, 0, none⟩) kv cv, .int .i64 fi], .int .i64 veh, .slice ao m co2] W fun e w' => ∃ ad cc, e = .returned (.tuple #[.agg #[.int .i64 vi, .slice ad xl cc], .int .i64 s0.v, .bool s0.f]) ∧ Below W.heap.size W w' ∧ IntsAt w' ad xs ∧ xl ≤ cc) := fun W h => by
    have := implBestRoute_any n fi veh (some ⟨g, 0, none⟩) (some ⟨go, 0, none⟩) (some ⟨gv, 0, none⟩) ao cg ko co kv cv co2 zs O V L W h.iz h.io h.iv h.il HO.out HV.out (by omega) (by omega) (by rw [HM.out]; omega) s0 (by rw [HCB.out]; exact HS0.out) xs HXS.out
    rw [HZ.out, HM.out] at this
    refine this.mono ?_
    intro e w' h
    have := chg_at h
    rw [HXL.out, HVI.out] at this
    exact this
  have SBR : Hid (∀ W, KB w W w1.heap.size #[.int .i64 n, .slice (some ⟨g, 0, none⟩) zl cg, .slice (some ⟨go, 0, none⟩) ko co, .slice (some ⟨gv, 0, none⟩) kv cv, .int .i64 fi] g go gv zs O V ao L → Calls Try.prog 11 #[.agg #[.int .i64 n, .slice (some ⟨g, 0, none⟩) zl cg, .slice (some ⟨go, 0, none⟩) ko co, .slice (some ⟨gv, 0, none⟩) kv cv, .int .i64 fi], .int .i64 veh, .slice ao m co2] W fun e w' => ∃ ad cc, e = .returned (.tuple #[.agg #[.int .i64 vi, .slice ad xl cc], .int .i64 s0.v, .bool s0.f]) ∧ Below W.heap.size W w' ∧ IntsAt w' ad xs ∧ xl ≤ cc) := fun W h => by
    have := specBestRoute_any n fi veh (some ⟨g, 0, none⟩) (some ⟨go, 0, none⟩) (some ⟨gv, 0, none⟩) ao cg ko co kv cv co2 zs O V L W h.iz h.io h.iv HO.out HV.out (by omega) (by omega) (by rw [HM.out]; omega) (fun X k hb hk => by
      rcases HAD.out with ⟨h1, h2, h3⟩ | ⟨gg, h1⟩
      · have hL : L = [] := List.length_eq_zero_iff.1 (HM.out.trans h2)
        have hk0 : k = 0 := by
          have := hk.1
          rw [hL] at this
          simp [facN] at this
          exact this
        subst hk0 h3
        rw [h1, HM.out, h2, hL]
        exact specPermuted_nil X
      · have hI := h.il.below hb
        rw [h1] at hI ⊢
        have := specPermuted_any gg 0 co2 L (k : Int) X hI (by rw [HM.out]; omega)
        have hpT : permT L (k : Int) = true := by
          unfold permT
          rw [countV_yes hk.2, fac_nat]
          exact inB_mk (by have := hk.1; omega)
        obtain ⟨k2, e1, _, _, e4⟩ := permT_nat hpT
        have e5 : k = k2 := by omega
        rw [hpT, e4, ← e5] at this
        exact this) s0 (by rw [HCB.out]; exact HS0.out) xs HXS.out
    rw [HZ.out, HM.out] at this
    refine this.mono ?_
    intro e w' h
    have := chg_at h
    rw [HXL.out, HVI.out] at this
    exact this
  have SRT : Hid (∀ W k1 k2 a1 c1 a2 c2, RB W k1 vi a1 xl c1 xs → RB W k2 vi a2 xl c2 xs → Calls Try.prog 12 #[.agg #[.int .i64 vi, .slice a1 xl c1], .agg #[.int .i64 vi, .slice a2 xl c2]] W fun e w' => e = .returned (.bool true) ∧ Below W.heap.size W w') := fun W k1 k2 a1 c1 a2 c2 h1 h2 => by
    have := sameRoute_same vi a1 a2 c1 c2 xs W h1.i h2.i (by rw [HXL.out]; omega)
    rw [HXL.out] at this
    exact this
  have IPM : Hid (∀ W (k : Nat), KB w W w1.heap.size #[.int .i64 n, .slice (some ⟨g, 0, none⟩) zl cg, .slice (some ⟨go, 0, none⟩) ko co, .slice (some ⟨gv, 0, none⟩) kv cv, .int .i64 fi] g go gv zs O V ao L → k < F → Calls Try.prog 14 #[.slice ao m co2, .int .i64 (k : Int)] W fun e w' => ∃ ad cc, e = .returned (.tuple #[.slice ad m cc, .bool true]) ∧ Below W.heap.size W w' ∧ IntsAt w' ad (unr L.length L k) ∧ m ≤ cc) := fun W k h hk => by
    have := implPermuted_opt ao co2 L (k : Int) W h.il (by rw [HM.out]; omega)
    have h6 : L.length ≤ 6 := by rw [HM.out]; omega
    have hpT : permT L (k : Int) = true := by
      unfold permT
      rw [countV_yes h6, fac_nat]
      exact inB_mk (by rw [HM.out, HF.out]; omega)
    obtain ⟨k2, e1, _, _, e4⟩ := permT_nat hpT
    have e5 : k = k2 := by omega
    rw [hpT, e4, ← e5, HUL.out k hk, HM.out] at this
    rw [HM.out]
    refine this.mono ?_
    rintro e w' ⟨sl, rfl, hb, ho⟩
    obtain ⟨ad, cc, e⟩ := own_any4 ho
    subst e
    obtain ⟨h1, h2⟩ := own_ic ho
    exact ⟨ad, cc, rfl, hb, h1, h2⟩
  have ICO : Hid (∀ W (vx : Int) (ad : Option Addr) (l cc : Nat) (ys : List Int) (r : Int), KB w W w1.heap.size #[.int .i64 n, .slice (some ⟨g, 0, none⟩) zl cg, .slice (some ⟨go, 0, none⟩) ko co, .slice (some ⟨gv, 0, none⟩) kv cv, .int .i64 fi] g go gv zs O V ao L → IntsAt W ad ys → ys.length = l → l ≤ 12 → l ≤ cc → costV cb n zs O V ko kv vx ys = r → Calls Try.prog 15 #[.agg #[.int .i64 n, .slice (some ⟨g, 0, none⟩) zl cg, .slice (some ⟨go, 0, none⟩) ko co, .slice (some ⟨gv, 0, none⟩) kv cv, .int .i64 fi], .agg #[.int .i64 vx, .slice ad l cc]] W fun e w' => e = .returned (.int .i64 r) ∧ Below W.heap.size W w') := fun W vx ad l cc ys r h hi hl1 hl2 hc hr => by
    have := implCost_any n fi vx (some ⟨g, 0, none⟩) (some ⟨go, 0, none⟩) (some ⟨gv, 0, none⟩) ad cg ko co kv cv cc zs O V ys W h.iz h.io h.iv hi HO.out HV.out (by omega) (by omega) (by omega) (by omega)
    rw [HZ.out, hl1, HCB.out, hr] at this
    exact this
  have IOK : Hid (∀ W (vx : Int) (ad : Option Addr) (l cc : Nat) (ys : List Int) (r : Bool), KB w W w1.heap.size #[.int .i64 n, .slice (some ⟨g, 0, none⟩) zl cg, .slice (some ⟨go, 0, none⟩) ko co, .slice (some ⟨gv, 0, none⟩) kv cv, .int .i64 fi] g go gv zs O V ao L → IntsAt W ad ys → ys.length = l → l ≤ 12 → l ≤ cc → decide (codeV cb n zs O V ko kv vx ys = 0) = r → Calls Try.prog 17 #[.agg #[.int .i64 n, .slice (some ⟨g, 0, none⟩) zl cg, .slice (some ⟨go, 0, none⟩) ko co, .slice (some ⟨gv, 0, none⟩) kv cv, .int .i64 fi], .agg #[.int .i64 vx, .slice ad l cc]] W fun e w' => e = .returned (.bool r) ∧ Below W.heap.size W w') := fun W vx ad l cc ys r h hi hl1 hl2 hc hr => by
    have := lawOk_any n fi vx (some ⟨g, 0, none⟩) (some ⟨go, 0, none⟩) (some ⟨gv, 0, none⟩) ad cg ko co kv cv cc zs O V ys W h.iz h.io h.iv hi HO.out HV.out (by omega) (by omega) (by omega) (by omega) r (by rw [HCB.out]; exact hr)
    rw [HZ.out, hl1] at this
    exact this
  -- what a row of the same stops costs
  have HROW : Hid (∀ k, k < F → 0 ≤ costV cb n zs O V ko kv veh (unr L.length L k) → ok k = true ∧ costV cb n zs O V ko kv veh (unr L.length L k) = dl k) := fun k hk h0 => by
    by_cases hc : codeV cb n zs O V ko kv veh (unr L.length L k) = 0
    · refine ⟨by rw [← HOK.out]; exact decide_eq_true hc, ?_⟩
      rw [← HDL.out, costV_yes hc]
      exact (rc_of' hc).symm
    · rw [costV_no hc] at h0
      omega
  have HBEST : Hid (s0.f = true → cb = true ∧ codeV cb n zs O V ko kv veh xs = 0 ∧ costV cb n zs O V ko kv veh xs = s0.v) := fun hf => by
    obtain ⟨h1, h2, _⟩ := pst_made (ok := ok) (dl := dl) F (by rw [HPS.out]; exact hf)
    rw [HPS.out] at h1 h2
    rw [← HOK.out] at h1
    rw [← HDL.out] at h2
    have hc : codeV cb n zs O V ko kv veh (unr L.length L s0.i) = 0 := of_decide_eq_true h1
    have hx : unr L.length L s0.i = xs := by rw [← HXS.out, hf]; rfl
    rw [hx] at hc
    refine ⟨code_case hc, hc, ?_⟩
    rw [costV_yes hc, ← rc_of' hc, ← hx]
    exact h2
  have HLEAST : Hid (∀ k, k < F → ok k = true → s0.f = true ∧ ¬ dl k < s0.v) := fun k hk h => by
    have := pst_least (ok := ok) (dl := dl) F k hk h
    rw [HPS.out] at this
    exact ⟨this.1, by omega⟩
  -- what polishing tells
  obtain ⟨op, HOP⟩ : ∃ v, Hid (decide (codeV cb n zs O V ko kv veh L = 0) = v) := ⟨_, rfl⟩
  obtain ⟨ps, HPP⟩ : ∃ v, Hid (chL op (polV n zs O V ko kv veh L) = v) := ⟨_, rfl⟩
  obtain ⟨vp, HVP⟩ : ∃ v, Hid (chI op veh = v) := ⟨_, rfl⟩
  have hp12 : ps.length ≤ 12 := by rw [← HPP.out, ← HOP.out]; exact pol_le
  obtain ⟨pl, HPL⟩ : ∃ v, Hid (ps.length = v) := ⟨_, rfl⟩
  rw [HPL.out] at hp12
  have IPO : Hid (∀ W, KB w W w1.heap.size #[.int .i64 n, .slice (some ⟨g, 0, none⟩) zl cg, .slice (some ⟨go, 0, none⟩) ko co, .slice (some ⟨gv, 0, none⟩) kv cv, .int .i64 fi] g go gv zs O V ao L → Calls Try.prog 16 #[.agg #[.int .i64 n, .slice (some ⟨g, 0, none⟩) zl cg, .slice (some ⟨go, 0, none⟩) ko co, .slice (some ⟨gv, 0, none⟩) kv cv, .int .i64 fi], .agg #[.int .i64 veh, .slice ao m co2]] W fun e w' => ∃ ad cc, e = .returned (.tuple #[.agg #[.int .i64 vp, .slice ad pl cc], .bool op]) ∧ Below W.heap.size W w' ∧ IntsAt w' ad ps ∧ pl ≤ cc) := fun W h => by
    have := implPolished_opt n fi veh (some ⟨g, 0, none⟩) (some ⟨go, 0, none⟩) (some ⟨gv, 0, none⟩) ao cg ko co kv cv co2 zs O V L W h.iz h.io h.iv h.il HO.out HV.out (by omega) (by omega) (by rw [HM.out]; omega) (by rw [HM.out]; exact hmc) HAO.out op (by rw [HCB.out]; exact HOP.out) ps HPP.out
    rw [HZ.out, HM.out] at this
    refine this.mono ?_
    intro e w' h
    have := pol_at h
    rw [HPL.out, HVP.out] at this
    exact this
  obtain ⟨okp, HKP⟩ : ∃ v, Hid (decide (codeV cb n zs O V ko kv vp ps = 0) = v) := ⟨_, rfl⟩
  obtain ⟨cp, HCP⟩ : ∃ v, Hid (costV cb n zs O V ko kv vp ps = v) := ⟨_, rfl⟩
  have HPOL : Hid (s0.f = true → okp = true → s0.v ≤ cp) := fun hf hk => by
    have hcbt := (HBEST.out hf).1
    have hc : codeV cb n zs O V ko kv vp ps = 0 := of_decide_eq_true (HKP.out.trans hk)
    cases ho : op
    · rw [ho] at HPP HVP
      have e1 : vp = 0 := HVP.out.symm
      rw [e1] at hc
      exact absurd hc (code_none HCB.out _)
    · rw [ho] at HPP HVP HOP
      have hL0 : codeV cb n zs O V ko kv veh L = 0 := of_decide_eq_true HOP.out
      rw [hcbt] at hL0
      have hmat : matB n zs = true := (caseB_parts (HCB.out.trans hcbt)).1
      obtain ⟨k, hk1, hk2⟩ := pol_row hmat L hL0
      have e1 : vp = veh := HVP.out.symm
      have e2 : polV n zs O V ko kv veh L = ps := HPP.out
      rw [e2] at hk2
      rw [HM.out, HF.out] at hk1
      rw [e1, ← hk2] at hc
      have h1 : ok k = true := by rw [← HOK.out]; exact decide_eq_true hc
      have h2 := (HLEAST.out k hk1 h1).2
      have h3 : cp = dl k := by
        rw [← HCP.out, e1, ← hk2, costV_yes hc, ← rc_of' hc, ← HDL.out]
        rfl
      omega
  clear HS0 HXS HOK HDL HPS
  obtain ⟨sf, si, sv⟩ := s0
  simp only at IBR SBR HBEST HLEAST HPOL HVI
  have hff : (sf != sf) = false := by simp
  have hvv : (sv != sv) = false := by simp
  obtain ⟨d0, d1, d2, d3, d4⟩ := cells5z K1.out.b1
  go_wp2_with fail
  generalize w1.alloc (.cells #[.int .i64 n, .slice (some ⟨g, 0, none⟩) zl cg, .slice (some ⟨go, 0, none⟩) ko co, .slice (some ⟨gv, 0, none⟩) kv cv, .int .i64 fi] 30) = W1 at *
  obtain ⟨k, HK⟩ : ∃ v, Hid (w1.heap.size = v) := ⟨_, rfl⟩
  rw [HK.out] at K1 d0 d1 d2 d3 d4 IBR SBR IPM ICO IOK IPO ⊢
  refine (IBR.out _ K1.out).mono ?_
  rintro e w2 ⟨a1, c1, rfl, hb, hi1, hc1⟩
  have K2 : Hid (KB w (w2.alloc (.cells #[.int .i64 vi, .slice a1 xl c1] 34)) k #[.int .i64 n, .slice (some ⟨g, 0, none⟩) zl cg, .slice (some ⟨go, 0, none⟩) ko co, .slice (some ⟨gv, 0, none⟩) kv cv, .int .i64 fi] g go gv zs O V ao L ∧ RB (w2.alloc (.cells #[.int .i64 vi, .slice a1 xl c1] 34)) w2.heap.size vi a1 xl c1 xs) := by
    have ha : Below w2.heap.size w2 (w2.alloc (.cells #[.int .i64 vi, .slice a1 xl c1] 34)) := (Below.refl _ _).alloc (Nat.le_refl _) _
    exact ⟨(K1.out.below hb).below ha, ⟨heap_alloc_new _ _, hi1.below ha⟩⟩
  clear hb hi1 K1 d0 d1 d2 d3 d4
  obtain ⟨d0, d1, d2, d3, d4⟩ := cells5z K2.out.1.b1
  go_wp2_with fail
  generalize w2.alloc (.cells #[.int .i64 vi, .slice a1 xl c1] 34) = W2 at *
  obtain ⟨k1, HK1⟩ : ∃ v, Hid (w2.heap.size = v) := ⟨_, rfl⟩
  rw [HK1.out] at K2 ⊢
  refine (SBR.out _ K2.out.1).mono ?_
  rintro e w3 ⟨a2, c2, rfl, hb, hi2, hc2⟩
  have K3 : Hid (KB w (w3.alloc (.cells #[.int .i64 vi, .slice a2 xl c2] 34)) k #[.int .i64 n, .slice (some ⟨g, 0, none⟩) zl cg, .slice (some ⟨go, 0, none⟩) ko co, .slice (some ⟨gv, 0, none⟩) kv cv, .int .i64 fi] g go gv zs O V ao L ∧ RB (w3.alloc (.cells #[.int .i64 vi, .slice a2 xl c2] 34)) k1 vi a1 xl c1 xs ∧ RB (w3.alloc (.cells #[.int .i64 vi, .slice a2 xl c2] 34)) w3.heap.size vi a2 xl c2 xs) := by
    have ha : Below w3.heap.size w3 (w3.alloc (.cells #[.int .i64 vi, .slice a2 xl c2] 34)) := (Below.refl _ _).alloc (Nat.le_refl _) _
    exact ⟨(K2.out.1.below hb).below ha, (K2.out.2.below hb).below ha, ⟨heap_alloc_new _ _, hi2.below ha⟩⟩
  clear hb hi2 K2 d0 d1 d2 d3 d4 SBR IBR
  obtain ⟨f0, f1⟩ := cells2 K3.out.2.1.x
  obtain ⟨h0, h1⟩ := cells2 K3.out.2.2.x
  go_wp2_with fail
  generalize w3.alloc (.cells #[.int .i64 vi, .slice a2 xl c2] 34) = W3 at *
  obtain ⟨k2, HK2⟩ : ∃ v, Hid (w3.heap.size = v) := ⟨_, rfl⟩
  rw [HK2.out] at K3 h0 h1 ⊢
  refine (SRT.out _ _ _ _ _ _ _ K3.out.2.1 K3.out.2.2).mono ?_
  rintro e w4 ⟨rfl, hb⟩
  have K4 : Hid (KB w w4 k #[.int .i64 n, .slice (some ⟨g, 0, none⟩) zl cg, .slice (some ⟨go, 0, none⟩) ko co, .slice (some ⟨gv, 0, none⟩) kv cv, .int .i64 fi] g go gv zs O V ao L ∧ RB w4 k1 vi a1 xl c1 xs) := ⟨K3.out.1.below hb, K3.out.2.1.below hb⟩
  clear hb K3 f0 f1 h0 h1 SRT
  go_wp2_with fail
  go_loopw [12] (fun t wr => ∃ i : Nat, i ≤ F ∧ t = .int .i64 i ∧ KB w wr k #[.int .i64 n, .slice (some ⟨g, 0, none⟩) zl cg, .slice (some ⟨go, 0, none⟩) ko co, .slice (some ⟨gv, 0, none⟩) kv cv, .int .i64 fi] g go gv zs O V ao L ∧ RB wr k1 vi a1 xl c1 xs) (fun t _ => F - (intOf t).toNat)
  case atStart => exact ⟨0, Nat.zero_le _, rfl, K4.out.1, K4.out.2⟩
  case round =>
    clear K4
    obtain ⟨i, hi, rfl, hK, hR⟩ := hrel
    have K5 : Hid (KB w wr k #[.int .i64 n, .slice (some ⟨g, 0, none⟩) zl cg, .slice (some ⟨go, 0, none⟩) ko co, .slice (some ⟨gv, 0, none⟩) kv cv, .int .i64 fi] g go gv zs O V ao L ∧ RB wr k1 vi a1 xl c1 xs) := ⟨hK, hR⟩
    clear hK hR
    by_cases hlt : i < F
    · have hiI : (i : Int) < (F : Int) := by omega
      obtain ⟨x, HX⟩ : ∃ v, Hid (costV cb n zs O V ko kv veh (unr L.length L i) = v) := ⟨_, rfl⟩
      have HXX : Hid (0 ≤ x → sf = true ∧ ¬ x < sv) := fun h => by
        obtain ⟨h1, h2⟩ := HROW.out i hlt (by rw [HX.out]; exact h)
        have := HLEAST.out i hlt h1
        rw [← h2, HX.out] at this
        exact ⟨this.1, by have := this.2; omega⟩
      go_wp2_with (first | (go_at_call 13; refine (implCount_any _ _).mono ?_; rintro e w' ⟨rfl, hw'⟩; subst w'; rw [HCV.out]))
      refine (IPM.out _ i K5.out.1 hlt).mono ?_
      rintro e w6 ⟨ad, cc, rfl, hb, hi6, hc6⟩
      have K6 : Hid (KB w w6 k #[.int .i64 n, .slice (some ⟨g, 0, none⟩) zl cg, .slice (some ⟨go, 0, none⟩) ko co, .slice (some ⟨gv, 0, none⟩) kv cv, .int .i64 fi] g go gv zs O V ao L ∧ RB w6 k1 vi a1 xl c1 xs ∧ IntsAt w6 ad (unr L.length L i)) := ⟨K5.out.1.below hb, K5.out.2.below hb, hi6⟩
      clear hb hi6 K5
      obtain ⟨d0, d1, d2, d3, d4⟩ := cells5z K6.out.1.b1
      go_wp2_with fail
      clear d0 d1 d2 d3 d4
      refine (ICO.out _ veh ad m cc _ x K6.out.1 K6.out.2.2 (HUL.out i hlt) (by omega) hc6 HX.out).mono ?_
      rintro e w7 ⟨rfl, hb⟩
      have K7 : Hid (KB w w7 k #[.int .i64 n, .slice (some ⟨g, 0, none⟩) zl cg, .slice (some ⟨go, 0, none⟩) ko co, .slice (some ⟨gv, 0, none⟩) kv cv, .int .i64 fi] g go gv zs O V ao L ∧ RB w7 k1 vi a1 xl c1 xs) := ⟨K6.out.1.below hb, K6.out.2.1.below hb⟩
      clear hb K6
      by_cases hx : 0 ≤ x
      · obtain ⟨hsf, hlx⟩ := HXX.out hx
        subst hsf
        go_wp2
        first
          | exact ⟨⟨i + 1, by omega, by first | rfl | go_num, K7.out.1, K7.out.2⟩, by simp [intOf]; omega⟩
          | (go_roundw
             case rel => exact ⟨i + 1, by omega, by first | rfl | go_num, K7.out.1, K7.out.2⟩
             case measure => simp [intOf]; omega)
      · go_wp2
        first
          | exact ⟨⟨i + 1, by omega, by first | rfl | go_num, K7.out.1, K7.out.2⟩, by simp [intOf]; omega⟩
          | (go_roundw
             case rel => exact ⟨i + 1, by omega, by first | rfl | go_num, K7.out.1, K7.out.2⟩
             case measure => simp [intOf]; omega)
    · have hiI : ¬ ((i : Int) < (F : Int)) := by omega
      cases sf
      · go_wp2_with (first | (go_at_call 13; refine (implCount_any _ _).mono ?_; rintro e w' ⟨rfl, hw'⟩; subst w'; rw [HCV.out]))
        go_ret
        exact ⟨by first | rfl | simp, K5.out.1.b⟩
      · obtain ⟨hcbt, hcx, hvx⟩ := HBEST.out (by simp)
        have hvi : vi = veh := by rw [← HVI.out]; rfl
        subst hvi
        have HKX : Hid (decide (codeV cb n zs O V ko kv vi xs = 0) = true) := decide_eq_true hcx
        have HVX : Hid (costV cb n zs O V ko kv vi xs = sv) := hvx
        have HPL2 : Hid (okp = true → sv ≤ cp) := fun h => HPOL.out (by simp) h
        clear hcx hvx
        have hss : (sv == sv) = true := by simp
        obtain ⟨d0, d1, d2, d3, d4⟩ := cells5z K5.out.1.b1
        go_wp2_with (first | (go_at_call 13; refine (implCount_any _ _).mono ?_; rintro e w' ⟨rfl, hw'⟩; subst w'; rw [HCV.out]))
        clear d0 d1 d2 d3 d4
        refine (IPO.out _ K5.out.1).mono ?_
        rintro e w8 ⟨a3, c3, rfl, hb, hi8, hc8⟩
        have K8 : Hid (KB w (w8.alloc (.cells #[.int .i64 vp, .slice a3 pl c3] 34)) k #[.int .i64 n, .slice (some ⟨g, 0, none⟩) zl cg, .slice (some ⟨go, 0, none⟩) ko co, .slice (some ⟨gv, 0, none⟩) kv cv, .int .i64 fi] g go gv zs O V ao L ∧ RB (w8.alloc (.cells #[.int .i64 vp, .slice a3 pl c3] 34)) k1 vi a1 xl c1 xs ∧ RB (w8.alloc (.cells #[.int .i64 vp, .slice a3 pl c3] 34)) w8.heap.size vp a3 pl c3 ps) := by
          have ha : Below w8.heap.size w8 (w8.alloc (.cells #[.int .i64 vp, .slice a3 pl c3] 34)) := (Below.refl _ _).alloc (Nat.le_refl _) _
          exact ⟨(K5.out.1.below hb).below ha, (K5.out.2.below hb).below ha, ⟨heap_alloc_new _ _, hi8.below ha⟩⟩
        clear hb hi8 K5
        obtain ⟨d0, d1, d2, d3, d4⟩ := cells5z K8.out.1.b1
        obtain ⟨f0, f1⟩ := cells2 K8.out.2.1.x
        go_wp2_with fail
        clear d0 d1 d2 d3 d4 f0 f1
        generalize w8.alloc (.cells #[.int .i64 vp, .slice a3 pl c3] 34) = W8 at *
        obtain ⟨k3, HK3⟩ : ∃ v, Hid (w8.heap.size = v) := ⟨_, rfl⟩
        rw [HK3.out] at K8 ⊢
        refine (IOK.out _ vi a1 xl c1 xs true K8.out.1 K8.out.2.1.i HXL.out hx12 hc1 HKX.out).mono ?_
        rintro e w9 ⟨rfl, hb⟩
        have K9 : Hid (KB w w9 k #[.int .i64 n, .slice (some ⟨g, 0, none⟩) zl cg, .slice (some ⟨go, 0, none⟩) ko co, .slice (some ⟨gv, 0, none⟩) kv cv, .int .i64 fi] g go gv zs O V ao L ∧ RB w9 k1 vi a1 xl c1 xs ∧ RB w9 k3 vp a3 pl c3 ps) := ⟨K8.out.1.below hb, K8.out.2.1.below hb, K8.out.2.2.below hb⟩
        clear hb K8
        obtain ⟨d0, d1, d2, d3, d4⟩ := cells5z K9.out.1.b1
        obtain ⟨f0, f1⟩ := cells2 K9.out.2.1.x
        go_wp2_with fail
        clear d0 d1 d2 d3 d4 f0 f1
        refine (ICO.out _ vi a1 xl c1 xs sv K9.out.1 K9.out.2.1.i HXL.out hx12 hc1 HVX.out).mono ?_
        rintro e w10 ⟨rfl, hb⟩
        have K10 : Hid (KB w w10 k #[.int .i64 n, .slice (some ⟨g, 0, none⟩) zl cg, .slice (some ⟨go, 0, none⟩) ko co, .slice (some ⟨gv, 0, none⟩) kv cv, .int .i64 fi] g go gv zs O V ao L ∧ RB w10 k3 vp a3 pl c3 ps) := ⟨K9.out.1.below hb, K9.out.2.2.below hb⟩
        clear hb K9
        obtain ⟨d0, d1, d2, d3, d4⟩ := cells5z K10.out.1.b1
        obtain ⟨f0, f1⟩ := cells2 K10.out.2.x
        go_wp2_with fail
        clear d0 d1 d2 d3 d4 f0 f1
        refine (IOK.out _ vp a3 pl c3 ps okp K10.out.1 K10.out.2.i HPL.out hp12 hc8 HKP.out).mono ?_
        rintro e w11 ⟨rfl, hb⟩
        have K11 : Hid (KB w w11 k #[.int .i64 n, .slice (some ⟨g, 0, none⟩) zl cg, .slice (some ⟨go, 0, none⟩) ko co, .slice (some ⟨gv, 0, none⟩) kv cv, .int .i64 fi] g go gv zs O V ao L ∧ RB w11 k3 vp a3 pl c3 ps) := ⟨K10.out.1.below hb, K10.out.2.below hb⟩
        clear hb K10
        cases okp
        · go_wp2
          go_ret
          exact ⟨by first | rfl | simp, K11.out.1.b⟩
        · have hcp := HPL2.out rfl
          obtain ⟨d0, d1, d2, d3, d4⟩ := cells5z K11.out.1.b1
          obtain ⟨f0, f1⟩ := cells2 K11.out.2.x
          go_wp2_with fail
          clear d0 d1 d2 d3 d4 f0 f1
          refine (ICO.out _ vp a3 pl c3 ps cp K11.out.1 K11.out.2.i HPL.out hp12 hc8 HCP.out).mono ?_
          rintro e w12 ⟨rfl, hb⟩
          have B12 : Hid (Below w.heap.size w w12) := K11.out.1.b.trans (hb.mono K11.out.1.b.size)
          clear hb
          go_wp2
          go_ret
          exact ⟨by first | rfl | simp, B12.out⟩

theorem lawFnBestRoute_all (a : Option Addr) (c : Nat) (bs : List Int) (w : World) (hA : CodeAt w a bs) (hl : bs.length ≤ 9223372036854775807) :
    Calls Try.prog 3 #[.slice a bs.length c] w fun e w' => e = .returned (.bool true) ∧ Below w.heap.size w w' := by
  by_cases h : bs.length ≤ 1048576
  · exact lawFnBestRoute a c bs w hA h
  · exact lawFnBestRoute_big a c _ w hl (by omega)

end Go.Proofs.Ytpfikhegmmpogaa
