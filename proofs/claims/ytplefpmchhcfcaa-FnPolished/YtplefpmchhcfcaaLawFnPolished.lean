import Derived.Test.YtplefpmchhcfcaaPack0
import Derived.Test.YtplefpmchhcfcaaPack2
import Derived.Test.YtplefpmchhcfcaaPack10
import Derived.Test.YtplefpmchhcfcaaPack15
import Derived.Test.YtplefpmchhcfcaaPack20
import Derived.Test.YtplefpmchhcfcaaPack23
import Derived.Test.YtplefpmchhcfcaaImplPolished
import Derived.Test.YtplefpmchhcfcaaPack26
import Derived.Test.YtplefpmchhcfcaaPack27
namespace Go.Proofs.Ytplefpmchhcfcaa
open Go.RowKit

set_option maxRecDepth 10000 in
set_option maxHeartbeats 400000 in
theorem lawFnPolished_big (a : Option Addr) (c len : Nat) (w : World) (hl : len ≤ 9223372036854775807) (h : 1048576 < len) :
    Calls Try.prog 6 #[.slice a len c] w fun e w' => e = .returned (.bool true) ∧ Below w.heap.size w w' := by
  have hd : decide (1048576 < len) = true := decide_eq_true h
  go_enter Try.func6, Try.ntmps6
  go_wp2_with (go_at_call 7; refine (big_any a c len w hl).mono ?_; rintro e w1 ⟨rfl, hw1⟩; subst w1; rw [hd])
  go_ret
  exact ⟨rfl, Below.refl _ _⟩

/-- A route in a box, its stops. -/
structure RB (W : World) (kx : Nat) (v : Int) (ad : Option Addr) (l cc : Nat) (xs : List Int) : Prop where
  x : W.heap[kx]? = some (.cells #[.int .i64 v, .slice ad l cc] 32 (0, 0))
  i : IntsAt W ad xs
theorem RB.below {W W' : World} {kx : Nat} {v : Int} {ad : Option Addr} {l cc : Nat} {xs : List Int} (h : RB W kx v ad l cc xs) (hb : Below W.heap.size W W') : RB W' kx v ad l cc xs := ⟨below_row hb (row_lt h.x) h.x, h.i.below hb⟩
theorem has_of_mem {zs : List Int} {id : Int} (h : id ∈ zs) : hasTo zs zs.length id = true := by
  obtain ⟨j, hj, e⟩ := List.getElem_of_mem h
  exact hasTo_yes hj (by rw [List.getD_eq_getElem?_getD, List.getElem?_eq_getElem hj]; simpa using e)
theorem getD_mem {zs : List Int} {k : Nat} (h : k < zs.length) : zs.getD k 0 ∈ zs := by
  rw [List.getD_eq_getElem?_getD, List.getElem?_eq_getElem h]; simp
theorem polOk_at {w w' : World} {ok : Bool} {veh : Int} {xs : List Int} {e : Ending} (h : PolOk w ok veh xs e w') : ∃ ad cc, e = .returned (.tuple #[.agg #[.int .i64 (chI ok veh), .slice ad xs.length cc], .bool ok]) ∧ Below w.heap.size w w' ∧ IntsAt w' ad xs ∧ xs.length ≤ cc := by
  obtain ⟨hb, ad, cc, rfl, ho⟩ := h
  have hoc := ho
  obtain ⟨a', c', e, _, hi⟩ := owns_at1 ho
  have e2 : ad = a' := by injection e
  refine ⟨ad, cc, rfl, hb, by rw [e2]; exact hi, ?_⟩
  obtain ⟨_, ⟨h1, h2⟩ | ⟨g', cap, cur, h2, _, _, h3, _⟩⟩ := hoc
  · omega
  · injection h2 with _ _ e3
    omega

set_option maxRecDepth 10000 in
set_option maxHeartbeats 8000000 in
theorem lawFnPolished (a : Option Addr) (ca : Nat) (bs : List Int) (w : World) (hA : CodeAt w a bs) (hl : bs.length ≤ 1048576) :
    Calls Try.prog 6 #[.slice a bs.length ca] w fun e w' => e = .returned (.bool true) ∧ Below w.heap.size w w' := by
  have HA : Hid (CodeAt w a bs) := hA
  clear hA
  have hd : decide (1048576 < bs.length) = false := decide_eq_false (by omega)
  go_enter Try.func6, Try.ntmps6
  go_wp2_with fail
  refine (big_any a ca bs.length w (by omega)).mono ?_
  rintro e w1 ⟨rfl, hw1⟩
  subst w1
  rw [hd]
  clear hd
  go_wp2_with fail
  refine (drawPolished_any a ca bs w HA.out hl).mono ?_
  rintro e w1 ⟨n, g, zl, cg, go, ko, co, gv, kv, cv, zs, O, V, L, fi, veh, ao, m, co2, rfl, ⟨hz, hO, hV, hko1, hko5, hkv1, hkv3⟩, ⟨hm, hm4, hmc, hadr⟩, hb, iz, io, iv, il, -⟩
  obtain ⟨N, HLb⟩ : ∃ v, Hid (bs.length = v) := ⟨_, rfl⟩
  rw [HLb.out] at hl ⊢
  have HM : Hid (L.length = m) := hm
  have HAD : Hid (AdrOk ao m co2) := hadr
  have HAO : Hid (AdO ao) := by
    rcases hadr with ⟨h, _⟩ | ⟨g, h⟩
    · exact .inl h
    · exact .inr ⟨g, 0, h⟩
  have HZ : Hid (zs.length = zl) := hz
  have HO : Hid (O.length = ko * 6) := hO
  have HV : Hid (V.length = kv * 5) := hV
  have K1 : Hid (KC w ((w1.alloc (.cells #[.int .i64 n, .slice (some ⟨g, 0, none⟩) zl cg, .slice (some ⟨go, 0, none⟩) ko co, .slice (some ⟨gv, 0, none⟩) kv cv, .int .i64 fi] 30)).alloc (.cells #[.int .i64 veh, .slice ao m co2] 32)) w1.heap.size (w1.heap.size + 1) #[.int .i64 n, .slice (some ⟨g, 0, none⟩) zl cg, .slice (some ⟨go, 0, none⟩) ko co, .slice (some ⟨gv, 0, none⟩) kv cv, .int .i64 fi] #[.int .i64 veh, .slice ao m co2] g go gv zs O V ao L) := by
    have ha : Below w1.heap.size w1 ((w1.alloc (.cells #[.int .i64 n, .slice (some ⟨g, 0, none⟩) zl cg, .slice (some ⟨go, 0, none⟩) ko co, .slice (some ⟨gv, 0, none⟩) kv cv, .int .i64 fi] 30)).alloc (.cells #[.int .i64 veh, .slice ao m co2] 32)) := ((Below.refl _ _).alloc (Nat.le_refl _) _).alloc (by simp) _
    exact ⟨hb.trans (ha.mono hb.size), heap_alloc2_old _ _ _, heap_alloc2_new _ _ _, iz.below ha, io.below ha, iv.below ha, il.below ha⟩
  clear hz hO hV hm hb iz io iv il hadr
  obtain ⟨cb, HCB⟩ : ∃ v, Hid (caseB n zs O V ko kv fi = v) := ⟨_, rfl⟩
  obtain ⟨ok, HOK⟩ : ∃ v, Hid (decide (codeV cb n zs O V ko kv veh L = 0) = v) := ⟨_, rfl⟩
  obtain ⟨xs, HXS⟩ : ∃ v, Hid (chL ok (polV n zs O V ko kv veh L) = v) := ⟨_, rfl⟩
  obtain ⟨vi, HVI⟩ : ∃ v, Hid (chI ok veh = v) := ⟨_, rfl⟩
  have hx12 : xs.length ≤ 12 := by rw [← HXS.out, ← HOK.out]; exact pol_le
  obtain ⟨xl, HXL⟩ : ∃ v, Hid (xs.length = v) := ⟨_, rfl⟩
  rw [HXL.out] at hx12
  have IPO : Hid (∀ W k kr, KC w W k kr #[.int .i64 n, .slice (some ⟨g, 0, none⟩) zl cg, .slice (some ⟨go, 0, none⟩) ko co, .slice (some ⟨gv, 0, none⟩) kv cv, .int .i64 fi] #[.int .i64 veh, .slice ao m co2] g go gv zs O V ao L → Calls Try.prog 21 #[.agg #[.int .i64 n, .slice (some ⟨g, 0, none⟩) zl cg, .slice (some ⟨go, 0, none⟩) ko co, .slice (some ⟨gv, 0, none⟩) kv cv, .int .i64 fi], .agg #[.int .i64 veh, .slice ao m co2]] W fun e w' => ∃ ad cc, e = .returned (.tuple #[.agg #[.int .i64 vi, .slice ad xl cc], .bool ok]) ∧ Below W.heap.size W w' ∧ IntsAt w' ad xs ∧ xl ≤ cc) := fun W k kr h => by
    have := implPolished_opt n fi veh (some ⟨g, 0, none⟩) (some ⟨go, 0, none⟩) (some ⟨gv, 0, none⟩) ao cg ko co kv cv co2 zs O V L W h.iz h.io h.iv h.il HO.out HV.out (by omega) (by omega) (by rw [HM.out]; omega) (by rw [HM.out]; exact hmc) HAO.out ok (by rw [HCB.out]; exact HOK.out) xs HXS.out
    rw [HZ.out, HM.out] at this
    refine this.mono ?_
    intro e w' h
    have := polOk_at h
    rw [HXL.out, HVI.out] at this
    exact this
  have SPO : Hid (∀ W k kr, KC w W k kr #[.int .i64 n, .slice (some ⟨g, 0, none⟩) zl cg, .slice (some ⟨go, 0, none⟩) ko co, .slice (some ⟨gv, 0, none⟩) kv cv, .int .i64 fi] #[.int .i64 veh, .slice ao m co2] g go gv zs O V ao L → Calls Try.prog 22 #[.agg #[.int .i64 n, .slice (some ⟨g, 0, none⟩) zl cg, .slice (some ⟨go, 0, none⟩) ko co, .slice (some ⟨gv, 0, none⟩) kv cv, .int .i64 fi], .agg #[.int .i64 veh, .slice ao m co2]] W fun e w' => ∃ ad cc, e = .returned (.tuple #[.agg #[.int .i64 vi, .slice ad xl cc], .bool ok]) ∧ Below W.heap.size W w' ∧ IntsAt w' ad xs ∧ xl ≤ cc) := fun W k kr h => by
    rcases HAD.out with ⟨h1, h2, h3⟩ | ⟨gg, h1⟩
    · subst h1 h3
      have hL : L = [] := List.length_eq_zero_iff.1 (HM.out.trans h2)
      have := specPolished_nil n fi veh (some ⟨g, 0, none⟩) (some ⟨go, 0, none⟩) (some ⟨gv, 0, none⟩) cg ko co kv cv zs O V L hL W h.iz h.io h.iv HO.out HV.out (by omega) (by omega) ok (by rw [HCB.out]; exact HOK.out) xs HXS.out
      rw [HZ.out] at this
      rw [h2]
      refine this.mono ?_
      intro e w' h
      have := polOk_at h
      rw [HXL.out, HVI.out] at this
      exact this
    · have hI := h.il
      rw [h1] at hI ⊢
      have := specPolished_any n fi veh (some ⟨g, 0, none⟩) (some ⟨go, 0, none⟩) (some ⟨gv, 0, none⟩) gg 0 cg ko co kv cv co2 zs O V L W h.iz h.io h.iv hI HO.out HV.out (by omega) (by omega) (by rw [HM.out]; omega) (by rw [HM.out]; exact hmc) ok (by rw [HCB.out]; exact HOK.out) xs HXS.out
      rw [HZ.out, HM.out] at this
      refine this.mono ?_
      intro e w' h
      have := polOk_at h
      rw [HXL.out, HVI.out] at this
      exact this
  have SRT : Hid (∀ W k1 k2 a1 c1 a2 c2, RB W k1 vi a1 xl c1 xs → RB W k2 vi a2 xl c2 xs → Calls Try.prog 11 #[.agg #[.int .i64 vi, .slice a1 xl c1], .agg #[.int .i64 vi, .slice a2 xl c2]] W fun e w' => e = .returned (.bool true) ∧ Below W.heap.size W w') := fun W k1 k2 a1 c1 a2 c2 h1 h2 => by
    have := sameRoute_same vi a1 a2 c1 c2 xs W h1.i h2.i (by rw [HXL.out]; omega)
    rw [HXL.out] at this
    exact this
  have hkk : (ok != ok) = false := by simp
  have hke : (ok == ok) = true := by simp
  obtain ⟨d0, d1, d2, d3, d4⟩ := cells5z K1.out.b1
  obtain ⟨e0, e1⟩ := cells2 K1.out.b2
  go_wp2_with fail
  generalize (w1.alloc (.cells #[.int .i64 n, .slice (some ⟨g, 0, none⟩) zl cg, .slice (some ⟨go, 0, none⟩) ko co, .slice (some ⟨gv, 0, none⟩) kv cv, .int .i64 fi] 30)).alloc (.cells #[.int .i64 veh, .slice ao m co2] 32) = W1 at *
  obtain ⟨k, HK⟩ : ∃ v, Hid (w1.heap.size = v) := ⟨_, rfl⟩
  rw [HK.out] at K1 d0 d1 d2 d3 d4 e0 e1 ⊢
  obtain ⟨kr, HKR⟩ : ∃ v, Hid (k + 1 = v) := ⟨_, rfl⟩
  rw [HKR.out] at K1 e0 e1 ⊢
  refine (IPO.out _ _ _ K1.out).mono ?_
  rintro e w2 ⟨a1, c1, rfl, hb, hi1, hc1⟩
  have K2 : Hid (KC w (w2.alloc (.cells #[.int .i64 vi, .slice a1 xl c1] 32)) k kr #[.int .i64 n, .slice (some ⟨g, 0, none⟩) zl cg, .slice (some ⟨go, 0, none⟩) ko co, .slice (some ⟨gv, 0, none⟩) kv cv, .int .i64 fi] #[.int .i64 veh, .slice ao m co2] g go gv zs O V ao L ∧ RB (w2.alloc (.cells #[.int .i64 vi, .slice a1 xl c1] 32)) w2.heap.size vi a1 xl c1 xs) := by
    have ha : Below w2.heap.size w2 (w2.alloc (.cells #[.int .i64 vi, .slice a1 xl c1] 32)) := (Below.refl _ _).alloc (Nat.le_refl _) _
    exact ⟨(K1.out.below hb).below ha, ⟨heap_alloc_new _ _, hi1.below ha⟩⟩
  clear hb hi1 K1 d0 d1 d2 d3 d4 e0 e1
  obtain ⟨d0, d1, d2, d3, d4⟩ := cells5z K2.out.1.b1
  obtain ⟨e0, e1⟩ := cells2 K2.out.1.b2
  go_wp2_with fail
  generalize w2.alloc (.cells #[.int .i64 vi, .slice a1 xl c1] 32) = W2 at *
  obtain ⟨k1, HK1⟩ : ∃ v, Hid (w2.heap.size = v) := ⟨_, rfl⟩
  rw [HK1.out] at K2 ⊢
  refine (SPO.out _ _ _ K2.out.1).mono ?_
  rintro e w3 ⟨a2, c2, rfl, hb, hi2, hc2⟩
  have K3 : Hid (KC w (w3.alloc (.cells #[.int .i64 vi, .slice a2 xl c2] 32)) k kr #[.int .i64 n, .slice (some ⟨g, 0, none⟩) zl cg, .slice (some ⟨go, 0, none⟩) ko co, .slice (some ⟨gv, 0, none⟩) kv cv, .int .i64 fi] #[.int .i64 veh, .slice ao m co2] g go gv zs O V ao L ∧ RB (w3.alloc (.cells #[.int .i64 vi, .slice a2 xl c2] 32)) k1 vi a1 xl c1 xs ∧ RB (w3.alloc (.cells #[.int .i64 vi, .slice a2 xl c2] 32)) w3.heap.size vi a2 xl c2 xs) := by
    have ha : Below w3.heap.size w3 (w3.alloc (.cells #[.int .i64 vi, .slice a2 xl c2] 32)) := (Below.refl _ _).alloc (Nat.le_refl _) _
    exact ⟨(K2.out.1.below hb).below ha, (K2.out.2.below hb).below ha, ⟨heap_alloc_new _ _, hi2.below ha⟩⟩
  clear hb hi2 K2 d0 d1 d2 d3 d4 e0 e1 SPO IPO
  obtain ⟨f0, f1⟩ := cells2 K3.out.2.1.x
  obtain ⟨h0, h1⟩ := cells2 K3.out.2.2.x
  go_wp2_with fail
  generalize w3.alloc (.cells #[.int .i64 vi, .slice a2 xl c2] 32) = W3 at *
  obtain ⟨k2, HK2⟩ : ∃ v, Hid (w3.heap.size = v) := ⟨_, rfl⟩
  rw [HK2.out] at K3 h0 h1 ⊢
  refine (SRT.out _ _ _ _ _ _ _ K3.out.2.1 K3.out.2.2).mono ?_
  rintro e w4 ⟨rfl, hb⟩
  have K4 : Hid (KC w w4 k kr #[.int .i64 n, .slice (some ⟨g, 0, none⟩) zl cg, .slice (some ⟨go, 0, none⟩) ko co, .slice (some ⟨gv, 0, none⟩) kv cv, .int .i64 fi] #[.int .i64 veh, .slice ao m co2] g go gv zs O V ao L ∧ RB w4 k1 vi a1 xl c1 xs ∧ RB w4 k2 vi a2 xl c2 xs) := ⟨K3.out.1.below hb, K3.out.2.1.below hb, K3.out.2.2.below hb⟩
  clear hb K3 f0 f1 h0 h1
  cases ok
  · obtain ⟨f0, f1⟩ := cells2 K4.out.2.1.x
    obtain ⟨h0, h1⟩ := cells2 K4.out.2.2.x
    go_wp2_with fail
    refine (SRT.out _ _ _ _ _ _ _ K4.out.2.1 K4.out.2.2).mono ?_
    rintro e w5 ⟨rfl, hb⟩
    have B5 : Hid (Below w.heap.size w w5) := K4.out.1.b.trans (hb.mono K4.out.1.b.size)
    clear hb
    go_wp2
    go_ret
    exact ⟨by first | rfl | simp, B5.out⟩
  · have hvi : vi = veh := by rw [← HVI.out]; rfl
    subst hvi
    have hcode : codeV cb n zs O V ko kv vi L = 0 := of_decide_eq_true HOK.out
    have hcbt : cb = true := code_case hcode
    subst hcbt
    have HMB : Hid (matB n zs = true) := (caseB_parts HCB.out).1
    have HX0 : Hid (polV n zs O V ko kv vi L = xs) := HXS.out
    obtain ⟨p1, p2, p3, p4, p5⟩ := pol_all HMB.out L hcode
    rw [HX0.out] at p1 p2 p3 p4 p5
    have hxm : xl = m := by rw [← HXL.out, p4, HM.out]
    subst hxm
    have HMEM : Hid (∀ y ∈ L, y ∈ xs) := p5
    have HL12 : Hid (L.length ≤ 12) := code12 hcode
    obtain ⟨s0, HS0⟩ : ∃ v, Hid (btV true n zs O V ko kv vi L = v) := ⟨_, rfl⟩
    obtain ⟨rx, HRX⟩ : ∃ v, Hid (rcV n zs O V ko kv vi xs = v) := ⟨_, rfl⟩
    obtain ⟨rl, HRL⟩ : ∃ v, Hid (rcV n zs O V ko kv vi L = v) := ⟨_, rfl⟩
    have hrr : rx ≤ rl := by rw [← HRX.out, ← HRL.out]; exact p3
    have HCX : Hid (costV true n zs O V ko kv vi xs = rx) := by show _ = _; rw [costV_yes p2, ← rcV_yes p2]; exact HRX.out
    have HCL : Hid (costV true n zs O V ko kv vi L = rl) := by show _ = _; rw [costV_yes hcode, ← rcV_yes hcode]; exact HRL.out
    have HCX0 : Hid (codeV true n zs O V ko kv vi xs = 0) := p2
    have HBX : Hid (btV true n zs O V ko kv vi xs = ⟨false, (btV true n zs O V ko kv vi xs).i, (btV true n zs O V ko kv vi xs).j, 0⟩) := by
      have h1 := p1
      have h2 := (bt_v (os := O) (vs := V) (ko := ko) (kv := kv) (veh := vi) (ids := xs) HMB.out).2.2.1 p1
      show _ = _
      generalize btV true n zs O V ko kv vi xs = t at *
      obtain ⟨tf, ti, tj, tv⟩ := t
      simp only at h1 h2
      subst h1 h2
      rfl
    have HSV := bt_v (os := O) (vs := V) (ko := ko) (kv := kv) (veh := vi) (ids := L) HMB.out
    rw [HS0.out] at HSV
    have HSE : Hid (s0.f = false → xs = L) := fun h => by
      have := polV_stop (n := n) (zs := zs) (os := O) (vs := V) (ko := ko) (kv := kv) (veh := vi) (ids := L) (by rw [HS0.out]; exact h)
      rw [← HX0.out]; exact this
    have HLE : Hid (∀ (p q : Nat), p < q → q < xl → trB true n zs O V ko kv vi L p q = true → s0.v ≤ trD true n zs O V ko kv vi L p q) := fun p q h1 h2 h3 => by
      rw [← HS0.out]
      exact bt_least HL12.out h1 (by rw [HM.out]; exact h2) h3
    clear p1 p2 p3 p4 p5 hcode
    have IBX : Hid (∀ W, KC w W k kr #[.int .i64 n, .slice (some ⟨g, 0, none⟩) zl cg, .slice (some ⟨go, 0, none⟩) ko co, .slice (some ⟨gv, 0, none⟩) kv cv, .int .i64 fi] #[.int .i64 vi, .slice ao xl co2] g go gv zs O V ao L → RB W k1 vi a1 xl c1 xs → Calls Try.prog 23 #[.agg #[.int .i64 n, .slice (some ⟨g, 0, none⟩) zl cg, .slice (some ⟨go, 0, none⟩) ko co, .slice (some ⟨gv, 0, none⟩) kv cv, .int .i64 fi], .agg #[.int .i64 vi, .slice a1 xl c1]] W fun e w' => e = .returned (.tuple #[.int .i64 (-1), .int .i64 (-1), .int .i64 0]) ∧ Below W.heap.size W w') := fun W h hr => by
      have := implBestTwoOpt_any n fi vi (some ⟨g, 0, none⟩) (some ⟨go, 0, none⟩) (some ⟨gv, 0, none⟩) a1 cg ko co kv cv c1 zs O V xs W h.iz h.io h.iv hr.i HO.out HV.out (by omega) (by omega) (by rw [HXL.out]; omega) (by rw [HXL.out]; exact hc1) ⟨false, (btV true n zs O V ko kv vi xs).i, (btV true n zs O V ko kv vi xs).j, 0⟩ (by rw [HCB.out]; exact HBX.out)
      rw [HZ.out, HXL.out] at this
      exact this
    have IBL : Hid (∀ W, KC w W k kr #[.int .i64 n, .slice (some ⟨g, 0, none⟩) zl cg, .slice (some ⟨go, 0, none⟩) ko co, .slice (some ⟨gv, 0, none⟩) kv cv, .int .i64 fi] #[.int .i64 vi, .slice ao xl co2] g go gv zs O V ao L → Calls Try.prog 23 #[.agg #[.int .i64 n, .slice (some ⟨g, 0, none⟩) zl cg, .slice (some ⟨go, 0, none⟩) ko co, .slice (some ⟨gv, 0, none⟩) kv cv, .int .i64 fi], .agg #[.int .i64 vi, .slice ao xl co2]] W fun e w' => e = .returned (.tuple #[.int .i64 (bsA s0), .int .i64 (bsB s0), .int .i64 s0.v]) ∧ Below W.heap.size W w') := fun W h => by
      have := implBestTwoOpt_any n fi vi (some ⟨g, 0, none⟩) (some ⟨go, 0, none⟩) (some ⟨gv, 0, none⟩) ao cg ko co kv cv co2 zs O V L W h.iz h.io h.iv h.il HO.out HV.out (by omega) (by omega) (by rw [HM.out]; omega) (by rw [HM.out]; exact hmc) s0 (by rw [HCB.out]; exact HS0.out)
      rw [HZ.out, HM.out] at this
      exact this
    have ICX : Hid (∀ W, KC w W k kr #[.int .i64 n, .slice (some ⟨g, 0, none⟩) zl cg, .slice (some ⟨go, 0, none⟩) ko co, .slice (some ⟨gv, 0, none⟩) kv cv, .int .i64 fi] #[.int .i64 vi, .slice ao xl co2] g go gv zs O V ao L → RB W k1 vi a1 xl c1 xs → Calls Try.prog 13 #[.agg #[.int .i64 n, .slice (some ⟨g, 0, none⟩) zl cg, .slice (some ⟨go, 0, none⟩) ko co, .slice (some ⟨gv, 0, none⟩) kv cv, .int .i64 fi], .agg #[.int .i64 vi, .slice a1 xl c1]] W fun e w' => e = .returned (.int .i64 rx) ∧ Below W.heap.size W w') := fun W h hr => by
      have := implCost_any n fi vi (some ⟨g, 0, none⟩) (some ⟨go, 0, none⟩) (some ⟨gv, 0, none⟩) a1 cg ko co kv cv c1 zs O V xs W h.iz h.io h.iv hr.i HO.out HV.out (by omega) (by omega) (by rw [HXL.out]; omega) (by rw [HXL.out]; exact hc1)
      rw [HZ.out, HXL.out, HCB.out, HCX.out] at this
      exact this
    have ICL : Hid (∀ W, KC w W k kr #[.int .i64 n, .slice (some ⟨g, 0, none⟩) zl cg, .slice (some ⟨go, 0, none⟩) ko co, .slice (some ⟨gv, 0, none⟩) kv cv, .int .i64 fi] #[.int .i64 vi, .slice ao xl co2] g go gv zs O V ao L → Calls Try.prog 13 #[.agg #[.int .i64 n, .slice (some ⟨g, 0, none⟩) zl cg, .slice (some ⟨go, 0, none⟩) ko co, .slice (some ⟨gv, 0, none⟩) kv cv, .int .i64 fi], .agg #[.int .i64 vi, .slice ao xl co2]] W fun e w' => e = .returned (.int .i64 rl) ∧ Below W.heap.size W w') := fun W h => by
      have := implCost_any n fi vi (some ⟨g, 0, none⟩) (some ⟨go, 0, none⟩) (some ⟨gv, 0, none⟩) ao cg ko co kv cv co2 zs O V L W h.iz h.io h.iv h.il HO.out HV.out (by omega) (by omega) (by rw [HM.out]; omega) (by rw [HM.out]; exact hmc)
      rw [HZ.out, HM.out, HCB.out, HCL.out] at this
      exact this
    have IOK : Hid (∀ W, KC w W k kr #[.int .i64 n, .slice (some ⟨g, 0, none⟩) zl cg, .slice (some ⟨go, 0, none⟩) ko co, .slice (some ⟨gv, 0, none⟩) kv cv, .int .i64 fi] #[.int .i64 vi, .slice ao xl co2] g go gv zs O V ao L → RB W k1 vi a1 xl c1 xs → Calls Try.prog 24 #[.agg #[.int .i64 n, .slice (some ⟨g, 0, none⟩) zl cg, .slice (some ⟨go, 0, none⟩) ko co, .slice (some ⟨gv, 0, none⟩) kv cv, .int .i64 fi], .agg #[.int .i64 vi, .slice a1 xl c1]] W fun e w' => e = .returned (.bool true) ∧ Below W.heap.size W w') := fun W h hr => by
      have := lawOk_any n fi vi (some ⟨g, 0, none⟩) (some ⟨go, 0, none⟩) (some ⟨gv, 0, none⟩) a1 cg ko co kv cv c1 zs O V xs W h.iz h.io h.iv hr.i HO.out HV.out (by omega) (by omega) (by rw [HXL.out]; omega) (by rw [HXL.out]; exact hc1) true (by rw [HCB.out]; exact decide_eq_true HCX0.out)
      rw [HZ.out, HXL.out] at this
      exact this
    have ITO : Hid (∀ W (p q : Nat) (ch : Bool) (D : Int), KC w W k kr #[.int .i64 n, .slice (some ⟨g, 0, none⟩) zl cg, .slice (some ⟨go, 0, none⟩) ko co, .slice (some ⟨gv, 0, none⟩) kv cv, .int .i64 fi] #[.int .i64 vi, .slice ao xl co2] g go gv zs O V ao L → trB true n zs O V ko kv vi L p q = ch → trD true n zs O V ko kv vi L p q = D → Calls Try.prog 25 #[.agg #[.int .i64 n, .slice (some ⟨g, 0, none⟩) zl cg, .slice (some ⟨go, 0, none⟩) ko co, .slice (some ⟨gv, 0, none⟩) kv cv, .int .i64 fi], .agg #[.int .i64 vi, .slice ao xl co2], .int .i64 (p : Int), .int .i64 (q : Int)] W fun e w' => ∃ vj ad yl cc, e = .returned (.tuple #[.agg #[.int .i64 vj, .slice ad yl cc], .int .i64 D, .bool ch]) ∧ Below W.heap.size W w') := fun W p q ch D h hch hD => by
      have := implTwoOpt_any n fi vi (some ⟨g, 0, none⟩) (some ⟨go, 0, none⟩) (some ⟨gv, 0, none⟩) ao cg ko co kv cv co2 zs O V L W h.iz h.io h.iv h.il HO.out HV.out (by omega) (by omega) (by rw [HM.out]; omega) (by rw [HM.out]; exact hmc) (p : Int) (q : Int) ch (by rw [HCB.out]; exact hch) D (by rw [← hD]; unfold trD; rw [hch]; rfl) _ rfl
      rw [HZ.out, HM.out] at this
      refine this.mono ?_
      rintro e w' ⟨hb, ad, cc, rfl, _⟩
      exact ⟨_, _, _, _, rfl, hb⟩
    have HAS : Hid (∀ W y, RB W k1 vi a1 xl c1 xs → y ∈ xs → Calls Try.prog 16 #[.slice a1 xl c1, .int .i64 y] W fun e w' => e = .returned (.bool true) ∧ Below W.heap.size W w') := fun W y hr hy => by
      have := lawsHas_any a1 xl c1 y xs W hr.i (by rw [HXL.out]; exact Nat.le_refl _) (by omega)
      refine this.mono ?_
      rintro e w' ⟨rfl, rfl⟩
      have h := has_of_mem hy
      rw [HXL.out] at h
      exact ⟨by rw [h], Below.refl _ _⟩
    have SR2 : Hid (∀ W, xs = L → KC w W k kr #[.int .i64 n, .slice (some ⟨g, 0, none⟩) zl cg, .slice (some ⟨go, 0, none⟩) ko co, .slice (some ⟨gv, 0, none⟩) kv cv, .int .i64 fi] #[.int .i64 vi, .slice ao xl co2] g go gv zs O V ao L → RB W k1 vi a1 xl c1 xs → Calls Try.prog 11 #[.agg #[.int .i64 vi, .slice a1 xl c1], .agg #[.int .i64 vi, .slice ao xl co2]] W fun e w' => e = .returned (.bool true) ∧ Below W.heap.size W w') := fun W e h hr => by
      have h2 := h.il
      rw [← e] at h2
      have := sameRoute_same vi a1 ao c1 co2 xs W hr.i h2 (by rw [HXL.out]; omega)
      rw [HXL.out] at this
      exact this
    obtain ⟨sf, si, sj, sv⟩ := s0
    simp only at HSV HSE HLE IBL
    have HSV' : Hid _ := HSV
    clear HSV HS0 HBX HRX HRL HCX HCL HCX0 HX0 HXS HVI HOK HCB SRT
    have K4' : Hid (KC w w4 k kr #[.int .i64 n, .slice (some ⟨g, 0, none⟩) zl cg, .slice (some ⟨go, 0, none⟩) ko co, .slice (some ⟨gv, 0, none⟩) kv cv, .int .i64 fi] #[.int .i64 vi, .slice ao xl co2] g go gv zs O V ao L ∧ RB w4 k1 vi a1 xl c1 xs) := ⟨K4.out.1, K4.out.2.1⟩
    clear K4
    obtain ⟨d0, d1, d2, d3, d4⟩ := cells5z K4'.out.1.b1
    obtain ⟨f0, f1⟩ := cells2 K4'.out.2.x
    go_wp2_with fail
    refine (IBX.out _ K4'.out.1 K4'.out.2).mono ?_
    rintro e w5 ⟨rfl, hb⟩
    have K5 : Hid (KC w w5 k kr #[.int .i64 n, .slice (some ⟨g, 0, none⟩) zl cg, .slice (some ⟨go, 0, none⟩) ko co, .slice (some ⟨gv, 0, none⟩) kv cv, .int .i64 fi] #[.int .i64 vi, .slice ao xl co2] g go gv zs O V ao L ∧ RB w5 k1 vi a1 xl c1 xs) := ⟨K4'.out.1.below hb, K4'.out.2.below hb⟩
    clear hb K4' d0 d1 d2 d3 d4 f0 f1 IBX
    obtain ⟨d0, d1, d2, d3, d4⟩ := cells5z K5.out.1.b1
    obtain ⟨e0, e1⟩ := cells2 K5.out.1.b2
    go_wp2_with fail
    refine (IBL.out _ K5.out.1).mono ?_
    rintro e w6 ⟨rfl, hb⟩
    have K6 : Hid (KC w w6 k kr #[.int .i64 n, .slice (some ⟨g, 0, none⟩) zl cg, .slice (some ⟨go, 0, none⟩) ko co, .slice (some ⟨gv, 0, none⟩) kv cv, .int .i64 fi] #[.int .i64 vi, .slice ao xl co2] g go gv zs O V ao L ∧ RB w6 k1 vi a1 xl c1 xs) := ⟨K5.out.1.below hb, K5.out.2.below hb⟩
    clear hb K5 d0 d1 d2 d3 d4 e0 e1 IBL
    obtain ⟨bA, HBA⟩ : ∃ v, Hid (bsA ⟨sf, si, sj, sv⟩ = v) := ⟨_, rfl⟩
    obtain ⟨bB, HBB⟩ : ∃ v, Hid (bsB ⟨sf, si, sj, sv⟩ = v) := ⟨_, rfl⟩
    rw [HBA.out, HBB.out]
    go_wp2_with fail
    obtain ⟨d0, d1, d2, d3, d4⟩ := cells5z K6.out.1.b1
    obtain ⟨e0, e1⟩ := cells2 K6.out.1.b2
    obtain ⟨f0, f1⟩ := cells2 K6.out.2.x
    have z1 := fun s : Kin w6 => s.cell d0
    have z2 := fun s : Kin w6 => s.cell d1
    have z3 := fun s : Kin w6 => s.cell d2
    have z4 := fun s : Kin w6 => s.cell d3
    have z5 := fun s : Kin w6 => s.cell d4
    have z6 := fun s : Kin w6 => s.cell e0
    have z7 := fun s : Kin w6 => s.cell e1
    have z8 := fun s : Kin w6 => s.cell f0
    have z9 := fun s : Kin w6 => s.cell f1
    have hkin := Kin.there w6
    have hgt : decide (rl < rx) = false := decide_eq_false (by omega)
    have hll : ((xl : Int) != (xl : Int)) = false := by simp
    refine wp_region_kin (by kernel_rfl) (by kernel_rfl) ?_
    repeat (go_big_quiet_step ((first
      | (go_at_call 13; with_reducible exact Kin.call (ICX.out _ (K6.out.1.below (Kin.below _)) (K6.out.2.below (Kin.below _))))
      | (go_at_call 13; with_reducible exact Kin.call (ICL.out _ (K6.out.1.below (Kin.below _))))
      | (go_at_call 24; with_reducible exact Kin.call (IOK.out _ (K6.out.1.below (Kin.below _)) (K6.out.2.below (Kin.below _)))))))
    refine wpQuiet_nil ?_
    rintro _ ⟨s7, rfl⟩
    have K7 : Hid (KC w s7.w k kr #[.int .i64 n, .slice (some ⟨g, 0, none⟩) zl cg, .slice (some ⟨go, 0, none⟩) ko co, .slice (some ⟨gv, 0, none⟩) kv cv, .int .i64 fi] #[.int .i64 vi, .slice ao xl co2] g go gv zs O V ao L ∧ RB s7.w k1 vi a1 xl c1 xs) := ⟨K6.out.1.below s7.below, K6.out.2.below s7.below⟩
    clear z1 z2 z3 z4 z5 z6 z7 z8 z9 hkin d0 d1 d2 d3 d4 e0 e1 f0 f1 K6 hgt hll ICX ICL IOK
    generalize s7.w = W7 at *
    go_wp2_with fail
    go_loopw [15] (fun t wr => ∃ i : Nat, i ≤ xl ∧ t = .int .i64 i ∧ KC w wr k kr #[.int .i64 n, .slice (some ⟨g, 0, none⟩) zl cg, .slice (some ⟨go, 0, none⟩) ko co, .slice (some ⟨gv, 0, none⟩) kv cv, .int .i64 fi] #[.int .i64 vi, .slice ao xl co2] g go gv zs O V ao L ∧ RB wr k1 vi a1 xl c1 xs) (fun t _ => xl - (intOf t).toNat)
    case atStart => exact ⟨0, Nat.zero_le _, rfl, K7.out.1, K7.out.2⟩
    case round =>
      clear K7
      obtain ⟨i, hi, rfl, hK, hR⟩ := hrel
      have K8 : Hid (KC w wr k kr #[.int .i64 n, .slice (some ⟨g, 0, none⟩) zl cg, .slice (some ⟨go, 0, none⟩) ko co, .slice (some ⟨gv, 0, none⟩) kv cv, .int .i64 fi] #[.int .i64 vi, .slice ao xl co2] g go gv zs O V ao L ∧ RB wr k1 vi a1 xl c1 xs) := ⟨hK, hR⟩
      clear hK hR
      obtain ⟨e0, e1⟩ := cells2 K8.out.1.b2
      by_cases hlt : i < xl
      · obtain ⟨sb, so, ea, hcs⟩ := K8.out.1.il.some (j := i) (by rw [HM.out]; omega)
        have y1 := hcs i (by rw [HM.out]; omega)
        have hmy : L.getD i 0 ∈ xs := HMEM.out _ (getD_mem (by rw [HM.out]; exact hlt))
        obtain ⟨yv, HYV⟩ : ∃ v, Hid (L.getD i 0 = v) := ⟨_, rfl⟩
        rw [HYV.out] at y1 hmy
        have HMY : Hid (yv ∈ xs) := hmy
        clear hcs hmy
        subst ea
        obtain ⟨f0, f1⟩ := cells2 K8.out.2.x
        have hiI : (i : Int) < (xl : Int) := by omega
        have hkin := Kin.there wr
        have z1 := fun s : Kin wr => s.cell e0
        have z2 := fun s : Kin wr => s.cell e1
        have z3 := fun s : Kin wr => s.cell f0
        have z4 := fun s : Kin wr => s.cell f1
        have z5 := fun s : Kin wr => s.cell y1
        go_wp2_with fail
        refine wp_region_kin (by kernel_rfl) (by kernel_rfl) ?_
        repeat (go_big_quiet_step ((go_at_call 16; with_reducible exact Kin.call (HAS.out _ _ (K8.out.2.below (Kin.below _)) HMY.out))))
        refine wpQuiet_nil ?_
        rintro _ ⟨s9, rfl⟩
        have K9 : Hid (KC w s9.w k kr #[.int .i64 n, .slice (some ⟨g, 0, none⟩) zl cg, .slice (some ⟨go, 0, none⟩) ko co, .slice (some ⟨gv, 0, none⟩) kv cv, .int .i64 fi] #[.int .i64 vi, .slice (some ⟨sb, so, none⟩) xl co2] g go gv zs O V (some ⟨sb, so, none⟩) L ∧ RB s9.w k1 vi a1 xl c1 xs) := ⟨K8.out.1.below s9.below, K8.out.2.below s9.below⟩
        clear z1 z2 z3 z4 z5 hkin e0 e1 f0 f1 y1 K8
        go_wp2
        first
          | exact ⟨⟨i + 1, by omega, by first | rfl | go_num, K9.out.1, K9.out.2⟩, by simp [intOf]; omega⟩
          | (go_roundw
             case rel => exact ⟨i + 1, by omega, by first | rfl | go_num, K9.out.1, K9.out.2⟩
             case measure => simp [intOf]; omega)
      · have hiI : ¬ ((i : Int) < (xl : Int)) := by omega
        go_wp2_with fail
        clear e0 e1
        go_loopw [16] (fun t wr => ∃ p : Nat, p ≤ xl ∧ t = .int .i64 p ∧ KC w wr k kr #[.int .i64 n, .slice (some ⟨g, 0, none⟩) zl cg, .slice (some ⟨go, 0, none⟩) ko co, .slice (some ⟨gv, 0, none⟩) kv cv, .int .i64 fi] #[.int .i64 vi, .slice ao xl co2] g go gv zs O V ao L ∧ RB wr k1 vi a1 xl c1 xs) (fun t _ => xl - (intOf t).toNat)
        case atStart => exact ⟨0, Nat.zero_le _, rfl, K8.out.1, K8.out.2⟩
        case round =>
          clear K8
          obtain ⟨p, hp, rfl, hK, hR⟩ := hrel
          have K8 : Hid (KC w wr k kr #[.int .i64 n, .slice (some ⟨g, 0, none⟩) zl cg, .slice (some ⟨go, 0, none⟩) ko co, .slice (some ⟨gv, 0, none⟩) kv cv, .int .i64 fi] #[.int .i64 vi, .slice ao xl co2] g go gv zs O V ao L ∧ RB wr k1 vi a1 xl c1 xs) := ⟨hK, hR⟩
          clear hK hR
          obtain ⟨e0, e1⟩ := cells2 K8.out.1.b2
          by_cases hpl : p < xl
          · have hpI : (p : Int) < (xl : Int) := by omega
            go_wp2_with fail
            clear e0 e1
            go_loopw [17] (fun t wr => ∃ q : Nat, p + 1 ≤ q ∧ q ≤ xl ∧ t = .int .i64 q ∧ KC w wr k kr #[.int .i64 n, .slice (some ⟨g, 0, none⟩) zl cg, .slice (some ⟨go, 0, none⟩) ko co, .slice (some ⟨gv, 0, none⟩) kv cv, .int .i64 fi] #[.int .i64 vi, .slice ao xl co2] g go gv zs O V ao L ∧ RB wr k1 vi a1 xl c1 xs) (fun t _ => xl - (intOf t).toNat)
            case atStart => exact ⟨p + 1, Nat.le_refl _, by omega, by first | rfl | go_num, K8.out.1, K8.out.2⟩
            case round =>
              clear K8
              obtain ⟨q, hq1, hq, rfl, hK, hR⟩ := hrel
              have K8 : Hid (KC w wr k kr #[.int .i64 n, .slice (some ⟨g, 0, none⟩) zl cg, .slice (some ⟨go, 0, none⟩) ko co, .slice (some ⟨gv, 0, none⟩) kv cv, .int .i64 fi] #[.int .i64 vi, .slice ao xl co2] g go gv zs O V ao L ∧ RB wr k1 vi a1 xl c1 xs) := ⟨hK, hR⟩
              clear hK hR
              obtain ⟨e0, e1⟩ := cells2 K8.out.1.b2
              by_cases hql : q < xl
              · have hqI : (q : Int) < (xl : Int) := by omega
                obtain ⟨d0, d1, d2, d3, d4⟩ := cells5z K8.out.1.b1
                obtain ⟨ch, HCH⟩ : ∃ v, Hid (trB true n zs O V ko kv vi L p q = v) := ⟨_, rfl⟩
                obtain ⟨D, HD⟩ : ∃ v, Hid (trD true n zs O V ko kv vi L p q = v) := ⟨_, rfl⟩
                have HLL : Hid (ch = true → sv ≤ D) := fun h => by
                  rw [← HD.out]
                  exact HLE.out p q (by omega) hql (HCH.out.trans h)
                go_wp2_with fail
                refine (ITO.out _ p q ch D K8.out.1 HCH.out HD.out).mono ?_
                rintro e w9 ⟨vj, ad, yl, cc, rfl, hb⟩
                have K9 : Hid (KC w (w9.alloc (.cells #[.int .i64 vj, .slice ad yl cc] 32)) k kr #[.int .i64 n, .slice (some ⟨g, 0, none⟩) zl cg, .slice (some ⟨go, 0, none⟩) ko co, .slice (some ⟨gv, 0, none⟩) kv cv, .int .i64 fi] #[.int .i64 vi, .slice ao xl co2] g go gv zs O V ao L ∧ RB (w9.alloc (.cells #[.int .i64 vj, .slice ad yl cc] 32)) k1 vi a1 xl c1 xs) := ⟨(K8.out.1.below hb).below ((Below.refl _ _).alloc (Nat.le_refl _) _), (K8.out.2.below hb).below ((Below.refl _ _).alloc (Nat.le_refl _) _)⟩
                clear hb K8 d0 d1 d2 d3 d4 e0 e1
                cases ch
                · clear HLL
                  go_wp2
                  first
                    | exact ⟨⟨q + 1, by omega, by omega, by first | rfl | go_num, K9.out.1, K9.out.2⟩, by simp [intOf]; omega⟩
                    | (go_roundw
                       case rel => exact ⟨q + 1, by omega, by omega, by first | rfl | go_num, K9.out.1, K9.out.2⟩
                       case measure => simp [intOf]; omega)
                · have hD : ¬ D < sv := by have := HLL.out rfl; omega
                  clear HLL
                  go_wp2
                  first
                    | exact ⟨⟨q + 1, by omega, by omega, by first | rfl | go_num, K9.out.1, K9.out.2⟩, by simp [intOf]; omega⟩
                    | (go_roundw
                       case rel => exact ⟨q + 1, by omega, by omega, by first | rfl | go_num, K9.out.1, K9.out.2⟩
                       case measure => simp [intOf]; omega)
              · have hqI : ¬ ((q : Int) < (xl : Int)) := by omega
                go_wp2
                first
                  | exact ⟨⟨p + 1, by omega, by first | rfl | go_num, K8.out.1, K8.out.2⟩, by simp [intOf]; omega⟩
                  | (go_roundw
                     case rel => exact ⟨p + 1, by omega, by first | rfl | go_num, K8.out.1, K8.out.2⟩
                     case measure => simp [intOf]; omega)
          · have hpI : ¬ ((p : Int) < (xl : Int)) := by omega
            obtain ⟨f0, f1⟩ := cells2 K8.out.2.x
            obtain ⟨v1, v2, v3, v4⟩ := HSV'.out
            cases sf
            · have hsv := v3 rfl
              subst hsv
              have hA1 : bA = -1 := HBA.out.symm
              have hB1 : bB = -1 := HBB.out.symm
              subst hA1 hB1
              clear v1 v2 v3 v4
              go_wp2_with fail
              refine (SR2.out _ (HSE.out (by simp)) K8.out.1 K8.out.2).mono ?_
              rintro e w9 ⟨rfl, hb⟩
              have B9 : Hid (Below w.heap.size w w9) := K8.out.1.b.trans (hb.mono K8.out.1.b.size)
              clear hb
              go_wp2
              go_ret
              exact ⟨by first | rfl | simp, B9.out⟩
            · have hsv := v4 rfl
              have hs0 : (sv == 0) = false := by simp; omega
              clear v1 v2 v3 v4
              go_wp2
              go_ret
              exact ⟨by first | rfl | simp, K8.out.1.b⟩

theorem lawFnPolished_all (a : Option Addr) (c : Nat) (bs : List Int) (w : World) (hA : CodeAt w a bs) (hl : bs.length ≤ 9223372036854775807) :
    Calls Try.prog 6 #[.slice a bs.length c] w fun e w' => e = .returned (.bool true) ∧ Below w.heap.size w w' := by
  by_cases h : bs.length ≤ 1048576
  · exact lawFnPolished a c bs w hA h
  · exact lawFnPolished_big a c _ w hl (by omega)

end Go.Proofs.Ytplefpmchhcfcaa
