import Derived.Test.YtplefpmchhcfcaaPack0
import Derived.Test.YtplefpmchhcfcaaPack2
import Derived.Test.YtplefpmchhcfcaaKinTail
import Derived.Test.YtplefpmchhcfcaaPack14
import Derived.Test.YtplefpmchhcfcaaPack15
import Derived.Test.YtplefpmchhcfcaaPack21
import Derived.Test.YtplefpmchhcfcaaSpecRemoved
import Derived.Test.YtplefpmchhcfcaaImplInsertAt
namespace Go.Proofs.Ytplefpmchhcfcaa
open Go.RowKit

set_option maxHeartbeats 400000 in
theorem lawFnRemoved_big (a : Option Addr) (c len : Nat) (w : World) (hl : len ≤ 9223372036854775807) (h : 1048576 < len) :
    Calls Try.prog 4 #[.slice a len c] w fun e w' => e = .returned (.bool true) ∧ Below w.heap.size w w' := by
  have hd : decide (1048576 < len) = true := decide_eq_true h
  go_enter Try.func4, Try.ntmps4
  go_wp2_with (go_at_call 7; refine (big_any a c len w hl).mono ?_; rintro e w1 ⟨rfl, hw1⟩; subst w1; rw [hd])
  go_ret
  exact ⟨rfl, Below.refl _ _⟩

/-- A route in a box, its stops. -/
structure RB (W : World) (kx : Nat) (v : Int) (ad : Option Addr) (l cc : Nat) (xs : List Int) : Prop where
  x : W.heap[kx]? = some (.cells #[.int .i64 v, .slice ad l cc] 32 (0, 0))
  i : IntsAt W ad xs
theorem RB.below {W W' : World} {kx : Nat} {v : Int} {ad : Option Addr} {l cc : Nat} {xs : List Int} (h : RB W kx v ad l cc xs) (hb : Below W.heap.size W W') : RB W' kx v ad l cc xs := ⟨below_row hb (row_lt h.x) h.x, h.i.below hb⟩

theorem ks10 {w W : World} {k kr k1 : Nat} {x0 x1 x2 x3 x4 r0 r1 : Value} {g go gv : Nat} {zs O V L : List Int} {sb so : Nat} {v : Int} {a1 : Option Addr} {xl c1 : Nat} {xs : List Int} {i : Nat} {y : Int} (h : KC w W k kr #[x0, x1, x2, x3, x4] #[r0, r1] g go gv zs O V (some ⟨sb, so, none⟩) L) (hx : RB W k1 v a1 xl c1 xs) (hi : i < L.length ∧ L.getD i 0 = y) :
    W.cell? ⟨k, 0, none⟩ = some x0 ∧ W.cell? ⟨k, 1, none⟩ = some x1 ∧ W.cell? ⟨k, 2, none⟩ = some x2 ∧ W.cell? ⟨k, 3, none⟩ = some x3 ∧ W.cell? ⟨k, 4, none⟩ = some x4 ∧ W.cell? ⟨kr, 0, none⟩ = some r0 ∧ W.cell? ⟨kr, 1, none⟩ = some r1 ∧ W.cell? ⟨k1, 0, none⟩ = some (.int .i64 v) ∧ W.cell? ⟨k1, 1, none⟩ = some (.slice a1 xl c1) ∧ W.cell? ⟨sb, so + i, none⟩ = some (.int .i64 y) := by
  obtain ⟨d0, d1, d2, d3, d4⟩ := cells5z h.b1
  obtain ⟨e0, e1⟩ := cells2 h.b2
  obtain ⟨f0, f1⟩ := cells2 hx.x
  refine ⟨d0, d1, d2, d3, d4, e0, e1, f0, f1, ?_⟩
  obtain ⟨b, off, e, hc⟩ := h.il i hi.1
  simp at e
  obtain ⟨rfl, rfl⟩ := e
  rw [hc, hi.2]
theorem box_set9 {W : World} {k : Nat} {z0 z1 u v : Value} {T : TypeId} (h : W.heap[k]? = some (.cells #[z0, z1] T (0, 0))) : ((W.setCell ⟨k, 0, none⟩ u).setCell ⟨k, 1, none⟩ v).heap[k]? = some (.cells #[u, v] T (0, 0)) := by
  have s1 := heap_setCell_same W k 0 _ _ u h
  have s2 := heap_setCell_same _ k 1 _ _ v s1
  simpa using s2
theorem own_ints {w : World} {base m c : Nat} {ad : Option Addr} {L : List Int} (h : w.ownsRow base 2 1 (.slice ad m c) m (L.map (Value.int .i64))) (hl : L.length = m) : IntsAt w ad L := by
  rw [← hl] at h
  obtain ⟨a', c', e, _, hi⟩ := owns_at1 h
  have e2 : ad = a' := by injection e
  rw [e2]
  exact hi

set_option maxRecDepth 10000 in
set_option maxHeartbeats 8000000 in
theorem lawFnRemoved (a : Option Addr) (ca : Nat) (bs : List Int) (w : World) (hA : CodeAt w a bs) (hl : bs.length ≤ 1048576) :
    Calls Try.prog 4 #[.slice a bs.length ca] w fun e w' => e = .returned (.bool true) ∧ Below w.heap.size w w' := by
  have HA : Hid (CodeAt w a bs) := hA
  clear hA
  have hd : decide (1048576 < bs.length) = false := decide_eq_false (by omega)
  go_enter Try.func4, Try.ntmps4
  go_wp2_with fail
  refine (big_any a ca bs.length w (by omega)).mono ?_
  rintro e w1 ⟨rfl, hw1⟩
  subst w1
  rw [hd]
  clear hd
  go_wp2_with fail
  refine (drawRemoved_any a ca bs w HA.out hl).mono ?_
  rintro e w1 ⟨n, g, zl, cg, go, ko, co, gv, kv, cv, zs, O, V, L, fi, veh, ao, m, co2, ti, rfl, ⟨hz, hO, hV, hko1, hko5, hkv1, hkv3⟩, ⟨hm, hm4, hmc⟩, hb, iz, io, iv, il⟩
  obtain ⟨N, HLb⟩ : ∃ v, Hid (bs.length = v) := ⟨_, rfl⟩
  rw [HLb.out] at hl ⊢
  have HM : Hid (L.length = m) := hm
  have HZ : Hid (zs.length = zl) := hz
  have HO : Hid (O.length = ko * 6) := hO
  have HV : Hid (V.length = kv * 5) := hV
  have K1 : Hid (KC w ((w1.alloc (.cells #[.int .i64 n, .slice (some ⟨g, 0, none⟩) zl cg, .slice (some ⟨go, 0, none⟩) ko co, .slice (some ⟨gv, 0, none⟩) kv cv, .int .i64 fi] 30)).alloc (.cells #[.int .i64 veh, .slice ao m co2] 32)) w1.heap.size (w1.heap.size + 1) #[.int .i64 n, .slice (some ⟨g, 0, none⟩) zl cg, .slice (some ⟨go, 0, none⟩) ko co, .slice (some ⟨gv, 0, none⟩) kv cv, .int .i64 fi] #[.int .i64 veh, .slice ao m co2] g go gv zs O V ao L) := by
    have ha : Below w1.heap.size w1 ((w1.alloc (.cells #[.int .i64 n, .slice (some ⟨g, 0, none⟩) zl cg, .slice (some ⟨go, 0, none⟩) ko co, .slice (some ⟨gv, 0, none⟩) kv cv, .int .i64 fi] 30)).alloc (.cells #[.int .i64 veh, .slice ao m co2] 32)) := ((Below.refl _ _).alloc (Nat.le_refl _) _).alloc (by simp) _
    exact ⟨hb.trans (ha.mono hb.size), heap_alloc2_old _ _ _, heap_alloc2_new _ _ _, iz.below ha, io.below ha, iv.below ha, il.below ha⟩
  clear hz hO hV hm hb iz io iv il
  obtain ⟨cb, HCB⟩ : ∃ v, Hid (caseB n zs O V ko kv fi = v) := ⟨_, rfl⟩
  obtain ⟨ch, HCH⟩ : ∃ v, Hid (chB cb n zs O V ko kv veh L (inB ti 0 ((L.length : Int) - 1)) (remL L ti.toNat) = v) := ⟨_, rfl⟩
  obtain ⟨D, HD⟩ : ∃ v, Hid (chD ch n zs O V ko kv veh L (remL L ti.toNat) = v) := ⟨_, rfl⟩
  obtain ⟨xs, HXS⟩ : ∃ v, Hid (chL ch (remL L ti.toNat) = v) := ⟨_, rfl⟩
  obtain ⟨vi, HVI⟩ : ∃ v, Hid (chI ch veh = v) := ⟨_, rfl⟩
  have hx12 : xs.length ≤ 12 := by rw [← HXS.out, ← HCH.out]; exact chL_le
  obtain ⟨xl, HXL⟩ : ∃ v, Hid (xs.length = v) := ⟨_, rfl⟩
  rw [HXL.out] at hx12
  have ITO : Hid (∀ W k kr, KC w W k kr #[.int .i64 n, .slice (some ⟨g, 0, none⟩) zl cg, .slice (some ⟨go, 0, none⟩) ko co, .slice (some ⟨gv, 0, none⟩) kv cv, .int .i64 fi] #[.int .i64 veh, .slice ao m co2] g go gv zs O V ao L → Calls Try.prog 12 #[.agg #[.int .i64 n, .slice (some ⟨g, 0, none⟩) zl cg, .slice (some ⟨go, 0, none⟩) ko co, .slice (some ⟨gv, 0, none⟩) kv cv, .int .i64 fi], .agg #[.int .i64 veh, .slice ao m co2], .int .i64 ti] W fun e w' => ∃ ad cc, e = .returned (.tuple #[.agg #[.int .i64 vi, .slice ad xl cc], .int .i64 D, .bool ch]) ∧ Below W.heap.size W w' ∧ IntsAt w' ad xs ∧ xl ≤ cc ∧ ((ad = none ∧ xl = 0) ∨ ∃ b off, ad = some ⟨b, off, none⟩)) := fun W k kr h => by
    have := implRemoved_any n fi veh (some ⟨g, 0, none⟩) (some ⟨go, 0, none⟩) (some ⟨gv, 0, none⟩) ao cg ko co kv cv co2 zs O V L W h.iz h.io h.iv h.il HO.out HV.out (by omega) (by omega) (by rw [HM.out]; omega) (by rw [HM.out]; exact hmc) ti ch (by rw [HCB.out]; exact HCH.out) D HD.out xs HXS.out
    rw [HZ.out, HM.out] at this
    refine this.mono ?_
    rintro e w' ⟨hb, ad, cc, rfl, ho⟩
    have hoc := ho
    obtain ⟨a', c', e, _, hi⟩ := owns_at1 ho
    have e2 : ad = a' := by injection e
    rw [HXL.out, HVI.out]
    refine ⟨ad, cc, rfl, hb, by rw [e2]; exact hi, ?_, ?_⟩
    · obtain ⟨_, ⟨h1, h2⟩ | ⟨g', cap, cur, h2, _, _, h3, _⟩⟩ := hoc
      · rw [← HXL.out, h2]; omega
      · injection h2 with _ _ e3
        rw [← HXL.out]
        omega
    · obtain ⟨_, ⟨h1, h2⟩ | ⟨g', cap, cur, h2, _⟩⟩ := hoc
      · injection h1 with e3 _ _
        exact .inl ⟨e3, by rw [← HXL.out]; exact h2⟩
      · injection h2 with e3 _ _
        exact .inr ⟨_, _, e3⟩
  have STO : Hid (∀ W k kr, KC w W k kr #[.int .i64 n, .slice (some ⟨g, 0, none⟩) zl cg, .slice (some ⟨go, 0, none⟩) ko co, .slice (some ⟨gv, 0, none⟩) kv cv, .int .i64 fi] #[.int .i64 veh, .slice ao m co2] g go gv zs O V ao L → Calls Try.prog 15 #[.agg #[.int .i64 n, .slice (some ⟨g, 0, none⟩) zl cg, .slice (some ⟨go, 0, none⟩) ko co, .slice (some ⟨gv, 0, none⟩) kv cv, .int .i64 fi], .agg #[.int .i64 veh, .slice ao m co2], .int .i64 ti] W fun e w' => ∃ ad cc, e = .returned (.tuple #[.agg #[.int .i64 vi, .slice ad xl cc], .int .i64 D, .bool ch]) ∧ Below W.heap.size W w' ∧ IntsAt w' ad xs ∧ xl ≤ cc) := fun W k kr h => by
    have := specRemoved_any n fi veh (some ⟨g, 0, none⟩) (some ⟨go, 0, none⟩) (some ⟨gv, 0, none⟩) ao cg ko co kv cv co2 zs O V L W h.iz h.io h.iv h.il HO.out HV.out (by omega) (by omega) (by rw [HM.out]; omega) (by rw [HM.out]; exact hmc) ti ch (by rw [HCB.out]; exact HCH.out) D HD.out xs HXS.out
    rw [HZ.out, HM.out] at this
    refine this.mono ?_
    rintro e w' ⟨hb, ad, cc, rfl, ho⟩
    have hoc := ho
    obtain ⟨a', c', e, _, hi⟩ := owns_at1 ho
    have e2 : ad = a' := by injection e
    rw [HXL.out, HVI.out]
    refine ⟨ad, cc, rfl, hb, by rw [e2]; exact hi, ?_⟩
    obtain ⟨_, ⟨h1, h2⟩ | ⟨g', cap, cur, h2, _, _, h3, _⟩⟩ := hoc
    · rw [← HXL.out, h2]; omega
    · injection h2 with _ _ e3
      rw [← HXL.out]
      omega
  have SRT : Hid (∀ W k1 k2 a1 c1 a2 c2, RB W k1 vi a1 xl c1 xs → RB W k2 vi a2 xl c2 xs → Calls Try.prog 11 #[.agg #[.int .i64 vi, .slice a1 xl c1], .agg #[.int .i64 vi, .slice a2 xl c2]] W fun e w' => e = .returned (.bool true) ∧ Below W.heap.size W w') := fun W k1 k2 a1 c1 a2 c2 h1 h2 => by
    have := sameRoute_same vi a1 a2 c1 c2 xs W h1.i h2.i (by rw [HXL.out]; omega)
    rw [HXL.out] at this
    exact this
  have hcc : (ch != ch) = false := by simp
  have hce : (ch == ch) = true := by simp
  have hDD : (D != D) = false := by simp
  have hDe : (D == D) = true := by simp
  obtain ⟨d0, d1, d2, d3, d4⟩ := cells5z K1.out.b1
  obtain ⟨e0, e1⟩ := cells2 K1.out.b2
  go_wp2_with fail
  generalize (w1.alloc (.cells #[.int .i64 n, .slice (some ⟨g, 0, none⟩) zl cg, .slice (some ⟨go, 0, none⟩) ko co, .slice (some ⟨gv, 0, none⟩) kv cv, .int .i64 fi] 30)).alloc (.cells #[.int .i64 veh, .slice ao m co2] 32) = W1 at *
  obtain ⟨k, HK⟩ : ∃ v, Hid (w1.heap.size = v) := ⟨_, rfl⟩
  rw [HK.out] at K1 d0 d1 d2 d3 d4 e0 e1 ⊢
  obtain ⟨kr, HKR⟩ : ∃ v, Hid (k + 1 = v) := ⟨_, rfl⟩
  rw [HKR.out] at K1 e0 e1 ⊢
  refine (ITO.out _ _ _ K1.out).mono ?_
  rintro e w2 ⟨a1, c1, rfl, hb, hi1, hc1, hbi⟩
  have HBI : Hid ((a1 = none ∧ xl = 0) ∨ ∃ b off, a1 = some ⟨b, off, none⟩) := hbi
  clear hbi
  have K2 : Hid (KC w (w2.alloc (.cells #[.int .i64 vi, .slice a1 xl c1] 32)) k kr #[.int .i64 n, .slice (some ⟨g, 0, none⟩) zl cg, .slice (some ⟨go, 0, none⟩) ko co, .slice (some ⟨gv, 0, none⟩) kv cv, .int .i64 fi] #[.int .i64 veh, .slice ao m co2] g go gv zs O V ao L ∧ RB (w2.alloc (.cells #[.int .i64 vi, .slice a1 xl c1] 32)) w2.heap.size vi a1 xl c1 xs) := by
    have ha : Below w2.heap.size w2 (w2.alloc (.cells #[.int .i64 vi, .slice a1 xl c1] 32)) := (Below.refl _ _).alloc (Nat.le_refl _) _
    exact ⟨(K1.out.below hb).below ha, ⟨heap_alloc_new _ _, hi1.below ha⟩⟩
  clear hb hi1 K1 d0 d1 d2 d3 d4 e0 e1
  obtain ⟨d0, d1, d2, d3, d4⟩ := cells5z K2.out.1.b1
  obtain ⟨e0, e1⟩ := cells2 K2.out.1.b2
  go_wp2_with fail
  generalize w2.alloc (.cells #[.int .i64 vi, .slice a1 xl c1] 32) = W2 at *
  obtain ⟨k1, HK1⟩ : ∃ v, Hid (w2.heap.size = v) := ⟨_, rfl⟩
  rw [HK1.out] at K2 ⊢
  refine (STO.out _ _ _ K2.out.1).mono ?_
  rintro e w3 ⟨a2, c2, rfl, hb, hi2, hc2⟩
  have K3 : Hid (KC w (w3.alloc (.cells #[.int .i64 vi, .slice a2 xl c2] 32)) k kr #[.int .i64 n, .slice (some ⟨g, 0, none⟩) zl cg, .slice (some ⟨go, 0, none⟩) ko co, .slice (some ⟨gv, 0, none⟩) kv cv, .int .i64 fi] #[.int .i64 veh, .slice ao m co2] g go gv zs O V ao L ∧ RB (w3.alloc (.cells #[.int .i64 vi, .slice a2 xl c2] 32)) k1 vi a1 xl c1 xs ∧ RB (w3.alloc (.cells #[.int .i64 vi, .slice a2 xl c2] 32)) w3.heap.size vi a2 xl c2 xs) := by
    have ha : Below w3.heap.size w3 (w3.alloc (.cells #[.int .i64 vi, .slice a2 xl c2] 32)) := (Below.refl _ _).alloc (Nat.le_refl _) _
    exact ⟨(K2.out.1.below hb).below ha, (K2.out.2.below hb).below ha, ⟨heap_alloc_new _ _, hi2.below ha⟩⟩
  clear hb hi2 K2 d0 d1 d2 d3 d4 e0 e1 STO
  obtain ⟨f0, f1⟩ := cells2 K3.out.2.1.x
  obtain ⟨h0, h1⟩ := cells2 K3.out.2.2.x
  go_wp2_with fail
  generalize w3.alloc (.cells #[.int .i64 vi, .slice a2 xl c2] 32) = W3 at *
  obtain ⟨k2, HK2⟩ : ∃ v, Hid (w3.heap.size = v) := ⟨_, rfl⟩
  rw [HK2.out] at K3 h0 h1 ⊢
  refine (SRT.out _ _ _ _ _ _ _ K3.out.2.1 K3.out.2.2).mono ?_
  rintro e w4 ⟨rfl, hb⟩
  have K4 : Hid (KC w w4 k kr #[.int .i64 n, .slice (some ⟨g, 0, none⟩) zl cg, .slice (some ⟨go, 0, none⟩) ko co, .slice (some ⟨gv, 0, none⟩) kv cv, .int .i64 fi] #[.int .i64 veh, .slice ao m co2] g go gv zs O V ao L ∧ RB w4 k1 vi a1 xl c1 xs ∧ RB w4 k2 vi a2 xl c2 xs) := ⟨K3.out.1.below hb, K3.out.2.1.below hb, K3.out.2.2.below hb⟩
  clear hb K3 f0 f1 h0 h1
  obtain ⟨f0, f1⟩ := cells2 K4.out.2.1.x
  obtain ⟨h0, h1⟩ := cells2 K4.out.2.2.x
  cases ch
  · go_wp2_with fail
    refine (SRT.out _ _ _ _ _ _ _ K4.out.2.1 K4.out.2.2).mono ?_
    rintro e w5 ⟨rfl, hb⟩
    have B5 : Hid (Below w.heap.size w w5) := K4.out.1.b.trans (hb.mono K4.out.1.b.size)
    clear hb
    go_wp2
    go_ret
    exact ⟨by first | rfl | simp, B5.out⟩
  · have hvi : vi = veh := by rw [← HVI.out]; rfl
    subst hvi
    obtain ⟨hc0, hin, hc1'⟩ := chB_true HCH.out
    have hcbt : cb = true := code_case hc0
    subst hcbt
    have hin' := inB_true hin
    obtain ⟨i0, rfl⟩ := Int.eq_ofNat_of_zero_le hin'.1
    have hiL : i0 < L.length := by omega
    have him : i0 < m := by rw [← HM.out]; exact hiL
    have HXR : Hid (xs = remL L i0) := by show xs = _; rw [← HXS.out]; rfl
    have hxm : xl + 1 = m := by
      have := remL_length hiL
      rw [← HXR.out, HXL.out, HM.out] at this
      omega
    have HMB : Hid (matB n zs = true) := by
      have h := HCB.out
      unfold caseB at h
      simp only [Bool.and_eq_true] at h
      exact h.1.1.1
    obtain ⟨yv, HYV⟩ : ∃ v, Hid (L.getD i0 0 = v) := ⟨_, rfl⟩
    have HBK : Hid (chB true n zs O V ko kv vi xs (inB (i0 : Int) 0 (xs.length : Int)) (insL xs i0 yv) = true ∧ chD true n zs O V ko kv vi xs (insL xs i0 yv) = -D ∧ chL true (insL xs i0 yv) = L) := by
      have hTB := take_back hiL HCH.out
      rw [HYV.out, ← HXR.out] at hTB
      refine ⟨hTB.1, ?_, hTB.2.2⟩
      rw [hTB.2.1, ← HD.out, HXR.out]
      rfl
    have HGN : Hid (hasTo xs xl yv = false) := by
      have := rem_gone hc0 hiL
      rw [HYV.out, ← HXR.out, HXL.out] at this
      exact this
    have hDb : D = rcV n zs O V ko kv vi xs - rcV n zs O V ko kv vi L := by rw [← HD.out, HXR.out]; rfl
    have hb1 := rcV_bd HMB.out O V ko kv vi xs
    have hb2 := rcV_bd HMB.out O V ko kv vi L
    have HDB : Hid (-9223372036854775808 ≤ -D ∧ -D ≤ 9223372036854775807) := ⟨by omega, by omega⟩
    have HIY : Hid (i0 < L.length ∧ L.getD i0 0 = yv) := ⟨hiL, HYV.out⟩
    clear hDb hb1 hb2 hc0 hc1' hin hin' hxm
    obtain ⟨sb, so, ea2, hcs2⟩ := K4.out.1.il.some (j := i0) hiL
    clear hcs2 hiL
    subst ea2
    have IIB : Hid (∀ W, KC w W k kr #[.int .i64 n, .slice (some ⟨g, 0, none⟩) zl cg, .slice (some ⟨go, 0, none⟩) ko co, .slice (some ⟨gv, 0, none⟩) kv cv, .int .i64 fi] #[.int .i64 vi, .slice (some ⟨sb, so, none⟩) m co2] g go gv zs O V (some ⟨sb, so, none⟩) L → RB W k1 vi a1 xl c1 xs → Calls Try.prog 9 #[.agg #[.int .i64 n, .slice (some ⟨g, 0, none⟩) zl cg, .slice (some ⟨go, 0, none⟩) ko co, .slice (some ⟨gv, 0, none⟩) kv cv, .int .i64 fi], .agg #[.int .i64 vi, .slice a1 xl c1], .int .i64 yv, .int .i64 (i0 : Int)] W fun e w' => ∃ ad cc, e = .returned (.tuple #[.agg #[.int .i64 vi, .slice ad m cc], .int .i64 (-D), .bool true]) ∧ Below W.heap.size W w' ∧ w'.ownsRow W.heap.size 2 1 (.slice ad m cc) m (L.map (Value.int .i64))) := fun W h hr => by
      have := implInsertAt_any n fi vi (some ⟨g, 0, none⟩) (some ⟨go, 0, none⟩) (some ⟨gv, 0, none⟩) a1 cg ko co kv cv c1 zs O V xs W h.iz h.io h.iv hr.i HO.out HV.out (by omega) (by omega) (by rw [HXL.out]; omega) (by rw [HXL.out]; exact hc1) (by rw [HXL.out]; exact HBI.out) yv i0 true (by rw [HCB.out]; exact HBK.out.1) (-D) HBK.out.2.1 L HBK.out.2.2
      rw [HZ.out, HXL.out] at this
      refine this.mono ?_
      rintro e w' ⟨hb, ad, cc, rfl, ho⟩
      rw [HM.out] at ho ⊢
      exact ⟨ad, cc, rfl, hb, ho⟩
    have SR2 : Hid (∀ W a3 c3, IntsAt W a3 L → IntsAt W (some ⟨sb, so, none⟩) L → Calls Try.prog 11 #[.agg #[.int .i64 vi, .slice a3 m c3], .agg #[.int .i64 vi, .slice (some ⟨sb, so, none⟩) m co2]] W fun e w' => e = .returned (.bool true) ∧ Below W.heap.size W w') := fun W a3 c3 h1 h2 => by
      have := sameRoute_same vi a3 (some ⟨sb, so, none⟩) c3 co2 L W h1 h2 (by rw [HM.out]; omega)
      rw [HM.out] at this
      exact this
    have HAS : Hid (∀ W, RB W k1 vi a1 xl c1 xs → Calls Try.prog 16 #[.slice a1 xl c1, .int .i64 yv] W fun e w' => e = .returned (.bool false) ∧ Below W.heap.size W w') := fun W hr => by
      refine (lawsHas_any a1 xl c1 yv xs W hr.i (by rw [HXL.out]; exact Nat.le_refl _) (by omega)).mono ?_
      rintro e w' ⟨rfl, rfl⟩
      rw [HGN.out]
      exact ⟨rfl, Below.refl _ _⟩
    clear f0 f1 h0 h1
    have hiI : (i0 : Int) < (m : Int) := by omega
    have hiN : i0 < m := him
    go_wp2_with fail
    have kS := ks10 (K4.out.1.below (Below.refl _ _).drew) (K4.out.2.1.below (Below.refl _ _).drew) HIY.out
    have kZ := ks10 (K4.out.1.below (((Below.refl _ _).alloc (Nat.le_refl _) (Obj.cells #[Value.int IntKind.i64 0, Value.slice none 0 0] 32)).drew)) (K4.out.2.1.below (((Below.refl _ _).alloc (Nat.le_refl _) (Obj.cells #[Value.int IntKind.i64 0, Value.slice none 0 0] 32)).drew)) HIY.out
    go_region_held3 (fun W => W.cell? ⟨k, 0, none⟩ = some (.int .i64 n) ∧ W.cell? ⟨k, 1, none⟩ = some (.slice (some ⟨g, 0, none⟩) zl cg) ∧ W.cell? ⟨k, 2, none⟩ = some (.slice (some ⟨go, 0, none⟩) ko co) ∧ W.cell? ⟨k, 3, none⟩ = some (.slice (some ⟨gv, 0, none⟩) kv cv) ∧ W.cell? ⟨k, 4, none⟩ = some (.int .i64 fi) ∧ W.cell? ⟨kr, 0, none⟩ = some (.int .i64 vi) ∧ W.cell? ⟨kr, 1, none⟩ = some (.slice (some ⟨sb, so, none⟩) m co2) ∧ W.cell? ⟨k1, 0, none⟩ = some (.int .i64 vi) ∧ W.cell? ⟨k1, 1, none⟩ = some (.slice a1 xl c1) ∧ W.cell? ⟨sb, so + i0, none⟩ = some (.int .i64 yv)) (first | with_reducible exact kS | with_reducible exact kZ | with_reducible exact kT | with_reducible exact ks10 (K4.out.1.below (F5.out.alloc F5.out.size _)) (K4.out.2.1.below (F5.out.alloc F5.out.size _)) HIY.out | go_keep) ((first
      | (go_at_call 9
         with_reducible refine (IIB.out w4.drew (K4.out.1.below (Below.refl _ _).drew) (K4.out.2.1.below (Below.refl _ _).drew)).mono ?_
         rintro e w5 ⟨a3, c3, rfl, hb, ho⟩
         have F5 : Hid (Below w4.heap.size w4 w5) := (Below.refl _ _).drew.trans (hb.mono (Nat.le_refl _))
         have O5 : Hid (w5.ownsRow w4.heap.size 2 1 (.slice a3 m c3) m (L.map (Value.int .i64))) := ho
         have kS := ks10 (K4.out.1.below F5.out) (K4.out.2.1.below F5.out) HIY.out
         clear hb ho)
      | (go_at_call 9
         with_reducible refine (IIB.out (w4.alloc (Obj.cells #[Value.int IntKind.i64 0, Value.slice none 0 0] 32)).drew (K4.out.1.below (((Below.refl _ _).alloc (Nat.le_refl _) _).drew)) (K4.out.2.1.below (((Below.refl _ _).alloc (Nat.le_refl _) _).drew))).mono ?_
         rintro e w5 ⟨a3, c3, rfl, hb, ho⟩
         have F5 : Hid (Below w4.heap.size w4 w5) := ((Below.refl _ _).alloc (Nat.le_refl _) _).drew.trans (hb.mono (by simp))
         have O5 : Hid (w5.ownsRow w4.heap.size 2 1 (.slice a3 m c3) m (L.map (Value.int .i64))) := owns_base ho (by simp)
         have V5 := below_row hb (k := w4.heap.size) (by simp) (heap_alloc_new w4 (Obj.cells #[Value.int IntKind.i64 0, Value.slice none 0 0] 32))
         obtain ⟨z0, z1⟩ := cells2 V5
         have zf := fun i => frozen_of_row _ _ i _ _ V5
         have kS := ks10 (K4.out.1.below F5.out) (K4.out.2.1.below F5.out) HIY.out
         have kT := ks10 (K4.out.1.below ((F5.out.setCell (p := ⟨w4.heap.size, 0, none⟩) (by simp) (.int .i64 vi)).setCell (p := ⟨w4.heap.size, 1, none⟩) (by simp) (.slice a3 m c3))) (K4.out.2.1.below ((F5.out.setCell (p := ⟨w4.heap.size, 0, none⟩) (by simp) (.int .i64 vi)).setCell (p := ⟨w4.heap.size, 1, none⟩) (by simp) (.slice a3 m c3))) HIY.out
         clear hb ho)))
    all_goals
      clear kS
      first
        | (have V6 : w5.heap[w4.heap.size]? = _ := V5
           have FF : Hid (Below w4.heap.size w4 ((w5.setCell ⟨w4.heap.size, 0, none⟩ (.int .i64 vi)).setCell ⟨w4.heap.size, 1, none⟩ (.slice a3 m c3))) := (F5.out.setCell (by simp) _).setCell (by simp) _
           have K5 : Hid (KC w ((w5.setCell ⟨w4.heap.size, 0, none⟩ (.int .i64 vi)).setCell ⟨w4.heap.size, 1, none⟩ (.slice a3 m c3)) k kr #[.int .i64 n, .slice (some ⟨g, 0, none⟩) zl cg, .slice (some ⟨go, 0, none⟩) ko co, .slice (some ⟨gv, 0, none⟩) kv cv, .int .i64 fi] #[.int .i64 vi, .slice (some ⟨sb, so, none⟩) m co2] g go gv zs O V (some ⟨sb, so, none⟩) L ∧ RB ((w5.setCell ⟨w4.heap.size, 0, none⟩ (.int .i64 vi)).setCell ⟨w4.heap.size, 1, none⟩ (.slice a3 m c3)) k1 vi a1 xl c1 xs ∧ RB ((w5.setCell ⟨w4.heap.size, 0, none⟩ (.int .i64 vi)).setCell ⟨w4.heap.size, 1, none⟩ (.slice a3 m c3)) w4.heap.size vi a3 m c3 L) := ⟨K4.out.1.below FF.out, K4.out.2.1.below FF.out, ⟨box_set9 V5, own_ints (ownsRow_setCell_other (ownsRow_setCell_other O5.out (own_ne O5.out V5) _) (own_ne O5.out V5) _) HM.out⟩⟩
           clear V6 V5 z0 z1 zf kT FF
           generalize ((w5.setCell ⟨w4.heap.size, 0, none⟩ (.int .i64 vi)).setCell ⟨w4.heap.size, 1, none⟩ (.slice a3 m c3)) = W5 at *
           generalize w4.heap.size = k3 at *)
        | (have FF : Hid (Below w4.heap.size w4 (w5.alloc (Obj.cells #[Value.int IntKind.i64 vi, Value.slice a3 m c3] 32))) := F5.out.alloc F5.out.size _
           have K5 : Hid (KC w (w5.alloc (Obj.cells #[Value.int IntKind.i64 vi, Value.slice a3 m c3] 32)) k kr #[.int .i64 n, .slice (some ⟨g, 0, none⟩) zl cg, .slice (some ⟨go, 0, none⟩) ko co, .slice (some ⟨gv, 0, none⟩) kv cv, .int .i64 fi] #[.int .i64 vi, .slice (some ⟨sb, so, none⟩) m co2] g go gv zs O V (some ⟨sb, so, none⟩) L ∧ RB (w5.alloc (Obj.cells #[Value.int IntKind.i64 vi, Value.slice a3 m c3] 32)) k1 vi a1 xl c1 xs ∧ RB (w5.alloc (Obj.cells #[Value.int IntKind.i64 vi, Value.slice a3 m c3] 32)) w5.heap.size vi a3 m c3 L) := ⟨K4.out.1.below FF.out, K4.out.2.1.below FF.out, ⟨heap_alloc_new _ _, own_ints (O5.out.alloc _) HM.out⟩⟩
           clear FF
           generalize w5.alloc (Obj.cells #[Value.int IntKind.i64 vi, Value.slice a3 m c3] 32) = W5 at *
           generalize w5.heap.size = k3 at *)
      clear kZ
      clear IIB ITO SRT K4 F5 O5
      obtain ⟨d0, d1, d2, d3, d4, e0, e1, f0, f1, y2⟩ := ks10 K5.out.1 K5.out.2.1 HIY.out
      obtain ⟨h0, h1⟩ := cells2 K5.out.2.2.x
      have z6 := fun s : Kin W5 => s.cell e0
      have z7 := fun s : Kin W5 => s.cell e1
      have z8 := fun s : Kin W5 => s.cell f0
      have z9 := fun s : Kin W5 => s.cell f1
      have z10 := fun s : Kin W5 => s.cell h0
      have z11 := fun s : Kin W5 => s.cell h1
      have z13 := fun s : Kin W5 => s.cell y2
      have hkin := Kin.there W5
      have hn1 : wrap64 (-D) = -D := IntWalk.wrap64_in _ (by have := HDB.out; omega)
      have hn2 : IntKind.i64.wrap (-D) = -D := by rw [IntKind.wrap_i64]; have := HDB.out; omega
      have hnn : (-D == -D) = true := by simp
      go_wp2_with fail
      refine wp_region_kin (by kernel_rfl) (by kernel_rfl) ?_
      repeat (go_big_quiet_step ((first
        | (go_at_call 11; with_reducible exact Kin.call (SR2.out _ _ _ (K5.out.2.2.i.below (Kin.below _)) (K5.out.1.il.below (Kin.below _))))
        | (go_at_call 16; with_reducible exact Kin.call (HAS.out _ (K5.out.2.1.below (Kin.below _)))))))
      refine wpQuiet_nil ?_
      rintro _ ⟨s, rfl⟩
      clear z6 z7 z8 z9 z10 z11 z13 hkin d0 d1 d2 d3 d4 e0 e1 f0 f1 h0 h1 y2
      go_wp2
      go_ret
      exact ⟨by first | rfl | simp, K5.out.1.b.trans (s.below.mono K5.out.1.b.size)⟩

theorem lawFnRemoved_all (a : Option Addr) (c : Nat) (bs : List Int) (w : World) (hA : CodeAt w a bs) (hl : bs.length ≤ 9223372036854775807) :
    Calls Try.prog 4 #[.slice a bs.length c] w fun e w' => e = .returned (.bool true) ∧ Below w.heap.size w w' := by
  by_cases h : bs.length ≤ 1048576
  · exact lawFnRemoved a c bs w hA h
  · exact lawFnRemoved_big a c _ w hl (by omega)

end Go.Proofs.Ytplefpmchhcfcaa
