import Derived.Test.YtplefpmchhcfcaaPack2
import Derived.Test.YtplefpmchhcfcaaKinTail
import Derived.Test.YtplefpmchhcfcaaDrawInsert
import Derived.Test.YtplefpmchhcfcaaPack16
import Derived.Test.YtplefpmchhcfcaaPack22
import Derived.Test.YtplefpmchhcfcaaImplInsertAt
import Derived.Test.YtplefpmchhcfcaaPack26
import Derived.Test.YtplefpmchhcfcaaImplCost
namespace Go.Proofs.Ytplefpmchhcfcaa
open Go.RowKit

set_option maxHeartbeats 400000 in
theorem lawFnInserted_big (a : Option Addr) (c len : Nat) (w : World) (hl : len ≤ 9223372036854775807) (h : 1048576 < len) :
    Calls Try.prog 3 #[.slice a len c] w fun e w' => e = .returned (.bool true) ∧ Below w.heap.size w w' := by
  have hd : decide (1048576 < len) = true := decide_eq_true h
  go_enter Try.func3, Try.ntmps3
  go_wp2_with (go_at_call 7; refine (big_any a c len w hl).mono ?_; rintro e w1 ⟨rfl, hw1⟩; subst w1; rw [hd])
  go_ret
  exact ⟨rfl, Below.refl _ _⟩

/-- A route in a box, its stops. -/
structure RB (W : World) (kx : Nat) (v : Int) (ad : Option Addr) (l cc : Nat) (xs : List Int) : Prop where
  x : W.heap[kx]? = some (.cells #[.int .i64 v, .slice ad l cc] 32 (0, 0))
  i : IntsAt W ad xs
theorem RB.below {W W' : World} {kx : Nat} {v : Int} {ad : Option Addr} {l cc : Nat} {xs : List Int} (h : RB W kx v ad l cc xs) (hb : Below W.heap.size W W') : RB W' kx v ad l cc xs := ⟨below_row hb (row_lt h.x) h.x, h.i.below hb⟩

set_option maxRecDepth 10000 in
set_option maxHeartbeats 8000000 in
theorem lawFnInserted (a : Option Addr) (ca : Nat) (bs : List Int) (w : World) (hA : CodeAt w a bs) (hl : bs.length ≤ 1048576) :
    Calls Try.prog 3 #[.slice a bs.length ca] w fun e w' => e = .returned (.bool true) ∧ Below w.heap.size w w' := by
  have HA : Hid (CodeAt w a bs) := hA
  clear hA
  have hd : decide (1048576 < bs.length) = false := decide_eq_false (by omega)
  go_enter Try.func3, Try.ntmps3
  go_wp2_with fail
  refine (big_any a ca bs.length w (by omega)).mono ?_
  rintro e w1 ⟨rfl, hw1⟩
  subst w1
  rw [hd]
  clear hd
  go_wp2_with fail
  refine (drawInsert_any a ca bs w HA.out hl).mono ?_
  rintro e w1 ⟨n, g, zl, cg, go, ko, co, gv, kv, cv, zs, O, V, L, fi, veh, ao, m, co2, oid, ti, rfl, ⟨hz, hO, hV, hko1, hko5, hkv1, hkv3⟩, ⟨hm, hm4, hmc⟩, hbi, hb, iz, io, iv, il⟩
  obtain ⟨N, HLb⟩ : ∃ v, Hid (bs.length = v) := ⟨_, rfl⟩
  rw [HLb.out] at hl ⊢
  have HM : Hid (L.length = m) := hm
  have HBI : Hid (((ao = none ∧ L = [] ∧ co2 = 0) ∨ ∃ g, ao = some ⟨g, 0, none⟩)) := hbi
  have IBI : Hid ((ao = none ∧ m = 0) ∨ ∃ b off, ao = some ⟨b, off, none⟩) := by
    rcases hbi with ⟨h1, h2, _⟩ | ⟨g, h⟩
    · exact .inl ⟨h1, by rw [← hm, h2]; rfl⟩
    · exact .inr ⟨_, _, h⟩
  clear hbi
  have HZ : Hid (zs.length = zl) := hz
  have HO : Hid (O.length = ko * 6) := hO
  have HV : Hid (V.length = kv * 5) := hV
  have K1 : Hid (KC w ((w1.alloc (.cells #[.int .i64 n, .slice (some ⟨g, 0, none⟩) zl cg, .slice (some ⟨go, 0, none⟩) ko co, .slice (some ⟨gv, 0, none⟩) kv cv, .int .i64 fi] 30)).alloc (.cells #[.int .i64 veh, .slice ao m co2] 32)) w1.heap.size (w1.heap.size + 1) #[.int .i64 n, .slice (some ⟨g, 0, none⟩) zl cg, .slice (some ⟨go, 0, none⟩) ko co, .slice (some ⟨gv, 0, none⟩) kv cv, .int .i64 fi] #[.int .i64 veh, .slice ao m co2] g go gv zs O V ao L) := by
    have ha : Below w1.heap.size w1 ((w1.alloc (.cells #[.int .i64 n, .slice (some ⟨g, 0, none⟩) zl cg, .slice (some ⟨go, 0, none⟩) ko co, .slice (some ⟨gv, 0, none⟩) kv cv, .int .i64 fi] 30)).alloc (.cells #[.int .i64 veh, .slice ao m co2] 32)) := ((Below.refl _ _).alloc (Nat.le_refl _) _).alloc (by simp) _
    exact ⟨hb.trans (ha.mono hb.size), heap_alloc2_old _ _ _, heap_alloc2_new _ _ _, iz.below ha, io.below ha, iv.below ha, il.below ha⟩
  clear hz hO hV hm hb iz io iv il
  obtain ⟨cb, HCB⟩ : ∃ v, Hid (caseB n zs O V ko kv fi = v) := ⟨_, rfl⟩
  obtain ⟨ch, HCH⟩ : ∃ v, Hid (chB cb n zs O V ko kv veh L (inB ti 0 (L.length : Int)) (insL L ti.toNat oid) = v) := ⟨_, rfl⟩
  obtain ⟨D, HD⟩ : ∃ v, Hid (chD ch n zs O V ko kv veh L (insL L ti.toNat oid) = v) := ⟨_, rfl⟩
  obtain ⟨xs, HXS⟩ : ∃ v, Hid (chL ch (insL L ti.toNat oid) = v) := ⟨_, rfl⟩
  obtain ⟨vi, HVI⟩ : ∃ v, Hid (chI ch veh = v) := ⟨_, rfl⟩
  have hx12 : xs.length ≤ 12 := by rw [← HXS.out, ← HCH.out]; exact chL_le
  obtain ⟨xl, HXL⟩ : ∃ v, Hid (xs.length = v) := ⟨_, rfl⟩
  rw [HXL.out] at hx12
  have ITO : Hid (∀ W k kr, KC w W k kr #[.int .i64 n, .slice (some ⟨g, 0, none⟩) zl cg, .slice (some ⟨go, 0, none⟩) ko co, .slice (some ⟨gv, 0, none⟩) kv cv, .int .i64 fi] #[.int .i64 veh, .slice ao m co2] g go gv zs O V ao L → Calls Try.prog 9 #[.agg #[.int .i64 n, .slice (some ⟨g, 0, none⟩) zl cg, .slice (some ⟨go, 0, none⟩) ko co, .slice (some ⟨gv, 0, none⟩) kv cv, .int .i64 fi], .agg #[.int .i64 veh, .slice ao m co2], .int .i64 oid, .int .i64 ti] W fun e w' => ∃ ad cc, e = .returned (.tuple #[.agg #[.int .i64 vi, .slice ad xl cc], .int .i64 D, .bool ch]) ∧ Below W.heap.size W w' ∧ IntsAt w' ad xs ∧ xl ≤ cc) := fun W k kr h => by
    have := implInsertAt_any n fi veh (some ⟨g, 0, none⟩) (some ⟨go, 0, none⟩) (some ⟨gv, 0, none⟩) ao cg ko co kv cv co2 zs O V L W h.iz h.io h.iv h.il HO.out HV.out (by omega) (by omega) (by rw [HM.out]; omega) (by rw [HM.out]; exact hmc) (by rw [HM.out]; exact IBI.out) oid ti ch (by rw [HCB.out]; exact HCH.out) D HD.out xs HXS.out
    rw [HZ.out, HM.out] at this
    refine this.mono ?_
    rintro e w' ⟨hb, ad, cc, rfl, ho⟩
    have hoc := ho
    obtain ⟨a', c', e, _, hi⟩ := owns_at1 ho
    have e2 : ad = a' := by injection e
    rw [HXL.out, HVI.out]
    refine ⟨ad, cc, rfl, hb, by rw [e2]; exact hi, ?_⟩
    obtain ⟨_, ⟨h1, h2⟩ | ⟨g', cap, cur, h2, _, _, h3, _⟩⟩ := hoc
    · rw [← HXL.out, h2]; omega
    · injection h2 with _ _ e3
      rw [← HXL.out]
      omega
  have STO : Hid (∀ W k kr, KC w W k kr #[.int .i64 n, .slice (some ⟨g, 0, none⟩) zl cg, .slice (some ⟨go, 0, none⟩) ko co, .slice (some ⟨gv, 0, none⟩) kv cv, .int .i64 fi] #[.int .i64 veh, .slice ao m co2] g go gv zs O V ao L → Calls Try.prog 10 #[.agg #[.int .i64 n, .slice (some ⟨g, 0, none⟩) zl cg, .slice (some ⟨go, 0, none⟩) ko co, .slice (some ⟨gv, 0, none⟩) kv cv, .int .i64 fi], .agg #[.int .i64 veh, .slice ao m co2], .int .i64 oid, .int .i64 ti] W fun e w' => ∃ ad cc, e = .returned (.tuple #[.agg #[.int .i64 vi, .slice ad xl cc], .int .i64 D, .bool ch]) ∧ Below W.heap.size W w' ∧ IntsAt w' ad xs ∧ xl ≤ cc) := fun W k kr h => by
    have := specInsertAt_own n fi veh (some ⟨g, 0, none⟩) (some ⟨go, 0, none⟩) (some ⟨gv, 0, none⟩) ao cg ko co kv cv co2 zs O V L W h.iz h.io h.iv h.il HO.out HV.out (by omega) (by omega) (by rw [HM.out]; omega) (by rw [HM.out]; exact hmc) HBI.out oid ti ch (by rw [HCB.out]; exact HCH.out) D HD.out xs HXS.out
    rw [HZ.out, HM.out] at this
    refine this.mono ?_
    rintro e w' ⟨hb, ad, cc, rfl, ho⟩
    have hoc := ho
    obtain ⟨a', c', e, _, hi⟩ := owns_at1 ho
    have e2 : ad = a' := by injection e
    rw [HXL.out, HVI.out]
    refine ⟨ad, cc, rfl, hb, by rw [e2]; exact hi, ?_⟩
    obtain ⟨_, ⟨h1, h2⟩ | ⟨g', cap, cur, h2, _, _, h3, _⟩⟩ := hoc
    · rw [← HXL.out, h2]; omega
    · injection h2 with _ _ e3
      rw [← HXL.out]
      omega
  have SRT : Hid (∀ W k1 k2 a1 c1 a2 c2, RB W k1 vi a1 xl c1 xs → RB W k2 vi a2 xl c2 xs → Calls Try.prog 11 #[.agg #[.int .i64 vi, .slice a1 xl c1], .agg #[.int .i64 vi, .slice a2 xl c2]] W fun e w' => e = .returned (.bool true) ∧ Below W.heap.size W w') := fun W k1 k2 a1 c1 a2 c2 h1 h2 => by
    have := sameRoute_same vi a1 a2 c1 c2 xs W h1.i h2.i (by rw [HXL.out]; omega)
    rw [HXL.out] at this
    exact this
  have hcc : (ch != ch) = false := by simp
  have hce : (ch == ch) = true := by simp
  have hDD : (D != D) = false := by simp
  have hDe : (D == D) = true := by simp
  obtain ⟨d0, d1, d2, d3, d4⟩ := cells5z K1.out.b1
  obtain ⟨e0, e1⟩ := cells2 K1.out.b2
  go_wp2_with fail
  generalize (w1.alloc (.cells #[.int .i64 n, .slice (some ⟨g, 0, none⟩) zl cg, .slice (some ⟨go, 0, none⟩) ko co, .slice (some ⟨gv, 0, none⟩) kv cv, .int .i64 fi] 30)).alloc (.cells #[.int .i64 veh, .slice ao m co2] 32) = W1 at *
  obtain ⟨k, HK⟩ : ∃ v, Hid (w1.heap.size = v) := ⟨_, rfl⟩
  rw [HK.out] at K1 d0 d1 d2 d3 d4 e0 e1 ⊢
  obtain ⟨kr, HKR⟩ : ∃ v, Hid (k + 1 = v) := ⟨_, rfl⟩
  rw [HKR.out] at K1 e0 e1 ⊢
  refine (ITO.out _ _ _ K1.out).mono ?_
  rintro e w2 ⟨a1, c1, rfl, hb, hi1, hc1⟩
  have K2 : Hid (KC w (w2.alloc (.cells #[.int .i64 vi, .slice a1 xl c1] 32)) k kr #[.int .i64 n, .slice (some ⟨g, 0, none⟩) zl cg, .slice (some ⟨go, 0, none⟩) ko co, .slice (some ⟨gv, 0, none⟩) kv cv, .int .i64 fi] #[.int .i64 veh, .slice ao m co2] g go gv zs O V ao L ∧ RB (w2.alloc (.cells #[.int .i64 vi, .slice a1 xl c1] 32)) w2.heap.size vi a1 xl c1 xs) := by
    have ha : Below w2.heap.size w2 (w2.alloc (.cells #[.int .i64 vi, .slice a1 xl c1] 32)) := (Below.refl _ _).alloc (Nat.le_refl _) _
    exact ⟨(K1.out.below hb).below ha, ⟨heap_alloc_new _ _, hi1.below ha⟩⟩
  clear hb hi1 K1 d0 d1 d2 d3 d4 e0 e1
  obtain ⟨d0, d1, d2, d3, d4⟩ := cells5z K2.out.1.b1
  obtain ⟨e0, e1⟩ := cells2 K2.out.1.b2
  go_wp2_with fail
  generalize w2.alloc (.cells #[.int .i64 vi, .slice a1 xl c1] 32) = W2 at *
  obtain ⟨k1, HK1⟩ : ∃ v, Hid (w2.heap.size = v) := ⟨_, rfl⟩
  rw [HK1.out] at K2 ⊢
  refine (STO.out _ _ _ K2.out.1).mono ?_
  rintro e w3 ⟨a2, c2, rfl, hb, hi2, hc2⟩
  have K3 : Hid (KC w (w3.alloc (.cells #[.int .i64 vi, .slice a2 xl c2] 32)) k kr #[.int .i64 n, .slice (some ⟨g, 0, none⟩) zl cg, .slice (some ⟨go, 0, none⟩) ko co, .slice (some ⟨gv, 0, none⟩) kv cv, .int .i64 fi] #[.int .i64 veh, .slice ao m co2] g go gv zs O V ao L ∧ RB (w3.alloc (.cells #[.int .i64 vi, .slice a2 xl c2] 32)) k1 vi a1 xl c1 xs ∧ RB (w3.alloc (.cells #[.int .i64 vi, .slice a2 xl c2] 32)) w3.heap.size vi a2 xl c2 xs) := by
    have ha : Below w3.heap.size w3 (w3.alloc (.cells #[.int .i64 vi, .slice a2 xl c2] 32)) := (Below.refl _ _).alloc (Nat.le_refl _) _
    exact ⟨(K2.out.1.below hb).below ha, (K2.out.2.below hb).below ha, ⟨heap_alloc_new _ _, hi2.below ha⟩⟩
  clear hb hi2 K2 d0 d1 d2 d3 d4 e0 e1 STO
  obtain ⟨f0, f1⟩ := cells2 K3.out.2.1.x
  obtain ⟨h0, h1⟩ := cells2 K3.out.2.2.x
  go_wp2_with fail
  generalize w3.alloc (.cells #[.int .i64 vi, .slice a2 xl c2] 32) = W3 at *
  obtain ⟨k2, HK2⟩ : ∃ v, Hid (w3.heap.size = v) := ⟨_, rfl⟩
  rw [HK2.out] at K3 h0 h1 ⊢
  refine (SRT.out _ _ _ _ _ _ _ K3.out.2.1 K3.out.2.2).mono ?_
  rintro e w4 ⟨rfl, hb⟩
  have K4 : Hid (KC w w4 k kr #[.int .i64 n, .slice (some ⟨g, 0, none⟩) zl cg, .slice (some ⟨go, 0, none⟩) ko co, .slice (some ⟨gv, 0, none⟩) kv cv, .int .i64 fi] #[.int .i64 veh, .slice ao m co2] g go gv zs O V ao L ∧ RB w4 k1 vi a1 xl c1 xs ∧ RB w4 k2 vi a2 xl c2 xs) := ⟨K3.out.1.below hb, K3.out.2.1.below hb, K3.out.2.2.below hb⟩
  clear hb K3 f0 f1 h0 h1
  obtain ⟨f0, f1⟩ := cells2 K4.out.2.1.x
  obtain ⟨h0, h1⟩ := cells2 K4.out.2.2.x
  cases ch
  · go_wp2_with fail
    refine (SRT.out _ _ _ _ _ _ _ K4.out.2.1 K4.out.2.2).mono ?_
    rintro e w5 ⟨rfl, hb⟩
    have B5 : Hid (Below w.heap.size w w5) := K4.out.1.b.trans (hb.mono K4.out.1.b.size)
    clear hb
    go_wp2
    go_ret
    exact ⟨by first | rfl | simp, B5.out⟩
  · have hvi : vi = veh := by rw [← HVI.out]; rfl
    subst hvi
    obtain ⟨hc0, hin, hc1'⟩ := chB_true HCH.out
    have hcbt : cb = true := code_case hc0
    subst hcbt
    have hin' := inB_true hin
    obtain ⟨i0, rfl⟩ := Int.eq_ofNat_of_zero_le hin'.1
    have hiL : i0 ≤ L.length := by omega
    have hjm : i0 ≤ m := by rw [← HM.out]; exact hiL
    have HXR : Hid (xs = insL L i0 oid) := by show xs = _; rw [← HXS.out]; rfl
    have HXM : Hid (xl = m + 1) := by show _ = _; rw [← HXL.out, HXR.out, insL_length oid hiL, HM.out]
    have hixl : i0 < xl := by have := HXM.out; omega
    have HMB : Hid (matB n zs = true) := by
      have h := HCB.out
      unfold caseB at h
      simp only [Bool.and_eq_true] at h
      exact h.1.1.1
    have HBK : Hid (chB true n zs O V ko kv vi xs (inB (i0 : Int) 0 ((xs.length : Int) - 1)) (remL xs i0) = true ∧ chD true n zs O V ko kv vi xs (remL xs i0) = -D ∧ chL true (remL xs i0) = L) := by
      have hTB := put_back hiL HCH.out
      rw [← HXR.out] at hTB
      refine ⟨hTB.1, ?_, hTB.2.2⟩
      rw [hTB.2.1, ← HD.out, HXR.out]
      rfl
    have hDb : D = rcV n zs O V ko kv vi xs - rcV n zs O V ko kv vi L := by rw [← HD.out, HXR.out]; rfl
    have hb1 := rcV_bd HMB.out O V ko kv vi xs
    have hb2 := rcV_bd HMB.out O V ko kv vi L
    obtain ⟨rx, HRX⟩ : ∃ v, Hid (rcV n zs O V ko kv vi xs = v) := ⟨_, rfl⟩
    obtain ⟨rl, HRL⟩ : ∃ v, Hid (rcV n zs O V ko kv vi L = v) := ⟨_, rfl⟩
    rw [HRX.out] at hDb hb1
    rw [HRL.out] at hDb hb2
    have HDB : Hid (D = rx - rl ∧ (-9223372036854775808 ≤ D ∧ D ≤ 9223372036854775807) ∧ (-9223372036854775808 ≤ -D ∧ -D ≤ 9223372036854775807) ∧ (-9223372036854775808 ≤ rx ∧ rx ≤ 9223372036854775807)) := ⟨hDb, by omega, by omega, by omega⟩
    clear hDb hb1 hb2
    have HCX : Hid (costV true n zs O V ko kv vi xs = rx) := by
      have h9 := hc1'
      rw [show insL L (i0 : Int).toNat oid = xs from HXR.out.symm] at h9
      show _ = _
      rw [costV_yes h9, ← rcV_yes h9]; exact HRX.out
    have HCL : Hid (costV true n zs O V ko kv vi L = rl) := by show _ = _; rw [costV_yes hc0, ← rcV_yes hc0]; exact HRL.out
    have HYE : Hid (xs.getD i0 0 = oid) := by show _ = _; rw [HXR.out]; exact insL_own oid hiL
    have ITB : Hid (∀ W, KC w W k kr #[.int .i64 n, .slice (some ⟨g, 0, none⟩) zl cg, .slice (some ⟨go, 0, none⟩) ko co, .slice (some ⟨gv, 0, none⟩) kv cv, .int .i64 fi] #[.int .i64 vi, .slice ao m co2] g go gv zs O V ao L → RB W k1 vi a1 xl c1 xs → Calls Try.prog 12 #[.agg #[.int .i64 n, .slice (some ⟨g, 0, none⟩) zl cg, .slice (some ⟨go, 0, none⟩) ko co, .slice (some ⟨gv, 0, none⟩) kv cv, .int .i64 fi], .agg #[.int .i64 vi, .slice a1 xl c1], .int .i64 i0] W fun e w' => ∃ ad cc, e = .returned (.tuple #[.agg #[.int .i64 vi, .slice ad m cc], .int .i64 (-D), .bool true]) ∧ Below W.heap.size W w' ∧ IntsAt w' ad L) := fun W h hr => by
      have := implRemoved_any n fi vi (some ⟨g, 0, none⟩) (some ⟨go, 0, none⟩) (some ⟨gv, 0, none⟩) a1 cg ko co kv cv c1 zs O V xs W h.iz h.io h.iv hr.i HO.out HV.out (by omega) (by omega) (by rw [HXL.out]; omega) (by rw [HXL.out]; exact hc1) i0 true (by rw [HCB.out]; exact HBK.out.1) (-D) HBK.out.2.1 L HBK.out.2.2
      rw [HZ.out, HXL.out] at this
      refine this.mono ?_
      rintro e w' ⟨hb, ad, cc, rfl, ho⟩
      obtain ⟨a', c', e, _, hi⟩ := owns_at1 ho
      have e2 : ad = a' := by injection e
      rw [HM.out]
      exact ⟨ad, cc, rfl, hb, by rw [e2]; exact hi⟩
    have SR2 : Hid (∀ W a3 c3, IntsAt W a3 L → IntsAt W ao L → Calls Try.prog 11 #[.agg #[.int .i64 vi, .slice a3 m c3], .agg #[.int .i64 vi, .slice ao m co2]] W fun e w' => e = .returned (.bool true) ∧ Below W.heap.size W w') := fun W a3 c3 h1 h2 => by
      have := sameRoute_same vi a3 ao c3 co2 L W h1 h2 (by rw [HM.out]; omega)
      rw [HM.out] at this
      exact this
    have ICX : Hid (∀ W, KC w W k kr #[.int .i64 n, .slice (some ⟨g, 0, none⟩) zl cg, .slice (some ⟨go, 0, none⟩) ko co, .slice (some ⟨gv, 0, none⟩) kv cv, .int .i64 fi] #[.int .i64 vi, .slice ao m co2] g go gv zs O V ao L → RB W k1 vi a1 xl c1 xs → Calls Try.prog 13 #[.agg #[.int .i64 n, .slice (some ⟨g, 0, none⟩) zl cg, .slice (some ⟨go, 0, none⟩) ko co, .slice (some ⟨gv, 0, none⟩) kv cv, .int .i64 fi], .agg #[.int .i64 vi, .slice a1 xl c1]] W fun e w' => e = .returned (.int .i64 rx) ∧ Below W.heap.size W w') := fun W h hr => by
      have := implCost_any n fi vi (some ⟨g, 0, none⟩) (some ⟨go, 0, none⟩) (some ⟨gv, 0, none⟩) a1 cg ko co kv cv c1 zs O V xs W h.iz h.io h.iv hr.i HO.out HV.out (by omega) (by omega) (by rw [HXL.out]; omega) (by rw [HXL.out]; exact hc1)
      rw [HZ.out, HXL.out, HCB.out, HCX.out] at this
      exact this
    have ICL : Hid (∀ W, KC w W k kr #[.int .i64 n, .slice (some ⟨g, 0, none⟩) zl cg, .slice (some ⟨go, 0, none⟩) ko co, .slice (some ⟨gv, 0, none⟩) kv cv, .int .i64 fi] #[.int .i64 vi, .slice ao m co2] g go gv zs O V ao L → Calls Try.prog 13 #[.agg #[.int .i64 n, .slice (some ⟨g, 0, none⟩) zl cg, .slice (some ⟨go, 0, none⟩) ko co, .slice (some ⟨gv, 0, none⟩) kv cv, .int .i64 fi], .agg #[.int .i64 vi, .slice ao m co2]] W fun e w' => e = .returned (.int .i64 rl) ∧ Below W.heap.size W w') := fun W h => by
      have := implCost_any n fi vi (some ⟨g, 0, none⟩) (some ⟨go, 0, none⟩) (some ⟨gv, 0, none⟩) ao cg ko co kv cv co2 zs O V L W h.iz h.io h.iv h.il HO.out HV.out (by omega) (by omega) (by rw [HM.out]; omega) (by rw [HM.out]; exact hmc)
      rw [HZ.out, HM.out, HCB.out, HCL.out] at this
      exact this
    clear hc0 hc1' hin hin' h0 h1
    obtain ⟨d0, d1, d2, d3, d4⟩ := cells5z K4.out.1.b1
    go_wp2_with fail
    refine (ITB.out _ K4.out.1 K4.out.2.1).mono ?_
    rintro e w5 ⟨a3, c3, rfl, hb, hi3⟩
    have K5 : Hid (KC w (w5.alloc (.cells #[.int .i64 vi, .slice a3 m c3] 32)) k kr #[.int .i64 n, .slice (some ⟨g, 0, none⟩) zl cg, .slice (some ⟨go, 0, none⟩) ko co, .slice (some ⟨gv, 0, none⟩) kv cv, .int .i64 fi] #[.int .i64 vi, .slice ao m co2] g go gv zs O V ao L ∧ RB (w5.alloc (.cells #[.int .i64 vi, .slice a3 m c3] 32)) k1 vi a1 xl c1 xs ∧ RB (w5.alloc (.cells #[.int .i64 vi, .slice a3 m c3] 32)) w5.heap.size vi a3 m c3 L) := by
      have ha : Below w5.heap.size w5 (w5.alloc (.cells #[.int .i64 vi, .slice a3 m c3] 32)) := (Below.refl _ _).alloc (Nat.le_refl _) _
      exact ⟨(K4.out.1.below hb).below ha, (K4.out.2.1.below hb).below ha, ⟨heap_alloc_new _ _, hi3.below ha⟩⟩
    clear hb hi3 K4 d0 d1 d2 d3 d4 f0 f1 ITB ITO SRT
    go_wp2_with fail
    generalize w5.alloc (.cells #[.int .i64 vi, .slice a3 m c3] 32) = W5 at *
    obtain ⟨k3, HK3⟩ : ∃ v, Hid (w5.heap.size = v) := ⟨_, rfl⟩
    rw [HK3.out] at K5 ⊢
    obtain ⟨sb1, so1, ea1, hcs1⟩ := K5.out.2.1.i.some (j := i0) (by rw [HXL.out]; omega)
    have y1 := hcs1 i0 (by rw [HXL.out]; omega)
    rw [HYE.out] at y1
    clear hcs1
    subst ea1
    obtain ⟨d0, d1, d2, d3, d4⟩ := cells5z K5.out.1.b1
    obtain ⟨e0, e1⟩ := cells2 K5.out.1.b2
    obtain ⟨f0, f1⟩ := cells2 K5.out.2.1.x
    obtain ⟨h0, h1⟩ := cells2 K5.out.2.2.x
    have z1 := fun s : Kin W5 => s.cell d0
    have z2 := fun s : Kin W5 => s.cell d1
    have z3 := fun s : Kin W5 => s.cell d2
    have z4 := fun s : Kin W5 => s.cell d3
    have z5 := fun s : Kin W5 => s.cell d4
    have z6 := fun s : Kin W5 => s.cell e0
    have z7 := fun s : Kin W5 => s.cell e1
    have z8 := fun s : Kin W5 => s.cell f0
    have z9 := fun s : Kin W5 => s.cell f1
    have z10 := fun s : Kin W5 => s.cell h0
    have z11 := fun s : Kin W5 => s.cell h1
    have z12 := fun s : Kin W5 => s.cell y1
    have hkin := Kin.there W5
    have hrd : rl + D = rx := by have := HDB.out.1; omega
    have hn1 : wrap64 (-D) = -D := IntWalk.wrap64_in _ (by have := HDB.out.2.2.1; omega)
    have hn2 : IntKind.i64.wrap (-D) = -D := by rw [IntKind.wrap_i64]; have := HDB.out.2.2.1; omega
    have hnn : (-D == -D) = true := by simp
    have hs1 : wrap64 (rl + D) = rx := by rw [hrd]; exact IntWalk.wrap64_in _ (by have := HDB.out.2.2.2; omega)
    have hs2 : IntKind.i64.wrap (rl + D) = rx := by rw [IntKind.wrap_i64, hrd]; have := HDB.out.2.2.2; omega
    have hrr : (rx == rx) = true := by simp
    have hyy : (oid == oid) = true := by simp
    have hiI : (i0 : Int) < (xl : Int) := by omega
    have hiN : i0 < xl := by omega
    clear hrd hjm hiL
    refine wp_region_kin (by kernel_rfl) (by kernel_rfl) ?_
    repeat (go_big_quiet_step ((first
      | (go_at_call 11; with_reducible exact Kin.call (SR2.out _ _ _ (K5.out.2.2.i.below (Kin.below _)) (K5.out.1.il.below (Kin.below _))))
      | (go_at_call 13; with_reducible exact Kin.call (ICX.out _ (K5.out.1.below (Kin.below _)) (K5.out.2.1.below (Kin.below _))))
      | (go_at_call 13; with_reducible exact Kin.call (ICL.out _ (K5.out.1.below (Kin.below _)))))))
    refine wpQuiet_nil ?_
    rintro _ ⟨s, rfl⟩
    clear z1 z2 z3 z4 z5 z6 z7 z8 z9 z10 z11 z12 hkin d0 d1 d2 d3 d4 e0 e1 f0 f1 h0 h1 y1
    go_wp2
    go_ret
    exact ⟨by first | rfl | simp, K5.out.1.b.trans (s.below.mono K5.out.1.b.size)⟩

theorem lawFnInserted_all (a : Option Addr) (c : Nat) (bs : List Int) (w : World) (hA : CodeAt w a bs) (hl : bs.length ≤ 9223372036854775807) :
    Calls Try.prog 3 #[.slice a bs.length c] w fun e w' => e = .returned (.bool true) ∧ Below w.heap.size w w' := by
  by_cases h : bs.length ≤ 1048576
  · exact lawFnInserted a c bs w hA h
  · exact lawFnInserted_big a c _ w hl (by omega)

end Go.Proofs.Ytplefpmchhcfcaa
