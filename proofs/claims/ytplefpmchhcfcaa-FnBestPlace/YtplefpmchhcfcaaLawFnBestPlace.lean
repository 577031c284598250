import Derived.Test.YtplefpmchhcfcaaPack2
import Derived.Test.YtplefpmchhcfcaaPack14
import Derived.Test.YtplefpmchhcfcaaPack15
import Derived.Test.YtplefpmchhcfcaaPack21
import Derived.Test.YtplefpmchhcfcaaPack24
import Derived.Test.YtplefpmchhcfcaaPack25
namespace Go.Proofs.Ytplefpmchhcfcaa
open Go.RowKit

set_option maxHeartbeats 400000 in
theorem lawFnBestPlace_big (a : Option Addr) (c len : Nat) (w : World) (hl : len ≤ 9223372036854775807) (h : 1048576 < len) :
    Calls Try.prog 5 #[.slice a len c] w fun e w' => e = .returned (.bool true) ∧ Below w.heap.size w w' := by
  have hd : decide (1048576 < len) = true := decide_eq_true h
  go_enter Try.func5, Try.ntmps5
  go_wp2_with (go_at_call 7; refine (big_any a c len w hl).mono ?_; rintro e w1 ⟨rfl, hw1⟩; subst w1; rw [hd])
  go_ret
  exact ⟨rfl, Below.refl _ _⟩

set_option maxRecDepth 10000 in
set_option maxHeartbeats 8000000 in
theorem lawFnBestPlace (a : Option Addr) (ca : Nat) (bs : List Int) (w : World) (hA : CodeAt w a bs) (hl : bs.length ≤ 1048576) :
    Calls Try.prog 5 #[.slice a bs.length ca] w fun e w' => e = .returned (.bool true) ∧ Below w.heap.size w w' := by
  have HA : Hid (CodeAt w a bs) := hA
  clear hA
  have hd : decide (1048576 < bs.length) = false := decide_eq_false (by omega)
  go_enter Try.func5, Try.ntmps5
  go_wp2_with fail
  refine (big_any a ca bs.length w (by omega)).mono ?_
  rintro e w1 ⟨rfl, hw1⟩
  subst w1
  rw [hd]
  clear hd
  go_wp2_with fail
  refine (drawBest_any a ca bs w HA.out hl).mono ?_
  rintro e w1 ⟨n, g, zl, cg, go, ko, co, gv, kv, cv, zs, O, V, L, fi, veh, ao, m, co2, oid, rfl, ⟨hz, hO, hV, hko1, hko5, hkv1, hkv3⟩, ⟨hm, hm4, hmc⟩, hbi, hb, iz, io, iv, il⟩
  obtain ⟨N, HLb⟩ : ∃ v, Hid (bs.length = v) := ⟨_, rfl⟩
  rw [HLb.out] at hl ⊢
  have HM : Hid (L.length = m) := hm
  have HBI : Hid (((ao = none ∧ L = [] ∧ co2 = 0) ∨ ∃ g, ao = some ⟨g, 0, none⟩)) := hbi
  have IBI : Hid ((ao = none ∧ m = 0) ∨ ∃ b off, ao = some ⟨b, off, none⟩) := by
    rcases hbi with ⟨h1, h2, _⟩ | ⟨g, h⟩
    · exact .inl ⟨h1, by rw [← hm, h2]; rfl⟩
    · exact .inr ⟨_, _, h⟩
  clear hbi
  have HZ : Hid (zs.length = zl) := hz
  have HO : Hid (O.length = ko * 6) := hO
  have HV : Hid (V.length = kv * 5) := hV
  have K1 : Hid (KC w ((w1.alloc (.cells #[.int .i64 n, .slice (some ⟨g, 0, none⟩) zl cg, .slice (some ⟨go, 0, none⟩) ko co, .slice (some ⟨gv, 0, none⟩) kv cv, .int .i64 fi] 30)).alloc (.cells #[.int .i64 veh, .slice ao m co2] 32)) w1.heap.size (w1.heap.size + 1) #[.int .i64 n, .slice (some ⟨g, 0, none⟩) zl cg, .slice (some ⟨go, 0, none⟩) ko co, .slice (some ⟨gv, 0, none⟩) kv cv, .int .i64 fi] #[.int .i64 veh, .slice ao m co2] g go gv zs O V ao L) := by
    have ha : Below w1.heap.size w1 ((w1.alloc (.cells #[.int .i64 n, .slice (some ⟨g, 0, none⟩) zl cg, .slice (some ⟨go, 0, none⟩) ko co, .slice (some ⟨gv, 0, none⟩) kv cv, .int .i64 fi] 30)).alloc (.cells #[.int .i64 veh, .slice ao m co2] 32)) := ((Below.refl _ _).alloc (Nat.le_refl _) _).alloc (by simp) _
    exact ⟨hb.trans (ha.mono hb.size), heap_alloc2_old _ _ _, heap_alloc2_new _ _ _, iz.below ha, io.below ha, iv.below ha, il.below ha⟩
  clear hz hO hV hm hb iz io iv il
  obtain ⟨cb, HCB⟩ : ∃ v, Hid (caseB n zs O V ko kv fi = v) := ⟨_, rfl⟩
  obtain ⟨s0, HS0⟩ : ∃ v, Hid (bpV cb n zs O V ko kv veh L oid = v) := ⟨_, rfl⟩
  obtain ⟨ok, HOK⟩ : ∃ t, Hid ((plB cb n zs O V ko kv veh L oid) = t) := ⟨_, rfl⟩
  obtain ⟨dl, HDL⟩ : ∃ t, Hid ((plD cb n zs O V ko kv veh L oid) = t) := ⟨_, rfl⟩
  have HF : Hid (pst ok dl (m + 1) = s0) := by
    show pst ok dl (m + 1) = s0
    rw [← HS0.out, ← HOK.out, ← HDL.out, ← HM.out]
    rfl
  have IBP : Hid (∀ W k kr, KC w W k kr #[.int .i64 n, .slice (some ⟨g, 0, none⟩) zl cg, .slice (some ⟨go, 0, none⟩) ko co, .slice (some ⟨gv, 0, none⟩) kv cv, .int .i64 fi] #[.int .i64 veh, .slice ao m co2] g go gv zs O V ao L → Calls Try.prog 18 #[.agg #[.int .i64 n, .slice (some ⟨g, 0, none⟩) zl cg, .slice (some ⟨go, 0, none⟩) ko co, .slice (some ⟨gv, 0, none⟩) kv cv, .int .i64 fi], .agg #[.int .i64 veh, .slice ao m co2], .int .i64 oid] W fun e w' => e = .returned (.tuple #[.int .i64 (s0.i : Int), .int .i64 s0.v, .bool s0.f]) ∧ Below W.heap.size W w') := fun W k kr h => by
    have := implBestPlace_any n fi veh (some ⟨g, 0, none⟩) (some ⟨go, 0, none⟩) (some ⟨gv, 0, none⟩) ao cg ko co kv cv co2 zs O V L W h.iz h.io h.iv h.il HO.out HV.out (by omega) (by omega) (by rw [HM.out]; omega) (by rw [HM.out]; exact hmc) (by rw [HM.out]; exact IBI.out) oid s0 (by rw [HCB.out]; exact HS0.out)
    rw [HZ.out, HM.out] at this
    exact this
  have SBP : Hid (∀ W k kr, KC w W k kr #[.int .i64 n, .slice (some ⟨g, 0, none⟩) zl cg, .slice (some ⟨go, 0, none⟩) ko co, .slice (some ⟨gv, 0, none⟩) kv cv, .int .i64 fi] #[.int .i64 veh, .slice ao m co2] g go gv zs O V ao L → Calls Try.prog 19 #[.agg #[.int .i64 n, .slice (some ⟨g, 0, none⟩) zl cg, .slice (some ⟨go, 0, none⟩) ko co, .slice (some ⟨gv, 0, none⟩) kv cv, .int .i64 fi], .agg #[.int .i64 veh, .slice ao m co2], .int .i64 oid] W fun e w' => e = .returned (.tuple #[.int .i64 (s0.i : Int), .int .i64 s0.v, .bool s0.f]) ∧ Below W.heap.size W w') := fun W k kr h => by
    have := specBestPlace_own n fi veh (some ⟨g, 0, none⟩) (some ⟨go, 0, none⟩) (some ⟨gv, 0, none⟩) ao cg ko co kv cv co2 zs O V L W h.iz h.io h.iv h.il HO.out HV.out (by omega) (by omega) (by rw [HM.out]; omega) (by rw [HM.out]; exact hmc) HBI.out oid s0 (by rw [HCB.out]; exact HS0.out)
    rw [HZ.out, HM.out] at this
    exact this
  have IIA : Hid (∀ W k kr (i : Nat) (ch : Bool) (D : Int), KC w W k kr #[.int .i64 n, .slice (some ⟨g, 0, none⟩) zl cg, .slice (some ⟨go, 0, none⟩) ko co, .slice (some ⟨gv, 0, none⟩) kv cv, .int .i64 fi] #[.int .i64 veh, .slice ao m co2] g go gv zs O V ao L → ok i = ch → dl i = D → Calls Try.prog 9 #[.agg #[.int .i64 n, .slice (some ⟨g, 0, none⟩) zl cg, .slice (some ⟨go, 0, none⟩) ko co, .slice (some ⟨gv, 0, none⟩) kv cv, .int .i64 fi], .agg #[.int .i64 veh, .slice ao m co2], .int .i64 oid, .int .i64 (i : Int)] W fun e w' => ∃ vi ad xl cc, e = .returned (.tuple #[.agg #[.int .i64 vi, .slice ad xl cc], .int .i64 D, .bool ch]) ∧ Below W.heap.size W w') := fun W k kr i ch D h hch hD => by
    have := implInsertAt_any n fi veh (some ⟨g, 0, none⟩) (some ⟨go, 0, none⟩) (some ⟨gv, 0, none⟩) ao cg ko co kv cv co2 zs O V L W h.iz h.io h.iv h.il HO.out HV.out (by omega) (by omega) (by rw [HM.out]; omega) (by rw [HM.out]; exact hmc) (by rw [HM.out]; exact IBI.out) oid (i : Int) ch (by rw [HCB.out, ← hch, ← HOK.out]; rfl) D (by rw [← hD, ← HDL.out, ← hch, ← HOK.out]; rfl) _ rfl
    rw [HZ.out, HM.out] at this
    refine this.mono ?_
    rintro e w' ⟨hb, ad, cc, rfl, _⟩
    exact ⟨_, _, _, _, rfl, hb⟩
  obtain ⟨sf, si, sv⟩ := s0
  simp only at IBP SBP
  clear HOK HDL HS0 HCB
  have hff : (sf != sf) = false := by simp
  have hfe : (sf == sf) = true := by simp
  have hvv : (sv != sv) = false := by simp
  have hve : (sv == sv) = true := by simp
  have hii : ((si : Int) != (si : Int)) = false := by simp
  obtain ⟨d0, d1, d2, d3, d4⟩ := cells5z K1.out.b1
  obtain ⟨e0, e1⟩ := cells2 K1.out.b2
  go_wp2_with fail
  generalize (w1.alloc (.cells #[.int .i64 n, .slice (some ⟨g, 0, none⟩) zl cg, .slice (some ⟨go, 0, none⟩) ko co, .slice (some ⟨gv, 0, none⟩) kv cv, .int .i64 fi] 30)).alloc (.cells #[.int .i64 veh, .slice ao m co2] 32) = W1 at *
  obtain ⟨k, HK⟩ : ∃ v, Hid (w1.heap.size = v) := ⟨_, rfl⟩
  rw [HK.out] at K1 d0 d1 d2 d3 d4 e0 e1 ⊢
  obtain ⟨kr, HKR⟩ : ∃ v, Hid (k + 1 = v) := ⟨_, rfl⟩
  rw [HKR.out] at K1 e0 e1 ⊢
  refine (IBP.out _ _ _ K1.out).mono ?_
  rintro e w2 ⟨rfl, hb⟩
  have K2 : Hid (KC w w2 k kr #[.int .i64 n, .slice (some ⟨g, 0, none⟩) zl cg, .slice (some ⟨go, 0, none⟩) ko co, .slice (some ⟨gv, 0, none⟩) kv cv, .int .i64 fi] #[.int .i64 veh, .slice ao m co2] g go gv zs O V ao L) := K1.out.below hb
  clear hb K1 d0 d1 d2 d3 d4 e0 e1 IBP
  obtain ⟨d0, d1, d2, d3, d4⟩ := cells5z K2.out.b1
  obtain ⟨e0, e1⟩ := cells2 K2.out.b2
  go_wp2_with fail
  refine (SBP.out _ _ _ K2.out).mono ?_
  rintro e w3 ⟨rfl, hb⟩
  have K3 : Hid (KC w w3 k kr #[.int .i64 n, .slice (some ⟨g, 0, none⟩) zl cg, .slice (some ⟨go, 0, none⟩) ko co, .slice (some ⟨gv, 0, none⟩) kv cv, .int .i64 fi] #[.int .i64 veh, .slice ao m co2] g go gv zs O V ao L) := K2.out.below hb
  clear hb K2 d0 d1 d2 d3 d4 e0 e1 SBP
  go_wp2_with fail
  go_loopw [12, 13] (fun ts ti wr => ∃ i : Nat, i ≤ m + 1 ∧ ti = .int .i64 i ∧ ts = .bool (anyB ok i) ∧ KC w wr k kr #[.int .i64 n, .slice (some ⟨g, 0, none⟩) zl cg, .slice (some ⟨go, 0, none⟩) ko co, .slice (some ⟨gv, 0, none⟩) kv cv, .int .i64 fi] #[.int .i64 veh, .slice ao m co2] g go gv zs O V ao L) (fun _ ti _ => m + 1 - (intOf ti).toNat)
  case atStart => exact ⟨0, Nat.zero_le _, rfl, rfl, K3.out⟩
  case round =>
    clear K3
    obtain ⟨i, hi, rfl, rfl, hK⟩ := hrel
    have K4 : Hid (KC w wr k kr #[.int .i64 n, .slice (some ⟨g, 0, none⟩) zl cg, .slice (some ⟨go, 0, none⟩) ko co, .slice (some ⟨gv, 0, none⟩) kv cv, .int .i64 fi] #[.int .i64 veh, .slice ao m co2] g go gv zs O V ao L) := hK
    clear hK
    obtain ⟨d0, d1, d2, d3, d4⟩ := cells5z K4.out.b1
    obtain ⟨e0, e1⟩ := cells2 K4.out.b2
    by_cases hlt : i ≤ m
    · have h1 : (i : Int) ≤ (m : Int) := by omega
      obtain ⟨sb, HSB⟩ : ∃ v, Hid (anyB ok i = v) := ⟨_, rfl⟩
      obtain ⟨ch, HCH⟩ : ∃ v, Hid (ok i = v) := ⟨_, rfl⟩
      obtain ⟨D, HD⟩ : ∃ v, Hid (dl i = v) := ⟨_, rfl⟩
      have HSN : Hid (anyB ok (i + 1) = (sb || ch)) := by show (anyB ok i || ok i) = _; rw [HSB.out, HCH.out]
      have HLE : Hid (ch = true → sf = true ∧ (sv < D ∨ (sv = D ∧ si ≤ i))) := fun h => by
        have := pst_least (ok := ok) (dl := dl) (m + 1) i (by omega) (by rw [HCH.out]; exact h)
        rw [HF.out, HD.out] at this
        exact this
      rw [HSB.out]
      go_wp2_with fail
      refine (IIA.out _ _ _ i ch D K4.out HCH.out HD.out).mono ?_
      rintro e w5 ⟨vi, ad, xl, cc, rfl, hb⟩
      have K5 : Hid (KC w (w5.alloc (.cells #[.int .i64 vi, .slice ad xl cc] 32)) k kr #[.int .i64 n, .slice (some ⟨g, 0, none⟩) zl cg, .slice (some ⟨go, 0, none⟩) ko co, .slice (some ⟨gv, 0, none⟩) kv cv, .int .i64 fi] #[.int .i64 veh, .slice ao m co2] g go gv zs O V ao L) := (K4.out.below hb).below ((Below.refl _ _).alloc (Nat.le_refl _) _)
      clear hb K4 d0 d1 d2 d3 d4 e0 e1
      cases ch
      · have HSN2 : Hid (anyB ok (i + 1) = sb) := by show _ = _; rw [HSN.out]; simp
        clear HLE
        cases sb
        all_goals
          go_wp2
          first
            | exact ⟨⟨i + 1, by omega, by first | rfl | go_num, by rw [HSN2.out], K5.out⟩, by simp [intOf]; omega⟩
            | (go_roundw
               case rel => exact ⟨i + 1, by omega, by first | rfl | go_num, by rw [HSN2.out], K5.out⟩
               case measure => simp [intOf]; omega)
      · have HSN2 : Hid (anyB ok (i + 1) = true) := by show _ = _; rw [HSN.out]; simp
        obtain ⟨-, hle⟩ := HLE.out rfl
        have hd1 : ¬ (D < sv) := by omega
        by_cases hde : D = sv
        · have hd2 : ¬ ((i : Int) < (si : Int)) := by omega
          subst hde
          clear hle HLE
          have hDD : (D == D) = true := by simp
          cases sb
          all_goals
            go_wp2
            first
              | exact ⟨⟨i + 1, by omega, by first | rfl | go_num, by rw [HSN2.out], K5.out⟩, by simp [intOf]; omega⟩
              | (go_roundw
                 case rel => exact ⟨i + 1, by omega, by first | rfl | go_num, by rw [HSN2.out], K5.out⟩
                 case measure => simp [intOf]; omega)
        · have hDD : (D == sv) = false := by simpa using hde
          clear hle HLE
          cases sb
          all_goals
            go_wp2
            first
              | exact ⟨⟨i + 1, by omega, by first | rfl | go_num, by rw [HSN2.out], K5.out⟩, by simp [intOf]; omega⟩
              | (go_roundw
                 case rel => exact ⟨i + 1, by omega, by first | rfl | go_num, by rw [HSN2.out], K5.out⟩
                 case measure => simp [intOf]; omega)
    · have h1 : ¬ ((i : Int) ≤ (m : Int)) := by omega
      have him : i = m + 1 := by omega
      have HSF : Hid (anyB ok i = sf) := by
        show _ = _
        rw [him, anyB_pst (dl := dl) (m + 1), HF.out]
      rw [HSF.out]
      clear him
      have HMD : Hid (sf = true → ok si = true ∧ dl si = sv) := fun h => by
        have := pst_made (ok := ok) (dl := dl) (m + 1) (by rw [HF.out]; exact h)
        rw [HF.out] at this
        exact ⟨this.1, this.2.1⟩
      obtain ⟨ch, HCH⟩ : ∃ v, Hid (ok si = v) := ⟨_, rfl⟩
      obtain ⟨D, HD⟩ : ∃ v, Hid (dl si = v) := ⟨_, rfl⟩
      rw [HCH.out, HD.out] at HMD
      go_wp2_with fail
      refine (IIA.out _ _ _ si ch D K4.out HCH.out HD.out).mono ?_
      rintro e w5 ⟨vi, ad, xl, cc, rfl, hb⟩
      have K5 : Hid (KC w (w5.alloc (.cells #[.int .i64 vi, .slice ad xl cc] 32)) k kr #[.int .i64 n, .slice (some ⟨g, 0, none⟩) zl cg, .slice (some ⟨go, 0, none⟩) ko co, .slice (some ⟨gv, 0, none⟩) kv cv, .int .i64 fi] #[.int .i64 veh, .slice ao m co2] g go gv zs O V ao L) := (K4.out.below hb).below ((Below.refl _ _).alloc (Nat.le_refl _) _)
      clear hb K4 d0 d1 d2 d3 d4 e0 e1
      cases sf
      · clear HMD
        go_wp2
        go_ret
        exact ⟨by first | rfl | simp, K5.out.b⟩
      · obtain ⟨hc, hd⟩ := HMD.out rfl
        subst hc hd
        clear HMD
        have hDD : (D == D) = true := by simp
        go_wp2
        go_ret
        exact ⟨by first | rfl | simp, K5.out.b⟩

theorem lawFnBestPlace_all (a : Option Addr) (c : Nat) (bs : List Int) (w : World) (hA : CodeAt w a bs) (hl : bs.length ≤ 9223372036854775807) :
    Calls Try.prog 5 #[.slice a bs.length c] w fun e w' => e = .returned (.bool true) ∧ Below w.heap.size w w' := by
  by_cases h : bs.length ≤ 1048576
  · exact lawFnBestPlace a c bs w hA h
  · exact lawFnBestPlace_big a c _ w hl (by omega)

end Go.Proofs.Ytplefpmchhcfcaa
