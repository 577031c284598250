import Derived.Test.YtpahhhocgpohbaaPack16
import Derived.Test.YtpahhhocgpohbaaPack17
import Derived.Test.YtpahhhocgpohbaaPack25
import Derived.Lib.MinMax
namespace Go.Proofs.Ytpahhhocgpohbaa
open Go.RowKit

theorem crL_no {L S : List FI} {O : List OP} {K : List Int} {t : Int} (h : crB L S O K t = false) : crL L S O K t = [] := by unfold crL; rw [h]; rfl
theorem crL_yes {L S : List FI} {O : List OP} {K : List Int} {t : Int} (h : crB L S O K t = true) : crL L S O K t = crF S O K K.length t.toNat K.length := by unfold crL; rw [h]; rfl
theorem do_no {F : List FI} {o : OP} (h : okF F o = false) : doF F o = F := by
  unfold okF at h
  rw [Bool.or_eq_false_iff] at h
  unfold doF
  rw [if_neg (of_decide_eq_false h.1), h.2]
  rfl
theorem da_two {W : World} {b b2 n : Nat} {lv sv : Value} {F : List FI} (hl : W.ownsRow b 55 2 lv n (rowF F)) (hs : W.ownsRow b2 55 2 sv n (rowF F)) (hn : F.length = n) (hb : b ≤ b2) (hlt : ∀ k, lv.ownBlock = some k → k < b2) : DA W b lv sv (.slice none 0 0) F F [] := by
  subst hn
  exact ⟨⟨hl, own_bse hs hb, ⟨rfl, .inl ⟨rfl, rfl⟩⟩⟩, fun k h1 h2 => by have := (hs.lt k h2).1; have := hlt k h1; omega⟩

set_option maxHeartbeats 8000000 in
set_option maxRecDepth 20000 in
theorem crashed_any (la sa oa ka : Option Addr) (lc sc oc ln sn on kn kc xn : Nat) (tz : Int) (b : Bool) (L S : List FI) (O : List OP) (K : List Int) (w : World) (hD : DAt w la sa oa L S O) (hKA : IntsAt w ka K) (hO : OOk O) (hd : dskB L S O = true) (hSn : S.length = sn) (hOn : O.length = on) (hKn : K.length = kn) (bk : kn ≤ 1048576) (hb : crB L S O K tz = b) (hx : (crL L S O K tz).length = xn) :
    Calls Try.prog 28 #[.agg #[.slice la ln lc, .slice sa sn sc, .slice oa on oc], .slice ka kn kc, .int .i64 tz] w fun e w' => ∃ a1 c1 a2 c2, e = .returned (.tuple #[.agg #[.slice a1 xn c1, .slice a2 xn c2, .slice none 0 0], .bool b]) ∧ Below w.heap.size w w' ∧ DA w' w.heap.size (.slice a1 xn c1) (.slice a2 xn c2) (.slice none 0 0) (crL L S O K tz) (crL L S O K tz) [] := by
  have hcb : crB L S O K tz = (decide (0 ≤ tz) && (risTo K on kn && filB (crF S O K kn tz.toNat kn))) := by unfold crB; rw [hd, hOn, hKn, Bool.true_and]
  obtain ⟨hfl, hfs, h200⟩ := dsk_parts hd
  have bs : sn ≤ 60 := by rw [← hSn]; exact (filB_true.1 hfs).1
  have bo : on ≤ 200 := by rw [← hOn]; exact h200
  have B0 : Hid (Below w.heap.size w ((w.alloc (.cells #[.slice la ln lc, .slice sa sn sc, .slice oa on oc] 27)).alloc (.cells #[.slice none 0 0, .slice none 0 0, .slice none 0 0] 27))) := ((Below.refl _ _).alloc (Nat.le_refl _) _).alloc (by simp) _
  have RA0 : Hid (((w.alloc (.cells #[.slice la ln lc, .slice sa sn sc, .slice oa on oc] 27)).alloc (.cells #[.slice none 0 0, .slice none 0 0, .slice none 0 0] 27)).heap[w.heap.size]? = some (.cells #[.slice la ln lc, .slice sa sn sc, .slice oa on oc] 27 (0, 0))) := heap_alloc2_old _ _ _
  have RB0 : Hid (((w.alloc (.cells #[.slice la ln lc, .slice sa sn sc, .slice oa on oc] 27)).alloc (.cells #[.slice none 0 0, .slice none 0 0, .slice none 0 0] 27)).heap[w.heap.size + 1]? = some (.cells #[.slice none 0 0, .slice none 0 0, .slice none 0 0] 27 (0, 0))) := heap_alloc2_new _ _ _
  have HD0 : Hid (DAt w la sa oa L S O) := hD
  have HKA : Hid (IntsAt w ka K) := hKA
  have HSN : Hid (S.length = sn) := hSn
  have HON : Hid (O.length = on) := hOn
  have HKN : Hid (K.length = kn) := hKn
  have HOO : Hid (OOk O) := hO
  have RS : Hid (∀ W, Below w.heap.size w W → ∀ r, risTo K on kn = r → Calls Try.prog 54 #[.slice ka kn kc, .int .i64 on] W fun e w' => e = .returned (.bool r) ∧ w' = W) := fun W hW r hr => by
    rw [← hr]
    exact risesBelow_any ka kn kc K on W (HKA.out.below hW) HKN.out bk
  have SO : Hid (∀ W : World, Below w.heap.size w W → Calls Try.prog 45 #[.slice sa sn sc] W fun e w' => ∃ fv T, e = .returned (.pointer (some ⟨W.heap.size, 0, none⟩)) ∧ Below W.heap.size W w' ∧ SH w' W.heap.size W.heap.size fv T ∧ keysG T = S ∧ ∀ g ∈ T, g.ps.length ≤ 1) := fun W hW => by
    have := shelfOf_any sa sc S W (HD0.out.s.below hW) (by rw [HSN.out]; omega)
    rw [HSN.out] at this
    exact this
  clear hD hKA hSn hKn hfl h200
  obtain ⟨a0, a1, a2⟩ := cells3 RA0.out
  cases hr : risTo K on kn
  · have hb0 : b = false := by rw [← hb, hcb, hr]; simp
    have hl0 : crL L S O K tz = [] := crL_no (by rw [hb]; exact hb0)
    rw [hl0] at hx ⊢
    have hx0 : xn = 0 := hx.symm
    subst hx0
    subst hb0
    clear hcb hx hl0 hO hOn
    go_enter Try.func28, Try.ntmps28
    go_wp2_with fail
    refine (RS.out _ B0.out _ hr).mono ?_
    rintro e w1 ⟨rfl, rfl⟩
    obtain ⟨r0, r1, r2⟩ := cells3 RB0.out
    have rf := fun i => frozen_of_row _ _ i _ _ RB0.out
    go_wp2
    refine bodyPost_ret (v := .tuple #[.agg #[.slice none 0 0, .slice none 0 0, .slice none 0 0], .bool false]) (by simp [results, Try.results28, go_sem, r0, r1, r2]) rfl ⟨none, 0, none, 0, rfl, ?_⟩
    exact ⟨by repeat (first | with_reducible exact B0.out | refine Below.setCell ?_ (by simp <;> omega) _), da_nil⟩
  by_cases hneg : tz < 0
  · have hb0 : b = false := by rw [← hb, hcb, decide_eq_false (by omega)]; rfl
    have hl0 : crL L S O K tz = [] := crL_no (by rw [hb]; exact hb0)
    rw [hl0] at hx ⊢
    have hx0 : xn = 0 := hx.symm
    subst hx0
    subst hb0
    clear hcb hx hl0 hO hOn
    go_enter Try.func28, Try.ntmps28
    go_wp2_with fail
    refine (RS.out _ B0.out _ hr).mono ?_
    rintro e w1 ⟨rfl, rfl⟩
    obtain ⟨r0, r1, r2⟩ := cells3 RB0.out
    have rf := fun i => frozen_of_row _ _ i _ _ RB0.out
    go_wp2
    refine bodyPost_ret (v := .tuple #[.agg #[.slice none 0 0, .slice none 0 0, .slice none 0 0], .bool false]) (by simp [results, Try.results28, go_sem, r0, r1, r2]) rfl ⟨none, 0, none, 0, rfl, ?_⟩
    exact ⟨by repeat (first | with_reducible exact B0.out | refine Below.setCell ?_ (by simp <;> omega) _), da_nil⟩
  obtain ⟨t, rfl⟩ : ∃ t : Nat, tz = t := ⟨tz.toNat, by omega⟩
  have hkl : kn ≤ on := ris_len hr
  rw [show decide (0 ≤ (t : Int)) = true from decide_eq_true (by omega), hr, Bool.true_and, Bool.true_and, Int.toNat_natCast] at hcb
  have HCK : Hid (∀ i, i ≤ kn → CrK (crF S O K kn t i) i) := crF_ok hd hfs hO (by rw [hOn]; exact hr)
  have HOK : Hid (∀ i, i < kn → OpK (crO O K kn t i) ∧ OpK (O.getD (K.getD i 0).toNat op0)) := fun i hi => crO_ok hd hO (by rw [hOn]; exact hr) hi
  have HRI : Hid (∀ i, i < kn → (i : Int) ≤ K.getD i 0 ∧ K.getD i 0 < on) := ris_at kn hr
  have HBB : Hid (filB (crF S O K kn t kn) = b) := by show _ = _; rw [← hcb]; exact hb
  have HXL : Hid (b = true → crL L S O K t = crF S O K kn t kn) := fun h => by rw [crL_yes (by rw [hb]; exact h), HKN.out, Int.toNat_natCast]
  have HXN : Hid (b = false → crL L S O K t = []) := fun h => crL_no (by rw [hb]; exact h)
  obtain ⟨X, HX⟩ : ∃ X, Hid (crL L S O K t = X) := ⟨_, rfl⟩
  rw [HX.out] at hx HXL HXN ⊢
  have HXn : Hid (X.length = xn) := hx
  clear hx hb hcb hd hfs hO hOn HX hneg
  have htp : ¬ ((t : Int) < 0) := by omega
  go_enter Try.func28, Try.ntmps28
  go_wp2_with fail
  refine (RS.out _ B0.out _ hr).mono ?_
  rintro e w1 ⟨rfl, rfl⟩
  go_wp2_with fail
  generalize (w.alloc (.cells #[.slice la ln lc, .slice sa sn sc, .slice oa on oc] 27)).alloc (.cells #[.slice none 0 0, .slice none 0 0, .slice none 0 0] 27) = W0 at *
  refine (SO.out W0 B0.out).mono ?_
  rintro e w1 ⟨fv1, S1, rfl, hb1, hs1, hk1, hl1⟩
  have B1 : Hid (Below W0.heap.size W0 w1) := hb1
  have H1 : Hid (SH w1 W0.heap.size W0.heap.size fv1 S1) := hs1
  have K1 : Hid (keysG S1 = S) := hk1
  have L1 : Hid (∀ g ∈ S1, g.ps.length ≤ 1) := hl1
  clear hb1 hs1 hk1 hl1 a0 a1 a2 hr RS SO
  obtain ⟨sb, HSB⟩ : ∃ s, Hid (W0.heap.size = s) := ⟨_, rfl⟩
  rw [HSB.out] at H1 ⊢
  go_wp2_with fail
  go_loopw [31] (fun ti wr => ∃ (i : Nat) (fv : Value) (T : List GR), i ≤ kn ∧ ti = .int .i64 i ∧ Below W0.heap.size W0 wr ∧ SH wr sb sb fv T ∧ keysG T = crF S O K kn t i ∧ ∀ g ∈ T, g.ps.length ≤ i + 1) (fun ti _ => kn - (intOf ti).toNat)
  case atStart => exact ⟨0, fv1, S1, Nat.zero_le _, rfl, B1.out, H1.out, K1.out, L1.out⟩
  case round =>
    clear K1 L1 H1
    obtain ⟨i, fv, T, hi, rfl, hb, hsh, hks, hl⟩ := hrel
    have HT : Hid (SH wr sb sb fv T) := hsh
    have HKS : Hid (keysG T = crF S O K kn t i) := hks
    have HLT : Hid (∀ g ∈ T, g.ps.length ≤ i + 1) := hl
    have BR : Hid (Below W0.heap.size W0 wr) := hb
    clear hsh hks hl hb
    obtain ⟨-, cr2, cr3, cr4⟩ := HCK.out i hi
    have tl : T.length ≤ 260 := by rw [← keys_len, HKS.out]; omega
    have tt : totL (keysG T) ≤ 500000000 := by rw [HKS.out]; omega
    have HRIS : Hid (RisG T) := risG_iff.2 (by rw [HKS.out]; exact cr2)
    clear cr2 cr3 cr4
    have RR : Hid (wr.heap[w.heap.size]? = some (.cells #[.slice la ln lc, .slice sa sn sc, .slice oa on oc] 27 (0, 0))) := below_row BR.out (row_lt RA0.out) RA0.out
    obtain ⟨g0, g1, g2⟩ := cells3 RR.out
    have hsbw : sb ≤ wr.heap.size := by rw [← HSB.out]; exact BR.out.size
    by_cases hlt : i < kn
    · have hin : (i : Int) < kn := by omega
      have hbw : Below w.heap.size w wr := B0.out.trans (BR.out.mono B0.out.size)
      obtain ⟨kb, ko, e, hkc⟩ := (HKA.out.below hbw) i (by rw [HKN.out]; exact hlt)
      subst e
      obtain ⟨hj0, hj1⟩ := HRI.out i hlt
      obtain ⟨-, hok⟩ := HOK.out i hlt
      have HCR : Hid (crF S O K kn t (i + 1) = doF (keysG T) (crO O K kn t i)) := by show _ = _; rw [crF, HKS.out]
      have HCO : Hid (crO O K kn t i = if i + 1 = kn then torO (O.getD (K.getD i 0).toNat op0) t else O.getD (K.getD i 0).toNat op0) := rfl
      have HOP := (HD0.out.o.below hbw)
      obtain ⟨j, hj⟩ : ∃ j : Nat, K.getD i 0 = j := ⟨(K.getD i 0).toNat, by omega⟩
      rw [hj] at hkc hj0 hj1
      rw [hj, Int.toNat_natCast] at hok HCO
      clear hj
      have hjn : j < on := by omega
      obtain ⟨ob, oo, e, o0, o1, o2, o3⟩ := HOP j (by rw [HON.out]; exact hjn)
      subst e
      clear HOP hbw
      generalize O.getD j op0 = op at *
      obtain ⟨k, n, u, d⟩ := op
      have hok' : Hid (OpK ⟨k, n, u, d⟩) := hok
      have hzd := hok.d
      simp only at o0 o1 o2 o3 hzd
      clear hok
      rw [HCO.out] at HCR
      clear HCO
      by_cases hla : i + 1 = kn
      · have hle : ((i : Int) == (kn : Int) - 1) = true := by simp; omega
        have hle2 : (i : Int) = (kn : Int) - 1 ↔ True := by simp; omega
        rw [if_pos hla] at HCR
        have hqt := opK_tor hok'.out t
        unfold torO at HCR hqt
        simp only at HCR hqt
        by_cases htd : t < d.size
        · have hti : (t : Int) < d.size := by omega
          have hmn : min (t : Int) (d.size : Int) = t := by omega
          have htl : ¬ ((d.size : Int) < t) := by omega
          rw [if_pos htd] at HCR hqt
          have HQT : Hid (OpK ⟨k, n, u, d.extract 0 t⟩) := hqt
          clear hqt hla htd
          have HQ : Hid (OpK ⟨k, n, u, (d.extract 0 t)⟩) := HQT.out
          have HFM := HQ.out.f
          obtain ⟨TT, dv, fF, fM, hdv, hm1, hm2, hm3, hm4, hF, hM⟩ := deed_uni ⟨k, n, u, (d.extract 0 t)⟩ HFM HQ.out.d
          have FF : Hid (∀ (s base : Nat) (fv : Value) (S : List GR) (w : World), SH w base s fv S → S.length ≤ 500 → RisG S → Calls Try.prog fF #[dv, .pointer (some ⟨s, 0, none⟩)] w fun e w' => e = .returned (.bool (okF (keysG S) ⟨k, n, u, (d.extract 0 t)⟩)) ∧ Below w.heap.size w w') := hF
          have MM : Hid (∀ (s base N : Nat) (fv : Value) (S : List GR) (w : World), SH w base s fv S → base ≤ w.heap.size → S.length ≤ 500 → RisG S → (∀ g ∈ S, g.ps.length ≤ N) → N ≤ 1000000 → totL (keysG S) ≤ 1000000000 → okF (keysG S) ⟨k, n, u, (d.extract 0 t)⟩ = true → Calls Try.prog fM #[dv, .pointer (some ⟨s, 0, none⟩)] w fun e w' => e = .returned (.tuple #[]) ∧ MadeOn w w' base s (doF (keysG S) ⟨k, n, u, (d.extract 0 t)⟩) (N + 1)) := hM
          have HDV : Hid (deedV ⟨k, n, u, (d.extract 0 t)⟩ = .iface TT dv) := hdv
          clear hF hM hdv
          have BX : Hid (Below wr.heap.size wr (wr.alloc (.cells #[.int .i64 k, .string n, .string u, .string (d.extract 0 t)] 36))) := (Below.refl _ _).alloc (Nat.le_refl _) _
          have DE : Hid (Calls Try.prog 46 #[.agg #[.int .i64 k, .string n, .string u, .string (d.extract 0 t)]] (wr.alloc (.cells #[.int .i64 k, .string n, .string u, .string (d.extract 0 t)] 36)) fun e w' => ∃ v, e = .returned (.tuple #[v, .bool true]) ∧ v = .iface TT dv ∧ Below wr.heap.size wr w') := by
            refine (deedOf_any ⟨k, n, u, (d.extract 0 t)⟩ _).mono ?_
            rintro e w' ⟨v, rfl, h1, h2⟩
            rw [HFM]
            exact ⟨v, rfl, by rw [h1 HFM, HDV.out], BX.out.trans (h2.mono BX.out.size)⟩
          clear HFM
          go_wp2_with fail
          refine DE.out.mono ?_
          rintro e w2 ⟨v, rfl, hv, hb2⟩
          subst hv
          have B2 : Hid (Below wr.heap.size wr w2) := hb2
          have H2 : Hid (SH w2 sb sb fv T) := HT.out.below hb2
          clear hb2 g0 g1 g2 o0 o1 o2 o3 hkc BX DE
          obtain ⟨y, HY⟩ : ∃ y, Hid (okF (keysG T) ⟨k, n, u, (d.extract 0 t)⟩ = y) := ⟨_, rfl⟩
          cases y
          · skip
            go_wp2_with fail
            refine (FF.out _ _ fv T w2 H2.out (by omega) HRIS.out).mono ?_
            rintro e w3 ⟨rfl, hb3⟩
            rw [HY.out]
            have B3 : Hid (Below W0.heap.size W0 w3) := BR.out.trans ((B2.out.trans (hb3.mono B2.out.size)).mono BR.out.size)
            have H3 : Hid (SH w3 sb sb fv T) := H2.out.below hb3
            clear hb3
            go_wp2
            go_roundw
            case rel => exact ⟨i + 1, fv, T, by omega, by first | rfl | go_num, B3.out, H3.out, by rw [HCR.out, do_no HY.out], fun g hg => by have := HLT.out g hg; omega⟩
            case measure => simp [intOf]; omega
          · skip
            go_wp2_with fail
            refine (FF.out _ _ fv T w2 H2.out (by omega) HRIS.out).mono ?_
            rintro e w3 ⟨rfl, hb3⟩
            rw [HY.out]
            have B3 : Hid (Below W0.heap.size W0 w3) := BR.out.trans ((B2.out.trans (hb3.mono B2.out.size)).mono BR.out.size)
            have H3 : Hid (SH w3 sb sb fv T) := H2.out.below hb3
            have S3 : Hid (sb ≤ w3.heap.size) := Nat.le_trans hsbw (Nat.le_trans B2.out.size hb3.size)
            clear hb3
            go_wp2_with fail
            refine (MM.out _ _ (i + 1) fv T w3 H3.out S3.out (by omega) HRIS.out HLT.out (by omega) (by omega) HY.out).mono ?_
            rintro e w4 ⟨rfl, fv4, T4, hb4, hs4, hk4, hl4⟩
            have B4 : Hid (Below W0.heap.size W0 w4) := B3.out.trans (by rw [HSB.out]; exact hb4)
            have H4 : Hid (SH w4 sb sb fv4 T4) := hs4
            have K4 : Hid (keysG T4 = crF S O K kn t (i + 1)) := by show _ = _; rw [hk4, HCR.out]
            have L4 : Hid (∀ g ∈ T4, g.ps.length ≤ i + 1 + 1) := hl4
            clear hb4 hs4 hk4 hl4
            go_wp2
            go_roundw
            case rel => exact ⟨i + 1, fv4, T4, by omega, by first | rfl | go_num, B4.out, H4.out, K4.out, L4.out⟩
            case measure => simp [intOf]; omega
        · have hmn : min (t : Int) (d.size : Int) = d.size := by omega
          rw [if_neg htd] at HCR hqt
          have hex : d.extract 0 d.size = d := by
            apply ByteArray.ext
            simp
          clear hqt hla htd
          have HQ : Hid (OpK ⟨k, n, u, d⟩) := hok'.out
          have HFM := HQ.out.f
          obtain ⟨TT, dv, fF, fM, hdv, hm1, hm2, hm3, hm4, hF, hM⟩ := deed_uni ⟨k, n, u, d⟩ HFM HQ.out.d
          have FF : Hid (∀ (s base : Nat) (fv : Value) (S : List GR) (w : World), SH w base s fv S → S.length ≤ 500 → RisG S → Calls Try.prog fF #[dv, .pointer (some ⟨s, 0, none⟩)] w fun e w' => e = .returned (.bool (okF (keysG S) ⟨k, n, u, d⟩)) ∧ Below w.heap.size w w') := hF
          have MM : Hid (∀ (s base N : Nat) (fv : Value) (S : List GR) (w : World), SH w base s fv S → base ≤ w.heap.size → S.length ≤ 500 → RisG S → (∀ g ∈ S, g.ps.length ≤ N) → N ≤ 1000000 → totL (keysG S) ≤ 1000000000 → okF (keysG S) ⟨k, n, u, d⟩ = true → Calls Try.prog fM #[dv, .pointer (some ⟨s, 0, none⟩)] w fun e w' => e = .returned (.tuple #[]) ∧ MadeOn w w' base s (doF (keysG S) ⟨k, n, u, d⟩) (N + 1)) := hM
          have HDV : Hid (deedV ⟨k, n, u, d⟩ = .iface TT dv) := hdv
          clear hF hM hdv
          have BX : Hid (Below wr.heap.size wr (wr.alloc (.cells #[.int .i64 k, .string n, .string u, .string d] 36))) := (Below.refl _ _).alloc (Nat.le_refl _) _
          have DE : Hid (Calls Try.prog 46 #[.agg #[.int .i64 k, .string n, .string u, .string d]] (wr.alloc (.cells #[.int .i64 k, .string n, .string u, .string d] 36)) fun e w' => ∃ v, e = .returned (.tuple #[v, .bool true]) ∧ v = .iface TT dv ∧ Below wr.heap.size wr w') := by
            refine (deedOf_any ⟨k, n, u, d⟩ _).mono ?_
            rintro e w' ⟨v, rfl, h1, h2⟩
            rw [HFM]
            exact ⟨v, rfl, by rw [h1 HFM, HDV.out], BX.out.trans (h2.mono BX.out.size)⟩
          clear HFM
          go_wp2_with fail
          refine DE.out.mono ?_
          rintro e w2 ⟨v, rfl, hv, hb2⟩
          subst hv
          have B2 : Hid (Below wr.heap.size wr w2) := hb2
          have H2 : Hid (SH w2 sb sb fv T) := HT.out.below hb2
          clear hb2 g0 g1 g2 o0 o1 o2 o3 hkc BX DE
          obtain ⟨y, HY⟩ : ∃ y, Hid (okF (keysG T) ⟨k, n, u, d⟩ = y) := ⟨_, rfl⟩
          cases y
          · skip
            go_wp2_with fail
            refine (FF.out _ _ fv T w2 H2.out (by omega) HRIS.out).mono ?_
            rintro e w3 ⟨rfl, hb3⟩
            rw [HY.out]
            have B3 : Hid (Below W0.heap.size W0 w3) := BR.out.trans ((B2.out.trans (hb3.mono B2.out.size)).mono BR.out.size)
            have H3 : Hid (SH w3 sb sb fv T) := H2.out.below hb3
            clear hb3
            go_wp2
            go_roundw
            case rel => exact ⟨i + 1, fv, T, by omega, by first | rfl | go_num, B3.out, H3.out, by rw [HCR.out, do_no HY.out], fun g hg => by have := HLT.out g hg; omega⟩
            case measure => simp [intOf]; omega
          · skip
            go_wp2_with fail
            refine (FF.out _ _ fv T w2 H2.out (by omega) HRIS.out).mono ?_
            rintro e w3 ⟨rfl, hb3⟩
            rw [HY.out]
            have B3 : Hid (Below W0.heap.size W0 w3) := BR.out.trans ((B2.out.trans (hb3.mono B2.out.size)).mono BR.out.size)
            have H3 : Hid (SH w3 sb sb fv T) := H2.out.below hb3
            have S3 : Hid (sb ≤ w3.heap.size) := Nat.le_trans hsbw (Nat.le_trans B2.out.size hb3.size)
            clear hb3
            go_wp2_with fail
            refine (MM.out _ _ (i + 1) fv T w3 H3.out S3.out (by omega) HRIS.out HLT.out (by omega) (by omega) HY.out).mono ?_
            rintro e w4 ⟨rfl, fv4, T4, hb4, hs4, hk4, hl4⟩
            have B4 : Hid (Below W0.heap.size W0 w4) := B3.out.trans (by rw [HSB.out]; exact hb4)
            have H4 : Hid (SH w4 sb sb fv4 T4) := hs4
            have K4 : Hid (keysG T4 = crF S O K kn t (i + 1)) := by show _ = _; rw [hk4, HCR.out]
            have L4 : Hid (∀ g ∈ T4, g.ps.length ≤ i + 1 + 1) := hl4
            clear hb4 hs4 hk4 hl4
            go_wp2
            go_roundw
            case rel => exact ⟨i + 1, fv4, T4, by omega, by first | rfl | go_num, B4.out, H4.out, K4.out, L4.out⟩
            case measure => simp [intOf]; omega
      · have hle : ((i : Int) == (kn : Int) - 1) = false := by simp; omega
        rw [if_neg hla] at HCR
        clear hla
        have HQ : Hid (OpK ⟨k, n, u, d⟩) := hok'.out
        have HFM := HQ.out.f
        obtain ⟨TT, dv, fF, fM, hdv, hm1, hm2, hm3, hm4, hF, hM⟩ := deed_uni ⟨k, n, u, d⟩ HFM HQ.out.d
        have FF : Hid (∀ (s base : Nat) (fv : Value) (S : List GR) (w : World), SH w base s fv S → S.length ≤ 500 → RisG S → Calls Try.prog fF #[dv, .pointer (some ⟨s, 0, none⟩)] w fun e w' => e = .returned (.bool (okF (keysG S) ⟨k, n, u, d⟩)) ∧ Below w.heap.size w w') := hF
        have MM : Hid (∀ (s base N : Nat) (fv : Value) (S : List GR) (w : World), SH w base s fv S → base ≤ w.heap.size → S.length ≤ 500 → RisG S → (∀ g ∈ S, g.ps.length ≤ N) → N ≤ 1000000 → totL (keysG S) ≤ 1000000000 → okF (keysG S) ⟨k, n, u, d⟩ = true → Calls Try.prog fM #[dv, .pointer (some ⟨s, 0, none⟩)] w fun e w' => e = .returned (.tuple #[]) ∧ MadeOn w w' base s (doF (keysG S) ⟨k, n, u, d⟩) (N + 1)) := hM
        have HDV : Hid (deedV ⟨k, n, u, d⟩ = .iface TT dv) := hdv
        clear hF hM hdv
        have BX : Hid (Below wr.heap.size wr (wr.alloc (.cells #[.int .i64 k, .string n, .string u, .string d] 36))) := (Below.refl _ _).alloc (Nat.le_refl _) _
        have DE : Hid (Calls Try.prog 46 #[.agg #[.int .i64 k, .string n, .string u, .string d]] (wr.alloc (.cells #[.int .i64 k, .string n, .string u, .string d] 36)) fun e w' => ∃ v, e = .returned (.tuple #[v, .bool true]) ∧ v = .iface TT dv ∧ Below wr.heap.size wr w') := by
          refine (deedOf_any ⟨k, n, u, d⟩ _).mono ?_
          rintro e w' ⟨v, rfl, h1, h2⟩
          rw [HFM]
          exact ⟨v, rfl, by rw [h1 HFM, HDV.out], BX.out.trans (h2.mono BX.out.size)⟩
        clear HFM
        go_wp2_with fail
        refine DE.out.mono ?_
        rintro e w2 ⟨v, rfl, hv, hb2⟩
        subst hv
        have B2 : Hid (Below wr.heap.size wr w2) := hb2
        have H2 : Hid (SH w2 sb sb fv T) := HT.out.below hb2
        clear hb2 g0 g1 g2 o0 o1 o2 o3 hkc BX DE
        obtain ⟨y, HY⟩ : ∃ y, Hid (okF (keysG T) ⟨k, n, u, d⟩ = y) := ⟨_, rfl⟩
        cases y
        · skip
          go_wp2_with fail
          refine (FF.out _ _ fv T w2 H2.out (by omega) HRIS.out).mono ?_
          rintro e w3 ⟨rfl, hb3⟩
          rw [HY.out]
          have B3 : Hid (Below W0.heap.size W0 w3) := BR.out.trans ((B2.out.trans (hb3.mono B2.out.size)).mono BR.out.size)
          have H3 : Hid (SH w3 sb sb fv T) := H2.out.below hb3
          clear hb3
          go_wp2
          go_roundw
          case rel => exact ⟨i + 1, fv, T, by omega, by first | rfl | go_num, B3.out, H3.out, by rw [HCR.out, do_no HY.out], fun g hg => by have := HLT.out g hg; omega⟩
          case measure => simp [intOf]; omega
        · skip
          go_wp2_with fail
          refine (FF.out _ _ fv T w2 H2.out (by omega) HRIS.out).mono ?_
          rintro e w3 ⟨rfl, hb3⟩
          rw [HY.out]
          have B3 : Hid (Below W0.heap.size W0 w3) := BR.out.trans ((B2.out.trans (hb3.mono B2.out.size)).mono BR.out.size)
          have H3 : Hid (SH w3 sb sb fv T) := H2.out.below hb3
          have S3 : Hid (sb ≤ w3.heap.size) := Nat.le_trans hsbw (Nat.le_trans B2.out.size hb3.size)
          clear hb3
          go_wp2_with fail
          refine (MM.out _ _ (i + 1) fv T w3 H3.out S3.out (by omega) HRIS.out HLT.out (by omega) (by omega) HY.out).mono ?_
          rintro e w4 ⟨rfl, fv4, T4, hb4, hs4, hk4, hl4⟩
          have B4 : Hid (Below W0.heap.size W0 w4) := B3.out.trans (by rw [HSB.out]; exact hb4)
          have H4 : Hid (SH w4 sb sb fv4 T4) := hs4
          have K4 : Hid (keysG T4 = crF S O K kn t (i + 1)) := by show _ = _; rw [hk4, HCR.out]
          have L4 : Hid (∀ g ∈ T4, g.ps.length ≤ i + 1 + 1) := hl4
          clear hb4 hs4 hk4 hl4
          go_wp2
          go_roundw
          case rel => exact ⟨i + 1, fv4, T4, by omega, by first | rfl | go_num, B4.out, H4.out, K4.out, L4.out⟩
          case measure => simp [intOf]; omega
    · have hin : i = kn := by omega
      subst hin
      rw [← HKS.out] at HBB HXL
      have hfit := (HCK.out i (Nat.le_refl _)).fit
      rw [← HKS.out, HBB.out, keys_len] at hfit
      have FT : Hid (Calls Try.prog 47 #[.pointer (some ⟨sb, 0, none⟩)] wr fun e w' => e = .returned (.bool b) ∧ Below wr.heap.size wr w') := by
        rw [hfit]
        exact fits_any sb sb fv T wr HT.out (by omega) (by omega)
      have BWR : Hid (Below w.heap.size w wr) := B0.out.trans (BR.out.mono B0.out.size)
      have RBR : Hid (wr.heap[w.heap.size + 1]? = some (.cells #[.slice none 0 0, .slice none 0 0, .slice none 0 0] 27 (0, 0))) := below_row BR.out (row_lt RB0.out) RB0.out
      clear hfit g0 g1 g2
      cases b
      · have hX := HXN.out rfl
        subst hX
        have hx0 : xn = 0 := HXn.out.symm
        subst hx0
        go_wp2_with fail
        refine FT.out.mono ?_
        rintro e w5 ⟨rfl, hb5⟩
        have B5 : Hid (Below w.heap.size w w5) := BWR.out.trans (hb5.mono BWR.out.size)
        have RB5 : Hid (w5.heap[w.heap.size + 1]? = some (.cells #[.slice none 0 0, .slice none 0 0, .slice none 0 0] 27 (0, 0))) := below_row hb5 (row_lt RBR.out) RBR.out
        clear hb5
        obtain ⟨r0, r1, r2⟩ := cells3 RB5.out
        have rf := fun i => frozen_of_row _ _ i _ _ RB5.out
        go_wp2
        refine bodyPost_ret (v := .tuple #[.agg #[.slice none 0 0, .slice none 0 0, .slice none 0 0], .bool false]) (by simp [results, Try.results28, go_sem, r0, r1, r2]) rfl ⟨none, 0, none, 0, rfl, ?_⟩
        exact ⟨by repeat (first | with_reducible exact B5.out | refine Below.setCell ?_ (by simp <;> omega) _), da_nil⟩
      have hX := HXL.out rfl
      subst hX
      have htn : T.length = xn := by rw [← keys_len]; exact HXn.out
      have LI : Hid (∀ W, Below wr.heap.size wr W → Calls Try.prog 49 #[.pointer (some ⟨sb, 0, none⟩)] W fun e w' => ∃ va vc, e = .returned (.slice va xn vc) ∧ Below W.heap.size W w' ∧ w'.ownsRow W.heap.size 55 2 (.slice va xn vc) xn (rowF (keysG T))) := fun W hW => by
        refine (list_any sb sb fv T W (HT.out.below hW) (by omega) (by omega) (fun g hg => by have := HLT.out g hg; omega)).mono ?_
        rintro e w' ⟨v, rfl, hb, ho⟩
        rw [htn] at ho
        obtain ⟨va, vc, rfl⟩ := own_anyV ho
        exact ⟨va, vc, rfl, hb, ho⟩
      have bxn : xn ≤ 260 := by omega
      clear htn
      go_wp2_with fail
      refine FT.out.mono ?_
      rintro e w5 ⟨rfl, hb5⟩
      have C5 : Hid (Below wr.heap.size wr w5) := hb5
      clear hb5
      go_wp2_with fail
      refine (LI.out w5 C5.out).mono ?_
      rintro e w6 ⟨va, vc, rfl, hb6, ho6⟩
      have C6 : Hid (Below wr.heap.size wr w6) := C5.out.trans (hb6.mono C5.out.size)
      have O6 : Hid (w6.ownsRow w.heap.size 55 2 (.slice va xn vc) xn (rowF (keysG T))) := own_bse ho6 (Nat.le_trans BWR.out.size C5.out.size)
      obtain ⟨va', vc', eva, hfa⟩ := own_files ho6 HXn.out
      injection eva with eva _ evc
      subst eva
      subst evc
      have F6 : Hid (FilesAt w6 va (keysG T)) := hfa
      clear hb6 ho6 hfa
      go_wp2_with fail
      refine (cloneFiles_any va vc xn (keysG T) w6 F6.out HXn.out (by omega)).mono ?_
      rintro e w7 ⟨sa7, sc7, rfl, hb7, ho7⟩
      have B7 : Hid (Below w.heap.size w w7) := BWR.out.trans ((C6.out.trans (hb7.mono C6.out.size)).mono BWR.out.size)
      have RB7 : Hid (w7.heap[w.heap.size + 1]? = some (.cells #[.slice none 0 0, .slice none 0 0, .slice none 0 0] 27 (0, 0))) := below_row (C6.out.trans (hb7.mono C6.out.size)) (row_lt RBR.out) RBR.out
      have D7 : Hid (DA w7 w.heap.size (.slice va xn vc) (.slice sa7 xn sc7) (.slice none 0 0) (keysG T) (keysG T) []) := da_two (own_blw O6.out hb7) ho7 HXn.out (Nat.le_trans BWR.out.size C6.out.size) (fun k h => (O6.out.lt k h).2)
      have FN : Hid (∀ x y z, Below w.heap.size w (((w7.setCell ⟨w.heap.size + 1, 0, none⟩ x).setCell ⟨w.heap.size + 1, 1, none⟩ y).setCell ⟨w.heap.size + 1, 2, none⟩ z) ∧ DA (((w7.setCell ⟨w.heap.size + 1, 0, none⟩ x).setCell ⟨w.heap.size + 1, 1, none⟩ y).setCell ⟨w.heap.size + 1, 2, none⟩ z) w.heap.size (.slice va xn vc) (.slice sa7 xn sc7) (.slice none 0 0) (keysG T) (keysG T) []) := fun x y z => boxedAt (by omega) B7.out D7.out RB7.out
      obtain ⟨r0, r1, r2⟩ := cells3 RB7.out
      have rf := fun i => frozen_of_row _ _ i _ _ RB7.out
      clear hb7 ho7
      go_wp2
      refine bodyPost_ret (v := .tuple #[.agg #[.slice va xn vc, .slice sa7 xn sc7, .slice none 0 0], .bool true]) (by simp [results, Try.results28, go_sem, r0, r1, r2]) rfl ⟨_, _, _, _, rfl, (FN.out _ _ _).1, (FN.out _ _ _).2⟩

set_option maxHeartbeats 8000000 in
set_option maxRecDepth 20000 in
theorem implCrash_any (la sa oa ka : Option Addr) (lc sc oc ln sn on kn kc xn : Nat) (tz : Int) (b : Bool) (L S : List FI) (O : List OP) (K : List Int) (w : World) (hD : DAt w la sa oa L S O) (hK : DskOk L S O) (hKA : IntsAt w ka K) (hLn : L.length = ln) (hSn : S.length = sn) (hOn : O.length = on) (hKn : K.length = kn) (bk : kn ≤ 1048576) (hb : crB L S O K tz = b) (hx : (crL L S O K tz).length = xn) :
    Calls Try.prog 10 #[.agg #[.slice la ln lc, .slice sa sn sc, .slice oa on oc], .slice ka kn kc, .int .i64 tz] w fun e w' => ∃ a1 c1 a2 c2, e = .returned (.tuple #[.agg #[.slice a1 xn c1, .slice a2 xn c2, .slice none 0 0], .bool b]) ∧ Below w.heap.size w w' ∧ DA w' w.heap.size (.slice a1 xn c1) (.slice a2 xn c2) (.slice none 0 0) (crL L S O K tz) (crL L S O K tz) [] := by
  have B0 : Hid (Below w.heap.size w ((w.alloc (.cells #[.slice la ln lc, .slice sa sn sc, .slice oa on oc] 27)).alloc (.cells #[.slice none 0 0, .slice none 0 0, .slice none 0 0] 27))) := ((Below.refl _ _).alloc (Nat.le_refl _) _).alloc (by simp) _
  have RA0 : Hid (((w.alloc (.cells #[.slice la ln lc, .slice sa sn sc, .slice oa on oc] 27)).alloc (.cells #[.slice none 0 0, .slice none 0 0, .slice none 0 0] 27)).heap[w.heap.size]? = some (.cells #[.slice la ln lc, .slice sa sn sc, .slice oa on oc] 27 (0, 0))) := heap_alloc2_old _ _ _
  have RB0 : Hid (((w.alloc (.cells #[.slice la ln lc, .slice sa sn sc, .slice oa on oc] 27)).alloc (.cells #[.slice none 0 0, .slice none 0 0, .slice none 0 0] 27)).heap[w.heap.size + 1]? = some (.cells #[.slice none 0 0, .slice none 0 0, .slice none 0 0] 27 (0, 0))) := heap_alloc2_new _ _ _
  have ID : Hid (∀ W, Below w.heap.size w W → ∀ y, dskB L S O = y → Calls Try.prog 8 #[.agg #[.slice la ln lc, .slice sa sn sc, .slice oa on oc]] W fun e w' => e = .returned (.bool y) ∧ Below W.heap.size W w') := fun W hW y hy => by
    rw [← hy]
    exact implDisk_any la sa oa lc sc oc ln sn on L S O W (hD.below hW) hK hLn hSn hOn
  obtain ⟨a0, a1, a2⟩ := cells3 RA0.out
  cases hd : dskB L S O
  · have hb0 : b = false := by rw [← hb]; unfold crB; rw [hd]; rfl
    have hl0 : crL L S O K tz = [] := crL_no (by rw [hb]; exact hb0)
    rw [hl0] at hx ⊢
    have hx0 : xn = 0 := hx.symm
    subst hx0
    subst hb0
    clear hx hl0 hD hK hLn hSn hOn hKA hKn bk
    go_enter Try.func10, Try.ntmps10
    go_wp2_with fail
    refine (ID.out _ B0.out _ hd).mono ?_
    rintro e w1 ⟨rfl, hb1⟩
    have B1 : Hid (Below w.heap.size w w1) := B0.out.trans (hb1.mono B0.out.size)
    have RB1 : Hid (w1.heap[w.heap.size + 1]? = some (.cells #[.slice none 0 0, .slice none 0 0, .slice none 0 0] 27 (0, 0))) := below_row hb1 (row_lt RB0.out) RB0.out
    clear hb1 a0 a1 a2
    obtain ⟨r0, r1, r2⟩ := cells3 RB1.out
    have rf := fun i => frozen_of_row _ _ i _ _ RB1.out
    go_wp2
    refine bodyPost_ret (v := .tuple #[.agg #[.slice none 0 0, .slice none 0 0, .slice none 0 0], .bool false]) (by simp [results, Try.results10, go_sem, r0, r1, r2]) rfl ⟨none, 0, none, 0, rfl, ?_⟩
    exact ⟨by repeat (first | with_reducible exact B1.out | refine Below.setCell ?_ (by simp <;> omega) _), da_nil⟩
  have CR : Hid (∀ W, Below w.heap.size w W → Calls Try.prog 28 #[.agg #[.slice la ln lc, .slice sa sn sc, .slice oa on oc], .slice ka kn kc, .int .i64 tz] W fun e w' => ∃ a1 c1 a2 c2, e = .returned (.tuple #[.agg #[.slice a1 xn c1, .slice a2 xn c2, .slice none 0 0], .bool b]) ∧ Below W.heap.size W w' ∧ DA w' W.heap.size (.slice a1 xn c1) (.slice a2 xn c2) (.slice none 0 0) (crL L S O K tz) (crL L S O K tz) []) := fun W hW => crashed_any la sa oa ka lc sc oc ln sn on kn kc xn tz b L S O K W (hD.below hW) (hKA.below hW) hK.os hd hSn hOn hKn bk hb hx
  obtain ⟨X, HX⟩ : ∃ X, Hid (crL L S O K tz = X) := ⟨_, rfl⟩
  rw [HX.out] at CR ⊢
  clear hx hb hD hK hLn hSn hOn hKA hKn bk
  go_enter Try.func10, Try.ntmps10
  go_wp2_with fail
  refine (ID.out _ B0.out _ hd).mono ?_
  rintro e w1 ⟨rfl, hb1⟩
  have B1 : Hid (Below w.heap.size w w1) := B0.out.trans (hb1.mono B0.out.size)
  have RA1 : Hid (w1.heap[w.heap.size]? = some (.cells #[.slice la ln lc, .slice sa sn sc, .slice oa on oc] 27 (0, 0))) := below_row hb1 (row_lt RA0.out) RA0.out
  have RB1 : Hid (w1.heap[w.heap.size + 1]? = some (.cells #[.slice none 0 0, .slice none 0 0, .slice none 0 0] 27 (0, 0))) := below_row hb1 (row_lt RB0.out) RB0.out
  clear hb1 a0 a1 a2
  obtain ⟨a0, a1, a2⟩ := cells3 RA1.out
  go_wp2_with fail
  refine (CR.out w1 B1.out).mono ?_
  rintro e w2 ⟨g1, f1, g2, f2, rfl, hb2, hda⟩
  have B2 : Hid (Below w.heap.size w w2) := B1.out.trans (hb2.mono B1.out.size)
  have RB2 : Hid (w2.heap[w.heap.size + 1]? = some (.cells #[.slice none 0 0, .slice none 0 0, .slice none 0 0] 27 (0, 0))) := below_row hb2 (row_lt RB1.out) RB1.out
  have FN : Hid (∀ x y z, Below w.heap.size w (((w2.setCell ⟨w.heap.size + 1, 0, none⟩ x).setCell ⟨w.heap.size + 1, 1, none⟩ y).setCell ⟨w.heap.size + 1, 2, none⟩ z) ∧ DA (((w2.setCell ⟨w.heap.size + 1, 0, none⟩ x).setCell ⟨w.heap.size + 1, 1, none⟩ y).setCell ⟨w.heap.size + 1, 2, none⟩ z) w.heap.size (.slice g1 xn f1) (.slice g2 xn f2) (.slice none 0 0) X X []) := fun x y z => boxedAt (by omega) B2.out (hda.bse B1.out.size) RB2.out
  obtain ⟨r0, r1, r2⟩ := cells3 RB2.out
  have rf := fun i => frozen_of_row _ _ i _ _ RB2.out
  clear hb2 hda a0 a1 a2
  go_wp2
  refine bodyPost_ret (v := .tuple #[.agg #[.slice g1 xn f1, .slice g2 xn f2, .slice none 0 0], .bool b]) (by simp [results, Try.results10, go_sem, r0, r1, r2]) rfl ⟨_, _, _, _, rfl, (FN.out _ _ _).1, (FN.out _ _ _).2⟩

end Go.Proofs.Ytpahhhocgpohbaa
