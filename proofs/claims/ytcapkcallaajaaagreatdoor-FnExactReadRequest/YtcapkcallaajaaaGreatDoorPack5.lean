import Derived.Test.YtcapkcallaajaaaGreatDoorPack1
import Derived.Test.YtcapkcallaajaaaGreatDoorPack4
import Derived.Lib.ConvBytes
namespace Go.Proofs.YtcapkcallaajaaaGreatDoor
open Go.RowKit
def bt (s : List UInt8) (i : Nat) : UInt8 := s.getD i 0
theorem txt_idx (s : List UInt8) (i : Nat) (h : i < (txt s).size) : (txt s)[i]'h = bt s i := by
 have hl : i < s.length := by rw [txt_size] at h; exact h
 unfold bt
 rw [List.getD_eq_getElem?_getD, List.getElem?_eq_getElem hl]
 simp [txt]
 rfl
theorem tw_len (s : List UInt8) (k : Nat) (hk : ∀ j, j < k -> isDg (bt s j) = true) (hl : k <= s.length) (hn : k = s.length ∨ isDg (bt s k) = false) : s.takeWhile isDg = s.take k := by
 induction s generalizing k with
 | nil => simp
 | cons c s ih =>
   cases k with
   | zero =>
     rcases hn with hn | hn
     · simp at hn
     · have : isDg c = false := hn
       simp [this]
   | succ k =>
     have h0 : isDg c = true := hk 0 (by omega)
     rw [List.takeWhile_cons, if_pos h0, List.take_succ_cons, ih k (fun j hj => hk (j + 1) (by omega)) (by simp at hl; omega) (by
      rcases hn with hn | hn
      · left; simp at hn; omega
      · right; exact hn)]
theorem dval_take (s : List UInt8) (j : Nat) (h : j < s.length) : dval (s.take (j + 1)) = dval (s.take j) * 10 + ((bt s j).toNat - 48) := by
 have e : s.take (j + 1) = s.take j ++ [bt s j] := by
  unfold bt
  rw [List.take_add_one, List.getD_eq_getElem?_getD, List.getElem?_eq_getElem h]
  simp
 rw [e, dval_snoc]
theorem take_dg {s : List UInt8} {k : Nat} (hk : ∀ j, j < k -> isDg (bt s j) = true) (hl : k <= s.length) : ∀ c ∈ s.take k, isDg c = true := fun c hc => by
 obtain ⟨j, hj, e⟩ := List.getElem_of_mem hc
 rw [List.length_take] at hj
 rw [List.getElem_take] at e
 have := hk j (by omega)
 unfold bt at this
 rw [List.getD_eq_getElem?_getD, List.getElem?_eq_getElem (by omega)] at this
 simp only [Option.getD_some] at this
 rw [<- e]
 exact this
theorem dval_small {s : List UInt8} {k j : Nat} (hk : ∀ j, j < k -> isDg (bt s j) = true) (hl : k <= s.length) (h10 : k <= 10) (hj : j <= k) : dval (s.take j) < 10000000000 := by
 have h1 := dval_lt _ (s.take j) rfl (take_dg (fun i hi => hk i (by omega)) (by omega))
 have h2 : (s.take j).length <= 10 := by rw [List.length_take]; omega
 exact Nat.lt_of_lt_of_le h1 (Nat.pow_le_pow_right (by omega) h2)
theorem isDg_nat (c : UInt8) : isDg c = decide (48 <= c.toNat /\ c.toNat <= 57) := rfl
set_option maxHeartbeats 4000000 in
set_option maxRecDepth 10000 in
theorem number_any (q : Nat) (s : List UInt8) (w : World) (h : RX w q s) (hs : s.length <= 1000000000) :
 Calls Tryz.prog 79 #[.pointer (some ⟨q, 0, none⟩)] w fun e w' => (∃ n r, numF s = some (n, r) /\ e = .returned (.int .i64 n) /\ RX w' q r /\ w.grownBy w' (some q)) ∨ (numF s = none /\ e = .panicked GV /\ w' = w) := by
 have HR : Hid (RX w q s) := h
 have c0 := h.cell
 have HS : Hid ((txt s).size = s.length) := txt_size s
 clear h
 obtain ⟨a, HA⟩ : ∃ a, Hid (txt s = a) := ⟨_, rfl⟩
 obtain ⟨n, HN⟩ : ∃ n, Hid (s.length = n) := ⟨_, rfl⟩
 rw [HA.out] at c0 HS
 rw [HN.out] at HS hs
 have hn : a.size = n := HS.out
 go_enter Tryz.func79, Tryz.ntmps79
 go_wp2_with fail
 go_loop [3] (fun t => ∃ k : Nat, k <= n /\ t = .int .i64 k /\ ∀ j, j < k -> isDg (bt s j) = true) (fun t => n - (intOf t).toNat)
 case atStart => exact ⟨0, Nat.zero_le _, rfl, fun j hj => absurd hj (Nat.not_lt_zero _)⟩
 case round =>
  obtain ⟨k, hk, rfl, hd⟩ := hrel
  have HD : Hid (∀ j, j < k -> isDg (bt s j) = true) := hd
  clear hd
  by_cases hnd : k = n ∨ isDg (bt s k) = false
  · have HTW : Hid (s.takeWhile isDg = s.take k) := tw_len s k HD.out (by rw [HN.out]; exact hk) (by rw [HN.out]; exact hnd)
    have HTL : Hid ((s.take k).length = k) := by show _ = _; rw [List.length_take, HN.out]; omega
    have hcase : (¬ ((k : Int) < (n : Int)) /\ k <= n) ∨ (∃ (c : Nat) (hka : k < a.size), (k : Int) < (n : Int) /\ ((a[k]'hka).toNat : Int) = (c : Int) /\ ¬ ((48 : Int) <= c)) ∨ (∃ (c : Nat) (hka : k < a.size), (k : Int) < (n : Int) /\ ((a[k]'hka).toNat : Int) = (c : Int) /\ (48 : Int) <= c /\ ¬ ((c : Int) <= 57)) := by
     by_cases hkn : k < n
     · have hf : isDg (bt s k) = false := by rcases hnd with h | h; omega; exact h
       rw [isDg_nat] at hf
       have hf := of_decide_eq_false hf
       have hka : k < a.size := by rw [hn]; exact hkn
       have hix : ((a[k]'hka).toNat : Int) = ((bt s k).toNat : Int) := by
        have e := HA.out
        subst e
        rw [txt_idx]
       by_cases h48 : 48 <= (bt s k).toNat
       · exact .inr (.inr ⟨(bt s k).toNat, hka, by omega, hix, by omega, by omega⟩)
       · exact .inr (.inl ⟨(bt s k).toNat, hka, by omega, hix, by omega⟩)
     · exact .inl ⟨by omega, hk⟩
    have HOK : Hid (okDg (s.take k) = decide (0 < k /\ k <= 10 /\ (k = 1 ∨ bt s 0 ≠ 48))) := by
     show _ = _
     unfold okDg
     rw [HTL.out]
     by_cases h0 : 0 < k
     · have e : (s.take k).headD 0 = bt s 0 := by
        unfold bt
        cases s with
        | nil => simp
        | cons x xs => obtain ⟨k', rfl⟩ : ∃ k', k = k' + 1 := ⟨k - 1, by omega⟩; simp
       rw [e]
     · rw [decide_eq_false (by omega), decide_eq_false (by omega)]
    have HNO : Hid (okDg (s.take k) = false -> numF s = none) := fun h => by unfold numF; rw [HTW.out, if_neg (by rw [h]; simp)]
    have HYES : Hid (okDg (s.take k) = true -> numF s = some (dval (s.take k), s.drop k)) := fun h => by unfold numF; rw [HTW.out, if_pos h, HTL.out]
    clear hnd
    by_cases h1 : 0 < k /\ k <= 10
    · obtain ⟨h1a, h1b⟩ := h1
      have hz : 0 < a.size := by rw [hn]; omega
      have hz2 : (0 : Int) < n := by omega
      have hi0 : ((a[0]'hz).toNat : Int) = ((bt s 0).toNat : Int) := by
       have e := HA.out
       subst e
       rw [txt_idx]
      obtain ⟨z, HZ⟩ : ∃ z : Nat, Hid ((bt s 0).toNat = z) := ⟨_, rfl⟩
      rw [HZ.out] at hi0
      have h1c : (0 : Int) < (k : Int) := by omega
      have h1d : (k : Int) <= 10 := by omega
      by_cases h2 : k = 1 ∨ bt s 0 ≠ 48
      · have HY : Hid (numF s = some (dval (s.take k), s.drop k)) := HYES.out (by rw [HOK.out]; exact decide_eq_true ⟨h1a, h1b, h2⟩)
        have hb1 : ((k : Int) == 1) = true ∨ (((k : Int) == 1) = false /\ ((z : Int) != 48) = true) := by
         by_cases hk1 : k = 1
         · left; subst hk1; rfl
         · right
           refine ⟨by simp; omega, ?_⟩
           have h3 : bt s 0 ≠ 48 := by rcases h2 with h2 | h2; exact absurd h2 hk1; exact h2
           have : ¬ (z = 48) := fun e => h3 (by
            rw [<- UInt8.toNat_inj, HZ.out, e]
            rfl)
           simp
           omega
        obtain ⟨b, HB⟩ : ∃ b, Hid (txt (s.take k) = b) := ⟨_, rfl⟩
        have hex : a.extract 0 k = b := by rw [<- HA.out, txt_take]; exact HB.out
        have hbs : b.size = k := by rw [<- HB.out, txt_size]; exact HTL.out
        obtain ⟨b2, HB2⟩ : ∃ b2, Hid (txt (s.drop k) = b2) := ⟨_, rfl⟩
        have hex2 : a.extract k n = b2 := by rw [<- HA.out, <- HN.out, txt_drop]; exact HB2.out
        have hconv := Lib.run_convert_string_bytes (P := Tryz.prog) w 9 127 5 b Tryz.underlying9 Tryz.underlying127 Tryz.underlying5
        have HRB : Hid (RX (Lib.bytesWorld w 5 b) q s) := by
         show (Lib.bytesWorld w 5 b).heap[q]? = _
         rw [Lib.bytesWorld_at_old w _ b q (row_lt HR.out)]
         exact HR.out
        have HGB : Hid (w.grownBy (Lib.bytesWorld w 5 b) (some q)) := ⟨rfl, rfl, rfl, by rw [Lib.bytesWorld_size]; omega, fun j hj _ => Lib.bytesWorld_at_old w _ b j hj⟩
        have HCB : Hid (∀ j, j < k -> (Lib.bytesWorld w 5 b).cell? ⟨w.heap.size, j, none⟩ = some (.int .u8 (bt s j).toNat)) := fun j hj => by
         have := Lib.bytesWorld_cell w 5 b j (by rw [hbs]; exact hj)
         rw [this, <- HB.out]
         have e : (s.take k).getD j 0 = bt s j := by
          unfold bt
          rw [List.getD_eq_getElem?_getD, List.getD_eq_getElem?_getD, List.getElem?_take, if_pos hj]
         show some (Value.int .u8 ((s.take k).getD j 0).toNat) = _
         rw [e]
        have c1 : (Lib.bytesWorld w 5 b).cell? ⟨q, 0, none⟩ = some (.string a) := by rw [<- HA.out]; exact HRB.out.cell
        have f1 := HRB.out.frozen
        rw [hbs] at hconv
        generalize Lib.bytesWorld w 5 b = Wb at *
        generalize grownCap w k 0 5 = gc at *
        obtain ⟨wz, HWZ⟩ : ∃ z, Hid (w.heap.size = z) := ⟨_, rfl⟩
        rw [HWZ.out] at hconv HCB
        clear h2 HYES HNO HOK
        rcases hcase with ⟨hA, -⟩ | ⟨c, hka, hB1, hB2, hB3⟩ | ⟨c, hka, hB1, hB2, hB3, hB4⟩ <;> rcases hb1 with hC | ⟨hC1, hC2⟩
        all_goals
         go_wp2_with fail
         with_reducible refine (must_yes _ _).mono ?_
         rintro e w' ⟨rfl, rfl⟩
         go_wp2_with fail
         with_reducible refine (must_yes _ _).mono ?_
         rintro e w' ⟨rfl, rfl⟩
         go_wp2_with fail
         go_loop [4, 62] (fun tn ti => ∃ j : Nat, j <= k /\ ti = .int .i64 j /\ tn = .int .i64 (dval (s.take j) : Nat)) (fun _ ti => k - (intOf ti).toNat)
         case atStart => exact ⟨0, Nat.zero_le _, rfl, rfl⟩
         case round =>
          obtain ⟨j, hj, rfl, rfl⟩ := hrel
          have hD := dval_small HD.out (by rw [HN.out]; exact hk) h1b hj
          by_cases hlt : j < k
          · have hltI : (j : Int) < (k : Int) := by omega
            have cj := HCB.out j hlt
            have HDS : Hid (dval (s.take (j + 1)) = dval (s.take j) * 10 + ((bt s j).toNat - 48)) := dval_take s j (by rw [HN.out]; omega)
            have hdg := of_decide_eq_true ((isDg_nat _).symm.trans (HD.out j hlt))
            have hD2 := dval_small HD.out (by rw [HN.out]; exact hk) h1b (show j + 1 <= k by omega)
            obtain ⟨x, HXX⟩ : ∃ x : Nat, Hid ((bt s j).toNat = x) := ⟨_, rfl⟩
            obtain ⟨D, HDD⟩ : ∃ x : Nat, Hid (dval (s.take j) = x) := ⟨_, rfl⟩
            obtain ⟨D2, HD2⟩ : ∃ x : Nat, Hid (dval (s.take (j + 1)) = x) := ⟨_, rfl⟩
            rw [HXX.out] at cj hdg HDS
            rw [HDD.out] at hD HDS ⊢
            rw [HD2.out] at hD2 HDS
            have hdd := HDS.out
            have hu8 : IntKind.u8.wrap ((x : Int) - 48) = (x : Int) - 48 := by rw [IntKind.wrap_u8]; omega
            go_wp2_with fail
            go_round
            case rel => exact ⟨j + 1, by omega, by go_num, by rw [HD2.out]; first | rfl | go_num | (congr 1; omega)⟩
            case measure => simp [intOf]; omega
          · have hjk : j = k := by omega
            subst hjk
            have hnl : ¬ ((j : Int) < (j : Int)) := by omega
            clear hlt
            obtain ⟨D, HDD⟩ : ∃ x : Nat, Hid (dval (s.take j) = x) := ⟨_, rfl⟩
            rw [HDD.out] at hD HY ⊢
            go_wp2
            go_ret
            exact .inl ⟨D, s.drop j, HY.out, rfl, by rw [<- HB2.out]; exact HRB.out.set _, grown_trans HGB.out (grown_set _ _ _ _)⟩
      · have HF : Hid (numF s = none) := HNO.out (by rw [HOK.out]; exact decide_eq_false (fun h => h2 h.2.2))
        have hk1 : ((k : Int) == 1) = false := by
         have : ¬ ((k : Int) = 1) := fun e => h2 (.inl (by omega))
         simpa using this
        have hz48 : z = 48 := by
         rw [<- HZ.out]
         have : bt s 0 = 48 := Decidable.not_not.1 (fun e => h2 (.inr e))
         rw [this]
         rfl
        have hzI : (z : Int) = 48 := by omega
        clear h2 hz48
        rcases hcase with ⟨hA, -⟩ | ⟨c, hka, hB1, hB2, hB3⟩ | ⟨c, hka, hB1, hB2, hB3, hB4⟩
        all_goals
         go_wp2_with fail
         refine (must_yes _ _).mono ?_
         rintro e w' ⟨rfl, rfl⟩
         go_wp2_with fail
         refine (must_no _ _).mono ?_
         rintro e w' ⟨rfl, rfl⟩
         exact ⟨rfl, .inr ⟨HF.out, rfl, rfl⟩⟩
    · have HF : Hid (numF s = none) := HNO.out (by rw [HOK.out]; exact decide_eq_false (fun h => h1 ⟨h.1, h.2.1⟩))
      have hd2 : (decide ((0 : Int) < (k : Int)) && decide ((k : Int) <= 10)) = false := by
       by_cases h0 : 0 < k
       · rw [decide_eq_false (p := (k : Int) <= 10) (by omega)]; simp
       · rw [decide_eq_false (p := (0 : Int) < (k : Int)) (by omega)]; simp
      have hcase2 : ¬ ((0 : Int) < (k : Int)) ∨ ((0 : Int) < (k : Int) /\ ¬ ((k : Int) <= 10)) := by omega
      clear h1 hd2
      rcases hcase with ⟨hA, -⟩ | ⟨c, hka, hB1, hB2, hB3⟩ | ⟨c, hka, hB1, hB2, hB3, hB4⟩ <;> rcases hcase2 with hC | ⟨hC1, hC2⟩
      all_goals
       go_wp2_with fail
       refine (must_no _ _).mono ?_
       rintro e w' ⟨rfl, rfl⟩
       exact ⟨rfl, .inr ⟨HF.out, rfl, rfl⟩⟩
  · have hkn : k < n := by omega
    have hka : k < a.size := by rw [hn]; exact hkn
    have hkI : (k : Int) < (n : Int) := by omega
    have hf : isDg (bt s k) = true := by
     cases h : isDg (bt s k) with
     | true => rfl
     | false => exact absurd (.inr h) hnd
    have hf2 := of_decide_eq_true ((isDg_nat _).symm.trans hf)
    have hix : ((a[k]'hka).toNat : Int) = ((bt s k).toNat : Int) := by
     have e := HA.out
     subst e
     rw [txt_idx]
    have HD2 : Hid (∀ j, j < k + 1 -> isDg (bt s j) = true) := fun j hj => by
     rcases Nat.lt_succ_iff_lt_or_eq.1 hj with h1 | h1
     · exact HD.out j h1
     · rw [h1]; exact hf
    obtain ⟨c, HC⟩ : ∃ c : Nat, Hid ((bt s k).toNat = c) := ⟨_, rfl⟩
    rw [HC.out] at hf2 hix
    have hf3 : (48 : Int) <= c := by omega
    have hf4 : (c : Int) <= 57 := by omega
    clear hf hf2 hnd
    go_wp2_with fail
    go_round
    case rel => exact ⟨k + 1, by omega, by go_num, HD2.out⟩
    case measure => simp [intOf]; omega
theorem all_of {s : List UInt8} (h : ∀ j, j < s.length -> isDg (bt s j) = true) : s.all isDg = true := by
 rw [List.all_eq_true]
 intro c hc
 have := take_dg (s := s) (k := s.length) h (Nat.le_refl _) c (by rw [List.take_length]; exact hc)
 exact this
theorem all_bad {s : List UInt8} {j : Nat} (hj : j < s.length) (h : isDg (bt s j) = false) : s.all isDg = false := by
 rw [List.all_eq_false]
 refine ⟨bt s j, ?_, by rw [h]; simp⟩
 unfold bt
 rw [List.getD_eq_getElem?_getD, List.getElem?_eq_getElem hj]
 simp
set_option maxHeartbeats 2000000 in
theorem l1Int_any (s : List UInt8) (w : World) (hs : s.length <= 1000000000) :
 Calls Tryz.prog 23 #[.string (txt s)] w fun e w' => w' = w /\ ((∃ n : Nat, intF s = some n /\ e = .returned (.tuple #[.int .i64 n, .bool true])) ∨ (intF s = none /\ e = .returned (.tuple #[.int .i64 0, .bool false]))) := by
 have HS : Hid ((txt s).size = s.length) := txt_size s
 obtain ⟨a, HA⟩ : ∃ a, Hid (txt s = a) := ⟨_, rfl⟩
 obtain ⟨n, HN⟩ : ∃ n, Hid (s.length = n) := ⟨_, rfl⟩
 rw [HA.out]
 rw [HA.out, HN.out] at HS
 rw [HN.out] at hs
 have hn : a.size = n := HS.out
 have HNO : Hid (okDg s = false -> intF s = none) := fun h => by unfold intF; rw [if_neg (by rw [h]; simp)]
 have HOK : Hid (okDg s = decide (0 < n /\ n <= 10 /\ (n = 1 ∨ bt s 0 ≠ 48))) := by
  show _ = _
  unfold okDg
  rw [HN.out]
  have e : s.headD 0 = bt s 0 := by unfold bt; cases s <;> simp
  rw [e]
 by_cases h0 : n < 1
 · have HF : Hid (intF s = none) := HNO.out (by rw [HOK.out]; exact decide_eq_false (by omega))
   have h0I : (n : Int) < 1 := by omega
   go_enter Tryz.func23, Tryz.ntmps23
   go_wp2
   go_ret2
   exact ⟨rfl, .inr ⟨HF.out, rfl⟩⟩
 by_cases h1 : 10 < n
 · have HF : Hid (intF s = none) := HNO.out (by rw [HOK.out]; exact decide_eq_false (by omega))
   have h0I : ¬ ((n : Int) < 1) := by omega
   have h1I : (10 : Int) < n := by omega
   go_enter Tryz.func23, Tryz.ntmps23
   go_wp2
   go_ret2
   exact ⟨rfl, .inr ⟨HF.out, rfl⟩⟩
 have h0I : ¬ ((n : Int) < 1) := by omega
 have h1I : ¬ ((10 : Int) < n) := by omega
 have hz : 0 < a.size := by rw [hn]; omega
 have hz2 : (0 : Int) < n := by omega
 have hi0 : ((a[0]'hz).toNat : Int) = ((bt s 0).toNat : Int) := by
  have e := HA.out
  subst e
  rw [txt_idx]
 obtain ⟨z, HZ⟩ : ∃ z : Nat, Hid ((bt s 0).toNat = z) := ⟨_, rfl⟩
 rw [HZ.out] at hi0
 have hz48 : bt s 0 = 48 ↔ z = 48 := by
  rw [<- UInt8.toNat_inj, HZ.out]
  exact Iff.rfl
 by_cases h2 : z = 48 /\ 1 < n
 · have HF : Hid (intF s = none) := HNO.out (by rw [HOK.out]; exact decide_eq_false (fun h => by rcases h.2.2 with h | h; omega; exact h (hz48.2 h2.1)))
   have hzI : ((z : Int) == 48) = true := by simp; omega
   have hn1 : (1 : Int) < n := by omega
   clear hz48
   go_enter Tryz.func23, Tryz.ntmps23
   go_wp2
   go_ret2
   exact ⟨rfl, .inr ⟨HF.out, rfl⟩⟩
 have HY : Hid (okDg s = true) := by
  show _ = _
  rw [HOK.out]
  refine decide_eq_true ⟨by omega, by omega, ?_⟩
  by_cases hn1 : n = 1
  · exact .inl hn1
  · exact .inr (fun e => h2 ⟨hz48.1 e, by omega⟩)
 have hb : ((z : Int) == 48) = false ∨ (((z : Int) == 48) = true /\ ¬ ((1 : Int) < n)) := by
  by_cases hzz : z = 48
  · right
    exact ⟨by simp; omega, by omega⟩
  · left
    simp
    omega
 clear h2 hz48
 go_enter Tryz.func23, Tryz.ntmps23
 rcases hb with hb1 | ⟨hb1, hb2⟩
 all_goals
  go_wp2_with fail
  go_loop [4, 5] (fun tn ti => ∃ j : Nat, j <= n /\ ti = .int .i64 j /\ tn = .int .i64 (dval (s.take j) : Nat) /\ ∀ i, i < j -> isDg (bt s i) = true) (fun _ ti => n - (intOf ti).toNat)
  case atStart => exact ⟨0, Nat.zero_le _, rfl, rfl, fun i hi => absurd hi (Nat.not_lt_zero _)⟩
  case round =>
   obtain ⟨j, hj, rfl, rfl, hd⟩ := hrel
   have HD : Hid (∀ i, i < j -> isDg (bt s i) = true) := hd
   clear hd
   have hD := dval_small HD.out (by rw [HN.out]; exact hj) (by omega) (Nat.le_refl _)
   by_cases hlt : j < n
   · have hltI : (j : Int) < (n : Int) := by omega
     have hka : j < a.size := by rw [hn]; exact hlt
     have hix : ((a[j]'hka).toNat : Int) = ((bt s j).toNat : Int) := by
      have e := HA.out
      subst e
      rw [txt_idx]
     have HDS : Hid (dval (s.take (j + 1)) = dval (s.take j) * 10 + ((bt s j).toNat - 48)) := dval_take s j (by rw [HN.out]; omega)
     by_cases hdg : isDg (bt s j) = true
     · have HD2 : Hid (∀ i, i < j + 1 -> isDg (bt s i) = true) := fun i hi => by
        rcases Nat.lt_succ_iff_lt_or_eq.1 hi with h | h
        · exact HD.out i h
        · rw [h]; exact hdg
       have hD2 := dval_small HD2.out (by rw [HN.out]; omega) (by omega) (Nat.le_refl _)
       have hdd := of_decide_eq_true ((isDg_nat _).symm.trans hdg)
       obtain ⟨x, HXX⟩ : ∃ x : Nat, Hid ((bt s j).toNat = x) := ⟨_, rfl⟩
       obtain ⟨D, HDD⟩ : ∃ x : Nat, Hid (dval (s.take j) = x) := ⟨_, rfl⟩
       obtain ⟨E, HDE⟩ : ∃ x : Nat, Hid (dval (s.take (j + 1)) = x) := ⟨_, rfl⟩
       rw [HXX.out] at hix hdd HDS
       rw [HDD.out] at hD HDS ⊢
       rw [HDE.out] at hD2 HDS
       have hds := HDS.out
       have hu8 : IntKind.u8.wrap ((x : Int) - 48) = (x : Int) - 48 := by rw [IntKind.wrap_u8]; omega
       have hx1 : ¬ ((x : Int) < 48) := by omega
       have hx2 : ¬ ((57 : Int) < x) := by omega
       clear hdg hdd
       go_wp2_with fail
       go_round
       case rel => exact ⟨j + 1, by omega, by go_num, by rw [HDE.out]; first | rfl | go_num | (congr 1; omega), HD2.out⟩
       case measure => simp [intOf]; omega
     · have HF : Hid (intF s = none) := by
        show _ = _
        unfold intF
        rw [if_neg (fun h => by rw [all_bad (by rw [HN.out]; exact hlt) (by simpa using hdg)] at h; simp at h)]
       have hdd : ¬ (48 <= (bt s j).toNat /\ (bt s j).toNat <= 57) := fun h => hdg (by rw [isDg_nat]; exact decide_eq_true h)
       obtain ⟨x, HXX⟩ : ∃ x : Nat, Hid ((bt s j).toNat = x) := ⟨_, rfl⟩
       rw [HXX.out] at hix hdd
       have hx : (x : Int) < 48 ∨ (¬ ((x : Int) < 48) /\ (57 : Int) < x) := by omega
       clear hdg hdd
       generalize dval (s.take j) = D at *
       rcases hx with hx1 | ⟨hx1, hx2⟩
       all_goals
        go_wp2
        go_ret2
        exact ⟨rfl, .inr ⟨HF.out, rfl⟩⟩
   · have hjn : j = n := by omega
     have HF : Hid (intF s = some (dval (s.take j))) := by
      show _ = _
      unfold intF
      rw [if_pos ⟨HY.out, all_of (by rw [HN.out, <- hjn]; exact HD.out)⟩, hjn, <- HN.out, List.take_length]
     have hnl : ¬ ((j : Int) < (n : Int)) := by omega
     clear hjn
     generalize dval (s.take j) = D at *
     go_wp2
     go_ret2
     exact ⟨rfl, .inl ⟨D, HF.out, rfl⟩⟩
end Go.Proofs.YtcapkcallaajaaaGreatDoor
