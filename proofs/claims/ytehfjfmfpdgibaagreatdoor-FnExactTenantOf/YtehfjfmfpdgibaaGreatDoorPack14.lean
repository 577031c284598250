import Derived.Test.YtehfjfmfpdgibaaGreatDoorPack1
import Derived.Test.YtehfjfmfpdgibaaGreatDoorPack4
import Derived.Test.YtehfjfmfpdgibaaGreatDoorPack12
import Derived.Test.YtehfjfmfpdgibaaGreatDoorFrClone
import Derived.Deep.QuietTactic
import Derived.BigQuiet
namespace Go.Proofs.YtehfjfmfpdgibaaGreatDoor
open Go.RowKit
theorem isLetter_any (c : UInt8) (w : World) : Calls Tryz.prog 127 #[.int .u8 (c.toNat : Int)] w fun e w' => e = .returned (.bool (isLt c)) /\ w' = w := by
 obtain ⟨x, HX⟩ : ∃ x : Nat, Hid (c.toNat = x) := ⟨_, rfl⟩
 have HE : Hid (isLt c = decide (97 <= x /\ x <= 122)) := by show _ = _; rw [<- HX.out]; rfl
 rw [HE.out, HX.out]
 by_cases h1 : 97 <= x
 · have a1 : (97 : Int) <= (x : Int) := by omega
   by_cases h2 : x <= 122
   · have a2 : (x : Int) <= 122 := by omega
     rw [decide_eq_true ⟨h1, h2⟩]
     go_enter Tryz.func127, Tryz.ntmps127
     go_wp2
     go_ret
     exact ⟨rfl, rfl⟩
   · have a2 : ¬ ((x : Int) <= 122) := by omega
     rw [decide_eq_false (fun h => h2 h.2)]
     go_enter Tryz.func127, Tryz.ntmps127
     go_wp2
     go_ret
     exact ⟨rfl, rfl⟩
 · have a1 : ¬ ((97 : Int) <= (x : Int)) := by omega
   rw [decide_eq_false (fun h => h1 h.1)]
   go_enter Tryz.func127, Tryz.ntmps127
   go_wp2
   go_ret
   exact ⟨rfl, rfl⟩
theorem all_lt_of {s : List UInt8} (h : ∀ j, j < s.length -> isLt (bt s j) = true) : s.all isLt = true := List.all_eq_true.2 fun c hc => by
 obtain ⟨j, hj, e⟩ := List.getElem_of_mem hc
 have := h j hj
 unfold bt at this
 rw [List.getD_eq_getElem?_getD, List.getElem?_eq_getElem hj] at this
 rw [<- e]
 exact this
theorem all_lt_no {s : List UInt8} {j : Nat} (hj : j < s.length) (h : isLt (bt s j) = false) : s.all isLt = false := by
 cases hs : s.all isLt with
 | false => rfl
 | true =>
   have := List.all_eq_true.1 hs s[j] (List.getElem_mem hj)
   unfold bt at h
   rw [List.getD_eq_getElem?_getD, List.getElem?_eq_getElem hj] at h
   rw [<- this, <- h]
   rfl
set_option maxHeartbeats 1000000 in
theorem isName_any (s : List UInt8) (w : World) (hs : s.length <= 1000000000) : Calls Tryz.prog 80 #[.string (txt s)] w fun e w' => e = .returned (.bool (nmB s)) /\ Below w.heap.size w w' := by
 have HB : Hid (nmB s = (decide (1 <= s.length /\ s.length <= 12) && s.all isLt)) := rfl
 obtain ⟨n, HN⟩ := nmd s.length
 obtain ⟨b, HT⟩ := nmd (txt s)
 have hbs : b.size = n := by rw [<- HT.out, txt_size]; exact HN.out
 rw [HN.out] at HB hs
 have hin : inB (n : Int) 1 12 = decide (1 <= n /\ n <= 12) := by unfold inB; exact decide_eq_decide.2 (by omega)
 have HI := hdn (hin)
 clear hin
 rw [HT.out]
 by_cases h1 : 1 <= n /\ n <= 12
 · rw [decide_eq_true h1] at HI HB
   rw [Bool.true_and] at HB
   have hconv := Lib.run_convert_string_bytes (P := Tryz.prog) w 9 97 5 b Tryz.underlying9 Tryz.underlying97 Tryz.underlying5
   have HGB : Hid (Below w.heap.size w (Lib.bytesWorld w 5 b)) := ⟨rfl, rfl, rfl, by rw [Lib.bytesWorld_size]; omega, fun j hj => Lib.bytesWorld_at_old w _ b j hj⟩
   have HCB : Hid (∀ j, j < n -> (Lib.bytesWorld w 5 b).cell? ⟨w.heap.size, j, none⟩ = some (.int .u8 (bt s j).toNat)) := fun j hj => by
    have := Lib.bytesWorld_cell w 5 b j (by rw [hbs]; exact hj)
    rw [this, <- HT.out]
    rfl
   rw [hbs] at hconv
   generalize Lib.bytesWorld w 5 b = Wb at *
   generalize grownCap w n 0 5 = gc at *
   obtain ⟨wz, HWZ⟩ := nmd w.heap.size
   rw [HWZ.out] at hconv HCB
   have W1 := within_any (n : Int) 1 12 w
   rw [HI.out] at W1
   go_enter Tryz.func80, Tryz.ntmps80
   go_wp2_with (go_at_call 81; refine W1.mono ?_; rintro e w' ⟨rfl, rfl⟩)
   clear hconv W1
   go_loop [12] (fun t => ∃ k : Nat, k <= n /\ t = .int .i64 k /\ ∀ j, j < k -> isLt (bt s j) = true) (fun t => n - (intOf t).toNat)
   case atStart => exact ⟨0, Nat.zero_le _, rfl, fun j hj => absurd hj (Nat.not_lt_zero _)⟩
   case round =>
    obtain ⟨k, hk, rfl, hd⟩ := hrel
    have HD : Hid (∀ j, j < k -> isLt (bt s j) = true) := hd
    clear hd
    by_cases hlt : k < n
    · have hltI : (k : Int) < (n : Int) := by omega
      have ck := HCB.out k hlt
      have LT := isLetter_any (bt s k) Wb
      obtain ⟨x, HX⟩ := nmd (isLt (bt s k))
      rw [HX.out] at LT
      generalize ((bt s k).toNat : Int) = y at *
      cases x
      · have HF : Hid (nmB s = false) := by show _ = _; rw [HB.out]; exact all_lt_no (by rw [HN.out]; exact hlt) HX.out
        go_wp2_with (go_at_call 127; refine LT.mono ?_; rintro e w' ⟨rfl, rfl⟩)
        go_ret
        exact ⟨by rw [HF.out]; rfl, HGB.out⟩
      · have HD2 : Hid (∀ j, j < k + 1 -> isLt (bt s j) = true) := fun j hj => by
         by_cases e : j = k
         · rw [e]; exact HX.out
         · exact HD.out j (by omega)
        go_wp2_with (go_at_call 127; refine LT.mono ?_; rintro e w' ⟨rfl, rfl⟩)
        go_round
        case rel => exact ⟨k + 1, by omega, by first | rfl | go_num, HD2.out⟩
        case measure => simp [intOf]; omega
    · have hltI : ¬ ((k : Int) < (n : Int)) := by omega
      have HF : Hid (nmB s = true) := by show _ = _; rw [HB.out]; exact all_lt_of (fun j hj => HD.out j (by rw [HN.out] at hj; omega))
      go_wp2
      go_ret
      exact ⟨by rw [HF.out]; rfl, HGB.out⟩
 · rw [decide_eq_false h1] at HI HB
   rw [HB.out, Bool.false_and]
   have W1 := within_any (n : Int) 1 12 w
   rw [HI.out] at W1
   clear h1
   go_enter Tryz.func80, Tryz.ntmps80
   go_wp2_with (go_at_call 81; refine W1.mono ?_; rintro e w' ⟨rfl, rfl⟩)
   go_ret
   exact ⟨rfl, Below.refl _ _⟩
set_option maxHeartbeats 1000000 in
theorem l11First_any (s : List UInt8) (w : World) (hs : s.length <= 1048576) : Calls Tryz.prog 65 #[.string (txt s)] w fun e w' => e = .returned (.tuple #[.string (txt (fstF 10 s).1), .string (txt (fstF 10 s).2)]) /\ Below w.heap.size w w' := by
 obtain ⟨n, HN⟩ := nmd s.length
 obtain ⟨a, HA⟩ := nmd (txt s)
 have hn : a.size = n := by rw [<- HA.out, txt_size]; exact HN.out
 have HT := fun k => txt_take s k
 have HD := fun k => txt_drop s k
 rw [HN.out] at hs HD
 rw [HA.out] at HT HD ⊢
 obtain ⟨P1, HP1⟩ := nmd (txt (fstF 10 s).1)
 obtain ⟨P2, HP2⟩ := nmd (txt (fstF 10 s).2)
 rw [HP1.out, HP2.out]
 go_enter Tryz.func65, Tryz.ntmps65
 go_wp2_with fail
 go_loop [4] (fun t => ∃ k : Nat, k <= n /\ t = .int .i64 k /\ ∀ j, j < k -> bt s j ≠ 10) (fun t => n - (intOf t).toNat)
 case atStart => exact ⟨0, Nat.zero_le _, rfl, fun j hj => absurd hj (Nat.not_lt_zero _)⟩
 case round =>
  obtain ⟨k, hk, rfl, hd⟩ := hrel
  have HJ : Hid (∀ j, j < k -> bt s j ≠ 10) := hd
  clear hd
  by_cases hlt : k < n
  · have hltI : (k : Int) < (n : Int) := by omega
    have hka : k < a.size := by rw [hn]; exact hlt
    have hix : ((a[k]'hka).toNat : Int) = ((bt s k).toNat : Int) := by
     have e := HA.out
     subst e
     rw [txt_idx]
    obtain ⟨x, HX⟩ := nmd (bt s k).toNat
    rw [HX.out] at hix
    by_cases h1 : bt s k = 10
    · have hxb : ((x : Int) == 10) = true := by
       have : x = 10 := by rw [<- HX.out, h1]; rfl
       subst this
       rfl
      have HF : Hid (fstF 10 s = (s.take k, s.drop (k + 1))) := fstF_at s k (by rw [HN.out]; omega) HJ.out (.inr h1)
      have e1 : P1 = a.extract 0 k := by rw [HT, <- HP1.out, HF.out]
      have e2 : P2 = a.extract (k + 1) n := by rw [HD, <- HP2.out, HF.out]
      subst e1 e2
      clear h1
      have hne : ((k : Int) == (n : Int)) = false := by simp; omega
      have hw1 : IntKind.i64.wrap ((k : Int) + 1) = (k : Int) + 1 := by rw [IntKind.wrap_i64]; omega
      go_wp2_with fail
      go_quiet (fail)
      go_wp2
      go_ret2
      exact ⟨by rw [HT, HD]; rfl, below_drewN (Below.refl _ _) nq⟩
    · have hxb : ((x : Int) == 10) = false := by
       have : ¬ (x = 10) := fun e => h1 (by rw [<- UInt8.toNat_inj, HX.out, e]; rfl)
       simp
       omega
      have HJ2 : Hid (∀ j, j < k + 1 -> bt s j ≠ 10) := fun j hj => by
       by_cases e : j = k
       · rw [e]; exact h1
       · exact HJ.out j (by omega)
      clear h1
      have hw1 : IntKind.i64.wrap ((k : Int) + 1) = (k : Int) + 1 := by rw [IntKind.wrap_i64]; omega
      go_wp2_with fail
      go_round
      case rel => exact ⟨k + 1, by omega, by first | rfl | go_num, HJ2.out⟩
      case measure => simp [intOf]; omega
  · have hkn : k = n := by omega
    have hltI : ¬ ((k : Int) < (n : Int)) := by omega
    have HF : Hid (fstF 10 s = (s.take k, s.drop (k + 1))) := fstF_at s k (by rw [HN.out]; omega) HJ.out (.inl (by rw [HN.out]; exact hkn))
    have e1 : P1 = a := by rw [<- HP1.out, HF.out, <- HA.out, hkn, <- HN.out]; simp
    have e2 : P2 = ⟨#[]⟩ := by rw [<- HP2.out, HF.out, hkn, <- HN.out, List.drop_eq_nil_of_le (Nat.le_succ _)]; rfl
    have hne : ((k : Int) == (n : Int)) = true := by simp; omega
    subst e1 e2
    clear hkn
    go_wp2
    go_ret2
    exact ⟨rfl, Below.refl _ _⟩
set_option maxHeartbeats 1000000 in
theorem l11Name_any (s : List UInt8) (w : World) (hs : s.length <= 1000000000) : Calls Tryz.prog 75 #[.string (txt s)] w fun e w' => e = .returned (.bool (nmB s)) /\ w' = w := by
 have HB : Hid (nmB s = (decide (1 <= s.length /\ s.length <= 12) && s.all isLt)) := rfl
 obtain ⟨n, HN⟩ := nmd s.length
 obtain ⟨a, HA⟩ := nmd (txt s)
 have hn : a.size = n := by rw [<- HA.out, txt_size]; exact HN.out
 rw [HN.out] at HB hs
 rw [HA.out]
 by_cases h1 : 1 <= n
 · have a1 : ¬ ((n : Int) < 1) := by omega
   by_cases h2 : n <= 12
   · have a2 : ¬ ((12 : Int) < (n : Int)) := by omega
     rw [decide_eq_true ⟨h1, h2⟩, Bool.true_and] at HB
     go_enter Tryz.func75, Tryz.ntmps75
     go_wp2_with fail
     go_loop [3] (fun t => ∃ k : Nat, k <= n /\ t = .int .i64 k /\ ∀ j, j < k -> isLt (bt s j) = true) (fun t => n - (intOf t).toNat)
     case atStart => exact ⟨0, Nat.zero_le _, rfl, fun j hj => absurd hj (Nat.not_lt_zero _)⟩
     case round =>
      obtain ⟨k, hk, rfl, hd⟩ := hrel
      have HD : Hid (∀ j, j < k -> isLt (bt s j) = true) := hd
      clear hd
      by_cases hlt : k < n
      · have hltI : (k : Int) < (n : Int) := by omega
        have hka : k < a.size := by rw [hn]; exact hlt
        have hix : ((a[k]'hka).toNat : Int) = ((bt s k).toNat : Int) := by
         have e := HA.out
         subst e
         rw [txt_idx]
        obtain ⟨x, HX⟩ := nmd (bt s k).toNat
        rw [HX.out] at hix
        have hw1 : IntKind.i64.wrap ((k : Int) + 1) = (k : Int) + 1 := by rw [IntKind.wrap_i64]; omega
        by_cases g1 : x < 97
        · have b1 : (x : Int) < 97 := by omega
          have HF : Hid (nmB s = false) := by show _ = _; rw [HB.out]; exact all_lt_no (by rw [HN.out]; exact hlt) (by unfold isLt; rw [HX.out]; exact decide_eq_false (by omega))
          go_wp2
          go_ret
          exact ⟨by rw [HF.out]; rfl, rfl⟩
        · have b1 : ¬ ((x : Int) < 97) := by omega
          by_cases g2 : 122 < x
          · have b2 : (122 : Int) < (x : Int) := by omega
            have HF : Hid (nmB s = false) := by show _ = _; rw [HB.out]; exact all_lt_no (by rw [HN.out]; exact hlt) (by unfold isLt; rw [HX.out]; exact decide_eq_false (by omega))
            go_wp2
            go_ret
            exact ⟨by rw [HF.out]; rfl, rfl⟩
          · have b2 : ¬ ((122 : Int) < (x : Int)) := by omega
            have HD2 : Hid (∀ j, j < k + 1 -> isLt (bt s j) = true) := fun j hj => by
             by_cases e : j = k
             · rw [e]; unfold isLt; rw [HX.out]; exact decide_eq_true (by omega)
             · exact HD.out j (by omega)
            go_wp2_with fail
            go_round
            case rel => exact ⟨k + 1, by omega, by first | rfl | go_num, HD2.out⟩
            case measure => simp [intOf]; omega
      · have hltI : ¬ ((k : Int) < (n : Int)) := by omega
        have HF : Hid (nmB s = true) := by show _ = _; rw [HB.out]; exact all_lt_of (fun j hj => HD.out j (by rw [HN.out] at hj; omega))
        go_wp2
        go_ret
        exact ⟨by rw [HF.out]; rfl, rfl⟩
   · have a2 : (12 : Int) < (n : Int) := by omega
     rw [decide_eq_false (fun h => h2 h.2), Bool.false_and] at HB
     rw [HB.out]
     go_enter Tryz.func75, Tryz.ntmps75
     go_wp2
     go_ret
     exact ⟨rfl, rfl⟩
 · have a1 : (n : Int) < 1 := by omega
   rw [decide_eq_false (fun h => h1 h.1), Bool.false_and] at HB
   rw [HB.out]
   go_enter Tryz.func75, Tryz.ntmps75
   go_wp2
   go_ret
   exact ⟨rfl, rfl⟩
end Go.Proofs.YtehfjfmfpdgibaaGreatDoor
