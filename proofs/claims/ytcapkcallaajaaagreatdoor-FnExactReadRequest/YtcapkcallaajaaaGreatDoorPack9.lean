import Derived.Test.YtcapkcallaajaaaGreatDoorPack1
import Derived.Test.YtcapkcallaajaaaGreatDoorPack4
import Derived.Test.YtcapkcallaajaaaGreatDoorPack7
import Derived.Test.YtcapkcallaajaaaGreatDoorFrClone
import Derived.Deep.QuietTactic
import Derived.BigQuiet
namespace Go.Proofs.YtcapkcallaajaaaGreatDoor
open Go.RowKit
theorem hdn {p : Prop} (h : p) : Hid p := h
theorem isLetter_any (c : UInt8) (w : World) : Calls Tryz.prog 59 #[.int .u8 (c.toNat : Int)] w fun e w' => e = .returned (.bool (isLt c)) /\ w' = w := by
 obtain ⟨x, HX⟩ : ∃ x : Nat, Hid (c.toNat = x) := ⟨_, rfl⟩
 have HE : Hid (isLt c = decide (97 <= x /\ x <= 122)) := by show _ = _; rw [<- HX.out]; rfl
 rw [HE.out, HX.out]
 by_cases h1 : 97 <= x
 · have a1 : (97 : Int) <= (x : Int) := by omega
   by_cases h2 : x <= 122
   · have a2 : (x : Int) <= 122 := by omega
     rw [decide_eq_true ⟨h1, h2⟩]
     go_enter Tryz.func59, Tryz.ntmps59
     go_wp2
     go_ret
     exact ⟨rfl, rfl⟩
   · have a2 : ¬ ((x : Int) <= 122) := by omega
     rw [decide_eq_false (fun h => h2 h.2)]
     go_enter Tryz.func59, Tryz.ntmps59
     go_wp2
     go_ret
     exact ⟨rfl, rfl⟩
 · have a1 : ¬ ((97 : Int) <= (x : Int)) := by omega
   rw [decide_eq_false (fun h => h1 h.1)]
   go_enter Tryz.func59, Tryz.ntmps59
   go_wp2
   go_ret
   exact ⟨rfl, rfl⟩
theorem all_lt_of {s : List UInt8} (h : ∀ j, j < s.length -> isLt (bt s j) = true) : s.all isLt = true := List.all_eq_true.2 fun c hc => by
 obtain ⟨j, hj, e⟩ := List.getElem_of_mem hc
 have := h j hj
 unfold bt at this
 rw [List.getD_eq_getElem?_getD, List.getElem?_eq_getElem hj] at this
 rw [<- e]
 exact this
theorem all_lt_no {s : List UInt8} {j : Nat} (hj : j < s.length) (h : isLt (bt s j) = false) : s.all isLt = false := by
 cases hs : s.all isLt with
 | false => rfl
 | true =>
   have := List.all_eq_true.1 hs s[j] (List.getElem_mem hj)
   unfold bt at h
   rw [List.getD_eq_getElem?_getD, List.getElem?_eq_getElem hj] at h
   rw [<- this, <- h]
   rfl
set_option maxHeartbeats 1000000 in
theorem isName_any (s : List UInt8) (w : World) (hs : s.length <= 1000000000) : Calls Tryz.prog 60 #[.string (txt s)] w fun e w' => e = .returned (.bool (nmB s)) /\ Below w.heap.size w w' := by
 have HB : Hid (nmB s = (decide (1 <= s.length /\ s.length <= 12) && s.all isLt)) := rfl
 obtain ⟨n, HN⟩ := nmd s.length
 obtain ⟨b, HT⟩ := nmd (txt s)
 have hbs : b.size = n := by rw [<- HT.out, txt_size]; exact HN.out
 rw [HN.out] at HB hs
 have hin : inB (n : Int) 1 12 = decide (1 <= n /\ n <= 12) := by unfold inB; exact decide_eq_decide.2 (by omega)
 have HI := hdn (hin)
 clear hin
 rw [HT.out]
 by_cases h1 : 1 <= n /\ n <= 12
 · rw [decide_eq_true h1] at HI HB
   rw [Bool.true_and] at HB
   have hconv := Lib.run_convert_string_bytes (P := Tryz.prog) w 9 127 5 b Tryz.underlying9 Tryz.underlying127 Tryz.underlying5
   have HGB : Hid (Below w.heap.size w (Lib.bytesWorld w 5 b)) := ⟨rfl, rfl, rfl, by rw [Lib.bytesWorld_size]; omega, fun j hj => Lib.bytesWorld_at_old w _ b j hj⟩
   have HCB : Hid (∀ j, j < n -> (Lib.bytesWorld w 5 b).cell? ⟨w.heap.size, j, none⟩ = some (.int .u8 (bt s j).toNat)) := fun j hj => by
    have := Lib.bytesWorld_cell w 5 b j (by rw [hbs]; exact hj)
    rw [this, <- HT.out]
    rfl
   rw [hbs] at hconv
   generalize Lib.bytesWorld w 5 b = Wb at *
   generalize grownCap w n 0 5 = gc at *
   obtain ⟨wz, HWZ⟩ := nmd w.heap.size
   rw [HWZ.out] at hconv HCB
   have W1 := within_any (n : Int) 1 12 w
   rw [HI.out] at W1
   go_enter Tryz.func60, Tryz.ntmps60
   go_wp2_with (go_at_call 77; refine W1.mono ?_; rintro e w' ⟨rfl, rfl⟩)
   clear hconv W1
   go_loop [12] (fun t => ∃ k : Nat, k <= n /\ t = .int .i64 k /\ ∀ j, j < k -> isLt (bt s j) = true) (fun t => n - (intOf t).toNat)
   case atStart => exact ⟨0, Nat.zero_le _, rfl, fun j hj => absurd hj (Nat.not_lt_zero _)⟩
   case round =>
    obtain ⟨k, hk, rfl, hd⟩ := hrel
    have HD : Hid (∀ j, j < k -> isLt (bt s j) = true) := hd
    clear hd
    by_cases hlt : k < n
    · have hltI : (k : Int) < (n : Int) := by omega
      have ck := HCB.out k hlt
      have LT := isLetter_any (bt s k) Wb
      obtain ⟨x, HX⟩ := nmd (isLt (bt s k))
      rw [HX.out] at LT
      generalize ((bt s k).toNat : Int) = y at *
      cases x
      · have HF : Hid (nmB s = false) := by show _ = _; rw [HB.out]; exact all_lt_no (by rw [HN.out]; exact hlt) HX.out
        go_wp2_with (go_at_call 59; refine LT.mono ?_; rintro e w' ⟨rfl, rfl⟩)
        go_ret
        exact ⟨by rw [HF.out]; rfl, HGB.out⟩
      · have HD2 : Hid (∀ j, j < k + 1 -> isLt (bt s j) = true) := fun j hj => by
         by_cases e : j = k
         · rw [e]; exact HX.out
         · exact HD.out j (by omega)
        go_wp2_with (go_at_call 59; refine LT.mono ?_; rintro e w' ⟨rfl, rfl⟩)
        go_round
        case rel => exact ⟨k + 1, by omega, by first | rfl | go_num, HD2.out⟩
        case measure => simp [intOf]; omega
    · have hltI : ¬ ((k : Int) < (n : Int)) := by omega
      have HF : Hid (nmB s = true) := by show _ = _; rw [HB.out]; exact all_lt_of (fun j hj => HD.out j (by rw [HN.out] at hj; omega))
      go_wp2
      go_ret
      exact ⟨by rw [HF.out]; rfl, HGB.out⟩
 · rw [decide_eq_false h1] at HI HB
   rw [HB.out, Bool.false_and]
   have W1 := within_any (n : Int) 1 12 w
   rw [HI.out] at W1
   clear h1
   go_enter Tryz.func60, Tryz.ntmps60
   go_wp2_with (go_at_call 77; refine W1.mono ?_; rintro e w' ⟨rfl, rfl⟩)
   go_ret
   exact ⟨rfl, Below.refl _ _⟩
theorem tw_lt (s : List UInt8) (k : Nat) (hk : ∀ j, j < k -> isLt (bt s j) = true) (hl : k <= s.length) (hn : k = s.length ∨ isLt (bt s k) = false) : s.takeWhile isLt = s.take k := by
 induction s generalizing k with
 | nil => simp
 | cons c s ih =>
   cases k with
   | zero =>
     rcases hn with hn | hn
     · simp at hn
     · have : isLt c = false := hn
       simp [this]
   | succ k =>
     have h0 : isLt c = true := hk 0 (by omega)
     rw [List.takeWhile_cons, if_pos h0, List.take_succ_cons, ih k (fun j hj => hk (j + 1) (by omega)) (by simp at hl; omega) (by
      rcases hn with hn | hn
      · left; simp at hn; omega
      · right; exact hn)]
theorem RX.below {w w' : World} {q : Nat} {s : List UInt8} (h : RX w q s) (hb : Below w.heap.size w w') : RX w' q s := below_row hb (row_lt h) h
theorem grown_moreR {w W W' : World} {q : Nat} (h : w.grownBy W (some q)) (hb : Below W.heap.size W W') : w.grownBy W' (some q) :=
 ⟨hb.os.trans h.os, hb.tape.trans h.tape, hb.output.trans h.output, Nat.le_trans h.size hb.size, fun k hk hne => (hb.block k (Nat.lt_of_lt_of_le hk h.size)).trans (h.block k hk hne)⟩
def NamedOk (w : World) (q : Nat) (o : Option (List UInt8 × List Int × List UInt8)) (e : Ending) (w' : World) : Prop :=
 (∃ nm l r sl, o = some (nm, l, r) /\ e = .returned (.tuple #[.string (txt nm), sl]) /\ RX w' q r /\ w.grownBy w' (some q) /\ w'.ownsRow w.heap.size 2 1 sl l.length (l.map (Value.int .i64))) ∨ (o = none /\ e = .panicked GV /\ w.grownBy w' (some q))
set_option maxRecDepth 10000 in
set_option maxHeartbeats 2000000 in
theorem named_any (q k2 : Nat) (s wd : List UInt8) (w : World) (h : RX w q s) (hs : s.length <= 1000000000) (hwd : wd.length <= 1000) (hk2 : k2 <= 900) :
 Calls Tryz.prog 32 #[.pointer (some ⟨q, 0, none⟩), .string (txt wd), .int .i64 (k2 : Int)] w (NamedOk w q (namedF wd k2 s)) := by
 have HR := hdn (h)
 clear h
 have HT : Hid (txt (wd ++ [32]) = txt wd ++ ByteArray.mk #[32]) := by show _ = _; rw [<- txt_app]; rfl
 have hst : (txt wd).size <= 1000 := by rw [txt_size]; exact hwd
 have h32 : (ByteArray.mk #[32]).size = 1 := rfl
 have HWL : Hid ((wd ++ [32]).length = wd.length + 1) := by show _ = _; simp
 cases hp : (wd ++ [32]).isPrefixOf s
 · have C1 := take_no q s (wd ++ [32]) w HR.out (by omega) hp
   have HF : Hid (namedF wd k2 s = none) := by show _ = _; unfold namedF; rw [hp]; rfl
   rw [HT.out] at C1
   clear hp HT HWL
   generalize txt wd = a at *
   go_enter Tryz.func32, Tryz.ntmps32
   go_wp2_with (go_at_call 58; refine C1.mono ?_; rintro e w' ⟨rfl, rfl⟩)
   exact ⟨rfl, .inr ⟨HF.out, rfl, grown_refl _ _⟩⟩
 · have C1 := take_yes q s (wd ++ [32]) w HR.out (by omega) hp
   rw [HT.out, HWL.out] at C1
   have HF : Hid (namedF wd k2 s = if nmB ((s.drop (wd.length + 1)).takeWhile isLt) = true then (match numsF k2 ((s.drop (wd.length + 1)).drop ((s.drop (wd.length + 1)).takeWhile isLt).length) with | none => none | some (l, r) => some ((s.drop (wd.length + 1)).takeWhile isLt, l, r)) else none) := by show _ = _; unfold namedF; rw [hp]; rfl
   have htl : (s.drop (wd.length + 1)).length <= 1000000000 := by rw [List.length_drop]; omega
   clear hp HT HWL
   generalize s.drop (wd.length + 1) = t at *
   generalize txt wd = a0 at *
   go_enter Tryz.func32, Tryz.ntmps32
   go_wp2_with fail
   refine C1.mono ?_
   rintro e w2 ⟨rfl, hr2, hg2⟩
   have R2 : Hid (RX w2 q t) := hr2
   have G2 : Hid (w.grownBy w2 (some q)) := hg2
   have c0 := hr2.cell
   have HS : Hid ((txt t).size = t.length) := txt_size t
   clear hr2 hg2 C1 HR hst h32
   obtain ⟨a, HA⟩ := nmd (txt t)
   obtain ⟨n, HN⟩ := nmd t.length
   rw [HA.out] at c0 HS
   rw [HN.out] at HS htl
   have hn : a.size = n := HS.out
   go_wp2_with fail
   go_loop [8] (fun t8 => ∃ k : Nat, k <= n /\ t8 = .int .i64 k /\ ∀ j, j < k -> isLt (bt t j) = true) (fun t8 => n - (intOf t8).toNat)
   case atStart => exact ⟨0, Nat.zero_le _, rfl, fun j hj => absurd hj (Nat.not_lt_zero _)⟩
   case round =>
    obtain ⟨k, hk, rfl, hd⟩ := hrel
    have HD : Hid (∀ j, j < k -> isLt (bt t j) = true) := hd
    clear hd
    by_cases hgo : k < n /\ isLt (bt t k) = true
    · obtain ⟨hlt, hy⟩ := hgo
      have hltI : (k : Int) < (n : Int) := by omega
      have hka : k < a.size := by rw [hn]; exact hlt
      have hix : ((a[k]'hka).toNat : Int) = ((bt t k).toNat : Int) := by
       have e := HA.out
       subst e
       rw [txt_idx]
      have LT := isLetter_any (bt t k) w2
      rw [hy] at LT
      have HD2 : Hid (∀ j, j < k + 1 -> isLt (bt t j) = true) := fun j hj => by
       by_cases e : j = k
       · rw [e]; exact hy
       · exact HD.out j (by omega)
      clear hy
      generalize ((bt t k).toNat : Int) = y at *
      go_wp2_with (go_at_call 59; refine LT.mono ?_; rintro e w' ⟨rfl, rfl⟩)
      go_round
      case rel => exact ⟨k + 1, by omega, by first | rfl | go_num, HD2.out⟩
      case measure => simp [intOf]; omega
    · have hnd : k = n ∨ isLt (bt t k) = false := by
       by_cases e : k < n
       · right
         cases hx : isLt (bt t k) with
         | false => rfl
         | true => exact absurd ⟨e, hx⟩ hgo
       · left; omega
      have HTW : Hid (t.takeWhile isLt = t.take k) := tw_lt t k HD.out (by rw [HN.out]; exact hk) (by rw [HN.out]; exact hnd)
      have HTL : Hid ((t.take k).length = k) := by show _ = _; rw [List.length_take, HN.out]; omega
      have hcase : (¬ ((k : Int) < (n : Int)) /\ k = n) ∨ (∃ (hka : k < a.size) (c : UInt8), (k : Int) < (n : Int) /\ ((a[k]'hka).toNat : Int) = (c.toNat : Int) /\ isLt c = false) := by
       by_cases e : k < n
       · right
         have hka : k < a.size := by rw [hn]; exact e
         refine ⟨hka, bt t k, by omega, ?_, by rcases hnd with h | h; omega; exact h⟩
         have e := HA.out
         subst e
         rw [txt_idx]
       · left; exact ⟨by omega, by omega⟩
      rw [HTW.out, HTL.out] at HF
      obtain ⟨b, HB⟩ := nmd (txt (t.take k))
      have hex : a.extract 0 k = b := by rw [<- HA.out, txt_take]; exact HB.out
      have IN := isName_any (t.take k) w2 (by rw [HTL.out]; omega)
      obtain ⟨nb, HNB⟩ := nmd (nmB (t.take k))
      rw [HNB.out] at HF IN
      rw [HB.out] at IN
      clear hgo hnd HS
      have HN3 : Hid (nb = false -> namedF wd k2 s = none) := fun h => by rw [HF.out, h]; rfl
      have HY3 : Hid (nb = true -> namedF wd k2 s = (match numsF k2 (t.drop k) with | none => none | some (l, r) => some (t.take k, l, r))) := fun h => by rw [HF.out, h]; rfl
      have HPX : Hid ((t.take k).isPrefixOf t = true) := by show _ = _; rw [List.isPrefixOf_iff_prefix]; exact List.take_prefix _ _
      have HDL : Hid ((t.drop k).length <= 1000000000) := by show _ <= _; rw [List.length_drop, HN.out]; omega
      have hbs : b.size <= 1000000000 := by rw [<- HB.out, txt_size, HTL.out]; omega
      clear HF HTW HD
      rcases hcase with ⟨hA, -⟩ | ⟨hka, c, hB1, hB2, hB3⟩
      rotate_left
      have LT := isLetter_any c w2
      rw [hB3] at LT
      clear hB3
      generalize (c.toNat : Int) = y at *
      all_goals
       go_wp2_with (go_at_call 59; refine LT.mono ?_; rintro e w' ⟨rfl, rfl⟩)
       refine IN.mono ?_
       rintro e w3 ⟨rfl, hb⟩
       have R3 := hdn (R2.out.below hb)
       have G3 := hdn (grown_moreR G2.out hb)
       clear hb IN
       cases nb
       · go_wp2_with fail
         refine (must_no _ _).mono ?_
         rintro e w' ⟨rfl, rfl⟩
         exact ⟨rfl, .inr ⟨HN3.out (by first | rfl | trivial), rfl, G3.out⟩⟩
       · go_wp2_with fail
         refine (must_yes _ _).mono ?_
         rintro e w' ⟨rfl, rfl⟩
         have C4 := take_yes q t (t.take k) _ R3.out (by rw [HN.out]; omega) HPX.out
         rw [HB.out, HTL.out] at C4
         go_wp2_with fail
         refine C4.mono ?_
         rintro e w4 ⟨rfl, hr4, hg4⟩
         have R4 := hdn (hr4)
         have G4 := hdn (grown_trans G3.out hg4)
         clear hr4 hg4 C4 R3 G3
         have C5 := strClone_any b w4 (by omega)
         go_wp2_with fail
         refine C5.mono ?_
         rintro e w5 ⟨rfl, hb⟩
         have R5 := hdn (R4.out.below hb)
         have G5 := hdn (grown_moreR G4.out hb)
         clear hb C5 R4 G4
         have C6 := numbers_any q k2 (t.drop k) w5 R5.out HDL.out hk2
         go_wp2_with fail
         refine C6.mono ?_
         rintro e w6 (⟨l, r, sl, hl, rfl, hr6, hg6, ho6⟩ | ⟨hl, rfl, hg6⟩)
         · have HL : Hid (namedF wd k2 s = some (t.take k, l, r)) := by show _ = _; rw [HY3.out (by first | rfl | trivial), hl]
           have R6 := hdn (hr6)
           have G6 := hdn (grown_trans G5.out hg6)
           have O6 := hdn (owns_base ho6 G5.out.size)
           clear hl hr6 hg6 ho6 C6
           go_wp2
           go_ret2
           exact .inl ⟨t.take k, l, r, sl, HL.out, by rw [HB.out]; rfl, R6.out, G6.out, O6.out⟩
         · exact ⟨rfl, .inr ⟨by rw [HY3.out (by first | rfl | trivial), hl], rfl, grown_trans G5.out hg6⟩⟩
theorem cells12q {w : World} {k : Nat} {c0 c1 c2 c3 c4 c5 c6 c7 c8 c9 c10 c11 : Value} {T : TypeId} (r : w.heap[k]? = some (.cells #[c0, c1, c2, c3, c4, c5, c6, c7, c8, c9, c10, c11] T (0, 0))) :
 w.cell? ⟨k, 0, none⟩ = some c0 /\ w.cell? ⟨k, 1, none⟩ = some c1 /\ w.cell? ⟨k, 2, none⟩ = some c2 /\ w.cell? ⟨k, 3, none⟩ = some c3 /\ w.cell? ⟨k, 4, none⟩ = some c4 /\ w.cell? ⟨k, 5, none⟩ = some c5 /\ w.cell? ⟨k, 6, none⟩ = some c6 /\ w.cell? ⟨k, 7, none⟩ = some c7 /\ w.cell? ⟨k, 8, none⟩ = some c8 /\ w.cell? ⟨k, 9, none⟩ = some c9 /\ w.cell? ⟨k, 10, none⟩ = some c10 /\ w.cell? ⟨k, 11, none⟩ = some c11 := by
 refine ⟨?_, ?_, ?_, ?_, ?_, ?_, ?_, ?_, ?_, ?_, ?_, ?_⟩
 · have := cell_of_row _ _ 0 _ _ _ r; simpa using this
 · have := cell_of_row _ _ 1 _ _ _ r; simpa using this
 · have := cell_of_row _ _ 2 _ _ _ r; simpa using this
 · have := cell_of_row _ _ 3 _ _ _ r; simpa using this
 · have := cell_of_row _ _ 4 _ _ _ r; simpa using this
 · have := cell_of_row _ _ 5 _ _ _ r; simpa using this
 · have := cell_of_row _ _ 6 _ _ _ r; simpa using this
 · have := cell_of_row _ _ 7 _ _ _ r; simpa using this
 · have := cell_of_row _ _ 8 _ _ _ r; simpa using this
 · have := cell_of_row _ _ 9 _ _ _ r; simpa using this
 · have := cell_of_row _ _ 10 _ _ _ r; simpa using this
 · have := cell_of_row _ _ 11 _ _ _ r; simpa using this
theorem cells3q {w : World} {k : Nat} {c0 c1 c2 : Value} {T : TypeId} (r : w.heap[k]? = some (.cells #[c0, c1, c2] T (0, 0))) : w.cell? ⟨k, 0, none⟩ = some c0 /\ w.cell? ⟨k, 1, none⟩ = some c1 /\ w.cell? ⟨k, 2, none⟩ = some c2 := by
 refine ⟨?_, ?_, ?_⟩
 · have := cell_of_row _ _ 0 _ _ _ r; simpa using this
 · have := cell_of_row _ _ 1 _ _ _ r; simpa using this
 · have := cell_of_row _ _ 2 _ _ _ r; simpa using this
theorem cells1q {w : World} {k : Nat} {c0 : Value} {T : TypeId} (r : w.heap[k]? = some (.cells #[c0] T (0, 0))) : w.cell? ⟨k, 0, none⟩ = some c0 := by
 have := cell_of_row _ _ 0 _ _ _ r
 simpa using this
theorem isNoCase_yes (w : World) : Calls Tryz.prog 83 #[.agg #[.int .i64 0, .slice none 0 0, .slice none 0 0, .slice none 0 0, .int .i64 0]] w fun e w' => e = .returned (.bool true) /\ Below w.heap.size w w' := by
 obtain ⟨d0, d1, d2, d3, d4⟩ := cells5 (heap_alloc_new w (.cells #[.int .i64 0, .slice none 0 0, .slice none 0 0, .slice none 0 0, .int .i64 0] 28))
 have HB : Hid _ := (Below.refl w.heap.size w).alloc (Nat.le_refl _) (.cells #[.int .i64 0, .slice none 0 0, .slice none 0 0, .slice none 0 0, .int .i64 0] 28)
 go_enter Tryz.func83, Tryz.ntmps83
 go_wp2
 go_ret
 exact ⟨rfl, HB.out⟩
set_option maxRecDepth 10000 in
theorem isBare_yes (k : Int) (nm : ByteArray) (w : World) : Calls Tryz.prog 68 #[.agg #[.int .i64 k, .string nm, .int .i64 0, .int .i64 0, .int .i64 0, .int .i64 0, .slice none 0 0, .slice none 0 0, .slice none 0 0, .int .i64 0, .slice none 0 0, .slice none 0 0]] w fun e w' => e = .returned (.bool true) /\ Below w.heap.size w w' := by
 have R0 : Hid ((w.alloc (.cells #[.int .i64 k, .string nm, .int .i64 0, .int .i64 0, .int .i64 0, .int .i64 0, .slice none 0 0, .slice none 0 0, .slice none 0 0, .int .i64 0, .slice none 0 0, .slice none 0 0] 33)).heap[w.heap.size]? = some (.cells #[.int .i64 k, .string nm, .int .i64 0, .int .i64 0, .int .i64 0, .int .i64 0, .slice none 0 0, .slice none 0 0, .slice none 0 0, .int .i64 0, .slice none 0 0, .slice none 0 0] 33 (0, 0))) := heap_alloc_new _ _
 have HB := hdn ((Below.refl w.heap.size w).alloc (Nat.le_refl _) (.cells #[.int .i64 k, .string nm, .int .i64 0, .int .i64 0, .int .i64 0, .int .i64 0, .slice none 0 0, .slice none 0 0, .slice none 0 0, .int .i64 0, .slice none 0 0, .slice none 0 0] 33))
 obtain ⟨d0, d1, d2, d3, d4, d5, d6, d7, d8, d9, d10, d11⟩ := cells12q R0.out
 go_enter Tryz.func68, Tryz.ntmps68
 go_wp2_with fail
 clear d0 d1 d2 d3 d4 d5 d6 d7 d8 d9 d10 d11
 generalize (w.alloc (.cells #[.int .i64 k, .string nm, .int .i64 0, .int .i64 0, .int .i64 0, .int .i64 0, .slice none 0 0, .slice none 0 0, .slice none 0 0, .int .i64 0, .slice none 0 0, .slice none 0 0] 33)) = W0 at *
 refine (isNoCase_yes W0).mono ?_
 rintro e w1 ⟨rfl, hb⟩
 obtain ⟨d0, d1, d2, d3, d4, d5, d6, d7, d8, d9, d10, d11⟩ := cells12q (below_row hb (row_lt R0.out) R0.out)
 have HB1 := hdn (HB.out.trans (hb.mono HB.out.size))
 clear hb
 go_wp2
 go_ret
 exact ⟨rfl, HB1.out⟩
theorem isId_any (x : Int) (w : World) : Calls Tryz.prog 108 #[.int .i64 x] w fun e w' => e = .returned (.bool (inB x 1 1000000000)) /\ w' = w := by
 have C := within_any x 1 1000000000 w
 generalize inB x 1 1000000000 = b at *
 go_enter Tryz.func108, Tryz.ntmps108
 go_wp2_with (go_at_call 77; refine C.mono ?_; rintro e w' ⟨rfl, rfl⟩)
 go_ret
 exact ⟨rfl, rfl⟩
theorem isSeedQ_any (x : Int) (w : World) : Calls Tryz.prog 113 #[.int .i64 x] w fun e w' => e = .returned (.bool (inB x 0 2147483647)) /\ w' = w := by
 have C := within_any x 0 2147483647 w
 generalize inB x 0 2147483647 = b at *
 go_enter Tryz.func113, Tryz.ntmps113
 go_wp2_with (go_at_call 77; refine C.mono ?_; rintro e w' ⟨rfl, rfl⟩)
 go_ret
 exact ⟨rfl, rfl⟩
theorem formSnap_yes (n fine : Int) (a ao av : Option Addr) (cap ko co kv cv : Nat) (zs os vs : List Int) (w : World) (hA : IntsAt w a zs) (hO : IntsAt w ao os) (hV : IntsAt w av vs) (hlo : os.length = ko * 6) (hlv : vs.length = kv * 5) (hko : ko <= 9223372036854775807) (hkv : kv <= 9223372036854775807) (hok : caseB n zs os vs ko kv fine = true) :
 Calls Tryz.prog 104 #[.agg #[.int .i64 n, .slice a zs.length cap, .slice ao ko co, .slice av kv cv, .int .i64 fine]] w fun e w' => e = .returned (.bool true) /\ Below w.heap.size w w' := by
 have HB := hdn ((Below.refl w.heap.size w).alloc (Nat.le_refl _) (.cells #[.int .i64 n, .slice a zs.length cap, .slice ao ko co, .slice av kv cv, .int .i64 fine] 109))
 obtain ⟨d0, d1, d2, d3, d4⟩ := cells5 (heap_alloc_new w (.cells #[.int .i64 n, .slice a zs.length cap, .slice ao ko co, .slice av kv cv, .int .i64 fine] 109))
 have C := implCase_any n fine a ao av cap ko co kv cv zs os vs _ (hA.below HB.out) (hO.below HB.out) (hV.below HB.out) hlo hlv hko hkv
 rw [hok] at C
 go_enter Tryz.func104, Tryz.ntmps104
 go_wp2_with fail
 clear d0 d1 d2 d3 d4
 refine C.mono ?_
 rintro e w1 ⟨rfl, hb⟩
 have HB1 := hdn (HB.out.trans (hb.mono HB.out.size))
 clear hb C
 go_wp2
 go_ret
 exact ⟨rfl, HB1.out⟩
theorem formPlan_any (id : Int) (ra la : Option Addr) (rc lc : Nat) (R : List RT) (L : List Int) (w : World) (hR : RoutesAt w ra R) (hL : IntsAt w la L) (hn : R.length <= 1048576) (hl : L.length <= 1048576) (hi : ∀ r ∈ R, r.ids.length <= 1048576) (hf : formB R L = true) :
 Calls Tryz.prog 106 #[.agg #[.int .i64 id, .slice ra R.length rc, .slice la L.length lc]] w fun e w' => e = .returned (.bool (inB id 1 1000000000)) /\ Below w.heap.size w w' := by
 have HB := hdn ((Below.refl w.heap.size w).alloc (Nat.le_refl _) (.cells #[.int .i64 id, .slice ra R.length rc, .slice la L.length lc] 111))
 obtain ⟨d0, d1, d2⟩ := cells3q (heap_alloc_new w (.cells #[.int .i64 id, .slice ra R.length rc, .slice la L.length lc] 111))
 have C := canBe_any ra la rc lc R L _ (hR.below HB.out) (hL.below HB.out) hn hl hi
 rw [hf] at C
 have I := isId_any id (w.alloc (.cells #[.int .i64 id, .slice ra R.length rc, .slice la L.length lc] 111))
 obtain ⟨x, HX⟩ := nmd (inB id 1 1000000000)
 rw [HX.out] at I ⊢
 clear hR hL hn hl hi hf
 go_enter Tryz.func106, Tryz.ntmps106
 go_wp2_with fail
 generalize (w.alloc (.cells #[.int .i64 id, .slice ra R.length rc, .slice la L.length lc] 111)) = W0 at *
 refine I.mono ?_
 rintro e w' ⟨rfl, hw⟩
 subst w'
 cases x
 · go_wp2_with fail
   go_ret
   exact ⟨rfl, HB.out⟩
 · go_wp2_with fail
   clear d0 d1 d2
   refine C.mono ?_
   rintro e w1 ⟨rfl, hb⟩
   have HB1 := hdn (HB.out.trans (hb.mono HB.out.size))
   clear hb C
   go_wp2
   go_ret
   exact ⟨rfl, HB1.out⟩
theorem formSearch_any (id sd st : Int) (w : World) : Calls Tryz.prog 111 #[.agg #[.int .i64 id, .int .i64 sd, .int .i64 st]] w fun e w' => e = .returned (.bool (inB id 1 1000000000 && (inB sd 0 2147483647 && inB st 0 60))) /\ Below w.heap.size w w' := by
 have HB := hdn ((Below.refl w.heap.size w).alloc (Nat.le_refl _) (.cells #[.int .i64 id, .int .i64 sd, .int .i64 st] 113))
 obtain ⟨d0, d1, d2⟩ := cells3q (heap_alloc_new w (.cells #[.int .i64 id, .int .i64 sd, .int .i64 st] 113))
 have I := isId_any id (w.alloc (.cells #[.int .i64 id, .int .i64 sd, .int .i64 st] 113))
 have J := isSeedQ_any sd (w.alloc (.cells #[.int .i64 id, .int .i64 sd, .int .i64 st] 113))
 have K := within_any st 0 60 (w.alloc (.cells #[.int .i64 id, .int .i64 sd, .int .i64 st] 113))
 generalize inB id 1 1000000000 = x at *
 generalize inB sd 0 2147483647 = y at *
 generalize inB st 0 60 = z at *
 go_enter Tryz.func111, Tryz.ntmps111
 go_wp2_with fail
 generalize (w.alloc (.cells #[.int .i64 id, .int .i64 sd, .int .i64 st] 113)) = W0 at *
 refine I.mono ?_
 rintro e w' ⟨rfl, hw⟩
 subst w'
 cases x
 · go_wp2_with fail
   go_ret
   exact ⟨rfl, HB.out⟩
 · go_wp2_with fail
   refine J.mono ?_
   rintro e w' ⟨rfl, hw⟩
   subst w'
   cases y
   · go_wp2_with fail
     go_ret
     exact ⟨rfl, HB.out⟩
   · go_wp2_with fail
     refine K.mono ?_
     rintro e w' ⟨rfl, hw⟩
     subst w'
     go_wp2_with fail
     go_ret
     exact ⟨by first | rfl | simp, HB.out⟩
theorem formPublish_any (id : Int) (w : World) : Calls Tryz.prog 114 #[.agg #[.int .i64 id]] w fun e w' => e = .returned (.bool (inB id 1 1000000000)) /\ Below w.heap.size w w' := by
 have HB := hdn ((Below.refl w.heap.size w).alloc (Nat.le_refl _) (.cells #[.int .i64 id] 115))
 have d0 := cells1q (heap_alloc_new w (.cells #[.int .i64 id] 115))
 have I := isId_any id (w.alloc (.cells #[.int .i64 id] 115))
 generalize inB id 1 1000000000 = x at *
 go_enter Tryz.func114, Tryz.ntmps114
 go_wp2_with fail
 generalize (w.alloc (.cells #[.int .i64 id] 115)) = W0 at *
 refine I.mono ?_
 rintro e w' ⟨rfl, hw⟩
 subst w'
 go_wp2_with fail
 go_ret
 exact ⟨rfl, HB.out⟩
theorem formSweep_any (w : World) : Calls Tryz.prog 116 #[.agg #[]] w fun e w' => e = .returned (.bool true) /\ Below w.heap.size w w' := by
 go_enter Tryz.func116, Tryz.ntmps116
 go_wp2_with fail
 go_ret
 exact ⟨rfl, by first | exact Below.refl _ _ | exact (Below.refl _ _).alloc (Nat.le_refl _) _⟩
theorem methQ1 (d : Nat) (v : Value) (w : World) : (method (d + 1) 109 v "loop.example/g00265/impl.formOk").run Tryz.prog w = .ok (104, v) w := by kernel_rfl
theorem methQ2 (d : Nat) (v : Value) (w : World) : (method (d + 1) 111 v "loop.example/g00265/impl.formOk").run Tryz.prog w = .ok (106, v) w := by kernel_rfl
theorem methQ3 (d : Nat) (v : Value) (w : World) : (method (d + 1) 113 v "loop.example/g00265/impl.formOk").run Tryz.prog w = .ok (111, v) w := by kernel_rfl
theorem methQ4 (d : Nat) (v : Value) (w : World) : (method (d + 1) 115 v "loop.example/g00265/impl.formOk").run Tryz.prog w = .ok (114, v) w := by kernel_rfl
theorem methQ5 (d : Nat) (v : Value) (w : World) : (method (d + 1) 116 v "loop.example/g00265/impl.formOk").run Tryz.prog w = .ok (116, v) w := by kernel_rfl
def GE (w : World) : Prop := ∃ T v, w.cell? ⟨0, 0, none⟩ = some (.iface T v)
theorem GE.below {w w' : World} {B : Nat} (h : GE w) (hb : Below B w w') (hB : w.heap.size <= B) : GE w' := by
 obtain ⟨T, v, hc⟩ := h
 exact ⟨T, v, (hb.cell (p := ⟨0, 0, none⟩) (by have := block_lt_of_cell hc; simp only at this ⊢; omega)).trans hc⟩
def AskOk (w : World) (b : Bool) (e : Ending) (w' : World) : Prop := ∃ av ev, e = .returned (.tuple #[av, ev]) /\ Below w.heap.size w w' /\ ((b = true /\ ev = Value.nilIface) ∨ (b = false /\ ∃ T v, ev = .iface T v))
set_option maxRecDepth 10000 in
set_option maxHeartbeats 400000 in
theorem askSnap_any (n fine : Int) (a ao av : Option Addr) (zl cap ko co kv cv : Nat) (zs os vs : List Int) (nm : List UInt8) (w : World) (hA : IntsAt w a zs) (hO : IntsAt w ao os) (hV : IntsAt w av vs) (hlz : zs.length = zl) (hlo : os.length = ko * 6) (hlv : vs.length = kv * 5) (hko : ko <= 9223372036854775807) (hkv : kv <= 9223372036854775807) (hok : caseB n zs os vs ko kv fine = true) (hn : nmB nm = true) (hl : nm.length <= 1000000000) :
 Calls Tryz.prog 35 #[.agg #[.int .i64 1, .string (txt nm), .int .i64 0, .int .i64 0, .int .i64 0, .int .i64 n, .slice a zl cap, .slice ao ko co, .slice av kv cv, .int .i64 fine, .slice none 0 0, .slice none 0 0]] w (AskOk w true) := by
 have R0 : Hid ((w.alloc (.cells #[.int .i64 1, .string (txt nm), .int .i64 0, .int .i64 0, .int .i64 0, .int .i64 n, .slice a zl cap, .slice ao ko co, .slice av kv cv, .int .i64 fine, .slice none 0 0, .slice none 0 0] 33)).heap[w.heap.size]? = some (.cells #[.int .i64 1, .string (txt nm), .int .i64 0, .int .i64 0, .int .i64 0, .int .i64 n, .slice a zl cap, .slice ao ko co, .slice av kv cv, .int .i64 fine, .slice none 0 0, .slice none 0 0] 33 (0, 0))) := heap_alloc_new _ _
 obtain ⟨d0, d1, d2, d3, d4, d5, d6, d7, d8, d9, d10, d11⟩ := cells12q R0.out
 have HB := hdn (((Below.refl w.heap.size w).alloc (Nat.le_refl _) (.cells #[.int .i64 1, .string (txt nm), .int .i64 0, .int .i64 0, .int .i64 0, .int .i64 n, .slice a zl cap, .slice ao ko co, .slice av kv cv, .int .i64 fine, .slice none 0 0, .slice none 0 0] 33)).alloc (by simp) (.cells #[.int .i64 1, .string (txt nm), .int .i64 0, .int .i64 0, .int .i64 0, .int .i64 0, .slice none 0 0, .slice none 0 0, .slice none 0 0, .int .i64 0, .slice none 0 0, .slice none 0 0] 33))
 have R1 : Hid (((w.alloc (.cells #[.int .i64 1, .string (txt nm), .int .i64 0, .int .i64 0, .int .i64 0, .int .i64 n, .slice a zl cap, .slice ao ko co, .slice av kv cv, .int .i64 fine, .slice none 0 0, .slice none 0 0] 33)).alloc (.cells #[.int .i64 1, .string (txt nm), .int .i64 0, .int .i64 0, .int .i64 0, .int .i64 0, .slice none 0 0, .slice none 0 0, .slice none 0 0, .int .i64 0, .slice none 0 0, .slice none 0 0] 33)).heap[w.heap.size + 1]? = some (.cells #[.int .i64 1, .string (txt nm), .int .i64 0, .int .i64 0, .int .i64 0, .int .i64 0, .slice none 0 0, .slice none 0 0, .slice none 0 0, .int .i64 0, .slice none 0 0, .slice none 0 0] 33 (0, 0))) := heap_alloc2_new _ _ _
 go_enter Tryz.func35, Tryz.ntmps35
 go_wp2_with fail
 clear d0 d1 d2 d3 d4 d5 d6 d7 d8 d9 d10 d11 R0
 generalize ((w.alloc (.cells #[.int .i64 1, .string (txt nm), .int .i64 0, .int .i64 0, .int .i64 0, .int .i64 n, .slice a zl cap, .slice ao ko co, .slice av kv cv, .int .i64 fine, .slice none 0 0, .slice none 0 0] 33)).alloc (.cells #[.int .i64 1, .string (txt nm), .int .i64 0, .int .i64 0, .int .i64 0, .int .i64 0, .slice none 0 0, .slice none 0 0, .slice none 0 0, .int .i64 0, .slice none 0 0, .slice none 0 0] 33)) = W1 at *
 refine (isName_any nm W1 hl).mono ?_
 rintro e w1 ⟨rfl, hb⟩
 rw [hn]
 obtain ⟨d0, d1, d2, d3, d4, d5, d6, d7, d8, d9, d10, d11⟩ := cells12q (below_row hb (row_lt R1.out) R1.out)
 have HB1 := hdn (HB.out.trans (hb.mono HB.out.size))
 clear hb HB R1
 go_wp2_with fail
 clear d0 d1 d2 d3 d4 d5 d6 d7 d8 d9 d10 d11
 refine (isBare_yes 1 (txt nm) w1).mono ?_
 rintro e w2 ⟨rfl, hb⟩
 have HB2 := hdn (HB1.out.trans (hb.mono HB1.out.size))
 clear hb HB1
 have mh := methQ1
 go_wp2_with fail
 have F := formSnap_yes n fine a ao av cap ko co kv cv zs os vs w2 (hA.below HB2.out) (hO.below HB2.out) (hV.below HB2.out) hlo hlv hko hkv hok
 rw [hlz] at F
 refine F.mono ?_
 rintro e w3 ⟨rfl, hb⟩
 have HB3 := hdn (HB2.out.trans (hb.mono HB2.out.size))
 clear hb HB2 F mh
 go_wp2_with fail
 go_ret2
 exact ⟨_, _, rfl, HB3.out, .inl ⟨rfl, rfl⟩⟩
set_option maxRecDepth 10000 in
set_option maxHeartbeats 400000 in
theorem askPlan_any (id : Int) (ra la : Option Addr) (nr rc m lc : Nat) (R : List RT) (L : List Int) (nm : List UInt8) (w : World) (hR : RoutesAt w ra R) (hL : IntsAt w la L) (hnr : R.length = nr) (hm : L.length = m) (hn1 : nr <= 1048576) (hm1 : m <= 1048576) (hi : ∀ r ∈ R, r.ids.length <= 1048576) (hf : formB R L = true) (hn : nmB nm = true) (hl : nm.length <= 1000000000) (hG : GE w) :
 Calls Tryz.prog 35 #[.agg #[.int .i64 2, .string (txt nm), .int .i64 id, .int .i64 0, .int .i64 0, .int .i64 0, .slice none 0 0, .slice none 0 0, .slice none 0 0, .int .i64 0, .slice ra nr rc, .slice la m lc]] w (AskOk w (inB id 1 1000000000)) := by
 have R0 : Hid ((w.alloc (.cells #[.int .i64 2, .string (txt nm), .int .i64 id, .int .i64 0, .int .i64 0, .int .i64 0, .slice none 0 0, .slice none 0 0, .slice none 0 0, .int .i64 0, .slice ra nr rc, .slice la m lc] 33)).heap[w.heap.size]? = some (.cells #[.int .i64 2, .string (txt nm), .int .i64 id, .int .i64 0, .int .i64 0, .int .i64 0, .slice none 0 0, .slice none 0 0, .slice none 0 0, .int .i64 0, .slice ra nr rc, .slice la m lc] 33 (0, 0))) := heap_alloc_new _ _
 obtain ⟨d0, d1, d2, d3, d4, d5, d6, d7, d8, d9, d10, d11⟩ := cells12q R0.out
 have HB := hdn (((Below.refl w.heap.size w).alloc (Nat.le_refl _) (.cells #[.int .i64 2, .string (txt nm), .int .i64 id, .int .i64 0, .int .i64 0, .int .i64 0, .slice none 0 0, .slice none 0 0, .slice none 0 0, .int .i64 0, .slice ra nr rc, .slice la m lc] 33)).alloc (by simp) (.cells #[.int .i64 2, .string (txt nm), .int .i64 0, .int .i64 0, .int .i64 0, .int .i64 0, .slice none 0 0, .slice none 0 0, .slice none 0 0, .int .i64 0, .slice none 0 0, .slice none 0 0] 33))
 have R1 : Hid (((w.alloc (.cells #[.int .i64 2, .string (txt nm), .int .i64 id, .int .i64 0, .int .i64 0, .int .i64 0, .slice none 0 0, .slice none 0 0, .slice none 0 0, .int .i64 0, .slice ra nr rc, .slice la m lc] 33)).alloc (.cells #[.int .i64 2, .string (txt nm), .int .i64 0, .int .i64 0, .int .i64 0, .int .i64 0, .slice none 0 0, .slice none 0 0, .slice none 0 0, .int .i64 0, .slice none 0 0, .slice none 0 0] 33)).heap[w.heap.size + 1]? = some (.cells #[.int .i64 2, .string (txt nm), .int .i64 0, .int .i64 0, .int .i64 0, .int .i64 0, .slice none 0 0, .slice none 0 0, .slice none 0 0, .int .i64 0, .slice none 0 0, .slice none 0 0] 33 (0, 0))) := heap_alloc2_new _ _ _
 go_enter Tryz.func35, Tryz.ntmps35
 go_wp2_with fail
 clear d0 d1 d2 d3 d4 d5 d6 d7 d8 d9 d10 d11 R0
 generalize ((w.alloc (.cells #[.int .i64 2, .string (txt nm), .int .i64 id, .int .i64 0, .int .i64 0, .int .i64 0, .slice none 0 0, .slice none 0 0, .slice none 0 0, .int .i64 0, .slice ra nr rc, .slice la m lc] 33)).alloc (.cells #[.int .i64 2, .string (txt nm), .int .i64 0, .int .i64 0, .int .i64 0, .int .i64 0, .slice none 0 0, .slice none 0 0, .slice none 0 0, .int .i64 0, .slice none 0 0, .slice none 0 0] 33)) = W1 at *
 refine (isName_any nm W1 hl).mono ?_
 rintro e w1 ⟨rfl, hb⟩
 rw [hn]
 obtain ⟨d0, d1, d2, d3, d4, d5, d6, d7, d8, d9, d10, d11⟩ := cells12q (below_row hb (row_lt R1.out) R1.out)
 have HB1 := hdn (HB.out.trans (hb.mono HB.out.size))
 clear hb HB R1
 go_wp2_with fail
 clear d0 d1 d2 d3 d4 d5 d6 d7 d8 d9 d10 d11
 refine (isBare_yes 2 (txt nm) w1).mono ?_
 rintro e w2 ⟨rfl, hb⟩
 have HB2 := hdn (HB1.out.trans (hb.mono HB1.out.size))
 clear hb HB1
 have mh := methQ2
 go_wp2_with fail
 have F := formPlan_any id ra la rc lc R L w2 (hR.below HB2.out) (hL.below HB2.out) (by omega) (by omega) hi hf
 rw [hnr, hm] at F
 obtain ⟨x, HX⟩ := nmd (inB id 1 1000000000)
 rw [HX.out] at F
 refine F.mono ?_
 rintro e w3 ⟨rfl, hb⟩
 have HB3 := hdn (HB2.out.trans (hb.mono HB2.out.size))
 clear hb HB2 F mh
 cases x
 · go_wp2_with fail
   obtain ⟨T9, v9, hg⟩ := hG.below HB3.out (Nat.le_refl _)
   have z1 := fun s : Kin w3 => s.cell hg
   have hkin := Kin.there w3
   refine wp_region_kin (by kernel_rfl) (by kernel_rfl) ?_
   repeat (go_big_quiet_step (fail))
   refine wpQuiet_nil ?_
   rintro _ ⟨s1, rfl⟩
   clear z1 hkin
   go_wp2
   go_ret2
   exact ⟨_, _, rfl, HB3.out.trans (s1.below.mono HB3.out.size), .inr ⟨HX.out, _, _, rfl⟩⟩
 · go_wp2_with fail
   go_ret2
   exact ⟨_, _, rfl, HB3.out, .inl ⟨HX.out, rfl⟩⟩
set_option maxRecDepth 10000 in
set_option maxHeartbeats 400000 in
theorem askSearch_any (id sd st : Int) (nm : List UInt8) (w : World) (hn : nmB nm = true) (hl : nm.length <= 1000000000) (hG : GE w) :
 Calls Tryz.prog 35 #[.agg #[.int .i64 3, .string (txt nm), .int .i64 id, .int .i64 sd, .int .i64 st, .int .i64 0, .slice none 0 0, .slice none 0 0, .slice none 0 0, .int .i64 0, .slice none 0 0, .slice none 0 0]] w (AskOk w (inB id 1 1000000000 && (inB sd 0 2147483647 && inB st 0 60))) := by
 have R0 : Hid ((w.alloc (.cells #[.int .i64 3, .string (txt nm), .int .i64 id, .int .i64 sd, .int .i64 st, .int .i64 0, .slice none 0 0, .slice none 0 0, .slice none 0 0, .int .i64 0, .slice none 0 0, .slice none 0 0] 33)).heap[w.heap.size]? = some (.cells #[.int .i64 3, .string (txt nm), .int .i64 id, .int .i64 sd, .int .i64 st, .int .i64 0, .slice none 0 0, .slice none 0 0, .slice none 0 0, .int .i64 0, .slice none 0 0, .slice none 0 0] 33 (0, 0))) := heap_alloc_new _ _
 obtain ⟨d0, d1, d2, d3, d4, d5, d6, d7, d8, d9, d10, d11⟩ := cells12q R0.out
 have HB := hdn (((Below.refl w.heap.size w).alloc (Nat.le_refl _) (.cells #[.int .i64 3, .string (txt nm), .int .i64 id, .int .i64 sd, .int .i64 st, .int .i64 0, .slice none 0 0, .slice none 0 0, .slice none 0 0, .int .i64 0, .slice none 0 0, .slice none 0 0] 33)).alloc (by simp) (.cells #[.int .i64 3, .string (txt nm), .int .i64 0, .int .i64 0, .int .i64 0, .int .i64 0, .slice none 0 0, .slice none 0 0, .slice none 0 0, .int .i64 0, .slice none 0 0, .slice none 0 0] 33))
 have R1 : Hid (((w.alloc (.cells #[.int .i64 3, .string (txt nm), .int .i64 id, .int .i64 sd, .int .i64 st, .int .i64 0, .slice none 0 0, .slice none 0 0, .slice none 0 0, .int .i64 0, .slice none 0 0, .slice none 0 0] 33)).alloc (.cells #[.int .i64 3, .string (txt nm), .int .i64 0, .int .i64 0, .int .i64 0, .int .i64 0, .slice none 0 0, .slice none 0 0, .slice none 0 0, .int .i64 0, .slice none 0 0, .slice none 0 0] 33)).heap[w.heap.size + 1]? = some (.cells #[.int .i64 3, .string (txt nm), .int .i64 0, .int .i64 0, .int .i64 0, .int .i64 0, .slice none 0 0, .slice none 0 0, .slice none 0 0, .int .i64 0, .slice none 0 0, .slice none 0 0] 33 (0, 0))) := heap_alloc2_new _ _ _
 go_enter Tryz.func35, Tryz.ntmps35
 go_wp2_with fail
 clear d0 d1 d2 d3 d4 d5 d6 d7 d8 d9 d10 d11 R0
 generalize ((w.alloc (.cells #[.int .i64 3, .string (txt nm), .int .i64 id, .int .i64 sd, .int .i64 st, .int .i64 0, .slice none 0 0, .slice none 0 0, .slice none 0 0, .int .i64 0, .slice none 0 0, .slice none 0 0] 33)).alloc (.cells #[.int .i64 3, .string (txt nm), .int .i64 0, .int .i64 0, .int .i64 0, .int .i64 0, .slice none 0 0, .slice none 0 0, .slice none 0 0, .int .i64 0, .slice none 0 0, .slice none 0 0] 33)) = W1 at *
 refine (isName_any nm W1 hl).mono ?_
 rintro e w1 ⟨rfl, hb⟩
 rw [hn]
 obtain ⟨d0, d1, d2, d3, d4, d5, d6, d7, d8, d9, d10, d11⟩ := cells12q (below_row hb (row_lt R1.out) R1.out)
 have HB1 := hdn (HB.out.trans (hb.mono HB.out.size))
 clear hb HB R1
 go_wp2_with fail
 clear d0 d1 d2 d3 d4 d5 d6 d7 d8 d9 d10 d11
 refine (isBare_yes 3 (txt nm) w1).mono ?_
 rintro e w2 ⟨rfl, hb⟩
 have HB2 := hdn (HB1.out.trans (hb.mono HB1.out.size))
 clear hb HB1
 have mh := methQ3
 go_wp2_with fail
 have F := formSearch_any id sd st w2
 obtain ⟨x, HX⟩ := nmd (inB id 1 1000000000 && (inB sd 0 2147483647 && inB st 0 60))
 rw [HX.out] at F
 refine F.mono ?_
 rintro e w3 ⟨rfl, hb⟩
 have HB3 := hdn (HB2.out.trans (hb.mono HB2.out.size))
 clear hb HB2 F mh
 cases x
 · go_wp2_with fail
   obtain ⟨T9, v9, hg⟩ := hG.below HB3.out (Nat.le_refl _)
   have z1 := fun s : Kin w3 => s.cell hg
   have hkin := Kin.there w3
   refine wp_region_kin (by kernel_rfl) (by kernel_rfl) ?_
   repeat (go_big_quiet_step (fail))
   refine wpQuiet_nil ?_
   rintro _ ⟨s1, rfl⟩
   clear z1 hkin
   go_wp2
   go_ret2
   exact ⟨_, _, rfl, HB3.out.trans (s1.below.mono HB3.out.size), .inr ⟨HX.out, _, _, rfl⟩⟩
 · go_wp2_with fail
   go_ret2
   exact ⟨_, _, rfl, HB3.out, .inl ⟨HX.out, rfl⟩⟩
set_option maxRecDepth 10000 in
set_option maxHeartbeats 400000 in
theorem askPub_any (id : Int) (nm : List UInt8) (w : World) (hn : nmB nm = true) (hl : nm.length <= 1000000000) (hG : GE w) :
 Calls Tryz.prog 35 #[.agg #[.int .i64 4, .string (txt nm), .int .i64 id, .int .i64 0, .int .i64 0, .int .i64 0, .slice none 0 0, .slice none 0 0, .slice none 0 0, .int .i64 0, .slice none 0 0, .slice none 0 0]] w (AskOk w (inB id 1 1000000000)) := by
 have R0 : Hid ((w.alloc (.cells #[.int .i64 4, .string (txt nm), .int .i64 id, .int .i64 0, .int .i64 0, .int .i64 0, .slice none 0 0, .slice none 0 0, .slice none 0 0, .int .i64 0, .slice none 0 0, .slice none 0 0] 33)).heap[w.heap.size]? = some (.cells #[.int .i64 4, .string (txt nm), .int .i64 id, .int .i64 0, .int .i64 0, .int .i64 0, .slice none 0 0, .slice none 0 0, .slice none 0 0, .int .i64 0, .slice none 0 0, .slice none 0 0] 33 (0, 0))) := heap_alloc_new _ _
 obtain ⟨d0, d1, d2, d3, d4, d5, d6, d7, d8, d9, d10, d11⟩ := cells12q R0.out
 have HB := hdn (((Below.refl w.heap.size w).alloc (Nat.le_refl _) (.cells #[.int .i64 4, .string (txt nm), .int .i64 id, .int .i64 0, .int .i64 0, .int .i64 0, .slice none 0 0, .slice none 0 0, .slice none 0 0, .int .i64 0, .slice none 0 0, .slice none 0 0] 33)).alloc (by simp) (.cells #[.int .i64 4, .string (txt nm), .int .i64 0, .int .i64 0, .int .i64 0, .int .i64 0, .slice none 0 0, .slice none 0 0, .slice none 0 0, .int .i64 0, .slice none 0 0, .slice none 0 0] 33))
 have R1 : Hid (((w.alloc (.cells #[.int .i64 4, .string (txt nm), .int .i64 id, .int .i64 0, .int .i64 0, .int .i64 0, .slice none 0 0, .slice none 0 0, .slice none 0 0, .int .i64 0, .slice none 0 0, .slice none 0 0] 33)).alloc (.cells #[.int .i64 4, .string (txt nm), .int .i64 0, .int .i64 0, .int .i64 0, .int .i64 0, .slice none 0 0, .slice none 0 0, .slice none 0 0, .int .i64 0, .slice none 0 0, .slice none 0 0] 33)).heap[w.heap.size + 1]? = some (.cells #[.int .i64 4, .string (txt nm), .int .i64 0, .int .i64 0, .int .i64 0, .int .i64 0, .slice none 0 0, .slice none 0 0, .slice none 0 0, .int .i64 0, .slice none 0 0, .slice none 0 0] 33 (0, 0))) := heap_alloc2_new _ _ _
 go_enter Tryz.func35, Tryz.ntmps35
 go_wp2_with fail
 clear d0 d1 d2 d3 d4 d5 d6 d7 d8 d9 d10 d11 R0
 generalize ((w.alloc (.cells #[.int .i64 4, .string (txt nm), .int .i64 id, .int .i64 0, .int .i64 0, .int .i64 0, .slice none 0 0, .slice none 0 0, .slice none 0 0, .int .i64 0, .slice none 0 0, .slice none 0 0] 33)).alloc (.cells #[.int .i64 4, .string (txt nm), .int .i64 0, .int .i64 0, .int .i64 0, .int .i64 0, .slice none 0 0, .slice none 0 0, .slice none 0 0, .int .i64 0, .slice none 0 0, .slice none 0 0] 33)) = W1 at *
 refine (isName_any nm W1 hl).mono ?_
 rintro e w1 ⟨rfl, hb⟩
 rw [hn]
 obtain ⟨d0, d1, d2, d3, d4, d5, d6, d7, d8, d9, d10, d11⟩ := cells12q (below_row hb (row_lt R1.out) R1.out)
 have HB1 := hdn (HB.out.trans (hb.mono HB.out.size))
 clear hb HB R1
 go_wp2_with fail
 clear d0 d1 d2 d3 d4 d5 d6 d7 d8 d9 d10 d11
 refine (isBare_yes 4 (txt nm) w1).mono ?_
 rintro e w2 ⟨rfl, hb⟩
 have HB2 := hdn (HB1.out.trans (hb.mono HB1.out.size))
 clear hb HB1
 have mh := methQ4
 go_wp2_with fail
 have F := formPublish_any id w2
 obtain ⟨x, HX⟩ := nmd (inB id 1 1000000000)
 rw [HX.out] at F
 refine F.mono ?_
 rintro e w3 ⟨rfl, hb⟩
 have HB3 := hdn (HB2.out.trans (hb.mono HB2.out.size))
 clear hb HB2 F mh
 cases x
 · go_wp2_with fail
   obtain ⟨T9, v9, hg⟩ := hG.below HB3.out (Nat.le_refl _)
   have z1 := fun s : Kin w3 => s.cell hg
   have hkin := Kin.there w3
   refine wp_region_kin (by kernel_rfl) (by kernel_rfl) ?_
   repeat (go_big_quiet_step (fail))
   refine wpQuiet_nil ?_
   rintro _ ⟨s1, rfl⟩
   clear z1 hkin
   go_wp2
   go_ret2
   exact ⟨_, _, rfl, HB3.out.trans (s1.below.mono HB3.out.size), .inr ⟨HX.out, _, _, rfl⟩⟩
 · go_wp2_with fail
   go_ret2
   exact ⟨_, _, rfl, HB3.out, .inl ⟨HX.out, rfl⟩⟩
set_option maxRecDepth 10000 in
set_option maxHeartbeats 400000 in
theorem askSweep_any (nm : List UInt8) (w : World) (hn : nmB nm = true) (hl : nm.length <= 1000000000) :
 Calls Tryz.prog 35 #[.agg #[.int .i64 5, .string (txt nm), .int .i64 0, .int .i64 0, .int .i64 0, .int .i64 0, .slice none 0 0, .slice none 0 0, .slice none 0 0, .int .i64 0, .slice none 0 0, .slice none 0 0]] w (AskOk w true) := by
 have R0 : Hid ((w.alloc (.cells #[.int .i64 5, .string (txt nm), .int .i64 0, .int .i64 0, .int .i64 0, .int .i64 0, .slice none 0 0, .slice none 0 0, .slice none 0 0, .int .i64 0, .slice none 0 0, .slice none 0 0] 33)).heap[w.heap.size]? = some (.cells #[.int .i64 5, .string (txt nm), .int .i64 0, .int .i64 0, .int .i64 0, .int .i64 0, .slice none 0 0, .slice none 0 0, .slice none 0 0, .int .i64 0, .slice none 0 0, .slice none 0 0] 33 (0, 0))) := heap_alloc_new _ _
 obtain ⟨d0, d1, d2, d3, d4, d5, d6, d7, d8, d9, d10, d11⟩ := cells12q R0.out
 have HB := hdn (((Below.refl w.heap.size w).alloc (Nat.le_refl _) (.cells #[.int .i64 5, .string (txt nm), .int .i64 0, .int .i64 0, .int .i64 0, .int .i64 0, .slice none 0 0, .slice none 0 0, .slice none 0 0, .int .i64 0, .slice none 0 0, .slice none 0 0] 33)).alloc (by simp) (.cells #[.int .i64 5, .string (txt nm), .int .i64 0, .int .i64 0, .int .i64 0, .int .i64 0, .slice none 0 0, .slice none 0 0, .slice none 0 0, .int .i64 0, .slice none 0 0, .slice none 0 0] 33))
 have R1 : Hid (((w.alloc (.cells #[.int .i64 5, .string (txt nm), .int .i64 0, .int .i64 0, .int .i64 0, .int .i64 0, .slice none 0 0, .slice none 0 0, .slice none 0 0, .int .i64 0, .slice none 0 0, .slice none 0 0] 33)).alloc (.cells #[.int .i64 5, .string (txt nm), .int .i64 0, .int .i64 0, .int .i64 0, .int .i64 0, .slice none 0 0, .slice none 0 0, .slice none 0 0, .int .i64 0, .slice none 0 0, .slice none 0 0] 33)).heap[w.heap.size + 1]? = some (.cells #[.int .i64 5, .string (txt nm), .int .i64 0, .int .i64 0, .int .i64 0, .int .i64 0, .slice none 0 0, .slice none 0 0, .slice none 0 0, .int .i64 0, .slice none 0 0, .slice none 0 0] 33 (0, 0))) := heap_alloc2_new _ _ _
 go_enter Tryz.func35, Tryz.ntmps35
 go_wp2_with fail
 clear d0 d1 d2 d3 d4 d5 d6 d7 d8 d9 d10 d11 R0
 generalize ((w.alloc (.cells #[.int .i64 5, .string (txt nm), .int .i64 0, .int .i64 0, .int .i64 0, .int .i64 0, .slice none 0 0, .slice none 0 0, .slice none 0 0, .int .i64 0, .slice none 0 0, .slice none 0 0] 33)).alloc (.cells #[.int .i64 5, .string (txt nm), .int .i64 0, .int .i64 0, .int .i64 0, .int .i64 0, .slice none 0 0, .slice none 0 0, .slice none 0 0, .int .i64 0, .slice none 0 0, .slice none 0 0] 33)) = W1 at *
 refine (isName_any nm W1 hl).mono ?_
 rintro e w1 ⟨rfl, hb⟩
 rw [hn]
 obtain ⟨d0, d1, d2, d3, d4, d5, d6, d7, d8, d9, d10, d11⟩ := cells12q (below_row hb (row_lt R1.out) R1.out)
 have HB1 := hdn (HB.out.trans (hb.mono HB.out.size))
 clear hb HB R1
 go_wp2_with fail
 clear d0 d1 d2 d3 d4 d5 d6 d7 d8 d9 d10 d11
 refine (isBare_yes 5 (txt nm) w1).mono ?_
 rintro e w2 ⟨rfl, hb⟩
 have HB2 := hdn (HB1.out.trans (hb.mono HB1.out.size))
 clear hb HB1
 have mh := methQ5
 go_wp2_with fail
 have F := formSweep_any w2
 refine F.mono ?_
 rintro e w3 ⟨rfl, hb⟩
 have HB3 := hdn (HB2.out.trans (hb.mono HB2.out.size))
 clear hb HB2 F mh
 go_wp2_with fail
 go_ret2
 exact ⟨_, _, rfl, HB3.out, .inl ⟨rfl, rfl⟩⟩
set_option maxRecDepth 10000 in
theorem askNone_any (w : World) (hG : GE w) : Calls Tryz.prog 35 #[.agg #[.int .i64 0, .string ⟨#[]⟩, .int .i64 0, .int .i64 0, .int .i64 0, .int .i64 0, .slice none 0 0, .slice none 0 0, .slice none 0 0, .int .i64 0, .slice none 0 0, .slice none 0 0]] w (AskOk w false) := by
 have R0 : Hid ((w.alloc (.cells #[.int .i64 0, .string ⟨#[]⟩, .int .i64 0, .int .i64 0, .int .i64 0, .int .i64 0, .slice none 0 0, .slice none 0 0, .slice none 0 0, .int .i64 0, .slice none 0 0, .slice none 0 0] 33)).heap[w.heap.size]? = some (.cells #[.int .i64 0, .string ⟨#[]⟩, .int .i64 0, .int .i64 0, .int .i64 0, .int .i64 0, .slice none 0 0, .slice none 0 0, .slice none 0 0, .int .i64 0, .slice none 0 0, .slice none 0 0] 33 (0, 0))) := heap_alloc_new _ _
 obtain ⟨d0, d1, d2, d3, d4, d5, d6, d7, d8, d9, d10, d11⟩ := cells12q R0.out
 have HB := hdn (((Below.refl w.heap.size w).alloc (Nat.le_refl _) (.cells #[.int .i64 0, .string ⟨#[]⟩, .int .i64 0, .int .i64 0, .int .i64 0, .int .i64 0, .slice none 0 0, .slice none 0 0, .slice none 0 0, .int .i64 0, .slice none 0 0, .slice none 0 0] 33)).alloc (by simp) (.cells #[.int .i64 0, .string ⟨#[]⟩, .int .i64 0, .int .i64 0, .int .i64 0, .int .i64 0, .slice none 0 0, .slice none 0 0, .slice none 0 0, .int .i64 0, .slice none 0 0, .slice none 0 0] 33))
 have HX : Hid (false = false) := rfl
 go_enter Tryz.func35, Tryz.ntmps35
 go_wp2_with fail
 clear d0 d1 d2 d3 d4 d5 d6 d7 d8 d9 d10 d11 R0
 generalize ((w.alloc (.cells #[.int .i64 0, .string ⟨#[]⟩, .int .i64 0, .int .i64 0, .int .i64 0, .int .i64 0, .slice none 0 0, .slice none 0 0, .slice none 0 0, .int .i64 0, .slice none 0 0, .slice none 0 0] 33)).alloc (.cells #[.int .i64 0, .string ⟨#[]⟩, .int .i64 0, .int .i64 0, .int .i64 0, .int .i64 0, .slice none 0 0, .slice none 0 0, .slice none 0 0, .int .i64 0, .slice none 0 0, .slice none 0 0] 33)) = w3 at *
 have HB3 := hdn HB.out
 obtain ⟨T9, v9, hg⟩ := hG.below HB3.out (Nat.le_refl _)
 have z1 := fun s : Kin w3 => s.cell hg
 have hkin := Kin.there w3
 refine wp_region_kin (by kernel_rfl) (by kernel_rfl) ?_
 repeat (go_big_quiet_step (fail))
 refine wpQuiet_nil ?_
 rintro _ ⟨s1, rfl⟩
 clear z1 hkin
 go_wp2
 go_ret2
 exact ⟨_, _, rfl, HB3.out.trans (s1.below.mono HB3.out.size), .inr ⟨rfl, _, _, rfl⟩⟩
set_option maxHeartbeats 1000000 in
theorem l11First_any (s : List UInt8) (w : World) (hs : s.length <= 1048576) : Calls Tryz.prog 9 #[.string (txt s)] w fun e w' => e = .returned (.tuple #[.string (txt (fstF 10 s).1), .string (txt (fstF 10 s).2)]) /\ Below w.heap.size w w' := by
 obtain ⟨n, HN⟩ := nmd s.length
 obtain ⟨a, HA⟩ := nmd (txt s)
 have hn : a.size = n := by rw [<- HA.out, txt_size]; exact HN.out
 have HT := fun k => txt_take s k
 have HD := fun k => txt_drop s k
 rw [HN.out] at hs HD
 rw [HA.out] at HT HD ⊢
 obtain ⟨P1, HP1⟩ := nmd (txt (fstF 10 s).1)
 obtain ⟨P2, HP2⟩ := nmd (txt (fstF 10 s).2)
 rw [HP1.out, HP2.out]
 go_enter Tryz.func9, Tryz.ntmps9
 go_wp2_with fail
 go_loop [4] (fun t => ∃ k : Nat, k <= n /\ t = .int .i64 k /\ ∀ j, j < k -> bt s j ≠ 10) (fun t => n - (intOf t).toNat)
 case atStart => exact ⟨0, Nat.zero_le _, rfl, fun j hj => absurd hj (Nat.not_lt_zero _)⟩
 case round =>
  obtain ⟨k, hk, rfl, hd⟩ := hrel
  have HJ : Hid (∀ j, j < k -> bt s j ≠ 10) := hd
  clear hd
  by_cases hlt : k < n
  · have hltI : (k : Int) < (n : Int) := by omega
    have hka : k < a.size := by rw [hn]; exact hlt
    have hix : ((a[k]'hka).toNat : Int) = ((bt s k).toNat : Int) := by
     have e := HA.out
     subst e
     rw [txt_idx]
    obtain ⟨x, HX⟩ := nmd (bt s k).toNat
    rw [HX.out] at hix
    by_cases h1 : bt s k = 10
    · have hxb : ((x : Int) == 10) = true := by
       have : x = 10 := by rw [<- HX.out, h1]; rfl
       subst this
       rfl
      have HF : Hid (fstF 10 s = (s.take k, s.drop (k + 1))) := fstF_at s k (by rw [HN.out]; omega) HJ.out (.inr h1)
      have e1 : P1 = a.extract 0 k := by rw [HT, <- HP1.out, HF.out]
      have e2 : P2 = a.extract (k + 1) n := by rw [HD, <- HP2.out, HF.out]
      subst e1 e2
      clear h1
      have hne : ((k : Int) == (n : Int)) = false := by simp; omega
      have hw1 : IntKind.i64.wrap ((k : Int) + 1) = (k : Int) + 1 := by rw [IntKind.wrap_i64]; omega
      go_wp2_with fail
      go_quiet (fail)
      go_wp2
      go_ret2
      exact ⟨by rw [HT, HD]; rfl, below_drewN (Below.refl _ _) nq⟩
    · have hxb : ((x : Int) == 10) = false := by
       have : ¬ (x = 10) := fun e => h1 (by rw [<- UInt8.toNat_inj, HX.out, e]; rfl)
       simp
       omega
      have HJ2 : Hid (∀ j, j < k + 1 -> bt s j ≠ 10) := fun j hj => by
       by_cases e : j = k
       · rw [e]; exact h1
       · exact HJ.out j (by omega)
      clear h1
      have hw1 : IntKind.i64.wrap ((k : Int) + 1) = (k : Int) + 1 := by rw [IntKind.wrap_i64]; omega
      go_wp2_with fail
      go_round
      case rel => exact ⟨k + 1, by omega, by first | rfl | go_num, HJ2.out⟩
      case measure => simp [intOf]; omega
  · have hkn : k = n := by omega
    have hltI : ¬ ((k : Int) < (n : Int)) := by omega
    have HF : Hid (fstF 10 s = (s.take k, s.drop (k + 1))) := fstF_at s k (by rw [HN.out]; omega) HJ.out (.inl (by rw [HN.out]; exact hkn))
    have e1 : P1 = a := by rw [<- HP1.out, HF.out, <- HA.out, hkn, <- HN.out]; simp
    have e2 : P2 = ⟨#[]⟩ := by rw [<- HP2.out, HF.out, hkn, <- HN.out, List.drop_eq_nil_of_le (Nat.le_succ _)]; rfl
    have hne : ((k : Int) == (n : Int)) = true := by simp; omega
    subst e1 e2
    clear hkn
    go_wp2
    go_ret2
    exact ⟨rfl, Below.refl _ _⟩
set_option maxHeartbeats 1000000 in
theorem l11Word_any (s : List UInt8) (w : World) (hs : s.length <= 1048576) : Calls Tryz.prog 10 #[.string (txt s)] w fun e w' => e = .returned (.tuple #[.string (txt (fstF 32 s).1), .string (txt (fstF 32 s).2)]) /\ Below w.heap.size w w' := by
 obtain ⟨n, HN⟩ := nmd s.length
 obtain ⟨a, HA⟩ := nmd (txt s)
 have hn : a.size = n := by rw [<- HA.out, txt_size]; exact HN.out
 have HT := fun k => txt_take s k
 have HD := fun k => txt_drop s k
 rw [HN.out] at hs HD
 rw [HA.out] at HT HD ⊢
 obtain ⟨P1, HP1⟩ := nmd (txt (fstF 32 s).1)
 obtain ⟨P2, HP2⟩ := nmd (txt (fstF 32 s).2)
 rw [HP1.out, HP2.out]
 go_enter Tryz.func10, Tryz.ntmps10
 go_wp2_with fail
 go_loop [4] (fun t => ∃ k : Nat, k <= n /\ t = .int .i64 k /\ ∀ j, j < k -> bt s j ≠ 32) (fun t => n - (intOf t).toNat)
 case atStart => exact ⟨0, Nat.zero_le _, rfl, fun j hj => absurd hj (Nat.not_lt_zero _)⟩
 case round =>
  obtain ⟨k, hk, rfl, hd⟩ := hrel
  have HJ : Hid (∀ j, j < k -> bt s j ≠ 32) := hd
  clear hd
  by_cases hlt : k < n
  · have hltI : (k : Int) < (n : Int) := by omega
    have hka : k < a.size := by rw [hn]; exact hlt
    have hix : ((a[k]'hka).toNat : Int) = ((bt s k).toNat : Int) := by
     have e := HA.out
     subst e
     rw [txt_idx]
    obtain ⟨x, HX⟩ := nmd (bt s k).toNat
    rw [HX.out] at hix
    by_cases h1 : bt s k = 32
    · have hxb : ((x : Int) == 32) = true := by
       have : x = 32 := by rw [<- HX.out, h1]; rfl
       subst this
       rfl
      have HF : Hid (fstF 32 s = (s.take k, s.drop (k + 1))) := fstF_at s k (by rw [HN.out]; omega) HJ.out (.inr h1)
      have e1 : P1 = a.extract 0 k := by rw [HT, <- HP1.out, HF.out]
      have e2 : P2 = a.extract (k + 1) n := by rw [HD, <- HP2.out, HF.out]
      subst e1 e2
      clear h1
      have hne : ((k : Int) == (n : Int)) = false := by simp; omega
      have hw1 : IntKind.i64.wrap ((k : Int) + 1) = (k : Int) + 1 := by rw [IntKind.wrap_i64]; omega
      go_wp2_with fail
      go_quiet (fail)
      go_wp2
      go_ret2
      exact ⟨by rw [HT, HD]; rfl, below_drewN (Below.refl _ _) nq⟩
    · have hxb : ((x : Int) == 32) = false := by
       have : ¬ (x = 32) := fun e => h1 (by rw [<- UInt8.toNat_inj, HX.out, e]; rfl)
       simp
       omega
      have HJ2 : Hid (∀ j, j < k + 1 -> bt s j ≠ 32) := fun j hj => by
       by_cases e : j = k
       · rw [e]; exact h1
       · exact HJ.out j (by omega)
      clear h1
      have hw1 : IntKind.i64.wrap ((k : Int) + 1) = (k : Int) + 1 := by rw [IntKind.wrap_i64]; omega
      go_wp2_with fail
      go_round
      case rel => exact ⟨k + 1, by omega, by first | rfl | go_num, HJ2.out⟩
      case measure => simp [intOf]; omega
  · have hkn : k = n := by omega
    have hltI : ¬ ((k : Int) < (n : Int)) := by omega
    have HF : Hid (fstF 32 s = (s.take k, s.drop (k + 1))) := fstF_at s k (by rw [HN.out]; omega) HJ.out (.inl (by rw [HN.out]; exact hkn))
    have e1 : P1 = a := by rw [<- HP1.out, HF.out, <- HA.out, hkn, <- HN.out]; simp
    have e2 : P2 = ⟨#[]⟩ := by rw [<- HP2.out, HF.out, hkn, <- HN.out, List.drop_eq_nil_of_le (Nat.le_succ _)]; rfl
    have hne : ((k : Int) == (n : Int)) = true := by simp; omega
    subst e1 e2
    clear hkn
    go_wp2
    go_ret2
    exact ⟨rfl, Below.refl _ _⟩
set_option maxHeartbeats 1000000 in
theorem l11Name_any (s : List UInt8) (w : World) (hs : s.length <= 1000000000) : Calls Tryz.prog 55 #[.string (txt s)] w fun e w' => e = .returned (.bool (nmB s)) /\ w' = w := by
 have HB : Hid (nmB s = (decide (1 <= s.length /\ s.length <= 12) && s.all isLt)) := rfl
 obtain ⟨n, HN⟩ := nmd s.length
 obtain ⟨a, HA⟩ := nmd (txt s)
 have hn : a.size = n := by rw [<- HA.out, txt_size]; exact HN.out
 rw [HN.out] at HB hs
 rw [HA.out]
 by_cases h1 : 1 <= n
 · have a1 : ¬ ((n : Int) < 1) := by omega
   by_cases h2 : n <= 12
   · have a2 : ¬ ((12 : Int) < (n : Int)) := by omega
     rw [decide_eq_true ⟨h1, h2⟩, Bool.true_and] at HB
     go_enter Tryz.func55, Tryz.ntmps55
     go_wp2_with fail
     go_loop [3] (fun t => ∃ k : Nat, k <= n /\ t = .int .i64 k /\ ∀ j, j < k -> isLt (bt s j) = true) (fun t => n - (intOf t).toNat)
     case atStart => exact ⟨0, Nat.zero_le _, rfl, fun j hj => absurd hj (Nat.not_lt_zero _)⟩
     case round =>
      obtain ⟨k, hk, rfl, hd⟩ := hrel
      have HD : Hid (∀ j, j < k -> isLt (bt s j) = true) := hd
      clear hd
      by_cases hlt : k < n
      · have hltI : (k : Int) < (n : Int) := by omega
        have hka : k < a.size := by rw [hn]; exact hlt
        have hix : ((a[k]'hka).toNat : Int) = ((bt s k).toNat : Int) := by
         have e := HA.out
         subst e
         rw [txt_idx]
        obtain ⟨x, HX⟩ := nmd (bt s k).toNat
        rw [HX.out] at hix
        have hw1 : IntKind.i64.wrap ((k : Int) + 1) = (k : Int) + 1 := by rw [IntKind.wrap_i64]; omega
        by_cases g1 : x < 97
        · have b1 : (x : Int) < 97 := by omega
          have HF : Hid (nmB s = false) := by show _ = _; rw [HB.out]; exact all_lt_no (by rw [HN.out]; exact hlt) (by unfold isLt; rw [HX.out]; exact decide_eq_false (by omega))
          go_wp2
          go_ret
          exact ⟨by rw [HF.out]; rfl, rfl⟩
        · have b1 : ¬ ((x : Int) < 97) := by omega
          by_cases g2 : 122 < x
          · have b2 : (122 : Int) < (x : Int) := by omega
            have HF : Hid (nmB s = false) := by show _ = _; rw [HB.out]; exact all_lt_no (by rw [HN.out]; exact hlt) (by unfold isLt; rw [HX.out]; exact decide_eq_false (by omega))
            go_wp2
            go_ret
            exact ⟨by rw [HF.out]; rfl, rfl⟩
          · have b2 : ¬ ((122 : Int) < (x : Int)) := by omega
            have HD2 : Hid (∀ j, j < k + 1 -> isLt (bt s j) = true) := fun j hj => by
             by_cases e : j = k
             · rw [e]; unfold isLt; rw [HX.out]; exact decide_eq_true (by omega)
             · exact HD.out j (by omega)
            go_wp2_with fail
            go_round
            case rel => exact ⟨k + 1, by omega, by first | rfl | go_num, HD2.out⟩
            case measure => simp [intOf]; omega
      · have hltI : ¬ ((k : Int) < (n : Int)) := by omega
        have HF : Hid (nmB s = true) := by show _ = _; rw [HB.out]; exact all_lt_of (fun j hj => HD.out j (by rw [HN.out] at hj; omega))
        go_wp2
        go_ret
        exact ⟨by rw [HF.out]; rfl, rfl⟩
   · have a2 : (12 : Int) < (n : Int) := by omega
     rw [decide_eq_false (fun h => h2 h.2), Bool.false_and] at HB
     rw [HB.out]
     go_enter Tryz.func55, Tryz.ntmps55
     go_wp2
     go_ret
     exact ⟨rfl, rfl⟩
 · have a1 : (n : Int) < 1 := by omega
   rw [decide_eq_false (fun h => h1 h.1), Bool.false_and] at HB
   rw [HB.out]
   go_enter Tryz.func55, Tryz.ntmps55
   go_wp2
   go_ret
   exact ⟨rfl, rfl⟩
end Go.Proofs.YtcapkcallaajaaaGreatDoor
