import Derived.Test.YtcapkcallaajaaaGreatDoorPack1
import Derived.Test.YtcapkcallaajaaaGreatDoorPack4
import Derived.Test.YtcapkcallaajaaaGreatDoorPack5
import Derived.Test.YtcapkcallaajaaaGreatDoorPack6
namespace Go.Proofs.YtcapkcallaajaaaGreatDoor
open Go.RowKit
theorem grown_ownR {w0 w1 w2 : World} {q : Nat} {row : Option Nat} (h : w0.grownBy w1 (some q)) (hg : w1.grownBy w2 row) (hr : ∀ g, row = some g -> w0.heap.size <= g) : w0.grownBy w2 (some q) :=
 ⟨hg.os.trans h.os, hg.tape.trans h.tape, hg.output.trans h.output, Nat.le_trans h.size hg.size, fun k hk hne => by
   rw [hg.block k (Nat.lt_of_lt_of_le hk h.size) (fun e => by have := hr k e.symm; omega)]
   exact h.block k hk hne⟩
theorem RX.grown {w w' : World} {q : Nat} {s : List UInt8} {row : Option Nat} (h : RX w q s) (hg : w.grownBy w' row) (hr : some q ≠ row) : RX w' q s := by
 unfold RX at *
 rw [hg.block q (row_lt h) hr]
 exact h
theorem RX.alloc {w : World} {q : Nat} {s : List UInt8} (h : RX w q s) (o : Obj) : RX (w.alloc o) q s := (heap_alloc_old _ _ (row_lt h)).trans h
theorem grown_allocR {w0 w1 : World} {q : Nat} (h : w0.grownBy w1 (some q)) (o : Obj) : w0.grownBy (w1.alloc o) (some q) :=
 grown_ownR h (World.grownBy_alloc w1 o none) (fun _ e => by cases e)
theorem idsF_blank (k : Nat) (t : List UInt8) : idsF (k + 1) (32 :: t) = match idF t with | none => none | some (v, r) => (match idsF k r with | none => none | some (l, r2) => some (v :: l, r2)) := by
 simp only [idsF, if_pos, idF]
 cases numF t with
 | none => rfl
 | some q =>
   obtain ⟨n, r⟩ := q
   simp only
   split <;> rfl
theorem idsF_full (t : List UInt8) : idsF 0 (32 :: t) = none := by simp [idsF]
theorem idsF_end (k : Nat) (s : List UInt8) (h : List.isPrefixOf [32] s = false) : idsF k s = if List.isPrefixOf [10] s = true then some ([], s.drop 1) else none := by
 cases s with
 | nil => cases k <;> simp [idsF]
 | cons c s =>
   have hc : ¬ c = 32 := fun e => by subst e; simp at h
   by_cases h10 : c = 10
   · subst h10
     cases k <;> simp [idsF]
   · have : ¬ (10 : UInt8) = c := fun e => h10 e.symm
     cases k <;> simp [idsF, hc, h10, this]
def ppd (acc : List Int) (o : Option (List Int × List UInt8)) : Option (List Int × List UInt8) := match o with | none => none | some (l, r) => some (acc ++ l, r)
theorem ppd_snoc (acc : List Int) (v : Int) (k : Nat) (r : List UInt8) : ppd (acc ++ [v]) (idsF k r) = ppd acc (match idsF k r with | none => none | some (l, r2) => some (v :: l, r2)) := by
 unfold ppd
 cases idsF k r with
 | none => rfl
 | some q => obtain ⟨l, r2⟩ := q; simp
theorem blank_is {s : List UInt8} (h : List.isPrefixOf [32] s = true) : s = 32 :: s.drop 1 := by
 have := prefix_is h
 simpa using this
def slLen : Value -> Nat
 | .slice _ n _ => n
 | _ => 0
theorem own_sl {w : World} {base size n : Nat} {e : TypeId} {v : Value} {xs : List Value} (h : w.ownsRow base e size v n xs) : ∃ a c, v = .slice a n c /\ ∀ g, v.ownBlock = some g -> base <= g := by
 obtain ⟨_, ⟨rfl, rfl⟩ | ⟨g, c, cur, rfl, hb, _⟩⟩ := h
 · exact ⟨none, 0, rfl, fun g e => by simp [Value.ownBlock] at e⟩
 · exact ⟨some ⟨g, 0, none⟩, c, rfl, fun g' e => by simp [Value.ownBlock] at e; omega⟩
theorem own_kept {w w' : World} {base size n q : Nat} {e : TypeId} {v : Value} {xs : List Value} (h : w.ownsRow base e size v n xs) (hg : w.grownBy w' (some q)) (hq : q < base) : w'.ownsRow base e size v n xs := by
 obtain ⟨_, _, _, hb⟩ := own_sl h
 refine h.kept hg ?_
 cases hv : v.ownBlock with
 | none => exact .inl rfl
 | some g => right; intro e; simp at e; have := hb g hv; omega
theorem ppd_snocG (acc : List Int) (v : Int) (o : Option (List Int × List UInt8)) : ppd (acc ++ [v]) o = ppd acc (match o with | none => none | some (l, r2) => some (v :: l, r2)) := by
 unfold ppd
 cases o with
 | none => rfl
 | some q => obtain ⟨l, r2⟩ := q; simp
theorem ppd_nil (o : Option (List Int × List UInt8)) : ppd [] o = o := by cases o <;> rfl
theorem numsF_zero (s : List UInt8) : numsF 0 s = if List.isPrefixOf [10] s = true then some ([], s.drop 1) else none := by rw [numsF]
theorem numsF_succ (k : Nat) (s : List UInt8) : numsF (k + 1) s = if List.isPrefixOf [32] s = true then (match numF (s.drop 1) with
 | none => none
 | some (n, r) => match numsF k r with | none => none | some (l, r2) => some ((n : Int) :: l, r2)) else none := by rw [numsF]; rfl
set_option maxHeartbeats 2000000 in
theorem numbers_any (q k : Nat) (s : List UInt8) (w : World) (h : RX w q s) (hs : s.length <= 1000000000) (hk : k <= 900) :
 Calls Tryz.prog 62 #[.pointer (some ⟨q, 0, none⟩), .int .i64 (k : Int)] w fun e w' => (∃ l r sl, numsF k s = some (l, r) /\ e = .returned sl /\ RX w' q r /\ w.grownBy w' (some q) /\ w'.ownsRow w.heap.size 2 1 sl l.length (l.map (Value.int .i64))) ∨ (numsF k s = none /\ e = .panicked GV /\ w.grownBy w' (some q)) := by
 have HQ : Hid (q < w.heap.size) := row_lt h
 have HR : Hid (RX w q s) := h
 have HO : Hid (w.ownsRow w.heap.size 2 1 (.slice none 0 0) 0 (([] : List Int).map (Value.int .i64))) := ⟨by simp, .inl ⟨rfl, rfl⟩⟩
 clear h
 go_enter Tryz.func62, Tryz.ntmps62
 go_wp2_with fail
 go_loopw [5, 7] (fun t ti wr => ∃ (acc : List Int) (rest : List UInt8), acc.length <= k /\ ti = .int .i64 (acc.length : Int) /\ rest.length <= s.length /\ numsF k s = ppd acc (numsF (k - acc.length) rest) /\ RX wr q rest /\ w.grownBy wr (some q) /\ wr.ownsRow w.heap.size 2 1 t acc.length (acc.map (Value.int .i64))) (fun _ ti _ => k - (intOf ti).toNat)
 case atStart => exact ⟨[], s, by simp, rfl, Nat.le_refl _, by rw [ppd_nil]; rfl, HR.out, grown_refl _ _, HO.out⟩
 case round =>
  clear HR HO
  obtain ⟨acc, rest, ha, rfl, hrl, hi, hr, hg, ho⟩ := hrel
  obtain ⟨sa, sc, e, hob⟩ := own_sl ho
  subst e
  have HI : Hid (numsF k s = ppd acc (numsF (k - acc.length) rest)) := hi
  have HR : Hid (RX wr q rest) := hr
  have HG : Hid (w.grownBy wr (some q)) := hg
  have HO : Hid (wr.ownsRow w.heap.size 2 1 (.slice sa acc.length sc) acc.length (acc.map (Value.int .i64))) := ho
  clear hi hr hg ho hob
  obtain ⟨m, HM⟩ : ∃ m, Hid (acc.length = m) := ⟨_, rfl⟩
  rw [HM.out] at ha HI HO ⊢
  by_cases hm : m < k
  · have hmI : (m : Int) < (k : Int) := by omega
    have HI1 := HI.out
    rw [show k - m = (k - (m + 1)) + 1 by omega, numsF_succ] at HI1
    cases h32 : List.isPrefixOf [32] rest
    · have C1 := take_no q rest [32] wr HR.out (by omega) h32
      change Calls Tryz.prog 58 #[.pointer (some ⟨q, 0, none⟩), .string ⟨#[32]⟩] wr _ at C1
      have HF : Hid (numsF k s = none) := by show _ = _; rw [HI1, h32]; rfl
      clear h32 HI1
      go_wp2_with fail
      refine C1.mono ?_
      rintro e w' ⟨rfl, rfl⟩
      exact ⟨rfl, .inr ⟨HF.out, rfl, HG.out⟩⟩
    · have C1 := take_yes q rest [32] wr HR.out (by omega) h32
      change Calls Tryz.prog 58 #[.pointer (some ⟨q, 0, none⟩), .string ⟨#[32]⟩] wr _ at C1
      obtain ⟨t, ht⟩ : ∃ t, rest.drop 1 = t := ⟨_, rfl⟩
      have ed : rest.drop ([32] : List UInt8).length = t := ht
      rw [ed] at C1
      have htl : t.length <= rest.length := by rw [<- ht, List.length_drop]; omega
      have HI2 : Hid (numsF k s = ppd acc (match numF t with | none => none | some (n, r) => match numsF (k - (m + 1)) r with | none => none | some (l, r2) => some ((n : Int) :: l, r2))) := by
       show _ = _
       rw [HI1, h32, ht]
       rfl
      clear h32 ed ht HI1
      go_wp2_with fail
      refine C1.mono ?_
      rintro e w2 ⟨rfl, hr2, hg2⟩
      have R2 : Hid (RX w2 q t) := hr2
      have G2 : Hid (w.grownBy w2 (some q)) := grown_trans HG.out hg2
      have O2 : Hid (w2.ownsRow w.heap.size 2 1 (.slice sa m sc) m (acc.map (Value.int .i64))) := own_kept HO.out hg2 HQ.out
      clear hr2 hg2 C1 HR HG HO
      have C2 := number_any q t w2 R2.out (by omega)
      go_wp2_with fail
      refine C2.mono ?_
      rintro e w3 (⟨v, r, hv, rfl, hr3, hg3⟩ | ⟨hv, rfl, rfl⟩)
      · have hvl : r.length <= t.length := by
         have := congrArg List.length (numF_is hv).1
         rw [List.length_append] at this
         omega
        have HI3 : Hid (numsF k s = ppd (acc ++ [(v : Int)]) (numsF (k - (m + 1)) r)) := by
         show _ = _
         rw [HI2.out, hv, ppd_snocG]
        have R3 : Hid (RX w3 q r) := hr3
        have G3 : Hid (w.grownBy w3 (some q)) := grown_trans G2.out hg3
        have O3 : Hid (w3.ownsRow w.heap.size 2 1 (.slice sa m sc) m (acc.map (Value.int .i64))) := own_kept O2.out hg3 HQ.out
        have HZ3 : Hid (w.heap.size <= w3.heap.size) := G3.out.size
        clear hv hr3 hg3 C2 R2 G2 O2 HI2
        obtain ⟨x, HX⟩ : ∃ x : Int, Hid ((v : Int) = x) := ⟨_, rfl⟩
        rw [HX.out] at HI3 ⊢
        go_wp2_with (
         at_builtin
         refine append_int _ rfl _ _ rfl w.heap.size (.slice sa m sc) m _ rfl (O3.out.alloc _) ⟨w3.heap.size, 0, none⟩ 1 (.int .i64 x) rfl (cell_new1 _ _ _ _ (by simp)) rfl (by omega) (by have := HZ3.out; simp; omega) ?_
         intro v' w4 ho4 hg4
         have G4 : Hid (w.grownBy w4 (some q)) := grown_ownR (grown_allocR G3.out _) hg4 (fun g e => by obtain ⟨_, _, _, hb⟩ := own_sl O3.out; exact hb g e)
         have R4 : Hid (RX w4 q r) := (R3.out.alloc _).grown hg4 (fun e => by obtain ⟨_, _, _, hb⟩ := own_sl O3.out; have := hb q e.symm; have := HQ.out; omega)
         have O4 : Hid (w4.ownsRow w.heap.size 2 1 v' (m + 1) ((acc ++ [x]).map (Value.int .i64))) := by rw [List.map_append]; exact ho4
         clear hg4 ho4)
        have hlen : (acc ++ [x]).length = m + 1 := by rw [List.length_append, HM.out]; rfl
        obtain ⟨sa4, sc4, e4, -⟩ := own_sl O4.out
        subst e4
        go_roundw
        case rel => exact ⟨acc ++ [x], r, by rw [hlen]; omega, by rw [hlen]; first | rfl | go_num, by omega, by rw [hlen]; exact HI3.out, R4.out, G4.out, by rw [hlen]; exact O4.out⟩
        case measure => simp [intOf]; omega
      · have HF : Hid (numsF k s = none) := by show _ = _; rw [HI2.out, hv]; rfl
        exact ⟨rfl, .inr ⟨HF.out, rfl, G2.out⟩⟩
  · have hmI : ¬ ((m : Int) < (k : Int)) := by omega
    have HI1 := HI.out
    rw [show k - m = 0 by omega, numsF_zero] at HI1
    cases h10 : List.isPrefixOf [10] rest
    · have C1 := take_no q rest [10] wr HR.out (by omega) h10
      change Calls Tryz.prog 58 #[.pointer (some ⟨q, 0, none⟩), .string ⟨#[10]⟩] wr _ at C1
      have HF : Hid (numsF k s = none) := by show _ = _; rw [HI1, h10]; rfl
      clear h10 HI1
      go_wp2_with fail
      refine C1.mono ?_
      rintro e w' ⟨rfl, rfl⟩
      exact ⟨rfl, .inr ⟨HF.out, rfl, HG.out⟩⟩
    · have C1 := take_yes q rest [10] wr HR.out (by omega) h10
      change Calls Tryz.prog 58 #[.pointer (some ⟨q, 0, none⟩), .string ⟨#[10]⟩] wr _ at C1
      have HF : Hid (numsF k s = some (acc, rest.drop 1)) := by show _ = _; rw [HI1, h10]; simp [ppd]
      clear h10 HI1
      go_wp2_with fail
      refine C1.mono ?_
      rintro e w2 ⟨rfl, hr2, hg2⟩
      have R2 : Hid (RX w2 q (rest.drop 1)) := hr2
      have G2 : Hid (w.grownBy w2 (some q)) := grown_trans HG.out hg2
      have O2 : Hid (w2.ownsRow w.heap.size 2 1 (.slice sa m sc) m (acc.map (Value.int .i64))) := own_kept HO.out hg2 HQ.out
      clear hr2 hg2 C1
      go_wp2
      go_ret
      exact .inl ⟨acc, rest.drop 1, .slice sa m sc, HF.out, rfl, R2.out, G2.out, by rw [HM.out]; exact O2.out⟩
def LineOk (w : World) (q : Nat) (o : Option (List Int × List UInt8)) (e : Ending) (w' : World) : Prop :=
 (∃ l r sl, o = some (l, r) /\ e = .returned sl /\ RX w' q r /\ w.grownBy w' (some q) /\ w'.ownsRow w.heap.size 2 1 sl l.length (l.map (Value.int .i64))) ∨ (o = none /\ e = .panicked GV /\ w.grownBy w' (some q))
set_option maxHeartbeats 1000000 in
theorem line_any (q k : Nat) (s wd : List UInt8) (w : World) (h : RX w q s) (hs : s.length <= 1000000000) (hk : k <= 900) :
 Calls Tryz.prog 63 #[.pointer (some ⟨q, 0, none⟩), .string (txt wd), .int .i64 (k : Int)] w (LineOk w q (lineF wd k s)) := by
 have HR : Hid (RX w q s) := h
 have HLF : Hid (lineF wd k s = if wd.isPrefixOf s = true then numsF k (s.drop wd.length) else none) := rfl
 clear h
 cases hp : wd.isPrefixOf s
 · have C1 := take_no q s wd w HR.out (by omega) hp
   have HF : Hid (lineF wd k s = none) := by show _ = _; rw [HLF.out, hp]; rfl
   clear hp
   generalize txt wd = a at *
   go_enter Tryz.func63, Tryz.ntmps63
   go_wp2_with fail
   refine C1.mono ?_
   rintro e w' ⟨rfl, rfl⟩
   exact ⟨rfl, .inr ⟨HF.out, rfl, grown_refl _ _⟩⟩
 · have C1 := take_yes q s wd w HR.out (by omega) hp
   have hdl : (s.drop wd.length).length <= 1000000000 := by rw [List.length_drop]; omega
   have HF : Hid (lineF wd k s = numsF k (s.drop wd.length)) := by show _ = _; rw [HLF.out, hp]; rfl
   clear hp
   generalize s.drop wd.length = t at *
   generalize txt wd = a at *
   go_enter Tryz.func63, Tryz.ntmps63
   go_wp2_with fail
   refine C1.mono ?_
   rintro e w2 ⟨rfl, hr2, hg2⟩
   have R2 : Hid (RX w2 q t) := hr2
   have G2 : Hid (w.grownBy w2 (some q)) := hg2
   clear hr2 hg2 C1
   have C2 := numbers_any q k t w2 R2.out hdl hk
   go_wp2_with fail
   refine C2.mono ?_
   rintro e w3 (⟨l, r, sl, hl, rfl, hr3, hg3, ho3⟩ | ⟨hl, rfl, hg3⟩)
   · have HL : Hid (lineF wd k s = some (l, r)) := by show _ = _; rw [HF.out, hl]
     have R3 : Hid (RX w3 q r) := hr3
     have G3 : Hid (w.grownBy w3 (some q)) := grown_trans G2.out hg3
     have O3 : Hid (w3.ownsRow w.heap.size 2 1 sl l.length (l.map (Value.int .i64))) := owns_base ho3 G2.out.size
     clear hl hr3 hg3 ho3 C2
     go_wp2
     go_ret
     exact .inl ⟨l, r, sl, HL.out, rfl, R3.out, G3.out, O3.out⟩
   · have HL : Hid (lineF wd k s = none) := by show _ = _; rw [HF.out, hl]
     exact ⟨rfl, .inr ⟨HL.out, rfl, grown_trans G2.out hg3⟩⟩
theorem idF_num {s : List UInt8} : idF s = match numF s with | none => none | some (n, r) => if inB n 1 1000000000 = true then some ((n : Int), r) else none := rfl
set_option maxHeartbeats 1000000 in
theorem id_any (q : Nat) (s : List UInt8) (w : World) (h : RX w q s) (hs : s.length <= 1000000000) :
 Calls Tryz.prog 66 #[.pointer (some ⟨q, 0, none⟩)] w fun e w' => (∃ v r, idF s = some (v, r) /\ e = .returned (.int .i64 v) /\ RX w' q r /\ w.grownBy w' (some q)) ∨ (idF s = none /\ e = .panicked GV /\ w.grownBy w' (some q)) := by
 have C := number_any q s w h hs
 go_enter Tryz.func66, Tryz.ntmps66
 go_wp2_with fail
 refine C.mono ?_
 rintro e w1 (⟨n, r, hn, rfl, hr, hg⟩ | ⟨hn, rfl, rfl⟩)
 · have HG : Hid (w.grownBy w1 (some q)) := hg
   have HR : Hid (RX w1 q r) := hr
   clear hg hr C
   have C2 := within_any (n : Int) 1 1000000000 w1
   cases h1 : inB (n : Int) 1 1000000000
   · have HF : Hid (idF s = none) := by show _ = _; rw [idF_num, hn]; simp [h1]
     rw [h1] at C2
     clear h1 hn
     go_wp2_with (first | (go_at_call 77; refine C2.mono ?_; rintro e w' ⟨rfl, rfl⟩) | (go_at_call 30; refine (must_no _ _).mono ?_; rintro e w' ⟨rfl, rfl⟩))
     exact ⟨rfl, .inr ⟨HF.out, rfl, HG.out⟩⟩
   · have HF : Hid (idF s = some ((n : Int), r)) := by show _ = _; rw [idF_num, hn]; simp [h1]
     rw [h1] at C2
     clear h1 hn
     go_wp2_with (first | (go_at_call 77; refine C2.mono ?_; rintro e w' ⟨rfl, rfl⟩) | (go_at_call 30; refine (must_yes _ _).mono ?_; rintro e w' ⟨rfl, rfl⟩))
     go_ret
     exact .inl ⟨n, r, HF.out, rfl, HR.out, HG.out⟩
 · have HF : Hid (idF s = none) := by show _ = _; rw [idF_num, hn]
   exact ⟨rfl, .inr ⟨HF.out, rfl, grown_refl _ _⟩⟩
set_option maxHeartbeats 2000000 in
theorem ids_any (q : Nat) (s : List UInt8) (w : World) (h : RX w q s) (hs : s.length <= 1000000000) :
 Calls Tryz.prog 67 #[.pointer (some ⟨q, 0, none⟩)] w fun e w' => (∃ ids r sl, idsF 12 s = some (ids, r) /\ e = .returned sl /\ RX w' q r /\ w.grownBy w' (some q) /\ w'.ownsRow w.heap.size 2 1 sl ids.length (ids.map (Value.int .i64))) ∨ (idsF 12 s = none /\ e = .panicked GV /\ w.grownBy w' (some q)) := by
 have HQ : Hid (q < w.heap.size) := row_lt h
 have HR : Hid (RX w q s) := h
 have HO : Hid (w.ownsRow w.heap.size 2 1 (.slice none 0 0) 0 (([] : List Int).map (Value.int .i64))) := ⟨by simp, .inl ⟨rfl, rfl⟩⟩
 clear h
 go_enter Tryz.func67, Tryz.ntmps67
 go_wp2_with fail
 go_loopw [3] (fun t wr => ∃ (acc : List Int) (rest : List UInt8), acc.length <= 12 /\ rest.length <= s.length /\ rest.length + acc.length <= s.length /\ idsF 12 s = ppd acc (idsF (12 - acc.length) rest) /\ RX wr q rest /\ w.grownBy wr (some q) /\ wr.ownsRow w.heap.size 2 1 t acc.length (acc.map (Value.int .i64))) (fun t _ => 13 - slLen t)
 case atStart => exact ⟨[], s, by simp, Nat.le_refl _, by simp, by simp [ppd]; cases idsF 12 s <;> rfl, HR.out, grown_refl _ _, HO.out⟩
 case round =>
  clear HR HO
  obtain ⟨acc, rest, ha, hrl, hrl2, hi, hr, hg, ho⟩ := hrel
  obtain ⟨sa, sc, e, hob⟩ := own_sl ho
  subst e
  have HI : Hid (idsF 12 s = ppd acc (idsF (12 - acc.length) rest)) := hi
  have HR : Hid (RX wr q rest) := hr
  have HG : Hid (w.grownBy wr (some q)) := hg
  have HO : Hid (wr.ownsRow w.heap.size 2 1 (.slice sa acc.length sc) acc.length (acc.map (Value.int .i64))) := ho
  clear hi hr hg ho hob
  obtain ⟨m, HM⟩ : ∃ m, Hid (acc.length = m) := ⟨_, rfl⟩
  rw [HM.out] at ha hrl2 HI HO ⊢
  have c0 := HR.out.cell
  have HZ : Hid (wr.heap.size ≥ w.heap.size) := HG.out.size
  have C0 := hasPrefix_any rest [32] wr (by omega)
  change Calls Tryz.prog 57 #[.string (txt rest), .string ⟨#[32]⟩] wr _ at C0
  cases h32 : List.isPrefixOf [32] rest
  · rw [h32] at C0
    have HE : Hid (idsF 12 s = ppd acc (if List.isPrefixOf [10] rest = true then some ([], rest.drop 1) else none)) := by show _ = _; rw [HI.out, idsF_end _ _ h32]
    clear h32
    cases h10 : List.isPrefixOf [10] rest
    · have C1 := take_no q rest [10] wr HR.out (by omega) h10
      change Calls Tryz.prog 58 #[.pointer (some ⟨q, 0, none⟩), .string ⟨#[10]⟩] wr _ at C1
      have HF : Hid (idsF 12 s = none) := by show _ = _; rw [HE.out, h10]; rfl
      clear h10
      generalize txt rest = a at *
      go_wp2_with (first | (go_at_call 57; refine C0.mono ?_; rintro e w' ⟨rfl, rfl⟩) | (go_at_call 58; refine C1.mono ?_; rintro e w' ⟨rfl, rfl⟩))
      exact ⟨rfl, .inr ⟨HF.out, rfl, HG.out⟩⟩
    · have C1 := take_yes q rest [10] wr HR.out (by omega) h10
      change Calls Tryz.prog 58 #[.pointer (some ⟨q, 0, none⟩), .string ⟨#[10]⟩] wr _ at C1
      have HF : Hid (idsF 12 s = some (acc, rest.drop 1)) := by show _ = _; rw [HE.out, h10]; simp [ppd]
      clear h10
      generalize txt rest = a at *
      go_wp2_with fail
      refine C0.mono ?_
      rintro e w' ⟨rfl, rfl⟩
      go_wp2_with fail
      refine C1.mono ?_
      rintro e w2 ⟨rfl, hr2, hg2⟩
      have R2 : Hid (RX w2 q (rest.drop 1)) := hr2
      have G2 : Hid (w.grownBy w2 (some q)) := grown_trans HG.out hg2
      have O2 : Hid (w2.ownsRow w.heap.size 2 1 (.slice sa m sc) m (acc.map (Value.int .i64))) := own_kept HO.out hg2 HQ.out
      clear hr2 hg2 C0 C1
      go_wp2
      go_ret
      exact .inl ⟨acc, rest.drop 1, .slice sa m sc, HF.out, rfl, R2.out, G2.out, by rw [HM.out]; exact O2.out⟩
  · rw [h32] at C0
    obtain ⟨t, ht⟩ : ∃ t, rest = 32 :: t := ⟨_, blank_is h32⟩
    have htl : t.length + 1 = rest.length := by rw [ht]; simp
    by_cases hm : m < 12
    · have hmI : (m : Int) < 12 := by omega
      have C1 := take_yes q rest [32] wr HR.out (by omega) h32
      change Calls Tryz.prog 58 #[.pointer (some ⟨q, 0, none⟩), .string ⟨#[32]⟩] wr _ at C1
      have ed : rest.drop ([32] : List UInt8).length = t := by rw [ht]; rfl
      rw [ed] at C1
      have HI2 : Hid (idsF 12 s = ppd acc (match idF t with | none => none | some (v, r) => (match idsF (11 - m) r with | none => none | some (l, r2) => some (v :: l, r2)))) := by
       show _ = _
       rw [HI.out, ht, show 12 - m = (11 - m) + 1 by omega, idsF_blank]
       try rfl
      clear h32 ed ht
      generalize txt rest = a at *
      go_wp2_with fail
      refine C0.mono ?_
      rintro e w' ⟨rfl, rfl⟩
      go_wp2_with fail
      with_reducible refine (must_yes _ _).mono ?_
      rintro e w' ⟨rfl, rfl⟩
      go_wp2_with fail
      refine C1.mono ?_
      rintro e w2 ⟨rfl, hr2, hg2⟩
      have R2 : Hid (RX w2 q t) := hr2
      have G2 : Hid (w.grownBy w2 (some q)) := grown_trans HG.out hg2
      have O2 : Hid (w2.ownsRow w.heap.size 2 1 (.slice sa m sc) m (acc.map (Value.int .i64))) := own_kept HO.out hg2 HQ.out
      clear hr2 hg2 C0 C1 HR HG HO c0
      have C2 := id_any q t w2 R2.out (by omega)
      go_wp2_with fail
      refine C2.mono ?_
      rintro e w3 (⟨v, r, hv, rfl, hr3, hg3⟩ | ⟨hv, rfl, hg3⟩)
      · have hvl : r.length <= t.length := by
         have := congrArg List.length (idF_is hv).1
         rw [List.length_append] at this
         omega
        have HI3 : Hid (idsF 12 s = ppd (acc ++ [v]) (idsF (12 - (m + 1)) r)) := by
         show _ = _
         rw [HI2.out, hv, show 12 - (m + 1) = 11 - m by omega, ppd_snoc]
         try rfl
        have R3 : Hid (RX w3 q r) := hr3
        have G3 : Hid (w.grownBy w3 (some q)) := grown_trans G2.out hg3
        have O3 : Hid (w3.ownsRow w.heap.size 2 1 (.slice sa m sc) m (acc.map (Value.int .i64))) := own_kept O2.out hg3 HQ.out
        have HZ3 : Hid (w.heap.size <= w3.heap.size) := G3.out.size
        clear hv hr3 hg3 C2 R2 G2 O2 HI2
        go_wp2_with (
         at_builtin
         refine append_int _ rfl _ _ rfl w.heap.size (.slice sa m sc) m _ rfl (O3.out.alloc _) ⟨w3.heap.size, 0, none⟩ 1 (.int .i64 v) rfl (cell_new1 _ _ _ _ (by simp)) rfl (by omega) (by have := HZ3.out; simp; omega) ?_
         intro v' w4 ho4 hg4
         have G4 : Hid (w.grownBy w4 (some q)) := grown_ownR (grown_allocR G3.out _) hg4 (fun g e => by obtain ⟨_, _, _, hb⟩ := own_sl O3.out; exact hb g e)
         have R4 : Hid (RX w4 q r) := (R3.out.alloc _).grown hg4 (fun e => by obtain ⟨_, _, _, hb⟩ := own_sl O3.out; have := hb q e.symm; have := HQ.out; omega)
         have O4 : Hid (w4.ownsRow w.heap.size 2 1 v' (m + 1) ((acc ++ [v]).map (Value.int .i64))) := by rw [List.map_append]; exact ho4
         clear hg4 ho4)
        have hlen : (acc ++ [v]).length = m + 1 := by rw [List.length_append, HM.out]; rfl
        obtain ⟨sa4, sc4, e4, -⟩ := own_sl O4.out
        subst e4
        go_roundw
        case rel => exact ⟨acc ++ [v], r, by rw [hlen]; omega, by omega, by rw [hlen]; omega, by rw [hlen]; exact HI3.out, R4.out, G4.out, by rw [hlen]; exact O4.out⟩
        case measure => simp only [slLen]; omega
      · have HF : Hid (idsF 12 s = none) := by show _ = _; rw [HI2.out, hv]; rfl
        exact ⟨rfl, .inr ⟨HF.out, rfl, grown_trans G2.out hg3⟩⟩
    · have hmI : decide ((m : Int) < 12) = false := decide_eq_false (by omega)
      have HF : Hid (idsF 12 s = none) := by
       show _ = _
       rw [HI.out, ht, show 12 - m = 0 by omega, idsF_full]
       rfl
      clear h32 ht
      generalize txt rest = a at *
      go_wp2_with fail
      refine C0.mono ?_
      rintro e w' ⟨rfl, rfl⟩
      go_wp2_with fail
      with_reducible refine (must_no _ _).mono ?_
      rintro e w' ⟨rfl, rfl⟩
      exact ⟨rfl, .inr ⟨HF.out, rfl, HG.out⟩⟩
theorem infoTx : (Tryz.prog.info? 9).map (fun i => (i.zero, i.size, i.bytes)) = some (some (Value.string ⟨#[]⟩), 1, 16) := by kernel_rfl
def strs (l : List (List UInt8)) : List Value := l.map fun x => Value.string (txt x)
theorem strs_snoc (l : List (List UInt8)) (x : List UInt8) : strs (l ++ [x]) = strs l ++ [.string (txt x)] := by simp [strs]
theorem txt_nil (r : List UInt8) : (txt r).toList.isEmpty = decide (r = []) := by
 have e0 : (txt []).toList = [] := by
  unfold ByteArray.toList
  unfold ByteArray.toList.loop
  simp [txt_size]
 by_cases h : r = []
 · subst h
   rw [e0]
   rfl
 · rw [decide_eq_false h]
   have := str_ne (f := txt r) (t := txt []) (fun e => h (txt_inj e))
   rw [e0] at this
   cases hl : (txt r).toList with
   | nil => rw [hl] at this; cases this
   | cons x l => rfl
theorem take_bt (s : List UInt8) (k : Nat) (h : k < s.length) : s.take (k + 1) = s.take k ++ [bt s k] := by
 unfold bt
 rw [List.take_add_one, List.getD_eq_getElem?_getD, List.getElem?_eq_getElem h]
 simp
theorem txt_one (s : List UInt8) (k : Nat) (h : k < s.length) : (txt s).extract k (k + 1) = txt [bt s k] := by
 apply ByteArray.ext
 unfold bt
 rw [List.getD_eq_getElem?_getD, List.getElem?_eq_getElem h]
 simp [txt]
 rw [List.drop_eq_getElem_cons h, List.take_succ_cons, List.take_zero]
theorem one_new (w : World) (x : Value) (T : TypeId) : ∀ (j : Nat) (u : Value), [x][j]? = some u -> (w.alloc (.cells #[x] T)).cell? ⟨w.heap.size, 0 + j, none⟩ = some u := fun j u hj => by
 rw [cell_of_row _ _ _ _ _ _ (heap_alloc_new w (.cells #[x] T)), Nat.zero_add]
 match j, hj with
 | 0, hj => simpa using hj
theorem own_sl9 {w : World} {base size n : Nat} {e : TypeId} {v : Value} {xs : List Value} (h : w.ownsRow base e size v n xs) : ∃ a c, v = .slice a n c /\ ∀ g, v.ownBlock = some g -> base <= g := by
 obtain ⟨_, ⟨rfl, rfl⟩ | ⟨g, c, cur, rfl, hb, _⟩⟩ := h
 · exact ⟨none, 0, rfl, fun g e => by simp [Value.ownBlock] at e⟩
 · exact ⟨some ⟨g, 0, none⟩, c, rfl, fun g' e => by simp [Value.ownBlock] at e; omega⟩
set_option maxHeartbeats 2000000 in
theorem l2Lines_any (s : List UInt8) (w : World) (hs : s.length <= 1048576) :
 Calls Tryz.prog 24 #[.string (txt s)] w fun e w' => ∃ sl, e = .returned (.tuple #[sl, .bool (decide ((sepF 10 s).2 = []))]) /\ Below w.heap.size w w' /\ w'.ownsRow w.heap.size 9 1 sl (sepF 10 s).1.length (strs (sepF 10 s).1) := by
 have HS : Hid ((txt s).size = s.length) := txt_size s
 obtain ⟨a, HA⟩ : ∃ a, Hid (txt s = a) := ⟨_, rfl⟩
 obtain ⟨n, HN⟩ : ∃ n, Hid (s.length = n) := ⟨_, rfl⟩
 rw [HA.out]
 rw [HA.out, HN.out] at HS
 rw [HN.out] at hs
 have hn : a.size = n := HS.out
 obtain ⟨O9, H9⟩ : ∃ o, Hid (sepF 10 s = o) := ⟨_, rfl⟩
 rw [H9.out]
 have B0 : Hid (Below w.heap.size w (w.alloc (.cells #[] 9))) := (Below.refl _ _).alloc (Nat.le_refl _) _
 have W0 : Hid ((w.alloc (.cells #[] 9)).ownsRow w.heap.size 9 1 (.slice (some ⟨w.heap.size, 0, none⟩) 0 0) 0 (strs [])) := World.ownsRow_made w #[] 0 (Nat.le_refl _) (by unfold maxLen; omega) (by simp)
 go_enter Tryz.func24, Tryz.ntmps24
 go_wp2_with fail
 go_loopw [4, 5, 6] (fun to tl ti wr => ∃ (k : Nat) (o : List (List UInt8)) (l : List UInt8), k <= n /\ ti = .int .i64 k /\ sepF 10 (s.take k) = (o, l) /\ tl = .string (txt l) /\ Below w.heap.size w wr /\ wr.ownsRow w.heap.size 9 1 to o.length (strs o)) (fun _ _ ti _ => n - (intOf ti).toNat)
 case atStart => exact ⟨0, [], [], Nat.zero_le _, rfl, rfl, rfl, B0.out, W0.out⟩
 case round =>
  clear B0 W0
  obtain ⟨k, o, l, hk, rfl, hsep, rfl, hb, ho⟩ := hrel
  have HSEP : Hid (sepF 10 (s.take k) = (o, l)) := hsep
  have hlen : o.length <= k /\ l.length <= k := by
   have := sep_len (p := 10) (s.take k) [] []
   have e : (s.take k).foldl (sepS 10) ([], []) = (o, l) := hsep
   rw [e, List.length_take] at this
   simp at this
   omega
  obtain ⟨hol, hll⟩ := hlen
  have BW : Hid (Below w.heap.size w wr) := hb
  have OW : Hid (wr.ownsRow w.heap.size 9 1 u4 o.length (strs o)) := ho
  clear hsep hb ho
  obtain ⟨sa, sc, e, -⟩ := own_sl9 OW.out
  subst e
  obtain ⟨m, HM⟩ : ∃ m, Hid (o.length = m) := ⟨_, rfl⟩
  rw [HM.out] at hol OW ⊢
  have hls : (txt l).size <= n := by rw [txt_size]; omega
  by_cases hlt : k < n
  · have hltI : (k : Int) < (n : Int) := by omega
    have hka : k < a.size := by rw [hn]; exact hlt
    have hix : ((a[k]'hka).toNat : Int) = ((bt s k).toNat : Int) := by
     have e := HA.out
     subst e
     rw [txt_idx]
    have HT1 : Hid (sepF 10 (s.take (k + 1)) = sepS 10 (o, l) (bt s k)) := by
     show _ = _
     rw [take_bt s k (by rw [HN.out]; exact hlt), sepF_snoc, HSEP.out]
    have hex : a.extract k (k + 1) = txt [bt s k] := by rw [<- HA.out]; exact txt_one s k (by rw [HN.out]; exact hlt)
    obtain ⟨x, HXX⟩ : ∃ x : Nat, Hid ((bt s k).toNat = x) := ⟨_, rfl⟩
    rw [HXX.out] at hix
    by_cases h10 : bt s k = 10
    · have hx10 : ((x : Int) == 10) = true := by
       have : x = 10 := by rw [<- HXX.out, h10]; rfl
       subst this
       rfl
      have HT2 : Hid (sepF 10 (s.take (k + 1)) = (o ++ [l], [])) := by show _ = _; rw [HT1.out]; simp [sepS, h10]
      clear hex HT1 h10
      go_wp2_with (
       at_builtin
       refine append_vals Tryz.underlying54 infoTx rfl (by decide) _ rfl _ _ rfl w.heap.size _ m (strs o) rfl (OW.out.alloc _) wr.heap.size 0 1 1 [.string (txt l)] rfl rfl (one_new wr _ _) (by simp [Value.oneCell']) (by omega) (by omega) (Nat.le_trans BW.out.size (by simp)) ?_
       intro v' w4 ho4 hg4 hb4 hz4
       have B4 : Hid (Below w.heap.size w w4) := (BW.out.alloc BW.out.size _).grown hg4 (Nat.le_trans BW.out.size (by simp)) (fun g e => (OW.out.lt g e).1)
       have O4 : Hid (w4.ownsRow w.heap.size 9 1 v' (m + 1) (strs (o ++ [l]))) := by rw [strs_snoc]; exact ho4
       clear ho4 hg4 hb4 hz4)
      go_roundw
      case rel => exact ⟨k + 1, o ++ [l], [], by omega, by go_num, HT2.out, rfl, B4.out, by rw [List.length_append, HM.out]; exact O4.out⟩
      case measure => simp [intOf]; omega
    · have hx10 : ((x : Int) == 10) = false := by
       have : ¬ (x = 10) := fun e => h10 (by rw [<- UInt8.toNat_inj, HXX.out, e]; rfl)
       simp
       omega
      have HT2 : Hid (sepF 10 (s.take (k + 1)) = (o, l ++ [bt s k])) := by show _ = _; rw [HT1.out]; simp [sepS, h10]
      have HTX : Hid (txt (l ++ [bt s k]) = txt l ++ txt [bt s k]) := by show _ = _; rw [txt_app]
      have h1s : (txt [bt s k]).size = 1 := by rw [txt_size]; rfl
      generalize txt [bt s k] = t1 at *
      generalize txt l = t0 at *
      clear HT1 h10
      have hw1 : IntKind.i64.wrap ((k : Int) + 1) = (k : Int) + 1 := by rw [IntKind.wrap_i64]; omega
      go_wp2_with fail
      go_roundw
      case rel => exact ⟨k + 1, o, l ++ [bt s k], by omega, by go_num, HT2.out, by rw [HTX.out], BW.out, by rw [HM.out]; exact OW.out⟩
      case measure => simp [intOf]; omega
  · have hkn : k = n := by omega
    have HE : Hid (O9 = (o, l)) := by show _ = _; rw [<- H9.out, <- HSEP.out, hkn, <- HN.out, List.take_length]
    have hnl : ¬ ((k : Int) < (n : Int)) := by omega
    have HNIL : Hid ((txt l).toList.isEmpty = decide (l = [])) := txt_nil l
    clear hkn
    obtain ⟨bb, HBB⟩ : ∃ b, Hid (decide (l = []) = b) := ⟨_, rfl⟩
    rw [HBB.out] at HNIL
    have hnil := HNIL.out
    generalize txt l = t0 at *
    go_wp2
    go_ret2
    refine ⟨.slice sa m sc, ?_, BW.out, ?_⟩
    · rw [HE.out]
      show _ = Ending.returned (.tuple #[.slice sa m sc, .bool (decide (l = []))])
      rw [HBB.out]
      rfl
    · rw [HE.out]
      simp only
      rw [HM.out]
      exact OW.out
theorem own_oth9 {w : World} {base size n k : Nat} {e T : TypeId} {v : Value} {xs : List Value} {cs : Array Value} {q : Nat × Nat} (h : w.ownsRow base e size v n xs) (hr : w.heap[k]? = some (.cells cs T q)) (hT : T ≠ e) : v.ownBlock ≠ some k := fun he => by
 rcases h.2 with ⟨rfl, _⟩ | ⟨g, c, cur, rfl, _, hg, _⟩
 · cases he
 · simp [Value.ownBlock] at he
   rw [he, hr] at hg
   simp at hg
   exact hT hg.2.1
theorem own_two {w w' : World} {b1 b2 s1 s2 n1 n2 : Nat} {e1 e2 : TypeId} {v1 v2 : Value} {x1 x2 : List Value} (h1 : w.ownsRow b1 e1 s1 v1 n1 x1) (h2 : w.ownsRow b2 e2 s2 v2 n2 x2) (hg : w.grownBy w' v2.ownBlock) (hT : e2 ≠ e1) : w'.ownsRow b1 e1 s1 v1 n1 x1 := by
 refine h1.kept hg ?_
 cases hr : v2.ownBlock with
 | none => cases hv : v1.ownBlock with | none => exact .inl rfl | some _ => right; simp
 | some g =>
   right
   obtain ⟨_, ⟨hz, _⟩ | ⟨g', c, cur, e, _, hrow, _⟩⟩ := h2
   · rw [hz] at hr; cases hr
   · rw [e] at hr
     simp [Value.ownBlock] at hr
     subst hr
     exact own_oth9 h1 hrow hT
theorem intsF_snoc : ∀ (xs : List (List UInt8)) (x : List UInt8), intsF (xs ++ [x]) = match intsF xs with | none => none | some l => match intF x with | none => none | some n => some (l ++ [(n : Int)])
 | [], x => by
   simp only [List.nil_append, intsF]
   cases intF x <;> rfl
 | y :: xs, x => by
   simp only [List.cons_append, intsF]
   rw [intsF_snoc xs x]
   cases intF y with
   | none => rfl
   | some n =>
     simp only
     cases intsF xs with
     | none => rfl
     | some l =>
       simp only
       cases intF x <;> rfl
theorem intsF_bad : ∀ (xs : List (List UInt8)) (j : Nat), j < xs.length -> intF (xs.getD j []) = none -> intsF xs = none
 | [], j, h, _ => by simp at h
 | y :: xs, 0, _, h => by
   have : intF y = none := by simpa using h
   simp [intsF, this]
 | y :: xs, j + 1, hl, h => by
   have := intsF_bad xs j (by simpa using hl) (by simpa using h)
   simp only [intsF, this]
   cases intF y <;> rfl
theorem getD_snoc_take (xs : List (List UInt8)) (j : Nat) (h : j < xs.length) : xs.take (j + 1) = xs.take j ++ [xs.getD j []] := by
 rw [List.take_add_one, List.getD_eq_getElem?_getD, List.getElem?_eq_getElem h]
 simp
theorem strs_at (xs : List (List UInt8)) (j : Nat) (h : j < xs.length) : (strs xs)[j]? = some (.string (txt (xs.getD j []))) := by
 unfold strs
 rw [List.getElem?_map, List.getD_eq_getElem?_getD, List.getElem?_eq_getElem h]
 rfl
theorem strs_set (o : List (List UInt8)) (l x : List UInt8) : (strs (o ++ [l])).set o.length (.string (txt x)) = strs (o ++ [x]) := by
 simp [strs]
theorem sep_word {p : UInt8} : ∀ (s : List UInt8) (o : List (List UInt8)) (l : List UInt8) (b : Nat), (∀ x ∈ o, x.length <= b) -> l.length + s.length <= b -> ∀ x ∈ (s.foldl (sepS p) (o, l)).1, x.length <= b
 | [], o, l, b, h, _ => h
 | c :: s, o, l, b, h, hl => by
   rw [List.foldl_cons]
   simp only [List.length_cons] at hl
   by_cases hc : c = p
   · have e : sepS p (o, l) c = (o ++ [l], []) := by simp [sepS, hc]
     rw [e]
     refine sep_word s _ _ b (fun x hx => ?_) (by simp; omega)
     rcases List.mem_append.1 hx with hx | hx
     · exact h x hx
     · rw [List.mem_singleton] at hx; subst hx; omega
   · have e : sepS p (o, l) c = (o, l ++ [c]) := by simp [sepS, hc]
     rw [e]
     exact sep_word s _ _ b h (by simp; omega)
def CutOk (w : World) (s : List UInt8) (e : Ending) (w' : World) : Prop :=
 (∃ wd l sl, cutF s = some (wd, l) /\ e = .returned (.tuple #[.string (txt wd), sl, .bool true]) /\ Below w.heap.size w w' /\ w'.ownsRow w.heap.size 2 1 sl l.length (l.map (Value.int .i64)) /\ sl ≠ .slice none 0 0) ∨ (cutF s = none /\ e = .returned (.tuple #[.string ⟨#[]⟩, .slice none 0 0, .bool false]) /\ Below w.heap.size w w')
set_option maxHeartbeats 4000000 in
set_option maxRecDepth 10000 in
theorem l2Cut_any (s : List UInt8) (w : World) (hs : s.length <= 1048576) :
 Calls Tryz.prog 11 #[.string (txt s)] w (CutOk w s) := by
 have HS : Hid ((txt s).size = s.length) := txt_size s
 obtain ⟨a, HA⟩ : ∃ a, Hid (txt s = a) := ⟨_, rfl⟩
 obtain ⟨n, HN⟩ : ∃ n, Hid (s.length = n) := ⟨_, rfl⟩
 rw [HA.out]
 rw [HA.out, HN.out] at HS
 rw [HN.out] at hs
 have hn : a.size = n := HS.out
 have B0 : Hid (Below w.heap.size w (w.alloc (.cells #[.string ⟨#[]⟩] 9))) := (Below.refl _ _).alloc (Nat.le_refl _) _
 have W0 : Hid ((w.alloc (.cells #[.string ⟨#[]⟩] 9)).ownsRow w.heap.size 9 1 (.slice (some ⟨w.heap.size, 0, none⟩) 1 1) 1 (strs [[]])) :=
  ⟨by simp [strs], .inr ⟨w.heap.size, 1, #[.string ⟨#[]⟩], rfl, Nat.le_refl _, heap_alloc_new _ _, by omega, by unfold maxLen; omega, by simp, by simp [strs, txt]⟩⟩
 go_enter Tryz.func11, Tryz.ntmps11
 go_wp2_with fail
 go_loopw [5, 6] (fun to ti wr => ∃ (k : Nat) (o : List (List UInt8)) (l : List UInt8), k <= n /\ ti = .int .i64 k /\ sepF 32 (s.take k) = (o, l) /\ Below w.heap.size w wr /\ wr.ownsRow w.heap.size 9 1 to (o.length + 1) (strs (o ++ [l]))) (fun _ ti _ => n - (intOf ti).toNat)
 case atStart => exact ⟨0, [], [], Nat.zero_le _, rfl, rfl, B0.out, W0.out⟩
 case round =>
  clear B0 W0
  obtain ⟨k, o, l, hk, rfl, hsep, hb, ho⟩ := hrel
  have HSEP : Hid (sepF 32 (s.take k) = (o, l)) := hsep
  have hlen : o.length <= k /\ l.length <= k := by
   have := sep_len (p := 32) (s.take k) [] []
   have e : (s.take k).foldl (sepS 32) ([], []) = (o, l) := hsep
   rw [e, List.length_take] at this
   simp at this
   omega
  obtain ⟨hol, hll⟩ := hlen
  have BW : Hid (Below w.heap.size w wr) := hb
  obtain ⟨m, HM⟩ : ∃ m, Hid (o.length = m) := ⟨_, rfl⟩
  rw [HM.out] at hol ho
  rcases own_kinds ho with ⟨_, h0⟩ | ⟨g, c, e, -, -⟩
  · omega
  subst e
  have OW : Hid (wr.ownsRow w.heap.size 9 1 (.slice (some ⟨g, 0, none⟩) (m + 1) c) (m + 1) (strs (o ++ [l]))) := ho
  clear hsep hb ho
  by_cases hlt : k < n
  · have hltI : (k : Int) < (n : Int) := by omega
    have hka : k < a.size := by rw [hn]; exact hlt
    have hix : ((a[k]'hka).toNat : Int) = ((bt s k).toNat : Int) := by
     have e := HA.out
     subst e
     rw [txt_idx]
    have HT1 : Hid (sepF 32 (s.take (k + 1)) = sepS 32 (o, l) (bt s k)) := by
     show _ = _
     rw [take_bt s k (by rw [HN.out]; exact hlt), sepF_snoc, HSEP.out]
    have hex : a.extract k (k + 1) = txt [bt s k] := by rw [<- HA.out]; exact txt_one s k (by rw [HN.out]; exact hlt)
    obtain ⟨x, HXX⟩ : ∃ x : Nat, Hid ((bt s k).toNat = x) := ⟨_, rfl⟩
    rw [HXX.out] at hix
    by_cases h32 : bt s k = 32
    · have hx32 : ((x : Int) == 32) = true := by
       have : x = 32 := by rw [<- HXX.out, h32]; rfl
       subst this
       rfl
      have HT2 : Hid (sepF 32 (s.take (k + 1)) = (o ++ [l], [])) := by show _ = _; rw [HT1.out]; simp [sepS, h32]
      clear hex HT1 h32
      go_wp2_with (
       at_builtin
       refine append_vals Tryz.underlying54 infoTx rfl (by decide) _ rfl _ _ rfl w.heap.size _ (m + 1) (strs (o ++ [l])) rfl (OW.out.alloc _) wr.heap.size 0 1 1 [.string ⟨#[]⟩] rfl rfl (one_new wr _ _) (by simp [Value.oneCell']) (by omega) (by omega) (Nat.le_trans BW.out.size (by simp)) ?_
       intro v' w4 ho4 hg4 hb4 hz4
       have B4 : Hid (Below w.heap.size w w4) := (BW.out.alloc BW.out.size _).grown hg4 (Nat.le_trans BW.out.size (by simp)) (fun g e => (OW.out.lt g e).1)
       have O4 : Hid (w4.ownsRow w.heap.size 9 1 v' (m + 1 + 1) (strs (o ++ [l] ++ [[]]))) := by rw [strs_snoc (o ++ [l])]; exact ho4
       clear ho4 hg4 hb4 hz4)
      go_roundw
      case rel => exact ⟨k + 1, o ++ [l], [], by omega, by go_num, HT2.out, B4.out, by rw [List.length_append, HM.out]; exact O4.out⟩
      case measure => simp [intOf]; omega
    · have hx32 : ((x : Int) == 32) = false := by
       have : ¬ (x = 32) := fun e => h32 (by rw [<- UInt8.toNat_inj, HXX.out, e]; rfl)
       simp
       omega
      have HT2 : Hid (sepF 32 (s.take (k + 1)) = (o, l ++ [bt s k])) := by show _ = _; rw [HT1.out]; simp [sepS, h32]
      have HTX : Hid (txt l ++ txt [bt s k] = txt (l ++ [bt s k])) := by show _ = _; rw [txt_app]
      have h1s : (txt [bt s k]).size = 1 := by rw [txt_size]; rfl
      have hls : (txt l).size <= n := by rw [txt_size]; omega
      obtain ⟨c0, f0⟩ := own_cellV (k := m) OW.out (by rw [<- HM.out]; simp [strs]; rfl)
      have OP : Hid (∀ v, v = txt (l ++ [bt s k]) -> (wr.setCell ⟨g, m, none⟩ (.string v)).ownsRow w.heap.size 9 1 (.slice (some ⟨g, 0, none⟩) (m + 1) c) (m + 1) (strs (o ++ [l ++ [bt s k]]))) := fun v hv => by
       have := own_putV (k := m) (.string v) OW.out
       rw [hv] at this ⊢
       rw [<- strs_set o l, HM.out]
       exact this
      have hgb : w.heap.size <= g := (OW.out.lt g rfl).1
      generalize txt (l ++ [bt s k]) = t2 at *
      generalize txt [bt s k] = t1 at *
      generalize txt l = t0 at *
      clear HT1 h32
      have hw1 : IntKind.i64.wrap ((k : Int) + 1) = (k : Int) + 1 := by rw [IntKind.wrap_i64]; omega
      have hw2 : IntKind.i64.wrap (((m + 1 : Nat) : Int) - 1) = (m : Int) := by rw [IntKind.wrap_i64]; omega
      have hmI : (m : Int) < ((m + 1 : Nat) : Int) := by omega
      have hs1 : ¬ (9223372036854775807 < t0.size + t1.size) := by omega
      go_wp2_with fail
      have c0d : wr.drew.cell? ⟨g, m, none⟩ = some (.string t0) := c0
      have f0d : wr.drew.frozen? ⟨g, m, none⟩ = false := f0
      go_region
      have O2 : Hid ((wr.setCell ⟨g, m, none⟩ (.string (t0 ++ t1))).drew.ownsRow w.heap.size 9 1 (.slice (some ⟨g, 0, none⟩) (m + 1) c) (m + 1) (strs (o ++ [l ++ [bt s k]]))) := owns_below (OP.out _ HTX.out) (Below.refl _ _).drew
      have B2 : Hid (Below w.heap.size w (wr.setCell ⟨g, m, none⟩ (.string (t0 ++ t1))).drew) := (Below.setCell BW.out (by simpa using hgb) _).drew
      clear c0 f0 c0d f0d OP
      generalize (wr.setCell ⟨g, m, none⟩ (.string (t0 ++ t1))).drew = W2 at *
      go_wp2_with fail
      go_roundw
      case rel => exact ⟨k + 1, o, l ++ [bt s k], by omega, by go_num, HT2.out, B2.out, by rw [HM.out]; exact O2.out⟩
      case measure => simp [intOf]; omega
  · have hkn : k = n := by omega
    have HE : Hid (sepF 32 s = (o, l)) := by show _ = _; rw [<- HSEP.out, hkn, <- HN.out, List.take_length]
    have hnl : ¬ ((k : Int) < (n : Int)) := by omega
    obtain ⟨w0, ws, HW⟩ : ∃ w0 ws, Hid (o ++ [l] = w0 :: ws) := by
     cases o with
     | nil => exact ⟨l, [], rfl⟩
     | cons y o => exact ⟨y, o ++ [l], rfl⟩
    have HCF : Hid (cutF s = match intsF ws with | none => none | some l => some (w0, l)) := by
     show _ = _
     unfold cutF
     rw [HE.out]
     simp only
     rw [HW.out]
     rfl
    have HWL : Hid (ws.length = m) := by
     have := congrArg List.length HW.out
     simp only [List.length_append, List.length_cons, List.length_nil, HM.out] at this
     show _ = _
     omega
    have HSZ : Hid (∀ x ∈ w0 :: ws, x.length <= 1048576) := fun x hx => by
     rw [<- HW.out] at hx
     rcases List.mem_append.1 hx with hx | hx
     · have := sep_word (p := 32) s [] [] s.length (fun x hx => by simp at hx) (by simp) x
       have e : s.foldl (sepS 32) ([], []) = (o, l) := HE.out
       rw [e] at this
       have := this hx
       rw [HN.out] at this
       omega
     · rw [List.mem_singleton] at hx
       subst hx
       omega
    rw [HW.out] at OW
    have hm1 : m + 1 <= 1048577 := by omega
    clear hkn HSEP
    have BZ : Hid (Below w.heap.size w (wr.alloc (.cells #[] 2))) := BW.out.alloc BW.out.size _
    have OZ : Hid ((wr.alloc (.cells #[] 2)).ownsRow w.heap.size 9 1 (.slice (some ⟨g, 0, none⟩) (m + 1) c) (m + 1) (strs (w0 :: ws))) := OW.out.alloc _
    have IZ : Hid ((wr.alloc (.cells #[] 2)).ownsRow w.heap.size 2 1 (.slice (some ⟨wr.heap.size, 0, none⟩) 0 0) 0 (([] : List Int).map (Value.int .i64))) := World.ownsRow_made wr #[] 0 BW.out.size (by unfold maxLen; omega) (by simp)
    go_wp2_with fail
    generalize wr.alloc (.cells #[] 2) = WZ at *
    go_loopw [8, 9] (fun to ti wr => ∃ (j : Nat) (ns : List Int), j <= m /\ ti = .int .i64 ((j + 1 : Nat) : Int) /\ intsF (ws.take j) = some ns /\ ns.length = j /\ Below w.heap.size w wr /\ wr.ownsRow w.heap.size 9 1 (.slice (some ⟨g, 0, none⟩) (m + 1) c) (m + 1) (strs (w0 :: ws)) /\ wr.ownsRow w.heap.size 2 1 to j (ns.map (Value.int .i64)) /\ to ≠ .slice none 0 0) (fun _ ti _ => m + 2 - (intOf ti).toNat)
    case atStart => exact ⟨0, [], Nat.zero_le _, rfl, rfl, rfl, BZ.out, OZ.out, IZ.out, by simp⟩
    case round =>
     clear BZ OZ IZ BW OW
     obtain ⟨j, ns, hj, rfl, hin, hnl2, hb, how, hoi, hnn⟩ := hrel
     have HIN : Hid (intsF (ws.take j) = some ns) := hin
     have BW : Hid (Below w.heap.size w wr) := hb
     have OW : Hid (wr.ownsRow w.heap.size 9 1 (.slice (some ⟨g, 0, none⟩) (m + 1) c) (m + 1) (strs (w0 :: ws))) := how
     obtain ⟨sa, sc, e, -⟩ := own_sl9 hoi
     subst e
     have HNN : Hid ((.slice sa j sc : Value) ≠ .slice none 0 0) := hnn
     have OI : Hid (wr.ownsRow w.heap.size 2 1 (.slice sa j sc) j (ns.map (Value.int .i64))) := hoi
     clear hin hb how hoi hnn
     by_cases hjm : j < m
     · have hjI : ((j + 1 : Nat) : Int) < ((m + 1 : Nat) : Int) := by omega
       have hjw : j < ws.length := by rw [HWL.out]; exact hjm
       have hcx := (own_cellV (k := j + 1) OW.out (strs_at (w0 :: ws) (j + 1) (by simp; omega))).1
       rw [show (w0 :: ws).getD (j + 1) [] = ws.getD j [] by simp] at hcx
       have hxl : (ws.getD j []).length <= 1048576 := HSZ.out _ (by
        rw [List.getD_eq_getElem?_getD, List.getElem?_eq_getElem hjw]
        simp)
       have HTK : Hid (intsF (ws.take (j + 1)) = match intF (ws.getD j []) with | none => none | some n => some (ns ++ [(n : Int)])) := by
        show _ = _
        rw [getD_snoc_take ws j hjw, intsF_snoc, HIN.out]
       have HBD : Hid (intF (ws.getD j []) = none -> intsF ws = none) := intsF_bad ws j hjw
       have C := l1Int_any (ws.getD j []) wr (by omega)
       generalize ws.getD j [] = xw at *
       clear hjw
       go_wp2_with fail
       refine C.mono ?_
       rintro e w3 ⟨rfl, ⟨v, hv, rfl⟩ | ⟨hv, rfl⟩⟩
       · have HTK2 : Hid (intsF (ws.take (j + 1)) = some (ns ++ [(v : Int)])) := by show _ = _; rw [HTK.out, hv]
         clear hv HTK HBD C hcx
         go_wp2_with (
          at_builtin
          refine append_vals Tryz.underlying22 Tryz.info2 rfl (by decide) _ rfl _ _ rfl w.heap.size (.slice sa j sc) j (ns.map (Value.int .i64)) rfl (OI.out.alloc _) w3.heap.size 0 1 1 [.int .i64 v] rfl rfl (one_new w3 _ _) (by simp [Value.oneCell']) (by omega) (by omega) (Nat.le_trans BW.out.size (by simp)) ?_
          intro v' w4 ho4 hg4 hb4 hz4
          have B4 : Hid (Below w.heap.size w w4) := (BW.out.alloc BW.out.size _).grown hg4 (Nat.le_trans BW.out.size (by simp)) (fun g e => (OI.out.lt g e).1)
          have O4 : Hid (w4.ownsRow w.heap.size 9 1 (.slice (some ⟨g, 0, none⟩) (m + 1) c) (m + 1) (strs (w0 :: ws))) := own_two (OW.out.alloc _) (OI.out.alloc _) hg4 (by decide)
          have I4 : Hid (w4.ownsRow w.heap.size 2 1 v' (j + 1) ((ns ++ [(v : Int)]).map (Value.int .i64))) := by rw [List.map_append]; exact ho4
          have N4 : Hid (v' ≠ .slice none 0 0) := fun e => HNN.out (hz4.1 e).1
          clear ho4 hg4 hb4 hz4)
         go_roundw
         case rel => exact ⟨j + 1, ns ++ [(v : Int)], by omega, by go_num, HTK2.out, by rw [List.length_append, hnl2]; rfl, B4.out, O4.out, I4.out, N4.out⟩
         case measure => simp [intOf]; omega
       · have HF : Hid (cutF s = none) := by show _ = _; rw [HCF.out, HBD.out hv]
         clear hv HTK HBD C hcx
         go_wp2
         refine bodyPost_ret (v := .tuple #[.string ⟨#[]⟩, .slice none 0 0, .bool false]) (by simp [results, Tryz.results11, go_sem]) rfl ?_
         exact .inr ⟨HF.out, rfl, BW.out⟩
     · have hjm2 : j = m := by omega
       have HF : Hid (cutF s = some (w0, ns)) := by
        show _ = _
        have := HIN.out
        rw [hjm2, <- HWL.out, List.take_length] at this
        rw [HCF.out, this]
       have hjI : ¬ (((j + 1 : Nat) : Int) < ((m + 1 : Nat) : Int)) := by omega
       have hcx := (own_cellV (k := 0) OW.out (strs_at (w0 :: ws) 0 (by simp))).1
       rw [show (w0 :: ws).getD 0 [] = w0 from rfl] at hcx
       clear hjm2
       go_wp2
       refine bodyPost_ret (v := .tuple #[.string (txt w0), .slice sa j sc, .bool true]) (by simp [results, Tryz.results11, go_sem]) rfl ?_
       exact .inl ⟨w0, ns, _, HF.out, rfl, BW.out, by rw [hnl2]; exact OI.out, HNN.out⟩
end Go.Proofs.YtcapkcallaajaaaGreatDoor
