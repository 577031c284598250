import Derived.Test.YtiojgkebdjdgbaaPack1
import Derived.Test.YtiojgkebdjdgbaaPack2
import Derived.Test.YtiojgkebdjdgbaaPack3
import Derived.Test.YtiojgkebdjdgbaaPack5
import Derived.Test.YtiojgkebdjdgbaaPack9
namespace Go.Proofs.Ytiojgkebdjdgbaa
open Go.RowKit

/-- 'make([]int64, 0, n)'. -/
theorem make_own64 (w : World) {ops : Array Oper} {rest : List Oper} {o : Oper} {a : Act} {Q : Exit → Act → World → Prop}
    (hg : o.guard = none) (l c : Operand) (hop : o.op = Op.makeSlice 24 l c) (base : Nat)
    (kl kc : IntKind) (C : Int) (n : Nat) (hl : a.eval l = .int kl 0) (hc : a.eval c = .int kc C) (hC : C = (n : Int)) (b2 : n ≤ 1048576) (b4 : base ≤ w.heap.size)
    (hK : ∀ w', w'.ownsRow base 2 1 (.slice (some ⟨w.heap.size, 0, none⟩) 0 n) 0 (([] : List Int).map (Value.int .i64)) → w.grownBy w' none → wpList Try.prog ops Q rest (a.put o.dst (.slice (some ⟨w.heap.size, 0, none⟩) 0 n)) w') :
    wpList Try.prog ops Q (o :: rest) a w := by
  obtain ⟨i0, hi, hz0, hz1, hz2⟩ := info_parts Try.info2
  exact wpList_make_own w hg l c _ hop base _ i0 _ 1 Try.underlying24 hi hz0 hz1 kl kc C n hl hc hC (by rw [hz2]; omega) (by unfold maxLen; omega) b4 hK

theorem PW.del {w W w5 : World} {g c p : Nat} {ov : Value} {L O : List Int} (h : PW w W w.heap.size (.slice (some ⟨g, 0, none⟩) L.length c) ov L O) (hp : p < L.length) (hg : W.grownBy w5 (some g)) (ho : w5.ownsRow w.heap.size 2 1 (.slice (some ⟨g, 0, none⟩) (L.length - 1) c) (L.length - 1) ((remL L p).map (Value.int .i64))) : PW w w5 w.heap.size (.slice (some ⟨g, 0, none⟩) (remL L p).length c) ov (remL L p) O := by
  have hgb : w.heap.size ≤ g := (h.l.lt g rfl).1
  refine ⟨h.b.grown hg h.b.size (fun k e => by injection e with e; omega), ⟨Nat.le_refl _, Nat.le_trans h.hB.2 hg.size⟩, ?_, h.o.kept hg (.inr fun e => h.ne (by rw [e]; rfl)), h.ne, ⟨g, c, rfl⟩, h.so⟩
  rw [remL_length hp]
  exact ho

set_option maxHeartbeats 2000000 in
theorem implPicked_any (s n k : Int) (w : World) :
    Calls Try.prog 27 #[.int .i64 s, .int .i64 n, .int .i64 k] w fun e w' => ∃ sl, e = .returned (.tuple #[sl, .int .i64 (pickS s n k)]) ∧ Below w.heap.size w w' ∧ (pickB s n k = true → sl ≠ .slice none 0 0) ∧ w'.ownsRow w.heap.size 2 1 sl (pickV s n k).length ((pickV s n k).map (Value.int .i64)) := by
  obtain ⟨R, HR⟩ : ∃ v, Hid (pickV s n k = v) := ⟨_, rfl⟩
  obtain ⟨V, HV⟩ : ∃ v, Hid (pickS s n k = v) := ⟨_, rfl⟩
  rw [HR.out, HV.out]
  cases hp : pickB s n k
  · have HE : Hid (R = [] ∧ V = -1) := by
      have := pick_no hp
      rw [HR.out, HV.out] at this
      exact this
    unfold pickB at hp
    rcases Bool.eq_false_or_eq_true (inB n 0 64) with h1 | h1 <;> rcases Bool.eq_false_or_eq_true (inB k 0 n) with h2 | h2 <;> rcases Bool.eq_false_or_eq_true (inB s 0 2147483647) with h3 | h3
    · rw [h1, h2, h3] at hp; simp at hp
    all_goals
      clear hp
      go_enter Try.func27, Try.ntmps27
      go_wp2_with (first
        | (go_at_call 36; refine (within_any _ _ _ _).mono ?_; rintro e w' ⟨rfl, hw'⟩; subst w'; first | rw [h1] | rw [h2])
        | (go_at_call 53; refine (isSeed_any _ _).mono ?_; rintro e w' ⟨rfl, hw'⟩; subst w'; rw [h3]))
      refine bodyPost_ret (v := .tuple #[.slice none 0 0, .int .i64 (-1)]) (by simp [results, Try.results27, go_sem]) rfl ⟨_, by rw [HE.out.2], Below.refl _ _, (fun h => by cases h), by rw [HE.out.1]; exact World.ownsRow_nil _ _ _ _⟩
  · obtain ⟨N, K, rfl, rfl, hN, hK, hs0, hs1⟩ := pickB_nat hp
    obtain ⟨e1, e2⟩ := pick_yes hp
    have HR1 : Hid ((pkL K (allL N) s).1 = R ∧ (pkL K (allL N) s).2 = V) := ⟨e1.symm.trans HR.out, e2.symm.trans HV.out⟩
    have h1 : inB (N : Int) 0 64 = true := inB_mk (by omega)
    have h2 : inB (K : Int) 0 N = true := inB_mk (by omega)
    have h3 : inB s 0 2147483647 = true := inB_mk (by omega)
    clear e1 e2 hp HR HV
    go_enter Try.func27, Try.ntmps27
    go_wp2_with (first
      | (go_at_call 36; refine (within_any _ _ _ _).mono ?_; rintro e w' ⟨rfl, hw'⟩; subst w'; first | rw [h1] | rw [h2])
      | (go_at_call 53; refine (isSeed_any _ _).mono ?_; rintro e w' ⟨rfl, hw'⟩; subst w'; rw [h3])
      | (refine make_own64 _ rfl _ _ rfl w.heap.size _ _ (N : Int) N rfl rfl rfl (by omega) (Nat.le_refl _) ?_
         intro w1 hown hg
         have O1 : Hid (w1.ownsRow w.heap.size 2 1 (.slice (some ⟨w.heap.size, 0, none⟩) 0 N) 0 (([] : List Int).map (Value.int .i64))) := hown
         have B1 : Hid (Below w.heap.size w w1) := (Below.refl _ _).grown hg (Nat.le_refl _) (fun k e => by cases e)
         clear hown hg))
    clear h1 h2 h3
    go_loopw [8, 29] (fun av t wr => ∃ i : Nat, i ≤ N ∧ t = .int .i64 i ∧ wr.ownsRow w.heap.size 2 1 av i ((allL i).map (Value.int .i64)) ∧ Below w.heap.size w wr ∧ av ≠ .slice none 0 0) (fun _ t _ => N - (intOf t).toNat)
    case atStart => exact ⟨0, Nat.zero_le _, rfl, O1.out, B1.out, by simp⟩
    case round =>
      clear O1 B1
      obtain ⟨i, hi, rfl, ho, hb, hn⟩ := hrel
      obtain ⟨gl, cl, rfl⟩ := own_sm ho hn
      have O1 : Hid (wr.ownsRow w.heap.size 2 1 (.slice (some ⟨gl, 0, none⟩) i cl) i ((allL i).map (Value.int .i64))) := ho
      have B1 : Hid (Below w.heap.size w wr) := hb
      clear ho hb hn
      by_cases hlt : i < N
      · have BA : Hid (Below w.heap.size w (wr.alloc (.cells #[.int .i64 (i : Int)] 2))) := B1.out.alloc B1.out.size _
        go_wp2_with (
          at_builtin
          refine append_many _ rfl _ _ rfl w.heap.size _ i (allL i) rfl (O1.out.alloc _) wr.heap.size 0 1 1 [(i : Int)] rfl rfl (ints_new1 wr i) (by omega) (by omega) (Nat.le_trans B1.out.size (by simp)) ?_
          intro v' w4 hown hg _ hnl
          have O4 : Hid (w4.ownsRow w.heap.size 2 1 v' (i + 1) ((allL (i + 1)).map (Value.int .i64))) := by rw [allL_succ]; exact hown
          have B4 : Hid (Below w.heap.size w w4) := BA.out.grown hg BA.out.size (fun k e => (O1.out.lt k e).1)
          have N4 : Hid (v' ≠ .slice none 0 0) := not_nil hnl ⟨_, _, _, rfl⟩
          clear hown hg hnl)
        go_roundw
        case rel => exact ⟨i + 1, by omega, by first | rfl | go_num, O4.out, B4.out, N4.out⟩
        case measure => simp [intOf]; omega
      · have hiN : i = N := by omega
        rw [hiN] at O1 ⊢
        clear hi hlt hiN
        go_wp2_with (
          refine make_own64 _ rfl _ _ rfl w.heap.size _ _ (K : Int) K rfl rfl rfl (by omega) B1.out.size ?_
          intro w2 hown hg
          have P1 : Hid (PW w w2 w.heap.size (.slice (some ⟨gl, 0, none⟩) N cl) (.slice (some ⟨wr.heap.size, 0, none⟩) 0 K) (allL N) []) := PW.new2 (by rw [allL_length]; exact O1.out.kept hg (.inr (by simp [Value.ownBlock]))) (B1.out.grown hg B1.out.size (fun k e => by cases e)) (by simp) hown (by simp) (fun e => by have := (O1.out.lt wr.heap.size (by rw [e]; rfl)).2; omega)
          clear hown hg)
        go_loopw [0, 8, 10, 40] (fun sv lv ov t wr => ∃ (i : Nat) (s : Int) (L O : List Int), i ≤ K ∧ L.length = N - i ∧ t = .int .i64 i ∧ sv = .int .i64 s ∧ O.length = i ∧ PW w wr w.heap.size lv ov L O ∧ O ++ (pkL (K - i) L s).1 = R ∧ (pkL (K - i) L s).2 = V) (fun _ _ _ t _ => K - (intOf t).toNat)
        case atStart => exact ⟨0, s, allL N, [], Nat.zero_le _, by rw [allL_length]; rfl, rfl, rfl, rfl, P1.out, HR1.out.1, HR1.out.2⟩
        case round =>
          clear P1
          obtain ⟨i, s, L, O, hi, hl, rfl, rfl, ho, hpw, hres, hseed⟩ := hrel
          obtain ⟨gl, cl, rfl⟩ := hpw.sl
          obtain ⟨go, co, rfl⟩ := hpw.so
          have P1 : Hid (PW w wr w.heap.size (.slice (some ⟨gl, 0, none⟩) L.length cl) (.slice (some ⟨go, 0, none⟩) O.length co) L O) := hpw
          have HL : Hid (L.length = N - i) := hl
          have HO : Hid (O.length = i) := ho
          have HRS : Hid (O ++ (pkL (K - i) L s).1 = R ∧ (pkL (K - i) L s).2 = V) := ⟨hres, hseed⟩
          clear hpw hl ho hres hseed
          rw [HO.out] at P1 ⊢
          by_cases hlt : i < K
          · have hD : 0 < L.length := by rw [HL.out]; omega
            have hDb : L.length ≤ 64 := by rw [HL.out]; omega
            obtain ⟨S, hS, hSb, hat, hatl⟩ := pick_nums s hD
            have hst := pick_step (L := L) (s := s) hlt
            obtain ⟨D, HD⟩ : ∃ D, Hid (L.length = D) := ⟨_, rfl⟩
            rw [HD.out] at hD hDb hat hatl hst P1 ⊢
            obtain ⟨p, HP⟩ : ∃ p, Hid (pkAt (randV s) D = p) := ⟨_, rfl⟩
            rw [HP.out] at hat hatl hst
            have HS : Hid (randV s = S) := hS
            rw [HS.out] at hst
            have HRS2 : Hid ((O ++ [L.getD p 0]) ++ (pkL (K - (i + 1)) (remL L p) S).1 = R ∧ (pkL (K - (i + 1)) (remL L p) S).2 = V) := by
              have h := HRS.out
              rw [hst] at h
              refine ⟨?_, h.2⟩
              rw [← h.1, List.append_assoc]; rfl
            have cx : wr.cell? ⟨gl, p, none⟩ = some (.int .i64 (L.getD p 0)) := by
              obtain ⟨_, _, e, h⟩ := owns_ints' P1.out.l HD.out p (by rw [HD.out]; exact hatl)
              simp at e
              obtain ⟨rfl, rfl⟩ := e
              rw [Nat.zero_add] at h
              exact h
            have HRL : Hid ((remL L p).length = D - 1) := by show _ = _; rw [remL_length (by rw [HD.out]; exact hatl), HD.out]
            obtain ⟨x, HX⟩ : ∃ f, Hid (L.getD p 0 = f) := ⟨_, rfl⟩
            rw [HX.out] at cx HRS2
            have hpD : (p : Int) < (D : Int) := by omega
            clear hst hS HRS
            have hib : i ≤ 64 := by omega
            go_wp2_with (first
              | (go_at_call 29; refine (implRand_any _ _).mono ?_; rintro e w' ⟨rfl, hw'⟩; subst w'; rw [HS.out])
              | (at_builtin
                 refine append_many _ rfl (.tmp 49) (.tmp 54) rfl w.heap.size _ i O rfl (by have := P1.out.o; rw [HO.out] at this; exact this.alloc _) wr.heap.size 0 1 1 [x] rfl rfl (ints_new1 wr x) (by omega) (by omega) (Nat.le_trans P1.out.hB.2 (by simp)) ?_
                 intro ov' w4 hown hg hbk hnl
                 have P4 : Hid (PW w w4 w.heap.size (.slice (some ⟨gl, 0, none⟩) D cl) ov' L (O ++ [x])) := P1.out.put (by rw [HO.out]; exact hown) hg hbk hnl
                 clear hown hg hbk hnl)
              | (go_at_call 54
                 have hdel := delete_grown gl cl p w.heap.size L w4 (by have := P4.out.l; rw [HD.out] at this ⊢; exact this) (by rw [HD.out]; exact hatl)
                 rw [HD.out, show ((p + 1 : Nat) : Int) = (p : Int) + 1 by omega] at hdel
                 refine hdel.mono ?_
                 rintro e w5 ⟨rfl, hg5, ho5⟩
                 have P5 : Hid (PW w w5 w.heap.size (.slice (some ⟨gl, 0, none⟩) (remL L p).length cl) ov' (remL L p) (O ++ [x])) := PW.del (c := cl) (by rw [HD.out]; exact P4.out) (by rw [HD.out]; exact hatl) hg5 (by rw [HD.out]; exact ho5)
                 rw [HRL.out] at P5
                 clear hdel hg5 ho5))
            go_roundw
            case rel => exact ⟨i + 1, S, remL L p, O ++ [x], by omega, by rw [HRL.out, ← HD.out, HL.out]; omega, by first | rfl | go_num, rfl, by rw [List.length_append, HO.out]; rfl, P5.out, HRS2.out.1, HRS2.out.2⟩
            case measure => simp [intOf]; omega
          · have hiK : K - i = 0 := by omega
            have HE : Hid (O = R ∧ s = V) := by
              have h := HRS.out
              rw [hiK] at h
              refine ⟨?_, h.2⟩
              rw [← h.1]
              exact (List.append_nil _).symm
            have HOR : Hid (wr.ownsRow w.heap.size 2 1 (.slice (some ⟨go, 0, none⟩) i co) R.length (R.map (Value.int .i64))) := by
              have := P1.out.o
              rw [HE.out.1] at this
              exact this
            have HB : Hid (Below w.heap.size w wr) := P1.out.b
            obtain ⟨D, HD⟩ : ∃ D, Hid (L.length = D) := ⟨_, rfl⟩
            rw [HD.out, HE.out.2]
            go_wp2
            refine bodyPost_ret (v := .tuple #[.slice (some ⟨go, 0, none⟩) i co, .int .i64 V]) (by simp [results, Try.results27, go_sem]) rfl ⟨_, rfl, HB.out, fun _ => by simp, HOR.out⟩

end Go.Proofs.Ytiojgkebdjdgbaa

namespace Go.Proofs.Ytiojgkebdjdgbaa
open Go.RowKit

set_option maxHeartbeats 400000 in
theorem big_any (a : Option Addr) (c len : Nat) (w : World) (hl : len ≤ 9223372036854775807) :
    Calls Try.prog 8 #[.slice a len c] w fun e w' => e = .returned (.bool (decide (1048576 < len))) ∧ w' = w := by
  by_cases h : 1048576 < len
  · rw [decide_eq_true h]
    go_enter Try.func8, Try.ntmps8
    go_wp2
    go_ret
    exact ⟨by first | rfl | (simp; omega), rfl⟩
  · rw [decide_eq_false h]
    go_enter Try.func8, Try.ntmps8
    go_wp2
    go_ret
    exact ⟨by first | rfl | (simp; omega), rfl⟩

set_option maxHeartbeats 400000 in
theorem lawFnPicked_big (a : Option Addr) (c len : Nat) (w : World) (hl : len ≤ 9223372036854775807) (h : 1048576 < len) :
    Calls Try.prog 7 #[.slice a len c] w fun e w' => e = .returned (.bool true) ∧ Below w.heap.size w w' := by
  have hd : decide (1048576 < len) = true := decide_eq_true h
  go_enter Try.func7, Try.ntmps7
  go_wp2_with (go_at_call 8; refine (big_any a c len w hl).mono ?_; rintro e w1 ⟨rfl, hw1⟩; subst w1; rw [hd])
  go_ret
  exact ⟨rfl, Below.refl _ _⟩

set_option maxHeartbeats 2000000 in
theorem lawFnPicked (a : Option Addr) (c : Nat) (bs : List Int) (w : World) (hA : CodeAt w a bs) (hl : bs.length ≤ 1048576) :
    Calls Try.prog 7 #[.slice a bs.length c] w fun e w' => e = .returned (.bool true) ∧ Below w.heap.size w w' := by
  have HA : Hid (CodeAt w a bs) := hA
  clear hA
  have hd : decide (1048576 < bs.length) = false := decide_eq_false (by omega)
  go_enter Try.func7, Try.ntmps7
  go_wp2_with fail
  refine (big_any a c bs.length w (by omega)).mono ?_
  rintro e w1 ⟨rfl, hw1⟩
  subst w1
  rw [hd]
  clear hd
  go_wp2_with fail
  refine (drawPicked_any a c bs w HA.out hl).mono ?_
  rintro e w1 ⟨s, n, k, rfl, hb⟩
  have B1 : Hid (Below w.heap.size w w1) := hb
  clear hb
  obtain ⟨rv, HRV⟩ : ∃ v, Hid (randV s = v) := ⟨_, rfl⟩
  have hrr : (rv != rv) = false := by simp
  have hrr2 : (rv == rv) = true := by simp
  cases hp : pickB s n k
  · -- nothing is picked
    obtain ⟨q1, q2⟩ := pick_no hp
    have HPV : Hid (pickV s n k = []) := q1
    have HPS : Hid (pickS s n k = -1) := q2
    clear hp q1 q2
    go_wp2_with fail
    refine (implPicked_any s n k _).mono ?_
    rintro e w2 ⟨sl, rfl, hb, -, ho⟩
    rw [HPV.out] at ho
    obtain ⟨ga, gc, rfl, -, hi⟩ := owns_at1 ho
    have B2 : Hid (Below w.heap.size w w2) := B1.out.trans (hb.mono B1.out.size)
    have G2 : Hid (IntsAt w2 ga []) := hi
    rw [HPS.out]
    clear hb ho hi B1
    go_wp2_with fail
    refine (specPicked_any s n k _).mono ?_
    rintro e w3 ⟨sl, rfl, hb, ho⟩
    rw [HPV.out] at ho
    obtain ⟨wa, wc, rfl, -, hi⟩ := owns_at1 ho
    have B3 : Hid (Below w.heap.size w w3) := B2.out.trans (hb.mono B2.out.size)
    have G3 : Hid (IntsAt w3 ga []) := G2.out.below hb
    have W3 : Hid (IntsAt w3 wa []) := hi
    rw [HPS.out]
    clear hb ho hi B2 G2
    go_wp2_with fail
    refine (sameInts_any _ _ _ _ [] [] _ G3.out W3.out (by simp)).mono ?_
    rintro e w4 ⟨rfl, hb⟩
    have B4 : Hid (Below w.heap.size w w4) := B3.out.trans (hb.mono B3.out.size)
    have G4 : Hid (IntsAt w4 ga []) := G3.out.below hb
    have W4 : Hid (IntsAt w4 wa []) := W3.out.below hb
    rw [show decide (([] : List Int) = []) = true by simp]
    clear hb B3 G3 W3
    go_wp2_with (first
      | (go_at_call 29; refine (implRand_any _ _).mono ?_; rintro e w' ⟨rfl, hw'⟩; subst w'; rw [HRV.out])
      | (go_at_call 30; refine (specRand_any _ _).mono ?_; rintro e w' ⟨rfl, hw'⟩; subst w'; rw [HRV.out])
      | (go_at_call 13
         refine (sameInts_any _ _ _ _ [] [] _ G4.out W4.out (by simp)).mono ?_
         rintro e w5 ⟨rfl, hb⟩
         have B5 : Hid (Below w.heap.size w w5) := B4.out.trans (hb.mono B4.out.size)
         rw [show decide (([] : List Int) = []) = true by simp]
         clear hb))
    go_ret
    exact ⟨rfl, B5.out⟩
  · obtain ⟨N, K, rfl, rfl, hN, hK, hs0, hs1⟩ := pickB_nat hp
    obtain ⟨_, _, hlen, hsd, hfa, htk, hp2⟩ := pick_facts hp
    have HPB : Hid (pickB s N K = true) := hp
    have HPT : Hid (pickB s N ((K / 2 : Nat) : Int) = true) := hp2
    obtain ⟨p, HP⟩ : ∃ p, Hid (pickV s N K = p) := ⟨_, rfl⟩
    obtain ⟨v, HV⟩ : ∃ v, Hid (pickS s N K = v) := ⟨_, rfl⟩
    rw [HP.out] at hlen hfa htk
    rw [HV.out] at hsd
    have hvv : (v != v) = false := by simp
    have HFA : Hid (∀ i, i < K → 0 ≤ p.getD i 0 ∧ p.getD i 0 < N ∧ hasTo p i (p.getD i 0) = false) := hfa
    have HLN : Hid (p.length = K) := hlen
    have HTK : Hid (pickV s N ((K / 2 : Nat) : Int) = p.take (K / 2)) := htk
    have HTL : Hid ((p.take (K / 2)).length = K / 2) := by show _ = _; rw [List.length_take, hlen]; omega
    clear hp hp2 hlen hfa htk hs0 hs1
    go_wp2_with fail
    refine (implPicked_any s N K _).mono ?_
    rintro e w2 ⟨sl, rfl, hb, hnn, ho⟩
    rw [HP.out] at ho
    obtain ⟨g, gc, rfl⟩ := own_sm ho (hnn HPB.out)
    have hcap := own_cap ho
    have B2 : Hid (Below w.heap.size w w2) := B1.out.trans (hb.mono B1.out.size)
    have G2 : Hid (IntsAt w2 (some ⟨g, 0, none⟩) p) := owns_ints ho
    rw [HV.out]
    clear hb ho B1 hnn
    go_wp2_with fail
    refine (specPicked_any s N K _).mono ?_
    rintro e w3 ⟨sl, rfl, hb, ho⟩
    rw [HP.out] at ho
    obtain ⟨wa, wc, rfl, -, hi⟩ := owns_at1 ho
    have B3 : Hid (Below w.heap.size w w3) := B2.out.trans (hb.mono B2.out.size)
    have G3 : Hid (IntsAt w3 (some ⟨g, 0, none⟩) p) := G2.out.below hb
    have W3 : Hid (IntsAt w3 wa p) := hi
    rw [HV.out]
    clear hb ho hi B2 G2
    go_wp2_with fail
    refine (sameInts_any _ _ _ _ p p _ G3.out W3.out (by rw [HLN.out]; omega)).mono ?_
    rintro e w4 ⟨rfl, hb⟩
    have B4 : Hid (Below w.heap.size w w4) := B3.out.trans (hb.mono B3.out.size)
    have G4 : Hid (IntsAt w4 (some ⟨g, 0, none⟩) p) := G3.out.below hb
    rw [show decide (p = p) = true by simp]
    clear hb B3 G3 W3
    rw [HLN.out] at hcap ⊢
    go_wp2_with (first
      | (go_at_call 29; refine (implRand_any _ _).mono ?_; rintro e w' ⟨rfl, hw'⟩; subst w'; rw [HRV.out])
      | (go_at_call 30; refine (specRand_any _ _).mono ?_; rintro e w' ⟨rfl, hw'⟩; subst w'; rw [HRV.out]))
    go_loopw [10] (fun t wr => ∃ i : Nat, i ≤ K ∧ t = .int .i64 i ∧ Below w.heap.size w wr ∧ IntsAt wr (some ⟨g, 0, none⟩) p) (fun t _ => K - (intOf t).toNat)
    case atStart => exact ⟨0, Nat.zero_le _, rfl, B4.out, G4.out⟩
    case round =>
      clear B4 G4
      obtain ⟨i, hi, rfl, hb, hg⟩ := hrel
      have B4 : Hid (Below w.heap.size w wr) := hb
      have G4 : Hid (IntsAt wr (some ⟨g, 0, none⟩) p) := hg
      clear hb hg
      by_cases hlt : i < K
      · obtain ⟨hx0, hx1, hx2⟩ := HFA.out i hlt
        have cx : wr.cell? ⟨g, i, none⟩ = some (.int .i64 (p.getD i 0)) := by
          obtain ⟨_, _, e, h⟩ := G4.out i (by rw [HLN.out]; exact hlt)
          simp at e
          obtain ⟨rfl, rfl⟩ := e
          rw [Nat.zero_add] at h
          exact h
        have HX2 : Hid (hasTo p i (p.getD i 0) = false) := hx2
        obtain ⟨x, HX⟩ : ∃ f, Hid (p.getD i 0 = f) := ⟨_, rfl⟩
        rw [HX.out] at cx hx0 hx1 HX2
        clear hx2
        have hic : i ≤ gc := by omega
        have HHS : Hid (∀ N', Calls Try.prog 31 #[.slice (some ⟨g, 0, none⟩) i gc, .int .i64 x] (wr.drewN N') fun e w' => e = .returned (.bool false) ∧ w' = wr.drewN N') := by
          intro N'
          have := lawsHas_any (some ⟨g, 0, none⟩) i gc x p (wr.drewN N') (G4.out.below (below_drewN (Below.refl _ _) _)) (by rw [HLN.out]; exact hi) (by omega)
          rw [HX2.out] at this
          exact this
        go_wp2
        go_quiet ((go_at_call 31; exact Calls.quiet_of_same (HHS.out _)))
        go_wp2
        refine ⟨⟨i + 1, by omega, by go_num, below_drewN B4.out _, G4.out.below (below_drewN (Below.refl _ _) _)⟩, by simp [intOf]; omega⟩
      · have hiK : i = K := by omega
        clear hi hlt
        obtain ⟨h, HH⟩ : ∃ h, Hid (K / 2 = h) := ⟨_, rfl⟩
        have hk2 : (K : Int) / 2 = (h : Nat) := by have := HH.out; omega
        have hhK : h ≤ K := by have := HH.out; omega
        rw [HH.out] at HTK HTL HPT
        rw [hiK]
        clear hiK
        have hgc : h ≤ gc := by omega
        have hkk : ((K : Int) == (K : Int)) = true := by simp
        go_wp2_with (first
          | (go_at_call 27
             refine (implPicked_any s N (h : Nat) _).mono ?_
             rintro e w5 ⟨sl, rfl, hb, -, ho⟩
             rw [HTK.out] at ho
             obtain ⟨fa, fc, rfl, -, hif⟩ := owns_at1 ho
             have B5 : Hid (Below w.heap.size w w5) := B4.out.trans (hb.mono B4.out.size)
             have F5 : Hid (IntsAt w5 fa (p.take h)) := hif
             have G5 : Hid (IntsAt w5 (some ⟨g, 0, none⟩) (p.take h)) := ints_take' (G4.out.below hb) h
             rw [HTL.out]
             clear hb ho hif)
          | (go_at_call 13
             have hsm := sameInts_any fa (some ⟨g, 0, none⟩) fc gc (p.take h) (p.take h) w5 F5.out G5.out (by rw [HTL.out]; omega)
             rw [HTL.out, show decide (p.take h = p.take h) = true by simp] at hsm
             refine hsm.mono ?_
             rintro e w6 ⟨rfl, hb⟩
             have B6 : Hid (Below w.heap.size w w6) := B5.out.trans (hb.mono B5.out.size)
             clear hb hsm))
        go_ret
        exact ⟨by first | rfl | simp, B6.out⟩

theorem lawFnPicked_all (a : Option Addr) (c : Nat) (bs : List Int) (w : World) (hA : CodeAt w a bs) (hl : bs.length ≤ 9223372036854775807) :
    Calls Try.prog 7 #[.slice a bs.length c] w fun e w' => e = .returned (.bool true) ∧ Below w.heap.size w w' := by
  by_cases h : bs.length ≤ 1048576
  · exact lawFnPicked a c bs w hA h
  · exact lawFnPicked_big a c _ w hl (by omega)

end Go.Proofs.Ytiojgkebdjdgbaa
