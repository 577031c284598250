import Derived.Test.YtdbdmlabfbmjfaaGreatPack1
import Derived.Test.YtdbdmlabfbmjfaaGreatPack13
import Derived.Test.YtdbdmlabfbmjfaaGreatPack26
namespace Go.Proofs.YtdbdmlabfbmjfaaGreat
open Go.RowKit
theorem make_own64 (w : World) {ops : Array Oper} {rest : List Oper} {o : Oper} {a : Act} {Q : Exit -> Act -> World -> Prop}
   (hg : o.guard = none) (l c : Operand) (hop : o.op = Op.makeSlice 24 l c) (base : Nat)
   (kl kc : IntKind) (C : Int) (n : Nat) (hl : a.eval l = .int kl 0) (hc : a.eval c = .int kc C) (hC : C = (n : Int)) (b2 : n <= 1048576) (b4 : base <= w.heap.size)
   (hK : ∀ w', w'.ownsRow base 2 1 (.slice (some ⟨w.heap.size, 0, none⟩) 0 n) 0 (([] : List Int).map (Value.int .i64)) -> w.grownBy w' none -> wpList Tryz.prog ops Q rest (a.put o.dst (.slice (some ⟨w.heap.size, 0, none⟩) 0 n)) w') :
   wpList Tryz.prog ops Q (o :: rest) a w := by
 obtain ⟨i0, hi, hz0, hz1, hz2⟩ := info_parts Tryz.info2
 exact wpList_make_own w hg l c _ hop base _ i0 _ 1 Tryz.underlying24 hi hz0 hz1 kl kc C n hl hc hC (by rw [hz2]; omega) (by unfold maxLen; omega) b4 hK
theorem PW.del {w W w5 : World} {g c p : Nat} {ov : Value} {L O : List Int} (h : PW w W w.heap.size (.slice (some ⟨g, 0, none⟩) L.length c) ov L O) (hp : p < L.length) (hg : W.grownBy w5 (some g)) (ho : w5.ownsRow w.heap.size 2 1 (.slice (some ⟨g, 0, none⟩) (L.length - 1) c) (L.length - 1) ((remL L p).map (Value.int .i64))) : PW w w5 w.heap.size (.slice (some ⟨g, 0, none⟩) (remL L p).length c) ov (remL L p) O := by
 have hgb : w.heap.size <= g := (h.l.lt g rfl).1
 refine ⟨h.b.grown hg h.b.size (fun k e => by injection e with e; omega), ⟨Nat.le_refl _, Nat.le_trans h.hB.2 hg.size⟩, ?_, h.o.kept hg (.inr fun e => h.ne (by rw [e]; rfl)), h.ne, ⟨g, c, rfl⟩, h.so⟩
 rw [remL_length hp]
 exact ho
set_option maxHeartbeats 2000000 in
theorem implPicked_any (s n k : Int) (w : World) :
   Calls Tryz.prog 45 #[.int .i64 s, .int .i64 n, .int .i64 k] w fun e w' => ∃ sl, e = .returned (.tuple #[sl, .int .i64 (pickS s n k)]) /\ Below w.heap.size w w' /\ (pickB s n k = true -> sl ≠ .slice none 0 0) /\ w'.ownsRow w.heap.size 2 1 sl (pickV s n k).length ((pickV s n k).map (Value.int .i64)) := by
 obtain ⟨R, HR⟩ : ∃ v, Hid (pickV s n k = v) := ⟨_, rfl⟩
 obtain ⟨V, HV⟩ : ∃ v, Hid (pickS s n k = v) := ⟨_, rfl⟩
 rw [HR.out, HV.out]
 cases hp : pickB s n k
 · have HE : Hid (R = [] /\ V = -1) := by
     have := pick_no hp
     rw [HR.out, HV.out] at this
     exact this
   unfold pickB at hp
   rcases Bool.eq_false_or_eq_true (inB n 0 64) with h1 | h1 <;> rcases Bool.eq_false_or_eq_true (inB k 0 n) with h2 | h2 <;> rcases Bool.eq_false_or_eq_true (inB s 0 2147483647) with h3 | h3
   · rw [h1, h2, h3] at hp; simp at hp
   all_goals
     clear hp
     go_enter Tryz.func45, Tryz.ntmps45
     go_wp2_with (first
       | (go_at_call 17; refine (within_any _ _ _ _).mono ?_; rintro e w' ⟨rfl, hw'⟩; subst w'; first | rw [h1] | rw [h2])
       | (go_at_call 18; refine (isSeed_any _ _).mono ?_; rintro e w' ⟨rfl, hw'⟩; subst w'; rw [h3]))
     refine bodyPost_ret (v := .tuple #[.slice none 0 0, .int .i64 (-1)]) (by simp [results, Tryz.results45, go_sem]) rfl ⟨_, by rw [HE.out.2], Below.refl _ _, (fun h => by cases h), by rw [HE.out.1]; exact World.ownsRow_nil _ _ _ _⟩
 · obtain ⟨N, K, rfl, rfl, hN, hK, hs0, hs1⟩ := pickB_nat hp
   obtain ⟨e1, e2⟩ := pick_yes hp
   have HR1 : Hid ((pkL K (allL N) s).1 = R /\ (pkL K (allL N) s).2 = V) := ⟨e1.symm.trans HR.out, e2.symm.trans HV.out⟩
   have h1 : inB (N : Int) 0 64 = true := inB_mk (by omega)
   have h2 : inB (K : Int) 0 N = true := inB_mk (by omega)
   have h3 : inB s 0 2147483647 = true := inB_mk (by omega)
   clear e1 e2 hp HR HV
   go_enter Tryz.func45, Tryz.ntmps45
   go_wp2_with (first
     | (go_at_call 17; refine (within_any _ _ _ _).mono ?_; rintro e w' ⟨rfl, hw'⟩; subst w'; first | rw [h1] | rw [h2])
     | (go_at_call 18; refine (isSeed_any _ _).mono ?_; rintro e w' ⟨rfl, hw'⟩; subst w'; rw [h3])
     | (refine make_own64 _ rfl _ _ rfl w.heap.size _ _ (N : Int) N rfl rfl rfl (by omega) (Nat.le_refl _) ?_
        intro w1 hown hg
        have O1 : Hid (w1.ownsRow w.heap.size 2 1 (.slice (some ⟨w.heap.size, 0, none⟩) 0 N) 0 (([] : List Int).map (Value.int .i64))) := hown
        have B1 : Hid (Below w.heap.size w w1) := (Below.refl _ _).grown hg (Nat.le_refl _) (fun k e => by cases e)
        clear hown hg))
   clear h1 h2 h3
   go_loopw [8, 29] (fun av t wr => ∃ i : Nat, i <= N /\ t = .int .i64 i /\ wr.ownsRow w.heap.size 2 1 av i ((allL i).map (Value.int .i64)) /\ Below w.heap.size w wr /\ av ≠ .slice none 0 0) (fun _ t _ => N - (intOf t).toNat)
   case atStart => exact ⟨0, Nat.zero_le _, rfl, O1.out, B1.out, by simp⟩
   case round =>
     clear O1 B1
     obtain ⟨i, hi, rfl, ho, hb, hn⟩ := hrel
     obtain ⟨gl, cl, rfl⟩ := own_sm ho hn
     have O1 : Hid (wr.ownsRow w.heap.size 2 1 (.slice (some ⟨gl, 0, none⟩) i cl) i ((allL i).map (Value.int .i64))) := ho
     have B1 : Hid (Below w.heap.size w wr) := hb
     clear ho hb hn
     by_cases hlt : i < N
     · have BA : Hid (Below w.heap.size w (wr.alloc (.cells #[.int .i64 (i : Int)] 2))) := B1.out.alloc B1.out.size _
       go_wp2_with (
         at_builtin
         refine append_many _ rfl _ _ rfl w.heap.size _ i (allL i) rfl (O1.out.alloc _) wr.heap.size 0 1 1 [(i : Int)] rfl rfl (ints_new1 wr i) (by omega) (by omega) (Nat.le_trans B1.out.size (by simp)) ?_
         intro v' w4 hown hg _ hnl
         have O4 : Hid (w4.ownsRow w.heap.size 2 1 v' (i + 1) ((allL (i + 1)).map (Value.int .i64))) := by rw [allL_succ]; exact hown
         have B4 : Hid (Below w.heap.size w w4) := BA.out.grown hg BA.out.size (fun k e => (O1.out.lt k e).1)
         have N4 : Hid (v' ≠ .slice none 0 0) := not_nil hnl ⟨_, _, _, rfl⟩
         clear hown hg hnl)
       go_roundw
       case rel => exact ⟨i + 1, by omega, by first | rfl | go_num, O4.out, B4.out, N4.out⟩
       case measure => simp [intOf]; omega
     · have hiN : i = N := by omega
       rw [hiN] at O1 ⊢
       clear hi hlt hiN
       go_wp2_with (
         refine make_own64 _ rfl _ _ rfl w.heap.size _ _ (K : Int) K rfl rfl rfl (by omega) B1.out.size ?_
         intro w2 hown hg
         have P1 : Hid (PW w w2 w.heap.size (.slice (some ⟨gl, 0, none⟩) N cl) (.slice (some ⟨wr.heap.size, 0, none⟩) 0 K) (allL N) []) := PW.new2 (by rw [allL_length]; exact O1.out.kept hg (.inr (by simp [Value.ownBlock]))) (B1.out.grown hg B1.out.size (fun k e => by cases e)) (by simp) hown (by simp) (fun e => by have := (O1.out.lt wr.heap.size (by rw [e]; rfl)).2; omega)
         clear hown hg)
       go_loopw [0, 8, 10, 40] (fun sv lv ov t wr => ∃ (i : Nat) (s : Int) (L O : List Int), i <= K /\ L.length = N - i /\ t = .int .i64 i /\ sv = .int .i64 s /\ O.length = i /\ PW w wr w.heap.size lv ov L O /\ O ++ (pkL (K - i) L s).1 = R /\ (pkL (K - i) L s).2 = V) (fun _ _ _ t _ => K - (intOf t).toNat)
       case atStart => exact ⟨0, s, allL N, [], Nat.zero_le _, by rw [allL_length]; rfl, rfl, rfl, rfl, P1.out, HR1.out.1, HR1.out.2⟩
       case round =>
         clear P1
         obtain ⟨i, s, L, O, hi, hl, rfl, rfl, ho, hpw, hres, hseed⟩ := hrel
         obtain ⟨gl, cl, rfl⟩ := hpw.sl
         obtain ⟨go, co, rfl⟩ := hpw.so
         have P1 : Hid (PW w wr w.heap.size (.slice (some ⟨gl, 0, none⟩) L.length cl) (.slice (some ⟨go, 0, none⟩) O.length co) L O) := hpw
         have HL : Hid (L.length = N - i) := hl
         have HO : Hid (O.length = i) := ho
         have HRS : Hid (O ++ (pkL (K - i) L s).1 = R /\ (pkL (K - i) L s).2 = V) := ⟨hres, hseed⟩
         clear hpw hl ho hres hseed
         rw [HO.out] at P1 ⊢
         by_cases hlt : i < K
         · have hD : 0 < L.length := by rw [HL.out]; omega
           have hDb : L.length <= 64 := by rw [HL.out]; omega
           obtain ⟨S, hS, hSb, hat, hatl⟩ := pick_nums s hD
           have hst := pick_step (L := L) (s := s) hlt
           obtain ⟨D, HD⟩ : ∃ D, Hid (L.length = D) := ⟨_, rfl⟩
           rw [HD.out] at hD hDb hat hatl hst P1 ⊢
           obtain ⟨p, HP⟩ : ∃ p, Hid (pkAt (randV s) D = p) := ⟨_, rfl⟩
           rw [HP.out] at hat hatl hst
           have HS : Hid (randV s = S) := hS
           rw [HS.out] at hst
           have HRS2 : Hid ((O ++ [L.getD p 0]) ++ (pkL (K - (i + 1)) (remL L p) S).1 = R /\ (pkL (K - (i + 1)) (remL L p) S).2 = V) := by
             have h := HRS.out
             rw [hst] at h
             refine ⟨?_, h.2⟩
             rw [<- h.1, List.append_assoc]; rfl
           have cx : wr.cell? ⟨gl, p, none⟩ = some (.int .i64 (L.getD p 0)) := by
             obtain ⟨_, _, e, h⟩ := owns_ints' P1.out.l HD.out p (by rw [HD.out]; exact hatl)
             simp at e
             obtain ⟨rfl, rfl⟩ := e
             rw [Nat.zero_add] at h
             exact h
           have HRL : Hid ((remL L p).length = D - 1) := by show _ = _; rw [remL_length (by rw [HD.out]; exact hatl), HD.out]
           obtain ⟨x, HX⟩ : ∃ f, Hid (L.getD p 0 = f) := ⟨_, rfl⟩
           rw [HX.out] at cx HRS2
           have hpD : (p : Int) < (D : Int) := by omega
           clear hst hS HRS
           have hib : i <= 64 := by omega
           go_wp2_with (first
             | (go_at_call 64; refine (implRand_any _ _).mono ?_; rintro e w' ⟨rfl, hw'⟩; subst w'; rw [HS.out])
             | (at_builtin
                refine append_many _ rfl (.tmp 49) (.tmp 54) rfl w.heap.size _ i O rfl (by have := P1.out.o; rw [HO.out] at this; exact this.alloc _) wr.heap.size 0 1 1 [x] rfl rfl (ints_new1 wr x) (by omega) (by omega) (Nat.le_trans P1.out.hB.2 (by simp)) ?_
                intro ov' w4 hown hg hbk hnl
                have P4 : Hid (PW w w4 w.heap.size (.slice (some ⟨gl, 0, none⟩) D cl) ov' L (O ++ [x])) := P1.out.put (by rw [HO.out]; exact hown) hg hbk hnl
                clear hown hg hbk hnl)
             | (go_at_call 65
                have hdel := delete_grown gl cl p w.heap.size L w4 (by have := P4.out.l; rw [HD.out] at this ⊢; exact this) (by rw [HD.out]; exact hatl)
                rw [HD.out, show ((p + 1 : Nat) : Int) = (p : Int) + 1 by omega] at hdel
                refine hdel.mono ?_
                rintro e w5 ⟨rfl, hg5, ho5⟩
                have P5 : Hid (PW w w5 w.heap.size (.slice (some ⟨gl, 0, none⟩) (remL L p).length cl) ov' (remL L p) (O ++ [x])) := PW.del (c := cl) (by rw [HD.out]; exact P4.out) (by rw [HD.out]; exact hatl) hg5 (by rw [HD.out]; exact ho5)
                rw [HRL.out] at P5
                clear hdel hg5 ho5))
           go_roundw
           case rel => exact ⟨i + 1, S, remL L p, O ++ [x], by omega, by rw [HRL.out, <- HD.out, HL.out]; omega, by first | rfl | go_num, rfl, by rw [List.length_append, HO.out]; rfl, P5.out, HRS2.out.1, HRS2.out.2⟩
           case measure => simp [intOf]; omega
         · have hiK : K - i = 0 := by omega
           have HE : Hid (O = R /\ s = V) := by
             have h := HRS.out
             rw [hiK] at h
             refine ⟨?_, h.2⟩
             rw [<- h.1]
             exact (List.append_nil _).symm
           have HOR : Hid (wr.ownsRow w.heap.size 2 1 (.slice (some ⟨go, 0, none⟩) i co) R.length (R.map (Value.int .i64))) := by
             have := P1.out.o
             rw [HE.out.1] at this
             exact this
           have HB : Hid (Below w.heap.size w wr) := P1.out.b
           obtain ⟨D, HD⟩ : ∃ D, Hid (L.length = D) := ⟨_, rfl⟩
           rw [HD.out, HE.out.2]
           go_wp2
           refine bodyPost_ret (v := .tuple #[.slice (some ⟨go, 0, none⟩) i co, .int .i64 V]) (by simp [results, Tryz.results45, go_sem]) rfl ⟨_, rfl, HB.out, fun _ => by simp, HOR.out⟩
end Go.Proofs.YtdbdmlabfbmjfaaGreat
