import Derived.Test.YtiojgkebdjdgbaaPack1
import Derived.Test.YtiojgkebdjdgbaaPack2
import Derived.Test.YtiojgkebdjdgbaaPack5
namespace Go.Proofs.Ytiojgkebdjdgbaa
open Go.RowKit

theorem own_new0 (W : World) : (W.alloc (.cells #[] 2)).ownsRow W.heap.size 2 1 (.slice (some ⟨W.heap.size, 0, none⟩) 0 0) ([] : List Int).length (([] : List Int).map (Value.int .i64)) := World.ownsRow_made W #[] 0 (Nat.le_refl _) (by unfold maxLen; omega) (by simp)

set_option maxHeartbeats 1000000 in
theorem l4Cut_any (b off c : Nat) (L : List Int) (v : Int) (w : World) (hA : IntsAt w (some ⟨b, off, none⟩) L) (hl : L.length ≤ 1000) :
    Calls Try.prog 55 #[.slice (some ⟨b, off, none⟩) L.length c, .int .i64 v] w fun e w' => ∃ g cg, e = .returned (.slice (some ⟨g, 0, none⟩) (cutL L v).length cg) ∧ Below w.heap.size w w' ∧ w'.ownsRow w.heap.size 2 1 (.slice (some ⟨g, 0, none⟩) (cutL L v).length cg) (cutL L v).length ((cutL L v).map (Value.int .i64)) := by
  have HA : Hid (IntsAt w (some ⟨b, off, none⟩) L) := hA
  clear hA
  obtain ⟨n, HN⟩ : ∃ n, Hid (L.length = n) := ⟨_, rfl⟩
  obtain ⟨R, HR⟩ : ∃ R, Hid (cutL L v = R) := ⟨_, rfl⟩
  rw [HN.out] at hl ⊢
  rw [HR.out]
  have OB : Hid (Below w.heap.size w (w.alloc (.cells #[] 2))) := (Below.refl _ _).alloc (Nat.le_refl _) _
  go_enter Try.func55, Try.ntmps55
  go_wp2_with fail
  go_loopw [5, 6] (fun av t wr => ∃ k : Nat, k ≤ n ∧ t = .int .i64 k ∧ wr.ownsRow w.heap.size 2 1 av (cutL (L.take k) v).length ((cutL (L.take k) v).map (Value.int .i64)) ∧ Below w.heap.size w wr ∧ av ≠ .slice none 0 0) (fun _ t _ => n - (intOf t).toNat)
  case atStart => exact ⟨0, Nat.zero_le _, rfl, own_new0 w, OB.out, by simp⟩
  case round =>
    clear OB
    obtain ⟨k, hk, rfl, ho, hb, hn⟩ := hrel
    have hcl : (cutL (L.take k) v).length ≤ 1000 := Nat.le_trans (cutL_le _ _) (by rw [List.length_take]; omega)
    obtain ⟨C, HC⟩ : ∃ C, Hid (cutL (L.take k) v = C) := ⟨_, rfl⟩
    rw [HC.out] at ho hcl
    obtain ⟨g, cg, rfl⟩ := own_sm ho hn
    obtain ⟨m, HM⟩ : ∃ n, Hid (C.length = n) := ⟨_, rfl⟩
    rw [HM.out] at ho hcl ⊢
    have O1 : Hid (wr.ownsRow w.heap.size 2 1 (.slice (some ⟨g, 0, none⟩) m cg) m (C.map (Value.int .i64))) := ho
    have B1 : Hid (Below w.heap.size w wr) := hb
    clear ho hb hn
    by_cases hlt : k < n
    · have hs := cutL_take_succ L v k (by rw [HN.out]; exact hlt)
      have cx : wr.cell? ⟨b, off + k, none⟩ = some (.int .i64 (L.getD k 0)) := by
        obtain ⟨_, _, e, h⟩ := (HA.out.below B1.out) k (by rw [HN.out]; exact hlt)
        simp at e
        obtain ⟨rfl, rfl⟩ := e
        exact h
      obtain ⟨x, HX⟩ : ∃ f, Hid (L.getD k 0 = f) := ⟨_, rfl⟩
      rw [HX.out] at cx hs
      rw [HC.out] at hs
      by_cases hxv : x = v
      · rw [if_pos hxv] at hs
        have HS : Hid (cutL (L.take (k + 1)) v = C) := hs
        clear hs
        go_wp2
        go_roundw
        case rel => exact ⟨k + 1, by omega, by first | rfl | go_num, by rw [HS.out, HM.out]; exact O1.out, B1.out, by simp⟩
        case measure => simp [intOf]; omega
      · rw [if_neg hxv] at hs
        have HS : Hid (cutL (L.take (k + 1)) v = C ++ [x]) := hs
        clear hs
        have BA : Hid (Below w.heap.size w (wr.alloc (.cells #[.int .i64 x] 2))) := B1.out.alloc B1.out.size _
        go_wp2_with (
          at_builtin
          refine append_many _ rfl _ _ rfl w.heap.size _ m C rfl (O1.out.alloc _) wr.heap.size 0 1 1 [x] rfl rfl (ints_new1 wr x) (by omega) (by omega) (Nat.le_trans B1.out.size (by simp)) ?_
          intro v' w4 hown hg _ hnl
          have O4 : Hid (w4.ownsRow w.heap.size 2 1 v' (m + 1) ((C ++ [x]).map (Value.int .i64))) := hown
          have B4 : Hid (Below w.heap.size w w4) := BA.out.grown hg BA.out.size (fun k e => (O1.out.lt k e).1)
          have N4 : Hid (v' ≠ .slice none 0 0) := not_nil hnl ⟨_, _, _, rfl⟩
          clear hown hg hnl)
        go_roundw
        case rel => exact ⟨k + 1, by omega, by first | rfl | go_num, by rw [HS.out, List.length_append, HM.out]; exact O4.out, B4.out, N4.out⟩
        case measure => simp [intOf]; omega
    · have hkn : k = n := by omega
      have HE : Hid (C = R) := by
        have := HC.out
        rw [hkn, ← HN.out, List.take_length, HR.out] at this
        exact this.symm
      have HRM : Hid (R.length = m) := by show _ = _; rw [← HE.out]; exact HM.out
      rw [HE.out] at O1
      go_wp2
      go_ret
      refine ⟨g, cg, by rw [HRM.out]; rfl, B1.out, by rw [HRM.out]; exact O1.out⟩

end Go.Proofs.Ytiojgkebdjdgbaa

namespace Go.Proofs.Ytiojgkebdjdgbaa
open Go.RowKit

theorem PW.cut {w W w4 : World} {lv ov : Value} {L O C : List Int} {g c : Nat} (h : PW w W w.heap.size lv ov L O) (hb : Below W.heap.size W w4) (ho : w4.ownsRow W.heap.size 2 1 (.slice (some ⟨g, 0, none⟩) C.length c) C.length (C.map (Value.int .i64))) : PW w w4 w.heap.size (.slice (some ⟨g, 0, none⟩) C.length c) ov C O := by
  refine ⟨h.b.trans (hb.mono h.b.size), ⟨Nat.le_refl _, Nat.le_trans h.hB.2 hb.size⟩, owns_base ho h.hB.2, owns_below h.o hb, ?_, ⟨g, c, rfl⟩, h.so⟩
  intro e
  have h1 := (ho.lt g rfl).1
  have h2 := (h.o.lt g (by rw [← e]; rfl)).2
  omega
theorem PW.lput {w W w4 : World} {B : Nat} {lv ov lv' : Value} {L O : List Int} {x : Int} {o : Obj} (h : PW w W B lv ov L O) (hown : w4.ownsRow B 2 1 lv' (L.length + 1) ((L ++ [x]).map (Value.int .i64))) (hg : (W.alloc o).grownBy w4 lv.ownBlock) (hbk : lv'.ownBlock = lv.ownBlock ∨ lv'.ownBlock = some (W.alloc o).heap.size) (hn : lv' = .slice none 0 0 ↔ lv = .slice none 0 0 ∧ 1 = 0) : PW w w4 B lv' ov (L ++ [x]) O := by
  have hA : Below w.heap.size w (W.alloc o) := h.b.alloc h.b.size _
  have hlt : ∀ g, ov.ownBlock = some g → g < W.heap.size := fun g e => (h.o.lt g e).2
  refine ⟨hA.grown hg hA.size (fun k e => by have := (h.l.lt k e).1; have := h.hB.1; omega), ⟨h.hB.1, Nat.le_trans h.hB.2 (Nat.le_trans (by simp) hg.size)⟩, ?_, (h.o.alloc o).kept hg (.inr h.ne.symm), ?_, ?_, h.so⟩
  · rw [List.length_append]; exact hown
  · rcases hbk with e | e
    · rw [e]; exact h.ne
    · rw [e]
      intro e2
      have := hlt _ e2.symm
      simp at this
      omega
  · rw [List.length_append]
    obtain ⟨g, c, e⟩ := h.sl
    exact own_sm hown (not_nil hn ⟨g, _, c, e⟩)
theorem pick_step {K i : Nat} {L : List Int} {s : Int} (h : i < K) : pkL (K - i) L s = (L.getD (pkAt (randV s) L.length) 0 :: (pkL (K - (i + 1)) (remL L (pkAt (randV s) L.length)) (randV s)).1, (pkL (K - (i + 1)) (remL L (pkAt (randV s) L.length)) (randV s)).2) := by
  rw [show K - i = (K - (i + 1)) + 1 by omega]
  rfl
/-- The numbers of one pick. -/
theorem pick_nums (s : Int) {D : Nat} (h : 0 < D) : ∃ S : Nat, randV s = S ∧ S ≤ 2147483647 ∧ (S : Int) / 65536 % (D : Int) = (pkAt (randV s) D : Nat) ∧ pkAt (randV s) D < D := by
  have h1 := inB_true (randV_in s)
  refine ⟨(randV s).toNat, by omega, by omega, ?_, pkAt_lt h⟩
  rw [← pkAt_is h]
  congr 2
  omega
theorem PW.new2 {w W : World} {lv ov : Value} {L : List Int} (ho : W.ownsRow w.heap.size 2 1 lv L.length (L.map (Value.int .i64))) (hb : Below w.heap.size w W) (hn : lv ≠ .slice none 0 0) (hx : W.ownsRow w.heap.size 2 1 ov 0 (([] : List Int).map (Value.int .i64))) (hm : ov ≠ .slice none 0 0) (hne : lv.ownBlock ≠ ov.ownBlock) : PW w W w.heap.size lv ov L [] :=
  ⟨hb, ⟨Nat.le_refl _, hb.size⟩, ho, hx, hne, own_sm ho hn, own_sm hx hm⟩

set_option maxHeartbeats 2000000 in
theorem specPicked_any (s n k : Int) (w : World) :
    Calls Try.prog 28 #[.int .i64 s, .int .i64 n, .int .i64 k] w fun e w' => ∃ sl, e = .returned (.tuple #[sl, .int .i64 (pickS s n k)]) ∧ Below w.heap.size w w' ∧ w'.ownsRow w.heap.size 2 1 sl (pickV s n k).length ((pickV s n k).map (Value.int .i64)) := by
  have OB : Hid (Below w.heap.size w (w.alloc (.cells #[] 2))) := (Below.refl _ _).alloc (Nat.le_refl _) _
  have ON : Hid ((w.alloc (.cells #[] 2)).ownsRow w.heap.size 2 1 (.slice (some ⟨w.heap.size, 0, none⟩) 0 0) 0 (([] : List Int).map (Value.int .i64))) := own_new0 w
  obtain ⟨R, HR⟩ : ∃ v, Hid (pickV s n k = v) := ⟨_, rfl⟩
  obtain ⟨V, HV⟩ : ∃ v, Hid (pickS s n k = v) := ⟨_, rfl⟩
  rw [HR.out, HV.out]
  cases hp : pickB s n k
  · have HE : Hid (R = [] ∧ V = -1) := by
      have := pick_no hp
      rw [HR.out, HV.out] at this
      exact this
    unfold pickB at hp
    rcases Bool.eq_false_or_eq_true (inB n 0 64) with h1 | h1 <;> rcases Bool.eq_false_or_eq_true (inB k 0 n) with h2 | h2 <;> rcases Bool.eq_false_or_eq_true (inB s 0 2147483647) with h3 | h3
    · rw [h1, h2, h3] at hp; simp at hp
    all_goals
      clear hp
      go_enter Try.func28, Try.ntmps28
      go_wp2_with (go_at_call 39; refine (l1In_any _ _ _ _).mono ?_; rintro e w' ⟨rfl, hw'⟩; subst w'; first | rw [h1] | rw [h2] | rw [h3])
      refine bodyPost_ret (v := .tuple #[.slice (some ⟨w.heap.size, 0, none⟩) 0 0, .int .i64 (-1)]) (by simp [results, Try.results28, go_sem]) rfl ⟨_, by rw [HE.out.2], OB.out, by rw [HE.out.1]; exact ON.out⟩
  · obtain ⟨N, K, rfl, rfl, hN, hK, hs0, hs1⟩ := pickB_nat hp
    obtain ⟨e1, e2⟩ := pick_yes hp
    have HR1 : Hid ((pkL K (allL N) s).1 = R ∧ (pkL K (allL N) s).2 = V) := ⟨e1.symm.trans HR.out, e2.symm.trans HV.out⟩
    have h1 : inB (N : Int) 0 64 = true := inB_mk (by omega)
    have h2 : inB (K : Int) 0 N = true := inB_mk (by omega)
    have h3 : inB s 0 2147483647 = true := inB_mk (by omega)
    clear e1 e2 hp HR HV
    have O2 : Hid (((w.alloc (.cells #[] 2)).alloc (.cells #[] 2)).ownsRow w.heap.size 2 1 (.slice (some ⟨w.heap.size + 1, 0, none⟩) 0 0) 0 (([] : List Int).map (Value.int .i64))) := by
      have := owns_base (own_new0 (w.alloc (.cells #[] 2))) OB.out.size
      rw [show (w.alloc (.cells #[] 2)).heap.size = w.heap.size + 1 by simp] at this
      exact this
    have X2 : Hid (((w.alloc (.cells #[] 2)).alloc (.cells #[] 2)).ownsRow w.heap.size 2 1 (.slice (some ⟨w.heap.size, 0, none⟩) 0 0) 0 (([] : List Int).map (Value.int .i64))) := ON.out.alloc _
    have B2 : Hid (Below w.heap.size w ((w.alloc (.cells #[] 2)).alloc (.cells #[] 2))) := OB.out.alloc OB.out.size _
    go_enter Try.func28, Try.ntmps28
    go_wp2_with (go_at_call 39; refine (l1In_any _ _ _ _).mono ?_; rintro e w' ⟨rfl, hw'⟩; subst w'; first | rw [h1] | rw [h2] | rw [h3])
    clear OB ON h1 h2 h3
    go_loopw [9, 10] (fun av t wr => ∃ i : Nat, i ≤ N ∧ t = .int .i64 i ∧ PW w wr w.heap.size av (.slice (some ⟨w.heap.size, 0, none⟩) 0 0) (allL i) []) (fun _ t _ => N - (intOf t).toNat)
    case atStart => exact ⟨0, Nat.zero_le _, rfl, PW.new2 O2.out B2.out (by simp) X2.out (by simp) (by simp [Value.ownBlock])⟩
    case round =>
      clear O2 X2 B2
      obtain ⟨i, hi, rfl, hpw⟩ := hrel
      obtain ⟨gl, cl, rfl⟩ := hpw.sl
      rw [allL_length] at hpw ⊢
      have P1 : Hid (PW w wr w.heap.size (.slice (some ⟨gl, 0, none⟩) i cl) (.slice (some ⟨w.heap.size, 0, none⟩) 0 0) (allL i) []) := hpw
      clear hpw
      by_cases hlt : i < N
      · go_wp2_with (
          at_builtin
          refine append_many _ rfl _ _ rfl w.heap.size _ i (allL i) rfl (by have := P1.out.l; rw [allL_length] at this; exact this.alloc _) wr.heap.size 0 1 1 [(i : Int)] rfl rfl (ints_new1 wr i) (by omega) (by omega) (Nat.le_trans P1.out.hB.2 (by simp)) ?_
          intro v' w4 hown hg hbk hnl
          have P4 : Hid (PW w w4 w.heap.size v' (.slice (some ⟨w.heap.size, 0, none⟩) 0 0) (allL (i + 1)) []) := by
            show PW _ _ _ _ _ _ _
            rw [allL_succ]
            exact P1.out.lput (by rw [allL_length]; exact hown) hg hbk hnl
          clear hown hg hbk hnl)
        go_roundw
        case rel => exact ⟨i + 1, by omega, by first | rfl | go_num, P4.out⟩
        case measure => simp [intOf]; omega
      · have hiN : i = N := by omega
        rw [hiN] at P1 ⊢
        clear hi hlt hiN
        go_wp2_with fail
        go_loopw [0, 8, 9, 11] (fun sv ov lv t wr => ∃ (i : Nat) (s : Int) (L O : List Int), i ≤ K ∧ L.length = N - i ∧ L.Nodup ∧ t = .int .i64 i ∧ sv = .int .i64 s ∧ O.length = i ∧ PW w wr w.heap.size lv ov L O ∧ O ++ (pkL (K - i) L s).1 = R ∧ (pkL (K - i) L s).2 = V ∧ 0 ≤ s ∧ s ≤ 2147483647) (fun _ _ _ t _ => K - (intOf t).toNat)
        case atStart => exact ⟨0, s, allL N, [], Nat.zero_le _, by rw [allL_length]; rfl, allL_nodup N, rfl, rfl, rfl, P1.out, HR1.out.1, HR1.out.2, hs0, hs1⟩
        case round =>
          clear P1
          obtain ⟨i, s, L, O, hi, hl, hnd, rfl, rfl, ho, hpw, hres, hseed, hs0, hs1⟩ := hrel
          obtain ⟨gl, cl, rfl⟩ := hpw.sl
          obtain ⟨go, co, rfl⟩ := hpw.so
          have P1 : Hid (PW w wr w.heap.size (.slice (some ⟨gl, 0, none⟩) L.length cl) (.slice (some ⟨go, 0, none⟩) O.length co) L O) := hpw
          have HL : Hid (L.length = N - i) := hl
          have HO : Hid (O.length = i) := ho
          have HND : Hid L.Nodup := hnd
          have HRS : Hid (O ++ (pkL (K - i) L s).1 = R ∧ (pkL (K - i) L s).2 = V) := ⟨hres, hseed⟩
          clear hpw hl ho hnd hres hseed
          rw [HO.out] at P1 ⊢
          by_cases hlt : i < K
          · have hD : 0 < L.length := by rw [HL.out]; omega
            have hDb : L.length ≤ 64 := by rw [HL.out]; omega
            obtain ⟨S, hS, hSb, hat, hatl⟩ := pick_nums s hD
            have hst := pick_step (L := L) (s := s) hlt
            obtain ⟨D, HD⟩ : ∃ D, Hid (L.length = D) := ⟨_, rfl⟩
            rw [HD.out] at hD hDb hat hatl hst P1 ⊢
            obtain ⟨p, HP⟩ : ∃ p, Hid (pkAt (randV s) D = p) := ⟨_, rfl⟩
            rw [HP.out] at hat hatl hst
            have HS : Hid (randV s = S) := hS
            rw [HS.out] at hst
            have HRS2 : Hid ((O ++ [L.getD p 0]) ++ (pkL (K - (i + 1)) (remL L p) S).1 = R ∧ (pkL (K - (i + 1)) (remL L p) S).2 = V) := by
              have h := HRS.out
              rw [hst] at h
              refine ⟨?_, h.2⟩
              rw [← h.1, List.append_assoc]; rfl
            have cx : wr.cell? ⟨gl, p, none⟩ = some (.int .i64 (L.getD p 0)) := by
              obtain ⟨_, _, e, h⟩ := owns_ints' P1.out.l HD.out p (by rw [HD.out]; exact hatl)
              simp at e
              obtain ⟨rfl, rfl⟩ := e
              rw [Nat.zero_add] at h
              exact h
            have HCUT : Hid (cutL L (L.getD p 0) = remL L p) := cutL_rem HND.out (by rw [HD.out]; exact hatl)
            have HRL : Hid ((remL L p).length = D - 1) := by show _ = _; rw [remL_length (by rw [HD.out]; exact hatl), HD.out]
            have HRN : Hid (remL L p).Nodup := remL_nodup HND.out p
            obtain ⟨x, HX⟩ : ∃ f, Hid (L.getD p 0 = f) := ⟨_, rfl⟩
            rw [HX.out] at cx HRS2 HCUT
            have hpD : (p : Int) < (D : Int) := by omega
            clear hst hS hs0 hs1 HRS
            have hib : i ≤ 64 := by omega
            go_wp2_with (first
              | (go_at_call 30; refine (specRand_any _ _).mono ?_; rintro e w' ⟨rfl, hw'⟩; subst w'; rw [HS.out])
              | (at_builtin
                 refine append_many _ rfl (.tmp 51) (.tmp 56) rfl w.heap.size _ i O rfl (by have := P1.out.o; rw [HO.out] at this; exact this.alloc _) wr.heap.size 0 1 1 [x] rfl rfl (ints_new1 wr x) (by omega) (by omega) (Nat.le_trans P1.out.hB.2 (by simp)) ?_
                 intro ov' w4 hown hg hbk hnl
                 have P4 : Hid (PW w w4 w.heap.size (.slice (some ⟨gl, 0, none⟩) D cl) ov' L (O ++ [x])) := P1.out.put (by rw [HO.out]; exact hown) hg hbk hnl
                 have I4 : Hid (IntsAt w4 (some ⟨gl, 0, none⟩) L) := owns_ints' P4.out.l HD.out
                 have c4 : w4.cell? ⟨gl, p, none⟩ = some (.int .i64 x) := by
                   obtain ⟨_, _, e, h⟩ := I4.out p (by rw [HD.out]; exact hatl)
                   simp at e
                   obtain ⟨rfl, rfl⟩ := e
                   rw [Nat.zero_add] at h
                   rw [h, HX.out]
                 clear hown hg hbk hnl)
              | (go_at_call 55
                 have hcut := l4Cut_any gl 0 cl L x w4 I4.out (by rw [HD.out]; omega)
                 rw [HD.out, HCUT.out] at hcut
                 refine hcut.mono ?_
                 rintro e w5 ⟨g5, c5, rfl, hb5, ho5⟩
                 have P5 : Hid (PW w w5 w.heap.size (.slice (some ⟨g5, 0, none⟩) (remL L p).length c5) ov' (remL L p) (O ++ [x])) := P4.out.cut hb5 ho5
                 clear hcut hb5 ho5))
            go_roundw
            case rel => exact ⟨i + 1, S, remL L p, O ++ [x], by omega, by rw [HRL.out, ← HD.out, HL.out]; omega, HRN.out, by first | rfl | go_num, rfl, by rw [List.length_append, HO.out]; rfl, P5.out, HRS2.out.1, HRS2.out.2, by omega, by omega⟩
            case measure => simp [intOf]; omega
          · have hiK : K - i = 0 := by omega
            have HE : Hid (O = R ∧ s = V) := by
              have h := HRS.out
              rw [hiK] at h
              refine ⟨?_, h.2⟩
              rw [← h.1]
              exact (List.append_nil _).symm
            have HOR : Hid (wr.ownsRow w.heap.size 2 1 (.slice (some ⟨go, 0, none⟩) i co) R.length (R.map (Value.int .i64))) := by
              have := P1.out.o
              rw [HE.out.1] at this
              exact this
            have HB : Hid (Below w.heap.size w wr) := P1.out.b
            obtain ⟨D, HD⟩ : ∃ D, Hid (L.length = D) := ⟨_, rfl⟩
            rw [HD.out, HE.out.2]
            go_wp2
            refine bodyPost_ret (v := .tuple #[.slice (some ⟨go, 0, none⟩) i co, .int .i64 V]) (by simp [results, Try.results28, go_sem]) rfl ⟨_, rfl, HB.out, HOR.out⟩

end Go.Proofs.Ytiojgkebdjdgbaa
