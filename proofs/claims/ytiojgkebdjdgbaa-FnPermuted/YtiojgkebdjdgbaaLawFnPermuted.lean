import Derived.Test.YtiojgkebdjdgbaaPack0
import Derived.Test.YtiojgkebdjdgbaaPack2
import Derived.Test.YtiojgkebdjdgbaaPack3
import Derived.Test.YtiojgkebdjdgbaaPack7
namespace Go.Proofs.Ytiojgkebdjdgbaa
open Go.RowKit

theorem own_pos {w : World} {base k : Nat} {v : Value} {e : TypeId} {xs : List Value} (h : w.ownsRow base e 1 v k xs) (hk : 0 < k) : ∃ g c, v = .slice (some ⟨g, 0, none⟩) k c := by
  rcases own_shape h with e | e
  · obtain ⟨_, ⟨_, h3⟩ | ⟨g, cap, cur, h2, _⟩⟩ := h
    · omega
    · exact ⟨g, cap, h2⟩
  · exact e

/-- Where the loop over two rows stands: no place was less so far, or the last one was. -/
def LexAt (d : Nat) (lv : Value) (i : Nat) : Prop := (lv = .bool false ∧ i ≤ d) ∨ (lv = .bool true ∧ i = d + 1)

set_option maxHeartbeats 400000 in
theorem lawFnPermuted_big (a : Option Addr) (c len : Nat) (w : World) (hl : len ≤ 9223372036854775807) (h : 1048576 < len) :
    Calls Try.prog 3 #[.slice a len c] w fun e w' => e = .returned (.bool true) ∧ Below w.heap.size w w' := by
  have hd : decide (1048576 < len) = true := decide_eq_true h
  go_enter Try.func3, Try.ntmps3
  go_wp2_with (go_at_call 8; refine (big_any a c len w hl).mono ?_; rintro e w1 ⟨rfl, hw1⟩; subst w1; rw [hd])
  go_ret
  exact ⟨rfl, Below.refl _ _⟩

theorem perm_cases {zs : List Int} {n : Int} {cv : Int} (h : countV zs.length = cv) : (permT zs n = true ∧ 0 ≤ n ∧ n < cv) ∨ (permT zs n = false ∧ n < 0) ∨ (permT zs n = false ∧ 0 ≤ n ∧ ¬ n < cv) := by
  unfold permT
  rw [h]
  by_cases h1 : 0 ≤ n
  · by_cases h2 : n < cv
    · exact .inl ⟨inB_mk (by omega), h1, h2⟩
    · exact .inr (.inr ⟨inB_not (by omega), h1, h2⟩)
  · exact .inr (.inl ⟨inB_not (by omega), by omega⟩)

set_option maxRecDepth 10000 in
set_option maxHeartbeats 8000000 in
theorem lawFnPermuted (a : Option Addr) (ca : Nat) (bs : List Int) (w : World) (hA : CodeAt w a bs) (hl : bs.length ≤ 1048576) :
    Calls Try.prog 3 #[.slice a bs.length ca] w fun e w' => e = .returned (.bool true) ∧ Below w.heap.size w w' := by
  have HA : Hid (CodeAt w a bs) := hA
  clear hA
  have hd : decide (1048576 < bs.length) = false := decide_eq_false (by omega)
  go_enter Try.func3, Try.ntmps3
  go_wp2_with fail
  refine (big_any a ca bs.length w (by omega)).mono ?_
  rintro e w1 ⟨rfl, hw1⟩
  subst w1
  rw [hd]
  clear hd
  go_wp2_with fail
  refine (drawPermuted_any a ca bs w HA.out hl).mono ?_
  rintro e w1 ⟨gz, cz, zs, n, rfl, h5, hb, hz⟩
  have B1 : Hid (Below w.heap.size w w1) := hb
  have Z1 : Hid (IntsAt w1 (some ⟨gz, 0, none⟩) zs) := hz
  clear hb hz
  have hcv : countV zs.length = (facN zs.length : Int) := by rw [countV_yes (by omega), fac_nat]
  have hcs := perm_cases (n := n) hcv
  have hpl : permT zs n = true → (permV zs n).length = zs.length := fun h => by
    obtain ⟨m, rfl, _, hm, e⟩ := permT_nat h
    rw [e, unr_length _ _ _ rfl hm]
  have hpb : (permV zs n).length ≤ 6 := by
    cases h : permT zs n
    · rw [permV_no h]; simp
    · rw [hpl h]; omega
  have hfb := facN_bd zs.length (by omega)
  have hfp := facN_pos zs.length
  obtain ⟨t, HT⟩ : ∃ v, Hid (permT zs n = v) := ⟨_, rfl⟩
  obtain ⟨p, HP⟩ : ∃ v, Hid (permV zs n = v) := ⟨_, rfl⟩
  rw [HT.out] at hcs hpl
  rw [HP.out] at hpl hpb
  have htt : (t != t) = false := by simp
  go_wp2_with fail
  refine (implPermuted_any gz 0 cz zs n _ Z1.out (by omega)).mono ?_
  rintro e w2 ⟨sl, rfl, hb, ho⟩
  rw [HP.out] at ho
  rw [HT.out]
  obtain ⟨pa, pc, rfl, -, hi⟩ := owns_at1 ho
  have B2 : Hid (Below w.heap.size w w2) := B1.out.trans (hb.mono B1.out.size)
  have Z2 : Hid (IntsAt w2 (some ⟨gz, 0, none⟩) zs) := Z1.out.below hb
  have P2 : Hid (IntsAt w2 pa p) := hi
  clear hb ho hi B1 Z1
  go_wp2_with fail
  refine (specPermuted_any gz 0 cz zs n _ Z2.out (by omega)).mono ?_
  rintro e w3 ⟨sl, rfl, hb, ho⟩
  rw [HP.out] at ho
  rw [HT.out]
  obtain ⟨qa, qc, rfl, -, hi⟩ := owns_at1 ho
  have B3 : Hid (Below w.heap.size w w3) := B2.out.trans (hb.mono B2.out.size)
  have P3 : Hid (IntsAt w3 pa p) := P2.out.below hb
  have Q3 : Hid (IntsAt w3 qa p) := hi
  clear hb ho hi B2 Z2 P2
  have HSM : Hid (Calls Try.prog 13 #[.slice pa p.length pc, .slice qa p.length qc] w3 fun e w' => e = .returned (.bool true) ∧ Below w3.heap.size w3 w') := by
    have := sameInts_any pa qa pc qc p p w3 P3.out Q3.out (by omega)
    rw [show decide (p = p) = true by simp] at this
    exact this
  obtain ⟨c, HC⟩ : ∃ v, Hid (zs.length = v) := ⟨_, rfl⟩
  obtain ⟨pl, HPL⟩ : ∃ v, Hid (p.length = v) := ⟨_, rfl⟩
  rw [HC.out] at h5 hcv hcs hpl hfb hfp ⊢
  rw [HPL.out] at hpl hpb HSM ⊢
  obtain ⟨f, HF⟩ : ∃ v, Hid (facN c = v) := ⟨_, rfl⟩
  rw [HF.out] at hcv hcs hfb hfp
  have HCV : Hid (countV c = (f : Int)) := hcv
  have HTP : Hid (t = true → pl = c) := hpl
  have hff : (((f : Nat) : Int) != ((f : Nat) : Int)) = false := by simp
  clear hcv hpl P3 Q3 HP HT
  rcases hcs with ⟨rfl, hn1, hn2⟩ | ⟨rfl, hn1⟩ | ⟨rfl, hn1, hn2⟩
  all_goals
    go_wp2_with (first
      | (go_at_call 12; refine (implCount_any _ _).mono ?_; rintro e w' ⟨rfl, hw'⟩; subst w'; rw [HCV.out])
      | (go_at_call 14; refine (specCount_any _ _).mono ?_; rintro e w' ⟨rfl, hw'⟩; subst w'; rw [HCV.out])
      | (go_at_call 13
         refine HSM.out.mono ?_
         rintro e w4 ⟨rfl, hb⟩
         have B4 : Hid (Below w.heap.size w w4) := B3.out.trans (hb.mono B3.out.size)
         clear hb))
    have O0 : Hid ((w4.alloc (.cells #[] 2)).ownsRow w.heap.size 2 1 (.slice (some ⟨w4.heap.size, 0, none⟩) 0 0) 0 (([] : List Int).map (Value.int .i64))) := owns_base (own_new0 w4) B4.out.size
    have A0 : Hid (Below w.heap.size w (w4.alloc (.cells #[] 2))) := B4.out.alloc B4.out.size _
    clear HSM B3 B4
    go_loopw [10, 11] (fun av t wr => ∃ k : Nat, k ≤ c ∧ t = .int .i64 k ∧ wr.ownsRow w.heap.size 2 1 av k ((allL k).map (Value.int .i64)) ∧ Below w.heap.size w wr ∧ av ≠ .slice none 0 0) (fun _ t _ => c - (intOf t).toNat)
    case atStart => exact ⟨0, Nat.zero_le _, rfl, O0.out, A0.out, by simp⟩
    case round =>
      clear O0 A0
      obtain ⟨k, hk, rfl, ho, hb, hn⟩ := hrel
      obtain ⟨g, cg, rfl⟩ := own_sm ho hn
      have O1 : Hid (wr.ownsRow w.heap.size 2 1 (.slice (some ⟨g, 0, none⟩) k cg) k ((allL k).map (Value.int .i64))) := ho
      have B1 : Hid (Below w.heap.size w wr) := hb
      clear ho hb hn
      by_cases hlt : k < c
      · have BA : Hid (Below w.heap.size w (wr.alloc (.cells #[.int .i64 (k : Int)] 2))) := B1.out.alloc B1.out.size _
        go_wp2_with (
          at_builtin
          refine append_many _ rfl _ _ rfl w.heap.size _ k (allL k) rfl (O1.out.alloc _) wr.heap.size 0 1 1 [(k : Int)] rfl rfl (ints_new1 wr k) (by omega) (by omega) (Nat.le_trans B1.out.size (by simp)) ?_
          intro v' w4 hown hg _ hnl
          have O4 : Hid (w4.ownsRow w.heap.size 2 1 v' (k + 1) ((allL (k + 1)).map (Value.int .i64))) := by rw [allL_succ]; exact hown
          have B4 : Hid (Below w.heap.size w w4) := BA.out.grown hg BA.out.size (fun k e => (O1.out.lt k e).1)
          have N4 : Hid (v' ≠ .slice none 0 0) := not_nil hnl ⟨_, _, _, rfl⟩
          clear hown hg hnl)
        go_roundw
        case rel => exact ⟨k + 1, by omega, by first | rfl | go_num, O4.out, B4.out, N4.out⟩
        case measure => simp [intOf]; omega
      · have hkc : k = c := by omega
        subst hkc
        have IA : Hid (IntsAt wr (some ⟨g, 0, none⟩) (allL k)) := owns_ints O1.out
        clear O1 hlt hk
        go_wp2_with fail
        go_loopw [12, 13, 14, 15, 16, 17, 18] (fun t _ _ _ _ _ _ wr => ∃ j : Nat, j ≤ 30 ∧ t = .int .i64 j ∧ Below w.heap.size w wr ∧ IntsAt wr (some ⟨g, 0, none⟩) (allL k)) (fun t _ _ _ _ _ _ _ => 30 - (intOf t).toNat)
        case atStart => exact ⟨0, Nat.zero_le _, rfl, B1.out, IA.out⟩
        case round =>
          clear B1 IA
          obtain ⟨j, hj, rfl, hb, hi⟩ := hrel
          have B1 : Hid (Below w.heap.size w wr) := hb
          have IA : Hid (IntsAt wr (some ⟨g, 0, none⟩) (allL k)) := hi
          clear hb hi
          by_cases hin : j + 1 < f ∧ j < 30
          · obtain ⟨hj1, hj2⟩ := hin
            obtain ⟨d, hdc, hde, hdl⟩ := row_next (c := k) (k := j) (by omega) hj2 (by rw [HF.out]; exact hj1)
            have HDE : Hid (∀ j', j' < d → (rowL k j).getD j' 0 = (rowL k (j + 1)).getD j' 0) := hde
            have HDL : Hid ((rowL k j).getD d 0 < (rowL k (j + 1)).getD d 0) := hdl
            have HPM : Hid (∀ (X : World) (x : Nat), x < f → IntsAt X (some ⟨g, 0, none⟩) (allL k) → Calls Try.prog 10 #[.slice (some ⟨g, 0, none⟩) k cg, .int .i64 x] X fun e w' => ∃ sl, e = .returned (.tuple #[sl, .bool true]) ∧ Below X.heap.size X w' ∧ w'.ownsRow X.heap.size 2 1 sl k ((rowL k x).map (Value.int .i64))) := by
              intro X x hx hX
              have h := implPermuted_any g 0 cg (allL k) x X hX (by rw [allL_length]; omega)
              obtain ⟨e1, e2⟩ := permV_all (c := k) (k := x) (by omega) (by rw [HF.out]; exact hx)
              rw [e1, e2, allL_length, rowL_length (by rw [HF.out]; exact hx)] at h
              exact h
            have HLA : Hid ((rowL k j).length = k) := rowL_length (by rw [HF.out]; omega)
            have HLB : Hid ((rowL k (j + 1)).length = k) := rowL_length (by rw [HF.out]; omega)
            clear hde hdl
            obtain ⟨ra, HRA⟩ : ∃ v, Hid (rowL k j = v) := ⟨_, rfl⟩
            obtain ⟨rb, HRB⟩ : ∃ v, Hid (rowL k (j + 1) = v) := ⟨_, rfl⟩
            rw [HRA.out] at HDE HDL HLA
            rw [HRB.out] at HDE HDL HLB
            have hkk : ((k : Int) == (k : Int)) = true := by simp
            go_wp2_with fail
            refine (implCount_any _ _).mono ?_
            rintro e w' ⟨rfl, hw'⟩
            subst w'
            rw [HCV.out]
            go_wp2_with fail
            refine (HPM.out _ j (by omega) IA.out).mono ?_
            rintro e w5 ⟨sl, rfl, hb, ho⟩
            rw [HRA.out] at ho
            obtain ⟨ga, gac, rfl⟩ := own_pos ho (by omega)
            have B5 : Hid (Below w.heap.size w w5) := B1.out.trans (hb.mono B1.out.size)
            have I5 : Hid (IntsAt w5 (some ⟨g, 0, none⟩) (allL k)) := IA.out.below hb
            have A5 : Hid (IntsAt w5 (some ⟨ga, 0, none⟩) ra) := owns_ints ho
            clear hb ho B1 IA
            go_wp2_with fail
            refine (HPM.out _ (j + 1) hj1 I5.out).mono ?_
            rintro e w6 ⟨sl, rfl, hb, ho⟩
            rw [HRB.out] at ho
            obtain ⟨gb, gbc, rfl⟩ := own_pos ho (by omega)
            have B6 : Hid (Below w.heap.size w w6) := B5.out.trans (hb.mono B5.out.size)
            have I6 : Hid (IntsAt w6 (some ⟨g, 0, none⟩) (allL k)) := I5.out.below hb
            have A6 : Hid (IntsAt w6 (some ⟨ga, 0, none⟩) ra) := A5.out.below hb
            have C6 : Hid (IntsAt w6 (some ⟨gb, 0, none⟩) rb) := owns_ints ho
            clear hb ho B5 I5 A5 HPM HRA HRB
            go_wp2_with fail
            go_loopw [17, 18] (fun lv t wr => ∃ i : Nat, t = .int .i64 i ∧ LexAt d lv i ∧ Below w.heap.size w wr ∧ IntsAt wr (some ⟨g, 0, none⟩) (allL k) ∧ IntsAt wr (some ⟨ga, 0, none⟩) ra ∧ IntsAt wr (some ⟨gb, 0, none⟩) rb) (fun _ t _ => d + 1 - (intOf t).toNat)
            case atStart => exact ⟨0, rfl, .inl ⟨rfl, Nat.zero_le _⟩, B6.out, I6.out, A6.out, C6.out⟩
            case round =>
              clear B6 I6 A6 C6
              obtain ⟨i, rfl, hlx, hb, hi, hia, hib⟩ := hrel
              have B6 : Hid (Below w.heap.size w wr) := hb
              have I6 : Hid (IntsAt wr (some ⟨g, 0, none⟩) (allL k)) := hi
              have A6 : Hid (IntsAt wr (some ⟨ga, 0, none⟩) ra) := hia
              have C6 : Hid (IntsAt wr (some ⟨gb, 0, none⟩) rb) := hib
              clear hb hi hia hib
              rcases hlx with ⟨rfl, hid⟩ | ⟨rfl, hid⟩
              · have ca1 : wr.cell? ⟨ga, i, none⟩ = some (.int .i64 (ra.getD i 0)) := by
                  obtain ⟨_, _, e, h⟩ := A6.out i (by rw [HLA.out]; omega)
                  simp at e
                  obtain ⟨rfl, rfl⟩ := e
                  rw [Nat.zero_add] at h
                  exact h
                have cb1 : wr.cell? ⟨gb, i, none⟩ = some (.int .i64 (rb.getD i 0)) := by
                  obtain ⟨_, _, e, h⟩ := C6.out i (by rw [HLB.out]; omega)
                  simp at e
                  obtain ⟨rfl, rfl⟩ := e
                  rw [Nat.zero_add] at h
                  exact h
                have hik : i < k := by omega
                have hab : (i < d ∧ ra.getD i 0 = rb.getD i 0) ∨ (i = d ∧ ra.getD i 0 < rb.getD i 0) := by
                  by_cases h : i < d
                  · exact .inl ⟨h, HDE.out i h⟩
                  · have : i = d := by omega
                    subst this
                    exact .inr ⟨rfl, HDL.out⟩
                obtain ⟨xa, HXA⟩ : ∃ v, Hid (ra.getD i 0 = v) := ⟨_, rfl⟩
                obtain ⟨xb, HXB⟩ : ∃ v, Hid (rb.getD i 0 = v) := ⟨_, rfl⟩
                rw [HXA.out] at ca1 hab
                rw [HXB.out] at cb1 hab
                rcases hab with ⟨h1, h2⟩ | ⟨h1, h2⟩
                · subst h2
                  go_wp2
                  go_quiet (fail)
                  go_wp2
                  go_quiet (fail)
                  go_wp2
                  refine ⟨⟨i + 1, by go_num, .inl ⟨by first | rfl | simp, by omega⟩, below_drewN B6.out _, I6.out.below (below_drewN (Below.refl _ _) _), A6.out.below (below_drewN (Below.refl _ _) _), C6.out.below (below_drewN (Below.refl _ _) _)⟩, by simp [intOf] <;> omega⟩
                · subst h1
                  go_wp2
                  go_quiet (fail)
                  go_wp2
                  go_quiet (fail)
                  go_wp2
                  refine ⟨⟨i + 1, by go_num, .inr ⟨by first | rfl | (simp; done) | (simp; omega), rfl⟩, below_drewN B6.out _, I6.out.below (below_drewN (Below.refl _ _) _), A6.out.below (below_drewN (Below.refl _ _) _), C6.out.below (below_drewN (Below.refl _ _) _)⟩, by simp [intOf] <;> omega⟩
              · by_cases hik : i < k
                · go_wp2
                  refine ⟨⟨j + 1, by omega, by go_num, B6.out, I6.out⟩, by simp [intOf]; omega⟩
                · go_wp2
                  refine ⟨⟨j + 1, by omega, by go_num, B6.out, I6.out⟩, by simp [intOf]; omega⟩
          · have hor : ¬ (j + 1 < f) ∨ (j + 1 < f ∧ ¬ j < 30) := by omega
            have hpk := HTP.out
            clear hin
            rcases hor with h1 | ⟨h1, h2⟩
            all_goals
              go_wp2_with (go_at_call 12; refine (implCount_any _ _).mono ?_; rintro e w' ⟨rfl, hw'⟩; subst w'; rw [HCV.out])
              first
                | (go_ret
                   exact ⟨by first | rfl | (simp at hpk; simp [hpk]), B1.out⟩)

theorem lawFnPermuted_all (a : Option Addr) (c : Nat) (bs : List Int) (w : World) (hA : CodeAt w a bs) (hl : bs.length ≤ 9223372036854775807) :
    Calls Try.prog 3 #[.slice a bs.length c] w fun e w' => e = .returned (.bool true) ∧ Below w.heap.size w w' := by
  by_cases h : bs.length ≤ 1048576
  · exact lawFnPermuted a c bs w hA h
  · exact lawFnPermuted_big a c _ w hl (by omega)

end Go.Proofs.Ytiojgkebdjdgbaa
