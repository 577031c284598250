import Derived.Test.YtaehhlkpbhmdfaaPack2
import Derived.Test.YtaehhlkpbhmdfaaSpanTr0
import Derived.Test.YtaehhlkpbhmdfaaPack7
import Derived.Test.YtaehhlkpbhmdfaaPack13
import Derived.Test.YtaehhlkpbhmdfaaPack14
namespace Go.Proofs.Ytaehhlkpbhmdfaa
open Go.RowKit

theorem CodeAt.blwT {w w' : World} {a : Option Addr} {bs : List Int} (h : CodeAt w a bs) (hb : Below w.heap.size w w') : CodeAt w' a bs := fun j hj => by
  obtain ⟨b, off, e, hc, hv⟩ := h j hj
  exact ⟨b, off, e, (hb.cell (p := ⟨b, off + j, none⟩) (block_lt_of_cell hc)).trans hc, hv⟩
theorem keepT {w1 X : World} {b o : Nat} {v : Value} (hc : w1.cell? ⟨b, o, none⟩ = some v) (hb : Below w1.heap.size w1 X) : X.cell? ⟨b, o, none⟩ = some v := by
  rw [hb.cell (p := ⟨b, o, none⟩) (block_lt_of_cell hc)]; exact hc
theorem MBx.two {W : World} {k : Nat} {n : Int} {sl : Value} {T : TypeId} (h : MBx W k n sl T) : W.cell? ⟨k, 0, none⟩ = some (.int .i64 n) ∧ W.cell? ⟨k, 1, none⟩ = some sl := h.cells

set_option maxHeartbeats 400000 in
theorem lawFnTreeBound_big (a : Option Addr) (c len : Nat) (w : World) (hl : len ≤ 9223372036854775807) (h : 1048576 < len) :
    Calls Try.prog 4 #[.slice a len c] w fun e w' => e = .returned (.bool true) ∧ Below w.heap.size w w' := by
  have hd : decide (1048576 < len) = true := decide_eq_true h
  go_enter Try.func4, Try.ntmps4
  go_wp2_with (go_at_call 6; refine (big_any a c len w hl).mono ?_; rintro e w1 ⟨rfl, hw1⟩; subst w1; rw [hd])
  go_ret
  exact ⟨rfl, Below.refl _ _⟩

set_option maxRecDepth 10000 in
set_option maxHeartbeats 8000000 in
theorem lawFnTreeBound (a : Option Addr) (ca : Nat) (bs : List Int) (w : World) (hA : CodeAt w a bs) (hl : bs.length ≤ 1048576) :
    Calls Try.prog 4 #[.slice a bs.length ca] w fun e w' => e = .returned (.bool true) ∧ Below w.heap.size w w' := by
  have HA : Hid (CodeAt w a bs) := hA
  clear hA
  have hd : decide (1048576 < bs.length) = false := decide_eq_false (by omega)
  go_enter Try.func4, Try.ntmps4
  go_wp2_with fail
  refine (big_any a ca bs.length w (by omega)).mono ?_
  rintro e w1 ⟨rfl, hw1⟩
  subst w1
  rw [hd]
  clear hd
  go_wp2_with fail
  refine (drawSpan_any a ca bs w HA.out hl).mono ?_
  rintro e w1 ⟨n, g, cg, zs, rfl, hn1, hn6, hzn, hb1, hi1⟩
  obtain ⟨N, HLb⟩ : ∃ v, Hid (bs.length = v) := ⟨_, rfl⟩
  obtain ⟨zl, HZ⟩ : ∃ v, Hid (zs.length = v) := ⟨_, rfl⟩
  rw [HLb.out] at hl ⊢
  rw [HZ.out]
  have A1 : Below w1.heap.size w1 (w1.alloc (.cells #[.int .i64 n, .slice (some ⟨g, 0, none⟩) zl cg] 26)) := (Below.refl _ _).alloc (Nat.le_refl _) _
  have B1 : Hid (Below w.heap.size w (w1.alloc (.cells #[.int .i64 n, .slice (some ⟨g, 0, none⟩) zl cg] 26))) := hb1.trans (A1.mono hb1.size)
  have I1 : Hid (IntsAt (w1.alloc (.cells #[.int .i64 n, .slice (some ⟨g, 0, none⟩) zl cg] 26)) (some ⟨g, 0, none⟩) zs) := hi1.below A1
  have X1 : Hid (MBx (w1.alloc (.cells #[.int .i64 n, .slice (some ⟨g, 0, none⟩) zl cg] 26)) w1.heap.size n (.slice (some ⟨g, 0, none⟩) zl cg) 26) := heap_alloc_new _ _
  clear hb1 hi1 A1 hzn
  obtain ⟨x0, x1⟩ := X1.out.two
  go_wp2_with fail
  clear x0 x1
  generalize w1.alloc (.cells #[.int .i64 n, .slice (some ⟨g, 0, none⟩) zl cg] 26) = W1 at *
  generalize w1.heap.size = k1 at *
  have CI := implSpan_ex n (some ⟨g, 0, none⟩) cg zs W1 I1.out
  rw [HZ.out] at CI
  refine CI.mono ?_
  rintro e w2 ⟨p, pl, ga, gc, hT, rfl, hb2, hi2⟩
  obtain ⟨hpl, hp16⟩ := hT.small
  have HT : Hid (Tr n zs p pl) := hT
  obtain ⟨tv, HTV⟩ : ∃ v, Hid (treeV p pl = v) := ⟨_, rfl⟩
  have CSP : Hid (∀ W, IntsAt W (some ⟨g, 0, none⟩) zs → Calls Try.prog 9 #[.agg #[.int .i64 n, .slice (some ⟨g, 0, none⟩) zl cg]] W fun e w' => ∃ wa wc, e = .returned (.slice wa pl wc) ∧ Below W.heap.size W w' ∧ IntsAt w' wa p) := fun W h => by
    have := specSpan_of n (some ⟨g, 0, none⟩) cg zs p pl W h HT.out
    rw [HZ.out] at this
    exact this
  have CTI : Hid (∀ W la lc, IntsAt W la p → Calls Try.prog 15 #[.slice la pl lc] W fun e w' => e = .returned (.int .i64 tv) ∧ Below W.heap.size W w') := fun W la lc h => by
    have := implTree_any la pl lc p W h hpl (by omega)
    rw [HTV.out] at this
    exact this
  have CTS : Hid (∀ W la lc, IntsAt W la p → Calls Try.prog 16 #[.slice la pl lc] W fun e w' => e = .returned (.int .i64 tv) ∧ w' = W) := fun W la lc h => by
    have := specTree_any la pl lc p W h hpl (by omega)
    rw [HTV.out] at this
    exact this
  obtain ⟨sb, HSB⟩ : ∃ v, Hid (symB n zs = v) := ⟨_, rfl⟩
  have CSY : Hid (∀ W, IntsAt W (some ⟨g, 0, none⟩) zs → Calls Try.prog 10 #[.agg #[.int .i64 n, .slice (some ⟨g, 0, none⟩) zl cg]] W fun e w' => e = .returned (.bool sb) ∧ Below W.heap.size W w') := fun W h => by
    have := specSym_any n (some ⟨g, 0, none⟩) cg zs W h
    rw [HZ.out, HSB.out] at this
    exact this
  have B2 : Hid (Below w.heap.size w w2) := B1.out.trans (hb2.mono B1.out.size)
  have I2 : Hid (IntsAt w2 (some ⟨g, 0, none⟩) zs) := I1.out.below hb2
  have X2 : Hid (MBx w2 k1 n (.slice (some ⟨g, 0, none⟩) zl cg) 26) := X1.out.below hb2
  have L2 : Hid (IntsAt w2 ga p) := hi2
  clear CI hb2 hi2 B1 I1 X1 hT hpl
  have htt : (tv != tv) = false := by simp
  obtain ⟨x0, x1⟩ := X2.out.two
  have kS := And.intro x0 x1
  cases sb
  · go_wp2_with fail
    go_region_held3 (fun W => W.cell? ⟨k1, 0, none⟩ = some (.int .i64 n) ∧ W.cell? ⟨k1, 1, none⟩ = some (.slice (some ⟨g, 0, none⟩) zl cg)) (first | with_reducible exact kS | go_keep) ((first
      | (go_at_call 15
         with_reducible refine (CTI.out w2.drew ga gc (L2.out.below (Below.refl _ _).drew)).mono ?_
         rintro e w3 ⟨rfl, hb⟩
         have DA : Hid (Below w2.heap.size w2 w3) := (Below.refl _ _).drew.trans (show Below w2.heap.size w2.drew w3 from hb)
         have kS := And.intro (keepT x0 DA.out) (keepT x1 DA.out)
         clear hb)
      | (go_at_call 9
         with_reducible refine (CSP.out w3 (I2.out.below DA.out)).mono ?_
         rintro e w4 ⟨wa, wc, rfl, hb, hi⟩
         have DB : Hid (Below w2.heap.size w2 w4) := DA.out.trans (hb.mono DA.out.size)
         have kS := And.intro (keepT x0 DB.out) (keepT x1 DB.out)
         have IB : Hid (IntsAt w4 wa p) := hi
         clear hb hi)
      | (go_at_call 16
         with_reducible refine (CTS.out w4 wa wc IB.out).mono ?_
         rintro e wq ⟨rfl, hw⟩
         rw [hw]
         clear hw wq
         have kS := And.intro (keepT x0 DB.out) (keepT x1 DB.out)
         skip)
      | (go_at_call 10
         with_reducible refine (CSY.out w4 (I2.out.below DB.out)).mono ?_
         rintro e w6 ⟨rfl, hb⟩
         have DC : Hid (Below w2.heap.size w2 w6) := DB.out.trans (hb.mono DB.out.size)
         have kS := And.intro (keepT x0 DC.out) (keepT x1 DC.out)
         have B6 : Hid (Below w.heap.size w w6) := B2.out.trans (DC.out.mono B2.out.size)
         have I6 : Hid (IntsAt w6 (some ⟨g, 0, none⟩) zs) := I2.out.below DC.out
         have X6 : Hid (MBx w6 k1 n (.slice (some ⟨g, 0, none⟩) zl cg) 26) := X2.out.below DC.out
         have L6 : Hid (IntsAt w6 ga p) := L2.out.below DC.out
         clear hb)))
    all_goals
      clear kS x0 x1
      obtain ⟨x0, x1⟩ := X6.out.two
      have kS := And.intro x0 x1
      have hte : (tv == tv) = true := by simp
      clear htt
      go_wp2_with fail
      go_region_held3 (fun W => W.cell? ⟨k1, 0, none⟩ = some (.int .i64 n) ∧ W.cell? ⟨k1, 1, none⟩ = some (.slice (some ⟨g, 0, none⟩) zl cg)) (first | with_reducible exact kS | go_keep) ((first
        | (go_at_call 15
           with_reducible refine (CTI.out w6.drew ga gc (L6.out.below (Below.refl _ _).drew)).mono ?_
           rintro e w93 ⟨rfl, hb⟩
           have DA9 : Hid (Below w6.heap.size w6 w93) := (Below.refl _ _).drew.trans (show Below w6.heap.size w6.drew w93 from hb)
           have kS := And.intro (keepT x0 DA9.out) (keepT x1 DA9.out)
           clear hb)
        | (go_at_call 9
           with_reducible refine (CSP.out w93 (I6.out.below DA9.out)).mono ?_
           rintro e w94 ⟨wa, wc, rfl, hb, hi⟩
           have DB9 : Hid (Below w6.heap.size w6 w94) := DA9.out.trans (hb.mono DA9.out.size)
           have kS := And.intro (keepT x0 DB9.out) (keepT x1 DB9.out)
           have IB9 : Hid (IntsAt w94 wa p) := hi
           clear hb hi)
        | (go_at_call 16
           with_reducible refine (CTS.out w94 wa wc IB9.out).mono ?_
           rintro e wq ⟨rfl, hw⟩
           rw [hw]
           clear hw wq
           have kS := And.intro (keepT x0 DB9.out) (keepT x1 DB9.out)
           have B10 : Hid (Below w.heap.size w w94) := B6.out.trans (DB9.out.mono B6.out.size))))
      all_goals
        go_wp2
        go_ret
        exact ⟨by first | rfl | simp, B10.out⟩
  · go_wp2_with fail
    go_region_held3 (fun W => W.cell? ⟨k1, 0, none⟩ = some (.int .i64 n) ∧ W.cell? ⟨k1, 1, none⟩ = some (.slice (some ⟨g, 0, none⟩) zl cg)) (first | with_reducible exact kS | go_keep) ((first
      | (go_at_call 15
         with_reducible refine (CTI.out w2.drew ga gc (L2.out.below (Below.refl _ _).drew)).mono ?_
         rintro e w3 ⟨rfl, hb⟩
         have DA : Hid (Below w2.heap.size w2 w3) := (Below.refl _ _).drew.trans (show Below w2.heap.size w2.drew w3 from hb)
         have kS := And.intro (keepT x0 DA.out) (keepT x1 DA.out)
         clear hb)
      | (go_at_call 9
         with_reducible refine (CSP.out w3 (I2.out.below DA.out)).mono ?_
         rintro e w4 ⟨wa, wc, rfl, hb, hi⟩
         have DB : Hid (Below w2.heap.size w2 w4) := DA.out.trans (hb.mono DA.out.size)
         have kS := And.intro (keepT x0 DB.out) (keepT x1 DB.out)
         have IB : Hid (IntsAt w4 wa p) := hi
         clear hb hi)
      | (go_at_call 16
         with_reducible refine (CTS.out w4 wa wc IB.out).mono ?_
         rintro e wq ⟨rfl, hw⟩
         rw [hw]
         clear hw wq
         have kS := And.intro (keepT x0 DB.out) (keepT x1 DB.out)
         skip)
      | (go_at_call 10
         with_reducible refine (CSY.out w4 (I2.out.below DB.out)).mono ?_
         rintro e w6 ⟨rfl, hb⟩
         have DC : Hid (Below w2.heap.size w2 w6) := DB.out.trans (hb.mono DB.out.size)
         have kS := And.intro (keepT x0 DC.out) (keepT x1 DC.out)
         have B6 : Hid (Below w.heap.size w w6) := B2.out.trans (DC.out.mono B2.out.size)
         have I6 : Hid (IntsAt w6 (some ⟨g, 0, none⟩) zs) := I2.out.below DC.out
         have X6 : Hid (MBx w6 k1 n (.slice (some ⟨g, 0, none⟩) zl cg) 26) := X2.out.below DC.out
         have L6 : Hid (IntsAt w6 ga p) := L2.out.below DC.out
         clear hb)))
    all_goals
      clear kS x0 x1 htt
      have E6 : Hid (Below w6.heap.size w6 (w6.alloc (.cells #[] 2))) := (Below.refl _ _).alloc (Nat.le_refl _) _
      have O6 : Hid ((w6.alloc (.cells #[] 2)).ownsRow w6.heap.size 2 1 (.slice (some ⟨w6.heap.size, 0, none⟩) 0 0) 0 ((rngI 0).map (Value.int .i64))) := ⟨rfl, .inr ⟨w6.heap.size, 0, #[], rfl, Nat.le_refl _, heap_alloc_new _ _, Nat.le_refl _, by unfold maxLen; omega, by simp, rfl⟩⟩
      go_wp2_with fail
      generalize w6.alloc (.cells #[] 2) = W7 at *
      go_loopw [5, 6] (fun t5 t6 wr => ∃ i : Nat, i ≤ n ∧ t6 = .int .i64 i ∧ Below w6.heap.size w6 wr ∧ wr.ownsRow w6.heap.size 2 1 t5 i ((rngI i).map (Value.int .i64))) (fun _ t6 _ => n - (intOf t6).toNat)
      case atStart => exact ⟨0, Nat.zero_le _, rfl, E6.out, O6.out⟩
      case round =>
        clear E6 O6
        obtain ⟨i, hi, rfl, hbr, hor⟩ := hrel
        have BR : Hid (Below w6.heap.size w6 wr) := hbr
        have OR : Hid (wr.ownsRow w6.heap.size 2 1 u5 i ((rngI i).map (Value.int .i64))) := hor
        have XR : Hid (MBx wr k1 n (.slice (some ⟨g, 0, none⟩) zl cg) 26) := X6.out.below hbr
        clear hbr hor
        obtain ⟨sa, sc, hu⟩ : ∃ sa sc, u5 = .slice sa i sc := by
          rcases own_kinds OR.out with ⟨h1, h2⟩ | ⟨g9, c9, h1, _⟩
          · exact ⟨none, 0, by rw [h1, h2]⟩
          · exact ⟨_, c9, h1⟩
        subst hu
        obtain ⟨x0, x1⟩ := XR.out.two
        by_cases hin : i < n
        · have hinI : (i : Int) < (n : Int) := by omega
          have OA : Hid ((wr.alloc (.cells #[.int .i64 i] 2)).ownsRow w6.heap.size 2 1 (.slice sa i sc) i ((rngI i).map (Value.int .i64))) := OR.out.alloc _
          have VA : Hid ((wr.alloc (.cells #[.int .i64 i] 2)).heap[wr.heap.size]? = some (.cells #[.int .i64 i] 2 (0, 0))) := heap_alloc_new _ _
          go_wp2_with (
            at_builtin
            refine append_vals Try.underlying24 infoIx rfl (by decide) _ rfl _ _ rfl w6.heap.size _ i ((rngI i).map (Value.int .i64)) rfl OA.out wr.heap.size 0 1 1 [Value.int .i64 i] rfl rfl (cell1_at _ _ _ _ VA.out) (by intro u hu; simp only [List.mem_cons, List.not_mem_nil, or_false] at hu; rw [hu]; rfl) (by omega) (by omega) (by have := BR.out.size; simp; omega) ?_
            intro v4 w9 ho9 hg9 hb9 hz9
            have BR9 : Hid (Below w6.heap.size w6 w9) := (BR.out.alloc BR.out.size _).grown hg9 (by have := BR.out.size; simp; omega) (fun g e => (OR.out.lt g e).1)
            have OR9 : Hid (w9.ownsRow w6.heap.size 2 1 v4 (i + 1) ((rngI (i + 1)).map (Value.int .i64))) := by rw [rngI_snoc, List.map_append]; exact ho9
            clear ho9 hg9 hb9 hz9)
          go_roundw
          case rel => exact ⟨i + 1, by omega, by go_num, BR9.out, OR9.out⟩
          case measure => simp [intOf]; omega
        · have hie : i = n := by omega
          subst hie
          have hnl : ¬ ((i : Int) < (i : Int)) := by omega
          clear hin
          have hcv : countV (i : Int) = (facN i : Int) := by rw [countV_yes hn6, fac_nat]
          obtain ⟨cv, HCV⟩ : ∃ v, Hid (facN i = v) := ⟨_, rfl⟩
          have hcp : 0 < cv := by rw [← HCV.out]; exact facN_pos i
          have hc720 : cv ≤ 720 := by rw [← HCV.out]; exact facN_bd i hn6
          obtain ⟨kk, HKK⟩ : ∃ v, Hid (N % cv = v) := ⟨_, rfl⟩
          have hkk : kk < cv := by rw [← HKK.out]; exact Nat.mod_lt _ hcp
          have hrm1 : (N : Int).tmod (cv : Int) = (kk : Int) := by rw [Int.tmod_eq_emod_of_nonneg (by omega), ← HKK.out]; simp
          have hrm2 : (N : Int) % (cv : Int) = (kk : Int) := by rw [← HKK.out]; simp
          have hcz : ((cv : Int) == 0) = false := by simp; omega
          have hcz2 : ¬ ((cv : Int) = 0) := by omega
          have hni6 : (i : Int) ≤ 6 := by omega
          have hmin : min (i : Int) 6 = (i : Int) := by omega
          have CCN := specCount_any (i : Int) wr
          rw [hcv, HCV.out] at CCN
          have HPT : Hid (permT (rngI i) (kk : Int) = true) := by
            show _ = _
            unfold permT
            rw [rngI_len, hcv, HCV.out]
            exact inB_mk (by omega)
          have IR : Hid (IntsAt wr sa (rngI i)) := ints_own (by have := OR.out; exact this)
          have CPM := implPermuted_opt sa sc (rngI i) (kk : Int) wr IR.out (by rw [rngI_len]; omega)
          rw [rngI_len, HPT.out] at CPM
          have HBD : Hid (tv ≤ pathV (i : Int) zs (permV (rngI i) (kk : Int))) := by
            show _ ≤ _
            rw [← HTV.out]
            rcases HT.out with ⟨hs, _⟩ | ⟨m, l, ins, e, hs, ht, hl9, rfl, rfl⟩
            · rw [HSB.out] at hs; cases hs
            · obtain rfl : m = i := by omega
              exact bound_is hs hn6 ht hl9 HPT.out
          clear hcv
          go_wp2_with fail
          refine CCN.mono ?_
          rintro e w9 ⟨rfl, hw9⟩
          subst hw9
          go_wp2_with fail
          refine CPM.mono ?_
          rintro e w10 ⟨sl, rfl, hb10, ho10⟩
          obtain ⟨P, HPP⟩ : ∃ v, Hid (permV (rngI i) (kk : Int) = v) := ⟨_, rfl⟩
          rw [HPP.out] at HBD ho10
          obtain ⟨pn, HPN⟩ : ∃ v, Hid (P.length = v) := ⟨_, rfl⟩
          rw [HPN.out] at ho10
          obtain ⟨pa, pc, hsl⟩ : ∃ pa pc, sl = .slice pa pn pc := by
            rcases own_kinds ho10 with ⟨h1, h2⟩ | ⟨g9, c9, h1, _⟩
            · exact ⟨none, 0, by rw [h1, h2]⟩
            · exact ⟨_, c9, h1⟩
          subst hsl
          have hpn : pn ≤ 1000 := by
            have h9 : (permV (rngI i) (kk : Int)).length ≤ 1000 := by
              obtain ⟨m, e, _, hmf, hpv⟩ := permT_nat HPT.out
              rw [hpv, rngI_len]
              rw [rngI_len] at hmf
              rw [unr_length i _ m (by rw [rngI_len]) hmf]
              omega
            rw [HPP.out, HPN.out] at h9
            exact h9
          have BX : Hid (Below w6.heap.size w6 w10) := BR.out.trans (hb10.mono BR.out.size)
          have B11 : Hid (Below w.heap.size w w10) := B6.out.trans (BX.out.mono B6.out.size)
          have X11 : Hid (MBx w10 k1 (i : Int) (.slice (some ⟨g, 0, none⟩) zl cg) 26) := X6.out.below BX.out
          have I11 : Hid (IntsAt w10 (some ⟨g, 0, none⟩) zs) := I6.out.below BX.out
          have L11 : Hid (IntsAt w10 ga p) := L6.out.below BX.out
          have P11 : Hid (IntsAt w10 pa P) := ints_own ho10
          obtain ⟨pv, HPV⟩ : ∃ v, Hid (pathV (i : Int) zs P = v) := ⟨_, rfl⟩
          have CPT : Hid (∀ W, IntsAt W (some ⟨g, 0, none⟩) zs → IntsAt W pa P → Calls Try.prog 19 #[.agg #[.int .i64 (i : Int), .slice (some ⟨g, 0, none⟩) zl cg], .slice pa pn pc] W fun e w' => e = .returned (.int .i64 pv) ∧ Below W.heap.size W w') := fun W h1 h2 => by
            have := implPath_any (i : Int) (some ⟨g, 0, none⟩) pa cg pc zs P W h1 h2 (by rw [HPN.out]; omega)
            rw [HZ.out, HPN.out, HPV.out] at this
            exact this
          have hge : tv ≤ pv := by rw [← HPV.out]; exact HBD.out
          have hgt6 : ¬ ((6 : Int) < (i : Int)) := by omega
          clear hb10 ho10 CPM CCN BR OR XR X6 I6 L6 B6 IR HBD x0 x1 hrm1 hrm2 hcz hcz2 hmin
          obtain ⟨x0, x1⟩ := X11.out.two
          have kS := And.intro x0 x1
          go_wp2_with fail
          clear kS x0 x1
          refine (CPT.out w10 I11.out P11.out).mono ?_
          rintro e w12 ⟨rfl, hb⟩
          have D12 : Hid (Below w10.heap.size w10 w12) := hb
          clear hb
          go_wp2_with fail
          refine (CTI.out w12 ga gc (L11.out.below D12.out)).mono ?_
          rintro e w13 ⟨rfl, hb⟩
          have D13 : Hid (Below w10.heap.size w10 w13) := D12.out.trans (hb.mono D12.out.size)
          have B13 : Hid (Below w.heap.size w w13) := B11.out.trans (D13.out.mono B11.out.size)
          clear hb
          go_wp2
          go_ret
          exact ⟨by first | rfl | simp, B13.out⟩

theorem lawFnTreeBound_all (a : Option Addr) (c : Nat) (bs : List Int) (w : World) (hA : CodeAt w a bs) (hl : bs.length ≤ 9223372036854775807) :
    Calls Try.prog 4 #[.slice a bs.length c] w fun e w' => e = .returned (.bool true) ∧ Below w.heap.size w w' := by
  by_cases h : bs.length ≤ 1048576
  · exact lawFnTreeBound a c bs w hA h
  · exact lawFnTreeBound_big a c bs.length w hl (by omega)

end Go.Proofs.Ytaehhlkpbhmdfaa
