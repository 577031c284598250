import Derived.Test.YtpahhhocgpohbaaPack1
import Derived.Test.YtpahhhocgpohbaaPack2
import Derived.Test.YtpahhhocgpohbaaDeeds
import Derived.Test.YtpahhhocgpohbaaShelfRead
import Derived.Test.YtpahhhocgpohbaaPack14
namespace Go.Proofs.Ytpahhhocgpohbaa
open Go.RowKit

theorem fil_names : ∀ (F : List FI) (k : Nat), filTo F k = true → ∀ j, j < k → nmB (F.getD j fi0).1 = true
  | _, 0, _, j, hj => by omega
  | F, k + 1, h, j, hj => by
    rw [filTo, Bool.and_eq_true] at h
    by_cases e : j = k
    · rw [e]
      have := h.2
      unfold stpB at this
      rw [Bool.and_eq_true] at this
      exact this.1
    · exact fil_names F k h.1 j (by omega)
def NmF (F : List FI) : Prop := ∀ f ∈ F, nmB f.1 = true
theorem nmF_of {F : List FI} (h : filB F = true) : NmF F := fun f hf => by
  obtain ⟨j, hj, e⟩ := List.getElem_of_mem hf
  have := fil_names F F.length (filB_true.1 h).2.1 j hj
  rw [List.getD_eq_getElem?_getD, List.getElem?_eq_getElem hj] at this
  rw [← e]
  exact this
theorem filB_fit {G : List FI} (hn : NmF G) (hr : RisF G) : filB G = (decide (G.length ≤ 60) && decide (totL G ≤ 200000)) := by
  have h : ∀ k, k ≤ G.length → filTo G k = true := by
    intro k
    induction k with
    | zero => exact fun _ => rfl
    | succ k ih =>
      intro hk
      rw [filTo, ih (by omega), Bool.true_and]
      unfold stpB
      rw [hn _ (by rw [List.getD_eq_getElem?_getD, List.getElem?_eq_getElem (show k < G.length by omega)]; simp), Bool.true_and]
      by_cases e : k = 0
      · rw [decide_eq_true e]; rfl
      · rw [decide_eq_false e, Bool.false_or]
        unfold RisF at hr
        rw [List.pairwise_iff_getElem] at hr
        have := hr (k - 1) k (by omega) (by omega) (by omega)
        rw [List.getD_eq_getElem?_getD, List.getD_eq_getElem?_getD, List.getElem?_eq_getElem (show k - 1 < G.length by omega), List.getElem?_eq_getElem (show k < G.length by omega)]
        exact this
  unfold filB
  rw [h _ (Nat.le_refl _), Bool.true_and, totTo_all]
theorem nmF_put {F : List FI} (h : NmF F) {n : ByteArray} (d : ByteArray) (hn : nmB n = true) : NmF (putF F n d) := by
  intro f hf
  unfold putF at hf
  rcases List.mem_append.1 hf with hf | hf
  · exact h f (List.mem_filter.1 hf).1
  · rcases List.mem_cons.1 hf with rfl | hf
    · exact hn
    · exact h f (List.mem_filter.1 hf).1
theorem nmF_cut {F : List FI} (h : NmF F) (n : ByteArray) : NmF (cutF F n) := fun f hf => h f (List.mem_filter.1 hf).1
theorem frm_names {o : OP} (h : frmB o = true) : nmB o.n = true ∧ (o.k = 1 ∨ o.k = 2 ∨ o.k = 3) ∧ (o.k = 2 → nmB o.t = true) := by
  unfold frmB at h
  rw [Bool.and_eq_true, Bool.and_eq_true, decide_eq_true_eq] at h
  refine ⟨h.2.1, by omega, fun hk => ?_⟩
  have := h.2.2
  rw [if_pos hk, Bool.and_eq_true] at this
  exact this.1
theorem nmF_do {F : List FI} (h : NmF F) {o : OP} (ho : frmB o = true) : NmF (doF F o) := by
  obtain ⟨h1, h2, h3⟩ := frm_names ho
  unfold doF
  split
  · exact nmF_put h _ h1
  · split
    · split
      · exact nmF_put (nmF_cut h _) _ (h3 (by assumption))
      · exact nmF_cut h _
    · exact h
theorem fit_do {F : List FI} (h : filB F = true) {o : OP} (ho : frmB o = true) : filB (doF F o) = (decide ((doF F o).length ≤ 60) && decide (totL (doF F o) ≤ 200000)) :=
  filB_fit (nmF_do (nmF_of h) ho) (risF_do (risF_of F (filB_true.1 h).2.1) o)

/-- Whether what the ops made is what lives. -/
def endB (L : List FI) : Option (List FI) → Bool
  | none => false
  | some F => decide (F = L)
theorem dskB_is (L S : List FI) (O : List OP) : dskB L S O = (filB L && (filB S && (decide (O.length ≤ 200) && endB L (runF S O O.length)))) := by
  unfold dskB endB
  cases runF S O O.length <;> rfl

set_option maxHeartbeats 4000000 in
set_option maxRecDepth 20000 in
theorem opsMakeLive_any (la sa oa : Option Addr) (lc sc oc : Nat) (L S : List FI) (O : List OP) (w : World) (hL : FilesAt w la L) (hS : FilesAt w sa S) (hO : OpsAt w oa O)
    (hLn : L.length ≤ 60) (hfs : filB S = true) (hOn : O.length ≤ 200) (hOs : OOk O) :
    Calls Try.prog 23 #[.agg #[.slice la L.length lc, .slice sa S.length sc, .slice oa O.length oc]] w fun e w' => e = .returned (.bool (endB L (runF S O O.length))) ∧ Below w.heap.size w w' := by
  obtain ⟨r, HR⟩ : ∃ r, Hid (endB L (runF S O O.length) = r) := ⟨_, rfl⟩
  rw [HR.out]
  have hSn := (filB_true.1 hfs).1
  obtain ⟨ln, HLN⟩ : ∃ n, Hid (L.length = n) := ⟨_, rfl⟩
  obtain ⟨sn, HSN⟩ : ∃ n, Hid (S.length = n) := ⟨_, rfl⟩
  obtain ⟨on, HON⟩ : ∃ n, Hid (O.length = n) := ⟨_, rfl⟩
  rw [HLN.out, HSN.out, HON.out]
  have B0 : Hid (Below w.heap.size w (w.alloc (.cells #[.slice la ln lc, .slice sa sn sc, .slice oa on oc] 27))) := (Below.refl _ _).alloc (Nat.le_refl _) _
  have R0 : Hid ((w.alloc (.cells #[.slice la ln lc, .slice sa sn sc, .slice oa on oc] 27)).heap[w.heap.size]? = some (.cells #[.slice la ln lc, .slice sa sn sc, .slice oa on oc] 27 (0, 0))) := heap_alloc_new _ _
  obtain ⟨c0, c1, c2⟩ := cells3 R0.out
  have FL : Hid (FilesAt (w.alloc (.cells #[.slice la ln lc, .slice sa sn sc, .slice oa on oc] 27)) la L) := hL.below B0.out
  have FO : Hid (OpsAt (w.alloc (.cells #[.slice la ln lc, .slice sa sn sc, .slice oa on oc] 27)) oa O) := hO.below B0.out
  have SO : Hid (Calls Try.prog 45 #[.slice sa sn sc] (w.alloc (.cells #[.slice la ln lc, .slice sa sn sc, .slice oa on oc] 27)) fun e w' => ∃ fv S', e = .returned (.pointer (some ⟨(w.alloc (.cells #[.slice la ln lc, .slice sa sn sc, .slice oa on oc] 27)).heap.size, 0, none⟩)) ∧ Below (w.alloc (.cells #[.slice la ln lc, .slice sa sn sc, .slice oa on oc] 27)).heap.size (w.alloc (.cells #[.slice la ln lc, .slice sa sn sc, .slice oa on oc] 27)) w' ∧ SH w' (w.alloc (.cells #[.slice la ln lc, .slice sa sn sc, .slice oa on oc] 27)).heap.size (w.alloc (.cells #[.slice la ln lc, .slice sa sn sc, .slice oa on oc] 27)).heap.size fv S' ∧ keysG S' = S ∧ ∀ g ∈ S', g.ps.length ≤ 1) := by
    have := shelfOf_any sa sc S _ (hS.below B0.out) (by omega)
    rw [HSN.out] at this
    exact this
  have HOS : Hid (OOk O) := hOs
  have HFS : Hid (filB S = true) := hfs
  clear hL hS hO hOs hfs
  rw [HLN.out] at hLn
  rw [HSN.out] at hSn
  rw [HON.out] at hOn
  go_enter Try.func23, Try.ntmps23
  go_wp2_with fail
  generalize hW0 : w.alloc (.cells #[.slice la ln lc, .slice sa sn sc, .slice oa on oc] 27) = W0 at *
  clear hW0
  refine SO.out.mono ?_
  rintro e w1 ⟨fv1, S1, rfl, hb1, hs1, hk1, hl1⟩
  have B1 : Hid (Below W0.heap.size W0 w1) := hb1
  have H1 : Hid (SH w1 W0.heap.size W0.heap.size fv1 S1) := hs1
  have K1 : Hid (keysG S1 = S) := hk1
  have L1 : Hid (∀ g ∈ S1, g.ps.length ≤ 1) := hl1
  have RW1 : Hid (w1.heap[w.heap.size]? = some (.cells #[.slice la ln lc, .slice sa sn sc, .slice oa on oc] 27 (0, 0))) := below_row hb1 (row_lt R0.out) R0.out
  obtain ⟨d0, d1, d2⟩ := cells3 RW1.out
  clear hb1 hs1 hk1 hl1 c0 c1 c2
  obtain ⟨sb, HSB⟩ : ∃ s, Hid (W0.heap.size = s) := ⟨_, rfl⟩
  rw [HSB.out] at H1 ⊢
  go_wp2_with fail
  go_loopw [14] (fun ti wr => ∃ (i : Nat) (fv : Value) (T : List GR), i ≤ on ∧ ti = .int .i64 i ∧ Below W0.heap.size W0 wr ∧ SH wr sb sb fv T ∧ runF S O i = some (keysG T) ∧ filB (keysG T) = true ∧ ∀ g ∈ T, g.ps.length ≤ i + 1) (fun ti _ => on - (intOf ti).toNat)
  case atStart => exact ⟨0, fv1, S1, Nat.zero_le _, rfl, B1.out, H1.out, by rw [K1.out]; rfl, by rw [K1.out]; exact HFS.out, L1.out⟩
  case round =>
    clear d0 d1 d2 K1 L1 H1 RW1
    obtain ⟨i, fv, T, hi, rfl, hb, hsh, hrun, hff, hl⟩ := hrel
    have HRUN : Hid (runF S O i = some (keysG T)) := hrun
    have HFF : Hid (filB (keysG T) = true) := hff
    have HT : Hid (SH wr sb sb fv T) := hsh
    have HLT : Hid (∀ g ∈ T, g.ps.length ≤ i + 1) := hl
    have BR : Hid (Below W0.heap.size W0 wr) := hb
    clear hrun hff hsh hb hl
    obtain ⟨f60, ffil, ftot⟩ := filB_true.1 HFF.out
    rw [totTo_all] at ftot
    rw [keys_len] at f60
    have HRIS : Hid (RisG T) := risG_keys (risF_of _ ffil)
    clear ffil
    have RR : Hid (wr.heap[w.heap.size]? = some (.cells #[.slice la ln lc, .slice sa sn sc, .slice oa on oc] 27 (0, 0))) := below_row BR.out (row_lt R0.out) R0.out
    obtain ⟨g0, g1, g2⟩ := cells3 RR.out
    have hsbw : sb ≤ wr.heap.size := by rw [← HSB.out]; exact BR.out.size
    by_cases hlt : i < on
    · have hin : (i : Int) < on := by omega
      have hiO : i < O.length := by rw [HON.out]; exact hlt
      obtain ⟨ob, oo, e, o0, o1, o2, o3⟩ := (FO.out.below BR.out) i hiO
      subst e
      obtain ⟨z1, z2, z3⟩ := HOS.out i hiO
      have HNO : Hid (runF S O (i + 1) = none → r = false) := fun h => by
        rw [← HR.out]
        have := runF_no h (O.length - (i + 1))
        rw [show i + 1 + (O.length - (i + 1)) = O.length by omega] at this
        rw [this]
        rfl
      have HRN : Hid (runF S O (i + 1) = if okF (keysG T) (O.getD i op0) && (frmB (O.getD i op0) && filB (doF (keysG T) (O.getD i op0))) then some (doF (keysG T) (O.getD i op0)) else none) := by
        show _ = _
        rw [runF, HRUN.out]
      generalize O.getD i op0 = o at *
      have BX : Hid (Below wr.heap.size wr (wr.alloc (.cells #[.int .i64 o.k, .string o.n, .string o.t, .string o.d] 36))) := (Below.refl _ _).alloc (Nat.le_refl _) _
      have DO : Hid (Calls Try.prog 46 #[.agg #[.int .i64 o.k, .string o.n, .string o.t, .string o.d]] (wr.alloc (.cells #[.int .i64 o.k, .string o.n, .string o.t, .string o.d] 36)) fun e w' => ∃ v, e = .returned (.tuple #[v, .bool (frmB o)]) ∧ (frmB o = true → v = deedV o) ∧ Below wr.heap.size wr w') := by
        refine (deedOf_any o _).mono ?_
        rintro e w' ⟨v, rfl, h1, h2⟩
        exact ⟨v, rfl, h1, BX.out.trans (h2.mono BX.out.size)⟩
      have HFD : Hid (frmB o = true → filB (doF (keysG T) o) = (decide ((doF (keysG T) o).length ≤ 60) && decide (totL (doF (keysG T) o) ≤ 200000))) := fit_do HFF.out
      have hdt := totL_do (keysG T) o
      have hdl := doF_len (keysG T) o
      rw [keys_len] at hdl
      have HDR : Hid (RisF (doF (keysG T) o)) := risF_do (risG_iff.1 HRIS.out) o
      cases hfm : frmB o
      · have hr : r = false := HNO.out (by rw [HRN.out, hfm, Bool.false_and, Bool.and_false]; rfl)
        subst hr
        rw [hfm] at DO
        obtain ⟨k, n, t, d⟩ := o
        simp only at o0 o1 o2 o3 DO
        go_wp2_with fail
        refine DO.out.mono ?_
        rintro e w2 ⟨v, rfl, -, hb2⟩
        have B2 : Hid (Below w.heap.size w w2) := B0.out.trans ((BR.out.trans (hb2.mono BR.out.size)).mono B0.out.size)
        clear hb2
        go_wp2
        go_ret
        exact ⟨rfl, B2.out⟩
      · have HFD2 := HFD.out hfm
        rw [hfm] at DO
        obtain ⟨-, hk3, -⟩ := frm_names hfm
        rcases hk3 with hk | hk | hk
        · have hdv : deedV o = .iface 92 (.agg #[.string o.n, .string o.d]) := by unfold deedV; rw [if_pos hk]
          rw [hdv] at DO
          obtain ⟨k, n, t, d⟩ := o
          simp only at o0 o1 o2 o3 DO hk z1 z2 z3
          subst hk
          have hm1 := fun (q : Nat) (W : World) => methAF q (.agg #[.string n, .string d]) W
          have hm2 := fun (q : Nat) (W : World) => methAM q (.agg #[.string n, .string d]) W
          have HDO : Hid (doF (keysG T) ⟨1, n, t, d⟩ = putF (keysG T) n (datF (keysG T) n ++ d)) := by show _ = _; unfold doF; rw [if_pos rfl]
          have hok : okF (keysG T) ⟨1, n, t, d⟩ = true := by unfold okF; rfl
          rw [hok, hfm, Bool.true_and, Bool.true_and] at HRN
          obtain ⟨D, HD⟩ : ∃ D, Hid (doF (keysG T) ⟨1, n, t, d⟩ = D) := ⟨_, rfl⟩
          rw [HD.out] at HRN HFD2 hdt hdl HDO HDR
          go_wp2_with fail
          refine DO.out.mono ?_
          rintro e w2 ⟨v, rfl, hv, hb2⟩
          have hv := hv trivial
          subst hv
          have B2 : Hid (Below wr.heap.size wr w2) := hb2
          have H2 : Hid (SH w2 sb sb fv T) := HT.out.below hb2
          clear hb2
          obtain ⟨x, HX⟩ : ∃ x, Hid (filB D = x) := ⟨_, rfl⟩
          have FT : Hid (∀ W fv' T', SH W sb sb fv' T' → keysG T' = D → Calls Try.prog 47 #[.pointer (some ⟨sb, 0, none⟩)] W fun e w' => e = .returned (.bool x) ∧ Below W.heap.size W w') := fun W fv' T' h1 h2 => by
            have := fits_any sb sb fv' T' W h1 (by rw [← keys_len, h2]; omega) (by rw [h2]; omega)
            rw [← keys_len T', h2, ← HFD2, HX.out] at this
            exact this
          cases x
          · have hr : r = false := HNO.out (by rw [HRN.out, HX.out]; rfl)
            subst hr
            go_wp2_with (first
              | (go_at_call 90
                 refine (appFinds_any n d sb w2).mono ?_
                 rintro e w3 ⟨rfl, hb3⟩
                 have B3 : Hid (Below wr.heap.size wr w3) := B2.out.trans (hb3.mono B2.out.size)
                 have H3 : Hid (SH w3 sb sb fv T) := H2.out.below hb3
                 clear hb3)
              | (go_at_call 91
                 refine (appMake_any n d sb sb (i + 1) fv T w3 H3.out (Nat.le_trans hsbw B3.out.size) (by omega) HRIS.out HLT.out (by omega) (by omega) (by omega)).mono ?_
                 rintro e w4 ⟨rfl, fv4, T4, hb4, hs4, hk4, hl4⟩
                 have B4 : Hid (Below W0.heap.size W0 w4) := (BR.out.trans (B3.out.mono BR.out.size)).trans (by rw [HSB.out]; exact hb4)
                 have H4 : Hid (SH w4 sb sb fv4 T4) := hs4
                 have K4 : Hid (keysG T4 = D) := by show _ = _; rw [hk4, HDO.out]
                 have L4 : Hid (∀ g ∈ T4, g.ps.length ≤ i + 1 + 1) := hl4
                 clear hb4 hs4 hk4 hl4)
              | (go_at_call 47
                 refine (FT.out w4 fv4 T4 H4.out K4.out).mono ?_
                 rintro e w5 ⟨rfl, hb5⟩
                 have B5 : Hid (Below W0.heap.size W0 w5) := B4.out.trans (hb5.mono B4.out.size)
                 have H5 : Hid (SH w5 sb sb fv4 T4) := H4.out.below hb5
                 clear hb5))
            have B6 : Hid (Below w.heap.size w w5) := B0.out.trans (B5.out.mono B0.out.size)
            go_ret
            exact ⟨rfl, B6.out⟩
          · have HRX : Hid (runF S O (i + 1) = some D) := by show _ = _; rw [HRN.out, HX.out]; rfl
            go_wp2_with (first
              | (go_at_call 90
                 refine (appFinds_any n d sb w2).mono ?_
                 rintro e w3 ⟨rfl, hb3⟩
                 have B3 : Hid (Below wr.heap.size wr w3) := B2.out.trans (hb3.mono B2.out.size)
                 have H3 : Hid (SH w3 sb sb fv T) := H2.out.below hb3
                 clear hb3)
              | (go_at_call 91
                 refine (appMake_any n d sb sb (i + 1) fv T w3 H3.out (Nat.le_trans hsbw B3.out.size) (by omega) HRIS.out HLT.out (by omega) (by omega) (by omega)).mono ?_
                 rintro e w4 ⟨rfl, fv4, T4, hb4, hs4, hk4, hl4⟩
                 have B4 : Hid (Below W0.heap.size W0 w4) := (BR.out.trans (B3.out.mono BR.out.size)).trans (by rw [HSB.out]; exact hb4)
                 have H4 : Hid (SH w4 sb sb fv4 T4) := hs4
                 have K4 : Hid (keysG T4 = D) := by show _ = _; rw [hk4, HDO.out]
                 have L4 : Hid (∀ g ∈ T4, g.ps.length ≤ i + 1 + 1) := hl4
                 clear hb4 hs4 hk4 hl4)
              | (go_at_call 47
                 refine (FT.out w4 fv4 T4 H4.out K4.out).mono ?_
                 rintro e w5 ⟨rfl, hb5⟩
                 have B5 : Hid (Below W0.heap.size W0 w5) := B4.out.trans (hb5.mono B4.out.size)
                 have H5 : Hid (SH w5 sb sb fv4 T4) := H4.out.below hb5
                 clear hb5))
            go_roundw
            case rel => exact ⟨i + 1, fv4, T4, by omega, by first | rfl | go_num, B5.out, H5.out, by rw [HRX.out, K4.out], by rw [K4.out]; exact HX.out, L4.out⟩
            case measure => simp [intOf]; omega
        · have hdv : deedV o = .iface 94 (.agg #[.string o.n, .string o.t]) := by unfold deedV; rw [if_neg (by omega), if_pos hk]
          rw [hdv] at DO
          obtain ⟨k, n, t, d⟩ := o
          simp only at o0 o1 o2 o3 DO hk z1 z2 z3
          subst hk
          have hm1 := fun (q : Nat) (W : World) => methNF q (.agg #[.string n, .string t]) W
          have hm2 := fun (q : Nat) (W : World) => methNM q (.agg #[.string n, .string t]) W
          cases hhas : hasF (keysG T) n
          · skip
            have hr : r = false := HNO.out (by rw [HRN.out, show okF (keysG T) ⟨2, n, t, d⟩ = false by unfold okF; simp only; rw [hhas]; rfl]; rfl)
            subst hr
            go_wp2_with fail
            refine DO.out.mono ?_
            rintro e w2 ⟨v, rfl, hv, hb2⟩
            have hv := hv trivial
            subst hv
            have B2 : Hid (Below wr.heap.size wr w2) := hb2
            have H2 : Hid (SH w2 sb sb fv T) := HT.out.below hb2
            clear hb2
            go_wp2_with (first
              | (go_at_call 106
                 refine (renFinds_any n t sb sb fv T w2 H2.out (by omega) HRIS.out).mono ?_
                 rintro e w3 ⟨rfl, hb3⟩
                 have B3 : Hid (Below wr.heap.size wr w3) := B2.out.trans (hb3.mono B2.out.size)
                 have H3 : Hid (SH w3 sb sb fv T) := H2.out.below hb3
                 rw [hhas]
                 clear hb3))
            have B5 : Hid (Below w.heap.size w w3) := B0.out.trans ((BR.out.trans (B3.out.mono BR.out.size)).mono B0.out.size)
            go_ret
            exact ⟨rfl, B5.out⟩
          · skip
            have HDO : Hid (doF (keysG T) ⟨2, n, t, d⟩ = putF (cutF (keysG T) n) t (datF (keysG T) n)) := by show _ = _; unfold doF; simp only; rw [if_neg (by omega), hhas, if_pos rfl, if_pos trivial]
            have hok : okF (keysG T) ⟨2, n, t, d⟩ = true := by unfold okF; simp only; rw [hhas]; rfl
            rw [hok, hfm, Bool.true_and, Bool.true_and] at HRN
            obtain ⟨D, HD⟩ : ∃ D, Hid (doF (keysG T) ⟨2, n, t, d⟩ = D) := ⟨_, rfl⟩
            rw [HD.out] at HRN HFD2 hdt hdl HDO HDR
            go_wp2_with fail
            refine DO.out.mono ?_
            rintro e w2 ⟨v, rfl, hv, hb2⟩
            have hv := hv trivial
            subst hv
            have B2 : Hid (Below wr.heap.size wr w2) := hb2
            have H2 : Hid (SH w2 sb sb fv T) := HT.out.below hb2
            clear hb2
            obtain ⟨x, HX⟩ : ∃ x, Hid (filB D = x) := ⟨_, rfl⟩
            have FT : Hid (∀ W fv' T', SH W sb sb fv' T' → keysG T' = D → Calls Try.prog 47 #[.pointer (some ⟨sb, 0, none⟩)] W fun e w' => e = .returned (.bool x) ∧ Below W.heap.size W w') := fun W fv' T' h1 h2 => by
              have := fits_any sb sb fv' T' W h1 (by rw [← keys_len, h2]; omega) (by rw [h2]; omega)
              rw [← keys_len T', h2, ← HFD2, HX.out] at this
              exact this
            cases x
            · have hr : r = false := HNO.out (by rw [HRN.out, HX.out]; rfl)
              subst hr
              go_wp2_with (first
                | (go_at_call 106
                   refine (renFinds_any n t sb sb fv T w2 H2.out (by omega) HRIS.out).mono ?_
                   rintro e w3 ⟨rfl, hb3⟩
                   have B3 : Hid (Below wr.heap.size wr w3) := B2.out.trans (hb3.mono B2.out.size)
                   have H3 : Hid (SH w3 sb sb fv T) := H2.out.below hb3
                   rw [hhas]
                   clear hb3)
                | (go_at_call 107
                   refine (renMake_any n t sb sb (i + 1) fv T w3 H3.out (Nat.le_trans hsbw B3.out.size) (by omega) HRIS.out HLT.out).mono ?_
                   rintro e w4 ⟨rfl, fv4, T4, hb4, hs4, hk4, hl4⟩
                   have B4 : Hid (Below W0.heap.size W0 w4) := (BR.out.trans (B3.out.mono BR.out.size)).trans (by rw [HSB.out]; exact hb4)
                   have H4 : Hid (SH w4 sb sb fv4 T4) := hs4
                   have K4 : Hid (keysG T4 = D) := by show _ = _; rw [hk4, HDO.out]
                   have L4 : Hid (∀ g ∈ T4, g.ps.length ≤ i + 1 + 1) := hl4
                   clear hb4 hs4 hk4 hl4)
                | (go_at_call 47
                   refine (FT.out w4 fv4 T4 H4.out K4.out).mono ?_
                   rintro e w5 ⟨rfl, hb5⟩
                   have B5 : Hid (Below W0.heap.size W0 w5) := B4.out.trans (hb5.mono B4.out.size)
                   have H5 : Hid (SH w5 sb sb fv4 T4) := H4.out.below hb5
                   clear hb5))
              have B6 : Hid (Below w.heap.size w w5) := B0.out.trans (B5.out.mono B0.out.size)
              go_ret
              exact ⟨rfl, B6.out⟩
            · have HRX : Hid (runF S O (i + 1) = some D) := by show _ = _; rw [HRN.out, HX.out]; rfl
              go_wp2_with (first
                | (go_at_call 106
                   refine (renFinds_any n t sb sb fv T w2 H2.out (by omega) HRIS.out).mono ?_
                   rintro e w3 ⟨rfl, hb3⟩
                   have B3 : Hid (Below wr.heap.size wr w3) := B2.out.trans (hb3.mono B2.out.size)
                   have H3 : Hid (SH w3 sb sb fv T) := H2.out.below hb3
                   rw [hhas]
                   clear hb3)
                | (go_at_call 107
                   refine (renMake_any n t sb sb (i + 1) fv T w3 H3.out (Nat.le_trans hsbw B3.out.size) (by omega) HRIS.out HLT.out).mono ?_
                   rintro e w4 ⟨rfl, fv4, T4, hb4, hs4, hk4, hl4⟩
                   have B4 : Hid (Below W0.heap.size W0 w4) := (BR.out.trans (B3.out.mono BR.out.size)).trans (by rw [HSB.out]; exact hb4)
                   have H4 : Hid (SH w4 sb sb fv4 T4) := hs4
                   have K4 : Hid (keysG T4 = D) := by show _ = _; rw [hk4, HDO.out]
                   have L4 : Hid (∀ g ∈ T4, g.ps.length ≤ i + 1 + 1) := hl4
                   clear hb4 hs4 hk4 hl4)
                | (go_at_call 47
                   refine (FT.out w4 fv4 T4 H4.out K4.out).mono ?_
                   rintro e w5 ⟨rfl, hb5⟩
                   have B5 : Hid (Below W0.heap.size W0 w5) := B4.out.trans (hb5.mono B4.out.size)
                   have H5 : Hid (SH w5 sb sb fv4 T4) := H4.out.below hb5
                   clear hb5))
              go_roundw
              case rel => exact ⟨i + 1, fv4, T4, by omega, by first | rfl | go_num, B5.out, H5.out, by rw [HRX.out, K4.out], by rw [K4.out]; exact HX.out, L4.out⟩
              case measure => simp [intOf]; omega
        · have hdv : deedV o = .iface 96 (.agg #[.string o.n]) := by unfold deedV; rw [if_neg (by omega), if_neg (by omega)]
          rw [hdv] at DO
          obtain ⟨k, n, t, d⟩ := o
          simp only at o0 o1 o2 o3 DO hk z1 z2 z3
          subst hk
          have hm1 := fun (q : Nat) (W : World) => methRF q (.agg #[.string n]) W
          have hm2 := fun (q : Nat) (W : World) => methRM q (.agg #[.string n]) W
          cases hhas : hasF (keysG T) n
          · skip
            have hr : r = false := HNO.out (by rw [HRN.out, show okF (keysG T) ⟨3, n, t, d⟩ = false by unfold okF; simp only; rw [hhas]; rfl]; rfl)
            subst hr
            go_wp2_with fail
            refine DO.out.mono ?_
            rintro e w2 ⟨v, rfl, hv, hb2⟩
            have hv := hv trivial
            subst hv
            have B2 : Hid (Below wr.heap.size wr w2) := hb2
            have H2 : Hid (SH w2 sb sb fv T) := HT.out.below hb2
            clear hb2
            go_wp2_with (first
              | (go_at_call 109
                 refine (remFinds_any n sb sb fv T w2 H2.out (by omega) HRIS.out).mono ?_
                 rintro e w3 ⟨rfl, hb3⟩
                 have B3 : Hid (Below wr.heap.size wr w3) := B2.out.trans (hb3.mono B2.out.size)
                 have H3 : Hid (SH w3 sb sb fv T) := H2.out.below hb3
                 rw [hhas]
                 clear hb3))
            have B5 : Hid (Below w.heap.size w w3) := B0.out.trans ((BR.out.trans (B3.out.mono BR.out.size)).mono B0.out.size)
            go_ret
            exact ⟨rfl, B5.out⟩
          · skip
            have HDO : Hid (doF (keysG T) ⟨3, n, t, d⟩ = cutF (keysG T) n) := by show _ = _; unfold doF; simp only; rw [if_neg (by omega), hhas, if_pos rfl, if_neg (by omega)]
            have hok : okF (keysG T) ⟨3, n, t, d⟩ = true := by unfold okF; simp only; rw [hhas]; rfl
            rw [hok, hfm, Bool.true_and, Bool.true_and] at HRN
            obtain ⟨D, HD⟩ : ∃ D, Hid (doF (keysG T) ⟨3, n, t, d⟩ = D) := ⟨_, rfl⟩
            rw [HD.out] at HRN HFD2 hdt hdl HDO HDR
            go_wp2_with fail
            refine DO.out.mono ?_
            rintro e w2 ⟨v, rfl, hv, hb2⟩
            have hv := hv trivial
            subst hv
            have B2 : Hid (Below wr.heap.size wr w2) := hb2
            have H2 : Hid (SH w2 sb sb fv T) := HT.out.below hb2
            clear hb2
            obtain ⟨x, HX⟩ : ∃ x, Hid (filB D = x) := ⟨_, rfl⟩
            have FT : Hid (∀ W fv' T', SH W sb sb fv' T' → keysG T' = D → Calls Try.prog 47 #[.pointer (some ⟨sb, 0, none⟩)] W fun e w' => e = .returned (.bool x) ∧ Below W.heap.size W w') := fun W fv' T' h1 h2 => by
              have := fits_any sb sb fv' T' W h1 (by rw [← keys_len, h2]; omega) (by rw [h2]; omega)
              rw [← keys_len T', h2, ← HFD2, HX.out] at this
              exact this
            cases x
            · have hr : r = false := HNO.out (by rw [HRN.out, HX.out]; rfl)
              subst hr
              go_wp2_with (first
                | (go_at_call 109
                   refine (remFinds_any n sb sb fv T w2 H2.out (by omega) HRIS.out).mono ?_
                   rintro e w3 ⟨rfl, hb3⟩
                   have B3 : Hid (Below wr.heap.size wr w3) := B2.out.trans (hb3.mono B2.out.size)
                   have H3 : Hid (SH w3 sb sb fv T) := H2.out.below hb3
                   rw [hhas]
                   clear hb3)
                | (go_at_call 110
                   refine (remMake_any n sb sb (i + 1) fv T w3 H3.out (Nat.le_trans hsbw B3.out.size) (by omega) HRIS.out HLT.out).mono ?_
                   rintro e w4 ⟨rfl, fv4, T4, hb4, hs4, hk4, hl4⟩
                   have B4 : Hid (Below W0.heap.size W0 w4) := (BR.out.trans (B3.out.mono BR.out.size)).trans (by rw [HSB.out]; exact hb4)
                   have H4 : Hid (SH w4 sb sb fv4 T4) := hs4
                   have K4 : Hid (keysG T4 = D) := by show _ = _; rw [hk4, HDO.out]
                   have L4 : Hid (∀ g ∈ T4, g.ps.length ≤ i + 1 + 1) := hl4
                   clear hb4 hs4 hk4 hl4)
                | (go_at_call 47
                   refine (FT.out w4 fv4 T4 H4.out K4.out).mono ?_
                   rintro e w5 ⟨rfl, hb5⟩
                   have B5 : Hid (Below W0.heap.size W0 w5) := B4.out.trans (hb5.mono B4.out.size)
                   have H5 : Hid (SH w5 sb sb fv4 T4) := H4.out.below hb5
                   clear hb5))
              have B6 : Hid (Below w.heap.size w w5) := B0.out.trans (B5.out.mono B0.out.size)
              go_ret
              exact ⟨rfl, B6.out⟩
            · have HRX : Hid (runF S O (i + 1) = some D) := by show _ = _; rw [HRN.out, HX.out]; rfl
              go_wp2_with (first
                | (go_at_call 109
                   refine (remFinds_any n sb sb fv T w2 H2.out (by omega) HRIS.out).mono ?_
                   rintro e w3 ⟨rfl, hb3⟩
                   have B3 : Hid (Below wr.heap.size wr w3) := B2.out.trans (hb3.mono B2.out.size)
                   have H3 : Hid (SH w3 sb sb fv T) := H2.out.below hb3
                   rw [hhas]
                   clear hb3)
                | (go_at_call 110
                   refine (remMake_any n sb sb (i + 1) fv T w3 H3.out (Nat.le_trans hsbw B3.out.size) (by omega) HRIS.out HLT.out).mono ?_
                   rintro e w4 ⟨rfl, fv4, T4, hb4, hs4, hk4, hl4⟩
                   have B4 : Hid (Below W0.heap.size W0 w4) := (BR.out.trans (B3.out.mono BR.out.size)).trans (by rw [HSB.out]; exact hb4)
                   have H4 : Hid (SH w4 sb sb fv4 T4) := hs4
                   have K4 : Hid (keysG T4 = D) := by show _ = _; rw [hk4, HDO.out]
                   have L4 : Hid (∀ g ∈ T4, g.ps.length ≤ i + 1 + 1) := hl4
                   clear hb4 hs4 hk4 hl4)
                | (go_at_call 47
                   refine (FT.out w4 fv4 T4 H4.out K4.out).mono ?_
                   rintro e w5 ⟨rfl, hb5⟩
                   have B5 : Hid (Below W0.heap.size W0 w5) := B4.out.trans (hb5.mono B4.out.size)
                   have H5 : Hid (SH w5 sb sb fv4 T4) := H4.out.below hb5
                   clear hb5))
              go_roundw
              case rel => exact ⟨i + 1, fv4, T4, by omega, by first | rfl | go_num, B5.out, H5.out, by rw [HRX.out, K4.out], by rw [K4.out]; exact HX.out, L4.out⟩
              case measure => simp [intOf]; omega
    · have hin : i = on := by omega
      subst hin
      have HE : Hid (r = decide (keysG T = L)) := by
        show _ = _
        rw [← HR.out, HON.out, HRUN.out]
        rfl
      have LI : Hid (∀ W, Below wr.heap.size wr W → Calls Try.prog 49 #[.pointer (some ⟨sb, 0, none⟩)] W fun e w' => ∃ va vc, e = .returned (.slice va T.length vc) ∧ Below W.heap.size W w' ∧ FilesAt w' va (keysG T)) := fun W hW => by
        refine (list_any sb sb fv T W (HT.out.below hW) (by omega) (by omega) (fun g hg => by have := HLT.out g hg; omega)).mono ?_
        rintro e w' ⟨v, rfl, hb, ho⟩
        obtain ⟨va, vc, rfl, hv⟩ := own_files ho (keys_len T)
        exact ⟨va, vc, rfl, hb, hv⟩
      have EQ : Hid (∀ W va vc, FilesAt W va (keysG T) → FilesAt W la L → Calls Try.prog 48 #[.slice va T.length vc, .slice la ln lc] W fun e w' => e = .returned (.bool r) ∧ Below W.heap.size W w') := fun W va vc h1 h2 => by
        have := equalFiles_any va la vc lc (keysG T) L W h1 h2 (by rw [keys_len]; omega) (by rw [HLN.out]; omega)
        rw [keys_len, HLN.out, ← HE.out] at this
        exact this
      have FLR : Hid (FilesAt wr la L) := FL.out.below BR.out
      obtain ⟨tn, HTN⟩ : ∃ n, Hid (T.length = n) := ⟨_, rfl⟩
      rw [HTN.out] at LI EQ
      go_wp2_with fail
      go_region_with (first
        | (go_at_call 49
           with_reducible refine (LI.out _ (Below.refl _ _).drew).mono ?_
           rintro e w3 ⟨va, vc, rfl, hb3, hv3⟩
           have B3 : Hid (Below wr.heap.size wr w3) := (Below.refl _ _).drew.trans hb3
           have V3 : Hid (FilesAt w3 va (keysG T)) := hv3
           have L3 : Hid (FilesAt w3 la L) := FLR.out.below B3.out
           obtain ⟨m0, m1, m2⟩ := cells3 (below_row B3.out (row_lt RR.out) RR.out)
           clear hb3 hv3)
        | (go_at_call 48
           with_reducible refine (EQ.out w3 va vc V3.out L3.out).mono ?_
           rintro e w4 ⟨rfl, hb4⟩
           have B4 : Hid (Below w.heap.size w w4) := B0.out.trans ((BR.out.trans ((B3.out.trans (hb4.mono B3.out.size)).mono BR.out.size)).mono B0.out.size)
           clear hb4))
      all_goals
        go_wp2
        go_ret
        exact ⟨rfl, B4.out⟩

end Go.Proofs.Ytpahhhocgpohbaa
