import Derived.Test.YtpahhhocgpohbaaPack16
import Derived.Test.YtpahhhocgpohbaaPack17
import Derived.Test.YtpahhhocgpohbaaPack18
import Derived.Test.YtpahhhocgpohbaaSync12
import Derived.Test.YtpahhhocgpohbaaImplAct12
namespace Go.Proofs.Ytpahhhocgpohbaa
open Go.RowKit

/-- What 'Do' answers. -/
def dK (L S : List FI) (O : List OP) (o : OP) : Int := if dskB L S O = true then actK L O o else 1
def dL (L S : List FI) (O : List OP) (o : OP) : List FI := if dskB L S O = true then actL L O o else []
def dS (L S : List FI) (O : List OP) : List FI := if dskB L S O = true then S else []
def dO (L S : List FI) (O : List OP) (o : OP) : List OP := if dskB L S O = true then actO L O o else []
theorem dsk_parts {L S : List FI} {O : List OP} (h : dskB L S O = true) : filB L = true ∧ filB S = true ∧ O.length ≤ 200 := by
  rw [dskB_is] at h
  simp only [Bool.and_eq_true, decide_eq_true_eq] at h
  exact ⟨h.1, h.2.1, h.2.2.1⟩
theorem act_len (L : List FI) (O : List OP) (o : OP) : (actL L O o).length ≤ L.length + 1 ∧ (actO L O o).length ≤ O.length + 1 := by
  unfold actL actO
  have := doF_len L o
  constructor
  · split <;> omega
  · split
    · simp
    · omega
theorem da_nil {W : World} {b : Nat} : DA W b (.slice none 0 0) (.slice none 0 0) (.slice none 0 0) [] [] [] := ⟨⟨⟨rfl, .inl ⟨rfl, rfl⟩⟩, ⟨rfl, .inl ⟨rfl, rfl⟩⟩, ⟨rfl, .inl ⟨rfl, rfl⟩⟩⟩, (fun k h => by cases h)⟩


set_option maxHeartbeats 4000000 in
set_option maxRecDepth 20000 in
theorem specDo_any (la sa oa : Option Addr) (lc sc oc ln sn on x1 x2 x3 : Nat) (kd : Int) (L S : List FI) (O : List OP) (o : OP) (w : World) (hD : DAt w la sa oa L S O) (hK : DskOk L S O) (hLn : L.length = ln) (hSn : S.length = sn) (hOn : O.length = on)
    (z1 : o.n.size ≤ 1048576) (z2 : o.t.size ≤ 1048576) (z3 : o.d.size ≤ 1048576) (hk : dK L S O o = kd) (hx1 : (dL L S O o).length = x1) (hx2 : (dS L S O).length = x2) (hx3 : (dO L S O o).length = x3) :
    Calls Try.prog 15 #[.agg #[.slice la ln lc, .slice sa sn sc, .slice oa on oc], .agg #[.int .i64 o.k, .string o.n, .string o.t, .string o.d]] w fun e w' => ∃ a1 c1 a2 c2 a3 c3, e = .returned (.tuple #[.agg #[.slice a1 x1 c1, .slice a2 x2 c2, .slice a3 x3 c3], .int .i64 kd]) ∧ Below w.heap.size w w' ∧ DA w' w.heap.size (.slice a1 x1 c1) (.slice a2 x2 c2) (.slice a3 x3 c3) (dL L S O o) (dS L S O) (dO L S O o) := by
  have B0 : Hid (Below w.heap.size w (((w.alloc (.cells #[.slice la ln lc, .slice sa sn sc, .slice oa on oc] 27)).alloc (.cells #[.int .i64 o.k, .string o.n, .string o.t, .string o.d] 36)).alloc (.cells #[.slice none 0 0, .slice none 0 0, .slice none 0 0] 27))) := (((Below.refl _ _).alloc (Nat.le_refl _) _).alloc (by simp) _).alloc (by simp; omega) _
  have RA0 : Hid ((((w.alloc (.cells #[.slice la ln lc, .slice sa sn sc, .slice oa on oc] 27)).alloc (.cells #[.int .i64 o.k, .string o.n, .string o.t, .string o.d] 36)).alloc (.cells #[.slice none 0 0, .slice none 0 0, .slice none 0 0] 27)).heap[w.heap.size]? = some (.cells #[.slice la ln lc, .slice sa sn sc, .slice oa on oc] 27 (0, 0))) := heap_alloc3_old _ _ _ _
  have RP0 : Hid ((((w.alloc (.cells #[.slice la ln lc, .slice sa sn sc, .slice oa on oc] 27)).alloc (.cells #[.int .i64 o.k, .string o.n, .string o.t, .string o.d] 36)).alloc (.cells #[.slice none 0 0, .slice none 0 0, .slice none 0 0] 27)).heap[w.heap.size + 1]? = some (.cells #[.int .i64 o.k, .string o.n, .string o.t, .string o.d] 36 (0, 0))) := heap_alloc3_mid _ _ _ _
  have RB0 : Hid ((((w.alloc (.cells #[.slice la ln lc, .slice sa sn sc, .slice oa on oc] 27)).alloc (.cells #[.int .i64 o.k, .string o.n, .string o.t, .string o.d] 36)).alloc (.cells #[.slice none 0 0, .slice none 0 0, .slice none 0 0] 27)).heap[w.heap.size + 2]? = some (.cells #[.slice none 0 0, .slice none 0 0, .slice none 0 0] 27 (0, 0))) := heap_alloc3_new _ _ _ _
  have HD0 : Hid (DAt w la sa oa L S O) := hD
  have ID : Hid (∀ W, Below w.heap.size w W → ∀ b, dskB L S O = b → Calls Try.prog 9 #[.agg #[.slice la ln lc, .slice sa sn sc, .slice oa on oc]] W fun e w' => e = .returned (.bool b) ∧ Below W.heap.size W w') := fun W hW b hb => by
    rw [← hb]
    exact specDisk_at la sa oa lc sc oc ln sn on L S O W (hD.below hW) hK hLn hSn hOn
  obtain ⟨a0, a1, a2⟩ := cells3 RA0.out
  obtain ⟨p0, p1, p2, p3⟩ := cells4 RP0.out
  cases hd : dskB L S O
  · have e0 : dK L S O o = 1 := by unfold dK; rw [hd]; rfl
    have e1 : dL L S O o = [] := by unfold dL; rw [hd]; rfl
    have e2 : dS L S O = [] := by unfold dS; rw [hd]; rfl
    have e3 : dO L S O o = [] := by unfold dO; rw [hd]; rfl
    rw [e0] at hk
    rw [e1] at hx1 ⊢
    rw [e2] at hx2 ⊢
    rw [e3] at hx3 ⊢
    have hx1 : 0 = x1 := hx1
    have hx2 : 0 = x2 := hx2
    have hx3 : 0 = x3 := hx3
    subst hx1 hx2 hx3 hk
    clear e0 e1 e2 e3 hD hK hLn hSn hOn
    go_enter Try.func15, Try.ntmps15
    go_wp2_with fail
    refine (ID.out _ B0.out _ hd).mono ?_
    rintro e w1 ⟨rfl, hb1⟩
    have B1 : Hid (Below w.heap.size w w1) := B0.out.trans (hb1.mono B0.out.size)
    have RB1 : Hid (w1.heap[w.heap.size + 2]? = some (.cells #[.slice none 0 0, .slice none 0 0, .slice none 0 0] 27 (0, 0))) := below_row hb1 (row_lt RB0.out) RB0.out
    clear B0 RB0
    clear hb1 a0 a1 a2 p0 p1 p2 p3
    obtain ⟨zrb1_0, zrb1_1, zrb1_2⟩ := cells3 RB1.out
    have rf := fun i => frozen_of_row _ _ i _ _ RB1.out
    have FN : Hid (∀ x y z, Below w.heap.size w (((w1.setCell ⟨w.heap.size + 2, 0, none⟩ x).setCell ⟨w.heap.size + 2, 1, none⟩ y).setCell ⟨w.heap.size + 2, 2, none⟩ z) ∧ DA (((w1.setCell ⟨w.heap.size + 2, 0, none⟩ x).setCell ⟨w.heap.size + 2, 1, none⟩ y).setCell ⟨w.heap.size + 2, 2, none⟩ z) w.heap.size (.slice none 0 0) (.slice none 0 0) (.slice none 0 0) [] [] []) := fun x y z => boxedAt (by omega) B1.out da_nil RB1.out
    go_wp2
    refine bodyPost_ret (v := .tuple #[.agg #[.slice none 0 0, .slice none 0 0, .slice none 0 0], .int .i64 1]) (by simp [results, Try.results15, go_sem, zrb1_0, zrb1_1, zrb1_2]) rfl ⟨none, 0, none, 0, none, 0, rfl, ?_⟩
    first | exact FN.out _ _ _ | exact ⟨by repeat (first | with_reducible exact B1.out | refine Below.setCell ?_ (by simp <;> omega) _), da_nil⟩
  have e0 : dK L S O o = actK L O o := by unfold dK; rw [hd]; rfl
  have e1 : dL L S O o = actL L O o := by unfold dL; rw [hd]; rfl
  have e2 : dS L S O = S := by unfold dS; rw [hd]; rfl
  have e3 : dO L S O o = actO L O o := by unfold dO; rw [hd]; rfl
  rw [e0] at hk
  rw [e1] at hx1 ⊢
  rw [e2] at hx2 ⊢
  rw [e3] at hx3 ⊢
  have hx2 : sn = x2 := hSn.symm.trans hx2
  subst hx2
  obtain ⟨hfl, hfs, h200⟩ := dsk_parts hd
  have bl : ln ≤ 60 := by rw [← hLn]; exact (filB_true.1 hfl).1
  have bs : sn ≤ 60 := by rw [← hSn]; exact (filB_true.1 hfs).1
  have bo : on ≤ 200 := by rw [← hOn]; exact h200
  have hal := act_len L O o
  rw [hx1, hx3, hLn, hOn] at hal
  have AC : Hid (∀ W, Below w.heap.size w W → Calls Try.prog 35 #[.agg #[.slice la ln lc, .slice sa sn sc, .slice oa on oc], .agg #[.int .i64 o.k, .string o.n, .string o.t, .string o.d]] W fun e w' => ∃ a1 c1 a2 c2 a3 c3, e = .returned (.tuple #[.agg #[.slice a1 x1 c1, .slice a2 sn c2, .slice a3 x3 c3], .int .i64 kd]) ∧ Below W.heap.size W w' ∧ DA w' W.heap.size (.slice a1 x1 c1) (.slice a2 sn c2) (.slice a3 x3 c3) (actL L O o) S (actO L O o)) := fun W hW => l12Act_any la sa oa lc sc oc ln sn on x1 x3 kd L S O o W (HD0.out.below hW) hLn hSn hOn hfl (by omega) (by omega) (by omega) (by omega) z3 hk hx1 hx3
  clear e0 e1 e2 e3 hD hK hLn hSn hOn hx1 hx3 hk hfl hfs h200
  go_enter Try.func15, Try.ntmps15
  go_wp2_with fail
  refine (ID.out _ B0.out _ hd).mono ?_
  rintro e w1 ⟨rfl, hb1⟩
  have B1 : Hid (Below w.heap.size w w1) := B0.out.trans (hb1.mono B0.out.size)
  have RA1 : Hid (w1.heap[w.heap.size]? = some (.cells #[.slice la ln lc, .slice sa sn sc, .slice oa on oc] 27 (0, 0))) := below_row hb1 (row_lt RA0.out) RA0.out
  have RP1 : Hid (w1.heap[w.heap.size + 1]? = some (.cells #[.int .i64 o.k, .string o.n, .string o.t, .string o.d] 36 (0, 0))) := below_row hb1 (row_lt RP0.out) RP0.out
  have RB1 : Hid (w1.heap[w.heap.size + 2]? = some (.cells #[.slice none 0 0, .slice none 0 0, .slice none 0 0] 27 (0, 0))) := below_row hb1 (row_lt RB0.out) RB0.out
  clear B0 RA0 RP0 RB0
  clear hb1 a0 a1 a2 p0 p1 p2 p3
  obtain ⟨zra1_0, zra1_1, zra1_2⟩ := cells3 RA1.out
  obtain ⟨zrp1_0, zrp1_1, zrp1_2, zrp1_3⟩ := cells4 RP1.out
  go_wp2_with fail
  refine (AC.out w1 B1.out).mono ?_
  rintro e w2 ⟨a1, c1, a2, c2, a3, c3, rfl, hb2, hd2⟩
  have S1 : Hid (w.heap.size ≤ w1.heap.size) := B1.out.size
  have B2 : Hid (Below w.heap.size w w2) := B1.out.trans (hb2.mono B1.out.size)
  have RA2 : Hid (w2.heap[w.heap.size]? = some (.cells #[.slice la ln lc, .slice sa sn sc, .slice oa on oc] 27 (0, 0))) := below_row hb2 (row_lt RA1.out) RA1.out
  have RP2 : Hid (w2.heap[w.heap.size + 1]? = some (.cells #[.int .i64 o.k, .string o.n, .string o.t, .string o.d] 36 (0, 0))) := below_row hb2 (row_lt RP1.out) RP1.out
  have RB2 : Hid (w2.heap[w.heap.size + 2]? = some (.cells #[.slice none 0 0, .slice none 0 0, .slice none 0 0] 27 (0, 0))) := below_row hb2 (row_lt RB1.out) RB1.out
  clear B1 RA1 RP1 RB1
  clear zra1_0 zra1_1 zra1_2 zrp1_0 zrp1_1 zrp1_2 zrp1_3
  have FN : Hid (∀ x y z, Below w.heap.size w (((w2.setCell ⟨w.heap.size + 2, 0, none⟩ x).setCell ⟨w.heap.size + 2, 1, none⟩ y).setCell ⟨w.heap.size + 2, 2, none⟩ z) ∧ DA (((w2.setCell ⟨w.heap.size + 2, 0, none⟩ x).setCell ⟨w.heap.size + 2, 1, none⟩ y).setCell ⟨w.heap.size + 2, 2, none⟩ z) w.heap.size (.slice a1 x1 c1) (.slice a2 sn c2) (.slice a3 x3 c3) (actL L O o) S (actO L O o)) := fun x y z => boxedAt (by omega) B2.out (hd2.bse S1.out) RB2.out
  obtain ⟨zrb2_0, zrb2_1, zrb2_2⟩ := cells3 RB2.out
  have rf := fun i => frozen_of_row _ _ i _ _ RB2.out
  clear hb2 hd2
  go_wp2
  refine bodyPost_ret (v := .tuple #[.agg #[.slice a1 x1 c1, .slice a2 sn c2, .slice a3 x3 c3], .int .i64 kd]) (by simp [results, Try.results15, go_sem, zrb2_0, zrb2_1, zrb2_2]) rfl ⟨_, _, _, _, _, _, rfl, (FN.out _ _ _).1, (FN.out _ _ _).2⟩

set_option maxHeartbeats 4000000 in
set_option maxRecDepth 20000 in
theorem implDo_any (la sa oa : Option Addr) (lc sc oc ln sn on x1 x2 x3 : Nat) (kd : Int) (L S : List FI) (O : List OP) (o : OP) (w : World) (hD : DAt w la sa oa L S O) (hK : DskOk L S O) (hLn : L.length = ln) (hSn : S.length = sn) (hOn : O.length = on) (hoc : on ≤ oc) (hon : oa = none → on = 0 ∧ oc = 0)
    (z1 : o.n.size ≤ 1048576) (z2 : o.t.size ≤ 1048576) (z3 : o.d.size ≤ 1048576) (hk : dK L S O o = kd) (hx1 : (dL L S O o).length = x1) (hx2 : (dS L S O).length = x2) (hx3 : (dO L S O o).length = x3) :
    Calls Try.prog 14 #[.agg #[.slice la ln lc, .slice sa sn sc, .slice oa on oc], .agg #[.int .i64 o.k, .string o.n, .string o.t, .string o.d]] w fun e w' => ∃ a1 c1 a2 c2 a3 c3, e = .returned (.tuple #[.agg #[.slice a1 x1 c1, .slice a2 x2 c2, .slice a3 x3 c3], .int .i64 kd]) ∧ Below w.heap.size w w' ∧ DA w' w.heap.size (.slice a1 x1 c1) (.slice a2 x2 c2) (.slice a3 x3 c3) (dL L S O o) (dS L S O) (dO L S O o) := by
  have B0 : Hid (Below w.heap.size w (((w.alloc (.cells #[.slice la ln lc, .slice sa sn sc, .slice oa on oc] 27)).alloc (.cells #[.int .i64 o.k, .string o.n, .string o.t, .string o.d] 36)).alloc (.cells #[.slice none 0 0, .slice none 0 0, .slice none 0 0] 27))) := (((Below.refl _ _).alloc (Nat.le_refl _) _).alloc (by simp) _).alloc (by simp; omega) _
  have RA0 : Hid ((((w.alloc (.cells #[.slice la ln lc, .slice sa sn sc, .slice oa on oc] 27)).alloc (.cells #[.int .i64 o.k, .string o.n, .string o.t, .string o.d] 36)).alloc (.cells #[.slice none 0 0, .slice none 0 0, .slice none 0 0] 27)).heap[w.heap.size]? = some (.cells #[.slice la ln lc, .slice sa sn sc, .slice oa on oc] 27 (0, 0))) := heap_alloc3_old _ _ _ _
  have RP0 : Hid ((((w.alloc (.cells #[.slice la ln lc, .slice sa sn sc, .slice oa on oc] 27)).alloc (.cells #[.int .i64 o.k, .string o.n, .string o.t, .string o.d] 36)).alloc (.cells #[.slice none 0 0, .slice none 0 0, .slice none 0 0] 27)).heap[w.heap.size + 1]? = some (.cells #[.int .i64 o.k, .string o.n, .string o.t, .string o.d] 36 (0, 0))) := heap_alloc3_mid _ _ _ _
  have RB0 : Hid ((((w.alloc (.cells #[.slice la ln lc, .slice sa sn sc, .slice oa on oc] 27)).alloc (.cells #[.int .i64 o.k, .string o.n, .string o.t, .string o.d] 36)).alloc (.cells #[.slice none 0 0, .slice none 0 0, .slice none 0 0] 27)).heap[w.heap.size + 2]? = some (.cells #[.slice none 0 0, .slice none 0 0, .slice none 0 0] 27 (0, 0))) := heap_alloc3_new _ _ _ _
  have HD0 : Hid (DAt w la sa oa L S O) := hD
  have ID : Hid (∀ W, Below w.heap.size w W → ∀ b, dskB L S O = b → Calls Try.prog 8 #[.agg #[.slice la ln lc, .slice sa sn sc, .slice oa on oc]] W fun e w' => e = .returned (.bool b) ∧ Below W.heap.size W w') := fun W hW b hb => by
    rw [← hb]
    exact implDisk_any la sa oa lc sc oc ln sn on L S O W (hD.below hW) hK hLn hSn hOn
  obtain ⟨a0, a1, a2⟩ := cells3 RA0.out
  obtain ⟨p0, p1, p2, p3⟩ := cells4 RP0.out
  cases hd : dskB L S O
  · have e0 : dK L S O o = 1 := by unfold dK; rw [hd]; rfl
    have e1 : dL L S O o = [] := by unfold dL; rw [hd]; rfl
    have e2 : dS L S O = [] := by unfold dS; rw [hd]; rfl
    have e3 : dO L S O o = [] := by unfold dO; rw [hd]; rfl
    rw [e0] at hk
    rw [e1] at hx1 ⊢
    rw [e2] at hx2 ⊢
    rw [e3] at hx3 ⊢
    have hx1 : 0 = x1 := hx1
    have hx2 : 0 = x2 := hx2
    have hx3 : 0 = x3 := hx3
    subst hx1 hx2 hx3 hk
    clear e0 e1 e2 e3 hD hK hLn hSn hOn
    go_enter Try.func14, Try.ntmps14
    go_wp2_with fail
    refine (ID.out _ B0.out _ hd).mono ?_
    rintro e w1 ⟨rfl, hb1⟩
    have B1 : Hid (Below w.heap.size w w1) := B0.out.trans (hb1.mono B0.out.size)
    have RB1 : Hid (w1.heap[w.heap.size + 2]? = some (.cells #[.slice none 0 0, .slice none 0 0, .slice none 0 0] 27 (0, 0))) := below_row hb1 (row_lt RB0.out) RB0.out
    clear B0 RB0
    clear hb1 a0 a1 a2 p0 p1 p2 p3
    obtain ⟨zrb1_0, zrb1_1, zrb1_2⟩ := cells3 RB1.out
    have rf := fun i => frozen_of_row _ _ i _ _ RB1.out
    have FN : Hid (∀ x y z, Below w.heap.size w (((w1.setCell ⟨w.heap.size + 2, 0, none⟩ x).setCell ⟨w.heap.size + 2, 1, none⟩ y).setCell ⟨w.heap.size + 2, 2, none⟩ z) ∧ DA (((w1.setCell ⟨w.heap.size + 2, 0, none⟩ x).setCell ⟨w.heap.size + 2, 1, none⟩ y).setCell ⟨w.heap.size + 2, 2, none⟩ z) w.heap.size (.slice none 0 0) (.slice none 0 0) (.slice none 0 0) [] [] []) := fun x y z => boxedAt (by omega) B1.out da_nil RB1.out
    go_wp2
    refine bodyPost_ret (v := .tuple #[.agg #[.slice none 0 0, .slice none 0 0, .slice none 0 0], .int .i64 1]) (by simp [results, Try.results14, go_sem, zrb1_0, zrb1_1, zrb1_2]) rfl ⟨none, 0, none, 0, none, 0, rfl, ?_⟩
    first | exact FN.out _ _ _ | exact ⟨by repeat (first | with_reducible exact B1.out | refine Below.setCell ?_ (by simp <;> omega) _), da_nil⟩
  have e0 : dK L S O o = actK L O o := by unfold dK; rw [hd]; rfl
  have e1 : dL L S O o = actL L O o := by unfold dL; rw [hd]; rfl
  have e2 : dS L S O = S := by unfold dS; rw [hd]; rfl
  have e3 : dO L S O o = actO L O o := by unfold dO; rw [hd]; rfl
  rw [e0] at hk
  rw [e1] at hx1 ⊢
  rw [e2] at hx2 ⊢
  rw [e3] at hx3 ⊢
  have hx2 : sn = x2 := hSn.symm.trans hx2
  subst hx2
  obtain ⟨hfl, hfs, h200⟩ := dsk_parts hd
  have bl : ln ≤ 60 := by rw [← hLn]; exact (filB_true.1 hfl).1
  have bs : sn ≤ 60 := by rw [← hSn]; exact (filB_true.1 hfs).1
  have bo : on ≤ 200 := by rw [← hOn]; exact h200
  have hal := act_len L O o
  rw [hx1, hx3, hLn, hOn] at hal
  have AC : Hid (∀ W, Below w.heap.size w W → Calls Try.prog 34 #[.agg #[.slice la ln lc, .slice sa sn sc, .slice oa on oc], .agg #[.int .i64 o.k, .string o.n, .string o.t, .string o.d]] W fun e w' => ∃ a1 c1 a3 c3, e = .returned (.tuple #[.agg #[.slice a1 x1 c1, .slice sa sn sc, .slice a3 x3 c3], .int .i64 kd]) ∧ Below W.heap.size W w' ∧ DAt w' a1 sa a3 (actL L O o) S (actO L O o)) := fun W hW => (withDone_any la sa oa lc sc oc ln sn on x1 x3 kd L S O o W (HD0.out.below hW) hLn hSn hOn hoc hon hfl (by omega) (by omega) (by omega) (by omega) z3 hk hx1 hx3).mono fun e w' ⟨a1, c1, a3, c3, h1, h2, h3, _⟩ => ⟨a1, c1, a3, c3, h1, h2, h3⟩
  have CP : Hid (∀ W b1 e1 b3 e3, DAt W b1 sa b3 (actL L O o) S (actO L O o) → Calls Try.prog 29 #[.agg #[.slice b1 x1 e1, .slice sa sn sc, .slice b3 x3 e3]] W fun e w' => ∃ a1 c1 a2 c2 a3 c3, e = .returned (.agg #[.slice a1 x1 c1, .slice a2 sn c2, .slice a3 x3 c3]) ∧ Below W.heap.size W w' ∧ DA w' W.heap.size (.slice a1 x1 c1) (.slice a2 sn c2) (.slice a3 x3 c3) (actL L O o) S (actO L O o)) := fun W b1 e1 b3 e3 h => copyOfDisk_any b1 sa b3 e1 sc e3 x1 sn x3 _ S _ W h hx1 hSn hx3 (by omega) (by omega) (by omega)
  clear e0 e1 e2 e3 hD hK hLn hSn hOn hx1 hx3 hk hfl hfs h200 hoc hon
  go_enter Try.func14, Try.ntmps14
  go_wp2_with fail
  refine (ID.out _ B0.out _ hd).mono ?_
  rintro e w1 ⟨rfl, hb1⟩
  have B1 : Hid (Below w.heap.size w w1) := B0.out.trans (hb1.mono B0.out.size)
  have RA1 : Hid (w1.heap[w.heap.size]? = some (.cells #[.slice la ln lc, .slice sa sn sc, .slice oa on oc] 27 (0, 0))) := below_row hb1 (row_lt RA0.out) RA0.out
  have RP1 : Hid (w1.heap[w.heap.size + 1]? = some (.cells #[.int .i64 o.k, .string o.n, .string o.t, .string o.d] 36 (0, 0))) := below_row hb1 (row_lt RP0.out) RP0.out
  have RB1 : Hid (w1.heap[w.heap.size + 2]? = some (.cells #[.slice none 0 0, .slice none 0 0, .slice none 0 0] 27 (0, 0))) := below_row hb1 (row_lt RB0.out) RB0.out
  clear B0 RA0 RP0 RB0
  clear hb1 a0 a1 a2 p0 p1 p2 p3
  obtain ⟨zra1_0, zra1_1, zra1_2⟩ := cells3 RA1.out
  obtain ⟨zrp1_0, zrp1_1, zrp1_2, zrp1_3⟩ := cells4 RP1.out
  go_wp2_with fail
  refine (AC.out w1 B1.out).mono ?_
  rintro e w2 ⟨b1, e1, b3, e3, rfl, hb2, hd2⟩
  have B2 : Hid (Below w.heap.size w w2) := B1.out.trans (hb2.mono B1.out.size)
  have RA2 : Hid (w2.heap[w.heap.size]? = some (.cells #[.slice la ln lc, .slice sa sn sc, .slice oa on oc] 27 (0, 0))) := below_row hb2 (row_lt RA1.out) RA1.out
  have RP2 : Hid (w2.heap[w.heap.size + 1]? = some (.cells #[.int .i64 o.k, .string o.n, .string o.t, .string o.d] 36 (0, 0))) := below_row hb2 (row_lt RP1.out) RP1.out
  have RB2 : Hid (w2.heap[w.heap.size + 2]? = some (.cells #[.slice none 0 0, .slice none 0 0, .slice none 0 0] 27 (0, 0))) := below_row hb2 (row_lt RB1.out) RB1.out
  clear B1 RA1 RP1 RB1
  clear zra1_0 zra1_1 zra1_2 zrp1_0 zrp1_1 zrp1_2 zrp1_3
  have N2 : Hid (DAt w2 b1 sa b3 (actL L O o) S (actO L O o)) := hd2
  clear hb2 hd2
  have hb3 : Below w2.heap.size w2 (w2.alloc (.cells #[.slice b1 x1 e1, .slice sa sn sc, .slice b3 x3 e3] 27)) := (Below.refl _ _).alloc (Nat.le_refl _) _
  have B3 : Hid (Below w.heap.size w (w2.alloc (.cells #[.slice b1 x1 e1, .slice sa sn sc, .slice b3 x3 e3] 27))) := B2.out.trans (hb3.mono B2.out.size)
  have RA3 : Hid ((w2.alloc (.cells #[.slice b1 x1 e1, .slice sa sn sc, .slice b3 x3 e3] 27)).heap[w.heap.size]? = some (.cells #[.slice la ln lc, .slice sa sn sc, .slice oa on oc] 27 (0, 0))) := below_row hb3 (row_lt RA2.out) RA2.out
  have RP3 : Hid ((w2.alloc (.cells #[.slice b1 x1 e1, .slice sa sn sc, .slice b3 x3 e3] 27)).heap[w.heap.size + 1]? = some (.cells #[.int .i64 o.k, .string o.n, .string o.t, .string o.d] 36 (0, 0))) := below_row hb3 (row_lt RP2.out) RP2.out
  have RB3 : Hid ((w2.alloc (.cells #[.slice b1 x1 e1, .slice sa sn sc, .slice b3 x3 e3] 27)).heap[w.heap.size + 2]? = some (.cells #[.slice none 0 0, .slice none 0 0, .slice none 0 0] 27 (0, 0))) := below_row hb3 (row_lt RB2.out) RB2.out
  have N3 : Hid (DAt (w2.alloc (.cells #[.slice b1 x1 e1, .slice sa sn sc, .slice b3 x3 e3] 27)) b1 sa b3 (actL L O o) S (actO L O o)) := N2.out.below hb3
  clear B2 RA2 RP2 RB2 N2
  have M3 : Hid ((w2.alloc (.cells #[.slice b1 x1 e1, .slice sa sn sc, .slice b3 x3 e3] 27)).heap[w2.heap.size]? = some (.cells #[.slice b1 x1 e1, .slice sa sn sc, .slice b3 x3 e3] 27 (0, 0))) := heap_alloc_new _ _
  obtain ⟨zm3_0, zm3_1, zm3_2⟩ := cells3 M3.out
  clear hb3
  go_wp2_with fail
  refine (CP.out _ _ _ _ _ N3.out).mono ?_
  rintro e w4 ⟨a1, c1, a2, c2, a3, c3, rfl, hb4, hd4⟩
  have S1 : Hid (w.heap.size ≤ (w2.alloc (.cells #[.slice b1 x1 e1, .slice sa sn sc, .slice b3 x3 e3] 27)).heap.size) := B3.out.size
  clear zm3_0 zm3_1 zm3_2
  have B4 : Hid (Below w.heap.size w w4) := B3.out.trans (hb4.mono B3.out.size)
  have RA4 : Hid (w4.heap[w.heap.size]? = some (.cells #[.slice la ln lc, .slice sa sn sc, .slice oa on oc] 27 (0, 0))) := below_row hb4 (row_lt RA3.out) RA3.out
  have RP4 : Hid (w4.heap[w.heap.size + 1]? = some (.cells #[.int .i64 o.k, .string o.n, .string o.t, .string o.d] 36 (0, 0))) := below_row hb4 (row_lt RP3.out) RP3.out
  have RB4 : Hid (w4.heap[w.heap.size + 2]? = some (.cells #[.slice none 0 0, .slice none 0 0, .slice none 0 0] 27 (0, 0))) := below_row hb4 (row_lt RB3.out) RB3.out
  clear B3 RA3 RP3 RB3
  have FN : Hid (∀ x y z, Below w.heap.size w (((w4.setCell ⟨w.heap.size + 2, 0, none⟩ x).setCell ⟨w.heap.size + 2, 1, none⟩ y).setCell ⟨w.heap.size + 2, 2, none⟩ z) ∧ DA (((w4.setCell ⟨w.heap.size + 2, 0, none⟩ x).setCell ⟨w.heap.size + 2, 1, none⟩ y).setCell ⟨w.heap.size + 2, 2, none⟩ z) w.heap.size (.slice a1 x1 c1) (.slice a2 sn c2) (.slice a3 x3 c3) (actL L O o) S (actO L O o)) := fun x y z => boxedAt (by omega) B4.out (hd4.bse S1.out) RB4.out
  obtain ⟨zrb4_0, zrb4_1, zrb4_2⟩ := cells3 RB4.out
  have rf := fun i => frozen_of_row _ _ i _ _ RB4.out
  clear hb4 hd4
  go_wp2
  refine bodyPost_ret (v := .tuple #[.agg #[.slice a1 x1 c1, .slice a2 sn c2, .slice a3 x3 c3], .int .i64 kd]) (by simp [results, Try.results14, go_sem, zrb4_0, zrb4_1, zrb4_2]) rfl ⟨_, _, _, _, _, _, rfl, (FN.out _ _ _).1, (FN.out _ _ _).2⟩

end Go.Proofs.Ytpahhhocgpohbaa

namespace Go.Proofs.Ytpahhhocgpohbaa
open Go.RowKit

theorem dsk_nil : dskB [] [] [] = true := by decide
theorem dsk_of {L S : List FI} {O : List OP} (h1 : filB L = true) (h2 : filB S = true) (h3 : O.length ≤ 200) (h4 : runF S O O.length = some L) : dskB L S O = true := by
  rw [dskB_end h1 h2 h3 h4]
  exact decide_eq_true rfl
theorem dsk_run {L S : List FI} {O : List OP} (h : dskB L S O = true) : runF S O O.length = some L := by
  have h0 := h
  unfold dskB at h
  rw [Bool.and_eq_true, Bool.and_eq_true, Bool.and_eq_true] at h
  obtain ⟨h1, h2, h3, h4⟩ := h
  cases hr : runF S O O.length with
  | none => rw [hr] at h4; cases h4
  | some F =>
    rw [dskB_end h1 h2 (of_decide_eq_true h3) hr] at h0
    rw [of_decide_eq_true h0]
theorem dsk_sync {L S : List FI} {O : List OP} (h : dskB L S O = true) : dskB L L [] = true := by
  obtain ⟨h1, _, _⟩ := dsk_parts h
  exact dsk_of h1 h1 (by simp) rfl
theorem runF_app {S : List FI} {O Q : List OP} : ∀ k, k ≤ O.length → runF S (O ++ Q) k = runF S O k
  | 0, _ => rfl
  | k + 1, h => by
    rw [runF, runF, runF_app k (by omega)]
    have : (O ++ Q).getD k op0 = O.getD k op0 := by
      rw [List.getD_eq_getElem?_getD, List.getD_eq_getElem?_getD, List.getElem?_append_left (by omega)]
    rw [this]
theorem act_zero {L : List FI} {O : List OP} {o : OP} (h : actK L O o = 0) : frmB o = true ∧ okF L o = true ∧ O.length ≠ 200 ∧ filB (doF L o) = true := by
  unfold actK at h
  split at h
  · split at h
    · split at h
      · simp at h
      · rename_i a b c
        rw [not_or] at c
        exact ⟨a, b, c.1, by cases hf : filB (doF L o) <;> simp_all⟩
    · simp at h
  · simp at h
/-- What is done leaves a right disk. -/
theorem dsk_act {L S : List FI} {O : List OP} {o : OP} (h : dskB L S O = true) (hk : actK L O o = 0) : dskB (actL L O o) S (actO L O o) = true := by
  obtain ⟨h1, h2, h3⟩ := dsk_parts h
  obtain ⟨k1, k2, k3, k4⟩ := act_zero hk
  have hl : actL L O o = doF L o := by unfold actL; rw [if_pos hk]
  have ho : actO L O o = O ++ [o] := by unfold actO; rw [if_pos hk]
  rw [hl, ho]
  refine dsk_of k4 h2 (by simp; omega) ?_
  have e : (O ++ [o]).length = O.length + 1 := by simp
  rw [e, runF, runF_app _ (Nat.le_refl _), dsk_run h]
  have e2 : (O ++ [o]).getD O.length op0 = o := by simp [List.getD_eq_getElem?_getD]
  simp only
  rw [e2, k1, k2, k4]
  rfl
/-- Ops that are short. -/
def OSm (O : List OP) : Prop := ∀ o ∈ O, o.n.size ≤ 200 ∧ o.t.size ≤ 200 ∧ o.d.size ≤ 1048576
theorem OSm.ok {O : List OP} (h : OSm O) : OOk O := fun j hj => by
  have : O.getD j op0 ∈ O := by
    rw [List.getD_eq_getElem?_getD, List.getElem?_eq_getElem hj]
    exact List.getElem_mem _
  have := h _ this
  omega
theorem OSm.act {L : List FI} {O : List OP} {o : OP} (h : OSm O) (ho : o.n.size ≤ 200 ∧ o.t.size ≤ 200 ∧ o.d.size ≤ 1048576) : OSm (actO L O o) := by
  unfold actO
  split
  · intro x hx
    rcases List.mem_append.1 hx with h1 | h1
    · exact h x h1
    · rw [List.mem_singleton.1 h1]; exact ho
  · exact h
theorem shrt_fil {F : List FI} (h : filB F = true) : Shrt F := fun f hf => by
  have := nmF_of h f hf
  unfold nmB at this
  rw [decide_eq_true_eq] at this
  omega
theorem dsk_dok {L S : List FI} {O : List OP} (h : dskB L S O = true) (ho : OSm O) : DskOk L S O := by
  obtain ⟨h1, h2, h3⟩ := dsk_parts h
  obtain ⟨a1, _, a3⟩ := filB_true.1 h1
  obtain ⟨b1, _, b3⟩ := filB_true.1 h2
  rw [totTo_all] at a3 b3
  exact ⟨by omega, by omega, by omega, by omega, by omega, shrt_fil h1, shrt_fil h2, ho.ok⟩

end Go.Proofs.Ytpahhhocgpohbaa

namespace Go.Proofs.Ytpahhhocgpohbaa
open Go.RowKit

def fndF (F : List FI) (m : ByteArray) : Option FI := F.find? (fun f => decide (f.1 = m))
theorem dat_fnd (F : List FI) (m : ByteArray) : datF F m = ((fndF F m).map (·.2)).getD ⟨#[]⟩ := rfl
theorem has_fnd (m : ByteArray) : ∀ F : List FI, hasF F m = (fndF F m).isSome
  | [] => rfl
  | f :: F => by
    have ih := has_fnd m F
    unfold hasF fndF at ih ⊢
    rw [List.any_cons]
    by_cases h : f.1 = m
    · rw [List.find?_cons_of_pos (by simpa using h), decide_eq_true h]; rfl
    · rw [List.find?_cons_of_neg (by simpa using h), decide_eq_false h, ih]; rfl
theorem fnd_flt (g : ByteArray → Bool) (m : ByteArray) : ∀ F : List FI, fndF (F.filter (fun f => g f.1)) m = if g m = true then fndF F m else none
  | [] => by simp [fndF]
  | f :: F => by
    have ih := fnd_flt g m F
    by_cases h : f.1 = m
    · by_cases hg : g m = true
      · rw [List.filter_cons_of_pos (by rw [h]; exact hg), if_pos hg]
        unfold fndF
        rw [List.find?_cons_of_pos (by simpa using h), List.find?_cons_of_pos (by simpa using h)]
      · rw [List.filter_cons_of_neg (by rw [h]; exact hg), ih, if_neg hg, if_neg hg]
    · have e : fndF (f :: F) m = fndF F m := by unfold fndF; rw [List.find?_cons_of_neg (by simpa using h)]
      rw [e]
      by_cases hg : g f.1 = true
      · rw [List.filter_cons_of_pos (p := fun f : FI => g f.1) hg, ← ih]
        unfold fndF
        rw [List.find?_cons_of_neg (by simpa using h)]
      · rw [List.filter_cons_of_neg (p := fun f : FI => g f.1) hg, ih]
theorem fnd_put (F : List FI) (n d m : ByteArray) : fndF (putF F n d) m = if m = n then some (n, d) else fndF F m := by
  have h1 := fnd_flt (fun x => ltT x n) m F
  have h2 := fnd_flt (fun x => ltT n x) m F
  unfold putF
  have e : fndF (F.filter (fun f => ltT f.1 n) ++ ((n, d) : FI) :: F.filter (fun f => ltT n f.1)) m = (fndF (F.filter (fun f => ltT f.1 n)) m).or (fndF (((n, d) : FI) :: F.filter (fun f => ltT n f.1)) m) := by
    unfold fndF
    rw [List.find?_append]
  rw [e, h1]
  by_cases hm : m = n
  · subst hm
    rw [if_neg (by rw [ltT_irr]; simp), if_pos rfl]
    unfold fndF
    rw [List.find?_cons_of_pos (by simp)]
    rfl
  · rw [if_neg hm]
    have e2 : fndF (((n, d) : FI) :: F.filter (fun f => ltT n f.1)) m = fndF (F.filter (fun f => ltT n f.1)) m := by
      unfold fndF
      rw [List.find?_cons_of_neg (by simpa using fun h => hm h.symm)]
    rw [e2, h2]
    cases ha : ltT m n
    · cases hb : ltT n m
      · exact absurd (ltT_tri ha hb) hm
      · simp
    · rw [ltT_asym ha]
      simp
theorem fnd_cut (F : List FI) (n m : ByteArray) : fndF (cutF F n) m = if m = n then none else fndF F m := by
  have h := fnd_flt (fun x => !(decide (x = n))) m F
  unfold cutF
  rw [h]
  by_cases hm : m = n
  · simp [hm]
  · simp [hm]
/-- What a file is behind an op that was done. -/
theorem fnd_do1 (F : List FI) (n t d m : ByteArray) : fndF (doF F ⟨1, n, t, d⟩) m = if m = n then some (n, datF F n ++ d) else fndF F m := by
  unfold doF
  rw [if_pos rfl]
  exact fnd_put _ _ _ _
theorem fnd_do2 (F : List FI) (n t d m : ByteArray) (h : hasF F n = true) : fndF (doF F ⟨2, n, t, d⟩) m = if m = t then some (t, datF F n) else if m = n then none else fndF F m := by
  unfold doF
  simp only
  rw [if_neg (by decide), if_pos h, if_pos trivial, fnd_put, fnd_cut]
theorem fnd_do3 (F : List FI) (n t d m : ByteArray) (h : hasF F n = true) : fndF (doF F ⟨3, n, t, d⟩) m = if m = n then none else fndF F m := by
  unfold doF
  simp only
  rw [if_neg (by decide), if_pos h, if_neg (by decide), fnd_cut]

end Go.Proofs.Ytpahhhocgpohbaa

namespace Go.Proofs.Ytpahhhocgpohbaa
open Go.RowKit

/-- What is kept in impl.Replace's loop. -/
structure RI (w wr : World) (i8 bo rn : Nat) (ov : Value) (dk : Array Value) (sa : Option Addr) (sn sc : Nat) (a1 a3 : Option Addr) (c1 c3 y v i : Nat) (P : List OP) (S Li : List FI) (Oi : List OP) : Prop where
  b : Below w.heap.size w wr
  ra : wr.heap[w.heap.size]? = some (.cells dk 27 (0, 0))
  rb : wr.heap[w.heap.size + 1]? = some (.cells #[.slice none 0 0, .slice none 0 0, .slice none 0 0] 27 (0, 0))
  m : wr.heap[i8]? = some (.cells #[.slice a1 y c1, .slice sa sn sc, .slice a3 v c3] 27 (0, 0))
  d : DAt wr a1 sa a3 Li S Oi
  ow : wr.ownsRow bo 36 4 ov rn (rowO P)
  fil : filB Li = true
  hl : Li.length = y
  ho : Oi.length = v
  hv : v ≤ 200 + i
  hc : v ≤ c3
  hn : a3 = none → v = 0 ∧ c3 = 0
theorem RI.below {w wr W : World} {i8 bo rn : Nat} {ov : Value} {dk : Array Value} {sa : Option Addr} {sn sc : Nat} {a1 a3 : Option Addr} {c1 c3 y v i : Nat} {P : List OP} {S Li : List FI} {Oi : List OP} (h : RI w wr i8 bo rn ov dk sa sn sc a1 a3 c1 c3 y v i P S Li Oi) (hb : Below wr.heap.size wr W) : RI w W i8 bo rn ov dk sa sn sc a1 a3 c1 c3 y v i P S Li Oi :=
  ⟨h.b.trans (hb.mono h.b.size), below_row hb (row_lt h.ra) h.ra, below_row hb (row_lt h.rb) h.rb, below_row hb (row_lt h.m) h.m, h.d.below hb, own_blw h.ow hb, h.fil, h.hl, h.ho, h.hv, h.hc, h.hn⟩

set_option maxHeartbeats 8000000 in
set_option maxRecDepth 20000 in
theorem implRepl_any (n d : ByteArray) (zn : n.size ≤ 1048576) (zd : d.size ≤ 1048576) (la sa oa : Option Addr) (lc sc oc ln sn on x1 x2 x3 : Nat) (kd : Int) (L S : List FI) (O : List OP) (w : World) (hD : DAt w la sa oa L S O) (hK : DskOk L S O) (hLn : L.length = ln) (hSn : S.length = sn) (hOn : O.length = on) (hoc : on ≤ oc) (hon : oa = none → on = 0 ∧ oc = 0)
    (hk : rpK L S O n d = kd) (hx1 : (rpL L S O n d).length = x1) (hx2 : (rpS L S O).length = x2) (hx3 : (rpO L S O n d).length = x3) :
    Calls Try.prog 18 #[.agg #[.slice la ln lc, .slice sa sn sc, .slice oa on oc], .string n, .string d] w fun e w' => ∃ a1 c1 a2 c2 a3 c3, e = .returned (.tuple #[.agg #[.slice a1 x1 c1, .slice a2 x2 c2, .slice a3 x3 c3], .int .i64 kd]) ∧ Below w.heap.size w w' ∧ DA w' w.heap.size (.slice a1 x1 c1) (.slice a2 x2 c2) (.slice a3 x3 c3) (rpL L S O n d) (rpS L S O) (rpO L S O n d) := by
  have B0 : Hid (Below w.heap.size w ((w.alloc (.cells #[.slice la ln lc, .slice sa sn sc, .slice oa on oc] 27)).alloc (.cells #[.slice none 0 0, .slice none 0 0, .slice none 0 0] 27))) := ((Below.refl _ _).alloc (Nat.le_refl _) _).alloc (by simp) _
  have RA0 : Hid (((w.alloc (.cells #[.slice la ln lc, .slice sa sn sc, .slice oa on oc] 27)).alloc (.cells #[.slice none 0 0, .slice none 0 0, .slice none 0 0] 27)).heap[w.heap.size]? = some (.cells #[.slice la ln lc, .slice sa sn sc, .slice oa on oc] 27 (0, 0))) := heap_alloc2_old _ _ _
  have RB0 : Hid (((w.alloc (.cells #[.slice la ln lc, .slice sa sn sc, .slice oa on oc] 27)).alloc (.cells #[.slice none 0 0, .slice none 0 0, .slice none 0 0] 27)).heap[w.heap.size + 1]? = some (.cells #[.slice none 0 0, .slice none 0 0, .slice none 0 0] 27 (0, 0))) := heap_alloc2_new _ _ _
  have HD0 : Hid (DAt w la sa oa L S O) := hD
  have ID : Hid (∀ W, Below w.heap.size w W → ∀ b, dskB L S O = b → Calls Try.prog 8 #[.agg #[.slice la ln lc, .slice sa sn sc, .slice oa on oc]] W fun e w' => e = .returned (.bool b) ∧ Below W.heap.size W w') := fun W hW b hb => by
    rw [← hb]
    exact implDisk_any la sa oa lc sc oc ln sn on L S O W (hD.below hW) hK hLn hSn hOn
  have HLN : Hid (L.length = ln) := hLn
  have HSN : Hid (S.length = sn) := hSn
  have HON : Hid (O.length = on) := hOn
  have HZ : Hid (∀ o ∈ repO L n d, o.n.size ≤ 2000000 ∧ o.t.size ≤ 2000000 ∧ o.d.size ≤ 1048576) := repO_sz L n d zn zd
  obtain ⟨a0, a1, a2⟩ := cells3 RA0.out
  cases hd : dskB L S O
  · have e0 : rpK L S O n d = 1 := by unfold rpK; rw [hd]; rfl
    have e1 : rpL L S O n d = [] := by unfold rpL; rw [hd]; rfl
    have e2 : rpS L S O = [] := by unfold rpS; rw [hd]; rfl
    have e3 : rpO L S O n d = [] := by unfold rpO; rw [hd]; rfl
    rw [e0] at hk
    rw [e1] at hx1 ⊢
    rw [e2] at hx2 ⊢
    rw [e3] at hx3 ⊢
    have hx1 : 0 = x1 := hx1
    have hx2 : 0 = x2 := hx2
    have hx3 : 0 = x3 := hx3
    subst hx1 hx2 hx3 hk
    clear e0 e1 e2 e3 hD hK hLn hSn hOn
    go_enter Try.func18, Try.ntmps18
    go_wp2_with fail
    refine (ID.out _ B0.out _ hd).mono ?_
    rintro e w1 ⟨rfl, hb1⟩
    have B1 : Hid (Below w.heap.size w w1) := B0.out.trans (hb1.mono B0.out.size)
    have RB1 : Hid (w1.heap[w.heap.size + 1]? = some (.cells #[.slice none 0 0, .slice none 0 0, .slice none 0 0] 27 (0, 0))) := below_row hb1 (row_lt RB0.out) RB0.out
    clear B0 RB0
    clear hb1 a0 a1 a2
    obtain ⟨zrb1_0, zrb1_1, zrb1_2⟩ := cells3 RB1.out
    have rf := fun i => frozen_of_row _ _ i _ _ RB1.out
    go_wp2
    refine bodyPost_ret (v := .tuple #[.agg #[.slice none 0 0, .slice none 0 0, .slice none 0 0], .int .i64 1]) (by simp [results, Try.results18, go_sem, zrb1_0, zrb1_1, zrb1_2]) rfl ⟨none, 0, none, 0, none, 0, rfl, ?_⟩
    exact ⟨by repeat (first | with_reducible exact B1.out | refine Below.setCell ?_ (by simp <;> omega) _), da_nil⟩
  have e2 : rpS L S O = S := by unfold rpS; rw [hd]; rfl
  rw [e2] at hx2 ⊢
  have hx2 : sn = x2 := hSn.symm.trans hx2
  subst hx2
  clear e2
  obtain ⟨hfl, hfs, h200⟩ := dsk_parts hd
  have bl : ln ≤ 60 := by rw [← hLn]; exact (filB_true.1 hfl).1
  have bs : sn ≤ 60 := by rw [← hSn]; exact (filB_true.1 hfs).1
  have bo : on ≤ 200 := by rw [← hOn]; exact h200
  have HF0 : Hid (filB L = true) := hfl
  have CP : Hid (∀ W, Below w.heap.size w W → Calls Try.prog 29 #[.agg #[.slice la ln lc, .slice sa sn sc, .slice oa on oc]] W fun e w' => ∃ a1 c1 a2 c2 a3 c3, e = .returned (.agg #[.slice a1 ln c1, .slice a2 sn c2, .slice a3 on c3]) ∧ Below W.heap.size W w' ∧ DA w' W.heap.size (.slice a1 ln c1) (.slice a2 sn c2) (.slice a3 on c3) L S O) := fun W hW => copyOfDisk_any la sa oa lc sc oc ln sn on L S O W (HD0.out.below hW) HLN.out HSN.out HON.out (by omega) (by omega) (by omega)
  unfold rpK at hk
  unfold rpL at hx1 ⊢
  unfold rpO at hx3 ⊢
  rw [if_pos hd] at hk hx1 hx3 ⊢
  rw [if_pos hd]
  clear hD hK hLn hSn hOn hfl hfs h200
  obtain ⟨XL, HXL⟩ : ∃ X, Hid ((if (runR L O (repO L n d)).1 = 0 then (runR L O (repO L n d)).2.1 else L) = X) := ⟨_, rfl⟩
  obtain ⟨XO, HXO⟩ : ∃ X, Hid ((if (runR L O (repO L n d)).1 = 0 then (runR L O (repO L n d)).2.2 else O) = X) := ⟨_, rfl⟩
  have HKD : Hid ((runR L O (repO L n d)).1 = kd) := hk
  rw [HXL.out] at hx1 ⊢
  rw [HXO.out] at hx3 ⊢
  have X1 : Hid (XL.length = x1) := hx1
  have X3 : Hid (XO.length = x3) := hx3
  clear hk hx1 hx3
  have HOC : Hid (on ≤ oc ∧ (oa = none → on = 0 ∧ oc = 0)) := ⟨hoc, hon⟩
  clear hoc hon
  have HRP : Hid (∀ W, Below w.heap.size w W → ∀ rn, (repO L n d).length = rn → Calls Try.prog 39 #[.agg #[.slice la ln lc, .slice sa sn sc, .slice oa on oc], .string n, .string d] W fun e w' => ∃ a c, e = .returned (.slice a rn c) ∧ Below W.heap.size W w' ∧ w'.ownsRow W.heap.size 36 4 (.slice a rn c) rn (rowO (repO L n d))) := fun W hW rn hr => replacing_any n d zn la sa oa lc sc oc ln sn on rn L W (HD0.out.l.below hW) HLN.out (by omega) hr
  have hrl := repO_len L n d
  obtain ⟨P, HP⟩ : ∃ X, Hid (repO L n d = X) := ⟨_, rfl⟩
  rw [HP.out] at HXL HXO HKD HZ HRP hrl
  obtain ⟨rn, HRN⟩ : ∃ X, Hid (P.length = X) := ⟨_, rfl⟩
  rw [HRN.out] at hrl
  clear HP
  go_enter Try.func18, Try.ntmps18
  go_wp2_with fail
  refine (ID.out _ B0.out _ hd).mono ?_
  rintro e w1 ⟨rfl, hb1⟩
  have B1 : Hid (Below w.heap.size w w1) := B0.out.trans (hb1.mono B0.out.size)
  have RA1 : Hid (w1.heap[w.heap.size]? = some (.cells #[.slice la ln lc, .slice sa sn sc, .slice oa on oc] 27 (0, 0))) := below_row hb1 (row_lt RA0.out) RA0.out
  have RB1 : Hid (w1.heap[w.heap.size + 1]? = some (.cells #[.slice none 0 0, .slice none 0 0, .slice none 0 0] 27 (0, 0))) := below_row hb1 (row_lt RB0.out) RB0.out
  clear B0 RA0 RB0
  clear hb1 a0 a1 a2
  obtain ⟨zra1_0, zra1_1, zra1_2⟩ := cells3 RA1.out
  have I8 : Hid (w.heap.size + 1 < w1.heap.size) := row_lt RB1.out
  have hb2 : Below w1.heap.size w1 (w1.alloc (.cells #[.slice la ln lc, .slice sa sn sc, .slice oa on oc] 27)) := (Below.refl _ _).alloc (Nat.le_refl _) _
  have B2 : Hid (Below w.heap.size w (w1.alloc (.cells #[.slice la ln lc, .slice sa sn sc, .slice oa on oc] 27))) := B1.out.trans (hb2.mono B1.out.size)
  have RA2 : Hid ((w1.alloc (.cells #[.slice la ln lc, .slice sa sn sc, .slice oa on oc] 27)).heap[w.heap.size]? = some (.cells #[.slice la ln lc, .slice sa sn sc, .slice oa on oc] 27 (0, 0))) := below_row hb2 (row_lt RA1.out) RA1.out
  have RB2 : Hid ((w1.alloc (.cells #[.slice la ln lc, .slice sa sn sc, .slice oa on oc] 27)).heap[w.heap.size + 1]? = some (.cells #[.slice none 0 0, .slice none 0 0, .slice none 0 0] 27 (0, 0))) := below_row hb2 (row_lt RB1.out) RB1.out
  clear B1 RA1 RB1
  have M2 : Hid ((w1.alloc (.cells #[.slice la ln lc, .slice sa sn sc, .slice oa on oc] 27)).heap[w1.heap.size]? = some (.cells #[.slice la ln lc, .slice sa sn sc, .slice oa on oc] 27 (0, 0))) := heap_alloc_new _ _
  clear hb2
  obtain ⟨zra2_0, zra2_1, zra2_2⟩ := cells3 RA2.out
  go_wp2_with fail
  clear zra1_0 zra1_1 zra1_2 zra2_0 zra2_1 zra2_2
  obtain ⟨i8, HI8⟩ : ∃ i, Hid (w1.heap.size = i) := ⟨_, rfl⟩
  rw [HI8.out] at M2 I8 ⊢
  generalize (w1.alloc (.cells #[.slice la ln lc, .slice sa sn sc, .slice oa on oc] 27)) = w2 at *
  clear HI8
  refine (HRP.out w2 B2.out rn HRN.out).mono ?_
  rintro e w3 ⟨pa, pc, rfl, hb3, how⟩
  have B3 : Hid (Below w.heap.size w w3) := B2.out.trans (hb3.mono B2.out.size)
  have RA3 : Hid (w3.heap[w.heap.size]? = some (.cells #[.slice la ln lc, .slice sa sn sc, .slice oa on oc] 27 (0, 0))) := below_row hb3 (row_lt RA2.out) RA2.out
  have RB3 : Hid (w3.heap[w.heap.size + 1]? = some (.cells #[.slice none 0 0, .slice none 0 0, .slice none 0 0] 27 (0, 0))) := below_row hb3 (row_lt RB2.out) RB2.out
  have M3 : Hid (w3.heap[i8]? = some (.cells #[.slice la ln lc, .slice sa sn sc, .slice oa on oc] 27 (0, 0))) := below_row hb3 (row_lt M2.out) M2.out
  clear B2 RA2 RB2 M2
  have R0 : Hid (RI w w3 i8 w2.heap.size rn (.slice pa rn pc) #[.slice la ln lc, .slice sa sn sc, .slice oa on oc] sa sn sc la oa lc oc ln on 0 P S L O) := ⟨B3.out, RA3.out, RB3.out, M3.out, HD0.out.below B3.out, how, HF0.out, HLN.out, HON.out, by omega, HOC.out.1, HOC.out.2⟩
  clear hb3 how B3 RA3 RB3 M3
  go_wp2_with fail
  go_loopw [23] (fun ti wr => ∃ (i y v c1 c3 : Nat) (a1 a3 : Option Addr) (Li : List FI) (Oi : List OP), i ≤ rn ∧ ti = .int .i64 i ∧ RI w wr i8 w2.heap.size rn (.slice pa rn pc) #[.slice la ln lc, .slice sa sn sc, .slice oa on oc] sa sn sc a1 a3 c1 c3 y v i P S Li Oi ∧ runR L O P = runR Li Oi (P.drop i)) (fun ti _ => rn - (intOf ti).toNat)
  case atStart => exact ⟨0, ln, on, lc, oc, la, oa, L, O, Nat.zero_le _, rfl, R0.out, rfl⟩
  case round =>
    obtain ⟨i, y, v, c1, c3, a1, a3, Li, Oi, hi, rfl, hri, hrun⟩ := hrel
    have RR : Hid (RI w wr i8 w2.heap.size rn (.slice pa rn pc) #[.slice la ln lc, .slice sa sn sc, .slice oa on oc] sa sn sc a1 a3 c1 c3 y v i P S Li Oi) := hri
    have HRUN : Hid (runR L O P = runR Li Oi (P.drop i)) := hrun
    have hv := hri.hv
    have hy : y ≤ 60 := by rw [← hri.hl]; exact (filB_true.1 hri.fil).1
    clear hri hrun R0
    rw [HRUN.out] at HXL HXO HKD
    by_cases hlt : i < rn
    · have hin : (i : Int) < rn := by omega
      have hiP : i < P.length := by rw [HRN.out]; exact hlt
      obtain ⟨pa', pc', epa, hops⟩ := own_ops RR.out.ow HRN.out
      injection epa with epa _ epc
      subst epa
      subst epc
      obtain ⟨ob, oo, e, o0, o1, o2, o3⟩ := hops i hiP
      subst e
      have hdr : P.drop i = P.getD i op0 :: P.drop (i + 1) := by rw [List.drop_eq_getElem_cons hiP, List.getD_eq_getElem?_getD, List.getElem?_eq_getElem hiP]; rfl
      obtain ⟨zz1, zz2, zz3⟩ := HZ.out (P.getD i op0) (by rw [List.getD_eq_getElem?_getD, List.getElem?_eq_getElem hiP]; simp)
      rw [hdr] at HXL HXO HKD HRUN
      clear hdr hops
      generalize P.getD i op0 = o at *
      obtain ⟨q, HQ⟩ : ∃ k, Hid (actK Li Oi o = k) := ⟨_, rfl⟩
      obtain ⟨Lj, HLj⟩ : ∃ k, Hid (actL Li Oi o = k) := ⟨_, rfl⟩
      obtain ⟨Oj, HOj⟩ : ∃ k, Hid (actO Li Oi o = k) := ⟨_, rfl⟩
      obtain ⟨yj, HYj⟩ : ∃ k, Hid (Lj.length = k) := ⟨_, rfl⟩
      obtain ⟨vj, HVj⟩ : ∃ k, Hid (Oj.length = k) := ⟨_, rfl⟩
      have hyv : yj ≤ y + 1 ∧ vj ≤ v + 1 := by
        have := act_len Li Oi o
        rw [HLj.out, HOj.out, HYj.out, HVj.out, RR.out.hl, RR.out.ho] at this
        exact this
      have hb1 : Below wr.heap.size wr (wr.alloc (.cells #[.int .i64 o.k, .string o.n, .string o.t, .string o.d] 36)) := (Below.refl _ _).alloc (Nat.le_refl _) _
      have R1 : Hid (RI w (wr.alloc (.cells #[.int .i64 o.k, .string o.n, .string o.t, .string o.d] 36)) i8 w2.heap.size rn (.slice (some ⟨ob, oo, none⟩) rn pc) #[.slice la ln lc, .slice sa sn sc, .slice oa on oc] sa sn sc a1 a3 c1 c3 y v i P S Li Oi) := RR.out.below hb1
      have OB : Hid ((wr.alloc (.cells #[.int .i64 o.k, .string o.n, .string o.t, .string o.d] 36)).heap[wr.heap.size]? = some (.cells #[.int .i64 o.k, .string o.n, .string o.t, .string o.d] 36 (0, 0))) := heap_alloc_new _ _
      obtain ⟨s0, s1, s2⟩ := cells3 R1.out.m
      obtain ⟨t0, t1, t2, t3⟩ := cells4 OB.out
      clear hb1
      go_wp2_with fail
      refine (withDone_any a1 sa a3 c1 sc c3 y sn v yj vj q Li S Oi o _ R1.out.d R1.out.hl HSN.out R1.out.ho R1.out.hc R1.out.hn R1.out.fil (by omega) (by omega) zz1 zz2 zz3 HQ.out (by rw [HLj.out]; exact HYj.out) (by rw [HOj.out]; exact HVj.out)).mono ?_
      rintro e u ⟨b1, e1, b3, e3, rfl, hb, hda, hcc, hnn⟩
      rw [HLj.out, HOj.out] at hda
      clear s0 s1 s2 t0 t1 t2 t3 o0 o1 o2 o3
      have R2 : Hid (RI w (u.alloc (.cells #[.slice b1 yj e1, .slice sa sn sc, .slice b3 vj e3] 27)) i8 w2.heap.size rn (.slice (some ⟨ob, oo, none⟩) rn pc) #[.slice la ln lc, .slice sa sn sc, .slice oa on oc] sa sn sc a1 a3 c1 c3 y v i P S Li Oi) := (R1.out.below hb).below ((Below.refl _ _).alloc (Nat.le_refl _) _)
      have D2 : Hid (DAt (u.alloc (.cells #[.slice b1 yj e1, .slice sa sn sc, .slice b3 vj e3] 27)) b1 sa b3 Lj S Oj) := hda.below ((Below.refl _ _).alloc (Nat.le_refl _) _)
      have HCN : Hid (vj ≤ e3 ∧ (b3 = none → vj = 0 ∧ e3 = 0)) := ⟨hcc, hnn⟩
      have E2 : Hid ((u.alloc (.cells #[.slice b1 yj e1, .slice sa sn sc, .slice b3 vj e3] 27)).heap[u.heap.size]? = some (.cells #[.slice b1 yj e1, .slice sa sn sc, .slice b3 vj e3] 27 (0, 0))) := heap_alloc_new _ _
      clear hb hda hcc hnn R1 OB RR
      by_cases hq : q = 0
      · skip
        subst hq
        have HF : Hid (filB Lj = true) := by have := act_fil HQ.out; rw [HLj.out] at this; exact this
        rw [runR_go HQ.out, HLj.out, HOj.out] at HRUN
        have hne0 : w.heap.size ≠ i8 := by have := I8.out; omega
        have hne1 : w.heap.size + 1 ≠ i8 := by have := I8.out; omega
        have hi8 : w.heap.size ≤ i8 := by have := I8.out; omega
        have s1 := heap_setCell_same _ i8 0 _ _ (.slice b1 yj e1) R2.out.m
        have s2 := heap_setCell_same _ i8 1 _ _ (.slice sa sn sc) s1
        have R3 : Hid (RI w ((((u.alloc (.cells #[.slice b1 yj e1, .slice sa sn sc, .slice b3 vj e3] 27)).setCell ⟨i8, 0, none⟩ (.slice b1 yj e1)).setCell ⟨i8, 1, none⟩ (.slice sa sn sc)).setCell ⟨i8, 2, none⟩ (.slice b3 vj e3)) i8 w2.heap.size rn (.slice (some ⟨ob, oo, none⟩) rn pc) #[.slice la ln lc, .slice sa sn sc, .slice oa on oc] sa sn sc b1 b3 e1 e3 yj vj (i + 1) P S Lj Oj) := ⟨((R2.out.b.setCell hi8 _).setCell hi8 _).setCell hi8 _, (heap_setCell_other _ _ _ _ hne0).trans ((heap_setCell_other _ _ _ _ hne0).trans ((heap_setCell_other _ _ _ _ hne0).trans R2.out.ra)), (heap_setCell_other _ _ _ _ hne1).trans ((heap_setCell_other _ _ _ _ hne1).trans ((heap_setCell_other _ _ _ _ hne1).trans R2.out.rb)), boxW R2.out.m, D2.out.box3 R2.out.m, own_setT (own_setT (own_setT R2.out.ow R2.out.m (by decide)) s1 (by decide)) s2 (by decide), HF.out, HYj.out, HVj.out, by omega, HCN.out.1, HCN.out.2⟩
        obtain ⟨m0, m1, m2⟩ := cells3 R2.out.m
        have mf := fun i => frozen_of_row _ _ i _ _ R2.out.m
        obtain ⟨n0, n1, n2⟩ := cells3 E2.out
        clear s1 s2 hne0 hne1 hi8
        go_wp2
        go_roundw
        case rel => exact ⟨i + 1, yj, vj, e1, e3, b1, b3, Lj, Oj, by omega, by first | rfl | go_num, R3.out, HRUN.out⟩
        case measure => simp [intOf]; omega
      rw [runR_no (by rw [HQ.out]; exact hq)] at HXL HXO HKD
      simp only at HXL HXO HKD
      rw [HQ.out] at HXL HXO HKD
      rw [if_neg hq] at HXL HXO
      have e1' : L = XL := HXL.out
      have e2' : O = XO := HXO.out
      have e3' : q = kd := HKD.out
      subst e1' e2' e3'
      have ey : ln = x1 := HLN.out.symm.trans X1.out
      have ev : on = x3 := HON.out.symm.trans X3.out
      subst ey ev
      have hqn : (q != 0) = true := by simp [hq]
      obtain ⟨m0, m1, m2⟩ := cells3 R2.out.ra
      go_wp2_with fail
      refine (CP.out _ R2.out.b).mono ?_
      rintro e wz ⟨g1, f1, g2, f2, g3, f3, rfl, hb, hda⟩
      have BZ : Hid (w.heap.size ≤ (u.alloc (.cells #[.slice b1 yj e1, .slice sa sn sc, .slice b3 vj e3] 27)).heap.size) := R2.out.b.size
      have B9 : Hid (Below w.heap.size w wz) := (R2.out.below hb).b
      have RB9 : Hid (wz.heap[w.heap.size + 1]? = some (.cells #[.slice none 0 0, .slice none 0 0, .slice none 0 0] 27 (0, 0))) := (R2.out.below hb).rb
      have FN : Hid (∀ x y z, Below w.heap.size w (((wz.setCell ⟨w.heap.size + 1, 0, none⟩ x).setCell ⟨w.heap.size + 1, 1, none⟩ y).setCell ⟨w.heap.size + 1, 2, none⟩ z) ∧ DA (((wz.setCell ⟨w.heap.size + 1, 0, none⟩ x).setCell ⟨w.heap.size + 1, 1, none⟩ y).setCell ⟨w.heap.size + 1, 2, none⟩ z) w.heap.size (.slice g1 ln f1) (.slice g2 sn f2) (.slice g3 on f3) L S O) := fun x y z => boxedAt (by omega) B9.out (hda.bse BZ.out) RB9.out
      obtain ⟨r0, r1, r2⟩ := cells3 RB9.out
      have rf := fun i => frozen_of_row _ _ i _ _ RB9.out
      clear hb hda
      go_wp2
      refine bodyPost_ret (v := .tuple #[.agg #[.slice g1 ln f1, .slice g2 sn f2, .slice g3 on f3], .int .i64 q]) (by simp [results, Try.results18, go_sem, r0, r1, r2]) rfl ⟨_, _, _, _, _, _, rfl, (FN.out _ _ _).1, (FN.out _ _ _).2⟩
    have hin : i = rn := by omega
    subst hin
    have hdr : P.drop i = [] := by rw [← HRN.out]; simp
    rw [hdr, runR] at HXL HXO HKD
    have e1' : Li = XL := by have := HXL.out; rwa [if_pos rfl] at this
    have e2' : Oi = XO := by have := HXO.out; rwa [if_pos rfl] at this
    have e3' : 0 = kd := HKD.out
    subst e1' e2' e3'
    have ey : y = x1 := RR.out.hl.symm.trans X1.out
    have ev : v = x3 := RR.out.ho.symm.trans X3.out
    subst ey ev
    obtain ⟨m0, m1, m2⟩ := cells3 RR.out.m
    go_wp2_with fail
    refine (copyOfDisk_any a1 sa a3 c1 sc c3 y sn v Li S Oi wr RR.out.d RR.out.hl HSN.out RR.out.ho (by omega) (by omega) (by omega)).mono ?_
    rintro e wz ⟨g1, f1, g2, f2, g3, f3, rfl, hb, hda⟩
    have BZ : Hid (w.heap.size ≤ wr.heap.size) := RR.out.b.size
    have B9 : Hid (Below w.heap.size w wz) := (RR.out.below hb).b
    have RB9 : Hid (wz.heap[w.heap.size + 1]? = some (.cells #[.slice none 0 0, .slice none 0 0, .slice none 0 0] 27 (0, 0))) := (RR.out.below hb).rb
    have FN : Hid (∀ x y z, Below w.heap.size w (((wz.setCell ⟨w.heap.size + 1, 0, none⟩ x).setCell ⟨w.heap.size + 1, 1, none⟩ y).setCell ⟨w.heap.size + 1, 2, none⟩ z) ∧ DA (((wz.setCell ⟨w.heap.size + 1, 0, none⟩ x).setCell ⟨w.heap.size + 1, 1, none⟩ y).setCell ⟨w.heap.size + 1, 2, none⟩ z) w.heap.size (.slice g1 _ f1) (.slice g2 sn f2) (.slice g3 _ f3) Li S Oi) := fun x y z => boxedAt (by omega) B9.out (hda.bse BZ.out) RB9.out
    obtain ⟨r0, r1, r2⟩ := cells3 RB9.out
    have rf := fun i => frozen_of_row _ _ i _ _ RB9.out
    clear hb hda
    go_wp2
    refine bodyPost_ret (v := .tuple #[.agg #[.slice g1 _ f1, .slice g2 sn f2, .slice g3 _ f3], .int .i64 0]) (by simp [results, Try.results18, go_sem, r0, r1, r2]) rfl ⟨_, _, _, _, _, _, rfl, (FN.out _ _ _).1, (FN.out _ _ _).2⟩

end Go.Proofs.Ytpahhhocgpohbaa
