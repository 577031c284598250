import Derived.Test.YtehfjfmfpdgibaaGreatDoorPack0
import Derived.Test.YtehfjfmfpdgibaaGreatDoorPack1
import Derived.Test.YtehfjfmfpdgibaaGreatDoorPack5
import Derived.RangeFuncNested
import Derived.RangeFuncBound
import Derived.RangeFuncCalls
import Derived.RangeFuncLeaves
import Derived.Shelf.Abstract
import Derived.Shelf.RegionOpen
import Derived.OwnWalkIn
import Derived.TacticsInMore
import Derived.LoopNIn
import Derived.LoopIn
import Derived.Deep.Cut
namespace Go.Proofs.YtehfjfmfpdgibaaGreatDoor
open Go.RowKit Go.Shelf
attribute [local go_sem] Oper.semAt_some
theorem grown_of {w w' : World} (h : Below w.heap.size w w') : w.grownBy w' none := ⟨h.os, h.tape, h.output, h.size, fun k hk _ => h.block k hk⟩
def KpT (n₀ Bt : Nat) (o : Obj) (W W' : World) : Prop := Below n₀ W W' /\ (W.heap[Bt]? = some o -> W'.heap[Bt]? = some o)
theorem KpT.trans {n₀ Bt : Nat} {o : Obj} {A B C : World} (h : KpT n₀ Bt o A B) (g : KpT n₀ Bt o B C) : KpT n₀ Bt o A C := ⟨h.1.trans g.1, fun x => g.2 (h.2 x)⟩
theorem visits_any (n v0 home v2 frm to : Int) (a ar : Option Addr) (cap m cr : Nat) (zs : List Int) (w : World) :
 Calls Tryz.prog 173 #[.agg #[.int .i64 n, .slice a zs.length cap, .int .i64 v0, .int .i64 home, .int .i64 v2, .int .i64 frm, .int .i64 to, .slice ar m cr]] w fun e w' => e = .returned (.func (.func 201) #[] #[.pointer (some ⟨w.heap.size, 0, none⟩)]) /\ w' = w.alloc (.cells #[Value.int .i64 n, Value.slice a zs.length cap, Value.int .i64 v0, Value.int .i64 home, Value.int .i64 v2, Value.int .i64 frm, Value.int .i64 to, Value.slice ar m cr] 139) := by
 go_enter Tryz.func173, Tryz.ntmps173
 go_wp2
 go_ret
 exact ⟨rfl, rfl⟩
set_option maxHeartbeats 2000000 in
theorem visits1_in (nf : Nat) (hnf : 1 <= nf) (l Bt n₀ : Nat) (n v0 home v2 frm to : Int) (a ar : Option Addr) (cap m cr : Nat) (zs ros : List Int) (J Jx : List (Fin m) -> World -> Prop)
 (hY : ∀ pre x W, J pre W -> pre.length < m -> YieldAt Fence.wide (nf - 1) Tryz.prog l #[.agg #[.int .i64 (og6 ros x.val 0), .int .i64 (og6 ros x.val 1), .int .i64 (og6 ros x.val 2), .int .i64 (og6 ros x.val 3), .int .i64 (og6 ros x.val 4), .int .i64 (og6 ros x.val 5)], .agg #[.int .i64 (og6 ros x.val 0), .int .i64 (arrV n zs ros home frm x.val), .int .i64 (startV n zs ros home frm x.val), .int .i64 (nowT n zs ros home frm (x.val + 1))]] W fun e W' =>
   (e = .returned (.bool true) /\ J (pre ++ [x]) W' /\ KpT n₀ Bt (.cells #[Value.int .i64 n, Value.slice a zs.length cap, Value.int .i64 v0, Value.int .i64 home, Value.int .i64 v2, Value.int .i64 frm, Value.int .i64 to, Value.slice ar m cr] 139 (0, 0)) W W') ∨ (e = .returned (.bool false) /\ Jx (pre ++ [x]) W'))
 (w W : World) (hJA : AbidesFrom W.heap.size J) (hn₀ : w.heap.size <= n₀) (hwW : Below w.heap.size w W) (hT : W.heap[Bt]? = some (.cells #[Value.int .i64 n, Value.slice a zs.length cap, Value.int .i64 v0, Value.int .i64 home, Value.int .i64 v2, Value.int .i64 frm, Value.int .i64 to, Value.slice ar m cr] 139 (0, 0))) (hm : matB n zs = true) (hA : IntsAt w a zs) (hR : IntsAt w ar ros) (hl : ros.length = m * 6) (hbd : RosBd n ros m) (hh : 0 <= home /\ home < n) (hf : 0 <= frm /\ frm <= 1000000) (hm12 : m <= 12) (h0 : J [] W) :
 Calls Tryz.prog 201 #[.func (.yield l) #[] #[], .pointer (some ⟨Bt, 0, none⟩)] W fun e W' => (∃ v, e = .returned v) ∧
  ((∃ ys : List (Fin m), ys.map Fin.val = List.range m /\ J ys W') ∨ (∃ pre : List (Fin m), (∃ k, k <= m /\ pre.map Fin.val = List.range k) /\ Jx pre W')) := by
 have HM : Hid _ := hm
 have HA : Hid (IntsAt w a zs) := hA
 have HR : Hid (IntsAt w ar ros) := hR
 have HL : Hid _ := hl
 have HBD : Hid (RosBd n ros m) := hbd
 have HH : Hid _ := hh
 have HF : Hid _ := hf
 have HY : Hid _ := hY
 have HJA : Hid (AbidesFrom W.heap.size J) := hJA
 have HB0 : Hid _ := hwW
 have HT0 : Hid (W.heap[Bt]? = _) := hT
 have HJ0 : Hid _ := h0
 clear hm hA hR hl hbd hh hf hY hJA hwW hT h0
 go_enter Tryz.func201, Tryz.ntmps201
 obtain ⟨t0, t1, t2, t3, t4, t5, t6, t7⟩ := cells8 HT0.out
 have u3 := fun s : Kin W => s.cell t3
 have u5 := fun s : Kin W => s.cell t5
 go_wp2_with fail
 have hkin := Kin.there W
 refine wp_region_kin (by kernel_rfl) (by kernel_rfl) ?_
 repeat (go_big_quiet_step ((fail)))
 refine wpQuiet_nil ?_
 rintro _ ⟨s, rfl⟩
 have HB1 : Hid _ := HB0.trans (s.below.mono HB0.size)
 have HT1 : Hid (s.w.heap[Bt]? = _) := below_row s.below (row_lt HT0.out) HT0.out
 have HJ1 : Hid _ := HJA.out _ _ _ none HJ0.out (grown_of s.below) (fun r e => by cases e)
 have HSZ : Hid _ := s.below.size
 clear t0 t1 t2 t3 t4 t5 t6 t7 u3 u5 HB0 HT0 HJ0 hkin
 generalize s.w = W1 at *
 obtain ⟨t0, t1, t2, t3, t4, t5, t6, t7⟩ := cells8 HT1.out
 go_wp2_with fail
 clear t0 t1 t2 t3 t4 t5 t6 t7
 go_loopw [3, 4, 18] (fun pl nw t wr => ∃ (k : Nat) (pre : List (Fin m)), k <= m /\ t = .int .i64 k /\ pl = .int .i64 (plc ros home k) /\ nw = .int .i64 (nowT n zs ros home frm k) /\ pre.map Fin.val = List.range k /\ J pre wr /\ Below w.heap.size w wr /\ W.heap.size <= wr.heap.size /\ wr.heap[Bt]? = some (.cells #[Value.int .i64 n, Value.slice a zs.length cap, Value.int .i64 v0, Value.int .i64 home, Value.int .i64 v2, Value.int .i64 frm, Value.int .i64 to, Value.slice ar m cr] 139 (0, 0))) (fun _ _ t _ => m - (intOf t).toNat)
 case atStart => exact ⟨0, [], Nat.zero_le _, rfl, rfl, rfl, rfl, HJ1.out, HB1.out, HSZ.out, HT1.out⟩
 case round =>
  clear HB1 HT1 HJ1 HSZ
  obtain ⟨k, pre, hk, rfl, rfl, rfl, hpre, hj, hb, hsz, ht⟩ := hrel
  have hpl := plc_bd HBD.out HH.1 HH.2 k hk
  have hnw := nowT_bd (home := home) HM.out HBD.out HF.out k hk
  have HPRE : Hid _ := hpre
  have HJ : Hid _ := hj
  have HB : Hid _ := hb
  have HSZ : Hid _ := hsz
  have HT : Hid (wr.heap[Bt]? = _) := ht
  obtain ⟨t0, t1, t2, t3, t4, t5, t6, t7⟩ := cells8 ht
  obtain ⟨p, HPL⟩ := nmd (plc ros home k)
  obtain ⟨f, HFR⟩ := nmd (nowT n zs ros home frm k)
  rw [HPL.out] at hpl
  rw [HFR.out] at hnw
  rw [HPL.out, HFR.out]
  have HPB : Hid _ := hpl
  clear hpre hj hb hsz ht hpl
  by_cases hlt : k < m
  · obtain ⟨b, off, rfl, hcs⟩ := IntsAt.some (IntsAt.below HR.out HB.out) (j := k * 6) (by rw [HL.out]; omega)
    obtain ⟨r0, r1, r2, r3, r4, r5⟩ := row6_at hcs HL.out k hlt
    clear hcs
    obtain ⟨h1b, h2b, h3b, h4b, h5b⟩ := HBD.out k hlt
    have HO1 : Hid _ := h1b
    have hY1 := HY.out pre ⟨k, hlt⟩
    clear h1b h2b
    obtain ⟨o0, H0⟩ := nmd (og6 ros k 0)
    obtain ⟨o1, H1⟩ := nmd (og6 ros k 1)
    obtain ⟨o2, H2⟩ := nmd (og6 ros k 2)
    obtain ⟨o3, H3⟩ := nmd (og6 ros k 3)
    obtain ⟨o4, H4⟩ := nmd (og6 ros k 4)
    obtain ⟨o5, H5⟩ := nmd (og6 ros k 5)
    rw [H3.out] at h3b
    rw [H4.out] at h4b
    rw [H5.out] at h5b
    rw [H1.out] at HO1
    rw [H0.out] at r0
    rw [H1.out] at r1
    rw [H2.out] at r2
    rw [H3.out] at r3
    rw [H4.out] at r4
    rw [H5.out] at r5
    obtain ⟨d, HD⟩ := nmd (tmI n zs p o1)
    have hdb := tmI_bd HM.out p o1
    rw [HD.out] at hdb
    have HAR : Hid (arrV n zs ros home frm k = f + d) := by
     show _ = _
     unfold arrV
     rw [HFR.out, HPL.out, H1.out, HD.out]
    have HSTV : Hid (startV n zs ros home frm k = max (f + d) o3) := by
     show _ = _
     unfold startV
     rw [HAR.out, H3.out]
    have HNX : Hid (nowT n zs ros home frm (k + 1) = max (f + d) o3 + o5) := by
     show _ = _
     rw [nowT_succ, HSTV.out, H5.out]
    obtain ⟨mx, HMX⟩ := nmd (max (f + d) o3)
    rw [HMX.out] at HSTV HNX
    have hmb : 0 <= mx /\ mx <= 3000000 := by
     have := HMX.out
     omega
    dsimp only at hY1
    rw [H0.out, H1.out, H2.out, H3.out, H4.out, H5.out, HAR.out, HSTV.out, HNX.out] at hY1
    have HY1 : Hid (∀ W, J pre W -> pre.length < m -> YieldAt Fence.wide (nf - 1) Tryz.prog l #[.agg #[.int .i64 o0, .int .i64 o1, .int .i64 o2, .int .i64 o3, .int .i64 o4, .int .i64 o5], .agg #[.int .i64 o0, .int .i64 (f + d), .int .i64 mx, .int .i64 (mx + o5)]] W _) := hY1
    clear hY1
    have HBA : Hid (Below w.heap.size w (wr.alloc (Obj.cells #[Value.int .i64 o0, Value.int .i64 o1, Value.int .i64 o2, Value.int .i64 o3, Value.int .i64 o4, Value.int .i64 o5] 146))) := HB.alloc HB.size _
    have HTA : Hid ((wr.alloc (Obj.cells #[Value.int .i64 o0, Value.int .i64 o1, Value.int .i64 o2, Value.int .i64 o3, Value.int .i64 o4, Value.int .i64 o5] 146)).heap[Bt]? = _) := (heap_alloc_old _ _ (row_lt HT.out)).trans HT.out
    have HRO : Hid ((wr.alloc (Obj.cells #[Value.int .i64 o0, Value.int .i64 o1, Value.int .i64 o2, Value.int .i64 o3, Value.int .i64 o4, Value.int .i64 o5] 146)).heap[wr.heap.size]? = _) := heap_alloc_new _ _
    have HJA2 : Hid (J pre (wr.alloc (Obj.cells #[Value.int .i64 o0, Value.int .i64 o1, Value.int .i64 o2, Value.int .i64 o3, Value.int .i64 o4, Value.int .i64 o5] 146))) := HJA.out _ _ _ none HJ.out (World.grownBy_alloc wr _ none) (fun r e => by cases e)
    have HSA : Hid (W.heap.size <= (wr.alloc (Obj.cells #[Value.int .i64 o0, Value.int .i64 o1, Value.int .i64 o2, Value.int .i64 o3, Value.int .i64 o4, Value.int .i64 o5] 146)).heap.size) := Nat.le_trans HSZ.out (by simp)
    obtain ⟨i0, i1, i2, i3, i4, i5⟩ := cells6 HRO.out
    obtain ⟨s0, s1, s2, s3, s4, s5, s6, s7⟩ := cells8 HTA.out
    go_wp2_with fail
    clear r0 r1 r2 r3 r4 r5 t0 t1 t2 t3 t4 t5 t6 t7 i0 i1 i2 i3 i4 i5 s0 s1 s2 s3 s4 s5 s6 s7
    generalize wr.alloc (Obj.cells #[Value.int .i64 o0, Value.int .i64 o1, Value.int .i64 o2, Value.int .i64 o3, Value.int .i64 o4, Value.int .i64 o5] 146) = W2 at *
    generalize wr.heap.size = g at *
    refine (drive_is n p o1 v0 home v2 frm to _ _ _ _ _ zs _ d HD.out HM.out HPB.out HO1.out (HA.below HBA.out)).mono ?_
    rintro e W3 ⟨rfl, hb3⟩
    have HB3 : Hid _ := HBA.trans (hb3.mono HBA.size)
    have HT3 : Hid (W3.heap[Bt]? = _) := below_row hb3 (row_lt HTA.out) HTA.out
    have HR3 : Hid (W3.heap[g]? = _) := below_row hb3 (row_lt HRO.out) HRO.out
    have HJ3 : Hid _ := HJA.out _ _ _ none HJA2.out (grown_of hb3) (fun r e => by cases e)
    have HS3 : Hid _ := Nat.le_trans HSA.out hb3.size
    clear hb3 HBA HTA HRO HJA2 HSA
    obtain ⟨i0, i1, i2, i3, i4, i5⟩ := cells6 HR3.out
    have hor : (f + d < o3 /\ mx = o3) ∨ (o3 <= f + d /\ mx = f + d) := by
     have := HMX.out
     omega
    rcases hor with ⟨hmx, rfl⟩ | ⟨hmx, rfl⟩
    all_goals
     clear HMX
     go_wp2_with fail
     have e1 := fun s : Kin W3 => s.cell i1
     have e5 := fun s : Kin W3 => s.cell i5
     have hkin := Kin.there W3
     refine wp_region_kin (by kernel_rfl) (by kernel_rfl) ?_
     repeat (go_big_quiet_step ((fail)))
     refine wpQuiet_nil ?_
     rintro _ ⟨s2, rfl⟩
     have HB4 : Hid _ := HB3.trans (s2.below.mono HB3.size)
     have HT4 : Hid (s2.w.heap[Bt]? = _) := below_row s2.below (row_lt HT3.out) HT3.out
     have HR4 : Hid (s2.w.heap[g]? = _) := below_row s2.below (row_lt HR3.out) HR3.out
     have HJ4 : Hid _ := HJA.out _ _ _ none HJ3.out (grown_of s2.below) (fun r e => by cases e)
     have HS4 : Hid _ := Nat.le_trans HS3.out s2.below.size
     clear i0 i1 i2 i3 i4 i5 e1 e5 hkin HB3 HT3 HR3 HJ3 HS3
     generalize s2.w = W4 at *
     obtain ⟨i0, i1, i2, i3, i4, i5⟩ := cells6 HR4.out
     have hpl : pre.length < m := by
      have := congrArg List.length HPRE.out
      simp at this
      omega
     go_upto_region 7 with (fail)
     refine (wpIn_wide (n := nf)).1 ?_
     obtain ⟨fn, tmps, assign, body, hy, hR⟩ := HY1.out W4 HJ4.out hpl
     have HRND : Hid (RoundIn Fence.wide (nf - 1) Tryz.prog l fn tmps assign body W4 _) := hR
     clear hR
     gi_wp2
     refine HRND.mono ?_
     rintro e W5 (⟨rfl, hJ5, hk5⟩ | ⟨rfl, hJx5⟩)
     · have HJ5 : Hid _ := hJ5
       have HB5 : Hid _ := HB4.trans (hk5.1.mono hn₀)
       have HT5 : Hid (W5.heap[Bt]? = _) := hk5.2 HT4.out
       have HS5 : Hid _ := Nat.le_trans HS4.out hk5.1.size
       have HPRE5 : Hid ((pre ++ [(⟨k, hlt⟩ : Fin m)]).map Fin.val = List.range (k + 1)) := by
        show _ = _
        rw [List.map_append, HPRE.out, List.range_succ]
        rfl
       clear hJ5 hk5 hy HRND
       gi_wp2
       go_wp2
       go_roundw
       case rel => exact ⟨k + 1, _, by omega, by go_num, by rw [<- H1.out]; rfl, by rw [HNX.out], HPRE5.out, HJ5.out, HB5.out, HS5.out, HT5.out⟩
       case measure => simp [intOf]; omega
     · have HJx5 : Hid _ := hJx5
       have HPRE5 : Hid ((pre ++ [(⟨k, hlt⟩ : Fin m)]).map Fin.val = List.range (k + 1)) := by
        show _ = _
        rw [List.map_append, HPRE.out, List.range_succ]
        rfl
       clear hJx5 hy HRND
       gi_wp2
       go_wp2
       refine bodyPost_ret (results_none rfl _ _ _) rfl ?_
       exact ⟨⟨_, rfl⟩, .inr ⟨_, ⟨k + 1, hlt, HPRE5.out⟩, HJx5.out⟩⟩
  · obtain rfl : k = m := by omega
    go_wp2
    go_end0
    exact ⟨⟨_, rfl⟩, .inl ⟨_, HPRE.out, HJ.out⟩⟩
attribute [local go_sem] Oper.semAt_some
theorem KpT.putObj {n₀ Bt : Nat} {ob : Obj} (hob : ob.isCells = true) {w : World} (hn : n₀ <= w.heap.size) (W : World) (l : Nat) (o o' : Obj) (hl : w.heap.size <= l) (h : W.heap[l]? = some o) (hc : o.isCells = false) (hw : o.isWalk = false) : KpT n₀ Bt ob W (W.putObj l o') := by
 refine ⟨belowK_b hn W l o o' hl h hc hw, fun hT => ?_⟩
 have hne : Bt ≠ l := by
  intro e
  rw [e, h] at hT
  cases hT
  rw [hob] at hc
  cases hc
 exact ((grownBy_putObj' W l o').block Bt (Array.getElem?_eq_some_iff.1 hT).1 (fun e => hne (by cases e; rfl))).trans hT
theorem KpT.alloc {n₀ Bt : Nat} {ob : Obj} (W : World) (o : Obj) (hn : n₀ <= W.heap.size) : KpT n₀ Bt ob W (W.alloc o) :=
 ⟨(Below.refl _ _).alloc hn _, fun h => (heap_alloc_old _ _ (Array.getElem?_eq_some_iff.1 h).1).trans h⟩
theorem KpT.set {n₀ Bt : Nat} {ob : Obj} (W : World) (k i : Nat) (v : Value) (hn : n₀ <= k) (hne : Bt ≠ k) : KpT n₀ Bt ob W (W.setCell ⟨k, i, none⟩ v) :=
 ⟨(Below.refl _ _).setCell hn _, fun h => row_set' h hne⟩
theorem visits_stops (nf : Nat) (hnf : 1 <= nf) (Bt n₀ : Nat) (n v0 home v2 frm to : Int) (a ar : Option Addr) (cap m cr : Nat) (zs ros : List Int) (w w0 : World) (hn₀ : w.heap.size <= n₀) (hw0 : Below w.heap.size w w0) (hT : w0.heap[Bt]? = some (.cells #[Value.int .i64 n, Value.slice a zs.length cap, Value.int .i64 v0, Value.int .i64 home, Value.int .i64 v2, Value.int .i64 frm, Value.int .i64 to, Value.slice ar m cr] 139 (0, 0))) (hm : matB n zs = true) (hA : IntsAt w a zs) (hR : IntsAt w ar ros) (hl : ros.length = m * 6) (hbd : RosBd n ros m) (hh : 0 <= home /\ home < n) (hf : 0 <= frm /\ frm <= 1000000) (hm12 : m <= 12) :
 SeqStopsK Fence.wide nf Tryz.prog 201 #[.pointer (some ⟨Bt, 0, none⟩)] (fun x : Fin m => #[.agg #[.int .i64 (og6 ros x.val 0), .int .i64 (og6 ros x.val 1), .int .i64 (og6 ros x.val 2), .int .i64 (og6 ros x.val 3), .int .i64 (og6 ros x.val 4), .int .i64 (og6 ros x.val 5)], .agg #[.int .i64 (og6 ros x.val 0), .int .i64 (arrV n zs ros home frm x.val), .int .i64 (startV n zs ros home frm x.val), .int .i64 (nowT n zs ros home frm (x.val + 1))]]) (KpT n₀ Bt (.cells #[Value.int .i64 n, Value.slice a zs.length cap, Value.int .i64 v0, Value.int .i64 home, Value.int .i64 v2, Value.int .i64 frm, Value.int .i64 to, Value.slice ar m cr] 139 (0, 0)))
  (fun ys => ys.map Fin.val = List.range m) (fun pre => ∃ k, k <= m /\ pre.map Fin.val = List.range k) m w0 := fun l J Jx W hW hJ _ hY h0 =>
 callsIn_wide.2 (visits1_in nf hnf l Bt n₀ n v0 home v2 frm to a ar cap m cr zs ros J Jx hY w W hJ hn₀ (hw0.trans (hW.mono hw0.size)) (below_row hW (row_lt hT) hT) hm hA hR hl hbd hh hf hm12 h0)
theorem row_own {β : Type} {B k : Nat} {cs : β -> Array Value} {T : TypeId} {f : Nat × Nat} : OwnFrom B (fun (s : β) W => W.heap[k]? = some (.cells (cs s) T f)) := fun s W W' row hs hg hr =>
 (hg.block k (Array.getElem?_eq_some_iff.1 hs).1 (fun e => by obtain ⟨_, o, ho, hc⟩ := hr k e.symm; rw [hs] at ho; cases ho; cases hc)).trans hs
def lastP (ros : List Int) (home : Int) {m : Nat} (pre : List (Fin m)) : Int := match pre.getLast? with
 | some x => og6 ros x.val 1
 | none => home
def lastN (n : Int) (zs ros : List Int) (home frm : Int) {m : Nat} (pre : List (Fin m)) : Int := match pre.getLast? with
 | some x => nowT n zs ros home frm (x.val + 1)
 | none => frm
theorem lastP_snoc (ros : List Int) (home : Int) {m : Nat} (pre : List (Fin m)) (x : Fin m) : lastP ros home (pre ++ [x]) = og6 ros x.val 1 := by simp [lastP]
theorem lastN_snoc (n : Int) (zs ros : List Int) (home frm : Int) {m : Nat} (pre : List (Fin m)) (x : Fin m) : lastN n zs ros home frm (pre ++ [x]) = nowT n zs ros home frm (x.val + 1) := by simp [lastN]
theorem last_all {m : Nat} (ys : List (Fin m)) (h : ys.map Fin.val = List.range m) : (m = 0 /\ ys = []) ∨ ∃ (pre : List (Fin m)) (x : Fin m), ys = pre ++ [x] /\ x.val + 1 = m := by
 rcases List.eq_nil_or_concat ys with rfl | ⟨pre, x, rfl⟩
 · left
   have := congrArg List.length h
   simp at this
   exact ⟨this.symm, rfl⟩
 · right
   refine ⟨pre, x, by simp, ?_⟩
   have hl := congrArg List.length h
   have h2 := congrArg List.getLast? h
   simp at hl h2
   obtain ⟨k, rfl⟩ : ∃ k, m = k + 1 := ⟨m - 1, by omega⟩
   rw [List.range_succ] at h2
   simp at h2
   omega
theorem lastP_all (ros : List Int) (home : Int) {m : Nat} (ys : List (Fin m)) (h : ys.map Fin.val = List.range m) : lastP ros home ys = plc ros home m := by
 rcases last_all ys h with ⟨rfl, rfl⟩ | ⟨pre, x, rfl, hx⟩
 · rfl
 · rw [lastP_snoc]
   have : plc ros home (x.val + 1) = og6 ros x.val 1 := rfl
   rw [<- this]
   exact congrArg (plc ros home) hx
theorem lastN_all (n : Int) (zs ros : List Int) (home frm : Int) {m : Nat} (ys : List (Fin m)) (h : ys.map Fin.val = List.range m) : lastN n zs ros home frm ys = nowT n zs ros home frm m := by
 rcases last_all ys h with ⟨rfl, rfl⟩ | ⟨pre, x, rfl, hx⟩
 · rfl
 · rw [lastN_snoc]
   exact congrArg (nowT n zs ros home frm) hx
def HomeAt (w W : World) (ts : Array Value) (bp bn : Nat) (pl nw : Int) : Prop :=
 Below w.heap.size w W /\ W.heap[w.heap.size]? = some (.cells ts 139 (0, 0)) /\ W.heap[bp]? = some (.cells #[.int .i64 pl] 2 (0, 0)) /\ W.heap[bn]? = some (.cells #[.int .i64 nw] 2 (0, 0)) /\ w.heap.size < bp /\ w.heap.size < bn /\ bp ≠ bn
theorem HomeAt.new1 (w : World) (ts : Array Value) (pl nw : Int) : HomeAt w (((w.alloc (.cells ts 139)).alloc (.cells #[.int .i64 pl] 2)).alloc (.cells #[.int .i64 nw] 2)) ts (w.heap.size + 1) (w.heap.size + 1 + 1) pl nw := by
 have h0 := heap_alloc2_old w (.cells ts 139) (.cells #[.int .i64 pl] 2)
 have h1 := heap_alloc2_new w (.cells ts 139) (.cells #[.int .i64 pl] 2)
 have h2 := heap_alloc_new ((w.alloc (.cells ts 139)).alloc (.cells #[.int .i64 pl] 2)) (.cells #[.int .i64 nw] 2)
 refine ⟨(((Below.refl _ _).alloc (Nat.le_refl _) _).alloc (by simp) _).alloc (by simp; omega) _, (heap_alloc_old _ _ (row_lt h0)).trans h0, (heap_alloc_old _ _ (row_lt h1)).trans h1, by simpa using h2, by omega, by omega, by omega⟩
theorem HomeAt.new2 (w : World) (ts : Array Value) (pl nw : Int) : HomeAt w (((w.alloc (.cells ts 139)).alloc (.cells #[.int .i64 nw] 2)).alloc (.cells #[.int .i64 pl] 2)) ts (w.heap.size + 1 + 1) (w.heap.size + 1) pl nw := by
 obtain ⟨h1, h2, h3, h4, _, _, _⟩ := HomeAt.new1 w ts nw pl
 exact ⟨h1, h2, h4, h3, by omega, by omega, by omega⟩
theorem HomeAt.below {w W W' : World} {ts : Array Value} {bp bn : Nat} {pl nw : Int} (h : HomeAt w W ts bp bn pl nw) (hb : Below W.heap.size W W') : HomeAt w W' ts bp bn pl nw :=
 ⟨h.1.trans (hb.mono h.1.size), below_row hb (row_lt h.2.1) h.2.1, below_row hb (row_lt h.2.2.1) h.2.2.1, below_row hb (row_lt h.2.2.2.1) h.2.2.2.1, h.2.2.2.2⟩
theorem HomeAt.set {w W : World} {ts : Array Value} {bp bn : Nat} {pl nw : Int} (h : HomeAt w W ts bp bn pl nw) (pl' nw' : Int) : HomeAt w (((W.setCell ⟨bp, 0, none⟩ (.int .i64 pl')).setCell ⟨bn, 0, none⟩ (.int .i64 nw')).drew) ts bp bn pl' nw' := by
 obtain ⟨h1, h2, h3, h4, h5, h6, h7⟩ := h
 exact ⟨((h1.setCell (by simp; omega) _).setCell (by simp; omega) _).drew, row_set' (row_set' h2 (by omega)) (by omega), row_set' (heap_setCell_same _ _ _ _ _ _ h3) h7, heap_setCell_same _ _ _ _ _ _ (row_set' h4 (fun e => h7 e.symm)), h5, h6, h7⟩
theorem HomeAt.own {β : Type} (w : World) (ts : Array Value) (bp bn : Nat) (pl nw : β -> Int) (B : Nat) (hB : w.heap.size <= B) : OwnFrom B (fun s W => HomeAt w W ts bp bn (pl s) (nw s)) := fun s W W' row hs hg hr =>
 ⟨ownFrom_below (Nat.le_refl _) hB () W W' row hs.1 hg hr, row_own (cs := fun _ : Unit => ts) () W W' row hs.2.1 hg hr, row_own (cs := fun _ : Unit => #[.int .i64 (pl s)]) () W W' row hs.2.2.1 hg hr, row_own (cs := fun _ : Unit => #[.int .i64 (nw s)]) () W W' row hs.2.2.2.1 hg hr, hs.2.2.2.2⟩
set_option maxRecDepth 100000 in
set_option maxHeartbeats 2000000 in
theorem home_any (n v0 home v2 frm to : Int) (a ar : Option Addr) (cap m cr : Nat) (zs ros : List Int) (w : World) (hm : matB n zs = true) (hA : IntsAt w a zs) (hR : IntsAt w ar ros) (hl : ros.length = m * 6) (hbd : RosBd n ros m) (hh : 0 <= home /\ home < n) (hf : 0 <= frm /\ frm <= 1000000) (hm12 : m <= 12) :
 Calls Tryz.prog 174 #[.agg #[.int .i64 n, .slice a zs.length cap, .int .i64 v0, .int .i64 home, .int .i64 v2, .int .i64 frm, .int .i64 to, .slice ar m cr]] w fun e w' => e = .returned (.int .i64 (homeV n zs ros m home frm)) /\ Below w.heap.size w w' := by
 have HM : Hid _ := hm
 have HA : Hid (IntsAt w a zs) := hA
 have HR : Hid (IntsAt w ar ros) := hR
 have HL : Hid _ := hl
 have HBD : Hid (RosBd n ros m) := hbd
 have HH : Hid _ := hh
 have HF : Hid _ := hf
 have HP0 : Hid ((w.alloc (Obj.cells #[Value.int .i64 n, Value.slice a zs.length cap, Value.int .i64 v0, Value.int .i64 home, Value.int .i64 v2, Value.int .i64 frm, Value.int .i64 to, Value.slice ar m cr] 139)).heap[w.heap.size]? = _) := heap_alloc_new _ _
 have HB0 : Hid (Below w.heap.size w (w.alloc (Obj.cells #[Value.int .i64 n, Value.slice a zs.length cap, Value.int .i64 v0, Value.int .i64 home, Value.int .i64 v2, Value.int .i64 frm, Value.int .i64 to, Value.slice ar m cr] 139))) := (Below.refl _ _).alloc (Nat.le_refl _) _
 clear hm hA hR hl hbd hh hf
 refine (callsIn_wide (n := 3)).1 ?_
 refine callsIn_of_wp_marks Tryz.func174 rfl trivial ?_ rfl
 simp only [Tryz.ntmps174, List.size_toArray, List.length_cons, List.length_nil, Nat.reduceAdd, Nat.reduceSub, Array.replicate_succ, Array.replicate_zero, List.push_toArray, List.append_toArray, List.nil_append, List.cons_append]
 refine wpIn_wide.2 ?_
 obtain ⟨t0, t1, t2, t3, t4, t5, t6, t7⟩ := cells8 HP0.out
 go_wp2_with fail
 rename_i Kx hKx
 have key : ∀ (bp bn : Nat) (W1 : World), Hid (HomeAt w W1 #[Value.int .i64 n, Value.slice a zs.length cap, Value.int .i64 v0, Value.int .i64 home, Value.int .i64 v2, Value.int .i64 frm, Value.int .i64 to, Value.slice ar m cr] bp bn home frm) -> Kx { tmps := #[.agg #[.int .i64 n, .slice a zs.length cap, .int .i64 v0, .int .i64 home, .int .i64 v2, .int .i64 frm, .int .i64 to, .slice ar m cr], .pointer (some ⟨w.heap.size, 0, none⟩), .int .i64 0, .pointer (some ⟨bp, 0, none⟩), .pointer (some ⟨bn, 0, none⟩), undef, undef, .pointer (some ⟨w.heap.size, 2, none⟩), .pointer (some ⟨w.heap.size, 3, none⟩), .int .i64 home, .pointer (some ⟨w.heap.size, 2, none⟩), .pointer (some ⟨w.heap.size, 5, none⟩), .int .i64 frm, undef, undef, undef, undef, undef, undef, undef, undef, undef, undef, undef, undef, undef, undef, undef, undef], defers := [] } W1 := by
  clear t0 t1 t2 t3 t4 t5 t6 t7 HP0 HB0
  intro bp bn W1 HX
  apply hKx
  obtain ⟨t0, t1, t2, t3, t4, t5, t6, t7⟩ := cells8 HX.2.1
  go_wp2_with fail
  clear t0 t1 t2 t3 t4 t5 t6 t7
  refine (visits_any n v0 home v2 frm to a ar cap m cr zs W1).mono ?_
  rintro e w2 ⟨rfl, rfl⟩
  have HX2 : Hid (HomeAt w (W1.alloc (.cells #[Value.int .i64 n, Value.slice a zs.length cap, Value.int .i64 v0, Value.int .i64 home, Value.int .i64 v2, Value.int .i64 frm, Value.int .i64 to, Value.slice ar m cr] 139)) #[Value.int .i64 n, Value.slice a zs.length cap, Value.int .i64 v0, Value.int .i64 home, Value.int .i64 v2, Value.int .i64 frm, Value.int .i64 to, Value.slice ar m cr] bp bn home frm) := HX.below ((Below.refl _ _).alloc (Nat.le_refl _) _)
  have HT2 : Hid ((W1.alloc (.cells #[Value.int .i64 n, Value.slice a zs.length cap, Value.int .i64 v0, Value.int .i64 home, Value.int .i64 v2, Value.int .i64 frm, Value.int .i64 to, Value.slice ar m cr] 139)).heap[W1.heap.size]? = some (.cells #[Value.int .i64 n, Value.slice a zs.length cap, Value.int .i64 v0, Value.int .i64 home, Value.int .i64 v2, Value.int .i64 frm, Value.int .i64 to, Value.slice ar m cr] 139 (0, 0))) := heap_alloc_new _ _
  have HS1 : Hid (w.heap.size < W1.heap.size /\ bp < W1.heap.size /\ bn < W1.heap.size) := ⟨row_lt HX.2.1, row_lt HX.2.2.1, row_lt HX.2.2.2.1⟩
  go_wp2_with fail
  refine (wpIn_wide (n := 3)).1 ?_
  refine wpIn_rangeFunc_ownH rfl (by omega) (gf := 201) (lb := #[.pointer (some ⟨W1.heap.size, 0, none⟩)]) rfl trivial (enters_of Tryz.func201 (by kernel_rfl) rfl)
   (visits_stops 2 (by omega) W1.heap.size w.heap.size n v0 home v2 frm to a ar cap m cr zs ros w _ (Nat.le_refl _) HX2.1 HT2.out HM.out HA.out HR.out HL.out HBD.out HH.out HF.out hm12)
   KpT.trans (KpT.putObj rfl HX2.1.size) (Below.refl _ _) (fun _ => rfl)
   (fun pre W => HomeAt w W #[Value.int .i64 n, Value.slice a zs.length cap, Value.int .i64 v0, Value.int .i64 home, Value.int .i64 v2, Value.int .i64 frm, Value.int .i64 to, Value.slice ar m cr] bp bn (lastP ros home pre) (lastN n zs ros home frm pre) /\ W1.heap.size < W.heap.size)
   (fun _ _ _ => False)
   (OwnFrom.and (HomeAt.own w _ bp bn _ _ _ HX2.1.size) (fun _ _ _ _ hs hg _ => Nat.lt_of_lt_of_le hs hg.size))
   (fun _ _ _ _ _ hs _ _ => hs)
   ⟨HX2.out, by simp⟩
   (fun x a' W => ∃ Bo Bv, W1.heap.size < Bo /\ W1.heap.size < Bv /\ W.heap[Bo]? = some (.cells #[.int .i64 (og6 ros x.val 0), .int .i64 (og6 ros x.val 1), .int .i64 (og6 ros x.val 2), .int .i64 (og6 ros x.val 3), .int .i64 (og6 ros x.val 4), .int .i64 (og6 ros x.val 5)] 146 (0, 0)) /\ W.heap[Bv]? = some (.cells #[.int .i64 (og6 ros x.val 0), .int .i64 (arrV n zs ros home frm x.val), .int .i64 (startV n zs ros home frm x.val), .int .i64 (nowT n zs ros home frm (x.val + 1))] 234 (0, 0)) /\ a' = { tmps := #[.agg #[.int .i64 n, .slice a zs.length cap, .int .i64 v0, .int .i64 home, .int .i64 v2, .int .i64 frm, .int .i64 to, .slice ar m cr], .pointer (some ⟨w.heap.size, 0, none⟩), .int .i64 0, .pointer (some ⟨bp, 0, none⟩), .pointer (some ⟨bn, 0, none⟩), .pointer (some ⟨Bo, 0, none⟩), .pointer (some ⟨Bv, 0, none⟩), .pointer (some ⟨w.heap.size, 2, none⟩), .pointer (some ⟨w.heap.size, 3, none⟩), .int .i64 home, .pointer (some ⟨w.heap.size, 2, none⟩), .pointer (some ⟨w.heap.size, 5, none⟩), .int .i64 frm, .agg #[.int .i64 n, .slice a zs.length cap, .int .i64 v0, .int .i64 home, .int .i64 v2, .int .i64 frm, .int .i64 to, .slice ar m cr], .func (.func 201) #[] #[.pointer (some ⟨W1.heap.size, 0, none⟩)], .agg #[.int .i64 (og6 ros x.val 0), .int .i64 (og6 ros x.val 1), .int .i64 (og6 ros x.val 2), .int .i64 (og6 ros x.val 3), .int .i64 (og6 ros x.val 4), .int .i64 (og6 ros x.val 5)], .agg #[.int .i64 (og6 ros x.val 0), .int .i64 (arrV n zs ros home frm x.val), .int .i64 (startV n zs ros home frm x.val), .int .i64 (nowT n zs ros home frm (x.val + 1))], undef, undef, undef, undef, undef, undef, undef, undef, undef, undef, undef, undef], defers := [] })
   (fun x a' _ X Y row hs hg hr => by
     obtain ⟨Bo, Bv, g1, g2, g3, g4, g5⟩ := hs
     exact ⟨Bo, Bv, g1, g2, row_own (cs := fun _ : Unit => _) () X Y row g3 hg hr, row_own (cs := fun _ : Unit => _) () X Y row g4 hg hr, g5⟩)
   ?assign ?body ?done ?stop
  case assign =>
   rintro l pre x W K ⟨hi, hsz⟩ hK
   gi_wp2
   refine hK _ _ (((KeepsOthers.alloc _ _).trans (KeepsOthers.alloc _ _)).from _) ((KpT.alloc _ _ hi.1.size).trans (KpT.alloc _ _ (Nat.le_trans hi.1.size (by simp)))) ⟨(hi.below ((Below.refl _ _).alloc (Nat.le_refl _) _)).below ((Below.refl _ _).alloc (Nat.le_refl _) _), by simp; omega⟩ ⟨W.heap.size, W.heap.size + 1, hsz, by omega, ?_, ?_, rfl⟩
   · exact heap_alloc2_old _ _ _
   · exact heap_alloc2_new _ _ _
  case body =>
   rintro l pre x a' W hl hlr ⟨hi, hsz⟩ ⟨Bo, Bv, g1, g2, g3, g4, rfl⟩ hlt
   have HI : Hid (HomeAt w W _ _ _ _ _) := hi
   have HS1' := HS1.out
   have hne := hi.2.2.2.2
   obtain ⟨i0, i1, i2, i3, i4, i5⟩ := cells6 g3
   have j3 : W.cell? ⟨Bv, 3, none⟩ = some (.int .i64 (nowT n zs ros home frm (x.val + 1))) := by rw [cell_of_row _ _ 3 _ _ _ g4]; simp
   have cp : W.cell? ⟨bp, 0, none⟩ = some (.int .i64 (lastP ros home pre)) := by rw [cell_of_row _ _ 0 _ _ _ hi.2.2.1]; simp
   have cn : W.cell? ⟨bn, 0, none⟩ = some (.int .i64 (lastN n zs ros home frm pre)) := by rw [cell_of_row _ _ 0 _ _ _ hi.2.2.2.1]; simp
   have fp := fun i => frozen_of_row _ _ i _ _ hi.2.2.1
   have fn := fun i => frozen_of_row _ _ i _ _ hi.2.2.2.1
   obtain ⟨xo, HXO⟩ := nmd (og6 ros x.val 1)
   obtain ⟨xn, HXN⟩ := nmd (nowT n zs ros home frm (x.val + 1))
   have HFIN : Hid (KeepsFrom (W1.alloc (.cells #[Value.int .i64 n, Value.slice a zs.length cap, Value.int .i64 v0, Value.int .i64 home, Value.int .i64 v2, Value.int .i64 frm, Value.int .i64 to, Value.slice ar m cr] 139)).heap.size W (((W.setCell ⟨bp, 0, none⟩ (Value.int .i64 (og6 ros x.val 1))).setCell ⟨bn, 0, none⟩ (Value.int .i64 (nowT n zs ros home frm (x.val + 1)))).drew) /\ KpT w.heap.size W1.heap.size (.cells #[Value.int .i64 n, Value.slice a zs.length cap, Value.int .i64 v0, Value.int .i64 home, Value.int .i64 v2, Value.int .i64 frm, Value.int .i64 to, Value.slice ar m cr] 139 (0, 0)) W (((W.setCell ⟨bp, 0, none⟩ (Value.int .i64 (og6 ros x.val 1))).setCell ⟨bn, 0, none⟩ (Value.int .i64 (nowT n zs ros home frm (x.val + 1)))).drew) /\ (HomeAt w (((W.setCell ⟨bp, 0, none⟩ (Value.int .i64 (og6 ros x.val 1))).setCell ⟨bn, 0, none⟩ (Value.int .i64 (nowT n zs ros home frm (x.val + 1)))).drew) #[Value.int .i64 n, Value.slice a zs.length cap, Value.int .i64 v0, Value.int .i64 home, Value.int .i64 v2, Value.int .i64 frm, Value.int .i64 to, Value.slice ar m cr] bp bn (lastP ros home (pre ++ [x])) (lastN n zs ros home frm (pre ++ [x])) /\ W1.heap.size < (((W.setCell ⟨bp, 0, none⟩ (Value.int .i64 (og6 ros x.val 1))).setCell ⟨bn, 0, none⟩ (Value.int .i64 (nowT n zs ros home frm (x.val + 1)))).drew).heap.size)) := by
    refine ⟨(((KeepsOthers.setCell _ _ _).trans (KeepsOthers.setCell _ _ _)).trans (KeepsOthers.drew _)).from _, ?_, ?_, ?_⟩
    · exact ((KpT.set _ _ _ _ (by omega) (by omega)).trans (KpT.set _ _ _ _ (by omega) (by omega))).trans ⟨(Below.refl _ _).drew, fun h => h⟩
    · rw [lastP_snoc, lastN_snoc]
      exact HI.set _ _
    · simpa [World.setCell] using hsz
   clear hi g3 g4 i0 i2 i3 i4 i5 HI
   rw [HXO.out] at i1 HFIN
   rw [HXN.out] at j3 HFIN
   gi_wp2
   rename_i Q1 K1 hK1 Q2
   rw [HXO.out, HXN.out]
   clear hK1 hKx
   clear K1 Kx HXO HXN
   generalize Value.agg #[Value.int .i64 n, Value.slice a zs.length cap, Value.int .i64 v0, Value.int .i64 home, Value.int .i64 v2, Value.int .i64 frm, Value.int .i64 to, Value.slice ar m cr] = A0
   generalize Value.func (Fn.func 201) #[] #[Value.pointer (some ⟨W1.heap.size, 0, none⟩)] = A14
   generalize Value.agg #[Value.int .i64 (og6 ros x.val 0), Value.int .i64 xo, Value.int .i64 (og6 ros x.val 2), Value.int .i64 (og6 ros x.val 3), Value.int .i64 (og6 ros x.val 4), Value.int .i64 (og6 ros x.val 5)] = A15
   generalize Value.agg #[Value.int .i64 (og6 ros x.val 0), Value.int .i64 (arrV n zs ros home frm x.val), Value.int .i64 (startV n zs ros home frm x.val), Value.int .i64 xn] = A16
   have hmx : Tryz.prog.follows .mixedOrders = true := by kernel_rfl
   gi_region_o
   all_goals exact HFIN.out
  case done =>
   rintro D ys W hD hS ⟨hi, hsz⟩ hK
   rw [lastP_all _ _ _ hS, lastN_all _ _ _ _ _ _ hS] at hi
   have HI : Hid (HomeAt w W _ _ _ _ _) := hi
   have HK : Hid _ := hK
   have HD : Hid _ := Nat.le_trans HX2.1.size hD
   have hpl := plc_bd HBD.out HH.1 HH.2 m (Nat.le_refl _)
   have hnw := nowT_bd (home := home) HM.out HBD.out HF.out m (Nat.le_refl _)
   obtain ⟨p, HPL⟩ := nmd (plc ros home m)
   obtain ⟨f, HFR⟩ := nmd (nowT n zs ros home frm m)
   obtain ⟨d, HDD⟩ := nmd (tmI n zs p home)
   have hdb := tmI_bd HM.out p home
   rw [HDD.out] at hdb
   rw [HPL.out] at hpl HI
   rw [HFR.out] at hnw HI
   have HPB : Hid _ := hpl
   have HV : Hid (homeV n zs ros m home frm = f + d) := by
    show _ = _
    unfold homeV
    rw [HFR.out, HPL.out, HDD.out]
   have cp : W.cell? ⟨bp, 0, none⟩ = some (.int .i64 p) := by rw [cell_of_row _ _ 0 _ _ _ HI.2.2.1]; simp
   have cn : W.cell? ⟨bn, 0, none⟩ = some (.int .i64 f) := by rw [cell_of_row _ _ 0 _ _ _ HI.2.2.2.1]; simp
   obtain ⟨t0, t1, t2, t3, t4, t5, t6, t7⟩ := cells8 HI.2.1
   clear hi hK hD hS hsz hpl
   go_wp2_with fail
   have e0 := fun s : Kin W => s.cell t0
   have e1 := fun s : Kin W => s.cell t1
   have e2 := fun s : Kin W => s.cell t2
   have e3 := fun s : Kin W => s.cell t3
   have e4 := fun s : Kin W => s.cell t4
   have e5 := fun s : Kin W => s.cell t5
   have e6 := fun s : Kin W => s.cell t6
   have e7 := fun s : Kin W => s.cell t7
   have ep := fun s : Kin W => s.cell cp
   have en := fun s : Kin W => s.cell cn
   have hkin := Kin.there W
   refine wp_region_kin (by kernel_rfl) (by kernel_rfl) ?_
   repeat (go_big_quiet_step ((first
    | (go_at_call 143; exact Kin.call (drive_is n p home v0 home v2 frm to _ _ _ _ _ zs _ d HDD.out HM.out HPB.out HH.out ((HA.below HI.1).below (Kin.below _)))))))
   refine wpQuiet_nil ?_
   rintro _ ⟨s, rfl⟩
   have HB2 : Hid _ := HI.1.trans (s.below.mono HI.1.size)
   have HK2 : Hid _ := below_row s.below (Array.getElem?_eq_some_iff.1 HK.out).1 HK.out
   clear t0 t1 t2 t3 t4 t5 t6 t7 e0 e1 e2 e3 e4 e5 e6 e7 ep en hkin cp cn
   generalize s.w = W2 at *
   go_wp2
   rw [HV.out]
   refine ⟨by simp, .inl ⟨_, _, rfl, run_takeDeferred HK2.out, ?_⟩⟩
   exact ⟨_, results_tmp rfl _ _ _, rfl, HB2.trans (belowK_b (w := w) (Nat.le_refl _) W2 D _ _ HD.out HK2.out rfl rfl)⟩
  case stop =>
   rintro D c pre W _ _ h _
   exact h.elim
 go_region
 all_goals (first
  | (with_reducible show Exit.then _ _ Exit.normal _ (((w.alloc (Obj.cells #[Value.int .i64 n, Value.slice a zs.length cap, Value.int .i64 v0, Value.int .i64 home, Value.int .i64 v2, Value.int .i64 frm, Value.int .i64 to, Value.slice ar m cr] 139)).alloc (Obj.cells #[Value.int .i64 home] 2)).alloc (Obj.cells #[Value.int .i64 frm] 2)).drew
     exact key (w.heap.size + 1) (w.heap.size + 1 + 1) _ ((HomeAt.new1 w _ home frm).below (Below.refl _ _).drew))
  | (with_reducible show Exit.then _ _ Exit.normal _ (((w.alloc (Obj.cells #[Value.int .i64 n, Value.slice a zs.length cap, Value.int .i64 v0, Value.int .i64 home, Value.int .i64 v2, Value.int .i64 frm, Value.int .i64 to, Value.slice ar m cr] 139)).alloc (Obj.cells #[Value.int .i64 frm] 2)).alloc (Obj.cells #[Value.int .i64 home] 2)).drew
     exact key (w.heap.size + 1 + 1) (w.heap.size + 1) _ ((HomeAt.new2 w _ home frm).below (Below.refl _ _).drew)))
attribute [local go_sem] Oper.semAt_some
def HoursAt (w W : World) (ts : Array Value) (c : Int) : Prop :=
 Below w.heap.size w W /\ W.heap[w.heap.size]? = some (.cells ts 139 (0, 0)) /\ W.heap[w.heap.size + 1]? = some (.cells #[.int .i64 c] 2 (0, 0))
theorem HoursAt.new (w : World) (ts : Array Value) (c : Int) : HoursAt w ((w.alloc (.cells ts 139)).alloc (.cells #[.int .i64 c] 2)) ts c :=
 ⟨((Below.refl _ _).alloc (Nat.le_refl _) _).alloc (by simp) _, heap_alloc2_old _ _ _, heap_alloc2_new _ _ _⟩
theorem HoursAt.below {w W W' : World} {ts : Array Value} {c : Int} (h : HoursAt w W ts c) (hb : Below W.heap.size W W') : HoursAt w W' ts c :=
 ⟨h.1.trans (hb.mono h.1.size), below_row hb (row_lt h.2.1) h.2.1, below_row hb (row_lt h.2.2) h.2.2⟩
theorem HoursAt.set {w W : World} {ts : Array Value} {c : Int} (h : HoursAt w W ts c) (c' : Int) : HoursAt w (W.setCell ⟨w.heap.size + 1, 0, none⟩ (.int .i64 c')) ts c' :=
 ⟨h.1.setCell (by simp) _, row_set' h.2.1 (by omega), heap_setCell_same _ _ _ _ _ _ h.2.2⟩
theorem HoursAt.own {β : Type} (w : World) (ts : Array Value) (c : Int) (B : Nat) (hB : w.heap.size <= B) : OwnFrom B (fun (_ : β) W => HoursAt w W ts c) := fun _ W W' row hs hg hr =>
 ⟨ownFrom_below (Nat.le_refl _) hB () W W' row hs.1 hg hr, row_own (cs := fun _ : Unit => ts) () W W' row hs.2.1 hg hr, row_own (cs := fun _ : Unit => #[.int .i64 c]) () W W' row hs.2.2 hg hr⟩
theorem home_is (n v0 home v2 frm to : Int) (a ar : Option Addr) (cap m cr : Nat) (zs ros : List Int) (w : World) (d : Int) (hd : homeV n zs ros m home frm = d) (hm : matB n zs = true) (hA : IntsAt w a zs) (hR : IntsAt w ar ros) (hl : ros.length = m * 6) (hbd : RosBd n ros m) (hh : 0 <= home /\ home < n) (hf : 0 <= frm /\ frm <= 1000000) (hm12 : m <= 12) :
 Calls Tryz.prog 174 #[.agg #[.int .i64 n, .slice a zs.length cap, .int .i64 v0, .int .i64 home, .int .i64 v2, .int .i64 frm, .int .i64 to, .slice ar m cr]] w fun e w' => e = .returned (.int .i64 d) /\ Below w.heap.size w w' := hd ▸ home_any n v0 home v2 frm to a ar cap m cr zs ros w hm hA hR hl hbd hh hf hm12
theorem all_in {m : Nat} {ys : List (Fin m)} {k : Nat} (h : ys.map Fin.val = List.range k) {j : Nat} (hj : j < k) : ∃ x, x ∈ ys /\ x.val = j := by
 have : j ∈ ys.map Fin.val := by rw [h]; simpa using hj
 simpa using this
set_option maxRecDepth 100000 in
set_option maxHeartbeats 2000000 in
theorem hoursCode_any (n v0 home v2 frm to : Int) (a ar : Option Addr) (cap m cr : Nat) (zs ros : List Int) (w : World) (hm : matB n zs = true) (hA : IntsAt w a zs) (hR : IntsAt w ar ros) (hl : ros.length = m * 6) (hbd : RosBd n ros m) (hh : 0 <= home /\ home < n) (hf : 0 <= frm /\ frm <= 1000000) (hm12 : m <= 12) :
 Calls Tryz.prog 142 #[.agg #[.int .i64 n, .slice a zs.length cap, .int .i64 v0, .int .i64 home, .int .i64 v2, .int .i64 frm, .int .i64 to, .slice ar m cr]] w fun e w' => e = .returned (.int .i64 (hoursV n zs ros m home frm to)) /\ Below w.heap.size w w' := by
 have HM : Hid _ := hm
 have HA : Hid (IntsAt w a zs) := hA
 have HR : Hid (IntsAt w ar ros) := hR
 have HL : Hid _ := hl
 have HBD : Hid (RosBd n ros m) := hbd
 have HH : Hid _ := hh
 have HF : Hid _ := hf
 have HX : Hid (HoursAt w ((w.alloc (Obj.cells #[Value.int .i64 n, Value.slice a zs.length cap, Value.int .i64 v0, Value.int .i64 home, Value.int .i64 v2, Value.int .i64 frm, Value.int .i64 to, Value.slice ar m cr] 139)).alloc (Obj.cells #[Value.int .i64 0] 2)) #[Value.int .i64 n, Value.slice a zs.length cap, Value.int .i64 v0, Value.int .i64 home, Value.int .i64 v2, Value.int .i64 frm, Value.int .i64 to, Value.slice ar m cr] 0) := HoursAt.new w _ 0
 clear hm hA hR hl hbd hh hf
 obtain ⟨r, HV⟩ := nmd (hoursV n zs ros m home frm to)
 rw [HV.out]
 refine (callsIn_wide (n := 3)).1 ?_
 refine callsIn_of_wp_marks Tryz.func142 rfl trivial ?_ rfl
 simp only [Tryz.ntmps142, List.size_toArray, List.length_cons, List.length_nil, Nat.reduceAdd, Nat.reduceSub, Array.replicate_succ, Array.replicate_zero, List.push_toArray, List.append_toArray, List.nil_append, List.cons_append]
 refine wpIn_wide.2 ?_
 obtain ⟨t0, t1, t2, t3, t4, t5, t6, t7⟩ := cells8 HX.2.1
 go_wp2_with fail
 clear t0 t1 t2 t3 t4 t5 t6 t7
 have HZ : Hid _ := row_lt HX.2.2
 generalize ((w.alloc (Obj.cells #[Value.int .i64 n, Value.slice a zs.length cap, Value.int .i64 v0, Value.int .i64 home, Value.int .i64 v2, Value.int .i64 frm, Value.int .i64 to, Value.slice ar m cr] 139)).alloc (Obj.cells #[Value.int .i64 0] 2)) = W1 at *
 refine (visits_any n v0 home v2 frm to a ar cap m cr zs W1).mono ?_
 rintro e w2 ⟨rfl, rfl⟩
 have HX2 : Hid (HoursAt w (W1.alloc (.cells #[Value.int .i64 n, Value.slice a zs.length cap, Value.int .i64 v0, Value.int .i64 home, Value.int .i64 v2, Value.int .i64 frm, Value.int .i64 to, Value.slice ar m cr] 139)) #[Value.int .i64 n, Value.slice a zs.length cap, Value.int .i64 v0, Value.int .i64 home, Value.int .i64 v2, Value.int .i64 frm, Value.int .i64 to, Value.slice ar m cr] 0) := HX.below ((Below.refl _ _).alloc (Nat.le_refl _) _)
 have HT2 : Hid ((W1.alloc (.cells #[Value.int .i64 n, Value.slice a zs.length cap, Value.int .i64 v0, Value.int .i64 home, Value.int .i64 v2, Value.int .i64 frm, Value.int .i64 to, Value.slice ar m cr] 139)).heap[W1.heap.size]? = some (.cells #[Value.int .i64 n, Value.slice a zs.length cap, Value.int .i64 v0, Value.int .i64 home, Value.int .i64 v2, Value.int .i64 frm, Value.int .i64 to, Value.slice ar m cr] 139 (0, 0))) := heap_alloc_new _ _
 go_wp2_with fail
 refine (wpIn_wide (n := 3)).1 ?_
 refine wpIn_rangeFunc_ownH rfl (by omega) (gf := 201) (lb := #[.pointer (some ⟨W1.heap.size, 0, none⟩)]) rfl trivial (enters_of Tryz.func201 (by kernel_rfl) rfl)
  (visits_stops 2 (by omega) W1.heap.size w.heap.size n v0 home v2 frm to a ar cap m cr zs ros w _ (Nat.le_refl _) HX2.1 HT2.out HM.out HA.out HR.out HL.out HBD.out HH.out HF.out hm12)
  KpT.trans (KpT.putObj rfl HX2.1.size) (Below.refl _ _) (fun _ => rfl)
  (fun pre W => (HoursAt w W #[Value.int .i64 n, Value.slice a zs.length cap, Value.int .i64 v0, Value.int .i64 home, Value.int .i64 v2, Value.int .i64 frm, Value.int .i64 to, Value.slice ar m cr] 0 /\ W1.heap.size < W.heap.size) /\ ∀ x ∈ pre, startV n zs ros home frm x.val <= og6 ros x.val 4)
  (fun c pre W => (HoursAt w W #[Value.int .i64 n, Value.slice a zs.length cap, Value.int .i64 v0, Value.int .i64 home, Value.int .i64 v2, Value.int .i64 frm, Value.int .i64 to, Value.slice ar m cr] 5 /\ c = .ret) /\ ∃ x ∈ pre, og6 ros x.val 4 < startV n zs ros home frm x.val)
  (OwnFrom.and (OwnFrom.and (HoursAt.own w _ 0 _ HX2.1.size) (fun _ _ _ _ hs hg _ => Nat.lt_of_lt_of_le hs hg.size)) (ownFrom_pure _ _))
  (fun c => OwnFrom.and (OwnFrom.and (HoursAt.own w _ 5 _ HX2.1.size) (ownFrom_pure _ _)) (ownFrom_pure _ _))
  ⟨⟨HX2.out, by simp⟩, fun x hx => by cases hx⟩
  (fun x a' W => ∃ Bo Bv, W1.heap.size < Bo /\ W1.heap.size < Bv /\ W.heap[Bo]? = some (.cells #[.int .i64 (og6 ros x.val 0), .int .i64 (og6 ros x.val 1), .int .i64 (og6 ros x.val 2), .int .i64 (og6 ros x.val 3), .int .i64 (og6 ros x.val 4), .int .i64 (og6 ros x.val 5)] 146 (0, 0)) /\ W.heap[Bv]? = some (.cells #[.int .i64 (og6 ros x.val 0), .int .i64 (arrV n zs ros home frm x.val), .int .i64 (startV n zs ros home frm x.val), .int .i64 (nowT n zs ros home frm (x.val + 1))] 234 (0, 0)) /\ a' = { tmps := #[.agg #[.int .i64 n, .slice a zs.length cap, .int .i64 v0, .int .i64 home, .int .i64 v2, .int .i64 frm, .int .i64 to, .slice ar m cr], .pointer (some ⟨w.heap.size, 0, none⟩), .pointer (some ⟨w.heap.size + 1, 0, none⟩), .pointer (some ⟨Bo, 0, none⟩), .pointer (some ⟨Bv, 0, none⟩), .agg #[.int .i64 n, .slice a zs.length cap, .int .i64 v0, .int .i64 home, .int .i64 v2, .int .i64 frm, .int .i64 to, .slice ar m cr], .func (.func 201) #[] #[.pointer (some ⟨W1.heap.size, 0, none⟩)], .agg #[.int .i64 (og6 ros x.val 0), .int .i64 (og6 ros x.val 1), .int .i64 (og6 ros x.val 2), .int .i64 (og6 ros x.val 3), .int .i64 (og6 ros x.val 4), .int .i64 (og6 ros x.val 5)], .agg #[.int .i64 (og6 ros x.val 0), .int .i64 (arrV n zs ros home frm x.val), .int .i64 (startV n zs ros home frm x.val), .int .i64 (nowT n zs ros home frm (x.val + 1))], undef, undef, undef, undef, undef, undef, undef, undef, undef, undef, undef], defers := [] })
  (fun x a' _ X Y row hs hg hr => by
    obtain ⟨Bo, Bv, g1, g2, g3, g4, g5⟩ := hs
    exact ⟨Bo, Bv, g1, g2, row_own (cs := fun _ : Unit => _) () X Y row g3 hg hr, row_own (cs := fun _ : Unit => _) () X Y row g4 hg hr, g5⟩)
  ?assign ?body ?done ?stop
 case assign =>
  rintro l pre x W K ⟨⟨hi, hsz⟩, hp⟩ hK
  gi_wp2
  refine hK _ _ (((KeepsOthers.alloc _ _).trans (KeepsOthers.alloc _ _)).from _) ((KpT.alloc _ _ hi.1.size).trans (KpT.alloc _ _ (Nat.le_trans hi.1.size (by simp)))) ⟨⟨(hi.below ((Below.refl _ _).alloc (Nat.le_refl _) _)).below ((Below.refl _ _).alloc (Nat.le_refl _) _), by simp; omega⟩, hp⟩ ⟨W.heap.size, W.heap.size + 1, hsz, by omega, ?_, ?_, rfl⟩
  · exact heap_alloc2_old _ _ _
  · exact heap_alloc2_new _ _ _
 case body =>
  rintro l pre x a' W hl hlr ⟨⟨hi, hsz⟩, hp⟩ ⟨Bo, Bv, g1, g2, g3, g4, rfl⟩ hlt
  have HI : Hid (HoursAt w W _ _) := hi
  have HP : Hid _ := hp
  obtain ⟨i0, i1, i2, i3, i4, i5⟩ := cells6 g3
  have j2 : W.cell? ⟨Bv, 2, none⟩ = some (.int .i64 (startV n zs ros home frm x.val)) := by rw [cell_of_row _ _ 2 _ _ _ g4]; simp
  have cc : W.cell? ⟨w.heap.size + 1, 0, none⟩ = some (.int .i64 0) := by rw [cell_of_row _ _ 0 _ _ _ hi.2.2]; simp
  have fc := fun i => frozen_of_row _ _ i _ _ hi.2.2
  clear hi hp g3 g4 i0 i1 i2 i3 i5
  by_cases hlate : og6 ros x.val 4 < startV n zs ros home frm x.val
  · have HLT : Hid _ := hlate
    gi_wp2
    exact ⟨(KeepsOthers.setCell _ _ _).from _, ⟨HI.set 5, rfl⟩, x, by simp, HLT.out⟩
  · have hle : startV n zs ros home frm x.val <= og6 ros x.val 4 := by omega
    have HLE : Hid _ := hle
    clear hlate
    gi_wp2
    refine ⟨KeepsFrom.refl _ _, ⟨Below.refl _ _, fun h => h⟩, ⟨HI.out, hsz⟩, fun y hy => ?_⟩
    rcases List.mem_append.1 hy with h | h
    · exact HP.out y h
    · obtain rfl : y = x := by simpa using h
      exact HLE.out
 case done =>
  rintro D ys W hD hS ⟨⟨hi, hsz⟩, hp⟩ hK
  have HI : Hid (HoursAt w W _ _) := hi
  have HK : Hid _ := hK
  have HD : Hid _ := Nat.lt_of_lt_of_le (Nat.lt_trans HZ.out (by simp)) hD
  have HTM : Hid (timelyTo n zs ros home frm m) := fun j hj => by
   obtain ⟨x, hx, rfl⟩ := all_in hS hj
   exact hp x hx
  obtain ⟨t0, t1, t2, t3, t4, t5, t6, t7⟩ := cells8 HI.2.1
  clear hi hK hD hS hsz hp
  obtain ⟨d, HDD⟩ := nmd (homeV n zs ros m home frm)
  go_wp2_with fail
  have e0 := fun s : Kin W => s.cell t0
  have e1 := fun s : Kin W => s.cell t1
  have e2 := fun s : Kin W => s.cell t2
  have e3 := fun s : Kin W => s.cell t3
  have e4 := fun s : Kin W => s.cell t4
  have e5 := fun s : Kin W => s.cell t5
  have e6 := fun s : Kin W => s.cell t6
  have e7 := fun s : Kin W => s.cell t7
  have hkin := Kin.there W
  refine wp_region_kin (by kernel_rfl) (by kernel_rfl) ?_
  repeat (go_big_quiet_step ((first
   | (go_at_call 174; exact Kin.call (home_is n v0 home v2 frm to a ar cap m cr zs ros _ d HDD.out HM.out ((HA.below HI.1).below (Kin.below _)) ((HR.below HI.1).below (Kin.below _)) HL.out HBD.out HH.out HF.out hm12)))))
  refine wpQuiet_nil ?_
  rintro _ ⟨s, rfl⟩
  have HI2 : Hid (HoursAt w s.w _ _) := HI.below s.below
  have HK2 : Hid _ := below_row s.below (Array.getElem?_eq_some_iff.1 HK.out).1 HK.out
  clear t0 t1 t2 t3 t4 t5 t6 t7 e0 e1 e2 e3 e4 e5 e6 e7 hkin
  generalize s.w = W2 at *
  have cc : W2.cell? ⟨w.heap.size + 1, 0, none⟩ = some (.int .i64 0) := by rw [cell_of_row _ _ 0 _ _ _ HI2.2.2]; simp
  have fc := fun i => frozen_of_row _ _ i _ _ HI2.2.2
  by_cases hto : to < d
  · have HN : Hid _ := HV.symm.trans (hoursV_home HTM.out (by rw [HDD.out]; exact hto))
    go_wp2
    rw [HN.out]
    have HI3 := HI2.set 6
    have HK3 : (W2.setCell ⟨w.heap.size + 1, 0, none⟩ (.int .i64 6)).heap[D]? = some (.deferred (some [])) := row_set' HK2.out (Nat.ne_of_gt HD.out)
    refine ⟨by simp, .inl ⟨_, _, rfl, run_takeDeferred HK3, ?_⟩⟩
    have hc := cell_kept (show (W2.setCell ⟨w.heap.size + 1, 0, none⟩ (.int .i64 6)).cell? ⟨w.heap.size + 1, 0, none⟩ = some (.int .i64 6) by rw [cell_of_row _ _ 0 _ _ _ HI3.2.2]; simp) (grownBy_putObj' _ D (.deferred none)) (fun r e => by cases e; exact ⟨_, HK3, rfl⟩)
    exact ⟨_, by simp [results, Tryz.results142, go_sem, hc], rfl, HI3.1.trans (belowK_b (w := w) (Nat.le_refl _) _ D _ _ (by have := HD.out; omega) HK3 rfl rfl)⟩
  · have HN : Hid _ := HV.symm.trans (hoursV_ok HTM.out (by rw [HDD.out]; exact hto))
    go_wp2
    rw [HN.out]
    have HI3 := HI2.set 0
    have HK3 : (W2.setCell ⟨w.heap.size + 1, 0, none⟩ (.int .i64 0)).heap[D]? = some (.deferred (some [])) := row_set' HK2.out (Nat.ne_of_gt HD.out)
    refine ⟨by simp, .inl ⟨_, _, rfl, run_takeDeferred HK3, ?_⟩⟩
    have hc := cell_kept (show (W2.setCell ⟨w.heap.size + 1, 0, none⟩ (.int .i64 0)).cell? ⟨w.heap.size + 1, 0, none⟩ = some (.int .i64 0) by rw [cell_of_row _ _ 0 _ _ _ HI3.2.2]; simp) (grownBy_putObj' _ D (.deferred none)) (fun r e => by cases e; exact ⟨_, HK3, rfl⟩)
    exact ⟨_, by simp [results, Tryz.results142, go_sem, hc], rfl, HI3.1.trans (belowK_b (w := w) (Nat.le_refl _) _ D _ _ (by have := HD.out; omega) HK3 rfl rfl)⟩
 case stop =>
  rintro D c pre W hD hS ⟨⟨hi, rfl⟩, x, hx, hlate⟩ hK
  have HN : Hid _ := HV.symm.trans (hoursV_late x.isLt hlate)
  have HD : Hid _ := Nat.lt_of_lt_of_le (Nat.lt_trans HZ.out (by simp)) hD
  refine wpIn_wide.2 ?_
  go_wp2
  rw [HN.out]
  refine ⟨by simp, .inl ⟨_, _, rfl, run_takeDeferred hK, ?_⟩⟩
  have hc := cell_kept (show W.cell? ⟨w.heap.size + 1, 0, none⟩ = some (.int .i64 5) by rw [cell_of_row _ _ 0 _ _ _ hi.2.2]; simp) (grownBy_putObj' _ D (.deferred none)) (fun r e => by cases e; exact ⟨_, hK, rfl⟩)
  exact ⟨_, by simp [results, Tryz.results142, go_sem, hc], rfl, hi.1.trans (belowK_b (w := w) (Nat.le_refl _) _ D _ _ (by have := HD.out; omega) hK rfl rfl)⟩
end Go.Proofs.YtehfjfmfpdgibaaGreatDoor

namespace Go.Proofs.YtehfjfmfpdgibaaGreatDoor
open Go.RowKit
set_option maxHeartbeats 1000000 in
theorem tourOf_any (n fine veh : Int) (a ao av bi : Option Addr) (cap ko co kv cv c2 : Nat) (zs os vs ids : List Int) (w : World) (hA : IntsAt w a zs) (hO : IntsAt w ao os) (hV : IntsAt w av vs) (hI : IntsAt w bi ids) (hlo : os.length = ko * 6) (hlv : vs.length = kv * 5) (hko : ko <= 9223372036854775807) (hkv : kv <= 9223372036854775807) (hli : ids.length <= 9223372036854775807) (hc2 : ids.length <= c2) (hcB : caseB n zs os vs ko kv fine = true) :
 Calls Tryz.prog 99 #[.agg #[.int .i64 n, .slice a zs.length cap, .slice ao ko co, .slice av kv cv, .int .i64 fine], .agg #[.int .i64 veh, .slice bi ids.length c2]] w fun e w' => Below w.heap.size w w' /\ ((codeV true n zs os vs ko kv veh ids ≠ 0 /\ e = .returned (.tuple #[.agg #[Value.int .i64 0, Value.slice none 0 0, Value.int .i64 0, Value.int .i64 0, Value.int .i64 0, Value.int .i64 0, Value.int .i64 0, Value.slice none 0 0], .int .i64 (codeV true n zs os vs ko kv veh ids)])) ∨ (codeV true n zs os vs ko kv veh ids = 0 /\ ∃ g, w.heap.size <= g /\ e = .returned (.tuple #[.agg #[.int .i64 n, .slice a zs.length cap, .int .i64 (fnd5F vs kv veh 0), .int .i64 (fnd5F vs kv veh 1), .int .i64 (fnd5F vs kv veh 2), .int .i64 (fnd5F vs kv veh 3), .int .i64 (fnd5F vs kv veh 4), .slice (some ⟨g, 0, none⟩) ids.length ids.length], .int .i64 0]) /\ IntsAt w' (some ⟨g, 0, none⟩) (rosOf os ko ids))) := by
 have HA : Hid (IntsAt w a zs) := hA
 have HO : Hid (IntsAt w ao os) := hO
 have HV : Hid (IntsAt w av vs) := hV
 have HI : Hid (IntsAt w bi ids) := hI
 have HLO : Hid _ := hlo
 have HLV : Hid _ := hlv
 clear hA hO hV hI hlo hlv
 have HC : Hid _ := hcB
 clear hcB
 have HC0 : Hid (CRT w (((w.alloc (.cells #[Value.int .i64 n, Value.slice a zs.length cap, Value.slice ao ko co, Value.slice av kv cv, Value.int .i64 fine] 78)).alloc (.cells #[Value.int .i64 veh, Value.slice bi ids.length c2] 134)).alloc (.cells #[Value.int .i64 0, Value.slice none 0 0, Value.int .i64 0, Value.int .i64 0, Value.int .i64 0, Value.int .i64 0, Value.int .i64 0, Value.slice none 0 0] 139)) _ _ _) := CRT.new w _ _ _
 obtain ⟨r, HR⟩ := nmd (codeV true n zs os vs ko kv veh ids)
 rw [HR.out]
 go_enter Tryz.func99, Tryz.ntmps99
 obtain ⟨c0, c1, c2', c3, c4⟩ := cells5 HC0.out.1.2.1
 obtain ⟨d0, d1⟩ := cells2 HC0.out.1.2.2
 go_wp2_with fail
 clear c0 c1 c2' c3 c4 d0 d1
 refine (loadedTour_any n fine veh a ao av bi cap ko co kv cv c2 zs os vs ids _ (HA.out.below HC0.out.1.1) (HO.out.below HC0.out.1.1) (HV.out.below HC0.out.1.1) (HI.out.below HC0.out.1.1) HLO.out HLV.out hko hkv hli hc2 HC.out).mono ?_
 rintro e w2 ⟨hb, ⟨hf, rfl⟩ | ⟨hf, g, hgg, rfl, hros⟩⟩
 · have C2 : Hid (CRT w (w2.alloc (Obj.cells #[Value.int .i64 0, Value.slice none 0 0, Value.int .i64 0, Value.int .i64 0, Value.int .i64 0, Value.int .i64 0, Value.int .i64 0, Value.slice none 0 0] 139)) _ _ _) := (HC0.out.below hb).alloc _
   have HRV : Hid _ := (codeV_form hf).symm.trans HR.out
   rw [HRV.out] at hf ⊢
   have hfb : (r == 0) = false := by simp [hf]
   have hfn : (r != 0) = true := by simp [hf]
   have HF : Hid (r ≠ 0) := hf
   clear hb hf HC0
   obtain ⟨t0, t1, t2, t3, t4, t5, t6, t7⟩ := cells8 C2.out.2
   have tf := fun i => frozen_of_row _ _ i _ _ C2.out.2
   go_wp2
   refine bodyPost_ret (v := .tuple #[.agg #[Value.int .i64 0, Value.slice none 0 0, Value.int .i64 0, Value.int .i64 0, Value.int .i64 0, Value.int .i64 0, Value.int .i64 0, Value.slice none 0 0], .int .i64 r]) (by simp [results, Tryz.results99, go_sem, t0, t1, t2, t3, t4, t5, t6, t7]) rfl ⟨?_, .inl ⟨HF.out, rfl⟩⟩
   repeat (first | with_reducible exact C2.out.b | refine Below.setCell ?_ (by simp <;> omega) _)
 · have HFV : Hid _ := hf
   obtain ⟨hmat, hords, hvehs, hn1, _⟩ := caseB_parts HC.out
   obtain ⟨hvb1, hvb2, hvb3, hvb4⟩ := fnd5F_bd hvehs hn1 veh
   have HMAT : Hid _ := hmat
   have HBD : Hid (RosBd n (rosOf os ko ids) ids.length) := rosBd_of hords hn1 ids
   have h12 := (stopsB_true (formV_zero hf).2.2).1
   have HRV := (codeV_hours (n := n) (zs := zs) hf).symm.trans HR.out
   obtain ⟨v0, G0⟩ := nmd (fnd5F vs kv veh 0)
   obtain ⟨v1, G1⟩ := nmd (fnd5F vs kv veh 1)
   obtain ⟨v2, G2⟩ := nmd (fnd5F vs kv veh 2)
   obtain ⟨v3, G3⟩ := nmd (fnd5F vs kv veh 3)
   obtain ⟨v4, G4⟩ := nmd (fnd5F vs kv veh 4)
   rw [G1.out, G3.out, G4.out] at HRV
   rw [G1.out] at hvb1
   rw [G3.out] at hvb3
   rw [G0.out, G1.out, G2.out, G3.out, G4.out]
   have HRV' : Hid _ := HRV
   have HX1 : Hid _ := hvb1
   have HX3 : Hid _ := hvb3
   have C2 : Hid (CRT w (w2.alloc (Obj.cells #[Value.int .i64 n, Value.slice a zs.length cap, Value.int .i64 v0, Value.int .i64 v1, Value.int .i64 v2, Value.int .i64 v3, Value.int .i64 v4, Value.slice (some ⟨g, 0, none⟩) ids.length ids.length] 139)) _ _ _) := (HC0.out.below hb).alloc _
   have HRT : Hid ((w2.alloc (Obj.cells #[Value.int .i64 n, Value.slice a zs.length cap, Value.int .i64 v0, Value.int .i64 v1, Value.int .i64 v2, Value.int .i64 v3, Value.int .i64 v4, Value.slice (some ⟨g, 0, none⟩) ids.length ids.length] 139)).heap[w2.heap.size]? = _) := heap_alloc_new _ _
   have HROS : Hid (IntsAt (w2.alloc (Obj.cells #[Value.int .i64 n, Value.slice a zs.length cap, Value.int .i64 v0, Value.int .i64 v1, Value.int .i64 v2, Value.int .i64 v3, Value.int .i64 v4, Value.slice (some ⟨g, 0, none⟩) ids.length ids.length] 139)) (some ⟨g, 0, none⟩) (rosOf os ko ids)) := IntsAt.below hros ((Below.refl _ _).alloc (Nat.le_refl _) _)
   have HGT : Hid _ := row_lt (HC0.out.below hb).2
   have HGG : Hid _ := Nat.lt_of_lt_of_le (row_lt HC0.out.2) hgg
   clear hb hf hros HC0 hgg hmat hords hvehs hn1 hvb1 hvb2 hvb3 hvb4 HRV
   obtain ⟨t0, t1, t2, t3, t4, t5, t6, t7⟩ := cells8 HRT.out
   go_wp2_with fail
   clear t0 t1 t2 t3 t4 t5 t6 t7
   generalize w2.alloc (Obj.cells #[Value.int .i64 n, Value.slice a zs.length cap, Value.int .i64 v0, Value.int .i64 v1, Value.int .i64 v2, Value.int .i64 v3, Value.int .i64 v4, Value.slice (some ⟨g, 0, none⟩) ids.length ids.length] 139) = W2 at *
   generalize w2.heap.size = gt at *
   refine (hoursCode_any n v0 v1 v2 v3 v4 a _ cap ids.length _ zs (rosOf os ko ids) W2 HMAT.out (HA.out.below C2.out.1.1) HROS.out (rosOf_length os ko ids) HBD.out HX1.out HX3.out h12).mono ?_
   rintro e w3 ⟨rfl, hb⟩
   rw [HRV'.out]
   have C3 : Hid (CRT w w3 _ _ _) := C2.out.below hb
   have HRT3 : Hid (w3.heap[gt]? = _) := below_row hb (row_lt HRT.out) HRT.out
   have HROS3 : Hid (IntsAt w3 (some ⟨g, 0, none⟩) (rosOf os ko ids)) := HROS.out.below hb
   clear hb C2 HRT HROS
   obtain ⟨t0, t1, t2, t3, t4, t5, t6, t7⟩ := cells8 C3.out.2
   have tf := fun i => frozen_of_row _ _ i _ _ C3.out.2
   by_cases hr : r = 0
   · have hfn : (r != 0) = false := by simp [hr]
     have HF : Hid _ := hr
     clear hr
     obtain ⟨s0, s1, s2, s3, s4, s5, s6, s7⟩ := cells8 HRT3.out
     go_wp2
     refine bodyPost_ret (v := .tuple #[.agg #[Value.int .i64 n, Value.slice a zs.length cap, Value.int .i64 v0, Value.int .i64 v1, Value.int .i64 v2, Value.int .i64 v3, Value.int .i64 v4, Value.slice (some ⟨g, 0, none⟩) ids.length ids.length], .int .i64 0]) (by simp [results, Tryz.results99, go_sem, t0, t1, t2, t3, t4, t5, t6, t7]) rfl ⟨?_, .inr ⟨HF.out, g, by have := HGG.out; omega, ?_, ?_⟩⟩
     · repeat (first | with_reducible exact C3.out.b | refine Below.setCell ?_ (by simp <;> omega) _)
     · rw [G0.out, G1.out, G2.out, G3.out, G4.out]
     · repeat (first | with_reducible exact HROS3.out | with_reducible refine ints_set ?_ (by have := HGG.out; omega))
   · have hfn : (r != 0) = true := by simp [hr]
     have HF : Hid (r ≠ 0) := hr
     clear hr
     go_wp2
     refine bodyPost_ret (v := .tuple #[.agg #[Value.int .i64 0, Value.slice none 0 0, Value.int .i64 0, Value.int .i64 0, Value.int .i64 0, Value.int .i64 0, Value.int .i64 0, Value.slice none 0 0], .int .i64 r]) (by simp [results, Tryz.results99, go_sem, t0, t1, t2, t3, t4, t5, t6, t7]) rfl ⟨?_, .inl ⟨HF.out, rfl⟩⟩
     repeat (first | with_reducible exact C3.out.b | refine Below.setCell ?_ (by simp <;> omega) _)
end Go.Proofs.YtehfjfmfpdgibaaGreatDoor
