import Derived.Test.YtcljhgildbcdmaaGreatImplPlan
import Derived.Test.YtcljhgildbcdmaaGreatPack28
import Derived.Test.YtcljhgildbcdmaaGreatPlainGreedy
import Derived.Test.YtcljhgildbcdmaaGreatImplGreedy
import Derived.Test.YtcljhgildbcdmaaGreatPack39
namespace Go.Proofs.YtcljhgildbcdmaaGreat
open Go.RowKit
def OwnOk (w : World) (f : Bool) (T : List RT) (L : List Int) (e : Ending) (w' : World) : Prop := ∃ ra rn rc la ln lc S, e = .returned (.tuple #[.agg #[.slice ra rn rc, .slice la ln lc], .bool f]) /\ Below w.heap.size w w' /\ S.length = rn /\ L.length = ln /\ S.map RT.key = T.map RT.key /\ PO w' w.heap.size (.slice ra rn rc) S (.slice la ln lc) L /\ Apart S la
set_option maxRecDepth 10000 in
set_option maxHeartbeats 4000000 in
theorem implGreedyOne_any (n fine : Int) (a ao av ra la : Option Addr) (zl cap ko co kv cv nr rc ln lc : Nat) (zs os vs L : List Int) (R : List RT) (w : World) (hA : IntsAt w a zs) (hO : IntsAt w ao os) (hV : IntsAt w av vs) (hlz : zs.length = zl) (hlo : os.length = ko * 6) (hlv : vs.length = kv * 5) (hko : ko <= 9223372036854775807) (hkv : kv <= 9223372036854775807) (hP : PlanIs w ra la nr ln R L) (hn : nr <= 1048576) (hi : ∀ r ∈ R, r.ids.length <= 1048576) (hll : ln <= 1048576) (hal : (allTo R R.length).length <= 1048576) (hwl : ∀ x ∈ L, (Lit.int .i64 x).wf = true) :
   Calls Tryz.prog 13 #[.agg #[.int .i64 n, .slice a zl cap, .slice ao ko co, .slice av kv cv, .int .i64 fine], .agg #[.slice ra nr rc, .slice la ln lc]] w (OwnOk w (goF n fine zs os vs ko kv R L) (goR n fine zs os vs ko kv R L) (goL n fine zs os vs ko kv R L)) := by
 have HA : Hid (IntsAt w a zs) := hA
 have HO : Hid (IntsAt w ao os) := hO
 have HV : Hid (IntsAt w av vs) := hV
 have HLZ : Hid (zs.length = zl) := hlz
 have HLO : Hid (os.length = ko * 6) := hlo
 have HLV : Hid (vs.length = kv * 5) := hlv
 have HP : Hid (PlanIs w ra la nr ln R L) := hP
 have HN : Hid (R.length = nr) := hP.1
 have HM : Hid (L.length = ln) := hP.2.1
 have HI : Hid (∀ r ∈ R, r.ids.length <= 1048576) := hi
 clear hA hO hV hlz hlo hlv hP hi
 obtain ⟨pv, HPV⟩ : ∃ v, Hid (planV n zs os vs ko kv fine R L = v) := ⟨_, rfl⟩
 have HIN : Hid (pv = 0 -> caseB n zs os vs ko kv fine = true /\ Rises R /\ RtsIn R /\ R.length <= 12 /\ L.length <= 12 /\ ko <= 12 /\ kv <= 5) := fun h => plan_in (HPV.out.trans h) HP.out.2.2.2.2.2.2
 have HGF : Hid (goF n fine zs os vs ko kv R L = if pv = 0 then (oneQ n fine zs os vs ko kv R L).f else false) := by show _ = _; unfold goF; rw [HPV.out]
 have HGR : Hid (goR n fine zs os vs ko kv R L = if pv = 0 then oneR n fine zs os vs ko kv R L else []) := by show _ = _; unfold goR; rw [HPV.out]
 have HGL : Hid (goL n fine zs os vs ko kv R L = if pv = 0 then oneL n fine zs os vs ko kv R L else []) := by show _ = _; unfold goL; rw [HPV.out]
 obtain ⟨GF, HF⟩ : ∃ v, Hid (goF n fine zs os vs ko kv R L = v) := ⟨_, rfl⟩
 obtain ⟨GR, HR⟩ : ∃ v, Hid (goR n fine zs os vs ko kv R L = v) := ⟨_, rfl⟩
 obtain ⟨GL, HL⟩ : ∃ v, Hid (goL n fine zs os vs ko kv R L = v) := ⟨_, rfl⟩
 rw [HF.out] at HGF ⊢
 rw [HR.out] at HGR ⊢
 rw [HL.out] at HGL ⊢
 have Q0 : Hid (GQ w (((w.alloc (.cells #[.int .i64 n, .slice a zl cap, .slice ao ko co, .slice av kv cv, .int .i64 fine] 43)).alloc (.cells #[.slice ra nr rc, .slice la ln lc] 36)).alloc (.cells #[.slice none 0 0, .slice none 0 0] 36)) #[.int .i64 n, .slice a zl cap, .slice ao ko co, .slice av kv cv, .int .i64 fine] #[.slice ra nr rc, .slice la ln lc]) := by
   refine ⟨(((Below.refl _ _).alloc (Nat.le_refl _) _).alloc (by simp) _).alloc (by simp; omega) _, ?_, ?_, ?_⟩
   · exact (heap_alloc_old _ _ (by simp; omega)).trans (heap_alloc2_old _ _ _)
   · exact (heap_alloc_old _ _ (by simp)).trans (heap_alloc2_new _ _ _)
   · have := heap_alloc_new ((w.alloc (.cells #[.int .i64 n, .slice a zl cap, .slice ao ko co, .slice av kv cv, .int .i64 fine] 43)).alloc (.cells #[.slice ra nr rc, .slice la ln lc] 36)) (.cells #[.slice none 0 0, .slice none 0 0] 36)
     simpa using this
 have PC := implPlan_any n fine a ao av ra la cap ko co kv cv rc lc zs os vs L R (((w.alloc (.cells #[.int .i64 n, .slice a zl cap, .slice ao ko co, .slice av kv cv, .int .i64 fine] 43)).alloc (.cells #[.slice ra nr rc, .slice la ln lc] 36)).alloc (.cells #[.slice none 0 0, .slice none 0 0] 36)) (HA.out.below Q0.out.b) (HO.out.below Q0.out.b) (HV.out.below Q0.out.b) (HP.out.2.2.1.below Q0.out.b) (HP.out.2.2.2.1.below Q0.out.b) HLO.out HLV.out hko hkv (by rw [HN.out]; exact hn) HI.out HP.out.2.2.2.2.2.2 (by rw [HM.out]; exact hll) hal hwl
 rw [HN.out, HM.out, HLZ.out, HPV.out] at PC
 obtain ⟨c0, c1, c2, c3, c4⟩ := cells5 Q0.out.c
 obtain ⟨p0, p1⟩ := cells2 Q0.out.p
 go_enter Tryz.func13, Tryz.ntmps13
 go_wp2_with fail
 generalize ((w.alloc (.cells #[.int .i64 n, .slice a zl cap, .slice ao ko co, .slice av kv cv, .int .i64 fine] 43)).alloc (.cells #[.slice ra nr rc, .slice la ln lc] 36)).alloc (.cells #[.slice none 0 0, .slice none 0 0] 36) = W0 at *
 refine PC.mono ?_
 rintro e w1 ⟨rfl, hb⟩
 have Q1 : Hid (GQ w w1 #[.int .i64 n, .slice a zl cap, .slice ao ko co, .slice av kv cv, .int .i64 fine] #[.slice ra nr rc, .slice la ln lc]) := Q0.out.below hb
 clear hb PC c0 c1 c2 c3 c4 p0 p1 Q0 HF HR HL
 obtain ⟨a0, a1⟩ := cells2 Q1.out.o
 have af := fun i => frozen_of_row _ _ i _ _ Q1.out.o
 by_cases hpv : pv = 0
 · obtain ⟨hcb, hri, hrt, hr12, hl12, hk12, hk5⟩ := HIN.out hpv
   have hgf : GF = (oneQ n fine zs os vs ko kv R L).f := by rw [HGF.out, if_pos hpv]
   have hgr : GR = oneR n fine zs os vs ko kv R L := by rw [HGR.out, if_pos hpv]
   have hgl : GL = oneL n fine zs os vs ko kv R L := by rw [HGL.out, if_pos hpv]
   have G1 := greedyOne_any n fine a ao av ra la zl cap ko co kv cv nr rc ln lc zs os vs L R w1 (HA.out.below Q1.out.b) (HO.out.below Q1.out.b) (HV.out.below Q1.out.b) HLZ.out HLO.out HLV.out hk12 hk5 hcb (HP.out.below Q1.out.b) (by rw [<- HN.out]; omega) (by rw [<- HM.out]; exact hl12) hri hrt
   rw [<- hgf, <- hgr, <- hgl] at G1
   have HGI : Hid ((∀ r ∈ GR, r.ids ≠ [] /\ r.ids.length <= 12) /\ GR.length <= 500 /\ GL.length <= 500) := by
     rw [hgr, hgl]
     exact one_in hrt (by omega) (by omega)
   subst hpv
   clear HIN HGF HGR HGL HPV hgf hgr hgl hcb hri hrt
   obtain ⟨c0, c1, c2, c3, c4⟩ := cells5 Q1.out.c
   obtain ⟨p0, p1⟩ := cells2 Q1.out.p
   go_wp2_with fail
   refine G1.mono ?_
   rintro e w2 ⟨ra2, rn2, rc2, la2, ln2, lc2, R2, rfl, hb, hpi, hk2, -⟩
   have Q2 : Hid (GQ w w2 #[.int .i64 n, .slice a zl cap, .slice ao ko co, .slice av kv cv, .int .i64 fine] #[.slice ra nr rc, .slice la ln lc]) := Q1.out.below hb
   have PI2 : Hid (PlanIs w2 ra2 la2 rn2 ln2 R2 GL) := hpi
   have HK2 : Hid (R2.map RT.key = GR.map RT.key) := hk2
   clear hb hpi hk2 G1 c0 c1 c2 c3 c4 p0 p1 a0 a1 af Q1
   have QA : Hid (GQ w ((w2.alloc (.cells #[.slice ra2 rn2 rc2, .slice la2 ln2 lc2] 36))) #[.int .i64 n, .slice a zl cap, .slice ao ko co, .slice av kv cv, .int .i64 fine] #[.slice ra nr rc, .slice la ln lc]) := Q2.out.below ((Below.refl _ _).alloc (Nat.le_refl _) _)
   have PA : Hid (PlanIs (w2.alloc (.cells #[.slice ra2 rn2 rc2, .slice la2 ln2 lc2] 36)) ra2 la2 rn2 ln2 R2 GL) := PI2.out.below ((Below.refl _ _).alloc (Nat.le_refl _) _)
   have hk9 : R2.length = GR.length := by have := congrArg List.length HK2.out; simpa using this
   have CC := copyOfPlan_any ra2 la2 rc2 lc2 R2 GL (w2.alloc (.cells #[.slice ra2 rn2 rc2, .slice la2 ln2 lc2] 36)) PA.out.2.2.1 PA.out.2.2.2.1 (by rw [PA.out.2.1]; exact PA.out.2.2.2.2.2.1) (by have := HGI.out.2.1; omega) (fun r hr => key_in HK2.out HGI.out.1 r hr) HGI.out.2.2
   rw [PA.out.1, PA.out.2.1] at CC
   have NB : Hid ((w2.alloc (.cells #[.slice ra2 rn2 rc2, .slice la2 ln2 lc2] 36)).heap[w2.heap.size]? = some (.cells #[.slice ra2 rn2 rc2, .slice la2 ln2 lc2] 36 (0, 0))) := heap_alloc_new _ _
   obtain ⟨n0, n1⟩ := cells2 NB.out
   go_wp2_with fail
   generalize w2.alloc (.cells #[.slice ra2 rn2 rc2, .slice la2 ln2 lc2] 36) = w3 at *
   refine CC.mono ?_
   rintro e w4 ⟨ra4, rc4, la4, lc4, S4, rfl, hb, hk4, hpo, hap⟩
   rw [PA.out.1, PA.out.2.1] at hpo
   rw [PA.out.1, PA.out.2.1]
   have Q4 : Hid (GQ w w4 #[.int .i64 n, .slice a zl cap, .slice ao ko co, .slice av kv cv, .int .i64 fine] #[.slice ra nr rc, .slice la ln lc]) := QA.out.below hb
   have P4 : Hid (PO w4 (w.heap.size + 3) (.slice ra4 rn2 rc4) S4 (.slice la4 ln2 lc4) GL) := hpo.base (by have := QA.out.size; omega)
   have HK4 : Hid (S4.map RT.key = GR.map RT.key) := hk4.trans HK2.out
   have HSL : Hid (S4.length = rn2) := by have := congrArg List.length hk4; simp only [List.length_map] at this; exact this.trans PA.out.1
   have HLL : Hid (GL.length = ln2) := PA.out.2.1
   have HAP : Hid (Apart S4 la4) := hap
   clear hb hpo hk4 hap CC hk9 n0 n1 NB QA PA
   obtain ⟨a0, a1⟩ := cells2 Q4.out.o
   have af := fun i => frozen_of_row _ _ i _ _ Q4.out.o
   have s1 := heap_setCell_same w4 (w.heap.size + 2) 0 _ _ (Value.slice ra4 rn2 rc4) Q4.out.o
   have P5 : Hid (PO ((w4.setCell ⟨w.heap.size + 2, 0, none⟩ (.slice ra4 rn2 rc4)).setCell ⟨w.heap.size + 2, 1, none⟩ (.slice la4 ln2 lc4)) (w.heap.size + 3) (.slice ra4 rn2 rc4) S4 (.slice la4 ln2 lc4) GL) := (P4.out.box Q4.out.o).box s1
   have B5 : Hid (Below w.heap.size w ((w4.setCell ⟨w.heap.size + 2, 0, none⟩ (.slice ra4 rn2 rc4)).setCell ⟨w.heap.size + 2, 1, none⟩ (.slice la4 ln2 lc4))) := (Q4.out.b.setCell (by simp) _).setCell (by simp) _
   clear s1
   go_wp2
   refine bodyPost_ret (v := .tuple #[.agg #[.slice ra4 rn2 rc4, .slice la4 ln2 lc4], .bool GF]) (by simp [results, Tryz.results13, go_sem, a0, a1]) rfl ?_
   show OwnOk _ _ _ _ _ _
   exact ⟨ra4, rn2, rc4, la4, ln2, lc4, S4, rfl, B5.out, HSL.out, HLL.out, HK4.out, P5.out.base (by omega), HAP.out⟩
 · have hgf : GF = false := by rw [HGF.out, if_neg hpv]
   have hgr : GR = [] := by rw [HGR.out, if_neg hpv]
   have hgl : GL = [] := by rw [HGL.out, if_neg hpv]
   subst hgf hgr hgl
   have hpn : (pv != 0) = true := by simp [hpv]
   have B5 : Hid (Below w.heap.size w ((w1.setCell ⟨w.heap.size + 2, 0, none⟩ (.slice none 0 0)).setCell ⟨w.heap.size + 2, 1, none⟩ (.slice none 0 0))) := (Q1.out.b.setCell (by simp) _).setCell (by simp) _
   clear HIN HGF HGR HGL HPV hpv
   go_wp2
   refine bodyPost_ret (v := .tuple #[.agg #[.slice none 0 0, .slice none 0 0], .bool false]) (by simp [results, Tryz.results13, go_sem, a0, a1]) rfl ?_
   show OwnOk _ _ _ _ _ _
   exact ⟨none, 0, 0, none, 0, 0, [], rfl, B5.out, rfl, rfl, rfl, ⟨World.ownsRow_nil _ _ _ _, (fun s hs => by cases hs), World.ownsRow_nil _ _ _ _⟩, Apart.nil _⟩
end Go.Proofs.YtcljhgildbcdmaaGreat
namespace Go.Proofs.YtcljhgildbcdmaaGreat
open Go.RowKit
def leftN (W : World) (k : Nat) : Nat := match W.cell? ⟨k, 1, none⟩ with
 | some (.slice _ n _) => n
 | _ => 0
def wordN (t : Value) (n : Nat) : Nat := match t with
 | .bool true => n
 | _ => 0
def PlanOk1 (w : World) (T : List RT) (L : List Int) (e : Ending) (w' : World) : Prop := ∃ ra rn rc la ln lc R, e = .returned (.agg #[.slice ra rn rc, .slice la ln lc]) /\ Below w.heap.size w w' /\ PlanIs w' ra la rn ln R L /\ R.map RT.key = T.map RT.key /\ (∀ r ∈ R, r.ids ≠ [] /\ r.ids.length <= 12) /\ rn <= 100 /\ ln <= 12
set_option maxRecDepth 10000 in
set_option maxHeartbeats 4000000 in
theorem greedy_any (n fine : Int) (a ao av ra la : Option Addr) (zl cap ko co kv cv nr rc ln lc : Nat) (zs os vs L : List Int) (R : List RT) (w : World) (hA : IntsAt w a zs) (hO : IntsAt w ao os) (hV : IntsAt w av vs) (hlz : zs.length = zl) (hlo : os.length = ko * 6) (hlv : vs.length = kv * 5) (hko : ko <= 12) (hkv : kv <= 5) (hcB : caseB n zs os vs ko kv fine = true) (hP : PlanIs w ra la nr ln R L) (hn : nr <= 12) (hln : ln <= 12) (hS : Rises R) (hi : RtsIn R) (hof : ∀ k, w.heap.size <= k -> Off k ra la R) :
   Calls Tryz.prog 55 #[.agg #[.int .i64 n, .slice a zl cap, .slice ao ko co, .slice av kv cv, .int .i64 fine], .agg #[.slice ra nr rc, .slice la ln lc]] w (PlanOk1 w (grd n fine zs os vs ko kv L.length R L).1 (grd n fine zs os vs ko kv L.length R L).2) := by
 have HA : Hid (IntsAt w a zs) := hA
 have HO : Hid (IntsAt w ao os) := hO
 have HV : Hid (IntsAt w av vs) := hV
 have HLZ : Hid (zs.length = zl) := hlz
 have HLO : Hid (os.length = ko * 6) := hlo
 have HLV : Hid (vs.length = kv * 5) := hlv
 have HCB : Hid (caseB n zs os vs ko kv fine = true) := hcB
 have HP : Hid (PlanIs w ra la nr ln R L) := hP
 have HS : Hid (Rises R) := hS
 have HI : Hid (RtsIn R) := hi
 have HOF : Hid (∀ k, w.heap.size <= k -> Off k ra la R) := hof
 clear hA hO hV hlz hlo hlv hcB hP hS hi hof
 obtain ⟨TR, HTR⟩ : ∃ x, Hid ((grd n fine zs os vs ko kv L.length R L).1 = x) := ⟨_, rfl⟩
 obtain ⟨TL, HTL⟩ : ∃ x, Hid ((grd n fine zs os vs ko kv L.length R L).2 = x) := ⟨_, rfl⟩
 rw [HTR.out, HTL.out]
 have Q0 : Hid (GQ w (((w.alloc (.cells #[.int .i64 n, .slice a zl cap, .slice ao ko co, .slice av kv cv, .int .i64 fine] 43)).alloc (.cells #[.slice ra nr rc, .slice la ln lc] 36)).alloc (.cells #[.slice none 0 0, .slice none 0 0] 36)) #[.int .i64 n, .slice a zl cap, .slice ao ko co, .slice av kv cv, .int .i64 fine] #[.slice ra nr rc, .slice la ln lc]) := by
   refine ⟨(((Below.refl _ _).alloc (Nat.le_refl _) _).alloc (by simp) _).alloc (by simp; omega) _, ?_, ?_, ?_⟩
   · exact (heap_alloc_old _ _ (by simp; omega)).trans (heap_alloc2_old _ _ _)
   · exact (heap_alloc_old _ _ (by simp)).trans (heap_alloc2_new _ _ _)
   · have := heap_alloc_new ((w.alloc (.cells #[.int .i64 n, .slice a zl cap, .slice ao ko co, .slice av kv cv, .int .i64 fine] 43)).alloc (.cells #[.slice ra nr rc, .slice la ln lc] 36)) (.cells #[.slice none 0 0, .slice none 0 0] 36)
     simpa using this
 have HP0 : Hid (PlanIs (((w.alloc (.cells #[.int .i64 n, .slice a zl cap, .slice ao ko co, .slice av kv cv, .int .i64 fine] 43)).alloc (.cells #[.slice ra nr rc, .slice la ln lc] 36)).alloc (.cells #[.slice none 0 0, .slice none 0 0] 36)) ra la nr ln R L) := HP.out.below Q0.out.b
 go_enter Tryz.func55, Tryz.ntmps55
 go_wp2_with fail
 generalize ((w.alloc (.cells #[.int .i64 n, .slice a zl cap, .slice ao ko co, .slice av kv cv, .int .i64 fine] 43)).alloc (.cells #[.slice ra nr rc, .slice la ln lc] 36)).alloc (.cells #[.slice none 0 0, .slice none 0 0] 36) = W0 at *
 go_loopw [5] (fun t wr => ∃ (m : Bool) (ra9 la9 : Option Addr) (rn9 rc9 ln9 lc9 : Nat) (R9 : List RT) (L9 : List Int), t = .bool m /\ GQ w wr #[.int .i64 n, .slice a zl cap, .slice ao ko co, .slice av kv cv, .int .i64 fine] #[.slice ra9 rn9 rc9, .slice la9 ln9 lc9] /\ PlanIs wr ra9 la9 rn9 ln9 R9 L9 /\ Off (w.heap.size + 1) ra9 la9 R9 /\ Off (w.heap.size + 2) ra9 la9 R9 /\ rn9 + ln9 <= 24 /\ ln9 <= 12 /\ Rises R9 /\ RtsIn R9 /\ (m = true -> (grd n fine zs os vs ko kv L9.length R9 L9).1.map RT.key = TR.map RT.key /\ (grd n fine zs os vs ko kv L9.length R9 L9).2 = TL) /\ (m = false -> R9.map RT.key = TR.map RT.key /\ L9 = TL)) (fun t wr => wordN t (leftN wr (w.heap.size + 1) + 1))
 case atStart => exact ⟨true, ra, la, nr, rc, ln, lc, R, L, rfl, Q0.out, HP0.out, HOF.out _ (by omega), HOF.out _ (by omega), by omega, hln, HS.out, HI.out, fun _ => ⟨by rw [HTR.out], HTL.out⟩, fun h => by cases h⟩
 case round =>
   clear Q0 HP0 HP HS HI HOF
   obtain ⟨m, ra9, la9, rn9, rc9, ln9, lc9, R9, L9, rfl, hq, hp, ho1, ho2, h24, h12, hs, hi, ht, hf⟩ := hrel
   have Q1 : Hid (GQ w wr #[.int .i64 n, .slice a zl cap, .slice ao ko co, .slice av kv cv, .int .i64 fine] #[.slice ra9 rn9 rc9, .slice la9 ln9 lc9]) := hq
   have P1 : Hid (PlanIs wr ra9 la9 rn9 ln9 R9 L9) := hp
   have F1 : Hid (Off (w.heap.size + 1) ra9 la9 R9 /\ Off (w.heap.size + 2) ra9 la9 R9) := ⟨ho1, ho2⟩
   have S1 : Hid (Rises R9) := hs
   have I1 : Hid (RtsIn R9) := hi
   have HT : Hid (m = true -> (grd n fine zs os vs ko kv L9.length R9 L9).1.map RT.key = TR.map RT.key /\ (grd n fine zs os vs ko kv L9.length R9 L9).2 = TL) := ht
   have HF : Hid (m = false -> R9.map RT.key = TR.map RT.key /\ L9 = TL) := hf
   clear hq hp hs hi ht hf ho1 ho2
   obtain ⟨c0, c1, c2, c3, c4⟩ := cells5 Q1.out.c
   obtain ⟨p0, p1⟩ := cells2 Q1.out.p
   cases m
   · obtain ⟨a0, a1⟩ := cells2 Q1.out.o
     have af := fun i => frozen_of_row _ _ i _ _ Q1.out.o
     obtain ⟨hk, hl⟩ := HF.out rfl
     have HK : Hid (R9.map RT.key = TR.map RT.key) := hk
     have HLT : Hid (L9 = TL) := hl
     clear hk hl
     go_wp2
     refine bodyPost_ret (v := .agg #[.slice ra9 rn9 rc9, .slice la9 ln9 lc9]) (by simp [results, Tryz.results55, go_sem, a0, a1]) rfl ?_
     show PlanOk1 _ _ _ _ _
     have hbf : Below w.heap.size w ((wr.setCell ⟨w.heap.size + 2, 0, none⟩ (.slice ra9 rn9 rc9)).setCell ⟨w.heap.size + 2, 1, none⟩ (.slice la9 ln9 lc9)) := (Q1.out.b.setCell (by simp) _).setCell (by simp) _
     refine ⟨ra9, rn9, rc9, la9, ln9, lc9, R9, rfl, hbf, by rw [<- HLT.out]; exact (P1.out.off F1.out.2).off F1.out.2, HK.out, fun r hr => ⟨(I1.out r hr).1, (I1.out r hr).2.1⟩, by omega, h12⟩
   · have G1 := greedyOne_any n fine a ao av ra9 la9 zl cap ko co kv cv rn9 rc9 ln9 lc9 zs os vs L9 R9 wr (HA.out.below Q1.out.b) (HO.out.below Q1.out.b) (HV.out.below Q1.out.b) HLZ.out HLO.out HLV.out hko hkv HCB.out P1.out (by omega) h12 S1.out I1.out
     obtain ⟨ht1, ht2⟩ := HT.out rfl
     have hmore := one_more n fine zs os vs ko kv (R := R9) (L := L9)
     have hless := fun h => one_less n fine zs os vs ko kv (R := R9) (L := L9) h
     have hin := one_in (n := n) (fine := fine) (zs := zs) (os := os) (vs := vs) (ko := ko) (kv := kv) (L := L9) I1.out (by rw [P1.out.1]; omega) (by rw [P1.out.2.1]; omega)
     have hris := one_rises n fine zs os vs ko kv (L := L9) S1.out
     rw [P1.out.1] at hmore
     rw [P1.out.2.1] at hless
     obtain ⟨f, HFF⟩ : ∃ x, Hid ((oneQ n fine zs os vs ko kv R9 L9).f = x) := ⟨_, rfl⟩
     obtain ⟨RX, HRX⟩ : ∃ x, Hid (oneR n fine zs os vs ko kv R9 L9 = x) := ⟨_, rfl⟩
     obtain ⟨LX, HLX⟩ : ∃ x, Hid (oneL n fine zs os vs ko kv R9 L9 = x) := ⟨_, rfl⟩
     have HST : Hid (f = true -> (grd n fine zs os vs ko kv LX.length RX LX).1.map RT.key = TR.map RT.key /\ (grd n fine zs os vs ko kv LX.length RX LX).2 = TL) := fun h => by
       rw [grd_step n fine zs os vs ko kv (HFF.out.trans h), HRX.out, HLX.out] at ht1 ht2
       exact ⟨ht1, ht2⟩
     have HSF : Hid (f = false -> RX.map RT.key = TR.map RT.key /\ LX = TL) := fun h => by
       rw [grd_stop n fine zs os vs ko kv (HFF.out.trans h)] at ht1 ht2
       have e1 : RX = R9 := by rw [<- HRX.out]; unfold oneR; rw [HFF.out, h]; rfl
       have e2 : LX = L9 := by rw [<- HLX.out]; unfold oneL; rw [HFF.out, h]; rfl
       rw [e1, e2]
       exact ⟨ht1, ht2⟩
     have HLS : Hid (LX.length <= ln9 /\ (f = true -> LX.length < ln9)) := by
       refine ⟨?_, fun h => by rw [<- HLX.out]; exact hless (HFF.out.trans h)⟩
       rw [<- HLX.out]
       cases h : f
       · unfold oneL; rw [HFF.out, h]; exact Nat.le_of_eq P1.out.2.1
       · exact Nat.le_of_lt (hless (HFF.out.trans h))
     have HMR : Hid (RX.length <= rn9 + 1 /\ (f = false -> RX.length = rn9)) := by
       rw [<- HRX.out]
       exact ⟨hmore, fun h => by unfold oneR; rw [HFF.out, h]; exact P1.out.1⟩
     rw [HFF.out, HRX.out, HLX.out] at G1
     rw [HRX.out] at hin hris
     have HIN : Hid (∀ r ∈ RX, r.ids ≠ [] /\ r.ids.length <= 12) := hin.1
     have HRI : Hid (Rises RX) := hris
     clear ht1 ht2 hmore hless hin hris HT HF HFF HRX HLX
     go_wp2_with fail
     refine G1.mono ?_
     rintro e w2 ⟨ra2, rn2, rc2, la2, ln2, lc2, R2, rfl, hb, hpi, hk2, hof⟩
     have hsz := Q1.out.size
     have Q2 : Hid (GQ w w2 #[.int .i64 n, .slice a zl cap, .slice ao ko co, .slice av kv cv, .int .i64 fine] #[.slice ra9 rn9 rc9, .slice la9 ln9 lc9]) := Q1.out.below hb
     have P2 : Hid (PlanIs w2 ra2 la2 rn2 ln2 R2 LX) := hpi
     have F2 : Hid (Off (w.heap.size + 1) ra2 la2 R2 /\ Off (w.heap.size + 2) ra2 la2 R2) := ⟨hof _ (by omega) F1.out.1, hof _ (by omega) F1.out.2⟩
     have HK2 : Hid (R2.map RT.key = RX.map RT.key) := hk2
     have hl2 : rn2 = RX.length := by rw [<- hpi.1]; have := congrArg List.length hk2; simpa using this
     have hm2 : ln2 = LX.length := hpi.2.1.symm
     have hnum : rn2 + ln2 <= 24 /\ ln2 <= 12 /\ (f = true -> ln2 < ln9) := by
       have h1 := HLS.out
       have h2 := HMR.out
       rw [hl2, hm2]
       cases f
       · have := h2.2 rfl; exact ⟨by omega, by omega, fun h => by cases h⟩
       · have := h1.2 rfl; exact ⟨by omega, by omega, fun _ => this⟩
     have HLN : Hid (leftN wr (w.heap.size + 1) = ln9) := by show _ = _; unfold leftN; rw [p1]
     clear hb hpi hk2 hof G1 c0 c1 c2 c3 c4 p0 p1 hl2 hm2
     obtain ⟨p0, p1⟩ := cells2 Q2.out.p
     have pf := fun i => frozen_of_row _ _ i _ _ Q2.out.p
     have s1 := heap_setCell_same w2 (w.heap.size + 1) 0 _ _ (Value.slice ra2 rn2 rc2) Q2.out.p
     have s2 := heap_setCell_same _ (w.heap.size + 1) 1 _ _ (Value.slice la2 ln2 lc2) s1
     simp at s2
     have Q3 : Hid (GQ w ((w2.setCell ⟨w.heap.size + 1, 0, none⟩ (.slice ra2 rn2 rc2)).setCell ⟨w.heap.size + 1, 1, none⟩ (.slice la2 ln2 lc2)) #[.int .i64 n, .slice a zl cap, .slice ao ko co, .slice av kv cv, .int .i64 fine] #[.slice ra2 rn2 rc2, .slice la2 ln2 lc2]) := ⟨(Q2.out.b.setCell (by simp) _).setCell (by simp) _, row_set' (row_set' Q2.out.c (by omega)) (by omega), s2, row_set' (row_set' Q2.out.o (by omega)) (by omega)⟩
     have P3 : Hid (PlanIs ((w2.setCell ⟨w.heap.size + 1, 0, none⟩ (.slice ra2 rn2 rc2)).setCell ⟨w.heap.size + 1, 1, none⟩ (.slice la2 ln2 lc2)) ra2 la2 rn2 ln2 R2 LX) := (P2.out.off F2.out.1).off F2.out.1
     have HL3 : Hid (leftN ((w2.setCell ⟨w.heap.size + 1, 0, none⟩ (.slice ra2 rn2 rc2)).setCell ⟨w.heap.size + 1, 1, none⟩ (.slice la2 ln2 lc2)) (w.heap.size + 1) = ln2) := by show _ = _; unfold leftN; rw [(cells2 s2).2]
     clear s1 s2
     obtain ⟨hnum1, hnum2, hnum3⟩ := hnum
     go_wp2
     go_roundw
     case rel => exact ⟨f, ra2, la2, rn2, rc2, ln2, lc2, R2, LX, rfl, Q3.out, P3.out, F2.out.1, F2.out.2, hnum1, hnum2, rises_key HK2.out HRI.out, fun r hr => ⟨(key_in HK2.out HIN.out r hr).1, (key_in HK2.out HIN.out r hr).2, P3.out.2.2.2.2.2.2 r hr⟩, fun h => by obtain ⟨h1, h2⟩ := HST.out h; obtain ⟨h3, h4⟩ := grd_key n fine zs os vs ko kv LX.length LX HK2.out; exact ⟨h3.trans h1, h4.trans h2⟩, fun h => by obtain ⟨h1, h2⟩ := HSF.out h; exact ⟨HK2.out.trans h1, h2⟩⟩
     case measure =>
       rw [HLN.out, HL3.out]
       cases f
       · show 0 < ln9 + 1; omega
       · have := hnum3 rfl; show ln2 + 1 < ln9 + 1; omega
set_option maxRecDepth 10000 in
set_option maxHeartbeats 4000000 in
theorem implGreedy_any (n fine : Int) (a ao av ra la : Option Addr) (zl cap ko co kv cv nr rc ln lc : Nat) (zs os vs L : List Int) (R : List RT) (w : World) (hA : IntsAt w a zs) (hO : IntsAt w ao os) (hV : IntsAt w av vs) (hlz : zs.length = zl) (hlo : os.length = ko * 6) (hlv : vs.length = kv * 5) (hko : ko <= 9223372036854775807) (hkv : kv <= 9223372036854775807) (hP : PlanIs w ra la nr ln R L) (hn : nr <= 1048576) (hi : ∀ r ∈ R, r.ids.length <= 1048576) (hll : ln <= 1048576) (hal : (allTo R R.length).length <= 1048576) (hwl : ∀ x ∈ L, (Lit.int .i64 x).wf = true) (hof : ∀ k, w.heap.size <= k -> Off k ra la R) :
   Calls Tryz.prog 20 #[.agg #[.int .i64 n, .slice a zl cap, .slice ao ko co, .slice av kv cv, .int .i64 fine], .agg #[.slice ra nr rc, .slice la ln lc]] w (OwnOk w (gaF n fine zs os vs ko kv R L) (gaR n fine zs os vs ko kv R L) (gaL n fine zs os vs ko kv R L)) := by
 have HA : Hid (IntsAt w a zs) := hA
 have HO : Hid (IntsAt w ao os) := hO
 have HV : Hid (IntsAt w av vs) := hV
 have HLZ : Hid (zs.length = zl) := hlz
 have HLO : Hid (os.length = ko * 6) := hlo
 have HLV : Hid (vs.length = kv * 5) := hlv
 have HP : Hid (PlanIs w ra la nr ln R L) := hP
 have HN : Hid (R.length = nr) := hP.1
 have HM : Hid (L.length = ln) := hP.2.1
 have HI : Hid (∀ r ∈ R, r.ids.length <= 1048576) := hi
 clear hA hO hV hlz hlo hlv hP hi
 obtain ⟨pv, HPV⟩ : ∃ v, Hid (planV n zs os vs ko kv fine R L = v) := ⟨_, rfl⟩
 have HIN : Hid (pv = 0 -> caseB n zs os vs ko kv fine = true /\ Rises R /\ RtsIn R /\ R.length <= 12 /\ L.length <= 12 /\ ko <= 12 /\ kv <= 5) := fun h => plan_in (HPV.out.trans h) HP.out.2.2.2.2.2.2
 have HGF : Hid (gaF n fine zs os vs ko kv R L = if pv = 0 then true else false) := by show _ = _; unfold gaF; rw [HPV.out]
 have HGR : Hid (gaR n fine zs os vs ko kv R L = if pv = 0 then (grd n fine zs os vs ko kv L.length R L).1 else []) := by show _ = _; unfold gaR; rw [HPV.out]
 have HGL : Hid (gaL n fine zs os vs ko kv R L = if pv = 0 then (grd n fine zs os vs ko kv L.length R L).2 else []) := by show _ = _; unfold gaL; rw [HPV.out]
 obtain ⟨GF, HF⟩ : ∃ v, Hid (gaF n fine zs os vs ko kv R L = v) := ⟨_, rfl⟩
 obtain ⟨GR, HR⟩ : ∃ v, Hid (gaR n fine zs os vs ko kv R L = v) := ⟨_, rfl⟩
 obtain ⟨GL, HL⟩ : ∃ v, Hid (gaL n fine zs os vs ko kv R L = v) := ⟨_, rfl⟩
 rw [HF.out] at HGF ⊢
 rw [HR.out] at HGR ⊢
 rw [HL.out] at HGL ⊢
 have Q0 : Hid (GQ w (((w.alloc (.cells #[.int .i64 n, .slice a zl cap, .slice ao ko co, .slice av kv cv, .int .i64 fine] 43)).alloc (.cells #[.slice ra nr rc, .slice la ln lc] 36)).alloc (.cells #[.slice none 0 0, .slice none 0 0] 36)) #[.int .i64 n, .slice a zl cap, .slice ao ko co, .slice av kv cv, .int .i64 fine] #[.slice ra nr rc, .slice la ln lc]) := by
   refine ⟨(((Below.refl _ _).alloc (Nat.le_refl _) _).alloc (by simp) _).alloc (by simp; omega) _, ?_, ?_, ?_⟩
   · exact (heap_alloc_old _ _ (by simp; omega)).trans (heap_alloc2_old _ _ _)
   · exact (heap_alloc_old _ _ (by simp)).trans (heap_alloc2_new _ _ _)
   · have := heap_alloc_new ((w.alloc (.cells #[.int .i64 n, .slice a zl cap, .slice ao ko co, .slice av kv cv, .int .i64 fine] 43)).alloc (.cells #[.slice ra nr rc, .slice la ln lc] 36)) (.cells #[.slice none 0 0, .slice none 0 0] 36)
     simpa using this
 have PC := implPlan_any n fine a ao av ra la cap ko co kv cv rc lc zs os vs L R (((w.alloc (.cells #[.int .i64 n, .slice a zl cap, .slice ao ko co, .slice av kv cv, .int .i64 fine] 43)).alloc (.cells #[.slice ra nr rc, .slice la ln lc] 36)).alloc (.cells #[.slice none 0 0, .slice none 0 0] 36)) (HA.out.below Q0.out.b) (HO.out.below Q0.out.b) (HV.out.below Q0.out.b) (HP.out.2.2.1.below Q0.out.b) (HP.out.2.2.2.1.below Q0.out.b) HLO.out HLV.out hko hkv (by rw [HN.out]; exact hn) HI.out HP.out.2.2.2.2.2.2 (by rw [HM.out]; exact hll) hal hwl
 rw [HN.out, HM.out, HLZ.out, HPV.out] at PC
 obtain ⟨c0, c1, c2, c3, c4⟩ := cells5 Q0.out.c
 obtain ⟨p0, p1⟩ := cells2 Q0.out.p
 go_enter Tryz.func20, Tryz.ntmps20
 go_wp2_with fail
 generalize ((w.alloc (.cells #[.int .i64 n, .slice a zl cap, .slice ao ko co, .slice av kv cv, .int .i64 fine] 43)).alloc (.cells #[.slice ra nr rc, .slice la ln lc] 36)).alloc (.cells #[.slice none 0 0, .slice none 0 0] 36) = W0 at *
 refine PC.mono ?_
 rintro e w1 ⟨rfl, hb⟩
 have Q1 : Hid (GQ w w1 #[.int .i64 n, .slice a zl cap, .slice ao ko co, .slice av kv cv, .int .i64 fine] #[.slice ra nr rc, .slice la ln lc]) := Q0.out.below hb
 clear hb PC c0 c1 c2 c3 c4 p0 p1 Q0 HF HR HL
 obtain ⟨a0, a1⟩ := cells2 Q1.out.o
 have af := fun i => frozen_of_row _ _ i _ _ Q1.out.o
 by_cases hpv : pv = 0
 · obtain ⟨hcb, hri, hrt, hr12, hl12, hk12, hk5⟩ := HIN.out hpv
   have hgf : GF = true := by rw [HGF.out, if_pos hpv]
   have hgr : GR = (grd n fine zs os vs ko kv L.length R L).1 := by rw [HGR.out, if_pos hpv]
   have hgl : GL = (grd n fine zs os vs ko kv L.length R L).2 := by rw [HGL.out, if_pos hpv]
   have G1 := greedy_any n fine a ao av ra la zl cap ko co kv cv nr rc ln lc zs os vs L R w1 (HA.out.below Q1.out.b) (HO.out.below Q1.out.b) (HV.out.below Q1.out.b) HLZ.out HLO.out HLV.out hk12 hk5 hcb (HP.out.below Q1.out.b) (by rw [<- HN.out]; omega) (by rw [<- HM.out]; exact hl12) hri hrt (fun k hk => hof k (Nat.le_trans Q1.out.b.size hk))
   rw [<- hgr, <- hgl] at G1
   subst hgf
   subst hpv
   clear HIN HGF HGR HGL HPV hgr hgl hcb hri hrt
   obtain ⟨c0, c1, c2, c3, c4⟩ := cells5 Q1.out.c
   obtain ⟨p0, p1⟩ := cells2 Q1.out.p
   go_wp2_with fail
   refine G1.mono ?_
   rintro e w2 ⟨ra2, rn2, rc2, la2, ln2, lc2, R2, rfl, hb, hpi, hk2, hi2, hn2, hl2⟩
   have QA : Hid (GQ w w2 #[.int .i64 n, .slice a zl cap, .slice ao ko co, .slice av kv cv, .int .i64 fine] #[.slice ra nr rc, .slice la ln lc]) := Q1.out.below hb
   have PA : Hid (PlanIs w2 ra2 la2 rn2 ln2 R2 GL) := hpi
   have HK2 : Hid (R2.map RT.key = GR.map RT.key) := hk2
   have CC := copyOfPlan_any ra2 la2 rc2 lc2 R2 GL w2 PA.out.2.2.1 PA.out.2.2.2.1 (by rw [PA.out.2.1]; exact PA.out.2.2.2.2.2.1) (by rw [PA.out.1]; omega) hi2 (by rw [PA.out.2.1]; omega)
   rw [PA.out.1, PA.out.2.1] at CC
   clear hb hpi hk2 hi2 G1 c0 c1 c2 c3 c4 p0 p1 a0 a1 af Q1
   go_wp2_with fail
   refine CC.mono ?_
   rintro e w4 ⟨ra4, rc4, la4, lc4, S4, rfl, hb, hk4, hpo, hap⟩
   rw [PA.out.1, PA.out.2.1] at hpo
   rw [PA.out.1, PA.out.2.1]
   have Q4 : Hid (GQ w w4 #[.int .i64 n, .slice a zl cap, .slice ao ko co, .slice av kv cv, .int .i64 fine] #[.slice ra nr rc, .slice la ln lc]) := QA.out.below hb
   have P4 : Hid (PO w4 (w.heap.size + 3) (.slice ra4 rn2 rc4) S4 (.slice la4 ln2 lc4) GL) := hpo.base (by have := QA.out.size; omega)
   have HK4 : Hid (S4.map RT.key = GR.map RT.key) := hk4.trans HK2.out
   have HSL : Hid (S4.length = rn2) := by have := congrArg List.length hk4; simp only [List.length_map] at this; exact this.trans PA.out.1
   have HLL : Hid (GL.length = ln2) := PA.out.2.1
   have HAP : Hid (Apart S4 la4) := hap
   clear hb hpo hk4 hap CC QA PA
   obtain ⟨a0, a1⟩ := cells2 Q4.out.o
   have af := fun i => frozen_of_row _ _ i _ _ Q4.out.o
   have s1 := heap_setCell_same w4 (w.heap.size + 2) 0 _ _ (Value.slice ra4 rn2 rc4) Q4.out.o
   have P5 : Hid (PO ((w4.setCell ⟨w.heap.size + 2, 0, none⟩ (.slice ra4 rn2 rc4)).setCell ⟨w.heap.size + 2, 1, none⟩ (.slice la4 ln2 lc4)) (w.heap.size + 3) (.slice ra4 rn2 rc4) S4 (.slice la4 ln2 lc4) GL) := (P4.out.box Q4.out.o).box s1
   have B5 : Hid (Below w.heap.size w ((w4.setCell ⟨w.heap.size + 2, 0, none⟩ (.slice ra4 rn2 rc4)).setCell ⟨w.heap.size + 2, 1, none⟩ (.slice la4 ln2 lc4))) := (Q4.out.b.setCell (by simp) _).setCell (by simp) _
   clear s1
   go_wp2
   refine bodyPost_ret (v := .tuple #[.agg #[.slice ra4 rn2 rc4, .slice la4 ln2 lc4], .bool true]) (by simp [results, Tryz.results20, go_sem, a0, a1]) rfl ?_
   show OwnOk _ _ _ _ _ _
   exact ⟨ra4, rn2, rc4, la4, ln2, lc4, S4, rfl, B5.out, HSL.out, HLL.out, HK4.out, P5.out.base (by omega), HAP.out⟩
 · have hgf : GF = false := by rw [HGF.out, if_neg hpv]
   have hgr : GR = [] := by rw [HGR.out, if_neg hpv]
   have hgl : GL = [] := by rw [HGL.out, if_neg hpv]
   subst hgf hgr hgl
   have hpn : (pv != 0) = true := by simp [hpv]
   have B5 : Hid (Below w.heap.size w ((w1.setCell ⟨w.heap.size + 2, 0, none⟩ (.slice none 0 0)).setCell ⟨w.heap.size + 2, 1, none⟩ (.slice none 0 0))) := (Q1.out.b.setCell (by simp) _).setCell (by simp) _
   clear HIN HGF HGR HGL HPV hpv
   go_wp2
   refine bodyPost_ret (v := .tuple #[.agg #[.slice none 0 0, .slice none 0 0], .bool false]) (by simp [results, Tryz.results20, go_sem, a0, a1]) rfl ?_
   show OwnOk _ _ _ _ _ _
   exact ⟨none, 0, 0, none, 0, 0, [], rfl, B5.out, rfl, rfl, rfl, ⟨World.ownsRow_nil _ _ _ _, (fun s hs => by cases hs), World.ownsRow_nil _ _ _ _⟩, Apart.nil _⟩
end Go.Proofs.YtcljhgildbcdmaaGreat