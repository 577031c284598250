import Derived.Test.YtcljhgildbcdmaaGreatImplPlan
import Derived.Test.YtcljhgildbcdmaaGreatPack28
import Derived.Test.YtcljhgildbcdmaaGreatImplGreedy
import Derived.Test.YtcljhgildbcdmaaGreatPack38
namespace Go.Proofs.YtcljhgildbcdmaaGreat
open Go.RowKit

/-- A plan of the call's own, no two rows the same, with the routes T and left L, and a word. -/
def OwnOk (w : World) (f : Bool) (T : List RT) (L : List Int) (e : Ending) (w' : World) : Prop := ∃ ra rn rc la ln lc S, e = .returned (.tuple #[.agg #[.slice ra rn rc, .slice la ln lc], .bool f]) ∧ Below w.heap.size w w' ∧ S.length = rn ∧ L.length = ln ∧ S.map RT.key = T.map RT.key ∧ PO w' w.heap.size (.slice ra rn rc) S (.slice la ln lc) L ∧ Apart S la
set_option maxRecDepth 10000 in
set_option maxHeartbeats 4000000 in
theorem implGreedyOne_any (n fine : Int) (a ao av ra la : Option Addr) (zl cap ko co kv cv nr rc ln lc : Nat) (zs os vs L : List Int) (R : List RT) (w : World) (hA : IntsAt w a zs) (hO : IntsAt w ao os) (hV : IntsAt w av vs) (hlz : zs.length = zl) (hlo : os.length = ko * 6) (hlv : vs.length = kv * 5) (hko : ko ≤ 9223372036854775807) (hkv : kv ≤ 9223372036854775807) (hP : PlanIs w ra la nr ln R L) (hn : nr ≤ 1048576) (hi : ∀ r ∈ R, r.ids.length ≤ 1048576) (hll : ln ≤ 1048576) (hal : (allTo R R.length).length ≤ 1048576) (hwl : ∀ x ∈ L, (Lit.int .i64 x).wf = true) :
    Calls Tryz.prog 13 #[.agg #[.int .i64 n, .slice a zl cap, .slice ao ko co, .slice av kv cv, .int .i64 fine], .agg #[.slice ra nr rc, .slice la ln lc]] w (OwnOk w (goF n fine zs os vs ko kv R L) (goR n fine zs os vs ko kv R L) (goL n fine zs os vs ko kv R L)) := by
  have HA : Hid (IntsAt w a zs) := hA
  have HO : Hid (IntsAt w ao os) := hO
  have HV : Hid (IntsAt w av vs) := hV
  have HLZ : Hid (zs.length = zl) := hlz
  have HLO : Hid (os.length = ko * 6) := hlo
  have HLV : Hid (vs.length = kv * 5) := hlv
  have HP : Hid (PlanIs w ra la nr ln R L) := hP
  have HN : Hid (R.length = nr) := hP.1
  have HM : Hid (L.length = ln) := hP.2.1
  have HI : Hid (∀ r ∈ R, r.ids.length ≤ 1048576) := hi
  clear hA hO hV hlz hlo hlv hP hi
  obtain ⟨pv, HPV⟩ : ∃ v, Hid (planV n zs os vs ko kv fine R L = v) := ⟨_, rfl⟩
  have HIN : Hid (pv = 0 → caseB n zs os vs ko kv fine = true ∧ Rises R ∧ RtsIn R ∧ R.length ≤ 12 ∧ L.length ≤ 12 ∧ ko ≤ 12 ∧ kv ≤ 5) := fun h => plan_in (HPV.out.trans h) HP.out.2.2.2.2.2.2
  have HGF : Hid (goF n fine zs os vs ko kv R L = if pv = 0 then (oneQ n fine zs os vs ko kv R L).f else false) := by show _ = _; unfold goF; rw [HPV.out]
  have HGR : Hid (goR n fine zs os vs ko kv R L = if pv = 0 then oneR n fine zs os vs ko kv R L else []) := by show _ = _; unfold goR; rw [HPV.out]
  have HGL : Hid (goL n fine zs os vs ko kv R L = if pv = 0 then oneL n fine zs os vs ko kv R L else []) := by show _ = _; unfold goL; rw [HPV.out]
  obtain ⟨GF, HF⟩ : ∃ v, Hid (goF n fine zs os vs ko kv R L = v) := ⟨_, rfl⟩
  obtain ⟨GR, HR⟩ : ∃ v, Hid (goR n fine zs os vs ko kv R L = v) := ⟨_, rfl⟩
  obtain ⟨GL, HL⟩ : ∃ v, Hid (goL n fine zs os vs ko kv R L = v) := ⟨_, rfl⟩
  rw [HF.out] at HGF ⊢
  rw [HR.out] at HGR ⊢
  rw [HL.out] at HGL ⊢
  have Q0 : Hid (GQ w (((w.alloc (.cells #[.int .i64 n, .slice a zl cap, .slice ao ko co, .slice av kv cv, .int .i64 fine] 43)).alloc (.cells #[.slice ra nr rc, .slice la ln lc] 36)).alloc (.cells #[.slice none 0 0, .slice none 0 0] 36)) #[.int .i64 n, .slice a zl cap, .slice ao ko co, .slice av kv cv, .int .i64 fine] #[.slice ra nr rc, .slice la ln lc]) := by
    refine ⟨(((Below.refl _ _).alloc (Nat.le_refl _) _).alloc (by simp) _).alloc (by simp; omega) _, ?_, ?_, ?_⟩
    · exact (heap_alloc_old _ _ (by simp; omega)).trans (heap_alloc2_old _ _ _)
    · exact (heap_alloc_old _ _ (by simp)).trans (heap_alloc2_new _ _ _)
    · have := heap_alloc_new ((w.alloc (.cells #[.int .i64 n, .slice a zl cap, .slice ao ko co, .slice av kv cv, .int .i64 fine] 43)).alloc (.cells #[.slice ra nr rc, .slice la ln lc] 36)) (.cells #[.slice none 0 0, .slice none 0 0] 36)
      simpa using this
  have PC := implPlan_any n fine a ao av ra la cap ko co kv cv rc lc zs os vs L R (((w.alloc (.cells #[.int .i64 n, .slice a zl cap, .slice ao ko co, .slice av kv cv, .int .i64 fine] 43)).alloc (.cells #[.slice ra nr rc, .slice la ln lc] 36)).alloc (.cells #[.slice none 0 0, .slice none 0 0] 36)) (HA.out.below Q0.out.b) (HO.out.below Q0.out.b) (HV.out.below Q0.out.b) (HP.out.2.2.1.below Q0.out.b) (HP.out.2.2.2.1.below Q0.out.b) HLO.out HLV.out hko hkv (by rw [HN.out]; exact hn) HI.out HP.out.2.2.2.2.2.2 (by rw [HM.out]; exact hll) hal hwl
  rw [HN.out, HM.out, HLZ.out, HPV.out] at PC
  obtain ⟨c0, c1, c2, c3, c4⟩ := cells5 Q0.out.c
  obtain ⟨p0, p1⟩ := cells2 Q0.out.p
  go_enter Tryz.func13, Tryz.ntmps13
  go_wp2_with fail
  generalize ((w.alloc (.cells #[.int .i64 n, .slice a zl cap, .slice ao ko co, .slice av kv cv, .int .i64 fine] 43)).alloc (.cells #[.slice ra nr rc, .slice la ln lc] 36)).alloc (.cells #[.slice none 0 0, .slice none 0 0] 36) = W0 at *
  refine PC.mono ?_
  rintro e w1 ⟨rfl, hb⟩
  have Q1 : Hid (GQ w w1 #[.int .i64 n, .slice a zl cap, .slice ao ko co, .slice av kv cv, .int .i64 fine] #[.slice ra nr rc, .slice la ln lc]) := Q0.out.below hb
  clear hb PC c0 c1 c2 c3 c4 p0 p1 Q0 HF HR HL
  obtain ⟨a0, a1⟩ := cells2 Q1.out.o
  have af := fun i => frozen_of_row _ _ i _ _ Q1.out.o
  by_cases hpv : pv = 0
  · obtain ⟨hcb, hri, hrt, hr12, hl12, hk12, hk5⟩ := HIN.out hpv
    have hgf : GF = (oneQ n fine zs os vs ko kv R L).f := by rw [HGF.out, if_pos hpv]
    have hgr : GR = oneR n fine zs os vs ko kv R L := by rw [HGR.out, if_pos hpv]
    have hgl : GL = oneL n fine zs os vs ko kv R L := by rw [HGL.out, if_pos hpv]
    have G1 := greedyOne_any n fine a ao av ra la zl cap ko co kv cv nr rc ln lc zs os vs L R w1 (HA.out.below Q1.out.b) (HO.out.below Q1.out.b) (HV.out.below Q1.out.b) HLZ.out HLO.out HLV.out hk12 hk5 hcb (HP.out.below Q1.out.b) (by rw [← HN.out]; omega) (by rw [← HM.out]; exact hl12) hri hrt
    rw [← hgf, ← hgr, ← hgl] at G1
    have HGI : Hid ((∀ r ∈ GR, r.ids ≠ [] ∧ r.ids.length ≤ 12) ∧ GR.length ≤ 500 ∧ GL.length ≤ 500) := by
      rw [hgr, hgl]
      exact one_in hrt (by omega) (by omega)
    subst hpv
    clear HIN HGF HGR HGL HPV hgf hgr hgl hcb hri hrt
    obtain ⟨c0, c1, c2, c3, c4⟩ := cells5 Q1.out.c
    obtain ⟨p0, p1⟩ := cells2 Q1.out.p
    go_wp2_with fail
    refine G1.mono ?_
    rintro e w2 ⟨ra2, rn2, rc2, la2, ln2, lc2, R2, rfl, hb, hpi, hk2⟩
    have Q2 : Hid (GQ w w2 #[.int .i64 n, .slice a zl cap, .slice ao ko co, .slice av kv cv, .int .i64 fine] #[.slice ra nr rc, .slice la ln lc]) := Q1.out.below hb
    have PI2 : Hid (PlanIs w2 ra2 la2 rn2 ln2 R2 GL) := hpi
    have HK2 : Hid (R2.map RT.key = GR.map RT.key) := hk2
    clear hb hpi hk2 G1 c0 c1 c2 c3 c4 p0 p1 a0 a1 af Q1
    have QA : Hid (GQ w ((w2.alloc (.cells #[.slice ra2 rn2 rc2, .slice la2 ln2 lc2] 36))) #[.int .i64 n, .slice a zl cap, .slice ao ko co, .slice av kv cv, .int .i64 fine] #[.slice ra nr rc, .slice la ln lc]) := Q2.out.below ((Below.refl _ _).alloc (Nat.le_refl _) _)
    have PA : Hid (PlanIs (w2.alloc (.cells #[.slice ra2 rn2 rc2, .slice la2 ln2 lc2] 36)) ra2 la2 rn2 ln2 R2 GL) := PI2.out.below ((Below.refl _ _).alloc (Nat.le_refl _) _)
    have hk9 : R2.length = GR.length := by have := congrArg List.length HK2.out; simpa using this
    have CC := copyOfPlan_any ra2 la2 rc2 lc2 R2 GL (w2.alloc (.cells #[.slice ra2 rn2 rc2, .slice la2 ln2 lc2] 36)) PA.out.2.2.1 PA.out.2.2.2.1 (by rw [PA.out.2.1]; exact PA.out.2.2.2.2.2.1) (by have := HGI.out.2.1; omega) (fun r hr => key_in HK2.out HGI.out.1 r hr) HGI.out.2.2
    rw [PA.out.1, PA.out.2.1] at CC
    have NB : Hid ((w2.alloc (.cells #[.slice ra2 rn2 rc2, .slice la2 ln2 lc2] 36)).heap[w2.heap.size]? = some (.cells #[.slice ra2 rn2 rc2, .slice la2 ln2 lc2] 36 (0, 0))) := heap_alloc_new _ _
    obtain ⟨n0, n1⟩ := cells2 NB.out
    go_wp2_with fail
    generalize w2.alloc (.cells #[.slice ra2 rn2 rc2, .slice la2 ln2 lc2] 36) = w3 at *
    refine CC.mono ?_
    rintro e w4 ⟨ra4, rc4, la4, lc4, S4, rfl, hb, hk4, hpo, hap⟩
    rw [PA.out.1, PA.out.2.1] at hpo
    rw [PA.out.1, PA.out.2.1]
    have Q4 : Hid (GQ w w4 #[.int .i64 n, .slice a zl cap, .slice ao ko co, .slice av kv cv, .int .i64 fine] #[.slice ra nr rc, .slice la ln lc]) := QA.out.below hb
    have P4 : Hid (PO w4 (w.heap.size + 3) (.slice ra4 rn2 rc4) S4 (.slice la4 ln2 lc4) GL) := hpo.base (by have := QA.out.size; omega)
    have HK4 : Hid (S4.map RT.key = GR.map RT.key) := hk4.trans HK2.out
    have HSL : Hid (S4.length = rn2) := by have := congrArg List.length hk4; simp only [List.length_map] at this; exact this.trans PA.out.1
    have HLL : Hid (GL.length = ln2) := PA.out.2.1
    have HAP : Hid (Apart S4 la4) := hap
    clear hb hpo hk4 hap CC hk9 n0 n1 NB QA PA
    obtain ⟨a0, a1⟩ := cells2 Q4.out.o
    have af := fun i => frozen_of_row _ _ i _ _ Q4.out.o
    have s1 := heap_setCell_same w4 (w.heap.size + 2) 0 _ _ (Value.slice ra4 rn2 rc4) Q4.out.o
    have P5 : Hid (PO ((w4.setCell ⟨w.heap.size + 2, 0, none⟩ (.slice ra4 rn2 rc4)).setCell ⟨w.heap.size + 2, 1, none⟩ (.slice la4 ln2 lc4)) (w.heap.size + 3) (.slice ra4 rn2 rc4) S4 (.slice la4 ln2 lc4) GL) := (P4.out.box Q4.out.o).box s1
    have B5 : Hid (Below w.heap.size w ((w4.setCell ⟨w.heap.size + 2, 0, none⟩ (.slice ra4 rn2 rc4)).setCell ⟨w.heap.size + 2, 1, none⟩ (.slice la4 ln2 lc4))) := (Q4.out.b.setCell (by simp) _).setCell (by simp) _
    clear s1
    go_wp2
    refine bodyPost_ret (v := .tuple #[.agg #[.slice ra4 rn2 rc4, .slice la4 ln2 lc4], .bool GF]) (by simp [results, Tryz.results13, go_sem, a0, a1]) rfl ?_
    show OwnOk _ _ _ _ _ _
    exact ⟨ra4, rn2, rc4, la4, ln2, lc4, S4, rfl, B5.out, HSL.out, HLL.out, HK4.out, P5.out.base (by omega), HAP.out⟩
  · have hgf : GF = false := by rw [HGF.out, if_neg hpv]
    have hgr : GR = [] := by rw [HGR.out, if_neg hpv]
    have hgl : GL = [] := by rw [HGL.out, if_neg hpv]
    subst hgf hgr hgl
    have hpn : (pv != 0) = true := by simp [hpv]
    have B5 : Hid (Below w.heap.size w ((w1.setCell ⟨w.heap.size + 2, 0, none⟩ (.slice none 0 0)).setCell ⟨w.heap.size + 2, 1, none⟩ (.slice none 0 0))) := (Q1.out.b.setCell (by simp) _).setCell (by simp) _
    clear HIN HGF HGR HGL HPV hpv
    go_wp2
    refine bodyPost_ret (v := .tuple #[.agg #[.slice none 0 0, .slice none 0 0], .bool false]) (by simp [results, Tryz.results13, go_sem, a0, a1]) rfl ?_
    show OwnOk _ _ _ _ _ _
    exact ⟨none, 0, 0, none, 0, 0, [], rfl, B5.out, rfl, rfl, rfl, ⟨World.ownsRow_nil _ _ _ _, (fun s hs => by cases hs), World.ownsRow_nil _ _ _ _⟩, Apart.nil _⟩

end Go.Proofs.YtcljhgildbcdmaaGreat
