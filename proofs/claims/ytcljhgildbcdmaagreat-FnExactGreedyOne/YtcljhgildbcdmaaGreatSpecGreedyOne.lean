import Derived.Test.YtcljhgildbcdmaaGreatPack2
import Derived.Test.YtcljhgildbcdmaaGreatSpecPlan
import Derived.Test.YtcljhgildbcdmaaGreatPack28
import Derived.Test.YtcljhgildbcdmaaGreatSpecOne
namespace Go.Proofs.YtcljhgildbcdmaaGreat
open Go.RowKit

/-- A plan of the call's own with the routes T and left L, and a word. -/
def SpecOk (w : World) (f : Bool) (T : List RT) (L : List Int) (e : Ending) (w' : World) : Prop := ∃ ra rn rc la ln lc S, e = .returned (.tuple #[.agg #[.slice ra rn rc, .slice la ln lc], .bool f]) ∧ Below w.heap.size w w' ∧ S.length = rn ∧ L.length = ln ∧ S.map RT.key = T.map RT.key ∧ PO w' w.heap.size (.slice ra rn rc) S (.slice la ln lc) L

set_option maxRecDepth 10000 in
set_option maxHeartbeats 4000000 in
theorem specGreedyOne_any (n fine : Int) (a ao ra : Option Addr) (zl cap ko co bv ov kv cv nr rc bl ol ln lc : Nat) (zs os vs L : List Int) (R : List RT) (w : World) (hA : IntsAt w a zs) (hO : IntsAt w ao os) (hV : IntsAt w (some ⟨bv, ov, none⟩) vs) (hlz : zs.length = zl) (hlo : os.length = ko * 6) (hlv : vs.length = kv * 5) (hko : ko ≤ 9223372036854775807) (hkv : kv ≤ 9223372036854775807) (hP : PlanIs w ra (some ⟨bl, ol, none⟩) nr ln R L) (hn : nr ≤ 1048576) (hi : ∀ r ∈ R, r.ids.length ≤ 1048576) (hll : ln ≤ 1048576) (hal : (allTo R R.length).length ≤ 1048576) (had : ∀ r ∈ R, ∃ g, r.a = some ⟨g, 0, none⟩) :
    Calls Tryz.prog 10 #[.agg #[.int .i64 n, .slice a zl cap, .slice ao ko co, .slice (some ⟨bv, ov, none⟩) kv cv, .int .i64 fine], .agg #[.slice ra nr rc, .slice (some ⟨bl, ol, none⟩) ln lc]] w (SpecOk w (goF n fine zs os vs ko kv R L) (goR n fine zs os vs ko kv R L) (goL n fine zs os vs ko kv R L)) := by
  have HA : Hid (IntsAt w a zs) := hA
  have HO : Hid (IntsAt w ao os) := hO
  have HV : Hid (IntsAt w (some ⟨bv, ov, none⟩) vs) := hV
  have HLZ : Hid (zs.length = zl) := hlz
  have HLO : Hid (os.length = ko * 6) := hlo
  have HLV : Hid (vs.length = kv * 5) := hlv
  have HP : Hid (PlanIs w ra (some ⟨bl, ol, none⟩) nr ln R L) := hP
  have HN : Hid (R.length = nr) := hP.1
  have HM : Hid (L.length = ln) := hP.2.1
  have HI : Hid (∀ r ∈ R, r.ids.length ≤ 1048576) := hi
  clear hA hO hV hlz hlo hlv hP hi
  obtain ⟨pv, HPV⟩ : ∃ v, Hid (planV n zs os vs ko kv fine R L = v) := ⟨_, rfl⟩
  have HIN : Hid (pv = 0 → caseB n zs os vs ko kv fine = true ∧ Rises R ∧ RtsIn R ∧ R.length ≤ 12 ∧ L.length ≤ 12 ∧ ko ≤ 12 ∧ kv ≤ 5) := fun h => plan_in (HPV.out.trans h) HP.out.2.2.2.2.2.2
  have HGF : Hid (goF n fine zs os vs ko kv R L = if pv = 0 then (oneQ n fine zs os vs ko kv R L).f else false) := by show _ = _; unfold goF; rw [HPV.out]
  have HGR : Hid (goR n fine zs os vs ko kv R L = if pv = 0 then oneR n fine zs os vs ko kv R L else []) := by show _ = _; unfold goR; rw [HPV.out]
  have HGL : Hid (goL n fine zs os vs ko kv R L = if pv = 0 then oneL n fine zs os vs ko kv R L else []) := by show _ = _; unfold goL; rw [HPV.out]
  obtain ⟨GF, HF⟩ : ∃ v, Hid (goF n fine zs os vs ko kv R L = v) := ⟨_, rfl⟩
  obtain ⟨GR, HR⟩ : ∃ v, Hid (goR n fine zs os vs ko kv R L = v) := ⟨_, rfl⟩
  obtain ⟨GL, HL⟩ : ∃ v, Hid (goL n fine zs os vs ko kv R L = v) := ⟨_, rfl⟩
  rw [HF.out] at HGF ⊢
  rw [HR.out] at HGR ⊢
  rw [HL.out] at HGL ⊢
  have Q0 : Hid (GQ w (((w.alloc (.cells #[.int .i64 n, .slice a zl cap, .slice ao ko co, .slice (some ⟨bv, ov, none⟩) kv cv, .int .i64 fine] 43)).alloc (.cells #[.slice ra nr rc, .slice (some ⟨bl, ol, none⟩) ln lc] 36)).alloc (.cells #[.slice none 0 0, .slice none 0 0] 36)) #[.int .i64 n, .slice a zl cap, .slice ao ko co, .slice (some ⟨bv, ov, none⟩) kv cv, .int .i64 fine] #[.slice ra nr rc, .slice (some ⟨bl, ol, none⟩) ln lc]) := by
    refine ⟨(((Below.refl _ _).alloc (Nat.le_refl _) _).alloc (by simp) _).alloc (by simp; omega) _, ?_, ?_, ?_⟩
    · exact (heap_alloc_old _ _ (by simp; omega)).trans (heap_alloc2_old _ _ _)
    · exact (heap_alloc_old _ _ (by simp)).trans (heap_alloc2_new _ _ _)
    · have := heap_alloc_new ((w.alloc (.cells #[.int .i64 n, .slice a zl cap, .slice ao ko co, .slice (some ⟨bv, ov, none⟩) kv cv, .int .i64 fine] 43)).alloc (.cells #[.slice ra nr rc, .slice (some ⟨bl, ol, none⟩) ln lc] 36)) (.cells #[.slice none 0 0, .slice none 0 0] 36)
      simpa using this
  have PC := specPlan_any n fine a ao (some ⟨bv, ov, none⟩) ra (some ⟨bl, ol, none⟩) cap ko co kv cv rc lc zs os vs L R (((w.alloc (.cells #[.int .i64 n, .slice a zl cap, .slice ao ko co, .slice (some ⟨bv, ov, none⟩) kv cv, .int .i64 fine] 43)).alloc (.cells #[.slice ra nr rc, .slice (some ⟨bl, ol, none⟩) ln lc] 36)).alloc (.cells #[.slice none 0 0, .slice none 0 0] 36)) (HA.out.below Q0.out.b) (HO.out.below Q0.out.b) (HV.out.below Q0.out.b) (HP.out.2.2.1.below Q0.out.b) (HP.out.2.2.2.1.below Q0.out.b) HLO.out HLV.out hko hkv (by rw [HN.out]; exact hn) HI.out HP.out.2.2.2.2.2.2 (by rw [HM.out]; exact hll) hal
  rw [HN.out, HM.out, HLZ.out, HPV.out] at PC
  obtain ⟨c0, c1, c2, c3, c4⟩ := cells5 Q0.out.c
  obtain ⟨p0, p1⟩ := cells2 Q0.out.p
  go_enter Tryz.func10, Tryz.ntmps10
  go_wp2_with fail
  generalize ((w.alloc (.cells #[.int .i64 n, .slice a zl cap, .slice ao ko co, .slice (some ⟨bv, ov, none⟩) kv cv, .int .i64 fine] 43)).alloc (.cells #[.slice ra nr rc, .slice (some ⟨bl, ol, none⟩) ln lc] 36)).alloc (.cells #[.slice none 0 0, .slice none 0 0] 36) = W0 at *
  refine PC.mono ?_
  rintro e w1 ⟨rfl, hb⟩
  have Q1 : Hid (GQ w w1 #[.int .i64 n, .slice a zl cap, .slice ao ko co, .slice (some ⟨bv, ov, none⟩) kv cv, .int .i64 fine] #[.slice ra nr rc, .slice (some ⟨bl, ol, none⟩) ln lc]) := Q0.out.below hb
  clear hb PC c0 c1 c2 c3 c4 p0 p1 Q0 HF HR HL
  obtain ⟨a0, a1⟩ := cells2 Q1.out.o
  have af := fun i => frozen_of_row _ _ i _ _ Q1.out.o
  by_cases hpv : pv = 0
  · obtain ⟨hcb, hri, hrt, hr12, hl12, hk12, hk5⟩ := HIN.out hpv
    have hgf : GF = (oneQ n fine zs os vs ko kv R L).f := by rw [HGF.out, if_pos hpv]
    have hgr : GR = oneR n fine zs os vs ko kv R L := by rw [HGR.out, if_pos hpv]
    have hgl : GL = oneL n fine zs os vs ko kv R L := by rw [HGL.out, if_pos hpv]
    have G1 := l5One_any n fine a ao ra zl cap ko co bv ov kv cv nr rc bl ol ln lc zs os vs L R w1 (HA.out.below Q1.out.b) (HO.out.below Q1.out.b) (HV.out.below Q1.out.b) HLZ.out HLO.out HLV.out hk12 hk5 hcb (HP.out.2.2.1.below Q1.out.b) HN.out (by rw [← HN.out]; omega) (HP.out.2.2.2.1.below Q1.out.b) HM.out (by rw [← HM.out]; exact hl12) hri hrt had
    rw [← hgf, ← hgr, ← hgl] at G1
    subst hpv
    clear HIN HGF HGR HGL HPV hgf hgr hgl hcb hri hrt
    obtain ⟨c0, c1, c2, c3, c4⟩ := cells5 Q1.out.c
    obtain ⟨p0, p1⟩ := cells2 Q1.out.p
    go_wp2_with fail
    refine G1.mono ?_
    rintro e w4 ⟨ra4, rn2, rc4, gl4, ln2, lc4, S4, rfl, hb, hsl, hll4, hk4, hpo⟩
    have Q4 : Hid (GQ w w4 #[.int .i64 n, .slice a zl cap, .slice ao ko co, .slice (some ⟨bv, ov, none⟩) kv cv, .int .i64 fine] #[.slice ra nr rc, .slice (some ⟨bl, ol, none⟩) ln lc]) := Q1.out.below hb
    have P4 : Hid (PO w4 (w.heap.size + 3) (.slice ra4 rn2 rc4) S4 (.slice (some ⟨gl4, 0, none⟩) ln2 lc4) GL) := hpo.base (by have := Q1.out.size; omega)
    have HK4 : Hid (S4.map RT.key = GR.map RT.key) := hk4
    have HSL : Hid (S4.length = rn2) := hsl
    have HLL : Hid (GL.length = ln2) := hll4
    clear hb hpo hk4 hsl hll4 G1 c0 c1 c2 c3 c4 p0 p1 a0 a1 af Q1
    obtain ⟨a0, a1⟩ := cells2 Q4.out.o
    have af := fun i => frozen_of_row _ _ i _ _ Q4.out.o
    have s1 := heap_setCell_same w4 (w.heap.size + 2) 0 _ _ (Value.slice ra4 rn2 rc4) Q4.out.o
    have P5 : Hid (PO ((w4.setCell ⟨w.heap.size + 2, 0, none⟩ (.slice ra4 rn2 rc4)).setCell ⟨w.heap.size + 2, 1, none⟩ (.slice (some ⟨gl4, 0, none⟩) ln2 lc4)) (w.heap.size + 3) (.slice ra4 rn2 rc4) S4 (.slice (some ⟨gl4, 0, none⟩) ln2 lc4) GL) := (P4.out.box Q4.out.o).box s1
    have B5 : Hid (Below w.heap.size w ((w4.setCell ⟨w.heap.size + 2, 0, none⟩ (.slice ra4 rn2 rc4)).setCell ⟨w.heap.size + 2, 1, none⟩ (.slice (some ⟨gl4, 0, none⟩) ln2 lc4))) := (Q4.out.b.setCell (by simp) _).setCell (by simp) _
    clear s1
    go_wp2
    refine bodyPost_ret (v := .tuple #[.agg #[.slice ra4 rn2 rc4, .slice (some ⟨gl4, 0, none⟩) ln2 lc4], .bool GF]) (by simp [results, Tryz.results10, go_sem, a0, a1]) rfl ?_
    show SpecOk _ _ _ _ _ _
    exact ⟨ra4, rn2, rc4, _, ln2, lc4, S4, rfl, B5.out, HSL.out, HLL.out, HK4.out, P5.out.base (by omega)⟩
  · have hgf : GF = false := by rw [HGF.out, if_neg hpv]
    have hgr : GR = [] := by rw [HGR.out, if_neg hpv]
    have hgl : GL = [] := by rw [HGL.out, if_neg hpv]
    subst hgf hgr hgl
    have hpn : (pv != 0) = true := by simp [hpv]
    have B5 : Hid (Below w.heap.size w ((w1.setCell ⟨w.heap.size + 2, 0, none⟩ (.slice none 0 0)).setCell ⟨w.heap.size + 2, 1, none⟩ (.slice none 0 0))) := (Q1.out.b.setCell (by simp) _).setCell (by simp) _
    clear HIN HGF HGR HGL HPV hpv
    go_wp2
    refine bodyPost_ret (v := .tuple #[.agg #[.slice none 0 0, .slice none 0 0], .bool false]) (by simp [results, Tryz.results10, go_sem, a0, a1]) rfl ?_
    show SpecOk _ _ _ _ _ _
    exact ⟨none, 0, 0, none, 0, 0, [], rfl, B5.out, rfl, rfl, rfl, ⟨World.ownsRow_nil _ _ _ _, (fun s hs => by cases hs), World.ownsRow_nil _ _ _ _⟩⟩

end Go.Proofs.YtcljhgildbcdmaaGreat
