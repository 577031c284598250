import Derived.Test.YtcljhgildbcdmaaGreatPack2
import Derived.Test.YtcljhgildbcdmaaGreatSpecPlan
import Derived.Test.YtcljhgildbcdmaaGreatPack28
import Derived.Test.YtcljhgildbcdmaaGreatPlainGreedy
import Derived.Test.YtcljhgildbcdmaaGreatSpecOne
namespace Go.Proofs.YtcljhgildbcdmaaGreat
open Go.RowKit
def SpecOk (w : World) (f : Bool) (T : List RT) (L : List Int) (e : Ending) (w' : World) : Prop := ∃ ra rn rc la ln lc S, e = .returned (.tuple #[.agg #[.slice ra rn rc, .slice la ln lc], .bool f]) /\ Below w.heap.size w w' /\ S.length = rn /\ L.length = ln /\ S.map RT.key = T.map RT.key /\ PO w' w.heap.size (.slice ra rn rc) S (.slice la ln lc) L
set_option maxRecDepth 10000 in
set_option maxHeartbeats 4000000 in
theorem specGreedyOne_any (n fine : Int) (a ao ra : Option Addr) (zl cap ko co bv ov kv cv nr rc bl ol ln lc : Nat) (zs os vs L : List Int) (R : List RT) (w : World) (hA : IntsAt w a zs) (hO : IntsAt w ao os) (hV : IntsAt w (some ⟨bv, ov, none⟩) vs) (hlz : zs.length = zl) (hlo : os.length = ko * 6) (hlv : vs.length = kv * 5) (hko : ko <= 9223372036854775807) (hkv : kv <= 9223372036854775807) (hP : PlanIs w ra (some ⟨bl, ol, none⟩) nr ln R L) (hn : nr <= 1048576) (hi : ∀ r ∈ R, r.ids.length <= 1048576) (hll : ln <= 1048576) (hal : (allTo R R.length).length <= 1048576) (had : ∀ r ∈ R, ∃ g, r.a = some ⟨g, 0, none⟩) :
   Calls Tryz.prog 10 #[.agg #[.int .i64 n, .slice a zl cap, .slice ao ko co, .slice (some ⟨bv, ov, none⟩) kv cv, .int .i64 fine], .agg #[.slice ra nr rc, .slice (some ⟨bl, ol, none⟩) ln lc]] w (SpecOk w (goF n fine zs os vs ko kv R L) (goR n fine zs os vs ko kv R L) (goL n fine zs os vs ko kv R L)) := by
 have HA : Hid (IntsAt w a zs) := hA
 have HO : Hid (IntsAt w ao os) := hO
 have HV : Hid (IntsAt w (some ⟨bv, ov, none⟩) vs) := hV
 have HLZ : Hid (zs.length = zl) := hlz
 have HLO : Hid (os.length = ko * 6) := hlo
 have HLV : Hid (vs.length = kv * 5) := hlv
 have HP : Hid (PlanIs w ra (some ⟨bl, ol, none⟩) nr ln R L) := hP
 have HN : Hid (R.length = nr) := hP.1
 have HM : Hid (L.length = ln) := hP.2.1
 have HI : Hid (∀ r ∈ R, r.ids.length <= 1048576) := hi
 clear hA hO hV hlz hlo hlv hP hi
 obtain ⟨pv, HPV⟩ : ∃ v, Hid (planV n zs os vs ko kv fine R L = v) := ⟨_, rfl⟩
 have HIN : Hid (pv = 0 -> caseB n zs os vs ko kv fine = true /\ Rises R /\ RtsIn R /\ R.length <= 12 /\ L.length <= 12 /\ ko <= 12 /\ kv <= 5) := fun h => plan_in (HPV.out.trans h) HP.out.2.2.2.2.2.2
 have HGF : Hid (goF n fine zs os vs ko kv R L = if pv = 0 then (oneQ n fine zs os vs ko kv R L).f else false) := by show _ = _; unfold goF; rw [HPV.out]
 have HGR : Hid (goR n fine zs os vs ko kv R L = if pv = 0 then oneR n fine zs os vs ko kv R L else []) := by show _ = _; unfold goR; rw [HPV.out]
 have HGL : Hid (goL n fine zs os vs ko kv R L = if pv = 0 then oneL n fine zs os vs ko kv R L else []) := by show _ = _; unfold goL; rw [HPV.out]
 obtain ⟨GF, HF⟩ : ∃ v, Hid (goF n fine zs os vs ko kv R L = v) := ⟨_, rfl⟩
 obtain ⟨GR, HR⟩ : ∃ v, Hid (goR n fine zs os vs ko kv R L = v) := ⟨_, rfl⟩
 obtain ⟨GL, HL⟩ : ∃ v, Hid (goL n fine zs os vs ko kv R L = v) := ⟨_, rfl⟩
 rw [HF.out] at HGF ⊢
 rw [HR.out] at HGR ⊢
 rw [HL.out] at HGL ⊢
 have Q0 : Hid (GQ w (((w.alloc (.cells #[.int .i64 n, .slice a zl cap, .slice ao ko co, .slice (some ⟨bv, ov, none⟩) kv cv, .int .i64 fine] 43)).alloc (.cells #[.slice ra nr rc, .slice (some ⟨bl, ol, none⟩) ln lc] 36)).alloc (.cells #[.slice none 0 0, .slice none 0 0] 36)) #[.int .i64 n, .slice a zl cap, .slice ao ko co, .slice (some ⟨bv, ov, none⟩) kv cv, .int .i64 fine] #[.slice ra nr rc, .slice (some ⟨bl, ol, none⟩) ln lc]) := by
   refine ⟨(((Below.refl _ _).alloc (Nat.le_refl _) _).alloc (by simp) _).alloc (by simp; omega) _, ?_, ?_, ?_⟩
   · exact (heap_alloc_old _ _ (by simp; omega)).trans (heap_alloc2_old _ _ _)
   · exact (heap_alloc_old _ _ (by simp)).trans (heap_alloc2_new _ _ _)
   · have := heap_alloc_new ((w.alloc (.cells #[.int .i64 n, .slice a zl cap, .slice ao ko co, .slice (some ⟨bv, ov, none⟩) kv cv, .int .i64 fine] 43)).alloc (.cells #[.slice ra nr rc, .slice (some ⟨bl, ol, none⟩) ln lc] 36)) (.cells #[.slice none 0 0, .slice none 0 0] 36)
     simpa using this
 have PC := specPlan_any n fine a ao (some ⟨bv, ov, none⟩) ra (some ⟨bl, ol, none⟩) cap ko co kv cv rc lc zs os vs L R (((w.alloc (.cells #[.int .i64 n, .slice a zl cap, .slice ao ko co, .slice (some ⟨bv, ov, none⟩) kv cv, .int .i64 fine] 43)).alloc (.cells #[.slice ra nr rc, .slice (some ⟨bl, ol, none⟩) ln lc] 36)).alloc (.cells #[.slice none 0 0, .slice none 0 0] 36)) (HA.out.below Q0.out.b) (HO.out.below Q0.out.b) (HV.out.below Q0.out.b) (HP.out.2.2.1.below Q0.out.b) (HP.out.2.2.2.1.below Q0.out.b) HLO.out HLV.out hko hkv (by rw [HN.out]; exact hn) HI.out HP.out.2.2.2.2.2.2 (by rw [HM.out]; exact hll) hal
 rw [HN.out, HM.out, HLZ.out, HPV.out] at PC
 obtain ⟨c0, c1, c2, c3, c4⟩ := cells5 Q0.out.c
 obtain ⟨p0, p1⟩ := cells2 Q0.out.p
 go_enter Tryz.func10, Tryz.ntmps10
 go_wp2_with fail
 generalize ((w.alloc (.cells #[.int .i64 n, .slice a zl cap, .slice ao ko co, .slice (some ⟨bv, ov, none⟩) kv cv, .int .i64 fine] 43)).alloc (.cells #[.slice ra nr rc, .slice (some ⟨bl, ol, none⟩) ln lc] 36)).alloc (.cells #[.slice none 0 0, .slice none 0 0] 36) = W0 at *
 refine PC.mono ?_
 rintro e w1 ⟨rfl, hb⟩
 have Q1 : Hid (GQ w w1 #[.int .i64 n, .slice a zl cap, .slice ao ko co, .slice (some ⟨bv, ov, none⟩) kv cv, .int .i64 fine] #[.slice ra nr rc, .slice (some ⟨bl, ol, none⟩) ln lc]) := Q0.out.below hb
 clear hb PC c0 c1 c2 c3 c4 p0 p1 Q0 HF HR HL
 obtain ⟨a0, a1⟩ := cells2 Q1.out.o
 have af := fun i => frozen_of_row _ _ i _ _ Q1.out.o
 by_cases hpv : pv = 0
 · obtain ⟨hcb, hri, hrt, hr12, hl12, hk12, hk5⟩ := HIN.out hpv
   have hgf : GF = (oneQ n fine zs os vs ko kv R L).f := by rw [HGF.out, if_pos hpv]
   have hgr : GR = oneR n fine zs os vs ko kv R L := by rw [HGR.out, if_pos hpv]
   have hgl : GL = oneL n fine zs os vs ko kv R L := by rw [HGL.out, if_pos hpv]
   have G1 := l5One_any n fine a ao ra zl cap ko co bv ov kv cv nr rc bl ol ln lc zs os vs L R w1 (HA.out.below Q1.out.b) (HO.out.below Q1.out.b) (HV.out.below Q1.out.b) HLZ.out HLO.out HLV.out hk12 hk5 hcb (HP.out.2.2.1.below Q1.out.b) HN.out (by rw [<- HN.out]; omega) (HP.out.2.2.2.1.below Q1.out.b) HM.out (by rw [<- HM.out]; exact hl12) hri hrt had
   rw [<- hgf, <- hgr, <- hgl] at G1
   subst hpv
   clear HIN HGF HGR HGL HPV hgf hgr hgl hcb hri hrt
   obtain ⟨c0, c1, c2, c3, c4⟩ := cells5 Q1.out.c
   obtain ⟨p0, p1⟩ := cells2 Q1.out.p
   go_wp2_with fail
   refine G1.mono ?_
   rintro e w4 ⟨ra4, rn2, rc4, gl4, ln2, lc4, S4, rfl, hb, hsl, hll4, hk4, hpo⟩
   have Q4 : Hid (GQ w w4 #[.int .i64 n, .slice a zl cap, .slice ao ko co, .slice (some ⟨bv, ov, none⟩) kv cv, .int .i64 fine] #[.slice ra nr rc, .slice (some ⟨bl, ol, none⟩) ln lc]) := Q1.out.below hb
   have P4 : Hid (PO w4 (w.heap.size + 3) (.slice ra4 rn2 rc4) S4 (.slice (some ⟨gl4, 0, none⟩) ln2 lc4) GL) := hpo.base (by have := Q1.out.size; omega)
   have HK4 : Hid (S4.map RT.key = GR.map RT.key) := hk4
   have HSL : Hid (S4.length = rn2) := hsl
   have HLL : Hid (GL.length = ln2) := hll4
   clear hb hpo hk4 hsl hll4 G1 c0 c1 c2 c3 c4 p0 p1 a0 a1 af Q1
   obtain ⟨a0, a1⟩ := cells2 Q4.out.o
   have af := fun i => frozen_of_row _ _ i _ _ Q4.out.o
   have s1 := heap_setCell_same w4 (w.heap.size + 2) 0 _ _ (Value.slice ra4 rn2 rc4) Q4.out.o
   have P5 : Hid (PO ((w4.setCell ⟨w.heap.size + 2, 0, none⟩ (.slice ra4 rn2 rc4)).setCell ⟨w.heap.size + 2, 1, none⟩ (.slice (some ⟨gl4, 0, none⟩) ln2 lc4)) (w.heap.size + 3) (.slice ra4 rn2 rc4) S4 (.slice (some ⟨gl4, 0, none⟩) ln2 lc4) GL) := (P4.out.box Q4.out.o).box s1
   have B5 : Hid (Below w.heap.size w ((w4.setCell ⟨w.heap.size + 2, 0, none⟩ (.slice ra4 rn2 rc4)).setCell ⟨w.heap.size + 2, 1, none⟩ (.slice (some ⟨gl4, 0, none⟩) ln2 lc4))) := (Q4.out.b.setCell (by simp) _).setCell (by simp) _
   clear s1
   go_wp2
   refine bodyPost_ret (v := .tuple #[.agg #[.slice ra4 rn2 rc4, .slice (some ⟨gl4, 0, none⟩) ln2 lc4], .bool GF]) (by simp [results, Tryz.results10, go_sem, a0, a1]) rfl ?_
   show SpecOk _ _ _ _ _ _
   exact ⟨ra4, rn2, rc4, _, ln2, lc4, S4, rfl, B5.out, HSL.out, HLL.out, HK4.out, P5.out.base (by omega)⟩
 · have hgf : GF = false := by rw [HGF.out, if_neg hpv]
   have hgr : GR = [] := by rw [HGR.out, if_neg hpv]
   have hgl : GL = [] := by rw [HGL.out, if_neg hpv]
   subst hgf hgr hgl
   have hpn : (pv != 0) = true := by simp [hpv]
   have B5 : Hid (Below w.heap.size w ((w1.setCell ⟨w.heap.size + 2, 0, none⟩ (.slice none 0 0)).setCell ⟨w.heap.size + 2, 1, none⟩ (.slice none 0 0))) := (Q1.out.b.setCell (by simp) _).setCell (by simp) _
   clear HIN HGF HGR HGL HPV hpv
   go_wp2
   refine bodyPost_ret (v := .tuple #[.agg #[.slice none 0 0, .slice none 0 0], .bool false]) (by simp [results, Tryz.results10, go_sem, a0, a1]) rfl ?_
   show SpecOk _ _ _ _ _ _
   exact ⟨none, 0, 0, none, 0, 0, [], rfl, B5.out, rfl, rfl, rfl, ⟨World.ownsRow_nil _ _ _ _, (fun s hs => by cases hs), World.ownsRow_nil _ _ _ _⟩⟩
end Go.Proofs.YtcljhgildbcdmaaGreat
namespace Go.Proofs.YtcljhgildbcdmaaGreat
open Go.RowKit
def leftS (W : World) (k : Nat) : Nat := match W.cell? ⟨k, 1, none⟩ with
 | some (.slice _ n _) => n
 | _ => 0
theorem off_own {w : World} {base size n rc k : Nat} {e : TypeId} {ra : Option Addr} {xs : List Value} (h : w.ownsRow base e size (.slice ra n rc) n xs) (hk : k < base) : ∀ b off, ra = some ⟨b, off, none⟩ -> b ≠ k := fun b off e9 => by
 rcases own_kinds h with ⟨e1, _⟩ | ⟨g, c, e1, h2, _⟩
 · simp only [Value.slice.injEq] at e1
   rw [e1.1] at e9; cases e9
 · simp only [Value.slice.injEq] at e1
   rw [e1.1] at e9
   simp only [Option.some.injEq, Addr.mk.injEq, and_true] at e9
   omega
theorem PO.is {w : World} {base rn rc ln lc : Nat} {ra la : Option Addr} {S : List RT} {L : List Int} (h : PO w base (.slice ra rn rc) S (.slice la ln lc) L) (hn : S.length = rn) (hl : L.length = ln) : PlanIs w ra la rn ln S L := by
 have hr := h.r
 have h2 := h.l
 rw [hn] at hr
 rw [hl] at h2
 exact ⟨hn, hl, routes_of_own hr (fun s hs => (h.ints s hs).1), own_ints_at h2, own_adr hr, own_adr h2, fun r hr => (h.ints r hr).2⟩
theorem PO.off {w : World} {base rn rc ln lc k : Nat} {ra la : Option Addr} {S : List RT} {L : List Int} (h : PO w base (.slice ra rn rc) S (.slice la ln lc) L) (hn : S.length = rn) (hl : L.length = ln) (hk : k < base) : Off k ra la S := by
 have hr := h.r
 have h2 := h.l
 rw [hn] at hr
 rw [hl] at h2
 exact ⟨off_own hr hk, off_own h2 hk, fun s hs => off_own (h.s s hs) hk⟩
theorem PO.ad {w : World} {base : Nat} {rs ls : Value} {S : List RT} {L : List Int} (h : PO w base rs S ls L) (hi : ∀ s ∈ S, s.ids ≠ []) : ∀ s ∈ S, ∃ g, s.a = some ⟨g, 0, none⟩ := fun s hs => by
 rcases own_kinds (h.s s hs) with ⟨_, h0⟩ | ⟨g, c, e1, _, _⟩
 · exact absurd (List.length_eq_zero_iff.1 h0) (hi s hs)
 · simp only [Value.slice.injEq] at e1
   exact ⟨g, e1.1⟩
def GreedOk (w : World) (T : List RT) (L : List Int) (e : Ending) (w' : World) : Prop := ∃ ra rn rc gl ln lc S, e = .returned (.agg #[.slice ra rn rc, .slice (some ⟨gl, 0, none⟩) ln lc]) /\ Below w.heap.size w w' /\ S.length = rn /\ L.length = ln /\ S.map RT.key = T.map RT.key /\ PO w' w.heap.size (.slice ra rn rc) S (.slice (some ⟨gl, 0, none⟩) ln lc) L
set_option maxRecDepth 10000 in
set_option maxHeartbeats 4000000 in
theorem l5Greedy_any (n fine : Int) (a ao ra : Option Addr) (zl cap ko co bv ov kv cv nr rc bl ol ln lc : Nat) (zs os vs L : List Int) (R : List RT) (w : World) (hA : IntsAt w a zs) (hO : IntsAt w ao os) (hV : IntsAt w (some ⟨bv, ov, none⟩) vs) (hlz : zs.length = zl) (hlo : os.length = ko * 6) (hlv : vs.length = kv * 5) (hko : ko <= 12) (hkv : kv <= 5) (hcB : caseB n zs os vs ko kv fine = true) (hP : PlanIs w ra (some ⟨bl, ol, none⟩) nr ln R L) (hn : nr <= 12) (hln : ln <= 12) (hS : Rises R) (hi : RtsIn R) (had : ∀ r ∈ R, ∃ g, r.a = some ⟨g, 0, none⟩) (hof : ∀ k, w.heap.size <= k -> Off k ra (some ⟨bl, ol, none⟩) R) :
   Calls Tryz.prog 54 #[.agg #[.int .i64 n, .slice a zl cap, .slice ao ko co, .slice (some ⟨bv, ov, none⟩) kv cv, .int .i64 fine], .agg #[.slice ra nr rc, .slice (some ⟨bl, ol, none⟩) ln lc]] w (GreedOk w (grd n fine zs os vs ko kv L.length R L).1 (grd n fine zs os vs ko kv L.length R L).2) := by
 have HA : Hid (IntsAt w a zs) := hA
 have HO : Hid (IntsAt w ao os) := hO
 have HV : Hid (IntsAt w (some ⟨bv, ov, none⟩) vs) := hV
 have HLZ : Hid (zs.length = zl) := hlz
 have HLO : Hid (os.length = ko * 6) := hlo
 have HLV : Hid (vs.length = kv * 5) := hlv
 have HCB : Hid (caseB n zs os vs ko kv fine = true) := hcB
 have HP : Hid (PlanIs w ra (some ⟨bl, ol, none⟩) nr ln R L) := hP
 have HS : Hid (Rises R) := hS
 have HI : Hid (RtsIn R) := hi
 have HAD : Hid (∀ r ∈ R, ∃ g, r.a = some ⟨g, 0, none⟩) := had
 have HOF : Hid (∀ k, w.heap.size <= k -> Off k ra (some ⟨bl, ol, none⟩) R) := hof
 clear hA hO hV hlz hlo hlv hcB hP hS hi had hof
 obtain ⟨TR, HTR⟩ : ∃ x, Hid ((grd n fine zs os vs ko kv L.length R L).1 = x) := ⟨_, rfl⟩
 obtain ⟨TL, HTL⟩ : ∃ x, Hid ((grd n fine zs os vs ko kv L.length R L).2 = x) := ⟨_, rfl⟩
 rw [HTR.out, HTL.out]
 have Q0 : Hid (GQ w (((w.alloc (.cells #[.int .i64 n, .slice a zl cap, .slice ao ko co, .slice (some ⟨bv, ov, none⟩) kv cv, .int .i64 fine] 43)).alloc (.cells #[.slice ra nr rc, .slice (some ⟨bl, ol, none⟩) ln lc] 36)).alloc (.cells #[.slice none 0 0, .slice none 0 0] 36)) #[.int .i64 n, .slice a zl cap, .slice ao ko co, .slice (some ⟨bv, ov, none⟩) kv cv, .int .i64 fine] #[.slice ra nr rc, .slice (some ⟨bl, ol, none⟩) ln lc]) := by
   refine ⟨(((Below.refl _ _).alloc (Nat.le_refl _) _).alloc (by simp) _).alloc (by simp; omega) _, ?_, ?_, ?_⟩
   · exact (heap_alloc_old _ _ (by simp; omega)).trans (heap_alloc2_old _ _ _)
   · exact (heap_alloc_old _ _ (by simp)).trans (heap_alloc2_new _ _ _)
   · have := heap_alloc_new ((w.alloc (.cells #[.int .i64 n, .slice a zl cap, .slice ao ko co, .slice (some ⟨bv, ov, none⟩) kv cv, .int .i64 fine] 43)).alloc (.cells #[.slice ra nr rc, .slice (some ⟨bl, ol, none⟩) ln lc] 36)) (.cells #[.slice none 0 0, .slice none 0 0] 36)
     simpa using this
 have HP0 : Hid (PlanIs (((w.alloc (.cells #[.int .i64 n, .slice a zl cap, .slice ao ko co, .slice (some ⟨bv, ov, none⟩) kv cv, .int .i64 fine] 43)).alloc (.cells #[.slice ra nr rc, .slice (some ⟨bl, ol, none⟩) ln lc] 36)).alloc (.cells #[.slice none 0 0, .slice none 0 0] 36)) ra (some ⟨bl, ol, none⟩) nr ln R L) := HP.out.below Q0.out.b
 go_enter Tryz.func54, Tryz.ntmps54
 go_wp2_with fail
 generalize ((w.alloc (.cells #[.int .i64 n, .slice a zl cap, .slice ao ko co, .slice (some ⟨bv, ov, none⟩) kv cv, .int .i64 fine] 43)).alloc (.cells #[.slice ra nr rc, .slice (some ⟨bl, ol, none⟩) ln lc] 36)).alloc (.cells #[.slice none 0 0, .slice none 0 0] 36) = W0 at *
 go_loopw [6] (fun _ wr => ∃ (ra9 : Option Addr) (rn9 rc9 bl9 ol9 ln9 lc9 : Nat) (R9 : List RT) (L9 : List Int), GQ w wr #[.int .i64 n, .slice a zl cap, .slice ao ko co, .slice (some ⟨bv, ov, none⟩) kv cv, .int .i64 fine] #[.slice ra9 rn9 rc9, .slice (some ⟨bl9, ol9, none⟩) ln9 lc9] /\ PlanIs wr ra9 (some ⟨bl9, ol9, none⟩) rn9 ln9 R9 L9 /\ Off (w.heap.size + 1) ra9 (some ⟨bl9, ol9, none⟩) R9 /\ (∀ r ∈ R9, ∃ g, r.a = some ⟨g, 0, none⟩) /\ rn9 + ln9 <= 24 /\ ln9 <= 12 /\ Rises R9 /\ RtsIn R9 /\ (grd n fine zs os vs ko kv L9.length R9 L9).1.map RT.key = TR.map RT.key /\ (grd n fine zs os vs ko kv L9.length R9 L9).2 = TL) (fun _ wr => leftS wr (w.heap.size + 1))
 case atStart => exact ⟨ra, nr, rc, bl, ol, ln, lc, R, L, Q0.out, HP0.out, HOF.out _ (by omega), HAD.out, by omega, hln, HS.out, HI.out, by rw [HTR.out], HTL.out⟩
 case round =>
   clear Q0 HP0 HP HS HI HOF HAD
   obtain ⟨ra9, rn9, rc9, bl9, ol9, ln9, lc9, R9, L9, hq, hp, ho1, had, h24, h12, hs, hi, ht1, ht2⟩ := hrel
   have Q1 : Hid (GQ w wr #[.int .i64 n, .slice a zl cap, .slice ao ko co, .slice (some ⟨bv, ov, none⟩) kv cv, .int .i64 fine] #[.slice ra9 rn9 rc9, .slice (some ⟨bl9, ol9, none⟩) ln9 lc9]) := hq
   have P1 : Hid (PlanIs wr ra9 (some ⟨bl9, ol9, none⟩) rn9 ln9 R9 L9) := hp
   have S1 : Hid (Rises R9) := hs
   have I1 : Hid (RtsIn R9) := hi
   obtain ⟨c0, c1, c2, c3, c4⟩ := cells5 Q1.out.c
   obtain ⟨p0, p1⟩ := cells2 Q1.out.p
   have HLN : Hid (leftS wr (w.heap.size + 1) = ln9) := by show _ = _; unfold leftS; rw [p1]
   have G1 := l5One_any n fine a ao ra9 zl cap ko co bv ov kv cv rn9 rc9 bl9 ol9 ln9 lc9 zs os vs L9 R9 wr (HA.out.below Q1.out.b) (HO.out.below Q1.out.b) (HV.out.below Q1.out.b) HLZ.out HLO.out HLV.out hko hkv HCB.out P1.out.2.2.1 P1.out.1 (by omega) P1.out.2.2.2.1 P1.out.2.1 h12 S1.out I1.out had
   have hmore := one_more n fine zs os vs ko kv (R := R9) (L := L9)
   have hless := fun h => one_less n fine zs os vs ko kv (R := R9) (L := L9) h
   have hin := one_in (n := n) (fine := fine) (zs := zs) (os := os) (vs := vs) (ko := ko) (kv := kv) (L := L9) I1.out (by rw [P1.out.1]; omega) (by rw [P1.out.2.1]; omega)
   have hris := one_rises n fine zs os vs ko kv (L := L9) S1.out
   rw [P1.out.1] at hmore
   rw [P1.out.2.1] at hless
   obtain ⟨f, HFF⟩ : ∃ x, Hid ((oneQ n fine zs os vs ko kv R9 L9).f = x) := ⟨_, rfl⟩
   obtain ⟨RX, HRX⟩ : ∃ x, Hid (oneR n fine zs os vs ko kv R9 L9 = x) := ⟨_, rfl⟩
   obtain ⟨LX, HLX⟩ : ∃ x, Hid (oneL n fine zs os vs ko kv R9 L9 = x) := ⟨_, rfl⟩
   have HST : Hid (f = true -> (grd n fine zs os vs ko kv LX.length RX LX).1.map RT.key = TR.map RT.key /\ (grd n fine zs os vs ko kv LX.length RX LX).2 = TL /\ LX.length < ln9) := fun h => by
     rw [grd_step n fine zs os vs ko kv (HFF.out.trans h), HRX.out, HLX.out] at ht1 ht2
     exact ⟨ht1, ht2, by rw [<- HLX.out]; exact hless (HFF.out.trans h)⟩
   have HSF : Hid (f = false -> R9.map RT.key = TR.map RT.key /\ L9 = TL) := fun h => by
     rw [grd_stop n fine zs os vs ko kv (HFF.out.trans h)] at ht1 ht2
     exact ⟨ht1, ht2⟩
   rw [HFF.out, HRX.out, HLX.out] at G1
   rw [HRX.out] at hin hris hmore
   have HMR : Hid (RX.length <= rn9 + 1) := hmore
   have HIN : Hid (∀ r ∈ RX, r.ids ≠ [] /\ r.ids.length <= 12) := hin.1
   have HRI : Hid (Rises RX) := hris
   clear hq hp hs hi ht1 ht2 hmore hless hin hris had ho1 HFF HRX HLX
   go_wp2_with fail
   refine G1.mono ?_
   rintro e w2 ⟨ra2, rn2, rc2, gl2, ln2, lc2, S2, rfl, hb, hsl, hll, hk2, hpo⟩
   have hsz := Q1.out.size
   have Q2 : Hid (GQ w w2 #[.int .i64 n, .slice a zl cap, .slice ao ko co, .slice (some ⟨bv, ov, none⟩) kv cv, .int .i64 fine] #[.slice ra9 rn9 rc9, .slice (some ⟨bl9, ol9, none⟩) ln9 lc9]) := Q1.out.below hb
   have P2 : Hid (PlanIs w2 ra9 (some ⟨bl9, ol9, none⟩) rn9 ln9 R9 L9) := P1.out.below hb
   have O2 : Hid (PO w2 wr.heap.size (.slice ra2 rn2 rc2) S2 (.slice (some ⟨gl2, 0, none⟩) ln2 lc2) LX) := hpo
   have HN2 : Hid (S2.length = rn2) := hsl
   have HL2 : Hid (LX.length = ln2) := hll
   have HK2 : Hid (S2.map RT.key = RX.map RT.key) := hk2
   have HSZ : Hid (w.heap.size + 3 <= wr.heap.size) := hsz
   clear hb hpo hsl hll hk2 G1 c0 c1 c2 c3 c4 p0 p1 Q1 P1 hsz
   have QA : Hid (GQ w (w2.alloc (.cells #[.slice ra2 rn2 rc2, .slice (some ⟨gl2, 0, none⟩) ln2 lc2] 36)) #[.int .i64 n, .slice a zl cap, .slice ao ko co, .slice (some ⟨bv, ov, none⟩) kv cv, .int .i64 fine] #[.slice ra9 rn9 rc9, .slice (some ⟨bl9, ol9, none⟩) ln9 lc9]) := Q2.out.below ((Below.refl _ _).alloc (Nat.le_refl _) _)
   have PA : Hid (PlanIs (w2.alloc (.cells #[.slice ra2 rn2 rc2, .slice (some ⟨gl2, 0, none⟩) ln2 lc2] 36)) ra9 (some ⟨bl9, ol9, none⟩) rn9 ln9 R9 L9) := P2.out.below ((Below.refl _ _).alloc (Nat.le_refl _) _)
   have OA : Hid (PO (w2.alloc (.cells #[.slice ra2 rn2 rc2, .slice (some ⟨gl2, 0, none⟩) ln2 lc2] 36)) wr.heap.size (.slice ra2 rn2 rc2) S2 (.slice (some ⟨gl2, 0, none⟩) ln2 lc2) LX) := O2.out.below ((Below.refl _ _).alloc (Nat.le_refl _) _)
   have NA : Hid ((w2.alloc (.cells #[.slice ra2 rn2 rc2, .slice (some ⟨gl2, 0, none⟩) ln2 lc2] 36)).heap[w2.heap.size]? = some (.cells #[.slice ra2 rn2 rc2, .slice (some ⟨gl2, 0, none⟩) ln2 lc2] 36 (0, 0))) := heap_alloc_new _ _
   obtain ⟨p0, p1⟩ := cells2 QA.out.p
   obtain ⟨n0, n1⟩ := cells2 NA.out
   cases f
   · obtain ⟨hk, hl⟩ := HSF.out rfl
     have HK : Hid (R9.map RT.key = TR.map RT.key) := hk
     have HLT : Hid (L9 = TL) := hl
     clear hk hl
     have CC := l4Copy_any ra9 bl9 ol9 rc9 lc9 R9 L9 (w2.alloc (.cells #[.slice ra2 rn2 rc2, .slice (some ⟨gl2, 0, none⟩) ln2 lc2] 36)) PA.out.2.2.1 PA.out.2.2.2.1 (by rw [PA.out.1]; omega) (fun r hr => ⟨(I1.out r hr).1, by have := (I1.out r hr).2.1; omega⟩) (by rw [PA.out.2.1]; omega)
     rw [PA.out.1, PA.out.2.1] at CC
     go_wp2_with fail
     generalize w2.alloc (.cells #[.slice ra2 rn2 rc2, .slice (some ⟨gl2, 0, none⟩) ln2 lc2] 36) = w3 at *
     refine CC.mono ?_
     rintro e w4 ⟨ra4, rc4, gl4, lc4, S4, rfl, hb, hk4, hpo⟩
     rw [PA.out.1, PA.out.2.1] at hpo
     rw [PA.out.1, PA.out.2.1]
     have Q4 : Hid (GQ w w4 #[.int .i64 n, .slice a zl cap, .slice ao ko co, .slice (some ⟨bv, ov, none⟩) kv cv, .int .i64 fine] #[.slice ra9 rn9 rc9, .slice (some ⟨bl9, ol9, none⟩) ln9 lc9]) := QA.out.below hb
     have P4 : Hid (PO w4 (w.heap.size + 3) (.slice ra4 rn9 rc4) S4 (.slice (some ⟨gl4, 0, none⟩) ln9 lc4) L9) := hpo.base (by have := QA.out.size; omega)
     have HK4 : Hid (S4.map RT.key = TR.map RT.key) := hk4.trans HK.out
     have HS4 : Hid (S4.length = rn9) := by have := congrArg List.length hk4; simp only [List.length_map] at this; exact this.trans PA.out.1
     have HL4 : Hid (L9.length = ln9) := PA.out.2.1
     clear hb hk4 hpo CC p0 p1 n0 n1 NA QA PA OA
     obtain ⟨a0, a1⟩ := cells2 Q4.out.o
     have af := fun i => frozen_of_row _ _ i _ _ Q4.out.o
     have s1 := heap_setCell_same w4 (w.heap.size + 2) 0 _ _ (Value.slice ra4 rn9 rc4) Q4.out.o
     have P5 : Hid (PO ((w4.setCell ⟨w.heap.size + 2, 0, none⟩ (.slice ra4 rn9 rc4)).setCell ⟨w.heap.size + 2, 1, none⟩ (.slice (some ⟨gl4, 0, none⟩) ln9 lc4)) (w.heap.size + 3) (.slice ra4 rn9 rc4) S4 (.slice (some ⟨gl4, 0, none⟩) ln9 lc4) L9) := (P4.out.box Q4.out.o).box s1
     have B5 : Hid (Below w.heap.size w ((w4.setCell ⟨w.heap.size + 2, 0, none⟩ (.slice ra4 rn9 rc4)).setCell ⟨w.heap.size + 2, 1, none⟩ (.slice (some ⟨gl4, 0, none⟩) ln9 lc4))) := (Q4.out.b.setCell (by simp) _).setCell (by simp) _
     clear s1
     go_wp2
     refine bodyPost_ret (v := .agg #[.slice ra4 rn9 rc4, .slice (some ⟨gl4, 0, none⟩) ln9 lc4]) (by simp [results, Tryz.results54, go_sem, a0, a1]) rfl ?_
     show GreedOk _ _ _ _ _
     exact ⟨ra4, rn9, rc4, gl4, ln9, lc4, S4, rfl, B5.out, HS4.out, by rw [<- HLT.out]; exact HL4.out, HK4.out, by rw [<- HLT.out]; exact P5.out.base (by omega)⟩
   · obtain ⟨ht1, ht2, hlt⟩ := HST.out rfl
     have pf := fun i => frozen_of_row _ _ i _ _ QA.out.p
     have s1 := heap_setCell_same (w2.alloc (.cells #[.slice ra2 rn2 rc2, .slice (some ⟨gl2, 0, none⟩) ln2 lc2] 36)) (w.heap.size + 1) 0 _ _ (Value.slice ra2 rn2 rc2) QA.out.p
     have s2 := heap_setCell_same _ (w.heap.size + 1) 1 _ _ (Value.slice (some ⟨gl2, 0, none⟩) ln2 lc2) s1
     simp at s2
     have Q3 : Hid (GQ w (((w2.alloc (.cells #[.slice ra2 rn2 rc2, .slice (some ⟨gl2, 0, none⟩) ln2 lc2] 36)).setCell ⟨w.heap.size + 1, 0, none⟩ (.slice ra2 rn2 rc2)).setCell ⟨w.heap.size + 1, 1, none⟩ (.slice (some ⟨gl2, 0, none⟩) ln2 lc2)) #[.int .i64 n, .slice a zl cap, .slice ao ko co, .slice (some ⟨bv, ov, none⟩) kv cv, .int .i64 fine] #[.slice ra2 rn2 rc2, .slice (some ⟨gl2, 0, none⟩) ln2 lc2]) := ⟨(QA.out.b.setCell (by simp) _).setCell (by simp) _, row_set' (row_set' QA.out.c (by omega)) (by omega), s2, row_set' (row_set' QA.out.o (by omega)) (by omega)⟩
     have O3 : Hid (PO (((w2.alloc (.cells #[.slice ra2 rn2 rc2, .slice (some ⟨gl2, 0, none⟩) ln2 lc2] 36)).setCell ⟨w.heap.size + 1, 0, none⟩ (.slice ra2 rn2 rc2)).setCell ⟨w.heap.size + 1, 1, none⟩ (.slice (some ⟨gl2, 0, none⟩) ln2 lc2)) wr.heap.size (.slice ra2 rn2 rc2) S2 (.slice (some ⟨gl2, 0, none⟩) ln2 lc2) LX) := (OA.out.box QA.out.p).box s1
     have HL3 : Hid (leftS (((w2.alloc (.cells #[.slice ra2 rn2 rc2, .slice (some ⟨gl2, 0, none⟩) ln2 lc2] 36)).setCell ⟨w.heap.size + 1, 0, none⟩ (.slice ra2 rn2 rc2)).setCell ⟨w.heap.size + 1, 1, none⟩ (.slice (some ⟨gl2, 0, none⟩) ln2 lc2)) (w.heap.size + 1) = ln2) := by show _ = _; unfold leftS; rw [(cells2 s2).2]
     have hl2 : rn2 = RX.length := by rw [<- HN2.out]; have := congrArg List.length HK2.out; simpa using this
     have hnum : rn2 + ln2 <= 24 /\ ln2 <= 12 /\ ln2 < ln9 := by have := HMR.out; have := HL2.out; omega
     have T1 : Hid ((grd n fine zs os vs ko kv LX.length RX LX).1.map RT.key = TR.map RT.key) := ht1
     have T2 : Hid ((grd n fine zs os vs ko kv LX.length RX LX).2 = TL) := ht2
     obtain ⟨hnum1, hnum2, hnum3⟩ := hnum
     clear s1 s2 ht1 ht2 hlt hl2
     go_wp2
     go_roundw
     case rel => exact ⟨ra2, rn2, rc2, gl2, 0, ln2, lc2, S2, LX, Q3.out, O3.out.is HN2.out HL2.out, O3.out.off HN2.out HL2.out (by have := HSZ.out; omega), O3.out.ad (fun s hs => (key_in HK2.out HIN.out s hs).1), hnum1, hnum2, rises_key HK2.out HRI.out, fun r hr => ⟨(key_in HK2.out HIN.out r hr).1, (key_in HK2.out HIN.out r hr).2, (O3.out.ints r hr).2⟩, (grd_key n fine zs os vs ko kv LX.length LX HK2.out).1.trans T1.out, (grd_key n fine zs os vs ko kv LX.length LX HK2.out).2.trans T2.out⟩
     case measure => rw [HLN.out, HL3.out]; exact hnum3
set_option maxRecDepth 10000 in
set_option maxHeartbeats 4000000 in
theorem specGreedy_any (n fine : Int) (a ao ra : Option Addr) (zl cap ko co bv ov kv cv nr rc bl ol ln lc : Nat) (zs os vs L : List Int) (R : List RT) (w : World) (hA : IntsAt w a zs) (hO : IntsAt w ao os) (hV : IntsAt w (some ⟨bv, ov, none⟩) vs) (hlz : zs.length = zl) (hlo : os.length = ko * 6) (hlv : vs.length = kv * 5) (hko : ko <= 9223372036854775807) (hkv : kv <= 9223372036854775807) (hP : PlanIs w ra (some ⟨bl, ol, none⟩) nr ln R L) (hn : nr <= 1048576) (hi : ∀ r ∈ R, r.ids.length <= 1048576) (hll : ln <= 1048576) (hal : (allTo R R.length).length <= 1048576) (had : ∀ r ∈ R, ∃ g, r.a = some ⟨g, 0, none⟩) (hof : ∀ k, w.heap.size <= k -> Off k ra (some ⟨bl, ol, none⟩) R) :
   Calls Tryz.prog 19 #[.agg #[.int .i64 n, .slice a zl cap, .slice ao ko co, .slice (some ⟨bv, ov, none⟩) kv cv, .int .i64 fine], .agg #[.slice ra nr rc, .slice (some ⟨bl, ol, none⟩) ln lc]] w (SpecOk w (gaF n fine zs os vs ko kv R L) (gaR n fine zs os vs ko kv R L) (gaL n fine zs os vs ko kv R L)) := by
 have HA : Hid (IntsAt w a zs) := hA
 have HO : Hid (IntsAt w ao os) := hO
 have HV : Hid (IntsAt w (some ⟨bv, ov, none⟩) vs) := hV
 have HLZ : Hid (zs.length = zl) := hlz
 have HLO : Hid (os.length = ko * 6) := hlo
 have HLV : Hid (vs.length = kv * 5) := hlv
 have HP : Hid (PlanIs w ra (some ⟨bl, ol, none⟩) nr ln R L) := hP
 have HN : Hid (R.length = nr) := hP.1
 have HM : Hid (L.length = ln) := hP.2.1
 have HI : Hid (∀ r ∈ R, r.ids.length <= 1048576) := hi
 clear hA hO hV hlz hlo hlv hP hi
 obtain ⟨pv, HPV⟩ : ∃ v, Hid (planV n zs os vs ko kv fine R L = v) := ⟨_, rfl⟩
 have HIN : Hid (pv = 0 -> caseB n zs os vs ko kv fine = true /\ Rises R /\ RtsIn R /\ R.length <= 12 /\ L.length <= 12 /\ ko <= 12 /\ kv <= 5) := fun h => plan_in (HPV.out.trans h) HP.out.2.2.2.2.2.2
 have HGF : Hid (gaF n fine zs os vs ko kv R L = if pv = 0 then true else false) := by show _ = _; unfold gaF; rw [HPV.out]
 have HGR : Hid (gaR n fine zs os vs ko kv R L = if pv = 0 then (grd n fine zs os vs ko kv L.length R L).1 else []) := by show _ = _; unfold gaR; rw [HPV.out]
 have HGL : Hid (gaL n fine zs os vs ko kv R L = if pv = 0 then (grd n fine zs os vs ko kv L.length R L).2 else []) := by show _ = _; unfold gaL; rw [HPV.out]
 obtain ⟨GF, HF⟩ : ∃ v, Hid (gaF n fine zs os vs ko kv R L = v) := ⟨_, rfl⟩
 obtain ⟨GR, HR⟩ : ∃ v, Hid (gaR n fine zs os vs ko kv R L = v) := ⟨_, rfl⟩
 obtain ⟨GL, HL⟩ : ∃ v, Hid (gaL n fine zs os vs ko kv R L = v) := ⟨_, rfl⟩
 rw [HF.out] at HGF ⊢
 rw [HR.out] at HGR ⊢
 rw [HL.out] at HGL ⊢
 have Q0 : Hid (GQ w (((w.alloc (.cells #[.int .i64 n, .slice a zl cap, .slice ao ko co, .slice (some ⟨bv, ov, none⟩) kv cv, .int .i64 fine] 43)).alloc (.cells #[.slice ra nr rc, .slice (some ⟨bl, ol, none⟩) ln lc] 36)).alloc (.cells #[.slice none 0 0, .slice none 0 0] 36)) #[.int .i64 n, .slice a zl cap, .slice ao ko co, .slice (some ⟨bv, ov, none⟩) kv cv, .int .i64 fine] #[.slice ra nr rc, .slice (some ⟨bl, ol, none⟩) ln lc]) := by
   refine ⟨(((Below.refl _ _).alloc (Nat.le_refl _) _).alloc (by simp) _).alloc (by simp; omega) _, ?_, ?_, ?_⟩
   · exact (heap_alloc_old _ _ (by simp; omega)).trans (heap_alloc2_old _ _ _)
   · exact (heap_alloc_old _ _ (by simp)).trans (heap_alloc2_new _ _ _)
   · have := heap_alloc_new ((w.alloc (.cells #[.int .i64 n, .slice a zl cap, .slice ao ko co, .slice (some ⟨bv, ov, none⟩) kv cv, .int .i64 fine] 43)).alloc (.cells #[.slice ra nr rc, .slice (some ⟨bl, ol, none⟩) ln lc] 36)) (.cells #[.slice none 0 0, .slice none 0 0] 36)
     simpa using this
 have PC := specPlan_any n fine a ao (some ⟨bv, ov, none⟩) ra (some ⟨bl, ol, none⟩) cap ko co kv cv rc lc zs os vs L R (((w.alloc (.cells #[.int .i64 n, .slice a zl cap, .slice ao ko co, .slice (some ⟨bv, ov, none⟩) kv cv, .int .i64 fine] 43)).alloc (.cells #[.slice ra nr rc, .slice (some ⟨bl, ol, none⟩) ln lc] 36)).alloc (.cells #[.slice none 0 0, .slice none 0 0] 36)) (HA.out.below Q0.out.b) (HO.out.below Q0.out.b) (HV.out.below Q0.out.b) (HP.out.2.2.1.below Q0.out.b) (HP.out.2.2.2.1.below Q0.out.b) HLO.out HLV.out hko hkv (by rw [HN.out]; exact hn) HI.out HP.out.2.2.2.2.2.2 (by rw [HM.out]; exact hll) hal
 rw [HN.out, HM.out, HLZ.out, HPV.out] at PC
 obtain ⟨c0, c1, c2, c3, c4⟩ := cells5 Q0.out.c
 obtain ⟨p0, p1⟩ := cells2 Q0.out.p
 go_enter Tryz.func19, Tryz.ntmps19
 go_wp2_with fail
 generalize ((w.alloc (.cells #[.int .i64 n, .slice a zl cap, .slice ao ko co, .slice (some ⟨bv, ov, none⟩) kv cv, .int .i64 fine] 43)).alloc (.cells #[.slice ra nr rc, .slice (some ⟨bl, ol, none⟩) ln lc] 36)).alloc (.cells #[.slice none 0 0, .slice none 0 0] 36) = W0 at *
 refine PC.mono ?_
 rintro e w1 ⟨rfl, hb⟩
 have Q1 : Hid (GQ w w1 #[.int .i64 n, .slice a zl cap, .slice ao ko co, .slice (some ⟨bv, ov, none⟩) kv cv, .int .i64 fine] #[.slice ra nr rc, .slice (some ⟨bl, ol, none⟩) ln lc]) := Q0.out.below hb
 clear hb PC c0 c1 c2 c3 c4 p0 p1 Q0 HF HR HL
 obtain ⟨a0, a1⟩ := cells2 Q1.out.o
 have af := fun i => frozen_of_row _ _ i _ _ Q1.out.o
 by_cases hpv : pv = 0
 · obtain ⟨hcb, hri, hrt, hr12, hl12, hk12, hk5⟩ := HIN.out hpv
   have hgf : GF = true := by rw [HGF.out, if_pos hpv]
   have hgr : GR = (grd n fine zs os vs ko kv L.length R L).1 := by rw [HGR.out, if_pos hpv]
   have hgl : GL = (grd n fine zs os vs ko kv L.length R L).2 := by rw [HGL.out, if_pos hpv]
   have G1 := l5Greedy_any n fine a ao ra zl cap ko co bv ov kv cv nr rc bl ol ln lc zs os vs L R w1 (HA.out.below Q1.out.b) (HO.out.below Q1.out.b) (HV.out.below Q1.out.b) HLZ.out HLO.out HLV.out hk12 hk5 hcb (HP.out.below Q1.out.b) (by rw [<- HN.out]; omega) (by rw [<- HM.out]; exact hl12) hri hrt had (fun k hk => hof k (Nat.le_trans Q1.out.b.size hk))
   rw [<- hgr, <- hgl] at G1
   subst hgf
   subst hpv
   clear HIN HGF HGR HGL HPV hgr hgl hcb hri hrt
   obtain ⟨c0, c1, c2, c3, c4⟩ := cells5 Q1.out.c
   obtain ⟨p0, p1⟩ := cells2 Q1.out.p
   go_wp2_with fail
   refine G1.mono ?_
   rintro e w4 ⟨ra4, rn2, rc4, gl4, ln2, lc4, S4, rfl, hb, hsl, hll4, hk4, hpo⟩
   have Q4 : Hid (GQ w w4 #[.int .i64 n, .slice a zl cap, .slice ao ko co, .slice (some ⟨bv, ov, none⟩) kv cv, .int .i64 fine] #[.slice ra nr rc, .slice (some ⟨bl, ol, none⟩) ln lc]) := Q1.out.below hb
   have P4 : Hid (PO w4 (w.heap.size + 3) (.slice ra4 rn2 rc4) S4 (.slice (some ⟨gl4, 0, none⟩) ln2 lc4) GL) := hpo.base (by have := Q1.out.size; omega)
   have HK4 : Hid (S4.map RT.key = GR.map RT.key) := hk4
   have HSL : Hid (S4.length = rn2) := hsl
   have HLL : Hid (GL.length = ln2) := hll4
   clear hb hpo hk4 hsl hll4 G1 c0 c1 c2 c3 c4 p0 p1 a0 a1 af Q1
   obtain ⟨a0, a1⟩ := cells2 Q4.out.o
   have af := fun i => frozen_of_row _ _ i _ _ Q4.out.o
   have s1 := heap_setCell_same w4 (w.heap.size + 2) 0 _ _ (Value.slice ra4 rn2 rc4) Q4.out.o
   have P5 : Hid (PO ((w4.setCell ⟨w.heap.size + 2, 0, none⟩ (.slice ra4 rn2 rc4)).setCell ⟨w.heap.size + 2, 1, none⟩ (.slice (some ⟨gl4, 0, none⟩) ln2 lc4)) (w.heap.size + 3) (.slice ra4 rn2 rc4) S4 (.slice (some ⟨gl4, 0, none⟩) ln2 lc4) GL) := (P4.out.box Q4.out.o).box s1
   have B5 : Hid (Below w.heap.size w ((w4.setCell ⟨w.heap.size + 2, 0, none⟩ (.slice ra4 rn2 rc4)).setCell ⟨w.heap.size + 2, 1, none⟩ (.slice (some ⟨gl4, 0, none⟩) ln2 lc4))) := (Q4.out.b.setCell (by simp) _).setCell (by simp) _
   clear s1
   go_wp2
   refine bodyPost_ret (v := .tuple #[.agg #[.slice ra4 rn2 rc4, .slice (some ⟨gl4, 0, none⟩) ln2 lc4], .bool true]) (by simp [results, Tryz.results19, go_sem, a0, a1]) rfl ?_
   show SpecOk _ _ _ _ _ _
   exact ⟨ra4, rn2, rc4, _, ln2, lc4, S4, rfl, B5.out, HSL.out, HLL.out, HK4.out, P5.out.base (by omega)⟩
 · have hgf : GF = false := by rw [HGF.out, if_neg hpv]
   have hgr : GR = [] := by rw [HGR.out, if_neg hpv]
   have hgl : GL = [] := by rw [HGL.out, if_neg hpv]
   subst hgf hgr hgl
   have hpn : (pv != 0) = true := by simp [hpv]
   have B5 : Hid (Below w.heap.size w ((w1.setCell ⟨w.heap.size + 2, 0, none⟩ (.slice none 0 0)).setCell ⟨w.heap.size + 2, 1, none⟩ (.slice none 0 0))) := (Q1.out.b.setCell (by simp) _).setCell (by simp) _
   clear HIN HGF HGR HGL HPV hpv
   go_wp2
   refine bodyPost_ret (v := .tuple #[.agg #[.slice none 0 0, .slice none 0 0], .bool false]) (by simp [results, Tryz.results19, go_sem, a0, a1]) rfl ?_
   show SpecOk _ _ _ _ _ _
   exact ⟨none, 0, 0, none, 0, 0, [], rfl, B5.out, rfl, rfl, rfl, ⟨World.ownsRow_nil _ _ _ _, (fun s hs => by cases hs), World.ownsRow_nil _ _ _ _⟩⟩
end Go.Proofs.YtcljhgildbcdmaaGreat