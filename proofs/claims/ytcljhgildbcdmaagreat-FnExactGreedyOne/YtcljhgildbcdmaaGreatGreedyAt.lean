import Derived.Test.YtcljhgildbcdmaaGreatPack16
import Derived.Test.YtcljhgildbcdmaaGreatImplGreedyOne
import Derived.Test.YtcljhgildbcdmaaGreatSpecGreedyOne
namespace Go.Proofs.YtcljhgildbcdmaaGreat
open Go.RowKit

theorem goF_key {n fine : Int} {zs os vs : List Int} {ko kv : Nat} {R S : List RT} (L : List Int) (h : S.map RT.key = R.map RT.key) : goF n fine zs os vs ko kv S L = goF n fine zs os vs ko kv R L := by
  unfold goF; rw [planV_key L h, oneQ_key h]
theorem goL_key {n fine : Int} {zs os vs : List Int} {ko kv : Nat} {R S : List RT} (L : List Int) (h : S.map RT.key = R.map RT.key) : goL n fine zs os vs ko kv S L = goL n fine zs os vs ko kv R L := by
  unfold goL oneL; rw [planV_key L h, oneQ_key h]
theorem goR_key {n fine : Int} {zs os vs : List Int} {ko kv : Nat} {R S : List RT} (L : List Int) (h : S.map RT.key = R.map RT.key) : (goR n fine zs os vs ko kv S L).map RT.key = (goR n fine zs os vs ko kv R L).map RT.key := by
  unfold goR; rw [planV_key L h]
  split
  · exact oneR_key h n fine zs os vs ko kv L
  · rfl
theorem go_bd0 {n fine : Int} {zs os vs : List Int} {ko kv : Nat} {R : List RT} {L : List Int} (hrc : ∀ r ∈ R, r.ids.length ≤ r.c) : (∀ r ∈ goR n fine zs os vs ko kv R L, r.ids ≠ [] ∧ r.ids.length ≤ 12) ∧ (goR n fine zs os vs ko kv R L).length ≤ 500 ∧ (goL n fine zs os vs ko kv R L).length ≤ 500 := by
  unfold goR goL
  by_cases h : planV n zs os vs ko kv fine R L = 0
  · rw [if_pos h, if_pos h]
    obtain ⟨_, _, h3, h4, h5, _⟩ := plan_in h hrc
    exact one_in h3 (by omega) (by omega)
  · rw [if_neg h, if_neg h]
    exact ⟨fun r hr => by simp at hr, by simp, by simp⟩
theorem go_bd (n fine : Int) (zs os vs : List Int) (ko kv : Nat) (R : List RT) (L : List Int) : (∀ r ∈ goR n fine zs os vs ko kv R L, r.ids ≠ [] ∧ r.ids.length ≤ 12) ∧ (goR n fine zs os vs ko kv R L).length ≤ 500 ∧ (goL n fine zs os vs ko kv R L).length ≤ 500 := by
  have hk : (R.map (fun r => (⟨r.v, r.a, r.ids, r.ids.length⟩ : RT))).map RT.key = R.map RT.key := by rw [List.map_map]; rfl
  obtain ⟨h1, h2, h3⟩ := go_bd0 (n := n) (fine := fine) (zs := zs) (os := os) (vs := vs) (ko := ko) (kv := kv) (R := R.map (fun r => (⟨r.v, r.a, r.ids, r.ids.length⟩ : RT))) (L := L) (fun r hr => by
    obtain ⟨x, _, rfl⟩ := List.mem_map.1 hr
    exact Nat.le_refl _)
  refine ⟨key_in (goR_key L hk).symm h1, ?_, by rw [goL_key L hk] at h3; exact h3⟩
  have := congrArg List.length (goR_key (n := n) (fine := fine) (zs := zs) (os := os) (vs := vs) (ko := ko) (kv := kv) L hk)
  simp only [List.length_map] at this
  omega
theorem PlanAt.is {w : World} {g gl : Nat} {S R : List RT} {L : List Int} (h : PlanAt w g gl S R L) : PlanIs w (some ⟨g, 0, none⟩) (some ⟨gl, 0, none⟩) R.length L.length S L :=
  ⟨key_len h.k, rfl, h.r, h.l, .inr ⟨_, _, rfl⟩, .inr ⟨_, _, rfl⟩, h.room⟩
theorem implGreedyOne_at (n fine : Int) (a ao av : Option Addr) (cap ko co kv cv g gl : Nat) (zs os vs L : List Int) (S R : List RT) (w : World) (hA : IntsAt w a zs) (hO : IntsAt w ao os) (hV : IntsAt w av vs) (hP : PlanAt w g gl S R L) (hlo : os.length = ko * 6) (hlv : vs.length = kv * 5) (hko : ko ≤ 9223372036854775807) (hkv : kv ≤ 9223372036854775807) (hn : R.length ≤ 1048576) (hi : ∀ r ∈ R, r.ids.length ≤ 1048576) (hll : L.length ≤ 1048576) (hal : (allTo R R.length).length ≤ 1048576) (hwl : ∀ x ∈ L, (Lit.int .i64 x).wf = true) :
    Calls Tryz.prog 13 #[.agg #[.int .i64 n, .slice a zs.length cap, .slice ao ko co, .slice av kv cv, .int .i64 fine], .agg #[.slice (some ⟨g, 0, none⟩) R.length R.length, .slice (some ⟨gl, 0, none⟩) L.length L.length]] w (OwnOk w (goF n fine zs os vs ko kv R L) (goR n fine zs os vs ko kv R L) (goL n fine zs os vs ko kv R L)) := by
  have := implGreedyOne_any n fine a ao av _ _ zs.length cap ko co kv cv R.length R.length L.length L.length zs os vs L S w hA hO hV rfl hlo hlv hko hkv hP.is hn (key_ids hP.k hi) hll (by rw [allTo_key hP.k, key_len hP.k]; exact hal) hwl
  rw [goF_key L hP.k, goL_key L hP.k] at this
  refine this.mono ?_
  rintro e w' ⟨ra, rn, rc, la, ln, lc, T, h1, h2, h3, h4, h5, h6, h7⟩
  exact ⟨ra, rn, rc, la, ln, lc, T, h1, h2, h3, h4, h5.trans (goR_key L hP.k), h6, h7⟩
theorem specGreedyOne_at (n fine : Int) (a ao : Option Addr) (cap ko co bv ov kv cv g gl : Nat) (zs os vs L : List Int) (S R : List RT) (w : World) (hA : IntsAt w a zs) (hO : IntsAt w ao os) (hV : IntsAt w (some ⟨bv, ov, none⟩) vs) (hP : PlanAt w g gl S R L) (hlo : os.length = ko * 6) (hlv : vs.length = kv * 5) (hko : ko ≤ 9223372036854775807) (hkv : kv ≤ 9223372036854775807) (hn : R.length ≤ 1048576) (hi : ∀ r ∈ R, r.ids.length ≤ 1048576) (hll : L.length ≤ 1048576) (hal : (allTo R R.length).length ≤ 1048576) :
    Calls Tryz.prog 10 #[.agg #[.int .i64 n, .slice a zs.length cap, .slice ao ko co, .slice (some ⟨bv, ov, none⟩) kv cv, .int .i64 fine], .agg #[.slice (some ⟨g, 0, none⟩) R.length R.length, .slice (some ⟨gl, 0, none⟩) L.length L.length]] w (SpecOk w (goF n fine zs os vs ko kv R L) (goR n fine zs os vs ko kv R L) (goL n fine zs os vs ko kv R L)) := by
  have := specGreedyOne_any n fine a ao _ zs.length cap ko co bv ov kv cv R.length R.length gl 0 L.length L.length zs os vs L S w hA hO hV rfl hlo hlv hko hkv hP.is hn (key_ids hP.k hi) hll (by rw [allTo_key hP.k, key_len hP.k]; exact hal) (fun r hr => by obtain ⟨g', e, _⟩ := hP.2.1.2 r hr; exact ⟨g', e⟩)
  rw [goF_key L hP.k, goL_key L hP.k] at this
  refine this.mono ?_
  rintro e w' ⟨ra, rn, rc, la, ln, lc, T, h1, h2, h3, h4, h5, h6⟩
  exact ⟨ra, rn, rc, la, ln, lc, T, h1, h2, h3, h4, h5.trans (goR_key L hP.k), h6⟩

end Go.Proofs.YtcljhgildbcdmaaGreat
