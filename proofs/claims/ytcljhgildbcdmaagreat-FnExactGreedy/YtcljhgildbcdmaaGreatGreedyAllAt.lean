import Derived.Test.YtcljhgildbcdmaaGreatPack16
import Derived.Test.YtcljhgildbcdmaaGreatPack40
import Derived.Test.YtcljhgildbcdmaaGreatPack46
namespace Go.Proofs.YtcljhgildbcdmaaGreat
open Go.RowKit
theorem gaF_key {n fine : Int} {zs os vs : List Int} {ko kv : Nat} {R S : List RT} (L : List Int) (h : S.map RT.key = R.map RT.key) : gaF n fine zs os vs ko kv S L = gaF n fine zs os vs ko kv R L := by
 unfold gaF; rw [planV_key L h]
theorem gaL_key {n fine : Int} {zs os vs : List Int} {ko kv : Nat} {R S : List RT} (L : List Int) (h : S.map RT.key = R.map RT.key) : gaL n fine zs os vs ko kv S L = gaL n fine zs os vs ko kv R L := by
 unfold gaL; rw [planV_key L h, (grd_key n fine zs os vs ko kv L.length L h).2]
theorem gaR_key {n fine : Int} {zs os vs : List Int} {ko kv : Nat} {R S : List RT} (L : List Int) (h : S.map RT.key = R.map RT.key) : (gaR n fine zs os vs ko kv S L).map RT.key = (gaR n fine zs os vs ko kv R L).map RT.key := by
 unfold gaR; rw [planV_key L h]
 split
 · exact (grd_key n fine zs os vs ko kv L.length L h).1
 · rfl
theorem PlanAt.off {w : World} {g gl : Nat} {S R : List RT} {L : List Int} (h : PlanAt w g gl S R L) : ∀ k, w.heap.size <= k -> Off k (some ⟨g, 0, none⟩) (some ⟨gl, 0, none⟩) S := fun k hk => by
 refine ⟨fun b off e => ?_, fun b off e => ?_, fun r hr b off e => ?_⟩
 · simp only [Option.some.injEq, Addr.mk.injEq, and_true] at e
   have := row_lt h.1; omega
 · simp only [Option.some.injEq, Addr.mk.injEq, and_true] at e
   have := row_lt h.2.2; omega
 · obtain ⟨g', e1, _, _, e4⟩ := h.2.1.2 r hr
   rw [e1] at e
   simp only [Option.some.injEq, Addr.mk.injEq, and_true] at e
   have := row_lt e4; omega
theorem PlanAt.is {w : World} {g gl : Nat} {S R : List RT} {L : List Int} (h : PlanAt w g gl S R L) : PlanIs w (some ⟨g, 0, none⟩) (some ⟨gl, 0, none⟩) R.length L.length S L :=
 ⟨key_len h.k, rfl, h.r, h.l, .inr ⟨_, _, rfl⟩, .inr ⟨_, _, rfl⟩, h.room⟩
theorem implGreedy_at (n fine : Int) (a ao av : Option Addr) (cap ko co kv cv g gl : Nat) (zs os vs L : List Int) (S R : List RT) (w : World) (hA : IntsAt w a zs) (hO : IntsAt w ao os) (hV : IntsAt w av vs) (hP : PlanAt w g gl S R L) (hlo : os.length = ko * 6) (hlv : vs.length = kv * 5) (hko : ko <= 9223372036854775807) (hkv : kv <= 9223372036854775807) (hn : R.length <= 1048576) (hi : ∀ r ∈ R, r.ids.length <= 1048576) (hll : L.length <= 1048576) (hal : (allTo R R.length).length <= 1048576) (hwl : ∀ x ∈ L, (Lit.int .i64 x).wf = true) :
   Calls Tryz.prog 20 #[.agg #[.int .i64 n, .slice a zs.length cap, .slice ao ko co, .slice av kv cv, .int .i64 fine], .agg #[.slice (some ⟨g, 0, none⟩) R.length R.length, .slice (some ⟨gl, 0, none⟩) L.length L.length]] w (OwnOk w (gaF n fine zs os vs ko kv R L) (gaR n fine zs os vs ko kv R L) (gaL n fine zs os vs ko kv R L)) := by
 have := implGreedy_any n fine a ao av _ _ zs.length cap ko co kv cv R.length R.length L.length L.length zs os vs L S w hA hO hV rfl hlo hlv hko hkv hP.is hn (key_ids hP.k hi) hll (by rw [allTo_key hP.k, key_len hP.k]; exact hal) hwl hP.off
 rw [gaF_key L hP.k, gaL_key L hP.k] at this
 refine this.mono ?_
 rintro e w' ⟨ra, rn, rc, la, ln, lc, T, h1, h2, h3, h4, h5, h6, h7⟩
 exact ⟨ra, rn, rc, la, ln, lc, T, h1, h2, h3, h4, h5.trans (gaR_key L hP.k), h6, h7⟩
theorem specGreedy_at (n fine : Int) (a ao : Option Addr) (cap ko co bv ov kv cv g gl : Nat) (zs os vs L : List Int) (S R : List RT) (w : World) (hA : IntsAt w a zs) (hO : IntsAt w ao os) (hV : IntsAt w (some ⟨bv, ov, none⟩) vs) (hP : PlanAt w g gl S R L) (hlo : os.length = ko * 6) (hlv : vs.length = kv * 5) (hko : ko <= 9223372036854775807) (hkv : kv <= 9223372036854775807) (hn : R.length <= 1048576) (hi : ∀ r ∈ R, r.ids.length <= 1048576) (hll : L.length <= 1048576) (hal : (allTo R R.length).length <= 1048576) :
   Calls Tryz.prog 19 #[.agg #[.int .i64 n, .slice a zs.length cap, .slice ao ko co, .slice (some ⟨bv, ov, none⟩) kv cv, .int .i64 fine], .agg #[.slice (some ⟨g, 0, none⟩) R.length R.length, .slice (some ⟨gl, 0, none⟩) L.length L.length]] w (SpecOk w (gaF n fine zs os vs ko kv R L) (gaR n fine zs os vs ko kv R L) (gaL n fine zs os vs ko kv R L)) := by
 have := specGreedy_any n fine a ao _ zs.length cap ko co bv ov kv cv R.length R.length gl 0 L.length L.length zs os vs L S w hA hO hV rfl hlo hlv hko hkv hP.is hn (key_ids hP.k hi) hll (by rw [allTo_key hP.k, key_len hP.k]; exact hal) (fun r hr => by obtain ⟨g', e, _⟩ := hP.2.1.2 r hr; exact ⟨g', e⟩) hP.off
 rw [gaF_key L hP.k, gaL_key L hP.k] at this
 refine this.mono ?_
 rintro e w' ⟨ra, rn, rc, la, ln, lc, T, h1, h2, h3, h4, h5, h6⟩
 exact ⟨ra, rn, rc, la, ln, lc, T, h1, h2, h3, h4, h5.trans (gaR_key L hP.k), h6⟩
end Go.Proofs.YtcljhgildbcdmaaGreat