import Derived.Test.YtjlhmkmhehcmkaaGreatPack15
import Derived.Test.YtjlhmkmhehcmkaaGreatImplDestroyed
import Derived.Test.YtjlhmkmhehcmkaaGreatSpecDestroyed
namespace Go.Proofs.YtjlhmkmhehcmkaaGreat
open Go.RowKit
theorem implDestroyed_at (sd kk n fine : Int) (a ao av : Option Addr) (cap ko co kv cv g gl : Nat) (zs os vs L : List Int) (S R : List RT) (w : World) (hA : IntsAt w a zs) (hO : IntsAt w ao os) (hV : IntsAt w av vs) (hP : PlanAt w g gl S R L) (hlo : os.length = ko * 6) (hlv : vs.length = kv * 5) (hko : ko <= 9223372036854775807) (hkv : kv <= 9223372036854775807) (hn : R.length <= 1048576) (hi : ∀ r ∈ R, r.ids.length <= 1048576) (hll : L.length <= 1048576) (hal : (allTo R R.length).length <= 1048576) (hwl : ∀ x ∈ L, (Lit.int .i64 x).wf = true) :
   Calls Tryz.prog 9 #[.agg #[.int .i64 n, .slice a zs.length cap, .slice ao ko co, .slice av kv cv, .int .i64 fine], .agg #[.slice (some ⟨g, 0, none⟩) R.length R.length, .slice (some ⟨gl, 0, none⟩) L.length L.length], .int .i64 sd, .int .i64 kk] w (OwnOkN w (deN sd kk n fine zs os vs ko kv R L) (deF sd kk n fine zs os vs ko kv R L) (deR sd kk n fine zs os vs ko kv R L) (deL sd kk n fine zs os vs ko kv R L)) := by
 have := implDestroyed_any sd kk n fine a ao av _ _ zs.length cap ko co kv cv R.length R.length L.length L.length zs os vs L S w hA hO hV rfl hlo hlv hko hkv hP.is hn (key_ids hP.k hi) hll (by rw [allTo_key hP.k, key_len hP.k]; exact hal) hwl
 rw [deF_key _ _ _ _ _ _ _ _ _ L hP.k, deL_key _ _ _ _ _ _ _ _ _ L hP.k, deN_key _ _ _ _ _ _ _ _ _ L hP.k] at this
 refine this.mono ?_
 rintro e w' ⟨ra, rn, rc, la, ln, lc, T, h1, h2, h3, h4, h5, h6, h7⟩
 exact ⟨ra, rn, rc, la, ln, lc, T, h1, h2, h3, h4, h5.trans (deR_key _ _ _ _ _ _ _ _ _ L hP.k), h6, h7⟩
theorem specDestroyed_at (sd kk n fine : Int) (a ao av : Option Addr) (cap ko co kv cv g gl : Nat) (zs os vs L : List Int) (S R : List RT) (w : World) (hA : IntsAt w a zs) (hO : IntsAt w ao os) (hV : IntsAt w av vs) (hP : PlanAt w g gl S R L) (hlo : os.length = ko * 6) (hlv : vs.length = kv * 5) (hko : ko <= 9223372036854775807) (hkv : kv <= 9223372036854775807) (hn : R.length <= 1048576) (hi : ∀ r ∈ R, r.ids.length <= 1048576) (hll : L.length <= 1048576) (hal : (allTo R R.length).length <= 1048576) :
   Calls Tryz.prog 6 #[.agg #[.int .i64 n, .slice a zs.length cap, .slice ao ko co, .slice av kv cv, .int .i64 fine], .agg #[.slice (some ⟨g, 0, none⟩) R.length R.length, .slice (some ⟨gl, 0, none⟩) L.length L.length], .int .i64 sd, .int .i64 kk] w (SpecOkN w (deN sd kk n fine zs os vs ko kv R L) (deF sd kk n fine zs os vs ko kv R L) (deR sd kk n fine zs os vs ko kv R L) (deL sd kk n fine zs os vs ko kv R L)) := by
 have := specDestroyed_any sd kk n fine a ao av _ zs.length cap ko co kv cv R.length R.length gl 0 L.length L.length zs os vs L S w hA hO hV rfl hlo hlv hko hkv hP.is hn (key_ids hP.k hi) hll (by rw [allTo_key hP.k, key_len hP.k]; exact hal)
 rw [deF_key _ _ _ _ _ _ _ _ _ L hP.k, deL_key _ _ _ _ _ _ _ _ _ L hP.k, deN_key _ _ _ _ _ _ _ _ _ L hP.k] at this
 refine this.mono ?_
 rintro e w' ⟨ra, rn, rc, la, ln, lc, T, h1, h2, h3, h4, h5, h6⟩
 exact ⟨ra, rn, rc, la, ln, lc, T, h1, h2, h3, h4, h5.trans (deR_key _ _ _ _ _ _ _ _ _ L hP.k), h6⟩
end Go.Proofs.YtjlhmkmhehcmkaaGreat