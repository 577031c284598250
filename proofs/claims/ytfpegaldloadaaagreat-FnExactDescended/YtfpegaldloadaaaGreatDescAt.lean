import Derived.Test.YtfpegaldloadaaaGreatPack11
import Derived.Test.YtfpegaldloadaaaGreatImplDesc
import Derived.Test.YtfpegaldloadaaaGreatPack43
namespace Go.Proofs.YtfpegaldloadaaaGreat
open Go.RowKit
theorem implDescended_at (st n fine : Int) (a ao av : Option Addr) (cap ko co kv cv g gl : Nat) (zs os vs L : List Int) (S R : List RT) (w : World) (hA : IntsAt w a zs) (hO : IntsAt w ao os) (hV : IntsAt w av vs) (hP : PlanAt w g gl S R L) (hlo : os.length = ko * 6) (hlv : vs.length = kv * 5) (hko : ko <= 9223372036854775807) (hkv : kv <= 9223372036854775807) (hn : R.length <= 1048576) (hi : ∀ r ∈ R, r.ids.length <= 1048576) (hll : L.length <= 1048576) (hal : (allTo R R.length).length <= 1048576) (hwl : ∀ x ∈ L, (Lit.int .i64 x).wf = true) :
   Calls Tryz.prog 20 #[.agg #[.int .i64 n, .slice a zs.length cap, .slice ao ko co, .slice av kv cv, .int .i64 fine], .agg #[.slice (some ⟨g, 0, none⟩) R.length R.length, .slice (some ⟨gl, 0, none⟩) L.length L.length], .int .i64 st] w (OwnOkI w (dcN st n fine zs os vs ko kv R L) (dcR st n fine zs os vs ko kv R L) (dcL st n fine zs os vs ko kv R L)) := by
 have := implDescended_any st n fine a ao av _ _ zs.length cap ko co kv cv R.length R.length L.length L.length zs os vs L S w hA hO hV rfl hlo hlv hko hkv hP.is hn (key_ids hP.k hi) hll (by rw [allTo_key hP.k, key_len hP.k]; exact hal) hwl
 rw [dcL_key _ _ _ _ _ _ _ _ L hP.k, dcN_key _ _ _ _ _ _ _ _ L hP.k] at this
 refine this.mono ?_
 rintro e w' ⟨ra, rn, rc, la, ln, lc, T, h1, h2, h3, h4, h5, h6, h7⟩
 exact ⟨ra, rn, rc, la, ln, lc, T, h1, h2, h3, h4, h5.trans (dcR_key _ _ _ _ _ _ _ _ L hP.k), h6, h7⟩
theorem specDescended_at (st n fine : Int) (a ao av : Option Addr) (cap ko co kv cv g gl : Nat) (zs os vs L : List Int) (S R : List RT) (w : World) (hA : IntsAt w a zs) (hO : IntsAt w ao os) (hV : IntsAt w av vs) (hP : PlanAt w g gl S R L) (hlo : os.length = ko * 6) (hlv : vs.length = kv * 5) (hko : ko <= 9223372036854775807) (hkv : kv <= 9223372036854775807) (hn : R.length <= 1048576) (hi : ∀ r ∈ R, r.ids.length <= 1048576) (hll : L.length <= 1048576) (hal : (allTo R R.length).length <= 1048576) :
   Calls Tryz.prog 19 #[.agg #[.int .i64 n, .slice a zs.length cap, .slice ao ko co, .slice av kv cv, .int .i64 fine], .agg #[.slice (some ⟨g, 0, none⟩) R.length R.length, .slice (some ⟨gl, 0, none⟩) L.length L.length], .int .i64 st] w (SpecOkI w (dcN st n fine zs os vs ko kv R L) (dcR st n fine zs os vs ko kv R L) (dcL st n fine zs os vs ko kv R L)) := by
 have := specDescended_any st n fine a ao av _ _ zs.length cap ko co kv cv R.length R.length L.length L.length zs os vs L S w hA hO hV rfl hlo hlv hko hkv hP.is hn (key_ids hP.k hi) hll (by rw [allTo_key hP.k, key_len hP.k]; exact hal)
 rw [dcL_key _ _ _ _ _ _ _ _ L hP.k, dcN_key _ _ _ _ _ _ _ _ L hP.k] at this
 refine this.mono ?_
 rintro e w' ⟨ra, rn, rc, la, ln, lc, T, h1, h2, h3, h4, h5, h6⟩
 exact ⟨ra, rn, rc, la, ln, lc, T, h1, h2, h3, h4, h5.trans (dcR_key _ _ _ _ _ _ _ _ L hP.k), h6⟩
end Go.Proofs.YtfpegaldloadaaaGreat
