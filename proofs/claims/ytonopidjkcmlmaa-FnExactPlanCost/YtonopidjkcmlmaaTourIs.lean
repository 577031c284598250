import Derived.Test.YtonopidjkcmlmaaPack4
import Derived.Test.YtonopidjkcmlmaaPack5
namespace Go.Proofs.Ytonopidjkcmlmaa
open Go.RowKit

theorem keptAt_mk {n : Int} {zs ros starts : List Int} {home frm : Int} {k : Nat} {t f p o1 o3 o4 d : Int} (ht : starts.getD k 0 = t) (hf : freeK ros starts frm k = f) (hp : plc ros home k = p) (h1 : og6 ros k 1 = o1) (h3 : og6 ros k 3 = o3) (h4 : og6 ros k 4 = o4) (hd : tmI n zs p o1 = d) :
    keptAt n zs ros starts home frm k = inB t (max o3 (f + d)) o4 := by
  unfold keptAt
  rw [ht, hf, hp, h1, h3, h4, hd]

theorem max_if (x y : Int) : (if x < y then y else x) = max x y := by
  split <;> omega

theorem drive_is (n x y : Int) (v0 v1 v2 v3 v4 : Int) (a ar : Option Addr) (cap kr cr : Nat) (zs : List Int) (w : World) (d : Int) (hd : tmI n zs x y = d) (hm : matB n zs = true) (hx : 0 ≤ x ∧ x < n) (hy : 0 ≤ y ∧ y < n) (hA : IntsAt w a zs) :
    Calls Try.prog 86 #[.agg #[.int .i64 n, .slice a zs.length cap, .int .i64 v0, .int .i64 v1, .int .i64 v2, .int .i64 v3, .int .i64 v4, .slice ar kr cr], .int .i64 x, .int .i64 y] w fun e w' => e = .returned (.int .i64 d) ∧ Below w.heap.size w w' := hd ▸ drive_I n x y v0 v1 v2 v3 v4 a ar cap kr cr zs w hm hx hy hA
theorem within_is (n lo hi : Int) (w : World) (v : Bool) (hv : inB n lo hi = v) :
    Calls Try.prog 76 #[.int .i64 n, .int .i64 lo, .int .i64 hi] w fun e w' => e = .returned (.bool v) ∧ w' = w := hv ▸ within_any n lo hi w

end Go.Proofs.Ytonopidjkcmlmaa
