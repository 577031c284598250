import Derived.Test.YtmohcdnhbhigdaaSpecInsertAt
import Derived.Test.YtmohcdnhbhigdaaImplInsertAt
namespace Go.Proofs.Ytmohcdnhbhigdaa
open Go.RowKit

theorem specInsertAt_at (n fine veh : Int) (a ao av : Option Addr) (g cap ko co kv cv c2 : Nat) (zs os vs ids : List Int) (w : World) (hA : IntsAt w a zs) (hO : IntsAt w ao os) (hV : IntsAt w av vs) (hI : IntsAt w (some ⟨g, 0, none⟩) ids) (hlo : os.length = ko * 6) (hlv : vs.length = kv * 5) (hko : ko ≤ 9223372036854775807) (hkv : kv ≤ 9223372036854775807) (hli : ids.length ≤ 9223372036854775807) (hc2 : ids.length ≤ c2) (id x : Int) (ch : Bool) (hch : chB (caseB n zs os vs ko kv fine) n zs os vs ko kv veh ids (inB x 0 (ids.length : Int)) (insL ids x.toNat id) = ch) (D : Int) (hD : chD ch n zs os vs ko kv veh ids (insL ids x.toNat id) = D) (xs : List Int) (hxs : chL ch (insL ids x.toNat id) = xs) :
    Calls Try.prog 12 #[.agg #[.int .i64 n, .slice a zs.length cap, .slice ao ko co, .slice av kv cv, .int .i64 fine], .agg #[.int .i64 veh, .slice (some ⟨g, 0, none⟩) ids.length c2], .int .i64 id, .int .i64 x] w (ChgOk w ch veh D xs) :=
  specInsertAt_any n fine veh a ao av g 0 cap ko co kv cv c2 zs os vs ids w hA hO hV hI hlo hlv hko hkv hli hc2 id x ch hch D hD xs hxs
theorem implInsertAt_at (n fine veh : Int) (a ao av : Option Addr) (g cap ko co kv cv c2 : Nat) (zs os vs ids : List Int) (w : World) (hA : IntsAt w a zs) (hO : IntsAt w ao os) (hV : IntsAt w av vs) (hI : IntsAt w (some ⟨g, 0, none⟩) ids) (hlo : os.length = ko * 6) (hlv : vs.length = kv * 5) (hko : ko ≤ 9223372036854775807) (hkv : kv ≤ 9223372036854775807) (hli : ids.length ≤ 9223372036854775807) (hc2 : ids.length ≤ c2) (id x : Int) (ch : Bool) (hch : chB (caseB n zs os vs ko kv fine) n zs os vs ko kv veh ids (inB x 0 (ids.length : Int)) (insL ids x.toNat id) = ch) (D : Int) (hD : chD ch n zs os vs ko kv veh ids (insL ids x.toNat id) = D) (xs : List Int) (hxs : chL ch (insL ids x.toNat id) = xs) :
    Calls Try.prog 11 #[.agg #[.int .i64 n, .slice a zs.length cap, .slice ao ko co, .slice av kv cv, .int .i64 fine], .agg #[.int .i64 veh, .slice (some ⟨g, 0, none⟩) ids.length c2], .int .i64 id, .int .i64 x] w (ChgOk w ch veh D xs) :=
  implInsertAt_any n fine veh a ao av _ cap ko co kv cv c2 zs os vs ids w hA hO hV hI hlo hlv hko hkv hli hc2 (.inr ⟨_, _, rfl⟩) id x ch hch D hD xs hxs

end Go.Proofs.Ytmohcdnhbhigdaa
