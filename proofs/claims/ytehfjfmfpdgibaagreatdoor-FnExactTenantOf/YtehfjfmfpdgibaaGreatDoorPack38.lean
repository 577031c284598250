import Derived.Test.YtehfjfmfpdgibaaGreatDoorPack2
import Derived.Test.YtehfjfmfpdgibaaGreatDoorPack6
import Derived.Test.YtehfjfmfpdgibaaGreatDoorPack10
import Derived.Test.YtehfjfmfpdgibaaGreatDoorPack23
import Derived.Test.YtehfjfmfpdgibaaGreatDoorSpecCopy
import Derived.Test.YtehfjfmfpdgibaaGreatDoorSpecFindT
import Derived.Test.YtehfjfmfpdgibaaGreatDoorPack35
namespace Go.Proofs.YtehfjfmfpdgibaaGreatDoor
open Go.RowKit
theorem tenT_true {T : List TN} {q : ByteArray} {x : TN} (h : tenT T q = some x) (hx : x ∈ T) : tenB x = true := by
 unfold tenT at h
 cases hB : storeB T
 · rw [hB] at h; cases h
 · exact (storeB_true hB).2.2 x hx
theorem row_ownX {α : Type} {k : Nat} {cells : α -> List Value} (hk : ∀ x, (cells x).length = k) {w : World} {base n c : Nat} {a : Option Addr} {l : List α} {T : TypeId} (h : w.ownsRow base T k (.slice a n c) n (rowX cells l)) (hn : l.length = n) : RowAt k cells w a l := fun j hj => by
 rcases own_kinds h with ⟨_, hz⟩ | ⟨g, c', e, _, _⟩
 · omega
 · simp only [Value.slice.injEq, true_and] at e
   obtain ⟨rfl, rfl⟩ := e
   refine ⟨g, 0, rfl, fun i v hv => ?_⟩
   rw [Nat.zero_add]
   exact (own_cellV h (rowX_at hk l j i hj v hv)).1
theorem SNO.at {w : World} {base : Nat} {s : SN} (h : SNO w base s) : SNAt w s := ⟨own_intsC h.z, own_intsC h.o, own_intsC h.v⟩
theorem VNO.at {w : World} {base : Nat} {v : VN} (h : VNO w base v) : VNAt w v := ⟨h.p.at, own_intsC h.p.l⟩
theorem TNO.at {w : World} {base : Nat} {t : TN} (h : TNO w base t) : TNAt w t := by
 obtain ⟨lo, _, h2, _⟩ := h.v
 exact ⟨⟨row_ownX sn_len h.s.r rfl, fun s hs => (h.s.s s hs).at⟩, row_ownX vn_len h2.r rfl, fun v hv => (h2.s v hv).at⟩
theorem pub_lens {n : Int} {zs os vs : List Int} {ko kv : Nat} {f : Int} {v v0 : VN} (h : planV n zs os vs ko kv f v.R v.L = 0) (hp : v.plain = v0.plain) : v0.R.length <= 12 /\ (∀ r ∈ v0.R, r.ids ≠ [] /\ r.ids.length <= 12) /\ v0.L.length <= 12 := by
 have hL : v.L = v0.L := (congrArg VN.L hp :)
 have hR : v.R.map RT.plain = v0.R.map RT.plain := (congrArg VN.R hp :)
 rw [hL, planV_key v0.L (RT.key_plain hR)] at h
 obtain ⟨_, h2, h3, h4, _, _⟩ := planV_sm h
 exact ⟨h3, h2, h4⟩
end Go.Proofs.YtehfjfmfpdgibaaGreatDoor
