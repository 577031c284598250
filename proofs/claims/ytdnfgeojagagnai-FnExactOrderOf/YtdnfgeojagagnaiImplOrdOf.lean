import Derived.Test.YtdnfgeojagagnaiImplCase
import Derived.Test.YtdnfgeojagagnaiImplOrd
namespace Go.Proofs.Ytdnfgeojagagnai
open Go.RowKit

set_option maxHeartbeats 1000000 in
theorem implOrdOf_any (n fine id : Int) (a ao av : Option Addr) (cap ko co kv cv : Nat) (zs os vs : List Int) (w : World) (hA : IntsAt w a zs) (hO : IntsAt w ao os) (hV : IntsAt w av vs) (hlo : os.length = ko * 6) (hlv : vs.length = kv * 5) (hko : ko ≤ 9223372036854775807) (hkv : kv ≤ 9223372036854775807) :
    Calls Try.prog 26 #[.agg #[.int .i64 n, .slice a zs.length cap, .slice ao ko co, .slice av kv cv, .int .i64 fine], .int .i64 id] w fun e w' => e = .returned (.tuple #[.agg #[.int .i64 (got6F (caseB n zs os vs ko kv fine) os ko id 0), .int .i64 (got6F (caseB n zs os vs ko kv fine) os ko id 1), .int .i64 (got6F (caseB n zs os vs ko kv fine) os ko id 2), .int .i64 (got6F (caseB n zs os vs ko kv fine) os ko id 3), .int .i64 (got6F (caseB n zs os vs ko kv fine) os ko id 4), .int .i64 (got6F (caseB n zs os vs ko kv fine) os ko id 5)], .bool (got6T (caseB n zs os vs ko kv fine) os ko id)]) ∧ Below w.heap.size w w' := by
  have HB0 : Hid (Below w.heap.size w ((w.alloc (Obj.cells #[Value.int IntKind.i64 n, Value.slice a zs.length cap, Value.slice ao ko co, Value.slice av kv cv, Value.int IntKind.i64 fine] 42)).alloc (Obj.cells #[Value.int IntKind.i64 0, Value.int IntKind.i64 0, Value.int IntKind.i64 0, Value.int IntKind.i64 0, Value.int IntKind.i64 0, Value.int IntKind.i64 0] 47))) := ((Below.refl _ _).alloc (Nat.le_refl _) _).alloc (by simp) _
  have HA : Hid (IntsAt w a zs) := hA
  have HO : Hid (IntsAt w ao os) := hO
  have HV : Hid (IntsAt w av vs) := hV
  have HLO : Hid _ := hlo
  have HLV : Hid _ := hlv
  clear hA hO hV hlo hlv
  go_enter Try.func26, Try.ntmps26
  go_wp2_with fail
  have P0 : Hid (((w.alloc (Obj.cells #[Value.int IntKind.i64 n, Value.slice a zs.length cap, Value.slice ao ko co, Value.slice av kv cv, Value.int IntKind.i64 fine] 42)).alloc (Obj.cells #[Value.int IntKind.i64 0, Value.int IntKind.i64 0, Value.int IntKind.i64 0, Value.int IntKind.i64 0, Value.int IntKind.i64 0, Value.int IntKind.i64 0] 47)).heap[w.heap.size]? = _) := heap_alloc2_old _ _ _
  have Q0 : Hid (((w.alloc (Obj.cells #[Value.int IntKind.i64 n, Value.slice a zs.length cap, Value.slice ao ko co, Value.slice av kv cv, Value.int IntKind.i64 fine] 42)).alloc (Obj.cells #[Value.int IntKind.i64 0, Value.int IntKind.i64 0, Value.int IntKind.i64 0, Value.int IntKind.i64 0, Value.int IntKind.i64 0, Value.int IntKind.i64 0] 47)).heap[w.heap.size + 1]? = _) := heap_alloc2_new _ _ _
  generalize (w.alloc (Obj.cells #[Value.int IntKind.i64 n, Value.slice a zs.length cap, Value.slice ao ko co, Value.slice av kv cv, Value.int IntKind.i64 fine] 42)).alloc (Obj.cells #[Value.int IntKind.i64 0, Value.int IntKind.i64 0, Value.int IntKind.i64 0, Value.int IntKind.i64 0, Value.int IntKind.i64 0, Value.int IntKind.i64 0] 47) = W at *
  refine (implCase_any n fine a ao av cap ko co kv cv zs os vs _ (HA.out.below HB0.out) (HO.out.below HB0.out) (HV.out.below HB0.out) HLO.out HLV.out hko hkv).mono ?_
  rintro e w1 ⟨rfl, hb⟩
  obtain ⟨b1, p1⟩ := box_more hb HB0.out P0.out
  have q1' := below_row hb (row_lt Q0.out) Q0.out
  have B1 : Hid (Below w.heap.size w w1) := b1
  have P1 : Hid _ := p1
  have Q1 : Hid _ := q1'
  clear hb b1 p1 q1' HB0 P0 Q0
  obtain ⟨c0, c1, c2, c3, c4⟩ := cells5 P1.out
  obtain ⟨q0, q1, q2, q3, q4, q5⟩ := cells6 Q1.out
  have f0 := fun i => frozen_of_row _ _ i _ _ Q1.out
  cases hc : caseB n zs os vs ko kv fine
  · go_wp2
    refine bodyPost_ret (v := .tuple #[.agg #[.int .i64 0, .int .i64 0, .int .i64 0, .int .i64 0, .int .i64 0, .int .i64 0], .bool false]) (by simp [results, Try.results26, go_sem, q0, q1, q2, q3, q4, q5]) rfl ⟨?_, ?_⟩
    · simp [got6F, got6T, hc]
    · repeat (first | with_reducible exact B1.out | with_reducible refine Below.setCell ?_ (by simp <;> omega) _)
  · go_wp2_with fail
    refine (findOrder_any n fine id a ao av _ cap ko co kv cv os _ (HO.out.below B1.out) HLO.out hko).mono ?_
    rintro e w2 ⟨rfl, hb⟩
    obtain ⟨b2, q2'⟩ := box_more hb B1.out Q1.out
    have B2 : Hid (Below w.heap.size w w2) := b2
    have Q2 : Hid _ := q2'
    clear hb b2 q2' c0 c1 c2 c3 c4 q0 q1 q2 q3 q4 q5 f0
    obtain ⟨q0, q1, q2, q3, q4, q5⟩ := cells6 Q2.out
    have f0 := fun i => frozen_of_row _ _ i _ _ Q2.out
    obtain ⟨o0, H0⟩ : ∃ t, Hid (fnd6F os ko id 0 = t) := ⟨_, rfl⟩
    obtain ⟨o1, H1⟩ : ∃ t, Hid (fnd6F os ko id 1 = t) := ⟨_, rfl⟩
    obtain ⟨o2, H2⟩ : ∃ t, Hid (fnd6F os ko id 2 = t) := ⟨_, rfl⟩
    obtain ⟨o3, H3⟩ : ∃ t, Hid (fnd6F os ko id 3 = t) := ⟨_, rfl⟩
    obtain ⟨o4, H4⟩ : ∃ t, Hid (fnd6F os ko id 4 = t) := ⟨_, rfl⟩
    obtain ⟨o5, H5⟩ : ∃ t, Hid (fnd6F os ko id 5 = t) := ⟨_, rfl⟩
    rw [H0.out, H1.out, H2.out, H3.out, H4.out, H5.out]
    obtain ⟨tb, HTB⟩ : ∃ t, Hid (fnd6T os ko id = t) := ⟨_, rfl⟩
    rw [HTB.out]
    go_wp2
    refine bodyPost_ret (v := .tuple #[.agg #[.int .i64 o0, .int .i64 o1, .int .i64 o2, .int .i64 o3, .int .i64 o4, .int .i64 o5], .bool tb]) (by simp [results, Try.results26, go_sem, q0, q1, q2, q3, q4, q5]) rfl ⟨?_, ?_⟩
    · simp [got6F, got6T, hc, H0.out, H1.out, H2.out, H3.out, H4.out, H5.out, HTB.out]
    · repeat (first | with_reducible exact B2.out | with_reducible refine Below.setCell ?_ (by simp <;> omega) _)

end Go.Proofs.Ytdnfgeojagagnai
