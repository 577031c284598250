import Derived.Test.YtfcplmageokdiafPlainFind
import Derived.Test.YtfcplmageokdiafBase
namespace Go.Proofs.Ytfcplmageokdiaf
open Go.RowKit

theorem noneToI6_step {zs : List Int} {id : Int} {k : Nat} (h : ∀ j, j < k → og6 zs j 0 ≠ id) (hk : og6 zs k 0 ≠ id) : ∀ j, j < k + 1 → og6 zs j 0 ≠ id := by
  intro j hj
  by_cases e : j = k
  · rw [e]; exact hk
  · exact h j (by omega)

set_option maxHeartbeats 1000000 in
theorem findOrder_any (n fine id : Int) (a ao av : Option Addr) (lt cap ko co kv cv : Nat) (zs : List Int) (w : World) (hA : IntsAt w ao zs) (hl : zs.length = ko * 6) (hlen : ko ≤ 9223372036854775807) :
    Calls Try.prog 107 #[.agg #[.int .i64 n, .slice a lt cap, .slice ao ko co, .slice av kv cv, .int .i64 fine], .int .i64 id] w fun e w' => e = .returned (.tuple #[.agg #[.int .i64 (fnd6F zs ko id 0), .int .i64 (fnd6F zs ko id 1), .int .i64 (fnd6F zs ko id 2), .int .i64 (fnd6F zs ko id 3), .int .i64 (fnd6F zs ko id 4), .int .i64 (fnd6F zs ko id 5)], .bool (fnd6T zs ko id)]) ∧ Below w.heap.size w w' := by
  have HB0 : Hid (Below w.heap.size w ((w.alloc (Obj.cells #[Value.int IntKind.i64 n, Value.slice a lt cap, Value.slice ao ko co, Value.slice av kv cv, Value.int IntKind.i64 fine] 39)).alloc (Obj.cells #[Value.int IntKind.i64 0, Value.int IntKind.i64 0, Value.int IntKind.i64 0, Value.int IntKind.i64 0, Value.int IntKind.i64 0, Value.int IntKind.i64 0] 60))) := ((Below.refl _ _).alloc (Nat.le_refl _) _).alloc (by simp) _
  have HA : Hid (IntsAt w ao zs) := hA
  have HL : Hid (zs.length = ko * 6) := hl
  clear hA hl
  go_enter Try.func107, Try.ntmps107
  go_wp2_with fail
  have Q0 : Hid (((w.alloc (Obj.cells #[Value.int IntKind.i64 n, Value.slice a lt cap, Value.slice ao ko co, Value.slice av kv cv, Value.int IntKind.i64 fine] 39)).alloc (Obj.cells #[Value.int IntKind.i64 0, Value.int IntKind.i64 0, Value.int IntKind.i64 0, Value.int IntKind.i64 0, Value.int IntKind.i64 0, Value.int IntKind.i64 0] 60)).heap[w.heap.size + 1]? = _) := heap_alloc2_new _ _ _
  generalize (w.alloc (Obj.cells #[Value.int IntKind.i64 n, Value.slice a lt cap, Value.slice ao ko co, Value.slice av kv cv, Value.int IntKind.i64 fine] 39)).alloc (Obj.cells #[Value.int IntKind.i64 0, Value.int IntKind.i64 0, Value.int IntKind.i64 0, Value.int IntKind.i64 0, Value.int IntKind.i64 0, Value.int IntKind.i64 0] 60) = W at *
  go_loopw [11] (fun t wr => ∃ k : Nat, k ≤ ko ∧ t = .int .i64 k ∧ (∀ j, j < k → og6 zs j 0 ≠ id) ∧ Below w.heap.size w wr ∧ wr.heap[w.heap.size + 1]? = some (.cells #[Value.int IntKind.i64 0, Value.int IntKind.i64 0, Value.int IntKind.i64 0, Value.int IntKind.i64 0, Value.int IntKind.i64 0, Value.int IntKind.i64 0] 60 (0, 0))) (fun t _ => ko - (intOf t).toNat)
  case atStart => exact ⟨0, Nat.zero_le _, rfl, fun j hj => by omega, HB0.out, Q0.out⟩
  case round =>
    clear HB0 Q0
    obtain ⟨k, hk, rfl, hno, hb, hq⟩ := hrel
    have HN : Hid (∀ j, j < k → og6 zs j 0 ≠ id) := hno
    have HB : Hid (Below w.heap.size w wr) := hb
    have HQ : Hid _ := hq
    obtain ⟨q0, q1, q2, q3, q4, q5⟩ := cells6 hq
    have f0 := fun i => frozen_of_row _ _ i _ _ hq
    have hqlt := row_lt hq
    clear hno hb hq
    by_cases hlt : k < ko
    · obtain ⟨b, off, rfl, hcs⟩ := IntsAt.some (IntsAt.below HA.out HB.out) (j := k * 6) (by rw [HL.out]; omega)
      obtain ⟨r0, r1, r2, r3, r4, r5⟩ := row6_at hcs HL.out k hlt
      clear hcs
      obtain ⟨o0, H0⟩ : ∃ t, Hid (og6 zs k 0 = t) := ⟨_, rfl⟩
      obtain ⟨o1, H1⟩ : ∃ t, Hid (og6 zs k 1 = t) := ⟨_, rfl⟩
      obtain ⟨o2, H2⟩ : ∃ t, Hid (og6 zs k 2 = t) := ⟨_, rfl⟩
      obtain ⟨o3, H3⟩ : ∃ t, Hid (og6 zs k 3 = t) := ⟨_, rfl⟩
      obtain ⟨o4, H4⟩ : ∃ t, Hid (og6 zs k 4 = t) := ⟨_, rfl⟩
      obtain ⟨o5, H5⟩ : ∃ t, Hid (og6 zs k 5 = t) := ⟨_, rfl⟩
      rw [H0.out] at r0
      rw [H1.out] at r1
      rw [H2.out] at r2
      rw [H3.out] at r3
      rw [H4.out] at r4
      rw [H5.out] at r5
      have hlb := block_lt_of_cell r0
      simp at hlb
      by_cases he : o0 = id
      · have heb : (o0 == id) = true := by simp [he]
        have HF : Hid (fnd6 zs ko id = some k) := fnd6_at hlt (by rw [H0.out]; exact he) HN.out
        clear he
        go_wp2
        refine bodyPost_ret (v := .tuple #[.agg #[.int .i64 o0, .int .i64 o1, .int .i64 o2, .int .i64 o3, .int .i64 o4, .int .i64 o5], .bool true]) (by simp [results, Try.results107, go_sem, hqlt, q0, q1, q2, q3, q4, q5]) rfl ⟨?_, ?_⟩
        · rw [fnd6T_at HF.out]; simp only [fnd6F_at HF.out, H0.out, H1.out, H2.out, H3.out, H4.out, H5.out]
        · repeat (first | with_reducible exact HB.out | with_reducible refine Below.setCell ?_ (by simp <;> omega) _ | with_reducible refine Below.alloc ?_ (by simp [World.setCell]; exact HB.out.size) _)
      · have heb : (o0 == id) = false := by simp [he]
        have HS : Hid (∀ j, j < k + 1 → og6 zs j 0 ≠ id) := noneToI6_step HN.out (by rw [H0.out]; exact he)
        clear he
        go_wp2
        refine ⟨⟨k + 1, by omega, by go_num, HS.out, HB.out.alloc HB.out.size _, ?_⟩, by simp [intOf]; omega⟩
        rw [heap_alloc_old _ _ (row_lt HQ.out)]; exact HQ.out
    · have hkx : k = ko := by omega
      have HF : Hid (fnd6 zs ko id = none) := fnd6_none (hkx ▸ HN.out)
      clear hkx
      go_wp2
      refine bodyPost_ret (v := .tuple #[.agg #[.int .i64 0, .int .i64 0, .int .i64 0, .int .i64 0, .int .i64 0, .int .i64 0], .bool false]) (by simp [results, Try.results107, go_sem, q0, q1, q2, q3, q4, q5]) rfl ⟨?_, ?_⟩
      · rw [fnd6T_none HF.out]; simp only [fnd6F_none HF.out]
      · repeat (first | with_reducible exact HB.out | with_reducible refine Below.setCell ?_ (by simp <;> omega) _)

end Go.Proofs.Ytfcplmageokdiaf
