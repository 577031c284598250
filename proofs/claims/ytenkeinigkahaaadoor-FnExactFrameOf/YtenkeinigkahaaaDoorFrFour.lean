import Derived.Test.YtenkeinigkahaaaDoorPack1
import Derived.Laws.BytesArg
namespace Go.Proofs.YtenkeinigkahaaaDoor
open Go.RowKit

/-- The four bytes of a number, the greatest first. -/
def fourL (n : Nat) : List Int := [(n : Int) / 16777216, (n : Int) / 65536 % 256, (n : Int) / 256 % 256, (n : Int) % 256]
def fourB (n : Nat) : ByteArray := strOfNums (fourL n)
theorem four_cells (w : World) (n : Nat) (i : Nat) (hi : i < 4) : (w.alloc (.cells #[.int .u8 ((n : Int) / 16777216), .int .u8 ((n : Int) / 65536 % 256), .int .u8 ((n : Int) / 256 % 256), .int .u8 ((n : Int) % 256)] 5)).cell? ⟨w.heap.size, 0 + i, none⟩ = some (.int .u8 ((fourL n).getD i 0)) := by
  rw [cell_of_row _ _ _ _ _ _ (heap_alloc_new _ _)]
  match i, hi with
  | 0, _ => rfl
  | 1, _ => rfl
  | 2, _ => rfl
  | 3, _ => rfl

set_option maxHeartbeats 400000 in
theorem l13Four_any (n : Nat) (hn : n < 4294967296) (w : World) :
    Calls Tryd.prog 23 #[.int .u32 n] w fun e w' => e = .returned (.string (fourB n)) ∧ Below w.heap.size w w' := by
  have hconv := run_convert_bytes_arg (P := Tryd.prog) _ 22 5 Tryd.underlying22 Tryd.underlying5 w.heap.size 0 4 4 (fourL n) rfl (four_cells w n) 9 Tryd.underlying9
  go_enter Tryd.func23, Tryd.ntmps23
  go_wp2
  go_ret
  exact ⟨rfl, (Below.refl _ _).alloc (Nat.le_refl _) _⟩
set_option maxHeartbeats 400000 in
theorem wordOf_any (n : Nat) (hn : n < 4294967296) (w : World) :
    Calls Tryd.prog 25 #[.int .u32 n] w fun e w' => e = .returned (.string (fourB n)) ∧ Below w.heap.size w w' := by
  have hconv := run_convert_bytes_arg (P := Tryd.prog) _ 22 5 Tryd.underlying22 Tryd.underlying5 w.heap.size 0 4 4 (fourL n) rfl (four_cells w n) 9 Tryd.underlying9
  go_enter Tryd.func25, Tryd.ntmps25
  go_wp2
  go_ret
  exact ⟨rfl, (Below.refl _ _).alloc (Nat.le_refl _) _⟩

end Go.Proofs.YtenkeinigkahaaaDoor
