import Derived.Test.YtehfjfmfpdgibaaGreatDoorCloneInts
import Derived.Lib.SmallJoins
namespace Go.Proofs.YtehfjfmfpdgibaaGreatDoor
open Go.RowKit
set_option maxHeartbeats 1000000 in
theorem clone_none (c : Nat) (w : World) :
 Calls Tryz.prog 110 #[.slice none 0 c] w fun e w' => e = .returned (.slice none 0 0) /\ w' = w := by
 have hnl := fun (W : World) => Lib.run_eql_slice_nil (P := Tryz.prog) W 44 _ none 0 c 0 0 Tryz.underlying44
 go_enter Tryz.func110, Tryz.ntmps110
 go_wp2
 go_ret
 exact ⟨rfl, rfl⟩
theorem clone_any (bi : Option Addr) (c n : Nat) (ids : List Int) (w : World) (hI : IntsAt w bi ids) (hn : ids.length = n) (hl : n <= 1048576) (hbi : (bi = none /\ n = 0) ∨ ∃ b off, bi = some ⟨b, off, none⟩) :
 Calls Tryz.prog 110 #[.slice bi n c] w fun e w' => ∃ sl, e = .returned sl /\ Below w.heap.size w w' /\ w'.ownsRow w.heap.size 2 1 sl n (ids.map (Value.int .i64)) := by
 subst hn
 rcases hbi with ⟨rfl, h0⟩ | ⟨b, off, rfl⟩
 · have h1 : ids = [] := List.length_eq_zero_iff.1 h0
   subst h1
   refine (clone_none c w).mono ?_
   rintro e w' ⟨rfl, rfl⟩
   exact ⟨_, rfl, Below.refl _ _, World.ownsRow_nil _ _ _ _⟩
 · refine (clone_ints b off c ids w hI hl).mono ?_
   rintro e w' ⟨g, cg, rfl, h1, h2⟩
   exact ⟨_, rfl, h1, h2⟩
end Go.Proofs.YtehfjfmfpdgibaaGreatDoor
