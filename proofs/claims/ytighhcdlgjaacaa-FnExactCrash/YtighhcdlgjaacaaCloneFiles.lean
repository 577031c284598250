import Derived.Test.YtighhcdlgjaacaaPack22
import Derived.Lib.SmallJoins
namespace Go.Proofs.Ytighhcdlgjaacaa
open Go.RowKit

set_option maxHeartbeats 1000000 in
theorem cloneFiles_any (a : Option Addr) (c n : Nat) (F : List FI) (w : World) (hF : FilesAt w a F) (hn : F.length = n) (hl : n ≤ 1048576) :
    Calls Try.prog 71 #[.slice a n c] w fun e w' => ∃ ao co, e = .returned (.slice ao n co) ∧ Below w.heap.size w w' ∧ w'.ownsRow w.heap.size 72 2 (.slice ao n co) n (rowF F) := by
  have hnl := fun (W : World) => Lib.run_eql_slice_nil (P := Try.prog) W 28 _ a n c 0 0 Try.underlying28
  cases a with
  | none =>
    have h0 : F = [] := by
      cases F with
      | nil => rfl
      | cons f F => obtain ⟨b, off, e, _⟩ := hF 0 (by simp); cases e
    subst h0
    simp at hn
    subst hn
    go_enter Try.func71, Try.ntmps71
    go_wp2
    go_ret
    exact ⟨none, 0, rfl, Below.refl _ _, ⟨rfl, .inl ⟨rfl, rfl⟩⟩⟩
  | some A =>
    have ON : Hid ((w.alloc (.cells #[] 72)).ownsRow w.heap.size 72 2 (.slice (some ⟨w.heap.size, 0, none⟩) 0 0) 0 ([] : List Value)) := own_new0 w _ 2 _ (Nat.le_refl _)
    have BN : Hid (Below w.heap.size w (w.alloc (.cells #[] 72))) := (Below.refl _ _).alloc (Nat.le_refl _) _
    have HFC : Hid (∀ j u, (rowF F)[j]? = some u → ∃ b off, some A = some ⟨b, off, none⟩ ∧ (w.alloc (.cells #[] 72)).cell? ⟨b, off + j, none⟩ = some u) := (hF.below BN.out).cells
    have HN : Hid (F.length = n) := hn
    clear hF hn
    go_enter Try.func71, Try.ntmps71
    go_wp2_with (
      at_builtin
      refine append_opt Try.underlying28 infF32 rfl (by decide) _ rfl _ _ rfl w.heap.size _ 0 [] rfl ON.out (some A) n c (rowF F) rfl (by rw [rowF_len, HN.out]) HFC.out (rowF_one F) (by omega) (by omega) BN.out.size ?_
      intro v' w4 hown hg hbk hnl
      rw [List.nil_append, Nat.zero_add] at hown
      obtain ⟨ao, co, rfl⟩ := own_anyV hown
      have O4 : Hid (w4.ownsRow w.heap.size 72 2 (.slice ao n co) n (rowF F)) := hown
      have B4 : Hid (Below w.heap.size w w4) := BN.out.grown hg BN.out.size (fun k e => (ON.out.lt k e).1)
      clear hown hg hbk hnl)
    go_ret
    exact ⟨ao, co, rfl, B4.out, O4.out⟩
set_option maxHeartbeats 1000000 in
theorem cloneOps_any (a : Option Addr) (c n : Nat) (F : List OP) (w : World) (hF : OpsAt w a F) (hn : F.length = n) (hl : n ≤ 1048576) :
    Calls Try.prog 72 #[.slice a n c] w fun e w' => ∃ ao co, e = .returned (.slice ao n co) ∧ Below w.heap.size w w' ∧ w'.ownsRow w.heap.size 40 4 (.slice ao n co) n (rowO F) := by
  have hnl := fun (W : World) => Lib.run_eql_slice_nil (P := Try.prog) W 29 _ a n c 0 0 Try.underlying29
  cases a with
  | none =>
    have h0 : F = [] := by
      cases F with
      | nil => rfl
      | cons f F => obtain ⟨b, off, e, _⟩ := hF 0 (by simp); cases e
    subst h0
    simp at hn
    subst hn
    go_enter Try.func72, Try.ntmps72
    go_wp2
    go_ret
    exact ⟨none, 0, rfl, Below.refl _ _, ⟨rfl, .inl ⟨rfl, rfl⟩⟩⟩
  | some A =>
    have ON : Hid ((w.alloc (.cells #[] 40)).ownsRow w.heap.size 40 4 (.slice (some ⟨w.heap.size, 0, none⟩) 0 0) 0 ([] : List Value)) := own_new0 w _ 4 _ (Nat.le_refl _)
    have BN : Hid (Below w.heap.size w (w.alloc (.cells #[] 40))) := (Below.refl _ _).alloc (Nat.le_refl _) _
    have HFC : Hid (∀ j u, (rowO F)[j]? = some u → ∃ b off, some A = some ⟨b, off, none⟩ ∧ (w.alloc (.cells #[] 40)).cell? ⟨b, off + j, none⟩ = some u) := (hF.below BN.out).cells
    have HN : Hid (F.length = n) := hn
    clear hF hn
    go_enter Try.func72, Try.ntmps72
    go_wp2_with (
      at_builtin
      refine append_opt Try.underlying29 infO56 rfl (by decide) _ rfl _ _ rfl w.heap.size _ 0 [] rfl ON.out (some A) n c (rowO F) rfl (by rw [rowO_len, HN.out]) HFC.out (rowO_one F) (by omega) (by omega) BN.out.size ?_
      intro v' w4 hown hg hbk hnl
      rw [List.nil_append, Nat.zero_add] at hown
      obtain ⟨ao, co, rfl⟩ := own_anyV hown
      have O4 : Hid (w4.ownsRow w.heap.size 40 4 (.slice ao n co) n (rowO F)) := hown
      have B4 : Hid (Below w.heap.size w w4) := BN.out.grown hg BN.out.size (fun k e => (ON.out.lt k e).1)
      clear hown hg hbk hnl)
    go_ret
    exact ⟨ao, co, rfl, B4.out, O4.out⟩

end Go.Proofs.Ytighhcdlgjaacaa
