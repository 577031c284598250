import Derived.Test.YtidhnmmhniiolaaDoorDrawMatrix
namespace Go.Proofs.YtidhnmmhniiolaaDoor
open Go.RowKit

theorem ints_other {W W' : World} {g q : Nat} {xs : List Int} (h : IntsAt W (some ⟨g, 0, none⟩) xs) (hg : W.grownBy W' (some q)) (hne : g ≠ q) : IntsAt W' (some ⟨g, 0, none⟩) xs := by
  intro j hj
  obtain ⟨b, off, e, hc⟩ := h j hj
  simp at e
  obtain ⟨rfl, rfl⟩ := e
  exact ⟨g, 0, rfl, hg.cell hc (fun e => by injection e with e; exact hne e)⟩

end Go.Proofs.YtidhnmmhniiolaaDoor
