import Derived.Test.YtidhnmmhniiolaaDoorPack15
import Derived.Test.YtidhnmmhniiolaaDoorSpecPlanText
import Derived.Test.YtidhnmmhniiolaaDoorReadIs
import Derived.Test.YtidhnmmhniiolaaDoorImplPlanText
namespace Go.Proofs.YtidhnmmhniiolaaDoor
open Go.RowKit

theorem PL.hadS {w : World} {base rc lc n m : Nat} {ra la : Option Addr} {S : List RT} {L : List Int} (h : PL w base ra rc la lc n m S L) : ∀ r ∈ S, (r.a = none ∧ r.ids = []) ∨ ∃ b off, r.a = some ⟨b, off, none⟩ := fun r hr => by
  rcases own_kinds (h.1.s r hr) with ⟨e, e0⟩ | ⟨g, c, e, _⟩
  · simp only [Value.slice.injEq] at e
    exact .inl ⟨e.1, List.eq_nil_of_length_eq_zero e0⟩
  · simp only [Value.slice.injEq] at e
    exact .inr ⟨g, 0, e.1⟩
/-- What is written of a plan. -/
def plTx (R : List RT) (L : List Int) : List UInt8 := if formB R L = true then planL R L else []
theorem plTx_len (R : List RT) (L : List Int) : (plTx R L).length ≤ 2000 := by
  unfold plTx
  split
  · rename_i h; exact planL_len h
  · simp
theorem plTx_is (R : List RT) (L : List Int) : (if formB R L = true then txt (planL R L) else txt []) = txt (plTx R L) := by unfold plTx; split <;> rfl
theorem specTextPL {w : World} {base rc lc n m : Nat} {ra la : Option Addr} {S : List RT} {L : List Int} (h : PL w base ra rc la lc n m S L) (hn : n ≤ 1000) (hm : m ≤ 1000) (hi : ∀ r ∈ S, r.ids.length ≤ 1000) :
    Calls Tryd.prog 8 #[.agg #[.slice ra n rc, .slice la m lc]] w fun e w' => e = .returned (.string (txt (plTx S L))) ∧ Below w.heap.size w w' := by
  have := specPlanText_any ra la rc lc S L w h.at h.lf (by rw [h.2.1]; omega) (by rw [h.2.2]; omega) (fun r hr => by have := hi r hr; omega) h.hadS
  rw [h.2.1, h.2.2, plTx_is] at this
  exact this

theorem implTextPL {w : World} {base rc lc n m : Nat} {ra la : Option Addr} {S : List RT} {L : List Int} (h : PL w base ra rc la lc n m S L) (hn : n ≤ 1000) (hm : m ≤ 1000) (hi : ∀ r ∈ S, r.ids.length ≤ 1000) (hT : PW w) :
    Calls Tryd.prog 6 #[.agg #[.slice ra n rc, .slice la m lc]] w fun e w' => e = .returned (.string (txt (plTx S L))) ∧ Below w.heap.size w w' := by
  have := implPlanText_any ra la rc lc S L w h.at h.lf (by rw [h.2.1]; omega) (by rw [h.2.2]; omega) (fun r hr => by have := hi r hr; omega) (fun r hr => by
    rcases h.hadS r hr with ⟨h1, h2⟩ | h1
    · exact .inl ⟨h1, by rw [h2]; rfl⟩
    · exact .inr h1) hT
  rw [h.2.1, h.2.2, plTx_is] at this
  exact this
theorem readF_nil : readF [] = none := by
  cases h : readF [] with
  | none => rfl
  | some q =>
    obtain ⟨R, L⟩ := q
    obtain ⟨_, h2, _⟩ := readF_is h
    unfold planL lineL wLeft at h2
    simp at h2
theorem plTx_nil (R : List RT) (L : List Int) : (plTx R L = []) ↔ formB R L = false := by
  unfold plTx
  by_cases h : formB R L = true
  · rw [if_pos h, h]
    refine ⟨fun h2 => ?_, fun h2 => by cases h2⟩
    unfold planL lineL wLeft at h2
    simp at h2
  · rw [if_neg h]
    simpa using h
theorem rd_of (R : List RT) (L : List Int) : rdB (plTx R L) = formB R L ∧ (formB R L = true → rdK (plTx R L) = (R.map RT.key, L)) := by
  unfold rdB rdK plTx
  by_cases h : formB R L = true
  · rw [if_pos h, readF_of h, h]
    refine ⟨rfl, fun _ => ?_⟩
    simp only [key_bare]
  · rw [if_neg h, readF_nil]
    refine ⟨by simpa using h, fun h2 => absurd h2 h⟩
theorem rd_back {s : List UInt8} {S : List RT} {L : List Int} (h : rdB s = true) (hk : S.map RT.key = (rdK s).1) (hl : L = (rdK s).2) : plTx S L = s := by
  unfold rdB at h
  unfold rdK at hk hl
  cases hr : readF s with
  | none => rw [hr] at h; cases h
  | some q =>
    obtain ⟨R, M⟩ := q
    rw [hr] at hk hl
    simp only at hk hl
    subst hl
    obtain ⟨h1, h2, _⟩ := readF_is hr
    unfold plTx
    rw [formB_key L hk, if_pos h1, planL_key L hk, h2]
theorem CodeAt.blw {w w' : World} {a : Option Addr} {bs : List Int} (h : CodeAt w a bs) (hb : Below w.heap.size w w') : CodeAt w' a bs := fun j hj => by
  obtain ⟨b, off, e, hc, hv⟩ := h j hj
  exact ⟨b, off, e, (hb.cell (p := ⟨b, off + j, none⟩) (block_lt_of_cell hc)).trans hc, hv⟩
/-- What impl.ReadPlan answers, at any text. -/
theorem implReadPL (s : List UInt8) (W : World) (hs : s.length ≤ 1000000) : Calls Tryd.prog 7 #[.string (txt s)] W fun e w' => ∃ S ra rc la lc n m L, e = .returned (.tuple #[.agg #[.slice ra n rc, .slice la m lc], .bool (rdB s)]) ∧ Below W.heap.size W w' ∧ PL w' (W.heap.size + 3) ra rc la lc n m S L ∧ (n ≤ 5 ∧ m ≤ 12 ∧ ∀ r ∈ S, r.ids.length ≤ 12) ∧ S.map RT.key = (rdK s).1 ∧ L = (rdK s).2 := (implReadPlan_any s W (by omega)).mono fun e w' h => by
  obtain ⟨S, ra, rc, la, lc, L, h1, h2, h3, _, h4, h5⟩ := implRead_is h
  obtain ⟨k1, k2, k3⟩ := rdK_small s
  refine ⟨S, ra, rc, la, lc, _, _, L, h1, h2, ⟨h3, rfl, rfl⟩, ⟨?_, by rw [h5]; exact k3, fun r hr => ?_⟩, h4, h5⟩
  · have := congrArg List.length h4
    simp at this
    omega
  · exact k2 r.key (by rw [← h4]; exact List.mem_map_of_mem hr)
theorem specReadPL (s : List UInt8) (W : World) (hs : s.length ≤ 1000000) : Calls Tryd.prog 11 #[.string (txt s)] W fun e w' => ∃ ra rc la lc n m, e = .returned (.tuple #[.agg #[.slice ra n rc, .slice la m lc], .bool (rdB s)]) ∧ Below W.heap.size W w' := (specReadPlan_any s W (by omega)).mono fun e w' h => by
  obtain ⟨S, ra, rc, la, lc, L, h1, h2, _⟩ := specReadP_is h
  exact ⟨ra, rc, la, lc, _, _, h1, h2⟩
/-- A drawn plan, of the call's own. -/
def PlanTold2 (w : World) (e : Ending) (w' : World) : Prop := ∃ (ra la : Option Addr) (rc lc n m : Nat) (R : List RT) (L : List Int), e = .returned (.agg #[.slice ra n rc, .slice la m lc]) ∧ n ≤ 10 ∧ (∀ r ∈ R, r.ids.length ≤ 9) ∧ m ≤ 13 ∧ Below w.heap.size w w' ∧ PL w' w.heap.size ra rc la lc n m R L


end Go.Proofs.YtidhnmmhniiolaaDoor
