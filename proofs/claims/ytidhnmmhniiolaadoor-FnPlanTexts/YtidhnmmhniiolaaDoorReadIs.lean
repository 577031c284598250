import Derived.Test.YtidhnmmhniiolaaDoorPack33
import Derived.Test.YtidhnmmhniiolaaDoorSpecReadPlan
namespace Go.Proofs.YtidhnmmhniiolaaDoor
open Go.RowKit

/-- What is read: routes and what is left. -/
def rdK (s : List UInt8) : List (Int × List Int) × List Int := match readF s with | some (R, L) => (R.map RT.key, L) | none => ([], [])
def rdB (s : List UInt8) : Bool := (readF s).isSome
theorem rdK_small (s : List UInt8) : (rdK s).1.length ≤ 5 ∧ (∀ x ∈ (rdK s).1, x.2.length ≤ 12) ∧ (rdK s).2.length ≤ 12 := by
  unfold rdK
  cases h : readF s with
  | none => simp
  | some q =>
    obtain ⟨R, L⟩ := q
    obtain ⟨h1, _, _⟩ := readF_is h
    obtain ⟨k1, k2, k3⟩ := (formB_iff R L).1 h1
    refine ⟨by simpa using k1, fun x hx => ?_, ((idsB_iff L).1 k2).1⟩
    obtain ⟨r, hr, rfl⟩ := List.mem_map.1 hx
    exact (k3 r hr).2.1
theorem PO.nil0 (w : World) (base : Nat) : PO w base (.slice none 0 0) [] (.slice none 0 0) [] := ⟨⟨by simp [rowR], .inl ⟨rfl, rfl⟩⟩, fun s hs => by simp at hs, ⟨by simp, .inl ⟨rfl, rfl⟩⟩⟩
theorem key_bare (S : List RT) : (S.map bare).map RT.key = S.map RT.key := by rw [List.map_map]; rfl
/-- What impl.ReadPlan answers, found or not. -/
theorem implRead_is {w w' : World} {s : List UInt8} {e : Ending} (h : ReadOk w s e w') : ∃ S ra rc la lc L, e = .returned (.tuple #[.agg #[.slice ra S.length rc, .slice la L.length lc], .bool (rdB s)]) ∧ Below w.heap.size w w' ∧ PO w' (w.heap.size + 3) (.slice ra S.length rc) S (.slice la L.length lc) L ∧ Apt S la ∧ S.map RT.key = (rdK s).1 ∧ L = (rdK s).2 := by
  rcases h with ⟨S, rs, ls, L, hr, rfl, hb, ho, la, lc, rfl, hap⟩ | ⟨hr, rfl, hb⟩
  · obtain ⟨ra, rc, e1, -⟩ := own_sl ho.r
    subst e1
    refine ⟨S, ra, rc, la, lc, L, ?_, hb, ho, hap, ?_, ?_⟩
    · unfold rdB; rw [hr]; rfl
    · unfold rdK; rw [hr]; exact (key_bare S).symm
    · unfold rdK; rw [hr]
  · refine ⟨[], none, 0, none, 0, [], ?_, hb, PO.nil0 _ _, by simp [Apt], ?_, ?_⟩
    · unfold rdB; rw [hr]; rfl
    · unfold rdK; rw [hr]; rfl
    · unfold rdK; rw [hr]
theorem specReadP_is {w w' : World} {s : List UInt8} {e : Ending} (h : SReadOk w s e w') : ∃ S ra rc la lc L, e = .returned (.tuple #[.agg #[.slice ra S.length rc, .slice la L.length lc], .bool (rdB s)]) ∧ Below w.heap.size w w' ∧ PO w' (w.heap.size + 1) (.slice ra S.length rc) S (.slice la L.length lc) L ∧ S.map RT.key = (rdK s).1 ∧ L = (rdK s).2 := by
  unfold SReadOk at h
  rw [specRead_is] at h
  rcases h with ⟨S, rs, ls, L, hr, rfl, hb, ho⟩ | ⟨hr, rfl, hb⟩
  · obtain ⟨ra, rc, e1, -⟩ := own_sl ho.r
    obtain ⟨la, lc, e2, -⟩ := own_sl ho.l
    subst e1 e2
    refine ⟨S, ra, rc, la, lc, L, ?_, hb, ho, ?_, ?_⟩
    · unfold rdB; rw [hr]; rfl
    · unfold rdK; rw [hr]; exact (key_bare S).symm
    · unfold rdK; rw [hr]
  · refine ⟨[], none, 0, none, 0, [], ?_, hb, PO.nil0 _ _, ?_, ?_⟩
    · unfold rdB; rw [hr]; rfl
    · unfold rdK; rw [hr]; rfl
    · unfold rdK; rw [hr]

/-- A plan of n routes and m that are left, of the call's own. -/
def PL (w : World) (base : Nat) (ra : Option Addr) (rc : Nat) (la : Option Addr) (lc n m : Nat) (S : List RT) (L : List Int) : Prop := PO w base (.slice ra n rc) S (.slice la m lc) L ∧ S.length = n ∧ L.length = m
theorem PL.below {w w' : World} {base rc lc n m : Nat} {ra la : Option Addr} {S : List RT} {L : List Int} (h : PL w base ra rc la lc n m S L) (hb : Below w.heap.size w w') : PL w' base ra rc la lc n m S L := ⟨h.1.below hb, h.2⟩
theorem PL.at {w : World} {base rc lc n m : Nat} {ra la : Option Addr} {S : List RT} {L : List Int} (h : PL w base ra rc la lc n m S L) : RoutesAt w ra S := by
  have := h.1
  rw [← h.2.1] at this
  exact this.at
theorem PL.lf {w : World} {base rc lc n m : Nat} {ra la : Option Addr} {S : List RT} {L : List Int} (h : PL w base ra rc la lc n m S L) : IntsAt w la L := by
  obtain ⟨la2, lc2, e, hi⟩ := h.1.lv
  simp only [Value.slice.injEq] at e
  rw [e.1]
  exact hi
theorem PL.tops {w : World} {base rc lc n m : Nat} {ra la : Option Addr} {S : List RT} {L : List Int} (h : PL w base ra rc la lc n m S L) : (∀ g, ra = some ⟨g, 0, none⟩ → g < w.heap.size) ∧ (∀ a ∈ S.map RT.a, ∀ g, a = some ⟨g, 0, none⟩ → g < w.heap.size) ∧ (∀ g, la = some ⟨g, 0, none⟩ → g < w.heap.size) :=
  ⟨fun g e => (h.1.r.lt g (by rw [e]; rfl)).2, fun a ha g e => by
    obtain ⟨s, hs, rfl⟩ := List.mem_map.1 ha
    exact ((h.1.s s hs).lt g (by rw [e]; rfl)).2, fun g e => (h.1.l.lt g (by rw [e]; rfl)).2⟩

theorem own_keeps {w w' : World} {B base size n : Nat} {e : TypeId} {v : Value} {xs : List Value} (h : w.ownsRow base e size v n xs) (hb : Below B w w') (hk : ∀ k, v.ownBlock = some k → k < B) : w'.ownsRow base e size v n xs := by
  obtain ⟨h0, ⟨h1, h2⟩ | ⟨g, cap, cur, h2, h3, h4, h5⟩⟩ := h
  · exact ⟨h0, .inl ⟨h1, h2⟩⟩
  · refine ⟨h0, .inr ⟨g, cap, cur, h2, h3, ?_, h5⟩⟩
    rw [← h4]
    exact hb.block g (hk g (by rw [h2]; rfl))
/-- All blocks of the plan lie below B. -/
def LO (B : Nat) (ra : Option Addr) (rc : Nat) (la : Option Addr) (lc n m : Nat) (S : List RT) : Prop := (∀ k, (Value.slice ra n rc).ownBlock = some k → k < B) ∧ (∀ s ∈ S, ∀ k, (Value.slice s.a s.ids.length s.c).ownBlock = some k → k < B) ∧ ∀ k, (Value.slice la m lc).ownBlock = some k → k < B
theorem PL.low {w : World} {base rc lc n m : Nat} {ra la : Option Addr} {S : List RT} {L : List Int} (h : PL w base ra rc la lc n m S L) : LO w.heap.size ra rc la lc n m S := ⟨fun k e => (h.1.r.lt k e).2, fun s hs k e => ((h.1.s s hs).lt k e).2, fun k e => (h.1.l.lt k e).2⟩
theorem PL.keep {w w' : World} {B base rc lc n m : Nat} {ra la : Option Addr} {S : List RT} {L : List Int} (h : PL w base ra rc la lc n m S L) (hb : Below B w w') (lo : LO B ra rc la lc n m S) : PL w' base ra rc la lc n m S L := ⟨⟨own_keeps h.1.r hb lo.1, fun s hs => own_keeps (h.1.s s hs) hb (lo.2.1 s hs), own_keeps h.1.l hb lo.2.2⟩, h.2⟩

end Go.Proofs.YtidhnmmhniiolaaDoor
