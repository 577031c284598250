import Derived.Test.YtaehhlkpbhmdfaaSpecSpan
namespace Go.Proofs.Ytaehhlkpbhmdfaa
open Go.RowKit

/-- What SpanTree answers for this matrix: the cells of its edges, how many they are. -/
def Tr (n : Int) (zs : List Int) (p : List Int) (pl : Nat) : Prop := (symB n zs = false ∧ p = [] ∧ pl = 0) ∨ ∃ (m : Nat) (l : List ED) (ins : Nat → Bool), n = (m : Int) ∧ symB n zs = true ∧ PTr m (tmG zs m) l ins ∧ l.length + 1 = m ∧ p = flE l ∧ pl = l.length
theorem symB_mat {n : Int} {zs : List Int} (h : symB n zs = true) : matB n zs = true := (of_decide_eq_true h).1
theorem mat_nat {n : Int} {zs : List Int} (h : matB n zs = true) : ∃ m : Nat, n = (m : Int) ∧ m ≤ 16 := by
  obtain ⟨h1, h2, _⟩ := matB_true h
  exact ⟨n.toNat, by omega, by omega⟩
theorem Tr.small {n : Int} {zs p : List Int} {pl : Nat} (h : Tr n zs p pl) : p.length = pl * 3 ∧ pl ≤ 16 := by
  rcases h with ⟨_, rfl, rfl⟩ | ⟨m, l, ins, hn, hs, ht, hl, rfl, rfl⟩
  · exact ⟨rfl, by omega⟩
  · obtain ⟨m', e, h16⟩ := mat_nat (symB_mat hs)
    exact ⟨flE_len l, by omega⟩
theorem own_intsE {w : World} {base n c : Nat} {a : Option Addr} {l : List Int} (h : w.ownsRow base 32 3 (.slice a n c) n (l.map (Value.int .i64))) : IntsAt w a l := fun j hj => by
  rcases own_kinds h with ⟨_, h2⟩ | ⟨g, c', h2, _⟩
  · have := h.1
    rw [List.length_map, h2] at this
    omega
  · simp only [Value.slice.injEq, true_and] at h2
    obtain ⟨rfl, rfl⟩ := h2
    refine ⟨g, 0, rfl, ?_⟩
    rw [Nat.zero_add]
    refine (own_cellV h ?_).1
    rw [List.getElem?_map, List.getElem?_eq_getElem hj, List.getD_eq_getElem?_getD, List.getElem?_eq_getElem hj]
    rfl
theorem specSpan_tr (n : Int) (a : Option Addr) (cap : Nat) (zs : List Int) (w : World) (hA : IntsAt w a zs) :
    Calls Try.prog 9 #[.agg #[.int .i64 n, .slice a zs.length cap]] w fun e w' => ∃ p pl wa wc, Tr n zs p pl ∧ e = .returned (.slice wa pl wc) ∧ Below w.heap.size w w' ∧ IntsAt w' wa p ∧ ∀ b, (Value.slice wa 0 0).ownBlock = some b → 0 < pl → w.heap.size ≤ b ∧ b < w'.heap.size := by
  cases hs : symB n zs
  · refine (specSpan_no n a cap zs w hA hs).mono ?_
    rintro e w' ⟨b, rfl, hb⟩
    exact ⟨[], 0, _, _, .inl ⟨hs, rfl, rfl⟩, rfl, hb, fun j hj => (by simp at hj), fun b _ h => by omega⟩
  · obtain ⟨m, rfl, _⟩ := mat_nat (symB_mat hs)
    refine (specSpan_any m a cap zs w hA (symB_mat hs) hs).mono ?_
    rintro e w' ⟨ls, l, ins, rfl, hb, ho, ht, hl⟩
    obtain ⟨wa, wc, e1⟩ : ∃ wa wc, ls = .slice wa l.length wc := by
      rcases own_kinds ho with ⟨h1, h2⟩ | ⟨g9, c9, h1, _⟩
      · exact ⟨none, 0, by rw [h1, h2]⟩
      · exact ⟨_, c9, h1⟩
    subst e1
    refine ⟨flE l, l.length, wa, wc, .inr ⟨m, l, ins, rfl, hs, ht, hl, rfl, rfl⟩, rfl, hb, own_intsE ho, fun b e _ => ho.lt b ?_⟩
    cases wa with
    | none => cases e
    | some ad => exact e
theorem implSpan_tr (n : Int) (a : Option Addr) (cap : Nat) (zs p : List Int) (pl : Nat) (w : World) (hA : IntsAt w a zs) (hT : Tr n zs p pl) :
    Calls Try.prog 8 #[.agg #[.int .i64 n, .slice a zs.length cap]] w fun e w' => ∃ ga gc, e = .returned (.slice ga pl gc) ∧ Below w.heap.size w w' ∧ IntsAt w' ga p ∧ w'.ownsRow w.heap.size 32 3 (.slice ga pl gc) pl (p.map (Value.int .i64)) := by
  rcases hT with ⟨hs, rfl, rfl⟩ | ⟨m, l, ins, rfl, hs, ht, hl, rfl, rfl⟩
  · refine (implSpan_no n a cap zs w hA hs).mono ?_
    rintro e w' ⟨rfl, hb⟩
    exact ⟨none, 0, rfl, hb, fun j hj => (by simp at hj), ⟨rfl, .inl ⟨rfl, rfl⟩⟩⟩
  · refine (implSpan_any m a cap zs w hA (symB_mat hs) hs).mono ?_
    rintro e w' ⟨ls, l', ins', rfl, hb, ho, ht', hl'⟩
    obtain ⟨e1, -⟩ := ht.one ht' (by omega)
    subst e1
    obtain ⟨wa, wc, e1⟩ : ∃ wa wc, ls = .slice wa l'.length wc := by
      rcases own_kinds ho with ⟨h1, h2⟩ | ⟨g9, c9, h1, _⟩
      · exact ⟨none, 0, by rw [h1, h2]⟩
      · exact ⟨_, c9, h1⟩
    subst e1
    exact ⟨wa, wc, rfl, hb, own_intsE ho, ho⟩

theorem Tr.one {n : Int} {zs p p' : List Int} {pl pl' : Nat} (h : Tr n zs p pl) (h' : Tr n zs p' pl') : p' = p ∧ pl' = pl := by
  rcases h with ⟨hs, rfl, rfl⟩ | ⟨m, l, ins, rfl, hs, ht, hl, rfl, rfl⟩
  · rcases h' with ⟨_, rfl, rfl⟩ | ⟨m', l', ins', _, hs', _⟩
    · exact ⟨rfl, rfl⟩
    · rw [hs] at hs'; cases hs'
  · rcases h' with ⟨hs', _⟩ | ⟨m', l', ins', e, hs', ht', hl', rfl, rfl⟩
    · rw [hs] at hs'; cases hs'
    · obtain rfl : m' = m := by omega
      obtain ⟨e1, -⟩ := ht.one ht' (by omega)
      subst e1
      exact ⟨rfl, rfl⟩
theorem implSpan_ex (n : Int) (a : Option Addr) (cap : Nat) (zs : List Int) (w : World) (hA : IntsAt w a zs) :
    Calls Try.prog 8 #[.agg #[.int .i64 n, .slice a zs.length cap]] w fun e w' => ∃ p pl ga gc, Tr n zs p pl ∧ e = .returned (.slice ga pl gc) ∧ Below w.heap.size w w' ∧ IntsAt w' ga p := by
  cases hs : symB n zs
  · refine (implSpan_no n a cap zs w hA hs).mono ?_
    rintro e w' ⟨rfl, hb⟩
    exact ⟨[], 0, _, _, .inl ⟨hs, rfl, rfl⟩, rfl, hb, fun j hj => (by simp at hj)⟩
  · obtain ⟨m, rfl, _⟩ := mat_nat (symB_mat hs)
    refine (implSpan_any m a cap zs w hA (symB_mat hs) hs).mono ?_
    rintro e w' ⟨ls, l, ins, rfl, hb, ho, ht, hl⟩
    obtain ⟨wa, wc, e1⟩ : ∃ wa wc, ls = .slice wa l.length wc := by
      rcases own_kinds ho with ⟨h1, h2⟩ | ⟨g9, c9, h1, _⟩
      · exact ⟨none, 0, by rw [h1, h2]⟩
      · exact ⟨_, c9, h1⟩
    subst e1
    exact ⟨flE l, l.length, wa, wc, .inr ⟨m, l, ins, rfl, hs, ht, hl, rfl, rfl⟩, rfl, hb, own_intsE ho⟩
theorem specSpan_of (n : Int) (a : Option Addr) (cap : Nat) (zs p : List Int) (pl : Nat) (w : World) (hA : IntsAt w a zs) (hT : Tr n zs p pl) :
    Calls Try.prog 9 #[.agg #[.int .i64 n, .slice a zs.length cap]] w fun e w' => ∃ wa wc, e = .returned (.slice wa pl wc) ∧ Below w.heap.size w w' ∧ IntsAt w' wa p := by
  refine (specSpan_tr n a cap zs w hA).mono ?_
  rintro e w' ⟨p', pl', wa, wc, hT', rfl, hb, hi, -⟩
  obtain ⟨rfl, rfl⟩ := hT.one hT'
  exact ⟨wa, wc, rfl, hb, hi⟩

end Go.Proofs.Ytaehhlkpbhmdfaa
