import Derived.Test.YtonopidjkcmlmaaPack2
import Derived.Test.YtonopidjkcmlmaaPack18
import Derived.Test.YtonopidjkcmlmaaDrawPlan
import Derived.Test.YtonopidjkcmlmaaDrawCase
namespace Go.Proofs.Ytonopidjkcmlmaa
open Go.RowKit

/-- Inside DrawPlanCode, behind the plan: the result's boxes, the case's, the plan's, their rows. -/
structure DC (w W : World) (rc rp cs : Array Value) (kc kp g go gv base : Nat) (zs O V : List Int) (rs ls : Value) (R : List RT) (L : List Int) : Prop where
  b : Below w.heap.size w W
  b0 : W.heap[w.heap.size]? = some (.cells rc 30 (0, 0))
  b1 : W.heap[w.heap.size + 1]? = some (.cells rp 33 (0, 0))
  bc : W.heap[kc]? = some (.cells cs 30 (0, 0))
  bp : W.heap[kp]? = some (.cells #[rs, ls] 33 (0, 0))
  hk : w.heap.size + 1 < kc ∧ w.heap.size + 1 < kp
  iz : IntsAt W (some ⟨g, 0, none⟩) zs ∧ w.heap.size + 1 < g
  io : IntsAt W (some ⟨go, 0, none⟩) O ∧ w.heap.size + 1 < go
  iv : IntsAt W (some ⟨gv, 0, none⟩) V ∧ w.heap.size + 1 < gv
  hb : w.heap.size + 2 ≤ base
  po : PO W base rs R ls L
section
variable {w W W' : World} {rc rp cs : Array Value} {kc kp g go gv base q : Nat} {zs O V : List Int} {rs ls ls' : Value} {R : List RT} {L L' : List Int}
theorem DC.below (h : DC w W rc rp cs kc kp g go gv base zs O V rs ls R L) (hb : Below W.heap.size W W') : DC w W' rc rp cs kc kp g go gv base zs O V rs ls R L :=
  ⟨h.b.trans (hb.mono h.b.size), below_row hb (row_lt h.b0) h.b0, below_row hb (row_lt h.b1) h.b1, below_row hb (row_lt h.bc) h.bc, below_row hb (row_lt h.bp) h.bp, h.hk, ⟨h.iz.1.below hb, h.iz.2⟩, ⟨h.io.1.below hb, h.io.2⟩, ⟨h.iv.1.below hb, h.iv.2⟩, h.hb, h.po.below hb⟩
/-- The reader has read: its block lies apart from all. -/
theorem DC.read (h : DC w W rc rp cs kc kp g go gv base zs O V rs ls R L) (hg : W.grownBy W' (some q)) (hq : w.heap.size + 1 < q) (h1 : kc ≠ q) (h2 : kp ≠ q) (h3 : g ≠ q ∧ go ≠ q ∧ gv ≠ q) (h4 : q < base) : DC w W' rc rp cs kc kp g go gv base zs O V rs ls R L :=
  ⟨grown_below h.b (by omega) hg, grown_row hg h.b0 (fun e => by injection e with e; omega), grown_row hg h.b1 (fun e => by injection e with e; omega), grown_row hg h.bc (fun e => h1 (by injection e)), grown_row hg h.bp (fun e => h2 (by injection e)), h.hk, ⟨ints_other h.iz.1 hg h3.1, h.iz.2⟩, ⟨ints_other h.io.1 hg h3.2.1, h.io.2⟩, ⟨ints_other h.iv.1 hg h3.2.2, h.iv.2⟩, h.hb, h.po.other hg (.inl h4)⟩
theorem DC.put0 {rc' : Array Value} (h : DC w W rc rp cs kc kp g go gv base zs O V rs ls R L) (hs : W.grownBy W' (some w.heap.size)) (hr : W'.heap[w.heap.size]? = some (.cells rc' 30 (0, 0))) : DC w W' rc' rp cs kc kp g go gv base zs O V rs ls R L := by
  obtain ⟨h1, h2⟩ := h.hk
  have h3 := h.iz.2
  have h4 := h.io.2
  have h5 := h.iv.2
  have h6 := h.hb
  exact ⟨grown_below h.b (Nat.le_refl _) hs, hr, grown_row hs h.b1 (fun e => by injection e with e; omega), grown_row hs h.bc (fun e => by injection e with e; omega), grown_row hs h.bp (fun e => by injection e with e; omega), h.hk, ⟨ints_other h.iz.1 hs (by omega), h3⟩, ⟨ints_other h.io.1 hs (by omega), h4⟩, ⟨ints_other h.iv.1 hs (by omega), h5⟩, h6, h.po.other hs (.inl (by omega))⟩
theorem DC.put1 {rp' : Array Value} (h : DC w W rc rp cs kc kp g go gv base zs O V rs ls R L) (hs : W.grownBy W' (some (w.heap.size + 1))) (hr : W'.heap[w.heap.size + 1]? = some (.cells rp' 33 (0, 0))) : DC w W' rc rp' cs kc kp g go gv base zs O V rs ls R L := by
  obtain ⟨h1, h2⟩ := h.hk
  have h3 := h.iz.2
  have h4 := h.io.2
  have h5 := h.iv.2
  have h6 := h.hb
  exact ⟨grown_below h.b (by omega) hs, grown_row hs h.b0 (fun e => by injection e with e; omega), hr, grown_row hs h.bc (fun e => by injection e with e; omega), grown_row hs h.bp (fun e => by injection e with e; omega), h.hk, ⟨ints_other h.iz.1 hs (by omega), h3⟩, ⟨ints_other h.io.1 hs (by omega), h4⟩, ⟨ints_other h.iv.1 hs (by omega), h5⟩, h6, h.po.other hs (.inl (by omega))⟩
/-- What is left is told anew. -/
theorem DC.putL (h : DC w W rc rp cs kc kp g go gv base zs O V rs ls R L) (hne : kc ≠ kp ∧ g ≠ kp ∧ go ≠ kp ∧ gv ≠ kp) (hl : W.ownsRow base 2 1 ls' L'.length (L'.map (Value.int .i64))) : DC w (W.setCell ⟨kp, 1, none⟩ ls') rc rp cs kc kp g go gv base zs O V rs ls' R L' := by
  obtain ⟨h1, h2⟩ := h.hk
  have hs := grown_set W kp 1 ls'
  refine ⟨grown_below h.b (by omega) hs, grown_row hs h.b0 (fun e => by injection e with e; omega), grown_row hs h.b1 (fun e => by injection e with e; omega), grown_row hs h.bc (fun e => hne.1 (by injection e)), ?_, h.hk, ⟨ints_other h.iz.1 hs hne.2.1, h.iz.2⟩, ⟨ints_other h.io.1 hs hne.2.2.1, h.io.2⟩, ⟨ints_other h.iv.1 hs hne.2.2.2, h.iv.2⟩, h.hb, (PO.box (ls := ls') (L := L') ⟨h.po.r, h.po.s, hl⟩ h.bp)⟩
  have := row_put (i := 1) ls' h.bp
  simpa using this
end

end Go.Proofs.Ytonopidjkcmlmaa
