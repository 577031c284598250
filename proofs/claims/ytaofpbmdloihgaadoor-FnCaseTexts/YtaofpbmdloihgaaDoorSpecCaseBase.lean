import Derived.Test.YtaofpbmdloihgaaDoorPack17
import Derived.Test.YtaofpbmdloihgaaDoorPack19
import Derived.Test.YtaofpbmdloihgaaDoorSpecCaseText
namespace Go.Proofs.YtaofpbmdloihgaaDoor
open Go.RowKit

/-- While the model reads a case. -/
structure SCb (w W : World) (bp : Nat) (c : CV) (zl ol vl : Value) (ll : Value) (lines : List (List UInt8)) : Prop where
  b : Below w.heap.size w W
  z : W.heap[w.heap.size]? = some (.cells #[.int .i64 0, .slice none 0 0, .slice none 0 0, .slice none 0 0, .int .i64 0] 30 (0, 0))
  hp : w.heap.size < bp
  p : W.heap[bp]? = some (.cells #[.int .i64 c.n, zl, ol, vl, .int .i64 c.f] 30 (0, 0))
  oz : W.ownsRow (w.heap.size + 1) 2 1 zl c.zs.length (c.zs.map (Value.int .i64))
  oo : W.ownsRow (w.heap.size + 1) 45 6 ol c.ko (c.os.map (Value.int .i64))
  ov : W.ownsRow (w.heap.size + 1) 47 5 vl c.kv (c.vs.map (Value.int .i64))
  n : W.ownsRow (w.heap.size + 1) 9 1 ll lines.length (strs lines)
theorem SCb.below {w W W' : World} {bp : Nat} {c : CV} {zl ol vl ll : Value} {lines : List (List UInt8)} (h : SCb w W bp c zl ol vl ll lines) (hb : Below W.heap.size W W') : SCb w W' bp c zl ol vl ll lines :=
  ⟨h.b.trans (hb.mono h.b.size), below_row hb (row_lt h.z) h.z, h.hp, below_row hb (row_lt h.p) h.p, owns_below h.oz hb, owns_below h.oo hb, owns_below h.ov hb, owns_below h.n hb⟩
theorem SCb.new {w w1 : World} {ll : Value} {lines : List (List UInt8)} (hB : Below w.heap.size w w1) (hZ : w1.heap[w.heap.size]? = some (.cells #[.int .i64 0, .slice none 0 0, .slice none 0 0, .slice none 0 0, .int .i64 0] 30 (0, 0))) (hn : w1.ownsRow (w.heap.size + 1) 9 1 ll lines.length (strs lines)) :
    SCb w (w1.alloc (.cells #[.int .i64 0, .slice none 0 0, .slice none 0 0, .slice none 0 0, .int .i64 0] 30)) w1.heap.size cv0 (.slice none 0 0) (.slice none 0 0) (.slice none 0 0) ll lines :=
  have hb : Below w1.heap.size w1 (w1.alloc (.cells #[.int .i64 0, .slice none 0 0, .slice none 0 0, .slice none 0 0, .int .i64 0] 30)) := (Below.refl _ _).alloc (Nat.le_refl _) _
  ⟨hB.trans (hb.mono hB.size), below_row hb (row_lt hZ) hZ, row_lt hZ, heap_alloc_new _ _, ⟨by simp [cv0], .inl ⟨rfl, rfl⟩⟩, ⟨by simp [cv0], .inl ⟨rfl, rfl⟩⟩, ⟨by simp [cv0], .inl ⟨rfl, rfl⟩⟩, owns_below hn hb⟩
theorem SCb.box {w W : World} {bp : Nat} {c : CV} {zl ol vl ll : Value} {lines : List (List UInt8)} (h : SCb w W bp c zl ol vl ll lines) :
    W.cell? ⟨bp, 0, none⟩ = some (.int .i64 c.n) ∧ W.cell? ⟨bp, 1, none⟩ = some zl ∧ W.cell? ⟨bp, 2, none⟩ = some ol ∧ W.cell? ⟨bp, 3, none⟩ = some vl ∧ W.cell? ⟨bp, 4, none⟩ = some (.int .i64 c.f) := by
  refine ⟨?_, ?_, ?_, ?_, ?_⟩ <;> (rw [cell_of_row _ _ _ _ _ _ h.p]; rfl)
/-- A row that the call owns stays where the case's box is written. -/
theorem SCb.stay {W : World} {bp i : Nat} {u : Value} {cs : Array Value} {base size m : Nat} {e : TypeId} {v : Value} {xs : List Value} (hp : W.heap[bp]? = some (.cells cs 30 (0, 0))) (h : W.ownsRow base e size v m xs) (hT : 30 ≠ e) : (W.setCell ⟨bp, i, none⟩ u).ownsRow base e size v m xs :=
  own_rowC h (grown_set _ _ _ _) (fun k e => by cases e; exact own_othC h hp hT)
theorem SCb.head {w W : World} {bp : Nat} {c : CV} {zl ol vl ll : Value} {lines : List (List UInt8)} (h : SCb w W bp c zl ol vl ll lines) (n f : Int) : SCb w ((W.setCell ⟨bp, 0, none⟩ (.int .i64 n)).setCell ⟨bp, 4, none⟩ (.int .i64 f)) bp { c with n := n, f := f } zl ol vl ll lines := by
  have hk := h.hp
  have p1 : (W.setCell ⟨bp, 0, none⟩ (.int .i64 n)).heap[bp]? = some (.cells #[.int .i64 n, zl, ol, vl, .int .i64 c.f] 30 (0, 0)) := heap_setCell_same _ _ _ _ _ _ h.p
  refine ⟨Below.setCell (Below.setCell h.b (by simp; omega) _) (by simp; omega) _, set_rowM (set_rowM h.z (by omega)) (by omega), hk, heap_setCell_same _ _ _ _ _ _ p1, ?_, ?_, ?_, ?_⟩
  · exact SCb.stay p1 (SCb.stay h.p h.oz (by decide)) (by decide)
  · exact SCb.stay p1 (SCb.stay h.p h.oo (by decide)) (by decide)
  · exact SCb.stay p1 (SCb.stay h.p h.ov (by decide)) (by decide)
  · exact SCb.stay p1 (SCb.stay h.p h.n (by decide)) (by decide)
theorem SCb.times {w W W' : World} {bp : Nat} {c : CV} {zl ol vl ll v' : Value} {lines : List (List UInt8)} {l : List Int} (h : SCb w W bp c zl ol vl ll lines) (hg : W.grownBy W' zl.ownBlock) (ho : W'.ownsRow (w.heap.size + 1) 2 1 v' (c.zs ++ l).length ((c.zs ++ l).map (Value.int .i64))) :
    SCb w (W'.setCell ⟨bp, 1, none⟩ v') bp { c with zs := c.zs ++ l } v' ol vl ll lines := by
  have hk := h.hp
  have hob : ∀ g, zl.ownBlock = some g → w.heap.size + 1 ≤ g := fun g e => (h.oz.lt g e).1
  have P' := grown_row hg h.p (fun e => own_othC h.oz h.p (by decide) e.symm)
  refine ⟨Below.setCell (h.b.grown hg h.b.size (fun g e => by have := hob g e; omega)) (by simp; omega) _, set_rowM (grown_row hg h.z (fun e => by have := hob _ e.symm; omega)) (by omega), hk, heap_setCell_same _ _ _ _ _ _ P', SCb.stay P' ho (by decide), ?_, ?_, ?_⟩
  · exact SCb.stay P' (own_rowC h.oo hg (own_twoC h.oz h.oo (by decide))) (by decide)
  · exact SCb.stay P' (own_rowC h.ov hg (own_twoC h.oz h.ov (by decide))) (by decide)
  · exact SCb.stay P' (own_rowC h.n hg (own_twoC h.oz h.n (by decide))) (by decide)
theorem SCb.order {w W W' : World} {bp : Nat} {c : CV} {zl ol vl ll v' : Value} {lines : List (List UInt8)} {l : List Int} (h : SCb w W bp c zl ol vl ll lines) (hg : W.grownBy W' ol.ownBlock) (ho : W'.ownsRow (w.heap.size + 1) 45 6 v' (c.ko + 1) ((c.os ++ l).map (Value.int .i64))) :
    SCb w (W'.setCell ⟨bp, 2, none⟩ v') bp { c with os := c.os ++ l, ko := c.ko + 1 } zl v' vl ll lines := by
  have hk := h.hp
  have hob : ∀ g, ol.ownBlock = some g → w.heap.size + 1 ≤ g := fun g e => (h.oo.lt g e).1
  have P' := grown_row hg h.p (fun e => own_othC h.oo h.p (by decide) e.symm)
  refine ⟨Below.setCell (h.b.grown hg h.b.size (fun g e => by have := hob g e; omega)) (by simp; omega) _, set_rowM (grown_row hg h.z (fun e => by have := hob _ e.symm; omega)) (by omega), hk, heap_setCell_same _ _ _ _ _ _ P', ?_, SCb.stay P' ho (by decide), ?_, ?_⟩
  · exact SCb.stay P' (own_rowC h.oz hg (own_twoC h.oo h.oz (by decide))) (by decide)
  · exact SCb.stay P' (own_rowC h.ov hg (own_twoC h.oo h.ov (by decide))) (by decide)
  · exact SCb.stay P' (own_rowC h.n hg (own_twoC h.oo h.n (by decide))) (by decide)
theorem SCb.vehicle {w W W' : World} {bp : Nat} {c : CV} {zl ol vl ll v' : Value} {lines : List (List UInt8)} {l : List Int} (h : SCb w W bp c zl ol vl ll lines) (hg : W.grownBy W' vl.ownBlock) (ho : W'.ownsRow (w.heap.size + 1) 47 5 v' (c.kv + 1) ((c.vs ++ l).map (Value.int .i64))) :
    SCb w (W'.setCell ⟨bp, 3, none⟩ v') bp { c with vs := c.vs ++ l, kv := c.kv + 1 } zl ol v' ll lines := by
  have hk := h.hp
  have hob : ∀ g, vl.ownBlock = some g → w.heap.size + 1 ≤ g := fun g e => (h.ov.lt g e).1
  have P' := grown_row hg h.p (fun e => own_othC h.ov h.p (by decide) e.symm)
  refine ⟨Below.setCell (h.b.grown hg h.b.size (fun g e => by have := hob g e; omega)) (by simp; omega) _, set_rowM (grown_row hg h.z (fun e => by have := hob _ e.symm; omega)) (by omega), hk, heap_setCell_same _ _ _ _ _ _ P', ?_, ?_, SCb.stay P' ho (by decide), ?_⟩
  · exact SCb.stay P' (own_rowC h.oz hg (own_twoC h.ov h.oz (by decide))) (by decide)
  · exact SCb.stay P' (own_rowC h.oo hg (own_twoC h.ov h.oo (by decide))) (by decide)
  · exact SCb.stay P' (own_rowC h.n hg (own_twoC h.ov h.n (by decide))) (by decide)

end Go.Proofs.YtaofpbmdloihgaaDoor
