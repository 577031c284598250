import Derived.Test.YtpahhhocgpohbaaPack3
import Derived.Test.YtpahhhocgpohbaaPack17
import Derived.Test.YtpahhhocgpohbaaPack25
namespace Go.Proofs.Ytpahhhocgpohbaa
open Go.RowKit

theorem chg_q {w w' : World} {g : Option Nat} (h : w.grownBy w' g) : Chg3 w w' g none none := by
  obtain ⟨a, b, c, d, e⟩ := h
  exact ⟨a, b, c, d, fun k hk h1 _ _ => e k hk h1⟩
/-- A disk of the call's own is as it was where a row that lies elsewhere is written. -/
theorem DA.other {w w' : World} {base : Nat} {lv sv ov : Value} {L S : List FI} {O : List OP} {g : Option Nat} (h : DA w base lv sv ov L S O) (hg : w.grownBy w' g) (hq : ∀ k, g = some k → k < base) : DA w' base lv sv ov L S O := by
  have f : ∀ {v : Value}, (∀ k, v.ownBlock = some k → base ≤ k) → ∀ k, v.ownBlock = some k → g ≠ some k := fun h1 k h2 h3 => by
    have := h1 k h2
    have := hq k h3
    omega
  have c := chg_q hg
  exact ⟨⟨c.own h.d.l (f (fun k e => (h.d.l.lt k e).1)) (fun _ _ e => by cases e) (fun _ _ e => by cases e), c.own h.d.s (f (fun k e => (h.d.s.lt k e).1)) (fun _ _ e => by cases e) (fun _ _ e => by cases e), c.own h.d.o (f (fun k e => (h.d.o.lt k e).1)) (fun _ _ e => by cases e) (fun _ _ e => by cases e)⟩, h.ap⟩
/-- Inside the draw of a disk: the reader, the answer's box, the disk's box, the disk. -/
structure DD (w W : World) (q : Nat) (a : Option Addr) (bs : List Int) (c : Nat) (lv sv ov : Value) (L S : List FI) (O : List OP) : Prop where
  r0 : ∃ p, RD w q a bs c p
  rd : ∃ p, RD W q a bs c p
  g : w.grownBy W (some q)
  r2 : W.heap[w.heap.size]? = some (.cells #[.slice none 0 0, .slice none 0 0, .slice none 0 0] 27 (0, 0))
  r3 : W.heap[w.heap.size + 1]? = some (.cells #[lv, sv, ov] 27 (0, 0))
  da : DA W w.heap.size lv sv ov L S O
theorem DD.lt {w W : World} {q c : Nat} {a : Option Addr} {bs : List Int} {lv sv ov : Value} {L S : List FI} {O : List OP} (h : DD w W q a bs c lv sv ov L S O) : q < w.heap.size := by
  obtain ⟨p, hr⟩ := h.r0
  exact row_lt hr.1
theorem DD.read {w W W' : World} {q c p : Nat} {a : Option Addr} {bs : List Int} {lv sv ov : Value} {L S : List FI} {O : List OP} (h : DD w W q a bs c lv sv ov L S O) (hr : RD W' q a bs c p) (hg : W.grownBy W' (some q)) : DD w W' q a bs c lv sv ov L S O := by
  have hl := h.lt
  exact ⟨h.r0, ⟨p, hr⟩, grown_trn h.g hg, row_gq h.r2 (row_lt h.r2) hg (by omega), row_gq h.r3 (row_lt h.r3) hg (by omega), h.da.other hg (fun k e => by injection e with e; omega)⟩
theorem DD.below {w W W' : World} {q c : Nat} {a : Option Addr} {bs : List Int} {lv sv ov : Value} {L S : List FI} {O : List OP} (h : DD w W q a bs c lv sv ov L S O) (hb : Below W.heap.size W W') : DD w W' q a bs c lv sv ov L S O := by
  obtain ⟨p, hr⟩ := h.rd
  exact ⟨h.r0, ⟨p, hr.below hb⟩, grown_blw h.g hb, below_row hb (row_lt h.r2) h.r2, below_row hb (row_lt h.r3) h.r3, h.da.below hb⟩
theorem DD.size {w W : World} {q c : Nat} {a : Option Addr} {bs : List Int} {lv sv ov : Value} {L S : List FI} {O : List OP} (h : DD w W q a bs c lv sv ov L S O) : w.heap.size + 2 ≤ W.heap.size := by
  have := row_lt h.r3
  omega
/-- The reader and the grown world where a box of the call's own is written. -/
theorem rd_box3 {w W : World} {q c p b : Nat} {a : Option Addr} {bs : List Int} {x y z : Value} (h0 : ∃ p, RD w q a bs c p) (h : RD W q a bs c p) (hg : w.grownBy W (some q)) (hb : w.heap.size ≤ b) : RD (((W.setCell ⟨b, 0, none⟩ x).setCell ⟨b, 1, none⟩ y).setCell ⟨b, 2, none⟩ z) q a bs c p ∧ w.grownBy (((W.setCell ⟨b, 0, none⟩ x).setCell ⟨b, 1, none⟩ y).setCell ⟨b, 2, none⟩ z) (some q) := by
  obtain ⟨p0, h0⟩ := h0
  have hr : ∀ g, some b = some g → w.heap.size ≤ g := fun g e => by injection e with e; omega
  exact ⟨h0.kept2 (h0.kept2 (h0.kept2 h (grown_set _ _ _ _) hr) (grown_set _ _ _ _) hr) (grown_set _ _ _ _) hr, grown_own (grown_own (grown_own hg (grown_set _ _ _ _) hr) (grown_set _ _ _ _) hr) (grown_set _ _ _ _) hr⟩
/-- Another disk is put into the disk's box. -/
theorem DD.store {w W : World} {q c : Nat} {a : Option Addr} {bs : List Int} {lv sv ov x y z : Value} {L S L2 S2 : List FI} {O O2 : List OP} (h : DD w W q a bs c lv sv ov L S O) (hd : DA W w.heap.size x y z L2 S2 O2) : DD w (((W.setCell ⟨w.heap.size + 1, 0, none⟩ x).setCell ⟨w.heap.size + 1, 1, none⟩ y).setCell ⟨w.heap.size + 1, 2, none⟩ z) q a bs c x y z L2 S2 O2 := by
  obtain ⟨p, hr⟩ := h.rd
  obtain ⟨k1, k2⟩ := rd_box3 (x := x) (y := y) (z := z) h.r0 hr h.g (show w.heap.size ≤ w.heap.size + 1 by omega)
  have hne : w.heap.size ≠ w.heap.size + 1 := by omega
  exact ⟨h.r0, ⟨p, k1⟩, k2, (heap_setCell_other _ _ _ _ hne).trans ((heap_setCell_other _ _ _ _ hne).trans ((heap_setCell_other _ _ _ _ hne).trans h.r2)), boxW h.r3, da_box3 hd h.r3⟩
/-- Another box of the call's own is written. -/
theorem DD.far {w W : World} {q c kz : Nat} {a : Option Addr} {bs : List Int} {lv sv ov x y z u0 u1 u2 : Value} {L S : List FI} {O : List OP} (h : DD w W q a bs c lv sv ov L S O) (hk : w.heap.size + 2 ≤ kz) (hr : W.heap[kz]? = some (.cells #[u0, u1, u2] 27 (0, 0))) : DD w (((W.setCell ⟨kz, 0, none⟩ x).setCell ⟨kz, 1, none⟩ y).setCell ⟨kz, 2, none⟩ z) q a bs c lv sv ov L S O := by
  obtain ⟨p, hp⟩ := h.rd
  obtain ⟨k1, k2⟩ := rd_box3 (x := x) (y := y) (z := z) h.r0 hp h.g (show w.heap.size ≤ kz by omega)
  have h1 : w.heap.size ≠ kz := by omega
  have h2 : w.heap.size + 1 ≠ kz := by omega
  exact ⟨h.r0, ⟨p, k1⟩, k2, (heap_setCell_other _ _ _ _ h1).trans ((heap_setCell_other _ _ _ _ h1).trans ((heap_setCell_other _ _ _ _ h1).trans h.r2)), (heap_setCell_other _ _ _ _ h2).trans ((heap_setCell_other _ _ _ _ h2).trans ((heap_setCell_other _ _ _ _ h2).trans h.r3)), da_box3 h.da hr⟩
/-- Rows of two types that are owned lie apart. -/
theorem own_types {w : World} {b b2 s1 s2 n m : Nat} {e T : TypeId} {v u : Value} {xs ys : List Value} (h : w.ownsRow b e s1 v n xs) (h2 : w.ownsRow b2 T s2 u m ys) (hT : T ≠ e) : ∀ k, v.ownBlock = some k → u.ownBlock ≠ some k := fun k e1 e2 => by
  obtain ⟨_, ⟨rfl, _⟩ | ⟨g, cap, cur, rfl, _, h4, _⟩⟩ := h2
  · cases e2
  · have : some g = some k := e2
    injection this with this
    subst this
    exact own_otherT h h4 hT e1.symm
/-- The boxes stay where the row of the live files grows. -/
theorem DD.keep3 {w W W' : World} {q c : Nat} {a : Option Addr} {bs : List Int} {lv sv ov : Value} {L S : List FI} {O : List OP} (h : DD w W q a bs c lv sv ov L S O) (hg : W.grownBy W' lv.ownBlock) : W'.heap[w.heap.size + 1]? = some (.cells #[lv, sv, ov] 27 (0, 0)) :=
  (hg.block _ (row_lt h.r3) (own_otherT h.da.d.l h.r3 (by decide))).trans h.r3
/-- The live files grow by one. -/
theorem DD.app {w W W' : World} {q c ln : Nat} {a : Option Addr} {bs : List Int} {lv sv ov x : Value} {L S : List FI} {O : List OP} {f : FI} (h : DD w W q a bs c lv sv ov L S O) (hown : W'.ownsRow w.heap.size 55 2 x (ln + 1) (rowF (L ++ [f]))) (hg : W.grownBy W' lv.ownBlock) (hbk : x.ownBlock = lv.ownBlock ∨ x.ownBlock = some W.heap.size) (hl : L.length = ln) : DD w (W'.setCell ⟨w.heap.size + 1, 0, none⟩ x) q a bs c x sv ov (L ++ [f]) S O := by
  obtain ⟨p0, h0⟩ := h.r0
  obtain ⟨p, hr⟩ := h.rd
  have hlv : ∀ g, lv.ownBlock = some g → w.heap.size ≤ g := fun g e => (h.da.d.l.lt g e).1
  have hset : ∀ g, some (w.heap.size + 1) = some g → w.heap.size ≤ g := fun g e => by injection e with e; omega
  have r1 := h0.kept2 (h0.kept2 hr hg hlv) (grown_set W' (w.heap.size + 1) 0 x) hset
  have g1 := grown_own (grown_own h.g hg hlv) (grown_set W' (w.heap.size + 1) 0 x) hset
  have k2 := (hg.block _ (row_lt h.r2) (own_otherT h.da.d.l h.r2 (by decide))).trans h.r2
  have k3 := h.keep3 hg
  have cc := chg_q hg
  have s1 : W'.ownsRow w.heap.size 55 2 sv S.length (rowF S) := cc.own h.da.d.s (fun k e1 e2 => h.da.ap k e2 e1) (fun _ _ e => by cases e) (fun _ _ e => by cases e)
  have o1 : W'.ownsRow w.heap.size 36 4 ov O.length (rowO O) := cc.own h.da.d.o (fun k e1 e2 => own_types h.da.d.l h.da.d.o (by decide) k e2 e1) (fun _ _ e => by cases e) (fun _ _ e => by cases e)
  have l1 : W'.ownsRow w.heap.size 55 2 x (L ++ [f]).length (rowF (L ++ [f])) := by rw [List.length_append, hl]; exact hown
  have hne : w.heap.size ≠ w.heap.size + 1 := by omega
  refine ⟨⟨p0, h0⟩, ⟨p, r1⟩, g1, (heap_setCell_other _ _ _ _ hne).trans k2, by have := heap_setCell_same W' (w.heap.size + 1) 0 _ _ x k3; simpa using this, ⟨⟨own_setT l1 k3 (by decide), own_setT s1 k3 (by decide), own_setT o1 k3 (by decide)⟩, fun k e1 e2 => ?_⟩⟩
  rcases hbk with e | e
  · exact h.da.ap k (e ▸ e1) e2
  · have := (h.da.d.s.lt k e2).2
    rw [e] at e1
    injection e1 with e1
    omega
theorem own_some0 {w : World} {base k e size n c : Nat} {ao : Option Addr} {xs : List Value} (h : w.ownsRow base e size (.slice ao n c) k xs) (hk : 0 < k) : ∃ g, ao = some ⟨g, 0, none⟩ := by
  obtain ⟨_, ⟨h1, h2⟩ | ⟨g, cap, cur, h2, _⟩⟩ := h
  · omega
  · injection h2 with h2 _ _
    exact ⟨g, h2⟩
theorem DD.at {w W : World} {q c ln sn on lc sc oc : Nat} {a la sa oa : Option Addr} {bs : List Int} {L S : List FI} {O : List OP} (h : DD w W q a bs c (.slice la ln lc) (.slice sa sn sc) (.slice oa on oc) L S O) (h1 : L.length = ln) (h2 : S.length = sn) (h3 : O.length = on) : DAt W la sa oa L S O := h.da.at h1 h2 h3
/-- What a right disk's op answers, short. -/
theorem do_right {L S : List FI} {O : List OP} (o : OP) (h : dskB L S O = true) : dK L S O o = actK L O o ∧ dL L S O o = actL L O o ∧ dS L S O = S ∧ dO L S O o = actO L O o := by
  unfold dK dL dS dO
  rw [if_pos h, if_pos h, if_pos h, if_pos h]
  exact ⟨rfl, rfl, rfl, rfl⟩
theorem sy_right {L S : List FI} {O : List OP} (h : dskB L S O = true) : syL L S O = L := by
  unfold syL
  rw [h]
  rfl

end Go.Proofs.Ytpahhhocgpohbaa
