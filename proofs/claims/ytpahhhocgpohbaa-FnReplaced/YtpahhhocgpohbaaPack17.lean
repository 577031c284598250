import Derived.Test.YtpahhhocgpohbaaPack2
import Derived.Test.YtpahhhocgpohbaaPack5
import Derived.Test.YtpahhhocgpohbaaPack6
import Derived.Test.YtpahhhocgpohbaaPack11
import Derived.Test.YtpahhhocgpohbaaPack14
namespace Go.Proofs.Ytpahhhocgpohbaa
open Go.RowKit

theorem infO56 : (Try.prog.info? 36).map (fun i => (i.zero, i.size, i.bytes)) = some (some (Value.agg #[.int .i64 0, .string ⟨#[]⟩, .string ⟨#[]⟩, .string ⟨#[]⟩]), 4, 56) := by kernel_rfl
/-- A disk lies there. -/
structure DAt (w : World) (la sa oa : Option Addr) (L S : List FI) (O : List OP) : Prop where
  l : FilesAt w la L
  s : FilesAt w sa S
  o : OpsAt w oa O
theorem DAt.below {w w' : World} {la sa oa : Option Addr} {L S : List FI} {O : List OP} (h : DAt w la sa oa L S O) (hb : Below w.heap.size w w') : DAt w' la sa oa L S O := ⟨h.l.below hb, h.s.below hb, h.o.below hb⟩

/-- A disk of the call's own. -/
structure DO (w : World) (base : Nat) (lv sv ov : Value) (L S : List FI) (O : List OP) : Prop where
  l : w.ownsRow base 55 2 lv L.length (rowF L)
  s : w.ownsRow base 55 2 sv S.length (rowF S)
  o : w.ownsRow base 36 4 ov O.length (rowO O)
theorem DO.below {w w' : World} {base : Nat} {lv sv ov : Value} {L S : List FI} {O : List OP} (h : DO w base lv sv ov L S O) (hb : Below w.heap.size w w') : DO w' base lv sv ov L S O := ⟨own_blw h.l hb, own_blw h.s hb, own_blw h.o hb⟩
theorem DO.bse {w : World} {base b0 : Nat} {lv sv ov : Value} {L S : List FI} {O : List OP} (h : DO w base lv sv ov L S O) (hb : b0 ≤ base) : DO w b0 lv sv ov L S O := ⟨own_bse h.l hb, own_bse h.s hb, own_bse h.o hb⟩

/-- Of what was there these three rows alone have changed. -/
structure Chg3 (w w' : World) (a b c : Option Nat) : Prop where
  os : w'.os = w.os
  tape : w'.tape = w.tape
  output : w'.output = w.output
  size : w.heap.size ≤ w'.heap.size
  block : ∀ k, k < w.heap.size → some k ≠ a → some k ≠ b → some k ≠ c → w'.heap[k]? = w.heap[k]?
theorem Chg3.below {w w' : World} {a b c : Option Nat} {B : Nat} (h : Chg3 w w' a b c) (hB : B ≤ w.heap.size) (ha : ∀ k, a = some k → B ≤ k) (hb : ∀ k, b = some k → B ≤ k) (hc : ∀ k, c = some k → B ≤ k) : Below B w w' :=
  ⟨h.os, h.tape, h.output, h.size, fun k hk => h.block k (by omega) (fun e => by have := ha k e.symm; omega) (fun e => by have := hb k e.symm; omega) (fun e => by have := hc k e.symm; omega)⟩
theorem Chg3.own {w w' : World} {a b c : Option Nat} {base size n : Nat} {e : TypeId} {v : Value} {xs : List Value} (h : Chg3 w w' a b c) (ho : w.ownsRow base e size v n xs) (ha : ∀ k, v.ownBlock = some k → a ≠ some k) (hb : ∀ k, v.ownBlock = some k → b ≠ some k) (hc : ∀ k, v.ownBlock = some k → c ≠ some k) : w'.ownsRow base e size v n xs := by
  obtain ⟨h1, h2 | ⟨g, cap, cur, h2, h3, h4, h5⟩⟩ := ho
  · exact ⟨h1, .inl h2⟩
  · have hv : v.ownBlock = some g := by rw [h2]; rfl
    exact ⟨h1, .inr ⟨g, cap, cur, h2, h3, (h.block g (row_lt h4) (fun e => ha g hv e.symm) (fun e => hb g hv e.symm) (fun e => hc g hv e.symm)).trans h4, h5⟩⟩
/-- A disk of the call's own, its two lists of files in two rows. -/
structure DA (w : World) (base : Nat) (lv sv ov : Value) (L S : List FI) (O : List OP) : Prop where
  d : DO w base lv sv ov L S O
  ap : ∀ k, lv.ownBlock = some k → sv.ownBlock ≠ some k
theorem DA.below {w w' : World} {base : Nat} {lv sv ov : Value} {L S : List FI} {O : List OP} (h : DA w base lv sv ov L S O) (hb : Below w.heap.size w w') : DA w' base lv sv ov L S O := ⟨h.d.below hb, h.ap⟩
theorem DA.bse {w : World} {base b0 : Nat} {lv sv ov : Value} {L S : List FI} {O : List OP} (h : DA w base lv sv ov L S O) (hb : b0 ≤ base) : DA w b0 lv sv ov L S O := ⟨h.d.bse hb, h.ap⟩

/-- What the sizes tell of a disk. -/
structure DskOk (L S : List FI) (O : List OP) : Prop where
  ln : L.length ≤ 1048576
  sn : S.length ≤ 1048576
  on : O.length ≤ 1048576
  lt : totL L ≤ 1048576
  st : totL S ≤ 1048576
  ls : Shrt L
  ss : Shrt S
  os : OOk O
theorem DO.at {w : World} {base gl gs go lc sc oc : Nat} {L S : List FI} {O : List OP} (h : DO w base (.slice (some ⟨gl, 0, none⟩) L.length lc) (.slice (some ⟨gs, 0, none⟩) S.length sc) (.slice (some ⟨go, 0, none⟩) O.length oc) L S O) : DAt w (some ⟨gl, 0, none⟩) (some ⟨gs, 0, none⟩) (some ⟨go, 0, none⟩) L S O := by
  obtain ⟨a1, c1, e1, h1⟩ := own_files h.l rfl
  obtain ⟨a2, c2, e2, h2⟩ := own_files h.s rfl
  obtain ⟨a3, c3, e3, h3⟩ := own_ops h.o rfl
  injection e1 with e1 _ _
  injection e2 with e2 _ _
  injection e3 with e3 _ _
  rw [e1, e2, e3]
  exact ⟨h1, h2, h3⟩

end Go.Proofs.Ytpahhhocgpohbaa

namespace Go.Proofs.Ytpahhhocgpohbaa
open Go.RowKit

/-- A row that is being copied: not begun, or what is owned so far. -/
def OwnQ (W : World) (base : Nat) (E : TypeId) (size : Nat) : Option (Value × Nat × List Value) → Prop
  | none => True
  | some (v, n, xs) => W.ownsRow base E size v n xs
theorem OwnQ.below {W W' : World} {base size : Nat} {E : TypeId} : ∀ {q}, OwnQ W base E size q → Below W.heap.size W W' → OwnQ W' base E size q
  | none, _, _ => trivial
  | some _, h, hb => own_blw (show World.ownsRow _ _ _ _ _ _ _ from h) hb
/-- Three rows that are being copied. -/
structure CI (w W : World) (p q r : Option (Value × Nat × List Value)) : Prop where
  bel : Below w.heap.size w W
  a : OwnQ W w.heap.size 55 2 p
  b : OwnQ W w.heap.size 55 2 q
  c : OwnQ W w.heap.size 36 4 r
  ap : ∀ x y, p = some x → q = some y → ∀ k, x.1.ownBlock = some k → y.1.ownBlock ≠ some k
theorem CI.new (w : World) : CI w w.drew none none none := ⟨(Below.refl _ _).drew, trivial, trivial, trivial, fun x y h => by cases h⟩
theorem own_new0 (W : World) (E : TypeId) (size base : Nat) (hb : base ≤ W.heap.size) : (W.alloc (.cells #[] E)).ownsRow base E size (.slice (some ⟨W.heap.size, 0, none⟩) 0 0) 0 ([] : List Value) := by
  refine ⟨by simp, .inr ⟨W.heap.size, 0, #[], rfl, hb, heap_alloc_new _ _, Nat.le_refl _, by unfold maxLen; omega, by simp, by simp⟩⟩
theorem own_blk0 {W : World} {n c k : Nat} (h : (Value.slice (some ⟨W.heap.size, 0, none⟩) n c).ownBlock = some k) : W.heap.size = k := by simpa [Value.ownBlock] using h
theorem CI.newA {w W : World} {b c} (h : CI w W none b c) : CI w (W.alloc (.cells #[] 55)) (some (.slice (some ⟨W.heap.size, 0, none⟩) 0 0, 0, [])) b c := by
  have hb : Below W.heap.size W (W.alloc (.cells #[] 55)) := (Below.refl _ _).alloc (Nat.le_refl _) _
  refine ⟨h.bel.trans (hb.mono h.bel.size), own_new0 W _ 2 _ h.bel.size, h.b.below hb, h.c.below hb, fun x y hx hy k h1 h2 => ?_⟩
  cases hx
  subst hy
  have e := own_blk0 h1
  have := ((show World.ownsRow _ _ _ _ _ _ _ from h.b).lt k h2).2
  omega
theorem CI.newB {w W : World} {a c} (h : CI w W a none c) : CI w (W.alloc (.cells #[] 55)) a (some (.slice (some ⟨W.heap.size, 0, none⟩) 0 0, 0, [])) c := by
  have hb : Below W.heap.size W (W.alloc (.cells #[] 55)) := (Below.refl _ _).alloc (Nat.le_refl _) _
  refine ⟨h.bel.trans (hb.mono h.bel.size), h.a.below hb, own_new0 W _ 2 _ h.bel.size, h.c.below hb, fun x y hx hy k h1 h2 => ?_⟩
  cases hy
  subst hx
  have e := own_blk0 h2
  have := ((show World.ownsRow _ _ _ _ _ _ _ from h.a).lt k h1).2
  omega
theorem CI.newC {w W : World} {a b} (h : CI w W a b none) : CI w (W.alloc (.cells #[] 36)) a b (some (.slice (some ⟨W.heap.size, 0, none⟩) 0 0, 0, [])) := by
  have hb : Below W.heap.size W (W.alloc (.cells #[] 36)) := (Below.refl _ _).alloc (Nat.le_refl _) _
  exact ⟨h.bel.trans (hb.mono h.bel.size), h.a.below hb, h.b.below hb, own_new0 W _ 4 _ h.bel.size, h.ap⟩
theorem OwnQ.grow {W W' : World} {base size : Nat} {E : TypeId} {row : Option Nat} : ∀ {q}, OwnQ W base E size q → W.grownBy W' row → (∀ x k, q = some x → x.1.ownBlock = some k → row ≠ some k) → OwnQ W' base E size q
  | none, _, _, _ => trivial
  | some x, h, hg, hn => own_grownT (show World.ownsRow _ _ _ _ _ _ _ from h) hg (fun k hk => hn x k rfl hk)
theorem OwnQ.typ {W : World} {base size b2 s2 n2 : Nat} {E E2 : TypeId} {v2 : Value} {x2 : List Value} (hT : E ≠ E2) (h2 : W.ownsRow b2 E2 s2 v2 n2 x2) : ∀ {q}, OwnQ W base E size q → ∀ x k, q = some x → x.1.ownBlock = some k → v2.ownBlock ≠ some k
  | none, _, x, k, h, _ => by cases h
  | some y, h, x, k, e, hk => by
    cases e
    exact own_apartT (show World.ownsRow _ _ _ _ _ _ _ from h) h2 hT k hk
theorem CI.appA {w W W' : World} {b c} {v v' : Value} {n n' : Nat} {xs ys : List Value} (h : CI w W (some (v, n, xs)) b c) (hg : W.grownBy W' v.ownBlock) (ho : W'.ownsRow w.heap.size 55 2 v' n' ys) (hbk : v'.ownBlock = v.ownBlock ∨ v'.ownBlock = some W.heap.size) : CI w W' (some (v', n', ys)) b c := by
  have ha : W.ownsRow w.heap.size 55 2 v n xs := h.a
  refine ⟨h.bel.grown hg h.bel.size (fun k e => (ha.lt k e).1), ho, h.b.grow hg (fun y k hy hk e => h.ap _ y rfl hy k e hk), h.c.grow hg (fun y k hy hk e => h.c.typ (by decide) ha y k hy hk e), fun x y hx hy k h1 h2 => ?_⟩
  cases hx
  subst hy
  rcases hbk with e | e
  · exact h.ap _ _ rfl rfl k (by rw [← e]; exact h1) h2
  · have h1' : v'.ownBlock = some k := h1
    rw [e] at h1'
    have := ((show World.ownsRow _ _ _ _ _ _ _ from h.b).lt k h2).2
    have := Option.some.inj h1'
    omega
theorem CI.appB {w W W' : World} {a c} {v v' : Value} {n n' : Nat} {xs ys : List Value} (h : CI w W a (some (v, n, xs)) c) (hg : W.grownBy W' v.ownBlock) (ho : W'.ownsRow w.heap.size 55 2 v' n' ys) (hbk : v'.ownBlock = v.ownBlock ∨ v'.ownBlock = some W.heap.size) : CI w W' a (some (v', n', ys)) c := by
  have hb : W.ownsRow w.heap.size 55 2 v n xs := h.b
  refine ⟨h.bel.grown hg h.bel.size (fun k e => (hb.lt k e).1), h.a.grow hg (fun y k hy hk e => h.ap y _ hy rfl k hk e), ho, h.c.grow hg (fun y k hy hk e => h.c.typ (by decide) hb y k hy hk e), fun x y hx hy k h1 h2 => ?_⟩
  cases hy
  subst hx
  rcases hbk with e | e
  · exact h.ap _ _ rfl rfl k h1 (by rw [← e]; exact h2)
  · have h2' : v'.ownBlock = some k := h2
    rw [e] at h2'
    have := ((show World.ownsRow _ _ _ _ _ _ _ from h.a).lt k h1).2
    have := Option.some.inj h2'
    omega
theorem CI.appC {w W W' : World} {a b} {v v' : Value} {n n' : Nat} {xs ys : List Value} (h : CI w W a b (some (v, n, xs))) (hg : W.grownBy W' v.ownBlock) (ho : W'.ownsRow w.heap.size 36 4 v' n' ys) : CI w W' a b (some (v', n', ys)) := by
  have hc : W.ownsRow w.heap.size 36 4 v n xs := h.c
  exact ⟨h.bel.grown hg h.bel.size (fun k e => (hc.lt k e).1), h.a.grow hg (fun y k hy hk e => h.a.typ (by decide) hc y k hy hk e), h.b.grow hg (fun y k hy hk e => h.b.typ (by decide) hc y k hy hk e), ho, h.ap⟩
theorem OpsAt.cells {w : World} {a : Option Addr} {F : List OP} (h : OpsAt w a F) : ∀ j u, (rowO F)[j]? = some u → ∃ b off, a = some ⟨b, off, none⟩ ∧ w.cell? ⟨b, off + j, none⟩ = some u := by
  intro j u hu
  have hj : j < F.length * 4 := by
    rcases Nat.lt_or_ge j (F.length * 4) with h | h
    · exact h
    · rw [List.getElem?_eq_none (by rw [rowO_len]; exact h)] at hu; cases hu
  obtain ⟨b, off, e, c0, c1, c2, c3⟩ := h (j / 4) (by omega)
  obtain ⟨r0, r1, r2, r3⟩ := rowO_at F (j / 4) (by omega)
  refine ⟨b, off, e, ?_⟩
  have hm : j % 4 = 0 ∨ j % 4 = 1 ∨ j % 4 = 2 ∨ j % 4 = 3 := by omega
  rcases hm with hm | hm | hm | hm
  · have ej : j / 4 * 4 = j := by omega
    rw [ej] at r0 c0
    rw [c0, ← r0, hu]
  · have ej : j / 4 * 4 + 1 = j := by omega
    rw [ej] at r1
    rw [Nat.add_assoc, ej] at c1
    rw [c1, ← r1, hu]
  · have ej : j / 4 * 4 + 2 = j := by omega
    rw [ej] at r2
    rw [Nat.add_assoc, ej] at c2
    rw [c2, ← r2, hu]
  · have ej : j / 4 * 4 + 3 = j := by omega
    rw [ej] at r3
    rw [Nat.add_assoc, ej] at c3
    rw [c3, ← r3, hu]

theorem CI.nilC (w : World) : CI w w.drew none none (some (.slice none 0 0, 0, rowO [])) := ⟨(Below.refl _ _).drew, trivial, trivial, ⟨rfl, .inl ⟨rfl, rfl⟩⟩, fun x y h => by cases h⟩
theorem CI.callA {w W W' : World} {q r} {v : Value} {n : Nat} {xs : List Value} (h : CI w W none q r) (hb : Below W.heap.size W W') (ho : W'.ownsRow W.heap.size 55 2 v n xs) : CI w W' (some (v, n, xs)) q r := by
  refine ⟨h.bel.trans (hb.mono h.bel.size), own_bse ho h.bel.size, h.b.below hb, h.c.below hb, fun x y hx hy k h1 h2 => ?_⟩
  cases hx
  subst hy
  have h3 := (ho.lt k h1).1
  have := ((show World.ownsRow _ _ _ _ _ _ _ from h.b).lt k h2).2
  omega
theorem CI.callB {w W W' : World} {p r} {v : Value} {n : Nat} {xs : List Value} (h : CI w W p none r) (hb : Below W.heap.size W W') (ho : W'.ownsRow W.heap.size 55 2 v n xs) : CI w W' p (some (v, n, xs)) r := by
  refine ⟨h.bel.trans (hb.mono h.bel.size), h.a.below hb, own_bse ho h.bel.size, h.c.below hb, fun x y hx hy k h1 h2 => ?_⟩
  cases hy
  subst hx
  have h3 := (ho.lt k h2).1
  have := ((show World.ownsRow _ _ _ _ _ _ _ from h.a).lt k h1).2
  omega
theorem CI.callC {w W W' : World} {p q} {v : Value} {n : Nat} {xs : List Value} (h : CI w W p q none) (hb : Below W.heap.size W W') (ho : W'.ownsRow W.heap.size 36 4 v n xs) : CI w W' p q (some (v, n, xs)) :=
  ⟨h.bel.trans (hb.mono h.bel.size), h.a.below hb, h.b.below hb, own_bse ho h.bel.size, h.ap⟩

end Go.Proofs.Ytpahhhocgpohbaa

namespace Go.Proofs.Ytpahhhocgpohbaa
open Go.RowKit

theorem specDisk_at (la sa oa : Option Addr) (lc sc oc ln sn on : Nat) (L S : List FI) (O : List OP) (w : World) (hD : DAt w la sa oa L S O) (hK : DskOk L S O) (hLn : L.length = ln) (hSn : S.length = sn) (hOn : O.length = on) :
    Calls Try.prog 9 #[.agg #[.slice la ln lc, .slice sa sn sc, .slice oa on oc]] w fun e w' => e = .returned (.bool (dskB L S O)) ∧ Below w.heap.size w w' := by
  subst hLn hSn hOn
  exact specDisk_any la sa oa lc sc oc L S O w hD.l hD.s hD.o hK.ln hK.sn hK.on hK.lt hK.st hK.ls hK.ss hK.os


end Go.Proofs.Ytpahhhocgpohbaa

namespace Go.Proofs.Ytpahhhocgpohbaa
open Go.RowKit

theorem DA.at {w : World} {base x1 x2 x3 c1 c2 c3 : Nat} {a1 a2 a3 : Option Addr} {L S : List FI} {O : List OP} (h : DA w base (.slice a1 x1 c1) (.slice a2 x2 c2) (.slice a3 x3 c3) L S O) (h1 : L.length = x1) (h2 : S.length = x2) (h3 : O.length = x3) : DAt w a1 a2 a3 L S O := by
  subst h1 h2 h3
  obtain ⟨b1, d1, e1, g1⟩ := own_files h.d.l rfl
  obtain ⟨b2, d2, e2, g2⟩ := own_files h.d.s rfl
  obtain ⟨b3, d3, e3, g3⟩ := own_ops h.d.o rfl
  injection e1 with e1 _ _
  injection e2 with e2 _ _
  injection e3 with e3 _ _
  rw [e1, e2, e3]
  exact ⟨g1, g2, g3⟩
/-- All rows of a disk lie below m. -/
def LowD (lv sv ov : Value) (m : Nat) : Prop := (∀ k, lv.ownBlock = some k → k < m) ∧ (∀ k, sv.ownBlock = some k → k < m) ∧ (∀ k, ov.ownBlock = some k → k < m)
theorem DA.low {w : World} {base : Nat} {lv sv ov : Value} {L S : List FI} {O : List OP} (h : DA w base lv sv ov L S O) : LowD lv sv ov w.heap.size := ⟨fun k e => (h.d.l.lt k e).2, fun k e => (h.d.s.lt k e).2, fun k e => (h.d.o.lt k e).2⟩
theorem DA.ge {w : World} {base : Nat} {lv sv ov : Value} {L S : List FI} {O : List OP} (h : DA w base lv sv ov L S O) : (∀ k, lv.ownBlock = some k → base ≤ k) ∧ (∀ k, sv.ownBlock = some k → base ≤ k) ∧ (∀ k, ov.ownBlock = some k → base ≤ k) := ⟨fun k e => (h.d.l.lt k e).1, fun k e => (h.d.s.lt k e).1, fun k e => (h.d.o.lt k e).1⟩
/-- A disk whose rows lie below those that changed. -/
theorem DA.keepLow {w w' : World} {base m : Nat} {lv sv ov : Value} {L S : List FI} {O : List OP} {x y z : Option Nat} (h : DA w base lv sv ov L S O) (hl : LowD lv sv ov m) (c : Chg3 w w' x y z) (hx : ∀ k, x = some k → m ≤ k) (hy : ∀ k, y = some k → m ≤ k) (hz : ∀ k, z = some k → m ≤ k) : DA w' base lv sv ov L S O := by
  have f : ∀ {v : Value} {o : Option Nat}, (∀ k, v.ownBlock = some k → k < m) → (∀ k, o = some k → m ≤ k) → ∀ k, v.ownBlock = some k → o ≠ some k := fun h1 h2 k h3 h4 => by
    have := h1 k h3
    have := h2 k h4
    omega
  exact ⟨⟨c.own h.d.l (f hl.1 hx) (f hl.1 hy) (f hl.1 hz), c.own h.d.s (f hl.2.1 hx) (f hl.2.1 hy) (f hl.2.1 hz), c.own h.d.o (f hl.2.2 hx) (f hl.2.2 hy) (f hl.2.2 hz)⟩, h.ap⟩
/-- .. above them. -/
theorem DA.keepHigh {w w' : World} {base : Nat} {lv sv ov : Value} {L S : List FI} {O : List OP} {x y z : Option Nat} (h : DA w base lv sv ov L S O) (c : Chg3 w w' x y z) (hx : ∀ k, x = some k → k < base) (hy : ∀ k, y = some k → k < base) (hz : ∀ k, z = some k → k < base) : DA w' base lv sv ov L S O := by
  have f : ∀ {v : Value} {o : Option Nat}, (∀ k, v.ownBlock = some k → base ≤ k) → (∀ k, o = some k → k < base) → ∀ k, v.ownBlock = some k → o ≠ some k := fun h1 h2 k h3 h4 => by
    have := h1 k h3
    have := h2 k h4
    omega
  have g := h.ge
  exact ⟨⟨c.own h.d.l (f g.1 hx) (f g.1 hy) (f g.1 hz), c.own h.d.s (f g.2.1 hx) (f g.2.1 hy) (f g.2.1 hz), c.own h.d.o (f g.2.2 hx) (f g.2.2 hy) (f g.2.2 hz)⟩, h.ap⟩
/-- A row of another type is kept. -/
theorem DA.row {w w' : World} {base k : Nat} {T : TypeId} {cs : Array Value} {lv sv ov : Value} {L S : List FI} {O : List OP} (h : DA w base lv sv ov L S O) (c : Chg3 w w' lv.ownBlock sv.ownBlock ov.ownBlock) (hr : w.heap[k]? = some (.cells cs T (0, 0))) (h1 : T ≠ 55) (h2 : T ≠ 36) : w'.heap[k]? = some (.cells cs T (0, 0)) :=
  (c.block k (row_lt hr) (own_otherT h.d.l hr h1) (own_otherT h.d.s hr h1) (own_otherT h.d.o hr h2)).trans hr
theorem DA.bel {w w' : World} {base B : Nat} {lv sv ov : Value} {L S : List FI} {O : List OP} (h : DA w base lv sv ov L S O) (c : Chg3 w w' lv.ownBlock sv.ownBlock ov.ownBlock) (hB : B ≤ base) (hw : B ≤ w.heap.size) : Below B w w' :=
  c.below hw (fun k e => Nat.le_trans hB (h.ge.1 k e)) (fun k e => Nat.le_trans hB (h.ge.2.1 k e)) (fun k e => Nat.le_trans hB (h.ge.2.2 k e))

end Go.Proofs.Ytpahhhocgpohbaa

namespace Go.Proofs.Ytpahhhocgpohbaa
open Go.RowKit

theorem boxW {W : World} {k : Nat} {z0 z1 z2 u v x : Value} {T : TypeId} (h : W.heap[k]? = some (.cells #[z0, z1, z2] T (0, 0))) : (((W.setCell ⟨k, 0, none⟩ u).setCell ⟨k, 1, none⟩ v).setCell ⟨k, 2, none⟩ x).heap[k]? = some (.cells #[u, v, x] T (0, 0)) := by
  have s1 := heap_setCell_same W k 0 _ _ u h
  have s2 := heap_setCell_same _ k 1 _ _ v s1
  have s3 := heap_setCell_same _ k 2 _ _ x s2
  simpa using s3

theorem da_box3 {W : World} {k base : Nat} {z0 z1 z2 u v x lv sv ov : Value} {L S : List FI} {O : List OP} (d : DA W base lv sv ov L S O) (h : W.heap[k]? = some (.cells #[z0, z1, z2] 27 (0, 0))) : DA (((W.setCell ⟨k, 0, none⟩ u).setCell ⟨k, 1, none⟩ v).setCell ⟨k, 2, none⟩ x) base lv sv ov L S O := by
  have s1 := heap_setCell_same W k 0 _ _ u h
  have s2 := heap_setCell_same _ k 1 _ _ v s1
  exact ⟨⟨own_setT (own_setT (own_setT d.d.l h (by decide)) s1 (by decide)) s2 (by decide), own_setT (own_setT (own_setT d.d.s h (by decide)) s1 (by decide)) s2 (by decide), own_setT (own_setT (own_setT d.d.o h (by decide)) s1 (by decide)) s2 (by decide)⟩, d.ap⟩

end Go.Proofs.Ytpahhhocgpohbaa

namespace Go.Proofs.Ytpahhhocgpohbaa
open Go.RowKit

/-- A cell that is no slice does not lie in a box of slices. -/
theorem cell_ne_box {W : World} {k b m : Nat} {T : TypeId} {a1 a2 a3 : Option Addr} {n1 n2 n3 c1 c2 c3 : Nat} {u : Value} (h : W.heap[k]? = some (.cells #[.slice a1 n1 c1, .slice a2 n2 c2, .slice a3 n3 c3] T (0, 0))) (hc : W.cell? ⟨b, m, none⟩ = some u) (hu : ∀ a n c, u ≠ .slice a n c) : b ≠ k := by
  intro e
  subst e
  rw [cell_of_row _ _ m _ _ _ h] at hc
  match m, hc with
  | 0, hc => simp at hc; exact hu _ _ _ hc.symm
  | 1, hc => simp at hc; exact hu _ _ _ hc.symm
  | 2, hc => simp at hc; exact hu _ _ _ hc.symm
  | m + 3, hc => simp at hc
theorem FilesAt.box {W : World} {k i : Nat} {T : TypeId} {a1 a2 a3 a : Option Addr} {n1 n2 n3 c1 c2 c3 : Nat} {u : Value} {F : List FI} (h : FilesAt W a F) (hr : W.heap[k]? = some (.cells #[.slice a1 n1 c1, .slice a2 n2 c2, .slice a3 n3 c3] T (0, 0))) : FilesAt (W.setCell ⟨k, i, none⟩ u) a F := fun j hj => by
  obtain ⟨b, off, e, h1, h2⟩ := h j hj
  have hb : b ≠ k := cell_ne_box hr h1 (fun _ _ _ e => by cases e)
  exact ⟨b, off, e, keep_setT h1 hb, keep_setT h2 hb⟩
theorem OpsAt.box {W : World} {k i : Nat} {T : TypeId} {a1 a2 a3 a : Option Addr} {n1 n2 n3 c1 c2 c3 : Nat} {u : Value} {F : List OP} (h : OpsAt W a F) (hr : W.heap[k]? = some (.cells #[.slice a1 n1 c1, .slice a2 n2 c2, .slice a3 n3 c3] T (0, 0))) : OpsAt (W.setCell ⟨k, i, none⟩ u) a F := fun j hj => by
  obtain ⟨b, off, e, h1, h2, h3, h4⟩ := h j hj
  have hb : b ≠ k := cell_ne_box hr h1 (fun _ _ _ e => by cases e)
  exact ⟨b, off, e, keep_setT h1 hb, keep_setT h2 hb, keep_setT h3 hb, keep_setT h4 hb⟩
/-- A disk is as it was where a box of slices is written whole. -/
theorem DAt.box3 {W : World} {k : Nat} {T : TypeId} {a1 a2 a3 b1 b2 b3 la sa oa : Option Addr} {n1 n2 n3 c1 c2 c3 m1 m2 m3 d1 d2 d3 : Nat} {L S : List FI} {O : List OP} (h : DAt W la sa oa L S O) (hr : W.heap[k]? = some (.cells #[.slice a1 n1 c1, .slice a2 n2 c2, .slice a3 n3 c3] T (0, 0))) :
    DAt (((W.setCell ⟨k, 0, none⟩ (.slice b1 m1 d1)).setCell ⟨k, 1, none⟩ (.slice b2 m2 d2)).setCell ⟨k, 2, none⟩ (.slice b3 m3 d3)) la sa oa L S O := by
  have s1 : (W.setCell ⟨k, 0, none⟩ (.slice b1 m1 d1)).heap[k]? = some (.cells #[.slice b1 m1 d1, .slice a2 n2 c2, .slice a3 n3 c3] T (0, 0)) := by
    have := heap_setCell_same W k 0 _ _ (.slice b1 m1 d1) hr
    simpa using this
  have s2 : ((W.setCell ⟨k, 0, none⟩ (.slice b1 m1 d1)).setCell ⟨k, 1, none⟩ (.slice b2 m2 d2)).heap[k]? = some (.cells #[.slice b1 m1 d1, .slice b2 m2 d2, .slice a3 n3 c3] T (0, 0)) := by
    have := heap_setCell_same _ k 1 _ _ (.slice b2 m2 d2) s1
    simpa using this
  exact ⟨((h.l.box hr).box s1).box s2, ((h.s.box hr).box s1).box s2, ((h.o.box hr).box s1).box s2⟩

end Go.Proofs.Ytpahhhocgpohbaa
