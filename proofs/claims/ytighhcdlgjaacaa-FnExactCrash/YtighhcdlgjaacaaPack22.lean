import Derived.Test.YtighhcdlgjaacaaPack1
import Derived.Test.YtighhcdlgjaacaaPack2
import Derived.Test.YtighhcdlgjaacaaPack4
import Derived.Test.YtighhcdlgjaacaaPack5
import Derived.Test.YtighhcdlgjaacaaPack15
import Derived.Test.YtighhcdlgjaacaaPack20
import Derived.Test.YtighhcdlgjaacaaDiskToD
namespace Go.Proofs.Ytighhcdlgjaacaa
open Go.RowKit

/-- Of what was there these three rows alone have changed. -/
structure Chg3 (w w' : World) (a b c : Option Nat) : Prop where
  os : w'.os = w.os
  tape : w'.tape = w.tape
  output : w'.output = w.output
  size : w.heap.size ≤ w'.heap.size
  block : ∀ k, k < w.heap.size → some k ≠ a → some k ≠ b → some k ≠ c → w'.heap[k]? = w.heap[k]?
theorem Chg3.below {w w' : World} {a b c : Option Nat} {B : Nat} (h : Chg3 w w' a b c) (hB : B ≤ w.heap.size) (ha : ∀ k, a = some k → B ≤ k) (hb : ∀ k, b = some k → B ≤ k) (hc : ∀ k, c = some k → B ≤ k) : Below B w w' :=
  ⟨h.os, h.tape, h.output, h.size, fun k hk => h.block k (by omega) (fun e => by have := ha k e.symm; omega) (fun e => by have := hb k e.symm; omega) (fun e => by have := hc k e.symm; omega)⟩
theorem Chg3.own {w w' : World} {a b c : Option Nat} {base size n : Nat} {e : TypeId} {v : Value} {xs : List Value} (h : Chg3 w w' a b c) (ho : w.ownsRow base e size v n xs) (ha : ∀ k, v.ownBlock = some k → a ≠ some k) (hb : ∀ k, v.ownBlock = some k → b ≠ some k) (hc : ∀ k, v.ownBlock = some k → c ≠ some k) : w'.ownsRow base e size v n xs := by
  obtain ⟨h1, h2 | ⟨g, cap, cur, h2, h3, h4, h5⟩⟩ := ho
  · exact ⟨h1, .inl h2⟩
  · have hv : v.ownBlock = some g := by rw [h2]; rfl
    exact ⟨h1, .inr ⟨g, cap, cur, h2, h3, (h.block g (row_lt h4) (fun e => ha g hv e.symm) (fun e => hb g hv e.symm) (fun e => hc g hv e.symm)).trans h4, h5⟩⟩
/-- A disk of the call's own, its two lists of files in two rows. -/
structure DA (w : World) (base : Nat) (lv sv ov : Value) (L S : List FI) (O : List OP) : Prop where
  d : DO w base lv sv ov L S O
  ap : ∀ k, lv.ownBlock = some k → sv.ownBlock ≠ some k
theorem DA.below {w w' : World} {base : Nat} {lv sv ov : Value} {L S : List FI} {O : List OP} (h : DA w base lv sv ov L S O) (hb : Below w.heap.size w w') : DA w' base lv sv ov L S O := ⟨h.d.below hb, h.ap⟩
theorem DA.bse {w : World} {base b0 : Nat} {lv sv ov : Value} {L S : List FI} {O : List OP} (h : DA w base lv sv ov L S O) (hb : b0 ≤ base) : DA w b0 lv sv ov L S O := ⟨h.d.bse hb, h.ap⟩

set_option maxHeartbeats 2000000 in
theorem markDisk_any (la sa oa : Option Addr) (lc sc oc ln sn on k base : Nat) (L S : List FI) (O : List OP) (w : World) (h : DA w base (.slice la ln lc) (.slice sa sn sc) (.slice oa on oc) L S O) (hLn : L.length = ln) (hSn : S.length = sn) (hOn : O.length = on) (bl : ln ≤ 1048576) (bs : sn ≤ 1048576) (bo : on ≤ 1048576) (hk0 : 1 ≤ k) (hk : k ≤ 10000000) :
    Calls Try.prog 18 #[.agg #[.slice la ln lc, .slice sa sn sc, .slice oa on oc], .int .i64 k] w fun e w' => e = .returned (.int .i64 ((k + 2 * ln + 2 * sn + 4 * on : Nat) : Int)) ∧ Chg3 w w' (Value.slice la ln lc).ownBlock (Value.slice sa sn sc).ownBlock (Value.slice oa on oc).ownBlock ∧ DA w' base (.slice la ln lc) (.slice sa sn sc) (.slice oa on oc) (mkF k ln) (mkF (k + 2 * ln) sn) (mkO (k + 2 * ln + 2 * sn) on) := by
  have HH : Hid (DA w base (.slice la ln lc) (.slice sa sn sc) (.slice oa on oc) L S O) := h
  have hl := h.d.l
  have hs := h.d.s
  have ho := h.d.o
  rw [hLn] at hl
  rw [hSn] at hs
  rw [hOn] at ho
  have HL0 : Hid (w.ownsRow base 72 2 (.slice la ln lc) ln (rowF L)) := hl
  have HS0 : Hid (w.ownsRow base 72 2 (.slice sa sn sc) sn (rowF S)) := hs
  have HO0 : Hid (w.ownsRow base 40 4 (.slice oa on oc) on (rowO O)) := ho
  have HNL : Hid (L.length = ln) := hLn
  have HNS : Hid (S.length = sn) := hSn
  have HNO : Hid (O.length = on) := hOn
  have B0 : Hid (Below w.heap.size w (w.alloc (.cells #[.slice la ln lc, .slice sa sn sc, .slice oa on oc] 31))) := (Below.refl _ _).alloc (Nat.le_refl _) _
  have R0 : Hid ((w.alloc (.cells #[.slice la ln lc, .slice sa sn sc, .slice oa on oc] 31)).heap[w.heap.size]? = some (.cells #[.slice la ln lc, .slice sa sn sc, .slice oa on oc] 31 (0, 0))) := heap_alloc_new _ _
  obtain ⟨c0, c1, c2⟩ := cells3 R0.out
  clear h hl hs ho hLn hSn hOn
  go_enter Try.func18, Try.ntmps18
  go_wp2_with fail
  refine (markFileS_any _ ln k base L _ (own_blw HL0.out B0.out) HNL.out bl hk0 (by omega)).mono ?_
  rintro e w1 ⟨rfl, hg1, hl1⟩
  have S1 : Hid (w1.ownsRow base 72 2 (.slice sa sn sc) sn (rowF S)) := own_grownT (own_blw HS0.out B0.out) hg1 (fun q hq e => HH.out.ap q e hq)
  have O1 : Hid (w1.ownsRow base 40 4 (.slice oa on oc) on (rowO O)) := own_grownT (own_blw HO0.out B0.out) hg1 (fun q hq e => own_apartT (own_blw HO0.out B0.out) (own_blw HL0.out B0.out) (by decide) q hq e)
  have L1 : Hid (w1.ownsRow base 72 2 (.slice la ln lc) ln (rowF (mkF k ln))) := hl1
  have R1 : Hid (w1.heap[w.heap.size]? = some (.cells #[.slice la ln lc, .slice sa sn sc, .slice oa on oc] 31 (0, 0))) := (hg1.block _ (row_lt R0.out) (own_otherT (own_blw HL0.out B0.out) R0.out (by decide))).trans R0.out
  have G1 : Hid ((w.alloc (.cells #[.slice la ln lc, .slice sa sn sc, .slice oa on oc] 31)).grownBy w1 (Value.slice la ln lc).ownBlock) := hg1
  obtain ⟨d0, d1, d2⟩ := cells3 R1.out
  clear hg1 hl1 c0 c1 c2 HS0 HO0 R0
  obtain ⟨k1, HK1⟩ : ∃ x, Hid (k + 2 * ln = x) := ⟨_, rfl⟩
  have hk1 : 1 ≤ k1 ∧ k1 ≤ 20000000 := by have := HK1.out; omega
  rw [HK1.out]
  go_wp2_with fail
  refine (markFileS_any _ sn k1 base S w1 S1.out HNS.out bs hk1.1 (by omega)).mono ?_
  rintro e w2 ⟨rfl, hg2, hs2⟩
  have L2 : Hid (w2.ownsRow base 72 2 (.slice la ln lc) ln (rowF (mkF k ln))) := own_grownT L1.out hg2 (fun q hq e => HH.out.ap q hq e)
  have O2 : Hid (w2.ownsRow base 40 4 (.slice oa on oc) on (rowO O)) := own_grownT O1.out hg2 (fun q hq e => own_apartT O1.out S1.out (by decide) q hq e)
  have S2 : Hid (w2.ownsRow base 72 2 (.slice sa sn sc) sn (rowF (mkF k1 sn))) := hs2
  have R2 : Hid (w2.heap[w.heap.size]? = some (.cells #[.slice la ln lc, .slice sa sn sc, .slice oa on oc] 31 (0, 0))) := (hg2.block _ (row_lt R1.out) (own_otherT S1.out R1.out (by decide))).trans R1.out
  have G2 : Hid (w1.grownBy w2 (Value.slice sa sn sc).ownBlock) := hg2
  obtain ⟨e0, e1, e2⟩ := cells3 R2.out
  clear hg2 hs2 d0 d1 d2 S1 O1 L1 R1
  obtain ⟨k2, HK2⟩ : ∃ x, Hid (k1 + 2 * sn = x) := ⟨_, rfl⟩
  have hk2 : 1 ≤ k2 ∧ k2 ≤ 30000000 := by have := HK2.out; omega
  rw [HK2.out]
  go_wp2_with fail
  refine (markDOpS_any _ on k2 base O w2 O2.out HNO.out bo hk2.1 (by omega)).mono ?_
  rintro e w3 ⟨rfl, hg3, ho3⟩
  have ST : Hid (Chg3 w w3 (Value.slice la ln lc).ownBlock (Value.slice sa sn sc).ownBlock (Value.slice oa on oc).ownBlock ∧ DA w3 base (.slice la ln lc) (.slice sa sn sc) (.slice oa on oc) (mkF k ln) (mkF k1 sn) (mkO k2 on)) := by
    refine ⟨⟨?_, ?_, ?_, ?_, fun q hq h1 h2 h3 => ?_⟩, ⟨⟨?_, ?_, ?_⟩, HH.out.ap⟩⟩
    · rw [hg3.os, G2.out.os, G1.out.os]; exact B0.out.os
    · rw [hg3.tape, G2.out.tape, G1.out.tape]; exact B0.out.tape
    · rw [hg3.output, G2.out.output, G1.out.output]; exact B0.out.output
    · exact Nat.le_trans B0.out.size (Nat.le_trans G1.out.size (Nat.le_trans G2.out.size hg3.size))
    · have b0 := B0.out.size
      have b1 := G1.out.size
      have b2 := G2.out.size
      rw [hg3.block q (by omega) h3, G2.out.block q (by omega) h2, G1.out.block q (by omega) h1, B0.out.block q hq]
    · rw [mkF_len]; exact own_grownT L2.out hg3 (fun q hq e => own_apartT L2.out O2.out (by decide) q hq e)
    · rw [mkF_len]; exact own_grownT S2.out hg3 (fun q hq e => own_apartT S2.out O2.out (by decide) q hq e)
    · rw [mkO_len]; exact ho3
  clear hg3 ho3 L2 S2 O2 R2 G1 G2 HL0 HH B0 e0 e1 e2
  go_wp2
  go_ret
  exact ⟨by rw [HK1.out, HK2.out]; rfl, ST.out.1, by rw [HK1.out, HK2.out]; exact ST.out.2⟩

set_option maxHeartbeats 2000000 in
theorem heldDisk_any (la sa oa : Option Addr) (lc sc oc ln sn on k base : Nat) (w : World) (h : DO w base (.slice la ln lc) (.slice sa sn sc) (.slice oa on oc) (mkF k ln) (mkF (k + 2 * ln) sn) (mkO (k + 2 * ln + 2 * sn) on)) (bl : ln ≤ 1048576) (bs : sn ≤ 1048576) (bo : on ≤ 1048576) (hk0 : 1 ≤ k) (hk : k ≤ 10000000) :
    Calls Try.prog 19 #[.agg #[.slice la ln lc, .slice sa sn sc, .slice oa on oc], .int .i64 k] w fun e w' => e = .returned (.int .i64 ((k + 2 * ln + 2 * sn + 4 * on : Nat) : Int)) ∧ Below w.heap.size w w' := by
  have hl := h.l
  have hs := h.s
  have ho := h.o
  rw [mkF_len] at hl hs
  rw [mkO_len] at ho
  have HL : Hid (w.ownsRow base 72 2 (.slice la ln lc) ln (rowF (mkF k ln))) := hl
  have HS : Hid (w.ownsRow base 72 2 (.slice sa sn sc) sn (rowF (mkF (k + 2 * ln) sn))) := hs
  have HO : Hid (w.ownsRow base 40 4 (.slice oa on oc) on (rowO (mkO (k + 2 * ln + 2 * sn) on))) := ho
  have B0 : Hid (Below w.heap.size w (w.alloc (.cells #[.slice la ln lc, .slice sa sn sc, .slice oa on oc] 31))) := (Below.refl _ _).alloc (Nat.le_refl _) _
  have R0 : Hid ((w.alloc (.cells #[.slice la ln lc, .slice sa sn sc, .slice oa on oc] 31)).heap[w.heap.size]? = some (.cells #[.slice la ln lc, .slice sa sn sc, .slice oa on oc] 31 (0, 0))) := heap_alloc_new _ _
  obtain ⟨c0, c1, c2⟩ := cells3 R0.out
  clear h hl hs ho
  go_enter Try.func19, Try.ntmps19
  go_wp2_with fail
  refine (heldFileS_any _ ln k base _ (own_blw HL.out B0.out) bl hk0 (by omega)).mono ?_
  rintro e w1 ⟨rfl, hb1⟩
  have B1 : Hid (Below w.heap.size w w1) := B0.out.trans (hb1.mono B0.out.size)
  have R1 : Hid (w1.heap[w.heap.size]? = some (.cells #[.slice la ln lc, .slice sa sn sc, .slice oa on oc] 31 (0, 0))) := below_row hb1 (row_lt R0.out) R0.out
  obtain ⟨d0, d1, d2⟩ := cells3 R1.out
  clear hb1 c0 c1 c2
  obtain ⟨k1, HK1⟩ : ∃ x, Hid (k + 2 * ln = x) := ⟨_, rfl⟩
  have hk1 : 1 ≤ k1 ∧ k1 ≤ 20000000 := by have := HK1.out; omega
  rw [HK1.out] at HS HO ⊢
  have hk1n : ¬ ((k1 : Int) < 0) := by omega
  go_wp2_with fail
  refine (heldFileS_any _ sn k1 base w1 (own_blw HS.out B1.out) bs hk1.1 (by omega)).mono ?_
  rintro e w2 ⟨rfl, hb2⟩
  have B2 : Hid (Below w.heap.size w w2) := B1.out.trans (hb2.mono B1.out.size)
  have R2 : Hid (w2.heap[w.heap.size]? = some (.cells #[.slice la ln lc, .slice sa sn sc, .slice oa on oc] 31 (0, 0))) := below_row hb2 (row_lt R1.out) R1.out
  obtain ⟨e0, e1, e2⟩ := cells3 R2.out
  clear hb2 d0 d1 d2
  obtain ⟨k2, HK2⟩ : ∃ x, Hid (k1 + 2 * sn = x) := ⟨_, rfl⟩
  have hk2 : 1 ≤ k2 ∧ k2 ≤ 30000000 := by have := HK2.out; omega
  rw [HK2.out] at HO ⊢
  have hk2n : ¬ ((k2 : Int) < 0) := by omega
  go_wp2_with fail
  refine (heldDOpS_any _ on k2 base w2 (own_blw HO.out B2.out) bo hk2.1 (by omega)).mono ?_
  rintro e w3 ⟨rfl, hb3⟩
  have B3 : Hid (Below w.heap.size w w3) := B2.out.trans (hb3.mono B2.out.size)
  clear hb3 e0 e1 e2
  obtain ⟨k3, HK3⟩ : ∃ x, Hid (k2 + 4 * on = x) := ⟨_, rfl⟩
  have hk3n : ¬ ((k3 : Int) < 0) := by omega
  rw [HK3.out]
  go_wp2
  go_ret
  exact ⟨by rw [HK1.out, HK2.out, HK3.out]; rfl, B3.out⟩

end Go.Proofs.Ytighhcdlgjaacaa

namespace Go.Proofs.Ytighhcdlgjaacaa
open Go.RowKit

/-- A row that is being copied: not begun, or what is owned so far. -/
def OwnQ (W : World) (base : Nat) (E : TypeId) (size : Nat) : Option (Value × Nat × List Value) → Prop
  | none => True
  | some (v, n, xs) => W.ownsRow base E size v n xs
theorem OwnQ.below {W W' : World} {base size : Nat} {E : TypeId} : ∀ {q}, OwnQ W base E size q → Below W.heap.size W W' → OwnQ W' base E size q
  | none, _, _ => trivial
  | some _, h, hb => own_blw (show World.ownsRow _ _ _ _ _ _ _ from h) hb
/-- Three rows that are being copied. -/
structure CI (w W : World) (p q r : Option (Value × Nat × List Value)) : Prop where
  bel : Below w.heap.size w W
  a : OwnQ W w.heap.size 72 2 p
  b : OwnQ W w.heap.size 72 2 q
  c : OwnQ W w.heap.size 40 4 r
  ap : ∀ x y, p = some x → q = some y → ∀ k, x.1.ownBlock = some k → y.1.ownBlock ≠ some k
theorem CI.new (w : World) : CI w w.drew none none none := ⟨(Below.refl _ _).drew, trivial, trivial, trivial, fun x y h => by cases h⟩
theorem own_new0 (W : World) (E : TypeId) (size base : Nat) (hb : base ≤ W.heap.size) : (W.alloc (.cells #[] E)).ownsRow base E size (.slice (some ⟨W.heap.size, 0, none⟩) 0 0) 0 ([] : List Value) := by
  refine ⟨by simp, .inr ⟨W.heap.size, 0, #[], rfl, hb, heap_alloc_new _ _, Nat.le_refl _, by unfold maxLen; omega, by simp, by simp⟩⟩
theorem own_blk0 {W : World} {n c k : Nat} (h : (Value.slice (some ⟨W.heap.size, 0, none⟩) n c).ownBlock = some k) : W.heap.size = k := by simpa [Value.ownBlock] using h
theorem CI.newA {w W : World} {b c} (h : CI w W none b c) : CI w (W.alloc (.cells #[] 72)) (some (.slice (some ⟨W.heap.size, 0, none⟩) 0 0, 0, [])) b c := by
  have hb : Below W.heap.size W (W.alloc (.cells #[] 72)) := (Below.refl _ _).alloc (Nat.le_refl _) _
  refine ⟨h.bel.trans (hb.mono h.bel.size), own_new0 W _ 2 _ h.bel.size, h.b.below hb, h.c.below hb, fun x y hx hy k h1 h2 => ?_⟩
  cases hx
  subst hy
  have e := own_blk0 h1
  have := ((show World.ownsRow _ _ _ _ _ _ _ from h.b).lt k h2).2
  omega
theorem CI.newB {w W : World} {a c} (h : CI w W a none c) : CI w (W.alloc (.cells #[] 72)) a (some (.slice (some ⟨W.heap.size, 0, none⟩) 0 0, 0, [])) c := by
  have hb : Below W.heap.size W (W.alloc (.cells #[] 72)) := (Below.refl _ _).alloc (Nat.le_refl _) _
  refine ⟨h.bel.trans (hb.mono h.bel.size), h.a.below hb, own_new0 W _ 2 _ h.bel.size, h.c.below hb, fun x y hx hy k h1 h2 => ?_⟩
  cases hy
  subst hx
  have e := own_blk0 h2
  have := ((show World.ownsRow _ _ _ _ _ _ _ from h.a).lt k h1).2
  omega
theorem CI.newC {w W : World} {a b} (h : CI w W a b none) : CI w (W.alloc (.cells #[] 40)) a b (some (.slice (some ⟨W.heap.size, 0, none⟩) 0 0, 0, [])) := by
  have hb : Below W.heap.size W (W.alloc (.cells #[] 40)) := (Below.refl _ _).alloc (Nat.le_refl _) _
  exact ⟨h.bel.trans (hb.mono h.bel.size), h.a.below hb, h.b.below hb, own_new0 W _ 4 _ h.bel.size, h.ap⟩
theorem OwnQ.grow {W W' : World} {base size : Nat} {E : TypeId} {row : Option Nat} : ∀ {q}, OwnQ W base E size q → W.grownBy W' row → (∀ x k, q = some x → x.1.ownBlock = some k → row ≠ some k) → OwnQ W' base E size q
  | none, _, _, _ => trivial
  | some x, h, hg, hn => own_grownT (show World.ownsRow _ _ _ _ _ _ _ from h) hg (fun k hk => hn x k rfl hk)
theorem OwnQ.typ {W : World} {base size b2 s2 n2 : Nat} {E E2 : TypeId} {v2 : Value} {x2 : List Value} (hT : E ≠ E2) (h2 : W.ownsRow b2 E2 s2 v2 n2 x2) : ∀ {q}, OwnQ W base E size q → ∀ x k, q = some x → x.1.ownBlock = some k → v2.ownBlock ≠ some k
  | none, _, x, k, h, _ => by cases h
  | some y, h, x, k, e, hk => by
    cases e
    exact own_apartT (show World.ownsRow _ _ _ _ _ _ _ from h) h2 hT k hk
theorem CI.appA {w W W' : World} {b c} {v v' : Value} {n n' : Nat} {xs ys : List Value} (h : CI w W (some (v, n, xs)) b c) (hg : W.grownBy W' v.ownBlock) (ho : W'.ownsRow w.heap.size 72 2 v' n' ys) (hbk : v'.ownBlock = v.ownBlock ∨ v'.ownBlock = some W.heap.size) : CI w W' (some (v', n', ys)) b c := by
  have ha : W.ownsRow w.heap.size 72 2 v n xs := h.a
  refine ⟨h.bel.grown hg h.bel.size (fun k e => (ha.lt k e).1), ho, h.b.grow hg (fun y k hy hk e => h.ap _ y rfl hy k e hk), h.c.grow hg (fun y k hy hk e => h.c.typ (by decide) ha y k hy hk e), fun x y hx hy k h1 h2 => ?_⟩
  cases hx
  subst hy
  rcases hbk with e | e
  · exact h.ap _ _ rfl rfl k (by rw [← e]; exact h1) h2
  · have h1' : v'.ownBlock = some k := h1
    rw [e] at h1'
    have := ((show World.ownsRow _ _ _ _ _ _ _ from h.b).lt k h2).2
    have := Option.some.inj h1'
    omega
theorem CI.appB {w W W' : World} {a c} {v v' : Value} {n n' : Nat} {xs ys : List Value} (h : CI w W a (some (v, n, xs)) c) (hg : W.grownBy W' v.ownBlock) (ho : W'.ownsRow w.heap.size 72 2 v' n' ys) (hbk : v'.ownBlock = v.ownBlock ∨ v'.ownBlock = some W.heap.size) : CI w W' a (some (v', n', ys)) c := by
  have hb : W.ownsRow w.heap.size 72 2 v n xs := h.b
  refine ⟨h.bel.grown hg h.bel.size (fun k e => (hb.lt k e).1), h.a.grow hg (fun y k hy hk e => h.ap y _ hy rfl k hk e), ho, h.c.grow hg (fun y k hy hk e => h.c.typ (by decide) hb y k hy hk e), fun x y hx hy k h1 h2 => ?_⟩
  cases hy
  subst hx
  rcases hbk with e | e
  · exact h.ap _ _ rfl rfl k h1 (by rw [← e]; exact h2)
  · have h2' : v'.ownBlock = some k := h2
    rw [e] at h2'
    have := ((show World.ownsRow _ _ _ _ _ _ _ from h.a).lt k h1).2
    have := Option.some.inj h2'
    omega
theorem CI.appC {w W W' : World} {a b} {v v' : Value} {n n' : Nat} {xs ys : List Value} (h : CI w W a b (some (v, n, xs))) (hg : W.grownBy W' v.ownBlock) (ho : W'.ownsRow w.heap.size 40 4 v' n' ys) : CI w W' a b (some (v', n', ys)) := by
  have hc : W.ownsRow w.heap.size 40 4 v n xs := h.c
  exact ⟨h.bel.grown hg h.bel.size (fun k e => (hc.lt k e).1), h.a.grow hg (fun y k hy hk e => h.a.typ (by decide) hc y k hy hk e), h.b.grow hg (fun y k hy hk e => h.b.typ (by decide) hc y k hy hk e), ho, h.ap⟩
theorem OpsAt.cells {w : World} {a : Option Addr} {F : List OP} (h : OpsAt w a F) : ∀ j u, (rowO F)[j]? = some u → ∃ b off, a = some ⟨b, off, none⟩ ∧ w.cell? ⟨b, off + j, none⟩ = some u := by
  intro j u hu
  have hj : j < F.length * 4 := by
    rcases Nat.lt_or_ge j (F.length * 4) with h | h
    · exact h
    · rw [List.getElem?_eq_none (by rw [rowO_len]; exact h)] at hu; cases hu
  obtain ⟨b, off, e, c0, c1, c2, c3⟩ := h (j / 4) (by omega)
  obtain ⟨r0, r1, r2, r3⟩ := rowO_at F (j / 4) (by omega)
  refine ⟨b, off, e, ?_⟩
  have hm : j % 4 = 0 ∨ j % 4 = 1 ∨ j % 4 = 2 ∨ j % 4 = 3 := by omega
  rcases hm with hm | hm | hm | hm
  · have ej : j / 4 * 4 = j := by omega
    rw [ej] at r0 c0
    rw [c0, ← r0, hu]
  · have ej : j / 4 * 4 + 1 = j := by omega
    rw [ej] at r1
    rw [Nat.add_assoc, ej] at c1
    rw [c1, ← r1, hu]
  · have ej : j / 4 * 4 + 2 = j := by omega
    rw [ej] at r2
    rw [Nat.add_assoc, ej] at c2
    rw [c2, ← r2, hu]
  · have ej : j / 4 * 4 + 3 = j := by omega
    rw [ej] at r3
    rw [Nat.add_assoc, ej] at c3
    rw [c3, ← r3, hu]

theorem CI.nilC (w : World) : CI w w.drew none none (some (.slice none 0 0, 0, rowO [])) := ⟨(Below.refl _ _).drew, trivial, trivial, ⟨rfl, .inl ⟨rfl, rfl⟩⟩, fun x y h => by cases h⟩
theorem CI.callA {w W W' : World} {q r} {v : Value} {n : Nat} {xs : List Value} (h : CI w W none q r) (hb : Below W.heap.size W W') (ho : W'.ownsRow W.heap.size 72 2 v n xs) : CI w W' (some (v, n, xs)) q r := by
  refine ⟨h.bel.trans (hb.mono h.bel.size), own_bse ho h.bel.size, h.b.below hb, h.c.below hb, fun x y hx hy k h1 h2 => ?_⟩
  cases hx
  subst hy
  have h3 := (ho.lt k h1).1
  have := ((show World.ownsRow _ _ _ _ _ _ _ from h.b).lt k h2).2
  omega
theorem CI.callB {w W W' : World} {p r} {v : Value} {n : Nat} {xs : List Value} (h : CI w W p none r) (hb : Below W.heap.size W W') (ho : W'.ownsRow W.heap.size 72 2 v n xs) : CI w W' p (some (v, n, xs)) r := by
  refine ⟨h.bel.trans (hb.mono h.bel.size), h.a.below hb, own_bse ho h.bel.size, h.c.below hb, fun x y hx hy k h1 h2 => ?_⟩
  cases hy
  subst hx
  have h3 := (ho.lt k h2).1
  have := ((show World.ownsRow _ _ _ _ _ _ _ from h.a).lt k h1).2
  omega
theorem CI.callC {w W W' : World} {p q} {v : Value} {n : Nat} {xs : List Value} (h : CI w W p q none) (hb : Below W.heap.size W W') (ho : W'.ownsRow W.heap.size 40 4 v n xs) : CI w W' p q (some (v, n, xs)) :=
  ⟨h.bel.trans (hb.mono h.bel.size), h.a.below hb, h.b.below hb, own_bse ho h.bel.size, h.ap⟩

end Go.Proofs.Ytighhcdlgjaacaa

namespace Go.Proofs.Ytighhcdlgjaacaa
open Go.RowKit

theorem DA.at {w : World} {base x1 x2 x3 c1 c2 c3 : Nat} {a1 a2 a3 : Option Addr} {L S : List FI} {O : List OP} (h : DA w base (.slice a1 x1 c1) (.slice a2 x2 c2) (.slice a3 x3 c3) L S O) (h1 : L.length = x1) (h2 : S.length = x2) (h3 : O.length = x3) : DAt w a1 a2 a3 L S O := by
  subst h1 h2 h3
  obtain ⟨b1, d1, e1, g1⟩ := own_files h.d.l rfl
  obtain ⟨b2, d2, e2, g2⟩ := own_files h.d.s rfl
  obtain ⟨b3, d3, e3, g3⟩ := own_ops h.d.o rfl
  injection e1 with e1 _ _
  injection e2 with e2 _ _
  injection e3 with e3 _ _
  rw [e1, e2, e3]
  exact ⟨g1, g2, g3⟩
/-- All rows of a disk lie below m. -/
def LowD (lv sv ov : Value) (m : Nat) : Prop := (∀ k, lv.ownBlock = some k → k < m) ∧ (∀ k, sv.ownBlock = some k → k < m) ∧ (∀ k, ov.ownBlock = some k → k < m)
theorem DA.low {w : World} {base : Nat} {lv sv ov : Value} {L S : List FI} {O : List OP} (h : DA w base lv sv ov L S O) : LowD lv sv ov w.heap.size := ⟨fun k e => (h.d.l.lt k e).2, fun k e => (h.d.s.lt k e).2, fun k e => (h.d.o.lt k e).2⟩
theorem DA.ge {w : World} {base : Nat} {lv sv ov : Value} {L S : List FI} {O : List OP} (h : DA w base lv sv ov L S O) : (∀ k, lv.ownBlock = some k → base ≤ k) ∧ (∀ k, sv.ownBlock = some k → base ≤ k) ∧ (∀ k, ov.ownBlock = some k → base ≤ k) := ⟨fun k e => (h.d.l.lt k e).1, fun k e => (h.d.s.lt k e).1, fun k e => (h.d.o.lt k e).1⟩
/-- A disk whose rows lie below those that changed. -/
theorem DA.keepLow {w w' : World} {base m : Nat} {lv sv ov : Value} {L S : List FI} {O : List OP} {x y z : Option Nat} (h : DA w base lv sv ov L S O) (hl : LowD lv sv ov m) (c : Chg3 w w' x y z) (hx : ∀ k, x = some k → m ≤ k) (hy : ∀ k, y = some k → m ≤ k) (hz : ∀ k, z = some k → m ≤ k) : DA w' base lv sv ov L S O := by
  have f : ∀ {v : Value} {o : Option Nat}, (∀ k, v.ownBlock = some k → k < m) → (∀ k, o = some k → m ≤ k) → ∀ k, v.ownBlock = some k → o ≠ some k := fun h1 h2 k h3 h4 => by
    have := h1 k h3
    have := h2 k h4
    omega
  exact ⟨⟨c.own h.d.l (f hl.1 hx) (f hl.1 hy) (f hl.1 hz), c.own h.d.s (f hl.2.1 hx) (f hl.2.1 hy) (f hl.2.1 hz), c.own h.d.o (f hl.2.2 hx) (f hl.2.2 hy) (f hl.2.2 hz)⟩, h.ap⟩
/-- .. above them. -/
theorem DA.keepHigh {w w' : World} {base : Nat} {lv sv ov : Value} {L S : List FI} {O : List OP} {x y z : Option Nat} (h : DA w base lv sv ov L S O) (c : Chg3 w w' x y z) (hx : ∀ k, x = some k → k < base) (hy : ∀ k, y = some k → k < base) (hz : ∀ k, z = some k → k < base) : DA w' base lv sv ov L S O := by
  have f : ∀ {v : Value} {o : Option Nat}, (∀ k, v.ownBlock = some k → base ≤ k) → (∀ k, o = some k → k < base) → ∀ k, v.ownBlock = some k → o ≠ some k := fun h1 h2 k h3 h4 => by
    have := h1 k h3
    have := h2 k h4
    omega
  have g := h.ge
  exact ⟨⟨c.own h.d.l (f g.1 hx) (f g.1 hy) (f g.1 hz), c.own h.d.s (f g.2.1 hx) (f g.2.1 hy) (f g.2.1 hz), c.own h.d.o (f g.2.2 hx) (f g.2.2 hy) (f g.2.2 hz)⟩, h.ap⟩
/-- A row of another type is kept. -/
theorem DA.row {w w' : World} {base k : Nat} {T : TypeId} {cs : Array Value} {lv sv ov : Value} {L S : List FI} {O : List OP} (h : DA w base lv sv ov L S O) (c : Chg3 w w' lv.ownBlock sv.ownBlock ov.ownBlock) (hr : w.heap[k]? = some (.cells cs T (0, 0))) (h1 : T ≠ 72) (h2 : T ≠ 40) : w'.heap[k]? = some (.cells cs T (0, 0)) :=
  (c.block k (row_lt hr) (own_otherT h.d.l hr h1) (own_otherT h.d.s hr h1) (own_otherT h.d.o hr h2)).trans hr
theorem DA.bel {w w' : World} {base B : Nat} {lv sv ov : Value} {L S : List FI} {O : List OP} (h : DA w base lv sv ov L S O) (c : Chg3 w w' lv.ownBlock sv.ownBlock ov.ownBlock) (hB : B ≤ base) (hw : B ≤ w.heap.size) : Below B w w' :=
  c.below hw (fun k e => Nat.le_trans hB (h.ge.1 k e)) (fun k e => Nat.le_trans hB (h.ge.2.1 k e)) (fun k e => Nat.le_trans hB (h.ge.2.2 k e))

end Go.Proofs.Ytighhcdlgjaacaa

namespace Go.Proofs.Ytighhcdlgjaacaa
open Go.RowKit

theorem boxW {W : World} {k : Nat} {z0 z1 z2 u v x : Value} {T : TypeId} (h : W.heap[k]? = some (.cells #[z0, z1, z2] T (0, 0))) : (((W.setCell ⟨k, 0, none⟩ u).setCell ⟨k, 1, none⟩ v).setCell ⟨k, 2, none⟩ x).heap[k]? = some (.cells #[u, v, x] T (0, 0)) := by
  have s1 := heap_setCell_same W k 0 _ _ u h
  have s2 := heap_setCell_same _ k 1 _ _ v s1
  have s3 := heap_setCell_same _ k 2 _ _ x s2
  simpa using s3

theorem da_box3 {W : World} {k base : Nat} {z0 z1 z2 u v x lv sv ov : Value} {L S : List FI} {O : List OP} (d : DA W base lv sv ov L S O) (h : W.heap[k]? = some (.cells #[z0, z1, z2] 31 (0, 0))) : DA (((W.setCell ⟨k, 0, none⟩ u).setCell ⟨k, 1, none⟩ v).setCell ⟨k, 2, none⟩ x) base lv sv ov L S O := by
  have s1 := heap_setCell_same W k 0 _ _ u h
  have s2 := heap_setCell_same _ k 1 _ _ v s1
  exact ⟨⟨own_setT (own_setT (own_setT d.d.l h (by decide)) s1 (by decide)) s2 (by decide), own_setT (own_setT (own_setT d.d.s h (by decide)) s1 (by decide)) s2 (by decide), own_setT (own_setT (own_setT d.d.o h (by decide)) s1 (by decide)) s2 (by decide)⟩, d.ap⟩

end Go.Proofs.Ytighhcdlgjaacaa

namespace Go.Proofs.Ytighhcdlgjaacaa
open Go.RowKit

/-- A cell that is no slice does not lie in a box of slices. -/
theorem cell_ne_box {W : World} {k b m : Nat} {T : TypeId} {a1 a2 a3 : Option Addr} {n1 n2 n3 c1 c2 c3 : Nat} {u : Value} (h : W.heap[k]? = some (.cells #[.slice a1 n1 c1, .slice a2 n2 c2, .slice a3 n3 c3] T (0, 0))) (hc : W.cell? ⟨b, m, none⟩ = some u) (hu : ∀ a n c, u ≠ .slice a n c) : b ≠ k := by
  intro e
  subst e
  rw [cell_of_row _ _ m _ _ _ h] at hc
  match m, hc with
  | 0, hc => simp at hc; exact hu _ _ _ hc.symm
  | 1, hc => simp at hc; exact hu _ _ _ hc.symm
  | 2, hc => simp at hc; exact hu _ _ _ hc.symm
  | m + 3, hc => simp at hc
theorem FilesAt.box {W : World} {k i : Nat} {T : TypeId} {a1 a2 a3 a : Option Addr} {n1 n2 n3 c1 c2 c3 : Nat} {u : Value} {F : List FI} (h : FilesAt W a F) (hr : W.heap[k]? = some (.cells #[.slice a1 n1 c1, .slice a2 n2 c2, .slice a3 n3 c3] T (0, 0))) : FilesAt (W.setCell ⟨k, i, none⟩ u) a F := fun j hj => by
  obtain ⟨b, off, e, h1, h2⟩ := h j hj
  have hb : b ≠ k := cell_ne_box hr h1 (fun _ _ _ e => by cases e)
  exact ⟨b, off, e, keep_setT h1 hb, keep_setT h2 hb⟩
theorem OpsAt.box {W : World} {k i : Nat} {T : TypeId} {a1 a2 a3 a : Option Addr} {n1 n2 n3 c1 c2 c3 : Nat} {u : Value} {F : List OP} (h : OpsAt W a F) (hr : W.heap[k]? = some (.cells #[.slice a1 n1 c1, .slice a2 n2 c2, .slice a3 n3 c3] T (0, 0))) : OpsAt (W.setCell ⟨k, i, none⟩ u) a F := fun j hj => by
  obtain ⟨b, off, e, h1, h2, h3, h4⟩ := h j hj
  have hb : b ≠ k := cell_ne_box hr h1 (fun _ _ _ e => by cases e)
  exact ⟨b, off, e, keep_setT h1 hb, keep_setT h2 hb, keep_setT h3 hb, keep_setT h4 hb⟩
/-- A disk is as it was where a box of slices is written whole. -/
theorem DAt.box3 {W : World} {k : Nat} {T : TypeId} {a1 a2 a3 b1 b2 b3 la sa oa : Option Addr} {n1 n2 n3 c1 c2 c3 m1 m2 m3 d1 d2 d3 : Nat} {L S : List FI} {O : List OP} (h : DAt W la sa oa L S O) (hr : W.heap[k]? = some (.cells #[.slice a1 n1 c1, .slice a2 n2 c2, .slice a3 n3 c3] T (0, 0))) :
    DAt (((W.setCell ⟨k, 0, none⟩ (.slice b1 m1 d1)).setCell ⟨k, 1, none⟩ (.slice b2 m2 d2)).setCell ⟨k, 2, none⟩ (.slice b3 m3 d3)) la sa oa L S O := by
  have s1 : (W.setCell ⟨k, 0, none⟩ (.slice b1 m1 d1)).heap[k]? = some (.cells #[.slice b1 m1 d1, .slice a2 n2 c2, .slice a3 n3 c3] T (0, 0)) := by
    have := heap_setCell_same W k 0 _ _ (.slice b1 m1 d1) hr
    simpa using this
  have s2 : ((W.setCell ⟨k, 0, none⟩ (.slice b1 m1 d1)).setCell ⟨k, 1, none⟩ (.slice b2 m2 d2)).heap[k]? = some (.cells #[.slice b1 m1 d1, .slice b2 m2 d2, .slice a3 n3 c3] T (0, 0)) := by
    have := heap_setCell_same _ k 1 _ _ (.slice b2 m2 d2) s1
    simpa using this
  exact ⟨((h.l.box hr).box s1).box s2, ((h.s.box hr).box s1).box s2, ((h.o.box hr).box s1).box s2⟩

end Go.Proofs.Ytighhcdlgjaacaa

namespace Go.Proofs.Ytighhcdlgjaacaa
open Go.RowKit

theorem chg_grown {w w' : World} {g : Nat} (h : w.grownBy w' (some g)) : Chg3 w w' (some g) none none := by
  obtain ⟨a, b, c, d, e⟩ := h
  exact ⟨a, b, c, d, fun k hk h1 _ _ => e k hk h1⟩
theorem own_gr {w w' : World} {base size n g : Nat} {e T : TypeId} {v : Value} {xs : List Value} {cs : Array Value} {r : Nat × Nat} (h : w.ownsRow base e size v n xs) (hg : w.grownBy w' (some g)) (hr : w.heap[g]? = some (.cells cs T r)) (hT : T ≠ e) : w'.ownsRow base e size v n xs :=
  (chg_grown hg).own h (fun k e1 e2 => own_otherT h hr hT (e2.trans e1.symm)) (fun _ _ e => by cases e) (fun _ _ e => by cases e)
/-- A disk is as it was where a row of another type is written. -/
theorem DA.gr {w w' : World} {base g : Nat} {lv sv ov : Value} {L S : List FI} {O : List OP} {T : TypeId} {cs : Array Value} {r : Nat × Nat} (h : DA w base lv sv ov L S O) (hg : w.grownBy w' (some g)) (hr : w.heap[g]? = some (.cells cs T r)) (h1 : T ≠ 72) (h2 : T ≠ 40) : DA w' base lv sv ov L S O :=
  ⟨⟨own_gr h.d.l hg hr h1, own_gr h.d.s hg hr h1, own_gr h.d.o hg hr h2⟩, h.ap⟩
theorem row_gr {w w' : World} {g p : Nat} {T U : TypeId} {cs ds : Array Value} {q r : Nat × Nat} (h : w.heap[p]? = some (.cells ds U q)) (hg : w.grownBy w' (some g)) (hr : w.heap[g]? = some (.cells cs T r)) (hT : U ≠ T) : w'.heap[p]? = some (.cells ds U q) := by
  have hne : some p ≠ some g := fun e => by
    injection e with e
    subst e
    rw [h] at hr
    injection hr with hr
    injection hr with _ h2 _
    exact hT h2
  exact ((chg_grown hg).block p (row_lt h) hne (by simp) (by simp)).trans h
theorem bel_gr {w0 w w' : World} {g : Nat} (h : Below w0.heap.size w0 w) (hg : w.grownBy w' (some g)) (hb : w0.heap.size ≤ g) : Below w0.heap.size w0 w' := h.trans ((chg_grown hg).below h.size (fun k e => by injection e with e; omega) (fun k e => by cases e) (fun k e => by cases e))

end Go.Proofs.Ytighhcdlgjaacaa
