import Derived.Test.YtaehhlkpbhmdfaaPack1
import Derived.Test.YtaehhlkpbhmdfaaPack2
namespace Go.Proofs.Ytaehhlkpbhmdfaa
open Go.RowKit

set_option maxHeartbeats 1000000 in
theorem take_any (B hb : Nat) (v : Value) (L : List ED) (w : World) (h : HP w B hb v L) (hh : isHp L) (hn : L.length ≤ 1000) :
    Calls Try.prog 76 #[.pointer (some ⟨hb, 0, none⟩)] w fun e w' => (L = [] ∧ e = .returned (.tuple #[.agg #[.int .i64 0, .int .i64 0, .int .i64 0], .bool false]) ∧ Below w.heap.size w w') ∨ (L ≠ [] ∧ e = .returned (.tuple #[topE L, .bool true]) ∧ PopOk w B hb v L w') := by
  have HB : Hid (Below w.heap.size w (w.alloc (.cells #[.int .i64 0, .int .i64 0, .int .i64 0] 32))) := (Below.refl _ _).alloc (Nat.le_refl _) _
  have Z0 : Hid ((w.alloc (.cells #[.int .i64 0, .int .i64 0, .int .i64 0] 32)).heap[w.heap.size]? = some (.cells #[.int .i64 0, .int .i64 0, .int .i64 0] 32 (0, 0))) := heap_alloc_new _ _
  have HH : Hid (HP (w.alloc (.cells #[.int .i64 0, .int .i64 0, .int .i64 0] 32)) B hb v L) := h.below HB.out
  have NB : Hid (¬ hpS hb v w.heap.size) := fun h9 => by
    rcases h9 with h9 | h9
    · have := row_lt h.b; omega
    · have := (h.o.lt _ h9).2; omega
  have CN := heapLen_any B hb v L _ HH.out
  obtain ⟨n, HN⟩ : ∃ n, Hid (L.length = n) := ⟨_, rfl⟩
  rw [HN.out] at CN
  by_cases h0 : L = []
  · have hn0 : ((n : Int) == 0) = true := by rw [← HN.out, h0]; rfl
    obtain ⟨z0, z1, z2⟩ := cells3 Z0.out
    have zf := fun i => frozen_of_row _ _ i _ _ Z0.out
    clear h hh
    go_enter Try.func76, Try.ntmps76
    go_wp2_with fail
    generalize (w.alloc (.cells #[.int .i64 0, .int .i64 0, .int .i64 0] 32)) = W0 at *
    refine CN.mono ?_
    rintro e w1 ⟨rfl, hw⟩
    subst hw
    go_wp2
    refine bodyPost_ret (v := .tuple #[.agg #[.int .i64 0, .int .i64 0, .int .i64 0], .bool false]) (by simp [results, Try.results76, go_sem, z0, z1, z2]) rfl ?_
    exact .inl ⟨h0, rfl, Below.setCell (Below.setCell (Below.setCell HB.out (Nat.le_refl _) _) (Nat.le_refl _) _) (Nat.le_refl _) _⟩
  · have hl0 : 0 < L.length := by cases L with | nil => exact absurd rfl h0 | cons x l => simp
    have hn0 : ((n : Int) == 0) = false := by
      have : ¬ ((n : Int) = 0) := by rw [← HN.out]; omega
      simpa using this
    have CP := pop_any B hb v L _ HH.out hh hn hl0
    unfold topE at CP ⊢
    obtain ⟨x, HX⟩ : ∃ x, Hid (L.getD 0 e0 = x) := ⟨_, rfl⟩
    rw [HX.out] at CP ⊢
    obtain ⟨xa, xb, xt⟩ := x
    simp only at CP ⊢
    have hAs := asE (.agg #[.int .i64 xa, .int .i64 xb, .int .i64 xt])
    have HV : Hid (∀ b, v.ownBlock = some b → b < w.heap.size) := fun b e => (h.o.lt b e).2
    clear h hh hl0
    go_enter Try.func76, Try.ntmps76
    go_wp2_with fail
    generalize (w.alloc (.cells #[.int .i64 0, .int .i64 0, .int .i64 0] 32)) = W0 at *
    refine CN.mono ?_
    rintro e w1 ⟨rfl, hw⟩
    subst hw
    go_wp2_with fail
    refine CP.mono ?_
    rintro e w2 ⟨rfl, v2, L2, k2, hp2, hl2, hm2, hg2, hv2⟩
    have Z2 : Hid (w2.heap[w.heap.size]? = some (.cells #[.int .i64 0, .int .i64 0, .int .i64 0] 32 (0, 0))) := hg2.row Z0.out NB.out
    have hbox : hb ≠ w.heap.size := fun e => NB.out (.inl e.symm)
    have G2 : Hid (GrownBut (hpS hb v) w w2) := (GrownBut.of_below HB.out).trans hg2
    have K2 : Hid (HP w2 B hb v2 L2) := k2
    have HV2 : Hid (∀ b, v2.ownBlock = some b → v.ownBlock = some b) := hv2
    have HL2 : Hid (isHp L2 ∧ L2.length + 1 = L.length ∧ ∀ y, y ∈ L ↔ y = L.getD 0 e0 ∨ y ∈ L2) := ⟨hp2, hl2, hm2⟩
    have S2 : Hid (w.heap.size < w2.heap.size) := row_lt Z2.out
    have TOLD : Hid (PopOk w B hb v L (((w2.setCell ⟨w.heap.size, 0, none⟩ (.int .i64 xa)).setCell ⟨w.heap.size, 1, none⟩ (.int .i64 xb)).setCell ⟨w.heap.size, 2, none⟩ (.int .i64 xt))) := by
      have hs : w2.grownBy (((w2.setCell ⟨w.heap.size, 0, none⟩ (.int .i64 xa)).setCell ⟨w.heap.size, 1, none⟩ (.int .i64 xb)).setCell ⟨w.heap.size, 2, none⟩ (.int .i64 xt)) (some w.heap.size) := grown_trans (grown_trans (grown_set _ _ _ _) (grown_set _ _ _ _)) (grown_set _ _ _ _)
      refine ⟨v2, L2, ⟨?_, own_rowP K2.out.o hs (fun k e9 e => ?_)⟩, HL2.out.1, HL2.out.2.1, HL2.out.2.2, G2.out.step (GrownBut.of_grown (S := fun b => b = w.heap.size) hs rfl) (fun b hb9 h9 => by omega), HV2.out⟩
      · exact (hs.block hb (row_lt K2.out.b) (fun e => by injection e with e; exact hbox e)).trans K2.out.b
      · cases e9
        have := HV.out _ (HV2.out _ e)
        omega
    clear k2 hp2 hl2 hm2 hg2 hv2 CP CN hbox
    obtain ⟨z0, z1, z2⟩ := cells3 Z2.out
    have zf := fun i => frozen_of_row _ _ i _ _ Z2.out
    go_wp2
    refine bodyPost_ret (v := .tuple #[.agg #[.int .i64 xa, .int .i64 xb, .int .i64 xt], .bool true]) (by simp [results, Try.results76, go_sem, z0, z1, z2]) rfl ?_
    exact .inr ⟨h0, rfl, TOLD.out⟩

/-- The cells of a tree that grows. -/
structure GA (cur : Array Value) (n : Nat) (G : Nat → Nat → Int) (ins : Nat → Bool) (hb : Nat) : Prop where
  c : cur[0]? = some (.int .i64 n)
  g : ∀ x y, x < n → y < n → cur[1 + x * 16 + y]? = some (.int .i64 (G x y))
  i : ∀ p, p < 16 → cur[257 + p]? = some (.bool (ins p))
  q : cur[273]? = some (.iface 58 (.pointer (some ⟨hb, 0, none⟩)))
def GR (w : World) (gb n : Nat) (G : Nat → Nat → Int) (ins : Nat → Bool) (hb : Nat) : Prop := ∃ cur, w.heap[gb]? = some (.cells cur 65 (0, 0)) ∧ GA cur n G ins hb
theorem GR.lt {w : World} {gb n hb : Nat} {G : Nat → Nat → Int} {ins : Nat → Bool} (h : GR w gb n G ins hb) : gb < w.heap.size := by
  obtain ⟨cur, h1, _⟩ := h
  exact row_lt h1
theorem GR.but {S : Nat → Prop} {w w' : World} {gb n hb : Nat} {G : Nat → Nat → Int} {ins : Nat → Bool} (h : GR w gb n G ins hb) (hg : GrownBut S w w') (hs : ¬ S gb) : GR w' gb n G ins hb := by
  obtain ⟨cur, h1, h2⟩ := h
  exact ⟨cur, hg.row h1 hs, h2⟩
theorem GR.c {w : World} {gb n hb : Nat} {G : Nat → Nat → Int} {ins : Nat → Bool} (h : GR w gb n G ins hb) : w.cell? ⟨gb, 0, none⟩ = some (.int .i64 n) ∧ w.cell? ⟨gb, 273, none⟩ = some (.iface 58 (.pointer (some ⟨hb, 0, none⟩))) := by
  obtain ⟨cur, h1, h2⟩ := h
  exact ⟨by rw [cell_of_row _ _ _ _ _ _ h1, h2.c], by rw [cell_of_row _ _ _ _ _ _ h1, h2.q]⟩
theorem GR.cg {w : World} {gb n hb : Nat} {G : Nat → Nat → Int} {ins : Nat → Bool} (h : GR w gb n G ins hb) {x y : Nat} (hx : x < n) (hy : y < n) : w.cell? ⟨gb, 1 + x * 16 + y, none⟩ = some (.int .i64 (G x y)) := by
  obtain ⟨cur, h1, h2⟩ := h
  rw [cell_of_row _ _ _ _ _ _ h1, h2.g x y hx hy]
theorem GR.ci {w : World} {gb n hb : Nat} {G : Nat → Nat → Int} {ins : Nat → Bool} (h : GR w gb n G ins hb) {p : Nat} (hp : p < 16) : w.cell? ⟨gb, 257 + p, none⟩ = some (.bool (ins p)) := by
  obtain ⟨cur, h1, h2⟩ := h
  rw [cell_of_row _ _ _ _ _ _ h1, h2.i p hp]
theorem GR.fz {w : World} {gb n hb : Nat} {G : Nat → Nat → Int} {ins : Nat → Bool} (h : GR w gb n G ins hb) (k : Nat) : w.frozen? ⟨gb, k, none⟩ = false := by
  obtain ⟨cur, h1, _⟩ := h
  exact frozen_of_row _ _ k _ _ h1
theorem GR.mark {w : World} {gb n hb : Nat} {G : Nat → Nat → Int} {ins : Nat → Bool} (h : GR w gb n G ins hb) {p : Nat} (hp : p < 16) (hn : n ≤ 16) : GR (w.setCell ⟨gb, 257 + p, none⟩ (.bool true)) gb n G (inS ins p) hb := by
  obtain ⟨cur, h1, h2⟩ := h
  refine ⟨_, heap_setCell_same _ _ _ _ _ _ h1, ?_⟩
  have hb1 : 257 + p < cur.size := by
    have := h2.i p hp
    exact (Array.getElem?_eq_some_iff.1 this).1
  refine ⟨?_, fun x y hx hy => ?_, fun q hq => ?_, ?_⟩
  · rw [Array.getElem?_setIfInBounds_ne (by omega)]; exact h2.c
  · rw [Array.getElem?_setIfInBounds_ne (by omega)]; exact h2.g x y hx hy
  · unfold inS
    by_cases e : q = p
    · subst e
      rw [if_pos rfl, Array.getElem?_setIfInBounds_self_of_lt hb1]
    · rw [if_neg e, Array.getElem?_setIfInBounds_ne (by omega)]; exact h2.i q hq
  · rw [Array.getElem?_setIfInBounds_ne (by omega)]; exact h2.q

end Go.Proofs.Ytaehhlkpbhmdfaa

namespace Go.Proofs.Ytaehhlkpbhmdfaa
open Go.RowKit

/-- What a step of the tree may write. -/
def grS (gb hb : Nat) (v : Value) (b : Nat) : Prop := b = gb ∨ hpS hb v b
/-- A place has come in, its edges are in the queue up to that one. -/
structure EN (w wr : World) (B gb hb n p k : Nat) (G : Nat → Nat → Int) (ins : Nat → Bool) (v v' : Value) (L L' : List ED) : Prop where
  r : GR wr gb n G ins hb
  h : HP wr B hb v' L'
  hp : isHp L'
  l : L'.length ≤ L.length + k
  m : ∀ y, y ∈ L' ↔ y ∈ L ∨ ∃ t, t < k ∧ ins t = false ∧ y = ⟨(p : Int), (t : Int), G p t⟩
  g : GrownBut (grS gb hb v) w wr
  v : ∀ b, v'.ownBlock = some b → v.ownBlock = some b ∨ w.heap.size ≤ b

set_option maxRecDepth 10000 in
set_option maxHeartbeats 4000000 in
theorem enter_any (B gb hb n p : Nat) (G : Nat → Nat → Int) (ins : Nat → Bool) (v : Value) (L : List ED) (w : World) (hr : GR w gb n G ins hb) (hh : HP w B hb v L) (hp : isHp L) (hpn : p < n) (hn : n ≤ 16) (hl : L.length ≤ 400) (hB : B ≤ w.heap.size) (hgb : ¬ hpS hb v gb) :
    Calls Try.prog 31 #[.pointer (some ⟨gb, 0, none⟩), .int .i64 p] w fun e w' => e = .returned (.tuple #[]) ∧ ∃ v' L', EN w w' B gb hb n p n G (inS ins p) v v' L L' := by
  have hm1 := fun (q : Nat) (W : World) => mhput q (.pointer (some ⟨hb, 0, none⟩)) W
  obtain ⟨I, HI⟩ : ∃ I, Hid (inS ins p = I) := ⟨_, rfl⟩
  have hgne : hb ≠ gb := fun e => hgb (.inl e.symm)
  have E0 : Hid (EN w (w.setCell ⟨gb, 257 + p, none⟩ (.bool true)) B gb hb n p 0 G I v v L L) := by
    have hs := grown_set w gb (257 + p) (.bool true)
    refine ⟨by rw [← HI.out]; exact hr.mark (by omega) hn, ⟨?_, own_rowP hh.o hs (fun k e9 e => ?_)⟩, hp, by omega, fun y => ?_, GrownBut.of_grown hs (.inl rfl), fun b e => .inl e⟩
    · exact (hs.block hb (row_lt hh.b) (fun e => by injection e with e; exact hgne e)).trans hh.b
    · cases e9; exact hgb (.inr e)
    · refine ⟨fun h => .inl h, fun h => ?_⟩
      rcases h with h | ⟨t, ht, _⟩
      · exact h
      · omega
  have HGB : Hid (¬ hpS hb v gb ∧ gb < w.heap.size) := ⟨hgb, hr.lt⟩
  have cip := hr.ci (show p < 16 by omega)
  have fzp := hr.fz
  have hp16 : (p : Int) < 16 := by omega
  rw [HI.out]
  obtain ⟨h0, -⟩ := E0.out.r.c
  clear hr hh hp hgb hgne
  go_enter Try.func31, Try.ntmps31
  go_wp2_with fail
  generalize (w.setCell ⟨gb, 257 + p, none⟩ (.bool true)) = W0 at *
  clear h0 cip fzp
  go_loopw [4, 14] (fun _ t wr => ∃ (k : Nat) (v' : Value) (L' : List ED), t = .int .i64 k ∧ k ≤ n ∧ EN w wr B gb hb n p k G I v v' L L') (fun _ t _ => n - (intOf t).toNat)
  case atStart => exact ⟨0, v, L, rfl, Nat.zero_le _, E0.out⟩
  case round =>
    clear E0
    obtain ⟨k, v', L', rfl, hk, hE⟩ := hrel
    have EW : Hid (EN w wr B gb hb n p k G I v v' L L') := hE
    clear hE
    by_cases hlt : k < n
    · have hltI : (k : Int) < (n : Int) := by omega
      have hk16 : (k : Int) < 16 := by omega
      have cik := EW.out.r.ci (show k < 16 by omega)
      obtain ⟨-, cq⟩ := EW.out.r.c
      have cg := EW.out.r.cg hpn hlt
      obtain ⟨b, HB⟩ : ∃ b, Hid (I k = b) := ⟨_, rfl⟩
      obtain ⟨x, HX⟩ : ∃ x, Hid (G p k = x) := ⟨_, rfl⟩
      rw [HB.out] at cik
      rw [HX.out] at cg
      cases b
      · have CP := put_any B hb v' L' ⟨(p : Int), (k : Int), x⟩ wr.drew (EW.out.h.below (Below.refl _ _).drew) EW.out.hp (by have := EW.out.l; omega) (Nat.le_trans hB EW.out.g.size)
        simp only at CP
        have kS := And.intro cq cg
        go_wp2_with fail
        go_region_held3 (fun W => W.cell? ⟨gb, 273, none⟩ = some (.iface 58 (.pointer (some ⟨hb, 0, none⟩))) ∧ W.cell? ⟨gb, 1 + p * 16 + k, none⟩ = some (.int .i64 x)) (first | with_reducible exact kS | go_keep) ((
          go_at_call 75
          with_reducible refine CP.mono ?_
          rintro e w1 ⟨v1, L1, rfl, h1, hp1, hl1, hm1', hg1, hv1⟩
          have hb9 : ¬ hpS hb v' gb := fun h9 => by
            rcases h9 with h9 | h9
            · exact HGB.out.1 (.inl h9)
            · rcases EW.out.v gb h9 with h8 | h8
              · exact HGB.out.1 (.inr h8)
              · have := HGB.out.2; omega
          have E1 : Hid (EN w w1 B gb hb n p (k + 1) G I v v1 L L1) := by
            refine ⟨(EW.out.r.but (GrownBut.of_below (Below.refl _ _).drew) (S := fun _ => False) (fun h => h)).but hg1 hb9, h1, hp1, by have := EW.out.l; omega, fun y => ?_, (EW.out.g.trans (GrownBut.of_below (Below.refl _ _).drew)).step hg1 (fun b hb8 h9 => ?_), fun b e => ?_⟩
            · rw [hm1' y, EW.out.m y]
              constructor
              · rintro ((h | ⟨t, ht, h3, h4⟩) | h)
                · exact .inl h
                · exact .inr ⟨t, by omega, h3, h4⟩
                · exact .inr ⟨k, by omega, HB.out, by rw [h, HX.out]⟩
              · rintro (h | ⟨t, ht, h3, h4⟩)
                · exact .inl (.inl h)
                · by_cases e : t = k
                  · subst e
                    exact .inr (by rw [h4, HX.out])
                  · exact .inl (.inr ⟨t, by omega, h3, h4⟩)
            · rcases h9 with h9 | h9
              · exact .inr (.inl h9)
              · rcases EW.out.v b h9 with h8 | h8
                · exact .inr (.inr h8)
                · omega
            · rcases hv1 b e with h9 | h9
              · exact EW.out.v b h9
              · exact .inr (Nat.le_trans EW.out.g.size h9)
          have kS := And.intro (E1.out.r.c).2 (by have := E1.out.r.cg hpn hlt; rw [HX.out] at this; exact this)
          clear h1 hp1 hl1 hm1' hg1 hv1 hb9))
        all_goals
          clear kS cq cg cik CP EW
          go_wp2_with fail
          go_roundw
          case rel => exact ⟨k + 1, v1, L1, by go_num, by omega, E1.out⟩
          case measure => simp [intOf]; omega
      · have E1 : Hid (EN w wr B gb hb n p (k + 1) G I v v' L L') := by
          refine ⟨EW.out.r, EW.out.h, EW.out.hp, by have := EW.out.l; omega, fun y => ?_, EW.out.g, EW.out.v⟩
          rw [EW.out.m y]
          constructor
          · rintro (h | ⟨t, ht, h3, h4⟩)
            · exact .inl h
            · exact .inr ⟨t, by omega, h3, h4⟩
          · rintro (h | ⟨t, ht, h3, h4⟩)
            · exact .inl h
            · by_cases e : t = k
              · subst e
                rw [HB.out] at h3
                cases h3
              · exact .inr ⟨t, by omega, h3, h4⟩
        clear EW cg cq
        go_wp2_with fail
        go_roundw
        case rel => exact ⟨k + 1, v', L', by go_num, by omega, E1.out⟩
        case measure => simp [intOf]; omega
    · have hkn : k = n := by omega
      subst hkn
      have hnl : ¬ ((k : Int) < (k : Int)) := by omega
      clear hlt
      go_wp2
      first | refine bodyPost_end (results_none rfl _ _ _) rfl ?_ | refine bodyPost_ret (results_none rfl _ _ _) rfl ?_
      exact ⟨rfl, v', L', EW.out⟩

end Go.Proofs.Ytaehhlkpbhmdfaa

namespace Go.Proofs.Ytaehhlkpbhmdfaa
open Go.RowKit

/-- 'append' of numbers whose address is not written out. -/
theorem append_more (w : World) {ops : Array Oper} {rest : List Oper} {o : Oper} {a : Act} {Q : Exit → Act → World → Prop}
    (hg : o.guard = none) (s x : Operand) (hop : o.op = Op.call { callee := Callee.builtin Builtin.append, args := #[s, x], argTypes := #[24, 24] })
    (base : Nat) (v : Value) (k : Nat) (xs : List Int) (hs : a.eval s = v) (hown : w.ownsRow base 2 1 v k (xs.map (Value.int .i64))) (ad : Option Addr) (m c : Nat) (ys : List Int) (hx : a.eval x = .slice ad m c)
    (had : ∃ b off, ad = some ⟨b, off, none⟩) (hy : ys.length = m) (hc : IntsAt w ad ys) (b1 : k ≤ 1000) (b2 : m ≤ 1000) (hb : base ≤ w.heap.size)
    (hK : ∀ v' w', w'.ownsRow base 2 1 v' (k + m) ((xs ++ ys).map (Value.int .i64)) → w.grownBy w' v.ownBlock → (v'.ownBlock = v.ownBlock ∨ v'.ownBlock = some w.heap.size) → (v' = .slice none 0 0 ↔ v = .slice none 0 0 ∧ m = 0) → wpList Try.prog ops Q rest (a.put o.dst v') w') :
    wpList Try.prog ops Q (o :: rest) a w := by
  obtain ⟨b, off, rfl⟩ := had
  exact append_many w hg s x hop base v k xs hs hown b off m c ys hx hy hc b1 b2 hb hK
theorem ints_take' {W : World} {a : Option Addr} {ids : List Int} (h : IntsAt W a ids) (i : Nat) : IntsAt W a (ids.take i) := by
  intro j hj
  have hj' : j < ids.length ∧ j < i := by rw [List.length_take] at hj; omega
  obtain ⟨b, off, e, hc⟩ := h j hj'.1
  refine ⟨b, off, e, ?_⟩
  rw [hc, List.getD_eq_getElem?_getD, List.getD_eq_getElem?_getD, List.getElem?_take, if_pos hj'.2]
theorem ints_drop' {W : World} {b off : Nat} {ids : List Int} (h : IntsAt W (some ⟨b, off, none⟩) ids) (i : Nat) : IntsAt W (some ⟨b, off + i, none⟩) (ids.drop i) := by
  intro j hj
  have hj' : i + j < ids.length := by rw [List.length_drop] at hj; omega
  obtain ⟨b', off', e, hc⟩ := h (i + j) hj'
  simp at e
  obtain ⟨rfl, rfl⟩ := e
  refine ⟨b, off + i, rfl, ?_⟩
  rw [Nat.add_assoc, hc, List.getD_eq_getElem?_getD, List.getD_eq_getElem?_getD, List.getElem?_drop]
theorem ints_cut' {W : World} {b off : Nat} {ids : List Int} (h : IntsAt W (some ⟨b, off, none⟩) ids) (i c2 : Nat) (hc : ids.length ≤ c2) : IntsAt W (if c2 = i then some ⟨b, off, none⟩ else some ⟨b, off + i, none⟩) (ids.drop i) := by
  by_cases e : c2 = i
  · have : ids.drop i = [] := List.drop_eq_nil_of_le (by omega)
    rw [this]
    intro j hj
    simp at hj
  · rw [if_neg e]; exact ints_drop' h i
theorem cut_some' (b off i c2 : Nat) : ∃ b' off', (if c2 = i then some (⟨b, off, none⟩ : Addr) else some ⟨b, off + i, none⟩) = some ⟨b', off', none⟩ := by
  by_cases e : c2 = i
  · exact ⟨b, off, if_pos e⟩
  · exact ⟨b, off + i, if_neg e⟩
theorem cut0_some (g i c2 : Nat) : ∃ b' off', (if c2 = i then some (⟨g, 0, none⟩ : Addr) else some ⟨g, i, none⟩) = some ⟨b', off', none⟩ := by
  have := cut_some' g 0 i c2
  rwa [Nat.zero_add] at this
theorem ints_cut0 {W : World} {g : Nat} {ids : List Int} (h : IntsAt W (some ⟨g, 0, none⟩) ids) (i c2 : Nat) (hc : ids.length ≤ c2) : IntsAt W (if c2 = i then some ⟨g, 0, none⟩ else some ⟨g, i, none⟩) (ids.drop i) := by
  have := ints_cut' h i c2 hc
  rwa [Nat.zero_add] at this
theorem own_sm {w : World} {base k : Nat} {v : Value} {e : TypeId} {size : Nat} {xs : List Value} (h : w.ownsRow base e size v k xs) (hne : v ≠ .slice none 0 0) : ∃ g c, v = .slice (some ⟨g, 0, none⟩) k c := by
  rcases own_shape h with e | e
  · exact absurd e hne
  · exact e
theorem own_cap {w : World} {base k g c : Nat} {e : TypeId} {size : Nat} {xs : List Value} (h : w.ownsRow base e size (.slice (some ⟨g, 0, none⟩) k c) k xs) : k ≤ c := by
  obtain ⟨_, ⟨h1, _⟩ | ⟨g', cap, cur, h2, _, _, h3, _⟩⟩ := h
  · cases h1
  · injection h2 with e1 e2 e3
    omega
theorem not_nil {v v' : Value} {m : Nat} (h : v' = .slice none 0 0 ↔ v = .slice none 0 0 ∧ m = 0) (hv : ∃ g n c, v = .slice (some ⟨g, 0, none⟩) n c) : v' ≠ .slice none 0 0 := by
  intro e
  obtain ⟨g, n, c, rfl⟩ := hv
  have := (h.1 e).1
  simp at this
theorem ints_new1 (W : World) (x : Int) : IntsAt (W.alloc (.cells #[.int .i64 x] 2)) (some ⟨W.heap.size, 0, none⟩) [x] := by
  intro j hj
  have : j = 0 := by simpa using hj
  subst this
  exact ⟨_, _, rfl, cell_new1 W _ _ _ rfl⟩
theorem owns_ints' {w : World} {base g n cap : Nat} {e : TypeId} {zs : List Int} (h : w.ownsRow base e 1 (.slice (some ⟨g, 0, none⟩) n cap) zs.length (zs.map (Value.int .i64))) (hn : zs.length = n) : IntsAt w (some ⟨g, 0, none⟩) zs := by
  rw [hn] at h
  exact owns_ints h
theorem own_at {g n c k : Nat} (e : (Value.slice (some ⟨g, 0, none⟩) n c).ownBlock = some k) : g ≤ k := by
  have : g = k := by injection e
  omega

end Go.Proofs.Ytaehhlkpbhmdfaa

namespace Go.Proofs.Ytaehhlkpbhmdfaa
open Go.RowKit

theorem own_put {w : World} {base n g c k : Nat} {e : TypeId} {xs : List Int} (v : Int) (h : w.ownsRow base e 1 (.slice (some ⟨g, 0, none⟩) n c) n (xs.map (Value.int .i64))) (_hk : k < n) : (w.setCell ⟨g, k, none⟩ (.int .i64 v)).ownsRow base e 1 (.slice (some ⟨g, 0, none⟩) n c) n ((xs.set k v).map (Value.int .i64)) := by
  obtain ⟨h0, ⟨h1, _⟩ | ⟨g', cap, cur, h2, h3, h4, h5, h6, h7, h8⟩⟩ := h
  · cases h1
  · simp at h2
    obtain ⟨rfl, rfl⟩ := h2
    refine ⟨by simpa using h0, .inr ⟨g, c, cur.setIfInBounds k (.int .i64 v), rfl, h3, heap_setCell_same w g k cur e _ h4, h5, h6, by simpa using h7, ?_⟩⟩
    rw [Array.toList_setIfInBounds, List.take_set, h8, List.map_set]
/-- A cell of what is owned may be read and written. -/
theorem own_cell {w : World} {base n g c k : Nat} {e : TypeId} {xs : List Int} (h : w.ownsRow base e 1 (.slice (some ⟨g, 0, none⟩) n c) n (xs.map (Value.int .i64))) (hk : k < xs.length) : w.cell? ⟨g, k, none⟩ = some (.int .i64 (xs.getD k 0)) ∧ w.frozen? ⟨g, k, none⟩ = false := by
  refine ⟨?_, ?_⟩
  · obtain ⟨_, _, e1, h1⟩ := owns_ints h k hk
    simp at e1
    obtain ⟨rfl, rfl⟩ := e1
    rw [Nat.zero_add] at h1
    exact h1
  · obtain ⟨h0, ⟨h1, _⟩ | ⟨g', cap, cur, h2, h3, h4, h5⟩⟩ := h
    · cases h1
    · simp at h2
      obtain ⟨rfl, rfl⟩ := h2
      exact frozen_of_row _ _ k _ _ h4

end Go.Proofs.Ytaehhlkpbhmdfaa
