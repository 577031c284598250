import Derived.Test.YtaehhlkpbhmdfaaPack1
import Derived.Test.YtaehhlkpbhmdfaaPack2
namespace Go.Proofs.Ytaehhlkpbhmdfaa
open Go.RowKit

set_option maxHeartbeats 1000000 in
theorem take_any (B hb : Nat) (v : Value) (L : List ED) (w : World) (h : HP w B hb v L) (hh : isHp L) (hn : L.length ≤ 1000) :
    Calls Try.prog 76 #[.pointer (some ⟨hb, 0, none⟩)] w fun e w' => (L = [] ∧ e = .returned (.tuple #[.agg #[.int .i64 0, .int .i64 0, .int .i64 0], .bool false]) ∧ Below w.heap.size w w') ∨ (L ≠ [] ∧ e = .returned (.tuple #[topE L, .bool true]) ∧ PopOk w B hb v L w') := by
  have HB : Hid (Below w.heap.size w (w.alloc (.cells #[.int .i64 0, .int .i64 0, .int .i64 0] 32))) := (Below.refl _ _).alloc (Nat.le_refl _) _
  have Z0 : Hid ((w.alloc (.cells #[.int .i64 0, .int .i64 0, .int .i64 0] 32)).heap[w.heap.size]? = some (.cells #[.int .i64 0, .int .i64 0, .int .i64 0] 32 (0, 0))) := heap_alloc_new _ _
  have HH : Hid (HP (w.alloc (.cells #[.int .i64 0, .int .i64 0, .int .i64 0] 32)) B hb v L) := h.below HB.out
  have NB : Hid (¬ hpS hb v w.heap.size) := fun h9 => by
    rcases h9 with h9 | h9
    · have := row_lt h.b; omega
    · have := (h.o.lt _ h9).2; omega
  have CN := heapLen_any B hb v L _ HH.out
  obtain ⟨n, HN⟩ : ∃ n, Hid (L.length = n) := ⟨_, rfl⟩
  rw [HN.out] at CN
  by_cases h0 : L = []
  · have hn0 : ((n : Int) == 0) = true := by rw [← HN.out, h0]; rfl
    obtain ⟨z0, z1, z2⟩ := cells3 Z0.out
    have zf := fun i => frozen_of_row _ _ i _ _ Z0.out
    clear h hh
    go_enter Try.func76, Try.ntmps76
    go_wp2_with fail
    generalize (w.alloc (.cells #[.int .i64 0, .int .i64 0, .int .i64 0] 32)) = W0 at *
    refine CN.mono ?_
    rintro e w1 ⟨rfl, hw⟩
    subst hw
    go_wp2
    refine bodyPost_ret (v := .tuple #[.agg #[.int .i64 0, .int .i64 0, .int .i64 0], .bool false]) (by simp [results, Try.results76, go_sem, z0, z1, z2]) rfl ?_
    exact .inl ⟨h0, rfl, Below.setCell (Below.setCell (Below.setCell HB.out (Nat.le_refl _) _) (Nat.le_refl _) _) (Nat.le_refl _) _⟩
  · have hl0 : 0 < L.length := by cases L with | nil => exact absurd rfl h0 | cons x l => simp
    have hn0 : ((n : Int) == 0) = false := by
      have : ¬ ((n : Int) = 0) := by rw [← HN.out]; omega
      simpa using this
    have CP := pop_any B hb v L _ HH.out hh hn hl0
    unfold topE at CP ⊢
    obtain ⟨x, HX⟩ : ∃ x, Hid (L.getD 0 e0 = x) := ⟨_, rfl⟩
    rw [HX.out] at CP ⊢
    obtain ⟨xa, xb, xt⟩ := x
    simp only at CP ⊢
    have hAs := asE (.agg #[.int .i64 xa, .int .i64 xb, .int .i64 xt])
    have HV : Hid (∀ b, v.ownBlock = some b → b < w.heap.size) := fun b e => (h.o.lt b e).2
    clear h hh hl0
    go_enter Try.func76, Try.ntmps76
    go_wp2_with fail
    generalize (w.alloc (.cells #[.int .i64 0, .int .i64 0, .int .i64 0] 32)) = W0 at *
    refine CN.mono ?_
    rintro e w1 ⟨rfl, hw⟩
    subst hw
    go_wp2_with fail
    refine CP.mono ?_
    rintro e w2 ⟨rfl, v2, L2, k2, hp2, hl2, hm2, hg2, hv2⟩
    have Z2 : Hid (w2.heap[w.heap.size]? = some (.cells #[.int .i64 0, .int .i64 0, .int .i64 0] 32 (0, 0))) := hg2.row Z0.out NB.out
    have hbox : hb ≠ w.heap.size := fun e => NB.out (.inl e.symm)
    have G2 : Hid (GrownBut (hpS hb v) w w2) := (GrownBut.of_below HB.out).trans hg2
    have K2 : Hid (HP w2 B hb v2 L2) := k2
    have HV2 : Hid (∀ b, v2.ownBlock = some b → v.ownBlock = some b) := hv2
    have HL2 : Hid (isHp L2 ∧ L2.length + 1 = L.length ∧ ∀ y, y ∈ L ↔ y = L.getD 0 e0 ∨ y ∈ L2) := ⟨hp2, hl2, hm2⟩
    have S2 : Hid (w.heap.size < w2.heap.size) := row_lt Z2.out
    have TOLD : Hid (PopOk w B hb v L (((w2.setCell ⟨w.heap.size, 0, none⟩ (.int .i64 xa)).setCell ⟨w.heap.size, 1, none⟩ (.int .i64 xb)).setCell ⟨w.heap.size, 2, none⟩ (.int .i64 xt))) := by
      have hs : w2.grownBy (((w2.setCell ⟨w.heap.size, 0, none⟩ (.int .i64 xa)).setCell ⟨w.heap.size, 1, none⟩ (.int .i64 xb)).setCell ⟨w.heap.size, 2, none⟩ (.int .i64 xt)) (some w.heap.size) := grown_trans (grown_trans (grown_set _ _ _ _) (grown_set _ _ _ _)) (grown_set _ _ _ _)
      refine ⟨v2, L2, ⟨?_, own_rowP K2.out.o hs (fun k e9 e => ?_)⟩, HL2.out.1, HL2.out.2.1, HL2.out.2.2, G2.out.step (GrownBut.of_grown (S := fun b => b = w.heap.size) hs rfl) (fun b hb9 h9 => by omega), HV2.out⟩
      · exact (hs.block hb (row_lt K2.out.b) (fun e => by injection e with e; exact hbox e)).trans K2.out.b
      · cases e9
        have := HV.out _ (HV2.out _ e)
        omega
    clear k2 hp2 hl2 hm2 hg2 hv2 CP CN hbox
    obtain ⟨z0, z1, z2⟩ := cells3 Z2.out
    have zf := fun i => frozen_of_row _ _ i _ _ Z2.out
    go_wp2
    refine bodyPost_ret (v := .tuple #[.agg #[.int .i64 xa, .int .i64 xb, .int .i64 xt], .bool true]) (by simp [results, Try.results76, go_sem, z0, z1, z2]) rfl ?_
    exact .inr ⟨h0, rfl, TOLD.out⟩

/-- The cells of a tree that grows. -/
structure GA (cur : Array Value) (n : Nat) (G : Nat → Nat → Int) (ins : Nat → Bool) (hb : Nat) : Prop where
  c : cur[0]? = some (.int .i64 n)
  g : ∀ x y, x < n → y < n → cur[1 + x * 16 + y]? = some (.int .i64 (G x y))
  i : ∀ p, p < 16 → cur[257 + p]? = some (.bool (ins p))
  q : cur[273]? = some (.iface 58 (.pointer (some ⟨hb, 0, none⟩)))
def GR (w : World) (gb n : Nat) (G : Nat → Nat → Int) (ins : Nat → Bool) (hb : Nat) : Prop := ∃ cur, w.heap[gb]? = some (.cells cur 65 (0, 0)) ∧ GA cur n G ins hb
theorem GR.lt {w : World} {gb n hb : Nat} {G : Nat → Nat → Int} {ins : Nat → Bool} (h : GR w gb n G ins hb) : gb < w.heap.size := by
  obtain ⟨cur, h1, _⟩ := h
  exact row_lt h1
theorem GR.but {S : Nat → Prop} {w w' : World} {gb n hb : Nat} {G : Nat → Nat → Int} {ins : Nat → Bool} (h : GR w gb n G ins hb) (hg : GrownBut S w w') (hs : ¬ S gb) : GR w' gb n G ins hb := by
  obtain ⟨cur, h1, h2⟩ := h
  exact ⟨cur, hg.row h1 hs, h2⟩
theorem GR.c {w : World} {gb n hb : Nat} {G : Nat → Nat → Int} {ins : Nat → Bool} (h : GR w gb n G ins hb) : w.cell? ⟨gb, 0, none⟩ = some (.int .i64 n) ∧ w.cell? ⟨gb, 273, none⟩ = some (.iface 58 (.pointer (some ⟨hb, 0, none⟩))) := by
  obtain ⟨cur, h1, h2⟩ := h
  exact ⟨by rw [cell_of_row _ _ _ _ _ _ h1, h2.c], by rw [cell_of_row _ _ _ _ _ _ h1, h2.q]⟩
theorem GR.cg {w : World} {gb n hb : Nat} {G : Nat → Nat → Int} {ins : Nat → Bool} (h : GR w gb n G ins hb) {x y : Nat} (hx : x < n) (hy : y < n) : w.cell? ⟨gb, 1 + x * 16 + y, none⟩ = some (.int .i64 (G x y)) := by
  obtain ⟨cur, h1, h2⟩ := h
  rw [cell_of_row _ _ _ _ _ _ h1, h2.g x y hx hy]
theorem GR.ci {w : World} {gb n hb : Nat} {G : Nat → Nat → Int} {ins : Nat → Bool} (h : GR w gb n G ins hb) {p : Nat} (hp : p < 16) : w.cell? ⟨gb, 257 + p, none⟩ = some (.bool (ins p)) := by
  obtain ⟨cur, h1, h2⟩ := h
  rw [cell_of_row _ _ _ _ _ _ h1, h2.i p hp]
theorem GR.fz {w : World} {gb n hb : Nat} {G : Nat → Nat → Int} {ins : Nat → Bool} (h : GR w gb n G ins hb) (k : Nat) : w.frozen? ⟨gb, k, none⟩ = false := by
  obtain ⟨cur, h1, _⟩ := h
  exact frozen_of_row _ _ k _ _ h1
theorem GR.mark {w : World} {gb n hb : Nat} {G : Nat → Nat → Int} {ins : Nat → Bool} (h : GR w gb n G ins hb) {p : Nat} (hp : p < 16) (hn : n ≤ 16) : GR (w.setCell ⟨gb, 257 + p, none⟩ (.bool true)) gb n G (inS ins p) hb := by
  obtain ⟨cur, h1, h2⟩ := h
  refine ⟨_, heap_setCell_same _ _ _ _ _ _ h1, ?_⟩
  have hb1 : 257 + p < cur.size := by
    have := h2.i p hp
    exact (Array.getElem?_eq_some_iff.1 this).1
  refine ⟨?_, fun x y hx hy => ?_, fun q hq => ?_, ?_⟩
  · rw [Array.getElem?_setIfInBounds_ne (by omega)]; exact h2.c
  · rw [Array.getElem?_setIfInBounds_ne (by omega)]; exact h2.g x y hx hy
  · unfold inS
    by_cases e : q = p
    · subst e
      rw [if_pos rfl, Array.getElem?_setIfInBounds_self_of_lt hb1]
    · rw [if_neg e, Array.getElem?_setIfInBounds_ne (by omega)]; exact h2.i q hq
  · rw [Array.getElem?_setIfInBounds_ne (by omega)]; exact h2.q

end Go.Proofs.Ytaehhlkpbhmdfaa

namespace Go.Proofs.Ytaehhlkpbhmdfaa
open Go.RowKit

/-- What a step of the tree may write. -/
def grS (gb hb : Nat) (v : Value) (b : Nat) : Prop := b = gb ∨ hpS hb v b
/-- A place has come in, its edges are in the queue up to that one. -/
structure EN (w wr : World) (B gb hb n p k : Nat) (G : Nat → Nat → Int) (ins : Nat → Bool) (v v' : Value) (L L' : List ED) : Prop where
  r : GR wr gb n G ins hb
  h : HP wr B hb v' L'
  hp : isHp L'
  l : L'.length ≤ L.length + k
  m : ∀ y, y ∈ L' ↔ y ∈ L ∨ ∃ t, t < k ∧ ins t = false ∧ y = ⟨(p : Int), (t : Int), G p t⟩
  g : GrownBut (grS gb hb v) w wr
  v : ∀ b, v'.ownBlock = some b → v.ownBlock = some b ∨ w.heap.size ≤ b

set_option maxRecDepth 10000 in
set_option maxHeartbeats 4000000 in
theorem enter_any (B gb hb n p : Nat) (G : Nat → Nat → Int) (ins : Nat → Bool) (v : Value) (L : List ED) (w : World) (hr : GR w gb n G ins hb) (hh : HP w B hb v L) (hp : isHp L) (hpn : p < n) (hn : n ≤ 16) (hl : L.length ≤ 400) (hB : B ≤ w.heap.size) (hgb : ¬ hpS hb v gb) :
    Calls Try.prog 31 #[.pointer (some ⟨gb, 0, none⟩), .int .i64 p] w fun e w' => e = .returned (.tuple #[]) ∧ ∃ v' L', EN w w' B gb hb n p n G (inS ins p) v v' L L' := by
  have hm1 := fun (q : Nat) (W : World) => mhput q (.pointer (some ⟨hb, 0, none⟩)) W
  obtain ⟨I, HI⟩ : ∃ I, Hid (inS ins p = I) := ⟨_, rfl⟩
  have hgne : hb ≠ gb := fun e => hgb (.inl e.symm)
  have E0 : Hid (EN w (w.setCell ⟨gb, 257 + p, none⟩ (.bool true)) B gb hb n p 0 G I v v L L) := by
    have hs := grown_set w gb (257 + p) (.bool true)
    refine ⟨by rw [← HI.out]; exact hr.mark (by omega) hn, ⟨?_, own_rowP hh.o hs (fun k e9 e => ?_)⟩, hp, by omega, fun y => ?_, GrownBut.of_grown hs (.inl rfl), fun b e => .inl e⟩
    · exact (hs.block hb (row_lt hh.b) (fun e => by injection e with e; exact hgne e)).trans hh.b
    · cases e9; exact hgb (.inr e)
    · refine ⟨fun h => .inl h, fun h => ?_⟩
      rcases h with h | ⟨t, ht, _⟩
      · exact h
      · omega
  have HGB : Hid (¬ hpS hb v gb ∧ gb < w.heap.size) := ⟨hgb, hr.lt⟩
  have cip := hr.ci (show p < 16 by omega)
  have fzp := hr.fz
  have hp16 : (p : Int) < 16 := by omega
  rw [HI.out]
  obtain ⟨h0, -⟩ := E0.out.r.c
  clear hr hh hp hgb hgne
  go_enter Try.func31, Try.ntmps31
  go_wp2_with fail
  generalize (w.setCell ⟨gb, 257 + p, none⟩ (.bool true)) = W0 at *
  clear h0 cip fzp
  go_loopw [4, 14] (fun _ t wr => ∃ (k : Nat) (v' : Value) (L' : List ED), t = .int .i64 k ∧ k ≤ n ∧ EN w wr B gb hb n p k G I v v' L L') (fun _ t _ => n - (intOf t).toNat)
  case atStart => exact ⟨0, v, L, rfl, Nat.zero_le _, E0.out⟩
  case round =>
    clear E0
    obtain ⟨k, v', L', rfl, hk, hE⟩ := hrel
    have EW : Hid (EN w wr B gb hb n p k G I v v' L L') := hE
    clear hE
    by_cases hlt : k < n
    · have hltI : (k : Int) < (n : Int) := by omega
      have hk16 : (k : Int) < 16 := by omega
      have cik := EW.out.r.ci (show k < 16 by omega)
      obtain ⟨-, cq⟩ := EW.out.r.c
      have cg := EW.out.r.cg hpn hlt
      obtain ⟨b, HB⟩ : ∃ b, Hid (I k = b) := ⟨_, rfl⟩
      obtain ⟨x, HX⟩ : ∃ x, Hid (G p k = x) := ⟨_, rfl⟩
      rw [HB.out] at cik
      rw [HX.out] at cg
      cases b
      · have CP := put_any B hb v' L' ⟨(p : Int), (k : Int), x⟩ wr.drew (EW.out.h.below (Below.refl _ _).drew) EW.out.hp (by have := EW.out.l; omega) (Nat.le_trans hB EW.out.g.size)
        simp only at CP
        have kS := And.intro cq cg
        go_wp2_with fail
        go_region_held3 (fun W => W.cell? ⟨gb, 273, none⟩ = some (.iface 58 (.pointer (some ⟨hb, 0, none⟩))) ∧ W.cell? ⟨gb, 1 + p * 16 + k, none⟩ = some (.int .i64 x)) (first | with_reducible exact kS | go_keep) ((
          go_at_call 75
          with_reducible refine CP.mono ?_
          rintro e w1 ⟨v1, L1, rfl, h1, hp1, hl1, hm1', hg1, hv1⟩
          have hb9 : ¬ hpS hb v' gb := fun h9 => by
            rcases h9 with h9 | h9
            · exact HGB.out.1 (.inl h9)
            · rcases EW.out.v gb h9 with h8 | h8
              · exact HGB.out.1 (.inr h8)
              · have := HGB.out.2; omega
          have E1 : Hid (EN w w1 B gb hb n p (k + 1) G I v v1 L L1) := by
            refine ⟨(EW.out.r.but (GrownBut.of_below (Below.refl _ _).drew) (S := fun _ => False) (fun h => h)).but hg1 hb9, h1, hp1, by have := EW.out.l; omega, fun y => ?_, (EW.out.g.trans (GrownBut.of_below (Below.refl _ _).drew)).step hg1 (fun b hb8 h9 => ?_), fun b e => ?_⟩
            · rw [hm1' y, EW.out.m y]
              constructor
              · rintro ((h | ⟨t, ht, h3, h4⟩) | h)
                · exact .inl h
                · exact .inr ⟨t, by omega, h3, h4⟩
                · exact .inr ⟨k, by omega, HB.out, by rw [h, HX.out]⟩
              · rintro (h | ⟨t, ht, h3, h4⟩)
                · exact .inl (.inl h)
                · by_cases e : t = k
                  · subst e
                    exact .inr (by rw [h4, HX.out])
                  · exact .inl (.inr ⟨t, by omega, h3, h4⟩)
            · rcases h9 with h9 | h9
              · exact .inr (.inl h9)
              · rcases EW.out.v b h9 with h8 | h8
                · exact .inr (.inr h8)
                · omega
            · rcases hv1 b e with h9 | h9
              · exact EW.out.v b h9
              · exact .inr (Nat.le_trans EW.out.g.size h9)
          have kS := And.intro (E1.out.r.c).2 (by have := E1.out.r.cg hpn hlt; rw [HX.out] at this; exact this)
          clear h1 hp1 hl1 hm1' hg1 hv1 hb9))
        all_goals
          clear kS cq cg cik CP EW
          go_wp2_with fail
          go_roundw
          case rel => exact ⟨k + 1, v1, L1, by go_num, by omega, E1.out⟩
          case measure => simp [intOf]; omega
      · have E1 : Hid (EN w wr B gb hb n p (k + 1) G I v v' L L') := by
          refine ⟨EW.out.r, EW.out.h, EW.out.hp, by have := EW.out.l; omega, fun y => ?_, EW.out.g, EW.out.v⟩
          rw [EW.out.m y]
          constructor
          · rintro (h | ⟨t, ht, h3, h4⟩)
            · exact .inl h
            · exact .inr ⟨t, by omega, h3, h4⟩
          · rintro (h | ⟨t, ht, h3, h4⟩)
            · exact .inl h
            · by_cases e : t = k
              · subst e
                rw [HB.out] at h3
                cases h3
              · exact .inr ⟨t, by omega, h3, h4⟩
        clear EW cg cq
        go_wp2_with fail
        go_roundw
        case rel => exact ⟨k + 1, v', L', by go_num, by omega, E1.out⟩
        case measure => simp [intOf]; omega
    · have hkn : k = n := by omega
      subst hkn
      have hnl : ¬ ((k : Int) < (k : Int)) := by omega
      clear hlt
      go_wp2
      first | refine bodyPost_end (results_none rfl _ _ _) rfl ?_ | refine bodyPost_ret (results_none rfl _ _ _) rfl ?_
      exact ⟨rfl, v', L', EW.out⟩

end Go.Proofs.Ytaehhlkpbhmdfaa

namespace Go.Proofs.Ytaehhlkpbhmdfaa
open Go.RowKit

set_option maxHeartbeats 1000000 in
theorem markEdgeS_any (g n cap : Nat) (k0 : Int) (cur : Array Value) (T : TypeId) (w : World) (hrow0 : w.heap[g]? = some (.cells cur T (0, 0))) (hn : n * 3 ≤ cur.size) (h0 : 0 ≤ k0) (h1 : k0 ≤ 1000000000000) (hn1 : n ≤ 10000000) :
    Calls Try.prog 25 #[.slice (some ⟨g, 0, none⟩) n cap, .int .i64 k0] w fun e w' => e = .returned (.int .i64 (k0 + ((n * 3 : Nat) : Int))) ∧ w.grownBy w' (some g) ∧ w'.heap[g]? = some (.cells (markA cur k0 (n * 3)) T (0, 0)) := by
  have HR0 : Hid (w.heap[g]? = some (.cells cur T (0, 0))) := hrow0
  clear hrow0
  go_enter Try.func25, Try.ntmps25
  go_wp2_with fail
  go_loopw [1, 5] (fun kk t wr => ∃ k : Nat, k ≤ n ∧ t = .int .i64 k ∧ kk = .int .i64 (k0 + ((k * 3 : Nat) : Int)) ∧ w.grownBy wr (some g) ∧ wr.heap[g]? = some (.cells (markA cur k0 (k * 3)) T (0, 0))) (fun _ t _ => n - (intOf t).toNat)
  case atStart => exact ⟨0, Nat.zero_le _, rfl, by simp, grown_refl _ _, HR0.out⟩
  case round =>
    obtain ⟨k, hk, rfl, rfl, hg, hrow⟩ := hrel
    have HG : Hid (w.grownBy wr (some g)) := hg
    clear hg
    obtain ⟨K, HK⟩ : ∃ t, Hid (k0 + ((k * 3 : Nat) : Int) = t) := ⟨_, rfl⟩
    have hkb : 0 ≤ K ∧ K ≤ 1000100000000 := by
      have := HK.out
      omega
    rw [HK.out]
    by_cases hlt : k < n
    · have fz := fun i => frozen_of_row _ _ i _ _ hrow
      obtain ⟨z0, y0⟩ := row_some hrow (j := k * 3) (by rw [markA_size]; omega)
      obtain ⟨z1, y1⟩ := row_some hrow (j := k * 3 + 1) (by rw [markA_size]; omega)
      obtain ⟨z2, y2⟩ := row_some hrow (j := k * 3 + 2) (by rw [markA_size]; omega)
      have HROW : Hid ((World.heap (World.setCell (World.setCell (World.setCell wr ⟨g, k * 3, none⟩ (Value.int IntKind.i64 K)) ⟨g, k * 3 + 1, none⟩ (Value.int IntKind.i64 (K + 1))) ⟨g, k * 3 + 2, none⟩ (Value.int IntKind.i64 (K + 1 + 1))))[g]? = some (.cells (markA cur k0 (((k + 1) * 3))) T (0, 0))) := by
        show _ = _
        rw [show (k + 1) * 3 = k * 3 + 1 + 1 + 1 by omega]
        exact (mark_step (mark_step (mark_step hrow (by have := HK.out; omega)) (by have := HK.out; omega)) (by have := HK.out; omega))
      have HGR : Hid (w.grownBy (World.setCell (World.setCell (World.setCell wr ⟨g, k * 3, none⟩ (Value.int IntKind.i64 K)) ⟨g, k * 3 + 1, none⟩ (Value.int IntKind.i64 (K + 1))) ⟨g, k * 3 + 2, none⟩ (Value.int IntKind.i64 (K + 1 + 1))) (some g)) := (grown_trans (grown_trans (grown_trans HG.out (grown_set _ _ _ _)) (grown_set _ _ _ _)) (grown_set _ _ _ _))
      have HK1 : Hid (k0 + ((((k + 1) * 3) : Nat) : Int) = K + 3) := by
        show _ = _
        have := HK.out
        omega
      clear hrow
      go_wp2
      go_roundw
      case rel => exact ⟨k + 1, by omega, by go_num, by first | (rw [HK1.out]; go_num) | rw [HK1.out], HGR.out, HROW.out⟩
      case measure => simp [intOf]; omega
    · have hkl : k = n := by omega
      subst hkl
      have HROW : Hid (wr.heap[g]? = _) := hrow
      clear hrow
      go_wp2
      go_ret
      exact ⟨ret_int HK.out.symm, HG.out, HROW.out⟩

set_option maxHeartbeats 1000000 in
theorem heldEdgeS_any (g n cap : Nat) (k0 : Int) (w : World) (hc : ∀ j, j < n * 3 → w.cell? ⟨g, j, none⟩ = some (.int .i64 (k0 + (j : Nat)))) (h0 : 0 ≤ k0) (h1 : k0 ≤ 1000000000000) (hn1 : n ≤ 10000000) :
    Calls Try.prog 26 #[.slice (some ⟨g, 0, none⟩) n cap, .int .i64 k0] w fun e w' => e = .returned (.int .i64 (k0 + ((n * 3 : Nat) : Int))) ∧ w' = w := by
  have HC : Hid (∀ j, j < n * 3 → w.cell? ⟨g, j, none⟩ = some (.int .i64 (k0 + (j : Nat)))) := hc
  clear hc
  go_enter Try.func26, Try.ntmps26
  go_wp2_with fail
  go_loop [1, 5] (fun kk t => ∃ k : Nat, k ≤ n ∧ t = .int .i64 k ∧ kk = .int .i64 (k0 + ((k * 3 : Nat) : Int))) (fun _ t => n - (intOf t).toNat)
  case atStart => exact ⟨0, Nat.zero_le _, rfl, by simp⟩
  case round =>
    obtain ⟨k, hk, rfl, rfl⟩ := hrel
    obtain ⟨K, HK⟩ : ∃ t, Hid (k0 + ((k * 3 : Nat) : Int) = t) := ⟨_, rfl⟩
    have hkb : 0 ≤ K ∧ K ≤ 1000100000000 := by
      have := HK.out
      omega
    rw [HK.out]
    by_cases hlt : k < n
    · have HK1 : Hid (k0 + ((((k + 1) * 3) : Nat) : Int) = K + 3) := by
        show _ = _
        have := HK.out
        omega
      have y0 := HC.out (k * 3) (by omega)
      have y1 := HC.out (k * 3 + 1) (by omega)
      have y2 := HC.out (k * 3 + 2) (by omega)
      rw [show k0 + (((k * 3 : Nat)) : Int) = K by have := HK.out; omega] at y0
      rw [show k0 + (((k * 3 + 1 : Nat)) : Int) = K + 1 by have := HK.out; omega] at y1
      rw [show k0 + (((k * 3 + 2 : Nat)) : Int) = K + 1 + 1 by have := HK.out; omega] at y2
      go_wp2
      go_round
      case rel => exact ⟨k + 1, by omega, by go_num, by first | (rw [HK1.out]; go_num) | rw [HK1.out]⟩
      case measure => simp [intOf]; omega
    · have hkl : k = n := by omega
      subst hkl
      go_wp2
      go_ret
      exact ⟨ret_int HK.out.symm, rfl⟩

set_option maxHeartbeats 400000 in
theorem markEdgeS_nil (a : Option Addr) (cap : Nat) (k0 : Int) (w : World) :
    Calls Try.prog 25 #[.slice a 0 cap, .int .i64 k0] w fun e w' => e = .returned (.int .i64 k0) ∧ w' = w := by
  go_enter Try.func25, Try.ntmps25
  go_wp2_with fail
  go_loop [1, 5] (fun kk t => t = .int .i64 0 ∧ kk = .int .i64 k0) (fun _ _ => 0)
  case atStart => exact ⟨rfl, rfl⟩
  case round =>
    obtain ⟨rfl, rfl⟩ := hrel
    go_wp2
    go_ret
    exact ⟨rfl, rfl⟩

set_option maxHeartbeats 400000 in
theorem heldEdgeS_nil (a : Option Addr) (cap : Nat) (k0 : Int) (w : World) :
    Calls Try.prog 26 #[.slice a 0 cap, .int .i64 k0] w fun e w' => e = .returned (.int .i64 k0) ∧ w' = w := by
  go_enter Try.func26, Try.ntmps26
  go_wp2_with fail
  go_loop [1, 5] (fun kk t => t = .int .i64 0 ∧ kk = .int .i64 k0) (fun _ _ => 0)
  case atStart => exact ⟨rfl, rfl⟩
  case round =>
    obtain ⟨rfl, rfl⟩ := hrel
    go_wp2
    go_ret
    exact ⟨rfl, rfl⟩

theorem markE_own (a : Option Addr) (n c base : Nat) (K : Int) (xs : List Value) (w : World) (h : w.ownsRow base 32 3 (.slice a n c) n xs) (h0 : 0 ≤ K) (h1 : K ≤ 1000000000000) (hn : n ≤ 10000000) :
    Calls Try.prog 25 #[.slice a n c, .int .i64 K] w fun e w' => e = .returned (.int .i64 (K + ((n * 3 : Nat) : Int))) ∧ GrownBut (fun b => (Value.slice a n c).ownBlock = some b) w w' ∧ w'.ownsRow base 32 3 (.slice a n c) n ((seqL K (n * 3)).map (Value.int .i64)) := by
  rcases own_kinds h with ⟨e, hz⟩ | ⟨g, c', e, _, _⟩
  · subst hz
    have hx : xs = [] := List.length_eq_zero_iff.1 (by have := h.1; simpa using this)
    subst hx
    refine (markEdgeS_nil a c K _).mono ?_
    rintro e w' ⟨rfl, rfl⟩
    exact ⟨by simp, GrownBut.of_below (Below.refl _ _), by simpa [seqL] using h⟩
  · simp only [Value.slice.injEq, true_and] at e
    obtain ⟨rfl, rfl⟩ := e
    obtain ⟨cur, k1, k2, k3, k4, k5⟩ := own_row_of h
    refine (markEdgeS_any g n c K cur _ _ k1 (by omega) h0 h1 hn).mono ?_
    rintro e w' ⟨rfl, hg, hr⟩
    exact ⟨rfl, GrownBut.of_grown hg rfl, mark_row h k1 (by simpa using hr)⟩
theorem heldE_own (a : Option Addr) (n c base : Nat) (K : Int) (w : World) (h : w.ownsRow base 32 3 (.slice a n c) n ((seqL K (n * 3)).map (Value.int .i64))) (h0 : 0 ≤ K) (h1 : K ≤ 1000000000000) (hn : n ≤ 10000000) :
    Calls Try.prog 26 #[.slice a n c, .int .i64 K] w fun e w' => e = .returned (.int .i64 (K + ((n * 3 : Nat) : Int))) ∧ w' = w := by
  rcases own_kinds h with ⟨e, hz⟩ | ⟨g, c', e, _, _⟩
  · subst hz
    refine (heldEdgeS_nil a c K _).mono ?_
    rintro e w' ⟨rfl, rfl⟩
    exact ⟨by simp, rfl⟩
  · simp only [Value.slice.injEq, true_and] at e
    obtain ⟨rfl, rfl⟩ := e
    exact heldEdgeS_any g n c K w (fun j hj => (own_cellV h (by rw [List.getElem?_map, seqL_at (by omega)]; rfl)).1) h0 h1 hn

end Go.Proofs.Ytaehhlkpbhmdfaa

namespace Go.Proofs.Ytaehhlkpbhmdfaa
open Go.RowKit

set_option maxHeartbeats 1000000 in
theorem markInt64S_any (g n cap : Nat) (k0 : Int) (cur : Array Value) (T : TypeId) (w : World) (hrow0 : w.heap[g]? = some (.cells cur T (0, 0))) (hn : n ≤ cur.size) (h0 : 0 ≤ k0) (h1 : k0 ≤ 1000000000000) (hn1 : n ≤ 10000000) :
    Calls Try.prog 48 #[.slice (some ⟨g, 0, none⟩) n cap, .int .i64 k0] w fun e w' => e = .returned (.int .i64 (k0 + ((n : Nat) : Int))) ∧ w.grownBy w' (some g) ∧ w'.heap[g]? = some (.cells (markA cur k0 (n)) T (0, 0)) := by
  have HR0 : Hid (w.heap[g]? = some (.cells cur T (0, 0))) := hrow0
  clear hrow0
  go_enter Try.func48, Try.ntmps48
  go_wp2_with fail
  go_loopw [1, 5] (fun kk t wr => ∃ k : Nat, k ≤ n ∧ t = .int .i64 k ∧ kk = .int .i64 (k0 + ((k : Nat) : Int)) ∧ w.grownBy wr (some g) ∧ wr.heap[g]? = some (.cells (markA cur k0 (k)) T (0, 0))) (fun _ t _ => n - (intOf t).toNat)
  case atStart => exact ⟨0, Nat.zero_le _, rfl, by simp, grown_refl _ _, HR0.out⟩
  case round =>
    obtain ⟨k, hk, rfl, rfl, hg, hrow⟩ := hrel
    have HG : Hid (w.grownBy wr (some g)) := hg
    clear hg
    obtain ⟨K, HK⟩ : ∃ t, Hid (k0 + ((k : Nat) : Int) = t) := ⟨_, rfl⟩
    have hkb : 0 ≤ K ∧ K ≤ 1000100000000 := by
      have := HK.out
      omega
    rw [HK.out]
    by_cases hlt : k < n
    · have fz := fun i => frozen_of_row _ _ i _ _ hrow
      obtain ⟨z0, y0⟩ := row_some hrow (j := k) (by rw [markA_size]; omega)
      have HROW : Hid ((World.heap (World.setCell wr ⟨g, k, none⟩ (Value.int IntKind.i64 K)))[g]? = some (.cells (markA cur k0 ((k + 1))) T (0, 0))) := by
        show _ = _
        exact (mark_step hrow (by have := HK.out; omega))
      have HGR : Hid (w.grownBy (World.setCell wr ⟨g, k, none⟩ (Value.int IntKind.i64 K)) (some g)) := (grown_trans HG.out (grown_set _ _ _ _))
      have HK1 : Hid (k0 + (((k + 1) : Nat) : Int) = K + 1) := by
        show _ = _
        have := HK.out
        omega
      clear hrow
      go_wp2
      go_roundw
      case rel => exact ⟨k + 1, by omega, by go_num, by first | (rw [HK1.out]; go_num) | rw [HK1.out], HGR.out, HROW.out⟩
      case measure => simp [intOf]; omega
    · have hkl : k = n := by omega
      subst hkl
      have HROW : Hid (wr.heap[g]? = _) := hrow
      clear hrow
      go_wp2
      go_ret
      exact ⟨ret_int HK.out.symm, HG.out, HROW.out⟩

set_option maxHeartbeats 400000 in
theorem markInt64S_nil (a : Option Addr) (cap : Nat) (k0 : Int) (w : World) :
    Calls Try.prog 48 #[.slice a 0 cap, .int .i64 k0] w fun e w' => e = .returned (.int .i64 k0) ∧ w' = w := by
  go_enter Try.func48, Try.ntmps48
  go_wp2_with fail
  go_loop [1, 5] (fun kk t => t = .int .i64 0 ∧ kk = .int .i64 k0) (fun _ _ => 0)
  case atStart => exact ⟨rfl, rfl⟩
  case round =>
    obtain ⟨rfl, rfl⟩ := hrel
    go_wp2
    go_ret
    exact ⟨rfl, rfl⟩

end Go.Proofs.Ytaehhlkpbhmdfaa

namespace Go.Proofs.Ytaehhlkpbhmdfaa
open Go.RowKit

/-- A slice of numbers that was marked from 1 on. -/
def Marked1 (W : World) (ad : Option Addr) (K : Nat) : Prop := K = 0 ∨ ∃ g, ad = some ⟨g, 0, none⟩ ∧ g < W.heap.size ∧ ∀ j, j < K → W.cell? ⟨g, j, none⟩ = some (.int .i64 (1 + (j : Nat)))
theorem Marked1.below {W W' : World} {ad : Option Addr} {K : Nat} (h : Marked1 W ad K) (hb : Below W.heap.size W W') : Marked1 W' ad K := by
  rcases h with h | ⟨g, h1, h2, h3⟩
  · exact .inl h
  · exact .inr ⟨g, h1, Nat.lt_of_lt_of_le h2 hb.size, fun j hj => (hb.cell (p := ⟨g, j, none⟩) h2).trans (h3 j hj)⟩
theorem markI_o (ad : Option Addr) (K c base : Nat) (xs : List Int) (w : World) (ho : w.ownsRow base 2 1 (.slice ad K c) K (xs.map (Value.int .i64))) (hK : K ≤ 1000) :
    Calls Try.prog 48 #[.slice ad K c, .int .i64 1] w fun e w' => e = .returned (.int .i64 (1 + (K : Int))) ∧ w.grownBy w' (Value.slice ad K c).ownBlock ∧ Marked1 w' ad K := by
  obtain ⟨h1, ⟨h2, rfl⟩ | ⟨g, cap, cur, h2, h3, h4, h5, _, h7, _⟩⟩ := ho
  · refine (markInt64S_nil ad c 1 w).mono ?_
    rintro e w' ⟨rfl, rfl⟩
    exact ⟨rfl, ⟨rfl, rfl, rfl, Nat.le_refl _, fun _ _ _ => rfl⟩, .inl rfl⟩
  · simp only [Value.slice.injEq] at h2
    obtain ⟨rfl, _, rfl⟩ := h2
    have hsz : K ≤ cur.size := by rw [h7]; omega
    refine (markInt64S_any g K c 1 cur _ w h4 hsz (by omega) (by omega) (by omega)).mono ?_
    rintro e w' ⟨rfl, hg, hr⟩
    refine ⟨rfl, hg, .inr ⟨g, rfl, row_lt hr, fun j hj => ?_⟩⟩
    rw [cell_of_row _ _ j _ _ _ hr]
    exact markA_get cur 1 K hsz j hj
theorem ints_grown {W W' : World} {a : Option Addr} {xs : List Int} {row : Option Nat} (h : IntsAt W a xs) (hg : W.grownBy W' row) (hne : ∀ b, (Value.slice a 0 0).ownBlock = some b → some b ≠ row) : IntsAt W' a xs := by
  intro j hj
  obtain ⟨b, off, rfl, hc⟩ := h j hj
  exact ⟨b, off, rfl, hg.cell hc (hne b rfl)⟩
theorem own_block_any (a : Option Addr) (n c n' c' : Nat) : (Value.slice a n c).ownBlock = (Value.slice a n' c').ownBlock := by cases a <;> rfl

end Go.Proofs.Ytaehhlkpbhmdfaa

namespace Go.Proofs.Ytaehhlkpbhmdfaa
open Go.RowKit

theorem grown_ahead {w w1 w2 : World} {r : Option Nat} (hb : Below w.heap.size w w1) (hg : w1.grownBy w2 r) : w.grownBy w2 r :=
  ⟨hg.os.trans hb.os, hg.tape.trans hb.tape, hg.output.trans hb.output, Nat.le_trans hb.size hg.size, fun k hk hne => (hg.block k (Nat.lt_of_lt_of_le hk hb.size) hne).trans (hb.block k hk)⟩

set_option maxHeartbeats 400000 in
theorem markMatX (n : Int) (g cap : Nat) (zs : List Int) (w : World) (hrow : w.heap[g]? = some (.cells (cellsOf zs) 2 (0, 0))) (hl : zs.length ≤ 1048576) :
    Calls Try.prog 24 #[.agg #[.int .i64 n, .slice (some ⟨g, 0, none⟩) zs.length cap], .int .i64 1] w fun e w' => e = .returned (.int .i64 (1 + (zs.length : Int))) ∧ w.grownBy w' (some g) := by
  have HB0 : Hid (Below w.heap.size w (w.alloc (Obj.cells #[Value.int IntKind.i64 n, Value.slice (some ⟨g, 0, none⟩) zs.length cap] 26))) := (Below.refl _ _).alloc (Nat.le_refl _) _
  have HR : Hid (w.heap[g]? = _) := hrow
  clear hrow
  go_enter Try.func24, Try.ntmps24
  go_wp2_with fail
  refine (markInt64S_any g zs.length cap 1 (cellsOf zs) _ _ (below_row HB0.out (row_lt HR.out) HR.out) (by rw [cellsOf_size]; exact Nat.le_refl _) (by omega) (by omega) (by omega)).mono ?_
  rintro e w1 ⟨rfl, hg, _⟩
  have HG : Hid (w.grownBy w1 (some g)) := grown_ahead HB0.out hg
  clear hg
  go_wp2
  go_ret
  exact ⟨rfl, HG.out⟩

set_option maxHeartbeats 400000 in
theorem markMatO (n : Int) (ad : Option Addr) (K c base : Nat) (xs : List Int) (w : World) (ho : w.ownsRow base 2 1 (.slice ad K c) K (xs.map (Value.int .i64))) (hK : K ≤ 1000) :
    Calls Try.prog 24 #[.agg #[.int .i64 n, .slice ad K c], .int .i64 1] w fun e w' => e = .returned (.int .i64 (1 + (K : Int))) ∧ w.grownBy w' (Value.slice ad K c).ownBlock ∧ Marked1 w' ad K := by
  have HB0 : Hid (Below w.heap.size w (w.alloc (Obj.cells #[Value.int IntKind.i64 n, Value.slice ad K c] 26))) := (Below.refl _ _).alloc (Nat.le_refl _) _
  have HO : Hid (w.ownsRow base 2 1 (.slice ad K c) K (xs.map (Value.int .i64))) := ho
  clear ho
  go_enter Try.func24, Try.ntmps24
  go_wp2_with fail
  refine (markI_o ad K c base xs _ (owns_below HO.out HB0.out) hK).mono ?_
  rintro e w1 ⟨rfl, hg, hm⟩
  have HG : Hid (w.grownBy w1 (Value.slice ad K c).ownBlock) := grown_ahead HB0.out hg
  have HM : Hid (Marked1 w1 ad K) := hm
  clear hg hm
  go_wp2
  go_ret
  exact ⟨rfl, HG.out, HM.out⟩

end Go.Proofs.Ytaehhlkpbhmdfaa
