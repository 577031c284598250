import Derived.Test.YtplefpmchhcfcaaDrawRoute
import Derived.Test.YtplefpmchhcfcaaPack12
namespace Go.Proofs.Ytplefpmchhcfcaa
open Go.RowKit

/-- Inside the draw of a route that can be driven: the reader, the case in its box, the result's cells, the route in its box, its stops. -/
structure FI (w W : World) (q : Nat) (a : Option Addr) (bs : List Int) (c : Nat) (cs : Array Value) (kb : Nat) (veh : Int) (sl : Value) (L : List Int) : Prop where
  gr : w.grownBy W (some q)
  r0 : ∃ p, RD w q a bs c p
  r : ∃ p, RD W q a bs c p
  bc : W.heap[w.heap.size]? = some (.cells cs 30 (0, 0))
  b0 : W.heap[w.heap.size + 1]? = some (.cells #[.int .i64 0, .slice none 0 0] 32 (0, 0))
  b1 : W.heap[kb]? = some (.cells #[.int .i64 veh, sl] 32 (0, 0))
  hk : w.heap.size + 1 < kb
  o : W.ownsRow (w.heap.size + 2) 2 1 sl L.length (L.map (Value.int .i64))
  d : sl.ownBlock ≠ some kb
  l : L.length ≤ 4
section
variable {w W W' : World} {q : Nat} {a : Option Addr} {bs : List Int} {c : Nat} {cs : Array Value} {kb : Nat} {veh veh' : Int} {sl sl' : Value} {L L' : List Int}
theorem FI.lt (h : FI w W q a bs c cs kb veh sl L) : q < w.heap.size := by
  obtain ⟨p, hr⟩ := h.r0
  exact row_lt hr.1
theorem FI.size (h : FI w W q a bs c cs kb veh sl L) : w.heap.size + 2 ≤ W.heap.size := row_lt h.b0
theorem FI.old {g : Nat} {xs : List Int} (h : FI w W q a bs c cs kb veh sl L) (hi : IntsAt w (some ⟨g, 0, none⟩) xs) (hg : g ≠ q) : IntsAt W (some ⟨g, 0, none⟩) xs := ints_other hi h.gr hg
theorem FI.read {p : Nat} (h : FI w W q a bs c cs kb veh sl L) (hr : RD W' q a bs c p) (hg : W.grownBy W' (some q)) : FI w W' q a bs c cs kb veh sl L := by
  have hl := h.lt
  have hk := h.hk
  exact ⟨grown_trans h.gr hg, h.r0, ⟨p, hr⟩, grown_row hg h.bc (fun e => by injection e with e; omega), grown_row hg h.b0 (fun e => by injection e with e; omega), grown_row hg h.b1 (fun e => by injection e with e; omega), hk, h.o.kept hg (.inr fun e => by have := (h.o.lt q e).1; omega), h.d, h.l⟩
theorem FI.below (h : FI w W q a bs c cs kb veh sl L) (hb : Below W.heap.size W W') : FI w W' q a bs c cs kb veh sl L := by
  obtain ⟨p, hr⟩ := h.r
  exact ⟨grown_more h.gr hb, h.r0, ⟨p, hr.below hb⟩, below_row hb (row_lt h.bc) h.bc, below_row hb (row_lt h.b0) h.b0, below_row hb (row_lt h.b1) h.b1, h.hk, owns_below h.o hb, h.d, h.l⟩
/-- Another route is told in the box. -/
theorem FI.swap (h : FI w W q a bs c cs kb veh sl L) (ho : W.ownsRow (w.heap.size + 2) 2 1 sl' L'.length (L'.map (Value.int .i64))) (hd : sl'.ownBlock ≠ some kb) (hl : L'.length ≤ 4) : FI w ((W.setCell ⟨kb, 0, none⟩ (.int .i64 veh')).setCell ⟨kb, 1, none⟩ sl') q a bs c cs kb veh' sl' L' := by
  obtain ⟨p, hr⟩ := h.r
  obtain ⟨p0, hr0⟩ := h.r0
  have hk := h.hk
  have hsl : ∀ b, some kb = some b → w.heap.size ≤ b := fun b e => by injection e with e; omega
  have hs : W.grownBy ((W.setCell ⟨kb, 0, none⟩ (.int .i64 veh')).setCell ⟨kb, 1, none⟩ sl') (some kb) := grown_trans (grown_set _ _ _ _) (grown_set _ _ _ _)
  refine ⟨grown_own h.gr hs hsl, h.r0, ⟨p, RD.kept2 hr0 hr hs hsl⟩, grown_row hs h.bc (fun e => by injection e with e; omega), grown_row hs h.b0 (fun e => by injection e with e; omega), ?_, hk, ho.kept hs (.inr hd), hd, hl⟩
  have := row_put (i := 1) sl' (row_put (i := 0) (.int .i64 veh') h.b1)
  simpa using this
end
theorem FI.done {w W : World} {q : Nat} {a : Option Addr} {bs : List Int} {c : Nat} {cs : Array Value} {kb : Nat} {veh : Int} {sl : Value} {L : List Int} (h : FI w W q a bs c cs kb veh sl L) (A : Act) (hp : A.tmps.getD 6 undef = .pointer (some ⟨w.heap.size + 1, 0, none⟩)) (hds : A.defers = []) :
    bodyPost Try.prog Try.f28 (RouteDraw w q a bs c) Exit.ret A ((W.setCell ⟨w.heap.size + 1, 0, none⟩ (.int .i64 veh)).setCell ⟨w.heap.size + 1, 1, none⟩ sl) := by
  obtain ⟨p, hr⟩ := h.r
  obtain ⟨p0, hr0⟩ := h.r0
  have hsl : ∀ b, some (w.heap.size + 1) = some b → w.heap.size ≤ b := fun b e => by injection e with e; omega
  have hs : W.grownBy ((W.setCell ⟨w.heap.size + 1, 0, none⟩ (.int .i64 veh)).setCell ⟨w.heap.size + 1, 1, none⟩ sl) (some (w.heap.size + 1)) := grown_trans (grown_set _ _ _ _) (grown_set _ _ _ _)
  have hrow : ((W.setCell ⟨w.heap.size + 1, 0, none⟩ (.int .i64 veh)).setCell ⟨w.heap.size + 1, 1, none⟩ sl).heap[w.heap.size + 1]? = some (.cells #[.int .i64 veh, sl] 32 (0, 0)) := by
    have := row_put (i := 1) sl (row_put (i := 0) (.int .i64 veh) h.b0)
    simpa using this
  refine bodyPost_ret (v := .agg #[.int .i64 veh, sl]) (results_cell_row Try.results28 _ _ (w.heap.size + 1) 32 _ (0, 0) _ hp hrow Try.underlying32 rfl sizeRoute2) hds
    ⟨veh, sl, L, rfl, h.l, grown_own h.gr hs hsl, ⟨p, RD.kept2 hr0 hr hs hsl⟩, owns_base (owns_set (owns_set h.o (by omega)) (by omega)) (by omega)⟩

set_option maxRecDepth 10000 in
set_option maxHeartbeats 4000000 in
theorem fine_any (q p c : Nat) (lst : Nat) (n fi : Int) (g zl cg go ko co gv kv cv : Nat) (zs O V : List Int) (a : Option Addr) (bs : List Int) (w : World) (h : RD w q a bs c p) (hz : IntsAt w (some ⟨g, 0, none⟩) zs) (hO : IntsAt w (some ⟨go, 0, none⟩) O) (hV : IntsAt w (some ⟨gv, 0, none⟩) V) (hg : g ≠ q) (hgo : go ≠ q) (hgv : gv ≠ q) (hlz : zs.length = zl) (hlo : O.length = ko * 6) (hlv : V.length = kv * 5) (hk1 : 1 ≤ ko) (hk2 : ko ≤ 12) (hv1 : 1 ≤ kv) (hv2 : kv ≤ 5) :
    Calls Try.prog 28 #[.pointer (some ⟨q, 0, none⟩), .agg #[.int .i64 n, .slice (some ⟨g, 0, none⟩) zl cg, .slice (some ⟨go, 0, none⟩) ko co, .slice (some ⟨gv, 0, none⟩) kv cv, .int .i64 fi], .int .i64 lst] w (RouteDraw w q a bs c) := by
  have H : Hid (RD w q a bs c p) := h
  have HQ : Hid (q < w.heap.size) := row_lt h.1
  have HLZ : Hid (zs.length = zl) := hlz
  have HLO : Hid (O.length = ko * 6) := hlo
  have HLV : Hid (V.length = kv * 5) := hlv
  have HIZ : Hid (IntsAt w (some ⟨g, 0, none⟩) zs ∧ g ≠ q) := ⟨hz, hg⟩
  have HIO : Hid (IntsAt w (some ⟨go, 0, none⟩) O ∧ go ≠ q) := ⟨hO, hgo⟩
  have HIV : Hid (IntsAt w (some ⟨gv, 0, none⟩) V ∧ gv ≠ q) := ⟨hV, hgv⟩
  have B0 : Hid (Below w.heap.size w ((w.alloc (.cells #[.int .i64 n, .slice (some ⟨g, 0, none⟩) zl cg, .slice (some ⟨go, 0, none⟩) ko co, .slice (some ⟨gv, 0, none⟩) kv cv, .int .i64 fi] 30)).alloc (.cells #[.int .i64 0, .slice none 0 0] 32))) := ((Below.refl _ _).alloc (Nat.le_refl _) _).alloc (by simp) _
  have P0 : Hid (((w.alloc (.cells #[.int .i64 n, .slice (some ⟨g, 0, none⟩) zl cg, .slice (some ⟨go, 0, none⟩) ko co, .slice (some ⟨gv, 0, none⟩) kv cv, .int .i64 fi] 30)).alloc (.cells #[.int .i64 0, .slice none 0 0] 32)).heap[w.heap.size]? = some (.cells #[.int .i64 n, .slice (some ⟨g, 0, none⟩) zl cg, .slice (some ⟨go, 0, none⟩) ko co, .slice (some ⟨gv, 0, none⟩) kv cv, .int .i64 fi] 30 (0, 0))) := heap_alloc2_old _ _ _
  have Q0 : Hid (((w.alloc (.cells #[.int .i64 n, .slice (some ⟨g, 0, none⟩) zl cg, .slice (some ⟨go, 0, none⟩) ko co, .slice (some ⟨gv, 0, none⟩) kv cv, .int .i64 fi] 30)).alloc (.cells #[.int .i64 0, .slice none 0 0] 32)).heap[w.heap.size + 1]? = some (.cells #[.int .i64 0, .slice none 0 0] 32 (0, 0))) := heap_alloc2_new _ _ _
  clear h hz hO hV hg hgo hgv hlo hlv hlz
  -- a route of a world that keeps the rows
  have RTE : Hid (∀ W p', RD W q a bs c p' → w.grownBy W (some q) → Calls Try.prog 57 #[.pointer (some ⟨q, 0, none⟩), .agg #[.int .i64 n, .slice (some ⟨g, 0, none⟩) zl cg, .slice (some ⟨go, 0, none⟩) ko co, .slice (some ⟨gv, 0, none⟩) kv cv, .int .i64 fi]] W (RouteDraw W q a bs c)) := fun W p' hr hgr =>
    route_any q p' c n fi g zl cg go ko co gv kv cv O V a bs W hr (ints_other HIO.out.1 hgr HIO.out.2) (ints_other HIV.out.1 hgr HIV.out.2) HIO.out.2 HIV.out.2 HLO.out HLV.out hk1 hk2 hv1 hv2
  go_enter Try.func28, Try.ntmps28
  obtain ⟨c0, c1, c2, c3, c4⟩ := cells5z P0.out
  go_wp2_with fail
  generalize (w.alloc (.cells #[.int .i64 n, .slice (some ⟨g, 0, none⟩) zl cg, .slice (some ⟨go, 0, none⟩) ko co, .slice (some ⟨gv, 0, none⟩) kv cv, .int .i64 fi] 30)).alloc (.cells #[.int .i64 0, .slice none 0 0] 32) = W0 at *
  refine (RTE.out W0 p (H.out.below B0.out) (grown_more ⟨rfl, rfl, rfl, Nat.le_refl _, fun _ _ _ => rfl⟩ B0.out)).mono ?_
  rintro e w1 ⟨veh, sl, L, rfl, hL, hg, ⟨p1, hr⟩, ho⟩
  have F1 : Hid (FI w (w1.alloc (.cells #[.int .i64 veh, sl] 32)) q a bs c #[.int .i64 n, .slice (some ⟨g, 0, none⟩) zl cg, .slice (some ⟨go, 0, none⟩) ko co, .slice (some ⟨gv, 0, none⟩) kv cv, .int .i64 fi] w1.heap.size veh sl L) := by
    have ha : Below w1.heap.size w1 (w1.alloc (.cells #[.int .i64 veh, sl] 32)) := (Below.refl _ _).alloc (Nat.le_refl _) _
    have hq := HQ.out
    have e0 : w.grownBy W0 (some q) := grown_more ⟨rfl, rfl, rfl, Nat.le_refl _, fun _ _ _ => rfl⟩ B0.out
    have r0 := grown_row hg P0.out (fun e => by injection e with e; omega)
    have r1 := grown_row hg Q0.out (fun e => by injection e with e; omega)
    have hs0 : w.heap.size + 1 < W0.heap.size := row_lt Q0.out
    exact ⟨grown_more (grown_trans e0 hg) ha, ⟨p, H.out⟩, ⟨p1, hr.below ha⟩, below_row ha (row_lt r0) r0, below_row ha (row_lt r1) r1, heap_alloc_new _ _, row_lt r1, owns_below (owns_base ho (by omega)) ha, fun e => by have := (ho.lt _ e).2; omega, hL⟩
  clear hL hg hr ho P0 Q0 c0 c1 c2 c3 c4
  obtain ⟨ao, co2, e⟩ := own_any F1.out.o
  subst e
  go_wp2_with fail
  generalize w1.alloc (.cells #[.int .i64 veh, .slice ao L.length co2] 32) = W1 at *
  obtain ⟨kb, HKB⟩ : ∃ k, Hid (w1.heap.size = k) := ⟨_, rfl⟩
  rw [HKB.out] at F1 ⊢
  go_loopw [8] (fun t wr => ∃ (i : Nat) (veh : Int) (sl : Value) (L : List Int), i ≤ 9 ∧ t = .int .i64 i ∧ FI w wr q a bs c #[.int .i64 n, .slice (some ⟨g, 0, none⟩) zl cg, .slice (some ⟨go, 0, none⟩) ko co, .slice (some ⟨gv, 0, none⟩) kv cv, .int .i64 fi] kb veh sl L) (fun t _ => 9 - (intOf t).toNat)
  case atStart => exact ⟨0, _, _, _, Nat.zero_le _, rfl, F1.out⟩
  case round =>
    clear F1
    obtain ⟨i, veh, sl, L, hi, rfl, hd⟩ := hrel
    obtain ⟨ao, co2, e⟩ := own_any hd.o
    subst e
    have hL4 := hd.l
    obtain ⟨m, HM⟩ : ∃ m, Hid (L.length = m) := ⟨_, rfl⟩
    have F2 : Hid (FI w wr q a bs c #[.int .i64 n, .slice (some ⟨g, 0, none⟩) zl cg, .slice (some ⟨go, 0, none⟩) ko co, .slice (some ⟨gv, 0, none⟩) kv cv, .int .i64 fi] kb veh (.slice ao m co2) L) := by rw [HM.out] at hd; exact hd
    rw [HM.out] at hL4
    clear hd
    have IL2 : Hid (IntsAt wr ao L) := by
      have h := F2.out.o
      obtain ⟨a', c', e, _, hi⟩ := owns_at1 h
      have e2 : ao = a' := by injection e
      rw [e2]; exact hi
    have hcap : m ≤ co2 := by
      have h := F2.out.o
      rw [HM.out] at h
      obtain ⟨_, ⟨h1, h2⟩ | ⟨g', cap, cur, h2, _, _, h3, _⟩⟩ := h
      · omega
      · injection h2 with _ _ e3
        omega
    obtain ⟨ok, HOK⟩ : ∃ b, Hid (decide (codeV (caseB n zs O V ko kv fi) n zs O V ko kv veh L = 0) = b) := ⟨_, rfl⟩
    have LOK : Hid (Calls Try.prog 34 #[.agg #[.int .i64 n, .slice (some ⟨g, 0, none⟩) zl cg, .slice (some ⟨go, 0, none⟩) ko co, .slice (some ⟨gv, 0, none⟩) kv cv, .int .i64 fi], .agg #[.int .i64 veh, .slice ao m co2]] wr fun e w' => e = .returned (.bool ok) ∧ Below wr.heap.size wr w') := by
      have := l3Ok_any n fi veh (some ⟨g, 0, none⟩) (some ⟨go, 0, none⟩) (some ⟨gv, 0, none⟩) ao cg ko co kv cv co2 zs O V L wr (F2.out.old HIZ.out.1 HIZ.out.2) (F2.out.old HIO.out.1 HIO.out.2) (F2.out.old HIV.out.1 HIV.out.2) IL2.out HLO.out HLV.out (by omega) (by omega) (by rw [HM.out]; omega) (by rw [HM.out]; exact hcap) ok HOK.out
      rw [HLZ.out, HM.out] at this
      exact this
    obtain ⟨c0, c1, c2, c3, c4⟩ := cells5z F2.out.bc
    obtain ⟨m0, m1⟩ := cells2 F2.out.b1
    by_cases hlt : i < 9
    · have hiI : (i : Int) < 9 := by omega
      go_upto_region 3 with fail
      go_cut [26] from 12 to 31 (fun s26 wx => ∃ b : Bool, s26 = .bool b ∧ FI w wx q a bs c #[.int .i64 n, .slice (some ⟨g, 0, none⟩) zl cg, .slice (some ⟨go, 0, none⟩) ko co, .slice (some ⟨gv, 0, none⟩) kv cv, .int .i64 fi] kb veh (.slice ao m co2) L)
      case first =>
        by_cases hls : m < lst
        · have hlI : (m : Int) < (lst : Int) := by omega
          go_wp2_with fail
          go_meet
          exact ⟨_, rfl, F2.out⟩
        · have hlI : ¬ (m : Int) < (lst : Int) := by omega
          have hlD : decide ((m : Int) < (lst : Int)) = false := decide_eq_false hlI
          go_wp2_with fail
          refine LOK.out.mono ?_
          rintro e w3 ⟨rfl, hb⟩
          have F3 : Hid (FI w w3 q a bs c #[.int .i64 n, .slice (some ⟨g, 0, none⟩) zl cg, .slice (some ⟨go, 0, none⟩) ko co, .slice (some ⟨gv, 0, none⟩) kv cv, .int .i64 fi] kb veh (.slice ao m co2) L) := F2.out.below hb
          clear hb
          go_wp2_with fail
          go_meet
          exact ⟨_, rfl, F3.out⟩
      case rest =>
        clear F2 IL2 LOK HOK c0 c1 c2 c3 c4 m0 m1
        obtain ⟨b, rfl, hd⟩ := hcut
        have F4 : Hid (FI w wc q a bs c #[.int .i64 n, .slice (some ⟨g, 0, none⟩) zl cg, .slice (some ⟨go, 0, none⟩) ko co, .slice (some ⟨gv, 0, none⟩) kv cv, .int .i64 fi] kb veh (.slice ao m co2) L) := hd
        clear hd
        obtain ⟨c0, c1, c2, c3, c4⟩ := cells5z F4.out.bc
        obtain ⟨m0, m1⟩ := cells2 F4.out.b1
        cases b
        · obtain ⟨b0, b1⟩ := cells2 F4.out.b0
          have bf := fun i => frozen_of_row _ _ i _ _ F4.out.b0
          go_wp2
          exact F4.out.done _ (by rfl) (by rfl)
        · obtain ⟨p4, hr4⟩ := F4.out.r
          go_wp2_with fail
          refine (RTE.out wc p4 hr4 F4.out.gr).mono ?_
          rintro e w5 ⟨veh', sl', L', rfl, hL', hg, ⟨p5, hr⟩, ho⟩
          obtain ⟨ao', co', e⟩ := own_any ho
          subst e
          have hsz := F4.out.size
          have hkl := row_lt F4.out.b1
          have F5 : Hid (FI w w5 q a bs c #[.int .i64 n, .slice (some ⟨g, 0, none⟩) zl cg, .slice (some ⟨go, 0, none⟩) ko co, .slice (some ⟨gv, 0, none⟩) kv cv, .int .i64 fi] kb veh (.slice ao m co2) L) := F4.out.read hr hg
          have F6 : Hid (FI w ((w5.setCell ⟨kb, 0, none⟩ (.int .i64 veh')).setCell ⟨kb, 1, none⟩ (.slice ao' L'.length co')) q a bs c #[.int .i64 n, .slice (some ⟨g, 0, none⟩) zl cg, .slice (some ⟨go, 0, none⟩) ko co, .slice (some ⟨gv, 0, none⟩) kv cv, .int .i64 fi] kb veh' (.slice ao' L'.length co') L') := F5.out.swap (owns_base ho (by omega)) (fun e => by have := (ho.lt _ e).1; omega) hL'
          clear hL' hg hr ho hsz hkl F4 hr4 c0 c1 c2 c3 c4 m0 m1
          obtain ⟨m0, m1⟩ := cells2 F5.out.b1
          have mf := fun i => frozen_of_row _ _ i _ _ F5.out.b1
          go_wp2
          go_roundw
          case rel => exact ⟨i + 1, _, _, L', by omega, by first | rfl | go_num, F6.out⟩
          case measure => simp [intOf]; omega
    · have hiI : ¬ (i : Int) < 9 := by omega
      have hiD : decide ((i : Int) < 9) = false := decide_eq_false hiI
      obtain ⟨b0, b1⟩ := cells2 F2.out.b0
      have bf := fun i => frozen_of_row _ _ i _ _ F2.out.b0
      go_wp2
      exact F2.out.done _ (by rfl) (by rfl)

theorem fine_at (q p c : Nat) (lst : Nat) (li : Int) (hli : (lst : Int) = li) (n fi : Int) (g zl cg go ko co gv kv cv : Nat) (zs O V : List Int) (a : Option Addr) (bs : List Int) (w : World) (h : RD w q a bs c p) (hz : IntsAt w (some ⟨g, 0, none⟩) zs) (hO : IntsAt w (some ⟨go, 0, none⟩) O) (hV : IntsAt w (some ⟨gv, 0, none⟩) V) (hg : g ≠ q) (hgo : go ≠ q) (hgv : gv ≠ q) (hlz : zs.length = zl) (hlo : O.length = ko * 6) (hlv : V.length = kv * 5) (hk1 : 1 ≤ ko) (hk2 : ko ≤ 12) (hv1 : 1 ≤ kv) (hv2 : kv ≤ 5) :
    Calls Try.prog 28 #[.pointer (some ⟨q, 0, none⟩), .agg #[.int .i64 n, .slice (some ⟨g, 0, none⟩) zl cg, .slice (some ⟨go, 0, none⟩) ko co, .slice (some ⟨gv, 0, none⟩) kv cv, .int .i64 fi], .int .i64 li] w (RouteDraw w q a bs c) := by
  subst hli
  exact fine_any q p c lst n fi g zl cg go ko co gv kv cv zs O V a bs w h hz hO hV hg hgo hgv hlz hlo hlv hk1 hk2 hv1 hv2

end Go.Proofs.Ytplefpmchhcfcaa
