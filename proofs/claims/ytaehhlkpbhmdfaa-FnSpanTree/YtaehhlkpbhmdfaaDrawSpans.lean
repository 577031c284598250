import Derived.Test.YtaehhlkpbhmdfaaSpanTr0
import Derived.Test.YtaehhlkpbhmdfaaPack13
namespace Go.Proofs.Ytaehhlkpbhmdfaa
open Go.RowKit

/-- While a list of edges is drawn. -/
structure DE (w wr : World) (q : Nat) (a : Option Addr) (bs : List Int) (c m : Nat) (sl : Value) (es : List Int) : Prop where
  b : Below w.heap.size w wr
  r : ∃ p, RD wr q a bs c p
  o : wr.ownsRow (w.heap.size + 1) 32 3 sl m (es.map (Value.int .i64))
theorem DE.read {w wr wr' : World} {q : Nat} {a : Option Addr} {bs : List Int} {c m p : Nat} {sl : Value} {es : List Int} (h : DE w wr q a bs c m sl es) (hq : w.heap.size ≤ q ∧ q < w.heap.size + 1) (hr : RD wr' q a bs c p) (hg : wr.grownBy wr' (some q)) : DE w wr' q a bs c m sl es := ⟨grown_below h.b hq.1 hg, ⟨p, hr⟩, own_rowP h.o hg (fun k e9 e => by cases e9; have := (h.o.lt _ e).1; omega)⟩
/-- A drawn list of edges, told to its caller. -/
def SpansTold (w : World) (e : Ending) (w' : World) : Prop := ∃ (n m : Nat) (la : Option Addr) (lc : Nat) (es : List Int), e = .returned (.tuple #[.int .i64 n, .slice la m lc]) ∧ m ≤ 5 ∧ Below w.heap.size w w' ∧ w'.ownsRow (w.heap.size + 1) 32 3 (.slice la m lc) m (es.map (Value.int .i64)) ∧ es.length = m * 3

theorem RD.grown3 {w W W' : World} {q c p : Nat} {a : Option Addr} {bs : List Int} {row : Option Nat} (h0 : CodeAt w a bs) (h : RD W q a bs c p) (hg : W.grownBy W' row) (hr : ∀ g, row = some g → w.heap.size ≤ g) (hq : some q ≠ row) : RD W' q a bs c p := by
  refine ⟨grown_row hg h.1 hq, h.2.1, fun j hj => ?_, h.2.2.2⟩
  obtain ⟨b, off, e, hne, hc, hv⟩ := h.2.2.1 j hj
  obtain ⟨b', off', e', hc', _⟩ := h0 j hj
  have hb : b < w.heap.size := by
    have := block_lt_of_cell hc'
    rw [e] at e'
    simp at e'
    obtain ⟨rfl, rfl⟩ := e'
    exact this
  exact ⟨b, off, e, hne, hg.cell hc (fun e2 => by have := hr b e2.symm; omega), hv⟩

set_option maxRecDepth 10000 in
set_option maxHeartbeats 4000000 in
theorem drawSpans_any (a : Option Addr) (c : Nat) (bs : List Int) (w : World) (h : CodeAt w a bs) (hl : bs.length ≤ 1048576) :
    Calls Try.prog 12 #[.slice a bs.length c] w (SpansTold w) := by
  have H : Hid (CodeAt w a bs) := h
  clear h
  go_enter Try.func12, Try.ntmps12
  go_wp2_with fail
  refine (l1Open_any a c bs w H.out hl).mono ?_
  rintro e w1 ⟨rfl, hb, hr⟩
  obtain ⟨q, HQ⟩ : ∃ q, Hid (w.heap.size = q) := ⟨_, rfl⟩
  have HQL : Hid (w.heap.size ≤ q ∧ q < w.heap.size + 1) := ⟨by have := HQ.out; omega, by have := HQ.out; omega⟩
  have B1 : Hid (Below w.heap.size w w1) := hb
  have R1 : Hid (RD w1 q a bs c 0) := by have := hr; rw [HQ.out] at this; exact this
  have S1 : Hid (w.heap.size + 1 ≤ w1.heap.size) := by have := row_lt R1.out.1; have := HQL.out; show _ ≤ _; omega
  clear hb hr
  rw [HQ.out]
  go_wp2_with fail
  refine (below_any q 0 c 5 a bs w1 R1.out (by omega)).mono ?_
  rintro e w2 ⟨x, p2, rfl, hx0, hx1, hr, hg⟩
  obtain ⟨x, rfl⟩ := Int.eq_ofNat_of_zero_le hx0
  obtain ⟨n, HN⟩ : ∃ n, Hid (x + 1 = n) := ⟨_, rfl⟩
  have hn1 : 1 ≤ n := by have := HN.out; omega
  have hn5 : n ≤ 5 := by have := HN.out; omega
  have hxn : 1 + (x : Int) = (n : Nat) := by have := HN.out; omega
  have hxw : wrap64 (1 + (x : Int)) = (n : Nat) := by rw [hxn]; unfold wrap64; omega
  have hxw2 : IntKind.i64.wrap (1 + (x : Int)) = (n : Nat) := by rw [hxn, IntKind.wrap_i64]; omega
  have D2 : Hid (DE w (w2.alloc (.cells #[] 32)) q a bs c 0 (.slice (some ⟨w2.heap.size, 0, none⟩) 0 0) []) := by
    have b2 : Below w.heap.size w w2 := grown_below B1.out HQL.out.1 hg
    have ha : Below w2.heap.size w2 (w2.alloc (.cells #[] 32)) := (Below.refl _ _).alloc (Nat.le_refl _) _
    exact ⟨b2.trans (ha.mono b2.size), ⟨p2, hr.below ha⟩, ⟨rfl, .inr ⟨w2.heap.size, 0, #[], rfl, Nat.le_trans S1.out hg.size, heap_alloc_new _ _, Nat.le_refl _, by unfold maxLen; omega, by simp, rfl⟩⟩⟩
  clear hr hg hx0 hx1 B1 R1 S1
  go_wp2_with fail
  clear hxn hxw hxw2
  generalize w2.alloc (.cells #[] 32) = W2 at *
  generalize w2.heap.size = b2 at *
  go_loopw [6, 7, 8] (fun t6 t7 _ wr => ∃ (k : Nat) (es : List Int), k + 1 ≤ n ∧ t7 = .int .i64 ((k + 1 : Nat) : Int) ∧ es.length = k * 3 ∧ DE w wr q a bs c k t6 es) (fun _ t7 _ _ => n - (intOf t7).toNat)
  case atStart => exact ⟨0, [], by omega, rfl, rfl, D2.out⟩
  case round =>
    clear D2
    obtain ⟨k, es, hk, rfl, hes, hD⟩ := hrel
    have DW : Hid (DE w wr q a bs c k u6 es) := hD
    have HES : Hid (es.length = k * 3) := hes
    clear hD hes
    obtain ⟨k1, HK1⟩ : ∃ v, Hid (k + 1 = v) := ⟨_, rfl⟩
    rw [HK1.out] at hk ⊢
    obtain ⟨sa, sc, hu⟩ : ∃ sa sc, u6 = .slice sa k sc := by
      rcases own_kinds DW.out.o with ⟨h1, h2⟩ | ⟨g9, c9, h1, _⟩
      · exact ⟨none, 0, by rw [h1, h2]⟩
      · exact ⟨_, c9, h1⟩
    subst hu
    by_cases hlt : k1 < n
    · have hltI : (k1 : Int) < (n : Int) := by omega
      obtain ⟨p3, hr3⟩ := DW.out.r
      have CB := below_any q p3 c (k1 : Int) a bs wr hr3 (by omega)
      clear hr3
      go_wp2_with fail
      refine CB.mono ?_
      rintro e w3 ⟨x3, p4, rfl, hx30, hx31, hr, hg⟩
      have D3 : Hid (DE w w3 q a bs c k (.slice sa k sc) es) := DW.out.read HQL.out hr hg
      have CO := once_any q p4 c 8 a bs w3 hr (by omega) (by omega)
      clear hr hg CB DW
      go_wp2_with fail
      refine CO.mono ?_
      rintro e w4 ⟨bo, p5, rfl, hr, hg⟩
      have D4 : Hid (DE w w4 q a bs c k (.slice sa k sc) es) := D3.out.read HQL.out hr hg
      have R4 : Hid (RD w4 q a bs c p5) := hr
      clear hr hg CO D3
      cases bo
      · go_wp2_with fail
        have D5 : Hid (DE w w4 q a bs c k (.slice sa k sc) es) := D4.out
        have R5 : Hid (RD w4 q a bs c p5) := R4.out
        clear D4 R4
        generalize w4 = w5 at *
        have CB3 := below_any q p5 c 30 a bs w5 R5.out (by omega)
        go_wp2_with fail
        refine CB3.mono ?_
        rintro e w6 ⟨x6, p7, rfl, hx60, hx61, hr, hg⟩
        have D6 : Hid (DE w w6 q a bs c k (.slice sa k sc) es) := D5.out.read HQL.out hr hg
        clear hr hg CB3 D5 R5
        have OA : Hid ((w6.alloc (.cells #[.int .i64 x3, .int .i64 (k1 : Int), .int .i64 x6] 32)).ownsRow (w.heap.size + 1) 32 3 (.slice sa k sc) k (es.map (Value.int .i64))) := D6.out.o.alloc _
        have VA : Hid ((w6.alloc (.cells #[.int .i64 x3, .int .i64 (k1 : Int), .int .i64 x6] 32)).heap[w6.heap.size]? = some (.cells #[.int .i64 x3, .int .i64 (k1 : Int), .int .i64 x6] 32 (0, 0))) := heap_alloc_new _ _
        have SZ : Hid (w.heap.size + 1 ≤ w6.heap.size) := by obtain ⟨p9, hr9⟩ := D6.out.r; have := row_lt hr9.1; have := HQL.out; show _ ≤ _; omega
        go_wp2_with (
          at_builtin
          refine append_vals Try.underlying28 infoEd rfl (by decide) _ rfl _ _ rfl (w.heap.size + 1) _ k (es.map (Value.int .i64)) rfl OA.out w6.heap.size 0 1 1 [Value.int .i64 x3, .int .i64 (k1 : Int), .int .i64 x6] rfl rfl (cellsE_at _ _ _ _ _ _ VA.out) (by intro u hu; simp only [List.mem_cons, List.not_mem_nil, or_false] at hu; rcases hu with rfl | rfl | rfl <;> rfl) (by have := HK1.out; omega) (by have := HK1.out; omega) (by have := SZ.out; simp; omega) ?_
          intro v4 w9 ho9 hg9 hb9 hz9
          have D9 : Hid (DE w w9 q a bs c (k + 1) v4 (es ++ [x3, (k1 : Int), x6])) := by
            obtain ⟨p9, hr9⟩ := D6.out.r
            have ha : Below w6.heap.size w6 (w6.alloc (.cells #[.int .i64 x3, .int .i64 (k1 : Int), .int .i64 x6] 32)) := (Below.refl _ _).alloc (Nat.le_refl _) _
            have hlo : ∀ b, (Value.slice sa k sc).ownBlock = some b → w.heap.size + 1 ≤ b := fun b e => (D6.out.o.lt b e).1
            exact ⟨(D6.out.b.trans (ha.mono D6.out.b.size)).grown hg9 (Nat.le_trans D6.out.b.size ha.size) (fun g e => by have := hlo g e; omega), ⟨p9, RD.grown3 H.out (hr9.below ha) hg9 (fun g e => by have := hlo g e; omega) (fun e => by have := hlo q e.symm; have := HQL.out; omega)⟩, by rw [List.map_append]; exact ho9⟩
          clear ho9 hg9 hb9 hz9)
        go_roundw
        case rel => exact ⟨k + 1, es ++ [x3, (k1 : Int), x6], by have := HK1.out; omega, by have := HK1.out; go_num, by rw [List.length_append, HES.out]; simp; omega, D9.out⟩
        case measure => have := HK1.out; simp [intOf]; omega
      · have CB2 := below_any q p5 c (n : Int) a bs w4 R4.out (by omega)
        go_wp2_with fail
        refine CB2.mono ?_
        rintro e w5 ⟨x3, p6, rfl, hx30, hx31, hr, hg⟩
        have D5 : Hid (DE w w5 q a bs c k (.slice sa k sc) es) := D4.out.read HQL.out hr hg
        have R5 : Hid (RD w5 q a bs c p6) := hr
        clear hr hg CB2 D4 R4
        go_wp2_with fail
        have CB3 := below_any q p6 c 30 a bs w5 R5.out (by omega)
        go_wp2_with fail
        refine CB3.mono ?_
        rintro e w6 ⟨x6, p7, rfl, hx60, hx61, hr, hg⟩
        have D6 : Hid (DE w w6 q a bs c k (.slice sa k sc) es) := D5.out.read HQL.out hr hg
        clear hr hg CB3 D5 R5
        have OA : Hid ((w6.alloc (.cells #[.int .i64 x3, .int .i64 (k1 : Int), .int .i64 x6] 32)).ownsRow (w.heap.size + 1) 32 3 (.slice sa k sc) k (es.map (Value.int .i64))) := D6.out.o.alloc _
        have VA : Hid ((w6.alloc (.cells #[.int .i64 x3, .int .i64 (k1 : Int), .int .i64 x6] 32)).heap[w6.heap.size]? = some (.cells #[.int .i64 x3, .int .i64 (k1 : Int), .int .i64 x6] 32 (0, 0))) := heap_alloc_new _ _
        have SZ : Hid (w.heap.size + 1 ≤ w6.heap.size) := by obtain ⟨p9, hr9⟩ := D6.out.r; have := row_lt hr9.1; have := HQL.out; show _ ≤ _; omega
        go_wp2_with (
          at_builtin
          refine append_vals Try.underlying28 infoEd rfl (by decide) _ rfl _ _ rfl (w.heap.size + 1) _ k (es.map (Value.int .i64)) rfl OA.out w6.heap.size 0 1 1 [Value.int .i64 x3, .int .i64 (k1 : Int), .int .i64 x6] rfl rfl (cellsE_at _ _ _ _ _ _ VA.out) (by intro u hu; simp only [List.mem_cons, List.not_mem_nil, or_false] at hu; rcases hu with rfl | rfl | rfl <;> rfl) (by have := HK1.out; omega) (by have := HK1.out; omega) (by have := SZ.out; simp; omega) ?_
          intro v4 w9 ho9 hg9 hb9 hz9
          have D9 : Hid (DE w w9 q a bs c (k + 1) v4 (es ++ [x3, (k1 : Int), x6])) := by
            obtain ⟨p9, hr9⟩ := D6.out.r
            have ha : Below w6.heap.size w6 (w6.alloc (.cells #[.int .i64 x3, .int .i64 (k1 : Int), .int .i64 x6] 32)) := (Below.refl _ _).alloc (Nat.le_refl _) _
            have hlo : ∀ b, (Value.slice sa k sc).ownBlock = some b → w.heap.size + 1 ≤ b := fun b e => (D6.out.o.lt b e).1
            exact ⟨(D6.out.b.trans (ha.mono D6.out.b.size)).grown hg9 (Nat.le_trans D6.out.b.size ha.size) (fun g e => by have := hlo g e; omega), ⟨p9, RD.grown3 H.out (hr9.below ha) hg9 (fun g e => by have := hlo g e; omega) (fun e => by have := hlo q e.symm; have := HQL.out; omega)⟩, by rw [List.map_append]; exact ho9⟩
          clear ho9 hg9 hb9 hz9)
        go_roundw
        case rel => exact ⟨k + 1, es ++ [x3, (k1 : Int), x6], by have := HK1.out; omega, by have := HK1.out; go_num, by rw [List.length_append, HES.out]; simp; omega, D9.out⟩
        case measure => have := HK1.out; simp [intOf]; omega
    · have hke : k1 = n := by omega
      subst hke
      have hnl : ¬ ((k1 : Int) < (k1 : Int)) := by omega
      have TOLD : Hid (SpansTold w (.returned (.tuple #[.int .i64 (k1 : Int), .slice sa k sc])) wr) := ⟨k1, k, sa, sc, es, rfl, by have := HK1.out; omega, DW.out.b, DW.out.o, HES.out⟩
      clear DW hlt
      go_wp2
      go_ret2
      exact TOLD.out

end Go.Proofs.Ytaehhlkpbhmdfaa
