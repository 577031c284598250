import Derived.Test.YtaehhlkpbhmdfaaPack0
import Derived.Test.YtaehhlkpbhmdfaaPack1
import Derived.Test.YtaehhlkpbhmdfaaPack2
import Derived.Test.YtaehhlkpbhmdfaaPack3
import Derived.Test.YtaehhlkpbhmdfaaPack7
namespace Go.Proofs.Ytaehhlkpbhmdfaa
open Go.RowKit

/-- A reader that was there stays where a block of the call's own changes. -/
theorem RD.kept2 {w W W' : World} {q c p p0 : Nat} {a : Option Addr} {bs : List Int} {row : Option Nat} (h0 : RD w q a bs c p0) (h : RD W q a bs c p) (hg : W.grownBy W' row) (hr : ∀ g, row = some g → w.heap.size ≤ g) : RD W' q a bs c p := by
  have hq : q < w.heap.size := row_lt h0.1
  refine ⟨grown_row hg h.1 (fun e => by have := hr q e.symm; omega), h.2.1, fun j hj => ?_, h.2.2.2⟩
  obtain ⟨b, off, e, hne, hc, hv⟩ := h.2.2.1 j hj
  obtain ⟨b', off', e', _, hc', _⟩ := h0.2.2.1 j hj
  have hb : b < w.heap.size := by
    have := block_lt_of_cell hc'
    rw [e] at e'
    simp at e'
    obtain ⟨rfl, rfl⟩ := e'
    exact this
  exact ⟨b, off, e, hne, hg.cell hc (fun e2 => by have := hr b e2.symm; omega), hv⟩
theorem grown_own {w W W' : World} {q : Nat} {row : Option Nat} (h : w.grownBy W (some q)) (hg : W.grownBy W' row) (hr : ∀ g, row = some g → w.heap.size ≤ g) : w.grownBy W' (some q) :=
  ⟨hg.os.trans h.os, hg.tape.trans h.tape, hg.output.trans h.output, Nat.le_trans h.size hg.size, fun k hk hne => (hg.block k (Nat.lt_of_lt_of_le hk h.size) (fun e => by have := hr k e.symm; omega)).trans (h.block k hk hne)⟩

theorem grown_alloc0 (W : World) (o : Obj) : W.grownBy (W.alloc o) none := ⟨rfl, rfl, rfl, by simp, fun k hk _ => heap_alloc_old _ _ hk⟩

/-- With a reader that was there: a list of the call's own that grows. -/
structure CL (w W : World) (q : Nat) (a : Option Addr) (bs : List Int) (c : Nat) (ov : Value) (O : List Int) : Prop where
  g : w.grownBy W (some q)
  r0 : ∃ p, RD w q a bs c p
  r : ∃ p, RD W q a bs c p
  o : W.ownsRow w.heap.size 2 1 ov O.length (O.map (Value.int .i64))
  so : ∃ g cg, ov = .slice (some ⟨g, 0, none⟩) O.length cg
theorem CL.lt {w W : World} {q : Nat} {a : Option Addr} {bs : List Int} {c : Nat} {ov : Value} {O : List Int} (h : CL w W q a bs c ov O) : q < w.heap.size := by
  obtain ⟨p, hr⟩ := h.r0
  exact row_lt hr.1
theorem CL.new {w : World} {q : Nat} {a : Option Addr} {bs : List Int} {c p : Nat} (h : RD w q a bs c p) : CL w (w.alloc (.cells #[] 2)) q a bs c (.slice (some ⟨w.heap.size, 0, none⟩) 0 0) [] :=
  ⟨grown_alloc w _ q, ⟨p, h⟩, ⟨p, h.below ((Below.refl _ _).alloc (Nat.le_refl _) _)⟩, World.ownsRow_made w #[] 0 (Nat.le_refl _) (by unfold maxLen; omega) (by simp), ⟨_, _, rfl⟩⟩
theorem CL.read {w W W' : World} {q : Nat} {a : Option Addr} {bs : List Int} {c p : Nat} {ov : Value} {O : List Int} (h : CL w W q a bs c ov O) (hr : RD W' q a bs c p) (hg : W.grownBy W' (some q)) : CL w W' q a bs c ov O :=
  ⟨grown_trans h.g hg, h.r0, ⟨p, hr⟩, h.o.kept hg (.inr fun e => by have := (h.o.lt q e).1; have := h.lt; omega), h.so⟩
theorem CL.put {w W w4 : World} {q : Nat} {a : Option Addr} {bs : List Int} {c : Nat} {ov ov' : Value} {O : List Int} {x : Int} {o : Obj} (h : CL w W q a bs c ov O) (hown : w4.ownsRow w.heap.size 2 1 ov' (O.length + 1) ((O ++ [x]).map (Value.int .i64))) (hg : (W.alloc o).grownBy w4 ov.ownBlock) (hn : ov' = .slice none 0 0 ↔ ov = .slice none 0 0 ∧ 1 = 0) : CL w w4 q a bs c ov' (O ++ [x]) := by
  obtain ⟨p, hr⟩ := h.r
  obtain ⟨p0, hr0⟩ := h.r0
  have hlt : ∀ g, ov.ownBlock = some g → w.heap.size ≤ g := fun g e => (h.o.lt g e).1
  refine ⟨grown_own (grown_own h.g (grown_alloc0 W o) (fun g e => by cases e)) hg hlt, h.r0, ⟨p, ?_⟩, ?_, ?_⟩
  · exact RD.kept2 hr0 (hr.below ((Below.refl _ _).alloc (Nat.le_refl _) _)) hg hlt
  · rw [List.length_append]; exact hown
  · rw [List.length_append]
    obtain ⟨g, cg, e⟩ := h.so
    exact own_sm hown (not_nil hn ⟨g, _, cg, e⟩)
theorem CL.set {w W : World} {q g n cg : Nat} {a : Option Addr} {bs : List Int} {c : Nat} {O : List Int} (h : CL w W q a bs c (.slice (some ⟨g, 0, none⟩) n cg) O) (hn : O.length = n) {j : Nat} (hj : j < n) (v : Int) : CL w (W.setCell ⟨g, j, none⟩ (.int .i64 v)) q a bs c (.slice (some ⟨g, 0, none⟩) n cg) (O.set j v) := by
  obtain ⟨p, hr⟩ := h.r
  obtain ⟨p0, hr0⟩ := h.r0
  have hlt : ∀ k, some g = some k → w.heap.size ≤ k := fun k e => by injection e with e; subst e; exact (h.o.lt g rfl).1
  refine ⟨grown_own h.g (grown_set W g j _) hlt, h.r0, ⟨p, RD.kept2 hr0 hr (grown_set W g j _) hlt⟩, ?_, ⟨g, cg, by rw [List.length_set, hn]⟩⟩
  have ho := h.o
  rw [hn] at ho
  rw [List.length_set, hn]
  exact own_put v ho hj

end Go.Proofs.Ytaehhlkpbhmdfaa

namespace Go.Proofs.Ytaehhlkpbhmdfaa
open Go.RowKit

/-- The places that are in, as the model's list of numbers. -/
def numL (l : List Nat) : List Int := l.map fun (p : Nat) => (p : Int)
theorem numL_length (l : List Nat) : (numL l).length = l.length := by simp [numL]
theorem numL_get (l : List Nat) (j : Nat) (h : j < l.length) : (numL l).getD j 0 = (l[j] : Nat) := by simp [numL, List.getD, h]
theorem has_num (l : List Nat) (p : Nat) : hasTo (numL l) l.length (p : Int) = decide (p ∈ l) := by
  by_cases h : p ∈ l
  · obtain ⟨j, hj, e⟩ := List.getElem_of_mem h
    rw [hasTo_yes hj (by rw [numL_get l j hj, e])]
    simp [h]
  · rw [hasTo_no (fun j hj => by
      rw [numL_get l j hj]
      intro e
      have e' : l[j] = p := by omega
      exact h (e' ▸ List.getElem_mem hj))]
    simp [h]
/-- What is known of the places that are in. -/
def inOk (n : Nat) (es : List Int) (l : List Nat) : Prop := l.Nodup ∧ (∀ x ∈ l, x < n) ∧ 0 ∈ l ∧ ∀ T : Nat → Prop, shut (endA es) (endB es) (n - 1) T → T 0 → ∀ x ∈ l, T x
theorem inOk_one {n : Nat} (es : List Int) (h : 1 ≤ n) : inOk n es [0] := by
  refine ⟨by simp, by simp; omega, by simp, fun T _ h0 x hx => ?_⟩
  have : x = 0 := by simpa using hx
  rw [this]; exact h0
theorem inOk_add {n k : Nat} {es : List Int} {l : List Nat} (h : inOk n es l) (hk : k < n - 1) {x y : Nat} (hxy : (x = endA es k ∧ y = endB es k) ∨ (x = endB es k ∧ y = endA es k)) (hx : x ∈ l) (hy : y ∉ l) (hyn : y < n) : inOk n es (l ++ [y]) := by
  obtain ⟨h1, h2, h3, h4⟩ := h
  refine ⟨?_, ?_, by simp [h3], ?_⟩
  · rw [List.nodup_append]
    refine ⟨h1, by simp, fun a ha b hb => ?_⟩
    have : b = y := by simpa using hb
    rw [this]
    exact fun e => hy (e ▸ ha)
  · intro z hz
    rcases List.mem_append.1 hz with hz | hz
    · exact h2 z hz
    · have : z = y := by simpa using hz
      rw [this]; exact hyn
  · intro T hT h0 z hz
    rcases List.mem_append.1 hz with hz | hz
    · exact h4 T hT h0 z hz
    · have : z = y := by simpa using hz
      rw [this]
      have tx := h4 T hT h0 x hx
      rcases hxy with ⟨rfl, rfl⟩ | ⟨rfl, rfl⟩
      · exact (hT k hk).1 tx
      · exact (hT k hk).2 tx
theorem inOk_len {n : Nat} {es : List Int} {l : List Nat} (h : inOk n es l) : l.length ≤ n := nodup_len n l h.1 h.2.1
theorem inOk_more {n y : Nat} {es : List Int} {l : List Nat} (h : inOk n es l) (hy : y ∉ l) (hyn : y < n) : l.length < n := nodup_miss h.1 h.2.1 hyn hy
/-- The edges are of the n places. -/
def edgesTo (n : Int) (es : List Int) (k : Nat) : Prop := ∀ j, j < k → inB (og3 es j 0) 0 (n - 1) = true ∧ inB (og3 es j 1) 0 (n - 1) = true
theorem edgesTo_step {n : Int} {es : List Int} {k : Nat} (h : edgesTo n es k) (h1 : inB (og3 es k 0) 0 (n - 1) = true) (h2 : inB (og3 es k 1) 0 (n - 1) = true) : edgesTo n es (k + 1) := by
  intro j hj
  by_cases e : j = k
  · rw [e]; exact ⟨h1, h2⟩
  · exact h j (by omega)
/-- The edges up to k have both ends in, or none. -/
def evenTo (es : List Int) (l : List Nat) (k : Nat) : Prop := ∀ j, j < k → (endA es j ∈ l ↔ endB es j ∈ l)
theorem evenTo_step {es : List Int} {l : List Nat} {k : Nat} (h : evenTo es l k) (h1 : endA es k ∈ l ↔ endB es k ∈ l) : evenTo es l (k + 1) := by
  intro j hj
  by_cases e : j = k
  · rw [e]; exact h1
  · exact h j (by omega)
/-- At the end the model's answer is the program's. -/
theorem span_end {n m : Nat} {es : List Int} {l : List Nat} (h1 : 1 ≤ n) (h2 : n ≤ 16) (hm : m + 1 = n) (hI : inOk n es l) (hE : edgesTo n es m) (hV : evenTo es l m) : decide (((l.length : Nat) : Int) = (n : Int)) = spanB n es m := by
  have hm' : n - 1 = m := by omega
  have eA : ∀ k, k < n - 1 → endA es k < n := fun k hk => (place_nat (hE k (by omega)).1).2
  have eB : ∀ k, k < n - 1 → endB es k < n := fun k hk => (place_nat (hE k (by omega)).2).2
  have hsh : shut (endA es) (endB es) (n - 1) (fun p => p ∈ l) := fun k hk => hV k (by omega)
  cases hs : spanB n es m
  · apply decide_eq_false
    intro e
    have hno : ¬ ∀ k, k < m → joins (endA es) (endB es) k := fun h => by
      rw [spanB_yes (by omega) (by omega) (by omega) (fun j hj => ⟨(hE j hj).1, (hE j hj).2, h j hj⟩)] at hs
      cases hs
    obtain ⟨j, hj⟩ := Classical.not_forall.1 hno
    obtain ⟨hj1, hj2⟩ := Classical.not_imp.1 hj
    obtain ⟨T, hT, h0, p, hp, hnp⟩ := shut_some eA eB (show j < n - 1 by omega) hj2
    have := inOk_more hI (fun x => hnp (hI.2.2.2 T hT h0 p x)) hp
    omega
  · apply decide_eq_true
    have hsp := spanB_true hs
    have := nodup_full hI.1 hI.2.1 (fun p hp => shut_all (by omega) eA eB (fun k hk => (hsp k (by omega)).2.2) hsh hI.2.2.1 hp)
    omega

theorem append_num (l : List Nat) (y : Nat) : (numL l).map (Value.int .i64) ++ [Value.int .i64 (y : Int)] = (numL (l ++ [y])).map (Value.int .i64) := by simp [numL]

set_option maxHeartbeats 400000 in
theorem l9One_any (ad : Option Addr) (m cap : Nat) (x y : Int) (zs : List Int) (w : World) (v : Bool) (hv : hasTo zs m x = v) (hA : IntsAt w ad zs) (hm : m ≤ zs.length) (hlen : m ≤ 9223372036854775807) :
    Calls Try.prog 40 #[.slice ad m cap, .int .i64 x, .int .i64 y] w fun e w' => e = .returned (.int .i64 (if v = true then x else y)) ∧ w' = w := by
  have HA : Hid (IntsAt w ad zs) := hA
  have HV : Hid (hasTo zs m x = v) := hv
  clear hA hv
  cases v
  · go_enter Try.func40, Try.ntmps40
    go_wp2_with (go_at_call 32; refine (l3Has_is _ m _ _ zs _ false HV.out HA.out hm hlen).mono ?_; rintro e w' ⟨rfl, rfl⟩)
    go_ret
    exact ⟨by simp, rfl⟩
  · go_enter Try.func40, Try.ntmps40
    go_wp2_with (go_at_call 32; refine (l3Has_is _ m _ _ zs _ true HV.out HA.out hm hlen).mono ?_; rintro e w' ⟨rfl, rfl⟩)
    go_ret
    exact ⟨by simp, rfl⟩

theorem l9One_is (ad : Option Addr) (m cap : Nat) (x y : Int) (zs : List Int) (w : World) (v : Bool) (z : Int) (hz : (if v = true then x else y) = z) (hv : hasTo zs m x = v) (hA : IntsAt w ad zs) (hm : m ≤ zs.length) (hlen : m ≤ 9223372036854775807) :
    Calls Try.prog 40 #[.slice ad m cap, .int .i64 x, .int .i64 y] w fun e w' => e = .returned (.int .i64 z) ∧ w' = w := hz ▸ l9One_any ad m cap x y zs w v hv hA hm hlen

set_option maxHeartbeats 400000 in
theorem specSpans_out (n : Int) (a : Option Addr) (m cap : Nat) (w : World) (h : ¬ (1 ≤ n ∧ n ≤ 16 ∧ (m : Int) = n - 1)) :
    Calls Try.prog 14 #[.int .i64 n, .slice a m cap] w fun e w' => e = .returned (.bool false) ∧ Below w.heap.size w w' := by
  by_cases hn : 1 ≤ n ∧ n ≤ 16
  · have hd1 : inB n 1 16 = true := inB_mk hn
    have hne : ((m : Int) != n - 1) = true := by rw [bne_iff_ne]; exact fun e => h ⟨hn.1, hn.2, e⟩
    clear h
    go_enter Try.func14, Try.ntmps14
    go_wp2_with (go_at_call 39; refine (l1In_any _ _ _ _).mono ?_; rintro e w' ⟨rfl, rfl⟩)
    go_ret
    exact ⟨rfl, Below.refl _ _⟩
  · have hd1 : inB n 1 16 = false := inB_not hn
    clear h hn
    go_enter Try.func14, Try.ntmps14
    go_wp2_with (go_at_call 39; refine (l1In_any _ _ _ _).mono ?_; rintro e w' ⟨rfl, rfl⟩)
    go_ret
    exact ⟨rfl, Below.refl _ _⟩

/-- The length of a slice, and a truth as a number. -/
def sliceLen : Value → Nat
  | .slice _ n _ => n
  | _ => 0
def truthNum : Value → Nat
  | .bool true => 1
  | _ => 0
/-- The list that is in, in the model's own memory. -/
def SL (w W : World) (sl : Value) (l : List Nat) : Prop := W.ownsRow w.heap.size 2 1 sl l.length ((numL l).map (Value.int .i64)) ∧ Below w.heap.size w W

theorem SL.o {w W : World} {sl : Value} {l : List Nat} (h : SL w W sl l) : W.ownsRow w.heap.size 2 1 sl l.length ((numL l).map (Value.int .i64)) := h.1
theorem SL.b {w W : World} {sl : Value} {l : List Nat} (h : SL w W sl l) : Below w.heap.size w W := h.2
theorem SL.shape {w W : World} {sl : Value} {l : List Nat} (h : SL w W sl l) (h0 : 0 < l.length) : ∃ g c, sl = .slice (some ⟨g, 0, none⟩) l.length c := by
  rcases own_shape h.o with e | e
  · obtain ⟨_, ⟨_, h3⟩ | ⟨g, cap, cur, h2, _⟩⟩ := h.1
    · omega
    · exact ⟨g, cap, h2⟩
  · exact e
theorem SL.grown {w W W' : World} {v v' : Value} {l : List Nat} {o : Obj} {y : Nat} {x0 : Int} (ho : W.ownsRow w.heap.size 2 1 v l.length ((numL l).map (Value.int .i64))) (hb : Below w.heap.size w W) (h : W'.ownsRow w.heap.size 2 1 v' (l.length + 1) ((numL l).map (Value.int .i64) ++ [.int .i64 x0])) (hg : (W.alloc o).grownBy W' v.ownBlock) (hx : x0 = (y : Int)) : SL w W' v' (l ++ [y]) := by
  subst hx
  refine ⟨?_, ?_⟩
  · rw [append_num] at h
    rw [List.length_append]
    exact h
  · have hA : Below w.heap.size w (W.alloc o) := hb.alloc hb.size _
    exact hA.grown hg hA.size (fun k e => (ho.lt k e).1)

theorem bool_dec (x y : Int) : (x == y) = decide (x = y) := by by_cases h : x = y <;> simp [h]

set_option maxHeartbeats 2000000 in
theorem specSpans_loop (n m : Nat) (a : Option Addr) (cap : Nat) (es : List Int) (w : World) (h1 : 1 ≤ n) (h2 : n ≤ 16) (hm : m + 1 = n) (hl : es.length = m * 3) (hA : IntsAt w a es) :
    Calls Try.prog 14 #[.int .i64 n, .slice a m cap] w fun e w' => e = .returned (.bool (spanB n es m)) ∧ Below w.heap.size w w' := by
  obtain ⟨r, HR⟩ : ∃ r, Hid (spanB n es m = r) := ⟨_, rfl⟩
  rw [HR.out]
  have hd1 : inB (n : Int) 1 16 = true := inB_mk (by omega)
  have hne : ((m : Int) != (n : Int) - 1) = false := by rw [bne_eq_false_iff_eq]; omega
  have HA : Hid (IntsAt w a es) := hA
  have HL : Hid (es.length = m * 3) := hl
  clear hA hl
  go_enter Try.func14, Try.ntmps14
  go_wp2_with (go_at_call 39; refine (l1In_any _ _ _ _).mono ?_; rintro e w' ⟨rfl, hw'⟩; subst w')
  clear hne hd1
  go_loopw [5, 6] (fun sl mo wr => ∃ (l : List Nat) (b : Bool), mo = .bool b ∧ SL w wr sl l ∧ inOk n es l ∧ (b = false → edgesTo n es m ∧ evenTo es l m)) (fun sl mo _ => 2 * (n + 1 - sliceLen sl) + truthNum mo)
  case atStart =>
    refine ⟨[0], true, rfl, ⟨?_, (Below.refl _ _).alloc (Nat.le_refl _) _⟩, inOk_one es h1, fun h => by cases h⟩
    exact ⟨by simp [numL], .inr ⟨w.heap.size, 1, #[.int .i64 0], rfl, Nat.le_refl _, heap_alloc_new _ _, by simp, by unfold maxLen; omega, by simp, by simp [numL]⟩⟩
  case round =>
    obtain ⟨l, b, rfl, hs, hi, hbe⟩ := hrel
    have hl0 : 0 < l.length := List.length_pos_of_mem hi.2.2.1
    have hln := inOk_len hi
    obtain ⟨g, c, rfl⟩ := hs.shape hl0
    have S1 : Hid (SL w wr (.slice (some ⟨g, 0, none⟩) l.length c) l) := hs
    have I1 : Hid (inOk n es l) := hi
    have E1 : Hid (b = false → edgesTo n es m ∧ evenTo es l m) := hbe
    clear hs hi hbe
    cases b
    · have heb : ((l.length : Int) == (n : Int)) = r := by
        rw [bool_dec, span_end h1 h2 hm I1.out (E1.out rfl).1 (E1.out rfl).2]; exact HR.out
      go_wp2
      go_ret
      exact ⟨rfl, S1.out.b⟩
    · go_wp2_with fail
      go_loopw [5, 6, 7] (fun sl mo t wr => ∃ (l2 : List Nat) (b2 : Bool) (k : Nat), k ≤ m ∧ t = .int .i64 k ∧ mo = .bool b2 ∧ SL w wr sl l2 ∧ inOk n es l2 ∧ edgesTo n es k ∧ (b2 = false → evenTo es l2 k ∧ l2 = l) ∧ (b2 = true → l.length < l2.length) ∧ l.length ≤ l2.length) (fun _ _ t _ => m - (intOf t).toNat)
      case atStart => exact ⟨l, false, 0, Nat.zero_le _, rfl, rfl, S1.out, I1.out, fun j hj => by omega, (fun _ => ⟨fun j hj => by omega, rfl⟩), (fun h => by cases h), Nat.le_refl _⟩
      case round =>
        clear S1 I1 E1
        obtain ⟨l2, b2, k, hk, rfl, rfl, hs, hi, hed, hev, hle, hle2⟩ := hrel
        have hl0' : 0 < l2.length := List.length_pos_of_mem hi.2.2.1
        have hln2 := inOk_len hi
        obtain ⟨g2, c2, rfl⟩ := hs.shape hl0'
        have S2 : Hid (SL w wr (.slice (some ⟨g2, 0, none⟩) l2.length c2) l2) := hs
        have I2 : Hid (inOk n es l2) := hi
        have D2 : Hid (edgesTo n es k) := hed
        have E2 : Hid (b2 = false → evenTo es l2 k ∧ l2 = l) := hev
        have L2 : Hid (b2 = true → l.length < l2.length) := hle
        have LE2 : Hid (l.length ≤ l2.length) := hle2
        clear hs hi hed hev hle hle2
        by_cases hlt : k < m
        · obtain ⟨bb, off, rfl, hcs⟩ := IntsAt.some (HA.out.below S2.out.b) (j := k * 3) (by rw [HL.out]; omega)
          obtain ⟨ca, cb, ct⟩ := row3_at hcs HL.out k hlt
          clear hcs ct
          have HEA : Hid (endA es k = (og3 es k 0).toNat) := rfl
          have HEB : Hid (endB es k = (og3 es k 1).toNat) := rfl
          have HBAD : Hid (¬ (inB (og3 es k 0) 0 ((n : Int) - 1) = true ∧ inB (og3 es k 1) 0 ((n : Int) - 1) = true) → r = false) := fun h => HR.out.symm.trans (spanB_bad hlt (fun x => h ⟨x.1, x.2.1⟩))
          have HSTEP : Hid (inB (og3 es k 0) 0 ((n : Int) - 1) = true → inB (og3 es k 1) 0 ((n : Int) - 1) = true → edgesTo n es (k + 1)) := fun x y => edgesTo_step D2.out x y
          obtain ⟨x, H0⟩ : ∃ t, Hid (og3 es k 0 = t) := ⟨_, rfl⟩
          obtain ⟨y, H1⟩ : ∃ t, Hid (og3 es k 1 = t) := ⟨_, rfl⟩
          rw [H0.out] at ca HEA HBAD HSTEP
          rw [H1.out] at cb HEB HBAD HSTEP
          cases hin : inB x 0 ((n : Int) - 1)
          · have HV : Hid (r = false) := HBAD.out (by rw [hin]; simp)
            go_wp2_with (go_at_call 39; refine (l1In_any _ _ _ _).mono ?_; rintro e w' ⟨rfl, hw'⟩; subst w')
            go_ret
            exact ⟨ret_bool HV.out.symm, S2.out.b⟩
          · cases hiny : inB y 0 ((n : Int) - 1)
            · have HV : Hid (r = false) := HBAD.out (by rw [hiny]; simp)
              go_wp2_with (go_at_call 39; refine (l1In_any _ _ _ _).mono ?_; rintro e w' ⟨rfl, hw'⟩; subst w')
              go_ret
              exact ⟨ret_bool HV.out.symm, S2.out.b⟩
            · have HED : Hid (edgesTo n es (k + 1)) := HSTEP.out hin hiny
              obtain ⟨px1, px2⟩ := place_nat hin
              obtain ⟨py1, py2⟩ := place_nat hiny
              have HXA : Hid (endA es k = x.toNat) := HEA.out
              have HYB : Hid (endB es k = y.toNat) := HEB.out
              clear HSTEP HBAD HEA HEB
              obtain ⟨xn, HXN⟩ : ∃ c, Hid (x.toNat = c) := ⟨_, rfl⟩
              obtain ⟨yn, HYN⟩ : ∃ c, Hid (y.toNat = c) := ⟨_, rfl⟩
              rw [HXN.out] at px1 px2 HXA
              rw [HYN.out] at py1 py2 HYB
              clear HXN HYN
              subst px1 py1
              have HIN : Hid (IntsAt wr (some ⟨g2, 0, none⟩) (numL l2)) := owns_ints S2.out.o
              have HLE : Hid (l2.length ≤ (numL l2).length) := by rw [numL_length]; exact Nat.le_refl _
              have hlb : l2.length ≤ 9223372036854775807 := by omega
              by_cases hx : xn ∈ l2
              · have HHX : Hid (hasTo (numL l2) l2.length (xn : Int) = true) := by show _ = _; rw [has_num]; simp [hx]
                by_cases hy : yn ∈ l2
                · have HHY : Hid (hasTo (numL l2) l2.length (yn : Int) = true) := by show _ = _; rw [has_num]; simp [hy]
                  have HIFF : Hid (xn ∈ l2 ↔ yn ∈ l2) := ⟨fun _ => hy, fun _ => hx⟩
                  clear hx hy
                  have HEV : Hid (b2 = false → evenTo es l2 (k + 1) ∧ l2 = l) := fun h => ⟨evenTo_step (E2.out h).1 (by rw [HXA.out, HYB.out]; exact HIFF.out), (E2.out h).2⟩
                  go_wp2_with (first
                    | (go_at_call 39; refine (l1In_any _ _ _ _).mono ?_; rintro e w' ⟨rfl, hw'⟩; subst w')
                    | (go_at_call 32; with_reducible refine (l3Has_is _ _ _ (xn : Int) _ _ _ HHX.out HIN.out HLE.out hlb).mono ?_; rintro e w' ⟨rfl, hw'⟩; subst w')
                    | (go_at_call 32; with_reducible refine (l3Has_is _ _ _ (yn : Int) _ _ _ HHY.out HIN.out HLE.out hlb).mono ?_; rintro e w' ⟨rfl, hw'⟩; subst w'))
                  refine ⟨⟨l2, b2, k + 1, by omega, by go_num, rfl, S2.out, I2.out, HED.out, HEV.out, L2.out, LE2.out⟩, by simp [intOf]; omega⟩
                · have HHY : Hid (hasTo (numL l2) l2.length (yn : Int) = false) := by show _ = _; rw [has_num]; simp [hy]
                  have MI : Hid (xn ∈ l2) := hx
                  have MO : Hid (yn ∉ l2) := hy
                  clear hx hy
                  have HN : Hid (inOk n es (l2 ++ [yn])) := inOk_add I2.out (k := k) (by omega) (Or.inl ⟨HXA.out.symm, HYB.out.symm⟩) MI.out MO.out py2
                  have hlt2 : l2.length < n := inOk_more I2.out MO.out py2
                  have HOW : Hid (wr.ownsRow w.heap.size 2 1 (.slice (some ⟨g2, 0, none⟩) l2.length c2) l2.length ((numL l2).map (Value.int .i64))) := S2.out.o
                  have HBL : Hid (Below w.heap.size w wr) := S2.out.b
                  go_wp2_with (first
                    | (go_at_call 39; refine (l1In_any _ _ _ _).mono ?_; rintro e w' ⟨rfl, hw'⟩; subst w')
                    | (go_at_call 32; with_reducible refine (l3Has_is _ _ _ (xn : Int) _ _ _ HHX.out HIN.out HLE.out hlb).mono ?_; rintro e w' ⟨rfl, hw'⟩; subst w')
                    | (go_at_call 32; with_reducible refine (l3Has_is _ _ _ (yn : Int) _ _ _ HHY.out HIN.out HLE.out hlb).mono ?_; rintro e w' ⟨rfl, hw'⟩; subst w')
                    | (go_at_call 40; refine (l9One_is _ _ _ (xn : Int) (yn : Int) _ _ true (xn : Int) (by simp) HHX.out HIN.out HLE.out hlb).mono ?_; rintro e w' ⟨rfl, hw'⟩; subst w')
                    | (at_builtin
                       refine append_int _ rfl _ _ rfl w.heap.size _ l2.length _ rfl (HOW.out.alloc _) _ _ _ rfl (cell_new1 _ _ _ _ (by simp)) rfl (by omega) (Nat.le_trans HBL.out.size (by simp)) ?_
                       intro v' w4 hown hg
                       have O4 : Hid (SL w w4 v' (l2 ++ [yn])) := SL.grown HOW.out HBL.out hown hg (by omega)
                       clear hown hg))
                  go_roundw
                  case rel => exact ⟨l2 ++ [yn], true, k + 1, by omega, by first | rfl | go_num, rfl, O4.out, HN.out, HED.out, (fun h => by cases h), (fun _ => by have := LE2.out; rw [List.length_append]; simp; omega), (by have := LE2.out; rw [List.length_append]; omega)⟩
                  case measure => simp [intOf]; omega
              · have HHX : Hid (hasTo (numL l2) l2.length (xn : Int) = false) := by show _ = _; rw [has_num]; simp [hx]
                by_cases hy : yn ∈ l2
                · have HHY : Hid (hasTo (numL l2) l2.length (yn : Int) = true) := by show _ = _; rw [has_num]; simp [hy]
                  have MI : Hid (yn ∈ l2) := hy
                  have MO : Hid (xn ∉ l2) := hx
                  clear hx hy
                  have HN : Hid (inOk n es (l2 ++ [xn])) := inOk_add I2.out (k := k) (by omega) (Or.inr ⟨HYB.out.symm, HXA.out.symm⟩) MI.out MO.out px2
                  have hlt2 : l2.length < n := inOk_more I2.out MO.out px2
                  have HOW : Hid (wr.ownsRow w.heap.size 2 1 (.slice (some ⟨g2, 0, none⟩) l2.length c2) l2.length ((numL l2).map (Value.int .i64))) := S2.out.o
                  have HBL : Hid (Below w.heap.size w wr) := S2.out.b
                  go_wp2_with (first
                    | (go_at_call 39; refine (l1In_any _ _ _ _).mono ?_; rintro e w' ⟨rfl, hw'⟩; subst w')
                    | (go_at_call 32; with_reducible refine (l3Has_is _ _ _ (xn : Int) _ _ _ HHX.out HIN.out HLE.out hlb).mono ?_; rintro e w' ⟨rfl, hw'⟩; subst w')
                    | (go_at_call 32; with_reducible refine (l3Has_is _ _ _ (yn : Int) _ _ _ HHY.out HIN.out HLE.out hlb).mono ?_; rintro e w' ⟨rfl, hw'⟩; subst w')
                    | (go_at_call 40; refine (l9One_is _ _ _ (xn : Int) (yn : Int) _ _ false (yn : Int) (by simp) HHX.out HIN.out HLE.out hlb).mono ?_; rintro e w' ⟨rfl, hw'⟩; subst w')
                    | (at_builtin
                       refine append_int _ rfl _ _ rfl w.heap.size _ l2.length _ rfl (HOW.out.alloc _) _ _ _ rfl (cell_new1 _ _ _ _ (by simp)) rfl (by omega) (Nat.le_trans HBL.out.size (by simp)) ?_
                       intro v' w4 hown hg
                       have O4 : Hid (SL w w4 v' (l2 ++ [xn])) := SL.grown HOW.out HBL.out hown hg (by omega)
                       clear hown hg))
                  go_roundw
                  case rel => exact ⟨l2 ++ [xn], true, k + 1, by omega, by first | rfl | go_num, rfl, O4.out, HN.out, HED.out, (fun h => by cases h), (fun _ => by have := LE2.out; rw [List.length_append]; simp; omega), (by have := LE2.out; rw [List.length_append]; omega)⟩
                  case measure => simp [intOf]; omega
                · have HHY : Hid (hasTo (numL l2) l2.length (yn : Int) = false) := by show _ = _; rw [has_num]; simp [hy]
                  have HIFF : Hid (xn ∈ l2 ↔ yn ∈ l2) := ⟨fun h => absurd h hx, fun h => absurd h hy⟩
                  clear hx hy
                  have HEV : Hid (b2 = false → evenTo es l2 (k + 1) ∧ l2 = l) := fun h => ⟨evenTo_step (E2.out h).1 (by rw [HXA.out, HYB.out]; exact HIFF.out), (E2.out h).2⟩
                  go_wp2_with (first
                    | (go_at_call 39; refine (l1In_any _ _ _ _).mono ?_; rintro e w' ⟨rfl, hw'⟩; subst w')
                    | (go_at_call 32; with_reducible refine (l3Has_is _ _ _ (xn : Int) _ _ _ HHX.out HIN.out HLE.out hlb).mono ?_; rintro e w' ⟨rfl, hw'⟩; subst w')
                    | (go_at_call 32; with_reducible refine (l3Has_is _ _ _ (yn : Int) _ _ _ HHY.out HIN.out HLE.out hlb).mono ?_; rintro e w' ⟨rfl, hw'⟩; subst w'))
                  refine ⟨⟨l2, b2, k + 1, by omega, by go_num, rfl, S2.out, I2.out, HED.out, HEV.out, L2.out, LE2.out⟩, by simp [intOf]; omega⟩
        · have hkm : k = m := by omega
          have HED : Hid (edgesTo n es m) := hkm ▸ D2.out
          have HEV : Hid (b2 = false → evenTo es l2 m) := fun h => hkm ▸ (E2.out h).1
          have HLL : Hid (b2 = false → l2.length = l.length) := fun h => by rw [(E2.out h).2]
          clear hkm
          go_wp2
          go_roundw
          case rel => exact ⟨l2, b2, rfl, S2.out, I2.out, fun h => ⟨HED.out, HEV.out h⟩⟩
          case measure =>
            have a1 := HLL.out
            have a2 := L2.out
            cases b2
            · have := a1 rfl
              simp [sliceLen, truthNum]
              omega
            · have := a2 rfl
              simp [sliceLen, truthNum]
              omega

theorem specSpans_any (n : Int) (a : Option Addr) (m cap : Nat) (es : List Int) (w : World) (hA : IntsAt w a es) (hl : es.length = m * 3) :
    Calls Try.prog 14 #[.int .i64 n, .slice a m cap] w fun e w' => e = .returned (.bool (spanB n es m)) ∧ Below w.heap.size w w' := by
  by_cases h : 1 ≤ n ∧ n ≤ 16 ∧ (m : Int) = n - 1
  · obtain ⟨q, rfl⟩ := Int.eq_ofNat_of_zero_le (show 0 ≤ n by omega)
    exact specSpans_loop q m a cap es w (by omega) (by omega) (by omega) hl hA
  · rw [spanB_out h]
    exact specSpans_out n a m cap w h

end Go.Proofs.Ytaehhlkpbhmdfaa
