import Derived.Test.YtpfikhegmmpogaaPack1
import Derived.Test.YtpfikhegmmpogaaPack2
import Derived.Test.YtpfikhegmmpogaaPack14
import Derived.Test.YtpfikhegmmpogaaPack16
import Derived.Test.YtpfikhegmmpogaaPack22
import Derived.Deep.RegionHeld3
namespace Go.Proofs.Ytpfikhegmmpogaa
open Go.RowKit

theorem own_any3 {w : World} {base k : Nat} {v : Value} {e : TypeId} {size : Nat} {xs : List Value} (h : w.ownsRow base e size v k xs) : ∃ ao co, v = .slice ao k co := by
  obtain ⟨_, ⟨h1, h2⟩ | ⟨g', cap, cur, h2, _⟩⟩ := h
  · exact ⟨none, 0, by rw [h1, h2]⟩
  · exact ⟨_, _, h2⟩
theorem own_at_cap {w : World} {base m c : Nat} {e : TypeId} {ad : Option Addr} {xs : List Int} (h : w.ownsRow base e 1 (.slice ad m c) m (xs.map (Value.int .i64))) : IntsAt w ad xs ∧ m ≤ c := by
  have hoc := h
  obtain ⟨a', c', e, _, hi⟩ := owns_at1 h
  have e2 : ad = a' := by injection e
  refine ⟨by rw [e2]; exact hi, ?_⟩
  obtain ⟨_, ⟨h1, h2⟩ | ⟨g', cap, cur, h2, _, _, h3, _⟩⟩ := hoc
  · omega
  · injection h2 with _ _ e3
    omega

/-- BestRoute's closures: the row's box, the answer's box. -/
structure RY (w W : World) (pr : List Nat) : Prop where
  b : Below w.heap.size w W
  r : W.heap[w.heap.size]? = some (.cells (cellsOf (padL pr)) 84 (0, 0))
  t : W.heap[w.heap.size + 1]? = some (.cells #[Value.int IntKind.i64 0, Value.slice none 0 0] 34 (0, 0))
theorem RY.new (w : World) (pr : List Nat) : RY w ((w.alloc (.cells (cellsOf (padL pr)) 84)).alloc (.cells #[Value.int IntKind.i64 0, Value.slice none 0 0] 34)) pr := ⟨((Below.refl _ _).alloc (Nat.le_refl _) _).alloc (by simp) _, heap_alloc2_old _ _ _, heap_alloc2_new _ _ _⟩
theorem RY.below {w W W' : World} {pr : List Nat} (h : RY w W pr) (hb : Below W.heap.size W W') : RY w W' pr := ⟨h.b.trans (hb.mono h.b.size), below_row hb (row_lt h.r) h.r, below_row hb (row_lt h.t) h.t⟩
/-- What the closures capture: the vehicle and the list. -/
structure RC (W : World) (pv pi : Nat) (veh : Int) (bi : Option Addr) (m c2 : Nat) (ids : List Int) : Prop where
  v : W.cell? ⟨pv, 0, none⟩ = some (.int .i64 veh)
  s : W.cell? ⟨pi, 0, none⟩ = some (.slice bi m c2)
  i : IntsAt W bi ids
theorem RC.below {W W' : World} {pv pi : Nat} {veh : Int} {bi : Option Addr} {m c2 : Nat} {ids : List Int} (h : RC W pv pi veh bi m c2 ids) (hb : Below W.heap.size W W') : RC W' pv pi veh bi m c2 ids :=
  ⟨(hb.cell (p := ⟨pv, 0, none⟩) (block_lt_of_cell h.v)).trans h.v, (hb.cell (p := ⟨pi, 0, none⟩) (block_lt_of_cell h.s)).trans h.s, h.i.below hb⟩
theorem ry_keep {w W : World} {pr : List Nat} {pv pi : Nat} {veh : Int} {bi : Option Addr} {m c2 : Nat} {ids : List Int} {c0 c1 c2' c3 c4 c5 : Int} (h : RY w W pr) (k : RC W pv pi veh bi m c2 ids) (hp : padL pr = [c0, c1, c2', c3, c4, c5]) :
    W.cell? ⟨pv, 0, none⟩ = some (.int .i64 veh) ∧ W.cell? ⟨w.heap.size, 0, none⟩ = some (.int .i64 c0) ∧ W.cell? ⟨w.heap.size, 1, none⟩ = some (.int .i64 c1) ∧ W.cell? ⟨w.heap.size, 2, none⟩ = some (.int .i64 c2') ∧ W.cell? ⟨w.heap.size, 3, none⟩ = some (.int .i64 c3) ∧ W.cell? ⟨w.heap.size, 4, none⟩ = some (.int .i64 c4) ∧ W.cell? ⟨w.heap.size, 5, none⟩ = some (.int .i64 c5) ∧ W.cell? ⟨pi, 0, none⟩ = some (.slice bi m c2) := by
  have hr := h.r
  rw [hp, cells_lit] at hr
  obtain ⟨r0, r1, r2, r3, r4, r5⟩ := row6 hr
  exact ⟨k.v, r0, r1, r2, r3, r4, r5, k.s⟩
theorem ry_keeps {w W : World} {pr : List Nat} {pv pi : Nat} {veh : Int} {bi : Option Addr} {m c2 : Nat} {ids : List Int} {c0 c1 c2' c3 c4 c5 : Int} {u v : Value} (h : RY w W pr) (k : RC W pv pi veh bi m c2 ids) (hp : padL pr = [c0, c1, c2', c3, c4, c5]) (h1 : pv ≠ w.heap.size + 1) (h2 : pi ≠ w.heap.size + 1) :
    (fun X : World => X.cell? ⟨pv, 0, none⟩ = some (.int .i64 veh) ∧ X.cell? ⟨w.heap.size, 0, none⟩ = some (.int .i64 c0) ∧ X.cell? ⟨w.heap.size, 1, none⟩ = some (.int .i64 c1) ∧ X.cell? ⟨w.heap.size, 2, none⟩ = some (.int .i64 c2') ∧ X.cell? ⟨w.heap.size, 3, none⟩ = some (.int .i64 c3) ∧ X.cell? ⟨w.heap.size, 4, none⟩ = some (.int .i64 c4) ∧ X.cell? ⟨w.heap.size, 5, none⟩ = some (.int .i64 c5) ∧ X.cell? ⟨pi, 0, none⟩ = some (.slice bi m c2)) ((W.setCell ⟨w.heap.size + 1, 0, none⟩ u).setCell ⟨w.heap.size + 1, 1, none⟩ v) := by
  obtain ⟨k0, k1, k2, k3, k4, k5, k6, k7⟩ := ry_keep h k hp
  exact ⟨keep_set (keep_set k0 h1) h1, keep_set (keep_set k1 (by omega)) (by omega), keep_set (keep_set k2 (by omega)) (by omega), keep_set (keep_set k3 (by omega)) (by omega), keep_set (keep_set k4 (by omega)) (by omega), keep_set (keep_set k5 (by omega)) (by omega), keep_set (keep_set k6 (by omega)) (by omega), keep_set (keep_set k7 h2) h2⟩

set_option maxHeartbeats 2000000 in
theorem routeBy_any (pv pi : Nat) (veh : Int) (bi : Option Addr) (c2 m : Nat) (ids : List Int) (pr : List Nat) (c0 c1 c2' c3 c4 c5 : Int) (w : World) (hp : padL pr = [c0, c1, c2', c3, c4, c5]) (hC : RC w pv pi veh bi m c2 ids) (hm : ids.length = m) (h6 : m ≤ 6) (hl : pr.length = m) (hlt : ∀ x ∈ pr, x < m) :
    Calls Try.prog 51 #[.agg #[.int .i64 c0, .int .i64 c1, .int .i64 c2', .int .i64 c3, .int .i64 c4, .int .i64 c5], .pointer (some ⟨pv, 0, none⟩), .pointer (some ⟨pi, 0, none⟩)] w fun e w' => ∃ ad c, e = .returned (.agg #[.int .i64 veh, .slice ad m c]) ∧ Below w.heap.size w w' ∧ w'.ownsRow w.heap.size 2 1 (.slice ad m c) m ((ofL pr ids).map (Value.int .i64)) := by
  have HP : Hid (padL pr = [c0, c1, c2', c3, c4, c5]) := hp
  have HC : Hid (RC w pv pi veh bi m c2 ids) := hC
  have HM : Hid (ids.length = m) := hm
  have hpv : pv < w.heap.size := block_lt_of_cell hC.v
  have hpi : pi < w.heap.size := block_lt_of_cell hC.s
  have HOF : Hid (∀ W, IntsAt W bi ids → Calls Try.prog 52 #[.agg #[.int .i64 c0, .int .i64 c1, .int .i64 c2', .int .i64 c3, .int .i64 c4, .int .i64 c5], .slice bi m c2] W fun e w' => ∃ sl, e = .returned sl ∧ Below W.heap.size W w' ∧ w'.ownsRow (W.heap.size + 1) 2 1 sl m ((ofL pr ids).map (Value.int .i64))) := fun W h => by
    have := rowOf_opt bi c2 pr ids W h (by rw [hm]; exact hl) (by rw [hm]; exact h6) (by rw [hm]; exact hlt)
    rw [hm, hp, cells_lit] at this
    exact this
  clear hp hC hm hlt hl
  have R0 : Hid (RY w ((w.alloc (.cells #[.int .i64 c0, .int .i64 c1, .int .i64 c2', .int .i64 c3, .int .i64 c4, .int .i64 c5] 84)).alloc (.cells #[Value.int IntKind.i64 0, Value.slice none 0 0] 34)) pr) := by
    have := RY.new w pr
    rw [HP.out, cells_lit] at this
    exact this
  have K0 : Hid (RC ((w.alloc (.cells #[.int .i64 c0, .int .i64 c1, .int .i64 c2', .int .i64 c3, .int .i64 c4, .int .i64 c5] 84)).alloc (.cells #[Value.int IntKind.i64 0, Value.slice none 0 0] 34)) pv pi veh bi m c2 ids) := HC.out.below R0.out.b
  go_enter Try.func51, Try.ntmps51
  go_wp2_with fail
  generalize (w.alloc (.cells #[.int .i64 c0, .int .i64 c1, .int .i64 c2', .int .i64 c3, .int .i64 c4, .int .i64 c5] 84)).alloc (.cells #[Value.int IntKind.i64 0, Value.slice none 0 0] 34) = W0 at *
  have kS := ry_keep (R0.out.below (Below.refl _ _).drew) (K0.out.below (Below.refl _ _).drew) HP.out
  go_region_held3 (fun W => W.cell? ⟨pv, 0, none⟩ = some (.int .i64 veh) ∧ W.cell? ⟨w.heap.size, 0, none⟩ = some (.int .i64 c0) ∧ W.cell? ⟨w.heap.size, 1, none⟩ = some (.int .i64 c1) ∧ W.cell? ⟨w.heap.size, 2, none⟩ = some (.int .i64 c2') ∧ W.cell? ⟨w.heap.size, 3, none⟩ = some (.int .i64 c3) ∧ W.cell? ⟨w.heap.size, 4, none⟩ = some (.int .i64 c4) ∧ W.cell? ⟨w.heap.size, 5, none⟩ = some (.int .i64 c5) ∧ W.cell? ⟨pi, 0, none⟩ = some (.slice bi m c2)) (first | with_reducible exact kS | with_reducible exact ry_keeps R1.out K1.out HP.out (by omega) (by omega) | go_keep) ((first
    | (go_at_call 52
       with_reducible refine (HOF.out W0.drew (K0.out.below (Below.refl _ _).drew).i).mono ?_
       rintro e w1 ⟨sl, rfl, hb', ho⟩
       have hb : Below W0.heap.size W0 w1 := (Below.refl _ _).drew.trans (hb'.mono (Nat.le_refl _))
       have R1 : Hid (RY w w1 pr) := R0.out.below hb
       have K1 : Hid (RC w1 pv pi veh bi m c2 ids) := K0.out.below hb
       obtain ⟨ad, cg, e⟩ := own_any3 ho
       subst e
       have O1 : Hid (w1.ownsRow (W0.heap.size + 1) 2 1 (.slice ad m cg) m ((ofL pr ids).map (Value.int .i64))) := ho
       have kS := ry_keep R1.out K1.out HP.out
       obtain ⟨u0, u1⟩ := cells2 R1.out.t
       have uf := fun i => frozen_of_row _ _ i _ _ R1.out.t
       clear hb hb' ho)))
  all_goals
    clear kS
    have LG : Hid (w.heap.size + 1 < W0.heap.size + 1) := by have := row_lt R0.out.t; show _ < _; omega
    go_wp2
    refine bodyPost_ret (v := .agg #[.int .i64 veh, .slice ad m cg]) (by simp [results, Try.results51, go_sem, u0, u1]) rfl ⟨ad, cg, rfl, ?_, ?_⟩
    · repeat (first | with_reducible exact R1.out.b | refine Below.setCell ?_ (by simp <;> omega) _)
    · exact owns_base (owns_set (owns_set O1.out LG.out) LG.out) (by have := LG.out; omega)

set_option maxHeartbeats 2000000 in
/-- What a row costs, and whether it can be driven. -/
theorem rowCost_any (n fine veh : Int) (a ao av bi : Option Addr) (cap ko co kv cv c2 m : Nat) (zs os vs ids : List Int) (pr : List Nat) (c0 c1 c2' c3 c4 c5 : Int) (pc pf pv pi : Nat) (w : World) (hA : IntsAt w a zs) (hO : IntsAt w ao os) (hV : IntsAt w av vs) (hlo : os.length = ko * 6) (hlv : vs.length = kv * 5) (hko : ko ≤ 9223372036854775807) (hkv : kv ≤ 9223372036854775807) (hcB : caseB n zs os vs ko kv fine = true)
    (hpc : w.heap[pc]? = some (.cells #[.int .i64 n, .slice a zs.length cap, .slice ao ko co, .slice av kv cv, .int .i64 fine] 30 (0, 0))) (hpf : w.heap[pf]? = some (.cells #[.func (.func 51) #[] #[.pointer (some ⟨pv, 0, none⟩), .pointer (some ⟨pi, 0, none⟩)]] 85 (0, 0)))
    (hp : padL pr = [c0, c1, c2', c3, c4, c5]) (hC : RC w pv pi veh bi m c2 ids) (hm : ids.length = m) (h6 : m ≤ 6) (hl : pr.length = m) (hlt : ∀ x ∈ pr, x < m) (ok : Bool) (hok : decide (codeV true n zs os vs ko kv veh (ofL pr ids) = 0) = ok) (r : Int) (hr : rcV n zs os vs ko kv veh (ofL pr ids) = r) :
    Calls Try.prog 55 #[.agg #[.int .i64 c0, .int .i64 c1, .int .i64 c2', .int .i64 c3, .int .i64 c4, .int .i64 c5], .pointer (some ⟨pc, 0, none⟩), .pointer (some ⟨pf, 0, none⟩)] w fun e w' => e = .returned (.tuple #[.int .i64 r, .bool ok]) ∧ Below w.heap.size w w' := by
  have HA : Hid (IntsAt w a zs) := hA
  have HO : Hid (IntsAt w ao os) := hO
  have HV : Hid (IntsAt w av vs) := hV
  have HC : Hid (RC w pv pi veh bi m c2 ids) := hC
  have HLL : Hid ((ofL pr ids).length = m) := by show _ = _; rw [ofL_length]; exact hl
  have HRB : Hid (∀ W, Below w.heap.size w W → Calls Try.prog 51 #[.agg #[.int .i64 c0, .int .i64 c1, .int .i64 c2', .int .i64 c3, .int .i64 c4, .int .i64 c5], .pointer (some ⟨pv, 0, none⟩), .pointer (some ⟨pi, 0, none⟩)] W fun e w' => ∃ ad c, e = .returned (.agg #[.int .i64 veh, .slice ad m c]) ∧ Below W.heap.size W w' ∧ w'.ownsRow W.heap.size 2 1 (.slice ad m c) m ((ofL pr ids).map (Value.int .i64))) := fun W hb => routeBy_any pv pi veh bi c2 m ids pr c0 c1 c2' c3 c4 c5 W hp (hC.below hb) hm h6 hl hlt
  have HRC : Hid (∀ W ad c, Below w.heap.size w W → IntsAt W ad (ofL pr ids) → m ≤ c → Calls Try.prog 56 #[.agg #[.int .i64 n, .slice a zs.length cap, .slice ao ko co, .slice av kv cv, .int .i64 fine], .agg #[.int .i64 veh, .slice ad m c]] W fun e w' => e = .returned (.tuple #[.int .i64 r, .bool ok]) ∧ Below W.heap.size W w') := fun W ad c hb hI hc => by
    have := routeCost_any n fine veh a ao av ad cap ko co kv cv c zs os vs (ofL pr ids) W (HA.out.below hb) (HO.out.below hb) (HV.out.below hb) hI hlo hlv hko hkv (by rw [HLL.out]; omega) (by rw [HLL.out]; exact hc) hcB ok hok r hr
    rw [HLL.out] at this
    exact this
  have hc5 := hpc
  clear hA hO hV hlo hlv hcB hC hm hl hlt hok hr hpc
  have B0 : Hid (Below w.heap.size w (w.alloc (.cells #[.int .i64 c0, .int .i64 c1, .int .i64 c2', .int .i64 c3, .int .i64 c4, .int .i64 c5] 84))) := (Below.refl _ _).alloc (Nat.le_refl _) _
  have N0 : Hid ((w.alloc (.cells #[.int .i64 c0, .int .i64 c1, .int .i64 c2', .int .i64 c3, .int .i64 c4, .int .i64 c5] 84)).heap[w.heap.size]? = some (.cells #[.int .i64 c0, .int .i64 c1, .int .i64 c2', .int .i64 c3, .int .i64 c4, .int .i64 c5] 84 (0, 0))) := heap_alloc_new _ _
  have P0 : Hid ((w.alloc (.cells #[.int .i64 c0, .int .i64 c1, .int .i64 c2', .int .i64 c3, .int .i64 c4, .int .i64 c5] 84)).heap[pc]? = some (.cells #[.int .i64 n, .slice a zs.length cap, .slice ao ko co, .slice av kv cv, .int .i64 fine] 30 (0, 0))) := below_row B0.out (row_lt hc5) hc5
  have F0 : Hid ((w.alloc (.cells #[.int .i64 c0, .int .i64 c1, .int .i64 c2', .int .i64 c3, .int .i64 c4, .int .i64 c5] 84)).heap[pf]? = some (.cells #[.func (.func 51) #[] #[.pointer (some ⟨pv, 0, none⟩), .pointer (some ⟨pi, 0, none⟩)]] 85 (0, 0))) := below_row B0.out (row_lt hpf) hpf
  clear hc5 hpf
  go_enter Try.func55, Try.ntmps55
  go_wp2_with fail
  generalize w.alloc (.cells #[.int .i64 c0, .int .i64 c1, .int .i64 c2', .int .i64 c3, .int .i64 c4, .int .i64 c5] 84) = W0 at *
  have kp : ∀ X, Below W0.heap.size W0 X → X.cell? ⟨pc, 0, none⟩ = some (.int .i64 n) ∧ X.cell? ⟨pc, 1, none⟩ = some (.slice a zs.length cap) ∧ X.cell? ⟨pc, 2, none⟩ = some (.slice ao ko co) ∧ X.cell? ⟨pc, 3, none⟩ = some (.slice av kv cv) ∧ X.cell? ⟨pc, 4, none⟩ = some (.int .i64 fine) ∧ X.cell? ⟨pf, 0, none⟩ = some (.func (.func 51) #[] #[.pointer (some ⟨pv, 0, none⟩), .pointer (some ⟨pi, 0, none⟩)]) ∧ X.cell? ⟨w.heap.size, 0, none⟩ = some (.int .i64 c0) ∧ X.cell? ⟨w.heap.size, 1, none⟩ = some (.int .i64 c1) ∧ X.cell? ⟨w.heap.size, 2, none⟩ = some (.int .i64 c2') ∧ X.cell? ⟨w.heap.size, 3, none⟩ = some (.int .i64 c3) ∧ X.cell? ⟨w.heap.size, 4, none⟩ = some (.int .i64 c4) ∧ X.cell? ⟨w.heap.size, 5, none⟩ = some (.int .i64 c5) := fun X hb => by
    obtain ⟨q0, q1, q2, q3, q4⟩ := cells5 (below_row hb (row_lt P0.out) P0.out)
    obtain ⟨r0, r1, r2, r3, r4, r5⟩ := row6 (below_row hb (row_lt N0.out) N0.out)
    have hf := cell_of_row _ _ 0 _ _ _ (below_row hb (row_lt F0.out) F0.out)
    exact ⟨q0, q1, q2, q3, q4, hf, r0, r1, r2, r3, r4, r5⟩
  have KP : Hid _ := kp
  have kS := kp W0.drew (Below.refl _ _).drew
  clear kp
  go_region_held3 (fun X => X.cell? ⟨pc, 0, none⟩ = some (.int .i64 n) ∧ X.cell? ⟨pc, 1, none⟩ = some (.slice a zs.length cap) ∧ X.cell? ⟨pc, 2, none⟩ = some (.slice ao ko co) ∧ X.cell? ⟨pc, 3, none⟩ = some (.slice av kv cv) ∧ X.cell? ⟨pc, 4, none⟩ = some (.int .i64 fine) ∧ X.cell? ⟨pf, 0, none⟩ = some (.func (.func 51) #[] #[.pointer (some ⟨pv, 0, none⟩), .pointer (some ⟨pi, 0, none⟩)]) ∧ X.cell? ⟨w.heap.size, 0, none⟩ = some (.int .i64 c0) ∧ X.cell? ⟨w.heap.size, 1, none⟩ = some (.int .i64 c1) ∧ X.cell? ⟨w.heap.size, 2, none⟩ = some (.int .i64 c2') ∧ X.cell? ⟨w.heap.size, 3, none⟩ = some (.int .i64 c3) ∧ X.cell? ⟨w.heap.size, 4, none⟩ = some (.int .i64 c4) ∧ X.cell? ⟨w.heap.size, 5, none⟩ = some (.int .i64 c5)) (first | with_reducible exact kS | go_keep) ((first
    | (go_at_call 51
       with_reducible refine (HRB.out W0.drew B0.out.drew).mono ?_
       rintro e w1 ⟨ad, cg, rfl, hb', ho⟩
       have hb : Below W0.heap.size W0 w1 := (Below.refl _ _).drew.trans (hb'.mono (Nat.le_refl _))
       have D1 : Hid (Below W0.heap.size W0 w1) := hb
       have B1 : Hid (Below w.heap.size w w1) := B0.out.trans (hb.mono B0.out.size)
       have I1 : Hid (IntsAt w1 ad (ofL pr ids) ∧ m ≤ cg) := own_at_cap ho
       have kS := KP.out w1 hb
       clear hb hb' ho)
    | (go_at_call 56
       with_reducible refine (HRC.out w1 ad cg B1.out I1.out.1 I1.out.2).mono ?_
       rintro e w2 ⟨rfl, hb⟩
       have B2 : Hid (Below w.heap.size w w2) := B1.out.trans (hb.mono B1.out.size)
       have kS := KP.out w2 (D1.out.trans (hb.mono D1.out.size))
       clear hb)))
  all_goals
    clear kS
    go_wp2
    go_ret2
    exact ⟨rfl, B2.out⟩

end Go.Proofs.Ytpfikhegmmpogaa

namespace Go.Proofs.Ytpfikhegmmpogaa
open Go.RowKit

/-- BestRoute's boxes: the case, the vehicle, the list, the answer. -/
structure BR (w W : World) (cs : Array Value) (veh : Int) (sl : Value) : Prop where
  b : Below w.heap.size w W
  c : W.heap[w.heap.size]? = some (.cells cs 30 (0, 0))
  v : W.heap[w.heap.size + 1]? = some (.cells #[.int .i64 veh] 2 (0, 0))
  i : W.heap[w.heap.size + 1 + 1]? = some (.cells #[sl] 24 (0, 0))
  t : W.heap[w.heap.size + 1 + 1 + 1]? = some (.cells #[Value.int IntKind.i64 0, Value.slice none 0 0] 34 (0, 0))
theorem BR.below {w W W' : World} {cs : Array Value} {veh : Int} {sl : Value} (h : BR w W cs veh sl) (hb : Below W.heap.size W W') : BR w W' cs veh sl :=
  ⟨h.b.trans (hb.mono h.b.size), below_row hb (row_lt h.c) h.c, below_row hb (row_lt h.v) h.v, below_row hb (row_lt h.i) h.i, below_row hb (row_lt h.t) h.t⟩
theorem BR.new (w : World) (cs : Array Value) (veh : Int) (sl : Value) : BR w ((((w.alloc (.cells cs 30)).alloc (.cells #[.int .i64 veh] 2)).alloc (.cells #[sl] 24)).alloc (.cells #[Value.int IntKind.i64 0, Value.slice none 0 0] 34)) cs veh sl := by
  have b2 : Below (w.heap.size + 1 + 1) ((w.alloc (.cells cs 30)).alloc (.cells #[.int .i64 veh] 2)) ((((w.alloc (.cells cs 30)).alloc (.cells #[.int .i64 veh] 2)).alloc (.cells #[sl] 24)).alloc (.cells #[Value.int IntKind.i64 0, Value.slice none 0 0] 34)) := ((Below.refl _ _).alloc (by simp) _).alloc (by simp) _
  refine ⟨((((Below.refl _ _).alloc (Nat.le_refl _) _).alloc (by simp) _).alloc (by simp; omega) _).alloc (by simp; omega) _, (b2.block _ (by omega)).trans (heap_alloc2_old _ _ _), (b2.block _ (by omega)).trans (heap_alloc2_new _ _ _), ?_, ?_⟩
  · have := heap_alloc2_old ((w.alloc (.cells cs 30)).alloc (.cells #[.int .i64 veh] 2)) (.cells #[sl] 24) (.cells #[Value.int IntKind.i64 0, Value.slice none 0 0] 34)
    simpa using this
  · have := heap_alloc2_new ((w.alloc (.cells cs 30)).alloc (.cells #[.int .i64 veh] 2)) (.cells #[sl] 24) (.cells #[Value.int IntKind.i64 0, Value.slice none 0 0] 34)
    simpa using this
theorem BR.rc {w W : World} {cs : Array Value} {veh : Int} {bi : Option Addr} {m c2 : Nat} {ids : List Int} (h : BR w W cs veh (.slice bi m c2)) (hI : IntsAt w bi ids) : RC W (w.heap.size + 1) (w.heap.size + 1 + 1) veh bi m c2 ids := by
  refine ⟨?_, ?_, hI.below h.b⟩
  · have := cell_of_row _ _ 0 _ _ _ h.v
    simpa using this
  · have := cell_of_row _ _ 0 _ _ _ h.i
    simpa using this

set_option maxHeartbeats 4000000 in
theorem implBestRoute_any (n fine veh : Int) (a ao av bi : Option Addr) (cap ko co kv cv c2 : Nat) (zs os vs ids : List Int) (w : World) (hA : IntsAt w a zs) (hO : IntsAt w ao os) (hV : IntsAt w av vs) (hI : IntsAt w bi ids) (hlo : os.length = ko * 6) (hlv : vs.length = kv * 5) (hko : ko ≤ 9223372036854775807) (hkv : kv ≤ 9223372036854775807) (hli : ids.length ≤ 9223372036854775807) (s0 : PS) (hs0 : brV (caseB n zs os vs ko kv fine) n zs os vs ko kv veh ids = s0) (xs : List Int) (hxs : chL s0.f (unr ids.length ids s0.i) = xs) :
    Calls Try.prog 10 #[.agg #[.int .i64 n, .slice a zs.length cap, .slice ao ko co, .slice av kv cv, .int .i64 fine], .int .i64 veh, .slice bi ids.length c2] w (ChgOk w s0.f veh s0.v xs) := by
  have HA : Hid (IntsAt w a zs) := hA
  have HO : Hid (IntsAt w ao os) := hO
  have HV : Hid (IntsAt w av vs) := hV
  have HI : Hid (IntsAt w bi ids) := hI
  have HLO : Hid (os.length = ko * 6) := hlo
  have HLV : Hid (vs.length = kv * 5) := hlv
  have HS0 : Hid (brV (caseB n zs os vs ko kv fine) n zs os vs ko kv veh ids = s0) := hs0
  have HXS : Hid (chL s0.f (unr ids.length ids s0.i) = xs) := hxs
  clear hA hO hV hI hlo hlv hs0 hxs
  obtain ⟨m, HM⟩ : ∃ m, Hid (ids.length = m) := ⟨_, rfl⟩
  rw [HM.out] at hli ⊢
  obtain ⟨cb, HCB⟩ : ∃ v, Hid (caseB n zs os vs ko kv fine = v) := ⟨_, rfl⟩
  have C0 : Hid (BR w ((((w.alloc (.cells #[.int .i64 n, .slice a zs.length cap, .slice ao ko co, .slice av kv cv, .int .i64 fine] 30)).alloc (.cells #[.int .i64 veh] 2)).alloc (.cells #[.slice bi m c2] 24)).alloc (.cells #[Value.int IntKind.i64 0, Value.slice none 0 0] 34)) #[.int .i64 n, .slice a zs.length cap, .slice ao ko co, .slice av kv cv, .int .i64 fine] veh (.slice bi m c2)) := BR.new w _ _ _
  go_enter Try.func10, Try.ntmps10
  obtain ⟨c0, c1, c2', c3, c4⟩ := cells5 C0.out.c
  go_wp2_with fail
  clear c0 c1 c2' c3 c4
  generalize (((w.alloc (.cells #[.int .i64 n, .slice a zs.length cap, .slice ao ko co, .slice av kv cv, .int .i64 fine] 30)).alloc (.cells #[.int .i64 veh] 2)).alloc (.cells #[.slice bi m c2] 24)).alloc (.cells #[Value.int IntKind.i64 0, Value.slice none 0 0] 34) = W0 at *
  refine (implCase_any n fine a ao av cap ko co kv cv zs os vs W0 (HA.out.below C0.out.b) (HO.out.below C0.out.b) (HV.out.below C0.out.b) HLO.out HLV.out hko hkv).mono ?_
  rintro e w1 ⟨rfl, hb⟩
  rw [HCB.out]
  have C1 : Hid (BR w w1 #[.int .i64 n, .slice a zs.length cap, .slice ao ko co, .slice av kv cv, .int .i64 fine] veh (.slice bi m c2)) := C0.out.below hb
  clear hb C0
  cases cb
  · have HE : Hid (s0 = ps0) := by
      show _ = _
      rw [← HS0.out, HCB.out]
      exact brV_case
    have HXE : Hid (xs = []) := by
      show _ = _
      rw [← HXS.out, HE.out]
      rfl
    obtain ⟨t0, t1⟩ := cells2 C1.out.t
    have tf := fun i => frozen_of_row _ _ i _ _ C1.out.t
    go_wp2
    refine bodyPost_ret (v := .tuple #[.agg #[Value.int IntKind.i64 0, Value.slice none 0 0], .int .i64 0, .bool false]) (by simp [results, Try.results10, go_sem, t0, t1]) rfl ⟨?_, none, 0, ?_, ?_⟩
    · repeat (first | with_reducible exact C1.out.b | refine Below.setCell ?_ (by simp <;> omega) _)
    · rw [HE.out, HXE.out]; rfl
    · rw [HXE.out]; exact World.ownsRow_nil _ _ _ _
  have i0 := cell_of_row _ _ 0 _ _ _ C1.out.i
  simp only [List.getElem?_toArray, List.getElem?_cons_zero] at i0
  by_cases h6 : ¬ m ≤ 6
  · have HE : Hid (s0 = ps0) := by
      show _ = _
      rw [← HS0.out]
      exact brV_long (by rw [HM.out]; exact h6)
    have h7 : (6 : Int) < (m : Int) := by omega
    have HXE : Hid (xs = []) := by
      show _ = _
      rw [← HXS.out, HE.out]
      rfl
    obtain ⟨t0, t1⟩ := cells2 C1.out.t
    have tf := fun i => frozen_of_row _ _ i _ _ C1.out.t
    go_wp2
    refine bodyPost_ret (v := .tuple #[.agg #[Value.int IntKind.i64 0, Value.slice none 0 0], .int .i64 0, .bool false]) (by simp [results, Try.results10, go_sem, t0, t1]) rfl ⟨?_, none, 0, ?_, ?_⟩
    · repeat (first | with_reducible exact C1.out.b | refine Below.setCell ?_ (by simp <;> omega) _)
    · rw [HE.out, HXE.out]; rfl
    · rw [HXE.out]; exact World.ownsRow_nil _ _ _ _
  have h6 := Decidable.not_not.1 h6
  have h7 : ¬ ((6 : Int) < (m : Int)) := by omega
  obtain ⟨F, HF⟩ : ∃ F, Hid (facN m = F) := ⟨_, rfl⟩
  have hF0 : 0 < F := by rw [← HF.out]; exact facN_pos m
  have hF7 : F ≤ 720 := by rw [← HF.out]; exact facN_bd m h6
  have HPS : Hid (pst (brB true n zs os vs ko kv veh ids) (brC n zs os vs ko kv veh ids) F = s0) := by
    show _ = _
    have := HS0.out
    unfold brV at this
    rw [HCB.out, brN_yes (by rw [HM.out]; exact h6), HM.out, HF.out] at this
    exact this
  have HROW : Hid (∀ k, k < F → (rowN m k).length = m ∧ (∀ x ∈ rowN m k, x < m) ∧ ofL (rowN m k) ids = unr ids.length ids k) := fun k hk => by
    refine ⟨rowN_length (by rw [HF.out]; exact hk), fun x hx => rowN_lt hx, ?_⟩
    have := rowN_of ids k
    rw [HM.out] at this ⊢
    exact this
  have B9 : Hid (Below w1.heap.size w1 (w1.alloc (.cells #[.func (.func 51) #[] #[.pointer (some ⟨w.heap.size + 1, 0, none⟩), .pointer (some ⟨w.heap.size + 1 + 1, 0, none⟩)]] 85))) := (Below.refl _ _).alloc (Nat.le_refl _) _
  have C2 : Hid (BR w (w1.alloc (.cells #[.func (.func 51) #[] #[.pointer (some ⟨w.heap.size + 1, 0, none⟩), .pointer (some ⟨w.heap.size + 1 + 1, 0, none⟩)]] 85)) #[.int .i64 n, .slice a zs.length cap, .slice ao ko co, .slice av kv cv, .int .i64 fine] veh (.slice bi m c2)) := C1.out.below B9.out
  have F2 : Hid ((w1.alloc (.cells #[.func (.func 51) #[] #[.pointer (some ⟨w.heap.size + 1, 0, none⟩), .pointer (some ⟨w.heap.size + 1 + 1, 0, none⟩)]] 85)).heap[w1.heap.size]? = some (.cells #[.func (.func 51) #[] #[.pointer (some ⟨w.heap.size + 1, 0, none⟩), .pointer (some ⟨w.heap.size + 1 + 1, 0, none⟩)]] 85 (0, 0))) := heap_alloc_new _ _
  have i1 := cell_of_row _ _ 0 _ _ _ C2.out.i
  simp only [List.getElem?_toArray, List.getElem?_cons_zero] at i1
  go_wp2_with fail
  clear i0 i1
  generalize w1.alloc (.cells #[.func (.func 51) #[] #[.pointer (some ⟨w.heap.size + 1, 0, none⟩), .pointer (some ⟨w.heap.size + 1 + 1, 0, none⟩)]] 85) = W2 at *
  obtain ⟨pf, HPF⟩ : ∃ v, Hid (w1.heap.size = v) := ⟨_, rfl⟩
  rw [HPF.out] at F2 ⊢
  refine (rowsOf_any m h6 W2).mono ?_
  rintro e w3 ⟨sl, rfl, hb, ho⟩
  rw [HF.out] at ho
  obtain ⟨g3, cg3, e3⟩ : ∃ g c, sl = .slice (some ⟨g, 0, none⟩) F c := by
    rcases own_shape ho with h | h
    · obtain ⟨ad, c, e⟩ := own_any3 ho
      rw [h] at e
      simp only [Value.slice.injEq] at e
      omega
    · exact h
  subst e3
  have I3 : Hid (IntsAt w3 (some ⟨g3, 0, none⟩) (flatR (gen m m []))) := owns_ints ho
  have C3 : Hid (BR w w3 #[.int .i64 n, .slice a zs.length cap, .slice ao ko co, .slice av kv cv, .int .i64 fine] veh (.slice bi m c2)) := C2.out.below hb
  have F3 : Hid (w3.heap[pf]? = some (.cells #[.func (.func 51) #[] #[.pointer (some ⟨w.heap.size + 1, 0, none⟩), .pointer (some ⟨w.heap.size + 1 + 1, 0, none⟩)]] 85 (0, 0))) := below_row hb (row_lt F2.out) F2.out
  clear hb ho C2 F2 B9 C1
  have HLS : Hid (∀ W c, BR w W #[.int .i64 n, .slice a zs.length cap, .slice ao ko co, .slice av kv cv, .int .i64 fine] veh (.slice bi m c2) → W.heap[pf]? = some (.cells #[.func (.func 51) #[] #[.pointer (some ⟨w.heap.size + 1, 0, none⟩), .pointer (some ⟨w.heap.size + 1 + 1, 0, none⟩)]] 85 (0, 0)) → IntsAt W (some ⟨g3, 0, none⟩) (flatR (gen m m [])) → Calls Try.prog 53 #[.slice (some ⟨g3, 0, none⟩) F c, .func (.func 55) #[] #[.pointer (some ⟨w.heap.size, 0, none⟩), .pointer (some ⟨pf, 0, none⟩)]] W fun e w' => e = .returned (.tuple #[.agg (cellsOf (bestR m s0)), .int .i64 s0.v, .bool s0.f]) ∧ Below W.heap.size W w') := fun W c hC hf hi =>
    leastRt_any g3 c w.heap.size pf m F (brB true n zs os vs ko kv veh ids) (brC n zs os vs ko kv veh ids) W hi HF.out hF7 (fun X k c0 c1 c2' c3 c4 c5 hk hb hpl => by
      obtain ⟨r1, r2, r3⟩ := HROW.out k hk
      have hX := hC.below hb
      exact rowCost_any n fine veh a ao av bi cap ko co kv cv c2 m zs os vs ids (rowN m k) c0 c1 c2' c3 c4 c5 w.heap.size pf (w.heap.size + 1) (w.heap.size + 1 + 1) X (HA.out.below hX.b) (HO.out.below hX.b) (HV.out.below hX.b) HLO.out HLV.out hko hkv HCB.out hX.c (below_row hb (row_lt hf) hf) hpl (hX.rc HI.out) HM.out h6 r1 r2 _ (by rw [r3]; rfl) _ (by rw [r3]; rfl)) s0 HPS.out
  have HMD : Hid (s0.f = true → s0.i < F) := fun h => by
    have := (pst_made (ok := brB true n zs os vs ko kv veh ids) (dl := brC n zs os vs ko kv veh ids) F (by rw [HPS.out]; exact h)).2.2
    rw [HPS.out] at this
    exact this
  have HVZ : Hid (s0.f = false → s0.v = 0) := fun h => by
    have := pst_zero (ok := brB true n zs os vs ko kv veh ids) (dl := brC n zs os vs ko kv veh ids) F (by rw [HPS.out]; exact h)
    rw [HPS.out] at this
    rw [this]
    rfl
  clear HS0 HPS
  obtain ⟨z0, z1, z2, z3, z4, z5, hzl⟩ := list6 (bestR_length m s0)
  have HZL : Hid (bestR m s0 = [z0, z1, z2, z3, z4, z5]) := hzl
  rw [hzl, cells_lit] at HLS
  clear hzl
  obtain ⟨sf, si, sv⟩ := s0
  simp only at HLS HMD HXS HVZ ⊢
  go_wp2_with fail
  refine (HLS.out _ _ C3.out F3.out I3.out).mono ?_
  rintro e w4 ⟨rfl, hb⟩
  have B4 : Hid (Below w4.heap.size w4 (w4.alloc (.cells #[.int .i64 z0, .int .i64 z1, .int .i64 z2, .int .i64 z3, .int .i64 z4, .int .i64 z5] 84))) := (Below.refl _ _).alloc (Nat.le_refl _) _
  have C4 : Hid (BR w (w4.alloc (.cells #[.int .i64 z0, .int .i64 z1, .int .i64 z2, .int .i64 z3, .int .i64 z4, .int .i64 z5] 84)) #[.int .i64 n, .slice a zs.length cap, .slice ao ko co, .slice av kv cv, .int .i64 fine] veh (.slice bi m c2)) := (C3.out.below hb).below B4.out
  have F4 : Hid ((w4.alloc (.cells #[.int .i64 z0, .int .i64 z1, .int .i64 z2, .int .i64 z3, .int .i64 z4, .int .i64 z5] 84)).heap[pf]? = some (.cells #[.func (.func 51) #[] #[.pointer (some ⟨w.heap.size + 1, 0, none⟩), .pointer (some ⟨w.heap.size + 1 + 1, 0, none⟩)]] 85 (0, 0))) := by
    have h := below_row hb (row_lt F3.out) F3.out
    exact below_row B4.out (row_lt h) h
  have N4 : Hid ((w4.alloc (.cells #[.int .i64 z0, .int .i64 z1, .int .i64 z2, .int .i64 z3, .int .i64 z4, .int .i64 z5] 84)).heap[w4.heap.size]? = some (.cells #[.int .i64 z0, .int .i64 z1, .int .i64 z2, .int .i64 z3, .int .i64 z4, .int .i64 z5] 84 (0, 0))) := heap_alloc_new _ _
  clear hb C3 F3 I3 HLS B4
  cases sf
  · have HV0 : Hid (sv = 0) := HVZ.out (by simp)
    have HXE : Hid (xs = []) := HXS.out.symm
    obtain ⟨t0, t1⟩ := cells2 C4.out.t
    have tf := fun i => frozen_of_row _ _ i _ _ C4.out.t
    go_wp2
    refine bodyPost_ret (v := .tuple #[.agg #[Value.int IntKind.i64 0, Value.slice none 0 0], .int .i64 0, .bool false]) (by simp [results, Try.results10, go_sem, t0, t1]) rfl ⟨?_, none, 0, ?_, ?_⟩
    · repeat (first | with_reducible exact C4.out.b | refine Below.setCell ?_ (by simp <;> omega) _)
    · rw [HXE.out, HV0.out]; rfl
    · rw [HXE.out]; exact World.ownsRow_nil _ _ _ _
  · have hsi := HMD.out (by simp)
    obtain ⟨r1, r2, r3⟩ := HROW.out si hsi
    have HPZ : Hid (padL (rowN m si) = [z0, z1, z2, z3, z4, z5]) := HZL.out
    have HXE : Hid (ofL (rowN m si) ids = xs) := by
      show _ = _
      rw [r3]
      exact HXS.out
    have HXL : Hid (xs.length = m) := by show _ = _; rw [← HXE.out, ofL_length]; exact r1
    have HRB : Hid (∀ W, BR w W #[.int .i64 n, .slice a zs.length cap, .slice ao ko co, .slice av kv cv, .int .i64 fine] veh (.slice bi m c2) → Calls Try.prog 51 #[.agg #[.int .i64 z0, .int .i64 z1, .int .i64 z2, .int .i64 z3, .int .i64 z4, .int .i64 z5], .pointer (some ⟨w.heap.size + 1, 0, none⟩), .pointer (some ⟨w.heap.size + 1 + 1, 0, none⟩)] W fun e w' => ∃ ad c, e = .returned (.agg #[.int .i64 veh, .slice ad m c]) ∧ Below W.heap.size W w' ∧ w'.ownsRow W.heap.size 2 1 (.slice ad m c) m (xs.map (Value.int .i64))) := fun W hC => by
      have := routeBy_any (w.heap.size + 1) (w.heap.size + 1 + 1) veh bi c2 m ids (rowN m si) z0 z1 z2 z3 z4 z5 W HPZ.out (hC.rc HI.out) HM.out h6 r1 r2
      rw [HXE.out] at this
      exact this
    clear r1 r2 r3
    have f0 := cell_of_row _ _ 0 _ _ _ F4.out
    simp only [List.getElem?_toArray, List.getElem?_cons_zero] at f0
    obtain ⟨n0, n1, n2, n3, n4, n5⟩ := row6 N4.out
    go_wp2_with fail
    clear f0 n0 n1 n2 n3 n4 n5
    refine (HRB.out _ C4.out).mono ?_
    rintro e w5 ⟨ad, cc, rfl, hb, ho⟩
    have C5 : Hid (BR w w5 #[.int .i64 n, .slice a zs.length cap, .slice ao ko co, .slice av kv cv, .int .i64 fine] veh (.slice bi m c2)) := C4.out.below hb
    have O5 : Hid (w5.ownsRow (w4.alloc (.cells #[.int .i64 z0, .int .i64 z1, .int .i64 z2, .int .i64 z3, .int .i64 z4, .int .i64 z5] 84)).heap.size 2 1 (.slice ad m cc) m (xs.map (Value.int .i64))) := ho
    have L5 : Hid (w.heap.size + 1 + 1 + 1 < (w4.alloc (.cells #[.int .i64 z0, .int .i64 z1, .int .i64 z2, .int .i64 z3, .int .i64 z4, .int .i64 z5] 84)).heap.size) := row_lt C4.out.t
    clear hb ho
    obtain ⟨t0, t1⟩ := cells2 C5.out.t
    have tf := fun i => frozen_of_row _ _ i _ _ C5.out.t
    go_wp2
    refine bodyPost_ret (v := .tuple #[.agg #[.int .i64 veh, .slice ad m cc], .int .i64 sv, .bool true]) (by simp [results, Try.results10, go_sem, t0, t1]) rfl ⟨?_, ad, cc, ?_, ?_⟩
    · repeat (first | with_reducible exact C5.out.b | refine Below.setCell ?_ (by simp <;> omega) _)
    · rw [HXL.out]; rfl
    · rw [HXL.out]; exact owns_base (owns_set (owns_set O5.out L5.out) L5.out) (by have := L5.out; omega)

end Go.Proofs.Ytpfikhegmmpogaa
