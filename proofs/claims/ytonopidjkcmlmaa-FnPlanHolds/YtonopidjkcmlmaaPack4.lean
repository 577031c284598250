import Derived.Test.YtonopidjkcmlmaaPack0
import Derived.Test.YtonopidjkcmlmaaPack1
import Derived.Test.YtonopidjkcmlmaaPack2
import Derived.Test.YtonopidjkcmlmaaPack3
import Derived.Deep.RegionLaw
import Derived.Deep.RegionHeld3
namespace Go.Proofs.Ytonopidjkcmlmaa
open Go.RowKit

/-- The Ids of the first k orders. -/
def idsL (os : List Int) (k : Nat) : List Int := (List.range k).map fun i => og6 os i 0
theorem idsL_succ (os : List Int) (k : Nat) : idsL os (k + 1) = idsL os k ++ [og6 os k 0] := by simp [idsL, List.range_succ]
theorem idsL_length (os : List Int) (k : Nat) : (idsL os k).length = k := by simp [idsL]
/-- A case and a plan in their boxes. -/
def EP (w W : World) (cs : Array Value) : Prop := Below w.heap.size w W ∧ W.heap[w.heap.size]? = some (.cells cs 30 (0, 0)) ∧ W.heap[w.heap.size + 1]? = some (.cells #[Value.slice none 0 0, Value.slice none 0 0] 33 (0, 0))
theorem EP.new (w : World) (cs : Array Value) : EP w ((w.alloc (.cells cs 30)).alloc (.cells #[Value.slice none 0 0, Value.slice none 0 0] 33)) cs :=
  ⟨((Below.refl _ _).alloc (Nat.le_refl _) _).alloc (by simp) _, heap_alloc2_old _ _ _, heap_alloc2_new _ _ _⟩
theorem EP.below {w W W' : World} {cs : Array Value} (h : EP w W cs) (hb : Below W.heap.size W W') : EP w W' cs :=
  ⟨h.1.trans (hb.mono h.1.size), below_row hb (row_lt h.2.1) h.2.1, below_row hb (row_lt h.2.2) h.2.2⟩
theorem EP.alloc {w W : World} {cs : Array Value} (h : EP w W cs) (o : Obj) : EP w (W.alloc o) cs := h.below ((Below.refl _ _).alloc (Nat.le_refl _) _)
theorem EP.b {w W : World} {cs : Array Value} (h : EP w W cs) : Below w.heap.size w W := h.1
theorem EP.grown {w W W' : World} {cs : Array Value} {row : Option Nat} (h : EP w W cs) (hg : W.grownBy W' row) (hr : ∀ g, row = some g → w.heap.size + 1 < g) : EP w W' cs :=
  ⟨h.1.grown hg h.1.size (fun k e => by have := hr k e; omega), (hg.block _ (row_lt h.2.1) (fun e => by have := hr _ e.symm; omega)).trans h.2.1, (hg.block _ (row_lt h.2.2) (fun e => by have := hr _ e.symm; omega)).trans h.2.2⟩
theorem EP.set {w W : World} {cs : Array Value} (h : EP w W cs) {k i : Nat} {v : Value} (hk : w.heap.size + 1 < k) : EP w (W.setCell ⟨k, i, none⟩ v) cs :=
  ⟨h.1.setCell (by simp; omega) _, row_set' h.2.1 (by omega), row_set' h.2.2 (by omega)⟩
end Go.Proofs.Ytonopidjkcmlmaa

namespace Go.Proofs.Ytonopidjkcmlmaa
open Go.RowKit

theorem ids_range {n fi : Int} {zs O V : List Int} {ko kv : Nat} (h : caseB n zs O V ko kv fi = true) : ∀ x ∈ idsL O ko, -9223372036854775808 ≤ x ∧ x < 9223372036854775808 := fun x hx => by
  unfold caseB at h
  simp only [Bool.and_eq_true] at h
  obtain ⟨_, ht⟩ := ordsB_true h.1.1.2
  unfold idsL at hx
  obtain ⟨i, hi, rfl⟩ := List.mem_map.1 hx
  have := (ht i (List.mem_range.1 hi)).1
  unfold ordB inB at this
  simp only [Bool.and_eq_true, decide_eq_true_eq] at this
  omega

end Go.Proofs.Ytonopidjkcmlmaa

namespace Go.Proofs.Ytonopidjkcmlmaa
open Go.RowKit

theorem inf_parts {E : TypeId} {z : Value} {size bytes : Nat} (h : (Try.prog.info? E).map (fun i => (i.zero, i.size, i.bytes)) = some (some z, size, bytes)) : ∃ i0, Try.prog.info? E = some i0 ∧ i0.zero = some z ∧ i0.size = size ∧ i0.bytes = bytes := by
  cases hq : Try.prog.info? E with
  | none => rw [hq] at h; simp at h
  | some i0 =>
    rw [hq] at h
    simp only [Option.map_some, Option.some.injEq, Prod.mk.injEq] at h
    exact ⟨i0, rfl, h.1, h.2.1, h.2.2⟩
theorem add_plain (b off j : Nat) : (⟨b, off, none⟩ : Addr).add j = ⟨b, off + j, none⟩ := by unfold Addr.add; split <;> simp_all

/-- 'append' of elements of any kind (size cells each) to a slice of the call's own. -/
theorem append_vals {T E : TypeId} {z : Value} {size bytes : Nat} (ht : Try.prog.underlying T = some (.slice E)) (hinf : (Try.prog.info? E).map (fun i => (i.zero, i.size, i.bytes)) = some (some z, size, bytes)) (hzs : z.cells.size = size) (hsz : 0 < size)
    (w : World) {ops : Array Oper} {rest : List Oper} {o : Oper} {a : Act} {Q : Exit → Act → World → Prop}
    (hg : o.guard = none) (s x : Operand) (hop : o.op = Op.call { callee := Callee.builtin Builtin.append, args := #[s, x], argTypes := #[T, T] })
    (base : Nat) (v : Value) (k : Nat) (xs : List Value) (hs : a.eval s = v) (hown : w.ownsRow base E size v k xs) (b off m c : Nat) (ys : List Value) (hx : a.eval x = .slice (some ⟨b, off, none⟩) m c)
    (hy : ys.length = m * size) (hc : ∀ j u, ys[j]? = some u → w.cell? ⟨b, off + j, none⟩ = some u) (h1 : ∀ u ∈ ys, u.oneCell' = true) (h63 : k + m ≤ 70368744177663) (hbytes : (k + m) * bytes ≤ 140737488355328) (hb : base ≤ w.heap.size)
    (hK : ∀ v' w', w'.ownsRow base E size v' (k + m) (xs ++ ys) → w.grownBy w' v.ownBlock → (v'.ownBlock = v.ownBlock ∨ v'.ownBlock = some w.heap.size) → (v' = .slice none 0 0 ↔ v = .slice none 0 0 ∧ m = 0) → wpList Try.prog ops Q rest (a.put o.dst v') w') :
    wpList Try.prog ops Q (o :: rest) a w := by
  obtain ⟨i0, hi, hz0, hz1, hz2⟩ := inf_parts hinf
  have hnews : ∀ j u, ys[j]? = some u → w.cell? ((⟨b, off, none⟩ : Addr).add j) = some u := fun j u hu => by rw [add_plain]; exact hc j u hu
  obtain ⟨v', w', hrun, r1, r2, r3⟩ := run_append_own (P := Try.prog) w base T o.type _ i0 _ size bytes ht hi hz0 hz1 hz2 hzs hsz v k xs hown ⟨b, off, none⟩ m c ys hy hnews h1 (by unfold maxLen; omega) hbytes hb
  have r4 := append_blk (P := Try.prog) w base T o.type _ i0 _ size bytes ht hi hz0 hz1 hz2 v k xs hown ⟨b, off, none⟩ m c ys hy hnews h1 (by unfold maxLen; omega) hbytes hrun
  exact wpList_run v' hg (exec_app s x _ v _ hop hs hx hrun) (hK v' w' r1 r2 r4 r3)

/-- The same as a step of a region that draws. -/
theorem step_append_vals {T E : TypeId} {z : Value} {size bytes : Nat} (ht : Try.prog.underlying T = some (.slice E)) (hinf : (Try.prog.info? E).map (fun i => (i.zero, i.size, i.bytes)) = some (some z, size, bytes)) (hzs : z.cells.size = size) (hsz : 0 < size)
    {ops : Array Oper} {o : Oper} {a : Act} {w : World} {K : Act → World → Prop} {Q : Exit → Act → World → Prop} {Els : Prop}
    (hg : o.guard = none) (s x : Operand) (hop : o.op = Op.call { callee := Callee.builtin Builtin.append, args := #[s, x], argTypes := #[T, T] })
    (base : Nat) (v : Value) (k : Nat) (xs : List Value) (hs : a.eval s = v) (hown : w.ownsRow base E size v k xs) (b off m c : Nat) (ys : List Value) (hx : a.eval x = .slice (some ⟨b, off, none⟩) m c)
    (hy : ys.length = m * size) (hc : ∀ j u, ys[j]? = some u → w.cell? ⟨b, off + j, none⟩ = some u) (h1 : ∀ u ∈ ys, u.oneCell' = true) (h63 : k + m ≤ 70368744177663) (hbytes : (k + m) * bytes ≤ 140737488355328) (hb : base ≤ w.heap.size)
    (hK : ∀ v' w', w'.ownsRow base E size v' (k + m) (xs ++ ys) → w.grownBy w' v.ownBlock → (v'.ownBlock = v.ownBlock ∨ v'.ownBlock = some w.heap.size) → (v' = .slice none 0 0 ↔ v = .slice none 0 0 ∧ m = 0) → K (a.put o.dst v') w') :
    if Region.wanted o (yielded ops a.tmps) = true then Oper.wp Try.prog o a w K Q else Els := by
  have hw : Region.wanted o (yielded ops a.tmps) = true := by simp [Region.wanted, hg]
  rw [if_pos hw]
  obtain ⟨i0, hi, hz0, hz1, hz2⟩ := inf_parts hinf
  have hnews : ∀ j u, ys[j]? = some u → w.cell? ((⟨b, off, none⟩ : Addr).add j) = some u := fun j u hu => by rw [add_plain]; exact hc j u hu
  obtain ⟨v', w', hrun, r1, r2, r3⟩ := run_append_own (P := Try.prog) w base T o.type _ i0 _ size bytes ht hi hz0 hz1 hz2 hzs hsz v k xs hown ⟨b, off, none⟩ m c ys hy hnews h1 (by unfold maxLen; omega) hbytes hb
  have r4 := append_blk (P := Try.prog) w base T o.type _ i0 _ size bytes ht hi hz0 hz1 hz2 v k xs hown ⟨b, off, none⟩ m c ys hy hnews h1 (by unfold maxLen; omega) hbytes hrun
  unfold Oper.wp
  simp [execOp, hop, resolve, invoke, builtin, hs, hx, hrun, Result.andThen]
  exact hK _ _ r1 r2 r4 r3

end Go.Proofs.Ytonopidjkcmlmaa

namespace Go.Proofs.Ytonopidjkcmlmaa
open Go.RowKit

theorem ints_set {W : World} {g o k i : Nat} {zs : List Int} {v : Value} (h : IntsAt W (some ⟨g, o, none⟩) zs) (hne : g ≠ k) : IntsAt (W.setCell ⟨k, i, none⟩ v) (some ⟨g, o, none⟩) zs := by
  intro j hj
  exact ⟨g, o, rfl, keep_set (ints_cell h hj rfl) hne⟩

theorem cells8 {w : World} {k : Nat} {c0 c1 c2 c3 c4 c5 c6 c7 : Value} {T : TypeId} (r : w.heap[k]? = some (.cells #[c0, c1, c2, c3, c4, c5, c6, c7] T (0, 0))) :
    w.cell? ⟨k, 0, none⟩ = some c0 ∧ w.cell? ⟨k, 1, none⟩ = some c1 ∧ w.cell? ⟨k, 2, none⟩ = some c2 ∧ w.cell? ⟨k, 3, none⟩ = some c3 ∧ w.cell? ⟨k, 4, none⟩ = some c4 ∧ w.cell? ⟨k, 5, none⟩ = some c5 ∧ w.cell? ⟨k, 6, none⟩ = some c6 ∧ w.cell? ⟨k, 7, none⟩ = some c7 := by
  refine ⟨?_, ?_, ?_, ?_, ?_, ?_, ?_, ?_⟩
  · rw [cell_of_row _ _ 0 _ _ _ r]; simp
  · rw [cell_of_row _ _ 1 _ _ _ r]; simp
  · rw [cell_of_row _ _ 2 _ _ _ r]; simp
  · rw [cell_of_row _ _ 3 _ _ _ r]; simp
  · rw [cell_of_row _ _ 4 _ _ _ r]; simp
  · rw [cell_of_row _ _ 5 _ _ _ r]; simp
  · rw [cell_of_row _ _ 6 _ _ _ r]; simp
  · rw [cell_of_row _ _ 7 _ _ _ r]; simp

/-- A case, a route and a tour in their boxes. -/
def CRT (w W : World) (cs rs ts : Array Value) : Prop := CR w W cs rs ∧ W.heap[w.heap.size + 2]? = some (.cells ts 83 (0, 0))
theorem CRT.new (w : World) (cs rs ts : Array Value) : CRT w (((w.alloc (.cells cs 30)).alloc (.cells rs 46)).alloc (.cells ts 83)) cs rs ts := by
  refine ⟨(CR.new w cs rs).alloc _, ?_⟩
  have := heap_alloc_new ((w.alloc (.cells cs 30)).alloc (.cells rs 46)) (.cells ts 83)
  simpa using this
theorem CRT.below {w W W' : World} {cs rs ts : Array Value} (h : CRT w W cs rs ts) (hb : Below W.heap.size W W') : CRT w W' cs rs ts :=
  ⟨h.1.below hb, below_row hb (row_lt h.2) h.2⟩
theorem CRT.b {w W : World} {cs rs ts : Array Value} (h : CRT w W cs rs ts) : Below w.heap.size w W := h.1.1
theorem CRT.alloc {w W : World} {cs rs ts : Array Value} (h : CRT w W cs rs ts) (o : Obj) : CRT w (W.alloc o) cs rs ts := h.below ((Below.refl _ _).alloc (Nat.le_refl _) _)

set_option maxHeartbeats 1000000 in
theorem loadedTour_any (n fine veh : Int) (a ao av bi : Option Addr) (cap ko co kv cv c2 : Nat) (zs os vs ids : List Int) (w : World) (hA : IntsAt w a zs) (hO : IntsAt w ao os) (hV : IntsAt w av vs) (hI : IntsAt w bi ids) (hlo : os.length = ko * 6) (hlv : vs.length = kv * 5) (hko : ko ≤ 9223372036854775807) (hkv : kv ≤ 9223372036854775807) (hli : ids.length ≤ 9223372036854775807) (hc2 : ids.length ≤ c2) (hcB : caseB n zs os vs ko kv fine = true) :
    Calls Try.prog 111 #[.agg #[.int .i64 n, .slice a zs.length cap, .slice ao ko co, .slice av kv cv, .int .i64 fine], .agg #[.int .i64 veh, .slice bi ids.length c2]] w fun e w' => Below w.heap.size w w' ∧ ((formV true vs os kv ko veh ids ≠ 0 ∧ e = .returned (.tuple #[.agg #[Value.int IntKind.i64 0, Value.slice none 0 0, Value.int IntKind.i64 0, Value.int IntKind.i64 0, Value.int IntKind.i64 0, Value.int IntKind.i64 0, Value.int IntKind.i64 0, Value.slice none 0 0], .int .i64 (formV true vs os kv ko veh ids)])) ∨ (formV true vs os kv ko veh ids = 0 ∧ ∃ g, w.heap.size ≤ g ∧ e = .returned (.tuple #[.agg #[.int .i64 n, .slice a zs.length cap, .int .i64 (fnd5F vs kv veh 0), .int .i64 (fnd5F vs kv veh 1), .int .i64 (fnd5F vs kv veh 2), .int .i64 (fnd5F vs kv veh 3), .int .i64 (fnd5F vs kv veh 4), .slice (some ⟨g, 0, none⟩) ids.length ids.length], .int .i64 0]) ∧ IntsAt w' (some ⟨g, 0, none⟩) (rosOf os ko ids))) := by
  have HA : Hid (IntsAt w a zs) := hA
  have HO : Hid (IntsAt w ao os) := hO
  have HV : Hid (IntsAt w av vs) := hV
  have HI : Hid (IntsAt w bi ids) := hI
  have HLO : Hid _ := hlo
  have HLV : Hid _ := hlv
  clear hA hO hV hI hlo hlv
  have HC : Hid (caseB n zs os vs ko kv fine = true) := hcB
  clear hcB
  have HC0 : Hid (CRT w (((w.alloc (.cells #[Value.int IntKind.i64 n, Value.slice a zs.length cap, Value.slice ao ko co, Value.slice av kv cv, Value.int IntKind.i64 fine] 30)).alloc (.cells #[Value.int IntKind.i64 veh, Value.slice bi ids.length c2] 46)).alloc (.cells #[Value.int IntKind.i64 0, Value.slice none 0 0, Value.int IntKind.i64 0, Value.int IntKind.i64 0, Value.int IntKind.i64 0, Value.int IntKind.i64 0, Value.int IntKind.i64 0, Value.slice none 0 0] 83)) _ _ _) := CRT.new w _ _ _
  obtain ⟨r, HR⟩ : ∃ r, Hid (formV true vs os kv ko veh ids = r) := ⟨_, rfl⟩
  rw [HR.out]
  go_enter Try.func111, Try.ntmps111
  obtain ⟨c0, c1, c2', c3, c4⟩ := cells5 HC0.out.1.2.1
  obtain ⟨d0, d1⟩ := cells2 HC0.out.1.2.2
  go_wp2_with fail
  clear c0 c1 c2' c3 c4 d0 d1
  refine (findVehicle_any n fine veh a ao av _ cap ko co kv cv vs _ (HV.out.below HC0.out.1.1) HLV.out hkv).mono ?_
  rintro e w2 ⟨rfl, hb⟩
  obtain ⟨v0, G0⟩ : ∃ t, Hid (fnd5F vs kv veh 0 = t) := ⟨_, rfl⟩
  obtain ⟨v1, G1⟩ : ∃ t, Hid (fnd5F vs kv veh 1 = t) := ⟨_, rfl⟩
  obtain ⟨v2, G2⟩ : ∃ t, Hid (fnd5F vs kv veh 2 = t) := ⟨_, rfl⟩
  obtain ⟨v3, G3⟩ : ∃ t, Hid (fnd5F vs kv veh 3 = t) := ⟨_, rfl⟩
  obtain ⟨v4, G4⟩ : ∃ t, Hid (fnd5F vs kv veh 4 = t) := ⟨_, rfl⟩
  rw [G0.out, G1.out, G2.out, G3.out, G4.out]
  have C2 : Hid (CRT w (w2.alloc (Obj.cells #[Value.int IntKind.i64 v0, Value.int IntKind.i64 v1, Value.int IntKind.i64 v2, Value.int IntKind.i64 v3, Value.int IntKind.i64 v4] 78)) _ _ _) := (HC0.out.below hb).alloc _
  have RV2 : Hid ((w2.alloc (Obj.cells #[Value.int IntKind.i64 v0, Value.int IntKind.i64 v1, Value.int IntKind.i64 v2, Value.int IntKind.i64 v3, Value.int IntKind.i64 v4] 78)).heap[w2.heap.size]? = _) := heap_alloc_new _ _
  clear hb HC0
  obtain ⟨t0, t1, t2, t3, t4, t5, t6, t7⟩ := cells8 C2.out.2
  have tf := fun i => frozen_of_row _ _ i _ _ C2.out.2
  cases ht : fnd5T vs kv veh
  · have HV1 : Hid (r = 2) := HR.out.symm.trans (formV_2 rfl ht)
    go_wp2
    refine bodyPost_ret (v := .tuple #[.agg #[Value.int IntKind.i64 0, Value.slice none 0 0, Value.int IntKind.i64 0, Value.int IntKind.i64 0, Value.int IntKind.i64 0, Value.int IntKind.i64 0, Value.int IntKind.i64 0, Value.slice none 0 0], .int .i64 2]) (by simp [results, Try.results111, go_sem, t0, t1, t2, t3, t4, t5, t6, t7]) rfl ⟨?_, .inl ⟨by rw [HV1.out]; decide, by rw [HV1.out]⟩⟩
    repeat (first | with_reducible exact C2.out.b | refine Below.setCell ?_ (by simp <;> omega) _)
  · have HT5 : Hid _ := ht
    clear ht
    obtain ⟨c0, c1, c2', c3, c4⟩ := cells5 C2.out.1.2.1
    obtain ⟨d0, d1⟩ := cells2 C2.out.1.2.2
    go_wp2_with fail
    clear c0 c1 c2' c3 c4 d0 d1 t0 t1 t2 t3 t4 t5 t6 t7 tf
    generalize w2.alloc (Obj.cells #[Value.int IntKind.i64 v0, Value.int IntKind.i64 v1, Value.int IntKind.i64 v2, Value.int IntKind.i64 v3, Value.int IntKind.i64 v4] 78) = W2 at *
    generalize w2.heap.size = gv at *
    refine (stopsOf_any n fine a ao av bi cap ko co kv cv c2 zs os ids W2 (HO.out.below C2.out.1.1) (HI.out.below C2.out.1.1) HLO.out hko hli hc2).mono ?_
    rintro e w3 ⟨hb, ⟨hst, rfl⟩ | ⟨hst, rfl, hros⟩⟩
    · have C3 : Hid (CRT w w3 _ _ _) := C2.out.below hb
      have HV1 : Hid (r = 3) := HR.out.symm.trans (formV_3 rfl HT5.out hst)
      obtain ⟨t0, t1, t2, t3, t4, t5, t6, t7⟩ := cells8 C3.out.2
      have tf := fun i => frozen_of_row _ _ i _ _ C3.out.2
      clear hb hst
      go_wp2
      refine bodyPost_ret (v := .tuple #[.agg #[Value.int IntKind.i64 0, Value.slice none 0 0, Value.int IntKind.i64 0, Value.int IntKind.i64 0, Value.int IntKind.i64 0, Value.int IntKind.i64 0, Value.int IntKind.i64 0, Value.slice none 0 0], .int .i64 3]) (by simp [results, Try.results111, go_sem, t0, t1, t2, t3, t4, t5, t6, t7]) rfl ⟨?_, .inl ⟨by rw [HV1.out]; decide, by rw [HV1.out]⟩⟩
      repeat (first | with_reducible exact C3.out.b | refine Below.setCell ?_ (by simp <;> omega) _)
    · have HST : Hid (stopsB os ko ids = true) := hst
      have C3 : Hid (CRT w w3 _ _ _) := C2.out.below hb
      have RV3 : Hid (w3.heap[gv]? = _) := below_row hb (row_lt RV2.out) RV2.out
      have HROS : Hid (IntsAt w3 (some ⟨W2.heap.size + 1, 0, none⟩) (rosOf os ko ids)) := hros
      have HGR : Hid (w.heap.size + 2 < W2.heap.size + 1) := Nat.lt_succ_of_lt (row_lt C2.out.2)
      clear hb hst hros C2 RV2
      generalize W2.heap.size + 1 = gr at *
      obtain ⟨q0, q1, q2, q3, q4⟩ := cells5 RV3.out
      obtain ⟨hmat, hords, hvehs, hn1, _⟩ := caseB_parts HC.out
      have hroom := (fnd5F_bd hvehs hn1 veh).2.1
      rw [G2.out] at hroom
      have HOB : Hid (ordsB n os ko = true) := hords
      have HN1 : Hid (1 ≤ n) := hn1
      clear hmat hords hvehs hn1
      have h12 := (stopsB_true HST.out).1
      go_wp2_with fail
      clear q0 q1 q2 q3 q4
      go_loopw [9, 36] (fun rm t wr => ∃ k : Nat, k ≤ ids.length ∧ t = .int .i64 k ∧ rm = .int .i64 (v2 - loadTo os ko ids k) ∧ CRT w wr #[Value.int IntKind.i64 n, Value.slice a zs.length cap, Value.slice ao ko co, Value.slice av kv cv, Value.int IntKind.i64 fine] #[Value.int IntKind.i64 veh, Value.slice bi ids.length c2] #[Value.int IntKind.i64 0, Value.slice none 0 0, Value.int IntKind.i64 0, Value.int IntKind.i64 0, Value.int IntKind.i64 0, Value.int IntKind.i64 0, Value.int IntKind.i64 0, Value.slice none 0 0] ∧ wr.heap[gv]? = some (.cells #[Value.int IntKind.i64 v0, Value.int IntKind.i64 v1, Value.int IntKind.i64 v2, Value.int IntKind.i64 v3, Value.int IntKind.i64 v4] 78 (0, 0)) ∧ IntsAt wr (some ⟨gr, 0, none⟩) (rosOf os ko ids)) (fun _ t _ => ids.length - (intOf t).toNat)
      case atStart => exact ⟨0, Nat.zero_le _, rfl, by simp [loadTo], C3.out, RV3.out, HROS.out⟩
      case round =>
        clear C3 RV3 HROS
        obtain ⟨k, hk, rfl, rfl, hb, hrv, hros⟩ := hrel
        have hbd := loadTo_bd HOB.out ids k
        have HB : Hid (CRT w wr _ _ _) := hb
        have HRV : Hid (wr.heap[gv]? = _) := hrv
        have HROS : Hid (IntsAt wr (some ⟨gr, 0, none⟩) (rosOf os ko ids)) := hros
        obtain ⟨s0, HS0⟩ : ∃ s, Hid (loadTo os ko ids k = s) := ⟨_, rfl⟩
        rw [HS0.out] at hbd ⊢
        clear hb hrv hros
        by_cases hlt : k < ids.length
        · obtain ⟨b', off', e, hcs⟩ := IntsAt.some HROS.out (j := k * 6) (by rw [rosOf_length]; omega)
          simp at e
          obtain ⟨rfl, rfl⟩ := e
          obtain ⟨r0, r1, r2, r3, r4, r5⟩ := row6_at hcs (rosOf_length os ko ids) k hlt
          clear hcs
          simp only [Nat.zero_add] at r0 r1 r2 r3 r4 r5
          obtain ⟨id, HID⟩ : ∃ i, Hid (ids.getD k 0 = i) := ⟨_, rfl⟩
          rw [rosOf_at os ko ids hlt (by omega), HID.out] at r0 r1 r2 r3 r4 r5
          have hl2 := fnd6F_load HOB.out id
          obtain ⟨o0, H0⟩ : ∃ t, Hid (fnd6F os ko id 0 = t) := ⟨_, rfl⟩
          obtain ⟨o1, H1⟩ : ∃ t, Hid (fnd6F os ko id 1 = t) := ⟨_, rfl⟩
          obtain ⟨o2, H2⟩ : ∃ t, Hid (fnd6F os ko id 2 = t) := ⟨_, rfl⟩
          obtain ⟨o3, H3⟩ : ∃ t, Hid (fnd6F os ko id 3 = t) := ⟨_, rfl⟩
          obtain ⟨o4, H4⟩ : ∃ t, Hid (fnd6F os ko id 4 = t) := ⟨_, rfl⟩
          obtain ⟨o5, H5⟩ : ∃ t, Hid (fnd6F os ko id 5 = t) := ⟨_, rfl⟩
          rw [H2.out] at hl2
          rw [H0.out] at r0
          rw [H1.out] at r1
          rw [H2.out] at r2
          rw [H3.out] at r3
          rw [H4.out] at r4
          rw [H5.out] at r5
          have HL1 : Hid (loadTo os ko ids (k + 1) = s0 + o2) := by
            show _ = _
            unfold loadTo
            rw [HS0.out, HID.out, H2.out]
          go_wp2
          exact ⟨⟨k + 1, by omega, by go_num, by rw [HL1.out]; go_num, HB.out.alloc _, (heap_alloc_old _ _ (row_lt HRV.out)).trans HRV.out, HROS.out.below ((Below.refl _ _).alloc (Nat.le_refl _) _)⟩, by simp [intOf]; omega⟩
        · have hkl : k = ids.length := by omega
          have HS0' : Hid (loadTo os ko ids ids.length = s0) := hkl ▸ HS0.out
          obtain ⟨t0, t1, t2, t3, t4, t5, t6, t7⟩ := cells8 HB.out.2
          have tf := fun i => frozen_of_row _ _ i _ _ HB.out.2
          clear hkl
          by_cases hroom2 : v2 < s0
          · have HV1 : Hid (r = 4) := HR.out.symm.trans (formV_4 rfl HT5.out HST.out (by rw [HS0'.out, G2.out]; exact hroom2))
            go_wp2
            refine bodyPost_ret (v := .tuple #[.agg #[Value.int IntKind.i64 0, Value.slice none 0 0, Value.int IntKind.i64 0, Value.int IntKind.i64 0, Value.int IntKind.i64 0, Value.int IntKind.i64 0, Value.int IntKind.i64 0, Value.slice none 0 0], .int .i64 4]) (by simp [results, Try.results111, go_sem, t0, t1, t2, t3, t4, t5, t6, t7]) rfl ⟨?_, .inl ⟨by rw [HV1.out]; decide, by rw [HV1.out]⟩⟩
            repeat (first | with_reducible exact HB.out.b | refine Below.setCell ?_ (by simp <;> omega) _)
          · have HV1 : Hid (r = 0) := HR.out.symm.trans (formV_0 rfl HT5.out HST.out (by rw [HS0'.out, G2.out]; exact hroom2))
            obtain ⟨q0, q1, q2, q3, q4⟩ := cells5 HRV.out
            obtain ⟨c0, c1, c2', c3, c4⟩ := cells5 HB.out.1.2.1
            go_wp2
            refine bodyPost_ret (v := .tuple #[.agg #[.int .i64 n, .slice a zs.length cap, .int .i64 v0, .int .i64 v1, .int .i64 v2, .int .i64 v3, .int .i64 v4, .slice (some ⟨gr, 0, none⟩) ids.length ids.length], .int .i64 0]) (by simp [results, Try.results111, go_sem, t0, t1, t2, t3, t4, t5, t6, t7]) rfl ⟨?_, .inr ⟨HV1.out, gr, by have := HGR.out; omega, ?_, ?_⟩⟩
            · repeat (first | with_reducible exact HB.out.b | refine Below.setCell ?_ (by simp <;> omega) _)
            · rw [G0.out, G1.out, G2.out, G3.out, G4.out]
            · repeat (first | with_reducible exact HROS.out | with_reducible refine ints_set ?_ (by have := HGR.out; omega))

end Go.Proofs.Ytonopidjkcmlmaa

namespace Go.Proofs.Ytonopidjkcmlmaa
open Go.RowKit

theorem keptAt_mk {n : Int} {zs ros starts : List Int} {home frm : Int} {k : Nat} {t f p o1 o3 o4 d : Int} (ht : starts.getD k 0 = t) (hf : freeK ros starts frm k = f) (hp : plc ros home k = p) (h1 : og6 ros k 1 = o1) (h3 : og6 ros k 3 = o3) (h4 : og6 ros k 4 = o4) (hd : tmI n zs p o1 = d) :
    keptAt n zs ros starts home frm k = inB t (max o3 (f + d)) o4 := by
  unfold keptAt
  rw [ht, hf, hp, h1, h3, h4, hd]

theorem max_if (x y : Int) : (if x < y then y else x) = max x y := by
  split <;> omega

theorem drive_is (n x y : Int) (v0 v1 v2 v3 v4 : Int) (a ar : Option Addr) (cap kr cr : Nat) (zs : List Int) (w : World) (d : Int) (hd : tmI n zs x y = d) (hm : matB n zs = true) (hx : 0 ≤ x ∧ x < n) (hy : 0 ≤ y ∧ y < n) (hA : IntsAt w a zs) :
    Calls Try.prog 86 #[.agg #[.int .i64 n, .slice a zs.length cap, .int .i64 v0, .int .i64 v1, .int .i64 v2, .int .i64 v3, .int .i64 v4, .slice ar kr cr], .int .i64 x, .int .i64 y] w fun e w' => e = .returned (.int .i64 d) ∧ Below w.heap.size w w' := hd ▸ drive_I n x y v0 v1 v2 v3 v4 a ar cap kr cr zs w hm hx hy hA
theorem within_is (n lo hi : Int) (w : World) (v : Bool) (hv : inB n lo hi = v) :
    Calls Try.prog 76 #[.int .i64 n, .int .i64 lo, .int .i64 hi] w fun e w' => e = .returned (.bool v) ∧ w' = w := hv ▸ within_any n lo hi w

end Go.Proofs.Ytonopidjkcmlmaa

namespace Go.Proofs.Ytonopidjkcmlmaa
open Go.RowKit

/-- A case, a route and the route that is answered, in their boxes. -/
def CRR (w W : World) (cs rs ts : Array Value) : Prop := CR w W cs rs ∧ W.heap[w.heap.size + 2]? = some (.cells ts 46 (0, 0))
theorem CRR.new (w : World) (cs rs ts : Array Value) : CRR w (((w.alloc (.cells cs 30)).alloc (.cells rs 46)).alloc (.cells ts 46)) cs rs ts :=
  ⟨(CR.new w cs rs).alloc _, by have := heap_alloc_new ((w.alloc (.cells cs 30)).alloc (.cells rs 46)) (.cells ts 46); simpa using this⟩
theorem CRR.below {w W W' : World} {cs rs ts : Array Value} (h : CRR w W cs rs ts) (hb : Below W.heap.size W W') : CRR w W' cs rs ts :=
  ⟨h.1.below hb, below_row hb (row_lt h.2) h.2⟩
theorem CRR.b {w W : World} {cs rs ts : Array Value} (h : CRR w W cs rs ts) : Below w.heap.size w W := h.1.1
theorem CRR.alloc {w W : World} {cs rs ts : Array Value} (h : CRR w W cs rs ts) (o : Obj) : CRR w (W.alloc o) cs rs ts := h.below ((Below.refl _ _).alloc (Nat.le_refl _) _)
theorem CRR.big {w W : World} {cs rs ts : Array Value} (h : CRR w W cs rs ts) : w.heap.size + 2 < W.heap.size := row_lt h.2

theorem CRR.set {w W : World} {cs rs ts : Array Value} (h : CRR w W cs rs ts) (u1 u2 : Value) : CR w ((W.setCell ⟨w.heap.size + 1 + 1, 0, none⟩ u1).setCell ⟨w.heap.size + 1 + 1, 1, none⟩ u2) cs rs := (h.1.set (by omega)).set (by omega)
theorem cr7 {w W : World} {c0 c1 c2 c3 c4 r0 r1 : Value} (h : CR w W #[c0, c1, c2, c3, c4] #[r0, r1]) :
    W.cell? ⟨w.heap.size, 0, none⟩ = some c0 ∧ W.cell? ⟨w.heap.size, 1, none⟩ = some c1 ∧ W.cell? ⟨w.heap.size, 2, none⟩ = some c2 ∧ W.cell? ⟨w.heap.size, 3, none⟩ = some c3 ∧ W.cell? ⟨w.heap.size, 4, none⟩ = some c4 ∧ W.cell? ⟨w.heap.size + 1, 0, none⟩ = some r0 ∧ W.cell? ⟨w.heap.size + 1, 1, none⟩ = some r1 := by
  obtain ⟨k0, k1, k2, k3, k4⟩ := cells5 h.2.1
  obtain ⟨k5, k6⟩ := cells2 h.2.2
  exact ⟨k0, k1, k2, k3, k4, k5, k6⟩

theorem owns_set2 {w : World} {base k b : Nat} {v u1 u2 : Value} {e : TypeId} {size : Nat} {xs : List Value} (h : w.ownsRow base e size v k xs) (hb : b < base) : ((w.setCell ⟨b, 0, none⟩ u1).setCell ⟨b, 1, none⟩ u2).ownsRow base e size v k xs := ownsRow_setCell_below (ownsRow_setCell_below h hb u1) hb u2

end Go.Proofs.Ytonopidjkcmlmaa

namespace Go.Proofs.Ytonopidjkcmlmaa
open Go.RowKit

set_option maxHeartbeats 2000000 in
theorem specEmpty_any (n fine : Int) (a ao av : Option Addr) (cap ko co kv cv : Nat) (zs os vs : List Int) (w : World) (hA : IntsAt w a zs) (hO : IntsAt w ao os) (hV : IntsAt w av vs) (hlo : os.length = ko * 6) (hlv : vs.length = kv * 5) (hko : ko ≤ 9223372036854775807) (hkv : kv ≤ 9223372036854775807) (cb : Bool) (K : Nat) (X : List Int) (hcb : caseB n zs os vs ko kv fine = cb) (hK : (if cb = true then ko else 0) = K) (hX : (if cb = true then idsL os ko else []) = X) :
    Calls Try.prog 67 #[.agg #[.int .i64 n, .slice a zs.length cap, .slice ao ko co, .slice av kv cv, .int .i64 fine]] w fun e w' => ∃ sl, e = .returned (.tuple #[.agg #[.slice none 0 0, sl], .bool cb]) ∧ Below w.heap.size w w' ∧ w'.ownsRow w.heap.size 2 1 sl K (X.map (Value.int .i64)) := by
  have HA : Hid (IntsAt w a zs) := hA
  have HO : Hid (IntsAt w ao os) := hO
  have HV : Hid (IntsAt w av vs) := hV
  have HLO : Hid _ := hlo
  have HLV : Hid _ := hlv
  clear hA hO hV hlo hlv
  have HKK : Hid ((if cb = true then ko else 0) = K) := hK
  have HXX : Hid ((if cb = true then idsL os ko else []) = X) := hX
  have HCB : Hid (caseB n zs os vs ko kv fine = cb) := hcb
  clear hK hX hcb
  have HE0 : Hid (EP w ((w.alloc (.cells #[Value.int IntKind.i64 n, Value.slice a zs.length cap, Value.slice ao ko co, Value.slice av kv cv, Value.int IntKind.i64 fine] 30)).alloc (.cells #[Value.slice none 0 0, Value.slice none 0 0] 33)) _) := EP.new w _
  go_enter Try.func67, Try.ntmps67
  obtain ⟨c0, c1, c2', c3, c4⟩ := cells5 HE0.out.2.1
  go_wp2_with fail
  clear c0 c1 c2' c3 c4
  refine (specCase_any n fine a ao av cap ko co kv cv zs os vs _ (HA.out.below HE0.out.1) (HO.out.below HE0.out.1) (HV.out.below HE0.out.1) HLO.out HLV.out hko hkv).mono ?_
  rintro e w1 ⟨rfl, hb⟩
  have E1 : Hid (EP w w1 _) := HE0.out.below hb
  clear hb HE0
  rw [HCB.out]
  cases cb
  · have hk0 : K = 0 := HKK.out.symm.trans (if_neg (by simp))
    have hx0 : X = [] := HXX.out.symm.trans (if_neg (by simp))
    subst hk0 hx0
    obtain ⟨p0, p1⟩ := cells2 E1.out.2.2
    have pf := fun i => frozen_of_row _ _ i _ _ E1.out.2.2
    go_wp2
    refine bodyPost_ret (v := .tuple #[.agg #[.slice none 0 0, .slice none 0 0], .bool false]) (by simp [results, Try.results67, go_sem, p0, p1]) rfl ⟨.slice none 0 0, rfl, ?_, World.ownsRow_nil _ _ _ _⟩
    repeat (first | with_reducible exact E1.out.b | refine Below.setCell ?_ (by simp <;> omega) _)
  · have hk1 : K = ko := HKK.out.symm.trans (if_pos rfl)
    have hx1 : X = idsL os ko := HXX.out.symm.trans (if_pos rfl)
    subst hk1 hx1
    have h12 : K ≤ 12 := (ordsB_true (caseB_ords HCB.out)).1
    have E2 : Hid (EP w (w1.alloc (Obj.cells #[Value.slice none 0 0, Value.slice none 0 0] 33)) _) := E1.out.alloc _
    have PR2 : Hid ((w1.alloc (Obj.cells #[Value.slice none 0 0, Value.slice none 0 0] 33)).heap[w1.heap.size]? = _) := heap_alloc_new _ _
    have HBP : Hid (w.heap.size + 1 < w1.heap.size) := row_lt E1.out.2.2
    obtain ⟨c0, c1, c2', c3, c4⟩ := cells5 E2.out.2.1
    clear E1
    go_wp2_with fail
    clear c0 c1 c2' c3 c4
    generalize w1.alloc (Obj.cells #[Value.slice none 0 0, Value.slice none 0 0] 33) = W1 at *
    generalize w1.heap.size = bp at *
    go_loopw [5] (fun t wr => ∃ (k : Nat) (sl : Value), k ≤ K ∧ t = .int .i64 k ∧ EP w wr #[Value.int IntKind.i64 n, Value.slice a zs.length cap, Value.slice ao K co, Value.slice av kv cv, Value.int IntKind.i64 fine] ∧ wr.heap[bp]? = some (.cells #[.slice none 0 0, sl] 33 (0, 0)) ∧ wr.ownsRow (bp + 1) 2 1 sl k ((idsL os k).map (Value.int .i64))) (fun t _ => K - (intOf t).toNat)
    case atStart => exact ⟨0, .slice none 0 0, Nat.zero_le _, rfl, E2.out, PR2.out, World.ownsRow_nil _ _ _ _⟩
    case round =>
      clear E2 PR2
      obtain ⟨k, sl, hk, rfl, he, hp, ho⟩ := hrel
      have HE : Hid (EP w wr _) := he
      have HP : Hid (wr.heap[bp]? = _) := hp
      have HW : Hid (wr.ownsRow (bp + 1) 2 1 sl k _) := ho
      obtain ⟨c0, c1, c2', c3, c4⟩ := cells5 he.2.1
      obtain ⟨p0, p1⟩ := cells2 hp
      have pf := fun i => frozen_of_row _ _ i _ _ hp
      clear he hp ho
      by_cases hlt : k < K
      · obtain ⟨b, off, rfl, hcs⟩ := IntsAt.some (IntsAt.below HO.out HE.out.1) (j := k * 6) (by rw [HLO.out]; omega)
        obtain ⟨r0, r1, r2, r3, r4, r5⟩ := row6_at hcs HLO.out k hlt
        clear hcs
        have HNX : Hid (idsL os (k + 1) = idsL os k ++ [og6 os k 0]) := idsL_succ os k
        have hlb := block_lt_of_cell r0
        simp at hlb
        obtain ⟨o0, H0⟩ : ∃ t, Hid (og6 os k 0 = t) := ⟨_, rfl⟩
        obtain ⟨o1, H1⟩ : ∃ t, Hid (og6 os k 1 = t) := ⟨_, rfl⟩
        obtain ⟨o2, H2⟩ : ∃ t, Hid (og6 os k 2 = t) := ⟨_, rfl⟩
        obtain ⟨o3, H3⟩ : ∃ t, Hid (og6 os k 3 = t) := ⟨_, rfl⟩
        obtain ⟨o4, H4⟩ : ∃ t, Hid (og6 os k 4 = t) := ⟨_, rfl⟩
        obtain ⟨o5, H5⟩ : ∃ t, Hid (og6 os k 5 = t) := ⟨_, rfl⟩
        rw [H0.out] at HNX
        rw [H0.out] at r0
        rw [H1.out] at r1
        rw [H2.out] at r2
        rw [H3.out] at r3
        rw [H4.out] at r4
        rw [H5.out] at r5
        have HLE : Hid (bp + 1 ≤ wr.heap.size) := row_lt HP.out
        go_wp2_with fail
        obtain ⟨s0, s1⟩ := cells2 ((heap_alloc_old wr (Obj.cells #[Value.int IntKind.i64 o0] 2) (row_lt HP.out)).trans HP.out)
        go_region_law ((
           refine step_append_int rfl (.tmp 19) (.tmp 26) rfl (bp + 1) sl k _ (by simp [Act.eval]) (HW.out.drew.alloc _) ⟨wr.heap.size, 0, none⟩ 1 (.int .i64 o0) (by simp [Act.eval]) (cell_new1 _ _ _ _ (by simp)) rfl (by omega) (Nat.le_trans HLE.out (by simp)) ?_
           intro v' w4 hown4 hgrow4
           obtain ⟨gg', cc', rfl, hgg'⟩ := own_some hown4
           have hne : ∀ q, sl.ownBlock = some q → bp < q := fun q e => (HW.out.lt _ e).1
           have hp4 : w4.heap[bp]? = some (.cells #[.slice none 0 0, sl] 33 (0, 0)) := (hgrow4.block _ (Nat.lt_of_lt_of_le (row_lt HP.out) (by simp; try omega)) (fun e => by have := hne _ e.symm; omega)).trans ((heap_alloc_old _ _ (row_lt HP.out)).trans HP.out)
           have HP4 : Hid (w4.heap[bp]? = _) := hp4
           obtain ⟨u0, u1⟩ := cells2 hp4
           have uf := fun i => frozen_of_row _ _ i _ _ hp4
           have HE4 : Hid (EP w w4 _) := EP.grown (EP.below (HE.out.alloc _) (Below.refl _ _).drew) hgrow4 (fun q e => by have := hne q e; have := HBP.out; omega)
           have HW4 : Hid (w4.ownsRow (bp + 1) 2 1 (.slice (some ⟨gg', 0, none⟩) (k + 1) cc') (k + 1) _) := hown4
           clear hp4 hown4 hgrow4 hne))
        all_goals
          go_wp2
          go_roundw
          case rel =>
            refine ⟨k + 1, _, by omega, by go_num, HE4.out.set (by have := HBP.out; omega), heap_setCell_same _ _ _ _ _ _ HP4.out, ?_⟩
            rw [HNX.out, List.map_append]
            exact owns_set HW4.out (by omega)
          case measure => simp [intOf]; omega
      · have hkl : k = K := by omega
        subst hkl
        obtain ⟨q0, q1⟩ := cells2 HE.out.2.2
        have qf := fun i => frozen_of_row _ _ i _ _ HE.out.2.2
        have HRN : Hid (w.heap.size + 1 ≠ bp) := Nat.ne_of_lt HBP.out
        rcases own_shape HW.out with rfl | ⟨gq, cq, rfl⟩
        · go_wp2
          refine bodyPost_ret (v := .tuple #[.agg #[.slice none 0 0, .slice none 0 0], .bool true]) (by simp [results, Try.results67, go_sem, q0, q1]) rfl ⟨_, rfl, ?_, ?_⟩
          · repeat (first | with_reducible exact HE.out.b | refine Below.setCell ?_ (by simp <;> omega) _)
          · exact owns_base (ownsRow_setCell_below (ownsRow_setCell_below HW.out (by simp; have := HBP.out; omega) _) (by simp; have := HBP.out; omega) _) (by have := HBP.out; omega)
        · go_wp2
          refine bodyPost_ret (v := .tuple #[.agg #[.slice none 0 0, .slice (some ⟨gq, 0, none⟩) k cq], .bool true]) (by simp [results, Try.results67, go_sem, q0, q1]) rfl ⟨_, rfl, ?_, ?_⟩
          · repeat (first | with_reducible exact HE.out.b | refine Below.setCell ?_ (by simp <;> omega) _)
          · exact owns_base (ownsRow_setCell_below (ownsRow_setCell_below HW.out (by simp; have := HBP.out; omega) _) (by simp; have := HBP.out; omega) _) (by have := HBP.out; omega)

end Go.Proofs.Ytonopidjkcmlmaa

namespace Go.Proofs.Ytonopidjkcmlmaa
open Go.RowKit

/-- A reader that was there stays where a block of the call's own changes. -/
theorem RD.kept2 {w W W' : World} {q c p p0 : Nat} {a : Option Addr} {bs : List Int} {row : Option Nat} (h0 : RD w q a bs c p0) (h : RD W q a bs c p) (hg : W.grownBy W' row) (hr : ∀ g, row = some g → w.heap.size ≤ g) : RD W' q a bs c p := by
  have hq : q < w.heap.size := row_lt h0.1
  refine ⟨grown_row hg h.1 (fun e => by have := hr q e.symm; omega), h.2.1, fun j hj => ?_, h.2.2.2⟩
  obtain ⟨b, off, e, hne, hc, hv⟩ := h.2.2.1 j hj
  obtain ⟨b', off', e', _, hc', _⟩ := h0.2.2.1 j hj
  have hb : b < w.heap.size := by
    have := block_lt_of_cell hc'
    rw [e] at e'
    simp at e'
    obtain ⟨rfl, rfl⟩ := e'
    exact this
  exact ⟨b, off, e, hne, hg.cell hc (fun e2 => by have := hr b e2.symm; omega), hv⟩
theorem grown_own {w W W' : World} {q : Nat} {row : Option Nat} (h : w.grownBy W (some q)) (hg : W.grownBy W' row) (hr : ∀ g, row = some g → w.heap.size ≤ g) : w.grownBy W' (some q) :=
  ⟨hg.os.trans h.os, hg.tape.trans h.tape, hg.output.trans h.output, Nat.le_trans h.size hg.size, fun k hk hne => (hg.block k (Nat.lt_of_lt_of_le hk h.size) (fun e => by have := hr k e.symm; omega)).trans (h.block k hk hne)⟩

theorem grown_alloc0 (W : World) (o : Obj) : W.grownBy (W.alloc o) none := ⟨rfl, rfl, rfl, by simp, fun k hk _ => heap_alloc_old _ _ hk⟩

/-- With a reader that was there: a list of the call's own that grows. -/
structure CL (w W : World) (q : Nat) (a : Option Addr) (bs : List Int) (c : Nat) (ov : Value) (O : List Int) : Prop where
  g : w.grownBy W (some q)
  r0 : ∃ p, RD w q a bs c p
  r : ∃ p, RD W q a bs c p
  o : W.ownsRow w.heap.size 2 1 ov O.length (O.map (Value.int .i64))
  so : ∃ g cg, ov = .slice (some ⟨g, 0, none⟩) O.length cg
theorem CL.lt {w W : World} {q : Nat} {a : Option Addr} {bs : List Int} {c : Nat} {ov : Value} {O : List Int} (h : CL w W q a bs c ov O) : q < w.heap.size := by
  obtain ⟨p, hr⟩ := h.r0
  exact row_lt hr.1
theorem CL.new {w : World} {q : Nat} {a : Option Addr} {bs : List Int} {c p : Nat} (h : RD w q a bs c p) : CL w (w.alloc (.cells #[] 2)) q a bs c (.slice (some ⟨w.heap.size, 0, none⟩) 0 0) [] :=
  ⟨grown_alloc w _ q, ⟨p, h⟩, ⟨p, h.below ((Below.refl _ _).alloc (Nat.le_refl _) _)⟩, World.ownsRow_made w #[] 0 (Nat.le_refl _) (by unfold maxLen; omega) (by simp), ⟨_, _, rfl⟩⟩
theorem CL.read {w W W' : World} {q : Nat} {a : Option Addr} {bs : List Int} {c p : Nat} {ov : Value} {O : List Int} (h : CL w W q a bs c ov O) (hr : RD W' q a bs c p) (hg : W.grownBy W' (some q)) : CL w W' q a bs c ov O :=
  ⟨grown_trans h.g hg, h.r0, ⟨p, hr⟩, h.o.kept hg (.inr fun e => by have := (h.o.lt q e).1; have := h.lt; omega), h.so⟩
theorem CL.put {w W w4 : World} {q : Nat} {a : Option Addr} {bs : List Int} {c : Nat} {ov ov' : Value} {O : List Int} {x : Int} {o : Obj} (h : CL w W q a bs c ov O) (hown : w4.ownsRow w.heap.size 2 1 ov' (O.length + 1) ((O ++ [x]).map (Value.int .i64))) (hg : (W.alloc o).grownBy w4 ov.ownBlock) (hn : ov' = .slice none 0 0 ↔ ov = .slice none 0 0 ∧ 1 = 0) : CL w w4 q a bs c ov' (O ++ [x]) := by
  obtain ⟨p, hr⟩ := h.r
  obtain ⟨p0, hr0⟩ := h.r0
  have hlt : ∀ g, ov.ownBlock = some g → w.heap.size ≤ g := fun g e => (h.o.lt g e).1
  refine ⟨grown_own (grown_own h.g (grown_alloc0 W o) (fun g e => by cases e)) hg hlt, h.r0, ⟨p, ?_⟩, ?_, ?_⟩
  · exact RD.kept2 hr0 (hr.below ((Below.refl _ _).alloc (Nat.le_refl _) _)) hg hlt
  · rw [List.length_append]; exact hown
  · rw [List.length_append]
    obtain ⟨g, cg, e⟩ := h.so
    exact own_sm hown (not_nil hn ⟨g, _, cg, e⟩)
theorem CL.set {w W : World} {q g n cg : Nat} {a : Option Addr} {bs : List Int} {c : Nat} {O : List Int} (h : CL w W q a bs c (.slice (some ⟨g, 0, none⟩) n cg) O) (hn : O.length = n) {j : Nat} (hj : j < n) (v : Int) : CL w (W.setCell ⟨g, j, none⟩ (.int .i64 v)) q a bs c (.slice (some ⟨g, 0, none⟩) n cg) (O.set j v) := by
  obtain ⟨p, hr⟩ := h.r
  obtain ⟨p0, hr0⟩ := h.r0
  have hlt : ∀ k, some g = some k → w.heap.size ≤ k := fun k e => by injection e with e; subst e; exact (h.o.lt g rfl).1
  refine ⟨grown_own h.g (grown_set W g j _) hlt, h.r0, ⟨p, RD.kept2 hr0 hr (grown_set W g j _) hlt⟩, ?_, ⟨g, cg, by rw [List.length_set, hn]⟩⟩
  have ho := h.o
  rw [hn] at ho
  rw [List.length_set, hn]
  exact own_put v ho hj

end Go.Proofs.Ytonopidjkcmlmaa

namespace Go.Proofs.Ytonopidjkcmlmaa
open Go.RowKit

/-- A cell of a new row of four numbers. -/
theorem new4_cell (W : World) (x0 x1 x2 x3 : Int) (T : TypeId) (y : Nat) (hy : y < 4) : (W.alloc (Obj.cells #[Value.int IntKind.i64 x0, Value.int IntKind.i64 x1, Value.int IntKind.i64 x2, Value.int IntKind.i64 x3] T)).cell? ⟨W.heap.size, y, none⟩ = some (.int .i64 ([x0, x1, x2, x3].getD y 0)) := by
  have h := heap_alloc_new W (Obj.cells #[Value.int IntKind.i64 x0, Value.int IntKind.i64 x1, Value.int IntKind.i64 x2, Value.int IntKind.i64 x3] T)
  rw [cell_of_row _ _ y _ _ _ h]
  rcases (show y = 0 ∨ y = 1 ∨ y = 2 ∨ y = 3 from by omega) with rfl | rfl | rfl | rfl <;> rfl
theorem new3_cell (W : World) (x0 x1 x2 : Int) (T : TypeId) (y : Nat) (hy : y < 3) : (W.alloc (Obj.cells #[Value.int IntKind.i64 x0, Value.int IntKind.i64 x1, Value.int IntKind.i64 x2] T)).cell? ⟨W.heap.size, y, none⟩ = some (.int .i64 ([x0, x1, x2].getD y 0)) := by
  have h := heap_alloc_new W (Obj.cells #[Value.int IntKind.i64 x0, Value.int IntKind.i64 x1, Value.int IntKind.i64 x2] T)
  rw [cell_of_row _ _ y _ _ _ h]
  rcases (show y = 0 ∨ y = 1 ∨ y = 2 from by omega) with rfl | rfl | rfl <;> rfl
/-- What the draw of two times answers: some two numbers. -/
def WhenOk (w : World) (q : Nat) (a : Option Addr) (bs : List Int) (c : Nat) (e : Ending) (w' : World) : Prop := ∃ (x y : Int) (p' : Nat), e = .returned (.tuple #[.int .i64 x, .int .i64 y]) ∧ RD w' q a bs c p' ∧ w.grownBy w' (some q)

set_option maxRecDepth 10000 in
set_option maxHeartbeats 1000000 in
theorem when_any (q p c : Nat) (a : Option Addr) (bs : List Int) (w : World) (h : RD w q a bs c p) :
    Calls Try.prog 65 #[.pointer (some ⟨q, 0, none⟩)] w (WhenOk w q a bs c) := by
  have H : Hid (RD w q a bs c p) := h
  clear h
  go_enter Try.func65, Try.ntmps65
  go_wp2_with fail
  refine (below_any q p c 40 a bs w H.out (by omega)).mono ?_
  rintro e w1 ⟨x, p1, rfl, hx0, hx1, hr, hg⟩
  have R1 : Hid (RD w1 q a bs c p1) := hr
  have G1 : Hid (w.grownBy w1 (some q)) := hg
  clear hr hg
  go_wp2_with fail
  refine (once_any q p1 c 2 a bs w1 R1.out (by omega) (by omega)).mono ?_
  rintro e w2 ⟨v, p2, rfl, hr, hg⟩
  have R2 : Hid (RD w2 q a bs c p2) := hr
  have G2 : Hid (w.grownBy w2 (some q)) := grown_trans G1.out hg
  clear hr hg R1 G1
  have HQ : Hid (q < w2.heap.size) := row_lt R2.out.1
  cases v
  all_goals
    go_wp2_with fail
    go_region_with (first
      | (go_at_call 63
         with_reducible refine (below_any q p2 c 4 a bs w2.drew (R2.out.below (Below.refl _ _).drew) (by omega)).mono ?_
         rintro e w3 ⟨y, p3, rfl, hy0, hy1, hr, hg⟩
         obtain ⟨y, rfl⟩ := Int.eq_ofNat_of_zero_le hy0
         have hy4 : y < 4 := by omega
         have R3 : Hid (RD w3 q a bs c p3) := hr
         have G3 : Hid (w.grownBy w3 (some q)) := grown_trans (grown_drew G2.out) hg
         have n3 := new4_cell w3 200 60 30 500 2 y hy4
         obtain ⟨z, HZ⟩ : ∃ z, Hid ([(200 : Int), 60, 30, 500].getD y 0 = z) := ⟨_, rfl⟩
         rw [HZ.out] at n3
         clear hr hg hy0 hy1)
      | (go_at_call 63
         with_reducible refine (below_any q p2 c 4 a bs (w2.alloc (Obj.cells #[Value.int IntKind.i64 200, Value.int IntKind.i64 60, Value.int IntKind.i64 30, Value.int IntKind.i64 500] 2)).drew (R2.out.below ((Below.refl _ _).alloc (Nat.le_refl _) _).drew) (by omega)).mono ?_
         rintro e w3 ⟨y, p3, rfl, hy0, hy1, hr, hg⟩
         obtain ⟨y, rfl⟩ := Int.eq_ofNat_of_zero_le hy0
         have hy4 : y < 4 := by omega
         have R3 : Hid (RD w3 q a bs c p3) := hr
         have G3 : Hid (w.grownBy w3 (some q)) := grown_trans (grown_drew (grown_trans G2.out (grown_alloc w2 _ q))) hg
         have n3 := hg.cell (new4_cell w2.drew 200 60 30 500 2 y hy4) (fun e => by have := HQ.out; simp at e; omega)
         obtain ⟨z, HZ⟩ : ∃ z, Hid ([(200 : Int), 60, 30, 500].getD y 0 = z) := ⟨_, rfl⟩
         rw [HZ.out] at n3
         simp at n3
         clear hr hg hy0 hy1))
    all_goals
      go_wp2
      refine bodyPost_ret (results_tmp2 rfl _ _ _) rfl ?_
      first
        | exact ⟨_, _, p3, rfl, R3.out, G3.out⟩
        | exact ⟨_, _, p3, rfl, R3.out.below ((Below.refl _ _).alloc (Nat.le_refl _) _), grown_trans G3.out (grown_alloc w3 _ q)⟩

end Go.Proofs.Ytonopidjkcmlmaa

namespace Go.Proofs.Ytonopidjkcmlmaa
open Go.RowKit

theorem info_ord6 : (Try.prog.info? 43).map (fun i => (i.zero, i.size, i.bytes)) = some (some (.agg #[Value.int IntKind.i64 0, Value.int IntKind.i64 0, Value.int IntKind.i64 0, Value.int IntKind.i64 0, Value.int IntKind.i64 0, Value.int IntKind.i64 0]), 6, 48) := by kernel_rfl
theorem info_veh5 : (Try.prog.info? 78).map (fun i => (i.zero, i.size, i.bytes)) = some (some (.agg #[Value.int IntKind.i64 0, Value.int IntKind.i64 0, Value.int IntKind.i64 0, Value.int IntKind.i64 0, Value.int IntKind.i64 0]), 5, 40) := by kernel_rfl
/-- 'append' of one record of numbers to a slice of the call's own. -/
theorem append_rec (t e : TypeId) (z : Value) (size bytes : Nat) (hinfo : (Try.prog.info? e).map (fun i => (i.zero, i.size, i.bytes)) = some (some z, size, bytes)) (hund : Try.prog.underlying t = some (.slice e)) (hzc : z.cells.size = size) (hs0 : 0 < size) (hby : bytes ≤ 100)
    (w : World) {ops : Array Oper} {rest : List Oper} {o : Oper} {a : Act} {Q : Exit → Act → World → Prop}
    (hg : o.guard = none) (s x : Operand) (hop : o.op = Op.call { callee := Callee.builtin Builtin.append, args := #[s, x], argTypes := #[t, t] })
    (base : Nat) (v : Value) (k : Nat) (xs : List Int) (hs : a.eval s = v) (hown : w.ownsRow base e size v k (xs.map (Value.int .i64))) (b c : Nat) (ys : List Int) (hx : a.eval x = .slice (some ⟨b, 0, none⟩) 1 c)
    (hy : ys.length = size) (hc : IntsAt w (some ⟨b, 0, none⟩) ys) (b1 : k ≤ 1000) (hb : base ≤ w.heap.size)
    (hK : ∀ v' w', w'.ownsRow base e size v' (k + 1) ((xs ++ ys).map (Value.int .i64)) → w.grownBy w' v.ownBlock → (v'.ownBlock = v.ownBlock ∨ v'.ownBlock = some w.heap.size) → v' ≠ .slice none 0 0 → wpList Try.prog ops Q rest (a.put o.dst v') w') :
    wpList Try.prog ops Q (o :: rest) a w := by
  obtain ⟨i0, hi, hz0, hz1, hz2⟩ := info_parts hinfo
  have hnews : ∀ j u, (ys.map (Value.int .i64))[j]? = some u → w.cell? ((⟨b, 0, none⟩ : Addr).add j) = some u := by
    intro j u hu
    have hj : j < ys.length := by
      rcases Nat.lt_or_ge j ys.length with h' | h'
      · exact h'
      · simp [List.getElem?_eq_none (by simpa using h' : (ys.map (Value.int .i64)).length ≤ j)] at hu
    obtain ⟨b', off', e, hcc⟩ := hc j hj
    simp at e
    obtain ⟨rfl, rfl⟩ := e
    have hadd : (⟨b, 0, none⟩ : Addr).add j = ⟨b, 0 + j, none⟩ := by unfold Addr.add; split <;> simp_all
    rw [hadd, hcc, ← hu]
    simp [List.getD, hj]
  have h1c : ∀ u ∈ ys.map (Value.int .i64), u.oneCell' = true := by simp [Value.oneCell']
  have hbb : (k + 1) * bytes ≤ 140737488355328 := by
    have : (k + 1) * bytes ≤ 1001 * 100 := Nat.mul_le_mul (by omega) hby
    omega
  obtain ⟨v', w', hrun, r1, r2, r3⟩ := run_append_own (P := Try.prog) w base t o.type _ i0 _ size bytes hund hi hz0 hz1 hz2 hzc hs0 v k (xs.map (Value.int .i64)) hown ⟨b, 0, none⟩ 1 c (ys.map (Value.int .i64)) (by simp [hy]) hnews h1c (by unfold maxLen; omega) hbb hb
  have r4 := append_block (P := Try.prog) w base t o.type _ i0 _ size bytes hund hi hz0 hz1 hz2 v k (xs.map (Value.int .i64)) hown ⟨b, 0, none⟩ 1 c (ys.map (Value.int .i64)) (by simp [hy]) hnews h1c (by unfold maxLen; omega) hbb hrun
  refine wpList_run v' hg (exec_append' s x _ v _ hop hs hx hrun) (hK v' w' (by rw [List.map_append]; exact r1) r2 r4 ?_)
  intro e
  exact absurd (r3.1 e).2 (by omega)

/-- A row of records: a cell is written. -/
theorem own_putR {w : World} {base n g c k size : Nat} {e : TypeId} {xs : List Int} (v : Int) (h : w.ownsRow base e size (.slice (some ⟨g, 0, none⟩) n c) n (xs.map (Value.int .i64))) : (w.setCell ⟨g, k, none⟩ (.int .i64 v)).ownsRow base e size (.slice (some ⟨g, 0, none⟩) n c) n ((xs.set k v).map (Value.int .i64)) := by
  obtain ⟨h0, ⟨h1, _⟩ | ⟨g', cap, cur, h2, h3, h4, h5, h6, h7, h8⟩⟩ := h
  · cases h1
  · simp at h2
    obtain ⟨rfl, rfl⟩ := h2
    refine ⟨by simpa using h0, .inr ⟨g, c, cur.setIfInBounds k (.int .i64 v), rfl, h3, heap_setCell_same w g k cur e _ h4, h5, h6, by simpa using h7, ?_⟩⟩
    rw [Array.toList_setIfInBounds, List.take_set, h8, List.map_set]
theorem own_cellR {w : World} {base n g c k size : Nat} {e : TypeId} {xs : List Int} (h : w.ownsRow base e size (.slice (some ⟨g, 0, none⟩) n c) n (xs.map (Value.int .i64))) (hk : k < xs.length) : w.cell? ⟨g, k, none⟩ = some (.int .i64 (xs.getD k 0)) ∧ w.frozen? ⟨g, k, none⟩ = false := by
  refine ⟨?_, ?_⟩
  · obtain ⟨_, _, e1, h1⟩ := owns_ints h k hk
    simp at e1
    obtain ⟨rfl, rfl⟩ := e1
    rw [Nat.zero_add] at h1
    exact h1
  · obtain ⟨h0, ⟨h1, _⟩ | ⟨g', cap, cur, h2, h3, h4, h5⟩⟩ := h
    · cases h1
    · simp at h2
      obtain ⟨rfl, rfl⟩ := h2
      exact frozen_of_row _ _ k _ _ h4

/-- Inside the draw of a case: the reader, the result's cells, the case in its box, its times, orders and vehicles. -/
structure CD (w W : World) (q : Nat) (a : Option Addr) (bs : List Int) (c k : Nat) (n : Int) (g zl cg : Nat) (zs : List Int) (oo : Value) (ko : Nat) (O : List Int) (ov : Value) (kv : Nat) (V : List Int) (fi : Int) : Prop where
  gr : w.grownBy W (some q)
  r0 : ∃ p, RD w q a bs c p
  r : ∃ p, RD W q a bs c p
  b0 : W.heap[w.heap.size]? = some (.cells #[.int .i64 0, .slice none 0 0, .slice none 0 0, .slice none 0 0, .int .i64 0] 30 (0, 0))
  b1 : W.heap[k]? = some (.cells #[.int .i64 n, .slice (some ⟨g, 0, none⟩) zl cg, oo, ov, .int .i64 fi] 30 (0, 0))
  h : w.heap.size < k ∧ w.heap.size < g ∧ k ≠ g ∧ 0 < zs.length
  i : IntsAt W (some ⟨g, 0, none⟩) zs
  o : W.ownsRow (w.heap.size + 1) 43 6 oo ko (O.map (Value.int .i64))
  v : W.ownsRow (w.heap.size + 1) 78 5 ov kv (V.map (Value.int .i64))
  d1 : ∀ b, oo.ownBlock = some b → b ≠ k ∧ b ≠ g
  d2 : ∀ b, ov.ownBlock = some b → b ≠ k ∧ b ≠ g
  d3 : ∀ b, oo.ownBlock = some b → ov.ownBlock ≠ some b
section
variable {w W W' w4 : World} {q : Nat} {a : Option Addr} {bs : List Int} {c k : Nat} {n : Int} {g zl cg : Nat} {zs : List Int} {oo oo' : Value} {ko : Nat} {O : List Int} {ov ov' : Value} {kv : Nat} {V : List Int} {fi : Int}
theorem CD.lt (h : CD w W q a bs c k n g zl cg zs oo ko O ov kv V fi) : q < w.heap.size := by
  obtain ⟨p, hr⟩ := h.r0
  exact row_lt hr.1
theorem CD.size (h : CD w W q a bs c k n g zl cg zs oo ko O ov kv V fi) : w.heap.size + 1 ≤ W.heap.size := row_lt h.b0
theorem ints_row {X X' : World} {g : Nat} {xs : List Int} {row : Option Nat} (h : IntsAt X (some ⟨g, 0, none⟩) xs) (hg : X.grownBy X' row) (hne : some g ≠ row) : IntsAt X' (some ⟨g, 0, none⟩) xs := by
  intro j hj
  obtain ⟨b, off, e, hc⟩ := h j hj
  simp at e
  obtain ⟨rfl, rfl⟩ := e
  exact ⟨g, 0, rfl, hg.cell hc hne⟩
theorem CD.read {p : Nat} (h : CD w W q a bs c k n g zl cg zs oo ko O ov kv V fi) (hr : RD W' q a bs c p) (hg : W.grownBy W' (some q)) : CD w W' q a bs c k n g zl cg zs oo ko O ov kv V fi := by
  have hl := h.lt
  obtain ⟨h1, h2, h3, h4⟩ := h.h
  exact ⟨grown_trans h.gr hg, h.r0, ⟨p, hr⟩, grown_row hg h.b0 (fun e => by injection e with e; omega), grown_row hg h.b1 (fun e => by injection e with e; omega), h.h, ints_row h.i hg (fun e => by injection e with e; omega), h.o.kept hg (.inr fun e => by have := (h.o.lt q e).1; omega), h.v.kept hg (.inr fun e => by have := (h.v.lt q e).1; omega), h.d1, h.d2, h.d3⟩
theorem grown_more {w W W' : World} {q : Nat} (h : w.grownBy W (some q)) (hb : Below W.heap.size W W') : w.grownBy W' (some q) :=
  ⟨hb.os.trans h.os, hb.tape.trans h.tape, hb.output.trans h.output, Nat.le_trans h.size hb.size, fun k hk hne => (hb.block k (Nat.lt_of_lt_of_le hk h.size)).trans (h.block k hk hne)⟩
theorem CD.below (h : CD w W q a bs c k n g zl cg zs oo ko O ov kv V fi) (hb : Below W.heap.size W W') : CD w W' q a bs c k n g zl cg zs oo ko O ov kv V fi := by
  obtain ⟨p, hr⟩ := h.r
  exact ⟨grown_more h.gr hb, h.r0, ⟨p, hr.below hb⟩, below_row hb (row_lt h.b0) h.b0, below_row hb (row_lt h.b1) h.b1, h.h, h.i.below hb, owns_below h.o hb, owns_below h.v hb, h.d1, h.d2, h.d3⟩
theorem CD.cells (h : CD w W q a bs c k n g zl cg zs oo ko O ov kv V fi) : (W.cell? ⟨k, 0, none⟩ = some (.int .i64 n) ∧ W.cell? ⟨k, 1, none⟩ = some (.slice (some ⟨g, 0, none⟩) zl cg) ∧ W.cell? ⟨k, 2, none⟩ = some oo ∧ W.cell? ⟨k, 3, none⟩ = some ov ∧ W.cell? ⟨k, 4, none⟩ = some (.int .i64 fi)) ∧ ∀ i, W.frozen? ⟨k, i, none⟩ = false := by
  have h0 := cell_of_row _ _ 0 _ _ _ h.b1
  have h1 := cell_of_row _ _ 1 _ _ _ h.b1
  have h2 := cell_of_row _ _ 2 _ _ _ h.b1
  have h3 := cell_of_row _ _ 3 _ _ _ h.b1
  have h4 := cell_of_row _ _ 4 _ _ _ h.b1
  simp at h0 h1 h2 h3 h4
  exact ⟨⟨h0, h1, h2, h3, h4⟩, fun i => frozen_of_row _ _ i _ _ h.b1⟩
theorem kept_side {v : Value} {row : Option Nat} (h : ∀ b, row = some b → v.ownBlock ≠ some b) : v.ownBlock = none ∨ v.ownBlock ≠ row := by
  cases hv : v.ownBlock with
  | none => exact .inl rfl
  | some x => exact .inr fun e => h x e.symm hv
/-- A change of a block of the call's own, which is none of these. -/
theorem CD.aside {row : Option Nat} (h : CD w W q a bs c k n g zl cg zs oo ko O ov kv V fi) (hg : W.grownBy W' row) (hr : ∀ b, row = some b → w.heap.size + 1 ≤ b ∧ b ≠ k ∧ b ≠ g ∧ oo.ownBlock ≠ some b ∧ ov.ownBlock ≠ some b) : CD w W' q a bs c k n g zl cg zs oo ko O ov kv V fi := by
  obtain ⟨p, hrd⟩ := h.r
  obtain ⟨p0, hr0⟩ := h.r0
  have hrw : ∀ b, row = some b → w.heap.size ≤ b := fun b e => by have := (hr b e).1; omega
  exact ⟨grown_own h.gr hg hrw, h.r0, ⟨p, RD.kept2 hr0 hrd hg hrw⟩, grown_row hg h.b0 (fun e => by have := (hr _ e.symm).1; omega), grown_row hg h.b1 (fun e => (hr _ e.symm).2.1 rfl), h.h, ints_row h.i hg (fun e => (hr _ e.symm).2.2.1 rfl), h.o.kept hg (kept_side fun b e => (hr b e).2.2.2.1), h.v.kept hg (kept_side fun b e => (hr b e).2.2.2.2), h.d1, h.d2, h.d3⟩
theorem row_put {X : World} {k i : Nat} {cs : Array Value} {T : TypeId} (v : Value) (h : X.heap[k]? = some (.cells cs T (0, 0))) : (X.setCell ⟨k, i, none⟩ v).heap[k]? = some (.cells (cs.setIfInBounds i v) T (0, 0)) := heap_setCell_same X k i cs T v h
theorem CD.glt (h : CD w W q a bs c k n g zl cg zs oo ko O ov kv V fi) : g < W.heap.size := by
  obtain ⟨b, off, e, hc⟩ := h.i 0 h.h.2.2.2
  simp at e
  obtain ⟨rfl, rfl⟩ := e
  exact block_lt_of_cell hc
/-- An order is put behind the others. -/
theorem CD.putO {ob : Obj} {xs : List Int} (h : CD w W q a bs c k n g zl cg zs oo ko O ov kv V fi) (ho : w4.ownsRow (w.heap.size + 1) 43 6 oo' (ko + 1) ((O ++ xs).map (Value.int .i64))) (hg : (W.alloc ob).grownBy w4 oo.ownBlock) (hn : oo'.ownBlock = oo.ownBlock ∨ oo'.ownBlock = some (W.alloc ob).heap.size) : CD w (w4.setCell ⟨k, 2, none⟩ oo') q a bs c k n g zl cg zs oo' (ko + 1) (O ++ xs) ov kv V fi := by
  obtain ⟨h1, h2, h3, h4⟩ := h.h
  have hk := row_lt h.b1
  have hA : CD w (W.alloc ob) q a bs c k n g zl cg zs oo ko O ov kv V fi := h.below ((Below.refl _ _).alloc (Nat.le_refl _) _)
  obtain ⟨p, hrd⟩ := hA.r
  obtain ⟨p0, hr0⟩ := h.r0
  have hrw : ∀ b, oo.ownBlock = some b → w.heap.size ≤ b := fun b e => by have := (h.o.lt b e).1; omega
  have hsw : ∀ b, some k = some b → w.heap.size ≤ b := fun b e => by injection e with e; omega
  have hs := grown_set w4 k 2 oo'
  have hgi := h.glt
  have hrd4 : RD w4 q a bs c p := RD.kept2 hr0 hrd hg hrw
  have hov : w4.ownsRow (w.heap.size + 1) 78 5 ov kv (V.map (Value.int .i64)) := hA.v.kept hg (kept_side fun b e => h.d3 b e)
  have hsz : (W.alloc ob).heap.size = W.heap.size + 1 := by simp
  refine ⟨grown_own (grown_own hA.gr hg hrw) hs hsw, h.r0, ⟨p, RD.kept2 hr0 hrd4 hs hsw⟩, ?_, ?_, h.h, ?_, ?_, ?_, ?_, h.d2, ?_⟩
  · exact grown_row hs (grown_row hg hA.b0 (fun e => by have := (h.o.lt _ e.symm).1; omega)) (fun e => by injection e with e; omega)
  · have := row_put (i := 2) oo' (grown_row hg hA.b1 (fun e => (h.d1 _ e.symm).1 rfl))
    simpa using this
  · exact ints_row (ints_row hA.i hg (fun e => (h.d1 _ e.symm).2 rfl)) hs (fun e => by injection e with e; omega)
  · refine ho.kept hs (kept_side fun b e => ?_)
    injection e with e
    subst e
    intro e2
    rcases hn with hn | hn
    · rw [hn] at e2; exact (h.d1 _ e2).1 rfl
    · rw [hn, hsz] at e2; injection e2 with e2; omega
  · refine hov.kept hs (kept_side fun b e => ?_)
    injection e with e
    subst e
    intro e2
    exact (h.d2 _ e2).1 rfl
  · intro b e2
    rcases hn with hn | hn
    · rw [hn] at e2; exact h.d1 _ e2
    · rw [hn, hsz] at e2
      injection e2 with e2
      refine ⟨by omega, ?_⟩
      omega
  · intro b e2 e3
    rcases hn with hn | hn
    · rw [hn] at e2; exact h.d3 _ e2 e3
    · rw [hn, hsz] at e2
      injection e2 with e2
      have := (h.v.lt _ e3).2
      omega
/-- A vehicle is put behind the others. -/
theorem CD.putV {ob : Obj} {xs : List Int} (h : CD w W q a bs c k n g zl cg zs oo ko O ov kv V fi) (ho : w4.ownsRow (w.heap.size + 1) 78 5 ov' (kv + 1) ((V ++ xs).map (Value.int .i64))) (hg : (W.alloc ob).grownBy w4 ov.ownBlock) (hn : ov'.ownBlock = ov.ownBlock ∨ ov'.ownBlock = some (W.alloc ob).heap.size) : CD w (w4.setCell ⟨k, 3, none⟩ ov') q a bs c k n g zl cg zs oo ko O ov' (kv + 1) (V ++ xs) fi := by
  obtain ⟨h1, h2, h3, h4⟩ := h.h
  have hk := row_lt h.b1
  have hA : CD w (W.alloc ob) q a bs c k n g zl cg zs oo ko O ov kv V fi := h.below ((Below.refl _ _).alloc (Nat.le_refl _) _)
  obtain ⟨p, hrd⟩ := hA.r
  obtain ⟨p0, hr0⟩ := h.r0
  have hrw : ∀ b, ov.ownBlock = some b → w.heap.size ≤ b := fun b e => by have := (h.v.lt b e).1; omega
  have hsw : ∀ b, some k = some b → w.heap.size ≤ b := fun b e => by injection e with e; omega
  have hs := grown_set w4 k 3 ov'
  have hgi := h.glt
  have hrd4 : RD w4 q a bs c p := RD.kept2 hr0 hrd hg hrw
  have hov : w4.ownsRow (w.heap.size + 1) 43 6 oo ko (O.map (Value.int .i64)) := hA.o.kept hg (kept_side fun b e e2 => h.d3 b e2 e)
  have hsz : (W.alloc ob).heap.size = W.heap.size + 1 := by simp
  refine ⟨grown_own (grown_own hA.gr hg hrw) hs hsw, h.r0, ⟨p, RD.kept2 hr0 hrd4 hs hsw⟩, ?_, ?_, h.h, ?_, ?_, ?_, h.d1, ?_, ?_⟩
  · exact grown_row hs (grown_row hg hA.b0 (fun e => by have := (h.v.lt _ e.symm).1; omega)) (fun e => by injection e with e; omega)
  · have := row_put (i := 3) ov' (grown_row hg hA.b1 (fun e => (h.d2 _ e.symm).1 rfl))
    simpa using this
  · exact ints_row (ints_row hA.i hg (fun e => (h.d2 _ e.symm).2 rfl)) hs (fun e => by injection e with e; omega)
  · refine hov.kept hs (kept_side fun b e => ?_)
    injection e with e
    subst e
    intro e2
    exact (h.d1 _ e2).1 rfl
  · refine ho.kept hs (kept_side fun b e => ?_)
    injection e with e
    subst e
    intro e2
    rcases hn with hn | hn
    · rw [hn] at e2; exact (h.d2 _ e2).1 rfl
    · rw [hn, hsz] at e2; injection e2 with e2; omega
  · intro b e2
    rcases hn with hn | hn
    · rw [hn] at e2; exact h.d2 _ e2
    · rw [hn, hsz] at e2
      injection e2 with e2
      refine ⟨by omega, ?_⟩
      omega
  · intro b e3 e2
    rcases hn with hn | hn
    · rw [hn] at e2; exact h.d3 _ e3 e2
    · rw [hn, hsz] at e2
      injection e2 with e2
      have := (h.o.lt _ e3).2
      omega
/-- The fine is written. -/
theorem CD.setF (x : Int) (h : CD w W q a bs c k n g zl cg zs oo ko O ov kv V fi) : CD w (W.setCell ⟨k, 4, none⟩ (.int .i64 x)) q a bs c k n g zl cg zs oo ko O ov kv V x := by
  obtain ⟨h1, h2, h3, h4⟩ := h.h
  obtain ⟨p, hrd⟩ := h.r
  obtain ⟨p0, hr0⟩ := h.r0
  have hs := grown_set W k 4 (.int .i64 x)
  have hsw : ∀ b, some k = some b → w.heap.size ≤ b := fun b e => by injection e with e; omega
  refine ⟨grown_own h.gr hs hsw, h.r0, ⟨p, RD.kept2 hr0 hrd hs hsw⟩, grown_row hs h.b0 (fun e => by injection e with e; omega), ?_, h.h, ints_row h.i hs (fun e => by injection e with e; omega), h.o.kept hs (kept_side fun b e e2 => by injection e with e; subst e; exact (h.d1 _ e2).1 rfl), h.v.kept hs (kept_side fun b e e2 => by injection e with e; subst e; exact (h.d2 _ e2).1 rfl), h.d1, h.d2, h.d3⟩
  have := row_put (i := 4) (.int .i64 x) h.b1
  simpa using this
/-- A number of an order is written. -/
theorem CD.setO {go co : Nat} (j : Nat) (x : Int) (h : CD w W q a bs c k n g zl cg zs (.slice (some ⟨go, 0, none⟩) ko co) ko O ov kv V fi) : CD w (W.setCell ⟨go, j, none⟩ (.int .i64 x)) q a bs c k n g zl cg zs (.slice (some ⟨go, 0, none⟩) ko co) ko (O.set j x) ov kv V fi := by
  obtain ⟨h1, h2, h3, h4⟩ := h.h
  obtain ⟨p, hrd⟩ := h.r
  obtain ⟨p0, hr0⟩ := h.r0
  have hgo := (h.o.lt go rfl).1
  have hd := h.d1 go rfl
  have hs := grown_set W go j (.int .i64 x)
  have hsw : ∀ b, some go = some b → w.heap.size ≤ b := fun b e => by injection e with e; omega
  refine ⟨grown_own h.gr hs hsw, h.r0, ⟨p, RD.kept2 hr0 hrd hs hsw⟩, grown_row hs h.b0 (fun e => by injection e with e; omega), grown_row hs h.b1 (fun e => by injection e with e; omega), h.h, ints_row h.i hs (fun e => by injection e with e; omega), own_putR x h.o, h.v.kept hs (kept_side fun b e e2 => by injection e with e; subst e; exact h.d3 _ rfl e2), h.d1, h.d2, h.d3⟩
/-- A number of a vehicle is written. -/
theorem CD.setV {gv cv : Nat} (j : Nat) (x : Int) (h : CD w W q a bs c k n g zl cg zs oo ko O (.slice (some ⟨gv, 0, none⟩) kv cv) kv V fi) : CD w (W.setCell ⟨gv, j, none⟩ (.int .i64 x)) q a bs c k n g zl cg zs oo ko O (.slice (some ⟨gv, 0, none⟩) kv cv) kv (V.set j x) fi := by
  obtain ⟨h1, h2, h3, h4⟩ := h.h
  obtain ⟨p, hrd⟩ := h.r
  obtain ⟨p0, hr0⟩ := h.r0
  have hgo := (h.v.lt gv rfl).1
  have hd := h.d2 gv rfl
  have hs := grown_set W gv j (.int .i64 x)
  have hsw : ∀ b, some gv = some b → w.heap.size ≤ b := fun b e => by injection e with e; omega
  refine ⟨grown_own h.gr hs hsw, h.r0, ⟨p, RD.kept2 hr0 hrd hs hsw⟩, grown_row hs h.b0 (fun e => by injection e with e; omega), grown_row hs h.b1 (fun e => by injection e with e; omega), h.h, ints_row h.i hs (fun e => by injection e with e; omega), h.o.kept hs (kept_side fun b e e2 => by injection e with e; subst e; exact h.d3 _ e2 rfl), own_putR x h.v, h.d1, h.d2, h.d3⟩
end

end Go.Proofs.Ytonopidjkcmlmaa

namespace Go.Proofs.Ytonopidjkcmlmaa
open Go.RowKit

set_option maxHeartbeats 2000000 in
theorem implEmpty_any (n fine : Int) (a ao av : Option Addr) (cap ko co kv cv : Nat) (zs os vs : List Int) (w : World) (hA : IntsAt w a zs) (hO : IntsAt w ao os) (hV : IntsAt w av vs) (hlo : os.length = ko * 6) (hlv : vs.length = kv * 5) (hko : ko ≤ 9223372036854775807) (hkv : kv ≤ 9223372036854775807) (cb : Bool) (K : Nat) (X : List Int) (hcb : caseB n zs os vs ko kv fine = cb) (hK : (if cb = true then ko else 0) = K) (hX : (if cb = true then idsL os ko else []) = X) :
    Calls Try.prog 14 #[.agg #[.int .i64 n, .slice a zs.length cap, .slice ao ko co, .slice av kv cv, .int .i64 fine]] w fun e w' => ∃ sl, e = .returned (.tuple #[.agg #[.slice none 0 0, sl], .bool cb]) ∧ Below w.heap.size w w' ∧ w'.ownsRow w.heap.size 2 1 sl K (X.map (Value.int .i64)) := by
  have HA : Hid (IntsAt w a zs) := hA
  have HO : Hid (IntsAt w ao os) := hO
  have HV : Hid (IntsAt w av vs) := hV
  have HLO : Hid _ := hlo
  have HLV : Hid _ := hlv
  clear hA hO hV hlo hlv
  have HKK : Hid ((if cb = true then ko else 0) = K) := hK
  have HXX : Hid ((if cb = true then idsL os ko else []) = X) := hX
  have HCB : Hid (caseB n zs os vs ko kv fine = cb) := hcb
  clear hK hX hcb
  have HE0 : Hid (EP w ((w.alloc (.cells #[Value.int IntKind.i64 n, Value.slice a zs.length cap, Value.slice ao ko co, Value.slice av kv cv, Value.int IntKind.i64 fine] 30)).alloc (.cells #[Value.slice none 0 0, Value.slice none 0 0] 33)) _) := EP.new w _
  go_enter Try.func14, Try.ntmps14
  obtain ⟨c0, c1, c2', c3, c4⟩ := cells5 HE0.out.2.1
  go_wp2_with fail
  clear c0 c1 c2' c3 c4
  refine (implCase_any n fine a ao av cap ko co kv cv zs os vs _ (HA.out.below HE0.out.1) (HO.out.below HE0.out.1) (HV.out.below HE0.out.1) HLO.out HLV.out hko hkv).mono ?_
  rintro e w1 ⟨rfl, hb⟩
  have E1 : Hid (EP w w1 _) := HE0.out.below hb
  clear hb HE0
  rw [HCB.out]
  cases cb
  · have hk0 : K = 0 := HKK.out.symm.trans (if_neg (by simp))
    have hx0 : X = [] := HXX.out.symm.trans (if_neg (by simp))
    subst hk0 hx0
    obtain ⟨p0, p1⟩ := cells2 E1.out.2.2
    have pf := fun i => frozen_of_row _ _ i _ _ E1.out.2.2
    go_wp2
    refine bodyPost_ret (v := .tuple #[.agg #[.slice none 0 0, .slice none 0 0], .bool false]) (by simp [results, Try.results14, go_sem, p0, p1]) rfl ⟨.slice none 0 0, rfl, ?_, World.ownsRow_nil _ _ _ _⟩
    repeat (first | with_reducible exact E1.out.b | refine Below.setCell ?_ (by simp <;> omega) _)
  · have hk1 : K = ko := HKK.out.symm.trans (if_pos rfl)
    have hx1 : X = idsL os ko := HXX.out.symm.trans (if_pos rfl)
    subst hk1 hx1
    have h12 : K ≤ 12 := (ordsB_true (caseB_ords HCB.out)).1
    have E2 : Hid (EP w (w1.alloc (Obj.cells #[Value.slice none 0 0, Value.slice none 0 0] 33)) _) := E1.out.alloc _
    have PR2 : Hid ((w1.alloc (Obj.cells #[Value.slice none 0 0, Value.slice none 0 0] 33)).heap[w1.heap.size]? = _) := heap_alloc_new _ _
    have HBP : Hid (w.heap.size + 1 < w1.heap.size) := row_lt E1.out.2.2
    obtain ⟨c0, c1, c2', c3, c4⟩ := cells5 E2.out.2.1
    clear E1
    go_wp2_with fail
    clear c0 c1 c2' c3 c4
    generalize w1.alloc (Obj.cells #[Value.slice none 0 0, Value.slice none 0 0] 33) = W1 at *
    generalize w1.heap.size = bp at *
    go_loopw [14] (fun t wr => ∃ (k : Nat) (sl : Value), k ≤ K ∧ t = .int .i64 k ∧ EP w wr #[Value.int IntKind.i64 n, Value.slice a zs.length cap, Value.slice ao K co, Value.slice av kv cv, Value.int IntKind.i64 fine] ∧ wr.heap[bp]? = some (.cells #[.slice none 0 0, sl] 33 (0, 0)) ∧ wr.ownsRow (bp + 1) 2 1 sl k ((idsL os k).map (Value.int .i64))) (fun t _ => K - (intOf t).toNat)
    case atStart => exact ⟨0, .slice none 0 0, Nat.zero_le _, rfl, E2.out, PR2.out, World.ownsRow_nil _ _ _ _⟩
    case round =>
      clear E2 PR2
      obtain ⟨k, sl, hk, rfl, he, hp, ho⟩ := hrel
      have HE : Hid (EP w wr _) := he
      have HP : Hid (wr.heap[bp]? = _) := hp
      have HW : Hid (wr.ownsRow (bp + 1) 2 1 sl k _) := ho
      obtain ⟨c0, c1, c2', c3, c4⟩ := cells5 he.2.1
      obtain ⟨p0, p1⟩ := cells2 hp
      have pf := fun i => frozen_of_row _ _ i _ _ hp
      clear he hp ho
      by_cases hlt : k < K
      · obtain ⟨b, off, rfl, hcs⟩ := IntsAt.some (IntsAt.below HO.out HE.out.1) (j := k * 6) (by rw [HLO.out]; omega)
        obtain ⟨r0, r1, r2, r3, r4, r5⟩ := row6_at hcs HLO.out k hlt
        clear hcs
        have HNX : Hid (idsL os (k + 1) = idsL os k ++ [og6 os k 0]) := idsL_succ os k
        have hlb := block_lt_of_cell r0
        simp at hlb
        obtain ⟨o0, H0⟩ : ∃ t, Hid (og6 os k 0 = t) := ⟨_, rfl⟩
        obtain ⟨o1, H1⟩ : ∃ t, Hid (og6 os k 1 = t) := ⟨_, rfl⟩
        obtain ⟨o2, H2⟩ : ∃ t, Hid (og6 os k 2 = t) := ⟨_, rfl⟩
        obtain ⟨o3, H3⟩ : ∃ t, Hid (og6 os k 3 = t) := ⟨_, rfl⟩
        obtain ⟨o4, H4⟩ : ∃ t, Hid (og6 os k 4 = t) := ⟨_, rfl⟩
        obtain ⟨o5, H5⟩ : ∃ t, Hid (og6 os k 5 = t) := ⟨_, rfl⟩
        rw [H0.out] at HNX
        rw [H0.out] at r0
        rw [H1.out] at r1
        rw [H2.out] at r2
        rw [H3.out] at r3
        rw [H4.out] at r4
        rw [H5.out] at r5
        have HEA : Hid (EP w (wr.alloc (Obj.cells #[Value.int IntKind.i64 o0, Value.int IntKind.i64 o1, Value.int IntKind.i64 o2, Value.int IntKind.i64 o3, Value.int IntKind.i64 o4, Value.int IntKind.i64 o5] 43)) _) := HE.out.alloc _
        have HPA : Hid ((wr.alloc (Obj.cells #[Value.int IntKind.i64 o0, Value.int IntKind.i64 o1, Value.int IntKind.i64 o2, Value.int IntKind.i64 o3, Value.int IntKind.i64 o4, Value.int IntKind.i64 o5] 43)).heap[bp]? = _) := (heap_alloc_old _ _ (row_lt HP.out)).trans HP.out
        have HOA : Hid ((wr.alloc (Obj.cells #[Value.int IntKind.i64 o0, Value.int IntKind.i64 o1, Value.int IntKind.i64 o2, Value.int IntKind.i64 o3, Value.int IntKind.i64 o4, Value.int IntKind.i64 o5] 43)).heap[wr.heap.size]? = _) := heap_alloc_new _ _
        obtain ⟨i0, i1, i2, i3, i4, i5⟩ := cells6 HOA.out
        obtain ⟨s0, s1⟩ := cells2 HPA.out
        have HLE : Hid (bp + 1 ≤ wr.heap.size) := row_lt HP.out
        go_wp2_with (first
          | (at_builtin; refine append_int _ rfl _ _ rfl (bp + 1) sl k _ rfl ((HW.out.alloc _).alloc _) _ 1 (.int .i64 o0) rfl (cell_new1 _ _ _ _ (by simp)) rfl (by omega) (Nat.le_trans HLE.out (by simp; omega)) ?_
             intro v' w4 hown4 hgrow4
             obtain ⟨gg', cc', rfl, hgg'⟩ := own_some hown4
             have hne : ∀ q, sl.ownBlock = some q → bp < q := fun q e => (HW.out.lt _ e).1
             have hp4 : w4.heap[bp]? = some (.cells #[.slice none 0 0, sl] 33 (0, 0)) := (hgrow4.block _ (Nat.lt_of_lt_of_le (row_lt HP.out) (by simp; try omega)) (fun e => by have := hne _ e.symm; omega)).trans ((heap_alloc_old _ _ (row_lt HPA.out)).trans HPA.out)
             have HP4 : Hid (w4.heap[bp]? = _) := hp4
             obtain ⟨u0, u1⟩ := cells2 hp4
             have uf := fun i => frozen_of_row _ _ i _ _ hp4
             have HE4 : Hid (EP w w4 _) := EP.grown (HEA.out.alloc _) hgrow4 (fun q e => by have := hne q e; have := HBP.out; omega)
             have HW4 : Hid (w4.ownsRow (bp + 1) 2 1 (.slice (some ⟨gg', 0, none⟩) (k + 1) cc') (k + 1) _) := hown4
             clear hp4 hown4 hgrow4 hne))
        go_roundw
        case rel =>
          refine ⟨k + 1, _, by omega, by go_num, HE4.out.set (by have := HBP.out; omega), heap_setCell_same _ _ _ _ _ _ HP4.out, ?_⟩
          rw [HNX.out, List.map_append]
          exact owns_set HW4.out (by omega)
        case measure => simp [intOf]; omega
      · have hkl : k = K := by omega
        subst hkl
        obtain ⟨q0, q1⟩ := cells2 HE.out.2.2
        have qf := fun i => frozen_of_row _ _ i _ _ HE.out.2.2
        have HRN : Hid (w.heap.size + 1 ≠ bp) := Nat.ne_of_lt HBP.out
        rcases own_shape HW.out with rfl | ⟨gq, cq, rfl⟩
        · go_wp2
          refine bodyPost_ret (v := .tuple #[.agg #[.slice none 0 0, .slice none 0 0], .bool true]) (by simp [results, Try.results14, go_sem, q0, q1]) rfl ⟨_, rfl, ?_, ?_⟩
          · repeat (first | with_reducible exact HE.out.b | refine Below.setCell ?_ (by simp <;> omega) _)
          · exact owns_base (ownsRow_setCell_below (ownsRow_setCell_below HW.out (by simp; have := HBP.out; omega) _) (by simp; have := HBP.out; omega) _) (by have := HBP.out; omega)
        · go_wp2
          refine bodyPost_ret (v := .tuple #[.agg #[.slice none 0 0, .slice (some ⟨gq, 0, none⟩) k cq], .bool true]) (by simp [results, Try.results14, go_sem, q0, q1]) rfl ⟨_, rfl, ?_, ?_⟩
          · repeat (first | with_reducible exact HE.out.b | refine Below.setCell ?_ (by simp <;> omega) _)
          · exact owns_base (ownsRow_setCell_below (ownsRow_setCell_below HW.out (by simp; have := HBP.out; omega) _) (by simp; have := HBP.out; omega) _) (by have := HBP.out; omega)

end Go.Proofs.Ytonopidjkcmlmaa
