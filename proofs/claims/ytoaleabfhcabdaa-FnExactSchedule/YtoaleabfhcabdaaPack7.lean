import Derived.Test.YtoaleabfhcabdaaPack1
import Derived.Test.YtoaleabfhcabdaaPack2
import Derived.Test.YtoaleabfhcabdaaPack5
import Derived.Test.YtoaleabfhcabdaaSpecSched
import Derived.RangeFuncNested
import Derived.RangeFuncBound
import Derived.RangeFuncCalls
import Derived.RangeFuncLeaves
import Derived.Shelf.Abstract
import Derived.Shelf.RegionOpen
import Derived.OwnWalkIn
import Derived.TacticsInMore
import Derived.LoopNIn
import Derived.LoopIn
import Derived.Deep.Cut
namespace Go.Proofs.Ytoaleabfhcabdaa
open Go.RowKit Go.Shelf
attribute [local go_sem] Oper.semAt_some

/-- 'append' of a visit, inside a round. -/
theorem append_visits_in {F : Fence} {nf : Nat} (w : World) {ops : Array Oper} {rest : List Oper} {o : Oper} {a : Act} {Q : Exit → Act → World → Prop}
    (hg : o.guard = none) (s x : Operand) (hop : o.op = Op.call { callee := Callee.builtin Builtin.append, args := #[s, x], argTypes := #[33, 33] })
    (base : Nat) (v : Value) (k : Nat) (xs : List Value) (hs : a.eval s = v) (hown : w.ownsRow base 66 4 v k xs) (ad : Addr) (c : Nat) (news : List Value) (hx : a.eval x = .slice (some ad) 1 c) (hn : news.length = 4)
    (hc : ∀ j u, news[j]? = some u → w.cell? (ad.add j) = some u) (h1c : ∀ u ∈ news, u.oneCell' = true) (b1 : k ≤ 1000) (hb : base ≤ w.heap.size)
    (hK : ∀ v' w', w'.ownsRow base 66 4 v' (k + 1) (xs ++ news) → w.grownBy w' v.ownBlock → wpListIn F nf Try.prog ops Q rest (a.put o.dst v') w') :
    wpListIn F nf Try.prog ops Q (o :: rest) a w := by
  obtain ⟨i0, hi, hz0, hz1, hz2⟩ := info_parts infoVis4
  exact wpListIn_append_own w hg s x _ hop base _ i0 _ 4 32 Try.underlying33 hi hz0 hz1 hz2 rfl (by decide) v k xs hs hown ad 1 c news hx (by rw [hn]) hc h1c (by unfold maxLen; omega) (by omega) hb (fun v' w' h1 h2 _ => hK v' w' h1 h2)

/-- The cells of what has come. -/
def preV (n : Int) (zs ros : List Int) (home frm : Int) {m : Nat} (pre : List (Fin m)) : List Value := pre.flatMap fun x => [.int .i64 (og6 ros x.val 0), .int .i64 (arrV n zs ros home frm x.val), .int .i64 (startV n zs ros home frm x.val), .int .i64 (nowT n zs ros home frm (x.val + 1))]
theorem preV_snoc (n : Int) (zs ros : List Int) (home frm : Int) {m : Nat} (pre : List (Fin m)) (x : Fin m) : preV n zs ros home frm (pre ++ [x]) = preV n zs ros home frm pre ++ [.int .i64 (og6 ros x.val 0), .int .i64 (arrV n zs ros home frm x.val), .int .i64 (startV n zs ros home frm x.val), .int .i64 (nowT n zs ros home frm (x.val + 1))] := by
  simp [preV]
theorem preV_to (n : Int) (zs ros : List Int) (home frm : Int) {m : Nat} : ∀ (k : Nat) (ys : List (Fin m)), k ≤ m → ys.map Fin.val = List.range k → preV n zs ros home frm ys = ((visL n zs ros home frm m).take (k * 4)).map (Value.int .i64)
  | 0, ys, _, h => by
    have : ys = [] := by simpa using h
    simp [this, preV]
  | k + 1, ys, hk, h => by
    rcases List.eq_nil_or_concat ys with rfl | ⟨pre, x, rfl⟩
    · have := congrArg List.length h
      simp at this
    · rw [List.concat_eq_append] at h ⊢
      rw [List.map_append, List.range_succ] at h
      have h2 := List.append_inj' h (by simp)
      have hx : x.val = k := by simpa using h2.2
      rw [preV_snoc, preV_to n zs ros home frm k pre (by omega) h2.1]
      exact visL_step n zs ros home frm (by omega) (by rw [hx]) (by rw [hx]) (by rw [hx]) (by rw [hx])

/-- Inside Schedule: the tour's box, the list's, and what it owns. -/
def ListAt (w W : World) (ts : Array Value) (base : Nat) (k : Nat) (xs : List Value) : Prop :=
  Below w.heap.size w W ∧ W.heap[w.heap.size]? = some (.cells ts 72 (0, 0)) ∧ ∃ sl, W.heap[w.heap.size + 1]? = some (.cells #[sl] 33 (0, 0)) ∧ W.ownsRow base 66 4 sl k xs
theorem ListAt.below {w W W' : World} {ts : Array Value} {base k : Nat} {xs : List Value} (h : ListAt w W ts base k xs) (hb : Below W.heap.size W W') : ListAt w W' ts base k xs := by
  obtain ⟨h1, h2, sl, h3, h4⟩ := h
  exact ⟨h1.trans (hb.mono h1.size), below_row hb (row_lt h2) h2, sl, below_row hb (row_lt h3) h3, owns_below h4 hb⟩
theorem owns_own {B base size k : Nat} {e : TypeId} {v : Value} {xs : List Value} {W W' : World} {row : Option Nat} (h : W.ownsRow base e size v k xs) (hg : W.grownBy W' row) (hr : ∀ r, row = some r → B ≤ r ∧ ∃ o : Obj, W.heap[r]? = some o ∧ o.isCells = false) : W'.ownsRow base e size v k xs := by
  refine h.kept hg ?_
  obtain ⟨_, ⟨rfl, _⟩ | ⟨g, cap, cur, rfl, _, h4, _⟩⟩ := h
  · exact .inl rfl
  · right
    intro e
    obtain ⟨_, o, ho, hc⟩ := hr g e.symm
    rw [h4] at ho
    cases ho
    cases hc
theorem own_cells {base size k : Nat} {e : TypeId} {v : Value} {xs : List Value} {W : World} (h : W.ownsRow base e size v k xs) : ∀ (j : Nat) (o : Obj), v.ownBlock = some j → W.heap[j]? = some o → o.isCells = true := by
  intro j o hj ho
  obtain ⟨_, ⟨rfl, _⟩ | ⟨g, cap, cur, rfl, _, h4, _⟩⟩ := h
  · cases hj
  · cases hj
    rw [show W.heap[(⟨g, 0, none⟩ : Addr).block]? = W.heap[g]? from rfl, h4] at ho
    cases ho
    rfl
theorem ListAt.own {β : Type} (w : World) (ts : Array Value) (base : Nat) (k : β → Nat) (xs : β → List Value) (B : Nat) (hB : w.heap.size ≤ B) : OwnFrom B (fun s W => ListAt w W ts base (k s) (xs s)) := fun s W W' row hs hg hr => by
  obtain ⟨h1, h2, sl, h3, h4⟩ := hs
  exact ⟨ownFrom_below (Nat.le_refl _) hB () W W' row h1 hg hr, row_own (cs := fun _ : Unit => ts) () W W' row h2 hg hr, sl, row_own (cs := fun _ : Unit => #[sl]) () W W' row h3 hg hr, owns_own h4 hg hr⟩
theorem KpT.grown {n₀ Bt : Nat} {ob : Obj} {W W' : World} {row : Option Nat} (hg : W.grownBy W' row) (hn : n₀ ≤ W.heap.size) (h1 : ∀ g, row = some g → n₀ ≤ g ∧ Bt ≠ g) : KpT n₀ Bt ob W W' :=
  ⟨(Below.refl _ _).grown hg hn (fun k e => (h1 k e).1), fun h => (hg.block Bt (Array.getElem?_eq_some_iff.1 h).1 (fun e => (h1 Bt e.symm).2 rfl)).trans h⟩

set_option maxRecDepth 100000 in
set_option maxHeartbeats 2000000 in
theorem implSchedule_any (n fine veh : Int) (a ao av bi : Option Addr) (cap ko co kv cv c2 : Nat) (zs os vs ids : List Int) (w : World) (hA : IntsAt w a zs) (hO : IntsAt w ao os) (hV : IntsAt w av vs) (hI : IntsAt w bi ids) (hlo : os.length = ko * 6) (hlv : vs.length = kv * 5) (hko : ko ≤ 9223372036854775807) (hkv : kv ≤ 9223372036854775807) (hli : ids.length ≤ 9223372036854775807) (hc2 : ids.length ≤ c2) :
    Calls Try.prog 11 #[.agg #[.int .i64 n, .slice a zs.length cap, .slice ao ko co, .slice av kv cv, .int .i64 fine], .agg #[.int .i64 veh, .slice bi ids.length c2]] w fun e w' => Below w.heap.size w w' ∧ ((codeV (caseB n zs os vs ko kv fine) n zs os vs ko kv veh ids ≠ 0 ∧ e = .returned (.tuple #[.slice none 0 0, .int .i64 0, .int .i64 (codeV (caseB n zs os vs ko kv fine) n zs os vs ko kv veh ids)])) ∨ (codeV (caseB n zs os vs ko kv fine) n zs os vs ko kv veh ids = 0 ∧ ∃ sl, e = .returned (.tuple #[sl, .int .i64 (homeV n zs (rosOf os ko ids) ids.length (fnd5F vs kv veh 1) (fnd5F vs kv veh 3)), .int .i64 0]) ∧ w'.ownsRow w.heap.size 66 4 sl ids.length ((visL n zs (rosOf os ko ids) (fnd5F vs kv veh 1) (fnd5F vs kv veh 3) ids.length).map (Value.int .i64)))) := by
  have HA : Hid (IntsAt w a zs) := hA
  have HO : Hid (IntsAt w ao os) := hO
  have HV : Hid (IntsAt w av vs) := hV
  have HI : Hid (IntsAt w bi ids) := hI
  have HLO : Hid _ := hlo
  have HLV : Hid _ := hlv
  clear hA hO hV hI hlo hlv
  have HC0 : Hid (CR w ((w.alloc (.cells #[Value.int IntKind.i64 n, Value.slice a zs.length cap, Value.slice ao ko co, Value.slice av kv cv, Value.int IntKind.i64 fine] 40)).alloc (.cells #[Value.int IntKind.i64 veh, Value.slice bi ids.length c2] 42)) _ _) := CR.new w _ _
  obtain ⟨r, HR⟩ : ∃ r, Hid (codeV (caseB n zs os vs ko kv fine) n zs os vs ko kv veh ids = r) := ⟨_, rfl⟩
  refine (callsIn_wide (n := 3)).1 ?_
  refine callsIn_of_wp_marks Try.func11 rfl trivial ?_ rfl
  simp only [Try.ntmps11, List.size_toArray, List.length_cons, List.length_nil, Nat.reduceAdd, Nat.reduceSub, Array.replicate_succ, Array.replicate_zero, List.push_toArray, List.append_toArray, List.nil_append, List.cons_append]
  refine wpIn_wide.2 ?_
  obtain ⟨c0, c1, c2', c3, c4⟩ := cells5 HC0.out.2.1
  obtain ⟨d0, d1⟩ := cells2 HC0.out.2.2
  go_wp2_with fail
  clear c0 c1 c2' c3 c4 d0 d1
  refine (checkedTour_any n fine veh a ao av bi cap ko co kv cv c2 zs os vs ids _ (HA.out.below HC0.out.1) (HO.out.below HC0.out.1) (HV.out.below HC0.out.1) (HI.out.below HC0.out.1) HLO.out HLV.out hko hkv hli hc2).mono ?_
  rintro e w2 ⟨hb, ⟨hf, rfl⟩ | ⟨hf, g, _, rfl, hros⟩⟩
  · have HB2 : Hid (Below w.heap.size w w2) := HC0.out.1.trans (hb.mono HC0.out.1.size)
    rw [HR.out] at hf ⊢
    have hfb : (r != 0) = true := by simp [hf]
    have HF : Hid (r ≠ 0) := hf
    clear hb hf
    go_wp2
    exact ⟨.tuple #[.slice none 0 0, .int .i64 0, .int .i64 r], by simp [results, Try.results11, go_sem], HB2.out.alloc HB2.out.size _, .inl ⟨by rw [HR.out]; exact HF.out, by rw [HR.out]⟩⟩
  · have HB2 : Hid (Below w.heap.size w w2) := HC0.out.1.trans (hb.mono HC0.out.1.size)
    have HFZ : Hid (codeV (caseB n zs os vs ko kv fine) n zs os vs ko kv veh ids = 0) := hf
    obtain ⟨hcb, _, hst⟩ := formV_zero (codeV_zero hf).1
    obtain ⟨hmat, hords, hvehs, hn1, _⟩ := caseB_parts hcb
    obtain ⟨hvb1, hvb2, hvb3, hvb4⟩ := fnd5F_bd hvehs hn1 veh
    have HMAT : Hid (matB n zs = true) := hmat
    have HBD : Hid (RosBd n (rosOf os ko ids) ids.length) := rosBd_of hords hn1 ids
    have h12 := (stopsB_true hst).1
    obtain ⟨v0, G0⟩ : ∃ t, Hid (fnd5F vs kv veh 0 = t) := ⟨_, rfl⟩
    obtain ⟨v1, G1⟩ : ∃ t, Hid (fnd5F vs kv veh 1 = t) := ⟨_, rfl⟩
    obtain ⟨v2, G2⟩ : ∃ t, Hid (fnd5F vs kv veh 2 = t) := ⟨_, rfl⟩
    obtain ⟨v3, G3⟩ : ∃ t, Hid (fnd5F vs kv veh 3 = t) := ⟨_, rfl⟩
    obtain ⟨v4, G4⟩ : ∃ t, Hid (fnd5F vs kv veh 4 = t) := ⟨_, rfl⟩
    rw [G1.out] at hvb1
    rw [G3.out] at hvb3
    rw [G0.out, G1.out, G2.out, G3.out, G4.out]
    have HX1 : Hid (0 ≤ v1 ∧ v1 < n) := hvb1
    have HX3 : Hid (0 ≤ v3 ∧ v3 ≤ 1000000) := hvb3
    have HBw : Hid (Below w2.heap.size w2 ((w2.alloc (Obj.cells #[Value.int IntKind.i64 n, Value.slice a zs.length cap, Value.int IntKind.i64 v0, Value.int IntKind.i64 v1, Value.int IntKind.i64 v2, Value.int IntKind.i64 v3, Value.int IntKind.i64 v4, Value.slice (some ⟨g, 0, none⟩) ids.length ids.length] 72)).alloc (Obj.cells #[Value.slice none 0 0] 33))) := ((Below.refl _ _).alloc (Nat.le_refl _) _).alloc (by simp) _
    have HTw : Hid (((w2.alloc (Obj.cells #[Value.int IntKind.i64 n, Value.slice a zs.length cap, Value.int IntKind.i64 v0, Value.int IntKind.i64 v1, Value.int IntKind.i64 v2, Value.int IntKind.i64 v3, Value.int IntKind.i64 v4, Value.slice (some ⟨g, 0, none⟩) ids.length ids.length] 72)).alloc (Obj.cells #[Value.slice none 0 0] 33)).heap[w2.heap.size]? = _) := heap_alloc2_old _ _ _
    have HLw : Hid (((w2.alloc (Obj.cells #[Value.int IntKind.i64 n, Value.slice a zs.length cap, Value.int IntKind.i64 v0, Value.int IntKind.i64 v1, Value.int IntKind.i64 v2, Value.int IntKind.i64 v3, Value.int IntKind.i64 v4, Value.slice (some ⟨g, 0, none⟩) ids.length ids.length] 72)).alloc (Obj.cells #[Value.slice none 0 0] 33)).heap[w2.heap.size + 1]? = _) := heap_alloc2_new _ _ _
    have HA2 : Hid (IntsAt w2 a zs) := HA.out.below HB2.out
    have HR2 : Hid (IntsAt w2 (some ⟨g, 0, none⟩) (rosOf os ko ids)) := hros
    clear hb hf hros HC0 hmat hords hvehs hn1 hvb1 hvb2 hvb3 hvb4 hcb hst
    obtain ⟨t0, t1, t2, t3, t4, t5, t6, t7⟩ := cells8 HTw.out
    go_wp2_with fail
    clear t0 t1 t2 t3 t4 t5 t6 t7
    generalize ((w2.alloc (Obj.cells #[Value.int IntKind.i64 n, Value.slice a zs.length cap, Value.int IntKind.i64 v0, Value.int IntKind.i64 v1, Value.int IntKind.i64 v2, Value.int IntKind.i64 v3, Value.int IntKind.i64 v4, Value.slice (some ⟨g, 0, none⟩) ids.length ids.length] 72)).alloc (Obj.cells #[Value.slice none 0 0] 33)) = W1 at *
    refine (visits_any n v0 v1 v2 v3 v4 a _ cap ids.length ids.length zs W1).mono ?_
    rintro e w3 ⟨rfl, rfl⟩
    have HX2 : Hid (ListAt w2 (W1.alloc (.cells #[Value.int IntKind.i64 n, Value.slice a zs.length cap, Value.int IntKind.i64 v0, Value.int IntKind.i64 v1, Value.int IntKind.i64 v2, Value.int IntKind.i64 v3, Value.int IntKind.i64 v4, Value.slice (some ⟨g, 0, none⟩) ids.length ids.length] 72)) #[Value.int IntKind.i64 n, Value.slice a zs.length cap, Value.int IntKind.i64 v0, Value.int IntKind.i64 v1, Value.int IntKind.i64 v2, Value.int IntKind.i64 v3, Value.int IntKind.i64 v4, Value.slice (some ⟨g, 0, none⟩) ids.length ids.length] (W1.heap.size + 1) 0 []) := ListAt.below ⟨HBw.out, HTw.out, _, HLw.out, World.ownsRow_nil _ _ _ _⟩ ((Below.refl _ _).alloc (Nat.le_refl _) _)
    have HT2 : Hid ((W1.alloc (.cells #[Value.int IntKind.i64 n, Value.slice a zs.length cap, Value.int IntKind.i64 v0, Value.int IntKind.i64 v1, Value.int IntKind.i64 v2, Value.int IntKind.i64 v3, Value.int IntKind.i64 v4, Value.slice (some ⟨g, 0, none⟩) ids.length ids.length] 72)).heap[W1.heap.size]? = some (.cells #[Value.int IntKind.i64 n, Value.slice a zs.length cap, Value.int IntKind.i64 v0, Value.int IntKind.i64 v1, Value.int IntKind.i64 v2, Value.int IntKind.i64 v3, Value.int IntKind.i64 v4, Value.slice (some ⟨g, 0, none⟩) ids.length ids.length] 72 (0, 0))) := heap_alloc_new _ _
    have HZ : Hid (w2.heap.size + 1 < W1.heap.size) := row_lt HLw.out
    go_wp2_with fail
    refine (wpIn_wide (n := 3)).1 ?_
    refine wpIn_rangeFunc_ownH rfl (by omega) (gf := 56) (lb := #[.pointer (some ⟨W1.heap.size, 0, none⟩)]) rfl trivial (enters_of Try.func56 (by kernel_rfl) rfl)
      (visits_stops 2 (by omega) W1.heap.size w2.heap.size n v0 v1 v2 v3 v4 a (some ⟨g, 0, none⟩) cap ids.length ids.length zs (rosOf os ko ids) w2 _ (Nat.le_refl _) HX2.out.1 HT2.out HMAT.out HA2.out HR2.out (rosOf_length os ko ids) HBD.out HX1.out HX3.out h12)
      KpT.trans (KpT.putObj rfl HX2.out.1.size) (Below.refl _ _) (fun _ => rfl)
      (fun pre W => ListAt w2 W #[Value.int IntKind.i64 n, Value.slice a zs.length cap, Value.int IntKind.i64 v0, Value.int IntKind.i64 v1, Value.int IntKind.i64 v2, Value.int IntKind.i64 v3, Value.int IntKind.i64 v4, Value.slice (some ⟨g, 0, none⟩) ids.length ids.length] (W1.heap.size + 1) pre.length (preV n zs (rosOf os ko ids) v1 v3 pre) ∧ W1.heap.size < W.heap.size)
      (fun _ _ _ => False)
      (OwnFrom.and (ListAt.own w2 _ _ (fun pre => pre.length) (fun pre => preV n zs (rosOf os ko ids) v1 v3 pre) _ HX2.out.1.size) (fun _ _ _ _ hs hg _ => Nat.lt_of_lt_of_le hs hg.size))
      (fun _ _ _ _ _ hs _ _ => hs)
      ⟨HX2.out, by simp⟩
      (fun x a' W => ∃ Bv, W1.heap.size < Bv ∧ W.heap[Bv]? = some (.cells #[.int .i64 (og6 (rosOf os ko ids) x.val 0), .int .i64 (arrV n zs (rosOf os ko ids) v1 v3 x.val), .int .i64 (startV n zs (rosOf os ko ids) v1 v3 x.val), .int .i64 (nowT n zs (rosOf os ko ids) v1 v3 (x.val + 1))] 66 (0, 0)) ∧ a' = { tmps := #[.agg #[.int .i64 n, .slice a zs.length cap, .slice ao ko co, .slice av kv cv, .int .i64 fine], .agg #[.int .i64 veh, .slice bi ids.length c2], .pointer (some ⟨w.heap.size, 0, none⟩), .pointer (some ⟨w.heap.size + 1, 0, none⟩), .slice none 0 0, .int .i64 0, .int .i64 0, .pointer (some ⟨w2.heap.size, 0, none⟩), .int .i64 0, .pointer (some ⟨w2.heap.size + 1, 0, none⟩), undef, .pointer (some ⟨Bv, 0, none⟩), .tuple #[.agg #[.int .i64 n, .slice a zs.length cap, .int .i64 v0, .int .i64 v1, .int .i64 v2, .int .i64 v3, .int .i64 v4, .slice (some ⟨g, 0, none⟩) ids.length ids.length], .int .i64 0], .agg #[.int .i64 n, .slice a zs.length cap, .slice ao ko co, .slice av kv cv, .int .i64 fine], .agg #[.int .i64 veh, .slice bi ids.length c2], .tuple #[.agg #[.int .i64 n, .slice a zs.length cap, .int .i64 v0, .int .i64 v1, .int .i64 v2, .int .i64 v3, .int .i64 v4, .slice (some ⟨g, 0, none⟩) ids.length ids.length], .int .i64 0], .agg #[.int .i64 n, .slice a zs.length cap, .int .i64 v0, .int .i64 v1, .int .i64 v2, .int .i64 v3, .int .i64 v4, .slice (some ⟨g, 0, none⟩) ids.length ids.length], .int .i64 0, .int .i64 0, .bool false, undef, .agg #[.int .i64 n, .slice a zs.length cap, .int .i64 v0, .int .i64 v1, .int .i64 v2, .int .i64 v3, .int .i64 v4, .slice (some ⟨g, 0, none⟩) ids.length ids.length], .func (.func 56) #[] #[.pointer (some ⟨W1.heap.size, 0, none⟩)], .agg #[.int .i64 (og6 (rosOf os ko ids) x.val 0), .int .i64 (og6 (rosOf os ko ids) x.val 1), .int .i64 (og6 (rosOf os ko ids) x.val 2), .int .i64 (og6 (rosOf os ko ids) x.val 3), .int .i64 (og6 (rosOf os ko ids) x.val 4), .int .i64 (og6 (rosOf os ko ids) x.val 5)], .agg #[.int .i64 (og6 (rosOf os ko ids) x.val 0), .int .i64 (arrV n zs (rosOf os ko ids) v1 v3 x.val), .int .i64 (startV n zs (rosOf os ko ids) v1 v3 x.val), .int .i64 (nowT n zs (rosOf os ko ids) v1 v3 (x.val + 1))], undef, undef, undef, undef, undef, undef, undef], defers := [] })
      (fun x a' _ X Y row hs hg hr => by
        obtain ⟨Bv, g2, g4, g5⟩ := hs
        exact ⟨Bv, g2, row_own (cs := fun _ : Unit => _) () X Y row g4 hg hr, g5⟩)
      ?assign ?body ?done ?stop
    case assign =>
      rintro l pre x W K ⟨hi, hsz⟩ hK
      gi_wp2
      exact hK _ _ ((KeepsOthers.alloc _ _).from _) (KpT.alloc _ _ hi.1.size) ⟨hi.below ((Below.refl _ _).alloc (Nat.le_refl _) _), by simp; omega⟩ ⟨W.heap.size, hsz, heap_alloc_new _ _, rfl⟩
    case body =>
      rintro l pre x a' W hl hlr ⟨⟨hi1, hi2, sl, hi3, hi4⟩, hsz⟩ ⟨Bv, g2, g4, rfl⟩ hlt
      have HI1 : Hid (Below w2.heap.size w2 W) := hi1
      have HI2 : Hid (W.heap[w2.heap.size]? = _) := hi2
      have HI3 : Hid (W.heap[w2.heap.size + 1]? = some (.cells #[sl] 33 (0, 0))) := hi3
      have HI4 : Hid (W.ownsRow (W1.heap.size + 1) 66 4 sl pre.length (preV n zs (rosOf os ko ids) v1 v3 pre)) := hi4
      have HSZ : Hid (W1.heap.size < W.heap.size) := hsz
      have HG4 : Hid (W.heap[Bv]? = _) := g4
      have HSN := preV_snoc n zs (rosOf os ko ids) v1 v3 pre x
      obtain ⟨x0, HX0⟩ : ∃ t, Hid (og6 (rosOf os ko ids) x.val 0 = t) := ⟨_, rfl⟩
      obtain ⟨xa, HXA⟩ : ∃ t, Hid (arrV n zs (rosOf os ko ids) v1 v3 x.val = t) := ⟨_, rfl⟩
      obtain ⟨xs, HXS⟩ : ∃ t, Hid (startV n zs (rosOf os ko ids) v1 v3 x.val = t) := ⟨_, rfl⟩
      obtain ⟨xn, HXN⟩ : ∃ t, Hid (nowT n zs (rosOf os ko ids) v1 v3 (x.val + 1) = t) := ⟨_, rfl⟩
      rw [HX0.out, HXA.out, HXS.out, HXN.out] at HSN HG4
      have HSN' : Hid (_ = _) := HSN
      have j0 : W.cell? ⟨Bv, 0, none⟩ = some (.int .i64 x0) := by rw [cell_of_row _ _ 0 _ _ _ HG4.out]; simp
      have j1 : W.cell? ⟨Bv, 1, none⟩ = some (.int .i64 xa) := by rw [cell_of_row _ _ 1 _ _ _ HG4.out]; simp
      have j2 : W.cell? ⟨Bv, 2, none⟩ = some (.int .i64 xs) := by rw [cell_of_row _ _ 2 _ _ _ HG4.out]; simp
      have j3 : W.cell? ⟨Bv, 3, none⟩ = some (.int .i64 xn) := by rw [cell_of_row _ _ 3 _ _ _ HG4.out]; simp
      have cl : W.cell? ⟨w2.heap.size + 1, 0, none⟩ = some sl := by rw [cell_of_row _ _ 0 _ _ _ HI3.out]; simp
      clear hi1 hi2 hi3 hi4 hsz g4 HSN
      gi_wp2_with (first
        | (gi_at_builtin; refine append_visits_in _ rfl _ _ rfl (W1.heap.size + 1) sl pre.length _ rfl (HI4.out.alloc _) _ 1 _ rfl rfl (cells4_new _ _ _ _ _ _ _ (by simp)) (by simp [Value.oneCell']) (by omega) (Nat.le_trans HSZ.out (by simp)) ?_
           intro v' w4 hown4 hgrow4
           obtain ⟨gg', cc', rfl, hgg'⟩ := owned_at hown4
           have hbx : w4.heap[w2.heap.size + 1]? = some (.cells #[sl] 33 (0, 0)) := (hgrow4.block _ (Nat.lt_of_lt_of_le (row_lt HI3.out) (by simp)) (fun e => by have h8 := (HI4.out.lt _ e.symm).1; have h9 := HZ.out; omega)).trans ((heap_alloc_old _ _ (row_lt HI3.out)).trans HI3.out)
           have cl4 : w4.cell? ⟨w2.heap.size + 1, 0, none⟩ = some sl := by rw [cell_of_row _ _ 0 _ _ _ hbx]; simp
           have fl4 := fun i => frozen_of_row _ _ i _ _ hbx
           have HBX : Hid (w4.heap[w2.heap.size + 1]? = _) := hbx
           have HOW : Hid (w4.ownsRow _ _ _ _ _ _) := hown4
           have HGW : Hid (World.grownBy _ w4 _) := hgrow4
           clear hbx hown4 hgrow4))
      have hne : ∀ gg, sl.ownBlock = some gg → w2.heap.size ≤ gg ∧ W1.heap.size ≠ gg := fun gg e => by
        have h8 := (HI4.out.lt _ e).1
        have h9 := HZ.out
        omega
      refine ⟨(((KeepsOthers.alloc _ _).trans (KeepsOthers.of_grownBy HGW.out (own_cells (HI4.out.alloc _)))).trans (KeepsOthers.setCell _ _ _)).from _, ((KpT.alloc _ _ HI1.out.size).trans (KpT.grown HGW.out (Nat.le_trans HI1.out.size (by simp)) hne)).trans (KpT.set _ _ _ _ (by omega) (by have h9 := HZ.out; omega)), ⟨?_, ?_, .slice (some ⟨gg', 0, none⟩) (pre.length + 1) cc', ?_, ?_⟩, ?_⟩
      · exact ((HI1.out.alloc HI1.out.size _).grown HGW.out (Nat.le_trans HI1.out.size (by simp)) (fun k e => (hne k e).1)).setCell (by simp) _
      · exact row_set' ((HGW.out.block _ (Nat.lt_of_lt_of_le (row_lt HI2.out) (by simp)) (fun e => by have h8 := (HI4.out.lt _ e.symm).1; have h9 := HZ.out; omega)).trans ((heap_alloc_old _ _ (row_lt HI2.out)).trans HI2.out)) (by omega)
      · exact heap_setCell_same _ _ _ _ _ _ HBX.out
      · rw [List.length_append, HSN'.out]
        exact ownsRow_setCell_below HOW.out (by simp; have h9 := HZ.out; omega) _
      · have h7 := HSZ.out
        have h8 := HGW.out.size
        simp [World.setCell] at h8 ⊢
        omega
    case done =>
      rintro D ys W hD hS ⟨⟨hi1, hi2, sl, hi3, hi4⟩, hsz⟩ hK
      have hlen : ys.length = ids.length := by
        have := congrArg List.length hS
        simpa using this
      rw [hlen, preV_to n zs (rosOf os ko ids) v1 v3 ids.length ys (Nat.le_refl _) hS, List.take_of_length_le (by rw [visL_length]; omega)] at hi4
      have HI1 : Hid (Below w2.heap.size w2 W) := hi1
      have HI3 : Hid (W.heap[w2.heap.size + 1]? = some (.cells #[sl] 33 (0, 0))) := hi3
      have HI4 : Hid (W.ownsRow (W1.heap.size + 1) 66 4 sl ids.length _) := hi4
      have HK : Hid (W.heap[D]? = some (.deferred (some []))) := hK
      have HD : Hid (w2.heap.size ≤ D) := Nat.le_trans HX2.out.1.size hD
      obtain ⟨t0, t1, t2, t3, t4, t5, t6, t7⟩ := cells8 hi2
      have cl : W.cell? ⟨w2.heap.size + 1, 0, none⟩ = some sl := by rw [cell_of_row _ _ 0 _ _ _ HI3.out]; simp
      clear hi1 hi2 hi3 hi4 hK hD hS hsz hlen
      obtain ⟨d, HDD⟩ : ∃ t, Hid (homeV n zs (rosOf os ko ids) ids.length v1 v3 = t) := ⟨_, rfl⟩
      go_wp2_with fail
      have e0 := fun s : Kin W => s.cell t0
      have e1 := fun s : Kin W => s.cell t1
      have e2 := fun s : Kin W => s.cell t2
      have e3 := fun s : Kin W => s.cell t3
      have e4 := fun s : Kin W => s.cell t4
      have e5 := fun s : Kin W => s.cell t5
      have e6 := fun s : Kin W => s.cell t6
      have e7 := fun s : Kin W => s.cell t7
      have e8 := fun s : Kin W => s.cell cl
      have hkin := Kin.there W
      refine wp_region_kin (by kernel_rfl) (by kernel_rfl) ?_
      repeat (go_big_quiet_step ((first
        | (go_at_call 37; exact Kin.call (home_is n v0 v1 v2 v3 v4 a (some ⟨g, 0, none⟩) cap ids.length ids.length zs (rosOf os ko ids) _ d HDD.out HMAT.out ((HA2.out.below HI1.out).below (Kin.below _)) ((HR2.out.below HI1.out).below (Kin.below _)) (rosOf_length os ko ids) HBD.out HX1.out HX3.out h12)))))
      refine wpQuiet_nil ?_
      rintro _ ⟨s, rfl⟩
      have HB5 : Hid (Below w2.heap.size w2 s.w) := HI1.out.trans (s.below.mono HI1.out.size)
      have HO5 : Hid (s.w.ownsRow (W1.heap.size + 1) 66 4 sl ids.length _) := owns_below HI4.out s.below
      have HK5 : Hid (s.w.heap[D]? = some (.deferred (some []))) := below_row s.below (Array.getElem?_eq_some_iff.1 HK.out).1 HK.out
      clear t0 t1 t2 t3 t4 t5 t6 t7 e0 e1 e2 e3 e4 e5 e6 e7 e8 hkin cl
      generalize s.w = W5 at *
      go_wp2
      refine ⟨by simp, .inl ⟨_, _, rfl, run_takeDeferred HK5.out, ?_⟩⟩
      refine ⟨.tuple #[sl, .int .i64 d, .int .i64 0], by simp [results, Try.results11, go_sem], (HB2.out.trans (HB5.out.mono HB2.out.size)).trans (belowK_b (w := w2) HB2.out.size W5 D _ _ HD.out HK5.out rfl rfl), .inr ⟨HFZ.out, sl, ?_, ?_⟩⟩
      · rw [G1.out, G3.out, HDD.out]
      · rw [G1.out, G3.out]
        obtain ⟨q1, q2 | ⟨gg, cap', cur, q2, q3, q4, q5⟩⟩ := owns_own (B := 0) HO5.out (grownBy_putObj' W5 D (.deferred none)) (fun r e => by cases e; exact ⟨Nat.zero_le _, _, HK5.out, rfl⟩)
        · exact ⟨q1, .inl q2⟩
        · exact ⟨q1, .inr ⟨gg, cap', cur, q2, by have h7 := HB2.out.size; have h9 := HZ.out; omega, q4, q5⟩⟩
    case stop =>
      rintro D c pre W _ _ h _
      exact h.elim

end Go.Proofs.Ytoaleabfhcabdaa

namespace Go.Proofs.Ytoaleabfhcabdaa
open Go.RowKit

set_option maxHeartbeats 400000 in
theorem eqVisit_same (x0 x1 x2 x3 : Int) (w : World) :
    Calls Try.prog 38 #[.agg #[.int .i64 x0, .int .i64 x1, .int .i64 x2, .int .i64 x3], .agg #[.int .i64 x0, .int .i64 x1, .int .i64 x2, .int .i64 x3]] w fun e w' => e = .returned (.bool true) ∧ Below w.heap.size w w' := by
  go_enter Try.func38, Try.ntmps38
  go_wp2
  go_ret
  exact ⟨rfl, ((Below.refl _ _).alloc (Nat.le_refl _) _).alloc (by simp) _⟩

theorem row4_at {w : World} {b off : Nat} {zs : List Int} {n : Nat} (h : ∀ j, j < zs.length → w.cell? ⟨b, off + j, none⟩ = some (.int .i64 (zs.getD j 0))) (hl : zs.length = n * 4) (i : Nat) (hi : i < n) :
    w.cell? ⟨b, off + i * 4, none⟩ = some (.int .i64 (zs.getD (i * 4) 0)) ∧ w.cell? ⟨b, off + i * 4 + 1, none⟩ = some (.int .i64 (zs.getD (i * 4 + 1) 0)) ∧ w.cell? ⟨b, off + i * 4 + 2, none⟩ = some (.int .i64 (zs.getD (i * 4 + 2) 0)) ∧ w.cell? ⟨b, off + i * 4 + 3, none⟩ = some (.int .i64 (zs.getD (i * 4 + 3) 0)) :=
  ⟨h _ (by omega), h (i * 4 + 1) (by omega), h (i * 4 + 2) (by omega), h (i * 4 + 3) (by omega)⟩

set_option maxHeartbeats 1000000 in
theorem eqVisits_same (a b : Option Addr) (n c1 c2 : Nat) (xs : List Int) (w : World) (hA : IntsAt w a xs) (hB : IntsAt w b xs) (hl : xs.length = n * 4) (hn : n ≤ 1000000) :
    Calls Try.prog 12 #[.slice a n c1, .slice b n c2] w fun e w' => e = .returned (.bool true) ∧ Below w.heap.size w w' := by
  have HA : Hid (IntsAt w a xs) := hA
  have HB : Hid (IntsAt w b xs) := hB
  have HL : Hid (xs.length = n * 4) := hl
  clear hA hB hl
  go_enter Try.func12, Try.ntmps12
  go_wp2_with fail
  go_loopw [5] (fun t wr => ∃ k : Nat, k ≤ n ∧ t = .int .i64 k ∧ Below w.heap.size w wr) (fun t _ => n - (intOf t).toNat)
  case atStart => exact ⟨0, Nat.zero_le _, rfl, Below.refl _ _⟩
  case round =>
    obtain ⟨k, hk, rfl, hb⟩ := hrel
    have HW : Hid (Below w.heap.size w wr) := hb
    clear hb
    by_cases hlt : k < n
    · obtain ⟨b1, o1, rfl, hc1⟩ := IntsAt.some (IntsAt.below HA.out HW.out) (j := k * 4) (by rw [HL.out]; omega)
      obtain ⟨b2, o2, rfl, hc2⟩ := IntsAt.some (IntsAt.below HB.out HW.out) (j := k * 4) (by rw [HL.out]; omega)
      obtain ⟨y0, y1, y2, y3⟩ := row4_at hc1 HL.out k hlt
      obtain ⟨z0, z1, z2, z3⟩ := row4_at hc2 HL.out k hlt
      clear hc1 hc2
      generalize xs.getD (k * 4) 0 = x0 at *
      generalize xs.getD (k * 4 + 1) 0 = x1 at *
      generalize xs.getD (k * 4 + 2) 0 = x2 at *
      generalize xs.getD (k * 4 + 3) 0 = x3 at *
      go_wp2_with fail
      have e0 := fun s : Kin wr => s.cell y0
      have e1 := fun s : Kin wr => s.cell y1
      have e2 := fun s : Kin wr => s.cell y2
      have e3 := fun s : Kin wr => s.cell y3
      have f0 := fun s : Kin wr => s.cell z0
      have f1 := fun s : Kin wr => s.cell z1
      have f2 := fun s : Kin wr => s.cell z2
      have f3 := fun s : Kin wr => s.cell z3
      have hkin := Kin.there wr
      refine wp_region_kin (by kernel_rfl) (by kernel_rfl) ?_
      repeat (go_big_quiet_step ((go_at_call 38; exact Kin.call (eqVisit_same x0 x1 x2 x3 _))))
      refine wpQuiet_nil ?_
      rintro _ ⟨s, rfl⟩
      have HW2 : Hid (Below w.heap.size w s.w) := HW.out.trans (s.below.mono HW.out.size)
      clear e0 e1 e2 e3 f0 f1 f2 f3 hkin y0 y1 y2 y3 z0 z1 z2 z3
      generalize s.w = W2 at *
      go_wp2
      go_roundw
      case rel => exact ⟨k + 1, by omega, by go_num, HW2.out⟩
      case measure => simp [intOf]; omega
    · go_wp2
      go_ret
      exact ⟨rfl, HW.out⟩

/-- A slice of visits that was marked from 1 on. -/
def MarkedV (W : World) (sl : Value) (K : Nat) : Prop := (sl = .slice none 0 0 ∧ K = 0) ∨ ∃ g cap, sl = .slice (some ⟨g, 0, none⟩) K cap ∧ g < W.heap.size ∧ ∀ j, j < K * 4 → W.cell? ⟨g, j, none⟩ = some (.int .i64 (1 + (j : Nat)))
theorem MarkedV.below {W W' : World} {sl : Value} {K : Nat} (h : MarkedV W sl K) (hb : Below W.heap.size W W') : MarkedV W' sl K := by
  rcases h with h | ⟨g, cap, h1, h2, h3⟩
  · exact .inl h
  · exact .inr ⟨g, cap, h1, Nat.lt_of_lt_of_le h2 hb.size, fun j hj => (hb.cell (p := ⟨g, j, none⟩) h2).trans (h3 j hj)⟩
theorem owns_at {w : World} {base n : Nat} {e : TypeId} {sl : Value} {xs : List Int} (h : w.ownsRow base e 4 sl n (xs.map (Value.int .i64))) : ∃ a c, sl = .slice a n c ∧ IntsAt w a xs := by
  obtain ⟨h1, ⟨rfl, h2⟩ | ⟨g, cap, cur, rfl, h3, h4, h5⟩⟩ := id h
  · subst h2
    have : xs = [] := by simpa using h1
    subst this
    exact ⟨none, 0, rfl, fun j hj => by simp at hj⟩
  · exact ⟨_, _, rfl, owns_ints h⟩

theorem markVis_u (sl : Value) (K base : Nat) (xs : List Int) (w : World) (ho : w.ownsRow base 66 4 sl K (xs.map (Value.int .i64))) (hb : base ≤ w.heap.size) (hK : K ≤ 1000000) :
    Calls Try.prog 17 #[sl, .int .i64 1] w fun e w' => e = .returned (.int .i64 (1 + ((K * 4 : Nat) : Int))) ∧ Below base w w' ∧ MarkedV w' sl K := by
  obtain ⟨h1, ⟨rfl, rfl⟩ | ⟨g, cap, cur, rfl, h3, h4, h5, _, h7, _⟩⟩ := ho
  · refine (markVisitS_nil none 0 1 w).mono ?_
    rintro e w' ⟨rfl, rfl⟩
    exact ⟨rfl, Below.refl _ _, .inl ⟨rfl, rfl⟩⟩
  · have hsz : K * 4 ≤ cur.size := by rw [h7]; exact Nat.mul_le_mul_right 4 h5
    refine (markVisitS_any g K cap 1 cur _ w h4 hsz (by omega) (by omega) (by omega)).mono ?_
    rintro e w' ⟨rfl, hg, hr⟩
    refine ⟨rfl, (Below.refl _ _).grown hg hb (fun k e => by cases e; exact h3), .inr ⟨g, cap, rfl, row_lt hr, fun j hj => ?_⟩⟩
    rw [cell_of_row _ _ j _ _ _ hr]
    exact markA_get cur 1 (K * 4) hsz j hj
theorem heldVis_u (sl : Value) (K : Nat) (w : World) (hm : MarkedV w sl K) (hK : K ≤ 1000000) :
    Calls Try.prog 18 #[sl, .int .i64 1] w fun e w' => e = .returned (.int .i64 (1 + ((K * 4 : Nat) : Int))) ∧ w' = w := by
  rcases hm with ⟨rfl, rfl⟩ | ⟨g, cap, rfl, _, hc⟩
  · exact (heldVisitS_nil none 0 1 w).mono fun e w' ⟨h1, h2⟩ => ⟨h1, h2⟩
  · exact heldVisitS_any g K cap 1 w hc (by omega) (by omega) (by omega)
theorem eqVis_u (sl : Value) (b : Option Addr) (K c2 base : Nat) (xs : List Int) (w : World) (ho : w.ownsRow base 66 4 sl K (xs.map (Value.int .i64))) (hB : IntsAt w b xs) (hl : xs.length = K * 4) (hK : K ≤ 1000000) :
    Calls Try.prog 12 #[sl, .slice b K c2] w fun e w' => e = .returned (.bool true) ∧ Below w.heap.size w w' := by
  obtain ⟨a, c, rfl, hA⟩ := owns_at ho
  exact eqVisits_same a b K c c2 xs w hA hB hl hK

/-- What Schedule tells: how many visits, which, when it is home. -/
def schedK (code : Int) (k : Nat) : Nat := if code = 0 then k else 0
def schedX (code : Int) (xs : List Int) : List Int := if code = 0 then xs else []
def schedH (code h : Int) : Int := if code = 0 then h else 0
theorem specSched_u (n fine veh : Int) (a ao av bi : Option Addr) (cap ko co kv cv c2 : Nat) (zs os vs ids : List Int) (w : World) (hA : IntsAt w a zs) (hO : IntsAt w ao os) (hV : IntsAt w av vs) (hI : IntsAt w bi ids) (hlo : os.length = ko * 6) (hlv : vs.length = kv * 5) (hko : ko ≤ 9223372036854775807) (hkv : kv ≤ 9223372036854775807) (hli : ids.length ≤ 9223372036854775807) (hc2 : ids.length ≤ c2) (K : Nat) (X : List Int) (H C : Int) (hC : codeV (caseB n zs os vs ko kv fine) n zs os vs ko kv veh ids = C) (hK : schedK C ids.length = K) (hX : schedX C (visL n zs (rosOf os ko ids) (fnd5F vs kv veh 1) (fnd5F vs kv veh 3) ids.length) = X) (hH : schedH C (homeV n zs (rosOf os ko ids) ids.length (fnd5F vs kv veh 1) (fnd5F vs kv veh 3)) = H) :
    Calls Try.prog 8 #[.agg #[.int .i64 n, .slice a zs.length cap, .slice ao ko co, .slice av kv cv, .int .i64 fine], .agg #[.int .i64 veh, .slice bi ids.length c2]] w fun e w' => ∃ ad c, e = .returned (.tuple #[.slice ad K c, .int .i64 H, .int .i64 C]) ∧ Below w.heap.size w w' ∧ IntsAt w' ad X := by
  refine (specSchedule_any n fine veh a ao av bi cap ko co kv cv c2 zs os vs ids w hA hO hV hI hlo hlv hko hkv hli hc2).mono ?_
  rintro e w' ⟨hb, ⟨hf, rfl⟩ | ⟨hf, g, c, _, rfl, hv⟩⟩
  · rw [hC] at hf ⊢
    unfold schedK at hK
    unfold schedX at hX
    unfold schedH at hH
    rw [if_neg hf] at hK hX hH
    subst hK hX hH
    exact ⟨none, 0, rfl, hb, fun j hj => by simp at hj⟩
  · rw [hC] at hf
    unfold schedK at hK
    unfold schedX at hX
    unfold schedH at hH
    rw [if_pos hf] at hK hX hH
    subst hK hX hH
    exact ⟨some ⟨g, 0, none⟩, c, by rw [hf], hb, hv⟩
theorem implSched_u (n fine veh : Int) (a ao av bi : Option Addr) (cap ko co kv cv c2 : Nat) (zs os vs ids : List Int) (w : World) (hA : IntsAt w a zs) (hO : IntsAt w ao os) (hV : IntsAt w av vs) (hI : IntsAt w bi ids) (hlo : os.length = ko * 6) (hlv : vs.length = kv * 5) (hko : ko ≤ 9223372036854775807) (hkv : kv ≤ 9223372036854775807) (hli : ids.length ≤ 9223372036854775807) (hc2 : ids.length ≤ c2) (K : Nat) (X : List Int) (H C : Int) (hC : codeV (caseB n zs os vs ko kv fine) n zs os vs ko kv veh ids = C) (hK : schedK C ids.length = K) (hX : schedX C (visL n zs (rosOf os ko ids) (fnd5F vs kv veh 1) (fnd5F vs kv veh 3) ids.length) = X) (hH : schedH C (homeV n zs (rosOf os ko ids) ids.length (fnd5F vs kv veh 1) (fnd5F vs kv veh 3)) = H) :
    Calls Try.prog 11 #[.agg #[.int .i64 n, .slice a zs.length cap, .slice ao ko co, .slice av kv cv, .int .i64 fine], .agg #[.int .i64 veh, .slice bi ids.length c2]] w fun e w' => ∃ sl, e = .returned (.tuple #[sl, .int .i64 H, .int .i64 C]) ∧ Below w.heap.size w w' ∧ w'.ownsRow w.heap.size 66 4 sl K (X.map (Value.int .i64)) := by
  refine (implSchedule_any n fine veh a ao av bi cap ko co kv cv c2 zs os vs ids w hA hO hV hI hlo hlv hko hkv hli hc2).mono ?_
  rintro e w' ⟨hb, ⟨hf, rfl⟩ | ⟨hf, sl, rfl, hv⟩⟩
  · rw [hC] at hf ⊢
    unfold schedK at hK
    unfold schedX at hX
    unfold schedH at hH
    rw [if_neg hf] at hK hX hH
    subst hK hX hH
    exact ⟨_, rfl, hb, World.ownsRow_nil _ _ _ _⟩
  · rw [hC] at hf
    unfold schedK at hK
    unfold schedX at hX
    unfold schedH at hH
    rw [if_pos hf] at hK hX hH
    subst hK hX hH
    exact ⟨sl, by rw [hf], hb, hv⟩
theorem schedX_length (code : Int) (n : Int) (zs ros : List Int) (home frm : Int) (m : Nat) : (schedX code (visL n zs ros home frm m)).length = schedK code m * 4 := by
  unfold schedX schedK
  by_cases h : code = 0
  · rw [if_pos h, if_pos h, visL_length]
  · rw [if_neg h, if_neg h]
    rfl
theorem schedK_le {c : Bool} {n : Int} {zs os vs : List Int} {ko kv : Nat} {veh : Int} {ids : List Int} : schedK (codeV c n zs os vs ko kv veh ids) ids.length ≤ 12 := by
  unfold schedK
  by_cases h : codeV c n zs os vs ko kv veh ids = 0
  · rw [if_pos h]
    exact (stopsB_true (formV_zero (codeV_zero h).1).2.2).1
  · rw [if_neg h]
    omega

end Go.Proofs.Ytoaleabfhcabdaa

namespace Go.Proofs.Ytoaleabfhcabdaa
open Go.RowKit

theorem lr7' {w W : World} {c0 c1 c2 c3 c4 r0 r1 : Value} (h : LR w W #[c0, c1, c2, c3, c4] #[r0, r1]) :
    W.cell? ⟨w.heap.size, 0, none⟩ = some c0 ∧ W.cell? ⟨w.heap.size, 1, none⟩ = some c1 ∧ W.cell? ⟨w.heap.size, 2, none⟩ = some c2 ∧ W.cell? ⟨w.heap.size, 3, none⟩ = some c3 ∧ W.cell? ⟨w.heap.size, 4, none⟩ = some c4 ∧ W.cell? ⟨w.heap.size + 1, 0, none⟩ = some r0 ∧ W.cell? ⟨w.heap.size + 1, 1, none⟩ = some r1 := h.cells

set_option maxHeartbeats 1000000 in
theorem lawSchedule_big (n fine veh : Int) (a ao av bi : Option Addr) (lt cap ko co kv cv li c2 : Nat) (w : World) (hlt : lt ≤ 9223372036854775807) (hko : ko ≤ 9223372036854775807) (hkv : kv ≤ 9223372036854775807) (hli : li ≤ 9223372036854775807) (h : ¬ (lt + ko + kv + li ≤ 1048576)) :
    Calls Try.prog 3 #[.agg #[.int .i64 n, .slice a lt cap, .slice ao ko co, .slice av kv cv, .int .i64 fine], .agg #[.int .i64 veh, .slice bi li c2]] w fun e w' => e = .returned (.bool true) ∧ Below w.heap.size w w' := by
  have HB0 : Hid (LR w ((w.alloc (.cells #[Value.int IntKind.i64 n, Value.slice a lt cap, Value.slice ao ko co, Value.slice av kv cv, Value.int IntKind.i64 fine] 28)).alloc (.cells #[Value.int IntKind.i64 veh, Value.slice bi li c2] 30)) _ _) := LR.new w _ _
  by_cases hc : lt + ko + kv ≤ 1048576
  · have HS : Hid (szV 1048576 lt ko kv = 1048576 - lt - ko - kv) := szV_pos hc
    have HX : Hid ((if (1048576 - lt - ko - kv : Int) < li then -1 else (1048576 - lt - ko - kv : Int) - li) = -1) := if_pos (by omega)
    clear h
    go_enter Try.func3, Try.ntmps3
    obtain ⟨e0, e1, e2, e3, e4, e5, e6⟩ := HB0.out.cells
    go_wp2_with fail
    clear e0 e1 e2 e3 e4 e5 e6
    refine (szCase_any n fine 1048576 a ao av lt cap ko co kv cv _ (by omega) (by omega) hlt hko hkv).mono ?_
    rintro e w1 ⟨rfl, hb⟩
    rw [HS.out]
    have B1 : Hid (LR w w1 _ _) := HB0.out.below hb
    clear hb HB0
    obtain ⟨e0, e1, e2, e3, e4, e5, e6⟩ := B1.out.cells
    have hle : (0 : Int) ≤ 1048576 - lt - ko - kv := by omega
    go_wp2_with fail
    clear e0 e1 e2 e3 e4 e5 e6
    refine (szRoute_any veh bi li c2 (1048576 - lt - ko - kv) _ (by omega) (by omega) hli).mono ?_
    rintro e w2 ⟨rfl, hb⟩
    rw [HX.out]
    have B2 : Hid (LR w w2 _ _) := B1.out.below hb
    clear hb B1
    go_wp2
    go_ret
    exact ⟨rfl, B2.out.1⟩
  · have HS : Hid (szV 1048576 lt ko kv = -1) := szV_neg hc
    clear h
    go_enter Try.func3, Try.ntmps3
    obtain ⟨e0, e1, e2, e3, e4, e5, e6⟩ := HB0.out.cells
    go_wp2_with fail
    clear e0 e1 e2 e3 e4 e5 e6
    refine (szCase_any n fine 1048576 a ao av lt cap ko co kv cv _ (by omega) (by omega) hlt hko hkv).mono ?_
    rintro e w1 ⟨rfl, hb⟩
    rw [HS.out]
    have B1 : Hid (LR w w1 _ _) := HB0.out.below hb
    clear hb HB0
    go_wp2
    go_ret
    exact ⟨rfl, B1.out.1⟩

set_option maxHeartbeats 8000000 in
theorem lawSchedule (n fine veh : Int) (a ao av bi : Option Addr) (cap ko co kv cv c2 : Nat) (zs os vs ids : List Int) (w : World) (hA : IntsAt w a zs) (hO : IntsAt w ao os) (hV : IntsAt w av vs) (hI : IntsAt w bi ids) (hlo : os.length = ko * 6) (hlv : vs.length = kv * 5) (hsm : zs.length + ko + kv + ids.length ≤ 1048576) :
    Calls Try.prog 3 #[.agg #[.int .i64 n, .slice a zs.length cap, .slice ao ko co, .slice av kv cv, .int .i64 fine], .agg #[.int .i64 veh, .slice bi ids.length c2]] w fun e w' => e = .returned (.bool true) ∧ Below w.heap.size w w' := by
  have HA : Hid (IntsAt w a zs) := hA
  have HO : Hid (IntsAt w ao os) := hO
  have HV : Hid (IntsAt w av vs) := hV
  have HI : Hid (IntsAt w bi ids) := hI
  have HLO : Hid _ := hlo
  have HLV : Hid _ := hlv
  clear hA hO hV hI hlo hlv
  have HSZ : Hid (szV 1048576 zs.length ko kv = 1048576 - zs.length - ko - kv) := szV_pos (by omega)
  have HX : Hid ((if (1048576 - zs.length - ko - kv : Int) < ids.length then -1 else (1048576 - zs.length - ko - kv : Int) - ids.length) = 1048576 - zs.length - ko - kv - ids.length) := if_neg (by omega)
  have hs1 : zs.length ≤ 1048576 := by omega
  have hs2 : ko ≤ 1048576 := by omega
  have hs3 : kv ≤ 1048576 := by omega
  have hs4 : ids.length ≤ 1048576 := by omega
  have B0 : Hid (LR w ((w.alloc (.cells #[Value.int IntKind.i64 n, Value.slice a zs.length cap, Value.slice ao ko co, Value.slice av kv cv, Value.int IntKind.i64 fine] 28)).alloc (.cells #[Value.int IntKind.i64 veh, Value.slice bi ids.length c2] 30)) _ _) := LR.new w _ _
  obtain ⟨C, HCC⟩ : ∃ t, Hid (codeV (caseB n zs os vs ko kv fine) n zs os vs ko kv veh ids = t) := ⟨_, rfl⟩
  have hK12 : schedK C ids.length ≤ 12 := by
    rw [← HCC.out]
    exact schedK_le
  obtain ⟨K, HKK⟩ : ∃ t, Hid (schedK C ids.length = t) := ⟨_, rfl⟩
  obtain ⟨X, HXX⟩ : ∃ t, Hid (schedX C (visL n zs (rosOf os ko ids) (fnd5F vs kv veh 1) (fnd5F vs kv veh 3) ids.length) = t) := ⟨_, rfl⟩
  obtain ⟨H, HHH⟩ : ∃ t, Hid (schedH C (homeV n zs (rosOf os ko ids) ids.length (fnd5F vs kv veh 1) (fnd5F vs kv veh 3)) = t) := ⟨_, rfl⟩
  rw [HKK.out] at hK12
  have HXL : Hid (X.length = K * 4) := by
    show _ = _
    rw [← HXX.out, ← HKK.out]
    exact schedX_length _ _ _ _ _ _ _
  go_enter Try.func3, Try.ntmps3
  obtain ⟨e0, e1, e2, e3, e4, e5, e6⟩ := B0.out.cells
  go_wp2_with fail
  clear e0 e1 e2 e3 e4 e5 e6
  refine (szCase_any n fine 1048576 a ao av zs.length cap ko co kv cv _ (by omega) (by omega) (by omega) (by omega) (by omega)).mono ?_
  rintro e w1 ⟨rfl, hb⟩
  rw [HSZ.out]
  have B1 : Hid (LR w w1 _ _) := B0.out.below hb
  clear hb B0
  obtain ⟨e0, e1, e2, e3, e4, e5, e6⟩ := B1.out.cells
  have hle : (0 : Int) ≤ 1048576 - zs.length - ko - kv := by omega
  go_wp2_with fail
  clear e0 e1 e2 e3 e4 e5 e6
  refine (szRoute_any veh bi ids.length c2 (1048576 - zs.length - ko - kv) _ (by omega) (by omega) (by omega)).mono ?_
  rintro e w2 ⟨rfl, hb⟩
  rw [HX.out]
  have B2 : Hid (LR w w2 _ _) := B1.out.below hb
  clear hb B1
  have hle2 : (0 : Int) ≤ 1048576 - zs.length - ko - kv - ids.length := by omega
  obtain ⟨e0, e1, e2, e3, e4, e5, e6⟩ := B2.out.cells
  go_wp2_with fail
  go_region_held3 (fun W => W.cell? ⟨w.heap.size, 0, none⟩ = some (.int .i64 n) ∧ W.cell? ⟨w.heap.size, 1, none⟩ = some (.slice a zs.length cap) ∧ W.cell? ⟨w.heap.size, 2, none⟩ = some (.slice ao ko co) ∧ W.cell? ⟨w.heap.size, 3, none⟩ = some (.slice av kv cv) ∧ W.cell? ⟨w.heap.size, 4, none⟩ = some (.int .i64 fine) ∧ W.cell? ⟨w.heap.size + 1, 0, none⟩ = some (.int .i64 veh) ∧ W.cell? ⟨w.heap.size + 1, 1, none⟩ = some (.slice bi ids.length c2)) (first | with_reducible exact kS | go_keep) ((first
  | (go_at_call 9
     with_reducible refine (toCase_any n fine a ao av cap ko co kv cv zs os vs w2.drew (HA.out.below B2.out.drew.b) (HO.out.below B2.out.drew.b) (HV.out.below B2.out.drew.b) HLO.out HLV.out hs1 hs2 hs3).mono ?_
     rintro e w3 ⟨g3, go3, gv3, _, _, _, rfl, hb, hg⟩
     have B3 : Hid (LR w w3 _ _) := B2.out.drew.below hb
     have C3 : Hid (CaseAt w3 g3 go3 gv3 zs os vs) := hg
     obtain ⟨k0, k1, k2, k3, k4, k5, k6⟩ := B3.out.cells
     have kS := And.intro k0 (And.intro k1 (And.intro k2 (And.intro k3 (And.intro k4 (And.intro k5 k6)))))
     clear hb hg
     clear k0 k1 k2 k3 k4 k5 k6)
  | (go_at_call 10
     with_reducible refine (toRoute_any veh bi c2 ids w3 (HI.out.below B3.out.b) hs4).mono ?_
     rintro e w4 ⟨gr4, _, rfl, hb, hg⟩
     have B4 : Hid (LR w w4 _ _) := B3.out.below hb
     have C4 : Hid (CaseAt w4 g3 go3 gv3 zs os vs) := C3.out.below hb
     have I4 : Hid (IntsAt w4 (some ⟨gr4, 0, none⟩) ids) := IntsAt.of_row hg
     obtain ⟨k0, k1, k2, k3, k4, k5, k6⟩ := B4.out.cells
     have kS := And.intro k0 (And.intro k1 (And.intro k2 (And.intro k3 (And.intro k4 (And.intro k5 k6)))))
     clear hb hg
     clear k0 k1 k2 k3 k4 k5 k6)
  | (go_at_call 8
     with_reducible refine (specSched_u n fine veh _ _ _ _ _ _ _ _ _ _ zs os vs ids w4 C4.out.t C4.out.o C4.out.v I4.out HLO.out HLV.out (by omega) (by omega) (by omega) (Nat.le_refl _) K X H C HCC.out HKK.out HXX.out HHH.out).mono ?_
     rintro e w6 ⟨ad, cw, rfl, hb, hv⟩
     have B6 : Hid (LR w w6 _ _) := B4.out.below hb
     have V6 : Hid (IntsAt w6 ad X) := hv
     obtain ⟨k0, k1, k2, k3, k4, k5, k6⟩ := B6.out.cells
     have kS := And.intro k0 (And.intro k1 (And.intro k2 (And.intro k3 (And.intro k4 (And.intro k5 k6)))))
     clear hb hv
     clear k0 k1 k2 k3 k4 k5 k6)))
  all_goals
    clear e0 e1 e2 e3 e4 e5 e6 kS B2 B3 C3 B4 C4 I4
    obtain ⟨e0, e1, e2, e3, e4, e5, e6⟩ := B6.out.cells
    go_wp2_with fail
    clear e0 e1 e2 e3 e4 e5 e6
    refine (toCase_any n fine a ao av cap ko co kv cv zs os vs _ (HA.out.below B6.out.b) (HO.out.below B6.out.b) (HV.out.below B6.out.b) HLO.out HLV.out hs1 hs2 hs3).mono ?_
    rintro e w7 ⟨g7, go7, gv7, hl1, hl2, hl3, rfl, hb, hg⟩
    have L7 : Hid (w6.heap.size ≤ g7 ∧ w6.heap.size ≤ go7 ∧ w6.heap.size ≤ gv7) := ⟨hl1, hl2, hl3⟩
    have Z7 : Hid (Below w6.heap.size w6 (w7.alloc (Obj.cells #[Value.int IntKind.i64 n, Value.slice (some ⟨g7, 0, none⟩) zs.length zs.length, Value.slice (some ⟨go7, 0, none⟩) ko ko, Value.slice (some ⟨gv7, 0, none⟩) kv kv, Value.int IntKind.i64 fine] 40))) := hb.alloc hb.size _
    have X7 : Hid ((w7.alloc (Obj.cells #[Value.int IntKind.i64 n, Value.slice (some ⟨g7, 0, none⟩) zs.length zs.length, Value.slice (some ⟨go7, 0, none⟩) ko ko, Value.slice (some ⟨gv7, 0, none⟩) kv kv, Value.int IntKind.i64 fine] 40)).heap[w7.heap.size]? = _) := heap_alloc_new _ _
    have C7 : Hid (CaseAt (w7.alloc (Obj.cells #[Value.int IntKind.i64 n, Value.slice (some ⟨g7, 0, none⟩) zs.length zs.length, Value.slice (some ⟨go7, 0, none⟩) ko ko, Value.slice (some ⟨gv7, 0, none⟩) kv kv, Value.int IntKind.i64 fine] 40)) g7 go7 gv7 zs os vs) := hg.below ((Below.refl _ _).alloc (Nat.le_refl _) _)
    have B7 : Hid (LR w (w7.alloc (Obj.cells #[Value.int IntKind.i64 n, Value.slice (some ⟨g7, 0, none⟩) zs.length zs.length, Value.slice (some ⟨go7, 0, none⟩) ko ko, Value.slice (some ⟨gv7, 0, none⟩) kv kv, Value.int IntKind.i64 fine] 40)) _ _) := B6.out.below Z7.out
    clear hb hg hl1 hl2 hl3
    obtain ⟨e0, e1, e2, e3, e4, e5, e6⟩ := B7.out.cells
    go_wp2_with fail
    clear e0 e1 e2 e3 e4 e5 e6
    generalize w7.alloc (Obj.cells #[Value.int IntKind.i64 n, Value.slice (some ⟨g7, 0, none⟩) zs.length zs.length, Value.slice (some ⟨go7, 0, none⟩) ko ko, Value.slice (some ⟨gv7, 0, none⟩) kv kv, Value.int IntKind.i64 fine] 40) = W7 at *
    generalize w7.heap.size = bx at *
    refine (toRoute_any veh bi c2 ids W7 (HI.out.below B7.out.b) hs4).mono ?_
    rintro e w8 ⟨gr8, hl4, rfl, hb, hg⟩
    have U7 : Hid (bx < gr8 ∧ g7 < gr8 ∧ go7 < gr8 ∧ gv7 < gr8) := ⟨Nat.lt_of_lt_of_le (row_lt X7.out) hl4, Nat.lt_of_lt_of_le (row_lt C7.out.1) hl4, Nat.lt_of_lt_of_le (row_lt C7.out.2.1) hl4, Nat.lt_of_lt_of_le (row_lt C7.out.2.2) hl4⟩
    have Z8 : Hid (Below w6.heap.size w6 (w8.alloc (Obj.cells #[Value.int IntKind.i64 veh, Value.slice (some ⟨gr8, 0, none⟩) ids.length ids.length] 42))) := (Z7.out.trans (hb.mono Z7.out.size)).alloc (Nat.le_trans Z7.out.size hb.size) _
    have X8 : Hid ((w8.alloc (Obj.cells #[Value.int IntKind.i64 veh, Value.slice (some ⟨gr8, 0, none⟩) ids.length ids.length] 42)).heap[bx]? = _) := (heap_alloc_old _ _ (row_lt (below_row hb (row_lt X7.out) X7.out))).trans (below_row hb (row_lt X7.out) X7.out)
    have Y8 : Hid ((w8.alloc (Obj.cells #[Value.int IntKind.i64 veh, Value.slice (some ⟨gr8, 0, none⟩) ids.length ids.length] 42)).heap[w8.heap.size]? = _) := heap_alloc_new _ _
    have C8 : Hid (CaseAt (w8.alloc (Obj.cells #[Value.int IntKind.i64 veh, Value.slice (some ⟨gr8, 0, none⟩) ids.length ids.length] 42)) g7 go7 gv7 zs os vs) := (C7.out.below hb).below ((Below.refl _ _).alloc (Nat.le_refl _) _)
    have R8 : Hid ((w8.alloc (Obj.cells #[Value.int IntKind.i64 veh, Value.slice (some ⟨gr8, 0, none⟩) ids.length ids.length] 42)).heap[gr8]? = _) := (heap_alloc_old _ _ (row_lt hg)).trans hg
    clear hb hg hl4 B7 Z7 X7 C7
    obtain ⟨x0, x1, x2, x3, x4⟩ := cells5 X8.out
    obtain ⟨y0, y1⟩ := cells2 Y8.out
    go_wp2_with fail
    clear x0 x1 x2 x3 x4 y0 y1
    generalize w8.alloc (Obj.cells #[Value.int IntKind.i64 veh, Value.slice (some ⟨gr8, 0, none⟩) ids.length ids.length] 42) = w9 at *
    generalize w8.heap.size = by8 at *
    refine (implSched_u n fine veh _ _ _ _ _ _ _ _ _ _ zs os vs ids w9 C8.out.t C8.out.o C8.out.v (IntsAt.of_row R8.out) HLO.out HLV.out (by omega) (by omega) (by omega) (Nat.le_refl _) K X H C HCC.out HKK.out HXX.out HHH.out).mono ?_
    rintro e w10 ⟨sl, rfl, hb, ho⟩
    have Z10 : Hid (Below w6.heap.size w6 w10) := Z8.out.trans (hb.mono Z8.out.size)
    have X10 : Hid (w10.heap[bx]? = _) := below_row hb (row_lt X8.out) X8.out
    have Y10 : Hid (w10.heap[by8]? = _) := below_row hb (row_lt Y8.out) Y8.out
    have C10 : Hid (CaseAt w10 g7 go7 gv7 zs os vs) := C8.out.below hb
    have R10 : Hid (w10.heap[gr8]? = _) := below_row hb (row_lt R8.out) R8.out
    have O10 : Hid (w10.ownsRow w9.heap.size 66 4 sl K _) := ho
    have U9 : Hid (gr8 < w9.heap.size ∧ g7 < w9.heap.size ∧ go7 < w9.heap.size ∧ gv7 < w9.heap.size) := ⟨row_lt R8.out, row_lt C8.out.1, row_lt C8.out.2.1, row_lt C8.out.2.2⟩
    have U9' : Hid (w6.heap.size ≤ w9.heap.size ∧ w9.heap.size ≤ w10.heap.size) := ⟨Z8.out.size, hb.size⟩
    clear hb ho Z8 X8 Y8 C8 R8
    generalize w9.heap.size = b9 at *
    have hHH : (H != H) = false := by simp
    have hCC : (C != C) = false := by simp
    go_wp2_with (first | (go_at_call 12; refine (eqVis_u sl ad K cw b9 X w10 O10.out (V6.out.below Z10.out) HXL.out (by omega)).mono ?_; rintro e w11 ⟨rfl, hb⟩))
    have Z11 : Hid (Below w6.heap.size w6 w11) := Z10.out.trans (Below.mono hb Z10.out.size)
    have X11 : Hid (w11.heap[bx]? = _) := below_row hb (row_lt X10.out) X10.out
    have Y11 : Hid (w11.heap[by8]? = _) := below_row hb (row_lt Y10.out) Y10.out
    have C11 : Hid (CaseAt w11 g7 go7 gv7 zs os vs) := C10.out.below hb
    have R11 : Hid (w11.heap[gr8]? = _) := below_row hb (row_lt R10.out) R10.out
    have O11 : Hid (w11.ownsRow b9 66 4 sl K _) := owns_below O10.out hb
    clear Z10 X10 Y10 C10 R10 O10
    have P11 : Hid (b9 ≤ w11.heap.size) := Nat.le_trans U9'.out.2 hb.size
    clear hb
    have B11 : Hid (LR w w11 _ _) := B6.out.below Z11.out
    obtain ⟨e0, e1, e2, e3, e4, e5, e6⟩ := B11.out.cells
    obtain ⟨x0, x1, x2, x3, x4⟩ := cells5 X11.out
    try go_wp2_with fail
    go_region_held3 (fun W => (W.cell? ⟨w.heap.size, 0, none⟩ = some (.int .i64 n) ∧ W.cell? ⟨w.heap.size, 1, none⟩ = some (.slice a zs.length cap) ∧ W.cell? ⟨w.heap.size, 2, none⟩ = some (.slice ao ko co) ∧ W.cell? ⟨w.heap.size, 3, none⟩ = some (.slice av kv cv) ∧ W.cell? ⟨w.heap.size, 4, none⟩ = some (.int .i64 fine) ∧ W.cell? ⟨w.heap.size + 1, 0, none⟩ = some (.int .i64 veh) ∧ W.cell? ⟨w.heap.size + 1, 1, none⟩ = some (.slice bi ids.length c2)) ∧ W.cell? ⟨bx, 0, none⟩ = some (.int .i64 n) ∧ W.cell? ⟨bx, 1, none⟩ = some (.slice (some ⟨g7, 0, none⟩) zs.length zs.length) ∧ W.cell? ⟨bx, 2, none⟩ = some (.slice (some ⟨go7, 0, none⟩) ko ko) ∧ W.cell? ⟨bx, 3, none⟩ = some (.slice (some ⟨gv7, 0, none⟩) kv kv) ∧ W.cell? ⟨bx, 4, none⟩ = some (.int .i64 fine)) (first | with_reducible exact kS | go_keep) ((first
    | (go_at_call 9
       with_reducible refine (toCase_any n fine a ao av cap ko co kv cv zs os vs w11.drew (HA.out.below B11.out.drew.b) (HO.out.below B11.out.drew.b) (HV.out.below B11.out.drew.b) HLO.out HLV.out hs1 hs2 hs3).mono ?_
       rintro e w12 ⟨g12, go12, gv12, _, _, _, rfl, hb', hg⟩
       have hb := (Below.refl w11.heap.size w11).drew.trans (hb'.mono (Nat.le_refl _))
       have Z12 : Hid (Below w6.heap.size w6 w12) := Z11.out.trans (Below.mono hb Z11.out.size)
       have X12 : Hid (w12.heap[bx]? = _) := below_row hb (row_lt X11.out) X11.out
       have Y12 : Hid (w12.heap[by8]? = _) := below_row hb (row_lt Y11.out) Y11.out
       have C12 : Hid (CaseAt w12 g7 go7 gv7 zs os vs) := C11.out.below hb
       have R12 : Hid (w12.heap[gr8]? = _) := below_row hb (row_lt R11.out) R11.out
       have O12 : Hid (w12.ownsRow b9 66 4 sl K _) := owns_below O11.out hb
       have P12 : Hid (b9 ≤ w12.heap.size) := Nat.le_trans P11.out hb.size
       have D12 : Hid (CaseAt w12 g12 go12 gv12 zs os vs) := hg
       have kS := And.intro (lr7' (B6.out.below Z12.out)) (cells5 X12.out)
       clear hb hb' hg)
    | (go_at_call 13
       with_reducible refine (eqCase_same n fine _ _ _ _ _ _ _ _ _ _ _ _ _ _ zs os vs w12 C12.out.t C12.out.o C12.out.v D12.out.t D12.out.o D12.out.v HLO.out HLV.out (by omega) (by omega) (by omega)).mono ?_
       rintro e w13 ⟨rfl, hb⟩
       have Z13 : Hid (Below w6.heap.size w6 w13) := Z12.out.trans (Below.mono hb Z12.out.size)
       have X13 : Hid (w13.heap[bx]? = _) := below_row hb (row_lt X12.out) X12.out
       have Y13 : Hid (w13.heap[by8]? = _) := below_row hb (row_lt Y12.out) Y12.out
       have C13 : Hid (CaseAt w13 g7 go7 gv7 zs os vs) := C12.out.below hb
       have R13 : Hid (w13.heap[gr8]? = _) := below_row hb (row_lt R12.out) R12.out
       have O13 : Hid (w13.ownsRow b9 66 4 sl K _) := owns_below O12.out hb
       have P13 : Hid (b9 ≤ w13.heap.size) := Nat.le_trans P12.out hb.size
       have kS := And.intro (lr7' (B6.out.below Z13.out)) (cells5 X13.out)
       clear hb)))
    all_goals
      clear e0 e1 e2 e3 e4 e5 e6 x0 x1 x2 x3 x4 kS B11 D12 P11 P12
      clear Z11 X11 Y11 C11 R11 O11
      clear Z12 X12 Y12 C12 R12 O12
      have B13 : Hid (LR w w13 _ _) := B6.out.below Z13.out
      obtain ⟨e0, e1, e2, e3, e4, e5, e6⟩ := B13.out.cells
      obtain ⟨y0, y1⟩ := cells2 Y13.out
      go_wp2_with fail
      go_region_held3 (fun W => (W.cell? ⟨w.heap.size, 0, none⟩ = some (.int .i64 n) ∧ W.cell? ⟨w.heap.size, 1, none⟩ = some (.slice a zs.length cap) ∧ W.cell? ⟨w.heap.size, 2, none⟩ = some (.slice ao ko co) ∧ W.cell? ⟨w.heap.size, 3, none⟩ = some (.slice av kv cv) ∧ W.cell? ⟨w.heap.size, 4, none⟩ = some (.int .i64 fine) ∧ W.cell? ⟨w.heap.size + 1, 0, none⟩ = some (.int .i64 veh) ∧ W.cell? ⟨w.heap.size + 1, 1, none⟩ = some (.slice bi ids.length c2)) ∧ W.cell? ⟨by8, 0, none⟩ = some (.int .i64 veh) ∧ W.cell? ⟨by8, 1, none⟩ = some (.slice (some ⟨gr8, 0, none⟩) ids.length ids.length)) (first | with_reducible exact kS | go_keep) ((first
      | (go_at_call 10
         with_reducible refine (toRoute_any veh bi c2 ids w13.drew (HI.out.below B13.out.drew.b) hs4).mono ?_
         rintro e w14 ⟨gr14, _, rfl, hb', hg⟩
         have hb := (Below.refl w13.heap.size w13).drew.trans (hb'.mono (Nat.le_refl _))
         have Z14 : Hid (Below w6.heap.size w6 w14) := Z13.out.trans (Below.mono hb Z13.out.size)
         have X14 : Hid (w14.heap[bx]? = _) := below_row hb (row_lt X13.out) X13.out
         have Y14 : Hid (w14.heap[by8]? = _) := below_row hb (row_lt Y13.out) Y13.out
         have C14 : Hid (CaseAt w14 g7 go7 gv7 zs os vs) := C13.out.below hb
         have R14 : Hid (w14.heap[gr8]? = _) := below_row hb (row_lt R13.out) R13.out
         have O14 : Hid (w14.ownsRow b9 66 4 sl K _) := owns_below O13.out hb
         have P14 : Hid (b9 ≤ w14.heap.size) := Nat.le_trans P13.out hb.size
         have J14 : Hid (IntsAt w14 (some ⟨gr14, 0, none⟩) ids) := IntsAt.of_row hg
         have kS := And.intro (lr7' (B6.out.below Z14.out)) (cells2 Y14.out)
         clear hb hb' hg)
      | (go_at_call 14
         with_reducible refine (eqRoute_same veh _ _ _ _ ids w14 (IntsAt.of_row R14.out) J14.out (by omega)).mono ?_
         rintro e w15 ⟨rfl, hb⟩
         have Z15 : Hid (Below w6.heap.size w6 w15) := Z14.out.trans (Below.mono hb Z14.out.size)
         have X15 : Hid (w15.heap[bx]? = _) := below_row hb (row_lt X14.out) X14.out
         have Y15 : Hid (w15.heap[by8]? = _) := below_row hb (row_lt Y14.out) Y14.out
         have C15 : Hid (CaseAt w15 g7 go7 gv7 zs os vs) := C14.out.below hb
         have R15 : Hid (w15.heap[gr8]? = _) := below_row hb (row_lt R14.out) R14.out
         have O15 : Hid (w15.ownsRow b9 66 4 sl K _) := owns_below O14.out hb
         have P15 : Hid (b9 ≤ w15.heap.size) := Nat.le_trans P14.out hb.size
         have kS := And.intro (lr7' (B6.out.below Z15.out)) (cells2 Y15.out)
         clear hb)))
      all_goals
        clear e0 e1 e2 e3 e4 e5 e6 y0 y1 kS B13 J14 P13 P14
        clear Z13 X13 Y13 C13 R13 O13
        clear Z14 X14 Y14 C14 R14 O14
        have N1 : Hid (¬ (by8 = g7 ∨ by8 = go7 ∨ by8 = gv7) ∧ by8 ≠ gr8) := ⟨fun h => by
          rcases h with h | h | h
          · exact type_ne Y15.out C15.out.1 (by decide) h
          · exact type_ne Y15.out C15.out.2.1 (by decide) h
          · exact type_ne Y15.out C15.out.2.2 (by decide) h, type_ne Y15.out R15.out (by decide)⟩
        obtain ⟨x0, x1, x2, x3, x4⟩ := cells5 X15.out
        go_wp2_with fail
        clear x0 x1 x2 x3 x4
        refine (markCase_any n fine g7 go7 gv7 _ ko _ kv _ zs os vs w15 C15.out HLO.out HLV.out hs1 hs2 hs3).mono ?_
        rintro e w16 ⟨kk, rfl, hk1, hk2, hg⟩
        have Z16 : Hid (Below w6.heap.size w6 w16) := Z15.out.trans (hg.below Z15.out.size (fun b h => by have h9 := L7.out; rcases h with h | h | h <;> omega))
        have Y16 : Hid (w16.heap[by8]? = _) := hg.row Y15.out N1.out.1
        have R16 : Hid (w16.heap[gr8]? = _) := hg.row R15.out (fun h => by have h9 := U7.out; rcases h with h | h | h <;> omega)
        have O16 : Hid (w16.ownsRow b9 66 4 sl K _) := hg.owns O15.out (fun b h => by have h9 := U9.out; rcases h with h | h | h <;> omega)
        have P16 : Hid (b9 ≤ w16.heap.size) := Nat.le_trans P15.out hg.size
        clear hg P15
        clear Z15 X15 Y15 C15 R15 O15
        obtain ⟨y0, y1⟩ := cells2 Y16.out
        go_wp2_with fail
        clear y0 y1
        refine (markRoute_any veh kk gr8 _ ids w16 R16.out hk1 (by omega) hs4).mono ?_
        rintro e w17 ⟨rfl, hg⟩
        have Z17 : Hid (Below w6.heap.size w6 w17) := Z16.out.trans (hg.below Z16.out.size (fun b h => by have h9 := L7.out; have h8 := U7.out; omega))
        have O17 : Hid (w17.ownsRow b9 66 4 sl K _) := hg.owns O16.out (fun b h => by have h9 := U9.out; omega)
        have P17 : Hid (b9 ≤ w17.heap.size) := Nat.le_trans P16.out hg.size
        clear hg P16 Z16 Y16 R16 O16
        obtain ⟨kq, HKQ⟩ : ∃ t, Hid (kk + (ids.length : Int) = t) := ⟨_, rfl⟩
        have hkq : 0 ≤ kq := by have := HKQ.out; omega
        rw [HKQ.out]
        go_wp2_with (first | (go_at_call 12; refine (eqVis_u sl ad K cw b9 X w17 O17.out (V6.out.below Z17.out) HXL.out (by omega)).mono ?_; rintro e w18 ⟨rfl, hb⟩; have Z18 : Hid (Below w6.heap.size w6 w18) := Z17.out.trans (Below.mono hb Z17.out.size); have O18 : Hid (w18.ownsRow b9 66 4 sl K _) := owns_below O17.out hb; have P18 : Hid (b9 ≤ w18.heap.size) := Nat.le_trans P17.out hb.size; clear hb))
        try go_wp2_with fail
        refine (markVis_u sl K b9 X w18 O18.out P18.out (by omega)).mono ?_
        rintro e w19 ⟨rfl, hb, hm⟩
        have Z19 : Hid (Below w6.heap.size w6 w19) := Z18.out.trans (hb.mono U9'.out.1)
        have M19 : Hid (MarkedV w19 sl K) := hm
        clear hb hm P17 P18 Z17 Z18 O17 O18
        obtain ⟨q, HQ⟩ : ∃ t, Hid ((1 : Int) + ((K * 4 : Nat) : Int) = t) := ⟨_, rfl⟩
        have hq : 0 ≤ q := by have := HQ.out; omega
        rw [HQ.out]
        go_wp2_with fail
        refine (heldVis_u sl K w19 M19.out (by omega)).mono ?_
        rintro e w19' ⟨rfl, rfl⟩
        rw [HQ.out]
        have hqq : (q != q) = false := by simp
        have B19 : Hid (LR w w19' _ _) := B6.out.below Z19.out
        obtain ⟨e0, e1, e2, e3, e4, e5, e6⟩ := B19.out.cells
        go_wp2_with fail
        go_region_held3 (fun W => W.cell? ⟨w.heap.size, 0, none⟩ = some (.int .i64 n) ∧ W.cell? ⟨w.heap.size, 1, none⟩ = some (.slice a zs.length cap) ∧ W.cell? ⟨w.heap.size, 2, none⟩ = some (.slice ao ko co) ∧ W.cell? ⟨w.heap.size, 3, none⟩ = some (.slice av kv cv) ∧ W.cell? ⟨w.heap.size, 4, none⟩ = some (.int .i64 fine) ∧ W.cell? ⟨w.heap.size + 1, 0, none⟩ = some (.int .i64 veh) ∧ W.cell? ⟨w.heap.size + 1, 1, none⟩ = some (.slice bi ids.length c2)) (first | with_reducible exact kS | go_keep) ((first
        | (go_at_call 9
           with_reducible refine (toCase_any n fine a ao av cap ko co kv cv zs os vs w19'.drew (HA.out.below B19.out.drew.b) (HO.out.below B19.out.drew.b) (HV.out.below B19.out.drew.b) HLO.out HLV.out hs1 hs2 hs3).mono ?_
           rintro e w20 ⟨g20, go20, gv20, _, _, _, rfl, hb', hg⟩
           have hb := (Below.refl w19'.heap.size w19').drew.trans (hb'.mono (Nat.le_refl _))
           have B20 : Hid (LR w w20 _ _) := B19.out.below hb
           have Z20 : Hid (Below w6.heap.size w6 w20) := Z19.out.trans (Below.mono hb Z19.out.size)
           have M20 : Hid (MarkedV w20 sl K) := M19.out.below hb
           have C20 : Hid (CaseAt w20 g20 go20 gv20 zs os vs) := hg
           obtain ⟨k0, k1, k2, k3, k4, k5, k6⟩ := B20.out.cells
           have kS := And.intro k0 (And.intro k1 (And.intro k2 (And.intro k3 (And.intro k4 (And.intro k5 k6)))))
           clear hb hb' hg
           clear k0 k1 k2 k3 k4 k5 k6)
        | (go_at_call 10
           with_reducible refine (toRoute_any veh bi c2 ids w20 (HI.out.below B20.out.b) hs4).mono ?_
           rintro e w21 ⟨gr21, _, rfl, hb, hg⟩
           have B21 : Hid (LR w w21 _ _) := B20.out.below hb
           have Z21 : Hid (Below w6.heap.size w6 w21) := Z20.out.trans (Below.mono hb Z20.out.size)
           have M21 : Hid (MarkedV w21 sl K) := M20.out.below hb
           have C21 : Hid (CaseAt w21 g20 go20 gv20 zs os vs) := C20.out.below hb
           have I21 : Hid (IntsAt w21 (some ⟨gr21, 0, none⟩) ids) := IntsAt.of_row hg
           obtain ⟨k0, k1, k2, k3, k4, k5, k6⟩ := B21.out.cells
           have kS := And.intro k0 (And.intro k1 (And.intro k2 (And.intro k3 (And.intro k4 (And.intro k5 k6)))))
           clear hb hg
           clear k0 k1 k2 k3 k4 k5 k6)
        | (go_at_call 11
           with_reducible refine (implSched_u n fine veh _ _ _ _ _ _ _ _ _ _ zs os vs ids w21 C21.out.t C21.out.o C21.out.v I21.out HLO.out HLV.out (by omega) (by omega) (by omega) (Nat.le_refl _) K X H C HCC.out HKK.out HXX.out HHH.out).mono ?_
           rintro e w22 ⟨sl2, rfl, hb, ho⟩
           have B22 : Hid (LR w w22 _ _) := B21.out.below hb
           have Z22 : Hid (Below w6.heap.size w6 w22) := Z21.out.trans (Below.mono hb Z21.out.size)
           have M22 : Hid (MarkedV w22 sl K) := M21.out.below hb
           have O22 : Hid (w22.ownsRow w21.heap.size 66 4 sl2 K _) := ho
           obtain ⟨k0, k1, k2, k3, k4, k5, k6⟩ := B22.out.cells
           have kS := And.intro k0 (And.intro k1 (And.intro k2 (And.intro k3 (And.intro k4 (And.intro k5 k6)))))
           clear hb ho
           clear k0 k1 k2 k3 k4 k5 k6)))
        all_goals
          clear e0 e1 e2 e3 e4 e5 e6 kS B20 Z20 M20 C20 B21 Z21 M21 C21 I21
          go_wp2_with (first | (go_at_call 12; refine (eqVis_u sl2 ad K cw w21.heap.size X w22 O22.out (V6.out.below Z22.out) HXL.out (by omega)).mono ?_; rintro e w23 ⟨rfl, hb⟩; have B23 : Hid (LR w w23 _ _) := B22.out.below hb; have M23 : Hid (MarkedV w23 sl K) := M22.out.below hb; clear hb))
          try go_wp2_with fail
          refine (heldVis_u sl K w23 M23.out (by omega)).mono ?_
          rintro e w24 ⟨rfl, rfl⟩
          rw [HQ.out]
          go_wp2
          go_ret
          exact ⟨rfl, B23.out.b⟩

end Go.Proofs.Ytoaleabfhcabdaa
