import Derived.Test.YtonopidjkcmlmaaSpecSched
import Derived.Test.YtonopidjkcmlmaaPack25
import Derived.RangeFuncNested
import Derived.RangeFuncBound
import Derived.RangeFuncCalls
import Derived.RangeFuncLeaves
import Derived.Shelf.Abstract
import Derived.Shelf.RegionOpen
import Derived.OwnWalkIn
import Derived.TacticsInMore
import Derived.LoopNIn
import Derived.LoopIn
import Derived.Deep.Cut
namespace Go.Proofs.Ytonopidjkcmlmaa
open Go.RowKit Go.Shelf
attribute [local go_sem] Oper.semAt_some

/-- 'append' of a visit, inside a round. -/
theorem append_visits_in {F : Fence} {nf : Nat} (w : World) {ops : Array Oper} {rest : List Oper} {o : Oper} {a : Act} {Q : Exit → Act → World → Prop}
    (hg : o.guard = none) (s x : Operand) (hop : o.op = Op.call { callee := Callee.builtin Builtin.append, args := #[s, x], argTypes := #[79, 79] })
    (base : Nat) (v : Value) (k : Nat) (xs : List Value) (hs : a.eval s = v) (hown : w.ownsRow base 123 4 v k xs) (ad : Addr) (c : Nat) (news : List Value) (hx : a.eval x = .slice (some ad) 1 c) (hn : news.length = 4)
    (hc : ∀ j u, news[j]? = some u → w.cell? (ad.add j) = some u) (h1c : ∀ u ∈ news, u.oneCell' = true) (b1 : k ≤ 1000) (hb : base ≤ w.heap.size)
    (hK : ∀ v' w', w'.ownsRow base 123 4 v' (k + 1) (xs ++ news) → w.grownBy w' v.ownBlock → wpListIn F nf Try.prog ops Q rest (a.put o.dst v') w') :
    wpListIn F nf Try.prog ops Q (o :: rest) a w := by
  obtain ⟨i0, hi, hz0, hz1, hz2⟩ := info_parts infoVis4
  exact wpListIn_append_own w hg s x _ hop base _ i0 _ 4 32 Try.underlying79 hi hz0 hz1 hz2 rfl (by decide) v k xs hs hown ad 1 c news hx (by rw [hn]) hc h1c (by unfold maxLen; omega) (by omega) hb (fun v' w' h1 h2 _ => hK v' w' h1 h2)

/-- The cells of what has come. -/
def preV (n : Int) (zs ros : List Int) (home frm : Int) {m : Nat} (pre : List (Fin m)) : List Value := pre.flatMap fun x => [.int .i64 (og6 ros x.val 0), .int .i64 (arrV n zs ros home frm x.val), .int .i64 (startV n zs ros home frm x.val), .int .i64 (nowT n zs ros home frm (x.val + 1))]
theorem preV_snoc (n : Int) (zs ros : List Int) (home frm : Int) {m : Nat} (pre : List (Fin m)) (x : Fin m) : preV n zs ros home frm (pre ++ [x]) = preV n zs ros home frm pre ++ [.int .i64 (og6 ros x.val 0), .int .i64 (arrV n zs ros home frm x.val), .int .i64 (startV n zs ros home frm x.val), .int .i64 (nowT n zs ros home frm (x.val + 1))] := by
  simp [preV]
theorem preV_to (n : Int) (zs ros : List Int) (home frm : Int) {m : Nat} : ∀ (k : Nat) (ys : List (Fin m)), k ≤ m → ys.map Fin.val = List.range k → preV n zs ros home frm ys = ((visL n zs ros home frm m).take (k * 4)).map (Value.int .i64)
  | 0, ys, _, h => by
    have : ys = [] := by simpa using h
    simp [this, preV]
  | k + 1, ys, hk, h => by
    rcases List.eq_nil_or_concat ys with rfl | ⟨pre, x, rfl⟩
    · have := congrArg List.length h
      simp at this
    · rw [List.concat_eq_append] at h ⊢
      rw [List.map_append, List.range_succ] at h
      have h2 := List.append_inj' h (by simp)
      have hx : x.val = k := by simpa using h2.2
      rw [preV_snoc, preV_to n zs ros home frm k pre (by omega) h2.1]
      exact visL_step n zs ros home frm (by omega) (by rw [hx]) (by rw [hx]) (by rw [hx]) (by rw [hx])

/-- Inside Schedule: the tour's box, the list's, and what it owns. -/
def ListAt (w W : World) (ts : Array Value) (base : Nat) (k : Nat) (xs : List Value) : Prop :=
  Below w.heap.size w W ∧ W.heap[w.heap.size]? = some (.cells ts 83 (0, 0)) ∧ ∃ sl, W.heap[w.heap.size + 1]? = some (.cells #[sl] 79 (0, 0)) ∧ W.ownsRow base 123 4 sl k xs
theorem ListAt.below {w W W' : World} {ts : Array Value} {base k : Nat} {xs : List Value} (h : ListAt w W ts base k xs) (hb : Below W.heap.size W W') : ListAt w W' ts base k xs := by
  obtain ⟨h1, h2, sl, h3, h4⟩ := h
  exact ⟨h1.trans (hb.mono h1.size), below_row hb (row_lt h2) h2, sl, below_row hb (row_lt h3) h3, owns_below h4 hb⟩
theorem owns_own {B base size k : Nat} {e : TypeId} {v : Value} {xs : List Value} {W W' : World} {row : Option Nat} (h : W.ownsRow base e size v k xs) (hg : W.grownBy W' row) (hr : ∀ r, row = some r → B ≤ r ∧ ∃ o : Obj, W.heap[r]? = some o ∧ o.isCells = false) : W'.ownsRow base e size v k xs := by
  refine h.kept hg ?_
  obtain ⟨_, ⟨rfl, _⟩ | ⟨g, cap, cur, rfl, _, h4, _⟩⟩ := h
  · exact .inl rfl
  · right
    intro e
    obtain ⟨_, o, ho, hc⟩ := hr g e.symm
    rw [h4] at ho
    cases ho
    cases hc
theorem own_cells {base size k : Nat} {e : TypeId} {v : Value} {xs : List Value} {W : World} (h : W.ownsRow base e size v k xs) : ∀ (j : Nat) (o : Obj), v.ownBlock = some j → W.heap[j]? = some o → o.isCells = true := by
  intro j o hj ho
  obtain ⟨_, ⟨rfl, _⟩ | ⟨g, cap, cur, rfl, _, h4, _⟩⟩ := h
  · cases hj
  · cases hj
    rw [show W.heap[(⟨g, 0, none⟩ : Addr).block]? = W.heap[g]? from rfl, h4] at ho
    cases ho
    rfl
theorem ListAt.own {β : Type} (w : World) (ts : Array Value) (base : Nat) (k : β → Nat) (xs : β → List Value) (B : Nat) (hB : w.heap.size ≤ B) : OwnFrom B (fun s W => ListAt w W ts base (k s) (xs s)) := fun s W W' row hs hg hr => by
  obtain ⟨h1, h2, sl, h3, h4⟩ := hs
  exact ⟨ownFrom_below (Nat.le_refl _) hB () W W' row h1 hg hr, row_own (cs := fun _ : Unit => ts) () W W' row h2 hg hr, sl, row_own (cs := fun _ : Unit => #[sl]) () W W' row h3 hg hr, owns_own h4 hg hr⟩
theorem KpT.grown {n₀ Bt : Nat} {ob : Obj} {W W' : World} {row : Option Nat} (hg : W.grownBy W' row) (hn : n₀ ≤ W.heap.size) (h1 : ∀ g, row = some g → n₀ ≤ g ∧ Bt ≠ g) : KpT n₀ Bt ob W W' :=
  ⟨(Below.refl _ _).grown hg hn (fun k e => (h1 k e).1), fun h => (hg.block Bt (Array.getElem?_eq_some_iff.1 h).1 (fun e => (h1 Bt e.symm).2 rfl)).trans h⟩

set_option maxRecDepth 100000 in
set_option maxHeartbeats 2000000 in
theorem implSchedule_any (n fine veh : Int) (a ao av bi : Option Addr) (cap ko co kv cv c2 : Nat) (zs os vs ids : List Int) (w : World) (hA : IntsAt w a zs) (hO : IntsAt w ao os) (hV : IntsAt w av vs) (hI : IntsAt w bi ids) (hlo : os.length = ko * 6) (hlv : vs.length = kv * 5) (hko : ko ≤ 9223372036854775807) (hkv : kv ≤ 9223372036854775807) (hli : ids.length ≤ 9223372036854775807) (hc2 : ids.length ≤ c2) :
    Calls Try.prog 43 #[.agg #[.int .i64 n, .slice a zs.length cap, .slice ao ko co, .slice av kv cv, .int .i64 fine], .agg #[.int .i64 veh, .slice bi ids.length c2]] w fun e w' => Below w.heap.size w w' ∧ ((codeV (caseB n zs os vs ko kv fine) n zs os vs ko kv veh ids ≠ 0 ∧ e = .returned (.tuple #[.slice none 0 0, .int .i64 0, .int .i64 (codeV (caseB n zs os vs ko kv fine) n zs os vs ko kv veh ids)])) ∨ (codeV (caseB n zs os vs ko kv fine) n zs os vs ko kv veh ids = 0 ∧ ∃ sl, e = .returned (.tuple #[sl, .int .i64 (homeV n zs (rosOf os ko ids) ids.length (fnd5F vs kv veh 1) (fnd5F vs kv veh 3)), .int .i64 0]) ∧ w'.ownsRow w.heap.size 123 4 sl ids.length ((visL n zs (rosOf os ko ids) (fnd5F vs kv veh 1) (fnd5F vs kv veh 3) ids.length).map (Value.int .i64)))) := by
  have HA : Hid (IntsAt w a zs) := hA
  have HO : Hid (IntsAt w ao os) := hO
  have HV : Hid (IntsAt w av vs) := hV
  have HI : Hid (IntsAt w bi ids) := hI
  have HLO : Hid _ := hlo
  have HLV : Hid _ := hlv
  clear hA hO hV hI hlo hlv
  have HC0 : Hid (CR w ((w.alloc (.cells #[Value.int IntKind.i64 n, Value.slice a zs.length cap, Value.slice ao ko co, Value.slice av kv cv, Value.int IntKind.i64 fine] 30)).alloc (.cells #[Value.int IntKind.i64 veh, Value.slice bi ids.length c2] 46)) _ _) := CR.new w _ _
  obtain ⟨r, HR⟩ : ∃ r, Hid (codeV (caseB n zs os vs ko kv fine) n zs os vs ko kv veh ids = r) := ⟨_, rfl⟩
  refine (callsIn_wide (n := 3)).1 ?_
  refine callsIn_of_wp_marks Try.func43 rfl trivial ?_ rfl
  simp only [Try.ntmps43, List.size_toArray, List.length_cons, List.length_nil, Nat.reduceAdd, Nat.reduceSub, Array.replicate_succ, Array.replicate_zero, List.push_toArray, List.append_toArray, List.nil_append, List.cons_append]
  refine wpIn_wide.2 ?_
  obtain ⟨c0, c1, c2', c3, c4⟩ := cells5 HC0.out.2.1
  obtain ⟨d0, d1⟩ := cells2 HC0.out.2.2
  go_wp2_with fail
  clear c0 c1 c2' c3 c4 d0 d1
  refine (checkedTour_any n fine veh a ao av bi cap ko co kv cv c2 zs os vs ids _ (HA.out.below HC0.out.1) (HO.out.below HC0.out.1) (HV.out.below HC0.out.1) (HI.out.below HC0.out.1) HLO.out HLV.out hko hkv hli hc2).mono ?_
  rintro e w2 ⟨hb, ⟨hf, rfl⟩ | ⟨hf, g, _, rfl, hros⟩⟩
  · have HB2 : Hid (Below w.heap.size w w2) := HC0.out.1.trans (hb.mono HC0.out.1.size)
    rw [HR.out] at hf ⊢
    have hfb : (r != 0) = true := by simp [hf]
    have HF : Hid (r ≠ 0) := hf
    clear hb hf
    go_wp2
    exact ⟨.tuple #[.slice none 0 0, .int .i64 0, .int .i64 r], by simp [results, Try.results43, go_sem], HB2.out.alloc HB2.out.size _, .inl ⟨by rw [HR.out]; exact HF.out, by rw [HR.out]⟩⟩
  · have HB2 : Hid (Below w.heap.size w w2) := HC0.out.1.trans (hb.mono HC0.out.1.size)
    have HFZ : Hid (codeV (caseB n zs os vs ko kv fine) n zs os vs ko kv veh ids = 0) := hf
    obtain ⟨hcb, _, hst⟩ := formV_zero (codeV_zero hf).1
    obtain ⟨hmat, hords, hvehs, hn1, _⟩ := caseB_parts hcb
    obtain ⟨hvb1, hvb2, hvb3, hvb4⟩ := fnd5F_bd hvehs hn1 veh
    have HMAT : Hid (matB n zs = true) := hmat
    have HBD : Hid (RosBd n (rosOf os ko ids) ids.length) := rosBd_of hords hn1 ids
    have h12 := (stopsB_true hst).1
    obtain ⟨v0, G0⟩ : ∃ t, Hid (fnd5F vs kv veh 0 = t) := ⟨_, rfl⟩
    obtain ⟨v1, G1⟩ : ∃ t, Hid (fnd5F vs kv veh 1 = t) := ⟨_, rfl⟩
    obtain ⟨v2, G2⟩ : ∃ t, Hid (fnd5F vs kv veh 2 = t) := ⟨_, rfl⟩
    obtain ⟨v3, G3⟩ : ∃ t, Hid (fnd5F vs kv veh 3 = t) := ⟨_, rfl⟩
    obtain ⟨v4, G4⟩ : ∃ t, Hid (fnd5F vs kv veh 4 = t) := ⟨_, rfl⟩
    rw [G1.out] at hvb1
    rw [G3.out] at hvb3
    rw [G0.out, G1.out, G2.out, G3.out, G4.out]
    have HX1 : Hid (0 ≤ v1 ∧ v1 < n) := hvb1
    have HX3 : Hid (0 ≤ v3 ∧ v3 ≤ 1000000) := hvb3
    have HBw : Hid (Below w2.heap.size w2 ((w2.alloc (Obj.cells #[Value.int IntKind.i64 n, Value.slice a zs.length cap, Value.int IntKind.i64 v0, Value.int IntKind.i64 v1, Value.int IntKind.i64 v2, Value.int IntKind.i64 v3, Value.int IntKind.i64 v4, Value.slice (some ⟨g, 0, none⟩) ids.length ids.length] 83)).alloc (Obj.cells #[Value.slice none 0 0] 79))) := ((Below.refl _ _).alloc (Nat.le_refl _) _).alloc (by simp) _
    have HTw : Hid (((w2.alloc (Obj.cells #[Value.int IntKind.i64 n, Value.slice a zs.length cap, Value.int IntKind.i64 v0, Value.int IntKind.i64 v1, Value.int IntKind.i64 v2, Value.int IntKind.i64 v3, Value.int IntKind.i64 v4, Value.slice (some ⟨g, 0, none⟩) ids.length ids.length] 83)).alloc (Obj.cells #[Value.slice none 0 0] 79)).heap[w2.heap.size]? = _) := heap_alloc2_old _ _ _
    have HLw : Hid (((w2.alloc (Obj.cells #[Value.int IntKind.i64 n, Value.slice a zs.length cap, Value.int IntKind.i64 v0, Value.int IntKind.i64 v1, Value.int IntKind.i64 v2, Value.int IntKind.i64 v3, Value.int IntKind.i64 v4, Value.slice (some ⟨g, 0, none⟩) ids.length ids.length] 83)).alloc (Obj.cells #[Value.slice none 0 0] 79)).heap[w2.heap.size + 1]? = _) := heap_alloc2_new _ _ _
    have HA2 : Hid (IntsAt w2 a zs) := HA.out.below HB2.out
    have HR2 : Hid (IntsAt w2 (some ⟨g, 0, none⟩) (rosOf os ko ids)) := hros
    clear hb hf hros HC0 hmat hords hvehs hn1 hvb1 hvb2 hvb3 hvb4 hcb hst
    obtain ⟨t0, t1, t2, t3, t4, t5, t6, t7⟩ := cells8 HTw.out
    go_wp2_with fail
    clear t0 t1 t2 t3 t4 t5 t6 t7
    generalize ((w2.alloc (Obj.cells #[Value.int IntKind.i64 n, Value.slice a zs.length cap, Value.int IntKind.i64 v0, Value.int IntKind.i64 v1, Value.int IntKind.i64 v2, Value.int IntKind.i64 v3, Value.int IntKind.i64 v4, Value.slice (some ⟨g, 0, none⟩) ids.length ids.length] 83)).alloc (Obj.cells #[Value.slice none 0 0] 79)) = W1 at *
    refine (visits_any n v0 v1 v2 v3 v4 a _ cap ids.length ids.length zs W1).mono ?_
    rintro e w3 ⟨rfl, rfl⟩
    have HX2 : Hid (ListAt w2 (W1.alloc (.cells #[Value.int IntKind.i64 n, Value.slice a zs.length cap, Value.int IntKind.i64 v0, Value.int IntKind.i64 v1, Value.int IntKind.i64 v2, Value.int IntKind.i64 v3, Value.int IntKind.i64 v4, Value.slice (some ⟨g, 0, none⟩) ids.length ids.length] 83)) #[Value.int IntKind.i64 n, Value.slice a zs.length cap, Value.int IntKind.i64 v0, Value.int IntKind.i64 v1, Value.int IntKind.i64 v2, Value.int IntKind.i64 v3, Value.int IntKind.i64 v4, Value.slice (some ⟨g, 0, none⟩) ids.length ids.length] (W1.heap.size + 1) 0 []) := ListAt.below ⟨HBw.out, HTw.out, _, HLw.out, World.ownsRow_nil _ _ _ _⟩ ((Below.refl _ _).alloc (Nat.le_refl _) _)
    have HT2 : Hid ((W1.alloc (.cells #[Value.int IntKind.i64 n, Value.slice a zs.length cap, Value.int IntKind.i64 v0, Value.int IntKind.i64 v1, Value.int IntKind.i64 v2, Value.int IntKind.i64 v3, Value.int IntKind.i64 v4, Value.slice (some ⟨g, 0, none⟩) ids.length ids.length] 83)).heap[W1.heap.size]? = some (.cells #[Value.int IntKind.i64 n, Value.slice a zs.length cap, Value.int IntKind.i64 v0, Value.int IntKind.i64 v1, Value.int IntKind.i64 v2, Value.int IntKind.i64 v3, Value.int IntKind.i64 v4, Value.slice (some ⟨g, 0, none⟩) ids.length ids.length] 83 (0, 0))) := heap_alloc_new _ _
    have HZ : Hid (w2.heap.size + 1 < W1.heap.size) := row_lt HLw.out
    go_wp2_with fail
    refine (wpIn_wide (n := 3)).1 ?_
    refine wpIn_rangeFunc_ownH rfl (by omega) (gf := 110) (lb := #[.pointer (some ⟨W1.heap.size, 0, none⟩)]) rfl trivial (enters_of Try.func110 (by kernel_rfl) rfl)
      (visits_stops 2 (by omega) W1.heap.size w2.heap.size n v0 v1 v2 v3 v4 a (some ⟨g, 0, none⟩) cap ids.length ids.length zs (rosOf os ko ids) w2 _ (Nat.le_refl _) HX2.out.1 HT2.out HMAT.out HA2.out HR2.out (rosOf_length os ko ids) HBD.out HX1.out HX3.out h12)
      KpT.trans (KpT.putObj rfl HX2.out.1.size) (Below.refl _ _) (fun _ => rfl)
      (fun pre W => ListAt w2 W #[Value.int IntKind.i64 n, Value.slice a zs.length cap, Value.int IntKind.i64 v0, Value.int IntKind.i64 v1, Value.int IntKind.i64 v2, Value.int IntKind.i64 v3, Value.int IntKind.i64 v4, Value.slice (some ⟨g, 0, none⟩) ids.length ids.length] (W1.heap.size + 1) pre.length (preV n zs (rosOf os ko ids) v1 v3 pre) ∧ W1.heap.size < W.heap.size)
      (fun _ _ _ => False)
      (OwnFrom.and (ListAt.own w2 _ _ (fun pre => pre.length) (fun pre => preV n zs (rosOf os ko ids) v1 v3 pre) _ HX2.out.1.size) (fun _ _ _ _ hs hg _ => Nat.lt_of_lt_of_le hs hg.size))
      (fun _ _ _ _ _ hs _ _ => hs)
      ⟨HX2.out, by simp⟩
      (fun x a' W => ∃ Bv, W1.heap.size < Bv ∧ W.heap[Bv]? = some (.cells #[.int .i64 (og6 (rosOf os ko ids) x.val 0), .int .i64 (arrV n zs (rosOf os ko ids) v1 v3 x.val), .int .i64 (startV n zs (rosOf os ko ids) v1 v3 x.val), .int .i64 (nowT n zs (rosOf os ko ids) v1 v3 (x.val + 1))] 123 (0, 0)) ∧ a' = { tmps := #[.agg #[.int .i64 n, .slice a zs.length cap, .slice ao ko co, .slice av kv cv, .int .i64 fine], .agg #[.int .i64 veh, .slice bi ids.length c2], .pointer (some ⟨w.heap.size, 0, none⟩), .pointer (some ⟨w.heap.size + 1, 0, none⟩), .slice none 0 0, .int .i64 0, .int .i64 0, .pointer (some ⟨w2.heap.size, 0, none⟩), .int .i64 0, .pointer (some ⟨w2.heap.size + 1, 0, none⟩), undef, .pointer (some ⟨Bv, 0, none⟩), .tuple #[.agg #[.int .i64 n, .slice a zs.length cap, .int .i64 v0, .int .i64 v1, .int .i64 v2, .int .i64 v3, .int .i64 v4, .slice (some ⟨g, 0, none⟩) ids.length ids.length], .int .i64 0], .agg #[.int .i64 n, .slice a zs.length cap, .slice ao ko co, .slice av kv cv, .int .i64 fine], .agg #[.int .i64 veh, .slice bi ids.length c2], .tuple #[.agg #[.int .i64 n, .slice a zs.length cap, .int .i64 v0, .int .i64 v1, .int .i64 v2, .int .i64 v3, .int .i64 v4, .slice (some ⟨g, 0, none⟩) ids.length ids.length], .int .i64 0], .agg #[.int .i64 n, .slice a zs.length cap, .int .i64 v0, .int .i64 v1, .int .i64 v2, .int .i64 v3, .int .i64 v4, .slice (some ⟨g, 0, none⟩) ids.length ids.length], .int .i64 0, .int .i64 0, .bool false, undef, .agg #[.int .i64 n, .slice a zs.length cap, .int .i64 v0, .int .i64 v1, .int .i64 v2, .int .i64 v3, .int .i64 v4, .slice (some ⟨g, 0, none⟩) ids.length ids.length], .func (.func 110) #[] #[.pointer (some ⟨W1.heap.size, 0, none⟩)], .agg #[.int .i64 (og6 (rosOf os ko ids) x.val 0), .int .i64 (og6 (rosOf os ko ids) x.val 1), .int .i64 (og6 (rosOf os ko ids) x.val 2), .int .i64 (og6 (rosOf os ko ids) x.val 3), .int .i64 (og6 (rosOf os ko ids) x.val 4), .int .i64 (og6 (rosOf os ko ids) x.val 5)], .agg #[.int .i64 (og6 (rosOf os ko ids) x.val 0), .int .i64 (arrV n zs (rosOf os ko ids) v1 v3 x.val), .int .i64 (startV n zs (rosOf os ko ids) v1 v3 x.val), .int .i64 (nowT n zs (rosOf os ko ids) v1 v3 (x.val + 1))], undef, undef, undef, undef, undef, undef, undef], defers := [] })
      (fun x a' _ X Y row hs hg hr => by
        obtain ⟨Bv, g2, g4, g5⟩ := hs
        exact ⟨Bv, g2, row_own (cs := fun _ : Unit => _) () X Y row g4 hg hr, g5⟩)
      ?assign ?body ?done ?stop
    case assign =>
      rintro l pre x W K ⟨hi, hsz⟩ hK
      gi_wp2
      exact hK _ _ ((KeepsOthers.alloc _ _).from _) (KpT.alloc _ _ hi.1.size) ⟨hi.below ((Below.refl _ _).alloc (Nat.le_refl _) _), by simp; omega⟩ ⟨W.heap.size, hsz, heap_alloc_new _ _, rfl⟩
    case body =>
      rintro l pre x a' W hl hlr ⟨⟨hi1, hi2, sl, hi3, hi4⟩, hsz⟩ ⟨Bv, g2, g4, rfl⟩ hlt
      have HI1 : Hid (Below w2.heap.size w2 W) := hi1
      have HI2 : Hid (W.heap[w2.heap.size]? = _) := hi2
      have HI3 : Hid (W.heap[w2.heap.size + 1]? = some (.cells #[sl] 79 (0, 0))) := hi3
      have HI4 : Hid (W.ownsRow (W1.heap.size + 1) 123 4 sl pre.length (preV n zs (rosOf os ko ids) v1 v3 pre)) := hi4
      have HSZ : Hid (W1.heap.size < W.heap.size) := hsz
      have HG4 : Hid (W.heap[Bv]? = _) := g4
      have HSN := preV_snoc n zs (rosOf os ko ids) v1 v3 pre x
      obtain ⟨x0, HX0⟩ : ∃ t, Hid (og6 (rosOf os ko ids) x.val 0 = t) := ⟨_, rfl⟩
      obtain ⟨xa, HXA⟩ : ∃ t, Hid (arrV n zs (rosOf os ko ids) v1 v3 x.val = t) := ⟨_, rfl⟩
      obtain ⟨xs, HXS⟩ : ∃ t, Hid (startV n zs (rosOf os ko ids) v1 v3 x.val = t) := ⟨_, rfl⟩
      obtain ⟨xn, HXN⟩ : ∃ t, Hid (nowT n zs (rosOf os ko ids) v1 v3 (x.val + 1) = t) := ⟨_, rfl⟩
      rw [HX0.out, HXA.out, HXS.out, HXN.out] at HSN HG4
      have HSN' : Hid (_ = _) := HSN
      have j0 : W.cell? ⟨Bv, 0, none⟩ = some (.int .i64 x0) := by rw [cell_of_row _ _ 0 _ _ _ HG4.out]; simp
      have j1 : W.cell? ⟨Bv, 1, none⟩ = some (.int .i64 xa) := by rw [cell_of_row _ _ 1 _ _ _ HG4.out]; simp
      have j2 : W.cell? ⟨Bv, 2, none⟩ = some (.int .i64 xs) := by rw [cell_of_row _ _ 2 _ _ _ HG4.out]; simp
      have j3 : W.cell? ⟨Bv, 3, none⟩ = some (.int .i64 xn) := by rw [cell_of_row _ _ 3 _ _ _ HG4.out]; simp
      have cl : W.cell? ⟨w2.heap.size + 1, 0, none⟩ = some sl := by rw [cell_of_row _ _ 0 _ _ _ HI3.out]; simp
      clear hi1 hi2 hi3 hi4 hsz g4 HSN
      gi_wp2_with (first
        | (gi_at_builtin; refine append_visits_in _ rfl _ _ rfl (W1.heap.size + 1) sl pre.length _ rfl (HI4.out.alloc _) _ 1 _ rfl rfl (cells4_new _ _ _ _ _ _ _ (by simp)) (by simp [Value.oneCell']) (by omega) (Nat.le_trans HSZ.out (by simp)) ?_
           intro v' w4 hown4 hgrow4
           obtain ⟨gg', cc', rfl, hgg'⟩ := owned_at hown4
           have hbx : w4.heap[w2.heap.size + 1]? = some (.cells #[sl] 79 (0, 0)) := (hgrow4.block _ (Nat.lt_of_lt_of_le (row_lt HI3.out) (by simp)) (fun e => by have h8 := (HI4.out.lt _ e.symm).1; have h9 := HZ.out; omega)).trans ((heap_alloc_old _ _ (row_lt HI3.out)).trans HI3.out)
           have cl4 : w4.cell? ⟨w2.heap.size + 1, 0, none⟩ = some sl := by rw [cell_of_row _ _ 0 _ _ _ hbx]; simp
           have fl4 := fun i => frozen_of_row _ _ i _ _ hbx
           have HBX : Hid (w4.heap[w2.heap.size + 1]? = _) := hbx
           have HOW : Hid (w4.ownsRow _ _ _ _ _ _) := hown4
           have HGW : Hid (World.grownBy _ w4 _) := hgrow4
           clear hbx hown4 hgrow4))
      have hne : ∀ gg, sl.ownBlock = some gg → w2.heap.size ≤ gg ∧ W1.heap.size ≠ gg := fun gg e => by
        have h8 := (HI4.out.lt _ e).1
        have h9 := HZ.out
        omega
      refine ⟨(((KeepsOthers.alloc _ _).trans (KeepsOthers.of_grownBy HGW.out (own_cells (HI4.out.alloc _)))).trans (KeepsOthers.setCell _ _ _)).from _, ((KpT.alloc _ _ HI1.out.size).trans (KpT.grown HGW.out (Nat.le_trans HI1.out.size (by simp)) hne)).trans (KpT.set _ _ _ _ (by omega) (by have h9 := HZ.out; omega)), ⟨?_, ?_, .slice (some ⟨gg', 0, none⟩) (pre.length + 1) cc', ?_, ?_⟩, ?_⟩
      · exact ((HI1.out.alloc HI1.out.size _).grown HGW.out (Nat.le_trans HI1.out.size (by simp)) (fun k e => (hne k e).1)).setCell (by simp) _
      · exact row_set' ((HGW.out.block _ (Nat.lt_of_lt_of_le (row_lt HI2.out) (by simp)) (fun e => by have h8 := (HI4.out.lt _ e.symm).1; have h9 := HZ.out; omega)).trans ((heap_alloc_old _ _ (row_lt HI2.out)).trans HI2.out)) (by omega)
      · exact heap_setCell_same _ _ _ _ _ _ HBX.out
      · rw [List.length_append, HSN'.out]
        exact ownsRow_setCell_below HOW.out (by simp; have h9 := HZ.out; omega) _
      · have h7 := HSZ.out
        have h8 := HGW.out.size
        simp [World.setCell] at h8 ⊢
        omega
    case done =>
      rintro D ys W hD hS ⟨⟨hi1, hi2, sl, hi3, hi4⟩, hsz⟩ hK
      have hlen : ys.length = ids.length := by
        have := congrArg List.length hS
        simpa using this
      rw [hlen, preV_to n zs (rosOf os ko ids) v1 v3 ids.length ys (Nat.le_refl _) hS, List.take_of_length_le (by rw [visL_length]; omega)] at hi4
      have HI1 : Hid (Below w2.heap.size w2 W) := hi1
      have HI3 : Hid (W.heap[w2.heap.size + 1]? = some (.cells #[sl] 79 (0, 0))) := hi3
      have HI4 : Hid (W.ownsRow (W1.heap.size + 1) 123 4 sl ids.length _) := hi4
      have HK : Hid (W.heap[D]? = some (.deferred (some []))) := hK
      have HD : Hid (w2.heap.size ≤ D) := Nat.le_trans HX2.out.1.size hD
      obtain ⟨t0, t1, t2, t3, t4, t5, t6, t7⟩ := cells8 hi2
      have cl : W.cell? ⟨w2.heap.size + 1, 0, none⟩ = some sl := by rw [cell_of_row _ _ 0 _ _ _ HI3.out]; simp
      clear hi1 hi2 hi3 hi4 hK hD hS hsz hlen
      obtain ⟨d, HDD⟩ : ∃ t, Hid (homeV n zs (rosOf os ko ids) ids.length v1 v3 = t) := ⟨_, rfl⟩
      go_wp2_with fail
      have e0 := fun s : Kin W => s.cell t0
      have e1 := fun s : Kin W => s.cell t1
      have e2 := fun s : Kin W => s.cell t2
      have e3 := fun s : Kin W => s.cell t3
      have e4 := fun s : Kin W => s.cell t4
      have e5 := fun s : Kin W => s.cell t5
      have e6 := fun s : Kin W => s.cell t6
      have e7 := fun s : Kin W => s.cell t7
      have e8 := fun s : Kin W => s.cell cl
      have hkin := Kin.there W
      refine wp_region_kin (by kernel_rfl) (by kernel_rfl) ?_
      repeat (go_big_quiet_step ((first
        | (go_at_call 83; exact Kin.call (home_is n v0 v1 v2 v3 v4 a (some ⟨g, 0, none⟩) cap ids.length ids.length zs (rosOf os ko ids) _ d HDD.out HMAT.out ((HA2.out.below HI1.out).below (Kin.below _)) ((HR2.out.below HI1.out).below (Kin.below _)) (rosOf_length os ko ids) HBD.out HX1.out HX3.out h12)))))
      refine wpQuiet_nil ?_
      rintro _ ⟨s, rfl⟩
      have HB5 : Hid (Below w2.heap.size w2 s.w) := HI1.out.trans (s.below.mono HI1.out.size)
      have HO5 : Hid (s.w.ownsRow (W1.heap.size + 1) 123 4 sl ids.length _) := owns_below HI4.out s.below
      have HK5 : Hid (s.w.heap[D]? = some (.deferred (some []))) := below_row s.below (Array.getElem?_eq_some_iff.1 HK.out).1 HK.out
      clear t0 t1 t2 t3 t4 t5 t6 t7 e0 e1 e2 e3 e4 e5 e6 e7 e8 hkin cl
      generalize s.w = W5 at *
      go_wp2
      refine ⟨by simp, .inl ⟨_, _, rfl, run_takeDeferred HK5.out, ?_⟩⟩
      refine ⟨.tuple #[sl, .int .i64 d, .int .i64 0], by simp [results, Try.results43, go_sem], (HB2.out.trans (HB5.out.mono HB2.out.size)).trans (belowK_b (w := w2) HB2.out.size W5 D _ _ HD.out HK5.out rfl rfl), .inr ⟨HFZ.out, sl, ?_, ?_⟩⟩
      · rw [G1.out, G3.out, HDD.out]
      · rw [G1.out, G3.out]
        obtain ⟨q1, q2 | ⟨gg, cap', cur, q2, q3, q4, q5⟩⟩ := owns_own (B := 0) HO5.out (grownBy_putObj' W5 D (.deferred none)) (fun r e => by cases e; exact ⟨Nat.zero_le _, _, HK5.out, rfl⟩)
        · exact ⟨q1, .inl q2⟩
        · exact ⟨q1, .inr ⟨gg, cap', cur, q2, by have h7 := HB2.out.size; have h9 := HZ.out; omega, q4, q5⟩⟩
    case stop =>
      rintro D c pre W _ _ h _
      exact h.elim

end Go.Proofs.Ytonopidjkcmlmaa

namespace Go.Proofs.Ytonopidjkcmlmaa
open Go.RowKit

set_option maxHeartbeats 1000000 in
theorem lawOk_any (n fine veh : Int) (a ao av bi : Option Addr) (cap ko co kv cv c2 : Nat) (zs os vs ids : List Int) (w : World) (hA : IntsAt w a zs) (hO : IntsAt w ao os) (hV : IntsAt w av vs) (hI : IntsAt w bi ids) (hlo : os.length = ko * 6) (hlv : vs.length = kv * 5) (hko : ko ≤ 9223372036854775807) (hkv : kv ≤ 9223372036854775807) (hli : ids.length ≤ 9223372036854775807) (hc2 : ids.length ≤ c2) (v : Bool) (hv : decide (codeV (caseB n zs os vs ko kv fine) n zs os vs ko kv veh ids = 0) = v) :
    Calls Try.prog 17 #[.agg #[.int .i64 n, .slice a zs.length cap, .slice ao ko co, .slice av kv cv, .int .i64 fine], .agg #[.int .i64 veh, .slice bi ids.length c2]] w fun e w' => e = .returned (.bool v) ∧ Below w.heap.size w w' := by
  have HA : Hid (IntsAt w a zs) := hA
  have HO : Hid (IntsAt w ao os) := hO
  have HV : Hid (IntsAt w av vs) := hV
  have HI : Hid (IntsAt w bi ids) := hI
  have HLO : Hid _ := hlo
  have HLV : Hid _ := hlv
  clear hA hO hV hI hlo hlv
  have HVV : Hid (decide (codeV (caseB n zs os vs ko kv fine) n zs os vs ko kv veh ids = 0) = v) := hv
  clear hv
  have HC0 : Hid (CR w ((w.alloc (.cells #[Value.int IntKind.i64 n, Value.slice a zs.length cap, Value.slice ao ko co, Value.slice av kv cv, Value.int IntKind.i64 fine] 30)).alloc (.cells #[Value.int IntKind.i64 veh, Value.slice bi ids.length c2] 46)) _ _) := CR.new w _ _
  go_enter Try.func17, Try.ntmps17
  obtain ⟨c0, c1, c2', c3, c4⟩ := cells5 HC0.out.2.1
  obtain ⟨d0, d1⟩ := cells2 HC0.out.2.2
  go_wp2_with fail
  clear c0 c1 c2' c3 c4 d0 d1
  refine (implSchedule_any n fine veh a ao av bi cap ko co kv cv c2 zs os vs ids _ (HA.out.below HC0.out.1) (HO.out.below HC0.out.1) (HV.out.below HC0.out.1) (HI.out.below HC0.out.1) HLO.out HLV.out hko hkv hli hc2).mono ?_
  rintro e w2 ⟨hb, ⟨hf, rfl⟩ | ⟨hf, sl, rfl, _⟩⟩
  · have HB2 : Hid (Below w.heap.size w w2) := HC0.out.1.trans (hb.mono HC0.out.1.size)
    have HVF : Hid (v = false) := HVV.out.symm.trans (decide_eq_false hf)
    generalize codeV (caseB n zs os vs ko kv fine) n zs os vs ko kv veh ids = r at *
    have hfb : (r == 0) = false := by simp [hf]
    clear hb hf HC0 HVV
    go_wp2
    go_ret
    exact ⟨ret_bool HVF.out.symm, HB2.out⟩
  · have HB2 : Hid (Below w.heap.size w w2) := HC0.out.1.trans (hb.mono HC0.out.1.size)
    have HVF : Hid (v = true) := HVV.out.symm.trans (decide_eq_true hf)
    clear hb hf HC0 HVV
    generalize homeV n zs (rosOf os ko ids) ids.length (fnd5F vs kv veh 1) (fnd5F vs kv veh 3) = hm
    go_wp2
    go_ret
    exact ⟨ret_bool HVF.out.symm, HB2.out⟩

end Go.Proofs.Ytonopidjkcmlmaa
