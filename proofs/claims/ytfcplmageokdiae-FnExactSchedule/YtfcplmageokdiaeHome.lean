import Derived.Test.YtfcplmageokdiaeVisits
import Derived.RangeFuncNested
import Derived.RangeFuncBound
import Derived.RangeFuncCalls
import Derived.RangeFuncLeaves
import Derived.Shelf.Abstract
import Derived.Shelf.RegionOpen
import Derived.OwnWalkIn
import Derived.TacticsInMore
import Derived.LoopNIn
import Derived.LoopIn
import Derived.Deep.Cut
namespace Go.Proofs.Ytfcplmageokdiae
open Go.RowKit Go.Shelf
attribute [local go_sem] Oper.semAt_some

theorem KpT.putObj {n₀ Bt : Nat} {ob : Obj} (hob : ob.isCells = true) {w : World} (hn : n₀ ≤ w.heap.size) (W : World) (l : Nat) (o o' : Obj) (hl : w.heap.size ≤ l) (h : W.heap[l]? = some o) (hc : o.isCells = false) (hw : o.isWalk = false) : KpT n₀ Bt ob W (W.putObj l o') := by
  refine ⟨belowK_b hn W l o o' hl h hc hw, fun hT => ?_⟩
  have hne : Bt ≠ l := by
    intro e
    rw [e, h] at hT
    cases hT
    rw [hob] at hc
    cases hc
  exact ((grownBy_putObj' W l o').block Bt (Array.getElem?_eq_some_iff.1 hT).1 (fun e => hne (by cases e; rfl))).trans hT
theorem KpT.alloc {n₀ Bt : Nat} {ob : Obj} (W : World) (o : Obj) (hn : n₀ ≤ W.heap.size) : KpT n₀ Bt ob W (W.alloc o) :=
  ⟨(Below.refl _ _).alloc hn _, fun h => (heap_alloc_old _ _ (Array.getElem?_eq_some_iff.1 h).1).trans h⟩
theorem KpT.set {n₀ Bt : Nat} {ob : Obj} (W : World) (k i : Nat) (v : Value) (hn : n₀ ≤ k) (hne : Bt ≠ k) : KpT n₀ Bt ob W (W.setCell ⟨k, i, none⟩ v) :=
  ⟨(Below.refl _ _).setCell hn _, fun h => row_set' h hne⟩

/-- The closure's contract for a loop's caller. -/
theorem visits_stops (nf : Nat) (hnf : 1 ≤ nf) (Bt n₀ : Nat) (n v0 home v2 frm to : Int) (a ar : Option Addr) (cap m cr : Nat) (zs ros : List Int) (w w0 : World) (hn₀ : w.heap.size ≤ n₀) (hw0 : Below w.heap.size w w0) (hT : w0.heap[Bt]? = some (.cells #[Value.int IntKind.i64 n, Value.slice a zs.length cap, Value.int IntKind.i64 v0, Value.int IntKind.i64 home, Value.int IntKind.i64 v2, Value.int IntKind.i64 frm, Value.int IntKind.i64 to, Value.slice ar m cr] 88 (0, 0))) (hm : matB n zs = true) (hA : IntsAt w a zs) (hR : IntsAt w ar ros) (hl : ros.length = m * 6) (hbd : RosBd n ros m) (hh : 0 ≤ home ∧ home < n) (hf : 0 ≤ frm ∧ frm ≤ 1000000) (hm12 : m ≤ 12) :
    SeqStopsK Fence.wide nf Try.prog 78 #[.pointer (some ⟨Bt, 0, none⟩)] (fun x : Fin m => #[.agg #[.int .i64 (og6 ros x.val 0), .int .i64 (og6 ros x.val 1), .int .i64 (og6 ros x.val 2), .int .i64 (og6 ros x.val 3), .int .i64 (og6 ros x.val 4), .int .i64 (og6 ros x.val 5)], .agg #[.int .i64 (og6 ros x.val 0), .int .i64 (arrV n zs ros home frm x.val), .int .i64 (startV n zs ros home frm x.val), .int .i64 (nowT n zs ros home frm (x.val + 1))]]) (KpT n₀ Bt (.cells #[Value.int IntKind.i64 n, Value.slice a zs.length cap, Value.int IntKind.i64 v0, Value.int IntKind.i64 home, Value.int IntKind.i64 v2, Value.int IntKind.i64 frm, Value.int IntKind.i64 to, Value.slice ar m cr] 88 (0, 0)))
      (fun ys => ys.map Fin.val = List.range m) (fun pre => ∃ k, k ≤ m ∧ pre.map Fin.val = List.range k) m w0 := fun l J Jx W hW hJ _ hY h0 =>
  callsIn_wide.2 (visits1_in nf hnf l Bt n₀ n v0 home v2 frm to a ar cap m cr zs ros J Jx hY w W hJ hn₀ (hw0.trans (hW.mono hw0.size)) (below_row hW (row_lt hT) hT) hm hA hR hl hbd hh hf hm12 h0)

/-- A row of cells: what is no cells may turn. -/
theorem row_own {β : Type} {B k : Nat} {cs : β → Array Value} {T : TypeId} {f : Nat × Nat} : OwnFrom B (fun (s : β) W => W.heap[k]? = some (.cells (cs s) T f)) := fun s W W' row hs hg hr =>
  (hg.block k (Array.getElem?_eq_some_iff.1 hs).1 (fun e => by obtain ⟨_, o, ho, hc⟩ := hr k e.symm; rw [hs] at ho; cases ho; cases hc)).trans hs

/-- The place and the time behind what has come. -/
def lastP (ros : List Int) (home : Int) {m : Nat} (pre : List (Fin m)) : Int := match pre.getLast? with
  | some x => og6 ros x.val 1
  | none => home
def lastN (n : Int) (zs ros : List Int) (home frm : Int) {m : Nat} (pre : List (Fin m)) : Int := match pre.getLast? with
  | some x => nowT n zs ros home frm (x.val + 1)
  | none => frm
theorem lastP_snoc (ros : List Int) (home : Int) {m : Nat} (pre : List (Fin m)) (x : Fin m) : lastP ros home (pre ++ [x]) = og6 ros x.val 1 := by simp [lastP]
theorem lastN_snoc (n : Int) (zs ros : List Int) (home frm : Int) {m : Nat} (pre : List (Fin m)) (x : Fin m) : lastN n zs ros home frm (pre ++ [x]) = nowT n zs ros home frm (x.val + 1) := by simp [lastN]
theorem last_all {m : Nat} (ys : List (Fin m)) (h : ys.map Fin.val = List.range m) : (m = 0 ∧ ys = []) ∨ ∃ (pre : List (Fin m)) (x : Fin m), ys = pre ++ [x] ∧ x.val + 1 = m := by
  rcases List.eq_nil_or_concat ys with rfl | ⟨pre, x, rfl⟩
  · left
    have := congrArg List.length h
    simp at this
    exact ⟨this.symm, rfl⟩
  · right
    refine ⟨pre, x, by simp, ?_⟩
    have hl := congrArg List.length h
    have h2 := congrArg List.getLast? h
    simp at hl h2
    obtain ⟨k, rfl⟩ : ∃ k, m = k + 1 := ⟨m - 1, by omega⟩
    rw [List.range_succ] at h2
    simp at h2
    omega
theorem lastP_all (ros : List Int) (home : Int) {m : Nat} (ys : List (Fin m)) (h : ys.map Fin.val = List.range m) : lastP ros home ys = plc ros home m := by
  rcases last_all ys h with ⟨rfl, rfl⟩ | ⟨pre, x, rfl, hx⟩
  · rfl
  · rw [lastP_snoc]
    have : plc ros home (x.val + 1) = og6 ros x.val 1 := rfl
    rw [← this]
    exact congrArg (plc ros home) hx
theorem lastN_all (n : Int) (zs ros : List Int) (home frm : Int) {m : Nat} (ys : List (Fin m)) (h : ys.map Fin.val = List.range m) : lastN n zs ros home frm ys = nowT n zs ros home frm m := by
  rcases last_all ys h with ⟨rfl, rfl⟩ | ⟨pre, x, rfl, hx⟩
  · rfl
  · rw [lastN_snoc]
    exact congrArg (nowT n zs ros home frm) hx

/-- Inside home: the tour's box, the place's and the time's. -/
def HomeAt (w W : World) (ts : Array Value) (bp bn : Nat) (pl nw : Int) : Prop :=
  Below w.heap.size w W ∧ W.heap[w.heap.size]? = some (.cells ts 88 (0, 0)) ∧ W.heap[bp]? = some (.cells #[.int .i64 pl] 2 (0, 0)) ∧ W.heap[bn]? = some (.cells #[.int .i64 nw] 2 (0, 0)) ∧ w.heap.size < bp ∧ w.heap.size < bn ∧ bp ≠ bn
theorem HomeAt.new1 (w : World) (ts : Array Value) (pl nw : Int) : HomeAt w (((w.alloc (.cells ts 88)).alloc (.cells #[.int .i64 pl] 2)).alloc (.cells #[.int .i64 nw] 2)) ts (w.heap.size + 1) (w.heap.size + 1 + 1) pl nw := by
  have h0 := heap_alloc2_old w (.cells ts 88) (.cells #[.int .i64 pl] 2)
  have h1 := heap_alloc2_new w (.cells ts 88) (.cells #[.int .i64 pl] 2)
  have h2 := heap_alloc_new ((w.alloc (.cells ts 88)).alloc (.cells #[.int .i64 pl] 2)) (.cells #[.int .i64 nw] 2)
  refine ⟨(((Below.refl _ _).alloc (Nat.le_refl _) _).alloc (by simp) _).alloc (by simp; omega) _, (heap_alloc_old _ _ (row_lt h0)).trans h0, (heap_alloc_old _ _ (row_lt h1)).trans h1, by simpa using h2, by omega, by omega, by omega⟩
theorem HomeAt.new2 (w : World) (ts : Array Value) (pl nw : Int) : HomeAt w (((w.alloc (.cells ts 88)).alloc (.cells #[.int .i64 nw] 2)).alloc (.cells #[.int .i64 pl] 2)) ts (w.heap.size + 1 + 1) (w.heap.size + 1) pl nw := by
  obtain ⟨h1, h2, h3, h4, _, _, _⟩ := HomeAt.new1 w ts nw pl
  exact ⟨h1, h2, h4, h3, by omega, by omega, by omega⟩
theorem HomeAt.below {w W W' : World} {ts : Array Value} {bp bn : Nat} {pl nw : Int} (h : HomeAt w W ts bp bn pl nw) (hb : Below W.heap.size W W') : HomeAt w W' ts bp bn pl nw :=
  ⟨h.1.trans (hb.mono h.1.size), below_row hb (row_lt h.2.1) h.2.1, below_row hb (row_lt h.2.2.1) h.2.2.1, below_row hb (row_lt h.2.2.2.1) h.2.2.2.1, h.2.2.2.2⟩

theorem HomeAt.set {w W : World} {ts : Array Value} {bp bn : Nat} {pl nw : Int} (h : HomeAt w W ts bp bn pl nw) (pl' nw' : Int) : HomeAt w (((W.setCell ⟨bp, 0, none⟩ (.int .i64 pl')).setCell ⟨bn, 0, none⟩ (.int .i64 nw')).drew) ts bp bn pl' nw' := by
  obtain ⟨h1, h2, h3, h4, h5, h6, h7⟩ := h
  exact ⟨((h1.setCell (by simp; omega) _).setCell (by simp; omega) _).drew, row_set' (row_set' h2 (by omega)) (by omega), row_set' (heap_setCell_same _ _ _ _ _ _ h3) h7, heap_setCell_same _ _ _ _ _ _ (row_set' h4 (fun e => h7 e.symm)), h5, h6, h7⟩
theorem HomeAt.own {β : Type} (w : World) (ts : Array Value) (bp bn : Nat) (pl nw : β → Int) (B : Nat) (hB : w.heap.size ≤ B) : OwnFrom B (fun s W => HomeAt w W ts bp bn (pl s) (nw s)) := fun s W W' row hs hg hr =>
  ⟨ownFrom_below (Nat.le_refl _) hB () W W' row hs.1 hg hr, row_own (cs := fun _ : Unit => ts) () W W' row hs.2.1 hg hr, row_own (cs := fun _ : Unit => #[.int .i64 (pl s)]) () W W' row hs.2.2.1 hg hr, row_own (cs := fun _ : Unit => #[.int .i64 (nw s)]) () W W' row hs.2.2.2.1 hg hr, hs.2.2.2.2⟩

set_option maxRecDepth 100000 in
set_option maxHeartbeats 2000000 in
theorem home_any (n v0 home v2 frm to : Int) (a ar : Option Addr) (cap m cr : Nat) (zs ros : List Int) (w : World) (hm : matB n zs = true) (hA : IntsAt w a zs) (hR : IntsAt w ar ros) (hl : ros.length = m * 6) (hbd : RosBd n ros m) (hh : 0 ≤ home ∧ home < n) (hf : 0 ≤ frm ∧ frm ≤ 1000000) (hm12 : m ≤ 12) :
    Calls Try.prog 52 #[.agg #[.int .i64 n, .slice a zs.length cap, .int .i64 v0, .int .i64 home, .int .i64 v2, .int .i64 frm, .int .i64 to, .slice ar m cr]] w fun e w' => e = .returned (.int .i64 (homeV n zs ros m home frm)) ∧ Below w.heap.size w w' := by
  have HM : Hid (matB n zs = true) := hm
  have HA : Hid (IntsAt w a zs) := hA
  have HR : Hid (IntsAt w ar ros) := hR
  have HL : Hid (ros.length = m * 6) := hl
  have HBD : Hid (RosBd n ros m) := hbd
  have HH : Hid (0 ≤ home ∧ home < n) := hh
  have HF : Hid (0 ≤ frm ∧ frm ≤ 1000000) := hf
  have HP0 : Hid ((w.alloc (Obj.cells #[Value.int IntKind.i64 n, Value.slice a zs.length cap, Value.int IntKind.i64 v0, Value.int IntKind.i64 home, Value.int IntKind.i64 v2, Value.int IntKind.i64 frm, Value.int IntKind.i64 to, Value.slice ar m cr] 88)).heap[w.heap.size]? = _) := heap_alloc_new _ _
  have HB0 : Hid (Below w.heap.size w (w.alloc (Obj.cells #[Value.int IntKind.i64 n, Value.slice a zs.length cap, Value.int IntKind.i64 v0, Value.int IntKind.i64 home, Value.int IntKind.i64 v2, Value.int IntKind.i64 frm, Value.int IntKind.i64 to, Value.slice ar m cr] 88))) := (Below.refl _ _).alloc (Nat.le_refl _) _
  clear hm hA hR hl hbd hh hf
  refine (callsIn_wide (n := 3)).1 ?_
  refine callsIn_of_wp_marks Try.func52 rfl trivial ?_ rfl
  simp only [Try.ntmps52, List.size_toArray, List.length_cons, List.length_nil, Nat.reduceAdd, Nat.reduceSub, Array.replicate_succ, Array.replicate_zero, List.push_toArray, List.append_toArray, List.nil_append, List.cons_append]
  refine wpIn_wide.2 ?_
  obtain ⟨t0, t1, t2, t3, t4, t5, t6, t7⟩ := cells8 HP0.out
  go_wp2_with fail
  rename_i Kx hKx
  have key : ∀ (bp bn : Nat) (W1 : World), Hid (HomeAt w W1 #[Value.int IntKind.i64 n, Value.slice a zs.length cap, Value.int IntKind.i64 v0, Value.int IntKind.i64 home, Value.int IntKind.i64 v2, Value.int IntKind.i64 frm, Value.int IntKind.i64 to, Value.slice ar m cr] bp bn home frm) → Kx { tmps := #[.agg #[.int .i64 n, .slice a zs.length cap, .int .i64 v0, .int .i64 home, .int .i64 v2, .int .i64 frm, .int .i64 to, .slice ar m cr], .pointer (some ⟨w.heap.size, 0, none⟩), .int .i64 0, .pointer (some ⟨bp, 0, none⟩), .pointer (some ⟨bn, 0, none⟩), undef, undef, .pointer (some ⟨w.heap.size, 2, none⟩), .pointer (some ⟨w.heap.size, 3, none⟩), .int .i64 home, .pointer (some ⟨w.heap.size, 2, none⟩), .pointer (some ⟨w.heap.size, 5, none⟩), .int .i64 frm, undef, undef, undef, undef, undef, undef, undef, undef, undef, undef, undef, undef, undef, undef, undef, undef], defers := [] } W1 := by
    clear t0 t1 t2 t3 t4 t5 t6 t7 HP0 HB0
    intro bp bn W1 HX
    apply hKx
    obtain ⟨t0, t1, t2, t3, t4, t5, t6, t7⟩ := cells8 HX.out.2.1
    go_wp2_with fail
    clear t0 t1 t2 t3 t4 t5 t6 t7
    refine (visits_any n v0 home v2 frm to a ar cap m cr zs W1).mono ?_
    rintro e w2 ⟨rfl, rfl⟩
    have HX2 : Hid (HomeAt w (W1.alloc (.cells #[Value.int IntKind.i64 n, Value.slice a zs.length cap, Value.int IntKind.i64 v0, Value.int IntKind.i64 home, Value.int IntKind.i64 v2, Value.int IntKind.i64 frm, Value.int IntKind.i64 to, Value.slice ar m cr] 88)) #[Value.int IntKind.i64 n, Value.slice a zs.length cap, Value.int IntKind.i64 v0, Value.int IntKind.i64 home, Value.int IntKind.i64 v2, Value.int IntKind.i64 frm, Value.int IntKind.i64 to, Value.slice ar m cr] bp bn home frm) := HX.out.below ((Below.refl _ _).alloc (Nat.le_refl _) _)
    have HT2 : Hid ((W1.alloc (.cells #[Value.int IntKind.i64 n, Value.slice a zs.length cap, Value.int IntKind.i64 v0, Value.int IntKind.i64 home, Value.int IntKind.i64 v2, Value.int IntKind.i64 frm, Value.int IntKind.i64 to, Value.slice ar m cr] 88)).heap[W1.heap.size]? = some (.cells #[Value.int IntKind.i64 n, Value.slice a zs.length cap, Value.int IntKind.i64 v0, Value.int IntKind.i64 home, Value.int IntKind.i64 v2, Value.int IntKind.i64 frm, Value.int IntKind.i64 to, Value.slice ar m cr] 88 (0, 0))) := heap_alloc_new _ _
    have HS1 : Hid (w.heap.size < W1.heap.size ∧ bp < W1.heap.size ∧ bn < W1.heap.size) := ⟨row_lt HX.out.2.1, row_lt HX.out.2.2.1, row_lt HX.out.2.2.2.1⟩
    go_wp2_with fail
    refine (wpIn_wide (n := 3)).1 ?_
    refine wpIn_rangeFunc_ownH rfl (by omega) (gf := 78) (lb := #[.pointer (some ⟨W1.heap.size, 0, none⟩)]) rfl trivial (enters_of Try.func78 (by kernel_rfl) rfl)
      (visits_stops 2 (by omega) W1.heap.size w.heap.size n v0 home v2 frm to a ar cap m cr zs ros w _ (Nat.le_refl _) HX2.out.1 HT2.out HM.out HA.out HR.out HL.out HBD.out HH.out HF.out hm12)
      KpT.trans (KpT.putObj rfl HX2.out.1.size) (Below.refl _ _) (fun _ => rfl)
      (fun pre W => HomeAt w W #[Value.int IntKind.i64 n, Value.slice a zs.length cap, Value.int IntKind.i64 v0, Value.int IntKind.i64 home, Value.int IntKind.i64 v2, Value.int IntKind.i64 frm, Value.int IntKind.i64 to, Value.slice ar m cr] bp bn (lastP ros home pre) (lastN n zs ros home frm pre) ∧ W1.heap.size < W.heap.size)
      (fun _ _ _ => False)
      (OwnFrom.and (HomeAt.own w _ bp bn _ _ _ HX2.out.1.size) (fun _ _ _ _ hs hg _ => Nat.lt_of_lt_of_le hs hg.size))
      (fun _ _ _ _ _ hs _ _ => hs)
      ⟨HX2.out, by simp⟩
      (fun x a' W => ∃ Bo Bv, W1.heap.size < Bo ∧ W1.heap.size < Bv ∧ W.heap[Bo]? = some (.cells #[.int .i64 (og6 ros x.val 0), .int .i64 (og6 ros x.val 1), .int .i64 (og6 ros x.val 2), .int .i64 (og6 ros x.val 3), .int .i64 (og6 ros x.val 4), .int .i64 (og6 ros x.val 5)] 78 (0, 0)) ∧ W.heap[Bv]? = some (.cells #[.int .i64 (og6 ros x.val 0), .int .i64 (arrV n zs ros home frm x.val), .int .i64 (startV n zs ros home frm x.val), .int .i64 (nowT n zs ros home frm (x.val + 1))] 83 (0, 0)) ∧ a' = { tmps := #[.agg #[.int .i64 n, .slice a zs.length cap, .int .i64 v0, .int .i64 home, .int .i64 v2, .int .i64 frm, .int .i64 to, .slice ar m cr], .pointer (some ⟨w.heap.size, 0, none⟩), .int .i64 0, .pointer (some ⟨bp, 0, none⟩), .pointer (some ⟨bn, 0, none⟩), .pointer (some ⟨Bo, 0, none⟩), .pointer (some ⟨Bv, 0, none⟩), .pointer (some ⟨w.heap.size, 2, none⟩), .pointer (some ⟨w.heap.size, 3, none⟩), .int .i64 home, .pointer (some ⟨w.heap.size, 2, none⟩), .pointer (some ⟨w.heap.size, 5, none⟩), .int .i64 frm, .agg #[.int .i64 n, .slice a zs.length cap, .int .i64 v0, .int .i64 home, .int .i64 v2, .int .i64 frm, .int .i64 to, .slice ar m cr], .func (.func 78) #[] #[.pointer (some ⟨W1.heap.size, 0, none⟩)], .agg #[.int .i64 (og6 ros x.val 0), .int .i64 (og6 ros x.val 1), .int .i64 (og6 ros x.val 2), .int .i64 (og6 ros x.val 3), .int .i64 (og6 ros x.val 4), .int .i64 (og6 ros x.val 5)], .agg #[.int .i64 (og6 ros x.val 0), .int .i64 (arrV n zs ros home frm x.val), .int .i64 (startV n zs ros home frm x.val), .int .i64 (nowT n zs ros home frm (x.val + 1))], undef, undef, undef, undef, undef, undef, undef, undef, undef, undef, undef, undef], defers := [] })
      (fun x a' _ X Y row hs hg hr => by
        obtain ⟨Bo, Bv, g1, g2, g3, g4, g5⟩ := hs
        exact ⟨Bo, Bv, g1, g2, row_own (cs := fun _ : Unit => _) () X Y row g3 hg hr, row_own (cs := fun _ : Unit => _) () X Y row g4 hg hr, g5⟩)
      ?assign ?body ?done ?stop
    case assign =>
      rintro l pre x W K ⟨hi, hsz⟩ hK
      gi_wp2
      refine hK _ _ (((KeepsOthers.alloc _ _).trans (KeepsOthers.alloc _ _)).from _) ((KpT.alloc _ _ hi.1.size).trans (KpT.alloc _ _ (Nat.le_trans hi.1.size (by simp)))) ⟨(hi.below ((Below.refl _ _).alloc (Nat.le_refl _) _)).below ((Below.refl _ _).alloc (Nat.le_refl _) _), by simp; omega⟩ ⟨W.heap.size, W.heap.size + 1, hsz, by omega, ?_, ?_, rfl⟩
      · exact heap_alloc2_old _ _ _
      · exact heap_alloc2_new _ _ _
    case body =>
      rintro l pre x a' W hl hlr ⟨hi, hsz⟩ ⟨Bo, Bv, g1, g2, g3, g4, rfl⟩ hlt
      have HI : Hid (HomeAt w W _ _ _ _ _) := hi
      have HS1' := HS1.out
      have hne := hi.2.2.2.2
      obtain ⟨i0, i1, i2, i3, i4, i5⟩ := cells6 g3
      have j3 : W.cell? ⟨Bv, 3, none⟩ = some (.int .i64 (nowT n zs ros home frm (x.val + 1))) := by rw [cell_of_row _ _ 3 _ _ _ g4]; simp
      have cp : W.cell? ⟨bp, 0, none⟩ = some (.int .i64 (lastP ros home pre)) := by rw [cell_of_row _ _ 0 _ _ _ hi.2.2.1]; simp
      have cn : W.cell? ⟨bn, 0, none⟩ = some (.int .i64 (lastN n zs ros home frm pre)) := by rw [cell_of_row _ _ 0 _ _ _ hi.2.2.2.1]; simp
      have fp := fun i => frozen_of_row _ _ i _ _ hi.2.2.1
      have fn := fun i => frozen_of_row _ _ i _ _ hi.2.2.2.1
      obtain ⟨xo, HXO⟩ : ∃ t, Hid (og6 ros x.val 1 = t) := ⟨_, rfl⟩
      obtain ⟨xn, HXN⟩ : ∃ t, Hid (nowT n zs ros home frm (x.val + 1) = t) := ⟨_, rfl⟩
      have HFIN : Hid (KeepsFrom (W1.alloc (.cells #[Value.int IntKind.i64 n, Value.slice a zs.length cap, Value.int IntKind.i64 v0, Value.int IntKind.i64 home, Value.int IntKind.i64 v2, Value.int IntKind.i64 frm, Value.int IntKind.i64 to, Value.slice ar m cr] 88)).heap.size W (((W.setCell ⟨bp, 0, none⟩ (Value.int IntKind.i64 (og6 ros x.val 1))).setCell ⟨bn, 0, none⟩ (Value.int IntKind.i64 (nowT n zs ros home frm (x.val + 1)))).drew) ∧ KpT w.heap.size W1.heap.size (.cells #[Value.int IntKind.i64 n, Value.slice a zs.length cap, Value.int IntKind.i64 v0, Value.int IntKind.i64 home, Value.int IntKind.i64 v2, Value.int IntKind.i64 frm, Value.int IntKind.i64 to, Value.slice ar m cr] 88 (0, 0)) W (((W.setCell ⟨bp, 0, none⟩ (Value.int IntKind.i64 (og6 ros x.val 1))).setCell ⟨bn, 0, none⟩ (Value.int IntKind.i64 (nowT n zs ros home frm (x.val + 1)))).drew) ∧ (HomeAt w (((W.setCell ⟨bp, 0, none⟩ (Value.int IntKind.i64 (og6 ros x.val 1))).setCell ⟨bn, 0, none⟩ (Value.int IntKind.i64 (nowT n zs ros home frm (x.val + 1)))).drew) #[Value.int IntKind.i64 n, Value.slice a zs.length cap, Value.int IntKind.i64 v0, Value.int IntKind.i64 home, Value.int IntKind.i64 v2, Value.int IntKind.i64 frm, Value.int IntKind.i64 to, Value.slice ar m cr] bp bn (lastP ros home (pre ++ [x])) (lastN n zs ros home frm (pre ++ [x])) ∧ W1.heap.size < (((W.setCell ⟨bp, 0, none⟩ (Value.int IntKind.i64 (og6 ros x.val 1))).setCell ⟨bn, 0, none⟩ (Value.int IntKind.i64 (nowT n zs ros home frm (x.val + 1)))).drew).heap.size)) := by
        refine ⟨(((KeepsOthers.setCell _ _ _).trans (KeepsOthers.setCell _ _ _)).trans (KeepsOthers.drew _)).from _, ?_, ?_, ?_⟩
        · exact ((KpT.set _ _ _ _ (by omega) (by omega)).trans (KpT.set _ _ _ _ (by omega) (by omega))).trans ⟨(Below.refl _ _).drew, fun h => h⟩
        · rw [lastP_snoc, lastN_snoc]
          exact HI.out.set _ _
        · simpa [World.setCell] using hsz
      clear hi g3 g4 i0 i2 i3 i4 i5 HI
      rw [HXO.out] at i1 HFIN
      rw [HXN.out] at j3 HFIN
      gi_wp2
      rename_i Q1 K1 hK1 Q2
      rw [HXO.out, HXN.out]
      clear hK1 hKx
      clear K1 Kx HXO HXN
      generalize Value.agg #[Value.int IntKind.i64 n, Value.slice a zs.length cap, Value.int IntKind.i64 v0, Value.int IntKind.i64 home, Value.int IntKind.i64 v2, Value.int IntKind.i64 frm, Value.int IntKind.i64 to, Value.slice ar m cr] = A0
      generalize Value.func (Fn.func 78) #[] #[Value.pointer (some ⟨W1.heap.size, 0, none⟩)] = A14
      generalize Value.agg #[Value.int IntKind.i64 (og6 ros x.val 0), Value.int IntKind.i64 xo, Value.int IntKind.i64 (og6 ros x.val 2), Value.int IntKind.i64 (og6 ros x.val 3), Value.int IntKind.i64 (og6 ros x.val 4), Value.int IntKind.i64 (og6 ros x.val 5)] = A15
      generalize Value.agg #[Value.int IntKind.i64 (og6 ros x.val 0), Value.int IntKind.i64 (arrV n zs ros home frm x.val), Value.int IntKind.i64 (startV n zs ros home frm x.val), Value.int IntKind.i64 xn] = A16
      have hmx : Try.prog.follows .mixedOrders = true := by kernel_rfl
      gi_region_o
      all_goals exact HFIN.out
    case done =>
      rintro D ys W hD hS ⟨hi, hsz⟩ hK
      rw [lastP_all _ _ _ hS, lastN_all _ _ _ _ _ _ hS] at hi
      have HI : Hid (HomeAt w W _ _ _ _ _) := hi
      have HK : Hid (W.heap[D]? = some (.deferred (some []))) := hK
      have HD : Hid (w.heap.size ≤ D) := Nat.le_trans HX2.out.1.size hD
      have hpl := plc_bd HBD.out HH.out.1 HH.out.2 m (Nat.le_refl _)
      have hnw := nowT_bd (home := home) HM.out HBD.out HF.out m (Nat.le_refl _)
      obtain ⟨p, HPL⟩ : ∃ t, Hid (plc ros home m = t) := ⟨_, rfl⟩
      obtain ⟨f, HFR⟩ : ∃ t, Hid (nowT n zs ros home frm m = t) := ⟨_, rfl⟩
      obtain ⟨d, HDD⟩ : ∃ t, Hid (tmI n zs p home = t) := ⟨_, rfl⟩
      have hdb := tmI_bd HM.out p home
      rw [HDD.out] at hdb
      rw [HPL.out] at hpl HI
      rw [HFR.out] at hnw HI
      have HPB : Hid (0 ≤ p ∧ p < n) := hpl
      have HV : Hid (homeV n zs ros m home frm = f + d) := by
        show _ = _
        unfold homeV
        rw [HFR.out, HPL.out, HDD.out]
      have cp : W.cell? ⟨bp, 0, none⟩ = some (.int .i64 p) := by rw [cell_of_row _ _ 0 _ _ _ HI.out.2.2.1]; simp
      have cn : W.cell? ⟨bn, 0, none⟩ = some (.int .i64 f) := by rw [cell_of_row _ _ 0 _ _ _ HI.out.2.2.2.1]; simp
      obtain ⟨t0, t1, t2, t3, t4, t5, t6, t7⟩ := cells8 HI.out.2.1
      clear hi hK hD hS hsz hpl
      go_wp2_with fail
      have e0 := fun s : Kin W => s.cell t0
      have e1 := fun s : Kin W => s.cell t1
      have e2 := fun s : Kin W => s.cell t2
      have e3 := fun s : Kin W => s.cell t3
      have e4 := fun s : Kin W => s.cell t4
      have e5 := fun s : Kin W => s.cell t5
      have e6 := fun s : Kin W => s.cell t6
      have e7 := fun s : Kin W => s.cell t7
      have ep := fun s : Kin W => s.cell cp
      have en := fun s : Kin W => s.cell cn
      have hkin := Kin.there W
      refine wp_region_kin (by kernel_rfl) (by kernel_rfl) ?_
      repeat (go_big_quiet_step ((first
        | (go_at_call 64; exact Kin.call (drive_is n p home v0 home v2 frm to _ _ _ _ _ zs _ d HDD.out HM.out HPB.out HH.out ((HA.out.below HI.out.1).below (Kin.below _)))))))
      refine wpQuiet_nil ?_
      rintro _ ⟨s, rfl⟩
      have HB2 : Hid (Below w.heap.size w s.w) := HI.out.1.trans (s.below.mono HI.out.1.size)
      have HK2 : Hid (s.w.heap[D]? = some (.deferred (some []))) := below_row s.below (Array.getElem?_eq_some_iff.1 HK.out).1 HK.out
      clear t0 t1 t2 t3 t4 t5 t6 t7 e0 e1 e2 e3 e4 e5 e6 e7 ep en hkin cp cn
      generalize s.w = W2 at *
      go_wp2
      rw [HV.out]
      refine ⟨by simp, .inl ⟨_, _, rfl, run_takeDeferred HK2.out, ?_⟩⟩
      exact ⟨_, results_tmp rfl _ _ _, rfl, HB2.out.trans (belowK_b (w := w) (Nat.le_refl _) W2 D _ _ HD.out HK2.out rfl rfl)⟩
    case stop =>
      rintro D c pre W _ _ h _
      exact h.elim

  go_region
  all_goals (first
    | (with_reducible show Exit.then _ _ Exit.normal _ (((w.alloc (Obj.cells #[Value.int IntKind.i64 n, Value.slice a zs.length cap, Value.int IntKind.i64 v0, Value.int IntKind.i64 home, Value.int IntKind.i64 v2, Value.int IntKind.i64 frm, Value.int IntKind.i64 to, Value.slice ar m cr] 88)).alloc (Obj.cells #[Value.int IntKind.i64 home] 2)).alloc (Obj.cells #[Value.int IntKind.i64 frm] 2)).drew
       exact key (w.heap.size + 1) (w.heap.size + 1 + 1) _ ((HomeAt.new1 w _ home frm).below (Below.refl _ _).drew))
    | (with_reducible show Exit.then _ _ Exit.normal _ (((w.alloc (Obj.cells #[Value.int IntKind.i64 n, Value.slice a zs.length cap, Value.int IntKind.i64 v0, Value.int IntKind.i64 home, Value.int IntKind.i64 v2, Value.int IntKind.i64 frm, Value.int IntKind.i64 to, Value.slice ar m cr] 88)).alloc (Obj.cells #[Value.int IntKind.i64 frm] 2)).alloc (Obj.cells #[Value.int IntKind.i64 home] 2)).drew
       exact key (w.heap.size + 1 + 1) (w.heap.size + 1) _ ((HomeAt.new2 w _ home frm).below (Below.refl _ _).drew)))

end Go.Proofs.Ytfcplmageokdiae
