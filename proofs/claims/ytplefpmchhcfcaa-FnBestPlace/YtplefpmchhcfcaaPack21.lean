import Derived.Test.YtplefpmchhcfcaaPack0
import Derived.Test.YtplefpmchhcfcaaPack2
import Derived.Test.YtplefpmchhcfcaaSpecSched
import Derived.Test.YtplefpmchhcfcaaPack17
import Derived.Test.YtplefpmchhcfcaaTakeOut
namespace Go.Proofs.Ytplefpmchhcfcaa
open Go.RowKit

/-- A case, a route and the route that is answered, in their boxes. -/
def CRR (w W : World) (cs rs ts : Array Value) : Prop := CR w W cs rs ∧ W.heap[w.heap.size + 2]? = some (.cells ts 32 (0, 0))
theorem CRR.new (w : World) (cs rs ts : Array Value) : CRR w (((w.alloc (.cells cs 30)).alloc (.cells rs 32)).alloc (.cells ts 32)) cs rs ts :=
  ⟨(CR.new w cs rs).alloc _, by have := heap_alloc_new ((w.alloc (.cells cs 30)).alloc (.cells rs 32)) (.cells ts 32); simpa using this⟩
theorem CRR.below {w W W' : World} {cs rs ts : Array Value} (h : CRR w W cs rs ts) (hb : Below W.heap.size W W') : CRR w W' cs rs ts :=
  ⟨h.1.below hb, below_row hb (row_lt h.2) h.2⟩
theorem CRR.b {w W : World} {cs rs ts : Array Value} (h : CRR w W cs rs ts) : Below w.heap.size w W := h.1.1
theorem CRR.alloc {w W : World} {cs rs ts : Array Value} (h : CRR w W cs rs ts) (o : Obj) : CRR w (W.alloc o) cs rs ts := h.below ((Below.refl _ _).alloc (Nat.le_refl _) _)
theorem CRR.big {w W : World} {cs rs ts : Array Value} (h : CRR w W cs rs ts) : w.heap.size + 2 < W.heap.size := row_lt h.2

theorem CRR.set {w W : World} {cs rs ts : Array Value} (h : CRR w W cs rs ts) (u1 u2 : Value) : CR w ((W.setCell ⟨w.heap.size + 1 + 1, 0, none⟩ u1).setCell ⟨w.heap.size + 1 + 1, 1, none⟩ u2) cs rs := (h.1.set (by omega)).set (by omega)
theorem cr7 {w W : World} {c0 c1 c2 c3 c4 r0 r1 : Value} (h : CR w W #[c0, c1, c2, c3, c4] #[r0, r1]) :
    W.cell? ⟨w.heap.size, 0, none⟩ = some c0 ∧ W.cell? ⟨w.heap.size, 1, none⟩ = some c1 ∧ W.cell? ⟨w.heap.size, 2, none⟩ = some c2 ∧ W.cell? ⟨w.heap.size, 3, none⟩ = some c3 ∧ W.cell? ⟨w.heap.size, 4, none⟩ = some c4 ∧ W.cell? ⟨w.heap.size + 1, 0, none⟩ = some r0 ∧ W.cell? ⟨w.heap.size + 1, 1, none⟩ = some r1 := by
  obtain ⟨k0, k1, k2, k3, k4⟩ := cells5 h.2.1
  obtain ⟨k5, k6⟩ := cells2 h.2.2
  exact ⟨k0, k1, k2, k3, k4, k5, k6⟩

/-- The answer of a change: a route that owns its stops, how much more, whether. -/
def ChgOk (w : World) (ch : Bool) (veh D : Int) (xs : List Int) (e : Ending) (w' : World) : Prop :=
  Below w.heap.size w w' ∧ ∃ ad c, e = .returned (.tuple #[.agg #[.int .i64 (chI ch veh), .slice ad xs.length c], .int .i64 D, .bool ch]) ∧ w'.ownsRow w.heap.size 2 1 (.slice ad xs.length c) xs.length (xs.map (Value.int .i64))
theorem owns_set2 {w : World} {base k b : Nat} {v u1 u2 : Value} {e : TypeId} {size : Nat} {xs : List Value} (h : w.ownsRow base e size v k xs) (hb : b < base) : ((w.setCell ⟨b, 0, none⟩ u1).setCell ⟨b, 1, none⟩ u2).ownsRow base e size v k xs := ownsRow_setCell_below (ownsRow_setCell_below h hb u1) hb u2

end Go.Proofs.Ytplefpmchhcfcaa

namespace Go.Proofs.Ytplefpmchhcfcaa
open Go.RowKit

/-- The best place so far: whether there is one, which, how much more it costs. -/
structure PS where
  f : Bool
  i : Nat
  v : Int
def ps0 : PS := ⟨false, 0, 0⟩
def pstep (ok : Nat → Bool) (dl : Nat → Int) (s : PS) (k : Nat) : PS := if ok k = true ∧ (s.f = false ∨ dl k < s.v) then ⟨true, k, dl k⟩ else s
def pst (ok : Nat → Bool) (dl : Nat → Int) : Nat → PS
  | 0 => ps0
  | k + 1 => pstep ok dl (pst ok dl k) k
theorem pst_succ (ok : Nat → Bool) (dl : Nat → Int) (k : Nat) : pst ok dl (k + 1) = pstep ok dl (pst ok dl k) k := rfl
theorem pstep_new {ok : Nat → Bool} {dl : Nat → Int} {s : PS} {k : Nat} (h1 : ok k = true) (h2 : s.f = false) : pstep ok dl s k = ⟨true, k, dl k⟩ := if_pos ⟨h1, .inl h2⟩
theorem pstep_yes {ok : Nat → Bool} {dl : Nat → Int} {s : PS} {k : Nat} (h1 : ok k = true) (h2 : dl k < s.v) : pstep ok dl s k = ⟨true, k, dl k⟩ := if_pos ⟨h1, .inr h2⟩
theorem pstep_no1 {ok : Nat → Bool} {dl : Nat → Int} {s : PS} {k : Nat} (h1 : ok k = false) : pstep ok dl s k = s := if_neg fun h => by have := h.1; rw [h1] at this; cases this
theorem pstep_no2 {ok : Nat → Bool} {dl : Nat → Int} {s : PS} {k : Nat} (h1 : s.f = true) (h2 : ¬ dl k < s.v) : pstep ok dl s k = s := if_neg fun h => by
  rcases h.2 with h | h
  · rw [h1] at h; cases h
  · exact h2 h
theorem pst_none {ok : Nat → Bool} {dl : Nat → Int} (h : ∀ k, ok k = false) : ∀ m, pst ok dl m = ps0
  | 0 => rfl
  | m + 1 => by rw [pst_succ, pst_none h m, pstep_no1 (h m)]
/-- The places of a route: whether the order can be put there, and how much more it costs. -/
def plB (c : Bool) (n : Int) (zs os vs : List Int) (ko kv : Nat) (veh : Int) (ids : List Int) (id : Int) (k : Nat) : Bool := chB c n zs os vs ko kv veh ids (inB (k : Int) 0 (ids.length : Int)) (insL ids k id)
def plD (c : Bool) (n : Int) (zs os vs : List Int) (ko kv : Nat) (veh : Int) (ids : List Int) (id : Int) (k : Nat) : Int := chD (plB c n zs os vs ko kv veh ids id k) n zs os vs ko kv veh ids (insL ids k id)
def bpV (c : Bool) (n : Int) (zs os vs : List Int) (ko kv : Nat) (veh : Int) (ids : List Int) (id : Int) : PS := pst (plB c n zs os vs ko kv veh ids id) (plD c n zs os vs ko kv veh ids id) (ids.length + 1)
theorem plB_no {c : Bool} {n : Int} {zs os vs : List Int} {ko kv : Nat} {veh : Int} {ids : List Int} {id : Int} (h : codeV c n zs os vs ko kv veh ids ≠ 0) (k : Nat) : plB c n zs os vs ko kv veh ids id k = false := chB_no1 h _ _
/-- 0, 1, .. -/
def rngL (k : Nat) : List Int := (List.range k).map (fun i : Nat => (i : Int))
theorem rngL_length (k : Nat) : (rngL k).length = k := by simp [rngL]
theorem rngL_succ (k : Nat) : rngL (k + 1) = rngL k ++ [(k : Int)] := by simp [rngL, List.range_succ]
theorem rngL_at {m k : Nat} (h : k < m) : (rngL m).getD k 0 = (k : Int) := by simp [rngL, List.getD, h]

end Go.Proofs.Ytplefpmchhcfcaa

namespace Go.Proofs.Ytplefpmchhcfcaa
open Go.RowKit

theorem ins_back {ids : List Int} {i : Nat} (id : Int) (hi : i ≤ ids.length) : remL (insL ids i id) i = ids := by
  have hl : (ids.take i).length = i := by simp; omega
  have h1 : (insL ids i id).take i = ids.take i := by
    unfold insL
    rw [List.take_append_of_le_length (by omega), List.take_take, Nat.min_self]
  have h2 : (insL ids i id).drop (i + 1) = ids.drop i := by
    have e : insL ids i id = (ids.take i ++ [id]) ++ ids.drop i := by simp [insL]
    rw [e]
    have hl2 : (ids.take i ++ [id]).length = i + 1 := by simp; omega
    rw [List.drop_append_of_le_length (by omega), List.drop_eq_nil_of_le (by omega), List.nil_append]
  unfold remL
  rw [h1, h2, List.take_append_drop]
theorem insL_own {ids : List Int} {i : Nat} (id : Int) (hi : i ≤ ids.length) : (insL ids i id).getD i 0 = id := by
  have hl : (ids.take i).length = i := by simp; omega
  unfold insL
  rw [List.getD_eq_getElem?_getD, List.getElem?_append_right (by omega), hl, Nat.sub_self]
  simp
/-- What is put in can be taken out again, at the cost that is told. -/
theorem put_back {n : Int} {zs os vs : List Int} {ko kv : Nat} {veh : Int} {ids : List Int} {i : Nat} {id : Int} {ok : Bool} (hi : i ≤ ids.length) (h : chB true n zs os vs ko kv veh ids ok (insL ids i id) = true) :
    chB true n zs os vs ko kv veh (insL ids i id) (inB (i : Int) 0 (((insL ids i id).length : Int) - 1)) (remL (insL ids i id) i) = true ∧ chD true n zs os vs ko kv veh (insL ids i id) (remL (insL ids i id) i) = - chD true n zs os vs ko kv veh ids (insL ids i id) ∧ chL true (remL (insL ids i id) i) = ids := by
  obtain ⟨h1, h2, h3⟩ := chB_true h
  rw [ins_back id hi]
  refine ⟨chB_yes h3 ?_ h1, ?_, rfl⟩
  · rw [insL_length id hi]
    unfold inB
    simp
    omega
  · unfold chD
    rw [if_pos rfl, if_pos rfl]
    omega
/-- The best place is one that can be, at the cost that is told; the first of the least. -/
theorem pst_made {ok : Nat → Bool} {dl : Nat → Int} : ∀ m, (pst ok dl m).f = true → ok (pst ok dl m).i = true ∧ dl (pst ok dl m).i = (pst ok dl m).v ∧ (pst ok dl m).i < m
  | 0 => fun h => by cases h
  | m + 1 => fun h => by
    rw [pst_succ] at h ⊢
    unfold pstep at h ⊢
    split
    · rename_i hc
      exact ⟨hc.1, rfl, Nat.lt_succ_self m⟩
    · rename_i hc
      rw [if_neg hc] at h
      obtain ⟨h1, h2, h3⟩ := pst_made m h
      exact ⟨h1, h2, by omega⟩
theorem pst_zero {ok : Nat → Bool} {dl : Nat → Int} : ∀ m, (pst ok dl m).f = false → pst ok dl m = ps0
  | 0 => fun _ => rfl
  | m + 1 => fun h => by
    rw [pst_succ] at h ⊢
    unfold pstep at h ⊢
    split
    · rename_i hc
      rw [if_pos hc] at h
      cases h
    · rename_i hc
      rw [if_neg hc] at h
      exact pst_zero m h
theorem pst_least {ok : Nat → Bool} {dl : Nat → Int} : ∀ m k, k < m → ok k = true → (pst ok dl m).f = true ∧ ((pst ok dl m).v < dl k ∨ ((pst ok dl m).v = dl k ∧ (pst ok dl m).i ≤ k))
  | 0, k, h, _ => by omega
  | m + 1, k, h, hk => by
    rw [pst_succ]
    unfold pstep
    by_cases e : k = m
    · subst e
      split
      · exact ⟨rfl, .inr ⟨rfl, Nat.le_refl _⟩⟩
      · rename_i hc
        have hf : (pst ok dl k).f = true := by
          cases hf : (pst ok dl k).f
          · exact absurd ⟨hk, .inl hf⟩ hc
          · rfl
        have hv : ¬ dl k < (pst ok dl k).v := fun x => hc ⟨hk, .inr x⟩
        have hi := (pst_made k hf).2.2
        exact ⟨hf, by omega⟩
    · obtain ⟨h1, h2⟩ := pst_least (ok := ok) (dl := dl) m k (by omega) hk
      split
      · rename_i hc
        have hv : dl m < (pst ok dl m).v := by
          rcases hc.2 with x | x
          · rw [h1] at x; cases x
          · exact x
        exact ⟨rfl, .inl (by show dl m < _; omega)⟩
      · exact ⟨h1, h2⟩
/-- Whether some of the first places is one. -/
def anyB (ok : Nat → Bool) : Nat → Bool
  | 0 => false
  | k + 1 => anyB ok k || ok k
theorem anyB_pst {ok : Nat → Bool} {dl : Nat → Int} : ∀ m, anyB ok m = (pst ok dl m).f
  | 0 => rfl
  | m + 1 => by
    rw [pst_succ]
    simp only [anyB]
    rw [anyB_pst (dl := dl) m]
    unfold pstep
    cases h : (pst ok dl m).f <;> cases h2 : ok m <;> simp_all
    split <;> simp_all

end Go.Proofs.Ytplefpmchhcfcaa

namespace Go.Proofs.Ytplefpmchhcfcaa
open Go.RowKit

set_option maxHeartbeats 2000000 in
theorem changed_put (n fine veh : Int) (a ao av bi : Option Addr) (cap ko co kv cv c2 : Nat) (zs os vs ids : List Int) (w : World) (hA : IntsAt w a zs) (hO : IntsAt w ao os) (hV : IntsAt w av vs) (hI : IntsAt w bi ids) (hlo : os.length = ko * 6) (hlv : vs.length = kv * 5) (hko : ko ≤ 9223372036854775807) (hkv : kv ≤ 9223372036854775807) (hli : ids.length ≤ 9223372036854775807) (hc2 : ids.length ≤ c2) (hcB : caseB n zs os vs ko kv fine = true) (p q : Nat) (ok : Bool) (ids' : List Int)
    (hhow : ∀ W, Below w.heap.size w W → ids.length ≤ 12 → Calls Try.prog 60 #[.slice bi ids.length c2, .pointer (some ⟨p, 0, none⟩), .pointer (some ⟨q, 0, none⟩)] W (HowOk W ok ids')) (ch : Bool) (hch : chB true n zs os vs ko kv veh ids ok ids' = ch) (D : Int) (hD : chD ch n zs os vs ko kv veh ids ids' = D) (xs : List Int) (hxs : chL ch ids' = xs) :
    Calls Try.prog 44 #[.agg #[.int .i64 n, .slice a zs.length cap, .slice ao ko co, .slice av kv cv, .int .i64 fine], .agg #[.int .i64 veh, .slice bi ids.length c2], .func (.func 60) #[] #[.pointer (some ⟨p, 0, none⟩), .pointer (some ⟨q, 0, none⟩)]] w (ChgOk w ch veh D xs) := by
  have HA : Hid (IntsAt w a zs) := hA
  have HO : Hid (IntsAt w ao os) := hO
  have HV : Hid (IntsAt w av vs) := hV
  have HI : Hid (IntsAt w bi ids) := hI
  have HLO : Hid _ := hlo
  have HLV : Hid _ := hlv
  clear hA hO hV hI hlo hlv
  have HC : Hid (caseB n zs os vs ko kv fine = true) := hcB
  have HCh : Hid (chB true n zs os vs ko kv veh ids ok ids' = ch) := hch
  have HD : Hid (chD ch n zs os vs ko kv veh ids ids' = D) := hD
  have HXs : Hid (chL ch ids' = xs) := hxs
  have HW : Hid (∀ W, Below w.heap.size w W → ids.length ≤ 12 → Calls Try.prog 60 #[.slice bi ids.length c2, .pointer (some ⟨p, 0, none⟩), .pointer (some ⟨q, 0, none⟩)] W (HowOk W ok ids')) := hhow
  clear hcB hch hD hxs hhow
  have C0 : Hid (CRR w (((w.alloc (.cells #[Value.int IntKind.i64 n, Value.slice a zs.length cap, Value.slice ao ko co, Value.slice av kv cv, Value.int IntKind.i64 fine] 30)).alloc (.cells #[Value.int IntKind.i64 veh, Value.slice bi ids.length c2] 32)).alloc (.cells #[Value.int IntKind.i64 0, Value.slice none 0 0] 32)) _ _ _) := CRR.new w _ _ _
  obtain ⟨o1, HO1⟩ : ∃ t, Hid (decide (codeV true n zs os vs ko kv veh ids = 0) = t) := ⟨_, rfl⟩
  obtain ⟨q1, HQ1⟩ : ∃ t, Hid (rcV n zs os vs ko kv veh ids = t) := ⟨_, rfl⟩
  obtain ⟨o2, HO2⟩ : ∃ t, Hid (decide (codeV true n zs os vs ko kv veh ids' = 0) = t) := ⟨_, rfl⟩
  obtain ⟨q2, HQ2⟩ : ∃ t, Hid (rcV n zs os vs ko kv veh ids' = t) := ⟨_, rfl⟩
  have hq1 := rcV_bd (caseB_parts HC.out).1 os vs ko kv veh ids
  have hq2 := rcV_bd (caseB_parts HC.out).1 os vs ko kv veh ids'
  rw [HQ1.out] at hq1
  rw [HQ2.out] at hq2
  go_enter Try.func44, Try.ntmps44
  obtain ⟨c0, c1, c2', c3, c4⟩ := cells5 C0.out.1.2.1
  obtain ⟨d0, d1⟩ := cells2 C0.out.1.2.2
  go_wp2_with fail
  clear c0 c1 c2' c3 c4 d0 d1
  refine (routeCost_any n fine veh a ao av bi cap ko co kv cv c2 zs os vs ids _ (HA.out.below C0.out.b) (HO.out.below C0.out.b) (HV.out.below C0.out.b) (HI.out.below C0.out.b) HLO.out HLV.out hko hkv hli hc2 HC.out o1 HO1.out q1 HQ1.out).mono ?_
  rintro e w1 ⟨rfl, hb⟩
  have C1 : Hid (CRR w w1 _ _ _) := C0.out.below hb
  clear hb C0
  cases o1
  · have HCH : Hid (ch = false) := HCh.out.symm.trans (chB_no1 (of_decide_eq_false HO1.out) _ _)
    have HX : Hid (xs = []) := HXs.out.symm.trans (by rw [HCH.out]; rfl)
    have HDD : Hid (D = 0) := HD.out.symm.trans (by rw [HCH.out]; rfl)
    obtain ⟨t0, t1⟩ := cells2 C1.out.2
    have tf := fun i => frozen_of_row _ _ i _ _ C1.out.2
    go_wp2
    refine bodyPost_ret (v := .tuple #[.agg #[Value.int IntKind.i64 0, Value.slice none 0 0], .int .i64 0, .bool false]) (by simp [results, Try.results44, go_sem, t0, t1]) rfl ⟨?_, none, 0, ?_, ?_⟩
    · repeat (first | with_reducible exact C1.out.b | refine Below.setCell ?_ (by simp <;> omega) _)
    · rw [HCH.out, HDD.out, HX.out]; rfl
    · rw [HX.out]; exact World.ownsRow_nil _ _ _ _
  · have hz1 : codeV true n zs os vs ko kv veh ids = 0 := of_decide_eq_true HO1.out
    have HZ1 : Hid (codeV true n zs os vs ko kv veh ids = 0) := hz1
    clear hz1
    have h12 := code12 HZ1.out
    obtain ⟨d0, d1⟩ := cells2 C1.out.1.2.2
    go_wp2_with fail
    clear d0 d1
    refine (HW.out w1 C1.out.b h12).mono ?_
    rintro e w2 ⟨hb, ⟨rfl, rfl⟩ | ⟨rfl, g, cg, rfl, ho⟩⟩
    · have C2 : Hid (CRR w w2 _ _ _) := C1.out.below hb
      clear hb C1
      have HCH : Hid (ch = false) := HCh.out.symm.trans (chB_no2 rfl _)
      have HX : Hid (xs = []) := HXs.out.symm.trans (by rw [HCH.out]; rfl)
      have HDD : Hid (D = 0) := HD.out.symm.trans (by rw [HCH.out]; rfl)
      obtain ⟨t0, t1⟩ := cells2 C2.out.2
      have tf := fun i => frozen_of_row _ _ i _ _ C2.out.2
      go_wp2
      refine bodyPost_ret (v := .tuple #[.agg #[Value.int IntKind.i64 0, Value.slice none 0 0], .int .i64 0, .bool false]) (by simp [results, Try.results44, go_sem, t0, t1]) rfl ⟨?_, none, 0, ?_, ?_⟩
      · repeat (first | with_reducible exact C2.out.b | refine Below.setCell ?_ (by simp <;> omega) _)
      · rw [HCH.out, HDD.out, HX.out]; rfl
      · rw [HX.out]; exact World.ownsRow_nil _ _ _ _
    · have C2 : Hid (CRR w w2 _ _ _) := C1.out.below hb
      have LG : Hid (w.heap.size + 2 < w1.heap.size) := C1.out.big
      have O2 : Hid (w2.ownsRow w1.heap.size 2 1 _ ids'.length _) := ho
      obtain ⟨_, _, e1, hlg, _, hcg, _, _⟩ := Go.Lib.holds_of_ownsRow (enc := Value.int .i64) ho (by simp)
      simp at e1
      obtain ⟨rfl, rfl⟩ := e1
      have HG : Hid (w1.heap.size ≤ g) := hlg
      have hli' : ids'.length ≤ 9223372036854775807 := by
        have := (Go.Lib.holds_of_ownsRow (enc := Value.int .i64) ho (by simp))
        obtain ⟨_, _, e1, _, _, h1, h2, _⟩ := this
        simp at e1
        obtain ⟨rfl, rfl⟩ := e1
        unfold maxLen at h2
        omega
      clear hb ho C1 hlg
      have C3 : Hid (CRR w (w2.alloc (Obj.cells #[Value.int IntKind.i64 veh, Value.slice (some ⟨g, 0, none⟩) ids'.length cg] 32)) _ _ _) := C2.out.alloc _
      have N3 : Hid ((w2.alloc (Obj.cells #[Value.int IntKind.i64 veh, Value.slice (some ⟨g, 0, none⟩) ids'.length cg] 32)).heap[w2.heap.size]? = _) := heap_alloc_new _ _
      have O3 : Hid ((w2.alloc (Obj.cells #[Value.int IntKind.i64 veh, Value.slice (some ⟨g, 0, none⟩) ids'.length cg] 32)).ownsRow w1.heap.size 2 1 _ ids'.length _) := O2.out.alloc _
      obtain ⟨d0, d1⟩ := cells2 C2.out.1.2.2
      obtain ⟨c0, c1, c2', c3, c4⟩ := cells5 C3.out.1.2.1
      obtain ⟨n0, n1⟩ := cells2 N3.out
      clear O2
      go_wp2_with fail
      clear d0 d1 c0 c1 c2' c3 c4 n0 n1
      refine (routeCost_any n fine veh a ao av (some ⟨g, 0, none⟩) cap ko co kv cv cg zs os vs ids' _ (HA.out.below C3.out.b) (HO.out.below C3.out.b) (HV.out.below C3.out.b) (owns_ints O3.out) HLO.out HLV.out hko hkv hli' hcg HC.out o2 HO2.out q2 HQ2.out).mono ?_
      rintro e w3 ⟨rfl, hb⟩
      have C4 : Hid (CRR w w3 _ _ _) := C3.out.below hb
      have N4 : Hid (w3.heap[w2.heap.size]? = _) := below_row hb (row_lt N3.out) N3.out
      have O4 : Hid (w3.ownsRow w1.heap.size 2 1 _ ids'.length _) := owns_below O3.out hb
      clear hb C2 C3 N3 O3
      cases o2
      · have HCH : Hid (ch = false) := HCh.out.symm.trans (chB_no3 _ (of_decide_eq_false HO2.out))
        have HX : Hid (xs = []) := HXs.out.symm.trans (by rw [HCH.out]; rfl)
        have HDD : Hid (D = 0) := HD.out.symm.trans (by rw [HCH.out]; rfl)
        obtain ⟨t0, t1⟩ := cells2 C4.out.2
        have tf := fun i => frozen_of_row _ _ i _ _ C4.out.2
        go_wp2
        refine bodyPost_ret (v := .tuple #[.agg #[Value.int IntKind.i64 0, Value.slice none 0 0], .int .i64 0, .bool false]) (by simp [results, Try.results44, go_sem, t0, t1]) rfl ⟨?_, none, 0, ?_, ?_⟩
        · repeat (first | with_reducible exact C4.out.b | refine Below.setCell ?_ (by simp <;> omega) _)
        · rw [HCH.out, HDD.out, HX.out]; rfl
        · rw [HX.out]; exact World.ownsRow_nil _ _ _ _
      · have HCH : Hid (ch = true) := HCh.out.symm.trans (chB_yes HZ1.out rfl (of_decide_eq_true HO2.out))
        have HX : Hid (xs = ids') := HXs.out.symm.trans (by rw [HCH.out]; rfl)
        have HDD : Hid (D = q2 - q1) := HD.out.symm.trans (by rw [HCH.out, ← HQ1.out, ← HQ2.out]; rfl)
        obtain ⟨t0, t1⟩ := cells2 C4.out.2
        obtain ⟨n0, n1⟩ := cells2 N4.out
        have tf := fun i => frozen_of_row _ _ i _ _ C4.out.2
        go_wp2
        refine bodyPost_ret (v := .tuple #[.agg #[.int .i64 veh, .slice (some ⟨g, 0, none⟩) ids'.length cg], .int .i64 (q2 - q1), .bool true]) (by simp [results, Try.results44, go_sem, t0, t1]) rfl ⟨?_, some ⟨g, 0, none⟩, cg, ?_, ?_⟩
        · repeat (first | with_reducible exact C4.out.b | refine Below.setCell ?_ (by simp <;> omega) _)
        · rw [HCH.out, HDD.out, HX.out]; rfl
        · rw [HX.out]; exact owns_base (owns_set (owns_set O4.out LG.out) LG.out) (by have := LG.out; omega)

set_option maxHeartbeats 2000000 in
theorem checked_put (n fine veh : Int) (a ao av bi : Option Addr) (cap ko co kv cv c2 : Nat) (zs os vs ids : List Int) (w : World) (hA : IntsAt w a zs) (hO : IntsAt w ao os) (hV : IntsAt w av vs) (hI : IntsAt w bi ids) (hlo : os.length = ko * 6) (hlv : vs.length = kv * 5) (hko : ko ≤ 9223372036854775807) (hkv : kv ≤ 9223372036854775807) (hli : ids.length ≤ 9223372036854775807) (hc2 : ids.length ≤ c2) (p q : Nat) (ok : Bool) (ids' : List Int)
    (hhow : ∀ W, Below w.heap.size w W → ids.length ≤ 12 → Calls Try.prog 60 #[.slice bi ids.length c2, .pointer (some ⟨p, 0, none⟩), .pointer (some ⟨q, 0, none⟩)] W (HowOk W ok ids')) (ch : Bool) (hch : chB (caseB n zs os vs ko kv fine) n zs os vs ko kv veh ids ok ids' = ch) (D : Int) (hD : chD ch n zs os vs ko kv veh ids ids' = D) (xs : List Int) (hxs : chL ch ids' = xs) :
    Calls Try.prog 32 #[.agg #[.int .i64 n, .slice a zs.length cap, .slice ao ko co, .slice av kv cv, .int .i64 fine], .agg #[.int .i64 veh, .slice bi ids.length c2], .func (.func 60) #[] #[.pointer (some ⟨p, 0, none⟩), .pointer (some ⟨q, 0, none⟩)]] w (ChgOk w ch veh D xs) := by
  have HA : Hid (IntsAt w a zs) := hA
  have HO : Hid (IntsAt w ao os) := hO
  have HV : Hid (IntsAt w av vs) := hV
  have HI : Hid (IntsAt w bi ids) := hI
  have HLO : Hid _ := hlo
  have HLV : Hid _ := hlv
  clear hA hO hV hI hlo hlv
  have HCh : Hid (chB (caseB n zs os vs ko kv fine) n zs os vs ko kv veh ids ok ids' = ch) := hch
  have HD : Hid (chD ch n zs os vs ko kv veh ids ids' = D) := hD
  have HXs : Hid (chL ch ids' = xs) := hxs
  have HW : Hid (∀ W, Below w.heap.size w W → ids.length ≤ 12 → Calls Try.prog 60 #[.slice bi ids.length c2, .pointer (some ⟨p, 0, none⟩), .pointer (some ⟨q, 0, none⟩)] W (HowOk W ok ids')) := hhow
  clear hch hD hxs hhow
  have C0 : Hid (CRR w (((w.alloc (.cells #[Value.int IntKind.i64 n, Value.slice a zs.length cap, Value.slice ao ko co, Value.slice av kv cv, Value.int IntKind.i64 fine] 30)).alloc (.cells #[Value.int IntKind.i64 veh, Value.slice bi ids.length c2] 32)).alloc (.cells #[Value.int IntKind.i64 0, Value.slice none 0 0] 32)) _ _ _) := CRR.new w _ _ _
  go_enter Try.func32, Try.ntmps32
  obtain ⟨c0, c1, c2', c3, c4⟩ := cells5 C0.out.1.2.1
  go_wp2_with fail
  clear c0 c1 c2' c3 c4
  refine (implCase_any n fine a ao av cap ko co kv cv zs os vs _ (HA.out.below C0.out.b) (HO.out.below C0.out.b) (HV.out.below C0.out.b) HLO.out HLV.out hko hkv).mono ?_
  rintro e w1 ⟨rfl, hb⟩
  have C1 : Hid (CRR w w1 _ _ _) := C0.out.below hb
  clear hb C0
  cases hc : caseB n zs os vs ko kv fine
  · have hfv : formV (caseB n zs os vs ko kv fine) vs os kv ko veh ids = 1 := formV_1 hc
    have HCH : Hid (ch = false) := HCh.out.symm.trans (chB_no1 (by rw [codeV_form (by rw [hfv]; decide), hfv]; decide) _ _)
    have HX : Hid (xs = []) := HXs.out.symm.trans (by rw [HCH.out]; rfl)
    have HDD : Hid (D = 0) := HD.out.symm.trans (by rw [HCH.out]; rfl)
    clear hfv hc
    obtain ⟨t0, t1⟩ := cells2 C1.out.2
    have tf := fun i => frozen_of_row _ _ i _ _ C1.out.2
    go_wp2
    refine bodyPost_ret (v := .tuple #[.agg #[Value.int IntKind.i64 0, Value.slice none 0 0], .int .i64 0, .bool false]) (by simp [results, Try.results32, go_sem, t0, t1]) rfl ⟨?_, none, 0, ?_, ?_⟩
    · repeat (first | with_reducible exact C1.out.b | refine Below.setCell ?_ (by simp <;> omega) _)
    · rw [HCH.out, HDD.out, HX.out]; rfl
    · rw [HX.out]; exact World.ownsRow_nil _ _ _ _
  · have HC : Hid (caseB n zs os vs ko kv fine = true) := hc
    have HCh' : Hid (chB true n zs os vs ko kv veh ids ok ids' = ch) := by
      have := HCh.out
      rw [hc] at this
      exact this
    have LG : Hid (w.heap.size + 2 < w1.heap.size) := C1.out.big
    clear hc
    obtain ⟨c0, c1, c2', c3, c4⟩ := cells5 C1.out.1.2.1
    obtain ⟨d0, d1⟩ := cells2 C1.out.1.2.2
    go_wp2_with fail
    clear c0 c1 c2' c3 c4 d0 d1
    refine (changed_put n fine veh a ao av bi cap ko co kv cv c2 zs os vs ids _ (HA.out.below C1.out.b) (HO.out.below C1.out.b) (HV.out.below C1.out.b) (HI.out.below C1.out.b) HLO.out HLV.out hko hkv hli hc2 HC.out _ _ ok ids' (fun W hW => HW.out W (C1.out.b.trans (hW.mono C1.out.b.size))) ch HCh'.out D HD.out xs HXs.out).mono ?_
    rintro e w2 ⟨hb, ad, cg, rfl, ho⟩
    have C2 : Hid (CRR w w2 _ _ _) := C1.out.below hb
    have O2 : Hid (w2.ownsRow w1.heap.size 2 1 (.slice ad xs.length cg) xs.length _) := ho
    clear hb ho C1
    obtain ⟨vv, HVV⟩ : ∃ t, Hid (chI ch veh = t) := ⟨_, rfl⟩
    rw [HVV.out]
    obtain ⟨t0, t1⟩ := cells2 C2.out.2
    have tf := fun i => frozen_of_row _ _ i _ _ C2.out.2
    go_wp2
    refine bodyPost_ret (v := .tuple #[.agg #[.int .i64 vv, .slice ad xs.length cg], .int .i64 D, .bool ch]) (by simp [results, Try.results32, go_sem, t0, t1]) rfl ⟨?_, ad, cg, ?_, ?_⟩
    · repeat (first | with_reducible exact C2.out.b | refine Below.setCell ?_ (by simp <;> omega) _)
    · rw [HVV.out]
    · exact owns_base (owns_set (owns_set O2.out LG.out) LG.out) (by have := LG.out; omega)

end Go.Proofs.Ytplefpmchhcfcaa

namespace Go.Proofs.Ytplefpmchhcfcaa
open Go.RowKit

/-- The world inside placesFor: the route's box, the answer that grows. -/
def PW (w W : World) (rs : Array Value) (sl : Value) (k : Nat) (xs : List Value) : Prop := Below w.heap.size w W ∧ W.heap[w.heap.size]? = some (.cells rs 32 (0, 0)) ∧ W.ownsRow (w.heap.size + 1) 2 1 sl k xs
theorem PW.b {w W : World} {rs : Array Value} {sl : Value} {k : Nat} {xs : List Value} (h : PW w W rs sl k xs) : Below w.heap.size w W := h.1
theorem PW.o {w W : World} {rs : Array Value} {sl : Value} {k : Nat} {xs : List Value} (h : PW w W rs sl k xs) : W.ownsRow (w.heap.size + 1) 2 1 sl k xs := h.2.2
theorem PW.r {w W : World} {rs : Array Value} {sl : Value} {k : Nat} {xs : List Value} (h : PW w W rs sl k xs) : W.heap[w.heap.size]? = some (.cells rs 32 (0, 0)) := h.2.1
theorem PW.size {w W : World} {rs : Array Value} {sl : Value} {k : Nat} {xs : List Value} (h : PW w W rs sl k xs) : w.heap.size + 1 ≤ W.heap.size := row_lt h.2.1
theorem PW.grown {w W W' : World} {rs : Array Value} {sl sl' : Value} {k k' : Nat} {xs xs' : List Value} {o : Obj} (h : PW w W rs sl k xs) (hg : (W.alloc o).grownBy W' sl.ownBlock) (ho : W'.ownsRow (w.heap.size + 1) 2 1 sl' k' xs') : PW w W' rs sl' k' xs' := by
  have hA : Below w.heap.size w (W.alloc o) := h.1.alloc h.1.size _
  have hr : (W.alloc o).heap[w.heap.size]? = some (.cells rs 32 (0, 0)) := (heap_alloc_old _ _ (row_lt h.2.1)).trans h.2.1
  refine ⟨hA.grown hg hA.size (fun k e => by have := (h.o.lt k e).1; omega), ?_, ho⟩
  exact (hg.block _ (row_lt hr) (fun e => by have := (h.o.lt _ e.symm).1; omega)).trans hr
theorem rngL_map (k : Nat) : (rngL (k + 1)).map (Value.int .i64) = (rngL k).map (Value.int .i64) ++ [.int .i64 (k : Int)] := by rw [rngL_succ, List.map_append]; rfl

set_option maxHeartbeats 1000000 in
theorem placesFor_any (veh : Int) (bi : Option Addr) (c2 m : Nat) (w : World) (h12 : m ≤ 12) :
    Calls Try.prog 42 #[.agg #[.int .i64 veh, .slice bi m c2]] w fun e w' => ∃ g c, e = .returned (.slice (some ⟨g, 0, none⟩) (m + 1) c) ∧ Below w.heap.size w w' ∧ IntsAt w' (some ⟨g, 0, none⟩) (rngL (m + 1)) := by
  have R0 : Hid ((w.alloc (.cells #[Value.int IntKind.i64 veh, Value.slice bi m c2] 32)).heap[w.heap.size]? = some (.cells #[Value.int IntKind.i64 veh, Value.slice bi m c2] 32 (0, 0))) := heap_alloc_new _ _
  have hwr : IntKind.i64.wrap ((m : Int) + 1) = (m : Int) + 1 := IntWalk.i64_in _ (by omega)
  go_enter Try.func42, Try.ntmps42
  obtain ⟨d0, d1⟩ := cells2 R0.out
  go_wp2_with (first
    | (refine make_room _ rfl _ _ rfl (w.heap.size + 1) _ _ ((m : Int) + 1) (m + 1) rfl rfl (by omega) (by omega) (by simp) ?_
       intro w1 hown hg
       have O1 : Hid (PW w w1 #[Value.int IntKind.i64 veh, Value.slice bi m c2] (.slice (some ⟨(w.alloc (Obj.cells #[Value.int IntKind.i64 veh, Value.slice bi m c2] 32)).heap.size, 0, none⟩) 0 (m + 1)) 0 []) := ⟨((Below.refl w.heap.size w).alloc (Nat.le_refl _) _).grown hg (by simp) (fun k e => by cases e), (hg.block _ (by simp) (by simp)).trans (heap_alloc_new _ _), hown⟩
       clear hown hg d0 d1
       obtain ⟨d0, d1⟩ := cells2 O1.out.r))
  go_loopw [3, 14] (fun sl t wr => ∃ k : Nat, k ≤ m + 1 ∧ t = .int .i64 k ∧ PW w wr #[Value.int IntKind.i64 veh, Value.slice bi m c2] sl k ((rngL k).map (Value.int .i64)) ∧ sl ≠ .slice none 0 0) (fun _ t _ => m + 1 - (intOf t).toNat)
  case atStart => exact ⟨0, Nat.zero_le _, rfl, by simpa [rngL] using O1.out, by simp⟩
  case round =>
    clear O1 R0 d0 d1
    obtain ⟨k, hk, rfl, ho, hne⟩ := hrel
    have HO : Hid (PW w wr #[Value.int IntKind.i64 veh, Value.slice bi m c2] u3 k ((rngL k).map (Value.int .i64))) := ho
    clear ho
    by_cases hlt : k < m + 1
    · have hlt' : (k : Int) < (m : Int) + 1 := by omega
      have hwk : IntKind.i64.wrap ((k : Int) + 1) = ((k + 1 : Nat) : Int) := by rw [IntWalk.i64_in _ (by omega)]; omega
      have HNE : Hid (u3 ≠ .slice none 0 0) := hne
      clear hne
      go_wp2_with (first
        | (at_builtin
           refine append_int _ rfl _ _ rfl (w.heap.size + 1) u3 k _ rfl (HO.out.o.alloc _) _ _ (.int .i64 (k : Int)) rfl (cell_new1 _ _ _ _ (by simp)) rfl (by omega) (Nat.le_trans HO.out.size (by simp)) ?_
           intro v' w4 hown hg
           have NE4 : Hid (v' ≠ .slice none 0 0) := by
             intro e
             rw [e] at hown
             have hz := hown.2
             rcases hz with ⟨_, h0⟩ | ⟨_, _, _, e2, _⟩
             · simp at h0
             · cases e2
           have O4 : Hid (PW w w4 #[Value.int IntKind.i64 veh, Value.slice bi m c2] v' (k + 1) ((rngL (k + 1)).map (Value.int .i64))) := HO.out.grown hg (by rw [rngL_map]; exact hown)
           clear hown hg))
      go_roundw
      case rel => exact ⟨k + 1, by omega, by first | rfl | go_num, O4.out, NE4.out⟩
      case measure => simp [intOf]; omega
    · have hkn : k = m + 1 := by omega
      subst hkn
      have hlt' : ¬ ((m : Int) + 1 < (m : Int) + 1) := by omega
      obtain ⟨g, c, rfl⟩ : ∃ g c, u3 = .slice (some ⟨g, 0, none⟩) (m + 1) c := by
        rcases own_shape HO.out.o with h | h
        · exact absurd h hne
        · exact h
      clear hne
      go_wp2
      go_ret
      exact ⟨g, ⟨c, rfl⟩, HO.out.b, owns_ints HO.out.o⟩

end Go.Proofs.Ytplefpmchhcfcaa

namespace Go.Proofs.Ytplefpmchhcfcaa
open Go.RowKit

set_option maxHeartbeats 2000000 in
theorem leastPlace_any (b c pc pr pid m : Nat) (ok : Nat → Bool) (dl : Nat → Int) (w : World) (hI : IntsAt w (some ⟨b, 0, none⟩) (rngL m)) (hl : m ≤ 1000)
    (hcl : ∀ (W : World) (i : Nat), Below w.heap.size w W → Calls Try.prog 43 #[.int .i64 (i : Int), .pointer (some ⟨pc, 0, none⟩), .pointer (some ⟨pr, 0, none⟩), .pointer (some ⟨pid, 0, none⟩)] W fun e w' => e = .returned (.tuple #[.int .i64 (dl i), .bool (ok i)]) ∧ Below W.heap.size W w')
    (s0 : PS) (hs0 : pst ok dl m = s0) :
    Calls Try.prog 41 #[.slice (some ⟨b, 0, none⟩) m c, .func (.func 43) #[] #[.pointer (some ⟨pc, 0, none⟩), .pointer (some ⟨pr, 0, none⟩), .pointer (some ⟨pid, 0, none⟩)]] w fun e w' => e = .returned (.tuple #[.int .i64 (s0.i : Int), .int .i64 s0.v, .bool s0.f]) ∧ Below w.heap.size w w' := by
  have HI : Hid (IntsAt w (some ⟨b, 0, none⟩) (rngL m)) := hI
  have HC : Hid (∀ (W : World) (i : Nat), Below w.heap.size w W → Calls Try.prog 43 #[.int .i64 (i : Int), .pointer (some ⟨pc, 0, none⟩), .pointer (some ⟨pr, 0, none⟩), .pointer (some ⟨pid, 0, none⟩)] W fun e w' => e = .returned (.tuple #[.int .i64 (dl i), .bool (ok i)]) ∧ Below W.heap.size W w') := hcl
  have HS0 : Hid (pst ok dl m = s0) := hs0
  clear hI hcl hs0
  go_enter Try.func41, Try.ntmps41
  go_wp2_with fail
  go_loopw [7, 8, 9, 16] (fun tb tv tf t wr => ∃ k : Nat, k ≤ m ∧ t = .int .i64 k ∧ tb = .int .i64 ((pst ok dl k).i : Int) ∧ tv = .int .i64 (pst ok dl k).v ∧ tf = .bool (pst ok dl k).f ∧ Below w.heap.size w wr) (fun _ _ _ t _ => m - (intOf t).toNat)
  case atStart => exact ⟨0, Nat.zero_le _, rfl, rfl, rfl, rfl, Below.refl _ _⟩
  case round =>
    obtain ⟨k, hk, rfl, rfl, rfl, rfl, hL⟩ := hrel
    by_cases hlt : k < m
    · have f0 : wr.cell? ⟨b, 0 + k, none⟩ = some (.int .i64 (k : Int)) := ints_cell (HI.out.below hL) (by rw [rngL_length]; exact hlt) (rngL_at hlt)
      rw [Nat.zero_add] at f0
      have HN : Hid (pst ok dl (k + 1) = pstep ok dl (pst ok dl k) k) := rfl
      obtain ⟨s, HS⟩ : ∃ t, Hid (pst ok dl k = t) := ⟨_, rfl⟩
      rw [HS.out] at HN ⊢
      have L1 : Hid (Below w.heap.size w wr) := hL
      clear hL
      obtain ⟨sf, si, sv⟩ := s
      simp only at HN ⊢
      obtain ⟨D, HDD⟩ : ∃ t, Hid (dl k = t) := ⟨_, rfl⟩
      obtain ⟨o, HOO⟩ : ∃ t, Hid (ok k = t) := ⟨_, rfl⟩
      have hkl : (k : Int) < (m : Int) := by omega
      have hwk : IntKind.i64.wrap ((k : Int) + 1) = ((k + 1 : Nat) : Int) := by rw [IntWalk.i64_in _ (by omega)]; omega
      go_wp2_with fail
      clear f0
      refine (HC.out wr k L1.out).mono ?_
      rintro e w2 ⟨rfl, hb⟩
      rw [HDD.out, HOO.out]
      have L3 : Hid (Below w.heap.size w w2) := L1.out.trans (hb.mono L1.out.size)
      clear hb
      cases o
      · have HNS : Hid (pst ok dl (k + 1) = ⟨sf, si, sv⟩) := HN.out.trans (pstep_no1 HOO.out)
        go_wp2
        go_roundw
        case rel => exact ⟨k + 1, by omega, by first | rfl | go_num, by rw [HNS.out], by rw [HNS.out], by rw [HNS.out], L3.out⟩
        case measure => simp [intOf]; omega
      · cases sf
        · have HNS : Hid (pst ok dl (k + 1) = ⟨true, k, D⟩) := HN.out.trans (by rw [← HDD.out]; exact pstep_new HOO.out rfl)
          go_wp2
          go_roundw
          case rel => exact ⟨k + 1, by omega, by first | rfl | go_num, by rw [HNS.out], by rw [HNS.out], by rw [HNS.out], L3.out⟩
          case measure => simp [intOf]; omega
        · by_cases hdv : D < sv
          · have HNS : Hid (pst ok dl (k + 1) = ⟨true, k, D⟩) := HN.out.trans (by rw [← HDD.out]; exact pstep_yes HOO.out (by rw [HDD.out]; exact hdv))
            go_wp2
            go_roundw
            case rel => exact ⟨k + 1, by omega, by first | rfl | go_num, by rw [HNS.out], by rw [HNS.out], by rw [HNS.out], L3.out⟩
            case measure => simp [intOf]; omega
          · have HNS : Hid (pst ok dl (k + 1) = ⟨true, si, sv⟩) := HN.out.trans (pstep_no2 rfl (by rw [HDD.out]; exact hdv))
            go_wp2
            go_roundw
            case rel => exact ⟨k + 1, by omega, by first | rfl | go_num, by rw [HNS.out], by rw [HNS.out], by rw [HNS.out], L3.out⟩
            case measure => simp [intOf]; omega
    · have hke : k = m := by omega
      subst hke
      rw [HS0.out]
      have h3 : ¬ ((k : Int) < (k : Int)) := by omega
      go_wp2
      go_ret3
      exact ⟨rfl, hL⟩

end Go.Proofs.Ytplefpmchhcfcaa

namespace Go.Proofs.Ytplefpmchhcfcaa
open Go.RowKit

theorem CRR.grown {w W W' : World} {cs rs ts : Array Value} {row : Option Nat} (h : CRR w W cs rs ts) (hg : W.grownBy W' row) (hlt : ∀ g, row = some g → w.heap.size + 2 < g) : CRR w W' cs rs ts :=
  ⟨⟨h.1.1.grown hg h.1.1.size (fun k e => by have := hlt k e; omega), (hg.block _ (row_lt h.1.2.1) (fun e => by have := hlt _ e.symm; omega)).trans h.1.2.1, (hg.block _ (row_lt h.1.2.2) (fun e => by have := hlt _ e.symm; omega)).trans h.1.2.2⟩, (hg.block _ (row_lt h.2) (fun e => by have := hlt _ e.symm; omega)).trans h.2⟩
theorem CRR.put {w W : World} {cs rs ts : Array Value} (h : CRR w W cs rs ts) {k i : Nat} {v : Value} (hk : w.heap.size + 2 < k) : CRR w (W.setCell ⟨k, i, none⟩ v) cs rs ts :=
  ⟨h.1.set (by omega), row_set' h.2 (by omega)⟩
theorem CRR.drew {w W : World} {cs rs ts : Array Value} (h : CRR w W cs rs ts) : CRR w W.drew cs rs ts := h.below (Below.refl _ _).drew

/-- A case, a route, the answer's box, and the box at ko of a new route whose stops are of the call's own (blocks from B on). -/
def OX (w W : World) (B ko : Nat) (cs rs ts : Array Value) (veh : Int) (sl : Value) (ys : List Int) : Prop :=
  CRR w W cs rs ts ∧ W.heap[ko]? = some (.cells #[.int .i64 veh, sl] 32 (0, 0)) ∧ B ≤ ko ∧ w.heap.size + 2 < B ∧ W.ownsRow B 2 1 sl ys.length (ys.map (Value.int .i64))
theorem OX.c {w W : World} {B ko : Nat} {cs rs ts : Array Value} {veh : Int} {sl : Value} {ys : List Int} (h : OX w W B ko cs rs ts veh sl ys) : CRR w W cs rs ts := h.1
theorem OX.b {w W : World} {B ko : Nat} {cs rs ts : Array Value} {veh : Int} {sl : Value} {ys : List Int} (h : OX w W B ko cs rs ts veh sl ys) : Below w.heap.size w W := h.1.1.1
theorem OX.o {w W : World} {B ko : Nat} {cs rs ts : Array Value} {veh : Int} {sl : Value} {ys : List Int} (h : OX w W B ko cs rs ts veh sl ys) : W.ownsRow B 2 1 sl ys.length (ys.map (Value.int .i64)) := h.2.2.2.2
theorem OX.below {w W W' : World} {B ko : Nat} {cs rs ts : Array Value} {veh : Int} {sl : Value} {ys : List Int} (h : OX w W B ko cs rs ts veh sl ys) (hb : Below W.heap.size W W') : OX w W' B ko cs rs ts veh sl ys :=
  ⟨h.1.below hb, below_row hb (row_lt h.2.1) h.2.1, h.2.2.1, h.2.2.2.1, owns_below h.2.2.2.2 hb⟩
theorem OX.drew {w W : World} {B ko : Nat} {cs rs ts : Array Value} {veh : Int} {sl : Value} {ys : List Int} (h : OX w W B ko cs rs ts veh sl ys) : OX w W.drew B ko cs rs ts veh sl ys := h.below (Below.refl _ _).drew
theorem own_ne {w : World} {base k ko : Nat} {v : Value} {size : Nat} {xs : List Value} {cs : Array Value} (h : w.ownsRow base 2 size v k xs) (hk : w.heap[ko]? = some (.cells cs 32 (0, 0))) : v.ownBlock ≠ some ko := by
  intro e
  obtain ⟨_, ⟨rfl, _⟩ | ⟨g, cap, cur, rfl, _, h4, _⟩⟩ := h
  · cases e
  · have : g = ko := by simpa [Value.ownBlock] using e
    subst this
    rw [h4] at hk
    simp at hk
/-- The append, done. -/
theorem OX.grow {w W W' : World} {B ko : Nat} {cs rs ts : Array Value} {veh : Int} {sl sl' : Value} {ys ys' : List Int} (h : OX w W B ko cs rs ts veh sl ys) (hg : W.grownBy W' sl.ownBlock) (ho : W'.ownsRow B 2 1 sl' ys'.length (ys'.map (Value.int .i64))) :
    OX w ((W'.setCell ⟨ko, 1, none⟩ sl')) B ko cs rs ts veh sl' ys' := by
  have hk : W'.heap[ko]? = some (.cells #[.int .i64 veh, sl] 32 (0, 0)) := (hg.block _ (row_lt h.2.1) (fun e => own_ne h.2.2.2.2 h.2.1 e.symm)).trans h.2.1
  refine ⟨(h.1.grown hg (fun g e => ?_)).put ?_, ?_, h.2.2.1, h.2.2.2.1, ?_⟩
  · have := (h.2.2.2.2.lt g e).1; have := h.2.2.2.1; omega
  · have := h.2.2.1; have := h.2.2.2.1; omega
  · have := heap_setCell_same W' ko 1 _ _ sl' hk
    simpa using this
  · exact ownsRow_setCell_other ho (own_ne ho hk) sl'
theorem own0a (w1 : World) : ((w1.alloc (.cells #[] 2)).drew).ownsRow w1.heap.size 2 1 (.slice (some ⟨w1.heap.size, 0, none⟩) 0 0) 0 (([] : List Int).map (Value.int .i64)) :=
  owns_below (World.ownsRow_made w1 #[] 0 (Nat.le_refl _) (by unfold maxLen; omega) (by simp)) (Below.refl _ _).drew
theorem own0b (w1 : World) (o : Obj) : (((w1.alloc (.cells #[] 2)).alloc o).drew).ownsRow w1.heap.size 2 1 (.slice (some ⟨w1.heap.size, 0, none⟩) 0 0) 0 (([] : List Int).map (Value.int .i64)) :=
  owns_below (World.ownsRow_made w1 #[] 0 (Nat.le_refl _) (by unfold maxLen; omega) (by simp)) ((Below.refl _ _).alloc (Nat.le_refl _) _).drew
theorem own0c (w1 : World) (o : Obj) : (((w1.alloc o).alloc (.cells #[] 2)).drew).ownsRow w1.heap.size 2 1 (.slice (some ⟨w1.heap.size + 1, 0, none⟩) 0 0) 0 (([] : List Int).map (Value.int .i64)) := by
  have := owns_below (World.ownsRow_made (base := w1.heap.size) (e := 2) (size := 1) (w1.alloc o) #[] 0 (by simp) (by unfold maxLen; omega) (by simp)) (Below.refl _ _).drew
  simpa using this
theorem alloc_size (w1 : World) (o : Obj) : (w1.alloc o).heap.size = w1.heap.size + 1 := by simp
theorem OX.newa {w w1 w' : World} {cs rs ts : Array Value} {veh : Int} {sl : Value} {ys : List Int} {o : Obj} (h : CRR w w1 cs rs ts) (hg : ((w1.alloc o).drew).grownBy w' (some w1.heap.size)) (ho : w'.ownsRow w1.heap.size 2 1 sl ys.length (ys.map (Value.int .i64))) :
    OX w (w'.alloc (.cells #[.int .i64 veh, sl] 32)) w1.heap.size w'.heap.size cs rs ts veh sl ys :=
  ⟨(((h.alloc o).drew).grown hg (fun g e => by cases e; exact h.big)).alloc _, heap_alloc_new _ _, by have := hg.size; have e := alloc_size w1 o; have : (w1.alloc o).drew.heap.size = w1.heap.size + 1 := e; omega, h.big, ho.alloc _⟩
theorem OX.newb {w w1 w' : World} {cs rs ts : Array Value} {veh : Int} {sl z0 z1 : Value} {ys : List Int} {o : Obj} (h : CRR w w1 cs rs ts) (hg : (((w1.alloc o).alloc (.cells #[z0, z1] 32)).drew).grownBy w' (some w1.heap.size)) (ho : w'.ownsRow w1.heap.size 2 1 sl ys.length (ys.map (Value.int .i64))) :
    OX w ((w'.setCell ⟨w1.heap.size + 1, 0, none⟩ (.int .i64 veh)).setCell ⟨w1.heap.size + 1, 1, none⟩ sl) w1.heap.size (w1.heap.size + 1) cs rs ts veh sl ys := by
  have hk0 : (((w1.alloc o).alloc (.cells #[z0, z1] 32)).drew).heap[w1.heap.size + 1]? = some (.cells #[z0, z1] 32 (0, 0)) := by
    have := heap_alloc_new (w1.alloc o) (.cells #[z0, z1] 32)
    rw [alloc_size] at this
    exact this
  have hk : w'.heap[w1.heap.size + 1]? = some (.cells #[z0, z1] 32 (0, 0)) := (hg.block _ (row_lt hk0) (fun e => by simp at e)).trans hk0
  have hb := h.big
  have s1 := heap_setCell_same w' (w1.heap.size + 1) 0 _ _ (.int .i64 veh) hk
  have s2 := heap_setCell_same _ (w1.heap.size + 1) 1 _ _ sl s1
  refine ⟨((((h.alloc o).alloc _).drew.grown hg (fun g e => by cases e; exact hb)).put (by omega)).put (by omega), by simpa using s2, by omega, hb, ?_⟩
  exact ownsRow_setCell_other (ownsRow_setCell_other ho (own_ne ho hk) _) (own_ne ho hk) _
theorem OX.newc {w w1 w' : World} {cs rs ts : Array Value} {veh : Int} {sl z0 z1 : Value} {ys : List Int} {o : Obj} (h : CRR w w1 cs rs ts) (hg : (((w1.alloc (.cells #[z0, z1] 32)).alloc o).drew).grownBy w' (some (w1.heap.size + 1))) (ho : w'.ownsRow w1.heap.size 2 1 sl ys.length (ys.map (Value.int .i64))) :
    OX w ((w'.setCell ⟨w1.heap.size, 0, none⟩ (.int .i64 veh)).setCell ⟨w1.heap.size, 1, none⟩ sl) w1.heap.size w1.heap.size cs rs ts veh sl ys := by
  have hk0 : (((w1.alloc (.cells #[z0, z1] 32)).alloc o).drew).heap[w1.heap.size]? = some (.cells #[z0, z1] 32 (0, 0)) := heap_alloc2_old _ _ _
  have hk : w'.heap[w1.heap.size]? = some (.cells #[z0, z1] 32 (0, 0)) := (hg.block _ (row_lt hk0) (fun e => by simp at e)).trans hk0
  have hb := h.big
  have s1 := heap_setCell_same w' w1.heap.size 0 _ _ (.int .i64 veh) hk
  have s2 := heap_setCell_same _ w1.heap.size 1 _ _ sl s1
  refine ⟨((((h.alloc _).alloc o).drew.grown hg (fun g e => by cases e; omega)).put (by omega)).put (by omega), by simpa using s2, by omega, hb, ?_⟩
  exact ownsRow_setCell_other (ownsRow_setCell_other ho (own_ne ho hk) _) (own_ne ho hk) _

theorem rowb {w1 w2 : World} {o : Obj} {cs : Array Value} {T : TypeId} (hg : (((w1.alloc o).alloc (.cells cs T)).drew).grownBy w2 (some w1.heap.size)) : w2.heap[w1.heap.size + 1]? = some (.cells cs T (0, 0)) := by
  have hk0 : (((w1.alloc o).alloc (.cells cs T)).drew).heap[w1.heap.size + 1]? = some (.cells cs T (0, 0)) := by
    have := heap_alloc_new (w1.alloc o) (.cells cs T)
    rw [alloc_size] at this
    exact this
  exact (hg.block _ (row_lt hk0) (fun e => by simp at e)).trans hk0
theorem rowc {w1 w2 : World} {o : Obj} {cs : Array Value} {T : TypeId} (hg : (((w1.alloc (.cells cs T)).alloc o).drew).grownBy w2 (some (w1.heap.size + 1))) : w2.heap[w1.heap.size]? = some (.cells cs T (0, 0)) := by
  have hk0 : (((w1.alloc (.cells cs T)).alloc o).drew).heap[w1.heap.size]? = some (.cells cs T (0, 0)) := heap_alloc2_old _ _ _
  exact (hg.block _ (row_lt hk0) (fun e => by simp at e)).trans hk0
theorem own_len {w : World} {base n : Nat} {v : Value} {e : TypeId} {xs : List Int} (h : w.ownsRow base e 1 v (0 + n) (([] ++ xs).map (Value.int .i64))) (hl : xs.length = n) : w.ownsRow base e 1 v xs.length (xs.map (Value.int .i64)) := by
  rw [Nat.zero_add] at h
  rw [hl]
  exact h
theorem own_len2 {w : World} {base n m : Nat} {v : Value} {e : TypeId} {xs ys : List Int} (h : w.ownsRow base e 1 v (n + m) ((xs ++ ys).map (Value.int .i64))) (hx : xs.length = n) (hy : ys.length = m) : w.ownsRow base e 1 v (xs ++ ys).length ((xs ++ ys).map (Value.int .i64)) := by
  rw [List.length_append, hx, hy]
  exact h
theorem own_k {w : World} {base n : Nat} {v : Value} {e : TypeId} {xs : List Int} (h : w.ownsRow base e 1 v xs.length (xs.map (Value.int .i64))) (hl : xs.length = n) : w.ownsRow base e 1 v n (xs.map (Value.int .i64)) := by
  rw [← hl]
  exact h
theorem own_bd {w : World} {base k g c : Nat} {e : TypeId} {size : Nat} {xs : List Value} (h : w.ownsRow base e size (.slice (some ⟨g, 0, none⟩) k c) k xs) : k ≤ c ∧ k ≤ 9223372036854775807 := by
  obtain ⟨_, ⟨h1, _⟩ | ⟨g', cap, cur, h2, _, _, h5, h6, _⟩⟩ := h
  · cases h1
  · simp at h2
    obtain ⟨rfl, rfl⟩ := h2
    unfold maxLen at h6
    exact ⟨h5, by omega⟩
theorem rc_of {c : Bool} {n : Int} {zs os vs : List Int} {ko kv : Nat} {veh : Int} {ids : List Int} (h : codeV c n zs os vs ko kv veh ids = 0) : rcV n zs os vs ko kv veh ids = rideV n zs (rosOf os ko ids) ids.length (fnd5F vs kv veh 1) := by
  have hc := code_case h
  rw [hc] at h
  exact rcV_yes h
theorem chD_yes {ch c : Bool} {n : Int} {zs os vs : List Int} {ko kv : Nat} {veh : Int} {ids ids' : List Int} (h : ch = true) (h1 : codeV c n zs os vs ko kv veh ids = 0) (h2 : codeV c n zs os vs ko kv veh ids' = 0) :
    chD ch n zs os vs ko kv veh ids ids' = rideV n zs (rosOf os ko ids') ids'.length (fnd5F vs kv veh 1) - rideV n zs (rosOf os ko ids) ids.length (fnd5F vs kv veh 1) := by
  subst h
  unfold chD
  rw [if_pos rfl, rc_of h1, rc_of h2]
theorem keepB {w1 X : World} {b o : Nat} {v : Value} (hc : w1.cell? ⟨b, o, none⟩ = some v) (hb : Below w1.heap.size w1 X) : X.cell? ⟨b, o, none⟩ = some v := by
  rw [hb.cell (p := ⟨b, o, none⟩) (block_lt_of_cell hc)]; exact hc
theorem ints_take {W : World} {a : Option Addr} {ids : List Int} (h : IntsAt W a ids) (i : Nat) : IntsAt W a (ids.take i) := by
  intro j hj
  simp at hj
  obtain ⟨b, off, e, hc⟩ := h j (by omega)
  refine ⟨b, off, e, hc.trans ?_⟩
  simp only [List.getD, List.getElem?_take]
  rw [if_pos (by omega)]
theorem ints_drop {W : World} {b off : Nat} {ids : List Int} (h : IntsAt W (some ⟨b, off, none⟩) ids) (i : Nat) : IntsAt W (some ⟨b, off + i, none⟩) (ids.drop i) := by
  intro j hj
  simp at hj
  obtain ⟨b', off', e, hc⟩ := h (i + j) (by omega)
  simp at e
  obtain ⟨rfl, rfl⟩ := e
  refine ⟨b, off + i, rfl, ?_⟩
  rw [Nat.add_assoc, hc]
  simp [List.getD, List.getElem?_drop]
theorem ints_cut {W : World} {b off : Nat} {ids : List Int} (h : IntsAt W (some ⟨b, off, none⟩) ids) (i c2 : Nat) (hc : ids.length ≤ c2) : IntsAt W (if c2 = i then some ⟨b, off, none⟩ else some ⟨b, off + i, none⟩) (ids.drop i) := by
  by_cases e : c2 = i
  · rw [if_pos e, List.drop_eq_nil_of_le (by omega)]
    intro j hj
    simp at hj
  · rw [if_neg e]
    exact ints_drop h i
theorem cut_some (b off i c2 : Nat) : ∃ b' off', (if c2 = i then some (⟨b, off, none⟩ : Addr) else some ⟨b, off + i, none⟩) = some ⟨b', off', none⟩ := by
  split
  · exact ⟨_, _, rfl⟩
  · exact ⟨_, _, rfl⟩
theorem OX.keep {w W W' : World} {B ko : Nat} {cs ts : Array Value} {r0 r1 : Value} {veh : Int} {sl : Value} {ys : List Int} (h : OX w W B ko cs #[r0, r1] ts veh sl ys) (hg : W.grownBy W' sl.ownBlock) :
    W'.cell? ⟨w.heap.size + 1, 1, none⟩ = some r1 ∧ W'.cell? ⟨ko, 1, none⟩ = some sl ∧ (∀ i, W'.frozen? ⟨ko, i, none⟩ = false) := by
  have hk : W'.heap[ko]? = some (.cells #[.int .i64 veh, sl] 32 (0, 0)) := (hg.block _ (row_lt h.2.1) (fun e => own_ne h.2.2.2.2 h.2.1 e.symm)).trans h.2.1
  have hc := (h.1.grown hg (fun g e => by have := (h.2.2.2.2.lt g e).1; have := h.2.2.2.1; omega)).1.2.2
  exact ⟨(cells2 hc).2, (cells2 hk).2, fun i => frozen_of_row _ _ i _ _ hk⟩
theorem OX.size {w W : World} {B ko : Nat} {cs rs ts : Array Value} {veh : Int} {sl : Value} {ys : List Int} (h : OX w W B ko cs rs ts veh sl ys) : B ≤ W.heap.size := by
  have := h.2.2.1
  have := row_lt h.2.1
  omega
theorem ox9 {w W : World} {B ko : Nat} {c0 c1 c2 c3 c4 r0 r1 : Value} {ts : Array Value} {veh : Int} {sl : Value} {ys : List Int} (h : OX w W B ko #[c0, c1, c2, c3, c4] #[r0, r1] ts veh sl ys) :
    W.cell? ⟨w.heap.size, 0, none⟩ = some c0 ∧ W.cell? ⟨w.heap.size, 1, none⟩ = some c1 ∧ W.cell? ⟨w.heap.size, 2, none⟩ = some c2 ∧ W.cell? ⟨w.heap.size, 3, none⟩ = some c3 ∧ W.cell? ⟨w.heap.size, 4, none⟩ = some c4 ∧ W.cell? ⟨w.heap.size + 1, 0, none⟩ = some r0 ∧ W.cell? ⟨w.heap.size + 1, 1, none⟩ = some r1 ∧ W.cell? ⟨ko, 0, none⟩ = some (.int .i64 veh) ∧ W.cell? ⟨ko, 1, none⟩ = some sl := by
  obtain ⟨k0, k1, k2, k3, k4⟩ := cells5 h.1.1.2.1
  obtain ⟨k5, k6⟩ := cells2 h.1.1.2.2
  obtain ⟨k7, k8⟩ := cells2 h.2.1
  exact ⟨k0, k1, k2, k3, k4, k5, k6, k7, k8⟩
theorem ox9s {w W : World} {B ko : Nat} {c0 c1 c2 c3 c4 r0 r1 : Value} {ts : Array Value} {veh : Int} {sl : Value} {ys : List Int} (h : OX w W B ko #[c0, c1, c2, c3, c4] #[r0, r1] ts veh sl ys) (u1 u2 : Value) :
    (fun X : World => X.cell? ⟨w.heap.size, 0, none⟩ = some c0 ∧ X.cell? ⟨w.heap.size, 1, none⟩ = some c1 ∧ X.cell? ⟨w.heap.size, 2, none⟩ = some c2 ∧ X.cell? ⟨w.heap.size, 3, none⟩ = some c3 ∧ X.cell? ⟨w.heap.size, 4, none⟩ = some c4 ∧ X.cell? ⟨w.heap.size + 1, 0, none⟩ = some r0 ∧ X.cell? ⟨w.heap.size + 1, 1, none⟩ = some r1 ∧ X.cell? ⟨ko, 0, none⟩ = some (.int .i64 veh) ∧ X.cell? ⟨ko, 1, none⟩ = some sl) ((W.setCell ⟨w.heap.size + 1 + 1, 0, none⟩ u1).setCell ⟨w.heap.size + 1 + 1, 1, none⟩ u2) := by
  have hc := h.1.set u1 u2
  obtain ⟨k0, k1, k2, k3, k4, k5, k6⟩ := cr7 hc
  obtain ⟨k7, k8⟩ := cells2 h.2.1
  have hne : ko ≠ w.heap.size + 1 + 1 := by have := h.2.2.1; have := h.2.2.2.1; omega
  exact ⟨k0, k1, k2, k3, k4, k5, k6, keep_set (keep_set k7 hne) hne, keep_set (keep_set k8 hne) hne⟩
theorem own_sh {w : World} {base k n : Nat} {v : Value} {e : TypeId} {size : Nat} {xs : List Value} (h : w.ownsRow base e size v k xs) (hne : v ≠ .slice none 0 0) (hk : k = n) : ∃ g c, v = .slice (some ⟨g, 0, none⟩) n c := by
  subst hk
  rcases own_shape h with h1 | h1
  · exact absurd h1 hne
  · exact h1
theorem grown_keep2 {w W w2 : World} {row : Option Nat} {cs ts : Array Value} {r0 r1 : Value} (hg : W.grownBy w2 row) (h : CRR w W cs #[r0, r1] ts) (hr : ∀ g, row = some g → w.heap.size + 2 < g) : w2.cell? ⟨w.heap.size + 1, 0, none⟩ = some r0 ∧ w2.cell? ⟨w.heap.size + 1, 1, none⟩ = some r1 := cells2 (h.grown hg hr).1.2.2

end Go.Proofs.Ytplefpmchhcfcaa
