import Derived.Test.YtkmghjogmedpbaaPack2
import Derived.Test.YtkmghjogmedpbaaPack3
import Derived.Test.YtkmghjogmedpbaaPack6
namespace Go.Proofs.Ytkmghjogmedpbaa
open Go.RowKit

/-- A case, a route and the route that is answered, in their boxes. -/
def CRR (w W : World) (cs rs ts : Array Value) : Prop := CR w W cs rs ∧ W.heap[w.heap.size + 2]? = some (.cells ts 33 (0, 0))
theorem CRR.new (w : World) (cs rs ts : Array Value) : CRR w (((w.alloc (.cells cs 40)).alloc (.cells rs 33)).alloc (.cells ts 33)) cs rs ts :=
  ⟨(CR.new w cs rs).alloc _, by have := heap_alloc_new ((w.alloc (.cells cs 40)).alloc (.cells rs 33)) (.cells ts 33); simpa using this⟩
theorem CRR.below {w W W' : World} {cs rs ts : Array Value} (h : CRR w W cs rs ts) (hb : Below W.heap.size W W') : CRR w W' cs rs ts :=
  ⟨h.1.below hb, below_row hb (row_lt h.2) h.2⟩
theorem CRR.b {w W : World} {cs rs ts : Array Value} (h : CRR w W cs rs ts) : Below w.heap.size w W := h.1.1
theorem CRR.alloc {w W : World} {cs rs ts : Array Value} (h : CRR w W cs rs ts) (o : Obj) : CRR w (W.alloc o) cs rs ts := h.below ((Below.refl _ _).alloc (Nat.le_refl _) _)
theorem CRR.big {w W : World} {cs rs ts : Array Value} (h : CRR w W cs rs ts) : w.heap.size + 2 < W.heap.size := row_lt h.2

theorem CRR.set {w W : World} {cs rs ts : Array Value} (h : CRR w W cs rs ts) (u1 u2 : Value) : CR w ((W.setCell ⟨w.heap.size + 1 + 1, 0, none⟩ u1).setCell ⟨w.heap.size + 1 + 1, 1, none⟩ u2) cs rs := (h.1.set (by omega)).set (by omega)
theorem cr7 {w W : World} {c0 c1 c2 c3 c4 r0 r1 : Value} (h : CR w W #[c0, c1, c2, c3, c4] #[r0, r1]) :
    W.cell? ⟨w.heap.size, 0, none⟩ = some c0 ∧ W.cell? ⟨w.heap.size, 1, none⟩ = some c1 ∧ W.cell? ⟨w.heap.size, 2, none⟩ = some c2 ∧ W.cell? ⟨w.heap.size, 3, none⟩ = some c3 ∧ W.cell? ⟨w.heap.size, 4, none⟩ = some c4 ∧ W.cell? ⟨w.heap.size + 1, 0, none⟩ = some r0 ∧ W.cell? ⟨w.heap.size + 1, 1, none⟩ = some r1 := by
  obtain ⟨k0, k1, k2, k3, k4⟩ := cells5 h.2.1
  obtain ⟨k5, k6⟩ := cells2 h.2.2
  exact ⟨k0, k1, k2, k3, k4, k5, k6⟩

/-- The answer of a change: a route that owns its stops, how much more, whether. -/
def ChgOk (w : World) (ch : Bool) (veh D : Int) (xs : List Int) (e : Ending) (w' : World) : Prop :=
  Below w.heap.size w w' ∧ ∃ ad c, e = .returned (.tuple #[.agg #[.int .i64 (chI ch veh), .slice ad xs.length c], .int .i64 D, .bool ch]) ∧ w'.ownsRow w.heap.size 2 1 (.slice ad xs.length c) xs.length (xs.map (Value.int .i64))
theorem owns_set2 {w : World} {base k b : Nat} {v u1 u2 : Value} {e : TypeId} {size : Nat} {xs : List Value} (h : w.ownsRow base e size v k xs) (hb : b < base) : ((w.setCell ⟨b, 0, none⟩ u1).setCell ⟨b, 1, none⟩ u2).ownsRow base e size v k xs := ownsRow_setCell_below (ownsRow_setCell_below h hb u1) hb u2

end Go.Proofs.Ytkmghjogmedpbaa

namespace Go.Proofs.Ytkmghjogmedpbaa
open Go.RowKit

set_option maxHeartbeats 2000000 in
theorem changed_turn (n fine veh : Int) (a ao av bi : Option Addr) (cap ko co kv cv c2 : Nat) (zs os vs ids : List Int) (w : World) (hA : IntsAt w a zs) (hO : IntsAt w ao os) (hV : IntsAt w av vs) (hI : IntsAt w bi ids) (hlo : os.length = ko * 6) (hlv : vs.length = kv * 5) (hko : ko ≤ 9223372036854775807) (hkv : kv ≤ 9223372036854775807) (hli : ids.length ≤ 9223372036854775807) (hc2 : ids.length ≤ c2) (hcB : caseB n zs os vs ko kv fine = true) (p : Nat) (ok : Bool) (ids' : List Int)
    (hhow : ∀ W, Below w.heap.size w W → ids.length ≤ 12 → Calls Try.prog 80 #[.slice bi ids.length c2, .pointer (some ⟨p, 0, none⟩)] W (HowOk W ok ids')) (ch : Bool) (hch : chB true n zs os vs ko kv veh ids ok ids' = ch) (D : Int) (hD : chD ch n zs os vs ko kv veh ids ids' = D) (xs : List Int) (hxs : chL ch ids' = xs) :
    Calls Try.prog 57 #[.agg #[.int .i64 n, .slice a zs.length cap, .slice ao ko co, .slice av kv cv, .int .i64 fine], .agg #[.int .i64 veh, .slice bi ids.length c2], .func (.func 80) #[] #[.pointer (some ⟨p, 0, none⟩)]] w (ChgOk w ch veh D xs) := by
  have HA : Hid (IntsAt w a zs) := hA
  have HO : Hid (IntsAt w ao os) := hO
  have HV : Hid (IntsAt w av vs) := hV
  have HI : Hid (IntsAt w bi ids) := hI
  have HLO : Hid _ := hlo
  have HLV : Hid _ := hlv
  clear hA hO hV hI hlo hlv
  have HC : Hid (caseB n zs os vs ko kv fine = true) := hcB
  have HCh : Hid (chB true n zs os vs ko kv veh ids ok ids' = ch) := hch
  have HD : Hid (chD ch n zs os vs ko kv veh ids ids' = D) := hD
  have HXs : Hid (chL ch ids' = xs) := hxs
  have HW : Hid (∀ W, Below w.heap.size w W → ids.length ≤ 12 → Calls Try.prog 80 #[.slice bi ids.length c2, .pointer (some ⟨p, 0, none⟩)] W (HowOk W ok ids')) := hhow
  clear hcB hch hD hxs hhow
  have C0 : Hid (CRR w (((w.alloc (.cells #[Value.int IntKind.i64 n, Value.slice a zs.length cap, Value.slice ao ko co, Value.slice av kv cv, Value.int IntKind.i64 fine] 40)).alloc (.cells #[Value.int IntKind.i64 veh, Value.slice bi ids.length c2] 33)).alloc (.cells #[Value.int IntKind.i64 0, Value.slice none 0 0] 33)) _ _ _) := CRR.new w _ _ _
  obtain ⟨o1, HO1⟩ : ∃ t, Hid (decide (codeV true n zs os vs ko kv veh ids = 0) = t) := ⟨_, rfl⟩
  obtain ⟨q1, HQ1⟩ : ∃ t, Hid (rcV n zs os vs ko kv veh ids = t) := ⟨_, rfl⟩
  obtain ⟨o2, HO2⟩ : ∃ t, Hid (decide (codeV true n zs os vs ko kv veh ids' = 0) = t) := ⟨_, rfl⟩
  obtain ⟨q2, HQ2⟩ : ∃ t, Hid (rcV n zs os vs ko kv veh ids' = t) := ⟨_, rfl⟩
  have hq1 := rcV_bd (caseB_parts HC.out).1 os vs ko kv veh ids
  have hq2 := rcV_bd (caseB_parts HC.out).1 os vs ko kv veh ids'
  rw [HQ1.out] at hq1
  rw [HQ2.out] at hq2
  go_enter Try.func57, Try.ntmps57
  obtain ⟨c0, c1, c2', c3, c4⟩ := cells5 C0.out.1.2.1
  obtain ⟨d0, d1⟩ := cells2 C0.out.1.2.2
  go_wp2_with fail
  clear c0 c1 c2' c3 c4 d0 d1
  refine (routeCost_any n fine veh a ao av bi cap ko co kv cv c2 zs os vs ids _ (HA.out.below C0.out.b) (HO.out.below C0.out.b) (HV.out.below C0.out.b) (HI.out.below C0.out.b) HLO.out HLV.out hko hkv hli hc2 HC.out o1 HO1.out q1 HQ1.out).mono ?_
  rintro e w1 ⟨rfl, hb⟩
  have C1 : Hid (CRR w w1 _ _ _) := C0.out.below hb
  clear hb C0
  cases o1
  · have HCH : Hid (ch = false) := HCh.out.symm.trans (chB_no1 (of_decide_eq_false HO1.out) _ _)
    have HX : Hid (xs = []) := HXs.out.symm.trans (by rw [HCH.out]; rfl)
    have HDD : Hid (D = 0) := HD.out.symm.trans (by rw [HCH.out]; rfl)
    obtain ⟨t0, t1⟩ := cells2 C1.out.2
    have tf := fun i => frozen_of_row _ _ i _ _ C1.out.2
    go_wp2
    refine bodyPost_ret (v := .tuple #[.agg #[Value.int IntKind.i64 0, Value.slice none 0 0], .int .i64 0, .bool false]) (by simp [results, Try.results57, go_sem, t0, t1]) rfl ⟨?_, none, 0, ?_, ?_⟩
    · repeat (first | with_reducible exact C1.out.b | refine Below.setCell ?_ (by simp <;> omega) _)
    · rw [HCH.out, HDD.out, HX.out]; rfl
    · rw [HX.out]; exact World.ownsRow_nil _ _ _ _
  · have hz1 : codeV true n zs os vs ko kv veh ids = 0 := of_decide_eq_true HO1.out
    have HZ1 : Hid (codeV true n zs os vs ko kv veh ids = 0) := hz1
    clear hz1
    have h12 := code12 HZ1.out
    obtain ⟨d0, d1⟩ := cells2 C1.out.1.2.2
    go_wp2_with fail
    clear d0 d1
    refine (HW.out w1 C1.out.b h12).mono ?_
    rintro e w2 ⟨hb, ⟨rfl, rfl⟩ | ⟨rfl, g, cg, rfl, ho⟩⟩
    · have C2 : Hid (CRR w w2 _ _ _) := C1.out.below hb
      clear hb C1
      have HCH : Hid (ch = false) := HCh.out.symm.trans (chB_no2 rfl _)
      have HX : Hid (xs = []) := HXs.out.symm.trans (by rw [HCH.out]; rfl)
      have HDD : Hid (D = 0) := HD.out.symm.trans (by rw [HCH.out]; rfl)
      obtain ⟨t0, t1⟩ := cells2 C2.out.2
      have tf := fun i => frozen_of_row _ _ i _ _ C2.out.2
      go_wp2
      refine bodyPost_ret (v := .tuple #[.agg #[Value.int IntKind.i64 0, Value.slice none 0 0], .int .i64 0, .bool false]) (by simp [results, Try.results57, go_sem, t0, t1]) rfl ⟨?_, none, 0, ?_, ?_⟩
      · repeat (first | with_reducible exact C2.out.b | refine Below.setCell ?_ (by simp <;> omega) _)
      · rw [HCH.out, HDD.out, HX.out]; rfl
      · rw [HX.out]; exact World.ownsRow_nil _ _ _ _
    · have C2 : Hid (CRR w w2 _ _ _) := C1.out.below hb
      have LG : Hid (w.heap.size + 2 < w1.heap.size) := C1.out.big
      have O2 : Hid (w2.ownsRow w1.heap.size 2 1 _ ids'.length _) := ho
      obtain ⟨_, _, e1, hlg, _, hcg, _, _⟩ := Go.Lib.holds_of_ownsRow (enc := Value.int .i64) ho (by simp)
      simp at e1
      obtain ⟨rfl, rfl⟩ := e1
      have HG : Hid (w1.heap.size ≤ g) := hlg
      have hli' : ids'.length ≤ 9223372036854775807 := by
        have := (Go.Lib.holds_of_ownsRow (enc := Value.int .i64) ho (by simp))
        obtain ⟨_, _, e1, _, _, h1, h2, _⟩ := this
        simp at e1
        obtain ⟨rfl, rfl⟩ := e1
        unfold maxLen at h2
        omega
      clear hb ho C1 hlg
      have C3 : Hid (CRR w (w2.alloc (Obj.cells #[Value.int IntKind.i64 veh, Value.slice (some ⟨g, 0, none⟩) ids'.length cg] 33)) _ _ _) := C2.out.alloc _
      have N3 : Hid ((w2.alloc (Obj.cells #[Value.int IntKind.i64 veh, Value.slice (some ⟨g, 0, none⟩) ids'.length cg] 33)).heap[w2.heap.size]? = _) := heap_alloc_new _ _
      have O3 : Hid ((w2.alloc (Obj.cells #[Value.int IntKind.i64 veh, Value.slice (some ⟨g, 0, none⟩) ids'.length cg] 33)).ownsRow w1.heap.size 2 1 _ ids'.length _) := O2.out.alloc _
      obtain ⟨d0, d1⟩ := cells2 C2.out.1.2.2
      obtain ⟨c0, c1, c2', c3, c4⟩ := cells5 C3.out.1.2.1
      obtain ⟨n0, n1⟩ := cells2 N3.out
      clear O2
      go_wp2_with fail
      clear d0 d1 c0 c1 c2' c3 c4 n0 n1
      refine (routeCost_any n fine veh a ao av (some ⟨g, 0, none⟩) cap ko co kv cv cg zs os vs ids' _ (HA.out.below C3.out.b) (HO.out.below C3.out.b) (HV.out.below C3.out.b) (owns_ints O3.out) HLO.out HLV.out hko hkv hli' hcg HC.out o2 HO2.out q2 HQ2.out).mono ?_
      rintro e w3 ⟨rfl, hb⟩
      have C4 : Hid (CRR w w3 _ _ _) := C3.out.below hb
      have N4 : Hid (w3.heap[w2.heap.size]? = _) := below_row hb (row_lt N3.out) N3.out
      have O4 : Hid (w3.ownsRow w1.heap.size 2 1 _ ids'.length _) := owns_below O3.out hb
      clear hb C2 C3 N3 O3
      cases o2
      · have HCH : Hid (ch = false) := HCh.out.symm.trans (chB_no3 _ (of_decide_eq_false HO2.out))
        have HX : Hid (xs = []) := HXs.out.symm.trans (by rw [HCH.out]; rfl)
        have HDD : Hid (D = 0) := HD.out.symm.trans (by rw [HCH.out]; rfl)
        obtain ⟨t0, t1⟩ := cells2 C4.out.2
        have tf := fun i => frozen_of_row _ _ i _ _ C4.out.2
        go_wp2
        refine bodyPost_ret (v := .tuple #[.agg #[Value.int IntKind.i64 0, Value.slice none 0 0], .int .i64 0, .bool false]) (by simp [results, Try.results57, go_sem, t0, t1]) rfl ⟨?_, none, 0, ?_, ?_⟩
        · repeat (first | with_reducible exact C4.out.b | refine Below.setCell ?_ (by simp <;> omega) _)
        · rw [HCH.out, HDD.out, HX.out]; rfl
        · rw [HX.out]; exact World.ownsRow_nil _ _ _ _
      · have HCH : Hid (ch = true) := HCh.out.symm.trans (chB_yes HZ1.out rfl (of_decide_eq_true HO2.out))
        have HX : Hid (xs = ids') := HXs.out.symm.trans (by rw [HCH.out]; rfl)
        have HDD : Hid (D = q2 - q1) := HD.out.symm.trans (by rw [HCH.out, ← HQ1.out, ← HQ2.out]; rfl)
        obtain ⟨t0, t1⟩ := cells2 C4.out.2
        obtain ⟨n0, n1⟩ := cells2 N4.out
        have tf := fun i => frozen_of_row _ _ i _ _ C4.out.2
        go_wp2
        refine bodyPost_ret (v := .tuple #[.agg #[.int .i64 veh, .slice (some ⟨g, 0, none⟩) ids'.length cg], .int .i64 (q2 - q1), .bool true]) (by simp [results, Try.results57, go_sem, t0, t1]) rfl ⟨?_, some ⟨g, 0, none⟩, cg, ?_, ?_⟩
        · repeat (first | with_reducible exact C4.out.b | refine Below.setCell ?_ (by simp <;> omega) _)
        · rw [HCH.out, HDD.out, HX.out]; rfl
        · rw [HX.out]; exact owns_base (owns_set (owns_set O4.out LG.out) LG.out) (by have := LG.out; omega)

set_option maxHeartbeats 2000000 in
theorem checked_turn (n fine veh : Int) (a ao av bi : Option Addr) (cap ko co kv cv c2 : Nat) (zs os vs ids : List Int) (w : World) (hA : IntsAt w a zs) (hO : IntsAt w ao os) (hV : IntsAt w av vs) (hI : IntsAt w bi ids) (hlo : os.length = ko * 6) (hlv : vs.length = kv * 5) (hko : ko ≤ 9223372036854775807) (hkv : kv ≤ 9223372036854775807) (hli : ids.length ≤ 9223372036854775807) (hc2 : ids.length ≤ c2) (p : Nat) (ok : Bool) (ids' : List Int)
    (hhow : ∀ W, Below w.heap.size w W → ids.length ≤ 12 → Calls Try.prog 80 #[.slice bi ids.length c2, .pointer (some ⟨p, 0, none⟩)] W (HowOk W ok ids')) (ch : Bool) (hch : chB (caseB n zs os vs ko kv fine) n zs os vs ko kv veh ids ok ids' = ch) (D : Int) (hD : chD ch n zs os vs ko kv veh ids ids' = D) (xs : List Int) (hxs : chL ch ids' = xs) :
    Calls Try.prog 41 #[.agg #[.int .i64 n, .slice a zs.length cap, .slice ao ko co, .slice av kv cv, .int .i64 fine], .agg #[.int .i64 veh, .slice bi ids.length c2], .func (.func 80) #[] #[.pointer (some ⟨p, 0, none⟩)]] w (ChgOk w ch veh D xs) := by
  have HA : Hid (IntsAt w a zs) := hA
  have HO : Hid (IntsAt w ao os) := hO
  have HV : Hid (IntsAt w av vs) := hV
  have HI : Hid (IntsAt w bi ids) := hI
  have HLO : Hid _ := hlo
  have HLV : Hid _ := hlv
  clear hA hO hV hI hlo hlv
  have HCh : Hid (chB (caseB n zs os vs ko kv fine) n zs os vs ko kv veh ids ok ids' = ch) := hch
  have HD : Hid (chD ch n zs os vs ko kv veh ids ids' = D) := hD
  have HXs : Hid (chL ch ids' = xs) := hxs
  have HW : Hid (∀ W, Below w.heap.size w W → ids.length ≤ 12 → Calls Try.prog 80 #[.slice bi ids.length c2, .pointer (some ⟨p, 0, none⟩)] W (HowOk W ok ids')) := hhow
  clear hch hD hxs hhow
  have C0 : Hid (CRR w (((w.alloc (.cells #[Value.int IntKind.i64 n, Value.slice a zs.length cap, Value.slice ao ko co, Value.slice av kv cv, Value.int IntKind.i64 fine] 40)).alloc (.cells #[Value.int IntKind.i64 veh, Value.slice bi ids.length c2] 33)).alloc (.cells #[Value.int IntKind.i64 0, Value.slice none 0 0] 33)) _ _ _) := CRR.new w _ _ _
  go_enter Try.func41, Try.ntmps41
  obtain ⟨c0, c1, c2', c3, c4⟩ := cells5 C0.out.1.2.1
  go_wp2_with fail
  clear c0 c1 c2' c3 c4
  refine (implCase_any n fine a ao av cap ko co kv cv zs os vs _ (HA.out.below C0.out.b) (HO.out.below C0.out.b) (HV.out.below C0.out.b) HLO.out HLV.out hko hkv).mono ?_
  rintro e w1 ⟨rfl, hb⟩
  have C1 : Hid (CRR w w1 _ _ _) := C0.out.below hb
  clear hb C0
  cases hc : caseB n zs os vs ko kv fine
  · have hfv : formV (caseB n zs os vs ko kv fine) vs os kv ko veh ids = 1 := formV_1 hc
    have HCH : Hid (ch = false) := HCh.out.symm.trans (chB_no1 (by rw [codeV_form (by rw [hfv]; decide), hfv]; decide) _ _)
    have HX : Hid (xs = []) := HXs.out.symm.trans (by rw [HCH.out]; rfl)
    have HDD : Hid (D = 0) := HD.out.symm.trans (by rw [HCH.out]; rfl)
    clear hfv hc
    obtain ⟨t0, t1⟩ := cells2 C1.out.2
    have tf := fun i => frozen_of_row _ _ i _ _ C1.out.2
    go_wp2
    refine bodyPost_ret (v := .tuple #[.agg #[Value.int IntKind.i64 0, Value.slice none 0 0], .int .i64 0, .bool false]) (by simp [results, Try.results41, go_sem, t0, t1]) rfl ⟨?_, none, 0, ?_, ?_⟩
    · repeat (first | with_reducible exact C1.out.b | refine Below.setCell ?_ (by simp <;> omega) _)
    · rw [HCH.out, HDD.out, HX.out]; rfl
    · rw [HX.out]; exact World.ownsRow_nil _ _ _ _
  · have HC : Hid (caseB n zs os vs ko kv fine = true) := hc
    have HCh' : Hid (chB true n zs os vs ko kv veh ids ok ids' = ch) := by
      have := HCh.out
      rw [hc] at this
      exact this
    have LG : Hid (w.heap.size + 2 < w1.heap.size) := C1.out.big
    clear hc
    obtain ⟨c0, c1, c2', c3, c4⟩ := cells5 C1.out.1.2.1
    obtain ⟨d0, d1⟩ := cells2 C1.out.1.2.2
    go_wp2_with fail
    clear c0 c1 c2' c3 c4 d0 d1
    refine (changed_turn n fine veh a ao av bi cap ko co kv cv c2 zs os vs ids _ (HA.out.below C1.out.b) (HO.out.below C1.out.b) (HV.out.below C1.out.b) (HI.out.below C1.out.b) HLO.out HLV.out hko hkv hli hc2 HC.out _ ok ids' (fun W hW => HW.out W (C1.out.b.trans (hW.mono C1.out.b.size))) ch HCh'.out D HD.out xs HXs.out).mono ?_
    rintro e w2 ⟨hb, ad, cg, rfl, ho⟩
    have C2 : Hid (CRR w w2 _ _ _) := C1.out.below hb
    have O2 : Hid (w2.ownsRow w1.heap.size 2 1 (.slice ad xs.length cg) xs.length _) := ho
    clear hb ho C1
    obtain ⟨vv, HVV⟩ : ∃ t, Hid (chI ch veh = t) := ⟨_, rfl⟩
    rw [HVV.out]
    obtain ⟨t0, t1⟩ := cells2 C2.out.2
    have tf := fun i => frozen_of_row _ _ i _ _ C2.out.2
    go_wp2
    refine bodyPost_ret (v := .tuple #[.agg #[.int .i64 vv, .slice ad xs.length cg], .int .i64 D, .bool ch]) (by simp [results, Try.results41, go_sem, t0, t1]) rfl ⟨?_, ad, cg, ?_, ?_⟩
    · repeat (first | with_reducible exact C2.out.b | refine Below.setCell ?_ (by simp <;> omega) _)
    · rw [HVV.out]
    · exact owns_base (owns_set (owns_set O2.out LG.out) LG.out) (by have := LG.out; omega)

end Go.Proofs.Ytkmghjogmedpbaa

namespace Go.Proofs.Ytkmghjogmedpbaa
open Go.RowKit

theorem turning_any (x y : Int) (w : World) :
    Calls Try.prog 58 #[.agg #[.int .i64 x, .int .i64 y]] w fun e w' => ∃ p, w.heap.size ≤ p ∧ e = .returned (.func (.func 80) #[] #[.pointer (some ⟨p, 0, none⟩)]) ∧ Below w.heap.size w w' ∧ w'.cell? ⟨p, 0, none⟩ = some (.int .i64 x) ∧ w'.cell? ⟨p, 1, none⟩ = some (.int .i64 y) := by
  have hmf : ∀ (fn : Fn) (first cap : Array Value) (w : World), (Instr.makeFunc fn first cap).run Try.prog w = .ok (.func fn first cap) w := fun _ _ _ _ => rfl
  go_enter Try.func58, Try.ntmps58
  go_wp2
  go_ret
  refine ⟨w.heap.size, Nat.le_refl _, rfl, (Below.refl _ _).alloc (Nat.le_refl _) _, ?_⟩
  first
    | exact cell_of_row _ _ _ _ _ _ (heap_alloc_new _ _)
    | exact cells2 (heap_alloc_new _ _)

set_option maxHeartbeats 2000000 in
theorem implTwoOpt_any (n fine veh : Int) (a ao av bi : Option Addr) (cap ko co kv cv c2 : Nat) (zs os vs ids : List Int) (w : World) (hA : IntsAt w a zs) (hO : IntsAt w ao os) (hV : IntsAt w av vs) (hI : IntsAt w bi ids) (hlo : os.length = ko * 6) (hlv : vs.length = kv * 5) (hko : ko ≤ 9223372036854775807) (hkv : kv ≤ 9223372036854775807) (hli : ids.length ≤ 9223372036854775807) (hc2 : ids.length ≤ c2) (x y : Int) (ch : Bool) (hch : chB (caseB n zs os vs ko kv fine) n zs os vs ko kv veh ids (turnB x y ids.length) (revL ids x.toNat y.toNat) = ch) (D : Int) (hD : chD ch n zs os vs ko kv veh ids (revL ids x.toNat y.toNat) = D) (xs : List Int) (hxs : chL ch (revL ids x.toNat y.toNat) = xs) :
    Calls Try.prog 25 #[.agg #[.int .i64 n, .slice a zs.length cap, .slice ao ko co, .slice av kv cv, .int .i64 fine], .agg #[.int .i64 veh, .slice bi ids.length c2], .int .i64 x, .int .i64 y] w (ChgOk w ch veh D xs) := by
  have HA : Hid (IntsAt w a zs) := hA
  have HO : Hid (IntsAt w ao os) := hO
  have HV : Hid (IntsAt w av vs) := hV
  have HI : Hid (IntsAt w bi ids) := hI
  have HLO : Hid _ := hlo
  have HLV : Hid _ := hlv
  clear hA hO hV hI hlo hlv
  have HCh : Hid (chB (caseB n zs os vs ko kv fine) n zs os vs ko kv veh ids (turnB x y ids.length) (revL ids x.toNat y.toNat) = ch) := hch
  have HD : Hid (chD ch n zs os vs ko kv veh ids (revL ids x.toNat y.toNat) = D) := hD
  have HXs : Hid (chL ch (revL ids x.toNat y.toNat) = xs) := hxs
  clear hch hD hxs
  have C0 : Hid (CRR w (((w.alloc (.cells #[Value.int IntKind.i64 n, Value.slice a zs.length cap, Value.slice ao ko co, Value.slice av kv cv, Value.int IntKind.i64 fine] 40)).alloc (.cells #[Value.int IntKind.i64 veh, Value.slice bi ids.length c2] 33)).alloc (.cells #[Value.int IntKind.i64 0, Value.slice none 0 0] 33)) _ _ _) := CRR.new w _ _ _
  obtain ⟨vv, HVV⟩ : ∃ t, Hid (chI ch veh = t) := ⟨_, rfl⟩
  go_enter Try.func25, Try.ntmps25
  go_wp2_with fail
  generalize ((w.alloc (.cells #[Value.int IntKind.i64 n, Value.slice a zs.length cap, Value.slice ao ko co, Value.slice av kv cv, Value.int IntKind.i64 fine] 40)).alloc (.cells #[Value.int IntKind.i64 veh, Value.slice bi ids.length c2] 33)).alloc (.cells #[Value.int IntKind.i64 0, Value.slice none 0 0] 33) = W0 at *
  obtain ⟨c0, c1, c2', c3, c4⟩ := cells5 C0.out.1.2.1
  obtain ⟨d0, d1⟩ := cells2 C0.out.1.2.2
  obtain ⟨t0, t1⟩ := cells2 C0.out.2
  have tf := fun i => frozen_of_row _ _ i _ _ C0.out.2
  go_region_held3 (fun W => W.cell? ⟨w.heap.size, 0, none⟩ = some (.int .i64 n) ∧ W.cell? ⟨w.heap.size, 1, none⟩ = some (.slice a zs.length cap) ∧ W.cell? ⟨w.heap.size, 2, none⟩ = some (.slice ao ko co) ∧ W.cell? ⟨w.heap.size, 3, none⟩ = some (.slice av kv cv) ∧ W.cell? ⟨w.heap.size, 4, none⟩ = some (.int .i64 fine) ∧ W.cell? ⟨w.heap.size + 1, 0, none⟩ = some (.int .i64 veh) ∧ W.cell? ⟨w.heap.size + 1, 1, none⟩ = some (.slice bi ids.length c2)) (first | with_reducible exact kS | with_reducible exact cr7 (CRR.set C2.out _ _) | go_keep) ((first
    | (go_at_call 58
       with_reducible refine (turning_any x y W0.drew).mono ?_
       rintro e w1 ⟨p, hp, rfl, hb, hc, hc1⟩
       have hb0 := (Below.refl W0.heap.size W0).drew.trans (hb.mono (Nat.le_refl _))
       have C1 : Hid (CRR w w1 _ _ _) := C0.out.below hb0
       have P1 : Hid (w1.cell? ⟨p, 0, none⟩ = some (.int .i64 x) ∧ w1.cell? ⟨p, 1, none⟩ = some (.int .i64 y)) := ⟨hc, hc1⟩
       obtain ⟨k0, k1, k2, k3, k4⟩ := cells5 C1.out.1.2.1
       obtain ⟨k5, k6⟩ := cells2 C1.out.1.2.2
       have kS := And.intro k0 (And.intro k1 (And.intro k2 (And.intro k3 (And.intro k4 (And.intro k5 k6)))))
       clear hb hb0 k0 k1 k2 k3 k4 k5 k6)
    | (go_at_call 41
       with_reducible refine (checked_turn n fine veh a ao av bi cap ko co kv cv c2 zs os vs ids w1 (HA.out.below C1.out.b) (HO.out.below C1.out.b) (HV.out.below C1.out.b) (HI.out.below C1.out.b) HLO.out HLV.out hko hkv hli hc2 p _ _ (fun W hW h12 => turnRound_any p x y bi c2 ids W ((hW.cell (p := ⟨p, 0, none⟩) (block_lt_of_cell P1.out.1)).trans P1.out.1) ((hW.cell (p := ⟨p, 1, none⟩) (block_lt_of_cell P1.out.2)).trans P1.out.2) (HI.out.below (C1.out.b.trans (hW.mono C1.out.b.size))) h12) ch HCh.out D HD.out xs HXs.out).mono ?_
       rintro e w2 ⟨hb, ad, cg, rfl, ho⟩
       rw [HVV.out]
       have C2 : Hid (CRR w w2 _ _ _) := C1.out.below hb
       have O2 : Hid (w2.ownsRow w1.heap.size 2 1 (.slice ad xs.length cg) xs.length _) := ho
       obtain ⟨k0, k1, k2, k3, k4⟩ := cells5 C2.out.1.2.1
       obtain ⟨k5, k6⟩ := cells2 C2.out.1.2.2
       have kS := And.intro k0 (And.intro k1 (And.intro k2 (And.intro k3 (And.intro k4 (And.intro k5 k6)))))
       obtain ⟨u0, u1⟩ := cells2 C2.out.2
       have uf := fun i => frozen_of_row _ _ i _ _ C2.out.2
       clear hb ho k0 k1 k2 k3 k4 k5 k6)))
  all_goals
    clear kS c0 c1 c2' c3 c4 d0 d1 t0 t1 tf
    have LG : Hid (w.heap.size + 2 < w1.heap.size) := C1.out.big
    go_wp2
    refine bodyPost_ret (v := .tuple #[.agg #[.int .i64 vv, .slice ad xs.length cg], .int .i64 D, .bool ch]) (by simp [results, Try.results25, go_sem, u0, u1]) rfl ⟨?_, ad, cg, ?_, ?_⟩
    · repeat (first | with_reducible exact C2.out.b | refine Below.setCell ?_ (by simp <;> omega) _)
    · rw [HVV.out]
    · exact owns_base (owns_set (owns_set O2.out LG.out) LG.out) (by have := LG.out; omega)

end Go.Proofs.Ytkmghjogmedpbaa

namespace Go.Proofs.Ytkmghjogmedpbaa
open Go.RowKit

/-- A case at pc, a route, a turn and the answer's route, in their boxes. -/
def RTR (w W : World) (pc : Nat) (cs rs ts zs : Array Value) : Prop := Below w.heap.size w W ∧ W.heap[pc]? = some (.cells cs 40 (0, 0)) ∧ pc < w.heap.size ∧ W.heap[w.heap.size]? = some (.cells rs 33 (0, 0)) ∧ W.heap[w.heap.size + 1]? = some (.cells ts 91 (0, 0)) ∧ W.heap[w.heap.size + 2]? = some (.cells zs 33 (0, 0))
theorem RTR.below {w W W' : World} {pc : Nat} {cs rs ts zs : Array Value} (h : RTR w W pc cs rs ts zs) (hb : Below W.heap.size W W') : RTR w W' pc cs rs ts zs :=
  ⟨h.1.trans (hb.mono h.1.size), below_row hb (row_lt h.2.1) h.2.1, h.2.2.1, below_row hb (row_lt h.2.2.2.1) h.2.2.2.1, below_row hb (row_lt h.2.2.2.2.1) h.2.2.2.2.1, below_row hb (row_lt h.2.2.2.2.2) h.2.2.2.2.2⟩
theorem RTR.b {w W : World} {pc : Nat} {cs rs ts zs : Array Value} (h : RTR w W pc cs rs ts zs) : Below w.heap.size w W := h.1
theorem RTR.z {w W : World} {pc : Nat} {cs rs ts zs : Array Value} (h : RTR w W pc cs rs ts zs) : W.heap[w.heap.size + 2]? = some (.cells zs 33 (0, 0)) := h.2.2.2.2.2
theorem RTR.big {w W : World} {pc : Nat} {cs rs ts zs : Array Value} (h : RTR w W pc cs rs ts zs) : w.heap.size + 2 < W.heap.size := row_lt h.z
theorem RTR.new (w : World) (pc : Nat) (cs rs ts zs : Array Value) (h : w.heap[pc]? = some (.cells cs 40 (0, 0))) : RTR w (((w.alloc (.cells rs 33)).alloc (.cells ts 91)).alloc (.cells zs 33)) pc cs rs ts zs := by
  have hb : Below w.heap.size w (((w.alloc (.cells rs 33)).alloc (.cells ts 91)).alloc (.cells zs 33)) := (((Below.refl _ _).alloc (Nat.le_refl _) _).alloc (by simp) _).alloc (by simp; omega) _
  refine ⟨hb, below_row hb (row_lt h) h, row_lt h, ?_, ?_, ?_⟩
  · exact (heap_alloc_old _ _ (by simp; omega)).trans (heap_alloc2_old _ _ _)
  · exact (heap_alloc_old _ _ (by simp)).trans (heap_alloc2_new _ _ _)
  · have := heap_alloc_new ((w.alloc (.cells rs 33)).alloc (.cells ts 91)) (.cells zs 33)
    simpa using this
theorem rtr9 {w W : World} {pc : Nat} {c0 c1 c2 c3 c4 r0 r1 x0 x1 : Value} {zs : Array Value} (h : RTR w W pc #[c0, c1, c2, c3, c4] #[r0, r1] #[x0, x1] zs) :
    W.cell? ⟨pc, 0, none⟩ = some c0 ∧ W.cell? ⟨pc, 1, none⟩ = some c1 ∧ W.cell? ⟨pc, 2, none⟩ = some c2 ∧ W.cell? ⟨pc, 3, none⟩ = some c3 ∧ W.cell? ⟨pc, 4, none⟩ = some c4 ∧ W.cell? ⟨w.heap.size, 0, none⟩ = some r0 ∧ W.cell? ⟨w.heap.size, 1, none⟩ = some r1 ∧ W.cell? ⟨w.heap.size + 1, 0, none⟩ = some x0 ∧ W.cell? ⟨w.heap.size + 1, 1, none⟩ = some x1 := by
  obtain ⟨k0, k1, k2, k3, k4⟩ := cells5 h.2.1
  obtain ⟨k5, k6⟩ := cells2 h.2.2.2.1
  obtain ⟨k7, k8⟩ := cells2 h.2.2.2.2.1
  exact ⟨k0, k1, k2, k3, k4, k5, k6, k7, k8⟩
theorem rtr9s {w W : World} {pc : Nat} {c0 c1 c2 c3 c4 r0 r1 x0 x1 : Value} {zs : Array Value} (h : RTR w W pc #[c0, c1, c2, c3, c4] #[r0, r1] #[x0, x1] zs) (u1 u2 : Value) :
    (fun X : World => X.cell? ⟨pc, 0, none⟩ = some c0 ∧ X.cell? ⟨pc, 1, none⟩ = some c1 ∧ X.cell? ⟨pc, 2, none⟩ = some c2 ∧ X.cell? ⟨pc, 3, none⟩ = some c3 ∧ X.cell? ⟨pc, 4, none⟩ = some c4 ∧ X.cell? ⟨w.heap.size, 0, none⟩ = some r0 ∧ X.cell? ⟨w.heap.size, 1, none⟩ = some r1 ∧ X.cell? ⟨w.heap.size + 1, 0, none⟩ = some x0 ∧ X.cell? ⟨w.heap.size + 1, 1, none⟩ = some x1) ((W.setCell ⟨w.heap.size + 1 + 1, 0, none⟩ u1).setCell ⟨w.heap.size + 1 + 1, 1, none⟩ u2) := by
  obtain ⟨k0, k1, k2, k3, k4, k5, k6, k7, k8⟩ := rtr9 h
  have hp : pc ≠ w.heap.size + 1 + 1 := by have := h.2.2.1; omega
  have h1 : w.heap.size ≠ w.heap.size + 1 + 1 := by omega
  have h2 : w.heap.size + 1 ≠ w.heap.size + 1 + 1 := by omega
  exact ⟨keep_set (keep_set k0 hp) hp, keep_set (keep_set k1 hp) hp, keep_set (keep_set k2 hp) hp, keep_set (keep_set k3 hp) hp, keep_set (keep_set k4 hp) hp, keep_set (keep_set k5 h1) h1, keep_set (keep_set k6 h1) h1, keep_set (keep_set k7 h2) h2, keep_set (keep_set k8 h2) h2⟩

set_option maxHeartbeats 2000000 in
theorem turns1_any (n fine veh : Int) (a ao av bi : Option Addr) (cap ko co kv cv c2 : Nat) (zs os vs ids : List Int) (w : World) (hA : IntsAt w a zs) (hO : IntsAt w ao os) (hV : IntsAt w av vs) (hI : IntsAt w bi ids) (hlo : os.length = ko * 6) (hlv : vs.length = kv * 5) (hko : ko ≤ 9223372036854775807) (hkv : kv ≤ 9223372036854775807) (hli : ids.length ≤ 9223372036854775807) (hc2 : ids.length ≤ c2) (hcB : caseB n zs os vs ko kv fine = true) (pc : Nat) (hpc : w.heap[pc]? = some (.cells #[Value.int IntKind.i64 n, Value.slice a zs.length cap, Value.slice ao ko co, Value.slice av kv cv, Value.int IntKind.i64 fine] 40 (0, 0))) (x y : Int) (ch : Bool) (hch : chB true n zs os vs ko kv veh ids (turnB x y ids.length) (revL ids x.toNat y.toNat) = ch) (D : Int) (hD : chD ch n zs os vs ko kv veh ids (revL ids x.toNat y.toNat) = D) (xs : List Int) (hxs : chL ch (revL ids x.toNat y.toNat) = xs) :
    Calls Try.prog 83 #[.agg #[.int .i64 veh, .slice bi ids.length c2], .agg #[.int .i64 x, .int .i64 y], .pointer (some ⟨pc, 0, none⟩)] w (ChgOk w ch veh D xs) := by
  have HA : Hid (IntsAt w a zs) := hA
  have HO : Hid (IntsAt w ao os) := hO
  have HV : Hid (IntsAt w av vs) := hV
  have HI : Hid (IntsAt w bi ids) := hI
  have HLO : Hid _ := hlo
  have HLV : Hid _ := hlv
  clear hA hO hV hI hlo hlv
  have HC : Hid (caseB n zs os vs ko kv fine = true) := hcB
  have HCh : Hid (chB true n zs os vs ko kv veh ids (turnB x y ids.length) (revL ids x.toNat y.toNat) = ch) := hch
  have HD : Hid (chD ch n zs os vs ko kv veh ids (revL ids x.toNat y.toNat) = D) := hD
  have HXs : Hid (chL ch (revL ids x.toNat y.toNat) = xs) := hxs
  clear hcB hch hD hxs
  have C0 : Hid (RTR w (((w.alloc (.cells #[Value.int IntKind.i64 veh, Value.slice bi ids.length c2] 33)).alloc (.cells #[Value.int IntKind.i64 x, Value.int IntKind.i64 y] 91)).alloc (.cells #[Value.int IntKind.i64 0, Value.slice none 0 0] 33)) pc #[Value.int IntKind.i64 n, Value.slice a zs.length cap, Value.slice ao ko co, Value.slice av kv cv, Value.int IntKind.i64 fine] #[Value.int IntKind.i64 veh, Value.slice bi ids.length c2] #[Value.int IntKind.i64 x, Value.int IntKind.i64 y] #[Value.int IntKind.i64 0, Value.slice none 0 0]) := RTR.new w pc _ _ _ _ hpc
  clear hpc
  obtain ⟨vv, HVV⟩ : ∃ t, Hid (chI ch veh = t) := ⟨_, rfl⟩
  go_enter Try.func83, Try.ntmps83
  go_wp2_with fail
  generalize (((w.alloc (.cells #[Value.int IntKind.i64 veh, Value.slice bi ids.length c2] 33)).alloc (.cells #[Value.int IntKind.i64 x, Value.int IntKind.i64 y] 91)).alloc (.cells #[Value.int IntKind.i64 0, Value.slice none 0 0] 33)) = W0 at *
  have k9 := rtr9 (C0.out.below (Below.refl _ _).drew)
  have kS := k9
  go_region_held3 (fun W => W.cell? ⟨pc, 0, none⟩ = some (.int .i64 n) ∧ W.cell? ⟨pc, 1, none⟩ = some (.slice a zs.length cap) ∧ W.cell? ⟨pc, 2, none⟩ = some (.slice ao ko co) ∧ W.cell? ⟨pc, 3, none⟩ = some (.slice av kv cv) ∧ W.cell? ⟨pc, 4, none⟩ = some (.int .i64 fine) ∧ W.cell? ⟨w.heap.size, 0, none⟩ = some (.int .i64 veh) ∧ W.cell? ⟨w.heap.size, 1, none⟩ = some (.slice bi ids.length c2) ∧ W.cell? ⟨w.heap.size + 1, 0, none⟩ = some (.int .i64 x) ∧ W.cell? ⟨w.heap.size + 1, 1, none⟩ = some (.int .i64 y)) (first | with_reducible exact kS | with_reducible exact rtr9s C2.out _ _ | go_keep) ((first
    | (go_at_call 58
       with_reducible refine (turning_any x y W0.drew).mono ?_
       rintro e w1 ⟨p, hp, rfl, hb, hc, hc1⟩
       have hb0 := (Below.refl W0.heap.size W0).drew.trans (hb.mono (Nat.le_refl _))
       have C1 : Hid (RTR w w1 pc _ _ _ _) := C0.out.below hb0
       have P1 : Hid (w1.cell? ⟨p, 0, none⟩ = some (.int .i64 x) ∧ w1.cell? ⟨p, 1, none⟩ = some (.int .i64 y)) := ⟨hc, hc1⟩
       have kS := rtr9 C1.out
       clear hb hb0)
    | (go_at_call 57
       with_reducible refine (changed_turn n fine veh a ao av bi cap ko co kv cv c2 zs os vs ids w1 (HA.out.below C1.out.b) (HO.out.below C1.out.b) (HV.out.below C1.out.b) (HI.out.below C1.out.b) HLO.out HLV.out hko hkv hli hc2 HC.out p _ _ (fun W hW h12 => turnRound_any p x y bi c2 ids W ((hW.cell (p := ⟨p, 0, none⟩) (block_lt_of_cell P1.out.1)).trans P1.out.1) ((hW.cell (p := ⟨p, 1, none⟩) (block_lt_of_cell P1.out.2)).trans P1.out.2) (HI.out.below (C1.out.b.trans (hW.mono C1.out.b.size))) h12) ch HCh.out D HD.out xs HXs.out).mono ?_
       rintro e w2 ⟨hb, ad, cg, rfl, ho⟩
       rw [HVV.out]
       have C2 : Hid (RTR w w2 pc _ _ _ _) := C1.out.below hb
       have O2 : Hid (w2.ownsRow w1.heap.size 2 1 (.slice ad xs.length cg) xs.length _) := ho
       have kS := rtr9 C2.out
       obtain ⟨u0, u1⟩ := cells2 C2.out.z
       have uf := fun i => frozen_of_row _ _ i _ _ C2.out.z
       clear hb ho)))
  all_goals
    clear kS k9
    have LG : Hid (w.heap.size + 2 < w1.heap.size) := C1.out.big
    go_wp2
    refine bodyPost_ret (v := .tuple #[.agg #[.int .i64 vv, .slice ad xs.length cg], .int .i64 D, .bool ch]) (by simp [results, Try.results83, go_sem, u0, u1]) rfl ⟨?_, ad, cg, ?_, ?_⟩
    · repeat (first | with_reducible exact C2.out.b | refine Below.setCell ?_ (by simp <;> omega) _)
    · rw [HVV.out]
    · exact owns_base (owns_set (owns_set O2.out LG.out) LG.out) (by have := LG.out; omega)

end Go.Proofs.Ytkmghjogmedpbaa
