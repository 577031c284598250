import Derived.Test.YtpfikhegmmpogaaPack16
import Derived.Test.YtpfikhegmmpogaaPack17
import Derived.Test.YtpfikhegmmpogaaCloneAny
import Derived.Test.YtpfikhegmmpogaaPack27
namespace Go.Proofs.Ytpfikhegmmpogaa
open Go.RowKit

/-- A route and the answer's route, in their boxes. -/
def RB2 (w W : World) (rs : Array Value) : Prop := Below w.heap.size w W ∧ W.heap[w.heap.size]? = some (.cells rs 34 (0, 0)) ∧ W.heap[w.heap.size + 1]? = some (.cells #[Value.int IntKind.i64 0, Value.slice none 0 0] 34 (0, 0))
theorem RB2.new (w : World) (rs : Array Value) : RB2 w ((w.alloc (.cells rs 34)).alloc (.cells #[Value.int IntKind.i64 0, Value.slice none 0 0] 34)) rs := ⟨((Below.refl _ _).alloc (Nat.le_refl _) _).alloc (by simp) _, heap_alloc2_old _ _ _, heap_alloc2_new _ _ _⟩
theorem RB2.below {w W W' : World} {rs : Array Value} (h : RB2 w W rs) (hb : Below W.heap.size W W') : RB2 w W' rs := ⟨h.1.trans (hb.mono h.1.size), below_row hb (row_lt h.2.1) h.2.1, below_row hb (row_lt h.2.2) h.2.2⟩
theorem RB2.b {w W : World} {rs : Array Value} (h : RB2 w W rs) : Below w.heap.size w W := h.1
theorem RB2.cells {w W : World} {r0 r1 : Value} (h : RB2 w W #[r0, r1]) : W.cell? ⟨w.heap.size, 0, none⟩ = some r0 ∧ W.cell? ⟨w.heap.size, 1, none⟩ = some r1 := cells2 h.2.1
theorem RB2.cellss {w W : World} {r0 r1 : Value} (h : RB2 w W #[r0, r1]) (u v : Value) :
    (fun X : World => X.cell? ⟨w.heap.size, 0, none⟩ = some r0 ∧ X.cell? ⟨w.heap.size, 1, none⟩ = some r1) ((W.setCell ⟨w.heap.size + 1, 0, none⟩ u).setCell ⟨w.heap.size + 1, 1, none⟩ v) :=
  ⟨keep_set (keep_set h.cells.1 (by omega)) (by omega), keep_set (keep_set h.cells.2 (by omega)) (by omega)⟩

theorem CRR.r {w W : World} {cs rs ts : Array Value} (h : CRR w W cs rs ts) : CR w W cs rs := h.1
theorem CRR.bg {w W : World} {cs rs ts : Array Value} (h : CRR w W cs rs ts) : w.heap.size + 1 < W.heap.size := row_lt h.1.2.2
/-- Where the stops that descended tells do not lie. -/
theorem stops_off {w w3 : World} {k : Nat} {bi ad : Option Addr} {ids xs : List Int} (hI : IntsAt w bi ids) (hl : (ad = bi ∧ xs.length = ids.length) ∨ ∀ b' off', ad = some ⟨b', off', none⟩ → w3.heap.size + 2 < b') (h1 : w.heap.size ≤ k) (h2 : k ≤ w3.heap.size) :
    ∀ b' off', ad = some ⟨b', off', none⟩ → 0 < xs.length → b' ≠ k := by
  intro b' off' e h
  rcases hl with ⟨ha, hx⟩ | ha
  · obtain ⟨b2, off2, e2, hc⟩ := hI 0 (by omega)
    rw [← ha, e] at e2
    simp at e2
    obtain ⟨rfl, rfl⟩ := e2
    have := block_lt_of_cell hc
    simp at this
    omega
  · have := ha b' off' e
    omega

set_option maxHeartbeats 1000000 in
theorem copyOfRoute_any (veh : Int) (b off cc : Nat) (xs : List Int) (w : World) (hI : IntsAt w (some ⟨b, off, none⟩) xs) (hl : xs.length ≤ 12) :
    Calls Try.prog 66 #[.agg #[.int .i64 veh, .slice (some ⟨b, off, none⟩) xs.length cc]] w fun e w' => ∃ g c, e = .returned (.agg #[.int .i64 veh, .slice (some ⟨g, 0, none⟩) xs.length c]) ∧ Below w.heap.size w w' ∧ w'.ownsRow w.heap.size 2 1 (.slice (some ⟨g, 0, none⟩) xs.length c) xs.length (xs.map (Value.int .i64)) := by
  have HI : Hid (IntsAt w (some ⟨b, off, none⟩) xs) := hI
  clear hI
  have C0 : Hid (RB2 w ((w.alloc (.cells #[Value.int IntKind.i64 veh, Value.slice (some ⟨b, off, none⟩) xs.length cc] 34)).alloc (.cells #[Value.int IntKind.i64 0, Value.slice none 0 0] 34)) #[Value.int IntKind.i64 veh, Value.slice (some ⟨b, off, none⟩) xs.length cc]) := RB2.new w _
  go_enter Try.func66, Try.ntmps66
  go_wp2_with fail
  generalize ((w.alloc (.cells #[Value.int IntKind.i64 veh, Value.slice (some ⟨b, off, none⟩) xs.length cc] 34)).alloc (.cells #[Value.int IntKind.i64 0, Value.slice none 0 0] 34)) = W0 at *
  have kS := (C0.out.below (Below.refl _ _).drew).cells
  go_region_held3 (fun W => W.cell? ⟨w.heap.size, 0, none⟩ = some (.int .i64 veh) ∧ W.cell? ⟨w.heap.size, 1, none⟩ = some (.slice (some ⟨b, off, none⟩) xs.length cc)) (first | with_reducible exact kS | with_reducible exact RB2.cellss C1.out _ _) ((first
    | (go_at_call 109
       with_reducible refine (clone_ints b off cc xs W0.drew ((HI.out.below C0.out.b).below (Below.refl _ _).drew) (by omega)).mono ?_
       rintro e w1 ⟨g, cg, rfl, hb, ho⟩
       have C1 : Hid (RB2 w w1 #[Value.int IntKind.i64 veh, Value.slice (some ⟨b, off, none⟩) xs.length cc]) := C0.out.below ((Below.refl _ _).drew.trans (hb.mono (Nat.le_refl _)))
       have O1 : Hid (w1.ownsRow W0.heap.size 2 1 (.slice (some ⟨g, 0, none⟩) xs.length cg) xs.length (xs.map (Value.int .i64))) := ho
       have kS := C1.out.cells
       obtain ⟨u0, u1⟩ := cells2 C1.out.2.2
       have uf := fun i => frozen_of_row _ _ i _ _ C1.out.2.2
       clear hb ho)))
  all_goals
    clear kS
    have LG : Hid (w.heap.size + 1 < W0.heap.size) := row_lt C0.out.2.2
    go_wp2
    refine bodyPost_ret (v := .agg #[.int .i64 veh, .slice (some ⟨g, 0, none⟩) xs.length cg]) (by simp [results, Try.results66, go_sem, u0, u1]) rfl ⟨g, cg, rfl, ?_, ?_⟩
    · repeat (first | with_reducible exact C1.out.b | refine Below.setCell ?_ (by simp <;> omega) _)
    · exact owns_base (owns_set (owns_set O1.out LG.out) LG.out) (by have := LG.out; omega)

theorem own_any1 {w : World} {base k : Nat} {v : Value} {e : TypeId} {size : Nat} {xs : List Value} (h : w.ownsRow base e size v k xs) : ∃ ao co, v = .slice ao k co := by
  obtain ⟨_, ⟨h1, h2⟩ | ⟨g', cap, cur, h2, _⟩⟩ := h
  · exact ⟨none, 0, by rw [h1, h2]⟩
  · exact ⟨_, _, h2⟩

set_option maxHeartbeats 1000000 in
theorem copyOfRoute_opt (veh : Int) (bi : Option Addr) (cc : Nat) (xs : List Int) (w : World) (hI : IntsAt w bi xs) (hl : xs.length ≤ 12) (hbi : AdO bi) :
    Calls Try.prog 66 #[.agg #[.int .i64 veh, .slice bi xs.length cc]] w fun e w' => ∃ ad c, e = .returned (.agg #[.int .i64 veh, .slice ad xs.length c]) ∧ Below w.heap.size w w' ∧ w'.ownsRow w.heap.size 2 1 (.slice ad xs.length c) xs.length (xs.map (Value.int .i64)) := by
  have HI : Hid (IntsAt w bi xs) := hI
  clear hI
  have HBI : Hid ((bi = none ∧ xs.length = 0) ∨ ∃ b off, bi = some ⟨b, off, none⟩) := by
    rcases hbi with h | h
    · refine .inl ⟨h, ?_⟩
      rcases Nat.eq_zero_or_pos xs.length with h0 | h0
      · exact h0
      · obtain ⟨b, off, e, _⟩ := HI.out 0 h0
        rw [h] at e
        cases e
    · exact .inr h
  clear hbi
  have C0 : Hid (RB2 w ((w.alloc (.cells #[Value.int IntKind.i64 veh, Value.slice bi xs.length cc] 34)).alloc (.cells #[Value.int IntKind.i64 0, Value.slice none 0 0] 34)) #[Value.int IntKind.i64 veh, Value.slice bi xs.length cc]) := RB2.new w _
  go_enter Try.func66, Try.ntmps66
  go_wp2_with fail
  generalize ((w.alloc (.cells #[Value.int IntKind.i64 veh, Value.slice bi xs.length cc] 34)).alloc (.cells #[Value.int IntKind.i64 0, Value.slice none 0 0] 34)) = W0 at *
  have kS := (C0.out.below (Below.refl _ _).drew).cells
  go_region_held3 (fun W => W.cell? ⟨w.heap.size, 0, none⟩ = some (.int .i64 veh) ∧ W.cell? ⟨w.heap.size, 1, none⟩ = some (.slice bi xs.length cc)) (first | with_reducible exact kS | with_reducible exact RB2.cellss C1.out _ _) ((first
    | (go_at_call 109
       with_reducible refine (clone_any bi cc xs.length xs W0.drew ((HI.out.below C0.out.b).below (Below.refl _ _).drew) rfl (by omega) HBI.out).mono ?_
       rintro e w1 ⟨sl, rfl, hb, ho⟩
       obtain ⟨ad, cg, e⟩ := own_any1 ho
       subst e
       have C1 : Hid (RB2 w w1 #[Value.int IntKind.i64 veh, Value.slice bi xs.length cc]) := C0.out.below ((Below.refl _ _).drew.trans (hb.mono (Nat.le_refl _)))
       have O1 : Hid (w1.ownsRow W0.heap.size 2 1 (.slice ad xs.length cg) xs.length (xs.map (Value.int .i64))) := ho
       have kS := C1.out.cells
       obtain ⟨u0, u1⟩ := cells2 C1.out.2.2
       have uf := fun i => frozen_of_row _ _ i _ _ C1.out.2.2
       clear hb ho)))
  all_goals
    clear kS
    have LG : Hid (w.heap.size + 1 < W0.heap.size) := row_lt C0.out.2.2
    go_wp2
    refine bodyPost_ret (v := .agg #[.int .i64 veh, .slice ad xs.length cg]) (by simp [results, Try.results66, go_sem, u0, u1]) rfl ⟨ad, cg, rfl, ?_, ?_⟩
    · repeat (first | with_reducible exact C1.out.b | refine Below.setCell ?_ (by simp <;> omega) _)
    · exact owns_base (owns_set (owns_set O1.out LG.out) LG.out) (by have := LG.out; omega)

set_option maxHeartbeats 4000000 in
theorem implPolished_opt (n fine veh : Int) (a ao av bi : Option Addr) (cap ko co kv cv c2 : Nat) (zs os vs ids : List Int) (w : World) (hA : IntsAt w a zs) (hO : IntsAt w ao os) (hV : IntsAt w av vs) (hI : IntsAt w bi ids) (hlo : os.length = ko * 6) (hlv : vs.length = kv * 5) (hko : ko ≤ 9223372036854775807) (hkv : kv ≤ 9223372036854775807) (hli : ids.length ≤ 9223372036854775807) (hc2 : ids.length ≤ c2) (hbi : AdO bi) (ok : Bool) (hok : decide (codeV (caseB n zs os vs ko kv fine) n zs os vs ko kv veh ids = 0) = ok) (xs : List Int) (hxs : chL ok (polV n zs os vs ko kv veh ids) = xs) :
    Calls Try.prog 16 #[.agg #[.int .i64 n, .slice a zs.length cap, .slice ao ko co, .slice av kv cv, .int .i64 fine], .agg #[.int .i64 veh, .slice bi ids.length c2]] w (PolOk w ok veh xs) := by
  have HA : Hid (IntsAt w a zs) := hA
  have HO : Hid (IntsAt w ao os) := hO
  have HV : Hid (IntsAt w av vs) := hV
  have HI : Hid (IntsAt w bi ids) := hI
  have HLO : Hid _ := hlo
  have HLV : Hid _ := hlv
  have HBI : Hid (AdO bi) := hbi
  clear hA hO hV hI hlo hlv hbi
  have HOK : Hid (decide (codeV (caseB n zs os vs ko kv fine) n zs os vs ko kv veh ids = 0) = ok) := hok
  have HXs : Hid (chL ok (polV n zs os vs ko kv veh ids) = xs) := hxs
  clear hok hxs
  have C0 : Hid (CRR w (((w.alloc (.cells #[Value.int IntKind.i64 n, Value.slice a zs.length cap, Value.slice ao ko co, Value.slice av kv cv, Value.int IntKind.i64 fine] 30)).alloc (.cells #[Value.int IntKind.i64 veh, Value.slice bi ids.length c2] 34)).alloc (.cells #[Value.int IntKind.i64 0, Value.slice none 0 0] 34)) #[Value.int IntKind.i64 n, Value.slice a zs.length cap, Value.slice ao ko co, Value.slice av kv cv, Value.int IntKind.i64 fine] #[Value.int IntKind.i64 veh, Value.slice bi ids.length c2] #[Value.int IntKind.i64 0, Value.slice none 0 0]) := CRR.new w _ _ _
  go_enter Try.func16, Try.ntmps16
  obtain ⟨c0, c1, c2', c3, c4⟩ := cells5 C0.out.1.2.1
  obtain ⟨d0, d1⟩ := cells2 C0.out.1.2.2
  go_wp2_with fail
  clear c0 c1 c2' c3 c4 d0 d1
  refine (checkedTour_any n fine veh a ao av _ cap ko co kv cv c2 zs os vs ids _ (HA.out.below C0.out.b) (HO.out.below C0.out.b) (HV.out.below C0.out.b) (HI.out.below C0.out.b) HLO.out HLV.out hko hkv hli hc2).mono ?_
  rintro e w1 ⟨hb, ⟨hf, rfl⟩ | ⟨hf, g, _, rfl, _⟩⟩
  · have C1 : Hid (CRR w (w1.alloc (.cells #[Value.int IntKind.i64 0, Value.slice none 0 0, Value.int IntKind.i64 0, Value.int IntKind.i64 0, Value.int IntKind.i64 0, Value.int IntKind.i64 0, Value.int IntKind.i64 0, Value.slice none 0 0] 97)) #[Value.int IntKind.i64 n, Value.slice a zs.length cap, Value.slice ao ko co, Value.slice av kv cv, Value.int IntKind.i64 fine] #[Value.int IntKind.i64 veh, Value.slice bi ids.length c2] #[Value.int IntKind.i64 0, Value.slice none 0 0]) := (C0.out.below hb).alloc _
    have hk : ok = false := HOK.out.symm.trans (decide_eq_false hf)
    subst hk
    have HX : Hid (xs = []) := HXs.out.symm
    obtain ⟨fv, HFV⟩ : ∃ t, Hid (codeV (caseB n zs os vs ko kv fine) n zs os vs ko kv veh ids = t) := ⟨_, rfl⟩
    rw [HFV.out] at hf ⊢
    have hfb : (fv != 0) = true := by simp [hf]
    clear hb hf
    obtain ⟨t0, t1⟩ := cells2 C1.out.2
    have tf := fun i => frozen_of_row _ _ i _ _ C1.out.2
    go_wp2
    refine bodyPost_ret (v := .tuple #[.agg #[Value.int IntKind.i64 0, Value.slice none 0 0], .bool false]) (by simp [results, Try.results16, go_sem, t0, t1]) rfl ⟨?_, none, 0, ?_, ?_⟩
    · repeat (first | with_reducible exact C1.out.b | refine Below.setCell ?_ (by simp <;> omega) _)
    · rw [HX.out]; rfl
    · rw [HX.out]; exact World.ownsRow_nil _ _ _ _
  · have hcb := code_case hf
    have hk : ok = true := HOK.out.symm.trans (decide_eq_true hf)
    subst hk
    have HPO : Hid (polV n zs os vs ko kv veh ids = xs) := HXs.out
    have HC : Hid (caseB n zs os vs ko kv fine = true) := hcb
    have hz2 := hf
    rw [hcb] at hz2
    have HZ1 : Hid (codeV true n zs os vs ko kv veh ids = 0) := hz2
    obtain ⟨v0, G0⟩ : ∃ t, Hid (fnd5F vs kv veh 0 = t) := ⟨_, rfl⟩
    obtain ⟨v1, G1⟩ : ∃ t, Hid (fnd5F vs kv veh 1 = t) := ⟨_, rfl⟩
    obtain ⟨v2, G2⟩ : ∃ t, Hid (fnd5F vs kv veh 2 = t) := ⟨_, rfl⟩
    obtain ⟨v3, G3⟩ : ∃ t, Hid (fnd5F vs kv veh 3 = t) := ⟨_, rfl⟩
    obtain ⟨v4, G4⟩ : ∃ t, Hid (fnd5F vs kv veh 4 = t) := ⟨_, rfl⟩
    rw [G0.out, G1.out, G2.out, G3.out, G4.out]
    have C1 : Hid (CRR w (w1.alloc (.cells #[Value.int IntKind.i64 n, Value.slice a zs.length cap, Value.int IntKind.i64 v0, Value.int IntKind.i64 v1, Value.int IntKind.i64 v2, Value.int IntKind.i64 v3, Value.int IntKind.i64 v4, Value.slice (some ⟨g, 0, none⟩) ids.length ids.length] 97)) #[Value.int IntKind.i64 n, Value.slice a zs.length cap, Value.slice ao ko co, Value.slice av kv cv, Value.int IntKind.i64 fine] #[Value.int IntKind.i64 veh, Value.slice bi ids.length c2] #[Value.int IntKind.i64 0, Value.slice none 0 0]) := (C0.out.below hb).alloc _
    clear hb hf hcb hz2 G0 G1 G2 G3 G4
    go_wp2_with fail
    generalize w1.alloc (.cells #[Value.int IntKind.i64 n, Value.slice a zs.length cap, Value.int IntKind.i64 v0, Value.int IntKind.i64 v1, Value.int IntKind.i64 v2, Value.int IntKind.i64 v3, Value.int IntKind.i64 v4, Value.slice (some ⟨g, 0, none⟩) ids.length ids.length] 97) = w2 at *
    have kS := cr7 (C1.out.below (Below.refl _ _).drew).1
    go_region_held3 (fun W => W.cell? ⟨w.heap.size, 0, none⟩ = some (.int .i64 n) ∧ W.cell? ⟨w.heap.size, 1, none⟩ = some (.slice a zs.length cap) ∧ W.cell? ⟨w.heap.size, 2, none⟩ = some (.slice ao ko co) ∧ W.cell? ⟨w.heap.size, 3, none⟩ = some (.slice av kv cv) ∧ W.cell? ⟨w.heap.size, 4, none⟩ = some (.int .i64 fine) ∧ W.cell? ⟨w.heap.size + 1, 0, none⟩ = some (.int .i64 veh) ∧ W.cell? ⟨w.heap.size + 1, 1, none⟩ = some (.slice bi ids.length c2)) (first | with_reducible exact kS | with_reducible exact cr7s C4.out.r C1.out.bg _ _ | with_reducible exact cr7s C4.out.r C3.out.bg _ _ | with_reducible exact cr7 (CR.alloc C4.out.r _) | with_reducible exact cr7 (CR.alloc C3.out.r _) | with_reducible exact cr7 (CR.drew (CR.alloc C1.out.r _))) ((first
      | (go_at_call 64
         with_reducible refine (turns_any _ w2.drew n fine a ao av cap ko co kv cv zs.length rfl).mono ?_
         rintro e w3 ⟨pc, rfl, hb, hpc⟩
         have C3 : Hid (CRR w w3 #[Value.int IntKind.i64 n, Value.slice a zs.length cap, Value.slice ao ko co, Value.slice av kv cv, Value.int IntKind.i64 fine] #[Value.int IntKind.i64 veh, Value.slice bi ids.length c2] #[Value.int IntKind.i64 0, Value.slice none 0 0]) := (C1.out.below (Below.refl _ _).drew).below hb
         have P3 : Hid (w3.heap[pc]? = some (.cells #[Value.int IntKind.i64 n, Value.slice a zs.length cap, Value.slice ao ko co, Value.slice av kv cv, Value.int IntKind.i64 fine] 30 (0, 0))) := hpc
         have kS := cr7 C3.out.r
         clear hb hpc)
      | (go_at_call 64
         with_reducible refine (turns_any _ (w2.alloc (Obj.cells #[Value.int IntKind.i64 0, Value.slice none 0 0] 34)).drew n fine a ao av cap ko co kv cv zs.length rfl).mono ?_
         rintro e w3 ⟨pc, rfl, hb, hpc⟩
         have C3 : Hid (CRR w w3 #[Value.int IntKind.i64 n, Value.slice a zs.length cap, Value.slice ao ko co, Value.slice av kv cv, Value.int IntKind.i64 fine] #[Value.int IntKind.i64 veh, Value.slice bi ids.length c2] #[Value.int IntKind.i64 0, Value.slice none 0 0]) := ((C1.out.alloc (Obj.cells #[Value.int IntKind.i64 0, Value.slice none 0 0] 34)).below (Below.refl _ _).drew).below hb
         have P3 : Hid (w3.heap[pc]? = some (.cells #[Value.int IntKind.i64 n, Value.slice a zs.length cap, Value.slice ao ko co, Value.slice av kv cv, Value.int IntKind.i64 fine] 30 (0, 0))) := hpc
         have V3 := below_row hb (k := w2.heap.size) (by simp) (heap_alloc_new w2 (Obj.cells #[Value.int IntKind.i64 0, Value.slice none 0 0] 34))
         have kS := cr7 C3.out.r
         clear hb hpc)
      | (go_at_call 65
         with_reducible refine (descended_any n fine veh a ao av bi cap ko co kv cv c2 zs os vs ids w3 (HA.out.below C3.out.b) (HO.out.below C3.out.b) (HV.out.below C3.out.b) (HI.out.below C3.out.b) HLO.out HLV.out hko hkv hli hc2 HBI.out HC.out pc P3.out HZ1.out xs HPO.out).mono ?_
         rintro e w4 ⟨ad, cc, cnt, rfl, hadr, hlw, hb, hix, hx12⟩
         have C4 : Hid (CRR w w4 #[Value.int IntKind.i64 n, Value.slice a zs.length cap, Value.slice ao ko co, Value.slice av kv cv, Value.int IntKind.i64 fine] #[Value.int IntKind.i64 veh, Value.slice bi ids.length c2] #[Value.int IntKind.i64 0, Value.slice none 0 0]) := C3.out.below hb
         have I4 : Hid (AdO ad ∧ IntsAt w4 ad xs ∧ xs.length ≤ 12 ∧ w3.heap.size ≤ w4.heap.size) := ⟨hadr, hix, hx12, hb.size⟩
         try (have V4 := below_row hb (row_lt V3) V3
              obtain ⟨z0, z1⟩ := cells2 V4
              have zf := fun i => frozen_of_row _ _ i _ _ V4
              have L4 : Hid (∀ b off, ad = some ⟨b, off, none⟩ → 0 < xs.length → b ≠ w2.heap.size) := stops_off HI.out hlw (by have := C1.out.big; omega) (Nat.le_of_lt (row_lt V3)))
         have kS := cr7 C4.out.r
         clear hb hadr hlw hix hx12)
      | (go_at_call 65
         with_reducible refine (descended_any n fine veh a ao av bi cap ko co kv cv c2 zs os vs ids (w3.alloc (Obj.cells #[Value.int IntKind.i64 0, Value.slice none 0 0] 34)) (HA.out.below (C3.out.alloc (Obj.cells #[Value.int IntKind.i64 0, Value.slice none 0 0] 34)).b) (HO.out.below (C3.out.alloc (Obj.cells #[Value.int IntKind.i64 0, Value.slice none 0 0] 34)).b) (HV.out.below (C3.out.alloc (Obj.cells #[Value.int IntKind.i64 0, Value.slice none 0 0] 34)).b) (HI.out.below (C3.out.alloc (Obj.cells #[Value.int IntKind.i64 0, Value.slice none 0 0] 34)).b) HLO.out HLV.out hko hkv hli hc2 HBI.out HC.out pc (below_row ((Below.refl _ _).alloc (Nat.le_refl _) _) (row_lt P3.out) P3.out) HZ1.out xs HPO.out).mono ?_
         rintro e w4 ⟨ad, cc, cnt, rfl, hadr, hlw, hb, hix, hx12⟩
         have C4 : Hid (CRR w w4 #[Value.int IntKind.i64 n, Value.slice a zs.length cap, Value.slice ao ko co, Value.slice av kv cv, Value.int IntKind.i64 fine] #[Value.int IntKind.i64 veh, Value.slice bi ids.length c2] #[Value.int IntKind.i64 0, Value.slice none 0 0]) := (C3.out.alloc (Obj.cells #[Value.int IntKind.i64 0, Value.slice none 0 0] 34)).below hb
         have I4 : Hid (AdO ad ∧ IntsAt w4 ad xs ∧ xs.length ≤ 12 ∧ w3.heap.size ≤ w4.heap.size) := ⟨hadr, hix, hx12, by have := hb.size; simp at this; omega⟩
         have V4 := below_row hb (k := w3.heap.size) (by simp) (heap_alloc_new w3 (Obj.cells #[Value.int IntKind.i64 0, Value.slice none 0 0] 34))
         obtain ⟨z0, z1⟩ := cells2 V4
         have zf := fun i => frozen_of_row _ _ i _ _ V4
         have L4 : Hid (∀ b off, ad = some ⟨b, off, none⟩ → 0 < xs.length → b ≠ w3.heap.size) := stops_off HI.out hlw (by have := C3.out.big; omega) (by simp)
         have kS := cr7 C4.out.r
         clear hb hadr hlw hix hx12)))
    all_goals
      clear kS
      obtain ⟨had, hix, hx12, _⟩ := I4.out
      have HAD : Hid (AdO ad) := had
      clear had
      have IX : Hid (IntsAt w4 ad xs) := hix
      clear hix
      first
        | (have V5 : w4.heap[w2.heap.size]? = _ := V4
           have CF : Hid (CRR w ((w4.setCell ⟨w2.heap.size, 0, none⟩ (.int .i64 veh)).setCell ⟨w2.heap.size, 1, none⟩ (.slice ad xs.length cc)) #[Value.int IntKind.i64 n, Value.slice a zs.length cap, Value.slice ao ko co, Value.slice av kv cv, Value.int IntKind.i64 fine] #[Value.int IntKind.i64 veh, Value.slice bi ids.length c2] #[Value.int IntKind.i64 0, Value.slice none 0 0]) := (C4.out.put C1.out.big).put C1.out.big
           have VF : Hid (((w4.setCell ⟨w2.heap.size, 0, none⟩ (.int .i64 veh)).setCell ⟨w2.heap.size, 1, none⟩ (.slice ad xs.length cc)).heap[w2.heap.size]? = some (.cells #[Value.int IntKind.i64 veh, Value.slice ad xs.length cc] 34 (0, 0))) := box_set2 V4
           have IF : Hid (IntsAt ((w4.setCell ⟨w2.heap.size, 0, none⟩ (.int .i64 veh)).setCell ⟨w2.heap.size, 1, none⟩ (.slice ad xs.length cc)) ad xs) := ints_low (ints_low IX.out L4.out) L4.out
           clear z0 z1 zf V5
           generalize ((w4.setCell ⟨w2.heap.size, 0, none⟩ (.int .i64 veh)).setCell ⟨w2.heap.size, 1, none⟩ (.slice ad xs.length cc)) = WF at *
           generalize w2.heap.size = bt at *)
        | (have V5 : w4.heap[w3.heap.size]? = _ := V4
           have CF : Hid (CRR w ((w4.setCell ⟨w3.heap.size, 0, none⟩ (.int .i64 veh)).setCell ⟨w3.heap.size, 1, none⟩ (.slice ad xs.length cc)) #[Value.int IntKind.i64 n, Value.slice a zs.length cap, Value.slice ao ko co, Value.slice av kv cv, Value.int IntKind.i64 fine] #[Value.int IntKind.i64 veh, Value.slice bi ids.length c2] #[Value.int IntKind.i64 0, Value.slice none 0 0]) := (C4.out.put C3.out.big).put C3.out.big
           have VF : Hid (((w4.setCell ⟨w3.heap.size, 0, none⟩ (.int .i64 veh)).setCell ⟨w3.heap.size, 1, none⟩ (.slice ad xs.length cc)).heap[w3.heap.size]? = some (.cells #[Value.int IntKind.i64 veh, Value.slice ad xs.length cc] 34 (0, 0))) := box_set2 V4
           have IF : Hid (IntsAt ((w4.setCell ⟨w3.heap.size, 0, none⟩ (.int .i64 veh)).setCell ⟨w3.heap.size, 1, none⟩ (.slice ad xs.length cc)) ad xs) := ints_low (ints_low IX.out L4.out) L4.out
           clear z0 z1 zf V5
           generalize ((w4.setCell ⟨w3.heap.size, 0, none⟩ (.int .i64 veh)).setCell ⟨w3.heap.size, 1, none⟩ (.slice ad xs.length cc)) = WF at *
           generalize w3.heap.size = bt at *)
        | (have CF : Hid (CRR w (w4.alloc (Obj.cells #[Value.int IntKind.i64 veh, Value.slice ad xs.length cc] 34)) #[Value.int IntKind.i64 n, Value.slice a zs.length cap, Value.slice ao ko co, Value.slice av kv cv, Value.int IntKind.i64 fine] #[Value.int IntKind.i64 veh, Value.slice bi ids.length c2] #[Value.int IntKind.i64 0, Value.slice none 0 0]) := C4.out.alloc _
           have VF : Hid ((w4.alloc (Obj.cells #[Value.int IntKind.i64 veh, Value.slice ad xs.length cc] 34)).heap[w4.heap.size]? = some (.cells #[Value.int IntKind.i64 veh, Value.slice ad xs.length cc] 34 (0, 0))) := heap_alloc_new _ _
           have IF : Hid (IntsAt (w4.alloc (Obj.cells #[Value.int IntKind.i64 veh, Value.slice ad xs.length cc] 34)) ad xs) := IX.out.below ((Below.refl _ _).alloc (Nat.le_refl _) _)
           generalize w4.alloc (Obj.cells #[Value.int IntKind.i64 veh, Value.slice ad xs.length cc] 34) = WF at *
           generalize w4.heap.size = bt at *)
      obtain ⟨f0, f1⟩ := cells2 VF.out
      go_wp2_with fail
      clear f0 f1
      refine (copyOfRoute_opt veh ad cc xs WF IF.out hx12 HAD.out).mono ?_
      rintro e w5 ⟨ad5, c5, rfl, hb, ho⟩
      have CG : Hid (CRR w w5 #[Value.int IntKind.i64 n, Value.slice a zs.length cap, Value.slice ao ko co, Value.slice av kv cv, Value.int IntKind.i64 fine] #[Value.int IntKind.i64 veh, Value.slice bi ids.length c2] #[Value.int IntKind.i64 0, Value.slice none 0 0]) := CF.out.below hb
      have OG : Hid (w5.ownsRow WF.heap.size 2 1 (.slice ad5 xs.length c5) xs.length _) := ho
      have LG : Hid (w.heap.size + 2 < WF.heap.size) := CF.out.big
      clear hb ho
      obtain ⟨t0, t1⟩ := cells2 CG.out.2
      have tf := fun i => frozen_of_row _ _ i _ _ CG.out.2
      go_wp2
      refine bodyPost_ret (v := .tuple #[.agg #[.int .i64 veh, .slice ad5 xs.length c5], .bool true]) (by simp [results, Try.results16, go_sem, t0, t1]) rfl ⟨?_, ad5, c5, rfl, ?_⟩
      · repeat (first | with_reducible exact CG.out.b | refine Below.setCell ?_ (by simp <;> omega) _)
      · exact owns_base (owns_set (owns_set OG.out LG.out) LG.out) (by have := LG.out; omega)
theorem implPolished_any (n fine veh : Int) (a ao av : Option Addr) (b off : Nat) (cap ko co kv cv c2 : Nat) (zs os vs ids : List Int) (w : World) (hA : IntsAt w a zs) (hO : IntsAt w ao os) (hV : IntsAt w av vs) (hI : IntsAt w (some ⟨b, off, none⟩) ids) (hlo : os.length = ko * 6) (hlv : vs.length = kv * 5) (hko : ko ≤ 9223372036854775807) (hkv : kv ≤ 9223372036854775807) (hli : ids.length ≤ 9223372036854775807) (hc2 : ids.length ≤ c2) (ok : Bool) (hok : decide (codeV (caseB n zs os vs ko kv fine) n zs os vs ko kv veh ids = 0) = ok) (xs : List Int) (hxs : chL ok (polV n zs os vs ko kv veh ids) = xs) :
    Calls Try.prog 16 #[.agg #[.int .i64 n, .slice a zs.length cap, .slice ao ko co, .slice av kv cv, .int .i64 fine], .agg #[.int .i64 veh, .slice (some ⟨b, off, none⟩) ids.length c2]] w (PolOk w ok veh xs) :=
  implPolished_opt n fine veh a ao av _ cap ko co kv cv c2 zs os vs ids w hA hO hV hI hlo hlv hko hkv hli hc2 (.inr ⟨b, off, rfl⟩) ok hok xs hxs


end Go.Proofs.Ytpfikhegmmpogaa
