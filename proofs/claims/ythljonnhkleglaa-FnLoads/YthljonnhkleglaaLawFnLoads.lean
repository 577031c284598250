import Derived.Test.YthljonnhkleglaaPack0
import Derived.Test.YthljonnhkleglaaPack1
import Derived.Test.YthljonnhkleglaaDrawLoad
import Derived.Test.YthljonnhkleglaaPack10
import Derived.Deep.CutRange
namespace Go.Proofs.Ythljonnhkleglaa
open Go.RowKit

set_option maxHeartbeats 400000 in
theorem lawFnLoads_big (a : Option Addr) (c len : Nat) (w : World) (hl : len ≤ 9223372036854775807) (h : 1048576 < len) :
    Calls Try.prog 3 #[.slice a len c] w fun e w' => e = .returned (.bool true) ∧ Below w.heap.size w w' := by
  have hd : decide (1048576 < len) = true := decide_eq_true h
  go_enter Try.func3, Try.ntmps3
  go_wp2_with (go_at_call 7; refine (big_any a c len w hl).mono ?_; rintro e w1 ⟨rfl, hw1⟩; subst w1; rw [hd])
  go_ret
  exact ⟨rfl, Below.refl _ _⟩

theorem mod_facts {L m : Nat} (hm : 0 < m) : ((L : Int).tmod (m : Int) = ((L % m : Nat) : Int)) ∧ ((L : Int) % (m : Int) = ((L % m : Nat) : Int)) ∧ L % m < m := by
  refine ⟨?_, by simp, Nat.mod_lt _ hm⟩
  rw [Int.tmod_eq_emod_of_nonneg (by omega)]
  simp

/-- Inside the law: the case in its box, its rows, the list. -/
structure LL (w W : World) (k : Nat) (cs : Array Value) (g go gv : Nat) (zs O V : List Int) (g2 : Nat) (L : List Int) : Prop where
  b : Below w.heap.size w W
  b1 : W.heap[k]? = some (.cells cs 30 (0, 0))
  iz : IntsAt W (some ⟨g, 0, none⟩) zs
  io : IntsAt W (some ⟨go, 0, none⟩) O
  iv : IntsAt W (some ⟨gv, 0, none⟩) V
  il : IntsAt W (some ⟨g2, 0, none⟩) L
theorem LL.below {w W W' : World} {k : Nat} {cs : Array Value} {g go gv : Nat} {zs O V : List Int} {g2 : Nat} {L : List Int} (h : LL w W k cs g go gv zs O V g2 L) (hb : Below W.heap.size W W') : LL w W' k cs g go gv zs O V g2 L :=
  ⟨h.b.trans (hb.mono h.b.size), below_row hb (row_lt h.b1) h.b1, h.iz.below hb, h.io.below hb, h.iv.below hb, h.il.below hb⟩
theorem int_at {W : World} {g : Nat} {xs : List Int} (h : IntsAt W (some ⟨g, 0, none⟩) xs) {j : Nat} (hj : j < xs.length) : W.cell? ⟨g, j, none⟩ = some (.int .i64 (xs.getD j 0)) := by
  obtain ⟨_, _, e, hc⟩ := h j hj
  simp at e
  obtain ⟨rfl, rfl⟩ := e
  simpa using hc

theorem LL.keepO {w W : World} {k : Nat} {n fi : Int} {zl cg ko co kv cv : Nat} {g go gv : Nat} {zs O V : List Int} {g2 : Nat} {L : List Int} (h : LL w W k #[.int .i64 n, .slice (some ⟨g, 0, none⟩) zl cg, .slice (some ⟨go, 0, none⟩) ko co, .slice (some ⟨gv, 0, none⟩) kv cv, .int .i64 fi] g go gv zs O V g2 L) {j : Nat} {x : Int} (hj : j < O.length) (hx : O.getD j 0 = x) : W.cell? ⟨k, 0, none⟩ = some (.int .i64 n) ∧ W.cell? ⟨k, 1, none⟩ = some (.slice (some ⟨g, 0, none⟩) zl cg) ∧ W.cell? ⟨k, 2, none⟩ = some (.slice (some ⟨go, 0, none⟩) ko co) ∧ W.cell? ⟨k, 3, none⟩ = some (.slice (some ⟨gv, 0, none⟩) kv cv) ∧ W.cell? ⟨k, 4, none⟩ = some (.int .i64 fi) ∧ W.cell? ⟨go, j, none⟩ = some (.int .i64 x) := by
  obtain ⟨d0, d1, d2, d3, d4⟩ := cells5z h.b1
  rw [← hx]
  exact ⟨d0, d1, d2, d3, d4, int_at h.io hj⟩
theorem LL.keepV {w W : World} {k : Nat} {n fi : Int} {zl cg ko co kv cv : Nat} {g go gv : Nat} {zs O V : List Int} {g2 : Nat} {L : List Int} (h : LL w W k #[.int .i64 n, .slice (some ⟨g, 0, none⟩) zl cg, .slice (some ⟨go, 0, none⟩) ko co, .slice (some ⟨gv, 0, none⟩) kv cv, .int .i64 fi] g go gv zs O V g2 L) {j : Nat} {x : Int} (hj : j < V.length) (hx : V.getD j 0 = x) : W.cell? ⟨k, 0, none⟩ = some (.int .i64 n) ∧ W.cell? ⟨k, 1, none⟩ = some (.slice (some ⟨g, 0, none⟩) zl cg) ∧ W.cell? ⟨k, 2, none⟩ = some (.slice (some ⟨go, 0, none⟩) ko co) ∧ W.cell? ⟨k, 3, none⟩ = some (.slice (some ⟨gv, 0, none⟩) kv cv) ∧ W.cell? ⟨k, 4, none⟩ = some (.int .i64 fi) ∧ W.cell? ⟨gv, j, none⟩ = some (.int .i64 x) := by
  obtain ⟨d0, d1, d2, d3, d4⟩ := cells5z h.b1
  rw [← hx]
  exact ⟨d0, d1, d2, d3, d4, int_at h.iv hj⟩

set_option maxRecDepth 10000 in
set_option maxHeartbeats 4000000 in
theorem lawFnLoads (a : Option Addr) (ca : Nat) (bs : List Int) (w : World) (hA : CodeAt w a bs) (hl : bs.length ≤ 1048576) :
    Calls Try.prog 3 #[.slice a bs.length ca] w fun e w' => e = .returned (.bool true) ∧ Below w.heap.size w w' := by
  have HA : Hid (CodeAt w a bs) := hA
  clear hA
  have hd : decide (1048576 < bs.length) = false := decide_eq_false (by omega)
  go_enter Try.func3, Try.ntmps3
  go_wp2_with fail
  refine (big_any a ca bs.length w (by omega)).mono ?_
  rintro e w1 ⟨rfl, hw1⟩
  subst w1
  rw [hd]
  clear hd
  go_wp2_with fail
  refine (drawLoad_any a ca bs w HA.out hl).mono ?_
  rintro e w1 ⟨n, g, zl, cg, go, ko, co, gv, kv, cv, g2, c2, zs, O, V, L, fi, rfl, ⟨hz, hO, hV, hko1, hko5, hkv1, hkv3⟩, ⟨hL8, hLc⟩, hb, iz, io, iv, il⟩
  obtain ⟨N, HLb⟩ : ∃ v, Hid (bs.length = v) := ⟨_, rfl⟩
  rw [HLb.out] at hl ⊢
  obtain ⟨m, HM⟩ : ∃ v, Hid (L.length = v) := ⟨_, rfl⟩
  rw [HM.out] at hL8 hLc ⊢
  have HZ : Hid (zs.length = zl) := hz
  have HO : Hid (O.length = ko * 6) := hO
  have HV : Hid (V.length = kv * 5) := hV
  have L1 : Hid (LL w (w1.alloc (.cells #[.int .i64 n, .slice (some ⟨g, 0, none⟩) zl cg, .slice (some ⟨go, 0, none⟩) ko co, .slice (some ⟨gv, 0, none⟩) kv cv, .int .i64 fi] 30)) w1.heap.size #[.int .i64 n, .slice (some ⟨g, 0, none⟩) zl cg, .slice (some ⟨go, 0, none⟩) ko co, .slice (some ⟨gv, 0, none⟩) kv cv, .int .i64 fi] g go gv zs O V g2 L) := by
    have ha : Below w1.heap.size w1 (w1.alloc (.cells #[.int .i64 n, .slice (some ⟨g, 0, none⟩) zl cg, .slice (some ⟨go, 0, none⟩) ko co, .slice (some ⟨gv, 0, none⟩) kv cv, .int .i64 fi] 30)) := (Below.refl _ _).alloc (Nat.le_refl _) _
    exact ⟨hb.alloc hb.size _, heap_alloc_new _ _, iz.below ha, io.below ha, iv.below ha, il.below ha⟩
  clear hz hO hV hb iz io iv il
  obtain ⟨cb, HCB⟩ : ∃ v, Hid (caseB n zs O V ko kv fi = v) := ⟨_, rfl⟩
  have ILO : Hid (∀ W k ad (l : List Int) c3, LL w W k #[.int .i64 n, .slice (some ⟨g, 0, none⟩) zl cg, .slice (some ⟨go, 0, none⟩) ko co, .slice (some ⟨gv, 0, none⟩) kv cv, .int .i64 fi] g go gv zs O V g2 L → IntsAt W ad l → l.length ≤ 100 → Calls Try.prog 9 #[.agg #[.int .i64 n, .slice (some ⟨g, 0, none⟩) zl cg, .slice (some ⟨go, 0, none⟩) ko co, .slice (some ⟨gv, 0, none⟩) kv cv, .int .i64 fi], .slice ad l.length c3] W fun e w' => e = .returned (.int .i64 (loadV cb O ko l)) ∧ Below W.heap.size W w') := fun W k ad l c3 h h2 h3 => by
    have := implLoad_any n fi _ _ _ ad cg ko co kv cv c3 zs O V l W h.iz h.io h.iv h2 HO.out HV.out (by omega) (by omega) (by omega)
    rw [HZ.out, HCB.out] at this
    exact this
  have SLO : Hid (∀ W k, LL w W k #[.int .i64 n, .slice (some ⟨g, 0, none⟩) zl cg, .slice (some ⟨go, 0, none⟩) ko co, .slice (some ⟨gv, 0, none⟩) kv cv, .int .i64 fi] g go gv zs O V g2 L → Calls Try.prog 10 #[.agg #[.int .i64 n, .slice (some ⟨g, 0, none⟩) zl cg, .slice (some ⟨go, 0, none⟩) ko co, .slice (some ⟨gv, 0, none⟩) kv cv, .int .i64 fi], .slice (some ⟨g2, 0, none⟩) m c2] W fun e w' => e = .returned (.int .i64 (loadV cb O ko L)) ∧ Below W.heap.size W w') := fun W k h => by
    have := specLoad_any n fi _ _ _ _ cg ko co kv cv c2 zs O V L W h.iz h.io h.iv h.il HO.out HV.out (by omega) (by omega) (by rw [HM.out]; omega)
    rw [HZ.out, HCB.out, HM.out] at this
    exact this
  have SCO : Hid (∀ W k, LL w W k #[.int .i64 n, .slice (some ⟨g, 0, none⟩) zl cg, .slice (some ⟨go, 0, none⟩) ko co, .slice (some ⟨gv, 0, none⟩) kv cv, .int .i64 fi] g go gv zs O V g2 L → Calls Try.prog 11 #[.agg #[.int .i64 n, .slice (some ⟨g, 0, none⟩) zl cg, .slice (some ⟨go, 0, none⟩) ko co, .slice (some ⟨gv, 0, none⟩) kv cv, .int .i64 fi]] W fun e w' => e = .returned (.bool cb) ∧ Below W.heap.size W w') := fun W k h => by
    have := specCase_any n fi _ _ _ cg ko co kv cv zs O V W h.iz h.io h.iv HO.out HV.out (by omega) (by omega)
    rw [HZ.out, HCB.out] at this
    exact this
  obtain ⟨v, HVV⟩ : ∃ v, Hid (loadV cb O ko L = v) := ⟨_, rfl⟩
  rw [HVV.out] at SLO
  have IL0 : Hid (∀ W k, LL w W k #[.int .i64 n, .slice (some ⟨g, 0, none⟩) zl cg, .slice (some ⟨go, 0, none⟩) ko co, .slice (some ⟨gv, 0, none⟩) kv cv, .int .i64 fi] g go gv zs O V g2 L → Calls Try.prog 9 #[.agg #[.int .i64 n, .slice (some ⟨g, 0, none⟩) zl cg, .slice (some ⟨go, 0, none⟩) ko co, .slice (some ⟨gv, 0, none⟩) kv cv, .int .i64 fi], .slice (some ⟨g2, 0, none⟩) m c2] W fun e w' => e = .returned (.int .i64 v) ∧ Below W.heap.size W w') := fun W k h => by
    have := ILO.out W k (some ⟨g2, 0, none⟩) L c2 h h.il (by rw [HM.out]; omega)
    rw [HVV.out, HM.out] at this
    exact this
  have hvv : (v != v) = false := by simp
  have hve : (v == v) = true := by simp
  obtain ⟨d0, d1, d2, d3, d4⟩ := cells5z L1.out.b1
  go_wp2_with fail
  generalize w1.alloc (.cells #[.int .i64 n, .slice (some ⟨g, 0, none⟩) zl cg, .slice (some ⟨go, 0, none⟩) ko co, .slice (some ⟨gv, 0, none⟩) kv cv, .int .i64 fi] 30) = W1 at *
  obtain ⟨k, HK⟩ : ∃ v, Hid (w1.heap.size = v) := ⟨_, rfl⟩
  rw [HK.out] at L1 d0 d1 d2 d3 d4 ⊢
  refine (IL0.out _ _ L1.out).mono ?_
  rintro e w2 ⟨rfl, hb⟩
  have L2 : Hid (LL w w2 k #[.int .i64 n, .slice (some ⟨g, 0, none⟩) zl cg, .slice (some ⟨go, 0, none⟩) ko co, .slice (some ⟨gv, 0, none⟩) kv cv, .int .i64 fi] g go gv zs O V g2 L) := L1.out.below hb
  clear hb L1 d0 d1 d2 d3 d4
  obtain ⟨d0, d1, d2, d3, d4⟩ := cells5z L2.out.b1
  go_wp2_with fail
  refine (SLO.out _ _ L2.out).mono ?_
  rintro e w3 ⟨rfl, hb⟩
  have L3 : Hid (LL w w3 k #[.int .i64 n, .slice (some ⟨g, 0, none⟩) zl cg, .slice (some ⟨go, 0, none⟩) ko co, .slice (some ⟨gv, 0, none⟩) kv cv, .int .i64 fi] g go gv zs O V g2 L) := L2.out.below hb
  clear hb L2 d0 d1 d2 d3 d4
  obtain ⟨d0, d1, d2, d3, d4⟩ := cells5z L3.out.b1
  go_wp2_with fail
  refine (SCO.out _ _ L3.out).mono ?_
  rintro e w4 ⟨rfl, hb⟩
  have L4 : Hid (LL w w4 k #[.int .i64 n, .slice (some ⟨g, 0, none⟩) zl cg, .slice (some ⟨go, 0, none⟩) ko co, .slice (some ⟨gv, 0, none⟩) kv cv, .int .i64 fi] g go gv zs O V g2 L) := L3.out.below hb
  clear hb L3 d0 d1 d2 d3 d4 SCO
  obtain ⟨d0, d1, d2, d3, d4⟩ := cells5z L4.out.b1
  cases cb
  · go_wp2_with fail
    refine (SLO.out _ _ L4.out).mono ?_
    rintro e w5 ⟨rfl, hb⟩
    have L5 : Hid (LL w w5 k #[.int .i64 n, .slice (some ⟨g, 0, none⟩) zl cg, .slice (some ⟨go, 0, none⟩) ko co, .slice (some ⟨gv, 0, none⟩) kv cv, .int .i64 fi] g go gv zs O V g2 L) := L4.out.below hb
    clear hb L4 d0 d1 d2 d3 d4
    go_wp2
    go_ret
    exact ⟨by first | rfl | simp, L5.out.b⟩
  · clear SLO d0 d1 d2 d3 d4
    go_wp2_with fail
    go_loopw [6] (fun t wr => ∃ i : Nat, i ≤ ko ∧ t = .int .i64 i ∧ LL w wr k #[.int .i64 n, .slice (some ⟨g, 0, none⟩) zl cg, .slice (some ⟨go, 0, none⟩) ko co, .slice (some ⟨gv, 0, none⟩) kv cv, .int .i64 fi] g go gv zs O V g2 L) (fun t _ => ko - (intOf t).toNat)
    case atStart => exact ⟨0, Nat.zero_le _, rfl, L4.out⟩
    case round =>
      clear L4
      obtain ⟨i, hi, rfl, hd⟩ := hrel
      have L5 : Hid (LL w wr k #[.int .i64 n, .slice (some ⟨g, 0, none⟩) zl cg, .slice (some ⟨go, 0, none⟩) ko co, .slice (some ⟨gv, 0, none⟩) kv cv, .int .i64 fi] g go gv zs O V g2 L) := hd
      clear hd
      obtain ⟨d0, d1, d2, d3, d4⟩ := cells5z L5.out.b1
      by_cases hlt : i < ko
      · have o0 := int_at L5.out.io (j := i * 6) (by rw [HO.out]; omega)
        have hF := found6 HCB.out hlt
        rw [show O.getD (i * 6) 0 = og6 O i 0 from rfl] at o0
        have hltI : (i : Int) < (ko : Int) := by omega
        have IOO : Hid (∀ W, LL w W k #[.int .i64 n, .slice (some ⟨g, 0, none⟩) zl cg, .slice (some ⟨go, 0, none⟩) ko co, .slice (some ⟨gv, 0, none⟩) kv cv, .int .i64 fi] g go gv zs O V g2 L → Calls Try.prog 12 #[.agg #[.int .i64 n, .slice (some ⟨g, 0, none⟩) zl cg, .slice (some ⟨go, 0, none⟩) ko co, .slice (some ⟨gv, 0, none⟩) kv cv, .int .i64 fi], .int .i64 (og6 O i 0)] W fun e w' => e = .returned (.tuple #[.agg #[.int .i64 (og6 O i 0), .int .i64 (og6 O i 1), .int .i64 (og6 O i 2), .int .i64 (og6 O i 3), .int .i64 (og6 O i 4), .int .i64 (og6 O i 5)], .bool true]) ∧ Below W.heap.size W w') := fun W h => by
          have := implOrdOf_any n fi (og6 O i 0) _ _ _ cg ko co kv cv zs O V W h.iz h.io h.iv HO.out HV.out (by omega) (by omega)
          rw [HZ.out, HCB.out, hF.1] at this
          simp only [hF.2] at this
          exact this
        clear hF
        go_upto_region 10 with fail
        go_cut [7, 8] from 38 to 66 (fun s7 s8 wx => ∃ kb : Nat, s7 = .pointer (some ⟨kb, 0, none⟩) ∧ s8 = .bool true ∧ LL w wx k #[.int .i64 n, .slice (some ⟨g, 0, none⟩) zl cg, .slice (some ⟨go, 0, none⟩) ko co, .slice (some ⟨gv, 0, none⟩) kv cv, .int .i64 fi] g go gv zs O V g2 L ∧ wx.heap[kb]? = some (.cells #[Value.int IntKind.i64 (og6 O i 0), Value.int IntKind.i64 (og6 O i 1), Value.int IntKind.i64 (og6 O i 2), Value.int IntKind.i64 (og6 O i 3), Value.int IntKind.i64 (og6 O i 4), Value.int IntKind.i64 (og6 O i 5)] 36 (0, 0)))
        case first =>
          have kS := And.intro d0 (And.intro d1 (And.intro d2 (And.intro d3 (And.intro d4 o0))))
          go_region_held3 (fun W => W.cell? ⟨k, 0, none⟩ = some (.int .i64 n) ∧ W.cell? ⟨k, 1, none⟩ = some (.slice (some ⟨g, 0, none⟩) zl cg) ∧ W.cell? ⟨k, 2, none⟩ = some (.slice (some ⟨go, 0, none⟩) ko co) ∧ W.cell? ⟨k, 3, none⟩ = some (.slice (some ⟨gv, 0, none⟩) kv cv) ∧ W.cell? ⟨k, 4, none⟩ = some (.int .i64 fi) ∧ W.cell? ⟨go, i * 6, none⟩ = some (.int .i64 (og6 O i 0))) (first | with_reducible exact kS | with_reducible exact kA | with_reducible exact kT | go_keep) ((first
            | (go_at_call 12
               with_reducible refine (IOO.out wr.drew (L5.out.below (Below.refl _ _).drew)).mono ?_
               rintro e wa ⟨rfl, hb⟩
               have HLA : Hid (LL w wa k #[.int .i64 n, .slice (some ⟨g, 0, none⟩) zl cg, .slice (some ⟨go, 0, none⟩) ko co, .slice (some ⟨gv, 0, none⟩) kv cv, .int .i64 fi] g go gv zs O V g2 L) := (L5.out.below (Below.refl _ _).drew).below hb
               have kS := LL.keepO HLA.out (x := og6 O i 0) (by rw [HO.out]; omega : i * 6 < O.length) rfl
               have kA := LL.keepO (HLA.out.below ((Below.refl _ _).alloc (Nat.le_refl _) (Obj.cells #[Value.int IntKind.i64 (og6 O i 0), Value.int IntKind.i64 (og6 O i 1), Value.int IntKind.i64 (og6 O i 2), Value.int IntKind.i64 (og6 O i 3), Value.int IntKind.i64 (og6 O i 4), Value.int IntKind.i64 (og6 O i 5)] 36))) (x := og6 O i 0) (by rw [HO.out]; omega : i * 6 < O.length) rfl
               clear hb)
            | (go_at_call 12
               with_reducible refine (IOO.out (wr.alloc (Obj.cells #[Value.int IntKind.i64 0, Value.int IntKind.i64 0, Value.int IntKind.i64 0, Value.int IntKind.i64 0, Value.int IntKind.i64 0, Value.int IntKind.i64 0] 36)).drew (L5.out.below ((Below.refl _ _).alloc (Nat.le_refl _) _).drew)).mono ?_
               rintro e wa ⟨rfl, hb⟩
               have HLA : Hid (LL w wa k #[.int .i64 n, .slice (some ⟨g, 0, none⟩) zl cg, .slice (some ⟨go, 0, none⟩) ko co, .slice (some ⟨gv, 0, none⟩) kv cv, .int .i64 fi] g go gv zs O V g2 L) := (L5.out.below ((Below.refl _ _).alloc (Nat.le_refl _) _).drew).below hb
               have hbx : wa.heap[wr.heap.size]? = some (.cells #[Value.int IntKind.i64 0, Value.int IntKind.i64 0, Value.int IntKind.i64 0, Value.int IntKind.i64 0, Value.int IntKind.i64 0, Value.int IntKind.i64 0] 36 (0, 0)) := below_row hb (by simp) (heap_alloc_new _ _)
               obtain ⟨z0, z1, z2, z3, z4, z5⟩ := cells6z hbx
               have zf := fun i => frozen_of_row _ _ i _ _ hbx
               have hwa : Below wr.heap.size wr wa := (((Below.refl wr.heap.size wr).alloc (Nat.le_refl _) (Obj.cells #[Value.int IntKind.i64 0, Value.int IntKind.i64 0, Value.int IntKind.i64 0, Value.int IntKind.i64 0, Value.int IntKind.i64 0, Value.int IntKind.i64 0] 36)).drew).trans (hb.mono (by simp))
               have HL6 : Hid (LL w ((((((wa.setCell ⟨wr.heap.size, 0, none⟩ (.int .i64 (og6 O i 0))).setCell ⟨wr.heap.size, 1, none⟩ (.int .i64 (og6 O i 1))).setCell ⟨wr.heap.size, 2, none⟩ (.int .i64 (og6 O i 2))).setCell ⟨wr.heap.size, 3, none⟩ (.int .i64 (og6 O i 3))).setCell ⟨wr.heap.size, 4, none⟩ (.int .i64 (og6 O i 4))).setCell ⟨wr.heap.size, 5, none⟩ (.int .i64 (og6 O i 5))) k #[.int .i64 n, .slice (some ⟨g, 0, none⟩) zl cg, .slice (some ⟨go, 0, none⟩) ko co, .slice (some ⟨gv, 0, none⟩) kv cv, .int .i64 fi] g go gv zs O V g2 L) := L5.out.below ((((((hwa.setCell (by simp) _).setCell (by simp) _).setCell (by simp) _).setCell (by simp) _).setCell (by simp) _).setCell (by simp) _)
               have HR6 : Hid (((((((wa.setCell ⟨wr.heap.size, 0, none⟩ (.int .i64 (og6 O i 0))).setCell ⟨wr.heap.size, 1, none⟩ (.int .i64 (og6 O i 1))).setCell ⟨wr.heap.size, 2, none⟩ (.int .i64 (og6 O i 2))).setCell ⟨wr.heap.size, 3, none⟩ (.int .i64 (og6 O i 3))).setCell ⟨wr.heap.size, 4, none⟩ (.int .i64 (og6 O i 4))).setCell ⟨wr.heap.size, 5, none⟩ (.int .i64 (og6 O i 5))).heap[wr.heap.size]? = some (.cells #[Value.int IntKind.i64 (og6 O i 0), Value.int IntKind.i64 (og6 O i 1), Value.int IntKind.i64 (og6 O i 2), Value.int IntKind.i64 (og6 O i 3), Value.int IntKind.i64 (og6 O i 4), Value.int IntKind.i64 (og6 O i 5)] 36 (0, 0))) := by
                 have := row_put (i := 5) (.int .i64 (og6 O i 5)) (row_put (i := 4) (.int .i64 (og6 O i 4)) (row_put (i := 3) (.int .i64 (og6 O i 3)) (row_put (i := 2) (.int .i64 (og6 O i 2)) (row_put (i := 1) (.int .i64 (og6 O i 1)) (row_put (i := 0) (.int .i64 (og6 O i 0)) hbx)))))
                 show _ = _
                 simpa using this
               have kS := LL.keepO HLA.out (x := og6 O i 0) (by rw [HO.out]; omega : i * 6 < O.length) rfl
               have kT := LL.keepO HL6.out (x := og6 O i 0) (by rw [HO.out]; omega : i * 6 < O.length) rfl
               clear hb hbx hwa)))
          all_goals (try go_wp2_with fail)
          all_goals go_meet
          all_goals first
            | with_reducible exact ⟨_, rfl, rfl, HL6.out, HR6.out⟩
            | with_reducible exact ⟨_, rfl, rfl, HLA.out.below ((Below.refl _ _).alloc (Nat.le_refl _) _), heap_alloc_new _ _⟩
        case rest =>
          clear d0 d1 d2 d3 d4 o0 IOO L5
          obtain ⟨kb, rfl, rfl, hd, hx⟩ := hcut
          have LC : Hid (LL w wc k #[.int .i64 n, .slice (some ⟨g, 0, none⟩) zl cg, .slice (some ⟨go, 0, none⟩) ko co, .slice (some ⟨gv, 0, none⟩) kv cv, .int .i64 fi] g go gv zs O V g2 L) := hd
          clear hd
          obtain ⟨x0, x1, x2, x3, x4, x5⟩ := cells6z hx
          obtain ⟨d0, d1, d2, d3, d4⟩ := cells5z LC.out.b1
          have oc0 := int_at LC.out.io (j := i * 6) (by rw [HO.out]; omega)
          have oc1 := int_at LC.out.io (j := i * 6 + 1) (by rw [HO.out]; omega)
          have oc2 := int_at LC.out.io (j := i * 6 + 2) (by rw [HO.out]; omega)
          have oc3 := int_at LC.out.io (j := i * 6 + 3) (by rw [HO.out]; omega)
          have oc4 := int_at LC.out.io (j := i * 6 + 4) (by rw [HO.out]; omega)
          have oc5 := int_at LC.out.io (j := i * 6 + 5) (by rw [HO.out]; omega)
          rw [show O.getD (i * 6) 0 = og6 O i 0 from rfl] at oc0
          rw [show O.getD (i * 6 + 1) 0 = og6 O i 1 from rfl] at oc1
          rw [show O.getD (i * 6 + 2) 0 = og6 O i 2 from rfl] at oc2
          rw [show O.getD (i * 6 + 3) 0 = og6 O i 3 from rfl] at oc3
          rw [show O.getD (i * 6 + 4) 0 = og6 O i 4 from rfl] at oc4
          rw [show O.getD (i * 6 + 5) 0 = og6 O i 5 from rfl] at oc5
          clear hx
          go_wp2_with fail
          go_quiet (fail)
          go_wp2
          exact ⟨⟨i + 1, by omega, by go_num, LC.out.below (below_drewN (Below.refl _ _) _)⟩, by simp [intOf]; omega⟩
      · clear d0 d1 d3 d4
        go_wp2_with fail
        go_loopw [9] (fun t wr => ∃ i : Nat, i ≤ kv ∧ t = .int .i64 i ∧ LL w wr k #[.int .i64 n, .slice (some ⟨g, 0, none⟩) zl cg, .slice (some ⟨go, 0, none⟩) ko co, .slice (some ⟨gv, 0, none⟩) kv cv, .int .i64 fi] g go gv zs O V g2 L) (fun t _ => kv - (intOf t).toNat)
        case atStart => exact ⟨0, Nat.zero_le _, rfl, L5.out⟩
        case round =>
          clear L5 d2 hlt hi
          obtain ⟨i, hi, rfl, hd⟩ := hrel
          have L5 : Hid (LL w wr k #[.int .i64 n, .slice (some ⟨g, 0, none⟩) zl cg, .slice (some ⟨go, 0, none⟩) ko co, .slice (some ⟨gv, 0, none⟩) kv cv, .int .i64 fi] g go gv zs O V g2 L) := hd
          clear hd
          obtain ⟨d0, d1, d2, d3, d4⟩ := cells5z L5.out.b1
          by_cases hlt : i < kv
          · have o0 := int_at L5.out.iv (j := i * 5) (by rw [HV.out]; omega)
            have hF := found5 HCB.out hlt
            rw [show V.getD (i * 5) 0 = og5 V i 0 from rfl] at o0
            have hltI : (i : Int) < (kv : Int) := by omega
            have IOO : Hid (∀ W, LL w W k #[.int .i64 n, .slice (some ⟨g, 0, none⟩) zl cg, .slice (some ⟨go, 0, none⟩) ko co, .slice (some ⟨gv, 0, none⟩) kv cv, .int .i64 fi] g go gv zs O V g2 L → Calls Try.prog 13 #[.agg #[.int .i64 n, .slice (some ⟨g, 0, none⟩) zl cg, .slice (some ⟨go, 0, none⟩) ko co, .slice (some ⟨gv, 0, none⟩) kv cv, .int .i64 fi], .int .i64 (og5 V i 0)] W fun e w' => e = .returned (.tuple #[.agg #[.int .i64 (og5 V i 0), .int .i64 (og5 V i 1), .int .i64 (og5 V i 2), .int .i64 (og5 V i 3), .int .i64 (og5 V i 4)], .bool true]) ∧ Below W.heap.size W w') := fun W h => by
              have := implVehOf_any n fi (og5 V i 0) _ _ _ cg ko co kv cv zs O V W h.iz h.io h.iv HO.out HV.out (by omega) (by omega)
              rw [HZ.out, HCB.out, hF.1] at this
              simp only [hF.2] at this
              exact this
            clear hF
            go_upto_region 16 with fail
            go_cut [10, 11] from 67 to 95 (fun s7 s8 wx => ∃ kb : Nat, s7 = .pointer (some ⟨kb, 0, none⟩) ∧ s8 = .bool true ∧ LL w wx k #[.int .i64 n, .slice (some ⟨g, 0, none⟩) zl cg, .slice (some ⟨go, 0, none⟩) ko co, .slice (some ⟨gv, 0, none⟩) kv cv, .int .i64 fi] g go gv zs O V g2 L ∧ wx.heap[kb]? = some (.cells #[Value.int IntKind.i64 (og5 V i 0), Value.int IntKind.i64 (og5 V i 1), Value.int IntKind.i64 (og5 V i 2), Value.int IntKind.i64 (og5 V i 3), Value.int IntKind.i64 (og5 V i 4)] 40 (0, 0)))
            case first =>
              have kS := And.intro d0 (And.intro d1 (And.intro d2 (And.intro d3 (And.intro d4 o0))))
              go_region_held3 (fun W => W.cell? ⟨k, 0, none⟩ = some (.int .i64 n) ∧ W.cell? ⟨k, 1, none⟩ = some (.slice (some ⟨g, 0, none⟩) zl cg) ∧ W.cell? ⟨k, 2, none⟩ = some (.slice (some ⟨go, 0, none⟩) ko co) ∧ W.cell? ⟨k, 3, none⟩ = some (.slice (some ⟨gv, 0, none⟩) kv cv) ∧ W.cell? ⟨k, 4, none⟩ = some (.int .i64 fi) ∧ W.cell? ⟨gv, i * 5, none⟩ = some (.int .i64 (og5 V i 0))) (first | with_reducible exact kS | with_reducible exact kA | with_reducible exact kT | go_keep) ((first
                | (go_at_call 13
                   with_reducible refine (IOO.out wr.drew (L5.out.below (Below.refl _ _).drew)).mono ?_
                   rintro e wa ⟨rfl, hb⟩
                   have HLA : Hid (LL w wa k #[.int .i64 n, .slice (some ⟨g, 0, none⟩) zl cg, .slice (some ⟨go, 0, none⟩) ko co, .slice (some ⟨gv, 0, none⟩) kv cv, .int .i64 fi] g go gv zs O V g2 L) := (L5.out.below (Below.refl _ _).drew).below hb
                   have kS := LL.keepV HLA.out (x := og5 V i 0) (by rw [HV.out]; omega : i * 5 < V.length) rfl
                   have kA := LL.keepV (HLA.out.below ((Below.refl _ _).alloc (Nat.le_refl _) (Obj.cells #[Value.int IntKind.i64 (og5 V i 0), Value.int IntKind.i64 (og5 V i 1), Value.int IntKind.i64 (og5 V i 2), Value.int IntKind.i64 (og5 V i 3), Value.int IntKind.i64 (og5 V i 4)] 40))) (x := og5 V i 0) (by rw [HV.out]; omega : i * 5 < V.length) rfl
                   clear hb)
                | (go_at_call 13
                   with_reducible refine (IOO.out (wr.alloc (Obj.cells #[Value.int IntKind.i64 0, Value.int IntKind.i64 0, Value.int IntKind.i64 0, Value.int IntKind.i64 0, Value.int IntKind.i64 0] 40)).drew (L5.out.below ((Below.refl _ _).alloc (Nat.le_refl _) _).drew)).mono ?_
                   rintro e wa ⟨rfl, hb⟩
                   have HLA : Hid (LL w wa k #[.int .i64 n, .slice (some ⟨g, 0, none⟩) zl cg, .slice (some ⟨go, 0, none⟩) ko co, .slice (some ⟨gv, 0, none⟩) kv cv, .int .i64 fi] g go gv zs O V g2 L) := (L5.out.below ((Below.refl _ _).alloc (Nat.le_refl _) _).drew).below hb
                   have hbx : wa.heap[wr.heap.size]? = some (.cells #[Value.int IntKind.i64 0, Value.int IntKind.i64 0, Value.int IntKind.i64 0, Value.int IntKind.i64 0, Value.int IntKind.i64 0] 40 (0, 0)) := below_row hb (by simp) (heap_alloc_new _ _)
                   obtain ⟨z0, z1, z2, z3, z4⟩ := cells5z hbx
                   have zf := fun i => frozen_of_row _ _ i _ _ hbx
                   have hwa : Below wr.heap.size wr wa := (((Below.refl wr.heap.size wr).alloc (Nat.le_refl _) (Obj.cells #[Value.int IntKind.i64 0, Value.int IntKind.i64 0, Value.int IntKind.i64 0, Value.int IntKind.i64 0, Value.int IntKind.i64 0] 40)).drew).trans (hb.mono (by simp))
                   have HL6 : Hid (LL w (((((wa.setCell ⟨wr.heap.size, 0, none⟩ (.int .i64 (og5 V i 0))).setCell ⟨wr.heap.size, 1, none⟩ (.int .i64 (og5 V i 1))).setCell ⟨wr.heap.size, 2, none⟩ (.int .i64 (og5 V i 2))).setCell ⟨wr.heap.size, 3, none⟩ (.int .i64 (og5 V i 3))).setCell ⟨wr.heap.size, 4, none⟩ (.int .i64 (og5 V i 4))) k #[.int .i64 n, .slice (some ⟨g, 0, none⟩) zl cg, .slice (some ⟨go, 0, none⟩) ko co, .slice (some ⟨gv, 0, none⟩) kv cv, .int .i64 fi] g go gv zs O V g2 L) := L5.out.below (((((hwa.setCell (by simp) _).setCell (by simp) _).setCell (by simp) _).setCell (by simp) _).setCell (by simp) _)
                   have HR6 : Hid ((((((wa.setCell ⟨wr.heap.size, 0, none⟩ (.int .i64 (og5 V i 0))).setCell ⟨wr.heap.size, 1, none⟩ (.int .i64 (og5 V i 1))).setCell ⟨wr.heap.size, 2, none⟩ (.int .i64 (og5 V i 2))).setCell ⟨wr.heap.size, 3, none⟩ (.int .i64 (og5 V i 3))).setCell ⟨wr.heap.size, 4, none⟩ (.int .i64 (og5 V i 4))).heap[wr.heap.size]? = some (.cells #[Value.int IntKind.i64 (og5 V i 0), Value.int IntKind.i64 (og5 V i 1), Value.int IntKind.i64 (og5 V i 2), Value.int IntKind.i64 (og5 V i 3), Value.int IntKind.i64 (og5 V i 4)] 40 (0, 0))) := by
                     have := row_put (i := 4) (.int .i64 (og5 V i 4)) (row_put (i := 3) (.int .i64 (og5 V i 3)) (row_put (i := 2) (.int .i64 (og5 V i 2)) (row_put (i := 1) (.int .i64 (og5 V i 1)) (row_put (i := 0) (.int .i64 (og5 V i 0)) hbx))))
                     show _ = _
                     simpa using this
                   have kS := LL.keepV HLA.out (x := og5 V i 0) (by rw [HV.out]; omega : i * 5 < V.length) rfl
                   have kT := LL.keepV HL6.out (x := og5 V i 0) (by rw [HV.out]; omega : i * 5 < V.length) rfl
                   clear hb hbx hwa)))
              all_goals (try go_wp2_with fail)
              all_goals go_meet
              all_goals first
                | with_reducible exact ⟨_, rfl, rfl, HL6.out, HR6.out⟩
                | with_reducible exact ⟨_, rfl, rfl, HLA.out.below ((Below.refl _ _).alloc (Nat.le_refl _) _), heap_alloc_new _ _⟩
            case rest =>
              clear d0 d1 d2 d3 d4 o0 IOO L5
              obtain ⟨kb, rfl, rfl, hd, hx⟩ := hcut
              have LC : Hid (LL w wc k #[.int .i64 n, .slice (some ⟨g, 0, none⟩) zl cg, .slice (some ⟨go, 0, none⟩) ko co, .slice (some ⟨gv, 0, none⟩) kv cv, .int .i64 fi] g go gv zs O V g2 L) := hd
              clear hd
              obtain ⟨x0, x1, x2, x3, x4⟩ := cells5z hx
              obtain ⟨d0, d1, d2, d3, d4⟩ := cells5z LC.out.b1
              have oc0 := int_at LC.out.iv (j := i * 5) (by rw [HV.out]; omega)
              have oc1 := int_at LC.out.iv (j := i * 5 + 1) (by rw [HV.out]; omega)
              have oc2 := int_at LC.out.iv (j := i * 5 + 2) (by rw [HV.out]; omega)
              have oc3 := int_at LC.out.iv (j := i * 5 + 3) (by rw [HV.out]; omega)
              have oc4 := int_at LC.out.iv (j := i * 5 + 4) (by rw [HV.out]; omega)
              rw [show V.getD (i * 5) 0 = og5 V i 0 from rfl] at oc0
              rw [show V.getD (i * 5 + 1) 0 = og5 V i 1 from rfl] at oc1
              rw [show V.getD (i * 5 + 2) 0 = og5 V i 2 from rfl] at oc2
              rw [show V.getD (i * 5 + 3) 0 = og5 V i 3 from rfl] at oc3
              rw [show V.getD (i * 5 + 4) 0 = og5 V i 4 from rfl] at oc4
              clear hx
              go_wp2_with fail
              go_quiet (fail)
              go_wp2
              exact ⟨⟨i + 1, by omega, by go_num, LC.out.below (below_drewN (Below.refl _ _) _)⟩, by simp [intOf]; omega⟩
          · clear hi
            obtain ⟨r1, r2, r3⟩ := mod_facts (L := N) (m := m + 1) (by omega)
            obtain ⟨kk, HKK⟩ : ∃ v, Hid (N % (m + 1) = v) := ⟨_, rfl⟩
            rw [HKK.out] at r1 r2 r3
            have hm1 : ((m + 1 : Nat) : Int) = (m : Int) + 1 := by omega
            rw [hm1] at r1 r2
            have hkm : kk ≤ m := by omega
            have HP : Hid (0 ≤ loadV true O ko L → loadV true O ko (L.take kk) + loadV true O ko (L.drop kk) = loadV true O ko L ∧ (0 ≤ loadV true O ko (L.take kk) ∧ loadV true O ko (L.take kk) ≤ 1000000) ∧ (0 ≤ loadV true O ko (L.drop kk) ∧ loadV true O ko (L.drop kk) ≤ 1000000)) := fun h => load_parts HCB.out h (by rw [HM.out]; exact hkm)
            clear r3 hm1 HKK
            go_wp2_with fail
            have e0 := fun s : Kin wr => s.cell d0
            have e1 := fun s : Kin wr => s.cell d1
            have e2 := fun s : Kin wr => s.cell d2
            have e3 := fun s : Kin wr => s.cell d3
            have e4 := fun s : Kin wr => s.cell d4
            have hkin := Kin.there wr
            clear r1 r2
            by_cases hneg : v < 0
            · refine wp_region_kin (by kernel_rfl) (by kernel_rfl) ?_
              repeat (go_big_quiet_step (fail))
              refine wpQuiet_nil ?_
              rintro _ ⟨s, rfl⟩
              clear e0 e1 e2 e3 e4 hkin d0 d1 d2 d3 d4
              go_wp2
              go_ret
              exact ⟨by first | rfl | simp, L5.out.b.trans (s.below.mono L5.out.b.size)⟩
            · have hng : decide (v < 0) = false := decide_eq_false hneg
              obtain ⟨s1, s2, s3⟩ := HP.out (by rw [HVV.out]; omega)
              rw [HVV.out] at s1
              have l1 : (L.take kk).length = kk := by rw [List.length_take, HM.out]; omega
              have l2 : (L.drop kk).length = m - kk := by rw [List.length_drop, HM.out]
              have HC1 : Hid (∀ W, LL w W k #[.int .i64 n, .slice (some ⟨g, 0, none⟩) zl cg, .slice (some ⟨go, 0, none⟩) ko co, .slice (some ⟨gv, 0, none⟩) kv cv, .int .i64 fi] g go gv zs O V g2 L → Calls Try.prog 9 #[.agg #[.int .i64 n, .slice (some ⟨g, 0, none⟩) zl cg, .slice (some ⟨go, 0, none⟩) ko co, .slice (some ⟨gv, 0, none⟩) kv cv, .int .i64 fi], .slice (some ⟨g2, 0, none⟩) kk c2] W fun e w' => e = .returned (.int .i64 (loadV true O ko (L.take kk))) ∧ Below W.heap.size W w') := fun W h => by
                have := ILO.out W k (some ⟨g2, 0, none⟩) (L.take kk) c2 h (ints_take' h.il _) (by rw [l1]; omega)
                rw [l1] at this
                exact this
              have HC2 : Hid (∀ W c3, LL w W k #[.int .i64 n, .slice (some ⟨g, 0, none⟩) zl cg, .slice (some ⟨go, 0, none⟩) ko co, .slice (some ⟨gv, 0, none⟩) kv cv, .int .i64 fi] g go gv zs O V g2 L → Calls Try.prog 9 #[.agg #[.int .i64 n, .slice (some ⟨g, 0, none⟩) zl cg, .slice (some ⟨go, 0, none⟩) ko co, .slice (some ⟨gv, 0, none⟩) kv cv, .int .i64 fi], .slice (if c2 = kk then some ⟨g2, 0, none⟩ else some ⟨g2, kk, none⟩) (m - kk) c3] W fun e w' => e = .returned (.int .i64 (loadV true O ko (L.drop kk))) ∧ Below W.heap.size W w') := fun W c3 h => by
                have := ILO.out W k _ (L.drop kk) c3 h (ints_cut0 h.il kk c2 (by rw [HM.out]; exact hLc)) (by rw [l2]; omega)
                rw [l2] at this
                exact this
              obtain ⟨v1, HV1⟩ : ∃ v, Hid (loadV true O ko (L.take kk) = v) := ⟨_, rfl⟩
              obtain ⟨v2, HV2⟩ : ∃ v, Hid (loadV true O ko (L.drop kk) = v) := ⟨_, rfl⟩
              rw [HV1.out] at s1 s2 HC1
              rw [HV2.out] at s1 s3 HC2
              have hk1 : kk ≤ c2 := by omega
              have hsum : (v1 + v2 == v) = true := by simp [s1]
              have hw1 : wrap64 (v1 + v2) = v1 + v2 := IntWalk.wrap64_in _ (by omega)
              have hw2 : IntKind.i64.wrap (v1 + v2) = v1 + v2 := by rw [IntKind.wrap_i64]; omega
              clear s1 s2 s3 l1 l2 HP hneg
              by_cases hck : c2 = kk
              · rw [if_pos hck] at HC2
                have HC3 : Hid (∀ W ad c3, LL w W k #[.int .i64 n, .slice (some ⟨g, 0, none⟩) zl cg, .slice (some ⟨go, 0, none⟩) ko co, .slice (some ⟨gv, 0, none⟩) kv cv, .int .i64 fi] g go gv zs O V g2 L → Calls Try.prog 9 #[.agg #[.int .i64 n, .slice (some ⟨g, 0, none⟩) zl cg, .slice (some ⟨go, 0, none⟩) ko co, .slice (some ⟨gv, 0, none⟩) kv cv, .int .i64 fi], .slice ad 0 c3] W fun e w' => e = .returned (.int .i64 v2) ∧ Below W.heap.size W w') := fun W ad c3 h => by
                  have e : L.drop kk = [] := List.drop_eq_nil_of_le (by rw [HM.out]; omega)
                  have hv2 := HV2.out
                  rw [e] at hv2
                  have := ILO.out W k ad [] c3 h (fun j hj => by simp at hj) (by simp)
                  rw [hv2] at this
                  exact this
                subst hck
                refine wp_region_kin (by kernel_rfl) (by kernel_rfl) ?_
                repeat (go_big_quiet_step ((first
                  | (go_at_call 9; with_reducible exact Kin.call (HC1.out _ (L5.out.below (Kin.below _))))
                  | (go_at_call 9; with_reducible exact Kin.call (HC3.out _ _ _ (L5.out.below (Kin.below _))))
                  | (go_at_call 9; with_reducible exact Kin.call (HC2.out _ _ (L5.out.below (Kin.below _)))))))
                refine wpQuiet_nil ?_
                rintro _ ⟨s, rfl⟩
                clear e0 e1 e2 e3 e4 hkin d0 d1 d2 d3 d4
                go_wp2
                go_ret
                exact ⟨by first | rfl | simp, L5.out.b.trans (s.below.mono L5.out.b.size)⟩
              · rw [if_neg hck] at HC2
                refine wp_region_kin (by kernel_rfl) (by kernel_rfl) ?_
                repeat (go_big_quiet_step ((first
                  | (go_at_call 9; with_reducible exact Kin.call (HC1.out _ (L5.out.below (Kin.below _))))
                  | (go_at_call 9; with_reducible exact Kin.call (HC2.out _ _ (L5.out.below (Kin.below _)))))))
                refine wpQuiet_nil ?_
                rintro _ ⟨s, rfl⟩
                clear e0 e1 e2 e3 e4 hkin d0 d1 d2 d3 d4
                go_wp2
                go_ret
                exact ⟨by first | rfl | simp, L5.out.b.trans (s.below.mono L5.out.b.size)⟩

theorem lawFnLoads_all (a : Option Addr) (c : Nat) (bs : List Int) (w : World) (hA : CodeAt w a bs) (hl : bs.length ≤ 9223372036854775807) :
    Calls Try.prog 3 #[.slice a bs.length c] w fun e w' => e = .returned (.bool true) ∧ Below w.heap.size w w' := by
  by_cases h : bs.length ≤ 1048576
  · exact lawFnLoads a c bs w hA h
  · exact lawFnLoads_big a c _ w hl (by omega)

end Go.Proofs.Ythljonnhkleglaa
