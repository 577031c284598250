import Derived.Test.YtcapkcallaajaaaGreatDoorTakeReq
import Derived.Defers
import Derived.Recover
import Derived.Laws.Pointers
namespace Go.Proofs.YtcapkcallaajaaaGreatDoor
open Go.RowKit
theorem txt_noneQ (r : List UInt8) : (txt r).toList.isEmpty = decide (r = []) := by
 have e0 : (txt []).toList = [] := by
  unfold ByteArray.toList
  unfold ByteArray.toList.loop
  simp [txt_size]
 by_cases h : r = []
 · subst h
   rw [e0]
   rfl
 · rw [decide_eq_false h]
   have := str_ne (f := txt r) (t := txt []) (fun e => h (txt_inj e))
   rw [e0] at this
   cases hl : (txt r).toList with
   | nil => rw [hl] at this; cases this
   | cons x l => rfl
structure QO (w : World) (base : Nat) (zl ol vl rs ls : Value) (S : List RT) (qv : QV) : Prop where
 c : CO w base zl ol vl qv.c
 p : PO w base rs S ls qv.L
theorem QO.set {w : World} {base b i : Nat} {zl ol vl rs ls u : Value} {S : List RT} {qv : QV} (h : QO w base zl ol vl rs ls S qv) (hb : b < base) : QO (w.setCell ⟨b, i, none⟩ u) base zl ol vl rs ls S qv := ⟨⟨owns_set h.c.z hb, owns_set h.c.o hb, owns_set h.c.v hb⟩, h.p.set hb⟩
theorem QO.base {w : World} {base b0 : Nat} {zl ol vl rs ls : Value} {S : List RT} {qv : QV} (h : QO w base zl ol vl rs ls S qv) (hb : b0 <= base) : QO w b0 zl ol vl rs ls S qv := ⟨h.c.baseQ hb, h.p.base hb⟩
theorem QO.below {w w' : World} {base : Nat} {zl ol vl rs ls : Value} {S : List RT} {qv : QV} (h : QO w base zl ol vl rs ls S qv) (hb : Below w.heap.size w w') : QO w' base zl ol vl rs ls S qv := ⟨h.c.belowQ hb, h.p.below hb⟩
def gaveWQ (w : World) (p o : Nat) : World := (((((((((((((w.setCell ⟨p, 0, none⟩ (.int .i64 0)).setCell ⟨p, 1, none⟩ (.string ⟨#[]⟩)).setCell ⟨p, 2, none⟩ (.int .i64 0)).setCell ⟨p, 3, none⟩ (.int .i64 0)).setCell ⟨p, 4, none⟩ (.int .i64 0)).setCell ⟨p, 5, none⟩ (.int .i64 0)).setCell ⟨p, 6, none⟩ (.slice none 0 0)).setCell ⟨p, 7, none⟩ (.slice none 0 0)).setCell ⟨p, 8, none⟩ (.slice none 0 0)).setCell ⟨p, 9, none⟩ (.int .i64 0)).setCell ⟨p, 10, none⟩ (.slice none 0 0)).setCell ⟨p, 11, none⟩ (.slice none 0 0)).setCell ⟨o, 0, none⟩ (.bool false)).alloc (.cells #[.int .i64 0, .string ⟨#[]⟩, .int .i64 0, .int .i64 0, .int .i64 0, .int .i64 0, .slice none 0 0, .slice none 0 0, .slice none 0 0, .int .i64 0, .slice none 0 0, .slice none 0 0] 33)
set_option maxHeartbeats 1000000 in
theorem catch_gaveQ (p o : Nat) (v0 v1 v2 v3 v4 v5 v6 v7 v8 v9 v10 v11 b : Value) (w : World) (hp : w.heap[p]? = some (.cells #[v0, v1, v2, v3, v4, v5, v6, v7, v8, v9, v10, v11] 33 (0, 0))) (ho : w.heap[o]? = some (.cells #[b] 4 (0, 0))) (hpo : o ≠ p) :
 CallsD Tryz.prog 29 #[.pointer (some ⟨p, 0, none⟩), .pointer (some ⟨o, 0, none⟩)] (.panicking GV) w fun e u' w' =>
  e = .returned (.tuple #[]) /\ u' = .panicking [{ v := .iface 98 (.agg #[]), recovered := true }] /\ w' = gaveWQ w p o := by
 have hlp := row_lt hp
 have hlo := row_lt ho
 obtain ⟨c0, c1, c2, c3, c4, c5, c6, c7, c8, c9, c10, c11⟩ := cells12q hp
 have f0 := fun i => frozen_of_row _ _ i _ _ hp
 have b0 : w.cell? ⟨o, 0, none⟩ = some b := by rw [cell_of_row _ _ _ _ _ _ ho]; rfl
 have f1 := fun i => frozen_of_row _ _ i _ _ ho
 have np : p ≠ w.heap.size := by omega
 have no : o ≠ w.heap.size := by omega
 refine callsD_of_wpS Tryz.func29 rfl fun c₀ cs hu => ?_
 apply wpS_seq
 apply wpS_region
 simp [wpOpsS, go_sem, recoverD, hu, Tryz.ntmps29, Exit.thenS, GV]
 refine wpS_cond (t := true) (by simp [Act.eval, Array.replicate]) ?_
 simp only [if_true]
 refine wpS_of_wp ?_
 rw [show #[Value.pointer (some ⟨p, 0, none⟩), Value.pointer (some ⟨o, 0, none⟩)] ++ ((Array.replicate 4 undef).setIfInBounds 1 (Value.iface 98 (Value.agg #[]))).setIfInBounds 2 (Value.bool true) = #[Value.pointer (some ⟨p, 0, none⟩), Value.pointer (some ⟨o, 0, none⟩), undef, Value.iface 98 (Value.agg #[]), Value.bool true, undef] from rfl]
 go_wp2
 simp [bodyPostS, results, Tryz.results29, gaveWQ]
theorem catch_idleQ (p o : Value) (w : World) :
 CallsD Tryz.prog 29 #[p, o] .returning w fun e u' w' => e = .returned (.tuple #[]) /\ u' = .returning /\ w' = w := by
 refine callsD_of_wpS Tryz.func29 rfl fun c₀ cs hu => ?_
 apply wpS_seq
 apply wpS_region
 simp [wpOpsS, go_sem, recoverD, hu, Tryz.ntmps29, Exit.thenS]
 refine wpS_cond (t := false) (by simp [Act.eval, Array.replicate]) ?_
 simp only [Bool.false_eq_true, if_false]
 refine wpS_of_wp (wp_skip ?_)
 cases c₀
 simp_all [bodyPostS, results, Tryz.results29]
def ReadOkQ (w : World) (s : List UInt8) (e : Ending) (w' : World) : Prop :=
 (∃ qv zl ol vl rs la lc S, readQ s = some qv /\ qv.R = S.map bare /\ e = .returned (.tuple #[.agg #[.int .i64 qv.kind, .string (txt qv.name), .int .i64 qv.id, .int .i64 qv.seed, .int .i64 qv.steps, .int .i64 qv.c.n, zl, ol, vl, .int .i64 qv.c.f, rs, .slice la qv.L.length lc], .bool true]) /\ Below w.heap.size w w' /\ QO w' (w.heap.size + 3) zl ol vl rs (.slice la qv.L.length lc) S qv /\ Apt S la /\ NilQ zl ol vl rs la S) ∨ (readQ s = none /\ e = .returned (.tuple #[.agg #[.int .i64 0, .string ⟨#[]⟩, .int .i64 0, .int .i64 0, .int .i64 0, .int .i64 0, .slice none 0 0, .slice none 0 0, .slice none 0 0, .int .i64 0, .slice none 0 0, .slice none 0 0], .bool false]) /\ Below w.heap.size w w')
theorem gave_rowsQ {w w4 : World} {v0 v1 v2 v3 v4 v5 v6 v7 v8 v9 v10 v11 b : Value} (hB : Below w.heap.size w w4) (hT : w4.heap[w.heap.size]? = some (.cells #[v0, v1, v2, v3, v4, v5, v6, v7, v8, v9, v10, v11] 33 (0, 0))) (hO : w4.heap[w.heap.size + 1]? = some (.cells #[b] 4 (0, 0))) :
 Below w.heap.size w (gaveWQ w4 w.heap.size (w.heap.size + 1)) /\ (gaveWQ w4 w.heap.size (w.heap.size + 1)).heap[w.heap.size]? = some (.cells #[.int .i64 0, .string ⟨#[]⟩, .int .i64 0, .int .i64 0, .int .i64 0, .int .i64 0, .slice none 0 0, .slice none 0 0, .slice none 0 0, .int .i64 0, .slice none 0 0, .slice none 0 0] 33 (0, 0)) /\ (gaveWQ w4 w.heap.size (w.heap.size + 1)).heap[w.heap.size + 1]? = some (.cells #[.bool false] 4 (0, 0)) := by
 have h1 := row_lt hO
 have hT1 : ((((((((((((w4.setCell ⟨w.heap.size, 0, none⟩ (.int .i64 0)).setCell ⟨w.heap.size, 1, none⟩ (.string ⟨#[]⟩)).setCell ⟨w.heap.size, 2, none⟩ (.int .i64 0)).setCell ⟨w.heap.size, 3, none⟩ (.int .i64 0)).setCell ⟨w.heap.size, 4, none⟩ (.int .i64 0)).setCell ⟨w.heap.size, 5, none⟩ (.int .i64 0)).setCell ⟨w.heap.size, 6, none⟩ (.slice none 0 0)).setCell ⟨w.heap.size, 7, none⟩ (.slice none 0 0)).setCell ⟨w.heap.size, 8, none⟩ (.slice none 0 0)).setCell ⟨w.heap.size, 9, none⟩ (.int .i64 0)).setCell ⟨w.heap.size, 10, none⟩ (.slice none 0 0)).setCell ⟨w.heap.size, 11, none⟩ (.slice none 0 0)).heap[w.heap.size]? = some (.cells #[.int .i64 0, .string ⟨#[]⟩, .int .i64 0, .int .i64 0, .int .i64 0, .int .i64 0, .slice none 0 0, .slice none 0 0, .slice none 0 0, .int .i64 0, .slice none 0 0, .slice none 0 0] 33 (0, 0)) := (putAll12 (.int .i64 0) (.string ⟨#[]⟩) (.int .i64 0) (.int .i64 0) (.int .i64 0) (.int .i64 0) (.slice none 0 0) (.slice none 0 0) (.slice none 0 0) (.int .i64 0) (.slice none 0 0) (.slice none 0 0) hT)
 have hO1 : ((((((((((((w4.setCell ⟨w.heap.size, 0, none⟩ (.int .i64 0)).setCell ⟨w.heap.size, 1, none⟩ (.string ⟨#[]⟩)).setCell ⟨w.heap.size, 2, none⟩ (.int .i64 0)).setCell ⟨w.heap.size, 3, none⟩ (.int .i64 0)).setCell ⟨w.heap.size, 4, none⟩ (.int .i64 0)).setCell ⟨w.heap.size, 5, none⟩ (.int .i64 0)).setCell ⟨w.heap.size, 6, none⟩ (.slice none 0 0)).setCell ⟨w.heap.size, 7, none⟩ (.slice none 0 0)).setCell ⟨w.heap.size, 8, none⟩ (.slice none 0 0)).setCell ⟨w.heap.size, 9, none⟩ (.int .i64 0)).setCell ⟨w.heap.size, 10, none⟩ (.slice none 0 0)).setCell ⟨w.heap.size, 11, none⟩ (.slice none 0 0)).heap[w.heap.size + 1]? = some (.cells #[b] 4 (0, 0)) := (set_rowM (set_rowM (set_rowM (set_rowM (set_rowM (set_rowM (set_rowM (set_rowM (set_rowM (set_rowM (set_rowM (set_rowM hO (by omega)) (by omega)) (by omega)) (by omega)) (by omega)) (by omega)) (by omega)) (by omega)) (by omega)) (by omega)) (by omega)) (by omega))
 refine ⟨?_, ?_, ?_⟩
 · unfold gaveWQ
   refine Below.alloc (Below.setCell (Below.setCell (Below.setCell (Below.setCell (Below.setCell (Below.setCell (Below.setCell (Below.setCell (Below.setCell (Below.setCell (Below.setCell (Below.setCell (Below.setCell hB (by simp) _) (by simp) _) (by simp) _) (by simp) _) (by simp) _) (by simp) _) (by simp) _) (by simp) _) (by simp) _) (by simp) _) (by simp) _) (by simp) _) (by simp) _) ?_ _
   simp
   omega
 · unfold gaveWQ
   rw [heap_alloc_old _ _ (by simp; omega)]
   exact set_rowM hT1 (by omega)
 · unfold gaveWQ
   rw [heap_alloc_old _ _ (by simp; omega)]
   exact heap_setCell_same _ _ _ _ _ _ hO1
set_option maxHeartbeats 1000000 in
theorem gave_endQ {w w4 : World} {s : List UInt8} {v0 v1 v2 v3 v4 v5 v6 v7 v8 v9 v10 v11 b : Value} {tmps : Array Value} (hB : Below w.heap.size w w4) (hT : w4.heap[w.heap.size]? = some (.cells #[v0, v1, v2, v3, v4, v5, v6, v7, v8, v9, v10, v11] 33 (0, 0))) (hO : w4.heap[w.heap.size + 1]? = some (.cells #[b] 4 (0, 0))) (hr : readQ s = none)
 (h4 : tmps[4]? = some (.pointer (some ⟨w.heap.size, 0, none⟩))) (h5 : tmps[5]? = some (.pointer (some ⟨w.heap.size + 1, 0, none⟩))) :
 bodyPostD Tryz.prog Tryz.f15 (ReadOkQ w s) (Exit.panic GV) { tmps := tmps, defers := [{ target := Target.fn (Fn.func 29) #[.pointer (some ⟨w.heap.size, 0, none⟩), .pointer (some ⟨w.heap.size + 1, 0, none⟩)], args := #[] }] } w4 := by
 obtain ⟨hB2, hT2, hO2⟩ := gave_rowsQ hB hT hO
 refine leaves_cons (f := 29) (args := #[.pointer (some ⟨w.heap.size, 0, none⟩), .pointer (some ⟨w.heap.size + 1, 0, none⟩)]) (by simp) (by simp [go_sem]) ?_
 refine (catch_gaveQ w.heap.size (w.heap.size + 1) _ _ _ _ _ _ _ _ _ _ _ _ _ w4 hT hO (by omega)).mono ?_
 rintro e u' w'' ⟨rfl, rfl, rfl⟩
 obtain ⟨c0, c1, c2, c3, c4, c5, c6, c7, c8, c9, c10, c11⟩ := cells12q hT2
 have b0 : (gaveWQ w4 w.heap.size (w.heap.size + 1)).cell? ⟨w.heap.size + 1, 0, none⟩ = some (.bool false) := by rw [cell_of_row _ _ _ _ _ _ hO2]; rfl
 generalize gaveWQ w4 w.heap.size (w.heap.size + 1) = G at *
 simp [Leaves, settle, results, Tryz.results15, go_sem, c0, c1, c2, c3, c4, c5, c6, c7, c8, c9, c10, c11, b0, h4, h5]
 exact .inr ⟨hr, rfl, hB2⟩
set_option maxHeartbeats 2000000 in
set_option maxRecDepth 10000 in
theorem readWholeQ_any (s : List UInt8) (w : World) (hG : GE w) (hs : s.length <= 1000000000) :
 Calls Tryz.prog 15 #[.string (txt s), .func (.func 16) #[] #[]] w (ReadOkQ w s) := by
 have hmf : ∀ (fn : Fn) (first cap : Array Value) (w : World), (Instr.makeFunc fn first cap).run Tryz.prog w = .ok (.func fn first cap) w := fun _ _ _ _ => rfl
 have B3 : Hid (Below w.heap.size w (((w.alloc (.cells #[.int .i64 0, .string ⟨#[]⟩, .int .i64 0, .int .i64 0, .int .i64 0, .int .i64 0, .slice none 0 0, .slice none 0 0, .slice none 0 0, .int .i64 0, .slice none 0 0, .slice none 0 0] 33)).alloc (.cells #[.bool false] 4)).alloc (.cells #[.string (txt s)] 71))) := (((Below.refl _ _).alloc (Nat.le_refl _) _).alloc (by simp) _).alloc (by simp; omega) _
 have T3 : Hid ((((w.alloc (.cells #[.int .i64 0, .string ⟨#[]⟩, .int .i64 0, .int .i64 0, .int .i64 0, .int .i64 0, .slice none 0 0, .slice none 0 0, .slice none 0 0, .int .i64 0, .slice none 0 0, .slice none 0 0] 33)).alloc (.cells #[.bool false] 4)).alloc (.cells #[.string (txt s)] 71)).heap[w.heap.size]? = some (.cells #[.int .i64 0, .string ⟨#[]⟩, .int .i64 0, .int .i64 0, .int .i64 0, .int .i64 0, .slice none 0 0, .slice none 0 0, .slice none 0 0, .int .i64 0, .slice none 0 0, .slice none 0 0] 33 (0, 0))) := (heap_alloc_old _ _ (by simp; omega)).trans (heap_alloc2_old _ _ _)
 have O3 : Hid ((((w.alloc (.cells #[.int .i64 0, .string ⟨#[]⟩, .int .i64 0, .int .i64 0, .int .i64 0, .int .i64 0, .slice none 0 0, .slice none 0 0, .slice none 0 0, .int .i64 0, .slice none 0 0, .slice none 0 0] 33)).alloc (.cells #[.bool false] 4)).alloc (.cells #[.string (txt s)] 71)).heap[w.heap.size + 1]? = some (.cells #[.bool false] 4 (0, 0))) := (heap_alloc_old _ _ (by simp)).trans (heap_alloc2_new _ _ _)
 have R3 : Hid (RX (((w.alloc (.cells #[.int .i64 0, .string ⟨#[]⟩, .int .i64 0, .int .i64 0, .int .i64 0, .int .i64 0, .slice none 0 0, .slice none 0 0, .slice none 0 0, .int .i64 0, .slice none 0 0, .slice none 0 0] 33)).alloc (.cells #[.bool false] 4)).alloc (.cells #[.string (txt s)] 71)) (w.heap.size + 1 + 1) s) := by
  show _ = _
  have := heap_alloc_new ((w.alloc (.cells #[.int .i64 0, .string ⟨#[]⟩, .int .i64 0, .int .i64 0, .int .i64 0, .int .i64 0, .slice none 0 0, .slice none 0 0, .slice none 0 0, .int .i64 0, .slice none 0 0, .slice none 0 0] 33)).alloc (.cells #[.bool false] 4)) (.cells #[.string (txt s)] 71)
  simpa using this
 have Z3 : Hid ((((w.alloc (.cells #[.int .i64 0, .string ⟨#[]⟩, .int .i64 0, .int .i64 0, .int .i64 0, .int .i64 0, .slice none 0 0, .slice none 0 0, .slice none 0 0, .int .i64 0, .slice none 0 0, .slice none 0 0] 33)).alloc (.cells #[.bool false] 4)).alloc (.cells #[.string (txt s)] 71)).heap.size = w.heap.size + 3) := by show _ = _; simp
 have HRF : Hid (readQ s = match reqF s with | none => none | some (qv, r) => if r = [] then some qv else none) := rfl
 go_enter_defers Tryz.func15, Tryz.ntmps15
 go_wp2_with fail
 generalize (((w.alloc (.cells #[.int .i64 0, .string ⟨#[]⟩, .int .i64 0, .int .i64 0, .int .i64 0, .int .i64 0, .slice none 0 0, .slice none 0 0, .slice none 0 0, .int .i64 0, .slice none 0 0, .slice none 0 0] 33)).alloc (.cells #[.bool false] 4)).alloc (.cells #[.string (txt s)] 71)) = W3 at *
 refine (takeReq_any (w.heap.size + 1 + 1) s W3 R3.out (hG.below B3.out (Nat.le_refl _)) hs).mono ?_
 rintro e w4 (⟨qv, r, zl, ol, vl, rs, la, lc, S, hp, hS, rfl, hr, hg, ho, hpo, hap, hnq⟩ | ⟨hp, rfl, hg⟩)
 · obtain ⟨za, zc, oa, oc, va, vc, rfl, rfl, rfl⟩ := ho.z0
   obtain ⟨ra, rc, e, -⟩ := own_sl hpo.r
   subst e
   obtain ⟨nz, HN1⟩ := nmd qv.c.zs.length
   obtain ⟨no, HN2⟩ := nmd qv.c.ko
   obtain ⟨nv, HN3⟩ := nmd qv.c.kv
   obtain ⟨nr, HN4⟩ := nmd S.length
   obtain ⟨nl, HN5⟩ := nmd qv.L.length
   rw [HN1.out, HN2.out, HN3.out] at ho
   rw [HN4.out, HN5.out] at hpo
   rw [HN1.out, HN2.out, HN3.out, HN4.out, HN5.out]
   have HP : Hid (reqF s = some (qv, r)) := hp
   have HSB : Hid (qv.R = S.map bare) := hS
   have HAP : Hid (Apt S la) := hap
   rw [HN1.out, HN2.out, HN3.out, HN4.out] at hnq
   have HNQ := hdn hnq
   have P4 : Hid (QO w4 W3.heap.size (.slice za nz zc) (.slice oa no oc) (.slice va nv vc) (.slice ra nr rc) (.slice la nl lc) S qv) := ⟨ho, hpo⟩
   have R4 : Hid (RX w4 (w.heap.size + 1 + 1) r) := hr
   have T4 : Hid (w4.heap[w.heap.size]? = some (.cells #[.int .i64 0, .string ⟨#[]⟩, .int .i64 0, .int .i64 0, .int .i64 0, .int .i64 0, .slice none 0 0, .slice none 0 0, .slice none 0 0, .int .i64 0, .slice none 0 0, .slice none 0 0] 33 (0, 0))) := grown_row hg T3.out (by simp; omega)
   have O4 : Hid (w4.heap[w.heap.size + 1]? = some (.cells #[.bool false] 4 (0, 0))) := grown_row hg O3.out (by simp)
   have B4 : Hid (Below w.heap.size w w4) := B3.out.grown hg (by rw [Z3.out]; omega) (fun k e => by simp at e; omega)
   have hz3 := Z3.out
   clear hp ho hpo hS hap hnq hr hg B3 T3 O3 R3
   obtain ⟨c0, c1, c2, c3, c4, c5, c6, c7, c8, c9, c10, c11⟩ := cells12q T4.out
   have f0 := fun i => frozen_of_row _ _ i _ _ T4.out
   have q0 := R4.out.cell
   have nq : w.heap.size + 1 + 1 ≠ w.heap.size := by omega
   have T5 : Hid (((((((((((((w4.setCell ⟨w.heap.size, 0, none⟩ (.int .i64 qv.kind)).setCell ⟨w.heap.size, 1, none⟩ (.string (txt qv.name))).setCell ⟨w.heap.size, 2, none⟩ (.int .i64 qv.id)).setCell ⟨w.heap.size, 3, none⟩ (.int .i64 qv.seed)).setCell ⟨w.heap.size, 4, none⟩ (.int .i64 qv.steps)).setCell ⟨w.heap.size, 5, none⟩ (.int .i64 qv.c.n)).setCell ⟨w.heap.size, 6, none⟩ (.slice za nz zc)).setCell ⟨w.heap.size, 7, none⟩ (.slice oa no oc)).setCell ⟨w.heap.size, 8, none⟩ (.slice va nv vc)).setCell ⟨w.heap.size, 9, none⟩ (.int .i64 qv.c.f)).setCell ⟨w.heap.size, 10, none⟩ (.slice ra nr rc)).setCell ⟨w.heap.size, 11, none⟩ (.slice la nl lc)).heap[w.heap.size]? = some (.cells #[.int .i64 qv.kind, .string (txt qv.name), .int .i64 qv.id, .int .i64 qv.seed, .int .i64 qv.steps, .int .i64 qv.c.n, .slice za nz zc, .slice oa no oc, .slice va nv vc, .int .i64 qv.c.f, .slice ra nr rc, .slice la nl lc] 33 (0, 0))) := (putAll12 (.int .i64 qv.kind) (.string (txt qv.name)) (.int .i64 qv.id) (.int .i64 qv.seed) (.int .i64 qv.steps) (.int .i64 qv.c.n) (.slice za nz zc) (.slice oa no oc) (.slice va nv vc) (.int .i64 qv.c.f) (.slice ra nr rc) (.slice la nl lc) T4.out)
   have O5 : Hid (((((((((((((w4.setCell ⟨w.heap.size, 0, none⟩ (.int .i64 qv.kind)).setCell ⟨w.heap.size, 1, none⟩ (.string (txt qv.name))).setCell ⟨w.heap.size, 2, none⟩ (.int .i64 qv.id)).setCell ⟨w.heap.size, 3, none⟩ (.int .i64 qv.seed)).setCell ⟨w.heap.size, 4, none⟩ (.int .i64 qv.steps)).setCell ⟨w.heap.size, 5, none⟩ (.int .i64 qv.c.n)).setCell ⟨w.heap.size, 6, none⟩ (.slice za nz zc)).setCell ⟨w.heap.size, 7, none⟩ (.slice oa no oc)).setCell ⟨w.heap.size, 8, none⟩ (.slice va nv vc)).setCell ⟨w.heap.size, 9, none⟩ (.int .i64 qv.c.f)).setCell ⟨w.heap.size, 10, none⟩ (.slice ra nr rc)).setCell ⟨w.heap.size, 11, none⟩ (.slice la nl lc)).heap[w.heap.size + 1]? = some (.cells #[.bool false] 4 (0, 0))) := (set_rowM (set_rowM (set_rowM (set_rowM (set_rowM (set_rowM (set_rowM (set_rowM (set_rowM (set_rowM (set_rowM (set_rowM O4.out (by omega)) (by omega)) (by omega)) (by omega)) (by omega)) (by omega)) (by omega)) (by omega)) (by omega)) (by omega)) (by omega)) (by omega))
   have B5 : Hid (Below w.heap.size w ((((((((((((w4.setCell ⟨w.heap.size, 0, none⟩ (.int .i64 qv.kind)).setCell ⟨w.heap.size, 1, none⟩ (.string (txt qv.name))).setCell ⟨w.heap.size, 2, none⟩ (.int .i64 qv.id)).setCell ⟨w.heap.size, 3, none⟩ (.int .i64 qv.seed)).setCell ⟨w.heap.size, 4, none⟩ (.int .i64 qv.steps)).setCell ⟨w.heap.size, 5, none⟩ (.int .i64 qv.c.n)).setCell ⟨w.heap.size, 6, none⟩ (.slice za nz zc)).setCell ⟨w.heap.size, 7, none⟩ (.slice oa no oc)).setCell ⟨w.heap.size, 8, none⟩ (.slice va nv vc)).setCell ⟨w.heap.size, 9, none⟩ (.int .i64 qv.c.f)).setCell ⟨w.heap.size, 10, none⟩ (.slice ra nr rc)).setCell ⟨w.heap.size, 11, none⟩ (.slice la nl lc))) := (Below.setCell (Below.setCell (Below.setCell (Below.setCell (Below.setCell (Below.setCell (Below.setCell (Below.setCell (Below.setCell (Below.setCell (Below.setCell (Below.setCell B4.out (by simp) _) (by simp) _) (by simp) _) (by simp) _) (by simp) _) (by simp) _) (by simp) _) (by simp) _) (by simp) _) (by simp) _) (by simp) _) (by simp) _)
   have P5 : Hid (QO ((((((((((((w4.setCell ⟨w.heap.size, 0, none⟩ (.int .i64 qv.kind)).setCell ⟨w.heap.size, 1, none⟩ (.string (txt qv.name))).setCell ⟨w.heap.size, 2, none⟩ (.int .i64 qv.id)).setCell ⟨w.heap.size, 3, none⟩ (.int .i64 qv.seed)).setCell ⟨w.heap.size, 4, none⟩ (.int .i64 qv.steps)).setCell ⟨w.heap.size, 5, none⟩ (.int .i64 qv.c.n)).setCell ⟨w.heap.size, 6, none⟩ (.slice za nz zc)).setCell ⟨w.heap.size, 7, none⟩ (.slice oa no oc)).setCell ⟨w.heap.size, 8, none⟩ (.slice va nv vc)).setCell ⟨w.heap.size, 9, none⟩ (.int .i64 qv.c.f)).setCell ⟨w.heap.size, 10, none⟩ (.slice ra nr rc)).setCell ⟨w.heap.size, 11, none⟩ (.slice la nl lc)) W3.heap.size (.slice za nz zc) (.slice oa no oc) (.slice va nv vc) (.slice ra nr rc) (.slice la nl lc) S qv) := (QO.set (QO.set (QO.set (QO.set (QO.set (QO.set (QO.set (QO.set (QO.set (QO.set (QO.set (QO.set P4.out (by omega)) (by omega)) (by omega)) (by omega)) (by omega)) (by omega)) (by omega)) (by omega)) (by omega)) (by omega)) (by omega)) (by omega))
   go_wp2_with fail
   rw [txt_noneQ]
   by_cases h0 : r = []
   · have HR : Hid (readQ s = some qv) := by show _ = _; rw [HRF.out, HP.out]; simp [h0]
     rw [decide_eq_true h0]
     refine (must_yes _ _).mono ?_
     rintro e w' ⟨rfl, rfl⟩
     clear c0 c1 c2 c3 c4 c5 c6 c7 c8 c9 c10 c11 f0 q0
     obtain ⟨c0, c1, c2, c3, c4, c5, c6, c7, c8, c9, c10, c11⟩ := cells12q T5.out
     have f0 := fun i => frozen_of_row _ _ i _ _ T5.out
     have b0 : ((((((((((((w4.setCell ⟨w.heap.size, 0, none⟩ (.int .i64 qv.kind)).setCell ⟨w.heap.size, 1, none⟩ (.string (txt qv.name))).setCell ⟨w.heap.size, 2, none⟩ (.int .i64 qv.id)).setCell ⟨w.heap.size, 3, none⟩ (.int .i64 qv.seed)).setCell ⟨w.heap.size, 4, none⟩ (.int .i64 qv.steps)).setCell ⟨w.heap.size, 5, none⟩ (.int .i64 qv.c.n)).setCell ⟨w.heap.size, 6, none⟩ (.slice za nz zc)).setCell ⟨w.heap.size, 7, none⟩ (.slice oa no oc)).setCell ⟨w.heap.size, 8, none⟩ (.slice va nv vc)).setCell ⟨w.heap.size, 9, none⟩ (.int .i64 qv.c.f)).setCell ⟨w.heap.size, 10, none⟩ (.slice ra nr rc)).setCell ⟨w.heap.size, 11, none⟩ (.slice la nl lc)).cell? ⟨w.heap.size + 1, 0, none⟩ = some (.bool false) := by rw [cell_of_row _ _ _ _ _ _ O5.out]; rfl
     have f1 := fun i => frozen_of_row _ _ i _ _ O5.out
     generalize ((((((((((((w4.setCell ⟨w.heap.size, 0, none⟩ (.int .i64 qv.kind)).setCell ⟨w.heap.size, 1, none⟩ (.string (txt qv.name))).setCell ⟨w.heap.size, 2, none⟩ (.int .i64 qv.id)).setCell ⟨w.heap.size, 3, none⟩ (.int .i64 qv.seed)).setCell ⟨w.heap.size, 4, none⟩ (.int .i64 qv.steps)).setCell ⟨w.heap.size, 5, none⟩ (.int .i64 qv.c.n)).setCell ⟨w.heap.size, 6, none⟩ (.slice za nz zc)).setCell ⟨w.heap.size, 7, none⟩ (.slice oa no oc)).setCell ⟨w.heap.size, 8, none⟩ (.slice va nv vc)).setCell ⟨w.heap.size, 9, none⟩ (.int .i64 qv.c.f)).setCell ⟨w.heap.size, 10, none⟩ (.slice ra nr rc)).setCell ⟨w.heap.size, 11, none⟩ (.slice la nl lc)) = W5 at *
     have nb : w.heap.size + 1 ≠ w.heap.size := by omega
     have T6 : Hid ((((((((((((((W5.setCell ⟨w.heap.size, 0, none⟩ (.int .i64 qv.kind)).setCell ⟨w.heap.size, 1, none⟩ (.string (txt qv.name))).setCell ⟨w.heap.size, 2, none⟩ (.int .i64 qv.id)).setCell ⟨w.heap.size, 3, none⟩ (.int .i64 qv.seed)).setCell ⟨w.heap.size, 4, none⟩ (.int .i64 qv.steps)).setCell ⟨w.heap.size, 5, none⟩ (.int .i64 qv.c.n)).setCell ⟨w.heap.size, 6, none⟩ (.slice za nz zc)).setCell ⟨w.heap.size, 7, none⟩ (.slice oa no oc)).setCell ⟨w.heap.size, 8, none⟩ (.slice va nv vc)).setCell ⟨w.heap.size, 9, none⟩ (.int .i64 qv.c.f)).setCell ⟨w.heap.size, 10, none⟩ (.slice ra nr rc)).setCell ⟨w.heap.size, 11, none⟩ (.slice la nl lc)).setCell ⟨w.heap.size + 1, 0, none⟩ (.bool true)).heap[w.heap.size]? = some (.cells #[.int .i64 qv.kind, .string (txt qv.name), .int .i64 qv.id, .int .i64 qv.seed, .int .i64 qv.steps, .int .i64 qv.c.n, .slice za nz zc, .slice oa no oc, .slice va nv vc, .int .i64 qv.c.f, .slice ra nr rc, .slice la nl lc] 33 (0, 0))) := set_rowM (putAll12 (.int .i64 qv.kind) (.string (txt qv.name)) (.int .i64 qv.id) (.int .i64 qv.seed) (.int .i64 qv.steps) (.int .i64 qv.c.n) (.slice za nz zc) (.slice oa no oc) (.slice va nv vc) (.int .i64 qv.c.f) (.slice ra nr rc) (.slice la nl lc) T5.out) (by omega)
     have O6 : Hid ((((((((((((((W5.setCell ⟨w.heap.size, 0, none⟩ (.int .i64 qv.kind)).setCell ⟨w.heap.size, 1, none⟩ (.string (txt qv.name))).setCell ⟨w.heap.size, 2, none⟩ (.int .i64 qv.id)).setCell ⟨w.heap.size, 3, none⟩ (.int .i64 qv.seed)).setCell ⟨w.heap.size, 4, none⟩ (.int .i64 qv.steps)).setCell ⟨w.heap.size, 5, none⟩ (.int .i64 qv.c.n)).setCell ⟨w.heap.size, 6, none⟩ (.slice za nz zc)).setCell ⟨w.heap.size, 7, none⟩ (.slice oa no oc)).setCell ⟨w.heap.size, 8, none⟩ (.slice va nv vc)).setCell ⟨w.heap.size, 9, none⟩ (.int .i64 qv.c.f)).setCell ⟨w.heap.size, 10, none⟩ (.slice ra nr rc)).setCell ⟨w.heap.size, 11, none⟩ (.slice la nl lc)).setCell ⟨w.heap.size + 1, 0, none⟩ (.bool true)).heap[w.heap.size + 1]? = some (.cells #[.bool true] 4 (0, 0))) := heap_setCell_same _ _ _ _ _ _ (set_rowM (set_rowM (set_rowM (set_rowM (set_rowM (set_rowM (set_rowM (set_rowM (set_rowM (set_rowM (set_rowM (set_rowM O5.out (by omega)) (by omega)) (by omega)) (by omega)) (by omega)) (by omega)) (by omega)) (by omega)) (by omega)) (by omega)) (by omega)) (by omega))
     have B6 : Hid (Below w.heap.size w (((((((((((((W5.setCell ⟨w.heap.size, 0, none⟩ (.int .i64 qv.kind)).setCell ⟨w.heap.size, 1, none⟩ (.string (txt qv.name))).setCell ⟨w.heap.size, 2, none⟩ (.int .i64 qv.id)).setCell ⟨w.heap.size, 3, none⟩ (.int .i64 qv.seed)).setCell ⟨w.heap.size, 4, none⟩ (.int .i64 qv.steps)).setCell ⟨w.heap.size, 5, none⟩ (.int .i64 qv.c.n)).setCell ⟨w.heap.size, 6, none⟩ (.slice za nz zc)).setCell ⟨w.heap.size, 7, none⟩ (.slice oa no oc)).setCell ⟨w.heap.size, 8, none⟩ (.slice va nv vc)).setCell ⟨w.heap.size, 9, none⟩ (.int .i64 qv.c.f)).setCell ⟨w.heap.size, 10, none⟩ (.slice ra nr rc)).setCell ⟨w.heap.size, 11, none⟩ (.slice la nl lc)).setCell ⟨w.heap.size + 1, 0, none⟩ (.bool true))) := Below.setCell (Below.setCell (Below.setCell (Below.setCell (Below.setCell (Below.setCell (Below.setCell (Below.setCell (Below.setCell (Below.setCell (Below.setCell (Below.setCell (Below.setCell B5.out (by simp) _) (by simp) _) (by simp) _) (by simp) _) (by simp) _) (by simp) _) (by simp) _) (by simp) _) (by simp) _) (by simp) _) (by simp) _) (by simp) _) (by simp) _
     have P6 : Hid (QO (((((((((((((W5.setCell ⟨w.heap.size, 0, none⟩ (.int .i64 qv.kind)).setCell ⟨w.heap.size, 1, none⟩ (.string (txt qv.name))).setCell ⟨w.heap.size, 2, none⟩ (.int .i64 qv.id)).setCell ⟨w.heap.size, 3, none⟩ (.int .i64 qv.seed)).setCell ⟨w.heap.size, 4, none⟩ (.int .i64 qv.steps)).setCell ⟨w.heap.size, 5, none⟩ (.int .i64 qv.c.n)).setCell ⟨w.heap.size, 6, none⟩ (.slice za nz zc)).setCell ⟨w.heap.size, 7, none⟩ (.slice oa no oc)).setCell ⟨w.heap.size, 8, none⟩ (.slice va nv vc)).setCell ⟨w.heap.size, 9, none⟩ (.int .i64 qv.c.f)).setCell ⟨w.heap.size, 10, none⟩ (.slice ra nr rc)).setCell ⟨w.heap.size, 11, none⟩ (.slice la nl lc)).setCell ⟨w.heap.size + 1, 0, none⟩ (.bool true)) W3.heap.size (.slice za nz zc) (.slice oa no oc) (.slice va nv vc) (.slice ra nr rc) (.slice la nl lc) S qv) := QO.set (QO.set (QO.set (QO.set (QO.set (QO.set (QO.set (QO.set (QO.set (QO.set (QO.set (QO.set (QO.set P5.out (by omega)) (by omega)) (by omega)) (by omega)) (by omega)) (by omega)) (by omega)) (by omega)) (by omega)) (by omega)) (by omega)) (by omega)) (by omega)
     go_wp2
     clear c0 c1 c2 c3 c4 c5 c6 c7 c8 c9 c10 c11 b0 f0 f1
     generalize ((((((((((((W5.setCell ⟨w.heap.size, 0, none⟩ (.int .i64 qv.kind)).setCell ⟨w.heap.size, 1, none⟩ (.string (txt qv.name))).setCell ⟨w.heap.size, 2, none⟩ (.int .i64 qv.id)).setCell ⟨w.heap.size, 3, none⟩ (.int .i64 qv.seed)).setCell ⟨w.heap.size, 4, none⟩ (.int .i64 qv.steps)).setCell ⟨w.heap.size, 5, none⟩ (.int .i64 qv.c.n)).setCell ⟨w.heap.size, 6, none⟩ (.slice za nz zc)).setCell ⟨w.heap.size, 7, none⟩ (.slice oa no oc)).setCell ⟨w.heap.size, 8, none⟩ (.slice va nv vc)).setCell ⟨w.heap.size, 9, none⟩ (.int .i64 qv.c.f)).setCell ⟨w.heap.size, 10, none⟩ (.slice ra nr rc)).setCell ⟨w.heap.size, 11, none⟩ (.slice la nl lc)).setCell ⟨w.heap.size + 1, 0, none⟩ (.bool true) = W6 at *
     refine leaves_cons (f := 29) (args := #[.pointer (some ⟨w.heap.size, 0, none⟩), .pointer (some ⟨w.heap.size + 1, 0, none⟩)]) (by simp) (by simp [go_sem]) ?_
     refine (catch_idleQ _ _ _).mono ?_
     rintro e u' w'' ⟨rfl, rfl, rfl⟩
     obtain ⟨c0, c1, c2, c3, c4, c5, c6, c7, c8, c9, c10, c11⟩ := cells12q T6.out
     have b0 : w''.cell? ⟨w.heap.size + 1, 0, none⟩ = some (.bool true) := by rw [cell_of_row _ _ _ _ _ _ O6.out]; rfl
     simp [Leaves, settle, results, Tryz.results15, go_sem, c0, c1, c2, c3, c4, c5, c6, c7, c8, c9, c10, c11, b0]
     exact .inl ⟨qv, _, _, _, .slice ra nr rc, la, lc, S, HR.out, HSB.out, by rw [HN5.out], B6.out, by rw [HN5.out]; exact P6.out.base (by omega), HAP.out, HNQ.out⟩
   · rw [decide_eq_false h0]
     refine (must_no _ _).mono ?_
     rintro e w' ⟨rfl, rfl⟩
     exact gave_endQ B5.out T5.out O5.out (by rw [HRF.out, HP.out]; simp [h0]) rfl rfl
 · have T4 : w4.heap[w.heap.size]? = some (.cells #[.int .i64 0, .string ⟨#[]⟩, .int .i64 0, .int .i64 0, .int .i64 0, .int .i64 0, .slice none 0 0, .slice none 0 0, .slice none 0 0, .int .i64 0, .slice none 0 0, .slice none 0 0] 33 (0, 0)) := grown_row hg T3.out (by simp; omega)
   have O4 : w4.heap[w.heap.size + 1]? = some (.cells #[.bool false] 4 (0, 0)) := grown_row hg O3.out (by simp)
   have B4 : Below w.heap.size w w4 := B3.out.grown hg (by rw [Z3.out]; omega) (fun k e => by simp at e; omega)
   exact gave_endQ B4 T4 O4 (by rw [HRF.out, hp]) rfl rfl
set_option maxHeartbeats 2000000 in
theorem implReadReq_any (s : List UInt8) (w : World) (hG : GE w) (hs : s.length <= 1000000000) :
 Calls Tryz.prog 5 #[.string (txt s)] w (ReadOkQ w s) := by
 have B0 : Hid (Below w.heap.size w (w.alloc (.cells #[.int .i64 0, .string ⟨#[]⟩, .int .i64 0, .int .i64 0, .int .i64 0, .int .i64 0, .slice none 0 0, .slice none 0 0, .slice none 0 0, .int .i64 0, .slice none 0 0, .slice none 0 0] 33))) := (Below.refl _ _).alloc (Nat.le_refl _) _
 have Z0 : Hid ((w.alloc (.cells #[.int .i64 0, .string ⟨#[]⟩, .int .i64 0, .int .i64 0, .int .i64 0, .int .i64 0, .slice none 0 0, .slice none 0 0, .slice none 0 0, .int .i64 0, .slice none 0 0, .slice none 0 0] 33)).heap[w.heap.size]? = some (.cells #[.int .i64 0, .string ⟨#[]⟩, .int .i64 0, .int .i64 0, .int .i64 0, .int .i64 0, .slice none 0 0, .slice none 0 0, .slice none 0 0, .int .i64 0, .slice none 0 0, .slice none 0 0] 33 (0, 0))) := heap_alloc_new _ _
 have S0 : Hid ((w.alloc (.cells #[.int .i64 0, .string ⟨#[]⟩, .int .i64 0, .int .i64 0, .int .i64 0, .int .i64 0, .slice none 0 0, .slice none 0 0, .slice none 0 0, .int .i64 0, .slice none 0 0, .slice none 0 0] 33)).heap.size = w.heap.size + 1) := by show _ = _; simp
 go_enter Tryz.func5, Tryz.ntmps5
 go_wp2_with fail
 generalize w.alloc (.cells #[.int .i64 0, .string ⟨#[]⟩, .int .i64 0, .int .i64 0, .int .i64 0, .int .i64 0, .slice none 0 0, .slice none 0 0, .slice none 0 0, .int .i64 0, .slice none 0 0, .slice none 0 0] 33) = W0 at *
 refine (readWholeQ_any s W0 (hG.below B0.out (Nat.le_refl _)) hs).mono ?_
 rintro e w1 (⟨qv, zl, ol, vl, rs, la, lc, S, hr, hS, rfl, hb, ho, hap, hnq⟩ | ⟨hr, rfl, hb⟩)
 · obtain ⟨za, zc, oa, oc, va, vc, rfl, rfl, rfl⟩ := ho.c.z0
   obtain ⟨ra, rc, e, -⟩ := own_sl ho.p.r
   subst e
   obtain ⟨nz, HN1⟩ := nmd qv.c.zs.length
   obtain ⟨no, HN2⟩ := nmd qv.c.ko
   obtain ⟨nv, HN3⟩ := nmd qv.c.kv
   obtain ⟨nr, HN4⟩ := nmd S.length
   obtain ⟨nl, HN5⟩ := nmd qv.L.length
   rw [HN1.out, HN2.out, HN3.out, HN4.out, HN5.out] at ho
   rw [HN1.out, HN2.out, HN3.out, HN4.out, HN5.out]
   have HR : Hid (readQ s = some qv) := hr
   have HSB : Hid (qv.R = S.map bare) := hS
   have HAP : Hid (Apt S la) := hap
   rw [HN1.out, HN2.out, HN3.out, HN4.out] at hnq
   have HNQ := hdn hnq
   have B1 : Hid (Below w.heap.size w w1) := B0.out.trans (hb.mono B0.out.size)
   have Z1 : Hid (w1.heap[w.heap.size]? = some (.cells #[.int .i64 0, .string ⟨#[]⟩, .int .i64 0, .int .i64 0, .int .i64 0, .int .i64 0, .slice none 0 0, .slice none 0 0, .slice none 0 0, .int .i64 0, .slice none 0 0, .slice none 0 0] 33 (0, 0))) := below_row hb (row_lt Z0.out) Z0.out
   have P1 : Hid (QO w1 (w.heap.size + 3) (.slice za nz zc) (.slice oa no oc) (.slice va nv vc) (.slice ra nr rc) (.slice la nl lc) S qv) := ho.base (by rw [S0.out]; omega)
   clear hr hS hap hnq hb ho B0 Z0
   obtain ⟨c0, c1, c2, c3, c4, c5, c6, c7, c8, c9, c10, c11⟩ := cells12q Z1.out
   have f0 := fun i => frozen_of_row _ _ i _ _ Z1.out
   go_wp2
   refine bodyPost_ret (v := .tuple #[.agg #[.int .i64 qv.kind, .string (txt qv.name), .int .i64 qv.id, .int .i64 qv.seed, .int .i64 qv.steps, .int .i64 qv.c.n, .slice za nz zc, .slice oa no oc, .slice va nv vc, .int .i64 qv.c.f, .slice ra nr rc, .slice la nl lc], .bool true]) (by simp [results, Tryz.results5, go_sem, c0, c1, c2, c3, c4, c5, c6, c7, c8, c9, c10, c11]) rfl ?_
   exact .inl ⟨qv, _, _, _, .slice ra nr rc, la, lc, S, HR.out, HSB.out, by rw [HN5.out], (Below.setCell (Below.setCell (Below.setCell (Below.setCell (Below.setCell (Below.setCell (Below.setCell (Below.setCell (Below.setCell (Below.setCell (Below.setCell (Below.setCell B1.out (by simp) _) (by simp) _) (by simp) _) (by simp) _) (by simp) _) (by simp) _) (by simp) _) (by simp) _) (by simp) _) (by simp) _) (by simp) _) (by simp) _), by rw [HN5.out]; exact (QO.set (QO.set (QO.set (QO.set (QO.set (QO.set (QO.set (QO.set (QO.set (QO.set (QO.set (QO.set P1.out (by omega)) (by omega)) (by omega)) (by omega)) (by omega)) (by omega)) (by omega)) (by omega)) (by omega)) (by omega)) (by omega)) (by omega)), HAP.out, HNQ.out⟩
 · have HR : Hid (readQ s = none) := hr
   have B1 : Hid (Below w.heap.size w w1) := B0.out.trans (hb.mono B0.out.size)
   have Z1 : Hid (w1.heap[w.heap.size]? = some (.cells #[.int .i64 0, .string ⟨#[]⟩, .int .i64 0, .int .i64 0, .int .i64 0, .int .i64 0, .slice none 0 0, .slice none 0 0, .slice none 0 0, .int .i64 0, .slice none 0 0, .slice none 0 0] 33 (0, 0))) := below_row hb (row_lt Z0.out) Z0.out
   clear hr hb B0 Z0
   obtain ⟨c0, c1, c2, c3, c4, c5, c6, c7, c8, c9, c10, c11⟩ := cells12q Z1.out
   have f0 := fun i => frozen_of_row _ _ i _ _ Z1.out
   go_wp2
   refine bodyPost_ret (v := .tuple #[.agg #[.int .i64 0, .string ⟨#[]⟩, .int .i64 0, .int .i64 0, .int .i64 0, .int .i64 0, .slice none 0 0, .slice none 0 0, .slice none 0 0, .int .i64 0, .slice none 0 0, .slice none 0 0], .bool false]) (by simp [results, Tryz.results5, go_sem, c0, c1, c2, c3, c4, c5, c6, c7, c8, c9, c10, c11]) rfl ?_
   refine .inr ⟨HR.out, rfl, ?_⟩
   exact (Below.setCell (Below.setCell (Below.setCell (Below.setCell (Below.setCell (Below.setCell (Below.setCell (Below.setCell (Below.setCell (Below.setCell (Below.setCell (Below.setCell B1.out (by simp) _) (by simp) _) (by simp) _) (by simp) _) (by simp) _) (by simp) _) (by simp) _) (by simp) _) (by simp) _) (by simp) _) (by simp) _) (by simp) _)
end Go.Proofs.YtcapkcallaajaaaGreatDoor
