import Derived.Test.YtmohcdnhbhigdaaPack4
import Derived.Test.YtmohcdnhbhigdaaPutAt
namespace Go.Proofs.Ytmohcdnhbhigdaa
open Go.RowKit

theorem lr7' {w W : World} {c0 c1 c2 c3 c4 r0 r1 : Value} (h : LR w W #[c0, c1, c2, c3, c4] #[r0, r1]) :
    W.cell? ⟨w.heap.size, 0, none⟩ = some c0 ∧ W.cell? ⟨w.heap.size, 1, none⟩ = some c1 ∧ W.cell? ⟨w.heap.size, 2, none⟩ = some c2 ∧ W.cell? ⟨w.heap.size, 3, none⟩ = some c3 ∧ W.cell? ⟨w.heap.size, 4, none⟩ = some c4 ∧ W.cell? ⟨w.heap.size + 1, 0, none⟩ = some r0 ∧ W.cell? ⟨w.heap.size + 1, 1, none⟩ = some r1 := h.cells
theorem LR.put {w W : World} {cs rs : Array Value} (h : LR w W cs rs) {k i : Nat} {v : Value} (hk : w.heap.size + 1 < k) : LR w (W.setCell ⟨k, i, none⟩ v) cs rs :=
  ⟨h.1.setCell (by simp; omega) _, row_set' h.2.1 (by omega), row_set' h.2.2 (by omega)⟩
theorem lr7s {w W : World} {c0 c1 c2 c3 c4 r0 r1 : Value} (h : LR w W #[c0, c1, c2, c3, c4] #[r0, r1]) {k : Nat} (hk : w.heap.size + 1 < k) (u v : Value) :
    (fun X : World => X.cell? ⟨w.heap.size, 0, none⟩ = some c0 ∧ X.cell? ⟨w.heap.size, 1, none⟩ = some c1 ∧ X.cell? ⟨w.heap.size, 2, none⟩ = some c2 ∧ X.cell? ⟨w.heap.size, 3, none⟩ = some c3 ∧ X.cell? ⟨w.heap.size, 4, none⟩ = some c4 ∧ X.cell? ⟨w.heap.size + 1, 0, none⟩ = some r0 ∧ X.cell? ⟨w.heap.size + 1, 1, none⟩ = some r1) ((W.setCell ⟨k, 0, none⟩ u).setCell ⟨k, 1, none⟩ v) := ((h.put hk).put hk).cells
theorem row_drew {W : World} {k : Nat} {o : Obj} (h : W.heap[k]? = some o) : W.drew.heap[k]? = some o := below_row (Below.refl _ _).drew (row_lt h) h
theorem LR.big {w W : World} {cs rs : Array Value} (h : LR w W cs rs) : w.heap.size + 1 < W.heap.size := row_lt h.2.2
theorem box_set {W : World} {k : Nat} {z0 z1 u v : Value} {T : TypeId} (h : W.heap[k]? = some (.cells #[z0, z1] T (0, 0))) : ((W.setCell ⟨k, 0, none⟩ u).setCell ⟨k, 1, none⟩ v).heap[k]? = some (.cells #[u, v] T (0, 0)) := by
  have s1 := heap_setCell_same W k 0 _ _ u h
  have s2 := heap_setCell_same _ k 1 _ _ v s1
  simpa using s2
theorem own_sets {w : World} {base k ko : Nat} {v u1 u2 : Value} {size : Nat} {xs : List Value} {z0 z1 : Value} (h : w.ownsRow base 2 size v k xs) (hk : w.heap[ko]? = some (.cells #[z0, z1] 32 (0, 0))) : ((w.setCell ⟨ko, 0, none⟩ u1).setCell ⟨ko, 1, none⟩ u2).ownsRow base 2 size v k xs := by
  have hne : v.ownBlock ≠ some ko := fun e => own_type h e hk (by decide)
  exact ownsRow_setCell_other (ownsRow_setCell_other h hne _) hne _

set_option maxRecDepth 10000 in
set_option maxHeartbeats 16000000 in
theorem lawInsertAt (n fine veh : Int) (a ao av bi : Option Addr) (cap ko co kv cv c2 : Nat) (zs os vs ids : List Int) (w : World) (id x : Int) (hA : IntsAt w a zs) (hO : IntsAt w ao os) (hV : IntsAt w av vs) (hI : IntsAt w bi ids) (hlo : os.length = ko * 6) (hlv : vs.length = kv * 5) (hsm : zs.length + ko + kv + ids.length ≤ 1048576) :
    Calls Try.prog 7 #[.agg #[.int .i64 n, .slice a zs.length cap, .slice ao ko co, .slice av kv cv, .int .i64 fine], .agg #[.int .i64 veh, .slice bi ids.length c2], .int .i64 id, .int .i64 x] w fun e w' => e = .returned (.bool true) ∧ Below w.heap.size w w' := by
  have HA : Hid (IntsAt w a zs) := hA
  have HO : Hid (IntsAt w ao os) := hO
  have HV : Hid (IntsAt w av vs) := hV
  have HI : Hid (IntsAt w bi ids) := hI
  have HLO : Hid _ := hlo
  have HLV : Hid _ := hlv
  clear hA hO hV hI hlo hlv
  have HSZ : Hid (szV 1048576 zs.length ko kv = 1048576 - zs.length - ko - kv) := szV_pos (by omega)
  have HX : Hid ((if (1048576 - zs.length - ko - kv : Int) < ids.length then -1 else (1048576 - zs.length - ko - kv : Int) - ids.length) = 1048576 - zs.length - ko - kv - ids.length) := if_neg (by omega)
  have hs1 : zs.length ≤ 1048576 := by omega
  have hs2 : ko ≤ 1048576 := by omega
  have hs3 : kv ≤ 1048576 := by omega
  have hs4 : ids.length ≤ 1048576 := by omega
  have B0 : Hid (LR w ((w.alloc (.cells #[Value.int IntKind.i64 n, Value.slice a zs.length cap, Value.slice ao ko co, Value.slice av kv cv, Value.int IntKind.i64 fine] 49)).alloc (.cells #[Value.int IntKind.i64 veh, Value.slice bi ids.length c2] 50)) _ _) := LR.new w _ _
  have hK12 := chL_le (c := caseB n zs os vs ko kv fine) (n := n) (zs := zs) (os := os) (vs := vs) (ko := ko) (kv := kv) (veh := veh) (ids := ids) (ids' := insL ids x.toNat id) (ok := inB x 0 (ids.length : Int))
  obtain ⟨ch, HCH⟩ : ∃ t, Hid (chB (caseB n zs os vs ko kv fine) n zs os vs ko kv veh ids (inB x 0 (ids.length : Int)) (insL ids x.toNat id) = t) := ⟨_, rfl⟩
  rw [HCH.out] at hK12
  obtain ⟨D, HDD⟩ : ∃ t, Hid (chD ch n zs os vs ko kv veh ids (insL ids x.toNat id) = t) := ⟨_, rfl⟩
  obtain ⟨xs, HXX⟩ : ∃ t, Hid (chL ch (insL ids x.toNat id) = t) := ⟨_, rfl⟩
  rw [HXX.out] at hK12
  obtain ⟨vv, HVV⟩ : ∃ t, Hid (chI ch veh = t) := ⟨_, rfl⟩
  go_enter Try.func7, Try.ntmps7
  obtain ⟨e0, e1, e2, e3, e4, e5, e6⟩ := B0.out.cells
  go_wp2_with fail
  clear e0 e1 e2 e3 e4 e5 e6
  refine (szCase_any n fine 1048576 a ao av zs.length cap ko co kv cv _ (by omega) (by omega) (by omega) (by omega) (by omega)).mono ?_
  rintro e w1 ⟨rfl, hb⟩
  rw [HSZ.out]
  have B1 : Hid (LR w w1 _ _) := B0.out.below hb
  clear hb B0
  obtain ⟨e0, e1, e2, e3, e4, e5, e6⟩ := B1.out.cells
  have hle : (0 : Int) ≤ 1048576 - zs.length - ko - kv := by omega
  go_wp2_with fail
  clear e0 e1 e2 e3 e4 e5 e6
  refine (szRoute_any veh bi ids.length c2 (1048576 - zs.length - ko - kv) _ (by omega) (by omega) (by omega)).mono ?_
  rintro e w2 ⟨rfl, hb⟩
  rw [HX.out]
  have B2 : Hid (LR w w2 _ _) := B1.out.below hb
  clear hb B1
  have hle2 : (0 : Int) ≤ 1048576 - zs.length - ko - kv - ids.length := by omega
  obtain ⟨e0, e1, e2, e3, e4, e5, e6⟩ := B2.out.cells
  go_wp2_with fail
  rename_i Kx hKx
  have key : ∀ (g3 go3 gv3 gr4 bw c0 bs : Nat) (ad0 : Option Addr) (W : World), LR w W #[Value.int IntKind.i64 n, Value.slice a zs.length cap, Value.slice ao ko co, Value.slice av kv cv, Value.int IntKind.i64 fine] #[Value.int IntKind.i64 veh, Value.slice bi ids.length c2] → W.heap[bw]? = some (.cells #[Value.int IntKind.i64 vv, Value.slice ad0 xs.length c0] 32 (0, 0)) → W.ownsRow bs 2 1 (.slice ad0 xs.length c0) xs.length (xs.map (Value.int .i64)) → Kx { tmps := List.toArray ((.agg #[.int .i64 n, .slice a zs.length cap, .slice ao ko co, .slice av kv cv, .int .i64 fine] : Value) :: (.agg #[.int .i64 veh, .slice bi ids.length c2] : Value) :: (.int .i64 id : Value) :: (.int .i64 x : Value) :: (.pointer (some ⟨w.heap.size, 0, none⟩) : Value) :: (.pointer (some ⟨w.heap.size + 1, 0, none⟩) : Value) :: (undef : Value) :: (undef : Value) :: (.bool false : Value) :: (.int .i64 (1048576 - (zs.length : Int) - (ko : Int) - (kv : Int) - (ids.length : Int)) : Value) :: (.pointer (some ⟨bw, 0, none⟩) : Value) :: (.int .i64 D : Value) :: (.bool ch : Value) :: (undef : Value) :: (undef : Value) :: (undef : Value) :: (undef : Value) :: (undef : Value) :: (undef : Value) :: (undef : Value) :: (undef : Value) :: (undef : Value) :: (undef : Value) :: (undef : Value) :: (.agg #[.int .i64 n, .slice a zs.length cap, .slice ao ko co, .slice av kv cv, .int .i64 fine] : Value) :: (.int .i64 1048576 : Value) :: (.int .i64 (1048576 - (zs.length : Int) - (ko : Int) - (kv : Int)) : Value) :: (.int .i64 (1048576 - (zs.length : Int) - (ko : Int) - (kv : Int)) : Value) :: (.bool (decide ((1048576 - (zs.length : Int) - (ko : Int) - (kv : Int)) < 0)) : Value) :: (.agg #[.int .i64 veh, .slice bi ids.length c2] : Value) :: (.int .i64 (1048576 - (zs.length : Int) - (ko : Int) - (kv : Int)) : Value) :: (.int .i64 (1048576 - (zs.length : Int) - (ko : Int) - (kv : Int) - (ids.length : Int)) : Value) :: (.int .i64 (1048576 - (zs.length : Int) - (ko : Int) - (kv : Int) - (ids.length : Int)) : Value) :: (.bool (decide ((1048576 - (zs.length : Int) - (ko : Int) - (kv : Int) - (ids.length : Int)) < 0)) : Value) :: (.tuple #[.agg #[.int .i64 vv, .slice ad0 xs.length c0], .int .i64 D, .bool ch] : Value) :: (.agg #[.int .i64 n, .slice a zs.length cap, .slice ao ko co, .slice av kv cv, .int .i64 fine] : Value) :: (.agg #[Value.int IntKind.i64 n, Value.slice (some ⟨g3, 0, none⟩) zs.length zs.length, Value.slice (some ⟨go3, 0, none⟩) ko ko, Value.slice (some ⟨gv3, 0, none⟩) kv kv, Value.int IntKind.i64 fine] : Value) :: (.agg #[.int .i64 veh, .slice bi ids.length c2] : Value) :: (.agg #[Value.int IntKind.i64 veh, Value.slice (some ⟨gr4, 0, none⟩) ids.length ids.length] : Value) :: (.int .i64 id : Value) :: (.int .i64 x : Value) :: (.tuple #[.agg #[.int .i64 vv, .slice ad0 xs.length c0], .int .i64 D, .bool ch] : Value) :: (.agg #[.int .i64 vv, .slice ad0 xs.length c0] : Value) :: (.int .i64 D : Value) :: (.bool ch : Value) :: (undef : Value) :: (undef : Value) :: (undef : Value) :: (undef : Value) :: (undef : Value) :: (undef : Value) :: (undef : Value) :: (undef : Value) :: (undef : Value) :: (undef : Value) :: (undef : Value) :: (undef : Value) :: (undef : Value) :: (undef : Value) :: (undef : Value) :: (undef : Value) :: (undef : Value) :: (undef : Value) :: (undef : Value) :: (undef : Value) :: (undef : Value) :: (undef : Value) :: (undef : Value) :: (undef : Value) :: (undef : Value) :: (undef : Value) :: (undef : Value) :: (undef : Value) :: (undef : Value) :: (undef : Value) :: (undef : Value) :: (undef : Value) :: (undef : Value) :: (undef : Value) :: (undef : Value) :: (undef : Value) :: (undef : Value) :: (undef : Value) :: (undef : Value) :: (undef : Value) :: (undef : Value) :: (undef : Value) :: (undef : Value) :: (undef : Value) :: (undef : Value) :: (undef : Value) :: (undef : Value) :: (undef : Value) :: (undef : Value) :: (undef : Value) :: (undef : Value) :: (undef : Value) :: (undef : Value) :: (undef : Value) :: (undef : Value) :: (undef : Value) :: (undef : Value) :: (undef : Value) :: (undef : Value) :: (undef : Value) :: (undef : Value) :: (undef : Value) :: (undef : Value) :: (undef : Value) :: (undef : Value) :: (undef : Value) :: (undef : Value) :: (undef : Value) :: (undef : Value) :: (undef : Value) :: (undef : Value) :: (undef : Value) :: (undef : Value) :: (undef : Value) :: (undef : Value) :: (undef : Value) :: (undef : Value) :: (undef : Value) :: (undef : Value) :: (undef : Value) :: (undef : Value) :: (undef : Value) :: (undef : Value) :: (undef : Value) :: (undef : Value) :: (undef : Value) :: (undef : Value) :: (undef : Value) :: (undef : Value) :: (undef : Value) :: (undef : Value) :: (undef : Value) :: (undef : Value) :: (undef : Value) :: (undef : Value) :: (undef : Value) :: (undef : Value) :: (undef : Value) :: (undef : Value) :: (undef : Value) :: (undef : Value) :: (undef : Value) :: (undef : Value) :: (undef : Value) :: (undef : Value) :: []), defers := [] } W := by
    intro g3 go3 gv3 gr4 bw c0 bs ad0 w6 hB hV' hO'
    have B6 : Hid (LR w w6 _ _) := hB
    have V6 : Hid (w6.heap[bw]? = _) := hV'
    have O6 : Hid (w6.ownsRow bs 2 1 (.slice ad0 xs.length c0) xs.length _) := hO'
    clear hB hV' hO' B2 e0 e1 e2 e3 e4 e5 e6
    apply hKx
    clear hKx
    generalize Value.agg #[Value.int IntKind.i64 n, Value.slice (some ⟨g3, 0, none⟩) zs.length zs.length, Value.slice (some ⟨go3, 0, none⟩) ko ko, Value.slice (some ⟨gv3, 0, none⟩) kv kv, Value.int IntKind.i64 fine] = A1
    generalize Value.agg #[Value.int IntKind.i64 veh, Value.slice (some ⟨gr4, 0, none⟩) ids.length ids.length] = A2
    generalize Value.tuple #[.agg #[.int .i64 vv, .slice ad0 xs.length c0], .int .i64 D, .bool ch] = A3
    generalize Value.agg #[Value.int IntKind.i64 n, Value.slice a zs.length cap, Value.slice ao ko co, Value.slice av kv cv, Value.int IntKind.i64 fine] = A4
    generalize Value.agg #[Value.int IntKind.i64 veh, Value.slice bi ids.length c2] = A5
    obtain ⟨e0, e1, e2, e3, e4, e5, e6⟩ := B6.out.cells
    go_wp2_with fail
    clear e0 e1 e2 e3 e4 e5 e6
    refine (toCase_any n fine a ao av cap ko co kv cv zs os vs _ (HA.out.below B6.out.b) (HO.out.below B6.out.b) (HV.out.below B6.out.b) HLO.out HLV.out hs1 hs2 hs3).mono ?_
    rintro e w7 ⟨g7, go7, gv7, hl1, hl2, hl3, rfl, hb, hg⟩
    have L7 : Hid (w6.heap.size ≤ g7 ∧ w6.heap.size ≤ go7 ∧ w6.heap.size ≤ gv7) := ⟨hl1, hl2, hl3⟩
    have Z7 : Hid (Below w6.heap.size w6 (w7.alloc (Obj.cells #[Value.int IntKind.i64 n, Value.slice (some ⟨g7, 0, none⟩) zs.length zs.length, Value.slice (some ⟨go7, 0, none⟩) ko ko, Value.slice (some ⟨gv7, 0, none⟩) kv kv, Value.int IntKind.i64 fine] 30))) := hb.alloc hb.size _
    have X7 : Hid ((w7.alloc (Obj.cells #[Value.int IntKind.i64 n, Value.slice (some ⟨g7, 0, none⟩) zs.length zs.length, Value.slice (some ⟨go7, 0, none⟩) ko ko, Value.slice (some ⟨gv7, 0, none⟩) kv kv, Value.int IntKind.i64 fine] 30)).heap[w7.heap.size]? = _) := heap_alloc_new _ _
    have C7 : Hid (CaseAt (w7.alloc (Obj.cells #[Value.int IntKind.i64 n, Value.slice (some ⟨g7, 0, none⟩) zs.length zs.length, Value.slice (some ⟨go7, 0, none⟩) ko ko, Value.slice (some ⟨gv7, 0, none⟩) kv kv, Value.int IntKind.i64 fine] 30)) g7 go7 gv7 zs os vs) := hg.below ((Below.refl _ _).alloc (Nat.le_refl _) _)
    have B7 : Hid (LR w (w7.alloc (Obj.cells #[Value.int IntKind.i64 n, Value.slice (some ⟨g7, 0, none⟩) zs.length zs.length, Value.slice (some ⟨go7, 0, none⟩) ko ko, Value.slice (some ⟨gv7, 0, none⟩) kv kv, Value.int IntKind.i64 fine] 30)) _ _) := B6.out.below Z7.out
    clear hb hg hl1 hl2 hl3
    obtain ⟨e0, e1, e2, e3, e4, e5, e6⟩ := B7.out.cells
    go_wp2_with fail
    clear e0 e1 e2 e3 e4 e5 e6
    generalize w7.alloc (Obj.cells #[Value.int IntKind.i64 n, Value.slice (some ⟨g7, 0, none⟩) zs.length zs.length, Value.slice (some ⟨go7, 0, none⟩) ko ko, Value.slice (some ⟨gv7, 0, none⟩) kv kv, Value.int IntKind.i64 fine] 30) = W7 at *
    generalize w7.heap.size = bx at *
    refine (toRoute_any veh bi c2 ids W7 (HI.out.below B7.out.b) hs4).mono ?_
    rintro e w8 ⟨gr8, hl4, rfl, hb, hg⟩
    have U7 : Hid (bx < gr8 ∧ g7 < gr8 ∧ go7 < gr8 ∧ gv7 < gr8) := ⟨Nat.lt_of_lt_of_le (row_lt X7.out) hl4, Nat.lt_of_lt_of_le (row_lt C7.out.1) hl4, Nat.lt_of_lt_of_le (row_lt C7.out.2.1) hl4, Nat.lt_of_lt_of_le (row_lt C7.out.2.2) hl4⟩
    have Z8 : Hid (Below w6.heap.size w6 (w8.alloc (Obj.cells #[Value.int IntKind.i64 veh, Value.slice (some ⟨gr8, 0, none⟩) ids.length ids.length] 32))) := (Z7.out.trans (hb.mono Z7.out.size)).alloc (Nat.le_trans Z7.out.size hb.size) _
    have X8 : Hid ((w8.alloc (Obj.cells #[Value.int IntKind.i64 veh, Value.slice (some ⟨gr8, 0, none⟩) ids.length ids.length] 32)).heap[bx]? = _) := (heap_alloc_old _ _ (row_lt (below_row hb (row_lt X7.out) X7.out))).trans (below_row hb (row_lt X7.out) X7.out)
    have Y8 : Hid ((w8.alloc (Obj.cells #[Value.int IntKind.i64 veh, Value.slice (some ⟨gr8, 0, none⟩) ids.length ids.length] 32)).heap[w8.heap.size]? = _) := heap_alloc_new _ _
    have C8 : Hid (CaseAt (w8.alloc (Obj.cells #[Value.int IntKind.i64 veh, Value.slice (some ⟨gr8, 0, none⟩) ids.length ids.length] 32)) g7 go7 gv7 zs os vs) := (C7.out.below hb).below ((Below.refl _ _).alloc (Nat.le_refl _) _)
    have R8 : Hid ((w8.alloc (Obj.cells #[Value.int IntKind.i64 veh, Value.slice (some ⟨gr8, 0, none⟩) ids.length ids.length] 32)).heap[gr8]? = _) := (heap_alloc_old _ _ (row_lt hg)).trans hg
    clear hb hg hl4 B7 Z7 X7 C7
    obtain ⟨x0, x1, x2, x3, x4⟩ := cells5 X8.out
    obtain ⟨y0, y1⟩ := cells2 Y8.out
    go_wp2_with fail
    clear x0 x1 x2 x3 x4 y0 y1
    generalize w8.alloc (Obj.cells #[Value.int IntKind.i64 veh, Value.slice (some ⟨gr8, 0, none⟩) ids.length ids.length] 32) = w9 at *
    generalize w8.heap.size = by8 at *
    refine (implInsertAt_at n fine veh _ _ _ _ _ _ _ _ _ _ zs os vs ids w9 C8.out.t C8.out.o C8.out.v (IntsAt.of_row R8.out) HLO.out HLV.out (by omega) (by omega) (by omega) (Nat.le_refl _) id x ch HCH.out D HDD.out xs HXX.out).mono ?_
    rintro e w10' ⟨hb', ad, c, rfl, ho⟩
    rw [HVV.out]
    have hb : Below w9.heap.size w9 (w10'.alloc (Obj.cells #[Value.int IntKind.i64 vv, Value.slice ad xs.length c] 32)) := hb'.alloc hb'.size _
    have Z10 : Hid (Below w6.heap.size w6 (w10'.alloc (Obj.cells #[Value.int IntKind.i64 vv, Value.slice ad xs.length c] 32))) := Z8.out.trans (hb.mono Z8.out.size)
    have X10 : Hid ((w10'.alloc (Obj.cells #[Value.int IntKind.i64 vv, Value.slice ad xs.length c] 32)).heap[bx]? = _) := below_row hb (row_lt X8.out) X8.out
    have Y10 : Hid ((w10'.alloc (Obj.cells #[Value.int IntKind.i64 vv, Value.slice ad xs.length c] 32)).heap[by8]? = _) := below_row hb (row_lt Y8.out) Y8.out
    have C10 : Hid (CaseAt (w10'.alloc (Obj.cells #[Value.int IntKind.i64 vv, Value.slice ad xs.length c] 32)) g7 go7 gv7 zs os vs) := C8.out.below hb
    have R10 : Hid ((w10'.alloc (Obj.cells #[Value.int IntKind.i64 vv, Value.slice ad xs.length c] 32)).heap[gr8]? = _) := below_row hb (row_lt R8.out) R8.out
    have O10 : Hid ((w10'.alloc (Obj.cells #[Value.int IntKind.i64 vv, Value.slice ad xs.length c] 32)).ownsRow w9.heap.size 2 1 (.slice ad xs.length c) xs.length _) := ho.alloc _
    have G10 : Hid ((w10'.alloc (Obj.cells #[Value.int IntKind.i64 vv, Value.slice ad xs.length c] 32)).heap[w10'.heap.size]? = _) := heap_alloc_new _ _
    have V10 : Hid ((w10'.alloc (Obj.cells #[Value.int IntKind.i64 vv, Value.slice ad xs.length c] 32)).heap[bw]? = _) := below_row Z10.out (row_lt V6.out) V6.out
    have U9 : Hid (gr8 < w9.heap.size ∧ g7 < w9.heap.size ∧ go7 < w9.heap.size ∧ gv7 < w9.heap.size ∧ w6.heap.size ≤ w9.heap.size) := ⟨row_lt R8.out, row_lt C8.out.1, row_lt C8.out.2.1, row_lt C8.out.2.2, Z8.out.size⟩
    clear hb hb' ho Z8 X8 Y8 C8 R8
    have hDD : (D != D) = false := by simp
    have hcc : (ch != ch) = false := by simp
    obtain ⟨y0, y1⟩ := cells2 G10.out
    obtain ⟨z0, z1⟩ := cells2 V10.out
    go_wp2_with fail
    clear y0 y1 z0 z1 V10
    generalize w10'.alloc (Obj.cells #[Value.int IntKind.i64 vv, Value.slice ad xs.length c] 32) = w10 at *
    generalize w10'.heap.size = bg at *
    generalize w9.heap.size = b9 at *
    refine (eqRoute_u vv ad ad0 c c0 b9 bs xs w10 O10.out (owns_below O6.out Z10.out) (by omega)).mono ?_
    rintro e w11 ⟨rfl, hb⟩
    have Z11 : Hid (Below w6.heap.size w6 w11) := Z10.out.trans (Below.mono hb Z10.out.size)
    have X11 : Hid (w11.heap[bx]? = _) := below_row hb (row_lt X10.out) X10.out
    have Y11 : Hid (w11.heap[by8]? = _) := below_row hb (row_lt Y10.out) Y10.out
    have C11 : Hid (CaseAt w11 g7 go7 gv7 zs os vs) := C10.out.below hb
    have R11 : Hid (w11.heap[gr8]? = _) := below_row hb (row_lt R10.out) R10.out
    have O11 : Hid (w11.ownsRow b9 2 1 (.slice ad xs.length c) xs.length _) := owns_below O10.out hb
    have G11 : Hid (w11.heap[bg]? = _) := below_row hb (row_lt G10.out) G10.out
    clear Z10 X10 Y10 C10 R10 O10 G10
    clear hb
    have B11 : Hid (LR w w11 _ _) := B6.out.below Z11.out
    obtain ⟨e0, e1, e2, e3, e4, e5, e6⟩ := B11.out.cells
    obtain ⟨x0, x1, x2, x3, x4⟩ := cells5 X11.out
    go_wp2_with fail
    go_region_held3 (fun W => (W.cell? ⟨w.heap.size, 0, none⟩ = some (.int .i64 n) ∧ W.cell? ⟨w.heap.size, 1, none⟩ = some (.slice a zs.length cap) ∧ W.cell? ⟨w.heap.size, 2, none⟩ = some (.slice ao ko co) ∧ W.cell? ⟨w.heap.size, 3, none⟩ = some (.slice av kv cv) ∧ W.cell? ⟨w.heap.size, 4, none⟩ = some (.int .i64 fine) ∧ W.cell? ⟨w.heap.size + 1, 0, none⟩ = some (.int .i64 veh) ∧ W.cell? ⟨w.heap.size + 1, 1, none⟩ = some (.slice bi ids.length c2)) ∧ W.cell? ⟨bx, 0, none⟩ = some (.int .i64 n) ∧ W.cell? ⟨bx, 1, none⟩ = some (.slice (some ⟨g7, 0, none⟩) zs.length zs.length) ∧ W.cell? ⟨bx, 2, none⟩ = some (.slice (some ⟨go7, 0, none⟩) ko ko) ∧ W.cell? ⟨bx, 3, none⟩ = some (.slice (some ⟨gv7, 0, none⟩) kv kv) ∧ W.cell? ⟨bx, 4, none⟩ = some (.int .i64 fine)) (first | with_reducible exact kS | with_reducible exact And.intro (lr7' (LR.drew B11.out)) (cells5 (row_drew X11.out))) ((first
    | (go_at_call 25
       with_reducible refine (toCase_any n fine a ao av cap ko co kv cv zs os vs w11.drew (HA.out.below B11.out.drew.b) (HO.out.below B11.out.drew.b) (HV.out.below B11.out.drew.b) HLO.out HLV.out hs1 hs2 hs3).mono ?_
       rintro e w12 ⟨g12, go12, gv12, _, _, _, rfl, hb', hg⟩
       have hb := (Below.refl w11.heap.size w11).drew.trans (hb'.mono (Nat.le_refl _))
       have Z12 : Hid (Below w6.heap.size w6 w12) := Z11.out.trans (Below.mono hb Z11.out.size)
       have X12 : Hid (w12.heap[bx]? = _) := below_row hb (row_lt X11.out) X11.out
       have Y12 : Hid (w12.heap[by8]? = _) := below_row hb (row_lt Y11.out) Y11.out
       have C12 : Hid (CaseAt w12 g7 go7 gv7 zs os vs) := C11.out.below hb
       have R12 : Hid (w12.heap[gr8]? = _) := below_row hb (row_lt R11.out) R11.out
       have O12 : Hid (w12.ownsRow b9 2 1 (.slice ad xs.length c) xs.length _) := owns_below O11.out hb
       have G12 : Hid (w12.heap[bg]? = _) := below_row hb (row_lt G11.out) G11.out
       have D12 : Hid (CaseAt w12 g12 go12 gv12 zs os vs) := hg
       have kS := And.intro (lr7' (B6.out.below Z12.out)) (cells5 X12.out)
       clear hb hb' hg)
    | (go_at_call 29
       with_reducible refine (eqCase_same n fine _ _ _ _ _ _ _ _ _ _ _ _ _ _ zs os vs w12 C12.out.t C12.out.o C12.out.v D12.out.t D12.out.o D12.out.v HLO.out HLV.out (by omega) (by omega) (by omega)).mono ?_
       rintro e w13 ⟨rfl, hb⟩
       have Z13 : Hid (Below w6.heap.size w6 w13) := Z12.out.trans (Below.mono hb Z12.out.size)
       have X13 : Hid (w13.heap[bx]? = _) := below_row hb (row_lt X12.out) X12.out
       have Y13 : Hid (w13.heap[by8]? = _) := below_row hb (row_lt Y12.out) Y12.out
       have C13 : Hid (CaseAt w13 g7 go7 gv7 zs os vs) := C12.out.below hb
       have R13 : Hid (w13.heap[gr8]? = _) := below_row hb (row_lt R12.out) R12.out
       have O13 : Hid (w13.ownsRow b9 2 1 (.slice ad xs.length c) xs.length _) := owns_below O12.out hb
       have G13 : Hid (w13.heap[bg]? = _) := below_row hb (row_lt G12.out) G12.out
       have kS := And.intro (lr7' (B6.out.below Z13.out)) (cells5 X13.out)
       clear hb)))
    all_goals
      clear e0 e1 e2 e3 e4 e5 e6 x0 x1 x2 x3 x4 kS B11 D12
      clear Z11 X11 Y11 C11 R11 O11 G11
      clear Z12 X12 Y12 C12 R12 O12 G12
      have B13 : Hid (LR w w13 _ _) := B6.out.below Z13.out
      obtain ⟨e0, e1, e2, e3, e4, e5, e6⟩ := B13.out.cells
      obtain ⟨y0, y1⟩ := cells2 Y13.out
      go_wp2_with fail
      go_region_held3 (fun W => (W.cell? ⟨w.heap.size, 0, none⟩ = some (.int .i64 n) ∧ W.cell? ⟨w.heap.size, 1, none⟩ = some (.slice a zs.length cap) ∧ W.cell? ⟨w.heap.size, 2, none⟩ = some (.slice ao ko co) ∧ W.cell? ⟨w.heap.size, 3, none⟩ = some (.slice av kv cv) ∧ W.cell? ⟨w.heap.size, 4, none⟩ = some (.int .i64 fine) ∧ W.cell? ⟨w.heap.size + 1, 0, none⟩ = some (.int .i64 veh) ∧ W.cell? ⟨w.heap.size + 1, 1, none⟩ = some (.slice bi ids.length c2)) ∧ W.cell? ⟨by8, 0, none⟩ = some (.int .i64 veh) ∧ W.cell? ⟨by8, 1, none⟩ = some (.slice (some ⟨gr8, 0, none⟩) ids.length ids.length)) (first | with_reducible exact kS | with_reducible exact And.intro (lr7' (LR.drew B13.out)) (cells2 (row_drew Y13.out))) ((first
      | (go_at_call 26
         with_reducible refine (toRoute_any veh bi c2 ids w13.drew (HI.out.below B13.out.drew.b) hs4).mono ?_
         rintro e w14 ⟨gr14, _, rfl, hb', hg⟩
         have hb := (Below.refl w13.heap.size w13).drew.trans (hb'.mono (Nat.le_refl _))
         have Z14 : Hid (Below w6.heap.size w6 w14) := Z13.out.trans (Below.mono hb Z13.out.size)
         have X14 : Hid (w14.heap[bx]? = _) := below_row hb (row_lt X13.out) X13.out
         have Y14 : Hid (w14.heap[by8]? = _) := below_row hb (row_lt Y13.out) Y13.out
         have C14 : Hid (CaseAt w14 g7 go7 gv7 zs os vs) := C13.out.below hb
         have R14 : Hid (w14.heap[gr8]? = _) := below_row hb (row_lt R13.out) R13.out
         have O14 : Hid (w14.ownsRow b9 2 1 (.slice ad xs.length c) xs.length _) := owns_below O13.out hb
         have G14 : Hid (w14.heap[bg]? = _) := below_row hb (row_lt G13.out) G13.out
         have J14 : Hid (IntsAt w14 (some ⟨gr14, 0, none⟩) ids) := IntsAt.of_row hg
         have kS := And.intro (lr7' (B6.out.below Z14.out)) (cells2 Y14.out)
         clear hb hb' hg)
      | (go_at_call 30
         with_reducible refine (eqRoute_same veh _ _ _ _ ids w14 (IntsAt.of_row R14.out) J14.out (by omega)).mono ?_
         rintro e w15 ⟨rfl, hb⟩
         have Z15 : Hid (Below w6.heap.size w6 w15) := Z14.out.trans (Below.mono hb Z14.out.size)
         have X15 : Hid (w15.heap[bx]? = _) := below_row hb (row_lt X14.out) X14.out
         have Y15 : Hid (w15.heap[by8]? = _) := below_row hb (row_lt Y14.out) Y14.out
         have C15 : Hid (CaseAt w15 g7 go7 gv7 zs os vs) := C14.out.below hb
         have R15 : Hid (w15.heap[gr8]? = _) := below_row hb (row_lt R14.out) R14.out
         have O15 : Hid (w15.ownsRow b9 2 1 (.slice ad xs.length c) xs.length _) := owns_below O14.out hb
         have G15 : Hid (w15.heap[bg]? = _) := below_row hb (row_lt G14.out) G14.out
         have kS := And.intro (lr7' (B6.out.below Z15.out)) (cells2 Y15.out)
         clear hb)))
      all_goals
        clear e0 e1 e2 e3 e4 e5 e6 y0 y1 kS B13 J14
        clear Z13 X13 Y13 C13 R13 O13 G13
        clear Z14 X14 Y14 C14 R14 O14 G14
        have N1 : Hid (¬ (by8 = g7 ∨ by8 = go7 ∨ by8 = gv7)) := fun h => by
          rcases h with h | h | h
          · exact type_ne Y15.out C15.out.1 (by decide) h
          · exact type_ne Y15.out C15.out.2.1 (by decide) h
          · exact type_ne Y15.out C15.out.2.2 (by decide) h
        have N2 : Hid (¬ (bg = g7 ∨ bg = go7 ∨ bg = gv7)) := fun h => by
          rcases h with h | h | h
          · exact type_ne G15.out C15.out.1 (by decide) h
          · exact type_ne G15.out C15.out.2.1 (by decide) h
          · exact type_ne G15.out C15.out.2.2 (by decide) h
        have N3 : Hid (bg ≠ gr8) := type_ne G15.out R15.out (by decide)
        obtain ⟨x0, x1, x2, x3, x4⟩ := cells5 X15.out
        go_wp2_with fail
        clear x0 x1 x2 x3 x4
        refine (markCase_any n fine g7 go7 gv7 _ ko _ kv _ zs os vs w15 C15.out HLO.out HLV.out hs1 hs2 hs3).mono ?_
        rintro e w16 ⟨kk, rfl, hk1, hk2, hg⟩
        have Z16 : Hid (Below w6.heap.size w6 w16) := Z15.out.trans (hg.below Z15.out.size (fun b h => by have h9 := L7.out; rcases h with h | h | h <;> omega))
        have Y16 : Hid (w16.heap[by8]? = _) := hg.row Y15.out N1.out
        have G16 : Hid (w16.heap[bg]? = _) := hg.row G15.out N2.out
        have R16 : Hid (w16.heap[gr8]? = _) := hg.row R15.out (fun h => by have h9 := U7.out; rcases h with h | h | h <;> omega)
        have O16 : Hid (w16.ownsRow b9 2 1 (.slice ad xs.length c) xs.length _) := hg.owns O15.out (fun b h => by have h9 := U9.out; rcases h with h | h | h <;> omega)
        clear hg
        clear Z15 X15 Y15 C15 R15 O15 G15
        obtain ⟨y0, y1⟩ := cells2 Y16.out
        go_wp2_with fail
        clear y0 y1
        refine (markRoute_any veh kk gr8 _ ids w16 R16.out hk1 (by omega) hs4).mono ?_
        rintro e w17 ⟨rfl, hg⟩
        have Z17 : Hid (Below w6.heap.size w6 w17) := Z16.out.trans (hg.below Z16.out.size (fun b h => by have h9 := L7.out; have h8 := U7.out; omega))
        have O17 : Hid (w17.ownsRow b9 2 1 (.slice ad xs.length c) xs.length _) := hg.owns O16.out (fun b h => by have h9 := U9.out; omega)
        have G17 : Hid (w17.heap[bg]? = _) := hg.row G16.out (fun h => N3.out h)
        have V17 : Hid (w17.heap[bw]? = _) := below_row Z17.out (row_lt V6.out) V6.out
        clear hg Z16 Y16 R16 O16 G16
        obtain ⟨kq, HKQ⟩ : ∃ t, Hid (kk + (ids.length : Int) = t) := ⟨_, rfl⟩
        have hkq : 0 ≤ kq := by have := HKQ.out; omega
        rw [HKQ.out]
        obtain ⟨y0, y1⟩ := cells2 G17.out
        obtain ⟨z0, z1⟩ := cells2 V17.out
        go_wp2_with (first | (go_at_call 30; refine (eqRoute_u vv ad ad0 c c0 b9 bs xs w17 O17.out (owns_below O6.out Z17.out) (by omega)).mono ?_; rintro e w18 ⟨rfl, hb⟩; have Z18 : Hid (Below w6.heap.size w6 w18) := Z17.out.trans (Below.mono hb Z17.out.size); have O18 : Hid (w18.ownsRow b9 2 1 (.slice ad xs.length c) xs.length _) := owns_below O17.out hb; have G18 : Hid (w18.heap[bg]? = _) := below_row hb (row_lt G17.out) G17.out; obtain ⟨u0, u1⟩ := cells2 G18.out; clear hb))
        clear y0 y1 z0 z1 V17
        try go_wp2_with fail
        clear u0 u1
        refine (markRoute_u vv ad xs.length c b9 xs w18 O18.out (by omega)).mono ?_
        rintro e w19' ⟨rfl, hg, hm⟩
        have Z19' : Hid (Below w6.heap.size w6 w19') := Z18.out.trans (hg.below Z18.out.size (fun b h => by have h9 := (O18.out.lt _ h).1; have h8 := U9.out; omega))
        have G19' : Hid (w19'.heap[bg]? = _) := hg.row G18.out (fun h => own_type O18.out h G18.out (by decide))
        have M19' : Hid (Marked1 w19' ad xs.length) := hm
        clear hg hm Z17 Z18 O17 O18 G17 G18
        obtain ⟨q, HQ⟩ : ∃ t, Hid ((1 : Int) + (xs.length : Int) = t) := ⟨_, rfl⟩
        have hq : 0 ≤ q := by have := HQ.out; omega
        rw [HQ.out]
        obtain ⟨y0, y1⟩ := cells2 G19'.out
        go_wp2_with fail
        clear y0 y1
        refine (heldRoute_u vv ad xs.length c w19' M19'.out (by omega)).mono ?_
        rintro e w19 ⟨rfl, hb⟩
        rw [HQ.out]
        have hqq : (q != q) = false := by simp
        have Z19 : Hid (Below w6.heap.size w6 w19) := Z19'.out.trans (Below.mono hb Z19'.out.size)
        have G19 : Hid (w19.heap[bg]? = _) := below_row hb (row_lt G19'.out) G19'.out
        have M19 : Hid (Marked1 w19 ad xs.length) := M19'.out.below hb
        have B19 : Hid (LR w w19 _ _) := B6.out.below Z19.out
        clear hb Z19' G19' M19'
        generalize Value.agg #[Value.int IntKind.i64 n, Value.slice a zs.length cap, Value.slice ao ko co, Value.slice av kv cv, Value.int IntKind.i64 fine] = E4
        generalize Value.agg #[Value.int IntKind.i64 veh, Value.slice bi ids.length c2] = E5
        generalize Value.agg #[Value.int IntKind.i64 n, Value.slice (some ⟨g7, 0, none⟩) zs.length zs.length, Value.slice (some ⟨go7, 0, none⟩) ko ko, Value.slice (some ⟨gv7, 0, none⟩) kv kv, Value.int IntKind.i64 fine] = E6
        generalize Value.agg #[Value.int IntKind.i64 veh, Value.slice (some ⟨gr8, 0, none⟩) ids.length ids.length] = E7
        generalize Value.agg #[Value.int IntKind.i64 n, Value.slice (some ⟨g12, 0, none⟩) zs.length zs.length, Value.slice (some ⟨go12, 0, none⟩) ko ko, Value.slice (some ⟨gv12, 0, none⟩) kv kv, Value.int IntKind.i64 fine] = E8
        generalize Value.agg #[Value.int IntKind.i64 veh, Value.slice (some ⟨gr14, 0, none⟩) ids.length ids.length] = E9
        generalize Value.tuple #[.agg #[.int .i64 vv, .slice ad xs.length c], .int .i64 D, .bool ch] = E10
        generalize Value.agg #[Value.int IntKind.i64 vv, Value.slice ad xs.length c] = E11
        generalize Value.agg #[Value.int IntKind.i64 vv, Value.slice ad0 xs.length c0] = E12
        obtain ⟨e0, e1, e2, e3, e4, e5, e6⟩ := B19.out.cells
        go_wp2_with fail
        go_region_held3 (fun W => W.cell? ⟨w.heap.size, 0, none⟩ = some (.int .i64 n) ∧ W.cell? ⟨w.heap.size, 1, none⟩ = some (.slice a zs.length cap) ∧ W.cell? ⟨w.heap.size, 2, none⟩ = some (.slice ao ko co) ∧ W.cell? ⟨w.heap.size, 3, none⟩ = some (.slice av kv cv) ∧ W.cell? ⟨w.heap.size, 4, none⟩ = some (.int .i64 fine) ∧ W.cell? ⟨w.heap.size + 1, 0, none⟩ = some (.int .i64 veh) ∧ W.cell? ⟨w.heap.size + 1, 1, none⟩ = some (.slice bi ids.length c2)) (first | with_reducible exact kS | with_reducible exact lr7' (LR.drew B19.out) | with_reducible exact lr7' (LR.drew (LR.alloc B19.out _)) | with_reducible exact lr7' (LR.alloc B20.out _) | with_reducible exact lr7' (LR.alloc B21.out _) | with_reducible exact lr7' (LR.alloc B22.out _) | with_reducible exact lr7s B22.out B19.out.big _ _ | with_reducible exact lr7s B22.out B20.out.big _ _ | with_reducible exact lr7s B22.out B21.out.big _ _) ((first
        | (go_at_call 25
           with_reducible refine (toCase_any n fine a ao av cap ko co kv cv zs os vs w19.drew (HA.out.below B19.out.drew.b) (HO.out.below B19.out.drew.b) (HV.out.below B19.out.drew.b) HLO.out HLV.out hs1 hs2 hs3).mono ?_
           rintro e w20 ⟨g20, go20, gv20, _, _, _, rfl, hb, hg⟩
           have B20 : Hid (LR w w20 _ _) := B19.out.drew.below hb
           have F20 : Hid (Below w19.heap.size w19 w20) := (Below.refl _ _).drew.trans (hb.mono (Nat.le_refl _))
           have C20 : Hid (CaseAt w20 g20 go20 gv20 zs os vs) := hg
           obtain ⟨k0, k1, k2, k3, k4, k5, k6⟩ := B20.out.cells
           have kS := And.intro k0 (And.intro k1 (And.intro k2 (And.intro k3 (And.intro k4 (And.intro k5 k6)))))
           clear hb hg
           clear k0 k1 k2 k3 k4 k5 k6)
        | (go_at_call 25
           with_reducible refine (toCase_any n fine a ao av cap ko co kv cv zs os vs (w19.alloc (Obj.cells #[Value.int IntKind.i64 0, Value.slice none 0 0] 32)).drew (HA.out.below (B19.out.alloc (Obj.cells #[Value.int IntKind.i64 0, Value.slice none 0 0] 32)).drew.b) (HO.out.below (B19.out.alloc (Obj.cells #[Value.int IntKind.i64 0, Value.slice none 0 0] 32)).drew.b) (HV.out.below (B19.out.alloc (Obj.cells #[Value.int IntKind.i64 0, Value.slice none 0 0] 32)).drew.b) HLO.out HLV.out hs1 hs2 hs3).mono ?_
           rintro e w20 ⟨g20, go20, gv20, _, _, _, rfl, hb, hg⟩
           have B20 : Hid (LR w w20 _ _) := (B19.out.alloc (Obj.cells #[Value.int IntKind.i64 0, Value.slice none 0 0] 32)).drew.below hb
           have F20 : Hid (Below w19.heap.size w19 w20) := ((Below.refl _ _).alloc (Nat.le_refl _) _).drew.trans (hb.mono (by simp))
           have C20 : Hid (CaseAt w20 g20 go20 gv20 zs os vs) := hg
           have V20 := below_row hb (k := w19.heap.size) (by simp) (heap_alloc_new w19 (Obj.cells #[Value.int IntKind.i64 0, Value.slice none 0 0] 32))
           obtain ⟨k0, k1, k2, k3, k4, k5, k6⟩ := B20.out.cells
           have kS := And.intro k0 (And.intro k1 (And.intro k2 (And.intro k3 (And.intro k4 (And.intro k5 k6)))))
           clear hb hg
           clear k0 k1 k2 k3 k4 k5 k6)
        | (go_at_call 26
           with_reducible refine (toRoute_any veh bi c2 ids w20 (HI.out.below B20.out.b) hs4).mono ?_
           rintro e w21 ⟨gr21, _, rfl, hb, hg⟩
           have B21 : Hid (LR w w21 _ _) := B20.out.below hb
           have F21 : Hid (Below w19.heap.size w19 w21) := F20.out.trans (hb.mono F20.out.size)
           have C21 : Hid (CaseAt w21 g20 go20 gv20 zs os vs) := C20.out.below hb
           have I21 : Hid (IntsAt w21 (some ⟨gr21, 0, none⟩) ids) := IntsAt.of_row hg
           try (have V21 := below_row hb (row_lt V20) V20)
           obtain ⟨k0, k1, k2, k3, k4, k5, k6⟩ := B21.out.cells
           have kS := And.intro k0 (And.intro k1 (And.intro k2 (And.intro k3 (And.intro k4 (And.intro k5 k6)))))
           clear hb hg
           clear k0 k1 k2 k3 k4 k5 k6)
        | (go_at_call 26
           with_reducible refine (toRoute_any veh bi c2 ids (w20.alloc (Obj.cells #[Value.int IntKind.i64 0, Value.slice none 0 0] 32)) (HI.out.below (B20.out.alloc (Obj.cells #[Value.int IntKind.i64 0, Value.slice none 0 0] 32)).b) hs4).mono ?_
           rintro e w21 ⟨gr21, _, rfl, hb, hg⟩
           have B21 : Hid (LR w w21 _ _) := (B20.out.alloc (Obj.cells #[Value.int IntKind.i64 0, Value.slice none 0 0] 32)).below hb
           have F21 : Hid (Below w19.heap.size w19 w21) := (F20.out.alloc F20.out.size _).trans (hb.mono (by have := F20.out.size; simp; omega))
           have C21 : Hid (CaseAt w21 g20 go20 gv20 zs os vs) := (C20.out.below ((Below.refl _ _).alloc (Nat.le_refl _) _)).below hb
           have I21 : Hid (IntsAt w21 (some ⟨gr21, 0, none⟩) ids) := IntsAt.of_row hg
           have V21 := below_row hb (k := w20.heap.size) (by simp) (heap_alloc_new w20 (Obj.cells #[Value.int IntKind.i64 0, Value.slice none 0 0] 32))
           obtain ⟨k0, k1, k2, k3, k4, k5, k6⟩ := B21.out.cells
           have kS := And.intro k0 (And.intro k1 (And.intro k2 (And.intro k3 (And.intro k4 (And.intro k5 k6)))))
           clear hb hg
           clear k0 k1 k2 k3 k4 k5 k6)
        | (go_at_call 11
           with_reducible refine (implInsertAt_at n fine veh _ _ _ _ _ _ _ _ _ _ zs os vs ids w21 C21.out.t C21.out.o C21.out.v I21.out HLO.out HLV.out (by omega) (by omega) (by omega) (Nat.le_refl _) id x ch HCH.out D HDD.out xs HXX.out).mono ?_
           rintro e w22 ⟨hb, ad2, cc2, rfl, ho⟩
           rw [HVV.out]
           have B22 : Hid (LR w w22 _ _) := B21.out.below hb
           have F22 : Hid (Below w19.heap.size w19 w22) := F21.out.trans (hb.mono F21.out.size)
           have O22 : Hid (w22.ownsRow _ 2 1 (.slice ad2 xs.length cc2) xs.length _) := ho
           try (have V22 := below_row hb (row_lt V21) V21
                obtain ⟨z0, z1⟩ := cells2 V22
                have zf := fun i => frozen_of_row _ _ i _ _ V22)
           obtain ⟨k0, k1, k2, k3, k4, k5, k6⟩ := B22.out.cells
           have kS := And.intro k0 (And.intro k1 (And.intro k2 (And.intro k3 (And.intro k4 (And.intro k5 k6)))))
           clear hb ho
           clear k0 k1 k2 k3 k4 k5 k6)
        | (go_at_call 11
           with_reducible refine (implInsertAt_at n fine veh _ _ _ _ _ _ _ _ _ _ zs os vs ids (w21.alloc (Obj.cells #[Value.int IntKind.i64 0, Value.slice none 0 0] 32)) (C21.out.below ((Below.refl _ _).alloc (Nat.le_refl _) _)).t (C21.out.below ((Below.refl _ _).alloc (Nat.le_refl _) _)).o (C21.out.below ((Below.refl _ _).alloc (Nat.le_refl _) _)).v (I21.out.below ((Below.refl _ _).alloc (Nat.le_refl _) _)) HLO.out HLV.out (by omega) (by omega) (by omega) (Nat.le_refl _) id x ch HCH.out D HDD.out xs HXX.out).mono ?_
           rintro e w22 ⟨hb, ad2, cc2, rfl, ho⟩
           rw [HVV.out]
           have B22 : Hid (LR w w22 _ _) := (B21.out.alloc (Obj.cells #[Value.int IntKind.i64 0, Value.slice none 0 0] 32)).below hb
           have F22 : Hid (Below w19.heap.size w19 w22) := (F21.out.alloc F21.out.size _).trans (hb.mono (by have := F21.out.size; simp; omega))
           have O22 : Hid (w22.ownsRow _ 2 1 (.slice ad2 xs.length cc2) xs.length _) := ho
           have V22 := below_row hb (k := w21.heap.size) (by simp) (heap_alloc_new w21 (Obj.cells #[Value.int IntKind.i64 0, Value.slice none 0 0] 32))
           obtain ⟨z0, z1⟩ := cells2 V22
           have zf := fun i => frozen_of_row _ _ i _ _ V22
           obtain ⟨k0, k1, k2, k3, k4, k5, k6⟩ := B22.out.cells
           have kS := And.intro k0 (And.intro k1 (And.intro k2 (And.intro k3 (And.intro k4 (And.intro k5 k6)))))
           clear hb ho
           clear k0 k1 k2 k3 k4 k5 k6)))
        all_goals
          clear e0 e1 e2 e3 e4 e5 e6 kS
          first
            | (have V23 : w22.heap[w19.heap.size]? = _ := V22
               have FF : Hid (Below w19.heap.size w19 ((w22.setCell ⟨w19.heap.size, 0, none⟩ (.int .i64 vv)).setCell ⟨w19.heap.size, 1, none⟩ (.slice ad2 xs.length cc2))) := (F22.out.setCell (by simp) _).setCell (by simp) _
               have HF : Hid (((w22.setCell ⟨w19.heap.size, 0, none⟩ (.int .i64 vv)).setCell ⟨w19.heap.size, 1, none⟩ (.slice ad2 xs.length cc2)).heap[w19.heap.size]? = _) := box_set V22
               have OF : Hid (((w22.setCell ⟨w19.heap.size, 0, none⟩ (.int .i64 vv)).setCell ⟨w19.heap.size, 1, none⟩ (.slice ad2 xs.length cc2)).ownsRow _ 2 1 (.slice ad2 xs.length cc2) xs.length _) := own_sets O22.out V22
               obtain ⟨y0, y1⟩ := cells2 HF.out
               obtain ⟨z0', z1'⟩ := cells2 (below_row FF.out (row_lt (below_row Z19.out (row_lt V6.out) V6.out)) (below_row Z19.out (row_lt V6.out) V6.out))
               clear z0 z1 zf
               generalize ((w22.setCell ⟨w19.heap.size, 0, none⟩ (.int .i64 vv)).setCell ⟨w19.heap.size, 1, none⟩ (.slice ad2 xs.length cc2)) = WF at *
               go_wp2_with fail
               refine (eqRoute_u vv ad2 ad0 cc2 c0 _ bs xs _ OF.out (owns_below O6.out (Z19.out.trans (FF.out.mono Z19.out.size))) (by omega)).mono ?_)
            | (have V23 : w22.heap[w20.heap.size]? = _ := V22
               have FF : Hid (Below w19.heap.size w19 ((w22.setCell ⟨w20.heap.size, 0, none⟩ (.int .i64 vv)).setCell ⟨w20.heap.size, 1, none⟩ (.slice ad2 xs.length cc2))) := (F22.out.setCell (by have := F20.out.size; simpa using this) _).setCell (by have := F20.out.size; simpa using this) _
               have HF : Hid (((w22.setCell ⟨w20.heap.size, 0, none⟩ (.int .i64 vv)).setCell ⟨w20.heap.size, 1, none⟩ (.slice ad2 xs.length cc2)).heap[w20.heap.size]? = _) := box_set V22
               have OF : Hid (((w22.setCell ⟨w20.heap.size, 0, none⟩ (.int .i64 vv)).setCell ⟨w20.heap.size, 1, none⟩ (.slice ad2 xs.length cc2)).ownsRow _ 2 1 (.slice ad2 xs.length cc2) xs.length _) := own_sets O22.out V22
               obtain ⟨y0, y1⟩ := cells2 HF.out
               obtain ⟨z0', z1'⟩ := cells2 (below_row FF.out (row_lt (below_row Z19.out (row_lt V6.out) V6.out)) (below_row Z19.out (row_lt V6.out) V6.out))
               clear z0 z1 zf
               generalize ((w22.setCell ⟨w20.heap.size, 0, none⟩ (.int .i64 vv)).setCell ⟨w20.heap.size, 1, none⟩ (.slice ad2 xs.length cc2)) = WF at *
               go_wp2_with fail
               refine (eqRoute_u vv ad2 ad0 cc2 c0 _ bs xs _ OF.out (owns_below O6.out (Z19.out.trans (FF.out.mono Z19.out.size))) (by omega)).mono ?_)
            | (have V23 : w22.heap[w21.heap.size]? = _ := V22
               have FF : Hid (Below w19.heap.size w19 ((w22.setCell ⟨w21.heap.size, 0, none⟩ (.int .i64 vv)).setCell ⟨w21.heap.size, 1, none⟩ (.slice ad2 xs.length cc2))) := (F22.out.setCell (by have := F21.out.size; simpa using this) _).setCell (by have := F21.out.size; simpa using this) _
               have HF : Hid (((w22.setCell ⟨w21.heap.size, 0, none⟩ (.int .i64 vv)).setCell ⟨w21.heap.size, 1, none⟩ (.slice ad2 xs.length cc2)).heap[w21.heap.size]? = _) := box_set V22
               have OF : Hid (((w22.setCell ⟨w21.heap.size, 0, none⟩ (.int .i64 vv)).setCell ⟨w21.heap.size, 1, none⟩ (.slice ad2 xs.length cc2)).ownsRow _ 2 1 (.slice ad2 xs.length cc2) xs.length _) := own_sets O22.out V22
               obtain ⟨y0, y1⟩ := cells2 HF.out
               obtain ⟨z0', z1'⟩ := cells2 (below_row FF.out (row_lt (below_row Z19.out (row_lt V6.out) V6.out)) (below_row Z19.out (row_lt V6.out) V6.out))
               clear z0 z1 zf
               generalize ((w22.setCell ⟨w21.heap.size, 0, none⟩ (.int .i64 vv)).setCell ⟨w21.heap.size, 1, none⟩ (.slice ad2 xs.length cc2)) = WF at *
               go_wp2_with fail
               refine (eqRoute_u vv ad2 ad0 cc2 c0 _ bs xs _ OF.out (owns_below O6.out (Z19.out.trans (FF.out.mono Z19.out.size))) (by omega)).mono ?_)
            | (have FF : Hid (Below w19.heap.size w19 (w22.alloc (Obj.cells #[Value.int IntKind.i64 vv, Value.slice ad2 xs.length cc2] 32))) := F22.out.alloc F22.out.size _
               have HF : Hid ((w22.alloc (Obj.cells #[Value.int IntKind.i64 vv, Value.slice ad2 xs.length cc2] 32)).heap[w22.heap.size]? = _) := heap_alloc_new _ _
               have OF : Hid ((w22.alloc (Obj.cells #[Value.int IntKind.i64 vv, Value.slice ad2 xs.length cc2] 32)).ownsRow _ 2 1 (.slice ad2 xs.length cc2) xs.length _) := O22.out.alloc _
               obtain ⟨y0, y1⟩ := cells2 HF.out
               obtain ⟨z0', z1'⟩ := cells2 (below_row FF.out (row_lt (below_row Z19.out (row_lt V6.out) V6.out)) (below_row Z19.out (row_lt V6.out) V6.out))
               go_wp2_with fail
               refine (eqRoute_u vv ad2 ad0 cc2 c0 _ bs xs _ OF.out (owns_below O6.out (Z19.out.trans (FF.out.mono Z19.out.size))) (by omega)).mono ?_)
          rintro e w23 ⟨rfl, hb⟩
          have F23 : Hid (Below w19.heap.size w19 w23) := FF.out.trans (hb.mono FF.out.size)
          clear y0 y1 z0' z1' hb
          obtain ⟨y0, y1⟩ := cells2 (below_row F23.out (row_lt G19.out) G19.out)
          go_wp2_with fail
          clear y0 y1
          refine (heldRoute_u vv ad xs.length c w23 (M19.out.below F23.out) (by omega)).mono ?_
          rintro e w24 ⟨rfl, hb⟩
          rw [HQ.out]
          have B24 : Hid (LR w w24 _ _) := (B19.out.below F23.out).below hb
          clear hb
          go_wp2
          go_ret
          exact ⟨rfl, B24.out.b⟩
  go_region_held3 (fun W => W.cell? ⟨w.heap.size, 0, none⟩ = some (.int .i64 n) ∧ W.cell? ⟨w.heap.size, 1, none⟩ = some (.slice a zs.length cap) ∧ W.cell? ⟨w.heap.size, 2, none⟩ = some (.slice ao ko co) ∧ W.cell? ⟨w.heap.size, 3, none⟩ = some (.slice av kv cv) ∧ W.cell? ⟨w.heap.size, 4, none⟩ = some (.int .i64 fine) ∧ W.cell? ⟨w.heap.size + 1, 0, none⟩ = some (.int .i64 veh) ∧ W.cell? ⟨w.heap.size + 1, 1, none⟩ = some (.slice bi ids.length c2)) (first | with_reducible exact kS | with_reducible exact lr7' (LR.drew B2.out) | with_reducible exact lr7' (LR.drew (LR.alloc B2.out _)) | with_reducible exact lr7' (LR.alloc B3.out _) | with_reducible exact lr7' (LR.alloc B4.out _) | with_reducible exact lr7' (LR.alloc B6.out _) | with_reducible exact lr7s B6.out B2.out.big _ _ | with_reducible exact lr7s B6.out B3.out.big _ _ | with_reducible exact lr7s B6.out B4.out.big _ _) ((first
  | (go_at_call 25
     with_reducible refine (toCase_any n fine a ao av cap ko co kv cv zs os vs w2.drew (HA.out.below B2.out.drew.b) (HO.out.below B2.out.drew.b) (HV.out.below B2.out.drew.b) HLO.out HLV.out hs1 hs2 hs3).mono ?_
     rintro e w3 ⟨g3, go3, gv3, _, _, _, rfl, hb, hg⟩
     have B3 : Hid (LR w w3 _ _) := B2.out.drew.below hb
     have C3 : Hid (CaseAt w3 g3 go3 gv3 zs os vs) := hg
     obtain ⟨k0, k1, k2, k3, k4, k5, k6⟩ := B3.out.cells
     have kS := And.intro k0 (And.intro k1 (And.intro k2 (And.intro k3 (And.intro k4 (And.intro k5 k6)))))
     clear hb hg
     clear k0 k1 k2 k3 k4 k5 k6)
  | (go_at_call 25
     with_reducible refine (toCase_any n fine a ao av cap ko co kv cv zs os vs (w2.alloc (Obj.cells #[Value.int IntKind.i64 0, Value.slice none 0 0] 32)).drew (HA.out.below (B2.out.alloc (Obj.cells #[Value.int IntKind.i64 0, Value.slice none 0 0] 32)).drew.b) (HO.out.below (B2.out.alloc (Obj.cells #[Value.int IntKind.i64 0, Value.slice none 0 0] 32)).drew.b) (HV.out.below (B2.out.alloc (Obj.cells #[Value.int IntKind.i64 0, Value.slice none 0 0] 32)).drew.b) HLO.out HLV.out hs1 hs2 hs3).mono ?_
     rintro e w3 ⟨g3, go3, gv3, _, _, _, rfl, hb, hg⟩
     have B3 : Hid (LR w w3 _ _) := (B2.out.alloc (Obj.cells #[Value.int IntKind.i64 0, Value.slice none 0 0] 32)).drew.below hb
     have C3 : Hid (CaseAt w3 g3 go3 gv3 zs os vs) := hg
     have V3 : Hid (w3.heap[w2.heap.size]? = some (.cells #[Value.int IntKind.i64 0, Value.slice none 0 0] 32 (0, 0))) := below_row hb (k := w2.heap.size) (by simp) (heap_alloc_new w2 (Obj.cells #[Value.int IntKind.i64 0, Value.slice none 0 0] 32))
     obtain ⟨k0, k1, k2, k3, k4, k5, k6⟩ := B3.out.cells
     have kS := And.intro k0 (And.intro k1 (And.intro k2 (And.intro k3 (And.intro k4 (And.intro k5 k6)))))
     clear hb hg
     clear k0 k1 k2 k3 k4 k5 k6)
  | (go_at_call 26
     with_reducible refine (toRoute_any veh bi c2 ids w3 (HI.out.below B3.out.b) hs4).mono ?_
     rintro e w4 ⟨gr4, _, rfl, hb, hg⟩
     have B4 : Hid (LR w w4 _ _) := B3.out.below hb
     have C4 : Hid (CaseAt w4 g3 go3 gv3 zs os vs) := C3.out.below hb
     have I4 : Hid (IntsAt w4 (some ⟨gr4, 0, none⟩) ids) := IntsAt.of_row hg
     try (have V4 := below_row hb (row_lt V3.out) V3.out)
     obtain ⟨k0, k1, k2, k3, k4, k5, k6⟩ := B4.out.cells
     have kS := And.intro k0 (And.intro k1 (And.intro k2 (And.intro k3 (And.intro k4 (And.intro k5 k6)))))
     clear hb hg
     clear k0 k1 k2 k3 k4 k5 k6)
  | (go_at_call 26
     with_reducible refine (toRoute_any veh bi c2 ids (w3.alloc (Obj.cells #[Value.int IntKind.i64 0, Value.slice none 0 0] 32)) (HI.out.below (B3.out.alloc (Obj.cells #[Value.int IntKind.i64 0, Value.slice none 0 0] 32)).b) hs4).mono ?_
     rintro e w4 ⟨gr4, _, rfl, hb, hg⟩
     have B4 : Hid (LR w w4 _ _) := (B3.out.alloc (Obj.cells #[Value.int IntKind.i64 0, Value.slice none 0 0] 32)).below hb
     have C4 : Hid (CaseAt w4 g3 go3 gv3 zs os vs) := (C3.out.below ((Below.refl _ _).alloc (Nat.le_refl _) _)).below hb
     have I4 : Hid (IntsAt w4 (some ⟨gr4, 0, none⟩) ids) := IntsAt.of_row hg
     have V4 := below_row hb (k := w3.heap.size) (by simp) (heap_alloc_new w3 (Obj.cells #[Value.int IntKind.i64 0, Value.slice none 0 0] 32))
     obtain ⟨k0, k1, k2, k3, k4, k5, k6⟩ := B4.out.cells
     have kS := And.intro k0 (And.intro k1 (And.intro k2 (And.intro k3 (And.intro k4 (And.intro k5 k6)))))
     clear hb hg
     clear k0 k1 k2 k3 k4 k5 k6)
  | (go_at_call 12
     with_reducible refine (specInsertAt_at n fine veh _ _ _ _ _ _ _ _ _ _ zs os vs ids w4 C4.out.t C4.out.o C4.out.v I4.out HLO.out HLV.out (by omega) (by omega) (by omega) (Nat.le_refl _) id x ch HCH.out D HDD.out xs HXX.out).mono ?_
     rintro e w6 ⟨hb, ad0, c0, rfl, ho⟩
     rw [HVV.out]
     have B6 : Hid (LR w w6 _ _) := B4.out.below hb
     have O6 : Hid (w6.ownsRow _ 2 1 (.slice ad0 xs.length c0) xs.length _) := ho
     try (have V6 := below_row hb (row_lt V4) V4
          obtain ⟨z0, z1⟩ := cells2 V6
          have zf := fun i => frozen_of_row _ _ i _ _ V6)
     obtain ⟨k0, k1, k2, k3, k4, k5, k6⟩ := B6.out.cells
     have kS := And.intro k0 (And.intro k1 (And.intro k2 (And.intro k3 (And.intro k4 (And.intro k5 k6)))))
     clear hb ho
     clear k0 k1 k2 k3 k4 k5 k6)
  | (go_at_call 12
     with_reducible refine (specInsertAt_at n fine veh _ _ _ _ _ _ _ _ _ _ zs os vs ids (w4.alloc (Obj.cells #[Value.int IntKind.i64 0, Value.slice none 0 0] 32)) (C4.out.below ((Below.refl _ _).alloc (Nat.le_refl _) _)).t (C4.out.below ((Below.refl _ _).alloc (Nat.le_refl _) _)).o (C4.out.below ((Below.refl _ _).alloc (Nat.le_refl _) _)).v (I4.out.below ((Below.refl _ _).alloc (Nat.le_refl _) _)) HLO.out HLV.out (by omega) (by omega) (by omega) (Nat.le_refl _) id x ch HCH.out D HDD.out xs HXX.out).mono ?_
     rintro e w6 ⟨hb, ad0, c0, rfl, ho⟩
     rw [HVV.out]
     have B6 : Hid (LR w w6 _ _) := (B4.out.alloc (Obj.cells #[Value.int IntKind.i64 0, Value.slice none 0 0] 32)).below hb
     have O6 : Hid (w6.ownsRow _ 2 1 (.slice ad0 xs.length c0) xs.length _) := ho
     have V6 := below_row hb (k := w4.heap.size) (by simp) (heap_alloc_new w4 (Obj.cells #[Value.int IntKind.i64 0, Value.slice none 0 0] 32))
     obtain ⟨z0, z1⟩ := cells2 V6
     have zf := fun i => frozen_of_row _ _ i _ _ V6
     obtain ⟨k0, k1, k2, k3, k4, k5, k6⟩ := B6.out.cells
     have kS := And.intro k0 (And.intro k1 (And.intro k2 (And.intro k3 (And.intro k4 (And.intro k5 k6)))))
     clear hb ho
     clear k0 k1 k2 k3 k4 k5 k6)))
  all_goals (first
    | (exact key _ _ _ _ _ _ _ _ _ ((B6.out.put B2.out.big).put B2.out.big) (box_set V6) (own_sets O6.out V6))
    | (exact key _ _ _ _ _ _ _ _ _ ((B6.out.put B3.out.big).put B3.out.big) (box_set V6) (own_sets O6.out V6))
    | (exact key _ _ _ _ _ _ _ _ _ ((B6.out.put B4.out.big).put B4.out.big) (box_set V6) (own_sets O6.out V6))
    | (exact key _ _ _ _ _ _ _ _ _ (B6.out.alloc _) (heap_alloc_new _ _) (O6.out.alloc _)))

end Go.Proofs.Ytmohcdnhbhigdaa
