import Derived.Test.YtehfjfmfpdgibaaGreatDoorPack1
import Derived.Test.YtehfjfmfpdgibaaGreatDoorPack4
import Derived.Test.YtehfjfmfpdgibaaGreatDoorPack6
import Derived.Test.YtehfjfmfpdgibaaGreatDoorPack10
import Derived.Test.YtehfjfmfpdgibaaGreatDoorPack14
namespace Go.Proofs.YtehfjfmfpdgibaaGreatDoor
open Go.RowKit
structure B2 (T1 T2 : TypeId) (w W : World) (src out : Array Value) : Prop where
 b : Below w.heap.size w W
 s : W.heap[w.heap.size]? = some (.cells src T1 (0, 0))
 o : W.heap[w.heap.size + 1]? = some (.cells out T2 (0, 0))
theorem B2.below {T1 T2 : TypeId} {w W W' : World} {src out : Array Value} (h : B2 T1 T2 w W src out) (hb : Below W.heap.size W W') : B2 T1 T2 w W' src out := ⟨h.b.trans (hb.mono h.b.size), below_row hb (row_lt h.s) h.s, below_row hb (row_lt h.o) h.o⟩
theorem B2.new (T1 T2 : TypeId) (w : World) (src out : Array Value) : B2 T1 T2 w ((w.alloc (.cells src T1)).alloc (.cells out T2)) src out := ⟨((Below.refl _ _).alloc (Nat.le_refl _) _).alloc (by simp) _, heap_alloc2_old _ _ _, heap_alloc2_new _ _ _⟩
set_option maxHeartbeats 2000000 in
theorem l11Snap_any (t : TN) (id : Int) (w : World) (hA : TNAt w t) (hn : t.S.length <= 1048576) :
 Calls Tryz.prog 45 #[.agg #[.string (txt t.nm), .int .i64 t.nx, .slice t.sa t.S.length t.sc, .slice t.va t.V.length t.vc, .int .i64 t.pub], .int .i64 id] w fun e w' => (∃ x : SN, findS t.S id = some x /\ e = .returned (.tuple #[.agg #[.int .i64 x.c.n, .slice x.za x.c.zs.length x.zc, .slice x.oa x.c.ko x.oc, .slice x.va x.c.kv x.vc, .int .i64 x.c.f], .bool true]) /\ Below w.heap.size w w') ∨ (findS t.S id = none /\ e = .returned (.tuple #[.agg #[.int .i64 0, .slice none 0 0, .slice none 0 0, .slice none 0 0, .int .i64 0], .bool false]) /\ Below w.heap.size w w') := by
 obtain ⟨nm, nx, S, V, pub, sa, va, sc, vc⟩ := t
 have HA := hdn hA.s
 simp only at hn HA ⊢
 clear hA
 generalize txt nm = nb at *
 obtain ⟨n, HN⟩ := nmd S.length
 rw [HN.out] at hn ⊢
 generalize V.length = no at *
 have B0 := hdn (B2.new 36 78 w #[.string nb, .int .i64 nx, .slice sa n sc, .slice va no vc, .int .i64 pub] #[.int .i64 0, .slice none 0 0, .slice none 0 0, .slice none 0 0, .int .i64 0])
 obtain ⟨q0, q1, q2, q3, q4⟩ := cells5 B0.out.s
 go_enter Tryz.func45, Tryz.ntmps45
 go_wp2_with fail
 clear q0 q1 q2 q3 q4
 go_loopw [6] (fun ti wr => ∃ i : Nat, i <= n /\ ti = .int .i64 i /\ (∀ s ∈ S.take i, decide (s.id = id) = false) /\ B2 36 78 w wr #[.string nb, .int .i64 nx, .slice sa n sc, .slice va no vc, .int .i64 pub] #[.int .i64 0, .slice none 0 0, .slice none 0 0, .slice none 0 0, .int .i64 0]) (fun ti _ => n - (intOf ti).toNat)
 case atStart => exact ⟨0, Nat.zero_le _, rfl, by simp, B0.out⟩
 case round =>
  obtain ⟨i, hi, rfl, hno, hb⟩ := hrel
  have B1 := hdn hb
  have HNO := hdn hno
  clear hb hno B0
  obtain ⟨q0, q1, q2, q3, q4⟩ := cells5 B1.out.s
  obtain ⟨r0, r1, r2, r3, r4⟩ := cells5 B1.out.o
  have f0 := fun i => frozen_of_row _ _ i _ _ B1.out.o
  by_cases hlt : i < n
  · have hin : (i : Int) < n := by omega
    have hiX : i < S.length := by rw [HN.out]; exact hlt
    obtain ⟨b, off, e, c0, c1, c2, c3, c4, c5⟩ := (HA.out.below B1.out.b).at hiX
    subst e
    by_cases hid : S[i].id = id
    · have HF := hdn (findX_at (fun s => decide (s.id = id)) hiX HNO.out (decide_eq_true hid))
      have hide : (S[i].id == id) = true := by rw [hid]; simp
      generalize S[i] = x at *
      clear hid
      obtain ⟨id9, ⟨cn, cf, zs, os, vs, ko, kv⟩, za, oa, va9, zc, oc, vc9⟩ := x
      simp only at c0 c1 c2 c3 c4 c5 hide
      obtain ⟨nz, HNZ⟩ := nmd zs.length
      rw [HNZ.out] at c2
      go_wp2
      refine bodyPost_ret (v := .tuple #[.agg #[.int .i64 cn, .slice za nz zc, .slice oa ko oc, .slice va9 kv vc9, .int .i64 cf], .bool true]) (by simp [results, Tryz.results45, go_sem, r0, r1, r2, r3, r4]) rfl ?_
      refine .inl ⟨_, HF.out, by rw [HNZ.out], ?_⟩
      repeat (first | with_reducible exact B1.out.b | refine Below.setCell ?_ (by simp <;> omega) _)
    · have hide : (S[i].id == id) = false := by simpa using hid
      have HNX := hdn (take_step (fun s : SN => decide (s.id = id) = false) hiX HNO.out (decide_eq_false hid))
      generalize S[i] = x at *
      clear hid
      go_wp2
      go_roundw
      case rel => exact ⟨i + 1, by omega, by first | rfl | go_num, HNX.out, B1.out⟩
      case measure => simp [intOf]; omega
  · have hin : ¬ ((i : Int) < n) := by omega
    have hkn : i = n := by omega
    subst hkn
    have HF : Hid (findS S id = none) := findX_no _ (by have := HNO.out; rw [<- HN.out, List.take_length] at this; exact this)
    go_wp2
    refine bodyPost_ret (v := .tuple #[.agg #[.int .i64 0, .slice none 0 0, .slice none 0 0, .slice none 0 0, .int .i64 0], .bool false]) (by simp [results, Tryz.results45, go_sem, r0, r1, r2, r3, r4]) rfl ?_
    refine .inr ⟨HF.out, rfl, ?_⟩
    repeat (first | with_reducible exact B1.out.b | refine Below.setCell ?_ (by simp <;> omega) _)
set_option maxHeartbeats 2000000 in
theorem l11Version_any (t : TN) (id : Int) (w : World) (hA : TNAt w t) (hn : t.V.length <= 1048576) :
 Calls Tryz.prog 44 #[.agg #[.string (txt t.nm), .int .i64 t.nx, .slice t.sa t.S.length t.sc, .slice t.va t.V.length t.vc, .int .i64 t.pub], .int .i64 id] w fun e w' => (∃ x : VN, findV t.V id = some x /\ e = .returned (.tuple #[.agg #[.int .i64 x.id, .int .i64 x.sn, .slice x.ra x.R.length x.rc, .slice x.la x.L.length x.lc], .bool true]) /\ Below w.heap.size w w') ∨ (findV t.V id = none /\ e = .returned (.tuple #[.agg #[.int .i64 0, .int .i64 0, .slice none 0 0, .slice none 0 0], .bool false]) /\ Below w.heap.size w w') := by
 obtain ⟨nm, nx, S, V, pub, sa, va, sc, vc⟩ := t
 have HA := hdn hA.v
 simp only at hn HA ⊢
 clear hA
 generalize txt nm = nb at *
 obtain ⟨n, HN⟩ := nmd V.length
 rw [HN.out] at hn ⊢
 generalize S.length = no at *
 have B0 := hdn (B2.new 36 70 w #[.string nb, .int .i64 nx, .slice sa no sc, .slice va n vc, .int .i64 pub] #[.int .i64 0, .int .i64 0, .slice none 0 0, .slice none 0 0])
 obtain ⟨q0, q1, q2, q3, q4⟩ := cells5 B0.out.s
 go_enter Tryz.func44, Tryz.ntmps44
 go_wp2_with fail
 clear q0 q1 q2 q3 q4
 go_loopw [6] (fun ti wr => ∃ i : Nat, i <= n /\ ti = .int .i64 i /\ (∀ s ∈ V.take i, decide (s.id = id) = false) /\ B2 36 70 w wr #[.string nb, .int .i64 nx, .slice sa no sc, .slice va n vc, .int .i64 pub] #[.int .i64 0, .int .i64 0, .slice none 0 0, .slice none 0 0]) (fun ti _ => n - (intOf ti).toNat)
 case atStart => exact ⟨0, Nat.zero_le _, rfl, by simp, B0.out⟩
 case round =>
  obtain ⟨i, hi, rfl, hno, hb⟩ := hrel
  have B1 := hdn hb
  have HNO := hdn hno
  clear hb hno B0
  obtain ⟨q0, q1, q2, q3, q4⟩ := cells5 B1.out.s
  obtain ⟨r0, r1, r2, r3⟩ := cells4v B1.out.o
  have f0 := fun i => frozen_of_row _ _ i _ _ B1.out.o
  by_cases hlt : i < n
  · have hin : (i : Int) < n := by omega
    have hiX : i < V.length := by rw [HN.out]; exact hlt
    obtain ⟨b, off, e, c0, c1, c2, c3⟩ := (HA.out.below B1.out.b).at hiX
    subst e
    by_cases hid : V[i].id = id
    · have HF := hdn (findX_at (fun s => decide (s.id = id)) hiX HNO.out (decide_eq_true hid))
      have hide : (V[i].id == id) = true := by rw [hid]; simp
      generalize V[i] = x at *
      clear hid
      obtain ⟨id9, sn9, R, L, ra, la, rc, lc⟩ := x
      simp only at c0 c1 c2 c3 hide
      obtain ⟨nr, HNR⟩ := nmd R.length
      obtain ⟨nl, HNL⟩ := nmd L.length
      rw [HNR.out] at c2
      rw [HNL.out] at c3
      go_wp2
      refine bodyPost_ret (v := .tuple #[.agg #[.int .i64 id9, .int .i64 sn9, .slice ra nr rc, .slice la nl lc], .bool true]) (by simp [results, Tryz.results44, go_sem, r0, r1, r2, r3]) rfl ?_
      refine .inl ⟨_, HF.out, by rw [HNR.out, HNL.out], ?_⟩
      repeat (first | with_reducible exact B1.out.b | refine Below.setCell ?_ (by simp <;> omega) _)
    · have hide : (V[i].id == id) = false := by simpa using hid
      have HNX := hdn (take_step (fun s : VN => decide (s.id = id) = false) hiX HNO.out (decide_eq_false hid))
      generalize V[i] = x at *
      clear hid
      go_wp2
      go_roundw
      case rel => exact ⟨i + 1, by omega, by first | rfl | go_num, HNX.out, B1.out⟩
      case measure => simp [intOf]; omega
  · have hin : ¬ ((i : Int) < n) := by omega
    have hkn : i = n := by omega
    subst hkn
    have HF : Hid (findV V id = none) := findX_no _ (by have := HNO.out; rw [<- HN.out, List.take_length] at this; exact this)
    go_wp2
    refine bodyPost_ret (v := .tuple #[.agg #[.int .i64 0, .int .i64 0, .slice none 0 0, .slice none 0 0], .bool false]) (by simp [results, Tryz.results44, go_sem, r0, r1, r2, r3]) rfl ?_
    refine .inr ⟨HF.out, rfl, ?_⟩
    repeat (first | with_reducible exact B1.out.b | refine Below.setCell ?_ (by simp <;> omega) _)
def GSx (k : Nat) (w : World) : Prop := ∃ T v, w.cell? ⟨k, 0, none⟩ = some (.iface T v)
theorem GSx.below {k B : Nat} {w w' : World} (h : GSx k w) (hb : Below B w w') (hB : w.heap.size <= B) : GSx k w' := by
 obtain ⟨T, v, hc⟩ := h
 exact ⟨T, v, (hb.cell (p := ⟨k, 0, none⟩) (by have := block_lt_of_cell hc; simp only at this ⊢; omega)).trans hc⟩
structure GS (w : World) : Prop where
 s : GSx 2 w
 v : GSx 1 w
theorem GS.below {B : Nat} {w w' : World} (h : GS w) (hb : Below B w w') (hB : w.heap.size <= B) : GS w' := ⟨h.s.below hb hB, h.v.below hb hB⟩
set_option maxHeartbeats 2000000 in
theorem findSnap_any (t : TN) (id : Int) (w : World) (hA : TNAt w t) (hn : t.S.length <= 1048576) (hG : GS w) :
 Calls Tryz.prog 49 #[.agg #[.string (txt t.nm), .int .i64 t.nx, .slice t.sa t.S.length t.sc, .slice t.va t.V.length t.vc, .int .i64 t.pub], .int .i64 id] w fun e w' => (∃ x : SN, findS t.S id = some x /\ e = .returned (.tuple #[.agg #[.int .i64 x.id, .int .i64 x.c.n, .slice x.za x.c.zs.length x.zc, .slice x.oa x.c.ko x.oc, .slice x.va x.c.kv x.vc, .int .i64 x.c.f], .nilIface]) /\ Below w.heap.size w w') ∨ (findS t.S id = none /\ (∃ T v, e = .returned (.tuple #[.agg #[.int .i64 0, .int .i64 0, .slice none 0 0, .slice none 0 0, .slice none 0 0, .int .i64 0], .iface T v])) /\ Below w.heap.size w w') := by
 obtain ⟨nm, nx, S, V, pub, sa, va, sc, vc⟩ := t
 have HA := hdn hA.s
 have HG := hdn hG.s
 simp only at hn HA ⊢
 clear hA hG
 generalize txt nm = nb at *
 obtain ⟨n, HN⟩ := nmd S.length
 rw [HN.out] at hn ⊢
 generalize V.length = no at *
 have B0 := hdn (B2.new 36 86 w #[.string nb, .int .i64 nx, .slice sa n sc, .slice va no vc, .int .i64 pub] #[.int .i64 0, .int .i64 0, .slice none 0 0, .slice none 0 0, .slice none 0 0, .int .i64 0])
 obtain ⟨q0, q1, q2, q3, q4⟩ := cells5 B0.out.s
 go_enter Tryz.func49, Tryz.ntmps49
 go_wp2_with fail
 clear q0 q1 q2 q3 q4
 go_loopw [11] (fun ti wr => ∃ i : Nat, i <= n /\ ti = .int .i64 i /\ (∀ s ∈ S.take i, decide (s.id = id) = false) /\ B2 36 86 w wr #[.string nb, .int .i64 nx, .slice sa n sc, .slice va no vc, .int .i64 pub] #[.int .i64 0, .int .i64 0, .slice none 0 0, .slice none 0 0, .slice none 0 0, .int .i64 0]) (fun ti _ => n - (intOf ti).toNat)
 case atStart => exact ⟨0, Nat.zero_le _, rfl, by simp, B0.out⟩
 case round =>
  obtain ⟨i, hi, rfl, hno, hb⟩ := hrel
  have B1 := hdn hb
  have HNO := hdn hno
  clear hb hno B0
  by_cases hlt : i < n
  · have hin : (i : Int) < n := by omega
    have hiX : i < S.length := by rw [HN.out]; exact hlt
    obtain ⟨b, off, e, c0, c1, c2, c3, c4, c5⟩ := (HA.out.below B1.out.b).at hiX
    subst e
    by_cases hid : S[i].id = id
    · have HF := hdn (findX_at (fun s => decide (s.id = id)) hiX HNO.out (decide_eq_true hid))
      have hide : (S[i].id == id) = true := by rw [hid]; simp
      generalize S[i] = x at *
      clear hid
      obtain ⟨id9, ⟨cn, cf, zs, os, vs, ko, kv⟩, za, oa, va9, zc, oc, vc9⟩ := x
      simp only at c0 c1 c2 c3 c4 c5 hide
      obtain ⟨nz, HNZ⟩ := nmd zs.length
      rw [HNZ.out] at c2
      have A2 := hdn ((Below.refl wr.heap.size wr).alloc (Nat.le_refl _) (.cells #[.int .i64 id9, .int .i64 cn, .slice za nz zc, .slice oa ko oc, .slice va9 kv vc9, .int .i64 cf] 86))
      have B3 := hdn (B1.out.below A2.out)
      obtain ⟨r0, r1, r2, r3, r4, r5⟩ := cells6v B3.out.o
      obtain ⟨d0, d1, d2, d3, d4, d5⟩ := cells6v (heap_alloc_new wr (.cells #[.int .i64 id9, .int .i64 cn, .slice za nz zc, .slice oa ko oc, .slice va9 kv vc9, .int .i64 cf] 86))
      have f0 := fun i => frozen_of_row _ _ i _ _ B3.out.o
      go_wp2
      refine bodyPost_ret (v := .tuple #[.agg #[.int .i64 id9, .int .i64 cn, .slice za nz zc, .slice oa ko oc, .slice va9 kv vc9, .int .i64 cf], .nilIface]) (by simp [results, Tryz.results49, go_sem, r0, r1, r2, r3, r4, r5]) rfl ?_
      refine .inl ⟨_, HF.out, by rw [HNZ.out], ?_⟩
      repeat (first | with_reducible exact B3.out.b | refine Below.setCell ?_ (by simp <;> omega) _)
    · have hide : (S[i].id == id) = false := by simpa using hid
      have HNX := hdn (take_step (fun s : SN => decide (s.id = id) = false) hiX HNO.out (decide_eq_false hid))
      generalize S[i] = x at *
      clear hid
      obtain ⟨id9, ⟨cn, cf, zs, os, vs, ko, kv⟩, za, oa, va9, zc, oc, vc9⟩ := x
      simp only at c0 c1 c2 c3 c4 c5 hide
      obtain ⟨nz, HNZ⟩ := nmd zs.length
      rw [HNZ.out] at c2
      have A2 := hdn ((Below.refl wr.heap.size wr).alloc (Nat.le_refl _) (.cells #[.int .i64 id9, .int .i64 cn, .slice za nz zc, .slice oa ko oc, .slice va9 kv vc9, .int .i64 cf] 86))
      have B3 := hdn (B1.out.below A2.out)
      obtain ⟨d0, d1, d2, d3, d4, d5⟩ := cells6v (heap_alloc_new wr (.cells #[.int .i64 id9, .int .i64 cn, .slice za nz zc, .slice oa ko oc, .slice va9 kv vc9, .int .i64 cf] 86))
      go_wp2
      first
       | exact ⟨⟨i + 1, by omega, by first | rfl | go_num, HNX.out, B3.out⟩, by simp [intOf]; omega⟩
       | (go_roundw
          case rel => exact ⟨i + 1, by omega, by first | rfl | go_num, HNX.out, B3.out⟩
          case measure => simp [intOf]; omega)
  · have hin : ¬ ((i : Int) < n) := by omega
    have hkn : i = n := by omega
    subst hkn
    have HF : Hid (findS S id = none) := findX_no _ (by have := HNO.out; rw [<- HN.out, List.take_length] at this; exact this)
    have hgk : 2 < w.heap.size := by obtain ⟨_, _, hc⟩ := HG.out; exact block_lt_of_cell hc
    have hgn : 2 ≠ w.heap.size + 1 := by omega
    have hgm : w.heap.size + 1 ≠ 2 := by omega
    obtain ⟨gT, gv, gc⟩ := HG.out.below B1.out.b (Nat.le_refl _)
    obtain ⟨r0, r1, r2, r3, r4, r5⟩ := cells6v B1.out.o
    have f0 := fun i => frozen_of_row _ _ i _ _ B1.out.o
    go_wp2_with fail
    go_region
    all_goals try go_wp2
    all_goals
     refine bodyPost_ret (v := .tuple #[.agg #[.int .i64 0, .int .i64 0, .slice none 0 0, .slice none 0 0, .slice none 0 0, .int .i64 0], .iface 126 (.agg #[.int .i64 4, .iface gT gv])]) (by simp [results, Tryz.results49, go_sem, r0, r1, r2, r3, r4, r5]) rfl ?_
     refine .inr ⟨HF.out, ⟨_, _, rfl⟩, ?_⟩
     repeat (first | with_reducible exact B1.out.b | refine Below.drew ?_ | refine Below.setCell ?_ (by simp <;> omega) _)
set_option maxHeartbeats 2000000 in
theorem findVersion_any (t : TN) (id : Int) (w : World) (hA : TNAt w t) (hn : t.V.length <= 1048576) (hG : GS w) :
 Calls Tryz.prog 48 #[.agg #[.string (txt t.nm), .int .i64 t.nx, .slice t.sa t.S.length t.sc, .slice t.va t.V.length t.vc, .int .i64 t.pub], .int .i64 id] w fun e w' => (∃ x : VN, findV t.V id = some x /\ e = .returned (.tuple #[.agg #[.int .i64 x.id, .int .i64 x.sn, .slice x.ra x.R.length x.rc, .slice x.la x.L.length x.lc], .nilIface]) /\ Below w.heap.size w w') ∨ (findV t.V id = none /\ (∃ T v, e = .returned (.tuple #[.agg #[.int .i64 0, .int .i64 0, .slice none 0 0, .slice none 0 0], .iface T v])) /\ Below w.heap.size w w') := by
 obtain ⟨nm, nx, S, V, pub, sa, va, sc, vc⟩ := t
 have HA := hdn hA.v
 have HG := hdn hG.v
 simp only at hn HA ⊢
 clear hA hG
 generalize txt nm = nb at *
 obtain ⟨n, HN⟩ := nmd V.length
 rw [HN.out] at hn ⊢
 generalize S.length = no at *
 have B0 := hdn (B2.new 36 70 w #[.string nb, .int .i64 nx, .slice sa no sc, .slice va n vc, .int .i64 pub] #[.int .i64 0, .int .i64 0, .slice none 0 0, .slice none 0 0])
 obtain ⟨q0, q1, q2, q3, q4⟩ := cells5 B0.out.s
 go_enter Tryz.func48, Tryz.ntmps48
 go_wp2_with fail
 clear q0 q1 q2 q3 q4
 go_loopw [11] (fun ti wr => ∃ i : Nat, i <= n /\ ti = .int .i64 i /\ (∀ s ∈ V.take i, decide (s.id = id) = false) /\ B2 36 70 w wr #[.string nb, .int .i64 nx, .slice sa no sc, .slice va n vc, .int .i64 pub] #[.int .i64 0, .int .i64 0, .slice none 0 0, .slice none 0 0]) (fun ti _ => n - (intOf ti).toNat)
 case atStart => exact ⟨0, Nat.zero_le _, rfl, by simp, B0.out⟩
 case round =>
  obtain ⟨i, hi, rfl, hno, hb⟩ := hrel
  have B1 := hdn hb
  have HNO := hdn hno
  clear hb hno B0
  by_cases hlt : i < n
  · have hin : (i : Int) < n := by omega
    have hiX : i < V.length := by rw [HN.out]; exact hlt
    obtain ⟨b, off, e, c0, c1, c2, c3⟩ := (HA.out.below B1.out.b).at hiX
    subst e
    by_cases hid : V[i].id = id
    · have HF := hdn (findX_at (fun s => decide (s.id = id)) hiX HNO.out (decide_eq_true hid))
      have hide : (V[i].id == id) = true := by rw [hid]; simp
      generalize V[i] = x at *
      clear hid
      obtain ⟨id9, sn9, R, L, ra, la, rc, lc⟩ := x
      simp only at c0 c1 c2 c3 hide
      obtain ⟨nr, HNR⟩ := nmd R.length
      obtain ⟨nl, HNL⟩ := nmd L.length
      rw [HNR.out] at c2
      rw [HNL.out] at c3
      have A2 := hdn ((Below.refl wr.heap.size wr).alloc (Nat.le_refl _) (.cells #[.int .i64 id9, .int .i64 sn9, .slice ra nr rc, .slice la nl lc] 70))
      have B3 := hdn (B1.out.below A2.out)
      obtain ⟨r0, r1, r2, r3⟩ := cells4v B3.out.o
      obtain ⟨d0, d1, d2, d3⟩ := cells4v (heap_alloc_new wr (.cells #[.int .i64 id9, .int .i64 sn9, .slice ra nr rc, .slice la nl lc] 70))
      have f0 := fun i => frozen_of_row _ _ i _ _ B3.out.o
      go_wp2
      refine bodyPost_ret (v := .tuple #[.agg #[.int .i64 id9, .int .i64 sn9, .slice ra nr rc, .slice la nl lc], .nilIface]) (by simp [results, Tryz.results48, go_sem, r0, r1, r2, r3]) rfl ?_
      refine .inl ⟨_, HF.out, by rw [HNR.out, HNL.out], ?_⟩
      repeat (first | with_reducible exact B3.out.b | refine Below.setCell ?_ (by simp <;> omega) _)
    · have hide : (V[i].id == id) = false := by simpa using hid
      have HNX := hdn (take_step (fun s : VN => decide (s.id = id) = false) hiX HNO.out (decide_eq_false hid))
      generalize V[i] = x at *
      clear hid
      obtain ⟨id9, sn9, R, L, ra, la, rc, lc⟩ := x
      simp only at c0 c1 c2 c3 hide
      obtain ⟨nr, HNR⟩ := nmd R.length
      obtain ⟨nl, HNL⟩ := nmd L.length
      rw [HNR.out] at c2
      rw [HNL.out] at c3
      have A2 := hdn ((Below.refl wr.heap.size wr).alloc (Nat.le_refl _) (.cells #[.int .i64 id9, .int .i64 sn9, .slice ra nr rc, .slice la nl lc] 70))
      have B3 := hdn (B1.out.below A2.out)
      obtain ⟨d0, d1, d2, d3⟩ := cells4v (heap_alloc_new wr (.cells #[.int .i64 id9, .int .i64 sn9, .slice ra nr rc, .slice la nl lc] 70))
      go_wp2
      first
       | exact ⟨⟨i + 1, by omega, by first | rfl | go_num, HNX.out, B3.out⟩, by simp [intOf]; omega⟩
       | (go_roundw
          case rel => exact ⟨i + 1, by omega, by first | rfl | go_num, HNX.out, B3.out⟩
          case measure => simp [intOf]; omega)
  · have hin : ¬ ((i : Int) < n) := by omega
    have hkn : i = n := by omega
    subst hkn
    have HF : Hid (findV V id = none) := findX_no _ (by have := HNO.out; rw [<- HN.out, List.take_length] at this; exact this)
    have hgk : 1 < w.heap.size := by obtain ⟨_, _, hc⟩ := HG.out; exact block_lt_of_cell hc
    have hgn : 1 ≠ w.heap.size + 1 := by omega
    have hgm : w.heap.size + 1 ≠ 1 := by omega
    obtain ⟨gT, gv, gc⟩ := HG.out.below B1.out.b (Nat.le_refl _)
    obtain ⟨r0, r1, r2, r3⟩ := cells4v B1.out.o
    have f0 := fun i => frozen_of_row _ _ i _ _ B1.out.o
    go_wp2_with fail
    go_region
    all_goals try go_wp2
    all_goals
     refine bodyPost_ret (v := .tuple #[.agg #[.int .i64 0, .int .i64 0, .slice none 0 0, .slice none 0 0], .iface 126 (.agg #[.int .i64 6, .iface gT gv])]) (by simp [results, Tryz.results48, go_sem, r0, r1, r2, r3]) rfl ?_
     refine .inr ⟨HF.out, ⟨_, _, rfl⟩, ?_⟩
     repeat (first | with_reducible exact B1.out.b | refine Below.drew ?_ | refine Below.setCell ?_ (by simp <;> omega) _)
structure B1x (T : TypeId) (w W : World) (src : Array Value) : Prop where
 b : Below w.heap.size w W
 s : W.heap[w.heap.size]? = some (.cells src T (0, 0))
theorem B1x.below {T : TypeId} {w W W' : World} {src : Array Value} (h : B1x T w W src) (hb : Below W.heap.size W W') : B1x T w W' src := ⟨h.b.trans (hb.mono h.b.size), below_row hb (row_lt h.s) h.s⟩
theorem B1x.new (T : TypeId) (w : World) (src : Array Value) : B1x T w (w.alloc (.cells src T)) src := ⟨(Below.refl _ _).alloc (Nat.le_refl _) _, heap_alloc_new _ _⟩
theorem vOk_some {S : List SN} {v : VN} {s : SN} (h : findS S v.sn = some s) : vOk S v = decide (planV s.c.n s.c.zs s.c.os s.c.vs s.c.ko s.c.kv s.c.f v.R v.L = 0) := by
 unfold vOk
 rw [h]
 simp only [Option.isSome_some, Bool.true_and, Option.getD_some]
theorem vOk_none {S : List SN} {v : VN} (h : findS S v.sn = none) : vOk S v = false := by
 unfold vOk
 rw [h]
 rfl
def TN.small (t : TN) : Prop := ∀ v ∈ t.V, (allTo v.R v.R.length).length <= 1048576
set_option maxRecDepth 20000 in
set_option maxHeartbeats 8000000 in
theorem l11Tenant_any (t : TN) (w : World) (hA : TNAt w t) (ho : TNOk 1048576 t) (hsm : t.small) (hrm : t.room) :
 Calls Tryz.prog 30 #[.agg #[.string (txt t.nm), .int .i64 t.nx, .slice t.sa t.S.length t.sc, .slice t.va t.V.length t.vc, .int .i64 t.pub]] w fun e w' => e = .returned (.bool (tenB t)) /\ Below w.heap.size w w' := by
 obtain ⟨r, HR⟩ := nmd (tenB t)
 rw [HR.out]
 have TNAME : Hid (nmB t.nm = false -> r = false) := fun h => HR.out.symm.trans (tenB_name h)
 have TNEXT : Hid (inB t.nx 1 1000000000 = false -> r = false) := fun h => HR.out.symm.trans (tenB_next h)
 have TSNAP : Hid (snapsB t = false -> r = false) := fun h => HR.out.symm.trans (tenB_snaps h)
 have TVERS : Hid (versB t = false -> r = false) := fun h => HR.out.symm.trans (tenB_vers h)
 have TALL : Hid (nmB t.nm = true -> inB t.nx 1 1000000000 = true -> snapsB t = true -> versB t = true -> r = pubB t) := fun h1 h2 h3 h4 => HR.out.symm.trans (tenB_all h1 h2 h3 h4)
 have LN := hdn (fun W => l11Name_any t.nm W (by have := ho.n; omega))
 have HVER := hdn (fun (id : Int) W (h : TNAt W t) => l11Version_any t id W h ho.v)
 have HSNP := hdn (fun (id : Int) W (h : TNAt W t) => l11Snap_any t id W h ho.s)
 have HA := hdn hA
 have HO := hdn ho
 have HSM := hdn hsm
 have HRM := hdn hrm
 clear hA ho hsm hrm HR
 obtain ⟨nm, nx, S, V, pub, sa, va, sc, vc⟩ := t
 unfold snapsB at TSNAP TALL
 unfold versB at TVERS TALL
 unfold pubB at TALL
 simp only at TNAME TNEXT TSNAP TVERS TALL LN HVER HSNP ⊢
 generalize txt nm = nb at *
 obtain ⟨nS, HNS⟩ := nmd S.length
 obtain ⟨nV, HNV⟩ := nmd V.length
 rw [HNS.out] at TSNAP TALL HVER HSNP ⊢
 rw [HNV.out] at TVERS TALL HVER HSNP ⊢
 have LX := fun W => l1In_any nx 1 1000000000 W
 generalize hbn : nmB nm = bn at *
 generalize hbx : inB nx 1 1000000000 = bx at *
 clear hbn
 have HLX := hdn LX
 clear LX
 have B0 := hdn (B1x.new 36 w #[.string nb, .int .i64 nx, .slice sa nS sc, .slice va nV vc, .int .i64 pub])
 obtain ⟨q0, q1, q2, q3, q4⟩ := cells5 B0.out.s
 cases bn
 · have hr := TNAME.out rfl
   subst hr
   clear TNEXT TSNAP TVERS TALL HVER HSNP
   go_enter Tryz.func30, Tryz.ntmps30
   go_wp2_with (go_at_call 75; refine (LN.out _).mono ?_; rintro e w' ⟨rfl, hw⟩; subst hw)
   go_ret
   exact ⟨rfl, B0.out.b⟩
 cases bx
 · have hr := TNEXT.out rfl
   subst hr
   clear TSNAP TVERS TALL HVER HSNP
   go_enter Tryz.func30, Tryz.ntmps30
   go_wp2_with (first
    | (go_at_call 75; refine (LN.out _).mono ?_; rintro e w' ⟨rfl, hw⟩; subst hw)
    | (go_at_call 76; refine (HLX.out _).mono ?_; rintro e w' ⟨rfl, hw⟩; subst hw))
   go_ret
   exact ⟨rfl, B0.out.b⟩
 have hnx : 1 <= nx /\ nx <= 1000000000 := by simpa [inB] using hbx
 obtain ⟨hnx1, hnx2⟩ := hnx
 clear hbx TNAME TNEXT
 by_cases h8 : 8 < nS
 · have h8' : (8 : Int) < nS := by omega
   have hr := TSNAP.out (by rw [rowB9_long (by rw [List.length_map, HNS.out]; exact h8)]; rfl)
   subst hr
   clear TSNAP TVERS TALL HVER HSNP
   go_enter Tryz.func30, Tryz.ntmps30
   go_wp2_with (first
    | (go_at_call 75; refine (LN.out _).mono ?_; rintro e w' ⟨rfl, hw⟩; subst hw)
    | (go_at_call 76; refine (HLX.out _).mono ?_; rintro e w' ⟨rfl, hw⟩; subst hw))
   go_ret
   exact ⟨rfl, B0.out.b⟩
 have h8' : ¬ ((8 : Int) < nS) := by omega
 by_cases h9 : 8 < nV
 · have h9' : (8 : Int) < nV := by omega
   have hr := TVERS.out (by rw [rowB9_long (by rw [List.length_map, HNV.out]; exact h9)]; rfl)
   subst hr
   clear TSNAP TVERS TALL HVER HSNP
   go_enter Tryz.func30, Tryz.ntmps30
   go_wp2_with (first
    | (go_at_call 75; refine (LN.out _).mono ?_; rintro e w' ⟨rfl, hw⟩; subst hw)
    | (go_at_call 76; refine (HLX.out _).mono ?_; rintro e w' ⟨rfl, hw⟩; subst hw))
   go_ret
   exact ⟨rfl, B0.out.b⟩
 have h9' : ¬ ((8 : Int) < nV) := by omega
 go_enter Tryz.func30, Tryz.ntmps30
 go_wp2_with (first
  | (go_at_call 75; refine (LN.out _).mono ?_; rintro e w' ⟨rfl, hw⟩; subst hw)
  | (go_at_call 76; refine (HLX.out _).mono ?_; rintro e w' ⟨rfl, hw⟩; subst hw))
 clear q0 q1 q2 q3 q4 LN HLX
 generalize (w.alloc (.cells #[.string nb, .int .i64 nx, .slice sa nS sc, .slice va nV vc, .int .i64 pub] 36)) = W0 at *
 obtain ⟨m, HM⟩ := nmd (nx - 1)
 have hm : nx - 1 = m := HM.out
 have hwm : IntKind.i64.wrap (nx - 1) = m := by rw [hm]; exact IntWalk.i64_in _ (by omega)
 go_loopw [3] (fun ti wr => ∃ i : Nat, i <= nS /\ ti = .int .i64 i /\ kTo nx (S.map SN.id) i = true /\ allB sOk S i = true /\ B1x 36 w wr #[.string nb, .int .i64 nx, .slice sa nS sc, .slice va nV vc, .int .i64 pub]) (fun ti _ => nS - (intOf ti).toNat)
 case atStart => exact ⟨0, Nat.zero_le _, rfl, rfl, rfl, B0.out⟩
 case round =>
  obtain ⟨i, hi, rfl, hkt, hall, hb⟩ := hrel
  have B1 := hdn hb
  have HKT := hdn hkt
  have HALL := hdn hall
  clear hb hkt hall B0
  obtain ⟨q0, q1, q2, q3, q4⟩ := cells5 B1.out.s
  by_cases hlt : i < nS
  · have hin : (i : Int) < nS := by omega
    have hiX : i < S.length := by rw [HNS.out]; exact hlt
    obtain ⟨b, off, e, c0, c1, c2, c3, c4, c5⟩ := (HA.out.s.below B1.out.b).at hiX
    subst e
    have hE := HO.out.os _ (List.getElem_mem hiX)
    have hEA := (HA.out.s.below B1.out.b).2 _ (List.getElem_mem hiX)
    have TNO : Hid (stepK nx (S.map SN.id) i = false -> r = false) := fun h => TSNAP.out (by rw [rowB9_no (by rw [List.length_map]; exact hiX) h]; rfl)
    have TNC : Hid (sOk S[i] = false -> r = false) := fun h => TSNAP.out (by rw [<- HNS.out, allB_no hiX h _ hiX, Bool.and_false])
    have TYK : Hid (stepK nx (S.map SN.id) i = true -> kTo nx (S.map SN.id) (i + 1) = true) := fun h => by show (kTo _ _ _ && _) = true; rw [HKT.out, h]; rfl
    have TYC : Hid (sOk S[i] = true -> allB sOk S (i + 1) = true) := fun h => allB_succ hiX HALL.out h
    have KOUT : Hid (inB S[i].id 1 (nx - 1) = false -> stepK nx (S.map SN.id) i = false) := fun h => stepK_out hiX h
    have CO : Hid (∀ W, Below wr.heap.size wr W -> Calls Tryz.prog 77 #[.agg #[.int .i64 S[i].c.n, .slice S[i].za S[i].c.zs.length S[i].zc, .slice S[i].oa S[i].c.ko S[i].oc, .slice S[i].va S[i].c.kv S[i].vc, .int .i64 S[i].c.f]] W fun e w' => e = .returned (.bool (sOk S[i])) /\ Below W.heap.size W w') := fun W hb => specCase_any _ _ _ _ _ _ _ _ _ _ _ _ _ W (hEA.below hb).z (hEA.below hb).o (hEA.below hb).v hE.o hE.v (by have := hE.om; omega) (by have := hE.vm; omega)
    have LI : Hid (∀ W, Calls Tryz.prog 76 #[.int .i64 S[i].id, .int .i64 1, .int .i64 (nx - 1)] W fun e w' => e = .returned (.bool (inB S[i].id 1 (nx - 1))) /\ w' = W) := fun W => l1In_any _ _ _ W
    have KAT : Hid (i = 0 -> stepK nx (S.map SN.id) i = inB S[i].id 1 (nx - 1)) := fun h => stepK_at hiX h
    have KIN : Hid (∀ h0 : 0 < i, stepK nx (S.map SN.id) i = (inB S[i].id 1 (nx - 1) && decide ((S[i - 1]'(by omega)).id < S[i].id))) := fun h0 => stepK_in hiX h0
    rw [HM.out] at LI KOUT KAT KIN
    clear hE hEA
    generalize hstep : stepK nx (S.map SN.id) i = st at TNO TYK KOUT KAT KIN
    clear hstep
    cases hq1 : inB S[i].id 1 m
    · have hr := TNO.out (KOUT.out hq1)
      subst hr
      rw [hq1] at LI
      clear TNO TNC TYK TYC KOUT KAT KIN TVERS TALL HVER HSNP hq1
      generalize S[i] = x at *
      obtain ⟨xid, ⟨cn, cf, zs, os, vs, ko, kv⟩, za, oa, va9, zc, oc, vc9⟩ := x
      simp only at c0 c1 c2 c3 c4 c5 CO LI
      generalize zs.length = nz at *
      have z0 := fun s : Kin wr => s.cell q1
      have z1 := fun s : Kin wr => s.cell q2
      have z2 := fun s : Kin wr => s.cell c0
      have z3 := fun s : Kin wr => s.cell c1
      have z4 := fun s : Kin wr => s.cell c2
      have z5 := fun s : Kin wr => s.cell c3
      have z6 := fun s : Kin wr => s.cell c4
      have z7 := fun s : Kin wr => s.cell c5
      have hkin := Kin.there wr
      go_wp2_with fail
      refine wp_region_kin (by kernel_rfl) (by kernel_rfl) ?_
      repeat (go_big_quiet_step ((first | (go_at_call 76; with_reducible exact Kin.call_same (LI.out _)) | (go_at_call 77; with_reducible exact Kin.call (CO.out _ (Kin.below _))))))
      refine wpQuiet_nil ?_
      rintro _ ⟨s1, rfl⟩
      have B2 := hdn (B1.out.below s1.below)
      clear z0 z1 z2 z3 z4 z5 z6 z7 hkin
      generalize s1.w = w2 at *
      go_wp2
      go_ret
      exact ⟨rfl, B2.out.b⟩
    · rw [hq1] at LI
      by_cases hi0 : i = 0
      · have hst := KAT.out hi0
        rw [hq1] at hst
        subst hi0
        have HK1 := hdn (TYK.out hst)
        rw [Nat.zero_mul, Nat.add_zero] at c0 c1 c2 c3 c4 c5
        have hd0 : decide (0 < 0) = false := rfl
        clear TNO TYK KOUT KAT KIN TVERS TALL HVER HSNP hq1 hst HKT
        generalize S[0] = x at *
        cases hqc : sOk x
        · rw [hqc] at CO
          have hr := TNC.out hqc
          subst hr
          clear hqc TNC TYC
          obtain ⟨xid, ⟨cn, cf, zs, os, vs, ko, kv⟩, za, oa, va9, zc, oc, vc9⟩ := x
          simp only at c0 c1 c2 c3 c4 c5 CO LI
          generalize zs.length = nz at *
          have z0 := fun s : Kin wr => s.cell q1
          have z1 := fun s : Kin wr => s.cell q2
          have z2 := fun s : Kin wr => s.cell c0
          have z3 := fun s : Kin wr => s.cell c1
          have z4 := fun s : Kin wr => s.cell c2
          have z5 := fun s : Kin wr => s.cell c3
          have z6 := fun s : Kin wr => s.cell c4
          have z7 := fun s : Kin wr => s.cell c5
          have hkin := Kin.there wr
          go_wp2_with fail
          refine wp_region_kin (by kernel_rfl) (by kernel_rfl) ?_
          repeat (go_big_quiet_step ((first | (go_at_call 76; with_reducible exact Kin.call_same (LI.out _)) | (go_at_call 77; with_reducible exact Kin.call (CO.out _ (Kin.below _))))))
          refine wpQuiet_nil ?_
          rintro _ ⟨s1, rfl⟩
          have B2 := hdn (B1.out.below s1.below)
          clear z0 z1 z2 z3 z4 z5 z6 z7 hkin
          generalize s1.w = w2 at *
          go_wp2
          go_ret
          exact ⟨rfl, B2.out.b⟩
        · rw [hqc] at CO
          have HA1 := hdn (TYC.out hqc)
          clear hqc TNC TYC
          obtain ⟨xid, ⟨cn, cf, zs, os, vs, ko, kv⟩, za, oa, va9, zc, oc, vc9⟩ := x
          simp only at c0 c1 c2 c3 c4 c5 CO LI
          generalize zs.length = nz at *
          have z0 := fun s : Kin wr => s.cell q1
          have z1 := fun s : Kin wr => s.cell q2
          have z2 := fun s : Kin wr => s.cell c0
          have z3 := fun s : Kin wr => s.cell c1
          have z4 := fun s : Kin wr => s.cell c2
          have z5 := fun s : Kin wr => s.cell c3
          have z6 := fun s : Kin wr => s.cell c4
          have z7 := fun s : Kin wr => s.cell c5
          have hkin := Kin.there wr
          go_wp2_with fail
          refine wp_region_kin (by kernel_rfl) (by kernel_rfl) ?_
          repeat (go_big_quiet_step ((first | (go_at_call 76; with_reducible exact Kin.call_same (LI.out _)) | (go_at_call 77; with_reducible exact Kin.call (CO.out _ (Kin.below _))))))
          refine wpQuiet_nil ?_
          rintro _ ⟨s1, rfl⟩
          have B2 := hdn (B1.out.below s1.below)
          clear z0 z1 z2 z3 z4 z5 z6 z7 hkin
          generalize s1.w = w2 at *
          go_wp2
          go_roundw
          case rel => exact ⟨0 + 1, by omega, by first | rfl | go_num, HK1.out, HA1.out, B2.out⟩
          case measure => simp [intOf]; omega
      · have h0i : 0 < i := by omega
        have hi0' : (0 : Int) < i := by omega
        have hdi : decide (0 < i) = true := decide_eq_true h0i
        have hst := KIN.out h0i
        rw [hq1, Bool.true_and] at hst
        obtain ⟨b', off', e, p0, -⟩ := (HA.out.s.below B1.out.b).at (show i - 1 < S.length by omega)
        simp only [Option.some.injEq, Addr.mk.injEq] at e
        obtain ⟨rfl, rfl, -⟩ := e
        have hq11 : (0 : Int) <= (i : Int) - 1 := by omega
        have hq12 : ((i : Int) - 1).toNat = i - 1 := by omega
        have hq13 : (i : Int) - 1 < nS := by omega
        clear KOUT KAT KIN TVERS TALL HVER HSNP hq1 HKT hi0
        generalize (S[i - 1]'(by omega)).id = pid at *
        generalize S[i] = x at *
        by_cases hle : x.id <= pid
        · rw [decide_eq_false (by omega)] at hst
          have hr := TNO.out hst
          subst hr
          clear TNO TNC TYK TYC hst
          obtain ⟨xid, ⟨cn, cf, zs, os, vs, ko, kv⟩, za, oa, va9, zc, oc, vc9⟩ := x
          simp only at c0 c1 c2 c3 c4 c5 CO LI hle
          generalize zs.length = nz at *
          have z0 := fun s : Kin wr => s.cell q1
          have z1 := fun s : Kin wr => s.cell q2
          have z2 := fun s : Kin wr => s.cell c0
          have z3 := fun s : Kin wr => s.cell c1
          have z4 := fun s : Kin wr => s.cell c2
          have z5 := fun s : Kin wr => s.cell c3
          have z6 := fun s : Kin wr => s.cell c4
          have z7 := fun s : Kin wr => s.cell c5
          have z8 := fun s : Kin wr => s.cell p0
          have hkin := Kin.there wr
          go_wp2_with fail
          refine wp_region_kin (by kernel_rfl) (by kernel_rfl) ?_
          repeat (go_big_quiet_step ((first | (go_at_call 76; with_reducible exact Kin.call_same (LI.out _)) | (go_at_call 77; with_reducible exact Kin.call (CO.out _ (Kin.below _))))))
          refine wpQuiet_nil ?_
          rintro _ ⟨s1, rfl⟩
          have B2 := hdn (B1.out.below s1.below)
          clear z0 z1 z2 z3 z4 z5 z6 z7 z8 hkin
          generalize s1.w = w2 at *
          go_wp2
          go_ret
          exact ⟨rfl, B2.out.b⟩
        · rw [decide_eq_true (by omega)] at hst
          have hled : decide (x.id <= pid) = false := decide_eq_false hle
          have HK1 := hdn (TYK.out hst)
          clear TNO TYK hst
          cases hqc : sOk x
          · rw [hqc] at CO
            have hr := TNC.out hqc
            subst hr
            clear hqc TNC TYC
            obtain ⟨xid, ⟨cn, cf, zs, os, vs, ko, kv⟩, za, oa, va9, zc, oc, vc9⟩ := x
            simp only at c0 c1 c2 c3 c4 c5 CO LI hle hled
            generalize zs.length = nz at *
            have z0 := fun s : Kin wr => s.cell q1
            have z1 := fun s : Kin wr => s.cell q2
            have z2 := fun s : Kin wr => s.cell c0
            have z3 := fun s : Kin wr => s.cell c1
            have z4 := fun s : Kin wr => s.cell c2
            have z5 := fun s : Kin wr => s.cell c3
            have z6 := fun s : Kin wr => s.cell c4
            have z7 := fun s : Kin wr => s.cell c5
            have z8 := fun s : Kin wr => s.cell p0
            have hkin := Kin.there wr
            go_wp2_with fail
            refine wp_region_kin (by kernel_rfl) (by kernel_rfl) ?_
            repeat (go_big_quiet_step ((first | (go_at_call 76; with_reducible exact Kin.call_same (LI.out _)) | (go_at_call 77; with_reducible exact Kin.call (CO.out _ (Kin.below _))))))
            refine wpQuiet_nil ?_
            rintro _ ⟨s1, rfl⟩
            have B2 := hdn (B1.out.below s1.below)
            clear z0 z1 z2 z3 z4 z5 z6 z7 z8 hkin
            generalize s1.w = w2 at *
            go_wp2
            go_ret
            exact ⟨rfl, B2.out.b⟩
          · rw [hqc] at CO
            have HA1 := hdn (TYC.out hqc)
            clear hqc TNC TYC
            obtain ⟨xid, ⟨cn, cf, zs, os, vs, ko, kv⟩, za, oa, va9, zc, oc, vc9⟩ := x
            simp only at c0 c1 c2 c3 c4 c5 CO LI hle hled
            generalize zs.length = nz at *
            have z0 := fun s : Kin wr => s.cell q1
            have z1 := fun s : Kin wr => s.cell q2
            have z2 := fun s : Kin wr => s.cell c0
            have z3 := fun s : Kin wr => s.cell c1
            have z4 := fun s : Kin wr => s.cell c2
            have z5 := fun s : Kin wr => s.cell c3
            have z6 := fun s : Kin wr => s.cell c4
            have z7 := fun s : Kin wr => s.cell c5
            have z8 := fun s : Kin wr => s.cell p0
            have hkin := Kin.there wr
            go_wp2_with fail
            refine wp_region_kin (by kernel_rfl) (by kernel_rfl) ?_
            repeat (go_big_quiet_step ((first | (go_at_call 76; with_reducible exact Kin.call_same (LI.out _)) | (go_at_call 77; with_reducible exact Kin.call (CO.out _ (Kin.below _))))))
            refine wpQuiet_nil ?_
            rintro _ ⟨s1, rfl⟩
            have B2 := hdn (B1.out.below s1.below)
            clear z0 z1 z2 z3 z4 z5 z6 z7 z8 hkin
            generalize s1.w = w2 at *
            go_wp2
            go_roundw
            case rel => exact ⟨i + 1, by omega, by first | rfl | go_num, HK1.out, HA1.out, B2.out⟩
            case measure => simp [intOf]; omega
  · have hin : ¬ ((i : Int) < nS) := by omega
    have hkn : i = nS := by omega
    subst hkn
    have HS1 : Hid ((rowB9 nx (S.map SN.id) && allB sOk S i) = true) := by
     show _ = _
     rw [HALL.out, rowB9_yes (by rw [List.length_map, HNS.out]; omega) (by rw [List.length_map, HNS.out]; exact HKT.out)]
     rfl
    clear HKT HALL TSNAP
    go_wp2_with fail
    clear q0 q1 q2 q3 q4
    go_loopw [4] (fun ti wr => ∃ j : Nat, j <= nV /\ ti = .int .i64 j /\ kTo nx (V.map VN.id) j = true /\ allB (vOk S) V j = true /\ B1x 36 w wr #[.string nb, .int .i64 nx, .slice sa i sc, .slice va nV vc, .int .i64 pub]) (fun ti _ => nV - (intOf ti).toNat)
    case atStart => exact ⟨0, Nat.zero_le _, rfl, rfl, rfl, B1.out⟩
    case round =>
     obtain ⟨j, hj, rfl, hkt, hall, hb⟩ := hrel
     have D1 := hdn hb
     have HKT := hdn hkt
     have HALL := hdn hall
     clear hb hkt hall B1
     obtain ⟨q0, q1, q2, q3, q4⟩ := cells5 D1.out.s
     by_cases hlt2 : j < nV
     · have hjn : (j : Int) < nV := by omega
       have hjV : j < V.length := by rw [HNV.out]; exact hlt2
       obtain ⟨b, off, e, c0, c1, c2, c3⟩ := (HA.out.v.below D1.out.b).at hjV
       subst e
       have HEV := hdn (HO.out.ov _ (List.getElem_mem hjV))
       have HEA := hdn ((HA.out.v.below D1.out.b).2 _ (List.getElem_mem hjV))
       have HAL := hdn (HSM.out _ (List.getElem_mem hjV))
       have HRO := hdn (HRM.out.1 _ (List.getElem_mem hjV))
       have TNO : Hid (stepK nx (V.map VN.id) j = false -> r = false) := fun h => TVERS.out (by rw [rowB9_no (by rw [List.length_map]; exact hjV) h]; rfl)
       have TNC : Hid (vOk S V[j] = false -> r = false) := fun h => TVERS.out (by rw [<- HNV.out, allB_no hjV h _ hjV, Bool.and_false])
       have TYK : Hid (stepK nx (V.map VN.id) j = true -> kTo nx (V.map VN.id) (j + 1) = true) := fun h => by show (kTo _ _ _ && _) = true; rw [HKT.out, h]; rfl
       have TYC : Hid (vOk S V[j] = true -> allB (vOk S) V (j + 1) = true) := fun h => allB_succ hjV HALL.out h
       have KOUT : Hid (inB V[j].id 1 (nx - 1) = false -> stepK nx (V.map VN.id) j = false) := fun h => stepK_out hjV h
       have LI : Hid (∀ W, Calls Tryz.prog 76 #[.int .i64 V[j].id, .int .i64 1, .int .i64 (nx - 1)] W fun e w' => e = .returned (.bool (inB V[j].id 1 (nx - 1))) /\ w' = W) := fun W => l1In_any _ _ _ W
       have KAT : Hid (j = 0 -> stepK nx (V.map VN.id) j = inB V[j].id 1 (nx - 1)) := fun h => stepK_at hjV h
       have KIN : Hid (∀ h0 : 0 < j, stepK nx (V.map VN.id) j = (inB V[j].id 1 (nx - 1) && decide ((V[j - 1]'(by omega)).id < V[j].id))) := fun h0 => stepK_in hjV h0
       rw [HM.out] at LI KOUT KAT KIN
       generalize hstep : stepK nx (V.map VN.id) j = st at TNO TYK KOUT KAT KIN
       clear hstep
       generalize hx : V[j] = x at *
       clear hx
       have HPREV : Hid (∀ h0 : 0 < j, wr.cell? ⟨b, off + (j - 1) * 4, none⟩ = some (.int .i64 (V[j - 1]'(by omega)).id)) := fun h0 => by
        obtain ⟨b', off', e, p0, -⟩ := (HA.out.v.below D1.out.b).at (show j - 1 < V.length by omega)
        simp only [Option.some.injEq, Addr.mk.injEq] at e
        obtain ⟨rfl, rfl, -⟩ := e
        exact p0
       have CP : Hid (∀ (s : SN) W, Below wr.heap.size wr W -> s ∈ S -> Calls Tryz.prog 78 #[.agg #[.int .i64 s.c.n, .slice s.za s.c.zs.length s.zc, .slice s.oa s.c.ko s.oc, .slice s.va s.c.kv s.vc, .int .i64 s.c.f], .agg #[.slice x.ra x.R.length x.rc, .slice x.la x.L.length x.lc]] W fun e w' => e = .returned (.int .i64 (planV s.c.n s.c.zs s.c.os s.c.vs s.c.ko s.c.kv s.c.f x.R x.L)) /\ Below W.heap.size W w') := fun s W hb hs => by
        have h1 := ((HA.out.s.below D1.out.b).2 _ hs).below hb
        have h2 := HO.out.os _ hs
        have h3 := HEA.out.below hb
        exact specPlan_any _ _ _ _ _ _ _ _ _ _ _ _ _ _ _ _ _ _ _ W h1.z h1.o h1.v h3.r h3.l h2.o h2.v (by have := h2.om; omega) (by have := h2.vm; omega) HEV.out.n HEV.out.i (fun r hr => (HRO.out r hr).1) HEV.out.l HAL.out
       clear HEV HEA HAL HRO
       obtain ⟨vid, vsn, R, L, ra, la, rc, lc⟩ := x
       simp only at c0 c1 c2 c3 CP LI KOUT KAT KIN
       obtain ⟨nr, HNR⟩ := nmd R.length
       obtain ⟨nl, HNL⟩ := nmd L.length
       rw [HNR.out] at c2 CP
       rw [HNL.out] at c3 CP
       have A2 := hdn ((Below.refl wr.heap.size wr).alloc (Nat.le_refl _) (.cells #[.int .i64 vid, .int .i64 vsn, .slice ra nr rc, .slice la nl lc] 70))
       have X2 : Hid ((wr.alloc (.cells #[.int .i64 vid, .int .i64 vsn, .slice ra nr rc, .slice la nl lc] 70)).heap[wr.heap.size]? = some (.cells #[.int .i64 vid, .int .i64 vsn, .slice ra nr rc, .slice la nl lc] 70 (0, 0))) := heap_alloc_new _ _
       have D2 := hdn (D1.out.below A2.out)
       obtain ⟨k0, k1, k2, k3, k4⟩ := cells5 D2.out.s
       obtain ⟨v0, v1, v2, v3⟩ := cells4v X2.out
       go_wp2_with fail
       clear k0 k1 k2 k3 k4 v0 v1 v2 v3
       generalize (wr.alloc (.cells #[.int .i64 vid, .int .i64 vsn, .slice ra nr rc, .slice la nl lc] 70)) = W2 at *
       have hvb := row_lt X2.out
       refine (HSNP.out vsn _ (HA.out.below D2.out.b)).mono ?_
       rintro e w3 (⟨s, hf, rfl, hb3⟩ | ⟨hf, rfl, hb3⟩)
       · have hmem : s ∈ S := List.mem_of_find?_eq_some hf
         have CO := hdn (fun W hb => CP.out s W hb hmem)
         have hvk := vOk_some (v := ⟨vid, vsn, R, L, ra, la, rc, lc⟩) hf
         clear CP hmem hf
         obtain ⟨sid, ⟨cn, cf, zs, os, vs, ko, kv⟩, za, oa, va9, zc, oc, vc9⟩ := s
         simp only at CO hvk
         obtain ⟨nz, HNZ⟩ := nmd zs.length
         rw [HNZ.out] at CO
         simp only [HNZ.out]
         obtain ⟨pv, HPV⟩ := nmd (planV cn zs os vs ko kv cf R L)
         rw [HPV.out] at CO
         have HV0 : Hid (pv = 0 -> vOk S ⟨vid, vsn, R, L, ra, la, rc, lc⟩ = true) := fun h => by rw [hvk]; exact decide_eq_true (HPV.out.trans h)
         have HV1 : Hid (¬ (pv = 0) -> vOk S ⟨vid, vsn, R, L, ra, la, rc, lc⟩ = false) := fun h => by rw [hvk]; exact decide_eq_false (fun h2 => h (HPV.out.symm.trans h2))
         clear hvk
         have A3 := hdn (hb3.trans (((Below.refl w3.heap.size w3).alloc (Nat.le_refl _) (.cells #[.int .i64 cn, .slice za nz zc, .slice oa ko oc, .slice va9 kv vc9, .int .i64 cf] 78)).mono hb3.size))
         have Y3 : Hid ((w3.alloc (.cells #[.int .i64 cn, .slice za nz zc, .slice oa ko oc, .slice va9 kv vc9, .int .i64 cf] 78)).heap[w3.heap.size]? = some (.cells #[.int .i64 cn, .slice za nz zc, .slice oa ko oc, .slice va9 kv vc9, .int .i64 cf] 78 (0, 0))) := heap_alloc_new _ _
         have D3 := hdn (D2.out.below A3.out)
         have X3 := hdn (below_row A3.out (row_lt X2.out) X2.out)
         have E3 := hdn (A2.out.trans (A3.out.mono A2.out.size))
         have PR3 : Hid (∀ h0 : 0 < j, (w3.alloc (.cells #[.int .i64 cn, .slice za nz zc, .slice oa ko oc, .slice va9 kv vc9, .int .i64 cf] 78)).cell? ⟨b, off + (j - 1) * 4, none⟩ = some (.int .i64 (V[j - 1]'(by omega)).id)) := fun h0 => (E3.out.cell (p := ⟨b, off + (j - 1) * 4, none⟩) (block_lt_of_cell (HPREV.out h0))).trans (HPREV.out h0)
         clear hb3 A3 A2 D2 X2 HPREV
         go_wp2_with fail
         generalize (w3.alloc (.cells #[.int .i64 cn, .slice za nz zc, .slice oa ko oc, .slice va9 kv vc9, .int .i64 cf] 78)) = W3 at *
         generalize w3.heap.size = cb at *
         obtain ⟨k0, k1, k2, k3, k4⟩ := cells5 D3.out.s
         obtain ⟨v0, v1, v2, v3⟩ := cells4v X3.out
         obtain ⟨u0, u1, u2, u3, u4⟩ := cells5 Y3.out
         have CO2 : Hid (∀ W, Below W3.heap.size W3 W -> Calls Tryz.prog 78 #[.agg #[.int .i64 cn, .slice za nz zc, .slice oa ko oc, .slice va9 kv vc9, .int .i64 cf], .agg #[.slice ra nr rc, .slice la nl lc]] W fun e w' => e = .returned (.int .i64 pv) /\ Below W.heap.size W w') := fun W hb => CO.out W (E3.out.trans (hb.mono E3.out.size))
         clear CO E3
         cases hq1 : inB vid 1 m
         · have hr := TNO.out (KOUT.out hq1)
           subst hr
           rw [hq1] at LI
           clear TNO TNC TYK TYC KOUT KAT KIN TALL hq1 PR3 HV0 HV1
           have z0 := fun s : Kin W3 => s.cell k1
           have z1 := fun s : Kin W3 => s.cell k3
           have z2 := fun s : Kin W3 => s.cell v0
           have z3 := fun s : Kin W3 => s.cell v2
           have z4 := fun s : Kin W3 => s.cell v3
           have z5 := fun s : Kin W3 => s.cell u0
           have z6 := fun s : Kin W3 => s.cell u1
           have z7 := fun s : Kin W3 => s.cell u2
           have z8 := fun s : Kin W3 => s.cell u3
           have z9 := fun s : Kin W3 => s.cell u4
           have hkin := Kin.there W3
           refine wp_region_kin (by kernel_rfl) (by kernel_rfl) ?_
           repeat (go_big_quiet_step ((first | (go_at_call 76; with_reducible exact Kin.call_same (LI.out _)) | (go_at_call 78; with_reducible exact Kin.call (CO2.out _ (Kin.below _))))))
           refine wpQuiet_nil ?_
           rintro _ ⟨s1, rfl⟩
           have B2 := hdn (D3.out.below s1.below)
           clear z0 z1 z2 z3 z4 z5 z6 z7 z8 z9 hkin
           generalize s1.w = w4 at *
           go_wp2
           go_ret
           exact ⟨rfl, B2.out.b⟩
         · rw [hq1] at LI
           by_cases hj0 : j = 0
           · have hst := KAT.out hj0
             rw [hq1] at hst
             have HK1 := hdn (TYK.out hst)
             subst hj0
             have hd0 : decide (0 < 0) = false := rfl
             clear TNO TYK KOUT KAT KIN TALL hq1 hst PR3 HKT
             by_cases hpv : pv = 0
             · have HA1 := hdn (TYC.out (HV0.out hpv))
               have hne : (pv != 0) = false := by simp [hpv]
               clear TNC TYC HV0 HV1 hpv
               have z0 := fun s : Kin W3 => s.cell k1
               have z1 := fun s : Kin W3 => s.cell k3
               have z2 := fun s : Kin W3 => s.cell v0
               have z3 := fun s : Kin W3 => s.cell v2
               have z4 := fun s : Kin W3 => s.cell v3
               have z5 := fun s : Kin W3 => s.cell u0
               have z6 := fun s : Kin W3 => s.cell u1
               have z7 := fun s : Kin W3 => s.cell u2
               have z8 := fun s : Kin W3 => s.cell u3
               have z9 := fun s : Kin W3 => s.cell u4
               have hkin := Kin.there W3
               refine wp_region_kin (by kernel_rfl) (by kernel_rfl) ?_
               repeat (go_big_quiet_step ((first | (go_at_call 76; with_reducible exact Kin.call_same (LI.out _)) | (go_at_call 78; with_reducible exact Kin.call (CO2.out _ (Kin.below _))))))
               refine wpQuiet_nil ?_
               rintro _ ⟨s1, rfl⟩
               have B2 := hdn (D3.out.below s1.below)
               clear z0 z1 z2 z3 z4 z5 z6 z7 z8 z9 hkin
               generalize s1.w = w4 at *
               go_wp2
               go_roundw
               case rel => exact ⟨0 + 1, by omega, by first | rfl | go_num, HK1.out, HA1.out, B2.out⟩
               case measure => simp [intOf]; omega
             · have hr := TNC.out (HV1.out hpv)
               have hne : (pv != 0) = true := by simp [hpv]
               subst hr
               clear TNC TYC HV0 HV1 hpv
               have z0 := fun s : Kin W3 => s.cell k1
               have z1 := fun s : Kin W3 => s.cell k3
               have z2 := fun s : Kin W3 => s.cell v0
               have z3 := fun s : Kin W3 => s.cell v2
               have z4 := fun s : Kin W3 => s.cell v3
               have z5 := fun s : Kin W3 => s.cell u0
               have z6 := fun s : Kin W3 => s.cell u1
               have z7 := fun s : Kin W3 => s.cell u2
               have z8 := fun s : Kin W3 => s.cell u3
               have z9 := fun s : Kin W3 => s.cell u4
               have hkin := Kin.there W3
               refine wp_region_kin (by kernel_rfl) (by kernel_rfl) ?_
               repeat (go_big_quiet_step ((first | (go_at_call 76; with_reducible exact Kin.call_same (LI.out _)) | (go_at_call 78; with_reducible exact Kin.call (CO2.out _ (Kin.below _))))))
               refine wpQuiet_nil ?_
               rintro _ ⟨s1, rfl⟩
               have B2 := hdn (D3.out.below s1.below)
               clear z0 z1 z2 z3 z4 z5 z6 z7 z8 z9 hkin
               generalize s1.w = w4 at *
               go_wp2
               go_ret
               exact ⟨rfl, B2.out.b⟩
           · have h0j : 0 < j := by omega
             have hj0' : (0 : Int) < j := by omega
             have hdj : decide (0 < j) = true := decide_eq_true h0j
             have hst := KIN.out h0j
             rw [hq1, Bool.true_and] at hst
             have p0 := PR3.out h0j
             have hq11 : (0 : Int) <= (j : Int) - 1 := by omega
             have hq12 : ((j : Int) - 1).toNat = j - 1 := by omega
             have hq13 : (j : Int) - 1 < nV := by omega
             clear KOUT KAT KIN TALL hq1 HKT hj0 PR3
             generalize (V[j - 1]'(by omega)).id = pid at *
             by_cases hle : vid <= pid
             · rw [decide_eq_false (by omega)] at hst
               have hr := TNO.out hst
               subst hr
               clear TNO TNC TYK TYC hst HV0 HV1
               have z0 := fun s : Kin W3 => s.cell k1
               have z1 := fun s : Kin W3 => s.cell k3
               have z2 := fun s : Kin W3 => s.cell v0
               have z3 := fun s : Kin W3 => s.cell v2
               have z4 := fun s : Kin W3 => s.cell v3
               have z5 := fun s : Kin W3 => s.cell u0
               have z6 := fun s : Kin W3 => s.cell u1
               have z7 := fun s : Kin W3 => s.cell u2
               have z8 := fun s : Kin W3 => s.cell u3
               have z9 := fun s : Kin W3 => s.cell u4
               have z10 := fun s : Kin W3 => s.cell p0
               have hkin := Kin.there W3
               refine wp_region_kin (by kernel_rfl) (by kernel_rfl) ?_
               repeat (go_big_quiet_step ((first | (go_at_call 76; with_reducible exact Kin.call_same (LI.out _)) | (go_at_call 78; with_reducible exact Kin.call (CO2.out _ (Kin.below _))))))
               refine wpQuiet_nil ?_
               rintro _ ⟨s1, rfl⟩
               have B2 := hdn (D3.out.below s1.below)
               clear z0 z1 z2 z3 z4 z5 z6 z7 z8 z9 z10 hkin
               generalize s1.w = w4 at *
               go_wp2
               go_ret
               exact ⟨rfl, B2.out.b⟩
             · rw [decide_eq_true (by omega)] at hst
               have hled : decide (vid <= pid) = false := decide_eq_false hle
               have HK1 := hdn (TYK.out hst)
               clear TNO TYK hst
               by_cases hpv : pv = 0
               · have HA1 := hdn (TYC.out (HV0.out hpv))
                 have hne : (pv != 0) = false := by simp [hpv]
                 clear TNC TYC HV0 HV1 hpv
                 have z0 := fun s : Kin W3 => s.cell k1
                 have z1 := fun s : Kin W3 => s.cell k3
                 have z2 := fun s : Kin W3 => s.cell v0
                 have z3 := fun s : Kin W3 => s.cell v2
                 have z4 := fun s : Kin W3 => s.cell v3
                 have z5 := fun s : Kin W3 => s.cell u0
                 have z6 := fun s : Kin W3 => s.cell u1
                 have z7 := fun s : Kin W3 => s.cell u2
                 have z8 := fun s : Kin W3 => s.cell u3
                 have z9 := fun s : Kin W3 => s.cell u4
                 have z10 := fun s : Kin W3 => s.cell p0
                 have hkin := Kin.there W3
                 refine wp_region_kin (by kernel_rfl) (by kernel_rfl) ?_
                 repeat (go_big_quiet_step ((first | (go_at_call 76; with_reducible exact Kin.call_same (LI.out _)) | (go_at_call 78; with_reducible exact Kin.call (CO2.out _ (Kin.below _))))))
                 refine wpQuiet_nil ?_
                 rintro _ ⟨s1, rfl⟩
                 have B2 := hdn (D3.out.below s1.below)
                 clear z0 z1 z2 z3 z4 z5 z6 z7 z8 z9 z10 hkin
                 generalize s1.w = w4 at *
                 go_wp2
                 go_roundw
                 case rel => exact ⟨j + 1, by omega, by first | rfl | go_num, HK1.out, HA1.out, B2.out⟩
                 case measure => simp [intOf]; omega
               · have hr := TNC.out (HV1.out hpv)
                 have hne : (pv != 0) = true := by simp [hpv]
                 subst hr
                 clear TNC TYC HV0 HV1 hpv
                 have z0 := fun s : Kin W3 => s.cell k1
                 have z1 := fun s : Kin W3 => s.cell k3
                 have z2 := fun s : Kin W3 => s.cell v0
                 have z3 := fun s : Kin W3 => s.cell v2
                 have z4 := fun s : Kin W3 => s.cell v3
                 have z5 := fun s : Kin W3 => s.cell u0
                 have z6 := fun s : Kin W3 => s.cell u1
                 have z7 := fun s : Kin W3 => s.cell u2
                 have z8 := fun s : Kin W3 => s.cell u3
                 have z9 := fun s : Kin W3 => s.cell u4
                 have z10 := fun s : Kin W3 => s.cell p0
                 have hkin := Kin.there W3
                 refine wp_region_kin (by kernel_rfl) (by kernel_rfl) ?_
                 repeat (go_big_quiet_step ((first | (go_at_call 76; with_reducible exact Kin.call_same (LI.out _)) | (go_at_call 78; with_reducible exact Kin.call (CO2.out _ (Kin.below _))))))
                 refine wpQuiet_nil ?_
                 rintro _ ⟨s1, rfl⟩
                 have B2 := hdn (D3.out.below s1.below)
                 clear z0 z1 z2 z3 z4 z5 z6 z7 z8 z9 z10 hkin
                 generalize s1.w = w4 at *
                 go_wp2
                 go_ret
                 exact ⟨rfl, B2.out.b⟩
       · have hvf := hdn (vOk_none (v := ⟨vid, vsn, R, L, ra, la, rc, lc⟩) hf)
         clear CP hf
         have A3 := hdn (hb3.trans (((Below.refl w3.heap.size w3).alloc (Nat.le_refl _) (.cells #[.int .i64 0, .slice none 0 0, .slice none 0 0, .slice none 0 0, .int .i64 0] 78)).mono hb3.size))
         have Y3 : Hid ((w3.alloc (.cells #[.int .i64 0, .slice none 0 0, .slice none 0 0, .slice none 0 0, .int .i64 0] 78)).heap[w3.heap.size]? = some (.cells #[.int .i64 0, .slice none 0 0, .slice none 0 0, .slice none 0 0, .int .i64 0] 78 (0, 0))) := heap_alloc_new _ _
         have D3 := hdn (D2.out.below A3.out)
         have X3 := hdn (below_row A3.out (row_lt X2.out) X2.out)
         have E3 := hdn (A2.out.trans (A3.out.mono A2.out.size))
         have PR3 : Hid (∀ h0 : 0 < j, (w3.alloc (.cells #[.int .i64 0, .slice none 0 0, .slice none 0 0, .slice none 0 0, .int .i64 0] 78)).cell? ⟨b, off + (j - 1) * 4, none⟩ = some (.int .i64 (V[j - 1]'(by omega)).id)) := fun h0 => (E3.out.cell (p := ⟨b, off + (j - 1) * 4, none⟩) (block_lt_of_cell (HPREV.out h0))).trans (HPREV.out h0)
         clear hb3 A3 A2 D2 X2 HPREV
         go_wp2_with fail
         generalize (w3.alloc (.cells #[.int .i64 0, .slice none 0 0, .slice none 0 0, .slice none 0 0, .int .i64 0] 78)) = W3 at *
         generalize w3.heap.size = cb at *
         obtain ⟨k0, k1, k2, k3, k4⟩ := cells5 D3.out.s
         obtain ⟨v0, v1, v2, v3⟩ := cells4v X3.out
         obtain ⟨u0, u1, u2, u3, u4⟩ := cells5 Y3.out
         have hr := TNC.out hvf.out
         subst hr
         clear TNO TNC TYK TYC KOUT KAT KIN PR3 TALL hvf
         have z0 := fun s : Kin W3 => s.cell k1
         have z1 := fun s : Kin W3 => s.cell k3
         have z2 := fun s : Kin W3 => s.cell v0
         have z3 := fun s : Kin W3 => s.cell v2
         have z4 := fun s : Kin W3 => s.cell v3
         have z5 := fun s : Kin W3 => s.cell u0
         have z6 := fun s : Kin W3 => s.cell u1
         have z7 := fun s : Kin W3 => s.cell u2
         have z8 := fun s : Kin W3 => s.cell u3
         have z9 := fun s : Kin W3 => s.cell u4
         have hkin := Kin.there W3
         refine wp_region_kin (by kernel_rfl) (by kernel_rfl) ?_
         repeat (go_big_quiet_step ((go_at_call 76; with_reducible exact Kin.call_same (LI.out _))))
         refine wpQuiet_nil ?_
         rintro _ ⟨s1, rfl⟩
         have B2 := hdn (D3.out.below s1.below)
         clear z0 z1 z2 z3 z4 z5 z6 z7 z8 z9 hkin
         generalize s1.w = w4 at *
         go_wp2
         go_ret
         exact ⟨rfl, B2.out.b⟩
     · have hjn : ¬ ((j : Int) < nV) := by omega
       have hkn : j = nV := by omega
       subst hkn
       have HF := hdn (TALL.out (by simp) (by simp) HS1.out (by
        rw [HALL.out, rowB9_yes (by rw [List.length_map, HNV.out]; omega) (by rw [List.length_map, HNV.out]; exact HKT.out)]
        rfl))
       clear TALL TVERS HKT HALL HS1
       go_wp2_with fail
       clear q0 q1 q2 q3 q4
       refine (HVER.out pub _ (HA.out.below D1.out.b)).mono ?_
       rintro e w2 (⟨x, hf, rfl, hb2⟩ | ⟨hf, rfl, hb2⟩)
       · have D2 := hdn (D1.out.below hb2)
         rw [hf] at HF
         have HF2 : Hid (r = true) := by show _ = _; rw [HF.out]; simp
         clear hb2 HF hf D1 HVER
         have D3 := hdn (D2.out.below ((Below.refl w2.heap.size w2).alloc (Nat.le_refl _) (.cells #[.int .i64 x.id, .int .i64 x.sn, .slice x.ra x.R.length x.rc, .slice x.la x.L.length x.lc] 70)))
         obtain ⟨q0, q1, q2, q3, q4⟩ := cells5 D3.out.s
         generalize x.R.length = xr at *
         generalize x.L.length = xl at *
         by_cases hp : pub = 0
         · have hp1 : (pub == 0) = true := by simp [hp]
           clear hp
           go_wp2
           go_ret
           exact ⟨by rw [HF2.out]; rfl, D3.out.b⟩
         · have hp1 : (pub == 0) = false := by simp [hp]
           clear hp
           go_wp2
           go_ret
           exact ⟨by rw [HF2.out]; rfl, D3.out.b⟩
       · have D2 := hdn (D1.out.below hb2)
         rw [hf] at HF
         have HF2 : Hid (r = decide (pub = 0)) := by show _ = _; rw [HF.out]; simp
         clear hb2 HF hf D1 HVER
         have D3 := hdn (D2.out.below ((Below.refl w2.heap.size w2).alloc (Nat.le_refl _) (.cells #[.int .i64 0, .int .i64 0, .slice none 0 0, .slice none 0 0] 70)))
         obtain ⟨q0, q1, q2, q3, q4⟩ := cells5 D3.out.s
         by_cases hp : pub = 0
         · have hp1 : (pub == 0) = true := by simp [hp]
           have HF3 : Hid (r = true) := by show _ = _; rw [HF2.out]; exact decide_eq_true hp
           clear hp HF2
           go_wp2
           go_ret
           exact ⟨by rw [HF3.out]; rfl, D3.out.b⟩
         · have hp1 : (pub == 0) = false := by simp [hp]
           have HF3 : Hid (r = false) := by show _ = _; rw [HF2.out]; exact decide_eq_false hp
           clear hp HF2
           go_wp2
           go_ret
           exact ⟨by rw [HF3.out]; rfl, D3.out.b⟩
theorem cell1x {w : World} {g : Nat} {T : TypeId} {v : Value} (h : w.heap[g]? = some (.cells #[v] T (0, 0))) : w.cell? ⟨g, 0, none⟩ = some v := by rw [cell_of_row _ _ _ _ _ _ h]; rfl
structure TSm (T : List TN) : Prop where
 n : T.length <= 1048576
 ok : ∀ t ∈ T, TNOk 1048576 t
 sm : ∀ t ∈ T, t.small
 rm : ∀ t ∈ T, t.room
set_option maxRecDepth 20000 in
set_option maxHeartbeats 4000000 in
theorem specStore_any (a : Option Addr) (c : Nat) (T : List TN) (w : World) (hA : TensAt w a T) (hT : TSm T) :
 Calls Tryz.prog 9 #[.agg #[.slice a T.length c]] w fun e w' => e = .returned (.bool (storeB T)) /\ Below w.heap.size w w' := by
 obtain ⟨r, HR⟩ := nmd (storeB T)
 rw [HR.out]
 have HA := hdn hA
 have HT := hdn hT
 have TNO : Hid (∀ i, i < T.length -> stepT T i = false -> r = false) := fun i hi h => HR.out.symm.trans (storeB_no hi h)
 have TYES : Hid (T.length <= 5 -> tTo T T.length = true -> r = true) := fun h1 h2 => HR.out.symm.trans (storeB_yes h1 h2)
 have TLONG : Hid (5 < T.length -> r = false) := fun h => HR.out.symm.trans (storeB_long h)
 clear hA hT HR
 obtain ⟨n, HN⟩ := nmd T.length
 rw [HN.out] at TLONG TYES ⊢
 have B0 := hdn (B1x.new 29 w #[.slice a n c])
 have q0 := cell1x B0.out.s
 by_cases h5 : 5 < n
 · have h5' : (5 : Int) < n := by omega
   have hr := TLONG.out h5
   subst hr
   go_enter Tryz.func9, Tryz.ntmps9
   go_wp2
   go_ret
   exact ⟨rfl, B0.out.b⟩
 have h5' : ¬ ((5 : Int) < n) := by omega
 clear TLONG
 go_enter Tryz.func9, Tryz.ntmps9
 go_wp2_with fail
 clear q0
 go_loopw [3] (fun ti wr => ∃ i : Nat, i <= n /\ ti = .int .i64 i /\ tTo T i = true /\ B1x 29 w wr #[.slice a n c]) (fun ti _ => n - (intOf ti).toNat)
 case atStart => exact ⟨0, Nat.zero_le _, rfl, rfl, B0.out⟩
 case round =>
  obtain ⟨i, hi, rfl, htt, hb⟩ := hrel
  have B1 := hdn hb
  have HTT := hdn htt
  clear hb htt B0
  have q0 := cell1x B1.out.s
  by_cases hlt : i < n
  · have hin : (i : Int) < n := by omega
    have hiX : i < T.length := by rw [HN.out]; exact hlt
    obtain ⟨b, off, e, c0, c1, c2, c3, c4⟩ := (HA.out.below B1.out.b).at hiX
    subst e
    have hm := List.getElem_mem hiX
    have CT : Hid (∀ W, Below wr.heap.size wr W -> Calls Tryz.prog 30 #[.agg #[.string (txt T[i].nm), .int .i64 T[i].nx, .slice T[i].sa T[i].S.length T[i].sc, .slice T[i].va T[i].V.length T[i].vc, .int .i64 T[i].pub]] W fun e w' => e = .returned (.bool (tenB T[i])) /\ Below W.heap.size W w') := fun W hb => l11Tenant_any T[i] W (((HA.out.below B1.out.b).2 _ hm).below hb) (HT.out.ok _ hm) (HT.out.sm _ hm) (HT.out.rm _ hm)
    have TNI := hdn (TNO.out i hiX)
    have TYI : Hid (stepT T i = true -> tTo T (i + 1) = true) := fun h => by show (tTo _ _ && _) = true; rw [HTT.out, h]; rfl
    have KAT : Hid (i = 0 -> stepT T i = tenB T[i]) := fun h => stepT_at hiX h
    have KIN : Hid (∀ h0 : 0 < i, stepT T i = (tenB T[i] && ltT (txt (T[i - 1]'(by omega)).nm) (txt T[i].nm))) := fun h0 => stepT_in hiX h0
    have HPREV : Hid (∀ h0 : 0 < i, wr.cell? ⟨b, off + (i - 1) * 5, none⟩ = some (.string (txt (T[i - 1]'(by omega)).nm))) := fun h0 => by
     obtain ⟨b', off', e, p0, -⟩ := (HA.out.below B1.out.b).at (show i - 1 < T.length by omega)
     simp only [Option.some.injEq, Addr.mk.injEq] at e
     obtain ⟨rfl, rfl, -⟩ := e
     exact p0
    generalize hstep : stepT T i = st at TNI TYI KAT KIN
    clear hstep hm TNO TYES HTT
    generalize htb : tenB T[i] = tb at CT KAT KIN
    clear htb
    generalize hx : T[i] = x at CT KIN c0 c1 c2 c3 c4
    clear hx
    obtain ⟨nm, nx, S, V, pub, sa, va, sc, vc⟩ := x
    simp only at CT KIN c0 c1 c2 c3 c4
    generalize txt nm = nb at *
    generalize S.length = nS at *
    generalize V.length = nV at *
    cases tb
    · have hf : st = false := by
       by_cases h0 : i = 0
       · exact KAT.out h0
       · rw [KIN.out (by omega), Bool.false_and]
      have hr := TNI.out hf
      subst hr
      clear TNI TYI KAT KIN HPREV
      have z0 := fun s : Kin wr => s.cell q0
      have z1 := fun s : Kin wr => s.cell c0
      have z2 := fun s : Kin wr => s.cell c1
      have z3 := fun s : Kin wr => s.cell c2
      have z4 := fun s : Kin wr => s.cell c3
      have z5 := fun s : Kin wr => s.cell c4
      have hkin := Kin.there wr
      go_wp2_with fail
      refine wp_region_kin (by kernel_rfl) (by kernel_rfl) ?_
      repeat (go_big_quiet_step ((go_at_call 30; with_reducible exact Kin.call (CT.out _ (Kin.below _)))))
      refine wpQuiet_nil ?_
      rintro _ ⟨s1, rfl⟩
      have B2 := hdn (B1.out.below s1.below)
      clear z0 z1 z2 z3 z4 z5 hkin
      generalize s1.w = w2 at *
      go_wp2
      go_ret
      exact ⟨rfl, B2.out.b⟩
    · by_cases hi0 : i = 0
      · have hst := KAT.out hi0
        have HK1 := hdn (TYI.out hst)
        subst hi0
        rw [Nat.zero_mul, Nat.add_zero] at c0 c1 c2 c3 c4
        have hd0 : decide (0 < 0) = false := rfl
        clear TNI TYI KAT KIN hst HPREV
        have z0 := fun s : Kin wr => s.cell q0
        have z1 := fun s : Kin wr => s.cell c0
        have z2 := fun s : Kin wr => s.cell c1
        have z3 := fun s : Kin wr => s.cell c2
        have z4 := fun s : Kin wr => s.cell c3
        have z5 := fun s : Kin wr => s.cell c4
        have hkin := Kin.there wr
        go_wp2_with fail
        refine wp_region_kin (by kernel_rfl) (by kernel_rfl) ?_
        repeat (go_big_quiet_step ((go_at_call 30; with_reducible exact Kin.call (CT.out _ (Kin.below _)))))
        refine wpQuiet_nil ?_
        rintro _ ⟨s1, rfl⟩
        have B2 := hdn (B1.out.below s1.below)
        clear z0 z1 z2 z3 z4 z5 hkin
        generalize s1.w = w2 at *
        go_wp2
        go_roundw
        case rel => exact ⟨0 + 1, by omega, by first | rfl | go_num, HK1.out, B2.out⟩
        case measure => simp [intOf]; omega
      · have h0i : 0 < i := by omega
        have hi0' : (0 : Int) < i := by omega
        have hdi : decide (0 < i) = true := decide_eq_true h0i
        have hst := KIN.out h0i
        rw [Bool.true_and] at hst
        have p0 := HPREV.out h0i
        have hq11 : (0 : Int) <= (i : Int) - 1 := by omega
        have hq12 : ((i : Int) - 1).toNat = i - 1 := by omega
        have hq13 : (i : Int) - 1 < n := by omega
        clear KAT KIN hi0 HPREV
        generalize txt (T[i - 1]'(by omega)).nm = pb at *
        have z0 := fun s : Kin wr => s.cell q0
        have z1 := fun s : Kin wr => s.cell c0
        have z2 := fun s : Kin wr => s.cell c1
        have z3 := fun s : Kin wr => s.cell c2
        have z4 := fun s : Kin wr => s.cell c3
        have z5 := fun s : Kin wr => s.cell c4
        have z9 := fun s : Kin wr => s.cell p0
        have hkin := Kin.there wr
        cases hl2 : ltT pb nb
        · have hr := TNI.out (hst.trans hl2)
          subst hr
          have hle : Op.bytesLess pb.toList nb.toList = false := hl2
          clear hl2 hst TNI TYI
          go_wp2_with fail
          refine wp_region_kin (by kernel_rfl) (by kernel_rfl) ?_
          repeat (go_big_quiet_step ((go_at_call 30; with_reducible exact Kin.call (CT.out _ (Kin.below _)))))
          refine wpQuiet_nil ?_
          rintro _ ⟨s1, rfl⟩
          have B2 := hdn (B1.out.below s1.below)
          clear z0 z1 z2 z3 z4 z5 z9 hkin
          generalize s1.w = w2 at *
          go_wp2
          go_ret
          exact ⟨rfl, B2.out.b⟩
        · have HK1 := hdn (TYI.out (hst.trans hl2))
          have hle : Op.bytesLess pb.toList nb.toList = true := hl2
          clear hl2 hst TNI TYI
          go_wp2_with fail
          refine wp_region_kin (by kernel_rfl) (by kernel_rfl) ?_
          repeat (go_big_quiet_step ((go_at_call 30; with_reducible exact Kin.call (CT.out _ (Kin.below _)))))
          refine wpQuiet_nil ?_
          rintro _ ⟨s1, rfl⟩
          have B2 := hdn (B1.out.below s1.below)
          clear z0 z1 z2 z3 z4 z5 z9 hkin
          generalize s1.w = w2 at *
          go_wp2
          go_roundw
          case rel => exact ⟨i + 1, by omega, by first | rfl | go_num, HK1.out, B2.out⟩
          case measure => simp [intOf]; omega
  · have hin : ¬ ((i : Int) < n) := by omega
    have hkn : i = n := by omega
    subst hkn
    have HF := hdn (TYES.out (by omega) HTT.out)
    go_wp2
    go_ret
    exact ⟨by rw [HF.out]; rfl, B1.out.b⟩
set_option maxHeartbeats 1000000 in
theorem snId_any (x : SN) (w : World) : Calls Tryz.prog 129 #[.agg #[.int .i64 x.id, .int .i64 x.c.n, .slice x.za x.c.zs.length x.zc, .slice x.oa x.c.ko x.oc, .slice x.va x.c.kv x.vc, .int .i64 x.c.f]] w fun e w' => e = .returned (.int .i64 x.id) /\ Below w.heap.size w w' := by
 obtain ⟨id9, ⟨cn, cf, zs, os, vs, ko, kv⟩, za, oa, va9, zc, oc, vc9⟩ := x
 simp only
 generalize zs.length = nz at *
 have B0 := hdn ((Below.refl w.heap.size w).alloc (Nat.le_refl _) (.cells #[.int .i64 id9, .int .i64 cn, .slice za nz zc, .slice oa ko oc, .slice va9 kv vc9, .int .i64 cf] 86))
 obtain ⟨d0, d1, d2, d3, d4, d5⟩ := cells6v (heap_alloc_new w (.cells #[.int .i64 id9, .int .i64 cn, .slice za nz zc, .slice oa ko oc, .slice va9 kv vc9, .int .i64 cf] 86))
 go_enter Tryz.func129, Tryz.ntmps129
 go_wp2
 go_ret
 exact ⟨rfl, B0.out⟩
set_option maxHeartbeats 2000000 in
theorem keptSnap_any (X : List SN) (nx pub : Int) (nb : ByteArray) (sa va a : Option Addr) (nS sc nV vc c : Nat) (w : World) (hA : SnapsAt w a X) (hn : X.length <= 1048576) (hx1 : 1 <= nx) (hx2 : nx <= 1000000000) :
 Calls Tryz.prog 128 #[.agg #[.string nb, .int .i64 nx, .slice sa nS sc, .slice va nV vc, .int .i64 pub], .slice a X.length c, .func (.func 129) #[] #[]] w fun e w' => e = .returned (.bool (rowB9 nx (X.map SN.id))) /\ Below w.heap.size w w' := by
 obtain ⟨r, HR⟩ := nmd (rowB9 nx (X.map SN.id))
 rw [HR.out]
 have HA := hdn hA
 have TNO : Hid (∀ i, i < X.length -> stepK nx (X.map SN.id) i = false -> r = false) := fun i hi h => HR.out.symm.trans (rowB9_no (by rw [List.length_map]; exact hi) h)
 have TYES : Hid (X.length <= 8 -> kTo nx (X.map SN.id) X.length = true -> r = true) := fun h1 h2 => HR.out.symm.trans (rowB9_yes (by rw [List.length_map]; exact h1) (by rw [List.length_map]; exact h2))
 have TLONG : Hid (8 < X.length -> r = false) := fun h => HR.out.symm.trans (rowB9_long (by rw [List.length_map]; exact h))
 clear hA HR
 obtain ⟨n, HN⟩ := nmd X.length
 rw [HN.out] at TLONG TYES hn ⊢
 have B0 := hdn (B1x.new 36 w #[.string nb, .int .i64 nx, .slice sa nS sc, .slice va nV vc, .int .i64 pub])
 by_cases h8 : 8 < n
 · have h8' : (8 : Int) < n := by omega
   have hr := TLONG.out h8
   subst hr
   go_enter Tryz.func128, Tryz.ntmps128
   go_wp2
   go_ret
   exact ⟨rfl, B0.out.b⟩
 have h8' : ¬ ((8 : Int) < n) := by omega
 obtain ⟨m, HM⟩ := nmd (nx - 1)
 have hm : nx - 1 = m := HM.out
 have hwm : IntKind.i64.wrap (nx - 1) = m := by rw [hm]; exact IntWalk.i64_in _ (by omega)
 clear TLONG
 go_enter Tryz.func128, Tryz.ntmps128
 go_wp2_with fail
 go_loopw [7, 16] (fun tl ti wr => ∃ (i : Nat) (l : Int), i <= n /\ ti = .int .i64 i /\ tl = .int .i64 l /\ Hid (prevI (X.map SN.id) i = l) /\ kTo nx (X.map SN.id) i = true /\ B1x 36 w wr #[.string nb, .int .i64 nx, .slice sa nS sc, .slice va nV vc, .int .i64 pub]) (fun _ ti _ => n - (intOf ti).toNat)
 case atStart => exact ⟨0, 0, Nat.zero_le _, rfl, rfl, rfl, rfl, B0.out⟩
 case round =>
  obtain ⟨i, l, hi, rfl, rfl, HL, hkt, hb⟩ := hrel
  have B1 := hdn hb
  have hlb := kTo_prev hkt
  have HSTP := hdn (stepK_prev hkt)
  rw [HL.out] at hlb HSTP
  obtain ⟨hl0, hl1⟩ := hlb
  have HKT := hdn hkt
  clear hb hkt B0
  by_cases hlt : i < n
  · have hin : (i : Int) < n := by omega
    have hiX : i < X.length := by rw [HN.out]; exact hlt
    obtain ⟨b, off, e, c0, c1, c2, c3, c4, c5⟩ := (HA.out.below B1.out.b).at hiX
    subst e
    have hl9 : l <= 1000000000 := by
     by_cases h0 : i = 0
     · subst h0; have := HL.out; simp [prevI] at this; omega
     · have := hl1 (by omega); omega
    have TNI := hdn (TNO.out i hiX)
    have TYI : Hid (stepK nx (X.map SN.id) i = true -> kTo nx (X.map SN.id) (i + 1) = true) := fun h => by show (kTo _ _ _ && _) = true; rw [HKT.out, h]; rfl
    have HPN : Hid (prevI (X.map SN.id) (i + 1) = X[i].id) := by show _ = _; unfold prevI; rw [if_neg (Nat.succ_ne_zero i), Nat.add_sub_cancel, getD_map hiX]
    have hgd := getD_map (f := SN.id) hiX
    rw [hgd, hm] at HSTP
    have LI : Hid (∀ W, Calls Tryz.prog 81 #[.int .i64 X[i].id, .int .i64 (l + 1), .int .i64 m] W fun e w' => e = .returned (.bool (stepK nx (X.map SN.id) i)) /\ w' = W) := fun W => by
     have := within_any X[i].id (l + 1) m W
     rw [<- HSTP.out] at this
     exact this
    have CI : Hid (∀ W, Calls Tryz.prog 129 #[.agg _] W fun e w' => e = .returned (.int .i64 X[i].id) /\ Below W.heap.size W w') := fun W => snId_any X[i] W
    generalize hst : stepK nx (X.map SN.id) i = st at TNI TYI LI
    clear hst hgd HSTP HL hl1
    generalize X[i] = x at *
    obtain ⟨id9, ⟨cn, cf, zs, os, vs, ko, kv⟩, za, oa, va9, zc, oc, vc9⟩ := x
    simp only at c0 c1 c2 c3 c4 c5 CI LI HPN
    generalize zs.length = nz at *
    obtain ⟨l1, HL1⟩ := nmd (l + 1)
    have hl1e := HL1.out
    have hwl : IntKind.i64.wrap (l + 1) = l1 := by rw [hl1e]; exact IntWalk.i64_in _ (by omega)
    rw [hl1e] at LI
    have A2 := hdn ((Below.refl wr.heap.size wr).alloc (Nat.le_refl _) (.cells #[.int .i64 id9, .int .i64 cn, .slice za nz zc, .slice oa ko oc, .slice va9 kv vc9, .int .i64 cf] 86))
    have D2 := hdn (B1.out.below A2.out)
    obtain ⟨d0, d1, d2, d3, d4, d5⟩ := cells6v (heap_alloc_new wr (.cells #[.int .i64 id9, .int .i64 cn, .slice za nz zc, .slice oa ko oc, .slice va9 kv vc9, .int .i64 cf] 86))
    go_wp2_with fail
    clear c0 c1 c2 c3 c4 c5 d0 d1 d2 d3 d4 d5
    generalize (wr.alloc (.cells #[.int .i64 id9, .int .i64 cn, .slice za nz zc, .slice oa ko oc, .slice va9 kv vc9, .int .i64 cf] 86)) = W2 at *
    refine (CI.out W2).mono ?_
    rintro e w3 ⟨rfl, hb3⟩
    have D3 := hdn (D2.out.below hb3)
    obtain ⟨k0, k1, k2, k3, k4⟩ := cells5 D3.out.s
    clear hb3 D2 A2 CI
    go_wp2_with fail
    refine (LI.out w3).mono ?_
    rintro e w4 ⟨rfl, hw4⟩
    subst hw4
    clear LI
    cases st
    · have hr := TNI.out rfl
      subst hr
      go_wp2
      go_ret
      exact ⟨rfl, D3.out.b⟩
    · have HK1 := hdn (TYI.out rfl)
      clear TNI TYI HKT
      go_wp2
      first
       | exact ⟨⟨i + 1, id9, by omega, by first | rfl | go_num, rfl, HPN.out, HK1.out, D3.out⟩, by simp [intOf]; omega⟩
       | (go_roundw
          case rel => exact ⟨i + 1, id9, by omega, by first | rfl | go_num, rfl, HPN.out, HK1.out, D3.out⟩
          case measure => simp [intOf]; omega)
  · have hin : ¬ ((i : Int) < n) := by omega
    have hkn : i = n := by omega
    subst hkn
    have HF := hdn (TYES.out (by omega) HKT.out)
    go_wp2
    go_ret
    exact ⟨by rw [HF.out]; rfl, B1.out.b⟩
set_option maxHeartbeats 1000000 in
theorem vnId_any (x : VN) (w : World) : Calls Tryz.prog 131 #[.agg #[.int .i64 x.id, .int .i64 x.sn, .slice x.ra x.R.length x.rc, .slice x.la x.L.length x.lc]] w fun e w' => e = .returned (.int .i64 x.id) /\ Below w.heap.size w w' := by
 obtain ⟨id9, sn9, R, L, ra, la, rc, lc⟩ := x
 simp only
 generalize R.length = nr at *
 generalize L.length = nl at *
 have B0 := hdn ((Below.refl w.heap.size w).alloc (Nat.le_refl _) (.cells #[.int .i64 id9, .int .i64 sn9, .slice ra nr rc, .slice la nl lc] 70))
 obtain ⟨d0, d1, d2, d3⟩ := cells4v (heap_alloc_new w (.cells #[.int .i64 id9, .int .i64 sn9, .slice ra nr rc, .slice la nl lc] 70))
 go_enter Tryz.func131, Tryz.ntmps131
 go_wp2
 go_ret
 exact ⟨rfl, B0.out⟩
set_option maxHeartbeats 2000000 in
theorem keptVers_any (X : List VN) (nx pub : Int) (nb : ByteArray) (sa va a : Option Addr) (nS sc nV vc c : Nat) (w : World) (hA : VersAt w a X) (hn : X.length <= 1048576) (hx1 : 1 <= nx) (hx2 : nx <= 1000000000) :
 Calls Tryz.prog 130 #[.agg #[.string nb, .int .i64 nx, .slice sa nS sc, .slice va nV vc, .int .i64 pub], .slice a X.length c, .func (.func 131) #[] #[]] w fun e w' => e = .returned (.bool (rowB9 nx (X.map VN.id))) /\ Below w.heap.size w w' := by
 obtain ⟨r, HR⟩ := nmd (rowB9 nx (X.map VN.id))
 rw [HR.out]
 have HA := hdn hA
 have TNO : Hid (∀ i, i < X.length -> stepK nx (X.map VN.id) i = false -> r = false) := fun i hi h => HR.out.symm.trans (rowB9_no (by rw [List.length_map]; exact hi) h)
 have TYES : Hid (X.length <= 8 -> kTo nx (X.map VN.id) X.length = true -> r = true) := fun h1 h2 => HR.out.symm.trans (rowB9_yes (by rw [List.length_map]; exact h1) (by rw [List.length_map]; exact h2))
 have TLONG : Hid (8 < X.length -> r = false) := fun h => HR.out.symm.trans (rowB9_long (by rw [List.length_map]; exact h))
 clear hA HR
 obtain ⟨n, HN⟩ := nmd X.length
 rw [HN.out] at TLONG TYES hn ⊢
 have B0 := hdn (B1x.new 36 w #[.string nb, .int .i64 nx, .slice sa nS sc, .slice va nV vc, .int .i64 pub])
 by_cases h8 : 8 < n
 · have h8' : (8 : Int) < n := by omega
   have hr := TLONG.out h8
   subst hr
   go_enter Tryz.func130, Tryz.ntmps130
   go_wp2
   go_ret
   exact ⟨rfl, B0.out.b⟩
 have h8' : ¬ ((8 : Int) < n) := by omega
 obtain ⟨m, HM⟩ := nmd (nx - 1)
 have hm : nx - 1 = m := HM.out
 have hwm : IntKind.i64.wrap (nx - 1) = m := by rw [hm]; exact IntWalk.i64_in _ (by omega)
 clear TLONG
 go_enter Tryz.func130, Tryz.ntmps130
 go_wp2_with fail
 go_loopw [7, 16] (fun tl ti wr => ∃ (i : Nat) (l : Int), i <= n /\ ti = .int .i64 i /\ tl = .int .i64 l /\ Hid (prevI (X.map VN.id) i = l) /\ kTo nx (X.map VN.id) i = true /\ B1x 36 w wr #[.string nb, .int .i64 nx, .slice sa nS sc, .slice va nV vc, .int .i64 pub]) (fun _ ti _ => n - (intOf ti).toNat)
 case atStart => exact ⟨0, 0, Nat.zero_le _, rfl, rfl, rfl, rfl, B0.out⟩
 case round =>
  obtain ⟨i, l, hi, rfl, rfl, HL, hkt, hb⟩ := hrel
  have B1 := hdn hb
  have hlb := kTo_prev hkt
  have HSTP := hdn (stepK_prev hkt)
  rw [HL.out] at hlb HSTP
  obtain ⟨hl0, hl1⟩ := hlb
  have HKT := hdn hkt
  clear hb hkt B0
  by_cases hlt : i < n
  · have hin : (i : Int) < n := by omega
    have hiX : i < X.length := by rw [HN.out]; exact hlt
    obtain ⟨b, off, e, c0, c1, c2, c3⟩ := (HA.out.below B1.out.b).at hiX
    subst e
    have hl9 : l <= 1000000000 := by
     by_cases h0 : i = 0
     · subst h0; have := HL.out; simp [prevI] at this; omega
     · have := hl1 (by omega); omega
    have TNI := hdn (TNO.out i hiX)
    have TYI : Hid (stepK nx (X.map VN.id) i = true -> kTo nx (X.map VN.id) (i + 1) = true) := fun h => by show (kTo _ _ _ && _) = true; rw [HKT.out, h]; rfl
    have HPN : Hid (prevI (X.map VN.id) (i + 1) = X[i].id) := by show _ = _; unfold prevI; rw [if_neg (Nat.succ_ne_zero i), Nat.add_sub_cancel, getD_map hiX]
    have hgd := getD_map (f := VN.id) hiX
    rw [hgd, hm] at HSTP
    have LI : Hid (∀ W, Calls Tryz.prog 81 #[.int .i64 X[i].id, .int .i64 (l + 1), .int .i64 m] W fun e w' => e = .returned (.bool (stepK nx (X.map VN.id) i)) /\ w' = W) := fun W => by
     have := within_any X[i].id (l + 1) m W
     rw [<- HSTP.out] at this
     exact this
    have CI : Hid (∀ W, Calls Tryz.prog 131 #[.agg _] W fun e w' => e = .returned (.int .i64 X[i].id) /\ Below W.heap.size W w') := fun W => vnId_any X[i] W
    generalize hst : stepK nx (X.map VN.id) i = st at TNI TYI LI
    clear hst hgd HSTP HL hl1
    generalize X[i] = x at *
    obtain ⟨id9, sn9, R, L, ra, la, rc, lc⟩ := x
    simp only at c0 c1 c2 c3 CI LI HPN
    generalize R.length = nr at *
    generalize L.length = nl at *
    obtain ⟨l1, HL1⟩ := nmd (l + 1)
    have hl1e := HL1.out
    have hwl : IntKind.i64.wrap (l + 1) = l1 := by rw [hl1e]; exact IntWalk.i64_in _ (by omega)
    rw [hl1e] at LI
    have A2 := hdn ((Below.refl wr.heap.size wr).alloc (Nat.le_refl _) (.cells #[.int .i64 id9, .int .i64 sn9, .slice ra nr rc, .slice la nl lc] 70))
    have D2 := hdn (B1.out.below A2.out)
    obtain ⟨d0, d1, d2, d3⟩ := cells4v (heap_alloc_new wr (.cells #[.int .i64 id9, .int .i64 sn9, .slice ra nr rc, .slice la nl lc] 70))
    go_wp2_with fail
    clear c0 c1 c2 c3 d0 d1 d2 d3
    generalize (wr.alloc (.cells #[.int .i64 id9, .int .i64 sn9, .slice ra nr rc, .slice la nl lc] 70)) = W2 at *
    refine (CI.out W2).mono ?_
    rintro e w3 ⟨rfl, hb3⟩
    have D3 := hdn (D2.out.below hb3)
    obtain ⟨k0, k1, k2, k3, k4⟩ := cells5 D3.out.s
    clear hb3 D2 A2 CI
    go_wp2_with fail
    refine (LI.out w3).mono ?_
    rintro e w4 ⟨rfl, hw4⟩
    subst hw4
    clear LI
    cases st
    · have hr := TNI.out rfl
      subst hr
      go_wp2
      go_ret
      exact ⟨rfl, D3.out.b⟩
    · have HK1 := hdn (TYI.out rfl)
      clear TNI TYI HKT
      go_wp2
      first
       | exact ⟨⟨i + 1, id9, by omega, by first | rfl | go_num, rfl, HPN.out, HK1.out, D3.out⟩, by simp [intOf]; omega⟩
       | (go_roundw
          case rel => exact ⟨i + 1, id9, by omega, by first | rfl | go_num, rfl, HPN.out, HK1.out, D3.out⟩
          case measure => simp [intOf]; omega)
  · have hin : ¬ ((i : Int) < n) := by omega
    have hkn : i = n := by omega
    subst hkn
    have HF := hdn (TYES.out (by omega) HKT.out)
    go_wp2
    go_ret
    exact ⟨by rw [HF.out]; rfl, B1.out.b⟩
set_option maxRecDepth 20000 in
set_option maxHeartbeats 4000000 in
theorem snapsOk_any (t : TN) (w : World) (hA : TNAt w t) (ho : TNOk 1048576 t) (hx1 : 1 <= t.nx) (hx2 : t.nx <= 1000000000) :
 Calls Tryz.prog 82 #[.agg #[.string (txt t.nm), .int .i64 t.nx, .slice t.sa t.S.length t.sc, .slice t.va t.V.length t.vc, .int .i64 t.pub]] w fun e w' => e = .returned (.bool (snapsB t)) /\ Below w.heap.size w w' := by
 obtain ⟨r, HR⟩ := nmd (snapsB t)
 rw [HR.out]
 obtain ⟨nm, nx, S, V, pub, sa, va, sc, vc⟩ := t
 have HA := hdn hA.s
 have HO := hdn ho.os
 have hnS := ho.s
 have HRX : Hid (r = (rowB9 nx (S.map SN.id) && allB sOk S S.length)) := HR.out.symm
 simp only at HA HO hnS hx1 hx2 ⊢
 clear hA ho HR
 generalize txt nm = nb at *
 generalize V.length = nV at *
 have CK := fun W (h : SnapsAt W sa S) => keptSnap_any S nx pub nb sa va sa S.length sc nV vc sc W h hnS hx1 hx2
 obtain ⟨nS, HNS⟩ := nmd S.length
 rw [HNS.out] at HRX CK hnS ⊢
 have TNC : Hid (∀ i (hi : i < S.length), sOk S[i] = false -> r = false) := fun i hi h => by rw [HRX.out, <- HNS.out, allB_no hi h _ hi, Bool.and_false]
 generalize rowB9 nx (S.map SN.id) = rb at *
 have HCK := hdn CK
 clear CK
 have B0 := hdn (B1x.new 36 w #[.string nb, .int .i64 nx, .slice sa nS sc, .slice va nV vc, .int .i64 pub])
 obtain ⟨q0, q1, q2, q3, q4⟩ := cells5 B0.out.s
 go_enter Tryz.func82, Tryz.ntmps82
 go_wp2_with fail
 clear q0 q1 q2 q3 q4
 refine (HCK.out _ (HA.out.below B0.out.b)).mono ?_
 rintro e w1 ⟨rfl, hb⟩
 have B1 := hdn (B0.out.below hb)
 clear hb B0 HCK
 obtain ⟨q0, q1, q2, q3, q4⟩ := cells5 B1.out.s
 cases rb
 · have HF : Hid (r = false) := by show _ = _; rw [HRX.out]; rfl
   go_wp2
   go_ret
   exact ⟨by rw [HF.out]; rfl, B1.out.b⟩
 have HR2 : Hid (r = allB sOk S nS) := by show _ = _; rw [HRX.out]; rfl
 clear HRX
 go_wp2_with fail
 clear q0 q1 q2 q3 q4
 go_loopw [13] (fun ti wr => ∃ i : Nat, i <= nS /\ ti = .int .i64 i /\ allB sOk S i = true /\ B1x 36 w wr #[.string nb, .int .i64 nx, .slice sa nS sc, .slice va nV vc, .int .i64 pub]) (fun ti _ => nS - (intOf ti).toNat)
 case atStart => exact ⟨0, Nat.zero_le _, rfl, rfl, B1.out⟩
 case round =>
  obtain ⟨i, hi, rfl, hall, hb⟩ := hrel
  have D1 := hdn hb
  have HALL := hdn hall
  clear hb hall B1
  by_cases hlt : i < nS
  · have hin : (i : Int) < nS := by omega
    have hiX : i < S.length := by rw [HNS.out]; exact hlt
    obtain ⟨b, off, e, c0, c1, c2, c3, c4, c5⟩ := (HA.out.below D1.out.b).at hiX
    subst e
    have hE := HO.out _ (List.getElem_mem hiX)
    have hEA := (HA.out.below D1.out.b).2 _ (List.getElem_mem hiX)
    have TNI := hdn (TNC.out i hiX)
    have TYI : Hid (sOk S[i] = true -> allB sOk S (i + 1) = true) := fun h => allB_succ hiX HALL.out h
    have CO : Hid (∀ W, Below wr.heap.size wr W -> Calls Tryz.prog 107 #[.agg #[.int .i64 S[i].c.n, .slice S[i].za S[i].c.zs.length S[i].zc, .slice S[i].oa S[i].c.ko S[i].oc, .slice S[i].va S[i].c.kv S[i].vc, .int .i64 S[i].c.f]] W fun e w' => e = .returned (.bool (sOk S[i])) /\ Below W.heap.size W w') := fun W hb => implCase_any _ _ _ _ _ _ _ _ _ _ _ _ _ W (hEA.below hb).z (hEA.below hb).o (hEA.below hb).v hE.o hE.v (by have := hE.om; omega) (by have := hE.vm; omega)
    clear hE hEA TNC
    generalize S[i] = x at *
    generalize hs : sOk x = sb at CO TNI TYI
    clear hs
    obtain ⟨id9, ⟨cn, cf, zs, os, vs, ko, kv⟩, za, oa, va9, zc, oc, vc9⟩ := x
    simp only at c0 c1 c2 c3 c4 c5 CO
    generalize zs.length = nz at *
    have A2 := hdn ((Below.refl wr.heap.size wr).alloc (Nat.le_refl _) (.cells #[.int .i64 id9, .int .i64 cn, .slice za nz zc, .slice oa ko oc, .slice va9 kv vc9, .int .i64 cf] 86))
    have D2 := hdn (D1.out.below A2.out)
    obtain ⟨d0, d1, d2, d3, d4, d5⟩ := cells6v (heap_alloc_new wr (.cells #[.int .i64 id9, .int .i64 cn, .slice za nz zc, .slice oa ko oc, .slice va9 kv vc9, .int .i64 cf] 86))
    go_wp2_with fail
    clear c0 c1 c2 c3 c4 c5 d0 d1 d2 d3 d4 d5
    refine (CO.out _ A2.out).mono ?_
    rintro e w3 ⟨rfl, hb3⟩
    have D3 := hdn (D2.out.below hb3)
    clear hb3 D2 A2 CO
    cases sb
    · have hr := TNI.out rfl
      subst hr
      go_wp2
      go_ret
      exact ⟨rfl, D3.out.b⟩
    · have HK1 := hdn (TYI.out rfl)
      clear TNI TYI
      go_wp2
      first
       | exact ⟨⟨i + 1, by omega, by first | rfl | go_num, HK1.out, D3.out⟩, by simp [intOf]; omega⟩
       | (go_roundw
          case rel => exact ⟨i + 1, by omega, by first | rfl | go_num, HK1.out, D3.out⟩
          case measure => simp [intOf]; omega)
  · have hin : ¬ ((i : Int) < nS) := by omega
    have hkn : i = nS := by omega
    subst hkn
    have HF := hdn (HR2.out.trans HALL.out)
    go_wp2
    go_ret
    exact ⟨by rw [HF.out]; rfl, D1.out.b⟩
theorem find_ok {S : List SN} {id : Int} {s : SN} (h : findS S id = some s) : s ∈ S := List.mem_of_find?_eq_some h
set_option maxRecDepth 20000 in
set_option maxHeartbeats 4000000 in
theorem versionsOk_any (t : TN) (w : World) (hA : TNAt w t) (ho : TNOk 1048576 t) (hsm : t.small) (hrm : t.room) (hx1 : 1 <= t.nx) (hx2 : t.nx <= 1000000000) (hs : snapsB t = true) (hG : GS w) :
 Calls Tryz.prog 83 #[.agg #[.string (txt t.nm), .int .i64 t.nx, .slice t.sa t.S.length t.sc, .slice t.va t.V.length t.vc, .int .i64 t.pub]] w fun e w' => e = .returned (.bool (versB t)) /\ Below w.heap.size w w' := by
 obtain ⟨r, HR⟩ := nmd (versB t)
 rw [HR.out]
 have HFN := hdn (fun (id : Int) W (h : TNAt W t) (hg : GS W) => findSnap_any t id W h ho.s hg)
 have HA := hdn hA
 have HO := hdn ho
 have HSM := hdn hsm
 have HRM := hdn hrm
 have HG := hdn hG
 have HSO : Hid (∀ s ∈ t.S, s.c.ok = true) := fun s hs2 => by
  unfold snapsB at hs
  rw [Bool.and_eq_true] at hs
  obtain ⟨i, hi, rfl⟩ := List.getElem_of_mem hs2
  exact allB_mem hs.2 i hi hi
 obtain ⟨nm, nx, S, V, pub, sa, va, sc, vc⟩ := t
 have HRX : Hid (r = (rowB9 nx (V.map VN.id) && allB (vOk S) V V.length)) := HR.out.symm
 have hnV := ho.v
 simp only at HFN HSO hnV hx1 hx2 ⊢
 clear hA ho hsm hrm hG HR hs
 generalize txt nm = nb at *
 have CK := fun W (h : VersAt W va V) => keptVers_any V nx pub nb sa va va S.length sc V.length vc vc W h hnV hx1 hx2
 obtain ⟨nS, HNS⟩ := nmd S.length
 obtain ⟨nV, HNV⟩ := nmd V.length
 rw [HNS.out] at HFN CK ⊢
 rw [HNV.out] at HRX CK HFN hnV ⊢
 have TNC : Hid (∀ i (hi : i < V.length), vOk S V[i] = false -> r = false) := fun i hi h => by rw [HRX.out, <- HNV.out, allB_no hi h _ hi, Bool.and_false]
 generalize rowB9 nx (V.map VN.id) = rb at *
 have HCK := hdn CK
 clear CK
 have B0 := hdn (B1x.new 36 w #[.string nb, .int .i64 nx, .slice sa nS sc, .slice va nV vc, .int .i64 pub])
 obtain ⟨q0, q1, q2, q3, q4⟩ := cells5 B0.out.s
 go_enter Tryz.func83, Tryz.ntmps83
 go_wp2_with fail
 clear q0 q1 q2 q3 q4
 refine (HCK.out _ (HA.out.v.below B0.out.b)).mono ?_
 rintro e w1 ⟨rfl, hb⟩
 have B1 := hdn (B0.out.below hb)
 clear hb B0 HCK
 obtain ⟨q0, q1, q2, q3, q4⟩ := cells5 B1.out.s
 cases rb
 · have HF : Hid (r = false) := by show _ = _; rw [HRX.out]; rfl
   go_wp2
   go_ret
   exact ⟨by rw [HF.out]; rfl, B1.out.b⟩
 have HR2 : Hid (r = allB (vOk S) V nV) := by show _ = _; rw [HRX.out]; rfl
 clear HRX
 go_wp2_with fail
 clear q0 q1 q2 q3 q4
 go_loopw [15] (fun ti wr => ∃ i : Nat, i <= nV /\ ti = .int .i64 i /\ allB (vOk S) V i = true /\ B1x 36 w wr #[.string nb, .int .i64 nx, .slice sa nS sc, .slice va nV vc, .int .i64 pub]) (fun ti _ => nV - (intOf ti).toNat)
 case atStart => exact ⟨0, Nat.zero_le _, rfl, rfl, B1.out⟩
 case round =>
  obtain ⟨i, hi, rfl, hall, hb⟩ := hrel
  have D1 := hdn hb
  have HALL := hdn hall
  clear hb hall B1
  by_cases hlt : i < nV
  · have hin : (i : Int) < nV := by omega
    have hiX : i < V.length := by rw [HNV.out]; exact hlt
    obtain ⟨b, off, e, c0, c1, c2, c3⟩ := (HA.out.v.below D1.out.b).at hiX
    subst e
    have HEV := hdn (HO.out.ov _ (List.getElem_mem hiX))
    have HEA := hdn ((HA.out.v.below D1.out.b).2 _ (List.getElem_mem hiX))
    have HAL := hdn (HSM.out _ (List.getElem_mem hiX))
    have HRO := hdn (HRM.out.1 _ (List.getElem_mem hiX))
    have TNI := hdn (TNC.out i hiX)
    have TYI : Hid (vOk S V[i] = true -> allB (vOk S) V (i + 1) = true) := fun h => allB_succ hiX HALL.out h
    generalize hx : V[i] = x at *
    clear hx
    have CP : Hid (∀ (s : SN) W, Below wr.heap.size wr W -> s ∈ S -> Calls Tryz.prog 132 #[.agg #[.int .i64 s.c.n, .slice s.za s.c.zs.length s.zc, .slice s.oa s.c.ko s.oc, .slice s.va s.c.kv s.vc, .int .i64 s.c.f], .agg #[.slice x.ra x.R.length x.rc, .slice x.la x.L.length x.lc]] W fun e w' => e = .returned (.int .i64 (planV s.c.n s.c.zs s.c.os s.c.vs s.c.ko s.c.kv s.c.f x.R x.L)) /\ Below W.heap.size W w') := fun s W hb hs => by
     have h1 := ((HA.out.s.below D1.out.b).2 _ hs).below hb
     have h2 := HO.out.os _ hs
     have h3 := HEA.out.below hb
     exact planCode_any _ _ _ _ _ _ _ _ _ _ _ _ _ _ _ _ _ _ _ W h1.z h1.o h1.v h3.r h3.l h2.o h2.v (by have := h2.om; omega) (by have := h2.vm; omega) HEV.out.n HEV.out.i (fun r hr => (HRO.out r hr).1) HEV.out.l HAL.out HEV.out.w (HSO.out s hs)
    clear HEV HEA HAL HRO TNC
    obtain ⟨id9, sn9, R, L, ra, la, rc, lc⟩ := x
    simp only at c0 c1 c2 c3 CP
    obtain ⟨nr, HNR⟩ := nmd R.length
    obtain ⟨nl, HNL⟩ := nmd L.length
    rw [HNR.out] at c2 CP
    rw [HNL.out] at c3 CP
    have A2 := hdn ((Below.refl wr.heap.size wr).alloc (Nat.le_refl _) (.cells #[.int .i64 id9, .int .i64 sn9, .slice ra nr rc, .slice la nl lc] 70))
    have X2 : Hid ((wr.alloc (.cells #[.int .i64 id9, .int .i64 sn9, .slice ra nr rc, .slice la nl lc] 70)).heap[wr.heap.size]? = some (.cells #[.int .i64 id9, .int .i64 sn9, .slice ra nr rc, .slice la nl lc] 70 (0, 0))) := heap_alloc_new _ _
    have D2 := hdn (D1.out.below A2.out)
    obtain ⟨k0, k1, k2, k3, k4⟩ := cells5 D2.out.s
    obtain ⟨v0, v1, v2, v3⟩ := cells4v X2.out
    go_wp2_with fail
    clear k0 k1 k2 k3 k4 v0 v1 v2 v3 c0 c1 c2 c3
    generalize (wr.alloc (.cells #[.int .i64 id9, .int .i64 sn9, .slice ra nr rc, .slice la nl lc] 70)) = W2 at *
    refine (HFN.out sn9 _ (HA.out.below D2.out.b) (HG.out.below D2.out.b (Nat.le_refl _))).mono ?_
    rintro e w3 (⟨s, hf, rfl, hb3⟩ | ⟨hf, ⟨gT, gv, rfl⟩, hb3⟩)
    · have hvk := vOk_some (v := ⟨id9, sn9, R, L, ra, la, rc, lc⟩) hf
      have hmem := find_ok hf
      have CO := hdn (fun W hb => CP.out s W hb hmem)
      clear CP hmem hf
      obtain ⟨sid, ⟨cn, cf, zs, os, vs, ko, kv⟩, za, oa, va9, zc, oc, vc9⟩ := s
      simp only at CO hvk ⊢
      generalize zs.length = nz at *
      obtain ⟨pv, HPV⟩ := nmd (planV cn zs os vs ko kv cf R L)
      rw [HPV.out] at CO
      have HV0 : Hid (pv = 0 -> vOk S ⟨id9, sn9, R, L, ra, la, rc, lc⟩ = true) := fun h => by rw [hvk]; exact decide_eq_true (HPV.out.trans h)
      have HV1 : Hid (¬ (pv = 0) -> vOk S ⟨id9, sn9, R, L, ra, la, rc, lc⟩ = false) := fun h => by rw [hvk]; exact decide_eq_false (fun h2 => h (HPV.out.symm.trans h2))
      clear hvk
      have A3 := hdn (hb3.trans (((Below.refl w3.heap.size w3).alloc (Nat.le_refl _) (.cells #[.int .i64 sid, .int .i64 cn, .slice za nz zc, .slice oa ko oc, .slice va9 kv vc9, .int .i64 cf] 86)).mono hb3.size))
      obtain ⟨u0, u1, u2, u3, u4, u5⟩ := cells6v (heap_alloc_new w3 (.cells #[.int .i64 sid, .int .i64 cn, .slice za nz zc, .slice oa ko oc, .slice va9 kv vc9, .int .i64 cf] 86))
      have D3 := hdn (D2.out.below A3.out)
      obtain ⟨v0, v1, v2, v3⟩ := cells4v (below_row A3.out (row_lt X2.out) X2.out)
      go_wp2_with fail
      clear u0 u1 u2 u3 u4 u5 v0 v1 v2 v3
      refine (CO.out _ (A2.out.trans (A3.out.mono A2.out.size))).mono ?_
      rintro e w4 ⟨rfl, hb4⟩
      have D4 := hdn (D3.out.below hb4)
      clear hb4 D3 A3 hb3 X2 D2 A2 CO HFN
      by_cases hpv : pv = 0
      · have HK1 := hdn (TYI.out (HV0.out hpv))
        have hne : (pv != 0) = false := by simp [hpv]
        clear hpv HV0 HV1 TNI TYI
        go_wp2
        first
         | exact ⟨⟨i + 1, by omega, by first | rfl | go_num, HK1.out, D4.out⟩, by simp [intOf]; omega⟩
         | (go_roundw
            case rel => exact ⟨i + 1, by omega, by first | rfl | go_num, HK1.out, D4.out⟩
            case measure => simp [intOf]; omega)
      · have hr := TNI.out (HV1.out hpv)
        have hne : (pv != 0) = true := by simp [hpv]
        subst hr
        clear hpv HV0 HV1 TNI TYI
        go_wp2
        go_ret
        exact ⟨rfl, D4.out.b⟩
    · have hr := TNI.out (vOk_none (v := ⟨id9, sn9, R, L, ra, la, rc, lc⟩) hf)
      subst hr
      have A3 := hdn (hb3.trans (((Below.refl w3.heap.size w3).alloc (Nat.le_refl _) (.cells #[.int .i64 0, .int .i64 0, .slice none 0 0, .slice none 0 0, .slice none 0 0, .int .i64 0] 86)).mono hb3.size))
      have D3 := hdn (D2.out.below A3.out)
      clear hb3 CP HFN hf TNI TYI
      go_wp2
      go_ret
      exact ⟨rfl, D3.out.b⟩
  · have hin : ¬ ((i : Int) < nV) := by omega
    have hkn : i = nV := by omega
    subst hkn
    have HF := hdn (HR2.out.trans HALL.out)
    go_wp2
    go_ret
    exact ⟨by rw [HF.out]; rfl, D1.out.b⟩
set_option maxHeartbeats 4000000 in
theorem publishedOk_any (t : TN) (w : World) (hA : TNAt w t) (ho : TNOk 1048576 t) (hG : GS w) :
 Calls Tryz.prog 84 #[.agg #[.string (txt t.nm), .int .i64 t.nx, .slice t.sa t.S.length t.sc, .slice t.va t.V.length t.vc, .int .i64 t.pub]] w fun e w' => e = .returned (.bool (pubB t)) /\ Below w.heap.size w w' := by
 obtain ⟨r, HR⟩ := nmd (pubB t)
 rw [HR.out]
 have HFN := hdn (fun (id : Int) W (h : TNAt W t) (hg : GS W) => findVersion_any t id W h ho.v hg)
 have HA := hdn hA
 have HG := hdn hG
 obtain ⟨nm, nx, S, V, pub, sa, va, sc, vc⟩ := t
 have HRX : Hid (r = (decide (pub = 0) || (findV V pub).isSome)) := HR.out.symm
 simp only at HFN ⊢
 clear hA hG ho HR
 generalize txt nm = nb at *
 generalize S.length = nS at *
 generalize V.length = nV at *
 have B0 := hdn (B1x.new 36 w #[.string nb, .int .i64 nx, .slice sa nS sc, .slice va nV vc, .int .i64 pub])
 obtain ⟨q0, q1, q2, q3, q4⟩ := cells5 B0.out.s
 go_enter Tryz.func84, Tryz.ntmps84
 go_wp2_with fail
 clear q0 q1 q2 q3 q4
 refine (HFN.out pub _ (HA.out.below B0.out.b) (HG.out.below B0.out.b (Nat.le_refl _))).mono ?_
 rintro e w1 (⟨x, hf, rfl, hb⟩ | ⟨hf, ⟨gT, gv, rfl⟩, hb⟩)
 · have HF : Hid (r = true) := by show _ = _; rw [HRX.out, hf]; simp
   have D1 := hdn ((B0.out.below hb).below ((Below.refl w1.heap.size w1).alloc (Nat.le_refl _) (.cells #[.int .i64 x.id, .int .i64 x.sn, .slice x.ra x.R.length x.rc, .slice x.la x.L.length x.lc] 70)))
   clear hb B0 HFN hf HRX
   generalize x.R.length = xr at *
   generalize x.L.length = xl at *
   obtain ⟨q0, q1, q2, q3, q4⟩ := cells5 D1.out.s
   by_cases hp : pub = 0
   · have hp1 : (pub == 0) = true := by simp [hp]
     clear hp
     go_wp2
     go_ret
     exact ⟨by rw [HF.out]; rfl, D1.out.b⟩
   · have hp1 : (pub == 0) = false := by simp [hp]
     clear hp
     go_wp2
     go_ret
     exact ⟨by rw [HF.out]; rfl, D1.out.b⟩
 · have D1 := hdn ((B0.out.below hb).below ((Below.refl w1.heap.size w1).alloc (Nat.le_refl _) (.cells #[.int .i64 0, .int .i64 0, .slice none 0 0, .slice none 0 0] 70)))
   obtain ⟨q0, q1, q2, q3, q4⟩ := cells5 D1.out.s
   by_cases hp : pub = 0
   · have hp1 : (pub == 0) = true := by simp [hp]
     have HF : Hid (r = true) := by show _ = _; rw [HRX.out, hp]; simp
     clear hp hb B0 HFN hf HRX
     go_wp2
     go_ret
     exact ⟨by rw [HF.out]; rfl, D1.out.b⟩
   · have hp1 : (pub == 0) = false := by simp [hp]
     have HF : Hid (r = false) := by show _ = _; rw [HRX.out, hf]; simp [hp]
     clear hp hb B0 HFN hf HRX
     go_wp2
     go_ret
     exact ⟨by rw [HF.out]; rfl, D1.out.b⟩
theorem inB_two {n : Int} (h : inB n 1 1000000000 = true) : 1 <= n /\ n <= 1000000000 := by simpa [inB] using h
set_option maxRecDepth 20000 in
set_option maxHeartbeats 4000000 in
theorem tenantOk_any (t : TN) (w : World) (hA : TNAt w t) (ho : TNOk 1048576 t) (hsm : t.small) (hrm : t.room) (hG : GS w) :
 Calls Tryz.prog 32 #[.agg #[.string (txt t.nm), .int .i64 t.nx, .slice t.sa t.S.length t.sc, .slice t.va t.V.length t.vc, .int .i64 t.pub]] w fun e w' => e = .returned (.bool (tenB t)) /\ Below w.heap.size w w' := by
 obtain ⟨r, HR⟩ := nmd (tenB t)
 rw [HR.out]
 have HRX : Hid (r = (nmB t.nm && (inB t.nx 1 1000000000 && (snapsB t && (versB t && pubB t))))) := HR.out.symm
 have CN := hdn (fun W => isName_any t.nm W (by have := ho.n; omega))
 have CW := hdn (fun W => within_any t.nx 1 1000000000 W)
 have CS := hdn (fun (h : inB t.nx 1 1000000000 = true) W (hA : TNAt W t) => snapsOk_any t W hA ho (inB_two h).1 (inB_two h).2)
 have CV := hdn (fun (h : inB t.nx 1 1000000000 = true) (hs : snapsB t = true) W (hA : TNAt W t) (hg : GS W) => versionsOk_any t W hA ho hsm hrm (inB_two h).1 (inB_two h).2 hs hg)
 have CP := hdn (fun W (hA : TNAt W t) (hg : GS W) => publishedOk_any t W hA ho hg)
 have HA := hdn hA
 have HG := hdn hG
 clear hA ho hsm hrm hG HR
 generalize nmB t.nm = b1 at *
 generalize hb2 : inB t.nx 1 1000000000 = b2 at *
 generalize hb3 : snapsB t = b3 at *
 generalize hb4 : versB t = b4 at *
 generalize pubB t = b5 at *
 have HB2 := hdn hb2
 have HB3 := hdn hb3
 clear hb2 hb3 hb4
 obtain ⟨nm, nx, S, V, pub, sa, va, sc, vc⟩ := t
 simp only at CN CW CS CV CP ⊢
 generalize txt nm = nb at *
 generalize S.length = nS at *
 generalize V.length = nV at *
 have B0 := hdn (B1x.new 36 w #[.string nb, .int .i64 nx, .slice sa nS sc, .slice va nV vc, .int .i64 pub])
 obtain ⟨q0, q1, q2, q3, q4⟩ := cells5 B0.out.s
 go_enter Tryz.func32, Tryz.ntmps32
 go_wp2_with fail
 clear q0 q1 q2 q3 q4
 refine (CN.out _).mono ?_
 rintro e w1 ⟨rfl, hb⟩
 have B1 := hdn (B0.out.below hb)
 clear hb B0 CN
 obtain ⟨q0, q1, q2, q3, q4⟩ := cells5 B1.out.s
 cases b1
 · have HF : Hid (r = false) := by show _ = _; rw [HRX.out]; simp
   go_wp2
   go_ret
   exact ⟨by rw [HF.out]; rfl, B1.out.b⟩
 go_wp2_with fail
 refine (CW.out _).mono ?_
 rintro e w2 ⟨rfl, hw⟩
 subst hw
 clear CW
 cases b2
 · have HF : Hid (r = false) := by show _ = _; rw [HRX.out]; simp
   go_wp2
   go_ret
   exact ⟨by rw [HF.out]; rfl, B1.out.b⟩
 go_wp2_with fail
 clear q0 q1 q2 q3 q4
 refine (CS.out (by simp) _ (HA.out.below B1.out.b)).mono ?_
 rintro e w3 ⟨rfl, hb⟩
 have B3 := hdn (B1.out.below hb)
 clear hb B1 CS
 obtain ⟨q0, q1, q2, q3, q4⟩ := cells5 B3.out.s
 cases b3
 · have HF : Hid (r = false) := by show _ = _; rw [HRX.out]; simp
   go_wp2
   go_ret
   exact ⟨by rw [HF.out]; rfl, B3.out.b⟩
 go_wp2_with fail
 clear q0 q1 q2 q3 q4
 refine (CV.out (by simp) (by simp) _ (HA.out.below B3.out.b) (HG.out.below B3.out.b (Nat.le_refl _))).mono ?_
 rintro e w4 ⟨rfl, hb⟩
 have B4 := hdn (B3.out.below hb)
 clear hb B3 CV
 obtain ⟨q0, q1, q2, q3, q4⟩ := cells5 B4.out.s
 cases b4
 · have HF : Hid (r = false) := by show _ = _; rw [HRX.out]; simp
   go_wp2
   go_ret
   exact ⟨by rw [HF.out]; rfl, B4.out.b⟩
 go_wp2_with fail
 clear q0 q1 q2 q3 q4
 refine (CP.out _ (HA.out.below B4.out.b) (HG.out.below B4.out.b (Nat.le_refl _))).mono ?_
 rintro e w5 ⟨rfl, hb⟩
 have B5 := hdn (B4.out.below hb)
 clear hb B4 CP
 have HF : Hid (r = b5) := by show _ = _; rw [HRX.out]; simp
 go_wp2
 go_ret
 exact ⟨by rw [HF.out]; rfl, B5.out.b⟩
theorem txt_listS (l : List UInt8) : (txt l).toList = l := by rw [ByteArray.toList_eq]; rfl
theorem emp_ltS {l : List UInt8} (h : nmB l = true) : Op.bytesLess (ByteArray.mk #[]).toList (txt l).toList = true := by
 rw [txt_listS, show (ByteArray.mk #[]).toList = [] from txt_listS []]
 cases l with
 | nil => simp [nmB] at h
 | cons a l => rfl
def prevT (T : List TN) (i : Nat) : ByteArray := if i = 0 then ⟨#[]⟩ else txt (T.getD (i - 1) tn0).nm
theorem stepT_prev {T : List TN} {i : Nat} (hi : i < T.length) : stepT T i = (Op.bytesLess (prevT T i).toList (txt T[i].nm).toList && tenB T[i]) := by
 by_cases h0 : i = 0
 · rw [stepT_at hi h0]
   subst h0
   cases hb : tenB T[0]
   · rw [Bool.and_false]
   · have hn : nmB T[0].nm = true := by
      unfold tenB at hb
      rw [Bool.and_eq_true] at hb
      exact hb.1
     unfold prevT
     rw [if_pos rfl, emp_ltS hn]
     rfl
 · rw [stepT_in hi (by omega), Bool.and_comm]
   have e : prevT T i = txt (T[i - 1]'(by omega)).nm := by
    unfold prevT
    rw [if_neg h0, List.getD_eq_getElem?_getD, List.getElem?_eq_getElem (show i - 1 < T.length by omega)]
    rfl
   rw [e]
   rfl
set_option maxRecDepth 20000 in
set_option maxHeartbeats 4000000 in
theorem implStore_any (a : Option Addr) (c : Nat) (T : List TN) (w : World) (hA : TensAt w a T) (hT : TSm T) (hG : GS w) :
 Calls Tryz.prog 11 #[.agg #[.slice a T.length c]] w fun e w' => e = .returned (.bool (storeB T)) /\ Below w.heap.size w w' := by
 obtain ⟨r, HR⟩ := nmd (storeB T)
 rw [HR.out]
 have HA := hdn hA
 have HT := hdn hT
 have HG := hdn hG
 have TNO : Hid (∀ i, i < T.length -> stepT T i = false -> r = false) := fun i hi h => HR.out.symm.trans (storeB_no hi h)
 have TYES : Hid (T.length <= 5 -> tTo T T.length = true -> r = true) := fun h1 h2 => HR.out.symm.trans (storeB_yes h1 h2)
 have TLONG : Hid (5 < T.length -> r = false) := fun h => HR.out.symm.trans (storeB_long h)
 clear hA hT hG HR
 obtain ⟨n, HN⟩ := nmd T.length
 rw [HN.out] at TLONG TYES ⊢
 have B0 := hdn (B1x.new 29 w #[.slice a n c])
 have q0 := cell1x B0.out.s
 by_cases h5 : 5 < n
 · have h5' : (5 : Int) < n := by omega
   have hr := TLONG.out h5
   subst hr
   go_enter Tryz.func11, Tryz.ntmps11
   go_wp2
   go_ret
   exact ⟨rfl, B0.out.b⟩
 have h5' : ¬ ((5 : Int) < n) := by omega
 clear TLONG
 go_enter Tryz.func11, Tryz.ntmps11
 go_wp2_with fail
 clear q0
 go_loopw [3, 13] (fun tl ti wr => ∃ (i : Nat) (l : ByteArray), i <= n /\ ti = .int .i64 i /\ tl = .string l /\ Hid (prevT T i = l) /\ tTo T i = true /\ B1x 29 w wr #[.slice a n c]) (fun _ ti _ => n - (intOf ti).toNat)
 case atStart => exact ⟨0, ⟨#[]⟩, Nat.zero_le _, rfl, rfl, rfl, rfl, B0.out⟩
 case round =>
  obtain ⟨i, l, hi, rfl, rfl, HL, htt, hb⟩ := hrel
  have B1 := hdn hb
  have HTT := hdn htt
  clear hb htt B0
  by_cases hlt : i < n
  · have hin : (i : Int) < n := by omega
    have hiX : i < T.length := by rw [HN.out]; exact hlt
    obtain ⟨b, off, e, c0, c1, c2, c3, c4⟩ := (HA.out.below B1.out.b).at hiX
    subst e
    have hm := List.getElem_mem hiX
    have HGW := hdn (HG.out.below B1.out.b (Nat.le_refl _))
    have CT : Hid (∀ W, Below wr.heap.size wr W -> Calls Tryz.prog 32 #[.agg #[.string (txt T[i].nm), .int .i64 T[i].nx, .slice T[i].sa T[i].S.length T[i].sc, .slice T[i].va T[i].V.length T[i].vc, .int .i64 T[i].pub]] W fun e w' => e = .returned (.bool (tenB T[i])) /\ Below W.heap.size W w') := fun W hb => tenantOk_any T[i] W (((HA.out.below B1.out.b).2 _ hm).below hb) (HT.out.ok _ hm) (HT.out.sm _ hm) (HT.out.rm _ hm) (HGW.out.below hb (Nat.le_refl _))
    have TNI := hdn (TNO.out i hiX)
    have TYI : Hid (stepT T i = true -> tTo T (i + 1) = true) := fun h => by show (tTo _ _ && _) = true; rw [HTT.out, h]; rfl
    have hsp := stepT_prev hiX
    rw [HL.out] at hsp
    have HPN : Hid (prevT T (i + 1) = txt T[i].nm) := by
     show _ = _
     unfold prevT
     rw [if_neg (Nat.succ_ne_zero i), Nat.add_sub_cancel, List.getD_eq_getElem?_getD, List.getElem?_eq_getElem hiX]
     rfl
    generalize hstep : stepT T i = st at TNI TYI hsp
    clear hstep hm TNO TYES HTT HL
    generalize htb : tenB T[i] = tb at CT hsp
    clear htb
    generalize hx : T[i] = x at CT c0 c1 c2 c3 c4 hsp HPN
    clear hx
    obtain ⟨nm, nx, S, V, pub, sa, va, sc, vc⟩ := x
    simp only at CT c0 c1 c2 c3 c4 hsp HPN
    generalize txt nm = nb at *
    generalize S.length = nS at *
    generalize V.length = nV at *
    have A2 := hdn ((Below.refl wr.heap.size wr).alloc (Nat.le_refl _) (.cells #[.string nb, .int .i64 nx, .slice sa nS sc, .slice va nV vc, .int .i64 pub] 36))
    have X2 : Hid ((wr.alloc (.cells #[.string nb, .int .i64 nx, .slice sa nS sc, .slice va nV vc, .int .i64 pub] 36)).heap[wr.heap.size]? = some (.cells #[.string nb, .int .i64 nx, .slice sa nS sc, .slice va nV vc, .int .i64 pub] 36 (0, 0))) := heap_alloc_new _ _
    have D2 := hdn (B1.out.below A2.out)
    obtain ⟨d0, d1, d2, d3, d4⟩ := cells5 X2.out
    cases hlb : Op.bytesLess l.toList nb.toList
    · rw [hlb, Bool.false_and] at hsp
      have hr := TNI.out hsp
      subst hr
      have hle : (Op.bytesLess nb.toList l.toList || nb.toList == l.toList) = true := by
       cases hq : ltT nb l
       · rw [str_eq (ltT_tri hq hlb), Bool.or_true]
       · unfold ltT at hq
         rw [hq, Bool.true_or]
      clear TNI TYI hsp hlb
      go_wp2
      go_ret
      exact ⟨rfl, D2.out.b⟩
    · rw [hlb, Bool.true_and] at hsp
      subst hsp
      have hle : (Op.bytesLess nb.toList l.toList || nb.toList == l.toList) = false := by
       have h1 := ltT_asym (x := l) (y := nb) hlb
       unfold ltT at h1
       rw [h1, str_ne (fun e => ltT_ne (x := l) (y := nb) hlb e.symm)]
       rfl
      clear hlb
      go_wp2_with fail
      clear c0 c1 c2 c3 c4 d0 d1 d2 d3 d4
      refine (CT.out _ A2.out).mono ?_
      rintro e w3 ⟨rfl, hb3⟩
      have D3 := hdn (D2.out.below hb3)
      obtain ⟨d0, d1, d2, d3, d4⟩ := cells5 (below_row hb3 (row_lt X2.out) X2.out)
      clear hb3 D2 A2 CT X2
      cases st
      · have hr := TNI.out rfl
        subst hr
        clear TNI TYI
        go_wp2
        go_ret
        exact ⟨rfl, D3.out.b⟩
      · have HK1 := hdn (TYI.out rfl)
        clear TNI TYI
        go_wp2
        first
         | exact ⟨⟨i + 1, nb, by omega, by first | rfl | go_num, rfl, HPN.out, HK1.out, D3.out⟩, by simp [intOf]; omega⟩
         | (go_roundw
            case rel => exact ⟨i + 1, nb, by omega, by first | rfl | go_num, rfl, HPN.out, HK1.out, D3.out⟩
            case measure => simp [intOf]; omega)
  · have hin : ¬ ((i : Int) < n) := by omega
    have hkn : i = n := by omega
    subst hkn
    have HF := hdn (TYES.out (by omega) HTT.out)
    go_wp2
    go_ret
    exact ⟨by rw [HF.out]; rfl, B1.out.b⟩
theorem szW_small {T : List TN} (hn : T.length <= 9223372036854775807) (hok : ∀ t ∈ T, TNOk 9223372036854775807 t) (h : (useTs T : Int) <= 1048576) : T.length <= 1048576 /\ (∀ t ∈ T, TNOk 1048576 t) /\ ∀ t ∈ T, t.small := by
 unfold useTs at h
 have ht : ∀ t ∈ T, useT t <= 1048576 := fun t hm => by have := sumF9_mem useT T t hm; omega
 have hS : ∀ t ∈ T, ∀ s ∈ t.S, useS s <= 1048576 := fun t hm s hs => by
  have h1 := ht t hm
  have h2 := sumF9_mem useS t.S s hs
  unfold useT useSs at h1
  omega
 have hV : ∀ t ∈ T, ∀ v ∈ t.V, useV v <= 1048576 := fun t hm v hv => by
  have h1 := ht t hm
  have h2 := sumF9_mem useV t.V v hv
  unfold useT useVs at h1
  omega
 refine ⟨by omega, fun t hm => ⟨?_, ?_, ?_, fun s hs => ?_, fun v hv => ?_⟩, fun t hm v hv => ?_⟩
 · have := ht t hm; unfold useT at this; omega
 · have := ht t hm; unfold useT useSs at this; omega
 · have := ht t hm; unfold useT useVs at this; omega
 · have h1 := hS t hm s hs
   have h2 := (hok t hm).os s hs
   unfold useS at h1
   exact ⟨h2.o, h2.v, by omega, by omega, by omega⟩
 · have h1 := hV t hm v hv
   have h2 := (hok t hm).ov v hv
   unfold useV at h1
   refine ⟨by omega, fun r hr => ?_, by omega, h2.w⟩
   obtain ⟨j, hj, e⟩ := List.getElem_of_mem hr
   have h3 : (allTo v.R (j + 1)).length <= (allTo v.R v.R.length).length := by
    unfold allTo
    have e1 : v.R.take (j + 1) = (v.R.take v.R.length).take (j + 1) := by rw [List.take_length]
    rw [e1]
    generalize v.R.take v.R.length = Q
    have e2 : Q = Q.take (j + 1) ++ Q.drop (j + 1) := (List.take_append_drop _ _).symm
    have e3 := congrArg (fun l => (l.flatMap RT.ids).length) e2
    simp only [List.flatMap_append, List.length_append] at e3
    omega
   rw [allTo_succ hj, List.length_append, List.getD_eq_getElem?_getD, List.getElem?_eq_getElem hj] at h3
   simp only [Option.getD_some, e] at h3
   omega
 · have h1 := hV t hm v hv
   unfold useV at h1
   omega
theorem TSm.copy {S T : List TN} (hn : T.length <= 1048576) (hok : ∀ t ∈ T, TNOk 1048576 t) (hsm : ∀ t ∈ T, t.small) (hp : S.map TN.plain = T.map TN.plain) (hr : ∀ s ∈ S, TN.room s) : TSm S := by
 refine ⟨by rw [map_len hp]; exact hn, fun s hs => ?_, fun s hs => ?_, hr⟩
 · obtain ⟨t, ht, e⟩ := mem_plain hp hs
   exact (hok t ht).plain e
 · obtain ⟨t, ht, e⟩ := mem_plain hp hs
   obtain ⟨-, -, -, e4, -⟩ := TN.plain_c e
   intro v hv
   obtain ⟨u, hu, e5⟩ := mem_plain e4 hv
   obtain ⟨-, -, e6, -⟩ := VN.plain_c e5
   rw [allTo_key (RT.key_plain e6), map_len e6]
   exact hsm t ht u hu
end Go.Proofs.YtehfjfmfpdgibaaGreatDoor
