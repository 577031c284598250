import Derived.Test.YtehfjfmfpdgibaaGreatDoorPack6
import Derived.Test.YtehfjfmfpdgibaaGreatDoorMarkText
namespace Go.Proofs.YtehfjfmfpdgibaaGreatDoor
open Go.RowKit
theorem SRow.put {lo hi j : Nat} {v v0 : Value} {w : World} {T : TypeId} {g : Nat} {cs : List Value} (h : SRow w T g cs) (hr : lo <= g /\ g < hi) (hj : cs[j]? = some v0) (hv0 : slOf v0 = none) (hv : slOf v = none) : MK lo hi w (w.setCell ⟨g, j, none⟩ v) := by
 obtain ⟨cur, u, h1, h2, -⟩ := h.num hj hv0
 exact MK.set h1 hr h2 hv
theorem SRow.fz {w : World} {T : TypeId} {g : Nat} {cs : List Value} (h : SRow w T g cs) : ∀ i, w.frozen? ⟨g, i, none⟩ = false := by
 obtain ⟨cur, h1, -⟩ := h
 exact fun i => frozen_of_row _ _ i _ _ h1
theorem SRow.cell {w : World} {T : TypeId} {g j : Nat} {v : Value} {cs : List Value} (h : SRow w T g cs) (hj : cs[j]? = some v) (hv : slOf v = none) : ∃ u, w.cell? ⟨g, j, none⟩ = some u := by
 obtain ⟨_, u, -, -, h3⟩ := h.num hj hv
 exact ⟨u, h3⟩
theorem rowR_get (R : List RT) {i : Nat} (hi : i < R.length) : (rowR R)[i * 2]? = some (.int .i64 R[i].v) /\ (rowR R)[i * 2 + 1]? = some (.slice R[i].a R[i].ids.length R[i].c) := by
 have h := rowR_at R i hi
 have e : R.getD i rt0 = R[i] := by rw [List.getD_eq_getElem?_getD, List.getElem?_eq_getElem hi]; rfl
 rw [e] at h
 exact h
def uR (r : RT) : Nat := r.ids.length + 1
def uS (s : SN) : Nat := useS s + 1
def uV (v : VN) : Nat := sumF9 uR v.R + v.L.length + 1
def uT (t : TN) : Nat := sumF9 uS t.S + sumF9 uV t.V + 1
set_option maxRecDepth 20000 in
set_option maxHeartbeats 4000000 in
theorem mkRoutes (lo hi : Nat) (a : Option Addr) (c : Nat) (X : List RT) (k0 : Int) (w : World) (hR : IRow lo hi w 134 a (rowR X)) (hE : ∀ x ∈ X, IRow lo hi w 2 x.a (x.ids.map (Value.int .i64))) (hO : ∀ x ∈ X, x.ids.length <= 1048576) (hn : X.length <= 1048576) (h0 : 1 <= k0) (h1 : k0 <= 1000000000) (hU : sumF9 uR X <= 4000000) :
 Calls Tryz.prog 53 #[.slice a X.length c, .int .i64 k0] w fun e w' => ∃ k', e = .returned (.int .i64 k') /\ k0 <= k' /\ k' <= k0 + 20 * (sumF9 uR X : Int) /\ MK lo hi w w' := by
 obtain ⟨g, rfl, hlh, R0⟩ := hR
 have R0 := hdn R0
 have HEL : Hid (∀ {W : World}, MK lo hi w W -> ∀ x ∈ X, IRow lo hi W 2 x.a (x.ids.map (Value.int .i64))) := fun k x hx => (hE x hx).mk k
 have HOK := hdn hO
 clear hE hO
 obtain ⟨n, HN⟩ := nmd X.length
 rw [HN.out] at hn ⊢
 go_enter Tryz.func53, Tryz.ntmps53
 go_wp2_with fail
 go_loopw [1, 5] (fun tk ti wr => ∃ (i : Nat) (K : Int), i <= n /\ ti = .int .i64 i /\ tk = .int .i64 K /\ Hid (k0 <= K) /\ Hid (K <= k0 + 20 * (preF uR X i : Int)) /\ MK lo hi w wr) (fun _ ti _ => n - (intOf ti).toNat)
 case atStart => exact ⟨0, k0, Nat.zero_le _, rfl, rfl, Int.le_refl k0, by show _ <= _; rw [preF_zero]; omega, MK.refl _ _ _⟩
 case round =>
  obtain ⟨i, K, hi9, rfl, rfl, HK0, HK1, hmk⟩ := hrel
  have M1 := hdn hmk
  clear hmk
  by_cases hlt : i < n
  · have hin : (i : Int) < n := by omega
    have hiX : i < X.length := by rw [HN.out]; exact hlt
    have R1 := hdn (R0.out.mk M1.out)
    obtain ⟨p0, p1⟩ := rowR_get X hiX
    have hm := List.getElem_mem hiX
    have HE : Hid (∀ {W : World}, MK lo hi w W -> _) := fun k => HEL.out k _ hm
    have HOX := hdn (HOK.out _ hm)
    have hnx := preF_succ uR X hiX
    have hle := preF_le uR X (show i + 1 <= X.length by omega)
    have hk0 := HK0.out
    have hk1 := HK1.out
    have huf : uR X[i] = X[i].ids.length + 1 := rfl
    rw [huf] at hnx
    clear huf hm HK0 HK1
    generalize X[i] = x at *
    obtain ⟨rv, ra, ids, rc⟩ := x
    simp only at p0 p1 hnx
    have ff := R1.out.fz
    obtain ⟨u0, y0⟩ := R1.out.cell p0 rfl
    have s1 := R1.out.slice p1
    go_wp2_with fail
    clear ff y0 s1
    have q0 := hdn (SRow.put (v := .int .i64 K) R1.out hlh p0 rfl rfl)
    have r0 := hdn (SRow.mk (R1.out) q0.out)
    have M1_0 := hdn (M1.out.trans q0.out)
    refine (mkInts (HE.out M1_0.out) rfl (by omega) (by omega) HOX.out).mono ?_
    rintro e w3 ⟨rfl, m2⟩
    have M2 := hdn (M1_0.out.trans m2)
    have R2 := hdn (R0.out.mk M2.out)
    clear m2
    go_wp2
    first
     | exact ⟨⟨i + 1, _, by omega, by first | rfl | go_num, rfl, by show _ <= _; omega, by show _ <= _; rw [hnx]; omega, M2.out⟩, by simp [intOf]; omega⟩
     | (go_roundw
        case rel => exact ⟨i + 1, _, by omega, by first | rfl | go_num, rfl, by show _ <= _; omega, by show _ <= _; rw [hnx]; omega, M2.out⟩
        case measure => simp [intOf]; omega)
  · have hin : ¬ ((i : Int) < n) := by omega
    have hkn : i = n := by omega
    have hk0 := HK0.out
    have hk1 := HK1.out
    have hpa := preF_le uR X (show i <= X.length by rw [HN.out]; exact hi9)
    clear hkn
    go_wp2
    go_ret
    exact ⟨K, rfl, hk0, by omega, M1.out⟩
set_option maxRecDepth 20000 in
set_option maxHeartbeats 4000000 in
theorem mkSnaps (lo hi : Nat) (a : Option Addr) (c : Nat) (X : List SN) (k0 : Int) (w : World) (hR : IRow lo hi w 86 a (rowX snCells X)) (hE : ∀ x ∈ X, SNm lo hi w x) (hO : ∀ x ∈ X, SNOk 1048576 x) (hn : X.length <= 1048576) (h0 : 1 <= k0) (h1 : k0 <= 500000000) (hU : sumF9 uS X <= 4000000) :
 Calls Tryz.prog 40 #[.slice a X.length c, .int .i64 k0] w fun e w' => ∃ k', e = .returned (.int .i64 k') /\ k0 <= k' /\ k' <= k0 + 20 * (sumF9 uS X : Int) /\ MK lo hi w w' := by
 obtain ⟨g, rfl, hlh, R0⟩ := hR
 have R0 := hdn R0
 have HEL : Hid (∀ {W : World}, MK lo hi w W -> ∀ x ∈ X, SNm lo hi W x) := fun k x hx => (hE x hx).keep k
 have HOK := hdn hO
 clear hE hO
 obtain ⟨n, HN⟩ := nmd X.length
 rw [HN.out] at hn ⊢
 go_enter Tryz.func40, Tryz.ntmps40
 go_wp2_with fail
 go_loopw [1, 5] (fun tk ti wr => ∃ (i : Nat) (K : Int), i <= n /\ ti = .int .i64 i /\ tk = .int .i64 K /\ Hid (k0 <= K) /\ Hid (K <= k0 + 20 * (preF uS X i : Int)) /\ MK lo hi w wr) (fun _ ti _ => n - (intOf ti).toNat)
 case atStart => exact ⟨0, k0, Nat.zero_le _, rfl, rfl, Int.le_refl k0, by show _ <= _; rw [preF_zero]; omega, MK.refl _ _ _⟩
 case round =>
  obtain ⟨i, K, hi9, rfl, rfl, HK0, HK1, hmk⟩ := hrel
  have M1 := hdn hmk
  clear hmk
  by_cases hlt : i < n
  · have hin : (i : Int) < n := by omega
    have hiX : i < X.length := by rw [HN.out]; exact hlt
    have R1 := hdn (R0.out.mk M1.out)
    have p0 : (rowX snCells X)[i * 6]? = some (.int .i64 X[i].id) := rowX_at sn_len X i 0 hiX _ rfl
    have p1 : (rowX snCells X)[i * 6 + 1]? = some (.int .i64 X[i].c.n) := rowX_at sn_len X i 1 hiX _ rfl
    have p2 : (rowX snCells X)[i * 6 + 1 + 1]? = some (.slice X[i].za X[i].c.zs.length X[i].zc) := rowX_at sn_len X i 2 hiX _ rfl
    have p3 : (rowX snCells X)[i * 6 + 1 + 2]? = some (.slice X[i].oa X[i].c.ko X[i].oc) := rowX_at sn_len X i 3 hiX _ rfl
    have p4 : (rowX snCells X)[i * 6 + 1 + 3]? = some (.slice X[i].va X[i].c.kv X[i].vc) := rowX_at sn_len X i 4 hiX _ rfl
    have p5 : (rowX snCells X)[i * 6 + 1 + 4]? = some (.int .i64 X[i].c.f) := rowX_at sn_len X i 5 hiX _ rfl
    have hm := List.getElem_mem hiX
    have HE : Hid (∀ {W : World}, MK lo hi w W -> _) := fun k => HEL.out k _ hm
    have HOX := hdn (HOK.out _ hm)
    have hnx := preF_succ uS X hiX
    have hle := preF_le uS X (show i + 1 <= X.length by omega)
    have hk0 := HK0.out
    have hk1 := HK1.out
    have huf : uS X[i] = useS X[i] + 1 := rfl
    rw [huf] at hnx
    clear huf hm HK0 HK1
    generalize X[i] = x at *
    obtain ⟨id, ⟨cn, cf, zs, os, vs, ko, kv⟩, za, oa, va, zc, oc, vc⟩ := x
    simp only at p0 p1 p2 p3 p4 p5
    have hzm := HOX.out.zm
    have hom := HOX.out.om
    have hvm := HOX.out.vm
    unfold useS at hnx
    simp only at hzm hom hvm hnx
    have ff := R1.out.fz
    obtain ⟨u0, y0⟩ := R1.out.cell p0 rfl
    obtain ⟨u1, y1⟩ := R1.out.cell p1 rfl
    have s2 := R1.out.slice p2
    go_wp2_with fail
    clear ff y0 y1 s2
    have q0 := hdn (SRow.put (v := .int .i64 K) R1.out hlh p0 rfl rfl)
    have r0 := hdn (SRow.mk (R1.out) q0.out)
    have M1_0 := hdn (M1.out.trans q0.out)
    have q1 := hdn (SRow.put (v := .int .i64 (K + 1)) r0.out hlh p1 rfl rfl)
    have r1 := hdn (SRow.mk (r0.out) q1.out)
    have M1_1 := hdn (M1_0.out.trans q1.out)
    refine (mkInts (HE.out M1_1.out).z rfl (by omega) (by omega) HOX.out.zm).mono ?_
    rintro e w3 ⟨rfl, m2⟩
    have M2 := hdn (M1_1.out.trans m2)
    have R2 := hdn (R0.out.mk M2.out)
    clear m2
    have ff := R2.out.fz
    have s3 := R2.out.slice p3
    go_wp2_with fail
    clear ff  s3
    refine (mkOrders (HE.out M2.out).o HOX.out.o (by omega) (by omega) HOX.out.om).mono ?_
    rintro e w4 ⟨rfl, m3⟩
    have M3 := hdn (M2.out.trans m3)
    have R3 := hdn (R0.out.mk M3.out)
    clear m3
    have ff := R3.out.fz
    have s4 := R3.out.slice p4
    go_wp2_with fail
    clear ff  s4
    refine (mkVehicles (HE.out M3.out).v HOX.out.v (by omega) (by omega) HOX.out.vm).mono ?_
    rintro e w5 ⟨rfl, m4⟩
    have M4 := hdn (M3.out.trans m4)
    have R4 := hdn (R0.out.mk M4.out)
    clear m4
    have ff := R4.out.fz
    obtain ⟨u5, y5⟩ := R4.out.cell p5 rfl
    have q5 := fun z : Int => M4.out.trans (SRow.put (v := .int .i64 z) R4.out hlh p5 rfl rfl)
    go_wp2
    first
     | exact ⟨⟨i + 1, _, by omega, by first | rfl | go_num, rfl, by show _ <= _; omega, by show _ <= _; rw [hnx]; omega, q5 _⟩, by simp [intOf]; omega⟩
     | (go_roundw
        case rel => exact ⟨i + 1, _, by omega, by first | rfl | go_num, rfl, by show _ <= _; omega, by show _ <= _; rw [hnx]; omega, q5 _⟩
        case measure => simp [intOf]; omega)
  · have hin : ¬ ((i : Int) < n) := by omega
    have hkn : i = n := by omega
    have hk0 := HK0.out
    have hk1 := HK1.out
    have hpa := preF_le uS X (show i <= X.length by rw [HN.out]; exact hi9)
    clear hkn
    go_wp2
    go_ret
    exact ⟨K, rfl, hk0, by omega, M1.out⟩
set_option maxRecDepth 20000 in
set_option maxHeartbeats 4000000 in
theorem mkVers (lo hi : Nat) (a : Option Addr) (c : Nat) (X : List VN) (k0 : Int) (w : World) (hR : IRow lo hi w 70 a (rowX vnCells X)) (hE : ∀ x ∈ X, VNm lo hi w x) (hO : ∀ x ∈ X, VNOk 1048576 x /\ sumF9 uR x.R <= 4000000) (hn : X.length <= 1048576) (h0 : 1 <= k0) (h1 : k0 <= 500000000) (hU : sumF9 uV X <= 4000000) :
 Calls Tryz.prog 41 #[.slice a X.length c, .int .i64 k0] w fun e w' => ∃ k', e = .returned (.int .i64 k') /\ k0 <= k' /\ k' <= k0 + 20 * (sumF9 uV X : Int) /\ MK lo hi w w' := by
 obtain ⟨g, rfl, hlh, R0⟩ := hR
 have R0 := hdn R0
 have HEL : Hid (∀ {W : World}, MK lo hi w W -> ∀ x ∈ X, VNm lo hi W x) := fun k x hx => (hE x hx).keep k
 have HOK := hdn hO
 clear hE hO
 obtain ⟨n, HN⟩ := nmd X.length
 rw [HN.out] at hn ⊢
 go_enter Tryz.func41, Tryz.ntmps41
 go_wp2_with fail
 go_loopw [1, 5] (fun tk ti wr => ∃ (i : Nat) (K : Int), i <= n /\ ti = .int .i64 i /\ tk = .int .i64 K /\ Hid (k0 <= K) /\ Hid (K <= k0 + 20 * (preF uV X i : Int)) /\ MK lo hi w wr) (fun _ ti _ => n - (intOf ti).toNat)
 case atStart => exact ⟨0, k0, Nat.zero_le _, rfl, rfl, Int.le_refl k0, by show _ <= _; rw [preF_zero]; omega, MK.refl _ _ _⟩
 case round =>
  obtain ⟨i, K, hi9, rfl, rfl, HK0, HK1, hmk⟩ := hrel
  have M1 := hdn hmk
  clear hmk
  by_cases hlt : i < n
  · have hin : (i : Int) < n := by omega
    have hiX : i < X.length := by rw [HN.out]; exact hlt
    have R1 := hdn (R0.out.mk M1.out)
    have p0 : (rowX vnCells X)[i * 4]? = some (.int .i64 X[i].id) := rowX_at vn_len X i 0 hiX _ rfl
    have p1 : (rowX vnCells X)[i * 4 + 1]? = some (.int .i64 X[i].sn) := rowX_at vn_len X i 1 hiX _ rfl
    have p2 : (rowX vnCells X)[i * 4 + 2]? = some (.slice X[i].ra X[i].R.length X[i].rc) := rowX_at vn_len X i 2 hiX _ rfl
    have p3 : (rowX vnCells X)[i * 4 + 2 + 1]? = some (.slice X[i].la X[i].L.length X[i].lc) := rowX_at vn_len X i 3 hiX _ rfl
    have hm := List.getElem_mem hiX
    have HE : Hid (∀ {W : World}, MK lo hi w W -> _) := fun k => HEL.out k _ hm
    have HOX := hdn (HOK.out _ hm)
    have hnx := preF_succ uV X hiX
    have hle := preF_le uV X (show i + 1 <= X.length by omega)
    have hk0 := HK0.out
    have hk1 := HK1.out
    have huf : uV X[i] = sumF9 uR X[i].R + X[i].L.length + 1 := rfl
    rw [huf] at hnx
    clear huf hm HK0 HK1
    generalize X[i] = x at *
    obtain ⟨id, sn, R, L, ra, la, rc, lc⟩ := x
    simp only at p0 p1 p2 p3 hnx
    have hlm := HOX.out.1.l
    have hrs := HOX.out.2
    simp only at hlm hrs
    have ff := R1.out.fz
    obtain ⟨u0, y0⟩ := R1.out.cell p0 rfl
    obtain ⟨u1, y1⟩ := R1.out.cell p1 rfl
    have s2 := R1.out.slice p2
    go_wp2_with fail
    clear ff y0 y1 s2
    have q0 := hdn (SRow.put (v := .int .i64 K) R1.out hlh p0 rfl rfl)
    have r0 := hdn (SRow.mk (R1.out) q0.out)
    have M1_0 := hdn (M1.out.trans q0.out)
    have q1 := hdn (SRow.put (v := .int .i64 (K + 1)) r0.out hlh p1 rfl rfl)
    have r1 := hdn (SRow.mk (r0.out) q1.out)
    have M1_1 := hdn (M1_0.out.trans q1.out)
    refine (mkRoutes lo hi ra rc R _ _ (HE.out M1_1.out).r (HE.out M1_1.out).i HOX.out.1.i HOX.out.1.n (by omega) (by omega) HOX.out.2).mono ?_
    rintro e w3 ⟨k2, rfl, hka, hkb, m2⟩
    have M2 := hdn (M1_1.out.trans m2)
    have R2 := hdn (R0.out.mk M2.out)
    clear m2
    have ff := R2.out.fz
    have s3 := R2.out.slice p3
    go_wp2_with fail
    clear ff  s3
    refine (mkInts (HE.out M2.out).l rfl (by omega) (by omega) HOX.out.1.l).mono ?_
    rintro e w4 ⟨rfl, m3⟩
    have M3 := hdn (M2.out.trans m3)
    have R3 := hdn (R0.out.mk M3.out)
    clear m3
    go_wp2
    first
     | exact ⟨⟨i + 1, _, by omega, by first | rfl | go_num, rfl, by show _ <= _; omega, by show _ <= _; rw [hnx]; omega, M3.out⟩, by simp [intOf]; omega⟩
     | (go_roundw
        case rel => exact ⟨i + 1, _, by omega, by first | rfl | go_num, rfl, by show _ <= _; omega, by show _ <= _; rw [hnx]; omega, M3.out⟩
        case measure => simp [intOf]; omega)
  · have hin : ¬ ((i : Int) < n) := by omega
    have hkn : i = n := by omega
    have hk0 := HK0.out
    have hk1 := HK1.out
    have hpa := preF_le uV X (show i <= X.length by rw [HN.out]; exact hi9)
    clear hkn
    go_wp2
    go_ret
    exact ⟨K, rfl, hk0, by omega, M1.out⟩
set_option maxRecDepth 20000 in
set_option maxHeartbeats 4000000 in
theorem mkTens (lo hi : Nat) (a : Option Addr) (c : Nat) (X : List TN) (k0 : Int) (w : World) (hR : IRow lo hi w 36 a (rowX tnCells X)) (hE : ∀ x ∈ X, TNm lo hi w x) (hO : ∀ x ∈ X, TNOk 1048576 x /\ (sumF9 uS x.S <= 4000000 /\ sumF9 uV x.V <= 4000000 /\ ∀ v ∈ x.V, sumF9 uR v.R <= 4000000)) (hn : X.length <= 1048576) (h0 : 1 <= k0) (h1 : k0 <= 100000000) (hU : sumF9 uT X <= 4000000) :
 Calls Tryz.prog 39 #[.slice a X.length c, .int .i64 k0] w fun e w' => ∃ k', e = .returned (.int .i64 k') /\ k0 <= k' /\ k' <= k0 + 20 * (sumF9 uT X : Int) /\ MK lo hi w w' := by
 obtain ⟨g, rfl, hlh, R0⟩ := hR
 have R0 := hdn R0
 have HEL : Hid (∀ {W : World}, MK lo hi w W -> ∀ x ∈ X, TNm lo hi W x) := fun k x hx => (hE x hx).keep k
 have HOK := hdn hO
 clear hE hO
 obtain ⟨n, HN⟩ := nmd X.length
 rw [HN.out] at hn ⊢
 go_enter Tryz.func39, Tryz.ntmps39
 go_wp2_with fail
 go_loopw [1, 5] (fun tk ti wr => ∃ (i : Nat) (K : Int), i <= n /\ ti = .int .i64 i /\ tk = .int .i64 K /\ Hid (k0 <= K) /\ Hid (K <= k0 + 20 * (preF uT X i : Int)) /\ MK lo hi w wr) (fun _ ti _ => n - (intOf ti).toNat)
 case atStart => exact ⟨0, k0, Nat.zero_le _, rfl, rfl, Int.le_refl k0, by show _ <= _; rw [preF_zero]; omega, MK.refl _ _ _⟩
 case round =>
  obtain ⟨i, K, hi9, rfl, rfl, HK0, HK1, hmk⟩ := hrel
  have M1 := hdn hmk
  clear hmk
  by_cases hlt : i < n
  · have hin : (i : Int) < n := by omega
    have hiX : i < X.length := by rw [HN.out]; exact hlt
    have R1 := hdn (R0.out.mk M1.out)
    have p0 : (rowX tnCells X)[i * 5]? = some (.string (txt X[i].nm)) := rowX_at tn_len X i 0 hiX _ rfl
    have p1 : (rowX tnCells X)[i * 5 + 1]? = some (.int .i64 X[i].nx) := rowX_at tn_len X i 1 hiX _ rfl
    have p2 : (rowX tnCells X)[i * 5 + 2]? = some (.slice X[i].sa X[i].S.length X[i].sc) := rowX_at tn_len X i 2 hiX _ rfl
    have p3 : (rowX tnCells X)[i * 5 + 3]? = some (.slice X[i].va X[i].V.length X[i].vc) := rowX_at tn_len X i 3 hiX _ rfl
    have p4 : (rowX tnCells X)[i * 5 + 4]? = some (.int .i64 X[i].pub) := rowX_at tn_len X i 4 hiX _ rfl
    have hm := List.getElem_mem hiX
    have HE : Hid (∀ {W : World}, MK lo hi w W -> _) := fun k => HEL.out k _ hm
    have HOX := hdn (HOK.out _ hm)
    have hnx := preF_succ uT X hiX
    have hle := preF_le uT X (show i + 1 <= X.length by omega)
    have hk0 := HK0.out
    have hk1 := HK1.out
    have huf : uT X[i] = sumF9 uS X[i].S + sumF9 uV X[i].V + 1 := rfl
    rw [huf] at hnx
    clear huf hm HK0 HK1
    generalize X[i] = x at *
    obtain ⟨nm, nx, S, V, pub, sa, va, sc, vc⟩ := x
    simp only at p0 p1 p2 p3 p4 hnx
    obtain ⟨Kn, rfl⟩ : ∃ Kn : Nat, K = (Kn : Int) := ⟨K.toNat, by omega⟩
    go_wp2_with fail
    refine (markText_any Kn wr (by omega) (by omega)).mono ?_
    rintro e w0 ⟨rfl, hb0⟩
    have M0 := hdn (M1.out.trans (MK.below hb0))
    have R9 := hdn (R0.out.mk M0.out)
    clear hb0 R1 M1
    have ff := R9.out.fz
    obtain ⟨u0, y0⟩ := R9.out.cell p0 rfl
    obtain ⟨u1, y1⟩ := R9.out.cell p1 rfl
    have s2 := R9.out.slice p2
    go_wp2_with fail
    clear ff y0 y1 s2
    have q0 := hdn (SRow.put (v := .string (mtV Kn)) R9.out hlh p0 rfl rfl)
    have r0 := hdn (SRow.mk (R9.out) q0.out)
    have M1_0 := hdn (M0.out.trans q0.out)
    have q1 := hdn (SRow.put (v := .int .i64 ((Kn : Int) + 1)) r0.out hlh p1 rfl rfl)
    have r1 := hdn (SRow.mk (r0.out) q1.out)
    have M1_1 := hdn (M1_0.out.trans q1.out)
    refine (mkSnaps lo hi sa sc S _ _ (HE.out M1_1.out).s (HE.out M1_1.out).ss HOX.out.1.os HOX.out.1.s (by omega) (by omega) HOX.out.2.1).mono ?_
    rintro e w3 ⟨k2, rfl, hka, hkb, m2⟩
    have M2 := hdn (M1_1.out.trans m2)
    have R2 := hdn (R0.out.mk M2.out)
    clear m2
    have ff := R2.out.fz
    have s3 := R2.out.slice p3
    go_wp2_with fail
    clear ff  s3
    refine (mkVers lo hi va vc V _ _ (HE.out M2.out).v (HE.out M2.out).vs (fun v hv => ⟨HOX.out.1.ov v hv, HOX.out.2.2.2 v hv⟩) HOX.out.1.v (by omega) (by omega) HOX.out.2.2.1).mono ?_
    rintro e w4 ⟨k3, rfl, hkc, hkd, m3⟩
    have M3 := hdn (M2.out.trans m3)
    have R3 := hdn (R0.out.mk M3.out)
    clear m3
    have ff := R3.out.fz
    obtain ⟨u4, y4⟩ := R3.out.cell p4 rfl
    have q4 := fun z : Int => M3.out.trans (SRow.put (v := .int .i64 z) R3.out hlh p4 rfl rfl)
    go_wp2
    first
     | exact ⟨⟨i + 1, _, by omega, by first | rfl | go_num, rfl, by show _ <= _; omega, by show _ <= _; rw [hnx]; omega, q4 _⟩, by simp [intOf]; omega⟩
     | (go_roundw
        case rel => exact ⟨i + 1, _, by omega, by first | rfl | go_num, rfl, by show _ <= _; omega, by show _ <= _; rw [hnx]; omega, q4 _⟩
        case measure => simp [intOf]; omega)
  · have hin : ¬ ((i : Int) < n) := by omega
    have hkn : i = n := by omega
    have hk0 := HK0.out
    have hk1 := HK1.out
    have hpa := preF_le uT X (show i <= X.length by rw [HN.out]; exact hi9)
    clear hkn
    go_wp2
    go_ret
    exact ⟨K, rfl, hk0, by omega, M1.out⟩
set_option maxHeartbeats 1000000 in
theorem markStore_mk (lo hi : Nat) (a : Option Addr) (c : Nat) (X : List TN) (w : World) (hR : IRow lo hi w 36 a (rowX tnCells X)) (hE : ∀ x ∈ X, TNm lo hi w x) (hO : ∀ x ∈ X, TNOk 1048576 x /\ (sumF9 uS x.S <= 4000000 /\ sumF9 uV x.V <= 4000000 /\ ∀ v ∈ x.V, sumF9 uR v.R <= 4000000)) (hn : X.length <= 1048576) (hU : sumF9 uT X <= 4000000) :
 Calls Tryz.prog 16 #[.agg #[.slice a X.length c], .int .i64 1] w fun e w' => ∃ k', e = .returned (.int .i64 k') /\ 1 <= k' /\ MK lo hi w w' := by
 obtain ⟨g, rfl, hlh, R0⟩ := hR
 have B0 := hdn ((Below.refl w.heap.size w).alloc (Nat.le_refl _) (.cells #[.slice (some ⟨g, 0, none⟩) X.length c] 29))
 have m0 : MK lo hi w (w.alloc (.cells #[.slice (some ⟨g, 0, none⟩) X.length c] 29)) := MK.below B0.out
 have CT := mkTens lo hi (some ⟨g, 0, none⟩) c X 1 _ ⟨g, rfl, hlh, R0.mk m0⟩ (fun x hx => (hE x hx).keep m0) hO hn (by omega) (by omega) hU
 have M0 := hdn m0
 clear hE hO R0 m0
 generalize sumF9 uT X = s at *
 generalize X.length = n at *
 have c0 : (w.alloc (.cells #[.slice (some ⟨g, 0, none⟩) n c] 29)).cell? ⟨w.heap.size, 0, none⟩ = some (.slice (some ⟨g, 0, none⟩) n c) := by rw [cell_of_row _ _ _ _ _ _ (heap_alloc_new w _)]; rfl
 go_enter Tryz.func16, Tryz.ntmps16
 go_wp2_with fail
 clear c0
 refine CT.mono ?_
 rintro e w1 ⟨k', rfl, hk, -, hm⟩
 have M1 := hdn (M0.out.trans hm)
 clear hm CT
 go_wp2
 go_ret
 exact ⟨k', rfl, hk, M1.out⟩
end Go.Proofs.YtehfjfmfpdgibaaGreatDoor
