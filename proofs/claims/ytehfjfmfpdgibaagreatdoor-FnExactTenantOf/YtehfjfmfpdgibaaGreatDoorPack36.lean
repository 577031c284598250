import Derived.Test.YtehfjfmfpdgibaaGreatDoorPack2
import Derived.Test.YtehfjfmfpdgibaaGreatDoorPack5
import Derived.Test.YtehfjfmfpdgibaaGreatDoorInsKit
import Derived.Test.YtehfjfmfpdgibaaGreatDoorPack20
namespace Go.Proofs.YtehfjfmfpdgibaaGreatDoor
open Go.RowKit
def mkS : List RT -> Int -> List RT
 | [], _ => []
 | s :: S, k => ⟨k, s.a, seqL (k + 1) s.ids.length, s.c⟩ :: mkS S (k + 1 + (s.ids.length : Int))
def mkK : List RT -> Int -> Int
 | [], k => k
 | s :: S, k => mkK S (k + 1 + (s.ids.length : Int))
theorem mkS_len : ∀ (S : List RT) (k : Int), (mkS S k).length = S.length
 | [], _ => rfl
 | s :: S, k => by simp [mkS, mkS_len S]
theorem mkK_bd : ∀ (S : List RT) (k : Int), (∀ s ∈ S, s.ids.length <= 1000) -> k <= mkK S k /\ mkK S k <= k + (S.length : Int) * 1001
 | [], k, _ => by simp [mkK]
 | s :: S, k, h => by
   have h1 := mkK_bd S (k + 1 + (s.ids.length : Int)) (fun x hx => h x (List.mem_cons_of_mem _ hx))
   have h2 := h s (List.mem_cons_self ..)
   simp only [mkK, List.length_cons]
   omega
theorem rowR_setv (P Q : List RT) (s : RT) (K : Int) : (rowR (P ++ s :: Q)).set (P.length * 2) (.int .i64 K) = rowR (P ++ ⟨K, s.a, s.ids, s.c⟩ :: Q) := by
 rw [rowR_app, rowR_app, rowR_cons, rowR_cons, List.set_append_right _ _ (by rw [rowR_len]; exact Nat.le_refl _), rowR_len, Nat.sub_self]
 rfl
theorem PO.markV {w : World} {base gr n rc : Nat} {P Q : List RT} {s : RT} {ls : Value} {L : List Int} (K : Int) (h : PO w base (.slice (some ⟨gr, 0, none⟩) n rc) (P ++ s :: Q) ls L) (hn : (P ++ s :: Q).length = n) : PO (w.setCell ⟨gr, P.length * 2, none⟩ (.int .i64 K)) base (.slice (some ⟨gr, 0, none⟩) n rc) (P ++ ⟨K, s.a, s.ids, s.c⟩ :: Q) ls L := by
 have hr := h.r
 rw [hn] at hr
 obtain ⟨cur, h4, _⟩ := own_row_of hr
 refine ⟨?_, fun t ht => ?_, own_box_of h.l h4 (by decide)⟩
 · have h1 := own_putV (k := P.length * 2) (.int .i64 K) hr
   rw [rowR_setv] at h1
   have : (P ++ (⟨K, s.a, s.ids, s.c⟩ : RT) :: Q).length = n := by rw [<- hn]; simp
   rw [this]
   exact h1
 · have : ∃ t' ∈ P ++ s :: Q, t'.a = t.a /\ t'.ids = t.ids /\ t'.c = t.c := by
    rcases List.mem_append.1 ht with h5 | h5
    · exact ⟨t, List.mem_append_left _ h5, rfl, rfl, rfl⟩
    · rcases List.mem_cons.1 h5 with h6 | h6
      · exact ⟨s, by simp, by rw [h6], by rw [h6], by rw [h6]⟩
      · exact ⟨t, by simp [h6], rfl, rfl, rfl⟩
   obtain ⟨t', h5, h6, h7, h8⟩ := this
   rw [<- h6, <- h7, <- h8]
   exact own_box_of (h.s t' h5) h4 (by decide)
theorem PO.markI {w w' : World} {base g : Nat} {P Q : List RT} {s : RT} {rs : Value} {la : Option Addr} {m lc : Nat} {L : List Int} {K : Int} {cur : Array Value} (h : PO w base rs (P ++ s :: Q) (.slice la m lc) L) (hap : Apt (P ++ s :: Q) la) (hs : s.a = some ⟨g, 0, none⟩) (hrow : w.heap[g]? = some (.cells cur 2 (0, 0))) (hg : w.grownBy w' (some g)) (hr : w'.heap[g]? = some (.cells (markA cur K s.ids.length) 2 (0, 0))) : PO w' base rs (P ++ ⟨s.v, s.a, seqL K s.ids.length, s.c⟩ :: Q) (.slice la m lc) L := by
 have oth : ∀ t ∈ P ++ s :: Q, t.a ≠ s.a -> w'.ownsRow base 2 1 (.slice t.a t.ids.length t.c) t.ids.length (t.ids.map (Value.int .i64)) := fun t ht hne => by
  refine own_grown (h.s t ht) hg (fun e => hne ?_)
  rcases own_kinds (h.s t ht) with ⟨e1, _⟩ | ⟨g1, c1, e1, _, _⟩
  · rw [e1] at e; cases e
  · rw [e1] at e
    simp only [Value.slice.injEq] at e1
    simp only [Value.ownBlock, Option.some.injEq] at e
    rw [e1.1, hs, e]
 have hss := h.s s (by simp)
 rw [hs] at hss
 obtain ⟨cur2, k1, k2, k3, k4, k5⟩ := own_row_of hss
 rw [hrow] at k1
 simp only [Option.some.injEq, Obj.cells.injEq, and_true] at k1
 subst k1
 refine ⟨?_, fun t ht => ?_, ?_⟩
 · have e1 : rowR (P ++ (⟨s.v, s.a, seqL K s.ids.length, s.c⟩ : RT) :: Q) = rowR (P ++ s :: Q) := by
    rw [rowR_app, rowR_app, rowR_cons, rowR_cons]
    simp [rtCells, seqL_len]
   have e2 : (P ++ (⟨s.v, s.a, seqL K s.ids.length, s.c⟩ : RT) :: Q).length = (P ++ s :: Q).length := by simp
   rw [e1, e2]
   exact own_grown h.r hg (own_typ h.r hrow (by decide))
 · rcases List.mem_append.1 ht with h5 | h5
   · exact oth t (List.mem_append_left _ h5) (fun e => by rcases hap.head h5 with h9 | h9; rw [h9, hs] at e; cases e; exact h9 e)
   · rcases List.mem_cons.1 h5 with h6 | h6
     · rw [h6]
       simp only [seqL_len]
       rw [hs]
       refine ownV_of_cells hr (by rw [markA_size, k2]) k3 k4 k5 (by rw [List.length_map, seqL_len, Nat.mul_one]) (fun j hj => ?_)
       rw [Nat.mul_one] at hj
       rw [cell_of_row _ _ j _ _ _ hr, markA_get cur K s.ids.length (by rw [k2]; omega) j hj, List.getElem?_map, seqL_at hj]
       rfl
     · exact oth t (by simp [h6]) (fun e => by rcases hap.tail h6 with h9 | h9; rw [h9] at hs; cases hs; exact h9 e.symm)
 · refine own_grown h.l hg (fun e => ?_)
   rcases own_kinds h.l with ⟨e1, _⟩ | ⟨g1, c1, e1, _, _⟩
   · rw [e1] at e; cases e
   · simp only [Value.slice.injEq] at e1
     rw [e1.1] at e
     simp only [Value.ownBlock, Option.some.injEq] at e
     rcases hap.left (t := s) (by simp) with h9 | h9
     · rw [h9] at e1; cases e1.1
     · exact h9 (by rw [e1.1, e, hs])
theorem mkS_a : ∀ (S : List RT) (k : Int), (mkS S k).map RT.a = S.map RT.a
 | [], _ => rfl
 | s :: S, k => by simp [mkS, mkS_a S]
set_option maxHeartbeats 2000000 in
theorem markRouteS_c (ra la : Option Addr) (n rc m lc base : Nat) (k0 : Int) (S : List RT) (L : List Int) (w : World) (hP : PO w base (.slice ra n rc) S (.slice la m lc) L) (hn : S.length = n) (hap : Apt S la) (hn1 : n <= 1000) (hi : ∀ s ∈ S, s.ids.length <= 1000) (h0 : 0 <= k0) (h1 : k0 <= 1000000) (C : Nat -> Prop) (hB1 : ∀ g, ra = some ⟨g, 0, none⟩ -> C g) (hB2 : ∀ a ∈ S.map RT.a, ∀ g, a = some ⟨g, 0, none⟩ -> C g) :
 Calls Tryz.prog 53 #[.slice ra n rc, .int .i64 k0] w fun e w' => e = .returned (.int .i64 (mkK S k0)) /\ GrownBut C w w' /\ PO w' base (.slice ra n rc) (mkS S k0) (.slice la m lc) L := by
 have HP : Hid (PO w base (.slice ra n rc) S (.slice la m lc) L) := hP
 have HAP : Hid (Apt S la) := hap
 have HN : Hid (S.length = n) := hn
 have HI : Hid (∀ s ∈ S, s.ids.length <= 1000) := hi
 have HB1 : Hid (∀ g, ra = some ⟨g, 0, none⟩ -> C g) := hB1
 have HB2 : Hid (∀ a ∈ S.map RT.a, ∀ g, a = some ⟨g, 0, none⟩ -> C g) := hB2
 clear hP hap hn hi hB1 hB2
 obtain ⟨KE, HKE⟩ := nmd (mkK S k0)
 obtain ⟨SE, HSE⟩ := nmd (mkS S k0)
 rw [HKE.out, HSE.out]
 go_enter Tryz.func53, Tryz.ntmps53
 go_wp2_with fail
 go_loopw [1, 5] (fun kk t wr => ∃ (P Q : List RT) (K : Int), P.length + Q.length = n /\ t = .int .i64 (P.length : Int) /\ kk = .int .i64 K /\ 0 <= K /\ K <= k0 + (P.length : Int) * 1001 /\ PO wr base (.slice ra n rc) (P ++ Q) (.slice la m lc) L /\ (P ++ Q).map RT.a = S.map RT.a /\ (∀ s ∈ Q, s.ids.length <= 1000) /\ P ++ mkS Q K = SE /\ mkK Q K = KE /\ GrownBut C w wr ) (fun _ t _ => n - (intOf t).toNat)
 case atStart => exact ⟨[], S, k0, by simpa using HN.out, rfl, rfl, h0, by simp, HP.out, rfl, HI.out, HSE.out, HKE.out, GrownBut.of_below (Below.refl _ _)⟩
 case round =>
  clear HP
  obtain ⟨P, Q, K, hl, rfl, rfl, hK0, hK1, hp, ha, hq, hS, hKK, hG⟩ := hrel
  have HP : Hid (PO wr base (.slice ra n rc) (P ++ Q) (.slice la m lc) L) := hp
  have HA : Hid ((P ++ Q).map RT.a = S.map RT.a) := ha
  have HQ : Hid (∀ s ∈ Q, s.ids.length <= 1000) := hq
  have HS : Hid (P ++ mkS Q K = SE) := hS
  have HK : Hid (mkK Q K = KE) := hKK
  have HG : Hid (GrownBut C w wr) := hG
  obtain ⟨i, HPL⟩ := nmd P.length
  rw [HPL.out] at hl hK1 ⊢
  clear hp ha hq hS hKK hG
  cases Q with
  | nil =>
    have hiI : ¬ ((i : Int) < (n : Int)) := by simp at hl; omega
    have e1 : K = KE := HK.out
    have e2 : P = SE := by have := HS.out; simpa [mkS] using this
    subst e1 e2
    go_wp2
    go_ret
    exact ⟨rfl, HG.out, by have := HP.out; simpa using this⟩
  | cons s Q =>
    have hlt : i < n := by simp at hl; omega
    have hiI : (i : Int) < (n : Int) := by omega
    have hsl := HQ.out s (List.mem_cons_self ..)
    have hPn : (P ++ s :: Q).length = n := by rw [List.length_append, HPL.out]; exact hl
    obtain ⟨gr, e⟩ : ∃ gr, ra = some ⟨gr, 0, none⟩ := by
     have hr := HP.out.r
     rw [hPn] at hr
     rcases own_kinds hr with ⟨_, h9⟩ | ⟨g, c, e, _, _⟩
     · omega
     · simp only [Value.slice.injEq] at e
       exact ⟨g, e.1⟩
    subst e
    have hr9 := HP.out.r
    rw [hPn] at hr9
    obtain ⟨cr, hcr, hcs, hcn, -, hbg⟩ := own_row_of hr9
    obtain ⟨x1, x2⟩ := rowR_at (P ++ s :: Q) i (by rw [hPn]; exact hlt)
    have e9 : (P ++ s :: Q).getD i rt0 = s := by rw [List.getD_eq_getElem?_getD, List.getElem?_append_right (by rw [HPL.out]; exact Nat.le_refl _), HPL.out, Nat.sub_self]; rfl
    rw [e9] at x1 x2
    have y0 := (own_cellV hr9 x1).1
    have yf := fun j => frozen_of_row _ _ j _ _ hcr
    have P2 : Hid (PO (wr.setCell ⟨gr, i * 2, none⟩ (.int .i64 K)) base (.slice (some ⟨gr, 0, none⟩) n rc) (P ++ ⟨K, s.a, s.ids, s.c⟩ :: Q) (.slice la m lc) L) := by have := HP.out.markV K hPn; rw [HPL.out] at this; exact this
    have G2 : Hid (GrownBut C w (wr.setCell ⟨gr, i * 2, none⟩ (.int .i64 K))) := HG.out.trans (GrownBut.of_grown (grown_set _ _ _ _) (HB1.out gr rfl))
    have y1 : (wr.setCell ⟨gr, i * 2, none⟩ (.int .i64 K)).cell? ⟨gr, i * 2 + 1, none⟩ = some (.slice s.a s.ids.length s.c) := by
     have h5 := P2.out.r
     have h6 : (P ++ (⟨K, s.a, s.ids, s.c⟩ : RT) :: Q).length = n := by rw [<- hPn]; simp
     rw [h6] at h5
     obtain ⟨_, z2⟩ := rowR_at (P ++ (⟨K, s.a, s.ids, s.c⟩ : RT) :: Q) i (by rw [h6]; exact hlt)
     have e8 : (P ++ (⟨K, s.a, s.ids, s.c⟩ : RT) :: Q).getD i rt0 = ⟨K, s.a, s.ids, s.c⟩ := by rw [List.getD_eq_getElem?_getD, List.getElem?_append_right (by rw [HPL.out]; exact Nat.le_refl _), HPL.out, Nat.sub_self]; rfl
     rw [e8] at z2
     exact (own_cellV h5 z2).1
    have hwk : IntKind.i64.wrap (K + 1) = K + 1 := by rw [IntKind.wrap_i64]; omega
    have AP2 : Hid (Apt (P ++ ⟨K, s.a, s.ids, s.c⟩ :: Q) la) := HAP.out.keys (by have := HA.out; simpa using this)
    have HS2 : Hid (P ++ (⟨K, s.a, seqL (K + 1) s.ids.length, s.c⟩ : RT) :: mkS Q (K + 1 + (s.ids.length : Int)) = SE) := HS.out
    have HK2 : Hid (mkK Q (K + 1 + (s.ids.length : Int)) = KE) := HK.out
    have HA2 : Hid ((P ++ (⟨K, s.a, seqL (K + 1) s.ids.length, s.c⟩ : RT) :: Q).map RT.a = S.map RT.a) := by have := HA.out; show _ = _; rw [<- this]; simp
    have HQ2 : Hid (∀ t ∈ Q, t.ids.length <= 1000) := fun t ht => HQ.out t (List.mem_cons_of_mem _ ht)
    have HSA : Hid (∀ g, s.a = some ⟨g, 0, none⟩ -> C g) := fun g e => HB2.out s.a (by rw [<- HA.out]; simp) g e
    clear HP HS HK HA HQ HG hr9 x1 x2 e9
    obtain ⟨sv, sa, sids, sc⟩ := s
    simp only at hsl y0 y1 P2 AP2 HS2 HK2 HA2 HSA
    obtain ⟨sl, HSL⟩ := nmd sids.length
    rw [HSL.out] at hsl y1 HS2 HK2 HA2
    have MI : Calls Tryz.prog 54 #[.slice sa sl sc, .int .i64 (K + 1)] (wr.setCell ⟨gr, i * 2, none⟩ (.int .i64 K)) fun e w' => e = .returned (.int .i64 (K + 1 + (sl : Int))) /\ PO w' base (.slice (some ⟨gr, 0, none⟩) n rc) (P ++ ⟨K, sa, seqL (K + 1) sl, sc⟩ :: Q) (.slice la m lc) L /\ GrownBut C w w' := by
     have hs9 := P2.out.s ⟨K, sa, sids, sc⟩ (by simp)
     simp only [HSL.out] at hs9
     rcases own_kinds hs9 with ⟨e, hz⟩ | ⟨g, c, e, _, _⟩
     · subst hz
       refine (markInt64S_nil sa sc (K + 1) _).mono ?_
       rintro e w' ⟨rfl, rfl⟩
       have : sids = [] := List.length_eq_zero_iff.1 HSL.out
       subst this
       exact ⟨by simp, P2.out, G2.out⟩
     · simp only [Value.slice.injEq, true_and] at e
       obtain ⟨rfl, rfl⟩ := e
       obtain ⟨cur, k1, k2, k3, k4, k5⟩ := own_row_of hs9
       refine (markInt64S_any g sl sc (K + 1) cur _ _ k1 (by omega) (by omega) (by omega) (by omega)).mono ?_
       rintro e w' ⟨rfl, hg, hr⟩
       have PM := P2.out.markI (K := K + 1) AP2.out rfl k1 hg (by simp only [HSL.out]; exact hr)
       simp only [HSL.out] at PM
       exact ⟨rfl, PM, G2.out.trans (GrownBut.of_grown hg (HSA.out g rfl))⟩
    go_wp2_with fail
    refine MI.mono ?_
    rintro e w3 ⟨rfl, hp, hg⟩
    obtain ⟨K2, HKZ⟩ := nmd (K + 1 + (sl : Int))
    have hK2 : 0 <= K2 /\ K2 <= k0 + ((i : Int) + 1) * 1001 := by have := HKZ.out; omega
    rw [HKZ.out] at HS2 HK2 ⊢
    have P3 : Hid (PO w3 base (.slice (some ⟨gr, 0, none⟩) n rc) (P ++ ⟨K, sa, seqL (K + 1) sl, sc⟩ :: Q) (.slice la m lc) L) := hp
    have G3 : Hid (GrownBut C w w3) := hg
    clear MI hp hg P2 G2 AP2 y0 y1 yf
    go_wp2
    first
     | exact ⟨⟨P ++ [⟨K, sa, seqL (K + 1) sl, sc⟩], Q, K2, by simp; simp at hl; have := HPL.out; omega, by simp [HPL.out], rfl, hK2.1, by simp [HPL.out]; omega, by simpa using P3.out, by simpa using HA2.out, HQ2.out, by simpa using HS2.out, HK2.out, G3.out⟩, by simp [intOf]; omega⟩
     | (go_roundw
        case rel => exact ⟨P ++ [⟨K, sa, seqL (K + 1) sl, sc⟩], Q, K2, by simp; simp at hl; have := HPL.out; omega, by simp [HPL.out], rfl, hK2.1, by simp [HPL.out]; omega, by simpa using P3.out, by simpa using HA2.out, HQ2.out, by simpa using HS2.out, HK2.out, G3.out⟩
        case measure => simp [intOf]; omega)
set_option maxHeartbeats 2000000 in
theorem heldRouteS_own (ra : Option Addr) (n rc base : Nat) (k0 : Int) (S : List RT) (ls : Value) (L : List Int) (w : World) (hP : PO w base (.slice ra n rc) (mkS S k0) ls L) (hn : S.length = n) (hn1 : n <= 1000) (hi : ∀ s ∈ S, s.ids.length <= 1000) (h0 : 0 <= k0) (h1 : k0 <= 1000000) :
 Calls Tryz.prog 55 #[.slice ra n rc, .int .i64 k0] w fun e w' => e = .returned (.int .i64 (mkK S k0)) /\ w' = w := by
 have HP : Hid (PO w base (.slice ra n rc) (mkS S k0) ls L) := hP
 have HN : Hid ((mkS S k0).length = n) := by rw [mkS_len]; exact hn
 have HI : Hid (∀ s ∈ S, s.ids.length <= 1000) := hi
 have hn9 : S.length = n := hn
 clear hP hn hi
 obtain ⟨KE, HKE⟩ := nmd (mkK S k0)
 rw [HKE.out]
 go_enter Tryz.func55, Tryz.ntmps55
 go_wp2_with fail
 go_loop [1, 5] (fun kk t => ∃ (P Q : List RT) (K : Int), P.length + Q.length = n /\ t = .int .i64 (P.length : Int) /\ kk = .int .i64 K /\ 0 <= K /\ K <= k0 + (P.length : Int) * 1001 /\ (∀ s ∈ Q, s.ids.length <= 1000) /\ mkS S k0 = P ++ mkS Q K /\ mkK Q K = KE) (fun _ t => n - (intOf t).toNat)
 case atStart => exact ⟨[], S, k0, by simpa using hn9, rfl, rfl, h0, by simp, HI.out, rfl, HKE.out⟩
 case round =>
  obtain ⟨P, Q, K, hl, rfl, rfl, hK0, hK1, hq, hS, hKK⟩ := hrel
  have HQ : Hid (∀ s ∈ Q, s.ids.length <= 1000) := hq
  have HS : Hid (mkS S k0 = P ++ mkS Q K) := hS
  have HK : Hid (mkK Q K = KE) := hKK
  obtain ⟨i, HPL⟩ := nmd P.length
  rw [HPL.out] at hl hK1 ⊢
  clear hq hS hKK
  cases Q with
  | nil =>
    have hiI : ¬ ((i : Int) < (n : Int)) := by simp at hl; omega
    have e1 : K = KE := HK.out
    subst e1
    go_wp2
    go_ret
    exact ⟨rfl, rfl⟩
  | cons s Q =>
    have hlt : i < n := by simp at hl; omega
    have hiI : (i : Int) < (n : Int) := by omega
    have hsl := HQ.out s (List.mem_cons_self ..)
    have hr9 := HP.out.r
    rw [HN.out] at hr9
    obtain ⟨gr, e⟩ : ∃ gr, ra = some ⟨gr, 0, none⟩ := by
     rcases own_kinds hr9 with ⟨_, h9⟩ | ⟨g, c, e, _, _⟩
     · omega
     · simp only [Value.slice.injEq] at e
       exact ⟨g, e.1⟩
    subst e
    obtain ⟨x1, x2⟩ := rowR_at (mkS S k0) i (by rw [HN.out]; exact hlt)
    have e9 : (mkS S k0).getD i rt0 = ⟨K, s.a, seqL (K + 1) s.ids.length, s.c⟩ := by rw [HS.out, List.getD_eq_getElem?_getD, List.getElem?_append_right (by rw [HPL.out]; exact Nat.le_refl _), HPL.out, Nat.sub_self]; rfl
    have hmem : (⟨K, s.a, seqL (K + 1) s.ids.length, s.c⟩ : RT) ∈ mkS S k0 := by rw [HS.out]; simp [mkS]
    have hs9 := HP.out.s _ hmem
    rw [e9] at x1 x2
    simp only [seqL_len] at x1 x2 hs9
    have y0 := (own_cellV hr9 x1).1
    have y1 := (own_cellV hr9 x2).1
    have hwk : IntKind.i64.wrap (K + 1) = K + 1 := by rw [IntKind.wrap_i64]; omega
    have HS2 : Hid (mkS S k0 = (P ++ [⟨K, s.a, seqL (K + 1) s.ids.length, s.c⟩]) ++ mkS Q (K + 1 + (s.ids.length : Int))) := by show _ = _; rw [HS.out]; simp [mkS]
    have HK2 : Hid (mkK Q (K + 1 + (s.ids.length : Int)) = KE) := HK.out
    have HQ2 : Hid (∀ t ∈ Q, t.ids.length <= 1000) := fun t ht => HQ.out t (List.mem_cons_of_mem _ ht)
    clear HS HK HQ hr9 x1 x2 e9 hmem
    obtain ⟨sv, sa, sids, sc⟩ := s
    simp only at hsl y0 y1 HS2 HK2 hs9
    obtain ⟨sl, HSL⟩ := nmd sids.length
    rw [HSL.out] at hsl y1 HS2 HK2 hs9
    have HI9 : Calls Tryz.prog 56 #[.slice sa sl sc, .int .i64 (K + 1)] w fun e w' => e = .returned (.int .i64 (K + 1 + (sl : Int))) /\ w' = w := by
     rcases own_kinds hs9 with ⟨e, hz⟩ | ⟨g, c, e, _, _⟩
     · subst hz
       refine (heldInt64S_nil sa sc (K + 1) _).mono ?_
       rintro e w' ⟨rfl, rfl⟩
       exact ⟨by simp, rfl⟩
     · simp only [Value.slice.injEq, true_and] at e
       obtain ⟨rfl, rfl⟩ := e
       exact heldInt64S_any g sl sc (K + 1) w (fun j hj => (own_cellV hs9 (by rw [List.getElem?_map, seqL_at hj]; rfl)).1) (by omega) (by omega) (by omega)
    have hvv : (K != K) = false := by simp
    clear hs9
    go_wp2_with fail
    refine HI9.mono ?_
    rintro e w3 ⟨rfl, rfl⟩
    obtain ⟨K2, HKZ⟩ := nmd (K + 1 + (sl : Int))
    have hK2 : 0 <= K2 /\ K2 <= k0 + ((i : Int) + 1) * 1001 := by have := HKZ.out; omega
    rw [HKZ.out] at HS2 HK2 ⊢
    obtain ⟨hK20, hK21⟩ := hK2
    have hK2n : ¬ K2 < 0 := by omega
    clear HI9
    go_wp2
    go_round
    case rel => exact ⟨P ++ [⟨K, sa, seqL (K + 1) sl, sc⟩], Q, K2, by simp; simp at hl; have := HPL.out; omega, by simp [HPL.out], rfl, hK20, by simp [HPL.out]; omega, HQ2.out, HS2.out, HK2.out⟩
    case measure => simp [intOf]; omega
end Go.Proofs.YtehfjfmfpdgibaaGreatDoor
