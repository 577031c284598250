import Derived.Test.YtehfjfmfpdgibaaGreatDoorPack15
import Derived.Test.YtehfjfmfpdgibaaGreatDoorPack18
import Derived.Test.YtehfjfmfpdgibaaGreatDoorPack30
import Derived.BigQuiet
namespace Go.Proofs.YtehfjfmfpdgibaaGreatDoor
open Go.RowKit
theorem TensAt.atD {w : World} {a : Option Addr} {T : List TN} (h : TensAt w a T) {j : Nat} (hj : j < T.length) : ∃ b off, a = some ⟨b, off, none⟩ /\ w.cell? ⟨b, off + j * 5, none⟩ = some (.string (txt (T.getD j tn0).nm)) /\ w.cell? ⟨b, off + j * 5 + 1, none⟩ = some (.int .i64 (T.getD j tn0).nx) /\ w.cell? ⟨b, off + j * 5 + 2, none⟩ = some (.slice (T.getD j tn0).sa (T.getD j tn0).S.length (T.getD j tn0).sc) /\ w.cell? ⟨b, off + j * 5 + 3, none⟩ = some (.slice (T.getD j tn0).va (T.getD j tn0).V.length (T.getD j tn0).vc) /\ w.cell? ⟨b, off + j * 5 + 4, none⟩ = some (.int .i64 (T.getD j tn0).pub) := by
 rw [tn_get hj]
 exact h.at hj
theorem placeOneT_any (n nm : ByteArray) (nx pub : Int) (sa va : Option Addr) (l c l2 c2 : Nat) (w : World) : Calls Tryz.prog 87 #[.agg #[.string n, .int .i64 nx, .slice sa l c, .slice va l2 c2, .int .i64 pub], .string nm] w fun e w' => e = .returned (.int .i64 (cmpT n nm)) /\ Below w.heap.size w w' := by
 have hr : (w.alloc (.cells #[.string n, .int .i64 nx, .slice sa l c, .slice va l2 c2, .int .i64 pub] 36)).heap[w.heap.size]? = some (.cells #[.string n, .int .i64 nx, .slice sa l c, .slice va l2 c2, .int .i64 pub] 36 (0, 0)) := heap_alloc_new _ _
 obtain ⟨t0, t1, t2, t3, t4⟩ := cells5 hr
 have SC : Hid (∀ W, Calls Tryz.prog 88 #[.string n, .string nm] W fun e w' => e = .returned (.int .i64 (cmpT n nm)) /\ w' = W) := fun W => Tryz.strings_Compare n nm W
 generalize cmpT n nm = x at *
 clear hr
 go_enter Tryz.func87, Tryz.ntmps87
 go_wp2_with (go_at_call 88; refine (SC.out _).mono ?_; rintro e w' ⟨rfl, hw⟩; subst hw)
 go_ret
 exact ⟨rfl, (Below.refl _ _).alloc (Nat.le_refl _) _⟩
set_option maxHeartbeats 2000000 in
set_option maxRecDepth 20000 in
theorem searchT_any (ra : Option Addr) (rc : Nat) (S : List TN) (nm : ByteArray) (w : World) (hR : TensAt w ra S) (hn : S.length <= 1048576) (hS : RisT S) :
 Calls Tryz.prog 86 #[.slice ra S.length rc, .string nm, .func (.func 87) #[] #[]] w fun e w' => ∃ k : Nat, e = .returned (.tuple #[.int .i64 k, .bool (fndT S nm k)]) /\ AtT S nm k /\ Below w.heap.size w w' := by
 have HR : Hid (TensAt w ra S) := hR
 have HS : Hid (RisT S) := hS
 clear hR hS
 obtain ⟨n, HN⟩ : ∃ n, Hid (S.length = n) := ⟨_, rfl⟩
 rw [HN.out] at hn ⊢
 go_enter Tryz.func86, Tryz.ntmps86
 go_wp2_with fail
 go_loopw [9, 10] (fun ti tj wr => ∃ i j : Nat, i <= j /\ j <= n /\ ti = .int .i64 i /\ tj = .int .i64 j /\ Below w.heap.size w wr /\ (∀ t, t < i -> ltT (txt (S.getD t tn0).nm) nm = true) /\ (∀ t, j <= t -> t < n -> ltT (txt (S.getD t tn0).nm) nm = false)) (fun ti tj _ => (intOf tj).toNat - (intOf ti).toNat)
 case atStart => exact ⟨0, n, Nat.zero_le _, Nat.le_refl _, rfl, rfl, Below.refl _ _, fun t ht => by omega, fun t h1 h2 => by omega⟩
 case round =>
  obtain ⟨i, j, hij, hj, rfl, rfl, hb, hlo, hhi⟩ := hrel
  have HB : Hid (Below w.heap.size w wr) := hb
  have HLO : Hid (∀ t, t < i -> ltT (txt (S.getD t tn0).nm) nm = true) := hlo
  have HHI : Hid (∀ t, j <= t -> t < n -> ltT (txt (S.getD t tn0).nm) nm = false) := hhi
  clear hb hlo hhi
  by_cases hlt : i < j
  · have hiI : (i : Int) < (j : Int) := by omega
    obtain ⟨h, HH⟩ : ∃ h : Nat, Hid ((i + j) / 2 = h) := ⟨_, rfl⟩
    have hhi : i <= h := by have := HH.out; omega
    have hhj : h < j := by have := HH.out; omega
    have hm : ((i : Int) + (j : Int)) / 2 = (h : Int) := by have := HH.out; omega
    obtain ⟨b, off, e, c1, c2, c3, c4, c5⟩ := (HR.out.below HB.out).atD (j := h) (by rw [HN.out]; omega)
    subst e
    have hhn : (h : Int) < (n : Int) := by omega
    have HLT : Hid (ltT (txt (S.getD h tn0).nm) nm = true -> ∀ t, t < h + 1 -> ltT (txt (S.getD t tn0).nm) nm = true) := fun hv t ht => by
     by_cases e : t = h
     · rw [e]; exact hv
     · exact ltT_trans (risT_lt HS.out (by omega) (by rw [HN.out]; omega)) hv
    have HGE : Hid (ltT (txt (S.getD h tn0).nm) nm = false -> ∀ t, h <= t -> t < n -> ltT (txt (S.getD t tn0).nm) nm = false) := fun hv t h1 h2 => by
     by_cases e : t = h
     · rw [e]; exact hv
     · cases hq : ltT (txt (S.getD t tn0).nm) nm
       · rfl
       · rw [ltT_trans (risT_lt HS.out (show h < t by omega) (by rw [HN.out]; exact h2)) hq] at hv
         cases hv
    generalize S.getD h tn0 = x at *
    obtain ⟨xm, xx, xS, xV, xp, xsa, xva, xsc, xvc⟩ := x
    simp only at c1 c2 c3 c4 c5 HLT HGE
    generalize txt xm = xn at *
    obtain ⟨xl, HXL⟩ := nmd xS.length
    obtain ⟨xl2, HXL2⟩ := nmd xV.length
    rw [HXL.out] at c3
    rw [HXL2.out] at c4
    cases hv : ltT xn nm
    · have HL3 : Hid (∀ t, h <= t -> t < n -> ltT (txt (S.getD t tn0).nm) nm = false) := HGE.out hv
      have hd : ¬ cmpT xn nm < 0 := cmpT_ge hv
      have FO := placeOneT_any xn nm xx xp xsa xva xl xsc xl2 xvc wr
      generalize cmpT xn nm = cv at *
      clear hv HLT HGE
      go_wp2_with fail
      refine FO.mono ?_
      rintro e w2 ⟨rfl, hb⟩
      go_wp2
      go_roundw
      case rel => exact ⟨i, h, hhi, by omega, rfl, rfl, HB.out.trans (hb.mono HB.out.size), HLO.out, HL3.out⟩
      case measure => simp [intOf]; omega
    · have HL3 : Hid (∀ t, t < h + 1 -> ltT (txt (S.getD t tn0).nm) nm = true) := HLT.out hv
      have FO := placeOneT_any xn nm xx xp xsa xva xl xsc xl2 xvc wr
      rw [cmpT_lt hv] at FO
      clear hv HLT HGE
      go_wp2_with fail
      refine FO.mono ?_
      rintro e w2 ⟨rfl, hb⟩
      go_wp2
      go_roundw
      case rel => exact ⟨h + 1, j, by omega, hj, by first | rfl | go_num, rfl, HB.out.trans (hb.mono HB.out.size), HL3.out, HHI.out⟩
      case measure => simp [intOf]; omega
  · have hiI : ¬ ((i : Int) < (j : Int)) := by omega
    have hije : i = j := by omega
    subst hije
    have HAO : Hid (AtT S nm i) := ⟨by rw [HN.out]; exact hj, HLO.out, fun t h1 h2 => HHI.out t h1 (by rw [<- HN.out]; exact h2)⟩
    clear hiI hlt hij
    by_cases hin : i < n
    · have hinI : (i : Int) < (n : Int) := by omega
      have hgd : decide ((i : Int) < (n : Int)) = true := decide_eq_true hinI
      obtain ⟨b, off, e, c1, c2, c3, c4, c5⟩ := (HR.out.below HB.out).atD (j := i) (by rw [HN.out]; omega)
      subst e
      have HGE : Hid (ltT (txt (S.getD i tn0).nm) nm = false) := HHI.out i (Nat.le_refl _) hin
      obtain ⟨x, HX⟩ : ∃ x, Hid (S.getD i tn0 = x) := ⟨_, rfl⟩
      rw [HX.out] at c1 c2 c3 c4 c5 HGE
      obtain ⟨xm, xx, xS, xV, xp, xsa, xva, xsc, xvc⟩ := x
      simp only at c1 c2 c3 c4 c5 HGE
      have HFT : Hid (∀ b : Bool, decide (txt xm = nm) = b -> fndT S nm i = b) := fun b hb => by
       unfold fndT
       rw [HX.out, HN.out, <- hb]
       simp [hin]
      generalize txt xm = xn at *
      obtain ⟨xl, HXL⟩ := nmd xS.length
      obtain ⟨xl2, HXL2⟩ := nmd xV.length
      rw [HXL.out] at c3
      rw [HXL2.out] at c4
      have FO := placeOneT_any xn nm xx xp xsa xva xl xsc xl2 xvc wr
      by_cases hv : xn = nm
      · have hr : fndT S nm i = true := HFT.out _ (decide_eq_true hv)
        rw [cmpT_eq hv] at FO
        clear hv
        go_wp2_with fail
        refine FO.mono ?_
        rintro e w2 ⟨rfl, hb⟩
        go_wp2
        go_ret2
        exact ⟨i, by rw [hr]; rfl, HAO.out, HB.out.trans (hb.mono HB.out.size)⟩
      · have hr : fndT S nm i = false := HFT.out _ (decide_eq_false hv)
        rw [cmpT_gt HGE.out hv] at FO
        clear hv
        go_wp2_with fail
        refine FO.mono ?_
        rintro e w2 ⟨rfl, hb⟩
        go_wp2
        go_ret2
        exact ⟨i, by rw [hr]; rfl, HAO.out, HB.out.trans (hb.mono HB.out.size)⟩
    · have hinI : ¬ ((i : Int) < (n : Int)) := by omega
      have hgd : decide ((i : Int) < (n : Int)) = false := decide_eq_false hinI
      have hr : fndT S nm i = false := decide_eq_false (fun h => hin (by rw [<- HN.out]; exact h.1))
      go_wp2
      go_ret2
      exact ⟨i, by rw [hr]; rfl, HAO.out, HB.out⟩
set_option maxHeartbeats 2000000 in
theorem placeOf_any (a : Option Addr) (c : Nat) (T : List TN) (q : ByteArray) (w : World) (hA : TensAt w a T) (hn : T.length <= 1048576) (hS : RisT T) (hG : GSx 0 w) :
 Calls Tryz.prog 35 #[.agg #[.slice a T.length c], .string q] w fun e w' => ∃ k : Nat, AtT T q k /\ Below w.heap.size w w' /\ ((fndT T q k = true /\ e = .returned (.tuple #[.int .i64 k, .nilIface])) ∨ (fndT T q k = false /\ ∃ T9 v, e = .returned (.tuple #[.int .i64 k, .iface T9 v]))) := by
 have hb0 : Below w.heap.size w (w.alloc (.cells #[.slice a T.length c] 29)) := (Below.refl _ _).alloc (Nat.le_refl _) _
 have SA := hdn (searchT_any a c T q _ (hA.below hb0) hn hS)
 have HG := hdn (hG.below hb0 (Nat.le_refl _))
 have B0 := hdn hb0
 have hr : (w.alloc (.cells #[.slice a T.length c] 29)).heap[w.heap.size]? = some (.cells #[.slice a T.length c] 29 (0, 0)) := heap_alloc_new _ _
 have t0 : (w.alloc (.cells #[.slice a T.length c] 29)).cell? ⟨w.heap.size, 0, none⟩ = some (.slice a T.length c) := by rw [cell_of_row _ _ _ _ _ _ hr]; rfl
 obtain ⟨n, HN⟩ := nmd T.length
 clear hA hS hr hG hb0
 rw [HN.out] at SA HG B0 t0 ⊢
 go_enter Tryz.func35, Tryz.ntmps35
 go_wp2_with fail
 refine SA.out.mono ?_
 rintro e w2 ⟨k, rfl, hk, hb⟩
 have B2 := hdn (B0.out.trans (hb.mono B0.out.size))
 have HG2 := hdn (HG.out.below hb (Nat.le_refl _))
 have HK := hdn hk
 clear hk hb SA B0 HG t0
 obtain ⟨f, HF⟩ := nmd (fndT T q k)
 rw [HF.out]
 cases f
 · have hgk : 0 < w2.heap.size := by obtain ⟨_, _, hc⟩ := HG2.out; exact block_lt_of_cell hc
   obtain ⟨gT, gv, gc⟩ := HG2.out
   go_wp2_with fail
   all_goals try go_region
   all_goals try go_wp2
   all_goals go_ret2
   all_goals
    refine ⟨k, HK.out, ?_, .inr ⟨HF.out, _, _, rfl⟩⟩
    repeat (first | with_reducible exact B2.out | refine Below.drew ?_ | refine Below.setCell ?_ (by simp <;> omega) _)
 · go_wp2
   go_ret2
   exact ⟨k, HK.out, B2.out, .inl ⟨HF.out, rfl⟩⟩
end Go.Proofs.YtehfjfmfpdgibaaGreatDoor
