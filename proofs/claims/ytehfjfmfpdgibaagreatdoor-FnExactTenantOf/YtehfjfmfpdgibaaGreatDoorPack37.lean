import Derived.Test.YtehfjfmfpdgibaaGreatDoorPack21
import Derived.Test.YtehfjfmfpdgibaaGreatDoorPack35
import Derived.Test.YtehfjfmfpdgibaaGreatDoorPack36
namespace Go.Proofs.YtehfjfmfpdgibaaGreatDoor
open Go.RowKit
def k3S (s : SN) (k : Int) : Int := k + 1 + 1 + ((s.c.zs.length : Nat) : Int)
def k4S (s : SN) (k : Int) : Int := k3S s k + ((s.c.ko * 6 : Nat) : Int)
def k5S (s : SN) (k : Int) : Int := k4S s k + ((s.c.kv * 5 : Nat) : Int)
def mkSn (s : SN) (k : Int) : SN := ⟨k, ⟨k + 1, k5S s k, seqL (k + 1 + 1) (s.c.zs.length * 1), seqL (k3S s k) (s.c.ko * 6), seqL (k4S s k) (s.c.kv * 5), s.c.ko, s.c.kv⟩, s.za, s.oa, s.va, s.zc, s.oc, s.vc⟩
def mkSs : List SN -> Int -> List SN
 | [], _ => []
 | s :: S, k => mkSn s k :: mkSs S (k5S s k + 1)
def knSs : List SN -> Int -> Int
 | [], k => k
 | s :: S, k => knSs S (k5S s k + 1)
theorem mkSs_len : ∀ (S : List SN) (k : Int), (mkSs S k).length = S.length
 | [], _ => rfl
 | s :: S, k => by simp [mkSs, mkSs_len S]
theorem rowX_mid {α : Type} {k : Nat} {cells : α -> List Value} (hk : ∀ x, (cells x).length = k) (P : List α) (s : α) (Q : List α) {i : Nat} (hi : i < k) : (rowX cells (P ++ s :: Q))[P.length * k + i]? = (cells s)[i]? := by
 rw [rowX_app, rowX_cons, List.getElem?_append_right (by rw [rowX_len hk]; omega), rowX_len hk, Nat.add_sub_cancel_left, List.getElem?_append_left (by rw [hk]; exact hi)]
theorem rowX_setm {α : Type} {k : Nat} {cells : α -> List Value} (hk : ∀ x, (cells x).length = k) (P : List α) (s s' : α) (Q : List α) {i : Nat} {v : Value} (hi : i < k) (hc : cells s' = (cells s).set i v) : (rowX cells (P ++ s :: Q)).set (P.length * k + i) v = rowX cells (P ++ s' :: Q) := by
 rw [rowX_app, rowX_cons, rowX_app, rowX_cons, hc, List.set_append_right _ _ (by rw [rowX_len hk]; omega), rowX_len hk, Nat.add_sub_cancel_left, List.set_append_left _ _ (by rw [hk]; exact hi)]
theorem pw_swap {α : Type} {bk : α -> Nat -> Prop} {P Q : List α} {s s' : α} (hb : bk s' = bk s) (h : (P ++ s :: Q).Pairwise (fun s t => ∀ b c, bk s b -> bk t c -> b < c)) : (P ++ s' :: Q).Pairwise (fun s t => ∀ b c, bk s b -> bk t c -> b < c) := by
 simp only [List.pairwise_append, List.pairwise_cons, List.mem_cons, forall_eq_or_imp] at h ⊢
 rw [hb]
 exact h
theorem mem_swap {α : Type} {P Q : List α} {s' t : α} (ht : t ∈ P ++ s' :: Q) : t = s' ∨ t ∈ P ∨ t ∈ Q := by
 rcases List.mem_append.1 ht with h | h
 · exact .inr (.inl h)
 · rcases List.mem_cons.1 h with h | h
   · exact .inl h
   · exact .inr (.inr h)
theorem SNO.but {C : Nat -> Prop} {W W' : World} {base : Nat} {s : SN} (h : SNO W base s) (hG : GrownBut C W W') (hn : ∀ b, bkS s b -> ¬ C b) : SNO W' base s := ⟨but_own hG h.z (fun b hb => hn b (.inl hb)), but_own hG h.o (fun b hb => hn b (.inr (.inl hb))), but_own hG h.v (fun b hb => hn b (.inr (.inr hb)))⟩
theorem SO.put {W : World} {base g n c : Nat} {P Q : List SN} {s : SN} (s' : SN) {i : Nat} {v : Value} (h : SO W base (.slice (some ⟨g, 0, none⟩) n c) (P ++ s :: Q)) (hn : (P ++ s :: Q).length = n) (hi : i < 6) (hc : snCells s' = (snCells s).set i v) (hs : ∀ W, SNO W base s -> SNO W base s') (hb : bkS s' = bkS s) : SO (W.setCell ⟨g, P.length * 6 + i, none⟩ v) base (.slice (some ⟨g, 0, none⟩) n c) (P ++ s' :: Q) := by
 have hr := h.r
 rw [hn] at hr
 obtain ⟨cur, h4, _⟩ := own_row_of hr
 have hset : ∀ u, SNO W base u -> SNO (W.setCell ⟨g, P.length * 6 + i, none⟩ v) base u := fun u hu => ⟨own_box_of hu.z h4 (by decide), own_box_of hu.o h4 (by decide), own_box_of hu.v h4 (by decide)⟩
 refine ⟨?_, fun t ht => ?_, pw_swap hb h.p⟩
 · have h1 := own_putV (k := P.length * 6 + i) v hr
   rw [rowX_setm sn_len P s s' Q hi hc] at h1
   have : (P ++ s' :: Q).length = n := by rw [<- hn]; simp
   rw [this]
   exact h1
 · rcases mem_swap ht with e | h5 | h5
   · rw [e]; exact hs _ (hset _ (h.s s (by simp)))
   · exact hset _ (h.s t (by simp [h5]))
   · exact hset _ (h.s t (by simp [h5]))
theorem SO.rowC {W : World} {base g n c : Nat} {P Q : List SN} {s : SN} (h : SO W base (.slice (some ⟨g, 0, none⟩) n c) (P ++ s :: Q)) (hn : (P ++ s :: Q).length = n) {i : Nat} {v : Value} (hi : i < 6) (hv : (snCells s)[i]? = some v) : W.cell? ⟨g, P.length * 6 + i, none⟩ = some v /\ W.frozen? ⟨g, P.length * 6 + i, none⟩ = false := by
 have hr := h.r
 rw [hn] at hr
 exact own_cellV hr ((rowX_mid sn_len P s Q hi).trans hv)
theorem SO.mid {W W' : World} {base : Nat} {sl : Value} {P Q : List SN} {s : SN} (s' : SN) {C : Nat -> Prop} (h : SO W base sl (P ++ s :: Q)) (hG : GrownBut C W W') (hC : ∀ b, C b -> bkS s b) (hs : SNO W' base s') (hc : snCells s' = snCells s) (hb : bkS s' = bkS s) : SO W' base sl (P ++ s' :: Q) := by
 have hss := h.s s (by simp)
 have hp := h.p
 rw [List.pairwise_append] at hp
 refine ⟨?_, fun t ht => ?_, pw_swap hb h.p⟩
 · have e1 : rowX snCells (P ++ s' :: Q) = rowX snCells (P ++ s :: Q) := by rw [rowX_app, rowX_cons, rowX_app, rowX_cons, hc]
   have e2 : (P ++ s' :: Q).length = (P ++ s :: Q).length := by simp
   rw [e1, e2]
   refine but_own hG h.r (fun b hb2 h3 => ?_)
   rcases hC b h3 with h4 | h4 | h4
   · exact own_neK h.r hss.z (by decide) hb2 h4
   · exact own_neK h.r hss.o (by decide) hb2 h4
   · exact own_neK h.r hss.v (by decide) hb2 h4
 · rcases mem_swap ht with e | h5 | h5
   · rw [e]; exact hs
   · exact (h.s t (by simp [h5])).but hG (fun b h6 h7 => Nat.lt_irrefl _ (hp.2.2 t h5 s (by simp) b b h6 (hC b h7)))
   · exact (h.s t (by simp [h5])).but hG (fun b h6 h7 => Nat.lt_irrefl _ ((List.pairwise_cons.1 hp.2.1).1 t h5 b b (hC b h7) h6))
theorem SO.mz {W W' : World} {base : Nat} {sl : Value} {P Q : List SN} {s : SN} {X : List Int} (h : SO W base sl (P ++ s :: Q)) (hG : GrownBut (fun b => (Value.slice s.za s.c.zs.length s.zc).ownBlock = some b) W W') (hX : X.length = s.c.zs.length) (hz : W'.ownsRow base 2 1 (.slice s.za s.c.zs.length s.zc) s.c.zs.length (X.map (Value.int .i64))) : SO W' base sl (P ++ ⟨s.id, ⟨s.c.n, s.c.f, X, s.c.os, s.c.vs, s.c.ko, s.c.kv⟩, s.za, s.oa, s.va, s.zc, s.oc, s.vc⟩ :: Q) := by
 have hss := h.s s (by simp)
 refine h.mid _ hG (fun b hb => .inl hb) ⟨by simp only [hX]; exact hz, but_own hG hss.o (fun b h1 h2 => own_neK hss.o hss.z (by decide) h1 h2), but_own hG hss.v (fun b h1 h2 => own_neK hss.v hss.z (by decide) h1 h2)⟩ (by simp [snCells, hX]) ?_
 funext b
 simp [bkS, caseBl, hX]
theorem SO.mo {W W' : World} {base : Nat} {sl : Value} {P Q : List SN} {s : SN} {X : List Int} (h : SO W base sl (P ++ s :: Q)) (hG : GrownBut (fun b => (Value.slice s.oa s.c.ko s.oc).ownBlock = some b) W W') (hz : W'.ownsRow base 146 6 (.slice s.oa s.c.ko s.oc) s.c.ko (X.map (Value.int .i64))) : SO W' base sl (P ++ ⟨s.id, ⟨s.c.n, s.c.f, s.c.zs, X, s.c.vs, s.c.ko, s.c.kv⟩, s.za, s.oa, s.va, s.zc, s.oc, s.vc⟩ :: Q) := by
 have hss := h.s s (by simp)
 exact h.mid _ hG (fun b hb => .inr (.inl hb)) ⟨but_own hG hss.z (fun b h1 h2 => own_neK hss.z hss.o (by decide) h1 h2), hz, but_own hG hss.v (fun b h1 h2 => own_neK hss.v hss.o (by decide) h1 h2)⟩ rfl rfl
theorem SO.mv {W W' : World} {base : Nat} {sl : Value} {P Q : List SN} {s : SN} {X : List Int} (h : SO W base sl (P ++ s :: Q)) (hG : GrownBut (fun b => (Value.slice s.va s.c.kv s.vc).ownBlock = some b) W W') (hz : W'.ownsRow base 137 5 (.slice s.va s.c.kv s.vc) s.c.kv (X.map (Value.int .i64))) : SO W' base sl (P ++ ⟨s.id, ⟨s.c.n, s.c.f, s.c.zs, s.c.os, X, s.c.ko, s.c.kv⟩, s.za, s.oa, s.va, s.zc, s.oc, s.vc⟩ :: Q) := by
 have hss := h.s s (by simp)
 exact h.mid _ hG (fun b hb => .inr (.inr hb)) ⟨but_own hG hss.z (fun b h1 h2 => own_neK hss.z hss.v (by decide) h1 h2), but_own hG hss.o (fun b h1 h2 => own_neK hss.o hss.v (by decide) h1 h2), hz⟩ rfl rfl
set_option maxRecDepth 20000 in
set_option maxHeartbeats 4000000 in
theorem markSnaps_any (sa : Option Addr) (n sc base : Nat) (k0 : Int) (S : List SN) (w : World) (h : SO w base (.slice sa n sc) S) (hn : S.length = n) (hn1 : n <= 1000) (hsm : ∀ s ∈ S, s.c.zs.length <= 1000 /\ s.c.ko <= 100 /\ s.c.kv <= 100) (h0 : 0 <= k0) (h1 : k0 <= 1000000) (C : Nat -> Prop) (hC1 : ∀ b, (Value.slice sa n sc).ownBlock = some b -> C b) (hC2 : ∀ s ∈ S, ∀ b, bkS s b -> C b) :
 Calls Tryz.prog 40 #[.slice sa n sc, .int .i64 k0] w fun e w' => e = .returned (.int .i64 (knSs S k0)) /\ GrownBut C w w' /\ SO w' base (.slice sa n sc) (mkSs S k0) := by
 have HS0 := hdn h
 have HN := hdn hn
 have HSM := hdn hsm
 have HC1 := hdn hC1
 have HC2 := hdn hC2
 clear h hn hsm hC1 hC2
 obtain ⟨KE, HKE⟩ := nmd (knSs S k0)
 obtain ⟨SE, HSE⟩ := nmd (mkSs S k0)
 rw [HKE.out, HSE.out]
 go_enter Tryz.func40, Tryz.ntmps40
 go_wp2_with fail
 go_loopw [1, 5] (fun kk t wr => ∃ (P Q : List SN) (K : Int), P.length + Q.length = n /\ t = .int .i64 (P.length : Int) /\ kk = .int .i64 K /\ 0 <= K /\ K <= k0 + (P.length : Int) * 2200 /\ SO wr base (.slice sa n sc) (P ++ Q) /\ (∀ s ∈ Q, (s.c.zs.length <= 1000 /\ s.c.ko <= 100 /\ s.c.kv <= 100) /\ ∀ b, bkS s b -> C b) /\ P ++ mkSs Q K = SE /\ knSs Q K = KE /\ GrownBut C w wr) (fun _ t _ => n - (intOf t).toNat)
 case atStart => exact ⟨[], S, k0, by simpa using HN.out, rfl, rfl, h0, by simp, HS0.out, fun s hs => ⟨HSM.out s hs, HC2.out s hs⟩, HSE.out, HKE.out, GrownBut.of_below (Below.refl _ _)⟩
 case round =>
  clear HS0
  obtain ⟨P, Q, K, hl, rfl, rfl, hK0, hK1, hp, hq, hS, hKK, hG⟩ := hrel
  have S0 := hdn hp
  have HQ := hdn hq
  have HS := hdn hS
  have HK := hdn hKK
  have HG := hdn hG
  obtain ⟨i, HPL⟩ := nmd P.length
  rw [HPL.out] at hl hK1 ⊢
  clear hp hq hS hKK hG
  cases Q with
  | nil =>
    have hiI : ¬ ((i : Int) < (n : Int)) := by simp at hl; omega
    have e1 : K = KE := HK.out
    have e2 : P = SE := by have := HS.out; simpa [mkSs] using this
    subst e1 e2
    go_wp2
    go_ret
    exact ⟨rfl, HG.out, by have := S0.out; simpa using this⟩
  | cons s Q =>
    have hlt : i < n := by simp at hl; omega
    have hiI : (i : Int) < (n : Int) := by omega
    obtain ⟨⟨hz1, ho1, hv1⟩, hcb⟩ := HQ.out s (List.mem_cons_self ..)
    have HCB := hdn hcb
    have hPn : (P ++ s :: Q).length = n := by rw [List.length_append, HPL.out]; exact hl
    obtain ⟨g, e⟩ : ∃ g, sa = some ⟨g, 0, none⟩ := by
     have hr := S0.out.r
     rw [hPn] at hr
     rcases own_kinds hr with ⟨_, h9⟩ | ⟨g, c, e, _, _⟩
     · omega
     · simp only [Value.slice.injEq] at e
       exact ⟨g, e.1⟩
    subst e
    have HCG : Hid (C g) := HC1.out g rfl
    have HQ2 := hdn (fun t (ht : t ∈ Q) => HQ.out t (List.mem_cons_of_mem _ ht))
    obtain ⟨K1, HK1⟩ := nmd (K + 1)
    obtain ⟨K2, HK2⟩ := nmd (K1 + 1)
    have hw1 : IntKind.i64.wrap (K + 1) = K1 := by rw [IntKind.wrap_i64]; have := HK1.out; omega
    have hw2 : IntKind.i64.wrap (K1 + 1) = K2 := by rw [IntKind.wrap_i64]; have := HK1.out; have := HK2.out; omega
    have HMS : Hid (P ++ mkSn s K :: mkSs Q (k5S s K + 1) = SE) := HS.out
    have HMK : Hid (knSs Q (k5S s K + 1) = KE) := HK.out
    have HPN := hdn hPn
    clear HQ HS HK hcb hPn
    obtain ⟨sid, ⟨cn, cf, zs, os, vs, ko, kv⟩, za, oa, va, zc, oc, vc⟩ := s
    have S1 := hdn (S0.out.put ⟨K, ⟨cn, cf, zs, os, vs, ko, kv⟩, za, oa, va, zc, oc, vc⟩ (i := 0) (v := .int .i64 K) HPN.out (by omega) rfl (fun W h => ⟨h.z, h.o, h.v⟩) rfl)
    have N1 : (P ++ ⟨K, ⟨cn, cf, zs, os, vs, ko, kv⟩, za, oa, va, zc, oc, vc⟩ :: Q).length = n := by rw [<- HPN.out]; simp
    have S2 := hdn (S1.out.put ⟨K, ⟨K1, cf, zs, os, vs, ko, kv⟩, za, oa, va, zc, oc, vc⟩ (i := 1) (v := .int .i64 K1) N1 (by omega) rfl (fun W h => ⟨h.z, h.o, h.v⟩) rfl)
    have N2 : (P ++ ⟨K, ⟨K1, cf, zs, os, vs, ko, kv⟩, za, oa, va, zc, oc, vc⟩ :: Q).length = n := by rw [<- HPN.out]; simp
    obtain ⟨c0, f0⟩ := S0.out.rowC HPN.out (i := 0) (by omega) rfl
    obtain ⟨c1, f1⟩ := S1.out.rowC N1 (i := 1) (by omega) rfl
    obtain ⟨c2, -⟩ := S2.out.rowC N2 (i := 2) (by omega) rfl
    rw [HPL.out] at S1 S2 c0 f0 c1 f1 c2
    simp only [Nat.add_zero] at S1 S2 c0 f0 c1 f1 c2
    simp only at hz1 ho1 hv1 HMS HMK
    obtain ⟨nz, HNZ⟩ := nmd zs.length
    rw [HNZ.out] at hz1 c2
    have G2 := hdn (HG.out.trans ((GrownBut.of_grown (grown_set wr g (i * 6) (.int .i64 K)) HCG.out).trans (GrownBut.of_grown (grown_set _ g (i * 6 + 1) (.int .i64 K1)) HCG.out)))
    have MZ := markZ_own za nz zc base K2 _ _ (by have := (S2.out.s ⟨K, ⟨K1, cf, zs, os, vs, ko, kv⟩, za, oa, va, zc, oc, vc⟩ (by simp)).z; simp only [HNZ.out] at this; exact this) (by have := HK1.out; have := HK2.out; omega) (by have := HK1.out; have := HK2.out; omega) (by omega)
    clear HG S0 S1 N1
    go_wp2_with fail
    clear c0 f0 c1 f1 c2
    generalize ((wr.setCell ⟨g, i * 6, none⟩ (.int .i64 K)).setCell ⟨g, i * 6 + 1, none⟩ (.int .i64 K1)) = W2 at *
    refine MZ.mono ?_
    rintro e W3 ⟨rfl, hg, ho⟩
    have S3 := hdn (S2.out.mz (X := seqL K2 (nz * 1)) (by simp only [HNZ.out]; exact hg) (by simp only [HNZ.out]; rw [seqL_len, Nat.mul_one]) (by simp only [HNZ.out]; exact ho))
    have G3 := hdn (G2.out.trans (hg.mono (fun b hb => HCB.out b (.inl (by simp only [HNZ.out]; exact hb)))))
    clear hg ho MZ S2 N2 G2
    have N3 : (P ++ ⟨K, ⟨K1, cf, seqL K2 (nz * 1), os, vs, ko, kv⟩, za, oa, va, zc, oc, vc⟩ :: Q).length = n := by rw [<- HPN.out]; simp
    obtain ⟨c3, -⟩ := S3.out.rowC N3 (i := 3) (by omega) rfl
    rw [HPL.out] at c3
    obtain ⟨K3, HK3⟩ := nmd (K2 + ((nz : Nat) : Int))
    rw [HK3.out]
    have MO := markO_own oa ko oc base K3 _ _ (S3.out.s ⟨K, ⟨K1, cf, seqL K2 (nz * 1), os, vs, ko, kv⟩, za, oa, va, zc, oc, vc⟩ (by simp)).o (by have := HK1.out; have := HK2.out; have := HK3.out; omega) (by have := HK1.out; have := HK2.out; have := HK3.out; omega) (by omega)
    go_wp2_with fail
    clear c3
    refine MO.mono ?_
    rintro e W4 ⟨rfl, hg, ho⟩
    have S4 := hdn (S3.out.mo (X := seqL K3 (ko * 6)) hg ho)
    have G4 := hdn (G3.out.trans (hg.mono (fun b hb => HCB.out b (.inr (.inl hb)))))
    clear hg ho MO S3 N3 G3
    have N4 : (P ++ ⟨K, ⟨K1, cf, seqL K2 (nz * 1), seqL K3 (ko * 6), vs, ko, kv⟩, za, oa, va, zc, oc, vc⟩ :: Q).length = n := by rw [<- HPN.out]; simp
    obtain ⟨c4, -⟩ := S4.out.rowC N4 (i := 4) (by omega) rfl
    rw [HPL.out] at c4
    obtain ⟨K4, HK4⟩ := nmd (K3 + ((ko * 6 : Nat) : Int))
    rw [HK4.out]
    have MV := markV_own va kv vc base K4 _ _ (S4.out.s ⟨K, ⟨K1, cf, seqL K2 (nz * 1), seqL K3 (ko * 6), vs, ko, kv⟩, za, oa, va, zc, oc, vc⟩ (by simp)).v (by have := HK1.out; have := HK2.out; have := HK3.out; have := HK4.out; omega) (by have := HK1.out; have := HK2.out; have := HK3.out; have := HK4.out; omega) (by omega)
    go_wp2_with fail
    clear c4
    refine MV.mono ?_
    rintro e W5 ⟨rfl, hg, ho⟩
    have S5 := hdn (S4.out.mv (X := seqL K4 (kv * 5)) hg ho)
    have G5 := hdn (G4.out.trans (hg.mono (fun b hb => HCB.out b (.inr (.inr hb)))))
    clear hg ho MV S4 N4 G4
    have N5 : (P ++ ⟨K, ⟨K1, cf, seqL K2 (nz * 1), seqL K3 (ko * 6), seqL K4 (kv * 5), ko, kv⟩, za, oa, va, zc, oc, vc⟩ :: Q).length = n := by rw [<- HPN.out]; simp
    obtain ⟨K5, HK5⟩ := nmd (K4 + ((kv * 5 : Nat) : Int))
    rw [HK5.out]
    obtain ⟨K6, HK6⟩ := nmd (K5 + 1)
    have hK6 : 0 <= K6 /\ K6 <= k0 + ((i : Int) + 1) * 2200 := by have := HK1.out; have := HK2.out; have := HK3.out; have := HK4.out; have := HK5.out; have := HK6.out; omega
    have hw6 : IntKind.i64.wrap (K5 + 1) = K6 := by rw [IntKind.wrap_i64]; have := HK6.out; omega
    have S6 := hdn (S5.out.put ⟨K, ⟨K1, K5, seqL K2 (nz * 1), seqL K3 (ko * 6), seqL K4 (kv * 5), ko, kv⟩, za, oa, va, zc, oc, vc⟩ (i := 5) (v := .int .i64 K5) N5 (by omega) rfl (fun W h => ⟨h.z, h.o, h.v⟩) rfl)
    obtain ⟨c5, f5⟩ := S5.out.rowC N5 (i := 5) (by omega) rfl
    rw [HPL.out] at S6 c5 f5
    have G6 := hdn (G5.out.trans (GrownBut.of_grown (grown_set W5 g (i * 6 + 5) (.int .i64 K5)) HCG.out))
    have e5 : k5S ⟨sid, ⟨cn, cf, zs, os, vs, ko, kv⟩, za, oa, va, zc, oc, vc⟩ K = K5 := by
     rw [<- HK5.out, <- HK4.out, <- HK3.out, <- HK2.out, <- HK1.out, <- HNZ.out]
     rfl
    have em : mkSn ⟨sid, ⟨cn, cf, zs, os, vs, ko, kv⟩, za, oa, va, zc, oc, vc⟩ K = ⟨K, ⟨K1, K5, seqL K2 (nz * 1), seqL K3 (ko * 6), seqL K4 (kv * 5), ko, kv⟩, za, oa, va, zc, oc, vc⟩ := by
     unfold mkSn
     rw [e5]
     rw [<- HK4.out, <- HK3.out, <- HK2.out, <- HK1.out, <- HNZ.out]
     rfl
    have HMS2 : Hid (P ++ ⟨K, ⟨K1, K5, seqL K2 (nz * 1), seqL K3 (ko * 6), seqL K4 (kv * 5), ko, kv⟩, za, oa, va, zc, oc, vc⟩ :: mkSs Q K6 = SE) := by show _ = _; rw [<- HMS.out, em, e5, HK6.out]
    have HMK2 : Hid (knSs Q K6 = KE) := by show _ = _; rw [<- HMK.out, e5, HK6.out]
    clear S5 N5 G5 e5 em HMS HMK hw1 hw2
    have hK60 := hK6.1
    have hK61 := hK6.2
    clear hK6
    go_wp2
    first
     | exact ⟨⟨P ++ [⟨K, ⟨K1, K5, seqL K2 (nz * 1), seqL K3 (ko * 6), seqL K4 (kv * 5), ko, kv⟩, za, oa, va, zc, oc, vc⟩], Q, K6, by simp; simp at hl; have := HPL.out; omega, by simp [HPL.out], rfl, hK60, by simp [HPL.out]; omega, by simpa using S6.out, HQ2.out, by simpa using HMS2.out, HMK2.out, G6.out⟩, by simp [intOf]; omega⟩
     | (go_roundw
        case rel => exact ⟨P ++ [⟨K, ⟨K1, K5, seqL K2 (nz * 1), seqL K3 (ko * 6), seqL K4 (kv * 5), ko, kv⟩, za, oa, va, zc, oc, vc⟩], Q, K6, by simp; simp at hl; have := HPL.out; omega, by simp [HPL.out], rfl, hK60, by simp [HPL.out]; omega, by simpa using S6.out, HQ2.out, by simpa using HMS2.out, HMK2.out, G6.out⟩
        case measure => simp [intOf]; omega)
set_option maxRecDepth 20000 in
set_option maxHeartbeats 4000000 in
theorem heldSnaps_any (sa : Option Addr) (n sc base : Nat) (k0 : Int) (S : List SN) (w : World) (h : SO w base (.slice sa n sc) (mkSs S k0)) (hn : S.length = n) (hn1 : n <= 1000) (hsm : ∀ s ∈ S, s.c.zs.length <= 1000 /\ s.c.ko <= 100 /\ s.c.kv <= 100) (h0 : 0 <= k0) (h1 : k0 <= 1000000) :
 Calls Tryz.prog 42 #[.slice sa n sc, .int .i64 k0] w fun e w' => e = .returned (.int .i64 (knSs S k0)) /\ w' = w := by
 have HN := hdn hn
 have HSM := hdn hsm
 obtain ⟨KE, HKE⟩ := nmd (knSs S k0)
 obtain ⟨SE, HSE⟩ := nmd (mkSs S k0)
 rw [HSE.out] at h
 have S0 := hdn h
 have HL : Hid (SE.length = n) := by show _ = _; rw [<- HSE.out, mkSs_len]; exact hn
 clear hn hsm h
 rw [HKE.out]
 go_enter Tryz.func42, Tryz.ntmps42
 go_wp2_with fail
 go_loop [1, 5] (fun kk t => ∃ (P : List SN) (Q : List SN) (K : Int), P.length + Q.length = n /\ t = .int .i64 (P.length : Int) /\ kk = .int .i64 K /\ 0 <= K /\ K <= k0 + (P.length : Int) * 2200 /\ (∀ s ∈ Q, s.c.zs.length <= 1000 /\ s.c.ko <= 100 /\ s.c.kv <= 100) /\ P ++ mkSs Q K = SE /\ knSs Q K = KE) (fun _ t => n - (intOf t).toNat)
 case atStart => exact ⟨[], S, k0, by simpa using HN.out, rfl, rfl, h0, by simp, HSM.out, HSE.out, HKE.out⟩
 case round =>
  obtain ⟨P, Q, K, hl, rfl, rfl, hK0, hK1, hq, hS, hKK⟩ := hrel
  have HQ := hdn hq
  have HS := hdn hS
  have HK := hdn hKK
  obtain ⟨i, HPL⟩ := nmd P.length
  rw [HPL.out] at hl hK1 ⊢
  clear hq hS hKK
  cases Q with
  | nil =>
    have hiI : ¬ ((i : Int) < (n : Int)) := by simp at hl; omega
    have e1 : K = KE := HK.out
    subst e1
    go_wp2
    go_ret
    exact ⟨rfl, rfl⟩
  | cons s Q =>
    have hlt : i < n := by simp at hl; omega
    have hiI : (i : Int) < (n : Int) := by omega
    obtain ⟨hz1, ho1, hv1⟩ := HQ.out s (List.mem_cons_self ..)
    have HQ2 := hdn (fun t (ht : t ∈ Q) => HQ.out t (List.mem_cons_of_mem _ ht))
    obtain ⟨sid, ⟨cn, cf, zs, os, vs, ko, kv⟩, za, oa, va, zc, oc, vc⟩ := s
    simp only at hz1 ho1 hv1
    obtain ⟨nz, HNZ⟩ := nmd zs.length
    rw [HNZ.out] at hz1
    obtain ⟨K1, HK1⟩ := nmd (K + 1)
    obtain ⟨K2, HK2⟩ := nmd (K1 + 1)
    obtain ⟨K3, HK3⟩ := nmd (K2 + ((nz : Nat) : Int))
    obtain ⟨K4, HK4⟩ := nmd (K3 + ((ko * 6 : Nat) : Int))
    obtain ⟨K5, HK5⟩ := nmd (K4 + ((kv * 5 : Nat) : Int))
    obtain ⟨K6, HK6⟩ := nmd (K5 + 1)
    have e5 : k5S ⟨sid, ⟨cn, cf, zs, os, vs, ko, kv⟩, za, oa, va, zc, oc, vc⟩ K = K5 := by
     rw [<- HK5.out, <- HK4.out, <- HK3.out, <- HK2.out, <- HK1.out, <- HNZ.out]
     rfl
    have em : mkSn ⟨sid, ⟨cn, cf, zs, os, vs, ko, kv⟩, za, oa, va, zc, oc, vc⟩ K = ⟨K, ⟨K1, K5, seqL K2 (nz * 1), seqL K3 (ko * 6), seqL K4 (kv * 5), ko, kv⟩, za, oa, va, zc, oc, vc⟩ := by
     unfold mkSn
     rw [e5]
     rw [<- HK4.out, <- HK3.out, <- HK2.out, <- HK1.out, <- HNZ.out]
     rfl
    have HMS2 : Hid (P ++ ⟨K, ⟨K1, K5, seqL K2 (nz * 1), seqL K3 (ko * 6), seqL K4 (kv * 5), ko, kv⟩, za, oa, va, zc, oc, vc⟩ :: mkSs Q K6 = SE) := by
     show _ = _
     have := HS.out
     simp only [mkSs] at this
     rw [<- this, em, e5, HK6.out]
    have HMK2 : Hid (knSs Q K6 = KE) := by
     show _ = _
     have := HK.out
     simp only [knSs] at this
     rw [<- this, e5, HK6.out]
    have S1 : Hid (SO w base (.slice sa n sc) (P ++ ⟨K, ⟨K1, K5, seqL K2 (nz * 1), seqL K3 (ko * 6), seqL K4 (kv * 5), ko, kv⟩, za, oa, va, zc, oc, vc⟩ :: mkSs Q K6)) := by have := S0.out; rw [<- HMS2.out] at this; exact this
    have N1 : (P ++ ⟨K, ⟨K1, K5, seqL K2 (nz * 1), seqL K3 (ko * 6), seqL K4 (kv * 5), ko, kv⟩, za, oa, va, zc, oc, vc⟩ :: mkSs Q K6).length = n := by rw [HMS2.out]; exact HL.out
    obtain ⟨g, e⟩ : ∃ g, sa = some ⟨g, 0, none⟩ := by
     have hr := S1.out.r
     rw [N1] at hr
     rcases own_kinds hr with ⟨_, h9⟩ | ⟨g, c, e, _, _⟩
     · omega
     · simp only [Value.slice.injEq] at e
       exact ⟨g, e.1⟩
    subst e
    have hb0 : 0 <= K2 /\ K2 <= 100000000 := by have := HK1.out; have := HK2.out; omega
    have hb3 : 0 <= K3 /\ K3 <= 100000000 := by have := HK1.out; have := HK2.out; have := HK3.out; omega
    have hb4 : 0 <= K4 /\ K4 <= 100000000 := by have := HK1.out; have := HK2.out; have := HK3.out; have := HK4.out; omega
    have hb5 : 0 <= K5 := by have := HK5.out; omega
    have hK60 : 0 <= K6 := by have := HK6.out; omega
    have hK61 : K6 <= k0 + ((i : Int) + 1) * 2200 := by have := HK1.out; have := HK2.out; have := HK3.out; have := HK4.out; have := HK5.out; have := HK6.out; omega
    have hw1 : IntKind.i64.wrap (K + 1) = K1 := by rw [IntKind.wrap_i64]; have := HK1.out; omega
    have hw2 : IntKind.i64.wrap (K1 + 1) = K2 := by rw [IntKind.wrap_i64]; have := HK2.out; omega
    have hw6 : IntKind.i64.wrap (K5 + 1) = K6 := by rw [IntKind.wrap_i64]; have := HK6.out; omega
    obtain ⟨c0, -⟩ := S1.out.rowC N1 (i := 0) (by omega) rfl
    obtain ⟨c1, -⟩ := S1.out.rowC N1 (i := 1) (by omega) rfl
    obtain ⟨c2, -⟩ := S1.out.rowC N1 (i := 2) (by omega) rfl
    obtain ⟨c3, -⟩ := S1.out.rowC N1 (i := 3) (by omega) rfl
    obtain ⟨c4, -⟩ := S1.out.rowC N1 (i := 4) (by omega) rfl
    obtain ⟨c5, -⟩ := S1.out.rowC N1 (i := 5) (by omega) rfl
    rw [HPL.out] at c0 c1 c2 c3 c4 c5
    simp only [Nat.add_zero] at c0
    rw [seqL_len, Nat.mul_one] at c2
    have hss := S1.out.s ⟨K, ⟨K1, K5, seqL K2 (nz * 1), seqL K3 (ko * 6), seqL K4 (kv * 5), ko, kv⟩, za, oa, va, zc, oc, vc⟩ (by simp)
    have hzz : w.ownsRow base 2 1 (.slice za nz zc) nz ((seqL K2 (nz * 1)).map (Value.int .i64)) := by
     have := hss.z
     simp only [seqL_len, Nat.mul_one] at this
     rw [Nat.mul_one]
     exact this
    have HZ := hdn (heldZ_own za nz zc base K2 w hzz hb0.1 (by omega) (by omega))
    have HO := hdn (heldO_own oa ko oc base K3 w hss.o hb3.1 (by omega) (by omega))
    have HV := hdn (heldV_own va kv vc base K4 w hss.v hb4.1 (by omega) (by omega))
    rw [HK3.out] at HZ
    rw [HK4.out] at HO
    rw [HK5.out] at HV
    have hk3 : ¬ K3 < 0 := by omega
    have hk4 : ¬ K4 < 0 := by omega
    have hk5 : ¬ K5 < 0 := by omega
    have hn0 : (K != K) = false := by simp
    have hn1 : (K1 != K1) = false := by simp
    have hn5 : (K5 != K5) = false := by simp
    clear hss hzz S1 N1 HQ HS HK e5 em hb0 hb3 hb4 hb5
    go_wp2_with fail
    refine HZ.out.mono ?_
    rintro e w' ⟨rfl, hw⟩
    subst hw
    go_wp2_with fail
    refine HO.out.mono ?_
    rintro e w' ⟨rfl, hw⟩
    subst hw
    go_wp2_with fail
    refine HV.out.mono ?_
    rintro e w' ⟨rfl, hw⟩
    subst hw
    go_wp2
    go_round
    case rel => exact ⟨P ++ [⟨K, ⟨K1, K5, seqL K2 (nz * 1), seqL K3 (ko * 6), seqL K4 (kv * 5), ko, kv⟩, za, oa, va, zc, oc, vc⟩], Q, K6, by simp; simp at hl; have := HPL.out; omega, by simp [HPL.out], rfl, hK60, by simp [HPL.out]; omega, HQ2.out, by simpa using HMS2.out, HMK2.out⟩
    case measure => simp [intOf]; omega
def k5V (v : VN) (k : Int) : Int := mkK v.R (k + 1 + 1) + ((v.L.length : Nat) : Int)
def mkVn (v : VN) (k : Int) : VN := ⟨k, k + 1, mkS v.R (k + 1 + 1), seqL (mkK v.R (k + 1 + 1)) (v.L.length * 1), v.ra, v.la, v.rc, v.lc⟩
def mkVs : List VN -> Int -> List VN
 | [], _ => []
 | v :: V, k => mkVn v k :: mkVs V (k5V v k)
def knVs : List VN -> Int -> Int
 | [], k => k
 | v :: V, k => knVs V (k5V v k)
theorem mkVs_len : ∀ (S : List VN) (k : Int), (mkVs S k).length = S.length
 | [], _ => rfl
 | s :: S, k => by simp [mkVs, mkVs_len S]
theorem ownB (a : Option Addr) (n c n' c' : Nat) : (Value.slice a n c).ownBlock = (Value.slice a n' c').ownBlock := by cases a <;> rfl
theorem bkV_eq {v v' : VN} (h1 : v'.ra = v.ra) (h2 : v'.la = v.la) (h3 : v'.R.map RT.a = v.R.map RT.a) : bkV v' = bkV v := by
 funext b
 have key : ∀ R : List RT, (∃ r ∈ R, (Value.slice r.a r.ids.length r.c).ownBlock = some b) ↔ ∃ a ∈ R.map RT.a, (Value.slice a 0 0).ownBlock = some b := fun R =>
  ⟨fun ⟨r, hr, e⟩ => ⟨r.a, List.mem_map_of_mem hr, by rw [<- e]; exact ownB _ _ _ _ _⟩, fun ⟨a, ha, e⟩ => by
    obtain ⟨r, hr, rfl⟩ := List.mem_map.1 ha
    exact ⟨r, hr, by rw [<- e]; exact ownB _ _ _ _ _⟩⟩
 unfold bkV
 rw [key, key, h1, h2, h3, ownB v.ra v'.R.length v'.rc v.R.length v.rc, ownB v.la v'.L.length v'.lc v.L.length v.lc]
theorem VNO.but {C : Nat -> Prop} {W W' : World} {base : Nat} {v : VN} (h : VNO W base v) (hG : GrownBut C W W') (hn : ∀ b, bkV v b -> ¬ C b) : VNO W' base v := ⟨⟨but_own hG h.p.r (fun b hb => hn b (.inl hb)), fun s hs => but_own hG (h.p.s s hs) (fun b hb => hn b (.inr (.inr ⟨s, hs, hb⟩))), but_own hG h.p.l (fun b hb => hn b (.inr (.inl hb)))⟩⟩
theorem VO.put {W : World} {base g n c : Nat} {P Q : List VN} {s : VN} (s' : VN) {i : Nat} {v : Value} (h : VO W base (.slice (some ⟨g, 0, none⟩) n c) (P ++ s :: Q)) (hn : (P ++ s :: Q).length = n) (hi : i < 4) (hc : vnCells s' = (vnCells s).set i v) (hs : ∀ W, VNO W base s -> VNO W base s') (hb : bkV s' = bkV s) : VO (W.setCell ⟨g, P.length * 4 + i, none⟩ v) base (.slice (some ⟨g, 0, none⟩) n c) (P ++ s' :: Q) := by
 have hr := h.r
 rw [hn] at hr
 obtain ⟨cur, h4, _⟩ := own_row_of hr
 have hset : ∀ u, VNO W base u -> VNO (W.setCell ⟨g, P.length * 4 + i, none⟩ v) base u := fun u hu => ⟨⟨own_box_of hu.p.r h4 (by decide), fun t ht => own_box_of (hu.p.s t ht) h4 (by decide), own_box_of hu.p.l h4 (by decide)⟩⟩
 refine ⟨?_, fun t ht => ?_, pw_swap hb h.p⟩
 · have h1 := own_putV (k := P.length * 4 + i) v hr
   rw [rowX_setm vn_len P s s' Q hi hc] at h1
   have : (P ++ s' :: Q).length = n := by rw [<- hn]; simp
   rw [this]
   exact h1
 · rcases mem_swap ht with e | h5 | h5
   · rw [e]; exact hs _ (hset _ (h.s s (by simp)))
   · exact hset _ (h.s t (by simp [h5]))
   · exact hset _ (h.s t (by simp [h5]))
theorem VO.rowC {W : World} {base g n c : Nat} {P Q : List VN} {s : VN} (h : VO W base (.slice (some ⟨g, 0, none⟩) n c) (P ++ s :: Q)) (hn : (P ++ s :: Q).length = n) {i : Nat} {v : Value} (hi : i < 4) (hv : (vnCells s)[i]? = some v) : W.cell? ⟨g, P.length * 4 + i, none⟩ = some v /\ W.frozen? ⟨g, P.length * 4 + i, none⟩ = false := by
 have hr := h.r
 rw [hn] at hr
 exact own_cellV hr ((rowX_mid vn_len P s Q hi).trans hv)
theorem VO.mid {W W' : World} {base : Nat} {sl : Value} {P Q : List VN} {s : VN} (s' : VN) {C : Nat -> Prop} (h : VO W base sl (P ++ s :: Q)) (hG : GrownBut C W W') (hC : ∀ b, C b -> bkV s b) (hs : VNO W' base s') (hc : vnCells s' = vnCells s) (hb : bkV s' = bkV s) : VO W' base sl (P ++ s' :: Q) := by
 have hss := h.s s (by simp)
 have hp := h.p
 rw [List.pairwise_append] at hp
 refine ⟨?_, fun t ht => ?_, pw_swap hb h.p⟩
 · have e1 : rowX vnCells (P ++ s' :: Q) = rowX vnCells (P ++ s :: Q) := by rw [rowX_app, rowX_cons, rowX_app, rowX_cons, hc]
   have e2 : (P ++ s' :: Q).length = (P ++ s :: Q).length := by simp
   rw [e1, e2]
   refine but_own hG h.r (fun b hb2 h3 => ?_)
   rcases hC b h3 with h4 | h4 | ⟨r, hr, h4⟩
   · exact own_neK h.r hss.p.r (by decide) hb2 h4
   · exact own_neK h.r hss.p.l (by decide) hb2 h4
   · exact own_neK h.r (hss.p.s r hr) (by decide) hb2 h4
 · rcases mem_swap ht with e | h5 | h5
   · rw [e]; exact hs
   · exact (h.s t (by simp [h5])).but hG (fun b h6 h7 => Nat.lt_irrefl _ (hp.2.2 t h5 s (by simp) b b h6 (hC b h7)))
   · exact (h.s t (by simp [h5])).but hG (fun b h6 h7 => Nat.lt_irrefl _ ((List.pairwise_cons.1 hp.2.1).1 t h5 b b (hC b h7) h6))
theorem VO.mr {W W' : World} {base : Nat} {sl : Value} {P Q : List VN} {s : VN} {X : List RT} (h : VO W base sl (P ++ s :: Q)) (hG : GrownBut (bkV s) W W') (hX : X.length = s.R.length) (hA : X.map RT.a = s.R.map RT.a) (hz : PO W' base (.slice s.ra s.R.length s.rc) X (.slice s.la s.L.length s.lc) s.L) : VO W' base sl (P ++ ⟨s.id, s.sn, X, s.L, s.ra, s.la, s.rc, s.lc⟩ :: Q) :=
 h.mid _ hG (fun _ hb => hb) ⟨by simp only [hX]; exact hz⟩ (by simp [vnCells, hX]) (bkV_eq rfl rfl hA)
theorem VO.ml {W W' : World} {base : Nat} {sl : Value} {P Q : List VN} {s : VN} {X : List Int} (h : VO W base sl (P ++ s :: Q)) (hap : Apt s.R s.la) (hG : GrownBut (fun b => (Value.slice s.la s.L.length s.lc).ownBlock = some b) W W') (hX : X.length = s.L.length) (hz : W'.ownsRow base 2 1 (.slice s.la s.L.length s.lc) s.L.length (X.map (Value.int .i64))) : VO W' base sl (P ++ ⟨s.id, s.sn, s.R, X, s.ra, s.la, s.rc, s.lc⟩ :: Q) := by
 have hss := (h.s s (by simp)).p
 refine h.mid _ hG (fun b hb => .inr (.inl hb)) ⟨⟨but_own hG hss.r (fun b h1 h2 => own_neK hss.r hss.l (by decide) h1 h2), fun t ht => but_own hG (hss.s t ht) (fun b h1 h2 => ?_), by simp only [hX]; exact hz⟩⟩ (by simp [vnCells, hX]) (bkV_eq rfl rfl rfl)
 rcases own_kinds (hss.s t ht) with ⟨e1, _⟩ | ⟨g1, c1, e1, _, _⟩
 · rw [e1] at h1; cases h1
 · rcases own_kinds hss.l with ⟨e2, _⟩ | ⟨g2, c2, e2, _, _⟩
   · rw [e2] at h2; cases h2
   · simp only [Value.slice.injEq] at e1 e2
     rw [e1.1] at h1
     rw [e2.1] at h2
     simp only [Value.ownBlock, Option.some.injEq] at h1 h2
     rcases hap.left ht with h9 | h9
     · rw [h9] at e2; cases e2.1
     · exact h9 (by rw [e1.1, e2.1, h1, h2])
set_option maxRecDepth 20000 in
set_option maxHeartbeats 4000000 in
theorem markVers_any (sa : Option Addr) (n sc base : Nat) (k0 : Int) (S : List VN) (w : World) (h : VO w base (.slice sa n sc) S) (hn : S.length = n) (hn1 : n <= 40) (hsm : ∀ v ∈ S, (v.R.length <= 12 /\ (∀ r ∈ v.R, r.ids.length <= 1000) /\ v.L.length <= 1000) /\ Apt v.R v.la) (h0 : 0 <= k0) (h1 : k0 <= 400000) (C : Nat -> Prop) (hC1 : ∀ b, (Value.slice sa n sc).ownBlock = some b -> C b) (hC2 : ∀ s ∈ S, ∀ b, bkV s b -> C b) :
 Calls Tryz.prog 41 #[.slice sa n sc, .int .i64 k0] w fun e w' => e = .returned (.int .i64 (knVs S k0)) /\ GrownBut C w w' /\ VO w' base (.slice sa n sc) (mkVs S k0) := by
 have HS0 := hdn h
 have HN := hdn hn
 have HSM := hdn hsm
 have HC1 := hdn hC1
 have HC2 := hdn hC2
 clear h hn hsm hC1 hC2
 obtain ⟨KE, HKE⟩ := nmd (knVs S k0)
 obtain ⟨SE, HSE⟩ := nmd (mkVs S k0)
 rw [HKE.out, HSE.out]
 go_enter Tryz.func41, Tryz.ntmps41
 go_wp2_with fail
 go_loopw [1, 5] (fun kk t wr => ∃ (P Q : List VN) (K : Int), P.length + Q.length = n /\ t = .int .i64 (P.length : Int) /\ kk = .int .i64 K /\ 0 <= K /\ K <= k0 + (P.length : Int) * 14000 /\ VO wr base (.slice sa n sc) (P ++ Q) /\ (∀ v ∈ Q, ((v.R.length <= 12 /\ (∀ r ∈ v.R, r.ids.length <= 1000) /\ v.L.length <= 1000) /\ Apt v.R v.la) /\ ∀ b, bkV v b -> C b) /\ P ++ mkVs Q K = SE /\ knVs Q K = KE /\ GrownBut C w wr) (fun _ t _ => n - (intOf t).toNat)
 case atStart => exact ⟨[], S, k0, by simpa using HN.out, rfl, rfl, h0, by simp, HS0.out, fun s hs => ⟨HSM.out s hs, HC2.out s hs⟩, HSE.out, HKE.out, GrownBut.of_below (Below.refl _ _)⟩
 case round =>
  clear HS0
  obtain ⟨P, Q, K, hl, rfl, rfl, hK0, hK1, hp, hq, hS, hKK, hG⟩ := hrel
  have S0 := hdn hp
  have HQ := hdn hq
  have HS := hdn hS
  have HK := hdn hKK
  have HG := hdn hG
  obtain ⟨i, HPL⟩ := nmd P.length
  rw [HPL.out] at hl hK1 ⊢
  clear hp hq hS hKK hG
  cases Q with
  | nil =>
    have hiI : ¬ ((i : Int) < (n : Int)) := by simp at hl; omega
    have e1 : K = KE := HK.out
    have e2 : P = SE := by have := HS.out; simpa [mkVs] using this
    subst e1 e2
    go_wp2
    go_ret
    exact ⟨rfl, HG.out, by have := S0.out; simpa using this⟩
  | cons s Q =>
    have hlt : i < n := by simp at hl; omega
    have hiI : (i : Int) < (n : Int) := by omega
    obtain ⟨⟨⟨hz1, ho1, hv1⟩, hap⟩, hcb⟩ := HQ.out s (List.mem_cons_self ..)
    have HCB := hdn hcb
    have HOI := hdn ho1
    have HAP := hdn hap
    have hPn : (P ++ s :: Q).length = n := by rw [List.length_append, HPL.out]; exact hl
    obtain ⟨g, e⟩ : ∃ g, sa = some ⟨g, 0, none⟩ := by
     have hr := S0.out.r
     rw [hPn] at hr
     rcases own_kinds hr with ⟨_, h9⟩ | ⟨g, c, e, _, _⟩
     · omega
     · simp only [Value.slice.injEq] at e
       exact ⟨g, e.1⟩
    subst e
    have HCG : Hid (C g) := HC1.out g rfl
    have HQ2 := hdn (fun t (ht : t ∈ Q) => HQ.out t (List.mem_cons_of_mem _ ht))
    obtain ⟨K1, HK1⟩ := nmd (K + 1)
    obtain ⟨K2, HK2⟩ := nmd (K1 + 1)
    have hw1 : IntKind.i64.wrap (K + 1) = K1 := by rw [IntKind.wrap_i64]; have := HK1.out; omega
    have hw2 : IntKind.i64.wrap (K1 + 1) = K2 := by rw [IntKind.wrap_i64]; have := HK1.out; have := HK2.out; omega
    have hK2b : 0 <= K2 /\ K2 <= 1000000 := by have := HK1.out; have := HK2.out; omega
    have HMS : Hid (P ++ mkVn s K :: mkVs Q (k5V s K) = SE) := HS.out
    have HMK : Hid (knVs Q (k5V s K) = KE) := HK.out
    have HPN := hdn hPn
    clear HQ HS HK hcb hPn ho1 hap
    obtain ⟨sid, ssn, vR, vL, ra, la, rc, lc⟩ := s
    have S1 := hdn (S0.out.put ⟨K, ssn, vR, vL, ra, la, rc, lc⟩ (i := 0) (v := .int .i64 K) HPN.out (by omega) rfl (fun W h => ⟨h.p⟩) rfl)
    have N1 : (P ++ ⟨K, ssn, vR, vL, ra, la, rc, lc⟩ :: Q).length = n := by rw [<- HPN.out]; simp
    have S2 := hdn (S1.out.put ⟨K, K1, vR, vL, ra, la, rc, lc⟩ (i := 1) (v := .int .i64 K1) N1 (by omega) rfl (fun W h => ⟨h.p⟩) rfl)
    have N2 : (P ++ ⟨K, K1, vR, vL, ra, la, rc, lc⟩ :: Q).length = n := by rw [<- HPN.out]; simp
    obtain ⟨c0, f0⟩ := S0.out.rowC HPN.out (i := 0) (by omega) rfl
    obtain ⟨c1, f1⟩ := S1.out.rowC N1 (i := 1) (by omega) rfl
    obtain ⟨c2, -⟩ := S2.out.rowC N2 (i := 2) (by omega) rfl
    rw [HPL.out] at S1 S2 c0 f0 c1 f1 c2
    simp only [Nat.add_zero] at S1 S2 c0 f0 c1 f1 c2
    simp only at hz1 hv1 HMS HMK HOI HAP
    have HB1 : Hid (∀ g, ra = some ⟨g, 0, none⟩ -> bkV ⟨K, K1, vR, vL, ra, la, rc, lc⟩ g) := fun g e => .inl (by rw [e]; rfl)
    have HB2 : Hid (∀ a ∈ vR.map RT.a, ∀ g, a = some ⟨g, 0, none⟩ -> bkV ⟨K, K1, vR, vL, ra, la, rc, lc⟩ g) := fun a ha g e => by
     obtain ⟨r, hr, rfl⟩ := List.mem_map.1 ha
     exact .inr (.inr ⟨r, hr, by rw [e]; rfl⟩)
    obtain ⟨nR, HNR⟩ := nmd vR.length
    obtain ⟨nL, HNL⟩ := nmd vL.length
    have hp9 := (S2.out.s ⟨K, K1, vR, vL, ra, la, rc, lc⟩ (by simp)).p
    simp only [HNR.out, HNL.out] at hp9
    rw [HNR.out] at hz1 c2
    rw [HNL.out] at hv1
    have G2 := hdn (HG.out.trans ((GrownBut.of_grown (grown_set wr g (i * 4) (.int .i64 K)) HCG.out).trans (GrownBut.of_grown (grown_set _ g (i * 4 + 1) (.int .i64 K1)) HCG.out)))
    have MZ := markRouteS_c ra la nR rc nL lc base K2 vR vL _ hp9 HNR.out HAP.out (by omega) HOI.out hK2b.1 hK2b.2 _ HB1.out HB2.out
    have hmk := mkK_bd vR K2 HOI.out
    rw [HNR.out] at hmk
    have HA2 := hdn (mkS_a vR K2)
    have HL2 := hdn (mkS_len vR K2)
    obtain ⟨XR, HXR⟩ := nmd (mkS vR K2)
    obtain ⟨K3, HK3⟩ := nmd (mkK vR K2)
    rw [HXR.out] at MZ HA2 HL2
    rw [HK3.out] at MZ hmk
    clear HG S0 S1 N1 hp9 HB1 HB2
    go_wp2_with fail
    clear c0 f0 c1 f1 c2
    generalize ((wr.setCell ⟨g, i * 4, none⟩ (.int .i64 K)).setCell ⟨g, i * 4 + 1, none⟩ (.int .i64 K1)) = W2 at *
    refine MZ.mono ?_
    rintro e W3 ⟨rfl, hg, ho⟩
    have S3 := hdn (S2.out.mr (X := XR) hg HL2.out HA2.out (by simp only [HNR.out, HNL.out]; exact ho))
    have G3 := hdn (G2.out.trans (hg.mono (fun b hb => HCB.out b hb)))
    clear hg ho MZ S2 N2 G2
    have N3 : (P ++ ⟨K, K1, XR, vL, ra, la, rc, lc⟩ :: Q).length = n := by rw [<- HPN.out]; simp
    obtain ⟨c3, -⟩ := S3.out.rowC N3 (i := 3) (by omega) rfl
    rw [HPL.out, HNL.out] at c3
    have hl9 := (S3.out.s ⟨K, K1, XR, vL, ra, la, rc, lc⟩ (by simp)).p.l
    simp only [HNL.out] at hl9
    have MO := markZ_own la nL lc base K3 _ _ hl9 (by omega) (by omega) (by omega)
    clear hl9
    go_wp2_with fail
    clear c3
    refine MO.mono ?_
    rintro e W4 ⟨rfl, hg, ho⟩
    have S4 := hdn (S3.out.ml (X := seqL K3 (nL * 1)) (HAP.out.keys HA2.out) (by simp only [HNL.out]; exact hg) (by simp only [HNL.out]; rw [seqL_len, Nat.mul_one]) (by simp only [HNL.out]; exact ho))
    have G4 := hdn (G3.out.trans (hg.mono (fun b hb => HCB.out b (.inr (.inl (by simp only [HNL.out]; exact hb))))))
    clear hg ho MO S3 N3 G3
    obtain ⟨K4, HK4⟩ := nmd (K3 + ((nL : Nat) : Int))
    rw [HK4.out]
    have hK40 : 0 <= K4 := by have := HK4.out; omega
    have hK41 : K4 <= k0 + ((i : Int) + 1) * 14000 := by have := HK1.out; have := HK2.out; have := HK4.out; omega
    have e5 : k5V ⟨sid, ssn, vR, vL, ra, la, rc, lc⟩ K = K4 := by
     rw [<- HK4.out, <- HK3.out, <- HK2.out, <- HK1.out, <- HNL.out]
     rfl
    have em : mkVn ⟨sid, ssn, vR, vL, ra, la, rc, lc⟩ K = ⟨K, K1, XR, seqL K3 (nL * 1), ra, la, rc, lc⟩ := by
     rw [<- HK3.out, <- HXR.out, <- HK2.out, <- HK1.out, <- HNL.out]
     rfl
    have HMS2 : Hid (P ++ ⟨K, K1, XR, seqL K3 (nL * 1), ra, la, rc, lc⟩ :: mkVs Q K4 = SE) := by show _ = _; rw [<- HMS.out, em, e5]
    have HMK2 : Hid (knVs Q K4 = KE) := by show _ = _; rw [<- HMK.out, e5]
    clear e5 em HMS HMK hw1 hw2 hmk
    go_wp2
    first
     | exact ⟨⟨P ++ [⟨K, K1, XR, seqL K3 (nL * 1), ra, la, rc, lc⟩], Q, K4, by simp; simp at hl; have := HPL.out; omega, by simp [HPL.out], rfl, hK40, by simp [HPL.out]; omega, by simpa using S4.out, HQ2.out, by simpa using HMS2.out, HMK2.out, G4.out⟩, by simp [intOf]; omega⟩
     | (go_roundw
        case rel => exact ⟨P ++ [⟨K, K1, XR, seqL K3 (nL * 1), ra, la, rc, lc⟩], Q, K4, by simp; simp at hl; have := HPL.out; omega, by simp [HPL.out], rfl, hK40, by simp [HPL.out]; omega, by simpa using S4.out, HQ2.out, by simpa using HMS2.out, HMK2.out, G4.out⟩
        case measure => simp [intOf]; omega)
set_option maxRecDepth 20000 in
set_option maxHeartbeats 4000000 in
theorem heldVers_any (sa : Option Addr) (n sc base : Nat) (k0 : Int) (S : List VN) (w : World) (h : VO w base (.slice sa n sc) (mkVs S k0)) (hn : S.length = n) (hn1 : n <= 40) (hsm : ∀ v ∈ S, v.R.length <= 12 /\ (∀ r ∈ v.R, r.ids.length <= 1000) /\ v.L.length <= 1000) (h0 : 0 <= k0) (h1 : k0 <= 400000) :
 Calls Tryz.prog 43 #[.slice sa n sc, .int .i64 k0] w fun e w' => e = .returned (.int .i64 (knVs S k0)) /\ w' = w := by
 have HN := hdn hn
 have HSM := hdn hsm
 obtain ⟨KE, HKE⟩ := nmd (knVs S k0)
 obtain ⟨SE, HSE⟩ := nmd (mkVs S k0)
 rw [HSE.out] at h
 have S0 := hdn h
 have HL : Hid (SE.length = n) := by show _ = _; rw [<- HSE.out, mkVs_len]; exact hn
 clear hn hsm h
 rw [HKE.out]
 go_enter Tryz.func43, Tryz.ntmps43
 go_wp2_with fail
 go_loop [1, 5] (fun kk t => ∃ (P : List VN) (Q : List VN) (K : Int), P.length + Q.length = n /\ t = .int .i64 (P.length : Int) /\ kk = .int .i64 K /\ 0 <= K /\ K <= k0 + (P.length : Int) * 14000 /\ (∀ v ∈ Q, v.R.length <= 12 /\ (∀ r ∈ v.R, r.ids.length <= 1000) /\ v.L.length <= 1000) /\ P ++ mkVs Q K = SE /\ knVs Q K = KE) (fun _ t => n - (intOf t).toNat)
 case atStart => exact ⟨[], S, k0, by simpa using HN.out, rfl, rfl, h0, by simp, HSM.out, HSE.out, HKE.out⟩
 case round =>
  obtain ⟨P, Q, K, hl, rfl, rfl, hK0, hK1, hq, hS, hKK⟩ := hrel
  have HQ := hdn hq
  have HS := hdn hS
  have HK := hdn hKK
  obtain ⟨i, HPL⟩ := nmd P.length
  rw [HPL.out] at hl hK1 ⊢
  clear hq hS hKK
  cases Q with
  | nil =>
    have hiI : ¬ ((i : Int) < (n : Int)) := by simp at hl; omega
    have e1 : K = KE := HK.out
    subst e1
    go_wp2
    go_ret
    exact ⟨rfl, rfl⟩
  | cons s Q =>
    have hlt : i < n := by simp at hl; omega
    have hiI : (i : Int) < (n : Int) := by omega
    obtain ⟨hz1, ho1, hv1⟩ := HQ.out s (List.mem_cons_self ..)
    have HOI := hdn ho1
    have HQ2 := hdn (fun t (ht : t ∈ Q) => HQ.out t (List.mem_cons_of_mem _ ht))
    obtain ⟨sid, ssn, vR, vL, ra, la, rc, lc⟩ := s
    simp only at hz1 hv1 HOI
    clear ho1
    obtain ⟨nR, HNR⟩ := nmd vR.length
    obtain ⟨nL, HNL⟩ := nmd vL.length
    rw [HNR.out] at hz1
    rw [HNL.out] at hv1
    obtain ⟨K1, HK1⟩ := nmd (K + 1)
    obtain ⟨K2, HK2⟩ := nmd (K1 + 1)
    have hmk := mkK_bd vR K2 HOI.out
    rw [HNR.out] at hmk
    obtain ⟨K3, HK3⟩ := nmd (mkK vR K2)
    rw [HK3.out] at hmk
    obtain ⟨K4, HK4⟩ := nmd (K3 + ((nL : Nat) : Int))
    have e5 : k5V ⟨sid, ssn, vR, vL, ra, la, rc, lc⟩ K = K4 := by
     rw [<- HK4.out, <- HK3.out, <- HK2.out, <- HK1.out, <- HNL.out]
     rfl
    have em : mkVn ⟨sid, ssn, vR, vL, ra, la, rc, lc⟩ K = ⟨K, K1, mkS vR K2, seqL K3 (nL * 1), ra, la, rc, lc⟩ := by
     rw [<- HK3.out, <- HK2.out, <- HK1.out, <- HNL.out]
     rfl
    have HMS2 : Hid (P ++ ⟨K, K1, mkS vR K2, seqL K3 (nL * 1), ra, la, rc, lc⟩ :: mkVs Q K4 = SE) := by
     show _ = _
     have := HS.out
     simp only [mkVs] at this
     rw [<- this, em, e5]
    have HMK2 : Hid (knVs Q K4 = KE) := by
     show _ = _
     have := HK.out
     simp only [knVs] at this
     rw [<- this, e5]
    have S1 : Hid (VO w base (.slice sa n sc) (P ++ ⟨K, K1, mkS vR K2, seqL K3 (nL * 1), ra, la, rc, lc⟩ :: mkVs Q K4)) := by have := S0.out; rw [<- HMS2.out] at this; exact this
    have N1 : (P ++ ⟨K, K1, mkS vR K2, seqL K3 (nL * 1), ra, la, rc, lc⟩ :: mkVs Q K4).length = n := by rw [HMS2.out]; exact HL.out
    obtain ⟨g, e⟩ : ∃ g, sa = some ⟨g, 0, none⟩ := by
     have hr := S1.out.r
     rw [N1] at hr
     rcases own_kinds hr with ⟨_, h9⟩ | ⟨g, c, e, _, _⟩
     · omega
     · simp only [Value.slice.injEq] at e
       exact ⟨g, e.1⟩
    subst e
    have hb0 : 0 <= K2 /\ K2 <= 1000000 := by have := HK1.out; have := HK2.out; omega
    have hb3 : 0 <= K3 /\ K3 <= 100000000 := by omega
    have hK40 : 0 <= K4 := by have := HK4.out; omega
    have hK41 : K4 <= k0 + ((i : Int) + 1) * 14000 := by have := HK1.out; have := HK2.out; have := HK4.out; omega
    have hw1 : IntKind.i64.wrap (K + 1) = K1 := by rw [IntKind.wrap_i64]; have := HK1.out; omega
    have hw2 : IntKind.i64.wrap (K1 + 1) = K2 := by rw [IntKind.wrap_i64]; have := HK2.out; omega
    obtain ⟨c0, -⟩ := S1.out.rowC N1 (i := 0) (by omega) rfl
    obtain ⟨c1, -⟩ := S1.out.rowC N1 (i := 1) (by omega) rfl
    obtain ⟨c2, -⟩ := S1.out.rowC N1 (i := 2) (by omega) rfl
    obtain ⟨c3, -⟩ := S1.out.rowC N1 (i := 3) (by omega) rfl
    rw [HPL.out] at c0 c1 c2 c3
    simp only [Nat.add_zero] at c0
    rw [mkS_len, HNR.out] at c2
    rw [seqL_len, Nat.mul_one] at c3
    have hss := (S1.out.s ⟨K, K1, mkS vR K2, seqL K3 (nL * 1), ra, la, rc, lc⟩ (by simp)).p
    simp only [mkS_len, HNR.out, seqL_len, Nat.mul_one] at hss
    have hzz : w.ownsRow base 2 1 (.slice la nL lc) nL ((seqL K3 (nL * 1)).map (Value.int .i64)) := by
     have := hss.l
     simp only [seqL_len] at this
     rw [Nat.mul_one]
     exact this
    have HR := hdn (heldRouteS_own ra nR rc base K2 vR _ _ w hss HNR.out (by omega) HOI.out hb0.1 hb0.2)
    have HZ := hdn (heldZ_own la nL lc base K3 w hzz hb3.1 (by omega) (by omega))
    rw [HK3.out] at HR
    rw [HK4.out] at HZ
    have hk3 : ¬ K3 < 0 := by omega
    have hk4 : ¬ K4 < 0 := by omega
    have hn0 : (K != K) = false := by simp
    have hn1 : (K1 != K1) = false := by simp
    clear hss hzz S1 N1 HQ HS HK e5 em hb0 hb3 hmk
    go_wp2_with fail
    refine HR.out.mono ?_
    rintro e w' ⟨rfl, hw⟩
    subst hw
    go_wp2_with fail
    refine HZ.out.mono ?_
    rintro e w' ⟨rfl, hw⟩
    subst hw
    go_wp2
    go_round
    case rel => exact ⟨P ++ [⟨K, K1, mkS vR K2, seqL K3 (nL * 1), ra, la, rc, lc⟩], Q, K4, by simp; simp at hl; have := HPL.out; omega, by simp [HPL.out], rfl, hK40, by simp [HPL.out]; omega, HQ2.out, by simpa using HMS2.out, HMK2.out⟩
    case measure => simp [intOf]; omega
theorem mkSs_bk : ∀ (S : List SN) (k : Int), ∀ s' ∈ mkSs S k, ∃ s ∈ S, bkS s' = bkS s
 | s :: S, k, s', h => by
   rcases List.mem_cons.1 h with e | h
   · refine ⟨s, List.mem_cons_self .., ?_⟩
     rw [e]
     funext b
     simp only [bkS, caseBl, mkSn]
     rw [ownB s.za (seqL (k + 1 + 1) (s.c.zs.length * 1)).length s.zc s.c.zs.length s.zc]
   · obtain ⟨t, ht, e⟩ := mkSs_bk S _ s' h
     exact ⟨t, List.mem_cons_of_mem _ ht, e⟩
theorem SO.but {C : Nat -> Prop} {W W' : World} {base : Nat} {sl : Value} {S : List SN} (h : SO W base sl S) (hG : GrownBut C W W') (h1 : ∀ b, sl.ownBlock = some b -> ¬ C b) (h2 : ∀ s ∈ S, ∀ b, bkS s b -> ¬ C b) : SO W' base sl S := ⟨but_own hG h.r h1, fun s hs => (h.s s hs).but hG (h2 s hs), h.p⟩
theorem VO.but {C : Nat -> Prop} {W W' : World} {base : Nat} {sl : Value} {S : List VN} (h : VO W base sl S) (hG : GrownBut C W W') (h1 : ∀ b, sl.ownBlock = some b -> ¬ C b) (h2 : ∀ s ∈ S, ∀ b, bkV s b -> ¬ C b) : VO W' base sl S := ⟨but_own hG h.r h1, fun s hs => (h.s s hs).but hG (h2 s hs), h.p⟩
theorem bkS_own {W : World} {base bx zx nx : Nat} {s : SN} {row : Value} {T : TypeId} {xs : List Value} (h : SNO W base s) (hr : W.ownsRow bx T zx row nx xs) (h1 : 2 ≠ T) (h2 : 146 ≠ T) (h3 : 137 ≠ T) {b : Nat} (hb : bkS s b) : row.ownBlock ≠ some b := by
 rcases hb with e | e | e
 · exact own_neK h.z hr h1 e
 · exact own_neK h.o hr h2 e
 · exact own_neK h.v hr h3 e
theorem bkV_own {W : World} {base bx zx nx : Nat} {v : VN} {row : Value} {T : TypeId} {xs : List Value} (h : VNO W base v) (hr : W.ownsRow bx T zx row nx xs) (h1 : 2 ≠ T) (h2 : 134 ≠ T) {b : Nat} (hb : bkV v b) : row.ownBlock ≠ some b := by
 rcases hb with e | e | ⟨r, hr2, e⟩
 · exact own_neK h.p.r hr h2 e
 · exact own_neK h.p.l hr h1 e
 · exact own_neK (h.p.s r hr2) hr h1 e
structure TSml (t : TN) : Prop where
 s : t.S.length <= 40
 v : t.V.length <= 40
 ss : ∀ s ∈ t.S, s.c.zs.length <= 1000 /\ s.c.ko <= 100 /\ s.c.kv <= 100
 vs : ∀ v ∈ t.V, v.R.length <= 12 /\ (∀ r ∈ v.R, r.ids.length <= 1000) /\ v.L.length <= 1000
structure TMk (W : World) (base : Nat) (t : TN) : Prop where
 s : SO W base (.slice t.sa t.S.length t.sc) (mkSs t.S 1)
 v : VO W base (.slice t.va t.V.length t.vc) (mkVs t.V (knSs t.S 1))
theorem TMk.below {W W' : World} {base : Nat} {t : TN} (h : TMk W base t) (hb : Below W.heap.size W W') : TMk W' base t := ⟨h.s.below hb, h.v.below hb⟩
theorem knSs_bd : ∀ (S : List SN) (k : Int), (∀ s ∈ S, s.c.zs.length <= 1000 /\ s.c.ko <= 100 /\ s.c.kv <= 100) -> k <= knSs S k /\ knSs S k <= k + (S.length : Int) * 2200
 | [], k, _ => by simp [knSs]
 | s :: S, k, h => by
   have h1 := knSs_bd S (k5S s k + 1) (fun x hx => h x (List.mem_cons_of_mem _ hx))
   have h2 := h s (List.mem_cons_self ..)
   have h3 : k5S s k = k + 1 + 1 + ((s.c.zs.length : Nat) : Int) + ((s.c.ko * 6 : Nat) : Int) + ((s.c.kv * 5 : Nat) : Int) := rfl
   simp only [knSs, List.length_cons]
   omega
theorem knVs_ge : ∀ (V : List VN) (k : Int), (∀ v ∈ V, ∀ r ∈ v.R, r.ids.length <= 1000) -> k <= knVs V k
 | [], k, _ => by simp [knVs]
 | v :: V, k, h => by
   have h1 := knVs_ge V (k5V v k) (fun x hx => h x (List.mem_cons_of_mem _ hx))
   have h2 := (mkK_bd v.R (k + 1 + 1) (h v (List.mem_cons_self ..))).1
   have h3 : k5V v k = mkK v.R (k + 1 + 1) + ((v.L.length : Nat) : Int) := rfl
   simp only [knVs]
   omega
def tnBk (t : TN) (b : Nat) : Prop := ((Value.slice t.sa t.S.length t.sc).ownBlock = some b ∨ ∃ s ∈ t.S, bkS s b) ∨ (Value.slice t.va t.V.length t.vc).ownBlock = some b ∨ ∃ v ∈ t.V, bkV v b
theorem TNO.topsX {W : World} {base : Nat} {t : TN} (h : TNO W base t) : ∀ b, tnBk t b -> base <= b /\ b < W.heap.size := fun b hb => by
 obtain ⟨_, _, h2, _⟩ := h.v
 rcases hb with (e | ⟨s, hs, e⟩) | e | ⟨v, hv, e⟩
 · exact h.s.r.lt b e
 · exact (h.s.s s hs).tops e
 · exact h2.r.lt b e
 · exact (h2.s v hv).tops e
theorem TNO.but {C : Nat -> Prop} {W W' : World} {base : Nat} {t : TN} (h : TNO W base t) (hG : GrownBut C W W') (hs : ∀ b, C b -> b < base) : TNO W' base t := by
 obtain ⟨lo, h1, h2, h3⟩ := h.v
 exact ⟨h.s.but hG (fun b hb hc => by have := (h.s.r.lt b hb).1; have := hs b hc; omega) (fun s h9 b hb hc => by have := ((h.s.s s h9).tops hb).1; have := hs b hc; omega), lo, h1, h2.but hG (fun b hb hc => by have := (h2.r.lt b hb).1; have := hs b hc; omega) (fun s h9 b hb hc => by have := ((h2.s s h9).tops hb).1; have := hs b hc; omega), h3⟩
set_option maxHeartbeats 2000000 in
theorem markTenant_own (t : TN) (base : Nat) (w : World) (h : TNO w base t) (hs : TSml t) (hap : ∀ v ∈ t.V, Apt v.R v.la) (C : Nat -> Prop) (hC : ∀ b, tnBk t b -> C b) :
 Calls Tryz.prog 17 #[.agg #[.string (txt t.nm), .int .i64 t.nx, .slice t.sa t.S.length t.sc, .slice t.va t.V.length t.vc, .int .i64 t.pub], .int .i64 1] w fun e w' => e = .returned (.int .i64 (knVs t.V (knSs t.S 1))) /\ GrownBut C w w' /\ TMk w' base t := by
 have HA : Hid (Below w.heap.size w (w.alloc (.cells #[.string (txt t.nm), .int .i64 t.nx, .slice t.sa t.S.length t.sc, .slice t.va t.V.length t.vc, .int .i64 t.pub] 36))) := (Below.refl _ _).alloc (Nat.le_refl _) _
 have Z0 := hdn (heap_alloc_new w (.cells #[.string (txt t.nm), .int .i64 t.nx, .slice t.sa t.S.length t.sc, .slice t.va t.V.length t.vc, .int .i64 t.pub] 36))
 have T1 := hdn (h.below HA.out)
 obtain ⟨lo, hlo, hv, hlv, hls⟩ := T1.out.v
 have HV1 := hdn hv
 have HLV := hdn hlv
 have HLS := hdn hls
 have HC1 : Hid (∀ b, (Value.slice t.sa t.S.length t.sc).ownBlock = some b ∨ (∃ s ∈ t.S, bkS s b) -> C b) := fun b hb => hC b (.inl hb)
 have HC2 : Hid (∀ b, (Value.slice t.va t.V.length t.vc).ownBlock = some b ∨ (∃ s ∈ t.V, bkV s b) -> C b) := fun b hb => hC b (.inr hb)
 have MS := hdn (markSnaps_any t.sa t.S.length t.sc base 1 t.S _ T1.out.s rfl (by have := hs.s; omega) hs.ss (by omega) (by omega) (fun b => (Value.slice t.sa t.S.length t.sc).ownBlock = some b ∨ ∃ s ∈ t.S, bkS s b) (fun b hb => .inl hb) (fun s h9 b hb => .inr ⟨s, h9, hb⟩))
 have hkb := knSs_bd t.S 1 hs.ss
 have MV : Hid (∀ W, VO W base (.slice t.va t.V.length t.vc) t.V -> _) := fun W hW => markVers_any t.va t.V.length t.vc base (knSs t.S 1) t.V W hW rfl hs.v (fun v hv => ⟨hs.vs v hv, hap v hv⟩) (by omega) (by have := hs.s; omega) (fun b => (Value.slice t.va t.V.length t.vc).ownBlock = some b ∨ ∃ s ∈ t.V, bkV s b) (fun b hb => .inl hb) (fun s h9 b hb => .inr ⟨s, h9, hb⟩)
 obtain ⟨tm, tx, tS, tV, tp, tsa, tva, tsc, tvc⟩ := t
 clear h hs hap hC hv hlv hls
 simp only at HA Z0 T1 HV1 HLV HLS HC1 HC2 MS MV hkb ⊢
 obtain ⟨K1, HK1⟩ := nmd (knSs tS 1)
 obtain ⟨K2, HK2⟩ := nmd (knVs tV K1)
 obtain ⟨mS, HMS⟩ := nmd tS.length
 obtain ⟨mV, HMV⟩ := nmd tV.length
 rw [HK1.out] at MS MV hkb ⊢
 rw [HK2.out] at MV ⊢
 rw [HMS.out] at HA Z0 MS HC1 HV1 hkb ⊢
 rw [HMV.out] at HA Z0 MS MV HV1 HC2 ⊢
 have T1s := hdn T1.out.s
 simp only [HMS.out, HMV.out] at T1s
 obtain ⟨c0, c1, c2, c3, c4⟩ := cells5 Z0.out
 generalize txt tm = nm at *
 go_enter Tryz.func17, Tryz.ntmps17
 go_wp2_with fail
 clear c0 c1 c2 c3 c4
 generalize w.alloc (.cells #[.string nm, .int .i64 tx, .slice tsa mS tsc, .slice tva mV tvc, .int .i64 tp] 36) = W0 at *
 refine MS.out.mono ?_
 rintro e w1 ⟨rfl, hg, ho⟩
 have V1 := hdn (HV1.out.but hg (fun b hb hc => by
  rcases hc with e | ⟨s, hs, e⟩
  · exact own_neK HV1.out.r T1s.out.r (by decide) hb e
  · exact bkS_own (T1s.out.s s hs) HV1.out.r (by decide) (by decide) (by decide) e hb) (fun v hv b hb hc => by
  rcases hc with e | ⟨s, hs, e⟩
  · exact bkV_own (HV1.out.s v hv) T1s.out.r (by decide) (by decide) hb e
  · have h1 := HLV.out v hv b hb
    have h2 := HLS.out s hs b e
    omega))
 have S1 := hdn ho
 have G1 := hdn ((GrownBut.of_below HA.out).trans (hg.mono HC1.out))
 have Z1 := hdn (hg.row Z0.out (fun hc => by
  rcases hc with e | ⟨s, hs, e⟩
  · obtain ⟨_, h2⟩ := T1s.out.r.lt _ e
    rcases own_kinds T1s.out.r with ⟨e9, _⟩ | ⟨g, c, e9, _, _⟩
    · rw [e9] at e; cases e
    · simp only [Value.slice.injEq] at e9
      have hr := T1s.out.r
      rw [e9.1] at hr
      rw [e9.1] at e
      simp only [Value.ownBlock, Option.some.injEq] at e
      rw [e] at hr
      have hz := T1s.out.r.1
      obtain ⟨_, ⟨e8, _⟩ | ⟨g8, cap, cur, e8, _, e7, _⟩⟩ := hr
      · cases e8
      · simp only [Value.slice.injEq, Option.some.injEq, Addr.mk.injEq, and_true] at e8
        rw [<- e8.1, Z0.out] at e7
        cases e7
  · have hs9 := T1s.out.s s hs
    rcases e with e | e | e
    · exact own_typ hs9.z Z0.out (by decide) e
    · exact own_typ hs9.o Z0.out (by decide) e
    · exact own_typ hs9.v Z0.out (by decide) e))
 clear hg ho MS HV1 T1 T1s HC1
 obtain ⟨c0, c1, c2, c3, c4⟩ := cells5 Z1.out
 go_wp2_with fail
 clear c0 c1 c2 c3 c4
 refine (MV.out w1 V1.out).mono ?_
 rintro e w2 ⟨rfl, hg, ho⟩
 have G2 := hdn (G1.out.trans (hg.mono HC2.out))
 have S2 := hdn (S1.out.but hg (fun b hb hc => by
  rcases hc with e | ⟨v, hv, e⟩
  · exact own_neK S1.out.r V1.out.r (by decide) hb e
  · exact bkV_own (V1.out.s v hv) S1.out.r (by decide) (by decide) e hb) (fun s hs b hb hc => by
  rcases hc with e | ⟨v, hv, e⟩
  · exact bkS_own (S1.out.s s hs) V1.out.r (by decide) (by decide) (by decide) hb e
  · obtain ⟨s0, hs0, e0⟩ := mkSs_bk tS 1 s hs
    rw [e0] at hb
    have h1 := HLV.out v hv b e
    have h2 := HLS.out s0 hs0 b hb
    omega))
 have V2 := hdn ho
 clear hg ho MV
 go_wp2
 go_ret
 exact ⟨rfl, G2.out, by simp only [HMS.out]; exact S2.out, by simp only [HMV.out, HK1.out]; exact V2.out⟩
set_option maxHeartbeats 2000000 in
theorem heldTenant_own (t : TN) (base : Nat) (w : World) (h : TMk w base t) (hs : TSml t) :
 Calls Tryz.prog 18 #[.agg #[.string (txt t.nm), .int .i64 t.nx, .slice t.sa t.S.length t.sc, .slice t.va t.V.length t.vc, .int .i64 t.pub], .int .i64 1] w fun e w' => e = .returned (.int .i64 (knVs t.V (knSs t.S 1))) /\ Below w.heap.size w w' := by
 have HA : Hid (Below w.heap.size w (w.alloc (.cells #[.string (txt t.nm), .int .i64 t.nx, .slice t.sa t.S.length t.sc, .slice t.va t.V.length t.vc, .int .i64 t.pub] 36))) := (Below.refl _ _).alloc (Nat.le_refl _) _
 have Z0 := hdn (heap_alloc_new w (.cells #[.string (txt t.nm), .int .i64 t.nx, .slice t.sa t.S.length t.sc, .slice t.va t.V.length t.vc, .int .i64 t.pub] 36))
 have hkb := knSs_bd t.S 1 hs.ss
 have hkv := knVs_ge t.V (knSs t.S 1) (fun v hv => (hs.vs v hv).2.1)
 have MS := hdn (heldSnaps_any t.sa t.S.length t.sc base 1 t.S _ (h.s.below HA.out) rfl (by have := hs.s; omega) hs.ss (by omega) (by omega))
 have MV := hdn (heldVers_any t.va t.V.length t.vc base (knSs t.S 1) t.V _ (h.v.below HA.out) rfl hs.v hs.vs (by omega) (by have := hs.s; omega))
 obtain ⟨tm, tx, tS, tV, tp, tsa, tva, tsc, tvc⟩ := t
 clear h hs
 simp only at HA Z0 MS MV hkb hkv ⊢
 obtain ⟨K1, HK1⟩ := nmd (knSs tS 1)
 obtain ⟨K2, HK2⟩ := nmd (knVs tV K1)
 obtain ⟨mS, HMS⟩ := nmd tS.length
 obtain ⟨mV, HMV⟩ := nmd tV.length
 rw [HK1.out] at MS MV hkb hkv ⊢
 rw [HK2.out] at MV hkv ⊢
 rw [HMS.out] at HA Z0 MS MV hkb ⊢
 rw [HMV.out] at HA Z0 MS MV ⊢
 obtain ⟨c0, c1, c2, c3, c4⟩ := cells5 Z0.out
 have hn1 : ¬ K1 < 0 := by omega
 have hn2 : ¬ K2 < 0 := by omega
 generalize txt tm = nm at *
 go_enter Tryz.func18, Tryz.ntmps18
 go_wp2_with fail
 refine MS.out.mono ?_
 rintro e w1 ⟨rfl, hw⟩
 subst hw
 go_wp2_with fail
 refine MV.out.mono ?_
 rintro e w1 ⟨rfl, hw⟩
 subst hw
 go_wp2
 go_ret
 exact ⟨rfl, HA.out⟩
end Go.Proofs.YtehfjfmfpdgibaaGreatDoor
