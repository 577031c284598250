import Derived.Test.YtcapkcallaajaaaGreatDoorPack1
import Derived.Test.YtcapkcallaajaaaGreatDoorPack2
import Derived.Test.YtcapkcallaajaaaGreatDoorPack4
import Derived.Test.YtcapkcallaajaaaGreatDoorPack6
import Derived.Test.YtcapkcallaajaaaGreatDoorPack7
import Derived.Test.YtcapkcallaajaaaGreatDoorPack12
import Derived.Deep.RegionHeld3
namespace Go.Proofs.YtcapkcallaajaaaGreatDoor
open Go.RowKit
theorem infoI9 : (Tryz.prog.info? 2).map (fun i => (i.zero, i.size, i.bytes)) = some (some (Value.int .i64 0), 1, 8) := by kernel_rfl
def ppl (X : List (List Int)) (o : Option (List (List Int) × List UInt8)) : Option (List (List Int) × List UInt8) := match o with | none => none | some (Y, r) => some (X ++ Y, r)
theorem ppl_snoc (X : List (List Int)) (l : List Int) (o : Option (List (List Int) × List UInt8)) : ppl (X ++ [l]) o = ppl X (match o with | none => none | some (Y, r2) => some (l :: Y, r2)) := by
 unfold ppl
 cases o with
 | none => rfl
 | some q => obtain ⟨Y, r2⟩ := q; simp
theorem ppl_nil (o : Option (List (List Int) × List UInt8)) : ppl [] o = o := by cases o <;> rfl
theorem lnsF_zero (w : List UInt8) (k : Nat) (s : List UInt8) : lnsF w k 0 s = some ([], s) := by rw [lnsF]
theorem lnsF_succ (w : List UInt8) (k m : Nat) (s : List UInt8) : lnsF w k (m + 1) s = match lineF w k s with
 | none => none
 | some (l, r) => match lnsF w k m r with | none => none | some (X, r2) => some (l :: X, r2) := by rw [lnsF]; rfl
theorem set_rowM {W : World} {g k i : Nat} {o : Obj} {v : Value} (h : W.heap[g]? = some o) (hne : g ≠ k) : (W.setCell ⟨k, i, none⟩ v).heap[g]? = some o := by
 rw [heap_setCell_other _ _ _ _ (by simpa using hne)]; exact h
theorem own_src {w : World} {base g m c : Nat} {l : List Int} (h : w.ownsRow base 2 1 (.slice (some ⟨g, 0, none⟩) m c) m (l.map (Value.int .i64))) : ∀ j u, (l.map (Value.int .i64))[j]? = some u -> w.cell? ⟨g, 0 + j, none⟩ = some u := fun j u hj => by
 have := h.cells (g := g) rfl j u hj
 rw [add_plain] at this
 exact this
structure MX (w W : World) (q : Nat) (rest : List UInt8) (n : Int) (sl : Value) (zs : List Int) : Prop where
 g : w.grownBy W (some q)
 r : RX W q rest
 z : W.heap[w.heap.size]? = some (.cells #[.int .i64 0, .slice none 0 0] 24 (0, 0))
 p : W.heap[w.heap.size + 1]? = some (.cells #[.int .i64 n, sl] 24 (0, 0))
 o : W.ownsRow (w.heap.size + 2) 2 1 sl zs.length (zs.map (Value.int .i64))
theorem MX.size {w W : World} {q : Nat} {rest : List UInt8} {n : Int} {sl : Value} {zs : List Int} (h : MX w W q rest n sl zs) : w.heap.size + 2 <= W.heap.size := row_lt h.p
theorem MX.new {w : World} {q : Nat} {s : List UInt8} (n : Int) (h : RX w q s) : MX w ((w.alloc (.cells #[.int .i64 0, .slice none 0 0] 24)).alloc (.cells #[.int .i64 n, .slice none 0 0] 24)) q s n (.slice none 0 0) [] :=
 ⟨grown_allocR (grown_allocR (grown_refl _ _) _) _, (h.alloc _).alloc _, heap_alloc2_old _ _ _, heap_alloc2_new _ _ _, ⟨by simp, .inl ⟨rfl, rfl⟩⟩⟩
theorem MX.call {w W W' : World} {q : Nat} {rest rest' : List UInt8} {n : Int} {sl : Value} {zs : List Int} (h : MX w W q rest n sl zs) (hq : q < w.heap.size) (hg : W.grownBy W' (some q)) (hr : RX W' q rest') : MX w W' q rest' n sl zs :=
 ⟨grown_trans h.g hg, hr, grown_row hg h.z (by simp; omega), grown_row hg h.p (by simp; omega), own_kept h.o hg (by omega)⟩
theorem MX.drew {w W : World} {q : Nat} {rest : List UInt8} {n : Int} {sl : Value} {zs : List Int} (h : MX w W q rest n sl zs) : MX w W.drew q rest n sl zs :=
 ⟨⟨h.g.os, h.g.tape, h.g.output, h.g.size, h.g.block⟩, h.r, h.z, h.p, h.o.drew⟩
theorem MX.more {w W W' : World} {q : Nat} {rest : List UInt8} {n : Int} {sl v' : Value} {zs ys : List Int} (h : MX w W q rest n sl zs) (hq : q < w.heap.size)
 (hg : W.grownBy W' sl.ownBlock) (ho : W'.ownsRow (w.heap.size + 2) 2 1 v' (zs ++ ys).length ((zs ++ ys).map (Value.int .i64))) : MX w (W'.setCell ⟨w.heap.size + 1, 1, none⟩ v') q rest n v' (zs ++ ys) := by
 have hob : ∀ g, sl.ownBlock = some g -> w.heap.size + 2 <= g := fun g e => (h.o.lt g e).1
 have hn : ∀ k, k < w.heap.size + 2 -> some k ≠ sl.ownBlock := fun k hk e => by have := hob k e.symm; omega
 refine ⟨grown_ownR (grown_ownR h.g hg (fun g e => by have := hob g e; omega)) (grown_set _ _ _ _) (fun g e => by simp at e; omega), ?_, set_rowM (grown_row hg h.z (hn _ (by omega))) (by omega), ?_, owns_set ho (by omega)⟩
 · exact RX.grown (h.r.grown hg (hn q (by omega))) (grown_set _ _ _ _) (by simp; omega)
 · exact heap_setCell_same _ _ _ _ _ _ (grown_row hg h.p (hn _ (by omega)))
def MatOk (w : World) (q : Nat) (n : Int) (o : Option (List (List Int) × List UInt8)) (e : Ending) (w' : World) : Prop :=
 (∃ X r sl, o = some (X, r) /\ e = .returned (.agg #[.int .i64 n, sl]) /\ RX w' q r /\ w.grownBy w' (some q) /\ w'.ownsRow (w.heap.size + 2) 2 1 sl X.flatten.length (X.flatten.map (Value.int .i64))) ∨ (o = none /\ e = .panicked GV /\ w.grownBy w' (some q))
def matF (n : Int) (s : List UInt8) : Option (List (List Int) × List UInt8) := if inB n 1 16 = true then lnsF wTimes n.toNat n.toNat s else none
set_option maxHeartbeats 4000000 in
set_option maxRecDepth 10000 in
theorem takeMatrix_any (q : Nat) (n : Int) (s : List UInt8) (w : World) (h : RX w q s) (hs : s.length <= 1000000000) :
 Calls Tryz.prog 64 #[.pointer (some ⟨q, 0, none⟩), .int .i64 n] w (MatOk w q n (matF n s)) := by
 have HQ : Hid (q < w.heap.size) := row_lt h
 have K0 : Hid (MX w ((w.alloc (.cells #[.int .i64 0, .slice none 0 0] 24)).alloc (.cells #[.int .i64 n, .slice none 0 0] 24)) q s n (.slice none 0 0) []) := MX.new n h
 have G0 : Hid (w.grownBy (w.alloc (.cells #[.int .i64 0, .slice none 0 0] 24)) (some q)) := grown_allocR (grown_refl _ _) _
 have HMF : Hid (matF n s = if inB n 1 16 = true then lnsF wTimes n.toNat n.toNat s else none) := rfl
 clear h
 have C0 := within_any n 1 16 (w.alloc (.cells #[.int .i64 0, .slice none 0 0] 24))
 cases hin : inB n 1 16
 · rw [hin] at C0
   have HF : Hid (matF n s = none) := by show _ = _; rw [HMF.out, hin]; rfl
   clear hin
   go_enter Tryz.func64, Tryz.ntmps64
   go_wp2_with fail
   refine C0.mono ?_
   rintro e w' ⟨rfl, rfl⟩
   go_wp2_with fail
   with_reducible refine (must_no _ _).mono ?_
   rintro e w' ⟨rfl, rfl⟩
   exact ⟨rfl, .inr ⟨HF.out, rfl, G0.out⟩⟩
 · rw [hin] at C0
   have HF : Hid (matF n s = lnsF wTimes n.toNat n.toNat s) := by show _ = _; rw [HMF.out, hin]; rfl
   obtain ⟨k, hk⟩ : ∃ k : Nat, n = (k : Int) := ⟨n.toNat, by unfold inB at hin; simp only [decide_eq_true_eq] at hin; omega⟩
   have hk1 : 1 <= k /\ k <= 16 := by unfold inB at hin; simp only [decide_eq_true_eq] at hin; omega
   subst hk
   rw [Int.toNat_natCast] at HF
   clear hin HMF
   go_enter Tryz.func64, Tryz.ntmps64
   go_wp2_with fail
   refine C0.mono ?_
   rintro e w' ⟨rfl, rfl⟩
   go_wp2_with fail
   with_reducible refine (must_yes _ _).mono ?_
   rintro e w' ⟨rfl, rfl⟩
   clear C0
   go_wp2_with fail
   generalize (w.alloc (.cells #[.int .i64 0, .slice none 0 0] 24)).alloc (.cells #[.int .i64 (k : Int), .slice none 0 0] 24) = W0 at *
   go_loopw [13] (fun ti wr => ∃ (i : Nat) (X : List (List Int)) (rest : List UInt8) (sl : Value), i <= k /\ ti = .int .i64 (i : Int) /\ X.length = i /\ X.flatten.length = i * k /\ rest.length <= s.length /\ lnsF wTimes k k s = ppl X (lnsF wTimes k (k - i) rest) /\ MX w wr q rest k sl X.flatten) (fun ti _ => k - (intOf ti).toNat)
   case atStart => exact ⟨0, [], s, .slice none 0 0, by omega, rfl, rfl, by simp, Nat.le_refl _, by rw [ppl_nil]; rfl, K0.out⟩
   case round =>
    clear K0 G0
    obtain ⟨i, X, rest, sl, hi, rfl, hX, hXl, hrl, hf, hkx⟩ := hrel
    have HX : Hid (lnsF wTimes k k s = ppl X (lnsF wTimes k (k - i) rest)) := hf
    have KW : Hid (MX w wr q rest k sl X.flatten) := hkx
    have HXN : Hid (X.length = i) := hX
    clear hf hkx hX
    obtain ⟨m, HM⟩ : ∃ m, Hid (X.flatten.length = m) := ⟨_, rfl⟩
    rw [HM.out] at hXl
    have hm : m <= 256 := by
     have : i * k <= 16 * 16 := Nat.mul_le_mul (by omega) (by omega)
     omega
    have HXL : Hid (m = i * k) := hXl
    clear hXl
    obtain ⟨sa, sc, e, -⟩ := own_sl KW.out.o
    rw [HM.out] at e
    subst e
    by_cases hlt : i < k
    · have hltI : (i : Int) < (k : Int) := by omega
      have HX2 : Hid (lnsF wTimes k k s = ppl X (match lineF wTimes k rest with
       | none => none
       | some (l, r) => match lnsF wTimes k (k - (i + 1)) r with | none => none | some (Y, r2) => some (l :: Y, r2))) := by
       show _ = _
       rw [HX.out, show k - i = (k - (i + 1)) + 1 by omega, lnsF_succ]
      have CL : Hid (∀ W, RX W q rest -> Calls Tryz.prog 63 #[.pointer (some ⟨q, 0, none⟩), .string ⟨#[116, 105, 109, 101, 115]⟩, .int .i64 (k : Int)] W (LineOk W q (lineF wTimes k rest))) := fun W hW => line_any q k rest wTimes W hW (by omega) (by omega)
      clear HX
      go_wp2_with fail
      refine wp_region_held_drew (S := (fun W => True)) (by kernel_rfl) ?_ (fun hHeld => ?_)
      · exact trivial
      have K2d : Hid (MX w wr.drew q rest k (.slice sa m sc) X.flatten) := KW.out.drew
      clear KW
      generalize wr.drew = V0 at *
      refine tkH 0 hHeld ?_
      refine tkH 2 hHeld ?_
      refine tkH 3 hHeld ?_
      refine wpAnyH_ready (rs := [1, 4]) (by kernel_rfl) (by simp) ?_
      refine AllReadyH.cons rfl (fun K hK => ?_) ?_
      · skip
        obtain ⟨z0, z1⟩ := cells2 K2d.out.p
        go_simp
        refine hK.out _ _ ?_ (fun hHeld => ?_)
        · exact trivial
        clear hK K
        clear z0 z1
        (try simp only [Act.put, List.setIfInBounds_toArray, List.set_cons_zero, List.set_cons_succ])
        refine wpAnyH_ready (rs := [4]) (by kernel_rfl) (by simp) ?_
        refine AllReadyH.cons rfl (fun K hK => ?_) AllReadyH.nil
        go_simp
        refine (CL.out V0 K2d.out.r).mono ?_
        rintro e w3 (⟨l, r3, sl, hv, rfl, hr3, hg3, ho3⟩ | ⟨hv, rfl, hg3⟩)
        rotate_left
        · exact ⟨rfl, .inr ⟨by rw [HF.out, HX2.out, hv]; rfl, rfl, grown_trans K2d.out.g hg3⟩⟩
        obtain ⟨hl1, hl2, -⟩ := lineF_is hv
        have hr3l : r3.length <= rest.length := by
         have := congrArg List.length hl1
         rw [List.length_append] at this
         omega
        have K3 : Hid (MX w w3 q r3 k (.slice sa m sc) X.flatten) := K2d.out.call HQ.out hg3 hr3
        have HLL : Hid (l.length = k) := hl2
        rw [hl2] at ho3
        rcases own_kinds ho3 with ⟨_, e0⟩ | ⟨g3, c3, e3, -, -⟩
        · omega
        subst e3
        have O3 : Hid (w3.ownsRow V0.heap.size 2 1 (.slice (some ⟨g3, 0, none⟩) k c3) k (l.map (Value.int .i64))) := ho3
        have HV : Hid (lineF wTimes k rest = some (l, r3)) := hv
        clear hv hr3 hg3 ho3 hl1 hl2
        (try go_wp2_with fail)
        refine hK.out _ _ ?_ (fun hHeld => ?_)
        · exact trivial
        clear hK K
        (try simp only [Act.put, List.setIfInBounds_toArray, List.set_cons_zero, List.set_cons_succ])
        refine wpAnyH_ready (rs := [5]) (by kernel_rfl) (by simp) ?_
        refine AllReadyH.cons rfl (fun K hK => ?_) AllReadyH.nil
        refine step_append_vals Tryz.underlying22 infoI9 (by rfl) (by omega) rfl (.tmp 16) (.tmp 19) rfl (w.heap.size + 2) (.slice sa m sc) m (X.flatten.map (Value.int .i64)) rfl (by have := K3.out.o; rw [HM.out] at this; exact this) g3 0 k c3 (l.map (Value.int .i64)) rfl (by rw [List.length_map, HLL.out]; omega) (own_src O3.out) (by intro u hu; obtain ⟨x, -, rfl⟩ := List.mem_map.1 hu; rfl) (by omega) (by omega) K3.out.size ?_
        intro v' w6 ho hg hbk hz
        rcases own_kinds ho with ⟨_, e0⟩ | ⟨g6, c6, e6, -, -⟩
        · omega
        subst e6
        have K6 : Hid (MX w (w6.setCell ⟨w.heap.size + 1, 1, none⟩ (.slice (some ⟨g6, 0, none⟩) (m + k) c6)) q r3 k (.slice (some ⟨g6, 0, none⟩) (m + k) c6) (X.flatten ++ l)) := K3.out.more HQ.out hg (by
         rw [List.map_append, List.length_append, HM.out, HLL.out]
         exact ho)
        have P6 := grown_row hg K3.out.p (fun e => by have := (K3.out.o.lt _ e.symm).1; omega)
        have f6 := fun i => frozen_of_row _ _ i _ _ P6
        obtain ⟨x6, y6⟩ := cells2 P6
        clear ho hg hbk hz
        refine hK.out _ _ ?_ (fun hHeld => ?_)
        · exact trivial
        clear hK K
        change wpAnyH _ _ _ _ _ _ _ (Act.put _ (some 20) _) _
        (try simp only [Act.put, List.setIfInBounds_toArray, List.set_cons_zero, List.set_cons_succ])
        refine tkH 6 hHeld ?_
        refine wpAnyH_ready (rs := [7]) (by kernel_rfl) (by simp) ?_
        refine AllReadyH.cons rfl (fun K hK => ?_) AllReadyH.nil
        go_simp
        refine hK.out _ _ ?_ (fun hHeld => ?_)
        · exact trivial
        clear hK K
        (try simp only [Act.put, List.setIfInBounds_toArray, List.set_cons_zero, List.set_cons_succ])
        refine wpAnyH_done (by kernel_rfl) ?_ _
        have HF3 : Hid (lnsF wTimes k k s = ppl (X ++ [l]) (lnsF wTimes k (k - (i + 1)) r3)) := by
         show _ = _
         rw [HX2.out, HV.out, ppl_snoc]
        have hfl : (X ++ [l]).flatten = X.flatten ++ l := by simp
        generalize w6.setCell ⟨w.heap.size + 1, 1, none⟩ (.slice (some ⟨g6, 0, none⟩) (m + k) c6) = W6 at *
        go_wp2_with fail
        go_roundw
        case rel => exact ⟨i + 1, X ++ [l], r3, _, by omega, by first | rfl | go_num, by rw [List.length_append, HXN.out]; rfl, by rw [hfl, List.length_append, HM.out, HLL.out, Nat.add_mul, HXL.out]; omega, by omega, HF3.out, by rw [hfl]; exact K6.out⟩
        case measure => simp [intOf]; omega
      refine AllReadyH.cons rfl (fun K hK => ?_) AllReadyH.nil
      go_simp
      refine (CL.out V0 K2d.out.r).mono ?_
      rintro e w3 (⟨l, r3, sl, hv, rfl, hr3, hg3, ho3⟩ | ⟨hv, rfl, hg3⟩)
      rotate_left
      · exact ⟨rfl, .inr ⟨by rw [HF.out, HX2.out, hv]; rfl, rfl, grown_trans K2d.out.g hg3⟩⟩
      obtain ⟨hl1, hl2, -⟩ := lineF_is hv
      have hr3l : r3.length <= rest.length := by
       have := congrArg List.length hl1
       rw [List.length_append] at this
       omega
      have K3 : Hid (MX w w3 q r3 k (.slice sa m sc) X.flatten) := K2d.out.call HQ.out hg3 hr3
      have HLL : Hid (l.length = k) := hl2
      rw [hl2] at ho3
      rcases own_kinds ho3 with ⟨_, e0⟩ | ⟨g3, c3, e3, -, -⟩
      · omega
      subst e3
      have O3 : Hid (w3.ownsRow V0.heap.size 2 1 (.slice (some ⟨g3, 0, none⟩) k c3) k (l.map (Value.int .i64))) := ho3
      have HV : Hid (lineF wTimes k rest = some (l, r3)) := hv
      clear hv hr3 hg3 ho3 hl1 hl2
      (try go_wp2_with fail)
      refine hK.out _ _ ?_ (fun hHeld => ?_)
      · exact trivial
      clear hK K
      (try simp only [Act.put, List.setIfInBounds_toArray, List.set_cons_zero, List.set_cons_succ])
      refine wpAnyH_ready (rs := [1]) (by kernel_rfl) (by simp) ?_
      refine AllReadyH.cons rfl (fun K hK => ?_) AllReadyH.nil
      obtain ⟨z0, z1⟩ := cells2 K3.out.p
      go_simp
      refine hK.out _ _ ?_ (fun hHeld => ?_)
      · exact trivial
      clear hK K
      clear z0 z1
      (try simp only [Act.put, List.setIfInBounds_toArray, List.set_cons_zero, List.set_cons_succ])
      refine wpAnyH_ready (rs := [5]) (by kernel_rfl) (by simp) ?_
      refine AllReadyH.cons rfl (fun K hK => ?_) AllReadyH.nil
      refine step_append_vals Tryz.underlying22 infoI9 (by rfl) (by omega) rfl (.tmp 16) (.tmp 19) rfl (w.heap.size + 2) (.slice sa m sc) m (X.flatten.map (Value.int .i64)) rfl (by have := K3.out.o; rw [HM.out] at this; exact this) g3 0 k c3 (l.map (Value.int .i64)) rfl (by rw [List.length_map, HLL.out]; omega) (own_src O3.out) (by intro u hu; obtain ⟨x, -, rfl⟩ := List.mem_map.1 hu; rfl) (by omega) (by omega) K3.out.size ?_
      intro v' w6 ho hg hbk hz
      rcases own_kinds ho with ⟨_, e0⟩ | ⟨g6, c6, e6, -, -⟩
      · omega
      subst e6
      have K6 : Hid (MX w (w6.setCell ⟨w.heap.size + 1, 1, none⟩ (.slice (some ⟨g6, 0, none⟩) (m + k) c6)) q r3 k (.slice (some ⟨g6, 0, none⟩) (m + k) c6) (X.flatten ++ l)) := K3.out.more HQ.out hg (by
       rw [List.map_append, List.length_append, HM.out, HLL.out]
       exact ho)
      have P6 := grown_row hg K3.out.p (fun e => by have := (K3.out.o.lt _ e.symm).1; omega)
      have f6 := fun i => frozen_of_row _ _ i _ _ P6
      obtain ⟨x6, y6⟩ := cells2 P6
      clear ho hg hbk hz
      refine hK.out _ _ ?_ (fun hHeld => ?_)
      · exact trivial
      clear hK K
      change wpAnyH _ _ _ _ _ _ _ (Act.put _ (some 20) _) _
      (try simp only [Act.put, List.setIfInBounds_toArray, List.set_cons_zero, List.set_cons_succ])
      refine tkH 6 hHeld ?_
      refine wpAnyH_ready (rs := [7]) (by kernel_rfl) (by simp) ?_
      refine AllReadyH.cons rfl (fun K hK => ?_) AllReadyH.nil
      go_simp
      refine hK.out _ _ ?_ (fun hHeld => ?_)
      · exact trivial
      clear hK K
      (try simp only [Act.put, List.setIfInBounds_toArray, List.set_cons_zero, List.set_cons_succ])
      refine wpAnyH_done (by kernel_rfl) ?_ _
      have HF3 : Hid (lnsF wTimes k k s = ppl (X ++ [l]) (lnsF wTimes k (k - (i + 1)) r3)) := by
       show _ = _
       rw [HX2.out, HV.out, ppl_snoc]
      have hfl : (X ++ [l]).flatten = X.flatten ++ l := by simp
      generalize w6.setCell ⟨w.heap.size + 1, 1, none⟩ (.slice (some ⟨g6, 0, none⟩) (m + k) c6) = W6 at *
      go_wp2_with fail
      go_roundw
      case rel => exact ⟨i + 1, X ++ [l], r3, _, by omega, by first | rfl | go_num, by rw [List.length_append, HXN.out]; rfl, by rw [hfl, List.length_append, HM.out, HLL.out, Nat.add_mul, HXL.out]; omega, by omega, HF3.out, by rw [hfl]; exact K6.out⟩
      case measure => simp [intOf]; omega
    · have hltI : ¬ ((i : Int) < (k : Int)) := by omega
      have HX2 : Hid (matF k s = some (X, rest)) := by
       show _ = _
       rw [HF.out, HX.out, show k - i = 0 by omega, lnsF_zero]
       simp [ppl]
      clear HX
      obtain ⟨c0, c1⟩ := cells2 KW.out.p
      obtain ⟨z0, z1⟩ := cells2 KW.out.z
      have zf := fun i => frozen_of_row _ _ i _ _ KW.out.z
      have K3 : Hid (MX w wr q rest k (.slice sa m sc) X.flatten) := KW.out
      go_wp2
      refine bodyPost_ret (v := .agg #[.int .i64 (k : Int), .slice sa m sc]) (by simp [results, Tryz.results64, go_sem, z0, z1]) rfl ?_
      refine .inl ⟨X, rest, _, HX2.out, rfl, ?_, ?_, ?_⟩
      · refine RX.grown (RX.grown K3.out.r (grown_set _ _ _ _) ?_) (grown_set _ _ _ _) ?_ <;> (have := HQ.out; simp; omega)
      · refine grown_ownR (grown_ownR K3.out.g (grown_set _ _ _ _) ?_) (grown_set _ _ _ _) ?_ <;> (intro g e; simp at e; omega)
      · exact owns_set (owns_set K3.out.o (by omega)) (by omega)
theorem infoO6 : (Tryz.prog.info? 60).map (fun i => (i.zero, i.size, i.bytes)) = some (some (.agg #[Value.int .i64 0, Value.int .i64 0, Value.int .i64 0, Value.int .i64 0, Value.int .i64 0, Value.int .i64 0]), 6, 48) := by kernel_rfl
theorem infoV5 : (Tryz.prog.info? 62).map (fun i => (i.zero, i.size, i.bytes)) = some (some (.agg #[Value.int .i64 0, Value.int .i64 0, Value.int .i64 0, Value.int .i64 0, Value.int .i64 0]), 5, 40) := by kernel_rfl
theorem whileF_end (w : List UInt8) (k m : Nat) (s : List UInt8) (h : (w ++ [32]).isPrefixOf s = false) : whileF w k m s = some ([], s) := by
 cases m <;> simp [whileF, h]
theorem whileF_full (w : List UInt8) (k : Nat) (s : List UInt8) (h : (w ++ [32]).isPrefixOf s = true) : whileF w k 0 s = none := by simp [whileF, h]
theorem whileF_one (w : List UInt8) (k m : Nat) (s : List UInt8) (h : (w ++ [32]).isPrefixOf s = true) : whileF w k (m + 1) s = match lineF w k s with
 | none => none
 | some (l, r) => match whileF w k m r with | none => none | some (X, r2) => some (l :: X, r2) := by
 rw [whileF, if_pos h]; rfl
theorem own_othC {w : World} {base size n k : Nat} {e T : TypeId} {v : Value} {xs : List Value} {cs : Array Value} {q : Nat × Nat} (h : w.ownsRow base e size v n xs) (hr : w.heap[k]? = some (.cells cs T q)) (hT : T ≠ e) : v.ownBlock ≠ some k := fun he => by
 rcases h.2 with ⟨rfl, _⟩ | ⟨g, c, cur, rfl, _, hg, _⟩
 · cases he
 · simp [Value.ownBlock] at he
   rw [he, hr] at hg
   simp at hg
   exact hT hg.2.1
theorem own_rowC {W W' : World} {base size n : Nat} {e : TypeId} {v : Value} {xs : List Value} {row : Option Nat} (h : W.ownsRow base e size v n xs) (hg : W.grownBy W' row) (hne : ∀ k, row = some k -> v.ownBlock ≠ some k) : W'.ownsRow base e size v n xs := by
 refine h.kept hg ?_
 cases hr : row with
 | none => cases hv : v.ownBlock with | none => exact .inl rfl | some _ => right; simp
 | some k => exact .inr (hne k hr)
theorem own_twoC {W : World} {b1 b2 s1 s2 n1 n2 : Nat} {e1 e2 : TypeId} {v1 v2 : Value} {x1 x2 : List Value} (h1 : W.ownsRow b1 e1 s1 v1 n1 x1) (h2 : W.ownsRow b2 e2 s2 v2 n2 x2) (hT : e1 ≠ e2) : ∀ k, v1.ownBlock = some k -> v2.ownBlock ≠ some k := fun k e => by
 rcases h1.2 with ⟨rfl, _⟩ | ⟨g, c, cur, rfl, _, hg, _⟩
 · cases e
 · simp [Value.ownBlock] at e
   subst e
   exact own_othC h2 hg hT
theorem own_intsC {w : World} {base size n c : Nat} {e : TypeId} {a : Option Addr} {l : List Int} (h : w.ownsRow base e size (.slice a n c) n (l.map (Value.int .i64))) : IntsAt w a l := fun j hj => by
 rcases h.2 with ⟨e1, e2⟩ | ⟨g, cap, cur, e1, _⟩
 · have := h.1
   rw [e2, List.length_map] at this
   omega
 · simp only [Value.slice.injEq] at e1
   obtain ⟨rfl, -, -⟩ := e1
   have h9 := h.cells (g := g) rfl j (.int .i64 (l.getD j 0)) (by
    rw [List.getElem?_map, List.getElem?_eq_getElem hj, List.getD_eq_getElem?_getD, List.getElem?_eq_getElem hj]
    rfl)
   rw [add_plain] at h9
   exact ⟨g, 0, rfl, h9⟩
structure CX (w W : World) (q : Nat) (rest : List UInt8) (kb : Nat) (n f : Int) (zl ol vl : Value) (zs : List Int) (Y Z : List (List Int)) : Prop where
 g : w.grownBy W (some q)
 r : RX W q rest
 z : W.heap[w.heap.size]? = some (.cells #[.int .i64 0, .slice none 0 0, .slice none 0 0, .slice none 0 0, .int .i64 0] 28 (0, 0))
 p : W.heap[kb]? = some (.cells #[.int .i64 n, zl, ol, vl, .int .i64 f] 28 (0, 0))
 kk : w.heap.size < kb
 oz : W.ownsRow (w.heap.size + 1) 2 1 zl zs.length (zs.map (Value.int .i64))
 oo : W.ownsRow (w.heap.size + 1) 60 6 ol Y.length (Y.flatten.map (Value.int .i64))
 ov : W.ownsRow (w.heap.size + 1) 62 5 vl Z.length (Z.flatten.map (Value.int .i64))
theorem CX.size {w W : World} {q : Nat} {rest : List UInt8} {kb : Nat} {n f : Int} {zl ol vl : Value} {zs : List Int} {Y Z : List (List Int)} (h : CX w W q rest kb n f zl ol vl zs Y Z) : w.heap.size + 1 <= W.heap.size := row_lt h.z
theorem CX.call {w W W' : World} {q : Nat} {rest rest' : List UInt8} {kb : Nat} {n f : Int} {zl ol vl : Value} {zs : List Int} {Y Z : List (List Int)} (h : CX w W q rest kb n f zl ol vl zs Y Z) (hq : q < w.heap.size) (hg : W.grownBy W' (some q)) (hr : RX W' q rest') : CX w W' q rest' kb n f zl ol vl zs Y Z :=
 have hk := h.kk
 ⟨grown_trans h.g hg, hr, grown_row hg h.z (by simp; omega), grown_row hg h.p (by simp; omega), h.kk, own_kept h.oz hg (by omega), own_kept h.oo hg (by omega), own_kept h.ov hg (by omega)⟩
theorem CX.below {w W W' : World} {q : Nat} {rest : List UInt8} {kb : Nat} {n f : Int} {zl ol vl : Value} {zs : List Int} {Y Z : List (List Int)} (h : CX w W q rest kb n f zl ol vl zs Y Z) (hb : Below W.heap.size W W') : CX w W' q rest kb n f zl ol vl zs Y Z :=
 ⟨grown_ownR h.g (⟨hb.os, hb.tape, hb.output, hb.size, fun j hj _ => hb.block j hj⟩ : W.grownBy W' none) (fun _ e => by cases e), below_row hb (row_lt h.r) h.r, below_row hb (row_lt h.z) h.z, below_row hb (row_lt h.p) h.p, h.kk, owns_below h.oz hb, owns_below h.oo hb, owns_below h.ov hb⟩
theorem CX.moreO {w W W' : World} {q : Nat} {rest : List UInt8} {kb : Nat} {n f : Int} {zl ol vl v' : Value} {zs l : List Int} {Y Z : List (List Int)} (h : CX w W q rest kb n f zl ol vl zs Y Z) (hq : q < w.heap.size)
 (hg : W.grownBy W' ol.ownBlock) (ho : W'.ownsRow (w.heap.size + 1) 60 6 v' (Y.length + 1) ((Y.flatten ++ l).map (Value.int .i64))) : CX w (W'.setCell ⟨kb, 2, none⟩ v') q rest kb n f zl v' vl zs (Y ++ [l]) Z := by
 have hk := h.kk
 have hob : ∀ g, ol.ownBlock = some g -> w.heap.size + 1 <= g := fun g e => (h.oo.lt g e).1
 have hn : ∀ k, k < w.heap.size + 1 -> some k ≠ ol.ownBlock := fun k hk e => by have := hob k e.symm; omega
 have hkb : some kb ≠ ol.ownBlock := fun e => own_othC h.oo h.p (by decide) e.symm
 have P' := grown_row hg h.p hkb
 have Z' := own_rowC h.oz hg (own_twoC h.oo h.oz (by decide))
 have V' := own_rowC h.ov hg (own_twoC h.oo h.ov (by decide))
 have st : ∀ {base size m : Nat} {e : TypeId} {v : Value} {xs : List Value}, W'.ownsRow base e size v m xs -> 28 ≠ e -> (W'.setCell ⟨kb, 2, none⟩ v').ownsRow base e size v m xs := fun {base size m e v xs} h9 hT => own_rowC h9 (grown_set _ _ _ _) (fun k e => by cases e; exact own_othC h9 P' hT)
 refine ⟨grown_ownR (grown_ownR h.g hg (fun g e => by have := hob g e; omega)) (grown_set _ _ _ _) (fun g e => by simp at e; omega), ?_, set_rowM (grown_row hg h.z (hn _ (by omega))) (by omega), heap_setCell_same _ _ _ _ _ _ P', h.kk, st Z' (by decide), ?_, st V' (by decide)⟩
 · exact RX.grown (h.r.grown hg (hn q (by omega))) (grown_set _ _ _ _) (by simp; omega)
 · have e1 : (Y ++ [l]).length = Y.length + 1 := by simp
   have e2 : (Y ++ [l]).flatten = Y.flatten ++ l := by simp
   rw [e1, e2]
   exact st ho (by decide)
theorem CX.moreV {w W W' : World} {q : Nat} {rest : List UInt8} {kb : Nat} {n f : Int} {zl ol vl v' : Value} {zs l : List Int} {Y Z : List (List Int)} (h : CX w W q rest kb n f zl ol vl zs Y Z) (hq : q < w.heap.size)
 (hg : W.grownBy W' vl.ownBlock) (ho : W'.ownsRow (w.heap.size + 1) 62 5 v' (Z.length + 1) ((Z.flatten ++ l).map (Value.int .i64))) : CX w (W'.setCell ⟨kb, 3, none⟩ v') q rest kb n f zl ol v' zs Y (Z ++ [l]) := by
 have hk := h.kk
 have hob : ∀ g, vl.ownBlock = some g -> w.heap.size + 1 <= g := fun g e => (h.ov.lt g e).1
 have hn : ∀ k, k < w.heap.size + 1 -> some k ≠ vl.ownBlock := fun k hk e => by have := hob k e.symm; omega
 have hkb : some kb ≠ vl.ownBlock := fun e => own_othC h.ov h.p (by decide) e.symm
 have P' := grown_row hg h.p hkb
 have Z' := own_rowC h.oz hg (own_twoC h.ov h.oz (by decide))
 have O' := own_rowC h.oo hg (own_twoC h.ov h.oo (by decide))
 have st : ∀ {base size m : Nat} {e : TypeId} {v : Value} {xs : List Value}, W'.ownsRow base e size v m xs -> 28 ≠ e -> (W'.setCell ⟨kb, 3, none⟩ v').ownsRow base e size v m xs := fun {base size m e v xs} h9 hT => own_rowC h9 (grown_set _ _ _ _) (fun k e => by cases e; exact own_othC h9 P' hT)
 refine ⟨grown_ownR (grown_ownR h.g hg (fun g e => by have := hob g e; omega)) (grown_set _ _ _ _) (fun g e => by simp at e; omega), ?_, set_rowM (grown_row hg h.z (hn _ (by omega))) (by omega), heap_setCell_same _ _ _ _ _ _ P', h.kk, st Z' (by decide), st O' (by decide), ?_⟩
 · exact RX.grown (h.r.grown hg (hn q (by omega))) (grown_set _ _ _ _) (by simp; omega)
 · have e1 : (Z ++ [l]).length = Z.length + 1 := by simp
   have e2 : (Z ++ [l]).flatten = Z.flatten ++ l := by simp
   rw [e1, e2]
   exact st ho (by decide)
theorem CX.box {w W : World} {q : Nat} {rest : List UInt8} {kb : Nat} {n f : Int} {zl ol vl : Value} {zs : List Int} {Y Z : List (List Int)} (h : CX w W q rest kb n f zl ol vl zs Y Z) :
 W.cell? ⟨kb, 0, none⟩ = some (.int .i64 n) /\ W.cell? ⟨kb, 1, none⟩ = some zl /\ W.cell? ⟨kb, 2, none⟩ = some ol /\ W.cell? ⟨kb, 3, none⟩ = some vl /\ W.cell? ⟨kb, 4, none⟩ = some (.int .i64 f) := by
 refine ⟨?_, ?_, ?_, ?_, ?_⟩ <;> (rw [cell_of_row _ _ _ _ _ _ h.p]; rfl)
structure SCb (w W : World) (bp : Nat) (c : CV) (zl ol vl : Value) (ll : Value) (lines : List (List UInt8)) : Prop where
 b : Below w.heap.size w W
 z : W.heap[w.heap.size]? = some (.cells #[.int .i64 0, .slice none 0 0, .slice none 0 0, .slice none 0 0, .int .i64 0] 28 (0, 0))
 hp : w.heap.size < bp
 p : W.heap[bp]? = some (.cells #[.int .i64 c.n, zl, ol, vl, .int .i64 c.f] 28 (0, 0))
 oz : W.ownsRow (w.heap.size + 1) 2 1 zl c.zs.length (c.zs.map (Value.int .i64))
 oo : W.ownsRow (w.heap.size + 1) 60 6 ol c.ko (c.os.map (Value.int .i64))
 ov : W.ownsRow (w.heap.size + 1) 62 5 vl c.kv (c.vs.map (Value.int .i64))
 n : W.ownsRow (w.heap.size + 1) 9 1 ll lines.length (strs lines)
theorem SCb.below {w W W' : World} {bp : Nat} {c : CV} {zl ol vl ll : Value} {lines : List (List UInt8)} (h : SCb w W bp c zl ol vl ll lines) (hb : Below W.heap.size W W') : SCb w W' bp c zl ol vl ll lines :=
 ⟨h.b.trans (hb.mono h.b.size), below_row hb (row_lt h.z) h.z, h.hp, below_row hb (row_lt h.p) h.p, owns_below h.oz hb, owns_below h.oo hb, owns_below h.ov hb, owns_below h.n hb⟩
theorem SCb.new {w w1 : World} {ll : Value} {lines : List (List UInt8)} (hB : Below w.heap.size w w1) (hZ : w1.heap[w.heap.size]? = some (.cells #[.int .i64 0, .slice none 0 0, .slice none 0 0, .slice none 0 0, .int .i64 0] 28 (0, 0))) (hn : w1.ownsRow (w.heap.size + 1) 9 1 ll lines.length (strs lines)) :
 SCb w (w1.alloc (.cells #[.int .i64 0, .slice none 0 0, .slice none 0 0, .slice none 0 0, .int .i64 0] 28)) w1.heap.size cv0 (.slice none 0 0) (.slice none 0 0) (.slice none 0 0) ll lines :=
 have hb : Below w1.heap.size w1 (w1.alloc (.cells #[.int .i64 0, .slice none 0 0, .slice none 0 0, .slice none 0 0, .int .i64 0] 28)) := (Below.refl _ _).alloc (Nat.le_refl _) _
 ⟨hB.trans (hb.mono hB.size), below_row hb (row_lt hZ) hZ, row_lt hZ, heap_alloc_new _ _, ⟨by simp [cv0], .inl ⟨rfl, rfl⟩⟩, ⟨by simp [cv0], .inl ⟨rfl, rfl⟩⟩, ⟨by simp [cv0], .inl ⟨rfl, rfl⟩⟩, owns_below hn hb⟩
theorem SCb.box {w W : World} {bp : Nat} {c : CV} {zl ol vl ll : Value} {lines : List (List UInt8)} (h : SCb w W bp c zl ol vl ll lines) :
 W.cell? ⟨bp, 0, none⟩ = some (.int .i64 c.n) /\ W.cell? ⟨bp, 1, none⟩ = some zl /\ W.cell? ⟨bp, 2, none⟩ = some ol /\ W.cell? ⟨bp, 3, none⟩ = some vl /\ W.cell? ⟨bp, 4, none⟩ = some (.int .i64 c.f) := by
 refine ⟨?_, ?_, ?_, ?_, ?_⟩ <;> (rw [cell_of_row _ _ _ _ _ _ h.p]; rfl)
theorem SCb.stay {W : World} {bp i : Nat} {u : Value} {cs : Array Value} {base size m : Nat} {e : TypeId} {v : Value} {xs : List Value} (hp : W.heap[bp]? = some (.cells cs 28 (0, 0))) (h : W.ownsRow base e size v m xs) (hT : 28 ≠ e) : (W.setCell ⟨bp, i, none⟩ u).ownsRow base e size v m xs :=
 own_rowC h (grown_set _ _ _ _) (fun k e => by cases e; exact own_othC h hp hT)
theorem SCb.head {w W : World} {bp : Nat} {c : CV} {zl ol vl ll : Value} {lines : List (List UInt8)} (h : SCb w W bp c zl ol vl ll lines) (n f : Int) : SCb w ((W.setCell ⟨bp, 0, none⟩ (.int .i64 n)).setCell ⟨bp, 4, none⟩ (.int .i64 f)) bp { c with n := n, f := f } zl ol vl ll lines := by
 have hk := h.hp
 have p1 : (W.setCell ⟨bp, 0, none⟩ (.int .i64 n)).heap[bp]? = some (.cells #[.int .i64 n, zl, ol, vl, .int .i64 c.f] 28 (0, 0)) := heap_setCell_same _ _ _ _ _ _ h.p
 refine ⟨Below.setCell (Below.setCell h.b (by simp; omega) _) (by simp; omega) _, set_rowM (set_rowM h.z (by omega)) (by omega), hk, heap_setCell_same _ _ _ _ _ _ p1, ?_, ?_, ?_, ?_⟩
 · exact SCb.stay p1 (SCb.stay h.p h.oz (by decide)) (by decide)
 · exact SCb.stay p1 (SCb.stay h.p h.oo (by decide)) (by decide)
 · exact SCb.stay p1 (SCb.stay h.p h.ov (by decide)) (by decide)
 · exact SCb.stay p1 (SCb.stay h.p h.n (by decide)) (by decide)
theorem SCb.times {w W W' : World} {bp : Nat} {c : CV} {zl ol vl ll v' : Value} {lines : List (List UInt8)} {l : List Int} (h : SCb w W bp c zl ol vl ll lines) (hg : W.grownBy W' zl.ownBlock) (ho : W'.ownsRow (w.heap.size + 1) 2 1 v' (c.zs ++ l).length ((c.zs ++ l).map (Value.int .i64))) :
 SCb w (W'.setCell ⟨bp, 1, none⟩ v') bp { c with zs := c.zs ++ l } v' ol vl ll lines := by
 have hk := h.hp
 have hob : ∀ g, zl.ownBlock = some g -> w.heap.size + 1 <= g := fun g e => (h.oz.lt g e).1
 have P' := grown_row hg h.p (fun e => own_othC h.oz h.p (by decide) e.symm)
 refine ⟨Below.setCell (h.b.grown hg h.b.size (fun g e => by have := hob g e; omega)) (by simp; omega) _, set_rowM (grown_row hg h.z (fun e => by have := hob _ e.symm; omega)) (by omega), hk, heap_setCell_same _ _ _ _ _ _ P', SCb.stay P' ho (by decide), ?_, ?_, ?_⟩
 · exact SCb.stay P' (own_rowC h.oo hg (own_twoC h.oz h.oo (by decide))) (by decide)
 · exact SCb.stay P' (own_rowC h.ov hg (own_twoC h.oz h.ov (by decide))) (by decide)
 · exact SCb.stay P' (own_rowC h.n hg (own_twoC h.oz h.n (by decide))) (by decide)
theorem SCb.order {w W W' : World} {bp : Nat} {c : CV} {zl ol vl ll v' : Value} {lines : List (List UInt8)} {l : List Int} (h : SCb w W bp c zl ol vl ll lines) (hg : W.grownBy W' ol.ownBlock) (ho : W'.ownsRow (w.heap.size + 1) 60 6 v' (c.ko + 1) ((c.os ++ l).map (Value.int .i64))) :
 SCb w (W'.setCell ⟨bp, 2, none⟩ v') bp { c with os := c.os ++ l, ko := c.ko + 1 } zl v' vl ll lines := by
 have hk := h.hp
 have hob : ∀ g, ol.ownBlock = some g -> w.heap.size + 1 <= g := fun g e => (h.oo.lt g e).1
 have P' := grown_row hg h.p (fun e => own_othC h.oo h.p (by decide) e.symm)
 refine ⟨Below.setCell (h.b.grown hg h.b.size (fun g e => by have := hob g e; omega)) (by simp; omega) _, set_rowM (grown_row hg h.z (fun e => by have := hob _ e.symm; omega)) (by omega), hk, heap_setCell_same _ _ _ _ _ _ P', ?_, SCb.stay P' ho (by decide), ?_, ?_⟩
 · exact SCb.stay P' (own_rowC h.oz hg (own_twoC h.oo h.oz (by decide))) (by decide)
 · exact SCb.stay P' (own_rowC h.ov hg (own_twoC h.oo h.ov (by decide))) (by decide)
 · exact SCb.stay P' (own_rowC h.n hg (own_twoC h.oo h.n (by decide))) (by decide)
theorem SCb.vehicle {w W W' : World} {bp : Nat} {c : CV} {zl ol vl ll v' : Value} {lines : List (List UInt8)} {l : List Int} (h : SCb w W bp c zl ol vl ll lines) (hg : W.grownBy W' vl.ownBlock) (ho : W'.ownsRow (w.heap.size + 1) 62 5 v' (c.kv + 1) ((c.vs ++ l).map (Value.int .i64))) :
 SCb w (W'.setCell ⟨bp, 3, none⟩ v') bp { c with vs := c.vs ++ l, kv := c.kv + 1 } zl ol v' ll lines := by
 have hk := h.hp
 have hob : ∀ g, vl.ownBlock = some g -> w.heap.size + 1 <= g := fun g e => (h.ov.lt g e).1
 have P' := grown_row hg h.p (fun e => own_othC h.ov h.p (by decide) e.symm)
 refine ⟨Below.setCell (h.b.grown hg h.b.size (fun g e => by have := hob g e; omega)) (by simp; omega) _, set_rowM (grown_row hg h.z (fun e => by have := hob _ e.symm; omega)) (by omega), hk, heap_setCell_same _ _ _ _ _ _ P', ?_, ?_, SCb.stay P' ho (by decide), ?_⟩
 · exact SCb.stay P' (own_rowC h.oz hg (own_twoC h.ov h.oz (by decide))) (by decide)
 · exact SCb.stay P' (own_rowC h.oo hg (own_twoC h.ov h.oo (by decide))) (by decide)
 · exact SCb.stay P' (own_rowC h.n hg (own_twoC h.ov h.n (by decide))) (by decide)
theorem lnsC_snoc (ls : List (List UInt8)) (x : List UInt8) : lnsC (ls ++ [x]) = lineC (lnsC ls) x := by simp [lnsC]
theorem lnsC_bad (ls ms : List (List UInt8)) (h : lnsC ls = none) : lnsC (ls ++ ms) = none := by
 unfold lnsC at *
 rw [List.foldl_append, h]
 exact lineC_none ms
theorem cellsR_at (W : World) (g : Nat) (l : List Int) (T : TypeId) (h : W.heap[g]? = some (.cells (l.map (Value.int .i64)).toArray T (0, 0))) : ∀ (j : Nat) (u : Value), (l.map (Value.int .i64))[j]? = some u -> W.cell? ⟨g, 0 + j, none⟩ = some u := fun j u hj => by
 rw [Nat.zero_add, cell_of_row _ _ _ _ _ _ h]
 simpa using hj
theorem own_capC {w : World} {base size n c : Nat} {e : TypeId} {a : Option Addr} {xs : List Value} (h : w.ownsRow base e size (.slice a n c) n xs) : n <= c /\ c <= maxLen := by
 obtain ⟨_, ⟨h1, h2⟩ | ⟨g', c', cur, h1, _, _, h2, h3, _⟩⟩ := h
 · simp only [Value.slice.injEq] at h1
   exact ⟨by omega, by unfold maxLen; omega⟩
 · simp only [Value.slice.injEq] at h1
   obtain ⟨-, -, rfl⟩ := h1
   exact ⟨h2, h3⟩
def SReadOkC (w : World) (s : List UInt8) (e : Ending) (w' : World) : Prop :=
 (∃ c zl ol vl, specC s = some c /\ e = .returned (.tuple #[.agg #[.int .i64 c.n, zl, ol, vl, .int .i64 c.f], .bool true]) /\ Below w.heap.size w w' /\ w'.ownsRow (w.heap.size + 1) 2 1 zl c.zs.length (c.zs.map (Value.int .i64)) /\ w'.ownsRow (w.heap.size + 1) 60 6 ol c.ko (c.os.map (Value.int .i64)) /\ w'.ownsRow (w.heap.size + 1) 62 5 vl c.kv (c.vs.map (Value.int .i64))) ∨ (specC s = none /\ e = .returned (.tuple #[.agg #[.int .i64 0, .slice none 0 0, .slice none 0 0, .slice none 0 0, .int .i64 0], .bool false]) /\ Below w.heap.size w w')
set_option maxHeartbeats 8000000 in
set_option maxRecDepth 20000 in
theorem specReadCase_any (s : List UInt8) (w : World) (hs : s.length <= 1048576) :
 Calls Tryz.prog 12 #[.string (txt s)] w (SReadOkC w s) := by
 have HS : Hid ((txt s).size = s.length) := txt_size s
 obtain ⟨a, HA⟩ : ∃ a, Hid (txt s = a) := ⟨_, rfl⟩
 obtain ⟨sn, HSN⟩ : ∃ n, Hid (s.length = n) := ⟨_, rfl⟩
 have CL := l2Lines_any s (w.alloc (.cells #[.int .i64 0, .slice none 0 0, .slice none 0 0, .slice none 0 0, .int .i64 0] 28)) hs
 rw [HA.out] at CL ⊢
 rw [HA.out, HSN.out] at HS
 have hn : a.size = sn := HS.out
 have HSUM : Hid (lnSum (sepF 10 s).1 <= sn) := HSN.out ▸ lines_sum s
 have HLEN : Hid ((sepF 10 s).1.length <= sn) := by
  have := (sep_len (p := 10) s [] []).1
  show _ <= _
  rw [<- HSN.out]
  simpa [sepF] using this
 have HSP : Hid (specFC s = if (sepF 10 s).2 = [] /\ sn <= 20000 then lnsC (sepF 10 s).1 else none) := by show _ = _; unfold specFC; rw [HSN.out]
 have HSR : Hid (specC s = match specFC s with | none => none | some c => if s ≠ [] /\ c.txt0 = s then some c else none) := rfl
 have HWD : Hid (∀ x ∈ (sepF 10 s).1, x.length <= sn) := fun x hx => by
  have := sep_word (p := 10) s [] [] s.length (fun x hx => by simp at hx) (by simp) x hx
  rw [HSN.out] at this
  exact this
 rw [HSN.out] at hs
 obtain ⟨q2, HQ2⟩ : ∃ q, Hid ((sepF 10 s).2 = q) := ⟨_, rfl⟩
 obtain ⟨lines, HLN⟩ : ∃ q, Hid ((sepF 10 s).1 = q) := ⟨_, rfl⟩
 rw [HLN.out] at CL HSUM HLEN HSP HWD
 rw [HQ2.out] at CL HSP
 have B0 : Hid (Below w.heap.size w (w.alloc (.cells #[.int .i64 0, .slice none 0 0, .slice none 0 0, .slice none 0 0, .int .i64 0] 28))) := (Below.refl _ _).alloc (Nat.le_refl _) _
 have Z0 : Hid ((w.alloc (.cells #[.int .i64 0, .slice none 0 0, .slice none 0 0, .slice none 0 0, .int .i64 0] 28)).heap[w.heap.size]? = some (.cells #[.int .i64 0, .slice none 0 0, .slice none 0 0, .slice none 0 0, .int .i64 0] 28 (0, 0))) := heap_alloc_new _ _
 have S0 : Hid ((w.alloc (.cells #[.int .i64 0, .slice none 0 0, .slice none 0 0, .slice none 0 0, .int .i64 0] 28)).heap.size = w.heap.size + 1) := by show _ = _; simp
 go_enter Tryz.func12, Tryz.ntmps12
 go_wp2_with fail
 generalize w.alloc (.cells #[.int .i64 0, .slice none 0 0, .slice none 0 0, .slice none 0 0, .int .i64 0] 28) = W0 at *
 refine CL.mono ?_
 rintro e w1 ⟨ll, rfl, hb, ho⟩
 have B1 : Hid (Below w.heap.size w w1) := B0.out.trans (hb.mono B0.out.size)
 have Z1 : Hid (w1.heap[w.heap.size]? = some (.cells #[.int .i64 0, .slice none 0 0, .slice none 0 0, .slice none 0 0, .int .i64 0] 28 (0, 0))) := below_row hb (row_lt Z0.out) Z0.out
 rw [S0.out] at ho
 obtain ⟨la, lc, e, -⟩ := own_sl9 ho
 subst e
 have N1 : Hid (w1.ownsRow (w.heap.size + 1) 9 1 (.slice la lines.length lc) lines.length (strs lines)) := ho
 clear hb ho CL B0 Z0
 obtain ⟨N, HNN⟩ : ∃ n, Hid (lines.length = n) := ⟨_, rfl⟩
 rw [HNN.out] at HLEN ⊢
 have hN := HLEN.out
 obtain ⟨c0, c1, c2, c3, c4⟩ := cells5 Z1.out
 have zf := fun i => frozen_of_row _ _ i _ _ Z1.out
 have hcase : (¬ (q2 = []) /\ decide (q2 = []) = false) ∨ (q2 = [] /\ decide (q2 = []) = true /\ (20000 : Int) < sn) ∨ (q2 = [] /\ decide (q2 = []) = true /\ ¬ ((20000 : Int) < sn)) := by
  by_cases h : q2 = []
  · by_cases h2 : (20000 : Int) < sn
    · exact .inr (.inl ⟨h, decide_eq_true h, h2⟩)
    · exact .inr (.inr ⟨h, decide_eq_true h, h2⟩)
  · exact .inl ⟨h, decide_eq_false h⟩
 have HNOT : Hid ((¬ (q2 = []) ∨ (20000 : Int) < sn) -> specC s = none) := fun h => by rw [HSR.out, HSP.out, if_neg (fun h2 => by rcases h with h | h; exact h h2.1; omega)]
 rcases hcase with ⟨hq, hqd⟩ | ⟨hq, hqd, hbig⟩ | ⟨hq, hqd, hbig⟩
 · have HR : Hid (specC s = none) := HNOT.out (.inl hq)
   rw [hqd]
   go_wp2
   refine bodyPost_ret (v := .tuple #[.agg #[.int .i64 0, .slice none 0 0, .slice none 0 0, .slice none 0 0, .int .i64 0], .bool false]) (by simp [results, Tryz.results12, go_sem, c0, c1, c2, c3, c4]) rfl ?_
   refine .inr ⟨HR.out, rfl, ?_⟩
   exact Below.setCell (Below.setCell (Below.setCell (Below.setCell (Below.setCell B1.out (by simp) _) (by simp) _) (by simp) _) (by simp) _) (by simp) _
 · have HR : Hid (specC s = none) := HNOT.out (.inr hbig)
   rw [hqd]
   go_wp2
   refine bodyPost_ret (v := .tuple #[.agg #[.int .i64 0, .slice none 0 0, .slice none 0 0, .slice none 0 0, .int .i64 0], .bool false]) (by simp [results, Tryz.results12, go_sem, c0, c1, c2, c3, c4]) rfl ?_
   refine .inr ⟨HR.out, rfl, ?_⟩
   exact Below.setCell (Below.setCell (Below.setCell (Below.setCell (Below.setCell B1.out (by simp) _) (by simp) _) (by simp) _) (by simp) _) (by simp) _
 have HSP2 : Hid (specFC s = lnsC lines) := by show _ = _; rw [HSP.out, if_pos ⟨hq, by omega⟩]
 have hsn : sn <= 20000 := by omega
 clear HNOT HSP hq c0 c1 c2 c3 c4 zf
 rw [hqd]
 clear hqd
 have K0 : Hid (SCb w (w1.alloc (.cells #[.int .i64 0, .slice none 0 0, .slice none 0 0, .slice none 0 0, .int .i64 0] 28)) w1.heap.size cv0 (.slice none 0 0) (.slice none 0 0) (.slice none 0 0) (.slice la N lc) lines) := by
  have := SCb.new B1.out Z1.out N1.out
  rw [HNN.out] at this
  exact this
 go_wp2_with fail
 generalize w1.alloc (.cells #[.int .i64 0, .slice none 0 0, .slice none 0 0, .slice none 0 0, .int .i64 0] 28) = V9 at *
 generalize w1.heap.size = bp at *
 clear Z1 B1 N1
 go_loopw [7] (fun ti wr => ∃ (j : Nat) (c : CV) (zl ol vl : Value), j <= N /\ ti = .int .i64 j /\ lnsC (lines.take j) = some c /\ c.zs.length <= lnSum (lines.take j) /\ c.ko <= j /\ c.kv <= j /\ c.lens /\ SCb w wr bp c zl ol vl (.slice la N lc) lines) (fun ti _ => N - (intOf ti).toNat)
 case atStart => exact ⟨0, cv0, _, _, _, Nat.zero_le _, rfl, rfl, Nat.zero_le _, Nat.le_refl _, Nat.le_refl _, ⟨rfl, rfl⟩, K0.out⟩
 case round =>
  clear K0
  obtain ⟨j, ⟨n, f, zs, os, vs, ko, kv⟩, zl, ol, vl, hj, rfl, hlf, hzl, hko, hkv, hln, hk⟩ := hrel
  simp only at hzl hko hkv
  have HLF : Hid (lnsC (lines.take j) = some (⟨n, f, zs, os, vs, ko, kv⟩ : CV)) := hlf
  have HZL : Hid (zs.length <= lnSum (lines.take j)) := hzl
  have HLE : Hid (CV.lens (⟨n, f, zs, os, vs, ko, kv⟩ : CV)) := hln
  obtain ⟨za, zc, e1, -⟩ := own_sl9 hk.oz
  obtain ⟨oa, oc, e2, -⟩ := own_sl9 hk.oo
  obtain ⟨va, vc, e3, -⟩ := own_sl9 hk.ov
  simp only at e1 e2 e3
  obtain ⟨m, HM⟩ : ∃ m, Hid (zs.length = m) := ⟨_, rfl⟩
  rw [HM.out] at e1
  subst e1 e2 e3
  have hmb : m <= 20000 := by
   have h2 := take_sum lines j
   have h3 := HSUM.out
   rw [HM.out] at hzl
   omega
  have KW : Hid (SCb w wr bp (⟨n, f, zs, os, vs, ko, kv⟩ : CV) (.slice za m zc) (.slice oa ko oc) (.slice va kv vc) (.slice la N lc) lines) := hk
  clear hlf hzl hln hk
  by_cases hlt : j < N
  · have hltI : (j : Int) < (N : Int) := by omega
    have hjl : j < lines.length := by rw [HNN.out]; exact hlt
    rcases own_kinds KW.out.n with ⟨_, h0⟩ | ⟨gl, cl, e, -, -⟩
    · rw [HNN.out] at h0
      omega
    rw [HNN.out] at e
    simp only [Value.slice.injEq, true_and] at e
    obtain ⟨rfl, rfl⟩ := e
    have hcx := (own_cellV (k := j) (by have := KW.out.n; rw [HNN.out] at this; exact this) (strs_at lines j hjl)).1
    have hxm : lines.getD j [] ∈ lines := by rw [List.getD_eq_getElem?_getD, List.getElem?_eq_getElem hjl]; simp
    have hxl := HWD.out _ hxm
    have HT : Hid (lines.take (j + 1) = lines.take j ++ [lines.getD j []]) := getD_snoc_take lines j hjl
    have HBAD : Hid (cutF (lines.getD j []) = none -> specC s = none) := fun h => by
     have h1 : lnsC (lines.take (j + 1)) = none := by rw [HT.out, lnsC_snoc, HLF.out]; unfold lineC; simp only; rw [h]
     have h2 := lnsC_bad _ (lines.drop (j + 1)) h1
     rw [List.take_append_drop] at h2
     rw [HSR.out, HSP2.out, h2]
    have HLS : Hid (lnsC (lines.take (j + 1)) = lineC (some (⟨n, f, zs, os, vs, ko, kv⟩ : CV)) (lines.getD j [])) := by show _ = _; rw [HT.out, lnsC_snoc, HLF.out]
    have HS1 : Hid (lnSum (lines.take (j + 1)) = lnSum (lines.take j) + (lines.getD j []).length) := by show _ = _; rw [HT.out, lnSum_snoc]
    have C := l2Cut_any (lines.getD j []) wr (by omega)
    have HCL : Hid (∀ wd l, cutF (lines.getD j []) = some (wd, l) -> l.length <= (lines.getD j []).length /\ wd.length <= (lines.getD j []).length) := fun wd l h => cutF_len h
    generalize lines.getD j [] = xl at *
    clear hxm hjl
    go_wp2_with fail
    clear hcx
    refine C.mono ?_
    rintro e w2 (⟨wd, l, sl, hc, rfl, hb, ho, hnn⟩ | ⟨hc, rfl, hb⟩)
    · have K2 : Hid (SCb w w2 bp (⟨n, f, zs, os, vs, ko, kv⟩ : CV) (.slice za m zc) (.slice oa ko oc) (.slice va kv vc) (.slice (some ⟨gl, 0, none⟩) N lc) lines) := KW.out.below hb
      obtain ⟨hcl1, hcl2⟩ := HCL.out wd l hc
      rcases own_kinds ho with ⟨e, _⟩ | ⟨lg, cc, e, -, -⟩
      · exact absurd e hnn
      subst e
      clear hnn
      obtain ⟨k, HK⟩ : ∃ k, Hid (l.length = k) := ⟨_, rfl⟩
      rw [HK.out] at ho hcl1 ⊢
      have Q2 : Hid (w2.ownsRow (w.heap.size + 1) 2 1 (.slice (some ⟨lg, 0, none⟩) k cc) k (l.map (Value.int .i64))) := owns_base ho (by have := row_lt KW.out.p; have := KW.out.hp; omega)
      have HL2 : Hid (lnsC (lines.take (j + 1)) = some (stepC (⟨n, f, zs, os, vs, ko, kv⟩ : CV) wd l)) := by show _ = _; rw [HLS.out]; unfold lineC; simp only; rw [hc]
      have HLE2 : Hid (stepC (⟨n, f, zs, os, vs, ko, kv⟩ : CV) wd l).lens := step_lens _ wd l HLE.out
      clear hb ho hc C HBAD HCL HLS KW
      have etl : (txt wd).toList = wd := by rw [ByteArray.toList_eq]; rfl
      by_cases nwCase : wd = wCase
      · have hw := nwCase
        have hwCase : ((txt wd).toList == [99, 97, 115, 101]) = true := by rw [etl, hw]; rfl
        have hwTimes : ((txt wd).toList == [116, 105, 109, 101, 115]) = false := by rw [etl, hw]; rfl
        have hwOrder : ((txt wd).toList == [111, 114, 100, 101, 114]) = false := by rw [etl, hw]; rfl
        have hwVehicle : ((txt wd).toList == [118, 101, 104, 105, 99, 108, 101]) = false := by rw [etl, hw]; rfl
        by_cases hk : k = 2
        · subst hk
          obtain ⟨i0, i1, rfl⟩ : ∃ i0 i1, l = [i0, i1] := by
           have := HK.out
           match l, this with
           | [i0, i1], _ => exact ⟨i0, i1, rfl⟩
          have e9 : stepC (⟨n, f, zs, os, vs, ko, kv⟩ : CV) wd [i0, i1] = (⟨i0, i1, zs, os, vs, ko, kv⟩ : CV) := by simp [stepC, hw]
          have HL3 : Hid (lnsC (lines.take (j + 1)) = some (⟨i0, i1, zs, os, vs, ko, kv⟩ : CV)) := by show _ = _; rw [HL2.out, e9]
          have HLE3 : Hid (CV.lens (⟨i0, i1, zs, os, vs, ko, kv⟩ : CV)) := by have := HLE2.out; rw [e9] at this; exact this
          clear e9 HL2 HLE2
          clear hw etl
          generalize txt wd = twd at *
          have q0 := own_src Q2.out 0 _ rfl
          have q1 := own_src Q2.out 1 _ rfl
          obtain ⟨x0, x1, x2, x3, x4⟩ := K2.out.box
          have pf := fun i => frozen_of_row _ _ i _ _ K2.out.p
          have nlb : lg ≠ bp := fun e => own_othC Q2.out K2.out.p (by decide) (by rw [<- e]; rfl)
          have K3 : Hid (SCb w ((w2.setCell ⟨bp, 0, none⟩ (.int .i64 i0)).setCell ⟨bp, 4, none⟩ (.int .i64 i1)) bp (⟨i0, i1, zs, os, vs, ko, kv⟩ : CV) (.slice za m zc) (.slice oa ko oc) (.slice va kv vc) (.slice (some ⟨gl, 0, none⟩) N lc) lines) := K2.out.head i0 i1
          go_wp2_with fail
          clear q0 q1 x0 x1 x2 x3 x4 pf
          generalize ((w2.setCell ⟨bp, 0, none⟩ (.int .i64 i0)).setCell ⟨bp, 4, none⟩ (.int .i64 i1)) = W3 at *
          go_roundw
          case rel => exact ⟨j + 1, _, _, _, _, by omega, by go_num, HL3.out, by have h1 := HZL.out; have h2 := HS1.out; simp only; omega, by simp only; omega, by simp only; omega, HLE3.out, K3.out⟩
          case measure => simp [intOf]; omega
        · have hkI : ((k : Int) == 2) = false := by simp; omega
          have e9 : stepC (⟨n, f, zs, os, vs, ko, kv⟩ : CV) wd l = (⟨n, f, zs, os, vs, ko, kv⟩ : CV) := by simp [stepC, hw, wCase, wTimes, wOrder, wVehicle, HK.out, hk]
          have HL3 : Hid (lnsC (lines.take (j + 1)) = some (⟨n, f, zs, os, vs, ko, kv⟩ : CV)) := by show _ = _; rw [HL2.out, e9]
          have HLE3 : Hid (CV.lens (⟨n, f, zs, os, vs, ko, kv⟩ : CV)) := by have := HLE2.out; rw [e9] at this; exact this
          clear e9 HL2 HLE2
          clear hw etl
          generalize txt wd = twd at *
          go_wp2_with fail
          go_roundw
          case rel => exact ⟨j + 1, _, _, _, _, by omega, by go_num, HL3.out, by have h1 := HZL.out; have h2 := HS1.out; simp only; omega, by simp only; omega, by simp only; omega, HLE3.out, K2.out⟩
          case measure => simp [intOf]; omega
      by_cases nwTimes : wd = wTimes
      · have hw := nwTimes
        have hwCase : ((txt wd).toList == [99, 97, 115, 101]) = false := by rw [etl, hw]; rfl
        have hwTimes : ((txt wd).toList == [116, 105, 109, 101, 115]) = true := by rw [etl, hw]; rfl
        have hwOrder : ((txt wd).toList == [111, 114, 100, 101, 114]) = false := by rw [etl, hw]; rfl
        have hwVehicle : ((txt wd).toList == [118, 101, 104, 105, 99, 108, 101]) = false := by rw [etl, hw]; rfl
        have e9 : stepC (⟨n, f, zs, os, vs, ko, kv⟩ : CV) wd l = (⟨n, f, zs ++ l, os, vs, ko, kv⟩ : CV) := by simp [stepC, hw, wCase, wTimes]
        have HL3 : Hid (lnsC (lines.take (j + 1)) = some (⟨n, f, zs ++ l, os, vs, ko, kv⟩ : CV)) := by show _ = _; rw [HL2.out, e9]
        have HLE3 : Hid (CV.lens (⟨n, f, zs ++ l, os, vs, ko, kv⟩ : CV)) := by have := HLE2.out; rw [e9] at this; exact this
        clear e9 HL2 HLE2
        clear hw etl
        generalize txt wd = twd at *
        obtain ⟨x0, x1, x2, x3, x4⟩ := K2.out.box
        have HBB : Hid (w.heap.size + 1 <= w2.heap.size) := by have := row_lt K2.out.p; have := K2.out.hp; show _ <= _; omega
        have OZ : Hid (w2.ownsRow (w.heap.size + 1) 2 1 (.slice za m zc) m (zs.map (Value.int .i64))) := by have := K2.out.oz; simp only at this; rw [HM.out] at this; exact this
        go_wp2_with (
         at_builtin
         refine append_vals Tryz.underlying22 Tryz.info2 rfl (by decide) _ rfl _ _ rfl (w.heap.size + 1) (.slice za m zc) m (zs.map (Value.int .i64)) rfl OZ.out lg 0 k cc (l.map (Value.int .i64)) rfl (by rw [List.length_map, HK.out, Nat.mul_one]) (own_src Q2.out) (by intro u hu; obtain ⟨z, _, rfl⟩ := List.mem_map.1 hu; rfl) (by omega) (by omega) HBB.out ?_
         intro v' w4 ho4 hg4 hb4 hz4
         have K4 : Hid (SCb w (w4.setCell ⟨bp, 1, none⟩ v') bp (⟨n, f, zs ++ l, os, vs, ko, kv⟩ : CV) v' (.slice oa ko oc) (.slice va kv vc) (.slice (some ⟨gl, 0, none⟩) N lc) lines) := K2.out.times hg4 (by simp only; rw [List.map_append, List.length_append, HM.out, HK.out]; exact ho4)
         have P4 := grown_row hg4 K2.out.p (fun e => own_othC K2.out.oz K2.out.p (by decide) e.symm)
         obtain ⟨y0, y1, y2, y3, y4⟩ := cells5 P4
         have f4 := fun i => frozen_of_row _ _ i _ _ P4
         obtain ⟨ya, yc, e4, -⟩ := own_sl9 ho4
         subst e4
         clear ho4 hg4 hb4 hz4 P4)
        generalize w4.setCell ⟨bp, 1, none⟩ (.slice ya (m + k) yc) = W4 at *
        go_roundw
        case rel => exact ⟨j + 1, _, _, _, _, by omega, by go_num, HL3.out, by have h1 := HZL.out; have h2 := HS1.out; simp only; rw [List.length_append, HK.out]; omega, by simp only; omega, by simp only; omega, HLE3.out, K4.out⟩
        case measure => simp [intOf]; omega
      by_cases nwOrder : wd = wOrder
      · have hw := nwOrder
        have hwCase : ((txt wd).toList == [99, 97, 115, 101]) = false := by rw [etl, hw]; rfl
        have hwTimes : ((txt wd).toList == [116, 105, 109, 101, 115]) = false := by rw [etl, hw]; rfl
        have hwOrder : ((txt wd).toList == [111, 114, 100, 101, 114]) = true := by rw [etl, hw]; rfl
        have hwVehicle : ((txt wd).toList == [118, 101, 104, 105, 99, 108, 101]) = false := by rw [etl, hw]; rfl
        by_cases hk : k = 6
        · subst hk
          obtain ⟨i0, i1, i2, i3, i4, i5, rfl⟩ : ∃ i0 i1 i2 i3 i4 i5, l = [i0, i1, i2, i3, i4, i5] := by
           have := HK.out
           match l, this with
           | [i0, i1, i2, i3, i4, i5], _ => exact ⟨i0, i1, i2, i3, i4, i5, rfl⟩
          have e9 : stepC (⟨n, f, zs, os, vs, ko, kv⟩ : CV) wd [i0, i1, i2, i3, i4, i5] = (⟨n, f, zs, os ++ [i0, i1, i2, i3, i4, i5], vs, ko + 1, kv⟩ : CV) := by simp [stepC, hw, wCase, wTimes, wOrder]
          have HL3 : Hid (lnsC (lines.take (j + 1)) = some (⟨n, f, zs, os ++ [i0, i1, i2, i3, i4, i5], vs, ko + 1, kv⟩ : CV)) := by show _ = _; rw [HL2.out, e9]
          have HLE3 : Hid (CV.lens (⟨n, f, zs, os ++ [i0, i1, i2, i3, i4, i5], vs, ko + 1, kv⟩ : CV)) := by have := HLE2.out; rw [e9] at this; exact this
          clear e9 HL2 HLE2
          clear hw etl
          generalize txt wd = twd at *
          go_wp2_with fail
          refine wp_region_held_drew (S := (fun W => W.cell? ⟨lg, 0, none⟩ = some (.int .i64 i0) /\ W.cell? ⟨lg, 1, none⟩ = some (.int .i64 i1) /\ W.cell? ⟨lg, 2, none⟩ = some (.int .i64 i2) /\ W.cell? ⟨lg, 3, none⟩ = some (.int .i64 i3) /\ W.cell? ⟨lg, 4, none⟩ = some (.int .i64 i4) /\ W.cell? ⟨lg, 5, none⟩ = some (.int .i64 i5))) (by kernel_rfl) ?_ (fun hHeld => ?_)
          · exact ⟨own_src Q2.out 0 _ rfl, own_src Q2.out 1 _ rfl, own_src Q2.out 2 _ rfl, own_src Q2.out 3 _ rfl, own_src Q2.out 4 _ rfl, own_src Q2.out 5 _ rfl⟩
          have K2d : Hid (SCb w w2.drew bp (⟨n, f, zs, os, vs, ko, kv⟩ : CV) (.slice za m zc) (.slice oa ko oc) (.slice va kv vc) (.slice (some ⟨gl, 0, none⟩) N lc) lines) := K2.out.below (Below.refl _ _).drew
          have OLd : Hid (World.ownsRow w2.drew (w.heap.size + 1) 2 1 (.slice (some ⟨lg, 0, none⟩) 6 cc) 6 ([i0, i1, i2, i3, i4, i5].map (Value.int .i64))) := Q2.out.drew
          clear K2 Q2
          generalize w2.drew = V0 at *
          refine tkH 0 hHeld ?_
          refine tkH 2 hHeld ?_
          refine tkH 3 hHeld ?_
          refine tkH 4 hHeld ?_
          refine tkH 5 hHeld ?_
          refine tkH 6 hHeld ?_
          refine tkH 7 hHeld ?_
          refine tkH 8 hHeld ?_
          refine tkH 9 hHeld ?_
          refine tkH 10 hHeld ?_
          refine tkH 11 hHeld ?_
          refine tkH 12 hHeld ?_
          refine tkH 13 hHeld ?_
          refine tkH 14 hHeld ?_
          refine tkH 15 hHeld ?_
          refine tkH 16 hHeld ?_
          refine tkH 17 hHeld ?_
          refine tkH 18 hHeld ?_
          refine tkH 19 hHeld ?_
          refine tkH 20 hHeld ?_
          refine wpAnyH_ready (rs := [1, 21]) (by kernel_rfl) (by simp) ?_
          refine AllReadyH.cons rfl (fun K hK => ?_) ?_
          · skip
            obtain ⟨z0, z1, z2, z3, z4⟩ := K2d.out.box
            go_simp
            refine hK.out _ _ ?_ (fun hHeld => ?_)
            · exact ⟨own_src OLd.out 0 _ rfl, own_src OLd.out 1 _ rfl, own_src OLd.out 2 _ rfl, own_src OLd.out 3 _ rfl, own_src OLd.out 4 _ rfl, own_src OLd.out 5 _ rfl⟩
            clear hK K
            clear z0 z1 z2 z3 z4
            (try simp only [Act.put, List.setIfInBounds_toArray, List.set_cons_zero, List.set_cons_succ])
            refine wpAnyH_ready (rs := [21]) (by kernel_rfl) (by simp) ?_
            refine AllReadyH.cons rfl (fun K hK => ?_) AllReadyH.nil
            have K5 : Hid (SCb w (V0.alloc (.cells #[.int .i64 i0, .int .i64 i1, .int .i64 i2, .int .i64 i3, .int .i64 i4, .int .i64 i5] 60)) bp (⟨n, f, zs, os, vs, ko, kv⟩ : CV) (.slice za m zc) (.slice oa ko oc) (.slice va kv vc) (.slice (some ⟨gl, 0, none⟩) N lc) lines) := K2d.out.below ((Below.refl _ _).alloc (Nat.le_refl _) _)
            have OL5 : Hid (World.ownsRow (V0.alloc (.cells #[.int .i64 i0, .int .i64 i1, .int .i64 i2, .int .i64 i3, .int .i64 i4, .int .i64 i5] 60)) (w.heap.size + 1) 2 1 (.slice (some ⟨lg, 0, none⟩) 6 cc) 6 ([i0, i1, i2, i3, i4, i5].map (Value.int .i64))) := OLd.out.alloc _
            have V5 : Hid ((V0.alloc (.cells #[.int .i64 i0, .int .i64 i1, .int .i64 i2, .int .i64 i3, .int .i64 i4, .int .i64 i5] 60)).heap[V0.heap.size]? = some (.cells ([i0, i1, i2, i3, i4, i5].map (Value.int .i64)).toArray 60 (0, 0))) := heap_alloc_new _ _
            go_simp
            refine hK.out _ _ ?_ (fun hHeld => ?_)
            · exact ⟨own_src OL5.out 0 _ rfl, own_src OL5.out 1 _ rfl, own_src OL5.out 2 _ rfl, own_src OL5.out 3 _ rfl, own_src OL5.out 4 _ rfl, own_src OL5.out 5 _ rfl⟩
            clear hK K
            generalize (V0.alloc (.cells #[.int .i64 i0, .int .i64 i1, .int .i64 i2, .int .i64 i3, .int .i64 i4, .int .i64 i5] 60)) = w5 at *
            generalize V0.heap.size = b5 at *
            (try simp only [Act.put, List.setIfInBounds_toArray, List.set_cons_zero, List.set_cons_succ])
            refine wpAnyH_ready (rs := [22]) (by kernel_rfl) (by simp) ?_
            refine AllReadyH.cons rfl (fun K hK => ?_) AllReadyH.nil
            refine step_append_vals Tryz.underlying25 infoO6 (by rfl) (by omega) rfl (.tmp 80) (.tmp 100) rfl (w.heap.size + 1) (.slice oa ko oc) ko (os.map (Value.int .i64)) rfl K5.out.oo b5 0 1 1 ([i0, i1, i2, i3, i4, i5].map (Value.int .i64)) rfl rfl (cellsR_at _ _ _ _ V5.out) (by intro u hu; obtain ⟨x, -, rfl⟩ := List.mem_map.1 hu; rfl) (by omega) (by omega) (Nat.le_trans K5.out.hp (Nat.le_of_lt (row_lt K5.out.p))) ?_
            intro v' w6 ho hg hbk hz
            rcases own_kinds ho with ⟨_, e0⟩ | ⟨g6, c6, e6, -, -⟩
            · omega
            subst e6
            have K6 : Hid (SCb w (w6.setCell ⟨bp, 2, none⟩ (.slice (some ⟨g6, 0, none⟩) (ko + 1) c6)) bp (⟨n, f, zs, os ++ [i0, i1, i2, i3, i4, i5], vs, ko + 1, kv⟩ : CV) (.slice za m zc) (.slice (some ⟨g6, 0, none⟩) (ko + 1) c6) (.slice va kv vc) (.slice (some ⟨gl, 0, none⟩) N lc) lines) := K5.out.order hg (by rw [List.map_append]; exact ho)
            have P6 := grown_row hg K5.out.p (fun e => own_othC K5.out.oo K5.out.p (by decide) e.symm)
            have OL6 : Hid (World.ownsRow w6 (w.heap.size + 1) 2 1 (.slice (some ⟨lg, 0, none⟩) 6 cc) 6 ([i0, i1, i2, i3, i4, i5].map (Value.int .i64))) := own_rowC OL5.out hg (own_twoC K5.out.oo OL5.out (by decide))
            have OL7 : Hid (World.ownsRow (w6.setCell ⟨bp, 2, none⟩ (.slice (some ⟨g6, 0, none⟩) (ko + 1) c6)) (w.heap.size + 1) 2 1 (.slice (some ⟨lg, 0, none⟩) 6 cc) 6 ([i0, i1, i2, i3, i4, i5].map (Value.int .i64))) := SCb.stay P6 OL6.out (by decide)
            have f6 := fun i => frozen_of_row _ _ i _ _ P6
            obtain ⟨x0, x1, x2, x3, x4⟩ := cells5 P6
            clear ho hg hbk hz
            refine hK.out _ _ ?_ (fun hHeld => ?_)
            · exact ⟨own_src OL6.out 0 _ rfl, own_src OL6.out 1 _ rfl, own_src OL6.out 2 _ rfl, own_src OL6.out 3 _ rfl, own_src OL6.out 4 _ rfl, own_src OL6.out 5 _ rfl⟩
            clear hK K
            change wpAnyH _ _ _ _ _ _ _ (Act.put _ (some 101) _) _
            (try simp only [Act.put, List.setIfInBounds_toArray, List.set_cons_zero, List.set_cons_succ])
            refine tkH 23 hHeld ?_
            refine wpAnyH_ready (rs := [24]) (by kernel_rfl) (by simp) ?_
            refine AllReadyH.cons rfl (fun K hK => ?_) AllReadyH.nil
            go_simp
            refine hK.out _ _ ?_ (fun hHeld => ?_)
            · exact ⟨own_src OL7.out 0 _ rfl, own_src OL7.out 1 _ rfl, own_src OL7.out 2 _ rfl, own_src OL7.out 3 _ rfl, own_src OL7.out 4 _ rfl, own_src OL7.out 5 _ rfl⟩
            clear hK K
            (try simp only [Act.put, List.setIfInBounds_toArray, List.set_cons_zero, List.set_cons_succ])
            refine wpAnyH_done (by kernel_rfl) ?_ _
            clear x0 x1 x2 x3 x4 f6 P6 OL6 OL7
            generalize w6.setCell ⟨bp, 2, none⟩ (.slice (some ⟨g6, 0, none⟩) (ko + 1) c6) = W6 at *
            go_wp2_with fail
            go_roundw
            case rel => exact ⟨j + 1, _, _, _, _, by omega, by go_num, HL3.out, by have h1 := HZL.out; have h2 := HS1.out; simp only; omega, by simp only; omega, by simp only; omega, HLE3.out, K6.out⟩
            case measure => simp [intOf]; omega
          refine AllReadyH.cons rfl (fun K hK => ?_) AllReadyH.nil
          have K5 : Hid (SCb w (V0.alloc (.cells #[.int .i64 i0, .int .i64 i1, .int .i64 i2, .int .i64 i3, .int .i64 i4, .int .i64 i5] 60)) bp (⟨n, f, zs, os, vs, ko, kv⟩ : CV) (.slice za m zc) (.slice oa ko oc) (.slice va kv vc) (.slice (some ⟨gl, 0, none⟩) N lc) lines) := K2d.out.below ((Below.refl _ _).alloc (Nat.le_refl _) _)
          have OL5 : Hid (World.ownsRow (V0.alloc (.cells #[.int .i64 i0, .int .i64 i1, .int .i64 i2, .int .i64 i3, .int .i64 i4, .int .i64 i5] 60)) (w.heap.size + 1) 2 1 (.slice (some ⟨lg, 0, none⟩) 6 cc) 6 ([i0, i1, i2, i3, i4, i5].map (Value.int .i64))) := OLd.out.alloc _
          have V5 : Hid ((V0.alloc (.cells #[.int .i64 i0, .int .i64 i1, .int .i64 i2, .int .i64 i3, .int .i64 i4, .int .i64 i5] 60)).heap[V0.heap.size]? = some (.cells ([i0, i1, i2, i3, i4, i5].map (Value.int .i64)).toArray 60 (0, 0))) := heap_alloc_new _ _
          go_simp
          refine hK.out _ _ ?_ (fun hHeld => ?_)
          · exact ⟨own_src OL5.out 0 _ rfl, own_src OL5.out 1 _ rfl, own_src OL5.out 2 _ rfl, own_src OL5.out 3 _ rfl, own_src OL5.out 4 _ rfl, own_src OL5.out 5 _ rfl⟩
          clear hK K
          generalize (V0.alloc (.cells #[.int .i64 i0, .int .i64 i1, .int .i64 i2, .int .i64 i3, .int .i64 i4, .int .i64 i5] 60)) = w5 at *
          generalize V0.heap.size = b5 at *
          (try simp only [Act.put, List.setIfInBounds_toArray, List.set_cons_zero, List.set_cons_succ])
          refine wpAnyH_ready (rs := [1]) (by kernel_rfl) (by simp) ?_
          refine AllReadyH.cons rfl (fun K hK => ?_) AllReadyH.nil
          obtain ⟨z0, z1, z2, z3, z4⟩ := K5.out.box
          go_simp
          refine hK.out _ _ ?_ (fun hHeld => ?_)
          · exact ⟨own_src OL5.out 0 _ rfl, own_src OL5.out 1 _ rfl, own_src OL5.out 2 _ rfl, own_src OL5.out 3 _ rfl, own_src OL5.out 4 _ rfl, own_src OL5.out 5 _ rfl⟩
          clear hK K
          clear z0 z1 z2 z3 z4
          (try simp only [Act.put, List.setIfInBounds_toArray, List.set_cons_zero, List.set_cons_succ])
          refine wpAnyH_ready (rs := [22]) (by kernel_rfl) (by simp) ?_
          refine AllReadyH.cons rfl (fun K hK => ?_) AllReadyH.nil
          refine step_append_vals Tryz.underlying25 infoO6 (by rfl) (by omega) rfl (.tmp 80) (.tmp 100) rfl (w.heap.size + 1) (.slice oa ko oc) ko (os.map (Value.int .i64)) rfl K5.out.oo b5 0 1 1 ([i0, i1, i2, i3, i4, i5].map (Value.int .i64)) rfl rfl (cellsR_at _ _ _ _ V5.out) (by intro u hu; obtain ⟨x, -, rfl⟩ := List.mem_map.1 hu; rfl) (by omega) (by omega) (Nat.le_trans K5.out.hp (Nat.le_of_lt (row_lt K5.out.p))) ?_
          intro v' w6 ho hg hbk hz
          rcases own_kinds ho with ⟨_, e0⟩ | ⟨g6, c6, e6, -, -⟩
          · omega
          subst e6
          have K6 : Hid (SCb w (w6.setCell ⟨bp, 2, none⟩ (.slice (some ⟨g6, 0, none⟩) (ko + 1) c6)) bp (⟨n, f, zs, os ++ [i0, i1, i2, i3, i4, i5], vs, ko + 1, kv⟩ : CV) (.slice za m zc) (.slice (some ⟨g6, 0, none⟩) (ko + 1) c6) (.slice va kv vc) (.slice (some ⟨gl, 0, none⟩) N lc) lines) := K5.out.order hg (by rw [List.map_append]; exact ho)
          have P6 := grown_row hg K5.out.p (fun e => own_othC K5.out.oo K5.out.p (by decide) e.symm)
          have OL6 : Hid (World.ownsRow w6 (w.heap.size + 1) 2 1 (.slice (some ⟨lg, 0, none⟩) 6 cc) 6 ([i0, i1, i2, i3, i4, i5].map (Value.int .i64))) := own_rowC OL5.out hg (own_twoC K5.out.oo OL5.out (by decide))
          have OL7 : Hid (World.ownsRow (w6.setCell ⟨bp, 2, none⟩ (.slice (some ⟨g6, 0, none⟩) (ko + 1) c6)) (w.heap.size + 1) 2 1 (.slice (some ⟨lg, 0, none⟩) 6 cc) 6 ([i0, i1, i2, i3, i4, i5].map (Value.int .i64))) := SCb.stay P6 OL6.out (by decide)
          have f6 := fun i => frozen_of_row _ _ i _ _ P6
          obtain ⟨x0, x1, x2, x3, x4⟩ := cells5 P6
          clear ho hg hbk hz
          refine hK.out _ _ ?_ (fun hHeld => ?_)
          · exact ⟨own_src OL6.out 0 _ rfl, own_src OL6.out 1 _ rfl, own_src OL6.out 2 _ rfl, own_src OL6.out 3 _ rfl, own_src OL6.out 4 _ rfl, own_src OL6.out 5 _ rfl⟩
          clear hK K
          change wpAnyH _ _ _ _ _ _ _ (Act.put _ (some 101) _) _
          (try simp only [Act.put, List.setIfInBounds_toArray, List.set_cons_zero, List.set_cons_succ])
          refine tkH 23 hHeld ?_
          refine wpAnyH_ready (rs := [24]) (by kernel_rfl) (by simp) ?_
          refine AllReadyH.cons rfl (fun K hK => ?_) AllReadyH.nil
          go_simp
          refine hK.out _ _ ?_ (fun hHeld => ?_)
          · exact ⟨own_src OL7.out 0 _ rfl, own_src OL7.out 1 _ rfl, own_src OL7.out 2 _ rfl, own_src OL7.out 3 _ rfl, own_src OL7.out 4 _ rfl, own_src OL7.out 5 _ rfl⟩
          clear hK K
          (try simp only [Act.put, List.setIfInBounds_toArray, List.set_cons_zero, List.set_cons_succ])
          refine wpAnyH_done (by kernel_rfl) ?_ _
          clear x0 x1 x2 x3 x4 f6 P6 OL6 OL7
          generalize w6.setCell ⟨bp, 2, none⟩ (.slice (some ⟨g6, 0, none⟩) (ko + 1) c6) = W6 at *
          go_wp2_with fail
          go_roundw
          case rel => exact ⟨j + 1, _, _, _, _, by omega, by go_num, HL3.out, by have h1 := HZL.out; have h2 := HS1.out; simp only; omega, by simp only; omega, by simp only; omega, HLE3.out, K6.out⟩
          case measure => simp [intOf]; omega
        · have hkI : ((k : Int) == 6) = false := by simp; omega
          have e9 : stepC (⟨n, f, zs, os, vs, ko, kv⟩ : CV) wd l = (⟨n, f, zs, os, vs, ko, kv⟩ : CV) := by simp [stepC, hw, wCase, wTimes, wOrder, wVehicle, HK.out, hk]
          have HL3 : Hid (lnsC (lines.take (j + 1)) = some (⟨n, f, zs, os, vs, ko, kv⟩ : CV)) := by show _ = _; rw [HL2.out, e9]
          have HLE3 : Hid (CV.lens (⟨n, f, zs, os, vs, ko, kv⟩ : CV)) := by have := HLE2.out; rw [e9] at this; exact this
          clear e9 HL2 HLE2
          clear hw etl
          generalize txt wd = twd at *
          go_wp2_with fail
          go_roundw
          case rel => exact ⟨j + 1, _, _, _, _, by omega, by go_num, HL3.out, by have h1 := HZL.out; have h2 := HS1.out; simp only; omega, by simp only; omega, by simp only; omega, HLE3.out, K2.out⟩
          case measure => simp [intOf]; omega
      by_cases nwVehicle : wd = wVehicle
      · have hw := nwVehicle
        have hwCase : ((txt wd).toList == [99, 97, 115, 101]) = false := by rw [etl, hw]; rfl
        have hwTimes : ((txt wd).toList == [116, 105, 109, 101, 115]) = false := by rw [etl, hw]; rfl
        have hwOrder : ((txt wd).toList == [111, 114, 100, 101, 114]) = false := by rw [etl, hw]; rfl
        have hwVehicle : ((txt wd).toList == [118, 101, 104, 105, 99, 108, 101]) = true := by rw [etl, hw]; rfl
        by_cases hk : k = 5
        · subst hk
          obtain ⟨i0, i1, i2, i3, i4, rfl⟩ : ∃ i0 i1 i2 i3 i4, l = [i0, i1, i2, i3, i4] := by
           have := HK.out
           match l, this with
           | [i0, i1, i2, i3, i4], _ => exact ⟨i0, i1, i2, i3, i4, rfl⟩
          have e9 : stepC (⟨n, f, zs, os, vs, ko, kv⟩ : CV) wd [i0, i1, i2, i3, i4] = (⟨n, f, zs, os, vs ++ [i0, i1, i2, i3, i4], ko, kv + 1⟩ : CV) := by simp [stepC, hw, wCase, wTimes, wOrder, wVehicle]
          have HL3 : Hid (lnsC (lines.take (j + 1)) = some (⟨n, f, zs, os, vs ++ [i0, i1, i2, i3, i4], ko, kv + 1⟩ : CV)) := by show _ = _; rw [HL2.out, e9]
          have HLE3 : Hid (CV.lens (⟨n, f, zs, os, vs ++ [i0, i1, i2, i3, i4], ko, kv + 1⟩ : CV)) := by have := HLE2.out; rw [e9] at this; exact this
          clear e9 HL2 HLE2
          clear hw etl
          generalize txt wd = twd at *
          go_wp2_with fail
          refine wp_region_held_drew (S := (fun W => W.cell? ⟨lg, 0, none⟩ = some (.int .i64 i0) /\ W.cell? ⟨lg, 1, none⟩ = some (.int .i64 i1) /\ W.cell? ⟨lg, 2, none⟩ = some (.int .i64 i2) /\ W.cell? ⟨lg, 3, none⟩ = some (.int .i64 i3) /\ W.cell? ⟨lg, 4, none⟩ = some (.int .i64 i4))) (by kernel_rfl) ?_ (fun hHeld => ?_)
          · exact ⟨own_src Q2.out 0 _ rfl, own_src Q2.out 1 _ rfl, own_src Q2.out 2 _ rfl, own_src Q2.out 3 _ rfl, own_src Q2.out 4 _ rfl⟩
          have K2d : Hid (SCb w w2.drew bp (⟨n, f, zs, os, vs, ko, kv⟩ : CV) (.slice za m zc) (.slice oa ko oc) (.slice va kv vc) (.slice (some ⟨gl, 0, none⟩) N lc) lines) := K2.out.below (Below.refl _ _).drew
          have OLd : Hid (World.ownsRow w2.drew (w.heap.size + 1) 2 1 (.slice (some ⟨lg, 0, none⟩) 5 cc) 5 ([i0, i1, i2, i3, i4].map (Value.int .i64))) := Q2.out.drew
          clear K2 Q2
          generalize w2.drew = V0 at *
          refine tkH 0 hHeld ?_
          refine tkH 2 hHeld ?_
          refine tkH 3 hHeld ?_
          refine tkH 4 hHeld ?_
          refine tkH 5 hHeld ?_
          refine tkH 6 hHeld ?_
          refine tkH 7 hHeld ?_
          refine tkH 8 hHeld ?_
          refine tkH 9 hHeld ?_
          refine tkH 10 hHeld ?_
          refine tkH 11 hHeld ?_
          refine tkH 12 hHeld ?_
          refine tkH 13 hHeld ?_
          refine tkH 14 hHeld ?_
          refine tkH 15 hHeld ?_
          refine tkH 16 hHeld ?_
          refine tkH 17 hHeld ?_
          refine wpAnyH_ready (rs := [1, 18]) (by kernel_rfl) (by simp) ?_
          refine AllReadyH.cons rfl (fun K hK => ?_) ?_
          · skip
            obtain ⟨z0, z1, z2, z3, z4⟩ := K2d.out.box
            go_simp
            refine hK.out _ _ ?_ (fun hHeld => ?_)
            · exact ⟨own_src OLd.out 0 _ rfl, own_src OLd.out 1 _ rfl, own_src OLd.out 2 _ rfl, own_src OLd.out 3 _ rfl, own_src OLd.out 4 _ rfl⟩
            clear hK K
            clear z0 z1 z2 z3 z4
            (try simp only [Act.put, List.setIfInBounds_toArray, List.set_cons_zero, List.set_cons_succ])
            refine wpAnyH_ready (rs := [18]) (by kernel_rfl) (by simp) ?_
            refine AllReadyH.cons rfl (fun K hK => ?_) AllReadyH.nil
            have K5 : Hid (SCb w (V0.alloc (.cells #[.int .i64 i0, .int .i64 i1, .int .i64 i2, .int .i64 i3, .int .i64 i4] 62)) bp (⟨n, f, zs, os, vs, ko, kv⟩ : CV) (.slice za m zc) (.slice oa ko oc) (.slice va kv vc) (.slice (some ⟨gl, 0, none⟩) N lc) lines) := K2d.out.below ((Below.refl _ _).alloc (Nat.le_refl _) _)
            have OL5 : Hid (World.ownsRow (V0.alloc (.cells #[.int .i64 i0, .int .i64 i1, .int .i64 i2, .int .i64 i3, .int .i64 i4] 62)) (w.heap.size + 1) 2 1 (.slice (some ⟨lg, 0, none⟩) 5 cc) 5 ([i0, i1, i2, i3, i4].map (Value.int .i64))) := OLd.out.alloc _
            have V5 : Hid ((V0.alloc (.cells #[.int .i64 i0, .int .i64 i1, .int .i64 i2, .int .i64 i3, .int .i64 i4] 62)).heap[V0.heap.size]? = some (.cells ([i0, i1, i2, i3, i4].map (Value.int .i64)).toArray 62 (0, 0))) := heap_alloc_new _ _
            go_simp
            refine hK.out _ _ ?_ (fun hHeld => ?_)
            · exact ⟨own_src OL5.out 0 _ rfl, own_src OL5.out 1 _ rfl, own_src OL5.out 2 _ rfl, own_src OL5.out 3 _ rfl, own_src OL5.out 4 _ rfl⟩
            clear hK K
            generalize (V0.alloc (.cells #[.int .i64 i0, .int .i64 i1, .int .i64 i2, .int .i64 i3, .int .i64 i4] 62)) = w5 at *
            generalize V0.heap.size = b5 at *
            (try simp only [Act.put, List.setIfInBounds_toArray, List.set_cons_zero, List.set_cons_succ])
            refine wpAnyH_ready (rs := [19]) (by kernel_rfl) (by simp) ?_
            refine AllReadyH.cons rfl (fun K hK => ?_) AllReadyH.nil
            refine step_append_vals Tryz.underlying26 infoV5 (by rfl) (by omega) rfl (.tmp 112) (.tmp 129) rfl (w.heap.size + 1) (.slice va kv vc) kv (vs.map (Value.int .i64)) rfl K5.out.ov b5 0 1 1 ([i0, i1, i2, i3, i4].map (Value.int .i64)) rfl rfl (cellsR_at _ _ _ _ V5.out) (by intro u hu; obtain ⟨x, -, rfl⟩ := List.mem_map.1 hu; rfl) (by omega) (by omega) (Nat.le_trans K5.out.hp (Nat.le_of_lt (row_lt K5.out.p))) ?_
            intro v' w6 ho hg hbk hz
            rcases own_kinds ho with ⟨_, e0⟩ | ⟨g6, c6, e6, -, -⟩
            · omega
            subst e6
            have K6 : Hid (SCb w (w6.setCell ⟨bp, 3, none⟩ (.slice (some ⟨g6, 0, none⟩) (kv + 1) c6)) bp (⟨n, f, zs, os, vs ++ [i0, i1, i2, i3, i4], ko, kv + 1⟩ : CV) (.slice za m zc) (.slice oa ko oc) (.slice (some ⟨g6, 0, none⟩) (kv + 1) c6) (.slice (some ⟨gl, 0, none⟩) N lc) lines) := K5.out.vehicle hg (by rw [List.map_append]; exact ho)
            have P6 := grown_row hg K5.out.p (fun e => own_othC K5.out.ov K5.out.p (by decide) e.symm)
            have OL6 : Hid (World.ownsRow w6 (w.heap.size + 1) 2 1 (.slice (some ⟨lg, 0, none⟩) 5 cc) 5 ([i0, i1, i2, i3, i4].map (Value.int .i64))) := own_rowC OL5.out hg (own_twoC K5.out.ov OL5.out (by decide))
            have OL7 : Hid (World.ownsRow (w6.setCell ⟨bp, 3, none⟩ (.slice (some ⟨g6, 0, none⟩) (kv + 1) c6)) (w.heap.size + 1) 2 1 (.slice (some ⟨lg, 0, none⟩) 5 cc) 5 ([i0, i1, i2, i3, i4].map (Value.int .i64))) := SCb.stay P6 OL6.out (by decide)
            have f6 := fun i => frozen_of_row _ _ i _ _ P6
            obtain ⟨x0, x1, x2, x3, x4⟩ := cells5 P6
            clear ho hg hbk hz
            refine hK.out _ _ ?_ (fun hHeld => ?_)
            · exact ⟨own_src OL6.out 0 _ rfl, own_src OL6.out 1 _ rfl, own_src OL6.out 2 _ rfl, own_src OL6.out 3 _ rfl, own_src OL6.out 4 _ rfl⟩
            clear hK K
            change wpAnyH _ _ _ _ _ _ _ (Act.put _ (some 130) _) _
            (try simp only [Act.put, List.setIfInBounds_toArray, List.set_cons_zero, List.set_cons_succ])
            refine tkH 20 hHeld ?_
            refine wpAnyH_ready (rs := [21]) (by kernel_rfl) (by simp) ?_
            refine AllReadyH.cons rfl (fun K hK => ?_) AllReadyH.nil
            go_simp
            refine hK.out _ _ ?_ (fun hHeld => ?_)
            · exact ⟨own_src OL7.out 0 _ rfl, own_src OL7.out 1 _ rfl, own_src OL7.out 2 _ rfl, own_src OL7.out 3 _ rfl, own_src OL7.out 4 _ rfl⟩
            clear hK K
            (try simp only [Act.put, List.setIfInBounds_toArray, List.set_cons_zero, List.set_cons_succ])
            refine wpAnyH_done (by kernel_rfl) ?_ _
            clear x0 x1 x2 x3 x4 f6 P6 OL6 OL7
            generalize w6.setCell ⟨bp, 3, none⟩ (.slice (some ⟨g6, 0, none⟩) (kv + 1) c6) = W6 at *
            go_wp2_with fail
            go_roundw
            case rel => exact ⟨j + 1, _, _, _, _, by omega, by go_num, HL3.out, by have h1 := HZL.out; have h2 := HS1.out; simp only; omega, by simp only; omega, by simp only; omega, HLE3.out, K6.out⟩
            case measure => simp [intOf]; omega
          refine AllReadyH.cons rfl (fun K hK => ?_) AllReadyH.nil
          have K5 : Hid (SCb w (V0.alloc (.cells #[.int .i64 i0, .int .i64 i1, .int .i64 i2, .int .i64 i3, .int .i64 i4] 62)) bp (⟨n, f, zs, os, vs, ko, kv⟩ : CV) (.slice za m zc) (.slice oa ko oc) (.slice va kv vc) (.slice (some ⟨gl, 0, none⟩) N lc) lines) := K2d.out.below ((Below.refl _ _).alloc (Nat.le_refl _) _)
          have OL5 : Hid (World.ownsRow (V0.alloc (.cells #[.int .i64 i0, .int .i64 i1, .int .i64 i2, .int .i64 i3, .int .i64 i4] 62)) (w.heap.size + 1) 2 1 (.slice (some ⟨lg, 0, none⟩) 5 cc) 5 ([i0, i1, i2, i3, i4].map (Value.int .i64))) := OLd.out.alloc _
          have V5 : Hid ((V0.alloc (.cells #[.int .i64 i0, .int .i64 i1, .int .i64 i2, .int .i64 i3, .int .i64 i4] 62)).heap[V0.heap.size]? = some (.cells ([i0, i1, i2, i3, i4].map (Value.int .i64)).toArray 62 (0, 0))) := heap_alloc_new _ _
          go_simp
          refine hK.out _ _ ?_ (fun hHeld => ?_)
          · exact ⟨own_src OL5.out 0 _ rfl, own_src OL5.out 1 _ rfl, own_src OL5.out 2 _ rfl, own_src OL5.out 3 _ rfl, own_src OL5.out 4 _ rfl⟩
          clear hK K
          generalize (V0.alloc (.cells #[.int .i64 i0, .int .i64 i1, .int .i64 i2, .int .i64 i3, .int .i64 i4] 62)) = w5 at *
          generalize V0.heap.size = b5 at *
          (try simp only [Act.put, List.setIfInBounds_toArray, List.set_cons_zero, List.set_cons_succ])
          refine wpAnyH_ready (rs := [1]) (by kernel_rfl) (by simp) ?_
          refine AllReadyH.cons rfl (fun K hK => ?_) AllReadyH.nil
          obtain ⟨z0, z1, z2, z3, z4⟩ := K5.out.box
          go_simp
          refine hK.out _ _ ?_ (fun hHeld => ?_)
          · exact ⟨own_src OL5.out 0 _ rfl, own_src OL5.out 1 _ rfl, own_src OL5.out 2 _ rfl, own_src OL5.out 3 _ rfl, own_src OL5.out 4 _ rfl⟩
          clear hK K
          clear z0 z1 z2 z3 z4
          (try simp only [Act.put, List.setIfInBounds_toArray, List.set_cons_zero, List.set_cons_succ])
          refine wpAnyH_ready (rs := [19]) (by kernel_rfl) (by simp) ?_
          refine AllReadyH.cons rfl (fun K hK => ?_) AllReadyH.nil
          refine step_append_vals Tryz.underlying26 infoV5 (by rfl) (by omega) rfl (.tmp 112) (.tmp 129) rfl (w.heap.size + 1) (.slice va kv vc) kv (vs.map (Value.int .i64)) rfl K5.out.ov b5 0 1 1 ([i0, i1, i2, i3, i4].map (Value.int .i64)) rfl rfl (cellsR_at _ _ _ _ V5.out) (by intro u hu; obtain ⟨x, -, rfl⟩ := List.mem_map.1 hu; rfl) (by omega) (by omega) (Nat.le_trans K5.out.hp (Nat.le_of_lt (row_lt K5.out.p))) ?_
          intro v' w6 ho hg hbk hz
          rcases own_kinds ho with ⟨_, e0⟩ | ⟨g6, c6, e6, -, -⟩
          · omega
          subst e6
          have K6 : Hid (SCb w (w6.setCell ⟨bp, 3, none⟩ (.slice (some ⟨g6, 0, none⟩) (kv + 1) c6)) bp (⟨n, f, zs, os, vs ++ [i0, i1, i2, i3, i4], ko, kv + 1⟩ : CV) (.slice za m zc) (.slice oa ko oc) (.slice (some ⟨g6, 0, none⟩) (kv + 1) c6) (.slice (some ⟨gl, 0, none⟩) N lc) lines) := K5.out.vehicle hg (by rw [List.map_append]; exact ho)
          have P6 := grown_row hg K5.out.p (fun e => own_othC K5.out.ov K5.out.p (by decide) e.symm)
          have OL6 : Hid (World.ownsRow w6 (w.heap.size + 1) 2 1 (.slice (some ⟨lg, 0, none⟩) 5 cc) 5 ([i0, i1, i2, i3, i4].map (Value.int .i64))) := own_rowC OL5.out hg (own_twoC K5.out.ov OL5.out (by decide))
          have OL7 : Hid (World.ownsRow (w6.setCell ⟨bp, 3, none⟩ (.slice (some ⟨g6, 0, none⟩) (kv + 1) c6)) (w.heap.size + 1) 2 1 (.slice (some ⟨lg, 0, none⟩) 5 cc) 5 ([i0, i1, i2, i3, i4].map (Value.int .i64))) := SCb.stay P6 OL6.out (by decide)
          have f6 := fun i => frozen_of_row _ _ i _ _ P6
          obtain ⟨x0, x1, x2, x3, x4⟩ := cells5 P6
          clear ho hg hbk hz
          refine hK.out _ _ ?_ (fun hHeld => ?_)
          · exact ⟨own_src OL6.out 0 _ rfl, own_src OL6.out 1 _ rfl, own_src OL6.out 2 _ rfl, own_src OL6.out 3 _ rfl, own_src OL6.out 4 _ rfl⟩
          clear hK K
          change wpAnyH _ _ _ _ _ _ _ (Act.put _ (some 130) _) _
          (try simp only [Act.put, List.setIfInBounds_toArray, List.set_cons_zero, List.set_cons_succ])
          refine tkH 20 hHeld ?_
          refine wpAnyH_ready (rs := [21]) (by kernel_rfl) (by simp) ?_
          refine AllReadyH.cons rfl (fun K hK => ?_) AllReadyH.nil
          go_simp
          refine hK.out _ _ ?_ (fun hHeld => ?_)
          · exact ⟨own_src OL7.out 0 _ rfl, own_src OL7.out 1 _ rfl, own_src OL7.out 2 _ rfl, own_src OL7.out 3 _ rfl, own_src OL7.out 4 _ rfl⟩
          clear hK K
          (try simp only [Act.put, List.setIfInBounds_toArray, List.set_cons_zero, List.set_cons_succ])
          refine wpAnyH_done (by kernel_rfl) ?_ _
          clear x0 x1 x2 x3 x4 f6 P6 OL6 OL7
          generalize w6.setCell ⟨bp, 3, none⟩ (.slice (some ⟨g6, 0, none⟩) (kv + 1) c6) = W6 at *
          go_wp2_with fail
          go_roundw
          case rel => exact ⟨j + 1, _, _, _, _, by omega, by go_num, HL3.out, by have h1 := HZL.out; have h2 := HS1.out; simp only; omega, by simp only; omega, by simp only; omega, HLE3.out, K6.out⟩
          case measure => simp [intOf]; omega
        · have hkI : ((k : Int) == 5) = false := by simp; omega
          have e9 : stepC (⟨n, f, zs, os, vs, ko, kv⟩ : CV) wd l = (⟨n, f, zs, os, vs, ko, kv⟩ : CV) := by simp [stepC, hw, wCase, wTimes, wOrder, wVehicle, HK.out, hk]
          have HL3 : Hid (lnsC (lines.take (j + 1)) = some (⟨n, f, zs, os, vs, ko, kv⟩ : CV)) := by show _ = _; rw [HL2.out, e9]
          have HLE3 : Hid (CV.lens (⟨n, f, zs, os, vs, ko, kv⟩ : CV)) := by have := HLE2.out; rw [e9] at this; exact this
          clear e9 HL2 HLE2
          clear hw etl
          generalize txt wd = twd at *
          go_wp2_with fail
          go_roundw
          case rel => exact ⟨j + 1, _, _, _, _, by omega, by go_num, HL3.out, by have h1 := HZL.out; have h2 := HS1.out; simp only; omega, by simp only; omega, by simp only; omega, HLE3.out, K2.out⟩
          case measure => simp [intOf]; omega
      have hwCase : ((txt wd).toList == [99, 97, 115, 101]) = false := by rw [etl]; simpa using (show ¬ wd = [99, 97, 115, 101] from nwCase)
      have hwTimes : ((txt wd).toList == [116, 105, 109, 101, 115]) = false := by rw [etl]; simpa using (show ¬ wd = [116, 105, 109, 101, 115] from nwTimes)
      have hwOrder : ((txt wd).toList == [111, 114, 100, 101, 114]) = false := by rw [etl]; simpa using (show ¬ wd = [111, 114, 100, 101, 114] from nwOrder)
      have hwVehicle : ((txt wd).toList == [118, 101, 104, 105, 99, 108, 101]) = false := by rw [etl]; simpa using (show ¬ wd = [118, 101, 104, 105, 99, 108, 101] from nwVehicle)
      have e9 : stepC (⟨n, f, zs, os, vs, ko, kv⟩ : CV) wd l = (⟨n, f, zs, os, vs, ko, kv⟩ : CV) := by unfold stepC; rw [if_neg (fun h => nwCase h.1), if_neg nwTimes, if_neg (fun h => nwOrder h.1), if_neg (fun h => nwVehicle h.1)]
      have HL3 : Hid (lnsC (lines.take (j + 1)) = some (⟨n, f, zs, os, vs, ko, kv⟩ : CV)) := by show _ = _; rw [HL2.out, e9]
      have HLE3 : Hid (CV.lens (⟨n, f, zs, os, vs, ko, kv⟩ : CV)) := by have := HLE2.out; rw [e9] at this; exact this
      clear e9 HL2 HLE2
      clear etl
      generalize txt wd = twd at *
      go_wp2_with fail
      go_roundw
      case rel => exact ⟨j + 1, _, _, _, _, by omega, by go_num, HL3.out, by have h1 := HZL.out; have h2 := HS1.out; simp only; omega, by simp only; omega, by simp only; omega, HLE3.out, K2.out⟩
      case measure => simp [intOf]; omega
    · have HR : Hid (specC s = none) := HBAD.out hc
      have K2 : Hid (SCb w w2 bp (⟨n, f, zs, os, vs, ko, kv⟩ : CV) (.slice za m zc) (.slice oa ko oc) (.slice va kv vc) (.slice (some ⟨gl, 0, none⟩) N lc) lines) := KW.out.below hb
      clear hc hb C KW
      obtain ⟨c0, c1, c2, c3, c4⟩ := cells5 K2.out.z
      have zf := fun i => frozen_of_row _ _ i _ _ K2.out.z
      go_wp2
      refine bodyPost_ret (v := .tuple #[.agg #[.int .i64 0, .slice none 0 0, .slice none 0 0, .slice none 0 0, .int .i64 0], .bool false]) (by simp [results, Tryz.results12, go_sem, c0, c1, c2, c3, c4]) rfl ?_
      refine .inr ⟨HR.out, rfl, ?_⟩
      exact Below.setCell (Below.setCell (Below.setCell (Below.setCell (Below.setCell K2.out.b (by simp) _) (by simp) _) (by simp) _) (by simp) _) (by simp) _
  · have hjn : j = N := by omega
    have HLF2 : Hid (specFC s = some (⟨n, f, zs, os, vs, ko, kv⟩ : CV)) := by
     have := HLF.out
     rw [hjn, <- HNN.out, List.take_length] at this
     show _ = _
     rw [HSP2.out, this]
    have hnl : ¬ ((j : Int) < (N : Int)) := by omega
    have OZ : wr.ownsRow (w.heap.size + 1) 2 1 (.slice za m zc) m (zs.map (Value.int .i64)) := by have := KW.out.oz; simp only at this; rw [HM.out] at this; exact this
    have hcp := own_capC OZ
    have C := specCaseText_any n f za oa va zc ko oc kv vc zs os vs wr (own_intsC OZ) (own_intsC KW.out.oo) (own_intsC KW.out.ov) HLE.out.1 HLE.out.2 (by omega) (by omega) (by rw [HM.out]; exact hcp.1) (by have := hcp.2; unfold maxLen at this; omega)
    rw [HM.out] at C
    have HPT : Hid ((if caseB n zs os vs ko kv f = true then txt (caseL n f zs os vs ko kv) else txt []) = txt (CV.txt0 (⟨n, f, zs, os, vs, ko, kv⟩ : CV))) := by
     show _ = _
     unfold CV.txt0 CV.ok CV.tx
     simp only
     split <;> rfl
    rw [HPT.out] at C
    clear hjn OZ hcp
    have hem : a.toList.isEmpty = decide (s = []) := by rw [<- HA.out]; exact txt_nil s
    by_cases hs0 : s = []
    · have HR : Hid (specC s = none) := by show _ = _; rw [HSR.out, HLF2.out]; simp [hs0]
      rw [decide_eq_true hs0] at hem
      clear hs0 C
      obtain ⟨c0, c1, c2, c3, c4⟩ := cells5 KW.out.z
      have zf := fun i => frozen_of_row _ _ i _ _ KW.out.z
      go_wp2
      refine bodyPost_ret (v := .tuple #[.agg #[.int .i64 0, .slice none 0 0, .slice none 0 0, .slice none 0 0, .int .i64 0], .bool false]) (by simp [results, Tryz.results12, go_sem, c0, c1, c2, c3, c4]) rfl ?_
      refine .inr ⟨HR.out, rfl, ?_⟩
      exact Below.setCell (Below.setCell (Below.setCell (Below.setCell (Below.setCell KW.out.b (by simp) _) (by simp) _) (by simp) _) (by simp) _) (by simp) _
    rw [decide_eq_false hs0] at hem
    obtain ⟨c0, c1, c2, c3, c4⟩ := KW.out.box
    go_wp2_with fail
    clear c0 c1 c2 c3 c4
    refine C.mono ?_
    rintro e w2 ⟨rfl, hb⟩
    have K2 : Hid (SCb w w2 bp (⟨n, f, zs, os, vs, ko, kv⟩ : CV) (.slice za m zc) (.slice oa ko oc) (.slice va kv vc) (.slice la N lc) lines) := KW.out.below hb
    clear hb C KW
    obtain ⟨x0, x1, x2, x3, x4⟩ := K2.out.box
    obtain ⟨c0, c1, c2, c3, c4⟩ := cells5 K2.out.z
    have zf := fun i => frozen_of_row _ _ i _ _ K2.out.z
    have npz : bp ≠ w.heap.size := by have := K2.out.hp; omega
    by_cases hE : CV.txt0 (⟨n, f, zs, os, vs, ko, kv⟩ : CV) = s
    · have HR : Hid (specC s = some (⟨n, f, zs, os, vs, ko, kv⟩ : CV)) := by show _ = _; rw [HSR.out, HLF2.out]; simp [hE, hs0]
      have hcmp : ((txt (CV.txt0 (⟨n, f, zs, os, vs, ko, kv⟩ : CV))).toList == a.toList) = true := by rw [hE, HA.out]; exact str_eq rfl
      clear hE
      generalize txt (CV.txt0 (⟨n, f, zs, os, vs, ko, kv⟩ : CV)) = tp at *
      go_wp2
      refine bodyPost_ret (v := .tuple #[.agg #[.int .i64 n, .slice za m zc, .slice oa ko oc, .slice va kv vc, .int .i64 f], .bool true]) (by simp [results, Tryz.results12, go_sem, c0, c1, c2, c3, c4]) rfl ?_
      refine .inl ⟨(⟨n, f, zs, os, vs, ko, kv⟩ : CV), _, _, _, HR.out, rfl, ?_, ?_, ?_, ?_⟩
      · exact Below.setCell (Below.setCell (Below.setCell (Below.setCell (Below.setCell K2.out.b (by simp) _) (by simp) _) (by simp) _) (by simp) _) (by simp) _
      · exact owns_set (owns_set (owns_set (owns_set (owns_set K2.out.oz (by omega)) (by omega)) (by omega)) (by omega)) (by omega)
      · exact owns_set (owns_set (owns_set (owns_set (owns_set K2.out.oo (by omega)) (by omega)) (by omega)) (by omega)) (by omega)
      · exact owns_set (owns_set (owns_set (owns_set (owns_set K2.out.ov (by omega)) (by omega)) (by omega)) (by omega)) (by omega)
    · have HR : Hid (specC s = none) := by show _ = _; rw [HSR.out, HLF2.out]; simp [hE]
      have hcmp : ((txt (CV.txt0 (⟨n, f, zs, os, vs, ko, kv⟩ : CV))).toList == a.toList) = false := by rw [<- HA.out]; exact str_ne (fun e => hE (txt_inj e))
      clear hE x0 x1 x2 x3 x4
      generalize txt (CV.txt0 (⟨n, f, zs, os, vs, ko, kv⟩ : CV)) = tp at *
      go_wp2
      refine bodyPost_ret (v := .tuple #[.agg #[.int .i64 0, .slice none 0 0, .slice none 0 0, .slice none 0 0, .int .i64 0], .bool false]) (by simp [results, Tryz.results12, go_sem, c0, c1, c2, c3, c4]) rfl ?_
      refine .inr ⟨HR.out, rfl, ?_⟩
      exact Below.setCell (Below.setCell (Below.setCell (Below.setCell (Below.setCell K2.out.b (by simp) _) (by simp) _) (by simp) _) (by simp) _) (by simp) _
structure CM (w : World) (base : Nat) (za : Option Addr) (nz zc : Nat) (oa : Option Addr) (no oc : Nat) (va : Option Addr) (nv vc : Nat) (k : Int) : Prop where
 z : w.ownsRow base 2 1 (.slice za nz zc) nz ((seqL k (nz * 1)).map (Value.int .i64))
 o : w.ownsRow base 60 6 (.slice oa no oc) no ((seqL (k + ((nz : Nat) : Int)) (no * 6)).map (Value.int .i64))
 v : w.ownsRow base 62 5 (.slice va nv vc) nv ((seqL (k + ((nz : Nat) : Int) + ((no * 6 : Nat) : Int)) (nv * 5)).map (Value.int .i64))
theorem CM.below {w w' : World} {base nz zc no oc nv vc : Nat} {za oa va : Option Addr} {k : Int} (h : CM w base za nz zc oa no oc va nv vc k) (hb : Below w.heap.size w w') : CM w' base za nz zc oa no oc va nv vc k := ⟨owns_below h.z hb, owns_below h.o hb, owns_below h.v hb⟩
theorem markZ_own (a : Option Addr) (n c base : Nat) (K : Int) (xs : List Value) (w : World) (h : w.ownsRow base 2 1 (.slice a n c) n xs) (h0 : 0 <= K) (h1 : K <= 1000000000000) (hn : n <= 10000000) :
 Calls Tryz.prog 45 #[.slice a n c, .int .i64 K] w fun e w' => e = .returned (.int .i64 (K + ((n : Nat) : Int))) /\ GrownBut (fun b => (Value.slice a n c).ownBlock = some b) w w' /\ w'.ownsRow base 2 1 (.slice a n c) n ((seqL K (n * 1)).map (Value.int .i64)) := by
 rcases own_kinds h with ⟨e, hz⟩ | ⟨g, c', e, _, _⟩
 · subst hz
   have hx : xs = [] := List.length_eq_zero_iff.1 (by have := h.1; simpa using this)
   subst hx
   refine (markInt64S_nil a c K _).mono ?_
   rintro e w' ⟨rfl, rfl⟩
   exact ⟨by simp, GrownBut.of_below (Below.refl _ _), by simpa [seqL] using h⟩
 · simp only [Value.slice.injEq, true_and] at e
   obtain ⟨rfl, rfl⟩ := e
   obtain ⟨cur, k1, k2, k3, k4, k5⟩ := own_row_of h
   refine (markInt64S_any g n c K cur _ _ k1 (by omega) h0 h1 hn).mono ?_
   rintro e w' ⟨rfl, hg, hr⟩
   exact ⟨rfl, GrownBut.of_grown hg rfl, mark_row h k1 (by simpa using hr)⟩
theorem heldZ_own (a : Option Addr) (n c base : Nat) (K : Int) (w : World) (h : w.ownsRow base 2 1 (.slice a n c) n ((seqL K (n * 1)).map (Value.int .i64))) (h0 : 0 <= K) (h1 : K <= 1000000000000) (hn : n <= 10000000) :
 Calls Tryz.prog 50 #[.slice a n c, .int .i64 K] w fun e w' => e = .returned (.int .i64 (K + ((n : Nat) : Int))) /\ w' = w := by
 rcases own_kinds h with ⟨e, hz⟩ | ⟨g, c', e, _, _⟩
 · subst hz
   refine (heldInt64S_nil a c K _).mono ?_
   rintro e w' ⟨rfl, rfl⟩
   exact ⟨by simp, rfl⟩
 · simp only [Value.slice.injEq, true_and] at e
   obtain ⟨rfl, rfl⟩ := e
   exact heldInt64S_any g n c K w (fun j hj => (own_cellV h (by rw [List.getElem?_map, seqL_at (by omega)]; rfl)).1) h0 h1 hn
theorem markO_own (a : Option Addr) (n c base : Nat) (K : Int) (xs : List Value) (w : World) (h : w.ownsRow base 60 6 (.slice a n c) n xs) (h0 : 0 <= K) (h1 : K <= 1000000000000) (hn : n <= 10000000) :
 Calls Tryz.prog 42 #[.slice a n c, .int .i64 K] w fun e w' => e = .returned (.int .i64 (K + ((n * 6 : Nat) : Int))) /\ GrownBut (fun b => (Value.slice a n c).ownBlock = some b) w w' /\ w'.ownsRow base 60 6 (.slice a n c) n ((seqL K (n * 6)).map (Value.int .i64)) := by
 rcases own_kinds h with ⟨e, hz⟩ | ⟨g, c', e, _, _⟩
 · subst hz
   have hx : xs = [] := List.length_eq_zero_iff.1 (by have := h.1; simpa using this)
   subst hx
   refine (markOrderS_nil a c K _).mono ?_
   rintro e w' ⟨rfl, rfl⟩
   exact ⟨by simp, GrownBut.of_below (Below.refl _ _), by simpa [seqL] using h⟩
 · simp only [Value.slice.injEq, true_and] at e
   obtain ⟨rfl, rfl⟩ := e
   obtain ⟨cur, k1, k2, k3, k4, k5⟩ := own_row_of h
   refine (markOrderS_any g n c K cur _ _ k1 (by omega) h0 h1 hn).mono ?_
   rintro e w' ⟨rfl, hg, hr⟩
   exact ⟨rfl, GrownBut.of_grown hg rfl, mark_row h k1 (by simpa using hr)⟩
theorem heldO_own (a : Option Addr) (n c base : Nat) (K : Int) (w : World) (h : w.ownsRow base 60 6 (.slice a n c) n ((seqL K (n * 6)).map (Value.int .i64))) (h0 : 0 <= K) (h1 : K <= 1000000000000) (hn : n <= 10000000) :
 Calls Tryz.prog 47 #[.slice a n c, .int .i64 K] w fun e w' => e = .returned (.int .i64 (K + ((n * 6 : Nat) : Int))) /\ w' = w := by
 rcases own_kinds h with ⟨e, hz⟩ | ⟨g, c', e, _, _⟩
 · subst hz
   refine (heldOrderS_nil a c K _).mono ?_
   rintro e w' ⟨rfl, rfl⟩
   exact ⟨by simp, rfl⟩
 · simp only [Value.slice.injEq, true_and] at e
   obtain ⟨rfl, rfl⟩ := e
   exact heldOrderS_any g n c K w (fun j hj => (own_cellV h (by rw [List.getElem?_map, seqL_at (by omega)]; rfl)).1) h0 h1 hn
theorem markV_own (a : Option Addr) (n c base : Nat) (K : Int) (xs : List Value) (w : World) (h : w.ownsRow base 62 5 (.slice a n c) n xs) (h0 : 0 <= K) (h1 : K <= 1000000000000) (hn : n <= 10000000) :
 Calls Tryz.prog 43 #[.slice a n c, .int .i64 K] w fun e w' => e = .returned (.int .i64 (K + ((n * 5 : Nat) : Int))) /\ GrownBut (fun b => (Value.slice a n c).ownBlock = some b) w w' /\ w'.ownsRow base 62 5 (.slice a n c) n ((seqL K (n * 5)).map (Value.int .i64)) := by
 rcases own_kinds h with ⟨e, hz⟩ | ⟨g, c', e, _, _⟩
 · subst hz
   have hx : xs = [] := List.length_eq_zero_iff.1 (by have := h.1; simpa using this)
   subst hx
   refine (markVehicleS_nil a c K _).mono ?_
   rintro e w' ⟨rfl, rfl⟩
   exact ⟨by simp, GrownBut.of_below (Below.refl _ _), by simpa [seqL] using h⟩
 · simp only [Value.slice.injEq, true_and] at e
   obtain ⟨rfl, rfl⟩ := e
   obtain ⟨cur, k1, k2, k3, k4, k5⟩ := own_row_of h
   refine (markVehicleS_any g n c K cur _ _ k1 (by omega) h0 h1 hn).mono ?_
   rintro e w' ⟨rfl, hg, hr⟩
   exact ⟨rfl, GrownBut.of_grown hg rfl, mark_row h k1 (by simpa using hr)⟩
theorem heldV_own (a : Option Addr) (n c base : Nat) (K : Int) (w : World) (h : w.ownsRow base 62 5 (.slice a n c) n ((seqL K (n * 5)).map (Value.int .i64))) (h0 : 0 <= K) (h1 : K <= 1000000000000) (hn : n <= 10000000) :
 Calls Tryz.prog 48 #[.slice a n c, .int .i64 K] w fun e w' => e = .returned (.int .i64 (K + ((n * 5 : Nat) : Int))) /\ w' = w := by
 rcases own_kinds h with ⟨e, hz⟩ | ⟨g, c', e, _, _⟩
 · subst hz
   refine (heldVehicleS_nil a c K _).mono ?_
   rintro e w' ⟨rfl, rfl⟩
   exact ⟨by simp, rfl⟩
 · simp only [Value.slice.injEq, true_and] at e
   obtain ⟨rfl, rfl⟩ := e
   exact heldVehicleS_any g n c K w (fun j hj => (own_cellV h (by rw [List.getElem?_map, seqL_at (by omega)]; rfl)).1) h0 h1 hn
set_option maxHeartbeats 400000 in
theorem markM_own (n : Int) (a : Option Addr) (nz c base : Nat) (K : Int) (xs : List Value) (w : World) (h : w.ownsRow base 2 1 (.slice a nz c) nz xs) (h0 : 0 <= K) (h1 : K <= 1000000000000) (hn : nz <= 10000000) :
 Calls Tryz.prog 41 #[.agg #[.int .i64 n, .slice a nz c], .int .i64 K] w fun e w' => e = .returned (.int .i64 (K + ((nz : Nat) : Int))) /\ GrownBut (fun b => (Value.slice a nz c).ownBlock = some b) w w' /\ w'.ownsRow base 2 1 (.slice a nz c) nz ((seqL K (nz * 1)).map (Value.int .i64)) := by
 have HB0 : Hid (Below w.heap.size w (w.alloc (.cells #[.int .i64 n, .slice a nz c] 24))) := (Below.refl _ _).alloc (Nat.le_refl _) _
 have M := markZ_own a nz c base K xs _ (owns_below h HB0.out) h0 h1 hn
 clear h
 go_enter Tryz.func41, Tryz.ntmps41
 go_wp2_with fail
 refine M.mono ?_
 rintro e w1 ⟨rfl, hg, ho⟩
 have HG : Hid (GrownBut (fun b => (Value.slice a nz c).ownBlock = some b) w w1) := (GrownBut.of_below HB0.out).trans hg
 have HO : Hid (w1.ownsRow base 2 1 (.slice a nz c) nz ((seqL K (nz * 1)).map (Value.int .i64))) := ho
 clear hg ho M
 go_wp2
 go_ret
 exact ⟨rfl, HG.out, HO.out⟩
set_option maxHeartbeats 400000 in
theorem heldM_own (n : Int) (a : Option Addr) (nz c base : Nat) (K : Int) (w : World) (h : w.ownsRow base 2 1 (.slice a nz c) nz ((seqL K (nz * 1)).map (Value.int .i64))) (h0 : 0 <= K) (h1 : K <= 1000000000000) (hn : nz <= 10000000) :
 Calls Tryz.prog 46 #[.agg #[.int .i64 n, .slice a nz c], .int .i64 K] w fun e w' => e = .returned (.int .i64 (K + ((nz : Nat) : Int))) /\ Below w.heap.size w w' := by
 have HB0 : Hid (Below w.heap.size w (w.alloc (.cells #[.int .i64 n, .slice a nz c] 24))) := (Below.refl _ _).alloc (Nat.le_refl _) _
 have M := heldZ_own a nz c base K _ (owns_below h HB0.out) h0 h1 hn
 have hk : ¬ (K + ((nz : Nat) : Int) < 0) := by omega
 clear h
 go_enter Tryz.func46, Tryz.ntmps46
 go_wp2_with fail
 refine M.mono ?_
 rintro e w1 ⟨rfl, rfl⟩
 clear M
 go_wp2
 go_ret
 exact ⟨rfl, HB0.out⟩
set_option maxHeartbeats 2000000 in
theorem markCase_own (n f k0 : Int) (za oa va : Option Addr) (nz zc no oc nv vc base : Nat) (xz xo xv : List Value) (w : World) (hz : w.ownsRow base 2 1 (.slice za nz zc) nz xz) (ho : w.ownsRow base 60 6 (.slice oa no oc) no xo) (hv : w.ownsRow base 62 5 (.slice va nv vc) nv xv) (h0 : 0 <= k0) (h1 : k0 <= 100000000) (bz : nz <= 1000000) (bo : no <= 1000000) (bv : nv <= 1000000) :
 Calls Tryz.prog 19 #[.agg #[.int .i64 n, .slice za nz zc, .slice oa no oc, .slice va nv vc, .int .i64 f], .int .i64 k0] w fun e w' => e = .returned (.int .i64 (k0 + ((nz : Nat) : Int) + ((no * 6 : Nat) : Int) + ((nv * 5 : Nat) : Int))) /\ GrownBut (caseBl (.slice za nz zc) (.slice oa no oc) (.slice va nv vc)) w w' /\ CM w' base za nz zc oa no oc va nv vc k0 := by
 have HB0 : Hid (Below w.heap.size w (w.alloc (.cells #[.int .i64 n, .slice za nz zc, .slice oa no oc, .slice va nv vc, .int .i64 f] 28))) := (Below.refl _ _).alloc (Nat.le_refl _) _
 have P0 : Hid ((w.alloc (.cells #[.int .i64 n, .slice za nz zc, .slice oa no oc, .slice va nv vc, .int .i64 f] 28)).heap[w.heap.size]? = some (.cells #[.int .i64 n, .slice za nz zc, .slice oa no oc, .slice va nv vc, .int .i64 f] 28 (0, 0))) := heap_alloc_new _ _
 have NB : Hid (¬ caseBl (.slice za nz zc) (.slice oa no oc) (.slice va nv vc) w.heap.size) := fun h => by
  rcases h with h | h | h
  · have := (hz.lt _ h).2; omega
  · have := (ho.lt _ h).2; omega
  · have := (hv.lt _ h).2; omega
 have Z0 := owns_below hz HB0.out
 have O0 : Hid ((w.alloc (.cells #[.int .i64 n, .slice za nz zc, .slice oa no oc, .slice va nv vc, .int .i64 f] 28)).ownsRow base 60 6 (.slice oa no oc) no xo) := owns_below ho HB0.out
 have V0 : Hid ((w.alloc (.cells #[.int .i64 n, .slice za nz zc, .slice oa no oc, .slice va nv vc, .int .i64 f] 28)).ownsRow base 62 5 (.slice va nv vc) nv xv) := owns_below hv HB0.out
 have M1 := markM_own n za nz zc base k0 xz _ Z0 h0 (by omega) (by omega)
 have N1 : Hid (∀ b, (Value.slice oa no oc).ownBlock = some b -> ¬ ((Value.slice za nz zc).ownBlock = some b)) := fun b e => own_twoC ho hz (by decide) b e
 have N2 : Hid (∀ b, (Value.slice va nv vc).ownBlock = some b -> ¬ ((Value.slice za nz zc).ownBlock = some b)) := fun b e => own_twoC hv hz (by decide) b e
 have N3 : Hid (∀ b, (Value.slice va nv vc).ownBlock = some b -> ¬ ((Value.slice oa no oc).ownBlock = some b)) := fun b e => own_twoC hv ho (by decide) b e
 clear hz ho hv Z0
 obtain ⟨c0, c1, c2, c3, c4⟩ := cells5 P0.out
 go_enter Tryz.func19, Tryz.ntmps19
 go_wp2_with fail
 clear c0 c1 c2 c3 c4
 generalize w.alloc (.cells #[.int .i64 n, .slice za nz zc, .slice oa no oc, .slice va nv vc, .int .i64 f] 28) = W0 at *
 refine M1.mono ?_
 rintro e w1 ⟨rfl, hg, hz1⟩
 have G1 : Hid (GrownBut (caseBl (.slice za nz zc) (.slice oa no oc) (.slice va nv vc)) w w1) := (GrownBut.of_below HB0.out).trans (hg.mono (fun b e => .inl e))
 have P1 : Hid (w1.heap[w.heap.size]? = some (.cells #[.int .i64 n, .slice za nz zc, .slice oa no oc, .slice va nv vc, .int .i64 f] 28 (0, 0))) := hg.row P0.out (fun e => NB.out (.inl e))
 have Z1 : Hid (w1.ownsRow base 2 1 (.slice za nz zc) nz ((seqL k0 (nz * 1)).map (Value.int .i64))) := hz1
 have O1 : w1.ownsRow base 60 6 (.slice oa no oc) no xo := but_own hg O0.out N1.out
 have V1 : Hid (w1.ownsRow base 62 5 (.slice va nv vc) nv xv) := but_own hg V0.out N2.out
 clear hg hz1 HB0 P0 O0 V0 M1
 obtain ⟨K1, HK1⟩ : ∃ t, Hid (k0 + ((nz : Nat) : Int) = t) := ⟨_, rfl⟩
 have hk1 : 0 <= K1 /\ K1 <= 200000000 := by have := HK1.out; omega
 have M2 := markO_own oa no oc base K1 xo _ O1 hk1.1 (by omega) (by omega)
 have N4 : Hid (∀ b, (Value.slice za nz zc).ownBlock = some b -> ¬ ((Value.slice oa no oc).ownBlock = some b)) := fun b e e2 => N1.out b e2 e
 clear O1
 rw [HK1.out]
 obtain ⟨c0, c1, c2, c3, c4⟩ := cells5 P1.out
 go_wp2_with fail
 clear c0 c1 c2 c3 c4
 refine M2.mono ?_
 rintro e w2 ⟨rfl, hg, ho2⟩
 have G2 : Hid (GrownBut (caseBl (.slice za nz zc) (.slice oa no oc) (.slice va nv vc)) w w2) := G1.out.trans (hg.mono (fun b e => .inr (.inl e)))
 have P2 : Hid (w2.heap[w.heap.size]? = some (.cells #[.int .i64 n, .slice za nz zc, .slice oa no oc, .slice va nv vc, .int .i64 f] 28 (0, 0))) := hg.row P1.out (fun e => NB.out (.inr (.inl e)))
 have Z2 : Hid (w2.ownsRow base 2 1 (.slice za nz zc) nz ((seqL k0 (nz * 1)).map (Value.int .i64))) := but_own hg Z1.out N4.out
 have O2 : Hid (w2.ownsRow base 60 6 (.slice oa no oc) no ((seqL K1 (no * 6)).map (Value.int .i64))) := ho2
 have V2 : w2.ownsRow base 62 5 (.slice va nv vc) nv xv := but_own hg V1.out N3.out
 clear hg ho2 G1 P1 Z1 V1 M2 N4
 obtain ⟨K2, HK2⟩ : ∃ t, Hid (K1 + ((no * 6 : Nat) : Int) = t) := ⟨_, rfl⟩
 have hk2 : 0 <= K2 /\ K2 <= 300000000 := by have := HK2.out; omega
 have M3 := markV_own va nv vc base K2 xv _ V2 hk2.1 (by omega) (by omega)
 have N5 : Hid (∀ b, (Value.slice za nz zc).ownBlock = some b -> ¬ ((Value.slice va nv vc).ownBlock = some b)) := fun b e e2 => N2.out b e2 e
 have N6 : Hid (∀ b, (Value.slice oa no oc).ownBlock = some b -> ¬ ((Value.slice va nv vc).ownBlock = some b)) := fun b e e2 => N3.out b e2 e
 clear V2
 rw [HK2.out]
 obtain ⟨c0, c1, c2, c3, c4⟩ := cells5 P2.out
 go_wp2_with fail
 clear c0 c1 c2 c3 c4
 refine M3.mono ?_
 rintro e w3 ⟨rfl, hg, hv3⟩
 have G3 : Hid (GrownBut (caseBl (.slice za nz zc) (.slice oa no oc) (.slice va nv vc)) w w3) := G2.out.trans (hg.mono (fun b e => .inr (.inr e)))
 have HM : Hid (CM w3 base za nz zc oa no oc va nv vc k0) := ⟨but_own hg Z2.out N5.out, by rw [HK1.out]; exact but_own hg O2.out N6.out, by rw [HK1.out, HK2.out]; exact hv3⟩
 clear hg hv3 M3
 obtain ⟨K3, HK3⟩ : ∃ t, Hid (K2 + ((nv * 5 : Nat) : Int) = t) := ⟨_, rfl⟩
 rw [HK3.out]
 go_wp2
 go_ret
 exact ⟨ret_int (show K3 = _ by rw [HK1.out, HK2.out, HK3.out]), G3.out, HM.out⟩
set_option maxHeartbeats 2000000 in
theorem heldCase_own (n f k0 : Int) (za oa va : Option Addr) (nz zc no oc nv vc base : Nat) (w : World) (hC : CM w base za nz zc oa no oc va nv vc k0) (h0 : 0 <= k0) (h1 : k0 <= 100000000) (bz : nz <= 1000000) (bo : no <= 1000000) (bv : nv <= 1000000) :
 Calls Tryz.prog 21 #[.agg #[.int .i64 n, .slice za nz zc, .slice oa no oc, .slice va nv vc, .int .i64 f], .int .i64 k0] w fun e w' => e = .returned (.int .i64 (k0 + ((nz : Nat) : Int) + ((no * 6 : Nat) : Int) + ((nv * 5 : Nat) : Int))) /\ Below w.heap.size w w' := by
 have HB0 : Hid (Below w.heap.size w (w.alloc (.cells #[.int .i64 n, .slice za nz zc, .slice oa no oc, .slice va nv vc, .int .i64 f] 28))) := (Below.refl _ _).alloc (Nat.le_refl _) _
 have P0 : Hid ((w.alloc (.cells #[.int .i64 n, .slice za nz zc, .slice oa no oc, .slice va nv vc, .int .i64 f] 28)).heap[w.heap.size]? = some (.cells #[.int .i64 n, .slice za nz zc, .slice oa no oc, .slice va nv vc, .int .i64 f] 28 (0, 0))) := heap_alloc_new _ _
 have C0 : Hid (CM (w.alloc (.cells #[.int .i64 n, .slice za nz zc, .slice oa no oc, .slice va nv vc, .int .i64 f] 28)) base za nz zc oa no oc va nv vc k0) := hC.below HB0.out
 have M1 := heldM_own n za nz zc base k0 _ C0.out.z h0 (by omega) (by omega)
 clear hC
 obtain ⟨c0, c1, c2, c3, c4⟩ := cells5 P0.out
 go_enter Tryz.func21, Tryz.ntmps21
 go_wp2_with fail
 clear c0 c1 c2 c3 c4
 generalize w.alloc (.cells #[.int .i64 n, .slice za nz zc, .slice oa no oc, .slice va nv vc, .int .i64 f] 28) = W0 at *
 refine M1.mono ?_
 rintro e w1 ⟨rfl, hb⟩
 have HB1 : Hid (Below w.heap.size w w1) := HB0.out.trans (hb.mono HB0.out.size)
 have P1 : Hid (w1.heap[w.heap.size]? = some (.cells #[.int .i64 n, .slice za nz zc, .slice oa no oc, .slice va nv vc, .int .i64 f] 28 (0, 0))) := below_row hb (row_lt P0.out) P0.out
 have C1 : Hid (CM w1 base za nz zc oa no oc va nv vc k0) := C0.out.below hb
 clear hb HB0 P0 C0 M1
 have M2 := heldO_own oa no oc base _ _ C1.out.o (by omega) (by omega) (by omega)
 have M3 := heldV_own va nv vc base _ _ C1.out.v (by omega) (by omega) (by omega)
 obtain ⟨K1, HK1⟩ : ∃ t, Hid (k0 + ((nz : Nat) : Int) = t) := ⟨_, rfl⟩
 have hk1 : ¬ (K1 < 0) := by have := HK1.out; omega
 rw [HK1.out] at M2 M3 ⊢
 obtain ⟨K2, HK2⟩ : ∃ t, Hid (K1 + ((no * 6 : Nat) : Int) = t) := ⟨_, rfl⟩
 have hk2 : ¬ (K2 < 0) := by have := HK1.out; have := HK2.out; omega
 rw [HK2.out] at M2 M3
 obtain ⟨K3, HK3⟩ : ∃ t, Hid (K2 + ((nv * 5 : Nat) : Int) = t) := ⟨_, rfl⟩
 have hk3 : ¬ (K3 < 0) := by have := HK1.out; have := HK2.out; have := HK3.out; omega
 rw [HK3.out] at M3
 obtain ⟨c0, c1, c2, c3, c4⟩ := cells5 P1.out
 go_wp2_with fail
 refine M2.mono ?_
 rintro e w2 ⟨rfl, rfl⟩
 clear M2
 go_wp2_with fail
 refine M3.mono ?_
 rintro e w3 ⟨rfl, rfl⟩
 clear M3
 go_wp2
 go_ret
 exact ⟨ret_int (show K3 = _ by rw [HK1.out, HK2.out, HK3.out]), HB1.out⟩
end Go.Proofs.YtcapkcallaajaaaGreatDoor
