import Derived.Test.YtcapkcallaajaaaGreatDoorPack4
import Derived.Test.YtcapkcallaajaaaGreatDoorPack6
import Derived.Test.YtcapkcallaajaaaGreatDoorPack12
import Derived.Test.YtcapkcallaajaaaGreatDoorTakeCase
import Derived.Test.YtcapkcallaajaaaGreatDoorPack16
import Derived.Deep.RegionHeld3
namespace Go.Proofs.YtcapkcallaajaaaGreatDoor
open Go.RowKit
def TakeOk (w : World) (q : Nat) (s : List UInt8) (e : Ending) (w' : World) : Prop :=
 (∃ S rs ls L r, planF s = some (S.map bare, L, r) /\ e = .returned (.agg #[rs, ls]) /\ RX w' q r /\ w.grownBy w' (some q) /\ PO w' (w.heap.size + 2) rs S ls L /\ ∃ la lc, ls = .slice la L.length lc /\ Apt S la) ∨ (planF s = none /\ e = .panicked GV /\ w.grownBy w' (some q))
set_option maxHeartbeats 4000000 in
set_option maxRecDepth 10000 in
theorem takePlan_any (q : Nat) (s : List UInt8) (w : World) (h : RX w q s) (hs : s.length <= 1000000000) :
 Calls Tryz.prog 34 #[.pointer (some ⟨q, 0, none⟩)] w (TakeOk w q s) := by
 have HQ : Hid (q < w.heap.size) := row_lt h
 have K0 : Hid (TK w ((w.alloc (.cells #[.slice none 0 0, .slice none 0 0] 31)).alloc (.cells #[.slice none 0 0, .slice none 0 0] 31)) q s (.slice none 0 0) []) := TK.new h
 have HPF : Hid (planF s = match routesF 5 s with
  | none => none
  | some (R, r) => if wLeft.isPrefixOf r = true then (match idsF 12 (r.drop 4) with | none => none | some (L, r2) => some (R, L, r2)) else none) := rfl
 clear h
 go_enter Tryz.func34, Tryz.ntmps34
 go_wp2_with fail
 generalize (w.alloc (.cells #[.slice none 0 0, .slice none 0 0] 31)).alloc (.cells #[.slice none 0 0, .slice none 0 0] 31) = W0 at *
 go_loopw [4] (fun _ wr => ∃ (S : List RT) (rs : Value) (rest : List UInt8), S.length <= 5 /\ rest.length <= s.length /\ routesF 5 s = ppr (S.map bare) (routesF (5 - S.length) rest) /\ TK w wr q rest rs S) (fun _ wr => rdLen wr q)
 case atStart => exact ⟨[], .slice none 0 0, s, by simp, Nat.le_refl _, by simp [ppr]; cases routesF 5 s <;> rfl, K0.out⟩
 case round =>
  clear K0
  obtain ⟨S, rs, rest, hS, hrl, hf, hk⟩ := hrel
  have HF : Hid (routesF 5 s = ppr (S.map bare) (routesF (5 - S.length) rest)) := hf
  have KW : Hid (TK w wr q rest rs S) := hk
  clear hf hk
  obtain ⟨n, HN⟩ : ∃ n, Hid (S.length = n) := ⟨_, rfl⟩
  rw [HN.out] at hS HF
  obtain ⟨ra, rc, e, -⟩ := own_sl KW.out.o.r
  rw [HN.out] at e
  subst e
  have C0 := atLine_any q rest wRoute wr KW.out.r (by omega) (by simp [wRoute])
  rw [show wRoute ++ [32] = wRouteB from rfl] at C0
  change Calls Tryz.prog 31 #[.pointer (some ⟨q, 0, none⟩), .string ⟨#[114, 111, 117, 116, 101]⟩] wr _ at C0
  cases hp : wRouteB.isPrefixOf rest
  · rw [hp] at C0
    have HE : Hid (routesF 5 s = some (S.map bare, rest)) := by
     show _ = _
     rw [HF.out, routesF_end _ _ hp]
     simp [ppr]
    clear hp HF
    cases hl : wLeft.isPrefixOf rest
    · have C1 := take_no q rest wLeft wr KW.out.r (by omega) hl
      change Calls Tryz.prog 58 #[.pointer (some ⟨q, 0, none⟩), .string ⟨#[108, 101, 102, 116]⟩] wr _ at C1
      have HP : Hid (planF s = none) := by
       show _ = _
       rw [HPF.out, HE.out]
       simp [hl]
      clear hl
      go_wp2_with fail
      refine C0.mono ?_
      rintro e w' ⟨rfl, rfl⟩
      go_wp2_with fail
      refine C1.mono ?_
      rintro e w' ⟨rfl, rfl⟩
      exact ⟨rfl, .inr ⟨HP.out, rfl, KW.out.g⟩⟩
    · have C1 := take_yes q rest wLeft wr KW.out.r (by omega) hl
      change Calls Tryz.prog 58 #[.pointer (some ⟨q, 0, none⟩), .string ⟨#[108, 101, 102, 116]⟩] wr _ at C1
      rw [show wLeft.length = 4 from rfl] at C1
      have HP : Hid (planF s = match idsF 12 (rest.drop 4) with | none => none | some (L, r2) => some (S.map bare, L, r2)) := by
       show _ = _
       rw [HPF.out, HE.out]
       simp only [hl, if_pos]
      have hrd : (rest.drop 4).length <= rest.length := by rw [List.length_drop]; omega
      clear hl
      go_wp2_with fail
      refine C0.mono ?_
      rintro e w' ⟨rfl, rfl⟩
      go_wp2_with fail
      refine C1.mono ?_
      rintro e w2 ⟨rfl, hr2, hg2⟩
      have K2 : Hid (TK w w2 q (rest.drop 4) (.slice ra n rc) S) := KW.out.call HQ.out hg2 hr2
      clear hr2 hg2 C0 C1 KW
      generalize rest.drop 4 = r2 at *
      go_wp2_with fail
      refine (ids_any q r2 w2 K2.out.r (by omega)).mono ?_
      rintro e w3 (⟨ids, r3, sl, hv, rfl, hr3, hg3, ho3⟩ | ⟨hv, rfl, hg3⟩)
      · have K3 : Hid (TK w w3 q r3 (.slice ra n rc) S) := K2.out.call HQ.out hg3 hr3
        obtain ⟨sa, sc, e3, -⟩ := own_sl ho3
        subst e3
        have O3 : Hid (w3.ownsRow (w.heap.size + 2) 2 1 (.slice sa ids.length sc) ids.length (ids.map (Value.int .i64))) := owns_base ho3 (by have := K2.out.size; omega)
        have HP2 : Hid (planF s = some (S.map bare, ids, r3)) := by show _ = _; rw [HP.out, hv]
        have AP : Hid (Apt S sa) := apt_of K2.out.a (fresh_adr K2.out.o.s ho3)
        clear hv hr3 hg3 ho3 K2
        obtain ⟨c0, c1⟩ := cells2 K3.out.p
        obtain ⟨z0, z1⟩ := cells2 K3.out.z
        have pf := fun i => frozen_of_row _ _ i _ _ K3.out.p
        have zf := fun i => frozen_of_row _ _ i _ _ K3.out.z
        obtain ⟨bz, HBZ⟩ : ∃ b, Hid (w.heap.size = b) := ⟨_, rfl⟩
        go_wp2
        refine bodyPost_ret (v := .agg #[.slice ra n rc, .slice sa ids.length sc]) (by simp [results, Tryz.results34, go_sem, z0, z1]) rfl ?_
        refine .inl ⟨S, _, _, ids, r3, HP2.out, rfl, ?_, ?_, ⟨?_, fun x hx => ?_, ?_⟩, _, _, rfl, AP.out⟩
        · refine RX.grown (RX.grown (RX.grown K3.out.r (grown_set _ _ _ _) ?_) (grown_set _ _ _ _) ?_) (grown_set _ _ _ _) ?_ <;> (have := HQ.out; simp; omega)
        · refine grown_ownR (grown_ownR (grown_ownR K3.out.g (grown_set _ _ _ _) ?_) (grown_set _ _ _ _) ?_) (grown_set _ _ _ _) ?_ <;> (intro g e; simp at e; omega)
        · exact owns_set (owns_set (owns_set K3.out.o.r (by omega)) (by omega)) (by omega)
        · exact owns_set (owns_set (owns_set (K3.out.o.s x hx) (by omega)) (by omega)) (by omega)
        · exact owns_set (owns_set (owns_set O3.out (by omega)) (by omega)) (by omega)
      · exact ⟨rfl, .inr ⟨by rw [HP.out, hv], rfl, grown_trans K2.out.g hg3⟩⟩
  · rw [hp] at C0
    by_cases hn : n < 5
    · have hnI : (n : Int) < 5 := by omega
      have C1 := take_yes q rest wRouteB wr KW.out.r (by omega) hp
      change Calls Tryz.prog 58 #[.pointer (some ⟨q, 0, none⟩), .string ⟨#[114, 111, 117, 116, 101, 32]⟩] wr _ at C1
      rw [show wRouteB.length = 6 from rfl] at C1
      have HF2 : Hid (routesF 5 s = ppr (S.map bare) (match idF (rest.drop 6) with
       | none => none
       | some (v, r) => match idsF 12 r with
         | none => none
         | some (ids, r2) => match routesF (4 - n) r2 with
           | none => none
           | some (R, r3) => some (⟨v, none, ids, 0⟩ :: R, r3))) := by
       show _ = _
       rw [HF.out, show 5 - n = (4 - n) + 1 by omega, routesF_one _ _ hp]
       rfl
      have hrd : (rest.drop 6).length + 6 = rest.length := by
       have := (List.isPrefixOf_iff_prefix.1 hp).length_le
       have e6 : wRouteB.length = 6 := rfl
       rw [List.length_drop]
       omega
      clear hp HF
      obtain ⟨c0, c1⟩ := cells2 KW.out.p
      go_wp2_with fail
      refine C0.mono ?_
      rintro e w' ⟨rfl, rfl⟩
      go_wp2_with fail
      with_reducible refine (must_yes _ _).mono ?_
      rintro e w' ⟨rfl, rfl⟩
      go_wp2_with fail
      refine C1.mono ?_
      rintro e w2 ⟨rfl, hr2, hg2⟩
      have K2 : Hid (TK w w2 q (rest.drop 6) (.slice ra n rc) S) := KW.out.call HQ.out hg2 hr2
      have MW : Hid (rdLen w' q = rest.length) := KW.out.r.len
      clear hr2 hg2 C0 C1 KW c0 c1
      generalize rest.drop 6 = r2 at *
      go_wp2_with fail
      refine wp_region_held_drew (S := (fun W => True)) (by kernel_rfl) ?_ (fun hHeld => ?_)
      · exact trivial
      have K2d : Hid (TK w w2.drew q r2 (.slice ra n rc) S) := K2.out.drew
      clear K2
      generalize w2.drew = V0 at *
      refine tkH 0 hHeld ?_
      refine tkH 2 hHeld ?_
      refine tkH 4 hHeld ?_
      refine wpAnyH_ready (rs := [1, 3]) (by kernel_rfl) (by simp) ?_
      refine AllReadyH.cons rfl (fun K hK => ?_) ?_
      · skip
        obtain ⟨z0, z1⟩ := cells2 K2d.out.p
        go_simp
        refine hK.out _ _ ?_ (fun hHeld => ?_)
        · exact trivial
        clear hK K
        clear z0 z1
        (try simp only [Act.put, List.setIfInBounds_toArray, List.set_cons_zero, List.set_cons_succ])
        refine wpAnyH_ready (rs := [3]) (by kernel_rfl) (by simp) ?_
        refine AllReadyH.cons rfl (fun K hK => ?_) AllReadyH.nil
        go_simp
        refine (id_any q r2 V0 K2d.out.r (by omega)).mono ?_
        rintro e w3 (⟨v, r3, hv, rfl, hr3, hg3⟩ | ⟨hv, rfl, hg3⟩)
        rotate_left
        · exact ⟨rfl, .inr ⟨by rw [HPF.out, HF2.out, hv]; rfl, rfl, grown_trans K2d.out.g hg3⟩⟩
        have K3 : Hid (TK w w3 q r3 (.slice ra n rc) S) := K2d.out.call HQ.out hg3 hr3
        have hr3l : r3.length <= r2.length := by
         have := congrArg List.length (idF_is hv).1
         rw [List.length_append] at this
         omega
        have HV : Hid (idF r2 = some (v, r3)) := hv
        clear hv hr3 hg3
        (try go_wp2_with fail)
        refine hK.out _ _ ?_ (fun hHeld => ?_)
        · exact trivial
        clear hK K
        (try simp only [Act.put, List.setIfInBounds_toArray, List.set_cons_zero, List.set_cons_succ])
        refine wpAnyH_ready (rs := [5]) (by kernel_rfl) (by simp) ?_
        refine AllReadyH.cons rfl (fun K hK => ?_) AllReadyH.nil
        go_simp
        refine (ids_any q r3 w3 K3.out.r (by omega)).mono ?_
        rintro e w4 (⟨ids, r4, sl, hv, rfl, hr4, hg4, ho4⟩ | ⟨hv, rfl, hg4⟩)
        rotate_left
        · exact ⟨rfl, .inr ⟨by rw [HPF.out, HF2.out, HV.out]; simp only; rw [hv]; rfl, rfl, grown_trans K3.out.g hg4⟩⟩
        have K4 : Hid (TK w w4 q r4 (.slice ra n rc) S) := K3.out.call HQ.out hg4 hr4
        obtain ⟨sa, sc, e4, -⟩ := own_sl ho4
        subst e4
        have O4 : Hid (w4.ownsRow (w.heap.size + 2) 2 1 (.slice sa ids.length sc) ids.length (ids.map (Value.int .i64))) := owns_base ho4 (by have := K3.out.size; omega)
        have hr4l : r4.length <= r3.length := by
         have := congrArg List.length (idsF_is 12 r3 ids r4 hv).1
         rw [List.length_append] at this
         simp at this
         omega
        have HI : Hid (idsF 12 r3 = some (ids, r4)) := hv
        have F4 : Hid (∀ s ∈ S, s.a = none ∨ s.a ≠ sa) := fresh_adr K3.out.o.s ho4
        clear hv hr4 hg4 ho4
        (try go_wp2_with fail)
        refine hK.out _ _ ?_ (fun hHeld => ?_)
        · exact trivial
        clear hK K
        (try simp only [Act.put, List.setIfInBounds_toArray, List.set_cons_zero, List.set_cons_succ])
        refine tkH 6 hHeld ?_
        refine wpAnyH_ready (rs := [7]) (by kernel_rfl) (by simp) ?_
        refine AllReadyH.cons rfl (fun K hK => ?_) AllReadyH.nil
        have K5 : Hid (TK w (w4.alloc (.cells #[.int .i64 v, .slice sa ids.length sc] 65)) q r4 (.slice ra n rc) S) := K4.out.alloc _
        have O5 : Hid (World.ownsRow (w4.alloc (.cells #[.int .i64 v, .slice sa ids.length sc] 65)) (w.heap.size + 2) 2 1 (.slice sa ids.length sc) ids.length (ids.map (Value.int .i64))) := O4.out.alloc _
        have V5 : Hid ((w4.alloc (.cells #[.int .i64 v, .slice sa ids.length sc] 65)).heap[w4.heap.size]? = some (.cells #[.int .i64 v, .slice sa ids.length sc] 65 (0, 0))) := heap_alloc_new _ _
        go_simp
        refine hK.out _ _ ?_ (fun hHeld => ?_)
        · exact trivial
        clear hK K
        generalize (w4.alloc (.cells #[.int .i64 v, .slice sa ids.length sc] 65)) = w5 at *
        generalize w4.heap.size = b5 at *
        (try simp only [Act.put, List.setIfInBounds_toArray, List.set_cons_zero, List.set_cons_succ])
        refine wpAnyH_ready (rs := [8]) (by kernel_rfl) (by simp) ?_
        refine AllReadyH.cons rfl (fun K hK => ?_) AllReadyH.nil
        refine step_append_vals Tryz.underlying29 infoRtR (by rfl) (by omega) rfl (.tmp 15) (.tmp 21) rfl (w.heap.size + 2) (.slice ra n rc) n (rowR S) rfl (by have := K5.out.o.r; rw [HN.out] at this; exact this) b5 0 1 1 [.int .i64 v, .slice sa ids.length sc] rfl rfl (cells2_at _ _ _ _ _ V5.out) (by simp [Value.oneCell']) (by omega) (by omega) K5.out.size ?_
        intro v' w6 ho hg hbk hz
        rcases own_kinds ho with ⟨_, e0⟩ | ⟨g6, c6, e6, -, -⟩
        · omega
        subst e6
        have K6 : Hid (TK w (w6.setCell ⟨w.heap.size + 1, 0, none⟩ (.slice (some ⟨g6, 0, none⟩) (n + 1) c6)) q r4 (.slice (some ⟨g6, 0, none⟩) (n + 1) c6) (S ++ [⟨v, sa, ids, sc⟩])) := K5.out.more HQ.out O5.out F4.out hg (by
         rw [HN.out, rowR_app]
         exact ho)
        have P6 := grown_row hg K5.out.p (fun e => by have := (K5.out.o.r.lt _ e.symm).1; omega)
        have f6 := fun i => frozen_of_row _ _ i _ _ P6
        obtain ⟨x6, y6⟩ := cells2 P6
        clear ho hg hbk hz
        refine hK.out _ _ ?_ (fun hHeld => ?_)
        · exact trivial
        clear hK K
        change wpAnyH _ _ _ _ _ _ _ (Act.put _ (some 22) _) _
        (try simp only [Act.put, List.setIfInBounds_toArray, List.set_cons_zero, List.set_cons_succ])
        refine tkH 9 hHeld ?_
        refine wpAnyH_ready (rs := [10]) (by kernel_rfl) (by simp) ?_
        refine AllReadyH.cons rfl (fun K hK => ?_) AllReadyH.nil
        go_simp
        refine hK.out _ _ ?_ (fun hHeld => ?_)
        · exact trivial
        clear hK K
        (try simp only [Act.put, List.setIfInBounds_toArray, List.set_cons_zero, List.set_cons_succ])
        refine wpAnyH_done (by kernel_rfl) ?_ _
        have HF3 : Hid (routesF 5 s = ppr ((S ++ [(⟨v, sa, ids, sc⟩ : RT)]).map bare) (routesF (5 - (n + 1)) r4)) := by
         show _ = _
         rw [HF2.out, HV.out]
         simp only
         rw [HI.out, List.map_append, show 5 - (n + 1) = 4 - n by omega]
         exact (ppr_snoc _ _ _ _).symm
        have hlen : (S ++ [(⟨v, sa, ids, sc⟩ : RT)]).length = n + 1 := by rw [List.length_append, HN.out]; rfl
        generalize w6.setCell ⟨w.heap.size + 1, 0, none⟩ (.slice (some ⟨g6, 0, none⟩) (n + 1) c6) = W6 at *
        go_wp2_with fail
        go_roundw
        case rel => exact ⟨S ++ [(⟨v, sa, ids, sc⟩ : RT)], _, r4, by rw [hlen]; omega, by omega, by rw [hlen]; exact HF3.out, K6.out⟩
        case measure => rw [K6.out.r.len, MW.out]; omega
      refine AllReadyH.cons rfl (fun K hK => ?_) AllReadyH.nil
      go_simp
      refine (id_any q r2 V0 K2d.out.r (by omega)).mono ?_
      rintro e w3 (⟨v, r3, hv, rfl, hr3, hg3⟩ | ⟨hv, rfl, hg3⟩)
      rotate_left
      · exact ⟨rfl, .inr ⟨by rw [HPF.out, HF2.out, hv]; rfl, rfl, grown_trans K2d.out.g hg3⟩⟩
      have K3 : Hid (TK w w3 q r3 (.slice ra n rc) S) := K2d.out.call HQ.out hg3 hr3
      have hr3l : r3.length <= r2.length := by
       have := congrArg List.length (idF_is hv).1
       rw [List.length_append] at this
       omega
      have HV : Hid (idF r2 = some (v, r3)) := hv
      clear hv hr3 hg3
      (try go_wp2_with fail)
      refine hK.out _ _ ?_ (fun hHeld => ?_)
      · exact trivial
      clear hK K
      (try simp only [Act.put, List.setIfInBounds_toArray, List.set_cons_zero, List.set_cons_succ])
      refine wpAnyH_ready (rs := [1, 5]) (by kernel_rfl) (by simp) ?_
      refine AllReadyH.cons rfl (fun K hK => ?_) ?_
      · skip
        obtain ⟨z0, z1⟩ := cells2 K3.out.p
        go_simp
        refine hK.out _ _ ?_ (fun hHeld => ?_)
        · exact trivial
        clear hK K
        clear z0 z1
        (try simp only [Act.put, List.setIfInBounds_toArray, List.set_cons_zero, List.set_cons_succ])
        refine wpAnyH_ready (rs := [5]) (by kernel_rfl) (by simp) ?_
        refine AllReadyH.cons rfl (fun K hK => ?_) AllReadyH.nil
        go_simp
        refine (ids_any q r3 w3 K3.out.r (by omega)).mono ?_
        rintro e w4 (⟨ids, r4, sl, hv, rfl, hr4, hg4, ho4⟩ | ⟨hv, rfl, hg4⟩)
        rotate_left
        · exact ⟨rfl, .inr ⟨by rw [HPF.out, HF2.out, HV.out]; simp only; rw [hv]; rfl, rfl, grown_trans K3.out.g hg4⟩⟩
        have K4 : Hid (TK w w4 q r4 (.slice ra n rc) S) := K3.out.call HQ.out hg4 hr4
        obtain ⟨sa, sc, e4, -⟩ := own_sl ho4
        subst e4
        have O4 : Hid (w4.ownsRow (w.heap.size + 2) 2 1 (.slice sa ids.length sc) ids.length (ids.map (Value.int .i64))) := owns_base ho4 (by have := K3.out.size; omega)
        have hr4l : r4.length <= r3.length := by
         have := congrArg List.length (idsF_is 12 r3 ids r4 hv).1
         rw [List.length_append] at this
         simp at this
         omega
        have HI : Hid (idsF 12 r3 = some (ids, r4)) := hv
        have F4 : Hid (∀ s ∈ S, s.a = none ∨ s.a ≠ sa) := fresh_adr K3.out.o.s ho4
        clear hv hr4 hg4 ho4
        (try go_wp2_with fail)
        refine hK.out _ _ ?_ (fun hHeld => ?_)
        · exact trivial
        clear hK K
        (try simp only [Act.put, List.setIfInBounds_toArray, List.set_cons_zero, List.set_cons_succ])
        refine tkH 6 hHeld ?_
        refine wpAnyH_ready (rs := [7]) (by kernel_rfl) (by simp) ?_
        refine AllReadyH.cons rfl (fun K hK => ?_) AllReadyH.nil
        have K5 : Hid (TK w (w4.alloc (.cells #[.int .i64 v, .slice sa ids.length sc] 65)) q r4 (.slice ra n rc) S) := K4.out.alloc _
        have O5 : Hid (World.ownsRow (w4.alloc (.cells #[.int .i64 v, .slice sa ids.length sc] 65)) (w.heap.size + 2) 2 1 (.slice sa ids.length sc) ids.length (ids.map (Value.int .i64))) := O4.out.alloc _
        have V5 : Hid ((w4.alloc (.cells #[.int .i64 v, .slice sa ids.length sc] 65)).heap[w4.heap.size]? = some (.cells #[.int .i64 v, .slice sa ids.length sc] 65 (0, 0))) := heap_alloc_new _ _
        go_simp
        refine hK.out _ _ ?_ (fun hHeld => ?_)
        · exact trivial
        clear hK K
        generalize (w4.alloc (.cells #[.int .i64 v, .slice sa ids.length sc] 65)) = w5 at *
        generalize w4.heap.size = b5 at *
        (try simp only [Act.put, List.setIfInBounds_toArray, List.set_cons_zero, List.set_cons_succ])
        refine wpAnyH_ready (rs := [8]) (by kernel_rfl) (by simp) ?_
        refine AllReadyH.cons rfl (fun K hK => ?_) AllReadyH.nil
        refine step_append_vals Tryz.underlying29 infoRtR (by rfl) (by omega) rfl (.tmp 15) (.tmp 21) rfl (w.heap.size + 2) (.slice ra n rc) n (rowR S) rfl (by have := K5.out.o.r; rw [HN.out] at this; exact this) b5 0 1 1 [.int .i64 v, .slice sa ids.length sc] rfl rfl (cells2_at _ _ _ _ _ V5.out) (by simp [Value.oneCell']) (by omega) (by omega) K5.out.size ?_
        intro v' w6 ho hg hbk hz
        rcases own_kinds ho with ⟨_, e0⟩ | ⟨g6, c6, e6, -, -⟩
        · omega
        subst e6
        have K6 : Hid (TK w (w6.setCell ⟨w.heap.size + 1, 0, none⟩ (.slice (some ⟨g6, 0, none⟩) (n + 1) c6)) q r4 (.slice (some ⟨g6, 0, none⟩) (n + 1) c6) (S ++ [⟨v, sa, ids, sc⟩])) := K5.out.more HQ.out O5.out F4.out hg (by
         rw [HN.out, rowR_app]
         exact ho)
        have P6 := grown_row hg K5.out.p (fun e => by have := (K5.out.o.r.lt _ e.symm).1; omega)
        have f6 := fun i => frozen_of_row _ _ i _ _ P6
        obtain ⟨x6, y6⟩ := cells2 P6
        clear ho hg hbk hz
        refine hK.out _ _ ?_ (fun hHeld => ?_)
        · exact trivial
        clear hK K
        change wpAnyH _ _ _ _ _ _ _ (Act.put _ (some 22) _) _
        (try simp only [Act.put, List.setIfInBounds_toArray, List.set_cons_zero, List.set_cons_succ])
        refine tkH 9 hHeld ?_
        refine wpAnyH_ready (rs := [10]) (by kernel_rfl) (by simp) ?_
        refine AllReadyH.cons rfl (fun K hK => ?_) AllReadyH.nil
        go_simp
        refine hK.out _ _ ?_ (fun hHeld => ?_)
        · exact trivial
        clear hK K
        (try simp only [Act.put, List.setIfInBounds_toArray, List.set_cons_zero, List.set_cons_succ])
        refine wpAnyH_done (by kernel_rfl) ?_ _
        have HF3 : Hid (routesF 5 s = ppr ((S ++ [(⟨v, sa, ids, sc⟩ : RT)]).map bare) (routesF (5 - (n + 1)) r4)) := by
         show _ = _
         rw [HF2.out, HV.out]
         simp only
         rw [HI.out, List.map_append, show 5 - (n + 1) = 4 - n by omega]
         exact (ppr_snoc _ _ _ _).symm
        have hlen : (S ++ [(⟨v, sa, ids, sc⟩ : RT)]).length = n + 1 := by rw [List.length_append, HN.out]; rfl
        generalize w6.setCell ⟨w.heap.size + 1, 0, none⟩ (.slice (some ⟨g6, 0, none⟩) (n + 1) c6) = W6 at *
        go_wp2_with fail
        go_roundw
        case rel => exact ⟨S ++ [(⟨v, sa, ids, sc⟩ : RT)], _, r4, by rw [hlen]; omega, by omega, by rw [hlen]; exact HF3.out, K6.out⟩
        case measure => rw [K6.out.r.len, MW.out]; omega
      refine AllReadyH.cons rfl (fun K hK => ?_) AllReadyH.nil
      go_simp
      refine (ids_any q r3 w3 K3.out.r (by omega)).mono ?_
      rintro e w4 (⟨ids, r4, sl, hv, rfl, hr4, hg4, ho4⟩ | ⟨hv, rfl, hg4⟩)
      rotate_left
      · exact ⟨rfl, .inr ⟨by rw [HPF.out, HF2.out, HV.out]; simp only; rw [hv]; rfl, rfl, grown_trans K3.out.g hg4⟩⟩
      have K4 : Hid (TK w w4 q r4 (.slice ra n rc) S) := K3.out.call HQ.out hg4 hr4
      obtain ⟨sa, sc, e4, -⟩ := own_sl ho4
      subst e4
      have O4 : Hid (w4.ownsRow (w.heap.size + 2) 2 1 (.slice sa ids.length sc) ids.length (ids.map (Value.int .i64))) := owns_base ho4 (by have := K3.out.size; omega)
      have hr4l : r4.length <= r3.length := by
       have := congrArg List.length (idsF_is 12 r3 ids r4 hv).1
       rw [List.length_append] at this
       simp at this
       omega
      have HI : Hid (idsF 12 r3 = some (ids, r4)) := hv
      have F4 : Hid (∀ s ∈ S, s.a = none ∨ s.a ≠ sa) := fresh_adr K3.out.o.s ho4
      clear hv hr4 hg4 ho4
      (try go_wp2_with fail)
      refine hK.out _ _ ?_ (fun hHeld => ?_)
      · exact trivial
      clear hK K
      (try simp only [Act.put, List.setIfInBounds_toArray, List.set_cons_zero, List.set_cons_succ])
      refine tkH 6 hHeld ?_
      refine wpAnyH_ready (rs := [1, 7]) (by kernel_rfl) (by simp) ?_
      refine AllReadyH.cons rfl (fun K hK => ?_) ?_
      · skip
        obtain ⟨z0, z1⟩ := cells2 K4.out.p
        go_simp
        refine hK.out _ _ ?_ (fun hHeld => ?_)
        · exact trivial
        clear hK K
        clear z0 z1
        (try simp only [Act.put, List.setIfInBounds_toArray, List.set_cons_zero, List.set_cons_succ])
        refine wpAnyH_ready (rs := [7]) (by kernel_rfl) (by simp) ?_
        refine AllReadyH.cons rfl (fun K hK => ?_) AllReadyH.nil
        have K5 : Hid (TK w (w4.alloc (.cells #[.int .i64 v, .slice sa ids.length sc] 65)) q r4 (.slice ra n rc) S) := K4.out.alloc _
        have O5 : Hid (World.ownsRow (w4.alloc (.cells #[.int .i64 v, .slice sa ids.length sc] 65)) (w.heap.size + 2) 2 1 (.slice sa ids.length sc) ids.length (ids.map (Value.int .i64))) := O4.out.alloc _
        have V5 : Hid ((w4.alloc (.cells #[.int .i64 v, .slice sa ids.length sc] 65)).heap[w4.heap.size]? = some (.cells #[.int .i64 v, .slice sa ids.length sc] 65 (0, 0))) := heap_alloc_new _ _
        go_simp
        refine hK.out _ _ ?_ (fun hHeld => ?_)
        · exact trivial
        clear hK K
        generalize (w4.alloc (.cells #[.int .i64 v, .slice sa ids.length sc] 65)) = w5 at *
        generalize w4.heap.size = b5 at *
        (try simp only [Act.put, List.setIfInBounds_toArray, List.set_cons_zero, List.set_cons_succ])
        refine wpAnyH_ready (rs := [8]) (by kernel_rfl) (by simp) ?_
        refine AllReadyH.cons rfl (fun K hK => ?_) AllReadyH.nil
        refine step_append_vals Tryz.underlying29 infoRtR (by rfl) (by omega) rfl (.tmp 15) (.tmp 21) rfl (w.heap.size + 2) (.slice ra n rc) n (rowR S) rfl (by have := K5.out.o.r; rw [HN.out] at this; exact this) b5 0 1 1 [.int .i64 v, .slice sa ids.length sc] rfl rfl (cells2_at _ _ _ _ _ V5.out) (by simp [Value.oneCell']) (by omega) (by omega) K5.out.size ?_
        intro v' w6 ho hg hbk hz
        rcases own_kinds ho with ⟨_, e0⟩ | ⟨g6, c6, e6, -, -⟩
        · omega
        subst e6
        have K6 : Hid (TK w (w6.setCell ⟨w.heap.size + 1, 0, none⟩ (.slice (some ⟨g6, 0, none⟩) (n + 1) c6)) q r4 (.slice (some ⟨g6, 0, none⟩) (n + 1) c6) (S ++ [⟨v, sa, ids, sc⟩])) := K5.out.more HQ.out O5.out F4.out hg (by
         rw [HN.out, rowR_app]
         exact ho)
        have P6 := grown_row hg K5.out.p (fun e => by have := (K5.out.o.r.lt _ e.symm).1; omega)
        have f6 := fun i => frozen_of_row _ _ i _ _ P6
        obtain ⟨x6, y6⟩ := cells2 P6
        clear ho hg hbk hz
        refine hK.out _ _ ?_ (fun hHeld => ?_)
        · exact trivial
        clear hK K
        change wpAnyH _ _ _ _ _ _ _ (Act.put _ (some 22) _) _
        (try simp only [Act.put, List.setIfInBounds_toArray, List.set_cons_zero, List.set_cons_succ])
        refine tkH 9 hHeld ?_
        refine wpAnyH_ready (rs := [10]) (by kernel_rfl) (by simp) ?_
        refine AllReadyH.cons rfl (fun K hK => ?_) AllReadyH.nil
        go_simp
        refine hK.out _ _ ?_ (fun hHeld => ?_)
        · exact trivial
        clear hK K
        (try simp only [Act.put, List.setIfInBounds_toArray, List.set_cons_zero, List.set_cons_succ])
        refine wpAnyH_done (by kernel_rfl) ?_ _
        have HF3 : Hid (routesF 5 s = ppr ((S ++ [(⟨v, sa, ids, sc⟩ : RT)]).map bare) (routesF (5 - (n + 1)) r4)) := by
         show _ = _
         rw [HF2.out, HV.out]
         simp only
         rw [HI.out, List.map_append, show 5 - (n + 1) = 4 - n by omega]
         exact (ppr_snoc _ _ _ _).symm
        have hlen : (S ++ [(⟨v, sa, ids, sc⟩ : RT)]).length = n + 1 := by rw [List.length_append, HN.out]; rfl
        generalize w6.setCell ⟨w.heap.size + 1, 0, none⟩ (.slice (some ⟨g6, 0, none⟩) (n + 1) c6) = W6 at *
        go_wp2_with fail
        go_roundw
        case rel => exact ⟨S ++ [(⟨v, sa, ids, sc⟩ : RT)], _, r4, by rw [hlen]; omega, by omega, by rw [hlen]; exact HF3.out, K6.out⟩
        case measure => rw [K6.out.r.len, MW.out]; omega
      refine AllReadyH.cons rfl (fun K hK => ?_) AllReadyH.nil
      have K5 : Hid (TK w (w4.alloc (.cells #[.int .i64 v, .slice sa ids.length sc] 65)) q r4 (.slice ra n rc) S) := K4.out.alloc _
      have O5 : Hid (World.ownsRow (w4.alloc (.cells #[.int .i64 v, .slice sa ids.length sc] 65)) (w.heap.size + 2) 2 1 (.slice sa ids.length sc) ids.length (ids.map (Value.int .i64))) := O4.out.alloc _
      have V5 : Hid ((w4.alloc (.cells #[.int .i64 v, .slice sa ids.length sc] 65)).heap[w4.heap.size]? = some (.cells #[.int .i64 v, .slice sa ids.length sc] 65 (0, 0))) := heap_alloc_new _ _
      go_simp
      refine hK.out _ _ ?_ (fun hHeld => ?_)
      · exact trivial
      clear hK K
      generalize (w4.alloc (.cells #[.int .i64 v, .slice sa ids.length sc] 65)) = w5 at *
      generalize w4.heap.size = b5 at *
      (try simp only [Act.put, List.setIfInBounds_toArray, List.set_cons_zero, List.set_cons_succ])
      refine wpAnyH_ready (rs := [1]) (by kernel_rfl) (by simp) ?_
      refine AllReadyH.cons rfl (fun K hK => ?_) AllReadyH.nil
      obtain ⟨z0, z1⟩ := cells2 K5.out.p
      go_simp
      refine hK.out _ _ ?_ (fun hHeld => ?_)
      · exact trivial
      clear hK K
      clear z0 z1
      (try simp only [Act.put, List.setIfInBounds_toArray, List.set_cons_zero, List.set_cons_succ])
      refine wpAnyH_ready (rs := [8]) (by kernel_rfl) (by simp) ?_
      refine AllReadyH.cons rfl (fun K hK => ?_) AllReadyH.nil
      refine step_append_vals Tryz.underlying29 infoRtR (by rfl) (by omega) rfl (.tmp 15) (.tmp 21) rfl (w.heap.size + 2) (.slice ra n rc) n (rowR S) rfl (by have := K5.out.o.r; rw [HN.out] at this; exact this) b5 0 1 1 [.int .i64 v, .slice sa ids.length sc] rfl rfl (cells2_at _ _ _ _ _ V5.out) (by simp [Value.oneCell']) (by omega) (by omega) K5.out.size ?_
      intro v' w6 ho hg hbk hz
      rcases own_kinds ho with ⟨_, e0⟩ | ⟨g6, c6, e6, -, -⟩
      · omega
      subst e6
      have K6 : Hid (TK w (w6.setCell ⟨w.heap.size + 1, 0, none⟩ (.slice (some ⟨g6, 0, none⟩) (n + 1) c6)) q r4 (.slice (some ⟨g6, 0, none⟩) (n + 1) c6) (S ++ [⟨v, sa, ids, sc⟩])) := K5.out.more HQ.out O5.out F4.out hg (by
       rw [HN.out, rowR_app]
       exact ho)
      have P6 := grown_row hg K5.out.p (fun e => by have := (K5.out.o.r.lt _ e.symm).1; omega)
      have f6 := fun i => frozen_of_row _ _ i _ _ P6
      obtain ⟨x6, y6⟩ := cells2 P6
      clear ho hg hbk hz
      refine hK.out _ _ ?_ (fun hHeld => ?_)
      · exact trivial
      clear hK K
      change wpAnyH _ _ _ _ _ _ _ (Act.put _ (some 22) _) _
      (try simp only [Act.put, List.setIfInBounds_toArray, List.set_cons_zero, List.set_cons_succ])
      refine tkH 9 hHeld ?_
      refine wpAnyH_ready (rs := [10]) (by kernel_rfl) (by simp) ?_
      refine AllReadyH.cons rfl (fun K hK => ?_) AllReadyH.nil
      go_simp
      refine hK.out _ _ ?_ (fun hHeld => ?_)
      · exact trivial
      clear hK K
      (try simp only [Act.put, List.setIfInBounds_toArray, List.set_cons_zero, List.set_cons_succ])
      refine wpAnyH_done (by kernel_rfl) ?_ _
      have HF3 : Hid (routesF 5 s = ppr ((S ++ [(⟨v, sa, ids, sc⟩ : RT)]).map bare) (routesF (5 - (n + 1)) r4)) := by
       show _ = _
       rw [HF2.out, HV.out]
       simp only
       rw [HI.out, List.map_append, show 5 - (n + 1) = 4 - n by omega]
       exact (ppr_snoc _ _ _ _).symm
      have hlen : (S ++ [(⟨v, sa, ids, sc⟩ : RT)]).length = n + 1 := by rw [List.length_append, HN.out]; rfl
      generalize w6.setCell ⟨w.heap.size + 1, 0, none⟩ (.slice (some ⟨g6, 0, none⟩) (n + 1) c6) = W6 at *
      go_wp2_with fail
      go_roundw
      case rel => exact ⟨S ++ [(⟨v, sa, ids, sc⟩ : RT)], _, r4, by rw [hlen]; omega, by omega, by rw [hlen]; exact HF3.out, K6.out⟩
      case measure => rw [K6.out.r.len, MW.out]; omega
    · have hnI : decide ((n : Int) < 5) = false := decide_eq_false (by omega)
      have HE : Hid (planF s = none) := by
       show _ = _
       rw [HPF.out, HF.out, show 5 - n = 0 by omega, routesF_full _ hp]
       rfl
      clear hp
      obtain ⟨c0, c1⟩ := cells2 KW.out.p
      go_wp2_with fail
      refine C0.mono ?_
      rintro e w' ⟨rfl, rfl⟩
      go_wp2_with fail
      with_reducible refine (must_no _ _).mono ?_
      rintro e w' ⟨rfl, rfl⟩
      exact ⟨rfl, .inr ⟨HE.out, rfl, KW.out.g⟩⟩
theorem CO.nil0 (w : World) (base : Nat) : CO w base (.slice none 0 0) (.slice none 0 0) (.slice none 0 0) cv0 := ⟨⟨by simp [cv0], .inl ⟨rfl, rfl⟩⟩, ⟨by simp [cv0], .inl ⟨rfl, rfl⟩⟩, ⟨by simp [cv0], .inl ⟨rfl, rfl⟩⟩⟩
structure CK (w : World) (base : Nat) (za : Option Addr) (nz zc : Nat) (oa : Option Addr) (no oc : Nat) (va : Option Addr) (nv vc : Nat) (zs os vs : List Int) : Prop where
 z : w.ownsRow base 2 1 (.slice za nz zc) nz (zs.map (Value.int .i64))
 o : w.ownsRow base 60 6 (.slice oa no oc) no (os.map (Value.int .i64))
 v : w.ownsRow base 62 5 (.slice va nv vc) nv (vs.map (Value.int .i64))
theorem CK.below {w w' : World} {base nz zc no oc nv vc : Nat} {za oa va : Option Addr} {zs os vs : List Int} (h : CK w base za nz zc oa no oc va nv vc zs os vs) (hb : Below w.heap.size w w') : CK w' base za nz zc oa no oc va nv vc zs os vs := ⟨owns_below h.z hb, owns_below h.o hb, owns_below h.v hb⟩
theorem CK.tops {w : World} {base nz zc no oc nv vc : Nat} {za oa va : Option Addr} {zs os vs : List Int} (h : CK w base za nz zc oa no oc va nv vc zs os vs) : ∀ b, caseBl (.slice za nz zc) (.slice oa no oc) (.slice va nv vc) b -> base <= b /\ b < w.heap.size := fun b hb => by
 rcases hb with e | e | e
 · exact h.z.lt b e
 · exact h.o.lt b e
 · exact h.v.lt b e
end Go.Proofs.YtcapkcallaajaaaGreatDoor
