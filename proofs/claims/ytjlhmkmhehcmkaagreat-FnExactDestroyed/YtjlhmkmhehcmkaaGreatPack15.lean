import Derived.Test.YtjlhmkmhehcmkaaGreatPack1
import Derived.Test.YtjlhmkmhehcmkaaGreatPack2
import Derived.Test.YtjlhmkmhehcmkaaGreatImplPlan
import Derived.Test.YtjlhmkmhehcmkaaGreatPack11
import Derived.Test.YtjlhmkmhehcmkaaGreatSpecPlan
import Derived.Test.YtjlhmkmhehcmkaaGreatPack14
namespace Go.Proofs.YtjlhmkmhehcmkaaGreat
open Go.RowKit
theorem specPlan_at (n fine : Int) (a ao av : Option Addr) (cap ko co kv cv g gl : Nat) (zs os vs L : List Int) (S R : List RT) (w : World) (hA : IntsAt w a zs) (hO : IntsAt w ao os) (hV : IntsAt w av vs) (hP : PlanAt w g gl S R L) (hlo : os.length = ko * 6) (hlv : vs.length = kv * 5) (hko : ko <= 9223372036854775807) (hkv : kv <= 9223372036854775807) (hn : R.length <= 1048576) (hi : ∀ r ∈ R, r.ids.length <= 1048576) (hll : L.length <= 1048576) (hal : (allTo R R.length).length <= 1048576) :
   Calls Tryz.prog 20 #[.agg #[.int .i64 n, .slice a zs.length cap, .slice ao ko co, .slice av kv cv, .int .i64 fine], .agg #[.slice (some ⟨g, 0, none⟩) R.length R.length, .slice (some ⟨gl, 0, none⟩) L.length L.length]] w fun e w' => e = .returned (.int .i64 (planV n zs os vs ko kv fine R L)) /\ Below w.heap.size w w' := by
 have hk := key_len hP.k
 have := specPlan_any n fine a ao av (some ⟨g, 0, none⟩) (some ⟨gl, 0, none⟩) cap ko co kv cv R.length L.length zs os vs L S w hA hO hV hP.r hP.l hlo hlv hko hkv (by omega) (key_ids hP.k hi) hP.room hll (by rw [allTo_key hP.k, hk]; exact hal)
 rw [hk, planV_key L hP.k] at this
 exact this
theorem implPlan_at (n fine : Int) (a ao av : Option Addr) (cap ko co kv cv g gl : Nat) (zs os vs L : List Int) (S R : List RT) (w : World) (hA : IntsAt w a zs) (hO : IntsAt w ao os) (hV : IntsAt w av vs) (hP : PlanAt w g gl S R L) (hlo : os.length = ko * 6) (hlv : vs.length = kv * 5) (hko : ko <= 9223372036854775807) (hkv : kv <= 9223372036854775807) (hn : R.length <= 1048576) (hi : ∀ r ∈ R, r.ids.length <= 1048576) (hll : L.length <= 1048576) (hal : (allTo R R.length).length <= 1048576) (hwl : ∀ x ∈ L, (Lit.int .i64 x).wf = true) :
   Calls Tryz.prog 34 #[.agg #[.int .i64 n, .slice a zs.length cap, .slice ao ko co, .slice av kv cv, .int .i64 fine], .agg #[.slice (some ⟨g, 0, none⟩) R.length R.length, .slice (some ⟨gl, 0, none⟩) L.length L.length]] w fun e w' => e = .returned (.int .i64 (planV n zs os vs ko kv fine R L)) /\ Below w.heap.size w w' := by
 have hk := key_len hP.k
 have := implPlan_any n fine a ao av (some ⟨g, 0, none⟩) (some ⟨gl, 0, none⟩) cap ko co kv cv R.length L.length zs os vs L S w hA hO hV hP.r hP.l hlo hlv hko hkv (by omega) (key_ids hP.k hi) hP.room hll (by rw [allTo_key hP.k, hk]; exact hal) hwl
 rw [hk, planV_key L hP.k] at this
 exact this
end Go.Proofs.YtjlhmkmhehcmkaaGreat
namespace Go.Proofs.YtjlhmkmhehcmkaaGreat
open Go.RowKit
def LPB (w W : World) (cs rs : Array Value) : Prop := Below w.heap.size w W /\ W.heap[w.heap.size]? = some (.cells cs 28 (0, 0)) /\ W.heap[w.heap.size + 1]? = some (.cells rs 31 (0, 0))
theorem LPB.new (w : World) (cs rs : Array Value) : LPB w ((w.alloc (.cells cs 28)).alloc (.cells rs 31)) cs rs :=
 ⟨((Below.refl _ _).alloc (Nat.le_refl _) _).alloc (by simp) _, heap_alloc2_old _ _ _, heap_alloc2_new _ _ _⟩
theorem LPB.below {w W W' : World} {cs rs : Array Value} (h : LPB w W cs rs) (hb : Below W.heap.size W W') : LPB w W' cs rs :=
 ⟨h.1.trans (hb.mono h.1.size), below_row hb (row_lt h.2.1) h.2.1, below_row hb (row_lt h.2.2) h.2.2⟩
theorem LPB.drew {w W : World} {cs rs : Array Value} (h : LPB w W cs rs) : LPB w W.drew cs rs := h.below (Below.refl _ _).drew
theorem LPB.alloc {w W : World} {cs rs : Array Value} (h : LPB w W cs rs) (o : Obj) : LPB w (W.alloc o) cs rs := h.below ((Below.refl _ _).alloc (Nat.le_refl _) _)
theorem LPB.b {w W : World} {cs rs : Array Value} (h : LPB w W cs rs) : Below w.heap.size w W := h.1
theorem LPB.cells {w W : World} {c0 c1 c2 c3 c4 r0 r1 : Value} (h : LPB w W #[c0, c1, c2, c3, c4] #[r0, r1]) :
   W.cell? ⟨w.heap.size, 0, none⟩ = some c0 /\ W.cell? ⟨w.heap.size, 1, none⟩ = some c1 /\ W.cell? ⟨w.heap.size, 2, none⟩ = some c2 /\ W.cell? ⟨w.heap.size, 3, none⟩ = some c3 /\ W.cell? ⟨w.heap.size, 4, none⟩ = some c4 /\ W.cell? ⟨w.heap.size + 1, 0, none⟩ = some r0 /\ W.cell? ⟨w.heap.size + 1, 1, none⟩ = some r1 := by
 obtain ⟨h0, h1, h2, h3, h4⟩ := cells5 h.2.1
 obtain ⟨g0, g1⟩ := cells2 h.2.2
 exact ⟨h0, h1, h2, h3, h4, g0, g1⟩
theorem lp7 {w W : World} {c0 c1 c2 c3 c4 r0 r1 : Value} (h : LPB w W #[c0, c1, c2, c3, c4] #[r0, r1]) :
   W.cell? ⟨w.heap.size, 0, none⟩ = some c0 /\ W.cell? ⟨w.heap.size, 1, none⟩ = some c1 /\ W.cell? ⟨w.heap.size, 2, none⟩ = some c2 /\ W.cell? ⟨w.heap.size, 3, none⟩ = some c3 /\ W.cell? ⟨w.heap.size, 4, none⟩ = some c4 /\ W.cell? ⟨w.heap.size + 1, 0, none⟩ = some r0 /\ W.cell? ⟨w.heap.size + 1, 1, none⟩ = some r1 := h.cells
end Go.Proofs.YtjlhmkmhehcmkaaGreat
namespace Go.Proofs.YtjlhmkmhehcmkaaGreat
open Go.RowKit
theorem PlanAt.is {w : World} {g gl : Nat} {S R : List RT} {L : List Int} (h : PlanAt w g gl S R L) : PlanIs w (some ⟨g, 0, none⟩) (some ⟨gl, 0, none⟩) R.length L.length S L :=
 ⟨key_len h.k, rfl, h.r, h.l, .inr ⟨_, _, rfl⟩, .inr ⟨_, _, rfl⟩, h.room⟩
end Go.Proofs.YtjlhmkmhehcmkaaGreat
namespace Go.Proofs.YtjlhmkmhehcmkaaGreat
open Go.RowKit
def KeepI (w w' : World) : Prop := ∀ (g : Nat) (cur : Array Value), w.heap[g]? = some (.cells cur 2 (0, 0)) -> ∃ cur', w'.heap[g]? = some (.cells cur' 2 (0, 0)) /\ cur'.size = cur.size
theorem KeepI.refl (w : World) : KeepI w w := fun _ cur h => ⟨cur, h, rfl⟩
theorem KeepI.trans {w w1 w2 : World} (h : KeepI w w1) (k : KeepI w1 w2) : KeepI w w2 := fun g cur e => by
 obtain ⟨c1, e1, s1⟩ := h g cur e
 obtain ⟨c2, e2, s2⟩ := k g c1 e1
 exact ⟨c2, e2, s2.trans s1⟩
theorem KeepI.below {w w' : World} (h : Below w.heap.size w w') : KeepI w w' := fun _ cur e => ⟨cur, below_row h (row_lt e) e, rfl⟩
theorem KeepI.set {w : World} {k i : Nat} {v : Value} {cs : Array Value} {T : TypeId} (hk : w.heap[k]? = some (.cells cs T (0, 0))) (hT : T ≠ 2) : KeepI w (w.setCell ⟨k, i, none⟩ v) := fun g cur e =>
 ⟨cur, by rw [heap_setCell_other _ _ _ _ (by have := type_ne e hk (Ne.symm hT); simpa using this)]; exact e, rfl⟩
theorem KeepI.mark {w w' : World} {g : Nat} {cur cur' : Array Value} (hg : w.grownBy w' (some g)) (h : w.heap[g]? = some (.cells cur 2 (0, 0))) (h' : w'.heap[g]? = some (.cells cur' 2 (0, 0))) (hs : cur'.size = cur.size) : KeepI w w' := fun k c e => by
 by_cases hk : k = g
 · subst hk
   rw [h] at e
   cases e
   exact ⟨cur', h', hs⟩
 · exact ⟨c, grown_row hg e (fun x => hk (by injection x)), rfl⟩
def StopsRow (w : World) (gr : Nat) (S : List RT) : Prop := ∃ cur : Array Value, w.heap[gr]? = some (.cells cur 64 (0, 0)) /\ cur.size = S.length * 2 /\ ∀ j, j < S.length -> cur[j * 2 + 1]? = some (.slice (S.getD j rt0).a (S.getD j rt0).ids.length (S.getD j rt0).c)
theorem StopsRow.of_row {w : World} {gr : Nat} {S : List RT} (h : w.heap[gr]? = some (.cells (rowR S).toArray 64 (0, 0))) : StopsRow w gr S :=
 ⟨_, h, by simp [rowR_len], fun j hj => by have := (rowR_at S j hj).2; simpa using this⟩
theorem StopsRow.put {w : World} {gr k : Nat} {S : List RT} {v : Value} (h : StopsRow w gr S) : StopsRow (w.setCell ⟨gr, k * 2, none⟩ v) gr S := by
 obtain ⟨cur, h1, h2, h3⟩ := h
 refine ⟨cur.setIfInBounds (k * 2) v, heap_setCell_same w gr (k * 2) cur _ v h1, by simpa using h2, fun j hj => ?_⟩
 rw [Array.getElem?_setIfInBounds_ne (by omega)]
 exact h3 j hj
theorem StopsRow.but {w w' : World} {gr g : Nat} {S : List RT} {cur : Array Value} (h : StopsRow w gr S) (hg : w.grownBy w' (some g)) (hr : w.heap[g]? = some (.cells cur 2 (0, 0))) : StopsRow w' gr S := by
 obtain ⟨c, h1, h2, h3⟩ := h
 exact ⟨c, grown_row hg h1 (fun e => by have e2 : gr = g := by injection e
                                        exact type_ne h1 hr (by decide) e2), h2, h3⟩
set_option maxHeartbeats 1000000 in
theorem markRouteS_any (gr cap lo hi : Nat) (k0 : Int) (S : List RT) (w : World) (hrow : StopsRow w gr S) (hst : ∀ s ∈ S, ∃ g cur, s.a = some ⟨g, 0, none⟩ /\ (lo <= g /\ g < hi) /\ w.heap[g]? = some (.cells cur 2 (0, 0)) /\ cur.size = s.ids.length) (hgr : lo <= gr /\ gr < hi) (h0 : 0 <= k0) (h1 : k0 <= 100000000) (hn : S.length <= 1048576) (hal : (allTo S S.length).length <= 1048576) :
   Calls Tryz.prog 47 #[.slice (some ⟨gr, 0, none⟩) S.length cap, .int .i64 k0] w fun e w' => ∃ k', e = .returned (.int .i64 k') /\ 0 <= k' /\ k' <= 200000000 /\ GrownBut (fun b => lo <= b /\ b < hi) w w' /\ KeepI w w' := by
 have HR : Hid (StopsRow w gr S) := hrow
 have HST : Hid (∀ s ∈ S, ∃ g cur, s.a = some ⟨g, 0, none⟩ /\ (lo <= g /\ g < hi) /\ w.heap[g]? = some (.cells cur 2 (0, 0)) /\ cur.size = s.ids.length) := hst
 have HAL : Hid (∀ k, k <= S.length -> (allTo S k).length <= 1048576) := fun k hk => Nat.le_trans (allTo_le S hk (Nat.le_refl _)) hal
 have HGR : Hid (lo <= gr /\ gr < hi) := hgr
 clear hrow hst hal hgr
 obtain ⟨n, HN⟩ : ∃ n, Hid (S.length = n) := ⟨_, rfl⟩
 rw [HN.out] at hn ⊢
 go_enter Tryz.func47, Tryz.ntmps47
 go_wp2_with fail
 go_loopw [1, 5] (fun kk t wr => ∃ (k : Nat) (K : Int), k <= n /\ t = .int .i64 k /\ kk = .int .i64 K /\ K = k0 + (k : Int) + ((allTo S k).length : Int) /\ StopsRow wr gr S /\ GrownBut (fun b => lo <= b /\ b < hi) w wr /\ KeepI w wr) (fun _ t _ => n - (intOf t).toNat)
 case atStart => exact ⟨0, k0, Nat.zero_le _, rfl, rfl, by rw [allTo_zero]; simp, HR.out, GrownBut.of_below (Below.refl _ _), KeepI.refl w⟩
 case round =>
   clear HR
   obtain ⟨k, K, hk, rfl, rfl, hK, hr, hg, hki⟩ := hrel
   have R1 : Hid (StopsRow wr gr S) := hr
   have G1 : Hid (GrownBut (fun b => lo <= b /\ b < hi) w wr) := hg
   have I1 : Hid (KeepI w wr) := hki
   have HK : Hid (K = k0 + (k : Int) + ((allTo S k).length : Int)) := hK
   have hKb : 0 <= K /\ K <= 150000000 := by
     have := HAL.out k (by rw [HN.out]; exact hk)
     omega
   obtain ⟨hK0, hK1⟩ := hKb
   clear hr hg hki hK
   by_cases hlt : k < n
   · have hkS : k < S.length := by rw [HN.out]; exact hlt
     have hkI : (k : Int) < (n : Int) := by omega
     have HTK : Hid (allTo S (k + 1) = allTo S k ++ (S.getD k rt0).ids) := allTo_succ hkS
     have hl2 := HAL.out (k + 1) (by omega)
     rw [HTK.out, List.length_append] at hl2
     have hmem : S.getD k rt0 ∈ S := by rw [List.getD_eq_getElem?_getD, List.getElem?_eq_getElem hkS]; simp
     obtain ⟨g, cur0, ea, hlh, hrow0, hsz0⟩ := HST.out _ hmem
     obtain ⟨cr, hcr, hcs, hcj⟩ := R1.out
     have hcj' := hcj k hkS
     generalize S.getD k rt0 = r at *
     obtain ⟨rv, rra, rids, rcc⟩ := r
     simp only at ea hsz0 HTK hcj' hl2
     subst ea
     obtain ⟨rl, HRL⟩ : ∃ x, Hid (rids.length = x) := ⟨_, rfl⟩
     rw [HRL.out] at hsz0 hcj' hl2
     have f1 := fun i => frozen_of_row _ _ i _ _ hcr
     obtain ⟨v0, y0⟩ := row_some hcr (j := k * 2) (by rw [hcs]; omega)
     have y1 : (wr.setCell ⟨gr, k * 2, none⟩ (.int .i64 K)).cell? ⟨gr, k * 2 + 1, none⟩ = some (.slice (some ⟨g, 0, none⟩) rl rcc) := by
       rw [cell_of_row _ _ (k * 2 + 1) _ _ _ (heap_setCell_same wr gr (k * 2) cr _ (.int .i64 K) hcr), Array.getElem?_setIfInBounds_ne (by omega)]
       exact hcj'
     have R2 : Hid (StopsRow (wr.setCell ⟨gr, k * 2, none⟩ (.int .i64 K)) gr S) := R1.out.put
     have I2 : Hid (KeepI w (wr.setCell ⟨gr, k * 2, none⟩ (.int .i64 K))) := I1.out.trans (KeepI.set hcr (by decide))
     have G2 : Hid (GrownBut (fun b => lo <= b /\ b < hi) w (wr.setCell ⟨gr, k * 2, none⟩ (.int .i64 K))) := G1.out.trans (GrownBut.of_grown (grown_set _ _ _ _) HGR.out)
     obtain ⟨cur1, hrow1, hsz1⟩ := I2.out g cur0 hrow0
     have HROW1 : Hid ((wr.setCell ⟨gr, k * 2, none⟩ (.int .i64 K)).heap[g]? = some (.cells cur1 2 (0, 0))) := hrow1
     have HSZ1 : Hid (cur1.size = rl) := hsz1.trans hsz0
     have HLH : Hid (lo <= g /\ g < hi) := hlh
     have HSUM : Hid (k0 + ((k + 1 : Nat) : Int) + ((allTo S (k + 1)).length : Int) = K + 1 + (rl : Int)) := by
       show _ = _
       rw [HTK.out, List.length_append, HRL.out, HK.out]
       omega
     clear hrow0 hsz0 hrow1 hsz1 hcj hcj' hcs hmem R1 I1 G1 hlh
     go_wp2_with fail
     clear y0 y1 f1 hcr
     refine (markInt64S_any g rl _ (K + 1) cur1 _ _ HROW1.out (by rw [HSZ1.out]; exact Nat.le_refl _) (by omega) (by omega) (by omega)).mono ?_
     rintro e w3 ⟨rfl, hg, hr⟩
     have R3 : Hid (StopsRow w3 gr S) := R2.out.but hg HROW1.out
     have I3 : Hid (KeepI w w3) := I2.out.trans (KeepI.mark hg HROW1.out hr (markA_size _ _ _))
     have G3 : Hid (GrownBut (fun b => lo <= b /\ b < hi) w w3) := G2.out.trans (GrownBut.of_grown hg HLH.out)
     clear hg hr R2 I2 G2
     obtain ⟨K2, HK2⟩ : ∃ t, Hid (K + 1 + (rl : Int) = t) := ⟨_, rfl⟩
     rw [HK2.out]
     go_wp2
     first
       | exact ⟨⟨k + 1, K2, by omega, by first | rfl | go_num, rfl, by rw [HSUM.out, HK2.out], R3.out, G3.out, I3.out⟩, by simp [intOf]; omega⟩
       | (go_roundw
          case rel => exact ⟨k + 1, K2, by omega, by first | rfl | go_num, rfl, by rw [HSUM.out, HK2.out], R3.out, G3.out, I3.out⟩
          case measure => simp [intOf]; omega)
   · have hkI : ¬ ((k : Int) < (n : Int)) := by omega
     go_wp2
     go_ret
     exact ⟨K, rfl, hK0, by omega, G1.out, I1.out⟩
set_option maxHeartbeats 1000000 in
theorem markPlan_any (g gl lo hi : Nat) (k0 : Int) (S R : List RT) (L : List Int) (w : World) (hP : PlanAt w g gl S R L) (hst : ∀ s ∈ S, ∀ b, s.a = some ⟨b, 0, none⟩ -> lo <= b /\ b < hi) (hg : lo <= g /\ g < hi) (hgl : lo <= gl /\ gl < hi) (h0 : 0 <= k0) (h1 : k0 <= 100000000) (hn : R.length <= 1048576) (hll : L.length <= 1048576) (hal : (allTo R R.length).length <= 1048576) (hhi : hi <= w.heap.size) :
   Calls Tryz.prog 13 #[.agg #[.slice (some ⟨g, 0, none⟩) R.length R.length, .slice (some ⟨gl, 0, none⟩) L.length L.length], .int .i64 k0] w fun e w' => ∃ k', e = .returned (.int .i64 k') /\ 0 <= k' /\ GrownBut (fun b => lo <= b /\ b < hi) w w' := by
 have hkl := key_len hP.k
 have HMS : Hid (∀ W, Below w.heap.size w W -> Calls Tryz.prog 47 #[.slice (some ⟨g, 0, none⟩) R.length R.length, .int .i64 k0] W fun e w' => ∃ k', e = .returned (.int .i64 k') /\ 0 <= k' /\ k' <= 200000000 /\ GrownBut (fun b => lo <= b /\ b < hi) W w' /\ KeepI W w') := fun W hb => by
   have hP' := hP.below hb
   have := markRouteS_any g R.length lo hi k0 S W (StopsRow.of_row hP'.1) (fun s hs => by
     obtain ⟨b, e1, e2, e3, e4⟩ := hP'.2.1.2 s hs
     exact ⟨b, _, e1, hst s hs b e1, e4, cellsOf_size _⟩) hg h0 h1 (by omega) (by rw [allTo_key hP.k, hkl]; exact hal)
   rw [hkl] at this
   exact this
 have HL : Hid (w.heap[gl]? = some (.cells (cellsOf L) 2 (0, 0))) := hP.2.2
 clear hP hst
 have B0 : Hid (Below w.heap.size w (w.alloc (.cells #[.slice (some ⟨g, 0, none⟩) R.length R.length, .slice (some ⟨gl, 0, none⟩) L.length L.length] 36))) := (Below.refl _ _).alloc (Nat.le_refl _) _
 have X0 : Hid ((w.alloc (.cells #[.slice (some ⟨g, 0, none⟩) R.length R.length, .slice (some ⟨gl, 0, none⟩) L.length L.length] 36)).heap[w.heap.size]? = some (.cells #[.slice (some ⟨g, 0, none⟩) R.length R.length, .slice (some ⟨gl, 0, none⟩) L.length L.length] 36 (0, 0))) := heap_alloc_new _ _
 go_enter Tryz.func13, Tryz.ntmps13
 obtain ⟨c0, c1⟩ := cells2 X0.out
 go_wp2_with fail
 clear c0 c1
 refine (HMS.out _ B0.out).mono ?_
 rintro e w1 ⟨k1, rfl, hk0, hk1, hG, hI⟩
 obtain ⟨cur, hrl, hsz⟩ := hI gl _ (below_row B0.out (row_lt HL.out) HL.out)
 have HRL : Hid (w1.heap[gl]? = some (.cells cur 2 (0, 0))) := hrl
 have HSZ : Hid (cur.size = L.length) := hsz.trans (cellsOf_size _)
 have G1 : Hid (GrownBut (fun b => lo <= b /\ b < hi) w w1) := (GrownBut.of_below B0.out).trans hG
 have X1 : Hid (w1.heap[w.heap.size]? = some (.cells #[.slice (some ⟨g, 0, none⟩) R.length R.length, .slice (some ⟨gl, 0, none⟩) L.length L.length] 36 (0, 0))) := hG.row X0.out (fun h => by omega)
 clear hG hI hrl hsz B0 X0
 obtain ⟨c0, c1⟩ := cells2 X1.out
 go_wp2_with fail
 clear c0 c1
 refine (markInt64S_any gl L.length _ k1 cur _ _ HRL.out (by rw [HSZ.out]; exact Nat.le_refl _) hk0 (by omega) (by omega)).mono ?_
 rintro e w2 ⟨rfl, hg2, -⟩
 have G2 : Hid (GrownBut (fun b => lo <= b /\ b < hi) w w2) := G1.out.trans (GrownBut.of_grown hg2 hgl)
 clear hg2
 go_wp2
 go_ret
 exact ⟨_, rfl, by omega, G2.out⟩
end Go.Proofs.YtjlhmkmhehcmkaaGreat