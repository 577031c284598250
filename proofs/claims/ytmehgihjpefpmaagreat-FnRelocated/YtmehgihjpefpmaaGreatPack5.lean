import Derived.Test.YtmehgihjpefpmaaGreatPack1
import Derived.Test.YtmehgihjpefpmaaGreatPack3
import Derived.Test.YtmehgihjpefpmaaGreatPack4
import Derived.BigQuiet
namespace Go.Proofs.YtmehgihjpefpmaaGreat
open Go.RowKit
structure PO (w : World) (base : Nat) (rs : Value) (S : List RT) (ls : Value) (L : List Int) : Prop where
 r : w.ownsRow base 40 2 rs S.length (rowR S)
 s : ∀ s ∈ S, w.ownsRow base 2 1 (.slice s.a s.ids.length s.c) s.ids.length (s.ids.map (Value.int .i64))
 l : w.ownsRow base 2 1 ls L.length (L.map (Value.int .i64))
theorem PO.below {w w' : World} {base : Nat} {rs ls : Value} {S : List RT} {L : List Int} (h : PO w base rs S ls L) (hb : Below w.heap.size w w') : PO w' base rs S ls L :=
 ⟨owns_below h.r hb, fun s hs => owns_below (h.s s hs) hb, owns_below h.l hb⟩
theorem PO.base {w : World} {base b0 : Nat} {rs ls : Value} {S : List RT} {L : List Int} (h : PO w base rs S ls L) (hb : b0 <= base) : PO w b0 rs S ls L :=
 ⟨owns_base h.r hb, fun s hs => owns_base (h.s s hs) hb, owns_base h.l hb⟩
theorem PO.set {w : World} {base b i : Nat} {rs ls u : Value} {S : List RT} {L : List Int} (h : PO w base rs S ls L) (hb : b < base) : PO (w.setCell ⟨b, i, none⟩ u) base rs S ls L :=
 ⟨owns_set h.r hb, fun s hs => owns_set (h.s s hs) hb, owns_set h.l hb⟩
theorem own_grown {w w' : World} {base size n q : Nat} {e : TypeId} {v : Value} {xs : List Value} (h : w.ownsRow base e size v n xs) (hg : w.grownBy w' (some q)) (hq : v.ownBlock ≠ some q) : w'.ownsRow base e size v n xs := by
 obtain ⟨h1, h2 | ⟨g, cap, cur, h2, h3, h4, h5⟩⟩ := h
 · exact ⟨h1, .inl h2⟩
 · refine ⟨h1, .inr ⟨g, cap, cur, h2, h3, grown_row hg h4 (fun e => hq ?_), h5⟩⟩
   rw [h2]
   exact e
theorem own_not {w : World} {base size n q : Nat} {e : TypeId} {v : Value} {xs : List Value} (h : w.ownsRow base e size v n xs) (hq : q < base ∨ w.heap.size <= q) : v.ownBlock ≠ some q := fun e => by
 have := h.lt q e
 omega
theorem PO.other {w w' : World} {base q : Nat} {rs ls : Value} {S : List RT} {L : List Int} (h : PO w base rs S ls L) (hg : w.grownBy w' (some q)) (hq : q < base ∨ w.heap.size <= q) : PO w' base rs S ls L :=
 ⟨own_grown h.r hg (own_not h.r hq), fun s hs => own_grown (h.s s hs) hg (own_not (h.s s hs) hq), own_grown h.l hg (own_not h.l hq)⟩
theorem PO.rv {w : World} {base : Nat} {rs ls : Value} {S : List RT} {L : List Int} (h : PO w base rs S ls L) : (rs = .slice none 0 0 /\ S.length = 0) ∨ ∃ g c, rs = .slice (some ⟨g, 0, none⟩) S.length c /\ base <= g /\ g < w.heap.size := own_kinds h.r
theorem PO.ints {w : World} {base : Nat} {rs ls : Value} {S : List RT} {L : List Int} (h : PO w base rs S ls L) : ∀ s ∈ S, IntsAt w s.a s.ids /\ s.ids.length <= s.c := fun s hs => by
 have ho := h.s s hs
 have hoc := ho
 obtain ⟨a', c', e, _, hi⟩ := owns_at1 ho
 have e2 : s.a = a' := by injection e
 refine ⟨by rw [e2]; exact hi, ?_⟩
 obtain ⟨_, ⟨h1, h2⟩ | ⟨g', cap, cur, h2, _, _, h3, _⟩⟩ := hoc
 · omega
 · injection h2 with _ _ e3
   omega
theorem PO.at {w : World} {base rc : Nat} {ra : Option Addr} {ls : Value} {S : List RT} {L : List Int} (h : PO w base (.slice ra S.length rc) S ls L) : RoutesAt w ra S := fun j hj => by
 rcases h.rv with ⟨_, h0⟩ | ⟨g, c, e, _, _⟩
 · omega
 · simp only [Value.slice.injEq] at e
   obtain ⟨rfl, _, rfl⟩ := e
   obtain ⟨q1, q2⟩ := rowR_at S j hj
   have c1 := (own_cellV h.r q1).1
   have c2 := (own_cellV h.r q2).1
   have hm : S.getD j rt0 ∈ S := by rw [List.getD_eq_getElem?_getD, List.getElem?_eq_getElem hj]; simp
   exact ⟨g, 0, rfl, by rw [Nat.zero_add]; exact c1, by rw [Nat.zero_add]; exact c2, (h.ints _ hm).1⟩
def rtOf (R : List RT) (veh : Int) : RT := (R.find? (fun r => r.v == veh)).getD ⟨veh, none, [], 0⟩
theorem rtOf_v (R : List RT) (veh : Int) : (rtOf R veh).v = veh := by
 unfold rtOf
 cases h : R.find? (fun r => r.v == veh) with
 | none => rfl
 | some r => simpa using List.find?_some h
theorem rtOf_mem (R : List RT) (veh : Int) : rtOf R veh ∈ R ∨ rtOf R veh = ⟨veh, none, [], 0⟩ := by
 unfold rtOf
 cases h : R.find? (fun r => r.v == veh) with
 | none => exact .inr rfl
 | some r => exact .inl (List.mem_of_find?_eq_some h)
theorem find_at {R : List RT} {veh : Int} {k : Nat} (hk : k < R.length) (h1 : ∀ j, j < k -> (R.getD j rt0).v ≠ veh) (h2 : (R.getD k rt0).v = veh) : rtOf R veh = R.getD k rt0 := by
 induction R generalizing k with
 | nil => simp at hk
 | cons r R ih =>
   unfold rtOf
   cases k with
   | zero =>
     have : r.v = veh := by simpa using h2
     simp [this]
   | succ k =>
     have h0 : r.v ≠ veh := by simpa using h1 0 (by omega)
     have := ih (k := k) (by simpa using hk) (fun j hj => by simpa using h1 (j + 1) (by omega)) (by simpa using h2)
     unfold rtOf at this
     have hb : (r.v == veh) = false := by simp [h0]
     rw [List.find?_cons, hb]
     simpa using this
theorem find_no {R : List RT} {veh : Int} (h1 : ∀ j, j < R.length -> (R.getD j rt0).v ≠ veh) : rtOf R veh = ⟨veh, none, [], 0⟩ := by
 unfold rtOf
 rw [List.find?_eq_none.2]
 · rfl
 · intro r hr
   obtain ⟨j, hj, e⟩ := List.getElem_of_mem hr
   have := h1 j hj
   rw [List.getD_eq_getElem?_getD, List.getElem?_eq_getElem hj] at this
   simp only [Option.getD_some, e] at this
   simp [this]
set_option maxHeartbeats 2000000 in
theorem l4Route_any (ra la : Option Addr) (rc ln lc : Nat) (R : List RT) (veh : Int) (w : World) (hR : RoutesAt w ra R) (hn : R.length <= 1048576) :
 Calls Tryz.prog 46 #[.agg #[.slice ra R.length rc, .slice la ln lc], .int .i64 veh] w fun e w' => e = .returned (.agg #[.int .i64 veh, .slice (rtOf R veh).a (rtOf R veh).ids.length (rtOf R veh).c]) /\ Below w.heap.size w w' := by
 have HR : Hid (RoutesAt w ra R) := hR
 clear hR
 obtain ⟨n, HN⟩ := nmd R.length
 rw [HN.out] at hn ⊢
 have hRV := rtOf_v R veh
 obtain ⟨r0, HR0⟩ := nmd (rtOf R veh)
 rw [HR0.out] at hRV ⊢
 have HRV : Hid (r0.v = veh) := hRV
 clear hRV
 have B0 : Hid (Below w.heap.size w ((w.alloc (.cells #[.slice ra n rc, .slice la ln lc] 33)).alloc (.cells #[Value.int .i64 0, Value.slice none 0 0] 40))) := ((Below.refl _ _).alloc (Nat.le_refl _) _).alloc (by simp) _
 have P0 : Hid (((w.alloc (.cells #[.slice ra n rc, .slice la ln lc] 33)).alloc (.cells #[Value.int .i64 0, Value.slice none 0 0] 40)).heap[w.heap.size]? = some (.cells #[.slice ra n rc, .slice la ln lc] 33 (0, 0))) := heap_alloc2_old _ _ _
 have T0 : Hid (((w.alloc (.cells #[.slice ra n rc, .slice la ln lc] 33)).alloc (.cells #[Value.int .i64 0, Value.slice none 0 0] 40)).heap[w.heap.size + 1]? = some (.cells #[Value.int .i64 0, Value.slice none 0 0] 40 (0, 0))) := heap_alloc2_new _ _ _
 go_enter Tryz.func46, Tryz.ntmps46
 go_wp2_with fail
 generalize (w.alloc (.cells #[.slice ra n rc, .slice la ln lc] 33)).alloc (.cells #[Value.int .i64 0, Value.slice none 0 0] 40) = W0 at *
 go_loop [5] (fun t => ∃ k : Nat, k <= n /\ t = .int .i64 k /\ ∀ j, j < k -> (R.getD j rt0).v ≠ veh) (fun t => n - (intOf t).toNat)
 case atStart => exact ⟨0, Nat.zero_le _, rfl, fun j hj => by omega⟩
 case round =>
  obtain ⟨k, hk, rfl, hj⟩ := hrel
  have HJ : Hid _ := hj
  clear hj
  obtain ⟨p0, p1⟩ := cells2 P0.out
  obtain ⟨t0, t1⟩ := cells2 T0.out
  have tf := fun i => frozen_of_row _ _ i _ _ T0.out
  by_cases hlt : k < n
  · have hkI : (k : Int) < (n : Int) := by omega
    have hkR : k < R.length := by rw [HN.out]; exact hlt
    obtain ⟨b, off, e, c1, c2, -⟩ := (HR.below B0.out) k hkR
    subst e
    have HST : Hid ((R.getD k rt0).v ≠ veh -> ∀ j, j < k + 1 -> (R.getD j rt0).v ≠ veh) := fun h j hj => by
     by_cases e : j = k
     · rw [e]; exact h
     · exact HJ.out j (by omega)
    have HAT : Hid ((R.getD k rt0).v = veh -> r0 = R.getD k rt0) := fun h => by rw [<- HR0.out]; exact find_at hkR HJ.out h
    obtain ⟨r, HRK⟩ := nmd (R.getD k rt0)
    rw [HRK.out] at c1 c2 HST HAT
    by_cases hv : r.v = veh
    · have HE : Hid (r0 = r) := HAT.out hv
      rw [hv] at c1
      have hvv : (veh == veh) = true := by simp
      obtain ⟨rv, rra, rids, rcc⟩ := r
      simp only at hv c2
      obtain ⟨rl, HRL⟩ := nmd rids.length
      rw [HRL.out] at c2
      clear hv
      go_wp2
      refine bodyPost_ret (v := .agg #[.int .i64 veh, .slice rra rl rcc]) (by simp [results, Tryz.results46, go_sem, t0, t1]) rfl ⟨by rw [HE.out]; simp only; rw [HRL.out], ?_⟩
      repeat (first | with_reducible exact B0.out | refine Below.setCell ?_ (by simp <;> omega) _)
    · have hvv : (r.v == veh) = false := by simp [hv]
      have HJ2 : Hid _ := HST.out hv
      obtain ⟨rv, HRV2⟩ := nmd r.v
      rw [HRV2.out] at c1 hvv
      clear hv c2
      go_wp2
      go_round
      case rel => exact ⟨k + 1, by omega, by go_num, HJ2.out⟩
      case measure => simp [intOf]; omega
  · have hkI : ¬ ((k : Int) < (n : Int)) := by omega
    have HE : Hid (r0 = ⟨veh, none, [], 0⟩) := by
     show _ = _
     rw [<- HR0.out]
     exact find_no (fun j hj => HJ.out j (by rw [HN.out] at hj; omega))
    go_wp2
    refine bodyPost_ret (v := .agg #[.int .i64 veh, .slice none 0 0]) (by simp [results, Tryz.results46, go_sem, t0, t1]) rfl ⟨by rw [HE.out]; rfl, ?_⟩
    repeat (first | with_reducible exact B0.out | refine Below.setCell ?_ (by simp <;> omega) _)
theorem own_typ {w : World} {base size n k : Nat} {e T : TypeId} {v : Value} {xs : List Value} {cs : Array Value} (h : w.ownsRow base e size v n xs) (hr : w.heap[k]? = some (.cells cs T (0, 0))) (hT : T ≠ e) : v.ownBlock ≠ some k := fun he => by
 rcases h.2 with ⟨rfl, _⟩ | ⟨g, c, cur, rfl, _, hg, _⟩
 · cases he
 · simp [Value.ownBlock] at he
   rw [he, hr] at hg
   simp at hg
   exact hT hg.2
theorem own_box_of {w : World} {base size n k i : Nat} {e T : TypeId} {v u : Value} {xs : List Value} {cs : Array Value} (h : w.ownsRow base e size v n xs) (hr : w.heap[k]? = some (.cells cs T (0, 0))) (hT : T ≠ e) : (w.setCell ⟨k, i, none⟩ u).ownsRow base e size v n xs := own_grown h (grown_set w k i u) (own_typ h hr hT)
theorem findOne_any (v veh : Int) (a : Option Addr) (l c : Nat) (w : World) : Calls Tryz.prog 113 #[.agg #[.int .i64 v, .slice a l c], .int .i64 veh] w fun e w' => e = .returned (.int .i64 (cmpV v veh)) /\ Below w.heap.size w w' := by
 have hr : (w.alloc (.cells #[.int .i64 v, .slice a l c] 40)).heap[w.heap.size]? = some (.cells #[.int .i64 v, .slice a l c] 40 (0, 0)) := heap_alloc_new _ _
 obtain ⟨t0, t1⟩ := cells2 hr
 go_enter Tryz.func113, Tryz.ntmps113
 go_wp2_with (go_at_call 114; refine (compare_any _ _ _).mono ?_; rintro e w' ⟨rfl, hw⟩; subst hw)
 go_ret
 exact ⟨rfl, (Below.refl _ _).alloc (Nat.le_refl _) _⟩
structure AtOf (R : List RT) (veh : Int) (k : Nat) : Prop where
 le : k <= R.length
 lo : ∀ j, j < k -> (R.getD j rt0).v < veh
 hi : ∀ j, k <= j -> j < R.length -> veh <= (R.getD j rt0).v
def fndR (R : List RT) (veh : Int) (k : Nat) : Bool := decide (k < R.length /\ (R.getD k rt0).v = veh)
def Rises (R : List RT) : Prop := ∀ j, 0 < j -> j < R.length -> (R.getD (j - 1) rt0).v < (R.getD j rt0).v
theorem Rises.lt {R : List RT} (h : Rises R) : ∀ (d i : Nat), i + d + 1 < R.length -> (R.getD i rt0).v < (R.getD (i + d + 1) rt0).v
 | 0, i, hi => h (i + 1) (by omega) hi
 | d + 1, i, hi => Int.lt_trans (Rises.lt h d i (by omega)) (h (i + d + 1 + 1) (by omega) hi)
theorem Rises.le {R : List RT} (h : Rises R) {i j : Nat} (hij : i <= j) (hj : j < R.length) : (R.getD i rt0).v <= (R.getD j rt0).v := by
 by_cases e : i = j
 · rw [e]; exact Int.le_refl _
 · have := h.lt (j - i - 1) i (by omega)
   rw [show i + (j - i - 1) + 1 = j by omega] at this
   omega
set_option maxHeartbeats 2000000 in
set_option maxRecDepth 20000 in
theorem search_any (ra : Option Addr) (rc : Nat) (R : List RT) (veh : Int) (w : World) (hR : RoutesAt w ra R) (hn : R.length <= 1048576) (hS : Rises R) :
 Calls Tryz.prog 112 #[.slice ra R.length rc, .int .i64 veh, .func (.func 113) #[] #[]] w fun e w' => ∃ k : Nat, e = .returned (.tuple #[.int .i64 k, .bool (fndR R veh k)]) /\ AtOf R veh k /\ Below w.heap.size w w' := by
 have HR : Hid (RoutesAt w ra R) := hR
 have HS : Hid (Rises R) := hS
 clear hR hS
 obtain ⟨n, HN⟩ := nmd R.length
 rw [HN.out] at hn ⊢
 go_enter Tryz.func112, Tryz.ntmps112
 go_wp2_with fail
 go_loopw [9, 10] (fun ti tj wr => ∃ i j : Nat, i <= j /\ j <= n /\ ti = .int .i64 i /\ tj = .int .i64 j /\ Below w.heap.size w wr /\ (∀ t, t < i -> (R.getD t rt0).v < veh) /\ (∀ t, j <= t -> t < n -> veh <= (R.getD t rt0).v)) (fun ti tj _ => (intOf tj).toNat - (intOf ti).toNat)
 case atStart => exact ⟨0, n, Nat.zero_le _, Nat.le_refl _, rfl, rfl, Below.refl _ _, fun t ht => by omega, fun t h1 h2 => by omega⟩
 case round =>
  obtain ⟨i, j, hij, hj, rfl, rfl, hb, hlo, hhi⟩ := hrel
  have HB : Hid _ := hb
  have HLO : Hid _ := hlo
  have HHI : Hid _ := hhi
  clear hb hlo hhi
  by_cases hlt : i < j
  · have hiI : (i : Int) < (j : Int) := by omega
    obtain ⟨h, HH⟩ : ∃ h : Nat, Hid ((i + j) / 2 = h) := ⟨_, rfl⟩
    have hhi : i <= h := by have := HH.out; omega
    have hhj : h < j := by have := HH.out; omega
    have hm : ((i : Int) + (j : Int)) / 2 = (h : Int) := by have := HH.out; omega
    obtain ⟨b, off, e, c1, c2, -⟩ := (HR.below HB.out) h (by rw [HN.out]; omega)
    subst e
    have hhn : (h : Int) < (n : Int) := by omega
    have HLT : Hid ((R.getD h rt0).v < veh -> ∀ t, t < h + 1 -> (R.getD t rt0).v < veh) := fun hv t ht => Int.lt_of_le_of_lt (HS.le (by omega) (by rw [HN.out]; omega)) hv
    have HGE : Hid (¬ (R.getD h rt0).v < veh -> ∀ t, h <= t -> t < n -> veh <= (R.getD t rt0).v) := fun hv t h1 h2 => by
     have := HS.le h1 (by rw [HN.out]; exact h2)
     omega
    generalize R.getD h rt0 = x at *
    obtain ⟨xv, xa, xids, xc⟩ := x
    simp only at c1 c2 HLT HGE
    obtain ⟨xl, HXL⟩ := nmd xids.length
    rw [HXL.out] at c2
    by_cases hv : xv < veh
    · have HL2 := HLT.out hv
      have HL3 : Hid _ := HL2
      clear HL2
      have hcv : cmpV xv veh = -1 := by unfold cmpV; rw [if_pos hv]
      have FO := findOne_any xv veh xa xl xc wr
      rw [hcv] at FO
      clear hv
      go_wp2_with fail
      refine FO.mono ?_
      rintro e w2 ⟨rfl, hb⟩
      go_wp2
      go_roundw
      case rel => exact ⟨h + 1, j, by omega, hj, by first | rfl | go_num, rfl, HB.trans (hb.mono HB.size), HL3.out, HHI.out⟩
      case measure => simp [intOf]; omega
    · have HL3 : Hid _ := HGE.out hv
      obtain ⟨cv, HCV⟩ := nmd (cmpV xv veh)
      have hcv : 0 <= cv := by rw [<- HCV.out]; unfold cmpV; rw [if_neg hv]; split <;> omega
      have FO := findOne_any xv veh xa xl xc wr
      rw [HCV.out] at FO
      have hd : ¬ cv < 0 := by omega
      clear hv
      go_wp2_with fail
      refine FO.mono ?_
      rintro e w2 ⟨rfl, hb⟩
      go_wp2
      go_roundw
      case rel => exact ⟨i, h, hhi, by omega, rfl, rfl, HB.trans (hb.mono HB.size), HLO.out, HL3.out⟩
      case measure => simp [intOf]; omega
  · have hiI : ¬ ((i : Int) < (j : Int)) := by omega
    have hije : i = j := by omega
    subst hije
    have HAO : Hid (AtOf R veh i) := ⟨by rw [HN.out]; exact hj, HLO.out, fun t h1 h2 => HHI.out t h1 (by rw [<- HN.out]; exact h2)⟩
    clear hiI hlt hij
    by_cases hin : i < n
    · have hinI : (i : Int) < (n : Int) := by omega
      have hgd := decide_eq_true hinI
      obtain ⟨b, off, e, c1, c2, -⟩ := (HR.below HB.out) i (by rw [HN.out]; omega)
      subst e
      have HGE : Hid _ := HHI.out i (Nat.le_refl _) hin
      obtain ⟨x, HX⟩ := nmd (R.getD i rt0)
      rw [HX.out] at c1 c2 HGE
      obtain ⟨xv, xa, xids, xc⟩ := x
      simp only at c1 c2 HGE
      obtain ⟨xl, HXL⟩ := nmd xids.length
      rw [HXL.out] at c2
      have FO := findOne_any xv veh xa xl xc wr
      by_cases hv : xv = veh
      · have hcv : cmpV xv veh = 0 := by unfold cmpV; rw [hv, if_neg (by omega), if_neg (by omega)]
        have hr : fndR R veh i = true := decide_eq_true ⟨by rw [HN.out]; exact hin, by rw [HX.out]; exact hv⟩
        rw [hcv] at FO
        clear hcv hv
        go_wp2_with fail
        refine FO.mono ?_
        rintro e w2 ⟨rfl, hb⟩
        go_wp2
        go_ret2
        exact ⟨i, by rw [hr]; rfl, HAO.out, HB.trans (hb.mono HB.size)⟩
      · have hcv : cmpV xv veh = 1 := by unfold cmpV; have := HGE.out; rw [if_neg (by omega), if_pos (by omega)]
        have hr : fndR R veh i = false := decide_eq_false (fun h => by rw [HX.out] at h; exact hv h.2)
        rw [hcv] at FO
        clear hcv hv
        go_wp2_with fail
        refine FO.mono ?_
        rintro e w2 ⟨rfl, hb⟩
        go_wp2
        go_ret2
        exact ⟨i, by rw [hr]; rfl, HAO.out, HB.trans (hb.mono HB.size)⟩
    · have hinI : ¬ ((i : Int) < (n : Int)) := by omega
      have hgd := decide_eq_false hinI
      have hr : fndR R veh i = false := decide_eq_false (fun h => hin (by rw [<- HN.out]; exact h.1))
      go_wp2
      go_ret2
      exact ⟨i, by rw [hr]; rfl, HAO.out, HB.out⟩
theorem findRoute_any (ra la : Option Addr) (rc ln lc : Nat) (R : List RT) (veh : Int) (w : World) (hR : RoutesAt w ra R) (hn : R.length <= 1048576) (hS : Rises R) :
 Calls Tryz.prog 85 #[.agg #[.slice ra R.length rc, .slice la ln lc], .int .i64 veh] w fun e w' => ∃ k : Nat, e = .returned (.tuple #[.int .i64 k, .bool (fndR R veh k)]) /\ AtOf R veh k /\ Below w.heap.size w w' := by
 have hb0 : Below w.heap.size w (w.alloc (.cells #[.slice ra R.length rc, .slice la ln lc] 33)) := (Below.refl _ _).alloc (Nat.le_refl _) _
 have SA := search_any ra rc R veh _ (hR.below hb0) hn hS
 have hr : (w.alloc (.cells #[.slice ra R.length rc, .slice la ln lc] 33)).heap[w.heap.size]? = some (.cells #[.slice ra R.length rc, .slice la ln lc] 33 (0, 0)) := heap_alloc_new _ _
 obtain ⟨t0, t1⟩ := cells2 hr
 clear hR hS hr
 go_enter Tryz.func85, Tryz.ntmps85
 go_wp2_with fail
 refine SA.mono ?_
 rintro e w2 ⟨k, rfl, hk, hb⟩
 go_wp2
 go_ret2
 exact ⟨k, rfl, hk, hb0.trans (hb.mono hb0.size)⟩
theorem rtOf_yes {R : List RT} {veh : Int} {k : Nat} (h : AtOf R veh k) (hf : fndR R veh k = true) : k < R.length /\ rtOf R veh = R.getD k rt0 := by
 have h1 := of_decide_eq_true hf
 exact ⟨h1.1, find_at h1.1 (fun j hj => by have := h.lo j hj; omega) h1.2⟩
theorem rtOf_no {R : List RT} {veh : Int} {k : Nat} (hS : Rises R) (h : AtOf R veh k) (hf : fndR R veh k = false) : rtOf R veh = ⟨veh, none, [], 0⟩ := by
 have h1 := of_decide_eq_false hf
 refine find_no (fun j hj e => ?_)
 rcases Nat.lt_trichotomy j k with h2 | h2 | h2
 · have := h.lo j h2; omega
 · exact h1 (by rw [<- h2]; exact ⟨hj, e⟩)
 · have h3 := h.hi k (Nat.le_refl _) (by omega)
   have h4 := hS.lt (j - k - 1) k (by omega)
   rw [show k + (j - k - 1) + 1 = j by omega] at h4
   omega
def RtsIn (R : List RT) : Prop := ∀ r ∈ R, r.ids ≠ [] /\ r.ids.length <= 12 /\ r.ids.length <= r.c
theorem rtOf_at {w : World} {ra : Option Addr} {R : List RT} (h : RoutesAt w ra R) (hi : RtsIn R) (veh : Int) : IntsAt w (rtOf R veh).a (rtOf R veh).ids /\ (rtOf R veh).ids.length <= 12 /\ (rtOf R veh).ids.length <= (rtOf R veh).c /\ (((rtOf R veh).a = none /\ (rtOf R veh).ids.length = 0) ∨ ∃ b off, (rtOf R veh).a = some ⟨b, off, none⟩) := by
 rcases rtOf_mem R veh with h1 | h1
 · obtain ⟨j, hj, e⟩ := List.getElem_of_mem h1
   obtain ⟨_, _, _, _, _, h2⟩ := h j hj
   have e2 : R.getD j rt0 = rtOf R veh := by rw [List.getD_eq_getElem?_getD, List.getElem?_eq_getElem hj, e]; rfl
   rw [e2] at h2
   obtain ⟨h3, h4, h5⟩ := hi _ h1
   obtain ⟨b, off, e3, _⟩ := h2 0 (List.length_pos_iff.2 h3)
   exact ⟨h2, h4, h5, .inr ⟨b, off, e3⟩⟩
 · rw [h1]
   exact ⟨fun j hj => by simp at hj, Nat.zero_le _, Nat.le_refl _, .inl ⟨rfl, rfl⟩⟩
set_option maxHeartbeats 1000000 in
theorem routeOf_any (ra la : Option Addr) (rc ln lc : Nat) (R : List RT) (veh : Int) (w : World) (hR : RoutesAt w ra R) (hn : R.length <= 1048576) (hS : Rises R) :
 Calls Tryz.prog 57 #[.agg #[.slice ra R.length rc, .slice la ln lc], .int .i64 veh] w fun e w' => e = .returned (.agg #[.int .i64 veh, .slice (rtOf R veh).a (rtOf R veh).ids.length (rtOf R veh).c]) /\ Below w.heap.size w w' := by
 have HR : Hid (RoutesAt w ra R) := hR
 have HS : Hid (Rises R) := hS
 clear hR hS
 obtain ⟨n, HN⟩ := nmd R.length
 rw [HN.out] at hn ⊢
 have hRV := rtOf_v R veh
 obtain ⟨r0, HR0⟩ := nmd (rtOf R veh)
 rw [HR0.out] at hRV ⊢
 have HRV : Hid (r0.v = veh) := hRV
 clear hRV
 have B0 : Hid (Below w.heap.size w ((w.alloc (.cells #[.slice ra n rc, .slice la ln lc] 33)).alloc (.cells #[Value.int .i64 0, Value.slice none 0 0] 40))) := ((Below.refl _ _).alloc (Nat.le_refl _) _).alloc (by simp) _
 have P0 : Hid (((w.alloc (.cells #[.slice ra n rc, .slice la ln lc] 33)).alloc (.cells #[Value.int .i64 0, Value.slice none 0 0] 40)).heap[w.heap.size]? = some (.cells #[.slice ra n rc, .slice la ln lc] 33 (0, 0))) := heap_alloc2_old _ _ _
 have T0 : Hid (((w.alloc (.cells #[.slice ra n rc, .slice la ln lc] 33)).alloc (.cells #[Value.int .i64 0, Value.slice none 0 0] 40)).heap[w.heap.size + 1]? = some (.cells #[Value.int .i64 0, Value.slice none 0 0] 40 (0, 0))) := heap_alloc2_new _ _ _
 have FR := findRoute_any ra la rc ln lc R veh _ (HR.below B0.out) (by rw [HN.out]; exact hn) HS.out
 rw [HN.out] at FR
 obtain ⟨p0, p1⟩ := cells2 P0.out
 go_enter Tryz.func57, Tryz.ntmps57
 go_wp2_with fail
 generalize (w.alloc (.cells #[.slice ra n rc, .slice la ln lc] 33)).alloc (.cells #[Value.int .i64 0, Value.slice none 0 0] 40) = W0 at *
 refine FR.mono ?_
 rintro e w1 ⟨k, rfl, hk, hb⟩
 have HK : Hid (AtOf R veh k) := hk
 have P1 : Hid _ := below_row hb (row_lt P0.out) P0.out
 have T1 : Hid _ := below_row hb (row_lt T0.out) T0.out
 have B1 : Hid _ := B0.trans (hb.mono B0.size)
 clear hk hb FR p0 p1 B0 P0 T0
 obtain ⟨p0, p1⟩ := cells2 P1.out
 obtain ⟨t0, t1⟩ := cells2 T1.out
 have tf := fun i => frozen_of_row _ _ i _ _ T1.out
 obtain ⟨f, HF⟩ := nmd (fndR R veh k)
 rw [HF.out]
 cases f
 · have HE : Hid (r0 = ⟨veh, none, [], 0⟩) := by show _ = _; rw [<- HR0.out]; exact rtOf_no HS.out HK.out HF.out
   go_wp2
   refine bodyPost_ret (v := .agg #[.int .i64 veh, .slice none 0 0]) (by simp [results, Tryz.results57, go_sem, t0, t1]) rfl ⟨by rw [HE.out]; rfl, ?_⟩
   repeat (first | with_reducible exact B1.out | refine Below.setCell ?_ (by simp <;> omega) _)
 · obtain ⟨hkR, he⟩ := rtOf_yes HK.out HF.out
   have hkn : k < n := by rw [<- HN.out]; exact hkR
   have hkI : (k : Int) < (n : Int) := by omega
   obtain ⟨b, off, e, c1, c2, -⟩ := (HR.below B1.out) k hkR
   have HE : Hid (R.getD k rt0 = r0) := by show _ = _; rw [<- HR0.out, he]
   rw [HE.out] at c1 c2
   subst e
   clear hkR he
   obtain ⟨rv, rra, rids, rcc⟩ := r0
   simp only at c1 c2 HRV
   have hv := HRV.out
   subst hv
   obtain ⟨rl, HRL⟩ := nmd rids.length
   simp only [HRL.out] at c2 ⊢
   go_wp2
   refine bodyPost_ret (v := .agg #[.int .i64 rv, .slice rra rl rcc]) (by simp [results, Tryz.results57, go_sem, t0, t1]) rfl ⟨by rw [HRL.out], ?_⟩
   repeat (first | with_reducible exact B1.out | refine Below.setCell ?_ (by simp <;> omega) _)
end Go.Proofs.YtmehgihjpefpmaaGreat
