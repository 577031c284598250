import Derived.Test.YtocnlgmcjdggaaaPack1
import Derived.Test.YtocnlgmcjdggaaaPack11
import Derived.Test.YtocnlgmcjdggaaaPack17
import Derived.Deep.CutRange
namespace Go.Proofs.Ytocnlgmcjdggaaa
open Go.RowKit

theorem row_putL {X : World} {k i : Nat} {cs : Array Value} {T : TypeId} (v : Value) (h : X.heap[k]? = some (.cells cs T (0, 0))) : (X.setCell ⟨k, i, none⟩ v).heap[k]? = some (.cells (cs.setIfInBounds i v) T (0, 0)) := heap_setCell_same _ _ _ _ _ _ h
/-- Inside spec.Latest: the boxes, the vehicle's, the starts. -/
structure SL (w W : World) (cs rs vs : Array Value) (bv gs : Nat) (xs : List Int) : Prop where
  c : CR w W cs rs
  v : W.heap[bv]? = some (.cells vs 39 (0, 0))
  s : W.heap[gs]? = some (.cells (cellsOf xs) 2 (0, 0))
  h : w.heap.size + 1 < bv ∧ w.heap.size + 1 < gs ∧ bv ≠ gs
theorem SL.below {w W W' : World} {cs rs vs : Array Value} {bv gs : Nat} {xs : List Int} (h : SL w W cs rs vs bv gs xs) (hb : Below W.heap.size W W') : SL w W' cs rs vs bv gs xs :=
  ⟨h.c.below hb, below_row hb (row_lt h.v) h.v, below_row hb (row_lt h.s) h.s, h.h⟩
theorem SL.put {w W : World} {cs rs vs : Array Value} {bv gs : Nat} {xs : List Int} (h : SL w W cs rs vs bv gs xs) (i : Nat) (v : Int) : SL w (W.setCell ⟨gs, i, none⟩ (.int .i64 v)) cs rs vs bv gs (xs.set i v) := by
  obtain ⟨h1, h2, h3⟩ := h.h
  refine ⟨h.c.set h2, row_set' h.v h3, ?_, h.h⟩
  rw [← cells_put]
  exact heap_setCell_same _ _ _ _ _ _ h.s
theorem SL.cell {w W : World} {cs rs vs : Array Value} {bv gs : Nat} {xs : List Int} (h : SL w W cs rs vs bv gs xs) {i : Nat} (hi : i < xs.length) : W.cell? ⟨gs, i, none⟩ = some (.int .i64 (xs.getD i 0)) := by
  rw [cell_of_row _ _ i _ _ _ h.s]
  simp [cellsOf, List.getD, hi]
theorem CR.keepI {w W : World} {n fine veh : Int} {a ao av : Option Addr} {lt cap ko co kv cv m c2 b off : Nat} {ids : List Int} (h : CR w W #[Value.int IntKind.i64 n, Value.slice a lt cap, Value.slice ao ko co, Value.slice av kv cv, Value.int IntKind.i64 fine] #[Value.int IntKind.i64 veh, Value.slice (some ⟨b, off, none⟩) m c2]) (hI : IntsAt w (some ⟨b, off, none⟩) ids) {i : Nat} {id : Int} (hi : i < ids.length) (hid : ids.getD i 0 = id) : W.cell? ⟨w.heap.size, 0, none⟩ = some (.int .i64 n) ∧ W.cell? ⟨w.heap.size, 1, none⟩ = some (.slice a lt cap) ∧ W.cell? ⟨w.heap.size, 2, none⟩ = some (.slice ao ko co) ∧ W.cell? ⟨w.heap.size, 3, none⟩ = some (.slice av kv cv) ∧ W.cell? ⟨w.heap.size, 4, none⟩ = some (.int .i64 fine) ∧ W.cell? ⟨w.heap.size + 1, 1, none⟩ = some (.slice (some ⟨b, off, none⟩) m c2) ∧ W.cell? ⟨b, off + i, none⟩ = some (.int .i64 id) := by
  obtain ⟨d0, d1, d2, d3, d4⟩ := cells5 h.2.1
  obtain ⟨e0, e1⟩ := cells2 h.2.2
  obtain ⟨_, _, e, hc⟩ := (hI.below h.1) i hi
  simp at e
  obtain ⟨rfl, rfl⟩ := e
  rw [hid] at hc
  exact ⟨d0, d1, d2, d3, d4, e1, hc⟩

set_option maxRecDepth 10000 in
set_option maxHeartbeats 4000000 in
theorem specLatest_any (n fine veh : Int) (a ao av bi : Option Addr) (cap ko co kv cv c2 : Nat) (zs os vs ids : List Int) (w : World) (hA : IntsAt w a zs) (hO : IntsAt w ao os) (hV : IntsAt w av vs) (hI : IntsAt w bi ids) (hlo : os.length = ko * 6) (hlv : vs.length = kv * 5) (hko : ko ≤ 9223372036854775807) (hkv : kv ≤ 9223372036854775807) (hli : ids.length ≤ 9223372036854775807) (hc2 : ids.length ≤ c2) :
    Calls Try.prog 21 #[.agg #[.int .i64 n, .slice a zs.length cap, .slice ao ko co, .slice av kv cv, .int .i64 fine], .agg #[.int .i64 veh, .slice bi ids.length c2]] w fun e w' => Below w.heap.size w w' ∧ ((codeV (caseB n zs os vs ko kv fine) n zs os vs ko kv veh ids ≠ 0 ∧ e = .returned (.tuple #[.slice none 0 0, .int .i64 (-1)])) ∨ (codeV (caseB n zs os vs ko kv fine) n zs os vs ko kv veh ids = 0 ∧ ∃ gs, e = .returned (.tuple #[.slice (some ⟨gs, 0, none⟩) ids.length ids.length, .int .i64 (leaveV n zs (rosOf os ko ids) ids.length (fnd5F vs kv veh 1) (fnd5F vs kv veh 4))]) ∧ IntsAt w' (some ⟨gs, 0, none⟩) (latL n zs (rosOf os ko ids) ids.length (fnd5F vs kv veh 1) (fnd5F vs kv veh 4)))) := by
  have HA : Hid (IntsAt w a zs) := hA
  have HO : Hid (IntsAt w ao os) := hO
  have HV : Hid (IntsAt w av vs) := hV
  have HI : Hid (IntsAt w bi ids) := hI
  have HLO : Hid (os.length = ko * 6) := hlo
  have HLV : Hid (vs.length = kv * 5) := hlv
  clear hA hO hV hI hlo hlv
  have HC0 : Hid (CR w ((w.alloc (.cells #[Value.int IntKind.i64 n, Value.slice a zs.length cap, Value.slice ao ko co, Value.slice av kv cv, Value.int IntKind.i64 fine] 30)).alloc (.cells #[Value.int IntKind.i64 veh, Value.slice bi ids.length c2] 32)) #[Value.int IntKind.i64 n, Value.slice a zs.length cap, Value.slice ao ko co, Value.slice av kv cv, Value.int IntKind.i64 fine] #[Value.int IntKind.i64 veh, Value.slice bi ids.length c2]) := CR.new w _ _
  obtain ⟨cb, HCB⟩ : ∃ t, Hid (decide (codeV (caseB n zs os vs ko kv fine) n zs os vs ko kv veh ids = 0) = t) := ⟨_, rfl⟩
  go_enter Try.func21, Try.ntmps21
  obtain ⟨c0, c1, c2', c3, c4⟩ := cells5 HC0.out.2.1
  obtain ⟨d0, d1⟩ := cells2 HC0.out.2.2
  go_wp2_with fail
  clear c0 c1 c2' c3 c4 d0 d1
  refine (l3Ok_any n fine veh a ao av bi cap ko co kv cv c2 zs os vs ids _ (HA.out.below HC0.out.1) (HO.out.below HC0.out.1) (HV.out.below HC0.out.1) (HI.out.below HC0.out.1) HLO.out HLV.out hko hkv hli hc2 cb HCB.out).mono ?_
  rintro e w2 ⟨rfl, hb⟩
  have HC2 : Hid (CR w w2 #[Value.int IntKind.i64 n, Value.slice a zs.length cap, Value.slice ao ko co, Value.slice av kv cv, Value.int IntKind.i64 fine] #[Value.int IntKind.i64 veh, Value.slice bi ids.length c2]) := HC0.out.below hb
  clear hb HC0
  cases cb
  · have HF : Hid (codeV (caseB n zs os vs ko kv fine) n zs os vs ko kv veh ids ≠ 0) := of_decide_eq_false HCB.out
    go_wp2
    exact bodyPost_ret (v := .tuple #[.slice none 0 0, .int .i64 (-1)]) (by simp [results, Try.results21, go_sem]) rfl ⟨HC2.out.1, .inl ⟨HF.out, rfl⟩⟩
  · have hf9 : codeV (caseB n zs os vs ko kv fine) n zs os vs ko kv veh ids = 0 := of_decide_eq_true HCB.out
    have HF : Hid (codeV (caseB n zs os vs ko kv fine) n zs os vs ko kv veh ids = 0) := hf9
    clear hf9
    clear HCB
    obtain ⟨hcb, _, hst⟩ := formV_zero (codeV_zero HF.out).1
    obtain ⟨hmat, hords, hvehs, hn1, _⟩ := caseB_parts hcb
    obtain ⟨hvb1, hvb2, hvb3, hvb4⟩ := fnd5F_bd hvehs hn1 veh
    have HMAT : Hid (matB n zs = true) := hmat
    have HBD : Hid (RosBd n (rosOf os ko ids) ids.length) := rosBd_of hords hn1 ids
    have h12 := (stopsB_true hst).1
    obtain ⟨v0, G0⟩ : ∃ t, Hid (fnd5F vs kv veh 0 = t) := ⟨_, rfl⟩
    obtain ⟨v1, G1⟩ : ∃ t, Hid (fnd5F vs kv veh 1 = t) := ⟨_, rfl⟩
    obtain ⟨v2, G2⟩ : ∃ t, Hid (fnd5F vs kv veh 2 = t) := ⟨_, rfl⟩
    obtain ⟨v3, G3⟩ : ∃ t, Hid (fnd5F vs kv veh 3 = t) := ⟨_, rfl⟩
    obtain ⟨v4, G4⟩ : ∃ t, Hid (fnd5F vs kv veh 4 = t) := ⟨_, rfl⟩
    rw [G1.out] at hvb1
    rw [G4.out] at hvb4
    have HX1 : Hid (0 ≤ v1 ∧ v1 < n) := hvb1
    have HX4 : Hid (0 ≤ v4 ∧ v4 ≤ 1000000) := hvb4
    have hmk := fun X : World => make_ints X ids.length (by omega)
    clear hmat hords hvehs hvb1 hvb2 hvb3 hvb4 hcb hst
    obtain ⟨c0, c1, c2', c3, c4⟩ := cells5 HC2.out.2.1
    obtain ⟨d0, d1⟩ := cells2 HC2.out.2.2
    go_wp2_with fail
    clear c0 c1 c2' c3 c4 d0 d1
    refine (l2Car_any n fine veh a ao av zs.length cap ko co kv cv vs w2 (HV.out.below HC2.out.1) HLV.out hkv).mono ?_
    rintro e w3 ⟨rfl, hb⟩
    rw [G0.out, G1.out, G2.out, G3.out, G4.out]
    obtain ⟨tv, HTV⟩ : ∃ t, Hid (fnd5T vs kv veh = t) := ⟨_, rfl⟩
    rw [HTV.out]
    have HC3 : Hid (CR w w3 #[Value.int IntKind.i64 n, Value.slice a zs.length cap, Value.slice ao ko co, Value.slice av kv cv, Value.int IntKind.i64 fine] #[Value.int IntKind.i64 veh, Value.slice bi ids.length c2]) := HC2.out.below hb
    clear hb HC2
    have HC4 : Hid (CR w (w3.alloc (Obj.cells #[Value.int IntKind.i64 v0, Value.int IntKind.i64 v1, Value.int IntKind.i64 v2, Value.int IntKind.i64 v3, Value.int IntKind.i64 v4] 39)) #[Value.int IntKind.i64 n, Value.slice a zs.length cap, Value.slice ao ko co, Value.slice av kv cv, Value.int IntKind.i64 fine] #[Value.int IntKind.i64 veh, Value.slice bi ids.length c2] ∧ (w3.alloc (Obj.cells #[Value.int IntKind.i64 v0, Value.int IntKind.i64 v1, Value.int IntKind.i64 v2, Value.int IntKind.i64 v3, Value.int IntKind.i64 v4] 39)).heap[w3.heap.size]? = some (.cells #[Value.int IntKind.i64 v0, Value.int IntKind.i64 v1, Value.int IntKind.i64 v2, Value.int IntKind.i64 v3, Value.int IntKind.i64 v4] 39 (0, 0)) ∧ w.heap.size + 1 < w3.heap.size) := ⟨HC3.out.alloc _, heap_alloc_new _ _, HC3.out.big⟩
    go_upto_region 4 with fail
    clear HC3
    generalize w3.alloc (Obj.cells #[Value.int IntKind.i64 v0, Value.int IntKind.i64 v1, Value.int IntKind.i64 v2, Value.int IntKind.i64 v3, Value.int IntKind.i64 v4] 39) = W4 at *
    obtain ⟨bv, HBV⟩ : ∃ v, Hid (w3.heap.size = v) := ⟨_, rfl⟩
    rw [HBV.out] at HC4 ⊢
    have HS5 : Hid (SL w (W4.alloc (Obj.cells (cellsOf (List.replicate ids.length 0)) 2)) #[Value.int IntKind.i64 n, Value.slice a zs.length cap, Value.slice ao ko co, Value.slice av kv cv, Value.int IntKind.i64 fine] #[Value.int IntKind.i64 veh, Value.slice bi ids.length c2] #[Value.int IntKind.i64 v0, Value.int IntKind.i64 v1, Value.int IntKind.i64 v2, Value.int IntKind.i64 v3, Value.int IntKind.i64 v4] bv W4.heap.size (List.replicate ids.length 0)) := by
      have hb : Below W4.heap.size W4 (W4.alloc (Obj.cells (cellsOf (List.replicate ids.length 0)) 2)) := (Below.refl _ _).alloc (Nat.le_refl _) _
      have h7 := row_lt HC4.out.2.1
      have h8 := HC4.out.1.big
      exact ⟨HC4.out.1.below hb, below_row hb h7 HC4.out.2.1, heap_alloc_new _ _, HC4.out.2.2, h8, by omega⟩
    obtain ⟨d0, d1⟩ := cells2 HC4.out.1.2.2
    go_upto_region 5 with fail
    clear d0 d1 hmk HC4
    generalize W4.alloc (Obj.cells (cellsOf (List.replicate ids.length 0)) 2) = W5 at *
    obtain ⟨gs, HGS⟩ : ∃ v, Hid (W4.heap.size = v) := ⟨_, rfl⟩
    rw [HGS.out] at HS5 ⊢
    obtain ⟨y0, y1, y2, y3, y4⟩ := cells5 HS5.out.v
    obtain ⟨d0, d1⟩ := cells2 HS5.out.c.2.2
    go_wp2_with fail
    clear y0 y1 y2 y3 y4 d0 d1
    rw [← lateTo_zero n zs (rosOf os ko ids) ids.length v1 v4] at HS5
    go_loopw [9, 10, 11] (fun tt pp t wr => ∃ k : Nat, k ≤ ids.length ∧ t = .int .i64 ((ids.length : Int) - 1 - k) ∧ tt = .int .i64 (latT n zs (rosOf os ko ids) ids.length v1 v4 k) ∧ pp = .int .i64 (nextP (rosOf os ko ids) ids.length v1 k) ∧ SL w wr #[Value.int IntKind.i64 n, Value.slice a zs.length cap, Value.slice ao ko co, Value.slice av kv cv, Value.int IntKind.i64 fine] #[Value.int IntKind.i64 veh, Value.slice bi ids.length c2] #[Value.int IntKind.i64 v0, Value.int IntKind.i64 v1, Value.int IntKind.i64 v2, Value.int IntKind.i64 v3, Value.int IntKind.i64 v4] bv gs (lateTo n zs (rosOf os ko ids) ids.length v1 v4 k)) (fun _ _ t _ => (intOf t + 1).toNat)
    case atStart => exact ⟨0, Nat.zero_le _, by first | rfl | go_num | (simp; done), rfl, rfl, HS5.out⟩
    case round =>
      clear HS5
      obtain ⟨k, hk, rfl, rfl, rfl, hs⟩ := hrel
      have HS : Hid (SL w wr #[Value.int IntKind.i64 n, Value.slice a zs.length cap, Value.slice ao ko co, Value.slice av kv cv, Value.int IntKind.i64 fine] #[Value.int IntKind.i64 veh, Value.slice bi ids.length c2] #[Value.int IntKind.i64 v0, Value.int IntKind.i64 v1, Value.int IntKind.i64 v2, Value.int IntKind.i64 v3, Value.int IntKind.i64 v4] bv gs (lateTo n zs (rosOf os ko ids) ids.length v1 v4 k)) := hs
      clear hs
      have hlb := latT_bd (home := v1) HMAT.out HBD.out HX4.out k hk
      have HPB : Hid (0 ≤ nextP (rosOf os ko ids) ids.length v1 k ∧ nextP (rosOf os ko ids) ids.length v1 k < n) := nextP_bd HBD.out HX1.out k hk
      have HLT := latT_succ n zs (rosOf os ko ids) ids.length v1 v4 k
      obtain ⟨th, HTH⟩ : ∃ t, Hid (latT n zs (rosOf os ko ids) ids.length v1 v4 k = t) := ⟨_, rfl⟩
      obtain ⟨p, HP⟩ : ∃ t, Hid (nextP (rosOf os ko ids) ids.length v1 k = t) := ⟨_, rfl⟩
      rw [HTH.out] at hlb HLT
      rw [HP.out] at HPB HLT
      rw [HTH.out, HP.out]
      by_cases hlt : k < ids.length
      · obtain ⟨i, HI9⟩ : ∃ i : Nat, Hid (i = ids.length - 1 - k) := ⟨_, rfl⟩
        have him : i < ids.length := by have := HI9.out; omega
        have hii : (ids.length : Int) - 1 - k = (i : Int) := by have := HI9.out; omega
        have HST := lateTo_succ n zs (rosOf os ko ids) ids.length v1 v4 hlt
        have HNP := nextP_succ (rosOf os ko ids) ids.length v1 k
        rw [← HI9.out] at HLT HST HNP
        rw [hii]
        have HSUB : Hid ((i : Int) - 1 = (ids.length : Int) - 1 - ((k + 1 : Nat) : Int)) := by show _ = _; omega
        clear hii
        obtain ⟨b, off, e, hcs⟩ := HI.out.some (j := i) him
        clear hcs
        subst e
        obtain ⟨id, HID⟩ : ∃ x, Hid (ids.getD i 0 = x) := ⟨_, rfl⟩
        have hrb := HBD.out i him
        have hro : ∀ f, f < 6 → og6 (rosOf os ko ids) i f = fnd6F os ko id f := fun f hf => by rw [rosOf_at os ko ids him hf, HID.out]
        obtain ⟨x0, HX0⟩ : ∃ x, Hid (fnd6F os ko id 0 = x) := ⟨_, rfl⟩
        obtain ⟨x1, HX9⟩ : ∃ x, Hid (fnd6F os ko id 1 = x) := ⟨_, rfl⟩
        obtain ⟨x2, HX2⟩ : ∃ x, Hid (fnd6F os ko id 2 = x) := ⟨_, rfl⟩
        obtain ⟨x3, HX3⟩ : ∃ x, Hid (fnd6F os ko id 3 = x) := ⟨_, rfl⟩
        obtain ⟨x4, HX4'⟩ : ∃ x, Hid (fnd6F os ko id 4 = x) := ⟨_, rfl⟩
        obtain ⟨x5, HX5⟩ : ∃ x, Hid (fnd6F os ko id 5 = x) := ⟨_, rfl⟩
        rw [hro 1 (by omega), HX9.out, hro 4 (by omega), HX4'.out, hro 5 (by omega), HX5.out] at hrb HLT
        rw [hro 1 (by omega), HX9.out] at HNP
        obtain ⟨d, HDD⟩ : ∃ t, Hid (tmI n zs x1 p = t) := ⟨_, rfl⟩
        have hdb := tmI_bd HMAT.out x1 p
        rw [HDD.out] at hdb HLT
        obtain ⟨y9, HY9⟩ : ∃ t, Hid (th - d - x5 = t) := ⟨_, rfl⟩
        rw [HY9.out] at HLT
        obtain ⟨mn, HMN⟩ : ∃ t, Hid (latT n zs (rosOf os ko ids) ids.length v1 v4 (k + 1) = t) := ⟨_, rfl⟩
        rw [HMN.out] at HLT HST
        have hmv : (x4 ≤ y9 ∧ mn = x4) ∨ (¬ x4 ≤ y9 ∧ mn = y9) := by omega
        have HST' : Hid ((lateTo n zs (rosOf os ko ids) ids.length v1 v4 k).set i mn = lateTo n zs (rosOf os ko ids) ids.length v1 v4 (k + 1)) := HST
        have HNP' : Hid (nextP (rosOf os ko ids) ids.length v1 (k + 1) = x1) := HNP
        have HO1 : Hid (0 ≤ x1 ∧ x1 < n) := hrb.1
        have w1a : wrap64 (th - d) = th - d := IntWalk.wrap64_in _ (by omega)
        have w1b : IntKind.i64.wrap (th - d) = th - d := by rw [IntKind.wrap_i64]; omega
        have w2a : wrap64 (th - d - x5) = y9 := by rw [IntWalk.wrap64_in _ (by omega)]; exact HY9.out
        have w2b : IntKind.i64.wrap (th - d - x5) = y9 := by rw [← HY9.out, IntKind.wrap_i64]; omega
        clear HLT HST HNP hro hrb HY9
        have IOO : Hid (∀ W, CR w W #[Value.int IntKind.i64 n, Value.slice a zs.length cap, Value.slice ao ko co, Value.slice av kv cv, Value.int IntKind.i64 fine] #[Value.int IntKind.i64 veh, Value.slice (some ⟨b, off, none⟩) ids.length c2] → Calls Try.prog 42 #[.agg #[Value.int IntKind.i64 n, Value.slice a zs.length cap, Value.slice ao ko co, Value.slice av kv cv, Value.int IntKind.i64 fine], .int .i64 id] W fun e w' => (∃ t, e = .returned (.tuple #[.agg #[Value.int IntKind.i64 x0, Value.int IntKind.i64 x1, Value.int IntKind.i64 x2, Value.int IntKind.i64 x3, Value.int IntKind.i64 x4, Value.int IntKind.i64 x5], .bool t])) ∧ Below W.heap.size W w') := fun W h => by
          have := l2At_any n fine id a ao av zs.length cap ko co kv cv os W (HO.out.below h.1) HLO.out hko
          rw [HX0.out, HX9.out, HX2.out, HX3.out, HX4'.out, HX5.out] at this
          exact this.mono fun e w' h => ⟨⟨_, h.1⟩, h.2⟩
        clear HX0 HX9 HX2 HX3 HX4' HX5
        have kS0 := CR.keepI HS.out.c HI.out him HID.out
        obtain ⟨d0, d1, d2, d3, d4, e1, hid⟩ := kS0
        go_upto_region 10 with fail
        go_cut [12, 13] from 37 to 70 (fun s12 s13 wx => ∃ kb : Nat, s12 = .pointer (some ⟨kb, 0, none⟩) ∧ (∃ t, s13 = .bool t) ∧ Below wr.heap.size wr wx ∧ wx.heap[kb]? = some (.cells #[Value.int IntKind.i64 x0, Value.int IntKind.i64 x1, Value.int IntKind.i64 x2, Value.int IntKind.i64 x3, Value.int IntKind.i64 x4, Value.int IntKind.i64 x5] 43 (0, 0)))
        case first =>
          have kS := CR.keepI (HS.out.c.below (Below.refl _ _).drew) HI.out him HID.out
          have k0 := CR.keepI (HS.out.c.below ((Below.refl _ _).alloc (Nat.le_refl _) (Obj.cells #[Value.int IntKind.i64 0, Value.int IntKind.i64 0, Value.int IntKind.i64 0, Value.int IntKind.i64 0, Value.int IntKind.i64 0, Value.int IntKind.i64 0] 43)).drew) HI.out him HID.out
          clear d0 d1 d2 d3 d4 e1 hid
          go_region_held3 (fun W => W.cell? ⟨w.heap.size, 0, none⟩ = some (.int .i64 n) ∧ W.cell? ⟨w.heap.size, 1, none⟩ = some (.slice a zs.length cap) ∧ W.cell? ⟨w.heap.size, 2, none⟩ = some (.slice ao ko co) ∧ W.cell? ⟨w.heap.size, 3, none⟩ = some (.slice av kv cv) ∧ W.cell? ⟨w.heap.size, 4, none⟩ = some (.int .i64 fine) ∧ W.cell? ⟨w.heap.size + 1, 1, none⟩ = some (.slice (some ⟨b, off, none⟩) ids.length c2) ∧ W.cell? ⟨b, off + i, none⟩ = some (.int .i64 id)) (first | with_reducible exact kS | with_reducible exact k0 | with_reducible exact kB | with_reducible exact kA | with_reducible exact kT | go_keep) ((first
            | (go_at_call 42
               with_reducible refine (IOO.out wr.drew (HS.out.c.below (Below.refl _ _).drew)).mono ?_
               rintro e wa ⟨⟨t, rfl⟩, hb⟩
               have HBA : Hid (Below wr.heap.size wr wa) := ((Below.refl wr.heap.size wr).drew).trans (hb.mono (Nat.le_refl _))
               have kS := CR.keepI (HS.out.c.below HBA.out) HI.out him HID.out
               have kB := CR.keepI (HS.out.c.below (HBA.out.alloc HBA.out.size (Obj.cells #[Value.int IntKind.i64 0, Value.int IntKind.i64 0, Value.int IntKind.i64 0, Value.int IntKind.i64 0, Value.int IntKind.i64 0, Value.int IntKind.i64 0] 43))) HI.out him HID.out
               have kA := CR.keepI (HS.out.c.below (HBA.out.alloc HBA.out.size (Obj.cells #[Value.int IntKind.i64 x0, Value.int IntKind.i64 x1, Value.int IntKind.i64 x2, Value.int IntKind.i64 x3, Value.int IntKind.i64 x4, Value.int IntKind.i64 x5] 43))) HI.out him HID.out
               clear hb)
            | (go_at_call 42
               with_reducible refine (IOO.out (wr.alloc (Obj.cells #[Value.int IntKind.i64 0, Value.int IntKind.i64 0, Value.int IntKind.i64 0, Value.int IntKind.i64 0, Value.int IntKind.i64 0, Value.int IntKind.i64 0] 43)).drew (HS.out.c.below ((Below.refl _ _).alloc (Nat.le_refl _) _).drew)).mono ?_
               rintro e wa ⟨⟨t, rfl⟩, hb⟩
               have hbx : wa.heap[wr.heap.size]? = some (.cells #[Value.int IntKind.i64 0, Value.int IntKind.i64 0, Value.int IntKind.i64 0, Value.int IntKind.i64 0, Value.int IntKind.i64 0, Value.int IntKind.i64 0] 43 (0, 0)) := below_row hb (by simp) (heap_alloc_new _ _)
               obtain ⟨z0, z1, z2, z3, z4, z5⟩ := cells6 hbx
               have zf := fun i => frozen_of_row _ _ i _ _ hbx
               have hwa : Below wr.heap.size wr wa := (((Below.refl wr.heap.size wr).alloc (Nat.le_refl _) (Obj.cells #[Value.int IntKind.i64 0, Value.int IntKind.i64 0, Value.int IntKind.i64 0, Value.int IntKind.i64 0, Value.int IntKind.i64 0, Value.int IntKind.i64 0] 43)).drew).trans (hb.mono (by simp))
               have HB6 : Hid (Below wr.heap.size wr ((((((wa.setCell ⟨wr.heap.size, 0, none⟩ (.int .i64 x0)).setCell ⟨wr.heap.size, 1, none⟩ (.int .i64 x1)).setCell ⟨wr.heap.size, 2, none⟩ (.int .i64 x2)).setCell ⟨wr.heap.size, 3, none⟩ (.int .i64 x3)).setCell ⟨wr.heap.size, 4, none⟩ (.int .i64 x4)).setCell ⟨wr.heap.size, 5, none⟩ (.int .i64 x5))) := ((((((hwa.setCell (by simp) _).setCell (by simp) _).setCell (by simp) _).setCell (by simp) _).setCell (by simp) _).setCell (by simp) _)
               have HR6 : Hid (((((((wa.setCell ⟨wr.heap.size, 0, none⟩ (.int .i64 x0)).setCell ⟨wr.heap.size, 1, none⟩ (.int .i64 x1)).setCell ⟨wr.heap.size, 2, none⟩ (.int .i64 x2)).setCell ⟨wr.heap.size, 3, none⟩ (.int .i64 x3)).setCell ⟨wr.heap.size, 4, none⟩ (.int .i64 x4)).setCell ⟨wr.heap.size, 5, none⟩ (.int .i64 x5)).heap[wr.heap.size]? = some (.cells #[Value.int IntKind.i64 x0, Value.int IntKind.i64 x1, Value.int IntKind.i64 x2, Value.int IntKind.i64 x3, Value.int IntKind.i64 x4, Value.int IntKind.i64 x5] 43 (0, 0))) := by
                 have := row_putL (i := 5) (.int .i64 x5) (row_putL (i := 4) (.int .i64 x4) (row_putL (i := 3) (.int .i64 x3) (row_putL (i := 2) (.int .i64 x2) (row_putL (i := 1) (.int .i64 x1) (row_putL (i := 0) (.int .i64 x0) hbx)))))
                 show _ = _
                 simpa using this
               have kS := CR.keepI (HS.out.c.below hwa) HI.out him HID.out
               have kT := CR.keepI (HS.out.c.below HB6.out) HI.out him HID.out
               clear hb hbx hwa)))
          all_goals (try go_wp2_with fail)
          all_goals go_meet
          all_goals first
            | with_reducible exact ⟨_, rfl, ⟨_, rfl⟩, HB6.out, HR6.out⟩
            | with_reducible exact ⟨_, rfl, ⟨_, rfl⟩, HBA.out.alloc HBA.out.size _, heap_alloc_new _ _⟩
        case rest =>
          clear d0 d1 d2 d3 d4 e1 hid IOO
          obtain ⟨kb, rfl, ⟨t13, rfl⟩, hbx, hx⟩ := hcut
          have HSX : Hid (SL w wc #[Value.int IntKind.i64 n, Value.slice a zs.length cap, Value.slice ao ko co, Value.slice av kv cv, Value.int IntKind.i64 fine] #[Value.int IntKind.i64 veh, Value.slice (some ⟨b, off, none⟩) ids.length c2] #[Value.int IntKind.i64 v0, Value.int IntKind.i64 v1, Value.int IntKind.i64 v2, Value.int IntKind.i64 v3, Value.int IntKind.i64 v4] bv gs (lateTo n zs (rosOf os ko ids) ids.length v1 v4 k)) := HS.out.below hbx
          obtain ⟨o0, o1, o2, o3, o4, o5⟩ := cells6 hx
          have HXR : Hid (wc.heap[kb]? = some (.cells #[Value.int IntKind.i64 x0, Value.int IntKind.i64 x1, Value.int IntKind.i64 x2, Value.int IntKind.i64 x3, Value.int IntKind.i64 x4, Value.int IntKind.i64 x5] 43 (0, 0))) := hx
          have HKG : Hid (kb ≠ gs) := fun e9 => by
            have h9 := HSX.out.s
            rw [← e9, hx] at h9
            injection h9 with h9
            injection h9 with _ h9t
            exact absurd h9t (by decide)
          obtain ⟨d0, d1, d2, d3, d4⟩ := cells5 HSX.out.c.2.1
          have HC : ∀ s : Kin wc, Calls Try.prog 43 #[.agg #[.int .i64 n, .slice a zs.length cap], .int .i64 x1, .int .i64 p] s.w fun e w' => e = .returned (.int .i64 d) ∧ Below s.w.heap.size s.w w' := fun s => l1Time_is' n x1 p a cap zs s.w d HDD.out HMAT.out HO1.out HPB.out ((HA.out.below HSX.out.c.1).below s.below)
          clear hbx hx HS
          rcases hmv with ⟨hmx, e9⟩ | ⟨hmx, e9⟩
          all_goals
            subst e9
            go_wp2_with fail
            have q1 := fun s : Kin wc => s.cell o1
            have q4 := fun s : Kin wc => s.cell o4
            have q5 := fun s : Kin wc => s.cell o5
            have p0 := fun s : Kin wc => s.cell d0
            have p1 := fun s : Kin wc => s.cell d1
            have hkin := Kin.there wc
            refine wp_region_kin (by kernel_rfl) (by kernel_rfl) ?_
            repeat (go_big_quiet_step ((go_at_call 43; exact Kin.call (HC _))))
            refine wpQuiet_nil ?_
            rintro _ ⟨s, rfl⟩
            have HS9 : Hid (SL w s.w #[Value.int IntKind.i64 n, Value.slice a zs.length cap, Value.slice ao ko co, Value.slice av kv cv, Value.int IntKind.i64 fine] #[Value.int IntKind.i64 veh, Value.slice (some ⟨b, off, none⟩) ids.length c2] #[Value.int IntKind.i64 v0, Value.int IntKind.i64 v1, Value.int IntKind.i64 v2, Value.int IntKind.i64 v3, Value.int IntKind.i64 v4] bv gs (lateTo n zs (rosOf os ko ids) ids.length v1 v4 k)) := HSX.out.below s.below
            have HX9 : Hid (s.w.heap[kb]? = _) := below_row s.below (row_lt HXR.out) HXR.out
            clear q1 q4 q5 p0 p1 hkin HC o0 o1 o2 o3 o4 o5 d0 d1 d2 d3 d4
            generalize s.w = W9 at *
            have cg := HS9.out.cell (i := i) (by simp only [lateTo, List.length_map, List.length_range]; exact him)
            obtain ⟨z9, HZ9⟩ : ∃ t, Hid ((lateTo n zs (rosOf os ko ids) ids.length v1 v4 k).getD i 0 = t) := ⟨_, rfl⟩
            rw [HZ9.out] at cg
            have fg := frozen_of_row _ _ i _ _ HS9.out.s
            have HSN : Hid (SL w (W9.setCell ⟨gs, i, none⟩ (.int .i64 mn)) #[Value.int IntKind.i64 n, Value.slice a zs.length cap, Value.slice ao ko co, Value.slice av kv cv, Value.int IntKind.i64 fine] #[Value.int IntKind.i64 veh, Value.slice (some ⟨b, off, none⟩) ids.length c2] #[Value.int IntKind.i64 v0, Value.int IntKind.i64 v1, Value.int IntKind.i64 v2, Value.int IntKind.i64 v3, Value.int IntKind.i64 v4] bv gs (lateTo n zs (rosOf os ko ids) ids.length v1 v4 (k + 1))) := by
              have h9 := HS9.out.put i mn
              rw [HST'.out] at h9
              exact h9
            obtain ⟨o0, o1, o2, o3, o4, o5⟩ := cells6 (row_set' (v := .int .i64 mn) (i := i) HX9.out HKG.out)
            go_wp2
            go_roundw
            case rel => exact ⟨k + 1, by omega, by first | exact congrArg (Value.int IntKind.i64) HSUB.out | (have h9 := HSUB.out; simp at h9 ⊢; omega), by rw [HMN.out], by rw [HNP'.out], HSN.out⟩
            case measure => simp [intOf] <;> omega
      · have hkm : k = ids.length := by omega
        clear HLT hlt
        obtain ⟨d, HDD⟩ : ∃ t, Hid (tmI n zs v1 p = t) := ⟨_, rfl⟩
        have hdb := tmI_bd HMAT.out v1 p
        rw [HDD.out] at hdb
        have HLV9 : Hid (leaveV n zs (rosOf os ko ids) ids.length (fnd5F vs kv veh 1) (fnd5F vs kv veh 4) = th - d) := by
          show _ = _
          unfold leaveV
          have h9 := HTH.out
          have h8 := HP.out
          rw [hkm] at h9 h8
          rw [G1.out, G4.out, h9, h8, HDD.out]
        have HLL : Hid (lateTo n zs (rosOf os ko ids) ids.length v1 v4 k = latL n zs (rosOf os ko ids) ids.length (fnd5F vs kv veh 1) (fnd5F vs kv veh 4)) := by
          show _ = _
          rw [hkm, lateTo_all, G1.out, G4.out]
        have w1a : wrap64 (th - d) = th - d := IntWalk.wrap64_in _ (by omega)
        have w1b : IntKind.i64.wrap (th - d) = th - d := by rw [IntKind.wrap_i64]; omega
        have hii : (ids.length : Int) - 1 - k = -1 := by omega
        rw [hii]
        clear hii hkm
        obtain ⟨d0, d1, d2, d3, d4⟩ := cells5 HS.out.c.2.1
        obtain ⟨y0, y1, y2, y3, y4⟩ := cells5 HS.out.v
        go_wp2_with (go_at_call 43; refine (l1Time_is' n v1 p a cap zs wr d HDD.out HMAT.out HX1.out HPB.out (HA.out.below HS.out.c.1)).mono ?_; rintro e w9 ⟨rfl, hb⟩; have HS9 : Hid (SL w w9 #[Value.int IntKind.i64 n, Value.slice a zs.length cap, Value.slice ao ko co, Value.slice av kv cv, Value.int IntKind.i64 fine] #[Value.int IntKind.i64 veh, Value.slice bi ids.length c2] #[Value.int IntKind.i64 v0, Value.int IntKind.i64 v1, Value.int IntKind.i64 v2, Value.int IntKind.i64 v3, Value.int IntKind.i64 v4] bv gs (lateTo n zs (rosOf os ko ids) ids.length v1 v4 k)) := HS.out.below hb; clear hb)
        refine bodyPost_ret (v := .tuple #[.slice (some ⟨gs, 0, none⟩) ids.length ids.length, .int .i64 (th - d)]) (by simp [results, Try.results21, go_sem]) rfl ⟨HS9.out.c.1, .inr ⟨HF.out, gs, ?_, ?_⟩⟩
        · rw [HLV9.out]
        · rw [← HLL.out]
          exact IntsAt.of_row HS9.out.s

end Go.Proofs.Ytocnlgmcjdggaaa
