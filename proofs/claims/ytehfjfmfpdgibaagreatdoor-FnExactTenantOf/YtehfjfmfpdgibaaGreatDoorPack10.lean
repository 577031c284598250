import Derived.Test.YtehfjfmfpdgibaaGreatDoorPack0
import Derived.Test.YtehfjfmfpdgibaaGreatDoorPack1
import Derived.Test.YtehfjfmfpdgibaaGreatDoorPack2
import Derived.Test.YtehfjfmfpdgibaaGreatDoorPack5
import Derived.Test.YtehfjfmfpdgibaaGreatDoorPack7
import Derived.Test.YtehfjfmfpdgibaaGreatDoorPack8
import Derived.Test.YtehfjfmfpdgibaaGreatDoorRoutesOk
namespace Go.Proofs.YtehfjfmfpdgibaaGreatDoor
open Go.RowKit Go.Maps
theorem all_orders {n : Int} {zs os vs : List Int} {ko kv : Nat} {R : List RT} : ∀ {k : Nat}, k <= R.length -> RtsOk n zs os vs ko kv R k -> ∀ x ∈ allTo R k, fnd6T os ko x = true
 | 0, _, _, x, hx => by rw [allTo_zero] at hx; cases hx
 | k + 1, hk, h, x, hx => by
   rw [allTo_succ (by omega), List.mem_append] at hx
   rcases hx with hx | hx
   · exact all_orders (k := k) (by omega) (fun j hj => h j (by omega)) x hx
   · have h3 := (stopsB_true (formV_zero (codeV_zero (h k (by omega)).2.2).1).2.2).2
     obtain ⟨j, hj, e⟩ := List.getElem_of_mem hx
     have := h3 j hj
     unfold stopB at this
     rw [List.getD_eq_getElem?_getD, List.getElem?_eq_getElem hj] at this
     simp only [Option.getD_some, e] at this
     simp at this
     exact this.1
theorem ord_wf {n : Int} {zs os vs : List Int} {ko kv : Nat} {fine id : Int} (hc : caseB n zs os vs ko kv fine = true) (h : fnd6T os ko id = true) : (Lit.int .i64 id).wf = true := by
 have hv := (caseB_parts hc).2.1
 unfold fnd6T at h
 cases hf : fnd6 os ko id with
 | none => rw [hf] at h; cases h
 | some i =>
   unfold fnd6 at hf
   have h1 := List.find?_some hf
   have h2 : i < ko := by simpa using List.mem_of_find?_eq_some hf
   have h3 := ((ordsB_true hv).2 i h2).1
   simp at h1
   unfold ordB inB at h3
   simp at h3
   exact WalkArith.wf_i64 (by omega)
def CP (w W : World) (cs ps : Array Value) : Prop := Below w.heap.size w W /\ W.heap[w.heap.size]? = some (.cells cs 78 (0, 0)) /\ W.heap[w.heap.size + 1]? = some (.cells ps 46 (0, 0))
theorem CP.new (w : World) (cs ps : Array Value) : CP w ((w.alloc (.cells cs 78)).alloc (.cells ps 46)) cs ps :=
 ⟨((Below.refl _ _).alloc (Nat.le_refl _) _).alloc (by simp) _, heap_alloc2_old _ _ _, heap_alloc2_new _ _ _⟩
theorem CP.below {w W W' : World} {cs ps : Array Value} (h : CP w W cs ps) (hb : Below W.heap.size W W') : CP w W' cs ps :=
 ⟨h.1.trans (hb.mono h.1.size), below_row hb (row_lt h.2.1) h.2.1, below_row hb (row_lt h.2.2) h.2.2⟩
theorem CP.grown {w W W' : World} {cs ps : Array Value} {B : Nat} {l : List Int} (h : CP w W cs ps) (hS : SetAt W B l) (hB : w.heap.size <= B) (hg : W.grownBy W' (some B)) : CP w W' cs ps :=
 ⟨h.1.grown hg h.1.size (fun j e => by cases e; exact hB), row_grownM hS hg h.2.1, row_grownM hS hg h.2.2⟩
set_option maxRecDepth 100000 in
set_option maxHeartbeats 2000000 in
theorem planCode_any (n fine : Int) (a ao av ra la : Option Addr) (cap ko co kv cv rc lc : Nat) (zs os vs L : List Int) (R : List RT) (w : World) (hA : IntsAt w a zs) (hO : IntsAt w ao os) (hV : IntsAt w av vs) (hR : RoutesAt w ra R) (hL : IntsAt w la L) (hlo : os.length = ko * 6) (hlv : vs.length = kv * 5) (hko : ko <= 9223372036854775807) (hkv : kv <= 9223372036854775807) (hn : R.length <= 1048576) (hi : ∀ r ∈ R, r.ids.length <= 1048576) (hrc : ∀ r ∈ R, r.ids.length <= r.c) (hll : L.length <= 1048576) (hal : (allTo R R.length).length <= 1048576) (hwl : ∀ x ∈ L, (Lit.int .i64 x).wf = true) (hcB : caseB n zs os vs ko kv fine = true) :
 Calls Tryz.prog 132 #[.agg #[.int .i64 n, .slice a zs.length cap, .slice ao ko co, .slice av kv cv, .int .i64 fine], .agg #[.slice ra R.length rc, .slice la L.length lc]] w fun e w' => e = .returned (.int .i64 (planV n zs os vs ko kv fine R L)) /\ Below w.heap.size w w' := by
 have HA : Hid (IntsAt w a zs) := hA
 have HO : Hid (IntsAt w ao os) := hO
 have HV : Hid (IntsAt w av vs) := hV
 have HR : Hid (RoutesAt w ra R) := hR
 have HL : Hid (IntsAt w la L) := hL
 have HLO : Hid _ := hlo
 have HLV : Hid _ := hlv
 have HN : Hid _ := hn
 have HLL : Hid _ := hll
 have HAL : Hid _ := hal
 have HI : Hid _ := hi
 have HRC : Hid _ := hrc
 have HWL : Hid _ := hwl
 have HC : Hid _ := hcB
 clear hA hO hV hR hL hlo hlv hi hrc hcB hwl hn hll hal
 obtain ⟨v, HVAL⟩ := nmd (planV n zs os vs ko kv fine R L)
 rw [HVAL.out]
 have hmm := @run_makeMap Tryz.prog
 have C0 : Hid (CP w ((w.alloc (.cells #[.int .i64 n, .slice a zs.length cap, .slice ao ko co, .slice av kv cv, .int .i64 fine] 78)).alloc (.cells #[.slice ra R.length rc, .slice la L.length lc] 46)) _ _) := CP.new w _ _
 obtain ⟨c0, c1, c2, c3, c4⟩ := cells5 C0.2.1
 obtain ⟨d0, d1⟩ := cells2 C0.2.2
 go_enter Tryz.func132, Tryz.ntmps132
 go_wp2_with fail
 clear c0 c1 c2 c3 c4 d0 d1
 generalize (w.alloc (.cells #[.int .i64 n, .slice a zs.length cap, .slice ao ko co, .slice av kv cv, .int .i64 fine] 78)).alloc (.cells #[.slice ra R.length rc, .slice la L.length lc] 46) = W0 at *
 refine (routesOk_any n fine a ao av ra cap ko co kv cv rc zs os vs R W0 (HA.below C0.1) (HO.below C0.1) (HV.below C0.1) (HR.below C0.1) HLO.out HLV.out hko hkv HN.out HI.out HRC.out HC.out).mono ?_
 rintro e w1 ⟨hb, ⟨rfl, hok⟩ | ⟨rfl, hok⟩⟩
 · have OK : Hid (RtsOk n zs os vs ko kv R R.length) := hok
   have C1 : Hid (CP w w1 _ _) := C0.below hb
   clear hb hok C0
   have S0 : Hid (SetAt (w1.alloc (.map #[] 0)) w1.heap.size []) := SetAt.made w1
   have C2 : Hid (CP w (w1.alloc (.map #[] 0)) _ _) := C1.below ((Below.refl _ _).alloc (Nat.le_refl _) _)
   obtain ⟨d0, d1⟩ := cells2 C2.2.2
   go_wp2_with fail
   clear d0 d1
   have hB := C1.1.size
   generalize hZ : w1.alloc (.map #[] 0) = W2 at *
   generalize w1.heap.size = B at *
   clear hZ C1
   refine (meetsOnce_any B ra la rc lc R L W2 (HR.below C2.1) (HL.below C2.1) S0.out HN.out HI.out HLL.out HAL.out (fun x hx => ord_wf HC.out (all_orders (Nat.le_refl _) OK.out x hx)) HWL.out).mono ?_
   rintro e w3 ⟨hg, ⟨rfl, honce, hset⟩ | ⟨rfl, honce⟩⟩
   · have C3 : Hid (CP w w3 _ _) := C2.grown S0.out hB hg
     have ON : Hid (Once (allTo R R.length) L) := honce
     have S3 : Hid (SetAt w3 B (allTo R R.length)) := hset
     clear hg honce hset C2 S0 hB
     obtain ⟨c0, c1, c2, c3, c4⟩ := cells5 C3.2.1
     obtain ⟨d0, d1⟩ := cells2 C3.2.2
     go_wp2_with fail
     clear c0 c1 c2 c3 c4 d0 d1
     refine (leftOk_any n fine a ao av la cap ko co kv cv lc B zs os vs L (allTo R R.length) w3 (HO.below C3.1) (HL.below C3.1) S3.out ON.1 HLO.out hko HLL.out HAL.out HC.out).mono ?_
     rintro e w4 ⟨hb, ⟨rfl, h1, h2⟩ | ⟨rfl, h1⟩⟩
     · have HB : Hid _ := C3.1.trans (hb.mono C3.1.size)
       have HE : Hid _ := HVAL.symm.trans (planV_0 HC.out OK.out ON.out h1 h2)
       clear hb h1 h2
       go_wp2
       go_ret
       exact ⟨by rw [HE.out]; rfl, HB.out⟩
     · have HB : Hid _ := C3.1.trans (hb.mono C3.1.size)
       have HE : Hid _ := HVAL.symm.trans (planV_4 HC.out OK.out ON.out h1)
       clear hb h1
       go_wp2
       go_ret
       exact ⟨by rw [HE.out]; rfl, HB.out⟩
   · have C3 : Hid (CP w w3 _ _) := C2.grown S0.out hB hg
     have HE : Hid _ := HVAL.symm.trans (planV_3 HC.out OK.out honce)
     clear hg honce
     go_wp2
     go_ret
     exact ⟨by rw [HE.out]; rfl, C3.1⟩
 · have HB : Hid _ := C0.1.trans (hb.mono C0.1.size)
   have HE : Hid _ := HVAL.symm.trans (planV_2 HC.out hok)
   clear hb hok
   go_wp2
   go_ret
   exact ⟨by rw [HE.out]; rfl, HB.out⟩
end Go.Proofs.YtehfjfmfpdgibaaGreatDoor

namespace Go.Proofs.YtehfjfmfpdgibaaGreatDoor
open Go.RowKit
theorem append_int20 (w : World) {ops : Array Oper} {rest : List Oper} {o : Oper} {a : Act} {Q : Exit -> Act -> World -> Prop}
 (hg : o.guard = none) (s x : Operand) (hop : o.op = Op.call { callee := Callee.builtin Builtin.append, args := #[s, x], argTypes := #[44, 44] })
 (base : Nat) (v : Value) (k : Nat) (xs : List Value) (hs : a.eval s = v) (hown : w.ownsRow base 2 1 v k xs) (ad : Addr) (c : Nat) (x0 : Value) (hx : a.eval x = .slice (some ad) 1 c)
 (hc : w.cell? ad = some x0) (h1c : x0.oneCell' = true) (b1 : k <= 1048576) (hb : base <= w.heap.size)
 (hK : ∀ v' w', w'.ownsRow base 2 1 v' (k + 1) (xs ++ [x0]) -> w.grownBy w' v.ownBlock -> wpList Tryz.prog ops Q rest (a.put o.dst v') w') :
 wpList Tryz.prog ops Q (o :: rest) a w := by
 obtain ⟨i0, hi, hz0, hz1, hz2⟩ := info_parts Tryz.info2
 exact wpList_append_own w hg s x _ hop base _ i0 _ 1 8 Tryz.underlying44 hi hz0 hz1 hz2 rfl (by decide) v k xs hs hown ad 1 c [x0] hx rfl (one_cell hc) (by simpa using h1c) (by unfold maxLen; omega) (by omega) hb (fun v' w' h1 h2 _ => hK v' w' h1 h2)
theorem own_other {w : World} {base size n k : Nat} {e T : TypeId} {v : Value} {xs : List Value} {cs : Array Value} {q : Nat × Nat} (h : w.ownsRow base e size v n xs) (hr : w.heap[k]? = some (.cells cs T q)) (hT : T ≠ e) : some k ≠ v.ownBlock := fun he => by
 rcases h.2 with ⟨rfl, _⟩ | ⟨g, c, cur, rfl, _, hg, _⟩
 · cases he
 · simp [Value.ownBlock] at he
   rw [<- he, hr] at hg
   simp at hg
   exact hT hg.2.1
theorem CP.grow {w W W' : World} {cs ps : Array Value} {base size n : Nat} {v : Value} {xs : List Value} (h : CP w W cs ps) (ho : W.ownsRow base 2 size v n xs) (hb : w.heap.size <= base) (hg : W.grownBy W' v.ownBlock) : CP w W' cs ps := by
 refine ⟨h.1.grown hg h.1.size (fun j e => ?_), grown_row hg h.2.1 (own_other ho h.2.1 (by decide)), grown_row hg h.2.2 (own_other ho h.2.2 (by decide))⟩
 rcases ho.2 with ⟨rfl, _⟩ | ⟨g, c, cur, rfl, hl, _⟩
 · cases e
 · simp [Value.ownBlock] at e
   omega
theorem CP.alloc {w W : World} {cs ps : Array Value} (h : CP w W cs ps) (o : Obj) : CP w (W.alloc o) cs ps := h.below ((Below.refl _ _).alloc (Nat.le_refl _) _)
theorem CP.drew {w W : World} {cs ps : Array Value} (h : CP w W cs ps) : CP w W.drew cs ps := h.below (Below.refl _ _).drew
theorem CP.big {w W : World} {cs ps : Array Value} (h : CP w W cs ps) : w.heap.size + 1 < W.heap.size := row_lt h.2.2
theorem CP.set {w W : World} {cs ps : Array Value} (h : CP w W cs ps) {k i : Nat} {v : Value} (hk : w.heap.size + 1 < k) : CP w (W.setCell ⟨k, i, none⟩ v) cs ps :=
 ⟨h.1.setCell (by simp; omega) _, by rw [heap_setCell_other _ _ _ _ (by simp; omega)]; exact h.2.1, by rw [heap_setCell_other _ _ _ _ (by simp; omega)]; exact h.2.2⟩
theorem own_begin (w1 : World) : (w1.alloc (.cells #[] 2)).ownsRow w1.heap.size 2 1 (.slice (some ⟨w1.heap.size, 0, none⟩) 0 0) 0 (([] : List Int).map (Value.int .i64)) :=
 ⟨rfl, .inr ⟨w1.heap.size, 0, #[], rfl, Nat.le_refl _, heap_alloc_new _ _, Nat.le_refl _, by unfold maxLen; omega, rfl, rfl⟩⟩
def Tw (tw : Bool) (l : List Int) : Prop := tw = true ↔ ¬ l.Nodup
theorem Tw.nil : Tw false [] := by simp [Tw]
theorem Tw.step {tw : Bool} {l : List Int} (h : Tw tw l) (x : Int) : Tw (tw || decide (x ∈ l)) (l ++ [x]) := by
 unfold Tw at *
 rw [nodup_snoc]
 cases tw
 · have : l.Nodup := by
    by_cases hn : l.Nodup
    · exact hn
    · exact absurd (h.2 hn) (by simp)
   simp [this]
 · have := h.1 rfl
   simp [this]
def TwL (tw : Bool) (fl L : List Int) (j : Nat) : Prop := tw = true ↔ ¬ (fl.Nodup /\ ∀ i, i < j -> L.getD i 0 ∉ fl)
theorem TwL.start {tw : Bool} {fl : List Int} (h : Tw tw fl) (L : List Int) : TwL tw fl L 0 := by
 unfold TwL
 unfold Tw at h
 rw [h]
 constructor
 · intro h1 h2; exact h1 h2.1
 · intro h1 h2; exact h1 ⟨h2, fun i hi => by omega⟩
theorem TwL.step {tw : Bool} {fl L : List Int} {j : Nat} (h : TwL tw fl L j) : TwL (tw || decide (L.getD j 0 ∈ fl)) fl L (j + 1) := by
 unfold TwL at *
 cases tw
 · have h0 : fl.Nodup /\ ∀ i, i < j -> L.getD i 0 ∉ fl := by
    by_cases hn : fl.Nodup /\ ∀ i, i < j -> L.getD i 0 ∉ fl
    · exact hn
    · exact absurd (h.2 hn) (by simp)
   by_cases hm : L.getD j 0 ∈ fl
   · rw [decide_eq_true hm]
     exact ⟨fun _ hx => hx.2 j (by omega) hm, fun _ => rfl⟩
   · rw [decide_eq_false hm]
     refine ⟨fun h => (by cases h), fun hx => absurd ⟨h0.1, fun i hi => ?_⟩ hx⟩
     by_cases e : i = j
     · rw [e]; exact hm
     · exact h0.2 i (by omega)
 · have := h.1 rfl
   exact ⟨fun _ hx => this ⟨hx.1, fun i hi => hx.2 i (by omega)⟩, fun _ => rfl⟩
theorem TwL.done {tw : Bool} {fl L : List Int} (h : TwL tw fl L L.length) : tw = true ↔ ¬ Once fl L := by
 unfold TwL at h
 rw [h]
 unfold Once
 constructor
 · intro h1 h2
   exact h1 ⟨h2.1, fun i hi => h2.2 _ (by rw [List.getD_eq_getElem?_getD, List.getElem?_eq_getElem hi]; simp)⟩
 · intro h1 h2
   refine h1 ⟨h2.1, fun x hx => ?_⟩
   obtain ⟨j, hj, e⟩ := List.getElem_of_mem hx
   have := h2.2 j hj
   rw [List.getD_eq_getElem?_getD, List.getElem?_eq_getElem hj] at this
   rw [<- e]
   exact this
set_option maxRecDepth 10000 in
set_option maxHeartbeats 4000000 in
theorem specPlan_any (n fine : Int) (a ao av ra la : Option Addr) (cap ko co kv cv rc lc : Nat) (zs os vs L : List Int) (R : List RT) (w : World) (hA : IntsAt w a zs) (hO : IntsAt w ao os) (hV : IntsAt w av vs) (hR : RoutesAt w ra R) (hL : IntsAt w la L) (hlo : os.length = ko * 6) (hlv : vs.length = kv * 5) (hko : ko <= 9223372036854775807) (hkv : kv <= 9223372036854775807) (hn : R.length <= 1048576) (hi : ∀ r ∈ R, r.ids.length <= 1048576) (hrc : ∀ r ∈ R, r.ids.length <= r.c) (hll : L.length <= 1048576) (hal : (allTo R R.length).length <= 1048576) :
 Calls Tryz.prog 78 #[.agg #[.int .i64 n, .slice a zs.length cap, .slice ao ko co, .slice av kv cv, .int .i64 fine], .agg #[.slice ra R.length rc, .slice la L.length lc]] w fun e w' => e = .returned (.int .i64 (planV n zs os vs ko kv fine R L)) /\ Below w.heap.size w w' := by
 have HA : Hid (IntsAt w a zs) := hA
 have HO : Hid (IntsAt w ao os) := hO
 have HV : Hid (IntsAt w av vs) := hV
 have HR : Hid (RoutesAt w ra R) := hR
 have HL : Hid (IntsAt w la L) := hL
 have HLO : Hid _ := hlo
 have HLV : Hid _ := hlv
 have HAL : Hid _ := hal
 have HI : Hid (∀ r ∈ R, r.ids.length <= 1048576) := hi
 have HRC : Hid (∀ r ∈ R, r.ids.length <= r.c) := hrc
 clear hA hO hV hR hL hlo hlv hi hrc hal
 obtain ⟨v, HVAL⟩ := nmd (planV n zs os vs ko kv fine R L)
 rw [HVAL.out]
 obtain ⟨m, HN⟩ := nmd R.length
 obtain ⟨ml, HM⟩ := nmd L.length
 rw [HN.out] at hn ⊢
 rw [HM.out] at hll ⊢
 have C0 : Hid (CP w ((w.alloc (.cells #[.int .i64 n, .slice a zs.length cap, .slice ao ko co, .slice av kv cv, .int .i64 fine] 78)).alloc (.cells #[.slice ra m rc, .slice la ml lc] 46)) _ _) := CP.new w _ _
 obtain ⟨c0, c1, c2, c3, c4⟩ := cells5 C0.2.1
 go_enter Tryz.func78, Tryz.ntmps78
 go_wp2_with fail
 clear c0 c1 c2 c3 c4
 generalize (w.alloc (.cells #[.int .i64 n, .slice a zs.length cap, .slice ao ko co, .slice av kv cv, .int .i64 fine] 78)).alloc (.cells #[.slice ra m rc, .slice la ml lc] 46) = W0 at *
 refine (specCase_any n fine a ao av cap ko co kv cv zs os vs W0 (HA.below C0.1) (HO.below C0.1) (HV.below C0.1) HLO.out HLV.out hko hkv).mono ?_
 rintro e w1 ⟨rfl, hb⟩
 have C1 : Hid (CP w w1 #[.int .i64 n, .slice a zs.length cap, .slice ao ko co, .slice av kv cv, .int .i64 fine] #[.slice ra m rc, .slice la ml lc]) := C0.below hb
 clear hb C0
 by_cases hc2 : caseB n zs os vs ko kv fine = false
 · have HE : Hid (v = 1) := HVAL.symm.trans (planV_1 hc2)
   rw [hc2]
   clear hc2
   go_wp2
   go_ret
   exact ⟨by rw [HE.out]; rfl, C1.1⟩
 have hcc : caseB n zs os vs ko kv fine = true := by simpa using hc2
 have HC : Hid (caseB n zs os vs ko kv fine = true) := hcc
 rw [HC.out]
 clear hc2 hcc
 have HBASE : Hid (w.heap.size <= w1.heap.size) := C1.1.size
 have O0 : Hid ((w1.alloc (.cells #[] 2)).ownsRow w1.heap.size 2 1 (.slice (some ⟨w1.heap.size, 0, none⟩) 0 0) 0 (([] : List Int).map (Value.int .i64))) := own_begin w1
 have C2 : Hid (CP w (w1.alloc (.cells #[] 2)) #[.int .i64 n, .slice a zs.length cap, .slice ao ko co, .slice av kv cv, .int .i64 fine] #[.slice ra m rc, .slice la ml lc]) := C1.below ((Below.refl _ _).alloc (Nat.le_refl _) _)
 have HSZ : Hid (w1.heap.size <= (w1.alloc (.cells #[] 2)).heap.size) := by show _ <= _; simp
 go_wp2_with fail
 generalize hZ : w1.alloc (.cells #[] 2) = W2 at *
 generalize w1.heap.size = base at *
 clear hZ C1
 go_loopw [5, 6, 7] (fun ts tt ti wr => ∃ (k : Nat) (tw : Bool), k <= m /\ ti = .int .i64 k /\ tt = .bool tw /\ Tw tw (allTo R k) /\ RtsOk n zs os vs ko kv R k /\ wr.ownsRow base 2 1 ts (allTo R k).length ((allTo R k).map (Value.int .i64)) /\ CP w wr #[.int .i64 n, .slice a zs.length cap, .slice ao ko co, .slice av kv cv, .int .i64 fine] #[.slice ra m rc, .slice la ml lc] /\ base <= wr.heap.size) (fun _ _ ti _ => m - (intOf ti).toNat)
 case atStart => exact ⟨0, false, Nat.zero_le _, rfl, rfl, by rw [allTo_zero]; exact Tw.nil, RtsOk.zero _ _ _ _ _ _ _, by rw [allTo_zero]; exact O0.out, C2.out, HSZ.out⟩
 case round =>
  clear C2 O0 HSZ
  obtain ⟨k, tw, hk, rfl, rfl, htw, hok, hown, hcp, hsz⟩ := hrel
  have TW : Hid (Tw tw (allTo R k)) := htw
  have OK : Hid (RtsOk n zs os vs ko kv R k) := hok
  have OW : Hid (wr.ownsRow base 2 1 u5 (allTo R k).length ((allTo R k).map (Value.int .i64))) := hown
  have CW : Hid (CP w wr #[.int .i64 n, .slice a zs.length cap, .slice ao ko co, .slice av kv cv, .int .i64 fine] #[.slice ra m rc, .slice la ml lc]) := hcp
  have SZ : Hid (base <= wr.heap.size) := hsz
  clear htw hok hown hcp hsz
  by_cases hlt : k < m
  · have hkl : k < R.length := by rw [HN.out]; exact hlt
    have hmem : R.getD k rt0 ∈ R := by rw [List.getD_eq_getElem?_getD, List.getElem?_eq_getElem hkl]; simp
    have hRW := HR.below CW.1
    obtain ⟨b, off, rfl, h1, h2, h3⟩ := hRW k hkl
    have iw : IntsAt w (R.getD k rt0).a (R.getD k rt0).ids := by obtain ⟨_, _, _, _, _, i⟩ := HR.out k hkl; exact i
    have hml := HI.out _ hmem
    have HRCL : Hid _ := HRC.out _ hmem
    have HNIL : Hid ((R.getD k rt0).ids.length = 0 -> v = 2) := fun h => HVAL.symm.trans (planV_2 HC.out (HN.out ▸ fun H => (H k hlt).2.1 (List.eq_nil_of_length_eq_zero h)))
    have HCOD : Hid (codeV true n zs os vs ko kv (R.getD k rt0).v (R.getD k rt0).ids ≠ 0 -> v = 2) := fun h => HVAL.symm.trans (planV_2 HC.out (HN.out ▸ fun H => h (H k hlt).2.2))
    have HLOW : Hid (0 < k -> ¬ (R.getD (k - 1) rt0).v < (R.getD k rt0).v -> v = 2) := fun h0 h => HVAL.symm.trans (planV_2 HC.out (HN.out ▸ fun H => h ((H k hlt).1 h0)))
    have HSTEP : Hid ((0 < k -> (R.getD (k - 1) rt0).v < (R.getD k rt0).v) -> ¬ (R.getD k rt0).ids.length = 0 -> codeV true n zs os vs ko kv (R.getD k rt0).v (R.getD k rt0).ids = 0 -> RtsOk n zs os vs ko kv R (k + 1)) := fun h1 h2 h3 => OK.step h1 (fun e => h2 (by rw [e]; rfl)) h3
    have HALLS : Hid (allTo R (k + 1) = allTo R k ++ (R.getD k rt0).ids) := allTo_succ hkl
    have HPART : Hid (∀ j, j <= (R.getD k rt0).ids.length -> (allTo R k ++ (R.getD k rt0).ids.take j).length <= 1048576) := fun j hj => Nat.le_trans (allTo_take hkl hj) HAL.out
    obtain ⟨r, HRT⟩ := nmd (R.getD k rt0)
    rw [HRT.out] at h1 h2 h3 iw hml HRCL HNIL HCOD HLOW HSTEP HALLS HPART
    have hpv : 0 < k -> ∃ p, (R.getD (k - 1) rt0).v = p /\ wr.cell? ⟨b, off + (k - 1) * 2, none⟩ = some (.int .i64 p) := fun h0 => by
     obtain ⟨b', off', e, h1', _, _⟩ := hRW (k - 1) (by omega)
     simp at e
     obtain ⟨rfl, rfl⟩ := e
     exact ⟨_, rfl, h1'⟩
    have HPV : Hid _ := hpv
    obtain ⟨ra0, HRA⟩ := nmd r.a
    rw [HRA.out] at h2 h3 iw
    have IR : Hid (IntsAt wr ra0 r.ids) := h3
    have IW : Hid (IntsAt w ra0 r.ids) := iw
    clear h3 iw hmem hRW hpv hkl
    obtain ⟨q, HQ⟩ := nmd r.ids.length
    rw [HQ.out] at h2 hml HRCL HNIL HSTEP HPART
    obtain ⟨d0, d1⟩ := cells2 CW.2.2
    go_wp2_with fail
    clear d0 d1
    have BX : Hid (Below wr.heap.size wr (wr.alloc (.cells #[Value.int .i64 r.v, Value.slice ra0 q r.c] 134))) := (Below.refl _ _).alloc (Nat.le_refl _) _
    have GX : Hid ((wr.alloc (.cells #[Value.int .i64 r.v, Value.slice ra0 q r.c] 134)).heap[wr.heap.size]? = _) := heap_alloc_new _ _
    generalize (wr.alloc (.cells #[Value.int .i64 r.v, Value.slice ra0 q r.c] 134)) = W1 at *
    have CX : Hid (CP w W1 #[.int .i64 n, .slice a zs.length cap, .slice ao ko co, .slice av kv cv, .int .i64 fine] #[.slice (some ⟨b, off, none⟩) m rc, .slice la ml lc]) := CW.below BX.out
    have IX : Hid (IntsAt W1 ra0 r.ids) := IR.below BX.out
    have OX1 : Hid (W1.ownsRow base 2 1 u5 (allTo R k).length ((allTo R k).map (Value.int .i64))) := owns_below OW.out BX.out
    have SX : Hid (base <= W1.heap.size) := Nat.le_trans SZ.out BX.size
    have HPX : Hid (0 < k -> ∃ p, (R.getD (k - 1) rt0).v = p /\ W1.cell? ⟨b, off + (k - 1) * 2, none⟩ = some (.int .i64 p)) := fun h0 => by
     obtain ⟨p, e, hc⟩ := HPV.out h0
     exact ⟨p, e, (BX.cell (p := ⟨b, off + (k - 1) * 2, none⟩) (block_lt_of_cell hc)).trans hc⟩
    generalize wr.heap.size = g8 at *
    clear h1 h2 CW IR OW SZ HPV BX
    obtain ⟨c0, c1, c2, c3, c4⟩ := cells5 CX.2.1
    obtain ⟨d0, d1⟩ := cells2 CX.2.2
    obtain ⟨x0, x1⟩ := cells2 GX.out
    have s0 := fun s : Kin W1 => s.cell c0
    have s1 := fun s : Kin W1 => s.cell c1
    have s2 := fun s : Kin W1 => s.cell c2
    have s3 := fun s : Kin W1 => s.cell c3
    have s4 := fun s : Kin W1 => s.cell c4
    have t0 := fun s : Kin W1 => s.cell d0
    have y0 := fun s : Kin W1 => s.cell x0
    have y1 := fun s : Kin W1 => s.cell x1
    clear c0 c1 c2 c3 c4 d0 d1 x0 x1
    have HOKC : Hid (∀ (s : Kin W1) (vb : Bool), decide (codeV true n zs os vs ko kv r.v r.ids = 0) = vb -> Calls Tryz.prog 122 #[.agg #[.int .i64 n, .slice a zs.length cap, .slice ao ko co, .slice av kv cv, .int .i64 fine], .agg #[.int .i64 r.v, .slice ra0 q r.c]] s.w fun e w' => e = .returned (.bool vb) /\ ∃ s' : Kin W1, w' = s'.w) := fun s vb hvb => by
     have := l3Ok_any n fine r.v a ao av ra0 cap ko co kv cv r.c zs os vs r.ids s.w ((HA.below CX.1).below s.below) ((HO.below CX.1).below s.below) ((HV.below CX.1).below s.below) (IX.below s.below) HLO.out HLV.out hko hkv (by rw [HQ.out]; omega) (by rw [HQ.out]; exact HRCL.out) vb (by rw [HC.out]; exact hvb)
     rw [HQ.out] at this
     exact Kin.call this
    have hkin := Kin.there W1
    have HGO : Hid ((0 < k -> (R.getD (k - 1) rt0).v < r.v) ∨ (0 < k /\ ¬ (R.getD (k - 1) rt0).v < r.v)) := by
     show _ ∨ _
     by_cases h0 : 0 < k
     · by_cases h : (R.getD (k - 1) rt0).v < r.v
       · exact .inl fun _ => h
       · exact .inr ⟨h0, h⟩
     · exact .inl fun h => absurd h h0
    by_cases hk0 : 0 < k
    · obtain ⟨p, hpe, hpc⟩ := HPX.out hk0
      have HPE : Hid ((R.getD (k - 1) rt0).v = p) := hpe
      have tp := fun s : Kin W1 => s.cell hpc
      have hkm : k - 1 < m := by omega
      have hw1 : IntKind.i64.wrap ((k : Int) - 1) = ((k - 1 : Nat) : Int) := by rw [IntKind.wrap_i64]; omega
      clear hpe hpc
      by_cases hp : p < r.v
      · have hpd : decide (r.v <= p) = false := by simp; omega
        by_cases hq : q = 0
        · have HE : Hid (v = 2) := HNIL.out hq
          have hq1 : ((q : Int) == 0) = true := by simp [hq]
          refine wp_region_kin (by kernel_rfl) (by kernel_rfl) ?_
          repeat (go_big_quiet_step (fail))
          refine wpQuiet_nil ?_
          rintro _ ⟨s, rfl⟩
          have C3 : Hid (CP w s.w #[.int .i64 n, .slice a zs.length cap, .slice ao ko co, .slice av kv cv, .int .i64 fine] #[.slice (some ⟨b, off, none⟩) m rc, .slice la ml lc]) := CX.below s.below
          generalize s.w = w3 at *
          go_wp2
          go_ret
          exact ⟨by rw [HE.out]; rfl, C3.1⟩
        · have hq1 : ((q : Int) == 0) = false := by simp; omega
          obtain ⟨b2, off2, rfl, -⟩ := IW.out 0 (by rw [HQ.out]; omega)
          by_cases hcode : ¬ codeV true n zs os vs ko kv r.v r.ids = 0
          · have HE : Hid (v = 2) := HCOD.out hcode
            have HCN : Hid _ := hcode
            clear hcode
            refine wp_region_kin (by kernel_rfl) (by kernel_rfl) ?_
            repeat (go_big_quiet_step ((go_at_call 122; exact HOKC.out _ _ (decide_eq_false HCN.out))))
            refine wpQuiet_nil ?_
            rintro _ ⟨s, rfl⟩
            have C3 : Hid (CP w s.w #[.int .i64 n, .slice a zs.length cap, .slice ao ko co, .slice av kv cv, .int .i64 fine] #[.slice (some ⟨b, off, none⟩) m rc, .slice la ml lc]) := CX.below s.below
            generalize s.w = w3 at *
            go_wp2
            go_ret
            exact ⟨by rw [HE.out]; rfl, C3.1⟩
          · have hcode := Decidable.not_not.1 hcode
            have OK1 : Hid (RtsOk n zs os vs ko kv R (k + 1)) := HSTEP.out (fun _ => by rw [HPE.out]; exact hp) hq hcode
            have HCN : Hid _ := hcode
            clear hcode
            refine wp_region_kin (by kernel_rfl) (by kernel_rfl) ?_
            repeat (go_big_quiet_step ((go_at_call 122; exact HOKC.out _ _ (decide_eq_true HCN.out))))
            refine wpQuiet_nil ?_
            rintro _ ⟨s, rfl⟩
            have C3 : Hid (CP w s.w #[.int .i64 n, .slice a zs.length cap, .slice ao ko co, .slice av kv cv, .int .i64 fine] #[.slice (some ⟨b, off, none⟩) m rc, .slice la ml lc]) := CX.below s.below
            have G3 : Hid (s.w.heap[g8]? = some (.cells #[Value.int .i64 r.v, Value.slice (some ⟨b2, off2, none⟩) q r.c] 134 (0, 0))) := below_row s.below (row_lt GX.out) GX.out
            have I3 : Hid (IntsAt s.w (some ⟨b2, off2, none⟩) r.ids) := IX.below s.below
            have O3 : Hid (s.w.ownsRow base 2 1 u5 (allTo R k).length ((allTo R k).map (Value.int .i64))) := owns_below OX1.out s.below
            have Z3 : Hid (base <= s.w.heap.size) := Nat.le_trans SX.out s.below.size
            generalize s.w = w3 at *
            clear s0 s1 s2 s3 s4 t0 y0 y1 CX GX IX OX1 SX HOKC hkin HSTEP HNIL HCOD HLOW HRCL HPX hq hq1 hcode HCN HGO OK I3
            clear tp hkm hw1 hp hpd hk0 HPE
            go_wp2_with fail
            go_loopw [5, 6, 9] (fun ts tt ti wr => ∃ (j : Nat) (tw : Bool), j <= q /\ ti = .int .i64 j /\ tt = .bool tw /\ Tw tw (allTo R k ++ r.ids.take j) /\ wr.ownsRow base 2 1 ts (allTo R k ++ r.ids.take j).length ((allTo R k ++ r.ids.take j).map (Value.int .i64)) /\ CP w wr #[.int .i64 n, .slice a zs.length cap, .slice ao ko co, .slice av kv cv, .int .i64 fine] #[.slice (some ⟨b, off, none⟩) m rc, .slice la ml lc] /\ base <= wr.heap.size /\ wr.heap[g8]? = some (.cells #[Value.int .i64 r.v, Value.slice (some ⟨b2, off2, none⟩) q r.c] 134 (0, 0))) (fun _ _ ti _ => q - (intOf ti).toNat)
            case atStart => exact ⟨0, tw, Nat.zero_le _, rfl, rfl, by rw [List.take_zero, List.append_nil]; exact TW.out, by rw [List.take_zero, List.append_nil]; exact O3.out, C3.out, Z3.out, G3.out⟩
            case round =>
             clear C3 O3 Z3 G3 TW
             obtain ⟨j, tw2, hj, rfl, rfl, htw, hown, hcp, hsz, hg8⟩ := hrel
             have SZ2 : Hid (base <= wr.heap.size) := hsz
             have CW2 : Hid (CP w wr #[.int .i64 n, .slice a zs.length cap, .slice ao ko co, .slice av kv cv, .int .i64 fine] #[.slice (some ⟨b, off, none⟩) m rc, .slice la ml lc]) := hcp
             have G82 : Hid (wr.heap[g8]? = _) := hg8
             have HFLN : Hid ((allTo R k ++ r.ids.take j).length <= 1048576) := HPART.out j hj
             by_cases hjq : j < q
             · have hjl : j < r.ids.length := by rw [HQ.out]; exact hjq
               have HSN : Hid (allTo R k ++ r.ids.take (j + 1) = (allTo R k ++ r.ids.take j) ++ [r.ids.getD j 0]) := by show _ = _; rw [take_snoc _ _ hjl, List.append_assoc]
               obtain ⟨fl, HFL⟩ := nmd (allTo R k ++ r.ids.take j)
               obtain ⟨id, HID⟩ := nmd (r.ids.getD j 0)
               rw [HID.out] at HSN
               have hcc := ints_cell (IW.below hcp.1) hjl HID.out
               rw [HFL.out] at htw hown HFLN HSN
               have TW2 : Hid (Tw tw2 fl) := htw
               obtain ⟨sa, sc, rfl, hxl, hsI⟩ := owns_at1 hown
               have OW2 : Hid (wr.ownsRow base 2 1 (.slice sa fl.length sc) fl.length (fl.map (Value.int .i64))) := hown
               have SI : Hid (IntsAt wr sa fl) := hsI
               have hfl : fl.length <= 1048576 := HFLN.out
               have HHAS : Hid (hasTo fl fl.length id = decide (id ∈ fl)) := hasTo_mem fl id
               clear htw hown hcp hsz hg8 hsI hxl hjl HFLN
               obtain ⟨bb, HBB⟩ := nmd (decide (id ∈ fl))
               rw [HBB.out] at HHAS
               have HTN : Hid (Tw (tw2 || bb) (allTo R k ++ r.ids.take (j + 1))) := by
                have := TW2.step id
                rw [HBB.out] at this
                rw [HSN.out]
                exact this
               obtain ⟨nf, HNF⟩ := nmd fl.length
               have HCALL := l3Has_is sa fl.length sc id fl wr bb HHAS.out SI.out (Nat.le_refl _) (by omega)
               rw [HNF.out] at hfl OW2 HCALL ⊢
               obtain ⟨x0, x1⟩ := cells2 G82.out
               cases tw2
               · go_wp2_with (first
                  | (go_at_call 123; refine HCALL.mono ?_; rintro e w' ⟨rfl, rfl⟩)
                  | (at_builtin; refine append_int20 _ rfl _ _ rfl base (.slice sa nf sc) nf _ rfl (OW2.alloc _) _ _ (.int .i64 id) rfl (cell_new1 _ _ _ _ (by simp)) rfl (by omega) (Nat.le_trans SZ2.out (by simp)) ?_; intro v' w4 hown4 hgrow4)
                  | go_in)
                 have CA : Hid (CP w _ #[.int .i64 n, .slice a zs.length cap, .slice ao ko co, .slice av kv cv, .int .i64 fine] #[.slice (some ⟨b, off, none⟩) m rc, .slice la ml lc]) := CW2.below ((Below.refl _ _).alloc (Nat.le_refl _) (.cells #[Value.int .i64 id] 2))
                 have GA : Hid _ := below_row ((Below.refl _ _).alloc (Nat.le_refl _) (.cells #[Value.int .i64 id] 2)) (row_lt G82.out) G82.out
                 have CB : Hid (CP w w4 #[.int .i64 n, .slice a zs.length cap, .slice ao ko co, .slice av kv cv, .int .i64 fine] #[.slice (some ⟨b, off, none⟩) m rc, .slice la ml lc]) := CA.grow (OW2.alloc _) HBASE.out hgrow4
                 have GB : Hid (w4.heap[g8]? = _) := grown_row hgrow4 GA.out (own_other (OW2.alloc _) GA.out (by decide))
                 have ZB : Hid (base <= w4.heap.size) := by
                  have h1 := hgrow4.size
                  have h2 := SZ2.out
                  simp at h1
                  show _ <= _
                  omega
                 have OB : Hid (w4.ownsRow base 2 1 v' (allTo R k ++ r.ids.take (j + 1)).length ((allTo R k ++ r.ids.take (j + 1)).map (Value.int .i64))) := by
                  rw [HSN.out, List.length_append, List.map_append, HNF.out]
                  exact hown4
                 clear CA GA
                 go_roundw
                 case rel => exact ⟨j + 1, _, by omega, by go_num, rfl, HTN.out, OB.out, CB.out, ZB.out, GB.out⟩
                 case measure => simp [intOf]; omega
               · go_wp2_with (first
                  | (at_builtin; refine append_int20 _ rfl _ _ rfl base (.slice sa nf sc) nf _ rfl (OW2.alloc _) _ _ (.int .i64 id) rfl (cell_new1 _ _ _ _ (by simp)) rfl (by omega) (Nat.le_trans SZ2.out (by simp)) ?_; intro v' w4 hown4 hgrow4)
                  | go_in)
                 have CA : Hid (CP w _ #[.int .i64 n, .slice a zs.length cap, .slice ao ko co, .slice av kv cv, .int .i64 fine] #[.slice (some ⟨b, off, none⟩) m rc, .slice la ml lc]) := CW2.below ((Below.refl _ _).alloc (Nat.le_refl _) (.cells #[Value.int .i64 id] 2))
                 have GA : Hid _ := below_row ((Below.refl _ _).alloc (Nat.le_refl _) (.cells #[Value.int .i64 id] 2)) (row_lt G82.out) G82.out
                 have CB : Hid (CP w w4 #[.int .i64 n, .slice a zs.length cap, .slice ao ko co, .slice av kv cv, .int .i64 fine] #[.slice (some ⟨b, off, none⟩) m rc, .slice la ml lc]) := CA.grow (OW2.alloc _) HBASE.out hgrow4
                 have GB : Hid (w4.heap[g8]? = _) := grown_row hgrow4 GA.out (own_other (OW2.alloc _) GA.out (by decide))
                 have ZB : Hid (base <= w4.heap.size) := by
                  have h1 := hgrow4.size
                  have h2 := SZ2.out
                  simp at h1
                  show _ <= _
                  omega
                 have OB : Hid (w4.ownsRow base 2 1 v' (allTo R k ++ r.ids.take (j + 1)).length ((allTo R k ++ r.ids.take (j + 1)).map (Value.int .i64))) := by
                  rw [HSN.out, List.length_append, List.map_append, HNF.out]
                  exact hown4
                 clear CA GA
                 go_roundw
                 case rel => exact ⟨j + 1, _, by omega, by go_num, rfl, HTN.out, OB.out, CB.out, ZB.out, GB.out⟩
                 case measure => simp [intOf]; omega
             · have hjq2 : j = q := by omega
               have HA2 : Hid (allTo R k ++ r.ids.take j = allTo R (k + 1)) := by
                show _ = _
                rw [HALLS.out, hjq2, <- HQ.out, List.take_length]
               rw [HA2.out] at htw hown
               have TW3 : Hid (Tw tw2 (allTo R (k + 1))) := htw
               have OW3 : Hid (wr.ownsRow base 2 1 u5 (allTo R (k + 1)).length ((allTo R (k + 1)).map (Value.int .i64))) := hown
               obtain ⟨x0, x1⟩ := cells2 G82.out
               clear hjq2 htw hown hcp hsz hg8
               go_wp2
               first
                | exact ⟨⟨k + 1, tw2, by omega, by go_num, rfl, TW3.out, OK1.out, OW3.out, CW2.out, SZ2.out⟩, by simp [intOf]; omega⟩
                | (go_roundw
                   case rel => exact ⟨k + 1, tw2, by omega, by go_num, rfl, TW3.out, OK1.out, OW3.out, CW2.out, SZ2.out⟩
                   case measure => simp [intOf]; omega)
      · have HE : Hid (v = 2) := HLOW.out hk0 (by rw [HPE.out]; first | exact hp | omega)
        have hpd : decide (r.v <= p) = true := by simp; omega
        refine wp_region_kin (by kernel_rfl) (by kernel_rfl) ?_
        repeat (go_big_quiet_step (fail))
        refine wpQuiet_nil ?_
        rintro _ ⟨s, rfl⟩
        have C3 : Hid (CP w s.w #[.int .i64 n, .slice a zs.length cap, .slice ao ko co, .slice av kv cv, .int .i64 fine] #[.slice (some ⟨b, off, none⟩) m rc, .slice la ml lc]) := CX.below s.below
        generalize s.w = w3 at *
        go_wp2
        go_ret
        exact ⟨by rw [HE.out]; rfl, C3.1⟩
    · have hkz : (decide (0 < k)) = false := by simp; omega
      have hk1 : k <= 0 := by omega
      by_cases hq : q = 0
      · have HE : Hid (v = 2) := HNIL.out hq
        have hq1 : ((q : Int) == 0) = true := by simp [hq]
        refine wp_region_kin (by kernel_rfl) (by kernel_rfl) ?_
        repeat (go_big_quiet_step (fail))
        refine wpQuiet_nil ?_
        rintro _ ⟨s, rfl⟩
        have C3 : Hid (CP w s.w #[.int .i64 n, .slice a zs.length cap, .slice ao ko co, .slice av kv cv, .int .i64 fine] #[.slice (some ⟨b, off, none⟩) m rc, .slice la ml lc]) := CX.below s.below
        generalize s.w = w3 at *
        go_wp2
        go_ret
        exact ⟨by rw [HE.out]; rfl, C3.1⟩
      · have hq1 : ((q : Int) == 0) = false := by simp; omega
        obtain ⟨b2, off2, rfl, -⟩ := IW.out 0 (by rw [HQ.out]; omega)
        by_cases hcode : ¬ codeV true n zs os vs ko kv r.v r.ids = 0
        · have HE : Hid (v = 2) := HCOD.out hcode
          have HCN : Hid _ := hcode
          clear hcode
          refine wp_region_kin (by kernel_rfl) (by kernel_rfl) ?_
          repeat (go_big_quiet_step ((go_at_call 122; exact HOKC.out _ _ (decide_eq_false HCN.out))))
          refine wpQuiet_nil ?_
          rintro _ ⟨s, rfl⟩
          have C3 : Hid (CP w s.w #[.int .i64 n, .slice a zs.length cap, .slice ao ko co, .slice av kv cv, .int .i64 fine] #[.slice (some ⟨b, off, none⟩) m rc, .slice la ml lc]) := CX.below s.below
          generalize s.w = w3 at *
          go_wp2
          go_ret
          exact ⟨by rw [HE.out]; rfl, C3.1⟩
        · have hcode := Decidable.not_not.1 hcode
          have OK1 : Hid (RtsOk n zs os vs ko kv R (k + 1)) := HSTEP.out (fun h => absurd h hk0) hq hcode
          have HCN : Hid _ := hcode
          clear hcode
          refine wp_region_kin (by kernel_rfl) (by kernel_rfl) ?_
          repeat (go_big_quiet_step ((go_at_call 122; exact HOKC.out _ _ (decide_eq_true HCN.out))))
          refine wpQuiet_nil ?_
          rintro _ ⟨s, rfl⟩
          have C3 : Hid (CP w s.w #[.int .i64 n, .slice a zs.length cap, .slice ao ko co, .slice av kv cv, .int .i64 fine] #[.slice (some ⟨b, off, none⟩) m rc, .slice la ml lc]) := CX.below s.below
          have G3 : Hid (s.w.heap[g8]? = some (.cells #[Value.int .i64 r.v, Value.slice (some ⟨b2, off2, none⟩) q r.c] 134 (0, 0))) := below_row s.below (row_lt GX.out) GX.out
          have I3 : Hid (IntsAt s.w (some ⟨b2, off2, none⟩) r.ids) := IX.below s.below
          have O3 : Hid (s.w.ownsRow base 2 1 u5 (allTo R k).length ((allTo R k).map (Value.int .i64))) := owns_below OX1.out s.below
          have Z3 : Hid (base <= s.w.heap.size) := Nat.le_trans SX.out s.below.size
          generalize s.w = w3 at *
          clear s0 s1 s2 s3 s4 t0 y0 y1 CX GX IX OX1 SX HOKC hkin HSTEP HNIL HCOD HLOW HRCL HPX hq hq1 hcode HCN HGO OK I3
          clear hkz hk1 hk0
          go_wp2_with fail
          go_loopw [5, 6, 9] (fun ts tt ti wr => ∃ (j : Nat) (tw : Bool), j <= q /\ ti = .int .i64 j /\ tt = .bool tw /\ Tw tw (allTo R k ++ r.ids.take j) /\ wr.ownsRow base 2 1 ts (allTo R k ++ r.ids.take j).length ((allTo R k ++ r.ids.take j).map (Value.int .i64)) /\ CP w wr #[.int .i64 n, .slice a zs.length cap, .slice ao ko co, .slice av kv cv, .int .i64 fine] #[.slice (some ⟨b, off, none⟩) m rc, .slice la ml lc] /\ base <= wr.heap.size /\ wr.heap[g8]? = some (.cells #[Value.int .i64 r.v, Value.slice (some ⟨b2, off2, none⟩) q r.c] 134 (0, 0))) (fun _ _ ti _ => q - (intOf ti).toNat)
          case atStart => exact ⟨0, tw, Nat.zero_le _, rfl, rfl, by rw [List.take_zero, List.append_nil]; exact TW.out, by rw [List.take_zero, List.append_nil]; exact O3.out, C3.out, Z3.out, G3.out⟩
          case round =>
           clear C3 O3 Z3 G3 TW
           obtain ⟨j, tw2, hj, rfl, rfl, htw, hown, hcp, hsz, hg8⟩ := hrel
           have SZ2 : Hid (base <= wr.heap.size) := hsz
           have CW2 : Hid (CP w wr #[.int .i64 n, .slice a zs.length cap, .slice ao ko co, .slice av kv cv, .int .i64 fine] #[.slice (some ⟨b, off, none⟩) m rc, .slice la ml lc]) := hcp
           have G82 : Hid (wr.heap[g8]? = _) := hg8
           have HFLN : Hid ((allTo R k ++ r.ids.take j).length <= 1048576) := HPART.out j hj
           by_cases hjq : j < q
           · have hjl : j < r.ids.length := by rw [HQ.out]; exact hjq
             have HSN : Hid (allTo R k ++ r.ids.take (j + 1) = (allTo R k ++ r.ids.take j) ++ [r.ids.getD j 0]) := by show _ = _; rw [take_snoc _ _ hjl, List.append_assoc]
             obtain ⟨fl, HFL⟩ := nmd (allTo R k ++ r.ids.take j)
             obtain ⟨id, HID⟩ := nmd (r.ids.getD j 0)
             rw [HID.out] at HSN
             have hcc := ints_cell (IW.below hcp.1) hjl HID.out
             rw [HFL.out] at htw hown HFLN HSN
             have TW2 : Hid (Tw tw2 fl) := htw
             obtain ⟨sa, sc, rfl, hxl, hsI⟩ := owns_at1 hown
             have OW2 : Hid (wr.ownsRow base 2 1 (.slice sa fl.length sc) fl.length (fl.map (Value.int .i64))) := hown
             have SI : Hid (IntsAt wr sa fl) := hsI
             have hfl : fl.length <= 1048576 := HFLN.out
             have HHAS : Hid (hasTo fl fl.length id = decide (id ∈ fl)) := hasTo_mem fl id
             clear htw hown hcp hsz hg8 hsI hxl hjl HFLN
             obtain ⟨bb, HBB⟩ := nmd (decide (id ∈ fl))
             rw [HBB.out] at HHAS
             have HTN : Hid (Tw (tw2 || bb) (allTo R k ++ r.ids.take (j + 1))) := by
              have := TW2.step id
              rw [HBB.out] at this
              rw [HSN.out]
              exact this
             obtain ⟨nf, HNF⟩ := nmd fl.length
             have HCALL := l3Has_is sa fl.length sc id fl wr bb HHAS.out SI.out (Nat.le_refl _) (by omega)
             rw [HNF.out] at hfl OW2 HCALL ⊢
             obtain ⟨x0, x1⟩ := cells2 G82.out
             cases tw2
             · go_wp2_with (first
                | (go_at_call 123; refine HCALL.mono ?_; rintro e w' ⟨rfl, rfl⟩)
                | (at_builtin; refine append_int20 _ rfl _ _ rfl base (.slice sa nf sc) nf _ rfl (OW2.alloc _) _ _ (.int .i64 id) rfl (cell_new1 _ _ _ _ (by simp)) rfl (by omega) (Nat.le_trans SZ2.out (by simp)) ?_; intro v' w4 hown4 hgrow4)
                | go_in)
               have CA : Hid (CP w _ #[.int .i64 n, .slice a zs.length cap, .slice ao ko co, .slice av kv cv, .int .i64 fine] #[.slice (some ⟨b, off, none⟩) m rc, .slice la ml lc]) := CW2.below ((Below.refl _ _).alloc (Nat.le_refl _) (.cells #[Value.int .i64 id] 2))
               have GA : Hid _ := below_row ((Below.refl _ _).alloc (Nat.le_refl _) (.cells #[Value.int .i64 id] 2)) (row_lt G82.out) G82.out
               have CB : Hid (CP w w4 #[.int .i64 n, .slice a zs.length cap, .slice ao ko co, .slice av kv cv, .int .i64 fine] #[.slice (some ⟨b, off, none⟩) m rc, .slice la ml lc]) := CA.grow (OW2.alloc _) HBASE.out hgrow4
               have GB : Hid (w4.heap[g8]? = _) := grown_row hgrow4 GA.out (own_other (OW2.alloc _) GA.out (by decide))
               have ZB : Hid (base <= w4.heap.size) := by
                have h1 := hgrow4.size
                have h2 := SZ2.out
                simp at h1
                show _ <= _
                omega
               have OB : Hid (w4.ownsRow base 2 1 v' (allTo R k ++ r.ids.take (j + 1)).length ((allTo R k ++ r.ids.take (j + 1)).map (Value.int .i64))) := by
                rw [HSN.out, List.length_append, List.map_append, HNF.out]
                exact hown4
               clear CA GA
               go_roundw
               case rel => exact ⟨j + 1, _, by omega, by go_num, rfl, HTN.out, OB.out, CB.out, ZB.out, GB.out⟩
               case measure => simp [intOf]; omega
             · go_wp2_with (first
                | (at_builtin; refine append_int20 _ rfl _ _ rfl base (.slice sa nf sc) nf _ rfl (OW2.alloc _) _ _ (.int .i64 id) rfl (cell_new1 _ _ _ _ (by simp)) rfl (by omega) (Nat.le_trans SZ2.out (by simp)) ?_; intro v' w4 hown4 hgrow4)
                | go_in)
               have CA : Hid (CP w _ #[.int .i64 n, .slice a zs.length cap, .slice ao ko co, .slice av kv cv, .int .i64 fine] #[.slice (some ⟨b, off, none⟩) m rc, .slice la ml lc]) := CW2.below ((Below.refl _ _).alloc (Nat.le_refl _) (.cells #[Value.int .i64 id] 2))
               have GA : Hid _ := below_row ((Below.refl _ _).alloc (Nat.le_refl _) (.cells #[Value.int .i64 id] 2)) (row_lt G82.out) G82.out
               have CB : Hid (CP w w4 #[.int .i64 n, .slice a zs.length cap, .slice ao ko co, .slice av kv cv, .int .i64 fine] #[.slice (some ⟨b, off, none⟩) m rc, .slice la ml lc]) := CA.grow (OW2.alloc _) HBASE.out hgrow4
               have GB : Hid (w4.heap[g8]? = _) := grown_row hgrow4 GA.out (own_other (OW2.alloc _) GA.out (by decide))
               have ZB : Hid (base <= w4.heap.size) := by
                have h1 := hgrow4.size
                have h2 := SZ2.out
                simp at h1
                show _ <= _
                omega
               have OB : Hid (w4.ownsRow base 2 1 v' (allTo R k ++ r.ids.take (j + 1)).length ((allTo R k ++ r.ids.take (j + 1)).map (Value.int .i64))) := by
                rw [HSN.out, List.length_append, List.map_append, HNF.out]
                exact hown4
               clear CA GA
               go_roundw
               case rel => exact ⟨j + 1, _, by omega, by go_num, rfl, HTN.out, OB.out, CB.out, ZB.out, GB.out⟩
               case measure => simp [intOf]; omega
           · have hjq2 : j = q := by omega
             have HA2 : Hid (allTo R k ++ r.ids.take j = allTo R (k + 1)) := by
              show _ = _
              rw [HALLS.out, hjq2, <- HQ.out, List.take_length]
             rw [HA2.out] at htw hown
             have TW3 : Hid (Tw tw2 (allTo R (k + 1))) := htw
             have OW3 : Hid (wr.ownsRow base 2 1 u5 (allTo R (k + 1)).length ((allTo R (k + 1)).map (Value.int .i64))) := hown
             obtain ⟨x0, x1⟩ := cells2 G82.out
             clear hjq2 htw hown hcp hsz hg8
             go_wp2
             first
              | exact ⟨⟨k + 1, tw2, by omega, by go_num, rfl, TW3.out, OK1.out, OW3.out, CW2.out, SZ2.out⟩, by simp [intOf]; omega⟩
              | (go_roundw
                 case rel => exact ⟨k + 1, tw2, by omega, by go_num, rfl, TW3.out, OK1.out, OW3.out, CW2.out, SZ2.out⟩
                 case measure => simp [intOf]; omega)
  · have hkm : k = m := by omega
    have TW9 : Hid (Tw tw (allTo R m)) := hkm ▸ TW.out
    have OK9 : Hid (RtsOk n zs os vs ko kv R R.length) := HN.symm ▸ hkm ▸ OK.out
    have OW9 : Hid (wr.ownsRow base 2 1 u5 (allTo R m).length ((allTo R m).map (Value.int .i64))) := hkm ▸ OW.out
    clear hkm TW OK OW
    have HFM : Hid (allTo R R.length = allTo R m) := by show _ = _; rw [HN.out]
    obtain ⟨fl, HFL⟩ := nmd (allTo R m)
    rw [HFL.out] at TW9 OW9 HFM
    obtain ⟨sa, sc, rfl, -, hsI⟩ := owns_at1 OW9.out
    have SI : Hid (IntsAt wr sa fl) := hsI
    have hfl : fl.length <= 1048576 := by rw [<- HFM.out]; exact HAL.out
    clear hsI OW9
    obtain ⟨nf, HNF⟩ := nmd fl.length
    rw [HNF.out] at hfl ⊢
    obtain ⟨d0, d1⟩ := cells2 CW.2.2
    go_wp2_with fail
    go_loop [6, 10] (fun tt ti => ∃ (j : Nat) (tw : Bool), j <= ml /\ ti = .int .i64 j /\ tt = .bool tw /\ TwL tw fl L j) (fun _ ti => ml - (intOf ti).toNat)
    case atStart => exact ⟨0, tw, Nat.zero_le _, rfl, rfl, TwL.start TW9.out L⟩
    case round =>
     clear TW9
     obtain ⟨j, tw2, hj, rfl, rfl, htw⟩ := hrel
     have TW2 : Hid (TwL tw2 fl L j) := htw
     clear htw
     by_cases hjl : j < ml
     · have hjL : j < L.length := by rw [HM.out]; exact hjl
       obtain ⟨b2, off2, rfl, hcc⟩ := (HL.below CW.1) j hjL
       have HTN := TW2.step
       obtain ⟨id, HID⟩ := nmd (L.getD j 0)
       rw [HID.out] at hcc HTN
       obtain ⟨bb, HBB⟩ := nmd (decide (id ∈ fl))
       rw [HBB.out] at HTN
       have HT2 : Hid _ := HTN
       have HCALL := l3Has_is sa fl.length sc id fl wr bb ((hasTo_mem fl id).trans HBB.out) SI.out (Nat.le_refl _) (by rw [HNF.out]; omega)
       rw [HNF.out] at HCALL
       clear HTN hjL
       cases tw2
       · go_wp2_with (go_at_call 123; refine HCALL.mono ?_; rintro e w' ⟨rfl, rfl⟩)
         exact ⟨⟨j + 1, _, by omega, by go_num, rfl, HT2.out⟩, by simp [intOf]; omega⟩
       · go_wp2
         exact ⟨⟨j + 1, _, by omega, by go_num, rfl, HT2.out⟩, by simp [intOf]; omega⟩
     · have hjm : j = L.length := by rw [HM.out]; omega
       have HON : Hid (tw2 = true ↔ ¬ Once fl L) := TwL.done (hjm ▸ TW2.out)
       clear hjm
       cases tw2
       · have ON : Hid (Once (allTo R R.length) L) := by
          rw [HFM.out]
          show Once fl L
          exact Classical.not_not.1 fun h => by have := HON.2 h; cases this
         clear HON TW2
         go_wp2_with fail
         clear d0 d1
         go_loopw [11] (fun ti wr => ∃ j : Nat, j <= ml /\ ti = .int .i64 j /\ LeftOk os ko L j /\ CP w wr #[.int .i64 n, .slice a zs.length cap, .slice ao ko co, .slice av kv cv, .int .i64 fine] #[.slice ra m rc, .slice la ml lc]) (fun ti _ => ml - (intOf ti).toNat)
         case atStart => exact ⟨0, Nat.zero_le _, rfl, LeftOk.zero _ _ _, CW.out⟩
         case round =>
          clear CW SI hj hjl
          obtain ⟨j, hj, rfl, hlo, hcp⟩ := hrel
          have LO : Hid (LeftOk os ko L j) := hlo
          have CW4 : Hid (CP w wr #[.int .i64 n, .slice a zs.length cap, .slice ao ko co, .slice av kv cv, .int .i64 fine] #[.slice ra m rc, .slice la ml lc]) := hcp
          clear hlo hcp
          by_cases hjl : j < ml
          · have hjL : j < L.length := by rw [HM.out]; exact hjl
            obtain ⟨b2, off2, rfl, hcc⟩ := (HL.below CW4.1) j hjL
            have hLW := HL.below CW4.1
            have HBADT : Hid (fnd6T os ko (L.getD j 0) = false -> v = 4) := fun h => HVAL.symm.trans (planV_4 HC.out OK9.out ON.out (fun H => by rw [(H.1 j hjL).1] at h; cases h))
            have HBADP : Hid (0 < j -> ¬ L.getD (j - 1) 0 < L.getD j 0 -> v = 4) := fun h0 h => HVAL.symm.trans (planV_4 HC.out OK9.out ON.out (fun H => h ((H.1 j hjL).2 h0)))
            have HSTEP : Hid (fnd6T os ko (L.getD j 0) = true -> (0 < j -> L.getD (j - 1) 0 < L.getD j 0) -> LeftOk os ko L (j + 1)) := fun h1 h2 => LO.step h1 h2
            obtain ⟨id, HID⟩ := nmd (L.getD j 0)
            rw [HID.out] at hcc HBADT HBADP HSTEP
            have HLWW : Hid (IntsAt wr (some ⟨b2, off2, none⟩) L) := hLW
            obtain ⟨o0, H0⟩ := nmd (fnd6F os ko id 0)
            obtain ⟨o1, H1⟩ := nmd (fnd6F os ko id 1)
            obtain ⟨o2, H2⟩ := nmd (fnd6F os ko id 2)
            obtain ⟨o3, H3⟩ := nmd (fnd6F os ko id 3)
            obtain ⟨o4, H4⟩ := nmd (fnd6F os ko id 4)
            obtain ⟨o5, H5⟩ := nmd (fnd6F os ko id 5)
            obtain ⟨tt, HTT⟩ := nmd (fnd6T os ko id)
            rw [HTT.out] at HBADT HSTEP
            obtain ⟨c0, c1, c2, c3, c4⟩ := cells5 CW4.2.1
            obtain ⟨d0, d1⟩ := cells2 CW4.2.2
            clear hLW
            go_wp2_with fail
            have HCT : Hid (wr.cell? ⟨b2, off2 + j, none⟩ = _) := hcc
            have HCA : Hid ((wr.alloc (Obj.cells #[Value.int .i64 0, Value.int .i64 0, Value.int .i64 0, Value.int .i64 0, Value.int .i64 0, Value.int .i64 0] 146)).cell? ⟨b2, off2 + j, none⟩ = _) := (((Below.refl wr.heap.size wr).alloc (Nat.le_refl _) _).cell (p := ⟨b2, off2 + j, none⟩) (block_lt_of_cell hcc)).trans hcc
            have hlb := block_lt_of_cell hcc
            simp at hlb
            have hlw := row_lt CW4.2.1
            have hlr := row_lt CW4.2.2
            go_region_held3 (fun W => W.cell? ⟨w.heap.size, 0, none⟩ = some (.int .i64 n) /\ W.cell? ⟨w.heap.size, 1, none⟩ = some (.slice a zs.length cap) /\ W.cell? ⟨w.heap.size, 2, none⟩ = some (.slice ao ko co) /\ W.cell? ⟨w.heap.size, 3, none⟩ = some (.slice av kv cv) /\ W.cell? ⟨w.heap.size, 4, none⟩ = some (.int .i64 fine) /\ W.cell? ⟨w.heap.size + 1, 1, none⟩ = some (.slice (some ⟨b2, off2, none⟩) ml lc) /\ W.cell? ⟨b2, off2 + j, none⟩ = some (.int .i64 id)) (first | with_reducible exact kS | with_reducible exact ⟨(keep_set (keep_set (keep_set (keep_set (keep_set (keep_set kS.1 (Nat.ne_of_lt hlw)) (Nat.ne_of_lt hlw)) (Nat.ne_of_lt hlw)) (Nat.ne_of_lt hlw)) (Nat.ne_of_lt hlw)) (Nat.ne_of_lt hlw)), (keep_set (keep_set (keep_set (keep_set (keep_set (keep_set kS.2.1 (Nat.ne_of_lt hlw)) (Nat.ne_of_lt hlw)) (Nat.ne_of_lt hlw)) (Nat.ne_of_lt hlw)) (Nat.ne_of_lt hlw)) (Nat.ne_of_lt hlw)), (keep_set (keep_set (keep_set (keep_set (keep_set (keep_set kS.2.2.1 (Nat.ne_of_lt hlw)) (Nat.ne_of_lt hlw)) (Nat.ne_of_lt hlw)) (Nat.ne_of_lt hlw)) (Nat.ne_of_lt hlw)) (Nat.ne_of_lt hlw)), (keep_set (keep_set (keep_set (keep_set (keep_set (keep_set kS.2.2.2.1 (Nat.ne_of_lt hlw)) (Nat.ne_of_lt hlw)) (Nat.ne_of_lt hlw)) (Nat.ne_of_lt hlw)) (Nat.ne_of_lt hlw)) (Nat.ne_of_lt hlw)), (keep_set (keep_set (keep_set (keep_set (keep_set (keep_set kS.2.2.2.2.1 (Nat.ne_of_lt hlw)) (Nat.ne_of_lt hlw)) (Nat.ne_of_lt hlw)) (Nat.ne_of_lt hlw)) (Nat.ne_of_lt hlw)) (Nat.ne_of_lt hlw)), (keep_set (keep_set (keep_set (keep_set (keep_set (keep_set kS.2.2.2.2.2.1 (Nat.ne_of_lt hlr)) (Nat.ne_of_lt hlr)) (Nat.ne_of_lt hlr)) (Nat.ne_of_lt hlr)) (Nat.ne_of_lt hlr)) (Nat.ne_of_lt hlr)), (keep_set (keep_set (keep_set (keep_set (keep_set (keep_set kS.2.2.2.2.2.2 (Nat.ne_of_lt hlb)) (Nat.ne_of_lt hlb)) (Nat.ne_of_lt hlb)) (Nat.ne_of_lt hlb)) (Nat.ne_of_lt hlb)) (Nat.ne_of_lt hlb))⟩ | go_keep) ((first
             | (go_at_call 124
                with_reducible refine (l2At_any n fine id a ao av _ cap ko co kv cv os wr.drew ?_ HLO.out hko).mono ?_
                · exact HO.below CW4.drew.1
                rintro e w2 ⟨rfl, hb2⟩
                rw [H0.out, H1.out, H2.out, H3.out, H4.out, H5.out, HTT.out]
                have hcr2 := CP.below CW4.drew hb2
                obtain ⟨k0, k1, k2, k3, k4⟩ := cells5 hcr2.2.1
                have k5 := (cells2 hcr2.2.2).2
                have k6 := (hb2.cell (p := ⟨b2, off2 + j, none⟩) (block_lt_of_cell HCT.out)).trans HCT.out
                have kS := And.intro k0 (And.intro k1 (And.intro k2 (And.intro k3 (And.intro k4 (And.intro k5 k6)))))
                have CR2 : Hid (CP w w2 #[.int .i64 n, .slice a zs.length cap, .slice ao ko co, .slice av kv cv, .int .i64 fine] #[.slice ra m rc, .slice (some ⟨b2, off2, none⟩) ml lc]) := hcr2
                clear hb2 hcr2 k0 k1 k2 k3 k4 k5 k6)
             | (go_at_call 124
                with_reducible refine (l2At_any n fine id a ao av _ cap ko co kv cv os (wr.alloc (Obj.cells #[Value.int .i64 0, Value.int .i64 0, Value.int .i64 0, Value.int .i64 0, Value.int .i64 0, Value.int .i64 0] 146)).drew ?_ HLO.out hko).mono ?_
                · exact HO.below (CP.drew (CP.alloc CW4.out (Obj.cells #[Value.int .i64 0, Value.int .i64 0, Value.int .i64 0, Value.int .i64 0, Value.int .i64 0, Value.int .i64 0] 146))).1
                rintro e w2 ⟨rfl, hb2⟩
                rw [H0.out, H1.out, H2.out, H3.out, H4.out, H5.out, HTT.out]
                have hcr2 := CP.below (CP.drew (CP.alloc CW4.out (Obj.cells #[Value.int .i64 0, Value.int .i64 0, Value.int .i64 0, Value.int .i64 0, Value.int .i64 0, Value.int .i64 0] 146))) hb2
                obtain ⟨k0, k1, k2, k3, k4⟩ := cells5 hcr2.2.1
                have k5 := (cells2 hcr2.2.2).2
                have k6 := (hb2.cell (p := ⟨b2, off2 + j, none⟩) (block_lt_of_cell HCA.out)).trans HCA.out
                have kS := And.intro k0 (And.intro k1 (And.intro k2 (And.intro k3 (And.intro k4 (And.intro k5 k6)))))
                have CR2 : Hid (CP w w2 #[.int .i64 n, .slice a zs.length cap, .slice ao ko co, .slice av kv cv, .int .i64 fine] #[.slice ra m rc, .slice (some ⟨b2, off2, none⟩) ml lc]) := hcr2
                obtain ⟨z0, z1, z2, z3, z4, z5⟩ := cells6 (below_row hb2 (k := wr.heap.size) (by simp) (heap_alloc_new wr (Obj.cells #[Value.int .i64 0, Value.int .i64 0, Value.int .i64 0, Value.int .i64 0, Value.int .i64 0, Value.int .i64 0] 146)))
                have zf := fun i => frozen_of_row _ _ i _ _ (below_row hb2 (k := wr.heap.size) (by simp) (heap_alloc_new wr (Obj.cells #[Value.int .i64 0, Value.int .i64 0, Value.int .i64 0, Value.int .i64 0, Value.int .i64 0, Value.int .i64 0] 146)))
                clear hb2 hcr2 k0 k1 k2 k3 k4 k5 k6)))
            all_goals (first
             | (have CRW : Hid (CP w (World.setCell (World.setCell (World.setCell (World.setCell (World.setCell (World.setCell w2 ⟨wr.heap.size, 0, none⟩ (Value.int .i64 o0)) ⟨wr.heap.size, 1, none⟩ (Value.int .i64 o1)) ⟨wr.heap.size, 2, none⟩ (Value.int .i64 o2)) ⟨wr.heap.size, 3, none⟩ (Value.int .i64 o3)) ⟨wr.heap.size, 4, none⟩ (Value.int .i64 o4)) ⟨wr.heap.size, 5, none⟩ (Value.int .i64 o5)) #[.int .i64 n, .slice a zs.length cap, .slice ao ko co, .slice av kv cv, .int .i64 fine] #[.slice ra m rc, .slice (some ⟨b2, off2, none⟩) ml lc]) := (CP.set (CP.set (CP.set (CP.set (CP.set (CP.set CR2.out CW4.big) CW4.big) CW4.big) CW4.big) CW4.big) CW4.big)
                clear kS CR2 HCT HCA hcc z0 z1 z2 z3 z4 z5 zf
                generalize (World.setCell (World.setCell (World.setCell (World.setCell (World.setCell (World.setCell w2 ⟨wr.heap.size, 0, none⟩ (Value.int .i64 o0)) ⟨wr.heap.size, 1, none⟩ (Value.int .i64 o1)) ⟨wr.heap.size, 2, none⟩ (Value.int .i64 o2)) ⟨wr.heap.size, 3, none⟩ (Value.int .i64 o3)) ⟨wr.heap.size, 4, none⟩ (Value.int .i64 o4)) ⟨wr.heap.size, 5, none⟩ (Value.int .i64 o5)) = W at *
                generalize wr.heap.size = g at *)
             | (have CRW : Hid (CP w (w2.alloc (Obj.cells #[Value.int .i64 o0, Value.int .i64 o1, Value.int .i64 o2, Value.int .i64 o3, Value.int .i64 o4, Value.int .i64 o5] 146)) #[.int .i64 n, .slice a zs.length cap, .slice ao ko co, .slice av kv cv, .int .i64 fine] #[.slice ra m rc, .slice (some ⟨b2, off2, none⟩) ml lc]) := CP.alloc CR2.out _
                clear kS CR2 HCT HCA hcc
                generalize w2.alloc (Obj.cells #[Value.int .i64 o0, Value.int .i64 o1, Value.int .i64 o2, Value.int .i64 o3, Value.int .i64 o4, Value.int .i64 o5] 146) = W at *
                generalize w2.heap.size = g at *))
            all_goals
             clear c0 c1 c2 c3 c4 d0 d1 hlw hlr hlb
             have q1 := (cells2 CRW.2.2).2
             have ctW := ints_cell (HL.below CRW.1) hjL HID.out
             have t0 := fun s : Kin W => s.cell q1
             have t1 := fun s : Kin W => s.cell ctW
             have hkin := Kin.there W
             cases tt
             · have HE : Hid (v = 4) := HBADT.out rfl
               go_wp2_with fail
               refine wp_region_kin (by kernel_rfl) (by kernel_rfl) ?_
               repeat (go_big_quiet_step (fail))
               refine wpQuiet_nil ?_
               rintro _ ⟨s, rfl⟩
               have HS2 : Hid (CP w s.w #[.int .i64 n, .slice a zs.length cap, .slice ao ko co, .slice av kv cv, .int .i64 fine] #[.slice ra m rc, .slice (some ⟨b2, off2, none⟩) ml lc]) := CRW.below s.below
               generalize s.w = w3 at *
               go_wp2
               go_ret
               exact ⟨by rw [HE.out]; rfl, HS2.1⟩
             · by_cases hj0 : 0 < j
               · obtain ⟨p, HP⟩ := nmd (L.getD (j - 1) 0)
                 have ctP := ints_cell (HL.below CRW.1) (j := j - 1) (by omega) HP.out
                 have t2 := fun s : Kin W => s.cell ctP
                 have hw1 : IntKind.i64.wrap ((j : Int) - 1) = ((j - 1 : Nat) : Int) := by rw [IntKind.wrap_i64]; omega
                 have hjm1 : j - 1 < ml := by omega
                 by_cases hp : p < id
                 · have LO1 : Hid (LeftOk os ko L (j + 1)) := HSTEP.out rfl (fun _ => by rw [HP.out]; exact hp)
                   have hpd : decide (id <= p) = false := by simp; omega
                   go_wp2_with fail
                   refine wp_region_kin (by kernel_rfl) (by kernel_rfl) ?_
                   repeat (go_big_quiet_step (fail))
                   refine wpQuiet_nil ?_
                   rintro _ ⟨s, rfl⟩
                   have HS2 : Hid (CP w s.w #[.int .i64 n, .slice a zs.length cap, .slice ao ko co, .slice av kv cv, .int .i64 fine] #[.slice ra m rc, .slice (some ⟨b2, off2, none⟩) ml lc]) := CRW.below s.below
                   generalize s.w = w3 at *
                   go_wp2
                   exact ⟨⟨j + 1, by omega, by go_num, LO1.out, HS2.out⟩, by simp [intOf]; omega⟩
                 · have HE : Hid (v = 4) := HBADP.out hj0 (by rw [HP.out]; first | exact hp | omega)
                   have hpd : decide (id <= p) = true := by simp; omega
                   go_wp2_with fail
                   refine wp_region_kin (by kernel_rfl) (by kernel_rfl) ?_
                   repeat (go_big_quiet_step (fail))
                   refine wpQuiet_nil ?_
                   rintro _ ⟨s, rfl⟩
                   have HS2 : Hid (CP w s.w #[.int .i64 n, .slice a zs.length cap, .slice ao ko co, .slice av kv cv, .int .i64 fine] #[.slice ra m rc, .slice (some ⟨b2, off2, none⟩) ml lc]) := CRW.below s.below
                   generalize s.w = w3 at *
                   go_wp2
                   go_ret
                   exact ⟨by rw [HE.out]; rfl, HS2.1⟩
               · have LO1 : Hid (LeftOk os ko L (j + 1)) := HSTEP.out rfl (fun h => absurd h hj0)
                 have hkz : (decide (0 < j)) = false := by simp; omega
                 have hk1 : j <= 0 := by omega
                 go_wp2_with fail
                 refine wp_region_kin (by kernel_rfl) (by kernel_rfl) ?_
                 repeat (go_big_quiet_step (fail))
                 refine wpQuiet_nil ?_
                 rintro _ ⟨s, rfl⟩
                 have HS2 : Hid (CP w s.w #[.int .i64 n, .slice a zs.length cap, .slice ao ko co, .slice av kv cv, .int .i64 fine] #[.slice ra m rc, .slice (some ⟨b2, off2, none⟩) ml lc]) := CRW.below s.below
                 generalize s.w = w3 at *
                 go_wp2
                 exact ⟨⟨j + 1, by omega, by go_num, LO1.out, HS2.out⟩, by simp [intOf]; omega⟩
          · have hjm : j = L.length := by rw [HM.out]; omega
            have LO9 : Hid (LeftOk os ko L L.length) := hjm ▸ LO.out
            have HLEN : Hid ((allTo R R.length).length + L.length = nf + ml) := by show _ = _; rw [HFM.out, HNF.out, HM.out]
            obtain ⟨c0, c1, c2, c3, c4⟩ := cells5 CW4.2.1
            obtain ⟨d0, d1⟩ := cells2 CW4.2.2
            clear hjm
            have hz : Hid (((nf : Int) + (ml : Int) == (ko : Int)) = decide (nf + ml = ko)) := by
             show _ = _
             by_cases e : nf + ml = ko
             · rw [decide_eq_true e, <- e]; simp
             · rw [decide_eq_false e]; simp; omega
            by_cases he : nf + ml = ko
            · have he1 : ((nf : Int) + (ml : Int) == (ko : Int)) = true := by rw [hz.out]; exact decide_eq_true he
              have HE : Hid (v = 0) := HVAL.symm.trans (planV_0 HC.out OK9.out ON.out LO9.out (by rw [HLEN.out]; exact he))
              clear he
              go_wp2
              go_ret
              exact ⟨by rw [HE.out]; rfl, CW4.1⟩
            · have he1 : ((nf : Int) + (ml : Int) == (ko : Int)) = false := by rw [hz.out]; exact decide_eq_false he
              have HE : Hid (v = 4) := HVAL.symm.trans (planV_4 HC.out OK9.out ON.out (fun h => he (by rw [<- HLEN.out]; exact h.2)))
              clear he
              go_wp2
              go_ret
              exact ⟨by rw [HE.out]; rfl, CW4.1⟩
       · have HE : Hid (v = 3) := HVAL.symm.trans (planV_3 HC.out OK9.out (by rw [HFM.out]; exact HON.1 rfl))
         go_wp2
         go_ret
         exact ⟨by rw [HE.out]; rfl, CW.1⟩
end Go.Proofs.YtehfjfmfpdgibaaGreatDoor
