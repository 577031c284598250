import Derived.Test.YtfpegaldloadaaaGreatPack4
import Derived.Test.YtfpegaldloadaaaGreatRoutesOk
namespace Go.Proofs.YtfpegaldloadaaaGreat
open Go.RowKit Go.Maps
theorem all_orders {n : Int} {zs os vs : List Int} {ko kv : Nat} {R : List RT} : ∀ {k : Nat}, k <= R.length -> RtsOk n zs os vs ko kv R k -> ∀ x ∈ allTo R k, fnd6T os ko x = true
 | 0, _, _, x, hx => by rw [allTo_zero] at hx; cases hx
 | k + 1, hk, h, x, hx => by
   rw [allTo_succ (by omega), List.mem_append] at hx
   rcases hx with hx | hx
   · exact all_orders (k := k) (by omega) (fun j hj => h j (by omega)) x hx
   · have h3 := (stopsB_true (formV_zero (codeV_zero (h k (by omega)).2.2).1).2.2).2
     obtain ⟨j, hj, e⟩ := List.getElem_of_mem hx
     have := h3 j hj
     unfold stopB at this
     rw [List.getD_eq_getElem?_getD, List.getElem?_eq_getElem hj] at this
     simp only [Option.getD_some, e] at this
     simp at this
     exact this.1
theorem ord_wf {n : Int} {zs os vs : List Int} {ko kv : Nat} {fine id : Int} (hc : caseB n zs os vs ko kv fine = true) (h : fnd6T os ko id = true) : (Lit.int .i64 id).wf = true := by
 have hv := (caseB_parts hc).2.1
 unfold fnd6T at h
 cases hf : fnd6 os ko id with
 | none => rw [hf] at h; cases h
 | some i =>
   unfold fnd6 at hf
   have h1 := List.find?_some hf
   have h2 : i < ko := by simpa using List.mem_of_find?_eq_some hf
   have h3 := ((ordsB_true hv).2 i h2).1
   simp at h1
   unfold ordB inB at h3
   simp at h3
   exact WalkArith.wf_i64 (by omega)
def CP (w W : World) (cs ps : Array Value) : Prop := Below w.heap.size w W /\ W.heap[w.heap.size]? = some (.cells cs 43 (0, 0)) /\ W.heap[w.heap.size + 1]? = some (.cells ps 36 (0, 0))
theorem CP.new (w : World) (cs ps : Array Value) : CP w ((w.alloc (.cells cs 43)).alloc (.cells ps 36)) cs ps :=
 ⟨((Below.refl _ _).alloc (Nat.le_refl _) _).alloc (by simp) _, heap_alloc2_old _ _ _, heap_alloc2_new _ _ _⟩
theorem CP.below {w W W' : World} {cs ps : Array Value} (h : CP w W cs ps) (hb : Below W.heap.size W W') : CP w W' cs ps :=
 ⟨h.1.trans (hb.mono h.1.size), below_row hb (row_lt h.2.1) h.2.1, below_row hb (row_lt h.2.2) h.2.2⟩
theorem CP.grown {w W W' : World} {cs ps : Array Value} {B : Nat} {l : List Int} (h : CP w W cs ps) (hS : SetAt W B l) (hB : w.heap.size <= B) (hg : W.grownBy W' (some B)) : CP w W' cs ps :=
 ⟨h.1.grown hg h.1.size (fun j e => by cases e; exact hB), row_grownM hS hg h.2.1, row_grownM hS hg h.2.2⟩
set_option maxRecDepth 100000 in
set_option maxHeartbeats 2000000 in
theorem planCode_any (n fine : Int) (a ao av ra la : Option Addr) (cap ko co kv cv rc lc : Nat) (zs os vs L : List Int) (R : List RT) (w : World) (hA : IntsAt w a zs) (hO : IntsAt w ao os) (hV : IntsAt w av vs) (hR : RoutesAt w ra R) (hL : IntsAt w la L) (hlo : os.length = ko * 6) (hlv : vs.length = kv * 5) (hko : ko <= 9223372036854775807) (hkv : kv <= 9223372036854775807) (hn : R.length <= 1048576) (hi : ∀ r ∈ R, r.ids.length <= 1048576) (hrc : ∀ r ∈ R, r.ids.length <= r.c) (hll : L.length <= 1048576) (hal : (allTo R R.length).length <= 1048576) (hwl : ∀ x ∈ L, (Lit.int .i64 x).wf = true) (hcB : caseB n zs os vs ko kv fine = true) :
   Calls Tryz.prog 70 #[.agg #[.int .i64 n, .slice a zs.length cap, .slice ao ko co, .slice av kv cv, .int .i64 fine], .agg #[.slice ra R.length rc, .slice la L.length lc]] w fun e w' => e = .returned (.int .i64 (planV n zs os vs ko kv fine R L)) /\ Below w.heap.size w w' := by
 have HA : Hid (IntsAt w a zs) := hA
 have HO : Hid (IntsAt w ao os) := hO
 have HV : Hid (IntsAt w av vs) := hV
 have HR : Hid (RoutesAt w ra R) := hR
 have HL : Hid (IntsAt w la L) := hL
 have HLO : Hid _ := hlo
 have HLV : Hid _ := hlv
 have HN : Hid _ := hn
 have HLL : Hid _ := hll
 have HAL : Hid _ := hal
 have HI : Hid (∀ r ∈ R, r.ids.length <= 1048576) := hi
 have HRC : Hid (∀ r ∈ R, r.ids.length <= r.c) := hrc
 have HWL : Hid (∀ x ∈ L, (Lit.int .i64 x).wf = true) := hwl
 have HC : Hid (caseB n zs os vs ko kv fine = true) := hcB
 clear hA hO hV hR hL hlo hlv hi hrc hcB hwl hn hll hal
 obtain ⟨v, HVAL⟩ : ∃ v, Hid (planV n zs os vs ko kv fine R L = v) := ⟨_, rfl⟩
 rw [HVAL.out]
 have hmm := @run_makeMap Tryz.prog
 have C0 : Hid (CP w ((w.alloc (.cells #[.int .i64 n, .slice a zs.length cap, .slice ao ko co, .slice av kv cv, .int .i64 fine] 43)).alloc (.cells #[.slice ra R.length rc, .slice la L.length lc] 36)) _ _) := CP.new w _ _
 obtain ⟨c0, c1, c2, c3, c4⟩ := cells5 C0.out.2.1
 obtain ⟨d0, d1⟩ := cells2 C0.out.2.2
 go_enter Tryz.func70, Tryz.ntmps70
 go_wp2_with fail
 clear c0 c1 c2 c3 c4 d0 d1
 generalize (w.alloc (.cells #[.int .i64 n, .slice a zs.length cap, .slice ao ko co, .slice av kv cv, .int .i64 fine] 43)).alloc (.cells #[.slice ra R.length rc, .slice la L.length lc] 36) = W0 at *
 refine (routesOk_any n fine a ao av ra cap ko co kv cv rc zs os vs R W0 (HA.out.below C0.out.1) (HO.out.below C0.out.1) (HV.out.below C0.out.1) (HR.out.below C0.out.1) HLO.out HLV.out hko hkv HN.out HI.out HRC.out HC.out).mono ?_
 rintro e w1 ⟨hb, ⟨rfl, hok⟩ | ⟨rfl, hok⟩⟩
 · have OK : Hid (RtsOk n zs os vs ko kv R R.length) := hok
   have C1 : Hid (CP w w1 _ _) := C0.out.below hb
   clear hb hok C0
   have S0 : Hid (SetAt (w1.alloc (.map #[] 0)) w1.heap.size []) := SetAt.made w1
   have C2 : Hid (CP w (w1.alloc (.map #[] 0)) _ _) := C1.out.below ((Below.refl _ _).alloc (Nat.le_refl _) _)
   obtain ⟨d0, d1⟩ := cells2 C2.out.2.2
   go_wp2_with fail
   clear d0 d1
   have hB : w.heap.size <= w1.heap.size := C1.out.1.size
   generalize hZ : w1.alloc (.map #[] 0) = W2 at *
   generalize w1.heap.size = B at *
   clear hZ C1
   refine (meetsOnce_any B ra la rc lc R L W2 (HR.out.below C2.out.1) (HL.out.below C2.out.1) S0.out HN.out HI.out HLL.out HAL.out (fun x hx => ord_wf HC.out (all_orders (Nat.le_refl _) OK.out x hx)) HWL.out).mono ?_
   rintro e w3 ⟨hg, ⟨rfl, honce, hset⟩ | ⟨rfl, honce⟩⟩
   · have C3 : Hid (CP w w3 _ _) := C2.out.grown S0.out hB hg
     have ON : Hid (Once (allTo R R.length) L) := honce
     have S3 : Hid (SetAt w3 B (allTo R R.length)) := hset
     clear hg honce hset C2 S0 hB
     obtain ⟨c0, c1, c2, c3, c4⟩ := cells5 C3.out.2.1
     obtain ⟨d0, d1⟩ := cells2 C3.out.2.2
     go_wp2_with fail
     clear c0 c1 c2 c3 c4 d0 d1
     refine (leftOk_any n fine a ao av la cap ko co kv cv lc B zs os vs L (allTo R R.length) w3 (HO.out.below C3.out.1) (HL.out.below C3.out.1) S3.out ON.out.1 HLO.out hko HLL.out HAL.out HC.out).mono ?_
     rintro e w4 ⟨hb, ⟨rfl, h1, h2⟩ | ⟨rfl, h1⟩⟩
     · have HB : Hid (Below w.heap.size w w4) := C3.out.1.trans (hb.mono C3.out.1.size)
       have HE : Hid (v = 0) := HVAL.out.symm.trans (planV_0 HC.out OK.out ON.out h1 h2)
       clear hb h1 h2
       go_wp2
       go_ret
       exact ⟨by rw [HE.out]; rfl, HB.out⟩
     · have HB : Hid (Below w.heap.size w w4) := C3.out.1.trans (hb.mono C3.out.1.size)
       have HE : Hid (v = 4) := HVAL.out.symm.trans (planV_4 HC.out OK.out ON.out h1)
       clear hb h1
       go_wp2
       go_ret
       exact ⟨by rw [HE.out]; rfl, HB.out⟩
   · have C3 : Hid (CP w w3 _ _) := C2.out.grown S0.out hB hg
     have HE : Hid (v = 3) := HVAL.out.symm.trans (planV_3 HC.out OK.out honce)
     clear hg honce
     go_wp2
     go_ret
     exact ⟨by rw [HE.out]; rfl, C3.out.1⟩
 · have HB : Hid (Below w.heap.size w w1) := C0.out.1.trans (hb.mono C0.out.1.size)
   have HE : Hid (v = 2) := HVAL.out.symm.trans (planV_2 HC.out hok)
   clear hb hok
   go_wp2
   go_ret
   exact ⟨by rw [HE.out]; rfl, HB.out⟩
set_option maxRecDepth 100000 in
set_option maxHeartbeats 2000000 in
theorem implPlan_anyC (n fine : Int) (a ao av ra la : Option Addr) (cap ko co kv cv rc lc : Nat) (zs os vs L : List Int) (R : List RT) (w : World) (hA : IntsAt w a zs) (hO : IntsAt w ao os) (hV : IntsAt w av vs) (hR : RoutesAt w ra R) (hL : IntsAt w la L) (hlo : os.length = ko * 6) (hlv : vs.length = kv * 5) (hko : ko <= 9223372036854775807) (hkv : kv <= 9223372036854775807) (hn : R.length <= 1048576) (hi : ∀ r ∈ R, r.ids.length <= 1048576) (hrc : ∀ r ∈ R, r.ids.length <= r.c) (hll : L.length <= 1048576) (hal : (allTo R R.length).length <= 1048576) (hwl : caseB n zs os vs ko kv fine = true -> ∀ x ∈ L, (Lit.int .i64 x).wf = true) :
   Calls Tryz.prog 36 #[.agg #[.int .i64 n, .slice a zs.length cap, .slice ao ko co, .slice av kv cv, .int .i64 fine], .agg #[.slice ra R.length rc, .slice la L.length lc]] w fun e w' => e = .returned (.int .i64 (planV n zs os vs ko kv fine R L)) /\ Below w.heap.size w w' := by
 have HA : Hid (IntsAt w a zs) := hA
 have HO : Hid (IntsAt w ao os) := hO
 have HV : Hid (IntsAt w av vs) := hV
 have HR : Hid (RoutesAt w ra R) := hR
 have HL : Hid (IntsAt w la L) := hL
 have HLO : Hid _ := hlo
 have HLV : Hid _ := hlv
 have HN : Hid _ := hn
 have HLL : Hid _ := hll
 have HAL : Hid _ := hal
 have HI : Hid (∀ r ∈ R, r.ids.length <= 1048576) := hi
 have HRC : Hid (∀ r ∈ R, r.ids.length <= r.c) := hrc
 have HWL : Hid (caseB n zs os vs ko kv fine = true -> ∀ x ∈ L, (Lit.int .i64 x).wf = true) := hwl
 clear hA hO hV hR hL hlo hlv hi hrc hwl hn hll hal
 obtain ⟨v, HVAL⟩ : ∃ v, Hid (planV n zs os vs ko kv fine R L = v) := ⟨_, rfl⟩
 rw [HVAL.out]
 have C0 : Hid (CP w ((w.alloc (.cells #[.int .i64 n, .slice a zs.length cap, .slice ao ko co, .slice av kv cv, .int .i64 fine] 43)).alloc (.cells #[.slice ra R.length rc, .slice la L.length lc] 36)) _ _) := CP.new w _ _
 obtain ⟨c0, c1, c2, c3, c4⟩ := cells5 C0.out.2.1
 go_enter Tryz.func36, Tryz.ntmps36
 go_wp2_with fail
 clear c0 c1 c2 c3 c4
 generalize (w.alloc (.cells #[.int .i64 n, .slice a zs.length cap, .slice ao ko co, .slice av kv cv, .int .i64 fine] 43)).alloc (.cells #[.slice ra R.length rc, .slice la L.length lc] 36) = W0 at *
 refine (implCase_any n fine a ao av cap ko co kv cv zs os vs W0 (HA.out.below C0.out.1) (HO.out.below C0.out.1) (HV.out.below C0.out.1) HLO.out HLV.out hko hkv).mono ?_
 rintro e w1 ⟨rfl, hb⟩
 have C1 : Hid (CP w w1 _ _) := C0.out.below hb
 clear hb C0
 by_cases hc : caseB n zs os vs ko kv fine = true
 · have HC : Hid (caseB n zs os vs ko kv fine = true) := hc
   rw [hc]
   clear hc
   obtain ⟨c0, c1, c2, c3, c4⟩ := cells5 C1.out.2.1
   obtain ⟨d0, d1⟩ := cells2 C1.out.2.2
   go_wp2_with fail
   clear c0 c1 c2 c3 c4 d0 d1
   refine (planCode_any n fine a ao av ra la cap ko co kv cv rc lc zs os vs L R w1 (HA.out.below C1.out.1) (HO.out.below C1.out.1) (HV.out.below C1.out.1) (HR.out.below C1.out.1) (HL.out.below C1.out.1) HLO.out HLV.out hko hkv HN.out HI.out HRC.out HLL.out HAL.out (HWL.out HC.out) HC.out).mono ?_
   rintro e w2 ⟨rfl, hb⟩
   have HB : Hid (Below w.heap.size w w2) := C1.out.1.trans (hb.mono C1.out.1.size)
   clear hb
   rw [HVAL.out]
   go_wp2
   go_ret
   exact ⟨rfl, HB.out⟩
 · have hc2 : caseB n zs os vs ko kv fine = false := by simpa using hc
   have HE : Hid (v = 1) := HVAL.out.symm.trans (planV_1 hc2)
   rw [hc2]
   clear hc hc2
   go_wp2
   go_ret
   exact ⟨by rw [HE.out]; rfl, C1.out.1⟩
theorem implPlan_any (n fine : Int) (a ao av ra la : Option Addr) (cap ko co kv cv rc lc : Nat) (zs os vs L : List Int) (R : List RT) (w : World) (hA : IntsAt w a zs) (hO : IntsAt w ao os) (hV : IntsAt w av vs) (hR : RoutesAt w ra R) (hL : IntsAt w la L) (hlo : os.length = ko * 6) (hlv : vs.length = kv * 5) (hko : ko <= 9223372036854775807) (hkv : kv <= 9223372036854775807) (hn : R.length <= 1048576) (hi : ∀ r ∈ R, r.ids.length <= 1048576) (hrc : ∀ r ∈ R, r.ids.length <= r.c) (hll : L.length <= 1048576) (hal : (allTo R R.length).length <= 1048576) (hwl : ∀ x ∈ L, (Lit.int .i64 x).wf = true) :
   Calls Tryz.prog 36 #[.agg #[.int .i64 n, .slice a zs.length cap, .slice ao ko co, .slice av kv cv, .int .i64 fine], .agg #[.slice ra R.length rc, .slice la L.length lc]] w fun e w' => e = .returned (.int .i64 (planV n zs os vs ko kv fine R L)) /\ Below w.heap.size w w' := by
 exact implPlan_anyC n fine a ao av ra la cap ko co kv cv rc lc zs os vs L R w hA hO hV hR hL hlo hlv hko hkv hn hi hrc hll hal (fun _ => hwl)
end Go.Proofs.YtfpegaldloadaaaGreat
