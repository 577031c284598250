import Derived.Test.YtfpegaldloadaaaGreatPack0
import Derived.Test.YtfpegaldloadaaaGreatPack1
import Derived.Test.YtfpegaldloadaaaGreatPack3
import Derived.Test.YtfpegaldloadaaaGreatPack5
import Derived.Test.YtfpegaldloadaaaGreatPack6
import Derived.Test.YtfpegaldloadaaaGreatImplPlan
import Derived.Test.YtfpegaldloadaaaGreatPack9
import Derived.Test.YtfpegaldloadaaaGreatPack10
namespace Go.Proofs.YtfpegaldloadaaaGreat
open Go.RowKit
theorem append_int20 (w : World) {ops : Array Oper} {rest : List Oper} {o : Oper} {a : Act} {Q : Exit -> Act -> World -> Prop}
   (hg : o.guard = none) (s x : Operand) (hop : o.op = Op.call { callee := Callee.builtin Builtin.append, args := #[s, x], argTypes := #[22, 22] })
   (base : Nat) (v : Value) (k : Nat) (xs : List Value) (hs : a.eval s = v) (hown : w.ownsRow base 2 1 v k xs) (ad : Addr) (c : Nat) (x0 : Value) (hx : a.eval x = .slice (some ad) 1 c)
   (hc : w.cell? ad = some x0) (h1c : x0.oneCell' = true) (b1 : k <= 1048576) (hb : base <= w.heap.size)
   (hK : ∀ v' w', w'.ownsRow base 2 1 v' (k + 1) (xs ++ [x0]) -> w.grownBy w' v.ownBlock -> wpList Tryz.prog ops Q rest (a.put o.dst v') w') :
   wpList Tryz.prog ops Q (o :: rest) a w := by
 obtain ⟨i0, hi, hz0, hz1, hz2⟩ := info_parts Tryz.info2
 exact wpList_append_own w hg s x _ hop base _ i0 _ 1 8 Tryz.underlying22 hi hz0 hz1 hz2 rfl (by decide) v k xs hs hown ad 1 c [x0] hx rfl (one_cell hc) (by simpa using h1c) (by unfold maxLen; omega) (by omega) hb (fun v' w' h1 h2 _ => hK v' w' h1 h2)
theorem own_other {w : World} {base size n k : Nat} {e T : TypeId} {v : Value} {xs : List Value} {cs : Array Value} {q : Nat × Nat} (h : w.ownsRow base e size v n xs) (hr : w.heap[k]? = some (.cells cs T q)) (hT : T ≠ e) : some k ≠ v.ownBlock := fun he => by
 rcases h.2 with ⟨rfl, _⟩ | ⟨g, c, cur, rfl, _, hg, _⟩
 · cases he
 · simp [Value.ownBlock] at he
   rw [<- he, hr] at hg
   simp at hg
   exact hT hg.2.1
theorem CP.grow {w W W' : World} {cs ps : Array Value} {base size n : Nat} {v : Value} {xs : List Value} (h : CP w W cs ps) (ho : W.ownsRow base 2 size v n xs) (hb : w.heap.size <= base) (hg : W.grownBy W' v.ownBlock) : CP w W' cs ps := by
 refine ⟨h.1.grown hg h.1.size (fun j e => ?_), grown_row hg h.2.1 (own_other ho h.2.1 (by decide)), grown_row hg h.2.2 (own_other ho h.2.2 (by decide))⟩
 rcases ho.2 with ⟨rfl, _⟩ | ⟨g, c, cur, rfl, hl, _⟩
 · cases e
 · simp [Value.ownBlock] at e
   omega
theorem CP.alloc {w W : World} {cs ps : Array Value} (h : CP w W cs ps) (o : Obj) : CP w (W.alloc o) cs ps := h.below ((Below.refl _ _).alloc (Nat.le_refl _) _)
theorem CP.drew {w W : World} {cs ps : Array Value} (h : CP w W cs ps) : CP w W.drew cs ps := h.below (Below.refl _ _).drew
theorem CP.big {w W : World} {cs ps : Array Value} (h : CP w W cs ps) : w.heap.size + 1 < W.heap.size := row_lt h.2.2
theorem CP.set {w W : World} {cs ps : Array Value} (h : CP w W cs ps) {k i : Nat} {v : Value} (hk : w.heap.size + 1 < k) : CP w (W.setCell ⟨k, i, none⟩ v) cs ps :=
 ⟨h.1.setCell (by simp; omega) _, by rw [heap_setCell_other _ _ _ _ (by simp; omega)]; exact h.2.1, by rw [heap_setCell_other _ _ _ _ (by simp; omega)]; exact h.2.2⟩
theorem own_begin (w1 : World) : (w1.alloc (.cells #[] 2)).ownsRow w1.heap.size 2 1 (.slice (some ⟨w1.heap.size, 0, none⟩) 0 0) 0 (([] : List Int).map (Value.int .i64)) :=
 ⟨rfl, .inr ⟨w1.heap.size, 0, #[], rfl, Nat.le_refl _, heap_alloc_new _ _, Nat.le_refl _, by unfold maxLen; omega, rfl, rfl⟩⟩
def Tw (tw : Bool) (l : List Int) : Prop := tw = true ↔ ¬ l.Nodup
theorem Tw.nil : Tw false [] := by simp [Tw]
theorem Tw.step {tw : Bool} {l : List Int} (h : Tw tw l) (x : Int) : Tw (tw || decide (x ∈ l)) (l ++ [x]) := by
 unfold Tw at *
 rw [nodup_snoc]
 cases tw
 · have : l.Nodup := by
     by_cases hn : l.Nodup
     · exact hn
     · exact absurd (h.2 hn) (by simp)
   simp [this]
 · have := h.1 rfl
   simp [this]
def TwL (tw : Bool) (fl L : List Int) (j : Nat) : Prop := tw = true ↔ ¬ (fl.Nodup /\ ∀ i, i < j -> L.getD i 0 ∉ fl)
theorem TwL.start {tw : Bool} {fl : List Int} (h : Tw tw fl) (L : List Int) : TwL tw fl L 0 := by
 unfold TwL
 unfold Tw at h
 rw [h]
 constructor
 · intro h1 h2; exact h1 h2.1
 · intro h1 h2; exact h1 ⟨h2, fun i hi => by omega⟩
theorem TwL.step {tw : Bool} {fl L : List Int} {j : Nat} (h : TwL tw fl L j) : TwL (tw || decide (L.getD j 0 ∈ fl)) fl L (j + 1) := by
 unfold TwL at *
 cases tw
 · have h0 : fl.Nodup /\ ∀ i, i < j -> L.getD i 0 ∉ fl := by
     by_cases hn : fl.Nodup /\ ∀ i, i < j -> L.getD i 0 ∉ fl
     · exact hn
     · exact absurd (h.2 hn) (by simp)
   by_cases hm : L.getD j 0 ∈ fl
   · rw [decide_eq_true hm]
     exact ⟨fun _ hx => hx.2 j (by omega) hm, fun _ => rfl⟩
   · rw [decide_eq_false hm]
     refine ⟨fun h => (by cases h), fun hx => absurd ⟨h0.1, fun i hi => ?_⟩ hx⟩
     by_cases e : i = j
     · rw [e]; exact hm
     · exact h0.2 i (by omega)
 · have := h.1 rfl
   exact ⟨fun _ hx => this ⟨hx.1, fun i hi => hx.2 i (by omega)⟩, fun _ => rfl⟩
theorem TwL.done {tw : Bool} {fl L : List Int} (h : TwL tw fl L L.length) : tw = true ↔ ¬ Once fl L := by
 unfold TwL at h
 rw [h]
 unfold Once
 constructor
 · intro h1 h2
   exact h1 ⟨h2.1, fun i hi => h2.2 _ (by rw [List.getD_eq_getElem?_getD, List.getElem?_eq_getElem hi]; simp)⟩
 · intro h1 h2
   refine h1 ⟨h2.1, fun x hx => ?_⟩
   obtain ⟨j, hj, e⟩ := List.getElem_of_mem hx
   have := h2.2 j hj
   rw [List.getD_eq_getElem?_getD, List.getElem?_eq_getElem hj] at this
   rw [<- e]
   exact this
set_option maxRecDepth 10000 in
set_option maxHeartbeats 4000000 in
theorem specPlan_any (n fine : Int) (a ao av ra la : Option Addr) (cap ko co kv cv rc lc : Nat) (zs os vs L : List Int) (R : List RT) (w : World) (hA : IntsAt w a zs) (hO : IntsAt w ao os) (hV : IntsAt w av vs) (hR : RoutesAt w ra R) (hL : IntsAt w la L) (hlo : os.length = ko * 6) (hlv : vs.length = kv * 5) (hko : ko <= 9223372036854775807) (hkv : kv <= 9223372036854775807) (hn : R.length <= 1048576) (hi : ∀ r ∈ R, r.ids.length <= 1048576) (hrc : ∀ r ∈ R, r.ids.length <= r.c) (hll : L.length <= 1048576) (hal : (allTo R R.length).length <= 1048576) :
   Calls Tryz.prog 26 #[.agg #[.int .i64 n, .slice a zs.length cap, .slice ao ko co, .slice av kv cv, .int .i64 fine], .agg #[.slice ra R.length rc, .slice la L.length lc]] w fun e w' => e = .returned (.int .i64 (planV n zs os vs ko kv fine R L)) /\ Below w.heap.size w w' := by
 have HA : Hid (IntsAt w a zs) := hA
 have HO : Hid (IntsAt w ao os) := hO
 have HV : Hid (IntsAt w av vs) := hV
 have HR : Hid (RoutesAt w ra R) := hR
 have HL : Hid (IntsAt w la L) := hL
 have HLO : Hid _ := hlo
 have HLV : Hid _ := hlv
 have HAL : Hid _ := hal
 have HI : Hid (∀ r ∈ R, r.ids.length <= 1048576) := hi
 have HRC : Hid (∀ r ∈ R, r.ids.length <= r.c) := hrc
 clear hA hO hV hR hL hlo hlv hi hrc hal
 obtain ⟨v, HVAL⟩ : ∃ v, Hid (planV n zs os vs ko kv fine R L = v) := ⟨_, rfl⟩
 rw [HVAL.out]
 obtain ⟨m, HN⟩ : ∃ n, Hid (R.length = n) := ⟨_, rfl⟩
 obtain ⟨ml, HM⟩ : ∃ n, Hid (L.length = n) := ⟨_, rfl⟩
 rw [HN.out] at hn ⊢
 rw [HM.out] at hll ⊢
 have C0 : Hid (CP w ((w.alloc (.cells #[.int .i64 n, .slice a zs.length cap, .slice ao ko co, .slice av kv cv, .int .i64 fine] 43)).alloc (.cells #[.slice ra m rc, .slice la ml lc] 36)) _ _) := CP.new w _ _
 obtain ⟨c0, c1, c2, c3, c4⟩ := cells5 C0.out.2.1
 go_enter Tryz.func26, Tryz.ntmps26
 go_wp2_with fail
 clear c0 c1 c2 c3 c4
 generalize (w.alloc (.cells #[.int .i64 n, .slice a zs.length cap, .slice ao ko co, .slice av kv cv, .int .i64 fine] 43)).alloc (.cells #[.slice ra m rc, .slice la ml lc] 36) = W0 at *
 refine (specCase_any n fine a ao av cap ko co kv cv zs os vs W0 (HA.out.below C0.out.1) (HO.out.below C0.out.1) (HV.out.below C0.out.1) HLO.out HLV.out hko hkv).mono ?_
 rintro e w1 ⟨rfl, hb⟩
 have C1 : Hid (CP w w1 #[.int .i64 n, .slice a zs.length cap, .slice ao ko co, .slice av kv cv, .int .i64 fine] #[.slice ra m rc, .slice la ml lc]) := C0.out.below hb
 clear hb C0
 by_cases hc2 : caseB n zs os vs ko kv fine = false
 · have HE : Hid (v = 1) := HVAL.out.symm.trans (planV_1 hc2)
   rw [hc2]
   clear hc2
   go_wp2
   go_ret
   exact ⟨by rw [HE.out]; rfl, C1.out.1⟩
 have hcc : caseB n zs os vs ko kv fine = true := by simpa using hc2
 have HC : Hid (caseB n zs os vs ko kv fine = true) := hcc
 rw [HC.out]
 clear hc2 hcc
 have HBASE : Hid (w.heap.size <= w1.heap.size) := C1.out.1.size
 have O0 : Hid ((w1.alloc (.cells #[] 2)).ownsRow w1.heap.size 2 1 (.slice (some ⟨w1.heap.size, 0, none⟩) 0 0) 0 (([] : List Int).map (Value.int .i64))) := own_begin w1
 have C2 : Hid (CP w (w1.alloc (.cells #[] 2)) #[.int .i64 n, .slice a zs.length cap, .slice ao ko co, .slice av kv cv, .int .i64 fine] #[.slice ra m rc, .slice la ml lc]) := C1.out.below ((Below.refl _ _).alloc (Nat.le_refl _) _)
 have HSZ : Hid (w1.heap.size <= (w1.alloc (.cells #[] 2)).heap.size) := by show _ <= _; simp
 go_wp2_with fail
 generalize hZ : w1.alloc (.cells #[] 2) = W2 at *
 generalize w1.heap.size = base at *
 clear hZ C1
 go_loopw [5, 6, 7] (fun ts tt ti wr => ∃ (k : Nat) (tw : Bool), k <= m /\ ti = .int .i64 k /\ tt = .bool tw /\ Tw tw (allTo R k) /\ RtsOk n zs os vs ko kv R k /\ wr.ownsRow base 2 1 ts (allTo R k).length ((allTo R k).map (Value.int .i64)) /\ CP w wr #[.int .i64 n, .slice a zs.length cap, .slice ao ko co, .slice av kv cv, .int .i64 fine] #[.slice ra m rc, .slice la ml lc] /\ base <= wr.heap.size) (fun _ _ ti _ => m - (intOf ti).toNat)
 case atStart => exact ⟨0, false, Nat.zero_le _, rfl, rfl, by rw [allTo_zero]; exact Tw.nil, RtsOk.zero _ _ _ _ _ _ _, by rw [allTo_zero]; exact O0.out, C2.out, HSZ.out⟩
 case round =>
   clear C2 O0 HSZ
   obtain ⟨k, tw, hk, rfl, rfl, htw, hok, hown, hcp, hsz⟩ := hrel
   have TW : Hid (Tw tw (allTo R k)) := htw
   have OK : Hid (RtsOk n zs os vs ko kv R k) := hok
   have OW : Hid (wr.ownsRow base 2 1 u5 (allTo R k).length ((allTo R k).map (Value.int .i64))) := hown
   have CW : Hid (CP w wr #[.int .i64 n, .slice a zs.length cap, .slice ao ko co, .slice av kv cv, .int .i64 fine] #[.slice ra m rc, .slice la ml lc]) := hcp
   have SZ : Hid (base <= wr.heap.size) := hsz
   clear htw hok hown hcp hsz
   by_cases hlt : k < m
   · have hkl : k < R.length := by rw [HN.out]; exact hlt
     have hmem : R.getD k rt0 ∈ R := by rw [List.getD_eq_getElem?_getD, List.getElem?_eq_getElem hkl]; simp
     have hRW := HR.out.below CW.out.1
     obtain ⟨b, off, rfl, h1, h2, h3⟩ := hRW k hkl
     have iw : IntsAt w (R.getD k rt0).a (R.getD k rt0).ids := by obtain ⟨_, _, _, _, _, i⟩ := HR.out k hkl; exact i
     have hml := HI.out _ hmem
     have HRCL : Hid _ := HRC.out _ hmem
     have HNIL : Hid ((R.getD k rt0).ids.length = 0 -> v = 2) := fun h => HVAL.out.symm.trans (planV_2 HC.out (HN.out ▸ fun H => (H k hlt).2.1 (List.eq_nil_of_length_eq_zero h)))
     have HCOD : Hid (codeV true n zs os vs ko kv (R.getD k rt0).v (R.getD k rt0).ids ≠ 0 -> v = 2) := fun h => HVAL.out.symm.trans (planV_2 HC.out (HN.out ▸ fun H => h (H k hlt).2.2))
     have HLOW : Hid (0 < k -> ¬ (R.getD (k - 1) rt0).v < (R.getD k rt0).v -> v = 2) := fun h0 h => HVAL.out.symm.trans (planV_2 HC.out (HN.out ▸ fun H => h ((H k hlt).1 h0)))
     have HSTEP : Hid ((0 < k -> (R.getD (k - 1) rt0).v < (R.getD k rt0).v) -> ¬ (R.getD k rt0).ids.length = 0 -> codeV true n zs os vs ko kv (R.getD k rt0).v (R.getD k rt0).ids = 0 -> RtsOk n zs os vs ko kv R (k + 1)) := fun h1 h2 h3 => OK.out.step h1 (fun e => h2 (by rw [e]; rfl)) h3
     have HALLS : Hid (allTo R (k + 1) = allTo R k ++ (R.getD k rt0).ids) := allTo_succ hkl
     have HPART : Hid (∀ j, j <= (R.getD k rt0).ids.length -> (allTo R k ++ (R.getD k rt0).ids.take j).length <= 1048576) := fun j hj => Nat.le_trans (allTo_take hkl hj) HAL.out
     obtain ⟨r, HRT⟩ : ∃ r, Hid (R.getD k rt0 = r) := ⟨_, rfl⟩
     rw [HRT.out] at h1 h2 h3 iw hml HRCL HNIL HCOD HLOW HSTEP HALLS HPART
     have hpv : 0 < k -> ∃ p, (R.getD (k - 1) rt0).v = p /\ wr.cell? ⟨b, off + (k - 1) * 2, none⟩ = some (.int .i64 p) := fun h0 => by
       obtain ⟨b', off', e, h1', _, _⟩ := hRW (k - 1) (by omega)
       simp at e
       obtain ⟨rfl, rfl⟩ := e
       exact ⟨_, rfl, h1'⟩
     have HPV : Hid _ := hpv
     obtain ⟨ra0, HRA⟩ : ∃ x, Hid (r.a = x) := ⟨_, rfl⟩
     rw [HRA.out] at h2 h3 iw
     have IR : Hid (IntsAt wr ra0 r.ids) := h3
     have IW : Hid (IntsAt w ra0 r.ids) := iw
     clear h3 iw hmem hRW hpv hkl
     obtain ⟨q, HQ⟩ : ∃ q, Hid (r.ids.length = q) := ⟨_, rfl⟩
     rw [HQ.out] at h2 hml HRCL HNIL HSTEP HPART
     obtain ⟨d0, d1⟩ := cells2 CW.out.2.2
     go_wp2_with fail
     clear d0 d1
     have BX : Hid (Below wr.heap.size wr (wr.alloc (.cells #[Value.int .i64 r.v, Value.slice ra0 q r.c] 100))) := (Below.refl _ _).alloc (Nat.le_refl _) _
     have GX : Hid ((wr.alloc (.cells #[Value.int .i64 r.v, Value.slice ra0 q r.c] 100)).heap[wr.heap.size]? = _) := heap_alloc_new _ _
     generalize (wr.alloc (.cells #[Value.int .i64 r.v, Value.slice ra0 q r.c] 100)) = W1 at *
     have CX : Hid (CP w W1 #[.int .i64 n, .slice a zs.length cap, .slice ao ko co, .slice av kv cv, .int .i64 fine] #[.slice (some ⟨b, off, none⟩) m rc, .slice la ml lc]) := CW.out.below BX.out
     have IX : Hid (IntsAt W1 ra0 r.ids) := IR.out.below BX.out
     have OX1 : Hid (W1.ownsRow base 2 1 u5 (allTo R k).length ((allTo R k).map (Value.int .i64))) := owns_below OW.out BX.out
     have SX : Hid (base <= W1.heap.size) := Nat.le_trans SZ.out BX.out.size
     have HPX : Hid (0 < k -> ∃ p, (R.getD (k - 1) rt0).v = p /\ W1.cell? ⟨b, off + (k - 1) * 2, none⟩ = some (.int .i64 p)) := fun h0 => by
       obtain ⟨p, e, hc⟩ := HPV.out h0
       exact ⟨p, e, (BX.out.cell (p := ⟨b, off + (k - 1) * 2, none⟩) (block_lt_of_cell hc)).trans hc⟩
     generalize wr.heap.size = g8 at *
     clear h1 h2 CW IR OW SZ HPV BX
     obtain ⟨c0, c1, c2, c3, c4⟩ := cells5 CX.out.2.1
     obtain ⟨d0, d1⟩ := cells2 CX.out.2.2
     obtain ⟨x0, x1⟩ := cells2 GX.out
     have s0 := fun s : Kin W1 => s.cell c0
     have s1 := fun s : Kin W1 => s.cell c1
     have s2 := fun s : Kin W1 => s.cell c2
     have s3 := fun s : Kin W1 => s.cell c3
     have s4 := fun s : Kin W1 => s.cell c4
     have t0 := fun s : Kin W1 => s.cell d0
     have y0 := fun s : Kin W1 => s.cell x0
     have y1 := fun s : Kin W1 => s.cell x1
     clear c0 c1 c2 c3 c4 d0 d1 x0 x1
     have HOKC : Hid (∀ (s : Kin W1) (vb : Bool), decide (codeV true n zs os vs ko kv r.v r.ids = 0) = vb -> Calls Tryz.prog 59 #[.agg #[.int .i64 n, .slice a zs.length cap, .slice ao ko co, .slice av kv cv, .int .i64 fine], .agg #[.int .i64 r.v, .slice ra0 q r.c]] s.w fun e w' => e = .returned (.bool vb) /\ ∃ s' : Kin W1, w' = s'.w) := fun s vb hvb => by
       have := l3Ok_any n fine r.v a ao av ra0 cap ko co kv cv r.c zs os vs r.ids s.w ((HA.out.below CX.out.1).below s.below) ((HO.out.below CX.out.1).below s.below) ((HV.out.below CX.out.1).below s.below) (IX.out.below s.below) HLO.out HLV.out hko hkv (by rw [HQ.out]; omega) (by rw [HQ.out]; exact HRCL.out) vb (by rw [HC.out]; exact hvb)
       rw [HQ.out] at this
       exact Kin.call this
     have hkin := Kin.there W1
     have HGO : Hid ((0 < k -> (R.getD (k - 1) rt0).v < r.v) ∨ (0 < k /\ ¬ (R.getD (k - 1) rt0).v < r.v)) := by
       show _ ∨ _
       by_cases h0 : 0 < k
       · by_cases h : (R.getD (k - 1) rt0).v < r.v
         · exact .inl fun _ => h
         · exact .inr ⟨h0, h⟩
       · exact .inl fun h => absurd h h0
     by_cases hk0 : 0 < k
     · obtain ⟨p, hpe, hpc⟩ := HPX.out hk0
       have HPE : Hid ((R.getD (k - 1) rt0).v = p) := hpe
       have tp := fun s : Kin W1 => s.cell hpc
       have hkm : k - 1 < m := by omega
       have hw1 : IntKind.i64.wrap ((k : Int) - 1) = ((k - 1 : Nat) : Int) := by rw [IntKind.wrap_i64]; omega
       clear hpe hpc
       by_cases hp : p < r.v
       · have hpd : decide (r.v <= p) = false := by simp; omega
         by_cases hq : q = 0
         · have HE : Hid (v = 2) := HNIL.out hq
           have hq1 : ((q : Int) == 0) = true := by simp [hq]
           refine wp_region_kin (by kernel_rfl) (by kernel_rfl) ?_
           repeat (go_big_quiet_step (fail))
           refine wpQuiet_nil ?_
           rintro _ ⟨s, rfl⟩
           have C3 : Hid (CP w s.w #[.int .i64 n, .slice a zs.length cap, .slice ao ko co, .slice av kv cv, .int .i64 fine] #[.slice (some ⟨b, off, none⟩) m rc, .slice la ml lc]) := CX.out.below s.below
           generalize s.w = w3 at *
           go_wp2
           go_ret
           exact ⟨by rw [HE.out]; rfl, C3.out.1⟩
         · have hq1 : ((q : Int) == 0) = false := by simp; omega
           obtain ⟨b2, off2, rfl, -⟩ := IW.out 0 (by rw [HQ.out]; omega)
           by_cases hcode : ¬ codeV true n zs os vs ko kv r.v r.ids = 0
           · have HE : Hid (v = 2) := HCOD.out hcode
             have HCN : Hid _ := hcode
             clear hcode
             refine wp_region_kin (by kernel_rfl) (by kernel_rfl) ?_
             repeat (go_big_quiet_step ((go_at_call 59; exact HOKC.out _ _ (decide_eq_false HCN.out))))
             refine wpQuiet_nil ?_
             rintro _ ⟨s, rfl⟩
             have C3 : Hid (CP w s.w #[.int .i64 n, .slice a zs.length cap, .slice ao ko co, .slice av kv cv, .int .i64 fine] #[.slice (some ⟨b, off, none⟩) m rc, .slice la ml lc]) := CX.out.below s.below
             generalize s.w = w3 at *
             go_wp2
             go_ret
             exact ⟨by rw [HE.out]; rfl, C3.out.1⟩
           · have hcode := Decidable.not_not.1 hcode
             have OK1 : Hid (RtsOk n zs os vs ko kv R (k + 1)) := HSTEP.out (fun _ => by rw [HPE.out]; exact hp) hq hcode
             have HCN : Hid _ := hcode
             clear hcode
             refine wp_region_kin (by kernel_rfl) (by kernel_rfl) ?_
             repeat (go_big_quiet_step ((go_at_call 59; exact HOKC.out _ _ (decide_eq_true HCN.out))))
             refine wpQuiet_nil ?_
             rintro _ ⟨s, rfl⟩
             have C3 : Hid (CP w s.w #[.int .i64 n, .slice a zs.length cap, .slice ao ko co, .slice av kv cv, .int .i64 fine] #[.slice (some ⟨b, off, none⟩) m rc, .slice la ml lc]) := CX.out.below s.below
             have G3 : Hid (s.w.heap[g8]? = some (.cells #[Value.int .i64 r.v, Value.slice (some ⟨b2, off2, none⟩) q r.c] 100 (0, 0))) := below_row s.below (row_lt GX.out) GX.out
             have I3 : Hid (IntsAt s.w (some ⟨b2, off2, none⟩) r.ids) := IX.out.below s.below
             have O3 : Hid (s.w.ownsRow base 2 1 u5 (allTo R k).length ((allTo R k).map (Value.int .i64))) := owns_below OX1.out s.below
             have Z3 : Hid (base <= s.w.heap.size) := Nat.le_trans SX.out s.below.size
             generalize s.w = w3 at *
             clear s0 s1 s2 s3 s4 t0 y0 y1 CX GX IX OX1 SX HOKC hkin HSTEP HNIL HCOD HLOW HRCL HPX hq hq1 hcode HCN HGO OK I3
             clear tp hkm hw1 hp hpd hk0 HPE
             go_wp2_with fail
             go_loopw [5, 6, 9] (fun ts tt ti wr => ∃ (j : Nat) (tw : Bool), j <= q /\ ti = .int .i64 j /\ tt = .bool tw /\ Tw tw (allTo R k ++ r.ids.take j) /\ wr.ownsRow base 2 1 ts (allTo R k ++ r.ids.take j).length ((allTo R k ++ r.ids.take j).map (Value.int .i64)) /\ CP w wr #[.int .i64 n, .slice a zs.length cap, .slice ao ko co, .slice av kv cv, .int .i64 fine] #[.slice (some ⟨b, off, none⟩) m rc, .slice la ml lc] /\ base <= wr.heap.size /\ wr.heap[g8]? = some (.cells #[Value.int .i64 r.v, Value.slice (some ⟨b2, off2, none⟩) q r.c] 100 (0, 0))) (fun _ _ ti _ => q - (intOf ti).toNat)
             case atStart => exact ⟨0, tw, Nat.zero_le _, rfl, rfl, by rw [List.take_zero, List.append_nil]; exact TW.out, by rw [List.take_zero, List.append_nil]; exact O3.out, C3.out, Z3.out, G3.out⟩
             case round =>
               clear C3 O3 Z3 G3 TW
               obtain ⟨j, tw2, hj, rfl, rfl, htw, hown, hcp, hsz, hg8⟩ := hrel
               have SZ2 : Hid (base <= wr.heap.size) := hsz
               have CW2 : Hid (CP w wr #[.int .i64 n, .slice a zs.length cap, .slice ao ko co, .slice av kv cv, .int .i64 fine] #[.slice (some ⟨b, off, none⟩) m rc, .slice la ml lc]) := hcp
               have G82 : Hid (wr.heap[g8]? = _) := hg8
               have HFLN : Hid ((allTo R k ++ r.ids.take j).length <= 1048576) := HPART.out j hj
               by_cases hjq : j < q
               · have hjl : j < r.ids.length := by rw [HQ.out]; exact hjq
                 have HSN : Hid (allTo R k ++ r.ids.take (j + 1) = (allTo R k ++ r.ids.take j) ++ [r.ids.getD j 0]) := by show _ = _; rw [take_snoc _ _ hjl, List.append_assoc]
                 obtain ⟨fl, HFL⟩ : ∃ l, Hid (allTo R k ++ r.ids.take j = l) := ⟨_, rfl⟩
                 obtain ⟨id, HID⟩ : ∃ t, Hid (r.ids.getD j 0 = t) := ⟨_, rfl⟩
                 rw [HID.out] at HSN
                 have hcc := ints_cell (IW.out.below hcp.1) hjl HID.out
                 rw [HFL.out] at htw hown HFLN HSN
                 have TW2 : Hid (Tw tw2 fl) := htw
                 obtain ⟨sa, sc, rfl, hxl, hsI⟩ := owns_at1 hown
                 have OW2 : Hid (wr.ownsRow base 2 1 (.slice sa fl.length sc) fl.length (fl.map (Value.int .i64))) := hown
                 have SI : Hid (IntsAt wr sa fl) := hsI
                 have hfl : fl.length <= 1048576 := HFLN.out
                 have HHAS : Hid (hasTo fl fl.length id = decide (id ∈ fl)) := hasTo_mem fl id
                 clear htw hown hcp hsz hg8 hsI hxl hjl HFLN
                 obtain ⟨bb, HBB⟩ : ∃ t, Hid (decide (id ∈ fl) = t) := ⟨_, rfl⟩
                 rw [HBB.out] at HHAS
                 have HTN : Hid (Tw (tw2 || bb) (allTo R k ++ r.ids.take (j + 1))) := by
                   have := TW2.out.step id
                   rw [HBB.out] at this
                   rw [HSN.out]
                   exact this
                 obtain ⟨nf, HNF⟩ : ∃ t, Hid (fl.length = t) := ⟨_, rfl⟩
                 have HCALL := l3Has_is sa fl.length sc id fl wr bb HHAS.out SI.out (Nat.le_refl _) (by omega)
                 rw [HNF.out] at hfl OW2 HCALL ⊢
                 obtain ⟨x0, x1⟩ := cells2 G82.out
                 cases tw2
                 · go_wp2_with (first
                     | (go_at_call 27; refine HCALL.mono ?_; rintro e w' ⟨rfl, rfl⟩)
                     | (at_builtin; refine append_int20 _ rfl _ _ rfl base (.slice sa nf sc) nf _ rfl (OW2.out.alloc _) _ _ (.int .i64 id) rfl (cell_new1 _ _ _ _ (by simp)) rfl (by omega) (Nat.le_trans SZ2.out (by simp)) ?_; intro v' w4 hown4 hgrow4)
                     | go_in)
                   have CA : Hid (CP w _ #[.int .i64 n, .slice a zs.length cap, .slice ao ko co, .slice av kv cv, .int .i64 fine] #[.slice (some ⟨b, off, none⟩) m rc, .slice la ml lc]) := CW2.out.below ((Below.refl _ _).alloc (Nat.le_refl _) (.cells #[Value.int .i64 id] 2))
                   have GA : Hid _ := below_row ((Below.refl _ _).alloc (Nat.le_refl _) (.cells #[Value.int .i64 id] 2)) (row_lt G82.out) G82.out
                   have CB : Hid (CP w w4 #[.int .i64 n, .slice a zs.length cap, .slice ao ko co, .slice av kv cv, .int .i64 fine] #[.slice (some ⟨b, off, none⟩) m rc, .slice la ml lc]) := CA.out.grow (OW2.out.alloc _) HBASE.out hgrow4
                   have GB : Hid (w4.heap[g8]? = _) := grown_row hgrow4 GA.out (own_other (OW2.out.alloc _) GA.out (by decide))
                   have ZB : Hid (base <= w4.heap.size) := by
                     have h1 := hgrow4.size
                     have h2 := SZ2.out
                     simp at h1
                     show _ <= _
                     omega
                   have OB : Hid (w4.ownsRow base 2 1 v' (allTo R k ++ r.ids.take (j + 1)).length ((allTo R k ++ r.ids.take (j + 1)).map (Value.int .i64))) := by
                     rw [HSN.out, List.length_append, List.map_append, HNF.out]
                     exact hown4
                   clear CA GA
                   go_roundw
                   case rel => exact ⟨j + 1, _, by omega, by go_num, rfl, HTN.out, OB.out, CB.out, ZB.out, GB.out⟩
                   case measure => simp [intOf]; omega
                 · go_wp2_with (first
                     | (at_builtin; refine append_int20 _ rfl _ _ rfl base (.slice sa nf sc) nf _ rfl (OW2.out.alloc _) _ _ (.int .i64 id) rfl (cell_new1 _ _ _ _ (by simp)) rfl (by omega) (Nat.le_trans SZ2.out (by simp)) ?_; intro v' w4 hown4 hgrow4)
                     | go_in)
                   have CA : Hid (CP w _ #[.int .i64 n, .slice a zs.length cap, .slice ao ko co, .slice av kv cv, .int .i64 fine] #[.slice (some ⟨b, off, none⟩) m rc, .slice la ml lc]) := CW2.out.below ((Below.refl _ _).alloc (Nat.le_refl _) (.cells #[Value.int .i64 id] 2))
                   have GA : Hid _ := below_row ((Below.refl _ _).alloc (Nat.le_refl _) (.cells #[Value.int .i64 id] 2)) (row_lt G82.out) G82.out
                   have CB : Hid (CP w w4 #[.int .i64 n, .slice a zs.length cap, .slice ao ko co, .slice av kv cv, .int .i64 fine] #[.slice (some ⟨b, off, none⟩) m rc, .slice la ml lc]) := CA.out.grow (OW2.out.alloc _) HBASE.out hgrow4
                   have GB : Hid (w4.heap[g8]? = _) := grown_row hgrow4 GA.out (own_other (OW2.out.alloc _) GA.out (by decide))
                   have ZB : Hid (base <= w4.heap.size) := by
                     have h1 := hgrow4.size
                     have h2 := SZ2.out
                     simp at h1
                     show _ <= _
                     omega
                   have OB : Hid (w4.ownsRow base 2 1 v' (allTo R k ++ r.ids.take (j + 1)).length ((allTo R k ++ r.ids.take (j + 1)).map (Value.int .i64))) := by
                     rw [HSN.out, List.length_append, List.map_append, HNF.out]
                     exact hown4
                   clear CA GA
                   go_roundw
                   case rel => exact ⟨j + 1, _, by omega, by go_num, rfl, HTN.out, OB.out, CB.out, ZB.out, GB.out⟩
                   case measure => simp [intOf]; omega
               · have hjq2 : j = q := by omega
                 have HA2 : Hid (allTo R k ++ r.ids.take j = allTo R (k + 1)) := by
                   show _ = _
                   rw [HALLS.out, hjq2, <- HQ.out, List.take_length]
                 rw [HA2.out] at htw hown
                 have TW3 : Hid (Tw tw2 (allTo R (k + 1))) := htw
                 have OW3 : Hid (wr.ownsRow base 2 1 u5 (allTo R (k + 1)).length ((allTo R (k + 1)).map (Value.int .i64))) := hown
                 obtain ⟨x0, x1⟩ := cells2 G82.out
                 clear hjq2 htw hown hcp hsz hg8
                 go_wp2
                 first
                   | exact ⟨⟨k + 1, tw2, by omega, by go_num, rfl, TW3.out, OK1.out, OW3.out, CW2.out, SZ2.out⟩, by simp [intOf]; omega⟩
                   | (go_roundw
                      case rel => exact ⟨k + 1, tw2, by omega, by go_num, rfl, TW3.out, OK1.out, OW3.out, CW2.out, SZ2.out⟩
                      case measure => simp [intOf]; omega)
       · have HE : Hid (v = 2) := HLOW.out hk0 (by rw [HPE.out]; first | exact hp | omega)
         have hpd : decide (r.v <= p) = true := by simp; omega
         refine wp_region_kin (by kernel_rfl) (by kernel_rfl) ?_
         repeat (go_big_quiet_step (fail))
         refine wpQuiet_nil ?_
         rintro _ ⟨s, rfl⟩
         have C3 : Hid (CP w s.w #[.int .i64 n, .slice a zs.length cap, .slice ao ko co, .slice av kv cv, .int .i64 fine] #[.slice (some ⟨b, off, none⟩) m rc, .slice la ml lc]) := CX.out.below s.below
         generalize s.w = w3 at *
         go_wp2
         go_ret
         exact ⟨by rw [HE.out]; rfl, C3.out.1⟩
     · have hkz : (decide (0 < k)) = false := by simp; omega
       have hk1 : k <= 0 := by omega
       by_cases hq : q = 0
       · have HE : Hid (v = 2) := HNIL.out hq
         have hq1 : ((q : Int) == 0) = true := by simp [hq]
         refine wp_region_kin (by kernel_rfl) (by kernel_rfl) ?_
         repeat (go_big_quiet_step (fail))
         refine wpQuiet_nil ?_
         rintro _ ⟨s, rfl⟩
         have C3 : Hid (CP w s.w #[.int .i64 n, .slice a zs.length cap, .slice ao ko co, .slice av kv cv, .int .i64 fine] #[.slice (some ⟨b, off, none⟩) m rc, .slice la ml lc]) := CX.out.below s.below
         generalize s.w = w3 at *
         go_wp2
         go_ret
         exact ⟨by rw [HE.out]; rfl, C3.out.1⟩
       · have hq1 : ((q : Int) == 0) = false := by simp; omega
         obtain ⟨b2, off2, rfl, -⟩ := IW.out 0 (by rw [HQ.out]; omega)
         by_cases hcode : ¬ codeV true n zs os vs ko kv r.v r.ids = 0
         · have HE : Hid (v = 2) := HCOD.out hcode
           have HCN : Hid _ := hcode
           clear hcode
           refine wp_region_kin (by kernel_rfl) (by kernel_rfl) ?_
           repeat (go_big_quiet_step ((go_at_call 59; exact HOKC.out _ _ (decide_eq_false HCN.out))))
           refine wpQuiet_nil ?_
           rintro _ ⟨s, rfl⟩
           have C3 : Hid (CP w s.w #[.int .i64 n, .slice a zs.length cap, .slice ao ko co, .slice av kv cv, .int .i64 fine] #[.slice (some ⟨b, off, none⟩) m rc, .slice la ml lc]) := CX.out.below s.below
           generalize s.w = w3 at *
           go_wp2
           go_ret
           exact ⟨by rw [HE.out]; rfl, C3.out.1⟩
         · have hcode := Decidable.not_not.1 hcode
           have OK1 : Hid (RtsOk n zs os vs ko kv R (k + 1)) := HSTEP.out (fun h => absurd h hk0) hq hcode
           have HCN : Hid _ := hcode
           clear hcode
           refine wp_region_kin (by kernel_rfl) (by kernel_rfl) ?_
           repeat (go_big_quiet_step ((go_at_call 59; exact HOKC.out _ _ (decide_eq_true HCN.out))))
           refine wpQuiet_nil ?_
           rintro _ ⟨s, rfl⟩
           have C3 : Hid (CP w s.w #[.int .i64 n, .slice a zs.length cap, .slice ao ko co, .slice av kv cv, .int .i64 fine] #[.slice (some ⟨b, off, none⟩) m rc, .slice la ml lc]) := CX.out.below s.below
           have G3 : Hid (s.w.heap[g8]? = some (.cells #[Value.int .i64 r.v, Value.slice (some ⟨b2, off2, none⟩) q r.c] 100 (0, 0))) := below_row s.below (row_lt GX.out) GX.out
           have I3 : Hid (IntsAt s.w (some ⟨b2, off2, none⟩) r.ids) := IX.out.below s.below
           have O3 : Hid (s.w.ownsRow base 2 1 u5 (allTo R k).length ((allTo R k).map (Value.int .i64))) := owns_below OX1.out s.below
           have Z3 : Hid (base <= s.w.heap.size) := Nat.le_trans SX.out s.below.size
           generalize s.w = w3 at *
           clear s0 s1 s2 s3 s4 t0 y0 y1 CX GX IX OX1 SX HOKC hkin HSTEP HNIL HCOD HLOW HRCL HPX hq hq1 hcode HCN HGO OK I3
           clear hkz hk1 hk0
           go_wp2_with fail
           go_loopw [5, 6, 9] (fun ts tt ti wr => ∃ (j : Nat) (tw : Bool), j <= q /\ ti = .int .i64 j /\ tt = .bool tw /\ Tw tw (allTo R k ++ r.ids.take j) /\ wr.ownsRow base 2 1 ts (allTo R k ++ r.ids.take j).length ((allTo R k ++ r.ids.take j).map (Value.int .i64)) /\ CP w wr #[.int .i64 n, .slice a zs.length cap, .slice ao ko co, .slice av kv cv, .int .i64 fine] #[.slice (some ⟨b, off, none⟩) m rc, .slice la ml lc] /\ base <= wr.heap.size /\ wr.heap[g8]? = some (.cells #[Value.int .i64 r.v, Value.slice (some ⟨b2, off2, none⟩) q r.c] 100 (0, 0))) (fun _ _ ti _ => q - (intOf ti).toNat)
           case atStart => exact ⟨0, tw, Nat.zero_le _, rfl, rfl, by rw [List.take_zero, List.append_nil]; exact TW.out, by rw [List.take_zero, List.append_nil]; exact O3.out, C3.out, Z3.out, G3.out⟩
           case round =>
             clear C3 O3 Z3 G3 TW
             obtain ⟨j, tw2, hj, rfl, rfl, htw, hown, hcp, hsz, hg8⟩ := hrel
             have SZ2 : Hid (base <= wr.heap.size) := hsz
             have CW2 : Hid (CP w wr #[.int .i64 n, .slice a zs.length cap, .slice ao ko co, .slice av kv cv, .int .i64 fine] #[.slice (some ⟨b, off, none⟩) m rc, .slice la ml lc]) := hcp
             have G82 : Hid (wr.heap[g8]? = _) := hg8
             have HFLN : Hid ((allTo R k ++ r.ids.take j).length <= 1048576) := HPART.out j hj
             by_cases hjq : j < q
             · have hjl : j < r.ids.length := by rw [HQ.out]; exact hjq
               have HSN : Hid (allTo R k ++ r.ids.take (j + 1) = (allTo R k ++ r.ids.take j) ++ [r.ids.getD j 0]) := by show _ = _; rw [take_snoc _ _ hjl, List.append_assoc]
               obtain ⟨fl, HFL⟩ : ∃ l, Hid (allTo R k ++ r.ids.take j = l) := ⟨_, rfl⟩
               obtain ⟨id, HID⟩ : ∃ t, Hid (r.ids.getD j 0 = t) := ⟨_, rfl⟩
               rw [HID.out] at HSN
               have hcc := ints_cell (IW.out.below hcp.1) hjl HID.out
               rw [HFL.out] at htw hown HFLN HSN
               have TW2 : Hid (Tw tw2 fl) := htw
               obtain ⟨sa, sc, rfl, hxl, hsI⟩ := owns_at1 hown
               have OW2 : Hid (wr.ownsRow base 2 1 (.slice sa fl.length sc) fl.length (fl.map (Value.int .i64))) := hown
               have SI : Hid (IntsAt wr sa fl) := hsI
               have hfl : fl.length <= 1048576 := HFLN.out
               have HHAS : Hid (hasTo fl fl.length id = decide (id ∈ fl)) := hasTo_mem fl id
               clear htw hown hcp hsz hg8 hsI hxl hjl HFLN
               obtain ⟨bb, HBB⟩ : ∃ t, Hid (decide (id ∈ fl) = t) := ⟨_, rfl⟩
               rw [HBB.out] at HHAS
               have HTN : Hid (Tw (tw2 || bb) (allTo R k ++ r.ids.take (j + 1))) := by
                 have := TW2.out.step id
                 rw [HBB.out] at this
                 rw [HSN.out]
                 exact this
               obtain ⟨nf, HNF⟩ : ∃ t, Hid (fl.length = t) := ⟨_, rfl⟩
               have HCALL := l3Has_is sa fl.length sc id fl wr bb HHAS.out SI.out (Nat.le_refl _) (by omega)
               rw [HNF.out] at hfl OW2 HCALL ⊢
               obtain ⟨x0, x1⟩ := cells2 G82.out
               cases tw2
               · go_wp2_with (first
                   | (go_at_call 27; refine HCALL.mono ?_; rintro e w' ⟨rfl, rfl⟩)
                   | (at_builtin; refine append_int20 _ rfl _ _ rfl base (.slice sa nf sc) nf _ rfl (OW2.out.alloc _) _ _ (.int .i64 id) rfl (cell_new1 _ _ _ _ (by simp)) rfl (by omega) (Nat.le_trans SZ2.out (by simp)) ?_; intro v' w4 hown4 hgrow4)
                   | go_in)
                 have CA : Hid (CP w _ #[.int .i64 n, .slice a zs.length cap, .slice ao ko co, .slice av kv cv, .int .i64 fine] #[.slice (some ⟨b, off, none⟩) m rc, .slice la ml lc]) := CW2.out.below ((Below.refl _ _).alloc (Nat.le_refl _) (.cells #[Value.int .i64 id] 2))
                 have GA : Hid _ := below_row ((Below.refl _ _).alloc (Nat.le_refl _) (.cells #[Value.int .i64 id] 2)) (row_lt G82.out) G82.out
                 have CB : Hid (CP w w4 #[.int .i64 n, .slice a zs.length cap, .slice ao ko co, .slice av kv cv, .int .i64 fine] #[.slice (some ⟨b, off, none⟩) m rc, .slice la ml lc]) := CA.out.grow (OW2.out.alloc _) HBASE.out hgrow4
                 have GB : Hid (w4.heap[g8]? = _) := grown_row hgrow4 GA.out (own_other (OW2.out.alloc _) GA.out (by decide))
                 have ZB : Hid (base <= w4.heap.size) := by
                   have h1 := hgrow4.size
                   have h2 := SZ2.out
                   simp at h1
                   show _ <= _
                   omega
                 have OB : Hid (w4.ownsRow base 2 1 v' (allTo R k ++ r.ids.take (j + 1)).length ((allTo R k ++ r.ids.take (j + 1)).map (Value.int .i64))) := by
                   rw [HSN.out, List.length_append, List.map_append, HNF.out]
                   exact hown4
                 clear CA GA
                 go_roundw
                 case rel => exact ⟨j + 1, _, by omega, by go_num, rfl, HTN.out, OB.out, CB.out, ZB.out, GB.out⟩
                 case measure => simp [intOf]; omega
               · go_wp2_with (first
                   | (at_builtin; refine append_int20 _ rfl _ _ rfl base (.slice sa nf sc) nf _ rfl (OW2.out.alloc _) _ _ (.int .i64 id) rfl (cell_new1 _ _ _ _ (by simp)) rfl (by omega) (Nat.le_trans SZ2.out (by simp)) ?_; intro v' w4 hown4 hgrow4)
                   | go_in)
                 have CA : Hid (CP w _ #[.int .i64 n, .slice a zs.length cap, .slice ao ko co, .slice av kv cv, .int .i64 fine] #[.slice (some ⟨b, off, none⟩) m rc, .slice la ml lc]) := CW2.out.below ((Below.refl _ _).alloc (Nat.le_refl _) (.cells #[Value.int .i64 id] 2))
                 have GA : Hid _ := below_row ((Below.refl _ _).alloc (Nat.le_refl _) (.cells #[Value.int .i64 id] 2)) (row_lt G82.out) G82.out
                 have CB : Hid (CP w w4 #[.int .i64 n, .slice a zs.length cap, .slice ao ko co, .slice av kv cv, .int .i64 fine] #[.slice (some ⟨b, off, none⟩) m rc, .slice la ml lc]) := CA.out.grow (OW2.out.alloc _) HBASE.out hgrow4
                 have GB : Hid (w4.heap[g8]? = _) := grown_row hgrow4 GA.out (own_other (OW2.out.alloc _) GA.out (by decide))
                 have ZB : Hid (base <= w4.heap.size) := by
                   have h1 := hgrow4.size
                   have h2 := SZ2.out
                   simp at h1
                   show _ <= _
                   omega
                 have OB : Hid (w4.ownsRow base 2 1 v' (allTo R k ++ r.ids.take (j + 1)).length ((allTo R k ++ r.ids.take (j + 1)).map (Value.int .i64))) := by
                   rw [HSN.out, List.length_append, List.map_append, HNF.out]
                   exact hown4
                 clear CA GA
                 go_roundw
                 case rel => exact ⟨j + 1, _, by omega, by go_num, rfl, HTN.out, OB.out, CB.out, ZB.out, GB.out⟩
                 case measure => simp [intOf]; omega
             · have hjq2 : j = q := by omega
               have HA2 : Hid (allTo R k ++ r.ids.take j = allTo R (k + 1)) := by
                 show _ = _
                 rw [HALLS.out, hjq2, <- HQ.out, List.take_length]
               rw [HA2.out] at htw hown
               have TW3 : Hid (Tw tw2 (allTo R (k + 1))) := htw
               have OW3 : Hid (wr.ownsRow base 2 1 u5 (allTo R (k + 1)).length ((allTo R (k + 1)).map (Value.int .i64))) := hown
               obtain ⟨x0, x1⟩ := cells2 G82.out
               clear hjq2 htw hown hcp hsz hg8
               go_wp2
               first
                 | exact ⟨⟨k + 1, tw2, by omega, by go_num, rfl, TW3.out, OK1.out, OW3.out, CW2.out, SZ2.out⟩, by simp [intOf]; omega⟩
                 | (go_roundw
                    case rel => exact ⟨k + 1, tw2, by omega, by go_num, rfl, TW3.out, OK1.out, OW3.out, CW2.out, SZ2.out⟩
                    case measure => simp [intOf]; omega)
   · have hkm : k = m := by omega
     have TW9 : Hid (Tw tw (allTo R m)) := hkm ▸ TW.out
     have OK9 : Hid (RtsOk n zs os vs ko kv R R.length) := HN.out.symm ▸ hkm ▸ OK.out
     have OW9 : Hid (wr.ownsRow base 2 1 u5 (allTo R m).length ((allTo R m).map (Value.int .i64))) := hkm ▸ OW.out
     clear hkm TW OK OW
     have HFM : Hid (allTo R R.length = allTo R m) := by show _ = _; rw [HN.out]
     obtain ⟨fl, HFL⟩ : ∃ l, Hid (allTo R m = l) := ⟨_, rfl⟩
     rw [HFL.out] at TW9 OW9 HFM
     obtain ⟨sa, sc, rfl, -, hsI⟩ := owns_at1 OW9.out
     have SI : Hid (IntsAt wr sa fl) := hsI
     have hfl : fl.length <= 1048576 := by rw [<- HFM.out]; exact HAL.out
     clear hsI OW9
     obtain ⟨nf, HNF⟩ : ∃ t, Hid (fl.length = t) := ⟨_, rfl⟩
     rw [HNF.out] at hfl ⊢
     obtain ⟨d0, d1⟩ := cells2 CW.out.2.2
     go_wp2_with fail
     go_loop [6, 10] (fun tt ti => ∃ (j : Nat) (tw : Bool), j <= ml /\ ti = .int .i64 j /\ tt = .bool tw /\ TwL tw fl L j) (fun _ ti => ml - (intOf ti).toNat)
     case atStart => exact ⟨0, tw, Nat.zero_le _, rfl, rfl, TwL.start TW9.out L⟩
     case round =>
       clear TW9
       obtain ⟨j, tw2, hj, rfl, rfl, htw⟩ := hrel
       have TW2 : Hid (TwL tw2 fl L j) := htw
       clear htw
       by_cases hjl : j < ml
       · have hjL : j < L.length := by rw [HM.out]; exact hjl
         obtain ⟨b2, off2, rfl, hcc⟩ := (HL.out.below CW.out.1) j hjL
         have HTN := TW2.out.step
         obtain ⟨id, HID⟩ : ∃ t, Hid (L.getD j 0 = t) := ⟨_, rfl⟩
         rw [HID.out] at hcc HTN
         obtain ⟨bb, HBB⟩ : ∃ t, Hid (decide (id ∈ fl) = t) := ⟨_, rfl⟩
         rw [HBB.out] at HTN
         have HT2 : Hid _ := HTN
         have HCALL := l3Has_is sa fl.length sc id fl wr bb ((hasTo_mem fl id).trans HBB.out) SI.out (Nat.le_refl _) (by rw [HNF.out]; omega)
         rw [HNF.out] at HCALL
         clear HTN hjL
         cases tw2
         · go_wp2_with (go_at_call 27; refine HCALL.mono ?_; rintro e w' ⟨rfl, rfl⟩)
           exact ⟨⟨j + 1, _, by omega, by go_num, rfl, HT2.out⟩, by simp [intOf]; omega⟩
         · go_wp2
           exact ⟨⟨j + 1, _, by omega, by go_num, rfl, HT2.out⟩, by simp [intOf]; omega⟩
       · have hjm : j = L.length := by rw [HM.out]; omega
         have HON : Hid (tw2 = true ↔ ¬ Once fl L) := TwL.done (hjm ▸ TW2.out)
         clear hjm
         cases tw2
         · have ON : Hid (Once (allTo R R.length) L) := by
             rw [HFM.out]
             show Once fl L
             exact Classical.not_not.1 fun h => by have := HON.out.2 h; cases this
           clear HON TW2
           go_wp2_with fail
           clear d0 d1
           go_loopw [11] (fun ti wr => ∃ j : Nat, j <= ml /\ ti = .int .i64 j /\ LeftOk os ko L j /\ CP w wr #[.int .i64 n, .slice a zs.length cap, .slice ao ko co, .slice av kv cv, .int .i64 fine] #[.slice ra m rc, .slice la ml lc]) (fun ti _ => ml - (intOf ti).toNat)
           case atStart => exact ⟨0, Nat.zero_le _, rfl, LeftOk.zero _ _ _, CW.out⟩
           case round =>
             clear CW SI hj hjl
             obtain ⟨j, hj, rfl, hlo, hcp⟩ := hrel
             have LO : Hid (LeftOk os ko L j) := hlo
             have CW4 : Hid (CP w wr #[.int .i64 n, .slice a zs.length cap, .slice ao ko co, .slice av kv cv, .int .i64 fine] #[.slice ra m rc, .slice la ml lc]) := hcp
             clear hlo hcp
             by_cases hjl : j < ml
             · have hjL : j < L.length := by rw [HM.out]; exact hjl
               obtain ⟨b2, off2, rfl, hcc⟩ := (HL.out.below CW4.out.1) j hjL
               have hLW := HL.out.below CW4.out.1
               have HBADT : Hid (fnd6T os ko (L.getD j 0) = false -> v = 4) := fun h => HVAL.out.symm.trans (planV_4 HC.out OK9.out ON.out (fun H => by rw [(H.1 j hjL).1] at h; cases h))
               have HBADP : Hid (0 < j -> ¬ L.getD (j - 1) 0 < L.getD j 0 -> v = 4) := fun h0 h => HVAL.out.symm.trans (planV_4 HC.out OK9.out ON.out (fun H => h ((H.1 j hjL).2 h0)))
               have HSTEP : Hid (fnd6T os ko (L.getD j 0) = true -> (0 < j -> L.getD (j - 1) 0 < L.getD j 0) -> LeftOk os ko L (j + 1)) := fun h1 h2 => LO.out.step h1 h2
               obtain ⟨id, HID⟩ : ∃ t, Hid (L.getD j 0 = t) := ⟨_, rfl⟩
               rw [HID.out] at hcc HBADT HBADP HSTEP
               have HLWW : Hid (IntsAt wr (some ⟨b2, off2, none⟩) L) := hLW
               obtain ⟨o0, H0⟩ : ∃ t, Hid (fnd6F os ko id 0 = t) := ⟨_, rfl⟩
               obtain ⟨o1, H1⟩ : ∃ t, Hid (fnd6F os ko id 1 = t) := ⟨_, rfl⟩
               obtain ⟨o2, H2⟩ : ∃ t, Hid (fnd6F os ko id 2 = t) := ⟨_, rfl⟩
               obtain ⟨o3, H3⟩ : ∃ t, Hid (fnd6F os ko id 3 = t) := ⟨_, rfl⟩
               obtain ⟨o4, H4⟩ : ∃ t, Hid (fnd6F os ko id 4 = t) := ⟨_, rfl⟩
               obtain ⟨o5, H5⟩ : ∃ t, Hid (fnd6F os ko id 5 = t) := ⟨_, rfl⟩
               obtain ⟨tt, HTT⟩ : ∃ t, Hid (fnd6T os ko id = t) := ⟨_, rfl⟩
               rw [HTT.out] at HBADT HSTEP
               obtain ⟨c0, c1, c2, c3, c4⟩ := cells5 CW4.out.2.1
               obtain ⟨d0, d1⟩ := cells2 CW4.out.2.2
               clear hLW
               go_wp2_with fail
               have HCT : Hid (wr.cell? ⟨b2, off2 + j, none⟩ = _) := hcc
               have HCA : Hid ((wr.alloc (Obj.cells #[Value.int .i64 0, Value.int .i64 0, Value.int .i64 0, Value.int .i64 0, Value.int .i64 0, Value.int .i64 0] 103)).cell? ⟨b2, off2 + j, none⟩ = _) := (((Below.refl wr.heap.size wr).alloc (Nat.le_refl _) _).cell (p := ⟨b2, off2 + j, none⟩) (block_lt_of_cell hcc)).trans hcc
               have hlb := block_lt_of_cell hcc
               simp at hlb
               have hlw := row_lt CW4.out.2.1
               have hlr := row_lt CW4.out.2.2
               go_region_held3 (fun W => W.cell? ⟨w.heap.size, 0, none⟩ = some (.int .i64 n) /\ W.cell? ⟨w.heap.size, 1, none⟩ = some (.slice a zs.length cap) /\ W.cell? ⟨w.heap.size, 2, none⟩ = some (.slice ao ko co) /\ W.cell? ⟨w.heap.size, 3, none⟩ = some (.slice av kv cv) /\ W.cell? ⟨w.heap.size, 4, none⟩ = some (.int .i64 fine) /\ W.cell? ⟨w.heap.size + 1, 1, none⟩ = some (.slice (some ⟨b2, off2, none⟩) ml lc) /\ W.cell? ⟨b2, off2 + j, none⟩ = some (.int .i64 id)) (first | with_reducible exact kS | with_reducible exact ⟨(keep_set (keep_set (keep_set (keep_set (keep_set (keep_set kS.1 (Nat.ne_of_lt hlw)) (Nat.ne_of_lt hlw)) (Nat.ne_of_lt hlw)) (Nat.ne_of_lt hlw)) (Nat.ne_of_lt hlw)) (Nat.ne_of_lt hlw)), (keep_set (keep_set (keep_set (keep_set (keep_set (keep_set kS.2.1 (Nat.ne_of_lt hlw)) (Nat.ne_of_lt hlw)) (Nat.ne_of_lt hlw)) (Nat.ne_of_lt hlw)) (Nat.ne_of_lt hlw)) (Nat.ne_of_lt hlw)), (keep_set (keep_set (keep_set (keep_set (keep_set (keep_set kS.2.2.1 (Nat.ne_of_lt hlw)) (Nat.ne_of_lt hlw)) (Nat.ne_of_lt hlw)) (Nat.ne_of_lt hlw)) (Nat.ne_of_lt hlw)) (Nat.ne_of_lt hlw)), (keep_set (keep_set (keep_set (keep_set (keep_set (keep_set kS.2.2.2.1 (Nat.ne_of_lt hlw)) (Nat.ne_of_lt hlw)) (Nat.ne_of_lt hlw)) (Nat.ne_of_lt hlw)) (Nat.ne_of_lt hlw)) (Nat.ne_of_lt hlw)), (keep_set (keep_set (keep_set (keep_set (keep_set (keep_set kS.2.2.2.2.1 (Nat.ne_of_lt hlw)) (Nat.ne_of_lt hlw)) (Nat.ne_of_lt hlw)) (Nat.ne_of_lt hlw)) (Nat.ne_of_lt hlw)) (Nat.ne_of_lt hlw)), (keep_set (keep_set (keep_set (keep_set (keep_set (keep_set kS.2.2.2.2.2.1 (Nat.ne_of_lt hlr)) (Nat.ne_of_lt hlr)) (Nat.ne_of_lt hlr)) (Nat.ne_of_lt hlr)) (Nat.ne_of_lt hlr)) (Nat.ne_of_lt hlr)), (keep_set (keep_set (keep_set (keep_set (keep_set (keep_set kS.2.2.2.2.2.2 (Nat.ne_of_lt hlb)) (Nat.ne_of_lt hlb)) (Nat.ne_of_lt hlb)) (Nat.ne_of_lt hlb)) (Nat.ne_of_lt hlb)) (Nat.ne_of_lt hlb))⟩ | go_keep) ((first
                 | (go_at_call 60
                    with_reducible refine (l2At_any n fine id a ao av _ cap ko co kv cv os wr.drew ?_ HLO.out hko).mono ?_
                    · exact HO.out.below CW4.out.drew.1
                    rintro e w2 ⟨rfl, hb2⟩
                    rw [H0.out, H1.out, H2.out, H3.out, H4.out, H5.out, HTT.out]
                    have hcr2 := CP.below CW4.out.drew hb2
                    obtain ⟨k0, k1, k2, k3, k4⟩ := cells5 hcr2.2.1
                    have k5 := (cells2 hcr2.2.2).2
                    have k6 := (hb2.cell (p := ⟨b2, off2 + j, none⟩) (block_lt_of_cell HCT.out)).trans HCT.out
                    have kS := And.intro k0 (And.intro k1 (And.intro k2 (And.intro k3 (And.intro k4 (And.intro k5 k6)))))
                    have CR2 : Hid (CP w w2 #[.int .i64 n, .slice a zs.length cap, .slice ao ko co, .slice av kv cv, .int .i64 fine] #[.slice ra m rc, .slice (some ⟨b2, off2, none⟩) ml lc]) := hcr2
                    clear hb2 hcr2 k0 k1 k2 k3 k4 k5 k6)
                 | (go_at_call 60
                    with_reducible refine (l2At_any n fine id a ao av _ cap ko co kv cv os (wr.alloc (Obj.cells #[Value.int .i64 0, Value.int .i64 0, Value.int .i64 0, Value.int .i64 0, Value.int .i64 0, Value.int .i64 0] 103)).drew ?_ HLO.out hko).mono ?_
                    · exact HO.out.below (CP.drew (CP.alloc CW4.out (Obj.cells #[Value.int .i64 0, Value.int .i64 0, Value.int .i64 0, Value.int .i64 0, Value.int .i64 0, Value.int .i64 0] 103))).1
                    rintro e w2 ⟨rfl, hb2⟩
                    rw [H0.out, H1.out, H2.out, H3.out, H4.out, H5.out, HTT.out]
                    have hcr2 := CP.below (CP.drew (CP.alloc CW4.out (Obj.cells #[Value.int .i64 0, Value.int .i64 0, Value.int .i64 0, Value.int .i64 0, Value.int .i64 0, Value.int .i64 0] 103))) hb2
                    obtain ⟨k0, k1, k2, k3, k4⟩ := cells5 hcr2.2.1
                    have k5 := (cells2 hcr2.2.2).2
                    have k6 := (hb2.cell (p := ⟨b2, off2 + j, none⟩) (block_lt_of_cell HCA.out)).trans HCA.out
                    have kS := And.intro k0 (And.intro k1 (And.intro k2 (And.intro k3 (And.intro k4 (And.intro k5 k6)))))
                    have CR2 : Hid (CP w w2 #[.int .i64 n, .slice a zs.length cap, .slice ao ko co, .slice av kv cv, .int .i64 fine] #[.slice ra m rc, .slice (some ⟨b2, off2, none⟩) ml lc]) := hcr2
                    obtain ⟨z0, z1, z2, z3, z4, z5⟩ := cells6 (below_row hb2 (k := wr.heap.size) (by simp) (heap_alloc_new wr (Obj.cells #[Value.int .i64 0, Value.int .i64 0, Value.int .i64 0, Value.int .i64 0, Value.int .i64 0, Value.int .i64 0] 103)))
                    have zf := fun i => frozen_of_row _ _ i _ _ (below_row hb2 (k := wr.heap.size) (by simp) (heap_alloc_new wr (Obj.cells #[Value.int .i64 0, Value.int .i64 0, Value.int .i64 0, Value.int .i64 0, Value.int .i64 0, Value.int .i64 0] 103)))
                    clear hb2 hcr2 k0 k1 k2 k3 k4 k5 k6)))
               all_goals (first
                 | (have CRW : Hid (CP w (World.setCell (World.setCell (World.setCell (World.setCell (World.setCell (World.setCell w2 ⟨wr.heap.size, 0, none⟩ (Value.int .i64 o0)) ⟨wr.heap.size, 1, none⟩ (Value.int .i64 o1)) ⟨wr.heap.size, 2, none⟩ (Value.int .i64 o2)) ⟨wr.heap.size, 3, none⟩ (Value.int .i64 o3)) ⟨wr.heap.size, 4, none⟩ (Value.int .i64 o4)) ⟨wr.heap.size, 5, none⟩ (Value.int .i64 o5)) #[.int .i64 n, .slice a zs.length cap, .slice ao ko co, .slice av kv cv, .int .i64 fine] #[.slice ra m rc, .slice (some ⟨b2, off2, none⟩) ml lc]) := (CP.set (CP.set (CP.set (CP.set (CP.set (CP.set CR2.out CW4.out.big) CW4.out.big) CW4.out.big) CW4.out.big) CW4.out.big) CW4.out.big)
                    clear kS CR2 HCT HCA hcc z0 z1 z2 z3 z4 z5 zf
                    generalize (World.setCell (World.setCell (World.setCell (World.setCell (World.setCell (World.setCell w2 ⟨wr.heap.size, 0, none⟩ (Value.int .i64 o0)) ⟨wr.heap.size, 1, none⟩ (Value.int .i64 o1)) ⟨wr.heap.size, 2, none⟩ (Value.int .i64 o2)) ⟨wr.heap.size, 3, none⟩ (Value.int .i64 o3)) ⟨wr.heap.size, 4, none⟩ (Value.int .i64 o4)) ⟨wr.heap.size, 5, none⟩ (Value.int .i64 o5)) = W at *
                    generalize wr.heap.size = g at *)
                 | (have CRW : Hid (CP w (w2.alloc (Obj.cells #[Value.int .i64 o0, Value.int .i64 o1, Value.int .i64 o2, Value.int .i64 o3, Value.int .i64 o4, Value.int .i64 o5] 103)) #[.int .i64 n, .slice a zs.length cap, .slice ao ko co, .slice av kv cv, .int .i64 fine] #[.slice ra m rc, .slice (some ⟨b2, off2, none⟩) ml lc]) := CP.alloc CR2.out _
                    clear kS CR2 HCT HCA hcc
                    generalize w2.alloc (Obj.cells #[Value.int .i64 o0, Value.int .i64 o1, Value.int .i64 o2, Value.int .i64 o3, Value.int .i64 o4, Value.int .i64 o5] 103) = W at *
                    generalize w2.heap.size = g at *))
               all_goals
                 clear c0 c1 c2 c3 c4 d0 d1 hlw hlr hlb
                 have q1 := (cells2 CRW.out.2.2).2
                 have ctW := ints_cell (HL.out.below CRW.out.1) hjL HID.out
                 have t0 := fun s : Kin W => s.cell q1
                 have t1 := fun s : Kin W => s.cell ctW
                 have hkin := Kin.there W
                 cases tt
                 · have HE : Hid (v = 4) := HBADT.out rfl
                   go_wp2_with fail
                   refine wp_region_kin (by kernel_rfl) (by kernel_rfl) ?_
                   repeat (go_big_quiet_step (fail))
                   refine wpQuiet_nil ?_
                   rintro _ ⟨s, rfl⟩
                   have HS2 : Hid (CP w s.w #[.int .i64 n, .slice a zs.length cap, .slice ao ko co, .slice av kv cv, .int .i64 fine] #[.slice ra m rc, .slice (some ⟨b2, off2, none⟩) ml lc]) := CRW.out.below s.below
                   generalize s.w = w3 at *
                   go_wp2
                   go_ret
                   exact ⟨by rw [HE.out]; rfl, HS2.out.1⟩
                 · by_cases hj0 : 0 < j
                   · obtain ⟨p, HP⟩ : ∃ t, Hid (L.getD (j - 1) 0 = t) := ⟨_, rfl⟩
                     have ctP := ints_cell (HL.out.below CRW.out.1) (j := j - 1) (by omega) HP.out
                     have t2 := fun s : Kin W => s.cell ctP
                     have hw1 : IntKind.i64.wrap ((j : Int) - 1) = ((j - 1 : Nat) : Int) := by rw [IntKind.wrap_i64]; omega
                     have hjm1 : j - 1 < ml := by omega
                     by_cases hp : p < id
                     · have LO1 : Hid (LeftOk os ko L (j + 1)) := HSTEP.out rfl (fun _ => by rw [HP.out]; exact hp)
                       have hpd : decide (id <= p) = false := by simp; omega
                       go_wp2_with fail
                       refine wp_region_kin (by kernel_rfl) (by kernel_rfl) ?_
                       repeat (go_big_quiet_step (fail))
                       refine wpQuiet_nil ?_
                       rintro _ ⟨s, rfl⟩
                       have HS2 : Hid (CP w s.w #[.int .i64 n, .slice a zs.length cap, .slice ao ko co, .slice av kv cv, .int .i64 fine] #[.slice ra m rc, .slice (some ⟨b2, off2, none⟩) ml lc]) := CRW.out.below s.below
                       generalize s.w = w3 at *
                       go_wp2
                       exact ⟨⟨j + 1, by omega, by go_num, LO1.out, HS2.out⟩, by simp [intOf]; omega⟩
                     · have HE : Hid (v = 4) := HBADP.out hj0 (by rw [HP.out]; first | exact hp | omega)
                       have hpd : decide (id <= p) = true := by simp; omega
                       go_wp2_with fail
                       refine wp_region_kin (by kernel_rfl) (by kernel_rfl) ?_
                       repeat (go_big_quiet_step (fail))
                       refine wpQuiet_nil ?_
                       rintro _ ⟨s, rfl⟩
                       have HS2 : Hid (CP w s.w #[.int .i64 n, .slice a zs.length cap, .slice ao ko co, .slice av kv cv, .int .i64 fine] #[.slice ra m rc, .slice (some ⟨b2, off2, none⟩) ml lc]) := CRW.out.below s.below
                       generalize s.w = w3 at *
                       go_wp2
                       go_ret
                       exact ⟨by rw [HE.out]; rfl, HS2.out.1⟩
                   · have LO1 : Hid (LeftOk os ko L (j + 1)) := HSTEP.out rfl (fun h => absurd h hj0)
                     have hkz : (decide (0 < j)) = false := by simp; omega
                     have hk1 : j <= 0 := by omega
                     go_wp2_with fail
                     refine wp_region_kin (by kernel_rfl) (by kernel_rfl) ?_
                     repeat (go_big_quiet_step (fail))
                     refine wpQuiet_nil ?_
                     rintro _ ⟨s, rfl⟩
                     have HS2 : Hid (CP w s.w #[.int .i64 n, .slice a zs.length cap, .slice ao ko co, .slice av kv cv, .int .i64 fine] #[.slice ra m rc, .slice (some ⟨b2, off2, none⟩) ml lc]) := CRW.out.below s.below
                     generalize s.w = w3 at *
                     go_wp2
                     exact ⟨⟨j + 1, by omega, by go_num, LO1.out, HS2.out⟩, by simp [intOf]; omega⟩
             · have hjm : j = L.length := by rw [HM.out]; omega
               have LO9 : Hid (LeftOk os ko L L.length) := hjm ▸ LO.out
               have HLEN : Hid ((allTo R R.length).length + L.length = nf + ml) := by show _ = _; rw [HFM.out, HNF.out, HM.out]
               obtain ⟨c0, c1, c2, c3, c4⟩ := cells5 CW4.out.2.1
               obtain ⟨d0, d1⟩ := cells2 CW4.out.2.2
               clear hjm
               have hz : Hid (((nf : Int) + (ml : Int) == (ko : Int)) = decide (nf + ml = ko)) := by
                 show _ = _
                 by_cases e : nf + ml = ko
                 · rw [decide_eq_true e, <- e]; simp
                 · rw [decide_eq_false e]; simp; omega
               by_cases he : nf + ml = ko
               · have he1 : ((nf : Int) + (ml : Int) == (ko : Int)) = true := by rw [hz.out]; exact decide_eq_true he
                 have HE : Hid (v = 0) := HVAL.out.symm.trans (planV_0 HC.out OK9.out ON.out LO9.out (by rw [HLEN.out]; exact he))
                 clear he
                 go_wp2
                 go_ret
                 exact ⟨by rw [HE.out]; rfl, CW4.out.1⟩
               · have he1 : ((nf : Int) + (ml : Int) == (ko : Int)) = false := by rw [hz.out]; exact decide_eq_false he
                 have HE : Hid (v = 4) := HVAL.out.symm.trans (planV_4 HC.out OK9.out ON.out (fun h => he (by rw [<- HLEN.out]; exact h.2)))
                 clear he
                 go_wp2
                 go_ret
                 exact ⟨by rw [HE.out]; rfl, CW4.out.1⟩
         · have HE : Hid (v = 3) := HVAL.out.symm.trans (planV_3 HC.out OK9.out (by rw [HFM.out]; exact HON.out.1 rfl))
           go_wp2
           go_ret
           exact ⟨by rw [HE.out]; rfl, CW.out.1⟩
def LPB (w W : World) (cs rs : Array Value) : Prop := Below w.heap.size w W /\ W.heap[w.heap.size]? = some (.cells cs 28 (0, 0)) /\ W.heap[w.heap.size + 1]? = some (.cells rs 31 (0, 0))
theorem LPB.new (w : World) (cs rs : Array Value) : LPB w ((w.alloc (.cells cs 28)).alloc (.cells rs 31)) cs rs :=
 ⟨((Below.refl _ _).alloc (Nat.le_refl _) _).alloc (by simp) _, heap_alloc2_old _ _ _, heap_alloc2_new _ _ _⟩
theorem LPB.below {w W W' : World} {cs rs : Array Value} (h : LPB w W cs rs) (hb : Below W.heap.size W W') : LPB w W' cs rs :=
 ⟨h.1.trans (hb.mono h.1.size), below_row hb (row_lt h.2.1) h.2.1, below_row hb (row_lt h.2.2) h.2.2⟩
theorem LPB.drew {w W : World} {cs rs : Array Value} (h : LPB w W cs rs) : LPB w W.drew cs rs := h.below (Below.refl _ _).drew
theorem LPB.b {w W : World} {cs rs : Array Value} (h : LPB w W cs rs) : Below w.heap.size w W := h.1
theorem LPB.cells {w W : World} {c0 c1 c2 c3 c4 r0 r1 : Value} (h : LPB w W #[c0, c1, c2, c3, c4] #[r0, r1]) :
   W.cell? ⟨w.heap.size, 0, none⟩ = some c0 /\ W.cell? ⟨w.heap.size, 1, none⟩ = some c1 /\ W.cell? ⟨w.heap.size, 2, none⟩ = some c2 /\ W.cell? ⟨w.heap.size, 3, none⟩ = some c3 /\ W.cell? ⟨w.heap.size, 4, none⟩ = some c4 /\ W.cell? ⟨w.heap.size + 1, 0, none⟩ = some r0 /\ W.cell? ⟨w.heap.size + 1, 1, none⟩ = some r1 := by
 obtain ⟨h0, h1, h2, h3, h4⟩ := cells5 h.2.1
 obtain ⟨g0, g1⟩ := cells2 h.2.2
 exact ⟨h0, h1, h2, h3, h4, g0, g1⟩
theorem lp7 {w W : World} {c0 c1 c2 c3 c4 r0 r1 : Value} (h : LPB w W #[c0, c1, c2, c3, c4] #[r0, r1]) :
   W.cell? ⟨w.heap.size, 0, none⟩ = some c0 /\ W.cell? ⟨w.heap.size, 1, none⟩ = some c1 /\ W.cell? ⟨w.heap.size, 2, none⟩ = some c2 /\ W.cell? ⟨w.heap.size, 3, none⟩ = some c3 /\ W.cell? ⟨w.heap.size, 4, none⟩ = some c4 /\ W.cell? ⟨w.heap.size + 1, 0, none⟩ = some r0 /\ W.cell? ⟨w.heap.size + 1, 1, none⟩ = some r1 := h.cells
set_option maxRecDepth 10000 in
set_option maxHeartbeats 2000000 in
theorem l4Cost_any (n fine : Int) (a ao av ra la : Option Addr) (cap ko co kv cv rc lc : Nat) (zs os vs L : List Int) (R : List RT) (w : World) (hA : IntsAt w a zs) (hO : IntsAt w ao os) (hV : IntsAt w av vs) (hR : RoutesAt w ra R) (hlo : os.length = ko * 6) (hlv : vs.length = kv * 5) (hko : ko <= 9223372036854775807) (hkv : kv <= 9223372036854775807) (hpl : planV n zs os vs ko kv fine R L = 0) :
   Calls Tryz.prog 30 #[.agg #[.int .i64 n, .slice a zs.length cap, .slice ao ko co, .slice av kv cv, .int .i64 fine], .agg #[.slice ra R.length rc, .slice la L.length lc]] w fun e w' => e = .returned (.int .i64 (costR n zs os vs ko kv R (fine * L.length) R.length)) /\ Below w.heap.size w w' := by
 have HA : Hid (IntsAt w a zs) := hA
 have HO : Hid (IntsAt w ao os) := hO
 have HV : Hid (IntsAt w av vs) := hV
 have HR : Hid (RoutesAt w ra R) := hR
 have HLO : Hid _ := hlo
 have HLV : Hid _ := hlv
 obtain ⟨hcB, hrts, _, _, _⟩ := planV_zero hpl
 obtain ⟨hs1, hs2, hs3, hs4⟩ := plan_small hpl
 have HC : Hid (caseB n zs os vs ko kv fine = true) := hcB
 have HRTS : Hid (RtsOk n zs os vs ko kv R R.length) := hrts
 clear hA hO hV hR hlo hlv hcB hrts hpl
 obtain ⟨m, HN⟩ : ∃ n, Hid (R.length = n) := ⟨_, rfl⟩
 obtain ⟨ml, HM⟩ : ∃ n, Hid (L.length = n) := ⟨_, rfl⟩
 rw [HN.out] at hs1 HRTS ⊢
 rw [HM.out] at hs2 hs3 hs4 ⊢
 obtain ⟨z, HZ⟩ : ∃ z, Hid (fine * (ml : Int) = z) := ⟨_, rfl⟩
 rw [HZ.out] at hs3 hs4 ⊢
 have hwz : wrap64 (fine * (ml : Int)) = z := by rw [HZ.out]; exact IntWalk.wrap64_in _ (by omega)
 have hwz2 : IntKind.i64.wrap (fine * (ml : Int)) = z := by rw [HZ.out]; exact IntWalk.i64_in _ (by omega)
 have HBD : Hid (∀ k, k <= m -> z <= costR n zs os vs ko kv R z k /\ costR n zs os vs ko kv R z k <= z + 130000 * k) := costR_bd HC.out HRTS.out z
 have C0 : Hid (CP w ((w.alloc (.cells #[.int .i64 n, .slice a zs.length cap, .slice ao ko co, .slice av kv cv, .int .i64 fine] 43)).alloc (.cells #[.slice ra m rc, .slice la ml lc] 36)) _ _) := CP.new w _ _
 obtain ⟨c0, c1, c2, c3, c4⟩ := cells5 C0.out.2.1
 obtain ⟨d0, d1⟩ := cells2 C0.out.2.2
 go_enter Tryz.func30, Tryz.ntmps30
 go_wp2_with fail
 clear c0 c1 c2 c3 c4 d0 d1 hwz hwz2
 generalize (w.alloc (.cells #[.int .i64 n, .slice a zs.length cap, .slice ao ko co, .slice av kv cv, .int .i64 fine] 43)).alloc (.cells #[.slice ra m rc, .slice la ml lc] 36) = W0 at *
 go_loopw [5, 6] (fun ts ti wr => ∃ k : Nat, k <= m /\ ti = .int .i64 k /\ ts = .int .i64 (costR n zs os vs ko kv R z k) /\ CP w wr #[.int .i64 n, .slice a zs.length cap, .slice ao ko co, .slice av kv cv, .int .i64 fine] #[.slice ra m rc, .slice la ml lc]) (fun _ ti _ => m - (intOf ti).toNat)
 case atStart => exact ⟨0, Nat.zero_le _, rfl, rfl, C0.out⟩
 case round =>
   clear C0
   obtain ⟨k, hk, rfl, rfl, hcp⟩ := hrel
   have CW : Hid (CP w wr #[.int .i64 n, .slice a zs.length cap, .slice ao ko co, .slice av kv cv, .int .i64 fine] #[.slice ra m rc, .slice la ml lc]) := hcp
   clear hcp
   obtain ⟨c0, c1, c2, c3, c4⟩ := cells5 CW.out.2.1
   obtain ⟨d0, d1⟩ := cells2 CW.out.2.2
   by_cases hlt : k < m
   · have hkl : k < R.length := by rw [HN.out]; exact hlt
     obtain ⟨b, off, rfl, h1, h2, h3⟩ := (HR.out.below CW.out.1) k hkl
     have hcode := (HRTS.out k hlt).2.2
     have hbd := HBD.out (k + 1) (by omega)
     have hb0 := HBD.out k hk
     have h12 := (stopsB_true (formV_zero (codeV_zero hcode).1).2.2).1
     have HNX : Hid (costR n zs os vs ko kv R z (k + 1) = costR n zs os vs ko kv R z k + rideR n zs os vs ko kv (R.getD k rt0)) := rfl
     rw [HNX.out] at hbd
     unfold rideR at HNX hbd
     obtain ⟨r, HRT⟩ : ∃ r, Hid (R.getD k rt0 = r) := ⟨_, rfl⟩
     rw [HRT.out] at h1 h2 h3 hcode h12 HNX hbd
     have HCODE : Hid (codeV true n zs os vs ko kv r.v r.ids = 0) := hcode
     have IR : Hid (IntsAt wr r.a r.ids) := h3
     clear h3 hkl hcode
     obtain ⟨s, HS⟩ : ∃ s, Hid (costR n zs os vs ko kv R z k = s) := ⟨_, rfl⟩
     obtain ⟨rd, HRD⟩ : ∃ s, Hid (rideV n zs (rosOf os ko r.ids) r.ids.length (fnd5F vs kv r.v 1) = s) := ⟨_, rfl⟩
     rw [HS.out] at HNX hbd hb0
     rw [HRD.out] at HNX hbd
     rw [HS.out]
     have hws : wrap64 (s + rd) = s + rd := IntWalk.wrap64_in _ (by omega)
     have hws2 : IntKind.i64.wrap (s + rd) = s + rd := IntWalk.i64_in _ (by omega)
     have HCALL : Hid (∀ S : Kin wr, Calls Tryz.prog 65 #[.agg #[.int .i64 n, .slice a zs.length cap, .slice ao ko co, .slice av kv cv, .int .i64 fine], .agg #[.int .i64 r.v, .slice r.a r.ids.length r.c]] S.w fun e w' => e = .returned (.int .i64 rd) /\ ∃ s' : Kin wr, w' = s'.w) := fun S => by
       have := l3Cost_any n fine r.v a ao av r.a cap ko co kv cv r.c zs os vs r.ids S.w ((HA.out.below CW.out.1).below S.below) ((HO.out.below CW.out.1).below S.below) ((HV.out.below CW.out.1).below S.below) (IR.out.below S.below) HLO.out HLV.out hko hkv (by omega) (by rw [HC.out]; exact HCODE.out)
       rw [HRD.out] at this
       exact Kin.call this
     have s0 := fun s : Kin wr => s.cell c0
     have s1 := fun s : Kin wr => s.cell c1
     have s2 := fun s : Kin wr => s.cell c2
     have s3 := fun s : Kin wr => s.cell c3
     have s4 := fun s : Kin wr => s.cell c4
     have t0 := fun s : Kin wr => s.cell d0
     have y0 := fun s : Kin wr => s.cell h1
     have y1 := fun s : Kin wr => s.cell h2
     have hkin := Kin.there wr
     go_wp2_with fail
     clear c0 c1 c2 c3 c4 d0 d1 h1 h2
     refine wp_region_kin (by kernel_rfl) (by kernel_rfl) ?_
     repeat (go_big_quiet_step ((go_at_call 65; exact HCALL.out _)))
     refine wpQuiet_nil ?_
     rintro _ ⟨S, rfl⟩
     have C3 : Hid (CP w S.w #[.int .i64 n, .slice a zs.length cap, .slice ao ko co, .slice av kv cv, .int .i64 fine] #[.slice (some ⟨b, off, none⟩) m rc, .slice la ml lc]) := CW.out.below S.below
     generalize S.w = w3 at *
     clear s0 s1 s2 s3 s4 t0 y0 y1 hkin CW IR HCALL
     go_wp2
     first
       | exact ⟨⟨k + 1, by omega, by go_num, by rw [HNX.out], C3.out⟩, by simp [intOf]; omega⟩
       | (go_roundw
          case rel => exact ⟨k + 1, by omega, by go_num, by rw [HNX.out], C3.out⟩
          case measure => simp [intOf]; omega)
   · have hkm : k = m := by omega
     subst hkm
     go_wp2
     go_ret
     exact ⟨rfl, CW.out.1⟩
theorem PlanAt.is {w : World} {g gl : Nat} {S R : List RT} {L : List Int} (h : PlanAt w g gl S R L) : PlanIs w (some ⟨g, 0, none⟩) (some ⟨gl, 0, none⟩) R.length L.length S L :=
 ⟨key_len h.k, rfl, h.r, h.l, .inr ⟨_, _, rfl⟩, .inr ⟨_, _, rfl⟩, h.room⟩
def KeepI (w w' : World) : Prop := ∀ (g : Nat) (cur : Array Value), w.heap[g]? = some (.cells cur 2 (0, 0)) -> ∃ cur', w'.heap[g]? = some (.cells cur' 2 (0, 0)) /\ cur'.size = cur.size
theorem KeepI.refl (w : World) : KeepI w w := fun _ cur h => ⟨cur, h, rfl⟩
theorem KeepI.trans {w w1 w2 : World} (h : KeepI w w1) (k : KeepI w1 w2) : KeepI w w2 := fun g cur e => by
 obtain ⟨c1, e1, s1⟩ := h g cur e
 obtain ⟨c2, e2, s2⟩ := k g c1 e1
 exact ⟨c2, e2, s2.trans s1⟩
theorem KeepI.set {w : World} {k i : Nat} {v : Value} {cs : Array Value} {T : TypeId} (hk : w.heap[k]? = some (.cells cs T (0, 0))) (hT : T ≠ 2) : KeepI w (w.setCell ⟨k, i, none⟩ v) := fun g cur e =>
 ⟨cur, by rw [heap_setCell_other _ _ _ _ (by have := type_ne e hk (Ne.symm hT); simpa using this)]; exact e, rfl⟩
theorem KeepI.mark {w w' : World} {g : Nat} {cur cur' : Array Value} (hg : w.grownBy w' (some g)) (h : w.heap[g]? = some (.cells cur 2 (0, 0))) (h' : w'.heap[g]? = some (.cells cur' 2 (0, 0))) (hs : cur'.size = cur.size) : KeepI w w' := fun k c e => by
 by_cases hk : k = g
 · subst hk
   rw [h] at e
   cases e
   exact ⟨cur', h', hs⟩
 · exact ⟨c, grown_row hg e (fun x => hk (by injection x)), rfl⟩
def StopsRow (w : World) (gr : Nat) (S : List RT) : Prop := ∃ cur : Array Value, w.heap[gr]? = some (.cells cur 100 (0, 0)) /\ cur.size = S.length * 2 /\ ∀ j, j < S.length -> cur[j * 2 + 1]? = some (.slice (S.getD j rt0).a (S.getD j rt0).ids.length (S.getD j rt0).c)
theorem StopsRow.of_row {w : World} {gr : Nat} {S : List RT} (h : w.heap[gr]? = some (.cells (rowR S).toArray 100 (0, 0))) : StopsRow w gr S :=
 ⟨_, h, by simp [rowR_len], fun j hj => by have := (rowR_at S j hj).2; simpa using this⟩
theorem StopsRow.put {w : World} {gr k : Nat} {S : List RT} {v : Value} (h : StopsRow w gr S) : StopsRow (w.setCell ⟨gr, k * 2, none⟩ v) gr S := by
 obtain ⟨cur, h1, h2, h3⟩ := h
 refine ⟨cur.setIfInBounds (k * 2) v, heap_setCell_same w gr (k * 2) cur _ v h1, by simpa using h2, fun j hj => ?_⟩
 rw [Array.getElem?_setIfInBounds_ne (by omega)]
 exact h3 j hj
theorem StopsRow.but {w w' : World} {gr g : Nat} {S : List RT} {cur : Array Value} (h : StopsRow w gr S) (hg : w.grownBy w' (some g)) (hr : w.heap[g]? = some (.cells cur 2 (0, 0))) : StopsRow w' gr S := by
 obtain ⟨c, h1, h2, h3⟩ := h
 exact ⟨c, grown_row hg h1 (fun e => by have e2 : gr = g := by injection e
                                        exact type_ne h1 hr (by decide) e2), h2, h3⟩
set_option maxHeartbeats 1000000 in
theorem markRouteS_any (gr cap lo hi : Nat) (k0 : Int) (S : List RT) (w : World) (hrow : StopsRow w gr S) (hst : ∀ s ∈ S, ∃ g cur, s.a = some ⟨g, 0, none⟩ /\ (lo <= g /\ g < hi) /\ w.heap[g]? = some (.cells cur 2 (0, 0)) /\ cur.size = s.ids.length) (hgr : lo <= gr /\ gr < hi) (h0 : 0 <= k0) (h1 : k0 <= 100000000) (hn : S.length <= 1048576) (hal : (allTo S S.length).length <= 1048576) :
   Calls Tryz.prog 47 #[.slice (some ⟨gr, 0, none⟩) S.length cap, .int .i64 k0] w fun e w' => ∃ k', e = .returned (.int .i64 k') /\ 0 <= k' /\ k' <= 200000000 /\ GrownBut (fun b => lo <= b /\ b < hi) w w' /\ KeepI w w' := by
 have HR : Hid (StopsRow w gr S) := hrow
 have HST : Hid (∀ s ∈ S, ∃ g cur, s.a = some ⟨g, 0, none⟩ /\ (lo <= g /\ g < hi) /\ w.heap[g]? = some (.cells cur 2 (0, 0)) /\ cur.size = s.ids.length) := hst
 have HAL : Hid (∀ k, k <= S.length -> (allTo S k).length <= 1048576) := fun k hk => Nat.le_trans (allTo_le S hk (Nat.le_refl _)) hal
 have HGR : Hid (lo <= gr /\ gr < hi) := hgr
 clear hrow hst hal hgr
 obtain ⟨n, HN⟩ : ∃ n, Hid (S.length = n) := ⟨_, rfl⟩
 rw [HN.out] at hn ⊢
 go_enter Tryz.func47, Tryz.ntmps47
 go_wp2_with fail
 go_loopw [1, 5] (fun kk t wr => ∃ (k : Nat) (K : Int), k <= n /\ t = .int .i64 k /\ kk = .int .i64 K /\ K = k0 + (k : Int) + ((allTo S k).length : Int) /\ StopsRow wr gr S /\ GrownBut (fun b => lo <= b /\ b < hi) w wr /\ KeepI w wr) (fun _ t _ => n - (intOf t).toNat)
 case atStart => exact ⟨0, k0, Nat.zero_le _, rfl, rfl, by rw [allTo_zero]; simp, HR.out, GrownBut.of_below (Below.refl _ _), KeepI.refl w⟩
 case round =>
   clear HR
   obtain ⟨k, K, hk, rfl, rfl, hK, hr, hg, hki⟩ := hrel
   have R1 : Hid (StopsRow wr gr S) := hr
   have G1 : Hid (GrownBut (fun b => lo <= b /\ b < hi) w wr) := hg
   have I1 : Hid (KeepI w wr) := hki
   have HK : Hid (K = k0 + (k : Int) + ((allTo S k).length : Int)) := hK
   have hKb : 0 <= K /\ K <= 150000000 := by
     have := HAL.out k (by rw [HN.out]; exact hk)
     omega
   obtain ⟨hK0, hK1⟩ := hKb
   clear hr hg hki hK
   by_cases hlt : k < n
   · have hkS : k < S.length := by rw [HN.out]; exact hlt
     have hkI : (k : Int) < (n : Int) := by omega
     have HTK : Hid (allTo S (k + 1) = allTo S k ++ (S.getD k rt0).ids) := allTo_succ hkS
     have hl2 := HAL.out (k + 1) (by omega)
     rw [HTK.out, List.length_append] at hl2
     have hmem : S.getD k rt0 ∈ S := by rw [List.getD_eq_getElem?_getD, List.getElem?_eq_getElem hkS]; simp
     obtain ⟨g, cur0, ea, hlh, hrow0, hsz0⟩ := HST.out _ hmem
     obtain ⟨cr, hcr, hcs, hcj⟩ := R1.out
     have hcj' := hcj k hkS
     generalize S.getD k rt0 = r at *
     obtain ⟨rv, rra, rids, rcc⟩ := r
     simp only at ea hsz0 HTK hcj' hl2
     subst ea
     obtain ⟨rl, HRL⟩ : ∃ x, Hid (rids.length = x) := ⟨_, rfl⟩
     rw [HRL.out] at hsz0 hcj' hl2
     have f1 := fun i => frozen_of_row _ _ i _ _ hcr
     obtain ⟨v0, y0⟩ := row_some hcr (j := k * 2) (by rw [hcs]; omega)
     have y1 : (wr.setCell ⟨gr, k * 2, none⟩ (.int .i64 K)).cell? ⟨gr, k * 2 + 1, none⟩ = some (.slice (some ⟨g, 0, none⟩) rl rcc) := by
       rw [cell_of_row _ _ (k * 2 + 1) _ _ _ (heap_setCell_same wr gr (k * 2) cr _ (.int .i64 K) hcr), Array.getElem?_setIfInBounds_ne (by omega)]
       exact hcj'
     have R2 : Hid (StopsRow (wr.setCell ⟨gr, k * 2, none⟩ (.int .i64 K)) gr S) := R1.out.put
     have I2 : Hid (KeepI w (wr.setCell ⟨gr, k * 2, none⟩ (.int .i64 K))) := I1.out.trans (KeepI.set hcr (by decide))
     have G2 : Hid (GrownBut (fun b => lo <= b /\ b < hi) w (wr.setCell ⟨gr, k * 2, none⟩ (.int .i64 K))) := G1.out.trans (GrownBut.of_grown (grown_set _ _ _ _) HGR.out)
     obtain ⟨cur1, hrow1, hsz1⟩ := I2.out g cur0 hrow0
     have HROW1 : Hid ((wr.setCell ⟨gr, k * 2, none⟩ (.int .i64 K)).heap[g]? = some (.cells cur1 2 (0, 0))) := hrow1
     have HSZ1 : Hid (cur1.size = rl) := hsz1.trans hsz0
     have HLH : Hid (lo <= g /\ g < hi) := hlh
     have HSUM : Hid (k0 + ((k + 1 : Nat) : Int) + ((allTo S (k + 1)).length : Int) = K + 1 + (rl : Int)) := by
       show _ = _
       rw [HTK.out, List.length_append, HRL.out, HK.out]
       omega
     clear hrow0 hsz0 hrow1 hsz1 hcj hcj' hcs hmem R1 I1 G1 hlh
     go_wp2_with fail
     clear y0 y1 f1 hcr
     refine (markInt64S_any g rl _ (K + 1) cur1 _ _ HROW1.out (by rw [HSZ1.out]; exact Nat.le_refl _) (by omega) (by omega) (by omega)).mono ?_
     rintro e w3 ⟨rfl, hg, hr⟩
     have R3 : Hid (StopsRow w3 gr S) := R2.out.but hg HROW1.out
     have I3 : Hid (KeepI w w3) := I2.out.trans (KeepI.mark hg HROW1.out hr (markA_size _ _ _))
     have G3 : Hid (GrownBut (fun b => lo <= b /\ b < hi) w w3) := G2.out.trans (GrownBut.of_grown hg HLH.out)
     clear hg hr R2 I2 G2
     obtain ⟨K2, HK2⟩ : ∃ t, Hid (K + 1 + (rl : Int) = t) := ⟨_, rfl⟩
     rw [HK2.out]
     go_wp2
     first
       | exact ⟨⟨k + 1, K2, by omega, by first | rfl | go_num, rfl, by rw [HSUM.out, HK2.out], R3.out, G3.out, I3.out⟩, by simp [intOf]; omega⟩
       | (go_roundw
          case rel => exact ⟨k + 1, K2, by omega, by first | rfl | go_num, rfl, by rw [HSUM.out, HK2.out], R3.out, G3.out, I3.out⟩
          case measure => simp [intOf]; omega)
   · have hkI : ¬ ((k : Int) < (n : Int)) := by omega
     go_wp2
     go_ret
     exact ⟨K, rfl, hK0, by omega, G1.out, I1.out⟩
set_option maxHeartbeats 1000000 in
theorem markPlan_any (g gl lo hi : Nat) (k0 : Int) (S R : List RT) (L : List Int) (w : World) (hP : PlanAt w g gl S R L) (hst : ∀ s ∈ S, ∀ b, s.a = some ⟨b, 0, none⟩ -> lo <= b /\ b < hi) (hg : lo <= g /\ g < hi) (hgl : lo <= gl /\ gl < hi) (h0 : 0 <= k0) (h1 : k0 <= 100000000) (hn : R.length <= 1048576) (hll : L.length <= 1048576) (hal : (allTo R R.length).length <= 1048576) (hhi : hi <= w.heap.size) :
   Calls Tryz.prog 15 #[.agg #[.slice (some ⟨g, 0, none⟩) R.length R.length, .slice (some ⟨gl, 0, none⟩) L.length L.length], .int .i64 k0] w fun e w' => ∃ k', e = .returned (.int .i64 k') /\ 0 <= k' /\ GrownBut (fun b => lo <= b /\ b < hi) w w' := by
 have hkl := key_len hP.k
 have HMS : Hid (∀ W, Below w.heap.size w W -> Calls Tryz.prog 47 #[.slice (some ⟨g, 0, none⟩) R.length R.length, .int .i64 k0] W fun e w' => ∃ k', e = .returned (.int .i64 k') /\ 0 <= k' /\ k' <= 200000000 /\ GrownBut (fun b => lo <= b /\ b < hi) W w' /\ KeepI W w') := fun W hb => by
   have hP' := hP.below hb
   have := markRouteS_any g R.length lo hi k0 S W (StopsRow.of_row hP'.1) (fun s hs => by
     obtain ⟨b, e1, e2, e3, e4⟩ := hP'.2.1.2 s hs
     exact ⟨b, _, e1, hst s hs b e1, e4, cellsOf_size _⟩) hg h0 h1 (by omega) (by rw [allTo_key hP.k, hkl]; exact hal)
   rw [hkl] at this
   exact this
 have HL : Hid (w.heap[gl]? = some (.cells (cellsOf L) 2 (0, 0))) := hP.2.2
 clear hP hst
 have B0 : Hid (Below w.heap.size w (w.alloc (.cells #[.slice (some ⟨g, 0, none⟩) R.length R.length, .slice (some ⟨gl, 0, none⟩) L.length L.length] 36))) := (Below.refl _ _).alloc (Nat.le_refl _) _
 have X0 : Hid ((w.alloc (.cells #[.slice (some ⟨g, 0, none⟩) R.length R.length, .slice (some ⟨gl, 0, none⟩) L.length L.length] 36)).heap[w.heap.size]? = some (.cells #[.slice (some ⟨g, 0, none⟩) R.length R.length, .slice (some ⟨gl, 0, none⟩) L.length L.length] 36 (0, 0))) := heap_alloc_new _ _
 go_enter Tryz.func15, Tryz.ntmps15
 obtain ⟨c0, c1⟩ := cells2 X0.out
 go_wp2_with fail
 clear c0 c1
 refine (HMS.out _ B0.out).mono ?_
 rintro e w1 ⟨k1, rfl, hk0, hk1, hG, hI⟩
 obtain ⟨cur, hrl, hsz⟩ := hI gl _ (below_row B0.out (row_lt HL.out) HL.out)
 have HRL : Hid (w1.heap[gl]? = some (.cells cur 2 (0, 0))) := hrl
 have HSZ : Hid (cur.size = L.length) := hsz.trans (cellsOf_size _)
 have G1 : Hid (GrownBut (fun b => lo <= b /\ b < hi) w w1) := (GrownBut.of_below B0.out).trans hG
 have X1 : Hid (w1.heap[w.heap.size]? = some (.cells #[.slice (some ⟨g, 0, none⟩) R.length R.length, .slice (some ⟨gl, 0, none⟩) L.length L.length] 36 (0, 0))) := hG.row X0.out (fun h => by omega)
 clear hG hI hrl hsz B0 X0
 obtain ⟨c0, c1⟩ := cells2 X1.out
 go_wp2_with fail
 clear c0 c1
 refine (markInt64S_any gl L.length _ k1 cur _ _ HRL.out (by rw [HSZ.out]; exact Nat.le_refl _) hk0 (by omega) (by omega)).mono ?_
 rintro e w2 ⟨rfl, hg2, -⟩
 have G2 : Hid (GrownBut (fun b => lo <= b /\ b < hi) w w2) := G1.out.trans (GrownBut.of_grown hg2 hgl)
 clear hg2
 go_wp2
 go_ret
 exact ⟨_, rfl, by omega, G2.out⟩
end Go.Proofs.YtfpegaldloadaaaGreat
