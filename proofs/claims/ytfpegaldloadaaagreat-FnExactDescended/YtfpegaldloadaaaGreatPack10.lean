import Derived.Test.YtfpegaldloadaaaGreatPack0
import Derived.Test.YtfpegaldloadaaaGreatPack1
import Derived.Test.YtfpegaldloadaaaGreatPack5
import Derived.Test.YtfpegaldloadaaaGreatPack9
import Derived.WalkKit
import Derived.Deep.RegionLaw
namespace Go.Proofs.YtfpegaldloadaaaGreat
open Go.RowKit
def visF (n : Int) (zs ros : List Int) (home frm : Int) (k f : Nat) : Int :=
 if f = 0 then og6 ros k 0 else if f = 1 then arrV n zs ros home frm k else if f = 2 then startV n zs ros home frm k else nowT n zs ros home frm (k + 1)
def visL (n : Int) (zs ros : List Int) (home frm : Int) (m : Nat) : List Int := (List.range (m * 4)).map fun j => visF n zs ros home frm (j / 4) (j % 4)
theorem visL_length (n : Int) (zs ros : List Int) (home frm : Int) (m : Nat) : (visL n zs ros home frm m).length = m * 4 := by simp [visL]
theorem visL_at (n : Int) (zs ros : List Int) (home frm : Int) {m k f : Nat} (hk : k < m) (hf : f < 4) : (visL n zs ros home frm m).getD (k * 4 + f) 0 = visF n zs ros home frm k f := by
 unfold visL
 have hj : k * 4 + f < m * 4 := by omega
 have e1 : (k * 4 + f) / 4 = k := by omega
 have e2 : (k * 4 + f) % 4 = f := by omega
 rw [List.getD, List.getElem?_map, List.getElem?_range hj]
 simp only [Option.map_some, Option.getD_some, e1, e2]
theorem visL_step (n : Int) (zs ros : List Int) (home frm : Int) {m k : Nat} (hk : k < m) {x0 x1 x2 x3 : Int} (h0 : og6 ros k 0 = x0) (h1 : arrV n zs ros home frm k = x1) (h2 : startV n zs ros home frm k = x2) (h3 : nowT n zs ros home frm (k + 1) = x3) :
   (((visL n zs ros home frm m).take (k * 4)).map (Value.int .i64)) ++ [Value.int .i64 x0, Value.int .i64 x1, Value.int .i64 x2, Value.int .i64 x3] = ((visL n zs ros home frm m).take ((k + 1) * 4)).map (Value.int .i64) := by
 have hl := visL_length n zs ros home frm m
 have e : (k + 1) * 4 = k * 4 + 1 + 1 + 1 + 1 := by omega
 have g0 := visL_at n zs ros home frm hk (f := 0) (by omega)
 have g1 := visL_at n zs ros home frm hk (f := 1) (by omega)
 have g2 := visL_at n zs ros home frm hk (f := 2) (by omega)
 have g3 := visL_at n zs ros home frm hk (f := 3) (by omega)
 simp only [Nat.add_zero, visF] at g0 g1 g2 g3
 rw [e, take_snoc _ _ (by omega), take_snoc _ _ (by omega), take_snoc _ _ (by omega), take_snoc _ _ (by omega)]
 simp only [g0, g1, g2, g3]
 simp [h0, h1, h2, h3]
theorem infoVis4 : (Tryz.prog.info? 159).map (fun i => (i.zero, i.size, i.bytes)) = some (some (.agg #[Value.int .i64 0, Value.int .i64 0, Value.int .i64 0, Value.int .i64 0]), 4, 32) := by kernel_rfl
theorem append_visits (w : World) {ops : Array Oper} {rest : List Oper} {o : Oper} {a : Act} {Q : Exit -> Act -> World -> Prop}
   (hg : o.guard = none) (s x : Operand) (hop : o.op = Op.call { callee := Callee.builtin Builtin.append, args := #[s, x], argTypes := #[136, 136] })
   (base : Nat) (v : Value) (k : Nat) (xs : List Value) (hs : a.eval s = v) (hown : w.ownsRow base 159 4 v k xs) (ad : Addr) (c : Nat) (news : List Value) (hx : a.eval x = .slice (some ad) 1 c) (hn : news.length = 4)
   (hc : ∀ j u, news[j]? = some u -> w.cell? (ad.add j) = some u) (h1c : ∀ u ∈ news, u.oneCell' = true) (b1 : k <= 1000) (hb : base <= w.heap.size)
   (hK : ∀ v' w', w'.ownsRow base 159 4 v' (k + 1) (xs ++ news) -> w.grownBy w' v.ownBlock -> wpList Tryz.prog ops Q rest (a.put o.dst v') w') :
   wpList Tryz.prog ops Q (o :: rest) a w := by
 obtain ⟨i0, hi, hz0, hz1, hz2⟩ := info_parts infoVis4
 exact wpList_append_own w hg s x _ hop base _ i0 _ 4 32 Tryz.underlying136 hi hz0 hz1 hz2 rfl (by decide) v k xs hs hown ad 1 c news hx (by rw [hn]) hc h1c (by unfold maxLen; omega) (by omega) hb (fun v' w' h1 h2 _ => hK v' w' h1 h2)
theorem cells4_new (W : World) (o0 o1 o2 o3 : Value) (T : TypeId) (g : Nat) (hg : W.heap.size = g) : ∀ j u, [o0, o1, o2, o3][j]? = some u -> (W.alloc (.cells #[o0, o1, o2, o3] T)).cell? ((⟨g, 0, none⟩ : Addr).add j) = some u := by
 intro j u hu
 subst hg
 have hadd : (⟨W.heap.size, 0, none⟩ : Addr).add j = ⟨W.heap.size, j, none⟩ := by unfold Addr.add; split <;> simp_all
 rw [hadd, cell_of_row _ _ j _ _ _ (heap_alloc_new W (.cells #[o0, o1, o2, o3] T))]
 simpa using hu
theorem owned_at {w : World} {base k : Nat} {v : Value} {e : TypeId} {size : Nat} {xs : List Value} (h : w.ownsRow base e size v (k + 1) xs) : ∃ g c, v = .slice (some ⟨g, 0, none⟩) (k + 1) c /\ base <= g := by
 obtain ⟨_, ⟨_, h2⟩ | ⟨g, cap, cur, h2, h3, _⟩⟩ := h
 · omega
 · exact ⟨g, cap, h2, h3⟩
theorem CR.grown {w W W' : World} {cs rs : Array Value} {g : Nat} (h : CR w W cs rs) (hg : W.grownBy W' (some g)) (hlt : w.heap.size + 1 < g) : CR w W' cs rs :=
 ⟨h.1.grown hg h.1.size (fun k e => by cases e; omega), (hg.block _ (row_lt h.2.1) (fun e => by cases e; omega)).trans h.2.1, (hg.block _ (row_lt h.2.2) (fun e => by cases e; omega)).trans h.2.2⟩
theorem l1Time_is' (n x y : Int) (a : Option Addr) (cap : Nat) (zs : List Int) (w : World) (d : Int) (hd : tmI n zs x y = d) (hm : matB n zs = true) (hx : 0 <= x /\ x < n) (hy : 0 <= y /\ y < n) (hA : IntsAt w a zs) :
   Calls Tryz.prog 93 #[.agg #[.int .i64 n, .slice a zs.length cap], .int .i64 x, .int .i64 y] w fun e w' => e = .returned (.int .i64 d) /\ Below w.heap.size w w' := hd ▸ l1Time_I n x y a cap zs w hm hx hy hA
set_option maxHeartbeats 2000000 in
theorem specSchedule_any (n fine veh : Int) (a ao av bi : Option Addr) (cap ko co kv cv c2 : Nat) (zs os vs ids : List Int) (w : World) (hA : IntsAt w a zs) (hO : IntsAt w ao os) (hV : IntsAt w av vs) (hI : IntsAt w bi ids) (hlo : os.length = ko * 6) (hlv : vs.length = kv * 5) (hko : ko <= 9223372036854775807) (hkv : kv <= 9223372036854775807) (hli : ids.length <= 9223372036854775807) (hc2 : ids.length <= c2) :
   Calls Tryz.prog 91 #[.agg #[.int .i64 n, .slice a zs.length cap, .slice ao ko co, .slice av kv cv, .int .i64 fine], .agg #[.int .i64 veh, .slice bi ids.length c2]] w fun e w' => Below w.heap.size w w' /\ ((codeV (caseB n zs os vs ko kv fine) n zs os vs ko kv veh ids ≠ 0 /\ e = .returned (.tuple #[.slice none 0 0, .int .i64 0, .int .i64 (codeV (caseB n zs os vs ko kv fine) n zs os vs ko kv veh ids)])) ∨ (codeV (caseB n zs os vs ko kv fine) n zs os vs ko kv veh ids = 0 /\ ∃ g c, w.heap.size <= g /\ e = .returned (.tuple #[.slice (some ⟨g, 0, none⟩) ids.length c, .int .i64 (homeV n zs (rosOf os ko ids) ids.length (fnd5F vs kv veh 1) (fnd5F vs kv veh 3)), .int .i64 0]) /\ IntsAt w' (some ⟨g, 0, none⟩) (visL n zs (rosOf os ko ids) (fnd5F vs kv veh 1) (fnd5F vs kv veh 3) ids.length))) := by
 have HA : Hid (IntsAt w a zs) := hA
 have HO : Hid (IntsAt w ao os) := hO
 have HV : Hid (IntsAt w av vs) := hV
 have HI : Hid (IntsAt w bi ids) := hI
 have HLO : Hid _ := hlo
 have HLV : Hid _ := hlv
 clear hA hO hV hI hlo hlv
 have HC0 : Hid (CR w ((w.alloc (.cells #[Value.int .i64 n, Value.slice a zs.length cap, Value.slice ao ko co, Value.slice av kv cv, Value.int .i64 fine] 43)).alloc (.cells #[Value.int .i64 veh, Value.slice bi ids.length c2] 100)) _ _) := CR.new w _ _
 obtain ⟨r, HR⟩ : ∃ r, Hid (codeV (caseB n zs os vs ko kv fine) n zs os vs ko kv veh ids = r) := ⟨_, rfl⟩
 rw [HR.out]
 go_enter Tryz.func91, Tryz.ntmps91
 obtain ⟨c0, c1, c2', c3, c4⟩ := cells5 HC0.out.2.1
 obtain ⟨d0, d1⟩ := cells2 HC0.out.2.2
 go_wp2_with fail
 clear c0 c1 c2' c3 c4 d0 d1
 refine (l3Form_any n fine veh a ao av bi cap ko co kv cv c2 zs os vs ids _ (HA.out.below HC0.out.1) (HO.out.below HC0.out.1) (HV.out.below HC0.out.1) (HI.out.below HC0.out.1) HLO.out HLV.out hko hkv hli hc2).mono ?_
 rintro e w1 ⟨rfl, hb⟩
 have C1 : Hid (CR w w1 _ _) := HC0.out.below hb
 clear hb HC0
 obtain ⟨fv, HFV⟩ : ∃ t, Hid (formV (caseB n zs os vs ko kv fine) vs os kv ko veh ids = t) := ⟨_, rfl⟩
 rw [HFV.out]
 by_cases hfv : fv = 0
 · subst hfv
   have HRV := (codeV_hours (n := n) (zs := zs) HFV.out).symm.trans HR.out
   obtain ⟨hcb, _, hstB⟩ := formV_zero HFV.out
   obtain ⟨hmat, hords, hvehs, hn1, _⟩ := caseB_parts hcb
   have hvb := fnd5F_bd hvehs hn1 veh
   have HMAT : Hid (matB n zs = true) := hmat
   have HOB : Hid (ordsB n os ko = true) := hords
   have HN1 : Hid (1 <= n) := hn1
   have h12 := (stopsB_true hstB).1
   clear hmat hords hvehs hn1 hcb hstB
   obtain ⟨c0, c1, c2', c3, c4⟩ := cells5 C1.out.2.1
   obtain ⟨d0, d1⟩ := cells2 C1.out.2.2
   go_wp2_with fail
   clear c0 c1 c2' c3 c4 d0 d1
   refine (l2Car_any n fine veh a ao av _ cap ko co kv cv vs _ (HV.out.below C1.out.1) HLV.out hkv).mono ?_
   rintro e w2 ⟨rfl, hb⟩
   obtain ⟨v0, G0⟩ : ∃ t, Hid (fnd5F vs kv veh 0 = t) := ⟨_, rfl⟩
   obtain ⟨v1, G1⟩ : ∃ t, Hid (fnd5F vs kv veh 1 = t) := ⟨_, rfl⟩
   obtain ⟨v2, G2⟩ : ∃ t, Hid (fnd5F vs kv veh 2 = t) := ⟨_, rfl⟩
   obtain ⟨v3, G3⟩ : ∃ t, Hid (fnd5F vs kv veh 3 = t) := ⟨_, rfl⟩
   obtain ⟨v4, G4⟩ : ∃ t, Hid (fnd5F vs kv veh 4 = t) := ⟨_, rfl⟩
   rw [G1.out, G2.out, G3.out, G4.out] at hvb
   rw [G1.out, G3.out, G4.out] at HRV
   rw [G0.out, G1.out, G2.out, G3.out, G4.out]
   generalize fnd5T vs kv veh = tv
   have HV1 : Hid (hoursV n zs (rosOf os ko ids) ids.length v1 v3 v4 = r) := HRV
   have HX1 : Hid (0 <= v1 /\ v1 < n) := hvb.1
   have HX3 : Hid (0 <= v3 /\ v3 <= 1000000) := hvb.2.2.1
   clear hvb HRV
   have C3 : Hid (CR w ((w2.alloc (Obj.cells #[Value.int .i64 v0, Value.int .i64 v1, Value.int .i64 v2, Value.int .i64 v3, Value.int .i64 v4] 86)).alloc (Obj.cells #[] 159)) _ _) := CR.alloc (CR.alloc (C1.out.below hb) _) _
   have RV3 : Hid (((w2.alloc (Obj.cells #[Value.int .i64 v0, Value.int .i64 v1, Value.int .i64 v2, Value.int .i64 v3, Value.int .i64 v4] 86)).alloc (Obj.cells #[] 159)).heap[w2.heap.size]? = _) := heap_alloc2_old _ _ _
   have RO3 : Hid (((w2.alloc (Obj.cells #[Value.int .i64 v0, Value.int .i64 v1, Value.int .i64 v2, Value.int .i64 v3, Value.int .i64 v4] 86)).alloc (Obj.cells #[] 159)).heap[w2.heap.size + 1]? = _) := heap_alloc2_new _ _ _
   have HGV : Hid (w.heap.size + 1 < w2.heap.size) := row_lt (C1.out.below hb).2.2
   clear hb C1
   obtain ⟨q0, q1, q2, q3, q4⟩ := cells5 RV3.out
   go_wp2_with fail
   clear q0 q1 q2 q3 q4
   generalize (w2.alloc (Obj.cells #[Value.int .i64 v0, Value.int .i64 v1, Value.int .i64 v2, Value.int .i64 v3, Value.int .i64 v4] 86)).alloc (Obj.cells #[] 159) = W2 at *
   generalize w2.heap.size = gv at *
   have HW0 : Hid (W2.ownsRow (gv + 1) 159 4 (.slice (some ⟨gv + 1, 0, none⟩) 0 0) 0 []) := ⟨by simp, .inr ⟨gv + 1, 0, #[], rfl, Nat.le_refl _, RO3.out, Nat.le_refl _, Nat.zero_le _, by simp, by simp⟩⟩
   have HBD : Hid (RosBd n (rosOf os ko ids) ids.length) := rosBd_of HOB.out HN1.out ids
   go_loopw [10, 11, 12, 13] (fun sl nw pl t wr => ∃ k gg cc : Nat, k <= ids.length /\ t = .int .i64 k /\ sl = .slice (some ⟨gg, 0, none⟩) k cc /\ gv + 1 <= gg /\ wr.ownsRow (gv + 1) 159 4 (.slice (some ⟨gg, 0, none⟩) k cc) k (((visL n zs (rosOf os ko ids) v1 v3 ids.length).take (k * 4)).map (Value.int .i64)) /\ pl = .int .i64 (plc (rosOf os ko ids) v1 k) /\ nw = .int .i64 (nowT n zs (rosOf os ko ids) v1 v3 k) /\ timelyTo n zs (rosOf os ko ids) v1 v3 k /\ CR w wr #[Value.int .i64 n, Value.slice a zs.length cap, Value.slice ao ko co, Value.slice av kv cv, Value.int .i64 fine] #[Value.int .i64 veh, Value.slice bi ids.length c2] /\ wr.heap[gv]? = some (.cells #[Value.int .i64 v0, Value.int .i64 v1, Value.int .i64 v2, Value.int .i64 v3, Value.int .i64 v4] 86 (0, 0))) (fun _ _ _ t _ => ids.length - (intOf t).toNat)
   case atStart => exact ⟨0, gv + 1, 0, Nat.zero_le _, rfl, rfl, Nat.le_refl _, by simpa using HW0.out, rfl, rfl, fun j hj => by omega, C3.out, RV3.out⟩
   case round =>
     clear C3 RV3 RO3 HW0
     obtain ⟨k, gg, cc, hk, rfl, rfl, hgg, hw, rfl, rfl, htm, hb, hrv⟩ := hrel
     have hpl := plc_bd HBD.out HX1.out.1 HX1.out.2 k hk
     have hnw := nowT_bd (home := v1) HMAT.out HBD.out HX3.out k hk
     have HTM : Hid (timelyTo n zs (rosOf os ko ids) v1 v3 k) := htm
     have HB : Hid (CR w wr _ _) := hb
     have HRV : Hid (wr.heap[gv]? = _) := hrv
     have HW : Hid (wr.ownsRow (gv + 1) 159 4 _ k _) := hw
     have HGG : Hid (gv + 1 <= gg) := hgg
     obtain ⟨c0, c1, c2', c3, c4⟩ := cells5 hb.2.1
     obtain ⟨d0, d1⟩ := cells2 hb.2.2
     obtain ⟨p, HPL⟩ : ∃ t, Hid (plc (rosOf os ko ids) v1 k = t) := ⟨_, rfl⟩
     obtain ⟨f, HFR⟩ : ∃ t, Hid (nowT n zs (rosOf os ko ids) v1 v3 k = t) := ⟨_, rfl⟩
     rw [HPL.out] at hpl
     rw [HFR.out] at hnw
     rw [HPL.out, HFR.out]
     have HPB : Hid (0 <= p /\ p < n) := hpl
     clear htm hb hrv hpl hw hgg
     by_cases hlt : k < ids.length
     · obtain ⟨b, off, rfl, hcs⟩ := IntsAt.some (IntsAt.below HI.out HB.out.1) hlt
       have ct := hcs k hlt
       clear hcs
       obtain ⟨id, HID⟩ : ∃ i, Hid (ids.getD k 0 = i) := ⟨_, rfl⟩
       rw [HID.out] at ct
       obtain ⟨h1b, h2b, h3b, h4b, h5b⟩ := fnd6F_bd HOB.out HN1.out id
       obtain ⟨o0, H0⟩ : ∃ t, Hid (fnd6F os ko id 0 = t) := ⟨_, rfl⟩
       obtain ⟨o1, H1⟩ : ∃ t, Hid (fnd6F os ko id 1 = t) := ⟨_, rfl⟩
       obtain ⟨o2, H2⟩ : ∃ t, Hid (fnd6F os ko id 2 = t) := ⟨_, rfl⟩
       obtain ⟨o3, H3⟩ : ∃ t, Hid (fnd6F os ko id 3 = t) := ⟨_, rfl⟩
       obtain ⟨o4, H4⟩ : ∃ t, Hid (fnd6F os ko id 4 = t) := ⟨_, rfl⟩
       obtain ⟨o5, H5⟩ : ∃ t, Hid (fnd6F os ko id 5 = t) := ⟨_, rfl⟩
       rw [H1.out] at h1b
       rw [H3.out] at h3b
       rw [H4.out] at h4b
       rw [H5.out] at h5b
       have HO1 : Hid (0 <= o1 /\ o1 < n) := h1b
       clear h1b h2b
       obtain ⟨d, HD⟩ : ∃ t, Hid (tmI n zs p o1 = t) := ⟨_, rfl⟩
       have hdb := tmI_bd HMAT.out p o1
       rw [HD.out] at hdb
       have K0 : Hid (og6 (rosOf os ko ids) k 0 = o0) := (rosOf_at os ko ids hlt (by omega)).trans (by rw [HID.out]; exact H0.out)
       have K1 : Hid (og6 (rosOf os ko ids) k 1 = o1) := (rosOf_at os ko ids hlt (by omega)).trans (by rw [HID.out]; exact H1.out)
       have K3 : Hid (og6 (rosOf os ko ids) k 3 = o3) := (rosOf_at os ko ids hlt (by omega)).trans (by rw [HID.out]; exact H3.out)
       have K4 : Hid (og6 (rosOf os ko ids) k 4 = o4) := (rosOf_at os ko ids hlt (by omega)).trans (by rw [HID.out]; exact H4.out)
       have K5 : Hid (og6 (rosOf os ko ids) k 5 = o5) := (rosOf_at os ko ids hlt (by omega)).trans (by rw [HID.out]; exact H5.out)
       obtain ⟨mx, HMX⟩ : ∃ t, Hid (max (f + d) o3 = t) := ⟨_, rfl⟩
       have HAR : Hid (arrV n zs (rosOf os ko ids) v1 v3 k = f + d) := by
         show _ = _
         unfold arrV
         rw [HFR.out, HPL.out, K1.out, HD.out]
       have HSTV : Hid (startV n zs (rosOf os ko ids) v1 v3 k = mx) := by
         show _ = _
         unfold startV
         rw [HAR.out, K3.out, HMX.out]
       have HNX : Hid (nowT n zs (rosOf os ko ids) v1 v3 (k + 1) = mx + o5) := by
         show _ = _
         rw [nowT_succ, HSTV.out, K5.out]
       have hmb : 0 <= mx /\ mx <= 3000000 := by
         have := HMX.out
         omega
       obtain ⟨tt, HTT⟩ : ∃ t, Hid (fnd6T os ko id = t) := ⟨_, rfl⟩
       go_wp2_with fail
       have HCT : Hid (wr.cell? ⟨b, off + k, none⟩ = _) := ct
       have HCA : Hid ((wr.alloc (Obj.cells #[Value.int .i64 0, Value.int .i64 0, Value.int .i64 0, Value.int .i64 0, Value.int .i64 0, Value.int .i64 0] 103)).cell? ⟨b, off + k, none⟩ = _) := (((Below.refl wr.heap.size wr).alloc (Nat.le_refl _) _).cell (p := ⟨b, off + k, none⟩) (block_lt_of_cell ct)).trans ct
       have HVA : Hid ((wr.alloc (Obj.cells #[Value.int .i64 0, Value.int .i64 0, Value.int .i64 0, Value.int .i64 0, Value.int .i64 0, Value.int .i64 0] 103)).heap[gv]? = _) := (heap_alloc_old _ _ (row_lt HRV.out)).trans HRV.out
       have hlb := block_lt_of_cell ct
       simp at hlb
       have hlw := row_lt HB.out.2.1
       have hlr := row_lt HB.out.2.2
       go_region_held3 (fun W => W.cell? ⟨w.heap.size, 0, none⟩ = some (.int .i64 n) /\ W.cell? ⟨w.heap.size, 1, none⟩ = some (.slice a zs.length cap) /\ W.cell? ⟨w.heap.size, 2, none⟩ = some (.slice ao ko co) /\ W.cell? ⟨w.heap.size, 3, none⟩ = some (.slice av kv cv) /\ W.cell? ⟨w.heap.size, 4, none⟩ = some (.int .i64 fine) /\ W.cell? ⟨w.heap.size + 1, 1, none⟩ = some (.slice (some ⟨b, off, none⟩) ids.length c2) /\ W.cell? ⟨b, off + k, none⟩ = some (.int .i64 id)) (first | with_reducible exact kS | with_reducible exact ⟨(keep_set (keep_set (keep_set (keep_set (keep_set (keep_set kS.1 (Nat.ne_of_lt hlw)) (Nat.ne_of_lt hlw)) (Nat.ne_of_lt hlw)) (Nat.ne_of_lt hlw)) (Nat.ne_of_lt hlw)) (Nat.ne_of_lt hlw)), (keep_set (keep_set (keep_set (keep_set (keep_set (keep_set kS.2.1 (Nat.ne_of_lt hlw)) (Nat.ne_of_lt hlw)) (Nat.ne_of_lt hlw)) (Nat.ne_of_lt hlw)) (Nat.ne_of_lt hlw)) (Nat.ne_of_lt hlw)), (keep_set (keep_set (keep_set (keep_set (keep_set (keep_set kS.2.2.1 (Nat.ne_of_lt hlw)) (Nat.ne_of_lt hlw)) (Nat.ne_of_lt hlw)) (Nat.ne_of_lt hlw)) (Nat.ne_of_lt hlw)) (Nat.ne_of_lt hlw)), (keep_set (keep_set (keep_set (keep_set (keep_set (keep_set kS.2.2.2.1 (Nat.ne_of_lt hlw)) (Nat.ne_of_lt hlw)) (Nat.ne_of_lt hlw)) (Nat.ne_of_lt hlw)) (Nat.ne_of_lt hlw)) (Nat.ne_of_lt hlw)), (keep_set (keep_set (keep_set (keep_set (keep_set (keep_set kS.2.2.2.2.1 (Nat.ne_of_lt hlw)) (Nat.ne_of_lt hlw)) (Nat.ne_of_lt hlw)) (Nat.ne_of_lt hlw)) (Nat.ne_of_lt hlw)) (Nat.ne_of_lt hlw)), (keep_set (keep_set (keep_set (keep_set (keep_set (keep_set kS.2.2.2.2.2.1 (Nat.ne_of_lt hlr)) (Nat.ne_of_lt hlr)) (Nat.ne_of_lt hlr)) (Nat.ne_of_lt hlr)) (Nat.ne_of_lt hlr)) (Nat.ne_of_lt hlr)), (keep_set (keep_set (keep_set (keep_set (keep_set (keep_set kS.2.2.2.2.2.2 (Nat.ne_of_lt hlb)) (Nat.ne_of_lt hlb)) (Nat.ne_of_lt hlb)) (Nat.ne_of_lt hlb)) (Nat.ne_of_lt hlb)) (Nat.ne_of_lt hlb))⟩ | go_keep) ((first
         | (go_at_call 60
            with_reducible refine (l2At_any n fine id a ao av _ cap ko co kv cv os wr.drew ?_ HLO.out hko).mono ?_
            · exact HO.out.below HB.out.1.drew
            rintro e w2 ⟨rfl, hb2⟩
            rw [H0.out, H1.out, H2.out, H3.out, H4.out, H5.out, HTT.out]
            have hcr2 := CR.below (CR.drew HB.out) hb2
            obtain ⟨k0, k1, k2, k3, k4⟩ := cells5 hcr2.2.1
            have k5 := (cells2 hcr2.2.2).2
            have k6 := (hb2.cell (p := ⟨b, off + k, none⟩) (block_lt_of_cell HCT.out)).trans HCT.out
            have kS := And.intro k0 (And.intro k1 (And.intro k2 (And.intro k3 (And.intro k4 (And.intro k5 k6)))))
            have CR2 : Hid (CR w w2 _ _) := hcr2
            have RV2 : Hid (w2.heap[gv]? = _) := below_row hb2 (row_lt HRV.out) HRV.out
            have B2 : Hid (Below wr.heap.size wr w2) := (Below.refl _ wr).drew.trans hb2
            clear hb2 hcr2 k0 k1 k2 k3 k4 k5 k6)
         | (go_at_call 60
            with_reducible refine (l2At_any n fine id a ao av _ cap ko co kv cv os (wr.alloc (Obj.cells #[Value.int .i64 0, Value.int .i64 0, Value.int .i64 0, Value.int .i64 0, Value.int .i64 0, Value.int .i64 0] 103)).drew ?_ HLO.out hko).mono ?_
            · exact HO.out.below (CR.alloc HB.out (Obj.cells #[Value.int .i64 0, Value.int .i64 0, Value.int .i64 0, Value.int .i64 0, Value.int .i64 0, Value.int .i64 0] 103)).1.drew
            rintro e w2 ⟨rfl, hb2⟩
            rw [H0.out, H1.out, H2.out, H3.out, H4.out, H5.out, HTT.out]
            have hcr2 := CR.below (CR.drew (CR.alloc HB.out (Obj.cells #[Value.int .i64 0, Value.int .i64 0, Value.int .i64 0, Value.int .i64 0, Value.int .i64 0, Value.int .i64 0] 103))) hb2
            obtain ⟨k0, k1, k2, k3, k4⟩ := cells5 hcr2.2.1
            have k5 := (cells2 hcr2.2.2).2
            have k6 := (hb2.cell (p := ⟨b, off + k, none⟩) (block_lt_of_cell HCA.out)).trans HCA.out
            have kS := And.intro k0 (And.intro k1 (And.intro k2 (And.intro k3 (And.intro k4 (And.intro k5 k6)))))
            have CR2 : Hid (CR w w2 _ _) := hcr2
            have RV2 : Hid (w2.heap[gv]? = _) := below_row hb2 (row_lt HVA.out) HVA.out
            obtain ⟨z0, z1, z2, z3, z4, z5⟩ := cells6 (below_row hb2 (k := wr.heap.size) (by simp) (heap_alloc_new wr (Obj.cells #[Value.int .i64 0, Value.int .i64 0, Value.int .i64 0, Value.int .i64 0, Value.int .i64 0, Value.int .i64 0] 103)))
            have zf := fun i => frozen_of_row _ _ i _ _ (below_row hb2 (k := wr.heap.size) (by simp) (heap_alloc_new wr (Obj.cells #[Value.int .i64 0, Value.int .i64 0, Value.int .i64 0, Value.int .i64 0, Value.int .i64 0, Value.int .i64 0] 103)))
            have RO2 : Hid (w2.heap[wr.heap.size]? = _) := below_row hb2 (k := wr.heap.size) (by simp) (heap_alloc_new wr (Obj.cells #[Value.int .i64 0, Value.int .i64 0, Value.int .i64 0, Value.int .i64 0, Value.int .i64 0, Value.int .i64 0] 103))
            have B2 : Hid (Below wr.heap.size wr w2) := ((Below.refl _ wr).alloc (Nat.le_refl _) _).drew.trans (hb2.mono (by simp))
            clear hb2 hcr2 k0 k1 k2 k3 k4 k5 k6)))
       all_goals (first
         | (have CRW : Hid (CR w (World.setCell (World.setCell (World.setCell (World.setCell (World.setCell (World.setCell w2 ⟨wr.heap.size, 0, none⟩ (Value.int .i64 o0)) ⟨wr.heap.size, 1, none⟩ (Value.int .i64 o1)) ⟨wr.heap.size, 2, none⟩ (Value.int .i64 o2)) ⟨wr.heap.size, 3, none⟩ (Value.int .i64 o3)) ⟨wr.heap.size, 4, none⟩ (Value.int .i64 o4)) ⟨wr.heap.size, 5, none⟩ (Value.int .i64 o5)) _ _) := CR.set (CR.set (CR.set (CR.set (CR.set (CR.set CR2.out HB.out.big) HB.out.big) HB.out.big) HB.out.big) HB.out.big) HB.out.big
            have RVW : Hid ((World.setCell (World.setCell (World.setCell (World.setCell (World.setCell (World.setCell w2 ⟨wr.heap.size, 0, none⟩ (Value.int .i64 o0)) ⟨wr.heap.size, 1, none⟩ (Value.int .i64 o1)) ⟨wr.heap.size, 2, none⟩ (Value.int .i64 o2)) ⟨wr.heap.size, 3, none⟩ (Value.int .i64 o3)) ⟨wr.heap.size, 4, none⟩ (Value.int .i64 o4)) ⟨wr.heap.size, 5, none⟩ (Value.int .i64 o5)).heap[gv]? = _) := row_set' (row_set' (row_set' (row_set' (row_set' (row_set' RV2.out (Nat.ne_of_lt (row_lt HRV.out))) (Nat.ne_of_lt (row_lt HRV.out))) (Nat.ne_of_lt (row_lt HRV.out))) (Nat.ne_of_lt (row_lt HRV.out))) (Nat.ne_of_lt (row_lt HRV.out))) (Nat.ne_of_lt (row_lt HRV.out))
            have ROW : Hid ((World.setCell (World.setCell (World.setCell (World.setCell (World.setCell (World.setCell w2 ⟨wr.heap.size, 0, none⟩ (Value.int .i64 o0)) ⟨wr.heap.size, 1, none⟩ (Value.int .i64 o1)) ⟨wr.heap.size, 2, none⟩ (Value.int .i64 o2)) ⟨wr.heap.size, 3, none⟩ (Value.int .i64 o3)) ⟨wr.heap.size, 4, none⟩ (Value.int .i64 o4)) ⟨wr.heap.size, 5, none⟩ (Value.int .i64 o5)).heap[wr.heap.size]? = _) := row_set6 RO2.out
            have BW : Hid (∀ base e size v n xs, wr.ownsRow base e size v n xs -> World.ownsRow (World.setCell (World.setCell (World.setCell (World.setCell (World.setCell (World.setCell w2 ⟨wr.heap.size, 0, none⟩ (Value.int .i64 o0)) ⟨wr.heap.size, 1, none⟩ (Value.int .i64 o1)) ⟨wr.heap.size, 2, none⟩ (Value.int .i64 o2)) ⟨wr.heap.size, 3, none⟩ (Value.int .i64 o3)) ⟨wr.heap.size, 4, none⟩ (Value.int .i64 o4)) ⟨wr.heap.size, 5, none⟩ (Value.int .i64 o5)) base e size v n xs) := fun _ _ _ _ _ _ h => owns_below h ((((((B2.out.setCell (Nat.le_refl _) _).setCell (Nat.le_refl _) _).setCell (Nat.le_refl _) _).setCell (Nat.le_refl _) _).setCell (Nat.le_refl _) _).setCell (Nat.le_refl _) _)
            clear kS CR2 RV2 RO2 HCT HCA HVA ct z0 z1 z2 z3 z4 z5 zf
            generalize (World.setCell (World.setCell (World.setCell (World.setCell (World.setCell (World.setCell w2 ⟨wr.heap.size, 0, none⟩ (Value.int .i64 o0)) ⟨wr.heap.size, 1, none⟩ (Value.int .i64 o1)) ⟨wr.heap.size, 2, none⟩ (Value.int .i64 o2)) ⟨wr.heap.size, 3, none⟩ (Value.int .i64 o3)) ⟨wr.heap.size, 4, none⟩ (Value.int .i64 o4)) ⟨wr.heap.size, 5, none⟩ (Value.int .i64 o5)) = W at *
            generalize wr.heap.size = g at *)
         | (have CRW : Hid (CR w (w2.alloc (Obj.cells #[Value.int .i64 o0, Value.int .i64 o1, Value.int .i64 o2, Value.int .i64 o3, Value.int .i64 o4, Value.int .i64 o5] 103)) _ _) := CR.alloc CR2.out _
            have RVW : Hid ((w2.alloc (Obj.cells #[Value.int .i64 o0, Value.int .i64 o1, Value.int .i64 o2, Value.int .i64 o3, Value.int .i64 o4, Value.int .i64 o5] 103)).heap[gv]? = _) := (heap_alloc_old _ _ (row_lt RV2.out)).trans RV2.out
            have ROW : Hid ((w2.alloc (Obj.cells #[Value.int .i64 o0, Value.int .i64 o1, Value.int .i64 o2, Value.int .i64 o3, Value.int .i64 o4, Value.int .i64 o5] 103)).heap[w2.heap.size]? = _) := heap_alloc_new _ _
            have BW : Hid (∀ base e size v n xs, wr.ownsRow base e size v n xs -> (w2.alloc (Obj.cells #[Value.int .i64 o0, Value.int .i64 o1, Value.int .i64 o2, Value.int .i64 o3, Value.int .i64 o4, Value.int .i64 o5] 103)).ownsRow base e size v n xs) := fun _ _ _ _ _ _ h => owns_below h (B2.out.alloc B2.out.size _)
            clear kS CR2 RV2 HCT HCA HVA ct
            generalize w2.alloc (Obj.cells #[Value.int .i64 o0, Value.int .i64 o1, Value.int .i64 o2, Value.int .i64 o3, Value.int .i64 o4, Value.int .i64 o5] 103) = W at *
            generalize w2.heap.size = g at *))
       all_goals
         clear c0 c1 c2' c3 c4 d0 d1 hlw hlr hlb HTT
         generalize tt = tt'
         have HWW : Hid (W.ownsRow (gv + 1) 159 4 _ k _) := BW.out _ _ _ _ _ _ HW.out
         obtain ⟨c0, c1, c2', c3, c4⟩ := cells5 CRW.out.2.1
         obtain ⟨p0, p1, p2, p3, p4, p5⟩ := cells6 ROW.out
         go_wp2_with fail
         clear c0 c1 c2' c3 c4 p0 p1 p2 p3 p4 p5
         refine (l1Time_is' n p o1 _ _ zs _ d HD.out HMAT.out HPB.out HO1.out (HA.out.below CRW.out.1)).mono ?_
         rintro e W3 ⟨rfl, hb3⟩
         have CR3 : Hid (CR w W3 _ _) := CRW.out.below hb3
         have RV3 : Hid (W3.heap[gv]? = _) := below_row hb3 (row_lt RVW.out) RVW.out
         have RO3 : Hid (W3.heap[g]? = _) := below_row hb3 (row_lt ROW.out) ROW.out
         have HW3 : Hid (W3.ownsRow (gv + 1) 159 4 _ k _) := owns_below HWW.out hb3
         clear hb3 CRW RVW ROW HWW BW
         obtain ⟨p0, p1, p2, p3, p4, p5⟩ := cells6 RO3.out
         by_cases hlate : o4 < mx
         · have HN : Hid (r = 5) := HV1.out.symm.trans (hoursV_late hlt (by rw [K4.out, HSTV.out]; exact hlate))
           have hor : (f + d < o3 /\ mx = o3) ∨ (o3 <= f + d /\ mx = f + d) := by
             have := HMX.out
             omega
           rcases hor with ⟨hmx, rfl⟩ | ⟨hmx, rfl⟩
           all_goals
             clear HMX
             go_wp2
             refine bodyPost_ret (v := .tuple #[.slice none 0 0, .int .i64 0, .int .i64 5]) (by simp [results, Tryz.results91, go_sem]) rfl ⟨CR3.out.1, .inl ⟨by rw [HN.out]; decide, by rw [HN.out]⟩⟩
         · have hle : mx <= o4 := by omega
           have HT1 : Hid (timelyTo n zs (rosOf os ko ids) v1 v3 (k + 1)) := timelyTo_step HTM.out (by rw [K4.out, HSTV.out]; exact hle)
           have hor : (f + d < o3 /\ mx = o3) ∨ (o3 <= f + d /\ mx = f + d) := by
             have := HMX.out
             omega
           have HLG : Hid (gv + 1 <= W3.heap.size) := row_lt RV3.out
           clear hlate
           rcases hor with ⟨hmx, rfl⟩ | ⟨hmx, rfl⟩
           all_goals
             clear HMX
             go_wp2_with (first
               | (at_builtin; refine append_visits _ rfl _ _ rfl (gv + 1) _ k _ rfl (HW3.out.alloc _) _ 1 _ rfl rfl (cells4_new _ _ _ _ _ _ _ (by simp)) (by simp [Value.oneCell']) (by omega) (Nat.le_trans HLG.out (by simp)) ?_; intro v' w4 hown4 hgrow4; obtain ⟨gg', cc', rfl, hgg'⟩ := owned_at hown4))
             replace hgrow4 : World.grownBy _ w4 (some gg) := hgrow4
             rw [visL_step n zs (rosOf os ko ids) v1 v3 hlt K0.out HAR.out HSTV.out HNX.out] at hown4
             go_roundw
             case rel => exact ⟨k + 1, gg', cc', by omega, by go_num, rfl, hgg', hown4, by rw [<- K1.out]; rfl, by rw [HNX.out], HT1.out, (CR3.out.alloc _).grown hgrow4 (by have := HGG.out; have := HGV.out; omega), (hgrow4.block _ (Nat.lt_of_lt_of_le (row_lt RV3.out) (by simp)) (fun e => by have h7 := HGG.out; rw [Option.some.injEq] at e; omega)).trans ((heap_alloc_old _ _ (row_lt RV3.out)).trans RV3.out)⟩
             case measure => simp [intOf]; omega
     · have hkl : k = ids.length := by omega
       obtain ⟨q0, q1, q2, q3, q4⟩ := cells5 HRV.out
       have HHM : Hid (homeV n zs (rosOf os ko ids) ids.length v1 v3 = f + tmI n zs p v1) := by
         show _ = _
         unfold homeV
         rw [<- hkl, HFR.out, HPL.out]
       have HTM' : Hid (timelyTo n zs (rosOf os ko ids) v1 v3 ids.length) := hkl ▸ HTM.out
       have HOI : Hid (IntsAt wr (some ⟨gg, 0, none⟩) (visL n zs (rosOf os ko ids) v1 v3 ids.length)) := by
         have := HW.out
         rw [List.take_of_length_le (by rw [visL_length]; omega)] at this
         exact owns_ints this
       obtain ⟨d, HD⟩ : ∃ t, Hid (tmI n zs p v1 = t) := ⟨_, rfl⟩
       have hdb := tmI_bd HMAT.out p v1
       rw [HD.out] at hdb HHM
       have hkI : (k : Int) = ids.length := by omega
       have HKL : Hid (k = ids.length) := hkl
       clear hkl hkI
       go_wp2_with fail
       refine (l1Time_is' n p v1 _ _ zs _ d HD.out HMAT.out HPB.out HX1.out (HA.out.below HB.out.1)).mono ?_
       rintro e W3 ⟨rfl, hb3⟩
       have CR3 : Hid (CR w W3 _ _) := HB.out.below hb3
       have RV3 : Hid (W3.heap[gv]? = _) := below_row hb3 (row_lt HRV.out) HRV.out
       have HOI3 : Hid (IntsAt W3 (some ⟨gg, 0, none⟩) (visL n zs (rosOf os ko ids) v1 v3 ids.length)) := HOI.out.below hb3
       clear hb3 c0 c1 c2' c3 c4 d0 d1 q0 q1 q2 q3 q4
       obtain ⟨q0, q1, q2, q3, q4⟩ := cells5 RV3.out
       by_cases hto : v4 < f + d
       · have HN : Hid (r = 6) := HV1.out.symm.trans (hoursV_home HTM'.out (by rw [HHM.out]; exact hto))
         go_wp2
         refine bodyPost_ret (v := .tuple #[.slice none 0 0, .int .i64 0, .int .i64 6]) (by simp [results, Tryz.results91, go_sem]) rfl ⟨CR3.out.1, .inl ⟨by rw [HN.out]; decide, by rw [HN.out]⟩⟩
       · have HN : Hid (r = 0) := HV1.out.symm.trans (hoursV_ok HTM'.out (by rw [HHM.out]; exact hto))
         go_wp2
         refine bodyPost_ret (v := .tuple #[.slice (some ⟨gg, 0, none⟩) k cc, .int .i64 (f + d), .int .i64 0]) (by simp [results, Tryz.results91, go_sem]) rfl ⟨CR3.out.1, .inr ⟨HN.out, gg, cc, by have := HGG.out; have := HGV.out; omega, ?_, ?_⟩⟩
         · rw [G1.out, G3.out, HHM.out, HKL.out]
         · rw [G1.out, G3.out]
           exact HOI3.out
 · have HRV : Hid (fv = r) := HFV.out.symm.trans ((codeV_form (by rw [HFV.out]; exact hfv)).symm.trans HR.out)
   have heb : (fv != 0) = true := by simp [hfv]
   have HF : Hid (fv ≠ 0) := hfv
   clear hfv
   go_wp2
   refine bodyPost_ret (v := .tuple #[.slice none 0 0, .int .i64 0, .int .i64 fv]) (by simp [results, Tryz.results91, go_sem]) rfl ⟨C1.out.1, .inl ⟨by rw [<- HRV.out]; exact HF.out, by rw [HRV.out]⟩⟩
set_option maxHeartbeats 1000000 in
theorem l3Ok_any (n fine veh : Int) (a ao av bi : Option Addr) (cap ko co kv cv c2 : Nat) (zs os vs ids : List Int) (w : World) (hA : IntsAt w a zs) (hO : IntsAt w ao os) (hV : IntsAt w av vs) (hI : IntsAt w bi ids) (hlo : os.length = ko * 6) (hlv : vs.length = kv * 5) (hko : ko <= 9223372036854775807) (hkv : kv <= 9223372036854775807) (hli : ids.length <= 9223372036854775807) (hc2 : ids.length <= c2) (v : Bool) (hv : decide (codeV (caseB n zs os vs ko kv fine) n zs os vs ko kv veh ids = 0) = v) :
   Calls Tryz.prog 59 #[.agg #[.int .i64 n, .slice a zs.length cap, .slice ao ko co, .slice av kv cv, .int .i64 fine], .agg #[.int .i64 veh, .slice bi ids.length c2]] w fun e w' => e = .returned (.bool v) /\ Below w.heap.size w w' := by
 have HA : Hid (IntsAt w a zs) := hA
 have HO : Hid (IntsAt w ao os) := hO
 have HV : Hid (IntsAt w av vs) := hV
 have HI : Hid (IntsAt w bi ids) := hI
 have HLO : Hid _ := hlo
 have HLV : Hid _ := hlv
 clear hA hO hV hI hlo hlv
 have HVV : Hid (decide (codeV (caseB n zs os vs ko kv fine) n zs os vs ko kv veh ids = 0) = v) := hv
 clear hv
 have HC0 : Hid (CR w ((w.alloc (.cells #[Value.int .i64 n, Value.slice a zs.length cap, Value.slice ao ko co, Value.slice av kv cv, Value.int .i64 fine] 43)).alloc (.cells #[Value.int .i64 veh, Value.slice bi ids.length c2] 100)) _ _) := CR.new w _ _
 go_enter Tryz.func59, Tryz.ntmps59
 obtain ⟨c0, c1, c2', c3, c4⟩ := cells5 HC0.out.2.1
 obtain ⟨d0, d1⟩ := cells2 HC0.out.2.2
 go_wp2_with fail
 clear c0 c1 c2' c3 c4 d0 d1
 refine (specSchedule_any n fine veh a ao av bi cap ko co kv cv c2 zs os vs ids _ (HA.out.below HC0.out.1) (HO.out.below HC0.out.1) (HV.out.below HC0.out.1) (HI.out.below HC0.out.1) HLO.out HLV.out hko hkv hli hc2).mono ?_
 rintro e w2 ⟨hb, ⟨hf, rfl⟩ | ⟨hf, g, c, _, rfl, _⟩⟩
 · have HB2 : Hid (Below w.heap.size w w2) := HC0.out.1.trans (hb.mono HC0.out.1.size)
   have HVF : Hid (v = false) := HVV.out.symm.trans (decide_eq_false hf)
   generalize codeV (caseB n zs os vs ko kv fine) n zs os vs ko kv veh ids = r at *
   have hfb : (r == 0) = false := by simp [hf]
   clear hb hf HC0 HVV
   go_wp2
   go_ret
   exact ⟨ret_bool HVF.out.symm, HB2.out⟩
 · have HB2 : Hid (Below w.heap.size w w2) := HC0.out.1.trans (hb.mono HC0.out.1.size)
   have HVF : Hid (v = true) := HVV.out.symm.trans (decide_eq_true hf)
   clear hb hf HC0 HVV
   generalize homeV n zs (rosOf os ko ids) ids.length (fnd5F vs kv veh 1) (fnd5F vs kv veh 3) = hm
   go_wp2
   go_ret
   exact ⟨ret_bool HVF.out.symm, HB2.out⟩
theorem inf_parts {E : TypeId} {z : Value} {size bytes : Nat} (h : (Tryz.prog.info? E).map (fun i => (i.zero, i.size, i.bytes)) = some (some z, size, bytes)) : ∃ i0, Tryz.prog.info? E = some i0 /\ i0.zero = some z /\ i0.size = size /\ i0.bytes = bytes := by
 cases hq : Tryz.prog.info? E with
 | none => rw [hq] at h; simp at h
 | some i0 =>
   rw [hq] at h
   simp only [Option.map_some, Option.some.injEq, Prod.mk.injEq] at h
   exact ⟨i0, rfl, h.1, h.2.1, h.2.2⟩
theorem add_plain (b off j : Nat) : (⟨b, off, none⟩ : Addr).add j = ⟨b, off + j, none⟩ := by unfold Addr.add; split <;> simp_all
theorem append_vals {T E : TypeId} {z : Value} {size bytes : Nat} (ht : Tryz.prog.underlying T = some (.slice E)) (hinf : (Tryz.prog.info? E).map (fun i => (i.zero, i.size, i.bytes)) = some (some z, size, bytes)) (hzs : z.cells.size = size) (hsz : 0 < size)
   (w : World) {ops : Array Oper} {rest : List Oper} {o : Oper} {a : Act} {Q : Exit -> Act -> World -> Prop}
   (hg : o.guard = none) (s x : Operand) (hop : o.op = Op.call { callee := Callee.builtin Builtin.append, args := #[s, x], argTypes := #[T, T] })
   (base : Nat) (v : Value) (k : Nat) (xs : List Value) (hs : a.eval s = v) (hown : w.ownsRow base E size v k xs) (b off m c : Nat) (ys : List Value) (hx : a.eval x = .slice (some ⟨b, off, none⟩) m c)
   (hy : ys.length = m * size) (hc : ∀ j u, ys[j]? = some u -> w.cell? ⟨b, off + j, none⟩ = some u) (h1 : ∀ u ∈ ys, u.oneCell' = true) (h63 : k + m <= 70368744177663) (hbytes : (k + m) * bytes <= 140737488355328) (hb : base <= w.heap.size)
   (hK : ∀ v' w', w'.ownsRow base E size v' (k + m) (xs ++ ys) -> w.grownBy w' v.ownBlock -> (v'.ownBlock = v.ownBlock ∨ v'.ownBlock = some w.heap.size) -> (v' = .slice none 0 0 ↔ v = .slice none 0 0 /\ m = 0) -> wpList Tryz.prog ops Q rest (a.put o.dst v') w') :
   wpList Tryz.prog ops Q (o :: rest) a w := by
 obtain ⟨i0, hi, hz0, hz1, hz2⟩ := inf_parts hinf
 have hnews : ∀ j u, ys[j]? = some u -> w.cell? ((⟨b, off, none⟩ : Addr).add j) = some u := fun j u hu => by rw [add_plain]; exact hc j u hu
 obtain ⟨v', w', hrun, r1, r2, r3⟩ := run_append_own (P := Tryz.prog) w base T o.type _ i0 _ size bytes ht hi hz0 hz1 hz2 hzs hsz v k xs hown ⟨b, off, none⟩ m c ys hy hnews h1 (by unfold maxLen; omega) hbytes hb
 have r4 := append_blk (P := Tryz.prog) w base T o.type _ i0 _ size bytes ht hi hz0 hz1 hz2 v k xs hown ⟨b, off, none⟩ m c ys hy hnews h1 (by unfold maxLen; omega) hbytes hrun
 exact wpList_run v' hg (exec_app s x _ v _ hop hs hx hrun) (hK v' w' r1 r2 r4 r3)
theorem step_append_vals {T E : TypeId} {z : Value} {size bytes : Nat} (ht : Tryz.prog.underlying T = some (.slice E)) (hinf : (Tryz.prog.info? E).map (fun i => (i.zero, i.size, i.bytes)) = some (some z, size, bytes)) (hzs : z.cells.size = size) (hsz : 0 < size)
   {ops : Array Oper} {o : Oper} {a : Act} {w : World} {K : Act -> World -> Prop} {Q : Exit -> Act -> World -> Prop} {Els : Prop}
   (hg : o.guard = none) (s x : Operand) (hop : o.op = Op.call { callee := Callee.builtin Builtin.append, args := #[s, x], argTypes := #[T, T] })
   (base : Nat) (v : Value) (k : Nat) (xs : List Value) (hs : a.eval s = v) (hown : w.ownsRow base E size v k xs) (b off m c : Nat) (ys : List Value) (hx : a.eval x = .slice (some ⟨b, off, none⟩) m c)
   (hy : ys.length = m * size) (hc : ∀ j u, ys[j]? = some u -> w.cell? ⟨b, off + j, none⟩ = some u) (h1 : ∀ u ∈ ys, u.oneCell' = true) (h63 : k + m <= 70368744177663) (hbytes : (k + m) * bytes <= 140737488355328) (hb : base <= w.heap.size)
   (hK : ∀ v' w', w'.ownsRow base E size v' (k + m) (xs ++ ys) -> w.grownBy w' v.ownBlock -> (v'.ownBlock = v.ownBlock ∨ v'.ownBlock = some w.heap.size) -> (v' = .slice none 0 0 ↔ v = .slice none 0 0 /\ m = 0) -> K (a.put o.dst v') w') :
   if Region.wanted o (yielded ops a.tmps) = true then Oper.wp Tryz.prog o a w K Q else Els := by
 have hw : Region.wanted o (yielded ops a.tmps) = true := by simp [Region.wanted, hg]
 rw [if_pos hw]
 obtain ⟨i0, hi, hz0, hz1, hz2⟩ := inf_parts hinf
 have hnews : ∀ j u, ys[j]? = some u -> w.cell? ((⟨b, off, none⟩ : Addr).add j) = some u := fun j u hu => by rw [add_plain]; exact hc j u hu
 obtain ⟨v', w', hrun, r1, r2, r3⟩ := run_append_own (P := Tryz.prog) w base T o.type _ i0 _ size bytes ht hi hz0 hz1 hz2 hzs hsz v k xs hown ⟨b, off, none⟩ m c ys hy hnews h1 (by unfold maxLen; omega) hbytes hb
 have r4 := append_blk (P := Tryz.prog) w base T o.type _ i0 _ size bytes ht hi hz0 hz1 hz2 v k xs hown ⟨b, off, none⟩ m c ys hy hnews h1 (by unfold maxLen; omega) hbytes hrun
 unfold Oper.wp
 simp [execOp, hop, resolve, invoke, builtin, hs, hx, hrun, Result.andThen]
 exact hK _ _ r1 r2 r4 r3
theorem own_len2 {w : World} {base n m : Nat} {v : Value} {e : TypeId} {xs ys : List Int} (h : w.ownsRow base e 1 v (n + m) ((xs ++ ys).map (Value.int .i64))) (hx : xs.length = n) (hy : ys.length = m) : w.ownsRow base e 1 v (xs ++ ys).length ((xs ++ ys).map (Value.int .i64)) := by
 rw [List.length_append, hx, hy]
 exact h
theorem own_k {w : World} {base n : Nat} {v : Value} {e : TypeId} {xs : List Int} (h : w.ownsRow base e 1 v xs.length (xs.map (Value.int .i64))) (hl : xs.length = n) : w.ownsRow base e 1 v n (xs.map (Value.int .i64)) := by
 rw [<- hl]
 exact h
theorem ints_take {W : World} {a : Option Addr} {ids : List Int} (h : IntsAt W a ids) (i : Nat) : IntsAt W a (ids.take i) := by
 intro j hj
 simp at hj
 obtain ⟨b, off, e, hc⟩ := h j (by omega)
 refine ⟨b, off, e, hc.trans ?_⟩
 simp only [List.getD, List.getElem?_take]
 rw [if_pos (by omega)]
theorem ints_drop {W : World} {b off : Nat} {ids : List Int} (h : IntsAt W (some ⟨b, off, none⟩) ids) (i : Nat) : IntsAt W (some ⟨b, off + i, none⟩) (ids.drop i) := by
 intro j hj
 simp at hj
 obtain ⟨b', off', e, hc⟩ := h (i + j) (by omega)
 simp at e
 obtain ⟨rfl, rfl⟩ := e
 refine ⟨b, off + i, rfl, ?_⟩
 rw [Nat.add_assoc, hc]
 simp [List.getD, List.getElem?_drop]
theorem ints_cut {W : World} {b off : Nat} {ids : List Int} (h : IntsAt W (some ⟨b, off, none⟩) ids) (i c2 : Nat) (hc : ids.length <= c2) : IntsAt W (if c2 = i then some ⟨b, off, none⟩ else some ⟨b, off + i, none⟩) (ids.drop i) := by
 by_cases e : c2 = i
 · rw [if_pos e, List.drop_eq_nil_of_le (by omega)]
   intro j hj
   simp at hj
 · rw [if_neg e]
   exact ints_drop h i
theorem cut_some (b off i c2 : Nat) : ∃ b' off', (if c2 = i then some (⟨b, off, none⟩ : Addr) else some ⟨b, off + i, none⟩) = some ⟨b', off', none⟩ := by
 split
 · exact ⟨_, _, rfl⟩
 · exact ⟨_, _, rfl⟩
theorem own_sh {w : World} {base k n : Nat} {v : Value} {e : TypeId} {size : Nat} {xs : List Value} (h : w.ownsRow base e size v k xs) (hne : v ≠ .slice none 0 0) (hk : k = n) : ∃ g c, v = .slice (some ⟨g, 0, none⟩) n c := by
 subst hk
 rcases own_shape h with h1 | h1
 · exact absurd h1 hne
 · exact h1
theorem append_id (w : World) {ops : Array Oper} {rest : List Oper} {o : Oper} {a : Act} {Q : Exit -> Act -> World -> Prop}
   (hg : o.guard = none) (s x : Operand) (hop : o.op = Op.call { callee := Callee.builtin Builtin.append, args := #[s, x], argTypes := #[22, 22] })
   (base : Nat) (v : Value) (k : Nat) (xs : List Int) (hs : a.eval s = v) (hown : w.ownsRow base 2 1 v k (xs.map (Value.int .i64))) (b c : Nat) (id : Int) (hx : a.eval x = .slice (some ⟨b, 0, none⟩) 1 c)
   (hc : w.cell? ⟨b, 0, none⟩ = some (.int .i64 id)) (b1 : k <= 1000) (hb : base <= w.heap.size)
   (hK : ∀ v' w', w'.ownsRow base 2 1 v' (k + 1) ((xs ++ [id]).map (Value.int .i64)) -> w.grownBy w' v.ownBlock -> (v' = .slice none 0 0 ↔ v = .slice none 0 0 /\ 1 = 0) -> wpList Tryz.prog ops Q rest (a.put o.dst v') w') :
   wpList Tryz.prog ops Q (o :: rest) a w := by
 obtain ⟨i0, hi, hz0, hz1, hz2⟩ := infoI8_parts
 refine wpList_append_own w hg s x _ hop base _ i0 _ 1 8 Tryz.underlying22 hi hz0 hz1 hz2 rfl (by decide) v k _ hs hown ⟨b, 0, none⟩ 1 c [.int .i64 id] hx rfl ?_ (by simp [Value.oneCell']) (by unfold maxLen; omega) (by omega) hb (fun v' w' h1 h2 h3 => hK v' w' (by rw [List.map_append]; exact h1) h2 h3)
 intro j u hu
 have hj : j = 0 := by
   rcases j with _ | j
   · rfl
   · simp at hu
 subst hj
 have hadd : (⟨b, 0, none⟩ : Addr).add 0 = ⟨b, 0, none⟩ := by unfold Addr.add; split <;> simp_all
 rw [hadd, hc]
 simpa using hu
set_option maxHeartbeats 1000000 in
theorem l3Cost_any (n fine veh : Int) (a ao av bi : Option Addr) (cap ko co kv cv c2 : Nat) (zs os vs ids : List Int) (w : World) (hA : IntsAt w a zs) (hO : IntsAt w ao os) (hV : IntsAt w av vs) (hI : IntsAt w bi ids) (hlo : os.length = ko * 6) (hlv : vs.length = kv * 5) (hko : ko <= 9223372036854775807) (hkv : kv <= 9223372036854775807) (hli : ids.length <= 9223372036854775807) (hcode : codeV (caseB n zs os vs ko kv fine) n zs os vs ko kv veh ids = 0) :
   Calls Tryz.prog 65 #[.agg #[.int .i64 n, .slice a zs.length cap, .slice ao ko co, .slice av kv cv, .int .i64 fine], .agg #[.int .i64 veh, .slice bi ids.length c2]] w fun e w' => e = .returned (.int .i64 (rideV n zs (rosOf os ko ids) ids.length (fnd5F vs kv veh 1))) /\ Below w.heap.size w w' := by
 have HA : Hid (IntsAt w a zs) := hA
 have HO : Hid (IntsAt w ao os) := hO
 have HV : Hid (IntsAt w av vs) := hV
 have HI : Hid (IntsAt w bi ids) := hI
 have HLO : Hid _ := hlo
 have HLV : Hid _ := hlv
 clear hA hO hV hI hlo hlv
 have HC0 : Hid (CR w ((w.alloc (.cells #[Value.int .i64 n, Value.slice a zs.length cap, Value.slice ao ko co, Value.slice av kv cv, Value.int .i64 fine] 43)).alloc (.cells #[Value.int .i64 veh, Value.slice bi ids.length c2] 100)) _ _) := CR.new w _ _
 obtain ⟨hcb, _, hstB⟩ := formV_zero (codeV_zero hcode).1
 obtain ⟨hmat, hords, hvehs, hn1, _⟩ := caseB_parts hcb
 have hvb := fnd5F_bd hvehs hn1 veh
 have HMAT : Hid (matB n zs = true) := hmat
 have HOB : Hid (ordsB n os ko = true) := hords
 have HN1 : Hid (1 <= n) := hn1
 have h12 := (stopsB_true hstB).1
 clear hmat hords hvehs hn1 hcb hstB hcode
 obtain ⟨r, HV1⟩ : ∃ r, Hid (rideV n zs (rosOf os ko ids) ids.length (fnd5F vs kv veh 1) = r) := ⟨_, rfl⟩
 rw [HV1.out]
 go_enter Tryz.func65, Tryz.ntmps65
 obtain ⟨c0, c1, c2', c3, c4⟩ := cells5 HC0.out.2.1
 obtain ⟨d0, d1⟩ := cells2 HC0.out.2.2
 go_wp2_with fail
 clear c0 c1 c2' c3 c4 d0 d1
 refine (l2Car_any n fine veh a ao av _ cap ko co kv cv vs _ (HV.out.below HC0.out.1) HLV.out hkv).mono ?_
 rintro e w2 ⟨rfl, hb⟩
 obtain ⟨v0, G0⟩ : ∃ t, Hid (fnd5F vs kv veh 0 = t) := ⟨_, rfl⟩
 obtain ⟨v1, G1⟩ : ∃ t, Hid (fnd5F vs kv veh 1 = t) := ⟨_, rfl⟩
 obtain ⟨v2, G2⟩ : ∃ t, Hid (fnd5F vs kv veh 2 = t) := ⟨_, rfl⟩
 obtain ⟨v3, G3⟩ : ∃ t, Hid (fnd5F vs kv veh 3 = t) := ⟨_, rfl⟩
 obtain ⟨v4, G4⟩ : ∃ t, Hid (fnd5F vs kv veh 4 = t) := ⟨_, rfl⟩
 rw [G1.out, G2.out, G3.out, G4.out] at hvb
 rw [G1.out] at HV1
 rw [G0.out, G1.out, G2.out, G3.out, G4.out]
 generalize fnd5T vs kv veh = tv
 have HX1 : Hid (0 <= v1 /\ v1 < n) := hvb.1
 clear hvb
 have C3 : Hid (CR w (w2.alloc (Obj.cells #[Value.int .i64 v0, Value.int .i64 v1, Value.int .i64 v2, Value.int .i64 v3, Value.int .i64 v4] 86)) _ _) := CR.alloc (HC0.out.below hb) _
 have RV3 : Hid ((w2.alloc (Obj.cells #[Value.int .i64 v0, Value.int .i64 v1, Value.int .i64 v2, Value.int .i64 v3, Value.int .i64 v4] 86)).heap[w2.heap.size]? = _) := heap_alloc_new _ _
 clear hb HC0
 obtain ⟨q0, q1, q2, q3, q4⟩ := cells5 RV3.out
 go_wp2_with fail
 clear q0 q1 q2 q3 q4
 generalize w2.alloc (Obj.cells #[Value.int .i64 v0, Value.int .i64 v1, Value.int .i64 v2, Value.int .i64 v3, Value.int .i64 v4] 86) = W2 at *
 generalize w2.heap.size = gv at *
 have HBD : Hid (RosBd n (rosOf os ko ids) ids.length) := rosBd_of HOB.out HN1.out ids
 go_loopw [7, 8, 9] (fun pl sm t wr => ∃ k : Nat, k <= ids.length /\ t = .int .i64 k /\ pl = .int .i64 (plc (rosOf os ko ids) v1 k) /\ sm = .int .i64 (costTo n zs (rosOf os ko ids) v1 k) /\ CR w wr #[Value.int .i64 n, Value.slice a zs.length cap, Value.slice ao ko co, Value.slice av kv cv, Value.int .i64 fine] #[Value.int .i64 veh, Value.slice bi ids.length c2] /\ wr.heap[gv]? = some (.cells #[Value.int .i64 v0, Value.int .i64 v1, Value.int .i64 v2, Value.int .i64 v3, Value.int .i64 v4] 86 (0, 0))) (fun _ _ t _ => ids.length - (intOf t).toNat)
 case atStart => exact ⟨0, Nat.zero_le _, rfl, rfl, rfl, C3.out, RV3.out⟩
 case round =>
   clear C3 RV3
   obtain ⟨k, hk, rfl, rfl, rfl, hb, hrv⟩ := hrel
   have hpl := plc_bd HBD.out HX1.out.1 HX1.out.2 k hk
   have hcb := costTo_bd (ros := (rosOf os ko ids)) (home := v1) HMAT.out k
   have HB : Hid (CR w wr _ _) := hb
   have HRV : Hid (wr.heap[gv]? = _) := hrv
   obtain ⟨c0, c1, c2', c3, c4⟩ := cells5 hb.2.1
   obtain ⟨d0, d1⟩ := cells2 hb.2.2
   obtain ⟨p, HPL⟩ : ∃ t, Hid (plc (rosOf os ko ids) v1 k = t) := ⟨_, rfl⟩
   obtain ⟨f, HFR⟩ : ∃ t, Hid (costTo n zs (rosOf os ko ids) v1 k = t) := ⟨_, rfl⟩
   rw [HPL.out] at hpl
   rw [HFR.out] at hcb
   rw [HPL.out, HFR.out]
   have HPB : Hid (0 <= p /\ p < n) := hpl
   clear hb hrv hpl
   by_cases hlt : k < ids.length
   · obtain ⟨b, off, rfl, hcs⟩ := IntsAt.some (IntsAt.below HI.out HB.out.1) hlt
     have ct := hcs k hlt
     clear hcs
     obtain ⟨id, HID⟩ : ∃ i, Hid (ids.getD k 0 = i) := ⟨_, rfl⟩
     rw [HID.out] at ct
     have HO1 := (fnd6F_bd HOB.out HN1.out id).1
     obtain ⟨o0, H0⟩ : ∃ t, Hid (fnd6F os ko id 0 = t) := ⟨_, rfl⟩
     obtain ⟨o1, H1⟩ : ∃ t, Hid (fnd6F os ko id 1 = t) := ⟨_, rfl⟩
     obtain ⟨o2, H2⟩ : ∃ t, Hid (fnd6F os ko id 2 = t) := ⟨_, rfl⟩
     obtain ⟨o3, H3⟩ : ∃ t, Hid (fnd6F os ko id 3 = t) := ⟨_, rfl⟩
     obtain ⟨o4, H4⟩ : ∃ t, Hid (fnd6F os ko id 4 = t) := ⟨_, rfl⟩
     obtain ⟨o5, H5⟩ : ∃ t, Hid (fnd6F os ko id 5 = t) := ⟨_, rfl⟩
     rw [H1.out] at HO1
     have HO1 : Hid (0 <= o1 /\ o1 < n) := HO1
     obtain ⟨d, HD⟩ : ∃ t, Hid (tmI n zs p o1 = t) := ⟨_, rfl⟩
     have hdb := tmI_bd HMAT.out p o1
     rw [HD.out] at hdb
     have K1 : Hid (og6 (rosOf os ko ids) k 1 = o1) := (rosOf_at os ko ids hlt (by omega)).trans (by rw [HID.out]; exact H1.out)
     have HNX : Hid (costTo n zs (rosOf os ko ids) v1 (k + 1) = f + d) := by
       show _ = _
       simp only [costTo]
       rw [HFR.out, HPL.out, K1.out, HD.out]
     obtain ⟨tt, HTT⟩ : ∃ t, Hid (fnd6T os ko id = t) := ⟨_, rfl⟩
     go_wp2_with fail
     have HCT : Hid (wr.cell? ⟨b, off + k, none⟩ = _) := ct
     have HCA : Hid ((wr.alloc (Obj.cells #[Value.int .i64 0, Value.int .i64 0, Value.int .i64 0, Value.int .i64 0, Value.int .i64 0, Value.int .i64 0] 103)).cell? ⟨b, off + k, none⟩ = _) := (((Below.refl wr.heap.size wr).alloc (Nat.le_refl _) _).cell (p := ⟨b, off + k, none⟩) (block_lt_of_cell ct)).trans ct
     have HVA : Hid ((wr.alloc (Obj.cells #[Value.int .i64 0, Value.int .i64 0, Value.int .i64 0, Value.int .i64 0, Value.int .i64 0, Value.int .i64 0] 103)).heap[gv]? = _) := (heap_alloc_old _ _ (row_lt HRV.out)).trans HRV.out
     have hlb := block_lt_of_cell ct
     simp at hlb
     have hlw := row_lt HB.out.2.1
     have hlr := row_lt HB.out.2.2
     go_region_held3 (fun W => W.cell? ⟨w.heap.size, 0, none⟩ = some (.int .i64 n) /\ W.cell? ⟨w.heap.size, 1, none⟩ = some (.slice a zs.length cap) /\ W.cell? ⟨w.heap.size, 2, none⟩ = some (.slice ao ko co) /\ W.cell? ⟨w.heap.size, 3, none⟩ = some (.slice av kv cv) /\ W.cell? ⟨w.heap.size, 4, none⟩ = some (.int .i64 fine) /\ W.cell? ⟨w.heap.size + 1, 1, none⟩ = some (.slice (some ⟨b, off, none⟩) ids.length c2) /\ W.cell? ⟨b, off + k, none⟩ = some (.int .i64 id)) (first | with_reducible exact kS | with_reducible exact ⟨(keep_set (keep_set (keep_set (keep_set (keep_set (keep_set kS.1 (Nat.ne_of_lt hlw)) (Nat.ne_of_lt hlw)) (Nat.ne_of_lt hlw)) (Nat.ne_of_lt hlw)) (Nat.ne_of_lt hlw)) (Nat.ne_of_lt hlw)), (keep_set (keep_set (keep_set (keep_set (keep_set (keep_set kS.2.1 (Nat.ne_of_lt hlw)) (Nat.ne_of_lt hlw)) (Nat.ne_of_lt hlw)) (Nat.ne_of_lt hlw)) (Nat.ne_of_lt hlw)) (Nat.ne_of_lt hlw)), (keep_set (keep_set (keep_set (keep_set (keep_set (keep_set kS.2.2.1 (Nat.ne_of_lt hlw)) (Nat.ne_of_lt hlw)) (Nat.ne_of_lt hlw)) (Nat.ne_of_lt hlw)) (Nat.ne_of_lt hlw)) (Nat.ne_of_lt hlw)), (keep_set (keep_set (keep_set (keep_set (keep_set (keep_set kS.2.2.2.1 (Nat.ne_of_lt hlw)) (Nat.ne_of_lt hlw)) (Nat.ne_of_lt hlw)) (Nat.ne_of_lt hlw)) (Nat.ne_of_lt hlw)) (Nat.ne_of_lt hlw)), (keep_set (keep_set (keep_set (keep_set (keep_set (keep_set kS.2.2.2.2.1 (Nat.ne_of_lt hlw)) (Nat.ne_of_lt hlw)) (Nat.ne_of_lt hlw)) (Nat.ne_of_lt hlw)) (Nat.ne_of_lt hlw)) (Nat.ne_of_lt hlw)), (keep_set (keep_set (keep_set (keep_set (keep_set (keep_set kS.2.2.2.2.2.1 (Nat.ne_of_lt hlr)) (Nat.ne_of_lt hlr)) (Nat.ne_of_lt hlr)) (Nat.ne_of_lt hlr)) (Nat.ne_of_lt hlr)) (Nat.ne_of_lt hlr)), (keep_set (keep_set (keep_set (keep_set (keep_set (keep_set kS.2.2.2.2.2.2 (Nat.ne_of_lt hlb)) (Nat.ne_of_lt hlb)) (Nat.ne_of_lt hlb)) (Nat.ne_of_lt hlb)) (Nat.ne_of_lt hlb)) (Nat.ne_of_lt hlb))⟩ | go_keep) ((first
       | (go_at_call 60
          with_reducible refine (l2At_any n fine id a ao av _ cap ko co kv cv os wr.drew ?_ HLO.out hko).mono ?_
          · exact HO.out.below HB.out.1.drew
          rintro e w2 ⟨rfl, hb2⟩
          rw [H0.out, H1.out, H2.out, H3.out, H4.out, H5.out, HTT.out]
          have hcr2 := CR.below (CR.drew HB.out) hb2
          obtain ⟨k0, k1, k2, k3, k4⟩ := cells5 hcr2.2.1
          have k5 := (cells2 hcr2.2.2).2
          have k6 := (hb2.cell (p := ⟨b, off + k, none⟩) (block_lt_of_cell HCT.out)).trans HCT.out
          have kS := And.intro k0 (And.intro k1 (And.intro k2 (And.intro k3 (And.intro k4 (And.intro k5 k6)))))
          have CR2 : Hid (CR w w2 _ _) := hcr2
          have RV2 : Hid (w2.heap[gv]? = _) := below_row hb2 (row_lt HRV.out) HRV.out
          clear hb2 hcr2 k0 k1 k2 k3 k4 k5 k6)
       | (go_at_call 60
          with_reducible refine (l2At_any n fine id a ao av _ cap ko co kv cv os (wr.alloc (Obj.cells #[Value.int .i64 0, Value.int .i64 0, Value.int .i64 0, Value.int .i64 0, Value.int .i64 0, Value.int .i64 0] 103)).drew ?_ HLO.out hko).mono ?_
          · exact HO.out.below (CR.alloc HB.out (Obj.cells #[Value.int .i64 0, Value.int .i64 0, Value.int .i64 0, Value.int .i64 0, Value.int .i64 0, Value.int .i64 0] 103)).1.drew
          rintro e w2 ⟨rfl, hb2⟩
          rw [H0.out, H1.out, H2.out, H3.out, H4.out, H5.out, HTT.out]
          have hcr2 := CR.below (CR.drew (CR.alloc HB.out (Obj.cells #[Value.int .i64 0, Value.int .i64 0, Value.int .i64 0, Value.int .i64 0, Value.int .i64 0, Value.int .i64 0] 103))) hb2
          obtain ⟨k0, k1, k2, k3, k4⟩ := cells5 hcr2.2.1
          have k5 := (cells2 hcr2.2.2).2
          have k6 := (hb2.cell (p := ⟨b, off + k, none⟩) (block_lt_of_cell HCA.out)).trans HCA.out
          have kS := And.intro k0 (And.intro k1 (And.intro k2 (And.intro k3 (And.intro k4 (And.intro k5 k6)))))
          have CR2 : Hid (CR w w2 _ _) := hcr2
          have RV2 : Hid (w2.heap[gv]? = _) := below_row hb2 (row_lt HVA.out) HVA.out
          obtain ⟨z0, z1, z2, z3, z4, z5⟩ := cells6 (below_row hb2 (k := wr.heap.size) (by simp) (heap_alloc_new wr (Obj.cells #[Value.int .i64 0, Value.int .i64 0, Value.int .i64 0, Value.int .i64 0, Value.int .i64 0, Value.int .i64 0] 103)))
          have zf := fun i => frozen_of_row _ _ i _ _ (below_row hb2 (k := wr.heap.size) (by simp) (heap_alloc_new wr (Obj.cells #[Value.int .i64 0, Value.int .i64 0, Value.int .i64 0, Value.int .i64 0, Value.int .i64 0, Value.int .i64 0] 103)))
          have RO2 : Hid (w2.heap[wr.heap.size]? = _) := below_row hb2 (k := wr.heap.size) (by simp) (heap_alloc_new wr (Obj.cells #[Value.int .i64 0, Value.int .i64 0, Value.int .i64 0, Value.int .i64 0, Value.int .i64 0, Value.int .i64 0] 103))
          clear hb2 hcr2 k0 k1 k2 k3 k4 k5 k6)))
     all_goals (first
       | (have CRW : Hid (CR w (World.setCell (World.setCell (World.setCell (World.setCell (World.setCell (World.setCell w2 ⟨wr.heap.size, 0, none⟩ (Value.int .i64 o0)) ⟨wr.heap.size, 1, none⟩ (Value.int .i64 o1)) ⟨wr.heap.size, 2, none⟩ (Value.int .i64 o2)) ⟨wr.heap.size, 3, none⟩ (Value.int .i64 o3)) ⟨wr.heap.size, 4, none⟩ (Value.int .i64 o4)) ⟨wr.heap.size, 5, none⟩ (Value.int .i64 o5)) _ _) := CR.set (CR.set (CR.set (CR.set (CR.set (CR.set CR2.out HB.out.big) HB.out.big) HB.out.big) HB.out.big) HB.out.big) HB.out.big
          have RVW : Hid ((World.setCell (World.setCell (World.setCell (World.setCell (World.setCell (World.setCell w2 ⟨wr.heap.size, 0, none⟩ (Value.int .i64 o0)) ⟨wr.heap.size, 1, none⟩ (Value.int .i64 o1)) ⟨wr.heap.size, 2, none⟩ (Value.int .i64 o2)) ⟨wr.heap.size, 3, none⟩ (Value.int .i64 o3)) ⟨wr.heap.size, 4, none⟩ (Value.int .i64 o4)) ⟨wr.heap.size, 5, none⟩ (Value.int .i64 o5)).heap[gv]? = _) := row_set' (row_set' (row_set' (row_set' (row_set' (row_set' RV2.out (Nat.ne_of_lt (row_lt HRV.out))) (Nat.ne_of_lt (row_lt HRV.out))) (Nat.ne_of_lt (row_lt HRV.out))) (Nat.ne_of_lt (row_lt HRV.out))) (Nat.ne_of_lt (row_lt HRV.out))) (Nat.ne_of_lt (row_lt HRV.out))
          have ROW : Hid ((World.setCell (World.setCell (World.setCell (World.setCell (World.setCell (World.setCell w2 ⟨wr.heap.size, 0, none⟩ (Value.int .i64 o0)) ⟨wr.heap.size, 1, none⟩ (Value.int .i64 o1)) ⟨wr.heap.size, 2, none⟩ (Value.int .i64 o2)) ⟨wr.heap.size, 3, none⟩ (Value.int .i64 o3)) ⟨wr.heap.size, 4, none⟩ (Value.int .i64 o4)) ⟨wr.heap.size, 5, none⟩ (Value.int .i64 o5)).heap[wr.heap.size]? = _) := row_set6 RO2.out
          clear kS CR2 RV2 RO2 HCT HCA HVA ct z0 z1 z2 z3 z4 z5 zf
          generalize (World.setCell (World.setCell (World.setCell (World.setCell (World.setCell (World.setCell w2 ⟨wr.heap.size, 0, none⟩ (Value.int .i64 o0)) ⟨wr.heap.size, 1, none⟩ (Value.int .i64 o1)) ⟨wr.heap.size, 2, none⟩ (Value.int .i64 o2)) ⟨wr.heap.size, 3, none⟩ (Value.int .i64 o3)) ⟨wr.heap.size, 4, none⟩ (Value.int .i64 o4)) ⟨wr.heap.size, 5, none⟩ (Value.int .i64 o5)) = W at *
          generalize wr.heap.size = g at *)
       | (have CRW : Hid (CR w (w2.alloc (Obj.cells #[Value.int .i64 o0, Value.int .i64 o1, Value.int .i64 o2, Value.int .i64 o3, Value.int .i64 o4, Value.int .i64 o5] 103)) _ _) := CR.alloc CR2.out _
          have RVW : Hid ((w2.alloc (Obj.cells #[Value.int .i64 o0, Value.int .i64 o1, Value.int .i64 o2, Value.int .i64 o3, Value.int .i64 o4, Value.int .i64 o5] 103)).heap[gv]? = _) := (heap_alloc_old _ _ (row_lt RV2.out)).trans RV2.out
          have ROW : Hid ((w2.alloc (Obj.cells #[Value.int .i64 o0, Value.int .i64 o1, Value.int .i64 o2, Value.int .i64 o3, Value.int .i64 o4, Value.int .i64 o5] 103)).heap[w2.heap.size]? = _) := heap_alloc_new _ _
          clear kS CR2 RV2 HCT HCA HVA ct
          generalize w2.alloc (Obj.cells #[Value.int .i64 o0, Value.int .i64 o1, Value.int .i64 o2, Value.int .i64 o3, Value.int .i64 o4, Value.int .i64 o5] 103) = W at *
          generalize w2.heap.size = g at *))
     all_goals
       clear c0 c1 c2' c3 c4 d0 d1 hlw hlr hlb HTT
       generalize tt = tt'
       obtain ⟨c0, c1, c2', c3, c4⟩ := cells5 CRW.out.2.1
       obtain ⟨p0, p1, p2, p3, p4, p5⟩ := cells6 ROW.out
       go_wp2_with fail
       clear c0 c1 c2' c3 c4 p0 p1 p2 p3 p4 p5
       refine (l1Time_is' n p o1 _ _ zs _ d HD.out HMAT.out HPB.out HO1.out (HA.out.below CRW.out.1)).mono ?_
       rintro e W3 ⟨rfl, hb3⟩
       have CR3 : Hid (CR w W3 _ _) := CRW.out.below hb3
       have RV3 : Hid (W3.heap[gv]? = _) := below_row hb3 (row_lt RVW.out) RVW.out
       have RO3 : Hid (W3.heap[g]? = _) := below_row hb3 (row_lt ROW.out) ROW.out
       clear hb3 CRW RVW ROW
       obtain ⟨p0, p1, p2, p3, p4, p5⟩ := cells6 RO3.out
       go_wp2
       go_roundw
       case rel => exact ⟨k + 1, by omega, by go_num, by rw [<- K1.out]; rfl, by rw [HNX.out], CR3.out, RV3.out⟩
       case measure => simp [intOf]; omega
   · have hkl : k = ids.length := by omega
     obtain ⟨q0, q1, q2, q3, q4⟩ := cells5 HRV.out
     have HE : Hid (r = f + tmI n zs p v1) := by
       have := HV1.out
       unfold rideV at this
       rw [<- hkl, HFR.out, HPL.out] at this
       exact this.symm
     clear hkl
     obtain ⟨d, HD⟩ : ∃ t, Hid (tmI n zs p v1 = t) := ⟨_, rfl⟩
     have hdb := tmI_bd HMAT.out p v1
     rw [HD.out] at hdb HE
     go_wp2_with fail
     refine (l1Time_is' n p v1 _ _ zs _ d HD.out HMAT.out HPB.out HX1.out (HA.out.below HB.out.1)).mono ?_
     rintro e W3 ⟨rfl, hb3⟩
     have HB3 : Hid (Below w.heap.size w W3) := HB.out.1.trans (hb3.mono HB.out.1.size)
     clear hb3
     go_wp2
     go_ret
     exact ⟨ret_int HE.out.symm, HB3.out⟩
def markA (cur : Array Value) (k0 : Int) : Nat -> Array Value
 | 0 => cur
 | m + 1 => (markA cur k0 m).setIfInBounds m (.int .i64 (k0 + (m : Nat)))
theorem markA_size (cur : Array Value) (k0 : Int) : ∀ m, (markA cur k0 m).size = cur.size
 | 0 => rfl
 | m + 1 => by simp [markA, markA_size cur k0 m]
theorem markA_get (cur : Array Value) (k0 : Int) : ∀ m, m <= cur.size -> ∀ j, j < m -> (markA cur k0 m)[j]? = some (.int .i64 (k0 + (j : Nat)))
 | 0, _, j, hj => by omega
 | m + 1, hm, j, hj => by
   unfold markA
   by_cases e : j = m
   · subst e
     rw [Array.getElem?_setIfInBounds_self_of_lt (by rw [markA_size]; omega)]
   · rw [Array.getElem?_setIfInBounds_ne (by omega)]
     exact markA_get cur k0 m (by omega) j (by omega)
theorem row_some {w : World} {g : Nat} {cur : Array Value} {T : TypeId} (h : w.heap[g]? = some (.cells cur T (0, 0))) {j : Nat} (hj : j < cur.size) : ∃ v, w.cell? ⟨g, j, none⟩ = some v := by
 rw [cell_of_row _ _ j _ _ _ h]
 exact ⟨cur[j], by simp [hj]⟩
theorem mark_step {w : World} {g m : Nat} {cur : Array Value} {T : TypeId} {k0 v : Int} (h : w.heap[g]? = some (.cells (markA cur k0 m) T (0, 0))) (hv : v = k0 + (m : Nat)) : (w.setCell ⟨g, m, none⟩ (.int .i64 v)).heap[g]? = some (.cells (markA cur k0 (m + 1)) T (0, 0)) := by
 rw [heap_setCell_same _ _ _ _ _ _ h, hv]
 rfl
def seqL (k : Int) (n : Nat) : List Int := (List.range n).map (fun i : Nat => k + (i : Int))
theorem seqL_len (k : Int) (n : Nat) : (seqL k n).length = n := by simp [seqL]
theorem seqL_at {k : Int} {n j : Nat} (h : j < n) : (seqL k n)[j]? = some (k + (j : Int)) := by simp [seqL, h]
theorem own_row_of {w : World} {base size n rc g : Nat} {e : TypeId} {xs : List Value} (h : w.ownsRow base e size (.slice (some ⟨g, 0, none⟩) n rc) n xs) : ∃ cur, w.heap[g]? = some (.cells cur e (0, 0)) /\ cur.size = rc * size /\ n <= rc /\ rc <= maxLen /\ base <= g := by
 obtain ⟨_, ⟨h1, _⟩ | ⟨g', cap, cur, h2, h3, h4, h5, h6, h7, _⟩⟩ := h
 · cases h1
 · simp only [Value.slice.injEq, Option.some.injEq, Addr.mk.injEq, and_true, true_and] at h2
   obtain ⟨rfl, rfl⟩ := h2
   exact ⟨cur, h4, h7, h5, h6, h3⟩
set_option maxHeartbeats 1000000 in
theorem markInt64S_any (g n cap : Nat) (k0 : Int) (cur : Array Value) (T : TypeId) (w : World) (hrow0 : w.heap[g]? = some (.cells cur T (0, 0))) (hn : n <= cur.size) (h0 : 0 <= k0) (h1 : k0 <= 1000000000000) (hn1 : n <= 10000000) :
   Calls Tryz.prog 48 #[.slice (some ⟨g, 0, none⟩) n cap, .int .i64 k0] w fun e w' => e = .returned (.int .i64 (k0 + ((n : Nat) : Int))) /\ w.grownBy w' (some g) /\ w'.heap[g]? = some (.cells (markA cur k0 (n)) T (0, 0)) := by
 have HR0 : Hid (w.heap[g]? = some (.cells cur T (0, 0))) := hrow0
 clear hrow0
 go_enter Tryz.func48, Tryz.ntmps48
 go_wp2_with fail
 go_loopw [1, 5] (fun kk t wr => ∃ k : Nat, k <= n /\ t = .int .i64 k /\ kk = .int .i64 (k0 + ((k : Nat) : Int)) /\ w.grownBy wr (some g) /\ wr.heap[g]? = some (.cells (markA cur k0 (k)) T (0, 0))) (fun _ t _ => n - (intOf t).toNat)
 case atStart => exact ⟨0, Nat.zero_le _, rfl, by simp, grown_refl _ _, HR0.out⟩
 case round =>
   obtain ⟨k, hk, rfl, rfl, hg, hrow⟩ := hrel
   have HG : Hid (w.grownBy wr (some g)) := hg
   clear hg
   obtain ⟨K, HK⟩ : ∃ t, Hid (k0 + ((k : Nat) : Int) = t) := ⟨_, rfl⟩
   have hkb : 0 <= K /\ K <= 1000100000000 := by
     have := HK.out
     omega
   rw [HK.out]
   by_cases hlt : k < n
   · have fz := fun i => frozen_of_row _ _ i _ _ hrow
     obtain ⟨z0, y0⟩ := row_some hrow (j := k) (by rw [markA_size]; omega)
     have HROW : Hid ((World.heap (World.setCell wr ⟨g, k, none⟩ (Value.int .i64 K)))[g]? = some (.cells (markA cur k0 ((k + 1))) T (0, 0))) := by
       show _ = _
       exact (mark_step hrow (by have := HK.out; omega))
     have HGR : Hid (w.grownBy (World.setCell wr ⟨g, k, none⟩ (Value.int .i64 K)) (some g)) := (grown_trans HG.out (grown_set _ _ _ _))
     have HK1 : Hid (k0 + (((k + 1) : Nat) : Int) = K + 1) := by
       show _ = _
       have := HK.out
       omega
     clear hrow
     go_wp2
     go_roundw
     case rel => exact ⟨k + 1, by omega, by go_num, by first | (rw [HK1.out]; go_num) | rw [HK1.out], HGR.out, HROW.out⟩
     case measure => simp [intOf]; omega
   · have hkl : k = n := by omega
     subst hkl
     have HROW : Hid (wr.heap[g]? = _) := hrow
     clear hrow
     go_wp2
     go_ret
     exact ⟨ret_int HK.out.symm, HG.out, HROW.out⟩
set_option maxHeartbeats 400000 in
theorem markInt64S_nil (a : Option Addr) (cap : Nat) (k0 : Int) (w : World) :
   Calls Tryz.prog 48 #[.slice a 0 cap, .int .i64 k0] w fun e w' => e = .returned (.int .i64 k0) /\ w' = w := by
 go_enter Tryz.func48, Tryz.ntmps48
 go_wp2_with fail
 go_loop [1, 5] (fun kk t => t = .int .i64 0 /\ kk = .int .i64 k0) (fun _ _ => 0)
 case atStart => exact ⟨rfl, rfl⟩
 case round =>
   obtain ⟨rfl, rfl⟩ := hrel
   go_wp2
   go_ret
   exact ⟨rfl, rfl⟩
set_option maxHeartbeats 1000000 in
theorem heldInt64S_any (g n cap : Nat) (k0 : Int) (w : World) (hc : ∀ j, j < n -> w.cell? ⟨g, j, none⟩ = some (.int .i64 (k0 + (j : Nat)))) (h0 : 0 <= k0) (h1 : k0 <= 1000000000000) (hn1 : n <= 10000000) :
   Calls Tryz.prog 50 #[.slice (some ⟨g, 0, none⟩) n cap, .int .i64 k0] w fun e w' => e = .returned (.int .i64 (k0 + ((n : Nat) : Int))) /\ w' = w := by
 have HC : Hid (∀ j, j < n -> w.cell? ⟨g, j, none⟩ = some (.int .i64 (k0 + (j : Nat)))) := hc
 clear hc
 go_enter Tryz.func50, Tryz.ntmps50
 go_wp2_with fail
 go_loop [1, 5] (fun kk t => ∃ k : Nat, k <= n /\ t = .int .i64 k /\ kk = .int .i64 (k0 + ((k : Nat) : Int))) (fun _ t => n - (intOf t).toNat)
 case atStart => exact ⟨0, Nat.zero_le _, rfl, by simp⟩
 case round =>
   obtain ⟨k, hk, rfl, rfl⟩ := hrel
   obtain ⟨K, HK⟩ : ∃ t, Hid (k0 + ((k : Nat) : Int) = t) := ⟨_, rfl⟩
   have hkb : 0 <= K /\ K <= 1000100000000 := by
     have := HK.out
     omega
   rw [HK.out]
   by_cases hlt : k < n
   · have HK1 : Hid (k0 + (((k + 1) : Nat) : Int) = K + 1) := by
       show _ = _
       have := HK.out
       omega
     have y0 := HC.out (k) (by omega)
     rw [show k0 + (((k : Nat)) : Int) = K by have := HK.out; omega] at y0
     go_wp2
     go_round
     case rel => exact ⟨k + 1, by omega, by go_num, by first | (rw [HK1.out]; go_num) | rw [HK1.out]⟩
     case measure => simp [intOf]; omega
   · have hkl : k = n := by omega
     subst hkl
     go_wp2
     go_ret
     exact ⟨ret_int HK.out.symm, rfl⟩
set_option maxHeartbeats 400000 in
theorem heldInt64S_nil (a : Option Addr) (cap : Nat) (k0 : Int) (w : World) :
   Calls Tryz.prog 50 #[.slice a 0 cap, .int .i64 k0] w fun e w' => e = .returned (.int .i64 k0) /\ w' = w := by
 go_enter Tryz.func50, Tryz.ntmps50
 go_wp2_with fail
 go_loop [1, 5] (fun kk t => t = .int .i64 0 /\ kk = .int .i64 k0) (fun _ _ => 0)
 case atStart => exact ⟨rfl, rfl⟩
 case round =>
   obtain ⟨rfl, rfl⟩ := hrel
   go_wp2
   go_ret
   exact ⟨rfl, rfl⟩
end Go.Proofs.YtfpegaldloadaaaGreat

namespace Go.Proofs.YtfpegaldloadaaaGreat
end Go.Proofs.YtfpegaldloadaaaGreat

namespace Go.Proofs.YtfpegaldloadaaaGreat
open Go.RowKit
set_option maxHeartbeats 1000000 in
theorem markOrderS_any (g n cap : Nat) (k0 : Int) (cur : Array Value) (T : TypeId) (w : World) (hrow0 : w.heap[g]? = some (.cells cur T (0, 0))) (hn : n * 6 <= cur.size) (h0 : 0 <= k0) (h1 : k0 <= 1000000000000) (hn1 : n <= 10000000) :
   Calls Tryz.prog 45 #[.slice (some ⟨g, 0, none⟩) n cap, .int .i64 k0] w fun e w' => e = .returned (.int .i64 (k0 + ((n * 6 : Nat) : Int))) /\ w.grownBy w' (some g) /\ w'.heap[g]? = some (.cells (markA cur k0 (n * 6)) T (0, 0)) := by
 have HR0 : Hid (w.heap[g]? = some (.cells cur T (0, 0))) := hrow0
 clear hrow0
 go_enter Tryz.func45, Tryz.ntmps45
 go_wp2_with fail
 go_loopw [1, 5] (fun kk t wr => ∃ k : Nat, k <= n /\ t = .int .i64 k /\ kk = .int .i64 (k0 + ((k * 6 : Nat) : Int)) /\ w.grownBy wr (some g) /\ wr.heap[g]? = some (.cells (markA cur k0 (k * 6)) T (0, 0))) (fun _ t _ => n - (intOf t).toNat)
 case atStart => exact ⟨0, Nat.zero_le _, rfl, by simp, grown_refl _ _, HR0.out⟩
 case round =>
   obtain ⟨k, hk, rfl, rfl, hg, hrow⟩ := hrel
   have HG : Hid (w.grownBy wr (some g)) := hg
   clear hg
   obtain ⟨K, HK⟩ : ∃ t, Hid (k0 + ((k * 6 : Nat) : Int) = t) := ⟨_, rfl⟩
   have hkb : 0 <= K /\ K <= 1000100000000 := by
     have := HK.out
     omega
   rw [HK.out]
   by_cases hlt : k < n
   · have fz := fun i => frozen_of_row _ _ i _ _ hrow
     obtain ⟨z0, y0⟩ := row_some hrow (j := k * 6) (by rw [markA_size]; omega)
     obtain ⟨z1, y1⟩ := row_some hrow (j := k * 6 + 1) (by rw [markA_size]; omega)
     obtain ⟨z2, y2⟩ := row_some hrow (j := k * 6 + 2) (by rw [markA_size]; omega)
     obtain ⟨z3, y3⟩ := row_some hrow (j := k * 6 + 3) (by rw [markA_size]; omega)
     obtain ⟨z4, y4⟩ := row_some hrow (j := k * 6 + 4) (by rw [markA_size]; omega)
     obtain ⟨z5, y5⟩ := row_some hrow (j := k * 6 + 5) (by rw [markA_size]; omega)
     have HROW : Hid ((World.heap (World.setCell (World.setCell (World.setCell (World.setCell (World.setCell (World.setCell wr ⟨g, k * 6, none⟩ (Value.int .i64 K)) ⟨g, k * 6 + 1, none⟩ (Value.int .i64 (K + 1))) ⟨g, k * 6 + 2, none⟩ (Value.int .i64 (K + 1 + 1))) ⟨g, k * 6 + 3, none⟩ (Value.int .i64 (K + 1 + 1 + 1))) ⟨g, k * 6 + 4, none⟩ (Value.int .i64 (K + 1 + 1 + 1 + 1))) ⟨g, k * 6 + 5, none⟩ (Value.int .i64 (K + 1 + 1 + 1 + 1 + 1))))[g]? = some (.cells (markA cur k0 (((k + 1) * 6))) T (0, 0))) := by
       show _ = _
       rw [show (k + 1) * 6 = k * 6 + 1 + 1 + 1 + 1 + 1 + 1 by omega]
       exact (mark_step (mark_step (mark_step (mark_step (mark_step (mark_step hrow (by have := HK.out; omega)) (by have := HK.out; omega)) (by have := HK.out; omega)) (by have := HK.out; omega)) (by have := HK.out; omega)) (by have := HK.out; omega))
     have HGR : Hid (w.grownBy (World.setCell (World.setCell (World.setCell (World.setCell (World.setCell (World.setCell wr ⟨g, k * 6, none⟩ (Value.int .i64 K)) ⟨g, k * 6 + 1, none⟩ (Value.int .i64 (K + 1))) ⟨g, k * 6 + 2, none⟩ (Value.int .i64 (K + 1 + 1))) ⟨g, k * 6 + 3, none⟩ (Value.int .i64 (K + 1 + 1 + 1))) ⟨g, k * 6 + 4, none⟩ (Value.int .i64 (K + 1 + 1 + 1 + 1))) ⟨g, k * 6 + 5, none⟩ (Value.int .i64 (K + 1 + 1 + 1 + 1 + 1))) (some g)) := (grown_trans (grown_trans (grown_trans (grown_trans (grown_trans (grown_trans HG.out (grown_set _ _ _ _)) (grown_set _ _ _ _)) (grown_set _ _ _ _)) (grown_set _ _ _ _)) (grown_set _ _ _ _)) (grown_set _ _ _ _))
     have HK1 : Hid (k0 + ((((k + 1) * 6) : Nat) : Int) = K + 6) := by
       show _ = _
       have := HK.out
       omega
     clear hrow
     go_wp2
     go_roundw
     case rel => exact ⟨k + 1, by omega, by go_num, by first | (rw [HK1.out]; go_num) | rw [HK1.out], HGR.out, HROW.out⟩
     case measure => simp [intOf]; omega
   · have hkl : k = n := by omega
     subst hkl
     have HROW : Hid (wr.heap[g]? = _) := hrow
     clear hrow
     go_wp2
     go_ret
     exact ⟨ret_int HK.out.symm, HG.out, HROW.out⟩
set_option maxHeartbeats 1000000 in
theorem markVehicleS_any (g n cap : Nat) (k0 : Int) (cur : Array Value) (T : TypeId) (w : World) (hrow0 : w.heap[g]? = some (.cells cur T (0, 0))) (hn : n * 5 <= cur.size) (h0 : 0 <= k0) (h1 : k0 <= 1000000000000) (hn1 : n <= 10000000) :
   Calls Tryz.prog 46 #[.slice (some ⟨g, 0, none⟩) n cap, .int .i64 k0] w fun e w' => e = .returned (.int .i64 (k0 + ((n * 5 : Nat) : Int))) /\ w.grownBy w' (some g) /\ w'.heap[g]? = some (.cells (markA cur k0 (n * 5)) T (0, 0)) := by
 have HR0 : Hid (w.heap[g]? = some (.cells cur T (0, 0))) := hrow0
 clear hrow0
 go_enter Tryz.func46, Tryz.ntmps46
 go_wp2_with fail
 go_loopw [1, 5] (fun kk t wr => ∃ k : Nat, k <= n /\ t = .int .i64 k /\ kk = .int .i64 (k0 + ((k * 5 : Nat) : Int)) /\ w.grownBy wr (some g) /\ wr.heap[g]? = some (.cells (markA cur k0 (k * 5)) T (0, 0))) (fun _ t _ => n - (intOf t).toNat)
 case atStart => exact ⟨0, Nat.zero_le _, rfl, by simp, grown_refl _ _, HR0.out⟩
 case round =>
   obtain ⟨k, hk, rfl, rfl, hg, hrow⟩ := hrel
   have HG : Hid (w.grownBy wr (some g)) := hg
   clear hg
   obtain ⟨K, HK⟩ : ∃ t, Hid (k0 + ((k * 5 : Nat) : Int) = t) := ⟨_, rfl⟩
   have hkb : 0 <= K /\ K <= 1000100000000 := by
     have := HK.out
     omega
   rw [HK.out]
   by_cases hlt : k < n
   · have fz := fun i => frozen_of_row _ _ i _ _ hrow
     obtain ⟨z0, y0⟩ := row_some hrow (j := k * 5) (by rw [markA_size]; omega)
     obtain ⟨z1, y1⟩ := row_some hrow (j := k * 5 + 1) (by rw [markA_size]; omega)
     obtain ⟨z2, y2⟩ := row_some hrow (j := k * 5 + 2) (by rw [markA_size]; omega)
     obtain ⟨z3, y3⟩ := row_some hrow (j := k * 5 + 3) (by rw [markA_size]; omega)
     obtain ⟨z4, y4⟩ := row_some hrow (j := k * 5 + 4) (by rw [markA_size]; omega)
     have HROW : Hid ((World.heap (World.setCell (World.setCell (World.setCell (World.setCell (World.setCell wr ⟨g, k * 5, none⟩ (Value.int .i64 K)) ⟨g, k * 5 + 1, none⟩ (Value.int .i64 (K + 1))) ⟨g, k * 5 + 2, none⟩ (Value.int .i64 (K + 1 + 1))) ⟨g, k * 5 + 3, none⟩ (Value.int .i64 (K + 1 + 1 + 1))) ⟨g, k * 5 + 4, none⟩ (Value.int .i64 (K + 1 + 1 + 1 + 1))))[g]? = some (.cells (markA cur k0 (((k + 1) * 5))) T (0, 0))) := by
       show _ = _
       rw [show (k + 1) * 5 = k * 5 + 1 + 1 + 1 + 1 + 1 by omega]
       exact (mark_step (mark_step (mark_step (mark_step (mark_step hrow (by have := HK.out; omega)) (by have := HK.out; omega)) (by have := HK.out; omega)) (by have := HK.out; omega)) (by have := HK.out; omega))
     have HGR : Hid (w.grownBy (World.setCell (World.setCell (World.setCell (World.setCell (World.setCell wr ⟨g, k * 5, none⟩ (Value.int .i64 K)) ⟨g, k * 5 + 1, none⟩ (Value.int .i64 (K + 1))) ⟨g, k * 5 + 2, none⟩ (Value.int .i64 (K + 1 + 1))) ⟨g, k * 5 + 3, none⟩ (Value.int .i64 (K + 1 + 1 + 1))) ⟨g, k * 5 + 4, none⟩ (Value.int .i64 (K + 1 + 1 + 1 + 1))) (some g)) := (grown_trans (grown_trans (grown_trans (grown_trans (grown_trans HG.out (grown_set _ _ _ _)) (grown_set _ _ _ _)) (grown_set _ _ _ _)) (grown_set _ _ _ _)) (grown_set _ _ _ _))
     have HK1 : Hid (k0 + ((((k + 1) * 5) : Nat) : Int) = K + 5) := by
       show _ = _
       have := HK.out
       omega
     clear hrow
     go_wp2
     go_roundw
     case rel => exact ⟨k + 1, by omega, by go_num, by first | (rw [HK1.out]; go_num) | rw [HK1.out], HGR.out, HROW.out⟩
     case measure => simp [intOf]; omega
   · have hkl : k = n := by omega
     subst hkl
     have HROW : Hid (wr.heap[g]? = _) := hrow
     clear hrow
     go_wp2
     go_ret
     exact ⟨ret_int HK.out.symm, HG.out, HROW.out⟩
set_option maxHeartbeats 400000 in
theorem markMat_any (n k0 : Int) (g cap : Nat) (zs : List Int) (w : World) (hrow : w.heap[g]? = some (.cells (cellsOf zs) 2 (0, 0))) (h0 : 0 <= k0) (h1 : k0 <= 100000000) (hl : zs.length <= 1048576) :
   Calls Tryz.prog 44 #[.agg #[.int .i64 n, .slice (some ⟨g, 0, none⟩) zs.length cap], .int .i64 k0] w fun e w' => e = .returned (.int .i64 (k0 + (zs.length : Int))) /\ GrownBut (fun b => b = g) w w' := by
 have HB0 : Hid (Below w.heap.size w (w.alloc (Obj.cells #[Value.int .i64 n, Value.slice (some ⟨g, 0, none⟩) zs.length cap] 39))) := (Below.refl _ _).alloc (Nat.le_refl _) _
 have HR : Hid (w.heap[g]? = _) := hrow
 clear hrow
 go_enter Tryz.func44, Tryz.ntmps44
 go_wp2_with fail
 refine (markInt64S_any g zs.length cap k0 (cellsOf zs) _ _ (below_row HB0.out (row_lt HR.out) HR.out) (by rw [cellsOf_size]; exact Nat.le_refl _) h0 (by omega) (by omega)).mono ?_
 rintro e w1 ⟨rfl, hg, _⟩
 have HG : Hid (GrownBut (fun b => b = g) w w1) := (GrownBut.of_below HB0.out).trans (GrownBut.of_grown hg rfl)
 clear hg
 go_wp2
 go_ret
 exact ⟨rfl, HG.out⟩
set_option maxHeartbeats 1000000 in
theorem markCase_any (n fine : Int) (g go gv cap ko co kv cv : Nat) (zs os vs : List Int) (w : World) (hC : CaseAt w g go gv zs os vs) (hlo : os.length = ko * 6) (hlv : vs.length = kv * 5) (hz : zs.length <= 1048576) (hko : ko <= 1048576) (hkv : kv <= 1048576) :
   Calls Tryz.prog 14 #[.agg #[.int .i64 n, .slice (some ⟨g, 0, none⟩) zs.length cap, .slice (some ⟨go, 0, none⟩) ko co, .slice (some ⟨gv, 0, none⟩) kv cv, .int .i64 fine], .int .i64 1] w fun e w' => ∃ k', e = .returned (.int .i64 k') /\ 0 <= k' /\ k' <= 50000000 /\ GrownBut (fun b => b = g ∨ b = go ∨ b = gv) w w' := by
 have HB0 : Hid (Below w.heap.size w (w.alloc (Obj.cells #[Value.int .i64 n, Value.slice (some ⟨g, 0, none⟩) zs.length cap, Value.slice (some ⟨go, 0, none⟩) ko co, Value.slice (some ⟨gv, 0, none⟩) kv cv, Value.int .i64 fine] 43))) := (Below.refl _ _).alloc (Nat.le_refl _) _
 have HP0 : Hid ((w.alloc (Obj.cells #[Value.int .i64 n, Value.slice (some ⟨g, 0, none⟩) zs.length cap, Value.slice (some ⟨go, 0, none⟩) ko co, Value.slice (some ⟨gv, 0, none⟩) kv cv, Value.int .i64 fine] 43)).heap[w.heap.size]? = _) := heap_alloc_new _ _
 have HC : Hid (CaseAt (w.alloc (Obj.cells #[Value.int .i64 n, Value.slice (some ⟨g, 0, none⟩) zs.length cap, Value.slice (some ⟨go, 0, none⟩) ko co, Value.slice (some ⟨gv, 0, none⟩) kv cv, Value.int .i64 fine] 43)) g go gv zs os vs) := hC.below HB0.out
 have HLO : Hid (os.length = ko * 6) := hlo
 have HLV : Hid (vs.length = kv * 5) := hlv
 clear hC hlo hlv
 go_enter Tryz.func14, Tryz.ntmps14
 obtain ⟨c0, c1, c2, c3, c4⟩ := cells5 HP0.out
 go_wp2_with fail
 clear c0 c1 c2 c3 c4
 have n1 : Hid (go ≠ g /\ gv ≠ g /\ gv ≠ go) := ⟨type_ne HC.out.2.1 HC.out.1 (by decide), type_ne HC.out.2.2 HC.out.1 (by decide), type_ne HC.out.2.2 HC.out.2.1 (by decide)⟩
 have n2 : Hid (w.heap.size ≠ g /\ w.heap.size ≠ go /\ w.heap.size ≠ gv) := ⟨type_ne HP0.out HC.out.1 (by decide), type_ne HP0.out HC.out.2.1 (by decide), type_ne HP0.out HC.out.2.2 (by decide)⟩
 refine (markMat_any n 1 g cap zs _ HC.out.1 (by omega) (by omega) hz).mono ?_
 rintro e w1 ⟨rfl, hg⟩
 have G1 : Hid (GrownBut (fun b => b = g ∨ b = go ∨ b = gv) w w1) := (GrownBut.of_below HB0.out).trans (hg.mono (fun b e => .inl e))
 have P1 : Hid (w1.heap[w.heap.size]? = _) := hg.row HP0.out n2.out.1
 have R1 : Hid (w1.heap[go]? = _) := hg.row HC.out.2.1 n1.out.1
 have V1 : Hid (w1.heap[gv]? = _) := hg.row HC.out.2.2 n1.out.2.1
 clear hg HB0 HP0 HC
 obtain ⟨c0, c1, c2, c3, c4⟩ := cells5 P1.out
 obtain ⟨k1, HK1⟩ : ∃ t, Hid ((1 : Int) + (zs.length : Int) = t) := ⟨_, rfl⟩
 have hk1 : 0 <= k1 /\ k1 <= 2000000 := by have := HK1.out; omega
 rw [HK1.out]
 go_wp2_with fail
 clear c0 c1 c2 c3 c4
 refine (markOrderS_any go ko co k1 (cellsOf os) _ _ R1.out (by rw [cellsOf_size, HLO.out]; exact Nat.le_refl _) (by omega) (by omega) (by omega)).mono ?_
 rintro e w2 ⟨rfl, hg, _⟩
 have hg2 : GrownBut (fun b => b = go) w1 w2 := GrownBut.of_grown hg rfl
 have G2 : Hid (GrownBut (fun b => b = g ∨ b = go ∨ b = gv) w w2) := G1.out.trans (hg2.mono (fun b e => .inr (.inl e)))
 have P2 : Hid (w2.heap[w.heap.size]? = _) := hg2.row P1.out n2.out.2.1
 have V2 : Hid (w2.heap[gv]? = _) := hg2.row V1.out n1.out.2.2
 clear hg hg2 G1 P1 R1 V1
 obtain ⟨c0, c1, c2, c3, c4⟩ := cells5 P2.out
 obtain ⟨k2, HK2⟩ : ∃ t, Hid (k1 + ((ko * 6 : Nat) : Int) = t) := ⟨_, rfl⟩
 have hk2 : 0 <= k2 /\ k2 <= 10000000 := by have := HK2.out; omega
 rw [HK2.out]
 go_wp2_with fail
 clear c0 c1 c2 c3 c4
 refine (markVehicleS_any gv kv cv k2 (cellsOf vs) _ _ V2.out (by rw [cellsOf_size, HLV.out]; exact Nat.le_refl _) (by omega) (by omega) (by omega)).mono ?_
 rintro e w3 ⟨rfl, hg, _⟩
 have G3 : Hid (GrownBut (fun b => b = g ∨ b = go ∨ b = gv) w w3) := G2.out.trans (GrownBut.of_grown hg (.inr (.inr rfl)))
 clear hg
 obtain ⟨k3, HK3⟩ : ∃ t, Hid (k2 + ((kv * 5 : Nat) : Int) = t) := ⟨_, rfl⟩
 have hk3 : 0 <= k3 /\ k3 <= 50000000 := by have := HK3.out; omega
 rw [HK3.out]
 go_wp2
 go_ret
 exact ⟨k3, rfl, hk3.1, hk3.2, G3.out⟩
end Go.Proofs.YtfpegaldloadaaaGreat
