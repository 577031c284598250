import Derived.Test.YtcljhgildbcdmaaGreatPack4
import Derived.Test.YtcljhgildbcdmaaGreatPack6
import Derived.Test.YtcljhgildbcdmaaGreatPack7
import Derived.Test.YtcljhgildbcdmaaGreatPack10
import Derived.Test.YtcljhgildbcdmaaGreatPack20
namespace Go.Proofs.YtcljhgildbcdmaaGreat
end Go.Proofs.YtcljhgildbcdmaaGreat
namespace Go.Proofs.YtcljhgildbcdmaaGreat
open Go.RowKit
set_option maxHeartbeats 2000000 in
theorem changed_put (n fine veh : Int) (a ao av bi : Option Addr) (cap ko co kv cv c2 : Nat) (zs os vs ids : List Int) (w : World) (hA : IntsAt w a zs) (hO : IntsAt w ao os) (hV : IntsAt w av vs) (hI : IntsAt w bi ids) (hlo : os.length = ko * 6) (hlv : vs.length = kv * 5) (hko : ko <= 9223372036854775807) (hkv : kv <= 9223372036854775807) (hli : ids.length <= 9223372036854775807) (hc2 : ids.length <= c2) (hcB : caseB n zs os vs ko kv fine = true) (p q : Nat) (ok : Bool) (ids' : List Int)
   (hhow : ∀ W, Below w.heap.size w W -> ids.length <= 12 -> Calls Tryz.prog 117 #[.slice bi ids.length c2, .pointer (some ⟨p, 0, none⟩), .pointer (some ⟨q, 0, none⟩)] W (HowOk W ok ids')) (ch : Bool) (hch : chB true n zs os vs ko kv veh ids ok ids' = ch) (D : Int) (hD : chD ch n zs os vs ko kv veh ids ids' = D) (xs : List Int) (hxs : chL ch ids' = xs) :
   Calls Tryz.prog 84 #[.agg #[.int .i64 n, .slice a zs.length cap, .slice ao ko co, .slice av kv cv, .int .i64 fine], .agg #[.int .i64 veh, .slice bi ids.length c2], .func (.func 117) #[] #[.pointer (some ⟨p, 0, none⟩), .pointer (some ⟨q, 0, none⟩)]] w (ChgOk w ch veh D xs) := by
 have HA : Hid (IntsAt w a zs) := hA
 have HO : Hid (IntsAt w ao os) := hO
 have HV : Hid (IntsAt w av vs) := hV
 have HI : Hid (IntsAt w bi ids) := hI
 have HLO : Hid _ := hlo
 have HLV : Hid _ := hlv
 clear hA hO hV hI hlo hlv
 have HC : Hid (caseB n zs os vs ko kv fine = true) := hcB
 have HCh : Hid (chB true n zs os vs ko kv veh ids ok ids' = ch) := hch
 have HD : Hid (chD ch n zs os vs ko kv veh ids ids' = D) := hD
 have HXs : Hid (chL ch ids' = xs) := hxs
 have HW : Hid (∀ W, Below w.heap.size w W -> ids.length <= 12 -> Calls Tryz.prog 117 #[.slice bi ids.length c2, .pointer (some ⟨p, 0, none⟩), .pointer (some ⟨q, 0, none⟩)] W (HowOk W ok ids')) := hhow
 clear hcB hch hD hxs hhow
 have C0 : Hid (CRR w (((w.alloc (.cells #[Value.int .i64 n, Value.slice a zs.length cap, Value.slice ao ko co, Value.slice av kv cv, Value.int .i64 fine] 43)).alloc (.cells #[Value.int .i64 veh, Value.slice bi ids.length c2] 102)).alloc (.cells #[Value.int .i64 0, Value.slice none 0 0] 102)) _ _ _) := CRR.new w _ _ _
 obtain ⟨o1, HO1⟩ : ∃ t, Hid (decide (codeV true n zs os vs ko kv veh ids = 0) = t) := ⟨_, rfl⟩
 obtain ⟨q1, HQ1⟩ : ∃ t, Hid (rcV n zs os vs ko kv veh ids = t) := ⟨_, rfl⟩
 obtain ⟨o2, HO2⟩ : ∃ t, Hid (decide (codeV true n zs os vs ko kv veh ids' = 0) = t) := ⟨_, rfl⟩
 obtain ⟨q2, HQ2⟩ : ∃ t, Hid (rcV n zs os vs ko kv veh ids' = t) := ⟨_, rfl⟩
 have hq1 := rcV_bd (caseB_parts HC.out).1 os vs ko kv veh ids
 have hq2 := rcV_bd (caseB_parts HC.out).1 os vs ko kv veh ids'
 rw [HQ1.out] at hq1
 rw [HQ2.out] at hq2
 go_enter Tryz.func84, Tryz.ntmps84
 obtain ⟨c0, c1, c2', c3, c4⟩ := cells5 C0.out.1.2.1
 obtain ⟨d0, d1⟩ := cells2 C0.out.1.2.2
 go_wp2_with fail
 clear c0 c1 c2' c3 c4 d0 d1
 refine (routeCost_any n fine veh a ao av bi cap ko co kv cv c2 zs os vs ids _ (HA.out.below C0.out.b) (HO.out.below C0.out.b) (HV.out.below C0.out.b) (HI.out.below C0.out.b) HLO.out HLV.out hko hkv hli hc2 HC.out o1 HO1.out q1 HQ1.out).mono ?_
 rintro e w1 ⟨rfl, hb⟩
 have C1 : Hid (CRR w w1 _ _ _) := C0.out.below hb
 clear hb C0
 cases o1
 · have HCH : Hid (ch = false) := HCh.out.symm.trans (chB_no1 (of_decide_eq_false HO1.out) _ _)
   have HX : Hid (xs = []) := HXs.out.symm.trans (by rw [HCH.out]; rfl)
   have HDD : Hid (D = 0) := HD.out.symm.trans (by rw [HCH.out]; rfl)
   obtain ⟨t0, t1⟩ := cells2 C1.out.2
   have tf := fun i => frozen_of_row _ _ i _ _ C1.out.2
   go_wp2
   refine bodyPost_ret (v := .tuple #[.agg #[Value.int .i64 0, Value.slice none 0 0], .int .i64 0, .bool false]) (by simp [results, Tryz.results84, go_sem, t0, t1]) rfl ⟨?_, none, 0, ?_, ?_⟩
   · repeat (first | with_reducible exact C1.out.b | refine Below.setCell ?_ (by simp <;> omega) _)
   · rw [HCH.out, HDD.out, HX.out]; rfl
   · rw [HX.out]; exact World.ownsRow_nil _ _ _ _
 · have hz1 : codeV true n zs os vs ko kv veh ids = 0 := of_decide_eq_true HO1.out
   have HZ1 : Hid (codeV true n zs os vs ko kv veh ids = 0) := hz1
   clear hz1
   have h12 := code12 HZ1.out
   obtain ⟨d0, d1⟩ := cells2 C1.out.1.2.2
   go_wp2_with fail
   clear d0 d1
   refine (HW.out w1 C1.out.b h12).mono ?_
   rintro e w2 ⟨hb, ⟨rfl, rfl⟩ | ⟨rfl, g, cg, rfl, ho⟩⟩
   · have C2 : Hid (CRR w w2 _ _ _) := C1.out.below hb
     clear hb C1
     have HCH : Hid (ch = false) := HCh.out.symm.trans (chB_no2 rfl _)
     have HX : Hid (xs = []) := HXs.out.symm.trans (by rw [HCH.out]; rfl)
     have HDD : Hid (D = 0) := HD.out.symm.trans (by rw [HCH.out]; rfl)
     obtain ⟨t0, t1⟩ := cells2 C2.out.2
     have tf := fun i => frozen_of_row _ _ i _ _ C2.out.2
     go_wp2
     refine bodyPost_ret (v := .tuple #[.agg #[Value.int .i64 0, Value.slice none 0 0], .int .i64 0, .bool false]) (by simp [results, Tryz.results84, go_sem, t0, t1]) rfl ⟨?_, none, 0, ?_, ?_⟩
     · repeat (first | with_reducible exact C2.out.b | refine Below.setCell ?_ (by simp <;> omega) _)
     · rw [HCH.out, HDD.out, HX.out]; rfl
     · rw [HX.out]; exact World.ownsRow_nil _ _ _ _
   · have C2 : Hid (CRR w w2 _ _ _) := C1.out.below hb
     have LG : Hid (w.heap.size + 2 < w1.heap.size) := C1.out.big
     have O2 : Hid (w2.ownsRow w1.heap.size 2 1 _ ids'.length _) := ho
     obtain ⟨_, _, e1, hlg, _, hcg, _, _⟩ := Go.Lib.holds_of_ownsRow (enc := Value.int .i64) ho (by simp)
     simp at e1
     obtain ⟨rfl, rfl⟩ := e1
     have HG : Hid (w1.heap.size <= g) := hlg
     have hli' : ids'.length <= 9223372036854775807 := by
       have := (Go.Lib.holds_of_ownsRow (enc := Value.int .i64) ho (by simp))
       obtain ⟨_, _, e1, _, _, h1, h2, _⟩ := this
       simp at e1
       obtain ⟨rfl, rfl⟩ := e1
       unfold maxLen at h2
       omega
     clear hb ho C1 hlg
     have C3 : Hid (CRR w (w2.alloc (Obj.cells #[Value.int .i64 veh, Value.slice (some ⟨g, 0, none⟩) ids'.length cg] 102)) _ _ _) := C2.out.alloc _
     have N3 : Hid ((w2.alloc (Obj.cells #[Value.int .i64 veh, Value.slice (some ⟨g, 0, none⟩) ids'.length cg] 102)).heap[w2.heap.size]? = _) := heap_alloc_new _ _
     have O3 : Hid ((w2.alloc (Obj.cells #[Value.int .i64 veh, Value.slice (some ⟨g, 0, none⟩) ids'.length cg] 102)).ownsRow w1.heap.size 2 1 _ ids'.length _) := O2.out.alloc _
     obtain ⟨d0, d1⟩ := cells2 C2.out.1.2.2
     obtain ⟨c0, c1, c2', c3, c4⟩ := cells5 C3.out.1.2.1
     obtain ⟨n0, n1⟩ := cells2 N3.out
     clear O2
     go_wp2_with fail
     clear d0 d1 c0 c1 c2' c3 c4 n0 n1
     refine (routeCost_any n fine veh a ao av (some ⟨g, 0, none⟩) cap ko co kv cv cg zs os vs ids' _ (HA.out.below C3.out.b) (HO.out.below C3.out.b) (HV.out.below C3.out.b) (owns_ints O3.out) HLO.out HLV.out hko hkv hli' hcg HC.out o2 HO2.out q2 HQ2.out).mono ?_
     rintro e w3 ⟨rfl, hb⟩
     have C4 : Hid (CRR w w3 _ _ _) := C3.out.below hb
     have N4 : Hid (w3.heap[w2.heap.size]? = _) := below_row hb (row_lt N3.out) N3.out
     have O4 : Hid (w3.ownsRow w1.heap.size 2 1 _ ids'.length _) := owns_below O3.out hb
     clear hb C2 C3 N3 O3
     cases o2
     · have HCH : Hid (ch = false) := HCh.out.symm.trans (chB_no3 _ (of_decide_eq_false HO2.out))
       have HX : Hid (xs = []) := HXs.out.symm.trans (by rw [HCH.out]; rfl)
       have HDD : Hid (D = 0) := HD.out.symm.trans (by rw [HCH.out]; rfl)
       obtain ⟨t0, t1⟩ := cells2 C4.out.2
       have tf := fun i => frozen_of_row _ _ i _ _ C4.out.2
       go_wp2
       refine bodyPost_ret (v := .tuple #[.agg #[Value.int .i64 0, Value.slice none 0 0], .int .i64 0, .bool false]) (by simp [results, Tryz.results84, go_sem, t0, t1]) rfl ⟨?_, none, 0, ?_, ?_⟩
       · repeat (first | with_reducible exact C4.out.b | refine Below.setCell ?_ (by simp <;> omega) _)
       · rw [HCH.out, HDD.out, HX.out]; rfl
       · rw [HX.out]; exact World.ownsRow_nil _ _ _ _
     · have HCH : Hid (ch = true) := HCh.out.symm.trans (chB_yes HZ1.out rfl (of_decide_eq_true HO2.out))
       have HX : Hid (xs = ids') := HXs.out.symm.trans (by rw [HCH.out]; rfl)
       have HDD : Hid (D = q2 - q1) := HD.out.symm.trans (by rw [HCH.out, <- HQ1.out, <- HQ2.out]; rfl)
       obtain ⟨t0, t1⟩ := cells2 C4.out.2
       obtain ⟨n0, n1⟩ := cells2 N4.out
       have tf := fun i => frozen_of_row _ _ i _ _ C4.out.2
       go_wp2
       refine bodyPost_ret (v := .tuple #[.agg #[.int .i64 veh, .slice (some ⟨g, 0, none⟩) ids'.length cg], .int .i64 (q2 - q1), .bool true]) (by simp [results, Tryz.results84, go_sem, t0, t1]) rfl ⟨?_, some ⟨g, 0, none⟩, cg, ?_, ?_⟩
       · repeat (first | with_reducible exact C4.out.b | refine Below.setCell ?_ (by simp <;> omega) _)
       · rw [HCH.out, HDD.out, HX.out]; rfl
       · rw [HX.out]; exact owns_base (owns_set (owns_set O4.out LG.out) LG.out) (by have := LG.out; omega)
end Go.Proofs.YtcljhgildbcdmaaGreat
namespace Go.Proofs.YtcljhgildbcdmaaGreat
open Go.RowKit
def plB (c : Bool) (n : Int) (zs os vs : List Int) (ko kv : Nat) (veh : Int) (ids : List Int) (id : Int) (k : Nat) : Bool := chB c n zs os vs ko kv veh ids (inB (k : Int) 0 (ids.length : Int)) (insL ids k id)
def plD (c : Bool) (n : Int) (zs os vs : List Int) (ko kv : Nat) (veh : Int) (ids : List Int) (id : Int) (k : Nat) : Int := chD (plB c n zs os vs ko kv veh ids id k) n zs os vs ko kv veh ids (insL ids k id)
def bpV (c : Bool) (n : Int) (zs os vs : List Int) (ko kv : Nat) (veh : Int) (ids : List Int) (id : Int) : PS := pst (plB c n zs os vs ko kv veh ids id) (plD c n zs os vs ko kv veh ids id) (ids.length + 1)
def rngL (k : Nat) : List Int := (List.range k).map (fun i : Nat => (i : Int))
theorem rngL_length (k : Nat) : (rngL k).length = k := by simp [rngL]
theorem rngL_succ (k : Nat) : rngL (k + 1) = rngL k ++ [(k : Int)] := by simp [rngL, List.range_succ]
theorem rngL_at {m k : Nat} (h : k < m) : (rngL m).getD k 0 = (k : Int) := by simp [rngL, List.getD, h]
end Go.Proofs.YtcljhgildbcdmaaGreat
namespace Go.Proofs.YtcljhgildbcdmaaGreat
open Go.RowKit
def PW (w W : World) (rs : Array Value) (sl : Value) (k : Nat) (xs : List Value) : Prop := Below w.heap.size w W /\ W.heap[w.heap.size]? = some (.cells rs 102 (0, 0)) /\ W.ownsRow (w.heap.size + 1) 2 1 sl k xs
theorem PW.b {w W : World} {rs : Array Value} {sl : Value} {k : Nat} {xs : List Value} (h : PW w W rs sl k xs) : Below w.heap.size w W := h.1
theorem PW.o {w W : World} {rs : Array Value} {sl : Value} {k : Nat} {xs : List Value} (h : PW w W rs sl k xs) : W.ownsRow (w.heap.size + 1) 2 1 sl k xs := h.2.2
theorem PW.r {w W : World} {rs : Array Value} {sl : Value} {k : Nat} {xs : List Value} (h : PW w W rs sl k xs) : W.heap[w.heap.size]? = some (.cells rs 102 (0, 0)) := h.2.1
theorem PW.size {w W : World} {rs : Array Value} {sl : Value} {k : Nat} {xs : List Value} (h : PW w W rs sl k xs) : w.heap.size + 1 <= W.heap.size := row_lt h.2.1
theorem PW.grown {w W W' : World} {rs : Array Value} {sl sl' : Value} {k k' : Nat} {xs xs' : List Value} {o : Obj} (h : PW w W rs sl k xs) (hg : (W.alloc o).grownBy W' sl.ownBlock) (ho : W'.ownsRow (w.heap.size + 1) 2 1 sl' k' xs') : PW w W' rs sl' k' xs' := by
 have hA : Below w.heap.size w (W.alloc o) := h.1.alloc h.1.size _
 have hr : (W.alloc o).heap[w.heap.size]? = some (.cells rs 102 (0, 0)) := (heap_alloc_old _ _ (row_lt h.2.1)).trans h.2.1
 refine ⟨hA.grown hg hA.size (fun k e => by have := (h.o.lt k e).1; omega), ?_, ho⟩
 exact (hg.block _ (row_lt hr) (fun e => by have := (h.o.lt _ e.symm).1; omega)).trans hr
theorem rngL_map (k : Nat) : (rngL (k + 1)).map (Value.int .i64) = (rngL k).map (Value.int .i64) ++ [.int .i64 (k : Int)] := by rw [rngL_succ, List.map_append]; rfl
set_option maxHeartbeats 1000000 in
theorem placesFor_own (veh : Int) (bi : Option Addr) (c2 m : Nat) (w : World) (h12 : m <= 12) :
   Calls Tryz.prog 114 #[.agg #[.int .i64 veh, .slice bi m c2]] w fun e w' => ∃ g c, e = .returned (.slice (some ⟨g, 0, none⟩) (m + 1) c) /\ Below w.heap.size w w' /\ IntsAt w' (some ⟨g, 0, none⟩) (rngL (m + 1)) /\ w.heap.size <= g := by
 have R0 : Hid ((w.alloc (.cells #[Value.int .i64 veh, Value.slice bi m c2] 102)).heap[w.heap.size]? = some (.cells #[Value.int .i64 veh, Value.slice bi m c2] 102 (0, 0))) := heap_alloc_new _ _
 have hwr : IntKind.i64.wrap ((m : Int) + 1) = (m : Int) + 1 := IntWalk.i64_in _ (by omega)
 go_enter Tryz.func114, Tryz.ntmps114
 obtain ⟨d0, d1⟩ := cells2 R0.out
 go_wp2_with (first
   | (refine make_room _ rfl _ _ rfl (w.heap.size + 1) _ _ ((m : Int) + 1) (m + 1) rfl rfl (by omega) (by omega) (by simp) ?_
      intro w1 hown hg
      have O1 : Hid (PW w w1 #[Value.int .i64 veh, Value.slice bi m c2] (.slice (some ⟨(w.alloc (Obj.cells #[Value.int .i64 veh, Value.slice bi m c2] 102)).heap.size, 0, none⟩) 0 (m + 1)) 0 []) := ⟨((Below.refl w.heap.size w).alloc (Nat.le_refl _) _).grown hg (by simp) (fun k e => by cases e), (hg.block _ (by simp) (by simp)).trans (heap_alloc_new _ _), hown⟩
      clear hown hg d0 d1
      obtain ⟨d0, d1⟩ := cells2 O1.out.r))
 go_loopw [3, 14] (fun sl t wr => ∃ k : Nat, k <= m + 1 /\ t = .int .i64 k /\ PW w wr #[Value.int .i64 veh, Value.slice bi m c2] sl k ((rngL k).map (Value.int .i64)) /\ sl ≠ .slice none 0 0) (fun _ t _ => m + 1 - (intOf t).toNat)
 case atStart => exact ⟨0, Nat.zero_le _, rfl, by simpa [rngL] using O1.out, by simp⟩
 case round =>
   clear O1 R0 d0 d1
   obtain ⟨k, hk, rfl, ho, hne⟩ := hrel
   have HO : Hid (PW w wr #[Value.int .i64 veh, Value.slice bi m c2] u3 k ((rngL k).map (Value.int .i64))) := ho
   clear ho
   by_cases hlt : k < m + 1
   · have hlt' : (k : Int) < (m : Int) + 1 := by omega
     have hwk : IntKind.i64.wrap ((k : Int) + 1) = ((k + 1 : Nat) : Int) := by rw [IntWalk.i64_in _ (by omega)]; omega
     have HNE : Hid (u3 ≠ .slice none 0 0) := hne
     clear hne
     go_wp2_with (first
       | (at_builtin
          refine append_int _ rfl _ _ rfl (w.heap.size + 1) u3 k _ rfl (HO.out.o.alloc _) _ _ (.int .i64 (k : Int)) rfl (cell_new1 _ _ _ _ (by simp)) rfl (by omega) (Nat.le_trans HO.out.size (by simp)) ?_
          intro v' w4 hown hg
          have NE4 : Hid (v' ≠ .slice none 0 0) := by
            intro e
            rw [e] at hown
            have hz := hown.2
            rcases hz with ⟨_, h0⟩ | ⟨_, _, _, e2, _⟩
            · simp at h0
            · cases e2
          have O4 : Hid (PW w w4 #[Value.int .i64 veh, Value.slice bi m c2] v' (k + 1) ((rngL (k + 1)).map (Value.int .i64))) := HO.out.grown hg (by rw [rngL_map]; exact hown)
          clear hown hg))
     go_roundw
     case rel => exact ⟨k + 1, by omega, by first | rfl | go_num, O4.out, NE4.out⟩
     case measure => simp [intOf]; omega
   · have hkn : k = m + 1 := by omega
     subst hkn
     have hlt' : ¬ ((m : Int) + 1 < (m : Int) + 1) := by omega
     obtain ⟨g, c, rfl⟩ : ∃ g c, u3 = .slice (some ⟨g, 0, none⟩) (m + 1) c := by
       rcases own_shape HO.out.o with h | h
       · exact absurd h hne
       · exact h
     clear hne
     go_wp2
     go_ret
     exact ⟨g, ⟨c, rfl⟩, HO.out.b, owns_ints HO.out.o, by have := (HO.out.o.lt g rfl).1; omega⟩
theorem placesFor_any (veh : Int) (bi : Option Addr) (c2 m : Nat) (w : World) (h12 : m <= 12) :
   Calls Tryz.prog 114 #[.agg #[.int .i64 veh, .slice bi m c2]] w fun e w' => ∃ g c, e = .returned (.slice (some ⟨g, 0, none⟩) (m + 1) c) /\ Below w.heap.size w w' /\ IntsAt w' (some ⟨g, 0, none⟩) (rngL (m + 1)) :=
 (placesFor_own veh bi c2 m w h12).mono fun _ _ ⟨g, c, h1, h2, h3, _⟩ => ⟨g, c, h1, h2, h3⟩
end Go.Proofs.YtcljhgildbcdmaaGreat