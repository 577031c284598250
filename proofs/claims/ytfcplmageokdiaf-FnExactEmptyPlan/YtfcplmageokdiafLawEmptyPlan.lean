import Derived.Test.YtfcplmageokdiafLawPlans
namespace Go.Proofs.Ytfcplmageokdiaf
open Go.RowKit

theorem own_type {w : World} {base size k b : Nat} {e T : TypeId} {v : Value} {xs : List Value} {cs : Array Value} (h : w.ownsRow base e size v k xs) (hv : v.ownBlock = some b) (hr : w.heap[b]? = some (.cells cs T (0, 0))) (hT : T ≠ e) : False := by
  obtain ⟨_, ⟨rfl, _⟩ | ⟨g, cap, cur, rfl, _, h4, _⟩⟩ := h
  · cases hv
  · cases hv
    rw [show w.heap[(⟨g, 0, none⟩ : Addr).block]? = w.heap[g]? from rfl, h4] at hr
    cases hr
    exact hT rfl

set_option maxHeartbeats 1000000 in
theorem lawEmptyPlan_big (n fine : Int) (a ao av : Option Addr) (lt cap ko co kv cv : Nat) (w : World) (hlt : lt ≤ 9223372036854775807) (hko : ko ≤ 9223372036854775807) (hkv : kv ≤ 9223372036854775807) (h : ¬ (lt + ko + kv ≤ 1048576)) :
    Calls Try.prog 3 #[.agg #[.int .i64 n, .slice a lt cap, .slice ao ko co, .slice av kv cv, .int .i64 fine]] w fun e w' => e = .returned (.bool true) ∧ Below w.heap.size w w' := by
  have HS : Hid (szV 1048576 lt ko kv = -1) := szV_neg h
  clear h
  go_enter Try.func3, Try.ntmps3
  go_wp2_with fail
  refine (szCase_any n fine 1048576 a ao av lt cap ko co kv cv _ (by omega) (by omega) hlt hko hkv).mono ?_
  rintro e w1 ⟨rfl, hb⟩
  rw [HS.out]
  obtain ⟨b1, r1⟩ := box5 hb
  clear hb r1
  go_wp2
  go_ret
  exact ⟨rfl, b1⟩

set_option maxHeartbeats 8000000 in
theorem lawEmptyPlan (n fine : Int) (a ao av : Option Addr) (cap ko co kv cv : Nat) (zs os vs : List Int) (w : World) (hA : IntsAt w a zs) (hO : IntsAt w ao os) (hV : IntsAt w av vs) (hlo : os.length = ko * 6) (hlv : vs.length = kv * 5) (hsm : zs.length + ko + kv ≤ 1048576) :
    Calls Try.prog 3 #[.agg #[.int .i64 n, .slice a zs.length cap, .slice ao ko co, .slice av kv cv, .int .i64 fine]] w fun e w' => e = .returned (.bool true) ∧ Below w.heap.size w w' := by
  have HA : Hid (IntsAt w a zs) := hA
  have HO : Hid (IntsAt w ao os) := hO
  have HV : Hid (IntsAt w av vs) := hV
  have HLO : Hid _ := hlo
  have HLV : Hid _ := hlv
  clear hA hO hV hlo hlv
  have HSZ : Hid (szV 1048576 zs.length ko kv = 1048576 - zs.length - ko - kv) := szV_pos hsm
  have hs1 : zs.length ≤ 1048576 := by omega
  have hs2 : ko ≤ 1048576 := by omega
  have hs3 : kv ≤ 1048576 := by omega
  obtain ⟨cb, HCB⟩ : ∃ t, Hid (caseB n zs os vs ko kv fine = t) := ⟨_, rfl⟩
  obtain ⟨K, HKK⟩ : ∃ t, Hid ((if cb = true then ko else 0) = t) := ⟨_, rfl⟩
  obtain ⟨X, HXX⟩ : ∃ t, Hid ((if cb = true then idsL os ko else []) = t) := ⟨_, rfl⟩
  have hK12 : K ≤ 12 := by
    rw [← HKK.out]
    cases cb
    · simp
    · simpa using (ordsB_true (caseB_ords HCB.out)).1
  go_enter Try.func3, Try.ntmps3
  go_wp2_with fail
  refine (szCase_any n fine 1048576 a ao av zs.length cap ko co kv cv _ (by omega) (by omega) (by omega) (by omega) (by omega)).mono ?_
  rintro e w1 ⟨rfl, hb⟩
  rw [HSZ.out]
  obtain ⟨b1, r1⟩ := box5 hb
  obtain ⟨c0, c1, c2, c3, c4⟩ := cells5 r1
  have B1 : Hid (Below w.heap.size w w1) := b1
  have R1 : Hid (w1.heap[w.heap.size]? = _) := r1
  clear hb b1 r1
  have hle : (0 : Int) ≤ 1048576 - zs.length - ko - kv := by omega
  go_wp2_with fail
  clear c0 c1 c2 c3 c4
  refine (toCase_any n fine a ao av cap ko co kv cv zs os vs _ (HA.out.below B1.out) (HO.out.below B1.out) (HV.out.below B1.out) HLO.out HLV.out hs1 hs2 hs3).mono ?_
  rintro e w2 ⟨g2, go2, gv2, _, _, _, rfl, hb, hg⟩
  obtain ⟨b2, r2⟩ := box_more hb B1.out R1.out
  have B2 : Hid (Below w.heap.size w w2) := b2
  have R2 : Hid (w2.heap[w.heap.size]? = _) := r2
  have C2 : Hid (CaseAt w2 g2 go2 gv2 zs os vs) := hg
  clear hb hg b2 r2 B1 R1
  go_wp2_with fail
  refine (specEmpty_any n fine _ _ _ _ _ _ _ _ zs os vs w2 C2.out.t C2.out.o C2.out.v HLO.out HLV.out (by omega) (by omega) cb K X HCB.out HKK.out HXX.out).mono ?_
  intro e w3 hq
  obtain ⟨ad0, c0, rfl, hb, ho⟩ := empty_u hq
  have B3 : Hid (Below w.heap.size w (w3.alloc (Obj.cells #[Value.slice none 0 0, Value.slice ad0 K c0] 32))) := (B2.out.trans (hb.mono B2.out.size)).alloc (Nat.le_trans B2.out.size hb.size) _
  have R3 : Hid ((w3.alloc (Obj.cells #[Value.slice none 0 0, Value.slice ad0 K c0] 32)).heap[w.heap.size]? = _) := (heap_alloc_old _ _ (row_lt (below_row hb (row_lt R2.out) R2.out))).trans (below_row hb (row_lt R2.out) R2.out)
  have V3 : Hid ((w3.alloc (Obj.cells #[Value.slice none 0 0, Value.slice ad0 K c0] 32)).heap[w3.heap.size]? = _) := heap_alloc_new _ _
  have O3 : Hid ((w3.alloc (Obj.cells #[Value.slice none 0 0, Value.slice ad0 K c0] 32)).ownsRow w2.heap.size 2 1 (.slice ad0 K c0) K _) := ho.alloc _
  clear hq hb ho B2 R2 C2
  obtain ⟨q0, q1, q2, q3, q4⟩ := cells5 R3.out
  go_wp2_with fail
  clear q0 q1 q2 q3 q4
  generalize w3.alloc (Obj.cells #[Value.slice none 0 0, Value.slice ad0 K c0] 32) = W3 at *
  generalize w3.heap.size = bw at *
  generalize w2.heap.size = b2 at *
  refine (toCase_any n fine a ao av cap ko co kv cv zs os vs _ (HA.out.below B3.out) (HO.out.below B3.out) (HV.out.below B3.out) HLO.out HLV.out hs1 hs2 hs3).mono ?_
  rintro e w7 ⟨g7, go7, gv7, hl1, hl2, hl3, rfl, hb, hg⟩
  have L7 : Hid (W3.heap.size ≤ g7 ∧ W3.heap.size ≤ go7 ∧ W3.heap.size ≤ gv7) := ⟨hl1, hl2, hl3⟩
  have Z7 : Hid (Below W3.heap.size W3 (w7.alloc (Obj.cells #[Value.int IntKind.i64 n, Value.slice (some ⟨g7, 0, none⟩) zs.length zs.length, Value.slice (some ⟨go7, 0, none⟩) ko ko, Value.slice (some ⟨gv7, 0, none⟩) kv kv, Value.int IntKind.i64 fine] 39))) := hb.alloc hb.size _
  have X7 : Hid ((w7.alloc (Obj.cells #[Value.int IntKind.i64 n, Value.slice (some ⟨g7, 0, none⟩) zs.length zs.length, Value.slice (some ⟨go7, 0, none⟩) ko ko, Value.slice (some ⟨gv7, 0, none⟩) kv kv, Value.int IntKind.i64 fine] 39)).heap[w7.heap.size]? = _) := heap_alloc_new _ _
  have C7 : Hid (CaseAt (w7.alloc (Obj.cells #[Value.int IntKind.i64 n, Value.slice (some ⟨g7, 0, none⟩) zs.length zs.length, Value.slice (some ⟨go7, 0, none⟩) ko ko, Value.slice (some ⟨gv7, 0, none⟩) kv kv, Value.int IntKind.i64 fine] 39)) g7 go7 gv7 zs os vs) := hg.below ((Below.refl _ _).alloc (Nat.le_refl _) _)
  clear hb hg hl1 hl2 hl3
  obtain ⟨x0, x1, x2, x3, x4⟩ := cells5 X7.out
  go_wp2_with fail
  clear x0 x1 x2 x3 x4
  generalize w7.alloc (Obj.cells #[Value.int IntKind.i64 n, Value.slice (some ⟨g7, 0, none⟩) zs.length zs.length, Value.slice (some ⟨go7, 0, none⟩) ko ko, Value.slice (some ⟨gv7, 0, none⟩) kv kv, Value.int IntKind.i64 fine] 39) = W7 at *
  generalize w7.heap.size = bx at *
  refine (implEmpty_any n fine _ _ _ _ _ _ _ _ zs os vs W7 C7.out.t C7.out.o C7.out.v HLO.out HLV.out (by omega) (by omega) cb K X HCB.out HKK.out HXX.out).mono ?_
  intro e w8 hq
  obtain ⟨ad, c, rfl, hb', ho⟩ := empty_u hq
  have hb : Below W7.heap.size W7 (w8.alloc (Obj.cells #[Value.slice none 0 0, Value.slice ad K c] 32)) := hb'.alloc hb'.size _
  have Z9 : Hid (Below W3.heap.size W3 (w8.alloc (Obj.cells #[Value.slice none 0 0, Value.slice ad K c] 32))) := Z7.out.trans (Below.mono hb Z7.out.size)
  have X9 : Hid ((w8.alloc (Obj.cells #[Value.slice none 0 0, Value.slice ad K c] 32)).heap[bx]? = _) := below_row hb (row_lt X7.out) X7.out
  have G9 : Hid ((w8.alloc (Obj.cells #[Value.slice none 0 0, Value.slice ad K c] 32)).heap[w8.heap.size]? = _) := heap_alloc_new _ _
  have C9 : Hid (CaseAt (w8.alloc (Obj.cells #[Value.slice none 0 0, Value.slice ad K c] 32)) g7 go7 gv7 zs os vs) := C7.out.below hb
  have O9 : Hid ((w8.alloc (Obj.cells #[Value.slice none 0 0, Value.slice ad K c] 32)).ownsRow W7.heap.size 2 1 (.slice ad K c) K _) := ho.alloc _
  have U7 : Hid (g7 < W7.heap.size ∧ go7 < W7.heap.size ∧ gv7 < W7.heap.size ∧ W3.heap.size ≤ W7.heap.size) := ⟨row_lt C7.out.1, row_lt C7.out.2.1, row_lt C7.out.2.2, Z7.out.size⟩
  clear hq hb hb' ho Z7 X7 C7
  have hcc : (cb != cb) = false := by simp
  have VA : Hid ((w8.alloc (Obj.cells #[Value.slice none 0 0, Value.slice ad K c] 32)).heap[bw]? = _) := below_row Z9.out (row_lt V3.out) V3.out
  obtain ⟨y0, y1⟩ := cells2 G9.out
  obtain ⟨z0, z1⟩ := cells2 VA.out
  go_wp2_with fail
  clear y0 y1 z0 z1 VA
  generalize w8.alloc (Obj.cells #[Value.slice none 0 0, Value.slice ad K c] 32) = w9 at *
  generalize w8.heap.size = bg at *
  generalize W7.heap.size = b7 at *
  refine (eqPlan_u ad ad0 K c c0 b7 b2 X w9 O9.out (owns_below O3.out Z9.out) (by omega)).mono ?_
  rintro e w10 ⟨rfl, hb⟩
  have Z10 : Hid (Below W3.heap.size W3 w10) := Z9.out.trans (Below.mono hb Z9.out.size)
  have X10 : Hid (w10.heap[bx]? = _) := below_row hb (row_lt X9.out) X9.out
  have G10 : Hid (w10.heap[bg]? = _) := below_row hb (row_lt G9.out) G9.out
  have C10 : Hid (CaseAt w10 g7 go7 gv7 zs os vs) := C9.out.below hb
  have O10 : Hid (w10.ownsRow b7 2 1 (.slice ad K c) K _) := owns_below O9.out hb
  clear Z9 X9 G9 C9 O9
  clear hb
  have R10 : Hid (w10.heap[w.heap.size]? = _) := below_row Z10.out (row_lt R3.out) R3.out
  have B10 : Hid (Below w.heap.size w w10) := B3.out.trans (Z10.out.mono B3.out.size)
  obtain ⟨c0', c1', c2', c3', c4'⟩ := cells5 R10.out
  obtain ⟨x0, x1, x2, x3, x4⟩ := cells5 X10.out
  go_wp2_with fail
  go_region_held3 (fun W => (W.cell? ⟨w.heap.size, 0, none⟩ = some (.int .i64 n) ∧ W.cell? ⟨w.heap.size, 1, none⟩ = some (.slice a zs.length cap) ∧ W.cell? ⟨w.heap.size, 2, none⟩ = some (.slice ao ko co) ∧ W.cell? ⟨w.heap.size, 3, none⟩ = some (.slice av kv cv) ∧ W.cell? ⟨w.heap.size, 4, none⟩ = some (.int .i64 fine)) ∧ W.cell? ⟨bx, 0, none⟩ = some (.int .i64 n) ∧ W.cell? ⟨bx, 1, none⟩ = some (.slice (some ⟨g7, 0, none⟩) zs.length zs.length) ∧ W.cell? ⟨bx, 2, none⟩ = some (.slice (some ⟨go7, 0, none⟩) ko ko) ∧ W.cell? ⟨bx, 3, none⟩ = some (.slice (some ⟨gv7, 0, none⟩) kv kv) ∧ W.cell? ⟨bx, 4, none⟩ = some (.int .i64 fine)) (first | with_reducible exact kS | go_keep) ((first
  | (go_at_call 8
     with_reducible refine (toCase_any n fine a ao av cap ko co kv cv zs os vs w10.drew (HA.out.below B10.out.drew) (HO.out.below B10.out.drew) (HV.out.below B10.out.drew) HLO.out HLV.out hs1 hs2 hs3).mono ?_
     rintro e w12 ⟨g12, go12, gv12, _, _, _, rfl, hb', hg⟩
     have hb := (Below.refl w10.heap.size w10).drew.trans (hb'.mono (Nat.le_refl _))
     have Z12 : Hid (Below W3.heap.size W3 w12) := Z10.out.trans (Below.mono hb Z10.out.size)
     have X12 : Hid (w12.heap[bx]? = _) := below_row hb (row_lt X10.out) X10.out
     have G12 : Hid (w12.heap[bg]? = _) := below_row hb (row_lt G10.out) G10.out
     have C12 : Hid (CaseAt w12 g7 go7 gv7 zs os vs) := C10.out.below hb
     have O12 : Hid (w12.ownsRow b7 2 1 (.slice ad K c) K _) := owns_below O10.out hb
     have D12 : Hid (CaseAt w12 g12 go12 gv12 zs os vs) := hg
     have kS := And.intro (cells5 (below_row hb (row_lt R10.out) R10.out)) (cells5 X12.out)
     clear hb hb' hg)
  | (go_at_call 11
     with_reducible refine (eqCase_same n fine _ _ _ _ _ _ _ _ _ _ _ _ _ _ zs os vs w12 C12.out.t C12.out.o C12.out.v D12.out.t D12.out.o D12.out.v HLO.out HLV.out (by omega) (by omega) (by omega)).mono ?_
     rintro e w13 ⟨rfl, hb⟩
     have Z13 : Hid (Below W3.heap.size W3 w13) := Z12.out.trans (Below.mono hb Z12.out.size)
     have X13 : Hid (w13.heap[bx]? = _) := below_row hb (row_lt X12.out) X12.out
     have G13 : Hid (w13.heap[bg]? = _) := below_row hb (row_lt G12.out) G12.out
     have C13 : Hid (CaseAt w13 g7 go7 gv7 zs os vs) := C12.out.below hb
     have O13 : Hid (w13.ownsRow b7 2 1 (.slice ad K c) K _) := owns_below O12.out hb
     have kS := And.intro (cells5 (below_row Z13.out (row_lt R3.out) R3.out)) (cells5 X13.out)
     clear hb)))
  all_goals
    clear c0' c1' c2' c3' c4' x0 x1 x2 x3 x4 kS R10 B10 D12
    clear Z10 X10 G10 C10 O10
    clear Z12 X12 G12 C12 O12
    have N1 : Hid (¬ (bg = g7 ∨ bg = go7 ∨ bg = gv7)) := fun h => by
      rcases h with h | h | h
      · exact type_ne G13.out C13.out.1 (by decide) h
      · exact type_ne G13.out C13.out.2.1 (by decide) h
      · exact type_ne G13.out C13.out.2.2 (by decide) h
    obtain ⟨x0, x1, x2, x3, x4⟩ := cells5 X13.out
    go_wp2_with fail
    clear x0 x1 x2 x3 x4
    refine (markCase_any n fine g7 go7 gv7 _ ko _ kv _ zs os vs w13 C13.out HLO.out HLV.out hs1 hs2 hs3).mono ?_
    rintro e w14 ⟨kk, rfl, hk1, hk2, hg⟩
    have Z14 : Hid (Below W3.heap.size W3 w14) := Z13.out.trans (hg.below Z13.out.size (fun b h => by have h9 := L7.out; rcases h with h | h | h <;> omega))
    have G14 : Hid (w14.heap[bg]? = _) := hg.row G13.out N1.out
    have O14 : Hid (w14.ownsRow b7 2 1 (.slice ad K c) K _) := hg.owns O13.out (fun b h => by have h9 := U7.out; rcases h with h | h | h <;> omega)
    clear hg N1
    clear Z13 X13 G13 C13 O13
    have V14 : Hid (w14.heap[bw]? = _) := below_row Z14.out (row_lt V3.out) V3.out
    obtain ⟨y0, y1⟩ := cells2 G14.out
    obtain ⟨z0, z1⟩ := cells2 V14.out
    go_wp2_with (first | (go_at_call 10; refine (eqPlan_u ad ad0 K c c0 b7 b2 X w14 O14.out (owns_below O3.out Z14.out) (by omega)).mono ?_; rintro e w15 ⟨rfl, hb⟩; have Z15 : Hid (Below W3.heap.size W3 w15) := Z14.out.trans (Below.mono hb Z14.out.size); have G15 : Hid (w15.heap[bg]? = _) := below_row hb (row_lt G14.out) G14.out; have O15 : Hid (w15.ownsRow b7 2 1 (.slice ad K c) K _) := owns_below O14.out hb; obtain ⟨t0, t1⟩ := cells2 G15.out; clear hb))
    clear y0 y1 z0 z1 V14
    try go_wp2_with fail
    clear t0 t1
    refine (markPlan_u ad K c b7 X w15 O15.out (by omega)).mono ?_
    rintro e w16 ⟨rfl, hg, hm⟩
    have Z16 : Hid (Below W3.heap.size W3 w16) := Z15.out.trans (hg.below Z15.out.size (fun b h => by have h9 := (O15.out.lt _ h).1; have h8 := U7.out; omega))
    have G16 : Hid (w16.heap[bg]? = _) := hg.row G15.out (fun h => own_type O15.out h G15.out (by decide))
    have M16 : Hid (Marked1 w16 ad K) := hm
    clear hg hm Z14 G14 O14 Z15 G15 O15
    obtain ⟨q, HQ⟩ : ∃ t, Hid ((1 : Int) + (K : Int) = t) := ⟨_, rfl⟩
    have hq : 0 ≤ q := by have := HQ.out; omega
    rw [HQ.out]
    obtain ⟨y0, y1⟩ := cells2 G16.out
    go_wp2_with fail
    clear y0 y1
    refine (heldPlan_u ad K c w16 M16.out (by omega)).mono ?_
    rintro e w17 ⟨rfl, hb⟩
    rw [HQ.out]
    have Z17 : Hid (Below W3.heap.size W3 w17) := Z16.out.trans (Below.mono hb Z16.out.size)
    have G17 : Hid (w17.heap[bg]? = _) := below_row hb (row_lt G16.out) G16.out
    have M17 : Hid (Marked1 w17 ad K) := M16.out.below hb
    have R17 : Hid (w17.heap[w.heap.size]? = _) := below_row Z17.out (row_lt R3.out) R3.out
    have B17 : Hid (Below w.heap.size w w17) := B3.out.trans (Z17.out.mono B3.out.size)
    clear hb Z16 G16 M16
    have hqq : (q != q) = false := by simp
    obtain ⟨c0', c1', c2', c3', c4'⟩ := cells5 R17.out
    go_wp2_with fail
    clear c0' c1' c2' c3' c4'
    refine (toCase_any n fine a ao av cap ko co kv cv zs os vs _ (HA.out.below B17.out) (HO.out.below B17.out) (HV.out.below B17.out) HLO.out HLV.out hs1 hs2 hs3).mono ?_
    rintro e w18 ⟨g18, go18, gv18, _, _, _, rfl, hb, hg⟩
    have Z18 : Hid (Below W3.heap.size W3 w18) := Z17.out.trans (Below.mono hb Z17.out.size)
    have G18 : Hid (w18.heap[bg]? = _) := below_row hb (row_lt G17.out) G17.out
    have M18 : Hid (Marked1 w18 ad K) := M17.out.below hb
    have C18 : Hid (CaseAt w18 g18 go18 gv18 zs os vs) := hg
    clear hb hg Z17 G17 M17 R17 B17
    go_wp2_with fail
    refine (implEmpty_any n fine _ _ _ _ _ _ _ _ zs os vs w18 C18.out.t C18.out.o C18.out.v HLO.out HLV.out (by omega) (by omega) cb K X HCB.out HKK.out HXX.out).mono ?_
    intro e w19 hqx
    obtain ⟨ad3, c3, rfl, hb', ho⟩ := empty_u hqx
    have hb : Below w18.heap.size w18 (w19.alloc (Obj.cells #[Value.slice none 0 0, Value.slice ad3 K c3] 32)) := hb'.alloc hb'.size _
    have Z19 : Hid (Below W3.heap.size W3 (w19.alloc (Obj.cells #[Value.slice none 0 0, Value.slice ad3 K c3] 32))) := Z18.out.trans (Below.mono hb Z18.out.size)
    have G19 : Hid ((w19.alloc (Obj.cells #[Value.slice none 0 0, Value.slice ad3 K c3] 32)).heap[bg]? = _) := below_row hb (row_lt G18.out) G18.out
    have M19 : Hid (Marked1 (w19.alloc (Obj.cells #[Value.slice none 0 0, Value.slice ad3 K c3] 32)) ad K) := M18.out.below hb
    have H19 : Hid ((w19.alloc (Obj.cells #[Value.slice none 0 0, Value.slice ad3 K c3] 32)).heap[w19.heap.size]? = _) := heap_alloc_new _ _
    have O19 : Hid ((w19.alloc (Obj.cells #[Value.slice none 0 0, Value.slice ad3 K c3] 32)).ownsRow w18.heap.size 2 1 (.slice ad3 K c3) K _) := ho.alloc _
    have V19 : Hid ((w19.alloc (Obj.cells #[Value.slice none 0 0, Value.slice ad3 K c3] 32)).heap[bw]? = _) := below_row Z19.out (row_lt V3.out) V3.out
    clear hqx hb hb' ho Z18 G18 M18 C18
    obtain ⟨y0, y1⟩ := cells2 H19.out
    obtain ⟨z0, z1⟩ := cells2 V19.out
    go_wp2_with fail
    clear y0 y1 z0 z1
    refine (eqPlan_u ad3 ad0 K c3 c0 _ b2 X _ O19.out (owns_below O3.out Z19.out) (by omega)).mono ?_
    rintro e w20 ⟨rfl, hb⟩
    have Z20 : Hid (Below W3.heap.size W3 w20) := Z19.out.trans (Below.mono hb Z19.out.size)
    have G20 : Hid (w20.heap[bg]? = _) := below_row hb (row_lt G19.out) G19.out
    have M20 : Hid (Marked1 w20 ad K) := M19.out.below hb
    clear hb Z19 G19 M19 H19 O19 V19
    obtain ⟨y0, y1⟩ := cells2 G20.out
    go_wp2_with fail
    clear y0 y1
    refine (heldPlan_u ad K c w20 M20.out (by omega)).mono ?_
    rintro e w21 ⟨rfl, hb⟩
    rw [HQ.out]
    have Z21 : Hid (Below W3.heap.size W3 w21) := Z20.out.trans (Below.mono hb Z20.out.size)
    clear hb
    go_wp2
    go_ret
    exact ⟨rfl, B3.out.trans (Z21.out.mono B3.out.size)⟩

end Go.Proofs.Ytfcplmageokdiaf
