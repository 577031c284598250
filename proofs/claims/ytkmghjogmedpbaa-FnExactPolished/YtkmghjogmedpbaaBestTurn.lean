import Derived.Test.YtkmghjogmedpbaaPack7
import Derived.Test.YtkmghjogmedpbaaPack14
namespace Go.Proofs.Ytkmghjogmedpbaa
open Go.RowKit

set_option maxHeartbeats 2000000 in
theorem bestOne_any (n fine veh : Int) (a ao av bi : Option Addr) (cap ko co kv cv c2 : Nat) (zs os vs ids : List Int) (w : World) (hA : IntsAt w a zs) (hO : IntsAt w ao os) (hV : IntsAt w av vs) (hI : IntsAt w bi ids) (hlo : os.length = ko * 6) (hlv : vs.length = kv * 5) (hko : ko ≤ 9223372036854775807) (hkv : kv ≤ 9223372036854775807) (hli : ids.length ≤ 9223372036854775807) (hc2 : ids.length ≤ c2) (hcB : caseB n zs os vs ko kv fine = true) (pc pm pt : Nat) (hpc : w.heap[pc]? = some (.cells #[Value.int IntKind.i64 n, Value.slice a zs.length cap, Value.slice ao ko co, Value.slice av kv cv, Value.int IntKind.i64 fine] 40 (0, 0))) (hpm : w.heap[pm]? = some (.cells #[Value.func (.func 82) #[] #[], Value.func (.func 83) #[] #[.pointer (some ⟨pc, 0, none⟩)]] 96 (0, 0))) (hpt : w.heap[pt]? = some (.cells #[Value.int IntKind.i64 veh, Value.slice bi ids.length c2] 33 (0, 0))) (i j : Nat) :
    Calls Try.prog 85 #[.agg #[.int .i64 (i : Int), .int .i64 (j : Int)], .pointer (some ⟨pm, 0, none⟩), .pointer (some ⟨pt, 0, none⟩)] w fun e w' => e = .returned (.tuple #[.int .i64 (trD true n zs os vs ko kv veh ids i j), .bool (trB true n zs os vs ko kv veh ids i j && decide (trD true n zs os vs ko kv veh ids i j < 0))]) ∧ Below w.heap.size w w' := by
  have HA : Hid (IntsAt w a zs) := hA
  have HO : Hid (IntsAt w ao os) := hO
  have HV : Hid (IntsAt w av vs) := hV
  have HI : Hid (IntsAt w bi ids) := hI
  have HLO : Hid _ := hlo
  have HLV : Hid _ := hlv
  clear hA hO hV hI hlo hlv
  have HC : Hid (caseB n zs os vs ko kv fine = true) := hcB
  clear hcB
  have B0 : Hid (Below w.heap.size w (w.alloc (.cells #[Value.int IntKind.i64 i, Value.int IntKind.i64 j] 91))) := (Below.refl _ _).alloc (Nat.le_refl _) _
  have N0 : Hid ((w.alloc (.cells #[Value.int IntKind.i64 i, Value.int IntKind.i64 j] 91)).heap[w.heap.size]? = some (.cells #[Value.int IntKind.i64 i, Value.int IntKind.i64 j] 91 (0, 0))) := heap_alloc_new _ _
  have PC : Hid ((w.alloc (.cells #[Value.int IntKind.i64 i, Value.int IntKind.i64 j] 91)).heap[pc]? = some (.cells #[Value.int IntKind.i64 n, Value.slice a zs.length cap, Value.slice ao ko co, Value.slice av kv cv, Value.int IntKind.i64 fine] 40 (0, 0))) := below_row B0.out (row_lt hpc) hpc
  have hpm1 := below_row B0.out (row_lt hpm) hpm
  have hpt1 := below_row B0.out (row_lt hpt) hpt
  clear hpc hpm hpt
  obtain ⟨ch, HCH⟩ : ∃ t, Hid (trB true n zs os vs ko kv veh ids i j = t) := ⟨_, rfl⟩
  obtain ⟨D, HDD⟩ : ∃ t, Hid (trD true n zs os vs ko kv veh ids i j = t) := ⟨_, rfl⟩
  obtain ⟨xs, HXX⟩ : ∃ t, Hid (chL ch (revL ids i j) = t) := ⟨_, rfl⟩
  rw [HCH.out, HDD.out]
  go_enter Try.func85, Try.ntmps85
  obtain ⟨m0, m1⟩ := cells2 hpm1
  obtain ⟨r0, r1⟩ := cells2 hpt1
  obtain ⟨n0, n1⟩ := cells2 N0.out
  go_wp2_with fail
  clear m0 m1 r0 r1 n0 n1
  refine (turns1_any n fine veh a ao av bi cap ko co kv cv c2 zs os vs ids _ (HA.out.below B0.out) (HO.out.below B0.out) (HV.out.below B0.out) (HI.out.below B0.out) HLO.out HLV.out hko hkv hli hc2 HC.out pc PC.out (i : Int) (j : Int) ch HCH.out D (by rw [← HDD.out, ← HCH.out]; rfl) xs HXX.out).mono ?_
  rintro e w2 ⟨hb, ad, c, rfl, _⟩
  obtain ⟨vv, HVV⟩ : ∃ t, Hid (chI ch veh = t) := ⟨_, rfl⟩
  rw [HVV.out]
  have B2 : Hid (Below w.heap.size w (w2.alloc (.cells #[Value.int IntKind.i64 vv, Value.slice ad xs.length c] 33))) := (B0.out.trans (hb.mono B0.out.size)).alloc (Nat.le_trans B0.out.size hb.size) _
  clear hb hpm1 hpt1
  cases ch
  · go_wp2
    go_ret2
    exact ⟨rfl, B2.out⟩
  · go_wp2
    go_ret2
    exact ⟨by simp, B2.out⟩

/-- The moves' box, the route's box, the answer's box. -/
def MB (w W : World) (ms rs : Array Value) : Prop := Below w.heap.size w W ∧ W.heap[w.heap.size]? = some (.cells ms 96 (0, 0)) ∧ W.heap[w.heap.size + 1]? = some (.cells rs 33 (0, 0)) ∧ W.heap[w.heap.size + 2]? = some (.cells #[Value.int IntKind.i64 0, Value.int IntKind.i64 0] 91 (0, 0))
theorem MB.new (w : World) (ms rs : Array Value) : MB w (((w.alloc (.cells ms 96)).alloc (.cells rs 33)).alloc (.cells #[Value.int IntKind.i64 0, Value.int IntKind.i64 0] 91)) ms rs := by
  refine ⟨(((Below.refl _ _).alloc (Nat.le_refl _) _).alloc (by simp) _).alloc (by simp; omega) _, ?_, ?_, ?_⟩
  · exact (heap_alloc_old _ _ (by simp; omega)).trans (heap_alloc2_old _ _ _)
  · exact (heap_alloc_old _ _ (by simp)).trans (heap_alloc2_new _ _ _)
  · have := heap_alloc_new ((w.alloc (.cells ms 96)).alloc (.cells rs 33)) (.cells #[Value.int IntKind.i64 0, Value.int IntKind.i64 0] 91)
    simpa using this
theorem MB.below {w W W' : World} {ms rs : Array Value} (h : MB w W ms rs) (hb : Below W.heap.size W W') : MB w W' ms rs := ⟨h.1.trans (hb.mono h.1.size), below_row hb (row_lt h.2.1) h.2.1, below_row hb (row_lt h.2.2.1) h.2.2.1, below_row hb (row_lt h.2.2.2) h.2.2.2⟩
theorem MB.b {w W : World} {ms rs : Array Value} (h : MB w W ms rs) : Below w.heap.size w W := h.1
theorem own_flat {w : World} {base n : Nat} {e : TypeId} {sl : Value} {ps : List (Nat × Nat)} (h : w.ownsRow base e 2 sl n ((flatP ps).map (Value.int .i64))) : ∃ ad c, sl = .slice ad n c ∧ IntsAt w ad (flatP ps) := by
  obtain ⟨h1, ⟨rfl, h2⟩ | ⟨g, cap, cur, rfl, h3, h4, h5⟩⟩ := id h
  · subst h2
    have hl : (flatP ps).length = 0 := by simpa using h1
    exact ⟨none, 0, rfl, fun j hj => by omega⟩
  · exact ⟨_, _, rfl, owns_ints h⟩

set_option maxHeartbeats 2000000 in
theorem best_any (n fine veh : Int) (a ao av bi : Option Addr) (cap ko co kv cv c2 : Nat) (zs os vs ids : List Int) (w : World) (hA : IntsAt w a zs) (hO : IntsAt w ao os) (hV : IntsAt w av vs) (hI : IntsAt w bi ids) (hlo : os.length = ko * 6) (hlv : vs.length = kv * 5) (hko : ko ≤ 9223372036854775807) (hkv : kv ≤ 9223372036854775807) (hli : ids.length ≤ 9223372036854775807) (hc2 : ids.length ≤ c2) (hcB : caseB n zs os vs ko kv fine = true) (h12 : ids.length ≤ 12) (pc : Nat) (hpc : w.heap[pc]? = some (.cells #[Value.int IntKind.i64 n, Value.slice a zs.length cap, Value.slice ao ko co, Value.slice av kv cv, Value.int IntKind.i64 fine] 40 (0, 0))) (s0 : BS) (hs0 : bst (trB true n zs os vs ko kv veh ids) (trD true n zs os vs ko kv veh ids) (prsTo ids.length ids.length) = s0) :
    Calls Try.prog 60 #[.agg #[Value.func (.func 82) #[] #[], Value.func (.func 83) #[] #[.pointer (some ⟨pc, 0, none⟩)]], .agg #[.int .i64 veh, .slice bi ids.length c2]] w fun e w' => e = .returned (.tuple #[.agg #[.int .i64 (s0.i : Int), .int .i64 (s0.j : Int)], .int .i64 s0.v, .bool s0.f]) ∧ Below w.heap.size w w' := by
  have HA : Hid (IntsAt w a zs) := hA
  have HO : Hid (IntsAt w ao os) := hO
  have HV : Hid (IntsAt w av vs) := hV
  have HI : Hid (IntsAt w bi ids) := hI
  have HLO : Hid _ := hlo
  have HLV : Hid _ := hlv
  clear hA hO hV hI hlo hlv
  have HC : Hid (caseB n zs os vs ko kv fine = true) := hcB
  have HS0 : Hid (bst (trB true n zs os vs ko kv veh ids) (trD true n zs os vs ko kv veh ids) (prsTo ids.length ids.length) = s0) := hs0
  clear hcB hs0
  have hmf : ∀ (fn : Fn) (first cap : Array Value) (w : World), (Instr.makeFunc fn first cap).run Try.prog w = .ok (.func fn first cap) w := fun _ _ _ _ => rfl
  have C0 : Hid (MB w (((w.alloc (.cells #[Value.func (.func 82) #[] #[], Value.func (.func 83) #[] #[.pointer (some ⟨pc, 0, none⟩)]] 96)).alloc (.cells #[Value.int IntKind.i64 veh, Value.slice bi ids.length c2] 33)).alloc (.cells #[Value.int IntKind.i64 0, Value.int IntKind.i64 0] 91)) #[Value.func (.func 82) #[] #[], Value.func (.func 83) #[] #[.pointer (some ⟨pc, 0, none⟩)]] #[Value.int IntKind.i64 veh, Value.slice bi ids.length c2]) := MB.new w _ _
  have PC : Hid (w.heap[pc]? = _) := hpc
  clear hpc
  go_enter Try.func60, Try.ntmps60
  obtain ⟨m0, m1⟩ := cells2 C0.out.2.1
  obtain ⟨r0, r1⟩ := cells2 C0.out.2.2.1
  go_wp2_with fail
  clear m0 m1 r0 r1
  refine (turnsOf_any veh bi c2 ids.length _ h12).mono ?_
  rintro e w1 ⟨sl, rfl, hb, ho⟩
  obtain ⟨ad, c, rfl, hflat⟩ := own_flat ho
  have C1 : Hid (MB w w1 #[Value.func (.func 82) #[] #[], Value.func (.func 83) #[] #[.pointer (some ⟨pc, 0, none⟩)]] #[Value.int IntKind.i64 veh, Value.slice bi ids.length c2]) := C0.out.below hb
  have FL : Hid (IntsAt w1 ad (flatP (prsTo ids.length ids.length))) := hflat
  clear hb ho hflat C0
  have hlen : (prsTo ids.length ids.length).length ≤ 1000 := by
    have h := prsTo_len ids.length ids.length
    have h2 : ids.length * ids.length ≤ 12 * 12 := Nat.mul_le_mul h12 h12
    omega
  go_wp2_with fail
  refine (leastTurn_any ad c w.heap.size (w.heap.size + 1) (prsTo ids.length ids.length) (trB true n zs os vs ko kv veh ids) (trD true n zs os vs ko kv veh ids) w1 FL.out hlen (fun W i j hW => ?_) (fun i j => (trD_bd (caseB_parts HC.out).1 os vs ko kv veh ids i j).1) s0 HS0.out).mono ?_
  · have hB := C1.out.b.trans (hW.mono C1.out.b.size)
    exact bestOne_any n fine veh a ao av bi cap ko co kv cv c2 zs os vs ids W (HA.out.below hB) (HO.out.below hB) (HV.out.below hB) (HI.out.below hB) HLO.out HLV.out hko hkv hli hc2 HC.out pc w.heap.size (w.heap.size + 1) (below_row hB (row_lt PC.out) PC.out) (below_row hW (row_lt C1.out.2.1) C1.out.2.1) (below_row hW (row_lt C1.out.2.2.1) C1.out.2.2.1) i j
  rintro e w2 ⟨rfl, hb⟩
  have C2 : Hid (MB w w2 #[Value.func (.func 82) #[] #[], Value.func (.func 83) #[] #[.pointer (some ⟨pc, 0, none⟩)]] #[Value.int IntKind.i64 veh, Value.slice bi ids.length c2]) := C1.out.below hb
  clear hb C1 FL
  obtain ⟨sf, si, sj, sv⟩ := s0
  simp only
  obtain ⟨t0, t1⟩ := cells2 C2.out.2.2.2
  have tf := fun i => frozen_of_row _ _ i _ _ C2.out.2.2.2
  go_wp2
  refine bodyPost_ret (v := .tuple #[.agg #[.int .i64 si, .int .i64 sj], .int .i64 sv, .bool sf]) (by simp [results, Try.results60, go_sem, t0, t1]) rfl ⟨rfl, ?_⟩
  repeat (first | with_reducible exact C2.out.b | refine Below.setCell ?_ (by simp <;> omega) _)

end Go.Proofs.Ytkmghjogmedpbaa
