import Derived.Test.YtpfikhegmmpogaaPack13
import Derived.Test.YtpfikhegmmpogaaPack17
import Derived.Test.YtpfikhegmmpogaaPack25
import Derived.Test.YtpfikhegmmpogaaPack26
import Derived.Laws.EntriesVeiled
namespace Go.Proofs.Ytpfikhegmmpogaa
open Go.RowKit

set_option maxHeartbeats 2000000 in
theorem bestOne_any (n fine veh : Int) (a ao av bi : Option Addr) (cap ko co kv cv c2 : Nat) (zs os vs ids : List Int) (w : World) (hA : IntsAt w a zs) (hO : IntsAt w ao os) (hV : IntsAt w av vs) (hI : IntsAt w bi ids) (hlo : os.length = ko * 6) (hlv : vs.length = kv * 5) (hko : ko ≤ 9223372036854775807) (hkv : kv ≤ 9223372036854775807) (hli : ids.length ≤ 9223372036854775807) (hc2 : ids.length ≤ c2) (hcB : caseB n zs os vs ko kv fine = true) (pc pm pt : Nat) (hpc : w.heap[pc]? = some (.cells #[Value.int IntKind.i64 n, Value.slice a zs.length cap, Value.slice ao ko co, Value.slice av kv cv, Value.int IntKind.i64 fine] 30 (0, 0))) (hpm : w.heap[pm]? = some (.cells #[Value.func (.func 104) #[] #[], Value.func (.func 105) #[] #[.pointer (some ⟨pc, 0, none⟩)]] 105 (0, 0))) (hpt : w.heap[pt]? = some (.cells #[Value.int IntKind.i64 veh, Value.slice bi ids.length c2] 34 (0, 0))) (i j : Nat) :
    Calls Try.prog 128 #[.agg #[.int .i64 (i : Int), .int .i64 (j : Int)], .pointer (some ⟨pm, 0, none⟩), .pointer (some ⟨pt, 0, none⟩)] w fun e w' => e = .returned (.tuple #[.int .i64 (trD true n zs os vs ko kv veh ids i j), .bool (trB true n zs os vs ko kv veh ids i j && decide (trD true n zs os vs ko kv veh ids i j < 0))]) ∧ Below w.heap.size w w' := by
  have HA : Hid (IntsAt w a zs) := hA
  have HO : Hid (IntsAt w ao os) := hO
  have HV : Hid (IntsAt w av vs) := hV
  have HI : Hid (IntsAt w bi ids) := hI
  have HLO : Hid _ := hlo
  have HLV : Hid _ := hlv
  clear hA hO hV hI hlo hlv
  have HC : Hid (caseB n zs os vs ko kv fine = true) := hcB
  clear hcB
  have B0 : Hid (Below w.heap.size w (w.alloc (.cells #[Value.int IntKind.i64 i, Value.int IntKind.i64 j] 109))) := (Below.refl _ _).alloc (Nat.le_refl _) _
  have N0 : Hid ((w.alloc (.cells #[Value.int IntKind.i64 i, Value.int IntKind.i64 j] 109)).heap[w.heap.size]? = some (.cells #[Value.int IntKind.i64 i, Value.int IntKind.i64 j] 109 (0, 0))) := heap_alloc_new _ _
  have PC : Hid ((w.alloc (.cells #[Value.int IntKind.i64 i, Value.int IntKind.i64 j] 109)).heap[pc]? = some (.cells #[Value.int IntKind.i64 n, Value.slice a zs.length cap, Value.slice ao ko co, Value.slice av kv cv, Value.int IntKind.i64 fine] 30 (0, 0))) := below_row B0.out (row_lt hpc) hpc
  have hpm1 := below_row B0.out (row_lt hpm) hpm
  have hpt1 := below_row B0.out (row_lt hpt) hpt
  clear hpc hpm hpt
  obtain ⟨ch, HCH⟩ : ∃ t, Hid (trB true n zs os vs ko kv veh ids i j = t) := ⟨_, rfl⟩
  obtain ⟨D, HDD⟩ : ∃ t, Hid (trD true n zs os vs ko kv veh ids i j = t) := ⟨_, rfl⟩
  obtain ⟨xs, HXX⟩ : ∃ t, Hid (chL ch (revL ids i j) = t) := ⟨_, rfl⟩
  rw [HCH.out, HDD.out]
  go_enter Try.func128, Try.ntmps128
  obtain ⟨m0, m1⟩ := cells2 hpm1
  obtain ⟨r0, r1⟩ := cells2 hpt1
  obtain ⟨n0, n1⟩ := cells2 N0.out
  go_wp2_with fail
  clear m0 m1 r0 r1 n0 n1
  refine (turns1_any n fine veh a ao av bi cap ko co kv cv c2 zs os vs ids _ (HA.out.below B0.out) (HO.out.below B0.out) (HV.out.below B0.out) (HI.out.below B0.out) HLO.out HLV.out hko hkv hli hc2 HC.out pc PC.out (i : Int) (j : Int) ch HCH.out D (by rw [← HDD.out, ← HCH.out]; rfl) xs HXX.out).mono ?_
  rintro e w2 ⟨hb, ad, c, rfl, _⟩
  obtain ⟨vv, HVV⟩ : ∃ t, Hid (chI ch veh = t) := ⟨_, rfl⟩
  rw [HVV.out]
  have B2 : Hid (Below w.heap.size w (w2.alloc (.cells #[Value.int IntKind.i64 vv, Value.slice ad xs.length c] 34))) := (B0.out.trans (hb.mono B0.out.size)).alloc (Nat.le_trans B0.out.size hb.size) _
  clear hb hpm1 hpt1
  cases ch
  · go_wp2
    go_ret2
    exact ⟨rfl, B2.out⟩
  · go_wp2
    go_ret2
    exact ⟨by simp, B2.out⟩

/-- The moves' box, the route's box, the answer's box. -/
def MB (w W : World) (ms rs : Array Value) : Prop := Below w.heap.size w W ∧ W.heap[w.heap.size]? = some (.cells ms 105 (0, 0)) ∧ W.heap[w.heap.size + 1]? = some (.cells rs 34 (0, 0)) ∧ W.heap[w.heap.size + 2]? = some (.cells #[Value.int IntKind.i64 0, Value.int IntKind.i64 0] 109 (0, 0))
theorem MB.new (w : World) (ms rs : Array Value) : MB w (((w.alloc (.cells ms 105)).alloc (.cells rs 34)).alloc (.cells #[Value.int IntKind.i64 0, Value.int IntKind.i64 0] 109)) ms rs := by
  refine ⟨(((Below.refl _ _).alloc (Nat.le_refl _) _).alloc (by simp) _).alloc (by simp; omega) _, ?_, ?_, ?_⟩
  · exact (heap_alloc_old _ _ (by simp; omega)).trans (heap_alloc2_old _ _ _)
  · exact (heap_alloc_old _ _ (by simp)).trans (heap_alloc2_new _ _ _)
  · have := heap_alloc_new ((w.alloc (.cells ms 105)).alloc (.cells rs 34)) (.cells #[Value.int IntKind.i64 0, Value.int IntKind.i64 0] 109)
    simpa using this
theorem MB.below {w W W' : World} {ms rs : Array Value} (h : MB w W ms rs) (hb : Below W.heap.size W W') : MB w W' ms rs := ⟨h.1.trans (hb.mono h.1.size), below_row hb (row_lt h.2.1) h.2.1, below_row hb (row_lt h.2.2.1) h.2.2.1, below_row hb (row_lt h.2.2.2) h.2.2.2⟩
theorem MB.b {w W : World} {ms rs : Array Value} (h : MB w W ms rs) : Below w.heap.size w W := h.1
theorem own_flat {w : World} {base n : Nat} {e : TypeId} {sl : Value} {ps : List (Nat × Nat)} (h : w.ownsRow base e 2 sl n ((flatP ps).map (Value.int .i64))) : ∃ ad c, sl = .slice ad n c ∧ IntsAt w ad (flatP ps) := by
  obtain ⟨h1, ⟨rfl, h2⟩ | ⟨g, cap, cur, rfl, h3, h4, h5⟩⟩ := id h
  · subst h2
    have hl : (flatP ps).length = 0 := by simpa using h1
    exact ⟨none, 0, rfl, fun j hj => by omega⟩
  · exact ⟨_, _, rfl, owns_ints h⟩

set_option maxHeartbeats 2000000 in
theorem best_any (n fine veh : Int) (a ao av bi : Option Addr) (cap ko co kv cv c2 : Nat) (zs os vs ids : List Int) (w : World) (hA : IntsAt w a zs) (hO : IntsAt w ao os) (hV : IntsAt w av vs) (hI : IntsAt w bi ids) (hlo : os.length = ko * 6) (hlv : vs.length = kv * 5) (hko : ko ≤ 9223372036854775807) (hkv : kv ≤ 9223372036854775807) (hli : ids.length ≤ 9223372036854775807) (hc2 : ids.length ≤ c2) (hcB : caseB n zs os vs ko kv fine = true) (h12 : ids.length ≤ 12) (pc : Nat) (hpc : w.heap[pc]? = some (.cells #[Value.int IntKind.i64 n, Value.slice a zs.length cap, Value.slice ao ko co, Value.slice av kv cv, Value.int IntKind.i64 fine] 30 (0, 0))) (s0 : BS) (hs0 : bst (trB true n zs os vs ko kv veh ids) (trD true n zs os vs ko kv veh ids) (prsTo ids.length ids.length) = s0) :
    Calls Try.prog 108 #[.agg #[Value.func (.func 104) #[] #[], Value.func (.func 105) #[] #[.pointer (some ⟨pc, 0, none⟩)]], .agg #[.int .i64 veh, .slice bi ids.length c2]] w fun e w' => e = .returned (.tuple #[.agg #[.int .i64 (s0.i : Int), .int .i64 (s0.j : Int)], .int .i64 s0.v, .bool s0.f]) ∧ Below w.heap.size w w' := by
  have HA : Hid (IntsAt w a zs) := hA
  have HO : Hid (IntsAt w ao os) := hO
  have HV : Hid (IntsAt w av vs) := hV
  have HI : Hid (IntsAt w bi ids) := hI
  have HLO : Hid _ := hlo
  have HLV : Hid _ := hlv
  clear hA hO hV hI hlo hlv
  have HC : Hid (caseB n zs os vs ko kv fine = true) := hcB
  have HS0 : Hid (bst (trB true n zs os vs ko kv veh ids) (trD true n zs os vs ko kv veh ids) (prsTo ids.length ids.length) = s0) := hs0
  clear hcB hs0
  have hmf : ∀ (fn : Fn) (first cap : Array Value) (w : World), (Instr.makeFunc fn first cap).run Try.prog w = .ok (.func fn first cap) w := fun _ _ _ _ => rfl
  have C0 : Hid (MB w (((w.alloc (.cells #[Value.func (.func 104) #[] #[], Value.func (.func 105) #[] #[.pointer (some ⟨pc, 0, none⟩)]] 105)).alloc (.cells #[Value.int IntKind.i64 veh, Value.slice bi ids.length c2] 34)).alloc (.cells #[Value.int IntKind.i64 0, Value.int IntKind.i64 0] 109)) #[Value.func (.func 104) #[] #[], Value.func (.func 105) #[] #[.pointer (some ⟨pc, 0, none⟩)]] #[Value.int IntKind.i64 veh, Value.slice bi ids.length c2]) := MB.new w _ _
  have PC : Hid (w.heap[pc]? = _) := hpc
  clear hpc
  go_enter Try.func108, Try.ntmps108
  obtain ⟨m0, m1⟩ := cells2 C0.out.2.1
  obtain ⟨r0, r1⟩ := cells2 C0.out.2.2.1
  go_wp2_with fail
  clear m0 m1 r0 r1
  refine (turnsOf_any veh bi c2 ids.length _ h12).mono ?_
  rintro e w1 ⟨sl, rfl, hb, ho⟩
  obtain ⟨ad, c, rfl, hflat⟩ := own_flat ho
  have C1 : Hid (MB w w1 #[Value.func (.func 104) #[] #[], Value.func (.func 105) #[] #[.pointer (some ⟨pc, 0, none⟩)]] #[Value.int IntKind.i64 veh, Value.slice bi ids.length c2]) := C0.out.below hb
  have FL : Hid (IntsAt w1 ad (flatP (prsTo ids.length ids.length))) := hflat
  clear hb ho hflat C0
  have hlen : (prsTo ids.length ids.length).length ≤ 1000 := by
    have h := prsTo_len ids.length ids.length
    have h2 : ids.length * ids.length ≤ 12 * 12 := Nat.mul_le_mul h12 h12
    omega
  go_wp2_with fail
  refine (leastTurn_any ad c w.heap.size (w.heap.size + 1) (prsTo ids.length ids.length) (trB true n zs os vs ko kv veh ids) (trD true n zs os vs ko kv veh ids) w1 FL.out hlen (fun W i j hW => ?_) (fun i j => (trD_bd (caseB_parts HC.out).1 os vs ko kv veh ids i j).1) s0 HS0.out).mono ?_
  · have hB := C1.out.b.trans (hW.mono C1.out.b.size)
    exact bestOne_any n fine veh a ao av bi cap ko co kv cv c2 zs os vs ids W (HA.out.below hB) (HO.out.below hB) (HV.out.below hB) (HI.out.below hB) HLO.out HLV.out hko hkv hli hc2 HC.out pc w.heap.size (w.heap.size + 1) (below_row hB (row_lt PC.out) PC.out) (below_row hW (row_lt C1.out.2.1) C1.out.2.1) (below_row hW (row_lt C1.out.2.2.1) C1.out.2.2.1) i j
  rintro e w2 ⟨rfl, hb⟩
  have C2 : Hid (MB w w2 #[Value.func (.func 104) #[] #[], Value.func (.func 105) #[] #[.pointer (some ⟨pc, 0, none⟩)]] #[Value.int IntKind.i64 veh, Value.slice bi ids.length c2]) := C1.out.below hb
  clear hb C1 FL
  obtain ⟨sf, si, sj, sv⟩ := s0
  simp only
  obtain ⟨t0, t1⟩ := cells2 C2.out.2.2.2
  have tf := fun i => frozen_of_row _ _ i _ _ C2.out.2.2.2
  go_wp2
  refine bodyPost_ret (v := .tuple #[.agg #[.int .i64 si, .int .i64 sj], .int .i64 sv, .bool sf]) (by simp [results, Try.results108, go_sem, t0, t1]) rfl ⟨rfl, ?_⟩
  repeat (first | with_reducible exact C2.out.b | refine Below.setCell ?_ (by simp <;> omega) _)

end Go.Proofs.Ytpfikhegmmpogaa

namespace Go.Proofs.Ytpfikhegmmpogaa
open Go.RowKit

set_option maxHeartbeats 1000000 in
theorem turns_any (cs : Array Value) (w : World) (n fine : Int) (a ao av : Option Addr) (cap ko co kv cv lz : Nat) (hcs : cs = #[.int .i64 n, .slice a lz cap, .slice ao ko co, .slice av kv cv, .int .i64 fine]) :
    Calls Try.prog 64 #[.agg cs] w fun e w' => ∃ pc, e = .returned (.agg #[Value.func (.func 104) #[] #[], Value.func (.func 105) #[] #[.pointer (some ⟨pc, 0, none⟩)]]) ∧ Below w.heap.size w w' ∧ w'.heap[pc]? = some (.cells cs 30 (0, 0)) := by
  subst hcs
  have hmf : ∀ (fn : Fn) (first cap : Array Value) (w : World), (Instr.makeFunc fn first cap).run Try.prog w = .ok (.func fn first cap) w := fun _ _ _ _ => rfl
  go_enter Try.func64, Try.ntmps64
  go_wp2
  have q : ∀ (cs : Array Value), ((w.alloc (.cells cs 30)).alloc (.cells #[Value.func (.func 104) #[] #[], Value.func (.func 105) #[] #[.pointer (some ⟨w.heap.size, 0, none⟩)]] 105)).heap[w.heap.size + 1]? = some (.cells #[Value.func (.func 104) #[] #[], Value.func (.func 105) #[] #[.pointer (some ⟨w.heap.size, 0, none⟩)]] 105 (0, 0)) := fun cs => heap_alloc2_new _ _ _
  obtain ⟨q0, q1⟩ := cells2 (q #[Value.int .i64 n, Value.slice a lz cap, Value.slice ao ko co, Value.slice av kv cv, Value.int .i64 fine])
  refine bodyPost_ret (v := .agg #[Value.func (.func 104) #[] #[], Value.func (.func 105) #[] #[.pointer (some ⟨w.heap.size, 0, none⟩)]]) (by simp [results, Try.results64, go_sem, q0, q1]) rfl ⟨w.heap.size, rfl, ((Below.refl _ _).alloc (Nat.le_refl _) _).alloc (by simp) _, heap_alloc2_old _ _ _⟩

theorem CR.b {w W : World} {cs rs : Array Value} (h : CR w W cs rs) : Below w.heap.size w W := h.1
theorem CR.put {w W : World} {cs rs : Array Value} (h : CR w W cs rs) {k i : Nat} {v : Value} (hk : w.heap.size + 1 < k) : CR w (W.setCell ⟨k, i, none⟩ v) cs rs := h.set hk
theorem cr7s {w W : World} {c0 c1 c2 c3 c4 r0 r1 : Value} (h : CR w W #[c0, c1, c2, c3, c4] #[r0, r1]) {k : Nat} (hk : w.heap.size + 1 < k) (u v : Value) :
    (fun X : World => X.cell? ⟨w.heap.size, 0, none⟩ = some c0 ∧ X.cell? ⟨w.heap.size, 1, none⟩ = some c1 ∧ X.cell? ⟨w.heap.size, 2, none⟩ = some c2 ∧ X.cell? ⟨w.heap.size, 3, none⟩ = some c3 ∧ X.cell? ⟨w.heap.size, 4, none⟩ = some c4 ∧ X.cell? ⟨w.heap.size + 1, 0, none⟩ = some r0 ∧ X.cell? ⟨w.heap.size + 1, 1, none⟩ = some r1) ((W.setCell ⟨k, 0, none⟩ u).setCell ⟨k, 1, none⟩ v) := cr7 ((h.set hk).set hk)
theorem box_set2 {W : World} {k : Nat} {z0 z1 u v : Value} {T : TypeId} (h : W.heap[k]? = some (.cells #[z0, z1] T (0, 0))) : ((W.setCell ⟨k, 0, none⟩ u).setCell ⟨k, 1, none⟩ v).heap[k]? = some (.cells #[u, v] T (0, 0)) := by
  have s1 := heap_setCell_same W k 0 _ _ u h
  have s2 := heap_setCell_same _ k 1 _ _ v s1
  simpa using s2

end Go.Proofs.Ytpfikhegmmpogaa

namespace Go.Proofs.Ytpfikhegmmpogaa
open Go.RowKit

/-- The moves' box, the box of the route as it is now, the answer's box. -/
def DB (w W : World) (ms rs : Array Value) : Prop := Below w.heap.size w W ∧ W.heap[w.heap.size]? = some (.cells ms 105 (0, 0)) ∧ W.heap[w.heap.size + 1]? = some (.cells rs 34 (0, 0)) ∧ W.heap[w.heap.size + 2]? = some (.cells #[Value.int IntKind.i64 0, Value.slice none 0 0] 34 (0, 0))
theorem DB.new (w : World) (ms rs : Array Value) : DB w (((w.alloc (.cells ms 105)).alloc (.cells rs 34)).alloc (.cells #[Value.int IntKind.i64 0, Value.slice none 0 0] 34)) ms rs := by
  refine ⟨(((Below.refl _ _).alloc (Nat.le_refl _) _).alloc (by simp) _).alloc (by simp; omega) _, ?_, ?_, ?_⟩
  · exact (heap_alloc_old _ _ (by simp; omega)).trans (heap_alloc2_old _ _ _)
  · exact (heap_alloc_old _ _ (by simp)).trans (heap_alloc2_new _ _ _)
  · have := heap_alloc_new ((w.alloc (.cells ms 105)).alloc (.cells rs 34)) (.cells #[Value.int IntKind.i64 0, Value.slice none 0 0] 34)
    simpa using this
theorem DB.below {w W W' : World} {ms rs : Array Value} (h : DB w W ms rs) (hb : Below W.heap.size W W') : DB w W' ms rs := ⟨h.1.trans (hb.mono h.1.size), below_row hb (row_lt h.2.1) h.2.1, below_row hb (row_lt h.2.2.1) h.2.2.1, below_row hb (row_lt h.2.2.2) h.2.2.2⟩
theorem DB.b {w W : World} {ms rs : Array Value} (h : DB w W ms rs) : Below w.heap.size w W := h.1
theorem DB.big {w W : World} {ms rs : Array Value} (h : DB w W ms rs) : w.heap.size + 2 < W.heap.size := row_lt h.2.2.2
theorem DB.put {w W : World} {ms : Array Value} {r0 r1 : Value} (h : DB w W ms #[r0, r1]) (u v : Value) : DB w ((W.setCell ⟨w.heap.size + 1, 0, none⟩ u).setCell ⟨w.heap.size + 1, 1, none⟩ v) ms #[u, v] :=
  ⟨(h.1.setCell (by simp) _).setCell (by simp) _, row_set' (row_set' h.2.1 (by omega)) (by omega), box_set2 h.2.2.1, row_set' (row_set' h.2.2.2 (by omega)) (by omega)⟩
theorem ints_low {W : World} {ad : Option Addr} {xs : List Int} (h : IntsAt W ad xs) {k i : Nat} {v : Value} (hk : ∀ b off, ad = some ⟨b, off, none⟩ → 0 < xs.length → b ≠ k) : IntsAt (W.setCell ⟨k, i, none⟩ v) ad xs := by
  intro j hj
  obtain ⟨b, off, e, hc⟩ := h j hj
  exact ⟨b, off, e, keep_set hc (hk b off e (by omega))⟩
theorem bt_len {c : Bool} {n : Int} {zs os vs : List Int} {ko kv : Nat} {veh : Int} {cur : List Int} (h12 : cur.length ≤ 12) : bst (trB c n zs os vs ko kv veh cur) (trD c n zs os vs ko kv veh cur) (prsTo cur.length cur.length) = btV c n zs os vs ko kv veh cur := by
  unfold btV
  rw [show min cur.length 12 = cur.length by omega]

/-- An address of a slice: none, or the start of a row's part. -/
def AdO (ad : Option Addr) : Prop := ad = none ∨ ∃ b off, ad = some ⟨b, off, none⟩
/-- What descended answers: a route with these stops, wherever they lie, and how often. -/
def DescOk (w : World) (bi : Option Addr) (len : Nat) (veh : Int) (xs : List Int) (e : Ending) (w' : World) : Prop := ∃ ad cc cnt, e = .returned (.tuple #[.agg #[.int .i64 veh, .slice ad xs.length cc], .int .i64 cnt]) ∧ AdO ad ∧ ((ad = bi ∧ xs.length = len) ∨ ∀ b off, ad = some ⟨b, off, none⟩ → w.heap.size + 2 < b) ∧ Below w.heap.size w w' ∧ IntsAt w' ad xs ∧ xs.length ≤ 12

set_option maxHeartbeats 4000000 in
theorem descended_any (n fine veh : Int) (a ao av bi : Option Addr) (cap ko co kv cv c2 : Nat) (zs os vs ids : List Int) (w : World) (hA : IntsAt w a zs) (hO : IntsAt w ao os) (hV : IntsAt w av vs) (hI : IntsAt w bi ids) (hlo : os.length = ko * 6) (hlv : vs.length = kv * 5) (hko : ko ≤ 9223372036854775807) (hkv : kv ≤ 9223372036854775807) (_hli : ids.length ≤ 9223372036854775807) (hc2 : ids.length ≤ c2) (hbi : AdO bi) (hcB : caseB n zs os vs ko kv fine = true) (pc : Nat) (hpc : w.heap[pc]? = some (.cells #[Value.int IntKind.i64 n, Value.slice a zs.length cap, Value.slice ao ko co, Value.slice av kv cv, Value.int IntKind.i64 fine] 30 (0, 0))) (hcode : codeV true n zs os vs ko kv veh ids = 0) (xs : List Int) (hxs : polV n zs os vs ko kv veh ids = xs) :
    Calls Try.prog 65 #[.agg #[Value.func (.func 104) #[] #[], Value.func (.func 105) #[] #[.pointer (some ⟨pc, 0, none⟩)]], .agg #[.int .i64 veh, .slice bi ids.length c2], .int .i64 130000] w (DescOk w bi ids.length veh xs) := by
  have HA : Hid (IntsAt w a zs) := hA
  have HO : Hid (IntsAt w ao os) := hO
  have HV : Hid (IntsAt w av vs) := hV
  have HI : Hid (IntsAt w bi ids) := hI
  have HLO : Hid _ := hlo
  have HLV : Hid _ := hlv
  clear hA hO hV hI hlo hlv
  have HC : Hid (caseB n zs os vs ko kv fine = true) := hcB
  have HZ : Hid (matB n zs = true) := (caseB_parts hcB).1
  have HXS : Hid (polV n zs os vs ko kv veh ids = xs) := hxs
  have HCO : Hid (codeV true n zs os vs ko kv veh ids = 0) := hcode
  have PC : Hid (w.heap[pc]? = some (.cells #[Value.int IntKind.i64 n, Value.slice a zs.length cap, Value.slice ao ko co, Value.slice av kv cv, Value.int IntKind.i64 fine] 30 (0, 0))) := hpc
  have HRC : Hid (rcV n zs os vs ko kv veh ids ≤ 130000) := (rcV_bd (caseB_parts hcB).1 os vs ko kv veh ids).2
  have HBI : Hid (AdO bi) := hbi
  clear hcB hxs hcode hpc hbi
  have D0 : Hid (DB w (((w.alloc (.cells #[Value.func (.func 104) #[] #[], Value.func (.func 105) #[] #[.pointer (some ⟨pc, 0, none⟩)]] 105)).alloc (.cells #[Value.int IntKind.i64 veh, Value.slice bi ids.length c2] 34)).alloc (.cells #[Value.int IntKind.i64 0, Value.slice none 0 0] 34)) #[Value.func (.func 104) #[] #[], Value.func (.func 105) #[] #[.pointer (some ⟨pc, 0, none⟩)]] #[Value.int IntKind.i64 veh, Value.slice bi ids.length c2]) := DB.new w _ _
  go_enter Try.func65, Try.ntmps65
  go_wp2_with fail
  go_loopw [13] (fun t wr => ∃ (k : Nat) (cur : List Int) (ad : Option Addr) (cc : Nat), k ≤ 130000 ∧ t = .int .i64 k ∧ AdO ad ∧ DB w wr #[Value.func (.func 104) #[] #[], Value.func (.func 105) #[] #[.pointer (some ⟨pc, 0, none⟩)]] #[Value.int IntKind.i64 veh, Value.slice ad cur.length cc] ∧ ((ad = bi ∧ cur.length = ids.length) ∨ ∀ b off, ad = some ⟨b, off, none⟩ → w.heap.size + 2 < b) ∧ IntsAt wr ad cur ∧ cur.length ≤ cc ∧ codeV true n zs os vs ko kv veh cur = 0 ∧ polV n zs os vs ko kv veh cur = xs ∧ rcV n zs os vs ko kv veh cur + k ≤ 130000) (fun t _ => 130000 - (intOf t).toNat)
  case atStart =>
    refine ⟨0, ids, bi, c2, by omega, rfl, HBI.out, D0.out, .inl ⟨rfl, rfl⟩, HI.out.below D0.out.b, hc2, HCO.out, HXS.out, by have := HRC.out; omega⟩
  case round =>
    clear D0
    obtain ⟨k, cur, ad, cc, hk, rfl, hadr, hD, hlow, hcur, hcc, hco, hpo, hrc⟩ := hrel
    have ADR : Hid (AdO ad) := hadr
    clear hadr
    have D1 : Hid (DB w wr #[Value.func (.func 104) #[] #[], Value.func (.func 105) #[] #[.pointer (some ⟨pc, 0, none⟩)]] #[Value.int IntKind.i64 veh, Value.slice ad cur.length cc]) := hD
    have LOW0 : Hid ((ad = bi ∧ cur.length = ids.length) ∨ ∀ b off, ad = some ⟨b, off, none⟩ → w.heap.size + 2 < b) := hlow
    have LOW : Hid (∀ b off, ad = some ⟨b, off, none⟩ → 0 < cur.length → b < w.heap.size ∨ w.heap.size + 2 < b) := fun b' off' e h => by
      rcases hlow with ⟨h1, h2⟩ | h1
      · refine .inl ?_
        obtain ⟨b2, off2, e2, hc⟩ := HI.out 0 (by omega)
        rw [← h1, e] at e2
        simp at e2
        obtain ⟨rfl, rfl⟩ := e2
        have := block_lt_of_cell hc
        simpa using this
      · exact .inr (h1 b' off' e)
    have CUR : Hid (IntsAt wr ad cur) := hcur
    have CO : Hid (codeV true n zs os vs ko kv veh cur = 0) := hco
    have PO : Hid (polV n zs os vs ko kv veh cur = xs) := hpo
    have h12 := code12 hco
    have RC : Hid (rcV n zs os vs ko kv veh cur + (k : Int) ≤ 130000) := hrc
    clear hD hlow hcur hco hpo hrc
    obtain ⟨q0, q1⟩ := cells2 D1.out.2.2.1
    by_cases hlt : k < 130000
    · have hlt' : (k : Int) < 130000 := by omega
      have hwk : IntKind.i64.wrap ((k : Int) + 1) = ((k + 1 : Nat) : Int) := by rw [IntWalk.i64_in _ (by omega)]; omega
      obtain ⟨m0, m1⟩ := cells2 D1.out.2.1
      obtain ⟨s, HS⟩ : ∃ t, Hid (btV true n zs os vs ko kv veh cur = t) := ⟨_, rfl⟩
      have hbv := bt_v (os := os) (vs := vs) (ko := ko) (kv := kv) (veh := veh) (ids := cur) HZ.out
      rw [HS.out] at hbv
      have HBV : Hid (-130000 ≤ s.v ∧ s.v ≤ 0 ∧ (s.f = false → s.v = 0) ∧ (s.f = true → s.v < 0)) := hbv
      clear hbv
      go_wp2_with fail
      clear m0 m1 q0 q1
      refine (best_any n fine veh a ao av ad cap ko co kv cv cc zs os vs cur wr (HA.out.below D1.out.b) (HO.out.below D1.out.b) (HV.out.below D1.out.b) CUR.out HLO.out HLV.out hko hkv (by omega) hcc HC.out h12 pc (below_row D1.out.b (row_lt PC.out) PC.out) s ((bt_len h12).trans HS.out)).mono ?_
      rintro e w2 ⟨rfl, hb⟩
      obtain ⟨sf, si, sj, sv⟩ := s
      dsimp only
      have D2 : Hid (DB w (w2.alloc (.cells #[Value.int IntKind.i64 si, Value.int IntKind.i64 sj] 109)) #[Value.func (.func 104) #[] #[], Value.func (.func 105) #[] #[.pointer (some ⟨pc, 0, none⟩)]] #[Value.int IntKind.i64 veh, Value.slice ad cur.length cc]) := (D1.out.below hb).below ((Below.refl _ _).alloc (Nat.le_refl _) _)
      have N2 : Hid ((w2.alloc (.cells #[Value.int IntKind.i64 si, Value.int IntKind.i64 sj] 109)).heap[w2.heap.size]? = some (.cells #[Value.int IntKind.i64 si, Value.int IntKind.i64 sj] 109 (0, 0))) := heap_alloc_new _ _
      have CU2 : Hid (IntsAt (w2.alloc (.cells #[Value.int IntKind.i64 si, Value.int IntKind.i64 sj] 109)) ad cur) := (CUR.out.below hb).below ((Below.refl _ _).alloc (Nat.le_refl _) _)
      clear hb D1 CUR
      obtain ⟨q0, q1⟩ := cells2 D2.out.2.2.1
      cases sf
      · have hst : (btV true n zs os vs ko kv veh cur).f = false := by rw [HS.out]
        have hx := PO.out
        rw [polV_stop hst] at hx
        subst hx
        obtain ⟨t0, t1⟩ := cells2 D2.out.2.2.2
        have tf := fun i => frozen_of_row _ _ i _ _ D2.out.2.2.2
        clear hst
        go_wp2
        refine bodyPost_ret (v := .tuple #[.agg #[.int .i64 veh, .slice ad cur.length cc], .int .i64 k]) (by simp [results, Try.results65, go_sem, t0, t1]) rfl ⟨ad, cc, k, rfl, ADR.out, LOW0.out, ?_, ?_, h12⟩
        · repeat (first | with_reducible exact D2.out.b | refine Below.setCell ?_ (by simp <;> omega) _)
        · refine ints_low (ints_low CU2.out ?_) ?_
          · intro b off e h
            have := LOW.out b off e h
            omega
          · intro b off e h
            have := LOW.out b off e h
            omega
      · have hst : (btV true n zs os vs ko kv veh cur).f = true := by rw [HS.out]
        obtain ⟨a1, a2, a3, a4⟩ := bt_made hst
        have hx := PO.out
        rw [polV_step HZ.out hst] at hx
        rw [HS.out] at a1 a2 a3 a4 hx
        dsimp only at a1 a2 a3 a4 hx
        obtain ⟨nx, HNX⟩ : ∃ t, Hid (revL cur si sj = t) := ⟨_, rfl⟩
        have hsv : Hid (sv < 0) := HBV.out.2.2.2 rfl
        have A4 : Hid (rcV n zs os vs ko kv veh nx - rcV n zs os vs ko kv veh cur = sv) := by rw [← HNX.out]; exact a4
        rw [HNX.out] at a1 hx
        have htb := turnB_true a2
        have HNL : Hid (nx.length = cur.length ∧ 0 < cur.length) := by
          refine ⟨?_, by omega⟩
          rw [← HNX.out]
          exact revL_length (by omega) (by omega)
        clear htb
        have A1 : Hid (codeV true n zs os vs ko kv veh nx = 0) := a1
        have A3 : Hid (trB true n zs os vs ko kv veh cur si sj = true) := a3
        have HX2 : Hid (polV n zs os vs ko kv veh nx = xs) := hx
        clear hst hx a1 a2 a3 a4
        obtain ⟨m0, m1⟩ := cells2 D2.out.2.1
        obtain ⟨n0, n1⟩ := cells2 N2.out
        have qf := fun i => frozen_of_row _ _ i _ _ D2.out.2.2.1
        go_wp2_with fail
        clear m0 m1 n0 n1 q0 q1 qf
        refine (turns1_any n fine veh a ao av ad cap ko co kv cv cc zs os vs cur (w2.alloc (.cells #[Value.int IntKind.i64 si, Value.int IntKind.i64 sj] 109)) (HA.out.below D2.out.b) (HO.out.below D2.out.b) (HV.out.below D2.out.b) CU2.out HLO.out HLV.out hko hkv (by omega) hcc HC.out pc (below_row D2.out.b (row_lt PC.out) PC.out) (si : Int) (sj : Int) true A3.out _ rfl nx (by rw [← HNX.out]; rfl)).mono ?_
        rintro e w4 ⟨hb, ad2, cc2, rfl, ho⟩
        have hvv : chI true veh = veh := rfl
        rw [hvv]
        clear hvv
        obtain ⟨DD, HDD⟩ : ∃ t, Hid (chD true n zs os vs ko kv veh cur (revL cur ((si : Int).toNat) ((sj : Int).toNat)) = t) := ⟨_, rfl⟩
        rw [HDD.out]
        have D4 : Hid (DB w w4 #[Value.func (.func 104) #[] #[], Value.func (.func 105) #[] #[.pointer (some ⟨pc, 0, none⟩)]] #[Value.int IntKind.i64 veh, Value.slice ad cur.length cc]) := D2.out.below hb
        have O4 : Hid (w4.ownsRow (w2.alloc (.cells #[Value.int IntKind.i64 si, Value.int IntKind.i64 sj] 109)).heap.size 2 1 (.slice ad2 nx.length cc2) nx.length _) := ho
        have L4 : Hid (w.heap.size + 2 < (w2.alloc (.cells #[Value.int IntKind.i64 si, Value.int IntKind.i64 sj] 109)).heap.size) := D2.out.big
        clear hb ho D2 CU2 N2
        have D5 : Hid (DB w _ #[Value.func (.func 104) #[] #[], Value.func (.func 105) #[] #[.pointer (some ⟨pc, 0, none⟩)]] #[Value.int IntKind.i64 veh, Value.slice ad2 nx.length cc2]) := D4.out.put (.int .i64 veh) (.slice ad2 nx.length cc2)
        obtain ⟨q0, q1⟩ := cells2 D4.out.2.2.1
        have qf := fun i => frozen_of_row _ _ i _ _ D4.out.2.2.1
        go_wp2
        go_roundw
        case rel =>
          obtain ⟨ad3, cc3, e3, _, hi3⟩ := owns_at1 O4.out
          simp only [Value.slice.injEq] at e3
          obtain ⟨rfl, _, rfl⟩ := e3
          have hlow3 : ∀ b off, ad2 = some ⟨b, off, none⟩ → w.heap.size + 2 < b := by
            intro b off e
            have := (O4.out.lt b (by rw [e]; rfl)).1
            have := L4.out
            omega
          have hlow2 : ∀ b off, ad2 = some ⟨b, off, none⟩ → 0 < nx.length → b < w.heap.size ∨ w.heap.size + 2 < b := fun b off e _ => .inr (hlow3 b off e)
          have hadr2 : ∃ b off, ad2 = some ⟨b, off, none⟩ := by
            rcases own_shape O4.out with h | ⟨g, c, h⟩
            · simp only [Value.slice.injEq] at h
              have := HNL.out
              omega
            · simp only [Value.slice.injEq] at h
              exact ⟨g, 0, h.1⟩
          refine ⟨k + 1, nx, ad2, cc2, by omega, by first | rfl | go_num, .inr hadr2, D5.out, .inr hlow3, ?_, ?_, A1.out, HX2.out, by have h1 := RC.out; have h2 := A4.out; have h3 := hsv.out; omega⟩
          · refine ints_low (ints_low hi3 ?_) ?_
            · intro b off e h
              have := hlow2 b off e h
              omega
            · intro b off e h
              have := hlow2 b off e h
              omega
          · rcases own_shape O4.out with h | ⟨g, c, h⟩
            · simp only [Value.slice.injEq] at h
              omega
            · simp only [Value.slice.injEq] at h
              obtain ⟨rfl, _, rfl⟩ := h
              exact (own_bd O4.out).1
        case measure => simp [intOf]; omega
    · have hke : k = 130000 := by omega
      subst hke
      have hst := bt_free (os := os) (vs := vs) (ko := ko) (kv := kv) (veh := veh) (ids := cur) HZ.out (by have := RC.out; omega)
      have hx := PO.out
      rw [polV_stop hst] at hx
      subst hx
      obtain ⟨t0, t1⟩ := cells2 D1.out.2.2.2
      have tf := fun i => frozen_of_row _ _ i _ _ D1.out.2.2.2
      clear hst
      go_wp2
      refine bodyPost_ret (v := .tuple #[.agg #[.int .i64 veh, .slice ad cur.length cc], .int .i64 130000]) (by simp [results, Try.results65, go_sem, t0, t1]) rfl ⟨ad, cc, 130000, rfl, ADR.out, LOW0.out, ?_, ?_, h12⟩
      · repeat (first | with_reducible exact D1.out.b | refine Below.setCell ?_ (by simp <;> omega) _)
      · refine ints_low (ints_low CUR.out ?_) ?_
        · intro b off e h
          have := LOW.out b off e h
          omega
        · intro b off e h
          have := LOW.out b off e h
          omega

end Go.Proofs.Ytpfikhegmmpogaa
