import Derived.Test.YtplefpmchhcfcaaPack21
import Derived.Test.YtplefpmchhcfcaaPutIn
namespace Go.Proofs.Ytplefpmchhcfcaa
open Go.RowKit

theorem puttingIn_any (x y : Int) (w : World) :
    Calls Try.prog 33 #[.int .i64 x, .int .i64 y] w fun e w' => ∃ p q, e = .returned (.func (.func 60) #[] #[.pointer (some ⟨p, 0, none⟩), .pointer (some ⟨q, 0, none⟩)]) ∧ Below w.heap.size w w' ∧ w'.cell? ⟨p, 0, none⟩ = some (.int .i64 y) ∧ w'.cell? ⟨q, 0, none⟩ = some (.int .i64 x) := by
  have hmf : ∀ (fn : Fn) (first cap : Array Value) (w : World), (Instr.makeFunc fn first cap).run Try.prog w = .ok (.func fn first cap) w := fun _ _ _ _ => rfl
  have h1 := cell_of_row _ _ 0 _ _ _ (heap_alloc2_old w (.cells #[Value.int IntKind.i64 x] 2) (.cells #[Value.int IntKind.i64 y] 2))
  have h2 := cell_of_row _ _ 0 _ _ _ (heap_alloc2_new w (.cells #[Value.int IntKind.i64 x] 2) (.cells #[Value.int IntKind.i64 y] 2))
  have H1 : Hid (((w.alloc (.cells #[Value.int IntKind.i64 x] 2)).alloc (.cells #[Value.int IntKind.i64 y] 2)).cell? ⟨w.heap.size, 0, none⟩ = some (.int .i64 x)) := h1
  have H2 : Hid (((w.alloc (.cells #[Value.int IntKind.i64 x] 2)).alloc (.cells #[Value.int IntKind.i64 y] 2)).cell? ⟨w.heap.size + 1, 0, none⟩ = some (.int .i64 y)) := h2
  clear h1 h2
  go_enter Try.func33, Try.ntmps33
  go_wp2
  go_ret
  exact ⟨w.heap.size + 1, w.heap.size, rfl, ((Below.refl _ _).alloc (Nat.le_refl _) _).alloc (by simp) _, H2.out, H1.out⟩

set_option maxHeartbeats 2000000 in
theorem implInsertAt_any (n fine veh : Int) (a ao av bi : Option Addr) (cap ko co kv cv c2 : Nat) (zs os vs ids : List Int) (w : World) (hA : IntsAt w a zs) (hO : IntsAt w ao os) (hV : IntsAt w av vs) (hI : IntsAt w bi ids) (hlo : os.length = ko * 6) (hlv : vs.length = kv * 5) (hko : ko ≤ 9223372036854775807) (hkv : kv ≤ 9223372036854775807) (hli : ids.length ≤ 9223372036854775807) (hc2 : ids.length ≤ c2) (hbi : (bi = none ∧ ids.length = 0) ∨ ∃ b off, bi = some ⟨b, off, none⟩) (id x : Int) (ch : Bool) (hch : chB (caseB n zs os vs ko kv fine) n zs os vs ko kv veh ids (inB x 0 (ids.length : Int)) (insL ids x.toNat id) = ch) (D : Int) (hD : chD ch n zs os vs ko kv veh ids (insL ids x.toNat id) = D) (xs : List Int) (hxs : chL ch (insL ids x.toNat id) = xs) :
    Calls Try.prog 9 #[.agg #[.int .i64 n, .slice a zs.length cap, .slice ao ko co, .slice av kv cv, .int .i64 fine], .agg #[.int .i64 veh, .slice bi ids.length c2], .int .i64 id, .int .i64 x] w (ChgOk w ch veh D xs) := by
  have HA : Hid (IntsAt w a zs) := hA
  have HO : Hid (IntsAt w ao os) := hO
  have HV : Hid (IntsAt w av vs) := hV
  have HI : Hid (IntsAt w bi ids) := hI
  have HLO : Hid _ := hlo
  have HLV : Hid _ := hlv
  clear hA hO hV hI hlo hlv
  have HCh : Hid (chB (caseB n zs os vs ko kv fine) n zs os vs ko kv veh ids (inB x 0 (ids.length : Int)) (insL ids x.toNat id) = ch) := hch
  have HD : Hid (chD ch n zs os vs ko kv veh ids (insL ids x.toNat id) = D) := hD
  have HXs : Hid (chL ch (insL ids x.toNat id) = xs) := hxs
  have HBI : Hid ((bi = none ∧ ids.length = 0) ∨ ∃ b off, bi = some ⟨b, off, none⟩) := hbi
  clear hch hD hxs hbi
  have C0 : Hid (CRR w (((w.alloc (.cells #[Value.int IntKind.i64 n, Value.slice a zs.length cap, Value.slice ao ko co, Value.slice av kv cv, Value.int IntKind.i64 fine] 30)).alloc (.cells #[Value.int IntKind.i64 veh, Value.slice bi ids.length c2] 32)).alloc (.cells #[Value.int IntKind.i64 0, Value.slice none 0 0] 32)) _ _ _) := CRR.new w _ _ _
  obtain ⟨vv, HVV⟩ : ∃ t, Hid (chI ch veh = t) := ⟨_, rfl⟩
  go_enter Try.func9, Try.ntmps9
  go_wp2_with fail
  generalize ((w.alloc (.cells #[Value.int IntKind.i64 n, Value.slice a zs.length cap, Value.slice ao ko co, Value.slice av kv cv, Value.int IntKind.i64 fine] 30)).alloc (.cells #[Value.int IntKind.i64 veh, Value.slice bi ids.length c2] 32)).alloc (.cells #[Value.int IntKind.i64 0, Value.slice none 0 0] 32) = W0 at *
  obtain ⟨c0, c1, c2', c3, c4⟩ := cells5 C0.out.1.2.1
  obtain ⟨d0, d1⟩ := cells2 C0.out.1.2.2
  obtain ⟨t0, t1⟩ := cells2 C0.out.2
  have tf := fun i => frozen_of_row _ _ i _ _ C0.out.2
  go_region_held3 (fun W => W.cell? ⟨w.heap.size, 0, none⟩ = some (.int .i64 n) ∧ W.cell? ⟨w.heap.size, 1, none⟩ = some (.slice a zs.length cap) ∧ W.cell? ⟨w.heap.size, 2, none⟩ = some (.slice ao ko co) ∧ W.cell? ⟨w.heap.size, 3, none⟩ = some (.slice av kv cv) ∧ W.cell? ⟨w.heap.size, 4, none⟩ = some (.int .i64 fine) ∧ W.cell? ⟨w.heap.size + 1, 0, none⟩ = some (.int .i64 veh) ∧ W.cell? ⟨w.heap.size + 1, 1, none⟩ = some (.slice bi ids.length c2)) (first | with_reducible exact kS | with_reducible exact cr7 (CRR.set C2.out _ _) | go_keep) ((first
    | (go_at_call 33
       with_reducible refine (puttingIn_any id x W0.drew).mono ?_
       rintro e w1 ⟨p, q, rfl, hb, hc, hcq⟩
       have hb0 := (Below.refl W0.heap.size W0).drew.trans (hb.mono (Nat.le_refl _))
       have C1 : Hid (CRR w w1 _ _ _) := C0.out.below hb0
       have P1 : Hid (w1.cell? ⟨p, 0, none⟩ = some (.int .i64 x)) := hc
       have Q1 : Hid (w1.cell? ⟨q, 0, none⟩ = some (.int .i64 id)) := hcq
       obtain ⟨k0, k1, k2, k3, k4⟩ := cells5 C1.out.1.2.1
       obtain ⟨k5, k6⟩ := cells2 C1.out.1.2.2
       have kS := And.intro k0 (And.intro k1 (And.intro k2 (And.intro k3 (And.intro k4 (And.intro k5 k6)))))
       clear hb hb0 hcq k0 k1 k2 k3 k4 k5 k6)
    | (go_at_call 32
       with_reducible refine (checked_put n fine veh a ao av bi cap ko co kv cv c2 zs os vs ids w1 (HA.out.below C1.out.b) (HO.out.below C1.out.b) (HV.out.below C1.out.b) (HI.out.below C1.out.b) HLO.out HLV.out hko hkv hli hc2 p q _ _ (fun W hW h12 => putIn_any p q x id bi c2 ids W ((hW.cell (p := ⟨p, 0, none⟩) (block_lt_of_cell P1.out)).trans P1.out) ((hW.cell (p := ⟨q, 0, none⟩) (block_lt_of_cell Q1.out)).trans Q1.out) (HI.out.below (C1.out.b.trans (hW.mono C1.out.b.size))) h12 HBI.out) ch HCh.out D HD.out xs HXs.out).mono ?_
       rintro e w2 ⟨hb, ad, cg, rfl, ho⟩
       rw [HVV.out]
       have C2 : Hid (CRR w w2 _ _ _) := C1.out.below hb
       have O2 : Hid (w2.ownsRow w1.heap.size 2 1 (.slice ad xs.length cg) xs.length _) := ho
       obtain ⟨k0, k1, k2, k3, k4⟩ := cells5 C2.out.1.2.1
       obtain ⟨k5, k6⟩ := cells2 C2.out.1.2.2
       have kS := And.intro k0 (And.intro k1 (And.intro k2 (And.intro k3 (And.intro k4 (And.intro k5 k6)))))
       obtain ⟨u0, u1⟩ := cells2 C2.out.2
       have uf := fun i => frozen_of_row _ _ i _ _ C2.out.2
       clear hb ho k0 k1 k2 k3 k4 k5 k6)))
  all_goals
    clear kS c0 c1 c2' c3 c4 d0 d1 t0 t1 tf
    have LG : Hid (w.heap.size + 2 < w1.heap.size) := C1.out.big
    go_wp2
    refine bodyPost_ret (v := .tuple #[.agg #[.int .i64 vv, .slice ad xs.length cg], .int .i64 D, .bool ch]) (by simp [results, Try.results9, go_sem, u0, u1]) rfl ⟨?_, ad, cg, ?_, ?_⟩
    · repeat (first | with_reducible exact C2.out.b | refine Below.setCell ?_ (by simp <;> omega) _)
    · rw [HVV.out]
    · exact owns_base (owns_set (owns_set O2.out LG.out) LG.out) (by have := LG.out; omega)

end Go.Proofs.Ytplefpmchhcfcaa

namespace Go.Proofs.Ytplefpmchhcfcaa
open Go.RowKit

/-- A case, a route and an order's number in boxes that are older than the call. -/
def PB (w W : World) (pc pr pid : Nat) (cs rs is : Array Value) : Prop := Below w.heap.size w W ∧ W.heap[pc]? = some (.cells cs 30 (0, 0)) ∧ W.heap[pr]? = some (.cells rs 32 (0, 0)) ∧ W.heap[pid]? = some (.cells is 2 (0, 0)) ∧ pc < w.heap.size ∧ pr < w.heap.size ∧ pid < w.heap.size
theorem PB.b {w W : World} {pc pr pid : Nat} {cs rs is : Array Value} (h : PB w W pc pr pid cs rs is) : Below w.heap.size w W := h.1
theorem PB.size {w W : World} {pc pr pid : Nat} {cs rs is : Array Value} (h : PB w W pc pr pid cs rs is) : w.heap.size ≤ W.heap.size := h.1.size
theorem PB.below {w W W' : World} {pc pr pid : Nat} {cs rs is : Array Value} (h : PB w W pc pr pid cs rs is) (hb : Below W.heap.size W W') : PB w W' pc pr pid cs rs is :=
  ⟨h.1.trans (hb.mono h.1.size), below_row hb (row_lt h.2.1) h.2.1, below_row hb (row_lt h.2.2.1) h.2.2.1, below_row hb (row_lt h.2.2.2.1) h.2.2.2.1, h.2.2.2.2⟩
theorem PB.alloc {w W : World} {pc pr pid : Nat} {cs rs is : Array Value} (h : PB w W pc pr pid cs rs is) (o : Obj) : PB w (W.alloc o) pc pr pid cs rs is := h.below ((Below.refl _ _).alloc (Nat.le_refl _) _)
theorem PB.drew {w W : World} {pc pr pid : Nat} {cs rs is : Array Value} (h : PB w W pc pr pid cs rs is) : PB w W.drew pc pr pid cs rs is := h.below (Below.refl _ _).drew
theorem PB.set {w W : World} {pc pr pid : Nat} {cs rs is : Array Value} (h : PB w W pc pr pid cs rs is) {k i : Nat} {v : Value} (hk : w.heap.size ≤ k) : PB w (W.setCell ⟨k, i, none⟩ v) pc pr pid cs rs is := by
  have := h.2.2.2.2.1
  have := h.2.2.2.2.2.1
  have := h.2.2.2.2.2.2
  exact ⟨h.1.setCell (by simp; omega) _, row_set' h.2.1 (by omega), row_set' h.2.2.1 (by omega), row_set' h.2.2.2.1 (by omega), h.2.2.2.2⟩
theorem PB.new {w : World} {pc pr pid : Nat} {cs rs is : Array Value} (h1 : w.heap[pc]? = some (.cells cs 30 (0, 0))) (h2 : w.heap[pr]? = some (.cells rs 32 (0, 0))) (h3 : w.heap[pid]? = some (.cells is 2 (0, 0))) : PB w w pc pr pid cs rs is :=
  ⟨Below.refl _ _, h1, h2, h3, row_lt h1, row_lt h2, row_lt h3⟩
theorem pb8 {w W : World} {pc pr pid : Nat} {c0 c1 c2 c3 c4 r0 r1 i0 : Value} (h : PB w W pc pr pid #[c0, c1, c2, c3, c4] #[r0, r1] #[i0]) :
    W.cell? ⟨pc, 0, none⟩ = some c0 ∧ W.cell? ⟨pc, 1, none⟩ = some c1 ∧ W.cell? ⟨pc, 2, none⟩ = some c2 ∧ W.cell? ⟨pc, 3, none⟩ = some c3 ∧ W.cell? ⟨pc, 4, none⟩ = some c4 ∧ W.cell? ⟨pr, 0, none⟩ = some r0 ∧ W.cell? ⟨pr, 1, none⟩ = some r1 ∧ W.cell? ⟨pid, 0, none⟩ = some i0 := by
  obtain ⟨k0, k1, k2, k3, k4⟩ := cells5 h.2.1
  obtain ⟨k5, k6⟩ := cells2 h.2.2.1
  exact ⟨k0, k1, k2, k3, k4, k5, k6, cell_of_row _ _ 0 _ _ _ h.2.2.2.1⟩
theorem pb8s {w W : World} {pc pr pid : Nat} {c0 c1 c2 c3 c4 r0 r1 i0 : Value} (h : PB w W pc pr pid #[c0, c1, c2, c3, c4] #[r0, r1] #[i0]) {k : Nat} (hk : w.heap.size ≤ k) (u v : Value) :
    (fun X : World => X.cell? ⟨pc, 0, none⟩ = some c0 ∧ X.cell? ⟨pc, 1, none⟩ = some c1 ∧ X.cell? ⟨pc, 2, none⟩ = some c2 ∧ X.cell? ⟨pc, 3, none⟩ = some c3 ∧ X.cell? ⟨pc, 4, none⟩ = some c4 ∧ X.cell? ⟨pr, 0, none⟩ = some r0 ∧ X.cell? ⟨pr, 1, none⟩ = some r1 ∧ X.cell? ⟨pid, 0, none⟩ = some i0) ((W.setCell ⟨k, 0, none⟩ u).setCell ⟨k, 1, none⟩ v) := pb8 ((h.set hk).set hk)

set_option maxHeartbeats 4000000 in
theorem place1_any (n fine veh : Int) (a ao av bi : Option Addr) (cap ko co kv cv c2 : Nat) (zs os vs ids : List Int) (w : World) (hA : IntsAt w a zs) (hO : IntsAt w ao os) (hV : IntsAt w av vs) (hI : IntsAt w bi ids) (hlo : os.length = ko * 6) (hlv : vs.length = kv * 5) (hko : ko ≤ 9223372036854775807) (hkv : kv ≤ 9223372036854775807) (hli : ids.length ≤ 9223372036854775807) (hc2 : ids.length ≤ c2) (hbi : (bi = none ∧ ids.length = 0) ∨ ∃ b off, bi = some ⟨b, off, none⟩) (hcB : caseB n zs os vs ko kv fine = true) (id : Int) (pc pr pid : Nat) (hpc : w.heap[pc]? = some (.cells #[Value.int IntKind.i64 n, Value.slice a zs.length cap, Value.slice ao ko co, Value.slice av kv cv, Value.int IntKind.i64 fine] 30 (0, 0))) (hpr : w.heap[pr]? = some (.cells #[Value.int IntKind.i64 veh, Value.slice bi ids.length c2] 32 (0, 0))) (hpid : w.heap[pid]? = some (.cells #[Value.int IntKind.i64 id] 2 (0, 0))) (i : Nat) :
    Calls Try.prog 43 #[.int .i64 (i : Int), .pointer (some ⟨pc, 0, none⟩), .pointer (some ⟨pr, 0, none⟩), .pointer (some ⟨pid, 0, none⟩)] w fun e w' => e = .returned (.tuple #[.int .i64 (plD true n zs os vs ko kv veh ids id i), .bool (plB true n zs os vs ko kv veh ids id i)]) ∧ Below w.heap.size w w' := by
  have HA : Hid (IntsAt w a zs) := hA
  have HO : Hid (IntsAt w ao os) := hO
  have HV : Hid (IntsAt w av vs) := hV
  have HI : Hid (IntsAt w bi ids) := hI
  have HLO : Hid _ := hlo
  have HLV : Hid _ := hlv
  have HBI : Hid ((bi = none ∧ ids.length = 0) ∨ ∃ b off, bi = some ⟨b, off, none⟩) := hbi
  clear hA hO hV hI hlo hlv hbi
  have HC : Hid (caseB n zs os vs ko kv fine = true) := hcB
  clear hcB
  have C1 : Hid (PB w w pc pr pid #[Value.int IntKind.i64 n, Value.slice a zs.length cap, Value.slice ao ko co, Value.slice av kv cv, Value.int IntKind.i64 fine] #[Value.int IntKind.i64 veh, Value.slice bi ids.length c2] #[Value.int IntKind.i64 id]) := PB.new hpc hpr hpid
  clear hpc hpr hpid
  obtain ⟨ch, HCH⟩ : ∃ t, Hid (plB true n zs os vs ko kv veh ids id i = t) := ⟨_, rfl⟩
  obtain ⟨D, HDD⟩ : ∃ t, Hid (plD true n zs os vs ko kv veh ids id i = t) := ⟨_, rfl⟩
  obtain ⟨xs, HXX⟩ : ∃ t, Hid (chL ch (insL ids i id) = t) := ⟨_, rfl⟩
  obtain ⟨vv, HVV⟩ : ∃ t, Hid (chI ch veh = t) := ⟨_, rfl⟩
  rw [HCH.out, HDD.out]
  have HCALL : Hid (∀ (W W' : World) (p q : Nat), Below w.heap.size w W → W.cell? ⟨p, 0, none⟩ = some (.int .i64 (i : Int)) → W.cell? ⟨q, 0, none⟩ = some (.int .i64 id) → Below W.heap.size W W' → Calls Try.prog 44 #[.agg #[.int .i64 n, .slice a zs.length cap, .slice ao ko co, .slice av kv cv, .int .i64 fine], .agg #[.int .i64 veh, .slice bi ids.length c2], .func (.func 60) #[] #[.pointer (some ⟨p, 0, none⟩), .pointer (some ⟨q, 0, none⟩)]] W' (ChgOk W' ch veh D xs)) := by
    intro W W' p q hW hp hq hW'
    have hB := hW.trans (hW'.mono hW.size)
    have hp' := (hW'.cell (p := ⟨p, 0, none⟩) (block_lt_of_cell hp)).trans hp
    have hq' := (hW'.cell (p := ⟨q, 0, none⟩) (block_lt_of_cell hq)).trans hq
    exact changed_put n fine veh a ao av bi cap ko co kv cv c2 zs os vs ids W' (HA.out.below hB) (HO.out.below hB) (HV.out.below hB) (HI.out.below hB) HLO.out HLV.out hko hkv hli hc2 HC.out p q _ _ (fun X hX h12 => putIn_any p q (i : Int) id bi c2 ids X ((hX.cell (p := ⟨p, 0, none⟩) (block_lt_of_cell hp')).trans hp') ((hX.cell (p := ⟨q, 0, none⟩) (block_lt_of_cell hq')).trans hq') (HI.out.below (hB.trans (hX.mono hB.size))) h12 HBI.out) ch HCH.out D (by rw [← HDD.out, ← HCH.out]; rfl) xs HXX.out
  go_enter Try.func43, Try.ntmps43
  go_wp2_with fail
  have kS := pb8 C1.out.drew
  go_region_held3 (fun W => W.cell? ⟨pc, 0, none⟩ = some (.int .i64 n) ∧ W.cell? ⟨pc, 1, none⟩ = some (.slice a zs.length cap) ∧ W.cell? ⟨pc, 2, none⟩ = some (.slice ao ko co) ∧ W.cell? ⟨pc, 3, none⟩ = some (.slice av kv cv) ∧ W.cell? ⟨pc, 4, none⟩ = some (.int .i64 fine) ∧ W.cell? ⟨pr, 0, none⟩ = some (.int .i64 veh) ∧ W.cell? ⟨pr, 1, none⟩ = some (.slice bi ids.length c2) ∧ W.cell? ⟨pid, 0, none⟩ = some (.int .i64 id)) (first | with_reducible exact kS | with_reducible exact pb8s C4.out (Nat.le_refl _) _ _ | with_reducible exact pb8s C4.out C3.out.size _ _ | with_reducible exact pb8 (PB.alloc C4.out _) | with_reducible exact pb8 (PB.alloc C3.out _) | with_reducible exact pb8 (PB.drew (PB.alloc C1.out _)) | go_keep) ((first
    | (go_at_call 33
       with_reducible refine (puttingIn_any id (i : Int) w.drew).mono ?_
       rintro e w3 ⟨p, q, rfl, hb, hc, hcq⟩
       have C3 : Hid (PB w w3 pc pr pid #[Value.int IntKind.i64 n, Value.slice a zs.length cap, Value.slice ao ko co, Value.slice av kv cv, Value.int IntKind.i64 fine] #[Value.int IntKind.i64 veh, Value.slice bi ids.length c2] #[Value.int IntKind.i64 id]) := C1.out.drew.below hb
       have P3 : Hid (w3.cell? ⟨p, 0, none⟩ = some (.int .i64 (i : Int))) := hc
       have Q3 : Hid (w3.cell? ⟨q, 0, none⟩ = some (.int .i64 id)) := hcq
       have kS := pb8 C3.out
       clear hb hc hcq)
    | (go_at_call 33
       with_reducible refine (puttingIn_any id (i : Int) (w.alloc (Obj.cells #[Value.int IntKind.i64 0, Value.slice none 0 0] 32)).drew).mono ?_
       rintro e w3 ⟨p, q, rfl, hb, hc, hcq⟩
       have C3 : Hid (PB w w3 pc pr pid #[Value.int IntKind.i64 n, Value.slice a zs.length cap, Value.slice ao ko co, Value.slice av kv cv, Value.int IntKind.i64 fine] #[Value.int IntKind.i64 veh, Value.slice bi ids.length c2] #[Value.int IntKind.i64 id]) := (C1.out.alloc (Obj.cells #[Value.int IntKind.i64 0, Value.slice none 0 0] 32)).drew.below hb
       have P3 : Hid (w3.cell? ⟨p, 0, none⟩ = some (.int .i64 (i : Int))) := hc
       have Q3 : Hid (w3.cell? ⟨q, 0, none⟩ = some (.int .i64 id)) := hcq
       have V3 := below_row hb (k := w.heap.size) (by simp) (heap_alloc_new w (Obj.cells #[Value.int IntKind.i64 0, Value.slice none 0 0] 32))
       have kS := pb8 C3.out
       clear hb hc hcq)
    | (go_at_call 44
       with_reducible refine (HCALL.out w3 w3 p q C3.out.b P3.out Q3.out (Below.refl _ _)).mono ?_
       rintro e w4 ⟨hb, ad, cg, rfl, _⟩
       rw [HVV.out]
       have C4 : Hid (PB w w4 pc pr pid #[Value.int IntKind.i64 n, Value.slice a zs.length cap, Value.slice ao ko co, Value.slice av kv cv, Value.int IntKind.i64 fine] #[Value.int IntKind.i64 veh, Value.slice bi ids.length c2] #[Value.int IntKind.i64 id]) := C3.out.below hb
       try (have V4 := below_row hb (row_lt V3) V3
            obtain ⟨z0, z1⟩ := cells2 V4
            have zf := fun i => frozen_of_row _ _ i _ _ V4)
       have kS := pb8 C4.out
       clear hb)
    | (go_at_call 44
       with_reducible refine (HCALL.out w3 (w3.alloc (Obj.cells #[Value.int IntKind.i64 0, Value.slice none 0 0] 32)) p q C3.out.b P3.out Q3.out ((Below.refl _ _).alloc (Nat.le_refl _) _)).mono ?_
       rintro e w4 ⟨hb, ad, cg, rfl, _⟩
       rw [HVV.out]
       have C4 : Hid (PB w w4 pc pr pid #[Value.int IntKind.i64 n, Value.slice a zs.length cap, Value.slice ao ko co, Value.slice av kv cv, Value.int IntKind.i64 fine] #[Value.int IntKind.i64 veh, Value.slice bi ids.length c2] #[Value.int IntKind.i64 id]) := (C3.out.alloc (Obj.cells #[Value.int IntKind.i64 0, Value.slice none 0 0] 32)).below hb
       have V4 := below_row hb (k := w3.heap.size) (by simp) (heap_alloc_new w3 (Obj.cells #[Value.int IntKind.i64 0, Value.slice none 0 0] 32))
       obtain ⟨z0, z1⟩ := cells2 V4
       have zf := fun i => frozen_of_row _ _ i _ _ V4
       have kS := pb8 C4.out
       clear hb)))
  all_goals
    clear kS
    have LG3 := C3.out.size
    have LG4 := C4.out.size
    go_wp2
    go_ret2
    refine ⟨rfl, ?_⟩
    repeat (first | with_reducible exact C4.out.b | refine Below.setCell ?_ (by first | omega | (simp; done) | (simp; omega)) _ | refine Below.alloc ?_ (by first | omega | (simp; done) | (simp; omega)) _)

end Go.Proofs.Ytplefpmchhcfcaa

namespace Go.Proofs.Ytplefpmchhcfcaa
open Go.RowKit

/-- A case, a route and an order's number, in their boxes. -/
def CI (w W : World) (cs rs is : Array Value) : Prop := Below w.heap.size w W ∧ W.heap[w.heap.size]? = some (.cells cs 30 (0, 0)) ∧ W.heap[w.heap.size + 1]? = some (.cells rs 32 (0, 0)) ∧ W.heap[w.heap.size + 1 + 1]? = some (.cells is 2 (0, 0))
theorem CI.new (w : World) (cs rs is : Array Value) : CI w (((w.alloc (.cells cs 30)).alloc (.cells rs 32)).alloc (.cells is 2)) cs rs is := by
  refine ⟨(((Below.refl _ _).alloc (Nat.le_refl _) _).alloc (by simp) _).alloc (by simp; omega) _, ?_, ?_, ?_⟩
  · exact (heap_alloc_old _ _ (by simp; omega)).trans (heap_alloc2_old _ _ _)
  · exact (heap_alloc_old _ _ (by simp)).trans (heap_alloc2_new _ _ _)
  · have := heap_alloc_new ((w.alloc (.cells cs 30)).alloc (.cells rs 32)) (.cells is 2)
    simpa using this
theorem CI.b {w W : World} {cs rs is : Array Value} (h : CI w W cs rs is) : Below w.heap.size w W := h.1
theorem CI.below {w W W' : World} {cs rs is : Array Value} (h : CI w W cs rs is) (hb : Below W.heap.size W W') : CI w W' cs rs is :=
  ⟨h.1.trans (hb.mono h.1.size), below_row hb (row_lt h.2.1) h.2.1, below_row hb (row_lt h.2.2.1) h.2.2.1, below_row hb (row_lt h.2.2.2) h.2.2.2⟩
theorem CI.alloc {w W : World} {cs rs is : Array Value} (h : CI w W cs rs is) (o : Obj) : CI w (W.alloc o) cs rs is := h.below ((Below.refl _ _).alloc (Nat.le_refl _) _)

set_option maxHeartbeats 4000000 in
theorem implBestPlace_any (n fine veh : Int) (a ao av bi : Option Addr) (cap ko co kv cv c2 : Nat) (zs os vs ids : List Int) (w : World) (hA : IntsAt w a zs) (hO : IntsAt w ao os) (hV : IntsAt w av vs) (hI : IntsAt w bi ids) (hlo : os.length = ko * 6) (hlv : vs.length = kv * 5) (hko : ko ≤ 9223372036854775807) (hkv : kv ≤ 9223372036854775807) (hli : ids.length ≤ 9223372036854775807) (hc2 : ids.length ≤ c2) (hbi : (bi = none ∧ ids.length = 0) ∨ ∃ b off, bi = some ⟨b, off, none⟩) (id : Int) (s0 : PS) (hs0 : bpV (caseB n zs os vs ko kv fine) n zs os vs ko kv veh ids id = s0) :
    Calls Try.prog 18 #[.agg #[.int .i64 n, .slice a zs.length cap, .slice ao ko co, .slice av kv cv, .int .i64 fine], .agg #[.int .i64 veh, .slice bi ids.length c2], .int .i64 id] w fun e w' => e = .returned (.tuple #[.int .i64 (s0.i : Int), .int .i64 s0.v, .bool s0.f]) ∧ Below w.heap.size w w' := by
  have HA : Hid (IntsAt w a zs) := hA
  have HO : Hid (IntsAt w ao os) := hO
  have HV : Hid (IntsAt w av vs) := hV
  have HI : Hid (IntsAt w bi ids) := hI
  have HLO : Hid _ := hlo
  have HLV : Hid _ := hlv
  have HBI : Hid ((bi = none ∧ ids.length = 0) ∨ ∃ b off, bi = some ⟨b, off, none⟩) := hbi
  clear hA hO hV hI hlo hlv hbi
  have HS0 : Hid (bpV (caseB n zs os vs ko kv fine) n zs os vs ko kv veh ids id = s0) := hs0
  clear hs0
  have C0 : Hid (CI w (((w.alloc (.cells #[Value.int IntKind.i64 n, Value.slice a zs.length cap, Value.slice ao ko co, Value.slice av kv cv, Value.int IntKind.i64 fine] 30)).alloc (.cells #[Value.int IntKind.i64 veh, Value.slice bi ids.length c2] 32)).alloc (.cells #[Value.int IntKind.i64 id] 2)) _ _ _) := CI.new w _ _ _
  have hmf : ∀ (fn : Fn) (first cap : Array Value) (w : World), (Instr.makeFunc fn first cap).run Try.prog w = .ok (.func fn first cap) w := fun _ _ _ _ => rfl
  go_enter Try.func18, Try.ntmps18
  obtain ⟨c0, c1, c2', c3, c4⟩ := cells5 C0.out.2.1
  obtain ⟨d0, d1⟩ := cells2 C0.out.2.2.1
  go_wp2_with fail
  clear c0 c1 c2' c3 c4 d0 d1
  refine (checkedTour_any n fine veh a ao av bi cap ko co kv cv c2 zs os vs ids _ (HA.out.below C0.out.1) (HO.out.below C0.out.1) (HV.out.below C0.out.1) (HI.out.below C0.out.1) HLO.out HLV.out hko hkv hli hc2).mono ?_
  rintro e w1 ⟨hb, ⟨hf, rfl⟩ | ⟨hf, g, _, rfl, _⟩⟩
  · have C1 : Hid (CI w (w1.alloc (.cells #[Value.int IntKind.i64 0, Value.slice none 0 0, Value.int IntKind.i64 0, Value.int IntKind.i64 0, Value.int IntKind.i64 0, Value.int IntKind.i64 0, Value.int IntKind.i64 0, Value.slice none 0 0] 68)) _ _ _) := (C0.out.below hb).alloc _
    have HZ : Hid (s0 = ps0) := HS0.out.symm.trans (pst_none (plB_no hf) _)
    obtain ⟨fv, HFV⟩ : ∃ t, Hid (codeV (caseB n zs os vs ko kv fine) n zs os vs ko kv veh ids = t) := ⟨_, rfl⟩
    rw [HFV.out] at hf ⊢
    have hfb : (fv != 0) = true := by simp [hf]
    clear hb hf
    go_wp2
    go_ret3
    refine ⟨?_, C1.out.1⟩
    rw [HZ.out]
    rfl
  · have hcb := code_case hf
    have h12 := code12 hf
    have hbt : pst (plB true n zs os vs ko kv veh ids id) (plD true n zs os vs ko kv veh ids id) (ids.length + 1) = s0 := by
      rw [← HS0.out]
      unfold bpV
      rw [hcb]
    have HB : Hid (pst (plB true n zs os vs ko kv veh ids id) (plD true n zs os vs ko kv veh ids id) (ids.length + 1) = s0) := hbt
    have HC : Hid (caseB n zs os vs ko kv fine = true) := hcb
    obtain ⟨v0, G0⟩ : ∃ t, Hid (fnd5F vs kv veh 0 = t) := ⟨_, rfl⟩
    obtain ⟨v1, G1⟩ : ∃ t, Hid (fnd5F vs kv veh 1 = t) := ⟨_, rfl⟩
    obtain ⟨v2, G2⟩ : ∃ t, Hid (fnd5F vs kv veh 2 = t) := ⟨_, rfl⟩
    obtain ⟨v3, G3⟩ : ∃ t, Hid (fnd5F vs kv veh 3 = t) := ⟨_, rfl⟩
    obtain ⟨v4, G4⟩ : ∃ t, Hid (fnd5F vs kv veh 4 = t) := ⟨_, rfl⟩
    rw [G0.out, G1.out, G2.out, G3.out, G4.out]
    have C1 : Hid (CI w (w1.alloc (.cells #[Value.int IntKind.i64 n, Value.slice a zs.length cap, Value.int IntKind.i64 v0, Value.int IntKind.i64 v1, Value.int IntKind.i64 v2, Value.int IntKind.i64 v3, Value.int IntKind.i64 v4, Value.slice (some ⟨g, 0, none⟩) ids.length ids.length] 68)) #[Value.int IntKind.i64 n, Value.slice a zs.length cap, Value.slice ao ko co, Value.slice av kv cv, Value.int IntKind.i64 fine] #[Value.int IntKind.i64 veh, Value.slice bi ids.length c2] #[Value.int IntKind.i64 id]) := (C0.out.below hb).alloc _
    clear hb hf hcb hbt G0 G1 G2 G3 G4 C0
    obtain ⟨d0, d1⟩ := cells2 C1.out.2.2.1
    go_wp2_with fail
    clear d0 d1
    refine (placesFor_any veh bi c2 ids.length _ h12).mono ?_
    rintro e w3 ⟨gp, cp, rfl, hb, hint⟩
    have C3 : Hid (CI w w3 #[Value.int IntKind.i64 n, Value.slice a zs.length cap, Value.slice ao ko co, Value.slice av kv cv, Value.int IntKind.i64 fine] #[Value.int IntKind.i64 veh, Value.slice bi ids.length c2] #[Value.int IntKind.i64 id]) := C1.out.below hb
    have I3 : Hid (IntsAt w3 (some ⟨gp, 0, none⟩) (rngL (ids.length + 1))) := hint
    clear hb hint C1
    go_wp2_with fail
    refine (leastPlace_any gp cp w.heap.size (w.heap.size + 1) (w.heap.size + 1 + 1) (ids.length + 1) (plB true n zs os vs ko kv veh ids id) (plD true n zs os vs ko kv veh ids id) w3 I3.out (by omega) (fun W i hW => ?_) s0 HB.out).mono ?_
    · have hB := C3.out.b.trans (hW.mono C3.out.b.size)
      exact place1_any n fine veh a ao av bi cap ko co kv cv c2 zs os vs ids W (HA.out.below hB) (HO.out.below hB) (HV.out.below hB) (HI.out.below hB) HLO.out HLV.out hko hkv hli hc2 HBI.out HC.out id w.heap.size (w.heap.size + 1) (w.heap.size + 1 + 1) (below_row hW (row_lt C3.out.2.1) C3.out.2.1) (below_row hW (row_lt C3.out.2.2.1) C3.out.2.2.1) (below_row hW (row_lt C3.out.2.2.2) C3.out.2.2.2) i
    rintro e w4 ⟨rfl, hb⟩
    have B4 : Hid (Below w.heap.size w w4) := C3.out.b.trans (hb.mono C3.out.b.size)
    clear hb
    obtain ⟨sf, si, sv⟩ := s0
    simp only
    go_wp2
    go_ret3
    exact ⟨rfl, B4.out⟩

end Go.Proofs.Ytplefpmchhcfcaa
