import Derived.Test.YtpfikhegmmpogaaPack13
import Derived.Test.YtpfikhegmmpogaaPack17
import Derived.Laws.EntriesVeiled
namespace Go.Proofs.Ytpfikhegmmpogaa
open Go.RowKit

theorem turning_any (x y : Int) (w : World) :
    Calls Try.prog 107 #[.agg #[.int .i64 x, .int .i64 y]] w fun e w' => ∃ p, w.heap.size ≤ p ∧ e = .returned (.func (.func 125) #[] #[.pointer (some ⟨p, 0, none⟩)]) ∧ Below w.heap.size w w' ∧ w'.cell? ⟨p, 0, none⟩ = some (.int .i64 x) ∧ w'.cell? ⟨p, 1, none⟩ = some (.int .i64 y) := by
  have hmf : ∀ (fn : Fn) (first cap : Array Value) (w : World), (Instr.makeFunc fn first cap).run Try.prog w = .ok (.func fn first cap) w := fun _ _ _ _ => rfl
  go_enter Try.func107, Try.ntmps107
  go_wp2
  go_ret
  refine ⟨w.heap.size, Nat.le_refl _, rfl, (Below.refl _ _).alloc (Nat.le_refl _) _, ?_⟩
  first
    | exact cell_of_row _ _ _ _ _ _ (heap_alloc_new _ _)
    | exact cells2 (heap_alloc_new _ _)

end Go.Proofs.Ytpfikhegmmpogaa

namespace Go.Proofs.Ytpfikhegmmpogaa
open Go.RowKit

/-- A case at pc, a route, a turn and the answer's route, in their boxes. -/
def RTR (w W : World) (pc : Nat) (cs rs ts zs : Array Value) : Prop := Below w.heap.size w W ∧ W.heap[pc]? = some (.cells cs 30 (0, 0)) ∧ pc < w.heap.size ∧ W.heap[w.heap.size]? = some (.cells rs 34 (0, 0)) ∧ W.heap[w.heap.size + 1]? = some (.cells ts 109 (0, 0)) ∧ W.heap[w.heap.size + 2]? = some (.cells zs 34 (0, 0))
theorem RTR.below {w W W' : World} {pc : Nat} {cs rs ts zs : Array Value} (h : RTR w W pc cs rs ts zs) (hb : Below W.heap.size W W') : RTR w W' pc cs rs ts zs :=
  ⟨h.1.trans (hb.mono h.1.size), below_row hb (row_lt h.2.1) h.2.1, h.2.2.1, below_row hb (row_lt h.2.2.2.1) h.2.2.2.1, below_row hb (row_lt h.2.2.2.2.1) h.2.2.2.2.1, below_row hb (row_lt h.2.2.2.2.2) h.2.2.2.2.2⟩
theorem RTR.b {w W : World} {pc : Nat} {cs rs ts zs : Array Value} (h : RTR w W pc cs rs ts zs) : Below w.heap.size w W := h.1
theorem RTR.z {w W : World} {pc : Nat} {cs rs ts zs : Array Value} (h : RTR w W pc cs rs ts zs) : W.heap[w.heap.size + 2]? = some (.cells zs 34 (0, 0)) := h.2.2.2.2.2
theorem RTR.big {w W : World} {pc : Nat} {cs rs ts zs : Array Value} (h : RTR w W pc cs rs ts zs) : w.heap.size + 2 < W.heap.size := row_lt h.z
theorem RTR.new (w : World) (pc : Nat) (cs rs ts zs : Array Value) (h : w.heap[pc]? = some (.cells cs 30 (0, 0))) : RTR w (((w.alloc (.cells rs 34)).alloc (.cells ts 109)).alloc (.cells zs 34)) pc cs rs ts zs := by
  have hb : Below w.heap.size w (((w.alloc (.cells rs 34)).alloc (.cells ts 109)).alloc (.cells zs 34)) := (((Below.refl _ _).alloc (Nat.le_refl _) _).alloc (by simp) _).alloc (by simp; omega) _
  refine ⟨hb, below_row hb (row_lt h) h, row_lt h, ?_, ?_, ?_⟩
  · exact (heap_alloc_old _ _ (by simp; omega)).trans (heap_alloc2_old _ _ _)
  · exact (heap_alloc_old _ _ (by simp)).trans (heap_alloc2_new _ _ _)
  · have := heap_alloc_new ((w.alloc (.cells rs 34)).alloc (.cells ts 109)) (.cells zs 34)
    simpa using this
theorem rtr9 {w W : World} {pc : Nat} {c0 c1 c2 c3 c4 r0 r1 x0 x1 : Value} {zs : Array Value} (h : RTR w W pc #[c0, c1, c2, c3, c4] #[r0, r1] #[x0, x1] zs) :
    W.cell? ⟨pc, 0, none⟩ = some c0 ∧ W.cell? ⟨pc, 1, none⟩ = some c1 ∧ W.cell? ⟨pc, 2, none⟩ = some c2 ∧ W.cell? ⟨pc, 3, none⟩ = some c3 ∧ W.cell? ⟨pc, 4, none⟩ = some c4 ∧ W.cell? ⟨w.heap.size, 0, none⟩ = some r0 ∧ W.cell? ⟨w.heap.size, 1, none⟩ = some r1 ∧ W.cell? ⟨w.heap.size + 1, 0, none⟩ = some x0 ∧ W.cell? ⟨w.heap.size + 1, 1, none⟩ = some x1 := by
  obtain ⟨k0, k1, k2, k3, k4⟩ := cells5 h.2.1
  obtain ⟨k5, k6⟩ := cells2 h.2.2.2.1
  obtain ⟨k7, k8⟩ := cells2 h.2.2.2.2.1
  exact ⟨k0, k1, k2, k3, k4, k5, k6, k7, k8⟩
theorem rtr9s {w W : World} {pc : Nat} {c0 c1 c2 c3 c4 r0 r1 x0 x1 : Value} {zs : Array Value} (h : RTR w W pc #[c0, c1, c2, c3, c4] #[r0, r1] #[x0, x1] zs) (u1 u2 : Value) :
    (fun X : World => X.cell? ⟨pc, 0, none⟩ = some c0 ∧ X.cell? ⟨pc, 1, none⟩ = some c1 ∧ X.cell? ⟨pc, 2, none⟩ = some c2 ∧ X.cell? ⟨pc, 3, none⟩ = some c3 ∧ X.cell? ⟨pc, 4, none⟩ = some c4 ∧ X.cell? ⟨w.heap.size, 0, none⟩ = some r0 ∧ X.cell? ⟨w.heap.size, 1, none⟩ = some r1 ∧ X.cell? ⟨w.heap.size + 1, 0, none⟩ = some x0 ∧ X.cell? ⟨w.heap.size + 1, 1, none⟩ = some x1) ((W.setCell ⟨w.heap.size + 1 + 1, 0, none⟩ u1).setCell ⟨w.heap.size + 1 + 1, 1, none⟩ u2) := by
  obtain ⟨k0, k1, k2, k3, k4, k5, k6, k7, k8⟩ := rtr9 h
  have hp : pc ≠ w.heap.size + 1 + 1 := by have := h.2.2.1; omega
  have h1 : w.heap.size ≠ w.heap.size + 1 + 1 := by omega
  have h2 : w.heap.size + 1 ≠ w.heap.size + 1 + 1 := by omega
  exact ⟨keep_set (keep_set k0 hp) hp, keep_set (keep_set k1 hp) hp, keep_set (keep_set k2 hp) hp, keep_set (keep_set k3 hp) hp, keep_set (keep_set k4 hp) hp, keep_set (keep_set k5 h1) h1, keep_set (keep_set k6 h1) h1, keep_set (keep_set k7 h2) h2, keep_set (keep_set k8 h2) h2⟩

set_option maxHeartbeats 2000000 in
theorem turns1_any (n fine veh : Int) (a ao av bi : Option Addr) (cap ko co kv cv c2 : Nat) (zs os vs ids : List Int) (w : World) (hA : IntsAt w a zs) (hO : IntsAt w ao os) (hV : IntsAt w av vs) (hI : IntsAt w bi ids) (hlo : os.length = ko * 6) (hlv : vs.length = kv * 5) (hko : ko ≤ 9223372036854775807) (hkv : kv ≤ 9223372036854775807) (hli : ids.length ≤ 9223372036854775807) (hc2 : ids.length ≤ c2) (hcB : caseB n zs os vs ko kv fine = true) (pc : Nat) (hpc : w.heap[pc]? = some (.cells #[Value.int IntKind.i64 n, Value.slice a zs.length cap, Value.slice ao ko co, Value.slice av kv cv, Value.int IntKind.i64 fine] 30 (0, 0))) (x y : Int) (ch : Bool) (hch : chB true n zs os vs ko kv veh ids (turnB x y ids.length) (revL ids x.toNat y.toNat) = ch) (D : Int) (hD : chD ch n zs os vs ko kv veh ids (revL ids x.toNat y.toNat) = D) (xs : List Int) (hxs : chL ch (revL ids x.toNat y.toNat) = xs) :
    Calls Try.prog 105 #[.agg #[.int .i64 veh, .slice bi ids.length c2], .agg #[.int .i64 x, .int .i64 y], .pointer (some ⟨pc, 0, none⟩)] w (ChgOk w ch veh D xs) := by
  have HA : Hid (IntsAt w a zs) := hA
  have HO : Hid (IntsAt w ao os) := hO
  have HV : Hid (IntsAt w av vs) := hV
  have HI : Hid (IntsAt w bi ids) := hI
  have HLO : Hid _ := hlo
  have HLV : Hid _ := hlv
  clear hA hO hV hI hlo hlv
  have HC : Hid (caseB n zs os vs ko kv fine = true) := hcB
  have HCh : Hid (chB true n zs os vs ko kv veh ids (turnB x y ids.length) (revL ids x.toNat y.toNat) = ch) := hch
  have HD : Hid (chD ch n zs os vs ko kv veh ids (revL ids x.toNat y.toNat) = D) := hD
  have HXs : Hid (chL ch (revL ids x.toNat y.toNat) = xs) := hxs
  clear hcB hch hD hxs
  have C0 : Hid (RTR w (((w.alloc (.cells #[Value.int IntKind.i64 veh, Value.slice bi ids.length c2] 34)).alloc (.cells #[Value.int IntKind.i64 x, Value.int IntKind.i64 y] 109)).alloc (.cells #[Value.int IntKind.i64 0, Value.slice none 0 0] 34)) pc #[Value.int IntKind.i64 n, Value.slice a zs.length cap, Value.slice ao ko co, Value.slice av kv cv, Value.int IntKind.i64 fine] #[Value.int IntKind.i64 veh, Value.slice bi ids.length c2] #[Value.int IntKind.i64 x, Value.int IntKind.i64 y] #[Value.int IntKind.i64 0, Value.slice none 0 0]) := RTR.new w pc _ _ _ _ hpc
  clear hpc
  obtain ⟨vv, HVV⟩ : ∃ t, Hid (chI ch veh = t) := ⟨_, rfl⟩
  go_enter Try.func105, Try.ntmps105
  go_wp2_with fail
  generalize (((w.alloc (.cells #[Value.int IntKind.i64 veh, Value.slice bi ids.length c2] 34)).alloc (.cells #[Value.int IntKind.i64 x, Value.int IntKind.i64 y] 109)).alloc (.cells #[Value.int IntKind.i64 0, Value.slice none 0 0] 34)) = W0 at *
  have k9 := rtr9 (C0.out.below (Below.refl _ _).drew)
  have kS := k9
  go_region_held3 (fun W => W.cell? ⟨pc, 0, none⟩ = some (.int .i64 n) ∧ W.cell? ⟨pc, 1, none⟩ = some (.slice a zs.length cap) ∧ W.cell? ⟨pc, 2, none⟩ = some (.slice ao ko co) ∧ W.cell? ⟨pc, 3, none⟩ = some (.slice av kv cv) ∧ W.cell? ⟨pc, 4, none⟩ = some (.int .i64 fine) ∧ W.cell? ⟨w.heap.size, 0, none⟩ = some (.int .i64 veh) ∧ W.cell? ⟨w.heap.size, 1, none⟩ = some (.slice bi ids.length c2) ∧ W.cell? ⟨w.heap.size + 1, 0, none⟩ = some (.int .i64 x) ∧ W.cell? ⟨w.heap.size + 1, 1, none⟩ = some (.int .i64 y)) (first | with_reducible exact kS | with_reducible exact rtr9s C2.out _ _ | go_keep) ((first
    | (go_at_call 107
       with_reducible refine (turning_any x y W0.drew).mono ?_
       rintro e w1 ⟨p, hp, rfl, hb, hc, hc1⟩
       have hb0 := (Below.refl W0.heap.size W0).drew.trans (hb.mono (Nat.le_refl _))
       have C1 : Hid (RTR w w1 pc _ _ _ _) := C0.out.below hb0
       have P1 : Hid (w1.cell? ⟨p, 0, none⟩ = some (.int .i64 x) ∧ w1.cell? ⟨p, 1, none⟩ = some (.int .i64 y)) := ⟨hc, hc1⟩
       have kS := rtr9 C1.out
       clear hb hb0)
    | (go_at_call 106
       with_reducible refine (changed_turn n fine veh a ao av bi cap ko co kv cv c2 zs os vs ids w1 (HA.out.below C1.out.b) (HO.out.below C1.out.b) (HV.out.below C1.out.b) (HI.out.below C1.out.b) HLO.out HLV.out hko hkv hli hc2 HC.out p _ _ (fun W hW h12 => turnRound_any p x y bi c2 ids W ((hW.cell (p := ⟨p, 0, none⟩) (block_lt_of_cell P1.out.1)).trans P1.out.1) ((hW.cell (p := ⟨p, 1, none⟩) (block_lt_of_cell P1.out.2)).trans P1.out.2) (HI.out.below (C1.out.b.trans (hW.mono C1.out.b.size))) h12) ch HCh.out D HD.out xs HXs.out).mono ?_
       rintro e w2 ⟨hb, ad, cg, rfl, ho⟩
       rw [HVV.out]
       have C2 : Hid (RTR w w2 pc _ _ _ _) := C1.out.below hb
       have O2 : Hid (w2.ownsRow w1.heap.size 2 1 (.slice ad xs.length cg) xs.length _) := ho
       have kS := rtr9 C2.out
       obtain ⟨u0, u1⟩ := cells2 C2.out.z
       have uf := fun i => frozen_of_row _ _ i _ _ C2.out.z
       clear hb ho)))
  all_goals
    clear kS k9
    have LG : Hid (w.heap.size + 2 < w1.heap.size) := C1.out.big
    go_wp2
    refine bodyPost_ret (v := .tuple #[.agg #[.int .i64 vv, .slice ad xs.length cg], .int .i64 D, .bool ch]) (by simp [results, Try.results105, go_sem, u0, u1]) rfl ⟨?_, ad, cg, ?_, ?_⟩
    · repeat (first | with_reducible exact C2.out.b | refine Below.setCell ?_ (by simp <;> omega) _)
    · rw [HVV.out]
    · exact owns_base (owns_set (owns_set O2.out LG.out) LG.out) (by have := LG.out; omega)

end Go.Proofs.Ytpfikhegmmpogaa
