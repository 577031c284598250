import Derived.Test.YtplefpmchhcfcaaPack22
import Derived.Test.YtplefpmchhcfcaaPutIn
namespace Go.Proofs.Ytplefpmchhcfcaa
open Go.RowKit

theorem puttingIn_any (x y : Int) (w : World) :
    Calls Try.prog 33 #[.int .i64 x, .int .i64 y] w fun e w' => ∃ p q, e = .returned (.func (.func 60) #[] #[.pointer (some ⟨p, 0, none⟩), .pointer (some ⟨q, 0, none⟩)]) ∧ Below w.heap.size w w' ∧ w'.cell? ⟨p, 0, none⟩ = some (.int .i64 y) ∧ w'.cell? ⟨q, 0, none⟩ = some (.int .i64 x) := by
  have hmf : ∀ (fn : Fn) (first cap : Array Value) (w : World), (Instr.makeFunc fn first cap).run Try.prog w = .ok (.func fn first cap) w := fun _ _ _ _ => rfl
  have h1 := cell_of_row _ _ 0 _ _ _ (heap_alloc2_old w (.cells #[Value.int IntKind.i64 x] 2) (.cells #[Value.int IntKind.i64 y] 2))
  have h2 := cell_of_row _ _ 0 _ _ _ (heap_alloc2_new w (.cells #[Value.int IntKind.i64 x] 2) (.cells #[Value.int IntKind.i64 y] 2))
  have H1 : Hid (((w.alloc (.cells #[Value.int IntKind.i64 x] 2)).alloc (.cells #[Value.int IntKind.i64 y] 2)).cell? ⟨w.heap.size, 0, none⟩ = some (.int .i64 x)) := h1
  have H2 : Hid (((w.alloc (.cells #[Value.int IntKind.i64 x] 2)).alloc (.cells #[Value.int IntKind.i64 y] 2)).cell? ⟨w.heap.size + 1, 0, none⟩ = some (.int .i64 y)) := h2
  clear h1 h2
  go_enter Try.func33, Try.ntmps33
  go_wp2
  go_ret
  exact ⟨w.heap.size + 1, w.heap.size, rfl, ((Below.refl _ _).alloc (Nat.le_refl _) _).alloc (by simp) _, H2.out, H1.out⟩

set_option maxHeartbeats 2000000 in
theorem implInsertAt_any (n fine veh : Int) (a ao av bi : Option Addr) (cap ko co kv cv c2 : Nat) (zs os vs ids : List Int) (w : World) (hA : IntsAt w a zs) (hO : IntsAt w ao os) (hV : IntsAt w av vs) (hI : IntsAt w bi ids) (hlo : os.length = ko * 6) (hlv : vs.length = kv * 5) (hko : ko ≤ 9223372036854775807) (hkv : kv ≤ 9223372036854775807) (hli : ids.length ≤ 9223372036854775807) (hc2 : ids.length ≤ c2) (hbi : (bi = none ∧ ids.length = 0) ∨ ∃ b off, bi = some ⟨b, off, none⟩) (id x : Int) (ch : Bool) (hch : chB (caseB n zs os vs ko kv fine) n zs os vs ko kv veh ids (inB x 0 (ids.length : Int)) (insL ids x.toNat id) = ch) (D : Int) (hD : chD ch n zs os vs ko kv veh ids (insL ids x.toNat id) = D) (xs : List Int) (hxs : chL ch (insL ids x.toNat id) = xs) :
    Calls Try.prog 9 #[.agg #[.int .i64 n, .slice a zs.length cap, .slice ao ko co, .slice av kv cv, .int .i64 fine], .agg #[.int .i64 veh, .slice bi ids.length c2], .int .i64 id, .int .i64 x] w (ChgOk w ch veh D xs) := by
  have HA : Hid (IntsAt w a zs) := hA
  have HO : Hid (IntsAt w ao os) := hO
  have HV : Hid (IntsAt w av vs) := hV
  have HI : Hid (IntsAt w bi ids) := hI
  have HLO : Hid _ := hlo
  have HLV : Hid _ := hlv
  clear hA hO hV hI hlo hlv
  have HCh : Hid (chB (caseB n zs os vs ko kv fine) n zs os vs ko kv veh ids (inB x 0 (ids.length : Int)) (insL ids x.toNat id) = ch) := hch
  have HD : Hid (chD ch n zs os vs ko kv veh ids (insL ids x.toNat id) = D) := hD
  have HXs : Hid (chL ch (insL ids x.toNat id) = xs) := hxs
  have HBI : Hid ((bi = none ∧ ids.length = 0) ∨ ∃ b off, bi = some ⟨b, off, none⟩) := hbi
  clear hch hD hxs hbi
  have C0 : Hid (CRR w (((w.alloc (.cells #[Value.int IntKind.i64 n, Value.slice a zs.length cap, Value.slice ao ko co, Value.slice av kv cv, Value.int IntKind.i64 fine] 30)).alloc (.cells #[Value.int IntKind.i64 veh, Value.slice bi ids.length c2] 32)).alloc (.cells #[Value.int IntKind.i64 0, Value.slice none 0 0] 32)) _ _ _) := CRR.new w _ _ _
  obtain ⟨vv, HVV⟩ : ∃ t, Hid (chI ch veh = t) := ⟨_, rfl⟩
  go_enter Try.func9, Try.ntmps9
  go_wp2_with fail
  generalize ((w.alloc (.cells #[Value.int IntKind.i64 n, Value.slice a zs.length cap, Value.slice ao ko co, Value.slice av kv cv, Value.int IntKind.i64 fine] 30)).alloc (.cells #[Value.int IntKind.i64 veh, Value.slice bi ids.length c2] 32)).alloc (.cells #[Value.int IntKind.i64 0, Value.slice none 0 0] 32) = W0 at *
  obtain ⟨c0, c1, c2', c3, c4⟩ := cells5 C0.out.1.2.1
  obtain ⟨d0, d1⟩ := cells2 C0.out.1.2.2
  obtain ⟨t0, t1⟩ := cells2 C0.out.2
  have tf := fun i => frozen_of_row _ _ i _ _ C0.out.2
  go_region_held3 (fun W => W.cell? ⟨w.heap.size, 0, none⟩ = some (.int .i64 n) ∧ W.cell? ⟨w.heap.size, 1, none⟩ = some (.slice a zs.length cap) ∧ W.cell? ⟨w.heap.size, 2, none⟩ = some (.slice ao ko co) ∧ W.cell? ⟨w.heap.size, 3, none⟩ = some (.slice av kv cv) ∧ W.cell? ⟨w.heap.size, 4, none⟩ = some (.int .i64 fine) ∧ W.cell? ⟨w.heap.size + 1, 0, none⟩ = some (.int .i64 veh) ∧ W.cell? ⟨w.heap.size + 1, 1, none⟩ = some (.slice bi ids.length c2)) (first | with_reducible exact kS | with_reducible exact cr7 (CRR.set C2.out _ _) | go_keep) ((first
    | (go_at_call 33
       with_reducible refine (puttingIn_any id x W0.drew).mono ?_
       rintro e w1 ⟨p, q, rfl, hb, hc, hcq⟩
       have hb0 := (Below.refl W0.heap.size W0).drew.trans (hb.mono (Nat.le_refl _))
       have C1 : Hid (CRR w w1 _ _ _) := C0.out.below hb0
       have P1 : Hid (w1.cell? ⟨p, 0, none⟩ = some (.int .i64 x)) := hc
       have Q1 : Hid (w1.cell? ⟨q, 0, none⟩ = some (.int .i64 id)) := hcq
       obtain ⟨k0, k1, k2, k3, k4⟩ := cells5 C1.out.1.2.1
       obtain ⟨k5, k6⟩ := cells2 C1.out.1.2.2
       have kS := And.intro k0 (And.intro k1 (And.intro k2 (And.intro k3 (And.intro k4 (And.intro k5 k6)))))
       clear hb hb0 hcq k0 k1 k2 k3 k4 k5 k6)
    | (go_at_call 32
       with_reducible refine (checked_put n fine veh a ao av bi cap ko co kv cv c2 zs os vs ids w1 (HA.out.below C1.out.b) (HO.out.below C1.out.b) (HV.out.below C1.out.b) (HI.out.below C1.out.b) HLO.out HLV.out hko hkv hli hc2 p q _ _ (fun W hW h12 => putIn_any p q x id bi c2 ids W ((hW.cell (p := ⟨p, 0, none⟩) (block_lt_of_cell P1.out)).trans P1.out) ((hW.cell (p := ⟨q, 0, none⟩) (block_lt_of_cell Q1.out)).trans Q1.out) (HI.out.below (C1.out.b.trans (hW.mono C1.out.b.size))) h12 HBI.out) ch HCh.out D HD.out xs HXs.out).mono ?_
       rintro e w2 ⟨hb, ad, cg, rfl, ho⟩
       rw [HVV.out]
       have C2 : Hid (CRR w w2 _ _ _) := C1.out.below hb
       have O2 : Hid (w2.ownsRow w1.heap.size 2 1 (.slice ad xs.length cg) xs.length _) := ho
       obtain ⟨k0, k1, k2, k3, k4⟩ := cells5 C2.out.1.2.1
       obtain ⟨k5, k6⟩ := cells2 C2.out.1.2.2
       have kS := And.intro k0 (And.intro k1 (And.intro k2 (And.intro k3 (And.intro k4 (And.intro k5 k6)))))
       obtain ⟨u0, u1⟩ := cells2 C2.out.2
       have uf := fun i => frozen_of_row _ _ i _ _ C2.out.2
       clear hb ho k0 k1 k2 k3 k4 k5 k6)))
  all_goals
    clear kS c0 c1 c2' c3 c4 d0 d1 t0 t1 tf
    have LG : Hid (w.heap.size + 2 < w1.heap.size) := C1.out.big
    go_wp2
    refine bodyPost_ret (v := .tuple #[.agg #[.int .i64 vv, .slice ad xs.length cg], .int .i64 D, .bool ch]) (by simp [results, Try.results9, go_sem, u0, u1]) rfl ⟨?_, ad, cg, ?_, ?_⟩
    · repeat (first | with_reducible exact C2.out.b | refine Below.setCell ?_ (by simp <;> omega) _)
    · rw [HVV.out]
    · exact owns_base (owns_set (owns_set O2.out LG.out) LG.out) (by have := LG.out; omega)

end Go.Proofs.Ytplefpmchhcfcaa
