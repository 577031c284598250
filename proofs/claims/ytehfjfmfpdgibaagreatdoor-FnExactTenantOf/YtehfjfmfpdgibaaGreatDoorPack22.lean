import Derived.Test.YtehfjfmfpdgibaaGreatDoorPack21
import Derived.Lib.SmallJoins
namespace Go.Proofs.YtehfjfmfpdgibaaGreatDoor
open Go.RowKit
set_option maxHeartbeats 1000000 in
theorem cloneI_any (a : Option Addr) (c n : Nat) (F : List Int) (w : World) (hF : IntsAt w a F) (hn : F.length = n * 1) (hl : n <= 1048576) :
 Calls Tryz.prog 110 #[.slice a n c] w fun e w' => ∃ ao co, e = .returned (.slice ao n co) /\ Below w.heap.size w w' /\ w'.ownsRow w.heap.size 2 1 (.slice ao n co) n (F.map (Value.int .i64)) := by
 have hnl := fun (W : World) => Lib.run_eql_slice_nil (P := Tryz.prog) W 44 _ a n c 0 0 Tryz.underlying44
 cases a with
 | none =>
   have h0 : F = [] := by
    cases F with
    | nil => rfl
    | cons f F => obtain ⟨b, off, e, _⟩ := hF 0 (by simp); cases e
   subst h0
   simp only [List.length_nil] at hn
   have h9 : n = 0 := by omega
   clear hn
   subst h9
   go_enter Tryz.func110, Tryz.ntmps110
   go_wp2
   go_ret
   exact ⟨none, 0, rfl, Below.refl _ _, ⟨rfl, .inl ⟨rfl, rfl⟩⟩⟩
 | some A =>
   have ON : Hid ((w.alloc (.cells #[] 2)).ownsRow w.heap.size 2 1 (.slice (some ⟨w.heap.size, 0, none⟩) 0 0) 0 ([] : List Value)) := hdn (own_nil0 w _ 1 _ (Nat.le_refl _))
   have BN : Hid (Below w.heap.size w (w.alloc (.cells #[] 2))) := hdn ((Below.refl _ _).alloc (Nat.le_refl _) _)
   have HFC := hdn (ints_cellsO (hF.below BN.out))
   have HN := hdn hn
   clear hF hn
   go_enter Tryz.func110, Tryz.ntmps110
   go_wp2_with (
    at_builtin
    refine append_opt Tryz.underlying44 infoIn1 rfl (by decide) _ rfl _ _ rfl w.heap.size _ 0 [] rfl ON.out (some A) n c (F.map (Value.int .i64)) rfl (by rw [List.length_map, HN.out]) HFC.out (by simp [Value.oneCell']) (by omega) (by omega) BN.out.size ?_
    intro v' w4 hown hg hbk hnl
    rw [List.nil_append, Nat.zero_add] at hown
    obtain ⟨ao, co, rfl⟩ := own_anyV hown
    have O4 := hdn hown
    have B4 : Hid (Below w.heap.size w w4) := hdn (BN.out.grown hg BN.out.size (fun k e => (ON.out.lt k e).1))
    clear hown hg hbk hnl)
   go_ret
   exact ⟨ao, co, rfl, B4.out, O4.out⟩
set_option maxHeartbeats 1000000 in
theorem cloneO_any (a : Option Addr) (c n : Nat) (F : List Int) (w : World) (hF : IntsAt w a F) (hn : F.length = n * 6) (hl : n <= 1048576) :
 Calls Tryz.prog 135 #[.slice a n c] w fun e w' => ∃ ao co, e = .returned (.slice ao n co) /\ Below w.heap.size w w' /\ w'.ownsRow w.heap.size 146 6 (.slice ao n co) n (F.map (Value.int .i64)) := by
 have hnl := fun (W : World) => Lib.run_eql_slice_nil (P := Tryz.prog) W 75 _ a n c 0 0 Tryz.underlying75
 cases a with
 | none =>
   have h0 : F = [] := by
    cases F with
    | nil => rfl
    | cons f F => obtain ⟨b, off, e, _⟩ := hF 0 (by simp); cases e
   subst h0
   simp only [List.length_nil] at hn
   have h9 : n = 0 := by omega
   clear hn
   subst h9
   go_enter Tryz.func135, Tryz.ntmps135
   go_wp2
   go_ret
   exact ⟨none, 0, rfl, Below.refl _ _, ⟨rfl, .inl ⟨rfl, rfl⟩⟩⟩
 | some A =>
   have ON : Hid ((w.alloc (.cells #[] 146)).ownsRow w.heap.size 146 6 (.slice (some ⟨w.heap.size, 0, none⟩) 0 0) 0 ([] : List Value)) := hdn (own_nil0 w _ 6 _ (Nat.le_refl _))
   have BN : Hid (Below w.heap.size w (w.alloc (.cells #[] 146))) := hdn ((Below.refl _ _).alloc (Nat.le_refl _) _)
   have HFC := hdn (ints_cellsO (hF.below BN.out))
   have HN := hdn hn
   clear hF hn
   go_enter Tryz.func135, Tryz.ntmps135
   go_wp2_with (
    at_builtin
    refine append_opt Tryz.underlying75 infoOr6 rfl (by decide) _ rfl _ _ rfl w.heap.size _ 0 [] rfl ON.out (some A) n c (F.map (Value.int .i64)) rfl (by rw [List.length_map, HN.out]) HFC.out (by simp [Value.oneCell']) (by omega) (by omega) BN.out.size ?_
    intro v' w4 hown hg hbk hnl
    rw [List.nil_append, Nat.zero_add] at hown
    obtain ⟨ao, co, rfl⟩ := own_anyV hown
    have O4 := hdn hown
    have B4 : Hid (Below w.heap.size w w4) := hdn (BN.out.grown hg BN.out.size (fun k e => (ON.out.lt k e).1))
    clear hown hg hbk hnl)
   go_ret
   exact ⟨ao, co, rfl, B4.out, O4.out⟩
set_option maxHeartbeats 1000000 in
theorem cloneV_any (a : Option Addr) (c n : Nat) (F : List Int) (w : World) (hF : IntsAt w a F) (hn : F.length = n * 5) (hl : n <= 1048576) :
 Calls Tryz.prog 136 #[.slice a n c] w fun e w' => ∃ ao co, e = .returned (.slice ao n co) /\ Below w.heap.size w w' /\ w'.ownsRow w.heap.size 137 5 (.slice ao n co) n (F.map (Value.int .i64)) := by
 have hnl := fun (W : World) => Lib.run_eql_slice_nil (P := Tryz.prog) W 76 _ a n c 0 0 Tryz.underlying76
 cases a with
 | none =>
   have h0 : F = [] := by
    cases F with
    | nil => rfl
    | cons f F => obtain ⟨b, off, e, _⟩ := hF 0 (by simp); cases e
   subst h0
   simp only [List.length_nil] at hn
   have h9 : n = 0 := by omega
   clear hn
   subst h9
   go_enter Tryz.func136, Tryz.ntmps136
   go_wp2
   go_ret
   exact ⟨none, 0, rfl, Below.refl _ _, ⟨rfl, .inl ⟨rfl, rfl⟩⟩⟩
 | some A =>
   have ON : Hid ((w.alloc (.cells #[] 137)).ownsRow w.heap.size 137 5 (.slice (some ⟨w.heap.size, 0, none⟩) 0 0) 0 ([] : List Value)) := hdn (own_nil0 w _ 5 _ (Nat.le_refl _))
   have BN : Hid (Below w.heap.size w (w.alloc (.cells #[] 137))) := hdn ((Below.refl _ _).alloc (Nat.le_refl _) _)
   have HFC := hdn (ints_cellsO (hF.below BN.out))
   have HN := hdn hn
   clear hF hn
   go_enter Tryz.func136, Tryz.ntmps136
   go_wp2_with (
    at_builtin
    refine append_opt Tryz.underlying76 infoVe5 rfl (by decide) _ rfl _ _ rfl w.heap.size _ 0 [] rfl ON.out (some A) n c (F.map (Value.int .i64)) rfl (by rw [List.length_map, HN.out]) HFC.out (by simp [Value.oneCell']) (by omega) (by omega) BN.out.size ?_
    intro v' w4 hown hg hbk hnl
    rw [List.nil_append, Nat.zero_add] at hown
    obtain ⟨ao, co, rfl⟩ := own_anyV hown
    have O4 := hdn hown
    have B4 : Hid (Below w.heap.size w w4) := hdn (BN.out.grown hg BN.out.size (fun k e => (ON.out.lt k e).1))
    clear hown hg hbk hnl)
   go_ret
   exact ⟨ao, co, rfl, B4.out, O4.out⟩
theorem CC.below {w W W' : World} {s : Array Value} (h : CC w W s) (hb : Below W.heap.size W W') : CC w W' s := ⟨h.b.trans (hb.mono h.b.size), below_row hb (row_lt h.s) h.s, below_row hb (row_lt h.o) h.o⟩
set_option maxHeartbeats 4000000 in
theorem implCopyCase_any (s : SN) (w : World) (ho : SNOk 1048576 s) (hA : SNAt w s) :
 Calls Tryz.prog 89 #[.agg #[.int .i64 s.c.n, .slice s.za s.c.zs.length s.zc, .slice s.oa s.c.ko s.oc, .slice s.va s.c.kv s.vc, .int .i64 s.c.f]] w fun e w' => ∃ s' : SN, e = .returned (.agg #[.int .i64 s'.c.n, .slice s'.za s'.c.zs.length s'.zc, .slice s'.oa s'.c.ko s'.oc, .slice s'.va s'.c.kv s'.vc, .int .i64 s'.c.f]) /\ s'.plain = s.plain /\ Below w.heap.size w w' /\ SNO w' (w.heap.size + 2) s' := by
 obtain ⟨id, ⟨cn, cf, zs, os, vs, ko, kv⟩, za, oa, va, zc, oc, vc⟩ := s
 have KZ : Hid (∀ W, Below w.heap.size w W -> Calls Tryz.prog 110 #[.slice za zs.length zc] W _) := fun W hW => cloneI_any za zc zs.length zs W (hA.z.below hW) (Nat.mul_one _).symm ho.zm
 have KO : Hid (∀ W, Below w.heap.size w W -> Calls Tryz.prog 135 #[.slice oa ko oc] W _) := fun W hW => cloneO_any oa oc ko os W (hA.o.below hW) ho.o ho.om
 have KV : Hid (∀ W, Below w.heap.size w W -> Calls Tryz.prog 136 #[.slice va kv vc] W _) := fun W hW => cloneV_any va vc kv vs W (hA.v.below hW) ho.v ho.vm
 clear hA ho
 simp only at KZ ⊢
 obtain ⟨nz, HNZ⟩ := nmd zs.length
 rw [HNZ.out] at KZ ⊢
 have T0 := hdn (CC.new w #[.int .i64 cn, .slice za nz zc, .slice oa ko oc, .slice va kv vc, .int .i64 cf])
 go_enter Tryz.func89, Tryz.ntmps89
 obtain ⟨c0, c1, c2, c3, c4⟩ := cells5 T0.out.s
 go_wp2_with fail
 clear c0 c1 c2 c3 c4
 generalize ((w.alloc (.cells #[.int .i64 cn, .slice za nz zc, .slice oa ko oc, .slice va kv vc, .int .i64 cf] 78)).alloc (.cells #[.int .i64 0, .slice none 0 0, .slice none 0 0, .slice none 0 0, .int .i64 0] 78)) = W0 at *
 refine (KZ.out W0 T0.out.b).mono ?_
 rintro e w1 ⟨a1, k1, rfl, hb, hz⟩
 have T1 := hdn (T0.out.below hb)
 have Z1 := hdn (owns_base hz T0.out.size)
 clear hb hz T0 KZ
 obtain ⟨c0, c1, c2, c3, c4⟩ := cells5 T1.out.s
 have f0 := fun i => frozen_of_row _ _ i _ _ T1.out.s
 have T2 : Hid (CC w (w1.setCell ⟨w.heap.size, 1, none⟩ (.slice a1 nz k1)) #[.int .i64 cn, .slice a1 nz k1, .slice oa ko oc, .slice va kv vc, .int .i64 cf]) := hdn (T1.out.put 1 (.slice a1 nz k1))
 go_wp2_with fail
 clear c0 c1 c2 c3 c4 f0
 have Z2 := hdn (owns_set (i := 1) (u := .slice a1 nz k1) Z1.out (show w.heap.size < w.heap.size + 2 by omega))
 clear T1 Z1
 generalize (w1.setCell ⟨w.heap.size, 1, none⟩ (.slice a1 nz k1)) = W2 at *
 refine (KO.out W2 T2.out.b).mono ?_
 rintro e w3 ⟨a2, k2, rfl, hb, hz⟩
 have T3 := hdn (T2.out.below hb)
 have Z3 := hdn (owns_below Z2.out hb)
 have Y3 := hdn (owns_base hz T2.out.size)
 clear hb hz T2 Z2 KO
 obtain ⟨c0, c1, c2, c3, c4⟩ := cells5 T3.out.s
 have f0 := fun i => frozen_of_row _ _ i _ _ T3.out.s
 have T4 : Hid (CC w (w3.setCell ⟨w.heap.size, 2, none⟩ (.slice a2 ko k2)) #[.int .i64 cn, .slice a1 nz k1, .slice a2 ko k2, .slice va kv vc, .int .i64 cf]) := hdn (T3.out.put 2 (.slice a2 ko k2))
 go_wp2_with fail
 clear c0 c1 c2 c3 c4 f0
 have Z4 := hdn (owns_set (i := 2) (u := .slice a2 ko k2) Z3.out (show w.heap.size < w.heap.size + 2 by omega))
 have Y4 := hdn (owns_set (i := 2) (u := .slice a2 ko k2) Y3.out (show w.heap.size < w.heap.size + 2 by omega))
 clear T3 Z3 Y3
 generalize (w3.setCell ⟨w.heap.size, 2, none⟩ (.slice a2 ko k2)) = W4 at *
 refine (KV.out W4 T4.out.b).mono ?_
 rintro e w5 ⟨a3, k3, rfl, hb, hz⟩
 have T5 := hdn (T4.out.below hb)
 have Z5 := hdn (owns_below Z4.out hb)
 have Y5 := hdn (owns_below Y4.out hb)
 have X5 := hdn (owns_base hz T4.out.size)
 clear hb hz T4 Z4 Y4 KV
 obtain ⟨c0, c1, c2, c3, c4⟩ := cells5 T5.out.s
 have f0 := fun i => frozen_of_row _ _ i _ _ T5.out.s
 obtain ⟨o0, o1, o2, o3, o4⟩ := cells5 T5.out.o
 have f1 := fun i => frozen_of_row _ _ i _ _ T5.out.o
 go_wp2
 refine bodyPost_ret (v := .agg #[.int .i64 cn, .slice a1 nz k1, .slice a2 ko k2, .slice a3 kv k3, .int .i64 cf]) (by simp [results, Tryz.results89, go_sem, o0, o1, o2, o3, o4]) rfl ⟨⟨id, ⟨cn, cf, zs, os, vs, ko, kv⟩, a1, a2, a3, k1, k2, k3⟩, by simp only [HNZ.out], rfl, ?_, ?_⟩
 · repeat (first | with_reducible exact T5.out.b | refine Below.setCell ?_ (by simp <;> omega) _)
 · have h : SNO w5 (w.heap.size + 2) ⟨id, ⟨cn, cf, zs, os, vs, ko, kv⟩, a1, a2, a3, k1, k2, k3⟩ := ⟨by simp only [HNZ.out]; exact Z5.out, Y5.out, X5.out⟩
   repeat (first | with_reducible exact h | refine SNO.set ?_ (by omega))
end Go.Proofs.YtehfjfmfpdgibaaGreatDoor
