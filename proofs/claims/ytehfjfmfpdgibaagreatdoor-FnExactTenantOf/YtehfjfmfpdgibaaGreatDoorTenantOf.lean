/-
For every store (its tenants, snapshots, versions, cases and plans of whatever length) and every name, FnExactTenantOf answers true, and the store and the three sentinels read behind the call as before: impl.TenantOf tells what the model tells, and what it answers shares no memory with the store. The sentinels that the row lists are as the program's text lays them (the card ties them).
-/
import Derived.Test.YtehfjfmfpdgibaaGreatDoorSentThree
import Derived.Test.YtehfjfmfpdgibaaGreatDoorPack42
import Derived.Test.YtehfjfmfpdgibaaGreatDoorLiftStore
namespace Go.Proofs.YtehfjfmfpdgibaaGreatDoor
open Go.ChangeShapes Go.WideShapes Go.ChangeAt Go.RowKit Go.ChangeMaps Go.Joins Go.Deep
set_option maxRecDepth 100000 in
theorem contractTenantOf (H : Type) (enc : TypeId × Value -> H) (W : World) (base : Nat) (args : Array Value) (ds gs : List (DataW H)) (before : List MemPlace)
 (hval0 : ∀ (j : Nat) t v, Tryz.f4.params[j]? = some t -> args[j]? = some v -> Value.okWide Tryz.prog W .any base t v)
 (hW : DataW.Whole enc Tryz.prog Tryz.f4.params.toList Rows.fnExactTenantOfSpec.vars false W args.toList ds gs before) (hL : laidMetH Tryz.prog Rows.fnExactTenantOfRow.laid W) :
 Calls Tryz.prog 4 args W fun e W' => ∃ v, e = .returned v /\ Rows.fnExactTenantOfSpec.post enc Tryz.prog Tryz.f4 false true false false W args v W' := by
 have hval : ∀ (j : Nat) t v, Tryz.f4.params[j]? = some t -> args[j]? = some v -> Value.okWide Tryz.prog W .any base t v := hval0
 have hW' := hW
 obtain ⟨p, q, hA0, hV, rfl, hfz, hnd⟩ := hW
 have hA : DataW.TrodAll enc Tryz.prog W 0 (fun _ => true) true Tryz.f4.params.toList args.toList ds p := hA0
 rw [Tryz.params4] at hA hval
 obtain ⟨v0, vs0, d0, ds0, p0, q0, hargs, rfl, rfl, h0, r0⟩ := trodAll_cons hA
 obtain ⟨v1, vs1, d1, ds1, p1, q1, rfl, rfl, rfl, h1, r1⟩ := trodAll_cons r0
 obtain ⟨rfl, rfl, rfl⟩ := trodAll_nil r1
 obtain rfl : args = #[v0, v1] := by cases args; simp_all
 have k0 := h0
 have lt0 : ∀ x ∈ p0, x.block < W.heap.size := by obtain ⟨m, hm⟩ := k0; exact DataW.trod_lt m _ _ _ hm
 obtain ⟨a, c, T, rfl, hn, hT, hok⟩ := store_open (hval 0 24 v0 rfl rfl) h0
 obtain ⟨s1, rfl, rfl, rfl, hs1⟩ := open_string Tryz.underlying9 (hval 1 9 v1 rfl rfl) h1
 obtain ⟨g1, g2, g3, rfl⟩ : ∃ g1 g2 g3, gs = [g1, g2, g3] := by
  match gs, hV with
  | [g1, g2, g3], _ => exact ⟨g1, g2, g3, rfl⟩
  | [], h => exact h.elim
  | [_], h => obtain ⟨_, _, _, _, _, _, _, _, _, _, h, _⟩ := h; exact h.elim
  | [_, _], h => obtain ⟨_, _, _, _, _, _, _, _, _, _, h, _⟩ := h; obtain ⟨_, _, _, _, _, _, _, _, _, _, h, _⟩ := h; exact h.elim
  | _ :: _ :: _ :: _ :: _, h => obtain ⟨_, _, _, _, _, _, _, _, _, _, h, _⟩ := h; obtain ⟨_, _, _, _, _, _, _, _, _, _, h, _⟩ := h; obtain ⟨_, _, _, _, _, _, _, _, _, _, h, _⟩ := h; exact h.elim
 clear hA0 hval0
 refine (lawTen a c T s1 W hT hn hok (gs3_of hL).1 (gs3_of hL).2).mono fun e W' ⟨he, bel⟩ => ?_
 subst he
 exact ⟨_, rfl, _, _, _, [], _, _, hW', trodAll_mk1 (shut_bool Tryz.underlying4 _), (trodAll_cons_mk (Below.trod Tryz.laidOut (by kernel_rfl) (of_decide_eq_true (by kernel_rfl)) k0 bel lt0) (trodAll_cons_mk (shut_string Tryz.underlying9 hs1) trodAll_mk0)), Below.trodVars Tryz.laidOut bel varsSent3 hV, bel.frame _, fun h => by cases h⟩
theorem metTenantOf (os : Os) : laidMet Tryz.prog Rows.fnExactTenantOfRow.laid ((sentWorld3 os).forCall (fun _ _ => 0) ⟨#[], #[.agg #[.slice none 0 0], .string ⟨#[]⟩], []⟩).memory :=
 laidMet_of_run (ps := [.cell 0 0, .cell (sentLow3 + 2) 0, .cell 2 0, .cell sentLow3 0, .cell 1 0, .cell (sentLow3 + 1) 0]) 8 (by kernel_rfl) (by kernel_rfl) (by kernel_rfl)
theorem readsTenantOf (os : Os) {H : Type} (enc : TypeId × Value -> H) : ∃ gs places, DataW.whole enc Tryz.prog ((sentWorld3 os).forCall (fun _ _ => 0) ⟨#[], #[.agg #[.slice none 0 0], .string ⟨#[]⟩], []⟩).memory Tryz.f4.params.toList Rows.fnExactTenantOfSpec.vars false #[Value.agg #[.slice none 0 0], .string ⟨#[]⟩].toList 32 = some ([.agg [.nil], .lit (.string [])], gs, places) :=
 ⟨[.held (enc (292, .pointer (some ⟨sentLow3, 0, none⟩))), .held (enc (292, .pointer (some ⟨sentLow3 + 1, 0, none⟩))), .held (enc (292, .pointer (some ⟨sentLow3 + 2, 0, none⟩)))], MemPlace.row ⟨2, 0, none⟩ 1 ++ (MemPlace.row ⟨1, 0, none⟩ 1 ++ MemPlace.row ⟨0, 0, none⟩ 1), by kernel_rfl⟩
set_option maxRecDepth 100000 in
theorem liftedTenantOf (os : Os) (started : os.Started) (H : Type) (enc : TypeId × Value -> H) (F : Stop.Interp) :
 ReturnsInHanded {} Tryz.checked os 4 .any ((OpenSpec.ofChange Rows.fnExactTenantOfSpec).preRow enc Tryz.prog Tryz.f4 Rows.fnExactTenantOfRow.domain false Rows.fnExactTenantOfRow.laid) (((OpenSpec.ofChange Rows.fnExactTenantOfSpec).at F).post enc Tryz.prog Tryz.f4 false true false false) := by
 obtain ⟨gs, places, hx⟩ := readsTenantOf os enc
 refine returnsInHanded_of_row (C := Tryz.checked) (s := OpenSpec.ofChange Rows.fnExactTenantOfSpec) Tryz.own started (by kernel_rfl) Tryz.func4
  (witness_row_at (enc := enc) (C := Tryz.checked) false (sentWorld3 os) #[.agg #[.slice none 0 0], .string ⟨#[]⟩] rfl (by kernel_rfl) (by kernel_rfl) (by kernel_rfl)
    (OpenSpec.preRow_of_cond 32 hx (by kernel_rfl) (fun k hk => by cases hk) (by kernel_rfl) (metTenantOf os))) ?_
 intro W base args ds gs before hval hW _ _ _ hL _ _
 exact contractTenantOf H enc W base args ds gs before hval hW hL
theorem saidTenantOf : Rows.FnExactTenantOfSaid :=
 OpenClaim.holds_of_cond 4 Tryz.f4 rfl rfl rfl rfl rfl rfl rfl ⟨rfl, rfl, rfl, rfl, rfl⟩ rfl rfl rfl rfl rfl (by kernel_rfl) Tryz.func4 (by kernel_rfl)
  (of_decide_eq_true (by kernel_rfl)) (by unfold Func.isWrapper; first | (rw [if_pos (by decide +kernel)]; kernel_rfl) | (rw [if_neg (by decide +kernel)]; exact ⟨rfl, rfl⟩))
  (fun os started H enc _ F => by rw [OpenClaim.pre_eq_preRow]; exact liftedTenantOf os started H enc F)
theorem plainTenantOf (f : FuncId) (fn : Func) (hf : Tryz.pinned.checked.prog.funcNamed "loop.example/g00265/laws.FnExactTenantOf" = some f) (hfn : Tryz.pinned.checked.prog.funcs[f]? = some fn) :
 false = Tryz.pinned.checked.prog.looks [] /\ ∀ (j : Nat) t, fn.params[j]? = some t -> Tryz.pinned.checked.prog.wantsStandIn t = false := by
 obtain rfl : f = 4 := Option.some.inj ((show Tryz.prog.funcNamed "loop.example/g00265/laws.FnExactTenantOf" = some 4 by kernel_rfl).symm.trans hf) |>.symm
 obtain rfl : fn = Tryz.f4 := (Option.some.inj (Tryz.func4.symm.trans hfn)).symm
 refine ⟨by kernel_rfl, fun j t ht => ?_⟩
 rw [Tryz.params4] at ht
 obtain rfl | rfl : t = 24 ∨ t = 9 := by simpa using Array.mem_of_getElem? ht
 · exact (show Tryz.prog.wantsStandIn 24 = false by kernel_rfl)
 · exact (show Tryz.prog.wantsStandIn 9 = false by kernel_rfl)
theorem provedFnExactTenantOf : Rows.FnExactTenantOfCardSaid :=
 Claim7.holds_tied_plain_at .later [] _ _ _ _ saidTenantOf (fun _ h => by cases h) (by kernel_rfl) (fun _ h => by cases h) fnExactTenantOf_row_tie rfl ⟨rfl, rfl⟩ (by kernel_rfl) rfl plainTenantOf (by kernel_rfl)
#print axioms provedFnExactTenantOf
end Go.Proofs.YtehfjfmfpdgibaaGreatDoor
