import Derived.Test.YtcapkcallaajaaaGreatDoorSentLaid
import Derived.Test.YtcapkcallaajaaaGreatDoorPack28
namespace Go.Proofs.YtcapkcallaajaaaGreatDoor
open Go.ChangeShapes Go.WideShapes Go.ChangeAt Go.RowKit Go.ChangeMaps Go.Joins Go.Deep
theorem txt_ofQ (s : ByteArray) : s = txt s.data.toList := by unfold txt; cases s; simp
set_option maxRecDepth 100000 in
theorem contractReadReq (H : Type) (enc : TypeId × Value -> H) (W : World) (base : Nat) (args : Array Value) (ds gs : List (DataW H)) (before : List MemPlace)
 (hval0 : ∀ (j : Nat) t v, Tryz.f3.params[j]? = some t -> args[j]? = some v -> Value.okWide Tryz.prog W .any base t v)
 (hW : DataW.Whole enc Tryz.prog Tryz.f3.params.toList Rows.fnExactReadRequestSpec.vars false W args.toList ds gs before) (hL : laidMetH Tryz.prog Rows.fnExactReadRequestRow.laid W) :
 Calls Tryz.prog 3 args W fun e W' => ∃ v, e = .returned v /\ Rows.fnExactReadRequestSpec.post enc Tryz.prog Tryz.f3 false true false false W args v W' := by
 have hval : ∀ (j : Nat) t v, Tryz.f3.params[j]? = some t -> args[j]? = some v -> Value.okWide Tryz.prog W .any base t v := hval0
 have hW' := hW
 obtain ⟨p, q, hA0, hV, rfl, hfz, hnd⟩ := hW
 have hA : DataW.TrodAll enc Tryz.prog W 0 (fun _ => true) true Tryz.f3.params.toList args.toList ds p := hA0
 rw [Tryz.params3] at hA hval
 obtain ⟨v0, vs0, d0, ds0, p0, q0, hargs, rfl, rfl, h0, r0⟩ := trodAll_cons hA
 obtain ⟨rfl, rfl, rfl⟩ := trodAll_nil r0
 obtain rfl : args = #[v0] := by cases args; simp_all
 obtain ⟨s, rfl, rfl, rfl, hs⟩ := open_string Tryz.underlying9 (hval 0 9 v0 rfl rfl) h0
 obtain ⟨g1, rfl⟩ : ∃ g1, gs = [g1] := by
  match gs, hV with
  | [g1], _ => exact ⟨g1, rfl⟩
  | [], h => exact h.elim
  | _ :: _ :: _, h => obtain ⟨_, _, _, _, _, _, _, _, _, _, h, _⟩ := h; exact h.elim
 clear hA0 hval0
 have hl := lawReadReq s.data.toList (by unfold maxLen at hs; simpa using hs) W (ge_of hL)
 rw [<- txt_ofQ] at hl
 refine hl.mono fun e W' ⟨he, bel⟩ => ?_
 subst he
 exact ⟨_, rfl, _, _, _, [], _, _, hW', trodAll_mk1 (shut_bool Tryz.underlying4 _), trodAll_cons_mk (shut_string Tryz.underlying9 hs) trodAll_mk0, Below.trodVars Tryz.laidOut bel varsSent hV, bel.frame _, fun h => by cases h⟩
theorem metReadReq (os : Os) : laidMet Tryz.prog Rows.fnExactReadRequestRow.laid ((sentWorld os).forCall (fun _ _ => 0) ⟨#[], #[.string ⟨#[]⟩], []⟩).memory :=
 laidMet_of_run (ps := [.cell 0 0, .cell sentLow 0]) 8 (by kernel_rfl) (by kernel_rfl) (by kernel_rfl)
theorem readsReadReq (os : Os) {H : Type} (enc : TypeId × Value -> H) : ∃ gs places, DataW.whole enc Tryz.prog ((sentWorld os).forCall (fun _ _ => 0) ⟨#[], #[.string ⟨#[]⟩], []⟩).memory Tryz.f3.params.toList Rows.fnExactReadRequestSpec.vars false #[Value.string ⟨#[]⟩].toList 32 = some ([.lit (.string [])], gs, places) :=
 ⟨[.held (enc (138, .pointer (some ⟨sentLow, 0, none⟩)))], MemPlace.row ⟨0, 0, none⟩ 1, by kernel_rfl⟩
set_option maxRecDepth 100000 in
theorem liftedReadReq (os : Os) (started : os.Started) (H : Type) (enc : TypeId × Value -> H) (F : Stop.Interp) :
 ReturnsInHanded {} Tryz.checked os 3 .any ((OpenSpec.ofChange Rows.fnExactReadRequestSpec).preRow enc Tryz.prog Tryz.f3 Rows.fnExactReadRequestRow.domain false Rows.fnExactReadRequestRow.laid) (((OpenSpec.ofChange Rows.fnExactReadRequestSpec).at F).post enc Tryz.prog Tryz.f3 false true false false) := by
 obtain ⟨gs, places, hx⟩ := readsReadReq os enc
 refine returnsInHanded_of_row (C := Tryz.checked) (s := OpenSpec.ofChange Rows.fnExactReadRequestSpec) Tryz.own started (by kernel_rfl) Tryz.func3
  (witness_row_at (enc := enc) (C := Tryz.checked) false (sentWorld os) #[.string ⟨#[]⟩] rfl (by kernel_rfl) (by kernel_rfl) (by kernel_rfl)
    (OpenSpec.preRow_of_cond 32 hx (by kernel_rfl) (fun k hk => by cases hk) (by kernel_rfl) (metReadReq os))) ?_
 intro W base args ds gs before hval hW _ _ _ hL _ _
 exact contractReadReq H enc W base args ds gs before hval hW hL
theorem saidReadReq : Rows.FnExactReadRequestSaid :=
 OpenClaim.holds_of_cond 3 Tryz.f3 rfl rfl rfl rfl rfl rfl rfl ⟨rfl, rfl, rfl, rfl, rfl⟩ rfl rfl rfl rfl rfl (by kernel_rfl) Tryz.func3 (by kernel_rfl)
  (of_decide_eq_true (by kernel_rfl)) (by unfold Func.isWrapper; first | (rw [if_pos (by decide +kernel)]; kernel_rfl) | (rw [if_neg (by decide +kernel)]; exact ⟨rfl, rfl⟩))
  (fun os started H enc _ F => by rw [OpenClaim.pre_eq_preRow]; exact liftedReadReq os started H enc F)
theorem plainReadReq (f : FuncId) (fn : Func) (hf : Tryz.pinned.checked.prog.funcNamed "loop.example/g00265/laws.FnExactReadRequest" = some f) (hfn : Tryz.pinned.checked.prog.funcs[f]? = some fn) :
 false = Tryz.pinned.checked.prog.looks [] /\ ∀ (j : Nat) t, fn.params[j]? = some t -> Tryz.pinned.checked.prog.wantsStandIn t = false := by
 obtain rfl : f = 3 := Option.some.inj ((show Tryz.prog.funcNamed "loop.example/g00265/laws.FnExactReadRequest" = some 3 by kernel_rfl).symm.trans hf) |>.symm
 obtain rfl : fn = Tryz.f3 := (Option.some.inj (Tryz.func3.symm.trans hfn)).symm
 refine ⟨by kernel_rfl, fun j t ht => ?_⟩
 rw [Tryz.params3] at ht
 obtain rfl : t = 9 := by simpa using Array.mem_of_getElem? ht
 exact (show Tryz.prog.wantsStandIn 9 = false by kernel_rfl)
theorem provedFnExactReadRequest : Rows.FnExactReadRequestCardSaid :=
 Claim7.holds_tied_plain_at .later [] _ _ _ _ saidReadReq (fun _ h => by cases h) (by kernel_rfl) (fun _ h => by cases h) fnExactReadRequest_row_tie rfl ⟨rfl, rfl⟩ (by kernel_rfl) rfl plainReadReq (by kernel_rfl)
#print axioms provedFnExactReadRequest
end Go.Proofs.YtcapkcallaajaaaGreatDoor
