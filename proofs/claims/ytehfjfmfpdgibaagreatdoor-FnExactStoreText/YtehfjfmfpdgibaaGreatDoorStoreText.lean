import Derived.Test.YtehfjfmfpdgibaaGreatDoorSentTwo
import Derived.Test.YtehfjfmfpdgibaaGreatDoorPowTab
import Derived.Test.YtehfjfmfpdgibaaGreatDoorPack31
import Derived.Test.YtehfjfmfpdgibaaGreatDoorLiftStore
namespace Go.Proofs.YtehfjfmfpdgibaaGreatDoor
open Go.ChangeShapes Go.WideShapes Go.ChangeAt Go.RowKit Go.ChangeMaps Go.Joins Go.Deep
theorem gsT_of {W : World} (h : laidMetH Tryz.prog Rows.fnExactStoreTextRow.laid W) : GS W := by
 have h2 := laidMetH.filter (fun x => x.1 == "loop.example/g00265/impl.errNoSnap" || x.1 == "loop.example/g00265/impl.errNoVersion") h
 exact gs_of h2
theorem pwT_of {W : World} (h : laidMetH Tryz.prog Rows.fnExactStoreTextRow.laid W) : PW W := by
 have h2 := laidMetH.filter (fun x => x.1 == "internal/strconv.uint64pow10") h
 have h3 : laidMetH Tryz.prog [("internal/strconv.uint64pow10", Rows.laid_internal_strconv_uint64pow10)] W := h2
 exact Lib.tabIs_of_head (rest := []) gPow gPowType Tryz.underlying263 Tryz.underlying236 cellsU64 cellsPow h3
noncomputable def textWorld (os : Os) : World :=
 { sentWorld2 os with heap := putTab (putTab (putTab (sentWorld2 os).heap 4 (litCells Rows.laid_internal_strconv_uint64pow10)) 5 (litCells Rows.laid_math_bits_deBruijn32tab)) 6 (litCells Rows.laid_math_bits_deBruijn64tab) }
set_option maxRecDepth 100000 in
theorem contractStoreText (H : Type) (enc : TypeId × Value -> H) (W : World) (base : Nat) (args : Array Value) (ds gs : List (DataW H)) (before : List MemPlace)
 (hval0 : ∀ (j : Nat) t v, Tryz.f6.params[j]? = some t -> args[j]? = some v -> Value.okWide Tryz.prog W .any base t v)
 (hW : DataW.Whole enc Tryz.prog Tryz.f6.params.toList Rows.fnExactStoreTextSpec.vars false W args.toList ds gs before) (hL : laidMetH Tryz.prog Rows.fnExactStoreTextRow.laid W) :
 Calls Tryz.prog 6 args W fun e W' => ∃ v, e = .returned v /\ Rows.fnExactStoreTextSpec.post enc Tryz.prog Tryz.f6 false true false false W args v W' := by
 have hval : ∀ (j : Nat) t v, Tryz.f6.params[j]? = some t -> args[j]? = some v -> Value.okWide Tryz.prog W .any base t v := hval0
 have hW' := hW
 obtain ⟨p, q, hA0, hV, rfl, hfz, hnd⟩ := hW
 have hA : DataW.TrodAll enc Tryz.prog W 0 (fun _ => true) true Tryz.f6.params.toList args.toList ds p := hA0
 rw [Tryz.params6] at hA hval
 obtain ⟨v0, vs0, d0, ds0, p0, q0, hargs, rfl, rfl, h0, r0⟩ := trodAll_cons hA
 obtain ⟨rfl, rfl, rfl⟩ := trodAll_nil r0
 obtain rfl : args = #[v0] := by cases args; simp_all
 have k0 := h0
 have lt0 : ∀ x ∈ p0, x.block < W.heap.size := by obtain ⟨m, hm⟩ := k0; exact DataW.trod_lt m _ _ _ hm
 obtain ⟨a, c, T, rfl, hn, hT, hok⟩ := store_open (hval 0 24 v0 rfl rfl) h0
 obtain ⟨g1, g2, rfl⟩ : ∃ g1 g2, gs = [g1, g2] := by
  match gs, hV with
  | [g1, g2], _ => exact ⟨g1, g2, rfl⟩
  | [], h => exact h.elim
  | [_], h => obtain ⟨_, _, _, _, _, _, _, _, _, _, h, _⟩ := h; exact h.elim
  | _ :: _ :: _ :: _, h => obtain ⟨_, _, _, _, _, _, _, _, _, _, h, _⟩ := h; obtain ⟨_, _, _, _, _, _, _, _, _, _, h, _⟩ := h; exact h.elim
 clear hA0 hval0
 refine (lawStoreText a c T W hT hn hok (gsT_of hL) (pwT_of hL)).mono fun e W' ⟨he, bel⟩ => ?_
 subst he
 exact ⟨_, rfl, _, _, _, [], _, _, hW', trodAll_mk1 (shut_bool Tryz.underlying4 _), (trodAll_cons_mk (Below.trod Tryz.laidOut (by kernel_rfl) (of_decide_eq_true (by kernel_rfl)) k0 bel lt0) trodAll_mk0), Below.trodVars Tryz.laidOut bel varsSent2 hV, bel.frame _, fun h => by cases h⟩
theorem metStoreText (os : Os) : laidMet Tryz.prog Rows.fnExactStoreTextRow.laid ((textWorld os).forCall (fun _ _ => 0) ⟨#[], #[.agg #[.slice none 0 0]], []⟩).memory :=
 laidMet_of_run' 40 (by kernel_rfl) (by kernel_rfl)
theorem readsStoreText (os : Os) {H : Type} (enc : TypeId × Value -> H) : ∃ gs places, DataW.whole enc Tryz.prog ((textWorld os).forCall (fun _ _ => 0) ⟨#[], #[.agg #[.slice none 0 0]], []⟩).memory Tryz.f6.params.toList Rows.fnExactStoreTextSpec.vars false #[Value.agg #[.slice none 0 0]].toList 32 = some ([.agg [.nil]], gs, places) :=
 ⟨[.held (enc (292, .pointer (some ⟨sentLow2, 0, none⟩))), .held (enc (292, .pointer (some ⟨sentLow2 + 1, 0, none⟩)))], MemPlace.row ⟨2, 0, none⟩ 1 ++ MemPlace.row ⟨1, 0, none⟩ 1, by kernel_rfl⟩
set_option maxRecDepth 100000 in
theorem liftedStoreText (os : Os) (started : os.Started) (H : Type) (enc : TypeId × Value -> H) (F : Stop.Interp) :
 ReturnsInHanded {} Tryz.checked os 6 .any ((OpenSpec.ofChange Rows.fnExactStoreTextSpec).preRow enc Tryz.prog Tryz.f6 Rows.fnExactStoreTextRow.domain false Rows.fnExactStoreTextRow.laid) (((OpenSpec.ofChange Rows.fnExactStoreTextSpec).at F).post enc Tryz.prog Tryz.f6 false true false false) := by
 obtain ⟨gs, places, hx⟩ := readsStoreText os enc
 refine returnsInHanded_of_row (C := Tryz.checked) (s := OpenSpec.ofChange Rows.fnExactStoreTextSpec) Tryz.own started (by kernel_rfl) Tryz.func6
  (witness_row_at (enc := enc) (C := Tryz.checked) false (textWorld os) #[.agg #[.slice none 0 0]] rfl (by kernel_rfl) (by kernel_rfl) (by kernel_rfl)
    (OpenSpec.preRow_of_cond 32 hx (by kernel_rfl) (fun k hk => by cases hk) (by kernel_rfl) (metStoreText os))) ?_
 intro W base args ds gs before hval hW _ _ _ hL _ _
 exact contractStoreText H enc W base args ds gs before hval hW hL
theorem saidStoreText : Rows.FnExactStoreTextSaid :=
 OpenClaim.holds_of_cond 6 Tryz.f6 rfl rfl rfl rfl rfl rfl rfl ⟨rfl, rfl, rfl, rfl, rfl⟩ rfl rfl rfl rfl rfl (by kernel_rfl) Tryz.func6 (by kernel_rfl)
  (of_decide_eq_true (by kernel_rfl)) (by unfold Func.isWrapper; first | (rw [if_pos (by decide +kernel)]; kernel_rfl) | (rw [if_neg (by decide +kernel)]; exact ⟨rfl, rfl⟩))
  (fun os started H enc _ F => by rw [OpenClaim.pre_eq_preRow]; exact liftedStoreText os started H enc F)
theorem plainStoreText (f : FuncId) (fn : Func) (hf : Tryz.pinned.checked.prog.funcNamed "loop.example/g00265/laws.FnExactStoreText" = some f) (hfn : Tryz.pinned.checked.prog.funcs[f]? = some fn) :
 false = Tryz.pinned.checked.prog.looks [] /\ ∀ (j : Nat) t, fn.params[j]? = some t -> Tryz.pinned.checked.prog.wantsStandIn t = false := by
 obtain rfl : f = 6 := Option.some.inj ((show Tryz.prog.funcNamed "loop.example/g00265/laws.FnExactStoreText" = some 6 by kernel_rfl).symm.trans hf) |>.symm
 obtain rfl : fn = Tryz.f6 := (Option.some.inj (Tryz.func6.symm.trans hfn)).symm
 refine ⟨by kernel_rfl, fun j t ht => ?_⟩
 rw [Tryz.params6] at ht
 obtain rfl : t = 24 := by simpa using Array.mem_of_getElem? ht
 exact (show Tryz.prog.wantsStandIn 24 = false by kernel_rfl)
theorem provedFnExactStoreText : Rows.FnExactStoreTextCardSaid :=
 Claim7.holds_tied_plain_at .later [] _ _ _ _ saidStoreText (fun _ h => by cases h) (by kernel_rfl) (fun _ h => by cases h) fnExactStoreText_row_tie rfl ⟨rfl, rfl⟩ (by kernel_rfl) rfl plainStoreText (by kernel_rfl)
#print axioms provedFnExactStoreText
end Go.Proofs.YtehfjfmfpdgibaaGreatDoor
