/-
For every case (its times, orders and vehicles slices of whatever length), FnExactEmptyPlan answers true and all arguments read behind the call as before: impl.EmptyPlan answers as the model does, and its answer owns its memory. No condition.
-/
import Derived.Test.YtfcplmageokdiafLawEmptyPlan
import Derived.Test.YtfcplmageokdiafLiftCase
namespace Go.Proofs.Ytfcplmageokdiaf
open Go.ChangeShapes Go.WideShapes Go.ChangeAt Go.RowKit Go.Joins Go.Deep

theorem lawEmptyPlan_all (n fine : Int) (a ao av : Option Addr) (cap ko co kv cv : Nat) (zs os vs : List Int) (w : World) (hA : IntsAt w a zs) (hO : IntsAt w ao os) (hV : IntsAt w av vs) (hlo : os.length = ko * 6) (hlv : vs.length = kv * 5) (hlt : zs.length ≤ 9223372036854775807) (hko : ko ≤ 9223372036854775807) (hkv : kv ≤ 9223372036854775807) :
    Calls Try.prog 3 #[.agg #[.int .i64 n, .slice a zs.length cap, .slice ao ko co, .slice av kv cv, .int .i64 fine]] w fun e w' => e = .returned (.bool true) ∧ Below w.heap.size w w' := by
  by_cases h : zs.length + ko + kv ≤ 1048576
  · exact lawEmptyPlan n fine a ao av cap ko co kv cv zs os vs w hA hO hV hlo hlv h
  · exact lawEmptyPlan_big n fine a ao av _ cap ko co kv cv w hlt hko hkv h

set_option maxRecDepth 100000 in
theorem liftedEmptyPlan (os : Os) (started : os.Started) (H : Type) (enc : TypeId × Value → H) :
    ReturnsInHanded {} Try.checked os 3 .any (Rows.fnExactEmptyPlanSpec.pre6 enc Try.prog Try.f3 Rows.fnExactEmptyPlanRow.domain false) (Rows.fnExactEmptyPlanSpec.post enc Try.prog Try.f3 false true false false) := by
  refine returnsInHanded_of_change (C := Try.checked) Try.own started (by kernel_rfl) Try.func3
    (ChangeSpec.witness6 (enc := enc) (C := Try.checked) false ⟨#[], #[.agg #[.int .i64 0, .slice none 0 0, .slice none 0 0, .slice none 0 0, .int .i64 0]], []⟩ 8 (by kernel_rfl) (by kernel_rfl) (by kernel_rfl) (by kernel_rfl)) ?_
  intro W base args ds gs before hval0 hW hcnd _
  have hval : ∀ (j : Nat) t v, Try.f3.params[j]? = some t → args[j]? = some v → Value.okWide Try.prog W .any base t v := hval0
  have hW' := hW
  obtain ⟨p, q, hA0, hV0, rfl, hfz, hnd⟩ := hW
  have hA : DataW.TrodAll enc Try.prog W 0 (fun _ => true) true Try.f3.params.toList args.toList ds p := hA0
  rw [Try.params3] at hA hval
  obtain ⟨v0, vs0, d0, ds0, p0, q0, hargs, rfl, rfl, h0, r0⟩ := trodAll_cons hA
  obtain ⟨rfl, rfl, rfl⟩ := trodAll_nil r0
  obtain rfl : args = #[v0] := by cases args; simp_all
  obtain ⟨rfl, rfl⟩ := trodVars_none hV0
  have k0 := h0
  have lt0 : ∀ x ∈ p0, x.block < W.heap.size := by obtain ⟨m, hm⟩ := k0; exact DataW.trod_lt m _ _ _ hm
  obtain ⟨n, fine, a, ao, av, cap, ko, co, kv, cv, zs, os, vs, rfl, hlo, hlv, hlt, hko, hkv, hA1, hO1, hV1⟩ := case_open (hval 0 28 v0 rfl rfl) h0
  clear hA0 hval0
  refine (lawEmptyPlan_all n fine a ao av cap ko co kv cv zs os vs W hA1 hO1 hV1 hlo hlv hlt hko hkv).mono fun e W' ⟨he, bel⟩ => ?_
  subst he
  exact ⟨_, rfl, _, _, _, [], _, [], hW', trodAll_mk1 (shut_bool Try.underlying4 _), (trodAll_cons_mk (Below.trod Try.laidOut (by kernel_rfl) (of_decide_eq_true (by kernel_rfl)) k0 bel lt0) trodAll_mk0), rfl, bel.frame _, fun h => by cases h⟩

theorem provedEmptyPlan : Rows.FnExactEmptyPlanSaid :=
  OpenClaim.holds_of_wide 3 Try.f3 rfl rfl rfl rfl rfl rfl rfl ⟨rfl, rfl, rfl, rfl, rfl⟩ rfl rfl rfl rfl rfl (by kernel_rfl) Try.func3 (by kernel_rfl)
    (of_decide_eq_true (by kernel_rfl)) (by unfold Func.isWrapper; first | (rw [if_pos (by decide +kernel)]; kernel_rfl) | (rw [if_neg (by decide +kernel)]; exact ⟨rfl, rfl⟩))
    (fun os started H enc _ => liftedEmptyPlan os started H enc)
#print axioms provedEmptyPlan
end Go.Proofs.Ytfcplmageokdiaf
