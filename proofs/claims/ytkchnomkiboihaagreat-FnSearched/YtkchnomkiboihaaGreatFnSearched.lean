/-
For every code (a slice of bytes, of whatever length), FnSearched answers true, and the code reads behind the call as before. No condition.
-/
import Derived.Test.YtkchnomkiboihaaGreatPack46
import Derived.Test.YtkchnomkiboihaaGreatPack47
namespace Go.Proofs.YtkchnomkiboihaaGreat
open Go.ChangeShapes Go.WideShapes Go.ChangeAt Go.RowKit Go.Joins Go.Deep
open Q
set_option maxRecDepth 100000 in
theorem zB8(os:Os)(ii:os.Started)(H:Type)(enc:TypeId×Value->H):
 ReturnsInHanded {} Tryz.checked os 3 .any (Rows.fnSearchedSpec.pre6 enc Tryz.prog Tryz.f3 Rows.fnSearchedRow.domain false) (Rows.fnSearchedSpec.post enc Tryz.prog Tryz.f3 false true false false):=by
 refine returnsInHanded_of_change (C:=Tryz.checked) Tryz.own ii (by kernel_rfl) Tryz.func3
  (ChangeSpec.witness6 (enc:=enc) (C:=Tryz.checked) false ⟨#[],#[.slice none 0 0],[]⟩ 8 (by kernel_rfl) (by kernel_rfl) (by kernel_rfl) (by kernel_rfl)) ?_
 intro W base args ds gs before hval0 hW hcnd _;have At:∀(j:Nat) t v,Tryz.f3.params[j]? =some t->args[j]? =some v->Value.okWide Tryz.prog W .any base t v:=hval0;have A8:=hW;obtain⟨p,q,JU,NV,rfl,rk,cK⟩:=hW;have hA:DataW.TrodAll enc Tryz.prog W 0 (fun _=>true) true Tryz.f3.params.toList args.toList ds p:=JU;rw[Tryz.params3]at hA At;obtain⟨v0,Rr,d0,QH,p0,q0,JV,rfl,rfl,h0,r0⟩:=trodAll_cons hA;obtain⟨rfl,rfl,rfl⟩:=trodAll_nil r0;obtain rfl:args= #[v0]:=by cases args;simp_all
 obtain⟨rfl,rfl⟩:=trodVars_none NV;have k0:=h0;have Lm:∀x∈p0,x.block<W.heap.size:=by obtain⟨m,hm⟩:=k0;exact DataW.trod_lt m _ _ _ hm
 obtain⟨L5,LB,LA,rfl⟩:=okWide_slice Tryz.underlying22 (At 0 22 v0 rfl rfl);obtain⟨KI,oE⟩:=h0;obtain⟨Qu,Qp,QR,bs,e0,rfl,wQ,Dq⟩:=yp6 oE;simp[Value.cells]at e0;obtain⟨rfl,rfl,rfl⟩:=e0;clear JU hval0;refine(zP6 _ _ bs W Dq wQ).mono fun e W' ⟨he,Jo⟩=> ?_;subst he;exact⟨_,rfl,_,_,_,[],_,[],A8,trodAll_mk1 (shut_bool Tryz.underlying4 _),(trodAll_cons_mk (Below.trod Tryz.laidOut (by kernel_rfl) (of_decide_eq_true (by kernel_rfl)) k0 Jo Lm) trodAll_mk0),rfl,Jo.frame _,fun h=>by cases h⟩
theorem provedFnSearched:Rows.FnSearchedSaid:=
 OpenClaim.holds_of_wide 3 Tryz.f3 rfl rfl rfl rfl rfl rfl rfl ⟨rfl,rfl,rfl,rfl,rfl⟩ rfl rfl rfl rfl rfl (by kernel_rfl) Tryz.func3 (by kernel_rfl)
  (of_decide_eq_true (by kernel_rfl)) (by unfold Func.isWrapper;first|(rw[if_pos (by decide+kernel)];kernel_rfl)|(rw[if_neg (by decide+kernel)];exact⟨rfl,rfl⟩))
  (fun os ii H enc _=>zB8 os ii H enc)
#print axioms provedFnSearched
end Go.Proofs.YtkchnomkiboihaaGreat
