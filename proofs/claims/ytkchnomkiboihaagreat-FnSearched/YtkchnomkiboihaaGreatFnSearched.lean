/-
For every code (a slice of bytes, of whatever length), FnSearched answers true, and the code reads behind the call as before. No condition.
-/
import Derived.Test.YtkchnomkiboihaaGreatPack46
import Derived.Test.YtkchnomkiboihaaGreatPack47
namespace Go.Proofs.YtkchnomkiboihaaGreat
open Go.ChangeShapes Go.WideShapes Go.ChangeAt Go.RowKit Go.Joins Go.Deep
open Q
set_option maxRecDepth 100000 in
theorem zC0(os:Os)(h_:os.Started)(H:Type)(enc:TypeId×Value->H):
 ReturnsInHanded {} Tryz.checked os 3 .any (Rows.fnSearchedSpec.pre6 enc Tryz.prog Tryz.f3 Rows.fnSearchedRow.domain false) (Rows.fnSearchedSpec.post enc Tryz.prog Tryz.f3 false true false false):=by
 refine returnsInHanded_of_change (C:=Tryz.checked) Tryz.own h_ (by kernel_rfl) Tryz.func3
  (ChangeSpec.witness6 (enc:=enc) (C:=Tryz.checked) false ⟨#[],#[.slice none 0 0],[]⟩ 8 (by kernel_rfl) (by kernel_rfl) (by kernel_rfl) (by kernel_rfl)) ?_
 intro W base args ds gs before hval0 hW hcnd _;have Ac:∀(j:Nat) t v,Tryz.f3.params[j]? =some t->args[j]? =some v->Value.okWide Tryz.prog W .any base t v:=hval0;have vZ:=hW;obtain⟨p,q,Je,MQ,rfl,rk,cH⟩:=hW;have hA:DataW.TrodAll enc Tryz.prog W 0 (fun _=>true) true Tryz.f3.params.toList args.toList ds p:=Je;rw[Tryz.params3]at hA Ac;obtain⟨v0,Ra,d0,Ri,p0,q0,JY,rfl,rfl,h0,r0⟩:=trodAll_cons hA;obtain⟨rfl,rfl,rfl⟩:=trodAll_nil r0;obtain rfl:args= #[v0]:=by cases args;simp_all
 obtain⟨rfl,rfl⟩:=trodVars_none MQ;have k0:=h0;have Nn:∀x∈p0,x.block<W.heap.size:=by obtain⟨m,hm⟩:=k0;exact DataW.trod_lt m _ _ _ hm
 obtain⟨Qb,OM,Nj,rfl⟩:=okWide_slice Tryz.underlying22 (Ac 0 22 v0 rfl rfl);obtain⟨Ks,oP⟩:=h0;obtain⟨QK,QQ,Ru,bs,e0,rfl,AJ,DN⟩:=yq9 oP;simp[Value.cells]at e0;obtain⟨rfl,rfl,rfl⟩:=e0;clear Je hval0;refine(zP6 _ _ bs W DN AJ).mono fun e W' ⟨he,Jy⟩=> ?_;subst he;exact⟨_,rfl,_,_,_,[],_,[],vZ,trodAll_mk1 (shut_bool Tryz.underlying4 _),(trodAll_cons_mk (Below.trod Tryz.laidOut (by kernel_rfl) (of_decide_eq_true (by kernel_rfl)) k0 Jy Nn) trodAll_mk0),rfl,Jy.frame _,fun h=>by cases h⟩
theorem provedFnSearched:Rows.FnSearchedSaid:=
 OpenClaim.holds_of_wide 3 Tryz.f3 rfl rfl rfl rfl rfl rfl rfl ⟨rfl,rfl,rfl,rfl,rfl⟩ rfl rfl rfl rfl rfl (by kernel_rfl) Tryz.func3 (by kernel_rfl)
  (of_decide_eq_true (by kernel_rfl)) (by unfold Func.isWrapper;first|(rw[if_pos (by decide+kernel)];kernel_rfl)|(rw[if_neg (by decide+kernel)];exact⟨rfl,rfl⟩))
  (fun os h_ H enc _=>zC0 os h_ H enc)
#print axioms provedFnSearched
end Go.Proofs.YtkchnomkiboihaaGreat
