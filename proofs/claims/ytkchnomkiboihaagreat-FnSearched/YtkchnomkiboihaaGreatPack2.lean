import Derived.Test.YtkchnomkiboihaaGreatPack1
set_option linter.unusedSimpArgs false
namespace Go.Proofs.YtkchnomkiboihaaGreat
theorem xL:type_of% @Go.AllReadyH.cons:=@Go.AllReadyH.cons
theorem xM:type_of% @List.setIfInBounds_toArray:=@List.setIfInBounds_toArray
theorem xN:type_of% @List.set_cons_zero:=@List.set_cons_zero
theorem xO:type_of% @List.set_cons_succ:=@List.set_cons_succ
theorem xP:type_of% @Go.AllReadyH.nil:=@Go.AllReadyH.nil
theorem xQ:type_of% @Go.wpAnyH_ready:=@Go.wpAnyH_ready
theorem xR:type_of% @Go.wpAnyH_take:=@Go.wpAnyH_take
open Go renaming World→zi
open Region renaming wanted→zn,ready→zA,Mode→zJ,binds→zM
open Oper renaming wp→zG
open Go Go.RowKit
open Q
section
variable {P:Program} {ap:Array Oper} {Q:Exit->Act->zi->Prop} {md:zJ} {S:zi->Prop} {z:Nat}
def zn0(P:Program)(md:zJ)(ap:Array Oper)(Q:Exit->Act->zi->Prop)(S:zi->Prop)(z:Nat):Nat->Array Bool->Act->zi->Prop
 |0,d,a,w=>zA md ap d=[]/\Q .normal a w
 |k+1,d,a,w=>(zA md ap d=[]->Q .normal a w)/\∀i∈zA md ap d,wpOp P ap Q i (fun x y=>(i≠z->S y)/\zn0 P md ap Q S z k (d.setIfInBounds i true) x y) a w
theorem zM0:∀(k:Nat) (d:Array Bool) (a:Act) (w:zi),zn0 P md ap Q S z k d a w->wpAny P md ap Q k d a w
 |0,_,_,_,h=>h
 |k+1,_,_,_,h=>⟨h.1,fun i hi=>wpOp_mono (fun x y gj=>zM0 k _ x y gj.2) (h.2 i hi)⟩
theorem yq3{d:Array Bool}{i j:Nat}{oj:Oper}(hr:i∈zA md ap d)(hj:j∈zA md ap d)(kX:ap[j]? =some oj):∀e∈oj.after,zM md e=true->e.on≠i:=fun e he hb Qc=>by
 obtain⟨_,o,ho,lx⟩:=mem_ready.1 hj;rw[kX]at ho
 injection ho with ho
 subst ho;have h1:=lx e he hb;have h0:=(mem_ready.1 hr).1;rw[Qc]at h1;rcases Nat.lt_or_ge i d.size with h|h
 ·simp[h]at h0 h1;rw[h0]at h1;cases h1
 ·simp[Array.getElem?_eq_none h]at h1
theorem zA1{i:Nat}{oi oz:Oper}{v:Value}(hi:ap[i]? =some oi)(hz:ap[z]? =some oz)(hw:∃e∈oz.after,zM md e=true/\e.on=i)(fF:∀(j:Nat) (o:Oper) cs b,ap[j]? =some o->o.op≠.select cs b)
 (hQ:∀c a w,Q (.panic c) (a.put oi.dst v) w->Q (.panic c) a w):
 ∀(k:Nat) (d:Array Bool) (a:Act) (w:zi),(∀j oj,ap[j]? =some oj->j≠i->d.getD j true=false->(∀e∈oj.after,zM md e=true->e.on≠i)->oi.apart ap oj=true)→
  i∈zA md ap d->YieldsIf P ap S oi v a->S w->zn0 P md ap Q S z k (d.setIfInBounds i true) (a.put oi.dst v) w->zn0 P md ap Q S z (k+1) d a w
 |k,d,a,w,hf,hr,hy,hS,H=>by
  refine⟨fun h=>(by rw[h]at hr;cases hr),fun j hj=> ?_⟩;by_cases e:j=i
  ·subst e
   exact hy.wpOp hi hS ⟨fun _=>hS,H⟩
  ·obtain⟨uh,oj,kX,_⟩:=mem_ready.1 hj
   have aY:=yq3 hr hj kX;have JD:j≠z:=fun e9=>by
    subst e9;rw[hz]at kX
    injection kX with kX
    subst kX;obtain⟨x,hx,hb,Pk⟩:=hw;exact aY x hx hb Pk
   cases k with
   |zero=>
    have:=ready_mono hj e;rw[H.1]at this;cases this
   |succ k=>
    refine wpOp_mono (fun x y gj=>⟨fun _=>gj.2.1 JD,zA1 hi hz hw fF hQ k _ x y (fun q oq hq Ij LA Jq=> ?_) (ready_mono hr (Ne.symm e)) gj.1 (gj.2.1 JD) ?_⟩) (wpOp_putIf kX (hf j oj kX e uh aY) (fun cs b=>fF i oi cs b hi) (fun cs b=>fF j oj cs b kX) hQ hy (H.2 j (ready_mono hj e)))
    ·refine hf q oq hq Ij ?_ Jq
     by_cases e2:j=q
     ·subst e2;exact uh
     ·rwa [getD_set_ne true e2]at LA
    ·rw[Array.setIfInBounds_comm _ _ e]
     exact gj.2.2
def ym3(md:zJ)(ap:Array Oper)(z i:Nat):Bool:=match ap[z]? with|some o=>o.after.any (fun e=>zM md e&&e.on==i)|none=>false
theorem yd1{i:Nat}(h:ym3 md ap z i=true):∃oz,ap[z]? =some oz/\∃e∈oz.after,zM md e=true/\e.on=i:=by
 unfold ym3 at h;split at h
 ·rename_i o ho
  obtain⟨e,he,hb⟩:=Array.any_eq_true'.1 h;simp only[zY,beq_iff_eq]at hb;exact⟨o,ho,e,he,hb⟩
 ·cases h
theorem yc9{i:Nat}{oi:Oper}{v:Value}{k:Nat}{d:Array Bool}{a:Act}{w:zi}(hi:ap[i]? =some oi)(hw:ym3 md ap z i=true)(hs:Region.noSelect ap=true)(hf:Region.free md ap d i=true)(hr:(zA md ap d).contains i=true)
 (hQ:∀c a w,Q (.panic c) (a.put oi.dst v) w->Q (.panic c) a w) (hy:YieldsIf P ap S oi v a) (hS:S w) (h:zn0 P md ap Q S z k (d.setIfInBounds i true) (a.put oi.dst v) w):zn0 P md ap Q S z (k+1) d a w:=by
 obtain⟨oz,hz,v7⟩:=yd1 hw;exact zA1 hi hz v7 (Region.noSelect_spec hs) hQ k d a w (Region.free_spec hi hf) (by simpa using hr) hy hS h
def zj3(P:Program)(md:zJ)(ap:Array Oper)(Q:Exit->Act->zi->Prop)(S:zi->Prop)(z k:Nat)(d:Array Bool)(a:Act)(w:zi)(rs:List Nat):Prop:=
 ∀i∈rs,wpOp P ap Q i (fun x y=>(i≠z->S y)/\zn0 P md ap Q S z k (d.setIfInBounds i true) x y) a w
theorem zj3.nil{k:Nat}{d:Array Bool}{a:Act}{w:zi}:zj3 P md ap Q S z k d a w []:=fun _ h=>by cases h
theorem zj3.cons{k:Nat}{d:Array Bool}{a:Act}{w:zi}{i:Nat}{o:Oper}{rs:List Nat}(ho:ap[i]? =some o)
 (h:∀K':Act->zi->Prop,Shut (∀a w,S w->(S w->zn0 P md ap Q S z k (d.setIfInBounds i true) a w)->K' a w)->if zn o (yielded ap a.tmps)=true then zG P o a w K' Q else K' (a.put o.dst undef) w)
 (hs:zj3 P md ap Q S z k d a w rs):zj3 P md ap Q S z k d a w (i::rs):=fun j hj=>by
 rcases yx.1 hj with rfl|hj
 ·exact wpOp_step ho (fun K' hK=>h K' (fun a w hS hW=>hK a w ⟨fun _=>hS,hW hS⟩))
 ·exact hs j hj
theorem zj3.last{k:Nat}{d:Array Bool}{a:Act}{w:zi}{o:Oper}(ho:ap[z]? =some o)
 (h:∀K':Act->zi->Prop,Shut (∀a w,zn0 P md ap Q S z k (d.setIfInBounds z true) a w->K' a w)->if zn o (yielded ap a.tmps)=true then zG P o a w K' Q else K' (a.put o.dst undef) w):zj3 P md ap Q S z k d a w [z]:=fun j hj=>by
 have e:j=z:=by simpa using hj
 subst e;exact wpOp_step ho (fun K' hK=>h K' (fun a w hW=>hK a w ⟨fun h9=>absurd rfl h9,hW⟩))
theorem zA4{rs:List Nat}{k:Nat}{d:Array Bool}{a:Act}{w:zi}(hr:zA md ap d=rs)(aq:rs≠[])(h:zj3 P md ap Q S z k d a w rs):zn0 P md ap Q S z (k+1) d a w:=
 ⟨fun h0=>absurd (hr▸h0) aq,hr▸h⟩
theorem zh3{d:Array Bool}{a:Act}{w:zi}(hr:zA md ap d=[])(h:Q .normal a w):∀k,zn0 P md ap Q S z k d a w
 |0=>⟨hr,h⟩
 |_+1=>⟨fun _=>h,by rw[hr];simp⟩
theorem ze4{id:Nat}{a:Act}{w:zi}(z:Nat)(hm:P.follows .mixedOrders=true)(hS:S w.drew)(h:S w.drew->zn0 P .any ap Q S z ap.size (Array.replicate ap.size false) a w.drew):(Code.region id ap true).wp P Q a w:=
 wp_region_any hm (zM0 _ _ _ _ (h hS))
end
section
variable {P:Program} {ap:Array Oper} {Q:Exit->Act->zi->Prop} {md:zJ} {S:zi->Prop} {z:Nat}
theorem tkH(i:Nat){oi:Oper}{v:Value}{k:Nat}{d:Array Bool}{a a':Act}{w:zi}(hS:S w)(h:wpAnyH P md ap Q S k (d.setIfInBounds i true) a' w)(hi:ap[i]? =some oi:=by rfl)
 (hB:(Region.noSelect ap&&Region.free md ap d i&&(zA md ap d).contains i&&zn oi (yielded ap a.tmps))=true:=by kernel_rfl)
 (hQ:∀c x y,Q (.panic c) (x.put oi.dst v) y->Q (.panic c) x y:=by exact fun _ _ _ h=>h)
 (hy:∀y,S y->(execOp a.eval oi).run P y=.ok (.value v) y:=by(intro w hSw;(try dsimp only at hSw);(try go_split_ands);go_simp;all_goals with_reducible rfl))
 (ha:a.put oi.dst v=a':=by(change Go.Act.put _ (some _) _=_;simp only[Go.Act.put,xM,xN,xO];first|done|rfl)):wpAnyH P md ap Q S (k+1) d a w:=by
 subst ha;simp only[zY]at hB;exact xR hi hB.1.1.1 hB.1.1.2 hB.1.2 hQ (.inl ⟨hB.2,hy⟩) hS h
theorem tkZ(i:Nat){oi:Oper}{v:Value}{k:Nat}{d:Array Bool}{a a':Act}{w:zi}(hS:S w)(h:zn0 P md ap Q S z k (d.setIfInBounds i true) a' w)(hi:ap[i]? =some oi:=by rfl)
 (hB:(ym3 md ap z i&&Region.noSelect ap&&Region.free md ap d i&&(zA md ap d).contains i&&zn oi (yielded ap a.tmps))=true:=by kernel_rfl)
 (hQ:∀c x y,Q (.panic c) (x.put oi.dst v) y->Q (.panic c) x y:=by exact fun _ _ _ h=>h)
 (hy:∀y,S y->(execOp a.eval oi).run P y=.ok (.value v) y:=by(intro w hSw;(try dsimp only at hSw);(try go_split_ands);go_simp;all_goals with_reducible rfl))
 (ha:a.put oi.dst v=a':=by(change Go.Act.put _ (some _) _=_;simp only[Go.Act.put,xM,xN,xO];first|done|rfl)):zn0 P md ap Q S z (k+1) d a w:=by
 subst ha;simp only[zY]at hB;exact yc9 hi hB.1.1.1.1 hB.1.1.1.2 hB.1.1.2 hB.1.2 hQ (.inl ⟨hB.2,hy⟩) hS h
theorem rdH(i:Nat){o:Oper}{k:Nat}{d:Array Bool}{a:Act}{w:zi}(h:∀K':Act->zi->Prop,Shut (∀a w,S w->(S w->wpAnyH P md ap Q S k (d.setIfInBounds i true) a w)->K' a w)->if zn o (yielded ap a.tmps)=true then zG P o a w K' Q else K' (a.put o.dst undef) w)
 (hr:zA md ap d=[i]:=by kernel_rfl) (ho:ap[i]? =some o:=by rfl):wpAnyH P md ap Q S (k+1) d a w:=xQ hr (by simp) (xL ho h xP)
theorem rdZ(i:Nat){o:Oper}{k:Nat}{d:Array Bool}{a:Act}{w:zi}(h:∀K':Act->zi->Prop,Shut (∀a w,S w->(S w->zn0 P md ap Q S z k (d.setIfInBounds i true) a w)->K' a w)->if zn o (yielded ap a.tmps)=true then zG P o a w K' Q else K' (a.put o.dst undef) w)
 (hr:zA md ap d=[i]:=by kernel_rfl) (ho:ap[i]? =some o:=by rfl):zn0 P md ap Q S z (k+1) d a w:=zA4 hr (by simp) (zj3.cons ho h zj3.nil)
theorem rdL(z:Nat){o:Oper}{k:Nat}{d:Array Bool}{a:Act}{w:zi}(h:∀K':Act->zi->Prop,Shut (∀a w,zn0 P md ap Q S z k (d.setIfInBounds z true) a w->K' a w)->if zn o (yielded ap a.tmps)=true then zG P o a w K' Q else K' (a.put o.dst undef) w)
 (hr:zA md ap d=[z]:=by kernel_rfl) (ho:ap[z]? =some o:=by rfl):zn0 P md ap Q S z (k+1) d a w:=zA4 hr (by simp) (zj3.last ho h)
theorem hoW{W:Act->zi->Prop}{K:Act->zi->Prop}{a a':Act}{w:zi}(hK:Shut (∀a w,S w->(S w->W a w)->K a w))(hS:S w)(h:S w->W a' w)
 (ha:a=a':=by(try simp only[Go.Act.put,xM,xN,xO]);first|done|rfl):K a w:=by
 subst ha;exact hK.out _ _ hS h
end
