import Derived.Test.YtkchnomkiboihaaGreatPack1
set_option linter.unusedSimpArgs false
namespace Go.Proofs.YtkchnomkiboihaaGreat
theorem xL:type_of% @Go.AllReadyH.cons:=@Go.AllReadyH.cons
theorem xM:type_of% @List.setIfInBounds_toArray:=@List.setIfInBounds_toArray
theorem xN:type_of% @List.set_cons_zero:=@List.set_cons_zero
theorem xO:type_of% @List.set_cons_succ:=@List.set_cons_succ
theorem xP:type_of% @Go.AllReadyH.nil:=@Go.AllReadyH.nil
theorem xQ:type_of% @Go.wpAnyH_ready:=@Go.wpAnyH_ready
theorem xR:type_of% @Go.wpAnyH_take:=@Go.wpAnyH_take
open Go renaming World→zi
open Region renaming wanted→zn,ready→zA,Mode→zJ,binds→zM
open Oper renaming wp→zG
open Go Go.RowKit
open Q
section
variable {P:Program} {ap:Array Oper} {Q:Exit->Act->zi->Prop} {md:zJ} {S:zi->Prop} {z:Nat}
def zm9(P:Program)(md:zJ)(ap:Array Oper)(Q:Exit->Act->zi->Prop)(S:zi->Prop)(z:Nat):Nat->Array Bool->Act->zi->Prop
 |0,d,a,w=>zA md ap d=[]/\Q .normal a w
 |k+1,d,a,w=>(zA md ap d=[]->Q .normal a w)/\∀i∈zA md ap d,wpOp P ap Q i (fun x y=>(i≠z->S y)/\zm9 P md ap Q S z k (d.setIfInBounds i true) x y) a w
theorem zN6:∀(k:Nat) (d:Array Bool) (a:Act) (w:zi),zm9 P md ap Q S z k d a w->wpAny P md ap Q k d a w
 |0,_,_,_,h=>h
 |k+1,_,_,_,h=>⟨h.1,fun i hi=>wpOp_mono (fun x y fZ=>zN6 k _ x y fZ.2) (h.2 i hi)⟩
theorem yn2{d:Array Bool}{i j:Nat}{oj:Oper}(hr:i∈zA md ap d)(hj:j∈zA md ap d)(kW:ap[j]? =some oj):∀e∈oj.after,zM md e=true->e.on≠i:=fun e he hb Pd=>by
 obtain⟨_,o,ho,lT⟩:=mem_ready.1 hj;rw[kW]at ho
 injection ho with ho
 subst ho;have h1:=lT e he hb;have h0:=(mem_ready.1 hr).1;rw[Pd]at h1;rcases Nat.lt_or_ge i d.size with h|h
 ·simp[h]at h0 h1;rw[h0]at h1;cases h1
 ·simp[Array.getElem?_eq_none h]at h1
theorem zA7{i:Nat}{oi oz:Oper}{v:Value}(hi:ap[i]? =some oi)(hz:ap[z]? =some oz)(hw:∃e∈oz.after,zM md e=true/\e.on=i)(fH:∀(j:Nat) (o:Oper) cs b,ap[j]? =some o->o.op≠.select cs b)
 (hQ:∀c a w,Q (.panic c) (a.put oi.dst v) w->Q (.panic c) a w):
 ∀(k:Nat) (d:Array Bool) (a:Act) (w:zi),(∀j oj,ap[j]? =some oj->j≠i->d.getD j true=false->(∀e∈oj.after,zM md e=true->e.on≠i)->oi.apart ap oj=true)→
  i∈zA md ap d->YieldsIf P ap S oi v a->S w->zm9 P md ap Q S z k (d.setIfInBounds i true) (a.put oi.dst v) w->zm9 P md ap Q S z (k+1) d a w
 |k,d,a,w,hf,hr,hy,hS,H=>by
  refine⟨fun h=>(by rw[h]at hr;cases hr),fun j hj=> ?_⟩;by_cases e:j=i
  ·subst e
   exact hy.wpOp hi hS ⟨fun _=>hS,H⟩
  ·obtain⟨tY,oj,kW,_⟩:=mem_ready.1 hj
   have a_:=yn2 hr hj kW;have KM:j≠z:=fun e9=>by
    subst e9;rw[hz]at kW
    injection kW with kW
    subst kW;obtain⟨x,hx,hb,Px⟩:=hw;exact a_ x hx hb Px
   cases k with
   |zero=>
    have:=ready_mono hj e;rw[H.1]at this;cases this
   |succ k=>
    refine wpOp_mono (fun x y fZ=>⟨fun _=>fZ.2.1 KM,zA7 hi hz hw fH hQ k _ x y (fun q oq hq Il N_ JN=> ?_) (ready_mono hr (Ne.symm e)) fZ.1 (fZ.2.1 KM) ?_⟩) (wpOp_putIf kW (hf j oj kW e tY a_) (fun cs b=>fH i oi cs b hi) (fun cs b=>fH j oj cs b kW) hQ hy (H.2 j (ready_mono hj e)))
    ·refine hf q oq hq Il ?_ JN
     by_cases e2:j=q
     ·subst e2;exact tY
     ·rwa [getD_set_ne true e2]at N_
    ·rw[Array.setIfInBounds_comm _ _ e]
     exact fZ.2.2
def yk4(md:zJ)(ap:Array Oper)(z i:Nat):Bool:=match ap[z]? with|some o=>o.after.any (fun e=>zM md e&&e.on==i)|none=>false
theorem yb5{i:Nat}(h:yk4 md ap z i=true):∃oz,ap[z]? =some oz/\∃e∈oz.after,zM md e=true/\e.on=i:=by
 unfold yk4 at h;split at h
 ·rename_i o ho
  obtain⟨e,he,hb⟩:=Array.any_eq_true'.1 h;simp only[zY,beq_iff_eq]at hb;exact⟨o,ho,e,he,hb⟩
 ·cases h
theorem ye9{i:Nat}{oi:Oper}{v:Value}{k:Nat}{d:Array Bool}{a:Act}{w:zi}(hi:ap[i]? =some oi)(hw:yk4 md ap z i=true)(hs:Region.noSelect ap=true)(hf:Region.free md ap d i=true)(hr:(zA md ap d).contains i=true)
 (hQ:∀c a w,Q (.panic c) (a.put oi.dst v) w->Q (.panic c) a w) (hy:YieldsIf P ap S oi v a) (hS:S w) (h:zm9 P md ap Q S z k (d.setIfInBounds i true) (a.put oi.dst v) w):zm9 P md ap Q S z (k+1) d a w:=by
 obtain⟨oz,hz,Bs⟩:=yb5 hw;exact zA7 hi hz Bs (Region.noSelect_spec hs) hQ k d a w (Region.free_spec hi hf) (by simpa using hr) hy hS h
def zj0(P:Program)(md:zJ)(ap:Array Oper)(Q:Exit->Act->zi->Prop)(S:zi->Prop)(z k:Nat)(d:Array Bool)(a:Act)(w:zi)(rs:List Nat):Prop:=
 ∀i∈rs,wpOp P ap Q i (fun x y=>(i≠z->S y)/\zm9 P md ap Q S z k (d.setIfInBounds i true) x y) a w
theorem zj0.nil{k:Nat}{d:Array Bool}{a:Act}{w:zi}:zj0 P md ap Q S z k d a w []:=fun _ h=>by cases h
theorem zj0.cons{k:Nat}{d:Array Bool}{a:Act}{w:zi}{i:Nat}{o:Oper}{rs:List Nat}(ho:ap[i]? =some o)
 (h:∀K':Act->zi->Prop,Shut (∀a w,S w->(S w->zm9 P md ap Q S z k (d.setIfInBounds i true) a w)->K' a w)->if zn o (yielded ap a.tmps)=true then zG P o a w K' Q else K' (a.put o.dst undef) w)
 (hs:zj0 P md ap Q S z k d a w rs):zj0 P md ap Q S z k d a w (i::rs):=fun j hj=>by
 rcases yx.1 hj with rfl|hj
 ·exact wpOp_step ho (fun K' hK=>h K' (fun a w hS hW=>hK a w ⟨fun _=>hS,hW hS⟩))
 ·exact hs j hj
theorem zj0.last{k:Nat}{d:Array Bool}{a:Act}{w:zi}{o:Oper}(ho:ap[z]? =some o)
 (h:∀K':Act->zi->Prop,Shut (∀a w,zm9 P md ap Q S z k (d.setIfInBounds z true) a w->K' a w)->if zn o (yielded ap a.tmps)=true then zG P o a w K' Q else K' (a.put o.dst undef) w):zj0 P md ap Q S z k d a w [z]:=fun j hj=>by
 have e:j=z:=by simpa using hj
 subst e;exact wpOp_step ho (fun K' hK=>h K' (fun a w hW=>hK a w ⟨fun h9=>absurd rfl h9,hW⟩))
theorem zA3{rs:List Nat}{k:Nat}{d:Array Bool}{a:Act}{w:zi}(hr:zA md ap d=rs)(aq:rs≠[])(h:zj0 P md ap Q S z k d a w rs):zm9 P md ap Q S z (k+1) d a w:=
 ⟨fun h0=>absurd (hr▸h0) aq,hr▸h⟩
theorem zh4{d:Array Bool}{a:Act}{w:zi}(hr:zA md ap d=[])(h:Q .normal a w):∀k,zm9 P md ap Q S z k d a w
 |0=>⟨hr,h⟩
 |_+1=>⟨fun _=>h,by rw[hr];simp⟩
theorem ze4{id:Nat}{a:Act}{w:zi}(z:Nat)(hm:P.follows .mixedOrders=true)(hS:S w.drew)(h:S w.drew->zm9 P .any ap Q S z ap.size (Array.replicate ap.size false) a w.drew):(Code.region id ap true).wp P Q a w:=
 wp_region_any hm (zN6 _ _ _ _ (h hS))
end
section
variable {P:Program} {ap:Array Oper} {Q:Exit->Act->zi->Prop} {md:zJ} {S:zi->Prop} {z:Nat}
theorem tkH(i:Nat){oi:Oper}{v:Value}{k:Nat}{d:Array Bool}{a a':Act}{w:zi}(hS:S w)(h:wpAnyH P md ap Q S k (d.setIfInBounds i true) a' w)(hi:ap[i]? =some oi:=by rfl)
 (hB:(Region.noSelect ap&&Region.free md ap d i&&(zA md ap d).contains i&&zn oi (yielded ap a.tmps))=true:=by kernel_rfl)
 (hQ:∀c x y,Q (.panic c) (x.put oi.dst v) y->Q (.panic c) x y:=by exact fun _ _ _ h=>h)
 (hy:∀y,S y->(execOp a.eval oi).run P y=.ok (.value v) y:=by(intro w hSw;(try dsimp only at hSw);(try go_split_ands);go_simp;all_goals with_reducible rfl))
 (ha:a.put oi.dst v=a':=by(change Go.Act.put _ (some _) _=_;simp only[Go.Act.put,xM,xN,xO];first|done|rfl)):wpAnyH P md ap Q S (k+1) d a w:=by
 subst ha;simp only[zY]at hB;exact xR hi hB.1.1.1 hB.1.1.2 hB.1.2 hQ (.inl ⟨hB.2,hy⟩) hS h
theorem tkZ(i:Nat){oi:Oper}{v:Value}{k:Nat}{d:Array Bool}{a a':Act}{w:zi}(hS:S w)(h:zm9 P md ap Q S z k (d.setIfInBounds i true) a' w)(hi:ap[i]? =some oi:=by rfl)
 (hB:(yk4 md ap z i&&Region.noSelect ap&&Region.free md ap d i&&(zA md ap d).contains i&&zn oi (yielded ap a.tmps))=true:=by kernel_rfl)
 (hQ:∀c x y,Q (.panic c) (x.put oi.dst v) y->Q (.panic c) x y:=by exact fun _ _ _ h=>h)
 (hy:∀y,S y->(execOp a.eval oi).run P y=.ok (.value v) y:=by(intro w hSw;(try dsimp only at hSw);(try go_split_ands);go_simp;all_goals with_reducible rfl))
 (ha:a.put oi.dst v=a':=by(change Go.Act.put _ (some _) _=_;simp only[Go.Act.put,xM,xN,xO];first|done|rfl)):zm9 P md ap Q S z (k+1) d a w:=by
 subst ha;simp only[zY]at hB;exact ye9 hi hB.1.1.1.1 hB.1.1.1.2 hB.1.1.2 hB.1.2 hQ (.inl ⟨hB.2,hy⟩) hS h
theorem rdH(i:Nat){o:Oper}{k:Nat}{d:Array Bool}{a:Act}{w:zi}(h:∀K':Act->zi->Prop,Shut (∀a w,S w->(S w->wpAnyH P md ap Q S k (d.setIfInBounds i true) a w)->K' a w)->if zn o (yielded ap a.tmps)=true then zG P o a w K' Q else K' (a.put o.dst undef) w)
 (hr:zA md ap d=[i]:=by kernel_rfl) (ho:ap[i]? =some o:=by rfl):wpAnyH P md ap Q S (k+1) d a w:=xQ hr (by simp) (xL ho h xP)
theorem rdZ(i:Nat){o:Oper}{k:Nat}{d:Array Bool}{a:Act}{w:zi}(h:∀K':Act->zi->Prop,Shut (∀a w,S w->(S w->zm9 P md ap Q S z k (d.setIfInBounds i true) a w)->K' a w)->if zn o (yielded ap a.tmps)=true then zG P o a w K' Q else K' (a.put o.dst undef) w)
 (hr:zA md ap d=[i]:=by kernel_rfl) (ho:ap[i]? =some o:=by rfl):zm9 P md ap Q S z (k+1) d a w:=zA3 hr (by simp) (zj0.cons ho h zj0.nil)
theorem rdL(z:Nat){o:Oper}{k:Nat}{d:Array Bool}{a:Act}{w:zi}(h:∀K':Act->zi->Prop,Shut (∀a w,zm9 P md ap Q S z k (d.setIfInBounds z true) a w->K' a w)->if zn o (yielded ap a.tmps)=true then zG P o a w K' Q else K' (a.put o.dst undef) w)
 (hr:zA md ap d=[z]:=by kernel_rfl) (ho:ap[z]? =some o:=by rfl):zm9 P md ap Q S z (k+1) d a w:=zA3 hr (by simp) (zj0.last ho h)
theorem hoW{W:Act->zi->Prop}{K:Act->zi->Prop}{a a':Act}{w:zi}(hK:Shut (∀a w,S w->(S w->W a w)->K a w))(hS:S w)(h:S w->W a' w)
 (ha:a=a':=by(try simp only[Go.Act.put,xM,xN,xO]);first|done|rfl):K a w:=by
 subst ha;exact hK.out _ _ hS h
end
