import Derived.Test.YtkchnomkiboihaaGreatPack1
set_option linter.unusedSimpArgs false
namespace Go.Proofs.YtkchnomkiboihaaGreat
theorem xB:type_of% @List.setIfInBounds_toArray:=@List.setIfInBounds_toArray
theorem xC:type_of% @List.set_cons_succ:=@List.set_cons_succ
theorem xD:type_of% @Go.wpAnyH_take:=@Go.wpAnyH_take
open Go renaming World→zg
open Act renaming put→zi
open Region renaming wanted→zq,ready→zx,Mode→zE,binds→zJ
open Go Go.RowKit
open Q
section
variable {P:Program} {ops:Array Oper} {Q:Exit->Act->zg->Prop} {md:zE} {S:zg->Prop} {z:Nat}
def zk8(P:Program)(md:zE)(ops:Array Oper)(Q:Exit->Act->zg->Prop)(S:zg->Prop)(z:Nat):Nat->Array Bool->Act->zg->Prop
 |0,d,a,w=>zx md ops d=[]/\Q .normal a w
 |k+1,d,a,w=>(zx md ops d=[]->Q .normal a w)/\∀i∈zx md ops d,wpOp P ops Q i (fun x y=>(i≠z->S y)/\zk8 P md ops Q S z k (d.setIfInBounds i true) x y) a w
theorem zK5:∀(k:Nat) (d:Array Bool) (a:Act) (w:zg),zk8 P md ops Q S z k d a w->wpAny P md ops Q k d a w
 |0,_,_,_,h=>h
 |k+1,_,_,_,h=>⟨h.1,fun i hi=>wpOp_mono (fun x y hxy=>zK5 k _ x y hxy.2) (h.2 i hi)⟩
theorem yp8{d:Array Bool}{i j:Nat}{oj:Oper}(hr:i∈zx md ops d)(hj:j∈zx md ops d)(hoj:ops[j]? =some oj):∀e∈oj.after,zJ md e=true->e.on≠i:=fun e he hb heq=>by
 obtain⟨_,o,ho,hall⟩:=mem_ready.1 hj;rw[hoj]at ho
 injection ho with ho
 subst ho;have h1:=hall e he hb;have h0:=(mem_ready.1 hr).1;rw[heq]at h1;rcases Nat.lt_or_ge i d.size with h|h
 ·simp[h]at h0 h1;rw[h0]at h1;cases h1
 ·simp[Array.getElem?_eq_none h]at h1
theorem z96{i:Nat}{oi oz:Oper}{v:Value}(hi:ops[i]? =some oi)(hz:ops[z]? =some oz)(hw:∃e∈oz.after,zJ md e=true/\e.on=i)(hsel:∀(j:Nat) (o:Oper) cs b,ops[j]? =some o->o.op≠.select cs b)
 (hQ:∀c a w,Q (.panic c) (a.put oi.dst v) w->Q (.panic c) a w):
 ∀(k:Nat) (d:Array Bool) (a:Act) (w:zg),(∀j oj,ops[j]? =some oj->j≠i->d.getD j true=false->(∀e∈oj.after,zJ md e=true->e.on≠i)->oi.apart ops oj=true)→
  i∈zx md ops d->YieldsIf P ops S oi v a->S w->zk8 P md ops Q S z k (d.setIfInBounds i true) (a.put oi.dst v) w->zk8 P md ops Q S z (k+1) d a w
 |k,d,a,w,hf,hr,hy,hS,H=>by
  refine⟨fun h=>(by rw[h]at hr;cases hr),fun j hj=> ?_⟩;by_cases e:j=i
  ·subst e
   exact hy.wpOp hi hS ⟨fun _=>hS,H⟩
  ·obtain⟨hun,oj,hoj,_⟩:=mem_ready.1 hj
   have hno:=yp8 hr hj hoj;have hjz:j≠z:=fun e9=>by
    subst e9;rw[hz]at hoj
    injection hoj with hoj
    subst hoj;obtain⟨x,hx,hb,hon⟩:=hw;exact hno x hx hb hon
   cases k with
   |zero=>
    have:=ready_mono hj e;rw[H.1]at this;cases this
   |succ k=>
    refine wpOp_mono (fun x y hxy=>⟨fun _=>hxy.2.1 hjz,z96 hi hz hw hsel hQ k _ x y (fun q oq hq hqi hqu hqn=> ?_) (ready_mono hr (Ne.symm e)) hxy.1 (hxy.2.1 hjz) ?_⟩) (wpOp_putIf hoj (hf j oj hoj e hun hno) (fun cs b=>hsel i oi cs b hi) (fun cs b=>hsel j oj cs b hoj) hQ hy (H.2 j (ready_mono hj e)))
    ·refine hf q oq hq hqi ?_ hqn
     by_cases e2:j=q
     ·subst e2;exact hun
     ·rwa [getD_set_ne true e2]at hqu
    ·rw[Array.setIfInBounds_comm _ _ e]
     exact hxy.2.2
def yj3(md:zE)(ops:Array Oper)(z i:Nat):Bool:=match ops[z]? with|some o=>o.after.any (fun e=>zJ md e&&e.on==i)|none=>false
theorem yf5{i:Nat}(h:yj3 md ops z i=true):∃oz,ops[z]? =some oz/\∃e∈oz.after,zJ md e=true/\e.on=i:=by
 unfold yj3 at h;split at h
 ·rename_i o ho
  obtain⟨e,he,hb⟩:=Array.any_eq_true'.1 h;simp only[zY,beq_iff_eq]at hb;exact⟨o,ho,e,he,hb⟩
 ·cases h
theorem yc9{i:Nat}{oi:Oper}{v:Value}{k:Nat}{d:Array Bool}{a:Act}{w:zg}(hi:ops[i]? =some oi)(hw:yj3 md ops z i=true)(hs:Region.noSelect ops=true)(hf:Region.free md ops d i=true)(hr:(zx md ops d).contains i=true)
 (hQ:∀c a w,Q (.panic c) (a.put oi.dst v) w->Q (.panic c) a w) (hy:YieldsIf P ops S oi v a) (hS:S w) (h:zk8 P md ops Q S z k (d.setIfInBounds i true) (a.put oi.dst v) w):zk8 P md ops Q S z (k+1) d a w:=by
 obtain⟨oz,hz,hwz⟩:=yf5 hw;exact z96 hi hz hwz (Region.noSelect_spec hs) hQ k d a w (Region.free_spec hi hf) (by simpa using hr) hy hS h
def zb1(P:Program)(md:zE)(ops:Array Oper)(Q:Exit->Act->zg->Prop)(S:zg->Prop)(z k:Nat)(d:Array Bool)(a:Act)(w:zg)(rs:List Nat):Prop:=
 ∀i∈rs,wpOp P ops Q i (fun x y=>(i≠z->S y)/\zk8 P md ops Q S z k (d.setIfInBounds i true) x y) a w
theorem zb1.nil{k:Nat}{d:Array Bool}{a:Act}{w:zg}:zb1 P md ops Q S z k d a w []:=fun _ h=>by cases h
theorem zb1.cons{k:Nat}{d:Array Bool}{a:Act}{w:zg}{i:Nat}{o:Oper}{rs:List Nat}(ho:ops[i]? =some o)
 (h:∀K':Act->zg->Prop,Shut (∀a w,S w->(S w->zk8 P md ops Q S z k (d.setIfInBounds i true) a w)->K' a w)->if zq o (yielded ops a.tmps)=true then Oper.wp P o a w K' Q else K' (a.put o.dst undef) w)
 (hs:zb1 P md ops Q S z k d a w rs):zb1 P md ops Q S z k d a w (i::rs):=fun j hj=>by
 rcases yn.1 hj with rfl|hj
 ·exact wpOp_step ho (fun K' hK=>h K' (fun a w hS hW=>hK a w ⟨fun _=>hS,hW hS⟩))
 ·exact hs j hj
theorem zb1.last{k:Nat}{d:Array Bool}{a:Act}{w:zg}{o:Oper}(ho:ops[z]? =some o)
 (h:∀K':Act->zg->Prop,Shut (∀a w,zk8 P md ops Q S z k (d.setIfInBounds z true) a w->K' a w)->if zq o (yielded ops a.tmps)=true then Oper.wp P o a w K' Q else K' (a.put o.dst undef) w):zb1 P md ops Q S z k d a w [z]:=fun j hj=>by
 have e:j=z:=by simpa using hj
 subst e;exact wpOp_step ho (fun K' hK=>h K' (fun a w hW=>hK a w ⟨fun h9=>absurd rfl h9,hW⟩))
theorem zb7{rs:List Nat}{k:Nat}{d:Array Bool}{a:Act}{w:zg}(hr:zx md ops d=rs)(hne:rs≠[])(h:zb1 P md ops Q S z k d a w rs):zk8 P md ops Q S z (k+1) d a w:=
 ⟨fun h0=>absurd (hr▸h0) hne,hr▸h⟩
theorem zh0{d:Array Bool}{a:Act}{w:zg}(hr:zx md ops d=[])(h:Q .normal a w):∀k,zk8 P md ops Q S z k d a w
 |0=>⟨hr,h⟩
 |_+1=>⟨fun _=>h,by rw[hr];simp⟩
theorem ze1{id:Nat}{a:Act}{w:zg}(z:Nat)(hm:P.follows .mixedOrders=true)(hS:S w.drew)(h:S w.drew->zk8 P .any ops Q S z ops.size (Array.replicate ops.size false) a w.drew):(Code.region id ops true).wp P Q a w:=
 wp_region_any hm (zK5 _ _ _ _ (h hS))
end
section
variable {P:Program} {ops:Array Oper} {Q:Exit->Act->zg->Prop} {md:zE} {S:zg->Prop} {z:Nat}
theorem tkH(i:Nat){oi:Oper}{v:Value}{k:Nat}{d:Array Bool}{a a':Act}{w:zg}(hS:S w)(h:wpAnyH P md ops Q S k (d.setIfInBounds i true) a' w)(hi:ops[i]? =some oi:=by rfl)
 (hB:(Region.noSelect ops&&Region.free md ops d i&&(zx md ops d).contains i&&zq oi (yielded ops a.tmps))=true:=by kernel_rfl)
 (hQ:∀c x y,Q (.panic c) (x.put oi.dst v) y->Q (.panic c) x y:=by exact fun _ _ _ h=>h)
 (hy:∀y,S y->(execOp a.eval oi).run P y=.ok (.value v) y:=by(intro w hSw;(try dsimp only at hSw);(try go_split_ands);go_simp;all_goals with_reducible rfl))
 (ha:a.put oi.dst v=a':=by(change zi _ (some _) _=_;simp only[zi,xB,zL,xC];first|done|rfl)):wpAnyH P md ops Q S (k+1) d a w:=by
 subst ha;simp only[zY]at hB;exact xD hi hB.1.1.1 hB.1.1.2 hB.1.2 hQ (.inl ⟨hB.2,hy⟩) hS h
theorem tkZ(i:Nat){oi:Oper}{v:Value}{k:Nat}{d:Array Bool}{a a':Act}{w:zg}(hS:S w)(h:zk8 P md ops Q S z k (d.setIfInBounds i true) a' w)(hi:ops[i]? =some oi:=by rfl)
 (hB:(yj3 md ops z i&&Region.noSelect ops&&Region.free md ops d i&&(zx md ops d).contains i&&zq oi (yielded ops a.tmps))=true:=by kernel_rfl)
 (hQ:∀c x y,Q (.panic c) (x.put oi.dst v) y->Q (.panic c) x y:=by exact fun _ _ _ h=>h)
 (hy:∀y,S y->(execOp a.eval oi).run P y=.ok (.value v) y:=by(intro w hSw;(try dsimp only at hSw);(try go_split_ands);go_simp;all_goals with_reducible rfl))
 (ha:a.put oi.dst v=a':=by(change zi _ (some _) _=_;simp only[zi,xB,zL,xC];first|done|rfl)):zk8 P md ops Q S z (k+1) d a w:=by
 subst ha;simp only[zY]at hB;exact yc9 hi hB.1.1.1.1 hB.1.1.1.2 hB.1.1.2 hB.1.2 hQ (.inl ⟨hB.2,hy⟩) hS h
end
