import Derived.Test.YtkchnomkiboihaaGreatPack1
import Derived.StillTail
namespace Go.Proofs.YtkchnomkiboihaaGreat
theorem qZ:type_of% @decide_eq_true_eq:=@decide_eq_true_eq
open Go renaming World→zg
open Region renaming ready→zx,Mode→zE,binds→zJ
open Go.RowKit
open Q
def yy5(P:Program)(md:zE)(ops:Array Oper)(C:zg->Prop)(n:Nat)(L:Array Bool->Act->Prop):Nat->Array Bool->Act->Prop
 |0,done,a=>L done a
 |k+1,done,a=>zx md ops done≠[]/\∀i∈zx md ops done,i<n/\qOp P ops C i (yy5 P md ops C n L k (done.setIfInBounds i true)) a
theorem ya2{P:Program}{md:zE}{ops:Array Oper}{C:zg->Prop}{n m:Nat}{L:Array Bool->Act->Prop}{Q:Exit->Act->zg->Prop}(hL:∀done a w,C w->L done a->wpAny P md ops Q m done a w):
 ∀(k:Nat) (done:Array Bool) (a:Act) (w:zg),C w->yy5 P md ops C n L k done a->wpAny P md ops Q (k+m) done a w
 |0,done,a,w,hw,h=>by
  have:=hL done a w hw h;simpa using this
 |k+1,done,a,w,hw,h=>by
  have e:k+1+m=(k+m)+1:=by omega
  rw[e];refine⟨fun h0=>absurd h0 h.1,fun i hi=> ?_⟩;exact wpOp_of_qOp hw (fun a' w' hw' h'=>ya2 hL k _ a' w' hw' h') (h.2 i hi).2
theorem ye1{P:Program}{md:zE}{ops:Array Oper}{C:zg->Prop}{n i:Nat}{oi:Oper}{v:Value}{L:Array Bool->Act->Prop}(hi:ops[i]? =some oi)(hsel:∀(j:Nat) (o:Oper) cs b,ops[j]? =some o->o.op≠.select cs b)
 (hs:Region.sinkB md ops n=true) (hc:Region.chainB md ops n=true) (hn:n<ops.size) (hin:i<n) (hend:∀done a,L done a->∀j∈zx md ops done,n<=j):
 ∀(k:Nat) (done:Array Bool) (a:Act),HeadInv md ops n done→
  (∀j oj,ops[j]? =some oj->j≠i->done.getD j true=false->(∀e∈oj.after,zJ md e=true->e.on≠i)->oi.apart ops oj=true)→
  i∈zx md ops done->YieldsIn P ops C oi v a->yy5 P md ops C n L k (done.setIfInBounds i true) (a.put oi.dst v)->yy5 P md ops C n L (k+1) done a:=by
 intro k
 induction k with
 |zero=>
  intro done a inv _ hr hy H;have hun:=(mem_ready.1 hr).1;refine⟨fun h=>(by rw[h]at hr;cases hr),fun j hj=> ?_⟩;have hjn:j<n:=Nat.lt_of_not_le fun h=>tail_waits hs hc hn inv _ i rfl hin hun j h hj;by_cases e:j=i
  ·subst e
   exact⟨hjn,hy.qOp hi H⟩
  ·exact absurd (hend _ _ H j (ready_mono hj e)) (by omega)
 |succ k ih=>
  intro done a inv hfree hr hy H;have hun:=(mem_ready.1 hr).1;refine⟨fun h=>(by rw[h]at hr;cases hr),fun j hj=> ?_⟩;have hjn:j<n:=Nat.lt_of_not_le fun h=>tail_waits hs hc hn inv _ i rfl hin hun j h hj;by_cases e:j=i
  ·subst e
   exact⟨hjn,hy.qOp hi H⟩
  ·obtain⟨hjun,oj,hoj,hall⟩:=mem_ready.1 hj
   have hno:∀x∈oj.after,zJ md x=true->x.on≠i:=by
    intro x hx hb he;have:=hall x hx hb;rw[he,getD_both hun]at this;cases this
   have step:=qOp_put hoj (hfree j oj hoj e hjun hno) (fun cs b=>hsel i oi cs b hi) (fun cs b=>hsel j oj cs b hoj) hy ((H.2 j (ready_mono hj e)).2);refine⟨hjn,qOp_mono (fun a' h3=> ?_) step⟩;refine ih _ a' (inv.set hj hjn) ?_ (ready_mono hr (Ne.symm e)) h3.1 ?_
   ·intro q oq hq hqi hqun hqno
    refine hfree q oq hq hqi ?_ hqno;by_cases e2:j=q
    ·subst e2;exact hjun
    ·rwa [getD_set_ne true e2]at hqun
   ·have:=h3.2
    rwa [Array.setIfInBounds_comm _ _ e]
theorem zT0{P:Program}{md:zE}{ops:Array Oper}{C:zg->Prop}{n m:Nat}{Lq:Act->Prop}(hsel:Region.noSelect ops=true)(hs:Region.sinkB md ops n=true)(hc:Region.chainB md ops n=true)(hn:n<ops.size):
 ∀(l:List Oper) (k:Nat) (done:Array Bool) (a:Act),(∀j,j<l.length->l[j]? =ops[k+j]?)->k+l.length=n->HeadInv md ops n done→
  Region.lexHead md ops m l.length k done=true->wpQuiet P ops C Lq l a->yy5 P md ops C n (fun d a'=>Region.seqB md ops m n d=true/\Lq a') l.length done a
 |[],k,done,a,_,hk,_,hB,h=>by
  have e:k=n:=by simpa using hk
  subst e;exact⟨by simpa[Region.lexHead]using hB,h⟩
 |o::l,k,done,a,hl,hk,inv,hB,h=>by
  have h0:ops[k]? =some o:=by
   have:=hl 0 (by simp);simpa using this.symm
  have hk':k+1+l.length=n:=by
   rw[yg]at hk;omega
  simp only[yg,Region.lexHead,zY]at hB;have hr:k∈zx md ops done:=by simpa using hB.1.1
  obtain⟨v,hy,hK⟩:=yieldsIn_of_qOp (P:=P) (C:=C) (K:=wpQuiet P ops C Lq l) h0 (by unfold qOp;simp only[h0];exact h);refine ye1 h0 (Region.noSelect_spec hsel) hs hc hn (by omega) (fun d a' hL=>seqB_ready hL.1) l.length done a inv (Region.free_spec h0 hB.1.2) hr hy ?_;refine zT0 hsel hs hc hn l (k+1) _ _ (fun j hj=> ?_) hk' (inv.set hr (by omega)) hB.2 hK;have:=hl (j+1) (by simp;omega);rw[show k+1+j=k+(j+1) by omega];simpa using this
theorem z54{P:Program}{id:Nat}{Q:Exit->Act->zg->Prop}{a:Act}{w:zg}{l:List Oper}(n:Nat)(hm:P.follows .mixedOrders=true)(hB:Region.lexTailB .any l.toArray n=true)
 (h:wpQuiet P l.toArray (fun w'=>∃s:Kin w,w'=s.w) (fun a'=>∀w',(∃s:Kin w,w'=s.w)->wpList P l.toArray Q (l.drop n) a' w') (l.take n) a):(Code.region id l.toArray true).wp P Q a w:=by
 simp only[Region.lexTailB,zY,qZ]at hB;obtain⟨⟨⟨⟨hsel,hn⟩,hs⟩,hc⟩,hlex⟩:=hB;have hn':n<l.length:=by simpa using hn
 have htl:(l.take n).length=n:=by simp;omega
 have hdl:(l.drop n).length=l.toArray.size - n:=by simp
 have inv0:HeadInv .any l.toArray n (Array.replicate l.toArray.size false):=by
  refine⟨by simp,fun j oj _ hd=> ?_,fun t _ ht=>getD_in (by simpa using ht) (getD_replicate_false _ _)⟩;rw[getD_replicate_false]at hd;cases hd
 have H:=zT0 (md:=.any) (m:=l.toArray.size - n) hsel hs hc hn (l.take n) 0 _ a (fun j hj=>by
  rw[htl]at hj;simp[hj]) (by omega) inv0 (by rw[htl];exact hlex) h
 have R:=ya2 (Q:=Q) (m:=l.toArray.size - n) (fun d a' w' hw' hL=>by
  have:=wpAny_of_seq (md:=.any) (Q':=Q) (l.drop n) n d a' w' (fun j=>by simp[List.getElem?_drop]) (by rw[hdl];exact hL.1) (hL.2 w' hw')
  rwa [hdl]at this) _ _ _ {w with drawn:=w.drawn+1} ⟨⟨_,(yV _ _).drew⟩,rfl⟩ H
 rw[htl,show n+(l.toArray.size - n)=l.toArray.size by omega]at R;exact wp_region_any hm R
