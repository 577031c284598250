import Derived.Test.YtkchnomkiboihaaGreatPack1
import Derived.StillTail
namespace Go.Proofs.YtkchnomkiboihaaGreat
theorem qC:type_of% @decide_eq_true_eq:=@decide_eq_true_eq
open Go renaming World→zi
open Region renaming ready→zA,Mode→zJ,binds→zM
open Go.RowKit
open Q
def yz6(P:Program)(md:zJ)(ap:Array Oper)(C:zi->Prop)(n:Nat)(L:Array Bool->Act->Prop):Nat->Array Bool->Act->Prop
 |0,done,a=>L done a
 |k+1,done,a=>zA md ap done≠[]/\∀i∈zA md ap done,i<n/\qOp P ap C i (yz6 P md ap C n L k (done.setIfInBounds i true)) a
theorem zX2{P:Program}{md:zJ}{ap:Array Oper}{C:zi->Prop}{n m:Nat}{L:Array Bool->Act->Prop}{Q:Exit->Act->zi->Prop}(hL:∀done a w,C w->L done a->wpAny P md ap Q m done a w):
 ∀(k:Nat) (done:Array Bool) (a:Act) (w:zi),C w->yz6 P md ap C n L k done a->wpAny P md ap Q (k+m) done a w
 |0,done,a,w,hw,h=>by
  have:=hL done a w hw h;simpa using this
 |k+1,done,a,w,hw,h=>by
  have e:k+1+m=(k+m)+1:=by omega
  rw[e];refine⟨fun h0=>absurd h0 h.1,fun i hi=> ?_⟩;exact wpOp_of_qOp hw (fun a' w' dz h'=>zX2 hL k _ a' w' dz h') (h.2 i hi).2
theorem yd5{P:Program}{md:zJ}{ap:Array Oper}{C:zi->Prop}{n i:Nat}{oi:Oper}{v:Value}{L:Array Bool->Act->Prop}(hi:ap[i]? =some oi)(fH:∀(j:Nat) (o:Oper) cs b,ap[j]? =some o->o.op≠.select cs b)
 (hs:Region.sinkB md ap n=true) (hc:Region.chainB md ap n=true) (hn:n<ap.size) (be:i<n) (GV:∀done a,L done a->∀j∈zA md ap done,n<=j):
 ∀(k:Nat) (done:Array Bool) (a:Act),HeadInv md ap n done→
  (∀j oj,ap[j]? =some oj->j≠i->done.getD j true=false->(∀e∈oj.after,zM md e=true->e.on≠i)->oi.apart ap oj=true)→
  i∈zA md ap done->YieldsIn P ap C oi v a->yz6 P md ap C n L k (done.setIfInBounds i true) (a.put oi.dst v)->yz6 P md ap C n L (k+1) done a:=by
 intro k
 induction k with
 |zero=>
  intro done a inv _ hr hy H;have tY:=(mem_ready.1 hr).1;refine⟨fun h=>(by rw[h]at hr;cases hr),fun j hj=> ?_⟩;have vh:j<n:=Nat.lt_of_not_le fun h=>tail_waits hs hc hn inv _ i rfl be tY j h hj;by_cases e:j=i
  ·subst e
   exact⟨vh,hy.qOp hi H⟩
  ·exact absurd (GV _ _ H j (ready_mono hj e)) (by omega)
 |succ k ih=>
  intro done a inv hfree hr hy H;have tY:=(mem_ready.1 hr).1;refine⟨fun h=>(by rw[h]at hr;cases hr),fun j hj=> ?_⟩;have vh:j<n:=Nat.lt_of_not_le fun h=>tail_waits hs hc hn inv _ i rfl be tY j h hj;by_cases e:j=i
  ·subst e
   exact⟨vh,hy.qOp hi H⟩
  ·obtain⟨Au,oj,kW,lT⟩:=mem_ready.1 hj
   have a_:∀x∈oj.after,zM md x=true->x.on≠i:=by
    intro x hx hb he;have:=lT x hx hb;rw[he,getD_both tY]at this;cases this
   have step:=qOp_put kW (hfree j oj kW e Au a_) (fun cs b=>fH i oi cs b hi) (fun cs b=>fH j oj cs b kW) hy ((H.2 j (ready_mono hj e)).2);refine⟨vh,qOp_mono (fun a' h3=> ?_) step⟩;refine ih _ a' (inv.set hj vh) ?_ (ready_mono hr (Ne.symm e)) h3.1 ?_
   ·intro q oq hq Il hqun hqno
    refine hfree q oq hq Il ?_ hqno;by_cases e2:j=q
    ·subst e2;exact Au
    ·rwa [getD_set_ne true e2]at hqun
   ·have:=h3.2
    rwa [Array.setIfInBounds_comm _ _ e]
theorem zX9{P:Program}{md:zJ}{ap:Array Oper}{C:zi->Prop}{n m:Nat}{Lq:Act->Prop}(fH:Region.noSelect ap=true)(hs:Region.sinkB md ap n=true)(hc:Region.chainB md ap n=true)(hn:n<ap.size):
 ∀(l:List Oper) (k:Nat) (done:Array Bool) (a:Act),(∀j,j<l.length->l[j]? =ap[k+j]?)->k+l.length=n->HeadInv md ap n done→
  Region.lexHead md ap m l.length k done=true->wpQuiet P ap C Lq l a->yz6 P md ap C n (fun d a'=>Region.seqB md ap m n d=true/\Lq a') l.length done a
 |[],k,done,a,_,hk,_,hB,h=>by
  have e:k=n:=by simpa using hk
  subst e;exact⟨by simpa[Region.lexHead]using hB,h⟩
 |o::l,k,done,a,hl,hk,inv,hB,h=>by
  have h0:ap[k]? =some o:=by
   have:=hl 0 (by simp);simpa using this.symm
  have JP:k+1+l.length=n:=by
   rw[yo]at hk;omega
  simp only[yo,Region.lexHead,zY]at hB;have hr:k∈zA md ap done:=by simpa using hB.1.1
  obtain⟨v,hy,hK⟩:=yieldsIn_of_qOp (P:=P) (C:=C) (K:=wpQuiet P ap C Lq l) h0 (by unfold qOp;simp only[h0];exact h);refine yd5 h0 (Region.noSelect_spec fH) hs hc hn (by omega) (fun d a' hL=>seqB_ready hL.1) l.length done a inv (Region.free_spec h0 hB.1.2) hr hy ?_;refine zX9 fH hs hc hn l (k+1) _ _ (fun j hj=> ?_) JP (inv.set hr (by omega)) hB.2 hK;have:=hl (j+1) (by simp;omega);rw[show k+1+j=k+(j+1) by omega];simpa using this
theorem zm5{P:Program}{id:Nat}{Q:Exit->Act->zi->Prop}{a:Act}{w:zi}{l:List Oper}(n:Nat)(hm:P.follows .mixedOrders=true)(hB:Region.lexTailB .any l.toArray n=true)
 (h:wpQuiet P l.toArray (fun w'=>∃s:Kin w,w'=s.w) (fun a'=>∀w',(∃s:Kin w,w'=s.w)->wpList P l.toArray Q (l.drop n) a' w') (l.take n) a):(Code.region id l.toArray true).wp P Q a w:=by
 simp only[Region.lexTailB,zY,qC]at hB;obtain⟨⟨⟨⟨fH,hn⟩,hs⟩,hc⟩,Ew⟩:=hB;have Qr:n<l.length:=by simpa using hn
 have kE:(l.take n).length=n:=by simp;omega
 have kG:(l.drop n).length=l.toArray.size - n:=by simp
 have It:HeadInv .any l.toArray n (Array.replicate l.toArray.size false):=by
  refine⟨by simp,fun j oj _ hd=> ?_,fun t _ ht=>getD_in (by simpa using ht) (getD_replicate_false _ _)⟩;rw[getD_replicate_false]at hd;cases hd
 have H:=zX9 (md:=.any) (m:=l.toArray.size - n) fH hs hc hn (l.take n) 0 _ a (fun j hj=>by
  rw[kE]at hj;simp[hj]) (by omega) It (by rw[kE];exact Ew) h
 have R:=zX2 (Q:=Q) (m:=l.toArray.size - n) (fun d a' w' dz hL=>by
  have:=wpAny_of_seq (md:=.any) (Q':=Q) (l.drop n) n d a' w' (fun j=>by simp[List.getElem?_drop]) (by rw[kG];exact hL.1) (hL.2 w' dz)
  rwa [kG]at this) _ _ _ {w with drawn:=w.drawn+1} ⟨⟨_,(y5 _ _).drew⟩,rfl⟩ H
 rw[kE,show n+(l.toArray.size - n)=l.toArray.size by omega]at R;exact wp_region_any hm R
