import Derived.Test.YtkchnomkiboihaaGreatPack21
import Derived.Test.YtkchnomkiboihaaGreatPack22
namespace Go.Proofs.YtkchnomkiboihaaGreat
open Go.RowKit
open Q
theorem yb2:∀(R:List RT),(∀r∈R,r.ids≠[])->R.length<=(R.flatMap RT.ids).length
 |[],_=>by simp
 |r::R,h=>by
  have h1:=xL.2 (h r (ym ..));have h2:=yb2 R (fun x hx=>h x (yh _ hx));rw[qM,xU,yg];omega
theorem zP8:∀(R:List RT) (r:RT),r∈R->r.ids.length<=(R.flatMap RT.ids).length
 |x::R,r,h=>by
  rw[qM,xU];rcases yn.1 h with e|h
  ·subst e;omega
  ·have:=zP8 R r h
   omega
theorem y10{os:List Int}{ko:Nat}{L:List Int}(h:zg4 os ko L L.length):∀(d i:Nat),i+d+1<L.length->L.getD i 0<L.getD (i+d+1) 0
 |0,i,hi=>(h (i+1) hi).2 (by omega)
 |d+1,i,hi=>Int.lt_trans (y10 h d i (by omega)) ((h (i+d+1+1) hi).2 (by omega))
theorem zW8{os:List Int}{ko:Nat}{L:List Int}(h:zg4 os ko L L.length):L.Pairwise (· <·):=by
 rw[yr];intro i j hi hj hij;have:=y10 h (j - i - 1) i (by omega);rw[show i+(j - i - 1)+1=j by omega]at this;simpa[zM,zO hi,zO hj]using this
theorem yk3{n:Int}{zs os vs:List Int}{ko kv:Nat}{fine:Int}{R:List RT}{L S P:List Int}(h:zc3 n zs os vs ko kv fine R L=0)(hS:zr3 (za8 R R.length)=S)(hp:∀i,i<P.length->0<=P.getD i 0/\P.getD i 0<S.length):LvI S P L.length 0 R L:=by
 obtain⟨h1,h2,h3,h4,h5⟩:=zb5 h;obtain⟨s1,s2,s3⟩:=zk3 h;have hne:∀r∈R,r.ids≠[]:=fun r hr=>by
  obtain⟨j,hj,e⟩:=zo5 hr;rw[<-e];exact s3 j hj
 have hfl:=zb6 R;refine⟨fun j j1 j2=>(h2 j j2).1 j1,hne,s2,fun r hr=> ?_,?_,zW8 h4,rfl,fun j _ hj=> ?_,fun x hx hm=>h3.2 x hm hx⟩
 ·have:=zP8 R r hr
  rw[<-hfl]at this;omega
 ·have:=yb2 R hne
  rw[<-hfl]at this;omega
 ·have hb:=hp j hj
  have:pkd S P j∈S:=zy0 S _ (by omega);rw[<-hS]at this;rw[<-zC0];rw[hS]at this⊢;exact this
theorem y69{S P:List Int}(hS:S.Nodup)(hP:P.Nodup)(hp:∀i,i<P.length->0<=P.getD i 0/\P.getD i 0<S.length):∀i j,i<j->j<P.length->pkd S P i≠pkd S P j:=fun i j hij hj=>by
 have h1:=zt2 hP hij hj;have h2:=hp i (by omega);have h3:=hp j hj;unfold pkd;rcases Nat.lt_trichotomy (P.getD i 0).toNat (P.getD j 0).toNat with h|h|h
 ·exact zt2 hS h (by omega)
 ·exact absurd (show P.getD i 0=P.getD j 0 by omega) h1
 ·exact fun e=>zt2 hS h (by omega) e.symm
theorem yn5{l:List Int}(h:l.Nodup):(zr3 l).Nodup:=(zS9 h).imp (fun h=>by omega)
