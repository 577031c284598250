import Derived.Test.YtjobhigmdaiinaaGreatPack23
import Derived.Test.YtjobhigmdaiinaaGreatPack29
namespace Go.Proofs.YtjobhigmdaiinaaGreat
open Go.RowKit
theorem yg1:∀(R:List RT),(∀r∈R,r.ids≠[])->R.length<=(R.flatMap RT.ids).length
 |[],_=>by simp
 |r::R,h=>by
  have h1:=List.length_pos_iff.2 (h r (List.mem_cons_self ..));have h2:=yg1 R (fun x hx=>h x (List.mem_cons_of_mem _ hx));rw[List.flatMap_cons,List.length_append,List.length_cons];omega
theorem zI8:∀(R:List RT) (r:RT),r∈R->r.ids.length<=(R.flatMap RT.ids).length
 |x::R,r,h=>by
  rw[List.flatMap_cons,List.length_append];rcases List.mem_cons.1 h with e|h
  ·subst e;omega
  ·have:=zI8 R r h
   omega
theorem yk7{os:List Int}{ko:Nat}{L:List Int}(h:zf1 os ko L L.length):∀(d i:Nat),i+d+1<L.length->L.getD i 0<L.getD (i+d+1) 0
 |0,i,hi=>(h (i+1) hi).2 (by omega)
 |d+1,i,hi=>Int.lt_trans (yk7 h d i (by omega)) ((h (i+d+1+1) hi).2 (by omega))
theorem yh0{os:List Int}{ko:Nat}{L:List Int}(h:zf1 os ko L L.length):L.Pairwise (· <·):=by
 rw[List.pairwise_iff_getElem];intro i j hi hj hij;have:=yk7 h (j - i - 1) i (by omega);rw[show i+(j - i - 1)+1=j by omega]at this;simpa[List.getD_eq_getElem?_getD,List.getElem?_eq_getElem hi,List.getElem?_eq_getElem hj]using this
theorem yp8{n:Int}{zs os vs:List Int}{ko kv:Nat}{fine:Int}{R:List RT}{L S P:List Int}(h:zc3 n zs os vs ko kv fine R L=0)(hS:zm2 (za7 R R.length)=S)(hp:∀i,i<P.length->0<=P.getD i 0/\P.getD i 0<S.length):LvI S P L.length 0 R L:=by
 obtain⟨h1,h2,h3,h4,h5⟩:=zc2 h;obtain⟨s1,s2,s3⟩:=zj5 h;have hne:∀r∈R,r.ids≠[]:=fun r hr=>by
  obtain⟨j,hj,e⟩:=zv0 hr;rw[<-e];exact s3 j hj
 have hfl:=zd2 R;refine⟨fun j j1 j2=>(h2 j j2).1 j1,hne,s2,fun r hr=> ?_,?_,yh0 h4,rfl,fun j _ hj=> ?_,fun x hx hm=>h3.2 x hm hx⟩
 ·have:=zI8 R r hr
  rw[<-hfl]at this;omega
 ·have:=yg1 R hne
  rw[<-hfl]at this;omega
 ·have hb:=hp j hj
  have:pkd S P j∈S:=zz5 S _ (by omega);rw[<-hS]at this;rw[<-zv3];rw[hS]at this⊢;exact this
end Go.Proofs.YtjobhigmdaiinaaGreat
