import Derived.Test.YtjobhigmdaiinaaGreatPack3
import Derived.Test.YtjobhigmdaiinaaGreatPack5
import Derived.Test.YtjobhigmdaiinaaGreatPack17
namespace Go.Proofs.YtjobhigmdaiinaaGreat
open Go.RowKit
def wrL(R:List RT)(r:RT):List RT:=R.filter (fun x=>decide (x.v<r.v))++((if r.ids=[]then []else [r])++R.filter (fun x=>decide (r.v<x.v)))
theorem zt3{R:List RT}{j:Nat}(h:j<R.length):R.getD j rt0∈R:=by rw[List.getD_eq_getElem?_getD,List.getElem?_eq_getElem h];simp
theorem zS2{R:List RT}{x:RT}(h:x∈R):∃j,j<R.length/\R.getD j rt0=x:=by
 obtain⟨j,hj,e⟩:=List.getElem_of_mem h;exact⟨j,hj,by rw[List.getD_eq_getElem?_getD,List.getElem?_eq_getElem hj,e];rfl⟩
theorem zQ6{R:List RT}{x:RT}{k:Nat}(h:x∈R.take k):∃j,j<k/\j<R.length/\R.getD j rt0=x:=by
 obtain⟨j,hj,e⟩:=List.getElem_of_mem h;rw[List.length_take]at hj;rw[List.getElem_take]at e;exact⟨j,by omega,by omega,by rw[List.getD_eq_getElem?_getD,List.getElem?_eq_getElem (by omega),e];rfl⟩
theorem zR8{R:List RT}{x:RT}{k:Nat}(h:x∈R.drop k):∃j,k<=j/\j<R.length/\R.getD j rt0=x:=by
 obtain⟨j,hj,e⟩:=List.getElem_of_mem h;rw[List.length_drop]at hj;rw[List.getElem_drop]at e;exact⟨k+j,by omega,by omega,by rw[List.getD_eq_getElem?_getD,List.getElem?_eq_getElem (by omega),e];rfl⟩
theorem yf7{R:List RT}{veh:Int}{k:Nat}(h:yg5 R veh k):R.filter (fun x=>decide (x.v<veh))=R.take k:=by
 conv=>lhs;rw[<-List.take_append_drop k R]
 rw[List.filter_append,List.filter_eq_self.2 (fun x hx=> ?_),List.filter_eq_nil_iff.2 (fun x hx=> ?_),List.append_nil];rotate_left 1
 ·obtain⟨j,h1,_,rfl⟩:=zQ6 hx
  exact decide_eq_true (h.lo j h1)
 ·obtain⟨j,h1,h2,rfl⟩:=zR8 hx
  have:=h.hi j h1 h2;intro h9;have h10:=of_decide_eq_true h9;omega
def yh2(R:List RT)(veh:Int)(k:Nat):Nat:=if zX2 R veh k=true then 1 else 0
theorem yb4{R:List RT}{veh:Int}{k:Nat}(hS:ze1 R)(h:yg5 R veh k):R.filter (fun x=>decide (veh<x.v))=R.drop (k+yh2 R veh k):=by
 conv=>lhs;rw[<-List.take_append_drop (k+yh2 R veh k) R]
 rw[List.filter_append,List.filter_eq_nil_iff.2 (fun x hx=> ?_),List.filter_eq_self.2 (fun x hx=> ?_),List.nil_append];rotate_left 1
 ·obtain⟨j,h1,h2,rfl⟩:=zQ6 hx
  unfold yh2 at h1;by_cases hj:j<k
  ·have:=h.lo j hj
   intro h9;have h10:=of_decide_eq_true h9;omega
  ·by_cases hf:zX2 R veh k=true
   ·rw[if_pos hf]at h1
    have:=(of_decide_eq_true hf).2;rw[show j=k by omega,this];simp
   ·rw[if_neg hf]at h1;omega
 ·obtain⟨j,h1,h2,rfl⟩:=zR8 hx
  refine decide_eq_true ?_;unfold yh2 at h1;by_cases hf:zX2 R veh k=true
  ·rw[if_pos hf]at h1
   have h3:=(of_decide_eq_true hf).2;have h4:=hS.lt (j - k - 1) k (by omega);rw[show k+(j - k - 1)+1=j by omega]at h4;omega
  ·rw[if_neg hf]at h1
   have h3:=h.hi j (by omega) h2;by_cases e:j=k
   ·have:¬((R.getD j rt0).v=veh):=fun e2=>hf (decide_eq_true ⟨by omega,by rw[<-e];exact e2⟩)
    omega
   ·have h4:=hS.lt (j - k - 1) k (by omega)
    rw[show k+(j - k - 1)+1=j by omega]at h4;have h5:=h.hi k (Nat.le_refl _) (by omega);omega
theorem yt4{R:List RT}{r:RT}{k:Nat}(hS:ze1 R)(h:yg5 R r.v k):wrL R r=R.take k++((if r.ids=[]then []else [r])++R.drop (k+yh2 R r.v k)):=by
 unfold wrL;rw[yf7 h,yb4 hS h]
theorem z62(R:List RT)(k:Nat):(zg9 R).take (k*2)=zg9 (R.take k):=by
 by_cases h:k<=R.length
 ·conv=>lhs;rw[<-List.take_append_drop k R,zl1]
  rw[List.take_left' (by rw[ze7,List.length_take];omega)]
 ·rw[List.take_of_length_le (by rw[ze7];omega),List.take_of_length_le (by omega)]
theorem z45(R:List RT)(k:Nat):(zg9 R).drop (k*2)=zg9 (R.drop k):=by
 by_cases h:k<=R.length
 ·conv=>lhs;rw[<-List.take_append_drop k R,zl1]
  rw[List.drop_left' (by rw[ze7,List.length_take];omega)]
 ·rw[List.drop_of_length_le (by rw[ze7];omega),List.drop_of_length_le (by omega)]
  rfl
theorem zZ2{R:List RT}{r x:RT}(h:x∈wrL R r):x∈R∨x=r:=by
 unfold wrL at h;rcases List.mem_append.1 h with h|h
 ·exact .inl (List.mem_filter.1 h).1
 ·rcases List.mem_append.1 h with h|h
  ·by_cases e:r.ids=[]
   ·rw[if_pos e]at h;cases h
   ·rw[if_neg e]at h;exact .inr (List.mem_singleton.1 h)
  ·exact .inl (List.mem_filter.1 h).1
theorem z95{R S:List RT}(p:Int->Bool)(h:R.map RT.key=S.map RT.key):(R.filter (fun x=>p x.v)).map RT.key=(S.filter (fun x=>p x.v)).map RT.key:=by
 have e:∀T:List RT,(T.filter (fun x=>p x.v)).map RT.key=(T.map RT.key).filter (fun k=>p k.1):=fun T=>by
  rw[List.filter_map];rfl
 rw[e,e,h]
theorem zN7{R S:List RT}{r s:RT}(h:R.map RT.key=S.map RT.key)(hr:r.key=s.key):(wrL R r).map RT.key=(wrL S s).map RT.key:=by
 have hv:r.v=s.v:=congrArg Prod.fst hr;have hi:r.ids=s.ids:=congrArg Prod.snd hr;unfold wrL;rw[List.map_append,List.map_append,List.map_append,List.map_append,hv,hi,z95 (fun v=>decide (v<s.v)) h,z95 (fun v=>decide (s.v<v)) h]
 congr 2
 split
 ·rfl
 ·show[r.key]=[s.key]
  rw[hr]
theorem z30{R S:List RT}(h:R.map RT.key=S.map RT.key)(veh:Int):(zd9 R veh).ids=(zd9 S veh).ids:=by
 have e:∀T:List RT,(zd9 T veh).ids=(((T.map RT.key).find? (fun k=>k.1==veh)).map (·.2)).getD []:=fun T=>by
  unfold zd9;rw[List.find?_map];have:((fun k:Int×List Int=>k.1==veh) ∘ RT.key)=fun r:RT=>r.v==veh:=rfl;rw[this];cases T.find? (fun r:RT=>r.v==veh)<;>rfl
 rw[e,e,h]
theorem z41(r:RT):∀(R o:List RT),(∀x∈R,x.v≠r.v)->R.foldl (zB9 r) (o,true)=(o++R,true)
 |[],o,_=>by simp
 |x::R,o,h=>by
  rw[List.foldl_cons,ym0 (h x (List.mem_cons_self ..)),z41 r R _ (fun y hy=>h y (List.mem_cons_of_mem _ hy))];simp
theorem yr7{R:List RT}{r x:RT}(hx:x.v<r.v):wrL (x::R) r=x::wrL R r:=by
 unfold wrL;rw[List.filter_cons_of_pos (p:=fun x:RT=>decide (x.v<r.v)) (decide_eq_true hx),List.filter_cons_of_neg (p:=fun x:RT=>decide (r.v<x.v)) (fun h9=>by have:=of_decide_eq_true h9;omega)];rfl
theorem yt2{R:List RT}{r:RT}(hr:r.ids≠[])(h:∀y∈R,r.v<y.v):wrL R r=r::R:=by
 unfold wrL;have h1:R.filter (fun x=>decide (x.v<r.v))=[]:=List.filter_eq_nil_iff.2 (fun y hy h9=>by have:=of_decide_eq_true h9;have:=h y hy;omega);have h2:=List.filter_eq_self.2 (fun y hy=>decide_eq_true (h y hy));rw[h1,h2];simp[hr]
theorem yp6{R:List RT}{r x:RT}(hr:r.ids≠[])(hx:x.v=r.v)(h:∀y∈R,r.v<y.v):wrL (x::R) r=r::R:=by
 unfold wrL;have h1:(x::R).filter (fun x=>decide (x.v<r.v))=[]:=List.filter_eq_nil_iff.2 (fun y hy h9=>by
  have:=of_decide_eq_true h9;rcases List.mem_cons.1 hy with e|hy
  ·rw[e]at this;omega
  ·have:=h y hy;omega)
 have h2:(x::R).filter (fun x=>decide (r.v<x.v))=R:=by
  rw[List.filter_cons_of_neg (p:=fun x:RT=>decide (r.v<x.v)) (fun h9=>by have:=of_decide_eq_true h9;omega)];exact List.filter_eq_self.2 (fun y hy=>decide_eq_true (h y hy))
 rw[h1,h2];simp[hr]
theorem zY3{r:RT}(hr:r.ids≠[]):∀(R o:List RT),R.Pairwise (fun a b=>a.v<b.v)->(if(R.foldl (zB9 r) (o,false)).2 then(R.foldl (zB9 r) (o,false)).1 else(R.foldl (zB9 r) (o,false)).1++[r])=o++wrL R r
 |[],o,_=>by simp[wrL,hr]
 |x::R,o,h=>by
  obtain⟨h1,h2⟩:=List.pairwise_cons.1 h;rw[List.foldl_cons];rcases Int.lt_trichotomy x.v r.v with hx|hx|hx
  ·rw[ym9 hx,zY3 hr R (o++[x]) h2,yr7 hx]
   simp
  ·rw[ym4 hx,z41 r R _ (fun y hy=>by have:=h1 y hy;omega),yp6 hr hx (fun y hy=>by have:=h1 y hy;omega)]
   simp
  ·rw[yn0 hx,z41 r R _ (fun y hy=>by have:=h1 y hy;omega),yt2 hr (fun y hy=>by
    rcases List.mem_cons.1 hy with e|hy
    ·rw[e];exact hx
    ·have:=h1 y hy;omega)]
   simp
theorem ze1.pw{R:List RT}(h:ze1 R):R.Pairwise (fun a b=>a.v<b.v):=by
 rw[List.pairwise_iff_getElem];intro i j hi hj hij;have:=h.lt (j - i - 1) i (by omega);rw[show i+(j - i - 1)+1=j by omega]at this;simpa[List.getD_eq_getElem?_getD,List.getElem?_eq_getElem hi,List.getElem?_eq_getElem hj]using this
theorem zD9{R:List RT}{r:RT}(hS:ze1 R)(hr:r.ids≠[]):setL R r=wrL R r:=by
 have:=zY3 hr R [] hS.pw;rw[List.nil_append]at this;rw[<-this];unfold setL setTo;rw[List.take_length]
end Go.Proofs.YtjobhigmdaiinaaGreat
