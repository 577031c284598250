import Derived.Test.YtkchnomkiboihaaGreatPack5
import Derived.Test.YtkchnomkiboihaaGreatPack19
set_option linter.unusedSimpArgs false
namespace Go.Proofs.YtkchnomkiboihaaGreat
theorem qZ:type_of% @List.filter_cons_of_neg:=@List.filter_cons_of_neg
theorem q7:type_of% @List.take_append_drop:=@List.take_append_drop
theorem ja:type_of% @List.filter_eq_nil_iff:=@List.filter_eq_nil_iff
open Go.RowKit
open Q
def wrL(R:List RT)(r:RT):List RT:=R.filter (fun x=>decide (x.v<r.v))++((if r.ids=[]then []else [r])++R.filter (fun x=>decide (r.v<x.v)))
theorem zh7{R:List RT}{j:Nat}(h:j<R.length):R.getD j rt0∈R:=by rw[zQ,zR h];simp
theorem zo3{R:List RT}{x:RT}(h:x∈R):∃j,j<R.length/\R.getD j rt0=x:=by
 obtain⟨j,hj,e⟩:=xU h;exact⟨j,hj,by rw[zQ,zR hj,e];rfl⟩
theorem yj2{R:List RT}{x:RT}{k:Nat}(h:x∈R.take k):∃j,j<k/\j<R.length/\R.getD j rt0=x:=by
 obtain⟨j,hj,e⟩:=xU h;rw[yh]at hj;rw[List.getElem_take]at e;exact⟨j,by omega,by omega,by rw[zQ,zR (by omega),e];rfl⟩
theorem ym3{R:List RT}{x:RT}{k:Nat}(h:x∈R.drop k):∃j,k<=j/\j<R.length/\R.getD j rt0=x:=by
 obtain⟨j,hj,e⟩:=xU h;rw[qj]at hj;rw[List.getElem_drop]at e;exact⟨k+j,by omega,by omega,by rw[zQ,zR (by omega),e];rfl⟩
theorem yz1{R:List RT}{ab:Int}{k:Nat}(h:y30 R ab k):R.filter (fun x=>decide (x.v<ab))=R.take k:=by
 conv=>lhs;rw[<-q7 k R]
 rw[yP,yC.2 (fun x hx=> ?_),ja.2 (fun x hx=> ?_),qe];rotate_left 1
 ·obtain⟨j,h1,_,rfl⟩:=yj2 hx
  exact zW (h.lo j h1)
 ·obtain⟨j,h1,h2,rfl⟩:=ym3 hx
  have:=h.hi j h1 h2;intro h9;have Fo:=zZ h9;omega
def yr5(R:List RT)(ab:Int)(k:Nat):Nat:=if yo3 R ab k=true then 1 else 0
theorem yy1{R:List RT}{ab:Int}{k:Nat}(hS:zf7 R)(h:y30 R ab k):R.filter (fun x=>decide (ab<x.v))=R.drop (k+yr5 R ab k):=by
 conv=>lhs;rw[<-q7 (k+yr5 R ab k) R]
 rw[yP,ja.2 (fun x hx=> ?_),yC.2 (fun x hx=> ?_),yw];rotate_left 1
 ·obtain⟨j,h1,h2,rfl⟩:=yj2 hx
  unfold yr5 at h1;by_cases hj:j<k
  ·have:=h.lo j hj
   intro h9;have Fo:=zZ h9;omega
  ·by_cases hf:yo3 R ab k=true
   ·rw[z7 hf]at h1
    have:=(zZ hf).2;rw[show j=k by omega,this];simp
   ·rw[ye hf]at h1;omega
 ·obtain⟨j,h1,h2,rfl⟩:=ym3 hx
  refine zW ?_;unfold yr5 at h1;by_cases hf:yo3 R ab k=true
  ·rw[z7 hf]at h1
   have h3:=(zZ hf).2;have h4:=hS.lt (j - k - 1) k (by omega);rw[show k+(j - k - 1)+1=j by omega]at h4;omega
  ·rw[ye hf]at h1
   have h3:=h.hi j (by omega) h2;by_cases e:j=k
   ·have:¬((R.getD j rt0).v=ab):=fun e2=>hf (zW ⟨by omega,by rw[<-e];exact e2⟩)
    omega
   ·have h4:=hS.lt (j - k - 1) k (by omega)
    rw[show k+(j - k - 1)+1=j by omega]at h4;have h5:=h.hi k (zT _) (by omega);omega
theorem yB3{R:List RT}{r:RT}{k:Nat}(hS:zf7 R)(h:y30 R r.v k):wrL R r=R.take k++((if r.ids=[]then []else [r])++R.drop (k+yr5 R r.v k)):=by
 unfold wrL;rw[yz1 h,yy1 hS h]
theorem zJ0(R:List RT)(k:Nat):(zj5 R).take (k*2)=zj5 (R.take k):=by
 by_cases h:k<=R.length
 ·conv=>lhs;rw[<-q7 k R,zp7]
  rw[List.take_left' (by rw[zg6,yh];omega)]
 ·rw[xF (by rw[zg6];omega),xF (by omega)]
theorem zG2(R:List RT)(k:Nat):(zj5 R).drop (k*2)=zj5 (R.drop k):=by
 by_cases h:k<=R.length
 ·conv=>lhs;rw[<-q7 k R,zp7]
  rw[List.drop_left' (by rw[zg6,yh];omega)]
 ·rw[List.drop_of_length_le (by rw[zg6];omega),List.drop_of_length_le (by omega)]
  rfl
theorem zy0{R:List RT}{r x:RT}(h:x∈wrL R r):x∈R∨x=r:=by
 unfold wrL at h;rcases yj.1 h with h|h
 ·exact .inl (qi.1 h).1
 ·rcases yj.1 h with h|h
  ·by_cases e:r.ids=[]
   ·rw[z7 e]at h;cases h
   ·rw[ye e]at h;exact .inr (List.mem_singleton.1 h)
  ·exact .inl (qi.1 h).1
theorem zL3{R S:List RT}(p:Int->Bool)(h:R.map RT.key=S.map RT.key):(R.filter (fun x=>p x.v)).map RT.key=(S.filter (fun x=>p x.v)).map RT.key:=by
 have e:∀T:List RT,(T.filter (fun x=>p x.v)).map RT.key=(T.map RT.key).filter (fun k=>p k.1):=fun T=>by
  rw[List.filter_map];rfl
 rw[e,e,h]
theorem z83{R S:List RT}{r s:RT}(h:R.map RT.key=S.map RT.key)(hr:r.key=s.key):(wrL R r).map RT.key=(wrL S s).map RT.key:=by
 have hv:r.v=s.v:=congrArg Prod.fst hr;have hi:r.ids=s.ids:=congrArg Prod.snd hr;unfold wrL;rw[x8,x8,x8,x8,hv,hi,zL3 (fun v=>decide (v<s.v)) h,zL3 (fun v=>decide (s.v<v)) h]
 congr 2
 split
 ·rfl
 ·show[r.key]=[s.key]
  rw[hr]
theorem zo2{R S:List RT}(h:R.map RT.key=S.map RT.key)(ab:Int):(zc7 R ab).ids=(zc7 S ab).ids:=by
 have e:∀T:List RT,(zc7 T ab).ids=(((T.map RT.key).find? (fun k=>k.1==ab)).map (·.2)).getD []:=fun T=>by
  unfold zc7;rw[List.find?_map];have:((fun k:Int×List Int=>k.1==ab) ∘ RT.key)=fun r:RT=>r.v==ab:=rfl;rw[this];cases T.find? (fun r:RT=>r.v==ab)<;>rfl
 rw[e,e,h]
theorem zE4(r:RT):∀(R o:List RT),(∀x∈R,x.v≠r.v)->R.foldl (zO3 r) (o,true)=(o++R,true)
 |[],o,_=>by simp
 |x::R,o,h=>by
  rw[yM,y99 (h x (yB ..)),zE4 r R _ (fun y hy=>h y (yt _ hy))];simp
theorem yJ5{R:List RT}{r x:RT}(hx:x.v<r.v):wrL (x::R) r=x::wrL R r:=by
 unfold wrL;rw[yD (p:=fun x:RT=>decide (x.v<r.v)) (zW hx),qZ (p:=fun x:RT=>decide (r.v<x.v)) (fun h9=>by have:=zZ h9;omega)];rfl
theorem yI9{R:List RT}{r:RT}(hr:r.ids≠[])(h:∀y∈R,r.v<y.v):wrL R r=r::R:=by
 unfold wrL;have h1:R.filter (fun x=>decide (x.v<r.v))=[]:=ja.2 (fun y hy h9=>by have:=zZ h9;have:=h y hy;omega);have h2:=yC.2 (fun y hy=>zW (h y hy));rw[h1,h2];simp[hr]
theorem yE6{R:List RT}{r x:RT}(hr:r.ids≠[])(hx:x.v=r.v)(h:∀y∈R,r.v<y.v):wrL (x::R) r=r::R:=by
 unfold wrL;have h1:(x::R).filter (fun x=>decide (x.v<r.v))=[]:=ja.2 (fun y hy h9=>by
  have:=zZ h9;rcases yx.1 hy with e|hy
  ·rw[e]at this;omega
  ·have:=h y hy;omega)
 have h2:(x::R).filter (fun x=>decide (r.v<x.v))=R:=by
  rw[qZ (p:=fun x:RT=>decide (r.v<x.v)) (fun h9=>by have:=zZ h9;omega)];exact yC.2 (fun y hy=>zW (h y hy))
 rw[h1,h2];simp[hr]
theorem y18{r:RT}(hr:r.ids≠[]):∀(R o:List RT),R.Pairwise (fun a b=>a.v<b.v)->(if(R.foldl (zO3 r) (o,false)).2 then(R.foldl (zO3 r) (o,false)).1 else(R.foldl (zO3 r) (o,false)).1++[r])=o++wrL R r
 |[],o,_=>by simp[wrL,hr]
 |x::R,o,h=>by
  obtain⟨h1,h2⟩:=yO.1 h;rw[yM];rcases Int.lt_trichotomy x.v r.v with hx|hx|hx
  ·rw[yA9 hx,y18 hr R (o++[x]) h2,yJ5 hx]
   simp
  ·rw[yB4 hx,zE4 r R _ (fun y hy=>by have:=h1 y hy;omega),yE6 hr hx (fun y hy=>by have:=h1 y hy;omega)]
   simp
  ·rw[yB1 hx,zE4 r R _ (fun y hy=>by have:=h1 y hy;omega),yI9 hr (fun y hy=>by
    rcases yx.1 hy with e|hy
    ·rw[e];exact hx
    ·have:=h1 y hy;omega)]
   simp
theorem zf7.pw{R:List RT}(h:zf7 R):R.Pairwise (fun a b=>a.v<b.v):=by
 rw[yy];intro i j hi hj lN;have:=h.lt (j - i - 1) i (by omega);rw[show i+(j - i - 1)+1=j by omega]at this;simpa[zQ,zR hi,zR hj]using this
theorem z66{R:List RT}{r:RT}(hS:zf7 R)(hr:r.ids≠[]):setL R r=wrL R r:=by
 have:=y18 hr R [] hS.pw;rw[yw]at this;rw[<-this];unfold setL setTo;rw[ym]
