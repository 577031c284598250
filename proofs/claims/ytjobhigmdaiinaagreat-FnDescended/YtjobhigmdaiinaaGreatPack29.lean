import Derived.Test.YtjobhigmdaiinaaGreatPack0
import Derived.Test.YtjobhigmdaiinaaGreatPack1
import Derived.Test.YtjobhigmdaiinaaGreatPack3
import Derived.Test.YtjobhigmdaiinaaGreatPack5
import Derived.Test.YtjobhigmdaiinaaGreatPack22
import Derived.Test.YtjobhigmdaiinaaGreatPack25
namespace Go.Proofs.YtjobhigmdaiinaaGreat
open Go.RowKit
def lvR(R:List RT)(id:Int):List RT:=(R.map fun r=>{r with ids:=cutP r.ids id}).filter fun r=>decide (r.ids≠[])
theorem zT4(A B:List RT)(id:Int):lvR (A++B) id=lvR A id++lvR B id:=by simp[lvR]
theorem zU7:∀(R:List RT) (id:Int),(∀r∈R,id∉r.ids/\r.ids≠[])->lvR R id=R
 |[],_,_=>rfl
 |r::R,id,h=>by
  have h1:=h r (List.mem_cons_self ..);have h2:=zU7 R id (fun x hx=>h x (List.mem_cons_of_mem _ hx));have e:({r with ids:=cutP r.ids id}:RT)=r:=by rw[zV9 h1.1]
  unfold lvR at*;rw[List.map_cons,e,List.filter_cons_of_pos (by simpa using h1.2),h2]
theorem zd2(R:List RT):za7 R R.length=R.flatMap RT.ids:=by unfold za7;rw[List.take_length]
theorem yu4{R:List RT}{id:Int}{r:RT}(h:r∈lvR R id):r.ids≠[]:=of_decide_eq_true (List.mem_filter.1 h).2
theorem zS4(R:List RT)(id:Int):(lvR R id).length<=R.length:=by
 have:=List.length_filter_le (fun r:RT=>decide (r.ids≠[])) (R.map fun r=>{r with ids:=cutP r.ids id});rw[List.length_map]at this;exact this
theorem yg6{R:List RT}{id:Int}{m:Nat}(h:∀r∈R,r.ids.length<=m):∀r∈lvR R id,r.ids.length<=m:=fun r hr=>by
 obtain⟨x,hx,rfl⟩:=List.mem_map.1 (List.mem_filter.1 hr).1;exact Nat.le_trans (yl7 _ _) (h x hx)
theorem ze4{R:List RT}(h:R.Pairwise (fun a b=>a.v<b.v)):zi9 R:=fun j h1 h2=>by
 have h3:=(List.pairwise_iff_getElem.1 h) (j - 1) j (by omega) h2 (by omega);simpa[List.getD_eq_getElem?_getD,List.getElem?_eq_getElem h2,List.getElem?_eq_getElem (show j - 1<R.length by omega)]using h3
theorem z95{R:List RT}(h:zi9 R)(id:Int):zi9 (lvR R id):=
 ze4 (List.Pairwise.filter _ (List.pairwise_map.2 h.pw))
theorem z58{R:List RT}{k:Nat}(hk:k<R.length):R=R.take k++(R.getD k rt0::R.drop (k+1)):=by
 conv=>lhs;rw[<-List.take_append_drop k R]
 rw[List.drop_eq_getElem_cons hk];simp[List.getD_eq_getElem?_getD,hk]
theorem yr5{R:List RT}{k:Nat}(hS:zi9 R)(hk:k<R.length):yd3 R (R.getD k rt0).v k:=
 ⟨by omega,fun j hj=>by
   have:=hS.lt (k - j - 1) j (by omega);rw[show j+(k - j - 1)+1=k by omega]at this;exact this,fun j h1 h2=>hS.le h1 h2⟩
theorem yx1{R:List RT}{k:Nat}(hS:zi9 R)(hk:k<R.length)(a:Option Addr)(M:List Int)(c:Nat):wrL R ⟨(R.getD k rt0).v,a,M,c⟩=R.take k++((if M=[]then []else [⟨(R.getD k rt0).v,a,M,c⟩])++R.drop (k+1)):=by
 have h:=yu2 (r:=⟨(R.getD k rt0).v,a,M,c⟩) hS (yr5 hS hk);have e:yd4 R (R.getD k rt0).v k=1:=by unfold yd4 zZ6;rw[if_pos (decide_eq_true ⟨hk,rfl⟩)]
 simp only[e]at h;exact h
theorem yp0{R:List RT}{k:Nat}{id:Int}(hk:k<R.length)(hne:∀r∈R,r.ids≠[])(hnd:(za7 R R.length).Nodup)(hid:id∈(R.getD k rt0).ids):lvR R id=R.take k++((if cutP (R.getD k rt0).ids id=[]then []else [{R.getD k rt0 with ids:=cutP (R.getD k rt0).ids id}])++R.drop (k+1)):=by
 have hs:=z58 hk;rw[zd2]at hnd;generalize R.getD k rt0=r at*;generalize R.take k=A at*;generalize R.drop (k+1)=B at*;subst hs;rw[List.flatMap_append,List.flatMap_cons,List.nodup_append]at hnd;obtain⟨_,h2,h3⟩:=hnd;rw[List.nodup_append]at h2;obtain⟨_,_,h4⟩:=h2;have hA:∀x∈A,id∉x.ids/\x.ids≠[]:=fun x hx=>⟨fun e=>h3 id (List.mem_flatMap.2 ⟨x,hx,e⟩) id (List.mem_append_left _ hid) rfl,hne x (List.mem_append_left _ hx)⟩;have hB:∀x∈B,id∉x.ids/\x.ids≠[]:=fun x hx=>⟨fun e=>h4 id hid id (List.mem_flatMap.2 ⟨x,hx,e⟩) rfl,hne x (List.mem_append_right _ (List.mem_cons_of_mem _ hx))⟩;rw[<-List.singleton_append,zT4,zT4,zU7 A id hA,zU7 B id hB]
 congr 2
 unfold lvR;by_cases h:cutP r.ids id=[]
 ·rw[List.map_cons,List.map_nil,List.filter_cons_of_neg (by simpa using h),if_pos h];rfl
 ·rw[List.map_cons,List.map_nil,List.filter_cons_of_pos (by simpa using h),if_neg h];rfl
theorem zt0{R:List RT}{k:Nat}(hk:k<R.length)(hnd:(za7 R R.length).Nodup):(R.getD k rt0).ids.Nodup:=by
 rw[zd2]at hnd;have hs:=z58 hk;rw[hs,List.flatMap_append,List.flatMap_cons]at hnd;exact(List.nodup_append.1 (List.nodup_append.1 hnd).2.1).1
theorem zz5(l:List Int)(i:Nat)(h:i<l.length):l.getD i 0∈l:=by
 rw[List.getD_eq_getElem?_getD,List.getElem?_eq_getElem h];exact List.getElem_mem _
theorem ya4{R:List RT}{k at_:Nat}{id:Int}(hS:zi9 R)(hk:k<R.length)(hne:∀r∈R,r.ids≠[])(hnd:(za7 R R.length).Nodup)(hin:at_<(R.getD k rt0).ids.length)(hid:(R.getD k rt0).ids.getD at_ 0=id)(a:Option Addr)(c:Nat):(wrL R ⟨(R.getD k rt0).v,a,zB2 (R.getD k rt0).ids at_,c⟩).map RT.key=(lvR R id).map RT.key:=by
 have hm:id∈(R.getD k rt0).ids:=by
  rw[<-hid];exact zz5 _ _ hin
 have e:zB2 (R.getD k rt0).ids at_=cutP (R.getD k rt0).ids id:=by rw[<-hid,yt1 (zt0 hk hnd) hin]
 rw[yx1 hS hk,yp0 hk hne hnd hm,e];generalize cutP (R.getD k rt0).ids id=M;by_cases h:M=[]
 ·rw[if_pos h,if_pos h]
 ·rw[if_neg h,if_neg h]
  simp[RT.key]
theorem ya1{R:List RT}{k:Nat}{id:Int}(hS:zi9 R)(hk:k<R.length)(hne:∀r∈R,r.ids≠[])(hnd:(za7 R R.length).Nodup)(hm:id∈(R.getD k rt0).ids)(hc:cutP (R.getD k rt0).ids id≠[])(a:Option Addr)(c:Nat):(setL R ⟨(R.getD k rt0).v,a,cutP (R.getD k rt0).ids id,c⟩).map RT.key=(lvR R id).map RT.key:=by
 rw[zX9 hS hc,yx1 hS hk,yp0 hk hne hnd hm,if_neg hc,if_neg hc];simp[RT.key]
theorem yb7{R:List RT}{k:Nat}{id:Int}(hS:zi9 R)(hk:k<R.length)(hne:∀r∈R,r.ids≠[])(hnd:(za7 R R.length).Nodup)(hm:id∈(R.getD k rt0).ids)(hc:cutP (R.getD k rt0).ids id=[]):R.filter (fun x=>decide (x.v≠(R.getD k rt0).v))=lvR R id:=by
 rw[yp0 hk hne hnd hm,if_pos hc,List.nil_append];have hp:=hS.pw;have hs:=z58 hk;generalize R.getD k rt0=r at*;generalize R.take k=A at*;generalize R.drop (k+1)=B at*;subst hs;obtain⟨_,h2,h3⟩:=List.pairwise_append.1 hp;obtain⟨h4,_⟩:=List.pairwise_cons.1 h2;rw[List.filter_append,List.filter_cons_of_neg (by simp)]
 congr 1
 ·exact List.filter_eq_self.2 (fun x hx=>decide_eq_true (by have:=h3 x hx r (List.mem_cons_self ..);omega))
 ·exact List.filter_eq_self.2 (fun x hx=>decide_eq_true (by have:=h4 x hx;omega))
def pkd(S P:List Int)(j:Nat):Int:=S.getD (P.getD j 0).toNat 0
theorem zJ2{R R':List RT}(h:R'.map RT.key=R.map RT.key):R'.flatMap RT.ids=R.flatMap RT.ids:=by
 have e:∀X:List RT,X.flatMap RT.ids=(X.map RT.key).flatMap Prod.snd:=fun X=>by rw[List.flatMap_map];rfl
 rw[e,e,h]
theorem y02{R R':List RT}(h:R'.map RT.key=R.map RT.key)(hp:R.Pairwise (fun a b=>a.v<b.v)):R'.Pairwise (fun a b=>a.v<b.v):=by
 have e:∀X:List RT,X.Pairwise (fun a b=>a.v<b.v)↔(X.map RT.key).Pairwise (fun a b=>a.1<b.1):=fun X=>by rw[List.pairwise_map];rfl
 rw[e,h,<-e];exact hp
theorem yi8{R R':List RT}(h:R'.map RT.key=R.map RT.key)(id:Int):(lvR R' id).map RT.key=(lvR R id).map RT.key:=by
 have e:∀X:List RT,(lvR X id).map RT.key=((X.map RT.key).map (fun p=>(p.1,cutP p.2 id))).filter (fun p=>decide (p.2≠[])):=fun X=>by
  induction X with
  |nil=>rfl
  |cons r X ih=>
   rw[<-List.singleton_append,zT4,List.map_append,ih,List.map_append,List.map_append,List.filter_append]
   congr 1
   unfold lvR;by_cases hc:cutP r.ids id=[]<;>simp[RT.key,hc]
 rw[e,e,h]
structure LvI(S P:List Int)(l0 i:Nat)(R:List RT)(L:List Int):Prop where
 rs:zi9 R
 ne:∀r∈R,r.ids≠[]
 nd:(za7 R R.length).Nodup
 sm:∀r∈R,r.ids.length<=12
 ln:R.length<=100
 up:L.Pairwise (· <·)
 ll:L.length=l0+i
 mm:∀j,i<=j->j<P.length->pkd S P j∈za7 R R.length
 nl:∀x∈za7 R R.length,x∉L
theorem zA7{l:List Int}{x:Int}(h:x∈l):∃i,i<l.length/\l.getD i 0=x:=by
 obtain⟨i,hi,e⟩:=List.getElem_of_mem h;exact⟨i,hi,by rw[List.getD_eq_getElem?_getD,List.getElem?_eq_getElem hi,e];rfl⟩
theorem zO9{l:List Int}(h:l.Nodup){i j:Nat}(hij:i<j)(hj:j<l.length):l.getD i 0≠l.getD j 0:=by
 have:=(List.pairwise_iff_getElem.1 h) i j (by omega) hj hij;simpa[List.getD_eq_getElem?_getD,List.getElem?_eq_getElem hj,List.getElem?_eq_getElem (show i<l.length by omega)]using this
theorem zN9(x:RT)(R:List RT)(v:Int):zc8 (x::R) v=if x.v=v then x else zc8 R v:=by
 unfold zc8;by_cases h:x.v=v
 ·rw[if_pos h,List.find?_cons_of_pos (by simp[h])];rfl
 ·rw[if_neg h,List.find?_cons_of_neg (by simp[h])]
theorem zk8:∀{R:List RT} {v:Int},(∀x∈R,x.v≠v)->zc8 R v=⟨v,none,[],0⟩
 |[],_,_=>rfl
 |x::R,v,h=>by
  rw[zN9,if_neg (h x (List.mem_cons_self ..))];exact zk8 (fun y hy=>h y (List.mem_cons_of_mem _ hy))
theorem ze3:∀{R:List RT} {x:RT},R.Pairwise (fun a b=>a.v<b.v)->x∈R->zc8 R x.v=x
 |y::R,x,hp,hx=>by
  rw[zN9];obtain⟨h1,h2⟩:=List.pairwise_cons.1 hp;rcases List.mem_cons.1 hx with e|hx
  ·subst e;rw[if_pos rfl]
  ·have:=h1 x hx
   rw[if_neg (by omega)];exact ze3 h2 hx
theorem zV0:∀{R:List RT} (_:R.Pairwise (fun a b=>a.v<b.v)) (v:Int),∃E,R=R.filter (fun x=>decide (x.v<v))++(E++R.filter (fun x=>decide (v<x.v)))/\((E=[]/\∀x∈R,x.v≠v)∨∃x,E=[x]/\x.v=v/\x∈R)
 |[],_,_=>⟨[],rfl,.inl ⟨rfl,fun x hx=>by cases hx⟩⟩
 |x::R,hp,v=>by
  obtain⟨h1,h2⟩:=List.pairwise_cons.1 hp;rcases Int.lt_trichotomy x.v v with h|h|h
  ·obtain⟨E,he,hE⟩:=zV0 h2 v
   refine⟨E,?_,?_⟩
   ·rw[List.filter_cons_of_pos (p:=fun x:RT=>decide (x.v<v)) (decide_eq_true h),List.filter_cons_of_neg (p:=fun x:RT=>decide (v<x.v)) (fun h9=>by have:=of_decide_eq_true h9;omega),List.cons_append,<-he]
   ·rcases hE with⟨e,hn⟩|⟨y,e,hy,hm⟩
    ·exact .inl ⟨e,fun z hz=>by
      rcases List.mem_cons.1 hz with e9|hz
      ·subst e9;omega
      ·exact hn z hz⟩
    ·exact .inr ⟨y,e,hy,List.mem_cons_of_mem _ hm⟩
  ·have hlo:R.filter (fun x=>decide (x.v<v))=[]:=List.filter_eq_nil_iff.2 (fun y hy h9=>by have:=of_decide_eq_true h9;have:=h1 y hy;omega)
   have hhi:R.filter (fun x=>decide (v<x.v))=R:=List.filter_eq_self.2 (fun y hy=>decide_eq_true (by have:=h1 y hy;omega));refine⟨[x],?_,.inr ⟨x,rfl,h,List.mem_cons_self ..⟩⟩;rw[List.filter_cons_of_neg (p:=fun x:RT=>decide (x.v<v)) (fun h9=>by have:=of_decide_eq_true h9;omega),List.filter_cons_of_neg (p:=fun x:RT=>decide (v<x.v)) (fun h9=>by have:=of_decide_eq_true h9;omega),hlo,hhi];rfl
  ·have hlo:(x::R).filter (fun x=>decide (x.v<v))=[]:=List.filter_eq_nil_iff.2 (fun y hy h9=>by
    have:=of_decide_eq_true h9;rcases List.mem_cons.1 hy with e|hy
    ·subst e;omega
    ·have:=h1 y hy;omega)
   have hall:∀y∈x::R,v<y.v:=fun y hy=>by
    rcases List.mem_cons.1 hy with e|hy
    ·subst e;exact h
    ·have:=h1 y hy;omega
   have hhi:=List.filter_eq_self.2 (fun y hy=>decide_eq_true (hall y hy));refine⟨[],?_,.inl ⟨rfl,fun y hy=>by have:=hall y hy;omega⟩⟩;rw[hlo,hhi];rfl
theorem zt8{R:List RT}{r x:RT}:x∈wrL R r↔(x∈R/\x.v≠r.v)∨(x=r/\r.ids≠[]):=by
 unfold wrL;rw[List.mem_append,List.mem_append,List.mem_filter,List.mem_filter];by_cases h:r.ids=[]
 ·simp[h]
  constructor
  ·rintro(⟨h1,h2⟩|⟨h1,h2⟩)
   ·exact⟨h1,by omega⟩
   ·exact⟨h1,by omega⟩
  ·rintro⟨h1,h2⟩
   by_cases h3:x.v<r.v
   ·exact .inl ⟨h1,h3⟩
   ·exact .inr ⟨h1,by omega⟩
 ·simp[h]
  constructor
  ·rintro(⟨h1,h2⟩|h1|⟨h1,h2⟩)
   ·exact .inl ⟨h1,by omega⟩
   ·exact .inr h1
   ·exact .inl ⟨h1,by omega⟩
  ·rintro(⟨h1,h2⟩|h1)
   ·by_cases h3:x.v<r.v
    ·exact .inl ⟨h1,h3⟩
    ·exact .inr (.inr ⟨h1,by omega⟩)
   ·exact .inr (.inl h1)
theorem zM4{R:List RT}{r:RT}(hp:R.Pairwise (fun a b=>a.v<b.v)):(wrL R r).Pairwise (fun a b=>a.v<b.v):=by
 unfold wrL;rw[List.pairwise_append,List.pairwise_append];refine⟨hp.filter _,⟨?_,hp.filter _,fun a ha b hb=> ?_⟩,fun a ha b hb=> ?_⟩
 ·split<;>simp
 ·have h2:=of_decide_eq_true (List.mem_filter.1 hb).2
  split at ha
  ·cases ha
  ·have:a=r:=by simpa using ha
   rw[this];exact h2
 ·have h1:=of_decide_eq_true (List.mem_filter.1 ha).2
  rcases List.mem_append.1 hb with h|h
  ·split at h
   ·cases h
   ·have:b=r:=by simpa using h
    rw[this];exact h1
  ·have h2:=of_decide_eq_true (List.mem_filter.1 h).2
   omega
theorem zx2{R:List RT}{r:RT}(hp:R.Pairwise (fun a b=>a.v<b.v))(v:Int):(v=r.v->(zc8 (wrL R r) v).ids=r.ids)/\(v≠r.v->zc8 (wrL R r) v=zc8 R v):=by
 have hq:=zM4 (r:=r) hp;refine⟨fun e=> ?_,fun hv=> ?_⟩
 ·subst e
  by_cases h:r.ids=[]
  ·rw[zk8 (fun x hx=> ?_),h]
   rcases zt8.1 hx with⟨_,h2⟩|⟨_,h2⟩
   ·exact h2
   ·exact absurd h h2
  ·rw[ze3 hq (zt8.2 (.inr ⟨rfl,h⟩))]
 ·by_cases hm:∃x∈R,x.v=v
  ·obtain⟨x,hx,e⟩:=hm
   subst e;rw[ze3 hp hx,ze3 hq (zt8.2 (.inl ⟨hx,hv⟩))]
  ·have hn:∀x∈R,x.v≠v:=fun x hx e=>hm ⟨x,hx,e⟩
   rw[zk8 hn,zk8 (fun x hx=> ?_)];rcases zt8.1 hx with⟨h1,_⟩|⟨h1,_⟩
   ·exact hn x h1
   ·rw[h1];exact fun e=>hv e.symm
theorem ye9{R:List RT}{r:RT}(f:RT->Int)(hp:R.Pairwise (fun a b=>a.v<b.v))(hr:r.ids=[]->f r=0)(h0:f ⟨r.v,none,[],0⟩=0):((wrL R r).map f).sum=(R.map f).sum - f (zc8 R r.v)+f r:=by
 obtain⟨E,he,hE⟩:=zV0 hp r.v;have h1:(R.map f).sum=((R.filter (fun x=>decide (x.v<r.v))).map f).sum+((E.map f).sum+((R.filter (fun x=>decide (r.v<x.v))).map f).sum):=by
  conv=>lhs;rw[he]
  simp only[List.map_append,List.sum_append]
 have h2:(E.map f).sum=f (zc8 R r.v):=by
  rcases hE with⟨e,hn⟩|⟨x,e,hx,hm⟩
  ·rw[e,zk8 hn,h0];rfl
  ·rw[e,<-hx,ze3 hp hm];simp
 have h3:((wrL R r).map f).sum=((R.filter (fun x=>decide (x.v<r.v))).map f).sum+(f r+((R.filter (fun x=>decide (r.v<x.v))).map f).sum):=by
  unfold wrL;simp only[List.map_append,List.sum_append];split
  ·rename_i h;rw[hr h];simp
  ·simp
 rw[h3,h1,h2];omega
theorem z66{R:List RT}{r:RT}(hp:R.Pairwise (fun a b=>a.v<b.v)):((wrL R r).flatMap RT.ids++(zc8 R r.v).ids).Perm (R.flatMap RT.ids++r.ids):=by
 obtain⟨E,he,hE⟩:=zV0 hp r.v;have h2:E.flatMap RT.ids=(zc8 R r.v).ids:=by
  rcases hE with⟨e,hn⟩|⟨x,e,hx,hm⟩
  ·rw[e,zk8 hn];rfl
  ·rw[e,<-hx,ze3 hp hm];simp
 have h3:(wrL R r).flatMap RT.ids=(R.filter (fun x=>decide (x.v<r.v))).flatMap RT.ids++(r.ids++(R.filter (fun x=>decide (r.v<x.v))).flatMap RT.ids):=by
  unfold wrL;simp only[List.flatMap_append];split
  ·rename_i h;rw[h];simp
  ·simp
 have h1:R.flatMap RT.ids=(R.filter (fun x=>decide (x.v<r.v))).flatMap RT.ids++((zc8 R r.v).ids++(R.filter (fun x=>decide (r.v<x.v))).flatMap RT.ids):=by
  conv=>lhs;rw[he]
  simp only[List.flatMap_append,h2]
 rw[h3,h1];generalize(R.filter (fun x=>decide (x.v<r.v))).flatMap RT.ids=A;generalize(R.filter (fun x=>decide (r.v<x.v))).flatMap RT.ids=B;generalize(zc8 R r.v).ids=C;rw[List.append_assoc,List.append_assoc,List.append_assoc,List.append_assoc];refine List.Perm.append_left A ?_;have p1:(r.ids++(B++C)).Perm ((B++C)++r.ids):=List.perm_append_comm;refine p1.trans ?_;rw[<-List.append_assoc];exact List.Perm.append_right _ List.perm_append_comm
theorem zV3{n:Int}{zs:List Int}(h:zo8 n zs=true){x:Int}(hx:0<=x/\x<n):tmI n zs x x=0:=by
 obtain⟨h1,h2,h3,h4⟩:=zj8 h;unfold tmI;obtain⟨m,rfl⟩:=Int.eq_ofNat_of_zero_le (show 0<=n by omega);obtain⟨y,rfl⟩:=Int.eq_ofNat_of_zero_le hx.1;have hy:y<m:=by omega
 have hm:0<m:=by omega
 simp only[Int.toNat_natCast]at h4⊢;have hd:(y*m+y) / m=y:=by
  rw[Nat.mul_comm,Nat.mul_add_div hm,Nat.div_eq_of_lt hy,Nat.add_zero]
 have hr:(y*m+y) % m=y:=by
  rw[Nat.mul_comm,Nat.mul_add_mod,Nat.mod_eq_of_lt hy]
 by_cases hl:y*m+y<zs.length
 ·exact(h4 _ hl).2.2 (by rw[hd,hr])
 ·rw[List.getD_eq_getElem?_getD,List.getElem?_eq_none (by omega)]
  rfl
theorem zR9{n:Int}{zs os vs:List Int}{ko kv:Nat}{fine:Int}(hc:zc9 n zs os vs ko kv fine=true)(v:Int):0<=zb6 vs kv v 1/\zb6 vs kv v 1<n:=by
 obtain⟨_,_,h3,h4,_⟩:=zc4 hc;exact(zp6 h3 h4 v).1
theorem zO4{n:Int}{zs ros:List Int}(hz:zo8 n zs=true){home:Int}(hh:0<=home/\home<n):zo6 n zs ros 0 home=0:=by
 unfold zo6;simp only[zo4,plc,zV3 hz hh];rfl
theorem zG9{n:Int}{zs os vs:List Int}{ko kv:Nat}{fine:Int}(hc:zc9 n zs os vs ko kv fine=true){r:RT}(hr:r.ids=[]):zn1 n zs os vs ko kv r=0:=by
 unfold zn1;rw[hr];exact zO4 (zc4 hc).1 (zR9 hc _)
theorem y16{n:Int}{zs os vs:List Int}{ko kv:Nat}{fine:Int}(hc:zc9 n zs os vs ko kv fine=true)(v:Int):rcV n zs os vs ko kv v []=0:=by
 unfold rcV;split
 ·exact zO4 (zc4 hc).1 (zR9 hc _)
 ·rfl
theorem ys7{n:Int}{vs:List Int}{kv:Nat}(h:zs7 n vs kv=true){v:Int}(hv:fnd5T vs kv v=true):zb6 vs kv v 3<=zb6 vs kv v 4:=by
 unfold fnd5T at hv;unfold zb6;cases hf:zQ6 vs kv v with
 |none=>rw[hf]at hv;cases hv
 |some i=>
  have hi:i<kv:=by
   unfold zQ6 at hf;rw[List.find?_range_eq_some]at hf;have:=hf.2.1;simpa using this
  have:=((zn6 h).2 i hi).1;unfold zC3 zt3 zg3 at this;simp only[Bool.and_eq_true]at this;obtain⟨_,⟨_,_⟩,_,h4⟩:=this;exact(zd5 h4).1
theorem yt8{n:Int}{zs os vs:List Int}{ko kv:Nat}{fine:Int}(hc:zc9 n zs os vs ko kv fine=true){v:Int}(hv:fnd5T vs kv v=true):codeV true n zs os vs ko kv v []=0:=by
 obtain⟨h1,_,h3,h4,_⟩:=zc4 hc;have hb:=zp6 h3 h4 v;have hs:zm7 os ko []=true:=z18 (by simp) (fun j hj=>by simp at hj);have hf:zk3 true vs os kv ko v []=0:=by
  unfold zk3;rw[if_neg (by simp),if_neg (by rw[hv];simp),if_neg (by rw[hs];simp),if_neg (by simp only[List.length_nil,zk4];omega)]
 rw[zr3 hf];unfold zs3;rw[if_pos (fun j hj=>by simp at hj)];have ht:=zV3 h1 (zR9 hc v);have:=ys7 h3 hv;rw[if_neg];unfold homeV;simp only[List.length_nil,zv4,plc,ht];omega
theorem zi8{n:Int}{zs os vs:List Int}{ko kv:Nat}{R:List RT}:zf4 n zs os vs ko kv R R.length↔R.Pairwise (fun a b=>a.v<b.v)/\∀r∈R,r.ids≠[]/\codeV true n zs os vs ko kv r.v r.ids=0:=by
 constructor
 ·intro h
  refine⟨zi9.pw (fun j h1 h2=>(h j h2).1 h1),fun r hr=> ?_⟩;obtain⟨j,hj,e⟩:=zv0 hr;rw[<-e];exact(h j hj).2
 ·rintro⟨h1,h2⟩ j hj
  exact⟨fun h0=>ze4 h1 j h0 hj,h2 _ (zj7 hj)⟩
theorem zN7(n:Int)(zs os vs:List Int)(ko kv:Nat)(R:List RT)(z:Int):∀k,k<=R.length->zf8 n zs os vs ko kv R z k=z+((R.take k).map (zn1 n zs os vs ko kv)).sum
 |0,_=>by simp[zf8]
 |k+1,hk=>by
  have e:R.getD k rt0=R[k]:=by simp[List.getD,show k<R.length by omega]
  rw[zf8,zN7 n zs os vs ko kv R z k (by omega),List.take_succ_eq_append_getElem (by omega),List.map_append,List.sum_append,e];simp;omega
theorem zQ4(n:Int)(zs os vs:List Int)(ko kv:Nat)(R:List RT)(z:Int):zf8 n zs os vs ko kv R z R.length=z+(R.map (zn1 n zs os vs ko kv)).sum:=by
 rw[zN7 n zs os vs ko kv R z _ (Nat.le_refl _),List.take_length]
theorem z78:∀{l:List Int} {x:Int},l.Nodup->x∈l->l.Perm (x::cutP l x)
 |a::l,x,hn,hm=>by
  obtain⟨h1,h2⟩:=List.nodup_cons.1 hn;by_cases e:a=x
  ·subst e
   have:cutP (a::l) a=l:=by
    unfold cutP;rw[List.filter_cons_of_neg (by simp)];exact List.filter_eq_self.2 (fun y hy=>by simp;exact fun e=>h1 (e▸hy))
   rw[this]
  ·have hml:x∈l:=by
    rcases List.mem_cons.1 hm with h|h
    ·exact absurd h.symm e
    ·exact h
   have ih:=z78 h2 hml;have e2:cutP (a::l) x=a::cutP l x:=by
    unfold cutP;rw[List.filter_cons_of_pos (by simp[e])]
   rw[e2];exact(List.Perm.cons a ih).trans (List.Perm.swap x a _)
theorem zL6(l:List Int)(i:Nat)(x:Int):(insL l i x).Perm (x::l):=by
 unfold insL;have:=List.perm_middle (a:=x) (l₁:=l.take i) (l₂:=l.drop i);rw[List.take_append_drop]at this;exact this
theorem yi2{R:List RT}{k:Nat}{id:Int}(hS:zi9 R)(hk:k<R.length)(hne:∀r∈R,r.ids≠[])(hnd:(za7 R R.length).Nodup)(hid:id∈(R.getD k rt0).ids):lvR R id=wrL R ⟨(R.getD k rt0).v,(R.getD k rt0).a,cutP (R.getD k rt0).ids id,(R.getD k rt0).c⟩:=
 (yp0 hk hne hnd hid).trans (yx1 hS hk _ _ _).symm
theorem y40{n:Int}{zs os vs:List Int}{ko kv:Nat}{fine:Int}{R:List RT}{L:List Int}(h:zc3 n zs os vs ko kv fine R L=0){k:Nat}(hk:k<R.length){id:Int}(hid:id∈(R.getD k rt0).ids)(at_:Nat)(r2:RT)(hs:r2.ids=insL (zc8 (lvR R id) r2.v).ids at_ id):
 (zc3 n zs os vs ko kv fine (wrL (lvR R id) r2) L=0↔codeV true n zs os vs ko kv (R.getD k rt0).v (zc8 (wrL (lvR R id) r2) (R.getD k rt0).v).ids=0/\codeV true n zs os vs ko kv r2.v r2.ids=0)∧
 (zc3 n zs os vs ko kv fine (wrL (lvR R id) r2) L=0->∀z,zf8 n zs os vs ko kv (wrL (lvR R id) r2) z (wrL (lvR R id) r2).length - zf8 n zs os vs ko kv R z R.length=if(R.getD k rt0).v=r2.v then rcV n zs os vs ko kv r2.v r2.ids - rcV n zs os vs ko kv r2.v (zc8 R r2.v).ids else(rcV n zs os vs ko kv (R.getD k rt0).v (zc8 (wrL (lvR R id) r2) (R.getD k rt0).v).ids - rcV n zs os vs ko kv (R.getD k rt0).v (zc8 R (R.getD k rt0).v).ids)+(rcV n zs os vs ko kv r2.v r2.ids - rcV n zs os vs ko kv r2.v (zc8 R r2.v).ids)):=by
 obtain⟨hc,hr,ho,hl,hn⟩:=zc2 h;obtain⟨hp,hok⟩:=zi8.1 hr;have hS:=ze4 hp;have hne:∀r∈R,r.ids≠[]:=fun r hr=>(hok r hr).1;have hym:=zj7 hk;have hlv:=yi2 hS hk hne ho.1 hid;rw[hlv]at hs⊢;have hyn:=zt0 hk ho.1;have hyr:=ze3 hp hym;generalize R.getD k rt0=y at*;obtain⟨r1,hr1⟩:∃r1:RT,r1=⟨y.v,y.a,cutP y.ids id,y.c⟩:=⟨_,rfl⟩;have h1v:r1.v=y.v:=by rw[hr1]
 have h1i:r1.ids=cutP y.ids id:=by rw[hr1]
 rw[<-hr1]at hs⊢;have hp1:(wrL R r1).Pairwise (fun a b=>a.v<b.v):=zM4 hp;have hp2:(wrL (wrL R r1) r2).Pairwise (fun a b=>a.v<b.v):=zM4 hp1;have h2n:r2.ids≠[]:=by rw[hs];unfold insL;simp
 have h2m:r2∈wrL (wrL R r1) r2:=zt8.2 (.inr ⟨rfl,h2n⟩)
 -- what is served is the same
 have hpm:((wrL (wrL R r1) r2).flatMap RT.ids).Perm (R.flatMap RT.ids):=by
  have q1:=z66 (r:=r2) hp1;rw[hs]at q1;have q2:=q1.trans (List.Perm.append_left _ ((zL6 (zc8 (wrL R r1) r2.v).ids at_ id)));have q3:((wrL (wrL R r1) r2).flatMap RT.ids).Perm ((wrL R r1).flatMap RT.ids++[id]):=by
   refine(List.perm_append_right_iff (zc8 (wrL R r1) r2.v).ids).1 (q2.trans ?_);rw[List.append_assoc];rfl
  have q4:=z66 (r:=r1) hp;rw[h1v,hyr,h1i]at q4;have q5:((wrL R r1).flatMap RT.ids++[id]).Perm (R.flatMap RT.ids):=by
   refine(List.perm_append_right_iff (cutP y.ids id)).1 ?_;rw[List.append_assoc];exact(List.Perm.append_left _ (z78 hyn hid).symm).trans q4
  exact q3.trans q5
 have ho2:zQ5 (za7 (wrL (wrL R r1) r2) (wrL (wrL R r1) r2).length) L:=by
  rw[zd2];have h9:=ho;rw[zd2]at h9;exact⟨hpm.nodup_iff.2 h9.1,fun x hx hm=>h9.2 x hx (hpm.mem_iff.1 hm)⟩
 have hn2:(za7 (wrL (wrL R r1) r2) (wrL (wrL R r1) r2).length).length+L.length=ko:=by
  rw[zd2,hpm.length_eq,<-zd2];exact hn
 have hr2:=ze3 hp2 h2m;have hvt:fnd5T vs kv y.v=true:=by
  have:=(ze6 (zh0 (hok y hym).2).1).2.1;exact this
 have hI:zc3 n zs os vs ko kv fine (wrL (wrL R r1) r2) L=0↔codeV true n zs os vs ko kv y.v (zc8 (wrL (wrL R r1) r2) y.v).ids=0/\codeV true n zs os vs ko kv r2.v r2.ids=0:=by
  constructor
  ·intro h9
   obtain⟨_,hr9,_⟩:=zc2 h9;obtain⟨_,hk9⟩:=zi8.1 hr9;refine⟨?_,(hk9 r2 h2m).2⟩;rcases zu3 (wrL (wrL R r1) r2) y.v with hm|hm
   ·have:=(hk9 _ hm).2
    rw[zM5]at this;exact this
   ·rw[hm]
    exact yt8 hc hvt
  ·rintro⟨c1,c2⟩
   refine zR2 hc (zi8.2 ⟨hp2,fun r hr9=> ?_⟩) ho2 hl hn2;rcases zt8.1 hr9 with⟨hm,hv⟩|⟨e,_⟩
   ·rcases zt8.1 hm with⟨hm1,_⟩|⟨e,hn1⟩
    ·exact hok r hm1
    ·have hrr:=ze3 hp2 hr9
     rw[e,h1v]at hrr;rw[hrr]at c1;rw[e,h1v];exact⟨hn1,c1⟩
   ·rw[e]
    exact⟨h2n,c2⟩
 refine⟨hI,fun h9 z=> ?_⟩;obtain⟨c1,c2⟩:=hI.1 h9;have z0:∀v,zn1 n zs os vs ko kv ⟨v,none,[],0⟩=0:=fun v=>zG9 hc rfl;have s2:=ye9 (r:=r2) (zn1 n zs os vs ko kv) hp1 (fun e=>zG9 hc e) (z0 _);have s1:=ye9 (r:=r1) (zn1 n zs os vs ko kv) hp (fun e=>zG9 hc e) (z0 _);rw[h1v,hyr]at s1;rw[zQ4,zQ4,s2,s1];have rr:∀r:RT,codeV true n zs os vs ko kv r.v r.ids=0->rcV n zs os vs ko kv r.v r.ids=zn1 n zs os vs ko kv r:=fun r hr9=>zI1 hr9;have e2:=rr r2 c2;have ey:=rr y (hok y hym).2;have eo:∀v,rcV n zs os vs ko kv v (zc8 R v).ids=zn1 n zs os vs ko kv (zc8 R v):=fun v=>by
  rcases zu3 R v with hm|hm
  ·have:=rr _ (hok _ hm).2
   rw[zM5]at this;exact this
  ·rw[hm,z0]
   exact y16 hc v
 rw[e2,eo];have ids_same:∀{a b:RT},a.v=b.v->a.ids=b.ids->zn1 n zs os vs ko kv a=zn1 n zs os vs ko kv b:=fun{a b} h1 h2=>by unfold zn1;rw[h1,h2]
 by_cases hv:y.v=r2.v
 ·rw[if_pos hv]
  have e1:zn1 n zs os vs ko kv (zc8 (wrL R r1) r2.v)=zn1 n zs os vs ko kv r1:=ids_same (by rw[zM5,h1v,hv]) ((zx2 hp r2.v).1 (by rw[h1v,hv]));rw[e1,<-hv,hyr];omega
 ·rw[if_neg hv]
  have e1:zc8 (wrL R r1) r2.v=zc8 R r2.v:=(zx2 hp r2.v).2 (by rw[h1v];exact fun e=>hv e.symm);have e3:=(zx2 hp1 y.v).2 hv;have e4:=(zx2 hp y.v).1 h1v.symm;have e5:rcV n zs os vs ko kv y.v (zc8 (wrL (wrL R r1) r2) y.v).ids=zn1 n zs os vs ko kv r1:=by
   rw[zI1 c1,e3,e4];unfold zn1;rw[h1v]
  rw[e5,e1,hyr,ey];omega
end Go.Proofs.YtjobhigmdaiinaaGreat
