import Derived.Test.YtjobhigmdaiinaaGreatPack0
import Derived.Test.YtjobhigmdaiinaaGreatPack1
import Derived.Test.YtjobhigmdaiinaaGreatPack3
import Derived.Test.YtjobhigmdaiinaaGreatPack5
import Derived.Test.YtjobhigmdaiinaaGreatPack18
import Derived.Test.YtjobhigmdaiinaaGreatPack35
namespace Go.Proofs.YtjobhigmdaiinaaGreat
open Go.RowKit
theorem zt2(R:List RT):zb3 R R.length=R.flatMap RT.ids:=by unfold zb3;rw[List.take_length]
theorem yf6{R:List RT}(h:R.Pairwise (fun a b=>a.v<b.v)):ze1 R:=fun j h1 h2=>by
 have h3:=(List.pairwise_iff_getElem.1 h) (j - 1) j (by omega) h2 (by omega);simpa[List.getD_eq_getElem?_getD,List.getElem?_eq_getElem h2,List.getElem?_eq_getElem (show j - 1<R.length by omega)]using h3
theorem zJ3(x:RT)(R:List RT)(v:Int):zd9 (x::R) v=if x.v=v then x else zd9 R v:=by
 unfold zd9;by_cases h:x.v=v
 ·rw[if_pos h,List.find?_cons_of_pos (by simp[h])];rfl
 ·rw[if_neg h,List.find?_cons_of_neg (by simp[h])]
theorem zv3:∀{R:List RT} {v:Int},(∀x∈R,x.v≠v)->zd9 R v=⟨v,none,[],0⟩
 |[],_,_=>rfl
 |x::R,v,h=>by
  rw[zJ3,if_neg (h x (List.mem_cons_self ..))];exact zv3 (fun y hy=>h y (List.mem_cons_of_mem _ hy))
theorem zp4:∀{R:List RT} {x:RT},R.Pairwise (fun a b=>a.v<b.v)->x∈R->zd9 R x.v=x
 |y::R,x,hp,hx=>by
  rw[zJ3];obtain⟨h1,h2⟩:=List.pairwise_cons.1 hp;rcases List.mem_cons.1 hx with e|hx
  ·subst e;rw[if_pos rfl]
  ·have:=h1 x hx
   rw[if_neg (by omega)];exact zp4 h2 hx
theorem zO6:∀{R:List RT} (_:R.Pairwise (fun a b=>a.v<b.v)) (v:Int),∃E,R=R.filter (fun x=>decide (x.v<v))++(E++R.filter (fun x=>decide (v<x.v)))/\((E=[]/\∀x∈R,x.v≠v)∨∃x,E=[x]/\x.v=v/\x∈R)
 |[],_,_=>⟨[],rfl,.inl ⟨rfl,fun x hx=>by cases hx⟩⟩
 |x::R,hp,v=>by
  obtain⟨h1,h2⟩:=List.pairwise_cons.1 hp;rcases Int.lt_trichotomy x.v v with h|h|h
  ·obtain⟨E,he,hE⟩:=zO6 h2 v
   refine⟨E,?_,?_⟩
   ·rw[List.filter_cons_of_pos (p:=fun x:RT=>decide (x.v<v)) (decide_eq_true h),List.filter_cons_of_neg (p:=fun x:RT=>decide (v<x.v)) (fun h9=>by have:=of_decide_eq_true h9;omega),List.cons_append,<-he]
   ·rcases hE with⟨e,hn⟩|⟨y,e,hy,hm⟩
    ·exact .inl ⟨e,fun z hz=>by
      rcases List.mem_cons.1 hz with e9|hz
      ·subst e9;omega
      ·exact hn z hz⟩
    ·exact .inr ⟨y,e,hy,List.mem_cons_of_mem _ hm⟩
  ·have hlo:R.filter (fun x=>decide (x.v<v))=[]:=List.filter_eq_nil_iff.2 (fun y hy h9=>by have:=of_decide_eq_true h9;have:=h1 y hy;omega)
   have hhi:R.filter (fun x=>decide (v<x.v))=R:=List.filter_eq_self.2 (fun y hy=>decide_eq_true (by have:=h1 y hy;omega));refine⟨[x],?_,.inr ⟨x,rfl,h,List.mem_cons_self ..⟩⟩;rw[List.filter_cons_of_neg (p:=fun x:RT=>decide (x.v<v)) (fun h9=>by have:=of_decide_eq_true h9;omega),List.filter_cons_of_neg (p:=fun x:RT=>decide (v<x.v)) (fun h9=>by have:=of_decide_eq_true h9;omega),hlo,hhi];rfl
  ·have hlo:(x::R).filter (fun x=>decide (x.v<v))=[]:=List.filter_eq_nil_iff.2 (fun y hy h9=>by
    have:=of_decide_eq_true h9;rcases List.mem_cons.1 hy with e|hy
    ·subst e;omega
    ·have:=h1 y hy;omega)
   have hall:∀y∈x::R,v<y.v:=fun y hy=>by
    rcases List.mem_cons.1 hy with e|hy
    ·subst e;exact h
    ·have:=h1 y hy;omega
   have hhi:=List.filter_eq_self.2 (fun y hy=>decide_eq_true (hall y hy));refine⟨[],?_,.inl ⟨rfl,fun y hy=>by have:=hall y hy;omega⟩⟩;rw[hlo,hhi];rfl
theorem yt6{R:List RT}{r x:RT}:x∈wrL R r↔(x∈R/\x.v≠r.v)∨(x=r/\r.ids≠[]):=by
 unfold wrL;rw[List.mem_append,List.mem_append,List.mem_filter,List.mem_filter];by_cases h:r.ids=[]
 ·simp[h]
  constructor
  ·rintro(⟨h1,h2⟩|⟨h1,h2⟩)
   ·exact⟨h1,by omega⟩
   ·exact⟨h1,by omega⟩
  ·rintro⟨h1,h2⟩
   by_cases h3:x.v<r.v
   ·exact .inl ⟨h1,h3⟩
   ·exact .inr ⟨h1,by omega⟩
 ·simp[h]
  constructor
  ·rintro(⟨h1,h2⟩|h1|⟨h1,h2⟩)
   ·exact .inl ⟨h1,by omega⟩
   ·exact .inr h1
   ·exact .inl ⟨h1,by omega⟩
  ·rintro(⟨h1,h2⟩|h1)
   ·by_cases h3:x.v<r.v
    ·exact .inl ⟨h1,h3⟩
    ·exact .inr (.inr ⟨h1,by omega⟩)
   ·exact .inr (.inl h1)
theorem yr3{R:List RT}{r:RT}(hp:R.Pairwise (fun a b=>a.v<b.v)):(wrL R r).Pairwise (fun a b=>a.v<b.v):=by
 unfold wrL;rw[List.pairwise_append,List.pairwise_append];refine⟨hp.filter _,⟨?_,hp.filter _,fun a ha b hb=> ?_⟩,fun a ha b hb=> ?_⟩
 ·split<;>simp
 ·have h2:=of_decide_eq_true (List.mem_filter.1 hb).2
  split at ha
  ·cases ha
  ·have:a=r:=by simpa using ha
   rw[this];exact h2
 ·have h1:=of_decide_eq_true (List.mem_filter.1 ha).2
  rcases List.mem_append.1 hb with h|h
  ·split at h
   ·cases h
   ·have:b=r:=by simpa using h
    rw[this];exact h1
  ·have h2:=of_decide_eq_true (List.mem_filter.1 h).2
   omega
theorem yq2{R:List RT}{r:RT}(f:RT->Int)(hp:R.Pairwise (fun a b=>a.v<b.v))(hr:r.ids=[]->f r=0)(h0:f ⟨r.v,none,[],0⟩=0):((wrL R r).map f).sum=(R.map f).sum - f (zd9 R r.v)+f r:=by
 obtain⟨E,he,hE⟩:=zO6 hp r.v;have h1:(R.map f).sum=((R.filter (fun x=>decide (x.v<r.v))).map f).sum+((E.map f).sum+((R.filter (fun x=>decide (r.v<x.v))).map f).sum):=by
  conv=>lhs;rw[he]
  simp only[List.map_append,List.sum_append]
 have h2:(E.map f).sum=f (zd9 R r.v):=by
  rcases hE with⟨e,hn⟩|⟨x,e,hx,hm⟩
  ·rw[e,zv3 hn,h0];rfl
  ·rw[e,<-hx,zp4 hp hm];simp
 have h3:((wrL R r).map f).sum=((R.filter (fun x=>decide (x.v<r.v))).map f).sum+(f r+((R.filter (fun x=>decide (r.v<x.v))).map f).sum):=by
  unfold wrL;simp only[List.map_append,List.sum_append];split
  ·rename_i h;rw[hr h];simp
  ·simp
 rw[h3,h1,h2];omega
theorem yh8{R:List RT}{r:RT}(hp:R.Pairwise (fun a b=>a.v<b.v)):((wrL R r).flatMap RT.ids++(zd9 R r.v).ids).Perm (R.flatMap RT.ids++r.ids):=by
 obtain⟨E,he,hE⟩:=zO6 hp r.v;have h2:E.flatMap RT.ids=(zd9 R r.v).ids:=by
  rcases hE with⟨e,hn⟩|⟨x,e,hx,hm⟩
  ·rw[e,zv3 hn];rfl
  ·rw[e,<-hx,zp4 hp hm];simp
 have h3:(wrL R r).flatMap RT.ids=(R.filter (fun x=>decide (x.v<r.v))).flatMap RT.ids++(r.ids++(R.filter (fun x=>decide (r.v<x.v))).flatMap RT.ids):=by
  unfold wrL;simp only[List.flatMap_append];split
  ·rename_i h;rw[h];simp
  ·simp
 have h1:R.flatMap RT.ids=(R.filter (fun x=>decide (x.v<r.v))).flatMap RT.ids++((zd9 R r.v).ids++(R.filter (fun x=>decide (r.v<x.v))).flatMap RT.ids):=by
  conv=>lhs;rw[he]
  simp only[List.flatMap_append,h2]
 rw[h3,h1];generalize(R.filter (fun x=>decide (x.v<r.v))).flatMap RT.ids=A;generalize(R.filter (fun x=>decide (r.v<x.v))).flatMap RT.ids=B;generalize(zd9 R r.v).ids=C;rw[List.append_assoc,List.append_assoc,List.append_assoc,List.append_assoc];refine List.Perm.append_left A ?_;have p1:(r.ids++(B++C)).Perm ((B++C)++r.ids):=List.perm_append_comm;refine p1.trans ?_;rw[<-List.append_assoc];exact List.Perm.append_right _ List.perm_append_comm
theorem yi1{n:Int}{zs:List Int}(h:zm2 n zs=true){x:Int}(hx:0<=x/\x<n):tmI n zs x x=0:=by
 obtain⟨h1,h2,h3,h4⟩:=zi7 h;unfold tmI;obtain⟨m,rfl⟩:=Int.eq_ofNat_of_zero_le (show 0<=n by omega);obtain⟨y,rfl⟩:=Int.eq_ofNat_of_zero_le hx.1;have hy:y<m:=by omega
 have hm:0<m:=by omega
 simp only[Int.toNat_natCast]at h4⊢;have hd:(y*m+y) / m=y:=by
  rw[Nat.mul_comm,Nat.mul_add_div hm,Nat.div_eq_of_lt hy,Nat.add_zero]
 have hr:(y*m+y) % m=y:=by
  rw[Nat.mul_comm,Nat.mul_add_mod,Nat.mod_eq_of_lt hy]
 by_cases hl:y*m+y<zs.length
 ·exact(h4 _ hl).2.2 (by rw[hd,hr])
 ·rw[List.getD_eq_getElem?_getD,List.getElem?_eq_none (by omega)]
  rfl
theorem yn7{n:Int}{zs os vs:List Int}{ko kv:Nat}{fine:Int}(hc:zb8 n zs os vs ko kv fine=true)(v:Int):0<=zb5 vs kv v 1/\zb5 vs kv v 1<n:=by
 obtain⟨_,_,h3,h4,_⟩:=zc7 hc;exact(zp2 h3 h4 v).1
theorem ye9{n:Int}{zs ros:List Int}(hz:zm2 n zs=true){home:Int}(hh:0<=home/\home<n):zn3 n zs ros 0 home=0:=by
 unfold zn3;simp only[zm3,plc,yi1 hz hh];rfl
theorem yk1{n:Int}{zs os vs:List Int}{ko kv:Nat}{fine:Int}(hc:zb8 n zs os vs ko kv fine=true){r:RT}(hr:r.ids=[]):zv7 n zs os vs ko kv r=0:=by
 unfold zv7;rw[hr];exact ye9 (zc7 hc).1 (yn7 hc _)
theorem zD2{n:Int}{zs os vs:List Int}{ko kv:Nat}{R:List RT}:zf0 n zs os vs ko kv R R.length↔R.Pairwise (fun a b=>a.v<b.v)/\∀r∈R,r.ids≠[]/\codeV true n zs os vs ko kv r.v r.ids=0:=by
 constructor
 ·intro h
  refine⟨ze1.pw (fun j h1 h2=>(h j h2).1 h1),fun r hr=> ?_⟩;obtain⟨j,hj,e⟩:=zS2 hr;rw[<-e];exact(h j hj).2
 ·rintro⟨h1,h2⟩ j hj
  exact⟨fun h0=>yf6 h1 j h0 hj,h2 _ (zt3 hj)⟩
theorem zJ6(n:Int)(zs os vs:List Int)(ko kv:Nat)(R:List RT)(z:Int):∀k,k<=R.length->zq6 n zs os vs ko kv R z k=z+((R.take k).map (zv7 n zs os vs ko kv)).sum
 |0,_=>by simp[zq6]
 |k+1,hk=>by
  have e:R.getD k rt0=R[k]:=by simp[List.getD,show k<R.length by omega]
  rw[zq6,zJ6 n zs os vs ko kv R z k (by omega),List.take_succ_eq_append_getElem (by omega),List.map_append,List.sum_append,e];simp;omega
theorem zJ2(n:Int)(zs os vs:List Int)(ko kv:Nat)(R:List RT)(z:Int):zq6 n zs os vs ko kv R z R.length=z+(R.map (zv7 n zs os vs ko kv)).sum:=by
 rw[zJ6 n zs os vs ko kv R z _ (Nat.le_refl _),List.take_length]
theorem zG4:∀{l:List Int} {x:Int},l.Nodup->x∈l->l.Perm (x::yo1 l x)
 |a::l,x,hn,hm=>by
  obtain⟨h1,h2⟩:=List.nodup_cons.1 hn;by_cases e:a=x
  ·subst e
   have:yo1 (a::l) a=l:=by
    unfold yo1;rw[List.filter_cons_of_neg (by simp)];exact List.filter_eq_self.2 (fun y hy=>by simp;exact fun e=>h1 (e▸hy))
   rw[this]
  ·have hml:x∈l:=by
    rcases List.mem_cons.1 hm with h|h
    ·exact absurd h.symm e
    ·exact h
   have ih:=zG4 h2 hml;have e2:yo1 (a::l) x=a::yo1 l x:=by
    unfold yo1;rw[List.filter_cons_of_pos (by simp[e])]
   rw[e2];exact(List.Perm.cons a ih).trans (List.Perm.swap x a _)
theorem zZ6(l:List Int)(i:Nat)(x:Int):(insL l i x).Perm (x::l):=by
 unfold insL;have:=List.perm_middle (a:=x) (l₁:=l.take i) (l₂:=l.drop i);rw[List.take_append_drop]at this;exact this
end Go.Proofs.YtjobhigmdaiinaaGreat
