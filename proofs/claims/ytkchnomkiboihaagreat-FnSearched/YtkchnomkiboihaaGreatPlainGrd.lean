import Derived.Test.YtkchnomkiboihaaGreatPack22
import Derived.Test.YtkchnomkiboihaaGreatPack32
namespace Go.Proofs.YtkchnomkiboihaaGreat
open Go.RowKit
open Q
theorem yH4(L:List Int)(x:Int):zl5 L x=cutP L x:=List.filter_congr (fun y _=>by by_cases h:y=x<;>simp[h])
theorem y05{os:List Int}{ko:Nat}{L:List Int}(h1:∀x∈L,zl8 os ko x=true)(h2:L.Pairwise (· <·)):zg5 os ko L L.length:=fun j hj=>by
 have e:∀i,i<L.length->∃h:i<L.length,L.getD i 0=L[i]:=fun i hi=>⟨hi,by rw[zQ,zR hi];rfl⟩
 obtain⟨_,e1⟩:=e j hj;refine⟨by rw[e1];exact h1 _ (List.getElem_mem _),fun h0=> ?_⟩;obtain⟨_,e2⟩:=e (j - 1) (by omega);rw[e1,e2];exact(yy.1 h2) (j - 1) j (by omega) hj (by omega)
theorem y32{os:List Int}{ko:Nat}{L:List Int}(h:zg5 os ko L L.length):∀x∈L,zl8 os ko x=true:=fun x hx=>by
 obtain⟨j,hj,e⟩:=xU hx;have:=(h j hj).1;rw[zQ,zR hj]at this;rw[<-e];exact this
section
variable {n fine:Int} {zs os vs:List Int} {ko kv:Nat}
theorem yu1{R:List RT}{L:List Int}(h:zc1 n zs os vs ko kv fine R L=0)(hf:(zy2 n fine zs os vs ko kv R L).f=true):zc1 n zs os vs ko kv fine (zC4 n fine zs os vs ko kv R L) (zD4 n fine zs os vs ko kv R L)=0/\zo8 n zs os vs ko kv fine (zC4 n fine zs os vs ko kv R L) (zD4 n fine zs os vs ko kv R L)<=zo8 n zs os vs ko kv fine R L/\(zD4 n fine zs os vs ko kv R L).length+1=L.length:=by
 obtain⟨hc,hr,ho,hl,hn⟩:=zb7 h;obtain⟨hp,aP⟩:=zh3.1 hr;have hm:=zz9 (ok:=gOk n fine zs os vs ko kv R) (dl:=gD n zs os vs ko kv R) (sp3 R vs kv L L.length);change(zy2 n fine zs os vs ko kv R L).f=true->_ at hm;obtain⟨m1,m2,_⟩:=hm hf;change(zy2 n fine zs os vs ko kv R L).s∈_ at m1;change gOk n fine zs os vs ko kv R (zy2 n fine zs os vs ko kv R L).s=true at m2;have cz:=yf9 _ (zT _) m1;unfold zC4 zD4;rw[z7 hf,z7 hf];clear hm m1;generalize(zy2 n fine zs os vs ko kv R L).s=s at*;obtain⟨id,v,k⟩:=s;unfold gOk gB gD at m2;rw[zY,qh]at m2;obtain⟨b1,b2⟩:=m2;simp only at b1 b2 cz⊢;have b3:=b1;unfold plB chB at b3;simp only[zY,qh]at b3;obtain⟨c1,_,c2⟩:=b3;have jz:(oneT R (id,v,k)).v=v:=rfl;have sr:(oneT R (id,v,k)).ids=insL (zc7 R v).ids k id:=rfl;generalize oneT R (id,v,k)=r at*;have dR:=zK9 (r:=r) hp;have aq:r.ids≠[]:=by rw[sr];unfold insL;simp
 have cK:=zY5 hl;have LY:L.Nodup:=cK.imp (fun ah=>by omega);have aT:=z58 LY cz;rw[<-yH4]at aT;have aL:=aT.length_eq;rw[yo]at aL;have kC:((wrL R r).flatMap RT.ids).Perm (id::R.flatMap RT.ids):=by
  have q1:=z42 (r:=r) hp;rw[sr,jz]at q1;refine(jd (zc7 R v).ids).1 (q1.trans ?_);exact(je _ (zG6 (zc7 R v).ids k id)).trans List.perm_middle
 have iV:=ho;rw[zb8]at iV;have Ck:id∉R.flatMap RT.ids:=iV.2 id cz
 have h0:zc1 n zs os vs ko kv fine (wrL R r) (zl5 L id)=0:=by
  refine zT8 hc (zh3.2 ⟨dR,fun x hx=> ?_⟩) ?_ (y05 (fun x hx=>y32 hl x (qi.1 (show x∈L.filter (fun y=>decide (y≠id))from hx)).1) (cK.sublist List.filter_sublist)) ?_
  ·rcases zy1.1 hx with hx|hx
   ·exact aP x hx.1
   ·rw[hx.1]
    refine⟨aq,?_⟩;rw[jz,sr];exact c2
  ·rw[zb8]
   refine⟨kC.nodup_iff.2 (yY.2 ⟨Ck,iV.1⟩),fun x hx hm=> ?_⟩;have lV:=(qi.1 (show x∈L.filter (fun y=>decide (y≠id))from hx));rcases yx.1 (kC.mem_iff.1 hm)with e|e
   ·exact(zZ lV.2) e
   ·exact iV.2 x lV.1 e
  ·rw[zb8,kC.length_eq,yo,<-zb8]
   omega
 refine⟨h0,?_,by omega⟩;unfold zo8;rw[z7 h0,z7 h,z63,z63,yg0 (zm0 n zs os vs ko kv) hp (fun e=>absurd e aq) (zC7 hc rfl)];have e1:zm0 n zs os vs ko kv (zc7 R r.v)=rcV n zs os vs ko kv v (zc7 R v).ids:=by rw[z18 c1,jz];unfold zm0;rw[zL0]
 have e2:zm0 n zs os vs ko kv r=rcV n zs os vs ko kv v (insL (zc7 R v).ids k id):=by rw[z18 c2];unfold zm0;rw[jz,sr]
 rw[e1,e2];have e3:plD true n zs os vs ko kv v (zc7 R v).ids id k=rcV n zs os vs ko kv v (insL (zc7 R v).ids k id) - rcV n zs os vs ko kv v (zc7 R v).ids:=by
  unfold plD chD;rw[b1];rfl
 rw[e3]at b2;have e4:fine*((L.length:Nat):Int)=fine*(((zl5 L id).length:Nat):Int)+fine:=by
  rw[aL,Int.natCast_add,Int.mul_add];simp
 omega
theorem zE1:∀(k:Nat) (R:List RT) (L:List Int),zc1 n zs os vs ko kv fine R L=0->zc1 n zs os vs ko kv fine (grd n fine zs os vs ko kv k R L).1 (grd n fine zs os vs ko kv k R L).2=0/\zo8 n zs os vs ko kv fine (grd n fine zs os vs ko kv k R L).1 (grd n fine zs os vs ko kv k R L).2<=zo8 n zs os vs ko kv fine R L/\(grd n fine zs os vs ko kv k R L).2.length<=L.length/\(L.length<=k->(zy2 n fine zs os vs ko kv (grd n fine zs os vs ko kv k R L).1 (grd n fine zs os vs ko kv k R L).2).f=false)
 |0,R,L,h=>⟨h,Int.le_refl _,zT _,fun hl=>by
  show(zy2 n fine zs os vs ko kv R L).f=false;cases hf:(zy2 n fine zs os vs ko kv R L).f
  ·rfl
  ·have:=zz5 n fine zs os vs ko kv hf;omega⟩
 |k+1,R,L,h=>by
  unfold grd;by_cases hf:(zy2 n fine zs os vs ko kv R L).f=true
  ·rw[z7 hf]
   obtain⟨h1,h2,h3⟩:=yu1 h hf;obtain⟨g1,g2,g3,g4⟩:=zE1 k _ _ h1;exact⟨g1,by omega,by omega,fun hl=>g4 (by omega)⟩
  ·rw[ye hf]
   exact⟨h,Int.le_refl _,zT _,fun _=>by simpa using hf⟩
end
