import Derived.Test.YtkchnomkiboihaaGreatPack22
import Derived.Test.YtkchnomkiboihaaGreatPack32
namespace Go.Proofs.YtkchnomkiboihaaGreat
open Go.RowKit
open Q
theorem yH7(L:List Int)(x:Int):zm1 L x=cutP L x:=List.filter_congr (fun y _=>by by_cases h:y=x<;>simp[h])
theorem yt3{os:List Int}{ko:Nat}{L:List Int}(h1:∀x∈L,zl7 os ko x=true)(h2:L.Pairwise (· <·)):zg5 os ko L L.length:=fun j hj=>by
 have e:∀i,i<L.length->∃h:i<L.length,L.getD i 0=L[i]:=fun i hi=>⟨hi,by rw[zQ,zR hi];rfl⟩
 obtain⟨_,e1⟩:=e j hj;refine⟨by rw[e1];exact h1 _ (List.getElem_mem _),fun h0=> ?_⟩;obtain⟨_,e2⟩:=e (j - 1) (by omega);rw[e1,e2];exact(yy.1 h2) (j - 1) j (by omega) hj (by omega)
theorem y87{os:List Int}{ko:Nat}{L:List Int}(h:zg5 os ko L L.length):∀x∈L,zl7 os ko x=true:=fun x hx=>by
 obtain⟨j,hj,e⟩:=xU hx;have:=(h j hj).1;rw[zQ,zR hj]at this;rw[<-e];exact this
section
variable {n fine:Int} {zs os vs:List Int} {ko kv:Nat}
theorem yx6{R:List RT}{L:List Int}(h:zc1 n zs os vs ko kv fine R L=0)(hf:(zw6 n fine zs os vs ko kv R L).f=true):zc1 n zs os vs ko kv fine (zB6 n fine zs os vs ko kv R L) (zD8 n fine zs os vs ko kv R L)=0/\zp0 n zs os vs ko kv fine (zB6 n fine zs os vs ko kv R L) (zD8 n fine zs os vs ko kv R L)<=zp0 n zs os vs ko kv fine R L/\(zD8 n fine zs os vs ko kv R L).length+1=L.length:=by
 obtain⟨hc,hr,ho,hl,hn⟩:=zb7 h;obtain⟨hp,aP⟩:=zh4.1 hr;have hm:=zz7 (ok:=gOk n fine zs os vs ko kv R) (dl:=gD n zs os vs ko kv R) (sp3 R vs kv L L.length);change(zw6 n fine zs os vs ko kv R L).f=true->_ at hm;obtain⟨m1,m2,_⟩:=hm hf;change(zw6 n fine zs os vs ko kv R L).s∈_ at m1;change gOk n fine zs os vs ko kv R (zw6 n fine zs os vs ko kv R L).s=true at m2;have cB:=yd9 _ (zT _) m1;unfold zB6 zD8;rw[z7 hf,z7 hf];clear hm m1;generalize(zw6 n fine zs os vs ko kv R L).s=s at*;obtain⟨id,v,k⟩:=s;unfold gOk gB gD at m2;rw[zY,qh]at m2;obtain⟨b1,b2⟩:=m2;simp only at b1 b2 cB⊢;have b3:=b1;unfold plB chB at b3;simp only[zY,qh]at b3;obtain⟨c1,_,c2⟩:=b3;have jA:(oneT R (id,v,k)).v=v:=rfl;have sI:(oneT R (id,v,k)).ids=insL (zc7 R v).ids k id:=rfl;generalize oneT R (id,v,k)=r at*;have dW:=zM8 (r:=r) hp;have aq:r.ids≠[]:=by rw[sI];unfold insL;simp
 have cH:=ya1 hl;have NM:L.Nodup:=cH.imp (fun ah=>by omega);have aT:=z66 NM cB;rw[<-yH7]at aT;have aL:=aT.length_eq;rw[yo]at aL;have ki:((wrL R r).flatMap RT.ids).Perm (id::R.flatMap RT.ids):=by
  have q1:=z49 (r:=r) hp;rw[sI,jA]at q1;refine(jd (zc7 R v).ids).1 (q1.trans ?_);exact(je _ (zI2 (zc7 R v).ids k id)).trans List.perm_middle
 have jm:=ho;rw[zb8]at jm;have DT:id∉R.flatMap RT.ids:=jm.2 id cB
 have h0:zc1 n zs os vs ko kv fine (wrL R r) (zm1 L id)=0:=by
  refine zS9 hc (zh4.2 ⟨dW,fun x hx=> ?_⟩) ?_ (yt3 (fun x hx=>y87 hl x (qi.1 (show x∈L.filter (fun y=>decide (y≠id))from hx)).1) (cH.sublist List.filter_sublist)) ?_
  ·rcases zx7.1 hx with hx|hx
   ·exact aP x hx.1
   ·rw[hx.1]
    refine⟨aq,?_⟩;rw[jA,sI];exact c2
  ·rw[zb8]
   refine⟨ki.nodup_iff.2 (yY.2 ⟨DT,jm.1⟩),fun x hx hm=> ?_⟩;have lX:=(qi.1 (show x∈L.filter (fun y=>decide (y≠id))from hx));rcases yx.1 (ki.mem_iff.1 hm)with e|e
   ·exact(zZ lX.2) e
   ·exact jm.2 x lX.1 e
  ·rw[zb8,ki.length_eq,yo,<-zb8]
   omega
 refine⟨h0,?_,by omega⟩;unfold zp0;rw[z7 h0,z7 h,z60,z60,yf5 (zl8 n zs os vs ko kv) hp (fun e=>absurd e aq) (zD2 hc rfl)];have e1:zl8 n zs os vs ko kv (zc7 R r.v)=rcV n zs os vs ko kv v (zc7 R v).ids:=by rw[z24 c1,jA];unfold zl8;rw[zM4]
 have e2:zl8 n zs os vs ko kv r=rcV n zs os vs ko kv v (insL (zc7 R v).ids k id):=by rw[z24 c2];unfold zl8;rw[jA,sI]
 rw[e1,e2];have e3:plD true n zs os vs ko kv v (zc7 R v).ids id k=rcV n zs os vs ko kv v (insL (zc7 R v).ids k id) - rcV n zs os vs ko kv v (zc7 R v).ids:=by
  unfold plD chD;rw[b1];rfl
 rw[e3]at b2;have e4:fine*((L.length:Nat):Int)=fine*(((zm1 L id).length:Nat):Int)+fine:=by
  rw[aL,Int.natCast_add,Int.mul_add];simp
 omega
theorem zC7:∀(k:Nat) (R:List RT) (L:List Int),zc1 n zs os vs ko kv fine R L=0->zc1 n zs os vs ko kv fine (grd n fine zs os vs ko kv k R L).1 (grd n fine zs os vs ko kv k R L).2=0/\zp0 n zs os vs ko kv fine (grd n fine zs os vs ko kv k R L).1 (grd n fine zs os vs ko kv k R L).2<=zp0 n zs os vs ko kv fine R L/\(grd n fine zs os vs ko kv k R L).2.length<=L.length/\(L.length<=k->(zw6 n fine zs os vs ko kv (grd n fine zs os vs ko kv k R L).1 (grd n fine zs os vs ko kv k R L).2).f=false)
 |0,R,L,h=>⟨h,Int.le_refl _,zT _,fun hl=>by
  show(zw6 n fine zs os vs ko kv R L).f=false;cases hf:(zw6 n fine zs os vs ko kv R L).f
  ·rfl
  ·have:=zz4 n fine zs os vs ko kv hf;omega⟩
 |k+1,R,L,h=>by
  unfold grd;by_cases hf:(zw6 n fine zs os vs ko kv R L).f=true
  ·rw[z7 hf]
   obtain⟨h1,h2,h3⟩:=yx6 h hf;obtain⟨g1,g2,g3,g4⟩:=zC7 k _ _ h1;exact⟨g1,by omega,by omega,fun hl=>g4 (by omega)⟩
  ·rw[ye hf]
   exact⟨h,Int.le_refl _,zT _,fun _=>by simpa using hf⟩
end
