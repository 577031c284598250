import Derived.Test.YtkchnomkiboihaaGreatPack19
import Derived.Test.YtkchnomkiboihaaGreatLeaveStart
namespace Go.Proofs.YtkchnomkiboihaaGreat
open Go.RowKit
open Q
theorem yH2(L:List Int)(x:Int):zn1 L x=cutP L x:=List.filter_congr (fun y _=>by by_cases h:y=x<;>simp[h])
theorem yx7{os:List Int}{ko:Nat}{L:List Int}(h1:∀x∈L,zm0 os ko x=true)(h2:L.Pairwise (· <·)):zg4 os ko L L.length:=fun j hj=>by
 have e:∀i,i<L.length->∃h:i<L.length,L.getD i 0=L[i]:=fun i hi=>⟨hi,by rw[zM,zO hi];rfl⟩
 obtain⟨_,e1⟩:=e j hj;refine⟨by rw[e1];exact h1 _ (List.getElem_mem _),fun h0=> ?_⟩;obtain⟨_,e2⟩:=e (j - 1) (by omega);rw[e1,e2];exact(yr.1 h2) (j - 1) j (by omega) hj (by omega)
theorem y73{os:List Int}{ko:Nat}{L:List Int}(h:zg4 os ko L L.length):∀x∈L,zm0 os ko x=true:=fun x hx=>by
 obtain⟨j,hj,e⟩:=xK hx;have:=(h j hj).1;rw[zM,zO hj]at this;rw[<-e];exact this
section
variable {n fine:Int} {zs os vs:List Int} {ko kv:Nat}
theorem y13{R:List RT}{L:List Int}(h:zc3 n zs os vs ko kv fine R L=0)(hf:(zy3 n fine zs os vs ko kv R L).f=true):zc3 n zs os vs ko kv fine (zB8 n fine zs os vs ko kv R L) (zD2 n fine zs os vs ko kv R L)=0/\zw1 n zs os vs ko kv fine (zB8 n fine zs os vs ko kv R L) (zD2 n fine zs os vs ko kv R L)<=zw1 n zs os vs ko kv fine R L/\(zD2 n fine zs os vs ko kv R L).length+1=L.length:=by
 obtain⟨hc,hr,ho,hl,hn⟩:=zb5 h;obtain⟨hp,hok⟩:=zh3.1 hr;have hm:=zz8 (ok:=gOk n fine zs os vs ko kv R) (dl:=gD n zs os vs ko kv R) (sp3 R vs kv L L.length);change(zy3 n fine zs os vs ko kv R L).f=true->_ at hm;obtain⟨m1,m2,_⟩:=hm hf;change(zy3 n fine zs os vs ko kv R L).s∈_ at m1;change gOk n fine zs os vs ko kv R (zy3 n fine zs os vs ko kv R L).s=true at m2;have hid:=yh9 _ (zQ _) m1;unfold zB8 zD2;rw[zV hf,zV hf];clear hm m1;generalize(zy3 n fine zs os vs ko kv R L).s=s at*;obtain⟨id,v,k⟩:=s;unfold gOk gB gD at m2;rw[zY,qE]at m2;obtain⟨b1,b2⟩:=m2;simp only at b1 b2 hid⊢;have b3:=b1;unfold plB chB at b3;simp only[zY,qE]at b3;obtain⟨c1,_,c2⟩:=b3;have hrv:(oneT R (id,v,k)).v=v:=rfl;have hri:(oneT R (id,v,k)).ids=insL (zc6 R v).ids k id:=rfl;generalize oneT R (id,v,k)=r at*;have hp2:=zM2 (r:=r) hp;have hne:r.ids≠[]:=by rw[hri];unfold insL;simp
 have hnd:=zW8 hl;have hnL:L.Nodup:=hnd.imp (fun hlt=>by omega);have hpl:=z49 hnL hid;rw[<-yH2]at hpl;have hlen:=hpl.length_eq;rw[yg]at hlen;have hpm:((wrL R r).flatMap RT.ids).Perm (id::R.flatMap RT.ids):=by
  have q1:=z35 (r:=r) hp;rw[hri,hrv]at q1;refine(qN (zc6 R v).ids).1 (q1.trans ?_);exact(qO _ (zF5 (zc6 R v).ids k id)).trans List.perm_middle
 have ho9:=ho;rw[zb6]at ho9;have hnf:id∉R.flatMap RT.ids:=ho9.2 id hid
 have h0:zc3 n zs os vs ko kv fine (wrL R r) (zn1 L id)=0:=by
  refine zN6 hc (zh3.2 ⟨hp2,fun x hx=> ?_⟩) ?_ (yx7 (fun x hx=>y73 hl x (qD.1 (show x∈L.filter (fun y=>decide (y≠id))from hx)).1) (hnd.sublist List.filter_sublist)) ?_
  ·rcases zx9.1 hx with hx|hx
   ·exact hok x hx.1
   ·rw[hx.1]
    refine⟨hne,?_⟩;rw[hrv,hri];exact c2
  ·rw[zb6]
   refine⟨hpm.nodup_iff.2 (yT.2 ⟨hnf,ho9.1⟩),fun x hx hm=> ?_⟩;have hx2:=(qD.1 (show x∈L.filter (fun y=>decide (y≠id))from hx));rcases yn.1 (hpm.mem_iff.1 hm)with e|e
   ·exact(zX hx2.2) e
   ·exact ho9.2 x hx2.1 e
  ·rw[zb6,hpm.length_eq,yg,<-zb6]
   omega
 refine⟨h0,?_,by omega⟩;unfold zw1;rw[zV h0,zV h,z57,z57,yb1 (zm6 n zs os vs ko kv) hp (fun e=>absurd e hne) (zD6 hc rfl)];have e1:zm6 n zs os vs ko kv (zc6 R r.v)=rcV n zs os vs ko kv v (zc6 R v).ids:=by rw[z21 c1,hrv];unfold zm6;rw[zN3]
 have e2:zm6 n zs os vs ko kv r=rcV n zs os vs ko kv v (insL (zc6 R v).ids k id):=by rw[z21 c2];unfold zm6;rw[hrv,hri]
 rw[e1,e2];have e3:plD true n zs os vs ko kv v (zc6 R v).ids id k=rcV n zs os vs ko kv v (insL (zc6 R v).ids k id) - rcV n zs os vs ko kv v (zc6 R v).ids:=by
  unfold plD chD;rw[b1];rfl
 rw[e3]at b2;have e4:fine*((L.length:Nat):Int)=fine*(((zn1 L id).length:Nat):Int)+fine:=by
  rw[hlen,Int.natCast_add,Int.mul_add];simp
 omega
theorem zC4:∀(k:Nat) (R:List RT) (L:List Int),zc3 n zs os vs ko kv fine R L=0->zc3 n zs os vs ko kv fine (grd n fine zs os vs ko kv k R L).1 (grd n fine zs os vs ko kv k R L).2=0/\zw1 n zs os vs ko kv fine (grd n fine zs os vs ko kv k R L).1 (grd n fine zs os vs ko kv k R L).2<=zw1 n zs os vs ko kv fine R L/\(grd n fine zs os vs ko kv k R L).2.length<=L.length/\(L.length<=k->(zy3 n fine zs os vs ko kv (grd n fine zs os vs ko kv k R L).1 (grd n fine zs os vs ko kv k R L).2).f=false)
 |0,R,L,h=>⟨h,Int.le_refl _,zQ _,fun hl=>by
  show(zy3 n fine zs os vs ko kv R L).f=false;cases hf:(zy3 n fine zs os vs ko kv R L).f
  ·rfl
  ·have:=z01 n fine zs os vs ko kv hf;omega⟩
 |k+1,R,L,h=>by
  unfold grd;by_cases hf:(zy3 n fine zs os vs ko kv R L).f=true
  ·rw[zV hf]
   obtain⟨h1,h2,h3⟩:=y13 h hf;obtain⟨g1,g2,g3,g4⟩:=zC4 k _ _ h1;exact⟨g1,by omega,by omega,fun hl=>g4 (by omega)⟩
  ·rw[zW hf]
   exact⟨h,Int.le_refl _,zQ _,fun _=>by simpa using hf⟩
end
