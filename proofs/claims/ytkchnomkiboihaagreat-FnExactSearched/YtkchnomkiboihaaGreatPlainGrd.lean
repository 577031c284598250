import Derived.Test.YtkchnomkiboihaaGreatPack19
import Derived.Test.YtkchnomkiboihaaGreatLeaveStart
namespace Go.Proofs.YtkchnomkiboihaaGreat
open Go.RowKit
open Q
theorem yI2(L:List Int)(x:Int):zn2 L x=cutP L x:=List.filter_congr (fun y _=>by by_cases h:y=x<;>simp[h])
theorem yt9{os:List Int}{ko:Nat}{L:List Int}(h1:∀x∈L,zm0 os ko x=true)(h2:L.Pairwise (· <·)):zg4 os ko L L.length:=fun j hj=>by
 have e:∀i,i<L.length->∃h:i<L.length,L.getD i 0=L[i]:=fun i hi=>⟨hi,by rw[zM,zO hi];rfl⟩
 obtain⟨_,e1⟩:=e j hj;refine⟨by rw[e1];exact h1 _ (List.getElem_mem _),fun h0=> ?_⟩;obtain⟨_,e2⟩:=e (j - 1) (by omega);rw[e1,e2];exact(yr.1 h2) (j - 1) j (by omega) hj (by omega)
theorem y70{os:List Int}{ko:Nat}{L:List Int}(h:zg4 os ko L L.length):∀x∈L,zm0 os ko x=true:=fun x hx=>by
 obtain⟨j,hj,e⟩:=xK hx;have:=(h j hj).1;rw[zM,zO hj]at this;rw[<-e];exact this
section
variable {n fine:Int} {zs os vs:List Int} {ko kv:Nat}
theorem yx3{R:List RT}{L:List Int}(h:zc3 n zs os vs ko kv fine R L=0)(hf:(zx6 n fine zs os vs ko kv R L).f=true):zc3 n zs os vs ko kv fine (zB0 n fine zs os vs ko kv R L) (zC0 n fine zs os vs ko kv R L)=0/\zu9 n zs os vs ko kv fine (zB0 n fine zs os vs ko kv R L) (zC0 n fine zs os vs ko kv R L)<=zu9 n zs os vs ko kv fine R L/\(zC0 n fine zs os vs ko kv R L).length+1=L.length:=by
 obtain⟨hc,hr,ho,hl,hn⟩:=zb5 h;obtain⟨hp,hok⟩:=zh4.1 hr;have hm:=zz7 (ok:=gOk n fine zs os vs ko kv R) (dl:=gD n zs os vs ko kv R) (sp3 R vs kv L L.length);change(zx6 n fine zs os vs ko kv R L).f=true->_ at hm;obtain⟨m1,m2,_⟩:=hm hf;change(zx6 n fine zs os vs ko kv R L).s∈_ at m1;change gOk n fine zs os vs ko kv R (zx6 n fine zs os vs ko kv R L).s=true at m2;have hid:=yd4 _ (zQ _) m1;unfold zB0 zC0;rw[zV hf,zV hf];clear hm m1;generalize(zx6 n fine zs os vs ko kv R L).s=s at*;obtain⟨id,v,k⟩:=s;unfold gOk gB gD at m2;rw[zY,qE]at m2;obtain⟨b1,b2⟩:=m2;simp only at b1 b2 hid⊢;have b3:=b1;unfold plB chB at b3;simp only[zY,qE]at b3;obtain⟨c1,_,c2⟩:=b3;have hrv:(oneT R (id,v,k)).v=v:=rfl;have hri:(oneT R (id,v,k)).ids=insL (zc6 R v).ids k id:=rfl;generalize oneT R (id,v,k)=r at*;have hp2:=zN2 (r:=r) hp;have hne:r.ids≠[]:=by rw[hri];unfold insL;simp
 have hnd:=zX0 hl;have hnL:L.Nodup:=hnd.imp (fun hlt=>by omega);have hpl:=z62 hnL hid;rw[<-yI2]at hpl;have hlen:=hpl.length_eq;rw[yg]at hlen;have hpm:((wrL R r).flatMap RT.ids).Perm (id::R.flatMap RT.ids):=by
  have q1:=z46 (r:=r) hp;rw[hri,hrv]at q1;refine(qN (zc6 R v).ids).1 (q1.trans ?_);exact(qO _ (zG8 (zc6 R v).ids k id)).trans List.perm_middle
 have ho9:=ho;rw[zb7]at ho9;have hnf:id∉R.flatMap RT.ids:=ho9.2 id hid
 have h0:zc3 n zs os vs ko kv fine (wrL R r) (zn2 L id)=0:=by
  refine zQ0 hc (zh4.2 ⟨hp2,fun x hx=> ?_⟩) ?_ (yt9 (fun x hx=>y70 hl x (qD.1 (show x∈L.filter (fun y=>decide (y≠id))from hx)).1) (hnd.sublist List.filter_sublist)) ?_
  ·rcases zx5.1 hx with hx|hx
   ·exact hok x hx.1
   ·rw[hx.1]
    refine⟨hne,?_⟩;rw[hrv,hri];exact c2
  ·rw[zb7]
   refine⟨hpm.nodup_iff.2 (yT.2 ⟨hnf,ho9.1⟩),fun x hx hm=> ?_⟩;have hx2:=(qD.1 (show x∈L.filter (fun y=>decide (y≠id))from hx));rcases yn.1 (hpm.mem_iff.1 hm)with e|e
   ·exact(zX hx2.2) e
   ·exact ho9.2 x hx2.1 e
  ·rw[zb7,hpm.length_eq,yg,<-zb7]
   omega
 refine⟨h0,?_,by omega⟩;unfold zu9;rw[zV h0,zV h,z45,z45,yc5 (zm2 n zs os vs ko kv) hp (fun e=>absurd e hne) (zD1 hc rfl)];have e1:zm2 n zs os vs ko kv (zc6 R r.v)=rcV n zs os vs ko kv v (zc6 R v).ids:=by rw[z18 c1,hrv];unfold zm2;rw[zM8]
 have e2:zm2 n zs os vs ko kv r=rcV n zs os vs ko kv v (insL (zc6 R v).ids k id):=by rw[z18 c2];unfold zm2;rw[hrv,hri]
 rw[e1,e2];have e3:plD true n zs os vs ko kv v (zc6 R v).ids id k=rcV n zs os vs ko kv v (insL (zc6 R v).ids k id) - rcV n zs os vs ko kv v (zc6 R v).ids:=by
  unfold plD chD;rw[b1];rfl
 rw[e3]at b2;have e4:fine*((L.length:Nat):Int)=fine*(((zn2 L id).length:Nat):Int)+fine:=by
  rw[hlen,Int.natCast_add,Int.mul_add];simp
 omega
theorem zD5:∀(k:Nat) (R:List RT) (L:List Int),zc3 n zs os vs ko kv fine R L=0->zc3 n zs os vs ko kv fine (grd n fine zs os vs ko kv k R L).1 (grd n fine zs os vs ko kv k R L).2=0/\zu9 n zs os vs ko kv fine (grd n fine zs os vs ko kv k R L).1 (grd n fine zs os vs ko kv k R L).2<=zu9 n zs os vs ko kv fine R L/\(grd n fine zs os vs ko kv k R L).2.length<=L.length/\(L.length<=k->(zx6 n fine zs os vs ko kv (grd n fine zs os vs ko kv k R L).1 (grd n fine zs os vs ko kv k R L).2).f=false)
 |0,R,L,h=>⟨h,Int.le_refl _,zQ _,fun hl=>by
  show(zx6 n fine zs os vs ko kv R L).f=false;cases hf:(zx6 n fine zs os vs ko kv R L).f
  ·rfl
  ·have:=zz9 n fine zs os vs ko kv hf;omega⟩
 |k+1,R,L,h=>by
  unfold grd;by_cases hf:(zx6 n fine zs os vs ko kv R L).f=true
  ·rw[zV hf]
   obtain⟨h1,h2,h3⟩:=yx3 h hf;obtain⟨g1,g2,g3,g4⟩:=zD5 k _ _ h1;exact⟨g1,by omega,by omega,fun hl=>g4 (by omega)⟩
  ·rw[zW hf]
   exact⟨h,Int.le_refl _,zQ _,fun _=>by simpa using hf⟩
end
