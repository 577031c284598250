import Derived.Test.YtjobhigmdaiinaaGreatPlainGreedy
import Derived.Test.YtjobhigmdaiinaaGreatPack36
import Derived.Test.YtjobhigmdaiinaaGreatLeaveStart
namespace Go.Proofs.YtjobhigmdaiinaaGreat
open Go.RowKit
theorem zQ5{ok:zh4->Bool}{dl:zh4->Int}:∀(l:List zh4) (s:QS),s.f=true->(l.foldl (zk8 ok dl) s).f=true
 |[],_,h=>h
 |p::l,s,h=>by
  rw[List.foldl_cons];refine zQ5 l _ ?_;unfold zk8;split
  ·rfl
  ·exact h
theorem yd1{ok:zh4->Bool}{dl:zh4->Int}:∀(l:List zh4) (s:QS),(l.foldl (zk8 ok dl) s).f=false->∀p∈l,ok p=false
 |p::l,s,h,q,hq=>by
  rw[List.foldl_cons]at h;rcases List.mem_cons.1 hq with e|hq
  ·subst e
   cases hk:ok q
   ·rfl
   ·have h1:(zk8 ok dl s q).f=true:=by
     unfold zk8;split
     ·rfl
     ·rename_i hc
      cases hs:s.f
      ·exact absurd ⟨hk,.inl hs⟩ hc
      ·rfl
    rw[zQ5 l _ h1]at h;cases h
  ·exact yd1 l _ h q hq
theorem yr2{id veh:Int}{n a:Nat}(h:a<n):(id,veh,a)∈sp1 id veh n:=List.mem_map.2 ⟨a,List.mem_range.2 h,rfl⟩
theorem ym5{R:List RT}{V:List Int}{id:Int}{a:Nat}:∀{m k:Nat},k<m->a<=(zd9 R (V.getD (k*5) 0)).ids.length->(id,V.getD (k*5) 0,a)∈sp2 R V id m
 |m+1,k,hk,ha=>by
  refine List.mem_append.2 ?_;by_cases e:k=m
  ·subst e
   exact .inr (yr2 (by omega))
  ·exact .inl (ym5 (by omega) ha)
theorem yl9{R:List RT}{V:List Int}{kv:Nat}{L:List Int}{k a:Nat}(hk:k<kv)(ha:a<=(zd9 R (V.getD (k*5) 0)).ids.length):∀{m i:Nat},i<m->(L.getD i 0,V.getD (k*5) 0,a)∈sp3 R V kv L m
 |m+1,i,hi=>by
  refine List.mem_append.2 ?_;by_cases e:i=m
  ·subst e
   exact .inr (ym5 hk ha)
  ·exact .inl (yl9 hk ha (by omega))
theorem yr6(L:List Int)(x:Int):zh7 L x=yo1 L x:=List.filter_congr (fun y _=>by by_cases h:y=x<;>simp[h])
theorem zX7{os:List Int}{ko:Nat}{L:List Int}(h1:∀x∈L,zi8 os ko x=true)(h2:L.Pairwise (· <·)):ze3 os ko L L.length:=fun j hj=>by
 have e:∀i,i<L.length->∃h:i<L.length,L.getD i 0=L[i]:=fun i hi=>⟨hi,by rw[List.getD_eq_getElem?_getD,List.getElem?_eq_getElem hi];rfl⟩
 obtain⟨_,e1⟩:=e j hj;refine⟨by rw[e1];exact h1 _ (List.getElem_mem _),fun h0=> ?_⟩;obtain⟨_,e2⟩:=e (j - 1) (by omega);rw[e1,e2];exact(List.pairwise_iff_getElem.1 h2) (j - 1) j (by omega) hj (by omega)
theorem yk5{os:List Int}{ko:Nat}{L:List Int}(h:ze3 os ko L L.length):∀x∈L,zi8 os ko x=true:=fun x hx=>by
 obtain⟨j,hj,e⟩:=List.getElem_of_mem hx;have:=(h j hj).1;rw[List.getD_eq_getElem?_getD,List.getElem?_eq_getElem hj]at this;rw[<-e];exact this
section
variable {n fine:Int} {zs os vs:List Int} {ko kv:Nat}
theorem z53{R:List RT}{L:List Int}(h:zd7 n zs os vs ko kv fine R L=0)(hf:(zm4 n fine zs os vs ko kv R L).f=true):zd7 n zs os vs ko kv fine (zo8 n fine zs os vs ko kv R L) (zo2 n fine zs os vs ko kv R L)=0/\zv8 n zs os vs ko kv fine (zo8 n fine zs os vs ko kv R L) (zo2 n fine zs os vs ko kv R L)<=zv8 n zs os vs ko kv fine R L/\(zo2 n fine zs os vs ko kv R L).length+1=L.length:=by
 obtain⟨hc,hr,ho,hl,hn⟩:=zj0 h;obtain⟨hp,hok⟩:=zD2.1 hr;have hm:=z26 (ok:=gOk n fine zs os vs ko kv R) (dl:=gD n zs os vs ko kv R) (sp3 R vs kv L L.length);change(zm4 n fine zs os vs ko kv R L).f=true->_ at hm;obtain⟨m1,m2,_⟩:=hm hf;change(zm4 n fine zs os vs ko kv R L).s∈_ at m1;change gOk n fine zs os vs ko kv R (zm4 n fine zs os vs ko kv R L).s=true at m2;have hid:=zN9 _ (Nat.le_refl _) m1;unfold zo8 zo2;rw[if_pos hf,if_pos hf];clear hm m1;generalize(zm4 n fine zs os vs ko kv R L).s=s at*;obtain⟨id,v,k⟩:=s;unfold gOk gB gD at m2;rw[Bool.and_eq_true,decide_eq_true_eq]at m2;obtain⟨b1,b2⟩:=m2;simp only at b1 b2 hid⊢;have b3:=b1;unfold plB chB at b3;simp only[Bool.and_eq_true,decide_eq_true_eq]at b3;obtain⟨c1,_,c2⟩:=b3;have hrv:(oneT R (id,v,k)).v=v:=rfl;have hri:(oneT R (id,v,k)).ids=insL (zd9 R v).ids k id:=rfl;generalize oneT R (id,v,k)=r at*;have hp2:=yr3 (r:=r) hp;have hne:r.ids≠[]:=by rw[hri];unfold insL;simp
 have hnd:=zZ3 hl;have hnL:L.Nodup:=hnd.imp (fun hlt=>by omega);have hpl:=zG4 hnL hid;rw[<-yr6]at hpl;have hlen:=hpl.length_eq;rw[List.length_cons]at hlen;have hpm:((wrL R r).flatMap RT.ids).Perm (id::R.flatMap RT.ids):=by
  have q1:=yh8 (r:=r) hp;rw[hri,hrv]at q1;refine(List.perm_append_right_iff (zd9 R v).ids).1 (q1.trans ?_);exact(List.Perm.append_left _ (zZ6 (zd9 R v).ids k id)).trans List.perm_middle
 have ho9:=ho;rw[zt2]at ho9;have hnf:id∉R.flatMap RT.ids:=ho9.2 id hid
 have h0:zd7 n zs os vs ko kv fine (wrL R r) (zh7 L id)=0:=by
  refine zP1 hc (zD2.2 ⟨hp2,fun x hx=> ?_⟩) ?_ (zX7 (fun x hx=>yk5 hl x (List.mem_filter.1 (show x∈L.filter (fun y=>decide (y≠id))from hx)).1) (hnd.sublist List.filter_sublist)) ?_
  ·rcases yt6.1 hx with hx|hx
   ·exact hok x hx.1
   ·rw[hx.1]
    refine⟨hne,?_⟩;rw[hrv,hri];exact c2
  ·rw[zt2]
   refine⟨hpm.nodup_iff.2 (List.nodup_cons.2 ⟨hnf,ho9.1⟩),fun x hx hm=> ?_⟩;have hx2:=(List.mem_filter.1 (show x∈L.filter (fun y=>decide (y≠id))from hx));rcases List.mem_cons.1 (hpm.mem_iff.1 hm)with e|e
   ·exact(of_decide_eq_true hx2.2) e
   ·exact ho9.2 x hx2.1 e
  ·rw[zt2,hpm.length_eq,List.length_cons,<-zt2]
   omega
 refine⟨h0,?_,by omega⟩;unfold zv8;rw[if_pos h0,if_pos h,zJ2,zJ2,yq2 (zv7 n zs os vs ko kv) hp (fun e=>absurd e hne) (yk1 hc rfl)];have e1:zv7 n zs os vs ko kv (zd9 R r.v)=rcV n zs os vs ko kv v (zd9 R v).ids:=by rw[z52 c1,hrv];unfold zv7;rw[yg2]
 have e2:zv7 n zs os vs ko kv r=rcV n zs os vs ko kv v (insL (zd9 R v).ids k id):=by rw[z52 c2];unfold zv7;rw[hrv,hri]
 rw[e1,e2];have e3:plD true n zs os vs ko kv v (zd9 R v).ids id k=rcV n zs os vs ko kv v (insL (zd9 R v).ids k id) - rcV n zs os vs ko kv v (zd9 R v).ids:=by
  unfold plD chD;rw[b1];rfl
 rw[e3]at b2;have e4:fine*((L.length:Nat):Int)=fine*(((zh7 L id).length:Nat):Int)+fine:=by
  rw[hlen,Int.natCast_add,Int.mul_add];simp
 omega
theorem zR0:∀(k:Nat) (R:List RT) (L:List Int),zd7 n zs os vs ko kv fine R L=0->zd7 n zs os vs ko kv fine (grd n fine zs os vs ko kv k R L).1 (grd n fine zs os vs ko kv k R L).2=0/\zv8 n zs os vs ko kv fine (grd n fine zs os vs ko kv k R L).1 (grd n fine zs os vs ko kv k R L).2<=zv8 n zs os vs ko kv fine R L/\(grd n fine zs os vs ko kv k R L).2.length<=L.length/\(L.length<=k->(zm4 n fine zs os vs ko kv (grd n fine zs os vs ko kv k R L).1 (grd n fine zs os vs ko kv k R L).2).f=false)
 |0,R,L,h=>⟨h,Int.le_refl _,Nat.le_refl _,fun hl=>by
  show(zm4 n fine zs os vs ko kv R L).f=false;cases hf:(zm4 n fine zs os vs ko kv R L).f
  ·rfl
  ·have:=zp3 n fine zs os vs ko kv hf;omega⟩
 |k+1,R,L,h=>by
  unfold grd;by_cases hf:(zm4 n fine zs os vs ko kv R L).f=true
  ·rw[if_pos hf]
   obtain⟨h1,h2,h3⟩:=z53 h hf;obtain⟨g1,g2,g3,g4⟩:=zR0 k _ _ h1;exact⟨g1,by omega,by omega,fun hl=>g4 (by omega)⟩
  ·rw[if_neg hf]
   exact⟨h,Int.le_refl _,Nat.le_refl _,fun _=>by simpa using hf⟩
theorem yb1{R:List RT}{L:List Int}:∀x∈zo2 n fine zs os vs ko kv R L,x∈L:=fun x hx=>by
 unfold zo2 at hx;split at hx
 ·exact(List.mem_filter.1 (show x∈L.filter _ from hx)).1
 ·exact hx
theorem yd2:∀(k:Nat) (R:List RT) (L:List Int),∀x∈(grd n fine zs os vs ko kv k R L).2,x∈L
 |0,_,_,_,hx=>hx
 |k+1,R,L,x,hx=>by
  unfold grd at hx;split at hx
  ·exact yb1 x (yd2 k _ _ x hx)
  ·exact hx
theorem yp3{R:List RT}{L:List Int}(h:zd7 n zs os vs ko kv fine R L=0):gaF n fine zs os vs ko kv R L=true/\zd7 n zs os vs ko kv fine (gaR n fine zs os vs ko kv R L) (gaL n fine zs os vs ko kv R L)=0/\zv8 n zs os vs ko kv fine (gaR n fine zs os vs ko kv R L) (gaL n fine zs os vs ko kv R L)<=zv8 n zs os vs ko kv fine R L/\(gaL n fine zs os vs ko kv R L).length<=L.length/\(zm4 n fine zs os vs ko kv (gaR n fine zs os vs ko kv R L) (gaL n fine zs os vs ko kv R L)).f=false/\goF n fine zs os vs ko kv R L=(zm4 n fine zs os vs ko kv R L).f/\zd7 n zs os vs ko kv fine (goR n fine zs os vs ko kv R L) (goL n fine zs os vs ko kv R L)=0∧
 (goF n fine zs os vs ko kv R L=false->gaR n fine zs os vs ko kv R L=R/\gaL n fine zs os vs ko kv R L=L)∧
 (goF n fine zs os vs ko kv R L=true->gaR n fine zs os vs ko kv (goR n fine zs os vs ko kv R L) (goL n fine zs os vs ko kv R L)=gaR n fine zs os vs ko kv R L/\gaL n fine zs os vs ko kv (goR n fine zs os vs ko kv R L) (goL n fine zs os vs ko kv R L)=gaL n fine zs os vs ko kv R L/\(goL n fine zs os vs ko kv R L).length+1=L.length):=by
 obtain⟨g1,g2,g3,g4⟩:=zR0 (fine:=fine) L.length R L h;have e0:goF n fine zs os vs ko kv R L=(zm4 n fine zs os vs ko kv R L).f:=if_pos h;have e1:goR n fine zs os vs ko kv R L=zo8 n fine zs os vs ko kv R L:=if_pos h;have e2:goL n fine zs os vs ko kv R L=zo2 n fine zs os vs ko kv R L:=if_pos h;have a1:gaR n fine zs os vs ko kv R L=(grd n fine zs os vs ko kv L.length R L).1:=if_pos h;have a2:gaL n fine zs os vs ko kv R L=(grd n fine zs os vs ko kv L.length R L).2:=if_pos h;have h1:zd7 n zs os vs ko kv fine (zo8 n fine zs os vs ko kv R L) (zo2 n fine zs os vs ko kv R L)=0:=by
  cases hf:(zm4 n fine zs os vs ko kv R L).f
  ·have f1:zo8 n fine zs os vs ko kv R L=R:=by unfold zo8;rw[hf];rfl
   have f2:zo2 n fine zs os vs ko kv R L=L:=by unfold zo2;rw[hf];rfl
   rw[f1,f2];exact h
  ·exact(z53 h hf).1
 refine⟨if_pos h,by rw[a1,a2];exact g1,by rw[a1,a2];exact g2,by rw[a2];exact g3,by rw[a1,a2];exact g4 (Nat.le_refl _),e0,by rw[e1,e2];exact h1,fun hf=> ?_,fun hf=> ?_⟩
 ·rw[e0]at hf
  rw[a1,a2,zD0 n fine zs os vs ko kv hf];exact⟨rfl,rfl⟩
 ·rw[e0]at hf
  rw[e1,e2,a1,a2];have b1:gaR n fine zs os vs ko kv (zo8 n fine zs os vs ko kv R L) (zo2 n fine zs os vs ko kv R L)=(grd n fine zs os vs ko kv (zo2 n fine zs os vs ko kv R L).length (zo8 n fine zs os vs ko kv R L) (zo2 n fine zs os vs ko kv R L)).1:=if_pos h1;have b2:gaL n fine zs os vs ko kv (zo8 n fine zs os vs ko kv R L) (zo2 n fine zs os vs ko kv R L)=(grd n fine zs os vs ko kv (zo2 n fine zs os vs ko kv R L).length (zo8 n fine zs os vs ko kv R L) (zo2 n fine zs os vs ko kv R L)).2:=if_pos h1;rw[b1,b2,zB8 n fine zs os vs ko kv hf];exact⟨rfl,rfl,(z53 h hf).2.2⟩
theorem ys9{R:List RT}{L:List Int}:∀x∈gaL n fine zs os vs ko kv R L,x∈L:=fun x hx=>by
 unfold gaL at hx;split at hx
 ·exact yd2 _ _ _ x hx
 ·cases hx
theorem yq9{R:List RT}{L:List Int}:∀x∈goL n fine zs os vs ko kv R L,x∈L:=fun x hx=>by
 unfold goL at hx;split at hx
 ·exact yb1 x hx
 ·cases hx
theorem yu5{R:List RT}{L:List Int}(h:gaF n fine zs os vs ko kv R L=false):goF n fine zs os vs ko kv R L=false:=by
 unfold gaF at h;unfold goF;split at h
 ·cases h
 ·rename_i hc
  exact if_neg hc
theorem yu6(R:List RT)(L:List Int):(∀r∈goR n fine zs os vs ko kv R L,r.ids≠[]/\r.ids.length<=12)/\(goR n fine zs os vs ko kv R L).length<=500/\(goL n fine zs os vs ko kv R L).length<=500:=by
 unfold goR goL;by_cases h:zd7 n zs os vs ko kv fine R L=0
 ·rw[if_pos h,if_pos h]
  have hk:(R.map (fun r=>(⟨r.v,r.a,r.ids,r.ids.length⟩:RT))).map RT.key=R.map RT.key:=by rw[List.map_map];rfl
  obtain⟨_,_,h3,h4,h5,_⟩:=zz7 (n:=n) (zs:=zs) (os:=os) (vs:=vs) (ko:=ko) (kv:=kv) (fine:=fine) (R:=R.map (fun r=>(⟨r.v,r.a,r.ids,r.ids.length⟩:RT))) (L:=L) (by rw[zr0 L hk];exact h) (fun r hr=>by
   obtain⟨x,_,rfl⟩:=List.mem_map.1 hr;exact Nat.le_refl _)
  rw[List.length_map]at h4;have h6:=yb3 n fine zs os vs ko kv (R:=R) (L:=L) (zo4 hk.symm (fun r hr=>⟨(h3 r hr).1,(h3 r hr).2.1⟩)) (by omega) (by omega);have h7:=z32 n fine zs os vs ko kv (R:=R) (L:=L);refine⟨h6,by omega,?_⟩;unfold zo2;split
  ·exact Nat.le_trans (z00 _ _) (by omega)
  ·omega
 ·rw[if_neg h,if_neg h]
  exact⟨fun r hr=>by simp at hr,by simp,by simp⟩
theorem yh6{R:List RT}{L:List Int}(hq:(zm4 n fine zs os vs ko kv R L).f=false){i k:Nat}(hi:i<L.length)(hk:k<kv){s0:PS}(hs:bpV true n zs os vs ko kv (vs.getD (k*5) 0) (zd9 R (vs.getD (k*5) 0)).ids (L.getD i 0)=s0):s0.f=true->fine<s0.v:=fun hf=>by
 have hm:=zF6 (ok:=plB true n zs os vs ko kv (vs.getD (k*5) 0) (zd9 R (vs.getD (k*5) 0)).ids (L.getD i 0)) (dl:=plD true n zs os vs ko kv (vs.getD (k*5) 0) (zd9 R (vs.getD (k*5) 0)).ids (L.getD i 0)) ((zd9 R (vs.getD (k*5) 0)).ids.length+1);have hs2:pst (plB true n zs os vs ko kv (vs.getD (k*5) 0) (zd9 R (vs.getD (k*5) 0)).ids (L.getD i 0)) (plD true n zs os vs ko kv (vs.getD (k*5) 0) (zd9 R (vs.getD (k*5) 0)).ids (L.getD i 0)) ((zd9 R (vs.getD (k*5) 0)).ids.length+1)=s0:=hs;rw[hs2]at hm;obtain⟨h1,h2,h3⟩:=hm hf;have h4:=yd1 _ _ hq (L.getD i 0,vs.getD (k*5) 0,s0.i) (yl9 hk (by omega) hi);unfold gOk gB gD at h4;simp only at h4;rw[h1,h2,Bool.true_and]at h4;have:=of_decide_eq_false h4;omega
end
def lkR(R:List RT)(veh:Int):Nat->RT
 |0=>⟨veh,none,[],0⟩
 |j+1=>if(R.getD j rt0).v=veh then R.getD j rt0 else lkR R veh j
theorem zY0(R:List RT)(veh:Int):∀j,j<=R.length->(lkR R veh j=⟨veh,none,[],0⟩/\∀i,i<j->(R.getD i rt0).v≠veh)∨∃i,i<j/\(R.getD i rt0).v=veh/\lkR R veh j=R.getD i rt0
 |0,_=>.inl ⟨rfl,fun i hi=>by omega⟩
 |j+1,hj=>by
  by_cases e:(R.getD j rt0).v=veh
  ·exact .inr ⟨j,by omega,e,if_pos e⟩
  ·have e2:lkR R veh (j+1)=lkR R veh j:=if_neg e
   rw[e2];rcases zY0 R veh j (by omega)with⟨h1,h2⟩|⟨i,h1,h2,h3⟩
   ·exact .inl ⟨h1,fun i hi=>by
     by_cases e3:i=j
     ·rw[e3];exact e
     ·exact h2 i (by omega)⟩
   ·exact .inr ⟨i,by omega,h2,h3⟩
theorem yo7{R:List RT}(hp:R.Pairwise (fun a b=>a.v<b.v))(veh:Int):(lkR R veh R.length).ids=(zd9 R veh).ids:=by
 rcases zY0 R veh R.length (Nat.le_refl _)with⟨h1,h2⟩|⟨i,h1,h2,h3⟩
 ·rw[h1,zL5 h2]
 ·rw[h3,<-h2,zp4 hp (zt3 h1)]
theorem ys8{n fine:Int}{zs os vs:List Int}{ko kv:Nat}{R S:List RT}(L:List Int)(h:S.map RT.key=R.map RT.key):(gaR n fine zs os vs ko kv S L).map RT.key=(gaR n fine zs os vs ko kv R L).map RT.key/\gaL n fine zs os vs ko kv S L=gaL n fine zs os vs ko kv R L:=by
 unfold gaR gaL;rw[zr0 L h];have hk:=z44 n fine zs os vs ko kv L.length L h;split
 ·exact hk
 ·exact⟨rfl,rfl⟩
theorem yk6{W:World}{ra:Option Addr}{S:List RT}{veh:Int}(h:za6 W ra S)(hc:∀r∈S,r.ids.length<=12/\r.ids.length<=r.c)(hk:∀r∈S,(r.a=none/\r.ids.length=0)∨∃b off,r.a=some ⟨b,off,none⟩):za0 W (lkR S veh S.length).a (lkR S veh S.length).ids/\(lkR S veh S.length).ids.length<=12/\(lkR S veh S.length).ids.length<=(lkR S veh S.length).c/\(((lkR S veh S.length).a=none/\(lkR S veh S.length).ids.length=0)∨∃b off,(lkR S veh S.length).a=some ⟨b,off,none⟩):=by
 rcases zY0 S veh S.length (Nat.le_refl _)with⟨h1,_⟩|⟨i,h1,_,h3⟩
 ·rw[h1]
  exact⟨fun j hj=>absurd hj (Nat.not_lt_zero _),Nat.zero_le _,Nat.le_refl _,.inl ⟨rfl,rfl⟩⟩
 ·rw[h3]
  obtain⟨b,off,_,_,_,h4⟩:=h i h1;exact⟨h4,(hc _ (zt3 h1)).1,(hc _ (zt3 h1)).2,hk _ (zt3 h1)⟩
end Go.Proofs.YtjobhigmdaiinaaGreat
