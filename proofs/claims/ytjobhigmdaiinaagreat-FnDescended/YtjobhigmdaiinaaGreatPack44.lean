import Derived.Test.YtjobhigmdaiinaaGreatPack1
import Derived.Test.YtjobhigmdaiinaaGreatPack2
import Derived.Test.YtjobhigmdaiinaaGreatPack3
import Derived.Test.YtjobhigmdaiinaaGreatPack4
import Derived.Test.YtjobhigmdaiinaaGreatPack5
import Derived.Test.YtjobhigmdaiinaaGreatPack6
import Derived.Test.YtjobhigmdaiinaaGreatPack21
import Derived.Test.YtjobhigmdaiinaaGreatPack23
import Derived.Test.YtjobhigmdaiinaaGreatPack25
import Derived.Test.YtjobhigmdaiinaaGreatPack29
import Derived.Test.YtjobhigmdaiinaaGreatPack41
import Derived.Test.YtjobhigmdaiinaaGreatCostsMore
import Derived.Test.YtjobhigmdaiinaaGreatLeaveStart
import Derived.Deep.RegionHeld3
import Derived.Deep.CutRange
namespace Go.Proofs.YtjobhigmdaiinaaGreat
open Go.RowKit
def rlN(R:List RT)(id tv:Int)(at_:Nat):List RT:=wrL (lvR R id) ⟨tv,none,insL (zc8 (lvR R id) tv).ids at_ id,0⟩
theorem zS6{R R':List RT}(h:R'.map RT.key=R.map RT.key)(id tv:Int)(at_:Nat):(rlN R' id tv at_).map RT.key=(rlN R id tv at_).map RT.key:=by
 have h1:=yi8 h id;exact zR8 h1 (by show(_,_)=(_,_);rw[zv5 h1 tv])
theorem yn1{n:Int}{zs os vs:List Int}{ko kv:Nat}{fine:Int}{R:List RT}{L:List Int}(h:zc3 n zs os vs ko kv fine R L=0){k:Nat}(hk:k<R.length){id:Int}(hid:id∈(R.getD k rt0).ids)(tv:Int)(at_:Nat){R2:List RT}(hk2:R2.map RT.key=(rlN R id tv at_).map RT.key):
 (z06 (R.getD k rt0).v tv).all (cmK n zs os vs ko kv R2)=decide (zc3 n zs os vs ko kv fine (rlN R id tv at_) L=0)∧
 (zc3 n zs os vs ko kv fine (rlN R id tv at_) L=0->∀z,((z06 (R.getD k rt0).v tv).map (cmF n zs os vs ko kv R R2)).sum=zf8 n zs os vs ko kv (rlN R id tv at_) z (rlN R id tv at_).length - zf8 n zs os vs ko kv R z R.length):=by
 obtain⟨hI,hC⟩:=y40 h hk hid at_ ⟨tv,none,insL (zc8 (lvR R id) tv).ids at_ id,0⟩ rfl;have hp1:=(z95 (ze4 (zi8.1 (zc2 h).2.1).1) id).pw;have ht:(zc8 (rlN R id tv at_) tv).ids=insL (zc8 (lvR R id) tv).ids at_ id:=(zx2 hp1 tv).1 rfl;have hr:=fun v=>zv5 hk2 v;change(zc3 n zs os vs ko kv fine (rlN R id tv at_) L=0↔codeV true n zs os vs ko kv (R.getD k rt0).v (zc8 (rlN R id tv at_) (R.getD k rt0).v).ids=0/\codeV true n zs os vs ko kv tv (insL (zc8 (lvR R id) tv).ids at_ id)=0)at hI;change zc3 n zs os vs ko kv fine (rlN R id tv at_) L=0->∀z,zf8 n zs os vs ko kv (rlN R id tv at_) z (rlN R id tv at_).length - zf8 n zs os vs ko kv R z R.length=if(R.getD k rt0).v=tv then rcV n zs os vs ko kv tv (insL (zc8 (lvR R id) tv).ids at_ id) - rcV n zs os vs ko kv tv (zc8 R tv).ids else(rcV n zs os vs ko kv (R.getD k rt0).v (zc8 (rlN R id tv at_) (R.getD k rt0).v).ids - rcV n zs os vs ko kv (R.getD k rt0).v (zc8 R (R.getD k rt0).v).ids)+(rcV n zs os vs ko kv tv (insL (zc8 (lvR R id) tv).ids at_ id) - rcV n zs os vs ko kv tv (zc8 R tv).ids)at hC
 rw[<-ht]at hI hC;generalize(R.getD k rt0).v=v at*;by_cases hv:v=tv
 ·subst hv
  have e2:z06 v v=[v]:=by unfold z06;rw[if_pos rfl]
  rw[e2];refine⟨?_,fun h9 z=> ?_⟩
  ·simp only[List.all_cons,List.all_nil,Bool.and_true]
   unfold cmK;rw[hr v];exact decide_eq_decide.2 ⟨fun h1=>hI.2 ⟨h1,h1⟩,fun h1=>(hI.1 h1).1⟩
  ·have:=hC h9 z
   rw[if_pos rfl]at this;rw[this];simp[cmF,hr v]
 ·have e2:z06 v tv=[v,tv]:=by unfold z06;rw[if_neg hv]
  rw[e2];refine⟨?_,fun h9 z=> ?_⟩
  ·simp only[List.all_cons,List.all_nil,Bool.and_true]
   unfold cmK;rw[hr v,hr tv,<-Bool.decide_and];exact decide_eq_decide.2 hI.symm
  ·have:=hC h9 z
   rw[if_neg hv]at this;rw[this];simp[cmF,hr v,hr tv]
theorem z11{R:List RT}(hp:R.Pairwise (fun a b=>a.v<b.v))(hne:∀r∈R,r.ids≠[])(hnd:(za7 R R.length).Nodup){k:Nat}(hk:k<R.length){id:Int}(hid:id∈(R.getD k rt0).ids)(tv:Int)(at_:Nat):((rlN R id tv at_).flatMap RT.ids).Perm (R.flatMap RT.ids):=by
 have hS:=ze4 hp;have hlv:=yi2 hS hk hne hnd hid;have hym:=zj7 hk;have hyn:=zt0 hk hnd;have hyr:=ze3 hp hym;have hp1:=(z95 hS id).pw;have q1:=z66 (R:=lvR R id) (r:=⟨tv,none,insL (zc8 (lvR R id) tv).ids at_ id,0⟩) hp1;have q2:=q1.trans (List.Perm.append_left _ ((zL6 (zc8 (lvR R id) tv).ids at_ id)));have q3:((rlN R id tv at_).flatMap RT.ids).Perm ((lvR R id).flatMap RT.ids++[id]):=by
  refine(List.perm_append_right_iff (zc8 (lvR R id) tv).ids).1 (q2.trans ?_);rw[List.append_assoc];rfl
 refine q3.trans ?_;rw[hlv];have q4:=z66 (r:=⟨(R.getD k rt0).v,(R.getD k rt0).a,cutP (R.getD k rt0).ids id,(R.getD k rt0).c⟩) hp;simp only[hyr]at q4;refine(List.perm_append_right_iff (cutP (R.getD k rt0).ids id)).1 ?_;rw[List.append_assoc];exact(List.Perm.append_left _ (z78 hyn hid).symm).trans q4
theorem zN2{n:Int}{zs os vs:List Int}{ko kv:Nat}{fine:Int}{R:List RT}{L:List Int}(h:zc3 n zs os vs ko kv fine R L=0){k:Nat}(hk:k<R.length){id:Int}(hid:id∈(R.getD k rt0).ids)(tv:Int)(at_:Nat):∀r∈rlN R id tv at_,r.ids≠[]/\r.ids.length<=12:=fun r hr=>by
 obtain⟨_,h2,h3,_⟩:=zc2 h;obtain⟨hp,hok⟩:=zi8.1 h2;have hq:=z11 hp (fun r hr=>(hok r hr).1) h3.1 hk hid tv at_;have h12:=(zj5 h).1;rw[zd2]at h12;have:=zI8 _ r hr;rw[hq.length_eq]at this;refine⟨?_,by omega⟩;rcases zt8.1 hr with⟨hm,_⟩|⟨e,hn⟩
 ·exact yu4 hm
 ·rw[e];exact hn
theorem yx6(R:List RT)(id tv:Int)(at_:Nat):(rlN R id tv at_).length<=2*R.length+1:=by
 unfold rlN wrL;have h1:=List.length_filter_le (fun x:RT=>decide (x.v<tv)) (lvR R id);have h2:=List.length_filter_le (fun x:RT=>decide (tv<x.v)) (lvR R id);have h3:=zS4 R id;simp only[List.length_append];split<;>simp<;>omega
noncomputable def rqB(id tv pl n fine:Int)(zs os vs:List Int)(ko kv:Nat)(R:List RT)(L:List Int):Bool:=decide (zc3 n zs os vs ko kv fine R L=0)&&(decide (id∈za7 R R.length)&&(inB pl 0 ((zc8 (lvR R id) tv).ids.length:Int)&&decide (zc3 n zs os vs ko kv fine (rlN R id tv pl.toNat) L=0)))
noncomputable def rqR(id tv pl n fine:Int)(zs os vs:List Int)(ko kv:Nat)(R:List RT)(L:List Int):List RT:=bif rqB id tv pl n fine zs os vs ko kv R L then rlN R id tv pl.toNat else []
noncomputable def rqL(id tv pl n fine:Int)(zs os vs:List Int)(ko kv:Nat)(R:List RT)(L:List Int):List Int:=bif rqB id tv pl n fine zs os vs ko kv R L then L else []
noncomputable def rqD(id tv pl n fine:Int)(zs os vs:List Int)(ko kv:Nat)(R:List RT)(L:List Int):Int:=bif rqB id tv pl n fine zs os vs ko kv R L then zf8 n zs os vs ko kv (rlN R id tv pl.toNat) (fine*L.length) (rlN R id tv pl.toNat).length - zf8 n zs os vs ko kv R (fine*L.length) R.length else 0
theorem yf6{R R':List RT}(id tv pl n fine:Int)(zs os vs:List Int)(ko kv:Nat)(L:List Int)(h:R'.map RT.key=R.map RT.key):rqB id tv pl n fine zs os vs ko kv R' L=rqB id tv pl n fine zs os vs ko kv R L:=by
 unfold rqB;rw[zh4 L h,zd2,zd2,zJ2 h,zv5 (yi8 h id) tv,zh4 L (zS6 h id tv pl.toNat)]
theorem yn4{R R':List RT}(id tv pl n fine:Int)(zs os vs:List Int)(ko kv:Nat)(L:List Int)(h:R'.map RT.key=R.map RT.key):rqD id tv pl n fine zs os vs ko kv R' L=rqD id tv pl n fine zs os vs ko kv R L:=by
 unfold rqD;have h2:=zS6 h id tv pl.toNat;rw[yf6 _ _ _ _ _ _ _ _ _ _ _ h,zt9 h,zt9 h2,z12 h,z12 h2]
theorem z61{id tv pl n fine:Int}{zs os vs:List Int}{ko kv:Nat}{R:List RT}{L:List Int}(h:rqB id tv pl n fine zs os vs ko kv R L=true):zc3 n zs os vs ko kv fine R L=0/\id∈za7 R R.length/\inB pl 0 ((zc8 (lvR R id) tv).ids.length:Int)=true/\zc3 n zs os vs ko kv fine (rlN R id tv pl.toNat) L=0:=by
 unfold rqB at h;simp only[Bool.and_eq_true,decide_eq_true_eq]at h;exact h
theorem yz9(id tv pl n fine:Int)(zs os vs:List Int)(ko kv:Nat)(R:List RT)(L:List Int):(∀r∈rqR id tv pl n fine zs os vs ko kv R L,r.ids≠[]/\r.ids.length<=12)/\(rqR id tv pl n fine zs os vs ko kv R L).length<=500/\(rqL id tv pl n fine zs os vs ko kv R L).length<=500:=by
 unfold rqR rqL;cases hB:rqB id tv pl n fine zs os vs ko kv R L
 ·simp
 ·obtain⟨h1,_,_,h4⟩:=z61 hB
  obtain⟨_,g2,_,_,g5⟩:=zc2 h4;obtain⟨_,hok⟩:=zi8.1 g2;have hs:=ze7 h4;simp only[cond_true];exact⟨fun r hr=>⟨(hok r hr).1,zm0 (hok r hr).2⟩,by omega,by omega⟩
noncomputable def mvB(n fine:Int)(zs os vs:List Int)(ko kv:Nat)(R:List RT)(L:List Int)(s:zh2):Bool:=rqB s.1 s.2.1 (s.2.2:Int) n fine zs os vs ko kv R L&&decide (rqD s.1 s.2.1 (s.2.2:Int) n fine zs os vs ko kv R L<0)
noncomputable def mvD(n fine:Int)(zs os vs:List Int)(ko kv:Nat)(R:List RT)(L:List Int)(s:zh2):Int:=rqD s.1 s.2.1 (s.2.2:Int) n fine zs os vs ko kv R L
noncomputable def brQ(n fine:Int)(zs os vs:List Int)(ko kv:Nat)(R:List RT)(L:List Int):QS:=qst (mvB n fine zs os vs ko kv R L) (mvD n fine zs os vs ko kv R L) (sp3 R vs kv (zf9 n zs os vs ko kv fine R L) (zf9 n zs os vs ko kv fine R L).length)
theorem zW0{ok:zh2->Bool}{dl:zh2->Int}(l:List zh2):(qst ok dl l).f=false->qst ok dl l=qs0:=by
 suffices h:∀(m:List zh2) (s:QS),(s.f=false->s=qs0)->(m.foldl (zm9 ok dl) s).f=false->m.foldl (zm9 ok dl) s=qs0 from h l qs0 (fun _=>rfl)
 intro m
 induction m with
 |nil=>intro s hs hf;exact hs hf
 |cons p m ih=>
  intro s hs hf;rw[List.foldl_cons]at hf⊢;refine ih _ (fun h9=> ?_) hf;unfold zm9 at h9⊢;split
  ·rename_i hc
   rw[if_pos hc]at h9;cases h9
  ·rename_i hc
   rw[if_neg hc]at h9;exact hs h9
theorem y31{n fine:Int}{zs os vs:List Int}{ko kv:Nat}{R:List RT}{L:List Int}(l:List zh2):((qst (mvB n fine zs os vs ko kv R L) (mvD n fine zs os vs ko kv R L) l).f=false->(qst (mvB n fine zs os vs ko kv R L) (mvD n fine zs os vs ko kv R L) l).v=0)/\((qst (mvB n fine zs os vs ko kv R L) (mvD n fine zs os vs ko kv R L) l).f=true->(qst (mvB n fine zs os vs ko kv R L) (mvD n fine zs os vs ko kv R L) l).v<0):=by
 refine⟨fun h=>by rw[zW0 l h];rfl,fun h=> ?_⟩;obtain⟨_,h2,h3⟩:=zF9 l h;generalize qst (mvB n fine zs os vs ko kv R L) (mvD n fine zs os vs ko kv R L) l=s at*;unfold mvB at h2;rw[Bool.and_eq_true,decide_eq_true_eq]at h2;have h4:=h2.2;unfold mvD at h3;omega
theorem yz7{n fine:Int}{zs os vs:List Int}{ko kv:Nat}{R:List RT}{L:List Int}{l:List zh2}{id veh:Int}{pl:Nat}{s:QS}(hs:qst (mvB n fine zs os vs ko kv R L) (mvD n fine zs os vs ko kv R L) l=s)(h1:rqB id veh (pl:Int) n fine zs os vs ko kv R L=true)(h2:rqD id veh (pl:Int) n fine zs os vs ko kv R L<s.v):qst (mvB n fine zs os vs ko kv R L) (mvD n fine zs os vs ko kv R L) (l++[(id,veh,pl)])=⟨true,(id,veh,pl),rqD id veh (pl:Int) n fine zs os vs ko kv R L⟩:=by
 have hv:=y31 (n:=n) (fine:=fine) (zs:=zs) (os:=os) (vs:=vs) (ko:=ko) (kv:=kv) (R:=R) (L:=L) l;rw[zH2];rw[hs]at hv⊢;have h0:rqD id veh (pl:Int) n fine zs os vs ko kv R L<0:=by
  cases hf:s.f
  ·have:=hv.1 hf;omega
  ·have:=hv.2 hf;omega
 exact zL3 (p:=(id,veh,pl)) (by show(_&&_)=true;rw[h1,decide_eq_true h0];rfl) h2
theorem y41{n fine:Int}{zs os vs:List Int}{ko kv:Nat}{R:List RT}{L:List Int}{l:List zh2}{id veh:Int}{pl:Nat}{s:QS}(hs:qst (mvB n fine zs os vs ko kv R L) (mvD n fine zs os vs ko kv R L) l=s)(h:rqB id veh (pl:Int) n fine zs os vs ko kv R L=false∨¬rqD id veh (pl:Int) n fine zs os vs ko kv R L<s.v):qst (mvB n fine zs os vs ko kv R L) (mvD n fine zs os vs ko kv R L) (l++[(id,veh,pl)])=s:=by
 have hv:=y31 (n:=n) (fine:=fine) (zs:=zs) (os:=os) (vs:=vs) (ko:=ko) (kv:=kv) (R:=R) (L:=L) l;rw[zH2];rw[hs]at hv⊢;rcases h with h|h
 ·exact zz8 (p:=(id,veh,pl)) (by show(_&&_)=false;rw[h];rfl)
 ·cases hf:s.f
  ·have:=hv.1 hf
   exact zz8 (p:=(id,veh,pl)) (by show(_&&decide (rqD id veh (pl:Int) n fine zs os vs ko kv R L<0))=false;rw[decide_eq_false (by omega),Bool.and_false])
  ·exact zQ2 (p:=(id,veh,pl)) hf h
def sq2(V:List Int)(id:Int):Nat->List zh2
 |0=>[]
 |k+1=>sq2 V id k++sp1 id (V.getD (k*5) 0) 13
def sq3(V:List Int)(kv:Nat)(ids:List Int):Nat->List zh2
 |0=>[]
 |i+1=>sq3 V kv ids i++sq2 V (ids.getD i 0) kv
theorem yw6{ok:zh2->Bool}{dl:zh2->Int}(l:List zh2)(s:QS)(h:∀p∈l,ok p=false):l.foldl (zm9 ok dl) s=s:=by
 induction l with
 |nil=>rfl
 |cons p l ih=>
  rw[List.foldl_cons,zz8 (h p (List.mem_cons_self ..))];exact ih (fun q hq=>h q (List.mem_cons_of_mem _ hq))
theorem ys1(id veh:Int)(a b:Nat):sp1 id veh (a+b)=sp1 id veh a++(List.range b).map (fun k=>(id,veh,a+k)):=by
 unfold sp1;rw[List.range_add,List.map_append,List.map_map];rfl
theorem yr2{ok:zh2->Bool}{dl:zh2->Int}{R:List RT}(h12:∀r∈R,r.ids.length<=12)(hno:∀id veh pl,(zc8 R veh).ids.length<pl->ok (id,veh,pl)=false)(id veh:Int)(s:QS):(sp1 id veh 13).foldl (zm9 ok dl) s=(sp1 id veh ((zc8 R veh).ids.length+1)).foldl (zm9 ok dl) s:=by
 have hl:=zJ7 h12 veh;obtain⟨b,hb⟩:∃b,13=((zc8 R veh).ids.length+1)+b:=⟨13 - ((zc8 R veh).ids.length+1),by omega⟩;rw[hb,ys1,List.foldl_append];refine yw6 _ _ (fun p hp=> ?_);obtain⟨k,_,rfl⟩:=List.mem_map.1 hp;exact hno _ _ _ (by omega)
theorem zX0{ok:zh2->Bool}{dl:zh2->Int}{R:List RT}(h12:∀r∈R,r.ids.length<=12)(hno:∀id veh pl,(zc8 R veh).ids.length<pl->ok (id,veh,pl)=false)(V:List Int)(id:Int):∀(k:Nat) (s:QS),(sq2 V id k).foldl (zm9 ok dl) s=(sp2 R V id k).foldl (zm9 ok dl) s
 |0,s=>rfl
 |k+1,s=>by
  show(sq2 V id k++_).foldl _ _=(sp2 R V id k++_).foldl _ _;rw[List.foldl_append,List.foldl_append,zX0 h12 hno V id k,yr2 h12 hno]
theorem zX2{ok:zh2->Bool}{dl:zh2->Int}{R:List RT}(h12:∀r∈R,r.ids.length<=12)(hno:∀id veh pl,(zc8 R veh).ids.length<pl->ok (id,veh,pl)=false)(V:List Int)(kv:Nat)(ids:List Int):∀(i:Nat) (s:QS),(sq3 V kv ids i).foldl (zm9 ok dl) s=(sp3 R V kv ids i).foldl (zm9 ok dl) s
 |0,s=>rfl
 |i+1,s=>by
  show(sq3 V kv ids i++_).foldl _ _=(sp3 R V kv ids i++_).foldl _ _;rw[List.foldl_append,List.foldl_append,zX2 h12 hno V kv ids i,zX0 h12 hno]
theorem yy9{n fine:Int}{zs os vs:List Int}{ko kv:Nat}{R:List RT}{L:List Int}(id veh:Int)(pl:Nat)(h:(zc8 R veh).ids.length<pl):mvB n fine zs os vs ko kv R L (id,veh,pl)=false:=by
 cases hb:mvB n fine zs os vs ko kv R L (id,veh,pl)
 ·rfl
 ·exfalso
  unfold mvB at hb;rw[Bool.and_eq_true]at hb;obtain⟨h1,h2,h3,_⟩:=z61 (id:=id) (tv:=veh) (pl:=(pl:Int)) hb.1;obtain⟨_,g2,g3,_⟩:=zc2 h1;obtain⟨hp,hok⟩:=zi8.1 g2;rw[zd2]at h2;obtain⟨r,hr,hid⟩:=List.mem_flatMap.1 h2;obtain⟨k,hk,e⟩:=zv0 hr;rw[<-e]at hid;have hw:=yi2 (ze4 hp) hk (fun r hr=>(hok r hr).1) g3.1 hid;rw[hw]at h3;have hle:(zc8 (wrL R ⟨(R.getD k rt0).v,(R.getD k rt0).a,cutP (R.getD k rt0).ids id,(R.getD k rt0).c⟩) veh).ids.length<=(zc8 R veh).ids.length:=by
   by_cases hv:veh=(R.getD k rt0).v
   ·rw[(zx2 (r:=⟨(R.getD k rt0).v,(R.getD k rt0).a,cutP (R.getD k rt0).ids id,(R.getD k rt0).c⟩) hp veh).1 hv,hv,ze3 hp (zj7 hk)]
    exact List.length_filter_le _ _
   ·rw[(zx2 (r:=⟨(R.getD k rt0).v,(R.getD k rt0).a,cutP (R.getD k rt0).ids id,(R.getD k rt0).c⟩) hp veh).2 hv]
    exact Nat.le_refl _
  generalize(zc8 (wrL R ⟨(R.getD k rt0).v,(R.getD k rt0).a,cutP (R.getD k rt0).ids id,(R.getD k rt0).c⟩) veh).ids.length=x at hle h3;unfold inB at h3;simp at h3;omega
theorem yt7(n fine:Int)(zs os vs:List Int)(ko kv:Nat)(R:List RT)(L:List Int):qst (mvB n fine zs os vs ko kv R L) (mvD n fine zs os vs ko kv R L) (sq3 vs kv (zf9 n zs os vs ko kv fine R L) (zf9 n zs os vs ko kv fine R L).length)=brQ n fine zs os vs ko kv R L:=by
 by_cases hp:zc3 n zs os vs ko kv fine R L=0
 ·obtain⟨_,g2,_,_⟩:=zc2 hp
  obtain⟨_,hok⟩:=zi8.1 g2;exact zX2 (fun r hr=>zm0 (hok r hr).2) (fun id veh pl h=>yy9 id veh pl h) vs kv _ _ _
 ·have e:zf9 n zs os vs ko kv fine R L=[]:=if_neg hp
  unfold brQ;rw[e];rfl
theorem yp9{n fine:Int}{zs os vs:List Int}{ko kv:Nat}{R:List RT}{L:List Int}(hp:zc3 n zs os vs ko kv fine R L≠0):brQ n fine zs os vs ko kv R L=qs0:=by
 have e:zf9 n zs os vs ko kv fine R L=[]:=if_neg hp;unfold brQ;rw[e];rfl
theorem yi1{R S:List RT}(h:S.map RT.key=R.map RT.key)(V:List Int)(id:Int):∀k,sp2 S V id k=sp2 R V id k
 |0=>rfl
 |k+1=>by
  show sp2 S V id k++_=sp2 R V id k++_;rw[yi1 h V id k,zv5 h]
theorem yn3{R S:List RT}(h:S.map RT.key=R.map RT.key)(V:List Int)(kv:Nat)(ids:List Int):∀i,sp3 S V kv ids i=sp3 R V kv ids i
 |0=>rfl
 |i+1=>by
  show sp3 S V kv ids i++_=sp3 R V kv ids i++_;rw[yn3 h V kv ids i,yi1 h]
theorem yk9{n:Int}{zs os vs:List Int}{ko kv:Nat}{fine:Int}{R S:List RT}(L:List Int)(h:S.map RT.key=R.map RT.key):zf9 n zs os vs ko kv fine S L=zf9 n zs os vs ko kv fine R L:=by
 unfold zf9;rw[zh4 L h,zd2,zd2,zJ2 h]
theorem z13{n fine:Int}{zs os vs:List Int}{ko kv:Nat}{R S:List RT}{L:List Int}(h:S.map RT.key=R.map RT.key):brQ n fine zs os vs ko kv S L=brQ n fine zs os vs ko kv R L:=by
 have e1:mvB n fine zs os vs ko kv S L=mvB n fine zs os vs ko kv R L:=funext fun s=>by unfold mvB;rw[yf6 _ _ _ _ _ _ _ _ _ _ _ h,yn4 _ _ _ _ _ _ _ _ _ _ _ h]
 have e2:mvD n fine zs os vs ko kv S L=mvD n fine zs os vs ko kv R L:=funext fun s=>by unfold mvD;rw[yn4 _ _ _ _ _ _ _ _ _ _ _ h]
 unfold brQ;rw[e1,e2,yk9 L h,yn3 h]
noncomputable def dsN(n fine:Int)(zs os vs:List Int)(ko kv:Nat)(L:List Int)(R:List RT):List RT:=rlN R (brQ n fine zs os vs ko kv R L).s.1 (brQ n fine zs os vs ko kv R L).s.2.1 (brQ n fine zs os vs ko kv R L).s.2.2
noncomputable def dsR(n fine:Int)(zs os vs:List Int)(ko kv:Nat)(L:List Int):Nat->List RT->List RT
 |0,R=>R
 |k+1,R=>bif (brQ n fine zs os vs ko kv R L).f then dsR n fine zs os vs ko kv L k (dsN n fine zs os vs ko kv L R)else R
noncomputable def dsC(n fine:Int)(zs os vs:List Int)(ko kv:Nat)(L:List Int):Nat->List RT->Nat
 |0,_=>0
 |k+1,R=>bif (brQ n fine zs os vs ko kv R L).f then dsC n fine zs os vs ko kv L k (dsN n fine zs os vs ko kv L R)+1 else 0
theorem yk8{n fine:Int}{zs os vs:List Int}{ko kv:Nat}{L:List Int}{R S:List RT}(h:S.map RT.key=R.map RT.key):(dsN n fine zs os vs ko kv L S).map RT.key=(dsN n fine zs os vs ko kv L R).map RT.key:=by
 unfold dsN;rw[z13 h];exact zS6 h _ _ _
theorem yr7{n fine:Int}{zs os vs:List Int}{ko kv:Nat}{L:List Int}(R:List RT):dsR n fine zs os vs ko kv L 0 R=R:=rfl
theorem ys9{n fine:Int}{zs os vs:List Int}{ko kv:Nat}{L:List Int}(R:List RT):dsC n fine zs os vs ko kv L 0 R=0:=rfl
theorem zm4{n fine:Int}{zs os vs:List Int}{ko kv:Nat}{L:List Int}{R:List RT}(h:(brQ n fine zs os vs ko kv R L).f=false)(k:Nat):dsR n fine zs os vs ko kv L k R=R/\dsC n fine zs os vs ko kv L k R=0:=by
 cases k with
 |zero=>exact⟨rfl,rfl⟩
 |succ k=>
  constructor
  ·show(bif (brQ n fine zs os vs ko kv R L).f then _ else _)=_
   rw[h];rfl
  ·show(bif (brQ n fine zs os vs ko kv R L).f then _ else _)=_
   rw[h];rfl
theorem zm6{n fine:Int}{zs os vs:List Int}{ko kv:Nat}{L:List Int}{R:List RT}(h:(brQ n fine zs os vs ko kv R L).f=true)(k:Nat):dsR n fine zs os vs ko kv L (k+1) R=dsR n fine zs os vs ko kv L k (dsN n fine zs os vs ko kv L R)/\dsC n fine zs os vs ko kv L (k+1) R=dsC n fine zs os vs ko kv L k (dsN n fine zs os vs ko kv L R)+1:=by
 constructor
 ·show(bif (brQ n fine zs os vs ko kv R L).f then _ else _)=_
  rw[h];rfl
 ·show(bif (brQ n fine zs os vs ko kv R L).f then _ else _)=_
  rw[h];rfl
theorem zR1{n fine:Int}{zs os vs:List Int}{ko kv:Nat}{L:List Int}(k:Nat):∀{R S:List RT},S.map RT.key=R.map RT.key->(dsR n fine zs os vs ko kv L k S).map RT.key=(dsR n fine zs os vs ko kv L k R).map RT.key:=by
 induction k with
 |zero=>intro R S h;exact h
 |succ k ih=>
  intro R S h;cases hf:(brQ n fine zs os vs ko kv R L).f
  ·rw[(zm4 hf _).1,(zm4 (by rw[z13 h];exact hf) _).1]
   exact h
  ·rw[(zm6 hf k).1,(zm6 (by rw[z13 h];exact hf) k).1]
   exact ih (yk8 h)
theorem zU3{n fine:Int}{zs os vs:List Int}{ko kv:Nat}{L:List Int}(k:Nat):∀{R S:List RT},S.map RT.key=R.map RT.key->dsC n fine zs os vs ko kv L k S=dsC n fine zs os vs ko kv L k R:=by
 induction k with
 |zero=>intro R S h;rfl
 |succ k ih=>
  intro R S h;cases hf:(brQ n fine zs os vs ko kv R L).f
  ·rw[(zm4 hf _).2,(zm4 (by rw[z13 h];exact hf) _).2]
  ·rw[(zm6 hf k).2,(zm6 (by rw[z13 h];exact hf) k).2,ih (yk8 h)]
theorem zB0{n fine:Int}{zs os vs:List Int}{ko kv:Nat}{L:List Int}{R:List RT}{q:QS}(hq:brQ n fine zs os vs ko kv R L=q)(h:q.f=true):rqB q.s.1 q.s.2.1 (q.s.2.2:Int) n fine zs os vs ko kv R L=true/\rqR q.s.1 q.s.2.1 (q.s.2.2:Int) n fine zs os vs ko kv R L=dsN n fine zs os vs ko kv L R/\rqL q.s.1 q.s.2.1 (q.s.2.2:Int) n fine zs os vs ko kv R L=L/\zc3 n zs os vs ko kv fine (dsN n fine zs os vs ko kv L R) L=0:=by
 have h1:rqB q.s.1 q.s.2.1 (q.s.2.2:Int) n fine zs os vs ko kv R L=true:=by
  have h2:=(zF9 (ok:=mvB n fine zs os vs ko kv R L) (dl:=mvD n fine zs os vs ko kv R L) (sp3 R vs kv (zf9 n zs os vs ko kv fine R L) (zf9 n zs os vs ko kv fine R L).length));change(brQ n fine zs os vs ko kv R L).f=true->_/\mvB n fine zs os vs ko kv R L (brQ n fine zs os vs ko kv R L).s=true/\_ at h2;rw[hq]at h2;have h3:=(h2 h).2.1;unfold mvB at h3;rw[Bool.and_eq_true]at h3;exact h3.1
 have h4:=(z61 h1).2.2.2;have e:dsN n fine zs os vs ko kv L R=rlN R q.s.1 q.s.2.1 q.s.2.2:=by unfold dsN;rw[hq]
 refine⟨h1,?_,?_,?_⟩
 ·unfold rqR
  rw[h1,e];rfl
 ·unfold rqL
  rw[h1];rfl
 ·rw[e]
  exact h4
theorem yo6{n fine:Int}{zs os vs:List Int}{ko kv:Nat}{L:List Int}{R:List RT}{q:QS}(hq:brQ n fine zs os vs ko kv R L=q):(q.f=false->q.v=0)/\(q.f=true->q.v<0):=by
 have:=y31 (n:=n) (fine:=fine) (zs:=zs) (os:=os) (vs:=vs) (ko:=ko) (kv:=kv) (R:=R) (L:=L) (sp3 R vs kv (zf9 n zs os vs ko kv fine R L) (zf9 n zs os vs ko kv fine R L).length);change((brQ n fine zs os vs ko kv R L).f=false->(brQ n fine zs os vs ko kv R L).v=0)/\((brQ n fine zs os vs ko kv R L).f=true->(brQ n fine zs os vs ko kv R L).v<0)at this;rw[hq]at this;exact this
theorem yl9{n fine:Int}{zs os vs:List Int}{ko kv:Nat}{L:List Int}(k:Nat):∀{R:List RT},zc3 n zs os vs ko kv fine R L=0->zc3 n zs os vs ko kv fine (dsR n fine zs os vs ko kv L k R) L=0:=by
 induction k with
 |zero=>intro R h;exact h
 |succ k ih=>
  intro R h;cases hf:(brQ n fine zs os vs ko kv R L).f
  ·rw[(zm4 hf (k+1)).1]
   exact h
  ·rw[(zm6 hf k).1]
   exact ih (zB0 rfl hf).2.2.2
noncomputable def dcB(st n fine:Int)(zs os vs:List Int)(ko kv:Nat)(R:List RT)(L:List Int):Bool:=decide (zc3 n zs os vs ko kv fine R L=0)&&inB st 0 60
noncomputable def dcR(st n fine:Int)(zs os vs:List Int)(ko kv:Nat)(R:List RT)(L:List Int):List RT:=bif dcB st n fine zs os vs ko kv R L then dsR n fine zs os vs ko kv L st.toNat R else []
noncomputable def dcL(st n fine:Int)(zs os vs:List Int)(ko kv:Nat)(R:List RT)(L:List Int):List Int:=bif dcB st n fine zs os vs ko kv R L then L else []
noncomputable def dcN(st n fine:Int)(zs os vs:List Int)(ko kv:Nat)(R:List RT)(L:List Int):Int:=bif dcB st n fine zs os vs ko kv R L then(dsC n fine zs os vs ko kv L st.toNat R:Int)else -1
theorem yz8(st n fine:Int)(zs os vs:List Int)(ko kv:Nat)(R:List RT)(L:List Int):(∀r∈dcR st n fine zs os vs ko kv R L,r.ids≠[]/\r.ids.length<=12)/\(dcR st n fine zs os vs ko kv R L).length<=500/\(dcL st n fine zs os vs ko kv R L).length<=500:=by
 unfold dcR dcL;cases hB:dcB st n fine zs os vs ko kv R L
 ·simp
 ·unfold dcB at hB
  rw[Bool.and_eq_true,decide_eq_true_eq]at hB;have h4:=yl9 (L:=L) st.toNat hB.1;obtain⟨_,g2,_⟩:=zc2 h4;obtain⟨_,hok⟩:=zi8.1 g2;have hs:=ze7 h4;simp only[cond_true];exact⟨fun r hr=>⟨(hok r hr).1,zm0 (hok r hr).2⟩,by omega,by omega⟩
theorem yh2:∀{a b:List Int},a.Pairwise (· <·)->b.Pairwise (· <·)->(∀x,x∈a↔x∈b)->a=b
 |[],[],_,_,_=>rfl
 |[],y::b,_,_,h=>absurd ((h y).2 (List.mem_cons_self ..)) (by simp)
 |x::a,[],_,_,h=>absurd ((h x).1 (List.mem_cons_self ..)) (by simp)
 |x::a,y::b,ha,hb,h=>by
  obtain⟨ha1,ha2⟩:=List.pairwise_cons.1 ha;obtain⟨hb1,hb2⟩:=List.pairwise_cons.1 hb
  have e:x=y:=by
   rcases List.mem_cons.1 ((h x).1 (List.mem_cons_self ..))with e|e
   ·exact e
   ·rcases List.mem_cons.1 ((h y).2 (List.mem_cons_self ..))with e2|e2
    ·exact e2.symm
    ·have h1:=hb1 x e
     have h2:=ha1 y e2;omega
  subst e;have:=yh2 ha2 hb2 (fun z=>⟨fun hz=>by
   rcases List.mem_cons.1 ((h z).1 (List.mem_cons_of_mem _ hz))with e|e
   ·have:=ha1 z hz
    omega
   ·exact e,fun hz=>by
   rcases List.mem_cons.1 ((h z).2 (List.mem_cons_of_mem _ hz))with e|e
   ·have:=hb1 z hz
    omega
   ·exact e⟩)
  rw[this]
theorem yf2{a b:List Int}(ha:a.Nodup)(h:a.Perm b):zm2 a=zm2 b:=
 yh2 (zA6 ha) (zA6 (h.nodup_iff.1 ha)) (fun x=>by rw[zv3,zv3,h.mem_iff])
theorem zH5{n fine:Int}{zs os vs:List Int}{ko kv:Nat}{R:List RT}{L:List Int}(h:zc3 n zs os vs ko kv fine R L=0):0<=zn9 n zs os vs ko kv fine R L/\zn9 n zs os vs ko kv fine R L<=20000000:=by
 have hs:=ze7 h;obtain⟨hc,hr,_⟩:=zc2 h;have:=zu9 hc hr (fine*L.length) R.length (Nat.le_refl _);unfold zn9;rw[if_pos h];omega
def mtR(tv pl id:Int)(r:RT):Bool:=decide (r.v=tv)&&(decide (pl<(r.ids.length:Int))&&decide (r.ids.getD pl.toNat 0=id))
def thB(S:List RT)(tv pl id:Int):Nat->Bool
 |0=>false
 |i+1=>thB S tv pl id i||mtR tv pl id (S.getD i rt0)
theorem yu7{S:List RT}{tv pl id:Int}{j:Nat}(h:mtR tv pl id (S.getD j rt0)=true):∀i,j<i->thB S tv pl id i=true
 |0,hj=>by omega
 |i+1,hj=>by
  unfold thB;by_cases e:j=i
  ·subst e;rw[h,Bool.or_true]
  ·rw[yu7 h i (by omega),Bool.true_or]
theorem yf1{id tv pl n fine:Int}{zs os vs:List Int}{ko kv:Nat}{R:List RT}{L:List Int}(h:rqB id tv pl n fine zs os vs ko kv R L=true):
 0<=pl/\zc3 n zs os vs ko kv fine R L=0/\zc3 n zs os vs ko kv fine (rqR id tv pl n fine zs os vs ko kv R L) L=0/\rqL id tv pl n fine zs os vs ko kv R L=L∧
 zn9 n zs os vs ko kv fine (rqR id tv pl n fine zs os vs ko kv R L) L=zn9 n zs os vs ko kv fine R L+rqD id tv pl n fine zs os vs ko kv R L∧
 zf9 n zs os vs ko kv fine (rqR id tv pl n fine zs os vs ko kv R L) L=zf9 n zs os vs ko kv fine R L∧
 thB (rqR id tv pl n fine zs os vs ko kv R L) tv pl id (rqR id tv pl n fine zs os vs ko kv R L).length=true:=by
 obtain⟨h1,h2,h3,h4⟩:=z61 h;have h3:=zd5 h3;have e1:rqR id tv pl n fine zs os vs ko kv R L=rlN R id tv pl.toNat:=by unfold rqR;rw[h];rfl
 have e2:rqL id tv pl n fine zs os vs ko kv R L=L:=by unfold rqL;rw[h];rfl
 have e3:rqD id tv pl n fine zs os vs ko kv R L=zf8 n zs os vs ko kv (rlN R id tv pl.toNat) (fine*L.length) (rlN R id tv pl.toNat).length - zf8 n zs os vs ko kv R (fine*L.length) R.length:=by unfold rqD;rw[h];rfl
 obtain⟨_,r1,o1,_⟩:=zc2 h1;obtain⟨_,r2,o2,_⟩:=zc2 h4;obtain⟨hp,hok⟩:=zi8.1 r1;rw[e1,e2];refine⟨h3.1,h1,h4,rfl,?_,?_,?_⟩
 ·rw[e3]
  unfold zn9;rw[if_pos h1,if_pos h4];omega
 ·unfold zf9
  rw[if_pos h1,if_pos h4];obtain⟨k,hk,hid⟩:∃k,k<R.length/\id∈(R.getD k rt0).ids:=by
   rw[zd2]at h2;obtain⟨r,hr,hm⟩:=List.mem_flatMap.1 h2;obtain⟨k,hk,e⟩:=List.mem_iff_getElem.1 hr;exact⟨k,hk,by rw[List.getD_eq_getElem?_getD,List.getElem?_eq_getElem hk];simpa[e]using hm⟩
  have hq:=z11 hp (fun r hr=>(hok r hr).1) o1.1 hk hid tv pl.toNat;exact yf2 o2.1 (by rw[zd2,zd2];exact hq)
 ·have hm:(⟨tv,none,insL (zc8 (lvR R id) tv).ids pl.toNat id,0⟩:RT)∈rlN R id tv pl.toNat:=zt8.2 (.inr ⟨rfl,by simp[insL]⟩)
  obtain⟨k,hk,e⟩:=List.mem_iff_getElem.1 hm;refine yu7 (j:=k) ?_ _ hk;rw[List.getD_eq_getElem?_getD,List.getElem?_eq_getElem hk];simp only[Option.getD_some,e];unfold mtR;have hle:pl.toNat<=(zc8 (lvR R id) tv).ids.length:=by omega
  have hl:=zk6 id hle;have ho:(insL (zc8 (lvR R id) tv).ids pl.toNat id).getD pl.toNat 0=id:=by
   unfold insL;rw[List.getD_eq_getElem?_getD,List.getElem?_append_right (by simp;omega)];simp[Nat.min_eq_left hle]
  simp only[ho,hl,decide_true,Bool.true_and,Bool.and_true,decide_eq_true_eq];omega
theorem ym8{n fine:Int}{zs os vs:List Int}{ko kv:Nat}{L:List Int}{R:List RT}{q:QS}(hq:brQ n fine zs os vs ko kv R L=q)(h:q.f=true):rqD q.s.1 q.s.2.1 (q.s.2.2:Int) n fine zs os vs ko kv R L=q.v/\zn9 n zs os vs ko kv fine (dsN n fine zs os vs ko kv L R) L=zn9 n zs os vs ko kv fine R L+q.v:=by
 obtain⟨h1,h2,_,_⟩:=zB0 hq h;have h5:=(yf1 h1).2.2.2.2.1;rw[h2]at h5;have hv:rqD q.s.1 q.s.2.1 (q.s.2.2:Int) n fine zs os vs ko kv R L=q.v:=by
  have h9:=zF9 (ok:=mvB n fine zs os vs ko kv R L) (dl:=mvD n fine zs os vs ko kv R L) (sp3 R vs kv (zf9 n zs os vs ko kv fine R L) (zf9 n zs os vs ko kv fine R L).length);change(brQ n fine zs os vs ko kv R L).f=true->_/\_/\mvD n fine zs os vs ko kv R L (brQ n fine zs os vs ko kv R L).s=(brQ n fine zs os vs ko kv R L).v at h9;rw[hq]at h9;exact(h9 h).2.2
 exact⟨hv,by rw[h5,hv]⟩
theorem yx2{n fine:Int}{zs os vs:List Int}{ko kv:Nat}{L:List Int}(k:Nat):∀{R:List RT},dsC n fine zs os vs ko kv L k R<=k/\zn9 n zs os vs ko kv fine (dsR n fine zs os vs ko kv L k R) L+(dsC n fine zs os vs ko kv L k R:Int)<=zn9 n zs os vs ko kv fine R L/\(dsC n fine zs os vs ko kv L k R=k∨(brQ n fine zs os vs ko kv (dsR n fine zs os vs ko kv L k R) L).f=false):=by
 induction k with
 |zero=>intro R;exact⟨Nat.le_refl _,by rw[yr7,ys9];simp,.inl rfl⟩
 |succ k ih=>
  intro R;cases hf:(brQ n fine zs os vs ko kv R L).f
  ·rw[(zm4 hf (k+1)).1,(zm4 hf (k+1)).2]
   exact⟨by omega,by simp,.inr hf⟩
  ·rw[(zm6 hf k).1,(zm6 hf k).2]
   obtain⟨h1,h2,h3⟩:=ih (R:=dsN n fine zs os vs ko kv L R);have hc:=(ym8 rfl hf).2;have hv:=(yo6 (n:=n) (fine:=fine) (zs:=zs) (os:=os) (vs:=vs) (ko:=ko) (kv:=kv) (L:=L) (R:=R) rfl).2 hf;refine⟨by omega,?_,?_⟩
   ·rw[hc]at h2
    have:((dsC n fine zs os vs ko kv L k (dsN n fine zs os vs ko kv L R)+1:Nat):Int)=(dsC n fine zs os vs ko kv L k (dsN n fine zs os vs ko kv L R):Int)+1:=by omega
    rw[this];omega
   ·rcases h3 with h3|h3
    ·exact .inl (by omega)
    ·exact .inr h3
theorem yx9{st n fine:Int}{zs os vs:List Int}{ko kv:Nat}{R:List RT}{L:List Int}{q:QS}(hq:brQ n fine zs os vs ko kv R L=q)(h:dcB st n fine zs os vs ko kv R L=true):
 dcL st n fine zs os vs ko kv R L=L/\zc3 n zs os vs ko kv fine R L=0/\zc3 n zs os vs ko kv fine (dcR st n fine zs os vs ko kv R L) L=0/\0<=dcN st n fine zs os vs ko kv R L/\(dcN st n fine zs os vs ko kv R L<=st/\st<=60)∧
 zn9 n zs os vs ko kv fine (dcR st n fine zs os vs ko kv R L) L<=zn9 n zs os vs ko kv fine R L - dcN st n fine zs os vs ko kv R L∧
 (dcN st n fine zs os vs ko kv R L=st∨(brQ n fine zs os vs ko kv (dcR st n fine zs os vs ko kv R L) L).v=0)∧
 (q.v≠0∨dcN st n fine zs os vs ko kv R L=0)/\(0<dcN st n fine zs os vs ko kv R L∨st=0∨q.v=0)∧
 (q.v≠0->rqB q.s.1 q.s.2.1 (q.s.2.2:Int) n fine zs os vs ko kv R L=true/\rqD q.s.1 q.s.2.1 (q.s.2.2:Int) n fine zs os vs ko kv R L=q.v/\rqL q.s.1 q.s.2.1 (q.s.2.2:Int) n fine zs os vs ko kv R L=L∧
   zn9 n zs os vs ko kv fine (rqR q.s.1 q.s.2.1 (q.s.2.2:Int) n fine zs os vs ko kv R L) L=zn9 n zs os vs ko kv fine R L+q.v/\zc3 n zs os vs ko kv fine (rqR q.s.1 q.s.2.1 (q.s.2.2:Int) n fine zs os vs ko kv R L) L=0):=by
 have hB:=h;unfold dcB at hB;rw[Bool.and_eq_true,decide_eq_true_eq]at hB;have hin:=hB.2;unfold inB at hin;simp only[decide_eq_true_eq]at hin;obtain⟨t1,t2,t3⟩:=yx2 (n:=n) (fine:=fine) (zs:=zs) (os:=os) (vs:=vs) (ko:=ko) (kv:=kv) (L:=L) st.toNat (R:=R);have hp:=yl9 (L:=L) st.toNat hB.1;have hvv:=yo6 hq;have h0:q.v≠0->q.f=true:=fun hv=>by
  cases hf:q.f
  ·exact absurd (hvv.1 hf) hv
  ·rfl
 unfold dcL dcR dcN;rw[h];simp only[cond_true];refine⟨trivial,hB.1,hp,by omega,⟨by omega,hin.2⟩,by omega,?_,?_,?_,fun hv=> ?_⟩
 ·rcases t3 with t3|t3
  ·exact .inl (by omega)
  ·exact .inr ((yo6 rfl).1 t3)
 ·cases hf:q.f
  ·right
   rw[(zm4 (by rw[hq];exact hf) _).2];rfl
  ·left
   have:=hvv.2 hf;omega
 ·cases hf:q.f
  ·exact .inr (.inr (hvv.1 hf))
  ·by_cases h9:st=0
   ·exact .inr (.inl h9)
   ·left
    obtain⟨k,hk⟩:∃k,st.toNat=k+1:=⟨st.toNat - 1,by omega⟩;rw[hk,(zm6 (by rw[hq];exact hf) k).2];omega
 ·have hf:=h0 hv
  obtain⟨h1,h2,h3,_⟩:=zB0 hq hf;obtain⟨h4,_⟩:=ym8 hq hf;have h5:=yf1 h1;exact⟨h1,h4,h3,by rw[h5.2.2.2.2.1,h4],h5.2.2.1⟩
theorem yf3{R S:List RT}(h:S.map RT.key=R.map RT.key)(hp:R.Pairwise (fun a b=>a.v<b.v)):S.Pairwise (fun a b=>a.v<b.v):=y02 h hp
structure MX(w2 W:World)(kx ky:Nat)(xx:Array Value)(tv:Int)(sl:Value)(yl:List Int):Prop where
 b:Below w2.heap.size w2 W
 x:W.heap[kx]? =some (.cells xx 43 (0,0))
 y:W.heap[ky]? =some (.cells #[.int .i64 tv,sl] 43 (0,0))
 o:W.ownsRow w2.heap.size 2 1 sl yl.length (yl.map (Value.int .i64))
 kl:w2.heap.size<=kx/\w2.heap.size<=ky/\kx≠ky
theorem MX.below{w2 W W':World}{kx ky:Nat}{xx:Array Value}{tv:Int}{sl:Value}{yl:List Int}(h:MX w2 W kx ky xx tv sl yl)(hb:Below W.heap.size W W'):MX w2 W' kx ky xx tv sl yl:=
 ⟨h.b.trans (hb.mono h.b.size),za1 hb (za3 h.x) h.x,za1 hb (za3 h.y) h.y,zc0 h.o hb,h.kl⟩
theorem MX.grow{w2 W W':World}{kx ky:Nat}{xx:Array Value}{tv:Int}{sl sl':Value}{yl yl':List Int}(h:MX w2 W kx ky xx tv sl yl)(hg:W.grownBy W' sl.ownBlock)(ho:W'.ownsRow w2.heap.size 2 1 sl' yl'.length (yl'.map (Value.int .i64))):
 W'.heap[ky]? =some (.cells #[.int .i64 tv,sl] 43 (0,0))/\W'.heap[kx]? =some (.cells xx 43 (0,0))/\MX w2 (W'.setCell ⟨ky,1,none⟩ sl') kx ky xx tv sl' yl':=by
 have hy:=za5 hg h.y (fun e=>zf0 h.o h.y (by decide) e.symm);have hx:=za5 hg h.x (fun e=>zf0 h.o h.x (by decide) e.symm);have s1:=heap_setCell_same W' ky 1 _ _ sl' hy;simp only[List.setIfInBounds_toArray,List.set_cons_zero,List.set_cons_succ]at s1;have hb:=h.b.grown hg h.b.size (fun j e=>(h.o.lt j e).1);exact⟨hy,hx,hb.setCell h.kl.2.1 _,zb1 hx h.kl.2.2,s1,yb0 ho hy,h.kl⟩
def y12(w:World)(ib f:Bool)(T:List RT)(L:List Int)(e:Ending)(w':World):Prop:=Below w.heap.size w w'/\((ib=false/\e=.returned (.tuple #[.agg #[.slice none 0 0,.slice none 0 0],.bool false]))∨(ib=true/\∃ra rn rc gl lc S,e=.returned (.tuple #[.agg #[.slice ra rn rc,.slice (some ⟨gl,0,none⟩) L.length lc],.bool f])/\S.length=rn/\S.map RT.key=T.map RT.key/\PO w' w.heap.size (.slice ra rn rc) S (.slice (some ⟨gl,0,none⟩) L.length lc) L))
theorem yw1{R:List RT}(hnd:(za7 R R.length).Nodup){j k:Nat}(hj:j<R.length)(hk:k<R.length)(hjk:j≠k){x:Int}(h1:x∈(R.getD j rt0).ids)(h2:x∈(R.getD k rt0).ids):False:=by
 rw[zd2]at hnd;have hs:=z58 hk;rw[hs,List.flatMap_append,List.flatMap_cons,List.nodup_append]at hnd;have hgj:R.getD j rt0=R[j]:=by simp[List.getD,hj]
 rcases Nat.lt_or_gt_of_ne hjk with h|h
 ·have hm:R.getD j rt0∈R.take k:=by rw[hgj];exact List.mem_take_iff_getElem.2 ⟨j,by omega,rfl⟩
  exact hnd.2.2 x (List.mem_flatMap.2 ⟨_,hm,h1⟩) x (List.mem_append_left _ h2) rfl
 ·have hm:R.getD j rt0∈R.drop (k+1):=by rw[hgj];exact List.mem_drop_iff_getElem.2 ⟨j - (k+1),by omega,by simp[show k+1+(j - (k+1))=j by omega]⟩
  exact(List.nodup_append.1 hnd.2.1).2.2 x h2 x (List.mem_flatMap.2 ⟨_,hm,h1⟩) rfl
set_option maxRecDepth 10000 in
set_option maxHeartbeats 8000000 in
theorem zZ3(id tv pl n fine:Int)(a ao av ra:Option Addr)(zl cap ko co kv cv nr rc bl ol ln lc:Nat)(zs os vs L:List Int)(R:List RT)(w:World)(hA:za0 w a zs)(hO:za0 w ao os)(hV:za0 w av vs)(hlz:zs.length=zl)(hlo:os.length=ko*6)(hlv:vs.length=kv*5)(hko:ko<=9223372036854775807)(hkv:kv<=9223372036854775807)(hP:zd4 w ra (some ⟨bl,ol,none⟩) nr ln R L)(hpl:zc3 n zs os vs ko kv fine R L=0)(k:Nat)(hk:k<R.length)(hid:id∈(R.getD k rt0).ids):
 Calls Tryz.prog 92 #[.agg #[.int .i64 n,.slice a zl cap,.slice ao ko co,.slice av kv cv,.int .i64 fine],.agg #[.slice ra nr rc,.slice (some ⟨bl,ol,none⟩) ln lc],.int .i64 id,.int .i64 tv,.int .i64 pl] w (y12 w (inB pl 0 ((zc8 (lvR R id) tv).ids.length:Int)) (decide (zc3 n zs os vs ko kv fine (rlN R id tv pl.toNat) L=0)) (rlN R id tv pl.toNat) L):=by
 obtain⟨hc,hr,ho1,hl1,hn1⟩:=zc2 hpl;obtain⟨hp,hok⟩:=zi8.1 hr;have hps:=ze7 hpl;have HPW:Hid _:=hp;have HNE:Hid (∀r∈R,r.ids≠[]):=fun r hr=>(hok r hr).1;have HND:Hid ((za7 R R.length).Nodup):=ho1.1;have HIV:Hid (LvI (zm2 (za7 R R.length)) [] L.length 0 R L):=yp8 hpl rfl (fun i hi=>by simp at hi);have HPL:Hid _:=hpl;have HID:Hid _:=hid;have HA:Hid (za0 w a zs):=hA;have HO:Hid (za0 w ao os):=hO;have HV:Hid (za0 w av vs):=hV;have HLZ:Hid _:=hlz;have HLO:Hid _:=hlo;have HLV:Hid _:=hlv;have HP:Hid (zd4 w ra (some ⟨bl,ol,none⟩) nr ln R L):=hP;have HN:Hid _:=hP.1;have HM:Hid _:=hP.2.1;have hr12:=hps.1;have hl12:=hps.2.1;have hkn:k<nr:=by rw[<-HN.out];exact hk
 have hnr:nr<=12:=by rw[<-HN.out];exact hr12
 clear hA hO hV hlz hlo hlv hP hpl hc hr ho1 hl1 hn1 hp hok hps hid;have Q0:Hid (GQ w ((((w.alloc (.cells #[.int .i64 n,.slice a zl cap,.slice ao ko co,.slice av kv cv,.int .i64 fine] 30)).alloc (.cells #[.slice ra nr rc,.slice (some ⟨bl,ol,none⟩) ln lc] 33)).alloc (.cells #[.slice none 0 0,.slice none 0 0] 33)).alloc (.cells #[.slice ra nr rc,.slice (some ⟨bl,ol,none⟩) ln lc] 33)) #[.int .i64 n,.slice a zl cap,.slice ao ko co,.slice av kv cv,.int .i64 fine] #[.slice ra nr rc,.slice (some ⟨bl,ol,none⟩) ln lc]):=by
  refine GQ.below (W:=((w.alloc (.cells #[.int .i64 n,.slice a zl cap,.slice ao ko co,.slice av kv cv,.int .i64 fine] 30)).alloc (.cells #[.slice ra nr rc,.slice (some ⟨bl,ol,none⟩) ln lc] 33)).alloc (.cells #[.slice none 0 0,.slice none 0 0] 33)) ?_ ((Below.refl _ _).alloc (Nat.le_refl _) _);refine⟨(((Below.refl _ _).alloc (Nat.le_refl _) _).alloc (by simp) _).alloc (by simp;omega) _,?_,?_,?_⟩
  ·exact(heap_alloc_old _ _ (by simp;omega)).trans (heap_alloc2_old _ _ _)
  ·exact(heap_alloc_old _ _ (by simp)).trans (heap_alloc2_new _ _ _)
  ·have:=heap_alloc_new ((w.alloc (.cells #[.int .i64 n,.slice a zl cap,.slice ao ko co,.slice av kv cv,.int .i64 fine] 30)).alloc (.cells #[.slice ra nr rc,.slice (some ⟨bl,ol,none⟩) ln lc] 33)) (.cells #[.slice none 0 0,.slice none 0 0] 33)
   simpa using this
 have N0:Hid (((((w.alloc (.cells #[.int .i64 n,.slice a zl cap,.slice ao ko co,.slice av kv cv,.int .i64 fine] 30)).alloc (.cells #[.slice ra nr rc,.slice (some ⟨bl,ol,none⟩) ln lc] 33)).alloc (.cells #[.slice none 0 0,.slice none 0 0] 33)).alloc (.cells #[.slice ra nr rc,.slice (some ⟨bl,ol,none⟩) ln lc] 33)).heap[w.heap.size+3]? =some (.cells #[.slice ra nr rc,.slice (some ⟨bl,ol,none⟩) ln lc] 33 (0,0))):=by
  have:=heap_alloc_new (((w.alloc (.cells #[.int .i64 n,.slice a zl cap,.slice ao ko co,.slice av kv cv,.int .i64 fine] 30)).alloc (.cells #[.slice ra nr rc,.slice (some ⟨bl,ol,none⟩) ln lc] 33)).alloc (.cells #[.slice none 0 0,.slice none 0 0] 33)) (.cells #[.slice ra nr rc,.slice (some ⟨bl,ol,none⟩) ln lc] 33);show _=_;simpa using this
 have e0:(((w.alloc (.cells #[.int .i64 n,.slice a zl cap,.slice ao ko co,.slice av kv cv,.int .i64 fine] 30)).alloc (.cells #[.slice ra nr rc,.slice (some ⟨bl,ol,none⟩) ln lc] 33)).alloc (.cells #[.slice none 0 0,.slice none 0 0] 33)).heap.size=w.heap.size+3:=by simp
 have P0:Hid ((((w.alloc (.cells #[.int .i64 n,.slice a zl cap,.slice ao ko co,.slice av kv cv,.int .i64 fine] 30)).alloc (.cells #[.slice ra nr rc,.slice (some ⟨bl,ol,none⟩) ln lc] 33)).alloc (.cells #[.slice none 0 0,.slice none 0 0] 33)).heap[w.heap.size+1]? =some (.cells #[.slice ra nr rc,.slice (some ⟨bl,ol,none⟩) ln lc] 33 (0,0))):=(heap_alloc_old _ _ (by simp)).trans (heap_alloc2_new _ _ _);obtain⟨p0,p1⟩:=za2 P0.out;go_enter Tryz.func92,Tryz.ntmps92
 go_wp2_with fail
 clear p0 p1 P0
 try rw[e0]
 clear e0;generalize(((w.alloc (.cells #[.int .i64 n,.slice a zl cap,.slice ao ko co,.slice av kv cv,.int .i64 fine] 30)).alloc (.cells #[.slice ra nr rc,.slice (some ⟨bl,ol,none⟩) ln lc] 33)).alloc (.cells #[.slice none 0 0,.slice none 0 0] 33)).alloc (.cells #[.slice ra nr rc,.slice (some ⟨bl,ol,none⟩) ln lc] 33)=W1 at*;obtain⟨kb,HKB⟩:=nmd (w.heap.size+3);rw[HKB.out]at N0
 try rw[HKB.out]
 try rw[show w.heap.size+1+1+1=kb from HKB.out]
 go_loopw[13] (fun t wr=>∃i:Nat,i<=nr/\t=.int .i64 i/\GQ w wr #[.int .i64 n,.slice a zl cap,.slice ao ko co,.slice av kv cv,.int .i64 fine] #[.slice ra nr rc,.slice (some ⟨bl,ol,none⟩) ln lc]/\((i<=k/\wr.heap[kb]? =some (.cells #[.slice ra nr rc,.slice (some ⟨bl,ol,none⟩) ln lc] 33 (0,0)))∨(k<i/\∃(ra1:Option Addr) (n1 rc1 gl1 lc1:Nat) (R1:List RT),wr.heap[kb]? =some (.cells #[.slice ra1 n1 rc1,.slice (some ⟨gl1,0,none⟩) ln lc1] 33 (0,0))/\PO wr (w.heap.size+4) (.slice ra1 n1 rc1) R1 (.slice (some ⟨gl1,0,none⟩) ln lc1) L/\R1.length=n1/\R1.map RT.key=(lvR R id).map RT.key))) (fun t _=>nr - (intOf t).toNat)
 case atStart=>exact⟨0,Nat.zero_le _,rfl,Q0.out,.inl ⟨Nat.zero_le _,N0.out⟩⟩
 case round=>
  clear Q0 N0;obtain⟨i,hi,rfl,hQ,hN⟩:=hrel;have Q1:Hid _:=hQ;have NN:Hid _:=hN;clear hQ hN;obtain⟨p0,p1⟩:=za2 Q1.p;by_cases hlt:i<nr
  ·have hltI:(i:Int)<(nr:Int):=by omega
   obtain⟨b,off,e,r1,r2,r3⟩:=(HP.2.2.1.below Q1.b) i (by rw[HN.out];exact hlt);subst e;have hsm:=HIV.sm _ (zj7 (show i<R.length by rw[HN.out];exact hlt));have L3:=z00 (R.getD i rt0).a (R.getD i rt0).ids.length (R.getD i rt0).c id (R.getD i rt0).ids wr r3 (Nat.le_refl _) (by omega);rw[zu1]at L3;by_cases hik:i=k
   ·subst hik
    rw[decide_eq_true HID.out]at L3;have NI:Hid (wr.heap[kb]? =some (.cells #[.slice (some ⟨b,off,none⟩) nr rc,.slice (some ⟨bl,ol,none⟩) ln lc] 33 (0,0))):=by
     rcases NN.out with⟨_,h9⟩|⟨h9,_⟩
     ·exact h9
     ·omega
    clear NN;obtain⟨br,orr,er,-⟩:=r3 0 (List.length_pos_iff.2 (HNE.out _ (zj7 hk)));have CUT0:∀W,Below wr.heap.size wr W->_:=fun W hW=>ya0 br orr (R.getD i rt0).c (R.getD i rt0).ids id W (by have:=r3.below hW;rw[er]at this;exact this) (by omega)
    have SET0:∀W (g cg:Nat),Below wr.heap.size wr W->za0 W (some ⟨g,0,none⟩) (cutP (R.getD i rt0).ids id)->Calls Tryz.prog 69 #[.agg #[.slice (some ⟨b,off,none⟩) nr rc,.slice (some ⟨bl,ol,none⟩) ln lc],.agg #[.int .i64 (R.getD i rt0).v,.slice (some ⟨g,0,none⟩) (cutP (R.getD i rt0).ids id).length cg]] W (NP W (lvR R id) L):=fun W g cg hW hX=>yb4 (some ⟨b,off,none⟩) nr rc bl ol ln lc g cg (cutP (R.getD i rt0).ids id).length i R L id W HIV.out (by omega) HM.out HN.out (HP.2.2.1.below (Q1.b.trans (hW.mono Q1.b.size))) (HP.2.2.2.1.below (Q1.b.trans (hW.mono Q1.b.size))) hk HID.out rfl hX
    rw[er]at r2 L3;clear r3 er hsm;obtain⟨rt,HRT⟩:=nmd (R.getD i rt0);rw[HRT.out]at r1 r2 L3 CUT0 SET0;obtain⟨cl,HCL⟩:=nmd ((cutP rt.ids id).length);obtain⟨rl,HRL⟩:=nmd rt.ids.length;obtain⟨rv,HRV⟩:=nmd rt.v;obtain⟨rcx,HRC⟩:=nmd rt.c;rw[HRL.out,HRC.out]at r2 L3;rw[HRV.out]at r1;rw[HRL.out,HRC.out,HCL.out]at CUT0;rw[HRV.out,HCL.out]at SET0;have CUT:Hid _:=CUT0;have SET:Hid _:=SET0;clear CUT0 SET0 HRT;have HCE:Hid (∀W,Below wr.heap.size wr W->(fun W=>W.cell? ⟨w.heap.size+1,0,none⟩=some (.slice (some ⟨b,off,none⟩) nr rc)/\W.cell? ⟨w.heap.size+1,1,none⟩=some (.slice (some ⟨bl,ol,none⟩) ln lc)/\W.cell? ⟨b,off+i*2,none⟩=some (.int .i64 rv)/\W.cell? ⟨b,off+i*2+1,none⟩=some (.slice (some ⟨br,orr,none⟩) rl rcx)) W):=fun W hW=>⟨keepL p0 hW,keepL p1 hW,keepL r1 hW,keepL r2 hW⟩;go_upto_region 6 with(go_at_call 57;refine L3.mono ?_;rintro e w' ⟨rfl,hw'⟩;subst w')
    go_wp2_with fail
    refine ze2 (S:=(fun W=>W.cell? ⟨w.heap.size+1,0,none⟩=some (.slice (some ⟨b,off,none⟩) nr rc)/\W.cell? ⟨w.heap.size+1,1,none⟩=some (.slice (some ⟨bl,ol,none⟩) ln lc)/\W.cell? ⟨b,off+i*2,none⟩=some (.int .i64 rv)/\W.cell? ⟨b,off+i*2+1,none⟩=some (.slice (some ⟨br,orr,none⟩) rl rcx))) 17 (by kernel_rfl) ?_ (fun hHeld=> ?_)
    ·exact HCE.out _ (Below.refl _ _).drew
    have BD:Hid (Below wr.heap.size wr wr.drew):=(Below.refl _ _).drew;generalize wr.drew=wd at*;refine tkZ 0 hHeld ?_;refine tkZ 1 hHeld ?_;refine tkZ 2 hHeld ?_;refine tkZ 3 hHeld ?_;refine tkZ 4 hHeld ?_;refine tkZ 5 hHeld ?_;refine tkZ 6 hHeld ?_;refine tkZ 7 hHeld ?_;refine tkZ 8 hHeld ?_;refine tkZ 9 hHeld ?_;refine tkZ 10 hHeld ?_;refine tkZ 11 hHeld ?_;refine tkZ 12 hHeld ?_;refine tkZ 13 hHeld ?_;refine zb7 (rs:=[14]) (by kernel_rfl) (by simp) ?_;refine zb2.cons rfl (fun K hK=> ?_) zb2.nil;go_simp;refine(CUT.out wd BD.out).mono ?_;rintro e w6 ⟨g,cg,rfl,hb,ho⟩;have B6:Hid _:=BD.trans (hb.mono BD.size);have X6:Hid (za0 w6 (some ⟨g,0,none⟩) (cutP rt.ids id)):=zq6 ho;clear hb ho
    try rw[HCL.out]
    (try go_wp2_with fail)
    refine hK.out _ _ ?_ (fun hHeld=> ?_)
    ·exact HCE.out _ B6.out
    clear hK K
    (try simp only[Act.put,List.setIfInBounds_toArray,List.set_cons_zero,List.set_cons_succ])
    refine tkZ 15 hHeld ?_;refine zb7 (rs:=[16]) (by kernel_rfl) (by simp) ?_;refine zb2.cons rfl (fun K hK=> ?_) zb2.nil;go_simp;refine(SET.out w6 g cg B6.out X6.out).mono ?_;rintro e w7 ⟨ra7,n7,rc7,g7,lc7,R7,rfl,hb,hn7,hk7,ho7⟩;rw[HM.out]at ho7⊢;have hb7:=B6.trans (hb.mono B6.size);have hx:=za1 hb7 (za3 NI.out) NI.out;have s1:=heap_setCell_same w7 kb 0 _ _ (Value.slice ra7 n7 rc7) hx;simp only[List.setIfInBounds_toArray,List.set_cons_zero]at s1;have s2:=heap_setCell_same _ kb 1 _ _ (Value.slice (some ⟨g7,0,none⟩) ln lc7) s1;simp only[List.setIfInBounds_toArray,List.set_cons_zero,List.set_cons_succ]at s2;have M7:Hid (∃(ra1:Option Addr) (n1 rc1 gl1 lc1:Nat) (R1:List RT),((w7.setCell ⟨kb,0,none⟩ (.slice ra7 n7 rc7)).setCell ⟨kb,1,none⟩ (.slice (some ⟨g7,0,none⟩) ln lc7)).heap[kb]? =some (.cells #[.slice ra1 n1 rc1,.slice (some ⟨gl1,0,none⟩) ln lc1] 33 (0,0))/\PO ((w7.setCell ⟨kb,0,none⟩ (.slice ra7 n7 rc7)).setCell ⟨kb,1,none⟩ (.slice (some ⟨g7,0,none⟩) ln lc7)) (w.heap.size+4) (.slice ra1 n1 rc1) R1 (.slice (some ⟨gl1,0,none⟩) ln lc1) L/\R1.length=n1/\R1.map RT.key=(lvR R id).map RT.key):=⟨ra7,n7,rc7,g7,lc7,R7,s2,((ho7.base (by have h1:=za3 (za1 B6.out (za3 NI.out) NI.out);have h2:=HKB.out;omega)).box hx).box s1,hn7,hk7⟩;have Q7:Hid (GQ w ((w7.setCell ⟨kb,0,none⟩ (.slice ra7 n7 rc7)).setCell ⟨kb,1,none⟩ (.slice (some ⟨g7,0,none⟩) ln lc7)) #[.int .i64 n,.slice a zl cap,.slice ao ko co,.slice av kv cv,.int .i64 fine] #[.slice (some ⟨b,off,none⟩) nr rc,.slice (some ⟨bl,ol,none⟩) ln lc]):=((Q1.below hb7).set (by have:=HKB.out;omega)).set (by have:=HKB.out;omega);have B7:Hid _:=hb7;have F7:=fun i=>frozen_of_row _ _ i _ _ hx;obtain⟨f0,f1⟩:=za2 hx;clear hb hn7 hk7 ho7 hb7 hx s1 s2
    (try go_wp2_with fail)
    refine hK.out _ _ ?_ (fun hHeld=> ?_)
    ·exact HCE.out _ B7.out
    clear hK K
    (try simp only[Act.put,List.setIfInBounds_toArray,List.set_cons_zero,List.set_cons_succ])
    refine zb7 (rs:=[17]) (by kernel_rfl) (by simp) ?_;refine zb2.last rfl (fun K hK=> ?_);go_simp;refine hK.out _ _ ?_;clear hK K;clear F7 f0 f1;generalize((w7.setCell ⟨kb,0,none⟩ (.slice ra7 n7 rc7)).setCell ⟨kb,1,none⟩ (.slice (some ⟨g7,0,none⟩) ln lc7))=w8 at*;refine zh7 (by kernel_rfl) ?_ _;clear hHeld CUT SET HCE L3 r1 r2;go_wp2;go_roundw
    case rel=>exact⟨i+1,by omega,by first|rfl|go_num,Q7.out,.inr ⟨by omega,M7.out⟩⟩
    case measure=>simp[intOf];omega
   ·have hno:id∉(R.getD i rt0).ids:=fun h9=>yw1 HND.out (by rw[HN.out];exact hlt) hk hik h9 HID.out
    rw[decide_eq_false hno]at L3;clear hno r3 hsm;obtain⟨rt,HRT⟩:=nmd (R.getD i rt0);rw[HRT.out]at r1 r2 L3;clear HRT;obtain⟨rl,HRL⟩:=nmd rt.ids.length;rw[HRL.out]at r2 L3
    go_wp2_with(go_at_call 57;refine L3.mono ?_;rintro e w' ⟨rfl,hw'⟩;subst w')
    go_roundw
    case rel=>
     refine⟨i+1,by omega,by first|rfl|go_num,Q1.out,?_⟩;rcases NN.out with⟨h1,h2⟩|⟨h1,h2⟩
     ·exact .inl ⟨by omega,h2⟩
     ·exact .inr ⟨by omega,h2⟩
    case measure=>simp[intOf];omega
  ·have hltI:¬((i:Int)<(nr:Int)):=by omega
   obtain⟨ra1,n1,rc1,gl1,lc1,R1,hx,hpo,hn1,hk1⟩:∃(ra1:Option Addr) (n1 rc1 gl1 lc1:Nat) (R1:List RT),wr.heap[kb]? =some (.cells #[.slice ra1 n1 rc1,.slice (some ⟨gl1,0,none⟩) ln lc1] 33 (0,0))/\PO wr (w.heap.size+4) (.slice ra1 n1 rc1) R1 (.slice (some ⟨gl1,0,none⟩) ln lc1) L/\R1.length=n1/\R1.map RT.key=(lvR R id).map RT.key:=by
    rcases NN.out with⟨h9,_⟩|⟨_,h9⟩
    ·omega
    ·exact h9
   have N1:Hid _:=hx;have O1:Hid _:=hpo;have HN1:Hid _:=hn1;have HK1:Hid _:=hk1;clear NN hx hpo hn1 hk1 p0 p1;obtain⟨p0,p1⟩:=za2 N1.out;have LR:=z97 ra1 (some ⟨gl1,0,none⟩) rc1 ln lc1 R1 tv wr (zP7 O1.out HN1.out) (by have h1:=congrArg List.length HK1.out;have h2:=zS4 R id;simp only[List.length_map]at h1;omega);rw[HN1.out]at LR;have HKX:Hid _:=zv5 HK1.out tv;have HIN1:Hid (zR6 R1):=fun r hr=>by
    have h1:=z93 HK1.out (b:=12) (fun r hr=>⟨yu4 hr,yg6 HIV.sm r hr⟩) r hr;exact⟨h1.1,h1.2,(O1.ints r hr).2⟩
   obtain⟨hxi,hx12,hxc,hxf⟩:=zF8 (zP7 O1.out HN1.out) HIN1.out tv;have HXI:Hid (za0 wr (zc8 R1 tv).a (zc8 R1 tv).ids):=hxi;have HRN:Hid (rlN R id tv pl.toNat=wrL (lvR R id) ⟨tv,none,insL (zc8 R1 tv).ids pl.toNat id,0⟩):=by show _=_;unfold rlN;rw[HKX.out]
   rw[<-HKX.out];have HXL0:Hid ((zc8 R1 tv).ids=(zc8 R1 tv).ids):=rfl;obtain⟨X,HX⟩:=nmd ((zc8 R1 tv).ids);obtain⟨xa,HXA⟩:=nmd ((zc8 R1 tv).a);obtain⟨xc,HXC⟩:=nmd ((zc8 R1 tv).c);obtain⟨xl,HXL⟩:=nmd X.length;rw[HX.out,HXA.out]at HXI hxf;rw[HX.out]at hx12 hxc HRN LR⊢;rw[HXA.out,HXC.out,HXL.out]at LR;rw[HXC.out]at hxc;rw[HXL.out]at hx12 hxc hxf⊢;have HXE:Hid _:=HKX.symm.trans HX.out;clear hxi HXL0 HX HXA HXC HKX;obtain⟨ib,HIB⟩:=nmd (inB pl 0 (xl:Int));rw[HIB.out];obtain⟨q0,q1⟩:=za2 Q1.p
   go_wp2_with fail
   refine LR.mono ?_;rintro e w2 ⟨rfl,hb⟩;have Q2:Hid _:=Q1.below hb;have N2:Hid _:=za1 hb (za3 N1.out) N1.out;have O2:Hid _:=O1.below hb;have X2:Hid (za0 w2 xa X):=HXI.below hb;clear hb LR Q1 N1 O1 HXI p0 p1 q0 q1;have hAX:Below w2.heap.size w2 (w2.alloc (.cells #[.int .i64 tv,.slice xa xl xc] 43)):=(Below.refl _ _).alloc (Nat.le_refl _) _;have BX3:Hid _:=hAX;have XR3:Hid ((w2.alloc (.cells #[.int .i64 tv,.slice xa xl xc] 43)).heap[w2.heap.size]? =some (.cells #[.int .i64 tv,.slice xa xl xc] 43 (0,0))):=heap_alloc_new _ _;clear hAX;obtain⟨x0,x1⟩:=za2 XR3.out;cases ib
   ·have Q3:Hid _:=Q2.below BX3.out
    obtain⟨a0,a1⟩:=za2 Q3.o;have af:=fun i=>frozen_of_row _ _ i _ _ Q3.o;have BE:Hid (Below w.heap.size w (((w2.alloc (.cells #[.int .i64 tv,.slice xa xl xc] 43)).setCell ⟨w.heap.size+2,0,none⟩ (.slice none 0 0)).setCell ⟨w.heap.size+2,1,none⟩ (.slice none 0 0))):=(Q3.b.setCell (by simp) _).setCell (by simp) _
    go_wp2_with(go_at_call 47;refine(zc6 _ _ _ _).mono ?_;rintro e w' ⟨rfl,hw'⟩;subst w';rw[HIB.out])
    refine bodyPost_ret (v:=.tuple #[.agg #[.slice none 0 0,.slice none 0 0],.bool false]) (by simp[results,Tryz.results92,go_sem,a0,a1]) rfl ?_;exact⟨BE.out,.inl ⟨by rw[HXE.out,HXL.out];exact HIB.out,rfl⟩⟩
   ·have h1:=zd5 HIB.out
    obtain⟨j,rfl⟩:∃j:Nat,pl=j:=⟨pl.toNat,by omega⟩;simp only[Int.toNat_natCast]at HRN⊢;have hj:j<=xl:=by omega
    obtain⟨kx,HKXE⟩:=nmd w2.heap.size;go_upto_region 10 with(go_at_call 47;refine(zc6 _ _ _ _).mono ?_;rintro e w' ⟨rfl,hw'⟩;subst w';rw[HIB.out]);obtain⟨HXF,-⟩:Hid ((xa=none/\xl=0)∨∃b off,xa=some ⟨b,off,none⟩)/\True:=⟨hxf,trivial⟩;clear hxf x0 x1 h1;have HTL:Hid ((X.take j).length=j):=by show _=_;rw[List.length_take,HXL.out];omega
    have B4:Hid (Below w2.heap.size w2 ((w2.alloc (.cells #[.int .i64 tv,.slice xa xl xc] 43)).alloc (.cells #[] 2))):=BX3.alloc BX3.size _;have XR4:Hid (((w2.alloc (.cells #[.int .i64 tv,.slice xa xl xc] 43)).alloc (.cells #[] 2)).heap[w2.heap.size]? =some (.cells #[.int .i64 tv,.slice xa xl xc] 43 (0,0))):=(heap_alloc_old _ _ (by simp)).trans XR3.out;have OE:Hid (((w2.alloc (.cells #[.int .i64 tv,.slice xa xl xc] 43)).alloc (.cells #[] 2)).ownsRow w2.heap.size 2 1 (.slice (some ⟨w2.heap.size+1,0,none⟩) 0 0) 0 (([]:List Int).map (Value.int .i64))):=by
     have:=World.ownsRow_made (w2.alloc (.cells #[.int .i64 tv,.slice xa xl xc] 43)) #[] 0 (base:=w2.heap.size) (e:=2) (size:=1) (by simp) (by unfold maxLen;omega) (by simp);show World.ownsRow _ _ _ _ _ _ _;simpa using this
    obtain⟨x0,x1⟩:=za2 XR4.out;have hc0:(0:Int)<=(j:Int):=by omega
    have hc1:(j:Int)<=(xc:Int):=by omega
    have hc2:(j:Int)<=(xl:Int):=by omega
    go_cut [15]from 59 to 67 (fun s15 wx=>∃(ky gy cy:Nat),s15=.pointer (some ⟨ky,0,none⟩)/\MX w2 wx w2.heap.size ky #[.int .i64 tv,.slice xa xl xc] tv (.slice (some ⟨gy,0,none⟩) j cy) (X.take j))
    case first=>
     have mk:∀(W:World) (gy cy:Nat),Below w2.heap.size w2 W->W.heap[w2.heap.size]? =some (.cells #[.int .i64 tv,.slice xa xl xc] 43 (0,0))->W.ownsRow w2.heap.size 2 1 (.slice (some ⟨gy,0,none⟩) j cy) j ((X.take j).map (Value.int .i64))->MX w2 (W.alloc (.cells #[.int .i64 tv,.slice (some ⟨gy,0,none⟩) j cy] 43)) w2.heap.size W.heap.size #[.int .i64 tv,.slice xa xl xc] tv (.slice (some ⟨gy,0,none⟩) j cy) (X.take j):=fun W gy cy hb hx ho=>by
      have hA:Below W.heap.size W (W.alloc (.cells #[.int .i64 tv,.slice (some ⟨gy,0,none⟩) j cy] 43)):=(Below.refl _ _).alloc (Nat.le_refl _) _;exact⟨hb.trans (hA.mono hb.size),za1 hA (za3 hx) hx,heap_alloc_new _ _,by rw[HTL.out];exact ho.alloc _,Nat.le_refl _,hb.size,by have:=za3 hx;omega⟩
     have MK:Hid _:=mk;clear mk;rcases HXF.out with⟨e1,e2⟩|⟨bx,ox,e1⟩
     ·subst e1 e2
      have hj0:j=0:=by omega
      subst hj0
      go_wp2_with(at_builtin
                  refine zD3 _ rfl (.tmp 61) (.tmp 65) rfl (w2.heap.size+1) 0 0 xc rfl rfl (Nat.le_refl _) ?_)
      go_meet;have h9:=MK.out _ _ _ B4.out XR4.out (by rw[List.take_zero];exact OE.out);rw[show((w2.alloc (.cells #[.int .i64 tv,.slice none 0 xc] 43)).alloc (.cells #[] 2)).heap.size=w2.heap.size+1+1 by simp]at h9;exact⟨_,_,_,rfl,h9⟩
     ·subst e1
      go_wp2_with(at_builtin
                  go_must(refine zd8 _ rfl (.tmp 61) (.tmp 65) rfl w2.heap.size _ 0 [] rfl OE.out bx ox j xc (X.take j) rfl HTL.out (zM9 (X2.below B4.out) j) (by omega) (by omega) B4.size ?_)
                  go_loud(
                   intro lv w5 hown hg hbk hnl;have hge:∀q,(Value.slice (some ⟨w2.heap.size+1,0,none⟩) 0 0).ownBlock=some q->w2.heap.size+1<=q:=fun q e=>by have:=zy0 e;omega
                   have B5:Hid _:=B4.grown hg B4.size (fun q e=>by have:=hge q e;omega);have XR5:Hid _:=za5 hg XR4.out (fun e=>by have:=hge _ e.symm;omega);obtain⟨gy,cy,e⟩:=zx0 hown (zp9 hnl ⟨_,_,_,rfl⟩);rw[Nat.zero_add]at e;subst e;have O5:Hid (w5.ownsRow w2.heap.size 2 1 (.slice (some ⟨gy,0,none⟩) j cy) j ((X.take j).map (Value.int .i64))):=by rw[Nat.zero_add,List.nil_append]at hown;exact hown)
                  clear hown hg hbk hnl hge)
      go_meet;exact⟨_,_,_,rfl,MK.out _ _ _ B5.out XR5.out O5.out⟩
    case rest=>
     obtain⟨ky,gy,cy,rfl,hM⟩:=hcut;have M5:Hid _:=hM;clear hM XR3 BX3 B4 XR4 OE x0 x1;have HTK:=HTL.out;obtain⟨y0,y1⟩:=za2 M5.y;have hyf:=fun i=>frozen_of_row _ _ i _ _ M5.y;have hk1:(wc.alloc (Obj.cells #[Value.int .i64 id] 2)).heap[wc.heap.size]? =some (.cells #[Value.int .i64 id] 2 (0,0)):=heap_alloc_new _ _;have MA:Hid (MX w2 (wc.alloc (Obj.cells #[Value.int .i64 id] 2)) w2.heap.size ky #[.int .i64 tv,.slice xa xl xc] tv (.slice (some ⟨gy,0,none⟩) j cy) (X.take j)):=M5.below ((Below.refl _ _).alloc (Nat.le_refl _) _)
     go_wp2_with(first
      |(at_builtin
        go_must(refine zA1 _ rfl _ _ rfl w2.heap.size (.slice (some ⟨gy,0,none⟩) j cy) j (X.take j) rfl (yf9 MA.o HTL.out) wc.heap.size 1 id rfl (cell_of_row _ _ 0 _ _ _ hk1) (by omega) MA.b.size ?_)
        go_loud(
         intro v' w6 ho hg hn;obtain⟨g1,cg1,rfl⟩:∃g cg,v'=.slice (some ⟨g,0,none⟩) (j+1) cg:=z36 ho (fun e=>by simpa using(hn.1 e).1) rfl;obtain⟨y6,-,hM6⟩:=MA.grow hg (z59 ho HTL.out rfl);have M6:Hid _:=hM6;obtain⟨z0,z1⟩:=za2 y6;have zf:=fun i=>frozen_of_row _ _ i _ _ y6)
        clear ho hg hn hM6))
     clear z0 z1 zf y6 y0 y1 hyf hk1 MA M5;generalize w6.setCell ⟨ky,1,none⟩ (.slice (some ⟨g1,0,none⟩) (j+1) cg1)=W6 at*;have HT1:Hid ((X.take j++[id]).length=j+1):=by show _=_;rw[List.length_append,HTL.out];rfl
     have HDL:Hid ((X.drop j).length=xl - j):=by show _=_;rw[List.length_drop,HXL.out]
     go_upto_region 12 with fail;go_cut [15]from 74 to 81 (fun s15 wx=>s15=.pointer (some ⟨ky,0,none⟩)/\∃(g2 cg2:Nat),MX w2 wx w2.heap.size ky #[.int .i64 tv,.slice xa xl xc] tv (.slice (some ⟨g2,0,none⟩) (xl+1) cg2) (insL X j id))
     case first=>
      rcases HXF.out with⟨e1,e2⟩|⟨bx,ox,e1⟩
      ·subst e1 e2
       have hj0:j=0:=by omega
       have hX0:X=[]:=List.eq_nil_of_length_eq_zero HXL.out;subst hj0 hX0
       go_wp2_with fail
       refine ze2 (S:=(fun W=>W.cell? ⟨ky,1,none⟩=some (.slice (some ⟨g1,0,none⟩) (0+1) cg1)/\W.cell? ⟨w2.heap.size,1,none⟩=some (.slice none 0 xc))) 8 (by kernel_rfl) ?_ (fun hHeld=> ?_)
       ·exact⟨(za2 (M6.below (Below.refl _ _).drew).y).2,(za2 (M6.below (Below.refl _ _).drew).x).2⟩
       have MD:Hid (MX w2 W6.drew w2.heap.size ky #[.int .i64 tv,.slice none 0 xc] tv (.slice (some ⟨g1,0,none⟩) (0+1) cg1) ([]++[id])):=M6.below (Below.refl _ _).drew;have hcap:0+1<=cg1:=zF6 (k:=0+1) MD.o;clear M6;generalize W6.drew=wd12 at*;refine tkZ 0 hHeld ?_;refine tkZ 1 hHeld ?_;refine tkZ 2 hHeld ?_;refine tkZ 3 hHeld ?_;refine tkZ 4 hHeld ?_;refine tkZ 5 hHeld ?_;refine zb7 (rs:=[6]) (by kernel_rfl) (by simp) ?_;refine zb2.cons rfl (fun K hK=> ?_) zb2.nil;refine z87 (w:=wd12) rfl (.tmp 75) (.tmp 79) rfl g1 (0+1) cg1 xc rfl rfl hcap ?_;rintro w9 rfl;have M9:Hid (MX w2 (w9.setCell ⟨ky,1,none⟩ (.slice (some ⟨g1,0,none⟩) (0+1) cg1)) w2.heap.size ky #[.int .i64 tv,.slice none 0 xc] tv (.slice (some ⟨g1,0,none⟩) (0+1) cg1) (insL [] 0 id)):=(MD.grow (zq3 _ _) MD.o).2.2;obtain⟨z0,z1⟩:=za2 MD.y;have zf:=fun i=>frozen_of_row _ _ i _ _ MD.y;refine hK.out _ _ ?_ (fun hHeld=> ?_)
       ·exact⟨(za2 MD.y).2,(za2 MD.x).2⟩
       clear hK K;change zi7 _ _ _ _ _ _ _ _ (Act.put _ (some 80) _) _;simp only[Act.put,List.setIfInBounds_toArray,List.set_cons_zero,List.set_cons_succ];refine tkZ 7 hHeld ?_;refine zb7 (rs:=[8]) (by kernel_rfl) (by simp) ?_;refine zb2.last rfl (fun K hK=> ?_);go_simp;refine hK.out _ _ ?_;clear hK K;refine zh7 (by kernel_rfl) ?_ _;clear hHeld
       (try go_wp2_with fail)
       go_meet;exact⟨rfl,_,_,M9.out⟩
      ·subst e1
       go_wp2_with fail
       refine ze2 (S:=(fun W=>W.cell? ⟨ky,1,none⟩=some (.slice (some ⟨g1,0,none⟩) (j+1) cg1)/\W.cell? ⟨w2.heap.size,1,none⟩=some (.slice (some ⟨bx,ox,none⟩) xl xc))) 8 (by kernel_rfl) ?_ (fun hHeld=> ?_)
       ·exact⟨(za2 (M6.below (Below.refl _ _).drew).y).2,(za2 (M6.below (Below.refl _ _).drew).x).2⟩
       have MD:Hid _:=M6.below (Below.refl _ _).drew;clear M6;generalize W6.drew=wd12 at*;refine tkZ 0 hHeld ?_;refine tkZ 1 hHeld ?_;refine tkZ 2 hHeld ?_;refine tkZ 3 hHeld ?_;refine tkZ 4 hHeld ?_;refine tkZ 5 hHeld ?_;refine zb7 (rs:=[6]) (by kernel_rfl) (by simp) ?_;refine zb2.cons rfl (fun K hK=> ?_) zb2.nil;refine zv9 rfl (.tmp 75) (.tmp 79) rfl w2.heap.size (.slice (some ⟨g1,0,none⟩) (j+1) cg1) (X.take j++[id]) (j+1) rfl (yf9 MD.o HT1.out) _ _ _ (X.drop j) rfl (zY8 _ _ _ _) (by have:=HDL.out;omega) (zW9 (X2.below MD.b) _ _ (by rw[HXL.out];omega)) (by omega) (by omega) MD.b.size ?_;intro v' w9 ho hg hn;generalize(if xc=j then some (⟨bx,ox,none⟩:Addr)else some ⟨bx,ox+j,none⟩)=adx at*;obtain⟨g2,cg2,rfl⟩:∃g cg,v'=.slice (some ⟨g,0,none⟩) (xl+1) cg:=z36 ho (fun e=>by simpa using(hn.1 e).1) (by omega);have ho2:=z59 ho HT1.out (by have:=HDL.out;omega);have hin:X.take j++[id]++X.drop j=insL X j id:=by simp[insL]
       rw[hin]at ho2;obtain⟨y9,x9,hM9⟩:=MD.grow hg ho2;have M9:Hid _:=hM9;have kS9:=And.intro (za2 y9).2 (za2 x9).2;obtain⟨z0,z1⟩:=za2 y9;have zf:=fun i=>frozen_of_row _ _ i _ _ y9;clear ho hg hn ho2 hin hM9 x9;refine hK.out _ _ ?_ (fun hHeld=> ?_)
       ·exact kS9
       clear hK K;change zi7 _ _ _ _ _ _ _ _ (Act.put _ (some 80) _) _;simp only[Act.put,List.setIfInBounds_toArray,List.set_cons_zero,List.set_cons_succ];refine tkZ 7 hHeld ?_;refine zb7 (rs:=[8]) (by kernel_rfl) (by simp) ?_;refine zb2.last rfl (fun K hK=> ?_);go_simp;refine hK.out _ _ ?_;clear hK K;refine zh7 (by kernel_rfl) ?_ _;clear hHeld
       (try go_wp2_with fail)
       go_meet;exact⟨rfl,_,_,M9.out⟩
     case rest=>
      obtain⟨rfl,g2,cg2,hM⟩:=hcut;have M8:Hid _:=hM;clear hM M6;have HIL:Hid ((insL X j id).length=xl+1):=by show _=_;rw[zk6 id (by rw[HXL.out];exact hj),HXL.out]
      have HIN0:Hid (insL X j id≠[]):=by show _≠_;unfold insL;simp
      have Q8:Hid _:=Q2.below M8.b;have N8:Hid _:=za1 M8.b (za3 N2.out) N2.out;have O8:Hid _:=O2.below M8.b;have Y8:Hid (za0 wc (some ⟨g2,0,none⟩) (insL X j id)):=zq6 (by have h9:=M8.o;rw[HIL.out]at h9;exact h9);have hR1n:R1.length<=12:=by have h1:=congrArg List.length HK1.out;have h2:=zS4 R id;simp only[List.length_map]at h1;omega
      have ST:=zA0 ra1 gl1 0 rc1 lc1 g2 0 cg2 R1 L tv (insL X j id) wc (zP7 O8.out HN1.out) (y09 O8.out HM.out) Y8.out (by omega) (fun r hr=>⟨(HIN1.out r hr).1,by have:=(HIN1.out r hr).2.1;omega⟩) (by omega) ⟨HIN0.out,by have:=HIL.out;omega⟩;rw[HN1.out,HM.out,HIL.out]at ST;obtain⟨n0,n1'⟩:=za2 N8.out;obtain⟨y0,y1⟩:=za2 M8.y
      go_wp2_with fail
      refine ST.mono ?_;rintro e w13 ⟨ra3,rc3,gl3,lc3,S3,rfl,hb,hk3,ho3⟩;rw[HM.out]at ho3⊢;obtain⟨n3,HN3⟩:=nmd S3.length;rw[HN3.out]at ho3⊢;have HK3:Hid (S3.map RT.key=(rlN R id tv j).map RT.key):=by
       show _=_;rw[hk3,zX9 (ze4 (yf3 HK1.out (z95 (ze4 HPW.out) id).pw)) HIN0.out,HRN.out];exact zR8 HK1.out rfl
      obtain⟨pv,HPV⟩:=nmd (zc3 n zs os vs ko kv fine (rlN R id tv j) L);obtain⟨pd,HPD⟩:=nmd (decide (pv=0));have hpd:(pv==0)=pd:=HPD.out;have HPC:Hid (∀W,Below w.heap.size w W->PO W (w.heap.size+3) (.slice ra3 n3 rc3) S3 (.slice (some ⟨gl3,0,none⟩) ln lc3) L->Calls Tryz.prog 23 #[.agg #[.int .i64 n,.slice a zl cap,.slice ao ko co,.slice av kv cv,.int .i64 fine],.agg #[.slice ra3 n3 rc3,.slice (some ⟨gl3,0,none⟩) ln lc3]] W fun e w'=>e=.returned (.int .i64 pv)/\Below W.heap.size W w'):=fun W hW hO=>by
       have hq:=z11 HPW.out HNE.out HND.out hk HID.out tv j;have h12:=(zj5 HPL.out).1;have hsm:=z93 HK3.out (zN2 HPL.out hk HID.out tv j);have hn3:S3.length<=25:=by have h1:=congrArg List.length HK3.out;have h2:=yx6 R id tv j;simp only[List.length_map]at h1;omega
       have PC:=zp0 n fine a ao av ra3 (some ⟨gl3,0,none⟩) cap ko co kv cv rc3 lc3 zs os vs L S3 W (HA.below hW) (HO.below hW) (HV.below hW) (zP7 hO HN3.out) (y09 hO HM.out) HLO.out HLV.out hko hkv (by omega) (fun r hr=>by have:=(hsm r hr).2;omega) (fun r hr=>(hO.ints r hr).2) (by omega) (by rw[zd2,zJ2 HK3.out,hq.length_eq,<-zd2];omega);rw[HN3.out,HM.out,HLZ.out,zh4 L HK3.out,HPV.out]at PC;exact PC
      have hA:Below w13.heap.size w13 (w13.alloc (.cells #[.slice ra3 n3 rc3,.slice (some ⟨gl3,0,none⟩) ln lc3] 33)):=(Below.refl _ _).alloc (Nat.le_refl _) _;have Q14:Hid _:=(Q8.below hb).below hA;have B14:Hid ((w13.alloc (.cells #[.slice ra3 n3 rc3,.slice (some ⟨gl3,0,none⟩) ln lc3] 33)).heap[w13.heap.size]? =some (.cells #[.slice ra3 n3 rc3,.slice (some ⟨gl3,0,none⟩) ln lc3] 33 (0,0))):=heap_alloc_new _ _;have O14:Hid _:=(ho3.base (by have:=Q8.size;omega)).below hA;have HKO:Hid _:=(Q8.below hb).size;clear hA hb hk3 ho3 ST n0 n1' y0 y1 Q8 N8 O8 Y8 M8 Q2 N2 O2 X2
      go_wp2_with fail
      generalize w13.alloc (.cells #[.slice ra3 n3 rc3,.slice (some ⟨gl3,0,none⟩) ln lc3] 33)=W14 at*;obtain⟨kq,HKQ⟩:=nmd w13.heap.size;rw[HKQ.out]at B14 HKO⊢;refine wp_region_held_drew (S:=(fun W=>(W.cell? ⟨w.heap.size,0,none⟩=some (.int .i64 n)/\W.cell? ⟨w.heap.size,1,none⟩=some (.slice a zl cap)/\W.cell? ⟨w.heap.size,2,none⟩=some (.slice ao ko co)/\W.cell? ⟨w.heap.size,3,none⟩=some (.slice av kv cv)/\W.cell? ⟨w.heap.size,4,none⟩=some (.int .i64 fine))/\W.cell? ⟨kq,0,none⟩=some (.slice ra3 n3 rc3)/\W.cell? ⟨kq,1,none⟩=some (.slice (some ⟨gl3,0,none⟩) ln lc3))) (by kernel_rfl) ?_ (fun hHeld=> ?_)
      ·exact⟨za8 (Q14.below (Below.refl _ _).drew).c,za2 (za1 (Below.refl _ _).drew (za3 B14.out) B14.out)⟩
      have QD:Hid _:=Q14.below (Below.refl _ _).drew;have BD14:Hid _:=za1 (Below.refl _ _).drew (za3 B14.out) B14.out;have OD:Hid _:=O14.below (Below.refl _ _).drew;clear Q14 B14 O14;generalize W14.drew=wd14 at*;refine tkH 0 hHeld ?_;refine tkH 1 hHeld ?_;refine tkH 2 hHeld ?_;refine wpAnyH_ready (rs:=[3]) (by kernel_rfl) (by simp) ?_;refine AllReadyH.cons rfl (fun K hK=> ?_) AllReadyH.nil;go_simp;refine(HPC.out wd14 QD.b OD.out).mono ?_;rintro e w15 ⟨rfl,hb⟩;have Q15:Hid _:=QD.below hb;have B15:Hid _:=za1 hb (za3 BD14.out) BD14.out;have O15:Hid _:=OD.below hb;clear hb
      (try go_wp2_with fail)
      refine hK.out _ _ ?_ (fun hHeld=> ?_)
      ·exact⟨za8 Q15.c,za2 B15.out⟩
      clear hK K
      (try simp only[Act.put,List.setIfInBounds_toArray,List.set_cons_zero,List.set_cons_succ])
      refine tkH 4 hHeld ?_;refine wpAnyH_ready (rs:=[5]) (by kernel_rfl) (by simp) ?_;refine AllReadyH.cons rfl (fun K hK=> ?_) AllReadyH.nil;obtain⟨a0,a1⟩:=za2 Q15.o;have af:=fun i=>frozen_of_row _ _ i _ _ Q15.o;have s1:=heap_setCell_same w15 (w.heap.size+2) 0 _ _ (Value.slice ra3 n3 rc3) Q15.o;have P16:Hid (PO ((w15.setCell ⟨w.heap.size+2,0,none⟩ (.slice ra3 n3 rc3)).setCell ⟨w.heap.size+2,1,none⟩ (.slice (some ⟨gl3,0,none⟩) ln lc3)) (w.heap.size+3) (.slice ra3 n3 rc3) S3 (.slice (some ⟨gl3,0,none⟩) ln lc3) L):=(O15.box Q15.o).box s1;simp only[List.setIfInBounds_toArray,List.set_cons_zero]at s1;have s2:=heap_setCell_same _ (w.heap.size+2) 1 _ _ (Value.slice (some ⟨gl3,0,none⟩) ln lc3) s1;simp only[List.setIfInBounds_toArray,List.set_cons_zero,List.set_cons_succ]at s2;have A16:Hid _:=s2;have C16:Hid (((w15.setCell ⟨w.heap.size+2,0,none⟩ (.slice ra3 n3 rc3)).setCell ⟨w.heap.size+2,1,none⟩ (.slice (some ⟨gl3,0,none⟩) ln lc3)).heap[w.heap.size]? =some (.cells #[.int .i64 n,.slice a zl cap,.slice ao ko co,.slice av kv cv,.int .i64 fine] 30 (0,0))):=zb1 (zb1 Q15.c (by omega)) (by omega);have K16:Hid (((w15.setCell ⟨w.heap.size+2,0,none⟩ (.slice ra3 n3 rc3)).setCell ⟨w.heap.size+2,1,none⟩ (.slice (some ⟨gl3,0,none⟩) ln lc3)).heap[kq]? =some (.cells #[.slice ra3 n3 rc3,.slice (some ⟨gl3,0,none⟩) ln lc3] 33 (0,0))):=zb1 (zb1 B15.out (by have:=HKO.out;omega)) (by have:=HKO.out;omega);have B16:Hid (Below w.heap.size w ((w15.setCell ⟨w.heap.size+2,0,none⟩ (.slice ra3 n3 rc3)).setCell ⟨w.heap.size+2,1,none⟩ (.slice (some ⟨gl3,0,none⟩) ln lc3))):=(Q15.b.setCell (by simp) _).setCell (by simp) _;clear s1 s2;go_simp;refine hK.out _ _ ?_ (fun hHeld=> ?_)
      ·exact⟨za8 C16.out,za2 K16.out⟩
      clear hK K;clear a0 a1 af;generalize((w15.setCell ⟨w.heap.size+2,0,none⟩ (.slice ra3 n3 rc3)).setCell ⟨w.heap.size+2,1,none⟩ (.slice (some ⟨gl3,0,none⟩) ln lc3))=W16 at*;refine tkH 6 hHeld ?_;refine wpAnyH_done (by kernel_rfl) ?_ _;clear hHeld;obtain⟨a0,a1⟩:=za2 A16.out;go_wp2;refine bodyPost_ret (v:=.tuple #[.agg #[.slice ra3 n3 rc3,.slice (some ⟨gl3,0,none⟩) ln lc3],.bool pd]) (by simp[results,Tryz.results92,go_sem,a0,a1]) rfl ?_;refine⟨B16.out,.inr ⟨by rw[HXE.out,HXL.out];exact HIB.out,ra3,n3,rc3,gl3,lc3,S3,?_,HN3.out,HK3.out,?_⟩⟩
      ·rw[show((j:Int)).toNat=j from Int.toNat_natCast j,HPV.out,HPD.out,HM.out]
      ·rw[HM.out]
       exact P16.base (by omega)
end Go.Proofs.YtjobhigmdaiinaaGreat
