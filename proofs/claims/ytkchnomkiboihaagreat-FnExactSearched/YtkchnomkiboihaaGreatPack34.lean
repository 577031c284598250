import Derived.Test.YtkchnomkiboihaaGreatPlainGrd
import Derived.Test.YtkchnomkiboihaaGreatPack33
set_option linter.unusedSimpArgs false
set_option maxHeartbeats 8000000
set_option maxRecDepth 10000
namespace Go.Proofs.YtkchnomkiboihaaGreat
theorem qW:type_of% @Bool.true_and:=@Bool.true_and
theorem qX:type_of% @Bool.false_and:=@Bool.false_and
theorem qY:type_of% @cond_true:=@cond_true
open Value renaming slice→za,int→zc
open IntKind renaming i64→zb
open Obj renaming cells→zd
open Proofs.Tryz renaming prog→ze
open Go renaming World→zg
open Act renaming put→zi
open List renaming length→zj,range→zo
open World renaming cell?→zy
open Go.RowKit
open Q
def rlN(R:List RT)(id tv:Int)(at_:Nat):List RT:=wrL (lvR R id) ⟨tv,none,insL (zc6 (lvR R id) tv).ids at_ id,0⟩
theorem yb5{R R':List RT}(h:R'.map RT.key=R.map RT.key)(id tv:Int)(at_:Nat):(rlN R' id tv at_).map RT.key=(rlN R id tv at_).map RT.key:=by
 have h1:=zG5 h id;exact z72 h1 (by show(_,_)=(_,_);rw[zo2 h1 tv])
theorem yt5{n:Int}{zs os vs:List Int}{ko kv:Nat}{fine:Int}{R:List RT}{L:List Int}(h:zc3 n zs os vs ko kv fine R L=0){k:Nat}(hk:k<R.length){id:Int}(hid:id∈(R.getD k rt0).ids)(tv:Int)(at_:Nat){R2:List RT}(hk2:R2.map RT.key=(rlN R id tv at_).map RT.key):
 (z67 (R.getD k rt0).v tv).all (cmK n zs os vs ko kv R2)=decide (zc3 n zs os vs ko kv fine (rlN R id tv at_) L=0)∧
 (zc3 n zs os vs ko kv fine (rlN R id tv at_) L=0->∀z,((z67 (R.getD k rt0).v tv).map (cmF n zs os vs ko kv R R2)).sum=zh7 n zs os vs ko kv (rlN R id tv at_) z (rlN R id tv at_).length - zh7 n zs os vs ko kv R z R.length):=by
 obtain⟨hI,hC⟩:=yK7 h hk hid at_ ⟨tv,none,insL (zc6 (lvR R id) tv).ids at_ id,0⟩ rfl;have hp1:=(z53 (zf0 (zh3.1 (zb5 h).2.1).1) id).pw;have ht:(zc6 (rlN R id tv at_) tv).ids=insL (zc6 (lvR R id) tv).ids at_ id:=(z12 hp1 tv).1 rfl;have hr:=fun v=>zo2 hk2 v;change(zc3 n zs os vs ko kv fine (rlN R id tv at_) L=0↔codeV true n zs os vs ko kv (R.getD k rt0).v (zc6 (rlN R id tv at_) (R.getD k rt0).v).ids=0/\codeV true n zs os vs ko kv tv (insL (zc6 (lvR R id) tv).ids at_ id)=0)at hI;change zc3 n zs os vs ko kv fine (rlN R id tv at_) L=0->∀z,zh7 n zs os vs ko kv (rlN R id tv at_) z (rlN R id tv at_).length - zh7 n zs os vs ko kv R z R.length=if(R.getD k rt0).v=tv then rcV n zs os vs ko kv tv (insL (zc6 (lvR R id) tv).ids at_ id) - rcV n zs os vs ko kv tv (zc6 R tv).ids else(rcV n zs os vs ko kv (R.getD k rt0).v (zc6 (rlN R id tv at_) (R.getD k rt0).v).ids - rcV n zs os vs ko kv (R.getD k rt0).v (zc6 R (R.getD k rt0).v).ids)+(rcV n zs os vs ko kv tv (insL (zc6 (lvR R id) tv).ids at_ id) - rcV n zs os vs ko kv tv (zc6 R tv).ids)at hC
 rw[<-ht]at hI hC;generalize(R.getD k rt0).v=v at*;by_cases hv:v=tv
 ·subst hv
  have e2:z67 v v=[v]:=by unfold z67;rw[zV rfl]
  rw[e2];refine⟨?_,fun h9 z=> ?_⟩
  ·simp only[List.all_cons,List.all_nil,Bool.and_true]
   unfold cmK;rw[hr v];exact decide_eq_decide.2 ⟨fun h1=>hI.2 ⟨h1,h1⟩,fun h1=>(hI.1 h1).1⟩
  ·have:=hC h9 z
   rw[zV rfl]at this;rw[this];simp[cmF,hr v]
 ·have e2:z67 v tv=[v,tv]:=by unfold z67;rw[zW hv]
  rw[e2];refine⟨?_,fun h9 z=> ?_⟩
  ·simp only[List.all_cons,List.all_nil,Bool.and_true]
   unfold cmK;rw[hr v,hr tv,<-Bool.decide_and];exact decide_eq_decide.2 hI.symm
  ·have:=hC h9 z
   rw[zW hv]at this;rw[this];simp[cmF,hr v,hr tv]
theorem zK3{R:List RT}(hp:R.Pairwise (fun a b=>a.v<b.v))(hne:∀r∈R,r.ids≠[])(hnd:(za8 R R.length).Nodup){k:Nat}(hk:k<R.length){id:Int}(hid:id∈(R.getD k rt0).ids)(tv:Int)(at_:Nat):((rlN R id tv at_).flatMap RT.ids).Perm (R.flatMap RT.ids):=by
 have hS:=zf0 hp;have hlv:=yu3 hS hk hne hnd hid;have hym:=zh2 hk;have hyn:=zt6 hk hnd;have hyr:=zf7 hp hym;have hp1:=(z53 hS id).pw;have q1:=z35 (R:=lvR R id) (r:=⟨tv,none,insL (zc6 (lvR R id) tv).ids at_ id,0⟩) hp1;have q2:=q1.trans (qO _ ((zF5 (zc6 (lvR R id) tv).ids at_ id)));have q3:((rlN R id tv at_).flatMap RT.ids).Perm ((lvR R id).flatMap RT.ids++[id]):=by
  refine(qN (zc6 (lvR R id) tv).ids).1 (q2.trans ?_);rw[z7];rfl
 refine q3.trans ?_;rw[hlv];have q4:=z35 (r:=⟨(R.getD k rt0).v,(R.getD k rt0).a,cutP (R.getD k rt0).ids id,(R.getD k rt0).c⟩) hp;simp only[hyr]at q4;refine(qN (cutP (R.getD k rt0).ids id)).1 ?_;rw[z7];exact(qO _ (z49 hyn hid).symm).trans q4
theorem zV1{n:Int}{zs os vs:List Int}{ko kv:Nat}{fine:Int}{R:List RT}{L:List Int}(h:zc3 n zs os vs ko kv fine R L=0){k:Nat}(hk:k<R.length){id:Int}(hid:id∈(R.getD k rt0).ids)(tv:Int)(at_:Nat):∀r∈rlN R id tv at_,r.ids≠[]/\r.ids.length<=12:=fun r hr=>by
 obtain⟨_,h2,h3,_⟩:=zb5 h;obtain⟨hp,hok⟩:=zh3.1 h2;have hq:=zK3 hp (fun r hr=>(hok r hr).1) h3.1 hk hid tv at_;have h12:=(zk3 h).1;rw[zb6]at h12;have:=zP8 _ r hr;rw[hq.length_eq]at this;refine⟨?_,by omega⟩;rcases zx9.1 hr with⟨hm,_⟩|⟨e,hn⟩
 ·exact yv4 hm
 ·rw[e];exact hn
theorem yB6(R:List RT)(id tv:Int)(at_:Nat):(rlN R id tv at_).length<=2*R.length+1:=by
 unfold rlN wrL;have h1:=yj (fun x:RT=>decide (x.v<tv)) (lvR R id);have h2:=yj (fun x:RT=>decide (tv<x.v)) (lvR R id);have h3:=zR4 R id;simp only[xU];split<;>simp<;>omega
noncomputable def rqB(id tv pl n fine:Int)(zs os vs:List Int)(ko kv:Nat)(R:List RT)(L:List Int):Bool:=decide (zc3 n zs os vs ko kv fine R L=0)&&(decide (id∈za8 R R.length)&&(inB pl 0 ((zc6 (lvR R id) tv).ids.length:Int)&&decide (zc3 n zs os vs ko kv fine (rlN R id tv pl.toNat) L=0)))
noncomputable def rqR(id tv pl n fine:Int)(zs os vs:List Int)(ko kv:Nat)(R:List RT)(L:List Int):List RT:=bif rqB id tv pl n fine zs os vs ko kv R L then rlN R id tv pl.toNat else []
noncomputable def rqL(id tv pl n fine:Int)(zs os vs:List Int)(ko kv:Nat)(R:List RT)(L:List Int):List Int:=bif rqB id tv pl n fine zs os vs ko kv R L then L else []
noncomputable def rqD(id tv pl n fine:Int)(zs os vs:List Int)(ko kv:Nat)(R:List RT)(L:List Int):Int:=bif rqB id tv pl n fine zs os vs ko kv R L then zh7 n zs os vs ko kv (rlN R id tv pl.toNat) (fine*L.length) (rlN R id tv pl.toNat).length - zh7 n zs os vs ko kv R (fine*L.length) R.length else 0
theorem yz5{R R':List RT}(id tv pl n fine:Int)(zs os vs:List Int)(ko kv:Nat)(L:List Int)(h:R'.map RT.key=R.map RT.key):rqB id tv pl n fine zs os vs ko kv R' L=rqB id tv pl n fine zs os vs ko kv R L:=by
 unfold rqB;rw[zd2 L h,zb6,zb6,z33 h,zo2 (zG5 h id) tv,zd2 L (yb5 h id tv pl.toNat)]
theorem yx1{R R':List RT}(id tv pl n fine:Int)(zs os vs:List Int)(ko kv:Nat)(L:List Int)(h:R'.map RT.key=R.map RT.key):rqD id tv pl n fine zs os vs ko kv R' L=rqD id tv pl n fine zs os vs ko kv R L:=by
 unfold rqD;have h2:=yb5 h id tv pl.toNat;rw[yz5 _ _ _ _ _ _ _ _ _ _ _ h,zy5 h,zy5 h2,zr5 h,zr5 h2]
theorem yk8{id tv pl n fine:Int}{zs os vs:List Int}{ko kv:Nat}{R:List RT}{L:List Int}(h:rqB id tv pl n fine zs os vs ko kv R L=true):zc3 n zs os vs ko kv fine R L=0/\id∈za8 R R.length/\inB pl 0 ((zc6 (lvR R id) tv).ids.length:Int)=true/\zc3 n zs os vs ko kv fine (rlN R id tv pl.toNat) L=0:=by
 unfold rqB at h;simp only[zY,qE]at h;exact h
noncomputable def mvB(n fine:Int)(zs os vs:List Int)(ko kv:Nat)(R:List RT)(L:List Int)(s:zg2):Bool:=rqB s.1 s.2.1 (s.2.2:Int) n fine zs os vs ko kv R L&&decide (rqD s.1 s.2.1 (s.2.2:Int) n fine zs os vs ko kv R L<0)
noncomputable def mvD(n fine:Int)(zs os vs:List Int)(ko kv:Nat)(R:List RT)(L:List Int)(s:zg2):Int:=rqD s.1 s.2.1 (s.2.2:Int) n fine zs os vs ko kv R L
noncomputable def brQ(n fine:Int)(zs os vs:List Int)(ko kv:Nat)(R:List RT)(L:List Int):QS:=qst (mvB n fine zs os vs ko kv R L) (mvD n fine zs os vs ko kv R L) (sp3 R vs kv (zi9 n zs os vs ko kv fine R L) (zi9 n zs os vs ko kv fine R L).length)
theorem y66{ok:zg2->Bool}{dl:zg2->Int}(l:List zg2):(qst ok dl l).f=false->qst ok dl l=qs0:=by
 suffices h:∀(m:List zg2) (s:QS),(s.f=false->s=qs0)->(m.foldl (zl9 ok dl) s).f=false->m.foldl (zl9 ok dl) s=qs0 from h l qs0 (fun _=>rfl)
 intro m
 induction m with
 |nil=>intro s hs hf;exact hs hf
 |cons p m ih=>
  intro s hs hf;rw[yD]at hf⊢;refine ih _ (fun h9=> ?_) hf;unfold zl9 at h9⊢;split
  ·rename_i hc
   rw[zV hc]at h9;cases h9
  ·rename_i hc
   rw[zW hc]at h9;exact hs h9
theorem yL1{n fine:Int}{zs os vs:List Int}{ko kv:Nat}{R:List RT}{L:List Int}(l:List zg2):((qst (mvB n fine zs os vs ko kv R L) (mvD n fine zs os vs ko kv R L) l).f=false->(qst (mvB n fine zs os vs ko kv R L) (mvD n fine zs os vs ko kv R L) l).v=0)/\((qst (mvB n fine zs os vs ko kv R L) (mvD n fine zs os vs ko kv R L) l).f=true->(qst (mvB n fine zs os vs ko kv R L) (mvD n fine zs os vs ko kv R L) l).v<0):=by
 refine⟨fun h=>by rw[y66 l h];rfl,fun h=> ?_⟩;obtain⟨_,h2,h3⟩:=zz8 l h;generalize qst (mvB n fine zs os vs ko kv R L) (mvD n fine zs os vs ko kv R L) l=s at*;unfold mvB at h2;rw[zY,qE]at h2;have h4:=h2.2;unfold mvD at h3;omega
theorem yI6{n fine:Int}{zs os vs:List Int}{ko kv:Nat}{R:List RT}{L:List Int}{l:List zg2}{id veh:Int}{pl:Nat}{s:QS}(hs:qst (mvB n fine zs os vs ko kv R L) (mvD n fine zs os vs ko kv R L) l=s)(h1:rqB id veh (pl:Int) n fine zs os vs ko kv R L=true)(h2:rqD id veh (pl:Int) n fine zs os vs ko kv R L<s.v):qst (mvB n fine zs os vs ko kv R L) (mvD n fine zs os vs ko kv R L) (l++[(id,veh,pl)])=⟨true,(id,veh,pl),rqD id veh (pl:Int) n fine zs os vs ko kv R L⟩:=by
 have hv:=yL1 (n:=n) (fine:=fine) (zs:=zs) (os:=os) (vs:=vs) (ko:=ko) (kv:=kv) (R:=R) (L:=L) l;rw[zD3];rw[hs]at hv⊢;have h0:rqD id veh (pl:Int) n fine zs os vs ko kv R L<0:=by
  cases hf:s.f
  ·have:=hv.1 hf;omega
  ·have:=hv.2 hf;omega
 exact z58 (p:=(id,veh,pl)) (by show(_&&_)=true;rw[h1,zS h0];rfl) h2
theorem yL4{n fine:Int}{zs os vs:List Int}{ko kv:Nat}{R:List RT}{L:List Int}{l:List zg2}{id veh:Int}{pl:Nat}{s:QS}(hs:qst (mvB n fine zs os vs ko kv R L) (mvD n fine zs os vs ko kv R L) l=s)(h:rqB id veh (pl:Int) n fine zs os vs ko kv R L=false∨¬rqD id veh (pl:Int) n fine zs os vs ko kv R L<s.v):qst (mvB n fine zs os vs ko kv R L) (mvD n fine zs os vs ko kv R L) (l++[(id,veh,pl)])=s:=by
 have hv:=yL1 (n:=n) (fine:=fine) (zs:=zs) (os:=os) (vs:=vs) (ko:=ko) (kv:=kv) (R:=R) (L:=L) l;rw[zD3];rw[hs]at hv⊢;rcases h with h|h
 ·exact zr0 (p:=(id,veh,pl)) (by show(_&&_)=false;rw[h];rfl)
 ·cases hf:s.f
  ·have:=hv.1 hf
   exact zr0 (p:=(id,veh,pl)) (by show(_&&decide (rqD id veh (pl:Int) n fine zs os vs ko kv R L<0))=false;rw[zU (by omega),Bool.and_false])
  ·exact zy9 (p:=(id,veh,pl)) hf h
def sq2(V:List Int)(id:Int):Nat->List zg2
 |0=>[]
 |k+1=>sq2 V id k++sp1 id (V.getD (k*5) 0) 13
def sq3(V:List Int)(kv:Nat)(ids:List Int):Nat->List zg2
 |0=>[]
 |i+1=>sq3 V kv ids i++sq2 V (ids.getD i 0) kv
theorem yD0{ok:zg2->Bool}{dl:zg2->Int}(l:List zg2)(s:QS)(h:∀p∈l,ok p=false):l.foldl (zl9 ok dl) s=s:=by
 induction l with
 |nil=>rfl
 |cons p l ih=>
  rw[yD,zr0 (h p (ym ..))];exact ih (fun q hq=>h q (yh _ hq))
theorem y41(id veh:Int)(a b:Nat):sp1 id veh (a+b)=sp1 id veh a++(zo b).map (fun k=>(id,veh,a+k)):=by
 unfold sp1;rw[List.range_add,xX,List.map_map];rfl
theorem y43{ok:zg2->Bool}{dl:zg2->Int}{R:List RT}(h12:∀r∈R,r.ids.length<=12)(hno:∀id veh pl,(zc6 R veh).ids.length<pl->ok (id,veh,pl)=false)(id veh:Int)(s:QS):(sp1 id veh 13).foldl (zl9 ok dl) s=(sp1 id veh ((zc6 R veh).ids.length+1)).foldl (zl9 ok dl) s:=by
 have hl:=z50 h12 veh;obtain⟨b,hb⟩:∃b,13=((zc6 R veh).ids.length+1)+b:=⟨13 - ((zc6 R veh).ids.length+1),by omega⟩;rw[hb,y41,yA];refine yD0 _ _ (fun p hp=> ?_);obtain⟨k,_,rfl⟩:=yy.1 hp;exact hno _ _ _ (by omega)
theorem yi5{ok:zg2->Bool}{dl:zg2->Int}{R:List RT}(h12:∀r∈R,r.ids.length<=12)(hno:∀id veh pl,(zc6 R veh).ids.length<pl->ok (id,veh,pl)=false)(V:List Int)(id:Int):∀(k:Nat) (s:QS),(sq2 V id k).foldl (zl9 ok dl) s=(sp2 R V id k).foldl (zl9 ok dl) s
 |0,s=>rfl
 |k+1,s=>by
  show(sq2 V id k++_).foldl _ _=(sp2 R V id k++_).foldl _ _;rw[yA,yA,yi5 h12 hno V id k,y43 h12 hno]
theorem yi3{ok:zg2->Bool}{dl:zg2->Int}{R:List RT}(h12:∀r∈R,r.ids.length<=12)(hno:∀id veh pl,(zc6 R veh).ids.length<pl->ok (id,veh,pl)=false)(V:List Int)(kv:Nat)(ids:List Int):∀(i:Nat) (s:QS),(sq3 V kv ids i).foldl (zl9 ok dl) s=(sp3 R V kv ids i).foldl (zl9 ok dl) s
 |0,s=>rfl
 |i+1,s=>by
  show(sq3 V kv ids i++_).foldl _ _=(sp3 R V kv ids i++_).foldl _ _;rw[yA,yA,yi3 h12 hno V kv ids i,yi5 h12 hno]
theorem yF9{n fine:Int}{zs os vs:List Int}{ko kv:Nat}{R:List RT}{L:List Int}(id veh:Int)(pl:Nat)(h:(zc6 R veh).ids.length<pl):mvB n fine zs os vs ko kv R L (id,veh,pl)=false:=by
 cases hb:mvB n fine zs os vs ko kv R L (id,veh,pl)
 ·rfl
 ·exfalso
  unfold mvB at hb;rw[zY]at hb;obtain⟨h1,h2,h3,_⟩:=yk8 (id:=id) (tv:=veh) (pl:=(pl:Int)) hb.1;obtain⟨_,g2,g3,_⟩:=zb5 h1;obtain⟨hp,hok⟩:=zh3.1 g2;rw[zb6]at h2;obtain⟨r,hr,hid⟩:=qG.1 h2;obtain⟨k,hk,e⟩:=zo5 hr;rw[<-e]at hid;have hw:=yu3 (zf0 hp) hk (fun r hr=>(hok r hr).1) g3.1 hid;rw[hw]at h3;have hle:(zc6 (wrL R ⟨(R.getD k rt0).v,(R.getD k rt0).a,cutP (R.getD k rt0).ids id,(R.getD k rt0).c⟩) veh).ids.length<=(zc6 R veh).ids.length:=by
   by_cases hv:veh=(R.getD k rt0).v
   ·rw[(z12 (r:=⟨(R.getD k rt0).v,(R.getD k rt0).a,cutP (R.getD k rt0).ids id,(R.getD k rt0).c⟩) hp veh).1 hv,hv,zf7 hp (zh2 hk)]
    exact yj _ _
   ·rw[(z12 (r:=⟨(R.getD k rt0).v,(R.getD k rt0).a,cutP (R.getD k rt0).ids id,(R.getD k rt0).c⟩) hp veh).2 hv]
    exact zQ _
  generalize(zc6 (wrL R ⟨(R.getD k rt0).v,(R.getD k rt0).a,cutP (R.getD k rt0).ids id,(R.getD k rt0).c⟩) veh).ids.length=x at hle h3;unfold inB at h3;simp at h3;omega
theorem y37(n fine:Int)(zs os vs:List Int)(ko kv:Nat)(R:List RT)(L:List Int):qst (mvB n fine zs os vs ko kv R L) (mvD n fine zs os vs ko kv R L) (sq3 vs kv (zi9 n zs os vs ko kv fine R L) (zi9 n zs os vs ko kv fine R L).length)=brQ n fine zs os vs ko kv R L:=by
 by_cases hp:zc3 n zs os vs ko kv fine R L=0
 ·obtain⟨_,g2,_,_⟩:=zb5 hp
  obtain⟨_,hok⟩:=zh3.1 g2;exact yi3 (fun r hr=>zk7 (hok r hr).2) (fun id veh pl h=>yF9 id veh pl h) vs kv _ _ _
 ·have e:zi9 n zs os vs ko kv fine R L=[]:=zW hp
  unfold brQ;rw[e];rfl
theorem yj4{R S:List RT}(h:S.map RT.key=R.map RT.key)(V:List Int)(id:Int):∀k,sp2 S V id k=sp2 R V id k
 |0=>rfl
 |k+1=>by
  show sp2 S V id k++_=sp2 R V id k++_;rw[yj4 h V id k,zo2 h]
theorem yn1{R S:List RT}(h:S.map RT.key=R.map RT.key)(V:List Int)(kv:Nat)(ids:List Int):∀i,sp3 S V kv ids i=sp3 R V kv ids i
 |0=>rfl
 |i+1=>by
  show sp3 S V kv ids i++_=sp3 R V kv ids i++_;rw[yn1 h V kv ids i,yj4 h]
theorem yw0{n:Int}{zs os vs:List Int}{ko kv:Nat}{fine:Int}{R S:List RT}(L:List Int)(h:S.map RT.key=R.map RT.key):zi9 n zs os vs ko kv fine S L=zi9 n zs os vs ko kv fine R L:=by
 unfold zi9;rw[zd2 L h,zb6,zb6,z33 h]
theorem zH3{n fine:Int}{zs os vs:List Int}{ko kv:Nat}{R S:List RT}{L:List Int}(h:S.map RT.key=R.map RT.key):brQ n fine zs os vs ko kv S L=brQ n fine zs os vs ko kv R L:=by
 have e1:mvB n fine zs os vs ko kv S L=mvB n fine zs os vs ko kv R L:=funext fun s=>by unfold mvB;rw[yz5 _ _ _ _ _ _ _ _ _ _ _ h,yx1 _ _ _ _ _ _ _ _ _ _ _ h]
 have e2:mvD n fine zs os vs ko kv S L=mvD n fine zs os vs ko kv R L:=funext fun s=>by unfold mvD;rw[yx1 _ _ _ _ _ _ _ _ _ _ _ h]
 unfold brQ;rw[e1,e2,yw0 L h,yn1 h]
noncomputable def dsN(n fine:Int)(zs os vs:List Int)(ko kv:Nat)(L:List Int)(R:List RT):List RT:=rlN R (brQ n fine zs os vs ko kv R L).s.1 (brQ n fine zs os vs ko kv R L).s.2.1 (brQ n fine zs os vs ko kv R L).s.2.2
noncomputable def dsR(n fine:Int)(zs os vs:List Int)(ko kv:Nat)(L:List Int):Nat->List RT->List RT
 |0,R=>R
 |k+1,R=>bif (brQ n fine zs os vs ko kv R L).f then dsR n fine zs os vs ko kv L k (dsN n fine zs os vs ko kv L R)else R
noncomputable def dsC(n fine:Int)(zs os vs:List Int)(ko kv:Nat)(L:List Int):Nat->List RT->Nat
 |0,_=>0
 |k+1,R=>bif (brQ n fine zs os vs ko kv R L).f then dsC n fine zs os vs ko kv L k (dsN n fine zs os vs ko kv L R)+1 else 0
theorem yu2{n fine:Int}{zs os vs:List Int}{ko kv:Nat}{L:List Int}{R S:List RT}(h:S.map RT.key=R.map RT.key):(dsN n fine zs os vs ko kv L S).map RT.key=(dsN n fine zs os vs ko kv L R).map RT.key:=by
 unfold dsN;rw[zH3 h];exact yb5 h _ _ _
theorem zv2{n fine:Int}{zs os vs:List Int}{ko kv:Nat}{L:List Int}{R:List RT}(h:(brQ n fine zs os vs ko kv R L).f=false)(k:Nat):dsR n fine zs os vs ko kv L k R=R/\dsC n fine zs os vs ko kv L k R=0:=by
 cases k with
 |zero=>exact⟨rfl,rfl⟩
 |succ k=>
  constructor
  ·show(bif (brQ n fine zs os vs ko kv R L).f then _ else _)=_
   rw[h];rfl
  ·show(bif (brQ n fine zs os vs ko kv R L).f then _ else _)=_
   rw[h];rfl
theorem zv6{n fine:Int}{zs os vs:List Int}{ko kv:Nat}{L:List Int}{R:List RT}(h:(brQ n fine zs os vs ko kv R L).f=true)(k:Nat):dsR n fine zs os vs ko kv L (k+1) R=dsR n fine zs os vs ko kv L k (dsN n fine zs os vs ko kv L R)/\dsC n fine zs os vs ko kv L (k+1) R=dsC n fine zs os vs ko kv L k (dsN n fine zs os vs ko kv L R)+1:=by
 constructor
 ·show(bif (brQ n fine zs os vs ko kv R L).f then _ else _)=_
  rw[h];rfl
 ·show(bif (brQ n fine zs os vs ko kv R L).f then _ else _)=_
  rw[h];rfl
theorem z69{n fine:Int}{zs os vs:List Int}{ko kv:Nat}{L:List Int}(k:Nat):∀{R S:List RT},S.map RT.key=R.map RT.key->(dsR n fine zs os vs ko kv L k S).map RT.key=(dsR n fine zs os vs ko kv L k R).map RT.key:=by
 induction k with
 |zero=>intro R S h;exact h
 |succ k ih=>
  intro R S h;cases hf:(brQ n fine zs os vs ko kv R L).f
  ·rw[(zv2 hf _).1,(zv2 (by rw[zH3 h];exact hf) _).1]
   exact h
  ·rw[(zv6 hf k).1,(zv6 (by rw[zH3 h];exact hf) k).1]
   exact ih (yu2 h)
theorem zR7{n fine:Int}{zs os vs:List Int}{ko kv:Nat}{L:List Int}(k:Nat):∀{R S:List RT},S.map RT.key=R.map RT.key->dsC n fine zs os vs ko kv L k S=dsC n fine zs os vs ko kv L k R:=by
 induction k with
 |zero=>intro R S h;rfl
 |succ k ih=>
  intro R S h;cases hf:(brQ n fine zs os vs ko kv R L).f
  ·rw[(zv2 hf _).2,(zv2 (by rw[zH3 h];exact hf) _).2]
  ·rw[(zv6 hf k).2,(zv6 (by rw[zH3 h];exact hf) k).2,ih (yu2 h)]
theorem yi2{n fine:Int}{zs os vs:List Int}{ko kv:Nat}{L:List Int}{R:List RT}{q:QS}(hq:brQ n fine zs os vs ko kv R L=q)(h:q.f=true):rqB q.s.1 q.s.2.1 (q.s.2.2:Int) n fine zs os vs ko kv R L=true/\rqR q.s.1 q.s.2.1 (q.s.2.2:Int) n fine zs os vs ko kv R L=dsN n fine zs os vs ko kv L R/\rqL q.s.1 q.s.2.1 (q.s.2.2:Int) n fine zs os vs ko kv R L=L/\zc3 n zs os vs ko kv fine (dsN n fine zs os vs ko kv L R) L=0:=by
 have h1:rqB q.s.1 q.s.2.1 (q.s.2.2:Int) n fine zs os vs ko kv R L=true:=by
  have h2:=(zz8 (ok:=mvB n fine zs os vs ko kv R L) (dl:=mvD n fine zs os vs ko kv R L) (sp3 R vs kv (zi9 n zs os vs ko kv fine R L) (zi9 n zs os vs ko kv fine R L).length));change(brQ n fine zs os vs ko kv R L).f=true->_/\mvB n fine zs os vs ko kv R L (brQ n fine zs os vs ko kv R L).s=true/\_ at h2;rw[hq]at h2;have h3:=(h2 h).2.1;unfold mvB at h3;rw[zY]at h3;exact h3.1
 have h4:=(yk8 h1).2.2.2;have e:dsN n fine zs os vs ko kv L R=rlN R q.s.1 q.s.2.1 q.s.2.2:=by unfold dsN;rw[hq]
 refine⟨h1,?_,?_,?_⟩
 ·unfold rqR
  rw[h1,e];rfl
 ·unfold rqL
  rw[h1];rfl
 ·rw[e]
  exact h4
theorem yL5{n fine:Int}{zs os vs:List Int}{ko kv:Nat}{L:List Int}{R:List RT}{q:QS}(hq:brQ n fine zs os vs ko kv R L=q):(q.f=false->q.v=0)/\(q.f=true->q.v<0):=by
 have:=yL1 (n:=n) (fine:=fine) (zs:=zs) (os:=os) (vs:=vs) (ko:=ko) (kv:=kv) (R:=R) (L:=L) (sp3 R vs kv (zi9 n zs os vs ko kv fine R L) (zi9 n zs os vs ko kv fine R L).length);change((brQ n fine zs os vs ko kv R L).f=false->(brQ n fine zs os vs ko kv R L).v=0)/\((brQ n fine zs os vs ko kv R L).f=true->(brQ n fine zs os vs ko kv R L).v<0)at this;rw[hq]at this;exact this
theorem yy3{n fine:Int}{zs os vs:List Int}{ko kv:Nat}{L:List Int}(k:Nat):∀{R:List RT},zc3 n zs os vs ko kv fine R L=0->zc3 n zs os vs ko kv fine (dsR n fine zs os vs ko kv L k R) L=0:=by
 induction k with
 |zero=>intro R h;exact h
 |succ k ih=>
  intro R h;cases hf:(brQ n fine zs os vs ko kv R L).f
  ·rw[(zv2 hf (k+1)).1]
   exact h
  ·rw[(zv6 hf k).1]
   exact ih (yi2 rfl hf).2.2.2
noncomputable def dcB(st n fine:Int)(zs os vs:List Int)(ko kv:Nat)(R:List RT)(L:List Int):Bool:=decide (zc3 n zs os vs ko kv fine R L=0)&&inB st 0 60
noncomputable def dcR(st n fine:Int)(zs os vs:List Int)(ko kv:Nat)(R:List RT)(L:List Int):List RT:=bif dcB st n fine zs os vs ko kv R L then dsR n fine zs os vs ko kv L st.toNat R else []
noncomputable def dcL(st n fine:Int)(zs os vs:List Int)(ko kv:Nat)(R:List RT)(L:List Int):List Int:=bif dcB st n fine zs os vs ko kv R L then L else []
noncomputable def dcN(st n fine:Int)(zs os vs:List Int)(ko kv:Nat)(R:List RT)(L:List Int):Int:=bif dcB st n fine zs os vs ko kv R L then(dsC n fine zs os vs ko kv L st.toNat R:Int)else -1
theorem yf9{R S:List RT}(st n fine:Int)(zs os vs:List Int)(ko kv:Nat)(L:List Int)(h:S.map RT.key=R.map RT.key):dcB st n fine zs os vs ko kv S L=dcB st n fine zs os vs ko kv R L:=by
 unfold dcB;rw[zd2 L h]
theorem yC5{R S:List RT}(st n fine:Int)(zs os vs:List Int)(ko kv:Nat)(L:List Int)(h:S.map RT.key=R.map RT.key):(dcR st n fine zs os vs ko kv S L).map RT.key=(dcR st n fine zs os vs ko kv R L).map RT.key:=by
 unfold dcR;rw[yf9 _ _ _ _ _ _ _ _ _ h];cases dcB st n fine zs os vs ko kv R L
 ·rfl
 ·exact z69 _ h
theorem yC6{R S:List RT}(st n fine:Int)(zs os vs:List Int)(ko kv:Nat)(L:List Int)(h:S.map RT.key=R.map RT.key):dcL st n fine zs os vs ko kv S L=dcL st n fine zs os vs ko kv R L:=by
 unfold dcL;rw[yf9 _ _ _ _ _ _ _ _ _ h]
theorem yF8{R S:List RT}(st n fine:Int)(zs os vs:List Int)(ko kv:Nat)(L:List Int)(h:S.map RT.key=R.map RT.key):dcN st n fine zs os vs ko kv S L=dcN st n fine zs os vs ko kv R L:=by
 unfold dcN;rw[yf9 _ _ _ _ _ _ _ _ _ h,zR7 _ h]
theorem y23(S P:List Int)(R:List RT)(L:List Int):∀(i:Nat) (x:Int),x∈(lvF S P R L i).2->x∈L∨∃j,j<i/\x=pkd S P j
 |0,_,h=>.inl h
 |i+1,x,h=>by
  rcases(zz3 _ _ x).1 h with e|e
  ·exact .inr ⟨i,by omega,e⟩
  ·rcases y23 S P R L i x e with h1|⟨j,hj,h1⟩
   ·exact .inl h1
   ·exact .inr ⟨j,by omega,h1⟩
theorem yH6{n:Int}{zs os vs:List Int}{ko kv:Nat}{fine:Int}{R:List RT}{L S P:List Int}(h:zc3 n zs os vs ko kv fine R L=0)(hI:LvI S P L.length 0 R L)(ho:∀x∈za8 R R.length,zm0 os ko x=true):∀x∈(lvF S P R L P.length).2,(Lit.int zb x).wf=true:=fun x hx=>by
 obtain⟨h1,_,_,h4,_⟩:=zb5 h;refine yA6 h1 ?_;rcases y23 S P R L _ x hx with hl|⟨j,hj,e⟩
 ·obtain⟨i,hi,e⟩:=zt5 hl
  rw[<-e];exact(h4 i hi).1
 ·rw[e]
  exact ho _ (hI.mm j (yZ _) hj)
theorem yq5{n:Int}{zs os vs:List Int}{ko kv:Nat}{fine:Int}{R:List RT}{L:List Int}(h:zc3 n zs os vs ko kv fine R L=0):∀x∈za8 R R.length,zm0 os ko x=true:=fun x hx=>by
 obtain⟨_,h2,_⟩:=zb5 h;rw[zb6]at hx;obtain⟨r,hr,hxr⟩:=qG.1 hx;obtain⟨j,hj,e⟩:=zo5 hr;have h3:=(zf5 (zg6 (h2 j hj).2.2).1).2.2;rw[e]at h3;obtain⟨i,hi,e2⟩:=zt5 hxr;have h4:=zX h3;have h5:=h4.2 i hi;rw[<-e2];unfold zY7 at h5;simp only[zY]at h5;exact h5.1
noncomputable def deS(R:List RT):List Int:=zr3 (za8 R R.length)
noncomputable def deP(sd kk:Int)(R:List RT):List Int:=zt0 sd (deS R).length (min kk ((deS R).length:Int))
noncomputable def deQ(sd kk:Int)(R:List RT)(L:List Int):List RT×List Int:=lvF (deS R) (deP sd kk R) R L (deP sd kk R).length
noncomputable def deW(sd kk n fine:Int)(zs os vs:List Int)(ko kv:Nat)(R:List RT)(L:List Int):Int:=zc3 n zs os vs ko kv fine (deQ sd kk R L).1 (deQ sd kk R L).2
noncomputable def deB(sd kk n fine:Int)(zs os vs:List Int)(ko kv:Nat)(R:List RT)(L:List Int):Bool:=decide (zc3 n zs os vs ko kv fine R L=0)&&(inB kk 0 12&&inB sd 0 2147483647)
noncomputable def deF(sd kk n fine:Int)(zs os vs:List Int)(ko kv:Nat)(R:List RT)(L:List Int):Bool:=deB sd kk n fine zs os vs ko kv R L&&decide (deW sd kk n fine zs os vs ko kv R L=0)
noncomputable def deR(sd kk n fine:Int)(zs os vs:List Int)(ko kv:Nat)(R:List RT)(L:List Int):List RT:=bif deB sd kk n fine zs os vs ko kv R L then(if deW sd kk n fine zs os vs ko kv R L=0 then(deQ sd kk R L).1 else R)else []
noncomputable def deL(sd kk n fine:Int)(zs os vs:List Int)(ko kv:Nat)(R:List RT)(L:List Int):List Int:=bif deB sd kk n fine zs os vs ko kv R L then(if deW sd kk n fine zs os vs ko kv R L=0 then(deQ sd kk R L).2 else L)else []
noncomputable def deN(sd kk n fine:Int)(zs os vs:List Int)(ko kv:Nat)(R:List RT)(L:List Int):Int:=bif deB sd kk n fine zs os vs ko kv R L then z88 sd (deS R).length (min kk ((deS R).length:Int))else -1
theorem yd9{R R':List RT}(h:R'.map RT.key=R.map RT.key):deS R'=deS R:=by
 unfold deS;rw[zb6,zb6,z33 h]
theorem yE5{R R':List RT}(sd kk:Int)(h:R'.map RT.key=R.map RT.key):deP sd kk R'=deP sd kk R:=by
 unfold deP;rw[yd9 h]
theorem yu6{R R':List RT}(S P L:List Int)(h:R'.map RT.key=R.map RT.key):∀i,(lvF S P R' L i).1.map RT.key=(lvF S P R L i).1.map RT.key/\(lvF S P R' L i).2=(lvF S P R L i).2
 |0=>⟨h,rfl⟩
 |i+1=>by
  obtain⟨h1,h2⟩:=yu6 S P L h i;exact⟨zG5 h1 _,by rw[lvF,lvF,h2]⟩
theorem yg8{R R':List RT}(sd kk:Int)(L:List Int)(h:R'.map RT.key=R.map RT.key):(deQ sd kk R' L).1.map RT.key=(deQ sd kk R L).1.map RT.key/\(deQ sd kk R' L).2=(deQ sd kk R L).2:=by
 unfold deQ;rw[yd9 h,yE5 sd kk h];exact yu6 _ _ _ h _
theorem yd0{R R':List RT}(sd kk n fine:Int)(zs os vs:List Int)(ko kv:Nat)(L:List Int)(h:R'.map RT.key=R.map RT.key):deW sd kk n fine zs os vs ko kv R' L=deW sd kk n fine zs os vs ko kv R L:=by
 obtain⟨h1,h2⟩:=yg8 sd kk L h;unfold deW;rw[zd2 _ h1,h2]
theorem zE6{R R':List RT}(sd kk n fine:Int)(zs os vs:List Int)(ko kv:Nat)(L:List Int)(h:R'.map RT.key=R.map RT.key):deB sd kk n fine zs os vs ko kv R' L=deB sd kk n fine zs os vs ko kv R L:=by
 unfold deB;rw[zd2 _ h]
theorem yd1{R R':List RT}(sd kk n fine:Int)(zs os vs:List Int)(ko kv:Nat)(L:List Int)(h:R'.map RT.key=R.map RT.key):deF sd kk n fine zs os vs ko kv R' L=deF sd kk n fine zs os vs ko kv R L:=by
 unfold deF;rw[zE6 _ _ _ _ _ _ _ _ _ _ h,yd0 _ _ _ _ _ _ _ _ _ _ h]
theorem yg4{R R':List RT}(sd kk n fine:Int)(zs os vs:List Int)(ko kv:Nat)(L:List Int)(h:R'.map RT.key=R.map RT.key):deL sd kk n fine zs os vs ko kv R' L=deL sd kk n fine zs os vs ko kv R L:=by
 unfold deL;rw[zE6 _ _ _ _ _ _ _ _ _ _ h,yd0 _ _ _ _ _ _ _ _ _ _ h,(yg8 sd kk L h).2]
theorem yc5{R R':List RT}(sd kk n fine:Int)(zs os vs:List Int)(ko kv:Nat)(L:List Int)(h:R'.map RT.key=R.map RT.key):deN sd kk n fine zs os vs ko kv R' L=deN sd kk n fine zs os vs ko kv R L:=by
 unfold deN;rw[zE6 _ _ _ _ _ _ _ _ _ _ h,yd9 h]
theorem yg2{R R':List RT}(sd kk n fine:Int)(zs os vs:List Int)(ko kv:Nat)(L:List Int)(h:R'.map RT.key=R.map RT.key):(deR sd kk n fine zs os vs ko kv R' L).map RT.key=(deR sd kk n fine zs os vs ko kv R L).map RT.key:=by
 unfold deR;rw[zE6 _ _ _ _ _ _ _ _ _ _ h,yd0 _ _ _ _ _ _ _ _ _ _ h];cases deB sd kk n fine zs os vs ko kv R L
 ·rfl
 ·simp only[qY]
  split
  ·exact(yg8 sd kk L h).1
  ·exact h
structure DeI(sd kk:Int)(R:List RT)(L:List Int):Prop where
 i:LvI (deS R) (deP sd kk R) L.length 0 R L
 d:∀i j,i<j->j<(deP sd kk R).length->pkd (deS R) (deP sd kk R) i≠pkd (deS R) (deP sd kk R) j
 p:∀i,i<(deP sd kk R).length->0<=(deP sd kk R).getD i 0/\(deP sd kk R).getD i 0<(deS R).length
 m:(deP sd kk R).length<=(deS R).length
 t:L.length+(deS R).length<=12
 r:R.length<=12
 w:∀x∈(deQ sd kk R L).2,(Lit.int zb x).wf=true
theorem zQ8{sd kk n fine:Int}{zs os vs:List Int}{ko kv:Nat}{R:List RT}{L:List Int}(h:zc3 n zs os vs ko kv fine R L=0)(hk:inB kk 0 12=true)(hs:inB sd 0 2147483647=true):DeI sd kk R L:=by
 obtain⟨h1,h2,h3,h4,h5⟩:=zb5 h;obtain⟨s1,s2,s3⟩:=zk3 h;have hk1:=zc7 hk;have hN:(deS R).length=(za8 R R.length).length:=by unfold deS;rw[zo3]
 have hko:ko<=12:=by
  have hc:=h1;unfold zc8 at hc;simp only[zY]at hc;exact(zd9 hc.1.1.2).1
 obtain⟨K,hK⟩:=xm (show 0<=min kk ((deS R).length:Int) by omega);have hB:zu3 sd ((deS R).length:Int) (K:Int)=true:=by
  unfold zu3;rw[hs,zf3 (show(0:Int)<=((deS R).length:Int)/\((deS R).length:Int)<=64 by omega),zf3 (show(0:Int)<=(K:Int)/\(K:Int)<=((deS R).length:Int) by omega)];rfl
 obtain⟨f1,f2,f3,f4,f5,_⟩:=yo3 hB;have hP:deP sd kk R=zt0 sd ((deS R).length:Int) (K:Int):=by unfold deP;rw[hK]
 have hl:(deP sd kk R).length=K:=by rw[hP,f3]
 have hp:∀i,i<(deP sd kk R).length->0<=(deP sd kk R).getD i 0/\(deP sd kk R).getD i 0<(deS R).length:=fun i hi=>by
  have:=f5 i (by omega);rw[hP];exact⟨this.1,this.2.1⟩
 have hnd:(deP sd kk R).Nodup:=by
  rw[hP,(zu4 hB).1];exact zT3 K _ _ (z68 _) (by rw[zg9];exact f1)
 have hI:LvI (deS R) (deP sd kk R) L.length 0 R L:=yk3 h rfl hp;refine⟨hI,y69 (yn5 s2) hnd hp,hp,by omega,by omega,?_,yH6 h hI (yq5 h)⟩;have:=yb2 R hI.ne;rw[<-zb6]at this;omega
theorem ym3{sd kk n fine:Int}{zs os vs:List Int}{ko kv:Nat}{R:List RT}{L:List Int}(h:deB sd kk n fine zs os vs ko kv R L=true):zc3 n zs os vs ko kv fine R L=0/\inB kk 0 12=true/\inB sd 0 2147483647=true:=by
 unfold deB at h;simp only[zY,qE]at h;exact h
def seK(i:Nat):Int:=1+((i % 3:Nat):Int)
noncomputable def seY(n fine:Int)(zs os vs:List Int)(ko kv:Nat)(R:List RT)(L:List Int):List RT×List Int:=(dsR n fine zs os vs ko kv (grd n fine zs os vs ko kv L.length R L).2 3 (grd n fine zs os vs ko kv L.length R L).1,(grd n fine zs os vs ko kv L.length R L).2)
noncomputable def seD(sd kk n fine:Int)(zs os vs:List Int)(ko kv:Nat)(R:List RT)(L:List Int):List RT×List Int:=seY n fine zs os vs ko kv (deR sd kk n fine zs os vs ko kv R L) (deL sd kk n fine zs os vs ko kv R L)
noncomputable def seB(sd kk n fine:Int)(zs os vs:List Int)(ko kv:Nat)(R:List RT)(L:List Int):Bool:=deF sd kk n fine zs os vs ko kv R L&&decide (zw1 n zs os vs ko kv fine (seD sd kk n fine zs os vs ko kv R L).1 (seD sd kk n fine zs os vs ko kv R L).2<zw1 n zs os vs ko kv fine R L)
noncomputable def seN(sd kk n fine:Int)(zs os vs:List Int)(ko kv:Nat)(R:List RT)(L:List Int):List RT×List Int:=bif seB sd kk n fine zs os vs ko kv R L then seD sd kk n fine zs os vs ko kv R L else(R,L)
noncomputable def seP(sd n fine:Int)(zs os vs:List Int)(ko kv:Nat)(R:List RT)(L:List Int):Nat->(List RT×List Int)×Int
 |0=>((R,L),sd)
 |i+1=>(seN (seP sd n fine zs os vs ko kv R L i).2 (seK i) n fine zs os vs ko kv (seP sd n fine zs os vs ko kv R L i).1.1 (seP sd n fine zs os vs ko kv R L i).1.2,deN (seP sd n fine zs os vs ko kv R L i).2 (seK i) n fine zs os vs ko kv (seP sd n fine zs os vs ko kv R L i).1.1 (seP sd n fine zs os vs ko kv R L i).1.2)
noncomputable def seC(sd n fine:Int)(zs os vs:List Int)(ko kv:Nat)(R:List RT)(L:List Int)(i:Nat):Int:=zw1 n zs os vs ko kv fine (seP sd n fine zs os vs ko kv R L i).1.1 (seP sd n fine zs os vs ko kv R L i).1.2
noncomputable def seT(sd n fine:Int)(zs os vs:List Int)(ko kv:Nat)(R:List RT)(L:List Int)(i:Nat):List Int:=(zo (i+1)).map (seC sd n fine zs os vs ko kv R L)
theorem yA5(i:Nat):inB (seK i) 0 12=true:=zf3 (by unfold seK;omega)
theorem yl5(sd n fine:Int)(zs os vs:List Int)(ko kv:Nat)(R:List RT)(L:List Int)(i:Nat):seT sd n fine zs os vs ko kv R L (i+1)=seT sd n fine zs os vs ko kv R L i++[seC sd n fine zs os vs ko kv R L (i+1)]:=by
 unfold seT;rw[yG (n:=i+1),xX];rfl
theorem yh3(sd n fine:Int)(zs os vs:List Int)(ko kv:Nat)(R:List RT)(L:List Int)(i:Nat):(seT sd n fine zs os vs ko kv R L i).length=i+1:=by
 unfold seT;rw[qn,List.length_range]
theorem yv7{n fine:Int}{zs os vs:List Int}{ko kv:Nat}{R S:List RT}(L:List Int)(h:S.map RT.key=R.map RT.key):(seY n fine zs os vs ko kv S L).1.map RT.key=(seY n fine zs os vs ko kv R L).1.map RT.key/\(seY n fine zs os vs ko kv S L).2=(seY n fine zs os vs ko kv R L).2:=by
 obtain⟨h1,h2⟩:=z70 (n:=n) (fine:=fine) (zs:=zs) (os:=os) (vs:=vs) (ko:=ko) (kv:=kv) L.length L h;unfold seY;exact⟨by rw[h2];exact z69 3 h1,h2⟩
theorem y18{R S:List RT}(sd kk n fine:Int)(zs os vs:List Int)(ko kv:Nat)(L:List Int)(h:S.map RT.key=R.map RT.key):(seD sd kk n fine zs os vs ko kv S L).1.map RT.key=(seD sd kk n fine zs os vs ko kv R L).1.map RT.key/\(seD sd kk n fine zs os vs ko kv S L).2=(seD sd kk n fine zs os vs ko kv R L).2:=by
 unfold seD;rw[yg4 sd kk n fine zs os vs ko kv L h];exact yv7 _ (yg2 sd kk n fine zs os vs ko kv L h)
theorem yB1{R S:List RT}(sd kk n fine:Int)(zs os vs:List Int)(ko kv:Nat)(L:List Int)(h:S.map RT.key=R.map RT.key):seB sd kk n fine zs os vs ko kv S L=seB sd kk n fine zs os vs ko kv R L:=by
 obtain⟨h1,h2⟩:=y18 sd kk n fine zs os vs ko kv L h;unfold seB;rw[yd1 sd kk n fine zs os vs ko kv L h,h2,zu1 _ h1,zu1 _ h]
theorem yC8{R S:List RT}(sd kk n fine:Int)(zs os vs:List Int)(ko kv:Nat)(L:List Int)(h:S.map RT.key=R.map RT.key):(seN sd kk n fine zs os vs ko kv S L).1.map RT.key=(seN sd kk n fine zs os vs ko kv R L).1.map RT.key/\(seN sd kk n fine zs os vs ko kv S L).2=(seN sd kk n fine zs os vs ko kv R L).2:=by
 unfold seN;rw[yB1 sd kk n fine zs os vs ko kv L h];cases seB sd kk n fine zs os vs ko kv R L
 ·exact⟨h,rfl⟩
 ·exact y18 sd kk n fine zs os vs ko kv L h
theorem zP3{R S:List RT}(sd n fine:Int)(zs os vs:List Int)(ko kv:Nat)(L:List Int)(h:S.map RT.key=R.map RT.key):∀i,(seP sd n fine zs os vs ko kv S L i).1.1.map RT.key=(seP sd n fine zs os vs ko kv R L i).1.1.map RT.key/\(seP sd n fine zs os vs ko kv S L i).1.2=(seP sd n fine zs os vs ko kv R L i).1.2/\(seP sd n fine zs os vs ko kv S L i).2=(seP sd n fine zs os vs ko kv R L i).2
 |0=>⟨h,rfl,rfl⟩
 |i+1=>by
  obtain⟨h1,h2,h3⟩:=zP3 sd n fine zs os vs ko kv L h i;simp only[seP];rw[h2,h3];obtain⟨h4,h5⟩:=yC8 (seP sd n fine zs os vs ko kv R L i).2 (seK i) n fine zs os vs ko kv (seP sd n fine zs os vs ko kv R L i).1.2 h1;exact⟨h4,h5,yc5 _ _ _ _ _ _ _ _ _ _ h1⟩
theorem yE8{R S:List RT}(sd n fine:Int)(zs os vs:List Int)(ko kv:Nat)(L:List Int)(h:S.map RT.key=R.map RT.key)(i:Nat):seC sd n fine zs os vs ko kv S L i=seC sd n fine zs os vs ko kv R L i:=by
 obtain⟨h1,h2,_⟩:=zP3 sd n fine zs os vs ko kv L h i;unfold seC;rw[h2,zu1 _ h1]
theorem yE6{R S:List RT}(sd n fine:Int)(zs os vs:List Int)(ko kv:Nat)(L:List Int)(h:S.map RT.key=R.map RT.key)(i:Nat):seT sd n fine zs os vs ko kv S L i=seT sd n fine zs os vs ko kv R L i:=by
 unfold seT;exact List.map_congr_left (fun j _=>yE8 sd n fine zs os vs ko kv L h j)
theorem yJ6(k:Nat):∀(L:List Int) (s:Int),inB s 0 2147483647=true->inB (pkL k L s).2 0 2147483647=true:=by
 induction k with
 |zero=>intro L s h;exact h
 |succ k ih=>intro L s _;exact ih _ _ (zQ2 s)
theorem yH7{sd kk n fine:Int}{zs os vs:List Int}{ko kv:Nat}{R:List RT}{L:List Int}(h:deB sd kk n fine zs os vs ko kv R L=true):inB (deN sd kk n fine zs os vs ko kv R L) 0 2147483647=true:=by
 obtain⟨h1,h2,h3⟩:=ym3 h;have hk:=zc7 h2;obtain⟨K,hK⟩:=xm (show 0<=min kk ((deS R).length:Int) by omega);have D:=(zQ8 h1 h2 h3).t;have hB:zu3 sd ((deS R).length:Int) (K:Int)=true:=by
  unfold zu3;rw[h3,zf3 (show(0:Int)<=((deS R).length:Int)/\((deS R).length:Int)<=64 by omega),zf3 (show(0:Int)<=(K:Int)/\(K:Int)<=((deS R).length:Int) by omega)];rfl
 unfold deN;rw[h,hK,qY,(zu4 hB).2];exact yJ6 K _ _ h3
theorem y90{sd kk n fine:Int}{zs os vs:List Int}{ko kv:Nat}{R:List RT}{L:List Int}(h1:zc3 n zs os vs ko kv fine R L=0)(h2:inB kk 0 12=true)(h3:inB sd 0 2147483647=true):deB sd kk n fine zs os vs ko kv R L=true:=by
 unfold deB;rw[h2,h3,h1];rfl
theorem zC8{sd kk n fine:Int}{zs os vs:List Int}{ko kv:Nat}{R:List RT}{L:List Int}(h:deF sd kk n fine zs os vs ko kv R L=true):deR sd kk n fine zs os vs ko kv R L=(deQ sd kk R L).1/\deL sd kk n fine zs os vs ko kv R L=(deQ sd kk R L).2/\zc3 n zs os vs ko kv fine (deR sd kk n fine zs os vs ko kv R L) (deL sd kk n fine zs os vs ko kv R L)=0:=by
 unfold deF at h;rw[zY,qE]at h;have e1:deR sd kk n fine zs os vs ko kv R L=(deQ sd kk R L).1:=by unfold deR;rw[h.1,qY,zV h.2]
 have e2:deL sd kk n fine zs os vs ko kv R L=(deQ sd kk R L).2:=by unfold deL;rw[h.1,qY,zV h.2]
 exact⟨e1,e2,by rw[e1,e2];exact h.2⟩
theorem ym1{n fine:Int}{zs os vs:List Int}{ko kv:Nat}{R:List RT}{L:List Int}(h:zc3 n zs os vs ko kv fine R L=0):zc3 n zs os vs ko kv fine (seY n fine zs os vs ko kv R L).1 (seY n fine zs os vs ko kv R L).2=0:=
 yy3 3 (zC4 L.length R L h).1
theorem y55{sd kk n fine:Int}{zs os vs:List Int}{ko kv:Nat}{R:List RT}{L:List Int}(h:zc3 n zs os vs ko kv fine R L=0):zc3 n zs os vs ko kv fine (seN sd kk n fine zs os vs ko kv R L).1 (seN sd kk n fine zs os vs ko kv R L).2=0:=by
 unfold seN;cases hB:seB sd kk n fine zs os vs ko kv R L
 ·exact h
 ·unfold seB at hB
  rw[zY]at hB;exact ym1 (zC8 hB.1).2.2
theorem zC5{sd n fine:Int}{zs os vs:List Int}{ko kv:Nat}{R:List RT}{L:List Int}(h:zc3 n zs os vs ko kv fine R L=0)(hs:inB sd 0 2147483647=true):∀i,zc3 n zs os vs ko kv fine (seP sd n fine zs os vs ko kv R L i).1.1 (seP sd n fine zs os vs ko kv R L i).1.2=0/\inB (seP sd n fine zs os vs ko kv R L i).2 0 2147483647=true
 |0=>⟨h,hs⟩
 |i+1=>by
  obtain⟨h1,h2⟩:=zC5 h hs i;exact⟨y55 h1,yH7 (y90 h1 (yA5 i) h2)⟩
noncomputable def sgB(sd st n fine:Int)(zs os vs:List Int)(ko kv:Nat)(R:List RT)(L:List Int):Bool:=decide (zc3 n zs os vs ko kv fine R L=0)&&(inB st 0 60&&inB sd 0 2147483647)
noncomputable def sgR(sd st n fine:Int)(zs os vs:List Int)(ko kv:Nat)(R:List RT)(L:List Int):List RT:=bif sgB sd st n fine zs os vs ko kv R L then(seP sd n fine zs os vs ko kv R L st.toNat).1.1 else []
noncomputable def sgL(sd st n fine:Int)(zs os vs:List Int)(ko kv:Nat)(R:List RT)(L:List Int):List Int:=bif sgB sd st n fine zs os vs ko kv R L then(seP sd n fine zs os vs ko kv R L st.toNat).1.2 else []
noncomputable def sgT(sd st n fine:Int)(zs os vs:List Int)(ko kv:Nat)(R:List RT)(L:List Int):List Int:=bif sgB sd st n fine zs os vs ko kv R L then seT sd n fine zs os vs ko kv R L st.toNat else []
theorem zI0{R S:List RT}(sd st n fine:Int)(zs os vs:List Int)(ko kv:Nat)(L:List Int)(h:S.map RT.key=R.map RT.key):sgB sd st n fine zs os vs ko kv S L=sgB sd st n fine zs os vs ko kv R L:=by
 unfold sgB;rw[zd2 _ h]
theorem y11{R S:List RT}(sd st n fine:Int)(zs os vs:List Int)(ko kv:Nat)(L:List Int)(h:S.map RT.key=R.map RT.key):(sgR sd st n fine zs os vs ko kv S L).map RT.key=(sgR sd st n fine zs os vs ko kv R L).map RT.key:=by
 unfold sgR;rw[zI0 sd st n fine zs os vs ko kv L h];cases sgB sd st n fine zs os vs ko kv R L
 ·rfl
 ·exact(zP3 sd n fine zs os vs ko kv L h _).1
theorem y02{R S:List RT}(sd st n fine:Int)(zs os vs:List Int)(ko kv:Nat)(L:List Int)(h:S.map RT.key=R.map RT.key):sgL sd st n fine zs os vs ko kv S L=sgL sd st n fine zs os vs ko kv R L:=by
 unfold sgL;rw[zI0 sd st n fine zs os vs ko kv L h,(zP3 sd n fine zs os vs ko kv L h _).2.1]
theorem y20{R S:List RT}(sd st n fine:Int)(zs os vs:List Int)(ko kv:Nat)(L:List Int)(h:S.map RT.key=R.map RT.key):sgT sd st n fine zs os vs ko kv S L=sgT sd st n fine zs os vs ko kv R L:=by
 unfold sgT;rw[zI0 sd st n fine zs os vs ko kv L h,yE6 sd n fine zs os vs ko kv L h]
theorem yB3{sd st n fine:Int}{zs os vs:List Int}{ko kv:Nat}{R:List RT}{L:List Int}:(sgT sd st n fine zs os vs ko kv R L).length<=61:=by
 unfold sgT;cases hB:sgB sd st n fine zs os vs ko kv R L
 ·simp
 ·unfold sgB at hB
  simp only[zY]at hB;have:=zc7 hB.2.1;rw[qY,yh3];omega
theorem yH3(sd st n fine:Int)(zs os vs:List Int)(ko kv:Nat)(R:List RT)(L:List Int):(∀r∈sgR sd st n fine zs os vs ko kv R L,r.ids≠[]/\r.ids.length<=12)/\(sgR sd st n fine zs os vs ko kv R L).length<=500/\(sgL sd st n fine zs os vs ko kv R L).length<=500:=by
 unfold sgR sgL;cases hB:sgB sd st n fine zs os vs ko kv R L
 ·simp
 ·unfold sgB at hB
  simp only[zY,qE]at hB;have h4:=(zC5 hB.1 hB.2.2 st.toNat).1;obtain⟨_,g2,_⟩:=zb5 h4;obtain⟨_,hok⟩:=zh3.1 g2;have hs:=ze4 h4;simp only[qY];exact⟨fun r hr=>⟨(hok r hr).1,zk7 (hok r hr).2⟩,by omega,by omega⟩
structure DF(w W:zg)(cs:Array Value):Prop where
 b:Below w.heap.size w W
 c:W.heap[w.heap.size]? =some (.cells cs 30 (0,0))
theorem DF.below{w W W':zg}{cs:Array Value}(h:DF w W cs)(hb:Below W.heap.size W W'):DF w W' cs:=
 ⟨h.b.trans (hb.mono h.b.size),za0 hb (za2 h.c) h.c⟩
def zu8(W:zg)(kb cb:Nat)(kk:Int)(cs:Array Value):Prop:=W.cell? ⟨kb,0,none⟩=some (zc zb kk)/\W.heap[cb]? =some (.cells cs 30 (0,0))
theorem zu8.below{W W':zg}{kb cb:Nat}{kk:Int}{cs:Array Value}(h:zu8 W kb cb kk cs)(hb:Below W.heap.size W W'):zu8 W' kb cb kk cs:=
 ⟨(hb.cell (p:=⟨kb,0,none⟩) (zT h.1)).trans h.1,za0 hb (za2 h.2) h.2⟩
def zj1(W:zg)(b m g:Nat)(cs:Array Value):Prop:=(b<=g/\g<m)/\∀j,j<3->∃kb cb:Nat,(b<=kb/\kb<m/\b<=cb/\cb<m)/\W.cell? ⟨g,j,none⟩=some (.func (.func 112) #[] #[.pointer (some ⟨kb,0,none⟩),.pointer (some ⟨cb,0,none⟩)])/\zu8 W kb cb (1+(j:Int)) cs
theorem zj1.below{W W':zg}{b m g:Nat}{cs:Array Value}(h:zj1 W b m g cs)(hb:Below W.heap.size W W'):zj1 W' b m g cs:=⟨h.1,fun j hj=>by
 obtain⟨kb,cb,h0,h1,h2⟩:=h.2 j hj;exact⟨kb,cb,h0,(hb.cell (p:=⟨g,j,none⟩) (zT h1)).trans h1,h2.below hb⟩⟩
theorem zj1.set{W:zg}{b m g k i:Nat}{v:Value}{cs:Array Value}(h:zj1 W b m g cs)(hk:k<b∨m<=k):zj1 (W.setCell ⟨k,i,none⟩ v) b m g cs:=⟨h.1,fun j hj=>by
 obtain⟨kb,cb,h0,h1,h2,h3⟩:=h.2 j hj;have hg:=h.1;exact⟨kb,cb,h0,z51 h1 (by omega),z51 h2 (by omega),za6 h3 (by omega)⟩⟩
theorem zj1.grown{W W':zg}{b m g:Nat}{row:Option Nat}{cs:Array Value}(h:zj1 W b m g cs)(hg:W.grownBy W' row)(hr:∀z,row=some z->m<=z):zj1 W' b m g cs:=⟨h.1,fun j hj=>by
 obtain⟨kb,cb,h0,h1,h2,h3⟩:=h.2 j hj;have hg2:=h.1;have hc:∀(k i:Nat) (v:Value),k<m->W.cell? ⟨k,i,none⟩=some v->W'.cell? ⟨k,i,none⟩=some v:=fun k i v hk hv=>by
  have h9:=hg.block k (zT hv) (fun e=>by have:=hr k e.symm;omega);unfold zy at hv⊢;simp only at hv⊢;rw[h9];exact hv
 exact⟨kb,cb,h0,hc _ _ _ hg2.2 h1,hc _ _ _ h0.2.1 h2,(hg.block cb (za2 h3) (fun e=>by have:=hr cb e.symm;omega)).trans h3⟩⟩
theorem zB2(n fine:Int)(a ao av:Option Addr)(zl cap ko co kv cv:Nat)(w:zg):
 Calls ze 34 #[.agg #[zc zb n,za a zl cap,za ao ko co,za av kv cv,zc zb fine]] w fun e w'=>∃g:Nat,e=.returned (za (some ⟨g,0,none⟩) 3 3)/\Below w.heap.size w w'/\zj1 w' w.heap.size w'.heap.size g #[zc zb n,za a zl cap,za ao ko co,za av kv cv,zc zb fine]:=by
 have Q0:Hid (DF w (w.alloc (zd #[zc zb n,za a zl cap,za ao ko co,za av kv cv,zc zb fine] 30)) #[zc zb n,za a zl cap,za ao ko co,za av kv cv,zc zb fine]):=⟨zK _,zN _ _⟩;go_enter Tryz.func34,Tryz.ntmps34;go_upto_region 1 with fail;generalize w.alloc (zd #[zc zb n,za a zl cap,za ao ko co,za av kv cv,zc zb fine] 30)=w1 at*;refine qV (S:=(fun W=>W.cell? ⟨w.heap.size,0,none⟩=some (zc zb n)/\W.cell? ⟨w.heap.size,1,none⟩=some (za a zl cap)/\W.cell? ⟨w.heap.size,2,none⟩=some (za ao ko co)/\W.cell? ⟨w.heap.size,3,none⟩=some (za av kv cv)/\W.cell? ⟨w.heap.size,4,none⟩=some (zc zb fine))) (by kernel_rfl) ?_ (fun hHeld=> ?_)
 ·exact za7 (Q0.X.below (yV _ _).drew).c
 have G_d:Hid (DF w w1.drew #[zc zb n,za a zl cap,za ao ko co,za av kv cv,zc zb fine]):=Q0.X.below (yV _ _).drew;generalize w1.drew=wd at*;refine tkH 0 hHeld ?_;refine tkH 2 hHeld ?_;refine tkH 4 hHeld ?_;refine qT (rs:=[1]) (by kernel_rfl) (by simp) ?_;refine qR rfl (fun K hK=> ?_) qS;go_simp;refine(zv5 n fine 1 a ao av zl cap ko co kv cv wd).mono ?_;rintro e w2 ⟨kb1,cb1,hge,rfl,hb,hk,hc⟩;have N1:Hid (w.heap.size<=kb1/\w.heap.size<=cb1):=⟨y7 G_d.X.b.size hge.1,y7 G_d.X.b.size hge.2⟩;have G1:=za4 (G_d.X.below hb);have F1_1:Hid (zu8 w2 kb1 cb1 1 #[zc zb n,za a zl cap,za ao ko co,za av kv cv,zc zb fine]):=⟨hk,hc⟩;clear hb hk hc hge
 (try go_wp2_with fail)
 refine hK.out _ _ ?_ (fun hHeld=> ?_)
 ·exact za7 G1.X.c
 clear hK K
 (try simp only[zi,xB,zL,xC])
 refine qT (rs:=[3]) (by kernel_rfl) (by simp) ?_;refine qR rfl (fun K hK=> ?_) qS;go_simp;refine(zv5 n fine 2 a ao av zl cap ko co kv cv w2).mono ?_;rintro e w3 ⟨kb2,cb2,hge,rfl,hb,hk,hc⟩;have N2:Hid (w.heap.size<=kb2/\w.heap.size<=cb2):=⟨y7 G1.X.b.size hge.1,y7 G1.X.b.size hge.2⟩;have G2:=za4 (G1.X.below hb);have F2_2:Hid (zu8 w3 kb2 cb2 2 #[zc zb n,za a zl cap,za ao ko co,za av kv cv,zc zb fine]):=⟨hk,hc⟩;have F1_2:=za4 (F1_1.X.below hb);clear hb hk hc hge
 (try go_wp2_with fail)
 refine hK.out _ _ ?_ (fun hHeld=> ?_)
 ·exact za7 G2.X.c
 clear hK K
 (try simp only[zi,xB,zL,xC])
 refine qT (rs:=[5]) (by kernel_rfl) (by simp) ?_;refine qR rfl (fun K hK=> ?_) qS;go_simp;refine(zv5 n fine 3 a ao av zl cap ko co kv cv w3).mono ?_;rintro e w4 ⟨kb3,cb3,hge,rfl,hb,hk,hc⟩;have N3:Hid (w.heap.size<=kb3/\w.heap.size<=cb3):=⟨y7 G2.X.b.size hge.1,y7 G2.X.b.size hge.2⟩;have G3:=za4 (G2.X.below hb);have F3_3:Hid (zu8 w4 kb3 cb3 3 #[zc zb n,za a zl cap,za ao ko co,za av kv cv,zc zb fine]):=⟨hk,hc⟩;have F1_3:=za4 (F1_2.X.below hb);have F2_3:=za4 (F2_2.X.below hb);clear hb hk hc hge
 (try go_wp2_with fail)
 refine hK.out _ _ ?_ (fun hHeld=> ?_)
 ·exact za7 G3.X.c
 clear hK K
 (try simp only[zi,xB,zL,xC])
 refine qT (rs:=[6]) (by kernel_rfl) (by simp) ?_;refine qR rfl (fun K hK=> ?_) qS;have G4:Hid (DF w (w4.alloc (zd #[(.func (.func 112) #[] #[.pointer (some ⟨kb1,0,none⟩),.pointer (some ⟨cb1,0,none⟩)]),(.func (.func 112) #[] #[.pointer (some ⟨kb2,0,none⟩),.pointer (some ⟨cb2,0,none⟩)]),(.func (.func 112) #[] #[.pointer (some ⟨kb3,0,none⟩),.pointer (some ⟨cb3,0,none⟩)])] 72)) #[zc zb n,za a zl cap,za ao ko co,za av kv cv,zc zb fine]):=G3.X.below ((yV w4.heap.size w4).alloc (zQ _) _);have A4:Hid (zj1 (w4.alloc (zd #[(.func (.func 112) #[] #[.pointer (some ⟨kb1,0,none⟩),.pointer (some ⟨cb1,0,none⟩)]),(.func (.func 112) #[] #[.pointer (some ⟨kb2,0,none⟩),.pointer (some ⟨cb2,0,none⟩)]),(.func (.func 112) #[] #[.pointer (some ⟨kb3,0,none⟩),.pointer (some ⟨cb3,0,none⟩)])] 72)) w.heap.size (w4.alloc (zd #[(.func (.func 112) #[] #[.pointer (some ⟨kb1,0,none⟩),.pointer (some ⟨cb1,0,none⟩)]),(.func (.func 112) #[] #[.pointer (some ⟨kb2,0,none⟩),.pointer (some ⟨cb2,0,none⟩)]),(.func (.func 112) #[] #[.pointer (some ⟨kb3,0,none⟩),.pointer (some ⟨cb3,0,none⟩)])] 72)).heap.size w4.heap.size #[zc zb n,za a zl cap,za ao ko co,za av kv cv,zc zb fine]):=by
  have hr:=zN w4 (zd #[(.func (.func 112) #[] #[.pointer (some ⟨kb1,0,none⟩),.pointer (some ⟨cb1,0,none⟩)]),(.func (.func 112) #[] #[.pointer (some ⟨kb2,0,none⟩),.pointer (some ⟨cb2,0,none⟩)]),(.func (.func 112) #[] #[.pointer (some ⟨kb3,0,none⟩),.pointer (some ⟨cb3,0,none⟩)])] 72);have hsz:(w4.alloc (zd #[(.func (.func 112) #[] #[.pointer (some ⟨kb1,0,none⟩),.pointer (some ⟨cb1,0,none⟩)]),(.func (.func 112) #[] #[.pointer (some ⟨kb2,0,none⟩),.pointer (some ⟨cb2,0,none⟩)]),(.func (.func 112) #[] #[.pointer (some ⟨kb3,0,none⟩),.pointer (some ⟨cb3,0,none⟩)])] 72)).heap.size=w4.heap.size+1:=by simp
  have hw:=G3.X.b.size;refine⟨⟨hw,by omega⟩,fun j hj=> ?_⟩;rcases j with _|_|_|j
  ·exact⟨kb1,cb1,⟨N1.X.1,by have:=zT F1_3.X.1;simp only at this;omega,N1.X.2,by have:=za2 F1_3.X.2;omega⟩,zR _ _ _ _ _ _ hr,F1_3.X.below ((yV w4.heap.size w4).alloc (zQ _) _)⟩
  ·exact⟨kb2,cb2,⟨N2.X.1,by have:=zT F2_3.X.1;simp only at this;omega,N2.X.2,by have:=za2 F2_3.X.2;omega⟩,zR _ _ _ _ _ _ hr,F2_3.X.below ((yV w4.heap.size w4).alloc (zQ _) _)⟩
  ·exact⟨kb3,cb3,⟨N3.X.1,by have:=zT F3_3.X.1;simp only at this;omega,N3.X.2,by have:=za2 F3_3.X.2;omega⟩,zR _ _ _ _ _ _ hr,F3_3.X.below ((yV w4.heap.size w4).alloc (zQ _) _)⟩
  ·omega
 go_simp;refine hK.out _ _ ?_ (fun hHeld=> ?_)
 ·exact za7 G4.X.c
 clear hK K
 (try simp only[zi,xB,zL,xC])
 generalize(w4.alloc (zd #[(.func (.func 112) #[] #[.pointer (some ⟨kb1,0,none⟩),.pointer (some ⟨cb1,0,none⟩)]),(.func (.func 112) #[] #[.pointer (some ⟨kb2,0,none⟩),.pointer (some ⟨cb2,0,none⟩)]),(.func (.func 112) #[] #[.pointer (some ⟨kb3,0,none⟩),.pointer (some ⟨cb3,0,none⟩)])] 72))=w5 at*;refine tkH 7 hHeld ?_;refine qU (by kernel_rfl) ?_ _;clear hHeld
 (try go_wp2_with fail)
 refine yX (v:=za (some ⟨w4.heap.size,0,none⟩) 3 3) (by simp[results,Tryz.results34,go_sem]) rfl ?_;exact⟨_,rfl,G4.X.b,A4.X⟩
def yI8(w:zg)(v:Int)(f:Bool)(T:List RT)(L:List Int)(e:Ending)(w':zg):Prop:=∃(ra2:Option Addr) (n2 rc2:Nat) (la2:Option Addr) (l2 lc2:Nat) (R2:List RT),e=.returned (.tuple #[.agg #[za ra2 n2 rc2,za la2 l2 lc2],zc zb v,.bool f])/\Below w.heap.size w w'/\za9 w' ra2 R2/\R2.length=n2/\za3 w' la2 L/\L.length=l2/\R2.map RT.key=T.map RT.key/\((la2=none/\L.length=0)∨∃b off,la2=some ⟨b,off,none⟩)
def zS0(w:zg)(K:Nat->Prop)(v:Int)(f:Bool)(T:List RT)(L:List Int)(e:Ending)(w':zg):Prop:=∃(ra2:Option Addr) (n2 rc2:Nat) (la2:Option Addr) (l2 lc2:Nat) (R2:List RT),e=.returned (.tuple #[.agg #[za ra2 n2 rc2,za la2 l2 lc2],zc zb v,.bool f])/\Below w.heap.size w w'/\R2.map RT.key=T.map RT.key/\zb8 w' ra2 la2 n2 l2 R2 L/\∀k,k<w.heap.size->K k->zj0 k ra2 la2 R2 L
theorem zS0.is{w w':zg}{K:Nat->Prop}{v:Int}{f:Bool}{T:List RT}{L:List Int}{e:Ending}(h:zS0 w K v f T L e w'):yI8 w v f T L e w':=by
 obtain⟨ra2,n2,rc2,la2,l2,lc2,R2,h1,h2,h3,h4,_⟩:=h;exact⟨ra2,n2,rc2,la2,l2,lc2,R2,h1,h2,h4.2.2.1,h4.1,h4.2.2.2.1,h4.2.1,h3,h4.2.2.2.2.2.1.imp (fun h=>⟨h.1,h4.2.1.trans h.2⟩) id⟩
structure RQ(w W:zg)(cs ps ss:Array Value):Prop where
 b:Below w.heap.size w W
 c:W.heap[w.heap.size]? =some (.cells cs 30 (0,0))
 p:W.heap[w.heap.size+1]? =some (.cells ps 33 (0,0))
 s:W.heap[w.heap.size+2]? =some (.cells ss 129 (0,0))
 o:W.heap[w.heap.size+3]? =some (zd #[za none 0 0,za none 0 0] 33 (0,0))
theorem RQ.below{w W W':zg}{cs ps ss:Array Value}(h:RQ w W cs ps ss)(hb:Below W.heap.size W W'):RQ w W' cs ps ss:=
 ⟨h.b.trans (hb.mono h.b.size),za0 hb (za2 h.c) h.c,za0 hb (za2 h.p) h.p,za0 hb (za2 h.s) h.s,za0 hb (za2 h.o) h.o⟩
theorem RQ.size{w W:zg}{cs ps ss:Array Value}(h:RQ w W cs ps ss):w.heap.size+4<=W.heap.size:=za2 h.o
theorem RQ.set{w W:zg}{cs ps ss:Array Value}(h:RQ w W cs ps ss){k i:Nat}{v:Value}(hk:w.heap.size+4<=k):RQ w (W.setCell ⟨k,i,none⟩ v) cs ps ss:=
 ⟨h.b.setCell (by simp;omega) _,za6 h.c (by omega),za6 h.p (by omega),za6 h.s (by omega),za6 h.o (by omega)⟩
theorem RQ.new(w:zg)(cs ps ss:Array Value):RQ w ((((w.alloc (.cells cs 30)).alloc (.cells ps 33)).alloc (.cells ss 129)).alloc (zd #[za none 0 0,za none 0 0] 33)) cs ps ss:=by
 refine⟨(((zK _).alloc (by simp) _).alloc (by simp<;>omega) _).alloc (by simp<;>omega) _,?_,?_,?_,?_⟩
 ·exact(yY _ _ (by simp<;>omega)).trans ((yY _ _ (by simp<;>omega)).trans (xb _ _ _))
 ·exact(yY _ _ (by simp<;>omega)).trans ((yY _ _ (by simp)).trans (y8 _ _ _))
 ·refine(yY _ _ (by simp)).trans ?_
  have:=zN ((w.alloc (.cells cs 30)).alloc (.cells ps 33)) (.cells ss 129);simpa using this
 ·have:=zN (((w.alloc (.cells cs 30)).alloc (.cells ps 33)).alloc (.cells ss 129)) (zd #[za none 0 0,za none 0 0] 33)
  simpa using this
theorem zq1{w:zg}{k:Nat}{c0 c1 c2:Value}{T:TypeId}(r:w.heap[k]? =some (zd #[c0,c1,c2] T (0,0))):w.cell? ⟨k,0,none⟩=some c0/\w.cell? ⟨k,1,none⟩=some c1/\w.cell? ⟨k,2,none⟩=some c2:=by
 refine⟨?_,?_,?_⟩<;>simp[zy,r]
theorem yg7(tv:Int)(xa:Option Addr)(xl xc:Nat)(W:zg):(Instr.field 80 (.agg #[zc zb tv,za xa xl xc]) 1).run ze W=.ok (za xa xl xc) W:=by
 simp[Instr.field,xA Tryz.underlying80,part,asAgg,Tryz.isAgg24]
theorem yK0{W W':zg}{ra sa:Option Addr}{n c:Nat}{R:List RT}{r:RT}(h:za9 W ra R)(hb:Below W.heap.size W W')(hr:za3 W' r.a r.ids){base:Nat}(ho:W'.ownsRow base 80 2 (za sa n c) n (zg5 (wrL R r))):za9 W' sa (wrL R r):=zm1 ho (fun s hs=>by
 rcases zy8 hs with hs|rfl
 ·obtain⟨j,hj,rfl⟩:=zo5 hs
  obtain⟨_,_,_,_,_,h3⟩:=h j hj;exact h3.below hb
 ·exact hr)
theorem y99(R:List RT)(r:RT):(wrL R r).length<=2*R.length+1:=by
 unfold wrL;have h1:=yj (fun x:RT=>decide (x.v<r.v)) R;have h2:=yj (fun x:RT=>decide (r.v<x.v)) R;simp only[xU];split<;>simp<;>omega
theorem zU8(id tv pl n fine:Int)(a ao av ra la:Option Addr)(zl cap ko co kv cv nr rc ln lc:Nat)(zs os vs L:List Int)(R:List RT)(w:zg)(hA:za3 w a zs)(hO:za3 w ao os)(hV:za3 w av vs)(hlz:zs.length=zl)(hlo:os.length=ko*6)(hlv:vs.length=kv*5)(hko:ko<=9223372036854775807)(hkv:kv<=9223372036854775807)(hP:zb8 w ra la nr ln R L)(hpl:zc3 n zs os vs ko kv fine R L=0):
 Calls ze 122 #[.agg #[zc zb n,za a zl cap,za ao ko co,za av kv cv,zc zb fine],.agg #[za ra nr rc,za la ln lc],.agg #[zc zb id,zc zb tv,zc zb pl]] w (zS0 w (fun k=>zj0 k ra la R L) (rqD id tv pl n fine zs os vs ko kv R L) (rqB id tv pl n fine zs os vs ko kv R L) (rqR id tv pl n fine zs os vs ko kv R L) (rqL id tv pl n fine zs os vs ko kv R L)):=by
 obtain⟨hc,hr,ho1,hl1,hn1⟩:=zb5 hpl;obtain⟨hp,hok⟩:=zh3.1 hr;have hps:=ze4 hpl;have HCB:Hid _:=hc;have HPW:Hid _:=hp;have HNE:Hid (∀r∈R,r.ids≠[]):=fun r hr=>(hok r hr).1;have HND:Hid ((za8 R R.length).Nodup):=ho1.1;have HIN:Hid (zx3 R):=fun r hr=>⟨(hok r hr).1,zk7 (hok r hr).2,hP.2.2.2.2.2.2 r hr⟩;have HPL:Hid _:=hpl;have HA:=za4 hA;have HO:=za4 hO;have HV:=za4 hV;have HLZ:Hid _:=hlz;have HLO:Hid _:=hlo;have HLV:Hid _:=hlv;have HP:=za4 hP;have HN:Hid _:=hP.1;have HM:Hid _:=hP.2.1;have hr12:=hps.1;have HNO:Hid (rqB id tv pl n fine zs os vs ko kv R L=false->rqD id tv pl n fine zs os vs ko kv R L=0/\rqB id tv pl n fine zs os vs ko kv R L=false/\rqR id tv pl n fine zs os vs ko kv R L=[]/\rqL id tv pl n fine zs os vs ko kv R L=[]):=fun h=>by
  unfold rqD rqR rqL;rw[h];exact⟨rfl,rfl,rfl,rfl⟩
 have HYE:Hid (rqB id tv pl n fine zs os vs ko kv R L=true->rqD id tv pl n fine zs os vs ko kv R L=zh7 n zs os vs ko kv (rlN R id tv pl.toNat) (fine*L.length) (rlN R id tv pl.toNat).length - zh7 n zs os vs ko kv R (fine*L.length) R.length/\rqR id tv pl n fine zs os vs ko kv R L=rlN R id tv pl.toNat/\rqL id tv pl n fine zs os vs ko kv R L=L):=fun h=>by
  unfold rqD rqR rqL;rw[h];exact⟨rfl,rfl,rfl⟩
 have HBE:Hid (rqB id tv pl n fine zs os vs ko kv R L=(decide (id∈za8 R R.length)&&(inB pl 0 ((zc6 (lvR R id) tv).ids.length:Int)&&decide (zc3 n zs os vs ko kv fine (rlN R id tv pl.toNat) L=0)))):=by
  show _=_;unfold rqB;rw[zS HPL.X,qW]
 obtain⟨GD,HGD⟩:=nmd (rqD id tv pl n fine zs os vs ko kv R L);obtain⟨GB,HGB⟩:=nmd (rqB id tv pl n fine zs os vs ko kv R L);obtain⟨GR,HGR⟩:=nmd (rqR id tv pl n fine zs os vs ko kv R L);obtain⟨GL,HGL⟩:=nmd (rqL id tv pl n fine zs os vs ko kv R L);rw[HGD.X,HGB.X,HGR.X,HGL.X]at HNO;rw[HGD.X,HGB.X,HGR.X,HGL.X]at HYE;rw[HGB.X]at HBE;rw[HGD.X,HGB.X,HGR.X,HGL.X];clear hA hO hV hlz hlo hlv hP hpl hc hr ho1 hl1 hn1 hp hok hps HGD HGB HGR HGL;have Q0:Hid (RQ w ((((w.alloc (zd #[zc zb n,za a zl cap,za ao ko co,za av kv cv,zc zb fine] 30)).alloc (zd #[za ra nr rc,za la ln lc] 33)).alloc (zd #[zc zb id,zc zb tv,zc zb pl] 129)).alloc (zd #[za none 0 0,za none 0 0] 33)) #[zc zb n,za a zl cap,za ao ko co,za av kv cv,zc zb fine] #[za ra nr rc,za la ln lc] #[zc zb id,zc zb tv,zc zb pl]):=RQ.new _ _ _ _;have SO:=zL2 ra la rc ln lc R id ((((w.alloc (zd #[zc zb n,za a zl cap,za ao ko co,za av kv cv,zc zb fine] 30)).alloc (zd #[za ra nr rc,za la ln lc] 33)).alloc (zd #[zc zb id,zc zb tv,zc zb pl] 129)).alloc (zd #[za none 0 0,za none 0 0] 33)) (HP.2.2.1.below Q0.b) (by omega) (fun j hj=>by have:=(HIN.X _ (zh2 hj)).2.1;omega);rw[HN.X]at SO;obtain⟨p0,p1⟩:=za1 Q0.p;obtain⟨s0,s1,s2⟩:=zq1 Q0.s;go_enter Tryz.func122,Tryz.ntmps122
 go_wp2_with fail
 generalize(((w.alloc (zd #[zc zb n,za a zl cap,za ao ko co,za av kv cv,zc zb fine] 30)).alloc (zd #[za ra nr rc,za la ln lc] 33)).alloc (zd #[zc zb id,zc zb tv,zc zb pl] 129)).alloc (zd #[za none 0 0,za none 0 0] 33)=W0 at*;refine SO.mono ?_;rintro e w1 ⟨hst,hb⟩;have Q1:Hid _:=Q0.below hb;clear hb SO p0 p1 s0 s1 s2 Q0;rcases hst with⟨k,hk,hno,hix,rfl⟩|⟨hno,rfl⟩;rotate_left
 ·have hni:id∉za8 R R.length:=fun hm=>by
   rw[zb6]at hm;obtain⟨r,hr,hxr⟩:=qG.1 hm;obtain⟨j,hj,e⟩:=zo5 hr;obtain⟨i,hi,ei⟩:=zt5 (show id∈(R.getD j rt0).ids by rw[e];exact hxr);have:=hno j hj;have h9:zB9 (R.getD j rt0).ids (R.getD j rt0).ids.length id=i:=zQ5 hi ei (fun q hq e9=>zt2 (zt6 hj HND.X) hq hi (by rw[e9,ei]));omega
  clear hno;have QA:Hid (RQ w (w1.alloc (zd #[zc zb 0,za none 0 0] 80)) #[zc zb n,za a zl cap,za ao ko co,za av kv cv,zc zb fine] #[za ra nr rc,za la ln lc] #[zc zb id,zc zb tv,zc zb pl]):=Q1.below (zK _);obtain⟨g1,g2,g3,g4⟩:=HNO.X (by rw[HBE.X,zU hni,qX]);subst g1 g2 g3 g4;obtain⟨a0,a1⟩:=za1 QA.o;have af:=fun i=>yU _ _ i _ _ QA.o;have B5:=QA.b;clear HNO;go_wp2;refine yX (v:=.tuple #[.agg #[za none 0 0,za none 0 0],zc zb 0,.bool false]) (by simp[results,Tryz.results122,go_sem,a0,a1]) rfl ?_;show zS0 _ _ _ _ _ _ _ _;exact⟨none,0,0,none,0,0,[],rfl,(B5.setCell (by simp<;>omega) _).setCell (by simp<;>omega) _,rfl,⟨rfl,rfl,(fun j hj=>by simp at hj),(fun j hj=>by simp at hj),.inl ⟨rfl,rfl⟩,.inl ⟨rfl,rfl⟩,(fun r hr=>by cases hr)⟩,fun _ _ _=>⟨fun h=>absurd rfl h,fun h=>absurd rfl h,fun r hr=>by cases hr⟩⟩
 ·have hm:id∈(R.getD k rt0).ids:=by
   refine Decidable.byContradiction fun h9=> ?_;have:=zH2 (zs:=(R.getD k rt0).ids) (m:=(R.getD k rt0).ids.length) (id:=id) (fun j hj e9=>h9 (by rw[<-e9];exact zy0 _ _ hj));omega
  have HIM:Hid _:=hm;obtain⟨at_,ha,ea⟩:=zt5 hm;have hyn:=zt6 hk HND.X;have hx:zB9 (R.getD k rt0).ids (R.getD k rt0).ids.length id=at_:=zQ5 ha ea (fun j hj e9=>zt2 hyn hj ha (by rw[e9,ea]));rw[hx];have hfl:id∈za8 R R.length:=by rw[zb6];exact qG.2 ⟨_,zh2 hk,hm⟩
  rw[zS hfl,qW]at HBE;have HTW:=fun(R2:List RT) (h9:R2.map RT.key=(rlN R id tv pl.toNat).map RT.key)=>yt5 HPL.X hk hm tv pl.toNat h9;have HSM:=zV1 HPL.X hk hm tv pl.toNat;have HLK:=fun(a9:Option Addr) (c9:Nat)=>zM3 (zf0 HPW.X) hk HNE.X HND.X ha ea a9 c9;obtain⟨b0,o0,er,-⟩:=(HP.2.2.1 k hk).choose_spec.choose_spec.2.2.2 at_ ha;have HI0:Hid (∀W,Below w.heap.size w W->za3 W (some ⟨b0,o0,none⟩) (R.getD k rt0).ids):=fun W hW=>by
   obtain⟨_,_,_,_,_,h3⟩:=(HP.2.2.1.below hW) k hk;rw[er]at h3;exact h3
  have h12:=(HIN.X _ (zh2 hk)).2.1;rw[er];have HTW2:Hid _:=HTW;have HSM2:Hid _:=HSM;have HLK2:Hid _:=HLK;clear hno hix hx hfl HTW HSM HLK hm hyn ea er;obtain⟨y,HY⟩:=nmd (R.getD k rt0);rw[HY.X]at ha HTW2 HLK2 HI0 h12 HIM⊢;obtain⟨v0,ya,yids,c0⟩:=y;simp only at ha HTW2 HLK2 HI0 h12 HIM⊢;obtain⟨l0,HL0⟩:=nmd yids.length;rw[HL0.X]at ha h12⊢;have haI:inB (at_:Int) 0 ((l0:Int) - 1)=true:=zf3 (by omega);clear HY;have hA2:Below w1.heap.size w1 (w1.alloc (zd #[zc zb v0,za (some ⟨b0,o0,none⟩) l0 c0] 80)):=zK _;have Q2:Hid _:=Q1.below hA2;have F2:Hid ((w1.alloc (zd #[zc zb v0,za (some ⟨b0,o0,none⟩) l0 c0] 80)).heap[w1.heap.size]? =some (zd #[zc zb v0,za (some ⟨b0,o0,none⟩) l0 c0] 80 (0,0))):=zN _ _;have HKF:Hid _:=Q1.size;clear hA2 Q1
  go_wp2_with fail
  generalize w1.alloc (zd #[zc zb v0,za (some ⟨b0,o0,none⟩) l0 c0] 80)=W2 at*;obtain⟨kf,HKE⟩:=nmd w1.heap.size;rw[HKE.X]at F2 HKF⊢;refine qV (S:=(fun W=>W.cell? ⟨kf,0,none⟩=some (zc zb v0)/\W.cell? ⟨kf,1,none⟩=some (za (some ⟨b0,o0,none⟩) l0 c0))) (by kernel_rfl) ?_ (fun hHeld=> ?_)
  ·exact za1 (za0 (yV _ _).drew (za2 F2.X) F2.X)
  have QD:Hid _:=Q2.below (yV _ _).drew;have FD:Hid _:=za0 (yV _ _).drew (za2 F2.X) F2.X;generalize W2.drew=wd at*;refine tkH 0 hHeld ?_;refine tkH 2 hHeld ?_;refine tkH 3 hHeld ?_;refine qT (rs:=[1]) (by kernel_rfl) (by simp) ?_;refine qR rfl (fun K hK=> ?_) qS;go_simp;refine(z36 (at_:Int) wd).mono ?_;rintro e w3 ⟨pp,-,rfl,hb,hcp⟩;have Q3:Hid _:=QD.below hb;have F3:Hid _:=za0 hb (za2 FD.X) FD.X;have P3:Hid _:=hcp;clear hb hcp
  (try go_wp2_with fail)
  refine hK.out _ _ ?_ (fun hHeld=> ?_)
  ·exact za1 F3.X
  clear hK K
  (try simp only[zi,xB,zL,xC])
  refine qT (rs:=[4]) (by kernel_rfl) (by simp) ?_;refine qR rfl (fun K hK=> ?_) qS;go_simp;have TO:=zD8 pp (at_:Int) (some ⟨b0,o0,none⟩) c0 yids w3 P3.X (HI0.X w3 Q3.b) (by rw[HL0.X];exact h12);rw[HL0.X,haI]at TO;refine TO.mono ?_;rintro e w4 ⟨hb,⟨h9,_⟩|⟨_,g1,c1,rfl,ho⟩⟩
  ·cases h9
  have Q4:Hid _:=Q3.below hb;have F4:Hid _:=za0 hb (za2 F3.X) F3.X;have I4:Hid (za3 w4 (some ⟨g1,0,none⟩) (zk9 yids at_)):=zg7 ho;have hc1:(zk9 yids at_).length<=c1:=z60 ho;have HG1:Hid (w.heap.size<=g1):=by have h8:=z83 ho g1 0 rfl;have h7:=Q3.size;show _<=_;omega
  clear hb ho TO P3
  (try go_wp2_with fail)
  refine hK.out _ _ ?_ (fun hHeld=> ?_)
  ·exact za1 F4.X
  clear hK K
  (try simp only[zi,xB,zL,xC])
  refine tkH 5 hHeld ?_;refine tkH 6 hHeld ?_;refine tkH 7 hHeld ?_;refine tkH 8 hHeld ?_;refine tkH 9 hHeld ?_;refine qU (by kernel_rfl) ?_ _;clear hHeld;obtain⟨M1,HM1⟩:=nmd (zk9 yids at_);have HKY1:=HLK2.X (some ⟨g1,0,none⟩) c1;rw[HM1.X]at I4 hc1 HKY1
  try simp only[yk]
  try rw[HM1.X]
  have hM12:M1.length<=12:=by rw[<-HM1.X];unfold zk9;simp;have:=HL0.X;omega
  obtain⟨R1,HR1⟩:=nmd (wrL R ⟨v0,some ⟨g1,0,none⟩,M1,c1⟩);rw[HR1.X]at HKY1;have HPW1:Hid (R1.Pairwise (fun a b=>a.v<b.v)):=by rw[<-HR1.X];exact zM2 HPW.X
  have HIN1:Hid (zx3 R1):=fun r hr=>by
   rw[<-HR1.X]at hr;rcases zx9.1 hr with⟨hm9,_⟩|⟨e9,hn9⟩
   ·exact HIN.X r hm9
   ·rw[e9];exact⟨hn9,hM12,hc1⟩
  have OF1:Hid (∀k,k<w.heap.size->(∀r∈R,r.ids≠[]->∀b off,r.a=some ⟨b,off,none⟩->b≠k)->∀r∈R1,r.ids≠[]->∀b off,r.a=some ⟨b,off,none⟩->b≠k):=fun k hk h0 r hr=>by
   rw[<-HR1.X]at hr;rcases zy8 hr with hr|rfl
   ·exact h0 r hr
   ·intro _ b off e
    injection e with e
    injection e with e
    have:=HG1.X;omega
  have hR1n:R1.length<=25:=by rw[<-HR1.X];have:=y99 R ⟨v0,some ⟨g1,0,none⟩,M1,c1⟩;omega
  have HK1:Hid _:=HKY1;have WR1:=zp3 ra la rc ln lc R ⟨v0,some ⟨g1,0,none⟩,M1,c1⟩ w4 (HP.2.2.1.below Q4.b) (by omega) (zf0 HPW.X) (by rw[HN.X];exact HP.2.2.2.2.1) (by simp only;omega);rw[HN.X,HR1.X]at WR1;clear HKY1 HLK2;obtain⟨p0,p1⟩:=za1 Q4.p;obtain⟨f0,f1⟩:=za1 F4.X;obtain⟨m1,HM1L⟩:=nmd M1.length;simp only[HM1L.X]at WR1;rw[HM1L.X]at hM12 hc1
  try rw[HM1L.X]
  go_wp2_with fail
  refine WR1.mono ?_;rintro e w5 ⟨sl,rfl,hb,ho⟩;obtain⟨mr,HMR⟩:=nmd R1.length;rw[HMR.X]at ho hR1n;obtain⟨rb,mc,hsl⟩:=zh9 ho;subst hsl;have RA5:za9 w5 rb R1:=by
   have h9:=yK0 (HP.2.2.1.below Q4.b) hb (r:=⟨v0,some ⟨g1,0,none⟩,M1,c1⟩) (I4.below hb) (sa:=rb) (n:=mr) (c:=mc) (base:=w4.heap.size) (by rw[HR1.X];exact ho);rw[HR1.X]at h9;exact h9
  have HFB:Hid ((rb=none/\R1.length=0)∨∃b off,rb=some ⟨b,off,none⟩):=by
   rcases own_kinds ho with⟨h1,h2⟩|⟨g9,c9,h1,_⟩
   ·injection h1 with h1 _ _
    exact .inl ⟨h1,by rw[HMR.X];exact h2⟩
   ·injection h1 with h1 _ _
    exact .inr ⟨g9,0,h1⟩
  have hA6:Below w5.heap.size w5 (w5.alloc (zd #[za rb mr mc,za la ln lc] 33)):=zK _;have hb6:=hb.trans (hA6.mono hb.size);have Q6:Hid _:=Q4.below hb6;have F6:Hid _:=za0 hb6 (za2 F4.X) F4.X;have N6:Hid ((w5.alloc (zd #[za rb mr mc,za la ln lc] 33)).heap[w5.heap.size]? =some (zd #[za rb mr mc,za la ln lc] 33 (0,0))):=zN _ _;have RA6:=za4 (RA5.below hA6);have HKN:Hid (w.heap.size+4<=w5.heap.size/\w5.heap.size≠kf):=⟨(Q4.below hb).size,by have:=za2 (za0 hb (za2 F4.X) F4.X);omega⟩;clear hb ho WR1 RA5 hA6 hb6 Q4 F4 I4 p0 p1 f0 f1
  go_wp2_with fail
  generalize w5.alloc (zd #[za rb mr mc,za la ln lc] 33)=W6 at*;obtain⟨kn,HKNE⟩:=nmd w5.heap.size;rw[HKNE.X]at N6 HKN⊢;have HXK:Hid _:=zo2 HK1.X tv;rw[<-HXK.X]at HBE;have hx12:(zc6 R1 tv).ids.length<=12:=by
   rcases zz2 R1 tv with h9|h9
   ·exact(HIN1.X _ h9).2.1
   ·rw[h9];simp
  have HRO:Hid (∀W,za9 W rb R1->Calls ze 153 #[.agg #[za rb mr mc,za la ln lc],zc zb tv] W fun e w'=>e=.returned (.agg #[zc zb tv,.slice (zc6 R1 tv).a (zc6 R1 tv).ids.length (zc6 R1 tv).c])/\Below W.heap.size W w'):=fun W hW=>by
   have h9:=zn8 rb la mc ln lc R1 tv W hW (by rw[HMR.X];omega) (zf0 HPW1.X);rw[HMR.X]at h9;exact h9
  have HXI:Hid (∀W,za9 W rb R1->za3 W (zc6 R1 tv).a (zc6 R1 tv).ids/\(((zc6 R1 tv).a=none/\(zc6 R1 tv).ids.length=0)∨∃b off,(zc6 R1 tv).a=some ⟨b,off,none⟩)):=fun W hW=>by
   obtain⟨h1,_,_,h4⟩:=z87 hW HIN1.X tv;exact⟨h1,h4⟩
  have HR2K:Hid (∀(a9:Option Addr) (c9:Nat),(wrL R1 ⟨tv,a9,insL (zc6 R1 tv).ids pl.toNat id,c9⟩).map RT.key=(rlN R id tv pl.toNat).map RT.key):=fun a9 c9=>z72 HK1.X (by show(_,_)=(_,_);rw[HXK.X])
  obtain⟨X,HX⟩:=nmd ((zc6 R1 tv).ids);rw[HX.X]at HBE hx12 HRO HXI HR2K;obtain⟨xa,HXA⟩:=nmd ((zc6 R1 tv).a);obtain⟨xc,HXC⟩:=nmd ((zc6 R1 tv).c);rw[HXA.X]at HRO HXI;rw[HXC.X]at HRO;obtain⟨xl,HXL⟩:=nmd X.length;rw[HXL.X]at HBE hx12 HRO;obtain⟨ib,HIB⟩:=nmd (inB pl 0 (xl:Int));rw[HIB.X]at HBE;have HIL:Hid ((insL X pl.toNat id).length<=13):=by show _<=_;unfold insL;simp;have:=HXL.X;omega
  have hfld:=yg7 tv xa xl xc;clear HX HXA HXC HXK;have hD6:Below W6.heap.size W6 W6.drew:=(yV _ _).drew;refine qV (S:=(fun W=>W.cell? ⟨w.heap.size+2,0,none⟩=some (zc zb id)/\W.cell? ⟨w.heap.size+2,1,none⟩=some (zc zb tv)/\W.cell? ⟨w.heap.size+2,2,none⟩=some (zc zb pl)/\W.cell? ⟨kn,0,none⟩=some (za rb mr mc)/\W.cell? ⟨kn,1,none⟩=some (za la ln lc))) (by kernel_rfl) ?_ (fun hHeld=> ?_)
  ·exact(fun(h1:W6.drew.heap[w.heap.size+2]? =some (zd #[zc zb id,zc zb tv,zc zb pl] 129 (0,0))) (h2:W6.drew.heap[kn]? =some (zd #[za rb mr mc,za la ln lc] 33 (0,0)))=>xe (zq1 h1).1 (xe (zq1 h1).2.1 (xe (zq1 h1).2.2 (xe (za1 h2).1 (za1 h2).2)))) (za0 hD6 (za2 Q6.s) Q6.s) (za0 hD6 (za2 N6.X) N6.X)
  clear hD6;have hKS:Hid (∀W:zg,W.heap[w.heap.size+2]? =some (zd #[zc zb id,zc zb tv,zc zb pl] 129 (0,0))->W.heap[kn]? =some (zd #[za rb mr mc,za la ln lc] 33 (0,0))->(fun W=>W.cell? ⟨w.heap.size+2,0,none⟩=some (zc zb id)/\W.cell? ⟨w.heap.size+2,1,none⟩=some (zc zb tv)/\W.cell? ⟨w.heap.size+2,2,none⟩=some (zc zb pl)/\W.cell? ⟨kn,0,none⟩=some (za rb mr mc)/\W.cell? ⟨kn,1,none⟩=some (za la ln lc)) W):=fun W h1 h2=>by
   obtain⟨x0,x1,x2⟩:=zq1 h1;obtain⟨y0,y1⟩:=za1 h2;exact⟨x0,x1,x2,y0,y1⟩
  have QD6:Hid _:=Q6.below (yV _ _).drew;have FD6:Hid _:=za0 (yV _ _).drew (za2 F6.X) F6.X;have ND6:Hid _:=za0 (yV _ _).drew (za2 N6.X) N6.X;have RD6:Hid (za9 W6.drew rb R1):=RA6.below (yV _ _).drew;clear Q6 F6 N6 RA6;generalize W6.drew=wd6 at*;refine tkH 0 hHeld ?_;refine tkH 1 hHeld ?_;refine tkH 2 hHeld ?_;refine tkH 3 hHeld ?_;refine tkH 5 hHeld ?_;refine tkH 6 hHeld ?_;refine tkH 7 hHeld ?_;refine qT (rs:=[4]) (by kernel_rfl) (by simp) ?_;refine qR rfl (fun K hK=> ?_) qS;go_simp;refine(zh4 id pl wd6).mono ?_;rintro e w7 ⟨pp,qq,rfl,hb,hcp,hcq⟩;have Q7:Hid _:=QD6.below hb;have F7:Hid _:=za0 hb (za2 FD6.X) FD6.X;have N7:Hid _:=za0 hb (za2 ND6.X) ND6.X;have RA7:=za4 (RD6.below hb);have PQ7:Hid (w7.cell? ⟨pp,0,none⟩=some (zc zb pl)/\w7.cell? ⟨qq,0,none⟩=some (zc zb id)):=⟨hcp,hcq⟩;clear hb hcp hcq
  (try go_wp2_with fail)
  refine hK.out _ _ ?_ (fun hHeld=> ?_)
  ·exact hKS.X _ Q7.s N7.X
  clear hK K
  (try simp only[zi,xB,zL,xC])
  refine qT (rs:=[8]) (by kernel_rfl) (by simp) ?_;refine qR rfl (fun K hK=> ?_) qS;go_simp;refine(HRO.X w7 RA7.X).mono ?_;rintro e w8 ⟨rfl,hb⟩;have Q8:Hid _:=Q7.below hb;have F8:Hid _:=za0 hb (za2 F7.X) F7.X;have N8:Hid _:=za0 hb (za2 N7.X) N7.X;have RA8:=za4 (RA7.below hb);have PQ8:Hid (w8.cell? ⟨pp,0,none⟩=some (zc zb pl)/\w8.cell? ⟨qq,0,none⟩=some (zc zb id)):=⟨zn7 PQ7.1 hb,zn7 PQ7.2 hb⟩;clear hb
  (try go_wp2_with fail)
  refine hK.out _ _ ?_ (fun hHeld=> ?_)
  ·exact hKS.X _ Q8.s N8.X
  clear hK K
  (try simp only[zi,xB,zL,xC])
  refine tkH 9 hHeld ?_;refine qT (rs:=[10]) (by kernel_rfl) (by simp) ?_;refine qR rfl (fun K hK=> ?_) qS;go_simp;have PI:=zU6 pp qq pl id xa xc X w8 PQ8.1 PQ8.2 (HXI.X w8 RA8.X).1 (by rw[HXL.X];exact hx12) (HXI.X w8 RA8.X).2;rw[HXL.X,HIB.X]at PI;cases ib
  ·refine PI.mono ?_
   rintro e w9 ⟨hb,⟨_,rfl⟩|⟨h9,_⟩⟩;rotate_left
   ·cases h9
   have Q9:Hid _:=Q8.below hb;have N9:Hid _:=za0 hb (za2 N8.X) N8.X;clear hb PI
   (try go_wp2_with fail)
   refine hK.out _ _ ?_ (fun hHeld=> ?_)
   ·exact hKS.X _ Q9.s N9.X
   clear hK K
   (try simp only[zi,xB,zL,xC])
   refine tkH 11 hHeld ?_;refine tkH 12 hHeld ?_;refine tkH 13 hHeld ?_;refine tkH 14 hHeld ?_;refine tkH 15 hHeld ?_;refine qU (by kernel_rfl) ?_ _;clear hHeld;obtain⟨g1,g2,g3,g4⟩:=HNO.X (by rw[HBE.X,qX]);subst g1 g2 g3 g4;obtain⟨a0,a1⟩:=za1 Q9.o;have af:=fun i=>yU _ _ i _ _ Q9.o;have B5:=Q9.b;clear HNO;go_wp2;refine yX (v:=.tuple #[.agg #[za none 0 0,za none 0 0],zc zb 0,.bool false]) (by simp[results,Tryz.results122,go_sem,a0,a1]) rfl ?_;show zS0 _ _ _ _ _ _ _ _;exact⟨none,0,0,none,0,0,[],rfl,(B5.setCell (by simp<;>omega) _).setCell (by simp<;>omega) _,rfl,⟨rfl,rfl,(fun j hj=>by simp at hj),(fun j hj=>by simp at hj),.inl ⟨rfl,rfl⟩,.inl ⟨rfl,rfl⟩,(fun r hr=>by cases hr)⟩,fun _ _ _=>⟨fun h=>absurd rfl h,fun h=>absurd rfl h,fun r hr=>by cases hr⟩⟩
  refine PI.mono ?_;rintro e w9 ⟨hb,⟨h9,_⟩|⟨_,g2,c2,rfl,ho⟩⟩
  ·cases h9
  have Q9:Hid _:=Q8.below hb;have F9:Hid _:=za0 hb (za2 F8.X) F8.X;have N9:Hid _:=za0 hb (za2 N8.X) N8.X;have RA9:=za4 (RA8.below hb);have I9:Hid (za3 w9 (some ⟨g2,0,none⟩) (insL X pl.toNat id)):=zg7 ho;have hc2:=z60 ho;have HG2:Hid (w.heap.size<=g2):=by have h8:=z83 ho g2 0 rfl;have h7:=Q8.size;show _<=_;omega
  clear hb ho PI PQ8 PQ7
  (try go_wp2_with fail)
  refine hK.out _ _ ?_ (fun hHeld=> ?_)
  ·exact hKS.X _ Q9.s N9.X
  clear hK K
  (try simp only[zi,xB,zL,xC])
  refine tkH 11 hHeld ?_;refine tkH 12 hHeld ?_;refine tkH 13 hHeld ?_;refine tkH 14 hHeld ?_;refine tkH 15 hHeld ?_;refine qU (by kernel_rfl) ?_ _;clear hHeld;rw[qW]at HBE;obtain⟨M2,HM2⟩:=nmd (insL X pl.toNat id);rw[HM2.X]at I9 hc2 HIL HR2K
  try rw[HM2.X]
  have HKY2:=HR2K.X (some ⟨g2,0,none⟩) c2;obtain⟨R2,HR2⟩:=nmd (wrL R1 ⟨tv,some ⟨g2,0,none⟩,M2,c2⟩);rw[HR2.X]at HKY2;have HK2:Hid _:=HKY2;have HPW2:Hid (R2.Pairwise (fun a b=>a.v<b.v)):=by rw[<-HR2.X];exact zM2 HPW1.X
  have HIN2:Hid (zx3 R2):=fun r hr=>by
   obtain⟨h1,h2⟩:=zq3 HK2.X HSM2.X r hr;refine⟨h1,h2,?_⟩;rw[<-HR2.X]at hr;rcases zx9.1 hr with⟨hm9,_⟩|⟨e9,hn9⟩
   ·exact(HIN1.X r hm9).2.2
   ·rw[e9];exact hc2
  have hR2n:R2.length<=51:=by rw[<-HR2.X];have:=y99 R1 ⟨tv,some ⟨g2,0,none⟩,M2,c2⟩;have:=HMR.X;omega
  have HCM:=HTW2.X R2 HK2.X;have WR2:=zp3 rb la mc ln lc R1 ⟨tv,some ⟨g2,0,none⟩,M2,c2⟩ w9 RA9.X (by rw[HMR.X];omega) (zf0 HPW1.X) HFB.X (by simp only;have:=HIL.X;omega);rw[HMR.X,HR2.X]at WR2;obtain⟨m2,HM2L⟩:=nmd M2.length;simp only[HM2L.X]at WR2
  try rw[HM2L.X]
  obtain⟨s0,s1,s2⟩:=zq1 Q9.s;obtain⟨n0,n1⟩:=za1 N9.X
  go_wp2_with fail
  refine WR2.mono ?_;rintro e w10 ⟨sl,rfl,hb,ho⟩;obtain⟨nr2,HNR2⟩:=nmd R2.length;rw[HNR2.X]at ho hR2n;obtain⟨rd,rdc,hsl⟩:=zh9 ho;subst hsl;have OF2:Hid (∀k,k<w.heap.size->zj0 k ra la R L->zj0 k rd la R2 L):=fun k hk h0=>⟨fun _ b off e=>by have h8:=z83 ho b off e;have h7:=Q9.size;omega,h0.2.1,fun r hr=>by
   rw[<-HR2.X]at hr;rcases zy8 hr with hr|rfl
   ·exact OF1.X k hk h0.2.2 r hr
   ·intro _ b off e
    injection e with e
    injection e with e
    have:=HG2.X;omega⟩
  have RA10:za9 w10 rd R2:=by
   have h9:=yK0 RA9.X hb (r:=⟨tv,some ⟨g2,0,none⟩,M2,c2⟩) (I9.below hb) (sa:=rd) (n:=nr2) (c:=rdc) (base:=w9.heap.size) (by rw[HR2.X];exact ho);rw[HR2.X]at h9;exact h9
  have HFD:Hid ((rd=none/\nr2=0)∨∃b off,rd=some ⟨b,off,none⟩):=by
   rcases own_kinds ho with⟨h1,h2⟩|⟨g9,c9,h1,_⟩
   ·injection h1 with h1 _ _
    exact .inl ⟨h1,h2⟩
   ·injection h1 with h1 _ _
    exact .inr ⟨g9,0,h1⟩
  have N10:=za0 hb (za2 N9.X) N9.X;have F10:=za0 hb (za2 F9.X) F9.X;have s1':=zP w10 kn 0 _ _ (za rd nr2 rdc) N10;simp only[xB,zL]at s1';have s2':=zP _ kn 1 _ _ (za la ln lc) s1';simp only[xB,zL,xC]at s2';have N11:Hid _:=s2';have Q11:Hid (RQ w ((w10.setCell ⟨kn,0,none⟩ (za rd nr2 rdc)).setCell ⟨kn,1,none⟩ (za la ln lc)) #[zc zb n,za a zl cap,za ao ko co,za av kv cv,zc zb fine] #[za ra nr rc,za la ln lc] #[zc zb id,zc zb tv,zc zb pl]):=((Q9.below hb).set HKN.1).set HKN.1;have F11:Hid (((w10.setCell ⟨kn,0,none⟩ (za rd nr2 rdc)).setCell ⟨kn,1,none⟩ (za la ln lc)).heap[kf]? =some (zd #[zc zb v0,za (some ⟨b0,o0,none⟩) l0 c0] 80 (0,0))):=za6 (za6 F10 (Ne.symm HKN.2)) (Ne.symm HKN.2);have RA11:Hid (za9 ((w10.setCell ⟨kn,0,none⟩ (za rd nr2 rdc)).setCell ⟨kn,1,none⟩ (za la ln lc)) rd R2):=ze7 (ze7 RA10 N10 0 _) s1' 1 _;have nf:=fun i=>yU _ _ i _ _ N10;obtain⟨n0,n1⟩:=za1 N10;clear hb ho WR2 Q9 N9 F9 RA9 I9 F10 s1' s2' s0 s1 s2 RA10;obtain⟨c0',c1',c2',c3',c4'⟩:=za7 Q11.c;obtain⟨p0,p1⟩:=za1 Q11.p;obtain⟨s0,s1,s2⟩:=zq1 Q11.s;obtain⟨f0,f1⟩:=za1 F11.X;obtain⟨m0,m1'⟩:=za1 N11.X
  go_wp2_with fail
  clear n0 n1 nf N10;generalize((w10.setCell ⟨kn,0,none⟩ (za rd nr2 rdc)).setCell ⟨kn,1,none⟩ (za la ln lc))=W11 at*;obtain⟨CB,HCB2⟩:=nmd ((z67 v0 tv).all (cmK n zs os vs ko kv R2));obtain⟨CD,HCD⟩:=nmd (if CB=true then((z67 v0 tv).map (cmF n zs os vs ko kv R R2)).sum else 0);have CM:=zR5 n fine v0 tv a ao av ra la rd la zl cap ko co kv cv nr rc ln lc nr2 rdc ln lc zs os vs R R2 W11 (HA.below Q11.b) (HO.below Q11.b) (HV.below Q11.b) HLZ.X HLO.X HLV.X hko hkv HCB.X (HP.2.2.1.below Q11.b) HN.X (by have:=HN.X;omega) (zf0 HPW.X) HIN.X RA11.X HNR2.X (by omega) (zf0 HPW2.X) HIN2.X CB HCB2.X CD HCD.X;refine CM.mono ?_;rintro e w12 ⟨rfl,hb⟩;have Q12:Hid _:=Q11.below hb;have N12:Hid _:=za0 hb (za2 N11.X) N11.X;have RA12:=za4 (RA11.below hb);clear hb CM Q11 N11 F11 RA11 c0' c1' c2' c3' c4' p0 p1 s0 s1 s2 f0 f1 m0 m1';rw[<-HCM.1,HCB2.X]at HBE;cases CB
  ·skip
   obtain⟨g1,g2,g3,g4⟩:=HNO.X (by rw[HBE.X]);subst g1 g2 g3 g4;obtain⟨a0,a1⟩:=za1 Q12.o;have af:=fun i=>yU _ _ i _ _ Q12.o;have B5:=Q12.b;clear HNO;go_wp2;refine yX (v:=.tuple #[.agg #[za none 0 0,za none 0 0],zc zb 0,.bool false]) (by simp[results,Tryz.results122,go_sem,a0,a1]) rfl ?_;show zS0 _ _ _ _ _ _ _ _;exact⟨none,0,0,none,0,0,[],rfl,(B5.setCell (by simp<;>omega) _).setCell (by simp<;>omega) _,rfl,⟨rfl,rfl,(fun j hj=>by simp at hj),(fun j hj=>by simp at hj),.inl ⟨rfl,rfl⟩,.inl ⟨rfl,rfl⟩,(fun r hr=>by cases hr)⟩,fun _ _ _=>⟨fun h=>absurd rfl h,fun h=>absurd rfl h,fun r hr=>by cases hr⟩⟩
  ·obtain⟨y1,y2,y3⟩:=HYE.X HBE.X
   have hdv:zc3 n zs os vs ko kv fine (rlN R id tv pl.toNat) L=0:=by
    have h9:=HCM.1;rw[HCB2.X]at h9;exact zX h9.symm
   have HDD:Hid (CD=GD):=by
    show _=_;rw[<-HCD.X,zV rfl,HCM.2 hdv (fine*L.length),y1]
   have HKG:Hid (R2.map RT.key=GR.map RT.key):=by show _=_;rw[y2];exact HK2.X
   have HBT:=HBE.X;clear y1 y2 hdv;rw[HDD.X];subst HBT;subst y3;obtain⟨a0,a1⟩:=za1 Q12.o;have af:=fun i=>yU _ _ i _ _ Q12.o;obtain⟨n0,n1⟩:=za1 N12.X;have s1':=zP w12 (w.heap.size+3) 0 _ _ (za rd nr2 rdc) Q12.o;simp only[xB,zL]at s1';have RAE:Hid (za9 ((w12.setCell ⟨w.heap.size+3,0,none⟩ (za rd nr2 rdc)).setCell ⟨w.heap.size+3,1,none⟩ (za la ln lc)) rd R2):=ze7 (ze7 RA12.X Q12.o 0 _) s1' 1 _;have LAE:Hid (za3 ((w12.setCell ⟨w.heap.size+3,0,none⟩ (za rd nr2 rdc)).setCell ⟨w.heap.size+3,1,none⟩ (za la ln lc)) la GL):=zj6 (zj6 (HP.2.2.2.1.below Q12.b) Q12.o 0 _) s1' 1 _;have BE:Hid (Below w.heap.size w ((w12.setCell ⟨w.heap.size+3,0,none⟩ (za rd nr2 rdc)).setCell ⟨w.heap.size+3,1,none⟩ (za la ln lc))):=(Q12.b.setCell (by simp<;>omega) _).setCell (by simp<;>omega) _;clear s1';go_wp2;refine yX (v:=.tuple #[.agg #[za rd nr2 rdc,za la ln lc],zc zb GD,.bool true]) (by simp[results,Tryz.results122,go_sem,a0,a1]) rfl ?_;show zS0 _ _ _ _ _ _ _ _;exact⟨rd,nr2,rdc,la,ln,lc,R2,rfl,BE.X,HKG.X,⟨HNR2.X,HM.X,RAE.X,LAE.X,HFD.X,HP.2.2.2.2.2.1,fun r hr=>(HIN2.X r hr).2.2⟩,OF2.X⟩
theorem yw5{R S:List RT}(h:S.map RT.key=R.map RT.key)(hp:R.Pairwise (fun a b=>a.v<b.v)):S.Pairwise (fun a b=>a.v<b.v):=yA0 h hp
structure MX(w2 W:zg)(kx ky:Nat)(xx:Array Value)(tv:Int)(sl:Value)(yl:List Int):Prop where
 b:Below w2.heap.size w2 W
 x:W.heap[kx]? =some (.cells xx 80 (0,0))
 y:W.heap[ky]? =some (zd #[zc zb tv,sl] 80 (0,0))
 o:W.ownsRow w2.heap.size 2 1 sl yl.length (yl.map (zc zb))
 kl:w2.heap.size<=kx/\w2.heap.size<=ky/\kx≠ky
theorem MX.below{w2 W W':zg}{kx ky:Nat}{xx:Array Value}{tv:Int}{sl:Value}{yl:List Int}(h:MX w2 W kx ky xx tv sl yl)(hb:Below W.heap.size W W'):MX w2 W' kx ky xx tv sl yl:=
 ⟨h.b.trans (hb.mono h.b.size),za0 hb (za2 h.x) h.x,za0 hb (za2 h.y) h.y,zc5 h.o hb,h.kl⟩
theorem MX.grow{w2 W W':zg}{kx ky:Nat}{xx:Array Value}{tv:Int}{sl sl':Value}{yl yl':List Int}(h:MX w2 W kx ky xx tv sl yl)(hg:W.grownBy W' sl.ownBlock)(ho:W'.ownsRow w2.heap.size 2 1 sl' yl'.length (yl'.map (zc zb))):
 W'.heap[ky]? =some (zd #[zc zb tv,sl] 80 (0,0))/\W'.heap[kx]? =some (.cells xx 80 (0,0))/\MX w2 (W'.setCell ⟨ky,1,none⟩ sl') kx ky xx tv sl' yl':=by
 have hy:=zb9 hg h.y (fun e=>zl5 h.o h.y (by decide) e.symm);have hx:=zb9 hg h.x (fun e=>zl5 h.o h.x (by decide) e.symm);have s1:=zP W' ky 1 _ _ sl' hy;simp only[xB,zL,xC]at s1;have hb:=h.b.grown hg h.b.size (fun j e=>(h.o.lt j e).1);exact⟨hy,hx,hb.setCell h.kl.2.1 _,za6 hx h.kl.2.2,s1,zd4 ho hy,h.kl⟩
def yH0(w:zg)(ib f:Bool)(T:List RT)(L:List Int)(e:Ending)(w':zg):Prop:=Below w.heap.size w w'/\((ib=false/\e=.returned (.tuple #[.agg #[za none 0 0,za none 0 0],.bool false]))∨(ib=true/\∃ra rn rc gl lc S,e=.returned (.tuple #[.agg #[za ra rn rc,za (some ⟨gl,0,none⟩) L.length lc],.bool f])/\S.length=rn/\S.map RT.key=T.map RT.key/\PO w' w.heap.size (za ra rn rc) S (za (some ⟨gl,0,none⟩) L.length lc) L))
theorem yD6{R:List RT}(hnd:(za8 R R.length).Nodup){j k:Nat}(hj:j<R.length)(hk:k<R.length)(hjk:j≠k){x:Int}(h1:x∈(R.getD j rt0).ids)(h2:x∈(R.getD k rt0).ids):False:=by
 rw[zb6]at hnd;have hs:=z63 hk;rw[hs,xN,qM,yB]at hnd;have hgj:R.getD j rt0=R[j]:=by simp[List.getD,hj]
 rcases Nat.lt_or_gt_of_ne hjk with h|h
 ·have hm:R.getD j rt0∈R.take k:=by rw[hgj];exact List.mem_take_iff_getElem.2 ⟨j,by omega,rfl⟩
  exact hnd.2.2 x (qG.2 ⟨_,hm,h1⟩) x (qJ _ h2) rfl
 ·have hm:R.getD j rt0∈R.drop (k+1):=by rw[hgj];exact List.mem_drop_iff_getElem.2 ⟨j - (k+1),by omega,by simp[show k+1+(j - (k+1))=j by omega]⟩
  exact(yB.1 hnd.2.1).2.2 x h2 x (qG.2 ⟨_,hm,h1⟩) rfl
theorem yp2(id tv pl n fine:Int)(a ao av ra:Option Addr)(zl cap ko co kv cv nr rc bl ol ln lc:Nat)(zs os vs L:List Int)(R:List RT)(w:zg)(hA:za3 w a zs)(hO:za3 w ao os)(hV:za3 w av vs)(hlz:zs.length=zl)(hlo:os.length=ko*6)(hlv:vs.length=kv*5)(hko:ko<=9223372036854775807)(hkv:kv<=9223372036854775807)(hP:zb8 w ra (some ⟨bl,ol,none⟩) nr ln R L)(hpl:zc3 n zs os vs ko kv fine R L=0)(k:Nat)(hk:k<R.length)(hid:id∈(R.getD k rt0).ids):
 Calls ze 131 #[.agg #[zc zb n,za a zl cap,za ao ko co,za av kv cv,zc zb fine],.agg #[za ra nr rc,za (some ⟨bl,ol,none⟩) ln lc],zc zb id,zc zb tv,zc zb pl] w (yH0 w (inB pl 0 ((zc6 (lvR R id) tv).ids.length:Int)) (decide (zc3 n zs os vs ko kv fine (rlN R id tv pl.toNat) L=0)) (rlN R id tv pl.toNat) L):=by
 obtain⟨hc,hr,ho1,hl1,hn1⟩:=zb5 hpl;obtain⟨hp,hok⟩:=zh3.1 hr;have hps:=ze4 hpl;have HPW:Hid _:=hp;have HNE:Hid (∀r∈R,r.ids≠[]):=fun r hr=>(hok r hr).1;have HND:Hid ((za8 R R.length).Nodup):=ho1.1;have HIV:Hid (LvI (zr3 (za8 R R.length)) [] L.length 0 R L):=yk3 hpl rfl (fun i hi=>by simp at hi);have HPL:Hid _:=hpl;have HID:Hid _:=hid;have HA:=za4 hA;have HO:=za4 hO;have HV:=za4 hV;have HLZ:Hid _:=hlz;have HLO:Hid _:=hlo;have HLV:Hid _:=hlv;have HP:=za4 hP;have HN:Hid _:=hP.1;have HM:Hid _:=hP.2.1;have hr12:=hps.1;have hl12:=hps.2.1;have hkn:k<nr:=by rw[<-HN.X];exact hk
 have hnr:nr<=12:=by rw[<-HN.X];exact hr12
 clear hA hO hV hlz hlo hlv hP hpl hc hr ho1 hl1 hn1 hp hok hps hid;have Q0:Hid (GQ w ((((w.alloc (zd #[zc zb n,za a zl cap,za ao ko co,za av kv cv,zc zb fine] 30)).alloc (zd #[za ra nr rc,za (some ⟨bl,ol,none⟩) ln lc] 33)).alloc (zd #[za none 0 0,za none 0 0] 33)).alloc (zd #[za ra nr rc,za (some ⟨bl,ol,none⟩) ln lc] 33)) #[zc zb n,za a zl cap,za ao ko co,za av kv cv,zc zb fine] #[za ra nr rc,za (some ⟨bl,ol,none⟩) ln lc]):=by
  refine GQ.below (W:=((w.alloc (zd #[zc zb n,za a zl cap,za ao ko co,za av kv cv,zc zb fine] 30)).alloc (zd #[za ra nr rc,za (some ⟨bl,ol,none⟩) ln lc] 33)).alloc (zd #[za none 0 0,za none 0 0] 33)) ?_ (zK _);refine⟨((zK _).alloc (by simp) _).alloc (by simp;omega) _,?_,?_,?_⟩
  ·exact(yY _ _ (by simp;omega)).trans (xb _ _ _)
  ·exact(yY _ _ (by simp)).trans (y8 _ _ _)
  ·have:=zN ((w.alloc (zd #[zc zb n,za a zl cap,za ao ko co,za av kv cv,zc zb fine] 30)).alloc (zd #[za ra nr rc,za (some ⟨bl,ol,none⟩) ln lc] 33)) (zd #[za none 0 0,za none 0 0] 33)
   simpa using this
 have N0:Hid (((((w.alloc (zd #[zc zb n,za a zl cap,za ao ko co,za av kv cv,zc zb fine] 30)).alloc (zd #[za ra nr rc,za (some ⟨bl,ol,none⟩) ln lc] 33)).alloc (zd #[za none 0 0,za none 0 0] 33)).alloc (zd #[za ra nr rc,za (some ⟨bl,ol,none⟩) ln lc] 33)).heap[w.heap.size+3]? =some (zd #[za ra nr rc,za (some ⟨bl,ol,none⟩) ln lc] 33 (0,0))):=by
  have:=zN (((w.alloc (zd #[zc zb n,za a zl cap,za ao ko co,za av kv cv,zc zb fine] 30)).alloc (zd #[za ra nr rc,za (some ⟨bl,ol,none⟩) ln lc] 33)).alloc (zd #[za none 0 0,za none 0 0] 33)) (zd #[za ra nr rc,za (some ⟨bl,ol,none⟩) ln lc] 33);show _=_;simpa using this
 have e0:(((w.alloc (zd #[zc zb n,za a zl cap,za ao ko co,za av kv cv,zc zb fine] 30)).alloc (zd #[za ra nr rc,za (some ⟨bl,ol,none⟩) ln lc] 33)).alloc (zd #[za none 0 0,za none 0 0] 33)).heap.size=w.heap.size+3:=by simp
 have P0:Hid ((((w.alloc (zd #[zc zb n,za a zl cap,za ao ko co,za av kv cv,zc zb fine] 30)).alloc (zd #[za ra nr rc,za (some ⟨bl,ol,none⟩) ln lc] 33)).alloc (zd #[za none 0 0,za none 0 0] 33)).heap[w.heap.size+1]? =some (zd #[za ra nr rc,za (some ⟨bl,ol,none⟩) ln lc] 33 (0,0))):=(yY _ _ (by simp)).trans (y8 _ _ _);obtain⟨p0,p1⟩:=za1 P0.X;go_enter Tryz.func131,Tryz.ntmps131
 go_wp2_with fail
 clear p0 p1 P0
 try rw[e0]
 clear e0;generalize(((w.alloc (zd #[zc zb n,za a zl cap,za ao ko co,za av kv cv,zc zb fine] 30)).alloc (zd #[za ra nr rc,za (some ⟨bl,ol,none⟩) ln lc] 33)).alloc (zd #[za none 0 0,za none 0 0] 33)).alloc (zd #[za ra nr rc,za (some ⟨bl,ol,none⟩) ln lc] 33)=W1 at*;obtain⟨kb,HKB⟩:=nmd (w.heap.size+3);rw[HKB.X]at N0
 try rw[HKB.X]
 try rw[show w.heap.size+1+1+1=kb from HKB.X]
 go_loopw[13] (fun t wr=>∃i:Nat,i<=nr/\t=zc zb i/\GQ w wr #[zc zb n,za a zl cap,za ao ko co,za av kv cv,zc zb fine] #[za ra nr rc,za (some ⟨bl,ol,none⟩) ln lc]/\((i<=k/\wr.heap[kb]? =some (zd #[za ra nr rc,za (some ⟨bl,ol,none⟩) ln lc] 33 (0,0)))∨(k<i/\∃(ra1:Option Addr) (n1 rc1 gl1 lc1:Nat) (R1:List RT),wr.heap[kb]? =some (zd #[za ra1 n1 rc1,za (some ⟨gl1,0,none⟩) ln lc1] 33 (0,0))/\PO wr (w.heap.size+4) (za ra1 n1 rc1) R1 (za (some ⟨gl1,0,none⟩) ln lc1) L/\R1.length=n1/\R1.map RT.key=(lvR R id).map RT.key))) (fun t _=>nr - (intOf t).toNat)
 case atStart=>exact⟨0,yZ _,rfl,Q0.X,.inl ⟨yZ _,N0.X⟩⟩
 case round=>
  clear Q0 N0;obtain⟨i,hi,rfl,hQ,hN⟩:=hrel;have Q1:Hid _:=hQ;have NN:Hid _:=hN;clear hQ hN;obtain⟨p0,p1⟩:=za1 Q1.p;by_cases hlt:i<nr
  ·have hltI:(i:Int)<(nr:Int):=by omega
   obtain⟨b,off,e,r1,r2,r3⟩:=(HP.2.2.1.below Q1.b) i (by rw[HN.X];exact hlt);subst e;have hsm:=HIV.sm _ (zh2 (show i<R.length by rw[HN.X];exact hlt));have L3:=z46 (R.getD i rt0).a (R.getD i rt0).ids.length (R.getD i rt0).c id (R.getD i rt0).ids wr r3 (zQ _) (by omega);rw[zt3]at L3;by_cases hik:i=k
   ·subst hik
    rw[zS HID.X]at L3;have NI:Hid (wr.heap[kb]? =some (zd #[za (some ⟨b,off,none⟩) nr rc,za (some ⟨bl,ol,none⟩) ln lc] 33 (0,0))):=by
     rcases NN.X with⟨_,h9⟩|⟨h9,_⟩
     ·exact h9
     ·omega
    clear NN;obtain⟨br,orr,er,-⟩:=r3 0 (xL.2 (HNE.X _ (zh2 hk)));have CUT0:∀W,Below wr.heap.size wr W->_:=fun W hW=>z81 br orr (R.getD i rt0).c (R.getD i rt0).ids id W (by have:=r3.below hW;rw[er]at this;exact this) (by omega)
    have SET0:∀W (g cg:Nat),Below wr.heap.size wr W->za3 W (some ⟨g,0,none⟩) (cutP (R.getD i rt0).ids id)->Calls ze 72 #[.agg #[za (some ⟨b,off,none⟩) nr rc,za (some ⟨bl,ol,none⟩) ln lc],.agg #[zc zb (R.getD i rt0).v,za (some ⟨g,0,none⟩) (cutP (R.getD i rt0).ids id).length cg]] W (NP W (lvR R id) L):=fun W g cg hW hX=>zK7 (some ⟨b,off,none⟩) nr rc bl ol ln lc g cg (cutP (R.getD i rt0).ids id).length i R L id W HIV.X (by omega) HM.X HN.X (HP.2.2.1.below (Q1.b.trans (hW.mono Q1.b.size))) (HP.2.2.2.1.below (Q1.b.trans (hW.mono Q1.b.size))) hk HID.X rfl hX
    rw[er]at r2 L3;clear r3 er hsm;obtain⟨rt,HRT⟩:=nmd (R.getD i rt0);rw[HRT.X]at r1 r2 L3 CUT0 SET0;obtain⟨cl,HCL⟩:=nmd ((cutP rt.ids id).length);obtain⟨rl,HRL⟩:=nmd rt.ids.length;obtain⟨rv,HRV⟩:=nmd rt.v;obtain⟨rcx,HRC⟩:=nmd rt.c;rw[HRL.X,HRC.X]at r2 L3;rw[HRV.X]at r1;rw[HRL.X,HRC.X,HCL.X]at CUT0;rw[HRV.X,HCL.X]at SET0;have CUT:Hid _:=CUT0;have SET:Hid _:=SET0;clear CUT0 SET0 HRT;have HCE:Hid (∀W,Below wr.heap.size wr W->(fun W=>W.cell? ⟨w.heap.size+1,0,none⟩=some (za (some ⟨b,off,none⟩) nr rc)/\W.cell? ⟨w.heap.size+1,1,none⟩=some (za (some ⟨bl,ol,none⟩) ln lc)/\W.cell? ⟨b,off+i*2,none⟩=some (zc zb rv)/\W.cell? ⟨b,off+i*2+1,none⟩=some (za (some ⟨br,orr,none⟩) rl rcx)) W):=fun W hW=>⟨zn7 p0 hW,zn7 p1 hW,zn7 r1 hW,zn7 r2 hW⟩;go_upto_region 6 with(go_at_call 87;refine L3.mono ?_;rintro e w' ⟨rfl,hw'⟩;subst w')
    go_wp2_with fail
    refine ze1 (S:=(fun W=>W.cell? ⟨w.heap.size+1,0,none⟩=some (za (some ⟨b,off,none⟩) nr rc)/\W.cell? ⟨w.heap.size+1,1,none⟩=some (za (some ⟨bl,ol,none⟩) ln lc)/\W.cell? ⟨b,off+i*2,none⟩=some (zc zb rv)/\W.cell? ⟨b,off+i*2+1,none⟩=some (za (some ⟨br,orr,none⟩) rl rcx))) 17 (by kernel_rfl) ?_ (fun hHeld=> ?_)
    ·exact HCE.X _ (yV _ _).drew
    have BD:Hid (Below wr.heap.size wr wr.drew):=(yV _ _).drew;generalize wr.drew=wd at*;refine tkZ 0 hHeld ?_;refine tkZ 1 hHeld ?_;refine tkZ 2 hHeld ?_;refine tkZ 3 hHeld ?_;refine tkZ 4 hHeld ?_;refine tkZ 5 hHeld ?_;refine tkZ 6 hHeld ?_;refine tkZ 7 hHeld ?_;refine tkZ 8 hHeld ?_;refine tkZ 9 hHeld ?_;refine tkZ 10 hHeld ?_;refine tkZ 11 hHeld ?_;refine tkZ 12 hHeld ?_;refine tkZ 13 hHeld ?_;refine zb7 (rs:=[14]) (by kernel_rfl) (by simp) ?_;refine zb1.cons rfl (fun K hK=> ?_) zb1.nil;go_simp;refine(CUT.X wd BD.X).mono ?_;rintro e w6 ⟨g,cg,rfl,hb,ho⟩;have B6:Hid _:=BD.trans (hb.mono BD.size);have X6:Hid (za3 w6 (some ⟨g,0,none⟩) (cutP rt.ids id)):=zg7 ho;clear hb ho
    try rw[HCL.X]
    (try go_wp2_with fail)
    refine hK.out _ _ ?_ (fun hHeld=> ?_)
    ·exact HCE.X _ B6.X
    clear hK K
    (try simp only[zi,xB,zL,xC])
    refine tkZ 15 hHeld ?_;refine zb7 (rs:=[16]) (by kernel_rfl) (by simp) ?_;refine zb1.cons rfl (fun K hK=> ?_) zb1.nil;go_simp;refine(SET.X w6 g cg B6.X X6.X).mono ?_;rintro e w7 ⟨ra7,n7,rc7,g7,lc7,R7,rfl,hb,hn7,hk7,ho7⟩;rw[HM.X]at ho7⊢;have hb7:=B6.trans (hb.mono B6.size);have hx:=za0 hb7 (za2 NI.X) NI.X;have s1:=zP w7 kb 0 _ _ (za ra7 n7 rc7) hx;simp only[xB,zL]at s1;have s2:=zP _ kb 1 _ _ (za (some ⟨g7,0,none⟩) ln lc7) s1;simp only[xB,zL,xC]at s2;have M7:Hid (∃(ra1:Option Addr) (n1 rc1 gl1 lc1:Nat) (R1:List RT),((w7.setCell ⟨kb,0,none⟩ (za ra7 n7 rc7)).setCell ⟨kb,1,none⟩ (za (some ⟨g7,0,none⟩) ln lc7)).heap[kb]? =some (zd #[za ra1 n1 rc1,za (some ⟨gl1,0,none⟩) ln lc1] 33 (0,0))/\PO ((w7.setCell ⟨kb,0,none⟩ (za ra7 n7 rc7)).setCell ⟨kb,1,none⟩ (za (some ⟨g7,0,none⟩) ln lc7)) (w.heap.size+4) (za ra1 n1 rc1) R1 (za (some ⟨gl1,0,none⟩) ln lc1) L/\R1.length=n1/\R1.map RT.key=(lvR R id).map RT.key):=⟨ra7,n7,rc7,g7,lc7,R7,s2,((ho7.base (by have h1:=za2 (za0 B6.X (za2 NI.X) NI.X);have h2:=HKB.X;omega)).box hx).box s1,hn7,hk7⟩;have Q7:Hid (GQ w ((w7.setCell ⟨kb,0,none⟩ (za ra7 n7 rc7)).setCell ⟨kb,1,none⟩ (za (some ⟨g7,0,none⟩) ln lc7)) #[zc zb n,za a zl cap,za ao ko co,za av kv cv,zc zb fine] #[za (some ⟨b,off,none⟩) nr rc,za (some ⟨bl,ol,none⟩) ln lc]):=((Q1.below hb7).set (by have:=HKB.X;omega)).set (by have:=HKB.X;omega);have B7:Hid _:=hb7;have F7:=fun i=>yU _ _ i _ _ hx;obtain⟨f0,f1⟩:=za1 hx;clear hb hn7 hk7 ho7 hb7 hx s1 s2
    (try go_wp2_with fail)
    refine hK.out _ _ ?_ (fun hHeld=> ?_)
    ·exact HCE.X _ B7.X
    clear hK K
    (try simp only[zi,xB,zL,xC])
    refine zb7 (rs:=[17]) (by kernel_rfl) (by simp) ?_;refine zb1.last rfl (fun K hK=> ?_);go_simp;refine hK.out _ _ ?_;clear hK K;clear F7 f0 f1;generalize((w7.setCell ⟨kb,0,none⟩ (za ra7 n7 rc7)).setCell ⟨kb,1,none⟩ (za (some ⟨g7,0,none⟩) ln lc7))=w8 at*;refine zh0 (by kernel_rfl) ?_ _;clear hHeld CUT SET HCE L3 r1 r2;go_wp2;go_roundw
    case rel=>exact⟨i+1,by omega,by first|rfl|go_num,Q7.X,.inr ⟨by omega,M7.X⟩⟩
    case measure=>simp[intOf];omega
   ·have hno:id∉(R.getD i rt0).ids:=fun h9=>yD6 HND.X (by rw[HN.X];exact hlt) hk hik h9 HID.X
    rw[zU hno]at L3;clear hno r3 hsm;obtain⟨rt,HRT⟩:=nmd (R.getD i rt0);rw[HRT.X]at r1 r2 L3;clear HRT;obtain⟨rl,HRL⟩:=nmd rt.ids.length;rw[HRL.X]at r2 L3
    go_wp2_with(go_at_call 87;refine L3.mono ?_;rintro e w' ⟨rfl,hw'⟩;subst w')
    go_roundw
    case rel=>
     refine⟨i+1,by omega,by first|rfl|go_num,Q1.X,?_⟩;rcases NN.X with⟨h1,h2⟩|⟨h1,h2⟩
     ·exact .inl ⟨by omega,h2⟩
     ·exact .inr ⟨by omega,h2⟩
    case measure=>simp[intOf];omega
  ·have hltI:¬((i:Int)<(nr:Int)):=by omega
   obtain⟨ra1,n1,rc1,gl1,lc1,R1,hx,hpo,hn1,hk1⟩:∃(ra1:Option Addr) (n1 rc1 gl1 lc1:Nat) (R1:List RT),wr.heap[kb]? =some (zd #[za ra1 n1 rc1,za (some ⟨gl1,0,none⟩) ln lc1] 33 (0,0))/\PO wr (w.heap.size+4) (za ra1 n1 rc1) R1 (za (some ⟨gl1,0,none⟩) ln lc1) L/\R1.length=n1/\R1.map RT.key=(lvR R id).map RT.key:=by
    rcases NN.X with⟨h9,_⟩|⟨_,h9⟩
    ·omega
    ·exact h9
   have N1:Hid _:=hx;have O1:Hid _:=hpo;have HN1:Hid _:=hn1;have HK1:Hid _:=hk1;clear NN hx hpo hn1 hk1 p0 p1;obtain⟨p0,p1⟩:=za1 N1.X;have LR:=zE8 ra1 (some ⟨gl1,0,none⟩) rc1 ln lc1 R1 tv wr (z27 O1.X HN1.X) (by have h1:=congrArg zj HK1.X;have h2:=zR4 R id;simp only[qn]at h1;omega);rw[HN1.X]at LR;have HKX:Hid _:=zo2 HK1.X tv;have HIN1:Hid (zx3 R1):=fun r hr=>by
    have h1:=zq3 HK1.X (b:=12) (fun r hr=>⟨yv4 hr,zT8 HIV.sm r hr⟩) r hr;exact⟨h1.1,h1.2,(O1.ints r hr).2⟩
   obtain⟨hxi,hx12,hxc,hxf⟩:=z87 (z27 O1.X HN1.X) HIN1.X tv;have HXI:=za4 hxi;have HRN:Hid (rlN R id tv pl.toNat=wrL (lvR R id) ⟨tv,none,insL (zc6 R1 tv).ids pl.toNat id,0⟩):=by show _=_;unfold rlN;rw[HKX.X]
   rw[<-HKX.X];have HXL0:Hid ((zc6 R1 tv).ids=(zc6 R1 tv).ids):=rfl;obtain⟨X,HX⟩:=nmd ((zc6 R1 tv).ids);obtain⟨xa,HXA⟩:=nmd ((zc6 R1 tv).a);obtain⟨xc,HXC⟩:=nmd ((zc6 R1 tv).c);obtain⟨xl,HXL⟩:=nmd X.length;rw[HX.X,HXA.X]at HXI hxf;rw[HX.X]at hx12 hxc HRN LR⊢;rw[HXA.X,HXC.X,HXL.X]at LR;rw[HXC.X]at hxc;rw[HXL.X]at hx12 hxc hxf⊢;have HXE:Hid _:=HKX.symm.trans HX.X;clear hxi HXL0 HX HXA HXC HKX;obtain⟨ib,HIB⟩:=nmd (inB pl 0 (xl:Int));rw[HIB.X];obtain⟨q0,q1⟩:=za1 Q1.p
   go_wp2_with fail
   refine LR.mono ?_;rintro e w2 ⟨rfl,hb⟩;have Q2:Hid _:=Q1.below hb;have N2:Hid _:=za0 hb (za2 N1.X) N1.X;have O2:Hid _:=O1.below hb;have X2:=za4 (HXI.below hb);clear hb LR Q1 N1 O1 HXI p0 p1 q0 q1;have hAX:Below w2.heap.size w2 (w2.alloc (zd #[zc zb tv,za xa xl xc] 80)):=zK _;have BX3:Hid _:=hAX;have XR3:Hid ((w2.alloc (zd #[zc zb tv,za xa xl xc] 80)).heap[w2.heap.size]? =some (zd #[zc zb tv,za xa xl xc] 80 (0,0))):=zN _ _;clear hAX;obtain⟨x0,x1⟩:=za1 XR3.X;cases ib
   ·have Q3:Hid _:=Q2.below BX3.X
    obtain⟨a0,a1⟩:=za1 Q3.o;have af:=fun i=>yU _ _ i _ _ Q3.o;have BE:Hid (Below w.heap.size w (((w2.alloc (zd #[zc zb tv,za xa xl xc] 80)).setCell ⟨w.heap.size+2,0,none⟩ (za none 0 0)).setCell ⟨w.heap.size+2,1,none⟩ (za none 0 0))):=(Q3.b.setCell (by simp) _).setCell (by simp) _
    go_wp2_with(go_at_call 39;refine(zc0 _ _ _ _).mono ?_;rintro e w' ⟨rfl,hw'⟩;subst w';rw[HIB.X])
    refine yX (v:=.tuple #[.agg #[za none 0 0,za none 0 0],.bool false]) (by simp[results,Tryz.results131,go_sem,a0,a1]) rfl ?_;exact⟨BE.X,.inl ⟨by rw[HXE.X,HXL.X];exact HIB.X,rfl⟩⟩
   ·have h1:=zc7 HIB.X
    obtain⟨j,rfl⟩:∃j:Nat,pl=j:=⟨pl.toNat,by omega⟩;simp only[yk]at HRN⊢;have hj:j<=xl:=by omega
    obtain⟨kx,HKXE⟩:=nmd w2.heap.size;go_upto_region 10 with(go_at_call 39;refine(zc0 _ _ _ _).mono ?_;rintro e w' ⟨rfl,hw'⟩;subst w';rw[HIB.X]);obtain⟨HXF,-⟩:Hid ((xa=none/\xl=0)∨∃b off,xa=some ⟨b,off,none⟩)/\True:=⟨hxf,trivial⟩;clear hxf x0 x1 h1;have HTL:Hid ((X.take j).length=j):=by show _=_;rw[zZ,HXL.X];omega
    have B4:Hid (Below w2.heap.size w2 ((w2.alloc (zd #[zc zb tv,za xa xl xc] 80)).alloc (zd #[] 2))):=BX3.alloc BX3.size _;have XR4:Hid (((w2.alloc (zd #[zc zb tv,za xa xl xc] 80)).alloc (zd #[] 2)).heap[w2.heap.size]? =some (zd #[zc zb tv,za xa xl xc] 80 (0,0))):=(yY _ _ (by simp)).trans XR3.X;have OE:Hid (((w2.alloc (zd #[zc zb tv,za xa xl xc] 80)).alloc (zd #[] 2)).ownsRow w2.heap.size 2 1 (za (some ⟨w2.heap.size+1,0,none⟩) 0 0) 0 (([]:List Int).map (zc zb))):=by
     have:=qa (w2.alloc (zd #[zc zb tv,za xa xl xc] 80)) #[] 0 (base:=w2.heap.size) (e:=2) (size:=1) (by simp) (by unfold maxLen;omega) (by simp);show World.ownsRow _ _ _ _ _ _ _;simpa using this
    obtain⟨x0,x1⟩:=za1 XR4.X;have hc0:(0:Int)<=(j:Int):=by omega
    have hc1:(j:Int)<=(xc:Int):=by omega
    have hc2:(j:Int)<=(xl:Int):=by omega
    go_cut [15]from 59 to 67 (fun s15 wx=>∃(ky gy cy:Nat),s15=.pointer (some ⟨ky,0,none⟩)/\MX w2 wx w2.heap.size ky #[zc zb tv,za xa xl xc] tv (za (some ⟨gy,0,none⟩) j cy) (X.take j))
    case first=>
     have mk:∀(W:zg) (gy cy:Nat),Below w2.heap.size w2 W->W.heap[w2.heap.size]? =some (zd #[zc zb tv,za xa xl xc] 80 (0,0))->W.ownsRow w2.heap.size 2 1 (za (some ⟨gy,0,none⟩) j cy) j ((X.take j).map (zc zb))->MX w2 (W.alloc (zd #[zc zb tv,za (some ⟨gy,0,none⟩) j cy] 80)) w2.heap.size W.heap.size #[zc zb tv,za xa xl xc] tv (za (some ⟨gy,0,none⟩) j cy) (X.take j):=fun W gy cy hb hx ho=>by
      have hA:Below W.heap.size W (W.alloc (zd #[zc zb tv,za (some ⟨gy,0,none⟩) j cy] 80)):=zK _;exact⟨hb.trans (hA.mono hb.size),za0 hA (za2 hx) hx,zN _ _,by rw[HTL.X];exact ho.alloc _,zQ _,hb.size,by have:=za2 hx;omega⟩
     have MK:Hid _:=mk;clear mk;rcases HXF.X with⟨e1,e2⟩|⟨bx,ox,e1⟩
     ·subst e1 e2
      have hj0:j=0:=by omega
      subst hj0
      go_wp2_with(at_builtin
                  refine zM5 _ rfl (.tmp 61) (.tmp 65) rfl (w2.heap.size+1) 0 0 xc rfl rfl (zQ _) ?_)
      go_meet;have h9:=MK.X _ _ _ B4.X XR4.X (by rw[xR];exact OE.X);rw[show((w2.alloc (zd #[zc zb tv,za none 0 xc] 80)).alloc (zd #[] 2)).heap.size=w2.heap.size+1+1 by simp]at h9;exact⟨_,_,_,rfl,h9⟩
     ·subst e1
      go_wp2_with(at_builtin
                  go_must(refine zc9 _ rfl (.tmp 61) (.tmp 65) rfl w2.heap.size _ 0 [] rfl OE.X bx ox j xc (X.take j) rfl HTL.X (zX1 (X2.below B4.X) j) (by omega) (by omega) B4.size ?_)
                  go_loud(
                   intro lv w5 hown hg hbk hnl;have hge:∀q,(za (some ⟨w2.heap.size+1,0,none⟩) 0 0).ownBlock=some q->w2.heap.size+1<=q:=fun q e=>by have:=z45 e;omega
                   have B5:Hid _:=B4.grown hg B4.size (fun q e=>by have:=hge q e;omega);have XR5:Hid _:=zb9 hg XR4.X (fun e=>by have:=hge _ e.symm;omega);obtain⟨gy,cy,e⟩:=zq9 hown (zn9 hnl ⟨_,_,_,rfl⟩);rw[z6]at e;subst e;have O5:Hid (w5.ownsRow w2.heap.size 2 1 (za (some ⟨gy,0,none⟩) j cy) j ((X.take j).map (zc zb))):=by rw[z6,yo]at hown;exact hown)
                  clear hown hg hbk hnl hge)
      go_meet;exact⟨_,_,_,rfl,MK.X _ _ _ B5.X XR5.X O5.X⟩
    case rest=>
     obtain⟨ky,gy,cy,rfl,hM⟩:=hcut;have M5:Hid _:=hM;clear hM XR3 BX3 B4 XR4 OE x0 x1;have HTK:=HTL.X;obtain⟨y0,y1⟩:=za1 M5.y;have hyf:=fun i=>yU _ _ i _ _ M5.y;have hk1:(wc.alloc (zd #[zc zb id] 2)).heap[wc.heap.size]? =some (zd #[zc zb id] 2 (0,0)):=zN _ _;have MA:Hid (MX w2 (wc.alloc (zd #[zc zb id] 2)) w2.heap.size ky #[zc zb tv,za xa xl xc] tv (za (some ⟨gy,0,none⟩) j cy) (X.take j)):=M5.below (zK _)
     go_wp2_with(first
      |(at_builtin
        go_must(refine zD7 _ rfl _ _ rfl w2.heap.size (za (some ⟨gy,0,none⟩) j cy) j (X.take j) rfl (y08 MA.o HTL.X) wc.heap.size 1 id rfl (zR _ _ 0 _ _ _ hk1) (by omega) MA.b.size ?_)
        go_loud(
         intro v' w6 ho hg hn;obtain⟨g1,cg1,rfl⟩:∃g cg,v'=za (some ⟨g,0,none⟩) (j+1) cg:=z94 ho (fun e=>by simpa using(hn.1 e).1) rfl;obtain⟨y6,-,hM6⟩:=MA.grow hg (zC3 ho HTL.X rfl);have M6:Hid _:=hM6;obtain⟨z0,z1⟩:=za1 y6;have zf:=fun i=>yU _ _ i _ _ y6)
        clear ho hg hn hM6))
     clear z0 z1 zf y6 y0 y1 hyf hk1 MA M5;generalize w6.setCell ⟨ky,1,none⟩ (za (some ⟨g1,0,none⟩) (j+1) cg1)=W6 at*;have HT1:Hid ((X.take j++[id]).length=j+1):=by show _=_;rw[xU,HTL.X];rfl
     have HDL:Hid ((X.drop j).length=xl - j):=by show _=_;rw[x7,HXL.X]
     go_upto_region 12 with fail;go_cut [15]from 74 to 81 (fun s15 wx=>s15=.pointer (some ⟨ky,0,none⟩)/\∃(g2 cg2:Nat),MX w2 wx w2.heap.size ky #[zc zb tv,za xa xl xc] tv (za (some ⟨g2,0,none⟩) (xl+1) cg2) (insL X j id))
     case first=>
      rcases HXF.X with⟨e1,e2⟩|⟨bx,ox,e1⟩
      ·subst e1 e2
       have hj0:j=0:=by omega
       have hX0:X=[]:=xt HXL.X;subst hj0 hX0
       go_wp2_with fail
       refine ze1 (S:=(fun W=>W.cell? ⟨ky,1,none⟩=some (za (some ⟨g1,0,none⟩) (0+1) cg1)/\W.cell? ⟨w2.heap.size,1,none⟩=some (za none 0 xc))) 8 (by kernel_rfl) ?_ (fun hHeld=> ?_)
       ·exact⟨(za1 (M6.below (yV _ _).drew).y).2,(za1 (M6.below (yV _ _).drew).x).2⟩
       have MD:Hid (MX w2 W6.drew w2.heap.size ky #[zc zb tv,za none 0 xc] tv (za (some ⟨g1,0,none⟩) (0+1) cg1) ([]++[id])):=M6.below (yV _ _).drew;have hcap:0+1<=cg1:=z60 (k:=0+1) MD.o;clear M6;generalize W6.drew=wd12 at*;refine tkZ 0 hHeld ?_;refine tkZ 1 hHeld ?_;refine tkZ 2 hHeld ?_;refine tkZ 3 hHeld ?_;refine tkZ 4 hHeld ?_;refine tkZ 5 hHeld ?_;refine zb7 (rs:=[6]) (by kernel_rfl) (by simp) ?_;refine zb1.cons rfl (fun K hK=> ?_) zb1.nil;refine zE1 (w:=wd12) rfl (.tmp 75) (.tmp 79) rfl g1 (0+1) cg1 xc rfl rfl hcap ?_;rintro w9 rfl;have M9:Hid (MX w2 (w9.setCell ⟨ky,1,none⟩ (za (some ⟨g1,0,none⟩) (0+1) cg1)) w2.heap.size ky #[zc zb tv,za none 0 xc] tv (za (some ⟨g1,0,none⟩) (0+1) cg1) (insL [] 0 id)):=(MD.grow (zz6 _ _) MD.o).2.2;obtain⟨z0,z1⟩:=za1 MD.y;have zf:=fun i=>yU _ _ i _ _ MD.y;refine hK.out _ _ ?_ (fun hHeld=> ?_)
       ·exact⟨(za1 MD.y).2,(za1 MD.x).2⟩
       clear hK K;change zk8 _ _ _ _ _ _ _ _ (zi _ (some 80) _) _;simp only[zi,xB,zL,xC];refine tkZ 7 hHeld ?_;refine zb7 (rs:=[8]) (by kernel_rfl) (by simp) ?_;refine zb1.last rfl (fun K hK=> ?_);go_simp;refine hK.out _ _ ?_;clear hK K;refine zh0 (by kernel_rfl) ?_ _;clear hHeld
       (try go_wp2_with fail)
       go_meet;exact⟨rfl,_,_,M9.X⟩
      ·subst e1
       go_wp2_with fail
       refine ze1 (S:=(fun W=>W.cell? ⟨ky,1,none⟩=some (za (some ⟨g1,0,none⟩) (j+1) cg1)/\W.cell? ⟨w2.heap.size,1,none⟩=some (za (some ⟨bx,ox,none⟩) xl xc))) 8 (by kernel_rfl) ?_ (fun hHeld=> ?_)
       ·exact⟨(za1 (M6.below (yV _ _).drew).y).2,(za1 (M6.below (yV _ _).drew).x).2⟩
       have MD:Hid _:=M6.below (yV _ _).drew;clear M6;generalize W6.drew=wd12 at*;refine tkZ 0 hHeld ?_;refine tkZ 1 hHeld ?_;refine tkZ 2 hHeld ?_;refine tkZ 3 hHeld ?_;refine tkZ 4 hHeld ?_;refine tkZ 5 hHeld ?_;refine zb7 (rs:=[6]) (by kernel_rfl) (by simp) ?_;refine zb1.cons rfl (fun K hK=> ?_) zb1.nil;refine z06 rfl (.tmp 75) (.tmp 79) rfl w2.heap.size (za (some ⟨g1,0,none⟩) (j+1) cg1) (X.take j++[id]) (j+1) rfl (y08 MD.o HT1.X) _ _ _ (X.drop j) rfl (yl3 _ _ _ _) (by have:=HDL.X;omega) (yl8 (X2.below MD.b) _ _ (by rw[HXL.X];omega)) (by omega) (by omega) MD.b.size ?_;intro v' w9 ho hg hn;generalize(if xc=j then some (⟨bx,ox,none⟩:Addr)else some ⟨bx,ox+j,none⟩)=adx at*;obtain⟨g2,cg2,rfl⟩:∃g cg,v'=za (some ⟨g,0,none⟩) (xl+1) cg:=z94 ho (fun e=>by simpa using(hn.1 e).1) (by omega);have ho2:=zC3 ho HT1.X (by have:=HDL.X;omega);have hin:X.take j++[id]++X.drop j=insL X j id:=by simp[insL]
       rw[hin]at ho2;obtain⟨y9,x9,hM9⟩:=MD.grow hg ho2;have M9:Hid _:=hM9;have kS9:=xe (za1 y9).2 (za1 x9).2;obtain⟨z0,z1⟩:=za1 y9;have zf:=fun i=>yU _ _ i _ _ y9;clear ho hg hn ho2 hin hM9 x9;refine hK.out _ _ ?_ (fun hHeld=> ?_)
       ·exact kS9
       clear hK K;change zk8 _ _ _ _ _ _ _ _ (zi _ (some 80) _) _;simp only[zi,xB,zL,xC];refine tkZ 7 hHeld ?_;refine zb7 (rs:=[8]) (by kernel_rfl) (by simp) ?_;refine zb1.last rfl (fun K hK=> ?_);go_simp;refine hK.out _ _ ?_;clear hK K;refine zh0 (by kernel_rfl) ?_ _;clear hHeld
       (try go_wp2_with fail)
       go_meet;exact⟨rfl,_,_,M9.X⟩
     case rest=>
      obtain⟨rfl,g2,cg2,hM⟩:=hcut;have M8:Hid _:=hM;clear hM M6;have HIL:Hid ((insL X j id).length=xl+1):=by show _=_;rw[zr4 id (by rw[HXL.X];exact hj),HXL.X]
      have HIN0:Hid (insL X j id≠[]):=by show _≠_;unfold insL;simp
      have Q8:Hid _:=Q2.below M8.b;have N8:Hid _:=za0 M8.b (za2 N2.X) N2.X;have O8:Hid _:=O2.below M8.b;have Y8:Hid (za3 wc (some ⟨g2,0,none⟩) (insL X j id)):=zg7 (by have h9:=M8.o;rw[HIL.X]at h9;exact h9);have hR1n:R1.length<=12:=by have h1:=congrArg zj HK1.X;have h2:=zR4 R id;simp only[qn]at h1;omega
      have ST:=z41 ra1 gl1 0 rc1 lc1 g2 0 cg2 R1 L tv (insL X j id) wc (z27 O8.X HN1.X) (yr8 O8.X HM.X) Y8.X (by omega) (fun r hr=>⟨(HIN1.X r hr).1,by have:=(HIN1.X r hr).2.1;omega⟩) (by omega) ⟨HIN0.X,by have:=HIL.X;omega⟩;rw[HN1.X,HM.X,HIL.X]at ST;obtain⟨n0,n1'⟩:=za1 N8.X;obtain⟨y0,y1⟩:=za1 M8.y
      go_wp2_with fail
      refine ST.mono ?_;rintro e w13 ⟨ra3,rc3,gl3,lc3,S3,rfl,hb,hk3,ho3⟩;rw[HM.X]at ho3⊢;obtain⟨n3,HN3⟩:=nmd S3.length;rw[HN3.X]at ho3⊢;have HK3:Hid (S3.map RT.key=(rlN R id tv j).map RT.key):=by
       show _=_;rw[hk3,z39 (zf0 (yw5 HK1.X (z53 (zf0 HPW.X) id).pw)) HIN0.X,HRN.X];exact z72 HK1.X rfl
      obtain⟨pv,HPV⟩:=nmd (zc3 n zs os vs ko kv fine (rlN R id tv j) L);obtain⟨pd,HPD⟩:=nmd (decide (pv=0));have hpd:(pv==0)=pd:=HPD.X;have HPC:Hid (∀W,Below w.heap.size w W->PO W (w.heap.size+3) (za ra3 n3 rc3) S3 (za (some ⟨gl3,0,none⟩) ln lc3) L->Calls ze 38 #[.agg #[zc zb n,za a zl cap,za ao ko co,za av kv cv,zc zb fine],.agg #[za ra3 n3 rc3,za (some ⟨gl3,0,none⟩) ln lc3]] W fun e w'=>e=.returned (zc zb pv)/\Below W.heap.size W w'):=fun W hW hO=>by
       have hq:=zK3 HPW.X HNE.X HND.X hk HID.X tv j;have h12:=(zk3 HPL.X).1;have hsm:=zq3 HK3.X (zV1 HPL.X hk HID.X tv j);have hn3:S3.length<=25:=by have h1:=congrArg zj HK3.X;have h2:=yB6 R id tv j;simp only[qn]at h1;omega
       have PC:=zj3 n fine a ao av ra3 (some ⟨gl3,0,none⟩) cap ko co kv cv rc3 lc3 zs os vs L S3 W (HA.below hW) (HO.below hW) (HV.below hW) (z27 hO HN3.X) (yr8 hO HM.X) HLO.X HLV.X hko hkv (by omega) (fun r hr=>by have:=(hsm r hr).2;omega) (fun r hr=>(hO.ints r hr).2) (by omega) (by rw[zb6,z33 HK3.X,hq.length_eq,<-zb6];omega);rw[HN3.X,HM.X,HLZ.X,zd2 L HK3.X,HPV.X]at PC;exact PC
      have hA:Below w13.heap.size w13 (w13.alloc (zd #[za ra3 n3 rc3,za (some ⟨gl3,0,none⟩) ln lc3] 33)):=zK _;have Q14:Hid _:=(Q8.below hb).below hA;have B14:Hid ((w13.alloc (zd #[za ra3 n3 rc3,za (some ⟨gl3,0,none⟩) ln lc3] 33)).heap[w13.heap.size]? =some (zd #[za ra3 n3 rc3,za (some ⟨gl3,0,none⟩) ln lc3] 33 (0,0))):=zN _ _;have O14:Hid _:=(ho3.base (by have:=Q8.size;omega)).below hA;have HKO:Hid _:=(Q8.below hb).size;clear hA hb hk3 ho3 ST n0 n1' y0 y1 Q8 N8 O8 Y8 M8 Q2 N2 O2 X2
      go_wp2_with fail
      generalize w13.alloc (zd #[za ra3 n3 rc3,za (some ⟨gl3,0,none⟩) ln lc3] 33)=W14 at*;obtain⟨kq,HKQ⟩:=nmd w13.heap.size;rw[HKQ.X]at B14 HKO⊢;refine qV (S:=(fun W=>(W.cell? ⟨w.heap.size,0,none⟩=some (zc zb n)/\W.cell? ⟨w.heap.size,1,none⟩=some (za a zl cap)/\W.cell? ⟨w.heap.size,2,none⟩=some (za ao ko co)/\W.cell? ⟨w.heap.size,3,none⟩=some (za av kv cv)/\W.cell? ⟨w.heap.size,4,none⟩=some (zc zb fine))/\W.cell? ⟨kq,0,none⟩=some (za ra3 n3 rc3)/\W.cell? ⟨kq,1,none⟩=some (za (some ⟨gl3,0,none⟩) ln lc3))) (by kernel_rfl) ?_ (fun hHeld=> ?_)
      ·exact⟨za7 (Q14.below (yV _ _).drew).c,za1 (za0 (yV _ _).drew (za2 B14.X) B14.X)⟩
      have QD:Hid _:=Q14.below (yV _ _).drew;have BD14:Hid _:=za0 (yV _ _).drew (za2 B14.X) B14.X;have OD:Hid _:=O14.below (yV _ _).drew;clear Q14 B14 O14;generalize W14.drew=wd14 at*;refine tkH 0 hHeld ?_;refine tkH 1 hHeld ?_;refine tkH 2 hHeld ?_;refine qT (rs:=[3]) (by kernel_rfl) (by simp) ?_;refine qR rfl (fun K hK=> ?_) qS;go_simp;refine(HPC.X wd14 QD.b OD.X).mono ?_;rintro e w15 ⟨rfl,hb⟩;have Q15:Hid _:=QD.below hb;have B15:Hid _:=za0 hb (za2 BD14.X) BD14.X;have O15:Hid _:=OD.below hb;clear hb
      (try go_wp2_with fail)
      refine hK.out _ _ ?_ (fun hHeld=> ?_)
      ·exact⟨za7 Q15.c,za1 B15.X⟩
      clear hK K
      (try simp only[zi,xB,zL,xC])
      refine tkH 4 hHeld ?_;refine qT (rs:=[5]) (by kernel_rfl) (by simp) ?_;refine qR rfl (fun K hK=> ?_) qS;obtain⟨a0,a1⟩:=za1 Q15.o;have af:=fun i=>yU _ _ i _ _ Q15.o;have s1:=zP w15 (w.heap.size+2) 0 _ _ (za ra3 n3 rc3) Q15.o;have P16:Hid (PO ((w15.setCell ⟨w.heap.size+2,0,none⟩ (za ra3 n3 rc3)).setCell ⟨w.heap.size+2,1,none⟩ (za (some ⟨gl3,0,none⟩) ln lc3)) (w.heap.size+3) (za ra3 n3 rc3) S3 (za (some ⟨gl3,0,none⟩) ln lc3) L):=(O15.box Q15.o).box s1;simp only[xB,zL]at s1;have s2:=zP _ (w.heap.size+2) 1 _ _ (za (some ⟨gl3,0,none⟩) ln lc3) s1;simp only[xB,zL,xC]at s2;have A16:Hid _:=s2;have C16:Hid (((w15.setCell ⟨w.heap.size+2,0,none⟩ (za ra3 n3 rc3)).setCell ⟨w.heap.size+2,1,none⟩ (za (some ⟨gl3,0,none⟩) ln lc3)).heap[w.heap.size]? =some (zd #[zc zb n,za a zl cap,za ao ko co,za av kv cv,zc zb fine] 30 (0,0))):=za6 (za6 Q15.c (by omega)) (by omega);have K16:Hid (((w15.setCell ⟨w.heap.size+2,0,none⟩ (za ra3 n3 rc3)).setCell ⟨w.heap.size+2,1,none⟩ (za (some ⟨gl3,0,none⟩) ln lc3)).heap[kq]? =some (zd #[za ra3 n3 rc3,za (some ⟨gl3,0,none⟩) ln lc3] 33 (0,0))):=za6 (za6 B15.X (by have:=HKO.X;omega)) (by have:=HKO.X;omega);have B16:Hid (Below w.heap.size w ((w15.setCell ⟨w.heap.size+2,0,none⟩ (za ra3 n3 rc3)).setCell ⟨w.heap.size+2,1,none⟩ (za (some ⟨gl3,0,none⟩) ln lc3))):=(Q15.b.setCell (by simp) _).setCell (by simp) _;clear s1 s2;go_simp;refine hK.out _ _ ?_ (fun hHeld=> ?_)
      ·exact⟨za7 C16.X,za1 K16.X⟩
      clear hK K;clear a0 a1 af;generalize((w15.setCell ⟨w.heap.size+2,0,none⟩ (za ra3 n3 rc3)).setCell ⟨w.heap.size+2,1,none⟩ (za (some ⟨gl3,0,none⟩) ln lc3))=W16 at*;refine tkH 6 hHeld ?_;refine qU (by kernel_rfl) ?_ _;clear hHeld;obtain⟨a0,a1⟩:=za1 A16.X;go_wp2;refine yX (v:=.tuple #[.agg #[za ra3 n3 rc3,za (some ⟨gl3,0,none⟩) ln lc3],.bool pd]) (by simp[results,Tryz.results131,go_sem,a0,a1]) rfl ?_;refine⟨B16.X,.inr ⟨by rw[HXE.X,HXL.X];exact HIB.X,ra3,n3,rc3,gl3,lc3,S3,?_,HN3.X,HK3.X,?_⟩⟩
      ·rw[show((j:Int)).toNat=j from yk j,HPV.X,HPD.X,HM.X]
      ·rw[HM.X]
       exact P16.base (by omega)
def z26(w:zg)(v:Int)(f:Bool)(T:List RT)(L:List Int)(e:Ending)(w':zg):Prop:=∃ra rn rc la ln lc S,e=.returned (.tuple #[.agg #[za ra rn rc,za la ln lc],zc zb v,.bool f])/\Below w.heap.size w w'/\S.length=rn/\L.length=ln/\S.map RT.key=T.map RT.key/\PO w' w.heap.size (za ra rn rc) S (za la ln lc) L/\(f=true->∃g,la=some ⟨g,0,none⟩)
theorem zJ2(id tv pl n fine:Int)(a ao av ra la:Option Addr)(zl cap ko co kv cv nr rc ln lc:Nat)(zs os vs L:List Int)(R:List RT)(w:zg)(hA:za3 w a zs)(hO:za3 w ao os)(hV:za3 w av vs)(hlz:zs.length=zl)(hlo:os.length=ko*6)(hlv:vs.length=kv*5)(hko:ko<=9223372036854775807)(hkv:kv<=9223372036854775807)(hP:zb8 w ra la nr ln R L)(hn:nr<=1048576)(hi:∀r∈R,r.ids.length<=1048576)(hll:ln<=1048576)(hal:(za8 R R.length).length<=1048576)(hla:zc3 n zs os vs ko kv fine R L=0->∃bl ol,la=some ⟨bl,ol,none⟩):
 Calls ze 94 #[.agg #[zc zb n,za a zl cap,za ao ko co,za av kv cv,zc zb fine],.agg #[za ra nr rc,za la ln lc],zc zb id,zc zb tv,zc zb pl] w (z26 w (rqD id tv pl n fine zs os vs ko kv R L) (rqB id tv pl n fine zs os vs ko kv R L) (rqR id tv pl n fine zs os vs ko kv R L) (rqL id tv pl n fine zs os vs ko kv R L)):=by
 have HA:=za4 hA;have HLX:Hid _:=hla;have HO:=za4 hO;have HV:=za4 hV;have HLZ:Hid _:=hlz;have HLO:Hid _:=hlo;have HLV:Hid _:=hlv;have HP:=za4 hP;have HN:Hid _:=hP.1;have HM:Hid _:=hP.2.1;have HI:Hid _:=hi;clear hA hO hV hlz hlo hlv hP hi hla;obtain⟨pv,HPV⟩:=nmd (zc3 n zs os vs ko kv fine R L);have HNO:Hid (rqB id tv pl n fine zs os vs ko kv R L=false->rqD id tv pl n fine zs os vs ko kv R L=0/\rqB id tv pl n fine zs os vs ko kv R L=false/\rqR id tv pl n fine zs os vs ko kv R L=[]/\rqL id tv pl n fine zs os vs ko kv R L=[]):=fun h=>by
  unfold rqD rqR rqL;rw[h];exact⟨rfl,rfl,rfl,rfl⟩
 have HYE:Hid (rqB id tv pl n fine zs os vs ko kv R L=true->rqD id tv pl n fine zs os vs ko kv R L=zh7 n zs os vs ko kv (rlN R id tv pl.toNat) (fine*L.length) (rlN R id tv pl.toNat).length - zh7 n zs os vs ko kv R (fine*L.length) R.length/\rqR id tv pl n fine zs os vs ko kv R L=rlN R id tv pl.toNat/\rqL id tv pl n fine zs os vs ko kv R L=L):=fun h=>by
  unfold rqD rqR rqL;rw[h];exact⟨rfl,rfl,rfl⟩
 have HBE:Hid (rqB id tv pl n fine zs os vs ko kv R L=(decide (pv=0)&&(decide (id∈za8 R R.length)&&(inB pl 0 ((zc6 (lvR R id) tv).ids.length:Int)&&decide (zc3 n zs os vs ko kv fine (rlN R id tv pl.toNat) L=0))))):=by
  show _=_;unfold rqB;rw[HPV.X]
 obtain⟨GD,HGD⟩:=nmd (rqD id tv pl n fine zs os vs ko kv R L);obtain⟨GB,HGB⟩:=nmd (rqB id tv pl n fine zs os vs ko kv R L);obtain⟨GR,HGR⟩:=nmd (rqR id tv pl n fine zs os vs ko kv R L);obtain⟨GL,HGL⟩:=nmd (rqL id tv pl n fine zs os vs ko kv R L);rw[HGD.X,HGB.X,HGR.X,HGL.X]at HNO HYE;rw[HGB.X]at HBE;rw[HGD.X,HGB.X,HGR.X,HGL.X];clear HGD HGB HGR HGL;have Q0:Hid (GQ w (((w.alloc (zd #[zc zb n,za a zl cap,za ao ko co,za av kv cv,zc zb fine] 30)).alloc (zd #[za ra nr rc,za la ln lc] 33)).alloc (zd #[za none 0 0,za none 0 0] 33)) #[zc zb n,za a zl cap,za ao ko co,za av kv cv,zc zb fine] #[za ra nr rc,za la ln lc]):=by
  refine⟨((zK _).alloc (by simp) _).alloc (by simp;omega) _,?_,?_,?_⟩
  ·exact(yY _ _ (by simp;omega)).trans (xb _ _ _)
  ·exact(yY _ _ (by simp)).trans (y8 _ _ _)
  ·have:=zN ((w.alloc (zd #[zc zb n,za a zl cap,za ao ko co,za av kv cv,zc zb fine] 30)).alloc (zd #[za ra nr rc,za la ln lc] 33)) (zd #[za none 0 0,za none 0 0] 33)
   simpa using this
 have PCA:Hid (∀W,Below w.heap.size w W->Calls ze 38 #[.agg #[zc zb n,za a zl cap,za ao ko co,za av kv cv,zc zb fine],.agg #[za ra nr rc,za la ln lc]] W fun e w'=>e=.returned (zc zb pv)/\Below W.heap.size W w'):=fun W hW=>by
  have PC:=zj3 n fine a ao av ra la cap ko co kv cv rc lc zs os vs L R W (HA.below hW) (HO.below hW) (HV.below hW) (HP.2.2.1.below hW) (HP.2.2.2.1.below hW) HLO.X HLV.X hko hkv (by rw[HN.X];exact hn) HI.X HP.2.2.2.2.2.2 (by rw[HM.X];exact hll) hal;rw[HN.X,HM.X,HLZ.X,HPV.X]at PC;exact PC
 obtain⟨c0,c1,c2,c3,c4⟩:=za7 Q0.c;obtain⟨p0,p1⟩:=za1 Q0.p;go_enter Tryz.func94,Tryz.ntmps94
 go_wp2_with fail
 generalize((w.alloc (zd #[zc zb n,za a zl cap,za ao ko co,za av kv cv,zc zb fine] 30)).alloc (zd #[za ra nr rc,za la ln lc] 33)).alloc (zd #[za none 0 0,za none 0 0] 33)=W0 at*;refine(PCA.X W0 Q0.b).mono ?_;rintro e w1 ⟨rfl,hb⟩;have Q1:Hid _:=Q0.below hb;clear hb c0 c1 c2 c3 c4 p0 p1 Q0;by_cases hpv:pv=0;rotate_left
 ·have hpn:(pv !=0)=true:=by simp[hpv]
  obtain⟨g1,g2,g3,g4⟩:=HNO.X (by rw[HBE.X,zU hpv,qX]);subst g1 g2 g3 g4;obtain⟨a0,a1⟩:=za1 Q1.o;have af:=fun i=>yU _ _ i _ _ Q1.o;have BE:=Q1.b;clear HNO HYE HBE;go_wp2;refine yX (v:=.tuple #[.agg #[za none 0 0,za none 0 0],zc zb 0,.bool false]) (by simp[results,Tryz.results94,go_sem,a0,a1]) rfl ?_;show z26 _ _ _ _ _ _ _;exact⟨none,0,0,none,0,0,[],rfl,(BE.setCell (by simp<;>omega) _).setCell (by simp<;>omega) _,rfl,rfl,rfl,⟨qP _ _ _ _,(fun s hs=>by cases hs),qP _ _ _ _⟩,(fun h=>by cases h)⟩
 ·have hpn:(pv !=0)=false:=by simp[hpv]
  have HPL:Hid _:=HPV.trans hpv;obtain⟨bl,ol,ela⟩:=HLX.X HPL.X;subst ela;have hps:=ze4 HPL.X;rw[zS hpv,qW]at HBE;have SV:=zs5 n fine a ao av ra (some ⟨bl,ol,none⟩) cap ko co kv cv rc lc zs os vs L R w1 (HP.2.2.1.below Q1.b) (by rw[HN.X];exact hn) HP.2.2.2.2.2.2 pv HPV.X (fun X hX=>by rw[HLZ.X,HN.X,HM.X];exact PCA.X X (Q1.b.trans (hX.mono Q1.b.size)));have hsv:zi9 n zs os vs ko kv fine R L=zr3 (za8 R R.length):=by unfold zi9;rw[zV HPL.X]
  obtain⟨X,HX⟩:=nmd (zr3 (za8 R R.length));obtain⟨xl,HXL⟩:=nmd X.length;rw[hsv,HX.X,HXL.X,HLZ.X,HN.X,HM.X]at SV;have hx12:xl<=12:=by rw[<-HXL.X,<-HX.X,zo3];exact(zk3 HPL.X).1
  clear hsv;obtain⟨c0,c1,c2,c3,c4⟩:=za7 Q1.c;obtain⟨p0,p1⟩:=za1 Q1.p
  go_wp2_with fail
  refine SV.mono ?_;rintro e w2 ⟨sl,rfl,hb,ho⟩;obtain⟨sa,sc,hsl⟩:=zh9 ho;subst hsl;have Q2:Hid _:=Q1.below hb;have LH:=z46 sa xl sc id X w2 (zg7 ho) (by rw[HXL.X];exact zQ _) (by omega);have hhm:=zt3 X id;rw[HXL.X]at hhm;rw[hhm]at LH;clear hb ho SV c0 c1 c2 c3 c4 p0 p1 Q1 hhm;by_cases hid:id∈za8 R R.length;rotate_left
  ·have hX9:id∉X:=by rw[<-HX.X,zC0];exact hid
   rw[zU hX9]at LH;obtain⟨g1,g2,g3,g4⟩:=HNO.X (by rw[HBE.X,zU hid,qX]);subst g1 g2 g3 g4;obtain⟨a0,a1⟩:=za1 Q2.o;have af:=fun i=>yU _ _ i _ _ Q2.o;have BE:=Q2.b;clear HNO HYE HBE
   go_wp2_with(go_at_call 87;refine LH.mono ?_;rintro e w' ⟨rfl,hw'⟩;subst w')
   refine yX (v:=.tuple #[.agg #[za none 0 0,za none 0 0],zc zb 0,.bool false]) (by simp[results,Tryz.results94,go_sem,a0,a1]) rfl ?_;show z26 _ _ _ _ _ _ _;exact⟨none,0,0,none,0,0,[],rfl,(BE.setCell (by simp<;>omega) _).setCell (by simp<;>omega) _,rfl,rfl,rfl,⟨qP _ _ _ _,(fun s hs=>by cases hs),qP _ _ _ _⟩,(fun h=>by cases h)⟩
  ·have hX9:id∈X:=by rw[<-HX.X,zC0];exact hid
   rw[zS hX9]at LH;rw[zS hid,qW]at HBE;obtain⟨k,hk,hin,-⟩:=zD9 hid;have MV:=yp2 id tv pl n fine a ao av ra zl cap ko co kv cv nr rc bl ol ln lc zs os vs L R w2 (HA.below Q2.b) (HO.below Q2.b) (HV.below Q2.b) HLZ.X HLO.X HLV.X hko hkv (HP.below Q2.b) HPL.X k hk hin;clear hX9 hk hin hid HX;obtain⟨c0,c1,c2,c3,c4⟩:=za7 Q2.c;obtain⟨p0,p1⟩:=za1 Q2.p
   go_wp2_with(go_at_call 87;refine LH.mono ?_;rintro e w' ⟨rfl,hw'⟩;subst w')
   refine MV.mono ?_;rintro e w3 ⟨hb,⟨hib,rfl⟩|⟨hib,ra3,n3,rc3,gl3,lc3,S3,rfl,hn3,hk3,ho3⟩⟩
   ·rw[hib,qX]at HBE
    have QA:Hid (GQ w (w3.alloc (zd #[za none 0 0,za none 0 0] 33)) #[zc zb n,za a zl cap,za ao ko co,za av kv cv,zc zb fine] #[za ra nr rc,za (some ⟨bl,ol,none⟩) ln lc]):=(Q2.below hb).below (zK _);clear hb MV LH hib c0 c1 c2 c3 c4 p0 p1;obtain⟨g1,g2,g3,g4⟩:=HNO.X (by rw[HBE.X]);subst g1 g2 g3 g4;obtain⟨a0,a1⟩:=za1 QA.o;have af:=fun i=>yU _ _ i _ _ QA.o;have BE:=QA.b;clear HNO HYE HBE;go_wp2;refine yX (v:=.tuple #[.agg #[za none 0 0,za none 0 0],zc zb 0,.bool false]) (by simp[results,Tryz.results94,go_sem,a0,a1]) rfl ?_;show z26 _ _ _ _ _ _ _;exact⟨none,0,0,none,0,0,[],rfl,(BE.setCell (by simp<;>omega) _).setCell (by simp<;>omega) _,rfl,rfl,rfl,⟨qP _ _ _ _,(fun s hs=>by cases hs),qP _ _ _ _⟩,(fun h=>by cases h)⟩
   ·rw[hib,qW]at HBE
    rw[HM.X]at ho3⊢;have Q3:Hid _:=Q2.below hb;have HN3:Hid _:=hn3;have HK3:Hid _:=hk3;have hA:Below w3.heap.size w3 (w3.alloc (zd #[za ra3 n3 rc3,za (some ⟨gl3,0,none⟩) ln lc3] 33)):=zK _;have Q4:Hid _:=Q3.below hA;have B4:Hid ((w3.alloc (zd #[za ra3 n3 rc3,za (some ⟨gl3,0,none⟩) ln lc3] 33)).heap[w3.heap.size]? =some (zd #[za ra3 n3 rc3,za (some ⟨gl3,0,none⟩) ln lc3] 33 (0,0))):=zN _ _;have O4:Hid _:=(ho3.base Q2.size).below hA;have HKO:Hid _:=Q3.size;clear hA hb hn3 hk3 ho3 MV LH hib c0 c1 c2 c3 c4 p0 p1 Q2 Q3;by_cases hw:zc3 n zs os vs ko kv fine (rlN R id tv pl.toNat) L=0;rotate_left
    ·rw[zU hw]at HBE
     rw[zU hw];obtain⟨g1,g2,g3,g4⟩:=HNO.X (by rw[HBE.X]);subst g1 g2 g3 g4;obtain⟨a0,a1⟩:=za1 Q4.o;have af:=fun i=>yU _ _ i _ _ Q4.o;have BE:=Q4.b;clear HNO HYE HBE;go_wp2;refine yX (v:=.tuple #[.agg #[za none 0 0,za none 0 0],zc zb 0,.bool false]) (by simp[results,Tryz.results94,go_sem,a0,a1]) rfl ?_;show z26 _ _ _ _ _ _ _;exact⟨none,0,0,none,0,0,[],rfl,(BE.setCell (by simp<;>omega) _).setCell (by simp<;>omega) _,rfl,rfl,rfl,⟨qP _ _ _ _,(fun s hs=>by cases hs),qP _ _ _ _⟩,(fun h=>by cases h)⟩
    ·rw[zS hw]at HBE
     rw[zS hw];obtain⟨y1,y2,y3⟩:=HYE.X HBE.X;have hps2:=ze4 hw;have bd1:=z37 (zb5 HPL.X).1 (zb5 HPL.X).2.1 (fine*L.length) R.length (zQ _);have bd2:=z37 (zb5 hw).1 (zb5 hw).2.1 (fine*L.length) (rlN R id tv pl.toNat).length (zQ _);have LC1:Hid (∀W,Below w.heap.size w W->_):=fun W hW=>z90 n fine a ao av ra (some ⟨bl,ol,none⟩) cap ko co kv cv rc lc zs os vs L R W (HA.below hW) (HO.below hW) (HV.below hW) (HP.2.2.1.below hW) HLO.X HLV.X hko hkv HPL.X;have LC2:Hid (∀W,Below w.heap.size w W->PO W (w.heap.size+3) (za ra3 n3 rc3) S3 (za (some ⟨gl3,0,none⟩) ln lc3) L->Calls ze 41 #[.agg #[zc zb n,za a zl cap,za ao ko co,za av kv cv,zc zb fine],.agg #[za ra3 n3 rc3,za (some ⟨gl3,0,none⟩) ln lc3]] W fun e w'=>e=.returned (zc zb (zh7 n zs os vs ko kv (rlN R id tv pl.toNat) (fine*L.length) (rlN R id tv pl.toNat).length))/\Below W.heap.size W w'):=fun W hW hO=>by
      have h9:=z90 n fine a ao av ra3 (some ⟨gl3,0,none⟩) cap ko co kv cv rc3 lc3 zs os vs L S3 W (HA.below hW) (HO.below hW) (HV.below hW) (z27 hO HN3.X) HLO.X HLV.X hko hkv ((zd2 L HK3.X).trans hw);rw[zy5 HK3.X,HLZ.X]at h9;have e9:=zr5 HK3.X;rw[e9]at h9;rw[HN3.X]at e9;rw[<-e9,HM.X]at h9;rw[<-e9,HM.X];exact h9
     rw[HLZ.X,HN.X,HM.X]at LC1;rw[HM.X]at y1 bd1 bd2 LC2;rw[HN.X]at y1 bd1;obtain⟨d1,HD1⟩:=nmd (zh7 n zs os vs ko kv R (fine*(ln:Int)) nr);obtain⟨d2,HD2⟩:=nmd (zh7 n zs os vs ko kv (rlN R id tv pl.toNat) (fine*(ln:Int)) (rlN R id tv pl.toNat).length);rw[HD1.X]at y1 bd1 LC1;rw[HD2.X]at y1 bd2 LC2;have hz:=hps2.2.2;rw[HM.X]at hz;have hrl:=hps2.1;have hb1:0<=d1/\d1<=20000000:=by have h1:=hps.1;rw[HN.X]at h1;omega
     have hb2:0<=d2/\d2<=20000000:=by omega
     have hwr:IntKind.i64.wrap (d2 - d1)=d2 - d1:=qB _ (by omega);obtain⟨hb11,hb12⟩:=hb1;obtain⟨hb21,hb22⟩:=hb2;have HKG:Hid (S3.map RT.key=GR.map RT.key):=by show _=_;rw[y2];exact HK3.X
     have HBT:=HBE.X;have HGD:Hid (d2 - d1=GD):=y1.symm;clear y1 y2 bd1 bd2 hz hrl hps2 hw HYE HNO HBE;subst HBT;subst y3
     go_wp2_with fail
     generalize w3.alloc (zd #[za ra3 n3 rc3,za (some ⟨gl3,0,none⟩) ln lc3] 33)=W4 at*;obtain⟨kq,HKQ⟩:=nmd w3.heap.size;rw[HKQ.X]at B4 HKO⊢;refine qV (S:=(fun W=>(W.cell? ⟨w.heap.size,0,none⟩=some (zc zb n)/\W.cell? ⟨w.heap.size,1,none⟩=some (za a zl cap)/\W.cell? ⟨w.heap.size,2,none⟩=some (za ao ko co)/\W.cell? ⟨w.heap.size,3,none⟩=some (za av kv cv)/\W.cell? ⟨w.heap.size,4,none⟩=some (zc zb fine))/\(W.cell? ⟨w.heap.size+1,0,none⟩=some (za ra nr rc)/\W.cell? ⟨w.heap.size+1,1,none⟩=some (za (some ⟨bl,ol,none⟩) ln lc))/\W.cell? ⟨kq,0,none⟩=some (za ra3 n3 rc3)/\W.cell? ⟨kq,1,none⟩=some (za (some ⟨gl3,0,none⟩) ln lc3))) (by kernel_rfl) ?_ (fun hHeld=> ?_)
     ·exact⟨za7 (Q4.below (yV _ _).drew).c,za1 (Q4.below (yV _ _).drew).p,za1 (za0 (yV _ _).drew (za2 B4.X) B4.X)⟩
     have QD:Hid _:=Q4.below (yV _ _).drew;have BD:Hid _:=za0 (yV _ _).drew (za2 B4.X) B4.X;have OD:Hid _:=O4.below (yV _ _).drew;clear Q4 B4 O4;generalize W4.drew=wd at*;refine tkH 0 hHeld ?_;refine tkH 1 hHeld ?_;refine tkH 2 hHeld ?_;refine tkH 4 hHeld ?_;refine tkH 5 hHeld ?_;refine qT (rs:=[3]) (by kernel_rfl) (by simp) ?_;refine qR rfl (fun K hK=> ?_) qS;go_simp;refine(LC2.X wd QD.b OD.X).mono ?_;rintro e w5 ⟨rfl,hb⟩;have Q5:Hid _:=QD.below hb;have B5:Hid _:=za0 hb (za2 BD.X) BD.X;have O5:Hid _:=OD.below hb;clear hb
     (try go_wp2_with fail)
     refine hK.out _ _ ?_ (fun hHeld=> ?_)
     ·exact⟨za7 Q5.c,za1 Q5.p,za1 B5.X⟩
     clear hK K
     (try simp only[zi,xB,zL,xC])
     refine qT (rs:=[6]) (by kernel_rfl) (by simp) ?_;refine qR rfl (fun K hK=> ?_) qS;go_simp;refine(LC1.X w5 Q5.b).mono ?_;rintro e w6 ⟨rfl,hb⟩;have Q6:Hid _:=Q5.below hb;have B6:Hid _:=za0 hb (za2 B5.X) B5.X;have O6:Hid _:=O5.below hb;clear hb
     (try go_wp2_with fail)
     refine hK.out _ _ ?_ (fun hHeld=> ?_)
     ·exact⟨za7 Q6.c,za1 Q6.p,za1 B6.X⟩
     clear hK K
     (try simp only[zi,xB,zL,xC])
     refine tkH 7 hHeld ?_;refine qT (rs:=[8]) (by kernel_rfl) (by simp) ?_;refine qR rfl (fun K hK=> ?_) qS;obtain⟨a0,a1⟩:=za1 Q6.o;have af:=fun i=>yU _ _ i _ _ Q6.o;have s1:=zP w6 (w.heap.size+2) 0 _ _ (za ra3 n3 rc3) Q6.o;have P7:Hid (PO ((w6.setCell ⟨w.heap.size+2,0,none⟩ (za ra3 n3 rc3)).setCell ⟨w.heap.size+2,1,none⟩ (za (some ⟨gl3,0,none⟩) ln lc3)) (w.heap.size+3) (za ra3 n3 rc3) S3 (za (some ⟨gl3,0,none⟩) ln lc3) GL):=(O6.box Q6.o).box s1;simp only[xB,zL]at s1;have s2:=zP _ (w.heap.size+2) 1 _ _ (za (some ⟨gl3,0,none⟩) ln lc3) s1;simp only[xB,zL,xC]at s2;have A7:Hid _:=s2;have C7:Hid (((w6.setCell ⟨w.heap.size+2,0,none⟩ (za ra3 n3 rc3)).setCell ⟨w.heap.size+2,1,none⟩ (za (some ⟨gl3,0,none⟩) ln lc3)).heap[w.heap.size]? =some (zd #[zc zb n,za a zl cap,za ao ko co,za av kv cv,zc zb fine] 30 (0,0))):=za6 (za6 Q6.c (by omega)) (by omega);have D7:Hid (((w6.setCell ⟨w.heap.size+2,0,none⟩ (za ra3 n3 rc3)).setCell ⟨w.heap.size+2,1,none⟩ (za (some ⟨gl3,0,none⟩) ln lc3)).heap[w.heap.size+1]? =some (zd #[za ra nr rc,za (some ⟨bl,ol,none⟩) ln lc] 33 (0,0))):=za6 (za6 Q6.p (by omega)) (by omega);have K7:Hid (((w6.setCell ⟨w.heap.size+2,0,none⟩ (za ra3 n3 rc3)).setCell ⟨w.heap.size+2,1,none⟩ (za (some ⟨gl3,0,none⟩) ln lc3)).heap[kq]? =some (zd #[za ra3 n3 rc3,za (some ⟨gl3,0,none⟩) ln lc3] 33 (0,0))):=za6 (za6 B6.X (by have:=HKO.X;omega)) (by have:=HKO.X;omega);have B7:Hid (Below w.heap.size w ((w6.setCell ⟨w.heap.size+2,0,none⟩ (za ra3 n3 rc3)).setCell ⟨w.heap.size+2,1,none⟩ (za (some ⟨gl3,0,none⟩) ln lc3))):=(Q6.b.setCell (by simp) _).setCell (by simp) _;clear s1 s2;go_simp;refine hK.out _ _ ?_ (fun hHeld=> ?_)
     ·exact⟨za7 C7.X,za1 D7.X,za1 K7.X⟩
     clear hK K;clear a0 a1 af;generalize((w6.setCell ⟨w.heap.size+2,0,none⟩ (za ra3 n3 rc3)).setCell ⟨w.heap.size+2,1,none⟩ (za (some ⟨gl3,0,none⟩) ln lc3))=W7 at*;refine tkH 9 hHeld ?_;refine tkH 10 hHeld ?_;refine qU (by kernel_rfl) ?_ _;clear hHeld;obtain⟨a0,a1⟩:=za1 A7.X;go_wp2;refine yX (v:=.tuple #[.agg #[za ra3 n3 rc3,za (some ⟨gl3,0,none⟩) ln lc3],zc zb (d2 - d1),.bool true]) (by simp[results,Tryz.results94,go_sem,a0,a1]) rfl ?_;show z26 _ _ _ _ _ _ _;rw[<-HGD.X];exact⟨ra3,n3,rc3,_,ln,lc3,S3,rfl,B7.X,HN3.X,HM.X,HKG.X,P7.base (by omega),fun _=>⟨gl3,rfl⟩⟩
theorem z09(id tv pl n fine:Int)(a ao av ra:Option Addr)(zl cap ko co kv cv nr rc bl ol ln lc:Nat)(zs os vs L:List Int)(R:List RT)(w:zg)(hA:za3 w a zs)(hO:za3 w ao os)(hV:za3 w av vs)(hlz:zs.length=zl)(hlo:os.length=ko*6)(hlv:vs.length=kv*5)(hko:ko<=9223372036854775807)(hkv:kv<=9223372036854775807)(hP:zb8 w ra (some ⟨bl,ol,none⟩) nr ln R L)(hn:nr<=1048576)(hi:∀r∈R,r.ids.length<=1048576)(hll:ln<=1048576)(hal:(za8 R R.length).length<=1048576):
 Calls ze 94 #[.agg #[zc zb n,za a zl cap,za ao ko co,za av kv cv,zc zb fine],.agg #[za ra nr rc,za (some ⟨bl,ol,none⟩) ln lc],zc zb id,zc zb tv,zc zb pl] w (z26 w (rqD id tv pl n fine zs os vs ko kv R L) (rqB id tv pl n fine zs os vs ko kv R L) (rqR id tv pl n fine zs os vs ko kv R L) (rqL id tv pl n fine zs os vs ko kv R L)):=
 zJ2 id tv pl n fine a ao av ra _ zl cap ko co kv cv nr rc ln lc zs os vs L R w hA hO hV hlz hlo hlv hko hkv hP hn hi hll hal (fun _=>⟨_,_,rfl⟩)
theorem z71(id tv pl n fine:Int)(a ao av ra:Option Addr)(zl cap ko co kv cv nr rc bl ol ln lc:Nat)(zs os vs L:List Int)(R:List RT)(w:zg)(hA:za3 w a zs)(hO:za3 w ao os)(hV:za3 w av vs)(hlz:zs.length=zl)(hlo:os.length=ko*6)(hlv:vs.length=kv*5)(hko:ko<=9223372036854775807)(hkv:kv<=9223372036854775807)(hP:zb8 w ra (some ⟨bl,ol,none⟩) nr ln R L)(hn:nr<=1048576)(hi:∀r∈R,r.ids.length<=1048576)(hll:ln<=1048576)(hal:(za8 R R.length).length<=1048576):
 Calls ze 94 #[.agg #[zc zb n,za a zl cap,za ao ko co,za av kv cv,zc zb fine],.agg #[za ra nr rc,za (some ⟨bl,ol,none⟩) ln lc],zc zb id,zc zb tv,zc zb pl] w (yw2 w (rqD id tv pl n fine zs os vs ko kv R L) (rqB id tv pl n fine zs os vs ko kv R L) (rqR id tv pl n fine zs os vs ko kv R L) (rqL id tv pl n fine zs os vs ko kv R L)):=
 (z09 id tv pl n fine a ao av ra zl cap ko co kv cv nr rc bl ol ln lc zs os vs L R w hA hO hV hlz hlo hlv hko hkv hP hn hi hll hal).mono (fun _ _ h=>by
   obtain⟨ra2,rn2,rc2,la2,ln2,lc2,S,h1,h2,h3,h4,h5,h6,_⟩:=h;exact⟨ra2,rn2,rc2,la2,ln2,lc2,S,h1,h2,h3,h4,h5,h6⟩)
theorem zv1{w W:zg}{n fine id veh:Int}{a ao av ra la:Option Addr}{zl cap ko co kv cv nr rc ln lc bi oi bv ov i k:Nat}(h:BCP w W #[zc zb n,za a zl cap,za ao ko co,za av kv cv,zc zb fine] #[za ra nr rc,za la ln lc])(h1:W.cell? ⟨bi,oi+i,none⟩=some (zc zb id))(h2:W.cell? ⟨bv,ov+k*5,none⟩=some (zc zb veh)):W.cell? ⟨w.heap.size,0,none⟩=some (zc zb n)/\W.cell? ⟨w.heap.size,1,none⟩=some (za a zl cap)/\W.cell? ⟨w.heap.size,2,none⟩=some (za ao ko co)/\W.cell? ⟨w.heap.size,3,none⟩=some (za av kv cv)/\W.cell? ⟨w.heap.size,4,none⟩=some (zc zb fine)/\W.cell? ⟨w.heap.size+1,0,none⟩=some (za ra nr rc)/\W.cell? ⟨w.heap.size+1,1,none⟩=some (za la ln lc)/\W.cell? ⟨bi,oi+i,none⟩=some (zc zb id)/\W.cell? ⟨bv,ov+k*5,none⟩=some (zc zb veh):=by
 obtain⟨c0,c1,c2,c3,c4⟩:=za7 h.c;obtain⟨p0,p1⟩:=za1 h.p;exact⟨c0,c1,c2,c3,c4,p0,p1,h1,h2⟩
theorem zG1(n fine:Int)(a ao av ra la:Option Addr)(zl cap ko co kv cv nr rc ln lc:Nat)(zs os vs L:List Int)(R:List RT)(w:zg)(hA:za3 w a zs)(hO:za3 w ao os)(hV:za3 w av vs)(hlz:zs.length=zl)(hlo:os.length=ko*6)(hlv:vs.length=kv*5)(hko:ko<=9223372036854775807)(hkv:kv<=9223372036854775807)(hP:zb8 w ra la nr ln R L)(hn:nr<=1048576)(hi:∀r∈R,r.ids.length<=1048576)(hll:ln<=1048576)(hal:(za8 R R.length).length<=1048576)
 (hrel:∀W id tv pl,Below w.heap.size w W->Calls ze 94 #[.agg #[zc zb n,za a zl cap,za ao ko co,za av kv cv,zc zb fine],.agg #[za ra nr rc,za la ln lc],zc zb id,zc zb tv,zc zb pl] W (yw2 W (rqD id tv pl n fine zs os vs ko kv R L) (rqB id tv pl n fine zs os vs ko kv R L) (rqR id tv pl n fine zs os vs ko kv R L) (rqL id tv pl n fine zs os vs ko kv R L))) (q0:QS) (hq:brQ n fine zs os vs ko kv R L=q0):
 Calls ze 93 #[.agg #[zc zb n,za a zl cap,za ao ko co,za av kv cv,zc zb fine],.agg #[za ra nr rc,za la ln lc]] w fun e w'=>e=.returned (.tuple #[zc zb q0.s.1,zc zb q0.s.2.1,zc zb (q0.s.2.2:Int),zc zb q0.v])/\Below w.heap.size w w':=by
 have HA:=za4 hA;have HO:=za4 hO;have HV:=za4 hV;have HLZ:=za4 hlz;have HLO:=za4 hlo;have HLV:=za4 hlv;have HP:=za4 hP;have HN:Hid (R.length=nr):=hP.1;have HM:Hid (L.length=ln):=hP.2.1;have HREL:=za4 hrel;obtain⟨pv,HPV⟩:=nmd (zc3 n zs os vs ko kv fine R L);have Q0:Hid (BCP w ((w.alloc (zd #[zc zb n,za a zl cap,za ao ko co,za av kv cv,zc zb fine] 30)).alloc (zd #[za ra nr rc,za la ln lc] 33)) #[zc zb n,za a zl cap,za ao ko co,za av kv cv,zc zb fine] #[za ra nr rc,za la ln lc]):=BCP.new _ _ _;have SV:=zs5 n fine a ao av ra la cap ko co kv cv rc lc zs os vs L R ((w.alloc (zd #[zc zb n,za a zl cap,za ao ko co,za av kv cv,zc zb fine] 30)).alloc (zd #[za ra nr rc,za la ln lc] 33)) (HP.2.2.1.below Q0.b) (by rw[HN.X];exact hn) HP.2.2.2.2.2.2 pv HPV.X (fun X hX=>by
  have hW:=Q0.b.trans (hX.mono Q0.b.size);have PC:=zj3 n fine a ao av ra la cap ko co kv cv rc lc zs os vs L R X (HA.below hW) (HO.below hW) (HV.below hW) (HP.2.2.1.below hW) (HP.2.2.2.1.below hW) HLO.X HLV.X hko hkv (by rw[HN.X];exact hn) hi HP.2.2.2.2.2.2 (by rw[HM.X];exact hll) hal;rw[HPV.X]at PC;exact PC)
 have hm12:=zE7 n zs os vs ko kv fine R L;have hbs:=y37 n fine zs os vs ko kv R L;rw[hq]at hbs;obtain⟨X,HX⟩:=nmd (zi9 n zs os vs ko kv fine R L);obtain⟨m,HXM⟩:=nmd X.length;rw[HX.X,HXM.X]at hbs hm12;rw[HX.X,HXM.X,HLZ.X,HN.X,HM.X]at SV;have YES:Hid (∀(l:List zg2) (id veh:Int) (pl:Nat) (s:QS),qst (mvB n fine zs os vs ko kv R L) (mvD n fine zs os vs ko kv R L) l=s->rqB id veh (pl:Int) n fine zs os vs ko kv R L=true->rqD id veh (pl:Int) n fine zs os vs ko kv R L<s.v->qst (mvB n fine zs os vs ko kv R L) (mvD n fine zs os vs ko kv R L) (l++[(id,veh,pl)])=⟨true,(id,veh,pl),rqD id veh (pl:Int) n fine zs os vs ko kv R L⟩):=fun l id veh pl s h1 h2 h3=>yI6 h1 h2 h3;have NO:Hid (∀(l:List zg2) (id veh:Int) (pl:Nat) (s:QS),qst (mvB n fine zs os vs ko kv R L) (mvD n fine zs os vs ko kv R L) l=s->rqB id veh (pl:Int) n fine zs os vs ko kv R L=false∨¬rqD id veh (pl:Int) n fine zs os vs ko kv R L<s.v->qst (mvB n fine zs os vs ko kv R L) (mvD n fine zs os vs ko kv R L) (l++[(id,veh,pl)])=s):=fun l id veh pl s h1 h2=>yL4 h1 h2;have HZ0:Hid (qst (mvB n fine zs os vs ko kv R L) (mvD n fine zs os vs ko kv R L) []=qs0):=rfl;obtain⟨q,HQ⟩:=nmd (qst (mvB n fine zs os vs ko kv R L) (mvD n fine zs os vs ko kv R L));rw[HQ.X]at YES NO HZ0 hbs;have HEND:=za4 hbs;clear hA hO hV hlz hlo hlv hP hrel HPV hi hal hq hbs HQ;obtain⟨c0,c1,c2,c3,c4⟩:=za7 Q0.c;obtain⟨p0,p1⟩:=za1 Q0.p;go_enter Tryz.func93,Tryz.ntmps93
 go_wp2_with fail
 generalize(w.alloc (zd #[zc zb n,za a zl cap,za ao ko co,za av kv cv,zc zb fine] 30)).alloc (zd #[za ra nr rc,za la ln lc] 33)=W0 at*;refine SV.mono ?_;rintro e w1 ⟨sl,rfl,hb,ho⟩;obtain⟨sa,sc,e,hsl,hIX⟩:=zv4 ho;subst e;rw[HXM.X];have Q1:=za4 (Q0.below hb);have IX:=za4 hIX;clear hb ho hsl hIX SV Q0 c0 c1 c2 c3 c4 p0 p1 HX
 go_wp2_with fail
 go_loopw[9,10,11,12,13] (fun t9 t10 t11 t12 t wr=>∃i:Nat,i<=m/\t=zc zb i/\t9=zc zb (q (sq3 vs kv X i)).s.1/\t10=zc zb (q (sq3 vs kv X i)).s.2.1/\t11=zc zb ((q (sq3 vs kv X i)).s.2.2:Int)/\t12=zc zb (q (sq3 vs kv X i)).v/\BCP w wr #[zc zb n,za a zl cap,za ao ko co,za av kv cv,zc zb fine] #[za ra nr rc,za la ln lc]/\Below w1.heap.size w1 wr) (fun _ _ _ _ t _=>m - (intOf t).toNat)
 case atStart=>exact⟨0,yZ _,rfl,by show _=zc zb (q []).s.1;rw[HZ0.X];rfl,by show _=zc zb (q []).s.2.1;rw[HZ0.X];rfl,by show _=zc zb ((q []).s.2.2:Int);rw[HZ0.X];rfl,by show _=zc zb (q []).v;rw[HZ0.X];rfl,Q1.X,yV _ _⟩
 case round=>
  clear HZ0;obtain⟨i,hi,rfl,rfl,rfl,rfl,rfl,hC,hBw⟩:=hrel;have C1:=za4 hC;have W1:=za4 hBw;clear hC hBw;by_cases hlt:i<m
  ·have h1:(i:Int)<(m:Int):=by omega
   have hwi:IntKind.i64.wrap ((i:Int)+1)=((i+1:Nat):Int):=by rw[qB _ (by omega)];omega
   obtain⟨id,HID⟩:=nmd (X.getD i 0);obtain⟨l1,HL1⟩:=nmd (sq3 vs kv X i);have HNX:Hid (sq3 vs kv X (i+1)=l1++sq2 vs id kv):=by rw[<-HL1.X,<-HID.X];rfl
   rw[HL1.X];clear HL1
   go_wp2_with fail
   go_loopw[9,10,11,12,14] (fun t9 t10 t11 t12 t wr=>∃k:Nat,k<=kv/\t=zc zb k/\t9=zc zb (q (l1++sq2 vs id k)).s.1/\t10=zc zb (q (l1++sq2 vs id k)).s.2.1/\t11=zc zb ((q (l1++sq2 vs id k)).s.2.2:Int)/\t12=zc zb (q (l1++sq2 vs id k)).v/\BCP w wr #[zc zb n,za a zl cap,za ao ko co,za av kv cv,zc zb fine] #[za ra nr rc,za la ln lc]/\Below w1.heap.size w1 wr) (fun _ _ _ _ t _=>kv - (intOf t).toNat)
   case atStart=>exact⟨0,yZ _,rfl,by show _=zc zb (q (l1++[])).s.1;rw[xY],by show _=zc zb (q (l1++[])).s.2.1;rw[xY],by show _=zc zb ((q (l1++[])).s.2.2:Int);rw[xY],by show _=zc zb (q (l1++[])).v;rw[xY],C1.X,W1.X⟩
   case round=>
    clear C1 W1;obtain⟨k,hk,rfl,rfl,rfl,rfl,rfl,hC,hBw⟩:=hrel;have C2:=za4 hC;have W2:=za4 hBw;clear hC hBw;obtain⟨c0,c1,c2,c3,c4⟩:=za7 C2.c;by_cases hlk:k<kv
    ·have h2:(k:Int)<(kv:Int):=by omega
     have hwk:IntKind.i64.wrap ((k:Int)+1)=((k+1:Nat):Int):=by rw[qB _ (by omega)];omega
     obtain⟨veh,HVE⟩:=nmd (vs.getD (k*5) 0);obtain⟨l2,HL2⟩:=nmd (l1++sq2 vs id k);have HNK:Hid (l1++sq2 vs id (k+1)=l2++sp1 id veh 13):=by
      show l1++(sq2 vs id k++sp1 id (vs.getD (k*5) 0) 13)=_;rw[<-HL2.X,HVE.X,z7]
     rw[HL2.X];clear HL2
     go_wp2_with fail
     clear c0 c1 c2 c3 c4;go_loopw[9,10,11,12,15] (fun t9 t10 t11 t12 t wr=>∃p:Nat,p<=13/\t=zc zb p/\t9=zc zb (q (l2++sp1 id veh p)).s.1/\t10=zc zb (q (l2++sp1 id veh p)).s.2.1/\t11=zc zb ((q (l2++sp1 id veh p)).s.2.2:Int)/\t12=zc zb (q (l2++sp1 id veh p)).v/\BCP w wr #[zc zb n,za a zl cap,za ao ko co,za av kv cv,zc zb fine] #[za ra nr rc,za la ln lc]/\Below w1.heap.size w1 wr) (fun _ _ _ _ t _=>13 - (intOf t).toNat)
     case atStart=>exact⟨0,yZ _,rfl,by show _=zc zb (q (l2++[])).s.1;rw[xY],by show _=zc zb (q (l2++[])).s.2.1;rw[xY],by show _=zc zb ((q (l2++[])).s.2.2:Int);rw[xY],by show _=zc zb (q (l2++[])).v;rw[xY],C2.X,W2.X⟩
     case round=>
      clear C2 W2;obtain⟨p,hp,rfl,rfl,rfl,rfl,rfl,hC,hBw⟩:=hrel;have C3:=za4 hC;have W3:=za4 hBw;clear hC hBw;by_cases hlp:p<13
      ·have h3:(p:Int)<=12:=by omega
       have hwp:IntKind.i64.wrap ((p:Int)+1)=((p+1:Nat):Int):=by rw[qB _ (by omega)];omega
       obtain⟨s,HS⟩:=nmd (q (l2++sp1 id veh p));have HSN:Hid (l2++sp1 id veh (p+1)=(l2++sp1 id veh p)++[(id,veh,p)]):=by
        show _=_;rw[zR9,z7]
       obtain⟨ch,HCH⟩:=nmd (rqB id veh (p:Int) n fine zs os vs ko kv R L);obtain⟨dd,HDD⟩:=nmd (rqD id veh (p:Int) n fine zs os vs ko kv R L);have YS:=YES.X (l2++sp1 id veh p) id veh p s HS.X;have NS:=NO.X (l2++sp1 id veh p) id veh p s HS.X;rw[<-HSN.X,HCH.X,HDD.X]at YS NS;have HYS:=za4 YS;have HNS:Hid (ch=false∨¬dd<s.v->q (l2++sp1 id veh (p+1))=s):=fun h=>NS (by simpa using h)
       clear YS NS;rw[HS.X];clear HS HSN;obtain⟨bi,oi,e,ic⟩:=(IX.below W3.X) i (by rw[HXM.X];exact hlt);subst e;obtain⟨bv,ov,e,vc⟩:=(HV.below C3.b) (k*5) (by rw[HLV.X];omega);subst e;rw[HID.X]at ic;rw[HVE.X]at vc;have IC:=za4 ic;have VC:=za4 vc;have HBI:Hid (bi<wr.heap.size):=zT ic;have HBV:Hid (bv<wr.heap.size):=zT vc;clear ic vc;obtain⟨sf,⟨s1,s2,s3⟩,sv⟩:=s;simp only at HYS HNS⊢;go_upto_region 15 with fail;go_cut [16,17,18]from 39 to 56 (fun s16 s17 s18 wx=>s17=zc zb dd/\s18=.bool ch/\BCP w wx #[zc zb n,za a zl cap,za ao ko co,za (some ⟨bv,ov,none⟩) kv cv,zc zb fine] #[za ra nr rc,za la ln lc]/\Below wr.heap.size wr wx)
       case first=>
        go_wp2_with fail
        refine qV (S:=(fun W=>W.cell? ⟨w.heap.size,0,none⟩=some (zc zb n)/\W.cell? ⟨w.heap.size,1,none⟩=some (za a zl cap)/\W.cell? ⟨w.heap.size,2,none⟩=some (za ao ko co)/\W.cell? ⟨w.heap.size,3,none⟩=some (za (some ⟨bv,ov,none⟩) kv cv)/\W.cell? ⟨w.heap.size,4,none⟩=some (zc zb fine)/\W.cell? ⟨w.heap.size+1,0,none⟩=some (za ra nr rc)/\W.cell? ⟨w.heap.size+1,1,none⟩=some (za la ln lc)/\W.cell? ⟨bi,oi+i,none⟩=some (zc zb id)/\W.cell? ⟨bv,ov+k*5,none⟩=some (zc zb veh))) (by kernel_rfl) ?_ (fun hHeld=> ?_)
        ·exact zv1 (C3.below (yV _ _).drew) (zn7 IC.X (yV _ _).drew) (zn7 VC.X (yV _ _).drew)
        have G_d:Hid (BCP w wr.drew #[zc zb n,za a zl cap,za ao ko co,za (some ⟨bv,ov,none⟩) kv cv,zc zb fine] #[za ra nr rc,za la ln lc]):=C3.below (yV _ _).drew;have IC_d:Hid (wr.drew.cell? ⟨bi,oi+i,none⟩=some (zc zb id)):=zn7 IC.X (yV _ _).drew;have VC_d:Hid (wr.drew.cell? ⟨bv,ov+k*5,none⟩=some (zc zb veh)):=zn7 VC.X (yV _ _).drew;have B_d:Hid (Below wr.heap.size wr wr.drew):=(yV _ _).drew;generalize wr.drew=wd at*;refine tkH 0 hHeld ?_;refine tkH 1 hHeld ?_;refine tkH 2 hHeld ?_;refine tkH 3 hHeld ?_;refine tkH 4 hHeld ?_;refine tkH 5 hHeld ?_;refine tkH 6 hHeld ?_;refine tkH 7 hHeld ?_;refine tkH 8 hHeld ?_;refine tkH 9 hHeld ?_;refine tkH 10 hHeld ?_;refine tkH 11 hHeld ?_;refine tkH 12 hHeld ?_;refine qT (rs:=[13,18]) (by kernel_rfl) (by simp) ?_;refine qR rfl (fun K hK=> ?_) ?_
        ·skip
         go_simp;refine(HREL.X wd id veh (p:Int) G_d.b).mono ?_;rw[HCH.X,HDD.X];rintro e w3 ⟨ra2,n2,rc2,la2,l2,lc2,R2,rfl,hb,-⟩;have G_w3:=za4 (G_d.below hb);have IC_w3:Hid (w3.cell? ⟨bi,oi+i,none⟩=some (zc zb id)):=zn7 IC_d.X hb;have VC_w3:Hid (w3.cell? ⟨bv,ov+k*5,none⟩=some (zc zb veh)):=zn7 VC_d.X hb;have B_w3:Hid (Below wr.heap.size wr w3):=B_d.trans (hb.mono B_d.size);clear hb
         (try go_wp2_with fail)
         refine hK.out _ _ ?_ (fun hHeld=> ?_)
         ·exact zv1 G_w3.X IC_w3.X VC_w3.X
         clear hK K
         (try simp only[zi,xB,zL,xC])
         refine tkH 14 hHeld ?_;refine tkH 15 hHeld ?_;refine tkH 16 hHeld ?_;refine tkH 17 hHeld ?_;refine qT (rs:=[18]) (by kernel_rfl) (by simp) ?_;refine qR rfl (fun K hK=> ?_) qS;have G_z:Hid (BCP w (w3.alloc (zd #[za none 0 0,za none 0 0] 33)) #[zc zb n,za a zl cap,za ao ko co,za (some ⟨bv,ov,none⟩) kv cv,zc zb fine] #[za ra nr rc,za la ln lc]):=G_w3.below ((yV w3.heap.size w3).alloc (zQ _) (zd #[za none 0 0,za none 0 0] 33));have IC_z:Hid (zy (w3.alloc (zd #[za none 0 0,za none 0 0] 33)) ⟨bi,oi+i,none⟩=some (zc zb id)):=zn7 IC_w3.X ((yV w3.heap.size w3).alloc (zQ _) (zd #[za none 0 0,za none 0 0] 33));have VC_z:Hid (zy (w3.alloc (zd #[za none 0 0,za none 0 0] 33)) ⟨bv,ov+k*5,none⟩=some (zc zb veh)):=zn7 VC_w3.X ((yV w3.heap.size w3).alloc (zQ _) (zd #[za none 0 0,za none 0 0] 33));have B_z:Hid (Below wr.heap.size wr (w3.alloc (zd #[za none 0 0,za none 0 0] 33))):=B_w3.trans (((yV w3.heap.size w3).alloc (zQ _) (zd #[za none 0 0,za none 0 0] 33)).mono B_w3.size);have VZ0:Hid ((w3.alloc (zd #[za none 0 0,za none 0 0] 33)).heap[w3.heap.size]? =some (zd #[za none 0 0,za none 0 0] 33 (0,0))):=zN _ _;have HZL:Hid (w.heap.size+2<=w3.heap.size):=G_w3.size;have HZR:Hid (wr.heap.size<=w3.heap.size):=B_w3.size;go_simp;refine hK.out _ _ ?_ (fun hHeld=> ?_)
         ·exact zv1 G_z.X IC_z.X VC_z.X
         clear hK K
         (try simp only[zi,xB,zL,xC])
         obtain⟨kz,HKZ⟩:=nmd w3.heap.size;rw[HKZ.X]at VZ0 HZL HZR⊢;generalize(w3.alloc (zd #[za none 0 0,za none 0 0] 33))=wz at*;obtain⟨z0,z1⟩:=za1 VZ0.X;have zf:=fun i=>yU _ _ i _ _ VZ0.X;refine qT (rs:=[19]) (by kernel_rfl) (by simp) ?_;refine qR rfl (fun K hK=> ?_) qS;have G5:Hid (BCP w ((wz.setCell ⟨kz,0,none⟩ (za ra2 n2 rc2)).setCell ⟨kz,1,none⟩ (za la2 l2 lc2)) #[zc zb n,za a zl cap,za ao ko co,za (some ⟨bv,ov,none⟩) kv cv,zc zb fine] #[za ra nr rc,za la ln lc]):=(G_z.set HZL.X).set HZL.X;have IC5:Hid (zy ((wz.setCell ⟨kz,0,none⟩ (za ra2 n2 rc2)).setCell ⟨kz,1,none⟩ (za la2 l2 lc2)) ⟨bi,oi+i,none⟩=some (zc zb id)):=za5 (za5 IC_z.X (by have:=HZR.X;have:=HBI.X;omega)) (by have:=HZR.X;have:=HBI.X;omega);have VC5:Hid (zy ((wz.setCell ⟨kz,0,none⟩ (za ra2 n2 rc2)).setCell ⟨kz,1,none⟩ (za la2 l2 lc2)) ⟨bv,ov+k*5,none⟩=some (zc zb veh)):=za5 (za5 VC_z.X (by have:=HZR.X;have:=HBV.X;omega)) (by have:=HZR.X;have:=HBV.X;omega);have B5:Hid (Below wr.heap.size wr ((wz.setCell ⟨kz,0,none⟩ (za ra2 n2 rc2)).setCell ⟨kz,1,none⟩ (za la2 l2 lc2))):=(B_z.setCell (by have:=HZR.X;simp;omega) _).setCell (by have:=HZR.X;simp;omega) _;go_simp;refine hK.out _ _ ?_ (fun hHeld=> ?_)
         ·exact zv1 G5.X IC5.X VC5.X
         clear hK K;generalize((wz.setCell ⟨kz,0,none⟩ (za ra2 n2 rc2)).setCell ⟨kz,1,none⟩ (za la2 l2 lc2))=w6 at*;refine tkH 20 hHeld ?_;refine tkH 21 hHeld ?_;refine qU (by kernel_rfl) ?_ _;clear hHeld
         (try go_wp2_with fail)
         go_meet;exact⟨rfl,rfl,G5.X,B5.X⟩
        refine qR rfl (fun K hK=> ?_) qS;have G_z:Hid (BCP w (wd.alloc (zd #[za none 0 0,za none 0 0] 33)) #[zc zb n,za a zl cap,za ao ko co,za (some ⟨bv,ov,none⟩) kv cv,zc zb fine] #[za ra nr rc,za la ln lc]):=G_d.below ((yV wd.heap.size wd).alloc (zQ _) (zd #[za none 0 0,za none 0 0] 33));have IC_z:Hid (zy (wd.alloc (zd #[za none 0 0,za none 0 0] 33)) ⟨bi,oi+i,none⟩=some (zc zb id)):=zn7 IC_d.X ((yV wd.heap.size wd).alloc (zQ _) (zd #[za none 0 0,za none 0 0] 33));have VC_z:Hid (zy (wd.alloc (zd #[za none 0 0,za none 0 0] 33)) ⟨bv,ov+k*5,none⟩=some (zc zb veh)):=zn7 VC_d.X ((yV wd.heap.size wd).alloc (zQ _) (zd #[za none 0 0,za none 0 0] 33));have B_z:Hid (Below wr.heap.size wr (wd.alloc (zd #[za none 0 0,za none 0 0] 33))):=B_d.trans (((yV wd.heap.size wd).alloc (zQ _) (zd #[za none 0 0,za none 0 0] 33)).mono B_d.size);have VZ0:Hid ((wd.alloc (zd #[za none 0 0,za none 0 0] 33)).heap[wd.heap.size]? =some (zd #[za none 0 0,za none 0 0] 33 (0,0))):=zN _ _;have HZL:Hid (w.heap.size+2<=wd.heap.size):=G_d.size;have HZR:Hid (wr.heap.size<=wd.heap.size):=B_d.size;go_simp;refine hK.out _ _ ?_ (fun hHeld=> ?_)
        ·exact zv1 G_z.X IC_z.X VC_z.X
        clear hK K
        (try simp only[zi,xB,zL,xC])
        obtain⟨kz,HKZ⟩:=nmd wd.heap.size;rw[HKZ.X]at VZ0 HZL HZR⊢;generalize(wd.alloc (zd #[za none 0 0,za none 0 0] 33))=wz at*;obtain⟨z0,z1⟩:=za1 VZ0.X;have zf:=fun i=>yU _ _ i _ _ VZ0.X;refine qT (rs:=[13]) (by kernel_rfl) (by simp) ?_;refine qR rfl (fun K hK=> ?_) qS;go_simp;refine(HREL.X wz id veh (p:Int) G_z.b).mono ?_;rw[HCH.X,HDD.X];rintro e w3 ⟨ra2,n2,rc2,la2,l2,lc2,R2,rfl,hb,-⟩;have G_w3:=za4 (G_z.below hb);have IC_w3:Hid (w3.cell? ⟨bi,oi+i,none⟩=some (zc zb id)):=zn7 IC_z.X hb;have VC_w3:Hid (w3.cell? ⟨bv,ov+k*5,none⟩=some (zc zb veh)):=zn7 VC_z.X hb;have B_w3:Hid (Below wr.heap.size wr w3):=B_z.trans (hb.mono B_z.size);have VZ_w3:=za4 (za0 hb (za2 VZ0.X) VZ0.X);obtain⟨z0,z1⟩:=za1 VZ_w3.X;have zf:=fun i=>yU _ _ i _ _ VZ_w3.X;clear hb
        (try go_wp2_with fail)
        refine hK.out _ _ ?_ (fun hHeld=> ?_)
        ·exact zv1 G_w3.X IC_w3.X VC_w3.X
        clear hK K
        (try simp only[zi,xB,zL,xC])
        refine tkH 14 hHeld ?_;refine tkH 15 hHeld ?_;refine tkH 16 hHeld ?_;refine tkH 17 hHeld ?_;refine qT (rs:=[19]) (by kernel_rfl) (by simp) ?_;refine qR rfl (fun K hK=> ?_) qS;have G5:Hid (BCP w ((w3.setCell ⟨kz,0,none⟩ (za ra2 n2 rc2)).setCell ⟨kz,1,none⟩ (za la2 l2 lc2)) #[zc zb n,za a zl cap,za ao ko co,za (some ⟨bv,ov,none⟩) kv cv,zc zb fine] #[za ra nr rc,za la ln lc]):=(G_w3.set HZL.X).set HZL.X;have IC5:Hid (zy ((w3.setCell ⟨kz,0,none⟩ (za ra2 n2 rc2)).setCell ⟨kz,1,none⟩ (za la2 l2 lc2)) ⟨bi,oi+i,none⟩=some (zc zb id)):=za5 (za5 IC_w3.X (by have:=HZR.X;have:=HBI.X;omega)) (by have:=HZR.X;have:=HBI.X;omega);have VC5:Hid (zy ((w3.setCell ⟨kz,0,none⟩ (za ra2 n2 rc2)).setCell ⟨kz,1,none⟩ (za la2 l2 lc2)) ⟨bv,ov+k*5,none⟩=some (zc zb veh)):=za5 (za5 VC_w3.X (by have:=HZR.X;have:=HBV.X;omega)) (by have:=HZR.X;have:=HBV.X;omega);have B5:Hid (Below wr.heap.size wr ((w3.setCell ⟨kz,0,none⟩ (za ra2 n2 rc2)).setCell ⟨kz,1,none⟩ (za la2 l2 lc2))):=(B_w3.setCell (by have:=HZR.X;simp;omega) _).setCell (by have:=HZR.X;simp;omega) _;go_simp;refine hK.out _ _ ?_ (fun hHeld=> ?_)
        ·exact zv1 G5.X IC5.X VC5.X
        clear hK K;generalize((w3.setCell ⟨kz,0,none⟩ (za ra2 n2 rc2)).setCell ⟨kz,1,none⟩ (za la2 l2 lc2))=w6 at*;refine tkH 20 hHeld ?_;refine tkH 21 hHeld ?_;refine qU (by kernel_rfl) ?_ _;clear hHeld
        (try go_wp2_with fail)
        go_meet;exact⟨rfl,rfl,G5.X,B5.X⟩
       case rest=>
        obtain⟨rfl,rfl,hQ,hBx⟩:=hcut;have C4:=za4 hQ;have W4:Hid (Below w1.heap.size w1 wc):=W3.trans (hBx.mono W3.size);have ic:=zn7 IC.X hBx;have vc:=zn7 VC.X hBx;clear hQ hBx W3 C3 IC VC HBI HBV;obtain⟨c0,c1,c2,c3,c4⟩:=za7 C4.c;cases ch
        ·have HN9:=HNS.X (.inl rfl)
         have HN8:Hid _:=HN9;clear HN9 HNS HYS;go_wp2;go_roundw
         case rel=>exact⟨p+1,by omega,by first|rfl|go_num,by rw[HN8.X],by rw[HN8.X],by rw[HN8.X],by rw[HN8.X],C4.X,W4.X⟩
         case measure=>simp[intOf];omega
        ·by_cases hdv:dd<sv
         ·have HN9:=HYS.X rfl hdv
          have HN8:Hid _:=HN9;clear HN9 HNS HYS;go_wp2;go_roundw
          case rel=>exact⟨p+1,by omega,by first|rfl|go_num,by rw[HN8.X],by rw[HN8.X],by rw[HN8.X],by rw[HN8.X],C4.X,W4.X⟩
          case measure=>simp[intOf];omega
         ·have HN9:=HNS.X (.inr hdv)
          have HN8:Hid _:=HN9;clear HN9 HNS HYS;go_wp2;go_roundw
          case rel=>exact⟨p+1,by omega,by first|rfl|go_num,by rw[HN8.X],by rw[HN8.X],by rw[HN8.X],by rw[HN8.X],C4.X,W4.X⟩
          case measure=>simp[intOf];omega
      ·have hpe:p=13:=by omega
       subst hpe;rw[<-HNK.X];obtain⟨s,HS⟩:=nmd (q (l1++sq2 vs id (k+1)));rw[HS.X];go_wp2;go_roundw
       case rel=>exact⟨k+1,by omega,by first|rfl|go_num,by rw[HS.X],by rw[HS.X],by rw[HS.X],by rw[HS.X],C3.X,W3.X⟩
       case measure=>simp[intOf];omega
    ·have hke:k=kv:=by omega
     subst hke;have h2:¬((k:Int)<(k:Int)):=by omega
     rw[<-HNX.X];obtain⟨s,HS⟩:=nmd (q (sq3 vs k X (i+1)));rw[HS.X];go_wp2;go_roundw
     case rel=>exact⟨i+1,by omega,by first|rfl|go_num,by rw[HS.X],by rw[HS.X],by rw[HS.X],by rw[HS.X],C2.X,W2.X⟩
     case measure=>simp[intOf];omega
  ·have hie:i=m:=by omega
   subst hie;have h1:¬((i:Int)<(i:Int)):=by omega
   rw[HEND.X];clear YES NO HEND;obtain⟨sf,⟨s1,s2,s3⟩,sv⟩:=q0;simp only;go_wp2;refine yX (v:=.tuple #[zc zb s1,zc zb s2,zc zb (s3:Int),zc zb sv]) (by simp[results,Tryz.results93,go_sem]) rfl ?_;exact⟨rfl,C1.b⟩
theorem yE2{w:zg}{base n rc m lc:Nat}{ra la:Option Addr}{S:List RT}{L:List Int}(h:PO w base (za ra n rc) S (za la m lc) L)(hn:S.length=n)(hm:L.length=m):zb8 w ra la n m S L:=by
 have hr:=h.r;have hl:=h.l;rw[hn]at hr;rw[hm]at hl;exact⟨hn,hm,z27 h hn,yr8 h hm,z76 hr,z76 hl,fun r hr=>yk2 (h.s r hr)⟩
theorem PO.box2{w:zg}{base k:Nat}{rs ls u v:Value}{S:List RT}{L:List Int}{cs:Array Value}(h:PO w base rs S ls L)(hk:w.heap[k]? =some (.cells cs 33 (0,0))):PO ((w.setCell ⟨k,0,none⟩ u).setCell ⟨k,1,none⟩ v) base rs S ls L:=(h.box hk).box (zP w k 0 _ _ u hk)
theorem z85(st n fine:Int)(a ao av ra la:Option Addr)(zl cap ko co kv cv nr rc ln lc:Nat)(zs os vs L:List Int)(R:List RT)(w:zg)(hA:za3 w a zs)(hO:za3 w ao os)(hV:za3 w av vs)(hlz:zs.length=zl)(hlo:os.length=ko*6)(hlv:vs.length=kv*5)(hko:ko<=9223372036854775807)(hkv:kv<=9223372036854775807)(hP:zb8 w ra la nr ln R L)(hn:nr<=1048576)(hi:∀r∈R,r.ids.length<=1048576)(hll:ln<=1048576)(hal:(za8 R R.length).length<=1048576):
 Calls ze 43 #[.agg #[zc zb n,za a zl cap,za ao ko co,za av kv cv,zc zb fine],.agg #[za ra nr rc,za la ln lc],zc zb st] w (z89 w (dcN st n fine zs os vs ko kv R L) (dcR st n fine zs os vs ko kv R L) (dcL st n fine zs os vs ko kv R L)):=by
 have HA:=za4 hA;have HO:=za4 hO;have HV:=za4 hV;have HLZ:=za4 hlz;have HLO:=za4 hlo;have HLV:=za4 hlv;have HP:=za4 hP;have HN:Hid (R.length=nr):=hP.1;have HM:Hid (L.length=ln):=hP.2.1;have HI:=za4 hi;clear hA hO hV hlz hlo hlv hP hi;obtain⟨pv,HPV⟩:=nmd (zc3 n zs os vs ko kv fine R L);obtain⟨k1,HK1⟩:=nmd (inB st 0 60);have HDB:Hid (dcB st n fine zs os vs ko kv R L=(decide (pv=0)&&k1)):=by show _=_;unfold dcB;rw[HPV.X,HK1.X]
 have HNO:Hid (dcB st n fine zs os vs ko kv R L=false->dcN st n fine zs os vs ko kv R L= -1/\dcR st n fine zs os vs ko kv R L=[]/\dcL st n fine zs os vs ko kv R L=[]):=fun h=>by
  unfold dcN dcR dcL;rw[h];exact⟨rfl,rfl,rfl⟩
 have HYE:Hid (dcB st n fine zs os vs ko kv R L=true->dcN st n fine zs os vs ko kv R L=(dsC n fine zs os vs ko kv L st.toNat R:Int)/\dcR st n fine zs os vs ko kv R L=dsR n fine zs os vs ko kv L st.toNat R/\dcL st n fine zs os vs ko kv R L=L):=fun h=>by
  unfold dcN dcR dcL;rw[h];exact⟨rfl,rfl,rfl⟩
 obtain⟨GN,HGN⟩:=nmd (dcN st n fine zs os vs ko kv R L);obtain⟨GR,HGR⟩:=nmd (dcR st n fine zs os vs ko kv R L);obtain⟨GL,HGL⟩:=nmd (dcL st n fine zs os vs ko kv R L);rw[HGN.X,HGR.X,HGL.X]at HNO HYE;rw[HGN.X,HGR.X,HGL.X];clear HGN HGR HGL;have Q0:Hid (GQ w (((w.alloc (zd #[zc zb n,za a zl cap,za ao ko co,za av kv cv,zc zb fine] 30)).alloc (zd #[za ra nr rc,za la ln lc] 33)).alloc (zd #[za none 0 0,za none 0 0] 33)) #[zc zb n,za a zl cap,za ao ko co,za av kv cv,zc zb fine] #[za ra nr rc,za la ln lc]):=by
  refine⟨((zK _).alloc (by simp) _).alloc (by simp;omega) _,?_,?_,?_⟩
  ·exact(yY _ _ (by simp;omega)).trans (xb _ _ _)
  ·exact(yY _ _ (by simp)).trans (y8 _ _ _)
  ·have:=zN ((w.alloc (zd #[zc zb n,za a zl cap,za ao ko co,za av kv cv,zc zb fine] 30)).alloc (zd #[za ra nr rc,za la ln lc] 33)) (zd #[za none 0 0,za none 0 0] 33)
   simpa using this
 have PCA:Hid (∀W,Below w.heap.size w W->Calls ze 38 #[.agg #[zc zb n,za a zl cap,za ao ko co,za av kv cv,zc zb fine],.agg #[za ra nr rc,za la ln lc]] W fun e w'=>e=.returned (zc zb pv)/\Below W.heap.size W w'):=fun W hW=>by
  have PC:=zj3 n fine a ao av ra la cap ko co kv cv rc lc zs os vs L R W (HA.below hW) (HO.below hW) (HV.below hW) (HP.2.2.1.below hW) (HP.2.2.2.1.below hW) HLO.X HLV.X hko hkv (by rw[HN.X];exact hn) HI.X HP.2.2.2.2.2.2 (by rw[HM.X];exact hll) hal;rw[HN.X,HM.X,HLZ.X,HPV.X]at PC;exact PC
 obtain⟨c0,c1,c2,c3,c4⟩:=za7 Q0.c;obtain⟨p0,p1⟩:=za1 Q0.p;go_enter Tryz.func43,Tryz.ntmps43
 go_wp2_with fail
 generalize((w.alloc (zd #[zc zb n,za a zl cap,za ao ko co,za av kv cv,zc zb fine] 30)).alloc (zd #[za ra nr rc,za la ln lc] 33)).alloc (zd #[za none 0 0,za none 0 0] 33)=W0 at*;refine(PCA.X W0 Q0.b).mono ?_;rintro e w1 ⟨rfl,hb⟩;have Q1:=za4 (Q0.below hb);clear hb PCA c0 c1 c2 c3 c4 p0 p1 Q0;by_cases hpv:pv=0;rotate_left
 ·have hpn:(pv !=0)=true:=by simp[hpv]
  obtain⟨a0,a1⟩:=za1 Q1.o;have af:=fun i=>yU _ _ i _ _ Q1.o;have B5:Hid (Below w.heap.size w ((w1.setCell ⟨w.heap.size+2,0,none⟩ (za none 0 0)).setCell ⟨w.heap.size+2,1,none⟩ (za none 0 0))):=(Q1.b.setCell (by simp) _).setCell (by simp) _;rw[zU hpv,qX]at HDB;obtain⟨g1,g2,g3⟩:=HNO.X (by rw[HDB.X];try rfl);subst g1 g2 g3;clear HNO HYE
  go_wp2_with(go_at_call 39;refine(zc0 _ _ _ _).mono ?_;rintro e w' ⟨rfl,hw'⟩;subst w';rw[HK1.X])
  refine yX (v:=.tuple #[.agg #[za none 0 0,za none 0 0],zc zb (-1)]) (by simp[results,Tryz.results43,go_sem,a0,a1]) rfl ?_;show z89 _ _ _ _ _ _;exact⟨none,0,0,none,0,0,[],rfl,B5.X,rfl,rfl,rfl,⟨qP _ _ _ _,(fun s hs=>by cases hs),qP _ _ _ _⟩⟩
 have HPL:Hid (zc3 n zs os vs ko kv fine R L=0):=HPV.trans hpv;subst hpv;rw[zS rfl,qW]at HDB;clear HPV;cases k1
 ·obtain⟨a0,a1⟩:=za1 Q1.o
  have af:=fun i=>yU _ _ i _ _ Q1.o;have B5:Hid (Below w.heap.size w ((w1.setCell ⟨w.heap.size+2,0,none⟩ (za none 0 0)).setCell ⟨w.heap.size+2,1,none⟩ (za none 0 0))):=(Q1.b.setCell (by simp) _).setCell (by simp) _;obtain⟨g1,g2,g3⟩:=HNO.X (by rw[HDB.X];try rfl);subst g1 g2 g3;clear HNO HYE
  go_wp2_with(go_at_call 39;refine(zc0 _ _ _ _).mono ?_;rintro e w' ⟨rfl,hw'⟩;subst w';rw[HK1.X])
  refine yX (v:=.tuple #[.agg #[za none 0 0,za none 0 0],zc zb (-1)]) (by simp[results,Tryz.results43,go_sem,a0,a1]) rfl ?_;show z89 _ _ _ _ _ _;exact⟨none,0,0,none,0,0,[],rfl,B5.X,rfl,rfl,rfl,⟨qP _ _ _ _,(fun s hs=>by cases hs),qP _ _ _ _⟩⟩
 obtain⟨y1,y2,y3⟩:=HYE.X HDB.X;subst y3;have hin:=zc7 HK1.X;obtain⟨N,hN⟩:∃N:Nat,st=(N:Int):=⟨st.toNat,by omega⟩;subst hN;rw[yk]at y1 y2;have hN60:N<=60:=by omega
 obtain⟨cnt,HC⟩:=nmd (dsC n fine zs os vs ko kv GL N R);rw[HC.X]at y1;subst y1;have HT:Hid (dsR n fine zs os vs ko kv GL N R=GR):=y2.symm;clear HYE HNO HDB y2 hin;have hps:=ze4 HPL.X;have hok:=(zh3.1 (zb5 HPL.X).2.1).2;have CC:=zz4 ra la rc lc R GL w1 (HP.2.2.1.below Q1.b) (HP.2.2.2.1.below Q1.b) (HP.2.2.2.2.2.1.imp (fun h=>⟨h.1,HP.2.1.trans h.2⟩) id) (by omega) (fun r hr=>⟨(hok r hr).1,by have:=zk7 (hok r hr).2;omega⟩) (by omega);rw[HN.X,HM.X]at CC;obtain⟨p0,p1⟩:=za1 Q1.p;clear hps hok
 go_wp2_with(go_at_call 39;refine(zc0 _ _ _ _).mono ?_;rintro e w' ⟨rfl,hw'⟩;subst w';rw[HK1.X])
 refine CC.mono ?_;rintro e w2 ⟨ra0,rc0,gl0,lc0,S0,rfl,hb,hk0,ho0⟩;rw[HN.X,HM.X]at ho0;rw[HN.X,HM.X];have hA:Below w2.heap.size w2 (w2.alloc (zd #[za ra0 nr rc0,za (some ⟨gl0,0,none⟩) ln lc0] 33)):=zK _;have Q2:Hid (GQ w (w2.alloc (zd #[za ra0 nr rc0,za (some ⟨gl0,0,none⟩) ln lc0] 33)) #[zc zb n,za a zl cap,za ao ko co,za av kv cv,zc zb fine] #[za ra nr rc,za la ln lc]):=(Q1.below hb).below hA;have B2:Hid ((w2.alloc (zd #[za ra0 nr rc0,za (some ⟨gl0,0,none⟩) ln lc0] 33)).heap[w2.heap.size]? =some (zd #[za ra0 nr rc0,za (some ⟨gl0,0,none⟩) ln lc0] 33 (0,0))):=zN _ _;have O2:Hid (PO (w2.alloc (zd #[za ra0 nr rc0,za (some ⟨gl0,0,none⟩) ln lc0] 33)) (w.heap.size+3) (za ra0 nr rc0) S0 (za (some ⟨gl0,0,none⟩) ln lc0) GL):=(ho0.base (by have:=Q1.size;omega)).below hA;have HKO:Hid (w.heap.size+3<=w2.heap.size):=(Q1.below hb).size;have HK0:=za4 hk0;clear hA hb hk0 ho0 CC p0 p1 Q1 HK1
 go_wp2_with fail
 generalize w2.alloc (zd #[za ra0 nr rc0,za (some ⟨gl0,0,none⟩) ln lc0] 33)=W2 at*;obtain⟨kq,HKQ⟩:=nmd w2.heap.size;rw[HKQ.X]at B2 HKO⊢;go_loopw[9] (fun t wr=>∃(k:Nat) (cur:List RT) (ra1:Option Addr) (n1 rc1 gl1 l1 lc1:Nat),k<=N/\t=zc zb k/\GQ w wr #[zc zb n,za a zl cap,za ao ko co,za av kv cv,zc zb fine] #[za ra nr rc,za la ln lc]/\wr.heap[kq]? =some (zd #[za ra1 n1 rc1,za (some ⟨gl1,0,none⟩) l1 lc1] 33 (0,0))/\PO wr (w.heap.size+3) (za ra1 n1 rc1) cur (za (some ⟨gl1,0,none⟩) l1 lc1) GL/\(cur.length=n1/\GL.length=l1)/\zc3 n zs os vs ko kv fine cur GL=0/\(dsR n fine zs os vs ko kv GL (N - k) cur).map RT.key=GR.map RT.key/\dsC n fine zs os vs ko kv GL (N - k) cur+k=cnt) (fun t _=>100 - (intOf t).toNat)
 case atStart=>
  exact⟨0,S0,ra0,nr,rc0,gl0,ln,lc0,by omega,rfl,Q2.X,B2.X,O2.X,⟨(zr5 HK0.X).trans HN.X,HM.X⟩,by rw[zd2 GL HK0.X];exact HPL.X,by rw[Nat.sub_zero,z69 N HK0.X,HT.X],by rw[Nat.sub_zero,zR7 N HK0.X,HC.X];omega⟩
 case round=>
  clear Q2 B2 O2 HP HPL HT HC HK0 HKQ;obtain⟨k,cur,ra1,n1,rc1,gl1,l1,lc1,hk,rfl,hQ,hB,hO,hNL,hpv,hkr,hkc⟩:=hrel;have Q3:=za4 hQ;have B3:=za4 hB;have O3:=za4 hO;have NL:=za4 hNL;have PV:=za4 hpv;have KR:=za4 hkr;have KC:=za4 hkc;clear hQ hB hO hNL hpv hkr hkc;by_cases hlt:k<N
  ·have hlt':(k:Int)<(N:Int):=by omega
   have hwk:IntKind.i64.wrap ((k:Int)+1)=((k+1:Nat):Int):=by rw[qB _ (by omega)];omega
   have hps:=ze4 PV.X;have hss:=zk3 PV.X;have hok:=(zh3.1 (zb5 PV.X).2.1).2;have RM0:∀W id tv pl,Below w.heap.size w W->PO W (w.heap.size+3) (za ra1 n1 rc1) cur (za (some ⟨gl1,0,none⟩) l1 lc1) GL->_:=fun W id tv pl hW hO=>z09 id tv pl n fine a ao av ra1 zl cap ko co kv cv n1 rc1 gl1 0 l1 lc1 zs os vs GL cur W (HA.below hW) (HO.below hW) (HV.below hW) HLZ.X HLO.X HLV.X hko hkv (yE2 hO NL.1 NL.2) (by have:=NL.1;omega) (fun r hr=>by have:=zk7 (hok r hr).2;omega) (by have:=NL.2;omega) (by omega)
   have RN0:∀W id tv pl,Below w.heap.size w W->PO W (w.heap.size+3) (za ra1 n1 rc1) cur (za (some ⟨gl1,0,none⟩) l1 lc1) GL->_:=fun W id tv pl hW hO=>z71 id tv pl n fine a ao av ra1 zl cap ko co kv cv n1 rc1 gl1 0 l1 lc1 zs os vs GL cur W (HA.below hW) (HO.below hW) (HV.below hW) HLZ.X HLO.X HLV.X hko hkv (yE2 hO NL.1 NL.2) (by have:=NL.1;omega) (fun r hr=>by have:=zk7 (hok r hr).2;omega) (by have:=NL.2;omega) (by omega)
   have RM:Hid _:=RM0;obtain⟨q,HQ⟩:=nmd (brQ n fine zs os vs ko kv cur GL);have BR:=zG1 n fine a ao av ra1 (some ⟨gl1,0,none⟩) zl cap ko co kv cv n1 rc1 l1 lc1 zs os vs GL cur wr (HA.below Q3.b) (HO.below Q3.b) (HV.below Q3.b) HLZ.X HLO.X HLV.X hko hkv (yE2 O3.X NL.1 NL.2) (by have:=NL.1;omega) (fun r hr=>by have:=zk7 (hok r hr).2;omega) (by have:=NL.2;omega) (by omega) (fun W id tv pl hW=>RN0 W id tv pl (Q3.b.trans (hW.mono Q3.b.size)) (O3.below hW)) q HQ.X;have hv0:=yL5 HQ.X;clear RM0 RN0 hps hss hok;obtain⟨c0,c1,c2,c3,c4⟩:=za7 Q3.c;obtain⟨z0,z1⟩:=za1 B3.X
   go_wp2_with fail
   clear c0 c1 c2 c3 c4 z0 z1;refine BR.mono ?_;rintro e w4 ⟨rfl,hb⟩;obtain⟨sf,⟨s1,s2,s3⟩,sv⟩:=q;dsimp only at hv0⊢;have Q4:=za4 (Q3.below hb);have B4:=za4 (za0 hb (za2 B3.X) B3.X);have O4:=za4 (O3.below hb);clear hb BR Q3 B3 O3;cases sf
   ·have hsv:sv=0:=hv0.1 rfl
    subst hsv;have hst:(brQ n fine zs os vs ko kv cur GL).f=false:=by rw[HQ.X]
    have e1:=KR.X;have e2:=KC.X;rw[(zv2 hst (N - k)).1]at e1;rw[(zv2 hst (N - k)).2,z6]at e2;subst e2;have E1:=za4 e1;clear hst e1 KR KC HQ hv0 RM;obtain⟨z0,z1⟩:=za1 B4.X;obtain⟨a0,a1⟩:=za1 Q4.o;have af:=fun i=>yU _ _ i _ _ Q4.o;have s1:=zP w4 (w.heap.size+2) 0 _ _ (za ra1 n1 rc1) Q4.o;have P9:Hid (PO ((w4.setCell ⟨w.heap.size+2,0,none⟩ (za ra1 n1 rc1)).setCell ⟨w.heap.size+2,1,none⟩ (za (some ⟨gl1,0,none⟩) l1 lc1)) (w.heap.size+3) (za ra1 n1 rc1) cur (za (some ⟨gl1,0,none⟩) l1 lc1) GL):=(O4.box Q4.o).box s1;have B9:Hid (Below w.heap.size w ((w4.setCell ⟨w.heap.size+2,0,none⟩ (za ra1 n1 rc1)).setCell ⟨w.heap.size+2,1,none⟩ (za (some ⟨gl1,0,none⟩) l1 lc1))):=(Q4.b.setCell (by simp) _).setCell (by simp) _;clear s1;go_wp2;refine yX (v:=.tuple #[.agg #[za ra1 n1 rc1,za (some ⟨gl1,0,none⟩) l1 lc1],zc zb (k:Int)]) (by simp[results,Tryz.results43,go_sem,a0,a1]) rfl ?_;show z89 _ _ _ _ _ _;exact⟨ra1,n1,rc1,_,l1,lc1,cur,rfl,B9.X,NL.1,NL.2,E1.X,P9.base (by omega)⟩
   ·have hsv:sv<0:=hv0.2 rfl
    have hsn:(sv==0)=false:=by simp;omega
    have hst:(brQ n fine zs os vs ko kv cur GL).f=true:=by rw[HQ.X]
    obtain⟨b1,b2,b3,b4⟩:=yi2 HQ.X rfl;have hnk:N - k=(N - (k+1))+1:=by omega
    have e1:=KR.X;have e2:=KC.X;rw[hnk,(zv6 hst _).1]at e1;rw[hnk,(zv6 hst _).2]at e2;have E1:=za4 e1;have E2:=za4 e2;dsimp only at b1 b2 b3;have RL:=RM.X w4 s1 s2 (s3:Int) Q4.b O4.X;rw[b1,b2,b3]at RL;have X4:=za4 b4;obtain⟨RD,HRD⟩:=nmd (rqD s1 s2 (s3:Int) n fine zs os vs ko kv cur GL);rw[HRD.X]at RL;obtain⟨nx,HNX⟩:=nmd (dsN n fine zs os vs ko kv GL cur);rw[HNX.X]at RL E1 E2 X4;clear hst e1 e2 b1 b2 b3 b4 KR KC HQ HRD HNX hnk hv0 RM;obtain⟨c0,c1,c2,c3,c4⟩:=za7 Q4.c;obtain⟨z0,z1⟩:=za1 B4.X
    go_wp2_with fail
    clear c0 c1 c2 c3 c4 z0 z1;refine RL.mono ?_;rintro e w5 ⟨ra2,n2,rc2,la2,l2,lc2,S2,rfl,hb,hn2,hl2,hk2,ho2,hg2⟩;obtain⟨gl2,rfl⟩:=hg2 rfl;have Q5:=za4 (Q4.below hb);have B5:=za4 (za0 hb (za2 B4.X) B4.X);have O5:Hid (PO w5 (w.heap.size+3) (za ra2 n2 rc2) S2 (za (some ⟨gl2,0,none⟩) l2 lc2) GL):=ho2.base (by have:=Q4.size;omega);have O6:Hid (PO ((w5.setCell ⟨kq,0,none⟩ (za ra2 n2 rc2)).setCell ⟨kq,1,none⟩ (za (some ⟨gl2,0,none⟩) l2 lc2)) (w.heap.size+3) (za ra2 n2 rc2) S2 (za (some ⟨gl2,0,none⟩) l2 lc2) GL):=O5.box2 B5.X;have Q6:Hid (GQ w ((w5.setCell ⟨kq,0,none⟩ (za ra2 n2 rc2)).setCell ⟨kq,1,none⟩ (za (some ⟨gl2,0,none⟩) l2 lc2)) #[zc zb n,za a zl cap,za ao ko co,za av kv cv,zc zb fine] #[za ra nr rc,za la ln lc]):=(Q5.set HKO.X).set HKO.X;have B6:Hid (((w5.setCell ⟨kq,0,none⟩ (za ra2 n2 rc2)).setCell ⟨kq,1,none⟩ (za (some ⟨gl2,0,none⟩) l2 lc2)).heap[kq]? =some (zd #[za ra2 n2 rc2,za (some ⟨gl2,0,none⟩) l2 lc2] 33 (0,0))):=by
     have s1:=zP w5 kq 0 _ _ (za ra2 n2 rc2) B5.X;have s2:=zP _ kq 1 _ _ (za (some ⟨gl2,0,none⟩) l2 lc2) s1;simp only[xB,zL,xC]at s2;exact s2
    have HK2:=za4 hk2;have NL2:Hid (S2.length=n2/\GL.length=l2):=⟨hn2,hl2⟩;clear hb hn2 hl2 hk2 ho2 hg2 RL Q4 B4 O4 O5;obtain⟨z0,z1⟩:=za1 B5.X;have zf:=fun i=>yU _ _ i _ _ B5.X;go_wp2;go_roundw
    case rel=>
     exact⟨k+1,S2,ra2,n2,rc2,gl2,l2,lc2,by omega,by first|rfl|go_num,Q6.X,B6.X,O6.X,NL2.X,by rw[zd2 GL HK2.X];exact X4.X,(z69 _ HK2.X).trans E1.X,by rw[zR7 _ HK2.X];have:=E2.X;omega⟩
    case measure=>simp[intOf];omega
  ·have hke:k=N:=by omega
   subst hke;have e1:=KR.X;have e2:=KC.X;rw[yF]at e1 e2;have e3:k=cnt:=by simpa[dsC]using e2
   subst e3;have E1:=za4 e1;clear e1 e2 KR KC;obtain⟨z0,z1⟩:=za1 B3.X;obtain⟨a0,a1⟩:=za1 Q3.o;have af:=fun i=>yU _ _ i _ _ Q3.o;have s1:=zP wr (w.heap.size+2) 0 _ _ (za ra1 n1 rc1) Q3.o;have P9:Hid (PO ((wr.setCell ⟨w.heap.size+2,0,none⟩ (za ra1 n1 rc1)).setCell ⟨w.heap.size+2,1,none⟩ (za (some ⟨gl1,0,none⟩) l1 lc1)) (w.heap.size+3) (za ra1 n1 rc1) cur (za (some ⟨gl1,0,none⟩) l1 lc1) GL):=(O3.box Q3.o).box s1;have B9:Hid (Below w.heap.size w ((wr.setCell ⟨w.heap.size+2,0,none⟩ (za ra1 n1 rc1)).setCell ⟨w.heap.size+2,1,none⟩ (za (some ⟨gl1,0,none⟩) l1 lc1))):=(Q3.b.setCell (by simp) _).setCell (by simp) _;clear s1;go_wp2;refine yX (v:=.tuple #[.agg #[za ra1 n1 rc1,za (some ⟨gl1,0,none⟩) l1 lc1],zc zb (k:Int)]) (by simp[results,Tryz.results43,go_sem,a0,a1]) rfl ?_;show z89 _ _ _ _ _ _;exact⟨ra1,n1,rc1,_,l1,lc1,cur,rfl,B9.X,NL.1,NL.2,E1.X,P9.base (by omega)⟩
