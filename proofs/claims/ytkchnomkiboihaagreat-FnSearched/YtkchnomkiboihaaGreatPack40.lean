import Derived.Test.YtkchnomkiboihaaGreatPlainGrd
import Derived.Test.YtkchnomkiboihaaGreatPack39
set_option linter.unusedSimpArgs false
set_option maxHeartbeats 8000000
set_option maxRecDepth 10000
namespace Go.Proofs.YtkchnomkiboihaaGreat
open RowKit renaming Below→Za,Hid→Zb
open Go renaming Calls→Zc,Addr→Zd
theorem ji:type_of% @Bool.true_and:=@Bool.true_and
theorem jj:type_of% @Bool.false_and:=@Bool.false_and
theorem jk:type_of% @cond_true:=@cond_true
open Value renaming slice→za,int→ze
open IntKind renaming i64→zd
open Obj renaming cells→zg
open Proofs.Tryz renaming prog→zh
open Go renaming World→zi
open List renaming length→zo,range→zt
open World renaming cell?→zC
open Lit renaming int→zD
open Go.RowKit
open Q
def rlN(R:List RT)(id tv:Int)(at_:Nat):List RT:=wrL (lvR R id) ⟨tv,none,insL (zc7 (lvR R id) tv).ids at_ id,0⟩
theorem yf1{R R':List RT}(h:R'.map RT.key=R.map RT.key)(id tv:Int)(at_:Nat):(rlN R' id tv at_).map RT.key=(rlN R id tv at_).map RT.key:=by
 have h1:=zF2 h id;exact z83 h1 (by show(_,_)=(_,_);rw[zo2 h1 tv])
theorem y17{n:Int}{zs os vs:List Int}{ko kv:Nat}{fine:Int}{R:List RT}{L:List Int}(h:zc1 n zs os vs ko kv fine R L=0){k:Nat}(hk:k<R.length){id:Int}(cz:id∈(R.getD k rt0).ids)(tv:Int)(at_:Nat){R2:List RT}(cN:R2.map RT.key=(rlN R id tv at_).map RT.key):
 (z67 (R.getD k rt0).v tv).all (cmK n zs os vs ko kv R2)=decide (zc1 n zs os vs ko kv fine (rlN R id tv at_) L=0)∧
 (zc1 n zs os vs ko kv fine (rlN R id tv at_) L=0->∀z,((z67 (R.getD k rt0).v tv).map (cmF n zs os vs ko kv R R2)).sum=zi3 n zs os vs ko kv (rlN R id tv at_) z (rlN R id tv at_).length - zi3 n zs os vs ko kv R z R.length):=by
 obtain⟨hI,hC⟩:=yL6 h hk cz at_ ⟨tv,none,insL (zc7 (lvR R id) tv).ids at_ id,0⟩ rfl;have lq:=(z49 (ze9 (zh3.1 (zb7 h).2.1).1) id).pw;have ht:(zc7 (rlN R id tv at_) tv).ids=insL (zc7 (lvR R id) tv).ids at_ id:=(z30 lq tv).1 rfl;have hr:=fun v=>zo2 cN v;change(zc1 n zs os vs ko kv fine (rlN R id tv at_) L=0↔codeV true n zs os vs ko kv (R.getD k rt0).v (zc7 (rlN R id tv at_) (R.getD k rt0).v).ids=0/\codeV true n zs os vs ko kv tv (insL (zc7 (lvR R id) tv).ids at_ id)=0)at hI;change zc1 n zs os vs ko kv fine (rlN R id tv at_) L=0->∀z,zi3 n zs os vs ko kv (rlN R id tv at_) z (rlN R id tv at_).length - zi3 n zs os vs ko kv R z R.length=if(R.getD k rt0).v=tv then rcV n zs os vs ko kv tv (insL (zc7 (lvR R id) tv).ids at_ id) - rcV n zs os vs ko kv tv (zc7 R tv).ids else(rcV n zs os vs ko kv (R.getD k rt0).v (zc7 (rlN R id tv at_) (R.getD k rt0).v).ids - rcV n zs os vs ko kv (R.getD k rt0).v (zc7 R (R.getD k rt0).v).ids)+(rcV n zs os vs ko kv tv (insL (zc7 (lvR R id) tv).ids at_ id) - rcV n zs os vs ko kv tv (zc7 R tv).ids)at hC
 rw[<-ht]at hI hC;generalize(R.getD k rt0).v=v at*;by_cases hv:v=tv
 ·subst hv
  have e2:z67 v v=[v]:=by unfold z67;rw[z7 rfl]
  rw[e2];refine⟨?_,fun h9 z=> ?_⟩
  ·simp only[List.all_cons,List.all_nil,Bool.and_true]
   unfold cmK;rw[hr v];exact decide_eq_decide.2 ⟨fun h1=>hI.2 ⟨h1,h1⟩,fun h1=>(hI.1 h1).1⟩
  ·have:=hC h9 z
   rw[z7 rfl]at this;rw[this];simp[cmF,hr v]
 ·have e2:z67 v tv=[v,tv]:=by unfold z67;rw[ye hv]
  rw[e2];refine⟨?_,fun h9 z=> ?_⟩
  ·simp only[List.all_cons,List.all_nil,Bool.and_true]
   unfold cmK;rw[hr v,hr tv,<-Bool.decide_and];exact decide_eq_decide.2 hI.symm
  ·have:=hC h9 z
   rw[ye hv]at this;rw[this];simp[cmF,hr v,hr tv]
theorem zN7{R:List RT}(hp:R.Pairwise (fun a b=>a.v<b.v))(aq:∀r∈R,r.ids≠[])(cK:(zb0 R R.length).Nodup){k:Nat}(hk:k<R.length){id:Int}(cz:id∈(R.getD k rt0).ids)(tv:Int)(at_:Nat):((rlN R id tv at_).flatMap RT.ids).Perm (R.flatMap RT.ids):=by
 have hS:=ze9 hp;have au:=y04 hS hk aq cK cz;have Av:=zh7 hk;have uN:=zt0 hk cK;have vi:=zf6 hp Av;have lq:=(z49 hS id).pw;have q1:=z42 (R:=lvR R id) (r:=⟨tv,none,insL (zc7 (lvR R id) tv).ids at_ id,0⟩) lq;have q2:=q1.trans (je _ ((zG6 (zc7 (lvR R id) tv).ids at_ id)));have q3:((rlN R id tv at_).flatMap RT.ids).Perm ((lvR R id).flatMap RT.ids++[id]):=by
  refine(jd (zc7 (lvR R id) tv).ids).1 (q2.trans ?_);rw[yi];rfl
 refine q3.trans ?_;rw[au];have q4:=z42 (r:=⟨(R.getD k rt0).v,(R.getD k rt0).a,cutP (R.getD k rt0).ids id,(R.getD k rt0).c⟩) hp;simp only[vi]at q4;refine(jd (cutP (R.getD k rt0).ids id)).1 ?_;rw[yi];exact(je _ (z58 uN cz).symm).trans q4
theorem zV7{n:Int}{zs os vs:List Int}{ko kv:Nat}{fine:Int}{R:List RT}{L:List Int}(h:zc1 n zs os vs ko kv fine R L=0){k:Nat}(hk:k<R.length){id:Int}(cz:id∈(R.getD k rt0).ids)(tv:Int)(at_:Nat):∀r∈rlN R id tv at_,r.ids≠[]/\r.ids.length<=12:=fun r hr=>by
 obtain⟨_,h2,h3,_⟩:=zb7 h;obtain⟨hp,aP⟩:=zh3.1 h2;have hq:=zN7 hp (fun r hr=>(aP r hr).1) h3.1 hk cz tv at_;have bJ:=(zj6 h).1;rw[zb8]at bJ;have:=zT5 _ r hr;rw[hq.length_eq]at this;refine⟨?_,by omega⟩;rcases zy1.1 hr with⟨hm,_⟩|⟨e,hn⟩
 ·exact yy8 hm
 ·rw[e];exact hn
theorem yC8(R:List RT)(id tv:Int)(at_:Nat):(rlN R id tv at_).length<=2*R.length+1:=by
 unfold rlN wrL;have h1:=yp (fun x:RT=>decide (x.v<tv)) (lvR R id);have h2:=yp (fun x:RT=>decide (tv<x.v)) (lvR R id);have h3:=zR4 R id;simp only[xS];split<;>simp<;>omega
noncomputable def rqB(id tv pl n fine:Int)(zs os vs:List Int)(ko kv:Nat)(R:List RT)(L:List Int):Bool:=decide (zc1 n zs os vs ko kv fine R L=0)&&(decide (id∈zb0 R R.length)&&(inB pl 0 ((zc7 (lvR R id) tv).ids.length:Int)&&decide (zc1 n zs os vs ko kv fine (rlN R id tv pl.toNat) L=0)))
noncomputable def rqR(id tv pl n fine:Int)(zs os vs:List Int)(ko kv:Nat)(R:List RT)(L:List Int):List RT:=bif rqB id tv pl n fine zs os vs ko kv R L then rlN R id tv pl.toNat else []
noncomputable def rqL(id tv pl n fine:Int)(zs os vs:List Int)(ko kv:Nat)(R:List RT)(L:List Int):List Int:=bif rqB id tv pl n fine zs os vs ko kv R L then L else []
noncomputable def rqD(id tv pl n fine:Int)(zs os vs:List Int)(ko kv:Nat)(R:List RT)(L:List Int):Int:=bif rqB id tv pl n fine zs os vs ko kv R L then zi3 n zs os vs ko kv (rlN R id tv pl.toNat) (fine*L.length) (rlN R id tv pl.toNat).length - zi3 n zs os vs ko kv R (fine*L.length) R.length else 0
theorem ys7{R R':List RT}(id tv pl n fine:Int)(zs os vs:List Int)(ko kv:Nat)(L:List Int)(h:R'.map RT.key=R.map RT.key):rqB id tv pl n fine zs os vs ko kv R' L=rqB id tv pl n fine zs os vs ko kv R L:=by
 unfold rqB;rw[zd5 L h,zb8,zb8,z52 h,zo2 (zF2 h id) tv,zd5 L (yf1 h id tv pl.toNat)]
theorem yw1{R R':List RT}(id tv pl n fine:Int)(zs os vs:List Int)(ko kv:Nat)(L:List Int)(h:R'.map RT.key=R.map RT.key):rqD id tv pl n fine zs os vs ko kv R' L=rqD id tv pl n fine zs os vs ko kv R L:=by
 unfold rqD;have h2:=yf1 h id tv pl.toNat;rw[ys7 _ _ _ _ _ _ _ _ _ _ _ h,zw9 h,zw9 h2,z78 h,z78 h2]
theorem yl6{id tv pl n fine:Int}{zs os vs:List Int}{ko kv:Nat}{R:List RT}{L:List Int}(h:rqB id tv pl n fine zs os vs ko kv R L=true):zc1 n zs os vs ko kv fine R L=0/\id∈zb0 R R.length/\inB pl 0 ((zc7 (lvR R id) tv).ids.length:Int)=true/\zc1 n zs os vs ko kv fine (rlN R id tv pl.toNat) L=0:=by
 unfold rqB at h;simp only[zY,qh]at h;exact h
noncomputable def mvB(n fine:Int)(zs os vs:List Int)(ko kv:Nat)(R:List RT)(L:List Int)(s:zg2):Bool:=rqB s.1 s.2.1 (s.2.2:Int) n fine zs os vs ko kv R L&&decide (rqD s.1 s.2.1 (s.2.2:Int) n fine zs os vs ko kv R L<0)
noncomputable def mvD(n fine:Int)(zs os vs:List Int)(ko kv:Nat)(R:List RT)(L:List Int)(s:zg2):Int:=rqD s.1 s.2.1 (s.2.2:Int) n fine zs os vs ko kv R L
noncomputable def brQ(n fine:Int)(zs os vs:List Int)(ko kv:Nat)(R:List RT)(L:List Int):QS:=qst (mvB n fine zs os vs ko kv R L) (mvD n fine zs os vs ko kv R L) (sp3 R vs kv (zi7 n zs os vs ko kv fine R L) (zi7 n zs os vs ko kv fine R L).length)
theorem y54{ok:zg2->Bool}{dl:zg2->Int}(l:List zg2):(qst ok dl l).f=false->qst ok dl l=qs0:=by
 suffices h:∀(m:List zg2) (s:QS),(s.f=false->s=qs0)->(m.foldl (zl7 ok dl) s).f=false->m.foldl (zl7 ok dl) s=qs0 from h l qs0 (fun _=>rfl)
 intro m
 induction m with
 |nil=>intro s hs hf;exact hs hf
 |cons p m ih=>
  intro s hs hf;rw[yM]at hf⊢;refine ih _ (fun h9=> ?_) hf;unfold zl7 at h9⊢;split
  ·rename_i hc
   rw[z7 hc]at h9;cases h9
  ·rename_i hc
   rw[ye hc]at h9;exact hs h9
theorem yL0{n fine:Int}{zs os vs:List Int}{ko kv:Nat}{R:List RT}{L:List Int}(l:List zg2):((qst (mvB n fine zs os vs ko kv R L) (mvD n fine zs os vs ko kv R L) l).f=false->(qst (mvB n fine zs os vs ko kv R L) (mvD n fine zs os vs ko kv R L) l).v=0)/\((qst (mvB n fine zs os vs ko kv R L) (mvD n fine zs os vs ko kv R L) l).f=true->(qst (mvB n fine zs os vs ko kv R L) (mvD n fine zs os vs ko kv R L) l).v<0):=by
 refine⟨fun h=>by rw[y54 l h];rfl,fun h=> ?_⟩;obtain⟨_,h2,h3⟩:=zz9 l h;generalize qst (mvB n fine zs os vs ko kv R L) (mvD n fine zs os vs ko kv R L) l=s at*;unfold mvB at h2;rw[zY,qh]at h2;have h4:=h2.2;unfold mvD at h3;omega
theorem yH8{n fine:Int}{zs os vs:List Int}{ko kv:Nat}{R:List RT}{L:List Int}{l:List zg2}{id ab:Int}{pl:Nat}{s:QS}(hs:qst (mvB n fine zs os vs ko kv R L) (mvD n fine zs os vs ko kv R L) l=s)(h1:rqB id ab (pl:Int) n fine zs os vs ko kv R L=true)(h2:rqD id ab (pl:Int) n fine zs os vs ko kv R L<s.v):qst (mvB n fine zs os vs ko kv R L) (mvD n fine zs os vs ko kv R L) (l++[(id,ab,pl)])=⟨true,(id,ab,pl),rqD id ab (pl:Int) n fine zs os vs ko kv R L⟩:=by
 have hv:=yL0 (n:=n) (fine:=fine) (zs:=zs) (os:=os) (vs:=vs) (ko:=ko) (kv:=kv) (R:=R) (L:=L) l;rw[zD3];rw[hs]at hv⊢;have h0:rqD id ab (pl:Int) n fine zs os vs ko kv R L<0:=by
  cases hf:s.f
  ·have:=hv.1 hf;omega
  ·have:=hv.2 hf;omega
 exact z36 (p:=(id,ab,pl)) (by show(_&&_)=true;rw[h1,zW h0];rfl) h2
theorem yL7{n fine:Int}{zs os vs:List Int}{ko kv:Nat}{R:List RT}{L:List Int}{l:List zg2}{id ab:Int}{pl:Nat}{s:QS}(hs:qst (mvB n fine zs os vs ko kv R L) (mvD n fine zs os vs ko kv R L) l=s)(h:rqB id ab (pl:Int) n fine zs os vs ko kv R L=false∨¬rqD id ab (pl:Int) n fine zs os vs ko kv R L<s.v):qst (mvB n fine zs os vs ko kv R L) (mvD n fine zs os vs ko kv R L) (l++[(id,ab,pl)])=s:=by
 have hv:=yL0 (n:=n) (fine:=fine) (zs:=zs) (os:=os) (vs:=vs) (ko:=ko) (kv:=kv) (R:=R) (L:=L) l;rw[zD3];rw[hs]at hv⊢;rcases h with h|h
 ·exact zq3 (p:=(id,ab,pl)) (by show(_&&_)=false;rw[h];rfl)
 ·cases hf:s.f
  ·have:=hv.1 hf
   exact zq3 (p:=(id,ab,pl)) (by show(_&&decide (rqD id ab (pl:Int) n fine zs os vs ko kv R L<0))=false;rw[zX (by omega),Bool.and_false])
  ·exact zw4 (p:=(id,ab,pl)) hf h
def sq2(V:List Int)(id:Int):Nat->List zg2
 |0=>[]
 |k+1=>sq2 V id k++sp1 id (V.getD (k*5) 0) 13
def sq3(V:List Int)(kv:Nat)(ids:List Int):Nat->List zg2
 |0=>[]
 |i+1=>sq3 V kv ids i++sq2 V (ids.getD i 0) kv
theorem yG0{ok:zg2->Bool}{dl:zg2->Int}(l:List zg2)(s:QS)(h:∀p∈l,ok p=false):l.foldl (zl7 ok dl) s=s:=by
 induction l with
 |nil=>rfl
 |cons p l ih=>
  rw[yM,zq3 (h p (yB ..))];exact ih (fun q hq=>h q (yt _ hq))
theorem y84(id ab:Int)(a b:Nat):sp1 id ab (a+b)=sp1 id ab a++(zt b).map (fun k=>(id,ab,a+k)):=by
 unfold sp1;rw[List.range_add,qJ,List.map_map];rfl
theorem y86{ok:zg2->Bool}{dl:zg2->Int}{R:List RT}(bJ:∀r∈R,r.ids.length<=12)(a_:∀id ab pl,(zc7 R ab).ids.length<pl->ok (id,ab,pl)=false)(id ab:Int)(s:QS):(sp1 id ab 13).foldl (zl7 ok dl) s=(sp1 id ab ((zc7 R ab).ids.length+1)).foldl (zl7 ok dl) s:=by
 have hl:=z56 bJ ab;obtain⟨b,hb⟩:∃b,13=((zc7 R ab).ids.length+1)+b:=⟨13 - ((zc7 R ab).ids.length+1),by omega⟩;rw[hb,y84,yH];refine yG0 _ _ fun p hp=> ?_;obtain⟨k,_,rfl⟩:=yF.1 hp;exact a_ _ _ _ (by omega)
theorem yj7{ok:zg2->Bool}{dl:zg2->Int}{R:List RT}(bJ:∀r∈R,r.ids.length<=12)(a_:∀id ab pl,(zc7 R ab).ids.length<pl->ok (id,ab,pl)=false)(V:List Int)(id:Int):∀(k:Nat) (s:QS),(sq2 V id k).foldl (zl7 ok dl) s=(sp2 R V id k).foldl (zl7 ok dl) s
 |0,s=>rfl
 |k+1,s=>by
  show(sq2 V id k++_).foldl _ _=(sp2 R V id k++_).foldl _ _;rw[yH,yH,yj7 bJ a_ V id k,y86 bJ a_]
theorem ym4{ok:zg2->Bool}{dl:zg2->Int}{R:List RT}(bJ:∀r∈R,r.ids.length<=12)(a_:∀id ab pl,(zc7 R ab).ids.length<pl->ok (id,ab,pl)=false)(V:List Int)(kv:Nat)(ids:List Int):∀(i:Nat) (s:QS),(sq3 V kv ids i).foldl (zl7 ok dl) s=(sp3 R V kv ids i).foldl (zl7 ok dl) s
 |0,s=>rfl
 |i+1,s=>by
  show(sq3 V kv ids i++_).foldl _ _=(sp3 R V kv ids i++_).foldl _ _;rw[yH,yH,ym4 bJ a_ V kv ids i,yj7 bJ a_]
theorem yG3{n fine:Int}{zs os vs:List Int}{ko kv:Nat}{R:List RT}{L:List Int}(id ab:Int)(pl:Nat)(h:(zc7 R ab).ids.length<pl):mvB n fine zs os vs ko kv R L (id,ab,pl)=false:=by
 cases hb:mvB n fine zs os vs ko kv R L (id,ab,pl)
 ·rfl
 ·exfalso
  unfold mvB at hb;rw[zY]at hb;obtain⟨h1,h2,h3,_⟩:=yl6 (id:=id) (tv:=ab) (pl:=(pl:Int)) hb.1;obtain⟨_,g2,g3,_⟩:=zb7 h1;obtain⟨hp,aP⟩:=zh3.1 g2;rw[zb8]at h2;obtain⟨r,hr,cz⟩:=jh.1 h2;obtain⟨k,hk,e⟩:=zo3 hr;rw[<-e]at cz;have hw:=y04 (ze9 hp) hk (fun r hr=>(aP r hr).1) g3.1 cz;rw[hw]at h3;have uB:(zc7 (wrL R ⟨(R.getD k rt0).v,(R.getD k rt0).a,cutP (R.getD k rt0).ids id,(R.getD k rt0).c⟩) ab).ids.length<=(zc7 R ab).ids.length:=by
   by_cases hv:ab=(R.getD k rt0).v
   ·rw[(z30 (r:=⟨(R.getD k rt0).v,(R.getD k rt0).a,cutP (R.getD k rt0).ids id,(R.getD k rt0).c⟩) hp ab).1 hv,hv,zf6 hp (zh7 hk)]
    exact yp _ _
   ·rw[(z30 (r:=⟨(R.getD k rt0).v,(R.getD k rt0).a,cutP (R.getD k rt0).ids id,(R.getD k rt0).c⟩) hp ab).2 hv]
    exact zT _
  generalize(zc7 (wrL R ⟨(R.getD k rt0).v,(R.getD k rt0).a,cutP (R.getD k rt0).ids id,(R.getD k rt0).c⟩) ab).ids.length=x at uB h3;unfold inB at h3;simp at h3;omega
theorem y73(n fine:Int)(zs os vs:List Int)(ko kv:Nat)(R:List RT)(L:List Int):qst (mvB n fine zs os vs ko kv R L) (mvD n fine zs os vs ko kv R L) (sq3 vs kv (zi7 n zs os vs ko kv fine R L) (zi7 n zs os vs ko kv fine R L).length)=brQ n fine zs os vs ko kv R L:=by
 by_cases hp:zc1 n zs os vs ko kv fine R L=0
 ·obtain⟨_,g2,_,_⟩:=zb7 hp
  obtain⟨_,aP⟩:=zh3.1 g2;exact ym4 (fun r hr=>zk2 (aP r hr).2) (fun id ab pl h=>yG3 id ab pl h) vs kv _ _ _
 ·have e:zi7 n zs os vs ko kv fine R L=[]:=ye hp
  unfold brQ;rw[e];rfl
theorem yi0{R S:List RT}(h:S.map RT.key=R.map RT.key)(V:List Int)(id:Int):∀k,sp2 S V id k=sp2 R V id k
 |0=>rfl
 |k+1=>by
  show sp2 S V id k++_=sp2 R V id k++_;rw[yi0 h V id k,zo2 h]
theorem yi2{R S:List RT}(h:S.map RT.key=R.map RT.key)(V:List Int)(kv:Nat)(ids:List Int):∀i,sp3 S V kv ids i=sp3 R V kv ids i
 |0=>rfl
 |i+1=>by
  show sp3 S V kv ids i++_=sp3 R V kv ids i++_;rw[yi2 h V kv ids i,yi0 h]
theorem yy7{n:Int}{zs os vs:List Int}{ko kv:Nat}{fine:Int}{R S:List RT}(L:List Int)(h:S.map RT.key=R.map RT.key):zi7 n zs os vs ko kv fine S L=zi7 n zs os vs ko kv fine R L:=by
 unfold zi7;rw[zd5 L h,zb8,zb8,z52 h]
theorem zE3{n fine:Int}{zs os vs:List Int}{ko kv:Nat}{R S:List RT}{L:List Int}(h:S.map RT.key=R.map RT.key):brQ n fine zs os vs ko kv S L=brQ n fine zs os vs ko kv R L:=by
 have e1:mvB n fine zs os vs ko kv S L=mvB n fine zs os vs ko kv R L:=funext fun s=>by unfold mvB;rw[ys7 _ _ _ _ _ _ _ _ _ _ _ h,yw1 _ _ _ _ _ _ _ _ _ _ _ h]
 have e2:mvD n fine zs os vs ko kv S L=mvD n fine zs os vs ko kv R L:=funext fun s=>by unfold mvD;rw[yw1 _ _ _ _ _ _ _ _ _ _ _ h]
 unfold brQ;rw[e1,e2,yy7 L h,yi2 h]
noncomputable def dsN(n fine:Int)(zs os vs:List Int)(ko kv:Nat)(L:List Int)(R:List RT):List RT:=rlN R (brQ n fine zs os vs ko kv R L).s.1 (brQ n fine zs os vs ko kv R L).s.2.1 (brQ n fine zs os vs ko kv R L).s.2.2
noncomputable def dsR(n fine:Int)(zs os vs:List Int)(ko kv:Nat)(L:List Int):Nat->List RT->List RT
 |0,R=>R
 |k+1,R=>bif (brQ n fine zs os vs ko kv R L).f then dsR n fine zs os vs ko kv L k (dsN n fine zs os vs ko kv L R)else R
noncomputable def dsC(n fine:Int)(zs os vs:List Int)(ko kv:Nat)(L:List Int):Nat->List RT->Nat
 |0,_=>0
 |k+1,R=>bif (brQ n fine zs os vs ko kv R L).f then dsC n fine zs os vs ko kv L k (dsN n fine zs os vs ko kv L R)+1 else 0
theorem yt7{n fine:Int}{zs os vs:List Int}{ko kv:Nat}{L:List Int}{R S:List RT}(h:S.map RT.key=R.map RT.key):(dsN n fine zs os vs ko kv L S).map RT.key=(dsN n fine zs os vs ko kv L R).map RT.key:=by
 unfold dsN;rw[zE3 h];exact yf1 h _ _ _
theorem zu3{n fine:Int}{zs os vs:List Int}{ko kv:Nat}{L:List Int}{R:List RT}(h:(brQ n fine zs os vs ko kv R L).f=false)(k:Nat):dsR n fine zs os vs ko kv L k R=R/\dsC n fine zs os vs ko kv L k R=0:=by
 cases k with
 |zero=>exact⟨rfl,rfl⟩
 |succ k=>
  constructor
  ·show(bif (brQ n fine zs os vs ko kv R L).f then _ else _)=_
   rw[h];rfl
  ·show(bif (brQ n fine zs os vs ko kv R L).f then _ else _)=_
   rw[h];rfl
theorem zu0{n fine:Int}{zs os vs:List Int}{ko kv:Nat}{L:List Int}{R:List RT}(h:(brQ n fine zs os vs ko kv R L).f=true)(k:Nat):dsR n fine zs os vs ko kv L (k+1) R=dsR n fine zs os vs ko kv L k (dsN n fine zs os vs ko kv L R)/\dsC n fine zs os vs ko kv L (k+1) R=dsC n fine zs os vs ko kv L k (dsN n fine zs os vs ko kv L R)+1:=by
 constructor
 ·show(bif (brQ n fine zs os vs ko kv R L).f then _ else _)=_
  rw[h];rfl
 ·show(bif (brQ n fine zs os vs ko kv R L).f then _ else _)=_
  rw[h];rfl
theorem z87{n fine:Int}{zs os vs:List Int}{ko kv:Nat}{L:List Int}(k:Nat):∀{R S:List RT},S.map RT.key=R.map RT.key->(dsR n fine zs os vs ko kv L k S).map RT.key=(dsR n fine zs os vs ko kv L k R).map RT.key:=by
 induction k with
 |zero=>intro R S h;exact h
 |succ k ih=>
  intro R S h;cases hf:(brQ n fine zs os vs ko kv R L).f
  ·rw[(zu3 hf _).1,(zu3 (by rw[zE3 h];exact hf) _).1]
   exact h
  ·rw[(zu0 hf k).1,(zu0 (by rw[zE3 h];exact hf) k).1]
   exact ih (yt7 h)
theorem zQ6{n fine:Int}{zs os vs:List Int}{ko kv:Nat}{L:List Int}(k:Nat):∀{R S:List RT},S.map RT.key=R.map RT.key->dsC n fine zs os vs ko kv L k S=dsC n fine zs os vs ko kv L k R:=by
 induction k with
 |zero=>intro R S h;rfl
 |succ k ih=>
  intro R S h;cases hf:(brQ n fine zs os vs ko kv R L).f
  ·rw[(zu3 hf _).2,(zu3 (by rw[zE3 h];exact hf) _).2]
  ·rw[(zu0 hf k).2,(zu0 (by rw[zE3 h];exact hf) k).2,ih (yt7 h)]
theorem yg8{n fine:Int}{zs os vs:List Int}{ko kv:Nat}{L:List Int}{R:List RT}{q:QS}(hq:brQ n fine zs os vs ko kv R L=q)(h:q.f=true):rqB q.s.1 q.s.2.1 (q.s.2.2:Int) n fine zs os vs ko kv R L=true/\rqR q.s.1 q.s.2.1 (q.s.2.2:Int) n fine zs os vs ko kv R L=dsN n fine zs os vs ko kv L R/\rqL q.s.1 q.s.2.1 (q.s.2.2:Int) n fine zs os vs ko kv R L=L/\zc1 n zs os vs ko kv fine (dsN n fine zs os vs ko kv L R) L=0:=by
 have h1:rqB q.s.1 q.s.2.1 (q.s.2.2:Int) n fine zs os vs ko kv R L=true:=by
  have h2:=(zz9 (ok:=mvB n fine zs os vs ko kv R L) (dl:=mvD n fine zs os vs ko kv R L) (sp3 R vs kv (zi7 n zs os vs ko kv fine R L) (zi7 n zs os vs ko kv fine R L).length));change(brQ n fine zs os vs ko kv R L).f=true->_/\mvB n fine zs os vs ko kv R L (brQ n fine zs os vs ko kv R L).s=true/\_ at h2;rw[hq]at h2;have h3:=(h2 h).2.1;unfold mvB at h3;rw[zY]at h3;exact h3.1
 have h4:=(yl6 h1).2.2.2;have e:dsN n fine zs os vs ko kv L R=rlN R q.s.1 q.s.2.1 q.s.2.2:=by unfold dsN;rw[hq]
 refine⟨h1,?_,?_,?_⟩
 ·unfold rqR
  rw[h1,e];rfl
 ·unfold rqL
  rw[h1];rfl
 ·rw[e]
  exact h4
theorem yL1{n fine:Int}{zs os vs:List Int}{ko kv:Nat}{L:List Int}{R:List RT}{q:QS}(hq:brQ n fine zs os vs ko kv R L=q):(q.f=false->q.v=0)/\(q.f=true->q.v<0):=by
 have:=yL0 (n:=n) (fine:=fine) (zs:=zs) (os:=os) (vs:=vs) (ko:=ko) (kv:=kv) (R:=R) (L:=L) (sp3 R vs kv (zi7 n zs os vs ko kv fine R L) (zi7 n zs os vs ko kv fine R L).length);change((brQ n fine zs os vs ko kv R L).f=false->(brQ n fine zs os vs ko kv R L).v=0)/\((brQ n fine zs os vs ko kv R L).f=true->(brQ n fine zs os vs ko kv R L).v<0)at this;rw[hq]at this;exact this
theorem yz2{n fine:Int}{zs os vs:List Int}{ko kv:Nat}{L:List Int}(k:Nat):∀{R:List RT},zc1 n zs os vs ko kv fine R L=0->zc1 n zs os vs ko kv fine (dsR n fine zs os vs ko kv L k R) L=0:=by
 induction k with
 |zero=>intro R h;exact h
 |succ k ih=>
  intro R h;cases hf:(brQ n fine zs os vs ko kv R L).f
  ·rw[(zu3 hf (k+1)).1]
   exact h
  ·rw[(zu0 hf k).1]
   exact ih (yg8 rfl hf).2.2.2
noncomputable def dcB(st n fine:Int)(zs os vs:List Int)(ko kv:Nat)(R:List RT)(L:List Int):Bool:=decide (zc1 n zs os vs ko kv fine R L=0)&&inB st 0 60
noncomputable def dcR(st n fine:Int)(zs os vs:List Int)(ko kv:Nat)(R:List RT)(L:List Int):List RT:=bif dcB st n fine zs os vs ko kv R L then dsR n fine zs os vs ko kv L st.toNat R else []
noncomputable def dcL(st n fine:Int)(zs os vs:List Int)(ko kv:Nat)(R:List RT)(L:List Int):List Int:=bif dcB st n fine zs os vs ko kv R L then L else []
noncomputable def dcN(st n fine:Int)(zs os vs:List Int)(ko kv:Nat)(R:List RT)(L:List Int):Int:=bif dcB st n fine zs os vs ko kv R L then(dsC n fine zs os vs ko kv L st.toNat R:Int)else -1
theorem yb3{R S:List RT}(st n fine:Int)(zs os vs:List Int)(ko kv:Nat)(L:List Int)(h:S.map RT.key=R.map RT.key):dcB st n fine zs os vs ko kv S L=dcB st n fine zs os vs ko kv R L:=by
 unfold dcB;rw[zd5 L h]
theorem yF6{R S:List RT}(st n fine:Int)(zs os vs:List Int)(ko kv:Nat)(L:List Int)(h:S.map RT.key=R.map RT.key):(dcR st n fine zs os vs ko kv S L).map RT.key=(dcR st n fine zs os vs ko kv R L).map RT.key:=by
 unfold dcR;rw[yb3 _ _ _ _ _ _ _ _ _ h];cases dcB st n fine zs os vs ko kv R L
 ·rfl
 ·exact z87 _ h
theorem yF2{R S:List RT}(st n fine:Int)(zs os vs:List Int)(ko kv:Nat)(L:List Int)(h:S.map RT.key=R.map RT.key):dcL st n fine zs os vs ko kv S L=dcL st n fine zs os vs ko kv R L:=by
 unfold dcL;rw[yb3 _ _ _ _ _ _ _ _ _ h]
theorem yD2{R S:List RT}(st n fine:Int)(zs os vs:List Int)(ko kv:Nat)(L:List Int)(h:S.map RT.key=R.map RT.key):dcN st n fine zs os vs ko kv S L=dcN st n fine zs os vs ko kv R L:=by
 unfold dcN;rw[yb3 _ _ _ _ _ _ _ _ _ h,zQ6 _ h]
theorem yu5(S P:List Int)(R:List RT)(L:List Int):∀(i:Nat) (x:Int),x∈(lvF S P R L i).2->x∈L∨∃j,j<i/\x=pkd S P j
 |0,_,h=>.inl h
 |i+1,x,h=>by
  rcases(zy8 _ _ x).1 h with e|e
  ·exact .inr ⟨i,by omega,e⟩
  ·rcases yu5 S P R L i x e with h1|⟨j,hj,h1⟩
   ·exact .inl h1
   ·exact .inr ⟨j,by omega,h1⟩
theorem yA3{n:Int}{zs os vs:List Int}{ko kv:Nat}{fine:Int}{R:List RT}{L S P:List Int}(h:zc1 n zs os vs ko kv fine R L=0)(hI:LvI S P L.length 0 R L)(ho:∀x∈zb0 R R.length,zl8 os ko x=true):∀x∈(lvF S P R L P.length).2,(zD zd x).wf=true:=fun x hx=>by
 obtain⟨h1,_,_,h4,_⟩:=zb7 h;refine yB0 h1 ?_;rcases yu5 S P R L _ x hx with hl|⟨j,hj,e⟩
 ·obtain⟨i,hi,e⟩:=zt5 hl
  rw[<-e];exact(h4 i hi).1
 ·rw[e]
  exact ho _ (hI.mm j (xi _) hj)
theorem zL9{n:Int}{zs os vs:List Int}{ko kv:Nat}{fine:Int}{R:List RT}{L:List Int}(h:zc1 n zs os vs ko kv fine R L=0):∀x∈zb0 R R.length,zl8 os ko x=true:=fun x hx=>by
 obtain⟨_,h2,_⟩:=zb7 h;rw[zb8]at hx;obtain⟨r,hr,pz⟩:=jh.1 hx;obtain⟨j,hj,e⟩:=zo3 hr;have h3:=(zf3 (zg8 (h2 j hj).2.2).1).2.2;rw[e]at h3;obtain⟨i,hi,e2⟩:=zt5 pz;have h4:=zZ h3;have h5:=h4.2 i hi;rw[<-e2];unfold zW7 at h5;simp only[zY]at h5;exact h5.1
noncomputable def deS(R:List RT):List Int:=zr3 (zb0 R R.length)
noncomputable def deP(sd kk:Int)(R:List RT):List Int:=zs4 sd (deS R).length (min kk ((deS R).length:Int))
noncomputable def deQ(sd kk:Int)(R:List RT)(L:List Int):List RT×List Int:=lvF (deS R) (deP sd kk R) R L (deP sd kk R).length
noncomputable def deW(sd kk n fine:Int)(zs os vs:List Int)(ko kv:Nat)(R:List RT)(L:List Int):Int:=zc1 n zs os vs ko kv fine (deQ sd kk R L).1 (deQ sd kk R L).2
noncomputable def deB(sd kk n fine:Int)(zs os vs:List Int)(ko kv:Nat)(R:List RT)(L:List Int):Bool:=decide (zc1 n zs os vs ko kv fine R L=0)&&(inB kk 0 12&&inB sd 0 2147483647)
noncomputable def deF(sd kk n fine:Int)(zs os vs:List Int)(ko kv:Nat)(R:List RT)(L:List Int):Bool:=deB sd kk n fine zs os vs ko kv R L&&decide (deW sd kk n fine zs os vs ko kv R L=0)
noncomputable def deR(sd kk n fine:Int)(zs os vs:List Int)(ko kv:Nat)(R:List RT)(L:List Int):List RT:=bif deB sd kk n fine zs os vs ko kv R L then(if deW sd kk n fine zs os vs ko kv R L=0 then(deQ sd kk R L).1 else R)else []
noncomputable def deL(sd kk n fine:Int)(zs os vs:List Int)(ko kv:Nat)(R:List RT)(L:List Int):List Int:=bif deB sd kk n fine zs os vs ko kv R L then(if deW sd kk n fine zs os vs ko kv R L=0 then(deQ sd kk R L).2 else L)else []
noncomputable def deN(sd kk n fine:Int)(zs os vs:List Int)(ko kv:Nat)(R:List RT)(L:List Int):Int:=bif deB sd kk n fine zs os vs ko kv R L then z77 sd (deS R).length (min kk ((deS R).length:Int))else -1
theorem yd6{R R':List RT}(h:R'.map RT.key=R.map RT.key):deS R'=deS R:=by
 unfold deS;rw[zb8,zb8,z52 h]
theorem yC3{R R':List RT}(sd kk:Int)(h:R'.map RT.key=R.map RT.key):deP sd kk R'=deP sd kk R:=by
 unfold deP;rw[yd6 h]
theorem yv6{R R':List RT}(S P L:List Int)(h:R'.map RT.key=R.map RT.key):∀i,(lvF S P R' L i).1.map RT.key=(lvF S P R L i).1.map RT.key/\(lvF S P R' L i).2=(lvF S P R L i).2
 |0=>⟨h,rfl⟩
 |i+1=>by
  obtain⟨h1,h2⟩:=yv6 S P L h i;exact⟨zF2 h1 _,by rw[lvF,lvF,h2]⟩
theorem yf3{R R':List RT}(sd kk:Int)(L:List Int)(h:R'.map RT.key=R.map RT.key):(deQ sd kk R' L).1.map RT.key=(deQ sd kk R L).1.map RT.key/\(deQ sd kk R' L).2=(deQ sd kk R L).2:=by
 unfold deQ;rw[yd6 h,yC3 sd kk h];exact yv6 _ _ _ h _
theorem yh6{R R':List RT}(sd kk n fine:Int)(zs os vs:List Int)(ko kv:Nat)(L:List Int)(h:R'.map RT.key=R.map RT.key):deW sd kk n fine zs os vs ko kv R' L=deW sd kk n fine zs os vs ko kv R L:=by
 obtain⟨h1,h2⟩:=yf3 sd kk L h;unfold deW;rw[zd5 _ h1,h2]
theorem zH5{R R':List RT}(sd kk n fine:Int)(zs os vs:List Int)(ko kv:Nat)(L:List Int)(h:R'.map RT.key=R.map RT.key):deB sd kk n fine zs os vs ko kv R' L=deB sd kk n fine zs os vs ko kv R L:=by
 unfold deB;rw[zd5 _ h]
theorem yb6{R R':List RT}(sd kk n fine:Int)(zs os vs:List Int)(ko kv:Nat)(L:List Int)(h:R'.map RT.key=R.map RT.key):deF sd kk n fine zs os vs ko kv R' L=deF sd kk n fine zs os vs ko kv R L:=by
 unfold deF;rw[zH5 _ _ _ _ _ _ _ _ _ _ h,yh6 _ _ _ _ _ _ _ _ _ _ h]
theorem yf4{R R':List RT}(sd kk n fine:Int)(zs os vs:List Int)(ko kv:Nat)(L:List Int)(h:R'.map RT.key=R.map RT.key):deL sd kk n fine zs os vs ko kv R' L=deL sd kk n fine zs os vs ko kv R L:=by
 unfold deL;rw[zH5 _ _ _ _ _ _ _ _ _ _ h,yh6 _ _ _ _ _ _ _ _ _ _ h,(yf3 sd kk L h).2]
theorem yf2{R R':List RT}(sd kk n fine:Int)(zs os vs:List Int)(ko kv:Nat)(L:List Int)(h:R'.map RT.key=R.map RT.key):deN sd kk n fine zs os vs ko kv R' L=deN sd kk n fine zs os vs ko kv R L:=by
 unfold deN;rw[zH5 _ _ _ _ _ _ _ _ _ _ h,yd6 h]
theorem yc9{R R':List RT}(sd kk n fine:Int)(zs os vs:List Int)(ko kv:Nat)(L:List Int)(h:R'.map RT.key=R.map RT.key):(deR sd kk n fine zs os vs ko kv R' L).map RT.key=(deR sd kk n fine zs os vs ko kv R L).map RT.key:=by
 unfold deR;rw[zH5 _ _ _ _ _ _ _ _ _ _ h,yh6 _ _ _ _ _ _ _ _ _ _ h];cases deB sd kk n fine zs os vs ko kv R L
 ·rfl
 ·simp only[jk]
  split
  ·exact(yf3 sd kk L h).1
  ·exact h
structure DeI(sd kk:Int)(R:List RT)(L:List Int):Prop where
 i:LvI (deS R) (deP sd kk R) L.length 0 R L
 d:∀i j,i<j->j<(deP sd kk R).length->pkd (deS R) (deP sd kk R) i≠pkd (deS R) (deP sd kk R) j
 p:∀i,i<(deP sd kk R).length->0<=(deP sd kk R).getD i 0/\(deP sd kk R).getD i 0<(deS R).length
 m:(deP sd kk R).length<=(deS R).length
 t:L.length+(deS R).length<=12
 r:R.length<=12
 w:∀x∈(deQ sd kk R L).2,(zD zd x).wf=true
theorem zO6{sd kk n fine:Int}{zs os vs:List Int}{ko kv:Nat}{R:List RT}{L:List Int}(h:zc1 n zs os vs ko kv fine R L=0)(hk:inB kk 0 12=true)(hs:inB sd 0 2147483647=true):DeI sd kk R L:=by
 obtain⟨h1,h2,h3,h4,h5⟩:=zb7 h;obtain⟨s1,s2,s3⟩:=zj6 h;have eA:=zc8 hk;have hN:(deS R).length=(zb0 R R.length).length:=by unfold deS;rw[zo4]
 have aA:ko<=12:=by
  have hc:=h1;unfold zd0 at hc;simp only[zY]at hc;exact(zd9 hc.1.1.2).1
 obtain⟨K,hK⟩:=xp (show 0<=min kk ((deS R).length:Int) by omega);have hB:zv8 sd ((deS R).length:Int) (K:Int)=true:=by
  unfold zv8;rw[hs,zf0 (show(0:Int)<=((deS R).length:Int)/\((deS R).length:Int)<=64 by omega),zf0 (show(0:Int)<=(K:Int)/\(K:Int)<=((deS R).length:Int) by omega)];rfl
 obtain⟨f1,f2,f3,f4,f5,_⟩:=yp9 hB;have hP:deP sd kk R=zs4 sd ((deS R).length:Int) (K:Int):=by unfold deP;rw[hK]
 have hl:(deP sd kk R).length=K:=by rw[hP,f3]
 have hp:∀i,i<(deP sd kk R).length->0<=(deP sd kk R).getD i 0/\(deP sd kk R).getD i 0<(deS R).length:=fun i hi=>by
  have:=f5 i (by omega);rw[hP];exact⟨this.1,this.2.1⟩
 have cK:(deP sd kk R).Nodup:=by
  rw[hP,(zv6 hB).1];exact zW2 K _ _ (z80 _) (by rw[zh8];exact f1)
 have hI:LvI (deS R) (deP sd kk R) L.length 0 R L:=zP8 h rfl hp;refine⟨hI,y47 (yn1 s2) cK hp,hp,by omega,by omega,?_,yA3 h hI (zL9 h)⟩;have:=yd3 R hI.ne;rw[<-zb8]at this;omega
theorem yi1{sd kk n fine:Int}{zs os vs:List Int}{ko kv:Nat}{R:List RT}{L:List Int}(h:deB sd kk n fine zs os vs ko kv R L=true):zc1 n zs os vs ko kv fine R L=0/\inB kk 0 12=true/\inB sd 0 2147483647=true:=by
 unfold deB at h;simp only[zY,qh]at h;exact h
def seK(i:Nat):Int:=1+((i % 3:Nat):Int)
noncomputable def seY(n fine:Int)(zs os vs:List Int)(ko kv:Nat)(R:List RT)(L:List Int):List RT×List Int:=(dsR n fine zs os vs ko kv (grd n fine zs os vs ko kv L.length R L).2 3 (grd n fine zs os vs ko kv L.length R L).1,(grd n fine zs os vs ko kv L.length R L).2)
noncomputable def seD(sd kk n fine:Int)(zs os vs:List Int)(ko kv:Nat)(R:List RT)(L:List Int):List RT×List Int:=seY n fine zs os vs ko kv (deR sd kk n fine zs os vs ko kv R L) (deL sd kk n fine zs os vs ko kv R L)
noncomputable def seB(sd kk n fine:Int)(zs os vs:List Int)(ko kv:Nat)(R:List RT)(L:List Int):Bool:=deF sd kk n fine zs os vs ko kv R L&&decide (zo8 n zs os vs ko kv fine (seD sd kk n fine zs os vs ko kv R L).1 (seD sd kk n fine zs os vs ko kv R L).2<zo8 n zs os vs ko kv fine R L)
noncomputable def seN(sd kk n fine:Int)(zs os vs:List Int)(ko kv:Nat)(R:List RT)(L:List Int):List RT×List Int:=bif seB sd kk n fine zs os vs ko kv R L then seD sd kk n fine zs os vs ko kv R L else(R,L)
noncomputable def seP(sd n fine:Int)(zs os vs:List Int)(ko kv:Nat)(R:List RT)(L:List Int):Nat->(List RT×List Int)×Int
 |0=>((R,L),sd)
 |i+1=>(seN (seP sd n fine zs os vs ko kv R L i).2 (seK i) n fine zs os vs ko kv (seP sd n fine zs os vs ko kv R L i).1.1 (seP sd n fine zs os vs ko kv R L i).1.2,deN (seP sd n fine zs os vs ko kv R L i).2 (seK i) n fine zs os vs ko kv (seP sd n fine zs os vs ko kv R L i).1.1 (seP sd n fine zs os vs ko kv R L i).1.2)
noncomputable def seC(sd n fine:Int)(zs os vs:List Int)(ko kv:Nat)(R:List RT)(L:List Int)(i:Nat):Int:=zo8 n zs os vs ko kv fine (seP sd n fine zs os vs ko kv R L i).1.1 (seP sd n fine zs os vs ko kv R L i).1.2
noncomputable def seT(sd n fine:Int)(zs os vs:List Int)(ko kv:Nat)(R:List RT)(L:List Int)(i:Nat):List Int:=(zt (i+1)).map (seC sd n fine zs os vs ko kv R L)
theorem yB2(i:Nat):inB (seK i) 0 12=true:=zf0 (by unfold seK;omega)
theorem yl2(sd n fine:Int)(zs os vs:List Int)(ko kv:Nat)(R:List RT)(L:List Int)(i:Nat):seT sd n fine zs os vs ko kv R L (i+1)=seT sd n fine zs os vs ko kv R L i++[seC sd n fine zs os vs ko kv R L (i+1)]:=by
 unfold seT;rw[yN (n:=i+1),qJ];rfl
theorem zR9(sd n fine:Int)(zs os vs:List Int)(ko kv:Nat)(R:List RT)(L:List Int)(i:Nat):(seT sd n fine zs os vs ko kv R L i).length=i+1:=by
 unfold seT;rw[qz,List.length_range]
theorem y03{n fine:Int}{zs os vs:List Int}{ko kv:Nat}{R S:List RT}(L:List Int)(h:S.map RT.key=R.map RT.key):(seY n fine zs os vs ko kv S L).1.map RT.key=(seY n fine zs os vs ko kv R L).1.map RT.key/\(seY n fine zs os vs ko kv S L).2=(seY n fine zs os vs ko kv R L).2:=by
 obtain⟨h1,h2⟩:=z88 (n:=n) (fine:=fine) (zs:=zs) (os:=os) (vs:=vs) (ko:=ko) (kv:=kv) L.length L h;unfold seY;exact⟨by rw[h2];exact z87 3 h1,h2⟩
theorem yv7{R S:List RT}(sd kk n fine:Int)(zs os vs:List Int)(ko kv:Nat)(L:List Int)(h:S.map RT.key=R.map RT.key):(seD sd kk n fine zs os vs ko kv S L).1.map RT.key=(seD sd kk n fine zs os vs ko kv R L).1.map RT.key/\(seD sd kk n fine zs os vs ko kv S L).2=(seD sd kk n fine zs os vs ko kv R L).2:=by
 unfold seD;rw[yf4 sd kk n fine zs os vs ko kv L h];exact y03 _ (yc9 sd kk n fine zs os vs ko kv L h)
theorem yC0{R S:List RT}(sd kk n fine:Int)(zs os vs:List Int)(ko kv:Nat)(L:List Int)(h:S.map RT.key=R.map RT.key):seB sd kk n fine zs os vs ko kv S L=seB sd kk n fine zs os vs ko kv R L:=by
 obtain⟨h1,h2⟩:=yv7 sd kk n fine zs os vs ko kv L h;unfold seB;rw[yb6 sd kk n fine zs os vs ko kv L h,h2,zs5 _ h1,zs5 _ h]
theorem yD5{R S:List RT}(sd kk n fine:Int)(zs os vs:List Int)(ko kv:Nat)(L:List Int)(h:S.map RT.key=R.map RT.key):(seN sd kk n fine zs os vs ko kv S L).1.map RT.key=(seN sd kk n fine zs os vs ko kv R L).1.map RT.key/\(seN sd kk n fine zs os vs ko kv S L).2=(seN sd kk n fine zs os vs ko kv R L).2:=by
 unfold seN;rw[yC0 sd kk n fine zs os vs ko kv L h];cases seB sd kk n fine zs os vs ko kv R L
 ·exact⟨h,rfl⟩
 ·exact yv7 sd kk n fine zs os vs ko kv L h
theorem yD9{R S:List RT}(sd n fine:Int)(zs os vs:List Int)(ko kv:Nat)(L:List Int)(h:S.map RT.key=R.map RT.key):∀i,(seP sd n fine zs os vs ko kv S L i).1.1.map RT.key=(seP sd n fine zs os vs ko kv R L i).1.1.map RT.key/\(seP sd n fine zs os vs ko kv S L i).1.2=(seP sd n fine zs os vs ko kv R L i).1.2/\(seP sd n fine zs os vs ko kv S L i).2=(seP sd n fine zs os vs ko kv R L i).2
 |0=>⟨h,rfl,rfl⟩
 |i+1=>by
  obtain⟨h1,h2,h3⟩:=yD9 sd n fine zs os vs ko kv L h i;simp only[seP];rw[h2,h3];obtain⟨h4,h5⟩:=yD5 (seP sd n fine zs os vs ko kv R L i).2 (seK i) n fine zs os vs ko kv (seP sd n fine zs os vs ko kv R L i).1.2 h1;exact⟨h4,h5,yf2 _ _ _ _ _ _ _ _ _ _ h1⟩
theorem yJ4(k:Nat):∀(L:List Int) (s:Int),inB s 0 2147483647=true->inB (pkL k L s).2 0 2147483647=true:=by
 induction k with
 |zero=>intro L s h;exact h
 |succ k ih=>intro L s _;exact ih _ _ (zT3 s)
theorem yI0{sd kk n fine:Int}{zs os vs:List Int}{ko kv:Nat}{R:List RT}{L:List Int}(h:deB sd kk n fine zs os vs ko kv R L=true):inB (deN sd kk n fine zs os vs ko kv R L) 0 2147483647=true:=by
 obtain⟨h1,h2,h3⟩:=yi1 h;have hk:=zc8 h2;obtain⟨K,hK⟩:=xp (show 0<=min kk ((deS R).length:Int) by omega);have D:=(zO6 h1 h2 h3).t;have hB:zv8 sd ((deS R).length:Int) (K:Int)=true:=by
  unfold zv8;rw[h3,zf0 (show(0:Int)<=((deS R).length:Int)/\((deS R).length:Int)<=64 by omega),zf0 (show(0:Int)<=(K:Int)/\(K:Int)<=((deS R).length:Int) by omega)];rfl
 unfold deN;rw[h,hK,jk,(zv6 hB).2];exact yJ4 K _ _ h3
theorem yA6{sd kk n fine:Int}{zs os vs:List Int}{ko kv:Nat}{R:List RT}{L:List Int}(h1:zc1 n zs os vs ko kv fine R L=0)(h2:inB kk 0 12=true)(h3:inB sd 0 2147483647=true):deB sd kk n fine zs os vs ko kv R L=true:=by
 unfold deB;rw[h2,h3,h1];rfl
theorem zD2{sd kk n fine:Int}{zs os vs:List Int}{ko kv:Nat}{R:List RT}{L:List Int}(h:deF sd kk n fine zs os vs ko kv R L=true):deR sd kk n fine zs os vs ko kv R L=(deQ sd kk R L).1/\deL sd kk n fine zs os vs ko kv R L=(deQ sd kk R L).2/\zc1 n zs os vs ko kv fine (deR sd kk n fine zs os vs ko kv R L) (deL sd kk n fine zs os vs ko kv R L)=0:=by
 unfold deF at h;rw[zY,qh]at h;have e1:deR sd kk n fine zs os vs ko kv R L=(deQ sd kk R L).1:=by unfold deR;rw[h.1,jk,z7 h.2]
 have e2:deL sd kk n fine zs os vs ko kv R L=(deQ sd kk R L).2:=by unfold deL;rw[h.1,jk,z7 h.2]
 exact⟨e1,e2,by rw[e1,e2];exact h.2⟩
theorem yj8{n fine:Int}{zs os vs:List Int}{ko kv:Nat}{R:List RT}{L:List Int}(h:zc1 n zs os vs ko kv fine R L=0):zc1 n zs os vs ko kv fine (seY n fine zs os vs ko kv R L).1 (seY n fine zs os vs ko kv R L).2=0:=
 yz2 3 (zE1 L.length R L h).1
theorem y72{sd kk n fine:Int}{zs os vs:List Int}{ko kv:Nat}{R:List RT}{L:List Int}(h:zc1 n zs os vs ko kv fine R L=0):zc1 n zs os vs ko kv fine (seN sd kk n fine zs os vs ko kv R L).1 (seN sd kk n fine zs os vs ko kv R L).2=0:=by
 unfold seN;cases hB:seB sd kk n fine zs os vs ko kv R L
 ·exact h
 ·unfold seB at hB
  rw[zY]at hB;exact yj8 (zD2 hB.1).2.2
theorem z40{sd n fine:Int}{zs os vs:List Int}{ko kv:Nat}{R:List RT}{L:List Int}(h:zc1 n zs os vs ko kv fine R L=0)(hs:inB sd 0 2147483647=true):∀i,zc1 n zs os vs ko kv fine (seP sd n fine zs os vs ko kv R L i).1.1 (seP sd n fine zs os vs ko kv R L i).1.2=0/\inB (seP sd n fine zs os vs ko kv R L i).2 0 2147483647=true
 |0=>⟨h,hs⟩
 |i+1=>by
  obtain⟨h1,h2⟩:=z40 h hs i;exact⟨y72 h1,yI0 (yA6 h1 (yB2 i) h2)⟩
noncomputable def sgB(sd st n fine:Int)(zs os vs:List Int)(ko kv:Nat)(R:List RT)(L:List Int):Bool:=decide (zc1 n zs os vs ko kv fine R L=0)&&(inB st 0 60&&inB sd 0 2147483647)
noncomputable def sgR(sd st n fine:Int)(zs os vs:List Int)(ko kv:Nat)(R:List RT)(L:List Int):List RT:=bif sgB sd st n fine zs os vs ko kv R L then(seP sd n fine zs os vs ko kv R L st.toNat).1.1 else []
noncomputable def sgL(sd st n fine:Int)(zs os vs:List Int)(ko kv:Nat)(R:List RT)(L:List Int):List Int:=bif sgB sd st n fine zs os vs ko kv R L then(seP sd n fine zs os vs ko kv R L st.toNat).1.2 else []
noncomputable def sgT(sd st n fine:Int)(zs os vs:List Int)(ko kv:Nat)(R:List RT)(L:List Int):List Int:=bif sgB sd st n fine zs os vs ko kv R L then seT sd n fine zs os vs ko kv R L st.toNat else []
theorem yG8{sd st n fine:Int}{zs os vs:List Int}{ko kv:Nat}{R:List RT}{L:List Int}:(sgT sd st n fine zs os vs ko kv R L).length<=61:=by
 unfold sgT;cases hB:sgB sd st n fine zs os vs ko kv R L
 ·simp
 ·unfold sgB at hB
  simp only[zY]at hB;have:=zc8 hB.2.1;rw[jk,zR9];omega
theorem yJ8(sd st n fine:Int)(zs os vs:List Int)(ko kv:Nat)(R:List RT)(L:List Int):(∀r∈sgR sd st n fine zs os vs ko kv R L,r.ids≠[]/\r.ids.length<=12)/\(sgR sd st n fine zs os vs ko kv R L).length<=500/\(sgL sd st n fine zs os vs ko kv R L).length<=500:=by
 unfold sgR sgL;cases hB:sgB sd st n fine zs os vs ko kv R L
 ·simp
 ·unfold sgB at hB
  simp only[zY,qh]at hB;have h4:=(z40 hB.1 hB.2.2 st.toNat).1;obtain⟨_,g2,_⟩:=zb7 h4;obtain⟨_,aP⟩:=zh3.1 g2;have hs:=ze6 h4;simp only[jk];exact⟨fun r hr=>⟨(aP r hr).1,zk2 (aP r hr).2⟩,by omega,by omega⟩
section
variable {sd st n fine:Int} {zs os vs:List Int} {ko kv:Nat} {R:List RT} {L:List Int}
theorem y37(i:Nat):seC sd n fine zs os vs ko kv R L (i+1)<=seC sd n fine zs os vs ko kv R L i:=by
 show zo8 n zs os vs ko kv fine (seN _ _ _ _ _ _ _ _ _ _ _).1 (seN _ _ _ _ _ _ _ _ _ _ _).2<=_;unfold seN;cases hB:seB (seP sd n fine zs os vs ko kv R L i).2 (seK i) n fine zs os vs ko kv (seP sd n fine zs os vs ko kv R L i).1.1 (seP sd n fine zs os vs ko kv R L i).1.2
 ·exact Int.le_refl _
 ·unfold seB at hB
  rw[zY,qh]at hB;exact Int.le_of_lt hB.2
theorem yE9{i j:Nat}(h:j<=i):(seT sd n fine zs os vs ko kv R L i).getD j 0=seC sd n fine zs os vs ko kv R L j:=by
 unfold seT;rw[zQ,yr,List.getElem?_range (by omega)];rfl
theorem y61{i j:Nat}(h:j<=i):(seT sd n fine zs os vs ko kv R L i).take (j+1)=seT sd n fine zs os vs ko kv R L j:=by
 unfold seT;rw[<-List.map_take,List.take_range,Nat.min_eq_left (by omega)]
theorem yF3(h:zc1 n zs os vs ko kv fine R L=0):∀x∈L,(zD zd x).wf=true:=
 yA3 h (zP8 (P:=[]) h rfl (fun _ hi=>absurd hi (Nat.not_lt_zero _))) (zL9 h)
theorem yH0(h:sgB sd st n fine zs os vs ko kv R L=true):∃N:Nat,st=(N:Int)/\N<=60/\zc1 n zs os vs ko kv fine R L=0/\sgT sd st n fine zs os vs ko kv R L=seT sd n fine zs os vs ko kv R L N/\zc1 n zs os vs ko kv fine (sgR sd st n fine zs os vs ko kv R L) (sgL sd st n fine zs os vs ko kv R L)=0/\zo8 n zs os vs ko kv fine (sgR sd st n fine zs os vs ko kv R L) (sgL sd st n fine zs os vs ko kv R L)=seC sd n fine zs os vs ko kv R L N/\sgB sd ((N / 2:Nat):Int) n fine zs os vs ko kv R L=true/\sgT sd ((N / 2:Nat):Int) n fine zs os vs ko kv R L=seT sd n fine zs os vs ko kv R L (N / 2):=by
 have hB:=h;unfold sgB at hB;simp only[zY,qh]at hB;obtain⟨h1,h2,h3⟩:=hB;have Md:=zc8 h2;obtain⟨N,hN⟩:=xp Md.1;have h9:=(z40 h1 h3 N).1;have hb:sgB sd ((N / 2:Nat):Int) n fine zs os vs ko kv R L=true:=by
  unfold sgB;rw[h1,h3,zf0 (show(0:Int)<=((N / 2:Nat):Int)/\((N / 2:Nat):Int)<=60 by omega)];rfl
 have e1:sgT sd ((N / 2:Nat):Int) n fine zs os vs ko kv R L=seT sd n fine zs os vs ko kv R L (N / 2):=by
  unfold sgT;rw[hb,jk,yu]
 subst hN;have e2:sgR sd (N:Int) n fine zs os vs ko kv R L=(seP sd n fine zs os vs ko kv R L N).1.1/\sgL sd (N:Int) n fine zs os vs ko kv R L=(seP sd n fine zs os vs ko kv R L N).1.2/\sgT sd (N:Int) n fine zs os vs ko kv R L=seT sd n fine zs os vs ko kv R L N:=by
  unfold sgR sgL sgT;rw[h,jk,jk,jk,yu];exact⟨rfl,rfl,rfl⟩
 refine⟨N,rfl,by omega,h1,e2.2.2,?_,?_,hb,e1⟩
 ·rw[e2.1,e2.2.1];exact h9
 ·rw[e2.1,e2.2.1];rfl
end
structure DF(w W:zi)(cs:Array Value):Prop where
 b:Za w.heap.size w W
 c:W.heap[w.heap.size]? =some (.cells cs 30 (0,0))
theorem DF.below{w W W':zi}{cs:Array Value}(h:DF w W cs)(hb:Za W.heap.size W W'):DF w W' cs:=
 ⟨h.b.trans (hb.mono h.b.size),za0 hb (za2 h.c) h.c⟩
def zv5(W:zi)(kb cb:Nat)(kk:Int)(cs:Array Value):Prop:=W.cell? ⟨kb,0,none⟩=some (ze zd kk)/\W.heap[cb]? =some (.cells cs 30 (0,0))
theorem zv5.below{W W':zi}{kb cb:Nat}{kk:Int}{cs:Array Value}(h:zv5 W kb cb kk cs)(hb:Za W.heap.size W W'):zv5 W' kb cb kk cs:=
 ⟨(hb.cell (p:=⟨kb,0,none⟩) (zV h.1)).trans h.1,za0 hb (za2 h.2) h.2⟩
def zm4(W:zi)(b m g:Nat)(cs:Array Value):Prop:=(b<=g/\g<m)/\∀j,j<3->∃kb cb:Nat,(b<=kb/\kb<m/\b<=cb/\cb<m)/\W.cell? ⟨g,j,none⟩=some (.func (.func 112) #[] #[.pointer (some ⟨kb,0,none⟩),.pointer (some ⟨cb,0,none⟩)])/\zv5 W kb cb (1+(j:Int)) cs
theorem zm4.below{W W':zi}{b m g:Nat}{cs:Array Value}(h:zm4 W b m g cs)(hb:Za W.heap.size W W'):zm4 W' b m g cs:=⟨h.1,fun j hj=>by
 obtain⟨kb,cb,h0,h1,h2⟩:=h.2 j hj;exact⟨kb,cb,h0,(hb.cell (p:=⟨g,j,none⟩) (zV h1)).trans h1,h2.below hb⟩⟩
theorem zm4.set{W:zi}{b m g k i:Nat}{v:Value}{cs:Array Value}(h:zm4 W b m g cs)(hk:k<b∨m<=k):zm4 (W.setCell ⟨k,i,none⟩ v) b m g cs:=⟨h.1,fun j hj=>by
 obtain⟨kb,cb,h0,h1,h2,h3⟩:=h.2 j hj;have hg:=h.1;exact⟨kb,cb,h0,z33 h1 (by omega),z33 h2 (by omega),za8 h3 (by omega)⟩⟩
theorem zm4.grown{W W':zi}{b m g:Nat}{row:Option Nat}{cs:Array Value}(h:zm4 W b m g cs)(hg:W.grownBy W' row)(hr:∀z,row=some z->m<=z):zm4 W' b m g cs:=⟨h.1,fun j hj=>by
 obtain⟨kb,cb,h0,h1,h2,h3⟩:=h.2 j hj;have rP:=h.1;have hc:∀(k i:Nat) (v:Value),k<m->W.cell? ⟨k,i,none⟩=some v->W'.cell? ⟨k,i,none⟩=some v:=fun k i v hk hv=>by
  have h9:=hg.block k (zV hv) (fun e=>by have:=hr k e.symm;omega);unfold zC at hv⊢;simp only at hv⊢;rw[h9];exact hv
 exact⟨kb,cb,h0,hc _ _ _ rP.2 h1,hc _ _ _ h0.2.1 h2,(hg.block cb (za2 h3) (fun e=>by have:=hr cb e.symm;omega)).trans h3⟩⟩
theorem zC1(n fine:Int)(a ao av:Option Zd)(zl ac ko co kv cv:Nat)(w:zi):
 Zc zh 34 #[.agg #[ze zd n,za a zl ac,za ao ko co,za av kv cv,ze zd fine]] w fun e w'=>∃g:Nat,e=.returned (za (some ⟨g,0,none⟩) 3 3)/\Za w.heap.size w w'/\zm4 w' w.heap.size w'.heap.size g #[ze zd n,za a zl ac,za ao ko co,za av kv cv,ze zd fine]:=by
 have Q0:Zb (DF w (w.alloc (zg #[ze zd n,za a zl ac,za ao ko co,za av kv cv,ze zd fine] 30)) #[ze zd n,za a zl ac,za ao ko co,za av kv cv,ze zd fine]):=⟨zP _,zS _ _⟩;go_enter Tryz.func34,Tryz.ntmps34;go_upto_region 1 with fail;generalize w.alloc _=w1 at*;refine qG (S:=(fun W=>W.cell? ⟨w.heap.size,0,none⟩=some (ze zd n)/\W.cell? ⟨w.heap.size,1,none⟩=some (za a zl ac)/\W.cell? ⟨w.heap.size,2,none⟩=some (za ao ko co)/\W.cell? ⟨w.heap.size,3,none⟩=some (za av kv cv)/\W.cell? ⟨w.heap.size,4,none⟩=some (ze zd fine))) (by kernel_rfl) ?_ fun aa=> ?_
 ·exact za7 (Q0.X.below (y5 _ _).drew).c
 have kH:=za4 (Q0.X.below (y5 _ _).drew);generalize w1.drew=wd at*;refine tkH 0 aa ?_;refine tkH 2 aa ?_;refine tkH 4 aa ?_;refine rdH 1 fun K hK=> ?_;go_simp;refine(zu1 n fine 1 a ao av zl ac ko co kv cv wd).mono ?_;rintro e w2 ⟨re,mB,dF,rfl,hb,hk,hc⟩;have N1:Zb (w.heap.size<=re/\w.heap.size<=mB):=⟨xj kH.X.b.size dF.1,xj kH.X.b.size dF.2⟩;have G1:=za4 (kH.X.below hb);have FM:Zb (zv5 w2 re mB 1 #[ze zd n,za a zl ac,za ao ko co,za av kv cv,ze zd fine]):=⟨hk,hc⟩;clear hb hk hc dF
 (try go_wp2_with fail)
 refine hoW hK (za7 G1.X.c) fun aa=> ?_;clear hK K;refine rdH 3 fun K hK=> ?_;go_simp;refine(zu1 n fine 2 a ao av zl ac ko co kv cv w2).mono ?_;rintro e w3 ⟨rA,rN,dF,rfl,hb,hk,hc⟩;have N2:Zb (w.heap.size<=rA/\w.heap.size<=rN):=⟨xj G1.X.b.size dF.1,xj G1.X.b.size dF.2⟩;have G2:=za4 (G1.X.below hb);have Hw:Zb (zv5 w3 rA rN 2 #[ze zd n,za a zl ac,za ao ko co,za av kv cv,ze zd fine]):=⟨hk,hc⟩;have EA:=za4 (FM.X.below hb);clear hb hk hc dF
 (try go_wp2_with fail)
 refine hoW hK (za7 G2.X.c) fun aa=> ?_;clear hK K;refine rdH 5 fun K hK=> ?_;go_simp;refine(zu1 n fine 3 a ao av zl ac ko co kv cv w3).mono ?_;rintro e w4 ⟨rW,rH,dF,rfl,hb,hk,hc⟩;have N3:Zb (w.heap.size<=rW/\w.heap.size<=rH):=⟨xj G2.X.b.size dF.1,xj G2.X.b.size dF.2⟩;have G3:=za4 (G2.X.below hb);have sM:Zb (zv5 w4 rW rH 3 #[ze zd n,za a zl ac,za ao ko co,za av kv cv,ze zd fine]):=⟨hk,hc⟩;have sb:=za4 (EA.X.below hb);have ux:=za4 (Hw.X.below hb);clear hb hk hc dF
 (try go_wp2_with fail)
 refine hoW hK (za7 G3.X.c) fun aa=> ?_;clear hK K;refine rdH 6 fun K hK=> ?_;have G4:Zb (DF w (w4.alloc (zg #[(.func (.func 112) #[] #[.pointer (some ⟨re,0,none⟩),.pointer (some ⟨mB,0,none⟩)]),(.func (.func 112) #[] #[.pointer (some ⟨rA,0,none⟩),.pointer (some ⟨rN,0,none⟩)]),(.func (.func 112) #[] #[.pointer (some ⟨rW,0,none⟩),.pointer (some ⟨rH,0,none⟩)])] 72)) #[ze zd n,za a zl ac,za ao ko co,za av kv cv,ze zd fine]):=G3.X.below ((y5 w4.heap.size w4).alloc (zT _) _);have A4:Zb (zm4 (w4.alloc (zg #[(.func (.func 112) #[] #[.pointer (some ⟨re,0,none⟩),.pointer (some ⟨mB,0,none⟩)]),(.func (.func 112) #[] #[.pointer (some ⟨rA,0,none⟩),.pointer (some ⟨rN,0,none⟩)]),(.func (.func 112) #[] #[.pointer (some ⟨rW,0,none⟩),.pointer (some ⟨rH,0,none⟩)])] 72)) w.heap.size (w4.alloc (zg #[(.func (.func 112) #[] #[.pointer (some ⟨re,0,none⟩),.pointer (some ⟨mB,0,none⟩)]),(.func (.func 112) #[] #[.pointer (some ⟨rA,0,none⟩),.pointer (some ⟨rN,0,none⟩)]),(.func (.func 112) #[] #[.pointer (some ⟨rW,0,none⟩),.pointer (some ⟨rH,0,none⟩)])] 72)).heap.size w4.heap.size #[ze zd n,za a zl ac,za ao ko co,za av kv cv,ze zd fine]):=by
  have hr:=zS w4 (zg #[(.func (.func 112) #[] #[.pointer (some ⟨re,0,none⟩),.pointer (some ⟨mB,0,none⟩)]),(.func (.func 112) #[] #[.pointer (some ⟨rA,0,none⟩),.pointer (some ⟨rN,0,none⟩)]),(.func (.func 112) #[] #[.pointer (some ⟨rW,0,none⟩),.pointer (some ⟨rH,0,none⟩)])] 72);have bW:(w4.alloc (zg #[(.func (.func 112) #[] #[.pointer (some ⟨re,0,none⟩),.pointer (some ⟨mB,0,none⟩)]),(.func (.func 112) #[] #[.pointer (some ⟨rA,0,none⟩),.pointer (some ⟨rN,0,none⟩)]),(.func (.func 112) #[] #[.pointer (some ⟨rW,0,none⟩),.pointer (some ⟨rH,0,none⟩)])] 72)).heap.size=w4.heap.size+1:=by simp
  have hw:=G3.X.b.size;refine⟨⟨hw,by omega⟩,fun j hj=> ?_⟩;rcases j with _|_|_|j
  ·exact⟨re,mB,⟨N1.X.1,by have:=zV sb.X.1;simp only at this;omega,N1.X.2,by have:=za2 sb.X.2;omega⟩,zU _ _ _ _ _ _ hr,sb.X.below ((y5 w4.heap.size w4).alloc (zT _) _)⟩
  ·exact⟨rA,rN,⟨N2.X.1,by have:=zV ux.X.1;simp only at this;omega,N2.X.2,by have:=za2 ux.X.2;omega⟩,zU _ _ _ _ _ _ hr,ux.X.below ((y5 w4.heap.size w4).alloc (zT _) _)⟩
  ·exact⟨rW,rH,⟨N3.X.1,by have:=zV sM.X.1;simp only at this;omega,N3.X.2,by have:=za2 sM.X.2;omega⟩,zU _ _ _ _ _ _ hr,sM.X.below ((y5 w4.heap.size w4).alloc (zT _) _)⟩
  ·omega
 go_simp;refine hoW hK (za7 G4.X.c) fun aa=> ?_;clear hK K;generalize(w4.alloc _)=w5 at*;refine tkH 7 aa ?_;refine qF (by kernel_rfl) ?_ _;clear aa
 (try go_wp2_with fail)
 refine xe (v:=za (some ⟨w4.heap.size,0,none⟩) 3 3) (by simp[results,Tryz.results34,go_sem]) rfl ?_;exact⟨_,rfl,G4.X.b,A4.X⟩
def yI6(w:zi)(v:Int)(f:Bool)(T:List RT)(L:List Int)(e:Ending)(w':zi):Prop:=∃(ag:Option Zd) (n2 ai:Nat) (ak:Option Zd) (l2 aj:Nat) (R2:List RT),e=.returned (.tuple #[.agg #[za ag n2 ai,za ak l2 aj],ze zd v,.bool f])/\Za w.heap.size w w'/\za9 w' ag R2/\R2.length=n2/\za3 w' ak L/\L.length=l2/\R2.map RT.key=T.map RT.key/\((ak=none/\L.length=0)∨∃b off,ak=some ⟨b,off,none⟩)
def zT0(w:zi)(K:Nat->Prop)(v:Int)(f:Bool)(T:List RT)(L:List Int)(e:Ending)(w':zi):Prop:=∃(ag:Option Zd) (n2 ai:Nat) (ak:Option Zd) (l2 aj:Nat) (R2:List RT),e=.returned (.tuple #[.agg #[za ag n2 ai,za ak l2 aj],ze zd v,.bool f])/\Za w.heap.size w w'/\R2.map RT.key=T.map RT.key/\zc3 w' ag ak n2 l2 R2 L/\∀k,k<w.heap.size->K k->zi8 k ag ak R2 L
theorem zT0.is{w w':zi}{K:Nat->Prop}{v:Int}{f:Bool}{T:List RT}{L:List Int}{e:Ending}(h:zT0 w K v f T L e w'):yI6 w v f T L e w':=by
 obtain⟨ag,n2,ai,ak,l2,aj,R2,h1,h2,h3,h4,_⟩:=h;exact⟨ag,n2,ai,ak,l2,aj,R2,h1,h2,h4.2.2.1,h4.1,h4.2.2.2.1,h4.2.1,h3,h4.2.2.2.2.2.1.imp (fun h=>⟨h.1,h4.2.1.trans h.2⟩) id⟩
structure RQ(w W:zi)(cs ps ss:Array Value):Prop where
 b:Za w.heap.size w W
 c:W.heap[w.heap.size]? =some (.cells cs 30 (0,0))
 p:W.heap[w.heap.size+1]? =some (.cells ps 33 (0,0))
 s:W.heap[w.heap.size+2]? =some (.cells ss 129 (0,0))
 o:W.heap[w.heap.size+3]? =some (zg #[za none 0 0,za none 0 0] 33 (0,0))
theorem RQ.below{w W W':zi}{cs ps ss:Array Value}(h:RQ w W cs ps ss)(hb:Za W.heap.size W W'):RQ w W' cs ps ss:=
 ⟨h.b.trans (hb.mono h.b.size),za0 hb (za2 h.c) h.c,za0 hb (za2 h.p) h.p,za0 hb (za2 h.s) h.s,za0 hb (za2 h.o) h.o⟩
theorem RQ.size{w W:zi}{cs ps ss:Array Value}(h:RQ w W cs ps ss):w.heap.size+4<=W.heap.size:=za2 h.o
theorem RQ.set{w W:zi}{cs ps ss:Array Value}(h:RQ w W cs ps ss){k i:Nat}{v:Value}(hk:w.heap.size+4<=k):RQ w (W.setCell ⟨k,i,none⟩ v) cs ps ss:=
 ⟨h.b.setCell (by simp;omega) _,za8 h.c (by omega),za8 h.p (by omega),za8 h.s (by omega),za8 h.o (by omega)⟩
theorem RQ.new(w:zi)(cs ps ss:Array Value):RQ w ((((w.alloc (.cells cs 30)).alloc (.cells ps 33)).alloc (.cells ss 129)).alloc (zg #[za none 0 0,za none 0 0] 33)) cs ps ss:=by
 refine⟨(((zP _).alloc (by simp) _).alloc (by simp<;>omega) _).alloc (by simp<;>omega) _,?_,?_,?_,?_⟩
 ·exact(xg _ _ (by simp<;>omega)).trans ((xg _ _ (by simp<;>omega)).trans (xm _ _ _))
 ·exact(xg _ _ (by simp<;>omega)).trans ((xg _ _ (by simp)).trans (xh _ _ _))
 ·refine(xg _ _ (by simp)).trans ?_
  have:=zS ((w.alloc (.cells cs 30)).alloc (.cells ps 33)) (.cells ss 129);simpa using this
 ·have:=zS (((w.alloc (.cells cs 30)).alloc (.cells ps 33)).alloc (.cells ss 129)) (zg #[za none 0 0,za none 0 0] 33)
  simpa using this
theorem zq2{w:zi}{k:Nat}{c0 c1 c2:Value}{T:TypeId}(r:w.heap[k]? =some (zg #[c0,c1,c2] T (0,0))):w.cell? ⟨k,0,none⟩=some c0/\w.cell? ⟨k,1,none⟩=some c1/\w.cell? ⟨k,2,none⟩=some c2:=by
 refine⟨?_,?_,?_⟩<;>simp[zC,r]
theorem yh3(tv:Int)(xa:Option Zd)(xl xc:Nat)(W:zi):(Instr.field 80 (.agg #[ze zd tv,za xa xl xc]) 1).run zh W=.ok (za xa xl xc) W:=by
 simp[Instr.field,xI Tryz.underlying80,part,asAgg,Tryz.isAgg24]
theorem yJ7{W W':zi}{ra sa:Option Zd}{n c:Nat}{R:List RT}{r:RT}(h:za9 W ra R)(hb:Za W.heap.size W W')(hr:za3 W' r.a r.ids){base:Nat}(ho:W'.ownsRow base 80 2 (za sa n c) n (zj5 (wrL R r))):za9 W' sa (wrL R r):=zl9 ho (fun s hs=>by
 rcases zy0 hs with hs|rfl
 ·obtain⟨j,hj,rfl⟩:=zo3 hs
  obtain⟨_,_,_,_,_,h3⟩:=h j hj;exact h3.below hb
 ·exact hr)
theorem yA5(R:List RT)(r:RT):(wrL R r).length<=2*R.length+1:=by
 unfold wrL;have h1:=yp (fun x:RT=>decide (x.v<r.v)) R;have h2:=yp (fun x:RT=>decide (r.v<x.v)) R;simp only[xS];split<;>simp<;>omega
theorem zW8(id tv pl n fine:Int)(a ao av ra la:Option Zd)(zl ac ko co kv cv nr rc ln lc:Nat)(zs os vs L:List Int)(R:List RT)(w:zi)(hA:za3 w a zs)(hO:za3 w ao os)(hV:za3 w av vs)(aN:zs.length=zl)(an:os.length=ko*6)(au:vs.length=kv*5)(aA:ko<=9223372036854775807)(aB:kv<=9223372036854775807)(hP:zc3 w ra la nr ln R L)(aT:zc1 n zs os vs ko kv fine R L=0):
 Zc zh 122 #[.agg #[ze zd n,za a zl ac,za ao ko co,za av kv cv,ze zd fine],.agg #[za ra nr rc,za la ln lc],.agg #[ze zd id,ze zd tv,ze zd pl]] w (zT0 w (fun k=>zi8 k ra la R L) (rqD id tv pl n fine zs os vs ko kv R L) (rqB id tv pl n fine zs os vs ko kv R L) (rqR id tv pl n fine zs os vs ko kv R L) (rqL id tv pl n fine zs os vs ko kv R L)):=by
 obtain⟨hc,hr,ir,mv,aZ⟩:=zb7 aT;obtain⟨hp,aP⟩:=zh3.1 hr;have fV:=ze6 aT;have cU:Zb _:=hc;have pr:Zb _:=hp;have mq:Zb (∀r∈R,r.ids≠[]):=fun r hr=>(aP r hr).1;have kA:Zb ((zb0 R R.length).Nodup):=ir.1;have gi:Zb (zw3 R):=fun r hr=>⟨(aP r hr).1,zk2 (aP r hr).2,hP.2.2.2.2.2.2 r hr⟩;have bm:Zb _:=aT;have HA:=za4 hA;have HO:=za4 hO;have HV:=za4 hV;have ck:Zb _:=aN;have aF:Zb _:=an;have aE:Zb _:=au;have HP:=za4 hP;have HN:Zb _:=hP.1;have HM:Zb _:=hP.2.1;have lM:=fV.1;have bA:Zb (rqB id tv pl n fine zs os vs ko kv R L=false->rqD id tv pl n fine zs os vs ko kv R L=0/\rqB id tv pl n fine zs os vs ko kv R L=false/\rqR id tv pl n fine zs os vs ko kv R L=[]/\rqL id tv pl n fine zs os vs ko kv R L=[]):=fun h=>by
  unfold rqD rqR rqL;rw[h];exact⟨rfl,rfl,rfl,rfl⟩
 have gL:Zb (rqB id tv pl n fine zs os vs ko kv R L=true->rqD id tv pl n fine zs os vs ko kv R L=zi3 n zs os vs ko kv (rlN R id tv pl.toNat) (fine*L.length) (rlN R id tv pl.toNat).length - zi3 n zs os vs ko kv R (fine*L.length) R.length/\rqR id tv pl n fine zs os vs ko kv R L=rlN R id tv pl.toNat/\rqL id tv pl n fine zs os vs ko kv R L=L):=fun h=>by
  unfold rqD rqR rqL;rw[h];exact⟨rfl,rfl,rfl⟩
 have dZ:Zb (rqB id tv pl n fine zs os vs ko kv R L=(decide (id∈zb0 R R.length)&&(inB pl 0 ((zc7 (lvR R id) tv).ids.length:Int)&&decide (zc1 n zs os vs ko kv fine (rlN R id tv pl.toNat) L=0)))):=by
  show _=_;unfold rqB;rw[zW bm.X,ji]
 obtain⟨GD,iE⟩:=nmd (rqD id tv pl n fine zs os vs ko kv R L);obtain⟨GB,dK⟩:=nmd (rqB id tv pl n fine zs os vs ko kv R L);obtain⟨GR,cB⟩:=nmd (rqR id tv pl n fine zs os vs ko kv R L);obtain⟨GL,da⟩:=nmd (rqL id tv pl n fine zs os vs ko kv R L);rw[iE.X,dK.X,cB.X,da.X]at bA;rw[iE.X,dK.X,cB.X,da.X]at gL;rw[dK.X]at dZ;rw[iE.X,dK.X,cB.X,da.X];clear hA hO hV aN an au hP aT hc hr ir mv aZ hp aP fV iE dK cB da;have Q0:Zb (RQ w ((((w.alloc (zg #[ze zd n,za a zl ac,za ao ko co,za av kv cv,ze zd fine] 30)).alloc (zg #[za ra nr rc,za la ln lc] 33)).alloc (zg #[ze zd id,ze zd tv,ze zd pl] 129)).alloc (zg #[za none 0 0,za none 0 0] 33)) #[ze zd n,za a zl ac,za ao ko co,za av kv cv,ze zd fine] #[za ra nr rc,za la ln lc] #[ze zd id,ze zd tv,ze zd pl]):=RQ.new _ _ _ _;have SO:=zM3 ra la rc ln lc R id ((((w.alloc (zg #[ze zd n,za a zl ac,za ao ko co,za av kv cv,ze zd fine] 30)).alloc (zg #[za ra nr rc,za la ln lc] 33)).alloc (zg #[ze zd id,ze zd tv,ze zd pl] 129)).alloc (zg #[za none 0 0,za none 0 0] 33)) (HP.2.2.1.below Q0.b) (by omega) (fun j hj=>by have:=(gi.X _ (zh7 hj)).2.1;omega);rw[HN.X]at SO;obtain⟨p0,p1⟩:=za1 Q0.p;obtain⟨s0,s1,s2⟩:=zq2 Q0.s;go_enter Tryz.func122,Tryz.ntmps122
 go_wp2_with fail
 generalize(((w.alloc _).alloc _).alloc _).alloc _=W0 at*;refine SO.mono ?_;rintro e w1 ⟨bB,hb⟩;have Q1:Zb _:=Q0.below hb;clear hb SO p0 p1 s0 s1 s2 Q0;rcases bB with⟨k,hk,a_,hix,rfl⟩|⟨a_,rfl⟩;rotate_left
 ·have Ow:id∉zb0 R R.length:=fun hm=>by
   rw[zb8]at hm;obtain⟨r,hr,pz⟩:=jh.1 hm;obtain⟨j,hj,e⟩:=zo3 hr;obtain⟨i,hi,ei⟩:=zt5 (show id∈(R.getD j rt0).ids by rw[e];exact pz);have:=a_ j hj;have h9:zC0 (R.getD j rt0).ids (R.getD j rt0).ids.length id=i:=zP5 hi ei (fun q hq e9=>zt4 (zt0 hj kA.X) hq hi (by rw[e9,ei]));omega
  clear a_;have QA:Zb (RQ w (w1.alloc (zg #[ze zd 0,za none 0 0] 80)) #[ze zd n,za a zl ac,za ao ko co,za av kv cv,ze zd fine] #[za ra nr rc,za la ln lc] #[ze zd id,ze zd tv,ze zd pl]):=Q1.below (zP _);obtain⟨g1,g2,g3,g4⟩:=bA.X (by rw[dZ.X,zX Ow,jj]);subst g1 g2 g3 g4;obtain⟨a0,a1⟩:=za1 QA.o;have af:=fun i=>yZ _ _ i _ _ QA.o;have B5:=QA.b;clear bA;go_wp2;refine xe (v:=.tuple #[.agg #[za none 0 0,za none 0 0],ze zd 0,.bool false]) (by simp[results,Tryz.results122,go_sem,a0,a1]) rfl ?_;show zT0 _ _ _ _ _ _ _ _;exact⟨none,0,0,none,0,0,[],rfl,(B5.setCell (by simp<;>omega) _).setCell (by simp<;>omega) _,rfl,⟨rfl,rfl,(fun j hj=>by simp at hj),(fun j hj=>by simp at hj),.inl ⟨rfl,rfl⟩,.inl ⟨rfl,rfl⟩,(fun r hr=>by cases hr)⟩,fun _ _ _=>⟨fun h=>absurd rfl h,fun h=>absurd rfl h,fun r hr=>by cases hr⟩⟩
 ·have hm:id∈(R.getD k rt0).ids:=by
   refine Decidable.byContradiction fun h9=> ?_;have:=zE5 (zs:=(R.getD k rt0).ids) (m:=(R.getD k rt0).ids.length) (id:=id) (fun j hj e9=>h9 (by rw[<-e9];exact zx3 _ _ hj));omega
  have J1:Zb _:=hm;obtain⟨at_,ha,ea⟩:=zt5 hm;have uN:=zt0 hk kA.X;have hx:zC0 (R.getD k rt0).ids (R.getD k rt0).ids.length id=at_:=zP5 ha ea (fun j hj e9=>zt4 uN hj ha (by rw[e9,ea]));rw[hx];have jt:id∈zb0 R R.length:=by rw[zb8];exact jh.2 ⟨_,zh7 hk,hm⟩
  rw[zW jt,ji]at dZ;have wE:=fun(R2:List RT) (h9:R2.map RT.key=(rlN R id tv pl.toNat).map RT.key)=>y17 bm.X hk hm tv pl.toNat h9;have fS:=zV7 bm.X hk hm tv pl.toNat;have J5:=fun(a9:Option Zd) (c9:Nat)=>zN9 (ze9 pr.X) hk mq.X kA.X ha ea a9 c9;obtain⟨b0,o0,er,-⟩:=(HP.2.2.1 k hk).choose_spec.choose_spec.2.2.2 at_ ha;have vE:Zb (∀W,Za w.heap.size w W->za3 W (some ⟨b0,o0,none⟩) (R.getD k rt0).ids):=fun W hW=>by
   obtain⟨_,_,_,_,_,h3⟩:=(HP.2.2.1.below hW) k hk;rw[er]at h3;exact h3
  have bJ:=(gi.X _ (zh7 hk)).2.1;rw[er];have uJ:Zb _:=wE;have oZ:Zb _:=fS;have pO:Zb _:=J5;clear a_ hix hx jt wE fS J5 hm uN ea er;obtain⟨y,HY⟩:=nmd (R.getD k rt0);rw[HY.X]at ha uJ pO vE bJ J1⊢;obtain⟨v0,ya,nH,c0⟩:=y;simp only at ha uJ pO vE bJ J1⊢;obtain⟨l0,mt⟩:=nmd nH.length;rw[mt.X]at ha bJ⊢;have Lc:inB (at_:Int) 0 ((l0:Int) - 1)=true:=zf0 (by omega);clear HY;have Ku:Za w1.heap.size w1 (w1.alloc (zg #[ze zd v0,za (some ⟨b0,o0,none⟩) l0 c0] 80)):=zP _;have Q2:Zb _:=Q1.below Ku;have F2:=za4 (zS w1 (zg #[ze zd v0,za (some ⟨b0,o0,none⟩) l0 c0] 80));have NJ:Zb _:=Q1.size;clear Ku Q1
  go_wp2_with fail
  generalize w1.alloc _=W2 at*;obtain⟨kf,o7⟩:=nmd w1.heap.size;rw[o7.X]at F2 NJ⊢;refine qG (S:=(fun W=>W.cell? ⟨kf,0,none⟩=some (ze zd v0)/\W.cell? ⟨kf,1,none⟩=some (za (some ⟨b0,o0,none⟩) l0 c0))) (by kernel_rfl) ?_ fun aa=> ?_
  ·exact za1 (za0 (y5 _ _).drew (za2 F2.X) F2.X)
  have QD:Zb _:=Q2.below (y5 _ _).drew;have FD:Zb _:=za0 (y5 _ _).drew (za2 F2.X) F2.X;generalize W2.drew=wd at*;refine tkH 0 aa ?_;refine tkH 2 aa ?_;refine tkH 3 aa ?_;refine rdH 1 fun K hK=> ?_;go_simp;refine(z50 (at_:Int) wd).mono ?_;rintro e w3 ⟨pp,-,rfl,hb,cP⟩;have Q3:Zb _:=QD.below hb;have F3:Zb _:=za0 hb (za2 FD.X) FD.X;have P3:Zb _:=cP;clear hb cP
  (try go_wp2_with fail)
  refine hoW hK (za1 F3.X) fun aa=> ?_;clear hK K;refine rdH 4 fun K hK=> ?_;go_simp;have TO:=zG7 pp (at_:Int) (some ⟨b0,o0,none⟩) c0 nH w3 P3.X (vE.X w3 Q3.b) (by rw[mt.X];exact bJ);rw[mt.X,Lc]at TO;refine TO.mono ?_;rintro e w4 ⟨hb,⟨h9,_⟩|⟨_,g1,c1,rfl,ho⟩⟩
  ·cases h9
  have Q4:Zb _:=Q3.below hb;have F4:Zb _:=za0 hb (za2 F3.X) F3.X;have I4:Zb (za3 w4 (some ⟨g1,0,none⟩) (zl2 nH at_)):=ze8 ho;have jJ:(zl2 nH at_).length<=c1:=zy6 ho;have Po:Zb (w.heap.size<=g1):=by have h8:=z91 ho g1 0 rfl;have h7:=Q3.size;show _<=_;omega
  clear hb ho TO P3
  (try go_wp2_with fail)
  refine hoW hK (za1 F4.X) fun aa=> ?_;clear hK K;refine tkH 5 aa ?_;refine tkH 6 aa ?_;refine tkH 7 aa ?_;refine tkH 8 aa ?_;refine tkH 9 aa ?_;refine qF (by kernel_rfl) ?_ _;clear aa;obtain⟨M1,tK⟩:=nmd (zl2 nH at_);have oW:=pO.X (some ⟨g1,0,none⟩) c1;rw[tK.X]at I4 jJ oW
  try simp only[yu]
  try rw[tK.X]
  have Al:M1.length<=12:=by rw[<-tK.X];unfold zl2;simp;have:=mt.X;omega
  obtain⟨R1,jF⟩:=nmd (wrL R ⟨v0,some ⟨g1,0,none⟩,M1,c1⟩);rw[jF.X]at oW;have tT:Zb (R1.Pairwise (fun a b=>a.v<b.v)):=by rw[<-jF.X];exact zK9 pr.X
  have kj:Zb (zw3 R1):=fun r hr=>by
   rw[<-jF.X]at hr;rcases zy1.1 hr with⟨Cx,_⟩|⟨e9,h_⟩
   ·exact gi.X r Cx
   ·rw[e9];exact⟨h_,Al,jJ⟩
  have O_:Zb (∀k,k<w.heap.size->(∀r∈R,r.ids≠[]->∀b off,r.a=some ⟨b,off,none⟩->b≠k)->∀r∈R1,r.ids≠[]->∀b off,r.a=some ⟨b,off,none⟩->b≠k):=fun k hk h0 r hr=>by
   rw[<-jF.X]at hr;rcases zy0 hr with hr|rfl
   ·exact h0 r hr
   ·intro _ b off e
    injection e with e
    injection e with e
    have:=Po.X;omega
  have AM:R1.length<=25:=by rw[<-jF.X];have:=yA5 R ⟨v0,some ⟨g1,0,none⟩,M1,c1⟩;omega
  have df:Zb _:=oW;have Cv:=zp3 ra la rc ln lc R ⟨v0,some ⟨g1,0,none⟩,M1,c1⟩ w4 (HP.2.2.1.below Q4.b) (by omega) (ze9 pr.X) (by rw[HN.X];exact HP.2.2.2.2.1) (by simp only;omega);rw[HN.X,jF.X]at Cv;clear oW pO;obtain⟨p0,p1⟩:=za1 Q4.p;obtain⟨f0,f1⟩:=za1 F4.X;obtain⟨m1,sp⟩:=nmd M1.length;simp only[sp.X]at Cv;rw[sp.X]at Al jJ
  try rw[sp.X]
  go_wp2_with fail
  refine Cv.mono ?_;rintro e w5 ⟨sl,rfl,hb,ho⟩;obtain⟨mr,mL⟩:=nmd R1.length;rw[mL.X]at ho AM;obtain⟨rb,mc,bh⟩:=zg7 ho;subst bh;have Iz:za9 w5 rb R1:=by
   have h9:=yJ7 (HP.2.2.1.below Q4.b) hb (r:=⟨v0,some ⟨g1,0,none⟩,M1,c1⟩) (I4.below hb) (sa:=rb) (n:=mr) (c:=mc) (base:=w4.heap.size) (by rw[jF.X];exact ho);rw[jF.X]at h9;exact h9
  have u4:Zb ((rb=none/\R1.length=0)∨∃b off,rb=some ⟨b,off,none⟩):=by
   rcases own_kinds ho with⟨h1,h2⟩|⟨g9,c9,h1,_⟩
   ·injection h1 with h1 _ _
    exact .inl ⟨h1,by rw[mL.X];exact h2⟩
   ·injection h1 with h1 _ _
    exact .inr ⟨g9,0,h1⟩
  have EJ:Za w5.heap.size w5 (w5.alloc (zg #[za rb mr mc,za la ln lc] 33)):=zP _;have iy:=hb.trans (EJ.mono hb.size);have Q6:Zb _:=Q4.below iy;have F6:Zb _:=za0 iy (za2 F4.X) F4.X;have N6:=za4 (zS w5 (zg #[za rb mr mc,za la ln lc] 33));have JE:=za4 (Iz.below EJ);have gN:Zb (w.heap.size+4<=w5.heap.size/\w5.heap.size≠kf):=⟨(Q4.below hb).size,by have:=za2 (za0 hb (za2 F4.X) F4.X);omega⟩;clear hb ho Cv Iz EJ iy Q4 F4 I4 p0 p1 f0 f1
  go_wp2_with fail
  generalize w5.alloc _=W6 at*;obtain⟨kn,Ir⟩:=nmd w5.heap.size;rw[Ir.X]at N6 gN⊢;have rZ:Zb _:=zo2 df.X tv;rw[<-rZ.X]at dZ;have kD:(zc7 R1 tv).ids.length<=12:=by
   rcases zv0 R1 tv with h9|h9
   ·exact(kj.X _ h9).2.1
   ·rw[h9];simp
  have iO:Zb (∀W,za9 W rb R1->Zc zh 153 #[.agg #[za rb mr mc,za la ln lc],ze zd tv] W fun e w'=>e=.returned (.agg #[ze zd tv,.slice (zc7 R1 tv).a (zc7 R1 tv).ids.length (zc7 R1 tv).c])/\Za W.heap.size W w'):=fun W hW=>by
   have h9:=zn7 rb la mc ln lc R1 tv W hW (by rw[mL.X];omega) (ze9 tT.X);rw[mL.X]at h9;exact h9
  have rX:Zb (∀W,za9 W rb R1->za3 W (zc7 R1 tv).a (zc7 R1 tv).ids/\(((zc7 R1 tv).a=none/\(zc7 R1 tv).ids.length=0)∨∃b off,(zc7 R1 tv).a=some ⟨b,off,none⟩)):=fun W hW=>by
   obtain⟨h1,_,_,h4⟩:=z98 hW kj.X tv;exact⟨h1,h4⟩
  have r':Zb (∀(a9:Option Zd) (c9:Nat),(wrL R1 ⟨tv,a9,insL (zc7 R1 tv).ids pl.toNat id,c9⟩).map RT.key=(rlN R id tv pl.toNat).map RT.key):=fun a9 c9=>z83 df.X (by show(_,_)=(_,_);rw[rZ.X])
  obtain⟨X,HX⟩:=nmd ((zc7 R1 tv).ids);rw[HX.X]at dZ kD iO rX r';obtain⟨xa,uP⟩:=nmd ((zc7 R1 tv).a);obtain⟨xc,vu⟩:=nmd ((zc7 R1 tv).c);rw[uP.X]at iO rX;rw[vu.X]at iO;obtain⟨xl,aY⟩:=nmd X.length;rw[aY.X]at dZ kD iO;obtain⟨ib,pZ⟩:=nmd (inB pl 0 (xl:Int));rw[pZ.X]at dZ;have oU:Zb ((insL X pl.toNat id).length<=13):=by show _<=_;unfold insL;simp;have:=aY.X;omega
  have Mf:=yh3 tv xa xl xc;clear HX uP vu rZ;have va:Za W6.heap.size W6 W6.drew:=(y5 _ _).drew;refine qG (S:=(fun W=>W.cell? ⟨w.heap.size+2,0,none⟩=some (ze zd id)/\W.cell? ⟨w.heap.size+2,1,none⟩=some (ze zd tv)/\W.cell? ⟨w.heap.size+2,2,none⟩=some (ze zd pl)/\W.cell? ⟨kn,0,none⟩=some (za rb mr mc)/\W.cell? ⟨kn,1,none⟩=some (za la ln lc))) (by kernel_rfl) ?_ fun aa=> ?_
  ·exact(fun(h1:W6.drew.heap[w.heap.size+2]? =some (zg #[ze zd id,ze zd tv,ze zd pl] 129 (0,0))) (h2:W6.drew.heap[kn]? =some (zg #[za rb mr mc,za la ln lc] 33 (0,0)))=>xr (zq2 h1).1 (xr (zq2 h1).2.1 (xr (zq2 h1).2.2 (xr (za1 h2).1 (za1 h2).2)))) (za0 va (za2 Q6.s) Q6.s) (za0 va (za2 N6.X) N6.X)
  clear va;have Cl:Zb (∀W:zi,W.heap[w.heap.size+2]? =some (zg #[ze zd id,ze zd tv,ze zd pl] 129 (0,0))->W.heap[kn]? =some (zg #[za rb mr mc,za la ln lc] 33 (0,0))->(fun W=>W.cell? ⟨w.heap.size+2,0,none⟩=some (ze zd id)/\W.cell? ⟨w.heap.size+2,1,none⟩=some (ze zd tv)/\W.cell? ⟨w.heap.size+2,2,none⟩=some (ze zd pl)/\W.cell? ⟨kn,0,none⟩=some (za rb mr mc)/\W.cell? ⟨kn,1,none⟩=some (za la ln lc)) W):=fun W h1 h2=>by
   obtain⟨x0,x1,x2⟩:=zq2 h1;obtain⟨y0,y1⟩:=za1 h2;exact⟨x0,x1,x2,y0,y1⟩
  have CV:Zb _:=Q6.below (y5 _ _).drew;have Jd:Zb _:=za0 (y5 _ _).drew (za2 F6.X) F6.X;have Kv:Zb _:=za0 (y5 _ _).drew (za2 N6.X) N6.X;have On:Zb (za9 W6.drew rb R1):=JE.below (y5 _ _).drew;clear Q6 F6 N6 JE;generalize W6.drew=wd6 at*;refine tkH 0 aa ?_;refine tkH 1 aa ?_;refine tkH 2 aa ?_;refine tkH 3 aa ?_;refine tkH 5 aa ?_;refine tkH 6 aa ?_;refine tkH 7 aa ?_;refine rdH 4 fun K hK=> ?_;go_simp;refine(zh6 id pl wd6).mono ?_;rintro e w7 ⟨pp,qq,rfl,hb,cP,gM⟩;have Q7:Zb _:=CV.below hb;have F7:Zb _:=za0 hb (za2 Jd.X) Jd.X;have N7:Zb _:=za0 hb (za2 Kv.X) Kv.X;have Jh:=za4 (On.below hb);have Gu:Zb (w7.cell? ⟨pp,0,none⟩=some (ze zd pl)/\w7.cell? ⟨qq,0,none⟩=some (ze zd id)):=⟨cP,gM⟩;clear hb cP gM
  (try go_wp2_with fail)
  refine hoW hK (Cl.X _ Q7.s N7.X) fun aa=> ?_;clear hK K;refine rdH 8 fun K hK=> ?_;go_simp;refine(iO.X w7 Jh.X).mono ?_;rintro e w8 ⟨rfl,hb⟩;have Q8:Zb _:=Q7.below hb;have F8:Zb _:=za0 hb (za2 F7.X) F7.X;have N8:Zb _:=za0 hb (za2 N7.X) N7.X;have Ga:=za4 (Jh.below hb);have Hd:Zb (w8.cell? ⟨pp,0,none⟩=some (ze zd pl)/\w8.cell? ⟨qq,0,none⟩=some (ze zd id)):=⟨keepL Gu.1 hb,keepL Gu.2 hb⟩;clear hb
  (try go_wp2_with fail)
  refine hoW hK (Cl.X _ Q8.s N8.X) fun aa=> ?_;clear hK K;refine tkH 9 aa ?_;refine rdH 10 fun K hK=> ?_;go_simp;have PI:=zW3 pp qq pl id xa xc X w8 Hd.1 Hd.2 (rX.X w8 Ga.X).1 (by rw[aY.X];exact kD) (rX.X w8 Ga.X).2;rw[aY.X,pZ.X]at PI;cases ib
  ·refine PI.mono ?_
   rintro e w9 ⟨hb,⟨_,rfl⟩|⟨h9,_⟩⟩;rotate_left
   ·cases h9
   have Q9:Zb _:=Q8.below hb;have N9:Zb _:=za0 hb (za2 N8.X) N8.X;clear hb PI
   (try go_wp2_with fail)
   refine hoW hK (Cl.X _ Q9.s N9.X) fun aa=> ?_;clear hK K;refine tkH 11 aa ?_;refine tkH 12 aa ?_;refine tkH 13 aa ?_;refine tkH 14 aa ?_;refine tkH 15 aa ?_;refine qF (by kernel_rfl) ?_ _;clear aa;obtain⟨g1,g2,g3,g4⟩:=bA.X (by rw[dZ.X,jj]);subst g1 g2 g3 g4;obtain⟨a0,a1⟩:=za1 Q9.o;have af:=fun i=>yZ _ _ i _ _ Q9.o;have B5:=Q9.b;clear bA;go_wp2;refine xe (v:=.tuple #[.agg #[za none 0 0,za none 0 0],ze zd 0,.bool false]) (by simp[results,Tryz.results122,go_sem,a0,a1]) rfl ?_;show zT0 _ _ _ _ _ _ _ _;exact⟨none,0,0,none,0,0,[],rfl,(B5.setCell (by simp<;>omega) _).setCell (by simp<;>omega) _,rfl,⟨rfl,rfl,(fun j hj=>by simp at hj),(fun j hj=>by simp at hj),.inl ⟨rfl,rfl⟩,.inl ⟨rfl,rfl⟩,(fun r hr=>by cases hr)⟩,fun _ _ _=>⟨fun h=>absurd rfl h,fun h=>absurd rfl h,fun r hr=>by cases hr⟩⟩
  refine PI.mono ?_;rintro e w9 ⟨hb,⟨h9,_⟩|⟨_,g2,c2,rfl,ho⟩⟩
  ·cases h9
  have Q9:Zb _:=Q8.below hb;have F9:Zb _:=za0 hb (za2 F8.X) F8.X;have N9:Zb _:=za0 hb (za2 N8.X) N8.X;have Ia:=za4 (Ga.below hb);have I9:=za4 (ze8 ho);have cw:=zy6 ho;have fL:Zb (w.heap.size<=g2):=by have h8:=z91 ho g2 0 rfl;have h7:=Q8.size;show _<=_;omega
  clear hb ho PI Hd Gu
  (try go_wp2_with fail)
  refine hoW hK (Cl.X _ Q9.s N9.X) fun aa=> ?_;clear hK K;refine tkH 11 aa ?_;refine tkH 12 aa ?_;refine tkH 13 aa ?_;refine tkH 14 aa ?_;refine tkH 15 aa ?_;refine qF (by kernel_rfl) ?_ _;clear aa;rw[ji]at dZ;obtain⟨M2,oT⟩:=nmd (insL X pl.toNat id);rw[oT.X]at I9 cw oU r'
  try rw[oT.X]
  have Ac:=r'.X (some ⟨g2,0,none⟩) c2;obtain⟨R2,rD⟩:=nmd (wrL R1 ⟨tv,some ⟨g2,0,none⟩,M2,c2⟩);rw[rD.X]at Ac;have dV:Zb _:=Ac;have Ep:Zb (R2.Pairwise (fun a b=>a.v<b.v)):=by rw[<-rD.X];exact zK9 tT.X
  have Ax:Zb (zw3 R2):=fun r hr=>by
   obtain⟨h1,h2⟩:=z05 dV.X oZ.X r hr;refine⟨h1,h2,?_⟩;rw[<-rD.X]at hr;rcases zy1.1 hr with⟨Cx,_⟩|⟨e9,h_⟩
   ·exact(kj.X r Cx).2.2
   ·rw[e9];exact cw
  have Ht:R2.length<=51:=by rw[<-rD.X];have:=yA5 R1 ⟨tv,some ⟨g2,0,none⟩,M2,c2⟩;have:=mL.X;omega
  have Io:=uJ.X R2 dV.X;have Cm:=zp3 rb la mc ln lc R1 ⟨tv,some ⟨g2,0,none⟩,M2,c2⟩ w9 Ia.X (by rw[mL.X];omega) (ze9 tT.X) u4.X (by simp only;have:=oU.X;omega);rw[mL.X,rD.X]at Cm;obtain⟨m2,Af⟩:=nmd M2.length;simp only[Af.X]at Cm
  try rw[Af.X]
  obtain⟨s0,s1,s2⟩:=zq2 Q9.s;obtain⟨n0,n1⟩:=za1 N9.X
  go_wp2_with fail
  refine Cm.mono ?_;rintro e gQ ⟨sl,rfl,hb,ho⟩;obtain⟨l5,uI⟩:=nmd R2.length;rw[uI.X]at ho Ht;obtain⟨rd,mb,bh⟩:=zg7 ho;subst bh;have Nd:Zb (∀k,k<w.heap.size->zi8 k ra la R L->zi8 k rd la R2 L):=fun k hk h0=>⟨fun _ b off e=>by have h8:=z91 ho b off e;have h7:=Q9.size;omega,h0.2.1,fun r hr=>by
   rw[<-rD.X]at hr;rcases zy0 hr with hr|rfl
   ·exact O_.X k hk h0.2.2 r hr
   ·intro _ b off e
    injection e with e
    injection e with e
    have:=fL.X;omega⟩
  have Aj:za9 gQ rd R2:=by
   have h9:=yJ7 Ia.X hb (r:=⟨tv,some ⟨g2,0,none⟩,M2,c2⟩) (I9.below hb) (sa:=rd) (n:=l5) (c:=mb) (base:=w9.heap.size) (by rw[rD.X];exact ho);rw[rD.X]at h9;exact h9
  have Ny:Zb ((rd=none/\l5=0)∨∃b off,rd=some ⟨b,off,none⟩):=by
   rcases own_kinds ho with⟨h1,h2⟩|⟨g9,c9,h1,_⟩
   ·injection h1 with h1 _ _
    exact .inl ⟨h1,h2⟩
   ·injection h1 with h1 _ _
    exact .inr ⟨g9,0,h1⟩
  have Am:=za0 hb (za2 N9.X) N9.X;have J6:=za0 hb (za2 F9.X) F9.X;have pT:=xb gQ kn 0 _ _ (za rd l5 mb) Am;simp only[xM,xN]at pT;have GG:=xb _ kn 1 _ _ (za la ln lc) pT;simp only[xM,xN,xO]at GG;have Dk:Zb _:=GG;have l6:Zb (RQ w ((gQ.setCell ⟨kn,0,none⟩ (za rd l5 mb)).setCell ⟨kn,1,none⟩ (za la ln lc)) #[ze zd n,za a zl ac,za ao ko co,za av kv cv,ze zd fine] #[za ra nr rc,za la ln lc] #[ze zd id,ze zd tv,ze zd pl]):=((Q9.below hb).set gN.1).set gN.1;have Jf:Zb (((gQ.setCell ⟨kn,0,none⟩ (za rd l5 mb)).setCell ⟨kn,1,none⟩ (za la ln lc)).heap[kf]? =some (zg #[ze zd v0,za (some ⟨b0,o0,none⟩) l0 c0] 80 (0,0))):=za8 (za8 J6 (Ne.symm gN.2)) (Ne.symm gN.2);have ug:Zb (za9 ((gQ.setCell ⟨kn,0,none⟩ (za rd l5 mb)).setCell ⟨kn,1,none⟩ (za la ln lc)) rd R2):=ze7 (ze7 Aj Am 0 _) pT 1 _;have nf:=fun i=>yZ _ _ i _ _ Am;obtain⟨n0,n1⟩:=za1 Am;clear hb ho Cm Q9 N9 F9 Ia I9 J6 pT GG s0 s1 s2 Aj;obtain⟨ND,LT,bZ,LI,NF⟩:=za7 l6.c;obtain⟨p0,p1⟩:=za1 l6.p;obtain⟨s0,s1,s2⟩:=zq2 l6.s;obtain⟨f0,f1⟩:=za1 Jf.X;obtain⟨m0,Nw⟩:=za1 Dk.X
  go_wp2_with fail
  clear n0 n1 nf Am;generalize((gQ.setCell ⟨kn,0,none⟩ _).setCell ⟨kn,1,none⟩ _)=W11 at*;obtain⟨CB,uw⟩:=nmd ((z67 v0 tv).all (cmK n zs os vs ko kv R2));obtain⟨CD,tL⟩:=nmd (if CB=true then((z67 v0 tv).map (cmF n zs os vs ko kv R R2)).sum else 0);have CM:=zQ7 n fine v0 tv a ao av ra la rd la zl ac ko co kv cv nr rc ln lc l5 mb ln lc zs os vs R R2 W11 (HA.below l6.b) (HO.below l6.b) (HV.below l6.b) ck.X aF.X aE.X aA aB cU.X (HP.2.2.1.below l6.b) HN.X (by have:=HN.X;omega) (ze9 pr.X) gi.X ug.X uI.X (by omega) (ze9 Ep.X) Ax.X CB uw.X CD tL.X;refine CM.mono ?_;rintro e Dt ⟨rfl,hb⟩;have oQ:Zb _:=l6.below hb;have Ot:Zb _:=za0 hb (za2 Dk.X) Dk.X;have E0:=za4 (ug.below hb);clear hb CM l6 Dk Jf ug ND LT bZ LI NF p0 p1 s0 s1 s2 f0 f1 m0 Nw;rw[<-Io.1,uw.X]at dZ;cases CB
  ·skip
   obtain⟨g1,g2,g3,g4⟩:=bA.X (by rw[dZ.X]);subst g1 g2 g3 g4;obtain⟨a0,a1⟩:=za1 oQ.o;have af:=fun i=>yZ _ _ i _ _ oQ.o;have B5:=oQ.b;clear bA;go_wp2;refine xe (v:=.tuple #[.agg #[za none 0 0,za none 0 0],ze zd 0,.bool false]) (by simp[results,Tryz.results122,go_sem,a0,a1]) rfl ?_;show zT0 _ _ _ _ _ _ _ _;exact⟨none,0,0,none,0,0,[],rfl,(B5.setCell (by simp<;>omega) _).setCell (by simp<;>omega) _,rfl,⟨rfl,rfl,(fun j hj=>by simp at hj),(fun j hj=>by simp at hj),.inl ⟨rfl,rfl⟩,.inl ⟨rfl,rfl⟩,(fun r hr=>by cases hr)⟩,fun _ _ _=>⟨fun h=>absurd rfl h,fun h=>absurd rfl h,fun r hr=>by cases hr⟩⟩
  ·obtain⟨y1,y2,y3⟩:=gL.X dZ.X
   have ke:zc1 n zs os vs ko kv fine (rlN R id tv pl.toNat) L=0:=by
    have h9:=Io.1;rw[uw.X]at h9;exact zZ h9.symm
   have bk:Zb (CD=GD):=by
    show _=_;rw[<-tL.X,z7 rfl,Io.2 ke (fine*L.length),y1]
   have FK:Zb (R2.map RT.key=GR.map RT.key):=by show _=_;rw[y2];exact dV.X
   have tD:=dZ.X;clear y1 y2 ke;rw[bk.X];subst tD;subst y3;obtain⟨a0,a1⟩:=za1 oQ.o;have af:=fun i=>yZ _ _ i _ _ oQ.o;obtain⟨n0,n1⟩:=za1 Ot.X;have pT:=xb Dt (w.heap.size+3) 0 _ _ (za rd l5 mb) oQ.o;simp only[xM,xN]at pT;have OH:Zb (za9 ((Dt.setCell ⟨w.heap.size+3,0,none⟩ (za rd l5 mb)).setCell ⟨w.heap.size+3,1,none⟩ (za la ln lc)) rd R2):=ze7 (ze7 E0.X oQ.o 0 _) pT 1 _;have OP:Zb (za3 ((Dt.setCell ⟨w.heap.size+3,0,none⟩ (za rd l5 mb)).setCell ⟨w.heap.size+3,1,none⟩ (za la ln lc)) la GL):=zj1 (zj1 (HP.2.2.2.1.below oQ.b) oQ.o 0 _) pT 1 _;have BE:Zb (Za w.heap.size w ((Dt.setCell ⟨w.heap.size+3,0,none⟩ (za rd l5 mb)).setCell ⟨w.heap.size+3,1,none⟩ (za la ln lc))):=(oQ.b.setCell (by simp<;>omega) _).setCell (by simp<;>omega) _;clear pT;go_wp2;refine xe (v:=.tuple #[.agg #[za rd l5 mb,za la ln lc],ze zd GD,.bool true]) (by simp[results,Tryz.results122,go_sem,a0,a1]) rfl ?_;show zT0 _ _ _ _ _ _ _ _;exact⟨rd,l5,mb,la,ln,lc,R2,rfl,BE.X,FK.X,⟨uI.X,HM.X,OH.X,OP.X,Ny.X,HP.2.2.2.2.2.1,fun r hr=>(Ax.X r hr).2.2⟩,Nd.X⟩
theorem yu4{R S:List RT}(h:S.map RT.key=R.map RT.key)(hp:R.Pairwise (fun a b=>a.v<b.v)):S.Pairwise (fun a b=>a.v<b.v):=yA8 h hp
structure MX(w2 W:zi)(kx ky:Nat)(xx:Array Value)(tv:Int)(sl:Value)(yl:List Int):Prop where
 b:Za w2.heap.size w2 W
 x:W.heap[kx]? =some (.cells xx 80 (0,0))
 y:W.heap[ky]? =some (zg #[ze zd tv,sl] 80 (0,0))
 o:W.ownsRow w2.heap.size 2 1 sl yl.length (yl.map (ze zd))
 kl:w2.heap.size<=kx/\w2.heap.size<=ky/\kx≠ky
theorem MX.below{w2 W W':zi}{kx ky:Nat}{xx:Array Value}{tv:Int}{sl:Value}{yl:List Int}(h:MX w2 W kx ky xx tv sl yl)(hb:Za W.heap.size W W'):MX w2 W' kx ky xx tv sl yl:=
 ⟨h.b.trans (hb.mono h.b.size),za0 hb (za2 h.x) h.x,za0 hb (za2 h.y) h.y,zb9 h.o hb,h.kl⟩
theorem MX.grow{w2 W W':zi}{kx ky:Nat}{xx:Array Value}{tv:Int}{sl de:Value}{yl FQ:List Int}(h:MX w2 W kx ky xx tv sl yl)(hg:W.grownBy W' sl.ownBlock)(ho:W'.ownsRow w2.heap.size 2 1 de FQ.length (FQ.map (ze zd))):
 W'.heap[ky]? =some (zg #[ze zd tv,sl] 80 (0,0))/\W'.heap[kx]? =some (.cells xx 80 (0,0))/\MX w2 (W'.setCell ⟨ky,1,none⟩ de) kx ky xx tv de FQ:=by
 have hy:=za6 hg h.y (fun e=>zg4 h.o h.y (by decide) e.symm);have hx:=za6 hg h.x (fun e=>zg4 h.o h.x (by decide) e.symm);have s1:=xb W' ky 1 _ _ de hy;simp only[xM,xN,xO]at s1;have hb:=h.b.grown hg h.b.size (fun j e=>(h.o.lt j e).1);exact⟨hy,hx,hb.setCell h.kl.2.1 _,za8 hx h.kl.2.2,s1,zd8 ho hy,h.kl⟩
def yJ3(w:zi)(ib f:Bool)(T:List RT)(L:List Int)(e:Ending)(w':zi):Prop:=Za w.heap.size w w'/\((ib=false/\e=.returned (.tuple #[.agg #[za none 0 0,za none 0 0],.bool false]))∨(ib=true/\∃ra rn rc gl lc S,e=.returned (.tuple #[.agg #[za ra rn rc,za (some ⟨gl,0,none⟩) L.length lc],.bool f])/\S.length=rn/\S.map RT.key=T.map RT.key/\PO w' w.heap.size (za ra rn rc) S (za (some ⟨gl,0,none⟩) L.length lc) L))
theorem yE0{R:List RT}(cK:(zb0 R R.length).Nodup){j k:Nat}(hj:j<R.length)(hk:k<R.length)(Iu:j≠k){x:Int}(h1:x∈(R.getD j rt0).ids)(h2:x∈(R.getD k rt0).ids):False:=by
 rw[zb8]at cK;have hs:=z39 hk;rw[hs,xW,jc,yJ]at cK;have Ji:R.getD j rt0=R[j]:=by simp[List.getD,hj]
 rcases Nat.lt_or_gt_of_ne Iu with h|h
 ·have hm:R.getD j rt0∈R.take k:=by rw[Ji];exact List.mem_take_iff_getElem.2 ⟨j,by omega,rfl⟩
  exact cK.2.2 x (jh.2 ⟨_,hm,h1⟩) x (List.mem_append_left _ h2) rfl
 ·have hm:R.getD j rt0∈R.drop (k+1):=by rw[Ji];exact List.mem_drop_iff_getElem.2 ⟨j - (k+1),by omega,by simp[show k+1+(j - (k+1))=j by omega]⟩
  exact(yJ.1 cK.2.1).2.2 x h2 x (jh.2 ⟨_,hm,h1⟩) rfl
theorem yo4(id tv pl n fine:Int)(a ao av ra:Option Zd)(zl ac ko co kv cv nr rc bl ol ln lc:Nat)(zs os vs L:List Int)(R:List RT)(w:zi)(hA:za3 w a zs)(hO:za3 w ao os)(hV:za3 w av vs)(aN:zs.length=zl)(an:os.length=ko*6)(au:vs.length=kv*5)(aA:ko<=9223372036854775807)(aB:kv<=9223372036854775807)(hP:zc3 w ra (some ⟨bl,ol,none⟩) nr ln R L)(aT:zc1 n zs os vs ko kv fine R L=0)(k:Nat)(hk:k<R.length)(cz:id∈(R.getD k rt0).ids):
 Zc zh 131 #[.agg #[ze zd n,za a zl ac,za ao ko co,za av kv cv,ze zd fine],.agg #[za ra nr rc,za (some ⟨bl,ol,none⟩) ln lc],ze zd id,ze zd tv,ze zd pl] w (yJ3 w (inB pl 0 ((zc7 (lvR R id) tv).ids.length:Int)) (decide (zc1 n zs os vs ko kv fine (rlN R id tv pl.toNat) L=0)) (rlN R id tv pl.toNat) L):=by
 obtain⟨hc,hr,ir,mv,aZ⟩:=zb7 aT;obtain⟨hp,aP⟩:=zh3.1 hr;have fV:=ze6 aT;have pr:Zb _:=hp;have mq:Zb (∀r∈R,r.ids≠[]):=fun r hr=>(aP r hr).1;have kA:Zb ((zb0 R R.length).Nodup):=ir.1;have FA:Zb (LvI (zr3 (zb0 R R.length)) [] L.length 0 R L):=zP8 aT rfl (fun i hi=>by simp at hi);have bm:Zb _:=aT;have bH:Zb _:=cz;have HA:=za4 hA;have HO:=za4 hO;have HV:=za4 hV;have ck:Zb _:=aN;have aF:Zb _:=an;have aE:Zb _:=au;have HP:=za4 hP;have HN:Zb _:=hP.1;have HM:Zb _:=hP.2.1;have lM:=fV.1;have th:=fV.2.1;have cL:k<nr:=by rw[<-HN.X];exact hk
 have ny:nr<=12:=by rw[<-HN.X];exact lM
 clear hA hO hV aN an au hP aT hc hr ir mv aZ hp aP fV cz;have Q0:Zb (GQ w ((((w.alloc (zg #[ze zd n,za a zl ac,za ao ko co,za av kv cv,ze zd fine] 30)).alloc (zg #[za ra nr rc,za (some ⟨bl,ol,none⟩) ln lc] 33)).alloc (zg #[za none 0 0,za none 0 0] 33)).alloc (zg #[za ra nr rc,za (some ⟨bl,ol,none⟩) ln lc] 33)) #[ze zd n,za a zl ac,za ao ko co,za av kv cv,ze zd fine] #[za ra nr rc,za (some ⟨bl,ol,none⟩) ln lc]):=by
  refine GQ.below (W:=((w.alloc (zg #[ze zd n,za a zl ac,za ao ko co,za av kv cv,ze zd fine] 30)).alloc (zg #[za ra nr rc,za (some ⟨bl,ol,none⟩) ln lc] 33)).alloc (zg #[za none 0 0,za none 0 0] 33)) ?_ (zP _);refine⟨((zP _).alloc (by simp) _).alloc (by simp;omega) _,?_,?_,?_⟩
  ·exact(xg _ _ (by simp;omega)).trans (xm _ _ _)
  ·exact(xg _ _ (by simp)).trans (xh _ _ _)
  ·have:=zS ((w.alloc (zg #[ze zd n,za a zl ac,za ao ko co,za av kv cv,ze zd fine] 30)).alloc (zg #[za ra nr rc,za (some ⟨bl,ol,none⟩) ln lc] 33)) (zg #[za none 0 0,za none 0 0] 33)
   simpa using this
 have N0:Zb (((((w.alloc (zg #[ze zd n,za a zl ac,za ao ko co,za av kv cv,ze zd fine] 30)).alloc (zg #[za ra nr rc,za (some ⟨bl,ol,none⟩) ln lc] 33)).alloc (zg #[za none 0 0,za none 0 0] 33)).alloc (zg #[za ra nr rc,za (some ⟨bl,ol,none⟩) ln lc] 33)).heap[w.heap.size+3]? =some (zg #[za ra nr rc,za (some ⟨bl,ol,none⟩) ln lc] 33 (0,0))):=by
  have:=zS (((w.alloc (zg #[ze zd n,za a zl ac,za ao ko co,za av kv cv,ze zd fine] 30)).alloc (zg #[za ra nr rc,za (some ⟨bl,ol,none⟩) ln lc] 33)).alloc (zg #[za none 0 0,za none 0 0] 33)) (zg #[za ra nr rc,za (some ⟨bl,ol,none⟩) ln lc] 33);show _=_;simpa using this
 have e0:(((w.alloc (zg #[ze zd n,za a zl ac,za ao ko co,za av kv cv,ze zd fine] 30)).alloc (zg #[za ra nr rc,za (some ⟨bl,ol,none⟩) ln lc] 33)).alloc (zg #[za none 0 0,za none 0 0] 33)).heap.size=w.heap.size+3:=by simp
 have P0:Zb ((((w.alloc (zg #[ze zd n,za a zl ac,za ao ko co,za av kv cv,ze zd fine] 30)).alloc (zg #[za ra nr rc,za (some ⟨bl,ol,none⟩) ln lc] 33)).alloc (zg #[za none 0 0,za none 0 0] 33)).heap[w.heap.size+1]? =some (zg #[za ra nr rc,za (some ⟨bl,ol,none⟩) ln lc] 33 (0,0))):=(xg _ _ (by simp)).trans (xh _ _ _);obtain⟨p0,p1⟩:=za1 P0.X;go_enter Tryz.func131,Tryz.ntmps131
 go_wp2_with fail
 clear p0 p1 P0
 try rw[e0]
 clear e0;generalize(((w.alloc _).alloc _).alloc _).alloc _=W1 at*;obtain⟨kb,fs⟩:=nmd (w.heap.size+3);rw[fs.X]at N0
 try rw[fs.X]
 try rw[show w.heap.size+1+1+1=kb from fs.X]
 go_loopw[13] (fun t wr=>∃i:Nat,i<=nr/\t=ze zd i/\GQ w wr #[ze zd n,za a zl ac,za ao ko co,za av kv cv,ze zd fine] #[za ra nr rc,za (some ⟨bl,ol,none⟩) ln lc]/\((i<=k/\wr.heap[kb]? =some (zg #[za ra nr rc,za (some ⟨bl,ol,none⟩) ln lc] 33 (0,0)))∨(k<i/\∃(cI:Option Zd) (n1 cJ eI c_:Nat) (R1:List RT),wr.heap[kb]? =some (zg #[za cI n1 cJ,za (some ⟨eI,0,none⟩) ln c_] 33 (0,0))/\PO wr (w.heap.size+4) (za cI n1 cJ) R1 (za (some ⟨eI,0,none⟩) ln c_) L/\R1.length=n1/\R1.map RT.key=(lvR R id).map RT.key))) (fun t _=>nr - (intOf t).toNat)
 case atStart=>exact⟨0,xi _,rfl,Q0.X,.inl ⟨xi _,N0.X⟩⟩
 case round=>
  clear Q0 N0;obtain⟨i,hi,rfl,hQ,hN⟩:=hrel;have Q1:Zb _:=hQ;have NN:Zb _:=hN;clear hQ hN;obtain⟨p0,p1⟩:=za1 Q1.p;by_cases ah:i<nr
  ·have ek:(i:Int)<(nr:Int):=by omega
   obtain⟨b,off,e,r1,r2,r3⟩:=(HP.2.2.1.below Q1.b) i (by rw[HN.X];exact ah);subst e;have rj:=FA.sm _ (zh7 (show i<R.length by rw[HN.X];exact ah));have L3:=zx0 (R.getD i rt0).a (R.getD i rt0).ids.length (R.getD i rt0).c id (R.getD i rt0).ids wr r3 (zT _) (by omega);rw[zs9]at L3;by_cases oe:i=k
   ·subst oe
    rw[zW bH.X]at L3;have NI:Zb (wr.heap[kb]? =some (zg #[za (some ⟨b,off,none⟩) nr rc,za (some ⟨bl,ol,none⟩) ln lc] 33 (0,0))):=by
     rcases NN.X with⟨_,h9⟩|⟨h9,_⟩
     ·exact h9
     ·omega
    clear NN;obtain⟨br,ur,er,-⟩:=r3 0 (xV.2 (mq.X _ (zh7 hk)));have gZ:∀W,Za wr.heap.size wr W->_:=fun W hW=>z85 br ur (R.getD i rt0).c (R.getD i rt0).ids id W (by have:=r3.below hW;rw[er]at this;exact this) (by omega)
    have ia:∀W (g cg:Nat),Za wr.heap.size wr W->za3 W (some ⟨g,0,none⟩) (cutP (R.getD i rt0).ids id)->Zc zh 72 #[.agg #[za (some ⟨b,off,none⟩) nr rc,za (some ⟨bl,ol,none⟩) ln lc],.agg #[ze zd (R.getD i rt0).v,za (some ⟨g,0,none⟩) (cutP (R.getD i rt0).ids id).length cg]] W (NP W (lvR R id) L):=fun W g cg hW hX=>zM6 (some ⟨b,off,none⟩) nr rc bl ol ln lc g cg (cutP (R.getD i rt0).ids id).length i R L id W FA.X (by omega) HM.X HN.X (HP.2.2.1.below (Q1.b.trans (hW.mono Q1.b.size))) (HP.2.2.2.1.below (Q1.b.trans (hW.mono Q1.b.size))) hk bH.X rfl hX
    rw[er]at r2 L3;clear r3 er rj;obtain⟨rt,dj⟩:=nmd (R.getD i rt0);rw[dj.X]at r1 r2 L3 gZ ia;obtain⟨cl,jO⟩:=nmd ((cutP rt.ids id).length);obtain⟨rl,cu⟩:=nmd rt.ids.length;obtain⟨rv,bC⟩:=nmd rt.v;obtain⟨A_,bw⟩:=nmd rt.c;rw[cu.X,bw.X]at r2 L3;rw[bC.X]at r1;rw[cu.X,bw.X,jO.X]at gZ;rw[bC.X,jO.X]at ia;have Bd:Zb _:=gZ;have AE:Zb _:=ia;clear gZ ia dj;have oy:Zb (∀W,Za wr.heap.size wr W->(fun W=>W.cell? ⟨w.heap.size+1,0,none⟩=some (za (some ⟨b,off,none⟩) nr rc)/\W.cell? ⟨w.heap.size+1,1,none⟩=some (za (some ⟨bl,ol,none⟩) ln lc)/\W.cell? ⟨b,off+i*2,none⟩=some (ze zd rv)/\W.cell? ⟨b,off+i*2+1,none⟩=some (za (some ⟨br,ur,none⟩) rl A_)) W):=fun W hW=>⟨keepL p0 hW,keepL p1 hW,keepL r1 hW,keepL r2 hW⟩;go_upto_region 6 with(go_at_call 87;refine L3.mono ?_;rintro e w' ⟨rfl,dz⟩;subst w')
    go_wp2_with fail
    refine ze4 (S:=(fun W=>W.cell? ⟨w.heap.size+1,0,none⟩=some (za (some ⟨b,off,none⟩) nr rc)/\W.cell? ⟨w.heap.size+1,1,none⟩=some (za (some ⟨bl,ol,none⟩) ln lc)/\W.cell? ⟨b,off+i*2,none⟩=some (ze zd rv)/\W.cell? ⟨b,off+i*2+1,none⟩=some (za (some ⟨br,ur,none⟩) rl A_))) 17 (by kernel_rfl) ?_ fun aa=> ?_
    ·exact oy.X _ (y5 _ _).drew
    have BD:Zb (Za wr.heap.size wr wr.drew):=(y5 _ _).drew;generalize wr.drew=wd at*;refine tkZ 0 aa ?_;refine tkZ 1 aa ?_;refine tkZ 2 aa ?_;refine tkZ 3 aa ?_;refine tkZ 4 aa ?_;refine tkZ 5 aa ?_;refine tkZ 6 aa ?_;refine tkZ 7 aa ?_;refine tkZ 8 aa ?_;refine tkZ 9 aa ?_;refine tkZ 10 aa ?_;refine tkZ 11 aa ?_;refine tkZ 12 aa ?_;refine tkZ 13 aa ?_;refine rdZ 14 fun K hK=> ?_;go_simp;refine(Bd.X wd BD.X).mono ?_;rintro e w6 ⟨g,cg,rfl,hb,ho⟩;have B6:Zb _:=BD.trans (hb.mono BD.size);have X6:Zb (za3 w6 (some ⟨g,0,none⟩) (cutP rt.ids id)):=ze8 ho;clear hb ho
    try rw[jO.X]
    (try go_wp2_with fail)
    refine hoW hK (oy.X _ B6.X) fun aa=> ?_;clear hK K;refine tkZ 15 aa ?_;refine rdZ 16 fun K hK=> ?_;go_simp;refine(AE.X w6 g cg B6.X X6.X).mono ?_;rintro e w7 ⟨ju,n7,jC,g7,iJ,R7,rfl,hb,JS,uW,rE⟩;rw[HM.X]at rE⊢;have jQ:=B6.trans (hb.mono B6.size);have hx:=za0 jQ (za2 NI.X) NI.X;have s1:=xb w7 kb 0 _ _ (za ju n7 jC) hx;simp only[xM,xN]at s1;have s2:=xb _ kb 1 _ _ (za (some ⟨g7,0,none⟩) ln iJ) s1;simp only[xM,xN,xO]at s2;have M7:Zb (∃(cI:Option Zd) (n1 cJ eI c_:Nat) (R1:List RT),((w7.setCell ⟨kb,0,none⟩ (za ju n7 jC)).setCell ⟨kb,1,none⟩ (za (some ⟨g7,0,none⟩) ln iJ)).heap[kb]? =some (zg #[za cI n1 cJ,za (some ⟨eI,0,none⟩) ln c_] 33 (0,0))/\PO ((w7.setCell ⟨kb,0,none⟩ (za ju n7 jC)).setCell ⟨kb,1,none⟩ (za (some ⟨g7,0,none⟩) ln iJ)) (w.heap.size+4) (za cI n1 cJ) R1 (za (some ⟨eI,0,none⟩) ln c_) L/\R1.length=n1/\R1.map RT.key=(lvR R id).map RT.key):=⟨ju,n7,jC,g7,iJ,R7,s2,((rE.base (by have h1:=za2 (za0 B6.X (za2 NI.X) NI.X);have h2:=fs.X;omega)).box hx).box s1,JS,uW⟩;have Q7:Zb (GQ w ((w7.setCell ⟨kb,0,none⟩ (za ju n7 jC)).setCell ⟨kb,1,none⟩ (za (some ⟨g7,0,none⟩) ln iJ)) #[ze zd n,za a zl ac,za ao ko co,za av kv cv,ze zd fine] #[za (some ⟨b,off,none⟩) nr rc,za (some ⟨bl,ol,none⟩) ln lc]):=((Q1.below jQ).set (by have:=fs.X;omega)).set (by have:=fs.X;omega);have B7:Zb _:=jQ;have F7:=fun i=>yZ _ _ i _ _ hx;obtain⟨f0,f1⟩:=za1 hx;clear hb JS uW rE jQ hx s1 s2
    (try go_wp2_with fail)
    refine hoW hK (oy.X _ B7.X) fun aa=> ?_;clear hK K;refine rdL 17 fun K hK=> ?_;go_simp;refine hK.out _ _ ?_;clear hK K;clear F7 f0 f1;generalize((w7.setCell ⟨kb,0,none⟩ _).setCell ⟨kb,1,none⟩ _)=w8 at*;refine zh4 (by kernel_rfl) ?_ _;clear aa Bd AE oy L3 r1 r2;go_wp2;go_roundw
    case rel=>exact⟨i+1,by omega,by first|rfl|go_num,Q7.X,.inr ⟨by omega,M7.X⟩⟩
    case measure=>simp[intOf];omega
   ·have a_:id∉(R.getD i rt0).ids:=fun h9=>yE0 kA.X (by rw[HN.X];exact ah) hk oe h9 bH.X
    rw[zX a_]at L3;clear a_ r3 rj;obtain⟨rt,dj⟩:=nmd (R.getD i rt0);rw[dj.X]at r1 r2 L3;clear dj;obtain⟨rl,cu⟩:=nmd rt.ids.length;rw[cu.X]at r2 L3
    go_wp2_with(go_at_call 87;refine L3.mono ?_;rintro e w' ⟨rfl,dz⟩;subst w')
    go_roundw
    case rel=>
     refine⟨i+1,by omega,by first|rfl|go_num,Q1.X,?_⟩;rcases NN.X with⟨h1,h2⟩|⟨h1,h2⟩
     ·exact .inl ⟨by omega,h2⟩
     ·exact .inr ⟨by omega,h2⟩
    case measure=>simp[intOf];omega
  ·have ek:¬((i:Int)<(nr:Int)):=by omega
   obtain⟨cI,n1,cJ,eI,c_,R1,hx,cZ,aZ,eA⟩:∃(cI:Option Zd) (n1 cJ eI c_:Nat) (R1:List RT),wr.heap[kb]? =some (zg #[za cI n1 cJ,za (some ⟨eI,0,none⟩) ln c_] 33 (0,0))/\PO wr (w.heap.size+4) (za cI n1 cJ) R1 (za (some ⟨eI,0,none⟩) ln c_) L/\R1.length=n1/\R1.map RT.key=(lvR R id).map RT.key:=by
    rcases NN.X with⟨h9,_⟩|⟨_,h9⟩
    ·omega
    ·exact h9
   have N1:Zb _:=hx;have O1:Zb _:=cZ;have my:Zb _:=aZ;have df:Zb _:=eA;clear NN hx cZ aZ eA p0 p1;obtain⟨p0,p1⟩:=za1 N1.X;have LR:=z24 cI (some ⟨eI,0,none⟩) cJ ln c_ R1 tv wr (zI6 O1.X my.X) (by have h1:=congrArg zo df.X;have h2:=zR4 R id;simp only[qz]at h1;omega);rw[my.X]at LR;have lB:Zb _:=zo2 df.X tv;have kj:Zb (zw3 R1):=fun r hr=>by
    have h1:=z05 df.X (b:=12) (fun r hr=>⟨yy8 hr,zU5 FA.sm r hr⟩) r hr;exact⟨h1.1,h1.2,(O1.ints r hr).2⟩
   obtain⟨tZ,kD,ES,Cb⟩:=z98 (zI6 O1.X my.X) kj.X tv;have rX:=za4 tZ;have iL:Zb (rlN R id tv pl.toNat=wrL (lvR R id) ⟨tv,none,insL (zc7 R1 tv).ids pl.toNat id,0⟩):=by show _=_;unfold rlN;rw[lB.X]
   rw[<-lB.X];have FX:Zb ((zc7 R1 tv).ids=(zc7 R1 tv).ids):=rfl;obtain⟨X,HX⟩:=nmd ((zc7 R1 tv).ids);obtain⟨xa,uP⟩:=nmd ((zc7 R1 tv).a);obtain⟨xc,vu⟩:=nmd ((zc7 R1 tv).c);obtain⟨xl,aY⟩:=nmd X.length;rw[HX.X,uP.X]at rX Cb;rw[HX.X]at kD ES iL LR⊢;rw[uP.X,vu.X,aY.X]at LR;rw[vu.X]at ES;rw[aY.X]at kD ES Cb⊢;have mI:Zb _:=lB.symm.trans HX.X;clear tZ FX HX uP vu lB;obtain⟨ib,pZ⟩:=nmd (inB pl 0 (xl:Int));rw[pZ.X];obtain⟨q0,q1⟩:=za1 Q1.p
   go_wp2_with fail
   refine LR.mono ?_;rintro e w2 ⟨rfl,hb⟩;have Q2:Zb _:=Q1.below hb;have N2:Zb _:=za0 hb (za2 N1.X) N1.X;have O2:Zb _:=O1.below hb;have X2:=za4 (rX.below hb);clear hb LR Q1 N1 O1 rX p0 p1 q0 q1;have JZ:Za w2.heap.size w2 (w2.alloc (zg #[ze zd tv,za xa xl xc] 80)):=zP _;have DK:Zb _:=JZ;have Hb:=za4 (zS w2 (zg #[ze zd tv,za xa xl xc] 80));clear JZ;obtain⟨x0,x1⟩:=za1 Hb.X;cases ib
   ·have Q3:Zb _:=Q2.below DK.X
    obtain⟨a0,a1⟩:=za1 Q3.o;have af:=fun i=>yZ _ _ i _ _ Q3.o;have BE:Zb (Za w.heap.size w (((w2.alloc (zg #[ze zd tv,za xa xl xc] 80)).setCell ⟨w.heap.size+2,0,none⟩ (za none 0 0)).setCell ⟨w.heap.size+2,1,none⟩ (za none 0 0))):=(Q3.b.setCell (by simp) _).setCell (by simp) _
    go_wp2_with(go_at_call 39;refine(zc0 _ _ _ _).mono ?_;rintro e w' ⟨rfl,dz⟩;subst w';rw[pZ.X])
    refine xe (v:=.tuple #[.agg #[za none 0 0,za none 0 0],.bool false]) (by simp[results,Tryz.results131,go_sem,a0,a1]) rfl ?_;exact⟨BE.X,.inl ⟨by rw[mI.X,aY.X];exact pZ.X,rfl⟩⟩
   ·have h1:=zc8 pZ.X
    obtain⟨j,rfl⟩:∃j:Nat,pl=j:=⟨pl.toNat,by omega⟩;simp only[yu]at iL⊢;have hj:j<=xl:=by omega
    obtain⟨kx,Pp⟩:=nmd w2.heap.size;go_upto_region 10 with(go_at_call 39;refine(zc0 _ _ _ _).mono ?_;rintro e w' ⟨rfl,dz⟩;subst w';rw[pZ.X]);obtain⟨K_,-⟩:Zb ((xa=none/\xl=0)∨∃b off,xa=some ⟨b,off,none⟩)/\True:=⟨Cb,trivial⟩;clear Cb x0 x1 h1;have dQ:Zb ((X.take j).length=j):=by show _=_;rw[yh,aY.X];omega
    have B4:Zb (Za w2.heap.size w2 ((w2.alloc (zg #[ze zd tv,za xa xl xc] 80)).alloc (zg #[] 2))):=DK.alloc DK.size _;have CO:Zb (((w2.alloc (zg #[ze zd tv,za xa xl xc] 80)).alloc (zg #[] 2)).heap[w2.heap.size]? =some (zg #[ze zd tv,za xa xl xc] 80 (0,0))):=(xg _ _ (by simp)).trans Hb.X;have OE:Zb (((w2.alloc (zg #[ze zd tv,za xa xl xc] 80)).alloc (zg #[] 2)).ownsRow w2.heap.size 2 1 (za (some ⟨w2.heap.size+1,0,none⟩) 0 0) 0 (([]:List Int).map (ze zd))):=by
     have:=qo (w2.alloc (zg #[ze zd tv,za xa xl xc] 80)) #[] 0 (base:=w2.heap.size) (e:=2) (size:=1) (by simp) (by unfold maxLen;omega) (by simp);show World.ownsRow _ _ _ _ _ _ _;simpa using this
    obtain⟨x0,x1⟩:=za1 CO.X;have sn:(0:Int)<=(j:Int):=by omega
    have jJ:(j:Int)<=(xc:Int):=by omega
    have cw:(j:Int)<=(xl:Int):=by omega
    go_cut [15]from 59 to 67 (fun p8 wx=>∃(ky gy cy:Nat),p8=.pointer (some ⟨ky,0,none⟩)/\MX w2 wx w2.heap.size ky #[ze zd tv,za xa xl xc] tv (za (some ⟨gy,0,none⟩) j cy) (X.take j))
    case first=>
     have mk:∀(W:zi) (gy cy:Nat),Za w2.heap.size w2 W->W.heap[w2.heap.size]? =some (zg #[ze zd tv,za xa xl xc] 80 (0,0))->W.ownsRow w2.heap.size 2 1 (za (some ⟨gy,0,none⟩) j cy) j ((X.take j).map (ze zd))->MX w2 (W.alloc (zg #[ze zd tv,za (some ⟨gy,0,none⟩) j cy] 80)) w2.heap.size W.heap.size #[ze zd tv,za xa xl xc] tv (za (some ⟨gy,0,none⟩) j cy) (X.take j):=fun W gy cy hb hx ho=>by
      have hA:Za W.heap.size W (W.alloc (zg #[ze zd tv,za (some ⟨gy,0,none⟩) j cy] 80)):=zP _;exact⟨hb.trans (hA.mono hb.size),za0 hA (za2 hx) hx,zS _ _,by rw[dQ.X];exact ho.alloc _,zT _,hb.size,by have:=za2 hx;omega⟩
     have MK:Zb _:=mk;clear mk;rcases K_.X with⟨e1,e2⟩|⟨bx,ox,e1⟩
     ·subst e1 e2
      have l':j=0:=by omega
      subst l'
      go_wp2_with(at_builtin
                  refine zL6 _ rfl (.tmp 61) (.tmp 65) rfl (w2.heap.size+1) 0 0 xc rfl rfl (zT _) ?_)
      go_meet;have h9:=MK.X _ _ _ B4.X CO.X (by rw[qM];exact OE.X);rw[show((w2.alloc (zg #[ze zd tv,za none 0 xc] 80)).alloc (zg #[] 2)).heap.size=w2.heap.size+1+1 by simp]at h9;exact⟨_,_,_,rfl,h9⟩
     ·subst e1
      go_wp2_with(at_builtin
                  go_must(refine zc9 _ rfl (.tmp 61) (.tmp 65) rfl w2.heap.size _ 0 [] rfl OE.X bx ox j xc (X.take j) rfl dQ.X (yb0 (X2.below B4.X) j) (by omega) (by omega) B4.size ?_)
                  go_loud(
                   intro lv w5 ae hg bd aX;have dF:∀q,(za (some ⟨w2.heap.size+1,0,none⟩) 0 0).ownBlock=some q->w2.heap.size+1<=q:=fun q e=>by have:=z57 e;omega
                   have B5:Zb _:=B4.grown hg B4.size (fun q e=>by have:=dF q e;omega);have Ng:Zb _:=za6 hg CO.X (fun e=>by have:=dF _ e.symm;omega);obtain⟨gy,cy,e⟩:=zr0 ae (zn1 aX ⟨_,_,_,rfl⟩);rw[yb]at e;subst e;have O5:Zb (w5.ownsRow w2.heap.size 2 1 (za (some ⟨gy,0,none⟩) j cy) j ((X.take j).map (ze zd))):=by rw[yb,yw]at ae;exact ae)
                  clear ae hg bd aX dF)
      go_meet;exact⟨_,_,_,rfl,MK.X _ _ _ B5.X Ng.X O5.X⟩
    case rest=>
     obtain⟨ky,gy,cy,rfl,hM⟩:=hcut;have M5:Zb _:=hM;clear hM Hb DK B4 CO OE x0 x1;have lF:=dQ.X;obtain⟨y0,y1⟩:=za1 M5.y;have L7:=fun i=>yZ _ _ i _ _ M5.y;have eA:(wc.alloc (zg #[ze zd id] 2)).heap[wc.heap.size]? =some (zg #[ze zd id] 2 (0,0)):=zS _ _;have MA:Zb (MX w2 (wc.alloc (zg #[ze zd id] 2)) w2.heap.size ky #[ze zd tv,za xa xl xc] tv (za (some ⟨gy,0,none⟩) j cy) (X.take j)):=M5.below (zP _)
     go_wp2_with(first
      |(at_builtin
        go_must(refine zF1 _ rfl _ _ rfl w2.heap.size (za (some ⟨gy,0,none⟩) j cy) j (X.take j) rfl (y28 MA.o dQ.X) wc.heap.size 1 id rfl (zU _ _ 0 _ _ _ eA) (by omega) MA.b.size ?_)
        go_loud(
         intro v' w6 ho hg hn;obtain⟨g1,fj,rfl⟩:∃g cg,v'=za (some ⟨g,0,none⟩) (j+1) cg:=zB0 ho (fun e=>by simpa using(hn.1 e).1) rfl;obtain⟨y6,-,IK⟩:=MA.grow hg (zD0 ho dQ.X rfl);have M6:Zb _:=IK;obtain⟨z0,z1⟩:=za1 y6;have zf:=fun i=>yZ _ _ i _ _ y6)
        clear ho hg hn IK))
     clear z0 z1 zf y6 y0 y1 L7 eA MA M5;generalize w6.setCell ⟨ky,1,none⟩ _=W6 at*;have rO:Zb ((X.take j++[id]).length=j+1):=by show _=_;rw[xS,dQ.X];rfl
     have Bp:Zb ((X.drop j).length=xl - j):=by show _=_;rw[qj,aY.X]
     go_upto_region 12 with fail;go_cut [15]from 74 to 81 (fun p8 wx=>p8=.pointer (some ⟨ky,0,none⟩)/\∃(g2 kP:Nat),MX w2 wx w2.heap.size ky #[ze zd tv,za xa xl xc] tv (za (some ⟨g2,0,none⟩) (xl+1) kP) (insL X j id))
     case first=>
      rcases K_.X with⟨e1,e2⟩|⟨bx,ox,e1⟩
      ·subst e1 e2
       have l':j=0:=by omega
       have Oi:X=[]:=xE aY.X;subst l' Oi
       go_wp2_with fail
       refine ze4 (S:=(fun W=>W.cell? ⟨ky,1,none⟩=some (za (some ⟨g1,0,none⟩) (0+1) fj)/\W.cell? ⟨w2.heap.size,1,none⟩=some (za none 0 xc))) 8 (by kernel_rfl) ?_ fun aa=> ?_
       ·exact⟨(za1 (M6.below (y5 _ _).drew).y).2,(za1 (M6.below (y5 _ _).drew).x).2⟩
       have MD:Zb (MX w2 W6.drew w2.heap.size ky #[ze zd tv,za none 0 xc] tv (za (some ⟨g1,0,none⟩) (0+1) fj) ([]++[id])):=M6.below (y5 _ _).drew;have uy:0+1<=fj:=zy6 (k:=0+1) MD.o;clear M6;generalize W6.drew=wd12 at*;refine tkZ 0 aa ?_;refine tkZ 1 aa ?_;refine tkZ 2 aa ?_;refine tkZ 3 aa ?_;refine tkZ 4 aa ?_;refine tkZ 5 aa ?_;refine rdZ 6 fun K hK=> ?_;refine zE6 (w:=wd12) rfl (.tmp 75) (.tmp 79) rfl g1 (0+1) fj xc rfl rfl uy ?_;rintro w9 rfl;have M9:Zb (MX w2 (w9.setCell ⟨ky,1,none⟩ (za (some ⟨g1,0,none⟩) (0+1) fj)) w2.heap.size ky #[ze zd tv,za none 0 xc] tv (za (some ⟨g1,0,none⟩) (0+1) fj) (insL [] 0 id)):=(MD.grow (zt1 _ _) MD.o).2.2;obtain⟨z0,z1⟩:=za1 MD.y;have zf:=fun i=>yZ _ _ i _ _ MD.y;refine hoW hK ⟨(za1 MD.y).2,(za1 MD.x).2⟩ fun aa=> ?_;clear hK K;refine tkZ 7 aa ?_;refine rdL 8 fun K hK=> ?_;go_simp;refine hK.out _ _ ?_;clear hK K;refine zh4 (by kernel_rfl) ?_ _;clear aa
       (try go_wp2_with fail)
       go_meet;exact⟨rfl,_,_,M9.X⟩
      ·subst e1
       go_wp2_with fail
       refine ze4 (S:=(fun W=>W.cell? ⟨ky,1,none⟩=some (za (some ⟨g1,0,none⟩) (j+1) fj)/\W.cell? ⟨w2.heap.size,1,none⟩=some (za (some ⟨bx,ox,none⟩) xl xc))) 8 (by kernel_rfl) ?_ fun aa=> ?_
       ·exact⟨(za1 (M6.below (y5 _ _).drew).y).2,(za1 (M6.below (y5 _ _).drew).x).2⟩
       have MD:Zb _:=M6.below (y5 _ _).drew;clear M6;generalize W6.drew=wd12 at*;refine tkZ 0 aa ?_;refine tkZ 1 aa ?_;refine tkZ 2 aa ?_;refine tkZ 3 aa ?_;refine tkZ 4 aa ?_;refine tkZ 5 aa ?_;refine rdZ 6 fun K hK=> ?_;refine z08 rfl (.tmp 75) (.tmp 79) rfl w2.heap.size (za (some ⟨g1,0,none⟩) (j+1) fj) (X.take j++[id]) (j+1) rfl (y28 MD.o rO.X) _ _ _ (X.drop j) rfl (yl7 _ _ _ _) (by have:=Bp.X;omega) (yj6 (X2.below MD.b) _ _ (by rw[aY.X];omega)) (by omega) (by omega) MD.b.size ?_;intro v' w9 ho hg hn;generalize(if xc=j then some (⟨bx,ox,none⟩:Zd)else some ⟨bx,ox+j,none⟩)=adx at*;obtain⟨g2,kP,rfl⟩:∃g cg,v'=za (some ⟨g,0,none⟩) (xl+1) cg:=zB0 ho (fun e=>by simpa using(hn.1 e).1) (by omega);have fd:=zD0 ho rO.X (by have:=Bp.X;omega);have be:X.take j++[id]++X.drop j=insL X j id:=by simp[insL]
       rw[be]at fd;obtain⟨y9,x9,II⟩:=MD.grow hg fd;have M9:Zb _:=II;have Lv:=xr (za1 y9).2 (za1 x9).2;obtain⟨z0,z1⟩:=za1 y9;have zf:=fun i=>yZ _ _ i _ _ y9;clear ho hg hn fd be II x9;refine hoW hK Lv fun aa=> ?_;clear hK K;refine tkZ 7 aa ?_;refine rdL 8 fun K hK=> ?_;go_simp;refine hK.out _ _ ?_;clear hK K;refine zh4 (by kernel_rfl) ?_ _;clear aa
       (try go_wp2_with fail)
       go_meet;exact⟨rfl,_,_,M9.X⟩
     case rest=>
      obtain⟨rfl,g2,kP,hM⟩:=hcut;have M8:Zb _:=hM;clear hM M6;have oU:Zb ((insL X j id).length=xl+1):=by show _=_;rw[zr2 id (by rw[aY.X];exact hj),aY.X]
      have wB:Zb (insL X j id≠[]):=by show _≠_;unfold insL;simp
      have Q8:Zb _:=Q2.below M8.b;have N8:Zb _:=za0 M8.b (za2 N2.X) N2.X;have O8:Zb _:=O2.below M8.b;have Y8:Zb (za3 wc (some ⟨g2,0,none⟩) (insL X j id)):=ze8 (by have h9:=M8.o;rw[oU.X]at h9;exact h9);have AM:R1.length<=12:=by have h1:=congrArg zo df.X;have h2:=zR4 R id;simp only[qz]at h1;omega
      have ST:=zw6 cI eI 0 cJ c_ g2 0 kP R1 L tv (insL X j id) wc (zI6 O8.X my.X) (yB7 O8.X HM.X) Y8.X (by omega) (fun r hr=>⟨(kj.X r hr).1,by have:=(kj.X r hr).2.1;omega⟩) (by omega) ⟨wB.X,by have:=oU.X;omega⟩;rw[my.X,HM.X,oU.X]at ST;obtain⟨n0,FJ⟩:=za1 N8.X;obtain⟨y0,y1⟩:=za1 M8.y
      go_wp2_with fail
      refine ST.mono ?_;rintro e vO ⟨bK,bV,d7,bY,S3,rfl,hb,iC,f'⟩;rw[HM.X]at f'⊢;obtain⟨n3,rf⟩:=nmd S3.length;rw[rf.X]at f'⊢;have iK:Zb (S3.map RT.key=(rlN R id tv j).map RT.key):=by
       show _=_;rw[iC,z66 (ze9 (yu4 df.X (z49 (ze9 pr.X) id).pw)) wB.X,iL.X];exact z83 df.X rfl
      obtain⟨pv,cE⟩:=nmd (zc1 n zs os vs ko kv fine (rlN R id tv j) L);obtain⟨pd,KE⟩:=nmd (decide (pv=0));have AF:(pv==0)=pd:=KE.X;have iq:Zb (∀W,Za w.heap.size w W->PO W (w.heap.size+3) (za bK n3 bV) S3 (za (some ⟨d7,0,none⟩) ln bY) L->Zc zh 38 #[.agg #[ze zd n,za a zl ac,za ao ko co,za av kv cv,ze zd fine],.agg #[za bK n3 bV,za (some ⟨d7,0,none⟩) ln bY]] W fun e w'=>e=.returned (ze zd pv)/\Za W.heap.size W w'):=fun W hW hO=>by
       have hq:=zN7 pr.X mq.X kA.X hk bH.X tv j;have bJ:=(zj6 bm.X).1;have rj:=z05 iK.X (zV7 bm.X hk bH.X tv j);have pM:S3.length<=25:=by have h1:=congrArg zo iK.X;have h2:=yC8 R id tv j;simp only[qz]at h1;omega
       have PC:=zi9 n fine a ao av bK (some ⟨d7,0,none⟩) ac ko co kv cv bV bY zs os vs L S3 W (HA.below hW) (HO.below hW) (HV.below hW) (zI6 hO rf.X) (yB7 hO HM.X) aF.X aE.X aA aB (by omega) (fun r hr=>by have:=(rj r hr).2;omega) (fun r hr=>(hO.ints r hr).2) (by omega) (by rw[zb8,z52 iK.X,hq.length_eq,<-zb8];omega);rw[rf.X,HM.X,ck.X,zd5 L iK.X,cE.X]at PC;exact PC
      have hA:Za vO.heap.size vO (vO.alloc (zg #[za bK n3 bV,za (some ⟨d7,0,none⟩) ln bY] 33)):=zP _;have EE:Zb _:=(Q8.below hb).below hA;have uS:=za4 (zS vO (zg #[za bK n3 bV,za (some ⟨d7,0,none⟩) ln bY] 33));have J8:Zb _:=(f'.base (by have:=Q8.size;omega)).below hA;have dO:Zb _:=(Q8.below hb).size;clear hA hb iC f' ST n0 FJ y0 y1 Q8 N8 O8 Y8 M8 Q2 N2 O2 X2
      go_wp2_with fail
      generalize vO.alloc _=W14 at*;obtain⟨kq,lP⟩:=nmd vO.heap.size;rw[lP.X]at uS dO⊢;refine qG (S:=(fun W=>(W.cell? ⟨w.heap.size,0,none⟩=some (ze zd n)/\W.cell? ⟨w.heap.size,1,none⟩=some (za a zl ac)/\W.cell? ⟨w.heap.size,2,none⟩=some (za ao ko co)/\W.cell? ⟨w.heap.size,3,none⟩=some (za av kv cv)/\W.cell? ⟨w.heap.size,4,none⟩=some (ze zd fine))/\W.cell? ⟨kq,0,none⟩=some (za bK n3 bV)/\W.cell? ⟨kq,1,none⟩=some (za (some ⟨d7,0,none⟩) ln bY))) (by kernel_rfl) ?_ fun aa=> ?_
      ·exact⟨za7 (EE.below (y5 _ _).drew).c,za1 (za0 (y5 _ _).drew (za2 uS.X) uS.X)⟩
      have QD:Zb _:=EE.below (y5 _ _).drew;have wj:Zb _:=za0 (y5 _ _).drew (za2 uS.X) uS.X;have OD:Zb _:=J8.below (y5 _ _).drew;clear EE uS J8;generalize W14.drew=wd14 at*;refine tkH 0 aa ?_;refine tkH 1 aa ?_;refine tkH 2 aa ?_;refine rdH 3 fun K hK=> ?_;go_simp;refine(iq.X wd14 QD.b OD.X).mono ?_;rintro e vB ⟨rfl,hb⟩;have tP:Zb _:=QD.below hb;have IL:Zb _:=za0 hb (za2 wj.X) wj.X;have Mx:Zb _:=OD.below hb;clear hb
      (try go_wp2_with fail)
      refine hoW hK ⟨za7 tP.c,za1 IL.X⟩ fun aa=> ?_;clear hK K;refine tkH 4 aa ?_;refine rdH 5 fun K hK=> ?_;obtain⟨a0,a1⟩:=za1 tP.o;have af:=fun i=>yZ _ _ i _ _ tP.o;have s1:=xb vB (w.heap.size+2) 0 _ _ (za bK n3 bV) tP.o;have Oj:Zb (PO ((vB.setCell ⟨w.heap.size+2,0,none⟩ (za bK n3 bV)).setCell ⟨w.heap.size+2,1,none⟩ (za (some ⟨d7,0,none⟩) ln bY)) (w.heap.size+3) (za bK n3 bV) S3 (za (some ⟨d7,0,none⟩) ln bY) L):=(Mx.box tP.o).box s1;simp only[xM,xN]at s1;have s2:=xb _ (w.heap.size+2) 1 _ _ (za (some ⟨d7,0,none⟩) ln bY) s1;simp only[xM,xN,xO]at s2;have KW:Zb _:=s2;have MT:Zb (((vB.setCell ⟨w.heap.size+2,0,none⟩ (za bK n3 bV)).setCell ⟨w.heap.size+2,1,none⟩ (za (some ⟨d7,0,none⟩) ln bY)).heap[w.heap.size]? =some (zg #[ze zd n,za a zl ac,za ao ko co,za av kv cv,ze zd fine] 30 (0,0))):=za8 (za8 tP.c (by omega)) (by omega);have Pn:Zb (((vB.setCell ⟨w.heap.size+2,0,none⟩ (za bK n3 bV)).setCell ⟨w.heap.size+2,1,none⟩ (za (some ⟨d7,0,none⟩) ln bY)).heap[kq]? =some (zg #[za bK n3 bV,za (some ⟨d7,0,none⟩) ln bY] 33 (0,0))):=za8 (za8 IL.X (by have:=dO.X;omega)) (by have:=dO.X;omega);have OV:Zb (Za w.heap.size w ((vB.setCell ⟨w.heap.size+2,0,none⟩ (za bK n3 bV)).setCell ⟨w.heap.size+2,1,none⟩ (za (some ⟨d7,0,none⟩) ln bY))):=(tP.b.setCell (by simp) _).setCell (by simp) _;clear s1 s2;go_simp;refine hoW hK ⟨za7 MT.X,za1 Pn.X⟩ fun aa=> ?_;clear hK K;clear a0 a1 af;generalize((vB.setCell ⟨w.heap.size+2,0,none⟩ _).setCell ⟨w.heap.size+2,1,none⟩ _)=W16 at*;refine tkH 6 aa ?_;refine qF (by kernel_rfl) ?_ _;clear aa;obtain⟨a0,a1⟩:=za1 KW.X;go_wp2;refine xe (v:=.tuple #[.agg #[za bK n3 bV,za (some ⟨d7,0,none⟩) ln bY],.bool pd]) (by simp[results,Tryz.results131,go_sem,a0,a1]) rfl ?_;refine⟨OV.X,.inr ⟨by rw[mI.X,aY.X];exact pZ.X,bK,n3,bV,d7,bY,S3,?_,rf.X,iK.X,?_⟩⟩
      ·rw[show((j:Int)).toNat=j from yu j,cE.X,KE.X,HM.X]
      ·rw[HM.X]
       exact Oj.base (by omega)
def z14(w:zi)(v:Int)(f:Bool)(T:List RT)(L:List Int)(e:Ending)(w':zi):Prop:=∃ra rn rc la ln lc S,e=.returned (.tuple #[.agg #[za ra rn rc,za la ln lc],ze zd v,.bool f])/\Za w.heap.size w w'/\S.length=rn/\L.length=ln/\S.map RT.key=T.map RT.key/\PO w' w.heap.size (za ra rn rc) S (za la ln lc) L/\(f=true->∃g,la=some ⟨g,0,none⟩)
theorem zK3(id tv pl n fine:Int)(a ao av ra la:Option Zd)(zl ac ko co kv cv nr rc ln lc:Nat)(zs os vs L:List Int)(R:List RT)(w:zi)(hA:za3 w a zs)(hO:za3 w ao os)(hV:za3 w av vs)(aN:zs.length=zl)(an:os.length=ko*6)(au:vs.length=kv*5)(aA:ko<=9223372036854775807)(aB:kv<=9223372036854775807)(hP:zc3 w ra la nr ln R L)(hn:nr<=1048576)(hi:∀r∈R,r.ids.length<=1048576)(dh:ln<=1048576)(cT:(zb0 R R.length).length<=1048576)(kQ:zc1 n zs os vs ko kv fine R L=0->∃bl ol,la=some ⟨bl,ol,none⟩):
 Zc zh 94 #[.agg #[ze zd n,za a zl ac,za ao ko co,za av kv cv,ze zd fine],.agg #[za ra nr rc,za la ln lc],ze zd id,ze zd tv,ze zd pl] w (z14 w (rqD id tv pl n fine zs os vs ko kv R L) (rqB id tv pl n fine zs os vs ko kv R L) (rqR id tv pl n fine zs os vs ko kv R L) (rqL id tv pl n fine zs os vs ko kv R L)):=by
 have HA:=za4 hA;have gF:Zb _:=kQ;have HO:=za4 hO;have HV:=za4 hV;have ck:Zb _:=aN;have aF:Zb _:=an;have aE:Zb _:=au;have HP:=za4 hP;have HN:Zb _:=hP.1;have HM:Zb _:=hP.2.1;have HI:Zb _:=hi;clear hA hO hV aN an au hP hi kQ;obtain⟨pv,cE⟩:=nmd (zc1 n zs os vs ko kv fine R L);have bA:Zb (rqB id tv pl n fine zs os vs ko kv R L=false->rqD id tv pl n fine zs os vs ko kv R L=0/\rqB id tv pl n fine zs os vs ko kv R L=false/\rqR id tv pl n fine zs os vs ko kv R L=[]/\rqL id tv pl n fine zs os vs ko kv R L=[]):=fun h=>by
  unfold rqD rqR rqL;rw[h];exact⟨rfl,rfl,rfl,rfl⟩
 have gL:Zb (rqB id tv pl n fine zs os vs ko kv R L=true->rqD id tv pl n fine zs os vs ko kv R L=zi3 n zs os vs ko kv (rlN R id tv pl.toNat) (fine*L.length) (rlN R id tv pl.toNat).length - zi3 n zs os vs ko kv R (fine*L.length) R.length/\rqR id tv pl n fine zs os vs ko kv R L=rlN R id tv pl.toNat/\rqL id tv pl n fine zs os vs ko kv R L=L):=fun h=>by
  unfold rqD rqR rqL;rw[h];exact⟨rfl,rfl,rfl⟩
 have dZ:Zb (rqB id tv pl n fine zs os vs ko kv R L=(decide (pv=0)&&(decide (id∈zb0 R R.length)&&(inB pl 0 ((zc7 (lvR R id) tv).ids.length:Int)&&decide (zc1 n zs os vs ko kv fine (rlN R id tv pl.toNat) L=0))))):=by
  show _=_;unfold rqB;rw[cE.X]
 obtain⟨GD,iE⟩:=nmd (rqD id tv pl n fine zs os vs ko kv R L);obtain⟨GB,dK⟩:=nmd (rqB id tv pl n fine zs os vs ko kv R L);obtain⟨GR,cB⟩:=nmd (rqR id tv pl n fine zs os vs ko kv R L);obtain⟨GL,da⟩:=nmd (rqL id tv pl n fine zs os vs ko kv R L);rw[iE.X,dK.X,cB.X,da.X]at bA gL;rw[dK.X]at dZ;rw[iE.X,dK.X,cB.X,da.X];clear iE dK cB da;have Q0:Zb (GQ w (((w.alloc (zg #[ze zd n,za a zl ac,za ao ko co,za av kv cv,ze zd fine] 30)).alloc (zg #[za ra nr rc,za la ln lc] 33)).alloc (zg #[za none 0 0,za none 0 0] 33)) #[ze zd n,za a zl ac,za ao ko co,za av kv cv,ze zd fine] #[za ra nr rc,za la ln lc]):=by
  refine⟨((zP _).alloc (by simp) _).alloc (by simp;omega) _,?_,?_,?_⟩
  ·exact(xg _ _ (by simp;omega)).trans (xm _ _ _)
  ·exact(xg _ _ (by simp)).trans (xh _ _ _)
  ·have:=zS ((w.alloc (zg #[ze zd n,za a zl ac,za ao ko co,za av kv cv,ze zd fine] 30)).alloc (zg #[za ra nr rc,za la ln lc] 33)) (zg #[za none 0 0,za none 0 0] 33)
   simpa using this
 have pt:Zb (∀W,Za w.heap.size w W->Zc zh 38 #[.agg #[ze zd n,za a zl ac,za ao ko co,za av kv cv,ze zd fine],.agg #[za ra nr rc,za la ln lc]] W fun e w'=>e=.returned (ze zd pv)/\Za W.heap.size W w'):=fun W hW=>by
  have PC:=zi9 n fine a ao av ra la ac ko co kv cv rc lc zs os vs L R W (HA.below hW) (HO.below hW) (HV.below hW) (HP.2.2.1.below hW) (HP.2.2.2.1.below hW) aF.X aE.X aA aB (by rw[HN.X];exact hn) HI.X HP.2.2.2.2.2.2 (by rw[HM.X];exact dh) cT;rw[HN.X,HM.X,ck.X,cE.X]at PC;exact PC
 obtain⟨c0,c1,c2,c3,c4⟩:=za7 Q0.c;obtain⟨p0,p1⟩:=za1 Q0.p;go_enter Tryz.func94,Tryz.ntmps94
 go_wp2_with fail
 generalize((w.alloc _).alloc _).alloc _=W0 at*;refine(pt.X W0 Q0.b).mono ?_;rintro e w1 ⟨rfl,hb⟩;have Q1:Zb _:=Q0.below hb;clear hb c0 c1 c2 c3 c4 p0 p1 Q0;by_cases dv:pv=0;rotate_left
 ·have sy:(pv !=0)=true:=by simp[dv]
  obtain⟨g1,g2,g3,g4⟩:=bA.X (by rw[dZ.X,zX dv,jj]);subst g1 g2 g3 g4;obtain⟨a0,a1⟩:=za1 Q1.o;have af:=fun i=>yZ _ _ i _ _ Q1.o;have BE:=Q1.b;clear bA gL dZ;go_wp2;refine xe (v:=.tuple #[.agg #[za none 0 0,za none 0 0],ze zd 0,.bool false]) (by simp[results,Tryz.results94,go_sem,a0,a1]) rfl ?_;show z14 _ _ _ _ _ _ _;exact⟨none,0,0,none,0,0,[],rfl,(BE.setCell (by simp<;>omega) _).setCell (by simp<;>omega) _,rfl,rfl,rfl,⟨xZ _ _ _ _,(fun s hs=>by cases hs),xZ _ _ _ _⟩,(fun h=>by cases h)⟩
 ·have sy:(pv !=0)=false:=by simp[dv]
  have bm:Zb _:=cE.trans dv;obtain⟨bl,ol,Ov⟩:=gF.X bm.X;subst Ov;have fV:=ze6 bm.X;rw[zW dv,ji]at dZ;have SV:=zs3 n fine a ao av ra (some ⟨bl,ol,none⟩) ac ko co kv cv rc lc zs os vs L R w1 (HP.2.2.1.below Q1.b) (by rw[HN.X];exact hn) HP.2.2.2.2.2.2 pv cE.X (fun X hX=>by rw[ck.X,HN.X,HM.X];exact pt.X X (Q1.b.trans (hX.mono Q1.b.size)));have mj:zi7 n zs os vs ko kv fine R L=zr3 (zb0 R R.length):=by unfold zi7;rw[z7 bm.X]
  obtain⟨X,HX⟩:=nmd (zr3 (zb0 R R.length));obtain⟨xl,aY⟩:=nmd X.length;rw[mj,HX.X,aY.X,ck.X,HN.X,HM.X]at SV;have kD:xl<=12:=by rw[<-aY.X,<-HX.X,zo4];exact(zj6 bm.X).1
  clear mj;obtain⟨c0,c1,c2,c3,c4⟩:=za7 Q1.c;obtain⟨p0,p1⟩:=za1 Q1.p
  go_wp2_with fail
  refine SV.mono ?_;rintro e w2 ⟨sl,rfl,hb,ho⟩;obtain⟨sa,sc,bh⟩:=zg7 ho;subst bh;have Q2:Zb _:=Q1.below hb;have LH:=zx0 sa xl sc id X w2 (ze8 ho) (by rw[aY.X];exact zT _) (by omega);have sR:=zs9 X id;rw[aY.X]at sR;rw[sR]at LH;clear hb ho SV c0 c1 c2 c3 c4 p0 p1 Q1 sR;by_cases cz:id∈zb0 R R.length;rotate_left
  ·have Cz:id∉X:=by rw[<-HX.X,zD5];exact cz
   rw[zX Cz]at LH;obtain⟨g1,g2,g3,g4⟩:=bA.X (by rw[dZ.X,zX cz,jj]);subst g1 g2 g3 g4;obtain⟨a0,a1⟩:=za1 Q2.o;have af:=fun i=>yZ _ _ i _ _ Q2.o;have BE:=Q2.b;clear bA gL dZ
   go_wp2_with(go_at_call 87;refine LH.mono ?_;rintro e w' ⟨rfl,dz⟩;subst w')
   refine xe (v:=.tuple #[.agg #[za none 0 0,za none 0 0],ze zd 0,.bool false]) (by simp[results,Tryz.results94,go_sem,a0,a1]) rfl ?_;show z14 _ _ _ _ _ _ _;exact⟨none,0,0,none,0,0,[],rfl,(BE.setCell (by simp<;>omega) _).setCell (by simp<;>omega) _,rfl,rfl,rfl,⟨xZ _ _ _ _,(fun s hs=>by cases hs),xZ _ _ _ _⟩,(fun h=>by cases h)⟩
  ·have Cz:id∈X:=by rw[<-HX.X,zD5];exact cz
   rw[zW Cz]at LH;rw[zW cz,ji]at dZ;obtain⟨k,hk,be,-⟩:=zH6 cz;have MV:=yo4 id tv pl n fine a ao av ra zl ac ko co kv cv nr rc bl ol ln lc zs os vs L R w2 (HA.below Q2.b) (HO.below Q2.b) (HV.below Q2.b) ck.X aF.X aE.X aA aB (HP.below Q2.b) bm.X k hk be;clear Cz hk be cz HX;obtain⟨c0,c1,c2,c3,c4⟩:=za7 Q2.c;obtain⟨p0,p1⟩:=za1 Q2.p
   go_wp2_with(go_at_call 87;refine LH.mono ?_;rintro e w' ⟨rfl,dz⟩;subst w')
   refine MV.mono ?_;rintro e w3 ⟨hb,⟨pu,rfl⟩|⟨pu,bK,n3,bV,d7,bY,S3,rfl,pM,iC,f'⟩⟩
   ·rw[pu,jj]at dZ
    have QA:Zb (GQ w (w3.alloc (zg #[za none 0 0,za none 0 0] 33)) #[ze zd n,za a zl ac,za ao ko co,za av kv cv,ze zd fine] #[za ra nr rc,za (some ⟨bl,ol,none⟩) ln lc]):=(Q2.below hb).below (zP _);clear hb MV LH pu c0 c1 c2 c3 c4 p0 p1;obtain⟨g1,g2,g3,g4⟩:=bA.X (by rw[dZ.X]);subst g1 g2 g3 g4;obtain⟨a0,a1⟩:=za1 QA.o;have af:=fun i=>yZ _ _ i _ _ QA.o;have BE:=QA.b;clear bA gL dZ;go_wp2;refine xe (v:=.tuple #[.agg #[za none 0 0,za none 0 0],ze zd 0,.bool false]) (by simp[results,Tryz.results94,go_sem,a0,a1]) rfl ?_;show z14 _ _ _ _ _ _ _;exact⟨none,0,0,none,0,0,[],rfl,(BE.setCell (by simp<;>omega) _).setCell (by simp<;>omega) _,rfl,rfl,rfl,⟨xZ _ _ _ _,(fun s hs=>by cases hs),xZ _ _ _ _⟩,(fun h=>by cases h)⟩
   ·rw[pu,ji]at dZ
    rw[HM.X]at f'⊢;have Q3:Zb _:=Q2.below hb;have rf:Zb _:=pM;have iK:Zb _:=iC;have hA:Za w3.heap.size w3 (w3.alloc (zg #[za bK n3 bV,za (some ⟨d7,0,none⟩) ln bY] 33)):=zP _;have Q4:Zb _:=Q3.below hA;have B4:=za4 (zS w3 (zg #[za bK n3 bV,za (some ⟨d7,0,none⟩) ln bY] 33));have O4:Zb _:=(f'.base Q2.size).below hA;have dO:Zb _:=Q3.size;clear hA hb pM iC f' MV LH pu c0 c1 c2 c3 c4 p0 p1 Q2 Q3;by_cases hw:zc1 n zs os vs ko kv fine (rlN R id tv pl.toNat) L=0;rotate_left
    ·rw[zX hw]at dZ
     rw[zX hw];obtain⟨g1,g2,g3,g4⟩:=bA.X (by rw[dZ.X]);subst g1 g2 g3 g4;obtain⟨a0,a1⟩:=za1 Q4.o;have af:=fun i=>yZ _ _ i _ _ Q4.o;have BE:=Q4.b;clear bA gL dZ;go_wp2;refine xe (v:=.tuple #[.agg #[za none 0 0,za none 0 0],ze zd 0,.bool false]) (by simp[results,Tryz.results94,go_sem,a0,a1]) rfl ?_;show z14 _ _ _ _ _ _ _;exact⟨none,0,0,none,0,0,[],rfl,(BE.setCell (by simp<;>omega) _).setCell (by simp<;>omega) _,rfl,rfl,rfl,⟨xZ _ _ _ _,(fun s hs=>by cases hs),xZ _ _ _ _⟩,(fun h=>by cases h)⟩
    ·rw[zW hw]at dZ
     rw[zW hw];obtain⟨y1,y2,y3⟩:=gL.X dZ.X;have uF:=ze6 hw;have Cs:=z59 (zb7 bm.X).1 (zb7 bm.X).2.1 (fine*L.length) R.length (zT _);have EF:=z59 (zb7 hw).1 (zb7 hw).2.1 (fine*L.length) (rlN R id tv pl.toNat).length (zT _);have FF:Zb (∀W,Za w.heap.size w W->_):=fun W hW=>z75 n fine a ao av ra (some ⟨bl,ol,none⟩) ac ko co kv cv rc lc zs os vs L R W (HA.below hW) (HO.below hW) (HV.below hW) (HP.2.2.1.below hW) aF.X aE.X aA aB bm.X;have En:Zb (∀W,Za w.heap.size w W->PO W (w.heap.size+3) (za bK n3 bV) S3 (za (some ⟨d7,0,none⟩) ln bY) L->Zc zh 41 #[.agg #[ze zd n,za a zl ac,za ao ko co,za av kv cv,ze zd fine],.agg #[za bK n3 bV,za (some ⟨d7,0,none⟩) ln bY]] W fun e w'=>e=.returned (ze zd (zi3 n zs os vs ko kv (rlN R id tv pl.toNat) (fine*L.length) (rlN R id tv pl.toNat).length))/\Za W.heap.size W w'):=fun W hW hO=>by
      have h9:=z75 n fine a ao av bK (some ⟨d7,0,none⟩) ac ko co kv cv bV bY zs os vs L S3 W (HA.below hW) (HO.below hW) (HV.below hW) (zI6 hO rf.X) aF.X aE.X aA aB ((zd5 L iK.X).trans hw);rw[zw9 iK.X,ck.X]at h9;have e9:=z78 iK.X;rw[e9]at h9;rw[rf.X]at e9;rw[<-e9,HM.X]at h9;rw[<-e9,HM.X];exact h9
     rw[ck.X,HN.X,HM.X]at FF;rw[HM.X]at y1 Cs EF En;rw[HN.X]at y1 Cs;obtain⟨d1,Mq⟩:=nmd (zi3 n zs os vs ko kv R (fine*(ln:Int)) nr);obtain⟨d2,vY⟩:=nmd (zi3 n zs os vs ko kv (rlN R id tv pl.toNat) (fine*(ln:Int)) (rlN R id tv pl.toNat).length);rw[Mq.X]at y1 Cs FF;rw[vY.X]at y1 EF En;have hz:=uF.2.2;rw[HM.X]at hz;have oS:=uF.1;have gj:0<=d1/\d1<=20000000:=by have h1:=fV.1;rw[HN.X]at h1;omega
     have aC:0<=d2/\d2<=20000000:=by omega
     have x_:IntKind.i64.wrap (d2 - d1)=d2 - d1:=xz _ (by omega);obtain⟨Pb,M'⟩:=gj;obtain⟨Pi,NK⟩:=aC;have FK:Zb (S3.map RT.key=GR.map RT.key):=by show _=_;rw[y2];exact iK.X
     have tD:=dZ.X;have iE:Zb (d2 - d1=GD):=y1.symm;clear y1 y2 Cs EF hz oS uF hw gL bA dZ;subst tD;subst y3
     go_wp2_with fail
     generalize w3.alloc _=W4 at*;obtain⟨kq,lP⟩:=nmd w3.heap.size;rw[lP.X]at B4 dO⊢;refine qG (S:=(fun W=>(W.cell? ⟨w.heap.size,0,none⟩=some (ze zd n)/\W.cell? ⟨w.heap.size,1,none⟩=some (za a zl ac)/\W.cell? ⟨w.heap.size,2,none⟩=some (za ao ko co)/\W.cell? ⟨w.heap.size,3,none⟩=some (za av kv cv)/\W.cell? ⟨w.heap.size,4,none⟩=some (ze zd fine))/\(W.cell? ⟨w.heap.size+1,0,none⟩=some (za ra nr rc)/\W.cell? ⟨w.heap.size+1,1,none⟩=some (za (some ⟨bl,ol,none⟩) ln lc))/\W.cell? ⟨kq,0,none⟩=some (za bK n3 bV)/\W.cell? ⟨kq,1,none⟩=some (za (some ⟨d7,0,none⟩) ln bY))) (by kernel_rfl) ?_ fun aa=> ?_
     ·exact⟨za7 (Q4.below (y5 _ _).drew).c,za1 (Q4.below (y5 _ _).drew).p,za1 (za0 (y5 _ _).drew (za2 B4.X) B4.X)⟩
     have QD:Zb _:=Q4.below (y5 _ _).drew;have BD:Zb _:=za0 (y5 _ _).drew (za2 B4.X) B4.X;have OD:Zb _:=O4.below (y5 _ _).drew;clear Q4 B4 O4;generalize W4.drew=wd at*;refine tkH 0 aa ?_;refine tkH 1 aa ?_;refine tkH 2 aa ?_;refine tkH 4 aa ?_;refine tkH 5 aa ?_;refine rdH 3 fun K hK=> ?_;go_simp;refine(En.X wd QD.b OD.X).mono ?_;rintro e w5 ⟨rfl,hb⟩;have Q5:Zb _:=QD.below hb;have B5:Zb _:=za0 hb (za2 BD.X) BD.X;have O5:Zb _:=OD.below hb;clear hb
     (try go_wp2_with fail)
     refine hoW hK ⟨za7 Q5.c,za1 Q5.p,za1 B5.X⟩ fun aa=> ?_;clear hK K;refine rdH 6 fun K hK=> ?_;go_simp;refine(FF.X w5 Q5.b).mono ?_;rintro e w6 ⟨rfl,hb⟩;have Q6:Zb _:=Q5.below hb;have B6:Zb _:=za0 hb (za2 B5.X) B5.X;have O6:Zb _:=O5.below hb;clear hb
     (try go_wp2_with fail)
     refine hoW hK ⟨za7 Q6.c,za1 Q6.p,za1 B6.X⟩ fun aa=> ?_;clear hK K;refine tkH 7 aa ?_;refine rdH 8 fun K hK=> ?_;obtain⟨a0,a1⟩:=za1 Q6.o;have af:=fun i=>yZ _ _ i _ _ Q6.o;have s1:=xb w6 (w.heap.size+2) 0 _ _ (za bK n3 bV) Q6.o;have P7:Zb (PO ((w6.setCell ⟨w.heap.size+2,0,none⟩ (za bK n3 bV)).setCell ⟨w.heap.size+2,1,none⟩ (za (some ⟨d7,0,none⟩) ln bY)) (w.heap.size+3) (za bK n3 bV) S3 (za (some ⟨d7,0,none⟩) ln bY) GL):=(O6.box Q6.o).box s1;simp only[xM,xN]at s1;have s2:=xb _ (w.heap.size+2) 1 _ _ (za (some ⟨d7,0,none⟩) ln bY) s1;simp only[xM,xN,xO]at s2;have A7:Zb _:=s2;have C7:Zb (((w6.setCell ⟨w.heap.size+2,0,none⟩ (za bK n3 bV)).setCell ⟨w.heap.size+2,1,none⟩ (za (some ⟨d7,0,none⟩) ln bY)).heap[w.heap.size]? =some (zg #[ze zd n,za a zl ac,za ao ko co,za av kv cv,ze zd fine] 30 (0,0))):=za8 (za8 Q6.c (by omega)) (by omega);have D7:Zb (((w6.setCell ⟨w.heap.size+2,0,none⟩ (za bK n3 bV)).setCell ⟨w.heap.size+2,1,none⟩ (za (some ⟨d7,0,none⟩) ln bY)).heap[w.heap.size+1]? =some (zg #[za ra nr rc,za (some ⟨bl,ol,none⟩) ln lc] 33 (0,0))):=za8 (za8 Q6.p (by omega)) (by omega);have K7:Zb (((w6.setCell ⟨w.heap.size+2,0,none⟩ (za bK n3 bV)).setCell ⟨w.heap.size+2,1,none⟩ (za (some ⟨d7,0,none⟩) ln bY)).heap[kq]? =some (zg #[za bK n3 bV,za (some ⟨d7,0,none⟩) ln bY] 33 (0,0))):=za8 (za8 B6.X (by have:=dO.X;omega)) (by have:=dO.X;omega);have B7:Zb (Za w.heap.size w ((w6.setCell ⟨w.heap.size+2,0,none⟩ (za bK n3 bV)).setCell ⟨w.heap.size+2,1,none⟩ (za (some ⟨d7,0,none⟩) ln bY))):=(Q6.b.setCell (by simp) _).setCell (by simp) _;clear s1 s2;go_simp;refine hoW hK ⟨za7 C7.X,za1 D7.X,za1 K7.X⟩ fun aa=> ?_;clear hK K;clear a0 a1 af;generalize((w6.setCell ⟨w.heap.size+2,0,none⟩ _).setCell ⟨w.heap.size+2,1,none⟩ _)=W7 at*;refine tkH 9 aa ?_;refine tkH 10 aa ?_;refine qF (by kernel_rfl) ?_ _;clear aa;obtain⟨a0,a1⟩:=za1 A7.X;go_wp2;refine xe (v:=.tuple #[.agg #[za bK n3 bV,za (some ⟨d7,0,none⟩) ln bY],ze zd (d2 - d1),.bool true]) (by simp[results,Tryz.results94,go_sem,a0,a1]) rfl ?_;show z14 _ _ _ _ _ _ _;rw[<-iE.X];exact⟨bK,n3,bV,_,ln,bY,S3,rfl,B7.X,rf.X,HM.X,FK.X,P7.base (by omega),fun _=>⟨d7,rfl⟩⟩
theorem z09(id tv pl n fine:Int)(a ao av ra:Option Zd)(zl ac ko co kv cv nr rc bl ol ln lc:Nat)(zs os vs L:List Int)(R:List RT)(w:zi)(hA:za3 w a zs)(hO:za3 w ao os)(hV:za3 w av vs)(aN:zs.length=zl)(an:os.length=ko*6)(au:vs.length=kv*5)(aA:ko<=9223372036854775807)(aB:kv<=9223372036854775807)(hP:zc3 w ra (some ⟨bl,ol,none⟩) nr ln R L)(hn:nr<=1048576)(hi:∀r∈R,r.ids.length<=1048576)(dh:ln<=1048576)(cT:(zb0 R R.length).length<=1048576):
 Zc zh 94 #[.agg #[ze zd n,za a zl ac,za ao ko co,za av kv cv,ze zd fine],.agg #[za ra nr rc,za (some ⟨bl,ol,none⟩) ln lc],ze zd id,ze zd tv,ze zd pl] w (z14 w (rqD id tv pl n fine zs os vs ko kv R L) (rqB id tv pl n fine zs os vs ko kv R L) (rqR id tv pl n fine zs os vs ko kv R L) (rqL id tv pl n fine zs os vs ko kv R L)):=
 zK3 id tv pl n fine a ao av ra _ zl ac ko co kv cv nr rc ln lc zs os vs L R w hA hO hV aN an au aA aB hP hn hi dh cT (fun _=>⟨_,_,rfl⟩)
theorem z72(id tv pl n fine:Int)(a ao av ra:Option Zd)(zl ac ko co kv cv nr rc bl ol ln lc:Nat)(zs os vs L:List Int)(R:List RT)(w:zi)(hA:za3 w a zs)(hO:za3 w ao os)(hV:za3 w av vs)(aN:zs.length=zl)(an:os.length=ko*6)(au:vs.length=kv*5)(aA:ko<=9223372036854775807)(aB:kv<=9223372036854775807)(hP:zc3 w ra (some ⟨bl,ol,none⟩) nr ln R L)(hn:nr<=1048576)(hi:∀r∈R,r.ids.length<=1048576)(dh:ln<=1048576)(cT:(zb0 R R.length).length<=1048576):
 Zc zh 94 #[.agg #[ze zd n,za a zl ac,za ao ko co,za av kv cv,ze zd fine],.agg #[za ra nr rc,za (some ⟨bl,ol,none⟩) ln lc],ze zd id,ze zd tv,ze zd pl] w (yv4 w (rqD id tv pl n fine zs os vs ko kv R L) (rqB id tv pl n fine zs os vs ko kv R L) (rqR id tv pl n fine zs os vs ko kv R L) (rqL id tv pl n fine zs os vs ko kv R L)):=
 (z09 id tv pl n fine a ao av ra zl ac ko co kv cv nr rc bl ol ln lc zs os vs L R w hA hO hV aN an au aA aB hP hn hi dh cT).mono (fun _ _ h=>by
   obtain⟨ag,eb,ai,ak,dB,aj,S,h1,h2,h3,h4,h5,h6,_⟩:=h;exact⟨ag,eb,ai,ak,dB,aj,S,h1,h2,h3,h4,h5,h6⟩)
theorem zu9{w W:zi}{n fine id ab:Int}{a ao av ra la:Option Zd}{zl ac ko co kv cv nr rc ln lc bi oi bv ov i k:Nat}(h:BCP w W #[ze zd n,za a zl ac,za ao ko co,za av kv cv,ze zd fine] #[za ra nr rc,za la ln lc])(h1:W.cell? ⟨bi,oi+i,none⟩=some (ze zd id))(h2:W.cell? ⟨bv,ov+k*5,none⟩=some (ze zd ab)):W.cell? ⟨w.heap.size,0,none⟩=some (ze zd n)/\W.cell? ⟨w.heap.size,1,none⟩=some (za a zl ac)/\W.cell? ⟨w.heap.size,2,none⟩=some (za ao ko co)/\W.cell? ⟨w.heap.size,3,none⟩=some (za av kv cv)/\W.cell? ⟨w.heap.size,4,none⟩=some (ze zd fine)/\W.cell? ⟨w.heap.size+1,0,none⟩=some (za ra nr rc)/\W.cell? ⟨w.heap.size+1,1,none⟩=some (za la ln lc)/\W.cell? ⟨bi,oi+i,none⟩=some (ze zd id)/\W.cell? ⟨bv,ov+k*5,none⟩=some (ze zd ab):=by
 obtain⟨c0,c1,c2,c3,c4⟩:=za7 h.c;obtain⟨p0,p1⟩:=za1 h.p;exact⟨c0,c1,c2,c3,c4,p0,p1,h1,h2⟩
theorem zH3(n fine:Int)(a ao av ra la:Option Zd)(zl ac ko co kv cv nr rc ln lc:Nat)(zs os vs L:List Int)(R:List RT)(w:zi)(hA:za3 w a zs)(hO:za3 w ao os)(hV:za3 w av vs)(aN:zs.length=zl)(an:os.length=ko*6)(au:vs.length=kv*5)(aA:ko<=9223372036854775807)(aB:kv<=9223372036854775807)(hP:zc3 w ra la nr ln R L)(hn:nr<=1048576)(hi:∀r∈R,r.ids.length<=1048576)(dh:ln<=1048576)(cT:(zb0 R R.length).length<=1048576)
 (hrel:∀W id tv pl,Za w.heap.size w W->Zc zh 94 #[.agg #[ze zd n,za a zl ac,za ao ko co,za av kv cv,ze zd fine],.agg #[za ra nr rc,za la ln lc],ze zd id,ze zd tv,ze zd pl] W (yv4 W (rqD id tv pl n fine zs os vs ko kv R L) (rqB id tv pl n fine zs os vs ko kv R L) (rqR id tv pl n fine zs os vs ko kv R L) (rqL id tv pl n fine zs os vs ko kv R L))) (q0:QS) (hq:brQ n fine zs os vs ko kv R L=q0):
 Zc zh 93 #[.agg #[ze zd n,za a zl ac,za ao ko co,za av kv cv,ze zd fine],.agg #[za ra nr rc,za la ln lc]] w fun e w'=>e=.returned (.tuple #[ze zd q0.s.1,ze zd q0.s.2.1,ze zd (q0.s.2.2:Int),ze zd q0.v])/\Za w.heap.size w w':=by
 have HA:=za4 hA;have HO:=za4 hO;have HV:=za4 hV;have ck:=za4 aN;have aF:=za4 an;have aE:=za4 au;have HP:=za4 hP;have HN:Zb (R.length=nr):=hP.1;have HM:Zb (L.length=ln):=hP.2.1;have wV:=za4 hrel;obtain⟨pv,cE⟩:=nmd (zc1 n zs os vs ko kv fine R L);have Q0:Zb (BCP w ((w.alloc (zg #[ze zd n,za a zl ac,za ao ko co,za av kv cv,ze zd fine] 30)).alloc (zg #[za ra nr rc,za la ln lc] 33)) #[ze zd n,za a zl ac,za ao ko co,za av kv cv,ze zd fine] #[za ra nr rc,za la ln lc]):=BCP.new _ _ _;have SV:=zs3 n fine a ao av ra la ac ko co kv cv rc lc zs os vs L R ((w.alloc (zg #[ze zd n,za a zl ac,za ao ko co,za av kv cv,ze zd fine] 30)).alloc (zg #[za ra nr rc,za la ln lc] 33)) (HP.2.2.1.below Q0.b) (by rw[HN.X];exact hn) HP.2.2.2.2.2.2 pv cE.X (fun X hX=>by
  have hW:=Q0.b.trans (hX.mono Q0.b.size);have PC:=zi9 n fine a ao av ra la ac ko co kv cv rc lc zs os vs L R X (HA.below hW) (HO.below hW) (HV.below hW) (HP.2.2.1.below hW) (HP.2.2.2.1.below hW) aF.X aE.X aA aB (by rw[HN.X];exact hn) hi HP.2.2.2.2.2.2 (by rw[HM.X];exact dh) cT;rw[cE.X]at PC;exact PC)
 have dC:=zG1 n zs os vs ko kv fine R L;have AB:=y73 n fine zs os vs ko kv R L;rw[hq]at AB;obtain⟨X,HX⟩:=nmd (zi7 n zs os vs ko kv fine R L);obtain⟨m,rh⟩:=nmd X.length;rw[HX.X,rh.X]at AB dC;rw[HX.X,rh.X,ck.X,HN.X,HM.X]at SV;have He:Zb (∀(l:List zg2) (id ab:Int) (pl:Nat) (s:QS),qst (mvB n fine zs os vs ko kv R L) (mvD n fine zs os vs ko kv R L) l=s->rqB id ab (pl:Int) n fine zs os vs ko kv R L=true->rqD id ab (pl:Int) n fine zs os vs ko kv R L<s.v->qst (mvB n fine zs os vs ko kv R L) (mvD n fine zs os vs ko kv R L) (l++[(id,ab,pl)])=⟨true,(id,ab,pl),rqD id ab (pl:Int) n fine zs os vs ko kv R L⟩):=fun l id ab pl s h1 h2 h3=>yH8 h1 h2 h3;have NO:Zb (∀(l:List zg2) (id ab:Int) (pl:Nat) (s:QS),qst (mvB n fine zs os vs ko kv R L) (mvD n fine zs os vs ko kv R L) l=s->rqB id ab (pl:Int) n fine zs os vs ko kv R L=false∨¬rqD id ab (pl:Int) n fine zs os vs ko kv R L<s.v->qst (mvB n fine zs os vs ko kv R L) (mvD n fine zs os vs ko kv R L) (l++[(id,ab,pl)])=s):=fun l id ab pl s h1 h2=>yL7 h1 h2;have vy:Zb (qst (mvB n fine zs os vs ko kv R L) (mvD n fine zs os vs ko kv R L) []=qs0):=rfl;obtain⟨q,HQ⟩:=nmd (qst (mvB n fine zs os vs ko kv R L) (mvD n fine zs os vs ko kv R L));rw[HQ.X]at He NO vy AB;have AA:=za4 AB;clear hA hO hV aN an au hP hrel cE hi cT hq AB HQ;obtain⟨c0,c1,c2,c3,c4⟩:=za7 Q0.c;obtain⟨p0,p1⟩:=za1 Q0.p;go_enter Tryz.func93,Tryz.ntmps93
 go_wp2_with fail
 generalize(w.alloc _).alloc _=W0 at*;refine SV.mono ?_;rintro e w1 ⟨sl,rfl,hb,ho⟩;obtain⟨sa,sc,e,bh,Ke⟩:=zr8 ho;subst e;rw[rh.X];have Q1:=za4 (Q0.below hb);have IX:=za4 Ke;clear hb ho bh Ke SV Q0 c0 c1 c2 c3 c4 p0 p1 HX
 go_wp2_with fail
 go_loopw[9,10,11,12,13] (fun t9 wy Bq BB t wr=>∃i:Nat,i<=m/\t=ze zd i/\t9=ze zd (q (sq3 vs kv X i)).s.1/\wy=ze zd (q (sq3 vs kv X i)).s.2.1/\Bq=ze zd ((q (sq3 vs kv X i)).s.2.2:Int)/\BB=ze zd (q (sq3 vs kv X i)).v/\BCP w wr #[ze zd n,za a zl ac,za ao ko co,za av kv cv,ze zd fine] #[za ra nr rc,za la ln lc]/\Za w1.heap.size w1 wr) (fun _ _ _ _ t _=>m - (intOf t).toNat)
 case atStart=>exact⟨0,xi _,rfl,by show _=ze zd (q []).s.1;rw[vy.X];rfl,by show _=ze zd (q []).s.2.1;rw[vy.X];rfl,by show _=ze zd ((q []).s.2.2:Int);rw[vy.X];rfl,by show _=ze zd (q []).v;rw[vy.X];rfl,Q1.X,y5 _ _⟩
 case round=>
  clear vy;obtain⟨i,hi,rfl,rfl,rfl,rfl,rfl,hC,rQ⟩:=hrel;have C1:=za4 hC;have W1:=za4 rQ;clear hC rQ;by_cases ah:i<m
  ·have h1:(i:Int)<(m:Int):=by omega
   have I0:IntKind.i64.wrap ((i:Int)+1)=((i+1:Nat):Int):=by rw[xz _ (by omega)];omega
   obtain⟨id,bH⟩:=nmd (X.getD i 0);obtain⟨l1,lm⟩:=nmd (sq3 vs kv X i);have a8:Zb (sq3 vs kv X (i+1)=l1++sq2 vs id kv):=by rw[<-lm.X,<-bH.X];rfl
   rw[lm.X];clear lm
   go_wp2_with fail
   go_loopw[9,10,11,12,14] (fun t9 wy Bq BB t wr=>∃k:Nat,k<=kv/\t=ze zd k/\t9=ze zd (q (l1++sq2 vs id k)).s.1/\wy=ze zd (q (l1++sq2 vs id k)).s.2.1/\Bq=ze zd ((q (l1++sq2 vs id k)).s.2.2:Int)/\BB=ze zd (q (l1++sq2 vs id k)).v/\BCP w wr #[ze zd n,za a zl ac,za ao ko co,za av kv cv,ze zd fine] #[za ra nr rc,za la ln lc]/\Za w1.heap.size w1 wr) (fun _ _ _ _ t _=>kv - (intOf t).toNat)
   case atStart=>exact⟨0,xi _,rfl,by show _=ze zd (q (l1++[])).s.1;rw[qK],by show _=ze zd (q (l1++[])).s.2.1;rw[qK],by show _=ze zd ((q (l1++[])).s.2.2:Int);rw[qK],by show _=ze zd (q (l1++[])).v;rw[qK],C1.X,W1.X⟩
   case round=>
    clear C1 W1;obtain⟨k,hk,rfl,rfl,rfl,rfl,rfl,hC,rQ⟩:=hrel;have C2:=za4 hC;have W2:=za4 rQ;clear hC rQ;obtain⟨c0,c1,c2,c3,c4⟩:=za7 C2.c;by_cases hlk:k<kv
    ·have h2:(k:Int)<(kv:Int):=by omega
     have vl:IntKind.i64.wrap ((k:Int)+1)=((k+1:Nat):Int):=by rw[xz _ (by omega)];omega
     obtain⟨ab,vN⟩:=nmd (vs.getD (k*5) 0);obtain⟨l2,fR⟩:=nmd (l1++sq2 vs id k);have MF:Zb (l1++sq2 vs id (k+1)=l2++sp1 id ab 13):=by
      show l1++(sq2 vs id k++sp1 id (vs.getD (k*5) 0) 13)=_;rw[<-fR.X,vN.X,yi]
     rw[fR.X];clear fR
     go_wp2_with fail
     clear c0 c1 c2 c3 c4;go_loopw[9,10,11,12,15] (fun t9 wy Bq BB t wr=>∃p:Nat,p<=13/\t=ze zd p/\t9=ze zd (q (l2++sp1 id ab p)).s.1/\wy=ze zd (q (l2++sp1 id ab p)).s.2.1/\Bq=ze zd ((q (l2++sp1 id ab p)).s.2.2:Int)/\BB=ze zd (q (l2++sp1 id ab p)).v/\BCP w wr #[ze zd n,za a zl ac,za ao ko co,za av kv cv,ze zd fine] #[za ra nr rc,za la ln lc]/\Za w1.heap.size w1 wr) (fun _ _ _ _ t _=>13 - (intOf t).toNat)
     case atStart=>exact⟨0,xi _,rfl,by show _=ze zd (q (l2++[])).s.1;rw[qK],by show _=ze zd (q (l2++[])).s.2.1;rw[qK],by show _=ze zd ((q (l2++[])).s.2.2:Int);rw[qK],by show _=ze zd (q (l2++[])).v;rw[qK],C2.X,W2.X⟩
     case round=>
      clear C2 W2;obtain⟨p,hp,rfl,rfl,rfl,rfl,rfl,hC,rQ⟩:=hrel;have C3:=za4 hC;have W3:=za4 rQ;clear hC rQ;by_cases hlp:p<13
      ·have h3:(p:Int)<=12:=by omega
       have Np:IntKind.i64.wrap ((p:Int)+1)=((p+1:Nat):Int):=by rw[xz _ (by omega)];omega
       obtain⟨s,HS⟩:=nmd (q (l2++sp1 id ab p));have eG:Zb (l2++sp1 id ab (p+1)=(l2++sp1 id ab p)++[(id,ab,p)]):=by
        show _=_;rw[zS7,yi]
       obtain⟨ch,bL⟩:=nmd (rqB id ab (p:Int) n fine zs os vs ko kv R L);obtain⟨dd,bk⟩:=nmd (rqD id ab (p:Int) n fine zs os vs ko kv R L);have YS:=He.X (l2++sp1 id ab p) id ab p s HS.X;have NS:=NO.X (l2++sp1 id ab p) id ab p s HS.X;rw[<-eG.X,bL.X,bk.X]at YS NS;have fm:=za4 YS;have bD:Zb (ch=false∨¬dd<s.v->q (l2++sp1 id ab (p+1))=s):=fun h=>NS (by simpa using h)
       clear YS NS;rw[HS.X];clear HS eG;obtain⟨bi,oi,e,ic⟩:=(IX.below W3.X) i (by rw[rh.X];exact ah);subst e;obtain⟨bv,ov,e,vc⟩:=(HV.below C3.b) (k*5) (by rw[aE.X];omega);subst e;rw[bH.X]at ic;rw[vN.X]at vc;have IC:=za4 ic;have VC:=za4 vc;have oA:Zb (bi<wr.heap.size):=zV ic;have Az:Zb (bv<wr.heap.size):=zV vc;clear ic vc;obtain⟨sf,⟨s1,s2,s3⟩,sv⟩:=s;simp only at fm bD⊢;go_upto_region 15 with fail;go_cut [16,17,18]from 39 to 56 (fun tN ph Lf wx=>ph=ze zd dd/\Lf=.bool ch/\BCP w wx #[ze zd n,za a zl ac,za ao ko co,za (some ⟨bv,ov,none⟩) kv cv,ze zd fine] #[za ra nr rc,za la ln lc]/\Za wr.heap.size wr wx)
       case first=>
        go_wp2_with fail
        refine qG (S:=(fun W=>W.cell? ⟨w.heap.size,0,none⟩=some (ze zd n)/\W.cell? ⟨w.heap.size,1,none⟩=some (za a zl ac)/\W.cell? ⟨w.heap.size,2,none⟩=some (za ao ko co)/\W.cell? ⟨w.heap.size,3,none⟩=some (za (some ⟨bv,ov,none⟩) kv cv)/\W.cell? ⟨w.heap.size,4,none⟩=some (ze zd fine)/\W.cell? ⟨w.heap.size+1,0,none⟩=some (za ra nr rc)/\W.cell? ⟨w.heap.size+1,1,none⟩=some (za la ln lc)/\W.cell? ⟨bi,oi+i,none⟩=some (ze zd id)/\W.cell? ⟨bv,ov+k*5,none⟩=some (ze zd ab))) (by kernel_rfl) ?_ fun aa=> ?_
        ·exact zu9 (C3.below (y5 _ _).drew) (keepL IC.X (y5 _ _).drew) (keepL VC.X (y5 _ _).drew)
        have kH:Zb (BCP w wr.drew #[ze zd n,za a zl ac,za ao ko co,za (some ⟨bv,ov,none⟩) kv cv,ze zd fine] #[za ra nr rc,za la ln lc]):=C3.below (y5 _ _).drew;have Bn:Zb (wr.drew.cell? ⟨bi,oi+i,none⟩=some (ze zd id)):=keepL IC.X (y5 _ _).drew;have v9:Zb (wr.drew.cell? ⟨bv,ov+k*5,none⟩=some (ze zd ab)):=keepL VC.X (y5 _ _).drew;have eQ:Zb (Za wr.heap.size wr wr.drew):=(y5 _ _).drew;generalize wr.drew=wd at*;refine tkH 0 aa ?_;refine tkH 1 aa ?_;refine tkH 2 aa ?_;refine tkH 3 aa ?_;refine tkH 4 aa ?_;refine tkH 5 aa ?_;refine tkH 6 aa ?_;refine tkH 7 aa ?_;refine tkH 8 aa ?_;refine tkH 9 aa ?_;refine tkH 10 aa ?_;refine tkH 11 aa ?_;refine tkH 12 aa ?_;refine xQ (rs:=[13,18]) (by kernel_rfl) (by simp) ?_;refine xL rfl (fun K hK=> ?_) ?_
        ·skip
         go_simp;refine(wV.X wd id ab (p:Int) kH.b).mono ?_;rw[bL.X,bk.X];rintro e w3 ⟨ag,n2,ai,ak,l2,aj,R2,rfl,hb,-⟩;have lx:=za4 (kH.below hb);have i8:Zb (w3.cell? ⟨bi,oi+i,none⟩=some (ze zd id)):=keepL Bn.X hb;have iS:Zb (w3.cell? ⟨bv,ov+k*5,none⟩=some (ze zd ab)):=keepL v9.X hb;have nc:=za4 (eQ.trans (hb.mono eQ.size));clear hb
         (try go_wp2_with fail)
         refine hoW hK (zu9 lx.X i8.X iS.X) fun aa=> ?_;clear hK K;refine tkH 14 aa ?_;refine tkH 15 aa ?_;refine tkH 16 aa ?_;refine tkH 17 aa ?_;refine rdH 18 fun K hK=> ?_;have eH:=za4 (lx.below ((y5 w3.heap.size w3).alloc (zT _) (zg #[za none 0 0,za none 0 0] 33)));have mD:Zb (zC (w3.alloc (zg #[za none 0 0,za none 0 0] 33)) ⟨bi,oi+i,none⟩=some (ze zd id)):=keepL i8.X ((y5 w3.heap.size w3).alloc (zT _) (zg #[za none 0 0,za none 0 0] 33));have mZ:Zb (zC (w3.alloc (zg #[za none 0 0,za none 0 0] 33)) ⟨bv,ov+k*5,none⟩=some (ze zd ab)):=keepL iS.X ((y5 w3.heap.size w3).alloc (zT _) (zg #[za none 0 0,za none 0 0] 33));have eB:=za4 (nc.trans (((y5 w3.heap.size w3).alloc (zT _) (zg #[za none 0 0,za none 0 0] 33)).mono nc.size));have aw:=za4 (zS w3 (zg #[za none 0 0,za none 0 0] 33));have aH:Zb (w.heap.size+2<=w3.heap.size):=lx.size;have ku:Zb (wr.heap.size<=w3.heap.size):=nc.size;go_simp;refine hoW hK (zu9 eH.X mD.X mZ.X) fun aa=> ?_;clear hK K;obtain⟨kz,cA⟩:=nmd w3.heap.size;rw[cA.X]at aw aH ku⊢;generalize(w3.alloc _)=wz at*;obtain⟨z0,z1⟩:=za1 aw.X;have zf:=fun i=>yZ _ _ i _ _ aw.X;refine rdH 19 fun K hK=> ?_;have G5:Zb (BCP w ((wz.setCell ⟨kz,0,none⟩ (za ag n2 ai)).setCell ⟨kz,1,none⟩ (za ak l2 aj)) #[ze zd n,za a zl ac,za ao ko co,za (some ⟨bv,ov,none⟩) kv cv,ze zd fine] #[za ra nr rc,za la ln lc]):=(eH.set aH.X).set aH.X;have FE:Zb (zC ((wz.setCell ⟨kz,0,none⟩ (za ag n2 ai)).setCell ⟨kz,1,none⟩ (za ak l2 aj)) ⟨bi,oi+i,none⟩=some (ze zd id)):=za5 (za5 mD.X (by have:=ku.X;have:=oA.X;omega)) (by have:=ku.X;have:=oA.X;omega);have Hv:Zb (zC ((wz.setCell ⟨kz,0,none⟩ (za ag n2 ai)).setCell ⟨kz,1,none⟩ (za ak l2 aj)) ⟨bv,ov+k*5,none⟩=some (ze zd ab)):=za5 (za5 mZ.X (by have:=ku.X;have:=Az.X;omega)) (by have:=ku.X;have:=Az.X;omega);have B5:Zb (Za wr.heap.size wr ((wz.setCell ⟨kz,0,none⟩ (za ag n2 ai)).setCell ⟨kz,1,none⟩ (za ak l2 aj))):=(eB.setCell (by have:=ku.X;simp;omega) _).setCell (by have:=ku.X;simp;omega) _;go_simp;refine hoW hK (zu9 G5.X FE.X Hv.X) fun aa=> ?_;clear hK K;generalize((wz.setCell ⟨kz,0,none⟩ _).setCell ⟨kz,1,none⟩ _)=w6 at*;refine tkH 20 aa ?_;refine tkH 21 aa ?_;refine qF (by kernel_rfl) ?_ _;clear aa
         (try go_wp2_with fail)
         go_meet;exact⟨rfl,rfl,G5.X,B5.X⟩
        refine xL rfl (fun K hK=> ?_) xP;have eH:=za4 (kH.below ((y5 wd.heap.size wd).alloc (zT _) (zg #[za none 0 0,za none 0 0] 33)));have mD:Zb (zC (wd.alloc (zg #[za none 0 0,za none 0 0] 33)) ⟨bi,oi+i,none⟩=some (ze zd id)):=keepL Bn.X ((y5 wd.heap.size wd).alloc (zT _) (zg #[za none 0 0,za none 0 0] 33));have mZ:Zb (zC (wd.alloc (zg #[za none 0 0,za none 0 0] 33)) ⟨bv,ov+k*5,none⟩=some (ze zd ab)):=keepL v9.X ((y5 wd.heap.size wd).alloc (zT _) (zg #[za none 0 0,za none 0 0] 33));have eB:=za4 (eQ.trans (((y5 wd.heap.size wd).alloc (zT _) (zg #[za none 0 0,za none 0 0] 33)).mono eQ.size));have aw:=za4 (zS wd (zg #[za none 0 0,za none 0 0] 33));have aH:Zb (w.heap.size+2<=wd.heap.size):=kH.size;have ku:Zb (wr.heap.size<=wd.heap.size):=eQ.size;go_simp;refine hoW hK (zu9 eH.X mD.X mZ.X) fun aa=> ?_;clear hK K;obtain⟨kz,cA⟩:=nmd wd.heap.size;rw[cA.X]at aw aH ku⊢;generalize(wd.alloc _)=wz at*;obtain⟨z0,z1⟩:=za1 aw.X;have zf:=fun i=>yZ _ _ i _ _ aw.X;refine rdH 13 fun K hK=> ?_;go_simp;refine(wV.X wz id ab (p:Int) eH.b).mono ?_;rw[bL.X,bk.X];rintro e w3 ⟨ag,n2,ai,ak,l2,aj,R2,rfl,hb,-⟩;have lx:=za4 (eH.below hb);have i8:Zb (w3.cell? ⟨bi,oi+i,none⟩=some (ze zd id)):=keepL mD.X hb;have iS:Zb (w3.cell? ⟨bv,ov+k*5,none⟩=some (ze zd ab)):=keepL mZ.X hb;have nc:=za4 (eB.trans (hb.mono eB.size));have q':=za4 (za0 hb (za2 aw.X) aw.X);obtain⟨z0,z1⟩:=za1 q'.X;have zf:=fun i=>yZ _ _ i _ _ q'.X;clear hb
        (try go_wp2_with fail)
        refine hoW hK (zu9 lx.X i8.X iS.X) fun aa=> ?_;clear hK K;refine tkH 14 aa ?_;refine tkH 15 aa ?_;refine tkH 16 aa ?_;refine tkH 17 aa ?_;refine rdH 19 fun K hK=> ?_;have G5:Zb (BCP w ((w3.setCell ⟨kz,0,none⟩ (za ag n2 ai)).setCell ⟨kz,1,none⟩ (za ak l2 aj)) #[ze zd n,za a zl ac,za ao ko co,za (some ⟨bv,ov,none⟩) kv cv,ze zd fine] #[za ra nr rc,za la ln lc]):=(lx.set aH.X).set aH.X;have FE:Zb (zC ((w3.setCell ⟨kz,0,none⟩ (za ag n2 ai)).setCell ⟨kz,1,none⟩ (za ak l2 aj)) ⟨bi,oi+i,none⟩=some (ze zd id)):=za5 (za5 i8.X (by have:=ku.X;have:=oA.X;omega)) (by have:=ku.X;have:=oA.X;omega);have Hv:Zb (zC ((w3.setCell ⟨kz,0,none⟩ (za ag n2 ai)).setCell ⟨kz,1,none⟩ (za ak l2 aj)) ⟨bv,ov+k*5,none⟩=some (ze zd ab)):=za5 (za5 iS.X (by have:=ku.X;have:=Az.X;omega)) (by have:=ku.X;have:=Az.X;omega);have B5:Zb (Za wr.heap.size wr ((w3.setCell ⟨kz,0,none⟩ (za ag n2 ai)).setCell ⟨kz,1,none⟩ (za ak l2 aj))):=(nc.setCell (by have:=ku.X;simp;omega) _).setCell (by have:=ku.X;simp;omega) _;go_simp;refine hoW hK (zu9 G5.X FE.X Hv.X) fun aa=> ?_;clear hK K;generalize((w3.setCell ⟨kz,0,none⟩ _).setCell ⟨kz,1,none⟩ _)=w6 at*;refine tkH 20 aa ?_;refine tkH 21 aa ?_;refine qF (by kernel_rfl) ?_ _;clear aa
        (try go_wp2_with fail)
        go_meet;exact⟨rfl,rfl,G5.X,B5.X⟩
       case rest=>
        obtain⟨rfl,rfl,hQ,CE⟩:=hcut;have C4:=za4 hQ;have W4:=za4 (W3.trans (CE.mono W3.size));have ic:=keepL IC.X CE;have vc:=keepL VC.X CE;clear hQ CE W3 C3 IC VC oA Az;obtain⟨c0,c1,c2,c3,c4⟩:=za7 C4.c;cases ch
        ·have ns:=bD.X (.inl rfl)
         have fN:Zb _:=ns;clear ns bD fm;go_wp2;go_roundw
         case rel=>exact⟨p+1,by omega,by first|rfl|go_num,by rw[fN.X],by rw[fN.X],by rw[fN.X],by rw[fN.X],C4.X,W4.X⟩
         case measure=>simp[intOf];omega
        ·by_cases ke:dd<sv
         ·have ns:=fm.X rfl ke
          have fN:Zb _:=ns;clear ns bD fm;go_wp2;go_roundw
          case rel=>exact⟨p+1,by omega,by first|rfl|go_num,by rw[fN.X],by rw[fN.X],by rw[fN.X],by rw[fN.X],C4.X,W4.X⟩
          case measure=>simp[intOf];omega
         ·have ns:=bD.X (.inr ke)
          have fN:Zb _:=ns;clear ns bD fm;go_wp2;go_roundw
          case rel=>exact⟨p+1,by omega,by first|rfl|go_num,by rw[fN.X],by rw[fN.X],by rw[fN.X],by rw[fN.X],C4.X,W4.X⟩
          case measure=>simp[intOf];omega
      ·have Cf:p=13:=by omega
       subst Cf;rw[<-MF.X];obtain⟨s,HS⟩:=nmd (q (l1++sq2 vs id (k+1)));rw[HS.X];go_wp2;go_roundw
       case rel=>exact⟨k+1,by omega,by first|rfl|go_num,by rw[HS.X],by rw[HS.X],by rw[HS.X],by rw[HS.X],C3.X,W3.X⟩
       case measure=>simp[intOf];omega
    ·have cV:k=kv:=by omega
     subst cV;have h2:¬((k:Int)<(k:Int)):=by omega
     rw[<-a8.X];obtain⟨s,HS⟩:=nmd (q (sq3 vs k X (i+1)));rw[HS.X];go_wp2;go_roundw
     case rel=>exact⟨i+1,by omega,by first|rfl|go_num,by rw[HS.X],by rw[HS.X],by rw[HS.X],by rw[HS.X],C2.X,W2.X⟩
     case measure=>simp[intOf];omega
  ·have oI:i=m:=by omega
   subst oI;have h1:¬((i:Int)<(i:Int)):=by omega
   rw[AA.X];clear He NO AA;obtain⟨sf,⟨s1,s2,s3⟩,sv⟩:=q0;simp only;go_wp2;refine xe (v:=.tuple #[ze zd s1,ze zd s2,ze zd (s3:Int),ze zd sv]) (by simp[results,Tryz.results93,go_sem]) rfl ?_;exact⟨rfl,C1.b⟩
theorem yD7{w:zi}{base n rc m lc:Nat}{ra la:Option Zd}{S:List RT}{L:List Int}(h:PO w base (za ra n rc) S (za la m lc) L)(hn:S.length=n)(hm:L.length=m):zc3 w ra la n m S L:=by
 have hr:=h.r;have hl:=h.l;rw[hn]at hr;rw[hm]at hl;exact⟨hn,hm,zI6 h hn,yB7 h hm,z70 hr,z70 hl,fun r hr=>ym1 (h.s r hr)⟩
theorem PO.box2{w:zi}{base k:Nat}{rs ls u v:Value}{S:List RT}{L:List Int}{cs:Array Value}(h:PO w base rs S ls L)(hk:w.heap[k]? =some (.cells cs 33 (0,0))):PO ((w.setCell ⟨k,0,none⟩ u).setCell ⟨k,1,none⟩ v) base rs S ls L:=(h.box hk).box (xb w k 0 _ _ u hk)
theorem z96(st n fine:Int)(a ao av ra la:Option Zd)(zl ac ko co kv cv nr rc ln lc:Nat)(zs os vs L:List Int)(R:List RT)(w:zi)(hA:za3 w a zs)(hO:za3 w ao os)(hV:za3 w av vs)(aN:zs.length=zl)(an:os.length=ko*6)(au:vs.length=kv*5)(aA:ko<=9223372036854775807)(aB:kv<=9223372036854775807)(hP:zc3 w ra la nr ln R L)(hn:nr<=1048576)(hi:∀r∈R,r.ids.length<=1048576)(dh:ln<=1048576)(cT:(zb0 R R.length).length<=1048576):
 Zc zh 43 #[.agg #[ze zd n,za a zl ac,za ao ko co,za av kv cv,ze zd fine],.agg #[za ra nr rc,za la ln lc],ze zd st] w (z97 w (dcN st n fine zs os vs ko kv R L) (dcR st n fine zs os vs ko kv R L) (dcL st n fine zs os vs ko kv R L)):=by
 have HA:=za4 hA;have HO:=za4 hO;have HV:=za4 hV;have ck:=za4 aN;have aF:=za4 an;have aE:=za4 au;have HP:=za4 hP;have HN:Zb (R.length=nr):=hP.1;have HM:Zb (L.length=ln):=hP.2.1;have HI:=za4 hi;clear hA hO hV aN an au hP hi;obtain⟨pv,cE⟩:=nmd (zc1 n zs os vs ko kv fine R L);obtain⟨k1,df⟩:=nmd (inB st 0 60);have d6:Zb (dcB st n fine zs os vs ko kv R L=(decide (pv=0)&&k1)):=by show _=_;unfold dcB;rw[cE.X,df.X]
 have bA:Zb (dcB st n fine zs os vs ko kv R L=false->dcN st n fine zs os vs ko kv R L= -1/\dcR st n fine zs os vs ko kv R L=[]/\dcL st n fine zs os vs ko kv R L=[]):=fun h=>by
  unfold dcN dcR dcL;rw[h];exact⟨rfl,rfl,rfl⟩
 have gL:Zb (dcB st n fine zs os vs ko kv R L=true->dcN st n fine zs os vs ko kv R L=(dsC n fine zs os vs ko kv L st.toNat R:Int)/\dcR st n fine zs os vs ko kv R L=dsR n fine zs os vs ko kv L st.toNat R/\dcL st n fine zs os vs ko kv R L=L):=fun h=>by
  unfold dcN dcR dcL;rw[h];exact⟨rfl,rfl,rfl⟩
 obtain⟨GN,tA⟩:=nmd (dcN st n fine zs os vs ko kv R L);obtain⟨GR,cB⟩:=nmd (dcR st n fine zs os vs ko kv R L);obtain⟨GL,da⟩:=nmd (dcL st n fine zs os vs ko kv R L);rw[tA.X,cB.X,da.X]at bA gL;rw[tA.X,cB.X,da.X];clear tA cB da;have Q0:Zb (GQ w (((w.alloc (zg #[ze zd n,za a zl ac,za ao ko co,za av kv cv,ze zd fine] 30)).alloc (zg #[za ra nr rc,za la ln lc] 33)).alloc (zg #[za none 0 0,za none 0 0] 33)) #[ze zd n,za a zl ac,za ao ko co,za av kv cv,ze zd fine] #[za ra nr rc,za la ln lc]):=by
  refine⟨((zP _).alloc (by simp) _).alloc (by simp;omega) _,?_,?_,?_⟩
  ·exact(xg _ _ (by simp;omega)).trans (xm _ _ _)
  ·exact(xg _ _ (by simp)).trans (xh _ _ _)
  ·have:=zS ((w.alloc (zg #[ze zd n,za a zl ac,za ao ko co,za av kv cv,ze zd fine] 30)).alloc (zg #[za ra nr rc,za la ln lc] 33)) (zg #[za none 0 0,za none 0 0] 33)
   simpa using this
 have pt:Zb (∀W,Za w.heap.size w W->Zc zh 38 #[.agg #[ze zd n,za a zl ac,za ao ko co,za av kv cv,ze zd fine],.agg #[za ra nr rc,za la ln lc]] W fun e w'=>e=.returned (ze zd pv)/\Za W.heap.size W w'):=fun W hW=>by
  have PC:=zi9 n fine a ao av ra la ac ko co kv cv rc lc zs os vs L R W (HA.below hW) (HO.below hW) (HV.below hW) (HP.2.2.1.below hW) (HP.2.2.2.1.below hW) aF.X aE.X aA aB (by rw[HN.X];exact hn) HI.X HP.2.2.2.2.2.2 (by rw[HM.X];exact dh) cT;rw[HN.X,HM.X,ck.X,cE.X]at PC;exact PC
 obtain⟨c0,c1,c2,c3,c4⟩:=za7 Q0.c;obtain⟨p0,p1⟩:=za1 Q0.p;go_enter Tryz.func43,Tryz.ntmps43
 go_wp2_with fail
 generalize((w.alloc _).alloc _).alloc _=W0 at*;refine(pt.X W0 Q0.b).mono ?_;rintro e w1 ⟨rfl,hb⟩;have Q1:=za4 (Q0.below hb);clear hb pt c0 c1 c2 c3 c4 p0 p1 Q0;by_cases dv:pv=0;rotate_left
 ·have sy:(pv !=0)=true:=by simp[dv]
  obtain⟨a0,a1⟩:=za1 Q1.o;have af:=fun i=>yZ _ _ i _ _ Q1.o;have B5:Zb (Za w.heap.size w ((w1.setCell ⟨w.heap.size+2,0,none⟩ (za none 0 0)).setCell ⟨w.heap.size+2,1,none⟩ (za none 0 0))):=(Q1.b.setCell (by simp) _).setCell (by simp) _;rw[zX dv,jj]at d6;obtain⟨g1,g2,g3⟩:=bA.X (by rw[d6.X];try rfl);subst g1 g2 g3;clear bA gL
  go_wp2_with(go_at_call 39;refine(zc0 _ _ _ _).mono ?_;rintro e w' ⟨rfl,dz⟩;subst w';rw[df.X])
  refine xe (v:=.tuple #[.agg #[za none 0 0,za none 0 0],ze zd (-1)]) (by simp[results,Tryz.results43,go_sem,a0,a1]) rfl ?_;show z97 _ _ _ _ _ _;exact⟨none,0,0,none,0,0,[],rfl,B5.X,rfl,rfl,rfl,⟨xZ _ _ _ _,(fun s hs=>by cases hs),xZ _ _ _ _⟩⟩
 have bm:=za4 (cE.trans dv);subst dv;rw[zW rfl,ji]at d6;clear cE;cases k1
 ·obtain⟨a0,a1⟩:=za1 Q1.o
  have af:=fun i=>yZ _ _ i _ _ Q1.o;have B5:Zb (Za w.heap.size w ((w1.setCell ⟨w.heap.size+2,0,none⟩ (za none 0 0)).setCell ⟨w.heap.size+2,1,none⟩ (za none 0 0))):=(Q1.b.setCell (by simp) _).setCell (by simp) _;obtain⟨g1,g2,g3⟩:=bA.X (by rw[d6.X];try rfl);subst g1 g2 g3;clear bA gL
  go_wp2_with(go_at_call 39;refine(zc0 _ _ _ _).mono ?_;rintro e w' ⟨rfl,dz⟩;subst w';rw[df.X])
  refine xe (v:=.tuple #[.agg #[za none 0 0,za none 0 0],ze zd (-1)]) (by simp[results,Tryz.results43,go_sem,a0,a1]) rfl ?_;show z97 _ _ _ _ _ _;exact⟨none,0,0,none,0,0,[],rfl,B5.X,rfl,rfl,rfl,⟨xZ _ _ _ _,(fun s hs=>by cases hs),xZ _ _ _ _⟩⟩
 obtain⟨y1,y2,y3⟩:=gL.X d6.X;subst y3;have be:=zc8 df.X;obtain⟨N,hN⟩:∃N:Nat,st=(N:Int):=⟨st.toNat,by omega⟩;subst hN;rw[yu]at y1 y2;have tn:N<=60:=by omega
 obtain⟨AC,HC⟩:=nmd (dsC n fine zs os vs ko kv GL N R);rw[HC.X]at y1;subst y1;have HT:Zb (dsR n fine zs os vs ko kv GL N R=GR):=y2.symm;clear gL bA d6 y2 be;have fV:=ze6 bm.X;have aP:=(zh3.1 (zb7 bm.X).2.1).2;have CC:=zy5 ra la rc lc R GL w1 (HP.2.2.1.below Q1.b) (HP.2.2.2.1.below Q1.b) (HP.2.2.2.2.2.1.imp (fun h=>⟨h.1,HP.2.1.trans h.2⟩) id) (by omega) (fun r hr=>⟨(aP r hr).1,by have:=zk2 (aP r hr).2;omega⟩) (by omega);rw[HN.X,HM.X]at CC;obtain⟨p0,p1⟩:=za1 Q1.p;clear fV aP
 go_wp2_with(go_at_call 39;refine(zc0 _ _ _ _).mono ?_;rintro e w' ⟨rfl,dz⟩;subst w';rw[df.X])
 refine CC.mono ?_;rintro e w2 ⟨iu,wS,Bj,m7,S0,rfl,hb,eC,EW⟩;rw[HN.X,HM.X]at EW;rw[HN.X,HM.X];have hA:Za w2.heap.size w2 (w2.alloc (zg #[za iu nr wS,za (some ⟨Bj,0,none⟩) ln m7] 33)):=zP _;have Q2:=za4 ((Q1.below hb).below hA);have B2:=za4 (zS w2 (zg #[za iu nr wS,za (some ⟨Bj,0,none⟩) ln m7] 33));have O2:Zb (PO (w2.alloc (zg #[za iu nr wS,za (some ⟨Bj,0,none⟩) ln m7] 33)) (w.heap.size+3) (za iu nr wS) S0 (za (some ⟨Bj,0,none⟩) ln m7) GL):=(EW.base (by have:=Q1.size;omega)).below hA;have dO:=za4 ((Q1.below hb).size);have AX:=za4 eC;clear hA hb eC EW CC p0 p1 Q1 df
 go_wp2_with fail
 generalize w2.alloc _=W2 at*;obtain⟨kq,lP⟩:=nmd w2.heap.size;rw[lP.X]at B2 dO⊢;go_loopw[9] (fun t wr=>∃(k:Nat) (az:List RT) (cI:Option Zd) (n1 cJ eI l1 c_:Nat),k<=N/\t=ze zd k/\GQ w wr #[ze zd n,za a zl ac,za ao ko co,za av kv cv,ze zd fine] #[za ra nr rc,za la ln lc]/\wr.heap[kq]? =some (zg #[za cI n1 cJ,za (some ⟨eI,0,none⟩) l1 c_] 33 (0,0))/\PO wr (w.heap.size+3) (za cI n1 cJ) az (za (some ⟨eI,0,none⟩) l1 c_) GL/\(az.length=n1/\GL.length=l1)/\zc1 n zs os vs ko kv fine az GL=0/\(dsR n fine zs os vs ko kv GL (N - k) az).map RT.key=GR.map RT.key/\dsC n fine zs os vs ko kv GL (N - k) az+k=AC) (fun t _=>100 - (intOf t).toNat)
 case atStart=>
  exact⟨0,S0,iu,nr,wS,Bj,ln,m7,by omega,rfl,Q2.X,B2.X,O2.X,⟨(z78 AX.X).trans HN.X,HM.X⟩,by rw[zd5 GL AX.X];exact bm.X,by rw[Nat.sub_zero,z87 N AX.X,HT.X],by rw[Nat.sub_zero,zQ6 N AX.X,HC.X];omega⟩
 case round=>
  clear Q2 B2 O2 HP bm HT HC AX lP;obtain⟨k,az,cI,n1,cJ,eI,l1,c_,hk,rfl,hQ,hB,hO,Kp,dv,uv,oR⟩:=hrel;have Q3:=za4 hQ;have B3:=za4 hB;have O3:=za4 hO;have NL:=za4 Kp;have PV:=za4 dv;have KR:=za4 uv;have KC:=za4 oR;clear hQ hB hO Kp dv uv oR;by_cases ah:k<N
  ·have ng:(k:Int)<(N:Int):=by omega
   have vl:IntKind.i64.wrap ((k:Int)+1)=((k+1:Nat):Int):=by rw[xz _ (by omega)];omega
   have fV:=ze6 PV.X;have OT:=zj6 PV.X;have aP:=(zh3.1 (zb7 PV.X).2.1).2;have IA:∀W id tv pl,Za w.heap.size w W->PO W (w.heap.size+3) (za cI n1 cJ) az (za (some ⟨eI,0,none⟩) l1 c_) GL->_:=fun W id tv pl hW hO=>z09 id tv pl n fine a ao av cI zl ac ko co kv cv n1 cJ eI 0 l1 c_ zs os vs GL az W (HA.below hW) (HO.below hW) (HV.below hW) ck.X aF.X aE.X aA aB (yD7 hO NL.1 NL.2) (by have:=NL.1;omega) (fun r hr=>by have:=zk2 (aP r hr).2;omega) (by have:=NL.2;omega) (by omega)
   have JF:∀W id tv pl,Za w.heap.size w W->PO W (w.heap.size+3) (za cI n1 cJ) az (za (some ⟨eI,0,none⟩) l1 c_) GL->_:=fun W id tv pl hW hO=>z72 id tv pl n fine a ao av cI zl ac ko co kv cv n1 cJ eI 0 l1 c_ zs os vs GL az W (HA.below hW) (HO.below hW) (HV.below hW) ck.X aF.X aE.X aA aB (yD7 hO NL.1 NL.2) (by have:=NL.1;omega) (fun r hr=>by have:=zk2 (aP r hr).2;omega) (by have:=NL.2;omega) (by omega)
   have RM:Zb _:=IA;obtain⟨q,HQ⟩:=nmd (brQ n fine zs os vs ko kv az GL);have BR:=zH3 n fine a ao av cI (some ⟨eI,0,none⟩) zl ac ko co kv cv n1 cJ l1 c_ zs os vs GL az wr (HA.below Q3.b) (HO.below Q3.b) (HV.below Q3.b) ck.X aF.X aE.X aA aB (yD7 O3.X NL.1 NL.2) (by have:=NL.1;omega) (fun r hr=>by have:=zk2 (aP r hr).2;omega) (by have:=NL.2;omega) (by omega) (fun W id tv pl hW=>JF W id tv pl (Q3.b.trans (hW.mono Q3.b.size)) (O3.below hW)) q HQ.X;have lY:=yL1 HQ.X;clear IA JF fV OT aP;obtain⟨c0,c1,c2,c3,c4⟩:=za7 Q3.c;obtain⟨z0,z1⟩:=za1 B3.X
   go_wp2_with fail
   clear c0 c1 c2 c3 c4 z0 z1;refine BR.mono ?_;rintro e w4 ⟨rfl,hb⟩;obtain⟨sf,⟨s1,s2,s3⟩,sv⟩:=q;dsimp only at lY⊢;have Q4:=za4 (Q3.below hb);have B4:=za4 (za0 hb (za2 B3.X) B3.X);have O4:=za4 (O3.below hb);clear hb BR Q3 B3 O3;cases sf
   ·have mj:sv=0:=lY.1 rfl
    subst mj;have bB:(brQ n fine zs os vs ko kv az GL).f=false:=by rw[HQ.X]
    have e1:=KR.X;have e2:=KC.X;rw[(zu3 bB (N - k)).1]at e1;rw[(zu3 bB (N - k)).2,yb]at e2;subst e2;have E1:=za4 e1;clear bB e1 KR KC HQ lY RM;obtain⟨z0,z1⟩:=za1 B4.X;obtain⟨a0,a1⟩:=za1 Q4.o;have af:=fun i=>yZ _ _ i _ _ Q4.o;have s1:=xb w4 (w.heap.size+2) 0 _ _ (za cI n1 cJ) Q4.o;have P9:Zb (PO ((w4.setCell ⟨w.heap.size+2,0,none⟩ (za cI n1 cJ)).setCell ⟨w.heap.size+2,1,none⟩ (za (some ⟨eI,0,none⟩) l1 c_)) (w.heap.size+3) (za cI n1 cJ) az (za (some ⟨eI,0,none⟩) l1 c_) GL):=(O4.box Q4.o).box s1;have B9:Zb (Za w.heap.size w ((w4.setCell ⟨w.heap.size+2,0,none⟩ (za cI n1 cJ)).setCell ⟨w.heap.size+2,1,none⟩ (za (some ⟨eI,0,none⟩) l1 c_))):=(Q4.b.setCell (by simp) _).setCell (by simp) _;clear s1;go_wp2;refine xe (v:=.tuple #[.agg #[za cI n1 cJ,za (some ⟨eI,0,none⟩) l1 c_],ze zd (k:Int)]) (by simp[results,Tryz.results43,go_sem,a0,a1]) rfl ?_;show z97 _ _ _ _ _ _;exact⟨cI,n1,cJ,_,l1,c_,az,rfl,B9.X,NL.1,NL.2,E1.X,P9.base (by omega)⟩
   ·have mj:sv<0:=lY.2 rfl
    have rg:(sv==0)=false:=by simp;omega
    have bB:(brQ n fine zs os vs ko kv az GL).f=true:=by rw[HQ.X]
    obtain⟨b1,b2,b3,b4⟩:=yg8 HQ.X rfl;have su:N - k=(N - (k+1))+1:=by omega
    have e1:=KR.X;have e2:=KC.X;rw[su,(zu0 bB _).1]at e1;rw[su,(zu0 bB _).2]at e2;have E1:=za4 e1;have E2:=za4 e2;dsimp only at b1 b2 b3;have RL:=RM.X w4 s1 s2 (s3:Int) Q4.b O4.X;rw[b1,b2,b3]at RL;have X4:=za4 b4;obtain⟨RD,nT⟩:=nmd (rqD s1 s2 (s3:Int) n fine zs os vs ko kv az GL);rw[nT.X]at RL;obtain⟨nx,a8⟩:=nmd (dsN n fine zs os vs ko kv GL az);rw[a8.X]at RL E1 E2 X4;clear bB e1 e2 b1 b2 b3 b4 KR KC HQ nT a8 su lY RM;obtain⟨c0,c1,c2,c3,c4⟩:=za7 Q4.c;obtain⟨z0,z1⟩:=za1 B4.X
    go_wp2_with fail
    clear c0 c1 c2 c3 c4 z0 z1;refine RL.mono ?_;rintro e w5 ⟨ag,n2,ai,ak,l2,aj,S2,rfl,hb,cR,f_,cN,fd,rP⟩;obtain⟨bT,rfl⟩:=rP rfl;have Q5:=za4 (Q4.below hb);have B5:=za4 (za0 hb (za2 B4.X) B4.X);have O5:Zb (PO w5 (w.heap.size+3) (za ag n2 ai) S2 (za (some ⟨bT,0,none⟩) l2 aj) GL):=fd.base (by have:=Q4.size;omega);have O6:Zb (PO ((w5.setCell ⟨kq,0,none⟩ (za ag n2 ai)).setCell ⟨kq,1,none⟩ (za (some ⟨bT,0,none⟩) l2 aj)) (w.heap.size+3) (za ag n2 ai) S2 (za (some ⟨bT,0,none⟩) l2 aj) GL):=O5.box2 B5.X;have Q6:Zb (GQ w ((w5.setCell ⟨kq,0,none⟩ (za ag n2 ai)).setCell ⟨kq,1,none⟩ (za (some ⟨bT,0,none⟩) l2 aj)) #[ze zd n,za a zl ac,za ao ko co,za av kv cv,ze zd fine] #[za ra nr rc,za la ln lc]):=(Q5.set dO.X).set dO.X;have B6:Zb (((w5.setCell ⟨kq,0,none⟩ (za ag n2 ai)).setCell ⟨kq,1,none⟩ (za (some ⟨bT,0,none⟩) l2 aj)).heap[kq]? =some (zg #[za ag n2 ai,za (some ⟨bT,0,none⟩) l2 aj] 33 (0,0))):=by
     have s1:=xb w5 kq 0 _ _ (za ag n2 ai) B5.X;have s2:=xb _ kq 1 _ _ (za (some ⟨bT,0,none⟩) l2 aj) s1;simp only[xM,xN,xO]at s2;exact s2
    have dV:=za4 cN;have Ou:Zb (S2.length=n2/\GL.length=l2):=⟨cR,f_⟩;clear hb cR f_ cN fd rP RL Q4 B4 O4 O5;obtain⟨z0,z1⟩:=za1 B5.X;have zf:=fun i=>yZ _ _ i _ _ B5.X;go_wp2;go_roundw
    case rel=>
     exact⟨k+1,S2,ag,n2,ai,bT,l2,aj,by omega,by first|rfl|go_num,Q6.X,B6.X,O6.X,Ou.X,by rw[zd5 GL dV.X];exact X4.X,(z87 _ dV.X).trans E1.X,by rw[zQ6 _ dV.X];have:=E2.X;omega⟩
    case measure=>simp[intOf];omega
  ·have cV:k=N:=by omega
   subst cV;have e1:=KR.X;have e2:=KC.X;rw[Nat.sub_self]at e1 e2;have e3:k=AC:=by simpa[dsC]using e2
   subst e3;have E1:=za4 e1;clear e1 e2 KR KC;obtain⟨z0,z1⟩:=za1 B3.X;obtain⟨a0,a1⟩:=za1 Q3.o;have af:=fun i=>yZ _ _ i _ _ Q3.o;have s1:=xb wr (w.heap.size+2) 0 _ _ (za cI n1 cJ) Q3.o;have P9:Zb (PO ((wr.setCell ⟨w.heap.size+2,0,none⟩ (za cI n1 cJ)).setCell ⟨w.heap.size+2,1,none⟩ (za (some ⟨eI,0,none⟩) l1 c_)) (w.heap.size+3) (za cI n1 cJ) az (za (some ⟨eI,0,none⟩) l1 c_) GL):=(O3.box Q3.o).box s1;have B9:Zb (Za w.heap.size w ((wr.setCell ⟨w.heap.size+2,0,none⟩ (za cI n1 cJ)).setCell ⟨w.heap.size+2,1,none⟩ (za (some ⟨eI,0,none⟩) l1 c_))):=(Q3.b.setCell (by simp) _).setCell (by simp) _;clear s1;go_wp2;refine xe (v:=.tuple #[.agg #[za cI n1 cJ,za (some ⟨eI,0,none⟩) l1 c_],ze zd (k:Int)]) (by simp[results,Tryz.results43,go_sem,a0,a1]) rfl ?_;show z97 _ _ _ _ _ _;exact⟨cI,n1,cJ,_,l1,c_,az,rfl,B9.X,NL.1,NL.2,E1.X,P9.base (by omega)⟩
