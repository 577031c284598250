import Derived.Test.YtkchnomkiboihaaGreatPlainGrd
import Derived.Test.YtkchnomkiboihaaGreatPack39
set_option linter.unusedSimpArgs false
set_option maxHeartbeats 8000000
set_option maxRecDepth 10000
namespace Go.Proofs.YtkchnomkiboihaaGreat
theorem ji:type_of% @Bool.true_and:=@Bool.true_and
theorem jj:type_of% @Bool.false_and:=@Bool.false_and
theorem jk:type_of% @cond_true:=@cond_true
open Value renaming slice→za,int→ze
open IntKind renaming i64→zd
open Obj renaming cells→zg
open Proofs.Tryz renaming prog→zh
open Go renaming World→zi
open List renaming length→zo,range→zt
open Lit renaming int→zC
open World renaming cell?→zJ
open Go.RowKit
open Q
def rlN(R:List RT)(id tv:Int)(at_:Nat):List RT:=wrL (lvR R id) ⟨tv,none,insL (zc7 (lvR R id) tv).ids at_ id,0⟩
theorem yb8{R R':List RT}(h:R'.map RT.key=R.map RT.key)(id tv:Int)(at_:Nat):(rlN R' id tv at_).map RT.key=(rlN R id tv at_).map RT.key:=by
 have h1:=zI3 h id;exact z80 h1 (by show(_,_)=(_,_);rw[zo0 h1 tv])
theorem yu8{n:Int}{zs os vs:List Int}{ko kv:Nat}{fine:Int}{R:List RT}{L:List Int}(h:zc1 n zs os vs ko kv fine R L=0){k:Nat}(hk:k<R.length){id:Int}(cB:id∈(R.getD k rt0).ids)(tv:Int)(at_:Nat){R2:List RT}(cO:R2.map RT.key=(rlN R id tv at_).map RT.key):
 (z67 (R.getD k rt0).v tv).all (cmK n zs os vs ko kv R2)=decide (zc1 n zs os vs ko kv fine (rlN R id tv at_) L=0)∧
 (zc1 n zs os vs ko kv fine (rlN R id tv at_) L=0->∀z,((z67 (R.getD k rt0).v tv).map (cmF n zs os vs ko kv R R2)).sum=zh8 n zs os vs ko kv (rlN R id tv at_) z (rlN R id tv at_).length - zh8 n zs os vs ko kv R z R.length):=by
 obtain⟨hI,hC⟩:=yM0 h hk cB at_ ⟨tv,none,insL (zc7 (lvR R id) tv).ids at_ id,0⟩ rfl;have lU:=(z52 (zf0 (zh4.1 (zb7 h).2.1).1) id).pw;have ht:(zc7 (rlN R id tv at_) tv).ids=insL (zc7 (lvR R id) tv).ids at_ id:=(z27 lU tv).1 rfl;have hr:=fun v=>zo0 cO v;change(zc1 n zs os vs ko kv fine (rlN R id tv at_) L=0↔codeV true n zs os vs ko kv (R.getD k rt0).v (zc7 (rlN R id tv at_) (R.getD k rt0).v).ids=0/\codeV true n zs os vs ko kv tv (insL (zc7 (lvR R id) tv).ids at_ id)=0)at hI;change zc1 n zs os vs ko kv fine (rlN R id tv at_) L=0->∀z,zh8 n zs os vs ko kv (rlN R id tv at_) z (rlN R id tv at_).length - zh8 n zs os vs ko kv R z R.length=if(R.getD k rt0).v=tv then rcV n zs os vs ko kv tv (insL (zc7 (lvR R id) tv).ids at_ id) - rcV n zs os vs ko kv tv (zc7 R tv).ids else(rcV n zs os vs ko kv (R.getD k rt0).v (zc7 (rlN R id tv at_) (R.getD k rt0).v).ids - rcV n zs os vs ko kv (R.getD k rt0).v (zc7 R (R.getD k rt0).v).ids)+(rcV n zs os vs ko kv tv (insL (zc7 (lvR R id) tv).ids at_ id) - rcV n zs os vs ko kv tv (zc7 R tv).ids)at hC
 rw[<-ht]at hI hC;generalize(R.getD k rt0).v=v at*;by_cases hv:v=tv
 ·subst hv
  have e2:z67 v v=[v]:=by unfold z67;rw[z7 rfl]
  rw[e2];refine⟨?_,fun h9 z=> ?_⟩
  ·simp only[List.all_cons,List.all_nil,Bool.and_true]
   unfold cmK;rw[hr v];exact decide_eq_decide.2 ⟨fun h1=>hI.2 ⟨h1,h1⟩,fun h1=>(hI.1 h1).1⟩
  ·have:=hC h9 z
   rw[z7 rfl]at this;rw[this];simp[cmF,hr v]
 ·have e2:z67 v tv=[v,tv]:=by unfold z67;rw[ye hv]
  rw[e2];refine⟨?_,fun h9 z=> ?_⟩
  ·simp only[List.all_cons,List.all_nil,Bool.and_true]
   unfold cmK;rw[hr v,hr tv,<-Bool.decide_and];exact decide_eq_decide.2 hI.symm
  ·have:=hC h9 z
   rw[ye hv]at this;rw[this];simp[cmF,hr v,hr tv]
theorem zM6{R:List RT}(hp:R.Pairwise (fun a b=>a.v<b.v))(aq:∀r∈R,r.ids≠[])(cI:(zb0 R R.length).Nodup){k:Nat}(hk:k<R.length){id:Int}(cB:id∈(R.getD k rt0).ids)(tv:Int)(at_:Nat):((rlN R id tv at_).flatMap RT.ids).Perm (R.flatMap RT.ids):=by
 have hS:=zf0 hp;have au:=y23 hS hk aq cI cB;have wm:=zh2 hk;have uS:=zt2 hk cI;have u':=zf4 hp wm;have lU:=(z52 hS id).pw;have q1:=z57 (R:=lvR R id) (r:=⟨tv,none,insL (zc7 (lvR R id) tv).ids at_ id,0⟩) lU;have q2:=q1.trans (je _ ((zE3 (zc7 (lvR R id) tv).ids at_ id)));have q3:((rlN R id tv at_).flatMap RT.ids).Perm ((lvR R id).flatMap RT.ids++[id]):=by
  refine(jd (zc7 (lvR R id) tv).ids).1 (q2.trans ?_);rw[yi];rfl
 refine q3.trans ?_;rw[au];have q4:=z57 (r:=⟨(R.getD k rt0).v,(R.getD k rt0).a,cutP (R.getD k rt0).ids id,(R.getD k rt0).c⟩) hp;simp only[u']at q4;refine(jd (cutP (R.getD k rt0).ids id)).1 ?_;rw[yi];exact(je _ (z36 uS cB).symm).trans q4
theorem zY9{n:Int}{zs os vs:List Int}{ko kv:Nat}{fine:Int}{R:List RT}{L:List Int}(h:zc1 n zs os vs ko kv fine R L=0){k:Nat}(hk:k<R.length){id:Int}(cB:id∈(R.getD k rt0).ids)(tv:Int)(at_:Nat):∀r∈rlN R id tv at_,r.ids≠[]/\r.ids.length<=12:=fun r hr=>by
 obtain⟨_,h2,h3,_⟩:=zb7 h;obtain⟨hp,aP⟩:=zh4.1 h2;have hq:=zM6 hp (fun r hr=>(aP r hr).1) h3.1 hk cB tv at_;have bF:=(zj8 h).1;rw[zb8]at bF;have:=zP7 _ r hr;rw[hq.length_eq]at this;refine⟨?_,by omega⟩;rcases zx9.1 hr with⟨hm,_⟩|⟨e,hn⟩
 ·exact yw9 hm
 ·rw[e];exact hn
theorem yF7(R:List RT)(id tv:Int)(at_:Nat):(rlN R id tv at_).length<=2*R.length+1:=by
 unfold rlN wrL;have h1:=yp (fun x:RT=>decide (x.v<tv)) (lvR R id);have h2:=yp (fun x:RT=>decide (tv<x.v)) (lvR R id);have h3:=zQ9 R id;simp only[xS];split<;>simp<;>omega
noncomputable def rqB(id tv pl n fine:Int)(zs os vs:List Int)(ko kv:Nat)(R:List RT)(L:List Int):Bool:=decide (zc1 n zs os vs ko kv fine R L=0)&&(decide (id∈zb0 R R.length)&&(inB pl 0 ((zc7 (lvR R id) tv).ids.length:Int)&&decide (zc1 n zs os vs ko kv fine (rlN R id tv pl.toNat) L=0)))
noncomputable def rqR(id tv pl n fine:Int)(zs os vs:List Int)(ko kv:Nat)(R:List RT)(L:List Int):List RT:=bif rqB id tv pl n fine zs os vs ko kv R L then rlN R id tv pl.toNat else []
noncomputable def rqL(id tv pl n fine:Int)(zs os vs:List Int)(ko kv:Nat)(R:List RT)(L:List Int):List Int:=bif rqB id tv pl n fine zs os vs ko kv R L then L else []
noncomputable def rqD(id tv pl n fine:Int)(zs os vs:List Int)(ko kv:Nat)(R:List RT)(L:List Int):Int:=bif rqB id tv pl n fine zs os vs ko kv R L then zh8 n zs os vs ko kv (rlN R id tv pl.toNat) (fine*L.length) (rlN R id tv pl.toNat).length - zh8 n zs os vs ko kv R (fine*L.length) R.length else 0
theorem y06{R R':List RT}(id tv pl n fine:Int)(zs os vs:List Int)(ko kv:Nat)(L:List Int)(h:R'.map RT.key=R.map RT.key):rqB id tv pl n fine zs os vs ko kv R' L=rqB id tv pl n fine zs os vs ko kv R L:=by
 unfold rqB;rw[zd6 L h,zb8,zb8,z61 h,zo0 (zI3 h id) tv,zd6 L (yb8 h id tv pl.toNat)]
theorem yz8{R R':List RT}(id tv pl n fine:Int)(zs os vs:List Int)(ko kv:Nat)(L:List Int)(h:R'.map RT.key=R.map RT.key):rqD id tv pl n fine zs os vs ko kv R' L=rqD id tv pl n fine zs os vs ko kv R L:=by
 unfold rqD;have h2:=yb8 h id tv pl.toNat;rw[y06 _ _ _ _ _ _ _ _ _ _ _ h,zy1 h,zy1 h2,z69 h,z69 h2]
theorem yi3{id tv pl n fine:Int}{zs os vs:List Int}{ko kv:Nat}{R:List RT}{L:List Int}(h:rqB id tv pl n fine zs os vs ko kv R L=true):zc1 n zs os vs ko kv fine R L=0/\id∈zb0 R R.length/\inB pl 0 ((zc7 (lvR R id) tv).ids.length:Int)=true/\zc1 n zs os vs ko kv fine (rlN R id tv pl.toNat) L=0:=by
 unfold rqB at h;simp only[zY,qh]at h;exact h
noncomputable def mvB(n fine:Int)(zs os vs:List Int)(ko kv:Nat)(R:List RT)(L:List Int)(s:zg2):Bool:=rqB s.1 s.2.1 (s.2.2:Int) n fine zs os vs ko kv R L&&decide (rqD s.1 s.2.1 (s.2.2:Int) n fine zs os vs ko kv R L<0)
noncomputable def mvD(n fine:Int)(zs os vs:List Int)(ko kv:Nat)(R:List RT)(L:List Int)(s:zg2):Int:=rqD s.1 s.2.1 (s.2.2:Int) n fine zs os vs ko kv R L
noncomputable def brQ(n fine:Int)(zs os vs:List Int)(ko kv:Nat)(R:List RT)(L:List Int):QS:=qst (mvB n fine zs os vs ko kv R L) (mvD n fine zs os vs ko kv R L) (sp3 R vs kv (zi7 n zs os vs ko kv fine R L) (zi7 n zs os vs ko kv fine R L).length)
theorem y42{ok:zg2->Bool}{dl:zg2->Int}(l:List zg2):(qst ok dl l).f=false->qst ok dl l=qs0:=by
 suffices h:∀(m:List zg2) (s:QS),(s.f=false->s=qs0)->(m.foldl (zl7 ok dl) s).f=false->m.foldl (zl7 ok dl) s=qs0 from h l qs0 (fun _=>rfl)
 intro m
 induction m with
 |nil=>intro s hs hf;exact hs hf
 |cons p m ih=>
  intro s hs hf;rw[yM]at hf⊢;refine ih _ (fun h9=> ?_) hf;unfold zl7 at h9⊢;split
  ·rename_i hc
   rw[z7 hc]at h9;cases h9
  ·rename_i hc
   rw[ye hc]at h9;exact hs h9
theorem yL9{n fine:Int}{zs os vs:List Int}{ko kv:Nat}{R:List RT}{L:List Int}(l:List zg2):((qst (mvB n fine zs os vs ko kv R L) (mvD n fine zs os vs ko kv R L) l).f=false->(qst (mvB n fine zs os vs ko kv R L) (mvD n fine zs os vs ko kv R L) l).v=0)/\((qst (mvB n fine zs os vs ko kv R L) (mvD n fine zs os vs ko kv R L) l).f=true->(qst (mvB n fine zs os vs ko kv R L) (mvD n fine zs os vs ko kv R L) l).v<0):=by
 refine⟨fun h=>by rw[y42 l h];rfl,fun h=> ?_⟩;obtain⟨_,h2,h3⟩:=zz5 l h;generalize qst (mvB n fine zs os vs ko kv R L) (mvD n fine zs os vs ko kv R L) l=s at*;unfold mvB at h2;rw[zY,qh]at h2;have h4:=h2.2;unfold mvD at h3;omega
theorem yI3{n fine:Int}{zs os vs:List Int}{ko kv:Nat}{R:List RT}{L:List Int}{l:List zg2}{id ab:Int}{pl:Nat}{s:QS}(hs:qst (mvB n fine zs os vs ko kv R L) (mvD n fine zs os vs ko kv R L) l=s)(h1:rqB id ab (pl:Int) n fine zs os vs ko kv R L=true)(h2:rqD id ab (pl:Int) n fine zs os vs ko kv R L<s.v):qst (mvB n fine zs os vs ko kv R L) (mvD n fine zs os vs ko kv R L) (l++[(id,ab,pl)])=⟨true,(id,ab,pl),rqD id ab (pl:Int) n fine zs os vs ko kv R L⟩:=by
 have hv:=yL9 (n:=n) (fine:=fine) (zs:=zs) (os:=os) (vs:=vs) (ko:=ko) (kv:=kv) (R:=R) (L:=L) l;rw[zC6];rw[hs]at hv⊢;have h0:rqD id ab (pl:Int) n fine zs os vs ko kv R L<0:=by
  cases hf:s.f
  ·have:=hv.1 hf;omega
  ·have:=hv.2 hf;omega
 exact z54 (p:=(id,ab,pl)) (by show(_&&_)=true;rw[h1,zW h0];rfl) h2
theorem yL3{n fine:Int}{zs os vs:List Int}{ko kv:Nat}{R:List RT}{L:List Int}{l:List zg2}{id ab:Int}{pl:Nat}{s:QS}(hs:qst (mvB n fine zs os vs ko kv R L) (mvD n fine zs os vs ko kv R L) l=s)(h:rqB id ab (pl:Int) n fine zs os vs ko kv R L=false∨¬rqD id ab (pl:Int) n fine zs os vs ko kv R L<s.v):qst (mvB n fine zs os vs ko kv R L) (mvD n fine zs os vs ko kv R L) (l++[(id,ab,pl)])=s:=by
 have hv:=yL9 (n:=n) (fine:=fine) (zs:=zs) (os:=os) (vs:=vs) (ko:=ko) (kv:=kv) (R:=R) (L:=L) l;rw[zC6];rw[hs]at hv⊢;rcases h with h|h
 ·exact zq9 (p:=(id,ab,pl)) (by show(_&&_)=false;rw[h];rfl)
 ·cases hf:s.f
  ·have:=hv.1 hf
   exact zq9 (p:=(id,ab,pl)) (by show(_&&decide (rqD id ab (pl:Int) n fine zs os vs ko kv R L<0))=false;rw[zX (by omega),Bool.and_false])
  ·exact zw7 (p:=(id,ab,pl)) hf h
def sq2(V:List Int)(id:Int):Nat->List zg2
 |0=>[]
 |k+1=>sq2 V id k++sp1 id (V.getD (k*5) 0) 13
def sq3(V:List Int)(kv:Nat)(ids:List Int):Nat->List zg2
 |0=>[]
 |i+1=>sq3 V kv ids i++sq2 V (ids.getD i 0) kv
theorem yC4{ok:zg2->Bool}{dl:zg2->Int}(l:List zg2)(s:QS)(h:∀p∈l,ok p=false):l.foldl (zl7 ok dl) s=s:=by
 induction l with
 |nil=>rfl
 |cons p l ih=>
  rw[yM,zq9 (h p (yB ..))];exact ih (fun q hq=>h q (yt _ hq))
theorem y40(id ab:Int)(a b:Nat):sp1 id ab (a+b)=sp1 id ab a++(zt b).map (fun k=>(id,ab,a+k)):=by
 unfold sp1;rw[List.range_add,x8,List.map_map];rfl
theorem y35{ok:zg2->Bool}{dl:zg2->Int}{R:List RT}(bF:∀r∈R,r.ids.length<=12)(aZ:∀id ab pl,(zc7 R ab).ids.length<pl->ok (id,ab,pl)=false)(id ab:Int)(s:QS):(sp1 id ab 13).foldl (zl7 ok dl) s=(sp1 id ab ((zc7 R ab).ids.length+1)).foldl (zl7 ok dl) s:=by
 have hl:=z38 bF ab;obtain⟨b,hb⟩:∃b,13=((zc7 R ab).ids.length+1)+b:=⟨13 - ((zc7 R ab).ids.length+1),by omega⟩;rw[hb,y40,yH];refine yC4 _ _ fun p hp=> ?_;obtain⟨k,_,rfl⟩:=yF.1 hp;exact aZ _ _ _ (by omega)
theorem yl3{ok:zg2->Bool}{dl:zg2->Int}{R:List RT}(bF:∀r∈R,r.ids.length<=12)(aZ:∀id ab pl,(zc7 R ab).ids.length<pl->ok (id,ab,pl)=false)(V:List Int)(id:Int):∀(k:Nat) (s:QS),(sq2 V id k).foldl (zl7 ok dl) s=(sp2 R V id k).foldl (zl7 ok dl) s
 |0,s=>rfl
 |k+1,s=>by
  show(sq2 V id k++_).foldl _ _=(sp2 R V id k++_).foldl _ _;rw[yH,yH,yl3 bF aZ V id k,y35 bF aZ]
theorem yj6{ok:zg2->Bool}{dl:zg2->Int}{R:List RT}(bF:∀r∈R,r.ids.length<=12)(aZ:∀id ab pl,(zc7 R ab).ids.length<pl->ok (id,ab,pl)=false)(V:List Int)(kv:Nat)(ids:List Int):∀(i:Nat) (s:QS),(sq3 V kv ids i).foldl (zl7 ok dl) s=(sp3 R V kv ids i).foldl (zl7 ok dl) s
 |0,s=>rfl
 |i+1,s=>by
  show(sq3 V kv ids i++_).foldl _ _=(sp3 R V kv ids i++_).foldl _ _;rw[yH,yH,yj6 bF aZ V kv ids i,yl3 bF aZ]
theorem yC3{n fine:Int}{zs os vs:List Int}{ko kv:Nat}{R:List RT}{L:List Int}(id ab:Int)(pl:Nat)(h:(zc7 R ab).ids.length<pl):mvB n fine zs os vs ko kv R L (id,ab,pl)=false:=by
 cases hb:mvB n fine zs os vs ko kv R L (id,ab,pl)
 ·rfl
 ·exfalso
  unfold mvB at hb;rw[zY]at hb;obtain⟨h1,h2,h3,_⟩:=yi3 (id:=id) (tv:=ab) (pl:=(pl:Int)) hb.1;obtain⟨_,g2,g3,_⟩:=zb7 h1;obtain⟨hp,aP⟩:=zh4.1 g2;rw[zb8]at h2;obtain⟨r,hr,cB⟩:=jh.1 h2;obtain⟨k,hk,e⟩:=zo4 hr;rw[<-e]at cB;have hw:=y23 (zf0 hp) hk (fun r hr=>(aP r hr).1) g3.1 cB;rw[hw]at h3;have tX:(zc7 (wrL R ⟨(R.getD k rt0).v,(R.getD k rt0).a,cutP (R.getD k rt0).ids id,(R.getD k rt0).c⟩) ab).ids.length<=(zc7 R ab).ids.length:=by
   by_cases hv:ab=(R.getD k rt0).v
   ·rw[(z27 (r:=⟨(R.getD k rt0).v,(R.getD k rt0).a,cutP (R.getD k rt0).ids id,(R.getD k rt0).c⟩) hp ab).1 hv,hv,zf4 hp (zh2 hk)]
    exact yp _ _
   ·rw[(z27 (r:=⟨(R.getD k rt0).v,(R.getD k rt0).a,cutP (R.getD k rt0).ids id,(R.getD k rt0).c⟩) hp ab).2 hv]
    exact zT _
  generalize(zc7 (wrL R ⟨(R.getD k rt0).v,(R.getD k rt0).a,cutP (R.getD k rt0).ids id,(R.getD k rt0).c⟩) ab).ids.length=x at tX h3;unfold inB at h3;simp at h3;omega
theorem y37(n fine:Int)(zs os vs:List Int)(ko kv:Nat)(R:List RT)(L:List Int):qst (mvB n fine zs os vs ko kv R L) (mvD n fine zs os vs ko kv R L) (sq3 vs kv (zi7 n zs os vs ko kv fine R L) (zi7 n zs os vs ko kv fine R L).length)=brQ n fine zs os vs ko kv R L:=by
 by_cases hp:zc1 n zs os vs ko kv fine R L=0
 ·obtain⟨_,g2,_,_⟩:=zb7 hp
  obtain⟨_,aP⟩:=zh4.1 g2;exact yj6 (fun r hr=>zk2 (aP r hr).2) (fun id ab pl h=>yC3 id ab pl h) vs kv _ _ _
 ·have e:zi7 n zs os vs ko kv fine R L=[]:=ye hp
  unfold brQ;rw[e];rfl
theorem yl2{R S:List RT}(h:S.map RT.key=R.map RT.key)(V:List Int)(id:Int):∀k,sp2 S V id k=sp2 R V id k
 |0=>rfl
 |k+1=>by
  show sp2 S V id k++_=sp2 R V id k++_;rw[yl2 h V id k,zo0 h]
theorem ym2{R S:List RT}(h:S.map RT.key=R.map RT.key)(V:List Int)(kv:Nat)(ids:List Int):∀i,sp3 S V kv ids i=sp3 R V kv ids i
 |0=>rfl
 |i+1=>by
  show sp3 S V kv ids i++_=sp3 R V kv ids i++_;rw[ym2 h V kv ids i,yl2 h]
theorem ys8{n:Int}{zs os vs:List Int}{ko kv:Nat}{fine:Int}{R S:List RT}(L:List Int)(h:S.map RT.key=R.map RT.key):zi7 n zs os vs ko kv fine S L=zi7 n zs os vs ko kv fine R L:=by
 unfold zi7;rw[zd6 L h,zb8,zb8,z61 h]
theorem zE4{n fine:Int}{zs os vs:List Int}{ko kv:Nat}{R S:List RT}{L:List Int}(h:S.map RT.key=R.map RT.key):brQ n fine zs os vs ko kv S L=brQ n fine zs os vs ko kv R L:=by
 have e1:mvB n fine zs os vs ko kv S L=mvB n fine zs os vs ko kv R L:=funext fun s=>by unfold mvB;rw[y06 _ _ _ _ _ _ _ _ _ _ _ h,yz8 _ _ _ _ _ _ _ _ _ _ _ h]
 have e2:mvD n fine zs os vs ko kv S L=mvD n fine zs os vs ko kv R L:=funext fun s=>by unfold mvD;rw[yz8 _ _ _ _ _ _ _ _ _ _ _ h]
 unfold brQ;rw[e1,e2,ys8 L h,ym2 h]
noncomputable def dsN(n fine:Int)(zs os vs:List Int)(ko kv:Nat)(L:List Int)(R:List RT):List RT:=rlN R (brQ n fine zs os vs ko kv R L).s.1 (brQ n fine zs os vs ko kv R L).s.2.1 (brQ n fine zs os vs ko kv R L).s.2.2
noncomputable def dsR(n fine:Int)(zs os vs:List Int)(ko kv:Nat)(L:List Int):Nat->List RT->List RT
 |0,R=>R
 |k+1,R=>bif (brQ n fine zs os vs ko kv R L).f then dsR n fine zs os vs ko kv L k (dsN n fine zs os vs ko kv L R)else R
noncomputable def dsC(n fine:Int)(zs os vs:List Int)(ko kv:Nat)(L:List Int):Nat->List RT->Nat
 |0,_=>0
 |k+1,R=>bif (brQ n fine zs os vs ko kv R L).f then dsC n fine zs os vs ko kv L k (dsN n fine zs os vs ko kv L R)+1 else 0
theorem yt3{n fine:Int}{zs os vs:List Int}{ko kv:Nat}{L:List Int}{R S:List RT}(h:S.map RT.key=R.map RT.key):(dsN n fine zs os vs ko kv L S).map RT.key=(dsN n fine zs os vs ko kv L R).map RT.key:=by
 unfold dsN;rw[zE4 h];exact yb8 h _ _ _
theorem zv2{n fine:Int}{zs os vs:List Int}{ko kv:Nat}{L:List Int}{R:List RT}(h:(brQ n fine zs os vs ko kv R L).f=false)(k:Nat):dsR n fine zs os vs ko kv L k R=R/\dsC n fine zs os vs ko kv L k R=0:=by
 cases k with
 |zero=>exact⟨rfl,rfl⟩
 |succ k=>
  constructor
  ·show(bif (brQ n fine zs os vs ko kv R L).f then _ else _)=_
   rw[h];rfl
  ·show(bif (brQ n fine zs os vs ko kv R L).f then _ else _)=_
   rw[h];rfl
theorem zu8{n fine:Int}{zs os vs:List Int}{ko kv:Nat}{L:List Int}{R:List RT}(h:(brQ n fine zs os vs ko kv R L).f=true)(k:Nat):dsR n fine zs os vs ko kv L (k+1) R=dsR n fine zs os vs ko kv L k (dsN n fine zs os vs ko kv L R)/\dsC n fine zs os vs ko kv L (k+1) R=dsC n fine zs os vs ko kv L k (dsN n fine zs os vs ko kv L R)+1:=by
 constructor
 ·show(bif (brQ n fine zs os vs ko kv R L).f then _ else _)=_
  rw[h];rfl
 ·show(bif (brQ n fine zs os vs ko kv R L).f then _ else _)=_
  rw[h];rfl
theorem z94{n fine:Int}{zs os vs:List Int}{ko kv:Nat}{L:List Int}(k:Nat):∀{R S:List RT},S.map RT.key=R.map RT.key->(dsR n fine zs os vs ko kv L k S).map RT.key=(dsR n fine zs os vs ko kv L k R).map RT.key:=by
 induction k with
 |zero=>intro R S h;exact h
 |succ k ih=>
  intro R S h;cases hf:(brQ n fine zs os vs ko kv R L).f
  ·rw[(zv2 hf _).1,(zv2 (by rw[zE4 h];exact hf) _).1]
   exact h
  ·rw[(zu8 hf k).1,(zu8 (by rw[zE4 h];exact hf) k).1]
   exact ih (yt3 h)
theorem zP4{n fine:Int}{zs os vs:List Int}{ko kv:Nat}{L:List Int}(k:Nat):∀{R S:List RT},S.map RT.key=R.map RT.key->dsC n fine zs os vs ko kv L k S=dsC n fine zs os vs ko kv L k R:=by
 induction k with
 |zero=>intro R S h;rfl
 |succ k ih=>
  intro R S h;cases hf:(brQ n fine zs os vs ko kv R L).f
  ·rw[(zv2 hf _).2,(zv2 (by rw[zE4 h];exact hf) _).2]
  ·rw[(zu8 hf k).2,(zu8 (by rw[zE4 h];exact hf) k).2,ih (yt3 h)]
theorem yg9{n fine:Int}{zs os vs:List Int}{ko kv:Nat}{L:List Int}{R:List RT}{q:QS}(hq:brQ n fine zs os vs ko kv R L=q)(h:q.f=true):rqB q.s.1 q.s.2.1 (q.s.2.2:Int) n fine zs os vs ko kv R L=true/\rqR q.s.1 q.s.2.1 (q.s.2.2:Int) n fine zs os vs ko kv R L=dsN n fine zs os vs ko kv L R/\rqL q.s.1 q.s.2.1 (q.s.2.2:Int) n fine zs os vs ko kv R L=L/\zc1 n zs os vs ko kv fine (dsN n fine zs os vs ko kv L R) L=0:=by
 have h1:rqB q.s.1 q.s.2.1 (q.s.2.2:Int) n fine zs os vs ko kv R L=true:=by
  have h2:=(zz5 (ok:=mvB n fine zs os vs ko kv R L) (dl:=mvD n fine zs os vs ko kv R L) (sp3 R vs kv (zi7 n zs os vs ko kv fine R L) (zi7 n zs os vs ko kv fine R L).length));change(brQ n fine zs os vs ko kv R L).f=true->_/\mvB n fine zs os vs ko kv R L (brQ n fine zs os vs ko kv R L).s=true/\_ at h2;rw[hq]at h2;have h3:=(h2 h).2.1;unfold mvB at h3;rw[zY]at h3;exact h3.1
 have h4:=(yi3 h1).2.2.2;have e:dsN n fine zs os vs ko kv L R=rlN R q.s.1 q.s.2.1 q.s.2.2:=by unfold dsN;rw[hq]
 refine⟨h1,?_,?_,?_⟩
 ·unfold rqR
  rw[h1,e];rfl
 ·unfold rqL
  rw[h1];rfl
 ·rw[e]
  exact h4
theorem yL5{n fine:Int}{zs os vs:List Int}{ko kv:Nat}{L:List Int}{R:List RT}{q:QS}(hq:brQ n fine zs os vs ko kv R L=q):(q.f=false->q.v=0)/\(q.f=true->q.v<0):=by
 have:=yL9 (n:=n) (fine:=fine) (zs:=zs) (os:=os) (vs:=vs) (ko:=ko) (kv:=kv) (R:=R) (L:=L) (sp3 R vs kv (zi7 n zs os vs ko kv fine R L) (zi7 n zs os vs ko kv fine R L).length);change((brQ n fine zs os vs ko kv R L).f=false->(brQ n fine zs os vs ko kv R L).v=0)/\((brQ n fine zs os vs ko kv R L).f=true->(brQ n fine zs os vs ko kv R L).v<0)at this;rw[hq]at this;exact this
theorem y26{n fine:Int}{zs os vs:List Int}{ko kv:Nat}{L:List Int}(k:Nat):∀{R:List RT},zc1 n zs os vs ko kv fine R L=0->zc1 n zs os vs ko kv fine (dsR n fine zs os vs ko kv L k R) L=0:=by
 induction k with
 |zero=>intro R h;exact h
 |succ k ih=>
  intro R h;cases hf:(brQ n fine zs os vs ko kv R L).f
  ·rw[(zv2 hf (k+1)).1]
   exact h
  ·rw[(zu8 hf k).1]
   exact ih (yg9 rfl hf).2.2.2
noncomputable def dcB(st n fine:Int)(zs os vs:List Int)(ko kv:Nat)(R:List RT)(L:List Int):Bool:=decide (zc1 n zs os vs ko kv fine R L=0)&&inB st 0 60
noncomputable def dcR(st n fine:Int)(zs os vs:List Int)(ko kv:Nat)(R:List RT)(L:List Int):List RT:=bif dcB st n fine zs os vs ko kv R L then dsR n fine zs os vs ko kv L st.toNat R else []
noncomputable def dcL(st n fine:Int)(zs os vs:List Int)(ko kv:Nat)(R:List RT)(L:List Int):List Int:=bif dcB st n fine zs os vs ko kv R L then L else []
noncomputable def dcN(st n fine:Int)(zs os vs:List Int)(ko kv:Nat)(R:List RT)(L:List Int):Int:=bif dcB st n fine zs os vs ko kv R L then(dsC n fine zs os vs ko kv L st.toNat R:Int)else -1
theorem yh1{R S:List RT}(st n fine:Int)(zs os vs:List Int)(ko kv:Nat)(L:List Int)(h:S.map RT.key=R.map RT.key):dcB st n fine zs os vs ko kv S L=dcB st n fine zs os vs ko kv R L:=by
 unfold dcB;rw[zd6 L h]
theorem yH0{R S:List RT}(st n fine:Int)(zs os vs:List Int)(ko kv:Nat)(L:List Int)(h:S.map RT.key=R.map RT.key):(dcR st n fine zs os vs ko kv S L).map RT.key=(dcR st n fine zs os vs ko kv R L).map RT.key:=by
 unfold dcR;rw[yh1 _ _ _ _ _ _ _ _ _ h];cases dcB st n fine zs os vs ko kv R L
 ·rfl
 ·exact z94 _ h
theorem yF4{R S:List RT}(st n fine:Int)(zs os vs:List Int)(ko kv:Nat)(L:List Int)(h:S.map RT.key=R.map RT.key):dcL st n fine zs os vs ko kv S L=dcL st n fine zs os vs ko kv R L:=by
 unfold dcL;rw[yh1 _ _ _ _ _ _ _ _ _ h]
theorem yE1{R S:List RT}(st n fine:Int)(zs os vs:List Int)(ko kv:Nat)(L:List Int)(h:S.map RT.key=R.map RT.key):dcN st n fine zs os vs ko kv S L=dcN st n fine zs os vs ko kv R L:=by
 unfold dcN;rw[yh1 _ _ _ _ _ _ _ _ _ h,zP4 _ h]
theorem yz6(S P:List Int)(R:List RT)(L:List Int):∀(i:Nat) (x:Int),x∈(lvF S P R L i).2->x∈L∨∃j,j<i/\x=pkd S P j
 |0,_,h=>.inl h
 |i+1,x,h=>by
  rcases(z00 _ _ x).1 h with e|e
  ·exact .inr ⟨i,by omega,e⟩
  ·rcases yz6 S P R L i x e with h1|⟨j,hj,h1⟩
   ·exact .inl h1
   ·exact .inr ⟨j,by omega,h1⟩
theorem yB2{n:Int}{zs os vs:List Int}{ko kv:Nat}{fine:Int}{R:List RT}{L S P:List Int}(h:zc1 n zs os vs ko kv fine R L=0)(hI:LvI S P L.length 0 R L)(ho:∀x∈zb0 R R.length,zl6 os ko x=true):∀x∈(lvF S P R L P.length).2,(zC zd x).wf=true:=fun x hx=>by
 obtain⟨h1,_,_,h4,_⟩:=zb7 h;refine yA5 h1 ?_;rcases yz6 S P R L _ x hx with hl|⟨j,hj,e⟩
 ·obtain⟨i,hi,e⟩:=zs8 hl
  rw[<-e];exact(h4 i hi).1
 ·rw[e]
  exact ho _ (hI.mm j (xi _) hj)
theorem zL0{n:Int}{zs os vs:List Int}{ko kv:Nat}{fine:Int}{R:List RT}{L:List Int}(h:zc1 n zs os vs ko kv fine R L=0):∀x∈zb0 R R.length,zl6 os ko x=true:=fun x hx=>by
 obtain⟨_,h2,_⟩:=zb7 h;rw[zb8]at hx;obtain⟨r,hr,pG⟩:=jh.1 hx;obtain⟨j,hj,e⟩:=zo4 hr;have h3:=(zf3 (zg9 (h2 j hj).2.2).1).2.2;rw[e]at h3;obtain⟨i,hi,e2⟩:=zs8 pG;have h4:=zZ h3;have h5:=h4.2 i hi;rw[<-e2];unfold zW8 at h5;simp only[zY]at h5;exact h5.1
noncomputable def deS(R:List RT):List Int:=zr5 (zb0 R R.length)
noncomputable def deP(sd kk:Int)(R:List RT):List Int:=zs4 sd (deS R).length (min kk ((deS R).length:Int))
noncomputable def deQ(sd kk:Int)(R:List RT)(L:List Int):List RT×List Int:=lvF (deS R) (deP sd kk R) R L (deP sd kk R).length
noncomputable def deW(sd kk n fine:Int)(zs os vs:List Int)(ko kv:Nat)(R:List RT)(L:List Int):Int:=zc1 n zs os vs ko kv fine (deQ sd kk R L).1 (deQ sd kk R L).2
noncomputable def deB(sd kk n fine:Int)(zs os vs:List Int)(ko kv:Nat)(R:List RT)(L:List Int):Bool:=decide (zc1 n zs os vs ko kv fine R L=0)&&(inB kk 0 12&&inB sd 0 2147483647)
noncomputable def deF(sd kk n fine:Int)(zs os vs:List Int)(ko kv:Nat)(R:List RT)(L:List Int):Bool:=deB sd kk n fine zs os vs ko kv R L&&decide (deW sd kk n fine zs os vs ko kv R L=0)
noncomputable def deR(sd kk n fine:Int)(zs os vs:List Int)(ko kv:Nat)(R:List RT)(L:List Int):List RT:=bif deB sd kk n fine zs os vs ko kv R L then(if deW sd kk n fine zs os vs ko kv R L=0 then(deQ sd kk R L).1 else R)else []
noncomputable def deL(sd kk n fine:Int)(zs os vs:List Int)(ko kv:Nat)(R:List RT)(L:List Int):List Int:=bif deB sd kk n fine zs os vs ko kv R L then(if deW sd kk n fine zs os vs ko kv R L=0 then(deQ sd kk R L).2 else L)else []
noncomputable def deN(sd kk n fine:Int)(zs os vs:List Int)(ko kv:Nat)(R:List RT)(L:List Int):Int:=bif deB sd kk n fine zs os vs ko kv R L then z86 sd (deS R).length (min kk ((deS R).length:Int))else -1
theorem yc6{R R':List RT}(h:R'.map RT.key=R.map RT.key):deS R'=deS R:=by
 unfold deS;rw[zb8,zb8,z61 h]
theorem yF9{R R':List RT}(sd kk:Int)(h:R'.map RT.key=R.map RT.key):deP sd kk R'=deP sd kk R:=by
 unfold deP;rw[yc6 h]
theorem yw0{R R':List RT}(S P L:List Int)(h:R'.map RT.key=R.map RT.key):∀i,(lvF S P R' L i).1.map RT.key=(lvF S P R L i).1.map RT.key/\(lvF S P R' L i).2=(lvF S P R L i).2
 |0=>⟨h,rfl⟩
 |i+1=>by
  obtain⟨h1,h2⟩:=yw0 S P L h i;exact⟨zI3 h1 _,by rw[lvF,lvF,h2]⟩
theorem yd2{R R':List RT}(sd kk:Int)(L:List Int)(h:R'.map RT.key=R.map RT.key):(deQ sd kk R' L).1.map RT.key=(deQ sd kk R L).1.map RT.key/\(deQ sd kk R' L).2=(deQ sd kk R L).2:=by
 unfold deQ;rw[yc6 h,yF9 sd kk h];exact yw0 _ _ _ h _
theorem yh3{R R':List RT}(sd kk n fine:Int)(zs os vs:List Int)(ko kv:Nat)(L:List Int)(h:R'.map RT.key=R.map RT.key):deW sd kk n fine zs os vs ko kv R' L=deW sd kk n fine zs os vs ko kv R L:=by
 obtain⟨h1,h2⟩:=yd2 sd kk L h;unfold deW;rw[zd6 _ h1,h2]
theorem zE9{R R':List RT}(sd kk n fine:Int)(zs os vs:List Int)(ko kv:Nat)(L:List Int)(h:R'.map RT.key=R.map RT.key):deB sd kk n fine zs os vs ko kv R' L=deB sd kk n fine zs os vs ko kv R L:=by
 unfold deB;rw[zd6 _ h]
theorem yg7{R R':List RT}(sd kk n fine:Int)(zs os vs:List Int)(ko kv:Nat)(L:List Int)(h:R'.map RT.key=R.map RT.key):deF sd kk n fine zs os vs ko kv R' L=deF sd kk n fine zs os vs ko kv R L:=by
 unfold deF;rw[zE9 _ _ _ _ _ _ _ _ _ _ h,yh3 _ _ _ _ _ _ _ _ _ _ h]
theorem yd0{R R':List RT}(sd kk n fine:Int)(zs os vs:List Int)(ko kv:Nat)(L:List Int)(h:R'.map RT.key=R.map RT.key):deL sd kk n fine zs os vs ko kv R' L=deL sd kk n fine zs os vs ko kv R L:=by
 unfold deL;rw[zE9 _ _ _ _ _ _ _ _ _ _ h,yh3 _ _ _ _ _ _ _ _ _ _ h,(yd2 sd kk L h).2]
theorem yc3{R R':List RT}(sd kk n fine:Int)(zs os vs:List Int)(ko kv:Nat)(L:List Int)(h:R'.map RT.key=R.map RT.key):deN sd kk n fine zs os vs ko kv R' L=deN sd kk n fine zs os vs ko kv R L:=by
 unfold deN;rw[zE9 _ _ _ _ _ _ _ _ _ _ h,yc6 h]
theorem yg5{R R':List RT}(sd kk n fine:Int)(zs os vs:List Int)(ko kv:Nat)(L:List Int)(h:R'.map RT.key=R.map RT.key):(deR sd kk n fine zs os vs ko kv R' L).map RT.key=(deR sd kk n fine zs os vs ko kv R L).map RT.key:=by
 unfold deR;rw[zE9 _ _ _ _ _ _ _ _ _ _ h,yh3 _ _ _ _ _ _ _ _ _ _ h];cases deB sd kk n fine zs os vs ko kv R L
 ·rfl
 ·simp only[jk]
  split
  ·exact(yd2 sd kk L h).1
  ·exact h
structure DeI(sd kk:Int)(R:List RT)(L:List Int):Prop where
 i:LvI (deS R) (deP sd kk R) L.length 0 R L
 d:∀i j,i<j->j<(deP sd kk R).length->pkd (deS R) (deP sd kk R) i≠pkd (deS R) (deP sd kk R) j
 p:∀i,i<(deP sd kk R).length->0<=(deP sd kk R).getD i 0/\(deP sd kk R).getD i 0<(deS R).length
 m:(deP sd kk R).length<=(deS R).length
 t:L.length+(deS R).length<=12
 r:R.length<=12
 w:∀x∈(deQ sd kk R L).2,(zC zd x).wf=true
theorem zT0{sd kk n fine:Int}{zs os vs:List Int}{ko kv:Nat}{R:List RT}{L:List Int}(h:zc1 n zs os vs ko kv fine R L=0)(hk:inB kk 0 12=true)(hs:inB sd 0 2147483647=true):DeI sd kk R L:=by
 obtain⟨h1,h2,h3,h4,h5⟩:=zb7 h;obtain⟨s1,s2,s3⟩:=zj8 h;have eJ:=zc8 hk;have hN:(deS R).length=(zb0 R R.length).length:=by unfold deS;rw[zn9]
 have ay:ko<=12:=by
  have hc:=h1;unfold zd0 at hc;simp only[zY]at hc;exact(zd8 hc.1.1.2).1
 obtain⟨K,hK⟩:=xp (show 0<=min kk ((deS R).length:Int) by omega);have hB:zv3 sd ((deS R).length:Int) (K:Int)=true:=by
  unfold zv3;rw[hs,ze9 (show(0:Int)<=((deS R).length:Int)/\((deS R).length:Int)<=64 by omega),ze9 (show(0:Int)<=(K:Int)/\(K:Int)<=((deS R).length:Int) by omega)];rfl
 obtain⟨f1,f2,f3,f4,f5,_⟩:=yq1 hB;have hP:deP sd kk R=zs4 sd ((deS R).length:Int) (K:Int):=by unfold deP;rw[hK]
 have hl:(deP sd kk R).length=K:=by rw[hP,f3]
 have hp:∀i,i<(deP sd kk R).length->0<=(deP sd kk R).getD i 0/\(deP sd kk R).getD i 0<(deS R).length:=fun i hi=>by
  have:=f5 i (by omega);rw[hP];exact⟨this.1,this.2.1⟩
 have cI:(deP sd kk R).Nodup:=by
  rw[hP,(zv4 hB).1];exact zY3 K _ _ (z83 _) (by rw[zh7];exact f1)
 have hI:LvI (deS R) (deP sd kk R) L.length 0 R L:=zR3 h rfl hp;refine⟨hI,y38 (yq8 s2) cI hp,hp,by omega,by omega,?_,yB2 h hI (zL0 h)⟩;have:=yc8 R hI.ne;rw[<-zb8]at this;omega
theorem yi2{sd kk n fine:Int}{zs os vs:List Int}{ko kv:Nat}{R:List RT}{L:List Int}(h:deB sd kk n fine zs os vs ko kv R L=true):zc1 n zs os vs ko kv fine R L=0/\inB kk 0 12=true/\inB sd 0 2147483647=true:=by
 unfold deB at h;simp only[zY,qh]at h;exact h
def seK(i:Nat):Int:=1+((i % 3:Nat):Int)
noncomputable def seY(n fine:Int)(zs os vs:List Int)(ko kv:Nat)(R:List RT)(L:List Int):List RT×List Int:=(dsR n fine zs os vs ko kv (grd n fine zs os vs ko kv L.length R L).2 3 (grd n fine zs os vs ko kv L.length R L).1,(grd n fine zs os vs ko kv L.length R L).2)
noncomputable def seD(sd kk n fine:Int)(zs os vs:List Int)(ko kv:Nat)(R:List RT)(L:List Int):List RT×List Int:=seY n fine zs os vs ko kv (deR sd kk n fine zs os vs ko kv R L) (deL sd kk n fine zs os vs ko kv R L)
noncomputable def seB(sd kk n fine:Int)(zs os vs:List Int)(ko kv:Nat)(R:List RT)(L:List Int):Bool:=deF sd kk n fine zs os vs ko kv R L&&decide (zp1 n zs os vs ko kv fine (seD sd kk n fine zs os vs ko kv R L).1 (seD sd kk n fine zs os vs ko kv R L).2<zp1 n zs os vs ko kv fine R L)
noncomputable def seN(sd kk n fine:Int)(zs os vs:List Int)(ko kv:Nat)(R:List RT)(L:List Int):List RT×List Int:=bif seB sd kk n fine zs os vs ko kv R L then seD sd kk n fine zs os vs ko kv R L else(R,L)
noncomputable def seP(sd n fine:Int)(zs os vs:List Int)(ko kv:Nat)(R:List RT)(L:List Int):Nat->(List RT×List Int)×Int
 |0=>((R,L),sd)
 |i+1=>(seN (seP sd n fine zs os vs ko kv R L i).2 (seK i) n fine zs os vs ko kv (seP sd n fine zs os vs ko kv R L i).1.1 (seP sd n fine zs os vs ko kv R L i).1.2,deN (seP sd n fine zs os vs ko kv R L i).2 (seK i) n fine zs os vs ko kv (seP sd n fine zs os vs ko kv R L i).1.1 (seP sd n fine zs os vs ko kv R L i).1.2)
noncomputable def seC(sd n fine:Int)(zs os vs:List Int)(ko kv:Nat)(R:List RT)(L:List Int)(i:Nat):Int:=zp1 n zs os vs ko kv fine (seP sd n fine zs os vs ko kv R L i).1.1 (seP sd n fine zs os vs ko kv R L i).1.2
noncomputable def seT(sd n fine:Int)(zs os vs:List Int)(ko kv:Nat)(R:List RT)(L:List Int)(i:Nat):List Int:=(zt (i+1)).map (seC sd n fine zs os vs ko kv R L)
theorem yA2(i:Nat):inB (seK i) 0 12=true:=ze9 (by unfold seK;omega)
theorem yl7(sd n fine:Int)(zs os vs:List Int)(ko kv:Nat)(R:List RT)(L:List Int)(i:Nat):seT sd n fine zs os vs ko kv R L (i+1)=seT sd n fine zs os vs ko kv R L i++[seC sd n fine zs os vs ko kv R L (i+1)]:=by
 unfold seT;rw[yN (n:=i+1),x8];rfl
theorem zP3(sd n fine:Int)(zs os vs:List Int)(ko kv:Nat)(R:List RT)(L:List Int)(i:Nat):(seT sd n fine zs os vs ko kv R L i).length=i+1:=by
 unfold seT;rw[qz,List.length_range]
theorem y00{n fine:Int}{zs os vs:List Int}{ko kv:Nat}{R S:List RT}(L:List Int)(h:S.map RT.key=R.map RT.key):(seY n fine zs os vs ko kv S L).1.map RT.key=(seY n fine zs os vs ko kv R L).1.map RT.key/\(seY n fine zs os vs ko kv S L).2=(seY n fine zs os vs ko kv R L).2:=by
 obtain⟨h1,h2⟩:=z77 (n:=n) (fine:=fine) (zs:=zs) (os:=os) (vs:=vs) (ko:=ko) (kv:=kv) L.length L h;unfold seY;exact⟨by rw[h2];exact z94 3 h1,h2⟩
theorem y18{R S:List RT}(sd kk n fine:Int)(zs os vs:List Int)(ko kv:Nat)(L:List Int)(h:S.map RT.key=R.map RT.key):(seD sd kk n fine zs os vs ko kv S L).1.map RT.key=(seD sd kk n fine zs os vs ko kv R L).1.map RT.key/\(seD sd kk n fine zs os vs ko kv S L).2=(seD sd kk n fine zs os vs ko kv R L).2:=by
 unfold seD;rw[yd0 sd kk n fine zs os vs ko kv L h];exact y00 _ (yg5 sd kk n fine zs os vs ko kv L h)
theorem yE0{R S:List RT}(sd kk n fine:Int)(zs os vs:List Int)(ko kv:Nat)(L:List Int)(h:S.map RT.key=R.map RT.key):seB sd kk n fine zs os vs ko kv S L=seB sd kk n fine zs os vs ko kv R L:=by
 obtain⟨h1,h2⟩:=y18 sd kk n fine zs os vs ko kv L h;unfold seB;rw[yg7 sd kk n fine zs os vs ko kv L h,h2,zt0 _ h1,zt0 _ h]
theorem yC9{R S:List RT}(sd kk n fine:Int)(zs os vs:List Int)(ko kv:Nat)(L:List Int)(h:S.map RT.key=R.map RT.key):(seN sd kk n fine zs os vs ko kv S L).1.map RT.key=(seN sd kk n fine zs os vs ko kv R L).1.map RT.key/\(seN sd kk n fine zs os vs ko kv S L).2=(seN sd kk n fine zs os vs ko kv R L).2:=by
 unfold seN;rw[yE0 sd kk n fine zs os vs ko kv L h];cases seB sd kk n fine zs os vs ko kv R L
 ·exact⟨h,rfl⟩
 ·exact y18 sd kk n fine zs os vs ko kv L h
theorem yC2{R S:List RT}(sd n fine:Int)(zs os vs:List Int)(ko kv:Nat)(L:List Int)(h:S.map RT.key=R.map RT.key):∀i,(seP sd n fine zs os vs ko kv S L i).1.1.map RT.key=(seP sd n fine zs os vs ko kv R L i).1.1.map RT.key/\(seP sd n fine zs os vs ko kv S L i).1.2=(seP sd n fine zs os vs ko kv R L i).1.2/\(seP sd n fine zs os vs ko kv S L i).2=(seP sd n fine zs os vs ko kv R L i).2
 |0=>⟨h,rfl,rfl⟩
 |i+1=>by
  obtain⟨h1,h2,h3⟩:=yC2 sd n fine zs os vs ko kv L h i;simp only[seP];rw[h2,h3];obtain⟨h4,h5⟩:=yC9 (seP sd n fine zs os vs ko kv R L i).2 (seK i) n fine zs os vs ko kv (seP sd n fine zs os vs ko kv R L i).1.2 h1;exact⟨h4,h5,yc3 _ _ _ _ _ _ _ _ _ _ h1⟩
theorem yI4(k:Nat):∀(L:List Int) (s:Int),inB s 0 2147483647=true->inB (pkL k L s).2 0 2147483647=true:=by
 induction k with
 |zero=>intro L s h;exact h
 |succ k ih=>intro L s _;exact ih _ _ (zP1 s)
theorem yJ6{sd kk n fine:Int}{zs os vs:List Int}{ko kv:Nat}{R:List RT}{L:List Int}(h:deB sd kk n fine zs os vs ko kv R L=true):inB (deN sd kk n fine zs os vs ko kv R L) 0 2147483647=true:=by
 obtain⟨h1,h2,h3⟩:=yi2 h;have hk:=zc8 h2;obtain⟨K,hK⟩:=xp (show 0<=min kk ((deS R).length:Int) by omega);have D:=(zT0 h1 h2 h3).t;have hB:zv3 sd ((deS R).length:Int) (K:Int)=true:=by
  unfold zv3;rw[h3,ze9 (show(0:Int)<=((deS R).length:Int)/\((deS R).length:Int)<=64 by omega),ze9 (show(0:Int)<=(K:Int)/\(K:Int)<=((deS R).length:Int) by omega)];rfl
 unfold deN;rw[h,hK,jk,(zv4 hB).2];exact yI4 K _ _ h3
theorem y97{sd kk n fine:Int}{zs os vs:List Int}{ko kv:Nat}{R:List RT}{L:List Int}(h1:zc1 n zs os vs ko kv fine R L=0)(h2:inB kk 0 12=true)(h3:inB sd 0 2147483647=true):deB sd kk n fine zs os vs ko kv R L=true:=by
 unfold deB;rw[h2,h3,h1];rfl
theorem zE0{sd kk n fine:Int}{zs os vs:List Int}{ko kv:Nat}{R:List RT}{L:List Int}(h:deF sd kk n fine zs os vs ko kv R L=true):deR sd kk n fine zs os vs ko kv R L=(deQ sd kk R L).1/\deL sd kk n fine zs os vs ko kv R L=(deQ sd kk R L).2/\zc1 n zs os vs ko kv fine (deR sd kk n fine zs os vs ko kv R L) (deL sd kk n fine zs os vs ko kv R L)=0:=by
 unfold deF at h;rw[zY,qh]at h;have e1:deR sd kk n fine zs os vs ko kv R L=(deQ sd kk R L).1:=by unfold deR;rw[h.1,jk,z7 h.2]
 have e2:deL sd kk n fine zs os vs ko kv R L=(deQ sd kk R L).2:=by unfold deL;rw[h.1,jk,z7 h.2]
 exact⟨e1,e2,by rw[e1,e2];exact h.2⟩
theorem yl1{n fine:Int}{zs os vs:List Int}{ko kv:Nat}{R:List RT}{L:List Int}(h:zc1 n zs os vs ko kv fine R L=0):zc1 n zs os vs ko kv fine (seY n fine zs os vs ko kv R L).1 (seY n fine zs os vs ko kv R L).2=0:=
 y26 3 (zE1 L.length R L h).1
theorem y70{sd kk n fine:Int}{zs os vs:List Int}{ko kv:Nat}{R:List RT}{L:List Int}(h:zc1 n zs os vs ko kv fine R L=0):zc1 n zs os vs ko kv fine (seN sd kk n fine zs os vs ko kv R L).1 (seN sd kk n fine zs os vs ko kv R L).2=0:=by
 unfold seN;cases hB:seB sd kk n fine zs os vs ko kv R L
 ·exact h
 ·unfold seB at hB
  rw[zY]at hB;exact yl1 (zE0 hB.1).2.2
theorem z51{sd n fine:Int}{zs os vs:List Int}{ko kv:Nat}{R:List RT}{L:List Int}(h:zc1 n zs os vs ko kv fine R L=0)(hs:inB sd 0 2147483647=true):∀i,zc1 n zs os vs ko kv fine (seP sd n fine zs os vs ko kv R L i).1.1 (seP sd n fine zs os vs ko kv R L i).1.2=0/\inB (seP sd n fine zs os vs ko kv R L i).2 0 2147483647=true
 |0=>⟨h,hs⟩
 |i+1=>by
  obtain⟨h1,h2⟩:=z51 h hs i;exact⟨y70 h1,yJ6 (y97 h1 (yA2 i) h2)⟩
noncomputable def sgB(sd st n fine:Int)(zs os vs:List Int)(ko kv:Nat)(R:List RT)(L:List Int):Bool:=decide (zc1 n zs os vs ko kv fine R L=0)&&(inB st 0 60&&inB sd 0 2147483647)
noncomputable def sgR(sd st n fine:Int)(zs os vs:List Int)(ko kv:Nat)(R:List RT)(L:List Int):List RT:=bif sgB sd st n fine zs os vs ko kv R L then(seP sd n fine zs os vs ko kv R L st.toNat).1.1 else []
noncomputable def sgL(sd st n fine:Int)(zs os vs:List Int)(ko kv:Nat)(R:List RT)(L:List Int):List Int:=bif sgB sd st n fine zs os vs ko kv R L then(seP sd n fine zs os vs ko kv R L st.toNat).1.2 else []
noncomputable def sgT(sd st n fine:Int)(zs os vs:List Int)(ko kv:Nat)(R:List RT)(L:List Int):List Int:=bif sgB sd st n fine zs os vs ko kv R L then seT sd n fine zs os vs ko kv R L st.toNat else []
theorem yD5{sd st n fine:Int}{zs os vs:List Int}{ko kv:Nat}{R:List RT}{L:List Int}:(sgT sd st n fine zs os vs ko kv R L).length<=61:=by
 unfold sgT;cases hB:sgB sd st n fine zs os vs ko kv R L
 ·simp
 ·unfold sgB at hB
  simp only[zY]at hB;have:=zc8 hB.2.1;rw[jk,zP3];omega
theorem yH7(sd st n fine:Int)(zs os vs:List Int)(ko kv:Nat)(R:List RT)(L:List Int):(∀r∈sgR sd st n fine zs os vs ko kv R L,r.ids≠[]/\r.ids.length<=12)/\(sgR sd st n fine zs os vs ko kv R L).length<=500/\(sgL sd st n fine zs os vs ko kv R L).length<=500:=by
 unfold sgR sgL;cases hB:sgB sd st n fine zs os vs ko kv R L
 ·simp
 ·unfold sgB at hB
  simp only[zY,qh]at hB;have h4:=(z51 hB.1 hB.2.2 st.toNat).1;obtain⟨_,g2,_⟩:=zb7 h4;obtain⟨_,aP⟩:=zh4.1 g2;have hs:=ze6 h4;simp only[jk];exact⟨fun r hr=>⟨(aP r hr).1,zk2 (aP r hr).2⟩,by omega,by omega⟩
section
variable {sd st n fine:Int} {zs os vs:List Int} {ko kv:Nat} {R:List RT} {L:List Int}
theorem y77(i:Nat):seC sd n fine zs os vs ko kv R L (i+1)<=seC sd n fine zs os vs ko kv R L i:=by
 show zp1 n zs os vs ko kv fine (seN _ _ _ _ _ _ _ _ _ _ _).1 (seN _ _ _ _ _ _ _ _ _ _ _).2<=_;unfold seN;cases hB:seB (seP sd n fine zs os vs ko kv R L i).2 (seK i) n fine zs os vs ko kv (seP sd n fine zs os vs ko kv R L i).1.1 (seP sd n fine zs os vs ko kv R L i).1.2
 ·exact Int.le_refl _
 ·unfold seB at hB
  rw[zY,qh]at hB;exact Int.le_of_lt hB.2
theorem yC5{i j:Nat}(h:j<=i):(seT sd n fine zs os vs ko kv R L i).getD j 0=seC sd n fine zs os vs ko kv R L j:=by
 unfold seT;rw[zQ,yr,List.getElem?_range (by omega)];rfl
theorem y50{i j:Nat}(h:j<=i):(seT sd n fine zs os vs ko kv R L i).take (j+1)=seT sd n fine zs os vs ko kv R L j:=by
 unfold seT;rw[<-List.map_take,List.take_range,Nat.min_eq_left (by omega)]
theorem yG5(h:zc1 n zs os vs ko kv fine R L=0):∀x∈L,(zC zd x).wf=true:=
 yB2 h (zR3 (P:=[]) h rfl (fun _ hi=>absurd hi (Nat.not_lt_zero _))) (zL0 h)
theorem yG3(h:sgB sd st n fine zs os vs ko kv R L=true):∃N:Nat,st=(N:Int)/\N<=60/\zc1 n zs os vs ko kv fine R L=0/\sgT sd st n fine zs os vs ko kv R L=seT sd n fine zs os vs ko kv R L N/\zc1 n zs os vs ko kv fine (sgR sd st n fine zs os vs ko kv R L) (sgL sd st n fine zs os vs ko kv R L)=0/\zp1 n zs os vs ko kv fine (sgR sd st n fine zs os vs ko kv R L) (sgL sd st n fine zs os vs ko kv R L)=seC sd n fine zs os vs ko kv R L N/\sgB sd ((N / 2:Nat):Int) n fine zs os vs ko kv R L=true/\sgT sd ((N / 2:Nat):Int) n fine zs os vs ko kv R L=seT sd n fine zs os vs ko kv R L (N / 2):=by
 have hB:=h;unfold sgB at hB;simp only[zY,qh]at hB;obtain⟨h1,h2,h3⟩:=hB;have Oh:=zc8 h2;obtain⟨N,hN⟩:=xp Oh.1;have h9:=(z51 h1 h3 N).1;have hb:sgB sd ((N / 2:Nat):Int) n fine zs os vs ko kv R L=true:=by
  unfold sgB;rw[h1,h3,ze9 (show(0:Int)<=((N / 2:Nat):Int)/\((N / 2:Nat):Int)<=60 by omega)];rfl
 have e1:sgT sd ((N / 2:Nat):Int) n fine zs os vs ko kv R L=seT sd n fine zs os vs ko kv R L (N / 2):=by
  unfold sgT;rw[hb,jk,yu]
 subst hN;have e2:sgR sd (N:Int) n fine zs os vs ko kv R L=(seP sd n fine zs os vs ko kv R L N).1.1/\sgL sd (N:Int) n fine zs os vs ko kv R L=(seP sd n fine zs os vs ko kv R L N).1.2/\sgT sd (N:Int) n fine zs os vs ko kv R L=seT sd n fine zs os vs ko kv R L N:=by
  unfold sgR sgL sgT;rw[h,jk,jk,jk,yu];exact⟨rfl,rfl,rfl⟩
 refine⟨N,rfl,by omega,h1,e2.2.2,?_,?_,hb,e1⟩
 ·rw[e2.1,e2.2.1];exact h9
 ·rw[e2.1,e2.2.1];rfl
end
structure DF(w W:zi)(cs:Array Value):Prop where
 b:Below w.heap.size w W
 c:W.heap[w.heap.size]? =some (.cells cs 30 (0,0))
theorem DF.below{w W W':zi}{cs:Array Value}(h:DF w W cs)(hb:Below W.heap.size W W'):DF w W' cs:=
 ⟨h.b.trans (hb.mono h.b.size),za0 hb (za2 h.c) h.c⟩
def zu5(W:zi)(kb cb:Nat)(kk:Int)(cs:Array Value):Prop:=W.cell? ⟨kb,0,none⟩=some (ze zd kk)/\W.heap[cb]? =some (.cells cs 30 (0,0))
theorem zu5.below{W W':zi}{kb cb:Nat}{kk:Int}{cs:Array Value}(h:zu5 W kb cb kk cs)(hb:Below W.heap.size W W'):zu5 W' kb cb kk cs:=
 ⟨(hb.cell (p:=⟨kb,0,none⟩) (zV h.1)).trans h.1,za0 hb (za2 h.2) h.2⟩
def zm3(W:zi)(b m g:Nat)(cs:Array Value):Prop:=(b<=g/\g<m)/\∀j,j<3->∃kb cb:Nat,(b<=kb/\kb<m/\b<=cb/\cb<m)/\W.cell? ⟨g,j,none⟩=some (.func (.func 112) #[] #[.pointer (some ⟨kb,0,none⟩),.pointer (some ⟨cb,0,none⟩)])/\zu5 W kb cb (1+(j:Int)) cs
theorem zm3.below{W W':zi}{b m g:Nat}{cs:Array Value}(h:zm3 W b m g cs)(hb:Below W.heap.size W W'):zm3 W' b m g cs:=⟨h.1,fun j hj=>by
 obtain⟨kb,cb,h0,h1,h2⟩:=h.2 j hj;exact⟨kb,cb,h0,(hb.cell (p:=⟨g,j,none⟩) (zV h1)).trans h1,h2.below hb⟩⟩
theorem zm3.set{W:zi}{b m g k i:Nat}{v:Value}{cs:Array Value}(h:zm3 W b m g cs)(hk:k<b∨m<=k):zm3 (W.setCell ⟨k,i,none⟩ v) b m g cs:=⟨h.1,fun j hj=>by
 obtain⟨kb,cb,h0,h1,h2,h3⟩:=h.2 j hj;have hg:=h.1;exact⟨kb,cb,h0,z44 h1 (by omega),z44 h2 (by omega),za8 h3 (by omega)⟩⟩
theorem zm3.grown{W W':zi}{b m g:Nat}{row:Option Nat}{cs:Array Value}(h:zm3 W b m g cs)(hg:W.grownBy W' row)(hr:∀z,row=some z->m<=z):zm3 W' b m g cs:=⟨h.1,fun j hj=>by
 obtain⟨kb,cb,h0,h1,h2,h3⟩:=h.2 j hj;have rz:=h.1;have hc:∀(k i:Nat) (v:Value),k<m->W.cell? ⟨k,i,none⟩=some v->W'.cell? ⟨k,i,none⟩=some v:=fun k i v hk hv=>by
  have h9:=hg.block k (zV hv) (fun e=>by have:=hr k e.symm;omega);unfold zJ at hv⊢;simp only at hv⊢;rw[h9];exact hv
 exact⟨kb,cb,h0,hc _ _ _ rz.2 h1,hc _ _ _ h0.2.1 h2,(hg.block cb (za2 h3) (fun e=>by have:=hr cb e.symm;omega)).trans h3⟩⟩
theorem zB9(n fine:Int)(a ao av:Option Addr)(zl ac ko co kv cv:Nat)(w:zi):
 Calls zh 34 #[.agg #[ze zd n,za a zl ac,za ao ko co,za av kv cv,ze zd fine]] w fun e w'=>∃g:Nat,e=.returned (za (some ⟨g,0,none⟩) 3 3)/\Below w.heap.size w w'/\zm3 w' w.heap.size w'.heap.size g #[ze zd n,za a zl ac,za ao ko co,za av kv cv,ze zd fine]:=by
 have Q0:Hid (DF w (w.alloc (zg #[ze zd n,za a zl ac,za ao ko co,za av kv cv,ze zd fine] 30)) #[ze zd n,za a zl ac,za ao ko co,za av kv cv,ze zd fine]):=⟨zP _,zS _ _⟩;go_enter Tryz.func34,Tryz.ntmps34;go_upto_region 1 with fail;generalize w.alloc _=w1 at*;refine qG (S:=(fun W=>W.cell? ⟨w.heap.size,0,none⟩=some (ze zd n)/\W.cell? ⟨w.heap.size,1,none⟩=some (za a zl ac)/\W.cell? ⟨w.heap.size,2,none⟩=some (za ao ko co)/\W.cell? ⟨w.heap.size,3,none⟩=some (za av kv cv)/\W.cell? ⟨w.heap.size,4,none⟩=some (ze zd fine))) (by kernel_rfl) ?_ fun aa=> ?_
 ·exact za7 (Q0.X.below (y5 _ _).drew).c
 have j6:=za4 (Q0.X.below (y5 _ _).drew);generalize w1.drew=wd at*;refine tkH 0 aa ?_;refine tkH 2 aa ?_;refine tkH 4 aa ?_;refine rdH 1 fun K hK=> ?_;go_simp;refine(zu0 n fine 1 a ao av zl ac ko co kv cv wd).mono ?_;rintro e w2 ⟨rg,mp,dF,rfl,hb,hk,hc⟩;have N1:Hid (w.heap.size<=rg/\w.heap.size<=mp):=⟨xj j6.X.b.size dF.1,xj j6.X.b.size dF.2⟩;have G1:=za4 (j6.X.below hb);have Gd:Hid (zu5 w2 rg mp 1 #[ze zd n,za a zl ac,za ao ko co,za av kv cv,ze zd fine]):=⟨hk,hc⟩;clear hb hk hc dF
 (try go_wp2_with fail)
 refine hoW hK (za7 G1.X.c) fun aa=> ?_;clear hK K;refine rdH 3 fun K hK=> ?_;go_simp;refine(zu0 n fine 2 a ao av zl ac ko co kv cv w2).mono ?_;rintro e w3 ⟨r8,rI,dF,rfl,hb,hk,hc⟩;have N2:Hid (w.heap.size<=r8/\w.heap.size<=rI):=⟨xj G1.X.b.size dF.1,xj G1.X.b.size dF.2⟩;have G2:=za4 (G1.X.below hb);have G':Hid (zu5 w3 r8 rI 2 #[ze zd n,za a zl ac,za ao ko co,za av kv cv,ze zd fine]):=⟨hk,hc⟩;have EQ:=za4 (Gd.X.below hb);clear hb hk hc dF
 (try go_wp2_with fail)
 refine hoW hK (za7 G2.X.c) fun aa=> ?_;clear hK K;refine rdH 5 fun K hK=> ?_;go_simp;refine(zu0 n fine 3 a ao av zl ac ko co kv cv w3).mono ?_;rintro e w4 ⟨rJ,rM,dF,rfl,hb,hk,hc⟩;have N3:Hid (w.heap.size<=rJ/\w.heap.size<=rM):=⟨xj G2.X.b.size dF.1,xj G2.X.b.size dF.2⟩;have G3:=za4 (G2.X.below hb);have se:Hid (zu5 w4 rJ rM 3 #[ze zd n,za a zl ac,za ao ko co,za av kv cv,ze zd fine]):=⟨hk,hc⟩;have ua:=za4 (EQ.X.below hb);have ui:=za4 (G'.X.below hb);clear hb hk hc dF
 (try go_wp2_with fail)
 refine hoW hK (za7 G3.X.c) fun aa=> ?_;clear hK K;refine rdH 6 fun K hK=> ?_;have G4:Hid (DF w (w4.alloc (zg #[(.func (.func 112) #[] #[.pointer (some ⟨rg,0,none⟩),.pointer (some ⟨mp,0,none⟩)]),(.func (.func 112) #[] #[.pointer (some ⟨r8,0,none⟩),.pointer (some ⟨rI,0,none⟩)]),(.func (.func 112) #[] #[.pointer (some ⟨rJ,0,none⟩),.pointer (some ⟨rM,0,none⟩)])] 72)) #[ze zd n,za a zl ac,za ao ko co,za av kv cv,ze zd fine]):=G3.X.below ((y5 w4.heap.size w4).alloc (zT _) _);have A4:Hid (zm3 (w4.alloc (zg #[(.func (.func 112) #[] #[.pointer (some ⟨rg,0,none⟩),.pointer (some ⟨mp,0,none⟩)]),(.func (.func 112) #[] #[.pointer (some ⟨r8,0,none⟩),.pointer (some ⟨rI,0,none⟩)]),(.func (.func 112) #[] #[.pointer (some ⟨rJ,0,none⟩),.pointer (some ⟨rM,0,none⟩)])] 72)) w.heap.size (w4.alloc (zg #[(.func (.func 112) #[] #[.pointer (some ⟨rg,0,none⟩),.pointer (some ⟨mp,0,none⟩)]),(.func (.func 112) #[] #[.pointer (some ⟨r8,0,none⟩),.pointer (some ⟨rI,0,none⟩)]),(.func (.func 112) #[] #[.pointer (some ⟨rJ,0,none⟩),.pointer (some ⟨rM,0,none⟩)])] 72)).heap.size w4.heap.size #[ze zd n,za a zl ac,za ao ko co,za av kv cv,ze zd fine]):=by
  have hr:=zS w4 (zg #[(.func (.func 112) #[] #[.pointer (some ⟨rg,0,none⟩),.pointer (some ⟨mp,0,none⟩)]),(.func (.func 112) #[] #[.pointer (some ⟨r8,0,none⟩),.pointer (some ⟨rI,0,none⟩)]),(.func (.func 112) #[] #[.pointer (some ⟨rJ,0,none⟩),.pointer (some ⟨rM,0,none⟩)])] 72);have bU:(w4.alloc (zg #[(.func (.func 112) #[] #[.pointer (some ⟨rg,0,none⟩),.pointer (some ⟨mp,0,none⟩)]),(.func (.func 112) #[] #[.pointer (some ⟨r8,0,none⟩),.pointer (some ⟨rI,0,none⟩)]),(.func (.func 112) #[] #[.pointer (some ⟨rJ,0,none⟩),.pointer (some ⟨rM,0,none⟩)])] 72)).heap.size=w4.heap.size+1:=by simp
  have hw:=G3.X.b.size;refine⟨⟨hw,by omega⟩,fun j hj=> ?_⟩;rcases j with _|_|_|j
  ·exact⟨rg,mp,⟨N1.X.1,by have:=zV ua.X.1;simp only at this;omega,N1.X.2,by have:=za2 ua.X.2;omega⟩,zU _ _ _ _ _ _ hr,ua.X.below ((y5 w4.heap.size w4).alloc (zT _) _)⟩
  ·exact⟨r8,rI,⟨N2.X.1,by have:=zV ui.X.1;simp only at this;omega,N2.X.2,by have:=za2 ui.X.2;omega⟩,zU _ _ _ _ _ _ hr,ui.X.below ((y5 w4.heap.size w4).alloc (zT _) _)⟩
  ·exact⟨rJ,rM,⟨N3.X.1,by have:=zV se.X.1;simp only at this;omega,N3.X.2,by have:=za2 se.X.2;omega⟩,zU _ _ _ _ _ _ hr,se.X.below ((y5 w4.heap.size w4).alloc (zT _) _)⟩
  ·omega
 go_simp;refine hoW hK (za7 G4.X.c) fun aa=> ?_;clear hK K;generalize(w4.alloc _)=w5 at*;refine tkH 7 aa ?_;refine qF (by kernel_rfl) ?_ _;clear aa
 (try go_wp2_with fail)
 refine xe (v:=za (some ⟨w4.heap.size,0,none⟩) 3 3) (by simp[results,Tryz.results34,go_sem]) rfl ?_;exact⟨_,rfl,G4.X.b,A4.X⟩
def yK1(w:zi)(v:Int)(f:Bool)(T:List RT)(L:List Int)(e:Ending)(w':zi):Prop:=∃(ag:Option Addr) (n2 ai:Nat) (ak:Option Addr) (l2 aj:Nat) (R2:List RT),e=.returned (.tuple #[.agg #[za ag n2 ai,za ak l2 aj],ze zd v,.bool f])/\Below w.heap.size w w'/\za9 w' ag R2/\R2.length=n2/\za3 w' ak L/\L.length=l2/\R2.map RT.key=T.map RT.key/\((ak=none/\L.length=0)∨∃b off,ak=some ⟨b,off,none⟩)
def zR7(w:zi)(K:Nat->Prop)(v:Int)(f:Bool)(T:List RT)(L:List Int)(e:Ending)(w':zi):Prop:=∃(ag:Option Addr) (n2 ai:Nat) (ak:Option Addr) (l2 aj:Nat) (R2:List RT),e=.returned (.tuple #[.agg #[za ag n2 ai,za ak l2 aj],ze zd v,.bool f])/\Below w.heap.size w w'/\R2.map RT.key=T.map RT.key/\zc3 w' ag ak n2 l2 R2 L/\∀k,k<w.heap.size->K k->zi8 k ag ak R2 L
theorem zR7.is{w w':zi}{K:Nat->Prop}{v:Int}{f:Bool}{T:List RT}{L:List Int}{e:Ending}(h:zR7 w K v f T L e w'):yK1 w v f T L e w':=by
 obtain⟨ag,n2,ai,ak,l2,aj,R2,h1,h2,h3,h4,_⟩:=h;exact⟨ag,n2,ai,ak,l2,aj,R2,h1,h2,h4.2.2.1,h4.1,h4.2.2.2.1,h4.2.1,h3,h4.2.2.2.2.2.1.imp (fun h=>⟨h.1,h4.2.1.trans h.2⟩) id⟩
structure RQ(w W:zi)(cs ps ss:Array Value):Prop where
 b:Below w.heap.size w W
 c:W.heap[w.heap.size]? =some (.cells cs 30 (0,0))
 p:W.heap[w.heap.size+1]? =some (.cells ps 33 (0,0))
 s:W.heap[w.heap.size+2]? =some (.cells ss 129 (0,0))
 o:W.heap[w.heap.size+3]? =some (zg #[za none 0 0,za none 0 0] 33 (0,0))
theorem RQ.below{w W W':zi}{cs ps ss:Array Value}(h:RQ w W cs ps ss)(hb:Below W.heap.size W W'):RQ w W' cs ps ss:=
 ⟨h.b.trans (hb.mono h.b.size),za0 hb (za2 h.c) h.c,za0 hb (za2 h.p) h.p,za0 hb (za2 h.s) h.s,za0 hb (za2 h.o) h.o⟩
theorem RQ.size{w W:zi}{cs ps ss:Array Value}(h:RQ w W cs ps ss):w.heap.size+4<=W.heap.size:=za2 h.o
theorem RQ.set{w W:zi}{cs ps ss:Array Value}(h:RQ w W cs ps ss){k i:Nat}{v:Value}(hk:w.heap.size+4<=k):RQ w (W.setCell ⟨k,i,none⟩ v) cs ps ss:=
 ⟨h.b.setCell (by simp;omega) _,za8 h.c (by omega),za8 h.p (by omega),za8 h.s (by omega),za8 h.o (by omega)⟩
theorem RQ.new(w:zi)(cs ps ss:Array Value):RQ w ((((w.alloc (.cells cs 30)).alloc (.cells ps 33)).alloc (.cells ss 129)).alloc (zg #[za none 0 0,za none 0 0] 33)) cs ps ss:=by
 refine⟨(((zP _).alloc (by simp) _).alloc (by simp<;>omega) _).alloc (by simp<;>omega) _,?_,?_,?_,?_⟩
 ·exact(xg _ _ (by simp<;>omega)).trans ((xg _ _ (by simp<;>omega)).trans (xm _ _ _))
 ·exact(xg _ _ (by simp<;>omega)).trans ((xg _ _ (by simp)).trans (xh _ _ _))
 ·refine(xg _ _ (by simp)).trans ?_
  have:=zS ((w.alloc (.cells cs 30)).alloc (.cells ps 33)) (.cells ss 129);simpa using this
 ·have:=zS (((w.alloc (.cells cs 30)).alloc (.cells ps 33)).alloc (.cells ss 129)) (zg #[za none 0 0,za none 0 0] 33)
  simpa using this
theorem zq8{w:zi}{k:Nat}{c0 c1 c2:Value}{T:TypeId}(r:w.heap[k]? =some (zg #[c0,c1,c2] T (0,0))):w.cell? ⟨k,0,none⟩=some c0/\w.cell? ⟨k,1,none⟩=some c1/\w.cell? ⟨k,2,none⟩=some c2:=by
 refine⟨?_,?_,?_⟩<;>simp[zJ,r]
theorem yg3(tv:Int)(xa:Option Addr)(xl xc:Nat)(W:zi):(Instr.field 80 (.agg #[ze zd tv,za xa xl xc]) 1).run zh W=.ok (za xa xl xc) W:=by
 simp[Instr.field,xI Tryz.underlying80,part,asAgg,Tryz.isAgg24]
theorem yK5{W W':zi}{ra sa:Option Addr}{n c:Nat}{R:List RT}{r:RT}(h:za9 W ra R)(hb:Below W.heap.size W W')(hr:za3 W' r.a r.ids){base:Nat}(ho:W'.ownsRow base 80 2 (za sa n c) n (zj5 (wrL R r))):za9 W' sa (wrL R r):=zl8 ho (fun s hs=>by
 rcases zw4 hs with hs|rfl
 ·obtain⟨j,hj,rfl⟩:=zo4 hs
  obtain⟨_,_,_,_,_,h3⟩:=h j hj;exact h3.below hb
 ·exact hr)
theorem yB4(R:List RT)(r:RT):(wrL R r).length<=2*R.length+1:=by
 unfold wrL;have h1:=yp (fun x:RT=>decide (x.v<r.v)) R;have h2:=yp (fun x:RT=>decide (r.v<x.v)) R;simp only[xS];split<;>simp<;>omega
theorem zV7(id tv pl n fine:Int)(a ao av ra la:Option Addr)(zl ac ko co kv cv nr rc ln lc:Nat)(zs os vs L:List Int)(R:List RT)(w:zi)(hA:za3 w a zs)(hO:za3 w ao os)(hV:za3 w av vs)(aO:zs.length=zl)(an:os.length=ko*6)(au:vs.length=kv*5)(ay:ko<=9223372036854775807)(aB:kv<=9223372036854775807)(hP:zc3 w ra la nr ln R L)(aS:zc1 n zs os vs ko kv fine R L=0):
 Calls zh 122 #[.agg #[ze zd n,za a zl ac,za ao ko co,za av kv cv,ze zd fine],.agg #[za ra nr rc,za la ln lc],.agg #[ze zd id,ze zd tv,ze zd pl]] w (zR7 w (fun k=>zi8 k ra la R L) (rqD id tv pl n fine zs os vs ko kv R L) (rqB id tv pl n fine zs os vs ko kv R L) (rqR id tv pl n fine zs os vs ko kv R L) (rqL id tv pl n fine zs os vs ko kv R L)):=by
 obtain⟨hc,hr,gR,mi,a8⟩:=zb7 aS;obtain⟨hp,aP⟩:=zh4.1 hr;have fU:=ze6 aS;have cZ:Hid _:=hc;have o7:Hid _:=hp;have mg:Hid (∀r∈R,r.ids≠[]):=fun r hr=>(aP r hr).1;have jO:Hid ((zb0 R R.length).Nodup):=gR.1;have f':Hid (zw3 R):=fun r hr=>⟨(aP r hr).1,zk2 (aP r hr).2,hP.2.2.2.2.2.2 r hr⟩;have bj:Hid _:=aS;have HA:=za4 hA;have HO:=za4 hO;have HV:=za4 hV;have cm:Hid _:=aO;have aF:Hid _:=an;have aD:Hid _:=au;have HP:=za4 hP;have HN:Hid _:=hP.1;have HM:Hid _:=hP.2.1;have lV:=fU.1;have bz:Hid (rqB id tv pl n fine zs os vs ko kv R L=false->rqD id tv pl n fine zs os vs ko kv R L=0/\rqB id tv pl n fine zs os vs ko kv R L=false/\rqR id tv pl n fine zs os vs ko kv R L=[]/\rqL id tv pl n fine zs os vs ko kv R L=[]):=fun h=>by
  unfold rqD rqR rqL;rw[h];exact⟨rfl,rfl,rfl,rfl⟩
 have gH:Hid (rqB id tv pl n fine zs os vs ko kv R L=true->rqD id tv pl n fine zs os vs ko kv R L=zh8 n zs os vs ko kv (rlN R id tv pl.toNat) (fine*L.length) (rlN R id tv pl.toNat).length - zh8 n zs os vs ko kv R (fine*L.length) R.length/\rqR id tv pl n fine zs os vs ko kv R L=rlN R id tv pl.toNat/\rqL id tv pl n fine zs os vs ko kv R L=L):=fun h=>by
  unfold rqD rqR rqL;rw[h];exact⟨rfl,rfl,rfl⟩
 have d8:Hid (rqB id tv pl n fine zs os vs ko kv R L=(decide (id∈zb0 R R.length)&&(inB pl 0 ((zc7 (lvR R id) tv).ids.length:Int)&&decide (zc1 n zs os vs ko kv fine (rlN R id tv pl.toNat) L=0)))):=by
  show _=_;unfold rqB;rw[zW bj.X,ji]
 obtain⟨GD,iL⟩:=nmd (rqD id tv pl n fine zs os vs ko kv R L);obtain⟨GB,dJ⟩:=nmd (rqB id tv pl n fine zs os vs ko kv R L);obtain⟨GR,cE⟩:=nmd (rqR id tv pl n fine zs os vs ko kv R L);obtain⟨GL,db⟩:=nmd (rqL id tv pl n fine zs os vs ko kv R L);rw[iL.X,dJ.X,cE.X,db.X]at bz;rw[iL.X,dJ.X,cE.X,db.X]at gH;rw[dJ.X]at d8;rw[iL.X,dJ.X,cE.X,db.X];clear hA hO hV aO an au hP aS hc hr gR mi a8 hp aP fU iL dJ cE db;have Q0:Hid (RQ w ((((w.alloc (zg #[ze zd n,za a zl ac,za ao ko co,za av kv cv,ze zd fine] 30)).alloc (zg #[za ra nr rc,za la ln lc] 33)).alloc (zg #[ze zd id,ze zd tv,ze zd pl] 129)).alloc (zg #[za none 0 0,za none 0 0] 33)) #[ze zd n,za a zl ac,za ao ko co,za av kv cv,ze zd fine] #[za ra nr rc,za la ln lc] #[ze zd id,ze zd tv,ze zd pl]):=RQ.new _ _ _ _;have SO:=zN4 ra la rc ln lc R id ((((w.alloc (zg #[ze zd n,za a zl ac,za ao ko co,za av kv cv,ze zd fine] 30)).alloc (zg #[za ra nr rc,za la ln lc] 33)).alloc (zg #[ze zd id,ze zd tv,ze zd pl] 129)).alloc (zg #[za none 0 0,za none 0 0] 33)) (HP.2.2.1.below Q0.b) (by omega) (fun j hj=>by have:=(f'.X _ (zh2 hj)).2.1;omega);rw[HN.X]at SO;obtain⟨p0,p1⟩:=za1 Q0.p;obtain⟨s0,s1,s2⟩:=zq8 Q0.s;go_enter Tryz.func122,Tryz.ntmps122
 go_wp2_with fail
 generalize(((w.alloc _).alloc _).alloc _).alloc _=W0 at*;refine SO.mono ?_;rintro e w1 ⟨bu,hb⟩;have Q1:Hid _:=Q0.below hb;clear hb SO p0 p1 s0 s1 s2 Q0;rcases bu with⟨k,hk,aZ,hix,rfl⟩|⟨aZ,rfl⟩;rotate_left
 ·have Oj:id∉zb0 R R.length:=fun hm=>by
   rw[zb8]at hm;obtain⟨r,hr,pG⟩:=jh.1 hm;obtain⟨j,hj,e⟩:=zo4 hr;obtain⟨i,hi,ei⟩:=zs8 (show id∈(R.getD j rt0).ids by rw[e];exact pG);have:=aZ j hj;have h9:zC5 (R.getD j rt0).ids (R.getD j rt0).ids.length id=i:=zQ6 hi ei (fun q hq e9=>zt5 (zt2 hj jO.X) hq hi (by rw[e9,ei]));omega
  clear aZ;have QA:Hid (RQ w (w1.alloc (zg #[ze zd 0,za none 0 0] 80)) #[ze zd n,za a zl ac,za ao ko co,za av kv cv,ze zd fine] #[za ra nr rc,za la ln lc] #[ze zd id,ze zd tv,ze zd pl]):=Q1.below (zP _);obtain⟨g1,g2,g3,g4⟩:=bz.X (by rw[d8.X,zX Oj,jj]);subst g1 g2 g3 g4;obtain⟨a0,a1⟩:=za1 QA.o;have af:=fun i=>yZ _ _ i _ _ QA.o;have B5:=QA.b;clear bz;go_wp2;refine xe (v:=.tuple #[.agg #[za none 0 0,za none 0 0],ze zd 0,.bool false]) (by simp[results,Tryz.results122,go_sem,a0,a1]) rfl ?_;show zR7 _ _ _ _ _ _ _ _;exact⟨none,0,0,none,0,0,[],rfl,(B5.setCell (by simp<;>omega) _).setCell (by simp<;>omega) _,rfl,⟨rfl,rfl,(fun j hj=>by simp at hj),(fun j hj=>by simp at hj),.inl ⟨rfl,rfl⟩,.inl ⟨rfl,rfl⟩,(fun r hr=>by cases hr)⟩,fun _ _ _=>⟨fun h=>absurd rfl h,fun h=>absurd rfl h,fun r hr=>by cases hr⟩⟩
 ·have hm:id∈(R.getD k rt0).ids:=by
   refine Decidable.byContradiction fun h9=> ?_;have:=zF2 (zs:=(R.getD k rt0).ids) (m:=(R.getD k rt0).ids.length) (id:=id) (fun j hj e9=>h9 (by rw[<-e9];exact zw9 _ _ hj));omega
  have IH:Hid _:=hm;obtain⟨at_,ha,ea⟩:=zs8 hm;have uS:=zt2 hk jO.X;have hx:zC5 (R.getD k rt0).ids (R.getD k rt0).ids.length id=at_:=zQ6 ha ea (fun j hj e9=>zt5 uS hj ha (by rw[e9,ea]));rw[hx];have js:id∈zb0 R R.length:=by rw[zb8];exact jh.2 ⟨_,zh2 hk,hm⟩
  rw[zW js,ji]at d8;have wh:=fun(R2:List RT) (h9:R2.map RT.key=(rlN R id tv pl.toNat).map RT.key)=>yu8 bj.X hk hm tv pl.toNat h9;have fW:=zY9 bj.X hk hm tv pl.toNat;have Jv:=fun(a9:Option Addr) (c9:Nat)=>zN1 (zf0 o7.X) hk mg.X jO.X ha ea a9 c9;obtain⟨b0,o0,er,-⟩:=(HP.2.2.1 k hk).choose_spec.choose_spec.2.2.2 at_ ha;have vE:Hid (∀W,Below w.heap.size w W->za3 W (some ⟨b0,o0,none⟩) (R.getD k rt0).ids):=fun W hW=>by
   obtain⟨_,_,_,_,_,h3⟩:=(HP.2.2.1.below hW) k hk;rw[er]at h3;exact h3
  have bF:=(f'.X _ (zh2 hk)).2.1;rw[er];have sR:Hid _:=wh;have pr:Hid _:=fW;have o6:Hid _:=Jv;clear aZ hix hx js wh fW Jv hm uS ea er;obtain⟨y,HY⟩:=nmd (R.getD k rt0);rw[HY.X]at ha sR o6 vE bF IH⊢;obtain⟨v0,ya,mN,c0⟩:=y;simp only at ha sR o6 vE bF IH⊢;obtain⟨l0,l_⟩:=nmd mN.length;rw[l_.X]at ha bF⊢;have Pj:inB (at_:Int) 0 ((l0:Int) - 1)=true:=ze9 (by omega);clear HY;have Jd:Below w1.heap.size w1 (w1.alloc (zg #[ze zd v0,za (some ⟨b0,o0,none⟩) l0 c0] 80)):=zP _;have Q2:Hid _:=Q1.below Jd;have F2:=za4 (zS w1 (zg #[ze zd v0,za (some ⟨b0,o0,none⟩) l0 c0] 80));have Pe:Hid _:=Q1.size;clear Jd Q1
  go_wp2_with fail
  generalize w1.alloc _=W2 at*;obtain⟨kf,pB⟩:=nmd w1.heap.size;rw[pB.X]at F2 Pe⊢;refine qG (S:=(fun W=>W.cell? ⟨kf,0,none⟩=some (ze zd v0)/\W.cell? ⟨kf,1,none⟩=some (za (some ⟨b0,o0,none⟩) l0 c0))) (by kernel_rfl) ?_ fun aa=> ?_
  ·exact za1 (za0 (y5 _ _).drew (za2 F2.X) F2.X)
  have QD:Hid _:=Q2.below (y5 _ _).drew;have FD:Hid _:=za0 (y5 _ _).drew (za2 F2.X) F2.X;generalize W2.drew=wd at*;refine tkH 0 aa ?_;refine tkH 2 aa ?_;refine tkH 3 aa ?_;refine rdH 1 fun K hK=> ?_;go_simp;refine(z60 (at_:Int) wd).mono ?_;rintro e w3 ⟨pp,-,rfl,hb,cN⟩;have Q3:Hid _:=QD.below hb;have F3:Hid _:=za0 hb (za2 FD.X) FD.X;have P3:Hid _:=cN;clear hb cN
  (try go_wp2_with fail)
  refine hoW hK (za1 F3.X) fun aa=> ?_;clear hK K;refine rdH 4 fun K hK=> ?_;go_simp;have TO:=zF4 pp (at_:Int) (some ⟨b0,o0,none⟩) c0 mN w3 P3.X (vE.X w3 Q3.b) (by rw[l_.X];exact bF);rw[l_.X,Pj]at TO;refine TO.mono ?_;rintro e w4 ⟨hb,⟨h9,_⟩|⟨_,g1,c1,rfl,ho⟩⟩
  ·cases h9
  have Q4:Hid _:=Q3.below hb;have F4:Hid _:=za0 hb (za2 F3.X) F3.X;have I4:Hid (za3 w4 (some ⟨g1,0,none⟩) (zl2 mN at_)):=ze8 ho;have jG:(zl2 mN at_).length<=c1:=zy5 ho;have Qf:Hid (w.heap.size<=g1):=by have h8:=z93 ho g1 0 rfl;have h7:=Q3.size;show _<=_;omega
  clear hb ho TO P3
  (try go_wp2_with fail)
  refine hoW hK (za1 F4.X) fun aa=> ?_;clear hK K;refine tkH 5 aa ?_;refine tkH 6 aa ?_;refine tkH 7 aa ?_;refine tkH 8 aa ?_;refine tkH 9 aa ?_;refine qF (by kernel_rfl) ?_ _;clear aa;obtain⟨M1,tB⟩:=nmd (zl2 mN at_);have px:=o6.X (some ⟨g1,0,none⟩) c1;rw[tB.X]at I4 jG px
  try simp only[yu]
  try rw[tB.X]
  have AM:M1.length<=12:=by rw[<-tB.X];unfold zl2;simp;have:=l_.X;omega
  obtain⟨R1,jw⟩:=nmd (wrL R ⟨v0,some ⟨g1,0,none⟩,M1,c1⟩);rw[jw.X]at px;have tR:Hid (R1.Pairwise (fun a b=>a.v<b.v)):=by rw[<-jw.X];exact zM9 o7.X
  have j4:Hid (zw3 R1):=fun r hr=>by
   rw[<-jw.X]at hr;rcases zx9.1 hr with⟨Cv,_⟩|⟨e9,iq⟩
   ·exact f'.X r Cv
   ·rw[e9];exact⟨iq,AM,jG⟩
  have LT:Hid (∀k,k<w.heap.size->(∀r∈R,r.ids≠[]->∀b off,r.a=some ⟨b,off,none⟩->b≠k)->∀r∈R1,r.ids≠[]->∀b off,r.a=some ⟨b,off,none⟩->b≠k):=fun k hk h0 r hr=>by
   rw[<-jw.X]at hr;rcases zw4 hr with hr|rfl
   ·exact h0 r hr
   ·intro _ b off e
    injection e with e
    injection e with e
    have:=Qf.X;omega
  have wZ:R1.length<=25:=by rw[<-jw.X];have:=yB4 R ⟨v0,some ⟨g1,0,none⟩,M1,c1⟩;omega
  have dh:Hid _:=px;have CV:=zp3 ra la rc ln lc R ⟨v0,some ⟨g1,0,none⟩,M1,c1⟩ w4 (HP.2.2.1.below Q4.b) (by omega) (zf0 o7.X) (by rw[HN.X];exact HP.2.2.2.2.1) (by simp only;omega);rw[HN.X,jw.X]at CV;clear px o6;obtain⟨p0,p1⟩:=za1 Q4.p;obtain⟨f0,f1⟩:=za1 F4.X;obtain⟨m1,tW⟩:=nmd M1.length;simp only[tW.X]at CV;rw[tW.X]at AM jG
  try rw[tW.X]
  go_wp2_with fail
  refine CV.mono ?_;rintro e w5 ⟨sl,rfl,hb,ho⟩;obtain⟨mr,m3⟩:=nmd R1.length;rw[m3.X]at ho wZ;obtain⟨rb,mc,bg⟩:=zh0 ho;subst bg;have J7:za9 w5 rb R1:=by
   have h9:=yK5 (HP.2.2.1.below Q4.b) hb (r:=⟨v0,some ⟨g1,0,none⟩,M1,c1⟩) (I4.below hb) (sa:=rb) (n:=mr) (c:=mc) (base:=w4.heap.size) (by rw[jw.X];exact ho);rw[jw.X]at h9;exact h9
  have vL:Hid ((rb=none/\R1.length=0)∨∃b off,rb=some ⟨b,off,none⟩):=by
   rcases own_kinds ho with⟨h1,h2⟩|⟨g9,c9,h1,_⟩
   ·injection h1 with h1 _ _
    exact .inl ⟨h1,by rw[m3.X];exact h2⟩
   ·injection h1 with h1 _ _
    exact .inr ⟨g9,0,h1⟩
  have E9:Below w5.heap.size w5 (w5.alloc (zg #[za rb mr mc,za la ln lc] 33)):=zP _;have ir:=hb.trans (E9.mono hb.size);have Q6:Hid _:=Q4.below ir;have F6:Hid _:=za0 ir (za2 F4.X) F4.X;have N6:=za4 (zS w5 (zg #[za rb mr mc,za la ln lc] 33));have J0:=za4 (J7.below E9);have gP:Hid (w.heap.size+4<=w5.heap.size/\w5.heap.size≠kf):=⟨(Q4.below hb).size,by have:=za2 (za0 hb (za2 F4.X) F4.X);omega⟩;clear hb ho CV J7 E9 ir Q4 F4 I4 p0 p1 f0 f1
  go_wp2_with fail
  generalize w5.alloc _=W6 at*;obtain⟨kn,Ib⟩:=nmd w5.heap.size;rw[Ib.X]at N6 gP⊢;have rO:Hid _:=zo0 dh.X tv;rw[<-rO.X]at d8;have j5:(zc7 R1 tv).ids.length<=12:=by
   rcases zu1 R1 tv with h9|h9
   ·exact(j4.X _ h9).2.1
   ·rw[h9];simp
  have iZ:Hid (∀W,za9 W rb R1->Calls zh 153 #[.agg #[za rb mr mc,za la ln lc],ze zd tv] W fun e w'=>e=.returned (.agg #[ze zd tv,.slice (zc7 R1 tv).a (zc7 R1 tv).ids.length (zc7 R1 tv).c])/\Below W.heap.size W w'):=fun W hW=>by
   have h9:=zn4 rb la mc ln lc R1 tv W hW (by rw[m3.X];omega) (zf0 tR.X);rw[m3.X]at h9;exact h9
  have rT:Hid (∀W,za9 W rb R1->za3 W (zc7 R1 tv).a (zc7 R1 tv).ids/\(((zc7 R1 tv).a=none/\(zc7 R1 tv).ids.length=0)∨∃b off,(zc7 R1 tv).a=some ⟨b,off,none⟩)):=fun W hW=>by
   obtain⟨h1,_,_,h4⟩:=z70 hW j4.X tv;exact⟨h1,h4⟩
  have uI:Hid (∀(a9:Option Addr) (c9:Nat),(wrL R1 ⟨tv,a9,insL (zc7 R1 tv).ids pl.toNat id,c9⟩).map RT.key=(rlN R id tv pl.toNat).map RT.key):=fun a9 c9=>z80 dh.X (by show(_,_)=(_,_);rw[rO.X])
  obtain⟨X,HX⟩:=nmd ((zc7 R1 tv).ids);rw[HX.X]at d8 j5 iZ rT uI;obtain⟨xa,vP⟩:=nmd ((zc7 R1 tv).a);obtain⟨xc,vC⟩:=nmd ((zc7 R1 tv).c);rw[vP.X]at iZ rT;rw[vC.X]at iZ;obtain⟨xl,aX⟩:=nmd X.length;rw[aX.X]at d8 j5 iZ;obtain⟨ib,pq⟩:=nmd (inB pl 0 (xl:Int));rw[pq.X]at d8;have o9:Hid ((insL X pl.toNat id).length<=13):=by show _<=_;unfold insL;simp;have:=aX.X;omega
  have Ns:=yg3 tv xa xl xc;clear HX vP vC rO;have vq:Below W6.heap.size W6 W6.drew:=(y5 _ _).drew;refine qG (S:=(fun W=>W.cell? ⟨w.heap.size+2,0,none⟩=some (ze zd id)/\W.cell? ⟨w.heap.size+2,1,none⟩=some (ze zd tv)/\W.cell? ⟨w.heap.size+2,2,none⟩=some (ze zd pl)/\W.cell? ⟨kn,0,none⟩=some (za rb mr mc)/\W.cell? ⟨kn,1,none⟩=some (za la ln lc))) (by kernel_rfl) ?_ fun aa=> ?_
  ·exact(fun(h1:W6.drew.heap[w.heap.size+2]? =some (zg #[ze zd id,ze zd tv,ze zd pl] 129 (0,0))) (h2:W6.drew.heap[kn]? =some (zg #[za rb mr mc,za la ln lc] 33 (0,0)))=>xr (zq8 h1).1 (xr (zq8 h1).2.1 (xr (zq8 h1).2.2 (xr (za1 h2).1 (za1 h2).2)))) (za0 vq (za2 Q6.s) Q6.s) (za0 vq (za2 N6.X) N6.X)
  clear vq;have Cl:Hid (∀W:zi,W.heap[w.heap.size+2]? =some (zg #[ze zd id,ze zd tv,ze zd pl] 129 (0,0))->W.heap[kn]? =some (zg #[za rb mr mc,za la ln lc] 33 (0,0))->(fun W=>W.cell? ⟨w.heap.size+2,0,none⟩=some (ze zd id)/\W.cell? ⟨w.heap.size+2,1,none⟩=some (ze zd tv)/\W.cell? ⟨w.heap.size+2,2,none⟩=some (ze zd pl)/\W.cell? ⟨kn,0,none⟩=some (za rb mr mc)/\W.cell? ⟨kn,1,none⟩=some (za la ln lc)) W):=fun W h1 h2=>by
   obtain⟨x0,x1,x2⟩:=zq8 h1;obtain⟨y0,y1⟩:=za1 h2;exact⟨x0,x1,x2,y0,y1⟩
  have CO:Hid _:=Q6.below (y5 _ _).drew;have J8:Hid _:=za0 (y5 _ _).drew (za2 F6.X) F6.X;have Kt:Hid _:=za0 (y5 _ _).drew (za2 N6.X) N6.X;have Le:Hid (za9 W6.drew rb R1):=J0.below (y5 _ _).drew;clear Q6 F6 N6 J0;generalize W6.drew=wd6 at*;refine tkH 0 aa ?_;refine tkH 1 aa ?_;refine tkH 2 aa ?_;refine tkH 3 aa ?_;refine tkH 5 aa ?_;refine tkH 6 aa ?_;refine tkH 7 aa ?_;refine rdH 4 fun K hK=> ?_;go_simp;refine(zh5 id pl wd6).mono ?_;rintro e w7 ⟨pp,qq,rfl,hb,cN,gL⟩;have Q7:Hid _:=CO.below hb;have F7:Hid _:=za0 hb (za2 J8.X) J8.X;have N7:Hid _:=za0 hb (za2 Kt.X) Kt.X;have JL:=za4 (Le.below hb);have Id:Hid (w7.cell? ⟨pp,0,none⟩=some (ze zd pl)/\w7.cell? ⟨qq,0,none⟩=some (ze zd id)):=⟨cN,gL⟩;clear hb cN gL
  (try go_wp2_with fail)
  refine hoW hK (Cl.X _ Q7.s N7.X) fun aa=> ?_;clear hK K;refine rdH 8 fun K hK=> ?_;go_simp;refine(iZ.X w7 JL.X).mono ?_;rintro e w8 ⟨rfl,hb⟩;have Q8:Hid _:=Q7.below hb;have F8:Hid _:=za0 hb (za2 F7.X) F7.X;have N8:Hid _:=za0 hb (za2 N7.X) N7.X;have FN:=za4 (JL.below hb);have Gq:Hid (w8.cell? ⟨pp,0,none⟩=some (ze zd pl)/\w8.cell? ⟨qq,0,none⟩=some (ze zd id)):=⟨keepL Id.1 hb,keepL Id.2 hb⟩;clear hb
  (try go_wp2_with fail)
  refine hoW hK (Cl.X _ Q8.s N8.X) fun aa=> ?_;clear hK K;refine tkH 9 aa ?_;refine rdH 10 fun K hK=> ?_;go_simp;have PI:=zV3 pp qq pl id xa xc X w8 Gq.1 Gq.2 (rT.X w8 FN.X).1 (by rw[aX.X];exact j5) (rT.X w8 FN.X).2;rw[aX.X,pq.X]at PI;cases ib
  ·refine PI.mono ?_
   rintro e w9 ⟨hb,⟨_,rfl⟩|⟨h9,_⟩⟩;rotate_left
   ·cases h9
   have Q9:Hid _:=Q8.below hb;have N9:Hid _:=za0 hb (za2 N8.X) N8.X;clear hb PI
   (try go_wp2_with fail)
   refine hoW hK (Cl.X _ Q9.s N9.X) fun aa=> ?_;clear hK K;refine tkH 11 aa ?_;refine tkH 12 aa ?_;refine tkH 13 aa ?_;refine tkH 14 aa ?_;refine tkH 15 aa ?_;refine qF (by kernel_rfl) ?_ _;clear aa;obtain⟨g1,g2,g3,g4⟩:=bz.X (by rw[d8.X,jj]);subst g1 g2 g3 g4;obtain⟨a0,a1⟩:=za1 Q9.o;have af:=fun i=>yZ _ _ i _ _ Q9.o;have B5:=Q9.b;clear bz;go_wp2;refine xe (v:=.tuple #[.agg #[za none 0 0,za none 0 0],ze zd 0,.bool false]) (by simp[results,Tryz.results122,go_sem,a0,a1]) rfl ?_;show zR7 _ _ _ _ _ _ _ _;exact⟨none,0,0,none,0,0,[],rfl,(B5.setCell (by simp<;>omega) _).setCell (by simp<;>omega) _,rfl,⟨rfl,rfl,(fun j hj=>by simp at hj),(fun j hj=>by simp at hj),.inl ⟨rfl,rfl⟩,.inl ⟨rfl,rfl⟩,(fun r hr=>by cases hr)⟩,fun _ _ _=>⟨fun h=>absurd rfl h,fun h=>absurd rfl h,fun r hr=>by cases hr⟩⟩
  refine PI.mono ?_;rintro e w9 ⟨hb,⟨h9,_⟩|⟨_,g2,c2,rfl,ho⟩⟩
  ·cases h9
  have Q9:Hid _:=Q8.below hb;have F9:Hid _:=za0 hb (za2 F8.X) F8.X;have N9:Hid _:=za0 hb (za2 N8.X) N8.X;have Hl:=za4 (FN.below hb);have I9:=za4 (ze8 ho);have cw:=zy5 ho;have fH:Hid (w.heap.size<=g2):=by have h8:=z93 ho g2 0 rfl;have h7:=Q8.size;show _<=_;omega
  clear hb ho PI Gq Id
  (try go_wp2_with fail)
  refine hoW hK (Cl.X _ Q9.s N9.X) fun aa=> ?_;clear hK K;refine tkH 11 aa ?_;refine tkH 12 aa ?_;refine tkH 13 aa ?_;refine tkH 14 aa ?_;refine tkH 15 aa ?_;refine qF (by kernel_rfl) ?_ _;clear aa;rw[ji]at d8;obtain⟨M2,oH⟩:=nmd (insL X pl.toNat id);rw[oH.X]at I9 cw o9 uI
  try rw[oH.X]
  have AP:=uI.X (some ⟨g2,0,none⟩) c2;obtain⟨R2,rU⟩:=nmd (wrL R1 ⟨tv,some ⟨g2,0,none⟩,M2,c2⟩);rw[rU.X]at AP;have dZ:Hid _:=AP;have EZ:Hid (R2.Pairwise (fun a b=>a.v<b.v)):=by rw[<-rU.X];exact zM9 tR.X
  have A6:Hid (zw3 R2):=fun r hr=>by
   obtain⟨h1,h2⟩:=z12 dZ.X pr.X r hr;refine⟨h1,h2,?_⟩;rw[<-rU.X]at hr;rcases zx9.1 hr with⟨Cv,_⟩|⟨e9,iq⟩
   ·exact(j4.X r Cv).2.2
   ·rw[e9];exact cw
  have FG:R2.length<=51:=by rw[<-rU.X];have:=yB4 R1 ⟨tv,some ⟨g2,0,none⟩,M2,c2⟩;have:=m3.X;omega
  have Hc:=sR.X R2 dZ.X;have DK:=zp3 rb la mc ln lc R1 ⟨tv,some ⟨g2,0,none⟩,M2,c2⟩ w9 Hl.X (by rw[m3.X];omega) (zf0 tR.X) vL.X (by simp only;have:=o9.X;omega);rw[m3.X,rU.X]at DK;obtain⟨m2,Al⟩:=nmd M2.length;simp only[Al.X]at DK
  try rw[Al.X]
  obtain⟨s0,s1,s2⟩:=zq8 Q9.s;obtain⟨n0,n1⟩:=za1 N9.X
  go_wp2_with fail
  refine DK.mono ?_;rintro e iK ⟨sl,rfl,hb,ho⟩;obtain⟨lw,tQ⟩:=nmd R2.length;rw[tQ.X]at ho FG;obtain⟨rd,mD,bg⟩:=zh0 ho;subst bg;have OT:Hid (∀k,k<w.heap.size->zi8 k ra la R L->zi8 k rd la R2 L):=fun k hk h0=>⟨fun _ b off e=>by have h8:=z93 ho b off e;have h7:=Q9.size;omega,h0.2.1,fun r hr=>by
   rw[<-rU.X]at hr;rcases zw4 hr with hr|rfl
   ·exact LT.X k hk h0.2.2 r hr
   ·intro _ b off e
    injection e with e
    injection e with e
    have:=fH.X;omega⟩
  have wn:za9 iK rd R2:=by
   have h9:=yK5 Hl.X hb (r:=⟨tv,some ⟨g2,0,none⟩,M2,c2⟩) (I9.below hb) (sa:=rd) (n:=lw) (c:=mD) (base:=w9.heap.size) (by rw[rU.X];exact ho);rw[rU.X]at h9;exact h9
  have Ng:Hid ((rd=none/\lw=0)∨∃b off,rd=some ⟨b,off,none⟩):=by
   rcases own_kinds ho with⟨h1,h2⟩|⟨g9,c9,h1,_⟩
   ·injection h1 with h1 _ _
    exact .inl ⟨h1,h2⟩
   ·injection h1 with h1 _ _
    exact .inr ⟨g9,0,h1⟩
  have AO:=za0 hb (za2 N9.X) N9.X;have JI:=za0 hb (za2 F9.X) F9.X;have pi:=xb iK kn 0 _ _ (za rd lw mD) AO;simp only[xM,xN]at pi;have Gc:=xb _ kn 1 _ _ (za la ln lc) pi;simp only[xM,xN,xO]at Gc;have Cb:Hid _:=Gc;have l5:Hid (RQ w ((iK.setCell ⟨kn,0,none⟩ (za rd lw mD)).setCell ⟨kn,1,none⟩ (za la ln lc)) #[ze zd n,za a zl ac,za ao ko co,za av kv cv,ze zd fine] #[za ra nr rc,za la ln lc] #[ze zd id,ze zd tv,ze zd pl]):=((Q9.below hb).set gP.1).set gP.1;have JZ:Hid (((iK.setCell ⟨kn,0,none⟩ (za rd lw mD)).setCell ⟨kn,1,none⟩ (za la ln lc)).heap[kf]? =some (zg #[ze zd v0,za (some ⟨b0,o0,none⟩) l0 c0] 80 (0,0))):=za8 (za8 JI (Ne.symm gP.2)) (Ne.symm gP.2);have s_:Hid (za9 ((iK.setCell ⟨kn,0,none⟩ (za rd lw mD)).setCell ⟨kn,1,none⟩ (za la ln lc)) rd R2):=ze7 (ze7 wn AO 0 _) pi 1 _;have nf:=fun i=>yZ _ _ i _ _ AO;obtain⟨n0,n1⟩:=za1 AO;clear hb ho DK Q9 N9 F9 Hl I9 JI pi Gc s0 s1 s2 wn;obtain⟨LA,Lj,bY,Mb,Pt⟩:=za7 l5.c;obtain⟨p0,p1⟩:=za1 l5.p;obtain⟨s0,s1,s2⟩:=zq8 l5.s;obtain⟨f0,f1⟩:=za1 JZ.X;obtain⟨m0,L6⟩:=za1 Cb.X
  go_wp2_with fail
  clear n0 n1 nf AO;generalize((iK.setCell ⟨kn,0,none⟩ _).setCell ⟨kn,1,none⟩ _)=W11 at*;obtain⟨CB,t_⟩:=nmd ((z67 v0 tv).all (cmK n zs os vs ko kv R2));obtain⟨CD,tO⟩:=nmd (if CB=true then((z67 v0 tv).map (cmF n zs os vs ko kv R R2)).sum else 0);have CM:=zS2 n fine v0 tv a ao av ra la rd la zl ac ko co kv cv nr rc ln lc lw mD ln lc zs os vs R R2 W11 (HA.below l5.b) (HO.below l5.b) (HV.below l5.b) cm.X aF.X aD.X ay aB cZ.X (HP.2.2.1.below l5.b) HN.X (by have:=HN.X;omega) (zf0 o7.X) f'.X s_.X tQ.X (by omega) (zf0 EZ.X) A6.X CB t_.X CD tO.X;refine CM.mono ?_;rintro e DU ⟨rfl,hb⟩;have ow:Hid _:=l5.below hb;have PJ:Hid _:=za0 hb (za2 Cb.X) Cb.X;have Fe:=za4 (s_.below hb);clear hb CM l5 Cb JZ s_ LA Lj bY Mb Pt p0 p1 s0 s1 s2 f0 f1 m0 L6;rw[<-Hc.1,t_.X]at d8;cases CB
  ·skip
   obtain⟨g1,g2,g3,g4⟩:=bz.X (by rw[d8.X]);subst g1 g2 g3 g4;obtain⟨a0,a1⟩:=za1 ow.o;have af:=fun i=>yZ _ _ i _ _ ow.o;have B5:=ow.b;clear bz;go_wp2;refine xe (v:=.tuple #[.agg #[za none 0 0,za none 0 0],ze zd 0,.bool false]) (by simp[results,Tryz.results122,go_sem,a0,a1]) rfl ?_;show zR7 _ _ _ _ _ _ _ _;exact⟨none,0,0,none,0,0,[],rfl,(B5.setCell (by simp<;>omega) _).setCell (by simp<;>omega) _,rfl,⟨rfl,rfl,(fun j hj=>by simp at hj),(fun j hj=>by simp at hj),.inl ⟨rfl,rfl⟩,.inl ⟨rfl,rfl⟩,(fun r hr=>by cases hr)⟩,fun _ _ _=>⟨fun h=>absurd rfl h,fun h=>absurd rfl h,fun r hr=>by cases hr⟩⟩
  ·obtain⟨y1,y2,y3⟩:=gH.X d8.X
   have kE:zc1 n zs os vs ko kv fine (rlN R id tv pl.toNat) L=0:=by
    have h9:=Hc.1;rw[t_.X]at h9;exact zZ h9.symm
   have bh:Hid (CD=GD):=by
    show _=_;rw[<-tO.X,z7 rfl,Hc.2 kE (fine*L.length),y1]
   have GV:Hid (R2.map RT.key=GR.map RT.key):=by show _=_;rw[y2];exact dZ.X
   have ul:=d8.X;clear y1 y2 kE;rw[bh.X];subst ul;subst y3;obtain⟨a0,a1⟩:=za1 ow.o;have af:=fun i=>yZ _ _ i _ _ ow.o;obtain⟨n0,n1⟩:=za1 PJ.X;have pi:=xb DU (w.heap.size+3) 0 _ _ (za rd lw mD) ow.o;simp only[xM,xN]at pi;have Pi:Hid (za9 ((DU.setCell ⟨w.heap.size+3,0,none⟩ (za rd lw mD)).setCell ⟨w.heap.size+3,1,none⟩ (za la ln lc)) rd R2):=ze7 (ze7 Fe.X ow.o 0 _) pi 1 _;have Lu:Hid (za3 ((DU.setCell ⟨w.heap.size+3,0,none⟩ (za rd lw mD)).setCell ⟨w.heap.size+3,1,none⟩ (za la ln lc)) la GL):=zj2 (zj2 (HP.2.2.2.1.below ow.b) ow.o 0 _) pi 1 _;have BE:Hid (Below w.heap.size w ((DU.setCell ⟨w.heap.size+3,0,none⟩ (za rd lw mD)).setCell ⟨w.heap.size+3,1,none⟩ (za la ln lc))):=(ow.b.setCell (by simp<;>omega) _).setCell (by simp<;>omega) _;clear pi;go_wp2;refine xe (v:=.tuple #[.agg #[za rd lw mD,za la ln lc],ze zd GD,.bool true]) (by simp[results,Tryz.results122,go_sem,a0,a1]) rfl ?_;show zR7 _ _ _ _ _ _ _ _;exact⟨rd,lw,mD,la,ln,lc,R2,rfl,BE.X,GV.X,⟨tQ.X,HM.X,Pi.X,Lu.X,Ng.X,HP.2.2.2.2.2.1,fun r hr=>(A6.X r hr).2.2⟩,OT.X⟩
theorem yx8{R S:List RT}(h:S.map RT.key=R.map RT.key)(hp:R.Pairwise (fun a b=>a.v<b.v)):S.Pairwise (fun a b=>a.v<b.v):=yA6 h hp
structure MX(w2 W:zi)(kx ky:Nat)(xx:Array Value)(tv:Int)(sl:Value)(yl:List Int):Prop where
 b:Below w2.heap.size w2 W
 x:W.heap[kx]? =some (.cells xx 80 (0,0))
 y:W.heap[ky]? =some (zg #[ze zd tv,sl] 80 (0,0))
 o:W.ownsRow w2.heap.size 2 1 sl yl.length (yl.map (ze zd))
 kl:w2.heap.size<=kx/\w2.heap.size<=ky/\kx≠ky
theorem MX.below{w2 W W':zi}{kx ky:Nat}{xx:Array Value}{tv:Int}{sl:Value}{yl:List Int}(h:MX w2 W kx ky xx tv sl yl)(hb:Below W.heap.size W W'):MX w2 W' kx ky xx tv sl yl:=
 ⟨h.b.trans (hb.mono h.b.size),za0 hb (za2 h.x) h.x,za0 hb (za2 h.y) h.y,zb9 h.o hb,h.kl⟩
theorem MX.grow{w2 W W':zi}{kx ky:Nat}{xx:Array Value}{tv:Int}{sl df:Value}{yl FH:List Int}(h:MX w2 W kx ky xx tv sl yl)(hg:W.grownBy W' sl.ownBlock)(ho:W'.ownsRow w2.heap.size 2 1 df FH.length (FH.map (ze zd))):
 W'.heap[ky]? =some (zg #[ze zd tv,sl] 80 (0,0))/\W'.heap[kx]? =some (.cells xx 80 (0,0))/\MX w2 (W'.setCell ⟨ky,1,none⟩ df) kx ky xx tv df FH:=by
 have hy:=za6 hg h.y (fun e=>zg4 h.o h.y (by decide) e.symm);have hx:=za6 hg h.x (fun e=>zg4 h.o h.x (by decide) e.symm);have s1:=xb W' ky 1 _ _ df hy;simp only[xM,xN,xO]at s1;have hb:=h.b.grown hg h.b.size (fun j e=>(h.o.lt j e).1);exact⟨hy,hx,hb.setCell h.kl.2.1 _,za8 hx h.kl.2.2,s1,zd9 ho hy,h.kl⟩
def yH4(w:zi)(ib f:Bool)(T:List RT)(L:List Int)(e:Ending)(w':zi):Prop:=Below w.heap.size w w'/\((ib=false/\e=.returned (.tuple #[.agg #[za none 0 0,za none 0 0],.bool false]))∨(ib=true/\∃ra rn rc gl lc S,e=.returned (.tuple #[.agg #[za ra rn rc,za (some ⟨gl,0,none⟩) L.length lc],.bool f])/\S.length=rn/\S.map RT.key=T.map RT.key/\PO w' w.heap.size (za ra rn rc) S (za (some ⟨gl,0,none⟩) L.length lc) L))
theorem yE4{R:List RT}(cI:(zb0 R R.length).Nodup){j k:Nat}(hj:j<R.length)(hk:k<R.length)(EE:j≠k){x:Int}(h1:x∈(R.getD j rt0).ids)(h2:x∈(R.getD k rt0).ids):False:=by
 rw[zb8]at cI;have hs:=z47 hk;rw[hs,xW,jc,yJ]at cI;have Jp:R.getD j rt0=R[j]:=by simp[List.getD,hj]
 rcases Nat.lt_or_gt_of_ne EE with h|h
 ·have hm:R.getD j rt0∈R.take k:=by rw[Jp];exact List.mem_take_iff_getElem.2 ⟨j,by omega,rfl⟩
  exact cI.2.2 x (jh.2 ⟨_,hm,h1⟩) x (List.mem_append_left _ h2) rfl
 ·have hm:R.getD j rt0∈R.drop (k+1):=by rw[Jp];exact List.mem_drop_iff_getElem.2 ⟨j - (k+1),by omega,by simp[show k+1+(j - (k+1))=j by omega]⟩
  exact(yJ.1 cI.2.1).2.2 x h2 x (jh.2 ⟨_,hm,h1⟩) rfl
theorem yp0(id tv pl n fine:Int)(a ao av ra:Option Addr)(zl ac ko co kv cv nr rc bl ol ln lc:Nat)(zs os vs L:List Int)(R:List RT)(w:zi)(hA:za3 w a zs)(hO:za3 w ao os)(hV:za3 w av vs)(aO:zs.length=zl)(an:os.length=ko*6)(au:vs.length=kv*5)(ay:ko<=9223372036854775807)(aB:kv<=9223372036854775807)(hP:zc3 w ra (some ⟨bl,ol,none⟩) nr ln R L)(aS:zc1 n zs os vs ko kv fine R L=0)(k:Nat)(hk:k<R.length)(cB:id∈(R.getD k rt0).ids):
 Calls zh 131 #[.agg #[ze zd n,za a zl ac,za ao ko co,za av kv cv,ze zd fine],.agg #[za ra nr rc,za (some ⟨bl,ol,none⟩) ln lc],ze zd id,ze zd tv,ze zd pl] w (yH4 w (inB pl 0 ((zc7 (lvR R id) tv).ids.length:Int)) (decide (zc1 n zs os vs ko kv fine (rlN R id tv pl.toNat) L=0)) (rlN R id tv pl.toNat) L):=by
 obtain⟨hc,hr,gR,mi,a8⟩:=zb7 aS;obtain⟨hp,aP⟩:=zh4.1 hr;have fU:=ze6 aS;have o7:Hid _:=hp;have mg:Hid (∀r∈R,r.ids≠[]):=fun r hr=>(aP r hr).1;have jO:Hid ((zb0 R R.length).Nodup):=gR.1;have Iq:=za4 (zR3 aS rfl (fun i hi=>by simp at hi));have bj:Hid _:=aS;have bG:Hid _:=cB;have HA:=za4 hA;have HO:=za4 hO;have HV:=za4 hV;have cm:Hid _:=aO;have aF:Hid _:=an;have aD:Hid _:=au;have HP:=za4 hP;have HN:Hid _:=hP.1;have HM:Hid _:=hP.2.1;have lV:=fU.1;have tN:=fU.2.1;have cM:k<nr:=by rw[<-HN.X];exact hk
 have na:nr<=12:=by rw[<-HN.X];exact lV
 clear hA hO hV aO an au hP aS hc hr gR mi a8 hp aP fU cB;have Q0:Hid (GQ w ((((w.alloc (zg #[ze zd n,za a zl ac,za ao ko co,za av kv cv,ze zd fine] 30)).alloc (zg #[za ra nr rc,za (some ⟨bl,ol,none⟩) ln lc] 33)).alloc (zg #[za none 0 0,za none 0 0] 33)).alloc (zg #[za ra nr rc,za (some ⟨bl,ol,none⟩) ln lc] 33)) #[ze zd n,za a zl ac,za ao ko co,za av kv cv,ze zd fine] #[za ra nr rc,za (some ⟨bl,ol,none⟩) ln lc]):=by
  refine GQ.below (W:=((w.alloc (zg #[ze zd n,za a zl ac,za ao ko co,za av kv cv,ze zd fine] 30)).alloc (zg #[za ra nr rc,za (some ⟨bl,ol,none⟩) ln lc] 33)).alloc (zg #[za none 0 0,za none 0 0] 33)) ?_ (zP _);refine⟨((zP _).alloc (by simp) _).alloc (by simp;omega) _,?_,?_,?_⟩
  ·exact(xg _ _ (by simp;omega)).trans (xm _ _ _)
  ·exact(xg _ _ (by simp)).trans (xh _ _ _)
  ·have:=zS ((w.alloc (zg #[ze zd n,za a zl ac,za ao ko co,za av kv cv,ze zd fine] 30)).alloc (zg #[za ra nr rc,za (some ⟨bl,ol,none⟩) ln lc] 33)) (zg #[za none 0 0,za none 0 0] 33)
   simpa using this
 have N0:Hid (((((w.alloc (zg #[ze zd n,za a zl ac,za ao ko co,za av kv cv,ze zd fine] 30)).alloc (zg #[za ra nr rc,za (some ⟨bl,ol,none⟩) ln lc] 33)).alloc (zg #[za none 0 0,za none 0 0] 33)).alloc (zg #[za ra nr rc,za (some ⟨bl,ol,none⟩) ln lc] 33)).heap[w.heap.size+3]? =some (zg #[za ra nr rc,za (some ⟨bl,ol,none⟩) ln lc] 33 (0,0))):=by
  have:=zS (((w.alloc (zg #[ze zd n,za a zl ac,za ao ko co,za av kv cv,ze zd fine] 30)).alloc (zg #[za ra nr rc,za (some ⟨bl,ol,none⟩) ln lc] 33)).alloc (zg #[za none 0 0,za none 0 0] 33)) (zg #[za ra nr rc,za (some ⟨bl,ol,none⟩) ln lc] 33);show _=_;simpa using this
 have e0:(((w.alloc (zg #[ze zd n,za a zl ac,za ao ko co,za av kv cv,ze zd fine] 30)).alloc (zg #[za ra nr rc,za (some ⟨bl,ol,none⟩) ln lc] 33)).alloc (zg #[za none 0 0,za none 0 0] 33)).heap.size=w.heap.size+3:=by simp
 have P0:Hid ((((w.alloc (zg #[ze zd n,za a zl ac,za ao ko co,za av kv cv,ze zd fine] 30)).alloc (zg #[za ra nr rc,za (some ⟨bl,ol,none⟩) ln lc] 33)).alloc (zg #[za none 0 0,za none 0 0] 33)).heap[w.heap.size+1]? =some (zg #[za ra nr rc,za (some ⟨bl,ol,none⟩) ln lc] 33 (0,0))):=(xg _ _ (by simp)).trans (xh _ _ _);obtain⟨p0,p1⟩:=za1 P0.X;go_enter Tryz.func131,Tryz.ntmps131
 go_wp2_with fail
 clear p0 p1 P0
 try rw[e0]
 clear e0;generalize(((w.alloc _).alloc _).alloc _).alloc _=W1 at*;obtain⟨kb,fw⟩:=nmd (w.heap.size+3);rw[fw.X]at N0
 try rw[fw.X]
 try rw[show w.heap.size+1+1+1=kb from fw.X]
 go_loopw[13] (fun t wr=>∃i:Nat,i<=nr/\t=ze zd i/\GQ w wr #[ze zd n,za a zl ac,za ao ko co,za av kv cv,ze zd fine] #[za ra nr rc,za (some ⟨bl,ol,none⟩) ln lc]/\((i<=k/\wr.heap[kb]? =some (zg #[za ra nr rc,za (some ⟨bl,ol,none⟩) ln lc] 33 (0,0)))∨(k<i/\∃(cK:Option Addr) (n1 cF eH c_:Nat) (R1:List RT),wr.heap[kb]? =some (zg #[za cK n1 cF,za (some ⟨eH,0,none⟩) ln c_] 33 (0,0))/\PO wr (w.heap.size+4) (za cK n1 cF) R1 (za (some ⟨eH,0,none⟩) ln c_) L/\R1.length=n1/\R1.map RT.key=(lvR R id).map RT.key))) (fun t _=>nr - (intOf t).toNat)
 case atStart=>exact⟨0,xi _,rfl,Q0.X,.inl ⟨xi _,N0.X⟩⟩
 case round=>
  clear Q0 N0;obtain⟨i,hi,rfl,hQ,hN⟩:=hrel;have Q1:Hid _:=hQ;have NN:Hid _:=hN;clear hQ hN;obtain⟨p0,p1⟩:=za1 Q1.p;by_cases ah:i<nr
  ·have ek:(i:Int)<(nr:Int):=by omega
   obtain⟨b,off,e,r1,r2,r3⟩:=(HP.2.2.1.below Q1.b) i (by rw[HN.X];exact ah);subst e;have rk:=Iq.sm _ (zh2 (show i<R.length by rw[HN.X];exact ah));have L3:=zx6 (R.getD i rt0).a (R.getD i rt0).ids.length (R.getD i rt0).c id (R.getD i rt0).ids wr r3 (zT _) (by omega);rw[zt4]at L3;by_cases om:i=k
   ·subst om
    rw[zW bG.X]at L3;have NI:Hid (wr.heap[kb]? =some (zg #[za (some ⟨b,off,none⟩) nr rc,za (some ⟨bl,ol,none⟩) ln lc] 33 (0,0))):=by
     rcases NN.X with⟨_,h9⟩|⟨h9,_⟩
     ·exact h9
     ·omega
    clear NN;obtain⟨br,r',er,-⟩:=r3 0 (xV.2 (mg.X _ (zh2 hk)));have gZ:∀W,Below wr.heap.size wr W->_:=fun W hW=>z95 br r' (R.getD i rt0).c (R.getD i rt0).ids id W (by have:=r3.below hW;rw[er]at this;exact this) (by omega)
    have im:∀W (g cg:Nat),Below wr.heap.size wr W->za3 W (some ⟨g,0,none⟩) (cutP (R.getD i rt0).ids id)->Calls zh 72 #[.agg #[za (some ⟨b,off,none⟩) nr rc,za (some ⟨bl,ol,none⟩) ln lc],.agg #[ze zd (R.getD i rt0).v,za (some ⟨g,0,none⟩) (cutP (R.getD i rt0).ids id).length cg]] W (NP W (lvR R id) L):=fun W g cg hW hX=>zM1 (some ⟨b,off,none⟩) nr rc bl ol ln lc g cg (cutP (R.getD i rt0).ids id).length i R L id W Iq.X (by omega) HM.X HN.X (HP.2.2.1.below (Q1.b.trans (hW.mono Q1.b.size))) (HP.2.2.2.1.below (Q1.b.trans (hW.mono Q1.b.size))) hk bG.X rfl hX
    rw[er]at r2 L3;clear r3 er rk;obtain⟨rt,dj⟩:=nmd (R.getD i rt0);rw[dj.X]at r1 r2 L3 gZ im;obtain⟨cl,jD⟩:=nmd ((cutP rt.ids id).length);obtain⟨rl,cu⟩:=nmd rt.ids.length;obtain⟨rv,bB⟩:=nmd rt.v;obtain⟨vU,bA⟩:=nmd rt.c;rw[cu.X,bA.X]at r2 L3;rw[bB.X]at r1;rw[cu.X,bA.X,jD.X]at gZ;rw[bB.X,jD.X]at im;have AQ:Hid _:=gZ;have A3:Hid _:=im;clear gZ im dj;have oF:Hid (∀W,Below wr.heap.size wr W->(fun W=>W.cell? ⟨w.heap.size+1,0,none⟩=some (za (some ⟨b,off,none⟩) nr rc)/\W.cell? ⟨w.heap.size+1,1,none⟩=some (za (some ⟨bl,ol,none⟩) ln lc)/\W.cell? ⟨b,off+i*2,none⟩=some (ze zd rv)/\W.cell? ⟨b,off+i*2+1,none⟩=some (za (some ⟨br,r',none⟩) rl vU)) W):=fun W hW=>⟨keepL p0 hW,keepL p1 hW,keepL r1 hW,keepL r2 hW⟩;go_upto_region 6 with(go_at_call 87;refine L3.mono ?_;rintro e w' ⟨rfl,dx⟩;subst w')
    go_wp2_with fail
    refine ze4 (S:=(fun W=>W.cell? ⟨w.heap.size+1,0,none⟩=some (za (some ⟨b,off,none⟩) nr rc)/\W.cell? ⟨w.heap.size+1,1,none⟩=some (za (some ⟨bl,ol,none⟩) ln lc)/\W.cell? ⟨b,off+i*2,none⟩=some (ze zd rv)/\W.cell? ⟨b,off+i*2+1,none⟩=some (za (some ⟨br,r',none⟩) rl vU))) 17 (by kernel_rfl) ?_ fun aa=> ?_
    ·exact oF.X _ (y5 _ _).drew
    have BD:Hid (Below wr.heap.size wr wr.drew):=(y5 _ _).drew;generalize wr.drew=wd at*;refine tkZ 0 aa ?_;refine tkZ 1 aa ?_;refine tkZ 2 aa ?_;refine tkZ 3 aa ?_;refine tkZ 4 aa ?_;refine tkZ 5 aa ?_;refine tkZ 6 aa ?_;refine tkZ 7 aa ?_;refine tkZ 8 aa ?_;refine tkZ 9 aa ?_;refine tkZ 10 aa ?_;refine tkZ 11 aa ?_;refine tkZ 12 aa ?_;refine tkZ 13 aa ?_;refine rdZ 14 fun K hK=> ?_;go_simp;refine(AQ.X wd BD.X).mono ?_;rintro e w6 ⟨g,cg,rfl,hb,ho⟩;have B6:Hid _:=BD.trans (hb.mono BD.size);have X6:=za4 (ze8 ho);clear hb ho
    try rw[jD.X]
    (try go_wp2_with fail)
    refine hoW hK (oF.X _ B6.X) fun aa=> ?_;clear hK K;refine tkZ 15 aa ?_;refine rdZ 16 fun K hK=> ?_;go_simp;refine(A3.X w6 g cg B6.X X6.X).mono ?_;rintro e w7 ⟨kj,n7,kt,g7,jl,R7,rfl,hb,Jn,uX,ru⟩;rw[HM.X]at ru⊢;have jE:=B6.trans (hb.mono B6.size);have hx:=za0 jE (za2 NI.X) NI.X;have s1:=xb w7 kb 0 _ _ (za kj n7 kt) hx;simp only[xM,xN]at s1;have s2:=xb _ kb 1 _ _ (za (some ⟨g7,0,none⟩) ln jl) s1;simp only[xM,xN,xO]at s2;have M7:Hid (∃(cK:Option Addr) (n1 cF eH c_:Nat) (R1:List RT),((w7.setCell ⟨kb,0,none⟩ (za kj n7 kt)).setCell ⟨kb,1,none⟩ (za (some ⟨g7,0,none⟩) ln jl)).heap[kb]? =some (zg #[za cK n1 cF,za (some ⟨eH,0,none⟩) ln c_] 33 (0,0))/\PO ((w7.setCell ⟨kb,0,none⟩ (za kj n7 kt)).setCell ⟨kb,1,none⟩ (za (some ⟨g7,0,none⟩) ln jl)) (w.heap.size+4) (za cK n1 cF) R1 (za (some ⟨eH,0,none⟩) ln c_) L/\R1.length=n1/\R1.map RT.key=(lvR R id).map RT.key):=⟨kj,n7,kt,g7,jl,R7,s2,((ru.base (by have h1:=za2 (za0 B6.X (za2 NI.X) NI.X);have h2:=fw.X;omega)).box hx).box s1,Jn,uX⟩;have Q7:Hid (GQ w ((w7.setCell ⟨kb,0,none⟩ (za kj n7 kt)).setCell ⟨kb,1,none⟩ (za (some ⟨g7,0,none⟩) ln jl)) #[ze zd n,za a zl ac,za ao ko co,za av kv cv,ze zd fine] #[za (some ⟨b,off,none⟩) nr rc,za (some ⟨bl,ol,none⟩) ln lc]):=((Q1.below jE).set (by have:=fw.X;omega)).set (by have:=fw.X;omega);have B7:Hid _:=jE;have F7:=fun i=>yZ _ _ i _ _ hx;obtain⟨f0,f1⟩:=za1 hx;clear hb Jn uX ru jE hx s1 s2
    (try go_wp2_with fail)
    refine hoW hK (oF.X _ B7.X) fun aa=> ?_;clear hK K;refine rdL 17 fun K hK=> ?_;go_simp;refine hK.out _ _ ?_;clear hK K;clear F7 f0 f1;generalize((w7.setCell ⟨kb,0,none⟩ _).setCell ⟨kb,1,none⟩ _)=w8 at*;refine zh3 (by kernel_rfl) ?_ _;clear aa AQ A3 oF L3 r1 r2;go_wp2;go_roundw
    case rel=>exact⟨i+1,by omega,by first|rfl|go_num,Q7.X,.inr ⟨by omega,M7.X⟩⟩
    case measure=>simp[intOf];omega
   ·have aZ:id∉(R.getD i rt0).ids:=fun h9=>yE4 jO.X (by rw[HN.X];exact ah) hk om h9 bG.X
    rw[zX aZ]at L3;clear aZ r3 rk;obtain⟨rt,dj⟩:=nmd (R.getD i rt0);rw[dj.X]at r1 r2 L3;clear dj;obtain⟨rl,cu⟩:=nmd rt.ids.length;rw[cu.X]at r2 L3
    go_wp2_with(go_at_call 87;refine L3.mono ?_;rintro e w' ⟨rfl,dx⟩;subst w')
    go_roundw
    case rel=>
     refine⟨i+1,by omega,by first|rfl|go_num,Q1.X,?_⟩;rcases NN.X with⟨h1,h2⟩|⟨h1,h2⟩
     ·exact .inl ⟨by omega,h2⟩
     ·exact .inr ⟨by omega,h2⟩
    case measure=>simp[intOf];omega
  ·have ek:¬((i:Int)<(nr:Int)):=by omega
   obtain⟨cK,n1,cF,eH,c_,R1,hx,da,a8,eJ⟩:∃(cK:Option Addr) (n1 cF eH c_:Nat) (R1:List RT),wr.heap[kb]? =some (zg #[za cK n1 cF,za (some ⟨eH,0,none⟩) ln c_] 33 (0,0))/\PO wr (w.heap.size+4) (za cK n1 cF) R1 (za (some ⟨eH,0,none⟩) ln c_) L/\R1.length=n1/\R1.map RT.key=(lvR R id).map RT.key:=by
    rcases NN.X with⟨h9,_⟩|⟨_,h9⟩
    ·omega
    ·exact h9
   have N1:Hid _:=hx;have O1:Hid _:=da;have mz:Hid _:=a8;have dh:Hid _:=eJ;clear NN hx da a8 eJ p0 p1;obtain⟨p0,p1⟩:=za1 N1.X;have LR:=z28 cK (some ⟨eH,0,none⟩) cF ln c_ R1 tv wr (zG2 O1.X mz.X) (by have h1:=congrArg zo dh.X;have h2:=zQ9 R id;simp only[qz]at h1;omega);rw[mz.X]at LR;have lA:Hid _:=zo0 dh.X tv;have j4:Hid (zw3 R1):=fun r hr=>by
    have h1:=z12 dh.X (b:=12) (fun r hr=>⟨yw9 hr,zU6 Iq.sm r hr⟩) r hr;exact⟨h1.1,h1.2,(O1.ints r hr).2⟩
   obtain⟨tL,j5,EG,Dh⟩:=z70 (zG2 O1.X mz.X) j4.X tv;have rT:=za4 tL;have iy:Hid (rlN R id tv pl.toNat=wrL (lvR R id) ⟨tv,none,insL (zc7 R1 tv).ids pl.toNat id,0⟩):=by show _=_;unfold rlN;rw[lA.X]
   rw[<-lA.X];have Hr:Hid ((zc7 R1 tv).ids=(zc7 R1 tv).ids):=rfl;obtain⟨X,HX⟩:=nmd ((zc7 R1 tv).ids);obtain⟨xa,vP⟩:=nmd ((zc7 R1 tv).a);obtain⟨xc,vC⟩:=nmd ((zc7 R1 tv).c);obtain⟨xl,aX⟩:=nmd X.length;rw[HX.X,vP.X]at rT Dh;rw[HX.X]at j5 EG iy LR⊢;rw[vP.X,vC.X,aX.X]at LR;rw[vC.X]at EG;rw[aX.X]at j5 EG Dh⊢;have nI:Hid _:=lA.symm.trans HX.X;clear tL Hr HX vP vC lA;obtain⟨ib,pq⟩:=nmd (inB pl 0 (xl:Int));rw[pq.X];obtain⟨q0,q1⟩:=za1 Q1.p
   go_wp2_with fail
   refine LR.mono ?_;rintro e w2 ⟨rfl,hb⟩;have Q2:Hid _:=Q1.below hb;have N2:Hid _:=za0 hb (za2 N1.X) N1.X;have O2:Hid _:=O1.below hb;have X2:=za4 (rT.below hb);clear hb LR Q1 N1 O1 rT p0 p1 q0 q1;have Km:Below w2.heap.size w2 (w2.alloc (zg #[ze zd tv,za xa xl xc] 80)):=zP _;have DV:Hid _:=Km;have Ez:=za4 (zS w2 (zg #[ze zd tv,za xa xl xc] 80));clear Km;obtain⟨x0,x1⟩:=za1 Ez.X;cases ib
   ·have Q3:Hid _:=Q2.below DV.X
    obtain⟨a0,a1⟩:=za1 Q3.o;have af:=fun i=>yZ _ _ i _ _ Q3.o;have BE:Hid (Below w.heap.size w (((w2.alloc (zg #[ze zd tv,za xa xl xc] 80)).setCell ⟨w.heap.size+2,0,none⟩ (za none 0 0)).setCell ⟨w.heap.size+2,1,none⟩ (za none 0 0))):=(Q3.b.setCell (by simp) _).setCell (by simp) _
    go_wp2_with(go_at_call 39;refine(zc0 _ _ _ _).mono ?_;rintro e w' ⟨rfl,dx⟩;subst w';rw[pq.X])
    refine xe (v:=.tuple #[.agg #[za none 0 0,za none 0 0],.bool false]) (by simp[results,Tryz.results131,go_sem,a0,a1]) rfl ?_;exact⟨BE.X,.inl ⟨by rw[nI.X,aX.X];exact pq.X,rfl⟩⟩
   ·have h1:=zc8 pq.X
    obtain⟨j,rfl⟩:∃j:Nat,pl=j:=⟨pl.toNat,by omega⟩;simp only[yu]at iy⊢;have hj:j<=xl:=by omega
    obtain⟨kx,Qc⟩:=nmd w2.heap.size;go_upto_region 10 with(go_at_call 39;refine(zc0 _ _ _ _).mono ?_;rintro e w' ⟨rfl,dx⟩;subst w';rw[pq.X]);obtain⟨JC,-⟩:Hid ((xa=none/\xl=0)∨∃b off,xa=some ⟨b,off,none⟩)/\True:=⟨Dh,trivial⟩;clear Dh x0 x1 h1;have dR:Hid ((X.take j).length=j):=by show _=_;rw[yh,aX.X];omega
    have B4:Hid (Below w2.heap.size w2 ((w2.alloc (zg #[ze zd tv,za xa xl xc] 80)).alloc (zg #[] 2))):=DV.alloc DV.size _;have C_:Hid (((w2.alloc (zg #[ze zd tv,za xa xl xc] 80)).alloc (zg #[] 2)).heap[w2.heap.size]? =some (zg #[ze zd tv,za xa xl xc] 80 (0,0))):=(xg _ _ (by simp)).trans Ez.X;have OE:Hid (((w2.alloc (zg #[ze zd tv,za xa xl xc] 80)).alloc (zg #[] 2)).ownsRow w2.heap.size 2 1 (za (some ⟨w2.heap.size+1,0,none⟩) 0 0) 0 (([]:List Int).map (ze zd))):=by
     have:=qo (w2.alloc (zg #[ze zd tv,za xa xl xc] 80)) #[] 0 (base:=w2.heap.size) (e:=2) (size:=1) (by simp) (by unfold maxLen;omega) (by simp);show World.ownsRow _ _ _ _ _ _ _;simpa using this
    obtain⟨x0,x1⟩:=za1 C_.X;have sw:(0:Int)<=(j:Int):=by omega
    have jG:(j:Int)<=(xc:Int):=by omega
    have cw:(j:Int)<=(xl:Int):=by omega
    go_cut [15]from 59 to 67 (fun pW wx=>∃(ky gy cy:Nat),pW=.pointer (some ⟨ky,0,none⟩)/\MX w2 wx w2.heap.size ky #[ze zd tv,za xa xl xc] tv (za (some ⟨gy,0,none⟩) j cy) (X.take j))
    case first=>
     have mk:∀(W:zi) (gy cy:Nat),Below w2.heap.size w2 W->W.heap[w2.heap.size]? =some (zg #[ze zd tv,za xa xl xc] 80 (0,0))->W.ownsRow w2.heap.size 2 1 (za (some ⟨gy,0,none⟩) j cy) j ((X.take j).map (ze zd))->MX w2 (W.alloc (zg #[ze zd tv,za (some ⟨gy,0,none⟩) j cy] 80)) w2.heap.size W.heap.size #[ze zd tv,za xa xl xc] tv (za (some ⟨gy,0,none⟩) j cy) (X.take j):=fun W gy cy hb hx ho=>by
      have hA:Below W.heap.size W (W.alloc (zg #[ze zd tv,za (some ⟨gy,0,none⟩) j cy] 80)):=zP _;exact⟨hb.trans (hA.mono hb.size),za0 hA (za2 hx) hx,zS _ _,by rw[dR.X];exact ho.alloc _,zT _,hb.size,by have:=za2 hx;omega⟩
     have MK:Hid _:=mk;clear mk;rcases JC.X with⟨e1,e2⟩|⟨bx,ox,e1⟩
     ·subst e1 e2
      have mu:j=0:=by omega
      subst mu
      go_wp2_with(at_builtin
                  refine zK7 _ rfl (.tmp 61) (.tmp 65) rfl (w2.heap.size+1) 0 0 xc rfl rfl (zT _) ?_)
      go_meet;have h9:=MK.X _ _ _ B4.X C_.X (by rw[qM];exact OE.X);rw[show((w2.alloc (zg #[ze zd tv,za none 0 xc] 80)).alloc (zg #[] 2)).heap.size=w2.heap.size+1+1 by simp]at h9;exact⟨_,_,_,rfl,h9⟩
     ·subst e1
      go_wp2_with(at_builtin
                  go_must(refine zc9 _ rfl (.tmp 61) (.tmp 65) rfl w2.heap.size _ 0 [] rfl OE.X bx ox j xc (X.take j) rfl dR.X (zU4 (X2.below B4.X) j) (by omega) (by omega) B4.size ?_)
                  go_loud(
                   intro lv w5 ae hg a_ aW;have dF:∀q,(za (some ⟨w2.heap.size+1,0,none⟩) 0 0).ownBlock=some q->w2.heap.size+1<=q:=fun q e=>by have:=z58 e;omega
                   have B5:Hid _:=B4.grown hg B4.size (fun q e=>by have:=dF q e;omega);have Lk:Hid _:=za6 hg C_.X (fun e=>by have:=dF _ e.symm;omega);obtain⟨gy,cy,e⟩:=zr1 ae (zn1 aW ⟨_,_,_,rfl⟩);rw[yb]at e;subst e;have O5:Hid (w5.ownsRow w2.heap.size 2 1 (za (some ⟨gy,0,none⟩) j cy) j ((X.take j).map (ze zd))):=by rw[yb,yw]at ae;exact ae)
                  clear ae hg a_ aW dF)
      go_meet;exact⟨_,_,_,rfl,MK.X _ _ _ B5.X Lk.X O5.X⟩
    case rest=>
     obtain⟨ky,gy,cy,rfl,hM⟩:=hcut;have M5:Hid _:=hM;clear hM Ez DV B4 C_ OE x0 x1;have lK:=dR.X;obtain⟨y0,y1⟩:=za1 M5.y;have MI:=fun i=>yZ _ _ i _ _ M5.y;have eJ:(wc.alloc (zg #[ze zd id] 2)).heap[wc.heap.size]? =some (zg #[ze zd id] 2 (0,0)):=zS _ _;have MA:Hid (MX w2 (wc.alloc (zg #[ze zd id] 2)) w2.heap.size ky #[ze zd tv,za xa xl xc] tv (za (some ⟨gy,0,none⟩) j cy) (X.take j)):=M5.below (zP _)
     go_wp2_with(first
      |(at_builtin
        go_must(refine zH0 _ rfl _ _ rfl w2.heap.size (za (some ⟨gy,0,none⟩) j cy) j (X.take j) rfl (yr8 MA.o dR.X) wc.heap.size 1 id rfl (zU _ _ 0 _ _ _ eJ) (by omega) MA.b.size ?_)
        go_loud(
         intro v' w6 ho hg hn;obtain⟨g1,fz,rfl⟩:∃g cg,v'=za (some ⟨g,0,none⟩) (j+1) cg:=zB1 ho (fun e=>by simpa using(hn.1 e).1) rfl;obtain⟨y6,-,KT⟩:=MA.grow hg (zD7 ho dR.X rfl);have M6:Hid _:=KT;obtain⟨z0,z1⟩:=za1 y6;have zf:=fun i=>yZ _ _ i _ _ y6)
        clear ho hg hn KT))
     clear z0 z1 zf y6 y0 y1 MI eJ MA M5;generalize w6.setCell ⟨ky,1,none⟩ _=W6 at*;have rx:Hid ((X.take j++[id]).length=j+1):=by show _=_;rw[xS,dR.X];rfl
     have AZ:Hid ((X.drop j).length=xl - j):=by show _=_;rw[qj,aX.X]
     go_upto_region 12 with fail;go_cut [15]from 74 to 81 (fun pW wx=>pW=.pointer (some ⟨ky,0,none⟩)/\∃(g2 lm:Nat),MX w2 wx w2.heap.size ky #[ze zd tv,za xa xl xc] tv (za (some ⟨g2,0,none⟩) (xl+1) lm) (insL X j id))
     case first=>
      rcases JC.X with⟨e1,e2⟩|⟨bx,ox,e1⟩
      ·subst e1 e2
       have mu:j=0:=by omega
       have MY:X=[]:=xE aX.X;subst mu MY
       go_wp2_with fail
       refine ze4 (S:=(fun W=>W.cell? ⟨ky,1,none⟩=some (za (some ⟨g1,0,none⟩) (0+1) fz)/\W.cell? ⟨w2.heap.size,1,none⟩=some (za none 0 xc))) 8 (by kernel_rfl) ?_ fun aa=> ?_
       ·exact⟨(za1 (M6.below (y5 _ _).drew).y).2,(za1 (M6.below (y5 _ _).drew).x).2⟩
       have MD:=za4 (M6.below (y5 _ _).drew);have tK:0+1<=fz:=zy5 (k:=0+1) MD.o;clear M6;generalize W6.drew=wd12 at*;refine tkZ 0 aa ?_;refine tkZ 1 aa ?_;refine tkZ 2 aa ?_;refine tkZ 3 aa ?_;refine tkZ 4 aa ?_;refine tkZ 5 aa ?_;refine rdZ 6 fun K hK=> ?_;refine zI7 (w:=wd12) rfl (.tmp 75) (.tmp 79) rfl g1 (0+1) fz xc rfl rfl tK ?_;rintro w9 rfl;have M9:Hid (MX w2 (w9.setCell ⟨ky,1,none⟩ (za (some ⟨g1,0,none⟩) (0+1) fz)) w2.heap.size ky #[ze zd tv,za none 0 xc] tv (za (some ⟨g1,0,none⟩) (0+1) fz) (insL [] 0 id)):=(MD.grow (zt1 _ _) MD.o).2.2;obtain⟨z0,z1⟩:=za1 MD.y;have zf:=fun i=>yZ _ _ i _ _ MD.y;refine hoW hK ⟨(za1 MD.y).2,(za1 MD.x).2⟩ fun aa=> ?_;clear hK K;refine tkZ 7 aa ?_;refine rdL 8 fun K hK=> ?_;go_simp;refine hK.out _ _ ?_;clear hK K;refine zh3 (by kernel_rfl) ?_ _;clear aa
       (try go_wp2_with fail)
       go_meet;exact⟨rfl,_,_,M9.X⟩
      ·subst e1
       go_wp2_with fail
       refine ze4 (S:=(fun W=>W.cell? ⟨ky,1,none⟩=some (za (some ⟨g1,0,none⟩) (j+1) fz)/\W.cell? ⟨w2.heap.size,1,none⟩=some (za (some ⟨bx,ox,none⟩) xl xc))) 8 (by kernel_rfl) ?_ fun aa=> ?_
       ·exact⟨(za1 (M6.below (y5 _ _).drew).y).2,(za1 (M6.below (y5 _ _).drew).x).2⟩
       have MD:Hid _:=M6.below (y5 _ _).drew;clear M6;generalize W6.drew=wd12 at*;refine tkZ 0 aa ?_;refine tkZ 1 aa ?_;refine tkZ 2 aa ?_;refine tkZ 3 aa ?_;refine tkZ 4 aa ?_;refine tkZ 5 aa ?_;refine rdZ 6 fun K hK=> ?_;refine z08 rfl (.tmp 75) (.tmp 79) rfl w2.heap.size (za (some ⟨g1,0,none⟩) (j+1) fz) (X.take j++[id]) (j+1) rfl (yr8 MD.o rx.X) _ _ _ (X.drop j) rfl (yk3 _ _ _ _) (by have:=AZ.X;omega) (yj7 (X2.below MD.b) _ _ (by rw[aX.X];omega)) (by omega) (by omega) MD.b.size ?_;intro v' w9 ho hg hn;generalize(if xc=j then some (⟨bx,ox,none⟩:Addr)else some ⟨bx,ox+j,none⟩)=adx at*;obtain⟨g2,lm,rfl⟩:∃g cg,v'=za (some ⟨g,0,none⟩) (xl+1) cg:=zB1 ho (fun e=>by simpa using(hn.1 e).1) (by omega);have fa:=zD7 ho rx.X (by have:=AZ.X;omega);have bd:X.take j++[id]++X.drop j=insL X j id:=by simp[insL]
       rw[bd]at fa;obtain⟨y9,x9,I0⟩:=MD.grow hg fa;have M9:Hid _:=I0;have Mk:=xr (za1 y9).2 (za1 x9).2;obtain⟨z0,z1⟩:=za1 y9;have zf:=fun i=>yZ _ _ i _ _ y9;clear ho hg hn fa bd I0 x9;refine hoW hK Mk fun aa=> ?_;clear hK K;refine tkZ 7 aa ?_;refine rdL 8 fun K hK=> ?_;go_simp;refine hK.out _ _ ?_;clear hK K;refine zh3 (by kernel_rfl) ?_ _;clear aa
       (try go_wp2_with fail)
       go_meet;exact⟨rfl,_,_,M9.X⟩
     case rest=>
      obtain⟨rfl,g2,lm,hM⟩:=hcut;have M8:Hid _:=hM;clear hM M6;have o9:Hid ((insL X j id).length=xl+1):=by show _=_;rw[zq2 id (by rw[aX.X];exact hj),aX.X]
      have Ag:Hid (insL X j id≠[]):=by show _≠_;unfold insL;simp
      have Q8:Hid _:=Q2.below M8.b;have N8:Hid _:=za0 M8.b (za2 N2.X) N2.X;have O8:Hid _:=O2.below M8.b;have Y8:=za4 (ze8 (by have h9:=M8.o;rw[o9.X]at h9;exact h9));have wZ:R1.length<=12:=by have h1:=congrArg zo dh.X;have h2:=zQ9 R id;simp only[qz]at h1;omega
      have ST:=zw5 cK eH 0 cF c_ g2 0 lm R1 L tv (insL X j id) wc (zG2 O8.X mz.X) (yA1 O8.X HM.X) Y8.X (by omega) (fun r hr=>⟨(j4.X r hr).1,by have:=(j4.X r hr).2.1;omega⟩) (by omega) ⟨Ag.X,by have:=o9.X;omega⟩;rw[mz.X,HM.X,o9.X]at ST;obtain⟨n0,Gk⟩:=za1 N8.X;obtain⟨y0,y1⟩:=za1 M8.y
      go_wp2_with fail
      refine ST.mono ?_;rintro e vK ⟨bL,bV,d6,bX,S3,rfl,hb,iH,gi⟩;rw[HM.X]at gi⊢;obtain⟨n3,rL⟩:=nmd S3.length;rw[rL.X]at gi⊢;have iG:Hid (S3.map RT.key=(rlN R id tv j).map RT.key):=by
       show _=_;rw[iH,z53 (zf0 (yx8 dh.X (z52 (zf0 o7.X) id).pw)) Ag.X,iy.X];exact z80 dh.X rfl
      obtain⟨pv,cJ⟩:=nmd (zc1 n zs os vs ko kv fine (rlN R id tv j) L);obtain⟨pd,J4⟩:=nmd (decide (pv=0));have wO:(pv==0)=pd:=J4.X;have gS:Hid (∀W,Below w.heap.size w W->PO W (w.heap.size+3) (za bL n3 bV) S3 (za (some ⟨d6,0,none⟩) ln bX) L->Calls zh 38 #[.agg #[ze zd n,za a zl ac,za ao ko co,za av kv cv,ze zd fine],.agg #[za bL n3 bV,za (some ⟨d6,0,none⟩) ln bX]] W fun e w'=>e=.returned (ze zd pv)/\Below W.heap.size W w'):=fun W hW hO=>by
       have hq:=zM6 o7.X mg.X jO.X hk bG.X tv j;have bF:=(zj8 bj.X).1;have rk:=z12 iG.X (zY9 bj.X hk bG.X tv j);have pQ:S3.length<=25:=by have h1:=congrArg zo iG.X;have h2:=yF7 R id tv j;simp only[qz]at h1;omega
       have PC:=zj3 n fine a ao av bL (some ⟨d6,0,none⟩) ac ko co kv cv bV bX zs os vs L S3 W (HA.below hW) (HO.below hW) (HV.below hW) (zG2 hO rL.X) (yA1 hO HM.X) aF.X aD.X ay aB (by omega) (fun r hr=>by have:=(rk r hr).2;omega) (fun r hr=>(hO.ints r hr).2) (by omega) (by rw[zb8,z61 iG.X,hq.length_eq,<-zb8];omega);rw[rL.X,HM.X,cm.X,zd6 L iG.X,cJ.X]at PC;exact PC
      have hA:Below vK.heap.size vK (vK.alloc (zg #[za bL n3 bV,za (some ⟨d6,0,none⟩) ln bX] 33)):=zP _;have Ft:Hid _:=(Q8.below hb).below hA;have vQ:=za4 (zS vK (zg #[za bL n3 bV,za (some ⟨d6,0,none⟩) ln bX] 33));have Ld:Hid _:=(gi.base (by have:=Q8.size;omega)).below hA;have dL:Hid _:=(Q8.below hb).size;clear hA hb iH gi ST n0 Gk y0 y1 Q8 N8 O8 Y8 M8 Q2 N2 O2 X2
      go_wp2_with fail
      generalize vK.alloc _=W14 at*;obtain⟨kq,lI⟩:=nmd vK.heap.size;rw[lI.X]at vQ dL⊢;refine qG (S:=(fun W=>(W.cell? ⟨w.heap.size,0,none⟩=some (ze zd n)/\W.cell? ⟨w.heap.size,1,none⟩=some (za a zl ac)/\W.cell? ⟨w.heap.size,2,none⟩=some (za ao ko co)/\W.cell? ⟨w.heap.size,3,none⟩=some (za av kv cv)/\W.cell? ⟨w.heap.size,4,none⟩=some (ze zd fine))/\W.cell? ⟨kq,0,none⟩=some (za bL n3 bV)/\W.cell? ⟨kq,1,none⟩=some (za (some ⟨d6,0,none⟩) ln bX))) (by kernel_rfl) ?_ fun aa=> ?_
      ·exact⟨za7 (Ft.below (y5 _ _).drew).c,za1 (za0 (y5 _ _).drew (za2 vQ.X) vQ.X)⟩
      have QD:Hid _:=Ft.below (y5 _ _).drew;have BU:Hid _:=za0 (y5 _ _).drew (za2 vQ.X) vQ.X;have OD:Hid _:=Ld.below (y5 _ _).drew;clear Ft vQ Ld;generalize W14.drew=wd14 at*;refine tkH 0 aa ?_;refine tkH 1 aa ?_;refine tkH 2 aa ?_;refine rdH 3 fun K hK=> ?_;go_simp;refine(gS.X wd14 QD.b OD.X).mono ?_;rintro e u9 ⟨rfl,hb⟩;have uD:Hid _:=QD.below hb;have JW:Hid _:=za0 hb (za2 BU.X) BU.X;have Lv:Hid _:=OD.below hb;clear hb
      (try go_wp2_with fail)
      refine hoW hK ⟨za7 uD.c,za1 JW.X⟩ fun aa=> ?_;clear hK K;refine tkH 4 aa ?_;refine rdH 5 fun K hK=> ?_;obtain⟨a0,a1⟩:=za1 uD.o;have af:=fun i=>yZ _ _ i _ _ uD.o;have s1:=xb u9 (w.heap.size+2) 0 _ _ (za bL n3 bV) uD.o;have Ln:Hid (PO ((u9.setCell ⟨w.heap.size+2,0,none⟩ (za bL n3 bV)).setCell ⟨w.heap.size+2,1,none⟩ (za (some ⟨d6,0,none⟩) ln bX)) (w.heap.size+3) (za bL n3 bV) S3 (za (some ⟨d6,0,none⟩) ln bX) L):=(Lv.box uD.o).box s1;simp only[xM,xN]at s1;have s2:=xb _ (w.heap.size+2) 1 _ _ (za (some ⟨d6,0,none⟩) ln bX) s1;simp only[xM,xN,xO]at s2;have IM:Hid _:=s2;have L_:Hid (((u9.setCell ⟨w.heap.size+2,0,none⟩ (za bL n3 bV)).setCell ⟨w.heap.size+2,1,none⟩ (za (some ⟨d6,0,none⟩) ln bX)).heap[w.heap.size]? =some (zg #[ze zd n,za a zl ac,za ao ko co,za av kv cv,ze zd fine] 30 (0,0))):=za8 (za8 uD.c (by omega)) (by omega);have Mv:Hid (((u9.setCell ⟨w.heap.size+2,0,none⟩ (za bL n3 bV)).setCell ⟨w.heap.size+2,1,none⟩ (za (some ⟨d6,0,none⟩) ln bX)).heap[kq]? =some (zg #[za bL n3 bV,za (some ⟨d6,0,none⟩) ln bX] 33 (0,0))):=za8 (za8 JW.X (by have:=dL.X;omega)) (by have:=dL.X;omega);have Mc:Hid (Below w.heap.size w ((u9.setCell ⟨w.heap.size+2,0,none⟩ (za bL n3 bV)).setCell ⟨w.heap.size+2,1,none⟩ (za (some ⟨d6,0,none⟩) ln bX))):=(uD.b.setCell (by simp) _).setCell (by simp) _;clear s1 s2;go_simp;refine hoW hK ⟨za7 L_.X,za1 Mv.X⟩ fun aa=> ?_;clear hK K;clear a0 a1 af;generalize((u9.setCell ⟨w.heap.size+2,0,none⟩ _).setCell ⟨w.heap.size+2,1,none⟩ _)=W16 at*;refine tkH 6 aa ?_;refine qF (by kernel_rfl) ?_ _;clear aa;obtain⟨a0,a1⟩:=za1 IM.X;go_wp2;refine xe (v:=.tuple #[.agg #[za bL n3 bV,za (some ⟨d6,0,none⟩) ln bX],.bool pd]) (by simp[results,Tryz.results131,go_sem,a0,a1]) rfl ?_;refine⟨Mc.X,.inr ⟨by rw[nI.X,aX.X];exact pq.X,bL,n3,bV,d6,bX,S3,?_,rL.X,iG.X,?_⟩⟩
      ·rw[show((j:Int)).toNat=j from yu j,cJ.X,J4.X,HM.X]
      ·rw[HM.X]
       exact Ln.base (by omega)
def z19(w:zi)(v:Int)(f:Bool)(T:List RT)(L:List Int)(e:Ending)(w':zi):Prop:=∃ra rn rc la ln lc S,e=.returned (.tuple #[.agg #[za ra rn rc,za la ln lc],ze zd v,.bool f])/\Below w.heap.size w w'/\S.length=rn/\L.length=ln/\S.map RT.key=T.map RT.key/\PO w' w.heap.size (za ra rn rc) S (za la ln lc) L/\(f=true->∃g,la=some ⟨g,0,none⟩)
theorem zK6(id tv pl n fine:Int)(a ao av ra la:Option Addr)(zl ac ko co kv cv nr rc ln lc:Nat)(zs os vs L:List Int)(R:List RT)(w:zi)(hA:za3 w a zs)(hO:za3 w ao os)(hV:za3 w av vs)(aO:zs.length=zl)(an:os.length=ko*6)(au:vs.length=kv*5)(ay:ko<=9223372036854775807)(aB:kv<=9223372036854775807)(hP:zc3 w ra la nr ln R L)(hn:nr<=1048576)(hi:∀r∈R,r.ids.length<=1048576)(dm:ln<=1048576)(cT:(zb0 R R.length).length<=1048576)(lg:zc1 n zs os vs ko kv fine R L=0->∃bl ol,la=some ⟨bl,ol,none⟩):
 Calls zh 94 #[.agg #[ze zd n,za a zl ac,za ao ko co,za av kv cv,ze zd fine],.agg #[za ra nr rc,za la ln lc],ze zd id,ze zd tv,ze zd pl] w (z19 w (rqD id tv pl n fine zs os vs ko kv R L) (rqB id tv pl n fine zs os vs ko kv R L) (rqR id tv pl n fine zs os vs ko kv R L) (rqL id tv pl n fine zs os vs ko kv R L)):=by
 have HA:=za4 hA;have gG:Hid _:=lg;have HO:=za4 hO;have HV:=za4 hV;have cm:Hid _:=aO;have aF:Hid _:=an;have aD:Hid _:=au;have HP:=za4 hP;have HN:Hid _:=hP.1;have HM:Hid _:=hP.2.1;have HI:Hid _:=hi;clear hA hO hV aO an au hP hi lg;obtain⟨pv,cJ⟩:=nmd (zc1 n zs os vs ko kv fine R L);have bz:Hid (rqB id tv pl n fine zs os vs ko kv R L=false->rqD id tv pl n fine zs os vs ko kv R L=0/\rqB id tv pl n fine zs os vs ko kv R L=false/\rqR id tv pl n fine zs os vs ko kv R L=[]/\rqL id tv pl n fine zs os vs ko kv R L=[]):=fun h=>by
  unfold rqD rqR rqL;rw[h];exact⟨rfl,rfl,rfl,rfl⟩
 have gH:Hid (rqB id tv pl n fine zs os vs ko kv R L=true->rqD id tv pl n fine zs os vs ko kv R L=zh8 n zs os vs ko kv (rlN R id tv pl.toNat) (fine*L.length) (rlN R id tv pl.toNat).length - zh8 n zs os vs ko kv R (fine*L.length) R.length/\rqR id tv pl n fine zs os vs ko kv R L=rlN R id tv pl.toNat/\rqL id tv pl n fine zs os vs ko kv R L=L):=fun h=>by
  unfold rqD rqR rqL;rw[h];exact⟨rfl,rfl,rfl⟩
 have d8:Hid (rqB id tv pl n fine zs os vs ko kv R L=(decide (pv=0)&&(decide (id∈zb0 R R.length)&&(inB pl 0 ((zc7 (lvR R id) tv).ids.length:Int)&&decide (zc1 n zs os vs ko kv fine (rlN R id tv pl.toNat) L=0))))):=by
  show _=_;unfold rqB;rw[cJ.X]
 obtain⟨GD,iL⟩:=nmd (rqD id tv pl n fine zs os vs ko kv R L);obtain⟨GB,dJ⟩:=nmd (rqB id tv pl n fine zs os vs ko kv R L);obtain⟨GR,cE⟩:=nmd (rqR id tv pl n fine zs os vs ko kv R L);obtain⟨GL,db⟩:=nmd (rqL id tv pl n fine zs os vs ko kv R L);rw[iL.X,dJ.X,cE.X,db.X]at bz gH;rw[dJ.X]at d8;rw[iL.X,dJ.X,cE.X,db.X];clear iL dJ cE db;have Q0:Hid (GQ w (((w.alloc (zg #[ze zd n,za a zl ac,za ao ko co,za av kv cv,ze zd fine] 30)).alloc (zg #[za ra nr rc,za la ln lc] 33)).alloc (zg #[za none 0 0,za none 0 0] 33)) #[ze zd n,za a zl ac,za ao ko co,za av kv cv,ze zd fine] #[za ra nr rc,za la ln lc]):=by
  refine⟨((zP _).alloc (by simp) _).alloc (by simp;omega) _,?_,?_,?_⟩
  ·exact(xg _ _ (by simp;omega)).trans (xm _ _ _)
  ·exact(xg _ _ (by simp)).trans (xh _ _ _)
  ·have:=zS ((w.alloc (zg #[ze zd n,za a zl ac,za ao ko co,za av kv cv,ze zd fine] 30)).alloc (zg #[za ra nr rc,za la ln lc] 33)) (zg #[za none 0 0,za none 0 0] 33)
   simpa using this
 have pC:Hid (∀W,Below w.heap.size w W->Calls zh 38 #[.agg #[ze zd n,za a zl ac,za ao ko co,za av kv cv,ze zd fine],.agg #[za ra nr rc,za la ln lc]] W fun e w'=>e=.returned (ze zd pv)/\Below W.heap.size W w'):=fun W hW=>by
  have PC:=zj3 n fine a ao av ra la ac ko co kv cv rc lc zs os vs L R W (HA.below hW) (HO.below hW) (HV.below hW) (HP.2.2.1.below hW) (HP.2.2.2.1.below hW) aF.X aD.X ay aB (by rw[HN.X];exact hn) HI.X HP.2.2.2.2.2.2 (by rw[HM.X];exact dm) cT;rw[HN.X,HM.X,cm.X,cJ.X]at PC;exact PC
 obtain⟨c0,c1,c2,c3,c4⟩:=za7 Q0.c;obtain⟨p0,p1⟩:=za1 Q0.p;go_enter Tryz.func94,Tryz.ntmps94
 go_wp2_with fail
 generalize((w.alloc _).alloc _).alloc _=W0 at*;refine(pC.X W0 Q0.b).mono ?_;rintro e w1 ⟨rfl,hb⟩;have Q1:Hid _:=Q0.below hb;clear hb c0 c1 c2 c3 c4 p0 p1 Q0;by_cases du:pv=0;rotate_left
 ·have tI:(pv !=0)=true:=by simp[du]
  obtain⟨g1,g2,g3,g4⟩:=bz.X (by rw[d8.X,zX du,jj]);subst g1 g2 g3 g4;obtain⟨a0,a1⟩:=za1 Q1.o;have af:=fun i=>yZ _ _ i _ _ Q1.o;have BE:=Q1.b;clear bz gH d8;go_wp2;refine xe (v:=.tuple #[.agg #[za none 0 0,za none 0 0],ze zd 0,.bool false]) (by simp[results,Tryz.results94,go_sem,a0,a1]) rfl ?_;show z19 _ _ _ _ _ _ _;exact⟨none,0,0,none,0,0,[],rfl,(BE.setCell (by simp<;>omega) _).setCell (by simp<;>omega) _,rfl,rfl,rfl,⟨xZ _ _ _ _,(fun s hs=>by cases hs),xZ _ _ _ _⟩,(fun h=>by cases h)⟩
 ·have tI:(pv !=0)=false:=by simp[du]
  have bj:Hid _:=cJ.trans du;obtain⟨bl,ol,MZ⟩:=gG.X bj.X;subst MZ;have fU:=ze6 bj.X;rw[zW du,ji]at d8;have SV:=zs2 n fine a ao av ra (some ⟨bl,ol,none⟩) ac ko co kv cv rc lc zs os vs L R w1 (HP.2.2.1.below Q1.b) (by rw[HN.X];exact hn) HP.2.2.2.2.2.2 pv cJ.X (fun X hX=>by rw[cm.X,HN.X,HM.X];exact pC.X X (Q1.b.trans (hX.mono Q1.b.size)));have mh:zi7 n zs os vs ko kv fine R L=zr5 (zb0 R R.length):=by unfold zi7;rw[z7 bj.X]
  obtain⟨X,HX⟩:=nmd (zr5 (zb0 R R.length));obtain⟨xl,aX⟩:=nmd X.length;rw[mh,HX.X,aX.X,cm.X,HN.X,HM.X]at SV;have j5:xl<=12:=by rw[<-aX.X,<-HX.X,zn9];exact(zj8 bj.X).1
  clear mh;obtain⟨c0,c1,c2,c3,c4⟩:=za7 Q1.c;obtain⟨p0,p1⟩:=za1 Q1.p
  go_wp2_with fail
  refine SV.mono ?_;rintro e w2 ⟨sl,rfl,hb,ho⟩;obtain⟨sa,sc,bg⟩:=zh0 ho;subst bg;have Q2:Hid _:=Q1.below hb;have LH:=zx6 sa xl sc id X w2 (ze8 ho) (by rw[aX.X];exact zT _) (by omega);have tk:=zt4 X id;rw[aX.X]at tk;rw[tk]at LH;clear hb ho SV c0 c1 c2 c3 c4 p0 p1 Q1 tk;by_cases cB:id∈zb0 R R.length;rotate_left
  ·have CZ:id∉X:=by rw[<-HX.X,zD4];exact cB
   rw[zX CZ]at LH;obtain⟨g1,g2,g3,g4⟩:=bz.X (by rw[d8.X,zX cB,jj]);subst g1 g2 g3 g4;obtain⟨a0,a1⟩:=za1 Q2.o;have af:=fun i=>yZ _ _ i _ _ Q2.o;have BE:=Q2.b;clear bz gH d8
   go_wp2_with(go_at_call 87;refine LH.mono ?_;rintro e w' ⟨rfl,dx⟩;subst w')
   refine xe (v:=.tuple #[.agg #[za none 0 0,za none 0 0],ze zd 0,.bool false]) (by simp[results,Tryz.results94,go_sem,a0,a1]) rfl ?_;show z19 _ _ _ _ _ _ _;exact⟨none,0,0,none,0,0,[],rfl,(BE.setCell (by simp<;>omega) _).setCell (by simp<;>omega) _,rfl,rfl,rfl,⟨xZ _ _ _ _,(fun s hs=>by cases hs),xZ _ _ _ _⟩,(fun h=>by cases h)⟩
  ·have CZ:id∈X:=by rw[<-HX.X,zD4];exact cB
   rw[zW CZ]at LH;rw[zW cB,ji]at d8;obtain⟨k,hk,bd,-⟩:=zI8 cB;have MV:=yp0 id tv pl n fine a ao av ra zl ac ko co kv cv nr rc bl ol ln lc zs os vs L R w2 (HA.below Q2.b) (HO.below Q2.b) (HV.below Q2.b) cm.X aF.X aD.X ay aB (HP.below Q2.b) bj.X k hk bd;clear CZ hk bd cB HX;obtain⟨c0,c1,c2,c3,c4⟩:=za7 Q2.c;obtain⟨p0,p1⟩:=za1 Q2.p
   go_wp2_with(go_at_call 87;refine LH.mono ?_;rintro e w' ⟨rfl,dx⟩;subst w')
   refine MV.mono ?_;rintro e w3 ⟨hb,⟨pP,rfl⟩|⟨pP,bL,n3,bV,d6,bX,S3,rfl,pQ,iH,gi⟩⟩
   ·rw[pP,jj]at d8
    have QA:Hid (GQ w (w3.alloc (zg #[za none 0 0,za none 0 0] 33)) #[ze zd n,za a zl ac,za ao ko co,za av kv cv,ze zd fine] #[za ra nr rc,za (some ⟨bl,ol,none⟩) ln lc]):=(Q2.below hb).below (zP _);clear hb MV LH pP c0 c1 c2 c3 c4 p0 p1;obtain⟨g1,g2,g3,g4⟩:=bz.X (by rw[d8.X]);subst g1 g2 g3 g4;obtain⟨a0,a1⟩:=za1 QA.o;have af:=fun i=>yZ _ _ i _ _ QA.o;have BE:=QA.b;clear bz gH d8;go_wp2;refine xe (v:=.tuple #[.agg #[za none 0 0,za none 0 0],ze zd 0,.bool false]) (by simp[results,Tryz.results94,go_sem,a0,a1]) rfl ?_;show z19 _ _ _ _ _ _ _;exact⟨none,0,0,none,0,0,[],rfl,(BE.setCell (by simp<;>omega) _).setCell (by simp<;>omega) _,rfl,rfl,rfl,⟨xZ _ _ _ _,(fun s hs=>by cases hs),xZ _ _ _ _⟩,(fun h=>by cases h)⟩
   ·rw[pP,ji]at d8
    rw[HM.X]at gi⊢;have Q3:Hid _:=Q2.below hb;have rL:Hid _:=pQ;have iG:Hid _:=iH;have hA:Below w3.heap.size w3 (w3.alloc (zg #[za bL n3 bV,za (some ⟨d6,0,none⟩) ln bX] 33)):=zP _;have Q4:Hid _:=Q3.below hA;have B4:=za4 (zS w3 (zg #[za bL n3 bV,za (some ⟨d6,0,none⟩) ln bX] 33));have O4:Hid _:=(gi.base Q2.size).below hA;have dL:Hid _:=Q3.size;clear hA hb pQ iH gi MV LH pP c0 c1 c2 c3 c4 p0 p1 Q2 Q3;by_cases hw:zc1 n zs os vs ko kv fine (rlN R id tv pl.toNat) L=0;rotate_left
    ·rw[zX hw]at d8
     rw[zX hw];obtain⟨g1,g2,g3,g4⟩:=bz.X (by rw[d8.X]);subst g1 g2 g3 g4;obtain⟨a0,a1⟩:=za1 Q4.o;have af:=fun i=>yZ _ _ i _ _ Q4.o;have BE:=Q4.b;clear bz gH d8;go_wp2;refine xe (v:=.tuple #[.agg #[za none 0 0,za none 0 0],ze zd 0,.bool false]) (by simp[results,Tryz.results94,go_sem,a0,a1]) rfl ?_;show z19 _ _ _ _ _ _ _;exact⟨none,0,0,none,0,0,[],rfl,(BE.setCell (by simp<;>omega) _).setCell (by simp<;>omega) _,rfl,rfl,rfl,⟨xZ _ _ _ _,(fun s hs=>by cases hs),xZ _ _ _ _⟩,(fun h=>by cases h)⟩
    ·rw[zW hw]at d8
     rw[zW hw];obtain⟨y1,y2,y3⟩:=gH.X d8.X;have uu:=ze6 hw;have B_:=z43 (zb7 bj.X).1 (zb7 bj.X).2.1 (fine*L.length) R.length (zT _);have EF:=z43 (zb7 hw).1 (zb7 hw).2.1 (fine*L.length) (rlN R id tv pl.toNat).length (zT _);have Fk:Hid (∀W,Below w.heap.size w W->_):=fun W hW=>z90 n fine a ao av ra (some ⟨bl,ol,none⟩) ac ko co kv cv rc lc zs os vs L R W (HA.below hW) (HO.below hW) (HV.below hW) (HP.2.2.1.below hW) aF.X aD.X ay aB bj.X;have G_:Hid (∀W,Below w.heap.size w W->PO W (w.heap.size+3) (za bL n3 bV) S3 (za (some ⟨d6,0,none⟩) ln bX) L->Calls zh 41 #[.agg #[ze zd n,za a zl ac,za ao ko co,za av kv cv,ze zd fine],.agg #[za bL n3 bV,za (some ⟨d6,0,none⟩) ln bX]] W fun e w'=>e=.returned (ze zd (zh8 n zs os vs ko kv (rlN R id tv pl.toNat) (fine*L.length) (rlN R id tv pl.toNat).length))/\Below W.heap.size W w'):=fun W hW hO=>by
      have h9:=z90 n fine a ao av bL (some ⟨d6,0,none⟩) ac ko co kv cv bV bX zs os vs L S3 W (HA.below hW) (HO.below hW) (HV.below hW) (zG2 hO rL.X) aF.X aD.X ay aB ((zd6 L iG.X).trans hw);rw[zy1 iG.X,cm.X]at h9;have e9:=z69 iG.X;rw[e9]at h9;rw[rL.X]at e9;rw[<-e9,HM.X]at h9;rw[<-e9,HM.X];exact h9
     rw[cm.X,HN.X,HM.X]at Fk;rw[HM.X]at y1 B_ EF G_;rw[HN.X]at y1 B_;obtain⟨d1,MN⟩:=nmd (zh8 n zs os vs ko kv R (fine*(ln:Int)) nr);obtain⟨d2,BM⟩:=nmd (zh8 n zs os vs ko kv (rlN R id tv pl.toNat) (fine*(ln:Int)) (rlN R id tv pl.toNat).length);rw[MN.X]at y1 B_ Fk;rw[BM.X]at y1 EF G_;have hz:=uu.2.2;rw[HM.X]at hz;have oC:=uu.1;have fZ:0<=d1/\d1<=20000000:=by have h1:=fU.1;rw[HN.X]at h1;omega
     have aC:0<=d2/\d2<=20000000:=by omega
     have Bh:IntKind.i64.wrap (d2 - d1)=d2 - d1:=xz _ (by omega);obtain⟨OM,Ly⟩:=fZ;obtain⟨NY,Nd⟩:=aC;have GV:Hid (S3.map RT.key=GR.map RT.key):=by show _=_;rw[y2];exact iG.X
     have ul:=d8.X;have iL:Hid (d2 - d1=GD):=y1.symm;clear y1 y2 B_ EF hz oC uu hw gH bz d8;subst ul;subst y3
     go_wp2_with fail
     generalize w3.alloc _=W4 at*;obtain⟨kq,lI⟩:=nmd w3.heap.size;rw[lI.X]at B4 dL⊢;refine qG (S:=(fun W=>(W.cell? ⟨w.heap.size,0,none⟩=some (ze zd n)/\W.cell? ⟨w.heap.size,1,none⟩=some (za a zl ac)/\W.cell? ⟨w.heap.size,2,none⟩=some (za ao ko co)/\W.cell? ⟨w.heap.size,3,none⟩=some (za av kv cv)/\W.cell? ⟨w.heap.size,4,none⟩=some (ze zd fine))/\(W.cell? ⟨w.heap.size+1,0,none⟩=some (za ra nr rc)/\W.cell? ⟨w.heap.size+1,1,none⟩=some (za (some ⟨bl,ol,none⟩) ln lc))/\W.cell? ⟨kq,0,none⟩=some (za bL n3 bV)/\W.cell? ⟨kq,1,none⟩=some (za (some ⟨d6,0,none⟩) ln bX))) (by kernel_rfl) ?_ fun aa=> ?_
     ·exact⟨za7 (Q4.below (y5 _ _).drew).c,za1 (Q4.below (y5 _ _).drew).p,za1 (za0 (y5 _ _).drew (za2 B4.X) B4.X)⟩
     have QD:Hid _:=Q4.below (y5 _ _).drew;have BD:Hid _:=za0 (y5 _ _).drew (za2 B4.X) B4.X;have OD:Hid _:=O4.below (y5 _ _).drew;clear Q4 B4 O4;generalize W4.drew=wd at*;refine tkH 0 aa ?_;refine tkH 1 aa ?_;refine tkH 2 aa ?_;refine tkH 4 aa ?_;refine tkH 5 aa ?_;refine rdH 3 fun K hK=> ?_;go_simp;refine(G_.X wd QD.b OD.X).mono ?_;rintro e w5 ⟨rfl,hb⟩;have Q5:Hid _:=QD.below hb;have B5:Hid _:=za0 hb (za2 BD.X) BD.X;have O5:Hid _:=OD.below hb;clear hb
     (try go_wp2_with fail)
     refine hoW hK ⟨za7 Q5.c,za1 Q5.p,za1 B5.X⟩ fun aa=> ?_;clear hK K;refine rdH 6 fun K hK=> ?_;go_simp;refine(Fk.X w5 Q5.b).mono ?_;rintro e w6 ⟨rfl,hb⟩;have Q6:Hid _:=Q5.below hb;have B6:Hid _:=za0 hb (za2 B5.X) B5.X;have O6:Hid _:=O5.below hb;clear hb
     (try go_wp2_with fail)
     refine hoW hK ⟨za7 Q6.c,za1 Q6.p,za1 B6.X⟩ fun aa=> ?_;clear hK K;refine tkH 7 aa ?_;refine rdH 8 fun K hK=> ?_;obtain⟨a0,a1⟩:=za1 Q6.o;have af:=fun i=>yZ _ _ i _ _ Q6.o;have s1:=xb w6 (w.heap.size+2) 0 _ _ (za bL n3 bV) Q6.o;have P7:Hid (PO ((w6.setCell ⟨w.heap.size+2,0,none⟩ (za bL n3 bV)).setCell ⟨w.heap.size+2,1,none⟩ (za (some ⟨d6,0,none⟩) ln bX)) (w.heap.size+3) (za bL n3 bV) S3 (za (some ⟨d6,0,none⟩) ln bX) GL):=(O6.box Q6.o).box s1;simp only[xM,xN]at s1;have s2:=xb _ (w.heap.size+2) 1 _ _ (za (some ⟨d6,0,none⟩) ln bX) s1;simp only[xM,xN,xO]at s2;have A7:Hid _:=s2;have C7:Hid (((w6.setCell ⟨w.heap.size+2,0,none⟩ (za bL n3 bV)).setCell ⟨w.heap.size+2,1,none⟩ (za (some ⟨d6,0,none⟩) ln bX)).heap[w.heap.size]? =some (zg #[ze zd n,za a zl ac,za ao ko co,za av kv cv,ze zd fine] 30 (0,0))):=za8 (za8 Q6.c (by omega)) (by omega);have D7:Hid (((w6.setCell ⟨w.heap.size+2,0,none⟩ (za bL n3 bV)).setCell ⟨w.heap.size+2,1,none⟩ (za (some ⟨d6,0,none⟩) ln bX)).heap[w.heap.size+1]? =some (zg #[za ra nr rc,za (some ⟨bl,ol,none⟩) ln lc] 33 (0,0))):=za8 (za8 Q6.p (by omega)) (by omega);have K7:Hid (((w6.setCell ⟨w.heap.size+2,0,none⟩ (za bL n3 bV)).setCell ⟨w.heap.size+2,1,none⟩ (za (some ⟨d6,0,none⟩) ln bX)).heap[kq]? =some (zg #[za bL n3 bV,za (some ⟨d6,0,none⟩) ln bX] 33 (0,0))):=za8 (za8 B6.X (by have:=dL.X;omega)) (by have:=dL.X;omega);have B7:Hid (Below w.heap.size w ((w6.setCell ⟨w.heap.size+2,0,none⟩ (za bL n3 bV)).setCell ⟨w.heap.size+2,1,none⟩ (za (some ⟨d6,0,none⟩) ln bX))):=(Q6.b.setCell (by simp) _).setCell (by simp) _;clear s1 s2;go_simp;refine hoW hK ⟨za7 C7.X,za1 D7.X,za1 K7.X⟩ fun aa=> ?_;clear hK K;clear a0 a1 af;generalize((w6.setCell ⟨w.heap.size+2,0,none⟩ _).setCell ⟨w.heap.size+2,1,none⟩ _)=W7 at*;refine tkH 9 aa ?_;refine tkH 10 aa ?_;refine qF (by kernel_rfl) ?_ _;clear aa;obtain⟨a0,a1⟩:=za1 A7.X;go_wp2;refine xe (v:=.tuple #[.agg #[za bL n3 bV,za (some ⟨d6,0,none⟩) ln bX],ze zd (d2 - d1),.bool true]) (by simp[results,Tryz.results94,go_sem,a0,a1]) rfl ?_;show z19 _ _ _ _ _ _ _;rw[<-iL.X];exact⟨bL,n3,bV,_,ln,bX,S3,rfl,B7.X,rL.X,HM.X,GV.X,P7.base (by omega),fun _=>⟨d6,rfl⟩⟩
theorem z03(id tv pl n fine:Int)(a ao av ra:Option Addr)(zl ac ko co kv cv nr rc bl ol ln lc:Nat)(zs os vs L:List Int)(R:List RT)(w:zi)(hA:za3 w a zs)(hO:za3 w ao os)(hV:za3 w av vs)(aO:zs.length=zl)(an:os.length=ko*6)(au:vs.length=kv*5)(ay:ko<=9223372036854775807)(aB:kv<=9223372036854775807)(hP:zc3 w ra (some ⟨bl,ol,none⟩) nr ln R L)(hn:nr<=1048576)(hi:∀r∈R,r.ids.length<=1048576)(dm:ln<=1048576)(cT:(zb0 R R.length).length<=1048576):
 Calls zh 94 #[.agg #[ze zd n,za a zl ac,za ao ko co,za av kv cv,ze zd fine],.agg #[za ra nr rc,za (some ⟨bl,ol,none⟩) ln lc],ze zd id,ze zd tv,ze zd pl] w (z19 w (rqD id tv pl n fine zs os vs ko kv R L) (rqB id tv pl n fine zs os vs ko kv R L) (rqR id tv pl n fine zs os vs ko kv R L) (rqL id tv pl n fine zs os vs ko kv R L)):=
 zK6 id tv pl n fine a ao av ra _ zl ac ko co kv cv nr rc ln lc zs os vs L R w hA hO hV aO an au ay aB hP hn hi dm cT (fun _=>⟨_,_,rfl⟩)
theorem z84(id tv pl n fine:Int)(a ao av ra:Option Addr)(zl ac ko co kv cv nr rc bl ol ln lc:Nat)(zs os vs L:List Int)(R:List RT)(w:zi)(hA:za3 w a zs)(hO:za3 w ao os)(hV:za3 w av vs)(aO:zs.length=zl)(an:os.length=ko*6)(au:vs.length=kv*5)(ay:ko<=9223372036854775807)(aB:kv<=9223372036854775807)(hP:zc3 w ra (some ⟨bl,ol,none⟩) nr ln R L)(hn:nr<=1048576)(hi:∀r∈R,r.ids.length<=1048576)(dm:ln<=1048576)(cT:(zb0 R R.length).length<=1048576):
 Calls zh 94 #[.agg #[ze zd n,za a zl ac,za ao ko co,za av kv cv,ze zd fine],.agg #[za ra nr rc,za (some ⟨bl,ol,none⟩) ln lc],ze zd id,ze zd tv,ze zd pl] w (yx3 w (rqD id tv pl n fine zs os vs ko kv R L) (rqB id tv pl n fine zs os vs ko kv R L) (rqR id tv pl n fine zs os vs ko kv R L) (rqL id tv pl n fine zs os vs ko kv R L)):=
 (z03 id tv pl n fine a ao av ra zl ac ko co kv cv nr rc bl ol ln lc zs os vs L R w hA hO hV aO an au ay aB hP hn hi dm cT).mono (fun _ _ h=>by
   obtain⟨ag,ew,ai,ak,dP,aj,S,h1,h2,h3,h4,h5,h6,_⟩:=h;exact⟨ag,ew,ai,ak,dP,aj,S,h1,h2,h3,h4,h5,h6⟩)
theorem zt9{w W:zi}{n fine id ab:Int}{a ao av ra la:Option Addr}{zl ac ko co kv cv nr rc ln lc bi oi bv ov i k:Nat}(h:BCP w W #[ze zd n,za a zl ac,za ao ko co,za av kv cv,ze zd fine] #[za ra nr rc,za la ln lc])(h1:W.cell? ⟨bi,oi+i,none⟩=some (ze zd id))(h2:W.cell? ⟨bv,ov+k*5,none⟩=some (ze zd ab)):W.cell? ⟨w.heap.size,0,none⟩=some (ze zd n)/\W.cell? ⟨w.heap.size,1,none⟩=some (za a zl ac)/\W.cell? ⟨w.heap.size,2,none⟩=some (za ao ko co)/\W.cell? ⟨w.heap.size,3,none⟩=some (za av kv cv)/\W.cell? ⟨w.heap.size,4,none⟩=some (ze zd fine)/\W.cell? ⟨w.heap.size+1,0,none⟩=some (za ra nr rc)/\W.cell? ⟨w.heap.size+1,1,none⟩=some (za la ln lc)/\W.cell? ⟨bi,oi+i,none⟩=some (ze zd id)/\W.cell? ⟨bv,ov+k*5,none⟩=some (ze zd ab):=by
 obtain⟨c0,c1,c2,c3,c4⟩:=za7 h.c;obtain⟨p0,p1⟩:=za1 h.p;exact⟨c0,c1,c2,c3,c4,p0,p1,h1,h2⟩
theorem zH1(n fine:Int)(a ao av ra la:Option Addr)(zl ac ko co kv cv nr rc ln lc:Nat)(zs os vs L:List Int)(R:List RT)(w:zi)(hA:za3 w a zs)(hO:za3 w ao os)(hV:za3 w av vs)(aO:zs.length=zl)(an:os.length=ko*6)(au:vs.length=kv*5)(ay:ko<=9223372036854775807)(aB:kv<=9223372036854775807)(hP:zc3 w ra la nr ln R L)(hn:nr<=1048576)(hi:∀r∈R,r.ids.length<=1048576)(dm:ln<=1048576)(cT:(zb0 R R.length).length<=1048576)
 (hrel:∀W id tv pl,Below w.heap.size w W->Calls zh 94 #[.agg #[ze zd n,za a zl ac,za ao ko co,za av kv cv,ze zd fine],.agg #[za ra nr rc,za la ln lc],ze zd id,ze zd tv,ze zd pl] W (yx3 W (rqD id tv pl n fine zs os vs ko kv R L) (rqB id tv pl n fine zs os vs ko kv R L) (rqR id tv pl n fine zs os vs ko kv R L) (rqL id tv pl n fine zs os vs ko kv R L))) (q0:QS) (hq:brQ n fine zs os vs ko kv R L=q0):
 Calls zh 93 #[.agg #[ze zd n,za a zl ac,za ao ko co,za av kv cv,ze zd fine],.agg #[za ra nr rc,za la ln lc]] w fun e w'=>e=.returned (.tuple #[ze zd q0.s.1,ze zd q0.s.2.1,ze zd (q0.s.2.2:Int),ze zd q0.v])/\Below w.heap.size w w':=by
 have HA:=za4 hA;have HO:=za4 hO;have HV:=za4 hV;have cm:=za4 aO;have aF:=za4 an;have aD:=za4 au;have HP:=za4 hP;have HN:Hid (R.length=nr):=hP.1;have HM:Hid (L.length=ln):=hP.2.1;have BB:=za4 hrel;obtain⟨pv,cJ⟩:=nmd (zc1 n zs os vs ko kv fine R L);have Q0:Hid (BCP w ((w.alloc (zg #[ze zd n,za a zl ac,za ao ko co,za av kv cv,ze zd fine] 30)).alloc (zg #[za ra nr rc,za la ln lc] 33)) #[ze zd n,za a zl ac,za ao ko co,za av kv cv,ze zd fine] #[za ra nr rc,za la ln lc]):=BCP.new _ _ _;have SV:=zs2 n fine a ao av ra la ac ko co kv cv rc lc zs os vs L R ((w.alloc (zg #[ze zd n,za a zl ac,za ao ko co,za av kv cv,ze zd fine] 30)).alloc (zg #[za ra nr rc,za la ln lc] 33)) (HP.2.2.1.below Q0.b) (by rw[HN.X];exact hn) HP.2.2.2.2.2.2 pv cJ.X (fun X hX=>by
  have hW:=Q0.b.trans (hX.mono Q0.b.size);have PC:=zj3 n fine a ao av ra la ac ko co kv cv rc lc zs os vs L R X (HA.below hW) (HO.below hW) (HV.below hW) (HP.2.2.1.below hW) (HP.2.2.2.1.below hW) aF.X aD.X ay aB (by rw[HN.X];exact hn) hi HP.2.2.2.2.2.2 (by rw[HM.X];exact dm) cT;rw[cJ.X]at PC;exact PC)
 have dC:=zE7 n zs os vs ko kv fine R L;have A':=y37 n fine zs os vs ko kv R L;rw[hq]at A';obtain⟨X,HX⟩:=nmd (zi7 n zs os vs ko kv fine R L);obtain⟨m,rA⟩:=nmd X.length;rw[HX.X,rA.X]at A' dC;rw[HX.X,rA.X,cm.X,HN.X,HM.X]at SV;have Ig:Hid (∀(l:List zg2) (id ab:Int) (pl:Nat) (s:QS),qst (mvB n fine zs os vs ko kv R L) (mvD n fine zs os vs ko kv R L) l=s->rqB id ab (pl:Int) n fine zs os vs ko kv R L=true->rqD id ab (pl:Int) n fine zs os vs ko kv R L<s.v->qst (mvB n fine zs os vs ko kv R L) (mvD n fine zs os vs ko kv R L) (l++[(id,ab,pl)])=⟨true,(id,ab,pl),rqD id ab (pl:Int) n fine zs os vs ko kv R L⟩):=fun l id ab pl s h1 h2 h3=>yI3 h1 h2 h3;have NO:Hid (∀(l:List zg2) (id ab:Int) (pl:Nat) (s:QS),qst (mvB n fine zs os vs ko kv R L) (mvD n fine zs os vs ko kv R L) l=s->rqB id ab (pl:Int) n fine zs os vs ko kv R L=false∨¬rqD id ab (pl:Int) n fine zs os vs ko kv R L<s.v->qst (mvB n fine zs os vs ko kv R L) (mvD n fine zs os vs ko kv R L) (l++[(id,ab,pl)])=s):=fun l id ab pl s h1 h2=>yL3 h1 h2;have vl:Hid (qst (mvB n fine zs os vs ko kv R L) (mvD n fine zs os vs ko kv R L) []=qs0):=rfl;obtain⟨q,HQ⟩:=nmd (qst (mvB n fine zs os vs ko kv R L) (mvD n fine zs os vs ko kv R L));rw[HQ.X]at Ig NO vl A';have wT:=za4 A';clear hA hO hV aO an au hP hrel cJ hi cT hq A' HQ;obtain⟨c0,c1,c2,c3,c4⟩:=za7 Q0.c;obtain⟨p0,p1⟩:=za1 Q0.p;go_enter Tryz.func93,Tryz.ntmps93
 go_wp2_with fail
 generalize(w.alloc _).alloc _=W0 at*;refine SV.mono ?_;rintro e w1 ⟨sl,rfl,hb,ho⟩;obtain⟨sa,sc,e,bg,Je⟩:=zr9 ho;subst e;rw[rA.X];have Q1:=za4 (Q0.below hb);have IX:=za4 Je;clear hb ho bg Je SV Q0 c0 c1 c2 c3 c4 p0 p1 HX
 go_wp2_with fail
 go_loopw[9,10,11,12,13] (fun t9 Af Au BK t wr=>∃i:Nat,i<=m/\t=ze zd i/\t9=ze zd (q (sq3 vs kv X i)).s.1/\Af=ze zd (q (sq3 vs kv X i)).s.2.1/\Au=ze zd ((q (sq3 vs kv X i)).s.2.2:Int)/\BK=ze zd (q (sq3 vs kv X i)).v/\BCP w wr #[ze zd n,za a zl ac,za ao ko co,za av kv cv,ze zd fine] #[za ra nr rc,za la ln lc]/\Below w1.heap.size w1 wr) (fun _ _ _ _ t _=>m - (intOf t).toNat)
 case atStart=>exact⟨0,xi _,rfl,by show _=ze zd (q []).s.1;rw[vl.X];rfl,by show _=ze zd (q []).s.2.1;rw[vl.X];rfl,by show _=ze zd ((q []).s.2.2:Int);rw[vl.X];rfl,by show _=ze zd (q []).v;rw[vl.X];rfl,Q1.X,y5 _ _⟩
 case round=>
  clear vl;obtain⟨i,hi,rfl,rfl,rfl,rfl,rfl,hC,rj⟩:=hrel;have C1:=za4 hC;have W1:=za4 rj;clear hC rj;by_cases ah:i<m
  ·have h1:(i:Int)<(m:Int):=by omega
   have KL:IntKind.i64.wrap ((i:Int)+1)=((i+1:Nat):Int):=by rw[xz _ (by omega)];omega
   obtain⟨id,bG⟩:=nmd (X.getD i 0);obtain⟨l1,kP⟩:=nmd (sq3 vs kv X i);have aY:Hid (sq3 vs kv X (i+1)=l1++sq2 vs id kv):=by rw[<-kP.X,<-bG.X];rfl
   rw[kP.X];clear kP
   go_wp2_with fail
   go_loopw[9,10,11,12,14] (fun t9 Af Au BK t wr=>∃k:Nat,k<=kv/\t=ze zd k/\t9=ze zd (q (l1++sq2 vs id k)).s.1/\Af=ze zd (q (l1++sq2 vs id k)).s.2.1/\Au=ze zd ((q (l1++sq2 vs id k)).s.2.2:Int)/\BK=ze zd (q (l1++sq2 vs id k)).v/\BCP w wr #[ze zd n,za a zl ac,za ao ko co,za av kv cv,ze zd fine] #[za ra nr rc,za la ln lc]/\Below w1.heap.size w1 wr) (fun _ _ _ _ t _=>kv - (intOf t).toNat)
   case atStart=>exact⟨0,xi _,rfl,by show _=ze zd (q (l1++[])).s.1;rw[qe],by show _=ze zd (q (l1++[])).s.2.1;rw[qe],by show _=ze zd ((q (l1++[])).s.2.2:Int);rw[qe],by show _=ze zd (q (l1++[])).v;rw[qe],C1.X,W1.X⟩
   case round=>
    clear C1 W1;obtain⟨k,hk,rfl,rfl,rfl,rfl,rfl,hC,rj⟩:=hrel;have C2:=za4 hC;have W2:=za4 rj;clear hC rj;obtain⟨c0,c1,c2,c3,c4⟩:=za7 C2.c;by_cases hlk:k<kv
    ·have h2:(k:Int)<(kv:Int):=by omega
     have va:IntKind.i64.wrap ((k:Int)+1)=((k+1:Nat):Int):=by rw[xz _ (by omega)];omega
     obtain⟨ab,vr⟩:=nmd (vs.getD (k*5) 0);obtain⟨l2,fS⟩:=nmd (l1++sq2 vs id k);have Mr:Hid (l1++sq2 vs id (k+1)=l2++sp1 id ab 13):=by
      show l1++(sq2 vs id k++sp1 id (vs.getD (k*5) 0) 13)=_;rw[<-fS.X,vr.X,yi]
     rw[fS.X];clear fS
     go_wp2_with fail
     clear c0 c1 c2 c3 c4;go_loopw[9,10,11,12,15] (fun t9 Af Au BK t wr=>∃p:Nat,p<=13/\t=ze zd p/\t9=ze zd (q (l2++sp1 id ab p)).s.1/\Af=ze zd (q (l2++sp1 id ab p)).s.2.1/\Au=ze zd ((q (l2++sp1 id ab p)).s.2.2:Int)/\BK=ze zd (q (l2++sp1 id ab p)).v/\BCP w wr #[ze zd n,za a zl ac,za ao ko co,za av kv cv,ze zd fine] #[za ra nr rc,za la ln lc]/\Below w1.heap.size w1 wr) (fun _ _ _ _ t _=>13 - (intOf t).toNat)
     case atStart=>exact⟨0,xi _,rfl,by show _=ze zd (q (l2++[])).s.1;rw[qe],by show _=ze zd (q (l2++[])).s.2.1;rw[qe],by show _=ze zd ((q (l2++[])).s.2.2:Int);rw[qe],by show _=ze zd (q (l2++[])).v;rw[qe],C2.X,W2.X⟩
     case round=>
      clear C2 W2;obtain⟨p,hp,rfl,rfl,rfl,rfl,rfl,hC,rj⟩:=hrel;have C3:=za4 hC;have W3:=za4 rj;clear hC rj;by_cases hlp:p<13
      ·have h3:(p:Int)<=12:=by omega
       have Pg:IntKind.i64.wrap ((p:Int)+1)=((p+1:Nat):Int):=by rw[xz _ (by omega)];omega
       obtain⟨s,HS⟩:=nmd (q (l2++sp1 id ab p));have eD:Hid (l2++sp1 id ab (p+1)=(l2++sp1 id ab p)++[(id,ab,p)]):=by
        show _=_;rw[zQ4,yi]
       obtain⟨ch,bJ⟩:=nmd (rqB id ab (p:Int) n fine zs os vs ko kv R L);obtain⟨dd,bh⟩:=nmd (rqD id ab (p:Int) n fine zs os vs ko kv R L);have YS:=Ig.X (l2++sp1 id ab p) id ab p s HS.X;have NS:=NO.X (l2++sp1 id ab p) id ab p s HS.X;rw[<-eD.X,bJ.X,bh.X]at YS NS;have fq:=za4 YS;have bC:Hid (ch=false∨¬dd<s.v->q (l2++sp1 id ab (p+1))=s):=fun h=>NS (by simpa using h)
       clear YS NS;rw[HS.X];clear HS eD;obtain⟨bi,oi,e,ic⟩:=(IX.below W3.X) i (by rw[rA.X];exact ah);subst e;obtain⟨bv,ov,e,vc⟩:=(HV.below C3.b) (k*5) (by rw[aD.X];omega);subst e;rw[bG.X]at ic;rw[vr.X]at vc;have IC:=za4 ic;have VC:=za4 vc;have oQ:Hid (bi<wr.heap.size):=zV ic;have Bn:Hid (bv<wr.heap.size):=zV vc;clear ic vc;obtain⟨sf,⟨s1,s2,s3⟩,sv⟩:=s;simp only at fq bC⊢;go_upto_region 15 with fail;go_cut [16,17,18]from 39 to 56 (fun sE pO Nv wx=>pO=ze zd dd/\Nv=.bool ch/\BCP w wx #[ze zd n,za a zl ac,za ao ko co,za (some ⟨bv,ov,none⟩) kv cv,ze zd fine] #[za ra nr rc,za la ln lc]/\Below wr.heap.size wr wx)
       case first=>
        go_wp2_with fail
        refine qG (S:=(fun W=>W.cell? ⟨w.heap.size,0,none⟩=some (ze zd n)/\W.cell? ⟨w.heap.size,1,none⟩=some (za a zl ac)/\W.cell? ⟨w.heap.size,2,none⟩=some (za ao ko co)/\W.cell? ⟨w.heap.size,3,none⟩=some (za (some ⟨bv,ov,none⟩) kv cv)/\W.cell? ⟨w.heap.size,4,none⟩=some (ze zd fine)/\W.cell? ⟨w.heap.size+1,0,none⟩=some (za ra nr rc)/\W.cell? ⟨w.heap.size+1,1,none⟩=some (za la ln lc)/\W.cell? ⟨bi,oi+i,none⟩=some (ze zd id)/\W.cell? ⟨bv,ov+k*5,none⟩=some (ze zd ab))) (by kernel_rfl) ?_ fun aa=> ?_
        ·exact zt9 (C3.below (y5 _ _).drew) (keepL IC.X (y5 _ _).drew) (keepL VC.X (y5 _ _).drew)
        have j6:=za4 (C3.below (y5 _ _).drew);have wg:=za4 (keepL IC.X (y5 _ _).drew);have Bu:=za4 (keepL VC.X (y5 _ _).drew);have eS:Hid (Below wr.heap.size wr wr.drew):=(y5 _ _).drew;generalize wr.drew=wd at*;refine tkH 0 aa ?_;refine tkH 1 aa ?_;refine tkH 2 aa ?_;refine tkH 3 aa ?_;refine tkH 4 aa ?_;refine tkH 5 aa ?_;refine tkH 6 aa ?_;refine tkH 7 aa ?_;refine tkH 8 aa ?_;refine tkH 9 aa ?_;refine tkH 10 aa ?_;refine tkH 11 aa ?_;refine tkH 12 aa ?_;refine xQ (rs:=[13,18]) (by kernel_rfl) (by simp) ?_;refine xL rfl (fun K hK=> ?_) ?_
        ·skip
         go_simp;refine(BB.X wd id ab (p:Int) j6.b).mono ?_;rw[bJ.X,bh.X];rintro e w3 ⟨ag,n2,ai,ak,l2,aj,R2,rfl,hb,-⟩;have lG:=za4 (j6.below hb);have iX:=za4 (keepL wg.X hb);have iQ:=za4 (keepL Bu.X hb);have nJ:=za4 (eS.trans (hb.mono eS.size));clear hb
         (try go_wp2_with fail)
         refine hoW hK (zt9 lG.X iX.X iQ.X) fun aa=> ?_;clear hK K;refine tkH 14 aa ?_;refine tkH 15 aa ?_;refine tkH 16 aa ?_;refine tkH 17 aa ?_;refine rdH 18 fun K hK=> ?_;have eK:=za4 (lG.below ((y5 w3.heap.size w3).alloc (zT _) (zg #[za none 0 0,za none 0 0] 33)));have nQ:=za4 (keepL iX.X ((y5 w3.heap.size w3).alloc (zT _) (zg #[za none 0 0,za none 0 0] 33)));have mG:=za4 (keepL iQ.X ((y5 w3.heap.size w3).alloc (zT _) (zg #[za none 0 0,za none 0 0] 33)));have eG:=za4 (nJ.trans (((y5 w3.heap.size w3).alloc (zT _) (zg #[za none 0 0,za none 0 0] 33)).mono nJ.size));have aw:=za4 (zS w3 (zg #[za none 0 0,za none 0 0] 33));have aH:Hid (w.heap.size+2<=w3.heap.size):=lG.size;have ke:Hid (wr.heap.size<=w3.heap.size):=nJ.size;go_simp;refine hoW hK (zt9 eK.X nQ.X mG.X) fun aa=> ?_;clear hK K;obtain⟨kz,cC⟩:=nmd w3.heap.size;rw[cC.X]at aw aH ke⊢;generalize(w3.alloc _)=wz at*;obtain⟨z0,z1⟩:=za1 aw.X;have zf:=fun i=>yZ _ _ i _ _ aw.X;refine rdH 19 fun K hK=> ?_;have G5:Hid (BCP w ((wz.setCell ⟨kz,0,none⟩ (za ag n2 ai)).setCell ⟨kz,1,none⟩ (za ak l2 aj)) #[ze zd n,za a zl ac,za ao ko co,za (some ⟨bv,ov,none⟩) kv cv,ze zd fine] #[za ra nr rc,za la ln lc]):=(eK.set aH.X).set aH.X;have H8:=za4 (za5 (za5 nQ.X (by have:=ke.X;have:=oQ.X;omega)) (by have:=ke.X;have:=oQ.X;omega));have E3:=za4 (za5 (za5 mG.X (by have:=ke.X;have:=Bn.X;omega)) (by have:=ke.X;have:=Bn.X;omega));have B5:Hid (Below wr.heap.size wr ((wz.setCell ⟨kz,0,none⟩ (za ag n2 ai)).setCell ⟨kz,1,none⟩ (za ak l2 aj))):=(eG.setCell (by have:=ke.X;simp;omega) _).setCell (by have:=ke.X;simp;omega) _;go_simp;refine hoW hK (zt9 G5.X H8.X E3.X) fun aa=> ?_;clear hK K;generalize((wz.setCell ⟨kz,0,none⟩ _).setCell ⟨kz,1,none⟩ _)=w6 at*;refine tkH 20 aa ?_;refine tkH 21 aa ?_;refine qF (by kernel_rfl) ?_ _;clear aa
         (try go_wp2_with fail)
         go_meet;exact⟨rfl,rfl,G5.X,B5.X⟩
        refine xL rfl (fun K hK=> ?_) xP;have eK:=za4 (j6.below ((y5 wd.heap.size wd).alloc (zT _) (zg #[za none 0 0,za none 0 0] 33)));have nQ:=za4 (keepL wg.X ((y5 wd.heap.size wd).alloc (zT _) (zg #[za none 0 0,za none 0 0] 33)));have mG:=za4 (keepL Bu.X ((y5 wd.heap.size wd).alloc (zT _) (zg #[za none 0 0,za none 0 0] 33)));have eG:=za4 (eS.trans (((y5 wd.heap.size wd).alloc (zT _) (zg #[za none 0 0,za none 0 0] 33)).mono eS.size));have aw:=za4 (zS wd (zg #[za none 0 0,za none 0 0] 33));have aH:Hid (w.heap.size+2<=wd.heap.size):=j6.size;have ke:Hid (wr.heap.size<=wd.heap.size):=eS.size;go_simp;refine hoW hK (zt9 eK.X nQ.X mG.X) fun aa=> ?_;clear hK K;obtain⟨kz,cC⟩:=nmd wd.heap.size;rw[cC.X]at aw aH ke⊢;generalize(wd.alloc _)=wz at*;obtain⟨z0,z1⟩:=za1 aw.X;have zf:=fun i=>yZ _ _ i _ _ aw.X;refine rdH 13 fun K hK=> ?_;go_simp;refine(BB.X wz id ab (p:Int) eK.b).mono ?_;rw[bJ.X,bh.X];rintro e w3 ⟨ag,n2,ai,ak,l2,aj,R2,rfl,hb,-⟩;have lG:=za4 (eK.below hb);have iX:=za4 (keepL nQ.X hb);have iQ:=za4 (keepL mG.X hb);have nJ:=za4 (eG.trans (hb.mono eG.size));have rf:=za4 (za0 hb (za2 aw.X) aw.X);obtain⟨z0,z1⟩:=za1 rf.X;have zf:=fun i=>yZ _ _ i _ _ rf.X;clear hb
        (try go_wp2_with fail)
        refine hoW hK (zt9 lG.X iX.X iQ.X) fun aa=> ?_;clear hK K;refine tkH 14 aa ?_;refine tkH 15 aa ?_;refine tkH 16 aa ?_;refine tkH 17 aa ?_;refine rdH 19 fun K hK=> ?_;have G5:Hid (BCP w ((w3.setCell ⟨kz,0,none⟩ (za ag n2 ai)).setCell ⟨kz,1,none⟩ (za ak l2 aj)) #[ze zd n,za a zl ac,za ao ko co,za (some ⟨bv,ov,none⟩) kv cv,ze zd fine] #[za ra nr rc,za la ln lc]):=(lG.set aH.X).set aH.X;have H8:=za4 (za5 (za5 iX.X (by have:=ke.X;have:=oQ.X;omega)) (by have:=ke.X;have:=oQ.X;omega));have E3:=za4 (za5 (za5 iQ.X (by have:=ke.X;have:=Bn.X;omega)) (by have:=ke.X;have:=Bn.X;omega));have B5:Hid (Below wr.heap.size wr ((w3.setCell ⟨kz,0,none⟩ (za ag n2 ai)).setCell ⟨kz,1,none⟩ (za ak l2 aj))):=(nJ.setCell (by have:=ke.X;simp;omega) _).setCell (by have:=ke.X;simp;omega) _;go_simp;refine hoW hK (zt9 G5.X H8.X E3.X) fun aa=> ?_;clear hK K;generalize((w3.setCell ⟨kz,0,none⟩ _).setCell ⟨kz,1,none⟩ _)=w6 at*;refine tkH 20 aa ?_;refine tkH 21 aa ?_;refine qF (by kernel_rfl) ?_ _;clear aa
        (try go_wp2_with fail)
        go_meet;exact⟨rfl,rfl,G5.X,B5.X⟩
       case rest=>
        obtain⟨rfl,rfl,hQ,Cc⟩:=hcut;have C4:=za4 hQ;have W4:=za4 (W3.trans (Cc.mono W3.size));have ic:=keepL IC.X Cc;have vc:=keepL VC.X Cc;clear hQ Cc W3 C3 IC VC oQ Bn;obtain⟨c0,c1,c2,c3,c4⟩:=za7 C4.c;cases ch
        ·have n_:=bC.X (.inl rfl)
         have fM:Hid _:=n_;clear n_ bC fq;go_wp2;go_roundw
         case rel=>exact⟨p+1,by omega,by first|rfl|go_num,by rw[fM.X],by rw[fM.X],by rw[fM.X],by rw[fM.X],C4.X,W4.X⟩
         case measure=>simp[intOf];omega
        ·by_cases kE:dd<sv
         ·have n_:=fq.X rfl kE
          have fM:Hid _:=n_;clear n_ bC fq;go_wp2;go_roundw
          case rel=>exact⟨p+1,by omega,by first|rfl|go_num,by rw[fM.X],by rw[fM.X],by rw[fM.X],by rw[fM.X],C4.X,W4.X⟩
          case measure=>simp[intOf];omega
         ·have n_:=bC.X (.inr kE)
          have fM:Hid _:=n_;clear n_ bC fq;go_wp2;go_roundw
          case rel=>exact⟨p+1,by omega,by first|rfl|go_num,by rw[fM.X],by rw[fM.X],by rw[fM.X],by rw[fM.X],C4.X,W4.X⟩
          case measure=>simp[intOf];omega
      ·have Dg:p=13:=by omega
       subst Dg;rw[<-Mr.X];obtain⟨s,HS⟩:=nmd (q (l1++sq2 vs id (k+1)));rw[HS.X];go_wp2;go_roundw
       case rel=>exact⟨k+1,by omega,by first|rfl|go_num,by rw[HS.X],by rw[HS.X],by rw[HS.X],by rw[HS.X],C3.X,W3.X⟩
       case measure=>simp[intOf];omega
    ·have cW:k=kv:=by omega
     subst cW;have h2:¬((k:Int)<(k:Int)):=by omega
     rw[<-aY.X];obtain⟨s,HS⟩:=nmd (q (sq3 vs k X (i+1)));rw[HS.X];go_wp2;go_roundw
     case rel=>exact⟨i+1,by omega,by first|rfl|go_num,by rw[HS.X],by rw[HS.X],by rw[HS.X],by rw[HS.X],C2.X,W2.X⟩
     case measure=>simp[intOf];omega
  ·have oK:i=m:=by omega
   subst oK;have h1:¬((i:Int)<(i:Int)):=by omega
   rw[wT.X];clear Ig NO wT;obtain⟨sf,⟨s1,s2,s3⟩,sv⟩:=q0;simp only;go_wp2;refine xe (v:=.tuple #[ze zd s1,ze zd s2,ze zd (s3:Int),ze zd sv]) (by simp[results,Tryz.results93,go_sem]) rfl ?_;exact⟨rfl,C1.b⟩
theorem yF8{w:zi}{base n rc m lc:Nat}{ra la:Option Addr}{S:List RT}{L:List Int}(h:PO w base (za ra n rc) S (za la m lc) L)(hn:S.length=n)(hm:L.length=m):zc3 w ra la n m S L:=by
 have hr:=h.r;have hl:=h.l;rw[hn]at hr;rw[hm]at hl;exact⟨hn,hm,zG2 h hn,yA1 h hm,z88 hr,z88 hl,fun r hr=>yk9 (h.s r hr)⟩
theorem PO.box2{w:zi}{base k:Nat}{rs ls u v:Value}{S:List RT}{L:List Int}{cs:Array Value}(h:PO w base rs S ls L)(hk:w.heap[k]? =some (.cells cs 33 (0,0))):PO ((w.setCell ⟨k,0,none⟩ u).setCell ⟨k,1,none⟩ v) base rs S ls L:=(h.box hk).box (xb w k 0 _ _ u hk)
theorem z82(st n fine:Int)(a ao av ra la:Option Addr)(zl ac ko co kv cv nr rc ln lc:Nat)(zs os vs L:List Int)(R:List RT)(w:zi)(hA:za3 w a zs)(hO:za3 w ao os)(hV:za3 w av vs)(aO:zs.length=zl)(an:os.length=ko*6)(au:vs.length=kv*5)(ay:ko<=9223372036854775807)(aB:kv<=9223372036854775807)(hP:zc3 w ra la nr ln R L)(hn:nr<=1048576)(hi:∀r∈R,r.ids.length<=1048576)(dm:ln<=1048576)(cT:(zb0 R R.length).length<=1048576):
 Calls zh 43 #[.agg #[ze zd n,za a zl ac,za ao ko co,za av kv cv,ze zd fine],.agg #[za ra nr rc,za la ln lc],ze zd st] w (z74 w (dcN st n fine zs os vs ko kv R L) (dcR st n fine zs os vs ko kv R L) (dcL st n fine zs os vs ko kv R L)):=by
 have HA:=za4 hA;have HO:=za4 hO;have HV:=za4 hV;have cm:=za4 aO;have aF:=za4 an;have aD:=za4 au;have HP:=za4 hP;have HN:Hid (R.length=nr):=hP.1;have HM:Hid (L.length=ln):=hP.2.1;have HI:=za4 hi;clear hA hO hV aO an au hP hi;obtain⟨pv,cJ⟩:=nmd (zc1 n zs os vs ko kv fine R L);obtain⟨k1,dh⟩:=nmd (inB st 0 60);have d7:Hid (dcB st n fine zs os vs ko kv R L=(decide (pv=0)&&k1)):=by show _=_;unfold dcB;rw[cJ.X,dh.X]
 have bz:Hid (dcB st n fine zs os vs ko kv R L=false->dcN st n fine zs os vs ko kv R L= -1/\dcR st n fine zs os vs ko kv R L=[]/\dcL st n fine zs os vs ko kv R L=[]):=fun h=>by
  unfold dcN dcR dcL;rw[h];exact⟨rfl,rfl,rfl⟩
 have gH:Hid (dcB st n fine zs os vs ko kv R L=true->dcN st n fine zs os vs ko kv R L=(dsC n fine zs os vs ko kv L st.toNat R:Int)/\dcR st n fine zs os vs ko kv R L=dsR n fine zs os vs ko kv L st.toNat R/\dcL st n fine zs os vs ko kv R L=L):=fun h=>by
  unfold dcN dcR dcL;rw[h];exact⟨rfl,rfl,rfl⟩
 obtain⟨GN,tC⟩:=nmd (dcN st n fine zs os vs ko kv R L);obtain⟨GR,cE⟩:=nmd (dcR st n fine zs os vs ko kv R L);obtain⟨GL,db⟩:=nmd (dcL st n fine zs os vs ko kv R L);rw[tC.X,cE.X,db.X]at bz gH;rw[tC.X,cE.X,db.X];clear tC cE db;have Q0:Hid (GQ w (((w.alloc (zg #[ze zd n,za a zl ac,za ao ko co,za av kv cv,ze zd fine] 30)).alloc (zg #[za ra nr rc,za la ln lc] 33)).alloc (zg #[za none 0 0,za none 0 0] 33)) #[ze zd n,za a zl ac,za ao ko co,za av kv cv,ze zd fine] #[za ra nr rc,za la ln lc]):=by
  refine⟨((zP _).alloc (by simp) _).alloc (by simp;omega) _,?_,?_,?_⟩
  ·exact(xg _ _ (by simp;omega)).trans (xm _ _ _)
  ·exact(xg _ _ (by simp)).trans (xh _ _ _)
  ·have:=zS ((w.alloc (zg #[ze zd n,za a zl ac,za ao ko co,za av kv cv,ze zd fine] 30)).alloc (zg #[za ra nr rc,za la ln lc] 33)) (zg #[za none 0 0,za none 0 0] 33)
   simpa using this
 have pC:Hid (∀W,Below w.heap.size w W->Calls zh 38 #[.agg #[ze zd n,za a zl ac,za ao ko co,za av kv cv,ze zd fine],.agg #[za ra nr rc,za la ln lc]] W fun e w'=>e=.returned (ze zd pv)/\Below W.heap.size W w'):=fun W hW=>by
  have PC:=zj3 n fine a ao av ra la ac ko co kv cv rc lc zs os vs L R W (HA.below hW) (HO.below hW) (HV.below hW) (HP.2.2.1.below hW) (HP.2.2.2.1.below hW) aF.X aD.X ay aB (by rw[HN.X];exact hn) HI.X HP.2.2.2.2.2.2 (by rw[HM.X];exact dm) cT;rw[HN.X,HM.X,cm.X,cJ.X]at PC;exact PC
 obtain⟨c0,c1,c2,c3,c4⟩:=za7 Q0.c;obtain⟨p0,p1⟩:=za1 Q0.p;go_enter Tryz.func43,Tryz.ntmps43
 go_wp2_with fail
 generalize((w.alloc _).alloc _).alloc _=W0 at*;refine(pC.X W0 Q0.b).mono ?_;rintro e w1 ⟨rfl,hb⟩;have Q1:=za4 (Q0.below hb);clear hb pC c0 c1 c2 c3 c4 p0 p1 Q0;by_cases du:pv=0;rotate_left
 ·have tI:(pv !=0)=true:=by simp[du]
  obtain⟨a0,a1⟩:=za1 Q1.o;have af:=fun i=>yZ _ _ i _ _ Q1.o;have B5:Hid (Below w.heap.size w ((w1.setCell ⟨w.heap.size+2,0,none⟩ (za none 0 0)).setCell ⟨w.heap.size+2,1,none⟩ (za none 0 0))):=(Q1.b.setCell (by simp) _).setCell (by simp) _;rw[zX du,jj]at d7;obtain⟨g1,g2,g3⟩:=bz.X (by rw[d7.X];try rfl);subst g1 g2 g3;clear bz gH
  go_wp2_with(go_at_call 39;refine(zc0 _ _ _ _).mono ?_;rintro e w' ⟨rfl,dx⟩;subst w';rw[dh.X])
  refine xe (v:=.tuple #[.agg #[za none 0 0,za none 0 0],ze zd (-1)]) (by simp[results,Tryz.results43,go_sem,a0,a1]) rfl ?_;show z74 _ _ _ _ _ _;exact⟨none,0,0,none,0,0,[],rfl,B5.X,rfl,rfl,rfl,⟨xZ _ _ _ _,(fun s hs=>by cases hs),xZ _ _ _ _⟩⟩
 have bj:=za4 (cJ.trans du);subst du;rw[zW rfl,ji]at d7;clear cJ;cases k1
 ·obtain⟨a0,a1⟩:=za1 Q1.o
  have af:=fun i=>yZ _ _ i _ _ Q1.o;have B5:Hid (Below w.heap.size w ((w1.setCell ⟨w.heap.size+2,0,none⟩ (za none 0 0)).setCell ⟨w.heap.size+2,1,none⟩ (za none 0 0))):=(Q1.b.setCell (by simp) _).setCell (by simp) _;obtain⟨g1,g2,g3⟩:=bz.X (by rw[d7.X];try rfl);subst g1 g2 g3;clear bz gH
  go_wp2_with(go_at_call 39;refine(zc0 _ _ _ _).mono ?_;rintro e w' ⟨rfl,dx⟩;subst w';rw[dh.X])
  refine xe (v:=.tuple #[.agg #[za none 0 0,za none 0 0],ze zd (-1)]) (by simp[results,Tryz.results43,go_sem,a0,a1]) rfl ?_;show z74 _ _ _ _ _ _;exact⟨none,0,0,none,0,0,[],rfl,B5.X,rfl,rfl,rfl,⟨xZ _ _ _ _,(fun s hs=>by cases hs),xZ _ _ _ _⟩⟩
 obtain⟨y1,y2,y3⟩:=gH.X d7.X;subst y3;have bd:=zc8 dh.X;obtain⟨N,hN⟩:∃N:Nat,st=(N:Int):=⟨st.toNat,by omega⟩;subst hN;rw[yu]at y1 y2;have sx:N<=60:=by omega
 obtain⟨Bk,HC⟩:=nmd (dsC n fine zs os vs ko kv GL N R);rw[HC.X]at y1;subst y1;have HT:Hid (dsR n fine zs os vs ko kv GL N R=GR):=y2.symm;clear gH bz d7 y2 bd;have fU:=ze6 bj.X;have aP:=(zh4.1 (zb7 bj.X).2.1).2;have CC:=zz3 ra la rc lc R GL w1 (HP.2.2.1.below Q1.b) (HP.2.2.2.1.below Q1.b) (HP.2.2.2.2.2.1.imp (fun h=>⟨h.1,HP.2.1.trans h.2⟩) id) (by omega) (fun r hr=>⟨(aP r hr).1,by have:=zk2 (aP r hr).2;omega⟩) (by omega);rw[HN.X,HM.X]at CC;obtain⟨p0,p1⟩:=za1 Q1.p;clear fU aP
 go_wp2_with(go_at_call 39;refine(zc0 _ _ _ _).mono ?_;rintro e w' ⟨rfl,dx⟩;subst w';rw[dh.X])
 refine CC.mono ?_;rintro e w2 ⟨jI,Il,E4,re,S0,rfl,hb,eC,Hf⟩;rw[HN.X,HM.X]at Hf;rw[HN.X,HM.X];have hA:Below w2.heap.size w2 (w2.alloc (zg #[za jI nr Il,za (some ⟨E4,0,none⟩) ln re] 33)):=zP _;have Q2:=za4 ((Q1.below hb).below hA);have B2:=za4 (zS w2 (zg #[za jI nr Il,za (some ⟨E4,0,none⟩) ln re] 33));have O2:=za4 ((Hf.base (by have:=Q1.size;omega)).below hA);have dL:=za4 ((Q1.below hb).size);have Be:=za4 eC;clear hA hb eC Hf CC p0 p1 Q1 dh
 go_wp2_with fail
 generalize w2.alloc _=W2 at*;obtain⟨kq,lI⟩:=nmd w2.heap.size;rw[lI.X]at B2 dL⊢;go_loopw[9] (fun t wr=>∃(k:Nat) (az:List RT) (cK:Option Addr) (n1 cF eH l1 c_:Nat),k<=N/\t=ze zd k/\GQ w wr #[ze zd n,za a zl ac,za ao ko co,za av kv cv,ze zd fine] #[za ra nr rc,za la ln lc]/\wr.heap[kq]? =some (zg #[za cK n1 cF,za (some ⟨eH,0,none⟩) l1 c_] 33 (0,0))/\PO wr (w.heap.size+3) (za cK n1 cF) az (za (some ⟨eH,0,none⟩) l1 c_) GL/\(az.length=n1/\GL.length=l1)/\zc1 n zs os vs ko kv fine az GL=0/\(dsR n fine zs os vs ko kv GL (N - k) az).map RT.key=GR.map RT.key/\dsC n fine zs os vs ko kv GL (N - k) az+k=Bk) (fun t _=>100 - (intOf t).toNat)
 case atStart=>
  exact⟨0,S0,jI,nr,Il,E4,ln,re,by omega,rfl,Q2.X,B2.X,O2.X,⟨(z69 Be.X).trans HN.X,HM.X⟩,by rw[zd6 GL Be.X];exact bj.X,by rw[Nat.sub_zero,z94 N Be.X,HT.X],by rw[Nat.sub_zero,zP4 N Be.X,HC.X];omega⟩
 case round=>
  clear Q2 B2 O2 HP bj HT HC Be lI;obtain⟨k,az,cK,n1,cF,eH,l1,c_,hk,rfl,hQ,hB,hO,Kl,du,sC,oh⟩:=hrel;have Q3:=za4 hQ;have B3:=za4 hB;have O3:=za4 hO;have NL:=za4 Kl;have PV:=za4 du;have KR:=za4 sC;have KC:=za4 oh;clear hQ hB hO Kl du sC oh;by_cases ah:k<N
  ·have mL:(k:Int)<(N:Int):=by omega
   have va:IntKind.i64.wrap ((k:Int)+1)=((k+1:Nat):Int):=by rw[xz _ (by omega)];omega
   have fU:=ze6 PV.X;have Pn:=zj8 PV.X;have aP:=(zh4.1 (zb7 PV.X).2.1).2;have KM:∀W id tv pl,Below w.heap.size w W->PO W (w.heap.size+3) (za cK n1 cF) az (za (some ⟨eH,0,none⟩) l1 c_) GL->_:=fun W id tv pl hW hO=>z03 id tv pl n fine a ao av cK zl ac ko co kv cv n1 cF eH 0 l1 c_ zs os vs GL az W (HA.below hW) (HO.below hW) (HV.below hW) cm.X aF.X aD.X ay aB (yF8 hO NL.1 NL.2) (by have:=NL.1;omega) (fun r hr=>by have:=zk2 (aP r hr).2;omega) (by have:=NL.2;omega) (by omega)
   have Kd:∀W id tv pl,Below w.heap.size w W->PO W (w.heap.size+3) (za cK n1 cF) az (za (some ⟨eH,0,none⟩) l1 c_) GL->_:=fun W id tv pl hW hO=>z84 id tv pl n fine a ao av cK zl ac ko co kv cv n1 cF eH 0 l1 c_ zs os vs GL az W (HA.below hW) (HO.below hW) (HV.below hW) cm.X aF.X aD.X ay aB (yF8 hO NL.1 NL.2) (by have:=NL.1;omega) (fun r hr=>by have:=zk2 (aP r hr).2;omega) (by have:=NL.2;omega) (by omega)
   have RM:Hid _:=KM;obtain⟨q,HQ⟩:=nmd (brQ n fine zs os vs ko kv az GL);have BR:=zH1 n fine a ao av cK (some ⟨eH,0,none⟩) zl ac ko co kv cv n1 cF l1 c_ zs os vs GL az wr (HA.below Q3.b) (HO.below Q3.b) (HV.below Q3.b) cm.X aF.X aD.X ay aB (yF8 O3.X NL.1 NL.2) (by have:=NL.1;omega) (fun r hr=>by have:=zk2 (aP r hr).2;omega) (by have:=NL.2;omega) (by omega) (fun W id tv pl hW=>Kd W id tv pl (Q3.b.trans (hW.mono Q3.b.size)) (O3.below hW)) q HQ.X;have lP:=yL5 HQ.X;clear KM Kd fU Pn aP;obtain⟨c0,c1,c2,c3,c4⟩:=za7 Q3.c;obtain⟨z0,z1⟩:=za1 B3.X
   go_wp2_with fail
   clear c0 c1 c2 c3 c4 z0 z1;refine BR.mono ?_;rintro e w4 ⟨rfl,hb⟩;obtain⟨sf,⟨s1,s2,s3⟩,sv⟩:=q;dsimp only at lP⊢;have Q4:=za4 (Q3.below hb);have B4:=za4 (za0 hb (za2 B3.X) B3.X);have O4:=za4 (O3.below hb);clear hb BR Q3 B3 O3;cases sf
   ·have mh:sv=0:=lP.1 rfl
    subst mh;have bu:(brQ n fine zs os vs ko kv az GL).f=false:=by rw[HQ.X]
    have e1:=KR.X;have e2:=KC.X;rw[(zv2 bu (N - k)).1]at e1;rw[(zv2 bu (N - k)).2,yb]at e2;subst e2;have E1:=za4 e1;clear bu e1 KR KC HQ lP RM;obtain⟨z0,z1⟩:=za1 B4.X;obtain⟨a0,a1⟩:=za1 Q4.o;have af:=fun i=>yZ _ _ i _ _ Q4.o;have s1:=xb w4 (w.heap.size+2) 0 _ _ (za cK n1 cF) Q4.o;have P9:Hid (PO ((w4.setCell ⟨w.heap.size+2,0,none⟩ (za cK n1 cF)).setCell ⟨w.heap.size+2,1,none⟩ (za (some ⟨eH,0,none⟩) l1 c_)) (w.heap.size+3) (za cK n1 cF) az (za (some ⟨eH,0,none⟩) l1 c_) GL):=(O4.box Q4.o).box s1;have B9:Hid (Below w.heap.size w ((w4.setCell ⟨w.heap.size+2,0,none⟩ (za cK n1 cF)).setCell ⟨w.heap.size+2,1,none⟩ (za (some ⟨eH,0,none⟩) l1 c_))):=(Q4.b.setCell (by simp) _).setCell (by simp) _;clear s1;go_wp2;refine xe (v:=.tuple #[.agg #[za cK n1 cF,za (some ⟨eH,0,none⟩) l1 c_],ze zd (k:Int)]) (by simp[results,Tryz.results43,go_sem,a0,a1]) rfl ?_;show z74 _ _ _ _ _ _;exact⟨cK,n1,cF,_,l1,c_,az,rfl,B9.X,NL.1,NL.2,E1.X,P9.base (by omega)⟩
   ·have mh:sv<0:=lP.2 rfl
    have rB:(sv==0)=false:=by simp;omega
    have bu:(brQ n fine zs os vs ko kv az GL).f=true:=by rw[HQ.X]
    obtain⟨b1,b2,b3,b4⟩:=yg9 HQ.X rfl;have sy:N - k=(N - (k+1))+1:=by omega
    have e1:=KR.X;have e2:=KC.X;rw[sy,(zu8 bu _).1]at e1;rw[sy,(zu8 bu _).2]at e2;have E1:=za4 e1;have E2:=za4 e2;dsimp only at b1 b2 b3;have RL:=RM.X w4 s1 s2 (s3:Int) Q4.b O4.X;rw[b1,b2,b3]at RL;have X4:=za4 b4;obtain⟨RD,nN⟩:=nmd (rqD s1 s2 (s3:Int) n fine zs os vs ko kv az GL);rw[nN.X]at RL;obtain⟨nx,aY⟩:=nmd (dsN n fine zs os vs ko kv GL az);rw[aY.X]at RL E1 E2 X4;clear bu e1 e2 b1 b2 b3 b4 KR KC HQ nN aY sy lP RM;obtain⟨c0,c1,c2,c3,c4⟩:=za7 Q4.c;obtain⟨z0,z1⟩:=za1 B4.X
    go_wp2_with fail
    clear c0 c1 c2 c3 c4 z0 z1;refine RL.mono ?_;rintro e w5 ⟨ag,n2,ai,ak,l2,aj,S2,rfl,hb,cU,gu,cO,fa,rz⟩;obtain⟨ck,rfl⟩:=rz rfl;have Q5:=za4 (Q4.below hb);have B5:=za4 (za0 hb (za2 B4.X) B4.X);have O5:=za4 (fa.base (by have:=Q4.size;omega));have O6:=za4 (O5.box2 B5.X);have Q6:Hid (GQ w ((w5.setCell ⟨kq,0,none⟩ (za ag n2 ai)).setCell ⟨kq,1,none⟩ (za (some ⟨ck,0,none⟩) l2 aj)) #[ze zd n,za a zl ac,za ao ko co,za av kv cv,ze zd fine] #[za ra nr rc,za la ln lc]):=(Q5.set dL.X).set dL.X;have B6:Hid (((w5.setCell ⟨kq,0,none⟩ (za ag n2 ai)).setCell ⟨kq,1,none⟩ (za (some ⟨ck,0,none⟩) l2 aj)).heap[kq]? =some (zg #[za ag n2 ai,za (some ⟨ck,0,none⟩) l2 aj] 33 (0,0))):=by
     have s1:=xb w5 kq 0 _ _ (za ag n2 ai) B5.X;have s2:=xb _ kq 1 _ _ (za (some ⟨ck,0,none⟩) l2 aj) s1;simp only[xM,xN,xO]at s2;exact s2
    have dZ:=za4 cO;have NK:Hid (S2.length=n2/\GL.length=l2):=⟨cU,gu⟩;clear hb cU gu cO fa rz RL Q4 B4 O4 O5;obtain⟨z0,z1⟩:=za1 B5.X;have zf:=fun i=>yZ _ _ i _ _ B5.X;go_wp2;go_roundw
    case rel=>
     exact⟨k+1,S2,ag,n2,ai,ck,l2,aj,by omega,by first|rfl|go_num,Q6.X,B6.X,O6.X,NK.X,by rw[zd6 GL dZ.X];exact X4.X,(z94 _ dZ.X).trans E1.X,by rw[zP4 _ dZ.X];have:=E2.X;omega⟩
    case measure=>simp[intOf];omega
  ·have cW:k=N:=by omega
   subst cW;have e1:=KR.X;have e2:=KC.X;rw[Nat.sub_self]at e1 e2;have e3:k=Bk:=by simpa[dsC]using e2
   subst e3;have E1:=za4 e1;clear e1 e2 KR KC;obtain⟨z0,z1⟩:=za1 B3.X;obtain⟨a0,a1⟩:=za1 Q3.o;have af:=fun i=>yZ _ _ i _ _ Q3.o;have s1:=xb wr (w.heap.size+2) 0 _ _ (za cK n1 cF) Q3.o;have P9:Hid (PO ((wr.setCell ⟨w.heap.size+2,0,none⟩ (za cK n1 cF)).setCell ⟨w.heap.size+2,1,none⟩ (za (some ⟨eH,0,none⟩) l1 c_)) (w.heap.size+3) (za cK n1 cF) az (za (some ⟨eH,0,none⟩) l1 c_) GL):=(O3.box Q3.o).box s1;have B9:Hid (Below w.heap.size w ((wr.setCell ⟨w.heap.size+2,0,none⟩ (za cK n1 cF)).setCell ⟨w.heap.size+2,1,none⟩ (za (some ⟨eH,0,none⟩) l1 c_))):=(Q3.b.setCell (by simp) _).setCell (by simp) _;clear s1;go_wp2;refine xe (v:=.tuple #[.agg #[za cK n1 cF,za (some ⟨eH,0,none⟩) l1 c_],ze zd (k:Int)]) (by simp[results,Tryz.results43,go_sem,a0,a1]) rfl ?_;show z74 _ _ _ _ _ _;exact⟨cK,n1,cF,_,l1,c_,az,rfl,B9.X,NL.1,NL.2,E1.X,P9.base (by omega)⟩
