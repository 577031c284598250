import Derived.Test.YtkchnomkiboihaaGreatPack41
import Derived.Test.YtkchnomkiboihaaGreatImplRebuilt
set_option linter.unusedSimpArgs false
set_option maxHeartbeats 8000000
set_option maxRecDepth 10000
namespace Go.Proofs.YtkchnomkiboihaaGreat
open Value renaming slice→za,int→ze,ownBlock→zm
open IntKind renaming i64→zd
open Obj renaming cells→zg
open Proofs.Tryz renaming prog→zh
open Go renaming World→zi
open List renaming length→zo
open Lit renaming int→zC
open Go.RowKit
open Q
def yD2(w:zi)(K:Nat->Prop)(v:Int)(f:Bool)(T:List RT)(L:List Int)(e:Ending)(w':zi):Prop:=∃(ag:Option Addr) (n2 ai:Nat) (ak:Option Addr) (l2 aj:Nat) (R2:List RT),e=.returned (.tuple #[.agg #[za ag n2 ai,za ak l2 aj],ze zd v,.bool f])/\Below w.heap.size w w'/\R2.map RT.key=T.map RT.key/\zc3 w' ag ak n2 l2 R2 L/\∀k,k<w.heap.size->K k->zi8 k ag ak R2 L
theorem zU3(sd kk n fine:Int)(a ao av ra la:Option Addr)(zl ac ko co kv cv nr rc ln lc kb cb:Nat)(zs os vs L:List Int)(R:List RT)(w:zi)(hA:za3 w a zs)(hO:za3 w ao os)(hV:za3 w av vs)(aO:zs.length=zl)(an:os.length=ko*6)(au:vs.length=kv*5)(hP:zc3 w ra la nr ln R L)(hB:deB sd kk n fine zs os vs ko kv R L=true)(hd:zu5 w kb cb kk #[ze zd n,za a zl ac,za ao ko co,za av kv cv,ze zd fine]):
 Calls zh 112 #[.agg #[za ra nr rc,za la ln lc],ze zd sd,.pointer (some ⟨kb,0,none⟩),.pointer (some ⟨cb,0,none⟩)] w (yD2 w (fun k=>zi8 k ra la R L) (deN sd kk n fine zs os vs ko kv R L) (deF sd kk n fine zs os vs ko kv R L) (deR sd kk n fine zs os vs ko kv R L) (deL sd kk n fine zs os vs ko kv R L)):=by
 obtain⟨h1,h2,h3⟩:=yi2 hB;have D:=zT0 h1 h2 h3;have cZ:=(zb7 h1).1;have ay:ko<=12:=(zd8 (zb2 cZ).2.1).1;have aB:kv<=5:=(zf2 (zb2 cZ).2.2.1).1;have LW:=hP;obtain⟨p1,p2,p3,p4,p5,p6,p7⟩:=hP;have DA:=zH6 n fine sd kk a ao av ra la zl ac ko co kv cv nr rc ln lc kb cb zs os vs R L (deS R) (deP sd kk R) (deS R).length (deP sd kk R).length (min kk ((deS R).length:Int)) (z86 sd (deS R).length (min kk ((deS R).length:Int))) w hA aO hO hV an au (by omega) (by omega) cZ p3 p1 p4 p2 (by have:=D.t;omega) (by rw[p1];exact p5) p6 p7 rfl rfl rfl rfl rfl rfl D.i D.d D.p D.m D.w hd.1 hd.2;refine DA.mono ?_;unfold deN deF deR deL;rw[hB];simp only[jk,ji];rintro e w' ⟨hb,⟨hz,ag,n2,ai,ak,l2,aj,R2,L2,rfl,q1,q2,q3,q4,q5,q6,_,q8,q9,MJ,My⟩|⟨hz,rfl⟩⟩
 ·have hw:deW sd kk n fine zs os vs ko kv R L=0:=hz
  have Nm:L2=(deQ sd kk R L).2:=q6;subst Nm;rw[z7 hw,z7 hw,zW hw];exact⟨ag,n2,ai,ak,l2,aj,R2,rfl,hb,q5,⟨q2,q4,q1,q3,by rw[<-q2];exact q9,q8,MJ⟩,My⟩
 ·have hw:¬deW sd kk n fine zs os vs ko kv R L=0:=hz
  rw[ye hw,ye hw,zX hw];exact⟨ra,nr,rc,la,ln,lc,R,rfl,hb,rfl,LW.below hb,fun _ _ h=>h⟩
structure yJ5(w:zi)(cs:Array Value)(SR:Nat->List RT)(SM:Nat->List Int)(SD:Nat->Int)(DR:Nat->List RT)(DM:Nat->List Int)(F:Nat->Bool)(YR:Nat->List RT)(YM:Nat->List Int)(YC C:Nat->Int):Prop where
 dest:∀(i:Nat) (W:zi) (ra la:Option Addr) (nr rc ln lc kb cb:Nat) (R:List RT),Below w.heap.size w W->zc3 W ra la nr ln R (SM i)->R.map RT.key=(SR i).map RT.key->zu5 W kb cb (seK i) cs->Calls zh 112 #[.agg #[za ra nr rc,za la ln lc],ze zd (SD i),.pointer (some ⟨kb,0,none⟩),.pointer (some ⟨cb,0,none⟩)] W (yD2 W (fun k=>zi8 k ra la R (SM i)) (SD (i+1)) (F i) (DR i) (DM i))
 reb:∀(i:Nat) (W:zi) (ra la:Option Addr) (nr rc ln lc:Nat) (R:List RT),F i=true->Below w.heap.size w W->zc3 W ra la nr ln R (DM i)->R.map RT.key=(DR i).map RT.key->Calls zh 36 #[.agg cs,.agg #[za ra nr rc,za la ln lc]] W (yE5 W (fun k=>zi8 k ra la R (DM i)) (YR i) (YM i))
 cost:∀(i:Nat) (W:zi) (ra la:Option Addr) (nr rc ln lc:Nat) (R:List RT),F i=true->Below w.heap.size w W->zc3 W ra la nr ln R (YM i)->R.map RT.key=(YR i).map RT.key->Calls zh 35 #[.agg cs,.agg #[za ra nr rc,za la ln lc]] W fun e w'=>e=.returned (ze zd (YC i))/\Below W.heap.size W w'
 yes:∀i,F i=true->YC i<C i->SR (i+1)=YR i/\SM (i+1)=YM i/\C (i+1)=YC i
 no:∀i,(F i=true->¬YC i<C i)->SR (i+1)=SR i/\SM (i+1)=SM i/\C (i+1)=C i
theorem zI4(n fine:Int)(a ao av ra la:Option Addr)(zl ac ko co kv cv nr rc ln lc:Nat)(zs os vs L:List Int)(R:List RT)(w:zi)(hA:za3 w a zs)(hO:za3 w ao os)(hV:za3 w av vs)(aO:zs.length=zl)(an:os.length=ko*6)(au:vs.length=kv*5)(hP:zc3 w ra la nr ln R L)(aS:zc1 n zs os vs ko kv fine R L=0):
 Calls zh 35 #[.agg #[ze zd n,za a zl ac,za ao ko co,za av kv cv,ze zd fine],.agg #[za ra nr rc,za la ln lc]] w fun e w'=>e=.returned (ze zd (zp1 n zs os vs ko kv fine R L))/\Below w.heap.size w w':=by
 have cZ:=(zb7 aS).1;have ay:ko<=12:=(zd8 (zb2 cZ).2.1).1;have aB:kv<=5:=(zf2 (zb2 cZ).2.2.1).1;obtain⟨p1,p2,p3,p4,p5,p6,p7⟩:=hP;have:=z66 n fine a ao av ra la ac ko co kv cv rc lc zs os vs L R w hA hO hV p3 an au (by omega) (by omega) p7 aS;rw[aO,p1,p2]at this;unfold zp1;rw[z7 aS,p1,p2];exact this
theorem yI8(sd n fine:Int)(a ao av:Option Addr)(zl ac ko co kv cv:Nat)(zs os vs L:List Int)(R:List RT)(w:zi)(hA:za3 w a zs)(hO:za3 w ao os)(hV:za3 w av vs)(aO:zs.length=zl)(an:os.length=ko*6)(au:vs.length=kv*5)(aS:zc1 n zs os vs ko kv fine R L=0)(hs:inB sd 0 2147483647=true):
 ∃(DR:Nat->List RT) (DM:Nat->List Int) (F:Nat->Bool) (YR:Nat->List RT) (YM:Nat->List Int) (YC:Nat->Int),yJ5 w #[ze zd n,za a zl ac,za ao ko co,za av kv cv,ze zd fine] (fun i=>(seP sd n fine zs os vs ko kv R L i).1.1) (fun i=>(seP sd n fine zs os vs ko kv R L i).1.2) (fun i=>(seP sd n fine zs os vs ko kv R L i).2) DR DM F YR YM YC (seC sd n fine zs os vs ko kv R L):=by
 obtain⟨P,hP⟩:∃P,P=seP sd n fine zs os vs ko kv R L:=⟨_,rfl⟩;have lC:∀i,zc1 n zs os vs ko kv fine (P i).1.1 (P i).1.2=0/\inB (P i).2 0 2147483647=true:=by rw[hP];exact z51 aS hs
 have fK:∀i,P (i+1)=(seN (P i).2 (seK i) n fine zs os vs ko kv (P i).1.1 (P i).1.2,deN (P i).2 (seK i) n fine zs os vs ko kv (P i).1.1 (P i).1.2):=fun i=>by rw[hP];rfl
 have hC:∀i,seC sd n fine zs os vs ko kv R L i=zp1 n zs os vs ko kv fine (P i).1.1 (P i).1.2:=fun i=>by rw[hP];rfl
 rw[<-hP];have hB:∀i,deB (P i).2 (seK i) n fine zs os vs ko kv (P i).1.1 (P i).1.2=true:=fun i=>y97 (lC i).1 (yA2 i) (lC i).2;refine⟨fun i=>deR (P i).2 (seK i) n fine zs os vs ko kv (P i).1.1 (P i).1.2,fun i=>deL (P i).2 (seK i) n fine zs os vs ko kv (P i).1.1 (P i).1.2,fun i=>deF (P i).2 (seK i) n fine zs os vs ko kv (P i).1.1 (P i).1.2,fun i=>(seD (P i).2 (seK i) n fine zs os vs ko kv (P i).1.1 (P i).1.2).1,fun i=>(seD (P i).2 (seK i) n fine zs os vs ko kv (P i).1.1 (P i).1.2).2,fun i=>zp1 n zs os vs ko kv fine (seD (P i).2 (seK i) n fine zs os vs ko kv (P i).1.1 (P i).1.2).1 (seD (P i).2 (seK i) n fine zs os vs ko kv (P i).1.1 (P i).1.2).2,?_,?_,?_,?_,?_⟩
 ·intro i W ra la nr rc ln lc kb cb R2 hW hp hk hd
  have h:=zU3 (P i).2 (seK i) n fine a ao av ra la zl ac ko co kv cv nr rc ln lc kb cb zs os vs (P i).1.2 R2 W (hA.below hW) (hO.below hW) (hV.below hW) aO an au hp (by rw[zE9 _ _ _ _ _ _ _ _ _ _ hk];exact hB i) hd;rw[yc3 _ _ _ _ _ _ _ _ _ _ hk,yg7 _ _ _ _ _ _ _ _ _ _ hk,yd0 _ _ _ _ _ _ _ _ _ _ hk]at h;refine h.mono ?_;rintro e w' ⟨ag,n2,ai,ak,l2,aj,R3,rfl,hb,iH,mw,gi⟩;refine⟨ag,n2,ai,ak,l2,aj,R3,?_,hb,iH.trans (yg5 _ _ _ _ _ _ _ _ _ _ hk),mw,gi⟩;simp only[fK]
 ·intro i W ra la nr rc ln lc R2 hf hW hp hk
  have hd:=(zE0 hf).2.2;have h:=yf4 n fine a ao av ra la zl ac ko co kv cv nr rc ln lc zs os vs _ R2 W (hA.below hW) (hO.below hW) (hV.below hW) aO an au hp (by rw[zd6 _ hk];exact hd);refine h.mono ?_;obtain⟨k1,k2⟩:=y00 (n:=n) (fine:=fine) (zs:=zs) (os:=os) (vs:=vs) (ko:=ko) (kv:=kv) (deL (P i).2 (seK i) n fine zs os vs ko kv (P i).1.1 (P i).1.2) hk;rintro e w' ⟨ag,n2,ai,ak,l2,aj,R3,rfl,hb,iH,mw,gi⟩;rw[k2]at mw gi;exact⟨ag,n2,ai,ak,l2,aj,R3,rfl,hb,iH.trans k1,mw,gi⟩
 ·intro i W ra la nr rc ln lc R2 hf hW hp hk
  have hy:=yl1 (zE0 hf).2.2;have h:=zI4 n fine a ao av ra la zl ac ko co kv cv nr rc ln lc zs os vs _ R2 W (hA.below hW) (hO.below hW) (hV.below hW) aO an au hp (by rw[zd6 _ hk];exact hy);rw[zt0 _ hk]at h;exact h
 ·intro i hf ah
  rw[hC]at ah;have hb:seB (P i).2 (seK i) n fine zs os vs ko kv (P i).1.1 (P i).1.2=true:=by
   unfold seB;rw[zY,qh];exact⟨hf,ah⟩
  have e:(P (i+1)).1=seD (P i).2 (seK i) n fine zs os vs ko kv (P i).1.1 (P i).1.2:=by
   rw[fK];show seN _ _ _ _ _ _ _ _ _ _ _=_;unfold seN;rw[hb,jk]
  exact⟨by rw[e],by rw[e],by rw[hC,e]⟩
 ·intro i aZ
  have hb:seB (P i).2 (seK i) n fine zs os vs ko kv (P i).1.1 (P i).1.2=false:=by
   rw[<-Bool.not_eq_true];unfold seB;rw[zY,qh];exact fun h=>aZ h.1 (by rw[hC];exact h.2)
  have e:(P (i+1)).1=(P i).1:=by
   rw[fK];show seN _ _ _ _ _ _ _ _ _ _ _=_;unfold seN;rw[hb];rfl
  exact⟨by rw[e],by rw[e],by rw[hC,hC,e]⟩
theorem z17{W W':zi}{z k i:Nat}{v:Value}(hg:W.grownBy W' (some z))(hk:k≠z)(hv:W.cell? ⟨k,i,none⟩=some v):W'.cell? ⟨k,i,none⟩=some v:=by
 have h9:=hg.block k (zV hv) (fun e=>hk (by injection e));unfold World.cell? at hv⊢;simp only at hv⊢;rw[h9];exact hv
theorem zJ4{W W':zi}{z:Nat}{a:Option Addr}{xs:List Int}(h:za3 W a xs)(hg:W.grownBy W' (some z))(ho:xs≠[]->∀b off,a=some ⟨b,off,none⟩->b≠z):za3 W' a xs:=fun j hj=>by
 obtain⟨b,off,e,h1⟩:=h j hj;exact⟨b,off,e,z17 hg (ho (zr3 hj) b off e) h1⟩
theorem zc3.grownL{W W':zi}{z:Nat}{ra la:Option Addr}{rn ln:Nat}{R:List RT}{L:List Int}(h:zc3 W ra la rn ln R L)(hg:W.grownBy W' (some z))(ho:zi8 z ra la R L):zc3 W' ra la rn ln R L:=by
 refine⟨h.1,h.2.1,fun j hj=> ?_,zJ4 h.2.2.2.1 hg ho.2.1,h.2.2.2.2⟩;obtain⟨b,off,e,h1,h2,h3⟩:=h.2.2.1 j hj;have hm:R.getD j rt0∈R:=by rw[zQ,zR hj];simp
 have aq:=zr3 hj;exact⟨b,off,e,z17 hg (ho.1 aq b off e) h1,z17 hg (ho.1 aq b off e) h2,zJ4 h3 hg (ho.2.2 _ hm)⟩
theorem GQ.grownL{w W W':zi}{z:Nat}{cs ps:Array Value}(h:GQ w W cs ps)(hg:W.grownBy W' (some z))(hz:w.heap.size+3<=z):GQ w W' cs ps:=by
 have hs:=h.size;have hr:∀k o,k<w.heap.size+3->W.heap[k]? =some o->W'.heap[k]? =some o:=fun k o hk e=>(hg.block k (za2 e) (fun e9=>by injection e9 with e9;omega)).trans e
 exact⟨h.b.grown hg h.b.size (fun k e=>by injection e with e;omega),hr _ _ (by omega) h.c,hr _ _ (by omega) h.p,hr _ _ (by omega) h.o⟩
theorem GQ.plan{w W:zi}{cs:Array Value}{x0 x1:Value}(h:GQ w W cs #[x0,x1])(u v:Value):GQ w ((W.setCell ⟨w.heap.size+1,0,none⟩ u).setCell ⟨w.heap.size+1,1,none⟩ v) cs #[u,v]:=
 ⟨(h.b.setCell (by simp) _).setCell (by simp) _,za8 (za8 h.c (by omega)) (by omega),zi5 h.p,za8 (za8 h.o (by omega)) (by omega)⟩
def zL2(w:zi)(f:Bool)(X:List Int)(T:List RT)(L:List Int)(e:Ending)(w':zi):Prop:=∃ra rn rc la ln lc S tv b0,e=.returned (.tuple #[.agg #[za ra rn rc,za la ln lc],tv,.bool f])/\Below w.heap.size w w'/\S.length=rn/\L.length=ln/\S.map RT.key=T.map RT.key/\w.heap.size<=b0/\PO w' b0 (za ra rn rc) S (za la ln lc) L/\z65 S la/\w'.ownsRow w.heap.size 2 1 tv X.length (X.map (ze zd))/\∀z,tv.ownBlock=some z->z<b0
theorem zB7(sd st n fine:Int)(a ao av ra la:Option Addr)(zl ac ko co kv cv nr rc ln lc:Nat)(zs os vs L:List Int)(R:List RT)(w:zi)(hA:za3 w a zs)(hO:za3 w ao os)(hV:za3 w av vs)(aO:zs.length=zl)(an:os.length=ko*6)(au:vs.length=kv*5)(ay:ko<=9223372036854775807)(aB:kv<=9223372036854775807)(hP:zc3 w ra la nr ln R L)(hn:nr<=1048576)(hi:∀r∈R,r.ids.length<=1048576)(dm:ln<=1048576)(cT:(zb0 R R.length).length<=1048576)(gQ:∀x∈L,(zC zd x).wf=true):
 Calls zh 7 #[.agg #[ze zd n,za a zl ac,za ao ko co,za av kv cv,ze zd fine],.agg #[za ra nr rc,za la ln lc],ze zd sd,ze zd st] w (zL2 w (sgB sd st n fine zs os vs ko kv R L) (sgT sd st n fine zs os vs ko kv R L) (sgR sd st n fine zs os vs ko kv R L) (sgL sd st n fine zs os vs ko kv R L)):=by
 have HA:=za4 hA;have HO:=za4 hO;have HV:=za4 hV;have cm:=za4 aO;have aF:=za4 an;have aD:=za4 au;have HP:=za4 hP;have HN:Hid (R.length=nr):=hP.1;have HM:Hid (L.length=ln):=hP.2.1;have HI:=za4 hi;clear hA hO hV aO an au hP hi;obtain⟨pv,cJ⟩:=nmd (zc1 n zs os vs ko kv fine R L);obtain⟨k1,dh⟩:=nmd (inB st 0 60);obtain⟨s1,eb⟩:=nmd (inB sd 0 2147483647);have d7:Hid (sgB sd st n fine zs os vs ko kv R L=(decide (pv=0)&&(k1&&s1))):=by show _=_;unfold sgB;rw[cJ.X,dh.X,eb.X]
 have dG:=yH7 sd st n fine zs os vs ko kv R L;obtain⟨GB,dJ⟩:=nmd (sgB sd st n fine zs os vs ko kv R L);have bz:Hid (GB=false->sgR sd st n fine zs os vs ko kv R L=[]/\sgL sd st n fine zs os vs ko kv R L=[]/\sgT sd st n fine zs os vs ko kv R L=[]):=fun h=>by
  unfold sgR sgL sgT;rw[dJ.X,h];exact⟨rfl,rfl,rfl⟩
 have fq:Hid (GB=true->sgR sd st n fine zs os vs ko kv R L=(seP sd n fine zs os vs ko kv R L st.toNat).1.1/\sgL sd st n fine zs os vs ko kv R L=(seP sd n fine zs os vs ko kv R L st.toNat).1.2/\sgT sd st n fine zs os vs ko kv R L=seT sd n fine zs os vs ko kv R L st.toNat):=fun h=>by
  unfold sgR sgL sgT;rw[dJ.X,h];exact⟨rfl,rfl,rfl⟩
 obtain⟨GR,cE⟩:=nmd (sgR sd st n fine zs os vs ko kv R L);obtain⟨GL,db⟩:=nmd (sgL sd st n fine zs os vs ko kv R L);obtain⟨GT,kN⟩:=nmd (sgT sd st n fine zs os vs ko kv R L);rw[cE.X,db.X]at dG;have EY:=za4 dG;rw[cE.X,db.X,kN.X]at bz fq;rw[dJ.X]at d7;rw[dJ.X,cE.X,db.X,kN.X];clear dG dJ cE db kN;have Q0:Hid (GQ w (((w.alloc (zg #[ze zd n,za a zl ac,za ao ko co,za av kv cv,ze zd fine] 30)).alloc (zg #[za ra nr rc,za la ln lc] 33)).alloc (zg #[za none 0 0,za none 0 0] 33)) #[ze zd n,za a zl ac,za ao ko co,za av kv cv,ze zd fine] #[za ra nr rc,za la ln lc]):=by
  refine⟨((zP _).alloc (by simp) _).alloc (by simp;omega) _,?_,?_,?_⟩
  ·exact(xg _ _ (by simp;omega)).trans (xm _ _ _)
  ·exact(xg _ _ (by simp)).trans (xh _ _ _)
  ·have:=zS ((w.alloc (zg #[ze zd n,za a zl ac,za ao ko co,za av kv cv,ze zd fine] 30)).alloc (zg #[za ra nr rc,za la ln lc] 33)) (zg #[za none 0 0,za none 0 0] 33)
   simpa using this
 have PC:=zw8 n fine a ao av ra la ac ko co kv cv rc lc zs os vs L R (((w.alloc (zg #[ze zd n,za a zl ac,za ao ko co,za av kv cv,ze zd fine] 30)).alloc (zg #[za ra nr rc,za la ln lc] 33)).alloc (zg #[za none 0 0,za none 0 0] 33)) (HA.X.below Q0.X.b) (HO.X.below Q0.X.b) (HV.X.below Q0.X.b) (HP.X.2.2.1.below Q0.X.b) (HP.X.2.2.2.1.below Q0.X.b) aF.X aD.X ay aB (by rw[HN.X];exact hn) HI.X HP.X.2.2.2.2.2.2 (by rw[HM.X];exact dm) cT gQ;rw[HN.X,HM.X,cm.X,cJ.X]at PC;obtain⟨c0,c1,c2,c3,c4⟩:=za7 Q0.X.c;obtain⟨p0,p1⟩:=za1 Q0.X.p;go_enter Tryz.func7,Tryz.ntmps7
 go_wp2_with fail
 generalize((w.alloc _).alloc _).alloc _=W0 at*;refine PC.mono ?_;rintro e w1 ⟨rfl,hb⟩;have Q1:=za4 (Q0.X.below hb);clear hb PC c0 c1 c2 c3 c4 p0 p1 Q0;by_cases du:pv=0
 ·subst du
  rw[zW rfl,ji]at d7;cases k1
  ·obtain⟨a0,a1⟩:=za1 Q1.X.o
   have af:=fun i=>yZ _ _ i _ _ Q1.X.o;have B5:Hid (Below w.heap.size w ((w1.setCell ⟨w.heap.size+2,0,none⟩ (za none 0 0)).setCell ⟨w.heap.size+2,1,none⟩ (za none 0 0))):=(Q1.X.b.setCell (by simp) _).setCell (by simp) _;have mK:GB=false:=by rw[d7.X];try rfl
   subst mK;obtain⟨g2,g3,g4⟩:=bz.X rfl;subst g2 g3 g4;clear bz fq
   go_wp2_with(first|(go_at_call 32;refine(zc2 _ _ _ _).mono ?_;rintro e w' ⟨rfl,dx⟩;subst w';rw[dh.X])|(go_at_call 33;refine(zl3 _ _).mono ?_;rintro e w' ⟨rfl,dx⟩;subst w';rw[eb.X]))
   refine xe (v:=.tuple #[.agg #[za none 0 0,za none 0 0],za none 0 0,.bool false]) (by simp[results,Tryz.results7,go_sem,a0,a1]) rfl ?_;show zL2 _ _ _ _ _ _ _;exact⟨none,0,0,none,0,0,[],za none 0 0,w.heap.size,rfl,B5.X,rfl,rfl,rfl,zT _,⟨xZ _ _ _ _,(fun s hs=>by cases hs),xZ _ _ _ _⟩,z65.nil _,xZ _ _ _ _,fun z hz=>by cases hz⟩
  ·cases s1
   ·obtain⟨a0,a1⟩:=za1 Q1.X.o
    have af:=fun i=>yZ _ _ i _ _ Q1.X.o;have B5:Hid (Below w.heap.size w ((w1.setCell ⟨w.heap.size+2,0,none⟩ (za none 0 0)).setCell ⟨w.heap.size+2,1,none⟩ (za none 0 0))):=(Q1.X.b.setCell (by simp) _).setCell (by simp) _;have mK:GB=false:=by rw[d7.X];try rfl
    subst mK;obtain⟨g2,g3,g4⟩:=bz.X rfl;subst g2 g3 g4;clear bz fq
    go_wp2_with(first|(go_at_call 32;refine(zc2 _ _ _ _).mono ?_;rintro e w' ⟨rfl,dx⟩;subst w';rw[dh.X])|(go_at_call 33;refine(zl3 _ _).mono ?_;rintro e w' ⟨rfl,dx⟩;subst w';rw[eb.X]))
    refine xe (v:=.tuple #[.agg #[za none 0 0,za none 0 0],za none 0 0,.bool false]) (by simp[results,Tryz.results7,go_sem,a0,a1]) rfl ?_;show zL2 _ _ _ _ _ _ _;exact⟨none,0,0,none,0,0,[],za none 0 0,w.heap.size,rfl,B5.X,rfl,rfl,rfl,zT _,⟨xZ _ _ _ _,(fun s hs=>by cases hs),xZ _ _ _ _⟩,z65.nil _,xZ _ _ _ _,fun z hz=>by cases hz⟩
   ·have ul:GB=true:=d7.X
    subst ul;clear bz d7;obtain⟨uN,tq,sB⟩:=fq.X rfl;clear fq;have bu:=zc8 dh.X;obtain⟨N,hN⟩:=xp bu.1;have sx:N<=60:=by omega
    subst hN;rw[yu]at uN tq sB;obtain⟨DR,DM,F,YR,YM,YC,uj⟩:=yI8 sd n fine a ao av zl ac ko co kv cv zs os vs L R w HA.X HO.X HV.X cm.X aF.X aD.X cJ.X eb.X;have CP:Hid (∀W,Below w.heap.size w W->Calls zh 35 #[.agg #[ze zd n,za a zl ac,za ao ko co,za av kv cv,ze zd fine],.agg #[za ra nr rc,za la ln lc]] W fun e w'=>e=.returned (ze zd (seC sd n fine zs os vs ko kv R L 0))/\Below W.heap.size W w'):=fun W hW=>
     zI4 n fine a ao av ra la zl ac ko co kv cv nr rc ln lc zs os vs L R W (HA.X.below hW) (HO.X.below hW) (HV.X.below hW) cm.X aF.X aD.X (HP.X.below hW) cJ.X
    have T0:seT sd n fine zs os vs ko kv R L 0=[seC sd n fine zs os vs ko kv R L 0]:=rfl;have oV:=yl7 sd n fine zs os vs ko kv R L;have uy:=zP3 sd n fine zs os vs ko kv R L;have vX:(seP sd n fine zs os vs ko kv R L 0).1.1=R:=rfl;have Ba:(seP sd n fine zs os vs ko kv R L 0).1.2=L:=rfl;have z':(seP sd n fine zs os vs ko kv R L 0).2=sd:=rfl;obtain⟨C,HC⟩:=nmd (seC sd n fine zs os vs ko kv R L);obtain⟨T,HT⟩:=nmd (seT sd n fine zs os vs ko kv R L);obtain⟨SR,jV⟩:=nmd (fun i=>(seP sd n fine zs os vs ko kv R L i).1.1);obtain⟨SM,fW⟩:=nmd (fun i=>(seP sd n fine zs os vs ko kv R L i).1.2);obtain⟨SD,tP⟩:=nmd (fun i=>(seP sd n fine zs os vs ko kv R L i).2);rw[HC.X,jV.X,fW.X,tP.X]at uj;rw[HC.X]at CP T0 oV;rw[HT.X]at T0 oV uy sB;rw[congrFun jV.X 0]at vX;rw[congrFun fW.X 0]at Ba;rw[congrFun tP.X 0]at z';rw[congrFun jV.X N]at uN;rw[congrFun fW.X N]at tq;have ST:Hid _:=uj;have TS:=za4 oV;have TL:=za4 uy;have TZ:=za4 T0;subst uN tq sB;subst vX Ba z';clear uj oV uy T0 HC HT jV fW tP bu cJ cT gQ HI;obtain⟨c0,c1,c2,c3,c4⟩:=za7 Q1.X.c;obtain⟨p0,p1⟩:=za1 Q1.X.p
    go_wp2_with(first|(go_at_call 32;refine(zc2 _ _ _ _).mono ?_;rintro e w' ⟨rfl,dx⟩;subst w';rw[dh.X])|(go_at_call 33;refine(zl3 _ _).mono ?_;rintro e w' ⟨rfl,dx⟩;subst w';rw[eb.X]))
    clear c0 c1 c2 c3 c4 p0 p1;refine(zB9 n fine a ao av zl ac ko co kv cv w1).mono ?_;rintro e w2 ⟨g,rfl,hb,hd⟩;have Q2:=za4 (Q1.X.below hb);obtain⟨m2,oH⟩:=nmd w2.heap.size;obtain⟨b1,eF⟩:=nmd w1.heap.size;have fZ:w.heap.size+3<=b1:=by rw[<-eF.X];exact Q1.X.size
    have aC:b1<=m2:=by rw[<-eF.X,<-oH.X];exact hb.size
    rw[oH.X,eF.X]at hd;have D2:=za4 hd;clear hb hd Q1;obtain⟨c0,c1,c2,c3,c4⟩:=za7 Q2.X.c;obtain⟨p0,p1⟩:=za1 Q2.X.p
    go_wp2_with fail
    refine(CP.X w2 Q2.X.b).mono ?_;rintro e w3 ⟨rfl,hb⟩;have Q3:=za4 (Q2.X.below hb);have D3:=za4 (D2.X.below hb);have Nn:m2<=w3.heap.size:=by rw[<-oH.X];exact hb.size
    have P3:=za4 (HP.X.below Q3.X.b);clear hb Q2 D2 CP c0 c1 c2 c3 c4 p0 p1 HP;have C5:Below w3.heap.size w3 (w3.alloc (zg #[ze zd (C 0)] 2)):=zP _;have Q4:=za4 (Q3.X.below C5);have D4:=za4 (D3.X.below C5);have P4:=za4 (P3.X.below C5);have O4:Hid ((w3.alloc (zg #[ze zd (C 0)] 2)).ownsRow m2 2 1 (za (some ⟨w3.heap.size,0,none⟩) 1 1) (0+1) ((T 0).map (ze zd))):=by
     show World.ownsRow _ _ _ _ _ _ _;rw[TZ.X];exact⟨rfl,.inr ⟨w3.heap.size,1,#[ze zd (C 0)],rfl,Nn,zS _ _,by simp[maxLen]⟩⟩
    have F4:Hid (zi8 w3.heap.size ra la (SR 0) (SM 0)):=P3.X.far (zT _);obtain⟨c0,c1,c2,c3,c4⟩:=za7 Q3.X.c
    go_wp2_with fail
    clear c0 c1 c2 c3 c4;clear Q3 D3 P3 C5 TZ;go_loopw[2,12,13,42] (fun s2 Bx wU t wr=>∃(i:Nat) (aN cS:Option Addr) (bK be bq dN z9 c9:Nat) (R9:List RT),i<=N/\t=ze zd i/\s2=ze zd (SD i)/\Bx=ze zd (C i)/\GQ w wr #[ze zd n,za a zl ac,za ao ko co,za av kv cv,ze zd fine] #[za aN bK be,za cS bq dN]/\zm3 wr b1 m2 g #[ze zd n,za a zl ac,za ao ko co,za av kv cv,ze zd fine]/\zc3 wr aN cS bK bq R9 (SM i)/\R9.map RT.key=(SR i).map RT.key/\wU=za (some ⟨z9,0,none⟩) (i+1) c9/\wr.ownsRow m2 2 1 (za (some ⟨z9,0,none⟩) (i+1) c9) (i+1) ((T i).map (ze zd))/\zi8 z9 aN cS R9 (SM i)) (fun _ _ _ t _=>N - (intOf t).toNat)
    case atStart=>exact⟨0,ra,la,nr,rc,ln,lc,w3.heap.size,1,SR 0,xi _,rfl,rfl,rfl,Q4.X,D4.X,P4.X,rfl,rfl,O4.X,F4.X⟩
    case round=>
     clear Q4 D4 P4 O4 F4;obtain⟨i,aN,cS,bK,be,bq,dN,z9,c9,R9,hi,rfl,rfl,rfl,hq,hd,hp,hk,rfl,ho,hf⟩:=hrel;have Q5:=za4 hq;have D5:=za4 hd;have P5:=za4 hp;have K5:=za4 hk;have O5:=za4 ho;have F5:=za4 hf;clear hq hd hp hk ho hf;by_cases ah:i<N
     ·have wA:i % 3<3:=Nat.mod_lt _ (by omega)
      obtain⟨kb,cb,Pm,oG,JG⟩:=D5.X.2 (i % 3) wA;have m9:Int.tmod (i:Int) 3=((i % 3:Nat):Int):=by first|rfl|exact(Int.ofNat_tmod i 3).symm|exact(Int.natCast_tmod i 3).symm
      have DS:Hid (∀W,Below wr.heap.size wr W->Calls zh 112 #[.agg #[za aN bK be,za cS bq dN],ze zd (SD i),.pointer (some ⟨kb,0,none⟩),.pointer (some ⟨cb,0,none⟩)] W (yD2 W (fun k=>zi8 k aN cS R9 (SM i)) (SD (i+1)) (F i) (DR i) (DM i))):=fun W hW=>
       ST.X.dest i W aN cS bK be bq dN kb cb R9 (Q5.X.b.trans (hW.mono Q5.X.b.size)) (P5.X.below hW) K5.X (JG.below hW)
      have jT:z9<wr.heap.size:=(O5.X.lt z9 rfl).2;have ek:(i:Int)<(N:Int):=by omega
      obtain⟨j,HJ⟩:=nmd (i % 3);rw[HJ.X]at wA m9 oG;have Ht:(j:Int)<3:=by omega
      have Gj:=za4 m9;have KS:Hid (∀W,Below wr.heap.size wr W->((W.cell? ⟨w.heap.size,0,none⟩=some (ze zd n)/\W.cell? ⟨w.heap.size,1,none⟩=some (za a zl ac)/\W.cell? ⟨w.heap.size,2,none⟩=some (za ao ko co)/\W.cell? ⟨w.heap.size,3,none⟩=some (za av kv cv)/\W.cell? ⟨w.heap.size,4,none⟩=some (ze zd fine))/\(W.cell? ⟨w.heap.size+1,0,none⟩=some (za aN bK be)/\W.cell? ⟨w.heap.size+1,1,none⟩=some (za cS bq dN))/\W.cell? ⟨g,j,none⟩=some (.func (.func 112) #[] #[.pointer (some ⟨kb,0,none⟩),.pointer (some ⟨cb,0,none⟩)]))):=fun W hW=>⟨za7 (Q5.X.below hW).c,za1 (Q5.X.below hW).p,(hW.cell (p:=⟨g,j,none⟩) (zV oG)).trans oG⟩;clear JG Pm oG;go_upto_region 9 with fail;go_cut [15,16,17]from 45 to 58 (fun pW sE pO wx=>∃(kz:Nat) (ag:Option Addr) (n2 ai:Nat) (ak:Option Addr) (l2 aj:Nat) (R2:List RT),pW=.pointer (some ⟨kz,0,none⟩)/\sE=ze zd (SD (i+1))/\pO=.bool (F i)/\Below wr.heap.size wr wx/\wr.heap.size<=kz/\wx.heap[kz]? =some (zg #[za ag n2 ai,za ak l2 aj] 33 (0,0))/\zc3 wx ag ak n2 l2 R2 (DM i)/\R2.map RT.key=(DR i).map RT.key/\zi8 z9 ag ak R2 (DM i))
      case first=>
       go_wp2_with fail
       refine qG (S:=(fun W=>((W.cell? ⟨w.heap.size,0,none⟩=some (ze zd n)/\W.cell? ⟨w.heap.size,1,none⟩=some (za a zl ac)/\W.cell? ⟨w.heap.size,2,none⟩=some (za ao ko co)/\W.cell? ⟨w.heap.size,3,none⟩=some (za av kv cv)/\W.cell? ⟨w.heap.size,4,none⟩=some (ze zd fine))/\(W.cell? ⟨w.heap.size+1,0,none⟩=some (za aN bK be)/\W.cell? ⟨w.heap.size+1,1,none⟩=some (za cS bq dN))/\W.cell? ⟨g,j,none⟩=some (.func (.func 112) #[] #[.pointer (some ⟨kb,0,none⟩),.pointer (some ⟨cb,0,none⟩)])))) (by kernel_rfl) ?_ fun aa=> ?_
       ·exact KS.X _ (y5 _ _).drew
       have eS:Hid (Below wr.heap.size wr wr.drew):=(y5 _ _).drew;generalize wr.drew=wd at*;refine tkH 0 aa ?_;refine tkH 1 aa ?_;refine tkH 2 aa ?_;refine tkH 3 aa ?_;refine tkH 4 aa ?_;refine tkH 5 aa ?_;refine tkH 6 aa ?_;refine tkH 7 aa ?_;refine tkH 8 aa ?_;refine xQ (rs:=[9,14]) (by kernel_rfl) (by simp) ?_;refine xL rfl (fun K hK=> ?_) ?_
       ·skip
        go_simp;refine(DS.X wd eS.X).mono ?_;rintro e w2 ⟨ag,n2,ai,ak,l2,aj,R2,rfl,hb,cO,dS,cX⟩;have j9:=za4 (eS.X.trans (hb.mono eS.X.size));have ux:=za4 dS;have KX:=za4 cO;have OX:Hid (zi8 z9 ag ak R2 (DM i)):=cX z9 (xw jT eS.X.size) F5.X;clear hb cO dS cX
        (try go_wp2_with fail)
        refine hoW hK (KS.X _ j9.X) fun aa=> ?_;clear hK K;refine tkH 10 aa ?_;refine tkH 11 aa ?_;refine tkH 12 aa ?_;refine tkH 13 aa ?_;refine rdH 14 fun K hK=> ?_;have eG:=za4 (j9.X.trans (((y5 w2.heap.size w2).alloc (zT _) (zg #[za none 0 0,za none 0 0] 33)).mono j9.X.size));have aw:=za4 (zS w2 (zg #[za none 0 0,za none 0 0] 33));have aH:Hid (wr.heap.size<=w2.heap.size):=j9.X.size;have FE:=za4 (ux.X.below ((y5 w2.heap.size w2).alloc (zT _) (zg #[za none 0 0,za none 0 0] 33)));go_simp;refine hoW hK (KS.X _ eG.X) fun aa=> ?_;clear hK K;obtain⟨kz,cC⟩:=nmd w2.heap.size;rw[cC.X]at aw aH⊢;generalize(w2.alloc _)=wz at*;obtain⟨z0,z1⟩:=za1 aw.X;have zf:=fun i=>yZ _ _ i _ _ aw.X;refine rdH 15 fun K hK=> ?_;have V9:Hid (((wz.setCell ⟨kz,0,none⟩ (za ag n2 ai)).setCell ⟨kz,1,none⟩ (za ak l2 aj)).heap[kz]? =some (zg #[za ag n2 ai,za ak l2 aj] 33 (0,0))):=zi5 aw.X;have B9:Hid (Below wr.heap.size wr ((wz.setCell ⟨kz,0,none⟩ (za ag n2 ai)).setCell ⟨kz,1,none⟩ (za ak l2 aj))):=(eG.X.setCell aH.X _).setCell aH.X _;have P9:Hid (zc3 ((wz.setCell ⟨kz,0,none⟩ (za ag n2 ai)).setCell ⟨kz,1,none⟩ (za ak l2 aj)) ag ak n2 l2 R2 (DM i)):=ze3 FE.X aw.X;go_simp;refine hoW hK (KS.X _ B9.X) fun aa=> ?_;clear hK K;generalize((wz.setCell ⟨kz,0,none⟩ _).setCell ⟨kz,1,none⟩ _)=w6 at*;refine tkH 16 aa ?_;refine tkH 17 aa ?_;refine qF (by kernel_rfl) ?_ _;clear aa
        (try go_wp2_with fail)
        go_meet;exact⟨kz,ag,n2,ai,ak,l2,aj,R2,rfl,rfl,rfl,B9.X,aH.X,V9.X,P9.X,KX.X,OX.X⟩
       refine xL rfl (fun K hK=> ?_) xP;have eG:=za4 (eS.X.trans (((y5 wd.heap.size wd).alloc (zT _) (zg #[za none 0 0,za none 0 0] 33)).mono eS.X.size));have aw:=za4 (zS wd (zg #[za none 0 0,za none 0 0] 33));have aH:Hid (wr.heap.size<=wd.heap.size):=eS.X.size;go_simp;refine hoW hK (KS.X _ eG.X) fun aa=> ?_;clear hK K;obtain⟨kz,cC⟩:=nmd wd.heap.size;rw[cC.X]at aw aH⊢;generalize(wd.alloc _)=wz at*;obtain⟨z0,z1⟩:=za1 aw.X;have zf:=fun i=>yZ _ _ i _ _ aw.X;refine rdH 9 fun K hK=> ?_;go_simp;refine(DS.X wz eG.X).mono ?_;rintro e w2 ⟨ag,n2,ai,ak,l2,aj,R2,rfl,hb,cO,dS,cX⟩;have j9:=za4 (eG.X.trans (hb.mono eG.X.size));have ux:=za4 dS;have KX:=za4 cO;have OX:Hid (zi8 z9 ag ak R2 (DM i)):=cX z9 (xw jT eG.X.size) F5.X;have ej:=za4 (za0 hb (za2 aw.X) aw.X);obtain⟨z0,z1⟩:=za1 ej.X;have zf:=fun i=>yZ _ _ i _ _ ej.X;clear hb cO dS cX
       (try go_wp2_with fail)
       refine hoW hK (KS.X _ j9.X) fun aa=> ?_;clear hK K;refine tkH 10 aa ?_;refine tkH 11 aa ?_;refine tkH 12 aa ?_;refine tkH 13 aa ?_;refine rdH 15 fun K hK=> ?_;have V9:Hid (((w2.setCell ⟨kz,0,none⟩ (za ag n2 ai)).setCell ⟨kz,1,none⟩ (za ak l2 aj)).heap[kz]? =some (zg #[za ag n2 ai,za ak l2 aj] 33 (0,0))):=zi5 ej.X;have B9:Hid (Below wr.heap.size wr ((w2.setCell ⟨kz,0,none⟩ (za ag n2 ai)).setCell ⟨kz,1,none⟩ (za ak l2 aj))):=(j9.X.setCell aH.X _).setCell aH.X _;have P9:Hid (zc3 ((w2.setCell ⟨kz,0,none⟩ (za ag n2 ai)).setCell ⟨kz,1,none⟩ (za ak l2 aj)) ag ak n2 l2 R2 (DM i)):=ze3 ux.X ej.X;go_simp;refine hoW hK (KS.X _ B9.X) fun aa=> ?_;clear hK K;generalize((w2.setCell ⟨kz,0,none⟩ _).setCell ⟨kz,1,none⟩ _)=w6 at*;refine tkH 16 aa ?_;refine tkH 17 aa ?_;refine qF (by kernel_rfl) ?_ _;clear aa
       (try go_wp2_with fail)
       go_meet;exact⟨kz,ag,n2,ai,ak,l2,aj,R2,rfl,rfl,rfl,B9.X,aH.X,V9.X,P9.X,KX.X,OX.X⟩
      case rest=>
       obtain⟨kz,ag,n2,ai,ak,l2,aj,R2,rfl,rfl,rfl,hb,vR,hz,dS,cO,fa⟩:=hcut;have sj:Hid (w.heap.size+3<=b1/\b1<=m2/\m2<=z9/\z9<wr.heap.size/\wr.heap.size<=wc.heap.size):=⟨fZ,aC,(O5.X.lt z9 rfl).1,jT,hb.size⟩;have Q7:=za4 (Q5.X.below hb);have D7:=za4 (D5.X.below hb);have P7:=za4 (P5.X.below hb);have O7:=za4 (zu6 O5.X hb (fun k e=>(O5.X.lt k e).2));have Z7:=za4 hz;have X7:=za4 dS;have Y7:=za4 cO;have U7:=za4 fa;clear Q5 D5 P5 O5 DS KS hb hz dS cO fa Gj m9 wA Ht HJ;cases hF:F i
       ·obtain⟨e1,e2,e3⟩:=ST.X.no i (fun h=>by rw[hF]at h;cases h)
        obtain⟨q1,q2,q3,q4,q5⟩:=sj.X;have q6:m2<=z9/\z9<wc.heap.size:=O7.X.lt z9 rfl;have hW:Below wc.heap.size wc (wc.alloc (zg #[ze zd (C i)] 2)):=zP _
        go_wp2_with(
         at_builtin;refine zc9 _ rfl (.tmp 72) (.tmp 74) rfl m2 (za (some ⟨z9,0,none⟩) (i+1) c9) (i+1) (T i) rfl (O7.X.alloc _) wc.heap.size 0 1 1 [(C i)] rfl rfl (ze2 wc (C i)) (by omega) (by omega) (by simp;omega) ?_;intro v' w8 ae hg hv aW;obtain⟨z8,c8,tJ⟩:∃z8 c8,v'=za (some ⟨z8,0,none⟩) (i+1+1) c8:=by
          rcases own_kinds ae with⟨_,h2⟩|⟨g9,c8,h1,_⟩
          ·omega
          ·exact⟨g9,c8,h1⟩
         subst tJ;have Q8:=za4 ((Q7.X.below hW).grownL (z:=z9) hg (by omega));have D8:=za4 ((D7.X.below hW).grown hg (fun z e=>(by simpa[zm]using e:z9=z)▸q3));have P8:Hid (zc3 w8 aN cS bK bq R9 (SM i)):=(P7.X.below hW).grownL (z:=z9) hg F5.X;have O8:=za4 ae;have F8:Hid (zi8 z8 aN cS R9 (SM i)):=by
          rcases hv with h|h
          ·have h1:z8=z9:=by simpa[zm]using h
           rw[h1];exact F5.X
          ·have h1:z8=(wc.alloc (zg #[ze zd (C i)] 2)).heap.size:=by simpa[zm]using h
           rw[h1];exact(P7.X.below hW).far (zT _)
         clear ae hg hv aW)
        go_roundw
        case rel=>exact⟨i+1,aN,cS,bK,be,bq,dN,z8,c8,R9,by omega,by first|rfl|go_num,rfl,by rw[e3],Q8.X,D8.X,by rw[e2];exact P8.X,by rw[e1];exact K5.X,rfl,by rw[TS.X,e3];exact O8.X,by rw[e2];exact F8.X⟩
        case measure=>simp[intOf];omega
       ·have RB:=ST.X.reb i wc ag ak n2 ai l2 aj R2 hF Q7.X.b X7.X Y7.X
        have HO:=sj.X;have aq:(za (some ⟨z9,0,none⟩) (i+1) c9).ownBlock≠some kz:=fun h=>by
         have h1:z9=kz:=by simpa[zm]using h
         omega
        have pn:(za (some ⟨z9,0,none⟩) (i+1) c9).ownBlock≠some (w.heap.size+1):=fun h=>by
         have h1:z9=w.heap.size+1:=by simpa[zm]using h
         omega
        obtain⟨c0,c1,c2,c3,c4⟩:=za7 Q7.X.c;obtain⟨z0,z1⟩:=za1 Z7.X
        go_wp2_with fail
        refine RB.mono ?_;rintro e w4 ⟨bk,n4,bI,bZ,l4,bQ,R4,rfl,hb,eM,gK,cX⟩;have QA:=za4 (Q7.X.below hb);have DA:=za4 (D7.X.below hb);have PA:=za4 (P7.X.below hb);have OA:=za4 (zu6 O7.X hb (fun k e=>(O7.X.lt k e).2));have ZA:=za4 (za0 hb (za2 Z7.X) Z7.X);have XA:=za4 gK;have KA:=za4 eM;have UA:Hid (zi8 z9 bk bZ R4 (YM i)):=cX z9 (by omega) U7.X;clear hb eM gK cX RB c0 c1 c2 c3 c4 z0 z1 Q7 D7 P7 O7 Z7 X7 Y7 U7;have QB:Hid (GQ w ((w4.setCell ⟨kz,0,none⟩ (za bk n4 bI)).setCell ⟨kz,1,none⟩ (za bZ l4 bQ)) #[ze zd n,za a zl ac,za ao ko co,za av kv cv,ze zd fine] #[za aN bK be,za cS bq dN]):=(QA.X.set (by omega)).set (by omega);have DB:Hid (zm3 ((w4.setCell ⟨kz,0,none⟩ (za bk n4 bI)).setCell ⟨kz,1,none⟩ (za bZ l4 bQ)) b1 m2 g #[ze zd n,za a zl ac,za ao ko co,za av kv cv,ze zd fine]):=(DA.X.set (.inr (by omega))).set (.inr (by omega));have PB:Hid (zc3 ((w4.setCell ⟨kz,0,none⟩ (za bk n4 bI)).setCell ⟨kz,1,none⟩ (za bZ l4 bQ)) aN cS bK bq R9 (SM i)):=ze3 PA.X ZA.X;have XB:Hid (zc3 ((w4.setCell ⟨kz,0,none⟩ (za bk n4 bI)).setCell ⟨kz,1,none⟩ (za bZ l4 bQ)) bk bZ n4 l4 R4 (YM i)):=ze3 XA.X ZA.X;have OB:Hid (((w4.setCell ⟨kz,0,none⟩ (za bk n4 bI)).setCell ⟨kz,1,none⟩ (za bZ l4 bQ)).ownsRow m2 2 1 (za (some ⟨z9,0,none⟩) (i+1) c9) (i+1) ((T i).map (ze zd))):=zf1 (zf1 OA.X 0 _ aq) 1 _ aq;have ZB:Hid (((w4.setCell ⟨kz,0,none⟩ (za bk n4 bI)).setCell ⟨kz,1,none⟩ (za bZ l4 bQ)).heap[kz]? =some (zg #[za bk n4 bI,za bZ l4 bQ] 33 (0,0))):=zi5 ZA.X;obtain⟨z0,z1⟩:=za1 ZA.X;have zf:=fun i=>yZ _ _ i _ _ ZA.X;obtain⟨c0,c1,c2,c3,c4⟩:=za7 QB.X.c;obtain⟨x0,x1⟩:=za1 ZB.X
        go_wp2_with fail
        refine(ST.X.cost i _ bk bZ n4 bI l4 bQ R4 hF QB.X.b XB.X KA.X).mono ?_;generalize((w4.setCell ⟨kz,0,none⟩ _).setCell ⟨kz,1,none⟩ _)=w5 at*;rintro e w6 ⟨rfl,hb⟩;have QC:=za4 (QB.X.below hb);have DC:=za4 (DB.X.below hb);have PC:=za4 (PB.X.below hb);have XC:=za4 (XB.X.below hb);have OC:=za4 (zu6 OB.X hb (fun k e=>(OB.X.lt k e).2));have ZC:=za4 (za0 hb (za2 ZB.X) ZB.X);clear hb z0 z1 zf c0 c1 c2 c3 c4 x0 x1 QA DA PA OA ZA XA QB DB PB XB OB ZB;clear HO;by_cases hyc:YC i<C i
        ·obtain⟨e1,e2,e3⟩:=ST.X.yes i hF hyc
         have HO:=sj.X;have QD:Hid (GQ w ((w6.setCell ⟨w.heap.size+1,0,none⟩ (za bk n4 bI)).setCell ⟨w.heap.size+1,1,none⟩ (za bZ l4 bQ)) #[ze zd n,za a zl ac,za ao ko co,za av kv cv,ze zd fine] #[za bk n4 bI,za bZ l4 bQ]):=QC.X.plan _ _;have DD:Hid (zm3 ((w6.setCell ⟨w.heap.size+1,0,none⟩ (za bk n4 bI)).setCell ⟨w.heap.size+1,1,none⟩ (za bZ l4 bQ)) b1 m2 g #[ze zd n,za a zl ac,za ao ko co,za av kv cv,ze zd fine]):=(DC.X.set (.inl (by omega))).set (.inl (by omega));have XD:Hid (zc3 ((w6.setCell ⟨w.heap.size+1,0,none⟩ (za bk n4 bI)).setCell ⟨w.heap.size+1,1,none⟩ (za bZ l4 bQ)) bk bZ n4 l4 R4 (YM i)):=ze3 XC.X QC.X.p;have OD:Hid (((w6.setCell ⟨w.heap.size+1,0,none⟩ (za bk n4 bI)).setCell ⟨w.heap.size+1,1,none⟩ (za bZ l4 bQ)).ownsRow m2 2 1 (za (some ⟨z9,0,none⟩) (i+1) c9) (i+1) ((T i).map (ze zd))):=zf1 (zf1 OC.X 0 _ pn) 1 _ pn;have dy:decide (YC i<C i)=true:=zW hyc;obtain⟨z0,z1⟩:=za1 ZC.X;obtain⟨p0,p1⟩:=za1 QC.X.p;have pf:=fun i=>yZ _ _ i _ _ QC.X.p;clear HO;go_upto_region 16 with fail;generalize((w6.setCell ⟨w.heap.size+1,0,none⟩ _).setCell ⟨w.heap.size+1,1,none⟩ _)=w7 at*;clear z0 z1 p0 p1 pf QC DC PC XC OC ZC;obtain⟨q1,q2,q3,q4,q5⟩:=sj.X;have q6:m2<=z9/\z9<w7.heap.size:=OD.X.lt z9 rfl;have hW:Below w7.heap.size w7 (w7.alloc (zg #[ze zd (YC i)] 2)):=zP _
         go_wp2_with(
          at_builtin;refine zc9 _ rfl (.tmp 72) (.tmp 74) rfl m2 (za (some ⟨z9,0,none⟩) (i+1) c9) (i+1) (T i) rfl (OD.X.alloc _) w7.heap.size 0 1 1 [(YC i)] rfl rfl (ze2 w7 (YC i)) (by omega) (by omega) (by simp;omega) ?_;intro v' w8 ae hg hv aW;obtain⟨z8,c8,tJ⟩:∃z8 c8,v'=za (some ⟨z8,0,none⟩) (i+1+1) c8:=by
           rcases own_kinds ae with⟨_,h2⟩|⟨g9,c8,h1,_⟩
           ·omega
           ·exact⟨g9,c8,h1⟩
          subst tJ;have Q8:=za4 ((QD.X.below hW).grownL (z:=z9) hg (by omega));have D8:=za4 ((DD.X.below hW).grown hg (fun z e=>(by simpa[zm]using e:z9=z)▸q3));have P8:Hid (zc3 w8 bk bZ n4 l4 R4 (YM i)):=(XD.X.below hW).grownL (z:=z9) hg UA.X;have O8:=za4 ae;have F8:Hid (zi8 z8 bk bZ R4 (YM i)):=by
           rcases hv with h|h
           ·have h1:z8=z9:=by simpa[zm]using h
            rw[h1];exact UA.X
           ·have h1:z8=(w7.alloc (zg #[ze zd (YC i)] 2)).heap.size:=by simpa[zm]using h
            rw[h1];exact(XD.X.below hW).far (zT _)
          clear ae hg hv aW)
         go_roundw
         case rel=>exact⟨i+1,bk,bZ,n4,bI,l4,bQ,z8,c8,R4,by omega,by first|rfl|go_num,rfl,by rw[e3],Q8.X,D8.X,by rw[e2];exact P8.X,by rw[e1];exact KA.X,rfl,by rw[TS.X,e3];exact O8.X,by rw[e2];exact F8.X⟩
         case measure=>simp[intOf];omega
        ·obtain⟨e1,e2,e3⟩:=ST.X.no i (fun _=>hyc)
         have dn:decide (YC i<C i)=false:=zX hyc;obtain⟨q1,q2,q3,q4,q5⟩:=sj.X;have q6:m2<=z9/\z9<w6.heap.size:=OC.X.lt z9 rfl;have hW:Below w6.heap.size w6 (w6.alloc (zg #[ze zd (C i)] 2)):=zP _
         go_wp2_with(
          at_builtin;refine zc9 _ rfl (.tmp 72) (.tmp 74) rfl m2 (za (some ⟨z9,0,none⟩) (i+1) c9) (i+1) (T i) rfl (OC.X.alloc _) w6.heap.size 0 1 1 [(C i)] rfl rfl (ze2 w6 (C i)) (by omega) (by omega) (by simp;omega) ?_;intro v' w8 ae hg hv aW;obtain⟨z8,c8,tJ⟩:∃z8 c8,v'=za (some ⟨z8,0,none⟩) (i+1+1) c8:=by
           rcases own_kinds ae with⟨_,h2⟩|⟨g9,c8,h1,_⟩
           ·omega
           ·exact⟨g9,c8,h1⟩
          subst tJ;have Q8:=za4 ((QC.X.below hW).grownL (z:=z9) hg (by omega));have D8:=za4 ((DC.X.below hW).grown hg (fun z e=>(by simpa[zm]using e:z9=z)▸q3));have P8:Hid (zc3 w8 aN cS bK bq R9 (SM i)):=(PC.X.below hW).grownL (z:=z9) hg F5.X;have O8:=za4 ae;have F8:Hid (zi8 z8 aN cS R9 (SM i)):=by
           rcases hv with h|h
           ·have h1:z8=z9:=by simpa[zm]using h
            rw[h1];exact F5.X
           ·have h1:z8=(w6.alloc (zg #[ze zd (C i)] 2)).heap.size:=by simpa[zm]using h
            rw[h1];exact(PC.X.below hW).far (zT _)
          clear ae hg hv aW)
         go_roundw
         case rel=>exact⟨i+1,aN,cS,bK,be,bq,dN,z8,c8,R9,by omega,by first|rfl|go_num,rfl,by rw[e3],Q8.X,D8.X,by rw[e2];exact P8.X,by rw[e1];exact K5.X,rfl,by rw[TS.X,e3];exact O8.X,by rw[e2];exact F8.X⟩
         case measure=>simp[intOf];omega
     ·have pK:i=N:=by omega
      subst pK;clear ah;have DO:R9.length=(SR i).length:=by have:=congrArg zo K5.X;simpa using this
      have CC:=zJ8 aN cS be dN R9 (SM i) wr P5.X.2.2.1 P5.X.2.2.2.1 (P5.X.2.2.2.2.2.1.imp (fun h=>⟨h.1,P5.X.2.1.trans h.2⟩) id) (by have:=EY.X.2.1;omega) (fun r hr=>z12 K5.X EY.X.1 r hr) EY.X.2.2;have fL:Hid (R9.length=bK):=P5.X.1;have fS:Hid ((SM i).length=bq):=P5.X.2.1;rw[fL.X,fS.X]at CC;clear DO;obtain⟨p0,p1⟩:=za1 Q5.X.p
      go_wp2_with fail
      refine CC.mono ?_;rintro e w6 ⟨bk,bI,bZ,bQ,S4,rfl,hb,eM,da,wI⟩;rw[fL.X,fS.X]at da;rw[fL.X,fS.X];have Q6:=za4 (Q5.X.below hb);have P6:=za4 da;have NM:=za4 (eM.trans K5.X);have mC:Hid (S4.length=bK):=by have:=congrArg zo eM;simp only[qz]at this;exact this.trans fL.X
      have oP:=za4 wI;have O6:=za4 (zu6 O5.X hb (fun k e=>(O5.X.lt k e).2));have Z6:Hid (z9<wr.heap.size):=(O5.X.lt z9 rfl).2;have Mi:Hid (w.heap.size+3<=wr.heap.size):=Q5.X.size;have EX:Hid (m2<=z9):=(O5.X.lt z9 rfl).1;clear hb da eM wI CC p0 p1 Q5 D5 P5 K5 O5 F5;obtain⟨a0,a1⟩:=za1 Q6.X.o;have af:=fun i=>yZ _ _ i _ _ Q6.X.o;have s1:=xb w6 (w.heap.size+2) 0 _ _ (za bk bK bI) Q6.X.o;have P7:Hid (PO ((w6.setCell ⟨w.heap.size+2,0,none⟩ (za bk bK bI)).setCell ⟨w.heap.size+2,1,none⟩ (za bZ bq bQ)) (wr.heap.size+2) (za bk bK bI) S4 (za bZ bq bQ) (SM i)):=(P6.X.box Q6.X.o).box s1;have B7:Hid (Below w.heap.size w ((w6.setCell ⟨w.heap.size+2,0,none⟩ (za bk bK bI)).setCell ⟨w.heap.size+2,1,none⟩ (za bZ bq bQ))):=(Q6.X.b.setCell (by simp) _).setCell (by simp) _;have aq:(za (some ⟨z9,0,none⟩) (i+1) c9).ownBlock≠some (w.heap.size+2):=fun h=>by
       have h1:z9=w.heap.size+2:=by simpa[zm]using h
       have:=EX.X;omega
      have O7:Hid (((w6.setCell ⟨w.heap.size+2,0,none⟩ (za bk bK bI)).setCell ⟨w.heap.size+2,1,none⟩ (za bZ bq bQ)).ownsRow m2 2 1 (za (some ⟨z9,0,none⟩) (i+1) c9) (i+1) ((T i).map (ze zd))):=zf1 (zf1 O6.X 0 _ aq) 1 _ aq;clear s1 aq;go_wp2;refine xe (v:=.tuple #[.agg #[za bk bK bI,za bZ bq bQ],za (some ⟨z9,0,none⟩) (i+1) c9,.bool true]) (by simp[results,Tryz.results7,go_sem,a0,a1]) rfl ?_;show zL2 _ _ _ _ _ _ _;have bU:=Mi.X;have vW:=Z6.X;exact⟨bk,bK,bI,bZ,bq,bQ,S4,_,wr.heap.size+2,rfl,B7.X,mC.X,fS.X,NM.X,by omega,P7.X,oP.X,by rw[TL.X];exact zb5 O7.X (by omega),fun z hz=>by
       have h1:z9=z:=by simpa[zm]using hz
       omega⟩
 ·have tI:(pv !=0)=true:=by simp[du]
  obtain⟨a0,a1⟩:=za1 Q1.X.o;have af:=fun i=>yZ _ _ i _ _ Q1.X.o;have B5:Hid (Below w.heap.size w ((w1.setCell ⟨w.heap.size+2,0,none⟩ (za none 0 0)).setCell ⟨w.heap.size+2,1,none⟩ (za none 0 0))):=(Q1.X.b.setCell (by simp) _).setCell (by simp) _;rw[zX du,jj]at d7;have mK:GB=false:=by rw[d7.X];try rfl
  subst mK;obtain⟨g2,g3,g4⟩:=bz.X rfl;subst g2 g3 g4;clear bz fq
  go_wp2_with(first|(go_at_call 32;refine(zc2 _ _ _ _).mono ?_;rintro e w' ⟨rfl,dx⟩;subst w';rw[dh.X])|(go_at_call 33;refine(zl3 _ _).mono ?_;rintro e w' ⟨rfl,dx⟩;subst w';rw[eb.X]))
  refine xe (v:=.tuple #[.agg #[za none 0 0,za none 0 0],za none 0 0,.bool false]) (by simp[results,Tryz.results7,go_sem,a0,a1]) rfl ?_;show zL2 _ _ _ _ _ _ _;exact⟨none,0,0,none,0,0,[],za none 0 0,w.heap.size,rfl,B5.X,rfl,rfl,rfl,zT _,⟨xZ _ _ _ _,(fun s hs=>by cases hs),xZ _ _ _ _⟩,z65.nil _,xZ _ _ _ _,fun z hz=>by cases hz⟩
theorem yz1{w:zi}{base n m rc lc:Nat}{ra la:Option Addr}{S:List RT}{L:List Int}(h:PO w base (za ra n rc) S (za la m lc) L){x:Nat}(hx:w.heap.size<=x):Off x ra la S:=by
 refine⟨fun b off e=> ?_,fun b off e=> ?_,fun r hr b off e=> ?_⟩
 ·have:=(h.r.lt b (by rw[e];rfl)).2;omega
 ·have:=(h.l.lt b (by rw[e];rfl)).2;omega
 ·have:=((h.s r hr).lt b (by rw[e];rfl)).2;omega
theorem PO.grownL{W W':zi}{base n m rc lc z:Nat}{ra la:Option Addr}{S:List RT}{L:List Int}(h:PO W base (za ra n rc) S (za la m lc) L)(hg:W.grownBy W' (some z))(ho:Off z ra la S):PO W' base (za ra n rc) S (za la m lc) L:=by
 have hk:∀{size k N:Nat} {e:TypeId} {a:Option Addr} {c:Nat} {xs:List Value},(∀b off,a=some ⟨b,off,none⟩->b≠z)->W.ownsRow base e size (za a k c) N xs->(za a k c).ownBlock≠some z:=fun{size k N e a c xs} h1 h2 h3=>by
  rcases own_kinds h2 with⟨e9,_⟩|⟨g,c9,e9,_⟩
  ·injection e9 with e9 _ _
   subst e9;cases h3
  ·injection e9 with e9 _ _
   subst e9;exact h1 g 0 rfl (by simpa[zm]using h3)
 exact⟨h.r.kept hg (.inr (hk ho.1 h.r)),fun s hs=>(h.s s hs).kept hg (.inr (hk (ho.2.2 s hs) (h.s s hs))),h.l.kept hg (.inr (hk ho.2.1 h.l))⟩
structure yI2(w:zi)(cs:Array Value)(SR:Nat->List RT)(SM:Nat->List Int)(SD:Nat->Int)(DR:Nat->List RT)(DM:Nat->List Int)(F:Nat->Bool)(GR:Nat->List RT)(GM:Nat->List Int)(YR:Nat->List RT)(YM:Nat->List Int)(YC C XN:Nat->Int):Prop where
 dest:∀(i:Nat) (W:zi) (ra la:Option Addr) (nr rc ln lc:Nat) (R:List RT),Below w.heap.size w W->zc3 W ra la nr ln R (SM i)->R.map RT.key=(SR i).map RT.key->Calls zh 42 #[.agg cs,.agg #[za ra nr rc,za la ln lc],ze zd (SD i),ze zd (seK i)] W (z20 W (SD (i+1)) (F i) (DR i) (DM i))
 grd:∀(i:Nat) (W:zi) (ra:Option Addr) (base g nr rc ln lc:Nat) (R:List RT),F i=true->Below w.heap.size w W->PO W base (za ra nr rc) R (za (some ⟨g,0,none⟩) ln lc) (DM i)->R.length=nr->(DM i).length=ln->R.map RT.key=(DR i).map RT.key->Calls zh 44 #[.agg cs,.agg #[za ra nr rc,za (some ⟨g,0,none⟩) ln lc]] W (yg4 W (GR i) (GM i))
 desc:∀(i:Nat) (W:zi) (ra la:Option Addr) (nr rc ln lc:Nat) (R:List RT),F i=true->Below w.heap.size w W->zc3 W ra la nr ln R (GM i)->R.map RT.key=(GR i).map RT.key->Calls zh 43 #[.agg cs,.agg #[za ra nr rc,za la ln lc],ze zd 3] W (z74 W (XN i) (YR i) (YM i))
 costY:∀(i:Nat) (W:zi) (ra la:Option Addr) (nr rc ln lc:Nat) (R:List RT),F i=true->Below w.heap.size w W->zc3 W ra la nr ln R (YM i)->R.map RT.key=(YR i).map RT.key->Calls zh 41 #[.agg cs,.agg #[za ra nr rc,za la ln lc]] W fun e w'=>e=.returned (ze zd (YC i))/\Below W.heap.size W w'
 cost:∀(i:Nat) (W:zi) (ra la:Option Addr) (nr rc ln lc:Nat) (R:List RT),Below w.heap.size w W->zc3 W ra la nr ln R (SM i)->R.map RT.key=(SR i).map RT.key->Calls zh 41 #[.agg cs,.agg #[za ra nr rc,za la ln lc]] W fun e w'=>e=.returned (ze zd (C i))/\Below W.heap.size W w'
 yes:∀i,F i=true->YC i<C i->SR (i+1)=YR i/\SM (i+1)=YM i/\C (i+1)=YC i
 no:∀i,(F i=true->¬YC i<C i)->SR (i+1)=SR i/\SM (i+1)=SM i/\C (i+1)=C i
theorem zX2(n fine:Int)(a ao av ra la:Option Addr)(zl ac ko co kv cv nr rc ln lc:Nat)(zs os vs L:List Int)(R:List RT)(w:zi)(hA:za3 w a zs)(hO:za3 w ao os)(hV:za3 w av vs)(aO:zs.length=zl)(an:os.length=ko*6)(au:vs.length=kv*5)(hP:zc3 w ra la nr ln R L)(aS:zc1 n zs os vs ko kv fine R L=0):
 Calls zh 41 #[.agg #[ze zd n,za a zl ac,za ao ko co,za av kv cv,ze zd fine],.agg #[za ra nr rc,za la ln lc]] w fun e w'=>e=.returned (ze zd (zp1 n zs os vs ko kv fine R L))/\Below w.heap.size w w':=by
 have cZ:=(zb7 aS).1;have ay:ko<=12:=(zd8 (zb2 cZ).2.1).1;have aB:kv<=5:=(zf2 (zb2 cZ).2.2.1).1;obtain⟨p1,p2,p3,p4,p5,p6,p7⟩:=hP;have:=z90 n fine a ao av ra la ac ko co kv cv rc lc zs os vs L R w hA hO hV p3 an au (by omega) (by omega) aS;rw[aO,p1,p2]at this;unfold zp1;rw[z7 aS,p1,p2];exact this
theorem zC9{n fine:Int}{zs os vs:List Int}{ko kv:Nat}{R:List RT}{L:List Int}(h:zc1 n zs os vs ko kv fine R L=0):ko<=9223372036854775807/\kv<=9223372036854775807/\R.length<=1048576/\(∀r∈R,r.ids≠[]/\r.ids.length<=12)/\L.length<=1048576/\(zb0 R R.length).length<=1048576:=by
 have cZ:=(zb7 h).1;have ay:ko<=12:=(zd8 (zb2 cZ).2.1).1;have aB:kv<=5:=(zf2 (zb2 cZ).2.2.1).1;obtain⟨_,g2,_,_,h5⟩:=zb7 h;obtain⟨_,aP⟩:=zh4.1 g2;have hs:=ze6 h;exact⟨by omega,by omega,by omega,fun r hr=>⟨(aP r hr).1,zk2 (aP r hr).2⟩,by omega,by omega⟩
theorem yK6(sd n fine:Int)(a ao:Option Addr)(bv ov zl ac ko co kv cv:Nat)(zs os vs L:List Int)(R:List RT)(w:zi)(hA:za3 w a zs)(hO:za3 w ao os)(hV:za3 w (some ⟨bv,ov,none⟩) vs)(aO:zs.length=zl)(an:os.length=ko*6)(au:vs.length=kv*5)(aS:zc1 n zs os vs ko kv fine R L=0)(hs:inB sd 0 2147483647=true):
 ∃(DR:Nat->List RT) (DM:Nat->List Int) (F:Nat->Bool) (GR:Nat->List RT) (GM:Nat->List Int) (YR:Nat->List RT) (YM:Nat->List Int) (YC XN:Nat->Int),yI2 w #[ze zd n,za a zl ac,za ao ko co,za (some ⟨bv,ov,none⟩) kv cv,ze zd fine] (fun i=>(seP sd n fine zs os vs ko kv R L i).1.1) (fun i=>(seP sd n fine zs os vs ko kv R L i).1.2) (fun i=>(seP sd n fine zs os vs ko kv R L i).2) DR DM F GR GM YR YM YC (seC sd n fine zs os vs ko kv R L) XN:=by
 obtain⟨P,hP⟩:∃P,P=seP sd n fine zs os vs ko kv R L:=⟨_,rfl⟩;have lC:∀i,zc1 n zs os vs ko kv fine (P i).1.1 (P i).1.2=0/\inB (P i).2 0 2147483647=true:=by rw[hP];exact z51 aS hs
 have fK:∀i,P (i+1)=(seN (P i).2 (seK i) n fine zs os vs ko kv (P i).1.1 (P i).1.2,deN (P i).2 (seK i) n fine zs os vs ko kv (P i).1.1 (P i).1.2):=fun i=>by rw[hP];rfl
 have hC:∀i,seC sd n fine zs os vs ko kv R L i=zp1 n zs os vs ko kv fine (P i).1.1 (P i).1.2:=fun i=>by rw[hP];rfl
 rw[<-hP];have bF:=(lC 0).1;have cZ:=(zb7 bF).1;have ay:ko<=12:=(zd8 (zb2 cZ).2.1).1;have aB:kv<=5:=(zf2 (zb2 cZ).2.2.1).1;obtain⟨D,hD⟩:∃D:Nat->List RT×List Int,D=fun i=>(deR (P i).2 (seK i) n fine zs os vs ko kv (P i).1.1 (P i).1.2,deL (P i).2 (seK i) n fine zs os vs ko kv (P i).1.1 (P i).1.2):=⟨_,rfl⟩;have uY:∀i,deR (P i).2 (seK i) n fine zs os vs ko kv (P i).1.1 (P i).1.2=(D i).1/\deL (P i).2 (seK i) n fine zs os vs ko kv (P i).1.1 (P i).1.2=(D i).2:=fun i=>by rw[hD];exact⟨rfl,rfl⟩
 obtain⟨G,hG⟩:∃G:Nat->List RT×List Int,G=fun i=>grd n fine zs os vs ko kv (D i).2.length (D i).1 (D i).2:=⟨_,rfl⟩;have vJ:∀i,grd n fine zs os vs ko kv (D i).2.length (D i).1 (D i).2=G i:=fun i=>by rw[hG]
 have Jy:∀i,deF (P i).2 (seK i) n fine zs os vs ko kv (P i).1.1 (P i).1.2=true->zc1 n zs os vs ko kv fine (D i).1 (D i).2=0:=fun i h=>by
  have h9:=(zE0 h).2.2;rw[(uY i).1,(uY i).2]at h9;exact h9
 have Fu:∀i,deF (P i).2 (seK i) n fine zs os vs ko kv (P i).1.1 (P i).1.2=true->zc1 n zs os vs ko kv fine (G i).1 (G i).2=0:=fun i h=>by
  have h9:=(zE1 (D i).2.length _ _ (Jy i h)).1;rw[vJ]at h9;exact h9
 have Fb:∀i,seD (P i).2 (seK i) n fine zs os vs ko kv (P i).1.1 (P i).1.2=(dsR n fine zs os vs ko kv (G i).2 3 (G i).1,(G i).2):=fun i=>by
  unfold seD seY;rw[(uY i).1,(uY i).2,vJ]
 refine⟨fun i=>(D i).1,fun i=>(D i).2,fun i=>deF (P i).2 (seK i) n fine zs os vs ko kv (P i).1.1 (P i).1.2,fun i=>(G i).1,fun i=>(G i).2,fun i=>dsR n fine zs os vs ko kv (G i).2 3 (G i).1,fun i=>(G i).2,fun i=>zp1 n zs os vs ko kv fine (dsR n fine zs os vs ko kv (G i).2 3 (G i).1) (G i).2,fun i=>dcN 3 n fine zs os vs ko kv (G i).1 (G i).2,?_,?_,?_,?_,?_,?_,?_⟩
 ·intro i W ra la nr rc ln lc R2 hW hp hk
  have hv:zc1 n zs os vs ko kv fine R2 (P i).1.2=0:=by rw[zd6 _ hk];exact(lC i).1
  obtain⟨b1,b2,b3,b4,b5,b6⟩:=zC9 hv;have h:=zC2 (P i).2 (seK i) n fine a ao _ ra la zl ac ko co kv cv nr rc ln lc zs os vs (P i).1.2 R2 W (hA.below hW) (hO.below hW) (hV.below hW) aO an au b1 b2 hp (by rw[<-hp.1];exact b3) (fun r hr=>by have:=(b4 r hr).2;omega) (by rw[<-hp.2.1];exact b5) b6;rw[yc3 _ _ _ _ _ _ _ _ _ _ hk,yg7 _ _ _ _ _ _ _ _ _ _ hk,yd0 _ _ _ _ _ _ _ _ _ _ hk,(uY i).2]at h;have h3:=yg5 (P i).2 (seK i) n fine zs os vs ko kv (P i).1.2 hk;rw[(uY i).1]at h3;refine h.mono ?_;rintro e w' ⟨ag,n2,ai,ak,l2,aj,R3,rfl,hb,h1,h2,iH,mw,gi⟩;refine⟨ag,n2,ai,ak,l2,aj,R3,?_,hb,h1,h2,iH.trans h3,mw,gi⟩;simp only[fK]
 ·intro i W ra base g nr rc ln lc R2 hf hW hp hn hl hk
  have hv:zc1 n zs os vs ko kv fine R2 (D i).2=0:=by rw[zd6 _ hk];exact Jy i hf
  have fU:=hp.is hn hl;obtain⟨_,g2,g3,g4,g5,_⟩:=yG2 hv fU.2.2.2.2.2.2;have h:=zW5 n fine a ao ra zl ac ko co bv ov kv cv nr rc g 0 ln lc zs os vs (D i).2 R2 W (hA.below hW) (hO.below hW) (hV.below hW) aO an au ay aB cZ fU (by rw[<-hn];exact g4) (by rw[<-hl];exact g5) g2 g3 (hp.ad (fun s hs=>((zC9 hv).2.2.2.1 s hs).1)) (fun k hx=>yz1 hp hx);obtain⟨k1,k2⟩:=z77 (n:=n) (fine:=fine) (zs:=zs) (os:=os) (vs:=vs) (ko:=ko) (kv:=kv) (D i).2.length (D i).2 hk;rw[k2,vJ]at h;rw[vJ]at k1;refine h.mono ?_;rintro e w' ⟨ag,n2,ai,gl,l2,aj,S,h0,h1,h2,h3,h4,h5⟩;exact⟨ag,n2,ai,gl,l2,aj,S,h0,h1,h2,h3,h4.trans k1,h5⟩
 ·intro i W ra la nr rc ln lc R2 hf hW hp hk
  have hv:zc1 n zs os vs ko kv fine R2 (G i).2=0:=by rw[zd6 _ hk];exact Fu i hf
  obtain⟨b1,b2,b3,b4,b5,b6⟩:=zC9 hv;have h:=z82 3 n fine a ao _ ra la zl ac ko co kv cv nr rc ln lc zs os vs (G i).2 R2 W (hA.below hW) (hO.below hW) (hV.below hW) aO an au b1 b2 hp (by rw[<-hp.1];exact b3) (fun r hr=>by have:=(b4 r hr).2;omega) (by rw[<-hp.2.1];exact b5) b6;have hB:dcB 3 n fine zs os vs ko kv (G i).1 (G i).2=true:=by
   unfold dcB;rw[Fu i hf];rfl
  have e1:dcR 3 n fine zs os vs ko kv (G i).1 (G i).2=dsR n fine zs os vs ko kv (G i).2 3 (G i).1:=by
   unfold dcR;rw[hB];rfl
  have e2:dcL 3 n fine zs os vs ko kv (G i).1 (G i).2=(G i).2:=by
   unfold dcL;rw[hB];rfl
  have k1:=yH0 3 n fine zs os vs ko kv (G i).2 hk;rw[yE1 _ _ _ _ _ _ _ _ _ hk,yF4 _ _ _ _ _ _ _ _ _ hk,e2]at h;rw[e1]at k1;refine h.mono ?_;rintro e w' ⟨ag,n2,ai,ak,l2,aj,S,h0,h1,h2,h3,h4,h5⟩;exact⟨ag,n2,ai,ak,l2,aj,S,h0,h1,h2,h3,h4.trans k1,h5⟩
 ·intro i W ra la nr rc ln lc R2 hf hW hp hk
  have hy:=y26 3 (Fu i hf);have h:=zX2 n fine a ao _ ra la zl ac ko co kv cv nr rc ln lc zs os vs _ R2 W (hA.below hW) (hO.below hW) (hV.below hW) aO an au hp (by rw[zd6 _ hk];exact hy);rw[zt0 _ hk]at h;exact h
 ·intro i W ra la nr rc ln lc R2 hW hp hk
  have h:=zX2 n fine a ao _ ra la zl ac ko co kv cv nr rc ln lc zs os vs _ R2 W (hA.below hW) (hO.below hW) (hV.below hW) aO an au hp (by rw[zd6 _ hk];exact(lC i).1);rw[zt0 _ hk,<-hC]at h;exact h
 ·intro i hf ah
  rw[hC]at ah;have hb:seB (P i).2 (seK i) n fine zs os vs ko kv (P i).1.1 (P i).1.2=true:=by
   unfold seB;rw[zY,qh,Fb];exact⟨hf,ah⟩
  have e:(P (i+1)).1=(dsR n fine zs os vs ko kv (G i).2 3 (G i).1,(G i).2):=by
   rw[fK,<-Fb];show seN _ _ _ _ _ _ _ _ _ _ _=_;unfold seN;rw[hb,jk]
  exact⟨by rw[e],by rw[e],by rw[hC,e]⟩
 ·intro i aZ
  have hb:seB (P i).2 (seK i) n fine zs os vs ko kv (P i).1.1 (P i).1.2=false:=by
   rw[<-Bool.not_eq_true];unfold seB;rw[zY,qh,Fb];exact fun h=>aZ h.1 (by rw[hC];exact h.2)
  have e:(P (i+1)).1=(P i).1:=by
   rw[fK];show seN _ _ _ _ _ _ _ _ _ _ _=_;unfold seN;rw[hb];rfl
  exact⟨by rw[e],by rw[e],by rw[hC,hC,e]⟩
def y10(w:zi)(f:Bool)(X:List Int)(T:List RT)(L:List Int)(e:Ending)(w':zi):Prop:=∃ra rn rc la ln lc S tv,e=.returned (.tuple #[.agg #[za ra rn rc,za la ln lc],tv,.bool f])/\Below w.heap.size w w'/\S.length=rn/\L.length=ln/\S.map RT.key=T.map RT.key/\PO w' w.heap.size (za ra rn rc) S (za la ln lc) L/\w'.ownsRow w.heap.size 2 1 tv X.length (X.map (ze zd))
structure SeQ(w W:zi)(cs ps:Array Value)(kn:Nat)(ra la:Option Addr)(rn rc ln lc z c k:Nat)(S:List RT)(L X:List Int):Prop where
 q:GQ w W cs ps
 n:W.heap[kn]? =some (zg #[za ra rn rc,za la ln lc] 33 (0,0))
 p:PO W (w.heap.size+3) (za ra rn rc) S (za la ln lc) L
 hn:S.length=rn
 hl:L.length=ln
 t:W.ownsRow (kn+1) 2 1 (za (some ⟨z,0,none⟩) k c) k (X.map (ze zd))
 o:Off z ra la S
section
variable {w W W':zi} {cs ps:Array Value} {kn rn rc ln lc z c k:Nat} {ra la:Option Addr} {S:List RT} {L X:List Int}
theorem SeQ.below(h:SeQ w W cs ps kn ra la rn rc ln lc z c k S L X)(hb:Below W.heap.size W W'):SeQ w W' cs ps kn ra la rn rc ln lc z c k S L X:=
 ⟨h.q.below hb,za0 hb (za2 h.n) h.n,h.p.below hb,h.hn,h.hl,zu6 h.t hb (fun k e=>(h.t.lt k e).2),h.o⟩
theorem SeQ.zz(h:SeQ w W cs ps kn ra la rn rc ln lc z c k S L X):kn<z/\z<W.heap.size:=h.t.lt z rfl
theorem SeQ.ne(h:z≠kn):(za (some ⟨z,0,none⟩) k c).ownBlock≠some kn:=fun e=>h (by simpa[zm]using e)
theorem SeQ.take{b1 b2:Option Addr}{m1 d1 m2 d2:Nat}{S2:List RT}{L2:List Int}(h:SeQ w W cs ps kn ra la rn rc ln lc z c k S L X)(hk:w.heap.size+3<=kn)(hp:PO W (w.heap.size+3) (za b1 m1 d1) S2 (za b2 m2 d2) L2)(h1:S2.length=m1)(h2:L2.length=m2)(ho:Off z b1 b2 S2):SeQ w ((W.setCell ⟨kn,0,none⟩ (za b1 m1 d1)).setCell ⟨kn,1,none⟩ (za b2 m2 d2)) cs ps kn b1 b2 m1 d1 m2 d2 z c k S2 L2 X:=
 ⟨(h.q.set hk).set hk,zi5 h.n,hp.box2 h.n,h1,h2,zf1 (zf1 h.t 0 _ (SeQ.ne (by have:=h.zz;omega))) 1 _ (SeQ.ne (by have:=h.zz;omega)),ho⟩
theorem SeQ.app{v:Value}{x:Int}(h:SeQ w W cs ps kn ra la rn rc ln lc z c k S L X)(hk:w.heap.size+3<=kn)(hg:W.grownBy W' (some z))(ho:W'.ownsRow (kn+1) 2 1 v (k+1) ((X++[x]).map (ze zd)))(hv:v.ownBlock=some z∨v.ownBlock=some W.heap.size):∃z8 c8,v=za (some ⟨z8,0,none⟩) (k+1) c8/\SeQ w W' cs ps kn ra la rn rc ln lc z8 c8 (k+1) S L (X++[x]):=by
 have hz:=h.zz;rcases own_kinds ho with⟨_,h2⟩|⟨z8,c8,h1,_⟩
 ·omega
 subst h1;refine⟨z8,c8,rfl,h.q.grownL hg (by omega),(hg.block kn (za2 h.n) (fun e=>by injection e with e;omega)).trans h.n,h.p.grownL hg h.o,h.hn,h.hl,ho,?_⟩;rcases hv with e|e
 ·rw[show z8=z by simpa[zm]using e];exact h.o
 ·rw[show z8=W.heap.size by simpa[zm]using e];exact yz1 h.p (zT _)
end
theorem zB6(sd st n fine:Int)(a ao ra la:Option Addr)(zl ac ko co bv ov kv cv nr rc ln lc:Nat)(zs os vs L:List Int)(R:List RT)(w:zi)(hA:za3 w a zs)(hO:za3 w ao os)(hV:za3 w (some ⟨bv,ov,none⟩) vs)(aO:zs.length=zl)(an:os.length=ko*6)(au:vs.length=kv*5)(ay:ko<=9223372036854775807)(aB:kv<=9223372036854775807)(hP:zc3 w ra la nr ln R L)(hn:nr<=1048576)(hi:∀r∈R,r.ids.length<=1048576)(dm:ln<=1048576)(cT:(zb0 R R.length).length<=1048576):
 Calls zh 8 #[.agg #[ze zd n,za a zl ac,za ao ko co,za (some ⟨bv,ov,none⟩) kv cv,ze zd fine],.agg #[za ra nr rc,za la ln lc],ze zd sd,ze zd st] w (y10 w (sgB sd st n fine zs os vs ko kv R L) (sgT sd st n fine zs os vs ko kv R L) (sgR sd st n fine zs os vs ko kv R L) (sgL sd st n fine zs os vs ko kv R L)):=by
 have HA:=za4 hA;have HO:=za4 hO;have HV:=za4 hV;have cm:=za4 aO;have aF:=za4 an;have aD:=za4 au;have HP:=za4 hP;have HN:Hid (R.length=nr):=hP.1;have HM:Hid (L.length=ln):=hP.2.1;clear hA hO hV aO an au hP;obtain⟨pv,cJ⟩:=nmd (zc1 n zs os vs ko kv fine R L);obtain⟨k1,dh⟩:=nmd (inB st 0 60);obtain⟨s1,eb⟩:=nmd (inB sd 0 2147483647);have d7:Hid (sgB sd st n fine zs os vs ko kv R L=(decide (pv=0)&&(k1&&s1))):=by show _=_;unfold sgB;rw[cJ.X,dh.X,eb.X]
 obtain⟨GB,dJ⟩:=nmd (sgB sd st n fine zs os vs ko kv R L);have bz:Hid (GB=false->sgR sd st n fine zs os vs ko kv R L=[]/\sgL sd st n fine zs os vs ko kv R L=[]/\sgT sd st n fine zs os vs ko kv R L=[]):=fun h=>by
  unfold sgR sgL sgT;rw[dJ.X,h];exact⟨rfl,rfl,rfl⟩
 have fq:Hid (GB=true->sgR sd st n fine zs os vs ko kv R L=(seP sd n fine zs os vs ko kv R L st.toNat).1.1/\sgL sd st n fine zs os vs ko kv R L=(seP sd n fine zs os vs ko kv R L st.toNat).1.2/\sgT sd st n fine zs os vs ko kv R L=seT sd n fine zs os vs ko kv R L st.toNat):=fun h=>by
  unfold sgR sgL sgT;rw[dJ.X,h];exact⟨rfl,rfl,rfl⟩
 obtain⟨GR,cE⟩:=nmd (sgR sd st n fine zs os vs ko kv R L);obtain⟨GL,db⟩:=nmd (sgL sd st n fine zs os vs ko kv R L);obtain⟨GT,kN⟩:=nmd (sgT sd st n fine zs os vs ko kv R L);rw[cE.X,db.X,kN.X]at bz fq;rw[dJ.X]at d7;rw[dJ.X,cE.X,db.X,kN.X];clear dJ cE db kN;have Q0:Hid (GQ w (((w.alloc (zg #[ze zd n,za a zl ac,za ao ko co,za (some ⟨bv,ov,none⟩) kv cv,ze zd fine] 30)).alloc (zg #[za ra nr rc,za la ln lc] 33)).alloc (zg #[za none 0 0,za none 0 0] 33)) #[ze zd n,za a zl ac,za ao ko co,za (some ⟨bv,ov,none⟩) kv cv,ze zd fine] #[za ra nr rc,za la ln lc]):=by
  refine⟨((zP _).alloc (by simp) _).alloc (by simp;omega) _,?_,?_,?_⟩
  ·exact(xg _ _ (by simp;omega)).trans (xm _ _ _)
  ·exact(xg _ _ (by simp)).trans (xh _ _ _)
  ·have:=zS ((w.alloc (zg #[ze zd n,za a zl ac,za ao ko co,za (some ⟨bv,ov,none⟩) kv cv,ze zd fine] 30)).alloc (zg #[za ra nr rc,za la ln lc] 33)) (zg #[za none 0 0,za none 0 0] 33)
   simpa using this
 have PC:=zj3 n fine a ao _ ra la ac ko co kv cv rc lc zs os vs L R (((w.alloc (zg #[ze zd n,za a zl ac,za ao ko co,za (some ⟨bv,ov,none⟩) kv cv,ze zd fine] 30)).alloc (zg #[za ra nr rc,za la ln lc] 33)).alloc (zg #[za none 0 0,za none 0 0] 33)) (HA.X.below Q0.X.b) (HO.X.below Q0.X.b) (HV.X.below Q0.X.b) (HP.X.2.2.1.below Q0.X.b) (HP.X.2.2.2.1.below Q0.X.b) aF.X aD.X ay aB (by rw[HN.X];exact hn) hi HP.X.2.2.2.2.2.2 (by rw[HM.X];exact dm) cT;rw[HN.X,HM.X,cm.X,cJ.X]at PC;obtain⟨c0,c1,c2,c3,c4⟩:=za7 Q0.X.c;obtain⟨p0,p1⟩:=za1 Q0.X.p;go_enter Tryz.func8,Tryz.ntmps8
 go_wp2_with fail
 generalize((w.alloc _).alloc _).alloc _=W0 at*;refine PC.mono ?_;rintro e w1 ⟨rfl,hb⟩;have Q1:=za4 (Q0.X.below hb);clear hb PC c0 c1 c2 c3 c4 p0 p1 Q0 hi cT;by_cases du:pv=0
 ·subst du
  rw[zW rfl,ji]at d7;cases k1
  ·obtain⟨a0,a1⟩:=za1 Q1.X.o
   have af:=fun i=>yZ _ _ i _ _ Q1.X.o;have mK:GB=false:=by rw[d7.X];try rfl
   subst mK;obtain⟨g2,g3,g4⟩:=bz.X rfl;subst g2 g3 g4;clear bz fq;have B5:Hid (Below w.heap.size w ((w1.setCell ⟨w.heap.size+2,0,none⟩ (za none 0 0)).setCell ⟨w.heap.size+2,1,none⟩ (za none 0 0))):=(Q1.X.b.setCell (by simp) _).setCell (by simp) _
   go_wp2_with(go_at_call 39;refine(zc0 _ _ _ _).mono ?_;rintro e w' ⟨rfl,dx⟩;subst w';first|rw[dh.X]|rw[eb.X])
   refine xe (v:=.tuple #[.agg #[za none 0 0,za none 0 0],za none 0 0,.bool false]) (by simp[results,Tryz.results8,go_sem,a0,a1]) rfl ?_;exact⟨none,0,0,none,0,0,[],za none 0 0,rfl,B5.X,rfl,rfl,rfl,⟨xZ _ _ _ _,(fun s hs=>by cases hs),xZ _ _ _ _⟩,xZ _ _ _ _⟩
  ·cases s1
   ·obtain⟨a0,a1⟩:=za1 Q1.X.o
    have af:=fun i=>yZ _ _ i _ _ Q1.X.o;have mK:GB=false:=by rw[d7.X];try rfl
    subst mK;obtain⟨g2,g3,g4⟩:=bz.X rfl;subst g2 g3 g4;clear bz fq;have B5:Hid (Below w.heap.size w ((w1.setCell ⟨w.heap.size+2,0,none⟩ (za none 0 0)).setCell ⟨w.heap.size+2,1,none⟩ (za none 0 0))):=(Q1.X.b.setCell (by simp) _).setCell (by simp) _
    go_wp2_with(go_at_call 39;refine(zc0 _ _ _ _).mono ?_;rintro e w' ⟨rfl,dx⟩;subst w';first|rw[dh.X]|rw[eb.X])
    refine xe (v:=.tuple #[.agg #[za none 0 0,za none 0 0],za none 0 0,.bool false]) (by simp[results,Tryz.results8,go_sem,a0,a1]) rfl ?_;exact⟨none,0,0,none,0,0,[],za none 0 0,rfl,B5.X,rfl,rfl,rfl,⟨xZ _ _ _ _,(fun s hs=>by cases hs),xZ _ _ _ _⟩,xZ _ _ _ _⟩
   ·have ul:GB=true:=d7.X
    subst ul;clear bz d7;obtain⟨uN,tq,sB⟩:=fq.X rfl;clear fq;have bu:=zc8 dh.X;obtain⟨N,hN⟩:=xp bu.1;have sx:N<=60:=by omega
    subst hN;rw[yu]at uN tq sB;obtain⟨DR,DM,F,XR,XM,YR,YM,YC,XN,uj⟩:=yK6 sd n fine a ao bv ov zl ac ko co kv cv zs os vs L R w HA.X HO.X HV.X cm.X aF.X aD.X cJ.X eb.X;obtain⟨-,-,-,q4,-,-⟩:=zC9 cJ.X;have CC:=fun W (hW:Below w.heap.size w W)=>zz3 ra la rc lc R L W (HP.X.2.2.1.below hW) (HP.X.2.2.2.1.below hW) (HP.X.2.2.2.2.2.1.imp (fun h=>⟨h.1,HP.X.2.1.trans h.2⟩) id) (by have:=(ze6 cJ.X).1;omega) (fun r hr=>⟨(q4 r hr).1,by have:=(q4 r hr).2;omega⟩) (by have:=(ze6 cJ.X).2.1;omega)
    have T0:seT sd n fine zs os vs ko kv R L 0=[seC sd n fine zs os vs ko kv R L 0]:=rfl;have oV:=yl7 sd n fine zs os vs ko kv R L;have uy:=zP3 sd n fine zs os vs ko kv R L;have vX:(seP sd n fine zs os vs ko kv R L 0).1.1=R:=rfl;have Ba:(seP sd n fine zs os vs ko kv R L 0).1.2=L:=rfl;have z':(seP sd n fine zs os vs ko kv R L 0).2=sd:=rfl;obtain⟨C,HC⟩:=nmd (seC sd n fine zs os vs ko kv R L);obtain⟨T,HT⟩:=nmd (seT sd n fine zs os vs ko kv R L);obtain⟨SR,jV⟩:=nmd (fun i=>(seP sd n fine zs os vs ko kv R L i).1.1);obtain⟨SM,fW⟩:=nmd (fun i=>(seP sd n fine zs os vs ko kv R L i).1.2);obtain⟨SD,tP⟩:=nmd (fun i=>(seP sd n fine zs os vs ko kv R L i).2);rw[HC.X,jV.X,fW.X,tP.X]at uj;rw[HC.X]at T0 oV;rw[HT.X]at T0 oV uy sB;rw[congrFun jV.X 0]at vX;rw[congrFun fW.X 0]at Ba;rw[congrFun tP.X 0]at z';rw[congrFun jV.X N]at uN;rw[congrFun fW.X N]at tq;have ST:Hid _:=uj;have TS:=za4 oV;have TL:=za4 uy;have TZ:=za4 T0;subst uN tq sB;subst vX Ba z';clear uj oV uy T0 HC HT jV fW tP bu cJ q4;have vj:=CC w1 Q1.X.b;rw[HN.X,HM.X]at vj;obtain⟨p0,p1⟩:=za1 Q1.X.p
    go_wp2_with(go_at_call 39;refine(zc0 _ _ _ _).mono ?_;rintro e w' ⟨rfl,dx⟩;subst w';first|rw[dh.X]|rw[eb.X])
    refine vj.mono ?_;rintro e w2 ⟨ag,ai,ck,aj,S2,rfl,hb,cO,ho⟩;rw[HN.X,HM.X]at ho⊢;have Q2:=za4 (Q1.X.below hb);have P2:=za4 (ho.base (by have:=Q1.X.size;omega));have K2:=za4 cO;clear hb cO ho vj CC p0 p1 Q1;have V3:Hid ((w2.alloc (zg #[za ag nr ai,za (some ⟨ck,0,none⟩) ln aj] 33)).heap[w2.heap.size]? =some (zg #[za ag nr ai,za (some ⟨ck,0,none⟩) ln aj] 33 (0,0))):=by
     exact zS _ _
    have Ir:Below w2.heap.size w2 (w2.alloc (zg #[za ag nr ai,za (some ⟨ck,0,none⟩) ln aj] 33)):=zP _;have Q3:=za4 (Q2.X.below Ir);have P3:=za4 (P2.X.below Ir);have gP:Hid (w.heap.size+3<=w2.heap.size):=Q2.X.size;have cY:Hid (S2.length=nr):=by have:=congrArg zo K2.X;simp only[qz]at this;exact this.trans HN.X
    have KP:=ST.X.cost 0 _ ag (some ⟨ck,0,none⟩) nr ai ln aj S2 Q3.X.b (P3.X.is cY.X HM.X) K2.X;go_upto_region 4 with fail;clear Ir Q2 P2;obtain⟨kn,cM⟩:=nmd w2.heap.size;rw[cM.X]at V3 gP⊢;generalize w2.alloc _=w3 at*;obtain⟨c0,c1,c2,c3,c4⟩:=za7 Q3.X.c;obtain⟨n0,n1⟩:=za1 V3.X
    go_wp2_with fail
    refine KP.mono ?_;rintro e w4 ⟨rfl,hb⟩;have On:w.heap.size+3<=kn:=gP.X;have S4:Hid (SeQ w (w4.alloc (zg #[ze zd (C 0)] 2)) #[ze zd n,za a zl ac,za ao ko co,za (some ⟨bv,ov,none⟩) kv cv,ze zd fine] #[za ra nr rc,za la ln lc] kn ag (some ⟨ck,0,none⟩) nr ai ln aj w4.heap.size 1 (0+1) S2 (SM 0) (T 0)):=by
     have hA:Below w3.heap.size w3 (w4.alloc (zg #[ze zd (C 0)] 2)):=hb.trans (Below.mono ((y5 w4.heap.size w4).alloc (zT _) _) hb.size);have h3:kn+1<=w4.heap.size:=xj (za2 V3.X) hb.size;refine⟨Q3.X.below hA,za0 hA (za2 V3.X) V3.X,P3.X.below hA,cY.X,HM.X,?_,yz1 (P3.X.below hb) (zT _)⟩;rw[TZ.X];exact⟨rfl,.inr ⟨w4.heap.size,1,#[ze zd (C 0)],rfl,h3,zS _ _,by simp[maxLen]⟩⟩
    clear hb Q3 P3 V3 n0 n1 c0 c1 c2 c3 c4 KP cY TZ
    go_wp2_with fail
    go_loopw[2,12,13] (fun s2 Bx wU wr=>∃(i:Nat) (aN cS:Option Addr) (bK be bq dN z9 c9:Nat) (R9:List RT),i<=N/\wU=ze zd i/\s2=ze zd (SD i)/\Bx=za (some ⟨z9,0,none⟩) (i+1) c9/\SeQ w wr #[ze zd n,za a zl ac,za ao ko co,za (some ⟨bv,ov,none⟩) kv cv,ze zd fine] #[za ra nr rc,za la ln lc] kn aN cS bK be bq dN z9 c9 (i+1) R9 (SM i) (T i)/\R9.map RT.key=(SR i).map RT.key) (fun _ _ t _=>N - (intOf t).toNat)
    case atStart=>exact⟨0,ag,_,nr,ai,ln,aj,w4.heap.size,1,S2,xi _,rfl,rfl,rfl,S4.X,K2.X⟩
    case round=>
     clear S4 K2;obtain⟨i,aN,cS,bK,be,bq,dN,z9,c9,R9,hi,rfl,rfl,rfl,hq,hk⟩:=hrel;have S5:=za4 hq;have K5:=za4 hk;clear hq hk;by_cases ah:i<N
     ·have ek:(i:Int)<(N:Int):=by omega
      have m9:Int.tmod (i:Int) 3=((i % 3:Nat):Int):=by first|rfl|exact(Int.ofNat_tmod i 3).symm|exact(Int.natCast_tmod i 3).symm
      have wA:i % 3<3:=Nat.mod_lt _ (by omega);have DS:=ST.X.dest i wr aN cS bK be bq dN R9 S5.X.q.b (S5.X.p.is S5.X.hn S5.X.hl) K5.X;obtain⟨c0,c1,c2,c3,c4⟩:=za7 S5.X.q.c;obtain⟨n0,n1⟩:=za1 S5.X.n
      go_wp2_with fail
      refine DS.mono ?_;rintro e w2 ⟨ag,n2,ai,ak,l2,aj,R2,rfl,hb,cU,gu,cO,dS,rz⟩;have hz:=S5.X.zz;have bU:=hb.size;have S6:=S5.X.below hb;have h0:=S6.q.size;clear DS c0 c1 c2 c3 c4 n0 n1 m9 wA;have hA:Below w2.heap.size w2 (w2.alloc (zg #[za ag n2 ai,za ak l2 aj] 33)):=zP _;have HX:=za4 (zS w2 (zg #[za ag n2 ai,za ak l2 aj] 33));have S7:=za4 (S6.below hA);have X7:=za4 ((dS.base S5.X.q.size).below hA);have KX:=za4 cO;have fS:Hid (R2.length=n2/\(DM i).length=l2):=⟨cU,gu⟩;have fH:=za4 rz;have HZ:Hid (w.heap.size+3<=kn/\kn<z9/\z9<w2.heap.size/\kn≠w2.heap.size/\z9≠w2.heap.size):=⟨gP.X,hz.1,by omega,by omega,by omega⟩;clear hb cU gu cO dS rz S6 S5 h0 bU hz hA;go_upto_if 57 with fail;obtain⟨kx,dA⟩:=nmd w2.heap.size;rw[dA.X]at HX HZ⊢;generalize w2.alloc _=w6 at*;go_cut [16]from 45 to 73 (fun sE wx=>∃(bk bZ:Option Addr) (Df bI Cj bQ:Nat) (R4:List RT),SeQ w wx #[ze zd n,za a zl ac,za ao ko co,za (some ⟨bv,ov,none⟩) kv cv,ze zd fine] #[za ra nr rc,za la ln lc] kn bk bZ Df bI Cj bQ z9 c9 (i+1) R4 (SM (i+1)) (T i)/\R4.map RT.key=(SR (i+1)).map RT.key)
      case first=>
       cases hF:F i
       ·obtain⟨e1,e2,e3⟩:=ST.X.no i (fun h=>by rw[hF]at h;cases h)
        go_wp2_with fail
        go_meet;rw[e1,e2];exact⟨_,_,_,_,_,_,_,S7.X,K5.X⟩
       ·obtain⟨gx,Om⟩:=fH.X hF
        subst Om;go_upto_region 11 with fail;go_cut [17]from 58 to 65 (fun pO wx=>∃(ky:Nat) (bk bZ:Option Addr) (n4 bI l4 bQ:Nat) (R4:List RT),pO=.pointer (some ⟨ky,0,none⟩)/\Below w6.heap.size w6 wx/\w6.heap.size<=ky/\wx.heap[ky]? =some (zg #[za bk n4 bI,za bZ l4 bQ] 33 (0,0))/\PO wx w6.heap.size (za bk n4 bI) R4 (za bZ l4 bQ) (YM i)/\R4.length=n4/\(YM i).length=l4/\R4.map RT.key=(YR i).map RT.key)
        case first=>
         have KS:Hid (∀W,Below w6.heap.size w6 W->((W.cell? ⟨w.heap.size,0,none⟩=some (ze zd n)/\W.cell? ⟨w.heap.size,1,none⟩=some (za a zl ac)/\W.cell? ⟨w.heap.size,2,none⟩=some (za ao ko co)/\W.cell? ⟨w.heap.size,3,none⟩=some (za (some ⟨bv,ov,none⟩) kv cv)/\W.cell? ⟨w.heap.size,4,none⟩=some (ze zd fine))/\(W.cell? ⟨kx,0,none⟩=some (za ag n2 ai)/\W.cell? ⟨kx,1,none⟩=some (za (some ⟨gx,0,none⟩) l2 aj)))):=fun W hW=>⟨za7 (S7.X.below hW).q.c,za1 (za0 hW (za2 HX.X) HX.X)⟩
         go_wp2_with fail
         refine qG (S:=(fun W=>((W.cell? ⟨w.heap.size,0,none⟩=some (ze zd n)/\W.cell? ⟨w.heap.size,1,none⟩=some (za a zl ac)/\W.cell? ⟨w.heap.size,2,none⟩=some (za ao ko co)/\W.cell? ⟨w.heap.size,3,none⟩=some (za (some ⟨bv,ov,none⟩) kv cv)/\W.cell? ⟨w.heap.size,4,none⟩=some (ze zd fine))/\(W.cell? ⟨kx,0,none⟩=some (za ag n2 ai)/\W.cell? ⟨kx,1,none⟩=some (za (some ⟨gx,0,none⟩) l2 aj))))) (by kernel_rfl) ?_ fun aa=> ?_
         ·exact KS.X _ (y5 _ _).drew
         have eS:Hid (Below w6.heap.size w6 w6.drew):=(y5 _ _).drew;generalize w6.drew=wd at*;refine tkH 0 aa ?_;refine tkH 1 aa ?_;refine tkH 2 aa ?_;refine xQ (rs:=[3,8]) (by kernel_rfl) (by simp) ?_;refine xL rfl (fun K hK=> ?_) ?_
         ·skip
          go_simp;refine(ST.X.grd i wd ag (w.heap.size+3) gx n2 ai l2 aj R2 hF (S7.X.q.b.trans (eS.X.mono S7.X.q.b.size)) (X7.X.below eS.X) fS.X.1 fS.X.2 KX.X).mono ?_;rintro e w8 ⟨bL,n3,bV,g3,l3,bX,R3,rfl,hb,pQ,w_,iH,mw⟩;have ez:=za4 (eS.X.trans (hb.mono eS.X.size));have oX:=za4 (mw.is pQ w_);have KG:=za4 iH;clear hb pQ w_ iH mw
          (try go_wp2_with fail)
          refine hoW hK (KS.X _ ez.X) fun aa=> ?_;clear hK K;refine xQ (rs:=[4,8]) (by kernel_rfl) (by simp) ?_;refine xL rfl (fun K hK=> ?_) ?_
          ·skip
           go_simp;refine(ST.X.desc i w8 bL (some ⟨g3,0,none⟩) n3 bV l3 bX R3 hF (S7.X.q.b.trans (ez.X.mono S7.X.q.b.size)) oX.X KG.X).mono ?_;rintro e w9 ⟨bk,n4,bI,bZ,l4,bQ,R4,rfl,hb,gJ,gW,eM,gK⟩;have gC:=za4 (ez.X.trans (hb.mono ez.X.size));have mR:=za4 (gK.base ez.X.size);have HY:Hid (R4.length=n4/\(YM i).length=l4/\R4.map RT.key=(YR i).map RT.key):=⟨gJ,gW,eM⟩;clear hb gJ gW eM gK
           (try go_wp2_with fail)
           refine hoW hK (KS.X _ gC.X) fun aa=> ?_;clear hK K;refine tkH 5 aa ?_;refine tkH 6 aa ?_;refine tkH 7 aa ?_;refine rdH 8 fun K hK=> ?_;have eG:=za4 (gC.X.trans (((y5 w9.heap.size w9).alloc (zT _) (zg #[za none 0 0,za none 0 0] 33)).mono gC.X.size));have aw:=za4 (zS w9 (zg #[za none 0 0,za none 0 0] 33));have aH:Hid (w6.heap.size<=w9.heap.size):=gC.X.size;have FE:=za4 (mR.X.below ((y5 w9.heap.size w9).alloc (zT _) (zg #[za none 0 0,za none 0 0] 33)));go_simp;refine hoW hK (KS.X _ eG.X) fun aa=> ?_;clear hK K;obtain⟨ky,cC⟩:=nmd w9.heap.size;rw[cC.X]at aw aH⊢;generalize(w9.alloc _)=wz at*;obtain⟨z0,z1⟩:=za1 aw.X;have zf:=fun i=>yZ _ _ i _ _ aw.X;refine rdH 9 fun K hK=> ?_;have V9:Hid (((wz.setCell ⟨ky,0,none⟩ (za bk n4 bI)).setCell ⟨ky,1,none⟩ (za bZ l4 bQ)).heap[ky]? =some (zg #[za bk n4 bI,za bZ l4 bQ] 33 (0,0))):=zi5 aw.X;have B9:Hid (Below w6.heap.size w6 ((wz.setCell ⟨ky,0,none⟩ (za bk n4 bI)).setCell ⟨ky,1,none⟩ (za bZ l4 bQ))):=(eG.X.setCell aH.X _).setCell aH.X _;have P9:=za4 (FE.X.box2 aw.X);go_simp;refine hoW hK (KS.X _ B9.X) fun aa=> ?_;clear hK K;generalize((wz.setCell ⟨ky,0,none⟩ _).setCell ⟨ky,1,none⟩ _)=w7 at*;refine tkH 10 aa ?_;refine qF (by kernel_rfl) ?_ _;clear aa
           (try go_wp2_with fail)
           go_meet;exact⟨ky,bk,bZ,n4,bI,l4,bQ,R4,rfl,B9.X,aH.X,V9.X,P9.X,HY.X⟩
          refine xL rfl (fun K hK=> ?_) xP;have eG:=za4 (ez.X.trans (((y5 w8.heap.size w8).alloc (zT _) (zg #[za none 0 0,za none 0 0] 33)).mono ez.X.size));have aw:=za4 (zS w8 (zg #[za none 0 0,za none 0 0] 33));have aH:Hid (w6.heap.size<=w8.heap.size):=ez.X.size;have eK:=za4 (oX.X.below ((y5 w8.heap.size w8).alloc (zT _) (zg #[za none 0 0,za none 0 0] 33)));go_simp;refine hoW hK (KS.X _ eG.X) fun aa=> ?_;clear hK K;obtain⟨ky,cC⟩:=nmd w8.heap.size;rw[cC.X]at aw aH⊢;generalize(w8.alloc _)=wz at*;obtain⟨z0,z1⟩:=za1 aw.X;have zf:=fun i=>yZ _ _ i _ _ aw.X;refine rdH 4 fun K hK=> ?_;go_simp;refine(ST.X.desc i wz bL (some ⟨g3,0,none⟩) n3 bV l3 bX R3 hF (S7.X.q.b.trans (eG.X.mono S7.X.q.b.size)) eK.X KG.X).mono ?_;rintro e w9 ⟨bk,n4,bI,bZ,l4,bQ,R4,rfl,hb,gJ,gW,eM,gK⟩;have gC:=za4 (eG.X.trans (hb.mono eG.X.size));have mR:=za4 (gK.base eG.X.size);have HY:Hid (R4.length=n4/\(YM i).length=l4/\R4.map RT.key=(YR i).map RT.key):=⟨gJ,gW,eM⟩;have ex:=za4 (za0 hb (za2 aw.X) aw.X);obtain⟨z0,z1⟩:=za1 ex.X;have zf:=fun i=>yZ _ _ i _ _ ex.X;clear hb gJ gW eM gK
          (try go_wp2_with fail)
          refine hoW hK (KS.X _ gC.X) fun aa=> ?_;clear hK K;refine tkH 5 aa ?_;refine tkH 6 aa ?_;refine tkH 7 aa ?_;refine rdH 9 fun K hK=> ?_;have V9:Hid (((w9.setCell ⟨ky,0,none⟩ (za bk n4 bI)).setCell ⟨ky,1,none⟩ (za bZ l4 bQ)).heap[ky]? =some (zg #[za bk n4 bI,za bZ l4 bQ] 33 (0,0))):=zi5 ex.X;have B9:Hid (Below w6.heap.size w6 ((w9.setCell ⟨ky,0,none⟩ (za bk n4 bI)).setCell ⟨ky,1,none⟩ (za bZ l4 bQ))):=(gC.X.setCell aH.X _).setCell aH.X _;have P9:=za4 (mR.X.box2 ex.X);go_simp;refine hoW hK (KS.X _ B9.X) fun aa=> ?_;clear hK K;generalize((w9.setCell ⟨ky,0,none⟩ _).setCell ⟨ky,1,none⟩ _)=w7 at*;refine tkH 10 aa ?_;refine qF (by kernel_rfl) ?_ _;clear aa
          (try go_wp2_with fail)
          go_meet;exact⟨ky,bk,bZ,n4,bI,l4,bQ,R4,rfl,B9.X,aH.X,V9.X,P9.X,HY.X⟩
         refine xL rfl (fun K hK=> ?_) xP;have eG:=za4 (eS.X.trans (((y5 wd.heap.size wd).alloc (zT _) (zg #[za none 0 0,za none 0 0] 33)).mono eS.X.size));have aw:=za4 (zS wd (zg #[za none 0 0,za none 0 0] 33));have aH:Hid (w6.heap.size<=wd.heap.size):=eS.X.size;go_simp;refine hoW hK (KS.X _ eG.X) fun aa=> ?_;clear hK K;obtain⟨ky,cC⟩:=nmd wd.heap.size;rw[cC.X]at aw aH⊢;generalize(wd.alloc _)=wz at*;obtain⟨z0,z1⟩:=za1 aw.X;have zf:=fun i=>yZ _ _ i _ _ aw.X;refine rdH 3 fun K hK=> ?_;go_simp;refine(ST.X.grd i wz ag (w.heap.size+3) gx n2 ai l2 aj R2 hF (S7.X.q.b.trans (eG.X.mono S7.X.q.b.size)) (X7.X.below eG.X) fS.X.1 fS.X.2 KX.X).mono ?_;rintro e w8 ⟨bL,n3,bV,g3,l3,bX,R3,rfl,hb,pQ,w_,iH,mw⟩;have ez:=za4 (eG.X.trans (hb.mono eG.X.size));have oX:=za4 (mw.is pQ w_);have KG:=za4 iH;have kM:=za4 (za0 hb (za2 aw.X) aw.X);obtain⟨z0,z1⟩:=za1 kM.X;have zf:=fun i=>yZ _ _ i _ _ kM.X;clear hb pQ w_ iH mw
         (try go_wp2_with fail)
         refine hoW hK (KS.X _ ez.X) fun aa=> ?_;clear hK K;refine rdH 4 fun K hK=> ?_;go_simp;refine(ST.X.desc i w8 bL (some ⟨g3,0,none⟩) n3 bV l3 bX R3 hF (S7.X.q.b.trans (ez.X.mono S7.X.q.b.size)) oX.X KG.X).mono ?_;rintro e w9 ⟨bk,n4,bI,bZ,l4,bQ,R4,rfl,hb,gJ,gW,eM,gK⟩;have gC:=za4 (ez.X.trans (hb.mono ez.X.size));have mR:=za4 (gK.base ez.X.size);have HY:Hid (R4.length=n4/\(YM i).length=l4/\R4.map RT.key=(YR i).map RT.key):=⟨gJ,gW,eM⟩;have ex:=za4 (za0 hb (za2 kM.X) kM.X);obtain⟨z0,z1⟩:=za1 ex.X;have zf:=fun i=>yZ _ _ i _ _ ex.X;clear hb gJ gW eM gK
         (try go_wp2_with fail)
         refine hoW hK (KS.X _ gC.X) fun aa=> ?_;clear hK K;refine tkH 5 aa ?_;refine tkH 6 aa ?_;refine tkH 7 aa ?_;refine rdH 9 fun K hK=> ?_;have V9:Hid (((w9.setCell ⟨ky,0,none⟩ (za bk n4 bI)).setCell ⟨ky,1,none⟩ (za bZ l4 bQ)).heap[ky]? =some (zg #[za bk n4 bI,za bZ l4 bQ] 33 (0,0))):=zi5 ex.X;have B9:Hid (Below w6.heap.size w6 ((w9.setCell ⟨ky,0,none⟩ (za bk n4 bI)).setCell ⟨ky,1,none⟩ (za bZ l4 bQ))):=(gC.X.setCell aH.X _).setCell aH.X _;have P9:=za4 (mR.X.box2 ex.X);go_simp;refine hoW hK (KS.X _ B9.X) fun aa=> ?_;clear hK K;generalize((w9.setCell ⟨ky,0,none⟩ _).setCell ⟨ky,1,none⟩ _)=w7 at*;refine tkH 10 aa ?_;refine qF (by kernel_rfl) ?_ _;clear aa
         (try go_wp2_with fail)
         go_meet;exact⟨ky,bk,bZ,n4,bI,l4,bQ,R4,rfl,B9.X,aH.X,V9.X,P9.X,HY.X⟩
        case rest=>
         obtain⟨ky,bk,bZ,n4,bI,l4,bQ,R4,rfl,hb,k_,hv,gK,gJ,gW,eM⟩:=hcut;have S8:=za4 (S7.X.below hb);have V8:=za4 hv;have Y8:=za4 (gK.base S7.X.q.size);have KY:=za4 eM;have OY:Hid (Off z9 bk bZ R4):=gK.off gJ gW S7.X.zz.2;clear hb hv gK eM S7 X7 KX HX fS;obtain⟨wb,Ls⟩:∃v,v=wc:=⟨_,rfl⟩;subst Ls;go_upto_region 12 with fail;go_cut [72]from 66 to 72 (fun NG wx=>NG=.bool (decide (YC i<C i))/\Below wb.heap.size wb wx)
         case first=>
          have KS:Hid (∀W,Below wb.heap.size wb W->((W.cell? ⟨w.heap.size,0,none⟩=some (ze zd n)/\W.cell? ⟨w.heap.size,1,none⟩=some (za a zl ac)/\W.cell? ⟨w.heap.size,2,none⟩=some (za ao ko co)/\W.cell? ⟨w.heap.size,3,none⟩=some (za (some ⟨bv,ov,none⟩) kv cv)/\W.cell? ⟨w.heap.size,4,none⟩=some (ze zd fine))/\(W.cell? ⟨ky,0,none⟩=some (za bk n4 bI)/\W.cell? ⟨ky,1,none⟩=some (za bZ l4 bQ))/\(W.cell? ⟨kn,0,none⟩=some (za aN bK be)/\W.cell? ⟨kn,1,none⟩=some (za cS bq dN)))):=fun W hW=>⟨za7 (S8.X.below hW).q.c,za1 (za0 hW (za2 V8.X) V8.X),za1 (S8.X.below hW).n⟩
          go_wp2_with fail
          refine qG (S:=(fun W=>((W.cell? ⟨w.heap.size,0,none⟩=some (ze zd n)/\W.cell? ⟨w.heap.size,1,none⟩=some (za a zl ac)/\W.cell? ⟨w.heap.size,2,none⟩=some (za ao ko co)/\W.cell? ⟨w.heap.size,3,none⟩=some (za (some ⟨bv,ov,none⟩) kv cv)/\W.cell? ⟨w.heap.size,4,none⟩=some (ze zd fine))/\(W.cell? ⟨ky,0,none⟩=some (za bk n4 bI)/\W.cell? ⟨ky,1,none⟩=some (za bZ l4 bQ))/\(W.cell? ⟨kn,0,none⟩=some (za aN bK be)/\W.cell? ⟨kn,1,none⟩=some (za cS bq dN))))) (by kernel_rfl) ?_ fun aa=> ?_
          ·exact KS.X _ (y5 _ _).drew
          have eS:Hid (Below wb.heap.size wb wb.drew):=(y5 _ _).drew;generalize wb.drew=wd at*;refine tkH 0 aa ?_;refine tkH 1 aa ?_;refine tkH 3 aa ?_;refine tkH 4 aa ?_;refine rdH 2 fun K hK=> ?_;go_simp;refine(ST.X.costY i wd bk bZ n4 bI l4 bQ R4 hF (S8.X.q.b.trans (eS.X.mono S8.X.q.b.size)) ((Y8.X.below eS.X).is gJ gW) KY.X).mono ?_;rintro e NR ⟨rfl,hb⟩;have iS:=za4 (eS.X.trans (hb.mono eS.X.size));clear hb
          (try go_wp2_with fail)
          refine hoW hK (KS.X _ iS.X) fun aa=> ?_;clear hK K;refine rdH 5 fun K hK=> ?_;go_simp;refine(ST.X.cost i NR aN cS bK be bq dN R9 (S8.X.q.b.trans (iS.X.mono S8.X.q.b.size)) ((S8.X.below iS.X).p.is S8.X.hn S8.X.hl) K5.X).mono ?_;rintro e MH ⟨rfl,hb⟩;have nW:=za4 (iS.X.trans (hb.mono iS.X.size));clear hb
          (try go_wp2_with fail)
          refine hoW hK (KS.X _ nW.X) fun aa=> ?_;clear hK K;refine tkH 6 aa ?_;refine qF (by kernel_rfl) ?_ _;clear aa
          (try go_wp2_with fail)
          go_meet;exact⟨rfl,nW.X⟩
         case rest=>
          obtain⟨rfl,hb⟩:=hcut;have S9:=za4 (S8.X.below hb);have V9:=za0 hb (za2 V8.X) V8.X;have Y9:=Y8.X.below hb;clear hb S8 V8 Y8;by_cases hyc:YC i<C i
          ·obtain⟨e1,e2,e3⟩:=ST.X.yes i hF hyc
           have SZ:=za4 (S9.X.take HZ.X.1 Y9 gJ gW OY.X);have dy:decide (YC i<C i)=true:=zW hyc;obtain⟨z0,z1⟩:=za1 V9;obtain⟨n0,n1⟩:=za1 S9.X.n;have nf:=fun i=>yZ _ _ i _ _ S9.X.n
           go_wp2_with fail
           go_meet;rw[e1,e2];exact⟨_,_,_,_,_,_,_,SZ.X,KY.X⟩
          ·obtain⟨e1,e2,e3⟩:=ST.X.no i (fun _=>hyc)
           have dn:decide (YC i<C i)=false:=zX hyc
           go_wp2_with fail
           go_meet;rw[e1,e2];exact⟨_,_,_,_,_,_,_,S9.X,K5.X⟩
      case rest=>
       clear S7 X7 KX HX fS fH K5;obtain⟨bk,bZ,Df,bI,Cj,bQ,R4,hq,hk⟩:=hcut;have S8:=za4 hq;have K8:=za4 hk;clear hq hk;have CN:=ST.X.cost (i+1) wc bk bZ Df bI Cj bQ R4 S8.X.q.b (S8.X.p.is S8.X.hn S8.X.hl) K8.X;obtain⟨c0,c1,c2,c3,c4⟩:=za7 S8.X.q.c;obtain⟨n0,n1⟩:=za1 S8.X.n
       go_wp2_with fail
       refine CN.mono ?_;rintro e w9 ⟨rfl,hb⟩;have S9:=za4 (S8.X.below hb);have hA:Below w9.heap.size w9 (w9.alloc (zg #[ze zd (C (i+1))] 2)):=zP _;have Rd:kn<w9.heap.size:=za2 S9.X.n;clear hb CN c0 c1 c2 c3 c4 n0 n1 S8
       go_wp2_with(
        at_builtin;refine zc9 _ rfl (.tmp 74) (.tmp 78) rfl (kn+1) (za (some ⟨z9,0,none⟩) (i+1) c9) (i+1) (T i) rfl (S9.X.t.alloc _) w9.heap.size 0 1 1 [C (i+1)] rfl rfl (ze2 w9 (C (i+1))) (by omega) (by omega) (by simp;omega) ?_;intro v' w8 ae hg hv aW;obtain⟨z8,c8,tJ,hs⟩:=(S9.X.below hA).app HZ.X.1 hg ae hv;subst tJ;have NW:=za4 hs;clear ae hg hv aW hs)
       go_roundw
       case rel=>exact⟨i+1,bk,bZ,Df,bI,Cj,bQ,z8,c8,R4,by omega,by first|rfl|go_num,rfl,rfl,by rw[TS.X];exact NW.X,K8.X⟩
       case measure=>simp[intOf];omega
     ·have pK:i=N:=by omega
      subst pK;clear ah;obtain⟨n0,n1⟩:=za1 S5.X.n;obtain⟨a0,a1⟩:=za1 S5.X.q.o;have af:=fun i=>yZ _ _ i _ _ S5.X.q.o;have hz:=S5.X.zz;have iH:=gP.X;have aq:(za (some ⟨z9,0,none⟩) (i+1) c9).ownBlock≠some (w.heap.size+2):=SeQ.ne (by omega);have P7:=za4 (S5.X.p.box2 (u:=za aN bK be) (v:=za cS bq dN) S5.X.q.o);have B7:Hid (Below w.heap.size w ((wr.setCell ⟨w.heap.size+2,0,none⟩ (za aN bK be)).setCell ⟨w.heap.size+2,1,none⟩ (za cS bq dN))):=(S5.X.q.b.setCell (by simp) _).setCell (by simp) _;have O7:=za4 (zf1 (zf1 S5.X.t 0 (za aN bK be) aq) 1 (za cS bq dN) aq);clear aq;go_wp2;refine xe (v:=.tuple #[.agg #[za aN bK be,za cS bq dN],za (some ⟨z9,0,none⟩) (i+1) c9,.bool true]) (by simp[results,Tryz.results8,go_sem,a0,a1]) rfl ?_;exact⟨aN,bK,be,cS,bq,dN,R9,_,rfl,B7.X,S5.X.hn,S5.X.hl,K5.X,P7.X.base (by omega),by rw[TL.X];exact zb5 O7.X (by omega)⟩
 ·have tI:(pv !=0)=true:=by simp[du]
  obtain⟨a0,a1⟩:=za1 Q1.X.o;have af:=fun i=>yZ _ _ i _ _ Q1.X.o;rw[zX du,jj]at d7;have mK:GB=false:=by rw[d7.X];try rfl
  subst mK;obtain⟨g2,g3,g4⟩:=bz.X rfl;subst g2 g3 g4;clear bz fq;have B5:Hid (Below w.heap.size w ((w1.setCell ⟨w.heap.size+2,0,none⟩ (za none 0 0)).setCell ⟨w.heap.size+2,1,none⟩ (za none 0 0))):=(Q1.X.b.setCell (by simp) _).setCell (by simp) _
  go_wp2_with(go_at_call 39;refine(zc0 _ _ _ _).mono ?_;rintro e w' ⟨rfl,dx⟩;subst w';first|rw[dh.X]|rw[eb.X])
  refine xe (v:=.tuple #[.agg #[za none 0 0,za none 0 0],za none 0 0,.bool false]) (by simp[results,Tryz.results8,go_sem,a0,a1]) rfl ?_;exact⟨none,0,0,none,0,0,[],za none 0 0,rfl,B5.X,rfl,rfl,rfl,⟨xZ _ _ _ _,(fun s hs=>by cases hs),xZ _ _ _ _⟩,xZ _ _ _ _⟩
theorem z85(a:Option Addr)(c dH:Nat)(w:zi)(hl:dH<=9223372036854775807)(h:1048576<dH):
 Calls zh 3 #[za a dH c] w fun e w'=>e=.returned (.bool true)/\Below w.heap.size w w':=by
 have hd:decide (1048576<dH)=true:=zW h;go_enter Tryz.func3,Tryz.ntmps3
 go_wp2_with(go_at_call 5;refine(y15 a c dH w hl).mono ?_;rintro e w1 ⟨rfl,iU⟩;subst w1;rw[hd])
 go_ret;exact⟨rfl,y5 _ _⟩
theorem z24(a:Option Addr)(ca:Nat)(bs:List Int)(w:zi)(hA:zM8 w a bs)(hl:bs.length<=1048576):
 Calls zh 3 #[za a bs.length ca] w fun e w'=>e=.returned (.bool true)/\Below w.heap.size w w':=by
 have HA:=za4 hA;clear hA;have hd:decide (1048576<bs.length)=false:=zX (by omega);go_enter Tryz.func3,Tryz.ntmps3
 go_wp2_with fail
 refine(y15 a ca bs.length w (by omega)).mono ?_;rintro e w1 ⟨rfl,iU⟩;subst w1;rw[hd];clear hd
 go_wp2_with fail
 refine(zK5 a ca bs w HA.X hl).mono ?_;rintro e w1 ⟨n,g,zl,cg,go,ko,co,gv,kv,cv,zs,O,V,fi,rs,ls,R,L,sd,st,rfl,⟨hz,hO,hV,Ps,PH,Oo,Ll⟩,⟨Fs,Ij,Ec,Aw⟩,hb,iz,io,iv,da⟩;obtain⟨N,NV⟩:∃v,Hid (bs.length=v):=⟨_,rfl⟩;rw[NV.X]at hl⊢;obtain⟨ra,rc,e⟩:=zp0 da.r;subst e;obtain⟨la,lc,e⟩:=zp0 da.l;subst e;obtain⟨nr,cY⟩:∃v,Hid (R.length=v):=⟨_,rfl⟩;obtain⟨m,HM⟩:∃v,Hid (L.length=v):=⟨_,rfl⟩;have HZ:=za4 hz;have HO:=za4 hO;have HV:=za4 hV;have bA:Hid (∀r∈R,r.ids.length<=r.c):=fun r hr=>(da.ints r hr).2;have eR:=za4 Ij;have iP:Hid ((zb0 R R.length).length<=1048576):=xj (zD3 Ij _ (zT _)) (by omega);have kO:Hid (∀x∈L,(zC zd x).wf=true):=y46 Aw;rw[cY.X,HM.X]at da;rw[cY.X]at Fs⊢;rw[HM.X]at Ec⊢;have fe:Hid _:=(yj0 da cY.X HM.X).1;have fd:Hid _:=(yj0 da cY.X HM.X).2;have K1:Hid (LP w ((w1.alloc (zg #[ze zd n,za (some ⟨g,0,none⟩) zl cg,za (some ⟨go,0,none⟩) ko co,za (some ⟨gv,0,none⟩) kv cv,ze zd fi] 30)).alloc (zg #[za ra nr rc,za la m lc] 33)) w1.heap.size (w1.heap.size+1) #[ze zd n,za (some ⟨g,0,none⟩) zl cg,za (some ⟨go,0,none⟩) ko co,za (some ⟨gv,0,none⟩) kv cv,ze zd fi] ra nr rc la m lc g go gv zs O V R L):=by
  have ha:Below w1.heap.size w1 ((w1.alloc (zg #[ze zd n,za (some ⟨g,0,none⟩) zl cg,za (some ⟨go,0,none⟩) ko co,za (some ⟨gv,0,none⟩) kv cv,ze zd fi] 30)).alloc (zg #[za ra nr rc,za la m lc] 33)):=(zP _).alloc (by simp) _;exact⟨hb.trans (ha.mono hb.size),xm _ _ _,xh _ _ _,iz.below ha,io.below ha,iv.below ha,(zG2 da cY.X).below ha,(yA1 da HM.X).below ha⟩
 clear hz hO hV hb iz io iv da Ij Aw;have dp:=yH7 sd st n fi zs O V ko kv R L;have Hw:=yD5 (sd:=sd) (st:=st) (n:=n) (fine:=fi) (zs:=zs) (os:=O) (vs:=V) (ko:=ko) (kv:=kv) (R:=R) (L:=L);have FI:Hid (sgB sd st n fi zs O V ko kv R L=true->_):=fun h=>yG3 h;have Lb:Hid (∀W k kp,LP w W k kp #[ze zd n,za (some ⟨g,0,none⟩) zl cg,za (some ⟨go,0,none⟩) ko co,za (some ⟨gv,0,none⟩) kv cv,ze zd fi] ra nr rc la m lc g go gv zs O V R L->zc3 W ra la nr m R L):=fun W k kp h=>⟨cY.X,HM.X,h.r,h.l,fe.X,fd.X,bA.X⟩;have Kn:Hid (∀r∈R,r.ids.length<=1048576):=fun r hr=>by have:=eR.X r hr;omega
 have FQ:Hid (∀(s9:Int) W k kp,LP w W k kp #[ze zd n,za (some ⟨g,0,none⟩) zl cg,za (some ⟨go,0,none⟩) ko co,za (some ⟨gv,0,none⟩) kv cv,ze zd fi] ra nr rc la m lc g go gv zs O V R L->Calls zh 7 #[.agg #[ze zd n,za (some ⟨g,0,none⟩) zl cg,za (some ⟨go,0,none⟩) ko co,za (some ⟨gv,0,none⟩) kv cv,ze zd fi],.agg #[za ra nr rc,za la m lc],ze zd sd,ze zd s9] W (zL2 W (sgB sd s9 n fi zs O V ko kv R L) (sgT sd s9 n fi zs O V ko kv R L) (sgR sd s9 n fi zs O V ko kv R L) (sgL sd s9 n fi zs O V ko kv R L))):=fun s9 W k kp h=>
  zB7 sd s9 n fi _ _ _ ra la zl cg ko co kv cv nr rc m lc zs O V L R W h.iz h.io h.iv HZ.X HO.X HV.X (by omega) (by omega) (Lb.X W k kp h) (by omega) Kn.X (by omega) iP.X kO.X
 have Hs:Hid (∀W k kp,LP w W k kp #[ze zd n,za (some ⟨g,0,none⟩) zl cg,za (some ⟨go,0,none⟩) ko co,za (some ⟨gv,0,none⟩) kv cv,ze zd fi] ra nr rc la m lc g go gv zs O V R L->Calls zh 8 #[.agg #[ze zd n,za (some ⟨g,0,none⟩) zl cg,za (some ⟨go,0,none⟩) ko co,za (some ⟨gv,0,none⟩) kv cv,ze zd fi],.agg #[za ra nr rc,za la m lc],ze zd sd,ze zd st] W (y10 W (sgB sd st n fi zs O V ko kv R L) (sgT sd st n fi zs O V ko kv R L) (sgR sd st n fi zs O V ko kv R L) (sgL sd st n fi zs O V ko kv R L))):=fun W k kp h=>
  zB6 sd st n fi _ _ ra la zl cg ko co gv 0 kv cv nr rc m lc zs O V L R W h.iz h.io h.iv HZ.X HO.X HV.X (by omega) (by omega) (Lb.X W k kp h) (by omega) Kn.X (by omega) iP.X
 have JF:Hid (∀(ag ak:Option Addr) (ai aj:Nat) (R2:List RT) (L2:List Int) W k kp,LP w W k kp #[ze zd n,za (some ⟨g,0,none⟩) zl cg,za (some ⟨go,0,none⟩) ko co,za (some ⟨gv,0,none⟩) kv cv,ze zd fi] ra nr rc la m lc g go gv zs O V R L->za9 W ag R2->za3 W ak L2->R2.length<=500->(∀r∈R2,r.ids.length<=12/\r.ids.length<=r.c)->L2.length<=500->(∀x∈L2,(zC zd x).wf=true)->Calls zh 12 #[.agg #[ze zd n,za (some ⟨g,0,none⟩) zl cg,za (some ⟨go,0,none⟩) ko co,za (some ⟨gv,0,none⟩) kv cv,ze zd fi],.agg #[za ag R2.length ai,za ak L2.length aj]] W fun e w'=>e=.returned (ze zd (zc1 n zs O V ko kv fi R2 L2))/\Below W.heap.size W w'):=fun ag ak ai aj R2 L2 W k kp h h1 h2 h3 h4 h5 h6=>by
  have h9:=zD3 (fun r hr=>(h4 r hr).1) R2.length (zT _);have:=zw8 n fi _ _ _ ag ak cg ko co kv cv ai aj zs O V L2 R2 W h.iz h.io h.iv h1 h2 HO.X HV.X (by omega) (by omega) (by omega) (fun r hr=>by have:=(h4 r hr).1;omega) (fun r hr=>(h4 r hr).2) (by omega) (by omega) h6;rw[HZ.X]at this;exact this
 have EB:Hid (∀(ag ak:Option Addr) (ai aj:Nat) (R2:List RT) (L2:List Int) W k kp,LP w W k kp #[ze zd n,za (some ⟨g,0,none⟩) zl cg,za (some ⟨go,0,none⟩) ko co,za (some ⟨gv,0,none⟩) kv cv,ze zd fi] ra nr rc la m lc g go gv zs O V R L->za9 W ag R2->za3 W ak L2->R2.length<=500->(∀r∈R2,r.ids.length<=12/\r.ids.length<=r.c)->L2.length<=500->(∀x∈L2,(zC zd x).wf=true)->Calls zh 11 #[.agg #[ze zd n,za (some ⟨g,0,none⟩) zl cg,za (some ⟨go,0,none⟩) ko co,za (some ⟨gv,0,none⟩) kv cv,ze zd fi],.agg #[za ag R2.length ai,za ak L2.length aj]] W fun e w'=>e=.returned (ze zd (zp1 n zs O V ko kv fi R2 L2))/\Below W.heap.size W w'):=fun ag ak ai aj R2 L2 W k kp h h1 h2 h3 h4 h5 h6=>by
  have h9:=zD3 (fun r hr=>(h4 r hr).1) R2.length (zT _);have:=zC4 n fi _ _ _ ag ak cg ko co kv cv ai aj zs O V L2 R2 W h.iz h.io h.iv h1 h2 HO.X HV.X (by omega) (by omega) (by omega) (fun r hr=>by have:=(h4 r hr).1;omega) (fun r hr=>(h4 r hr).2) (by omega) (by omega) h6;rw[HZ.X]at this;exact this
 obtain⟨GB,dJ⟩:=nmd (sgB sd st n fi zs O V ko kv R L);obtain⟨GT,kN⟩:=nmd (sgT sd st n fi zs O V ko kv R L);obtain⟨GR,cE⟩:=nmd (sgR sd st n fi zs O V ko kv R L);obtain⟨GL,db⟩:=nmd (sgL sd st n fi zs O V ko kv R L);obtain⟨nt,vO⟩:=nmd GT.length;rw[cE.X,db.X]at dp;rw[kN.X,vO.X]at Hw;rw[dJ.X,kN.X,cE.X,db.X]at FI;have dG:=hdn dp;clear dp;have EI:=FQ.X st _ _ _ K1.X;rw[dJ.X,kN.X,cE.X,db.X]at Hs;rw[dJ.X,kN.X,cE.X,db.X]at EI;clear dJ kN cE db;obtain⟨d0,d1,d2,d3,d4⟩:=zc6 K1.X.b1;obtain⟨p0,p1⟩:=za1 K1.X.b2
 go_wp2_with fail
 generalize(w1.alloc _).alloc _=W1 at*;obtain⟨k,HK⟩:=nmd w1.heap.size;obtain⟨kp,A8⟩:=nmd (w1.heap.size+1);rw[A8.X]at K1 p0 p1⊢;rw[HK.X]at K1 d0 d1 d2 d3 d4⊢;refine EI.mono ?_;rintro e w2 ⟨qa,qn,qc,qk,ql,qd,SG,tv,b0,rfl,hb,rB,gz,k_,-,da,-,gj,-⟩;obtain⟨ta,tc,e⟩:=zh0 gj;subst e;have Gl:=hdn gj;rw[vO.X]at gj Gl⊢;have nk:=hdn rB;have od:=hdn gz;have pu:=hdn k_;have uG:Hid (∀r∈SG,r.ids.length<=12/\r.ids.length<=r.c):=fun r hr=>⟨(z12 k_ dG.X.1 r hr).2,(da.ints r hr).2⟩;have Jl:qn<=500:=by have h1:=dG.X.2.1;have h2:=congrArg zo k_;simp only[qz]at h2;omega
 have uQ:ql<=500:=by have h1:=dG.X.2.2;omega
 have hA:Below w2.heap.size w2 (w2.alloc (zg #[za qa qn qc,za qk ql qd] 33)):=zP _;have K3:=hdn ((K1.X.below hb).below hA);have Q3:=hdn (LQ.new da rB gz);have T3:=hdn ((ze8 gj).below hA);clear hb rB gz k_ da gj hA K1 d0 d1 d2 d3 d4 p0 p1 EI;obtain⟨d0,d1,d2,d3,d4⟩:=zc6 K3.X.b1;obtain⟨p0,p1⟩:=za1 K3.X.b2
 go_wp2_with fail
 generalize w2.alloc _=W3 at*;obtain⟨kq,lI⟩:=nmd w2.heap.size;rw[lI.X]at Q3⊢;refine(Hs.X _ _ _ K3.X).mono ?_;rintro e w4 ⟨xa,xn,xc,xk,xl,xd,SW,xv,rfl,hb,rB,gz,k_,da,gj⟩;have e1:qn=xn:=by rw[<-nk.X,<-rB];have:=congrArg zo (pu.X.trans k_.symm);simpa using this
 have e2:ql=xl:=od.X.symm.trans gz;subst e1 e2;obtain⟨xt,JV,e⟩:=zh0 gj;subst e;rw[vO.X]at gj⊢;have ES:=hdn (k_.trans pu.X.symm);have hA:Below w4.heap.size w4 (w4.alloc (zg #[za xa qn xc,za xk ql xd] 33)):=zP _;have uK:=hb.trans (hA.mono hb.size);have K5:=hdn (K3.X.below uK);have Q5:=hdn (Q3.X.below uK);have T5:=hdn (T3.X.below uK);have X5:=hdn (LQ.new da rB gz);have U5:=hdn ((ze8 gj).below hA);clear hb rB gz k_ da gj hA uK K3 Q3 T3 d0 d1 d2 d3 d4 p0 p1 Hs;have FV:Hid (∀W,za3 W ta GT->za3 W xt GT->Calls zh 9 #[za ta nt tc,za xt nt JV] W fun e w'=>e=.returned (.bool true)/\Below W.heap.size W w'):=fun W h1 h2=>by
  have:=zr4 ta xt tc JV GT GT W h1 h2 (by have:=vO.X;omega);rw[vO.X,zW rfl]at this;exact this
 have uB:Hid (∀W,za9 W qa SG->za9 W xa SW->za3 W qk GL->za3 W xk GL->Calls zh 10 #[.agg #[za qa qn qc,za qk ql qd],.agg #[za xa qn xc,za xk ql xd]] W fun e w'=>e=.returned (.bool true)/\Below W.heap.size W w'):=fun W h1 h2 h3 h4=>zO6 qa xa qk xk qc xc qn qd xd ql SG SW GL W h1 h2 ES.X nk.X (by omega) (fun r hr=>by have:=(uG.X r hr).1;omega) h3 h4 od.X (by omega)
 have NU:(GB !=GB)=false:=by simp
 have Mt:(GB==GB)=true:=by simp
 obtain⟨kw,JX⟩:=nmd w4.heap.size;rw[JX.X]at X5;obtain⟨q0,q1⟩:=za1 Q5.X.b;obtain⟨x0,x1⟩:=za1 X5.X.b
 go_wp2_with fail
 generalize w4.alloc _=W5 at*;rw[JX.X];refine(FV.X W5 T5.X U5.X).mono ?_;rintro e w6 ⟨rfl,hb⟩;have K6:=hdn (K5.X.below hb);have Q6:=hdn (Q5.X.below hb);have T6:=hdn (T5.X.below hb);have X6:=hdn (X5.X.below hb);have U6:=hdn (U5.X.below hb);clear hb K5 Q5 T5 X5 U5 q0 q1 x0 x1;obtain⟨q0,q1⟩:=za1 Q6.X.b;obtain⟨x0,x1⟩:=za1 X6.X.b
 go_wp2_with fail
 refine(uB.X w6 Q6.X.r X6.X.r Q6.X.l X6.X.l).mono ?_;rintro e w7 ⟨rfl,hb⟩;have K7:=hdn (K6.X.below hb);have Q7:=hdn (Q6.X.below hb);have T7:=hdn (T6.X.below hb);have X7:=hdn (X6.X.below hb);have U7:=hdn (U6.X.below hb);clear hb K6 Q6 T6 X6 U6 q0 q1 x0 x1;cases GB
 ·go_wp2_with fail
  refine(FV.X w7 T7.X U7.X).mono ?_;rintro e w8 ⟨rfl,hb⟩;obtain⟨q0,q1⟩:=za1 (Q7.X.below hb).b;obtain⟨x0,x1⟩:=za1 (X7.X.below hb).b;have B8:=hdn (K7.X.below hb).b;have SB:=hdn (uB.X w8 (Q7.X.below hb).r (X7.X.below hb).r (Q7.X.below hb).l (X7.X.below hb).l);clear hb
  go_wp2_with fail
  refine SB.X.mono ?_;rintro e w9 ⟨rfl,hb⟩;have B9:=hdn (B8.X.trans (hb.mono B8.X.size));clear hb;go_wp2;go_ret;exact⟨by first|rfl|simp,B9.X⟩
 ·obtain⟨N,bu,sx,du,Ck,fI,H',aC,gm⟩:=FI.X rfl
  subst bu;clear FV uB X7 U7 FI NU Mt;have pR:∀i j,j<=i->(seT sd n fi zs O V ko kv R L i).getD j 0=seC sd n fi zs O V ko kv R L j:=fun i j h=>yC5 h;have sG:∀i j,j<=i->(seT sd n fi zs O V ko kv R L i).take (j+1)=seT sd n fi zs O V ko kv R L j:=fun i j h=>y50 h;have tg:=zP3 sd n fi zs O V ko kv R L;have sW:∀i,seC sd n fi zs O V ko kv R L (i+1)<=seC sd n fi zs O V ko kv R L i:=fun i=>y77 i;have sw:zp1 n zs O V ko kv fi R L=seC sd n fi zs O V ko kv R L 0:=rfl;obtain⟨T,HT⟩:=nmd (seT sd n fi zs O V ko kv R L);obtain⟨C,HC⟩:=nmd (seC sd n fi zs O V ko kv R L);rw[HT.X]at pR sG tg Ck gm;rw[HC.X]at pR sW H' sw;have El:=hdn pR;have eQ:=hdn sG;have dR:=hdn tg;have tO:=hdn sW;have bo:=hdn sw;have ny:=hdn H';have o7:=hdn fI;have Kg:=hdn (yG5 fI);have Dk:=hdn (FQ.X ((N / 2:Nat):Int));rw[aC,gm]at Dk;subst Ck;clear pR sG tg sW sw H' fI du HT HC aC gm FQ;have e3:nt=N+1:=vO.X.symm.trans (dR.X N);subst e3;have Iz:Hid (N+1<=tc):=by
   have h9:=Gl.X;rcases own_kinds h9 with⟨e,h0⟩|⟨g9,c9,e,_⟩
   ·omega
   ·rw[e]at h9
    injection e with e1 e2 e3
    subst e3;exact zy5 h9
  obtain⟨tb,tx,e,-⟩:=T7.X 0 (by rw[dR.X];omega);subst e;have CT:Hid (∀W,Below w7.heap.size w7 W->∀j,j<=N->W.cell? ⟨tb,tx+j,none⟩=some (ze zd (C j))):=fun W hW j hj=>by
   obtain⟨b,off,e,hc⟩:=(T7.X.below hW) j (by rw[dR.X];omega);simp only[xT,qg,qt]at e;obtain⟨rfl,rfl⟩:=e;rw[El.X N j hj]at hc;exact hc
  clear Gl;have Is:R.length<=500:=by have:=cY.X;omega
  have It:L.length<=500:=by have:=HM.X;omega
  have wY:SG.length<=500:=by have:=nk.X;omega
  have Bi:GL.length<=500:=by have:=od.X;omega
  have gF:Hid (∀r∈R,r.ids.length<=12/\r.ids.length<=r.c):=fun r hr=>⟨by have:=eR.X r hr;omega,bA.X r hr⟩
  have Mh:Hid (∀W,LP w W k kp #[ze zd n,za (some ⟨g,0,none⟩) zl cg,za (some ⟨go,0,none⟩) ko co,za (some ⟨gv,0,none⟩) kv cv,ze zd fi] ra nr rc la m lc g go gv zs O V R L->Calls zh 11 #[.agg #[ze zd n,za (some ⟨g,0,none⟩) zl cg,za (some ⟨go,0,none⟩) ko co,za (some ⟨gv,0,none⟩) kv cv,ze zd fi],.agg #[za ra nr rc,za la m lc]] W fun e w'=>e=.returned (ze zd (C 0))/\Below W.heap.size W w'):=fun W h1=>by
   have:=EB.X ra la rc lc R L W k kp h1 h1.r h1.l Is gF.X It kO.X;rw[cY.X,HM.X,bo.X]at this;exact this
  have Ok:Hid (∀W,LP w W k kp #[ze zd n,za (some ⟨g,0,none⟩) zl cg,za (some ⟨go,0,none⟩) ko co,za (some ⟨gv,0,none⟩) kv cv,ze zd fi] ra nr rc la m lc g go gv zs O V R L->LQ W kq qa qn qc qk ql qd SG GL->Calls zh 11 #[.agg #[ze zd n,za (some ⟨g,0,none⟩) zl cg,za (some ⟨go,0,none⟩) ko co,za (some ⟨gv,0,none⟩) kv cv,ze zd fi],.agg #[za qa qn qc,za qk ql qd]] W fun e w'=>e=.returned (ze zd (C N))/\Below W.heap.size W w'):=fun W h1 h2=>by
   have:=EB.X qa qk qc qd SG GL W k kp h1 h2.r h2.l wY uG.X Bi Kg.X;rw[nk.X,od.X,zt0 GL pu.X,ny.X]at this;exact this
  have Pa:Hid (∀W,LP w W k kp #[ze zd n,za (some ⟨g,0,none⟩) zl cg,za (some ⟨go,0,none⟩) ko co,za (some ⟨gv,0,none⟩) kv cv,ze zd fi] ra nr rc la m lc g go gv zs O V R L->LQ W kq qa qn qc qk ql qd SG GL->Calls zh 12 #[.agg #[ze zd n,za (some ⟨g,0,none⟩) zl cg,za (some ⟨go,0,none⟩) ko co,za (some ⟨gv,0,none⟩) kv cv,ze zd fi],.agg #[za qa qn qc,za qk ql qd]] W fun e w'=>e=.returned (ze zd 0)/\Below W.heap.size W w'):=fun W h1 h2=>by
   have:=JF.X qa qk qc qd SG GL W k kp h1 h2.r h2.l wY uG.X Bi Kg.X;rw[nk.X,od.X,zd6 GL pu.X,o7.X]at this;exact this
  clear JF EB
  go_wp2_with fail
  go_loopw[13] (fun wU wr=>∃i:Nat,1<=i/\i<=N+1/\wU=ze zd i/\Below w7.heap.size w7 wr) (fun t _=>N+2 - (intOf t).toNat)
  case atStart=>exact⟨1,by omega,by omega,rfl,y5 _ _⟩
  case round=>
   obtain⟨i,Lo,hi,rfl,il⟩:=hrel;obtain⟨j,rfl⟩:∃j,i=j+1:=⟨i - 1,by omega⟩;have BX:=hdn il;clear il;by_cases ah:j<N
   ·have ek:((j+1:Nat):Int)<((N+1:Nat):Int):=by omega
    have Rq:(0:Int)<=(j:Int)+1:=by omega
    have GI:(j:Int)+1<(N:Int)+1:=by omega
    have Gi:(j:Int)<(N:Int)+1:=by omega
    have MR:IntKind.i64.wrap (j:Int)=(j:Int):=xz _ (by omega);have Qz:decide (C j<C (j+1))=false:=zX (by have:=tO.X j;omega);have hD:Below w7.heap.size w7 wr.drew:=BX.X.trans ((y5 _ _).drew.mono BX.X.size);have c1:=CT.X _ hD (j+1) ah;have c0:=CT.X _ hD j (by omega)
    go_wp2_with fail
    refine qG (S:=(fun W=>W.cell? ⟨tb,tx+(j+1),none⟩=some (ze zd (C (j+1)))/\W.cell? ⟨tb,tx+j,none⟩=some (ze zd (C j)))) (by kernel_rfl) ?_ fun aa=> ?_
    ·exact⟨c1,c0⟩
    clear c0 c1;have BD:=hdn hD;clear hD BX;generalize wr.drew=wd at*;refine tkH 0 aa ?_;refine tkH 1 aa ?_;refine tkH 2 aa ?_;refine tkH 3 aa ?_;refine tkH 4 aa ?_;refine tkH 5 aa ?_;refine tkH 6 aa ?_;refine tkH 7 aa ?_;refine tkH 8 aa ?_;refine tkH 9 aa ?_;refine qF (by kernel_rfl) ?_ _;clear aa;go_wp2;go_roundw
    case rel=>exact⟨j+2,by omega,by omega,by first|rfl|go_num,BD.X⟩
    case measure=>simp[intOf];omega
   ·have NB:N=j:=by omega
    subst NB;have K8:=hdn (K7.X.below BX.X);have hq:Int.tdiv (N:Int) 2=((N / 2:Nat):Int):=by first|rfl|exact(Int.ofNat_tdiv N 2).symm|exact(Int.natCast_tdiv N 2).symm
    have oW:IntKind.i64.wrap ((N / 2:Nat):Int)=((N / 2:Nat):Int):=xz _ (by omega);obtain⟨h,HH⟩:=nmd (N / 2);rw[HH.X]at hq oW Dk;have Rc:h<=N:=by have:=HH.X;omega
    obtain⟨d0,d1,d2,d3,d4⟩:=zc6 K8.X.b1;obtain⟨p0,p1⟩:=za1 K8.X.b2
    go_wp2_with fail
    refine(Dk.X _ _ _ K8.X).mono ?_;rintro e w8 ⟨ya,yn,yc,yk,yl,yd,SY,yv,b1,rfl,hb,-,-,-,-,-,-,gj,-⟩;obtain⟨ft,fc,e⟩:=zh0 gj;subst e;have Dz:=hdn (dR.X h);rw[Dz.X]at gj⊢;have hA:Below w8.heap.size w8 (w8.alloc (zg #[za ya yn yc,za yk yl yd] 33)):=zP _;have uK:=hb.trans (hA.mono hb.size);have B9:=hdn (BX.X.trans (uK.mono BX.X.size));have F9:=hdn ((ze8 gj).below hA);clear hb gj hA uK BX K8 Dk d0 d1 d2 d3 d4 p0 p1
    go_wp2_with fail
    generalize w8.alloc _=w9 at*;have K9:=hdn (K7.X.below B9.X);have Q9:=hdn (Q7.X.below B9.X);have CU:=hdn (fun W (hW:Below w9.heap.size w9 W)=>CT.X W (B9.X.trans (hW.mono B9.X.size)));have Mn:Hid (∀W,Below w9.heap.size w9 W->Calls zh 9 #[za ft (h+1) fc,za (some ⟨tb,tx,none⟩) (h+1) tc] W fun e w'=>e=.returned (.bool true)/\Below W.heap.size W w'):=fun W hW=>by
     have:=zr4 ft (some ⟨tb,tx,none⟩) fc tc (T h) (T h) W (F9.X.below hW) (fun j hj=>⟨tb,tx,rfl,by rw[Dz.X]at hj;rw[El.X h j (by omega)];exact CU.X W hW j (by omega)⟩) (by have:=Dz.X;omega);rw[Dz.X,zW rfl]at this;exact this
    have Ae:Hid (∀W,Below w9.heap.size w9 W->(W.cell? ⟨k,0,none⟩=some (ze zd n)/\W.cell? ⟨k,1,none⟩=some (za (some ⟨g,0,none⟩) zl cg)/\W.cell? ⟨k,2,none⟩=some (za (some ⟨go,0,none⟩) ko co)/\W.cell? ⟨k,3,none⟩=some (za (some ⟨gv,0,none⟩) kv cv)/\W.cell? ⟨k,4,none⟩=some (ze zd fi))/\(W.cell? ⟨kp,0,none⟩=some (za ra nr rc)/\W.cell? ⟨kp,1,none⟩=some (za la m lc))/\(W.cell? ⟨kq,0,none⟩=some (za qa qn qc)/\W.cell? ⟨kq,1,none⟩=some (za qk ql qd))/\W.cell? ⟨tb,tx,none⟩=some (ze zd (C 0))/\W.cell? ⟨tb,tx+N,none⟩=some (ze zd (C N))):=fun W hW=>⟨zc6 (K9.X.below hW).b1,za1 (K9.X.below hW).b2,za1 (Q9.X.below hW).b,CU.X W hW 0 (xi _),CU.X W hW N (zT _)⟩;have iU:IntKind.i64.wrap ((N:Int)+1)=(N:Int)+1:=xz _ (by omega);have Qr:((N:Int)+1==(N:Int)+1)=true:=by simp
    have Ru:(C 0==C 0)=true:=by simp
    have Rt:(C N==C N)=true:=by simp
    have BH:(0:Int)<=(h:Int)+1:=by omega
    have QT:(h:Int)+1<=(tc:Int):=by have:=Iz.X;omega
    have Ra:((h:Int)+1).toNat=h+1:=by omega
    have QP:(N:Int)<(N:Int)+1:=by omega
    clear CT T7 Q7 K7 tO eQ El Iz dR;refine qG (S:=(fun W=>(W.cell? ⟨k,0,none⟩=some (ze zd n)/\W.cell? ⟨k,1,none⟩=some (za (some ⟨g,0,none⟩) zl cg)/\W.cell? ⟨k,2,none⟩=some (za (some ⟨go,0,none⟩) ko co)/\W.cell? ⟨k,3,none⟩=some (za (some ⟨gv,0,none⟩) kv cv)/\W.cell? ⟨k,4,none⟩=some (ze zd fi))/\(W.cell? ⟨kp,0,none⟩=some (za ra nr rc)/\W.cell? ⟨kp,1,none⟩=some (za la m lc))/\(W.cell? ⟨kq,0,none⟩=some (za qa qn qc)/\W.cell? ⟨kq,1,none⟩=some (za qk ql qd))/\W.cell? ⟨tb,tx,none⟩=some (ze zd (C 0))/\W.cell? ⟨tb,tx+N,none⟩=some (ze zd (C N)))) (by kernel_rfl) ?_ fun aa=> ?_
    ·exact Ae.X _ (y5 _ _).drew
    have BZ:=hdn ((y5 w9.heap.size w9).drew);generalize w9.drew=wd at*;refine tkH 0 aa ?_;refine tkH 1 aa ?_;refine tkH 2 aa ?_;refine tkH 3 aa ?_;refine tkH 4 aa ?_;refine tkH 5 aa ?_;refine tkH 6 aa ?_;refine tkH 7 aa ?_;refine tkH 8 aa ?_;refine tkH 9 aa ?_;refine tkH 10 aa ?_;refine rdH 11 fun K hK=> ?_;go_simp;refine(Mh.X _ (K9.X.below BZ.X)).mono ?_;rintro e wx ⟨rfl,hb⟩;have BY:=hdn (BZ.X.trans (hb.mono BZ.X.size));clear hb BZ;have BZ:=BY;clear BY
    (try go_wp2_with fail)
    refine hoW hK (Ae.X _ BZ.X) fun aa=> ?_;clear hK K;refine tkH 12 aa ?_;refine tkH 13 aa ?_;refine tkH 14 aa ?_;refine tkH 15 aa ?_;refine tkH 16 aa ?_;refine tkH 17 aa ?_;refine tkH 18 aa ?_;refine tkH 19 aa ?_;refine tkH 20 aa ?_;refine rdH 21 fun K hK=> ?_;go_simp;refine(Ok.X _ (K9.X.below BZ.X) (Q9.X.below BZ.X)).mono ?_;rintro e wx ⟨rfl,hb⟩;have BY:=hdn (BZ.X.trans (hb.mono BZ.X.size));clear hb BZ;have BZ:=BY;clear BY
    (try go_wp2_with fail)
    refine hoW hK (Ae.X _ BZ.X) fun aa=> ?_;clear hK K;refine tkH 22 aa ?_;refine tkH 23 aa ?_;refine tkH 24 aa ?_;refine tkH 25 aa ?_;refine tkH 26 aa ?_;refine rdH 27 fun K hK=> ?_;go_simp;refine(Pa.X _ (K9.X.below BZ.X) (Q9.X.below BZ.X)).mono ?_;rintro e wx ⟨rfl,hb⟩;have BY:=hdn (BZ.X.trans (hb.mono BZ.X.size));clear hb BZ;have BZ:=BY;clear BY
    (try go_wp2_with fail)
    refine hoW hK (Ae.X _ BZ.X) fun aa=> ?_;clear hK K;refine tkH 28 aa ?_;refine tkH 29 aa ?_;refine tkH 30 aa ?_;refine tkH 31 aa ?_;refine tkH 32 aa ?_;refine tkH 33 aa ?_;refine tkH 34 aa ?_;refine rdH 35 fun K hK=> ?_;go_simp;refine(Mn.X _ BZ.X).mono ?_;rintro e wx ⟨rfl,hb⟩;have BY:=hdn (BZ.X.trans (hb.mono BZ.X.size));clear hb BZ;have BZ:=BY;clear BY
    (try go_wp2_with fail)
    refine hoW hK (Ae.X _ BZ.X) fun aa=> ?_;clear hK K;refine tkH 36 aa ?_;refine tkH 37 aa ?_;refine qF (by kernel_rfl) ?_ _;clear aa;go_wp2;go_ret;exact⟨by first|rfl|simp,(K9.X.below BZ.X).b⟩
theorem zP6(a:Option Addr)(c:Nat)(bs:List Int)(w:zi)(hA:zM8 w a bs)(hl:bs.length<=9223372036854775807):
 Calls zh 3 #[za a bs.length c] w fun e w'=>e=.returned (.bool true)/\Below w.heap.size w w':=by
 by_cases h:bs.length<=1048576
 ·exact z24 a c bs w hA h
 ·exact z85 a c bs.length w hl (by omega)
