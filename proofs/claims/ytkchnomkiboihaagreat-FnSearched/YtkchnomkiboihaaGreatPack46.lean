import Derived.Test.YtkchnomkiboihaaGreatPack41
import Derived.Test.YtkchnomkiboihaaGreatImplRebuilt
set_option linter.unusedSimpArgs false
set_option maxHeartbeats 8000000
set_option maxRecDepth 10000
namespace Go.Proofs.YtkchnomkiboihaaGreat
open RowKit renaming Below→Za,Hid→Zb
open Go renaming Calls→Zc,Addr→Zd
open Value renaming slice→za,int→ze,ownBlock→zm
open IntKind renaming i64→zd
open Obj renaming cells→zg
open Proofs.Tryz renaming prog→zh
open Go renaming World→zi
open List renaming length→zo
open Lit renaming int→zD
open Go.RowKit
open Q
def yG1(w:zi)(K:Nat->Prop)(v:Int)(f:Bool)(T:List RT)(L:List Int)(e:Ending)(w':zi):Prop:=∃(ag:Option Zd) (n2 ai:Nat) (ak:Option Zd) (l2 aj:Nat) (R2:List RT),e=.returned (.tuple #[.agg #[za ag n2 ai,za ak l2 aj],ze zd v,.bool f])/\Za w.heap.size w w'/\R2.map RT.key=T.map RT.key/\zc2 w' ag ak n2 l2 R2 L/\∀k,k<w.heap.size->K k->zi8 k ag ak R2 L
theorem zU5(sd kk n fine:Int)(a ao av ra la:Option Zd)(zl ac ko co kv cv nr rc ln lc kb cb:Nat)(zs os vs L:List Int)(R:List RT)(w:zi)(hA:za3 w a zs)(hO:za3 w ao os)(hV:za3 w av vs)(aN:zs.length=zl)(an:os.length=ko*6)(au:vs.length=kv*5)(hP:zc2 w ra la nr ln R L)(hB:deB sd kk n fine zs os vs ko kv R L=true)(hd:zu6 w kb cb kk #[ze zd n,za a zl ac,za ao ko co,za av kv cv,ze zd fine]):
 Zc zh 112 #[.agg #[za ra nr rc,za la ln lc],ze zd sd,.pointer (some ⟨kb,0,none⟩),.pointer (some ⟨cb,0,none⟩)] w (yG1 w (fun k=>zi8 k ra la R L) (deN sd kk n fine zs os vs ko kv R L) (deF sd kk n fine zs os vs ko kv R L) (deR sd kk n fine zs os vs ko kv R L) (deL sd kk n fine zs os vs ko kv R L)):=by
 obtain⟨h1,h2,h3⟩:=yl7 hB;have D:=zT2 h1 h2 h3;have cW:=(zb7 h1).1;have aA:ko<=12:=(zd8 (zb2 cW).2.1).1;have aB:kv<=5:=(zf3 (zb2 cW).2.2.1).1;have MU:=hP;obtain⟨p1,p2,p3,p4,p5,p6,p7⟩:=hP;have DA:=zH2 n fine sd kk a ao av ra la zl ac ko co kv cv nr rc ln lc kb cb zs os vs R L (deS R) (deP sd kk R) (deS R).length (deP sd kk R).length (min kk ((deS R).length:Int)) (z87 sd (deS R).length (min kk ((deS R).length:Int))) w hA aN hO hV an au (by omega) (by omega) cW p3 p1 p4 p2 (by have:=D.t;omega) (by rw[p1];exact p5) p6 p7 rfl rfl rfl rfl rfl rfl D.i D.d D.p D.m D.w hd.1 hd.2;refine DA.mono ?_;unfold deN deF deR deL;rw[hB];simp only[jk,ji];rintro e w' ⟨hb,⟨hz,ag,n2,ai,ak,l2,aj,R2,L2,rfl,q1,q2,q3,q4,q5,q6,_,q8,q9,Lo,Qd⟩|⟨hz,rfl⟩⟩
 ·have hw:deW sd kk n fine zs os vs ko kv R L=0:=hz
  have PE:L2=(deQ sd kk R L).2:=q6;subst PE;rw[z7 hw,z7 hw,zW hw];exact⟨ag,n2,ai,ak,l2,aj,R2,rfl,hb,q5,⟨q2,q4,q1,q3,by rw[<-q2];exact q9,q8,Lo⟩,Qd⟩
 ·have hw:¬deW sd kk n fine zs os vs ko kv R L=0:=hz
  rw[ye hw,ye hw,zX hw];exact⟨ra,nr,rc,la,ln,lc,R,rfl,hb,rfl,MU.below hb,fun _ _ h=>h⟩
structure yI6(w:zi)(cs:Array Value)(SR:Nat->List RT)(SM:Nat->List Int)(SD:Nat->Int)(DR:Nat->List RT)(DM:Nat->List Int)(F:Nat->Bool)(YR:Nat->List RT)(YM:Nat->List Int)(YC C:Nat->Int):Prop where
 dest:∀(i:Nat) (W:zi) (ra la:Option Zd) (nr rc ln lc kb cb:Nat) (R:List RT),Za w.heap.size w W->zc2 W ra la nr ln R (SM i)->R.map RT.key=(SR i).map RT.key->zu6 W kb cb (seK i) cs->Zc zh 112 #[.agg #[za ra nr rc,za la ln lc],ze zd (SD i),.pointer (some ⟨kb,0,none⟩),.pointer (some ⟨cb,0,none⟩)] W (yG1 W (fun k=>zi8 k ra la R (SM i)) (SD (i+1)) (F i) (DR i) (DM i))
 reb:∀(i:Nat) (W:zi) (ra la:Option Zd) (nr rc ln lc:Nat) (R:List RT),F i=true->Za w.heap.size w W->zc2 W ra la nr ln R (DM i)->R.map RT.key=(DR i).map RT.key->Zc zh 36 #[.agg cs,.agg #[za ra nr rc,za la ln lc]] W (yE2 W (fun k=>zi8 k ra la R (DM i)) (YR i) (YM i))
 cost:∀(i:Nat) (W:zi) (ra la:Option Zd) (nr rc ln lc:Nat) (R:List RT),F i=true->Za w.heap.size w W->zc2 W ra la nr ln R (YM i)->R.map RT.key=(YR i).map RT.key->Zc zh 35 #[.agg cs,.agg #[za ra nr rc,za la ln lc]] W fun e w'=>e=.returned (ze zd (YC i))/\Za W.heap.size W w'
 yes:∀i,F i=true->YC i<C i->SR (i+1)=YR i/\SM (i+1)=YM i/\C (i+1)=YC i
 no:∀i,(F i=true->¬YC i<C i)->SR (i+1)=SR i/\SM (i+1)=SM i/\C (i+1)=C i
theorem zH6(n fine:Int)(a ao av ra la:Option Zd)(zl ac ko co kv cv nr rc ln lc:Nat)(zs os vs L:List Int)(R:List RT)(w:zi)(hA:za3 w a zs)(hO:za3 w ao os)(hV:za3 w av vs)(aN:zs.length=zl)(an:os.length=ko*6)(au:vs.length=kv*5)(hP:zc2 w ra la nr ln R L)(aT:zc1 n zs os vs ko kv fine R L=0):
 Zc zh 35 #[.agg #[ze zd n,za a zl ac,za ao ko co,za av kv cv,ze zd fine],.agg #[za ra nr rc,za la ln lc]] w fun e w'=>e=.returned (ze zd (zp0 n zs os vs ko kv fine R L))/\Za w.heap.size w w':=by
 have cW:=(zb7 aT).1;have aA:ko<=12:=(zd8 (zb2 cW).2.1).1;have aB:kv<=5:=(zf3 (zb2 cW).2.2.1).1;obtain⟨p1,p2,p3,p4,p5,p6,p7⟩:=hP;have:=z37 n fine a ao av ra la ac ko co kv cv rc lc zs os vs L R w hA hO hV p3 an au (by omega) (by omega) p7 aT;rw[aN,p1,p2]at this;unfold zp0;rw[z7 aT,p1,p2];exact this
theorem yK6(sd n fine:Int)(a ao av:Option Zd)(zl ac ko co kv cv:Nat)(zs os vs L:List Int)(R:List RT)(w:zi)(hA:za3 w a zs)(hO:za3 w ao os)(hV:za3 w av vs)(aN:zs.length=zl)(an:os.length=ko*6)(au:vs.length=kv*5)(aT:zc1 n zs os vs ko kv fine R L=0)(hs:inB sd 0 2147483647=true):
 ∃(DR:Nat->List RT) (DM:Nat->List Int) (F:Nat->Bool) (YR:Nat->List RT) (YM:Nat->List Int) (YC:Nat->Int),yI6 w #[ze zd n,za a zl ac,za ao ko co,za av kv cv,ze zd fine] (fun i=>(seP sd n fine zs os vs ko kv R L i).1.1) (fun i=>(seP sd n fine zs os vs ko kv R L i).1.2) (fun i=>(seP sd n fine zs os vs ko kv R L i).2) DR DM F YR YM YC (seC sd n fine zs os vs ko kv R L):=by
 obtain⟨P,hP⟩:∃P,P=seP sd n fine zs os vs ko kv R L:=⟨_,rfl⟩;have lV:∀i,zc1 n zs os vs ko kv fine (P i).1.1 (P i).1.2=0/\inB (P i).2 0 2147483647=true:=by rw[hP];exact z33 aT hs
 have fP:∀i,P (i+1)=(seN (P i).2 (seK i) n fine zs os vs ko kv (P i).1.1 (P i).1.2,deN (P i).2 (seK i) n fine zs os vs ko kv (P i).1.1 (P i).1.2):=fun i=>by rw[hP];rfl
 have hC:∀i,seC sd n fine zs os vs ko kv R L i=zp0 n zs os vs ko kv fine (P i).1.1 (P i).1.2:=fun i=>by rw[hP];rfl
 rw[<-hP];have hB:∀i,deB (P i).2 (seK i) n fine zs os vs ko kv (P i).1.1 (P i).1.2=true:=fun i=>yA1 (lV i).1 (yB4 i) (lV i).2;refine⟨fun i=>deR (P i).2 (seK i) n fine zs os vs ko kv (P i).1.1 (P i).1.2,fun i=>deL (P i).2 (seK i) n fine zs os vs ko kv (P i).1.1 (P i).1.2,fun i=>deF (P i).2 (seK i) n fine zs os vs ko kv (P i).1.1 (P i).1.2,fun i=>(seD (P i).2 (seK i) n fine zs os vs ko kv (P i).1.1 (P i).1.2).1,fun i=>(seD (P i).2 (seK i) n fine zs os vs ko kv (P i).1.1 (P i).1.2).2,fun i=>zp0 n zs os vs ko kv fine (seD (P i).2 (seK i) n fine zs os vs ko kv (P i).1.1 (P i).1.2).1 (seD (P i).2 (seK i) n fine zs os vs ko kv (P i).1.1 (P i).1.2).2,?_,?_,?_,?_,?_⟩
 ·intro i W ra la nr rc ln lc kb cb R2 hW hp hk hd
  have h:=zU5 (P i).2 (seK i) n fine a ao av ra la zl ac ko co kv cv nr rc ln lc kb cb zs os vs (P i).1.2 R2 W (hA.below hW) (hO.below hW) (hV.below hW) aN an au hp (by rw[zE7 _ _ _ _ _ _ _ _ _ _ hk];exact hB i) hd;rw[yh5 _ _ _ _ _ _ _ _ _ _ hk,yf3 _ _ _ _ _ _ _ _ _ _ hk,yb5 _ _ _ _ _ _ _ _ _ _ hk]at h;refine h.mono ?_;rintro e w' ⟨ag,n2,ai,ak,l2,aj,R3,rfl,hb,iH,l_,fZ⟩;refine⟨ag,n2,ai,ak,l2,aj,R3,?_,hb,iH.trans (ye7 _ _ _ _ _ _ _ _ _ _ hk),l_,fZ⟩;simp only[fP]
 ·intro i W ra la nr rc ln lc R2 hf hW hp hk
  have hd:=(zD4 hf).2.2;have h:=yf0 n fine a ao av ra la zl ac ko co kv cv nr rc ln lc zs os vs _ R2 W (hA.below hW) (hO.below hW) (hV.below hW) aN an au hp (by rw[zd6 _ hk];exact hd);refine h.mono ?_;obtain⟨k1,k2⟩:=yu3 (n:=n) (fine:=fine) (zs:=zs) (os:=os) (vs:=vs) (ko:=ko) (kv:=kv) (deL (P i).2 (seK i) n fine zs os vs ko kv (P i).1.1 (P i).1.2) hk;rintro e w' ⟨ag,n2,ai,ak,l2,aj,R3,rfl,hb,iH,l_,fZ⟩;rw[k2]at l_ fZ;exact⟨ag,n2,ai,ak,l2,aj,R3,rfl,hb,iH.trans k1,l_,fZ⟩
 ·intro i W ra la nr rc ln lc R2 hf hW hp hk
  have hy:=yk4 (zD4 hf).2.2;have h:=zH6 n fine a ao av ra la zl ac ko co kv cv nr rc ln lc zs os vs _ R2 W (hA.below hW) (hO.below hW) (hV.below hW) aN an au hp (by rw[zd6 _ hk];exact hy);rw[zs9 _ hk]at h;exact h
 ·intro i hf ah
  rw[hC]at ah;have hb:seB (P i).2 (seK i) n fine zs os vs ko kv (P i).1.1 (P i).1.2=true:=by
   unfold seB;rw[zY,qh];exact⟨hf,ah⟩
  have e:(P (i+1)).1=seD (P i).2 (seK i) n fine zs os vs ko kv (P i).1.1 (P i).1.2:=by
   rw[fP];show seN _ _ _ _ _ _ _ _ _ _ _=_;unfold seN;rw[hb,jk]
  exact⟨by rw[e],by rw[e],by rw[hC,e]⟩
 ·intro i aY
  have hb:seB (P i).2 (seK i) n fine zs os vs ko kv (P i).1.1 (P i).1.2=false:=by
   rw[<-Bool.not_eq_true];unfold seB;rw[zY,qh];exact fun h=>aY h.1 (by rw[hC];exact h.2)
  have e:(P (i+1)).1=(P i).1:=by
   rw[fP];show seN _ _ _ _ _ _ _ _ _ _ _=_;unfold seN;rw[hb];rfl
  exact⟨by rw[e],by rw[e],by rw[hC,hC,e]⟩
theorem z15{W W':zi}{z k i:Nat}{v:Value}(hg:W.grownBy W' (some z))(hk:k≠z)(hv:W.cell? ⟨k,i,none⟩=some v):W'.cell? ⟨k,i,none⟩=some v:=by
 have h9:=hg.block k (zV hv) (fun e=>hk (by injection e));unfold World.cell? at hv⊢;simp only at hv⊢;rw[h9];exact hv
theorem zH3{W W':zi}{z:Nat}{a:Option Zd}{xs:List Int}(h:za3 W a xs)(hg:W.grownBy W' (some z))(ho:xs≠[]->∀b off,a=some ⟨b,off,none⟩->b≠z):za3 W' a xs:=fun j hj=>by
 obtain⟨b,off,e,h1⟩:=h j hj;exact⟨b,off,e,z15 hg (ho (zr9 hj) b off e) h1⟩
theorem zc2.grownL{W W':zi}{z:Nat}{ra la:Option Zd}{rn ln:Nat}{R:List RT}{L:List Int}(h:zc2 W ra la rn ln R L)(hg:W.grownBy W' (some z))(ho:zi8 z ra la R L):zc2 W' ra la rn ln R L:=by
 refine⟨h.1,h.2.1,fun j hj=> ?_,zH3 h.2.2.2.1 hg ho.2.1,h.2.2.2.2⟩;obtain⟨b,off,e,h1,h2,h3⟩:=h.2.2.1 j hj;have hm:R.getD j rt0∈R:=by rw[zQ,zR hj];simp
 have aq:=zr9 hj;exact⟨b,off,e,z15 hg (ho.1 aq b off e) h1,z15 hg (ho.1 aq b off e) h2,zH3 h3 hg (ho.2.2 _ hm)⟩
theorem GQ.grownL{w W W':zi}{z:Nat}{cs ps:Array Value}(h:GQ w W cs ps)(hg:W.grownBy W' (some z))(hz:w.heap.size+3<=z):GQ w W' cs ps:=by
 have hs:=h.size;have hr:∀k o,k<w.heap.size+3->W.heap[k]? =some o->W'.heap[k]? =some o:=fun k o hk e=>(hg.block k (za2 e) (fun e9=>by injection e9 with e9;omega)).trans e
 exact⟨h.b.grown hg h.b.size (fun k e=>by injection e with e;omega),hr _ _ (by omega) h.c,hr _ _ (by omega) h.p,hr _ _ (by omega) h.o⟩
theorem GQ.plan{w W:zi}{cs:Array Value}{x0 x1:Value}(h:GQ w W cs #[x0,x1])(u v:Value):GQ w ((W.setCell ⟨w.heap.size+1,0,none⟩ u).setCell ⟨w.heap.size+1,1,none⟩ v) cs #[u,v]:=
 ⟨(h.b.setCell (by simp) _).setCell (by simp) _,za8 (za8 h.c (by omega)) (by omega),zi5 h.p,za8 (za8 h.o (by omega)) (by omega)⟩
def zN5(w:zi)(f:Bool)(X:List Int)(T:List RT)(L:List Int)(e:Ending)(w':zi):Prop:=∃ra rn rc la ln lc S tv b0,e=.returned (.tuple #[.agg #[za ra rn rc,za la ln lc],tv,.bool f])/\Za w.heap.size w w'/\S.length=rn/\L.length=ln/\S.map RT.key=T.map RT.key/\w.heap.size<=b0/\PO w' b0 (za ra rn rc) S (za la ln lc) L/\z53 S la/\w'.ownsRow w.heap.size 2 1 tv X.length (X.map (ze zd))/\∀z,tv.ownBlock=some z->z<b0
theorem zC2(sd st n fine:Int)(a ao av ra la:Option Zd)(zl ac ko co kv cv nr rc ln lc:Nat)(zs os vs L:List Int)(R:List RT)(w:zi)(hA:za3 w a zs)(hO:za3 w ao os)(hV:za3 w av vs)(aN:zs.length=zl)(an:os.length=ko*6)(au:vs.length=kv*5)(aA:ko<=9223372036854775807)(aB:kv<=9223372036854775807)(hP:zc2 w ra la nr ln R L)(hn:nr<=1048576)(hi:∀r∈R,r.ids.length<=1048576)(dg:ln<=1048576)(cS:(zb0 R R.length).length<=1048576)(ii:∀x∈L,(zD zd x).wf=true):
 Zc zh 7 #[.agg #[ze zd n,za a zl ac,za ao ko co,za av kv cv,ze zd fine],.agg #[za ra nr rc,za la ln lc],ze zd sd,ze zd st] w (zN5 w (sgB sd st n fine zs os vs ko kv R L) (sgT sd st n fine zs os vs ko kv R L) (sgR sd st n fine zs os vs ko kv R L) (sgL sd st n fine zs os vs ko kv R L)):=by
 have HA:=za4 hA;have HO:=za4 hO;have HV:=za4 hV;have ck:=za4 aN;have aF:=za4 an;have aE:=za4 au;have HP:=za4 hP;have HN:Zb (R.length=nr):=hP.1;have HM:Zb (L.length=ln):=hP.2.1;have HI:=za4 hi;clear hA hO hV aN an au hP hi;obtain⟨pv,cG⟩:=nmd (zc1 n zs os vs ko kv fine R L);obtain⟨k1,di⟩:=nmd (inB st 0 60);obtain⟨s1,d9⟩:=nmd (inB sd 0 2147483647);have d7:Zb (sgB sd st n fine zs os vs ko kv R L=(decide (pv=0)&&(k1&&s1))):=by show _=_;unfold sgB;rw[cG.X,di.X,d9.X]
 have dH:=yI9 sd st n fine zs os vs ko kv R L;obtain⟨GB,dJ⟩:=nmd (sgB sd st n fine zs os vs ko kv R L);have bw:Zb (GB=false->sgR sd st n fine zs os vs ko kv R L=[]/\sgL sd st n fine zs os vs ko kv R L=[]/\sgT sd st n fine zs os vs ko kv R L=[]):=fun h=>by
  unfold sgR sgL sgT;rw[dJ.X,h];exact⟨rfl,rfl,rfl⟩
 have fy:Zb (GB=true->sgR sd st n fine zs os vs ko kv R L=(seP sd n fine zs os vs ko kv R L st.toNat).1.1/\sgL sd st n fine zs os vs ko kv R L=(seP sd n fine zs os vs ko kv R L st.toNat).1.2/\sgT sd st n fine zs os vs ko kv R L=seT sd n fine zs os vs ko kv R L st.toNat):=fun h=>by
  unfold sgR sgL sgT;rw[dJ.X,h];exact⟨rfl,rfl,rfl⟩
 obtain⟨GR,cC⟩:=nmd (sgR sd st n fine zs os vs ko kv R L);obtain⟨GL,cZ⟩:=nmd (sgL sd st n fine zs os vs ko kv R L);obtain⟨GT,kY⟩:=nmd (sgT sd st n fine zs os vs ko kv R L);rw[cC.X,cZ.X]at dH;have Fz:=za4 dH;rw[cC.X,cZ.X,kY.X]at bw fy;rw[dJ.X]at d7;rw[dJ.X,cC.X,cZ.X,kY.X];clear dH dJ cC cZ kY;have Q0:Zb (GQ w (((w.alloc (zg #[ze zd n,za a zl ac,za ao ko co,za av kv cv,ze zd fine] 30)).alloc (zg #[za ra nr rc,za la ln lc] 33)).alloc (zg #[za none 0 0,za none 0 0] 33)) #[ze zd n,za a zl ac,za ao ko co,za av kv cv,ze zd fine] #[za ra nr rc,za la ln lc]):=by
  refine⟨((zP _).alloc (by simp) _).alloc (by simp;omega) _,?_,?_,?_⟩
  ·exact(xg _ _ (by simp;omega)).trans (xm _ _ _)
  ·exact(xg _ _ (by simp)).trans (xh _ _ _)
  ·have:=zS ((w.alloc (zg #[ze zd n,za a zl ac,za ao ko co,za av kv cv,ze zd fine] 30)).alloc (zg #[za ra nr rc,za la ln lc] 33)) (zg #[za none 0 0,za none 0 0] 33)
   simpa using this
 have PC:=zx4 n fine a ao av ra la ac ko co kv cv rc lc zs os vs L R (((w.alloc (zg #[ze zd n,za a zl ac,za ao ko co,za av kv cv,ze zd fine] 30)).alloc (zg #[za ra nr rc,za la ln lc] 33)).alloc (zg #[za none 0 0,za none 0 0] 33)) (HA.X.below Q0.X.b) (HO.X.below Q0.X.b) (HV.X.below Q0.X.b) (HP.X.2.2.1.below Q0.X.b) (HP.X.2.2.2.1.below Q0.X.b) aF.X aE.X aA aB (by rw[HN.X];exact hn) HI.X HP.X.2.2.2.2.2.2 (by rw[HM.X];exact dg) cS ii;rw[HN.X,HM.X,ck.X,cG.X]at PC;obtain⟨c0,c1,c2,c3,c4⟩:=za7 Q0.X.c;obtain⟨p0,p1⟩:=za1 Q0.X.p;go_enter Tryz.func7,Tryz.ntmps7
 go_wp2_with fail
 generalize((w.alloc _).alloc _).alloc _=W0 at*;refine PC.mono ?_;rintro e w1 ⟨rfl,hb⟩;have Q1:=za4 (Q0.X.below hb);clear hb PC c0 c1 c2 c3 c4 p0 p1 Q0;by_cases dq:pv=0
 ·subst dq
  rw[zW rfl,ji]at d7;cases k1
  ·obtain⟨a0,a1⟩:=za1 Q1.X.o
   have af:=fun i=>yZ _ _ i _ _ Q1.X.o;have B5:Zb (Za w.heap.size w ((w1.setCell ⟨w.heap.size+2,0,none⟩ (za none 0 0)).setCell ⟨w.heap.size+2,1,none⟩ (za none 0 0))):=(Q1.X.b.setCell (by simp) _).setCell (by simp) _;have m7:GB=false:=by rw[d7.X];try rfl
   subst m7;obtain⟨g2,g3,g4⟩:=bw.X rfl;subst g2 g3 g4;clear bw fy
   go_wp2_with(first|(go_at_call 32;refine(zc3 _ _ _ _).mono ?_;rintro e w' ⟨rfl,dx⟩;subst w';rw[di.X])|(go_at_call 33;refine(zl5 _ _).mono ?_;rintro e w' ⟨rfl,dx⟩;subst w';rw[d9.X]))
   refine xe (v:=.tuple #[.agg #[za none 0 0,za none 0 0],za none 0 0,.bool false]) (by simp[results,Tryz.results7,go_sem,a0,a1]) rfl ?_;show zN5 _ _ _ _ _ _ _;exact⟨none,0,0,none,0,0,[],za none 0 0,w.heap.size,rfl,B5.X,rfl,rfl,rfl,zT _,⟨xZ _ _ _ _,(fun s hs=>by cases hs),xZ _ _ _ _⟩,z53.nil _,xZ _ _ _ _,fun z hz=>by cases hz⟩
  ·cases s1
   ·obtain⟨a0,a1⟩:=za1 Q1.X.o
    have af:=fun i=>yZ _ _ i _ _ Q1.X.o;have B5:Zb (Za w.heap.size w ((w1.setCell ⟨w.heap.size+2,0,none⟩ (za none 0 0)).setCell ⟨w.heap.size+2,1,none⟩ (za none 0 0))):=(Q1.X.b.setCell (by simp) _).setCell (by simp) _;have m7:GB=false:=by rw[d7.X];try rfl
    subst m7;obtain⟨g2,g3,g4⟩:=bw.X rfl;subst g2 g3 g4;clear bw fy
    go_wp2_with(first|(go_at_call 32;refine(zc3 _ _ _ _).mono ?_;rintro e w' ⟨rfl,dx⟩;subst w';rw[di.X])|(go_at_call 33;refine(zl5 _ _).mono ?_;rintro e w' ⟨rfl,dx⟩;subst w';rw[d9.X]))
    refine xe (v:=.tuple #[.agg #[za none 0 0,za none 0 0],za none 0 0,.bool false]) (by simp[results,Tryz.results7,go_sem,a0,a1]) rfl ?_;show zN5 _ _ _ _ _ _ _;exact⟨none,0,0,none,0,0,[],za none 0 0,w.heap.size,rfl,B5.X,rfl,rfl,rfl,zT _,⟨xZ _ _ _ _,(fun s hs=>by cases hs),xZ _ _ _ _⟩,z53.nil _,xZ _ _ _ _,fun z hz=>by cases hz⟩
   ·have tF:GB=true:=d7.X
    subst tF;clear bw d7;obtain⟨uq,ue,un⟩:=fy.X rfl;clear fy;have bz:=zc8 di.X;obtain⟨N,hN⟩:=xp bz.1;have tz:N<=60:=by omega
    subst hN;rw[yu]at uq ue un;obtain⟨DR,DM,F,YR,YM,YC,tO⟩:=yK6 sd n fine a ao av zl ac ko co kv cv zs os vs L R w HA.X HO.X HV.X ck.X aF.X aE.X cG.X d9.X;have CP:Zb (∀W,Za w.heap.size w W->Zc zh 35 #[.agg #[ze zd n,za a zl ac,za ao ko co,za av kv cv,ze zd fine],.agg #[za ra nr rc,za la ln lc]] W fun e w'=>e=.returned (ze zd (seC sd n fine zs os vs ko kv R L 0))/\Za W.heap.size W w'):=fun W hW=>
     zH6 n fine a ao av ra la zl ac ko co kv cv nr rc ln lc zs os vs L R W (HA.X.below hW) (HO.X.below hW) (HV.X.below hW) ck.X aF.X aE.X (HP.X.below hW) cG.X
    have T0:seT sd n fine zs os vs ko kv R L 0=[seC sd n fine zs os vs ko kv R L 0]:=rfl;have py:=yi7 sd n fine zs os vs ko kv R L;have sD:=zR8 sd n fine zs os vs ko kv R L;have As:(seP sd n fine zs os vs ko kv R L 0).1.1=R:=rfl;have wh:(seP sd n fine zs os vs ko kv R L 0).1.2=L:=rfl;have AP:(seP sd n fine zs os vs ko kv R L 0).2=sd:=rfl;obtain⟨C,HC⟩:=nmd (seC sd n fine zs os vs ko kv R L);obtain⟨T,HT⟩:=nmd (seT sd n fine zs os vs ko kv R L);obtain⟨SR,ke⟩:=nmd (fun i=>(seP sd n fine zs os vs ko kv R L i).1.1);obtain⟨SM,fR⟩:=nmd (fun i=>(seP sd n fine zs os vs ko kv R L i).1.2);obtain⟨SD,uM⟩:=nmd (fun i=>(seP sd n fine zs os vs ko kv R L i).2);rw[HC.X,ke.X,fR.X,uM.X]at tO;rw[HC.X]at CP T0 py;rw[HT.X]at T0 py sD un;rw[congrFun ke.X 0]at As;rw[congrFun fR.X 0]at wh;rw[congrFun uM.X 0]at AP;rw[congrFun ke.X N]at uq;rw[congrFun fR.X N]at ue;have ST:Zb _:=tO;have TS:=za4 py;have TL:=za4 sD;have TZ:=za4 T0;subst uq ue un;subst As wh AP;clear tO py sD T0 HC HT ke fR uM bz cG cS ii HI;obtain⟨c0,c1,c2,c3,c4⟩:=za7 Q1.X.c;obtain⟨p0,p1⟩:=za1 Q1.X.p
    go_wp2_with(first|(go_at_call 32;refine(zc3 _ _ _ _).mono ?_;rintro e w' ⟨rfl,dx⟩;subst w';rw[di.X])|(go_at_call 33;refine(zl5 _ _).mono ?_;rintro e w' ⟨rfl,dx⟩;subst w';rw[d9.X]))
    clear c0 c1 c2 c3 c4 p0 p1;refine(zB8 n fine a ao av zl ac ko co kv cv w1).mono ?_;rintro e w2 ⟨g,rfl,hb,hd⟩;have Q2:=za4 (Q1.X.below hb);obtain⟨m2,oK⟩:=nmd w2.heap.size;obtain⟨b1,eG⟩:=nmd w1.heap.size;have gw:w.heap.size+3<=b1:=by rw[<-eG.X];exact Q1.X.size
    have aC:b1<=m2:=by rw[<-eG.X,<-oK.X];exact hb.size
    rw[oK.X,eG.X]at hd;have D2:=za4 hd;clear hb hd Q1;obtain⟨c0,c1,c2,c3,c4⟩:=za7 Q2.X.c;obtain⟨p0,p1⟩:=za1 Q2.X.p
    go_wp2_with fail
    refine(CP.X w2 Q2.X.b).mono ?_;rintro e w3 ⟨rfl,hb⟩;have Q3:=za4 (Q2.X.below hb);have D3:=za4 (D2.X.below hb);have Mt:m2<=w3.heap.size:=by rw[<-oK.X];exact hb.size
    have P3:=za4 (HP.X.below Q3.X.b);clear hb Q2 D2 CP c0 c1 c2 c3 c4 p0 p1 HP;have CY:Za w3.heap.size w3 (w3.alloc (zg #[ze zd (C 0)] 2)):=zP _;have Q4:=za4 (Q3.X.below CY);have D4:=za4 (D3.X.below CY);have P4:=za4 (P3.X.below CY);have O4:Zb ((w3.alloc (zg #[ze zd (C 0)] 2)).ownsRow m2 2 1 (za (some ⟨w3.heap.size,0,none⟩) 1 1) (0+1) ((T 0).map (ze zd))):=by
     show World.ownsRow _ _ _ _ _ _ _;rw[TZ.X];exact⟨rfl,.inr ⟨w3.heap.size,1,#[ze zd (C 0)],rfl,Mt,zS _ _,by simp[maxLen]⟩⟩
    have F4:Zb (zi8 w3.heap.size ra la (SR 0) (SM 0)):=P3.X.far (zT _);obtain⟨c0,c1,c2,c3,c4⟩:=za7 Q3.X.c
    go_wp2_with fail
    clear c0 c1 c2 c3 c4;clear Q3 D3 P3 CY TZ;go_loopw[2,12,13,42] (fun s2 AC Av t wr=>∃(i:Nat) (aO cQ:Option Zd) (bG bg bm dI z9 c9:Nat) (R9:List RT),i<=N/\t=ze zd i/\s2=ze zd (SD i)/\AC=ze zd (C i)/\GQ w wr #[ze zd n,za a zl ac,za ao ko co,za av kv cv,ze zd fine] #[za aO bG bg,za cQ bm dI]/\zm2 wr b1 m2 g #[ze zd n,za a zl ac,za ao ko co,za av kv cv,ze zd fine]/\zc2 wr aO cQ bG bm R9 (SM i)/\R9.map RT.key=(SR i).map RT.key/\Av=za (some ⟨z9,0,none⟩) (i+1) c9/\wr.ownsRow m2 2 1 (za (some ⟨z9,0,none⟩) (i+1) c9) (i+1) ((T i).map (ze zd))/\zi8 z9 aO cQ R9 (SM i)) (fun _ _ _ t _=>N - (intOf t).toNat)
    case atStart=>exact⟨0,ra,la,nr,rc,ln,lc,w3.heap.size,1,SR 0,xi _,rfl,rfl,rfl,Q4.X,D4.X,P4.X,rfl,rfl,O4.X,F4.X⟩
    case round=>
     clear Q4 D4 P4 O4 F4;obtain⟨i,aO,cQ,bG,bg,bm,dI,z9,c9,R9,hi,rfl,rfl,rfl,hq,hd,hp,hk,rfl,ho,hf⟩:=hrel;have Q5:=za4 hq;have D5:=za4 hd;have P5:=za4 hp;have K5:=za4 hk;have O5:=za4 ho;have F5:=za4 hf;clear hq hd hp hk ho hf;by_cases ah:i<N
     ·have Ay:i % 3<3:=Nat.mod_lt _ (by omega)
      obtain⟨kb,cb,NR,oQ,Jl⟩:=D5.X.2 (i % 3) Ay;have nF:Int.tmod (i:Int) 3=((i % 3:Nat):Int):=by first|rfl|exact(Int.ofNat_tmod i 3).symm|exact(Int.natCast_tmod i 3).symm
      have DS:Zb (∀W,Za wr.heap.size wr W->Zc zh 112 #[.agg #[za aO bG bg,za cQ bm dI],ze zd (SD i),.pointer (some ⟨kb,0,none⟩),.pointer (some ⟨cb,0,none⟩)] W (yG1 W (fun k=>zi8 k aO cQ R9 (SM i)) (SD (i+1)) (F i) (DR i) (DM i))):=fun W hW=>
       ST.X.dest i W aO cQ bG bg bm dI kb cb R9 (Q5.X.b.trans (hW.mono Q5.X.b.size)) (P5.X.below hW) K5.X (Jl.below hW)
      have j5:z9<wr.heap.size:=(O5.X.lt z9 rfl).2;have et:(i:Int)<(N:Int):=by omega
      obtain⟨j,HJ⟩:=nmd (i % 3);rw[HJ.X]at Ay nF oQ;have Fk:(j:Int)<3:=by omega
      have Ih:=za4 nF;have KS:Zb (∀W,Za wr.heap.size wr W->((W.cell? ⟨w.heap.size,0,none⟩=some (ze zd n)/\W.cell? ⟨w.heap.size,1,none⟩=some (za a zl ac)/\W.cell? ⟨w.heap.size,2,none⟩=some (za ao ko co)/\W.cell? ⟨w.heap.size,3,none⟩=some (za av kv cv)/\W.cell? ⟨w.heap.size,4,none⟩=some (ze zd fine))/\(W.cell? ⟨w.heap.size+1,0,none⟩=some (za aO bG bg)/\W.cell? ⟨w.heap.size+1,1,none⟩=some (za cQ bm dI))/\W.cell? ⟨g,j,none⟩=some (.func (.func 112) #[] #[.pointer (some ⟨kb,0,none⟩),.pointer (some ⟨cb,0,none⟩)]))):=fun W hW=>⟨za7 (Q5.X.below hW).c,za1 (Q5.X.below hW).p,(hW.cell (p:=⟨g,j,none⟩) (zV oQ)).trans oQ⟩;clear Jl NR oQ;go_upto_region 9 with fail;go_cut [15,16,17]from 45 to 58 (fun p8 ua pS wx=>∃(kz:Nat) (ag:Option Zd) (n2 ai:Nat) (ak:Option Zd) (l2 aj:Nat) (R2:List RT),p8=.pointer (some ⟨kz,0,none⟩)/\ua=ze zd (SD (i+1))/\pS=.bool (F i)/\Za wr.heap.size wr wx/\wr.heap.size<=kz/\wx.heap[kz]? =some (zg #[za ag n2 ai,za ak l2 aj] 33 (0,0))/\zc2 wx ag ak n2 l2 R2 (DM i)/\R2.map RT.key=(DR i).map RT.key/\zi8 z9 ag ak R2 (DM i))
      case first=>
       go_wp2_with fail
       refine qG (S:=(fun W=>((W.cell? ⟨w.heap.size,0,none⟩=some (ze zd n)/\W.cell? ⟨w.heap.size,1,none⟩=some (za a zl ac)/\W.cell? ⟨w.heap.size,2,none⟩=some (za ao ko co)/\W.cell? ⟨w.heap.size,3,none⟩=some (za av kv cv)/\W.cell? ⟨w.heap.size,4,none⟩=some (ze zd fine))/\(W.cell? ⟨w.heap.size+1,0,none⟩=some (za aO bG bg)/\W.cell? ⟨w.heap.size+1,1,none⟩=some (za cQ bm dI))/\W.cell? ⟨g,j,none⟩=some (.func (.func 112) #[] #[.pointer (some ⟨kb,0,none⟩),.pointer (some ⟨cb,0,none⟩)])))) (by kernel_rfl) ?_ fun aa=> ?_
       ·exact KS.X _ (y5 _ _).drew
       have eS:Zb (Za wr.heap.size wr wr.drew):=(y5 _ _).drew;generalize wr.drew=wd at*;refine tkH 0 aa ?_;refine tkH 1 aa ?_;refine tkH 2 aa ?_;refine tkH 3 aa ?_;refine tkH 4 aa ?_;refine tkH 5 aa ?_;refine tkH 6 aa ?_;refine tkH 7 aa ?_;refine tkH 8 aa ?_;refine xQ (rs:=[9,14]) (by kernel_rfl) (by simp) ?_;refine xL rfl (fun K hK=> ?_) ?_
       ·skip
        go_simp;refine(DS.X wd eS.X).mono ?_;rintro e w2 ⟨ag,n2,ai,ak,l2,aj,R2,rfl,hb,cN,dW,cX⟩;have j':=za4 (eS.X.trans (hb.mono eS.X.size));have sp:=za4 dW;have KX:=za4 cN;have OX:Zb (zi8 z9 ag ak R2 (DM i)):=cX z9 (xw j5 eS.X.size) F5.X;clear hb cN dW cX
        (try go_wp2_with fail)
        refine hoW hK (KS.X _ j'.X) fun aa=> ?_;clear hK K;refine tkH 10 aa ?_;refine tkH 11 aa ?_;refine tkH 12 aa ?_;refine tkH 13 aa ?_;refine rdH 14 fun K hK=> ?_;have eF:=za4 (j'.X.trans (((y5 w2.heap.size w2).alloc (zT _) (zg #[za none 0 0,za none 0 0] 33)).mono j'.X.size));have aw:=za4 (zS w2 (zg #[za none 0 0,za none 0 0] 33));have aH:Zb (wr.heap.size<=w2.heap.size):=j'.X.size;have Ei:=za4 (sp.X.below ((y5 w2.heap.size w2).alloc (zT _) (zg #[za none 0 0,za none 0 0] 33)));go_simp;refine hoW hK (KS.X _ eF.X) fun aa=> ?_;clear hK K;obtain⟨kz,cz⟩:=nmd w2.heap.size;rw[cz.X]at aw aH⊢;generalize(w2.alloc _)=wz at*;obtain⟨z0,z1⟩:=za1 aw.X;have zf:=fun i=>yZ _ _ i _ _ aw.X;refine rdH 15 fun K hK=> ?_;have V9:Zb (((wz.setCell ⟨kz,0,none⟩ (za ag n2 ai)).setCell ⟨kz,1,none⟩ (za ak l2 aj)).heap[kz]? =some (zg #[za ag n2 ai,za ak l2 aj] 33 (0,0))):=zi5 aw.X;have B9:Zb (Za wr.heap.size wr ((wz.setCell ⟨kz,0,none⟩ (za ag n2 ai)).setCell ⟨kz,1,none⟩ (za ak l2 aj))):=(eF.X.setCell aH.X _).setCell aH.X _;have P9:Zb (zc2 ((wz.setCell ⟨kz,0,none⟩ (za ag n2 ai)).setCell ⟨kz,1,none⟩ (za ak l2 aj)) ag ak n2 l2 R2 (DM i)):=ze3 Ei.X aw.X;go_simp;refine hoW hK (KS.X _ B9.X) fun aa=> ?_;clear hK K;generalize((wz.setCell ⟨kz,0,none⟩ _).setCell ⟨kz,1,none⟩ _)=w6 at*;refine tkH 16 aa ?_;refine tkH 17 aa ?_;refine qF (by kernel_rfl) ?_ _;clear aa
        (try go_wp2_with fail)
        go_meet;exact⟨kz,ag,n2,ai,ak,l2,aj,R2,rfl,rfl,rfl,B9.X,aH.X,V9.X,P9.X,KX.X,OX.X⟩
       refine xL rfl (fun K hK=> ?_) xP;have eF:=za4 (eS.X.trans (((y5 wd.heap.size wd).alloc (zT _) (zg #[za none 0 0,za none 0 0] 33)).mono eS.X.size));have aw:=za4 (zS wd (zg #[za none 0 0,za none 0 0] 33));have aH:Zb (wr.heap.size<=wd.heap.size):=eS.X.size;go_simp;refine hoW hK (KS.X _ eF.X) fun aa=> ?_;clear hK K;obtain⟨kz,cz⟩:=nmd wd.heap.size;rw[cz.X]at aw aH⊢;generalize(wd.alloc _)=wz at*;obtain⟨z0,z1⟩:=za1 aw.X;have zf:=fun i=>yZ _ _ i _ _ aw.X;refine rdH 9 fun K hK=> ?_;go_simp;refine(DS.X wz eF.X).mono ?_;rintro e w2 ⟨ag,n2,ai,ak,l2,aj,R2,rfl,hb,cN,dW,cX⟩;have j':=za4 (eF.X.trans (hb.mono eF.X.size));have sp:=za4 dW;have KX:=za4 cN;have OX:Zb (zi8 z9 ag ak R2 (DM i)):=cX z9 (xw j5 eF.X.size) F5.X;have eu:=za4 (za0 hb (za2 aw.X) aw.X);obtain⟨z0,z1⟩:=za1 eu.X;have zf:=fun i=>yZ _ _ i _ _ eu.X;clear hb cN dW cX
       (try go_wp2_with fail)
       refine hoW hK (KS.X _ j'.X) fun aa=> ?_;clear hK K;refine tkH 10 aa ?_;refine tkH 11 aa ?_;refine tkH 12 aa ?_;refine tkH 13 aa ?_;refine rdH 15 fun K hK=> ?_;have V9:Zb (((w2.setCell ⟨kz,0,none⟩ (za ag n2 ai)).setCell ⟨kz,1,none⟩ (za ak l2 aj)).heap[kz]? =some (zg #[za ag n2 ai,za ak l2 aj] 33 (0,0))):=zi5 eu.X;have B9:Zb (Za wr.heap.size wr ((w2.setCell ⟨kz,0,none⟩ (za ag n2 ai)).setCell ⟨kz,1,none⟩ (za ak l2 aj))):=(j'.X.setCell aH.X _).setCell aH.X _;have P9:Zb (zc2 ((w2.setCell ⟨kz,0,none⟩ (za ag n2 ai)).setCell ⟨kz,1,none⟩ (za ak l2 aj)) ag ak n2 l2 R2 (DM i)):=ze3 sp.X eu.X;go_simp;refine hoW hK (KS.X _ B9.X) fun aa=> ?_;clear hK K;generalize((w2.setCell ⟨kz,0,none⟩ _).setCell ⟨kz,1,none⟩ _)=w6 at*;refine tkH 16 aa ?_;refine tkH 17 aa ?_;refine qF (by kernel_rfl) ?_ _;clear aa
       (try go_wp2_with fail)
       go_meet;exact⟨kz,ag,n2,ai,ak,l2,aj,R2,rfl,rfl,rfl,B9.X,aH.X,V9.X,P9.X,KX.X,OX.X⟩
      case rest=>
       obtain⟨kz,ag,n2,ai,ak,l2,aj,R2,rfl,rfl,rfl,hb,vA,hz,dW,cN,eY⟩:=hcut;have tI:Zb (w.heap.size+3<=b1/\b1<=m2/\m2<=z9/\z9<wr.heap.size/\wr.heap.size<=wc.heap.size):=⟨gw,aC,(O5.X.lt z9 rfl).1,j5,hb.size⟩;have Q7:=za4 (Q5.X.below hb);have D7:=za4 (D5.X.below hb);have P7:=za4 (P5.X.below hb);have O7:=za4 (zv8 O5.X hb (fun k e=>(O5.X.lt k e).2));have Z7:=za4 hz;have X7:=za4 dW;have Y7:=za4 cN;have U7:=za4 eY;clear Q5 D5 P5 O5 DS KS hb hz dW cN eY Ih nF Ay Fk HJ;cases hF:F i
       ·obtain⟨e1,e2,e3⟩:=ST.X.no i (fun h=>by rw[hF]at h;cases h)
        obtain⟨q1,q2,q3,q4,q5⟩:=tI.X;have q6:m2<=z9/\z9<wc.heap.size:=O7.X.lt z9 rfl;have hW:Za wc.heap.size wc (wc.alloc (zg #[ze zd (C i)] 2)):=zP _
        go_wp2_with(
         at_builtin;refine zc9 _ rfl (.tmp 72) (.tmp 74) rfl m2 (za (some ⟨z9,0,none⟩) (i+1) c9) (i+1) (T i) rfl (O7.X.alloc _) wc.heap.size 0 1 1 [(C i)] rfl rfl (ze2 wc (C i)) (by omega) (by omega) (by simp;omega) ?_;intro v' w8 ae hg hv aW;obtain⟨z8,c8,tY⟩:∃z8 c8,v'=za (some ⟨z8,0,none⟩) (i+1+1) c8:=by
          rcases own_kinds ae with⟨_,h2⟩|⟨g9,c8,h1,_⟩
          ·omega
          ·exact⟨g9,c8,h1⟩
         subst tY;have Q8:=za4 ((Q7.X.below hW).grownL (z:=z9) hg (by omega));have D8:=za4 ((D7.X.below hW).grown hg (fun z e=>(by simpa[zm]using e:z9=z)▸q3));have P8:Zb (zc2 w8 aO cQ bG bm R9 (SM i)):=(P7.X.below hW).grownL (z:=z9) hg F5.X;have O8:=za4 ae;have F8:Zb (zi8 z8 aO cQ R9 (SM i)):=by
          rcases hv with h|h
          ·have h1:z8=z9:=by simpa[zm]using h
           rw[h1];exact F5.X
          ·have h1:z8=(wc.alloc (zg #[ze zd (C i)] 2)).heap.size:=by simpa[zm]using h
           rw[h1];exact(P7.X.below hW).far (zT _)
         clear ae hg hv aW)
        go_roundw
        case rel=>exact⟨i+1,aO,cQ,bG,bg,bm,dI,z8,c8,R9,by omega,by first|rfl|go_num,rfl,by rw[e3],Q8.X,D8.X,by rw[e2];exact P8.X,by rw[e1];exact K5.X,rfl,by rw[TS.X,e3];exact O8.X,by rw[e2];exact F8.X⟩
        case measure=>simp[intOf];omega
       ·have RB:=ST.X.reb i wc ag ak n2 ai l2 aj R2 hF Q7.X.b X7.X Y7.X
        have HO:=tI.X;have aq:(za (some ⟨z9,0,none⟩) (i+1) c9).ownBlock≠some kz:=fun h=>by
         have h1:z9=kz:=by simpa[zm]using h
         omega
        have pU:(za (some ⟨z9,0,none⟩) (i+1) c9).ownBlock≠some (w.heap.size+1):=fun h=>by
         have h1:z9=w.heap.size+1:=by simpa[zm]using h
         omega
        obtain⟨c0,c1,c2,c3,c4⟩:=za7 Q7.X.c;obtain⟨z0,z1⟩:=za1 Z7.X
        go_wp2_with fail
        refine RB.mono ?_;rintro e w4 ⟨bj,n4,bD,bY,l4,bJ,R4,rfl,hb,eL,gM,cX⟩;have QA:=za4 (Q7.X.below hb);have DA:=za4 (D7.X.below hb);have PA:=za4 (P7.X.below hb);have OA:=za4 (zv8 O7.X hb (fun k e=>(O7.X.lt k e).2));have ZA:=za4 (za0 hb (za2 Z7.X) Z7.X);have XA:=za4 gM;have KA:=za4 eL;have UA:Zb (zi8 z9 bj bY R4 (YM i)):=cX z9 (by omega) U7.X;clear hb eL gM cX RB c0 c1 c2 c3 c4 z0 z1 Q7 D7 P7 O7 Z7 X7 Y7 U7;have QB:Zb (GQ w ((w4.setCell ⟨kz,0,none⟩ (za bj n4 bD)).setCell ⟨kz,1,none⟩ (za bY l4 bJ)) #[ze zd n,za a zl ac,za ao ko co,za av kv cv,ze zd fine] #[za aO bG bg,za cQ bm dI]):=(QA.X.set (by omega)).set (by omega);have DB:Zb (zm2 ((w4.setCell ⟨kz,0,none⟩ (za bj n4 bD)).setCell ⟨kz,1,none⟩ (za bY l4 bJ)) b1 m2 g #[ze zd n,za a zl ac,za ao ko co,za av kv cv,ze zd fine]):=(DA.X.set (.inr (by omega))).set (.inr (by omega));have PB:Zb (zc2 ((w4.setCell ⟨kz,0,none⟩ (za bj n4 bD)).setCell ⟨kz,1,none⟩ (za bY l4 bJ)) aO cQ bG bm R9 (SM i)):=ze3 PA.X ZA.X;have XB:Zb (zc2 ((w4.setCell ⟨kz,0,none⟩ (za bj n4 bD)).setCell ⟨kz,1,none⟩ (za bY l4 bJ)) bj bY n4 l4 R4 (YM i)):=ze3 XA.X ZA.X;have OB:Zb (((w4.setCell ⟨kz,0,none⟩ (za bj n4 bD)).setCell ⟨kz,1,none⟩ (za bY l4 bJ)).ownsRow m2 2 1 (za (some ⟨z9,0,none⟩) (i+1) c9) (i+1) ((T i).map (ze zd))):=zf1 (zf1 OA.X 0 _ aq) 1 _ aq;have ZB:Zb (((w4.setCell ⟨kz,0,none⟩ (za bj n4 bD)).setCell ⟨kz,1,none⟩ (za bY l4 bJ)).heap[kz]? =some (zg #[za bj n4 bD,za bY l4 bJ] 33 (0,0))):=zi5 ZA.X;obtain⟨z0,z1⟩:=za1 ZA.X;have zf:=fun i=>yZ _ _ i _ _ ZA.X;obtain⟨c0,c1,c2,c3,c4⟩:=za7 QB.X.c;obtain⟨x0,x1⟩:=za1 ZB.X
        go_wp2_with fail
        refine(ST.X.cost i _ bj bY n4 bD l4 bJ R4 hF QB.X.b XB.X KA.X).mono ?_;generalize((w4.setCell ⟨kz,0,none⟩ _).setCell ⟨kz,1,none⟩ _)=w5 at*;rintro e w6 ⟨rfl,hb⟩;have QC:=za4 (QB.X.below hb);have DC:=za4 (DB.X.below hb);have PC:=za4 (PB.X.below hb);have XC:=za4 (XB.X.below hb);have OC:=za4 (zv8 OB.X hb (fun k e=>(OB.X.lt k e).2));have ZC:=za4 (za0 hb (za2 ZB.X) ZB.X);clear hb z0 z1 zf c0 c1 c2 c3 c4 x0 x1 QA DA PA OA ZA XA QB DB PB XB OB ZB;clear HO;by_cases hyc:YC i<C i
        ·obtain⟨e1,e2,e3⟩:=ST.X.yes i hF hyc
         have HO:=tI.X;have QD:Zb (GQ w ((w6.setCell ⟨w.heap.size+1,0,none⟩ (za bj n4 bD)).setCell ⟨w.heap.size+1,1,none⟩ (za bY l4 bJ)) #[ze zd n,za a zl ac,za ao ko co,za av kv cv,ze zd fine] #[za bj n4 bD,za bY l4 bJ]):=QC.X.plan _ _;have DD:Zb (zm2 ((w6.setCell ⟨w.heap.size+1,0,none⟩ (za bj n4 bD)).setCell ⟨w.heap.size+1,1,none⟩ (za bY l4 bJ)) b1 m2 g #[ze zd n,za a zl ac,za ao ko co,za av kv cv,ze zd fine]):=(DC.X.set (.inl (by omega))).set (.inl (by omega));have XD:Zb (zc2 ((w6.setCell ⟨w.heap.size+1,0,none⟩ (za bj n4 bD)).setCell ⟨w.heap.size+1,1,none⟩ (za bY l4 bJ)) bj bY n4 l4 R4 (YM i)):=ze3 XC.X QC.X.p;have OD:Zb (((w6.setCell ⟨w.heap.size+1,0,none⟩ (za bj n4 bD)).setCell ⟨w.heap.size+1,1,none⟩ (za bY l4 bJ)).ownsRow m2 2 1 (za (some ⟨z9,0,none⟩) (i+1) c9) (i+1) ((T i).map (ze zd))):=zf1 (zf1 OC.X 0 _ pU) 1 _ pU;have dy:decide (YC i<C i)=true:=zW hyc;obtain⟨z0,z1⟩:=za1 ZC.X;obtain⟨p0,p1⟩:=za1 QC.X.p;have pf:=fun i=>yZ _ _ i _ _ QC.X.p;clear HO;go_upto_region 16 with fail;generalize((w6.setCell ⟨w.heap.size+1,0,none⟩ _).setCell ⟨w.heap.size+1,1,none⟩ _)=w7 at*;clear z0 z1 p0 p1 pf QC DC PC XC OC ZC;obtain⟨q1,q2,q3,q4,q5⟩:=tI.X;have q6:m2<=z9/\z9<w7.heap.size:=OD.X.lt z9 rfl;have hW:Za w7.heap.size w7 (w7.alloc (zg #[ze zd (YC i)] 2)):=zP _
         go_wp2_with(
          at_builtin;refine zc9 _ rfl (.tmp 72) (.tmp 74) rfl m2 (za (some ⟨z9,0,none⟩) (i+1) c9) (i+1) (T i) rfl (OD.X.alloc _) w7.heap.size 0 1 1 [(YC i)] rfl rfl (ze2 w7 (YC i)) (by omega) (by omega) (by simp;omega) ?_;intro v' w8 ae hg hv aW;obtain⟨z8,c8,tY⟩:∃z8 c8,v'=za (some ⟨z8,0,none⟩) (i+1+1) c8:=by
           rcases own_kinds ae with⟨_,h2⟩|⟨g9,c8,h1,_⟩
           ·omega
           ·exact⟨g9,c8,h1⟩
          subst tY;have Q8:=za4 ((QD.X.below hW).grownL (z:=z9) hg (by omega));have D8:=za4 ((DD.X.below hW).grown hg (fun z e=>(by simpa[zm]using e:z9=z)▸q3));have P8:Zb (zc2 w8 bj bY n4 l4 R4 (YM i)):=(XD.X.below hW).grownL (z:=z9) hg UA.X;have O8:=za4 ae;have F8:Zb (zi8 z8 bj bY R4 (YM i)):=by
           rcases hv with h|h
           ·have h1:z8=z9:=by simpa[zm]using h
            rw[h1];exact UA.X
           ·have h1:z8=(w7.alloc (zg #[ze zd (YC i)] 2)).heap.size:=by simpa[zm]using h
            rw[h1];exact(XD.X.below hW).far (zT _)
          clear ae hg hv aW)
         go_roundw
         case rel=>exact⟨i+1,bj,bY,n4,bD,l4,bJ,z8,c8,R4,by omega,by first|rfl|go_num,rfl,by rw[e3],Q8.X,D8.X,by rw[e2];exact P8.X,by rw[e1];exact KA.X,rfl,by rw[TS.X,e3];exact O8.X,by rw[e2];exact F8.X⟩
         case measure=>simp[intOf];omega
        ·obtain⟨e1,e2,e3⟩:=ST.X.no i (fun _=>hyc)
         have dn:decide (YC i<C i)=false:=zX hyc;obtain⟨q1,q2,q3,q4,q5⟩:=tI.X;have q6:m2<=z9/\z9<w6.heap.size:=OC.X.lt z9 rfl;have hW:Za w6.heap.size w6 (w6.alloc (zg #[ze zd (C i)] 2)):=zP _
         go_wp2_with(
          at_builtin;refine zc9 _ rfl (.tmp 72) (.tmp 74) rfl m2 (za (some ⟨z9,0,none⟩) (i+1) c9) (i+1) (T i) rfl (OC.X.alloc _) w6.heap.size 0 1 1 [(C i)] rfl rfl (ze2 w6 (C i)) (by omega) (by omega) (by simp;omega) ?_;intro v' w8 ae hg hv aW;obtain⟨z8,c8,tY⟩:∃z8 c8,v'=za (some ⟨z8,0,none⟩) (i+1+1) c8:=by
           rcases own_kinds ae with⟨_,h2⟩|⟨g9,c8,h1,_⟩
           ·omega
           ·exact⟨g9,c8,h1⟩
          subst tY;have Q8:=za4 ((QC.X.below hW).grownL (z:=z9) hg (by omega));have D8:=za4 ((DC.X.below hW).grown hg (fun z e=>(by simpa[zm]using e:z9=z)▸q3));have P8:Zb (zc2 w8 aO cQ bG bm R9 (SM i)):=(PC.X.below hW).grownL (z:=z9) hg F5.X;have O8:=za4 ae;have F8:Zb (zi8 z8 aO cQ R9 (SM i)):=by
           rcases hv with h|h
           ·have h1:z8=z9:=by simpa[zm]using h
            rw[h1];exact F5.X
           ·have h1:z8=(w6.alloc (zg #[ze zd (C i)] 2)).heap.size:=by simpa[zm]using h
            rw[h1];exact(PC.X.below hW).far (zT _)
          clear ae hg hv aW)
         go_roundw
         case rel=>exact⟨i+1,aO,cQ,bG,bg,bm,dI,z8,c8,R9,by omega,by first|rfl|go_num,rfl,by rw[e3],Q8.X,D8.X,by rw[e2];exact P8.X,by rw[e1];exact K5.X,rfl,by rw[TS.X,e3];exact O8.X,by rw[e2];exact F8.X⟩
         case measure=>simp[intOf];omega
     ·have pt:i=N:=by omega
      subst pt;clear ah;have Dc:R9.length=(SR i).length:=by have:=congrArg zo K5.X;simpa using this
      have CC:=zK4 aO cQ bg dI R9 (SM i) wr P5.X.2.2.1 P5.X.2.2.2.1 (P5.X.2.2.2.2.2.1.imp (fun h=>⟨h.1,P5.X.2.1.trans h.2⟩) id) (by have:=Fz.X.2.1;omega) (fun r hr=>z13 K5.X Fz.X.1 r hr) Fz.X.2.2;have fE:Zb (R9.length=bG):=P5.X.1;have fT:Zb ((SM i).length=bm):=P5.X.2.1;rw[fE.X,fT.X]at CC;clear Dc;obtain⟨p0,p1⟩:=za1 Q5.X.p
      go_wp2_with fail
      refine CC.mono ?_;rintro e w6 ⟨bj,bD,bY,bJ,S4,rfl,hb,eL,da,Bp⟩;rw[fE.X,fT.X]at da;rw[fE.X,fT.X];have Q6:=za4 (Q5.X.below hb);have P6:=za4 da;have Ns:=za4 (eL.trans K5.X);have l9:Zb (S4.length=bG):=by have:=congrArg zo eL;simp only[qT]at this;exact this.trans fE.X
      have oS:=za4 Bp;have O6:=za4 (zv8 O5.X hb (fun k e=>(O5.X.lt k e).2));have Z6:Zb (z9<wr.heap.size):=(O5.X.lt z9 rfl).2;have LI:Zb (w.heap.size+3<=wr.heap.size):=Q5.X.size;have Iu:Zb (m2<=z9):=(O5.X.lt z9 rfl).1;clear hb da eL Bp CC p0 p1 Q5 D5 P5 K5 O5 F5;obtain⟨a0,a1⟩:=za1 Q6.X.o;have af:=fun i=>yZ _ _ i _ _ Q6.X.o;have s1:=xb w6 (w.heap.size+2) 0 _ _ (za bj bG bD) Q6.X.o;have P7:Zb (PO ((w6.setCell ⟨w.heap.size+2,0,none⟩ (za bj bG bD)).setCell ⟨w.heap.size+2,1,none⟩ (za bY bm bJ)) (wr.heap.size+2) (za bj bG bD) S4 (za bY bm bJ) (SM i)):=(P6.X.box Q6.X.o).box s1;have B7:Zb (Za w.heap.size w ((w6.setCell ⟨w.heap.size+2,0,none⟩ (za bj bG bD)).setCell ⟨w.heap.size+2,1,none⟩ (za bY bm bJ))):=(Q6.X.b.setCell (by simp) _).setCell (by simp) _;have aq:(za (some ⟨z9,0,none⟩) (i+1) c9).ownBlock≠some (w.heap.size+2):=fun h=>by
       have h1:z9=w.heap.size+2:=by simpa[zm]using h
       have:=Iu.X;omega
      have O7:Zb (((w6.setCell ⟨w.heap.size+2,0,none⟩ (za bj bG bD)).setCell ⟨w.heap.size+2,1,none⟩ (za bY bm bJ)).ownsRow m2 2 1 (za (some ⟨z9,0,none⟩) (i+1) c9) (i+1) ((T i).map (ze zd))):=zf1 (zf1 O6.X 0 _ aq) 1 _ aq;clear s1 aq;go_wp2;refine xe (v:=.tuple #[.agg #[za bj bG bD,za bY bm bJ],za (some ⟨z9,0,none⟩) (i+1) c9,.bool true]) (by simp[results,Tryz.results7,go_sem,a0,a1]) rfl ?_;show zN5 _ _ _ _ _ _ _;have bW:=LI.X;have BF:=Z6.X;exact⟨bj,bG,bD,bY,bm,bJ,S4,_,wr.heap.size+2,rfl,B7.X,l9.X,fT.X,Ns.X,by omega,P7.X,oS.X,by rw[TL.X];exact zb5 O7.X (by omega),fun z hz=>by
       have h1:z9=z:=by simpa[zm]using hz
       omega⟩
 ·have ur:(pv !=0)=true:=by simp[dq]
  obtain⟨a0,a1⟩:=za1 Q1.X.o;have af:=fun i=>yZ _ _ i _ _ Q1.X.o;have B5:Zb (Za w.heap.size w ((w1.setCell ⟨w.heap.size+2,0,none⟩ (za none 0 0)).setCell ⟨w.heap.size+2,1,none⟩ (za none 0 0))):=(Q1.X.b.setCell (by simp) _).setCell (by simp) _;rw[zX dq,jj]at d7;have m7:GB=false:=by rw[d7.X];try rfl
  subst m7;obtain⟨g2,g3,g4⟩:=bw.X rfl;subst g2 g3 g4;clear bw fy
  go_wp2_with(first|(go_at_call 32;refine(zc3 _ _ _ _).mono ?_;rintro e w' ⟨rfl,dx⟩;subst w';rw[di.X])|(go_at_call 33;refine(zl5 _ _).mono ?_;rintro e w' ⟨rfl,dx⟩;subst w';rw[d9.X]))
  refine xe (v:=.tuple #[.agg #[za none 0 0,za none 0 0],za none 0 0,.bool false]) (by simp[results,Tryz.results7,go_sem,a0,a1]) rfl ?_;show zN5 _ _ _ _ _ _ _;exact⟨none,0,0,none,0,0,[],za none 0 0,w.heap.size,rfl,B5.X,rfl,rfl,rfl,zT _,⟨xZ _ _ _ _,(fun s hs=>by cases hs),xZ _ _ _ _⟩,z53.nil _,xZ _ _ _ _,fun z hz=>by cases hz⟩
theorem ys4{w:zi}{base n m rc lc:Nat}{ra la:Option Zd}{S:List RT}{L:List Int}(h:PO w base (za ra n rc) S (za la m lc) L){x:Nat}(hx:w.heap.size<=x):Off x ra la S:=by
 refine⟨fun b off e=> ?_,fun b off e=> ?_,fun r hr b off e=> ?_⟩
 ·have:=(h.r.lt b (by rw[e];rfl)).2;omega
 ·have:=(h.l.lt b (by rw[e];rfl)).2;omega
 ·have:=((h.s r hr).lt b (by rw[e];rfl)).2;omega
theorem PO.grownL{W W':zi}{base n m rc lc z:Nat}{ra la:Option Zd}{S:List RT}{L:List Int}(h:PO W base (za ra n rc) S (za la m lc) L)(hg:W.grownBy W' (some z))(ho:Off z ra la S):PO W' base (za ra n rc) S (za la m lc) L:=by
 have hk:∀{size k N:Nat} {e:TypeId} {a:Option Zd} {c:Nat} {xs:List Value},(∀b off,a=some ⟨b,off,none⟩->b≠z)->W.ownsRow base e size (za a k c) N xs->(za a k c).ownBlock≠some z:=fun{size k N e a c xs} h1 h2 h3=>by
  rcases own_kinds h2 with⟨e9,_⟩|⟨g,c9,e9,_⟩
  ·injection e9 with e9 _ _
   subst e9;cases h3
  ·injection e9 with e9 _ _
   subst e9;exact h1 g 0 rfl (by simpa[zm]using h3)
 exact⟨h.r.kept hg (.inr (hk ho.1 h.r)),fun s hs=>(h.s s hs).kept hg (.inr (hk (ho.2.2 s hs) (h.s s hs))),h.l.kept hg (.inr (hk ho.2.1 h.l))⟩
structure yI5(w:zi)(cs:Array Value)(SR:Nat->List RT)(SM:Nat->List Int)(SD:Nat->Int)(DR:Nat->List RT)(DM:Nat->List Int)(F:Nat->Bool)(GR:Nat->List RT)(GM:Nat->List Int)(YR:Nat->List RT)(YM:Nat->List Int)(YC C XN:Nat->Int):Prop where
 dest:∀(i:Nat) (W:zi) (ra la:Option Zd) (nr rc ln lc:Nat) (R:List RT),Za w.heap.size w W->zc2 W ra la nr ln R (SM i)->R.map RT.key=(SR i).map RT.key->Zc zh 42 #[.agg cs,.agg #[za ra nr rc,za la ln lc],ze zd (SD i),ze zd (seK i)] W (z16 W (SD (i+1)) (F i) (DR i) (DM i))
 grd:∀(i:Nat) (W:zi) (ra:Option Zd) (base g nr rc ln lc:Nat) (R:List RT),F i=true->Za w.heap.size w W->PO W base (za ra nr rc) R (za (some ⟨g,0,none⟩) ln lc) (DM i)->R.length=nr->(DM i).length=ln->R.map RT.key=(DR i).map RT.key->Zc zh 44 #[.agg cs,.agg #[za ra nr rc,za (some ⟨g,0,none⟩) ln lc]] W (yb8 W (GR i) (GM i))
 desc:∀(i:Nat) (W:zi) (ra la:Option Zd) (nr rc ln lc:Nat) (R:List RT),F i=true->Za w.heap.size w W->zc2 W ra la nr ln R (GM i)->R.map RT.key=(GR i).map RT.key->Zc zh 43 #[.agg cs,.agg #[za ra nr rc,za la ln lc],ze zd 3] W (z90 W (XN i) (YR i) (YM i))
 costY:∀(i:Nat) (W:zi) (ra la:Option Zd) (nr rc ln lc:Nat) (R:List RT),F i=true->Za w.heap.size w W->zc2 W ra la nr ln R (YM i)->R.map RT.key=(YR i).map RT.key->Zc zh 41 #[.agg cs,.agg #[za ra nr rc,za la ln lc]] W fun e w'=>e=.returned (ze zd (YC i))/\Za W.heap.size W w'
 cost:∀(i:Nat) (W:zi) (ra la:Option Zd) (nr rc ln lc:Nat) (R:List RT),Za w.heap.size w W->zc2 W ra la nr ln R (SM i)->R.map RT.key=(SR i).map RT.key->Zc zh 41 #[.agg cs,.agg #[za ra nr rc,za la ln lc]] W fun e w'=>e=.returned (ze zd (C i))/\Za W.heap.size W w'
 yes:∀i,F i=true->YC i<C i->SR (i+1)=YR i/\SM (i+1)=YM i/\C (i+1)=YC i
 no:∀i,(F i=true->¬YC i<C i)->SR (i+1)=SR i/\SM (i+1)=SM i/\C (i+1)=C i
theorem zU6(n fine:Int)(a ao av ra la:Option Zd)(zl ac ko co kv cv nr rc ln lc:Nat)(zs os vs L:List Int)(R:List RT)(w:zi)(hA:za3 w a zs)(hO:za3 w ao os)(hV:za3 w av vs)(aN:zs.length=zl)(an:os.length=ko*6)(au:vs.length=kv*5)(hP:zc2 w ra la nr ln R L)(aT:zc1 n zs os vs ko kv fine R L=0):
 Zc zh 41 #[.agg #[ze zd n,za a zl ac,za ao ko co,za av kv cv,ze zd fine],.agg #[za ra nr rc,za la ln lc]] w fun e w'=>e=.returned (ze zd (zp0 n zs os vs ko kv fine R L))/\Za w.heap.size w w':=by
 have cW:=(zb7 aT).1;have aA:ko<=12:=(zd8 (zb2 cW).2.1).1;have aB:kv<=5:=(zf3 (zb2 cW).2.2.1).1;obtain⟨p1,p2,p3,p4,p5,p6,p7⟩:=hP;have:=z79 n fine a ao av ra la ac ko co kv cv rc lc zs os vs L R w hA hO hV p3 an au (by omega) (by omega) aT;rw[aN,p1,p2]at this;unfold zp0;rw[z7 aT,p1,p2];exact this
theorem zE0{n fine:Int}{zs os vs:List Int}{ko kv:Nat}{R:List RT}{L:List Int}(h:zc1 n zs os vs ko kv fine R L=0):ko<=9223372036854775807/\kv<=9223372036854775807/\R.length<=1048576/\(∀r∈R,r.ids≠[]/\r.ids.length<=12)/\L.length<=1048576/\(zb0 R R.length).length<=1048576:=by
 have cW:=(zb7 h).1;have aA:ko<=12:=(zd8 (zb2 cW).2.1).1;have aB:kv<=5:=(zf3 (zb2 cW).2.2.1).1;obtain⟨_,g2,_,_,h5⟩:=zb7 h;obtain⟨_,aP⟩:=zh4.1 g2;have hs:=ze6 h;exact⟨by omega,by omega,by omega,fun r hr=>⟨(aP r hr).1,zk2 (aP r hr).2⟩,by omega,by omega⟩
theorem yH4(sd n fine:Int)(a ao:Option Zd)(bv ov zl ac ko co kv cv:Nat)(zs os vs L:List Int)(R:List RT)(w:zi)(hA:za3 w a zs)(hO:za3 w ao os)(hV:za3 w (some ⟨bv,ov,none⟩) vs)(aN:zs.length=zl)(an:os.length=ko*6)(au:vs.length=kv*5)(aT:zc1 n zs os vs ko kv fine R L=0)(hs:inB sd 0 2147483647=true):
 ∃(DR:Nat->List RT) (DM:Nat->List Int) (F:Nat->Bool) (GR:Nat->List RT) (GM:Nat->List Int) (YR:Nat->List RT) (YM:Nat->List Int) (YC XN:Nat->Int),yI5 w #[ze zd n,za a zl ac,za ao ko co,za (some ⟨bv,ov,none⟩) kv cv,ze zd fine] (fun i=>(seP sd n fine zs os vs ko kv R L i).1.1) (fun i=>(seP sd n fine zs os vs ko kv R L i).1.2) (fun i=>(seP sd n fine zs os vs ko kv R L i).2) DR DM F GR GM YR YM YC (seC sd n fine zs os vs ko kv R L) XN:=by
 obtain⟨P,hP⟩:∃P,P=seP sd n fine zs os vs ko kv R L:=⟨_,rfl⟩;have lV:∀i,zc1 n zs os vs ko kv fine (P i).1.1 (P i).1.2=0/\inB (P i).2 0 2147483647=true:=by rw[hP];exact z33 aT hs
 have fP:∀i,P (i+1)=(seN (P i).2 (seK i) n fine zs os vs ko kv (P i).1.1 (P i).1.2,deN (P i).2 (seK i) n fine zs os vs ko kv (P i).1.1 (P i).1.2):=fun i=>by rw[hP];rfl
 have hC:∀i,seC sd n fine zs os vs ko kv R L i=zp0 n zs os vs ko kv fine (P i).1.1 (P i).1.2:=fun i=>by rw[hP];rfl
 rw[<-hP];have bH:=(lV 0).1;have cW:=(zb7 bH).1;have aA:ko<=12:=(zd8 (zb2 cW).2.1).1;have aB:kv<=5:=(zf3 (zb2 cW).2.2.1).1;obtain⟨D,hD⟩:∃D:Nat->List RT×List Int,D=fun i=>(deR (P i).2 (seK i) n fine zs os vs ko kv (P i).1.1 (P i).1.2,deL (P i).2 (seK i) n fine zs os vs ko kv (P i).1.1 (P i).1.2):=⟨_,rfl⟩;have vP:∀i,deR (P i).2 (seK i) n fine zs os vs ko kv (P i).1.1 (P i).1.2=(D i).1/\deL (P i).2 (seK i) n fine zs os vs ko kv (P i).1.1 (P i).1.2=(D i).2:=fun i=>by rw[hD];exact⟨rfl,rfl⟩
 obtain⟨G,hG⟩:∃G:Nat->List RT×List Int,G=fun i=>grd n fine zs os vs ko kv (D i).2.length (D i).1 (D i).2:=⟨_,rfl⟩;have vh:∀i,grd n fine zs os vs ko kv (D i).2.length (D i).1 (D i).2=G i:=fun i=>by rw[hG]
 have JV:∀i,deF (P i).2 (seK i) n fine zs os vs ko kv (P i).1.1 (P i).1.2=true->zc1 n zs os vs ko kv fine (D i).1 (D i).2=0:=fun i h=>by
  have h9:=(zD4 h).2.2;rw[(vP i).1,(vP i).2]at h9;exact h9
 have Fq:∀i,deF (P i).2 (seK i) n fine zs os vs ko kv (P i).1.1 (P i).1.2=true->zc1 n zs os vs ko kv fine (G i).1 (G i).2=0:=fun i h=>by
  have h9:=(zC7 (D i).2.length _ _ (JV i h)).1;rw[vh]at h9;exact h9
 have FA:∀i,seD (P i).2 (seK i) n fine zs os vs ko kv (P i).1.1 (P i).1.2=(dsR n fine zs os vs ko kv (G i).2 3 (G i).1,(G i).2):=fun i=>by
  unfold seD seY;rw[(vP i).1,(vP i).2,vh]
 refine⟨fun i=>(D i).1,fun i=>(D i).2,fun i=>deF (P i).2 (seK i) n fine zs os vs ko kv (P i).1.1 (P i).1.2,fun i=>(G i).1,fun i=>(G i).2,fun i=>dsR n fine zs os vs ko kv (G i).2 3 (G i).1,fun i=>(G i).2,fun i=>zp0 n zs os vs ko kv fine (dsR n fine zs os vs ko kv (G i).2 3 (G i).1) (G i).2,fun i=>dcN 3 n fine zs os vs ko kv (G i).1 (G i).2,?_,?_,?_,?_,?_,?_,?_⟩
 ·intro i W ra la nr rc ln lc R2 hW hp hk
  have hv:zc1 n zs os vs ko kv fine R2 (P i).1.2=0:=by rw[zd6 _ hk];exact(lV i).1
  obtain⟨b1,b2,b3,b4,b5,b6⟩:=zE0 hv;have h:=zB7 (P i).2 (seK i) n fine a ao _ ra la zl ac ko co kv cv nr rc ln lc zs os vs (P i).1.2 R2 W (hA.below hW) (hO.below hW) (hV.below hW) aN an au b1 b2 hp (by rw[<-hp.1];exact b3) (fun r hr=>by have:=(b4 r hr).2;omega) (by rw[<-hp.2.1];exact b5) b6;rw[yh5 _ _ _ _ _ _ _ _ _ _ hk,yf3 _ _ _ _ _ _ _ _ _ _ hk,yb5 _ _ _ _ _ _ _ _ _ _ hk,(vP i).2]at h;have h3:=ye7 (P i).2 (seK i) n fine zs os vs ko kv (P i).1.2 hk;rw[(vP i).1]at h3;refine h.mono ?_;rintro e w' ⟨ag,n2,ai,ak,l2,aj,R3,rfl,hb,h1,h2,iH,l_,fZ⟩;refine⟨ag,n2,ai,ak,l2,aj,R3,?_,hb,h1,h2,iH.trans h3,l_,fZ⟩;simp only[fP]
 ·intro i W ra base g nr rc ln lc R2 hf hW hp hn hl hk
  have hv:zc1 n zs os vs ko kv fine R2 (D i).2=0:=by rw[zd6 _ hk];exact JV i hf
  have fV:=hp.is hn hl;obtain⟨_,g2,g3,g4,g5,_⟩:=yE9 hv fV.2.2.2.2.2.2;have h:=zU4 n fine a ao ra zl ac ko co bv ov kv cv nr rc g 0 ln lc zs os vs (D i).2 R2 W (hA.below hW) (hO.below hW) (hV.below hW) aN an au aA aB cW fV (by rw[<-hn];exact g4) (by rw[<-hl];exact g5) g2 g3 (hp.ad (fun s hs=>((zE0 hv).2.2.2.1 s hs).1)) (fun k hx=>ys4 hp hx);obtain⟨k1,k2⟩:=z82 (n:=n) (fine:=fine) (zs:=zs) (os:=os) (vs:=vs) (ko:=ko) (kv:=kv) (D i).2.length (D i).2 hk;rw[k2,vh]at h;rw[vh]at k1;refine h.mono ?_;rintro e w' ⟨ag,n2,ai,gl,l2,aj,S,h0,h1,h2,h3,h4,h5⟩;exact⟨ag,n2,ai,gl,l2,aj,S,h0,h1,h2,h3,h4.trans k1,h5⟩
 ·intro i W ra la nr rc ln lc R2 hf hW hp hk
  have hv:zc1 n zs os vs ko kv fine R2 (G i).2=0:=by rw[zd6 _ hk];exact Fq i hf
  obtain⟨b1,b2,b3,b4,b5,b6⟩:=zE0 hv;have h:=z77 3 n fine a ao _ ra la zl ac ko co kv cv nr rc ln lc zs os vs (G i).2 R2 W (hA.below hW) (hO.below hW) (hV.below hW) aN an au b1 b2 hp (by rw[<-hp.1];exact b3) (fun r hr=>by have:=(b4 r hr).2;omega) (by rw[<-hp.2.1];exact b5) b6;have hB:dcB 3 n fine zs os vs ko kv (G i).1 (G i).2=true:=by
   unfold dcB;rw[Fq i hf];rfl
  have e1:dcR 3 n fine zs os vs ko kv (G i).1 (G i).2=dsR n fine zs os vs ko kv (G i).2 3 (G i).1:=by
   unfold dcR;rw[hB];rfl
  have e2:dcL 3 n fine zs os vs ko kv (G i).1 (G i).2=(G i).2:=by
   unfold dcL;rw[hB];rfl
  have k1:=yG6 3 n fine zs os vs ko kv (G i).2 hk;rw[yD2 _ _ _ _ _ _ _ _ _ hk,yE0 _ _ _ _ _ _ _ _ _ hk,e2]at h;rw[e1]at k1;refine h.mono ?_;rintro e w' ⟨ag,n2,ai,ak,l2,aj,S,h0,h1,h2,h3,h4,h5⟩;exact⟨ag,n2,ai,ak,l2,aj,S,h0,h1,h2,h3,h4.trans k1,h5⟩
 ·intro i W ra la nr rc ln lc R2 hf hW hp hk
  have hy:=y11 3 (Fq i hf);have h:=zU6 n fine a ao _ ra la zl ac ko co kv cv nr rc ln lc zs os vs _ R2 W (hA.below hW) (hO.below hW) (hV.below hW) aN an au hp (by rw[zd6 _ hk];exact hy);rw[zs9 _ hk]at h;exact h
 ·intro i W ra la nr rc ln lc R2 hW hp hk
  have h:=zU6 n fine a ao _ ra la zl ac ko co kv cv nr rc ln lc zs os vs _ R2 W (hA.below hW) (hO.below hW) (hV.below hW) aN an au hp (by rw[zd6 _ hk];exact(lV i).1);rw[zs9 _ hk,<-hC]at h;exact h
 ·intro i hf ah
  rw[hC]at ah;have hb:seB (P i).2 (seK i) n fine zs os vs ko kv (P i).1.1 (P i).1.2=true:=by
   unfold seB;rw[zY,qh,FA];exact⟨hf,ah⟩
  have e:(P (i+1)).1=(dsR n fine zs os vs ko kv (G i).2 3 (G i).1,(G i).2):=by
   rw[fP,<-FA];show seN _ _ _ _ _ _ _ _ _ _ _=_;unfold seN;rw[hb,jk]
  exact⟨by rw[e],by rw[e],by rw[hC,e]⟩
 ·intro i aY
  have hb:seB (P i).2 (seK i) n fine zs os vs ko kv (P i).1.1 (P i).1.2=false:=by
   rw[<-Bool.not_eq_true];unfold seB;rw[zY,qh,FA];exact fun h=>aY h.1 (by rw[hC];exact h.2)
  have e:(P (i+1)).1=(P i).1:=by
   rw[fP];show seN _ _ _ _ _ _ _ _ _ _ _=_;unfold seN;rw[hb];rfl
  exact⟨by rw[e],by rw[e],by rw[hC,hC,e]⟩
def yx1(w:zi)(f:Bool)(X:List Int)(T:List RT)(L:List Int)(e:Ending)(w':zi):Prop:=∃ra rn rc la ln lc S tv,e=.returned (.tuple #[.agg #[za ra rn rc,za la ln lc],tv,.bool f])/\Za w.heap.size w w'/\S.length=rn/\L.length=ln/\S.map RT.key=T.map RT.key/\PO w' w.heap.size (za ra rn rc) S (za la ln lc) L/\w'.ownsRow w.heap.size 2 1 tv X.length (X.map (ze zd))
structure SeQ(w W:zi)(cs ps:Array Value)(kn:Nat)(ra la:Option Zd)(rn rc ln lc z c k:Nat)(S:List RT)(L X:List Int):Prop where
 q:GQ w W cs ps
 n:W.heap[kn]? =some (zg #[za ra rn rc,za la ln lc] 33 (0,0))
 p:PO W (w.heap.size+3) (za ra rn rc) S (za la ln lc) L
 hn:S.length=rn
 hl:L.length=ln
 t:W.ownsRow (kn+1) 2 1 (za (some ⟨z,0,none⟩) k c) k (X.map (ze zd))
 o:Off z ra la S
section
variable {w W W':zi} {cs ps:Array Value} {kn rn rc ln lc z c k:Nat} {ra la:Option Zd} {S:List RT} {L X:List Int}
theorem SeQ.below(h:SeQ w W cs ps kn ra la rn rc ln lc z c k S L X)(hb:Za W.heap.size W W'):SeQ w W' cs ps kn ra la rn rc ln lc z c k S L X:=
 ⟨h.q.below hb,za0 hb (za2 h.n) h.n,h.p.below hb,h.hn,h.hl,zv8 h.t hb (fun k e=>(h.t.lt k e).2),h.o⟩
theorem SeQ.zz(h:SeQ w W cs ps kn ra la rn rc ln lc z c k S L X):kn<z/\z<W.heap.size:=h.t.lt z rfl
theorem SeQ.ne(h:z≠kn):(za (some ⟨z,0,none⟩) k c).ownBlock≠some kn:=fun e=>h (by simpa[zm]using e)
theorem SeQ.take{b1 b2:Option Zd}{m1 d1 m2 d2:Nat}{S2:List RT}{L2:List Int}(h:SeQ w W cs ps kn ra la rn rc ln lc z c k S L X)(hk:w.heap.size+3<=kn)(hp:PO W (w.heap.size+3) (za b1 m1 d1) S2 (za b2 m2 d2) L2)(h1:S2.length=m1)(h2:L2.length=m2)(ho:Off z b1 b2 S2):SeQ w ((W.setCell ⟨kn,0,none⟩ (za b1 m1 d1)).setCell ⟨kn,1,none⟩ (za b2 m2 d2)) cs ps kn b1 b2 m1 d1 m2 d2 z c k S2 L2 X:=
 ⟨(h.q.set hk).set hk,zi5 h.n,hp.box2 h.n,h1,h2,zf1 (zf1 h.t 0 _ (SeQ.ne (by have:=h.zz;omega))) 1 _ (SeQ.ne (by have:=h.zz;omega)),ho⟩
theorem SeQ.app{v:Value}{x:Int}(h:SeQ w W cs ps kn ra la rn rc ln lc z c k S L X)(hk:w.heap.size+3<=kn)(hg:W.grownBy W' (some z))(ho:W'.ownsRow (kn+1) 2 1 v (k+1) ((X++[x]).map (ze zd)))(hv:v.ownBlock=some z∨v.ownBlock=some W.heap.size):∃z8 c8,v=za (some ⟨z8,0,none⟩) (k+1) c8/\SeQ w W' cs ps kn ra la rn rc ln lc z8 c8 (k+1) S L (X++[x]):=by
 have hz:=h.zz;rcases own_kinds ho with⟨_,h2⟩|⟨z8,c8,h1,_⟩
 ·omega
 subst h1;refine⟨z8,c8,rfl,h.q.grownL hg (by omega),(hg.block kn (za2 h.n) (fun e=>by injection e with e;omega)).trans h.n,h.p.grownL hg h.o,h.hn,h.hl,ho,?_⟩;rcases hv with e|e
 ·rw[show z8=z by simpa[zm]using e];exact h.o
 ·rw[show z8=W.heap.size by simpa[zm]using e];exact ys4 h.p (zT _)
end
theorem zB4(sd st n fine:Int)(a ao ra la:Option Zd)(zl ac ko co bv ov kv cv nr rc ln lc:Nat)(zs os vs L:List Int)(R:List RT)(w:zi)(hA:za3 w a zs)(hO:za3 w ao os)(hV:za3 w (some ⟨bv,ov,none⟩) vs)(aN:zs.length=zl)(an:os.length=ko*6)(au:vs.length=kv*5)(aA:ko<=9223372036854775807)(aB:kv<=9223372036854775807)(hP:zc2 w ra la nr ln R L)(hn:nr<=1048576)(hi:∀r∈R,r.ids.length<=1048576)(dg:ln<=1048576)(cS:(zb0 R R.length).length<=1048576):
 Zc zh 8 #[.agg #[ze zd n,za a zl ac,za ao ko co,za (some ⟨bv,ov,none⟩) kv cv,ze zd fine],.agg #[za ra nr rc,za la ln lc],ze zd sd,ze zd st] w (yx1 w (sgB sd st n fine zs os vs ko kv R L) (sgT sd st n fine zs os vs ko kv R L) (sgR sd st n fine zs os vs ko kv R L) (sgL sd st n fine zs os vs ko kv R L)):=by
 have HA:=za4 hA;have HO:=za4 hO;have HV:=za4 hV;have ck:=za4 aN;have aF:=za4 an;have aE:=za4 au;have HP:=za4 hP;have HN:Zb (R.length=nr):=hP.1;have HM:Zb (L.length=ln):=hP.2.1;clear hA hO hV aN an au hP;obtain⟨pv,cG⟩:=nmd (zc1 n zs os vs ko kv fine R L);obtain⟨k1,di⟩:=nmd (inB st 0 60);obtain⟨s1,d9⟩:=nmd (inB sd 0 2147483647);have d7:Zb (sgB sd st n fine zs os vs ko kv R L=(decide (pv=0)&&(k1&&s1))):=by show _=_;unfold sgB;rw[cG.X,di.X,d9.X]
 obtain⟨GB,dJ⟩:=nmd (sgB sd st n fine zs os vs ko kv R L);have bw:Zb (GB=false->sgR sd st n fine zs os vs ko kv R L=[]/\sgL sd st n fine zs os vs ko kv R L=[]/\sgT sd st n fine zs os vs ko kv R L=[]):=fun h=>by
  unfold sgR sgL sgT;rw[dJ.X,h];exact⟨rfl,rfl,rfl⟩
 have fy:Zb (GB=true->sgR sd st n fine zs os vs ko kv R L=(seP sd n fine zs os vs ko kv R L st.toNat).1.1/\sgL sd st n fine zs os vs ko kv R L=(seP sd n fine zs os vs ko kv R L st.toNat).1.2/\sgT sd st n fine zs os vs ko kv R L=seT sd n fine zs os vs ko kv R L st.toNat):=fun h=>by
  unfold sgR sgL sgT;rw[dJ.X,h];exact⟨rfl,rfl,rfl⟩
 obtain⟨GR,cC⟩:=nmd (sgR sd st n fine zs os vs ko kv R L);obtain⟨GL,cZ⟩:=nmd (sgL sd st n fine zs os vs ko kv R L);obtain⟨GT,kY⟩:=nmd (sgT sd st n fine zs os vs ko kv R L);rw[cC.X,cZ.X,kY.X]at bw fy;rw[dJ.X]at d7;rw[dJ.X,cC.X,cZ.X,kY.X];clear dJ cC cZ kY;have Q0:Zb (GQ w (((w.alloc (zg #[ze zd n,za a zl ac,za ao ko co,za (some ⟨bv,ov,none⟩) kv cv,ze zd fine] 30)).alloc (zg #[za ra nr rc,za la ln lc] 33)).alloc (zg #[za none 0 0,za none 0 0] 33)) #[ze zd n,za a zl ac,za ao ko co,za (some ⟨bv,ov,none⟩) kv cv,ze zd fine] #[za ra nr rc,za la ln lc]):=by
  refine⟨((zP _).alloc (by simp) _).alloc (by simp;omega) _,?_,?_,?_⟩
  ·exact(xg _ _ (by simp;omega)).trans (xm _ _ _)
  ·exact(xg _ _ (by simp)).trans (xh _ _ _)
  ·have:=zS ((w.alloc (zg #[ze zd n,za a zl ac,za ao ko co,za (some ⟨bv,ov,none⟩) kv cv,ze zd fine] 30)).alloc (zg #[za ra nr rc,za la ln lc] 33)) (zg #[za none 0 0,za none 0 0] 33)
   simpa using this
 have PC:=zj2 n fine a ao _ ra la ac ko co kv cv rc lc zs os vs L R (((w.alloc (zg #[ze zd n,za a zl ac,za ao ko co,za (some ⟨bv,ov,none⟩) kv cv,ze zd fine] 30)).alloc (zg #[za ra nr rc,za la ln lc] 33)).alloc (zg #[za none 0 0,za none 0 0] 33)) (HA.X.below Q0.X.b) (HO.X.below Q0.X.b) (HV.X.below Q0.X.b) (HP.X.2.2.1.below Q0.X.b) (HP.X.2.2.2.1.below Q0.X.b) aF.X aE.X aA aB (by rw[HN.X];exact hn) hi HP.X.2.2.2.2.2.2 (by rw[HM.X];exact dg) cS;rw[HN.X,HM.X,ck.X,cG.X]at PC;obtain⟨c0,c1,c2,c3,c4⟩:=za7 Q0.X.c;obtain⟨p0,p1⟩:=za1 Q0.X.p;go_enter Tryz.func8,Tryz.ntmps8
 go_wp2_with fail
 generalize((w.alloc _).alloc _).alloc _=W0 at*;refine PC.mono ?_;rintro e w1 ⟨rfl,hb⟩;have Q1:=za4 (Q0.X.below hb);clear hb PC c0 c1 c2 c3 c4 p0 p1 Q0 hi cS;by_cases dq:pv=0
 ·subst dq
  rw[zW rfl,ji]at d7;cases k1
  ·obtain⟨a0,a1⟩:=za1 Q1.X.o
   have af:=fun i=>yZ _ _ i _ _ Q1.X.o;have m7:GB=false:=by rw[d7.X];try rfl
   subst m7;obtain⟨g2,g3,g4⟩:=bw.X rfl;subst g2 g3 g4;clear bw fy;have B5:Zb (Za w.heap.size w ((w1.setCell ⟨w.heap.size+2,0,none⟩ (za none 0 0)).setCell ⟨w.heap.size+2,1,none⟩ (za none 0 0))):=(Q1.X.b.setCell (by simp) _).setCell (by simp) _
   go_wp2_with(go_at_call 39;refine(zc0 _ _ _ _).mono ?_;rintro e w' ⟨rfl,dx⟩;subst w';first|rw[di.X]|rw[d9.X])
   refine xe (v:=.tuple #[.agg #[za none 0 0,za none 0 0],za none 0 0,.bool false]) (by simp[results,Tryz.results8,go_sem,a0,a1]) rfl ?_;exact⟨none,0,0,none,0,0,[],za none 0 0,rfl,B5.X,rfl,rfl,rfl,⟨xZ _ _ _ _,(fun s hs=>by cases hs),xZ _ _ _ _⟩,xZ _ _ _ _⟩
  ·cases s1
   ·obtain⟨a0,a1⟩:=za1 Q1.X.o
    have af:=fun i=>yZ _ _ i _ _ Q1.X.o;have m7:GB=false:=by rw[d7.X];try rfl
    subst m7;obtain⟨g2,g3,g4⟩:=bw.X rfl;subst g2 g3 g4;clear bw fy;have B5:Zb (Za w.heap.size w ((w1.setCell ⟨w.heap.size+2,0,none⟩ (za none 0 0)).setCell ⟨w.heap.size+2,1,none⟩ (za none 0 0))):=(Q1.X.b.setCell (by simp) _).setCell (by simp) _
    go_wp2_with(go_at_call 39;refine(zc0 _ _ _ _).mono ?_;rintro e w' ⟨rfl,dx⟩;subst w';first|rw[di.X]|rw[d9.X])
    refine xe (v:=.tuple #[.agg #[za none 0 0,za none 0 0],za none 0 0,.bool false]) (by simp[results,Tryz.results8,go_sem,a0,a1]) rfl ?_;exact⟨none,0,0,none,0,0,[],za none 0 0,rfl,B5.X,rfl,rfl,rfl,⟨xZ _ _ _ _,(fun s hs=>by cases hs),xZ _ _ _ _⟩,xZ _ _ _ _⟩
   ·have tF:GB=true:=d7.X
    subst tF;clear bw d7;obtain⟨uq,ue,un⟩:=fy.X rfl;clear fy;have bz:=zc8 di.X;obtain⟨N,hN⟩:=xp bz.1;have tz:N<=60:=by omega
    subst hN;rw[yu]at uq ue un;obtain⟨DR,DM,F,XR,XM,YR,YM,YC,XN,tO⟩:=yH4 sd n fine a ao bv ov zl ac ko co kv cv zs os vs L R w HA.X HO.X HV.X ck.X aF.X aE.X cG.X d9.X;obtain⟨-,-,-,q4,-,-⟩:=zE0 cG.X;have CC:=fun W (hW:Za w.heap.size w W)=>zy4 ra la rc lc R L W (HP.X.2.2.1.below hW) (HP.X.2.2.2.1.below hW) (HP.X.2.2.2.2.2.1.imp (fun h=>⟨h.1,HP.X.2.1.trans h.2⟩) id) (by have:=(ze6 cG.X).1;omega) (fun r hr=>⟨(q4 r hr).1,by have:=(q4 r hr).2;omega⟩) (by have:=(ze6 cG.X).2.1;omega)
    have T0:seT sd n fine zs os vs ko kv R L 0=[seC sd n fine zs os vs ko kv R L 0]:=rfl;have py:=yi7 sd n fine zs os vs ko kv R L;have sD:=zR8 sd n fine zs os vs ko kv R L;have As:(seP sd n fine zs os vs ko kv R L 0).1.1=R:=rfl;have wh:(seP sd n fine zs os vs ko kv R L 0).1.2=L:=rfl;have AP:(seP sd n fine zs os vs ko kv R L 0).2=sd:=rfl;obtain⟨C,HC⟩:=nmd (seC sd n fine zs os vs ko kv R L);obtain⟨T,HT⟩:=nmd (seT sd n fine zs os vs ko kv R L);obtain⟨SR,ke⟩:=nmd (fun i=>(seP sd n fine zs os vs ko kv R L i).1.1);obtain⟨SM,fR⟩:=nmd (fun i=>(seP sd n fine zs os vs ko kv R L i).1.2);obtain⟨SD,uM⟩:=nmd (fun i=>(seP sd n fine zs os vs ko kv R L i).2);rw[HC.X,ke.X,fR.X,uM.X]at tO;rw[HC.X]at T0 py;rw[HT.X]at T0 py sD un;rw[congrFun ke.X 0]at As;rw[congrFun fR.X 0]at wh;rw[congrFun uM.X 0]at AP;rw[congrFun ke.X N]at uq;rw[congrFun fR.X N]at ue;have ST:Zb _:=tO;have TS:=za4 py;have TL:=za4 sD;have TZ:=za4 T0;subst uq ue un;subst As wh AP;clear tO py sD T0 HC HT ke fR uM bz cG q4;have uX:=CC w1 Q1.X.b;rw[HN.X,HM.X]at uX;obtain⟨p0,p1⟩:=za1 Q1.X.p
    go_wp2_with(go_at_call 39;refine(zc0 _ _ _ _).mono ?_;rintro e w' ⟨rfl,dx⟩;subst w';first|rw[di.X]|rw[d9.X])
    refine uX.mono ?_;rintro e w2 ⟨ag,ai,bS,aj,S2,rfl,hb,cN,ho⟩;rw[HN.X,HM.X]at ho⊢;have Q2:=za4 (Q1.X.below hb);have P2:=za4 (ho.base (by have:=Q1.X.size;omega));have K2:=za4 cN;clear hb cN ho uX CC p0 p1 Q1;have V3:Zb ((w2.alloc (zg #[za ag nr ai,za (some ⟨bS,0,none⟩) ln aj] 33)).heap[w2.heap.size]? =some (zg #[za ag nr ai,za (some ⟨bS,0,none⟩) ln aj] 33 (0,0))):=by
     exact zS _ _
    have FY:Za w2.heap.size w2 (w2.alloc (zg #[za ag nr ai,za (some ⟨bS,0,none⟩) ln aj] 33)):=zP _;have Q3:=za4 (Q2.X.below FY);have P3:=za4 (P2.X.below FY);have gA:Zb (w.heap.size+3<=w2.heap.size):=Q2.X.size;have cV:Zb (S2.length=nr):=by have:=congrArg zo K2.X;simp only[qT]at this;exact this.trans HN.X
    have KB:=ST.X.cost 0 _ ag (some ⟨bS,0,none⟩) nr ai ln aj S2 Q3.X.b (P3.X.is cV.X HM.X) K2.X;go_upto_region 4 with fail;clear FY Q2 P2;obtain⟨kn,cL⟩:=nmd w2.heap.size;rw[cL.X]at V3 gA⊢;generalize w2.alloc _=w3 at*;obtain⟨c0,c1,c2,c3,c4⟩:=za7 Q3.X.c;obtain⟨n0,n1⟩:=za1 V3.X
    go_wp2_with fail
    refine KB.mono ?_;rintro e w4 ⟨rfl,hb⟩;have MF:w.heap.size+3<=kn:=gA.X;have S4:Zb (SeQ w (w4.alloc (zg #[ze zd (C 0)] 2)) #[ze zd n,za a zl ac,za ao ko co,za (some ⟨bv,ov,none⟩) kv cv,ze zd fine] #[za ra nr rc,za la ln lc] kn ag (some ⟨bS,0,none⟩) nr ai ln aj w4.heap.size 1 (0+1) S2 (SM 0) (T 0)):=by
     have hA:Za w3.heap.size w3 (w4.alloc (zg #[ze zd (C 0)] 2)):=hb.trans (Below.mono ((y5 w4.heap.size w4).alloc (zT _) _) hb.size);have h3:kn+1<=w4.heap.size:=xj (za2 V3.X) hb.size;refine⟨Q3.X.below hA,za0 hA (za2 V3.X) V3.X,P3.X.below hA,cV.X,HM.X,?_,ys4 (P3.X.below hb) (zT _)⟩;rw[TZ.X];exact⟨rfl,.inr ⟨w4.heap.size,1,#[ze zd (C 0)],rfl,h3,zS _ _,by simp[maxLen]⟩⟩
    clear hb Q3 P3 V3 n0 n1 c0 c1 c2 c3 c4 KB cV TZ
    go_wp2_with fail
    go_loopw[2,12,13] (fun s2 AC Av wr=>∃(i:Nat) (aO cQ:Option Zd) (bG bg bm dI z9 c9:Nat) (R9:List RT),i<=N/\Av=ze zd i/\s2=ze zd (SD i)/\AC=za (some ⟨z9,0,none⟩) (i+1) c9/\SeQ w wr #[ze zd n,za a zl ac,za ao ko co,za (some ⟨bv,ov,none⟩) kv cv,ze zd fine] #[za ra nr rc,za la ln lc] kn aO cQ bG bg bm dI z9 c9 (i+1) R9 (SM i) (T i)/\R9.map RT.key=(SR i).map RT.key) (fun _ _ t _=>N - (intOf t).toNat)
    case atStart=>exact⟨0,ag,_,nr,ai,ln,aj,w4.heap.size,1,S2,xi _,rfl,rfl,rfl,S4.X,K2.X⟩
    case round=>
     clear S4 K2;obtain⟨i,aO,cQ,bG,bg,bm,dI,z9,c9,R9,hi,rfl,rfl,rfl,hq,hk⟩:=hrel;have S5:=za4 hq;have K5:=za4 hk;clear hq hk;by_cases ah:i<N
     ·have et:(i:Int)<(N:Int):=by omega
      have nF:Int.tmod (i:Int) 3=((i % 3:Nat):Int):=by first|rfl|exact(Int.ofNat_tmod i 3).symm|exact(Int.natCast_tmod i 3).symm
      have Ay:i % 3<3:=Nat.mod_lt _ (by omega);have DS:=ST.X.dest i wr aO cQ bG bg bm dI R9 S5.X.q.b (S5.X.p.is S5.X.hn S5.X.hl) K5.X;obtain⟨c0,c1,c2,c3,c4⟩:=za7 S5.X.q.c;obtain⟨n0,n1⟩:=za1 S5.X.n
      go_wp2_with fail
      refine DS.mono ?_;rintro e w2 ⟨ag,n2,ai,ak,l2,aj,R2,rfl,hb,cT,gu,cN,dW,ri⟩;have hz:=S5.X.zz;have bW:=hb.size;have S6:=S5.X.below hb;have h0:=S6.q.size;clear DS c0 c1 c2 c3 c4 n0 n1 nF Ay;have hA:Za w2.heap.size w2 (w2.alloc (zg #[za ag n2 ai,za ak l2 aj] 33)):=zP _;have HX:=za4 (zS w2 (zg #[za ag n2 ai,za ak l2 aj] 33));have S7:=za4 (S6.below hA);have X7:=za4 ((dW.base S5.X.q.size).below hA);have KX:=za4 cN;have fT:Zb (R2.length=n2/\(DM i).length=l2):=⟨cT,gu⟩;have fK:=za4 ri;have HZ:Zb (w.heap.size+3<=kn/\kn<z9/\z9<w2.heap.size/\kn≠w2.heap.size/\z9≠w2.heap.size):=⟨gA.X,hz.1,by omega,by omega,by omega⟩;clear hb cT gu cN dW ri S6 S5 h0 bW hz hA;go_upto_if 57 with fail;obtain⟨kx,dz⟩:=nmd w2.heap.size;rw[dz.X]at HX HZ⊢;generalize w2.alloc _=w6 at*;go_cut [16]from 45 to 73 (fun ua wx=>∃(bj bY:Option Zd) (CZ bD C6 bJ:Nat) (R4:List RT),SeQ w wx #[ze zd n,za a zl ac,za ao ko co,za (some ⟨bv,ov,none⟩) kv cv,ze zd fine] #[za ra nr rc,za la ln lc] kn bj bY CZ bD C6 bJ z9 c9 (i+1) R4 (SM (i+1)) (T i)/\R4.map RT.key=(SR (i+1)).map RT.key)
      case first=>
       cases hF:F i
       ·obtain⟨e1,e2,e3⟩:=ST.X.no i (fun h=>by rw[hF]at h;cases h)
        go_wp2_with fail
        go_meet;rw[e1,e2];exact⟨_,_,_,_,_,_,_,S7.X,K5.X⟩
       ·obtain⟨gx,MG⟩:=fK.X hF
        subst MG;go_upto_region 11 with fail;go_cut [17]from 58 to 65 (fun pS wx=>∃(ky:Nat) (bj bY:Option Zd) (n4 bD l4 bJ:Nat) (R4:List RT),pS=.pointer (some ⟨ky,0,none⟩)/\Za w6.heap.size w6 wx/\w6.heap.size<=ky/\wx.heap[ky]? =some (zg #[za bj n4 bD,za bY l4 bJ] 33 (0,0))/\PO wx w6.heap.size (za bj n4 bD) R4 (za bY l4 bJ) (YM i)/\R4.length=n4/\(YM i).length=l4/\R4.map RT.key=(YR i).map RT.key)
        case first=>
         have KS:Zb (∀W,Za w6.heap.size w6 W->((W.cell? ⟨w.heap.size,0,none⟩=some (ze zd n)/\W.cell? ⟨w.heap.size,1,none⟩=some (za a zl ac)/\W.cell? ⟨w.heap.size,2,none⟩=some (za ao ko co)/\W.cell? ⟨w.heap.size,3,none⟩=some (za (some ⟨bv,ov,none⟩) kv cv)/\W.cell? ⟨w.heap.size,4,none⟩=some (ze zd fine))/\(W.cell? ⟨kx,0,none⟩=some (za ag n2 ai)/\W.cell? ⟨kx,1,none⟩=some (za (some ⟨gx,0,none⟩) l2 aj)))):=fun W hW=>⟨za7 (S7.X.below hW).q.c,za1 (za0 hW (za2 HX.X) HX.X)⟩
         go_wp2_with fail
         refine qG (S:=(fun W=>((W.cell? ⟨w.heap.size,0,none⟩=some (ze zd n)/\W.cell? ⟨w.heap.size,1,none⟩=some (za a zl ac)/\W.cell? ⟨w.heap.size,2,none⟩=some (za ao ko co)/\W.cell? ⟨w.heap.size,3,none⟩=some (za (some ⟨bv,ov,none⟩) kv cv)/\W.cell? ⟨w.heap.size,4,none⟩=some (ze zd fine))/\(W.cell? ⟨kx,0,none⟩=some (za ag n2 ai)/\W.cell? ⟨kx,1,none⟩=some (za (some ⟨gx,0,none⟩) l2 aj))))) (by kernel_rfl) ?_ fun aa=> ?_
         ·exact KS.X _ (y5 _ _).drew
         have eS:Zb (Za w6.heap.size w6 w6.drew):=(y5 _ _).drew;generalize w6.drew=wd at*;refine tkH 0 aa ?_;refine tkH 1 aa ?_;refine tkH 2 aa ?_;refine xQ (rs:=[3,8]) (by kernel_rfl) (by simp) ?_;refine xL rfl (fun K hK=> ?_) ?_
         ·skip
          go_simp;refine(ST.X.grd i wd ag (w.heap.size+3) gx n2 ai l2 aj R2 hF (S7.X.q.b.trans (eS.X.mono S7.X.q.b.size)) (X7.X.below eS.X) fT.X.1 fT.X.2 KX.X).mono ?_;rintro e w8 ⟨bL,n3,bU,g3,l3,bX,R3,rfl,hb,oZ,A8,iH,l_⟩;have ew:=za4 (eS.X.trans (hb.mono eS.X.size));have pD:=za4 (l_.is oZ A8);have KG:=za4 iH;clear hb oZ A8 iH l_
          (try go_wp2_with fail)
          refine hoW hK (KS.X _ ew.X) fun aa=> ?_;clear hK K;refine xQ (rs:=[4,8]) (by kernel_rfl) (by simp) ?_;refine xL rfl (fun K hK=> ?_) ?_
          ·skip
           go_simp;refine(ST.X.desc i w8 bL (some ⟨g3,0,none⟩) n3 bU l3 bX R3 hF (S7.X.q.b.trans (ew.X.mono S7.X.q.b.size)) pD.X KG.X).mono ?_;rintro e w9 ⟨bj,n4,bD,bY,l4,bJ,R4,rfl,hb,gN,gP,eL,gM⟩;have f_:=za4 (ew.X.trans (hb.mono ew.X.size));have mW:=za4 (gM.base ew.X.size);have HY:Zb (R4.length=n4/\(YM i).length=l4/\R4.map RT.key=(YR i).map RT.key):=⟨gN,gP,eL⟩;clear hb gN gP eL gM
           (try go_wp2_with fail)
           refine hoW hK (KS.X _ f_.X) fun aa=> ?_;clear hK K;refine tkH 5 aa ?_;refine tkH 6 aa ?_;refine tkH 7 aa ?_;refine rdH 8 fun K hK=> ?_;have eF:=za4 (f_.X.trans (((y5 w9.heap.size w9).alloc (zT _) (zg #[za none 0 0,za none 0 0] 33)).mono f_.X.size));have aw:=za4 (zS w9 (zg #[za none 0 0,za none 0 0] 33));have aH:Zb (w6.heap.size<=w9.heap.size):=f_.X.size;have Ei:=za4 (mW.X.below ((y5 w9.heap.size w9).alloc (zT _) (zg #[za none 0 0,za none 0 0] 33)));go_simp;refine hoW hK (KS.X _ eF.X) fun aa=> ?_;clear hK K;obtain⟨ky,cz⟩:=nmd w9.heap.size;rw[cz.X]at aw aH⊢;generalize(w9.alloc _)=wz at*;obtain⟨z0,z1⟩:=za1 aw.X;have zf:=fun i=>yZ _ _ i _ _ aw.X;refine rdH 9 fun K hK=> ?_;have V9:Zb (((wz.setCell ⟨ky,0,none⟩ (za bj n4 bD)).setCell ⟨ky,1,none⟩ (za bY l4 bJ)).heap[ky]? =some (zg #[za bj n4 bD,za bY l4 bJ] 33 (0,0))):=zi5 aw.X;have B9:Zb (Za w6.heap.size w6 ((wz.setCell ⟨ky,0,none⟩ (za bj n4 bD)).setCell ⟨ky,1,none⟩ (za bY l4 bJ))):=(eF.X.setCell aH.X _).setCell aH.X _;have P9:=za4 (Ei.X.box2 aw.X);go_simp;refine hoW hK (KS.X _ B9.X) fun aa=> ?_;clear hK K;generalize((wz.setCell ⟨ky,0,none⟩ _).setCell ⟨ky,1,none⟩ _)=w7 at*;refine tkH 10 aa ?_;refine qF (by kernel_rfl) ?_ _;clear aa
           (try go_wp2_with fail)
           go_meet;exact⟨ky,bj,bY,n4,bD,l4,bJ,R4,rfl,B9.X,aH.X,V9.X,P9.X,HY.X⟩
          refine xL rfl (fun K hK=> ?_) xP;have eF:=za4 (ew.X.trans (((y5 w8.heap.size w8).alloc (zT _) (zg #[za none 0 0,za none 0 0] 33)).mono ew.X.size));have aw:=za4 (zS w8 (zg #[za none 0 0,za none 0 0] 33));have aH:Zb (w6.heap.size<=w8.heap.size):=ew.X.size;have eE:=za4 (pD.X.below ((y5 w8.heap.size w8).alloc (zT _) (zg #[za none 0 0,za none 0 0] 33)));go_simp;refine hoW hK (KS.X _ eF.X) fun aa=> ?_;clear hK K;obtain⟨ky,cz⟩:=nmd w8.heap.size;rw[cz.X]at aw aH⊢;generalize(w8.alloc _)=wz at*;obtain⟨z0,z1⟩:=za1 aw.X;have zf:=fun i=>yZ _ _ i _ _ aw.X;refine rdH 4 fun K hK=> ?_;go_simp;refine(ST.X.desc i wz bL (some ⟨g3,0,none⟩) n3 bU l3 bX R3 hF (S7.X.q.b.trans (eF.X.mono S7.X.q.b.size)) eE.X KG.X).mono ?_;rintro e w9 ⟨bj,n4,bD,bY,l4,bJ,R4,rfl,hb,gN,gP,eL,gM⟩;have f_:=za4 (eF.X.trans (hb.mono eF.X.size));have mW:=za4 (gM.base eF.X.size);have HY:Zb (R4.length=n4/\(YM i).length=l4/\R4.map RT.key=(YR i).map RT.key):=⟨gN,gP,eL⟩;have ev:=za4 (za0 hb (za2 aw.X) aw.X);obtain⟨z0,z1⟩:=za1 ev.X;have zf:=fun i=>yZ _ _ i _ _ ev.X;clear hb gN gP eL gM
          (try go_wp2_with fail)
          refine hoW hK (KS.X _ f_.X) fun aa=> ?_;clear hK K;refine tkH 5 aa ?_;refine tkH 6 aa ?_;refine tkH 7 aa ?_;refine rdH 9 fun K hK=> ?_;have V9:Zb (((w9.setCell ⟨ky,0,none⟩ (za bj n4 bD)).setCell ⟨ky,1,none⟩ (za bY l4 bJ)).heap[ky]? =some (zg #[za bj n4 bD,za bY l4 bJ] 33 (0,0))):=zi5 ev.X;have B9:Zb (Za w6.heap.size w6 ((w9.setCell ⟨ky,0,none⟩ (za bj n4 bD)).setCell ⟨ky,1,none⟩ (za bY l4 bJ))):=(f_.X.setCell aH.X _).setCell aH.X _;have P9:=za4 (mW.X.box2 ev.X);go_simp;refine hoW hK (KS.X _ B9.X) fun aa=> ?_;clear hK K;generalize((w9.setCell ⟨ky,0,none⟩ _).setCell ⟨ky,1,none⟩ _)=w7 at*;refine tkH 10 aa ?_;refine qF (by kernel_rfl) ?_ _;clear aa
          (try go_wp2_with fail)
          go_meet;exact⟨ky,bj,bY,n4,bD,l4,bJ,R4,rfl,B9.X,aH.X,V9.X,P9.X,HY.X⟩
         refine xL rfl (fun K hK=> ?_) xP;have eF:=za4 (eS.X.trans (((y5 wd.heap.size wd).alloc (zT _) (zg #[za none 0 0,za none 0 0] 33)).mono eS.X.size));have aw:=za4 (zS wd (zg #[za none 0 0,za none 0 0] 33));have aH:Zb (w6.heap.size<=wd.heap.size):=eS.X.size;go_simp;refine hoW hK (KS.X _ eF.X) fun aa=> ?_;clear hK K;obtain⟨ky,cz⟩:=nmd wd.heap.size;rw[cz.X]at aw aH⊢;generalize(wd.alloc _)=wz at*;obtain⟨z0,z1⟩:=za1 aw.X;have zf:=fun i=>yZ _ _ i _ _ aw.X;refine rdH 3 fun K hK=> ?_;go_simp;refine(ST.X.grd i wz ag (w.heap.size+3) gx n2 ai l2 aj R2 hF (S7.X.q.b.trans (eF.X.mono S7.X.q.b.size)) (X7.X.below eF.X) fT.X.1 fT.X.2 KX.X).mono ?_;rintro e w8 ⟨bL,n3,bU,g3,l3,bX,R3,rfl,hb,oZ,A8,iH,l_⟩;have ew:=za4 (eF.X.trans (hb.mono eF.X.size));have pD:=za4 (l_.is oZ A8);have KG:=za4 iH;have kO:=za4 (za0 hb (za2 aw.X) aw.X);obtain⟨z0,z1⟩:=za1 kO.X;have zf:=fun i=>yZ _ _ i _ _ kO.X;clear hb oZ A8 iH l_
         (try go_wp2_with fail)
         refine hoW hK (KS.X _ ew.X) fun aa=> ?_;clear hK K;refine rdH 4 fun K hK=> ?_;go_simp;refine(ST.X.desc i w8 bL (some ⟨g3,0,none⟩) n3 bU l3 bX R3 hF (S7.X.q.b.trans (ew.X.mono S7.X.q.b.size)) pD.X KG.X).mono ?_;rintro e w9 ⟨bj,n4,bD,bY,l4,bJ,R4,rfl,hb,gN,gP,eL,gM⟩;have f_:=za4 (ew.X.trans (hb.mono ew.X.size));have mW:=za4 (gM.base ew.X.size);have HY:Zb (R4.length=n4/\(YM i).length=l4/\R4.map RT.key=(YR i).map RT.key):=⟨gN,gP,eL⟩;have ev:=za4 (za0 hb (za2 kO.X) kO.X);obtain⟨z0,z1⟩:=za1 ev.X;have zf:=fun i=>yZ _ _ i _ _ ev.X;clear hb gN gP eL gM
         (try go_wp2_with fail)
         refine hoW hK (KS.X _ f_.X) fun aa=> ?_;clear hK K;refine tkH 5 aa ?_;refine tkH 6 aa ?_;refine tkH 7 aa ?_;refine rdH 9 fun K hK=> ?_;have V9:Zb (((w9.setCell ⟨ky,0,none⟩ (za bj n4 bD)).setCell ⟨ky,1,none⟩ (za bY l4 bJ)).heap[ky]? =some (zg #[za bj n4 bD,za bY l4 bJ] 33 (0,0))):=zi5 ev.X;have B9:Zb (Za w6.heap.size w6 ((w9.setCell ⟨ky,0,none⟩ (za bj n4 bD)).setCell ⟨ky,1,none⟩ (za bY l4 bJ))):=(f_.X.setCell aH.X _).setCell aH.X _;have P9:=za4 (mW.X.box2 ev.X);go_simp;refine hoW hK (KS.X _ B9.X) fun aa=> ?_;clear hK K;generalize((w9.setCell ⟨ky,0,none⟩ _).setCell ⟨ky,1,none⟩ _)=w7 at*;refine tkH 10 aa ?_;refine qF (by kernel_rfl) ?_ _;clear aa
         (try go_wp2_with fail)
         go_meet;exact⟨ky,bj,bY,n4,bD,l4,bJ,R4,rfl,B9.X,aH.X,V9.X,P9.X,HY.X⟩
        case rest=>
         obtain⟨ky,bj,bY,n4,bD,l4,bJ,R4,rfl,hb,kV,hv,gM,gN,gP,eL⟩:=hcut;have S8:=za4 (S7.X.below hb);have V8:=za4 hv;have Y8:=za4 (gM.base S7.X.q.size);have KY:=za4 eL;have OY:Zb (Off z9 bj bY R4):=gM.off gN gP S7.X.zz.2;clear hb hv gM eL S7 X7 KX HX fT;obtain⟨wb,Lx⟩:∃v,v=wc:=⟨_,rfl⟩;subst Lx;go_upto_region 12 with fail;go_cut [72]from 66 to 72 (fun L6 wx=>L6=.bool (decide (YC i<C i))/\Za wb.heap.size wb wx)
         case first=>
          have KS:Zb (∀W,Za wb.heap.size wb W->((W.cell? ⟨w.heap.size,0,none⟩=some (ze zd n)/\W.cell? ⟨w.heap.size,1,none⟩=some (za a zl ac)/\W.cell? ⟨w.heap.size,2,none⟩=some (za ao ko co)/\W.cell? ⟨w.heap.size,3,none⟩=some (za (some ⟨bv,ov,none⟩) kv cv)/\W.cell? ⟨w.heap.size,4,none⟩=some (ze zd fine))/\(W.cell? ⟨ky,0,none⟩=some (za bj n4 bD)/\W.cell? ⟨ky,1,none⟩=some (za bY l4 bJ))/\(W.cell? ⟨kn,0,none⟩=some (za aO bG bg)/\W.cell? ⟨kn,1,none⟩=some (za cQ bm dI)))):=fun W hW=>⟨za7 (S8.X.below hW).q.c,za1 (za0 hW (za2 V8.X) V8.X),za1 (S8.X.below hW).n⟩
          go_wp2_with fail
          refine qG (S:=(fun W=>((W.cell? ⟨w.heap.size,0,none⟩=some (ze zd n)/\W.cell? ⟨w.heap.size,1,none⟩=some (za a zl ac)/\W.cell? ⟨w.heap.size,2,none⟩=some (za ao ko co)/\W.cell? ⟨w.heap.size,3,none⟩=some (za (some ⟨bv,ov,none⟩) kv cv)/\W.cell? ⟨w.heap.size,4,none⟩=some (ze zd fine))/\(W.cell? ⟨ky,0,none⟩=some (za bj n4 bD)/\W.cell? ⟨ky,1,none⟩=some (za bY l4 bJ))/\(W.cell? ⟨kn,0,none⟩=some (za aO bG bg)/\W.cell? ⟨kn,1,none⟩=some (za cQ bm dI))))) (by kernel_rfl) ?_ fun aa=> ?_
          ·exact KS.X _ (y5 _ _).drew
          have eS:Zb (Za wb.heap.size wb wb.drew):=(y5 _ _).drew;generalize wb.drew=wd at*;refine tkH 0 aa ?_;refine tkH 1 aa ?_;refine tkH 3 aa ?_;refine tkH 4 aa ?_;refine rdH 2 fun K hK=> ?_;go_simp;refine(ST.X.costY i wd bj bY n4 bD l4 bJ R4 hF (S8.X.q.b.trans (eS.X.mono S8.X.q.b.size)) ((Y8.X.below eS.X).is gN gP) KY.X).mono ?_;rintro e PY ⟨rfl,hb⟩;have iW:=za4 (eS.X.trans (hb.mono eS.X.size));clear hb
          (try go_wp2_with fail)
          refine hoW hK (KS.X _ iW.X) fun aa=> ?_;clear hK K;refine rdH 5 fun K hK=> ?_;go_simp;refine(ST.X.cost i PY aO cQ bG bg bm dI R9 (S8.X.q.b.trans (iW.X.mono S8.X.q.b.size)) ((S8.X.below iW.X).p.is S8.X.hn S8.X.hl) K5.X).mono ?_;rintro e Pu ⟨rfl,hb⟩;have mS:=za4 (iW.X.trans (hb.mono iW.X.size));clear hb
          (try go_wp2_with fail)
          refine hoW hK (KS.X _ mS.X) fun aa=> ?_;clear hK K;refine tkH 6 aa ?_;refine qF (by kernel_rfl) ?_ _;clear aa
          (try go_wp2_with fail)
          go_meet;exact⟨rfl,mS.X⟩
         case rest=>
          obtain⟨rfl,hb⟩:=hcut;have S9:=za4 (S8.X.below hb);have V9:=za0 hb (za2 V8.X) V8.X;have Y9:=Y8.X.below hb;clear hb S8 V8 Y8;by_cases hyc:YC i<C i
          ·obtain⟨e1,e2,e3⟩:=ST.X.yes i hF hyc
           have SZ:=za4 (S9.X.take HZ.X.1 Y9 gN gP OY.X);have dy:decide (YC i<C i)=true:=zW hyc;obtain⟨z0,z1⟩:=za1 V9;obtain⟨n0,n1⟩:=za1 S9.X.n;have nf:=fun i=>yZ _ _ i _ _ S9.X.n
           go_wp2_with fail
           go_meet;rw[e1,e2];exact⟨_,_,_,_,_,_,_,SZ.X,KY.X⟩
          ·obtain⟨e1,e2,e3⟩:=ST.X.no i (fun _=>hyc)
           have dn:decide (YC i<C i)=false:=zX hyc
           go_wp2_with fail
           go_meet;rw[e1,e2];exact⟨_,_,_,_,_,_,_,S9.X,K5.X⟩
      case rest=>
       clear S7 X7 KX HX fT fK K5;obtain⟨bj,bY,CZ,bD,C6,bJ,R4,hq,hk⟩:=hcut;have S8:=za4 hq;have K8:=za4 hk;clear hq hk;have CN:=ST.X.cost (i+1) wc bj bY CZ bD C6 bJ R4 S8.X.q.b (S8.X.p.is S8.X.hn S8.X.hl) K8.X;obtain⟨c0,c1,c2,c3,c4⟩:=za7 S8.X.q.c;obtain⟨n0,n1⟩:=za1 S8.X.n
       go_wp2_with fail
       refine CN.mono ?_;rintro e w9 ⟨rfl,hb⟩;have S9:=za4 (S8.X.below hb);have hA:Za w9.heap.size w9 (w9.alloc (zg #[ze zd (C (i+1))] 2)):=zP _;have Qs:kn<w9.heap.size:=za2 S9.X.n;clear hb CN c0 c1 c2 c3 c4 n0 n1 S8
       go_wp2_with(
        at_builtin;refine zc9 _ rfl (.tmp 74) (.tmp 78) rfl (kn+1) (za (some ⟨z9,0,none⟩) (i+1) c9) (i+1) (T i) rfl (S9.X.t.alloc _) w9.heap.size 0 1 1 [C (i+1)] rfl rfl (ze2 w9 (C (i+1))) (by omega) (by omega) (by simp;omega) ?_;intro v' w8 ae hg hv aW;obtain⟨z8,c8,tY,hs⟩:=(S9.X.below hA).app HZ.X.1 hg ae hv;subst tY;have MI:=za4 hs;clear ae hg hv aW hs)
       go_roundw
       case rel=>exact⟨i+1,bj,bY,CZ,bD,C6,bJ,z8,c8,R4,by omega,by first|rfl|go_num,rfl,rfl,by rw[TS.X];exact MI.X,K8.X⟩
       case measure=>simp[intOf];omega
     ·have pt:i=N:=by omega
      subst pt;clear ah;obtain⟨n0,n1⟩:=za1 S5.X.n;obtain⟨a0,a1⟩:=za1 S5.X.q.o;have af:=fun i=>yZ _ _ i _ _ S5.X.q.o;have hz:=S5.X.zz;have iH:=gA.X;have aq:(za (some ⟨z9,0,none⟩) (i+1) c9).ownBlock≠some (w.heap.size+2):=SeQ.ne (by omega);have P7:=za4 (S5.X.p.box2 (u:=za aO bG bg) (v:=za cQ bm dI) S5.X.q.o);have B7:Zb (Za w.heap.size w ((wr.setCell ⟨w.heap.size+2,0,none⟩ (za aO bG bg)).setCell ⟨w.heap.size+2,1,none⟩ (za cQ bm dI))):=(S5.X.q.b.setCell (by simp) _).setCell (by simp) _;have O7:=za4 (zf1 (zf1 S5.X.t 0 (za aO bG bg) aq) 1 (za cQ bm dI) aq);clear aq;go_wp2;refine xe (v:=.tuple #[.agg #[za aO bG bg,za cQ bm dI],za (some ⟨z9,0,none⟩) (i+1) c9,.bool true]) (by simp[results,Tryz.results8,go_sem,a0,a1]) rfl ?_;exact⟨aO,bG,bg,cQ,bm,dI,R9,_,rfl,B7.X,S5.X.hn,S5.X.hl,K5.X,P7.X.base (by omega),by rw[TL.X];exact zb5 O7.X (by omega)⟩
 ·have ur:(pv !=0)=true:=by simp[dq]
  obtain⟨a0,a1⟩:=za1 Q1.X.o;have af:=fun i=>yZ _ _ i _ _ Q1.X.o;rw[zX dq,jj]at d7;have m7:GB=false:=by rw[d7.X];try rfl
  subst m7;obtain⟨g2,g3,g4⟩:=bw.X rfl;subst g2 g3 g4;clear bw fy;have B5:Zb (Za w.heap.size w ((w1.setCell ⟨w.heap.size+2,0,none⟩ (za none 0 0)).setCell ⟨w.heap.size+2,1,none⟩ (za none 0 0))):=(Q1.X.b.setCell (by simp) _).setCell (by simp) _
  go_wp2_with(go_at_call 39;refine(zc0 _ _ _ _).mono ?_;rintro e w' ⟨rfl,dx⟩;subst w';first|rw[di.X]|rw[d9.X])
  refine xe (v:=.tuple #[.agg #[za none 0 0,za none 0 0],za none 0 0,.bool false]) (by simp[results,Tryz.results8,go_sem,a0,a1]) rfl ?_;exact⟨none,0,0,none,0,0,[],za none 0 0,rfl,B5.X,rfl,rfl,rfl,⟨xZ _ _ _ _,(fun s hs=>by cases hs),xZ _ _ _ _⟩,xZ _ _ _ _⟩
theorem z75(a:Option Zd)(c dG:Nat)(w:zi)(hl:dG<=9223372036854775807)(h:1048576<dG):
 Zc zh 3 #[za a dG c] w fun e w'=>e=.returned (.bool true)/\Za w.heap.size w w':=by
 have hd:decide (1048576<dG)=true:=zW h;go_enter Tryz.func3,Tryz.ntmps3
 go_wp2_with(go_at_call 5;refine(yu0 a c dG w hl).mono ?_;rintro e w1 ⟨rfl,iX⟩;subst w1;rw[hd])
 go_ret;exact⟨rfl,y5 _ _⟩
theorem z20(a:Option Zd)(ca:Nat)(bs:List Int)(w:zi)(hA:zL3 w a bs)(hl:bs.length<=1048576):
 Zc zh 3 #[za a bs.length ca] w fun e w'=>e=.returned (.bool true)/\Za w.heap.size w w':=by
 have HA:=za4 hA;clear hA;have hd:decide (1048576<bs.length)=false:=zX (by omega);go_enter Tryz.func3,Tryz.ntmps3
 go_wp2_with fail
 refine(yu0 a ca bs.length w (by omega)).mono ?_;rintro e w1 ⟨rfl,iX⟩;subst w1;rw[hd];clear hd
 go_wp2_with fail
 refine(zJ9 a ca bs w HA.X hl).mono ?_;rintro e w1 ⟨n,g,zl,cg,go,ko,co,gv,kv,cv,zs,O,V,fi,rs,ls,R,L,sd,st,rfl,⟨hz,hO,hV,Lj,Ml,Nf,Ng⟩,⟨D',E0,Gd,Bz⟩,hb,iz,io,iv,da⟩;obtain⟨N,Oi⟩:∃v,Zb (bs.length=v):=⟨_,rfl⟩;rw[Oi.X]at hl⊢;obtain⟨ra,rc,e⟩:=zp1 da.r;subst e;obtain⟨la,lc,e⟩:=zp1 da.l;subst e;obtain⟨nr,cV⟩:∃v,Zb (R.length=v):=⟨_,rfl⟩;obtain⟨m,HM⟩:∃v,Zb (L.length=v):=⟨_,rfl⟩;have HZ:=za4 hz;have HO:=za4 hO;have HV:=za4 hV;have bt:Zb (∀r∈R,r.ids.length<=r.c):=fun r hr=>(da.ints r hr).2;have eU:=za4 E0;have iY:Zb ((zb0 R R.length).length<=1048576):=xj (zD9 E0 _ (zT _)) (by omega);have kZ:Zb (∀x∈L,(zD zd x).wf=true):=y53 Bz;rw[cV.X,HM.X]at da;rw[cV.X]at D'⊢;rw[HM.X]at Gd⊢;have fd:Zb _:=(ym2 da cV.X HM.X).1;have e_:Zb _:=(ym2 da cV.X HM.X).2;have K1:Zb (LP w ((w1.alloc (zg #[ze zd n,za (some ⟨g,0,none⟩) zl cg,za (some ⟨go,0,none⟩) ko co,za (some ⟨gv,0,none⟩) kv cv,ze zd fi] 30)).alloc (zg #[za ra nr rc,za la m lc] 33)) w1.heap.size (w1.heap.size+1) #[ze zd n,za (some ⟨g,0,none⟩) zl cg,za (some ⟨go,0,none⟩) ko co,za (some ⟨gv,0,none⟩) kv cv,ze zd fi] ra nr rc la m lc g go gv zs O V R L):=by
  have ha:Za w1.heap.size w1 ((w1.alloc (zg #[ze zd n,za (some ⟨g,0,none⟩) zl cg,za (some ⟨go,0,none⟩) ko co,za (some ⟨gv,0,none⟩) kv cv,ze zd fi] 30)).alloc (zg #[za ra nr rc,za la m lc] 33)):=(zP _).alloc (by simp) _;exact⟨hb.trans (ha.mono hb.size),xm _ _ _,xh _ _ _,iz.below ha,io.below ha,iv.below ha,(zI5 da cV.X).below ha,(yA7 da HM.X).below ha⟩
 clear hz hO hV hb iz io iv da E0 Bz;have dm:=yI9 sd st n fi zs O V ko kv R L;have Fb:=yC0 (sd:=sd) (st:=st) (n:=n) (fine:=fi) (zs:=zs) (os:=O) (vs:=V) (ko:=ko) (kv:=kv) (R:=R) (L:=L);have GS:Zb (sgB sd st n fi zs O V ko kv R L=true->_):=fun h=>yF8 h;have JQ:Zb (∀W k kp,LP w W k kp #[ze zd n,za (some ⟨g,0,none⟩) zl cg,za (some ⟨go,0,none⟩) ko co,za (some ⟨gv,0,none⟩) kv cv,ze zd fi] ra nr rc la m lc g go gv zs O V R L->zc2 W ra la nr m R L):=fun W k kp h=>⟨cV.X,HM.X,h.r,h.l,fd.X,e_.X,bt.X⟩;have KK:Zb (∀r∈R,r.ids.length<=1048576):=fun r hr=>by have:=eU.X r hr;omega
 have EM:Zb (∀(s9:Int) W k kp,LP w W k kp #[ze zd n,za (some ⟨g,0,none⟩) zl cg,za (some ⟨go,0,none⟩) ko co,za (some ⟨gv,0,none⟩) kv cv,ze zd fi] ra nr rc la m lc g go gv zs O V R L->Zc zh 7 #[.agg #[ze zd n,za (some ⟨g,0,none⟩) zl cg,za (some ⟨go,0,none⟩) ko co,za (some ⟨gv,0,none⟩) kv cv,ze zd fi],.agg #[za ra nr rc,za la m lc],ze zd sd,ze zd s9] W (zN5 W (sgB sd s9 n fi zs O V ko kv R L) (sgT sd s9 n fi zs O V ko kv R L) (sgR sd s9 n fi zs O V ko kv R L) (sgL sd s9 n fi zs O V ko kv R L))):=fun s9 W k kp h=>
  zC2 sd s9 n fi _ _ _ ra la zl cg ko co kv cv nr rc m lc zs O V L R W h.iz h.io h.iv HZ.X HO.X HV.X (by omega) (by omega) (JQ.X W k kp h) (by omega) KK.X (by omega) iY.X kZ.X
 have E3:Zb (∀W k kp,LP w W k kp #[ze zd n,za (some ⟨g,0,none⟩) zl cg,za (some ⟨go,0,none⟩) ko co,za (some ⟨gv,0,none⟩) kv cv,ze zd fi] ra nr rc la m lc g go gv zs O V R L->Zc zh 8 #[.agg #[ze zd n,za (some ⟨g,0,none⟩) zl cg,za (some ⟨go,0,none⟩) ko co,za (some ⟨gv,0,none⟩) kv cv,ze zd fi],.agg #[za ra nr rc,za la m lc],ze zd sd,ze zd st] W (yx1 W (sgB sd st n fi zs O V ko kv R L) (sgT sd st n fi zs O V ko kv R L) (sgR sd st n fi zs O V ko kv R L) (sgL sd st n fi zs O V ko kv R L))):=fun W k kp h=>
  zB4 sd st n fi _ _ ra la zl cg ko co gv 0 kv cv nr rc m lc zs O V L R W h.iz h.io h.iv HZ.X HO.X HV.X (by omega) (by omega) (JQ.X W k kp h) (by omega) KK.X (by omega) iY.X
 have J8:Zb (∀(ag ak:Option Zd) (ai aj:Nat) (R2:List RT) (L2:List Int) W k kp,LP w W k kp #[ze zd n,za (some ⟨g,0,none⟩) zl cg,za (some ⟨go,0,none⟩) ko co,za (some ⟨gv,0,none⟩) kv cv,ze zd fi] ra nr rc la m lc g go gv zs O V R L->za9 W ag R2->za3 W ak L2->R2.length<=500->(∀r∈R2,r.ids.length<=12/\r.ids.length<=r.c)->L2.length<=500->(∀x∈L2,(zD zd x).wf=true)->Zc zh 12 #[.agg #[ze zd n,za (some ⟨g,0,none⟩) zl cg,za (some ⟨go,0,none⟩) ko co,za (some ⟨gv,0,none⟩) kv cv,ze zd fi],.agg #[za ag R2.length ai,za ak L2.length aj]] W fun e w'=>e=.returned (ze zd (zc1 n zs O V ko kv fi R2 L2))/\Za W.heap.size W w'):=fun ag ak ai aj R2 L2 W k kp h h1 h2 h3 h4 h5 h6=>by
  have h9:=zD9 (fun r hr=>(h4 r hr).1) R2.length (zT _);have:=zx4 n fi _ _ _ ag ak cg ko co kv cv ai aj zs O V L2 R2 W h.iz h.io h.iv h1 h2 HO.X HV.X (by omega) (by omega) (by omega) (fun r hr=>by have:=(h4 r hr).1;omega) (fun r hr=>(h4 r hr).2) (by omega) (by omega) h6;rw[HZ.X]at this;exact this
 have E5:Zb (∀(ag ak:Option Zd) (ai aj:Nat) (R2:List RT) (L2:List Int) W k kp,LP w W k kp #[ze zd n,za (some ⟨g,0,none⟩) zl cg,za (some ⟨go,0,none⟩) ko co,za (some ⟨gv,0,none⟩) kv cv,ze zd fi] ra nr rc la m lc g go gv zs O V R L->za9 W ag R2->za3 W ak L2->R2.length<=500->(∀r∈R2,r.ids.length<=12/\r.ids.length<=r.c)->L2.length<=500->(∀x∈L2,(zD zd x).wf=true)->Zc zh 11 #[.agg #[ze zd n,za (some ⟨g,0,none⟩) zl cg,za (some ⟨go,0,none⟩) ko co,za (some ⟨gv,0,none⟩) kv cv,ze zd fi],.agg #[za ag R2.length ai,za ak L2.length aj]] W fun e w'=>e=.returned (ze zd (zp0 n zs O V ko kv fi R2 L2))/\Za W.heap.size W w'):=fun ag ak ai aj R2 L2 W k kp h h1 h2 h3 h4 h5 h6=>by
  have h9:=zD9 (fun r hr=>(h4 r hr).1) R2.length (zT _);have:=zC1 n fi _ _ _ ag ak cg ko co kv cv ai aj zs O V L2 R2 W h.iz h.io h.iv h1 h2 HO.X HV.X (by omega) (by omega) (by omega) (fun r hr=>by have:=(h4 r hr).1;omega) (fun r hr=>(h4 r hr).2) (by omega) (by omega) h6;rw[HZ.X]at this;exact this
 obtain⟨GB,dJ⟩:=nmd (sgB sd st n fi zs O V ko kv R L);obtain⟨GT,kY⟩:=nmd (sgT sd st n fi zs O V ko kv R L);obtain⟨GR,cC⟩:=nmd (sgR sd st n fi zs O V ko kv R L);obtain⟨GL,cZ⟩:=nmd (sgL sd st n fi zs O V ko kv R L);obtain⟨nt,uW⟩:=nmd GT.length;rw[cC.X,cZ.X]at dm;rw[kY.X,uW.X]at Fb;rw[dJ.X,kY.X,cC.X,cZ.X]at GS;have dH:=hdn dm;clear dm;have Er:=EM.X st _ _ _ K1.X;rw[dJ.X,kY.X,cC.X,cZ.X]at E3;rw[dJ.X,kY.X,cC.X,cZ.X]at Er;clear dJ kY cC cZ;obtain⟨d0,d1,d2,d3,d4⟩:=zc6 K1.X.b1;obtain⟨p0,p1⟩:=za1 K1.X.b2
 go_wp2_with fail
 generalize(w1.alloc _).alloc _=W1 at*;obtain⟨k,HK⟩:=nmd w1.heap.size;obtain⟨kp,wX⟩:=nmd (w1.heap.size+1);rw[wX.X]at K1 p0 p1⊢;rw[HK.X]at K1 d0 d1 d2 d3 d4⊢;refine Er.mono ?_;rintro e w2 ⟨qa,qn,qc,qk,ql,qd,SG,tv,b0,rfl,hb,rU,gd,kV,-,da,-,gm,-⟩;obtain⟨ta,tc,e⟩:=zh0 gm;subst e;have Im:=hdn gm;rw[uW.X]at gm Im⊢;have nA:=hdn rU;have nK:=hdn gd;have pY:=hdn kV;have sK:Zb (∀r∈SG,r.ids.length<=12/\r.ids.length<=r.c):=fun r hr=>⟨(z13 kV dH.X.1 r hr).2,(da.ints r hr).2⟩;have Jq:qn<=500:=by have h1:=dH.X.2.1;have h2:=congrArg zo kV;simp only[qT]at h2;omega
 have uS:ql<=500:=by have h1:=dH.X.2.2;omega
 have hA:Za w2.heap.size w2 (w2.alloc (zg #[za qa qn qc,za qk ql qd] 33)):=zP _;have K3:=hdn ((K1.X.below hb).below hA);have Q3:=hdn (LQ.new da rU gd);have T3:=hdn ((ze9 gm).below hA);clear hb rU gd kV da gm hA K1 d0 d1 d2 d3 d4 p0 p1 Er;obtain⟨d0,d1,d2,d3,d4⟩:=zc6 K3.X.b1;obtain⟨p0,p1⟩:=za1 K3.X.b2
 go_wp2_with fail
 generalize w2.alloc _=W3 at*;obtain⟨kq,lq⟩:=nmd w2.heap.size;rw[lq.X]at Q3⊢;refine(E3.X _ _ _ K3.X).mono ?_;rintro e w4 ⟨xa,xn,xc,xk,xl,xd,SW,xv,rfl,hb,rU,gd,kV,da,gm⟩;have e1:qn=xn:=by rw[<-nA.X,<-rU];have:=congrArg zo (pY.X.trans kV.symm);simpa using this
 have e2:ql=xl:=nK.X.symm.trans gd;subst e1 e2;obtain⟨xt,JM,e⟩:=zh0 gm;subst e;rw[uW.X]at gm⊢;have GV:=hdn (kV.trans pY.X.symm);have hA:Za w4.heap.size w4 (w4.alloc (zg #[za xa qn xc,za xk ql xd] 33)):=zP _;have tA:=hb.trans (hA.mono hb.size);have K5:=hdn (K3.X.below tA);have Q5:=hdn (Q3.X.below tA);have T5:=hdn (T3.X.below tA);have X5:=hdn (LQ.new da rU gd);have U5:=hdn ((ze9 gm).below hA);clear hb rU gd kV da gm hA tA K3 Q3 T3 d0 d1 d2 d3 d4 p0 p1 E3;have FQ:Zb (∀W,za3 W ta GT->za3 W xt GT->Zc zh 9 #[za ta nt tc,za xt nt JM] W fun e w'=>e=.returned (.bool true)/\Za W.heap.size W w'):=fun W h1 h2=>by
  have:=zr5 ta xt tc JM GT GT W h1 h2 (by have:=uW.X;omega);rw[uW.X,zW rfl]at this;exact this
 have uG:Zb (∀W,za9 W qa SG->za9 W xa SW->za3 W qk GL->za3 W xk GL->Zc zh 10 #[.agg #[za qa qn qc,za qk ql qd],.agg #[za xa qn xc,za xk ql xd]] W fun e w'=>e=.returned (.bool true)/\Za W.heap.size W w'):=fun W h1 h2 h3 h4=>zQ4 qa xa qk xk qc xc qn qd xd ql SG SW GL W h1 h2 GV.X nA.X (by omega) (fun r hr=>by have:=(sK.X r hr).1;omega) h3 h4 nK.X (by omega)
 have MC:(GB !=GB)=false:=by simp
 have MR:(GB==GB)=true:=by simp
 obtain⟨kw,Ku⟩:=nmd w4.heap.size;rw[Ku.X]at X5;obtain⟨q0,q1⟩:=za1 Q5.X.b;obtain⟨x0,x1⟩:=za1 X5.X.b
 go_wp2_with fail
 generalize w4.alloc _=W5 at*;rw[Ku.X];refine(FQ.X W5 T5.X U5.X).mono ?_;rintro e w6 ⟨rfl,hb⟩;have K6:=hdn (K5.X.below hb);have Q6:=hdn (Q5.X.below hb);have T6:=hdn (T5.X.below hb);have X6:=hdn (X5.X.below hb);have U6:=hdn (U5.X.below hb);clear hb K5 Q5 T5 X5 U5 q0 q1 x0 x1;obtain⟨q0,q1⟩:=za1 Q6.X.b;obtain⟨x0,x1⟩:=za1 X6.X.b
 go_wp2_with fail
 refine(uG.X w6 Q6.X.r X6.X.r Q6.X.l X6.X.l).mono ?_;rintro e w7 ⟨rfl,hb⟩;have K7:=hdn (K6.X.below hb);have Q7:=hdn (Q6.X.below hb);have T7:=hdn (T6.X.below hb);have X7:=hdn (X6.X.below hb);have U7:=hdn (U6.X.below hb);clear hb K6 Q6 T6 X6 U6 q0 q1 x0 x1;cases GB
 ·go_wp2_with fail
  refine(FQ.X w7 T7.X U7.X).mono ?_;rintro e w8 ⟨rfl,hb⟩;obtain⟨q0,q1⟩:=za1 (Q7.X.below hb).b;obtain⟨x0,x1⟩:=za1 (X7.X.below hb).b;have B8:=hdn (K7.X.below hb).b;have SB:=hdn (uG.X w8 (Q7.X.below hb).r (X7.X.below hb).r (Q7.X.below hb).l (X7.X.below hb).l);clear hb
  go_wp2_with fail
  refine SB.X.mono ?_;rintro e w9 ⟨rfl,hb⟩;have B9:=hdn (B8.X.trans (hb.mono B8.X.size));clear hb;go_wp2;go_ret;exact⟨by first|rfl|simp,B9.X⟩
 ·obtain⟨N,bz,tz,dq,Ch,fQ,Hp,aC,gz⟩:=GS.X rfl
  subst bz;clear FQ uG X7 U7 GS MC MR;have px:∀i j,j<=i->(seT sd n fi zs O V ko kv R L i).getD j 0=seC sd n fi zs O V ko kv R L j:=fun i j h=>yG3 h;have us:∀i j,j<=i->(seT sd n fi zs O V ko kv R L i).take (j+1)=seT sd n fi zs O V ko kv R L j:=fun i j h=>y70 h;have sR:=zR8 sd n fi zs O V ko kv R L;have tC:∀i,seC sd n fi zs O V ko kv R L (i+1)<=seC sd n fi zs O V ko kv R L i:=fun i=>y88 i;have sG:zp0 n zs O V ko kv fi R L=seC sd n fi zs O V ko kv R L 0:=rfl;obtain⟨T,HT⟩:=nmd (seT sd n fi zs O V ko kv R L);obtain⟨C,HC⟩:=nmd (seC sd n fi zs O V ko kv R L);rw[HT.X]at px us sR Ch gz;rw[HC.X]at px tC Hp sG;have Fe:=hdn px;have eN:=hdn us;have dP:=hdn sR;have uy:=hdn tC;have bo:=hdn sG;have m3:=hdn Hp;have pV:=hdn fQ;have IP:=hdn (yD9 fQ);have Cq:=hdn (EM.X ((N / 2:Nat):Int));rw[aC,gz]at Cq;subst Ch;clear px us sR tC sG Hp fQ dq HT HC aC gz EM;have e3:nt=N+1:=uW.X.symm.trans (dP.X N);subst e3;have Jg:Zb (N+1<=tc):=by
   have h9:=Im.X;rcases own_kinds h9 with⟨e,h0⟩|⟨g9,c9,e,_⟩
   ·omega
   ·rw[e]at h9
    injection e with e1 e2 e3
    subst e3;exact zz6 h9
  obtain⟨tb,tx,e,-⟩:=T7.X 0 (by rw[dP.X];omega);subst e;have CT:Zb (∀W,Za w7.heap.size w7 W->∀j,j<=N->W.cell? ⟨tb,tx+j,none⟩=some (ze zd (C j))):=fun W hW j hj=>by
   obtain⟨b,off,e,hc⟩:=(T7.X.below hW) j (by rw[dP.X];omega);simp only[x7,qg,qt]at e;obtain⟨rfl,rfl⟩:=e;rw[Fe.X N j hj]at hc;exact hc
  clear Im;have E9:R.length<=500:=by have:=cV.X;omega
  have EE:L.length<=500:=by have:=HM.X;omega
  have Bj:SG.length<=500:=by have:=nA.X;omega
  have wL:GL.length<=500:=by have:=nK.X;omega
  have gC:Zb (∀r∈R,r.ids.length<=12/\r.ids.length<=r.c):=fun r hr=>⟨by have:=eU.X r hr;omega,bt.X r hr⟩
  have ND:Zb (∀W,LP w W k kp #[ze zd n,za (some ⟨g,0,none⟩) zl cg,za (some ⟨go,0,none⟩) ko co,za (some ⟨gv,0,none⟩) kv cv,ze zd fi] ra nr rc la m lc g go gv zs O V R L->Zc zh 11 #[.agg #[ze zd n,za (some ⟨g,0,none⟩) zl cg,za (some ⟨go,0,none⟩) ko co,za (some ⟨gv,0,none⟩) kv cv,ze zd fi],.agg #[za ra nr rc,za la m lc]] W fun e w'=>e=.returned (ze zd (C 0))/\Za W.heap.size W w'):=fun W h1=>by
   have:=E5.X ra la rc lc R L W k kp h1 h1.r h1.l E9 gC.X EE kZ.X;rw[cV.X,HM.X,bo.X]at this;exact this
  have Pj:Zb (∀W,LP w W k kp #[ze zd n,za (some ⟨g,0,none⟩) zl cg,za (some ⟨go,0,none⟩) ko co,za (some ⟨gv,0,none⟩) kv cv,ze zd fi] ra nr rc la m lc g go gv zs O V R L->LQ W kq qa qn qc qk ql qd SG GL->Zc zh 11 #[.agg #[ze zd n,za (some ⟨g,0,none⟩) zl cg,za (some ⟨go,0,none⟩) ko co,za (some ⟨gv,0,none⟩) kv cv,ze zd fi],.agg #[za qa qn qc,za qk ql qd]] W fun e w'=>e=.returned (ze zd (C N))/\Za W.heap.size W w'):=fun W h1 h2=>by
   have:=E5.X qa qk qc qd SG GL W k kp h1 h2.r h2.l Bj sK.X wL IP.X;rw[nA.X,nK.X,zs9 GL pY.X,m3.X]at this;exact this
  have Mj:Zb (∀W,LP w W k kp #[ze zd n,za (some ⟨g,0,none⟩) zl cg,za (some ⟨go,0,none⟩) ko co,za (some ⟨gv,0,none⟩) kv cv,ze zd fi] ra nr rc la m lc g go gv zs O V R L->LQ W kq qa qn qc qk ql qd SG GL->Zc zh 12 #[.agg #[ze zd n,za (some ⟨g,0,none⟩) zl cg,za (some ⟨go,0,none⟩) ko co,za (some ⟨gv,0,none⟩) kv cv,ze zd fi],.agg #[za qa qn qc,za qk ql qd]] W fun e w'=>e=.returned (ze zd 0)/\Za W.heap.size W w'):=fun W h1 h2=>by
   have:=J8.X qa qk qc qd SG GL W k kp h1 h2.r h2.l Bj sK.X wL IP.X;rw[nA.X,nK.X,zd6 GL pY.X,pV.X]at this;exact this
  clear J8 E5
  go_wp2_with fail
  go_loopw[13] (fun Av wr=>∃i:Nat,1<=i/\i<=N+1/\Av=ze zd i/\Za w7.heap.size w7 wr) (fun t _=>N+2 - (intOf t).toNat)
  case atStart=>exact⟨1,by omega,by omega,rfl,y5 _ _⟩
  case round=>
   obtain⟨i,NC,hi,rfl,gS⟩:=hrel;obtain⟨j,rfl⟩:∃j,i=j+1:=⟨i - 1,by omega⟩;have BX:=hdn gS;clear gS;by_cases ah:j<N
   ·have et:((j+1:Nat):Int)<((N+1:Nat):Int):=by omega
    have Qq:(0:Int)<=(j:Int)+1:=by omega
    have Gu:(j:Int)+1<(N:Int)+1:=by omega
    have Fg:(j:Int)<(N:Int)+1:=by omega
    have Oo:IntKind.i64.wrap (j:Int)=(j:Int):=xz _ (by omega);have Qu:decide (C j<C (j+1))=false:=zX (by have:=uy.X j;omega);have hD:Za w7.heap.size w7 wr.drew:=BX.X.trans ((y5 _ _).drew.mono BX.X.size);have c1:=CT.X _ hD (j+1) ah;have c0:=CT.X _ hD j (by omega)
    go_wp2_with fail
    refine qG (S:=(fun W=>W.cell? ⟨tb,tx+(j+1),none⟩=some (ze zd (C (j+1)))/\W.cell? ⟨tb,tx+j,none⟩=some (ze zd (C j)))) (by kernel_rfl) ?_ fun aa=> ?_
    ·exact⟨c1,c0⟩
    clear c0 c1;have BD:=hdn hD;clear hD BX;generalize wr.drew=wd at*;refine tkH 0 aa ?_;refine tkH 1 aa ?_;refine tkH 2 aa ?_;refine tkH 3 aa ?_;refine tkH 4 aa ?_;refine tkH 5 aa ?_;refine tkH 6 aa ?_;refine tkH 7 aa ?_;refine tkH 8 aa ?_;refine tkH 9 aa ?_;refine qF (by kernel_rfl) ?_ _;clear aa;go_wp2;go_roundw
    case rel=>exact⟨j+2,by omega,by omega,by first|rfl|go_num,BD.X⟩
    case measure=>simp[intOf];omega
   ·have LZ:N=j:=by omega
    subst LZ;have K8:=hdn (K7.X.below BX.X);have hq:Int.tdiv (N:Int) 2=((N / 2:Nat):Int):=by first|rfl|exact(Int.ofNat_tdiv N 2).symm|exact(Int.natCast_tdiv N 2).symm
    have pA:IntKind.i64.wrap ((N / 2:Nat):Int)=((N / 2:Nat):Int):=xz _ (by omega);obtain⟨h,HH⟩:=nmd (N / 2);rw[HH.X]at hq pA Cq;have QJ:h<=N:=by have:=HH.X;omega
    obtain⟨d0,d1,d2,d3,d4⟩:=zc6 K8.X.b1;obtain⟨p0,p1⟩:=za1 K8.X.b2
    go_wp2_with fail
    refine(Cq.X _ _ _ K8.X).mono ?_;rintro e w8 ⟨ya,yn,yc,yk,yl,yd,SY,yv,b1,rfl,hb,-,-,-,-,-,-,gm,-⟩;obtain⟨ft,fc,e⟩:=zh0 gm;subst e;have Cx:=hdn (dP.X h);rw[Cx.X]at gm⊢;have hA:Za w8.heap.size w8 (w8.alloc (zg #[za ya yn yc,za yk yl yd] 33)):=zP _;have tA:=hb.trans (hA.mono hb.size);have B9:=hdn (BX.X.trans (tA.mono BX.X.size));have F9:=hdn ((ze9 gm).below hA);clear hb gm hA tA BX K8 Cq d0 d1 d2 d3 d4 p0 p1
    go_wp2_with fail
    generalize w8.alloc _=w9 at*;have K9:=hdn (K7.X.below B9.X);have Q9:=hdn (Q7.X.below B9.X);have CU:=hdn (fun W (hW:Za w9.heap.size w9 W)=>CT.X W (B9.X.trans (hW.mono B9.X.size)));have Lh:Zb (∀W,Za w9.heap.size w9 W->Zc zh 9 #[za ft (h+1) fc,za (some ⟨tb,tx,none⟩) (h+1) tc] W fun e w'=>e=.returned (.bool true)/\Za W.heap.size W w'):=fun W hW=>by
     have:=zr5 ft (some ⟨tb,tx,none⟩) fc tc (T h) (T h) W (F9.X.below hW) (fun j hj=>⟨tb,tx,rfl,by rw[Cx.X]at hj;rw[Fe.X h j (by omega)];exact CU.X W hW j (by omega)⟩) (by have:=Cx.X;omega);rw[Cx.X,zW rfl]at this;exact this
    have wn:Zb (∀W,Za w9.heap.size w9 W->(W.cell? ⟨k,0,none⟩=some (ze zd n)/\W.cell? ⟨k,1,none⟩=some (za (some ⟨g,0,none⟩) zl cg)/\W.cell? ⟨k,2,none⟩=some (za (some ⟨go,0,none⟩) ko co)/\W.cell? ⟨k,3,none⟩=some (za (some ⟨gv,0,none⟩) kv cv)/\W.cell? ⟨k,4,none⟩=some (ze zd fi))/\(W.cell? ⟨kp,0,none⟩=some (za ra nr rc)/\W.cell? ⟨kp,1,none⟩=some (za la m lc))/\(W.cell? ⟨kq,0,none⟩=some (za qa qn qc)/\W.cell? ⟨kq,1,none⟩=some (za qk ql qd))/\W.cell? ⟨tb,tx,none⟩=some (ze zd (C 0))/\W.cell? ⟨tb,tx+N,none⟩=some (ze zd (C N))):=fun W hW=>⟨zc6 (K9.X.below hW).b1,za1 (K9.X.below hW).b2,za1 (Q9.X.below hW).b,CU.X W hW 0 (xi _),CU.X W hW N (zT _)⟩;have iX:IntKind.i64.wrap ((N:Int)+1)=(N:Int)+1:=xz _ (by omega);have Rg:((N:Int)+1==(N:Int)+1)=true:=by simp
    have Qz:(C 0==C 0)=true:=by simp
    have Re:(C N==C N)=true:=by simp
    have Bh:(0:Int)<=(h:Int)+1:=by omega
    have Qm:(h:Int)+1<=(tc:Int):=by have:=Jg.X;omega
    have Rq:((h:Int)+1).toNat=h+1:=by omega
    have Qy:(N:Int)<(N:Int)+1:=by omega
    clear CT T7 Q7 K7 uy eN Fe Jg dP;refine qG (S:=(fun W=>(W.cell? ⟨k,0,none⟩=some (ze zd n)/\W.cell? ⟨k,1,none⟩=some (za (some ⟨g,0,none⟩) zl cg)/\W.cell? ⟨k,2,none⟩=some (za (some ⟨go,0,none⟩) ko co)/\W.cell? ⟨k,3,none⟩=some (za (some ⟨gv,0,none⟩) kv cv)/\W.cell? ⟨k,4,none⟩=some (ze zd fi))/\(W.cell? ⟨kp,0,none⟩=some (za ra nr rc)/\W.cell? ⟨kp,1,none⟩=some (za la m lc))/\(W.cell? ⟨kq,0,none⟩=some (za qa qn qc)/\W.cell? ⟨kq,1,none⟩=some (za qk ql qd))/\W.cell? ⟨tb,tx,none⟩=some (ze zd (C 0))/\W.cell? ⟨tb,tx+N,none⟩=some (ze zd (C N)))) (by kernel_rfl) ?_ fun aa=> ?_
    ·exact wn.X _ (y5 _ _).drew
    have BZ:=hdn ((y5 w9.heap.size w9).drew);generalize w9.drew=wd at*;refine tkH 0 aa ?_;refine tkH 1 aa ?_;refine tkH 2 aa ?_;refine tkH 3 aa ?_;refine tkH 4 aa ?_;refine tkH 5 aa ?_;refine tkH 6 aa ?_;refine tkH 7 aa ?_;refine tkH 8 aa ?_;refine tkH 9 aa ?_;refine tkH 10 aa ?_;refine rdH 11 fun K hK=> ?_;go_simp;refine(ND.X _ (K9.X.below BZ.X)).mono ?_;rintro e wx ⟨rfl,hb⟩;have BY:=hdn (BZ.X.trans (hb.mono BZ.X.size));clear hb BZ;have BZ:=BY;clear BY
    (try go_wp2_with fail)
    refine hoW hK (wn.X _ BZ.X) fun aa=> ?_;clear hK K;refine tkH 12 aa ?_;refine tkH 13 aa ?_;refine tkH 14 aa ?_;refine tkH 15 aa ?_;refine tkH 16 aa ?_;refine tkH 17 aa ?_;refine tkH 18 aa ?_;refine tkH 19 aa ?_;refine tkH 20 aa ?_;refine rdH 21 fun K hK=> ?_;go_simp;refine(Pj.X _ (K9.X.below BZ.X) (Q9.X.below BZ.X)).mono ?_;rintro e wx ⟨rfl,hb⟩;have BY:=hdn (BZ.X.trans (hb.mono BZ.X.size));clear hb BZ;have BZ:=BY;clear BY
    (try go_wp2_with fail)
    refine hoW hK (wn.X _ BZ.X) fun aa=> ?_;clear hK K;refine tkH 22 aa ?_;refine tkH 23 aa ?_;refine tkH 24 aa ?_;refine tkH 25 aa ?_;refine tkH 26 aa ?_;refine rdH 27 fun K hK=> ?_;go_simp;refine(Mj.X _ (K9.X.below BZ.X) (Q9.X.below BZ.X)).mono ?_;rintro e wx ⟨rfl,hb⟩;have BY:=hdn (BZ.X.trans (hb.mono BZ.X.size));clear hb BZ;have BZ:=BY;clear BY
    (try go_wp2_with fail)
    refine hoW hK (wn.X _ BZ.X) fun aa=> ?_;clear hK K;refine tkH 28 aa ?_;refine tkH 29 aa ?_;refine tkH 30 aa ?_;refine tkH 31 aa ?_;refine tkH 32 aa ?_;refine tkH 33 aa ?_;refine tkH 34 aa ?_;refine rdH 35 fun K hK=> ?_;go_simp;refine(Lh.X _ BZ.X).mono ?_;rintro e wx ⟨rfl,hb⟩;have BY:=hdn (BZ.X.trans (hb.mono BZ.X.size));clear hb BZ;have BZ:=BY;clear BY
    (try go_wp2_with fail)
    refine hoW hK (wn.X _ BZ.X) fun aa=> ?_;clear hK K;refine tkH 36 aa ?_;refine tkH 37 aa ?_;refine qF (by kernel_rfl) ?_ _;clear aa;go_wp2;go_ret;exact⟨by first|rfl|simp,(K9.X.below BZ.X).b⟩
theorem zP6(a:Option Zd)(c:Nat)(bs:List Int)(w:zi)(hA:zL3 w a bs)(hl:bs.length<=9223372036854775807):
 Zc zh 3 #[za a bs.length c] w fun e w'=>e=.returned (.bool true)/\Za w.heap.size w w':=by
 by_cases h:bs.length<=1048576
 ·exact z20 a c bs w hA h
 ·exact z75 a c bs.length w hl (by omega)
