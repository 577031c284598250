import Derived.Test.YtkchnomkiboihaaGreatPack41
import Derived.Test.YtkchnomkiboihaaGreatImplRebuilt
set_option linter.unusedSimpArgs false
set_option maxHeartbeats 8000000
set_option maxRecDepth 10000
namespace Go.Proofs.YtkchnomkiboihaaGreat
open RowKit renaming Below→Za,Hid→Zb
open Go renaming Calls→Zc,Addr→Zd
open Value renaming slice→za,int→ze,ownBlock→zm
open IntKind renaming i64→zd
open Obj renaming cells→zg
open Proofs.Tryz renaming prog→zh
open Go renaming World→zi
open List renaming length→zo
open Lit renaming int→zD
open Go.RowKit
open Q
def yG5(w:zi)(K:Nat->Prop)(v:Int)(f:Bool)(T:List RT)(L:List Int)(e:Ending)(w':zi):Prop:=∃(ag:Option Zd) (n2 ai:Nat) (ak:Option Zd) (l2 aj:Nat) (R2:List RT),e=.returned (.tuple #[.agg #[za ag n2 ai,za ak l2 aj],ze zd v,.bool f])/\Za w.heap.size w w'/\R2.map RT.key=T.map RT.key/\zc3 w' ag ak n2 l2 R2 L/\∀k,k<w.heap.size->K k->zi8 k ag ak R2 L
theorem zV9(sd kk n fine:Int)(a ao av ra la:Option Zd)(zl ac ko co kv cv nr rc ln lc kb cb:Nat)(zs os vs L:List Int)(R:List RT)(w:zi)(hA:za3 w a zs)(hO:za3 w ao os)(hV:za3 w av vs)(aN:zs.length=zl)(an:os.length=ko*6)(au:vs.length=kv*5)(hP:zc3 w ra la nr ln R L)(hB:deB sd kk n fine zs os vs ko kv R L=true)(hd:zv5 w kb cb kk #[ze zd n,za a zl ac,za ao ko co,za av kv cv,ze zd fine]):
 Zc zh 112 #[.agg #[za ra nr rc,za la ln lc],ze zd sd,.pointer (some ⟨kb,0,none⟩),.pointer (some ⟨cb,0,none⟩)] w (yG5 w (fun k=>zi8 k ra la R L) (deN sd kk n fine zs os vs ko kv R L) (deF sd kk n fine zs os vs ko kv R L) (deR sd kk n fine zs os vs ko kv R L) (deL sd kk n fine zs os vs ko kv R L)):=by
 obtain⟨h1,h2,h3⟩:=yi1 hB;have D:=zO6 h1 h2 h3;have cU:=(zb7 h1).1;have aA:ko<=12:=(zd9 (zb2 cU).2.1).1;have aB:kv<=5:=(zf2 (zb2 cU).2.2.1).1;have NR:=hP;obtain⟨p1,p2,p3,p4,p5,p6,p7⟩:=hP;have DA:=zF6 n fine sd kk a ao av ra la zl ac ko co kv cv nr rc ln lc kb cb zs os vs R L (deS R) (deP sd kk R) (deS R).length (deP sd kk R).length (min kk ((deS R).length:Int)) (z77 sd (deS R).length (min kk ((deS R).length:Int))) w hA aN hO hV an au (by omega) (by omega) cU p3 p1 p4 p2 (by have:=D.t;omega) (by rw[p1];exact p5) p6 p7 rfl rfl rfl rfl rfl rfl D.i D.d D.p D.m D.w hd.1 hd.2;refine DA.mono ?_;unfold deN deF deR deL;rw[hB];simp only[jk,ji];rintro e w' ⟨hb,⟨hz,ag,n2,ai,ak,l2,aj,R2,L2,rfl,q1,q2,q3,q4,q5,q6,_,q8,q9,Ml,Py⟩|⟨hz,rfl⟩⟩
 ·have hw:deW sd kk n fine zs os vs ko kv R L=0:=hz
  have OR:L2=(deQ sd kk R L).2:=q6;subst OR;rw[z7 hw,z7 hw,zW hw];exact⟨ag,n2,ai,ak,l2,aj,R2,rfl,hb,q5,⟨q2,q4,q1,q3,by rw[<-q2];exact q9,q8,Ml⟩,Py⟩
 ·have hw:¬deW sd kk n fine zs os vs ko kv R L=0:=hz
  rw[ye hw,ye hw,zX hw];exact⟨ra,nr,rc,la,ln,lc,R,rfl,hb,rfl,NR.below hb,fun _ _ h=>h⟩
structure yH6(w:zi)(cs:Array Value)(SR:Nat->List RT)(SM:Nat->List Int)(SD:Nat->Int)(DR:Nat->List RT)(DM:Nat->List Int)(F:Nat->Bool)(YR:Nat->List RT)(YM:Nat->List Int)(YC C:Nat->Int):Prop where
 dest:∀(i:Nat) (W:zi) (ra la:Option Zd) (nr rc ln lc kb cb:Nat) (R:List RT),Za w.heap.size w W->zc3 W ra la nr ln R (SM i)->R.map RT.key=(SR i).map RT.key->zv5 W kb cb (seK i) cs->Zc zh 112 #[.agg #[za ra nr rc,za la ln lc],ze zd (SD i),.pointer (some ⟨kb,0,none⟩),.pointer (some ⟨cb,0,none⟩)] W (yG5 W (fun k=>zi8 k ra la R (SM i)) (SD (i+1)) (F i) (DR i) (DM i))
 reb:∀(i:Nat) (W:zi) (ra la:Option Zd) (nr rc ln lc:Nat) (R:List RT),F i=true->Za w.heap.size w W->zc3 W ra la nr ln R (DM i)->R.map RT.key=(DR i).map RT.key->Zc zh 36 #[.agg cs,.agg #[za ra nr rc,za la ln lc]] W (yD1 W (fun k=>zi8 k ra la R (DM i)) (YR i) (YM i))
 cost:∀(i:Nat) (W:zi) (ra la:Option Zd) (nr rc ln lc:Nat) (R:List RT),F i=true->Za w.heap.size w W->zc3 W ra la nr ln R (YM i)->R.map RT.key=(YR i).map RT.key->Zc zh 35 #[.agg cs,.agg #[za ra nr rc,za la ln lc]] W fun e w'=>e=.returned (ze zd (YC i))/\Za W.heap.size W w'
 yes:∀i,F i=true->YC i<C i->SR (i+1)=YR i/\SM (i+1)=YM i/\C (i+1)=YC i
 no:∀i,(F i=true->¬YC i<C i)->SR (i+1)=SR i/\SM (i+1)=SM i/\C (i+1)=C i
theorem zJ3(n fine:Int)(a ao av ra la:Option Zd)(zl ac ko co kv cv nr rc ln lc:Nat)(zs os vs L:List Int)(R:List RT)(w:zi)(hA:za3 w a zs)(hO:za3 w ao os)(hV:za3 w av vs)(aN:zs.length=zl)(an:os.length=ko*6)(au:vs.length=kv*5)(hP:zc3 w ra la nr ln R L)(aT:zc1 n zs os vs ko kv fine R L=0):
 Zc zh 35 #[.agg #[ze zd n,za a zl ac,za ao ko co,za av kv cv,ze zd fine],.agg #[za ra nr rc,za la ln lc]] w fun e w'=>e=.returned (ze zd (zo8 n zs os vs ko kv fine R L))/\Za w.heap.size w w':=by
 have cU:=(zb7 aT).1;have aA:ko<=12:=(zd9 (zb2 cU).2.1).1;have aB:kv<=5:=(zf2 (zb2 cU).2.2.1).1;obtain⟨p1,p2,p3,p4,p5,p6,p7⟩:=hP;have:=z34 n fine a ao av ra la ac ko co kv cv rc lc zs os vs L R w hA hO hV p3 an au (by omega) (by omega) p7 aT;rw[aN,p1,p2]at this;unfold zo8;rw[z7 aT,p1,p2];exact this
theorem yH7(sd n fine:Int)(a ao av:Option Zd)(zl ac ko co kv cv:Nat)(zs os vs L:List Int)(R:List RT)(w:zi)(hA:za3 w a zs)(hO:za3 w ao os)(hV:za3 w av vs)(aN:zs.length=zl)(an:os.length=ko*6)(au:vs.length=kv*5)(aT:zc1 n zs os vs ko kv fine R L=0)(hs:inB sd 0 2147483647=true):
 ∃(DR:Nat->List RT) (DM:Nat->List Int) (F:Nat->Bool) (YR:Nat->List RT) (YM:Nat->List Int) (YC:Nat->Int),yH6 w #[ze zd n,za a zl ac,za ao ko co,za av kv cv,ze zd fine] (fun i=>(seP sd n fine zs os vs ko kv R L i).1.1) (fun i=>(seP sd n fine zs os vs ko kv R L i).1.2) (fun i=>(seP sd n fine zs os vs ko kv R L i).2) DR DM F YR YM YC (seC sd n fine zs os vs ko kv R L):=by
 obtain⟨P,hP⟩:∃P,P=seP sd n fine zs os vs ko kv R L:=⟨_,rfl⟩;have lW:∀i,zc1 n zs os vs ko kv fine (P i).1.1 (P i).1.2=0/\inB (P i).2 0 2147483647=true:=by rw[hP];exact z40 aT hs
 have fA:∀i,P (i+1)=(seN (P i).2 (seK i) n fine zs os vs ko kv (P i).1.1 (P i).1.2,deN (P i).2 (seK i) n fine zs os vs ko kv (P i).1.1 (P i).1.2):=fun i=>by rw[hP];rfl
 have hC:∀i,seC sd n fine zs os vs ko kv R L i=zo8 n zs os vs ko kv fine (P i).1.1 (P i).1.2:=fun i=>by rw[hP];rfl
 rw[<-hP];have hB:∀i,deB (P i).2 (seK i) n fine zs os vs ko kv (P i).1.1 (P i).1.2=true:=fun i=>yA6 (lW i).1 (yB2 i) (lW i).2;refine⟨fun i=>deR (P i).2 (seK i) n fine zs os vs ko kv (P i).1.1 (P i).1.2,fun i=>deL (P i).2 (seK i) n fine zs os vs ko kv (P i).1.1 (P i).1.2,fun i=>deF (P i).2 (seK i) n fine zs os vs ko kv (P i).1.1 (P i).1.2,fun i=>(seD (P i).2 (seK i) n fine zs os vs ko kv (P i).1.1 (P i).1.2).1,fun i=>(seD (P i).2 (seK i) n fine zs os vs ko kv (P i).1.1 (P i).1.2).2,fun i=>zo8 n zs os vs ko kv fine (seD (P i).2 (seK i) n fine zs os vs ko kv (P i).1.1 (P i).1.2).1 (seD (P i).2 (seK i) n fine zs os vs ko kv (P i).1.1 (P i).1.2).2,?_,?_,?_,?_,?_⟩
 ·intro i W ra la nr rc ln lc kb cb R2 hW hp hk hd
  have h:=zV9 (P i).2 (seK i) n fine a ao av ra la zl ac ko co kv cv nr rc ln lc kb cb zs os vs (P i).1.2 R2 W (hA.below hW) (hO.below hW) (hV.below hW) aN an au hp (by rw[zH5 _ _ _ _ _ _ _ _ _ _ hk];exact hB i) hd;rw[yf2 _ _ _ _ _ _ _ _ _ _ hk,yb6 _ _ _ _ _ _ _ _ _ _ hk,yf4 _ _ _ _ _ _ _ _ _ _ hk]at h;refine h.mono ?_;rintro e w' ⟨ag,n2,ai,ak,l2,aj,R3,rfl,hb,iC,mn,f'⟩;refine⟨ag,n2,ai,ak,l2,aj,R3,?_,hb,iC.trans (yc9 _ _ _ _ _ _ _ _ _ _ hk),mn,f'⟩;simp only[fA]
 ·intro i W ra la nr rc ln lc R2 hf hW hp hk
  have hd:=(zD2 hf).2.2;have h:=yg4 n fine a ao av ra la zl ac ko co kv cv nr rc ln lc zs os vs _ R2 W (hA.below hW) (hO.below hW) (hV.below hW) aN an au hp (by rw[zd5 _ hk];exact hd);refine h.mono ?_;obtain⟨k1,k2⟩:=y03 (n:=n) (fine:=fine) (zs:=zs) (os:=os) (vs:=vs) (ko:=ko) (kv:=kv) (deL (P i).2 (seK i) n fine zs os vs ko kv (P i).1.1 (P i).1.2) hk;rintro e w' ⟨ag,n2,ai,ak,l2,aj,R3,rfl,hb,iC,mn,f'⟩;rw[k2]at mn f';exact⟨ag,n2,ai,ak,l2,aj,R3,rfl,hb,iC.trans k1,mn,f'⟩
 ·intro i W ra la nr rc ln lc R2 hf hW hp hk
  have hy:=yj8 (zD2 hf).2.2;have h:=zJ3 n fine a ao av ra la zl ac ko co kv cv nr rc ln lc zs os vs _ R2 W (hA.below hW) (hO.below hW) (hV.below hW) aN an au hp (by rw[zd5 _ hk];exact hy);rw[zs5 _ hk]at h;exact h
 ·intro i hf ah
  rw[hC]at ah;have hb:seB (P i).2 (seK i) n fine zs os vs ko kv (P i).1.1 (P i).1.2=true:=by
   unfold seB;rw[zY,qh];exact⟨hf,ah⟩
  have e:(P (i+1)).1=seD (P i).2 (seK i) n fine zs os vs ko kv (P i).1.1 (P i).1.2:=by
   rw[fA];show seN _ _ _ _ _ _ _ _ _ _ _=_;unfold seN;rw[hb,jk]
  exact⟨by rw[e],by rw[e],by rw[hC,e]⟩
 ·intro i a_
  have hb:seB (P i).2 (seK i) n fine zs os vs ko kv (P i).1.1 (P i).1.2=false:=by
   rw[<-Bool.not_eq_true];unfold seB;rw[zY,qh];exact fun h=>a_ h.1 (by rw[hC];exact h.2)
  have e:(P (i+1)).1=(P i).1:=by
   rw[fA];show seN _ _ _ _ _ _ _ _ _ _ _=_;unfold seN;rw[hb];rfl
  exact⟨by rw[e],by rw[e],by rw[hC,hC,e]⟩
theorem z28{W W':zi}{z k i:Nat}{v:Value}(hg:W.grownBy W' (some z))(hk:k≠z)(hv:W.cell? ⟨k,i,none⟩=some v):W'.cell? ⟨k,i,none⟩=some v:=by
 have h9:=hg.block k (zV hv) (fun e=>hk (by injection e));unfold World.cell? at hv⊢;simp only at hv⊢;rw[h9];exact hv
theorem zG0{W W':zi}{z:Nat}{a:Option Zd}{xs:List Int}(h:za3 W a xs)(hg:W.grownBy W' (some z))(ho:xs≠[]->∀b off,a=some ⟨b,off,none⟩->b≠z):za3 W' a xs:=fun j hj=>by
 obtain⟨b,off,e,h1⟩:=h j hj;exact⟨b,off,e,z28 hg (ho (zs1 hj) b off e) h1⟩
theorem zc3.grownL{W W':zi}{z:Nat}{ra la:Option Zd}{rn ln:Nat}{R:List RT}{L:List Int}(h:zc3 W ra la rn ln R L)(hg:W.grownBy W' (some z))(ho:zi8 z ra la R L):zc3 W' ra la rn ln R L:=by
 refine⟨h.1,h.2.1,fun j hj=> ?_,zG0 h.2.2.2.1 hg ho.2.1,h.2.2.2.2⟩;obtain⟨b,off,e,h1,h2,h3⟩:=h.2.2.1 j hj;have hm:R.getD j rt0∈R:=by rw[zQ,zR hj];simp
 have aq:=zs1 hj;exact⟨b,off,e,z28 hg (ho.1 aq b off e) h1,z28 hg (ho.1 aq b off e) h2,zG0 h3 hg (ho.2.2 _ hm)⟩
theorem GQ.grownL{w W W':zi}{z:Nat}{cs ps:Array Value}(h:GQ w W cs ps)(hg:W.grownBy W' (some z))(hz:w.heap.size+3<=z):GQ w W' cs ps:=by
 have hs:=h.size;have hr:∀k o,k<w.heap.size+3->W.heap[k]? =some o->W'.heap[k]? =some o:=fun k o hk e=>(hg.block k (za2 e) (fun e9=>by injection e9 with e9;omega)).trans e
 exact⟨h.b.grown hg h.b.size (fun k e=>by injection e with e;omega),hr _ _ (by omega) h.c,hr _ _ (by omega) h.p,hr _ _ (by omega) h.o⟩
theorem GQ.plan{w W:zi}{cs:Array Value}{x0 x1:Value}(h:GQ w W cs #[x0,x1])(u v:Value):GQ w ((W.setCell ⟨w.heap.size+1,0,none⟩ u).setCell ⟨w.heap.size+1,1,none⟩ v) cs #[u,v]:=
 ⟨(h.b.setCell (by simp) _).setCell (by simp) _,za8 (za8 h.c (by omega)) (by omega),zi5 h.p,za8 (za8 h.o (by omega)) (by omega)⟩
def zM0(w:zi)(f:Bool)(X:List Int)(T:List RT)(L:List Int)(e:Ending)(w':zi):Prop:=∃ra rn rc la ln lc S tv b0,e=.returned (.tuple #[.agg #[za ra rn rc,za la ln lc],tv,.bool f])/\Za w.heap.size w w'/\S.length=rn/\L.length=ln/\S.map RT.key=T.map RT.key/\w.heap.size<=b0/\PO w' b0 (za ra rn rc) S (za la ln lc) L/\z48 S la/\w'.ownsRow w.heap.size 2 1 tv X.length (X.map (ze zd))/\∀z,tv.ownBlock=some z->z<b0
theorem zB7(sd st n fine:Int)(a ao av ra la:Option Zd)(zl ac ko co kv cv nr rc ln lc:Nat)(zs os vs L:List Int)(R:List RT)(w:zi)(hA:za3 w a zs)(hO:za3 w ao os)(hV:za3 w av vs)(aN:zs.length=zl)(an:os.length=ko*6)(au:vs.length=kv*5)(aA:ko<=9223372036854775807)(aB:kv<=9223372036854775807)(hP:zc3 w ra la nr ln R L)(hn:nr<=1048576)(hi:∀r∈R,r.ids.length<=1048576)(dh:ln<=1048576)(cT:(zb0 R R.length).length<=1048576)(ip:∀x∈L,(zD zd x).wf=true):
 Zc zh 7 #[.agg #[ze zd n,za a zl ac,za ao ko co,za av kv cv,ze zd fine],.agg #[za ra nr rc,za la ln lc],ze zd sd,ze zd st] w (zM0 w (sgB sd st n fine zs os vs ko kv R L) (sgT sd st n fine zs os vs ko kv R L) (sgR sd st n fine zs os vs ko kv R L) (sgL sd st n fine zs os vs ko kv R L)):=by
 have HA:=za4 hA;have HO:=za4 hO;have HV:=za4 hV;have ck:=za4 aN;have aF:=za4 an;have aE:=za4 au;have HP:=za4 hP;have HN:Zb (R.length=nr):=hP.1;have HM:Zb (L.length=ln):=hP.2.1;have HI:=za4 hi;clear hA hO hV aN an au hP hi;obtain⟨pv,cE⟩:=nmd (zc1 n zs os vs ko kv fine R L);obtain⟨k1,df⟩:=nmd (inB st 0 60);obtain⟨s1,d_⟩:=nmd (inB sd 0 2147483647);have d6:Zb (sgB sd st n fine zs os vs ko kv R L=(decide (pv=0)&&(k1&&s1))):=by show _=_;unfold sgB;rw[cE.X,df.X,d_.X]
 have dG:=yJ8 sd st n fine zs os vs ko kv R L;obtain⟨GB,dK⟩:=nmd (sgB sd st n fine zs os vs ko kv R L);have bA:Zb (GB=false->sgR sd st n fine zs os vs ko kv R L=[]/\sgL sd st n fine zs os vs ko kv R L=[]/\sgT sd st n fine zs os vs ko kv R L=[]):=fun h=>by
  unfold sgR sgL sgT;rw[dK.X,h];exact⟨rfl,rfl,rfl⟩
 have fm:Zb (GB=true->sgR sd st n fine zs os vs ko kv R L=(seP sd n fine zs os vs ko kv R L st.toNat).1.1/\sgL sd st n fine zs os vs ko kv R L=(seP sd n fine zs os vs ko kv R L st.toNat).1.2/\sgT sd st n fine zs os vs ko kv R L=seT sd n fine zs os vs ko kv R L st.toNat):=fun h=>by
  unfold sgR sgL sgT;rw[dK.X,h];exact⟨rfl,rfl,rfl⟩
 obtain⟨GR,cB⟩:=nmd (sgR sd st n fine zs os vs ko kv R L);obtain⟨GL,da⟩:=nmd (sgL sd st n fine zs os vs ko kv R L);obtain⟨GT,li⟩:=nmd (sgT sd st n fine zs os vs ko kv R L);rw[cB.X,da.X]at dG;have Ie:=za4 dG;rw[cB.X,da.X,li.X]at bA fm;rw[dK.X]at d6;rw[dK.X,cB.X,da.X,li.X];clear dG dK cB da li;have Q0:Zb (GQ w (((w.alloc (zg #[ze zd n,za a zl ac,za ao ko co,za av kv cv,ze zd fine] 30)).alloc (zg #[za ra nr rc,za la ln lc] 33)).alloc (zg #[za none 0 0,za none 0 0] 33)) #[ze zd n,za a zl ac,za ao ko co,za av kv cv,ze zd fine] #[za ra nr rc,za la ln lc]):=by
  refine⟨((zP _).alloc (by simp) _).alloc (by simp;omega) _,?_,?_,?_⟩
  ·exact(xg _ _ (by simp;omega)).trans (xm _ _ _)
  ·exact(xg _ _ (by simp)).trans (xh _ _ _)
  ·have:=zS ((w.alloc (zg #[ze zd n,za a zl ac,za ao ko co,za av kv cv,ze zd fine] 30)).alloc (zg #[za ra nr rc,za la ln lc] 33)) (zg #[za none 0 0,za none 0 0] 33)
   simpa using this
 have PC:=zx7 n fine a ao av ra la ac ko co kv cv rc lc zs os vs L R (((w.alloc (zg #[ze zd n,za a zl ac,za ao ko co,za av kv cv,ze zd fine] 30)).alloc (zg #[za ra nr rc,za la ln lc] 33)).alloc (zg #[za none 0 0,za none 0 0] 33)) (HA.X.below Q0.X.b) (HO.X.below Q0.X.b) (HV.X.below Q0.X.b) (HP.X.2.2.1.below Q0.X.b) (HP.X.2.2.2.1.below Q0.X.b) aF.X aE.X aA aB (by rw[HN.X];exact hn) HI.X HP.X.2.2.2.2.2.2 (by rw[HM.X];exact dh) cT ip;rw[HN.X,HM.X,ck.X,cE.X]at PC;obtain⟨c0,c1,c2,c3,c4⟩:=za7 Q0.X.c;obtain⟨p0,p1⟩:=za1 Q0.X.p;go_enter Tryz.func7,Tryz.ntmps7
 go_wp2_with fail
 generalize((w.alloc _).alloc _).alloc _=W0 at*;refine PC.mono ?_;rintro e w1 ⟨rfl,hb⟩;have Q1:=za4 (Q0.X.below hb);clear hb PC c0 c1 c2 c3 c4 p0 p1 Q0;by_cases dv:pv=0
 ·subst dv
  rw[zW rfl,ji]at d6;cases k1
  ·obtain⟨a0,a1⟩:=za1 Q1.X.o
   have af:=fun i=>yZ _ _ i _ _ Q1.X.o;have B5:Zb (Za w.heap.size w ((w1.setCell ⟨w.heap.size+2,0,none⟩ (za none 0 0)).setCell ⟨w.heap.size+2,1,none⟩ (za none 0 0))):=(Q1.X.b.setCell (by simp) _).setCell (by simp) _;have mK:GB=false:=by rw[d6.X];try rfl
   subst mK;obtain⟨g2,g3,g4⟩:=bA.X rfl;subst g2 g3 g4;clear bA fm
   go_wp2_with(first|(go_at_call 32;refine(zc2 _ _ _ _).mono ?_;rintro e w' ⟨rfl,dz⟩;subst w';rw[df.X])|(go_at_call 33;refine(zl6 _ _).mono ?_;rintro e w' ⟨rfl,dz⟩;subst w';rw[d_.X]))
   refine xe (v:=.tuple #[.agg #[za none 0 0,za none 0 0],za none 0 0,.bool false]) (by simp[results,Tryz.results7,go_sem,a0,a1]) rfl ?_;show zM0 _ _ _ _ _ _ _;exact⟨none,0,0,none,0,0,[],za none 0 0,w.heap.size,rfl,B5.X,rfl,rfl,rfl,zT _,⟨xZ _ _ _ _,(fun s hs=>by cases hs),xZ _ _ _ _⟩,z48.nil _,xZ _ _ _ _,fun z hz=>by cases hz⟩
  ·cases s1
   ·obtain⟨a0,a1⟩:=za1 Q1.X.o
    have af:=fun i=>yZ _ _ i _ _ Q1.X.o;have B5:Zb (Za w.heap.size w ((w1.setCell ⟨w.heap.size+2,0,none⟩ (za none 0 0)).setCell ⟨w.heap.size+2,1,none⟩ (za none 0 0))):=(Q1.X.b.setCell (by simp) _).setCell (by simp) _;have mK:GB=false:=by rw[d6.X];try rfl
    subst mK;obtain⟨g2,g3,g4⟩:=bA.X rfl;subst g2 g3 g4;clear bA fm
    go_wp2_with(first|(go_at_call 32;refine(zc2 _ _ _ _).mono ?_;rintro e w' ⟨rfl,dz⟩;subst w';rw[df.X])|(go_at_call 33;refine(zl6 _ _).mono ?_;rintro e w' ⟨rfl,dz⟩;subst w';rw[d_.X]))
    refine xe (v:=.tuple #[.agg #[za none 0 0,za none 0 0],za none 0 0,.bool false]) (by simp[results,Tryz.results7,go_sem,a0,a1]) rfl ?_;show zM0 _ _ _ _ _ _ _;exact⟨none,0,0,none,0,0,[],za none 0 0,w.heap.size,rfl,B5.X,rfl,rfl,rfl,zT _,⟨xZ _ _ _ _,(fun s hs=>by cases hs),xZ _ _ _ _⟩,z48.nil _,xZ _ _ _ _,fun z hz=>by cases hz⟩
   ·have tD:GB=true:=d6.X
    subst tD;clear bA d6;obtain⟨uh,ut,tG⟩:=fm.X rfl;clear fm;have bB:=zc8 df.X;obtain⟨N,hN⟩:=xp bB.1;have tn:N<=60:=by omega
    subst hN;rw[yu]at uh ut tG;obtain⟨DR,DM,F,YR,YM,YC,tV⟩:=yH7 sd n fine a ao av zl ac ko co kv cv zs os vs L R w HA.X HO.X HV.X ck.X aF.X aE.X cE.X d_.X;have CP:Zb (∀W,Za w.heap.size w W->Zc zh 35 #[.agg #[ze zd n,za a zl ac,za ao ko co,za av kv cv,ze zd fine],.agg #[za ra nr rc,za la ln lc]] W fun e w'=>e=.returned (ze zd (seC sd n fine zs os vs ko kv R L 0))/\Za W.heap.size W w'):=fun W hW=>
     zJ3 n fine a ao av ra la zl ac ko co kv cv nr rc ln lc zs os vs L R W (HA.X.below hW) (HO.X.below hW) (HV.X.below hW) ck.X aF.X aE.X (HP.X.below hW) cE.X
    have T0:seT sd n fine zs os vs ko kv R L 0=[seC sd n fine zs os vs ko kv R L 0]:=rfl;have pP:=yl2 sd n fine zs os vs ko kv R L;have uo:=zR9 sd n fine zs os vs ko kv R L;have wY:(seP sd n fine zs os vs ko kv R L 0).1.1=R:=rfl;have wT:(seP sd n fine zs os vs ko kv R L 0).1.2=L:=rfl;have Bu:(seP sd n fine zs os vs ko kv R L 0).2=sd:=rfl;obtain⟨C,HC⟩:=nmd (seC sd n fine zs os vs ko kv R L);obtain⟨T,HT⟩:=nmd (seT sd n fine zs os vs ko kv R L);obtain⟨SR,jZ⟩:=nmd (fun i=>(seP sd n fine zs os vs ko kv R L i).1.1);obtain⟨SM,fS⟩:=nmd (fun i=>(seP sd n fine zs os vs ko kv R L i).1.2);obtain⟨SD,sD⟩:=nmd (fun i=>(seP sd n fine zs os vs ko kv R L i).2);rw[HC.X,jZ.X,fS.X,sD.X]at tV;rw[HC.X]at CP T0 pP;rw[HT.X]at T0 pP uo tG;rw[congrFun jZ.X 0]at wY;rw[congrFun fS.X 0]at wT;rw[congrFun sD.X 0]at Bu;rw[congrFun jZ.X N]at uh;rw[congrFun fS.X N]at ut;have ST:Zb _:=tV;have TS:=za4 pP;have TL:=za4 uo;have TZ:=za4 T0;subst uh ut tG;subst wY wT Bu;clear tV pP uo T0 HC HT jZ fS sD bB cE cT ip HI;obtain⟨c0,c1,c2,c3,c4⟩:=za7 Q1.X.c;obtain⟨p0,p1⟩:=za1 Q1.X.p
    go_wp2_with(first|(go_at_call 32;refine(zc2 _ _ _ _).mono ?_;rintro e w' ⟨rfl,dz⟩;subst w';rw[df.X])|(go_at_call 33;refine(zl6 _ _).mono ?_;rintro e w' ⟨rfl,dz⟩;subst w';rw[d_.X]))
    clear c0 c1 c2 c3 c4 p0 p1;refine(zC1 n fine a ao av zl ac ko co kv cv w1).mono ?_;rintro e w2 ⟨g,rfl,hb,hd⟩;have Q2:=za4 (Q1.X.below hb);obtain⟨m2,oT⟩:=nmd w2.heap.size;obtain⟨b1,eD⟩:=nmd w1.heap.size;have gj:w.heap.size+3<=b1:=by rw[<-eD.X];exact Q1.X.size
    have aC:b1<=m2:=by rw[<-eD.X,<-oT.X];exact hb.size
    rw[oT.X,eD.X]at hd;have D2:=za4 hd;clear hb hd Q1;obtain⟨c0,c1,c2,c3,c4⟩:=za7 Q2.X.c;obtain⟨p0,p1⟩:=za1 Q2.X.p
    go_wp2_with fail
    refine(CP.X w2 Q2.X.b).mono ?_;rintro e w3 ⟨rfl,hb⟩;have Q3:=za4 (Q2.X.below hb);have D3:=za4 (D2.X.below hb);have Nq:m2<=w3.heap.size:=by rw[<-oT.X];exact hb.size
    have P3:=za4 (HP.X.below Q3.X.b);clear hb Q2 D2 CP c0 c1 c2 c3 c4 p0 p1 HP;have C_:Za w3.heap.size w3 (w3.alloc (zg #[ze zd (C 0)] 2)):=zP _;have Q4:=za4 (Q3.X.below C_);have D4:=za4 (D3.X.below C_);have P4:=za4 (P3.X.below C_);have O4:Zb ((w3.alloc (zg #[ze zd (C 0)] 2)).ownsRow m2 2 1 (za (some ⟨w3.heap.size,0,none⟩) 1 1) (0+1) ((T 0).map (ze zd))):=by
     show World.ownsRow _ _ _ _ _ _ _;rw[TZ.X];exact⟨rfl,.inr ⟨w3.heap.size,1,#[ze zd (C 0)],rfl,Nq,zS _ _,by simp[maxLen]⟩⟩
    have F4:Zb (zi8 w3.heap.size ra la (SR 0) (SM 0)):=P3.X.far (zT _);obtain⟨c0,c1,c2,c3,c4⟩:=za7 Q3.X.c
    go_wp2_with fail
    clear c0 c1 c2 c3 c4;clear Q3 D3 P3 C_ TZ;go_loopw[2,12,13,42] (fun s2 wA AH t wr=>∃(i:Nat) (aO cQ:Option Zd) (bG bg bo dM z9 c9:Nat) (R9:List RT),i<=N/\t=ze zd i/\s2=ze zd (SD i)/\wA=ze zd (C i)/\GQ w wr #[ze zd n,za a zl ac,za ao ko co,za av kv cv,ze zd fine] #[za aO bG bg,za cQ bo dM]/\zm4 wr b1 m2 g #[ze zd n,za a zl ac,za ao ko co,za av kv cv,ze zd fine]/\zc3 wr aO cQ bG bo R9 (SM i)/\R9.map RT.key=(SR i).map RT.key/\AH=za (some ⟨z9,0,none⟩) (i+1) c9/\wr.ownsRow m2 2 1 (za (some ⟨z9,0,none⟩) (i+1) c9) (i+1) ((T i).map (ze zd))/\zi8 z9 aO cQ R9 (SM i)) (fun _ _ _ t _=>N - (intOf t).toNat)
    case atStart=>exact⟨0,ra,la,nr,rc,ln,lc,w3.heap.size,1,SR 0,xi _,rfl,rfl,rfl,Q4.X,D4.X,P4.X,rfl,rfl,O4.X,F4.X⟩
    case round=>
     clear Q4 D4 P4 O4 F4;obtain⟨i,aO,cQ,bG,bg,bo,dM,z9,c9,R9,hi,rfl,rfl,rfl,hq,hd,hp,hk,rfl,ho,hf⟩:=hrel;have Q5:=za4 hq;have D5:=za4 hd;have P5:=za4 hp;have K5:=za4 hk;have O5:=za4 ho;have F5:=za4 hf;clear hq hd hp hk ho hf;by_cases ah:i<N
     ·have BU:i % 3<3:=Nat.mod_lt _ (by omega)
      obtain⟨kb,cb,MS,om,J7⟩:=D5.X.2 (i % 3) BU;have mP:Int.tmod (i:Int) 3=((i % 3:Nat):Int):=by first|rfl|exact(Int.ofNat_tmod i 3).symm|exact(Int.natCast_tmod i 3).symm
      have DS:Zb (∀W,Za wr.heap.size wr W->Zc zh 112 #[.agg #[za aO bG bg,za cQ bo dM],ze zd (SD i),.pointer (some ⟨kb,0,none⟩),.pointer (some ⟨cb,0,none⟩)] W (yG5 W (fun k=>zi8 k aO cQ R9 (SM i)) (SD (i+1)) (F i) (DR i) (DM i))):=fun W hW=>
       ST.X.dest i W aO cQ bG bg bo dM kb cb R9 (Q5.X.b.trans (hW.mono Q5.X.b.size)) (P5.X.below hW) K5.X (J7.below hW)
      have jU:z9<wr.heap.size:=(O5.X.lt z9 rfl).2;have ek:(i:Int)<(N:Int):=by omega
      obtain⟨j,HJ⟩:=nmd (i % 3);rw[HJ.X]at BU mP om;have D_:(j:Int)<3:=by omega
      have Hh:=za4 mP;have KS:Zb (∀W,Za wr.heap.size wr W->((W.cell? ⟨w.heap.size,0,none⟩=some (ze zd n)/\W.cell? ⟨w.heap.size,1,none⟩=some (za a zl ac)/\W.cell? ⟨w.heap.size,2,none⟩=some (za ao ko co)/\W.cell? ⟨w.heap.size,3,none⟩=some (za av kv cv)/\W.cell? ⟨w.heap.size,4,none⟩=some (ze zd fine))/\(W.cell? ⟨w.heap.size+1,0,none⟩=some (za aO bG bg)/\W.cell? ⟨w.heap.size+1,1,none⟩=some (za cQ bo dM))/\W.cell? ⟨g,j,none⟩=some (.func (.func 112) #[] #[.pointer (some ⟨kb,0,none⟩),.pointer (some ⟨cb,0,none⟩)]))):=fun W hW=>⟨za7 (Q5.X.below hW).c,za1 (Q5.X.below hW).p,(hW.cell (p:=⟨g,j,none⟩) (zV om)).trans om⟩;clear J7 MS om;go_upto_region 9 with fail;go_cut [15,16,17]from 45 to 58 (fun p8 tN ph wx=>∃(kz:Nat) (ag:Option Zd) (n2 ai:Nat) (ak:Option Zd) (l2 aj:Nat) (R2:List RT),p8=.pointer (some ⟨kz,0,none⟩)/\tN=ze zd (SD (i+1))/\ph=.bool (F i)/\Za wr.heap.size wr wx/\wr.heap.size<=kz/\wx.heap[kz]? =some (zg #[za ag n2 ai,za ak l2 aj] 33 (0,0))/\zc3 wx ag ak n2 l2 R2 (DM i)/\R2.map RT.key=(DR i).map RT.key/\zi8 z9 ag ak R2 (DM i))
      case first=>
       go_wp2_with fail
       refine qG (S:=(fun W=>((W.cell? ⟨w.heap.size,0,none⟩=some (ze zd n)/\W.cell? ⟨w.heap.size,1,none⟩=some (za a zl ac)/\W.cell? ⟨w.heap.size,2,none⟩=some (za ao ko co)/\W.cell? ⟨w.heap.size,3,none⟩=some (za av kv cv)/\W.cell? ⟨w.heap.size,4,none⟩=some (ze zd fine))/\(W.cell? ⟨w.heap.size+1,0,none⟩=some (za aO bG bg)/\W.cell? ⟨w.heap.size+1,1,none⟩=some (za cQ bo dM))/\W.cell? ⟨g,j,none⟩=some (.func (.func 112) #[] #[.pointer (some ⟨kb,0,none⟩),.pointer (some ⟨cb,0,none⟩)])))) (by kernel_rfl) ?_ fun aa=> ?_
       ·exact KS.X _ (y5 _ _).drew
       have eQ:Zb (Za wr.heap.size wr wr.drew):=(y5 _ _).drew;generalize wr.drew=wd at*;refine tkH 0 aa ?_;refine tkH 1 aa ?_;refine tkH 2 aa ?_;refine tkH 3 aa ?_;refine tkH 4 aa ?_;refine tkH 5 aa ?_;refine tkH 6 aa ?_;refine tkH 7 aa ?_;refine tkH 8 aa ?_;refine xQ (rs:=[9,14]) (by kernel_rfl) (by simp) ?_;refine xL rfl (fun K hK=> ?_) ?_
       ·skip
        go_simp;refine(DS.X wd eQ.X).mono ?_;rintro e w2 ⟨ag,n2,ai,ak,l2,aj,R2,rfl,hb,cN,dR,cX⟩;have jV:=za4 (eQ.X.trans (hb.mono eQ.X.size));have tk:=za4 dR;have KX:=za4 cN;have OX:Zb (zi8 z9 ag ak R2 (DM i)):=cX z9 (xw jU eQ.X.size) F5.X;clear hb cN dR cX
        (try go_wp2_with fail)
        refine hoW hK (KS.X _ jV.X) fun aa=> ?_;clear hK K;refine tkH 10 aa ?_;refine tkH 11 aa ?_;refine tkH 12 aa ?_;refine tkH 13 aa ?_;refine rdH 14 fun K hK=> ?_;have eB:=za4 (jV.X.trans (((y5 w2.heap.size w2).alloc (zT _) (zg #[za none 0 0,za none 0 0] 33)).mono jV.X.size));have aw:=za4 (zS w2 (zg #[za none 0 0,za none 0 0] 33));have aH:Zb (wr.heap.size<=w2.heap.size):=jV.X.size;have Ih:=za4 (tk.X.below ((y5 w2.heap.size w2).alloc (zT _) (zg #[za none 0 0,za none 0 0] 33)));go_simp;refine hoW hK (KS.X _ eB.X) fun aa=> ?_;clear hK K;obtain⟨kz,cA⟩:=nmd w2.heap.size;rw[cA.X]at aw aH⊢;generalize(w2.alloc _)=wz at*;obtain⟨z0,z1⟩:=za1 aw.X;have zf:=fun i=>yZ _ _ i _ _ aw.X;refine rdH 15 fun K hK=> ?_;have V9:Zb (((wz.setCell ⟨kz,0,none⟩ (za ag n2 ai)).setCell ⟨kz,1,none⟩ (za ak l2 aj)).heap[kz]? =some (zg #[za ag n2 ai,za ak l2 aj] 33 (0,0))):=zi5 aw.X;have B9:Zb (Za wr.heap.size wr ((wz.setCell ⟨kz,0,none⟩ (za ag n2 ai)).setCell ⟨kz,1,none⟩ (za ak l2 aj))):=(eB.X.setCell aH.X _).setCell aH.X _;have P9:Zb (zc3 ((wz.setCell ⟨kz,0,none⟩ (za ag n2 ai)).setCell ⟨kz,1,none⟩ (za ak l2 aj)) ag ak n2 l2 R2 (DM i)):=ze3 Ih.X aw.X;go_simp;refine hoW hK (KS.X _ B9.X) fun aa=> ?_;clear hK K;generalize((wz.setCell ⟨kz,0,none⟩ _).setCell ⟨kz,1,none⟩ _)=w6 at*;refine tkH 16 aa ?_;refine tkH 17 aa ?_;refine qF (by kernel_rfl) ?_ _;clear aa
        (try go_wp2_with fail)
        go_meet;exact⟨kz,ag,n2,ai,ak,l2,aj,R2,rfl,rfl,rfl,B9.X,aH.X,V9.X,P9.X,KX.X,OX.X⟩
       refine xL rfl (fun K hK=> ?_) xP;have eB:=za4 (eQ.X.trans (((y5 wd.heap.size wd).alloc (zT _) (zg #[za none 0 0,za none 0 0] 33)).mono eQ.X.size));have aw:=za4 (zS wd (zg #[za none 0 0,za none 0 0] 33));have aH:Zb (wr.heap.size<=wd.heap.size):=eQ.X.size;go_simp;refine hoW hK (KS.X _ eB.X) fun aa=> ?_;clear hK K;obtain⟨kz,cA⟩:=nmd wd.heap.size;rw[cA.X]at aw aH⊢;generalize(wd.alloc _)=wz at*;obtain⟨z0,z1⟩:=za1 aw.X;have zf:=fun i=>yZ _ _ i _ _ aw.X;refine rdH 9 fun K hK=> ?_;go_simp;refine(DS.X wz eB.X).mono ?_;rintro e w2 ⟨ag,n2,ai,ak,l2,aj,R2,rfl,hb,cN,dR,cX⟩;have jV:=za4 (eB.X.trans (hb.mono eB.X.size));have tk:=za4 dR;have KX:=za4 cN;have OX:Zb (zi8 z9 ag ak R2 (DM i)):=cX z9 (xw jU eB.X.size) F5.X;have eu:=za4 (za0 hb (za2 aw.X) aw.X);obtain⟨z0,z1⟩:=za1 eu.X;have zf:=fun i=>yZ _ _ i _ _ eu.X;clear hb cN dR cX
       (try go_wp2_with fail)
       refine hoW hK (KS.X _ jV.X) fun aa=> ?_;clear hK K;refine tkH 10 aa ?_;refine tkH 11 aa ?_;refine tkH 12 aa ?_;refine tkH 13 aa ?_;refine rdH 15 fun K hK=> ?_;have V9:Zb (((w2.setCell ⟨kz,0,none⟩ (za ag n2 ai)).setCell ⟨kz,1,none⟩ (za ak l2 aj)).heap[kz]? =some (zg #[za ag n2 ai,za ak l2 aj] 33 (0,0))):=zi5 eu.X;have B9:Zb (Za wr.heap.size wr ((w2.setCell ⟨kz,0,none⟩ (za ag n2 ai)).setCell ⟨kz,1,none⟩ (za ak l2 aj))):=(jV.X.setCell aH.X _).setCell aH.X _;have P9:Zb (zc3 ((w2.setCell ⟨kz,0,none⟩ (za ag n2 ai)).setCell ⟨kz,1,none⟩ (za ak l2 aj)) ag ak n2 l2 R2 (DM i)):=ze3 tk.X eu.X;go_simp;refine hoW hK (KS.X _ B9.X) fun aa=> ?_;clear hK K;generalize((w2.setCell ⟨kz,0,none⟩ _).setCell ⟨kz,1,none⟩ _)=w6 at*;refine tkH 16 aa ?_;refine tkH 17 aa ?_;refine qF (by kernel_rfl) ?_ _;clear aa
       (try go_wp2_with fail)
       go_meet;exact⟨kz,ag,n2,ai,ak,l2,aj,R2,rfl,rfl,rfl,B9.X,aH.X,V9.X,P9.X,KX.X,OX.X⟩
      case rest=>
       obtain⟨kz,ag,n2,ai,ak,l2,aj,R2,rfl,rfl,rfl,hb,vk,hz,dR,cN,fd⟩:=hcut;have tu:Zb (w.heap.size+3<=b1/\b1<=m2/\m2<=z9/\z9<wr.heap.size/\wr.heap.size<=wc.heap.size):=⟨gj,aC,(O5.X.lt z9 rfl).1,jU,hb.size⟩;have Q7:=za4 (Q5.X.below hb);have D7:=za4 (D5.X.below hb);have P7:=za4 (P5.X.below hb);have O7:=za4 (zv3 O5.X hb (fun k e=>(O5.X.lt k e).2));have Z7:=za4 hz;have X7:=za4 dR;have Y7:=za4 cN;have U7:=za4 fd;clear Q5 D5 P5 O5 DS KS hb hz dR cN fd Hh mP BU D_ HJ;cases hF:F i
       ·obtain⟨e1,e2,e3⟩:=ST.X.no i (fun h=>by rw[hF]at h;cases h)
        obtain⟨q1,q2,q3,q4,q5⟩:=tu.X;have q6:m2<=z9/\z9<wc.heap.size:=O7.X.lt z9 rfl;have hW:Za wc.heap.size wc (wc.alloc (zg #[ze zd (C i)] 2)):=zP _
        go_wp2_with(
         at_builtin;refine zc9 _ rfl (.tmp 72) (.tmp 74) rfl m2 (za (some ⟨z9,0,none⟩) (i+1) c9) (i+1) (T i) rfl (O7.X.alloc _) wc.heap.size 0 1 1 [(C i)] rfl rfl (ze2 wc (C i)) (by omega) (by omega) (by simp;omega) ?_;intro v' w8 ae hg hv aX;obtain⟨z8,c8,uq⟩:∃z8 c8,v'=za (some ⟨z8,0,none⟩) (i+1+1) c8:=by
          rcases own_kinds ae with⟨_,h2⟩|⟨g9,c8,h1,_⟩
          ·omega
          ·exact⟨g9,c8,h1⟩
         subst uq;have Q8:=za4 ((Q7.X.below hW).grownL (z:=z9) hg (by omega));have D8:=za4 ((D7.X.below hW).grown hg (fun z e=>(by simpa[zm]using e:z9=z)▸q3));have P8:Zb (zc3 w8 aO cQ bG bo R9 (SM i)):=(P7.X.below hW).grownL (z:=z9) hg F5.X;have O8:=za4 ae;have F8:Zb (zi8 z8 aO cQ R9 (SM i)):=by
          rcases hv with h|h
          ·have h1:z8=z9:=by simpa[zm]using h
           rw[h1];exact F5.X
          ·have h1:z8=(wc.alloc (zg #[ze zd (C i)] 2)).heap.size:=by simpa[zm]using h
           rw[h1];exact(P7.X.below hW).far (zT _)
         clear ae hg hv aX)
        go_roundw
        case rel=>exact⟨i+1,aO,cQ,bG,bg,bo,dM,z8,c8,R9,by omega,by first|rfl|go_num,rfl,by rw[e3],Q8.X,D8.X,by rw[e2];exact P8.X,by rw[e1];exact K5.X,rfl,by rw[TS.X,e3];exact O8.X,by rw[e2];exact F8.X⟩
        case measure=>simp[intOf];omega
       ·have RB:=ST.X.reb i wc ag ak n2 ai l2 aj R2 hF Q7.X.b X7.X Y7.X
        have HO:=tu.X;have aq:(za (some ⟨z9,0,none⟩) (i+1) c9).ownBlock≠some kz:=fun h=>by
         have h1:z9=kz:=by simpa[zm]using h
         omega
        have o6:(za (some ⟨z9,0,none⟩) (i+1) c9).ownBlock≠some (w.heap.size+1):=fun h=>by
         have h1:z9=w.heap.size+1:=by simpa[zm]using h
         omega
        obtain⟨c0,c1,c2,c3,c4⟩:=za7 Q7.X.c;obtain⟨z0,z1⟩:=za1 Z7.X
        go_wp2_with fail
        refine RB.mono ?_;rintro e w4 ⟨aW,n4,bj,bM,l4,bq,R4,rfl,hb,eK,gK,cX⟩;have QA:=za4 (Q7.X.below hb);have DA:=za4 (D7.X.below hb);have PA:=za4 (P7.X.below hb);have OA:=za4 (zv3 O7.X hb (fun k e=>(O7.X.lt k e).2));have ZA:=za4 (za0 hb (za2 Z7.X) Z7.X);have XA:=za4 gK;have KA:=za4 eK;have UA:Zb (zi8 z9 aW bM R4 (YM i)):=cX z9 (by omega) U7.X;clear hb eK gK cX RB c0 c1 c2 c3 c4 z0 z1 Q7 D7 P7 O7 Z7 X7 Y7 U7;have QB:Zb (GQ w ((w4.setCell ⟨kz,0,none⟩ (za aW n4 bj)).setCell ⟨kz,1,none⟩ (za bM l4 bq)) #[ze zd n,za a zl ac,za ao ko co,za av kv cv,ze zd fine] #[za aO bG bg,za cQ bo dM]):=(QA.X.set (by omega)).set (by omega);have DB:Zb (zm4 ((w4.setCell ⟨kz,0,none⟩ (za aW n4 bj)).setCell ⟨kz,1,none⟩ (za bM l4 bq)) b1 m2 g #[ze zd n,za a zl ac,za ao ko co,za av kv cv,ze zd fine]):=(DA.X.set (.inr (by omega))).set (.inr (by omega));have PB:Zb (zc3 ((w4.setCell ⟨kz,0,none⟩ (za aW n4 bj)).setCell ⟨kz,1,none⟩ (za bM l4 bq)) aO cQ bG bo R9 (SM i)):=ze3 PA.X ZA.X;have XB:Zb (zc3 ((w4.setCell ⟨kz,0,none⟩ (za aW n4 bj)).setCell ⟨kz,1,none⟩ (za bM l4 bq)) aW bM n4 l4 R4 (YM i)):=ze3 XA.X ZA.X;have OB:Zb (((w4.setCell ⟨kz,0,none⟩ (za aW n4 bj)).setCell ⟨kz,1,none⟩ (za bM l4 bq)).ownsRow m2 2 1 (za (some ⟨z9,0,none⟩) (i+1) c9) (i+1) ((T i).map (ze zd))):=zf1 (zf1 OA.X 0 _ aq) 1 _ aq;have ZB:Zb (((w4.setCell ⟨kz,0,none⟩ (za aW n4 bj)).setCell ⟨kz,1,none⟩ (za bM l4 bq)).heap[kz]? =some (zg #[za aW n4 bj,za bM l4 bq] 33 (0,0))):=zi5 ZA.X;obtain⟨z0,z1⟩:=za1 ZA.X;have zf:=fun i=>yZ _ _ i _ _ ZA.X;obtain⟨c0,c1,c2,c3,c4⟩:=za7 QB.X.c;obtain⟨x0,x1⟩:=za1 ZB.X
        go_wp2_with fail
        refine(ST.X.cost i _ aW bM n4 bj l4 bq R4 hF QB.X.b XB.X KA.X).mono ?_;generalize((w4.setCell ⟨kz,0,none⟩ _).setCell ⟨kz,1,none⟩ _)=w5 at*;rintro e w6 ⟨rfl,hb⟩;have QC:=za4 (QB.X.below hb);have DC:=za4 (DB.X.below hb);have PC:=za4 (PB.X.below hb);have XC:=za4 (XB.X.below hb);have OC:=za4 (zv3 OB.X hb (fun k e=>(OB.X.lt k e).2));have ZC:=za4 (za0 hb (za2 ZB.X) ZB.X);clear hb z0 z1 zf c0 c1 c2 c3 c4 x0 x1 QA DA PA OA ZA XA QB DB PB XB OB ZB;clear HO;by_cases hyc:YC i<C i
        ·obtain⟨e1,e2,e3⟩:=ST.X.yes i hF hyc
         have HO:=tu.X;have QD:Zb (GQ w ((w6.setCell ⟨w.heap.size+1,0,none⟩ (za aW n4 bj)).setCell ⟨w.heap.size+1,1,none⟩ (za bM l4 bq)) #[ze zd n,za a zl ac,za ao ko co,za av kv cv,ze zd fine] #[za aW n4 bj,za bM l4 bq]):=QC.X.plan _ _;have DD:Zb (zm4 ((w6.setCell ⟨w.heap.size+1,0,none⟩ (za aW n4 bj)).setCell ⟨w.heap.size+1,1,none⟩ (za bM l4 bq)) b1 m2 g #[ze zd n,za a zl ac,za ao ko co,za av kv cv,ze zd fine]):=(DC.X.set (.inl (by omega))).set (.inl (by omega));have XD:Zb (zc3 ((w6.setCell ⟨w.heap.size+1,0,none⟩ (za aW n4 bj)).setCell ⟨w.heap.size+1,1,none⟩ (za bM l4 bq)) aW bM n4 l4 R4 (YM i)):=ze3 XC.X QC.X.p;have OD:Zb (((w6.setCell ⟨w.heap.size+1,0,none⟩ (za aW n4 bj)).setCell ⟨w.heap.size+1,1,none⟩ (za bM l4 bq)).ownsRow m2 2 1 (za (some ⟨z9,0,none⟩) (i+1) c9) (i+1) ((T i).map (ze zd))):=zf1 (zf1 OC.X 0 _ o6) 1 _ o6;have dy:decide (YC i<C i)=true:=zW hyc;obtain⟨z0,z1⟩:=za1 ZC.X;obtain⟨p0,p1⟩:=za1 QC.X.p;have pf:=fun i=>yZ _ _ i _ _ QC.X.p;clear HO;go_upto_region 16 with fail;generalize((w6.setCell ⟨w.heap.size+1,0,none⟩ _).setCell ⟨w.heap.size+1,1,none⟩ _)=w7 at*;clear z0 z1 p0 p1 pf QC DC PC XC OC ZC;obtain⟨q1,q2,q3,q4,q5⟩:=tu.X;have q6:m2<=z9/\z9<w7.heap.size:=OD.X.lt z9 rfl;have hW:Za w7.heap.size w7 (w7.alloc (zg #[ze zd (YC i)] 2)):=zP _
         go_wp2_with(
          at_builtin;refine zc9 _ rfl (.tmp 72) (.tmp 74) rfl m2 (za (some ⟨z9,0,none⟩) (i+1) c9) (i+1) (T i) rfl (OD.X.alloc _) w7.heap.size 0 1 1 [(YC i)] rfl rfl (ze2 w7 (YC i)) (by omega) (by omega) (by simp;omega) ?_;intro v' w8 ae hg hv aX;obtain⟨z8,c8,uq⟩:∃z8 c8,v'=za (some ⟨z8,0,none⟩) (i+1+1) c8:=by
           rcases own_kinds ae with⟨_,h2⟩|⟨g9,c8,h1,_⟩
           ·omega
           ·exact⟨g9,c8,h1⟩
          subst uq;have Q8:=za4 ((QD.X.below hW).grownL (z:=z9) hg (by omega));have D8:=za4 ((DD.X.below hW).grown hg (fun z e=>(by simpa[zm]using e:z9=z)▸q3));have P8:Zb (zc3 w8 aW bM n4 l4 R4 (YM i)):=(XD.X.below hW).grownL (z:=z9) hg UA.X;have O8:=za4 ae;have F8:Zb (zi8 z8 aW bM R4 (YM i)):=by
           rcases hv with h|h
           ·have h1:z8=z9:=by simpa[zm]using h
            rw[h1];exact UA.X
           ·have h1:z8=(w7.alloc (zg #[ze zd (YC i)] 2)).heap.size:=by simpa[zm]using h
            rw[h1];exact(XD.X.below hW).far (zT _)
          clear ae hg hv aX)
         go_roundw
         case rel=>exact⟨i+1,aW,bM,n4,bj,l4,bq,z8,c8,R4,by omega,by first|rfl|go_num,rfl,by rw[e3],Q8.X,D8.X,by rw[e2];exact P8.X,by rw[e1];exact KA.X,rfl,by rw[TS.X,e3];exact O8.X,by rw[e2];exact F8.X⟩
         case measure=>simp[intOf];omega
        ·obtain⟨e1,e2,e3⟩:=ST.X.no i (fun _=>hyc)
         have dn:decide (YC i<C i)=false:=zX hyc;obtain⟨q1,q2,q3,q4,q5⟩:=tu.X;have q6:m2<=z9/\z9<w6.heap.size:=OC.X.lt z9 rfl;have hW:Za w6.heap.size w6 (w6.alloc (zg #[ze zd (C i)] 2)):=zP _
         go_wp2_with(
          at_builtin;refine zc9 _ rfl (.tmp 72) (.tmp 74) rfl m2 (za (some ⟨z9,0,none⟩) (i+1) c9) (i+1) (T i) rfl (OC.X.alloc _) w6.heap.size 0 1 1 [(C i)] rfl rfl (ze2 w6 (C i)) (by omega) (by omega) (by simp;omega) ?_;intro v' w8 ae hg hv aX;obtain⟨z8,c8,uq⟩:∃z8 c8,v'=za (some ⟨z8,0,none⟩) (i+1+1) c8:=by
           rcases own_kinds ae with⟨_,h2⟩|⟨g9,c8,h1,_⟩
           ·omega
           ·exact⟨g9,c8,h1⟩
          subst uq;have Q8:=za4 ((QC.X.below hW).grownL (z:=z9) hg (by omega));have D8:=za4 ((DC.X.below hW).grown hg (fun z e=>(by simpa[zm]using e:z9=z)▸q3));have P8:Zb (zc3 w8 aO cQ bG bo R9 (SM i)):=(PC.X.below hW).grownL (z:=z9) hg F5.X;have O8:=za4 ae;have F8:Zb (zi8 z8 aO cQ R9 (SM i)):=by
           rcases hv with h|h
           ·have h1:z8=z9:=by simpa[zm]using h
            rw[h1];exact F5.X
           ·have h1:z8=(w6.alloc (zg #[ze zd (C i)] 2)).heap.size:=by simpa[zm]using h
            rw[h1];exact(PC.X.below hW).far (zT _)
          clear ae hg hv aX)
         go_roundw
         case rel=>exact⟨i+1,aO,cQ,bG,bg,bo,dM,z8,c8,R9,by omega,by first|rfl|go_num,rfl,by rw[e3],Q8.X,D8.X,by rw[e2];exact P8.X,by rw[e1];exact K5.X,rfl,by rw[TS.X,e3];exact O8.X,by rw[e2];exact F8.X⟩
         case measure=>simp[intOf];omega
     ·have pW:i=N:=by omega
      subst pW;clear ah;have DV:R9.length=(SR i).length:=by have:=congrArg zo K5.X;simpa using this
      have CC:=zK6 aO cQ bg dM R9 (SM i) wr P5.X.2.2.1 P5.X.2.2.2.1 (P5.X.2.2.2.2.2.1.imp (fun h=>⟨h.1,P5.X.2.1.trans h.2⟩) id) (by have:=Ie.X.2.1;omega) (fun r hr=>z05 K5.X Ie.X.1 r hr) Ie.X.2.2;have fF:Zb (R9.length=bG):=P5.X.1;have fR:Zb ((SM i).length=bo):=P5.X.2.1;rw[fF.X,fR.X]at CC;clear DV;obtain⟨p0,p1⟩:=za1 Q5.X.p
      go_wp2_with fail
      refine CC.mono ?_;rintro e w6 ⟨aW,bj,bM,bq,S4,rfl,hb,eK,cZ,AW⟩;rw[fF.X,fR.X]at cZ;rw[fF.X,fR.X];have Q6:=za4 (Q5.X.below hb);have P6:=za4 cZ;have Mk:=za4 (eK.trans K5.X);have me:Zb (S4.length=bG):=by have:=congrArg zo eK;simp only[qz]at this;exact this.trans fF.X
      have oK:=za4 AW;have O6:=za4 (zv3 O5.X hb (fun k e=>(O5.X.lt k e).2));have Z6:Zb (z9<wr.heap.size):=(O5.X.lt z9 rfl).2;have Oh:Zb (w.heap.size+3<=wr.heap.size):=Q5.X.size;have Hr:Zb (m2<=z9):=(O5.X.lt z9 rfl).1;clear hb cZ eK AW CC p0 p1 Q5 D5 P5 K5 O5 F5;obtain⟨a0,a1⟩:=za1 Q6.X.o;have af:=fun i=>yZ _ _ i _ _ Q6.X.o;have s1:=xb w6 (w.heap.size+2) 0 _ _ (za aW bG bj) Q6.X.o;have P7:Zb (PO ((w6.setCell ⟨w.heap.size+2,0,none⟩ (za aW bG bj)).setCell ⟨w.heap.size+2,1,none⟩ (za bM bo bq)) (wr.heap.size+2) (za aW bG bj) S4 (za bM bo bq) (SM i)):=(P6.X.box Q6.X.o).box s1;have B7:Zb (Za w.heap.size w ((w6.setCell ⟨w.heap.size+2,0,none⟩ (za aW bG bj)).setCell ⟨w.heap.size+2,1,none⟩ (za bM bo bq))):=(Q6.X.b.setCell (by simp) _).setCell (by simp) _;have aq:(za (some ⟨z9,0,none⟩) (i+1) c9).ownBlock≠some (w.heap.size+2):=fun h=>by
       have h1:z9=w.heap.size+2:=by simpa[zm]using h
       have:=Hr.X;omega
      have O7:Zb (((w6.setCell ⟨w.heap.size+2,0,none⟩ (za aW bG bj)).setCell ⟨w.heap.size+2,1,none⟩ (za bM bo bq)).ownsRow m2 2 1 (za (some ⟨z9,0,none⟩) (i+1) c9) (i+1) ((T i).map (ze zd))):=zf1 (zf1 O6.X 0 _ aq) 1 _ aq;clear s1 aq;go_wp2;refine xe (v:=.tuple #[.agg #[za aW bG bj,za bM bo bq],za (some ⟨z9,0,none⟩) (i+1) c9,.bool true]) (by simp[results,Tryz.results7,go_sem,a0,a1]) rfl ?_;show zM0 _ _ _ _ _ _ _;have bW:=Oh.X;have BH:=Z6.X;exact⟨aW,bG,bj,bM,bo,bq,S4,_,wr.heap.size+2,rfl,B7.X,me.X,fR.X,Mk.X,by omega,P7.X,oK.X,by rw[TL.X];exact zb5 O7.X (by omega),fun z hz=>by
       have h1:z9=z:=by simpa[zm]using hz
       omega⟩
 ·have sy:(pv !=0)=true:=by simp[dv]
  obtain⟨a0,a1⟩:=za1 Q1.X.o;have af:=fun i=>yZ _ _ i _ _ Q1.X.o;have B5:Zb (Za w.heap.size w ((w1.setCell ⟨w.heap.size+2,0,none⟩ (za none 0 0)).setCell ⟨w.heap.size+2,1,none⟩ (za none 0 0))):=(Q1.X.b.setCell (by simp) _).setCell (by simp) _;rw[zX dv,jj]at d6;have mK:GB=false:=by rw[d6.X];try rfl
  subst mK;obtain⟨g2,g3,g4⟩:=bA.X rfl;subst g2 g3 g4;clear bA fm
  go_wp2_with(first|(go_at_call 32;refine(zc2 _ _ _ _).mono ?_;rintro e w' ⟨rfl,dz⟩;subst w';rw[df.X])|(go_at_call 33;refine(zl6 _ _).mono ?_;rintro e w' ⟨rfl,dz⟩;subst w';rw[d_.X]))
  refine xe (v:=.tuple #[.agg #[za none 0 0,za none 0 0],za none 0 0,.bool false]) (by simp[results,Tryz.results7,go_sem,a0,a1]) rfl ?_;show zM0 _ _ _ _ _ _ _;exact⟨none,0,0,none,0,0,[],za none 0 0,w.heap.size,rfl,B5.X,rfl,rfl,rfl,zT _,⟨xZ _ _ _ _,(fun s hs=>by cases hs),xZ _ _ _ _⟩,z48.nil _,xZ _ _ _ _,fun z hz=>by cases hz⟩
theorem yu2{w:zi}{base n m rc lc:Nat}{ra la:Option Zd}{S:List RT}{L:List Int}(h:PO w base (za ra n rc) S (za la m lc) L){x:Nat}(hx:w.heap.size<=x):Off x ra la S:=by
 refine⟨fun b off e=> ?_,fun b off e=> ?_,fun r hr b off e=> ?_⟩
 ·have:=(h.r.lt b (by rw[e];rfl)).2;omega
 ·have:=(h.l.lt b (by rw[e];rfl)).2;omega
 ·have:=((h.s r hr).lt b (by rw[e];rfl)).2;omega
theorem PO.grownL{W W':zi}{base n m rc lc z:Nat}{ra la:Option Zd}{S:List RT}{L:List Int}(h:PO W base (za ra n rc) S (za la m lc) L)(hg:W.grownBy W' (some z))(ho:Off z ra la S):PO W' base (za ra n rc) S (za la m lc) L:=by
 have hk:∀{size k N:Nat} {e:TypeId} {a:Option Zd} {c:Nat} {xs:List Value},(∀b off,a=some ⟨b,off,none⟩->b≠z)->W.ownsRow base e size (za a k c) N xs->(za a k c).ownBlock≠some z:=fun{size k N e a c xs} h1 h2 h3=>by
  rcases own_kinds h2 with⟨e9,_⟩|⟨g,c9,e9,_⟩
  ·injection e9 with e9 _ _
   subst e9;cases h3
  ·injection e9 with e9 _ _
   subst e9;exact h1 g 0 rfl (by simpa[zm]using h3)
 exact⟨h.r.kept hg (.inr (hk ho.1 h.r)),fun s hs=>(h.s s hs).kept hg (.inr (hk (ho.2.2 s hs) (h.s s hs))),h.l.kept hg (.inr (hk ho.2.1 h.l))⟩
structure yI8(w:zi)(cs:Array Value)(SR:Nat->List RT)(SM:Nat->List Int)(SD:Nat->Int)(DR:Nat->List RT)(DM:Nat->List Int)(F:Nat->Bool)(GR:Nat->List RT)(GM:Nat->List Int)(YR:Nat->List RT)(YM:Nat->List Int)(YC C XN:Nat->Int):Prop where
 dest:∀(i:Nat) (W:zi) (ra la:Option Zd) (nr rc ln lc:Nat) (R:List RT),Za w.heap.size w W->zc3 W ra la nr ln R (SM i)->R.map RT.key=(SR i).map RT.key->Zc zh 42 #[.agg cs,.agg #[za ra nr rc,za la ln lc],ze zd (SD i),ze zd (seK i)] W (z19 W (SD (i+1)) (F i) (DR i) (DM i))
 grd:∀(i:Nat) (W:zi) (ra:Option Zd) (base g nr rc ln lc:Nat) (R:List RT),F i=true->Za w.heap.size w W->PO W base (za ra nr rc) R (za (some ⟨g,0,none⟩) ln lc) (DM i)->R.length=nr->(DM i).length=ln->R.map RT.key=(DR i).map RT.key->Zc zh 44 #[.agg cs,.agg #[za ra nr rc,za (some ⟨g,0,none⟩) ln lc]] W (yh5 W (GR i) (GM i))
 desc:∀(i:Nat) (W:zi) (ra la:Option Zd) (nr rc ln lc:Nat) (R:List RT),F i=true->Za w.heap.size w W->zc3 W ra la nr ln R (GM i)->R.map RT.key=(GR i).map RT.key->Zc zh 43 #[.agg cs,.agg #[za ra nr rc,za la ln lc],ze zd 3] W (z97 W (XN i) (YR i) (YM i))
 costY:∀(i:Nat) (W:zi) (ra la:Option Zd) (nr rc ln lc:Nat) (R:List RT),F i=true->Za w.heap.size w W->zc3 W ra la nr ln R (YM i)->R.map RT.key=(YR i).map RT.key->Zc zh 41 #[.agg cs,.agg #[za ra nr rc,za la ln lc]] W fun e w'=>e=.returned (ze zd (YC i))/\Za W.heap.size W w'
 cost:∀(i:Nat) (W:zi) (ra la:Option Zd) (nr rc ln lc:Nat) (R:List RT),Za w.heap.size w W->zc3 W ra la nr ln R (SM i)->R.map RT.key=(SR i).map RT.key->Zc zh 41 #[.agg cs,.agg #[za ra nr rc,za la ln lc]] W fun e w'=>e=.returned (ze zd (C i))/\Za W.heap.size W w'
 yes:∀i,F i=true->YC i<C i->SR (i+1)=YR i/\SM (i+1)=YM i/\C (i+1)=YC i
 no:∀i,(F i=true->¬YC i<C i)->SR (i+1)=SR i/\SM (i+1)=SM i/\C (i+1)=C i
theorem zY1(n fine:Int)(a ao av ra la:Option Zd)(zl ac ko co kv cv nr rc ln lc:Nat)(zs os vs L:List Int)(R:List RT)(w:zi)(hA:za3 w a zs)(hO:za3 w ao os)(hV:za3 w av vs)(aN:zs.length=zl)(an:os.length=ko*6)(au:vs.length=kv*5)(hP:zc3 w ra la nr ln R L)(aT:zc1 n zs os vs ko kv fine R L=0):
 Zc zh 41 #[.agg #[ze zd n,za a zl ac,za ao ko co,za av kv cv,ze zd fine],.agg #[za ra nr rc,za la ln lc]] w fun e w'=>e=.returned (ze zd (zo8 n zs os vs ko kv fine R L))/\Za w.heap.size w w':=by
 have cU:=(zb7 aT).1;have aA:ko<=12:=(zd9 (zb2 cU).2.1).1;have aB:kv<=5:=(zf2 (zb2 cU).2.2.1).1;obtain⟨p1,p2,p3,p4,p5,p6,p7⟩:=hP;have:=z75 n fine a ao av ra la ac ko co kv cv rc lc zs os vs L R w hA hO hV p3 an au (by omega) (by omega) aT;rw[aN,p1,p2]at this;unfold zo8;rw[z7 aT,p1,p2];exact this
theorem zC6{n fine:Int}{zs os vs:List Int}{ko kv:Nat}{R:List RT}{L:List Int}(h:zc1 n zs os vs ko kv fine R L=0):ko<=9223372036854775807/\kv<=9223372036854775807/\R.length<=1048576/\(∀r∈R,r.ids≠[]/\r.ids.length<=12)/\L.length<=1048576/\(zb0 R R.length).length<=1048576:=by
 have cU:=(zb7 h).1;have aA:ko<=12:=(zd9 (zb2 cU).2.1).1;have aB:kv<=5:=(zf2 (zb2 cU).2.2.1).1;obtain⟨_,g2,_,_,h5⟩:=zb7 h;obtain⟨_,aP⟩:=zh3.1 g2;have hs:=ze6 h;exact⟨by omega,by omega,by omega,fun r hr=>⟨(aP r hr).1,zk2 (aP r hr).2⟩,by omega,by omega⟩
theorem yI5(sd n fine:Int)(a ao:Option Zd)(bv ov zl ac ko co kv cv:Nat)(zs os vs L:List Int)(R:List RT)(w:zi)(hA:za3 w a zs)(hO:za3 w ao os)(hV:za3 w (some ⟨bv,ov,none⟩) vs)(aN:zs.length=zl)(an:os.length=ko*6)(au:vs.length=kv*5)(aT:zc1 n zs os vs ko kv fine R L=0)(hs:inB sd 0 2147483647=true):
 ∃(DR:Nat->List RT) (DM:Nat->List Int) (F:Nat->Bool) (GR:Nat->List RT) (GM:Nat->List Int) (YR:Nat->List RT) (YM:Nat->List Int) (YC XN:Nat->Int),yI8 w #[ze zd n,za a zl ac,za ao ko co,za (some ⟨bv,ov,none⟩) kv cv,ze zd fine] (fun i=>(seP sd n fine zs os vs ko kv R L i).1.1) (fun i=>(seP sd n fine zs os vs ko kv R L i).1.2) (fun i=>(seP sd n fine zs os vs ko kv R L i).2) DR DM F GR GM YR YM YC (seC sd n fine zs os vs ko kv R L) XN:=by
 obtain⟨P,hP⟩:∃P,P=seP sd n fine zs os vs ko kv R L:=⟨_,rfl⟩;have lW:∀i,zc1 n zs os vs ko kv fine (P i).1.1 (P i).1.2=0/\inB (P i).2 0 2147483647=true:=by rw[hP];exact z40 aT hs
 have fA:∀i,P (i+1)=(seN (P i).2 (seK i) n fine zs os vs ko kv (P i).1.1 (P i).1.2,deN (P i).2 (seK i) n fine zs os vs ko kv (P i).1.1 (P i).1.2):=fun i=>by rw[hP];rfl
 have hC:∀i,seC sd n fine zs os vs ko kv R L i=zo8 n zs os vs ko kv fine (P i).1.1 (P i).1.2:=fun i=>by rw[hP];rfl
 rw[<-hP];have bJ:=(lW 0).1;have cU:=(zb7 bJ).1;have aA:ko<=12:=(zd9 (zb2 cU).2.1).1;have aB:kv<=5:=(zf2 (zb2 cU).2.2.1).1;obtain⟨D,hD⟩:∃D:Nat->List RT×List Int,D=fun i=>(deR (P i).2 (seK i) n fine zs os vs ko kv (P i).1.1 (P i).1.2,deL (P i).2 (seK i) n fine zs os vs ko kv (P i).1.1 (P i).1.2):=⟨_,rfl⟩;have vJ:∀i,deR (P i).2 (seK i) n fine zs os vs ko kv (P i).1.1 (P i).1.2=(D i).1/\deL (P i).2 (seK i) n fine zs os vs ko kv (P i).1.1 (P i).1.2=(D i).2:=fun i=>by rw[hD];exact⟨rfl,rfl⟩
 obtain⟨G,hG⟩:∃G:Nat->List RT×List Int,G=fun i=>grd n fine zs os vs ko kv (D i).2.length (D i).1 (D i).2:=⟨_,rfl⟩;have uO:∀i,grd n fine zs os vs ko kv (D i).2.length (D i).1 (D i).2=G i:=fun i=>by rw[hG]
 have Jg:∀i,deF (P i).2 (seK i) n fine zs os vs ko kv (P i).1.1 (P i).1.2=true->zc1 n zs os vs ko kv fine (D i).1 (D i).2=0:=fun i h=>by
  have h9:=(zD2 h).2.2;rw[(vJ i).1,(vJ i).2]at h9;exact h9
 have Ig:∀i,deF (P i).2 (seK i) n fine zs os vs ko kv (P i).1.1 (P i).1.2=true->zc1 n zs os vs ko kv fine (G i).1 (G i).2=0:=fun i h=>by
  have h9:=(zE1 (D i).2.length _ _ (Jg i h)).1;rw[uO]at h9;exact h9
 have Hy:∀i,seD (P i).2 (seK i) n fine zs os vs ko kv (P i).1.1 (P i).1.2=(dsR n fine zs os vs ko kv (G i).2 3 (G i).1,(G i).2):=fun i=>by
  unfold seD seY;rw[(vJ i).1,(vJ i).2,uO]
 refine⟨fun i=>(D i).1,fun i=>(D i).2,fun i=>deF (P i).2 (seK i) n fine zs os vs ko kv (P i).1.1 (P i).1.2,fun i=>(G i).1,fun i=>(G i).2,fun i=>dsR n fine zs os vs ko kv (G i).2 3 (G i).1,fun i=>(G i).2,fun i=>zo8 n zs os vs ko kv fine (dsR n fine zs os vs ko kv (G i).2 3 (G i).1) (G i).2,fun i=>dcN 3 n fine zs os vs ko kv (G i).1 (G i).2,?_,?_,?_,?_,?_,?_,?_⟩
 ·intro i W ra la nr rc ln lc R2 hW hp hk
  have hv:zc1 n zs os vs ko kv fine R2 (P i).1.2=0:=by rw[zd5 _ hk];exact(lW i).1
  obtain⟨b1,b2,b3,b4,b5,b6⟩:=zC6 hv;have h:=zB9 (P i).2 (seK i) n fine a ao _ ra la zl ac ko co kv cv nr rc ln lc zs os vs (P i).1.2 R2 W (hA.below hW) (hO.below hW) (hV.below hW) aN an au b1 b2 hp (by rw[<-hp.1];exact b3) (fun r hr=>by have:=(b4 r hr).2;omega) (by rw[<-hp.2.1];exact b5) b6;rw[yf2 _ _ _ _ _ _ _ _ _ _ hk,yb6 _ _ _ _ _ _ _ _ _ _ hk,yf4 _ _ _ _ _ _ _ _ _ _ hk,(vJ i).2]at h;have h3:=yc9 (P i).2 (seK i) n fine zs os vs ko kv (P i).1.2 hk;rw[(vJ i).1]at h3;refine h.mono ?_;rintro e w' ⟨ag,n2,ai,ak,l2,aj,R3,rfl,hb,h1,h2,iC,mn,f'⟩;refine⟨ag,n2,ai,ak,l2,aj,R3,?_,hb,h1,h2,iC.trans h3,mn,f'⟩;simp only[fA]
 ·intro i W ra base g nr rc ln lc R2 hf hW hp hn hl hk
  have hv:zc1 n zs os vs ko kv fine R2 (D i).2=0:=by rw[zd5 _ hk];exact Jg i hf
  have fV:=hp.is hn hl;obtain⟨_,g2,g3,g4,g5,_⟩:=yD8 hv fV.2.2.2.2.2.2;have h:=zX8 n fine a ao ra zl ac ko co bv ov kv cv nr rc g 0 ln lc zs os vs (D i).2 R2 W (hA.below hW) (hO.below hW) (hV.below hW) aN an au aA aB cU fV (by rw[<-hn];exact g4) (by rw[<-hl];exact g5) g2 g3 (hp.ad (fun s hs=>((zC6 hv).2.2.2.1 s hs).1)) (fun k hx=>yu2 hp hx);obtain⟨k1,k2⟩:=z88 (n:=n) (fine:=fine) (zs:=zs) (os:=os) (vs:=vs) (ko:=ko) (kv:=kv) (D i).2.length (D i).2 hk;rw[k2,uO]at h;rw[uO]at k1;refine h.mono ?_;rintro e w' ⟨ag,n2,ai,gl,l2,aj,S,h0,h1,h2,h3,h4,h5⟩;exact⟨ag,n2,ai,gl,l2,aj,S,h0,h1,h2,h3,h4.trans k1,h5⟩
 ·intro i W ra la nr rc ln lc R2 hf hW hp hk
  have hv:zc1 n zs os vs ko kv fine R2 (G i).2=0:=by rw[zd5 _ hk];exact Ig i hf
  obtain⟨b1,b2,b3,b4,b5,b6⟩:=zC6 hv;have h:=z96 3 n fine a ao _ ra la zl ac ko co kv cv nr rc ln lc zs os vs (G i).2 R2 W (hA.below hW) (hO.below hW) (hV.below hW) aN an au b1 b2 hp (by rw[<-hp.1];exact b3) (fun r hr=>by have:=(b4 r hr).2;omega) (by rw[<-hp.2.1];exact b5) b6;have hB:dcB 3 n fine zs os vs ko kv (G i).1 (G i).2=true:=by
   unfold dcB;rw[Ig i hf];rfl
  have e1:dcR 3 n fine zs os vs ko kv (G i).1 (G i).2=dsR n fine zs os vs ko kv (G i).2 3 (G i).1:=by
   unfold dcR;rw[hB];rfl
  have e2:dcL 3 n fine zs os vs ko kv (G i).1 (G i).2=(G i).2:=by
   unfold dcL;rw[hB];rfl
  have k1:=yF6 3 n fine zs os vs ko kv (G i).2 hk;rw[yD2 _ _ _ _ _ _ _ _ _ hk,yF2 _ _ _ _ _ _ _ _ _ hk,e2]at h;rw[e1]at k1;refine h.mono ?_;rintro e w' ⟨ag,n2,ai,ak,l2,aj,S,h0,h1,h2,h3,h4,h5⟩;exact⟨ag,n2,ai,ak,l2,aj,S,h0,h1,h2,h3,h4.trans k1,h5⟩
 ·intro i W ra la nr rc ln lc R2 hf hW hp hk
  have hy:=yz2 3 (Ig i hf);have h:=zY1 n fine a ao _ ra la zl ac ko co kv cv nr rc ln lc zs os vs _ R2 W (hA.below hW) (hO.below hW) (hV.below hW) aN an au hp (by rw[zd5 _ hk];exact hy);rw[zs5 _ hk]at h;exact h
 ·intro i W ra la nr rc ln lc R2 hW hp hk
  have h:=zY1 n fine a ao _ ra la zl ac ko co kv cv nr rc ln lc zs os vs _ R2 W (hA.below hW) (hO.below hW) (hV.below hW) aN an au hp (by rw[zd5 _ hk];exact(lW i).1);rw[zs5 _ hk,<-hC]at h;exact h
 ·intro i hf ah
  rw[hC]at ah;have hb:seB (P i).2 (seK i) n fine zs os vs ko kv (P i).1.1 (P i).1.2=true:=by
   unfold seB;rw[zY,qh,Hy];exact⟨hf,ah⟩
  have e:(P (i+1)).1=(dsR n fine zs os vs ko kv (G i).2 3 (G i).1,(G i).2):=by
   rw[fA,<-Hy];show seN _ _ _ _ _ _ _ _ _ _ _=_;unfold seN;rw[hb,jk]
  exact⟨by rw[e],by rw[e],by rw[hC,e]⟩
 ·intro i a_
  have hb:seB (P i).2 (seK i) n fine zs os vs ko kv (P i).1.1 (P i).1.2=false:=by
   rw[<-Bool.not_eq_true];unfold seB;rw[zY,qh,Hy];exact fun h=>a_ h.1 (by rw[hC];exact h.2)
  have e:(P (i+1)).1=(P i).1:=by
   rw[fA];show seN _ _ _ _ _ _ _ _ _ _ _=_;unfold seN;rw[hb];rfl
  exact⟨by rw[e],by rw[e],by rw[hC,hC,e]⟩
def yw8(w:zi)(f:Bool)(X:List Int)(T:List RT)(L:List Int)(e:Ending)(w':zi):Prop:=∃ra rn rc la ln lc S tv,e=.returned (.tuple #[.agg #[za ra rn rc,za la ln lc],tv,.bool f])/\Za w.heap.size w w'/\S.length=rn/\L.length=ln/\S.map RT.key=T.map RT.key/\PO w' w.heap.size (za ra rn rc) S (za la ln lc) L/\w'.ownsRow w.heap.size 2 1 tv X.length (X.map (ze zd))
structure SeQ(w W:zi)(cs ps:Array Value)(kn:Nat)(ra la:Option Zd)(rn rc ln lc z c k:Nat)(S:List RT)(L X:List Int):Prop where
 q:GQ w W cs ps
 n:W.heap[kn]? =some (zg #[za ra rn rc,za la ln lc] 33 (0,0))
 p:PO W (w.heap.size+3) (za ra rn rc) S (za la ln lc) L
 hn:S.length=rn
 hl:L.length=ln
 t:W.ownsRow (kn+1) 2 1 (za (some ⟨z,0,none⟩) k c) k (X.map (ze zd))
 o:Off z ra la S
section
variable {w W W':zi} {cs ps:Array Value} {kn rn rc ln lc z c k:Nat} {ra la:Option Zd} {S:List RT} {L X:List Int}
theorem SeQ.below(h:SeQ w W cs ps kn ra la rn rc ln lc z c k S L X)(hb:Za W.heap.size W W'):SeQ w W' cs ps kn ra la rn rc ln lc z c k S L X:=
 ⟨h.q.below hb,za0 hb (za2 h.n) h.n,h.p.below hb,h.hn,h.hl,zv3 h.t hb (fun k e=>(h.t.lt k e).2),h.o⟩
theorem SeQ.zz(h:SeQ w W cs ps kn ra la rn rc ln lc z c k S L X):kn<z/\z<W.heap.size:=h.t.lt z rfl
theorem SeQ.ne(h:z≠kn):(za (some ⟨z,0,none⟩) k c).ownBlock≠some kn:=fun e=>h (by simpa[zm]using e)
theorem SeQ.take{b1 b2:Option Zd}{m1 d1 m2 d2:Nat}{S2:List RT}{L2:List Int}(h:SeQ w W cs ps kn ra la rn rc ln lc z c k S L X)(hk:w.heap.size+3<=kn)(hp:PO W (w.heap.size+3) (za b1 m1 d1) S2 (za b2 m2 d2) L2)(h1:S2.length=m1)(h2:L2.length=m2)(ho:Off z b1 b2 S2):SeQ w ((W.setCell ⟨kn,0,none⟩ (za b1 m1 d1)).setCell ⟨kn,1,none⟩ (za b2 m2 d2)) cs ps kn b1 b2 m1 d1 m2 d2 z c k S2 L2 X:=
 ⟨(h.q.set hk).set hk,zi5 h.n,hp.box2 h.n,h1,h2,zf1 (zf1 h.t 0 _ (SeQ.ne (by have:=h.zz;omega))) 1 _ (SeQ.ne (by have:=h.zz;omega)),ho⟩
theorem SeQ.app{v:Value}{x:Int}(h:SeQ w W cs ps kn ra la rn rc ln lc z c k S L X)(hk:w.heap.size+3<=kn)(hg:W.grownBy W' (some z))(ho:W'.ownsRow (kn+1) 2 1 v (k+1) ((X++[x]).map (ze zd)))(hv:v.ownBlock=some z∨v.ownBlock=some W.heap.size):∃z8 c8,v=za (some ⟨z8,0,none⟩) (k+1) c8/\SeQ w W' cs ps kn ra la rn rc ln lc z8 c8 (k+1) S L (X++[x]):=by
 have hz:=h.zz;rcases own_kinds ho with⟨_,h2⟩|⟨z8,c8,h1,_⟩
 ·omega
 subst h1;refine⟨z8,c8,rfl,h.q.grownL hg (by omega),(hg.block kn (za2 h.n) (fun e=>by injection e with e;omega)).trans h.n,h.p.grownL hg h.o,h.hn,h.hl,ho,?_⟩;rcases hv with e|e
 ·rw[show z8=z by simpa[zm]using e];exact h.o
 ·rw[show z8=W.heap.size by simpa[zm]using e];exact yu2 h.p (zT _)
end
theorem zC3(sd st n fine:Int)(a ao ra la:Option Zd)(zl ac ko co bv ov kv cv nr rc ln lc:Nat)(zs os vs L:List Int)(R:List RT)(w:zi)(hA:za3 w a zs)(hO:za3 w ao os)(hV:za3 w (some ⟨bv,ov,none⟩) vs)(aN:zs.length=zl)(an:os.length=ko*6)(au:vs.length=kv*5)(aA:ko<=9223372036854775807)(aB:kv<=9223372036854775807)(hP:zc3 w ra la nr ln R L)(hn:nr<=1048576)(hi:∀r∈R,r.ids.length<=1048576)(dh:ln<=1048576)(cT:(zb0 R R.length).length<=1048576):
 Zc zh 8 #[.agg #[ze zd n,za a zl ac,za ao ko co,za (some ⟨bv,ov,none⟩) kv cv,ze zd fine],.agg #[za ra nr rc,za la ln lc],ze zd sd,ze zd st] w (yw8 w (sgB sd st n fine zs os vs ko kv R L) (sgT sd st n fine zs os vs ko kv R L) (sgR sd st n fine zs os vs ko kv R L) (sgL sd st n fine zs os vs ko kv R L)):=by
 have HA:=za4 hA;have HO:=za4 hO;have HV:=za4 hV;have ck:=za4 aN;have aF:=za4 an;have aE:=za4 au;have HP:=za4 hP;have HN:Zb (R.length=nr):=hP.1;have HM:Zb (L.length=ln):=hP.2.1;clear hA hO hV aN an au hP;obtain⟨pv,cE⟩:=nmd (zc1 n zs os vs ko kv fine R L);obtain⟨k1,df⟩:=nmd (inB st 0 60);obtain⟨s1,d_⟩:=nmd (inB sd 0 2147483647);have d6:Zb (sgB sd st n fine zs os vs ko kv R L=(decide (pv=0)&&(k1&&s1))):=by show _=_;unfold sgB;rw[cE.X,df.X,d_.X]
 obtain⟨GB,dK⟩:=nmd (sgB sd st n fine zs os vs ko kv R L);have bA:Zb (GB=false->sgR sd st n fine zs os vs ko kv R L=[]/\sgL sd st n fine zs os vs ko kv R L=[]/\sgT sd st n fine zs os vs ko kv R L=[]):=fun h=>by
  unfold sgR sgL sgT;rw[dK.X,h];exact⟨rfl,rfl,rfl⟩
 have fm:Zb (GB=true->sgR sd st n fine zs os vs ko kv R L=(seP sd n fine zs os vs ko kv R L st.toNat).1.1/\sgL sd st n fine zs os vs ko kv R L=(seP sd n fine zs os vs ko kv R L st.toNat).1.2/\sgT sd st n fine zs os vs ko kv R L=seT sd n fine zs os vs ko kv R L st.toNat):=fun h=>by
  unfold sgR sgL sgT;rw[dK.X,h];exact⟨rfl,rfl,rfl⟩
 obtain⟨GR,cB⟩:=nmd (sgR sd st n fine zs os vs ko kv R L);obtain⟨GL,da⟩:=nmd (sgL sd st n fine zs os vs ko kv R L);obtain⟨GT,li⟩:=nmd (sgT sd st n fine zs os vs ko kv R L);rw[cB.X,da.X,li.X]at bA fm;rw[dK.X]at d6;rw[dK.X,cB.X,da.X,li.X];clear dK cB da li;have Q0:Zb (GQ w (((w.alloc (zg #[ze zd n,za a zl ac,za ao ko co,za (some ⟨bv,ov,none⟩) kv cv,ze zd fine] 30)).alloc (zg #[za ra nr rc,za la ln lc] 33)).alloc (zg #[za none 0 0,za none 0 0] 33)) #[ze zd n,za a zl ac,za ao ko co,za (some ⟨bv,ov,none⟩) kv cv,ze zd fine] #[za ra nr rc,za la ln lc]):=by
  refine⟨((zP _).alloc (by simp) _).alloc (by simp;omega) _,?_,?_,?_⟩
  ·exact(xg _ _ (by simp;omega)).trans (xm _ _ _)
  ·exact(xg _ _ (by simp)).trans (xh _ _ _)
  ·have:=zS ((w.alloc (zg #[ze zd n,za a zl ac,za ao ko co,za (some ⟨bv,ov,none⟩) kv cv,ze zd fine] 30)).alloc (zg #[za ra nr rc,za la ln lc] 33)) (zg #[za none 0 0,za none 0 0] 33)
   simpa using this
 have PC:=zi9 n fine a ao _ ra la ac ko co kv cv rc lc zs os vs L R (((w.alloc (zg #[ze zd n,za a zl ac,za ao ko co,za (some ⟨bv,ov,none⟩) kv cv,ze zd fine] 30)).alloc (zg #[za ra nr rc,za la ln lc] 33)).alloc (zg #[za none 0 0,za none 0 0] 33)) (HA.X.below Q0.X.b) (HO.X.below Q0.X.b) (HV.X.below Q0.X.b) (HP.X.2.2.1.below Q0.X.b) (HP.X.2.2.2.1.below Q0.X.b) aF.X aE.X aA aB (by rw[HN.X];exact hn) hi HP.X.2.2.2.2.2.2 (by rw[HM.X];exact dh) cT;rw[HN.X,HM.X,ck.X,cE.X]at PC;obtain⟨c0,c1,c2,c3,c4⟩:=za7 Q0.X.c;obtain⟨p0,p1⟩:=za1 Q0.X.p;go_enter Tryz.func8,Tryz.ntmps8
 go_wp2_with fail
 generalize((w.alloc _).alloc _).alloc _=W0 at*;refine PC.mono ?_;rintro e w1 ⟨rfl,hb⟩;have Q1:=za4 (Q0.X.below hb);clear hb PC c0 c1 c2 c3 c4 p0 p1 Q0 hi cT;by_cases dv:pv=0
 ·subst dv
  rw[zW rfl,ji]at d6;cases k1
  ·obtain⟨a0,a1⟩:=za1 Q1.X.o
   have af:=fun i=>yZ _ _ i _ _ Q1.X.o;have mK:GB=false:=by rw[d6.X];try rfl
   subst mK;obtain⟨g2,g3,g4⟩:=bA.X rfl;subst g2 g3 g4;clear bA fm;have B5:Zb (Za w.heap.size w ((w1.setCell ⟨w.heap.size+2,0,none⟩ (za none 0 0)).setCell ⟨w.heap.size+2,1,none⟩ (za none 0 0))):=(Q1.X.b.setCell (by simp) _).setCell (by simp) _
   go_wp2_with(go_at_call 39;refine(zc0 _ _ _ _).mono ?_;rintro e w' ⟨rfl,dz⟩;subst w';first|rw[df.X]|rw[d_.X])
   refine xe (v:=.tuple #[.agg #[za none 0 0,za none 0 0],za none 0 0,.bool false]) (by simp[results,Tryz.results8,go_sem,a0,a1]) rfl ?_;exact⟨none,0,0,none,0,0,[],za none 0 0,rfl,B5.X,rfl,rfl,rfl,⟨xZ _ _ _ _,(fun s hs=>by cases hs),xZ _ _ _ _⟩,xZ _ _ _ _⟩
  ·cases s1
   ·obtain⟨a0,a1⟩:=za1 Q1.X.o
    have af:=fun i=>yZ _ _ i _ _ Q1.X.o;have mK:GB=false:=by rw[d6.X];try rfl
    subst mK;obtain⟨g2,g3,g4⟩:=bA.X rfl;subst g2 g3 g4;clear bA fm;have B5:Zb (Za w.heap.size w ((w1.setCell ⟨w.heap.size+2,0,none⟩ (za none 0 0)).setCell ⟨w.heap.size+2,1,none⟩ (za none 0 0))):=(Q1.X.b.setCell (by simp) _).setCell (by simp) _
    go_wp2_with(go_at_call 39;refine(zc0 _ _ _ _).mono ?_;rintro e w' ⟨rfl,dz⟩;subst w';first|rw[df.X]|rw[d_.X])
    refine xe (v:=.tuple #[.agg #[za none 0 0,za none 0 0],za none 0 0,.bool false]) (by simp[results,Tryz.results8,go_sem,a0,a1]) rfl ?_;exact⟨none,0,0,none,0,0,[],za none 0 0,rfl,B5.X,rfl,rfl,rfl,⟨xZ _ _ _ _,(fun s hs=>by cases hs),xZ _ _ _ _⟩,xZ _ _ _ _⟩
   ·have tD:GB=true:=d6.X
    subst tD;clear bA d6;obtain⟨uh,ut,tG⟩:=fm.X rfl;clear fm;have bB:=zc8 df.X;obtain⟨N,hN⟩:=xp bB.1;have tn:N<=60:=by omega
    subst hN;rw[yu]at uh ut tG;obtain⟨DR,DM,F,XR,XM,YR,YM,YC,XN,tV⟩:=yI5 sd n fine a ao bv ov zl ac ko co kv cv zs os vs L R w HA.X HO.X HV.X ck.X aF.X aE.X cE.X d_.X;obtain⟨-,-,-,q4,-,-⟩:=zC6 cE.X;have CC:=fun W (hW:Za w.heap.size w W)=>zy5 ra la rc lc R L W (HP.X.2.2.1.below hW) (HP.X.2.2.2.1.below hW) (HP.X.2.2.2.2.2.1.imp (fun h=>⟨h.1,HP.X.2.1.trans h.2⟩) id) (by have:=(ze6 cE.X).1;omega) (fun r hr=>⟨(q4 r hr).1,by have:=(q4 r hr).2;omega⟩) (by have:=(ze6 cE.X).2.1;omega)
    have T0:seT sd n fine zs os vs ko kv R L 0=[seC sd n fine zs os vs ko kv R L 0]:=rfl;have pP:=yl2 sd n fine zs os vs ko kv R L;have uo:=zR9 sd n fine zs os vs ko kv R L;have wY:(seP sd n fine zs os vs ko kv R L 0).1.1=R:=rfl;have wT:(seP sd n fine zs os vs ko kv R L 0).1.2=L:=rfl;have Bu:(seP sd n fine zs os vs ko kv R L 0).2=sd:=rfl;obtain⟨C,HC⟩:=nmd (seC sd n fine zs os vs ko kv R L);obtain⟨T,HT⟩:=nmd (seT sd n fine zs os vs ko kv R L);obtain⟨SR,jZ⟩:=nmd (fun i=>(seP sd n fine zs os vs ko kv R L i).1.1);obtain⟨SM,fS⟩:=nmd (fun i=>(seP sd n fine zs os vs ko kv R L i).1.2);obtain⟨SD,sD⟩:=nmd (fun i=>(seP sd n fine zs os vs ko kv R L i).2);rw[HC.X,jZ.X,fS.X,sD.X]at tV;rw[HC.X]at T0 pP;rw[HT.X]at T0 pP uo tG;rw[congrFun jZ.X 0]at wY;rw[congrFun fS.X 0]at wT;rw[congrFun sD.X 0]at Bu;rw[congrFun jZ.X N]at uh;rw[congrFun fS.X N]at ut;have ST:Zb _:=tV;have TS:=za4 pP;have TL:=za4 uo;have TZ:=za4 T0;subst uh ut tG;subst wY wT Bu;clear tV pP uo T0 HC HT jZ fS sD bB cE q4;have vD:=CC w1 Q1.X.b;rw[HN.X,HM.X]at vD;obtain⟨p0,p1⟩:=za1 Q1.X.p
    go_wp2_with(go_at_call 39;refine(zc0 _ _ _ _).mono ?_;rintro e w' ⟨rfl,dz⟩;subst w';first|rw[df.X]|rw[d_.X])
    refine vD.mono ?_;rintro e w2 ⟨ag,ai,bT,aj,S2,rfl,hb,cN,ho⟩;rw[HN.X,HM.X]at ho⊢;have Q2:=za4 (Q1.X.below hb);have P2:Zb (PO w2 (w.heap.size+3) (za ag nr ai) S2 (za (some ⟨bT,0,none⟩) ln aj) (SM 0)):=ho.base (by have:=Q1.X.size;omega);have K2:=za4 cN;clear hb cN ho vD CC p0 p1 Q1;have V3:Zb ((w2.alloc (zg #[za ag nr ai,za (some ⟨bT,0,none⟩) ln aj] 33)).heap[w2.heap.size]? =some (zg #[za ag nr ai,za (some ⟨bT,0,none⟩) ln aj] 33 (0,0))):=by
     exact zS _ _
    have Ho:Za w2.heap.size w2 (w2.alloc (zg #[za ag nr ai,za (some ⟨bT,0,none⟩) ln aj] 33)):=zP _;have Q3:=za4 (Q2.X.below Ho);have P3:=za4 (P2.X.below Ho);have gN:Zb (w.heap.size+3<=w2.heap.size):=Q2.X.size;have cY:Zb (S2.length=nr):=by have:=congrArg zo K2.X;simp only[qz]at this;exact this.trans HN.X
    have JM:=ST.X.cost 0 _ ag (some ⟨bT,0,none⟩) nr ai ln aj S2 Q3.X.b (P3.X.is cY.X HM.X) K2.X;go_upto_region 4 with fail;clear Ho Q2 P2;obtain⟨kn,cL⟩:=nmd w2.heap.size;rw[cL.X]at V3 gN⊢;generalize w2.alloc _=w3 at*;obtain⟨c0,c1,c2,c3,c4⟩:=za7 Q3.X.c;obtain⟨n0,n1⟩:=za1 V3.X
    go_wp2_with fail
    refine JM.mono ?_;rintro e w4 ⟨rfl,hb⟩;have LE:w.heap.size+3<=kn:=gN.X;have S4:Zb (SeQ w (w4.alloc (zg #[ze zd (C 0)] 2)) #[ze zd n,za a zl ac,za ao ko co,za (some ⟨bv,ov,none⟩) kv cv,ze zd fine] #[za ra nr rc,za la ln lc] kn ag (some ⟨bT,0,none⟩) nr ai ln aj w4.heap.size 1 (0+1) S2 (SM 0) (T 0)):=by
     have hA:Za w3.heap.size w3 (w4.alloc (zg #[ze zd (C 0)] 2)):=hb.trans (Below.mono ((y5 w4.heap.size w4).alloc (zT _) _) hb.size);have h3:kn+1<=w4.heap.size:=xj (za2 V3.X) hb.size;refine⟨Q3.X.below hA,za0 hA (za2 V3.X) V3.X,P3.X.below hA,cY.X,HM.X,?_,yu2 (P3.X.below hb) (zT _)⟩;rw[TZ.X];exact⟨rfl,.inr ⟨w4.heap.size,1,#[ze zd (C 0)],rfl,h3,zS _ _,by simp[maxLen]⟩⟩
    clear hb Q3 P3 V3 n0 n1 c0 c1 c2 c3 c4 JM cY TZ
    go_wp2_with fail
    go_loopw[2,12,13] (fun s2 wA AH wr=>∃(i:Nat) (aO cQ:Option Zd) (bG bg bo dM z9 c9:Nat) (R9:List RT),i<=N/\AH=ze zd i/\s2=ze zd (SD i)/\wA=za (some ⟨z9,0,none⟩) (i+1) c9/\SeQ w wr #[ze zd n,za a zl ac,za ao ko co,za (some ⟨bv,ov,none⟩) kv cv,ze zd fine] #[za ra nr rc,za la ln lc] kn aO cQ bG bg bo dM z9 c9 (i+1) R9 (SM i) (T i)/\R9.map RT.key=(SR i).map RT.key) (fun _ _ t _=>N - (intOf t).toNat)
    case atStart=>exact⟨0,ag,_,nr,ai,ln,aj,w4.heap.size,1,S2,xi _,rfl,rfl,rfl,S4.X,K2.X⟩
    case round=>
     clear S4 K2;obtain⟨i,aO,cQ,bG,bg,bo,dM,z9,c9,R9,hi,rfl,rfl,rfl,hq,hk⟩:=hrel;have S5:=za4 hq;have K5:=za4 hk;clear hq hk;by_cases ah:i<N
     ·have ek:(i:Int)<(N:Int):=by omega
      have mP:Int.tmod (i:Int) 3=((i % 3:Nat):Int):=by first|rfl|exact(Int.ofNat_tmod i 3).symm|exact(Int.natCast_tmod i 3).symm
      have BU:i % 3<3:=Nat.mod_lt _ (by omega);have DS:=ST.X.dest i wr aO cQ bG bg bo dM R9 S5.X.q.b (S5.X.p.is S5.X.hn S5.X.hl) K5.X;obtain⟨c0,c1,c2,c3,c4⟩:=za7 S5.X.q.c;obtain⟨n0,n1⟩:=za1 S5.X.n
      go_wp2_with fail
      refine DS.mono ?_;rintro e w2 ⟨ag,n2,ai,ak,l2,aj,R2,rfl,hb,cR,f_,cN,dR,rP⟩;have hz:=S5.X.zz;have bW:=hb.size;have S6:=S5.X.below hb;have h0:=S6.q.size;clear DS c0 c1 c2 c3 c4 n0 n1 mP BU;have hA:Za w2.heap.size w2 (w2.alloc (zg #[za ag n2 ai,za ak l2 aj] 33)):=zP _;have HX:=za4 (zS w2 (zg #[za ag n2 ai,za ak l2 aj] 33));have S7:=za4 (S6.below hA);have X7:=za4 ((dR.base S5.X.q.size).below hA);have KX:=za4 cN;have fR:Zb (R2.length=n2/\(DM i).length=l2):=⟨cR,f_⟩;have fL:=za4 rP;have HZ:Zb (w.heap.size+3<=kn/\kn<z9/\z9<w2.heap.size/\kn≠w2.heap.size/\z9≠w2.heap.size):=⟨gN.X,hz.1,by omega,by omega,by omega⟩;clear hb cR f_ cN dR rP S6 S5 h0 bW hz hA;go_upto_if 57 with fail;obtain⟨kx,dw⟩:=nmd w2.heap.size;rw[dw.X]at HX HZ⊢;generalize w2.alloc _=w6 at*;go_cut [16]from 45 to 73 (fun tN wx=>∃(aW bM:Option Zd) (Co bj DG bq:Nat) (R4:List RT),SeQ w wx #[ze zd n,za a zl ac,za ao ko co,za (some ⟨bv,ov,none⟩) kv cv,ze zd fine] #[za ra nr rc,za la ln lc] kn aW bM Co bj DG bq z9 c9 (i+1) R4 (SM (i+1)) (T i)/\R4.map RT.key=(SR (i+1)).map RT.key)
      case first=>
       cases hF:F i
       ·obtain⟨e1,e2,e3⟩:=ST.X.no i (fun h=>by rw[hF]at h;cases h)
        go_wp2_with fail
        go_meet;rw[e1,e2];exact⟨_,_,_,_,_,_,_,S7.X,K5.X⟩
       ·obtain⟨gx,Lx⟩:=fL.X hF
        subst Lx;go_upto_region 11 with fail;go_cut [17]from 58 to 65 (fun ph wx=>∃(ky:Nat) (aW bM:Option Zd) (n4 bj l4 bq:Nat) (R4:List RT),ph=.pointer (some ⟨ky,0,none⟩)/\Za w6.heap.size w6 wx/\w6.heap.size<=ky/\wx.heap[ky]? =some (zg #[za aW n4 bj,za bM l4 bq] 33 (0,0))/\PO wx w6.heap.size (za aW n4 bj) R4 (za bM l4 bq) (YM i)/\R4.length=n4/\(YM i).length=l4/\R4.map RT.key=(YR i).map RT.key)
        case first=>
         have KS:Zb (∀W,Za w6.heap.size w6 W->((W.cell? ⟨w.heap.size,0,none⟩=some (ze zd n)/\W.cell? ⟨w.heap.size,1,none⟩=some (za a zl ac)/\W.cell? ⟨w.heap.size,2,none⟩=some (za ao ko co)/\W.cell? ⟨w.heap.size,3,none⟩=some (za (some ⟨bv,ov,none⟩) kv cv)/\W.cell? ⟨w.heap.size,4,none⟩=some (ze zd fine))/\(W.cell? ⟨kx,0,none⟩=some (za ag n2 ai)/\W.cell? ⟨kx,1,none⟩=some (za (some ⟨gx,0,none⟩) l2 aj)))):=fun W hW=>⟨za7 (S7.X.below hW).q.c,za1 (za0 hW (za2 HX.X) HX.X)⟩
         go_wp2_with fail
         refine qG (S:=(fun W=>((W.cell? ⟨w.heap.size,0,none⟩=some (ze zd n)/\W.cell? ⟨w.heap.size,1,none⟩=some (za a zl ac)/\W.cell? ⟨w.heap.size,2,none⟩=some (za ao ko co)/\W.cell? ⟨w.heap.size,3,none⟩=some (za (some ⟨bv,ov,none⟩) kv cv)/\W.cell? ⟨w.heap.size,4,none⟩=some (ze zd fine))/\(W.cell? ⟨kx,0,none⟩=some (za ag n2 ai)/\W.cell? ⟨kx,1,none⟩=some (za (some ⟨gx,0,none⟩) l2 aj))))) (by kernel_rfl) ?_ fun aa=> ?_
         ·exact KS.X _ (y5 _ _).drew
         have eQ:Zb (Za w6.heap.size w6 w6.drew):=(y5 _ _).drew;generalize w6.drew=wd at*;refine tkH 0 aa ?_;refine tkH 1 aa ?_;refine tkH 2 aa ?_;refine xQ (rs:=[3,8]) (by kernel_rfl) (by simp) ?_;refine xL rfl (fun K hK=> ?_) ?_
         ·skip
          go_simp;refine(ST.X.grd i wd ag (w.heap.size+3) gx n2 ai l2 aj R2 hF (S7.X.q.b.trans (eQ.X.mono S7.X.q.b.size)) (X7.X.below eQ.X) fR.X.1 fR.X.2 KX.X).mono ?_;rintro e w8 ⟨bK,n3,bV,g3,l3,bY,R3,rfl,hb,pM,Aa,iC,mn⟩;have ew:=za4 (eQ.X.trans (hb.mono eQ.X.size));have oV:=za4 (mn.is pM Aa);have KG:=za4 iC;clear hb pM Aa iC mn
          (try go_wp2_with fail)
          refine hoW hK (KS.X _ ew.X) fun aa=> ?_;clear hK K;refine xQ (rs:=[4,8]) (by kernel_rfl) (by simp) ?_;refine xL rfl (fun K hK=> ?_) ?_
          ·skip
           go_simp;refine(ST.X.desc i w8 bK (some ⟨g3,0,none⟩) n3 bV l3 bY R3 hF (S7.X.q.b.trans (ew.X.mono S7.X.q.b.size)) oV.X KG.X).mono ?_;rintro e w9 ⟨aW,n4,bj,bM,l4,bq,R4,rfl,hb,gH,gT,eK,gK⟩;have gw:=za4 (ew.X.trans (hb.mono ew.X.size));have nN:=za4 (gK.base ew.X.size);have HY:Zb (R4.length=n4/\(YM i).length=l4/\R4.map RT.key=(YR i).map RT.key):=⟨gH,gT,eK⟩;clear hb gH gT eK gK
           (try go_wp2_with fail)
           refine hoW hK (KS.X _ gw.X) fun aa=> ?_;clear hK K;refine tkH 5 aa ?_;refine tkH 6 aa ?_;refine tkH 7 aa ?_;refine rdH 8 fun K hK=> ?_;have eB:=za4 (gw.X.trans (((y5 w9.heap.size w9).alloc (zT _) (zg #[za none 0 0,za none 0 0] 33)).mono gw.X.size));have aw:=za4 (zS w9 (zg #[za none 0 0,za none 0 0] 33));have aH:Zb (w6.heap.size<=w9.heap.size):=gw.X.size;have Ih:=za4 (nN.X.below ((y5 w9.heap.size w9).alloc (zT _) (zg #[za none 0 0,za none 0 0] 33)));go_simp;refine hoW hK (KS.X _ eB.X) fun aa=> ?_;clear hK K;obtain⟨ky,cA⟩:=nmd w9.heap.size;rw[cA.X]at aw aH⊢;generalize(w9.alloc _)=wz at*;obtain⟨z0,z1⟩:=za1 aw.X;have zf:=fun i=>yZ _ _ i _ _ aw.X;refine rdH 9 fun K hK=> ?_;have V9:Zb (((wz.setCell ⟨ky,0,none⟩ (za aW n4 bj)).setCell ⟨ky,1,none⟩ (za bM l4 bq)).heap[ky]? =some (zg #[za aW n4 bj,za bM l4 bq] 33 (0,0))):=zi5 aw.X;have B9:Zb (Za w6.heap.size w6 ((wz.setCell ⟨ky,0,none⟩ (za aW n4 bj)).setCell ⟨ky,1,none⟩ (za bM l4 bq))):=(eB.X.setCell aH.X _).setCell aH.X _;have P9:Zb (PO ((wz.setCell ⟨ky,0,none⟩ (za aW n4 bj)).setCell ⟨ky,1,none⟩ (za bM l4 bq)) w6.heap.size (za aW n4 bj) R4 (za bM l4 bq) (YM i)):=Ih.X.box2 aw.X;go_simp;refine hoW hK (KS.X _ B9.X) fun aa=> ?_;clear hK K;generalize((wz.setCell ⟨ky,0,none⟩ _).setCell ⟨ky,1,none⟩ _)=w7 at*;refine tkH 10 aa ?_;refine qF (by kernel_rfl) ?_ _;clear aa
           (try go_wp2_with fail)
           go_meet;exact⟨ky,aW,bM,n4,bj,l4,bq,R4,rfl,B9.X,aH.X,V9.X,P9.X,HY.X⟩
          refine xL rfl (fun K hK=> ?_) xP;have eB:=za4 (ew.X.trans (((y5 w8.heap.size w8).alloc (zT _) (zg #[za none 0 0,za none 0 0] 33)).mono ew.X.size));have aw:=za4 (zS w8 (zg #[za none 0 0,za none 0 0] 33));have aH:Zb (w6.heap.size<=w8.heap.size):=ew.X.size;have eH:=za4 (oV.X.below ((y5 w8.heap.size w8).alloc (zT _) (zg #[za none 0 0,za none 0 0] 33)));go_simp;refine hoW hK (KS.X _ eB.X) fun aa=> ?_;clear hK K;obtain⟨ky,cA⟩:=nmd w8.heap.size;rw[cA.X]at aw aH⊢;generalize(w8.alloc _)=wz at*;obtain⟨z0,z1⟩:=za1 aw.X;have zf:=fun i=>yZ _ _ i _ _ aw.X;refine rdH 4 fun K hK=> ?_;go_simp;refine(ST.X.desc i wz bK (some ⟨g3,0,none⟩) n3 bV l3 bY R3 hF (S7.X.q.b.trans (eB.X.mono S7.X.q.b.size)) eH.X KG.X).mono ?_;rintro e w9 ⟨aW,n4,bj,bM,l4,bq,R4,rfl,hb,gH,gT,eK,gK⟩;have gw:=za4 (eB.X.trans (hb.mono eB.X.size));have nN:=za4 (gK.base eB.X.size);have HY:Zb (R4.length=n4/\(YM i).length=l4/\R4.map RT.key=(YR i).map RT.key):=⟨gH,gT,eK⟩;have ej:=za4 (za0 hb (za2 aw.X) aw.X);obtain⟨z0,z1⟩:=za1 ej.X;have zf:=fun i=>yZ _ _ i _ _ ej.X;clear hb gH gT eK gK
          (try go_wp2_with fail)
          refine hoW hK (KS.X _ gw.X) fun aa=> ?_;clear hK K;refine tkH 5 aa ?_;refine tkH 6 aa ?_;refine tkH 7 aa ?_;refine rdH 9 fun K hK=> ?_;have V9:Zb (((w9.setCell ⟨ky,0,none⟩ (za aW n4 bj)).setCell ⟨ky,1,none⟩ (za bM l4 bq)).heap[ky]? =some (zg #[za aW n4 bj,za bM l4 bq] 33 (0,0))):=zi5 ej.X;have B9:Zb (Za w6.heap.size w6 ((w9.setCell ⟨ky,0,none⟩ (za aW n4 bj)).setCell ⟨ky,1,none⟩ (za bM l4 bq))):=(gw.X.setCell aH.X _).setCell aH.X _;have P9:Zb (PO ((w9.setCell ⟨ky,0,none⟩ (za aW n4 bj)).setCell ⟨ky,1,none⟩ (za bM l4 bq)) w6.heap.size (za aW n4 bj) R4 (za bM l4 bq) (YM i)):=nN.X.box2 ej.X;go_simp;refine hoW hK (KS.X _ B9.X) fun aa=> ?_;clear hK K;generalize((w9.setCell ⟨ky,0,none⟩ _).setCell ⟨ky,1,none⟩ _)=w7 at*;refine tkH 10 aa ?_;refine qF (by kernel_rfl) ?_ _;clear aa
          (try go_wp2_with fail)
          go_meet;exact⟨ky,aW,bM,n4,bj,l4,bq,R4,rfl,B9.X,aH.X,V9.X,P9.X,HY.X⟩
         refine xL rfl (fun K hK=> ?_) xP;have eB:=za4 (eQ.X.trans (((y5 wd.heap.size wd).alloc (zT _) (zg #[za none 0 0,za none 0 0] 33)).mono eQ.X.size));have aw:=za4 (zS wd (zg #[za none 0 0,za none 0 0] 33));have aH:Zb (w6.heap.size<=wd.heap.size):=eQ.X.size;go_simp;refine hoW hK (KS.X _ eB.X) fun aa=> ?_;clear hK K;obtain⟨ky,cA⟩:=nmd wd.heap.size;rw[cA.X]at aw aH⊢;generalize(wd.alloc _)=wz at*;obtain⟨z0,z1⟩:=za1 aw.X;have zf:=fun i=>yZ _ _ i _ _ aw.X;refine rdH 3 fun K hK=> ?_;go_simp;refine(ST.X.grd i wz ag (w.heap.size+3) gx n2 ai l2 aj R2 hF (S7.X.q.b.trans (eB.X.mono S7.X.q.b.size)) (X7.X.below eB.X) fR.X.1 fR.X.2 KX.X).mono ?_;rintro e w8 ⟨bK,n3,bV,g3,l3,bY,R3,rfl,hb,pM,Aa,iC,mn⟩;have ew:=za4 (eB.X.trans (hb.mono eB.X.size));have oV:=za4 (mn.is pM Aa);have KG:=za4 iC;have lk:=za4 (za0 hb (za2 aw.X) aw.X);obtain⟨z0,z1⟩:=za1 lk.X;have zf:=fun i=>yZ _ _ i _ _ lk.X;clear hb pM Aa iC mn
         (try go_wp2_with fail)
         refine hoW hK (KS.X _ ew.X) fun aa=> ?_;clear hK K;refine rdH 4 fun K hK=> ?_;go_simp;refine(ST.X.desc i w8 bK (some ⟨g3,0,none⟩) n3 bV l3 bY R3 hF (S7.X.q.b.trans (ew.X.mono S7.X.q.b.size)) oV.X KG.X).mono ?_;rintro e w9 ⟨aW,n4,bj,bM,l4,bq,R4,rfl,hb,gH,gT,eK,gK⟩;have gw:=za4 (ew.X.trans (hb.mono ew.X.size));have nN:=za4 (gK.base ew.X.size);have HY:Zb (R4.length=n4/\(YM i).length=l4/\R4.map RT.key=(YR i).map RT.key):=⟨gH,gT,eK⟩;have ej:=za4 (za0 hb (za2 lk.X) lk.X);obtain⟨z0,z1⟩:=za1 ej.X;have zf:=fun i=>yZ _ _ i _ _ ej.X;clear hb gH gT eK gK
         (try go_wp2_with fail)
         refine hoW hK (KS.X _ gw.X) fun aa=> ?_;clear hK K;refine tkH 5 aa ?_;refine tkH 6 aa ?_;refine tkH 7 aa ?_;refine rdH 9 fun K hK=> ?_;have V9:Zb (((w9.setCell ⟨ky,0,none⟩ (za aW n4 bj)).setCell ⟨ky,1,none⟩ (za bM l4 bq)).heap[ky]? =some (zg #[za aW n4 bj,za bM l4 bq] 33 (0,0))):=zi5 ej.X;have B9:Zb (Za w6.heap.size w6 ((w9.setCell ⟨ky,0,none⟩ (za aW n4 bj)).setCell ⟨ky,1,none⟩ (za bM l4 bq))):=(gw.X.setCell aH.X _).setCell aH.X _;have P9:Zb (PO ((w9.setCell ⟨ky,0,none⟩ (za aW n4 bj)).setCell ⟨ky,1,none⟩ (za bM l4 bq)) w6.heap.size (za aW n4 bj) R4 (za bM l4 bq) (YM i)):=nN.X.box2 ej.X;go_simp;refine hoW hK (KS.X _ B9.X) fun aa=> ?_;clear hK K;generalize((w9.setCell ⟨ky,0,none⟩ _).setCell ⟨ky,1,none⟩ _)=w7 at*;refine tkH 10 aa ?_;refine qF (by kernel_rfl) ?_ _;clear aa
         (try go_wp2_with fail)
         go_meet;exact⟨ky,aW,bM,n4,bj,l4,bq,R4,rfl,B9.X,aH.X,V9.X,P9.X,HY.X⟩
        case rest=>
         obtain⟨ky,aW,bM,n4,bj,l4,bq,R4,rfl,hb,kM,hv,gK,gH,gT,eK⟩:=hcut;have S8:=za4 (S7.X.below hb);have V8:=za4 hv;have Y8:=za4 (gK.base S7.X.q.size);have KY:=za4 eK;have OY:Zb (Off z9 aW bM R4):=gK.off gH gT S7.X.zz.2;clear hb hv gK eK S7 X7 KX HX fR;obtain⟨wb,Mz⟩:∃v,v=wc:=⟨_,rfl⟩;subst Mz;go_upto_region 12 with fail;go_cut [72]from 66 to 72 (fun Lz wx=>Lz=.bool (decide (YC i<C i))/\Za wb.heap.size wb wx)
         case first=>
          have KS:Zb (∀W,Za wb.heap.size wb W->((W.cell? ⟨w.heap.size,0,none⟩=some (ze zd n)/\W.cell? ⟨w.heap.size,1,none⟩=some (za a zl ac)/\W.cell? ⟨w.heap.size,2,none⟩=some (za ao ko co)/\W.cell? ⟨w.heap.size,3,none⟩=some (za (some ⟨bv,ov,none⟩) kv cv)/\W.cell? ⟨w.heap.size,4,none⟩=some (ze zd fine))/\(W.cell? ⟨ky,0,none⟩=some (za aW n4 bj)/\W.cell? ⟨ky,1,none⟩=some (za bM l4 bq))/\(W.cell? ⟨kn,0,none⟩=some (za aO bG bg)/\W.cell? ⟨kn,1,none⟩=some (za cQ bo dM)))):=fun W hW=>⟨za7 (S8.X.below hW).q.c,za1 (za0 hW (za2 V8.X) V8.X),za1 (S8.X.below hW).n⟩
          go_wp2_with fail
          refine qG (S:=(fun W=>((W.cell? ⟨w.heap.size,0,none⟩=some (ze zd n)/\W.cell? ⟨w.heap.size,1,none⟩=some (za a zl ac)/\W.cell? ⟨w.heap.size,2,none⟩=some (za ao ko co)/\W.cell? ⟨w.heap.size,3,none⟩=some (za (some ⟨bv,ov,none⟩) kv cv)/\W.cell? ⟨w.heap.size,4,none⟩=some (ze zd fine))/\(W.cell? ⟨ky,0,none⟩=some (za aW n4 bj)/\W.cell? ⟨ky,1,none⟩=some (za bM l4 bq))/\(W.cell? ⟨kn,0,none⟩=some (za aO bG bg)/\W.cell? ⟨kn,1,none⟩=some (za cQ bo dM))))) (by kernel_rfl) ?_ fun aa=> ?_
          ·exact KS.X _ (y5 _ _).drew
          have eQ:Zb (Za wb.heap.size wb wb.drew):=(y5 _ _).drew;generalize wb.drew=wd at*;refine tkH 0 aa ?_;refine tkH 1 aa ?_;refine tkH 3 aa ?_;refine tkH 4 aa ?_;refine rdH 2 fun K hK=> ?_;go_simp;refine(ST.X.costY i wd aW bM n4 bj l4 bq R4 hF (S8.X.q.b.trans (eQ.X.mono S8.X.q.b.size)) ((Y8.X.below eQ.X).is gH gT) KY.X).mono ?_;rintro e Lu ⟨rfl,hb⟩;have jp:=za4 (eQ.X.trans (hb.mono eQ.X.size));clear hb
          (try go_wp2_with fail)
          refine hoW hK (KS.X _ jp.X) fun aa=> ?_;clear hK K;refine rdH 5 fun K hK=> ?_;go_simp;refine(ST.X.cost i Lu aO cQ bG bg bo dM R9 (S8.X.q.b.trans (jp.X.mono S8.X.q.b.size)) ((S8.X.below jp.X).p.is S8.X.hn S8.X.hl) K5.X).mono ?_;rintro e LZ ⟨rfl,hb⟩;have mM:=za4 (jp.X.trans (hb.mono jp.X.size));clear hb
          (try go_wp2_with fail)
          refine hoW hK (KS.X _ mM.X) fun aa=> ?_;clear hK K;refine tkH 6 aa ?_;refine qF (by kernel_rfl) ?_ _;clear aa
          (try go_wp2_with fail)
          go_meet;exact⟨rfl,mM.X⟩
         case rest=>
          obtain⟨rfl,hb⟩:=hcut;have S9:=za4 (S8.X.below hb);have V9:=za0 hb (za2 V8.X) V8.X;have Y9:=Y8.X.below hb;clear hb S8 V8 Y8;by_cases hyc:YC i<C i
          ·obtain⟨e1,e2,e3⟩:=ST.X.yes i hF hyc
           have SZ:=za4 (S9.X.take HZ.X.1 Y9 gH gT OY.X);have dy:decide (YC i<C i)=true:=zW hyc;obtain⟨z0,z1⟩:=za1 V9;obtain⟨n0,n1⟩:=za1 S9.X.n;have nf:=fun i=>yZ _ _ i _ _ S9.X.n
           go_wp2_with fail
           go_meet;rw[e1,e2];exact⟨_,_,_,_,_,_,_,SZ.X,KY.X⟩
          ·obtain⟨e1,e2,e3⟩:=ST.X.no i (fun _=>hyc)
           have dn:decide (YC i<C i)=false:=zX hyc
           go_wp2_with fail
           go_meet;rw[e1,e2];exact⟨_,_,_,_,_,_,_,S9.X,K5.X⟩
      case rest=>
       clear S7 X7 KX HX fR fL K5;obtain⟨aW,bM,Co,bj,DG,bq,R4,hq,hk⟩:=hcut;have S8:=za4 hq;have K8:=za4 hk;clear hq hk;have CN:=ST.X.cost (i+1) wc aW bM Co bj DG bq R4 S8.X.q.b (S8.X.p.is S8.X.hn S8.X.hl) K8.X;obtain⟨c0,c1,c2,c3,c4⟩:=za7 S8.X.q.c;obtain⟨n0,n1⟩:=za1 S8.X.n
       go_wp2_with fail
       refine CN.mono ?_;rintro e w9 ⟨rfl,hb⟩;have S9:=za4 (S8.X.below hb);have hA:Za w9.heap.size w9 (w9.alloc (zg #[ze zd (C (i+1))] 2)):=zP _;have QG:kn<w9.heap.size:=za2 S9.X.n;clear hb CN c0 c1 c2 c3 c4 n0 n1 S8
       go_wp2_with(
        at_builtin;refine zc9 _ rfl (.tmp 74) (.tmp 78) rfl (kn+1) (za (some ⟨z9,0,none⟩) (i+1) c9) (i+1) (T i) rfl (S9.X.t.alloc _) w9.heap.size 0 1 1 [C (i+1)] rfl rfl (ze2 w9 (C (i+1))) (by omega) (by omega) (by simp;omega) ?_;intro v' w8 ae hg hv aX;obtain⟨z8,c8,uq,hs⟩:=(S9.X.below hA).app HZ.X.1 hg ae hv;subst uq;have Nj:=za4 hs;clear ae hg hv aX hs)
       go_roundw
       case rel=>exact⟨i+1,aW,bM,Co,bj,DG,bq,z8,c8,R4,by omega,by first|rfl|go_num,rfl,rfl,by rw[TS.X];exact Nj.X,K8.X⟩
       case measure=>simp[intOf];omega
     ·have pW:i=N:=by omega
      subst pW;clear ah;obtain⟨n0,n1⟩:=za1 S5.X.n;obtain⟨a0,a1⟩:=za1 S5.X.q.o;have af:=fun i=>yZ _ _ i _ _ S5.X.q.o;have hz:=S5.X.zz;have iC:=gN.X;have aq:(za (some ⟨z9,0,none⟩) (i+1) c9).ownBlock≠some (w.heap.size+2):=SeQ.ne (by omega);have P7:=za4 (S5.X.p.box2 (u:=za aO bG bg) (v:=za cQ bo dM) S5.X.q.o);have B7:Zb (Za w.heap.size w ((wr.setCell ⟨w.heap.size+2,0,none⟩ (za aO bG bg)).setCell ⟨w.heap.size+2,1,none⟩ (za cQ bo dM))):=(S5.X.q.b.setCell (by simp) _).setCell (by simp) _;have O7:=za4 (zf1 (zf1 S5.X.t 0 (za aO bG bg) aq) 1 (za cQ bo dM) aq);clear aq;go_wp2;refine xe (v:=.tuple #[.agg #[za aO bG bg,za cQ bo dM],za (some ⟨z9,0,none⟩) (i+1) c9,.bool true]) (by simp[results,Tryz.results8,go_sem,a0,a1]) rfl ?_;exact⟨aO,bG,bg,cQ,bo,dM,R9,_,rfl,B7.X,S5.X.hn,S5.X.hl,K5.X,P7.X.base (by omega),by rw[TL.X];exact zb5 O7.X (by omega)⟩
 ·have sy:(pv !=0)=true:=by simp[dv]
  obtain⟨a0,a1⟩:=za1 Q1.X.o;have af:=fun i=>yZ _ _ i _ _ Q1.X.o;rw[zX dv,jj]at d6;have mK:GB=false:=by rw[d6.X];try rfl
  subst mK;obtain⟨g2,g3,g4⟩:=bA.X rfl;subst g2 g3 g4;clear bA fm;have B5:Zb (Za w.heap.size w ((w1.setCell ⟨w.heap.size+2,0,none⟩ (za none 0 0)).setCell ⟨w.heap.size+2,1,none⟩ (za none 0 0))):=(Q1.X.b.setCell (by simp) _).setCell (by simp) _
  go_wp2_with(go_at_call 39;refine(zc0 _ _ _ _).mono ?_;rintro e w' ⟨rfl,dz⟩;subst w';first|rw[df.X]|rw[d_.X])
  refine xe (v:=.tuple #[.agg #[za none 0 0,za none 0 0],za none 0 0,.bool false]) (by simp[results,Tryz.results8,go_sem,a0,a1]) rfl ?_;exact⟨none,0,0,none,0,0,[],za none 0 0,rfl,B5.X,rfl,rfl,rfl,⟨xZ _ _ _ _,(fun s hs=>by cases hs),xZ _ _ _ _⟩,xZ _ _ _ _⟩
theorem z69(a:Option Zd)(c dH:Nat)(w:zi)(hl:dH<=9223372036854775807)(h:1048576<dH):
 Zc zh 3 #[za a dH c] w fun e w'=>e=.returned (.bool true)/\Za w.heap.size w w':=by
 have hd:decide (1048576<dH)=true:=zW h;go_enter Tryz.func3,Tryz.ntmps3
 go_wp2_with(go_at_call 5;refine(ys6 a c dH w hl).mono ?_;rintro e w1 ⟨rfl,iR⟩;subst w1;rw[hd])
 go_ret;exact⟨rfl,y5 _ _⟩
theorem z29(a:Option Zd)(ca:Nat)(bs:List Int)(w:zi)(hA:zO1 w a bs)(hl:bs.length<=1048576):
 Zc zh 3 #[za a bs.length ca] w fun e w'=>e=.returned (.bool true)/\Za w.heap.size w w':=by
 have HA:=za4 hA;clear hA;have hd:decide (1048576<bs.length)=false:=zX (by omega);go_enter Tryz.func3,Tryz.ntmps3
 go_wp2_with fail
 refine(ys6 a ca bs.length w (by omega)).mono ?_;rintro e w1 ⟨rfl,iR⟩;subst w1;rw[hd];clear hd
 go_wp2_with fail
 refine(zK0 a ca bs w HA.X hl).mono ?_;rintro e w1 ⟨n,g,zl,cg,go,ko,co,gv,kv,cv,zs,O,V,fi,rs,ls,R,L,sd,st,rfl,⟨hz,hO,hV,NU,Nr,Qc,Qi⟩,⟨H6,G',Fz,Ba⟩,hb,iz,io,iv,cZ⟩;obtain⟨N,Na⟩:∃v,Zb (bs.length=v):=⟨_,rfl⟩;rw[Na.X]at hl⊢;obtain⟨ra,rc,e⟩:=zp0 cZ.r;subst e;obtain⟨la,lc,e⟩:=zp0 cZ.l;subst e;obtain⟨nr,cY⟩:∃v,Zb (R.length=v):=⟨_,rfl⟩;obtain⟨m,HM⟩:∃v,Zb (L.length=v):=⟨_,rfl⟩;have HZ:=za4 hz;have HO:=za4 hO;have HV:=za4 hV;have bw:Zb (∀r∈R,r.ids.length<=r.c):=fun r hr=>(cZ.ints r hr).2;have eV:=za4 G';have iQ:Zb ((zb0 R R.length).length<=1048576):=xj (zD7 G' _ (zT _)) (by omega);have kK:Zb (∀x∈L,(zD zd x).wf=true):=y79 Ba;rw[cY.X,HM.X]at cZ;rw[cY.X]at H6⊢;rw[HM.X]at Fz⊢;have eZ:Zb _:=(yi5 cZ cY.X HM.X).1;have fb:Zb _:=(yi5 cZ cY.X HM.X).2;have K1:Zb (LP w ((w1.alloc (zg #[ze zd n,za (some ⟨g,0,none⟩) zl cg,za (some ⟨go,0,none⟩) ko co,za (some ⟨gv,0,none⟩) kv cv,ze zd fi] 30)).alloc (zg #[za ra nr rc,za la m lc] 33)) w1.heap.size (w1.heap.size+1) #[ze zd n,za (some ⟨g,0,none⟩) zl cg,za (some ⟨go,0,none⟩) ko co,za (some ⟨gv,0,none⟩) kv cv,ze zd fi] ra nr rc la m lc g go gv zs O V R L):=by
  have ha:Za w1.heap.size w1 ((w1.alloc (zg #[ze zd n,za (some ⟨g,0,none⟩) zl cg,za (some ⟨go,0,none⟩) ko co,za (some ⟨gv,0,none⟩) kv cv,ze zd fi] 30)).alloc (zg #[za ra nr rc,za la m lc] 33)):=(zP _).alloc (by simp) _;exact⟨hb.trans (ha.mono hb.size),xm _ _ _,xh _ _ _,iz.below ha,io.below ha,iv.below ha,(zI6 cZ cY.X).below ha,(yB7 cZ HM.X).below ha⟩
 clear hz hO hV hb iz io iv cZ G' Ba;have dm:=yJ8 sd st n fi zs O V ko kv R L;have Fx:=yG8 (sd:=sd) (st:=st) (n:=n) (fine:=fi) (zs:=zs) (os:=O) (vs:=V) (ko:=ko) (kv:=kv) (R:=R) (L:=L);have Ib:Zb (sgB sd st n fi zs O V ko kv R L=true->_):=fun h=>yH0 h;have KV:Zb (∀W k kp,LP w W k kp #[ze zd n,za (some ⟨g,0,none⟩) zl cg,za (some ⟨go,0,none⟩) ko co,za (some ⟨gv,0,none⟩) kv cv,ze zd fi] ra nr rc la m lc g go gv zs O V R L->zc3 W ra la nr m R L):=fun W k kp h=>⟨cY.X,HM.X,h.r,h.l,eZ.X,fb.X,bw.X⟩;have JA:Zb (∀r∈R,r.ids.length<=1048576):=fun r hr=>by have:=eV.X r hr;omega
 have Hn:Zb (∀(s9:Int) W k kp,LP w W k kp #[ze zd n,za (some ⟨g,0,none⟩) zl cg,za (some ⟨go,0,none⟩) ko co,za (some ⟨gv,0,none⟩) kv cv,ze zd fi] ra nr rc la m lc g go gv zs O V R L->Zc zh 7 #[.agg #[ze zd n,za (some ⟨g,0,none⟩) zl cg,za (some ⟨go,0,none⟩) ko co,za (some ⟨gv,0,none⟩) kv cv,ze zd fi],.agg #[za ra nr rc,za la m lc],ze zd sd,ze zd s9] W (zM0 W (sgB sd s9 n fi zs O V ko kv R L) (sgT sd s9 n fi zs O V ko kv R L) (sgR sd s9 n fi zs O V ko kv R L) (sgL sd s9 n fi zs O V ko kv R L))):=fun s9 W k kp h=>
  zB7 sd s9 n fi _ _ _ ra la zl cg ko co kv cv nr rc m lc zs O V L R W h.iz h.io h.iv HZ.X HO.X HV.X (by omega) (by omega) (KV.X W k kp h) (by omega) JA.X (by omega) iQ.X kK.X
 have Ii:Zb (∀W k kp,LP w W k kp #[ze zd n,za (some ⟨g,0,none⟩) zl cg,za (some ⟨go,0,none⟩) ko co,za (some ⟨gv,0,none⟩) kv cv,ze zd fi] ra nr rc la m lc g go gv zs O V R L->Zc zh 8 #[.agg #[ze zd n,za (some ⟨g,0,none⟩) zl cg,za (some ⟨go,0,none⟩) ko co,za (some ⟨gv,0,none⟩) kv cv,ze zd fi],.agg #[za ra nr rc,za la m lc],ze zd sd,ze zd st] W (yw8 W (sgB sd st n fi zs O V ko kv R L) (sgT sd st n fi zs O V ko kv R L) (sgR sd st n fi zs O V ko kv R L) (sgL sd st n fi zs O V ko kv R L))):=fun W k kp h=>
  zC3 sd st n fi _ _ ra la zl cg ko co gv 0 kv cv nr rc m lc zs O V L R W h.iz h.io h.iv HZ.X HO.X HV.X (by omega) (by omega) (KV.X W k kp h) (by omega) JA.X (by omega) iQ.X
 have Jy:Zb (∀(ag ak:Option Zd) (ai aj:Nat) (R2:List RT) (L2:List Int) W k kp,LP w W k kp #[ze zd n,za (some ⟨g,0,none⟩) zl cg,za (some ⟨go,0,none⟩) ko co,za (some ⟨gv,0,none⟩) kv cv,ze zd fi] ra nr rc la m lc g go gv zs O V R L->za9 W ag R2->za3 W ak L2->R2.length<=500->(∀r∈R2,r.ids.length<=12/\r.ids.length<=r.c)->L2.length<=500->(∀x∈L2,(zD zd x).wf=true)->Zc zh 12 #[.agg #[ze zd n,za (some ⟨g,0,none⟩) zl cg,za (some ⟨go,0,none⟩) ko co,za (some ⟨gv,0,none⟩) kv cv,ze zd fi],.agg #[za ag R2.length ai,za ak L2.length aj]] W fun e w'=>e=.returned (ze zd (zc1 n zs O V ko kv fi R2 L2))/\Za W.heap.size W w'):=fun ag ak ai aj R2 L2 W k kp h h1 h2 h3 h4 h5 h6=>by
  have h9:=zD7 (fun r hr=>(h4 r hr).1) R2.length (zT _);have:=zx7 n fi _ _ _ ag ak cg ko co kv cv ai aj zs O V L2 R2 W h.iz h.io h.iv h1 h2 HO.X HV.X (by omega) (by omega) (by omega) (fun r hr=>by have:=(h4 r hr).1;omega) (fun r hr=>(h4 r hr).2) (by omega) (by omega) h6;rw[HZ.X]at this;exact this
 have Gy:Zb (∀(ag ak:Option Zd) (ai aj:Nat) (R2:List RT) (L2:List Int) W k kp,LP w W k kp #[ze zd n,za (some ⟨g,0,none⟩) zl cg,za (some ⟨go,0,none⟩) ko co,za (some ⟨gv,0,none⟩) kv cv,ze zd fi] ra nr rc la m lc g go gv zs O V R L->za9 W ag R2->za3 W ak L2->R2.length<=500->(∀r∈R2,r.ids.length<=12/\r.ids.length<=r.c)->L2.length<=500->(∀x∈L2,(zD zd x).wf=true)->Zc zh 11 #[.agg #[ze zd n,za (some ⟨g,0,none⟩) zl cg,za (some ⟨go,0,none⟩) ko co,za (some ⟨gv,0,none⟩) kv cv,ze zd fi],.agg #[za ag R2.length ai,za ak L2.length aj]] W fun e w'=>e=.returned (ze zd (zo8 n zs O V ko kv fi R2 L2))/\Za W.heap.size W w'):=fun ag ak ai aj R2 L2 W k kp h h1 h2 h3 h4 h5 h6=>by
  have h9:=zD7 (fun r hr=>(h4 r hr).1) R2.length (zT _);have:=zC2 n fi _ _ _ ag ak cg ko co kv cv ai aj zs O V L2 R2 W h.iz h.io h.iv h1 h2 HO.X HV.X (by omega) (by omega) (by omega) (fun r hr=>by have:=(h4 r hr).1;omega) (fun r hr=>(h4 r hr).2) (by omega) (by omega) h6;rw[HZ.X]at this;exact this
 obtain⟨GB,dK⟩:=nmd (sgB sd st n fi zs O V ko kv R L);obtain⟨GT,li⟩:=nmd (sgT sd st n fi zs O V ko kv R L);obtain⟨GR,cB⟩:=nmd (sgR sd st n fi zs O V ko kv R L);obtain⟨GL,da⟩:=nmd (sgL sd st n fi zs O V ko kv R L);obtain⟨nt,vr⟩:=nmd GT.length;rw[cB.X,da.X]at dm;rw[li.X,vr.X]at Fx;rw[dK.X,li.X,cB.X,da.X]at Ib;have dG:=hdn dm;clear dm;have GU:=Hn.X st _ _ _ K1.X;rw[dK.X,li.X,cB.X,da.X]at Ii;rw[dK.X,li.X,cB.X,da.X]at GU;clear dK li cB da;obtain⟨d0,d1,d2,d3,d4⟩:=zc6 K1.X.b1;obtain⟨p0,p1⟩:=za1 K1.X.b2
 go_wp2_with fail
 generalize(w1.alloc _).alloc _=W1 at*;obtain⟨k,HK⟩:=nmd w1.heap.size;obtain⟨kp,y_⟩:=nmd (w1.heap.size+1);rw[y_.X]at K1 p0 p1⊢;rw[HK.X]at K1 d0 d1 d2 d3 d4⊢;refine GU.mono ?_;rintro e w2 ⟨qa,qn,qc,qk,ql,qd,SG,tv,b0,rfl,hb,rg,gh,kM,-,cZ,-,gu,-⟩;obtain⟨ta,tc,e⟩:=zg7 gu;subst e;have Fj:=hdn gu;rw[vr.X]at gu Fj⊢;have od:=hdn rg;have nB:=hdn gh;have pX:=hdn kM;have un:Zb (∀r∈SG,r.ids.length<=12/\r.ids.length<=r.c):=fun r hr=>⟨(z05 kM dG.X.1 r hr).2,(cZ.ints r hr).2⟩;have JN:qn<=500:=by have h1:=dG.X.2.1;have h2:=congrArg zo kM;simp only[qz]at h2;omega
 have vw:ql<=500:=by have h1:=dG.X.2.2;omega
 have hA:Za w2.heap.size w2 (w2.alloc (zg #[za qa qn qc,za qk ql qd] 33)):=zP _;have K3:=hdn ((K1.X.below hb).below hA);have Q3:=hdn (LQ.new cZ rg gh);have T3:=hdn ((ze8 gu).below hA);clear hb rg gh kM cZ gu hA K1 d0 d1 d2 d3 d4 p0 p1 GU;obtain⟨d0,d1,d2,d3,d4⟩:=zc6 K3.X.b1;obtain⟨p0,p1⟩:=za1 K3.X.b2
 go_wp2_with fail
 generalize w2.alloc _=W3 at*;obtain⟨kq,lP⟩:=nmd w2.heap.size;rw[lP.X]at Q3⊢;refine(Ii.X _ _ _ K3.X).mono ?_;rintro e w4 ⟨xa,xn,xc,xk,xl,xd,SW,xv,rfl,hb,rg,gh,kM,cZ,gu⟩;have e1:qn=xn:=by rw[<-od.X,<-rg];have:=congrArg zo (pX.X.trans kM.symm);simpa using this
 have e2:ql=xl:=nB.X.symm.trans gh;subst e1 e2;obtain⟨xt,Kz,e⟩:=zg7 gu;subst e;rw[vr.X]at gu⊢;have Fd:=hdn (kM.trans pX.X.symm);have hA:Za w4.heap.size w4 (w4.alloc (zg #[za xa qn xc,za xk ql xd] 33)):=zP _;have tO:=hb.trans (hA.mono hb.size);have K5:=hdn (K3.X.below tO);have Q5:=hdn (Q3.X.below tO);have T5:=hdn (T3.X.below tO);have X5:=hdn (LQ.new cZ rg gh);have U5:=hdn ((ze8 gu).below hA);clear hb rg gh kM cZ gu hA tO K3 Q3 T3 d0 d1 d2 d3 d4 p0 p1 Ii;have EQ:Zb (∀W,za3 W ta GT->za3 W xt GT->Zc zh 9 #[za ta nt tc,za xt nt Kz] W fun e w'=>e=.returned (.bool true)/\Za W.heap.size W w'):=fun W h1 h2=>by
  have:=zr9 ta xt tc Kz GT GT W h1 h2 (by have:=vr.X;omega);rw[vr.X,zW rfl]at this;exact this
 have sJ:Zb (∀W,za9 W qa SG->za9 W xa SW->za3 W qk GL->za3 W xk GL->Zc zh 10 #[.agg #[za qa qn qc,za qk ql qd],.agg #[za xa qn xc,za xk ql xd]] W fun e w'=>e=.returned (.bool true)/\Za W.heap.size W w'):=fun W h1 h2 h3 h4=>zO5 qa xa qk xk qc xc qn qd xd ql SG SW GL W h1 h2 Fd.X od.X (by omega) (fun r hr=>by have:=(un.X r hr).1;omega) h3 h4 nB.X (by omega)
 have Oy:(GB !=GB)=false:=by simp
 have NT:(GB==GB)=true:=by simp
 obtain⟨kw,Ky⟩:=nmd w4.heap.size;rw[Ky.X]at X5;obtain⟨q0,q1⟩:=za1 Q5.X.b;obtain⟨x0,x1⟩:=za1 X5.X.b
 go_wp2_with fail
 generalize w4.alloc _=W5 at*;rw[Ky.X];refine(EQ.X W5 T5.X U5.X).mono ?_;rintro e w6 ⟨rfl,hb⟩;have K6:=hdn (K5.X.below hb);have Q6:=hdn (Q5.X.below hb);have T6:=hdn (T5.X.below hb);have X6:=hdn (X5.X.below hb);have U6:=hdn (U5.X.below hb);clear hb K5 Q5 T5 X5 U5 q0 q1 x0 x1;obtain⟨q0,q1⟩:=za1 Q6.X.b;obtain⟨x0,x1⟩:=za1 X6.X.b
 go_wp2_with fail
 refine(sJ.X w6 Q6.X.r X6.X.r Q6.X.l X6.X.l).mono ?_;rintro e w7 ⟨rfl,hb⟩;have K7:=hdn (K6.X.below hb);have Q7:=hdn (Q6.X.below hb);have T7:=hdn (T6.X.below hb);have X7:=hdn (X6.X.below hb);have U7:=hdn (U6.X.below hb);clear hb K6 Q6 T6 X6 U6 q0 q1 x0 x1;cases GB
 ·go_wp2_with fail
  refine(EQ.X w7 T7.X U7.X).mono ?_;rintro e w8 ⟨rfl,hb⟩;obtain⟨q0,q1⟩:=za1 (Q7.X.below hb).b;obtain⟨x0,x1⟩:=za1 (X7.X.below hb).b;have B8:=hdn (K7.X.below hb).b;have SB:=hdn (sJ.X w8 (Q7.X.below hb).r (X7.X.below hb).r (Q7.X.below hb).l (X7.X.below hb).l);clear hb
  go_wp2_with fail
  refine SB.X.mono ?_;rintro e w9 ⟨rfl,hb⟩;have B9:=hdn (B8.X.trans (hb.mono B8.X.size));clear hb;go_wp2;go_ret;exact⟨by first|rfl|simp,B9.X⟩
 ·obtain⟨N,bB,tn,dv,Cp,fP,Ex,aC,fW⟩:=Ib.X rfl
  subst bB;clear EQ sJ X7 U7 Ib Oy NT;have pU:∀i j,j<=i->(seT sd n fi zs O V ko kv R L i).getD j 0=seC sd n fi zs O V ko kv R L j:=fun i j h=>yE9 h;have tW:∀i j,j<=i->(seT sd n fi zs O V ko kv R L i).take (j+1)=seT sd n fi zs O V ko kv R L j:=fun i j h=>y61 h;have r8:=zR9 sd n fi zs O V ko kv R L;have tC:∀i,seC sd n fi zs O V ko kv R L (i+1)<=seC sd n fi zs O V ko kv R L i:=fun i=>y37 i;have sn:zo8 n zs O V ko kv fi R L=seC sd n fi zs O V ko kv R L 0:=rfl;obtain⟨T,HT⟩:=nmd (seT sd n fi zs O V ko kv R L);obtain⟨C,HC⟩:=nmd (seC sd n fi zs O V ko kv R L);rw[HT.X]at pU tW r8 Cp fW;rw[HC.X]at pU tC Ex sn;have Gt:=hdn pU;have eO:=hdn tW;have dQ:=hdn r8;have tL:=hdn tC;have bt:=hdn sn;have nE:=hdn Ex;have pr:=hdn fP;have JY:=hdn (yF3 fP);have Ca:=hdn (Hn.X ((N / 2:Nat):Int));rw[aC,fW]at Ca;subst Cp;clear pU tW r8 tC sn Ex fP dv HT HC aC fW Hn;have e3:nt=N+1:=vr.X.symm.trans (dQ.X N);subst e3;have Kt:Zb (N+1<=tc):=by
   have h9:=Fj.X;rcases own_kinds h9 with⟨e,h0⟩|⟨g9,c9,e,_⟩
   ·omega
   ·rw[e]at h9
    injection e with e1 e2 e3
    subst e3;exact zy6 h9
  obtain⟨tb,tx,e,-⟩:=T7.X 0 (by rw[dQ.X];omega);subst e;have CT:Zb (∀W,Za w7.heap.size w7 W->∀j,j<=N->W.cell? ⟨tb,tx+j,none⟩=some (ze zd (C j))):=fun W hW j hj=>by
   obtain⟨b,off,e,hc⟩:=(T7.X.below hW) j (by rw[dQ.X];omega);simp only[jf,qg,qt]at e;obtain⟨rfl,rfl⟩:=e;rw[Gt.X N j hj]at hc;exact hc
  clear Fj;have EZ:R.length<=500:=by have:=cY.X;omega
  have Iv:L.length<=500:=by have:=HM.X;omega
  have z_:SG.length<=500:=by have:=od.X;omega
  have vT:GL.length<=500:=by have:=nB.X;omega
  have gE:Zb (∀r∈R,r.ids.length<=12/\r.ids.length<=r.c):=fun r hr=>⟨by have:=eV.X r hr;omega,bw.X r hr⟩
  have Nm:Zb (∀W,LP w W k kp #[ze zd n,za (some ⟨g,0,none⟩) zl cg,za (some ⟨go,0,none⟩) ko co,za (some ⟨gv,0,none⟩) kv cv,ze zd fi] ra nr rc la m lc g go gv zs O V R L->Zc zh 11 #[.agg #[ze zd n,za (some ⟨g,0,none⟩) zl cg,za (some ⟨go,0,none⟩) ko co,za (some ⟨gv,0,none⟩) kv cv,ze zd fi],.agg #[za ra nr rc,za la m lc]] W fun e w'=>e=.returned (ze zd (C 0))/\Za W.heap.size W w'):=fun W h1=>by
   have:=Gy.X ra la rc lc R L W k kp h1 h1.r h1.l EZ gE.X Iv kK.X;rw[cY.X,HM.X,bt.X]at this;exact this
  have Pm:Zb (∀W,LP w W k kp #[ze zd n,za (some ⟨g,0,none⟩) zl cg,za (some ⟨go,0,none⟩) ko co,za (some ⟨gv,0,none⟩) kv cv,ze zd fi] ra nr rc la m lc g go gv zs O V R L->LQ W kq qa qn qc qk ql qd SG GL->Zc zh 11 #[.agg #[ze zd n,za (some ⟨g,0,none⟩) zl cg,za (some ⟨go,0,none⟩) ko co,za (some ⟨gv,0,none⟩) kv cv,ze zd fi],.agg #[za qa qn qc,za qk ql qd]] W fun e w'=>e=.returned (ze zd (C N))/\Za W.heap.size W w'):=fun W h1 h2=>by
   have:=Gy.X qa qk qc qd SG GL W k kp h1 h2.r h2.l z_ un.X vT JY.X;rw[od.X,nB.X,zs5 GL pX.X,nE.X]at this;exact this
  have MB:Zb (∀W,LP w W k kp #[ze zd n,za (some ⟨g,0,none⟩) zl cg,za (some ⟨go,0,none⟩) ko co,za (some ⟨gv,0,none⟩) kv cv,ze zd fi] ra nr rc la m lc g go gv zs O V R L->LQ W kq qa qn qc qk ql qd SG GL->Zc zh 12 #[.agg #[ze zd n,za (some ⟨g,0,none⟩) zl cg,za (some ⟨go,0,none⟩) ko co,za (some ⟨gv,0,none⟩) kv cv,ze zd fi],.agg #[za qa qn qc,za qk ql qd]] W fun e w'=>e=.returned (ze zd 0)/\Za W.heap.size W w'):=fun W h1 h2=>by
   have:=Jy.X qa qk qc qd SG GL W k kp h1 h2.r h2.l z_ un.X vT JY.X;rw[od.X,nB.X,zd5 GL pX.X,pr.X]at this;exact this
  clear Jy Gy
  go_wp2_with fail
  go_loopw[13] (fun AH wr=>∃i:Nat,1<=i/\i<=N+1/\AH=ze zd i/\Za w7.heap.size w7 wr) (fun t _=>N+2 - (intOf t).toNat)
  case atStart=>exact⟨1,by omega,by omega,rfl,y5 _ _⟩
  case round=>
   obtain⟨i,MZ,hi,rfl,gY⟩:=hrel;obtain⟨j,rfl⟩:∃j,i=j+1:=⟨i - 1,by omega⟩;have BX:=hdn gY;clear gY;by_cases ah:j<N
   ·have ek:((j+1:Nat):Int)<((N+1:Nat):Int):=by omega
    have Rk:(0:Int)<=(j:Int)+1:=by omega
    have Ec:(j:Int)+1<(N:Int)+1:=by omega
    have Gr:(j:Int)<(N:Int)+1:=by omega
    have MC:IntKind.i64.wrap (j:Int)=(j:Int):=xz _ (by omega);have Rc:decide (C j<C (j+1))=false:=zX (by have:=tL.X j;omega);have hD:Za w7.heap.size w7 wr.drew:=BX.X.trans ((y5 _ _).drew.mono BX.X.size);have c1:=CT.X _ hD (j+1) ah;have c0:=CT.X _ hD j (by omega)
    go_wp2_with fail
    refine qG (S:=(fun W=>W.cell? ⟨tb,tx+(j+1),none⟩=some (ze zd (C (j+1)))/\W.cell? ⟨tb,tx+j,none⟩=some (ze zd (C j)))) (by kernel_rfl) ?_ fun aa=> ?_
    ·exact⟨c1,c0⟩
    clear c0 c1;have BD:=hdn hD;clear hD BX;generalize wr.drew=wd at*;refine tkH 0 aa ?_;refine tkH 1 aa ?_;refine tkH 2 aa ?_;refine tkH 3 aa ?_;refine tkH 4 aa ?_;refine tkH 5 aa ?_;refine tkH 6 aa ?_;refine tkH 7 aa ?_;refine tkH 8 aa ?_;refine tkH 9 aa ?_;refine qF (by kernel_rfl) ?_ _;clear aa;go_wp2;go_roundw
    case rel=>exact⟨j+2,by omega,by omega,by first|rfl|go_num,BD.X⟩
    case measure=>simp[intOf];omega
   ·have Mr:N=j:=by omega
    subst Mr;have K8:=hdn (K7.X.below BX.X);have hq:Int.tdiv (N:Int) 2=((N / 2:Nat):Int):=by first|rfl|exact(Int.ofNat_tdiv N 2).symm|exact(Int.natCast_tdiv N 2).symm
    have pV:IntKind.i64.wrap ((N / 2:Nat):Int)=((N / 2:Nat):Int):=xz _ (by omega);obtain⟨h,HH⟩:=nmd (N / 2);rw[HH.X]at hq pV Ca;have QF:h<=N:=by have:=HH.X;omega
    obtain⟨d0,d1,d2,d3,d4⟩:=zc6 K8.X.b1;obtain⟨p0,p1⟩:=za1 K8.X.b2
    go_wp2_with fail
    refine(Ca.X _ _ _ K8.X).mono ?_;rintro e w8 ⟨ya,yn,yc,yk,yl,yd,SY,yv,b1,rfl,hb,-,-,-,-,-,-,gu,-⟩;obtain⟨ft,fc,e⟩:=zg7 gu;subst e;have CY:=hdn (dQ.X h);rw[CY.X]at gu⊢;have hA:Za w8.heap.size w8 (w8.alloc (zg #[za ya yn yc,za yk yl yd] 33)):=zP _;have tO:=hb.trans (hA.mono hb.size);have B9:=hdn (BX.X.trans (tO.mono BX.X.size));have F9:=hdn ((ze8 gu).below hA);clear hb gu hA tO BX K8 Ca d0 d1 d2 d3 d4 p0 p1
    go_wp2_with fail
    generalize w8.alloc _=w9 at*;have K9:=hdn (K7.X.below B9.X);have Q9:=hdn (Q7.X.below B9.X);have CU:=hdn (fun W (hW:Za w9.heap.size w9 W)=>CT.X W (B9.X.trans (hW.mono B9.X.size)));have L_:Zb (∀W,Za w9.heap.size w9 W->Zc zh 9 #[za ft (h+1) fc,za (some ⟨tb,tx,none⟩) (h+1) tc] W fun e w'=>e=.returned (.bool true)/\Za W.heap.size W w'):=fun W hW=>by
     have:=zr9 ft (some ⟨tb,tx,none⟩) fc tc (T h) (T h) W (F9.X.below hW) (fun j hj=>⟨tb,tx,rfl,by rw[CY.X]at hj;rw[Gt.X h j (by omega)];exact CU.X W hW j (by omega)⟩) (by have:=CY.X;omega);rw[CY.X,zW rfl]at this;exact this
    have Aq:Zb (∀W,Za w9.heap.size w9 W->(W.cell? ⟨k,0,none⟩=some (ze zd n)/\W.cell? ⟨k,1,none⟩=some (za (some ⟨g,0,none⟩) zl cg)/\W.cell? ⟨k,2,none⟩=some (za (some ⟨go,0,none⟩) ko co)/\W.cell? ⟨k,3,none⟩=some (za (some ⟨gv,0,none⟩) kv cv)/\W.cell? ⟨k,4,none⟩=some (ze zd fi))/\(W.cell? ⟨kp,0,none⟩=some (za ra nr rc)/\W.cell? ⟨kp,1,none⟩=some (za la m lc))/\(W.cell? ⟨kq,0,none⟩=some (za qa qn qc)/\W.cell? ⟨kq,1,none⟩=some (za qk ql qd))/\W.cell? ⟨tb,tx,none⟩=some (ze zd (C 0))/\W.cell? ⟨tb,tx+N,none⟩=some (ze zd (C N))):=fun W hW=>⟨zc6 (K9.X.below hW).b1,za1 (K9.X.below hW).b2,za1 (Q9.X.below hW).b,CU.X W hW 0 (xi _),CU.X W hW N (zT _)⟩;have iR:IntKind.i64.wrap ((N:Int)+1)=(N:Int)+1:=xz _ (by omega);have Qw:((N:Int)+1==(N:Int)+1)=true:=by simp
    have Qy:(C 0==C 0)=true:=by simp
    have Ra:(C N==C N)=true:=by simp
    have AD:(0:Int)<=(h:Int)+1:=by omega
    have Rs:(h:Int)+1<=(tc:Int):=by have:=Kt.X;omega
    have Rt:((h:Int)+1).toNat=h+1:=by omega
    have Qn:(N:Int)<(N:Int)+1:=by omega
    clear CT T7 Q7 K7 tL eO Gt Kt dQ;refine qG (S:=(fun W=>(W.cell? ⟨k,0,none⟩=some (ze zd n)/\W.cell? ⟨k,1,none⟩=some (za (some ⟨g,0,none⟩) zl cg)/\W.cell? ⟨k,2,none⟩=some (za (some ⟨go,0,none⟩) ko co)/\W.cell? ⟨k,3,none⟩=some (za (some ⟨gv,0,none⟩) kv cv)/\W.cell? ⟨k,4,none⟩=some (ze zd fi))/\(W.cell? ⟨kp,0,none⟩=some (za ra nr rc)/\W.cell? ⟨kp,1,none⟩=some (za la m lc))/\(W.cell? ⟨kq,0,none⟩=some (za qa qn qc)/\W.cell? ⟨kq,1,none⟩=some (za qk ql qd))/\W.cell? ⟨tb,tx,none⟩=some (ze zd (C 0))/\W.cell? ⟨tb,tx+N,none⟩=some (ze zd (C N)))) (by kernel_rfl) ?_ fun aa=> ?_
    ·exact Aq.X _ (y5 _ _).drew
    have BZ:=hdn ((y5 w9.heap.size w9).drew);generalize w9.drew=wd at*;refine tkH 0 aa ?_;refine tkH 1 aa ?_;refine tkH 2 aa ?_;refine tkH 3 aa ?_;refine tkH 4 aa ?_;refine tkH 5 aa ?_;refine tkH 6 aa ?_;refine tkH 7 aa ?_;refine tkH 8 aa ?_;refine tkH 9 aa ?_;refine tkH 10 aa ?_;refine rdH 11 fun K hK=> ?_;go_simp;refine(Nm.X _ (K9.X.below BZ.X)).mono ?_;rintro e wx ⟨rfl,hb⟩;have BY:=hdn (BZ.X.trans (hb.mono BZ.X.size));clear hb BZ;have BZ:=BY;clear BY
    (try go_wp2_with fail)
    refine hoW hK (Aq.X _ BZ.X) fun aa=> ?_;clear hK K;refine tkH 12 aa ?_;refine tkH 13 aa ?_;refine tkH 14 aa ?_;refine tkH 15 aa ?_;refine tkH 16 aa ?_;refine tkH 17 aa ?_;refine tkH 18 aa ?_;refine tkH 19 aa ?_;refine tkH 20 aa ?_;refine rdH 21 fun K hK=> ?_;go_simp;refine(Pm.X _ (K9.X.below BZ.X) (Q9.X.below BZ.X)).mono ?_;rintro e wx ⟨rfl,hb⟩;have BY:=hdn (BZ.X.trans (hb.mono BZ.X.size));clear hb BZ;have BZ:=BY;clear BY
    (try go_wp2_with fail)
    refine hoW hK (Aq.X _ BZ.X) fun aa=> ?_;clear hK K;refine tkH 22 aa ?_;refine tkH 23 aa ?_;refine tkH 24 aa ?_;refine tkH 25 aa ?_;refine tkH 26 aa ?_;refine rdH 27 fun K hK=> ?_;go_simp;refine(MB.X _ (K9.X.below BZ.X) (Q9.X.below BZ.X)).mono ?_;rintro e wx ⟨rfl,hb⟩;have BY:=hdn (BZ.X.trans (hb.mono BZ.X.size));clear hb BZ;have BZ:=BY;clear BY
    (try go_wp2_with fail)
    refine hoW hK (Aq.X _ BZ.X) fun aa=> ?_;clear hK K;refine tkH 28 aa ?_;refine tkH 29 aa ?_;refine tkH 30 aa ?_;refine tkH 31 aa ?_;refine tkH 32 aa ?_;refine tkH 33 aa ?_;refine tkH 34 aa ?_;refine rdH 35 fun K hK=> ?_;go_simp;refine(L_.X _ BZ.X).mono ?_;rintro e wx ⟨rfl,hb⟩;have BY:=hdn (BZ.X.trans (hb.mono BZ.X.size));clear hb BZ;have BZ:=BY;clear BY
    (try go_wp2_with fail)
    refine hoW hK (Aq.X _ BZ.X) fun aa=> ?_;clear hK K;refine tkH 36 aa ?_;refine tkH 37 aa ?_;refine qF (by kernel_rfl) ?_ _;clear aa;go_wp2;go_ret;exact⟨by first|rfl|simp,(K9.X.below BZ.X).b⟩
theorem zP6(a:Option Zd)(c:Nat)(bs:List Int)(w:zi)(hA:zO1 w a bs)(hl:bs.length<=9223372036854775807):
 Zc zh 3 #[za a bs.length c] w fun e w'=>e=.returned (.bool true)/\Za w.heap.size w w':=by
 by_cases h:bs.length<=1048576
 ·exact z29 a c bs w hA h
 ·exact z69 a c bs.length w hl (by omega)
