import Derived.Test.YtkchnomkiboihaaGreatPack36
import Derived.Test.YtkchnomkiboihaaGreatImplRebuilt
set_option linter.unusedSimpArgs false
set_option maxHeartbeats 8000000
namespace Go.Proofs.YtkchnomkiboihaaGreat
open Value renaming slice→za,int→zc,ownBlock→zm
open IntKind renaming i64→zb
open Obj renaming cells→zd
open Proofs.Tryz renaming prog→ze
open Go renaming World→zg
open Act renaming put→zi
open List renaming length→zj
open Go.RowKit
open Q
def yD5(w:zg)(K:Nat->Prop)(v:Int)(f:Bool)(T:List RT)(L:List Int)(e:Ending)(w':zg):Prop:=∃(ra2:Option Addr) (n2 rc2:Nat) (la2:Option Addr) (l2 lc2:Nat) (R2:List RT),e=.returned (.tuple #[.agg #[za ra2 n2 rc2,za la2 l2 lc2],zc zb v,.bool f])/\Below w.heap.size w w'/\R2.map RT.key=T.map RT.key/\zb8 w' ra2 la2 n2 l2 R2 L/\∀k,k<w.heap.size->K k->zj0 k ra2 la2 R2 L
theorem ya6(sd kk n fine:Int)(a ao av ra la:Option Addr)(zl cap ko co kv cv nr rc ln lc kb cb:Nat)(zs os vs L:List Int)(R:List RT)(w:zg)(hA:za3 w a zs)(hO:za3 w ao os)(hV:za3 w av vs)(hlz:zs.length=zl)(hlo:os.length=ko*6)(hlv:vs.length=kv*5)(hP:zb8 w ra la nr ln R L)(hB:deB sd kk n fine zs os vs ko kv R L=true)(hd:zu8 w kb cb kk #[zc zb n,za a zl cap,za ao ko co,za av kv cv,zc zb fine]):
 Calls ze 112 #[.agg #[za ra nr rc,za la ln lc],zc zb sd,.pointer (some ⟨kb,0,none⟩),.pointer (some ⟨cb,0,none⟩)] w (yD5 w (fun k=>zj0 k ra la R L) (deN sd kk n fine zs os vs ko kv R L) (deF sd kk n fine zs os vs ko kv R L) (deR sd kk n fine zs os vs ko kv R L) (deL sd kk n fine zs os vs ko kv R L)):=by
 obtain⟨h1,h2,h3⟩:=ym3 hB;have D:=zQ8 h1 h2 h3;have HCB:=(zb5 h1).1;have hko:ko<=12:=(zd9 (zb3 HCB).2.1).1;have hkv:kv<=5:=(zf6 (zb3 HCB).2.2.1).1;have hPP:=hP;obtain⟨p1,p2,p3,p4,p5,p6,p7⟩:=hP;have DA:=zF7 n fine sd kk a ao av ra la zl cap ko co kv cv nr rc ln lc kb cb zs os vs R L (deS R) (deP sd kk R) (deS R).length (deP sd kk R).length (min kk ((deS R).length:Int)) (z88 sd (deS R).length (min kk ((deS R).length:Int))) w hA hlz hO hV hlo hlv (by omega) (by omega) HCB p3 p1 p4 p2 (by have:=D.t;omega) (by rw[p1];exact p5) p6 p7 rfl rfl rfl rfl rfl rfl D.i D.d D.p D.m D.w hd.1 hd.2;refine DA.mono ?_;unfold deN deF deR deL;rw[hB];simp only[qY,qW];rintro e w' ⟨hb,⟨hz,ra2,n2,rc2,la2,l2,lc2,R2,L2,rfl,q1,q2,q3,q4,q5,q6,_,q8,q9,q10,q11⟩|⟨hz,rfl⟩⟩
 ·have hw:deW sd kk n fine zs os vs ko kv R L=0:=hz
  have q6':L2=(deQ sd kk R L).2:=q6;subst q6';rw[zV hw,zV hw,zS hw];exact⟨ra2,n2,rc2,la2,l2,lc2,R2,rfl,hb,q5,⟨q2,q4,q1,q3,by rw[<-q2];exact q9,q8,q10⟩,q11⟩
 ·have hw:¬deW sd kk n fine zs os vs ko kv R L=0:=hz
  rw[zW hw,zW hw,zU hw];exact⟨ra,nr,rc,la,ln,lc,R,rfl,hb,rfl,hPP.below hb,fun _ _ h=>h⟩
structure yH4(w:zg)(cs:Array Value)(SR:Nat->List RT)(SM:Nat->List Int)(SD:Nat->Int)(DR:Nat->List RT)(DM:Nat->List Int)(F:Nat->Bool)(YR:Nat->List RT)(YM:Nat->List Int)(YC C:Nat->Int):Prop where
 dest:∀(i:Nat) (W:zg) (ra la:Option Addr) (nr rc ln lc kb cb:Nat) (R:List RT),Below w.heap.size w W->zb8 W ra la nr ln R (SM i)->R.map RT.key=(SR i).map RT.key->zu8 W kb cb (seK i) cs->Calls ze 112 #[.agg #[za ra nr rc,za la ln lc],zc zb (SD i),.pointer (some ⟨kb,0,none⟩),.pointer (some ⟨cb,0,none⟩)] W (yD5 W (fun k=>zj0 k ra la R (SM i)) (SD (i+1)) (F i) (DR i) (DM i))
 reb:∀(i:Nat) (W:zg) (ra la:Option Addr) (nr rc ln lc:Nat) (R:List RT),F i=true->Below w.heap.size w W->zb8 W ra la nr ln R (DM i)->R.map RT.key=(DR i).map RT.key->Calls ze 36 #[.agg cs,.agg #[za ra nr rc,za la ln lc]] W (yB2 W (fun k=>zj0 k ra la R (DM i)) (YR i) (YM i))
 cost:∀(i:Nat) (W:zg) (ra la:Option Addr) (nr rc ln lc:Nat) (R:List RT),F i=true->Below w.heap.size w W->zb8 W ra la nr ln R (YM i)->R.map RT.key=(YR i).map RT.key->Calls ze 35 #[.agg cs,.agg #[za ra nr rc,za la ln lc]] W fun e w'=>e=.returned (zc zb (YC i))/\Below W.heap.size W w'
 yes:∀i,F i=true->YC i<C i->SR (i+1)=YR i/\SM (i+1)=YM i/\C (i+1)=YC i
 no:∀i,(F i=true->¬YC i<C i)->SR (i+1)=SR i/\SM (i+1)=SM i/\C (i+1)=C i
theorem zI1(n fine:Int)(a ao av ra la:Option Addr)(zl cap ko co kv cv nr rc ln lc:Nat)(zs os vs L:List Int)(R:List RT)(w:zg)(hA:za3 w a zs)(hO:za3 w ao os)(hV:za3 w av vs)(hlz:zs.length=zl)(hlo:os.length=ko*6)(hlv:vs.length=kv*5)(hP:zb8 w ra la nr ln R L)(hpl:zc3 n zs os vs ko kv fine R L=0):
 Calls ze 35 #[.agg #[zc zb n,za a zl cap,za ao ko co,za av kv cv,zc zb fine],.agg #[za ra nr rc,za la ln lc]] w fun e w'=>e=.returned (zc zb (zw1 n zs os vs ko kv fine R L))/\Below w.heap.size w w':=by
 have HCB:=(zb5 hpl).1;have hko:ko<=12:=(zd9 (zb3 HCB).2.1).1;have hkv:kv<=5:=(zf6 (zb3 HCB).2.2.1).1;obtain⟨p1,p2,p3,p4,p5,p6,p7⟩:=hP;have:=zQ4 n fine a ao av ra la cap ko co kv cv rc lc zs os vs L R w hA hO hV p3 hlo hlv (by omega) (by omega) p7 hpl;rw[hlz,p1,p2]at this;unfold zw1;rw[zV hpl,p1,p2];exact this
theorem yJ2(sd n fine:Int)(a ao av:Option Addr)(zl cap ko co kv cv:Nat)(zs os vs L:List Int)(R:List RT)(w:zg)(hA:za3 w a zs)(hO:za3 w ao os)(hV:za3 w av vs)(hlz:zs.length=zl)(hlo:os.length=ko*6)(hlv:vs.length=kv*5)(hpl:zc3 n zs os vs ko kv fine R L=0)(hs:inB sd 0 2147483647=true):
 ∃(DR:Nat->List RT) (DM:Nat->List Int) (F:Nat->Bool) (YR:Nat->List RT) (YM:Nat->List Int) (YC:Nat->Int),yH4 w #[zc zb n,za a zl cap,za ao ko co,za av kv cv,zc zb fine] (fun i=>(seP sd n fine zs os vs ko kv R L i).1.1) (fun i=>(seP sd n fine zs os vs ko kv R L i).1.2) (fun i=>(seP sd n fine zs os vs ko kv R L i).2) DR DM F YR YM YC (seC sd n fine zs os vs ko kv R L):=by
 obtain⟨P,hP⟩:∃P,P=seP sd n fine zs os vs ko kv R L:=⟨_,rfl⟩;have held:∀i,zc3 n zs os vs ko kv fine (P i).1.1 (P i).1.2=0/\inB (P i).2 0 2147483647=true:=by rw[hP];exact zC5 hpl hs
 have hstep:∀i,P (i+1)=(seN (P i).2 (seK i) n fine zs os vs ko kv (P i).1.1 (P i).1.2,deN (P i).2 (seK i) n fine zs os vs ko kv (P i).1.1 (P i).1.2):=fun i=>by rw[hP];rfl
 have hC:∀i,seC sd n fine zs os vs ko kv R L i=zw1 n zs os vs ko kv fine (P i).1.1 (P i).1.2:=fun i=>by rw[hP];rfl
 rw[<-hP];have hB:∀i,deB (P i).2 (seK i) n fine zs os vs ko kv (P i).1.1 (P i).1.2=true:=fun i=>y90 (held i).1 (yA5 i) (held i).2;refine⟨fun i=>deR (P i).2 (seK i) n fine zs os vs ko kv (P i).1.1 (P i).1.2,fun i=>deL (P i).2 (seK i) n fine zs os vs ko kv (P i).1.1 (P i).1.2,fun i=>deF (P i).2 (seK i) n fine zs os vs ko kv (P i).1.1 (P i).1.2,fun i=>(seD (P i).2 (seK i) n fine zs os vs ko kv (P i).1.1 (P i).1.2).1,fun i=>(seD (P i).2 (seK i) n fine zs os vs ko kv (P i).1.1 (P i).1.2).2,fun i=>zw1 n zs os vs ko kv fine (seD (P i).2 (seK i) n fine zs os vs ko kv (P i).1.1 (P i).1.2).1 (seD (P i).2 (seK i) n fine zs os vs ko kv (P i).1.1 (P i).1.2).2,?_,?_,?_,?_,?_⟩
 ·intro i W ra la nr rc ln lc kb cb R2 hW hp hk hd
  have h:=ya6 (P i).2 (seK i) n fine a ao av ra la zl cap ko co kv cv nr rc ln lc kb cb zs os vs (P i).1.2 R2 W (hA.below hW) (hO.below hW) (hV.below hW) hlz hlo hlv hp (by rw[zE6 _ _ _ _ _ _ _ _ _ _ hk];exact hB i) hd;rw[yc5 _ _ _ _ _ _ _ _ _ _ hk,yd1 _ _ _ _ _ _ _ _ _ _ hk,yg4 _ _ _ _ _ _ _ _ _ _ hk]at h;refine h.mono ?_;rintro e w' ⟨ra2,n2,rc2,la2,l2,lc2,R3,rfl,hb,hk3,hp3,ho3⟩;refine⟨ra2,n2,rc2,la2,l2,lc2,R3,?_,hb,hk3.trans (yg2 _ _ _ _ _ _ _ _ _ _ hk),hp3,ho3⟩;simp only[hstep]
 ·intro i W ra la nr rc ln lc R2 hf hW hp hk
  have hd:=(zC8 hf).2.2;have h:=ye4 n fine a ao av ra la zl cap ko co kv cv nr rc ln lc zs os vs _ R2 W (hA.below hW) (hO.below hW) (hV.below hW) hlz hlo hlv hp (by rw[zd2 _ hk];exact hd);refine h.mono ?_;obtain⟨k1,k2⟩:=yv7 (n:=n) (fine:=fine) (zs:=zs) (os:=os) (vs:=vs) (ko:=ko) (kv:=kv) (deL (P i).2 (seK i) n fine zs os vs ko kv (P i).1.1 (P i).1.2) hk;rintro e w' ⟨ra2,n2,rc2,la2,l2,lc2,R3,rfl,hb,hk3,hp3,ho3⟩;rw[k2]at hp3 ho3;exact⟨ra2,n2,rc2,la2,l2,lc2,R3,rfl,hb,hk3.trans k1,hp3,ho3⟩
 ·intro i W ra la nr rc ln lc R2 hf hW hp hk
  have hy:=ym1 (zC8 hf).2.2;have h:=zI1 n fine a ao av ra la zl cap ko co kv cv nr rc ln lc zs os vs _ R2 W (hA.below hW) (hO.below hW) (hV.below hW) hlz hlo hlv hp (by rw[zd2 _ hk];exact hy);rw[zu1 _ hk]at h;exact h
 ·intro i hf hlt
  rw[hC]at hlt;have hb:seB (P i).2 (seK i) n fine zs os vs ko kv (P i).1.1 (P i).1.2=true:=by
   unfold seB;rw[zY,qZ];exact⟨hf,hlt⟩
  have e:(P (i+1)).1=seD (P i).2 (seK i) n fine zs os vs ko kv (P i).1.1 (P i).1.2:=by
   rw[hstep];show seN _ _ _ _ _ _ _ _ _ _ _=_;unfold seN;rw[hb,qY]
  exact⟨by rw[e],by rw[e],by rw[hC,e]⟩
 ·intro i hno
  have hb:seB (P i).2 (seK i) n fine zs os vs ko kv (P i).1.1 (P i).1.2=false:=by
   rw[<-Bool.not_eq_true];unfold seB;rw[zY,qZ];exact fun h=>hno h.1 (by rw[hC];exact h.2)
  have e:(P (i+1)).1=(P i).1:=by
   rw[hstep];show seN _ _ _ _ _ _ _ _ _ _ _=_;unfold seN;rw[hb];rfl
  exact⟨by rw[e],by rw[e],by rw[hC,hC,e]⟩
theorem z13{W W':zg}{z k i:Nat}{v:Value}(hg:W.grownBy W' (some z))(hk:k≠z)(hv:W.cell? ⟨k,i,none⟩=some v):W'.cell? ⟨k,i,none⟩=some v:=by
 have h9:=hg.block k (zT hv) (fun e=>hk (by injection e));unfold World.cell? at hv⊢;simp only at hv⊢;rw[h9];exact hv
theorem zF0{W W':zg}{z:Nat}{a:Option Addr}{xs:List Int}(h:za3 W a xs)(hg:W.grownBy W' (some z))(ho:xs≠[]->∀b off,a=some ⟨b,off,none⟩->b≠z):za3 W' a xs:=fun j hj=>by
 obtain⟨b,off,e,h1⟩:=h j hj;exact⟨b,off,e,z13 hg (ho (zr8 hj) b off e) h1⟩
theorem zb8.grownL{W W':zg}{z:Nat}{ra la:Option Addr}{rn ln:Nat}{R:List RT}{L:List Int}(h:zb8 W ra la rn ln R L)(hg:W.grownBy W' (some z))(ho:zj0 z ra la R L):zb8 W' ra la rn ln R L:=by
 refine⟨h.1,h.2.1,fun j hj=> ?_,zF0 h.2.2.2.1 hg ho.2.1,h.2.2.2.2⟩;obtain⟨b,off,e,h1,h2,h3⟩:=h.2.2.1 j hj;have hm:R.getD j rt0∈R:=by rw[zM,zO hj];simp
 have hne:=zr8 hj;exact⟨b,off,e,z13 hg (ho.1 hne b off e) h1,z13 hg (ho.1 hne b off e) h2,zF0 h3 hg (ho.2.2 _ hm)⟩
theorem GQ.grownL{w W W':zg}{z:Nat}{cs ps:Array Value}(h:GQ w W cs ps)(hg:W.grownBy W' (some z))(hz:w.heap.size+3<=z):GQ w W' cs ps:=by
 have hs:=h.size;have hr:∀k o,k<w.heap.size+3->W.heap[k]? =some o->W'.heap[k]? =some o:=fun k o hk e=>(hg.block k (za2 e) (fun e9=>by injection e9 with e9;omega)).trans e
 exact⟨h.b.grown hg h.b.size (fun k e=>by injection e with e;omega),hr _ _ (by omega) h.c,hr _ _ (by omega) h.p,hr _ _ (by omega) h.o⟩
theorem GQ.plan{w W:zg}{cs:Array Value}{x0 x1:Value}(h:GQ w W cs #[x0,x1])(u v:Value):GQ w ((W.setCell ⟨w.heap.size+1,0,none⟩ u).setCell ⟨w.heap.size+1,1,none⟩ v) cs #[u,v]:=
 ⟨(h.b.setCell (by simp) _).setCell (by simp) _,za6 (za6 h.c (by omega)) (by omega),zi8 h.p,za6 (za6 h.o (by omega)) (by omega)⟩
def zU4(w:zg)(f:Bool)(X:List Int)(T:List RT)(L:List Int)(e:Ending)(w':zg):Prop:=∃ra rn rc la ln lc S tv b0,e=.returned (.tuple #[.agg #[za ra rn rc,za la ln lc],tv,.bool f])/\Below w.heap.size w w'/\S.length=rn/\L.length=ln/\S.map RT.key=T.map RT.key/\w.heap.size<=b0/\PO w' b0 (za ra rn rc) S (za la ln lc) L/\zx6 S la/\w'.ownsRow w.heap.size 2 1 tv X.length (X.map (zc zb))/\∀z,tv.ownBlock=some z->z<b0
set_option maxRecDepth 10000 in
theorem zB0(sd st n fine:Int)(a ao av ra la:Option Addr)(zl cap ko co kv cv nr rc ln lc:Nat)(zs os vs L:List Int)(R:List RT)(w:zg)(hA:za3 w a zs)(hO:za3 w ao os)(hV:za3 w av vs)(hlz:zs.length=zl)(hlo:os.length=ko*6)(hlv:vs.length=kv*5)(hko:ko<=9223372036854775807)(hkv:kv<=9223372036854775807)(hP:zb8 w ra la nr ln R L)(hn:nr<=1048576)(hi:∀r∈R,r.ids.length<=1048576)(hll:ln<=1048576)(hal:(za8 R R.length).length<=1048576)(hwl:∀x∈L,(Lit.int zb x).wf=true):
 Calls ze 7 #[.agg #[zc zb n,za a zl cap,za ao ko co,za av kv cv,zc zb fine],.agg #[za ra nr rc,za la ln lc],zc zb sd,zc zb st] w (zU4 w (sgB sd st n fine zs os vs ko kv R L) (sgT sd st n fine zs os vs ko kv R L) (sgR sd st n fine zs os vs ko kv R L) (sgL sd st n fine zs os vs ko kv R L)):=by
 have HA:=za4 hA;have HO:=za4 hO;have HV:=za4 hV;have HLZ:=za4 hlz;have HLO:=za4 hlo;have HLV:=za4 hlv;have HP:=za4 hP;have HN:Hid (R.length=nr):=hP.1;have HM:Hid (L.length=ln):=hP.2.1;have HI:=za4 hi;clear hA hO hV hlz hlo hlv hP hi;obtain⟨pv,HPV⟩:=nmd (zc3 n zs os vs ko kv fine R L);obtain⟨k1,HK1⟩:=nmd (inB st 0 60);obtain⟨s1,HS1⟩:=nmd (inB sd 0 2147483647);have HDB:Hid (sgB sd st n fine zs os vs ko kv R L=(decide (pv=0)&&(k1&&s1))):=by show _=_;unfold sgB;rw[HPV.X,HK1.X,HS1.X]
 have HBD:=yH3 sd st n fine zs os vs ko kv R L;obtain⟨GB,HGB⟩:=nmd (sgB sd st n fine zs os vs ko kv R L);have HNO:Hid (GB=false->sgR sd st n fine zs os vs ko kv R L=[]/\sgL sd st n fine zs os vs ko kv R L=[]/\sgT sd st n fine zs os vs ko kv R L=[]):=fun h=>by
  unfold sgR sgL sgT;rw[HGB.X,h];exact⟨rfl,rfl,rfl⟩
 have HYS:Hid (GB=true->sgR sd st n fine zs os vs ko kv R L=(seP sd n fine zs os vs ko kv R L st.toNat).1.1/\sgL sd st n fine zs os vs ko kv R L=(seP sd n fine zs os vs ko kv R L st.toNat).1.2/\sgT sd st n fine zs os vs ko kv R L=seT sd n fine zs os vs ko kv R L st.toNat):=fun h=>by
  unfold sgR sgL sgT;rw[HGB.X,h];exact⟨rfl,rfl,rfl⟩
 obtain⟨GR,HGR⟩:=nmd (sgR sd st n fine zs os vs ko kv R L);obtain⟨GL,HGL⟩:=nmd (sgL sd st n fine zs os vs ko kv R L);obtain⟨GT,HGT⟩:=nmd (sgT sd st n fine zs os vs ko kv R L);rw[HGR.X,HGL.X]at HBD;have HGI:=za4 HBD;rw[HGR.X,HGL.X,HGT.X]at HNO HYS;rw[HGB.X]at HDB;rw[HGB.X,HGR.X,HGL.X,HGT.X];clear HBD HGB HGR HGL HGT;have Q0:Hid (GQ w (((w.alloc (zd #[zc zb n,za a zl cap,za ao ko co,za av kv cv,zc zb fine] 30)).alloc (zd #[za ra nr rc,za la ln lc] 33)).alloc (zd #[za none 0 0,za none 0 0] 33)) #[zc zb n,za a zl cap,za ao ko co,za av kv cv,zc zb fine] #[za ra nr rc,za la ln lc]):=by
  refine⟨((zK _).alloc (by simp) _).alloc (by simp;omega) _,?_,?_,?_⟩
  ·exact(yY _ _ (by simp;omega)).trans (xb _ _ _)
  ·exact(yY _ _ (by simp)).trans (y8 _ _ _)
  ·have:=zN ((w.alloc (zd #[zc zb n,za a zl cap,za ao ko co,za av kv cv,zc zb fine] 30)).alloc (zd #[za ra nr rc,za la ln lc] 33)) (zd #[za none 0 0,za none 0 0] 33)
   simpa using this
 have PC:=zV6 n fine a ao av ra la cap ko co kv cv rc lc zs os vs L R (((w.alloc (zd #[zc zb n,za a zl cap,za ao ko co,za av kv cv,zc zb fine] 30)).alloc (zd #[za ra nr rc,za la ln lc] 33)).alloc (zd #[za none 0 0,za none 0 0] 33)) (HA.X.below Q0.X.b) (HO.X.below Q0.X.b) (HV.X.below Q0.X.b) (HP.X.2.2.1.below Q0.X.b) (HP.X.2.2.2.1.below Q0.X.b) HLO.X HLV.X hko hkv (by rw[HN.X];exact hn) HI.X HP.X.2.2.2.2.2.2 (by rw[HM.X];exact hll) hal hwl;rw[HN.X,HM.X,HLZ.X,HPV.X]at PC;obtain⟨c0,c1,c2,c3,c4⟩:=za7 Q0.X.c;obtain⟨p0,p1⟩:=za1 Q0.X.p;go_enter Tryz.func7,Tryz.ntmps7
 go_wp2_with fail
 generalize((w.alloc (zd #[zc zb n,za a zl cap,za ao ko co,za av kv cv,zc zb fine] 30)).alloc (zd #[za ra nr rc,za la ln lc] 33)).alloc (zd #[za none 0 0,za none 0 0] 33)=W0 at*;refine PC.mono ?_;rintro e w1 ⟨rfl,hb⟩;have Q1:=za4 (Q0.X.below hb);clear hb PC c0 c1 c2 c3 c4 p0 p1 Q0;by_cases hpv:pv=0
 ·subst hpv
  rw[zS rfl,qW]at HDB;cases k1
  ·obtain⟨a0,a1⟩:=za1 Q1.X.o
   have af:=fun i=>yU _ _ i _ _ Q1.X.o;have B5:Hid (Below w.heap.size w ((w1.setCell ⟨w.heap.size+2,0,none⟩ (za none 0 0)).setCell ⟨w.heap.size+2,1,none⟩ (za none 0 0))):=(Q1.X.b.setCell (by simp) _).setCell (by simp) _;have HBF:GB=false:=by rw[HDB.X];try rfl
   subst HBF;obtain⟨g2,g3,g4⟩:=HNO.X rfl;subst g2 g3 g4;clear HNO HYS
   go_wp2_with(first|(go_at_call 32;refine(zc1 _ _ _ _).mono ?_;rintro e w' ⟨rfl,hw'⟩;subst w';rw[HK1.X])|(go_at_call 33;refine(zl7 _ _).mono ?_;rintro e w' ⟨rfl,hw'⟩;subst w';rw[HS1.X]))
   refine yX (v:=.tuple #[.agg #[za none 0 0,za none 0 0],za none 0 0,.bool false]) (by simp[results,Tryz.results7,go_sem,a0,a1]) rfl ?_;show zU4 _ _ _ _ _ _ _;exact⟨none,0,0,none,0,0,[],za none 0 0,w.heap.size,rfl,B5.X,rfl,rfl,rfl,zQ _,⟨qP _ _ _ _,(fun s hs=>by cases hs),qP _ _ _ _⟩,zx6.nil _,qP _ _ _ _,fun z hz=>by cases hz⟩
  ·cases s1
   ·obtain⟨a0,a1⟩:=za1 Q1.X.o
    have af:=fun i=>yU _ _ i _ _ Q1.X.o;have B5:Hid (Below w.heap.size w ((w1.setCell ⟨w.heap.size+2,0,none⟩ (za none 0 0)).setCell ⟨w.heap.size+2,1,none⟩ (za none 0 0))):=(Q1.X.b.setCell (by simp) _).setCell (by simp) _;have HBF:GB=false:=by rw[HDB.X];try rfl
    subst HBF;obtain⟨g2,g3,g4⟩:=HNO.X rfl;subst g2 g3 g4;clear HNO HYS
    go_wp2_with(first|(go_at_call 32;refine(zc1 _ _ _ _).mono ?_;rintro e w' ⟨rfl,hw'⟩;subst w';rw[HK1.X])|(go_at_call 33;refine(zl7 _ _).mono ?_;rintro e w' ⟨rfl,hw'⟩;subst w';rw[HS1.X]))
    refine yX (v:=.tuple #[.agg #[za none 0 0,za none 0 0],za none 0 0,.bool false]) (by simp[results,Tryz.results7,go_sem,a0,a1]) rfl ?_;show zU4 _ _ _ _ _ _ _;exact⟨none,0,0,none,0,0,[],za none 0 0,w.heap.size,rfl,B5.X,rfl,rfl,rfl,zQ _,⟨qP _ _ _ _,(fun s hs=>by cases hs),qP _ _ _ _⟩,zx6.nil _,qP _ _ _ _,fun z hz=>by cases hz⟩
   ·have HBT:GB=true:=HDB.X
    subst HBT;clear HNO HDB;obtain⟨ys1,ys2,ys3⟩:=HYS.X rfl;clear HYS;have hst:=zc7 HK1.X;obtain⟨N,hN⟩:=xm hst.1;have hN60:N<=60:=by omega
    subst hN;rw[yk]at ys1 ys2 ys3;obtain⟨DR,DM,F,YR,YM,YC,ST0⟩:=yJ2 sd n fine a ao av zl cap ko co kv cv zs os vs L R w HA.X HO.X HV.X HLZ.X HLO.X HLV.X HPV.X HS1.X;have CP:Hid (∀W,Below w.heap.size w W->Calls ze 35 #[.agg #[zc zb n,za a zl cap,za ao ko co,za av kv cv,zc zb fine],.agg #[za ra nr rc,za la ln lc]] W fun e w'=>e=.returned (zc zb (seC sd n fine zs os vs ko kv R L 0))/\Below W.heap.size W w'):=fun W hW=>
     zI1 n fine a ao av ra la zl cap ko co kv cv nr rc ln lc zs os vs L R W (HA.X.below hW) (HO.X.below hW) (HV.X.below hW) HLZ.X HLO.X HLV.X (HP.X.below hW) HPV.X
    have T0:seT sd n fine zs os vs ko kv R L 0=[seC sd n fine zs os vs ko kv R L 0]:=rfl;have TS0:=yl5 sd n fine zs os vs ko kv R L;have TL0:=yh3 sd n fine zs os vs ko kv R L;have SR0:(seP sd n fine zs os vs ko kv R L 0).1.1=R:=rfl;have SM0:(seP sd n fine zs os vs ko kv R L 0).1.2=L:=rfl;have SD0:(seP sd n fine zs os vs ko kv R L 0).2=sd:=rfl;obtain⟨C,HC⟩:=nmd (seC sd n fine zs os vs ko kv R L);obtain⟨T,HT⟩:=nmd (seT sd n fine zs os vs ko kv R L);obtain⟨SR,HSR⟩:=nmd (fun i=>(seP sd n fine zs os vs ko kv R L i).1.1);obtain⟨SM,HSM⟩:=nmd (fun i=>(seP sd n fine zs os vs ko kv R L i).1.2);obtain⟨SD,HSD⟩:=nmd (fun i=>(seP sd n fine zs os vs ko kv R L i).2);rw[HC.X,HSR.X,HSM.X,HSD.X]at ST0;rw[HC.X]at CP T0 TS0;rw[HT.X]at T0 TS0 TL0 ys3;rw[congrFun HSR.X 0]at SR0;rw[congrFun HSM.X 0]at SM0;rw[congrFun HSD.X 0]at SD0;rw[congrFun HSR.X N]at ys1;rw[congrFun HSM.X N]at ys2;have ST:Hid _:=ST0;have TS:=za4 TS0;have TL:=za4 TL0;have TZ:=za4 T0;subst ys1 ys2 ys3;subst SR0 SM0 SD0;clear ST0 TS0 TL0 T0 HC HT HSR HSM HSD hst HPV hal hwl HI;obtain⟨c0,c1,c2,c3,c4⟩:=za7 Q1.X.c;obtain⟨p0,p1⟩:=za1 Q1.X.p
    go_wp2_with(first|(go_at_call 32;refine(zc1 _ _ _ _).mono ?_;rintro e w' ⟨rfl,hw'⟩;subst w';rw[HK1.X])|(go_at_call 33;refine(zl7 _ _).mono ?_;rintro e w' ⟨rfl,hw'⟩;subst w';rw[HS1.X]))
    clear c0 c1 c2 c3 c4 p0 p1;refine(zB2 n fine a ao av zl cap ko co kv cv w1).mono ?_;rintro e w2 ⟨g,rfl,hb,hd⟩;have Q2:=za4 (Q1.X.below hb);obtain⟨m2,HM2⟩:=nmd w2.heap.size;obtain⟨b1,HB1⟩:=nmd w1.heap.size;have hb1:w.heap.size+3<=b1:=by rw[<-HB1.X];exact Q1.X.size
    have hb2:b1<=m2:=by rw[<-HB1.X,<-HM2.X];exact hb.size
    rw[HM2.X,HB1.X]at hd;have D2:=za4 hd;clear hb hd Q1;obtain⟨c0,c1,c2,c3,c4⟩:=za7 Q2.X.c;obtain⟨p0,p1⟩:=za1 Q2.X.p
    go_wp2_with fail
    refine(CP.X w2 Q2.X.b).mono ?_;rintro e w3 ⟨rfl,hb⟩;have Q3:=za4 (Q2.X.below hb);have D3:=za4 (D2.X.below hb);have h23:m2<=w3.heap.size:=by rw[<-HM2.X];exact hb.size
    have P3:=za4 (HP.X.below Q3.X.b);clear hb Q2 D2 CP c0 c1 c2 c3 c4 p0 p1 HP;have hA4:Below w3.heap.size w3 (w3.alloc (zd #[zc zb (C 0)] 2)):=zK _;have Q4:=za4 (Q3.X.below hA4);have D4:=za4 (D3.X.below hA4);have P4:=za4 (P3.X.below hA4);have O4:Hid ((w3.alloc (zd #[zc zb (C 0)] 2)).ownsRow m2 2 1 (za (some ⟨w3.heap.size,0,none⟩) 1 1) (0+1) ((T 0).map (zc zb))):=by
     show World.ownsRow _ _ _ _ _ _ _;rw[TZ.X];exact⟨rfl,.inr ⟨w3.heap.size,1,#[zc zb (C 0)],rfl,h23,zN _ _,by simp[maxLen]⟩⟩
    have F4:Hid (zj0 w3.heap.size ra la (SR 0) (SM 0)):=P3.X.far (zQ _);obtain⟨c0,c1,c2,c3,c4⟩:=za7 Q3.X.c
    go_wp2_with fail
    clear c0 c1 c2 c3 c4;clear Q3 D3 P3 hA4 TZ;go_loopw[2,12,13,42] (fun s2 s12 s13 t wr=>∃(i:Nat) (ra9 la9:Option Addr) (rn9 rc9 ln9 lc9 z9 c9:Nat) (R9:List RT),i<=N/\t=zc zb i/\s2=zc zb (SD i)/\s12=zc zb (C i)/\GQ w wr #[zc zb n,za a zl cap,za ao ko co,za av kv cv,zc zb fine] #[za ra9 rn9 rc9,za la9 ln9 lc9]/\zj1 wr b1 m2 g #[zc zb n,za a zl cap,za ao ko co,za av kv cv,zc zb fine]/\zb8 wr ra9 la9 rn9 ln9 R9 (SM i)/\R9.map RT.key=(SR i).map RT.key/\s13=za (some ⟨z9,0,none⟩) (i+1) c9/\wr.ownsRow m2 2 1 (za (some ⟨z9,0,none⟩) (i+1) c9) (i+1) ((T i).map (zc zb))/\zj0 z9 ra9 la9 R9 (SM i)) (fun _ _ _ t _=>N - (intOf t).toNat)
    case atStart=>exact⟨0,ra,la,nr,rc,ln,lc,w3.heap.size,1,SR 0,yZ _,rfl,rfl,rfl,Q4.X,D4.X,P4.X,rfl,rfl,O4.X,F4.X⟩
    case round=>
     clear Q4 D4 P4 O4 F4;obtain⟨i,ra9,la9,rn9,rc9,ln9,lc9,z9,c9,R9,hi,rfl,rfl,rfl,hq,hd,hp,hk,rfl,ho,hf⟩:=hrel;have Q5:=za4 hq;have D5:=za4 hd;have P5:=za4 hp;have K5:=za4 hk;have O5:=za4 ho;have F5:=za4 hf;clear hq hd hp hk ho hf;by_cases hlt:i<N
     ·have hj3:i % 3<3:=Nat.mod_lt _ (by omega)
      obtain⟨kb,cb,hlm,hfv,hda⟩:=D5.X.2 (i % 3) hj3;have hrem:Int.tmod (i:Int) 3=((i % 3:Nat):Int):=by first|rfl|exact(Int.ofNat_tmod i 3).symm|exact(Int.natCast_tmod i 3).symm
      have DS:Hid (∀W,Below wr.heap.size wr W->Calls ze 112 #[.agg #[za ra9 rn9 rc9,za la9 ln9 lc9],zc zb (SD i),.pointer (some ⟨kb,0,none⟩),.pointer (some ⟨cb,0,none⟩)] W (yD5 W (fun k=>zj0 k ra9 la9 R9 (SM i)) (SD (i+1)) (F i) (DR i) (DM i))):=fun W hW=>
       ST.X.dest i W ra9 la9 rn9 rc9 ln9 lc9 kb cb R9 (Q5.X.b.trans (hW.mono Q5.X.b.size)) (P5.X.below hW) K5.X (hda.below hW)
      have hz9:z9<wr.heap.size:=(O5.X.lt z9 rfl).2;have hltI:(i:Int)<(N:Int):=by omega
      obtain⟨j,HJ⟩:=nmd (i % 3);rw[HJ.X]at hj3 hrem hfv;have hj3I:(j:Int)<3:=by omega
      have HREM:=za4 hrem;have KS:Hid (∀W,Below wr.heap.size wr W->((W.cell? ⟨w.heap.size,0,none⟩=some (zc zb n)/\W.cell? ⟨w.heap.size,1,none⟩=some (za a zl cap)/\W.cell? ⟨w.heap.size,2,none⟩=some (za ao ko co)/\W.cell? ⟨w.heap.size,3,none⟩=some (za av kv cv)/\W.cell? ⟨w.heap.size,4,none⟩=some (zc zb fine))/\(W.cell? ⟨w.heap.size+1,0,none⟩=some (za ra9 rn9 rc9)/\W.cell? ⟨w.heap.size+1,1,none⟩=some (za la9 ln9 lc9))/\W.cell? ⟨g,j,none⟩=some (.func (.func 112) #[] #[.pointer (some ⟨kb,0,none⟩),.pointer (some ⟨cb,0,none⟩)]))):=fun W hW=>⟨za7 (Q5.X.below hW).c,za1 (Q5.X.below hW).p,(hW.cell (p:=⟨g,j,none⟩) (zT hfv)).trans hfv⟩;clear hda hlm hfv;go_upto_region 9 with fail;go_cut [15,16,17]from 45 to 58 (fun s15 s16 s17 wx=>∃(kz:Nat) (ra2:Option Addr) (n2 rc2:Nat) (la2:Option Addr) (l2 lc2:Nat) (R2:List RT),s15=.pointer (some ⟨kz,0,none⟩)/\s16=zc zb (SD (i+1))/\s17=.bool (F i)/\Below wr.heap.size wr wx/\wr.heap.size<=kz/\wx.heap[kz]? =some (zd #[za ra2 n2 rc2,za la2 l2 lc2] 33 (0,0))/\zb8 wx ra2 la2 n2 l2 R2 (DM i)/\R2.map RT.key=(DR i).map RT.key/\zj0 z9 ra2 la2 R2 (DM i))
      case first=>
       go_wp2_with fail
       refine qV (S:=(fun W=>((W.cell? ⟨w.heap.size,0,none⟩=some (zc zb n)/\W.cell? ⟨w.heap.size,1,none⟩=some (za a zl cap)/\W.cell? ⟨w.heap.size,2,none⟩=some (za ao ko co)/\W.cell? ⟨w.heap.size,3,none⟩=some (za av kv cv)/\W.cell? ⟨w.heap.size,4,none⟩=some (zc zb fine))/\(W.cell? ⟨w.heap.size+1,0,none⟩=some (za ra9 rn9 rc9)/\W.cell? ⟨w.heap.size+1,1,none⟩=some (za la9 ln9 lc9))/\W.cell? ⟨g,j,none⟩=some (.func (.func 112) #[] #[.pointer (some ⟨kb,0,none⟩),.pointer (some ⟨cb,0,none⟩)])))) (by kernel_rfl) ?_ (fun hHeld=> ?_)
       ·exact KS.X _ (yV _ _).drew
       have B_d:Hid (Below wr.heap.size wr wr.drew):=(yV _ _).drew;generalize wr.drew=wd at*;refine tkH 0 hHeld ?_;refine tkH 1 hHeld ?_;refine tkH 2 hHeld ?_;refine tkH 3 hHeld ?_;refine tkH 4 hHeld ?_;refine tkH 5 hHeld ?_;refine tkH 6 hHeld ?_;refine tkH 7 hHeld ?_;refine tkH 8 hHeld ?_;refine qT (rs:=[9,14]) (by kernel_rfl) (by simp) ?_;refine qR rfl (fun K hK=> ?_) ?_
       ·skip
        go_simp;refine(DS.X wd B_d.X).mono ?_;rintro e w2 ⟨ra2,n2,rc2,la2,l2,lc2,R2,rfl,hb,hk2,hp2,hof⟩;have B_w2:Hid (Below wr.heap.size wr w2):=B_d.X.trans (hb.mono B_d.X.size);have P_w2:=za4 hp2;have KX:=za4 hk2;have OX:Hid (zj0 z9 ra2 la2 R2 (DM i)):=hof z9 (xh hz9 B_d.X.size) F5.X;clear hb hk2 hp2 hof
        (try go_wp2_with fail)
        refine hK.out _ _ ?_ (fun hHeld=> ?_)
        ·exact KS.X _ B_w2.X
        clear hK K
        (try simp only[zi,xB,zL,xC])
        refine tkH 10 hHeld ?_;refine tkH 11 hHeld ?_;refine tkH 12 hHeld ?_;refine tkH 13 hHeld ?_;refine qT (rs:=[14]) (by kernel_rfl) (by simp) ?_;refine qR rfl (fun K hK=> ?_) qS;have B_z:Hid (Below wr.heap.size wr (w2.alloc (zd #[za none 0 0,za none 0 0] 33))):=B_w2.X.trans (((yV w2.heap.size w2).alloc (zQ _) (zd #[za none 0 0,za none 0 0] 33)).mono B_w2.X.size);have VZ0:Hid ((w2.alloc (zd #[za none 0 0,za none 0 0] 33)).heap[w2.heap.size]? =some (zd #[za none 0 0,za none 0 0] 33 (0,0))):=zN _ _;have HZL:Hid (wr.heap.size<=w2.heap.size):=B_w2.X.size;have P_z:Hid (zb8 (w2.alloc (zd #[za none 0 0,za none 0 0] 33)) ra2 la2 n2 l2 R2 (DM i)):=P_w2.X.below ((yV w2.heap.size w2).alloc (zQ _) (zd #[za none 0 0,za none 0 0] 33));go_simp;refine hK.out _ _ ?_ (fun hHeld=> ?_)
        ·exact KS.X _ B_z.X
        clear hK K
        (try simp only[zi,xB,zL,xC])
        obtain⟨kz,HKZ⟩:=nmd w2.heap.size;rw[HKZ.X]at VZ0 HZL⊢;generalize(w2.alloc (zd #[za none 0 0,za none 0 0] 33))=wz at*;obtain⟨z0,z1⟩:=za1 VZ0.X;have zf:=fun i=>yU _ _ i _ _ VZ0.X;refine qT (rs:=[15]) (by kernel_rfl) (by simp) ?_;refine qR rfl (fun K hK=> ?_) qS;have V9:Hid (((wz.setCell ⟨kz,0,none⟩ (za ra2 n2 rc2)).setCell ⟨kz,1,none⟩ (za la2 l2 lc2)).heap[kz]? =some (zd #[za ra2 n2 rc2,za la2 l2 lc2] 33 (0,0))):=zi8 VZ0.X;have B9:Hid (Below wr.heap.size wr ((wz.setCell ⟨kz,0,none⟩ (za ra2 n2 rc2)).setCell ⟨kz,1,none⟩ (za la2 l2 lc2))):=(B_z.X.setCell HZL.X _).setCell HZL.X _;have P9:Hid (zb8 ((wz.setCell ⟨kz,0,none⟩ (za ra2 n2 rc2)).setCell ⟨kz,1,none⟩ (za la2 l2 lc2)) ra2 la2 n2 l2 R2 (DM i)):=ze0 P_z.X VZ0.X;go_simp;refine hK.out _ _ ?_ (fun hHeld=> ?_)
        ·exact KS.X _ B9.X
        clear hK K;generalize((wz.setCell ⟨kz,0,none⟩ (za ra2 n2 rc2)).setCell ⟨kz,1,none⟩ (za la2 l2 lc2))=w6 at*;refine tkH 16 hHeld ?_;refine tkH 17 hHeld ?_;refine qU (by kernel_rfl) ?_ _;clear hHeld
        (try go_wp2_with fail)
        go_meet;exact⟨kz,ra2,n2,rc2,la2,l2,lc2,R2,rfl,rfl,rfl,B9.X,HZL.X,V9.X,P9.X,KX.X,OX.X⟩
       refine qR rfl (fun K hK=> ?_) qS;have B_z:Hid (Below wr.heap.size wr (wd.alloc (zd #[za none 0 0,za none 0 0] 33))):=B_d.X.trans (((yV wd.heap.size wd).alloc (zQ _) (zd #[za none 0 0,za none 0 0] 33)).mono B_d.X.size);have VZ0:Hid ((wd.alloc (zd #[za none 0 0,za none 0 0] 33)).heap[wd.heap.size]? =some (zd #[za none 0 0,za none 0 0] 33 (0,0))):=zN _ _;have HZL:Hid (wr.heap.size<=wd.heap.size):=B_d.X.size;go_simp;refine hK.out _ _ ?_ (fun hHeld=> ?_)
       ·exact KS.X _ B_z.X
       clear hK K
       (try simp only[zi,xB,zL,xC])
       obtain⟨kz,HKZ⟩:=nmd wd.heap.size;rw[HKZ.X]at VZ0 HZL⊢;generalize(wd.alloc (zd #[za none 0 0,za none 0 0] 33))=wz at*;obtain⟨z0,z1⟩:=za1 VZ0.X;have zf:=fun i=>yU _ _ i _ _ VZ0.X;refine qT (rs:=[9]) (by kernel_rfl) (by simp) ?_;refine qR rfl (fun K hK=> ?_) qS;go_simp;refine(DS.X wz B_z.X).mono ?_;rintro e w2 ⟨ra2,n2,rc2,la2,l2,lc2,R2,rfl,hb,hk2,hp2,hof⟩;have B_w2:Hid (Below wr.heap.size wr w2):=B_z.X.trans (hb.mono B_z.X.size);have P_w2:=za4 hp2;have KX:=za4 hk2;have OX:Hid (zj0 z9 ra2 la2 R2 (DM i)):=hof z9 (xh hz9 B_z.X.size) F5.X;have VZ_w2:=za4 (za0 hb (za2 VZ0.X) VZ0.X);obtain⟨z0,z1⟩:=za1 VZ_w2.X;have zf:=fun i=>yU _ _ i _ _ VZ_w2.X;clear hb hk2 hp2 hof
       (try go_wp2_with fail)
       refine hK.out _ _ ?_ (fun hHeld=> ?_)
       ·exact KS.X _ B_w2.X
       clear hK K
       (try simp only[zi,xB,zL,xC])
       refine tkH 10 hHeld ?_;refine tkH 11 hHeld ?_;refine tkH 12 hHeld ?_;refine tkH 13 hHeld ?_;refine qT (rs:=[15]) (by kernel_rfl) (by simp) ?_;refine qR rfl (fun K hK=> ?_) qS;have V9:Hid (((w2.setCell ⟨kz,0,none⟩ (za ra2 n2 rc2)).setCell ⟨kz,1,none⟩ (za la2 l2 lc2)).heap[kz]? =some (zd #[za ra2 n2 rc2,za la2 l2 lc2] 33 (0,0))):=zi8 VZ_w2.X;have B9:Hid (Below wr.heap.size wr ((w2.setCell ⟨kz,0,none⟩ (za ra2 n2 rc2)).setCell ⟨kz,1,none⟩ (za la2 l2 lc2))):=(B_w2.X.setCell HZL.X _).setCell HZL.X _;have P9:Hid (zb8 ((w2.setCell ⟨kz,0,none⟩ (za ra2 n2 rc2)).setCell ⟨kz,1,none⟩ (za la2 l2 lc2)) ra2 la2 n2 l2 R2 (DM i)):=ze0 P_w2.X VZ_w2.X;go_simp;refine hK.out _ _ ?_ (fun hHeld=> ?_)
       ·exact KS.X _ B9.X
       clear hK K;generalize((w2.setCell ⟨kz,0,none⟩ (za ra2 n2 rc2)).setCell ⟨kz,1,none⟩ (za la2 l2 lc2))=w6 at*;refine tkH 16 hHeld ?_;refine tkH 17 hHeld ?_;refine qU (by kernel_rfl) ?_ _;clear hHeld
       (try go_wp2_with fail)
       go_meet;exact⟨kz,ra2,n2,rc2,la2,l2,lc2,R2,rfl,rfl,rfl,B9.X,HZL.X,V9.X,P9.X,KX.X,OX.X⟩
      case rest=>
       obtain⟨kz,ra2,n2,rc2,la2,l2,lc2,R2,rfl,rfl,rfl,hb,hkz,hz,hp2,hk2,ho2⟩:=hcut;have HS5:Hid (w.heap.size+3<=b1/\b1<=m2/\m2<=z9/\z9<wr.heap.size/\wr.heap.size<=wc.heap.size):=⟨hb1,hb2,(O5.X.lt z9 rfl).1,hz9,hb.size⟩;have Q7:=za4 (Q5.X.below hb);have D7:=za4 (D5.X.below hb);have P7:=za4 (P5.X.below hb);have O7:Hid (wc.ownsRow m2 2 1 (za (some ⟨z9,0,none⟩) (i+1) c9) (i+1) ((T i).map (zc zb))):=zu5 O5.X hb (fun k e=>(O5.X.lt k e).2);have Z7:=za4 hz;have X7:=za4 hp2;have Y7:=za4 hk2;have U7:=za4 ho2;clear Q5 D5 P5 O5 DS KS hb hz hp2 hk2 ho2 HREM hrem hj3 hj3I HJ;cases hF:F i
       ·obtain⟨e1,e2,e3⟩:=ST.X.no i (fun h=>by rw[hF]at h;cases h)
        obtain⟨q1,q2,q3,q4,q5⟩:=HS5.X;have q6:m2<=z9/\z9<wc.heap.size:=O7.X.lt z9 rfl;have hW:Below wc.heap.size wc (wc.alloc (zd #[zc zb (C i)] 2)):=zK _
        go_wp2_with(
         at_builtin;refine zc9 _ rfl (.tmp 72) (.tmp 74) rfl m2 (za (some ⟨z9,0,none⟩) (i+1) c9) (i+1) (T i) rfl (O7.X.alloc _) wc.heap.size 0 1 1 [(C i)] rfl rfl (zj5 wc (C i)) (by omega) (by omega) (by simp;omega) ?_;intro v' w8 hown hg hv hnl;obtain⟨z8,c8,hv8⟩:∃z8 c8,v'=za (some ⟨z8,0,none⟩) (i+1+1) c8:=by
          rcases own_kinds hown with⟨_,h2⟩|⟨g9,c8,h1,_⟩
          ·omega
          ·exact⟨g9,c8,h1⟩
         subst hv8;have Q8:Hid (GQ w w8 #[zc zb n,za a zl cap,za ao ko co,za av kv cv,zc zb fine] #[za ra9 rn9 rc9,za la9 ln9 lc9]):=(Q7.X.below hW).grownL (z:=z9) hg (by omega);have D8:Hid (zj1 w8 b1 m2 g #[zc zb n,za a zl cap,za ao ko co,za av kv cv,zc zb fine]):=(D7.X.below hW).grown hg (fun z e=>(by simpa[zm]using e:z9=z)▸q3);have P8:Hid (zb8 w8 ra9 la9 rn9 ln9 R9 (SM i)):=(P7.X.below hW).grownL (z:=z9) hg F5.X;have O8:=za4 hown;have F8:Hid (zj0 z8 ra9 la9 R9 (SM i)):=by
          rcases hv with h|h
          ·have h1:z8=z9:=by simpa[zm]using h
           rw[h1];exact F5.X
          ·have h1:z8=(wc.alloc (zd #[zc zb (C i)] 2)).heap.size:=by simpa[zm]using h
           rw[h1];exact(P7.X.below hW).far (zQ _)
         clear hown hg hv hnl)
        go_roundw
        case rel=>exact⟨i+1,ra9,la9,rn9,rc9,ln9,lc9,z8,c8,R9,by omega,by first|rfl|go_num,rfl,by rw[e3],Q8.X,D8.X,by rw[e2];exact P8.X,by rw[e1];exact K5.X,rfl,by rw[TS.X,e3];exact O8.X,by rw[e2];exact F8.X⟩
        case measure=>simp[intOf];omega
       ·have RB:=ST.X.reb i wc ra2 la2 n2 rc2 l2 lc2 R2 hF Q7.X.b X7.X Y7.X
        have HO:=HS5.X;have hne:(za (some ⟨z9,0,none⟩) (i+1) c9).ownBlock≠some kz:=fun h=>by
         have h1:z9=kz:=by simpa[zm]using h
         omega
        have hne2:(za (some ⟨z9,0,none⟩) (i+1) c9).ownBlock≠some (w.heap.size+1):=fun h=>by
         have h1:z9=w.heap.size+1:=by simpa[zm]using h
         omega
        obtain⟨c0,c1,c2,c3,c4⟩:=za7 Q7.X.c;obtain⟨z0,z1⟩:=za1 Z7.X
        go_wp2_with fail
        refine RB.mono ?_;rintro e w4 ⟨ra4,n4,rc4,la4,l4,lc4,R4,rfl,hb,hk4,hp4,hof⟩;have QA:=za4 (Q7.X.below hb);have DA:=za4 (D7.X.below hb);have PA:=za4 (P7.X.below hb);have OA:Hid (w4.ownsRow m2 2 1 (za (some ⟨z9,0,none⟩) (i+1) c9) (i+1) ((T i).map (zc zb))):=zu5 O7.X hb (fun k e=>(O7.X.lt k e).2);have ZA:=za4 (za0 hb (za2 Z7.X) Z7.X);have XA:=za4 hp4;have KA:=za4 hk4;have UA:Hid (zj0 z9 ra4 la4 R4 (YM i)):=hof z9 (by omega) U7.X;clear hb hk4 hp4 hof RB c0 c1 c2 c3 c4 z0 z1 Q7 D7 P7 O7 Z7 X7 Y7 U7;have QB:Hid (GQ w ((w4.setCell ⟨kz,0,none⟩ (za ra4 n4 rc4)).setCell ⟨kz,1,none⟩ (za la4 l4 lc4)) #[zc zb n,za a zl cap,za ao ko co,za av kv cv,zc zb fine] #[za ra9 rn9 rc9,za la9 ln9 lc9]):=(QA.X.set (by omega)).set (by omega);have DB:Hid (zj1 ((w4.setCell ⟨kz,0,none⟩ (za ra4 n4 rc4)).setCell ⟨kz,1,none⟩ (za la4 l4 lc4)) b1 m2 g #[zc zb n,za a zl cap,za ao ko co,za av kv cv,zc zb fine]):=(DA.X.set (.inr (by omega))).set (.inr (by omega));have PB:Hid (zb8 ((w4.setCell ⟨kz,0,none⟩ (za ra4 n4 rc4)).setCell ⟨kz,1,none⟩ (za la4 l4 lc4)) ra9 la9 rn9 ln9 R9 (SM i)):=ze0 PA.X ZA.X;have XB:Hid (zb8 ((w4.setCell ⟨kz,0,none⟩ (za ra4 n4 rc4)).setCell ⟨kz,1,none⟩ (za la4 l4 lc4)) ra4 la4 n4 l4 R4 (YM i)):=ze0 XA.X ZA.X;have OB:Hid (((w4.setCell ⟨kz,0,none⟩ (za ra4 n4 rc4)).setCell ⟨kz,1,none⟩ (za la4 l4 lc4)).ownsRow m2 2 1 (za (some ⟨z9,0,none⟩) (i+1) c9) (i+1) ((T i).map (zc zb))):=zf1 (zf1 OA.X 0 _ hne) 1 _ hne;have ZB:Hid (((w4.setCell ⟨kz,0,none⟩ (za ra4 n4 rc4)).setCell ⟨kz,1,none⟩ (za la4 l4 lc4)).heap[kz]? =some (zd #[za ra4 n4 rc4,za la4 l4 lc4] 33 (0,0))):=zi8 ZA.X;obtain⟨z0,z1⟩:=za1 ZA.X;have zf:=fun i=>yU _ _ i _ _ ZA.X;obtain⟨c0,c1,c2,c3,c4⟩:=za7 QB.X.c;obtain⟨x0,x1⟩:=za1 ZB.X
        go_wp2_with fail
        refine(ST.X.cost i _ ra4 la4 n4 rc4 l4 lc4 R4 hF QB.X.b XB.X KA.X).mono ?_;generalize((w4.setCell ⟨kz,0,none⟩ (za ra4 n4 rc4)).setCell ⟨kz,1,none⟩ (za la4 l4 lc4))=w5 at*;rintro e w6 ⟨rfl,hb⟩;have QC:=za4 (QB.X.below hb);have DC:=za4 (DB.X.below hb);have PC:=za4 (PB.X.below hb);have XC:=za4 (XB.X.below hb);have OC:Hid (w6.ownsRow m2 2 1 (za (some ⟨z9,0,none⟩) (i+1) c9) (i+1) ((T i).map (zc zb))):=zu5 OB.X hb (fun k e=>(OB.X.lt k e).2);have ZC:=za4 (za0 hb (za2 ZB.X) ZB.X);clear hb z0 z1 zf c0 c1 c2 c3 c4 x0 x1 QA DA PA OA ZA XA QB DB PB XB OB ZB;clear HO;by_cases hyc:YC i<C i
        ·obtain⟨e1,e2,e3⟩:=ST.X.yes i hF hyc
         have HO:=HS5.X;have QD:Hid (GQ w ((w6.setCell ⟨w.heap.size+1,0,none⟩ (za ra4 n4 rc4)).setCell ⟨w.heap.size+1,1,none⟩ (za la4 l4 lc4)) #[zc zb n,za a zl cap,za ao ko co,za av kv cv,zc zb fine] #[za ra4 n4 rc4,za la4 l4 lc4]):=QC.X.plan _ _;have DD:Hid (zj1 ((w6.setCell ⟨w.heap.size+1,0,none⟩ (za ra4 n4 rc4)).setCell ⟨w.heap.size+1,1,none⟩ (za la4 l4 lc4)) b1 m2 g #[zc zb n,za a zl cap,za ao ko co,za av kv cv,zc zb fine]):=(DC.X.set (.inl (by omega))).set (.inl (by omega));have XD:Hid (zb8 ((w6.setCell ⟨w.heap.size+1,0,none⟩ (za ra4 n4 rc4)).setCell ⟨w.heap.size+1,1,none⟩ (za la4 l4 lc4)) ra4 la4 n4 l4 R4 (YM i)):=ze0 XC.X QC.X.p;have OD:Hid (((w6.setCell ⟨w.heap.size+1,0,none⟩ (za ra4 n4 rc4)).setCell ⟨w.heap.size+1,1,none⟩ (za la4 l4 lc4)).ownsRow m2 2 1 (za (some ⟨z9,0,none⟩) (i+1) c9) (i+1) ((T i).map (zc zb))):=zf1 (zf1 OC.X 0 _ hne2) 1 _ hne2;have dy:decide (YC i<C i)=true:=zS hyc;obtain⟨z0,z1⟩:=za1 ZC.X;obtain⟨p0,p1⟩:=za1 QC.X.p;have pf:=fun i=>yU _ _ i _ _ QC.X.p;clear HO;go_upto_region 16 with fail;generalize((w6.setCell ⟨w.heap.size+1,0,none⟩ (za ra4 n4 rc4)).setCell ⟨w.heap.size+1,1,none⟩ (za la4 l4 lc4))=w7 at*;clear z0 z1 p0 p1 pf QC DC PC XC OC ZC;obtain⟨q1,q2,q3,q4,q5⟩:=HS5.X;have q6:m2<=z9/\z9<w7.heap.size:=OD.X.lt z9 rfl;have hW:Below w7.heap.size w7 (w7.alloc (zd #[zc zb (YC i)] 2)):=zK _
         go_wp2_with(
          at_builtin;refine zc9 _ rfl (.tmp 72) (.tmp 74) rfl m2 (za (some ⟨z9,0,none⟩) (i+1) c9) (i+1) (T i) rfl (OD.X.alloc _) w7.heap.size 0 1 1 [(YC i)] rfl rfl (zj5 w7 (YC i)) (by omega) (by omega) (by simp;omega) ?_;intro v' w8 hown hg hv hnl;obtain⟨z8,c8,hv8⟩:∃z8 c8,v'=za (some ⟨z8,0,none⟩) (i+1+1) c8:=by
           rcases own_kinds hown with⟨_,h2⟩|⟨g9,c8,h1,_⟩
           ·omega
           ·exact⟨g9,c8,h1⟩
          subst hv8;have Q8:Hid (GQ w w8 #[zc zb n,za a zl cap,za ao ko co,za av kv cv,zc zb fine] #[za ra4 n4 rc4,za la4 l4 lc4]):=(QD.X.below hW).grownL (z:=z9) hg (by omega);have D8:Hid (zj1 w8 b1 m2 g #[zc zb n,za a zl cap,za ao ko co,za av kv cv,zc zb fine]):=(DD.X.below hW).grown hg (fun z e=>(by simpa[zm]using e:z9=z)▸q3);have P8:Hid (zb8 w8 ra4 la4 n4 l4 R4 (YM i)):=(XD.X.below hW).grownL (z:=z9) hg UA.X;have O8:=za4 hown;have F8:Hid (zj0 z8 ra4 la4 R4 (YM i)):=by
           rcases hv with h|h
           ·have h1:z8=z9:=by simpa[zm]using h
            rw[h1];exact UA.X
           ·have h1:z8=(w7.alloc (zd #[zc zb (YC i)] 2)).heap.size:=by simpa[zm]using h
            rw[h1];exact(XD.X.below hW).far (zQ _)
          clear hown hg hv hnl)
         go_roundw
         case rel=>exact⟨i+1,ra4,la4,n4,rc4,l4,lc4,z8,c8,R4,by omega,by first|rfl|go_num,rfl,by rw[e3],Q8.X,D8.X,by rw[e2];exact P8.X,by rw[e1];exact KA.X,rfl,by rw[TS.X,e3];exact O8.X,by rw[e2];exact F8.X⟩
         case measure=>simp[intOf];omega
        ·obtain⟨e1,e2,e3⟩:=ST.X.no i (fun _=>hyc)
         have dn:decide (YC i<C i)=false:=zU hyc;obtain⟨q1,q2,q3,q4,q5⟩:=HS5.X;have q6:m2<=z9/\z9<w6.heap.size:=OC.X.lt z9 rfl;have hW:Below w6.heap.size w6 (w6.alloc (zd #[zc zb (C i)] 2)):=zK _
         go_wp2_with(
          at_builtin;refine zc9 _ rfl (.tmp 72) (.tmp 74) rfl m2 (za (some ⟨z9,0,none⟩) (i+1) c9) (i+1) (T i) rfl (OC.X.alloc _) w6.heap.size 0 1 1 [(C i)] rfl rfl (zj5 w6 (C i)) (by omega) (by omega) (by simp;omega) ?_;intro v' w8 hown hg hv hnl;obtain⟨z8,c8,hv8⟩:∃z8 c8,v'=za (some ⟨z8,0,none⟩) (i+1+1) c8:=by
           rcases own_kinds hown with⟨_,h2⟩|⟨g9,c8,h1,_⟩
           ·omega
           ·exact⟨g9,c8,h1⟩
          subst hv8;have Q8:Hid (GQ w w8 #[zc zb n,za a zl cap,za ao ko co,za av kv cv,zc zb fine] #[za ra9 rn9 rc9,za la9 ln9 lc9]):=(QC.X.below hW).grownL (z:=z9) hg (by omega);have D8:Hid (zj1 w8 b1 m2 g #[zc zb n,za a zl cap,za ao ko co,za av kv cv,zc zb fine]):=(DC.X.below hW).grown hg (fun z e=>(by simpa[zm]using e:z9=z)▸q3);have P8:Hid (zb8 w8 ra9 la9 rn9 ln9 R9 (SM i)):=(PC.X.below hW).grownL (z:=z9) hg F5.X;have O8:=za4 hown;have F8:Hid (zj0 z8 ra9 la9 R9 (SM i)):=by
           rcases hv with h|h
           ·have h1:z8=z9:=by simpa[zm]using h
            rw[h1];exact F5.X
           ·have h1:z8=(w6.alloc (zd #[zc zb (C i)] 2)).heap.size:=by simpa[zm]using h
            rw[h1];exact(PC.X.below hW).far (zQ _)
          clear hown hg hv hnl)
         go_roundw
         case rel=>exact⟨i+1,ra9,la9,rn9,rc9,ln9,lc9,z8,c8,R9,by omega,by first|rfl|go_num,rfl,by rw[e3],Q8.X,D8.X,by rw[e2];exact P8.X,by rw[e1];exact K5.X,rfl,by rw[TS.X,e3];exact O8.X,by rw[e2];exact F8.X⟩
         case measure=>simp[intOf];omega
     ·have hiN:i=N:=by omega
      subst hiN;clear hlt;have hk9:R9.length=(SR i).length:=by have:=congrArg zj K5.X;simpa using this
      have CC:=zJ6 ra9 la9 rc9 lc9 R9 (SM i) wr P5.X.2.2.1 P5.X.2.2.2.1 (P5.X.2.2.2.2.2.1.imp (fun h=>⟨h.1,P5.X.2.1.trans h.2⟩) id) (by have:=HGI.X.2.1;omega) (fun r hr=>zq3 K5.X HGI.X.1 r hr) HGI.X.2.2;have HN2:Hid (R9.length=rn9):=P5.X.1;have HL2:Hid ((SM i).length=ln9):=P5.X.2.1;rw[HN2.X,HL2.X]at CC;clear hk9;obtain⟨p0,p1⟩:=za1 Q5.X.p
      go_wp2_with fail
      refine CC.mono ?_;rintro e w6 ⟨ra4,rc4,la4,lc4,S4,rfl,hb,hk4,hpo,hap⟩;rw[HN2.X,HL2.X]at hpo;rw[HN2.X,HL2.X];have Q6:=za4 (Q5.X.below hb);have P6:=za4 hpo;have HK6:Hid (S4.map RT.key=(SR i).map RT.key):=hk4.trans K5.X;have HSL:Hid (S4.length=rn9):=by have:=congrArg zj hk4;simp only[qn]at this;exact this.trans HN2.X
      have HAP:=za4 hap;have O6:Hid (w6.ownsRow m2 2 1 (za (some ⟨z9,0,none⟩) (i+1) c9) (i+1) ((T i).map (zc zb))):=zu5 O5.X hb (fun k e=>(O5.X.lt k e).2);have Z6:Hid (z9<wr.heap.size):=(O5.X.lt z9 rfl).2;have SZ6:Hid (w.heap.size+3<=wr.heap.size):=Q5.X.size;have HM2z:Hid (m2<=z9):=(O5.X.lt z9 rfl).1;clear hb hpo hk4 hap CC p0 p1 Q5 D5 P5 K5 O5 F5;obtain⟨a0,a1⟩:=za1 Q6.X.o;have af:=fun i=>yU _ _ i _ _ Q6.X.o;have s1:=zP w6 (w.heap.size+2) 0 _ _ (za ra4 rn9 rc4) Q6.X.o;have P7:Hid (PO ((w6.setCell ⟨w.heap.size+2,0,none⟩ (za ra4 rn9 rc4)).setCell ⟨w.heap.size+2,1,none⟩ (za la4 ln9 lc4)) (wr.heap.size+2) (za ra4 rn9 rc4) S4 (za la4 ln9 lc4) (SM i)):=(P6.X.box Q6.X.o).box s1;have B7:Hid (Below w.heap.size w ((w6.setCell ⟨w.heap.size+2,0,none⟩ (za ra4 rn9 rc4)).setCell ⟨w.heap.size+2,1,none⟩ (za la4 ln9 lc4))):=(Q6.X.b.setCell (by simp) _).setCell (by simp) _;have hne:(za (some ⟨z9,0,none⟩) (i+1) c9).ownBlock≠some (w.heap.size+2):=fun h=>by
       have h1:z9=w.heap.size+2:=by simpa[zm]using h
       have:=HM2z.X;omega
      have O7:Hid (((w6.setCell ⟨w.heap.size+2,0,none⟩ (za ra4 rn9 rc4)).setCell ⟨w.heap.size+2,1,none⟩ (za la4 ln9 lc4)).ownsRow m2 2 1 (za (some ⟨z9,0,none⟩) (i+1) c9) (i+1) ((T i).map (zc zb))):=zf1 (zf1 O6.X 0 _ hne) 1 _ hne;clear s1 hne;go_wp2;refine yX (v:=.tuple #[.agg #[za ra4 rn9 rc4,za la4 ln9 lc4],za (some ⟨z9,0,none⟩) (i+1) c9,.bool true]) (by simp[results,Tryz.results7,go_sem,a0,a1]) rfl ?_;show zU4 _ _ _ _ _ _ _;have hsz:=SZ6.X;have hz6:=Z6.X;exact⟨ra4,rn9,rc4,la4,ln9,lc4,S4,_,wr.heap.size+2,rfl,B7.X,HSL.X,HL2.X,HK6.X,by omega,P7.X,HAP.X,by rw[TL.X];exact zc4 O7.X (by omega),fun z hz=>by
       have h1:z9=z:=by simpa[zm]using hz
       omega⟩
 ·have hpn:(pv !=0)=true:=by simp[hpv]
  obtain⟨a0,a1⟩:=za1 Q1.X.o;have af:=fun i=>yU _ _ i _ _ Q1.X.o;have B5:Hid (Below w.heap.size w ((w1.setCell ⟨w.heap.size+2,0,none⟩ (za none 0 0)).setCell ⟨w.heap.size+2,1,none⟩ (za none 0 0))):=(Q1.X.b.setCell (by simp) _).setCell (by simp) _;rw[zU hpv,qX]at HDB;have HBF:GB=false:=by rw[HDB.X];try rfl
  subst HBF;obtain⟨g2,g3,g4⟩:=HNO.X rfl;subst g2 g3 g4;clear HNO HYS
  go_wp2_with(first|(go_at_call 32;refine(zc1 _ _ _ _).mono ?_;rintro e w' ⟨rfl,hw'⟩;subst w';rw[HK1.X])|(go_at_call 33;refine(zl7 _ _).mono ?_;rintro e w' ⟨rfl,hw'⟩;subst w';rw[HS1.X]))
  refine yX (v:=.tuple #[.agg #[za none 0 0,za none 0 0],za none 0 0,.bool false]) (by simp[results,Tryz.results7,go_sem,a0,a1]) rfl ?_;show zU4 _ _ _ _ _ _ _;exact⟨none,0,0,none,0,0,[],za none 0 0,w.heap.size,rfl,B5.X,rfl,rfl,rfl,zQ _,⟨qP _ _ _ _,(fun s hs=>by cases hs),qP _ _ _ _⟩,zx6.nil _,qP _ _ _ _,fun z hz=>by cases hz⟩
