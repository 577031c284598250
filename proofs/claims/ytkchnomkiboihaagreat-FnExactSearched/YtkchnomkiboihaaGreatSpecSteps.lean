import Derived.Test.YtkchnomkiboihaaGreatGreedyS
namespace Go.Proofs.YtkchnomkiboihaaGreat
open Value renaming slice→za,int→zc
open IntKind renaming i64→zb
open Proofs.Tryz renaming prog→ze
open Go renaming World→zg
open Go.RowKit
open Q
theorem ys8{w:zg}{base n m rc lc:Nat}{ra la:Option Addr}{S:List RT}{L:List Int}(h:PO w base (za ra n rc) S (za la m lc) L){x:Nat}(hx:w.heap.size<=x):Off x ra la S:=by
 refine⟨fun b off e=> ?_,fun b off e=> ?_,fun r hr b off e=> ?_⟩
 ·have:=(h.r.lt b (by rw[e];rfl)).2;omega
 ·have:=(h.l.lt b (by rw[e];rfl)).2;omega
 ·have:=((h.s r hr).lt b (by rw[e];rfl)).2;omega
theorem PO.grownL{W W':zg}{base n m rc lc z:Nat}{ra la:Option Addr}{S:List RT}{L:List Int}(h:PO W base (za ra n rc) S (za la m lc) L)(hg:W.grownBy W' (some z))(ho:Off z ra la S):PO W' base (za ra n rc) S (za la m lc) L:=by
 have hk:∀{size k N:Nat} {e:TypeId} {a:Option Addr} {c:Nat} {xs:List Value},(∀b off,a=some ⟨b,off,none⟩->b≠z)->W.ownsRow base e size (za a k c) N xs->(za a k c).ownBlock≠some z:=fun{size k N e a c xs} h1 h2 h3=>by
  rcases own_kinds h2 with⟨e9,_⟩|⟨g,c9,e9,_⟩
  ·injection e9 with e9 _ _
   subst e9;cases h3
  ·injection e9 with e9 _ _
   subst e9;exact h1 g 0 rfl (by simpa[Value.ownBlock]using h3)
 exact⟨h.r.kept hg (.inr (hk ho.1 h.r)),fun s hs=>(h.s s hs).kept hg (.inr (hk (ho.2.2 s hs) (h.s s hs))),h.l.kept hg (.inr (hk ho.2.1 h.l))⟩
structure yH5(w:zg)(cs:Array Value)(SR:Nat->List RT)(SM:Nat->List Int)(SD:Nat->Int)(DR:Nat->List RT)(DM:Nat->List Int)(F:Nat->Bool)(GR:Nat->List RT)(GM:Nat->List Int)(YR:Nat->List RT)(YM:Nat->List Int)(YC C XN:Nat->Int):Prop where
 dest:∀(i:Nat) (W:zg) (ra la:Option Addr) (nr rc ln lc:Nat) (R:List RT),Below w.heap.size w W->zb8 W ra la nr ln R (SM i)->R.map RT.key=(SR i).map RT.key->Calls ze 42 #[.agg cs,.agg #[za ra nr rc,za la ln lc],zc zb (SD i),zc zb (seK i)] W (z17 W (SD (i+1)) (F i) (DR i) (DM i))
 grd:∀(i:Nat) (W:zg) (ra:Option Addr) (base g nr rc ln lc:Nat) (R:List RT),F i=true->Below w.heap.size w W->PO W base (za ra nr rc) R (za (some ⟨g,0,none⟩) ln lc) (DM i)->R.length=nr->(DM i).length=ln->R.map RT.key=(DR i).map RT.key->Calls ze 44 #[.agg cs,.agg #[za ra nr rc,za (some ⟨g,0,none⟩) ln lc]] W (yg1 W (GR i) (GM i))
 desc:∀(i:Nat) (W:zg) (ra la:Option Addr) (nr rc ln lc:Nat) (R:List RT),F i=true->Below w.heap.size w W->zb8 W ra la nr ln R (GM i)->R.map RT.key=(GR i).map RT.key->Calls ze 43 #[.agg cs,.agg #[za ra nr rc,za la ln lc],zc zb 3] W (z89 W (XN i) (YR i) (YM i))
 costY:∀(i:Nat) (W:zg) (ra la:Option Addr) (nr rc ln lc:Nat) (R:List RT),F i=true->Below w.heap.size w W->zb8 W ra la nr ln R (YM i)->R.map RT.key=(YR i).map RT.key->Calls ze 41 #[.agg cs,.agg #[za ra nr rc,za la ln lc]] W fun e w'=>e=.returned (zc zb (YC i))/\Below W.heap.size W w'
 cost:∀(i:Nat) (W:zg) (ra la:Option Addr) (nr rc ln lc:Nat) (R:List RT),Below w.heap.size w W->zb8 W ra la nr ln R (SM i)->R.map RT.key=(SR i).map RT.key->Calls ze 41 #[.agg cs,.agg #[za ra nr rc,za la ln lc]] W fun e w'=>e=.returned (zc zb (C i))/\Below W.heap.size W w'
 yes:∀i,F i=true->YC i<C i->SR (i+1)=YR i/\SM (i+1)=YM i/\C (i+1)=YC i
 no:∀i,(F i=true->¬YC i<C i)->SR (i+1)=SR i/\SM (i+1)=SM i/\C (i+1)=C i
theorem ya8(n fine:Int)(a ao av ra la:Option Addr)(zl cap ko co kv cv nr rc ln lc:Nat)(zs os vs L:List Int)(R:List RT)(w:zg)(hA:za3 w a zs)(hO:za3 w ao os)(hV:za3 w av vs)(hlz:zs.length=zl)(hlo:os.length=ko*6)(hlv:vs.length=kv*5)(hP:zb8 w ra la nr ln R L)(hpl:zc3 n zs os vs ko kv fine R L=0):
 Calls ze 41 #[.agg #[zc zb n,za a zl cap,za ao ko co,za av kv cv,zc zb fine],.agg #[za ra nr rc,za la ln lc]] w fun e w'=>e=.returned (zc zb (zw1 n zs os vs ko kv fine R L))/\Below w.heap.size w w':=by
 have HCB:=(zb5 hpl).1;have hko:ko<=12:=(zd9 (zb3 HCB).2.1).1;have hkv:kv<=5:=(zf6 (zb3 HCB).2.2.1).1;obtain⟨p1,p2,p3,p4,p5,p6,p7⟩:=hP;have:=z90 n fine a ao av ra la cap ko co kv cv rc lc zs os vs L R w hA hO hV p3 hlo hlv (by omega) (by omega) hpl;rw[hlz,p1,p2]at this;unfold zw1;rw[zV hpl,p1,p2];exact this
theorem zD1{n fine:Int}{zs os vs:List Int}{ko kv:Nat}{R:List RT}{L:List Int}(h:zc3 n zs os vs ko kv fine R L=0):ko<=9223372036854775807/\kv<=9223372036854775807/\R.length<=1048576/\(∀r∈R,r.ids≠[]/\r.ids.length<=12)/\L.length<=1048576/\(za8 R R.length).length<=1048576:=by
 have HCB:=(zb5 h).1;have hko:ko<=12:=(zd9 (zb3 HCB).2.1).1;have hkv:kv<=5:=(zf6 (zb3 HCB).2.2.1).1;obtain⟨_,g2,_,_,h5⟩:=zb5 h;obtain⟨_,hok⟩:=zh3.1 g2;have hs:=ze4 h;exact⟨by omega,by omega,by omega,fun r hr=>⟨(hok r hr).1,zk7 (hok r hr).2⟩,by omega,by omega⟩
theorem yI5(sd n fine:Int)(a ao:Option Addr)(bv ov zl cap ko co kv cv:Nat)(zs os vs L:List Int)(R:List RT)(w:zg)(hA:za3 w a zs)(hO:za3 w ao os)(hV:za3 w (some ⟨bv,ov,none⟩) vs)(hlz:zs.length=zl)(hlo:os.length=ko*6)(hlv:vs.length=kv*5)(hpl:zc3 n zs os vs ko kv fine R L=0)(hs:inB sd 0 2147483647=true):
 ∃(DR:Nat->List RT) (DM:Nat->List Int) (F:Nat->Bool) (GR:Nat->List RT) (GM:Nat->List Int) (YR:Nat->List RT) (YM:Nat->List Int) (YC XN:Nat->Int),yH5 w #[zc zb n,za a zl cap,za ao ko co,za (some ⟨bv,ov,none⟩) kv cv,zc zb fine] (fun i=>(seP sd n fine zs os vs ko kv R L i).1.1) (fun i=>(seP sd n fine zs os vs ko kv R L i).1.2) (fun i=>(seP sd n fine zs os vs ko kv R L i).2) DR DM F GR GM YR YM YC (seC sd n fine zs os vs ko kv R L) XN:=by
 obtain⟨P,hP⟩:∃P,P=seP sd n fine zs os vs ko kv R L:=⟨_,rfl⟩;have held:∀i,zc3 n zs os vs ko kv fine (P i).1.1 (P i).1.2=0/\inB (P i).2 0 2147483647=true:=by rw[hP];exact zC5 hpl hs
 have hstep:∀i,P (i+1)=(seN (P i).2 (seK i) n fine zs os vs ko kv (P i).1.1 (P i).1.2,deN (P i).2 (seK i) n fine zs os vs ko kv (P i).1.1 (P i).1.2):=fun i=>by rw[hP];rfl
 have hC:∀i,seC sd n fine zs os vs ko kv R L i=zw1 n zs os vs ko kv fine (P i).1.1 (P i).1.2:=fun i=>by rw[hP];rfl
 rw[<-hP];have h12:=(held 0).1;have HCB:=(zb5 h12).1;have hko:ko<=12:=(zd9 (zb3 HCB).2.1).1;have hkv:kv<=5:=(zf6 (zb3 HCB).2.2.1).1;obtain⟨D,hD⟩:∃D:Nat->List RT×List Int,D=fun i=>(deR (P i).2 (seK i) n fine zs os vs ko kv (P i).1.1 (P i).1.2,deL (P i).2 (seK i) n fine zs os vs ko kv (P i).1.1 (P i).1.2):=⟨_,rfl⟩;have hDi:∀i,deR (P i).2 (seK i) n fine zs os vs ko kv (P i).1.1 (P i).1.2=(D i).1/\deL (P i).2 (seK i) n fine zs os vs ko kv (P i).1.1 (P i).1.2=(D i).2:=fun i=>by rw[hD];exact⟨rfl,rfl⟩
 obtain⟨G,hG⟩:∃G:Nat->List RT×List Int,G=fun i=>grd n fine zs os vs ko kv (D i).2.length (D i).1 (D i).2:=⟨_,rfl⟩;have hGi:∀i,grd n fine zs os vs ko kv (D i).2.length (D i).1 (D i).2=G i:=fun i=>by rw[hG]
 have hdh:∀i,deF (P i).2 (seK i) n fine zs os vs ko kv (P i).1.1 (P i).1.2=true->zc3 n zs os vs ko kv fine (D i).1 (D i).2=0:=fun i h=>by
  have h9:=(zC8 h).2.2;rw[(hDi i).1,(hDi i).2]at h9;exact h9
 have hgh:∀i,deF (P i).2 (seK i) n fine zs os vs ko kv (P i).1.1 (P i).1.2=true->zc3 n zs os vs ko kv fine (G i).1 (G i).2=0:=fun i h=>by
  have h9:=(zC4 (D i).2.length _ _ (hdh i h)).1;rw[hGi]at h9;exact h9
 have hsd:∀i,seD (P i).2 (seK i) n fine zs os vs ko kv (P i).1.1 (P i).1.2=(dsR n fine zs os vs ko kv (G i).2 3 (G i).1,(G i).2):=fun i=>by
  unfold seD seY;rw[(hDi i).1,(hDi i).2,hGi]
 refine⟨fun i=>(D i).1,fun i=>(D i).2,fun i=>deF (P i).2 (seK i) n fine zs os vs ko kv (P i).1.1 (P i).1.2,fun i=>(G i).1,fun i=>(G i).2,fun i=>dsR n fine zs os vs ko kv (G i).2 3 (G i).1,fun i=>(G i).2,fun i=>zw1 n zs os vs ko kv fine (dsR n fine zs os vs ko kv (G i).2 3 (G i).1) (G i).2,fun i=>dcN 3 n fine zs os vs ko kv (G i).1 (G i).2,?_,?_,?_,?_,?_,?_,?_⟩
 ·intro i W ra la nr rc ln lc R2 hW hp hk
  have hv:zc3 n zs os vs ko kv fine R2 (P i).1.2=0:=by rw[zd2 _ hk];exact(held i).1
  obtain⟨b1,b2,b3,b4,b5,b6⟩:=zD1 hv;have h:=zB4 (P i).2 (seK i) n fine a ao _ ra la zl cap ko co kv cv nr rc ln lc zs os vs (P i).1.2 R2 W (hA.below hW) (hO.below hW) (hV.below hW) hlz hlo hlv b1 b2 hp (by rw[<-hp.1];exact b3) (fun r hr=>by have:=(b4 r hr).2;omega) (by rw[<-hp.2.1];exact b5) b6;rw[yc5 _ _ _ _ _ _ _ _ _ _ hk,yd1 _ _ _ _ _ _ _ _ _ _ hk,yg4 _ _ _ _ _ _ _ _ _ _ hk,(hDi i).2]at h;have h3:=yg2 (P i).2 (seK i) n fine zs os vs ko kv (P i).1.2 hk;rw[(hDi i).1]at h3;refine h.mono ?_;rintro e w' ⟨ra2,n2,rc2,la2,l2,lc2,R3,rfl,hb,h1,h2,hk3,hp3,ho3⟩;refine⟨ra2,n2,rc2,la2,l2,lc2,R3,?_,hb,h1,h2,hk3.trans h3,hp3,ho3⟩;simp only[hstep]
 ·intro i W ra base g nr rc ln lc R2 hf hW hp hn hl hk
  have hv:zc3 n zs os vs ko kv fine R2 (D i).2=0:=by rw[zd2 _ hk];exact hdh i hf
  have hps:=hp.is hn hl;obtain⟨_,g2,g3,g4,g5,_⟩:=yB0 hv hps.2.2.2.2.2.2;have h:=zW0 n fine a ao ra zl cap ko co bv ov kv cv nr rc g 0 ln lc zs os vs (D i).2 R2 W (hA.below hW) (hO.below hW) (hV.below hW) hlz hlo hlv hko hkv HCB hps (by rw[<-hn];exact g4) (by rw[<-hl];exact g5) g2 g3 (hp.ad (fun s hs=>((zD1 hv).2.2.2.1 s hs).1)) (fun k hx=>ys8 hp hx);obtain⟨k1,k2⟩:=z70 (n:=n) (fine:=fine) (zs:=zs) (os:=os) (vs:=vs) (ko:=ko) (kv:=kv) (D i).2.length (D i).2 hk;rw[k2,hGi]at h;rw[hGi]at k1;refine h.mono ?_;rintro e w' ⟨ra2,n2,rc2,gl,l2,lc2,S,h0,h1,h2,h3,h4,h5⟩;exact⟨ra2,n2,rc2,gl,l2,lc2,S,h0,h1,h2,h3,h4.trans k1,h5⟩
 ·intro i W ra la nr rc ln lc R2 hf hW hp hk
  have hv:zc3 n zs os vs ko kv fine R2 (G i).2=0:=by rw[zd2 _ hk];exact hgh i hf
  obtain⟨b1,b2,b3,b4,b5,b6⟩:=zD1 hv;have h:=z85 3 n fine a ao _ ra la zl cap ko co kv cv nr rc ln lc zs os vs (G i).2 R2 W (hA.below hW) (hO.below hW) (hV.below hW) hlz hlo hlv b1 b2 hp (by rw[<-hp.1];exact b3) (fun r hr=>by have:=(b4 r hr).2;omega) (by rw[<-hp.2.1];exact b5) b6;have hB:dcB 3 n fine zs os vs ko kv (G i).1 (G i).2=true:=by
   unfold dcB;rw[hgh i hf];rfl
  have e1:dcR 3 n fine zs os vs ko kv (G i).1 (G i).2=dsR n fine zs os vs ko kv (G i).2 3 (G i).1:=by
   unfold dcR;rw[hB];rfl
  have e2:dcL 3 n fine zs os vs ko kv (G i).1 (G i).2=(G i).2:=by
   unfold dcL;rw[hB];rfl
  have k1:=yC5 3 n fine zs os vs ko kv (G i).2 hk;rw[yF8 _ _ _ _ _ _ _ _ _ hk,yC6 _ _ _ _ _ _ _ _ _ hk,e2]at h;rw[e1]at k1;refine h.mono ?_;rintro e w' ⟨ra2,n2,rc2,la2,l2,lc2,S,h0,h1,h2,h3,h4,h5⟩;exact⟨ra2,n2,rc2,la2,l2,lc2,S,h0,h1,h2,h3,h4.trans k1,h5⟩
 ·intro i W ra la nr rc ln lc R2 hf hW hp hk
  have hy:=yy3 3 (hgh i hf);have h:=ya8 n fine a ao _ ra la zl cap ko co kv cv nr rc ln lc zs os vs _ R2 W (hA.below hW) (hO.below hW) (hV.below hW) hlz hlo hlv hp (by rw[zd2 _ hk];exact hy);rw[zu1 _ hk]at h;exact h
 ·intro i W ra la nr rc ln lc R2 hW hp hk
  have h:=ya8 n fine a ao _ ra la zl cap ko co kv cv nr rc ln lc zs os vs _ R2 W (hA.below hW) (hO.below hW) (hV.below hW) hlz hlo hlv hp (by rw[zd2 _ hk];exact(held i).1);rw[zu1 _ hk,<-hC]at h;exact h
 ·intro i hf hlt
  rw[hC]at hlt;have hb:seB (P i).2 (seK i) n fine zs os vs ko kv (P i).1.1 (P i).1.2=true:=by
   unfold seB;rw[zY,qZ,hsd];exact⟨hf,hlt⟩
  have e:(P (i+1)).1=(dsR n fine zs os vs ko kv (G i).2 3 (G i).1,(G i).2):=by
   rw[hstep,<-hsd];show seN _ _ _ _ _ _ _ _ _ _ _=_;unfold seN;rw[hb,qY]
  exact⟨by rw[e],by rw[e],by rw[hC,e]⟩
 ·intro i hno
  have hb:seB (P i).2 (seK i) n fine zs os vs ko kv (P i).1.1 (P i).1.2=false:=by
   rw[<-Bool.not_eq_true];unfold seB;rw[zY,qZ,hsd];exact fun h=>hno h.1 (by rw[hC];exact h.2)
  have e:(P (i+1)).1=(P i).1:=by
   rw[hstep];show seN _ _ _ _ _ _ _ _ _ _ _=_;unfold seN;rw[hb];rfl
  exact⟨by rw[e],by rw[e],by rw[hC,hC,e]⟩
