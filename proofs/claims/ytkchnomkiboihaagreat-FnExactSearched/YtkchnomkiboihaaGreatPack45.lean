import Derived.Test.YtkchnomkiboihaaGreatPack41
import Derived.Test.YtkchnomkiboihaaGreatSpecSteps
set_option linter.unusedSimpArgs false
set_option maxHeartbeats 8000000
set_option maxRecDepth 10000
namespace Go.Proofs.YtkchnomkiboihaaGreat
theorem ja:type_of% @Go.RowKit.Below.mono:=@Go.RowKit.Below.mono
open Value renaming slice→za,int→zc,ownBlock→zm
open IntKind renaming i64→zb
open Obj renaming cells→zd
open Proofs.Tryz renaming prog→ze
open Go renaming World→zg
open Act renaming put→zi
open List renaming length→zj
open Go.RowKit
open Q
def yF2(w:zg)(f:Bool)(X:List Int)(T:List RT)(L:List Int)(e:Ending)(w':zg):Prop:=∃ra rn rc la ln lc S tv,e=.returned (.tuple #[.agg #[za ra rn rc,za la ln lc],tv,.bool f])/\Below w.heap.size w w'/\S.length=rn/\L.length=ln/\S.map RT.key=T.map RT.key/\PO w' w.heap.size (za ra rn rc) S (za la ln lc) L/\w'.ownsRow w.heap.size 2 1 tv X.length (X.map (zc zb))
structure SeQ(w W:zg)(cs ps:Array Value)(kn:Nat)(ra la:Option Addr)(rn rc ln lc z c k:Nat)(S:List RT)(L X:List Int):Prop where
 q:GQ w W cs ps
 n:W.heap[kn]? =some (zd #[za ra rn rc,za la ln lc] 33 (0,0))
 p:PO W (w.heap.size+3) (za ra rn rc) S (za la ln lc) L
 hn:S.length=rn
 hl:L.length=ln
 t:W.ownsRow (kn+1) 2 1 (za (some ⟨z,0,none⟩) k c) k (X.map (zc zb))
 o:Off z ra la S
section
variable {w W W':zg} {cs ps:Array Value} {kn rn rc ln lc z c k:Nat} {ra la:Option Addr} {S:List RT} {L X:List Int}
theorem SeQ.below(h:SeQ w W cs ps kn ra la rn rc ln lc z c k S L X)(hb:Below W.heap.size W W'):SeQ w W' cs ps kn ra la rn rc ln lc z c k S L X:=
 ⟨h.q.below hb,za0 hb (za2 h.n) h.n,h.p.below hb,h.hn,h.hl,zu5 h.t hb (fun k e=>(h.t.lt k e).2),h.o⟩
theorem SeQ.zz(h:SeQ w W cs ps kn ra la rn rc ln lc z c k S L X):kn<z/\z<W.heap.size:=h.t.lt z rfl
theorem SeQ.ne(h:z≠kn):(za (some ⟨z,0,none⟩) k c).ownBlock≠some kn:=fun e=>h (by simpa[zm]using e)
theorem SeQ.take{b1 b2:Option Addr}{m1 d1 m2 d2:Nat}{S2:List RT}{L2:List Int}(h:SeQ w W cs ps kn ra la rn rc ln lc z c k S L X)(hk:w.heap.size+3<=kn)(hp:PO W (w.heap.size+3) (za b1 m1 d1) S2 (za b2 m2 d2) L2)(h1:S2.length=m1)(h2:L2.length=m2)(ho:Off z b1 b2 S2):SeQ w ((W.setCell ⟨kn,0,none⟩ (za b1 m1 d1)).setCell ⟨kn,1,none⟩ (za b2 m2 d2)) cs ps kn b1 b2 m1 d1 m2 d2 z c k S2 L2 X:=
 ⟨(h.q.set hk).set hk,zi8 h.n,hp.box2 h.n,h1,h2,zf1 (zf1 h.t 0 _ (SeQ.ne (by have:=h.zz;omega))) 1 _ (SeQ.ne (by have:=h.zz;omega)),ho⟩
theorem SeQ.app{v:Value}{x:Int}(h:SeQ w W cs ps kn ra la rn rc ln lc z c k S L X)(hk:w.heap.size+3<=kn)(hg:W.grownBy W' (some z))(ho:W'.ownsRow (kn+1) 2 1 v (k+1) ((X++[x]).map (zc zb)))(hv:v.ownBlock=some z∨v.ownBlock=some W.heap.size):∃z8 c8,v=za (some ⟨z8,0,none⟩) (k+1) c8/\SeQ w W' cs ps kn ra la rn rc ln lc z8 c8 (k+1) S L (X++[x]):=by
 have hz:=h.zz;rcases own_kinds ho with⟨_,h2⟩|⟨z8,c8,h1,_⟩
 ·omega
 subst h1;refine⟨z8,c8,rfl,h.q.grownL hg (by omega),(hg.block kn (za2 h.n) (fun e=>by injection e with e;omega)).trans h.n,h.p.grownL hg h.o,h.hn,h.hl,ho,?_⟩;rcases hv with e|e
 ·rw[show z8=z by simpa[zm]using e];exact h.o
 ·rw[show z8=W.heap.size by simpa[zm]using e];exact ys8 h.p (zQ _)
end
theorem zB5(sd st n fine:Int)(a ao ra la:Option Addr)(zl cap ko co bv ov kv cv nr rc ln lc:Nat)(zs os vs L:List Int)(R:List RT)(w:zg)(hA:za3 w a zs)(hO:za3 w ao os)(hV:za3 w (some ⟨bv,ov,none⟩) vs)(hlz:zs.length=zl)(hlo:os.length=ko*6)(hlv:vs.length=kv*5)(hko:ko<=9223372036854775807)(hkv:kv<=9223372036854775807)(hP:zb8 w ra la nr ln R L)(hn:nr<=1048576)(hi:∀r∈R,r.ids.length<=1048576)(hll:ln<=1048576)(hal:(za8 R R.length).length<=1048576):
 Calls ze 8 #[.agg #[zc zb n,za a zl cap,za ao ko co,za (some ⟨bv,ov,none⟩) kv cv,zc zb fine],.agg #[za ra nr rc,za la ln lc],zc zb sd,zc zb st] w (yF2 w (sgB sd st n fine zs os vs ko kv R L) (sgT sd st n fine zs os vs ko kv R L) (sgR sd st n fine zs os vs ko kv R L) (sgL sd st n fine zs os vs ko kv R L)):=by
 have HA:=za4 hA;have HO:=za4 hO;have HV:=za4 hV;have HLZ:=za4 hlz;have HLO:=za4 hlo;have HLV:=za4 hlv;have HP:=za4 hP;have HN:Hid (R.length=nr):=hP.1;have HM:Hid (L.length=ln):=hP.2.1;clear hA hO hV hlz hlo hlv hP;obtain⟨pv,HPV⟩:=nmd (zc3 n zs os vs ko kv fine R L);obtain⟨k1,HK1⟩:=nmd (inB st 0 60);obtain⟨s1,HS1⟩:=nmd (inB sd 0 2147483647);have HDB:Hid (sgB sd st n fine zs os vs ko kv R L=(decide (pv=0)&&(k1&&s1))):=by show _=_;unfold sgB;rw[HPV.X,HK1.X,HS1.X]
 obtain⟨GB,HGB⟩:=nmd (sgB sd st n fine zs os vs ko kv R L);have HNO:Hid (GB=false->sgR sd st n fine zs os vs ko kv R L=[]/\sgL sd st n fine zs os vs ko kv R L=[]/\sgT sd st n fine zs os vs ko kv R L=[]):=fun h=>by
  unfold sgR sgL sgT;rw[HGB.X,h];exact⟨rfl,rfl,rfl⟩
 have HYS:Hid (GB=true->sgR sd st n fine zs os vs ko kv R L=(seP sd n fine zs os vs ko kv R L st.toNat).1.1/\sgL sd st n fine zs os vs ko kv R L=(seP sd n fine zs os vs ko kv R L st.toNat).1.2/\sgT sd st n fine zs os vs ko kv R L=seT sd n fine zs os vs ko kv R L st.toNat):=fun h=>by
  unfold sgR sgL sgT;rw[HGB.X,h];exact⟨rfl,rfl,rfl⟩
 obtain⟨GR,HGR⟩:=nmd (sgR sd st n fine zs os vs ko kv R L);obtain⟨GL,HGL⟩:=nmd (sgL sd st n fine zs os vs ko kv R L);obtain⟨GT,HGT⟩:=nmd (sgT sd st n fine zs os vs ko kv R L);rw[HGR.X,HGL.X,HGT.X]at HNO HYS;rw[HGB.X]at HDB;rw[HGB.X,HGR.X,HGL.X,HGT.X];clear HGB HGR HGL HGT;have Q0:Hid (GQ w (((w.alloc (zd #[zc zb n,za a zl cap,za ao ko co,za (some ⟨bv,ov,none⟩) kv cv,zc zb fine] 30)).alloc (zd #[za ra nr rc,za la ln lc] 33)).alloc (zd #[za none 0 0,za none 0 0] 33)) #[zc zb n,za a zl cap,za ao ko co,za (some ⟨bv,ov,none⟩) kv cv,zc zb fine] #[za ra nr rc,za la ln lc]):=by
  refine⟨((zK _).alloc (by simp) _).alloc (by simp;omega) _,?_,?_,?_⟩
  ·exact(yY _ _ (by simp;omega)).trans (xb _ _ _)
  ·exact(yY _ _ (by simp)).trans (y8 _ _ _)
  ·have:=zN ((w.alloc (zd #[zc zb n,za a zl cap,za ao ko co,za (some ⟨bv,ov,none⟩) kv cv,zc zb fine] 30)).alloc (zd #[za ra nr rc,za la ln lc] 33)) (zd #[za none 0 0,za none 0 0] 33)
   simpa using this
 have PC:=zj3 n fine a ao _ ra la cap ko co kv cv rc lc zs os vs L R (((w.alloc (zd #[zc zb n,za a zl cap,za ao ko co,za (some ⟨bv,ov,none⟩) kv cv,zc zb fine] 30)).alloc (zd #[za ra nr rc,za la ln lc] 33)).alloc (zd #[za none 0 0,za none 0 0] 33)) (HA.X.below Q0.X.b) (HO.X.below Q0.X.b) (HV.X.below Q0.X.b) (HP.X.2.2.1.below Q0.X.b) (HP.X.2.2.2.1.below Q0.X.b) HLO.X HLV.X hko hkv (by rw[HN.X];exact hn) hi HP.X.2.2.2.2.2.2 (by rw[HM.X];exact hll) hal;rw[HN.X,HM.X,HLZ.X,HPV.X]at PC;obtain⟨c0,c1,c2,c3,c4⟩:=za7 Q0.X.c;obtain⟨p0,p1⟩:=za1 Q0.X.p;go_enter Tryz.func8,Tryz.ntmps8
 go_wp2_with fail
 generalize((w.alloc (zd #[zc zb n,za a zl cap,za ao ko co,za (some ⟨bv,ov,none⟩) kv cv,zc zb fine] 30)).alloc (zd #[za ra nr rc,za la ln lc] 33)).alloc (zd #[za none 0 0,za none 0 0] 33)=W0 at*;refine PC.mono ?_;rintro e w1 ⟨rfl,hb⟩;have Q1:=za4 (Q0.X.below hb);clear hb PC c0 c1 c2 c3 c4 p0 p1 Q0 hi hal;by_cases hpv:pv=0
 ·subst hpv
  rw[zS rfl,qW]at HDB;cases k1
  ·obtain⟨a0,a1⟩:=za1 Q1.X.o
   have af:=fun i=>yU _ _ i _ _ Q1.X.o;have HBF:GB=false:=by rw[HDB.X];try rfl
   subst HBF;obtain⟨g2,g3,g4⟩:=HNO.X rfl;subst g2 g3 g4;clear HNO HYS;have B5:Hid (Below w.heap.size w ((w1.setCell ⟨w.heap.size+2,0,none⟩ (za none 0 0)).setCell ⟨w.heap.size+2,1,none⟩ (za none 0 0))):=(Q1.X.b.setCell (by simp) _).setCell (by simp) _
   go_wp2_with(go_at_call 39;refine(zc0 _ _ _ _).mono ?_;rintro e w' ⟨rfl,hw'⟩;subst w';first|rw[HK1.X]|rw[HS1.X])
   refine yX (v:=.tuple #[.agg #[za none 0 0,za none 0 0],za none 0 0,.bool false]) (by simp[results,Tryz.results8,go_sem,a0,a1]) rfl ?_;exact⟨none,0,0,none,0,0,[],za none 0 0,rfl,B5.X,rfl,rfl,rfl,⟨qP _ _ _ _,(fun s hs=>by cases hs),qP _ _ _ _⟩,qP _ _ _ _⟩
  ·cases s1
   ·obtain⟨a0,a1⟩:=za1 Q1.X.o
    have af:=fun i=>yU _ _ i _ _ Q1.X.o;have HBF:GB=false:=by rw[HDB.X];try rfl
    subst HBF;obtain⟨g2,g3,g4⟩:=HNO.X rfl;subst g2 g3 g4;clear HNO HYS;have B5:Hid (Below w.heap.size w ((w1.setCell ⟨w.heap.size+2,0,none⟩ (za none 0 0)).setCell ⟨w.heap.size+2,1,none⟩ (za none 0 0))):=(Q1.X.b.setCell (by simp) _).setCell (by simp) _
    go_wp2_with(go_at_call 39;refine(zc0 _ _ _ _).mono ?_;rintro e w' ⟨rfl,hw'⟩;subst w';first|rw[HK1.X]|rw[HS1.X])
    refine yX (v:=.tuple #[.agg #[za none 0 0,za none 0 0],za none 0 0,.bool false]) (by simp[results,Tryz.results8,go_sem,a0,a1]) rfl ?_;exact⟨none,0,0,none,0,0,[],za none 0 0,rfl,B5.X,rfl,rfl,rfl,⟨qP _ _ _ _,(fun s hs=>by cases hs),qP _ _ _ _⟩,qP _ _ _ _⟩
   ·have HBT:GB=true:=HDB.X
    subst HBT;clear HNO HDB;obtain⟨ys1,ys2,ys3⟩:=HYS.X rfl;clear HYS;have hst:=zc7 HK1.X;obtain⟨N,hN⟩:=xm hst.1;have hN60:N<=60:=by omega
    subst hN;rw[yk]at ys1 ys2 ys3;obtain⟨DR,DM,F,XR,XM,YR,YM,YC,XN,ST0⟩:=yI5 sd n fine a ao bv ov zl cap ko co kv cv zs os vs L R w HA.X HO.X HV.X HLZ.X HLO.X HLV.X HPV.X HS1.X;obtain⟨-,-,-,q4,-,-⟩:=zD1 HPV.X;have CC:=fun W (hW:Below w.heap.size w W)=>zz4 ra la rc lc R L W (HP.X.2.2.1.below hW) (HP.X.2.2.2.1.below hW) (HP.X.2.2.2.2.2.1.imp (fun h=>⟨h.1,HP.X.2.1.trans h.2⟩) id) (by have:=(ze4 HPV.X).1;omega) (fun r hr=>⟨(q4 r hr).1,by have:=(q4 r hr).2;omega⟩) (by have:=(ze4 HPV.X).2.1;omega)
    have T0:seT sd n fine zs os vs ko kv R L 0=[seC sd n fine zs os vs ko kv R L 0]:=rfl;have TS0:=yl5 sd n fine zs os vs ko kv R L;have TL0:=yh3 sd n fine zs os vs ko kv R L;have SR0:(seP sd n fine zs os vs ko kv R L 0).1.1=R:=rfl;have SM0:(seP sd n fine zs os vs ko kv R L 0).1.2=L:=rfl;have SD0:(seP sd n fine zs os vs ko kv R L 0).2=sd:=rfl;obtain⟨C,HC⟩:=nmd (seC sd n fine zs os vs ko kv R L);obtain⟨T,HT⟩:=nmd (seT sd n fine zs os vs ko kv R L);obtain⟨SR,HSR⟩:=nmd (fun i=>(seP sd n fine zs os vs ko kv R L i).1.1);obtain⟨SM,HSM⟩:=nmd (fun i=>(seP sd n fine zs os vs ko kv R L i).1.2);obtain⟨SD,HSD⟩:=nmd (fun i=>(seP sd n fine zs os vs ko kv R L i).2);rw[HC.X,HSR.X,HSM.X,HSD.X]at ST0;rw[HC.X]at T0 TS0;rw[HT.X]at T0 TS0 TL0 ys3;rw[congrFun HSR.X 0]at SR0;rw[congrFun HSM.X 0]at SM0;rw[congrFun HSD.X 0]at SD0;rw[congrFun HSR.X N]at ys1;rw[congrFun HSM.X N]at ys2;have ST:Hid _:=ST0;have TS:=za4 TS0;have TL:=za4 TL0;have TZ:=za4 T0;subst ys1 ys2 ys3;subst SR0 SM0 SD0;clear ST0 TS0 TL0 T0 HC HT HSR HSM HSD hst HPV q4;have CPY:=CC w1 Q1.X.b;rw[HN.X,HM.X]at CPY;obtain⟨p0,p1⟩:=za1 Q1.X.p
    go_wp2_with(go_at_call 39;refine(zc0 _ _ _ _).mono ?_;rintro e w' ⟨rfl,hw'⟩;subst w';first|rw[HK1.X]|rw[HS1.X])
    refine CPY.mono ?_;rintro e w2 ⟨ra2,rc2,gl2,lc2,S2,rfl,hb,hk2,ho⟩;rw[HN.X,HM.X]at ho⊢;have Q2:=za4 (Q1.X.below hb);have P2:Hid (PO w2 (w.heap.size+3) (za ra2 nr rc2) S2 (za (some ⟨gl2,0,none⟩) ln lc2) (SM 0)):=ho.base (by have:=Q1.X.size;omega);have K2:=za4 hk2;clear hb hk2 ho CPY CC p0 p1 Q1;have V3:Hid ((w2.alloc (zd #[za ra2 nr rc2,za (some ⟨gl2,0,none⟩) ln lc2] 33)).heap[w2.heap.size]? =some (zd #[za ra2 nr rc2,za (some ⟨gl2,0,none⟩) ln lc2] 33 (0,0))):=by
     exact zN _ _
    have hW3:Below w2.heap.size w2 (w2.alloc (zd #[za ra2 nr rc2,za (some ⟨gl2,0,none⟩) ln lc2] 33)):=zK _;have Q3:=za4 (Q2.X.below hW3);have P3:=za4 (P2.X.below hW3);have HKN:Hid (w.heap.size+3<=w2.heap.size):=Q2.X.size;have HNR:Hid (S2.length=nr):=by have:=congrArg zj K2.X;simp only[qn]at this;exact this.trans HN.X
    have CC3:=ST.X.cost 0 _ ra2 (some ⟨gl2,0,none⟩) nr rc2 ln lc2 S2 Q3.X.b (P3.X.is HNR.X HM.X) K2.X;go_upto_region 4 with fail;clear hW3 Q2 P2;obtain⟨kn,hkn⟩:=nmd w2.heap.size;rw[hkn.X]at V3 HKN⊢;generalize w2.alloc (zd #[za ra2 nr rc2,za (some ⟨gl2,0,none⟩) ln lc2] 33)=w3 at*;obtain⟨c0,c1,c2,c3,c4⟩:=za7 Q3.X.c;obtain⟨n0,n1⟩:=za1 V3.X
    go_wp2_with fail
    refine CC3.mono ?_;rintro e w4 ⟨rfl,hb⟩;have hkn3:w.heap.size+3<=kn:=HKN.X;have S4:Hid (SeQ w (w4.alloc (zd #[zc zb (C 0)] 2)) #[zc zb n,za a zl cap,za ao ko co,za (some ⟨bv,ov,none⟩) kv cv,zc zb fine] #[za ra nr rc,za la ln lc] kn ra2 (some ⟨gl2,0,none⟩) nr rc2 ln lc2 w4.heap.size 1 (0+1) S2 (SM 0) (T 0)):=by
     have hA:Below w3.heap.size w3 (w4.alloc (zd #[zc zb (C 0)] 2)):=hb.trans (ja ((yV w4.heap.size w4).alloc (zQ _) _) hb.size);have h3:kn+1<=w4.heap.size:=y7 (za2 V3.X) hb.size;refine⟨Q3.X.below hA,za0 hA (za2 V3.X) V3.X,P3.X.below hA,HNR.X,HM.X,?_,ys8 (P3.X.below hb) (zQ _)⟩;rw[TZ.X];exact⟨rfl,.inr ⟨w4.heap.size,1,#[zc zb (C 0)],rfl,h3,zN _ _,by simp[maxLen]⟩⟩
    clear hb Q3 P3 V3 n0 n1 c0 c1 c2 c3 c4 CC3 HNR TZ
    go_wp2_with fail
    go_loopw[2,12,13] (fun s2 s12 s13 wr=>∃(i:Nat) (ra9 la9:Option Addr) (rn9 rc9 ln9 lc9 z9 c9:Nat) (R9:List RT),i<=N/\s13=zc zb i/\s2=zc zb (SD i)/\s12=za (some ⟨z9,0,none⟩) (i+1) c9/\SeQ w wr #[zc zb n,za a zl cap,za ao ko co,za (some ⟨bv,ov,none⟩) kv cv,zc zb fine] #[za ra nr rc,za la ln lc] kn ra9 la9 rn9 rc9 ln9 lc9 z9 c9 (i+1) R9 (SM i) (T i)/\R9.map RT.key=(SR i).map RT.key) (fun _ _ t _=>N - (intOf t).toNat)
    case atStart=>exact⟨0,ra2,_,nr,rc2,ln,lc2,w4.heap.size,1,S2,yZ _,rfl,rfl,rfl,S4.X,K2.X⟩
    case round=>
     clear S4 K2;obtain⟨i,ra9,la9,rn9,rc9,ln9,lc9,z9,c9,R9,hi,rfl,rfl,rfl,hq,hk⟩:=hrel;have S5:=za4 hq;have K5:=za4 hk;clear hq hk;by_cases hlt:i<N
     ·have hltI:(i:Int)<(N:Int):=by omega
      have hrem:Int.tmod (i:Int) 3=((i % 3:Nat):Int):=by first|rfl|exact(Int.ofNat_tmod i 3).symm|exact(Int.natCast_tmod i 3).symm
      have hj3:i % 3<3:=Nat.mod_lt _ (by omega);have DS:=ST.X.dest i wr ra9 la9 rn9 rc9 ln9 lc9 R9 S5.X.q.b (S5.X.p.is S5.X.hn S5.X.hl) K5.X;obtain⟨c0,c1,c2,c3,c4⟩:=za7 S5.X.q.c;obtain⟨n0,n1⟩:=za1 S5.X.n
      go_wp2_with fail
      refine DS.mono ?_;rintro e w2 ⟨ra2,n2,rc2,la2,l2,lc2,R2,rfl,hb,hn2,hl2,hk2,hp2,hg2⟩;have hz:=S5.X.zz;have hsz:=hb.size;have S6:=S5.X.below hb;have h0:=S6.q.size;clear DS c0 c1 c2 c3 c4 n0 n1 hrem hj3;have hA:Below w2.heap.size w2 (w2.alloc (zd #[za ra2 n2 rc2,za la2 l2 lc2] 33)):=zK _;have HX:Hid ((w2.alloc (zd #[za ra2 n2 rc2,za la2 l2 lc2] 33)).heap[w2.heap.size]? =some (zd #[za ra2 n2 rc2,za la2 l2 lc2] 33 (0,0))):=zN _ _;have S7:=za4 (S6.below hA);have X7:Hid (PO (w2.alloc (zd #[za ra2 n2 rc2,za la2 l2 lc2] 33)) (w.heap.size+3) (za ra2 n2 rc2) R2 (za la2 l2 lc2) (DM i)):=(hp2.base S5.X.q.size).below hA;have KX:=za4 hk2;have HL2:Hid (R2.length=n2/\(DM i).length=l2):=⟨hn2,hl2⟩;have HG2:=za4 hg2;have HZ:Hid (w.heap.size+3<=kn/\kn<z9/\z9<w2.heap.size/\kn≠w2.heap.size/\z9≠w2.heap.size):=⟨HKN.X,hz.1,by omega,by omega,by omega⟩;clear hb hn2 hl2 hk2 hp2 hg2 S6 S5 h0 hsz hz hA;go_upto_if 57 with fail;obtain⟨kx,hkx⟩:=nmd w2.heap.size;rw[hkx.X]at HX HZ⊢;generalize w2.alloc (zd #[za ra2 n2 rc2,za la2 l2 lc2] 33)=w6 at*;go_cut [16]from 45 to 73 (fun s16 wx=>∃(ra4 la4:Option Addr) (rn4 rc4 ln4 lc4:Nat) (R4:List RT),SeQ w wx #[zc zb n,za a zl cap,za ao ko co,za (some ⟨bv,ov,none⟩) kv cv,zc zb fine] #[za ra nr rc,za la ln lc] kn ra4 la4 rn4 rc4 ln4 lc4 z9 c9 (i+1) R4 (SM (i+1)) (T i)/\R4.map RT.key=(SR (i+1)).map RT.key)
      case first=>
       cases hF:F i
       ·obtain⟨e1,e2,e3⟩:=ST.X.no i (fun h=>by rw[hF]at h;cases h)
        go_wp2_with fail
        go_meet;rw[e1,e2];exact⟨_,_,_,_,_,_,_,S7.X,K5.X⟩
       ·obtain⟨gx,hgx⟩:=HG2.X hF
        subst hgx;go_upto_region 11 with fail;go_cut [17]from 58 to 65 (fun s17 wx=>∃(ky:Nat) (ra4 la4:Option Addr) (n4 rc4 l4 lc4:Nat) (R4:List RT),s17=.pointer (some ⟨ky,0,none⟩)/\Below w6.heap.size w6 wx/\w6.heap.size<=ky/\wx.heap[ky]? =some (zd #[za ra4 n4 rc4,za la4 l4 lc4] 33 (0,0))/\PO wx w6.heap.size (za ra4 n4 rc4) R4 (za la4 l4 lc4) (YM i)/\R4.length=n4/\(YM i).length=l4/\R4.map RT.key=(YR i).map RT.key)
        case first=>
         have KS:Hid (∀W,Below w6.heap.size w6 W->((W.cell? ⟨w.heap.size,0,none⟩=some (zc zb n)/\W.cell? ⟨w.heap.size,1,none⟩=some (za a zl cap)/\W.cell? ⟨w.heap.size,2,none⟩=some (za ao ko co)/\W.cell? ⟨w.heap.size,3,none⟩=some (za (some ⟨bv,ov,none⟩) kv cv)/\W.cell? ⟨w.heap.size,4,none⟩=some (zc zb fine))/\(W.cell? ⟨kx,0,none⟩=some (za ra2 n2 rc2)/\W.cell? ⟨kx,1,none⟩=some (za (some ⟨gx,0,none⟩) l2 lc2)))):=fun W hW=>⟨za7 (S7.X.below hW).q.c,za1 (za0 hW (za2 HX.X) HX.X)⟩
         go_wp2_with fail
         refine qV (S:=(fun W=>((W.cell? ⟨w.heap.size,0,none⟩=some (zc zb n)/\W.cell? ⟨w.heap.size,1,none⟩=some (za a zl cap)/\W.cell? ⟨w.heap.size,2,none⟩=some (za ao ko co)/\W.cell? ⟨w.heap.size,3,none⟩=some (za (some ⟨bv,ov,none⟩) kv cv)/\W.cell? ⟨w.heap.size,4,none⟩=some (zc zb fine))/\(W.cell? ⟨kx,0,none⟩=some (za ra2 n2 rc2)/\W.cell? ⟨kx,1,none⟩=some (za (some ⟨gx,0,none⟩) l2 lc2))))) (by kernel_rfl) ?_ (fun hHeld=> ?_)
         ·exact KS.X _ (yV _ _).drew
         have B_d:Hid (Below w6.heap.size w6 w6.drew):=(yV _ _).drew;generalize w6.drew=wd at*;refine tkH 0 hHeld ?_;refine tkH 1 hHeld ?_;refine tkH 2 hHeld ?_;refine qT (rs:=[3,8]) (by kernel_rfl) (by simp) ?_;refine qR rfl (fun K hK=> ?_) ?_
         ·skip
          go_simp;refine(ST.X.grd i wd ra2 (w.heap.size+3) gx n2 rc2 l2 lc2 R2 hF (S7.X.q.b.trans (B_d.X.mono S7.X.q.b.size)) (X7.X.below B_d.X) HL2.X.1 HL2.X.2 KX.X).mono ?_;rintro e w8 ⟨ra3,n3,rc3,g3,l3,lc3,R3,rfl,hb,hn3,hl3,hk3,hp3⟩;have B_w8:Hid (Below w6.heap.size w6 w8):=B_d.X.trans (hb.mono B_d.X.size);have G_w8:Hid (zb8 w8 ra3 (some ⟨g3,0,none⟩) n3 l3 R3 (XM i)):=hp3.is hn3 hl3;have KG:=za4 hk3;clear hb hn3 hl3 hk3 hp3
          (try go_wp2_with fail)
          refine hK.out _ _ ?_ (fun hHeld=> ?_)
          ·exact KS.X _ B_w8.X
          clear hK K
          (try simp only[zi,xB,zL,xC])
          refine qT (rs:=[4,8]) (by kernel_rfl) (by simp) ?_;refine qR rfl (fun K hK=> ?_) ?_
          ·skip
           go_simp;refine(ST.X.desc i w8 ra3 (some ⟨g3,0,none⟩) n3 rc3 l3 lc3 R3 hF (S7.X.q.b.trans (B_w8.X.mono S7.X.q.b.size)) G_w8.X KG.X).mono ?_;rintro e w9 ⟨ra4,n4,rc4,la4,l4,lc4,R4,rfl,hb,hn4,hl4,hk4,hp4⟩;have B_w9:Hid (Below w6.heap.size w6 w9):=B_w8.X.trans (hb.mono B_w8.X.size);have P_w9:Hid (PO w9 w6.heap.size (za ra4 n4 rc4) R4 (za la4 l4 lc4) (YM i)):=hp4.base B_w8.X.size;have HY:Hid (R4.length=n4/\(YM i).length=l4/\R4.map RT.key=(YR i).map RT.key):=⟨hn4,hl4,hk4⟩;clear hb hn4 hl4 hk4 hp4
           (try go_wp2_with fail)
           refine hK.out _ _ ?_ (fun hHeld=> ?_)
           ·exact KS.X _ B_w9.X
           clear hK K
           (try simp only[zi,xB,zL,xC])
           refine tkH 5 hHeld ?_;refine tkH 6 hHeld ?_;refine tkH 7 hHeld ?_;refine qT (rs:=[8]) (by kernel_rfl) (by simp) ?_;refine qR rfl (fun K hK=> ?_) qS;have B_z:Hid (Below w6.heap.size w6 (w9.alloc (zd #[za none 0 0,za none 0 0] 33))):=B_w9.X.trans (((yV w9.heap.size w9).alloc (zQ _) (zd #[za none 0 0,za none 0 0] 33)).mono B_w9.X.size);have VZ0:Hid ((w9.alloc (zd #[za none 0 0,za none 0 0] 33)).heap[w9.heap.size]? =some (zd #[za none 0 0,za none 0 0] 33 (0,0))):=zN _ _;have HZL:Hid (w6.heap.size<=w9.heap.size):=B_w9.X.size;have P_z:Hid (PO (w9.alloc (zd #[za none 0 0,za none 0 0] 33)) w6.heap.size (za ra4 n4 rc4) R4 (za la4 l4 lc4) (YM i)):=P_w9.X.below ((yV w9.heap.size w9).alloc (zQ _) (zd #[za none 0 0,za none 0 0] 33));go_simp;refine hK.out _ _ ?_ (fun hHeld=> ?_)
           ·exact KS.X _ B_z.X
           clear hK K
           (try simp only[zi,xB,zL,xC])
           obtain⟨ky,HKZ⟩:=nmd w9.heap.size;rw[HKZ.X]at VZ0 HZL⊢;generalize(w9.alloc (zd #[za none 0 0,za none 0 0] 33))=wz at*;obtain⟨z0,z1⟩:=za1 VZ0.X;have zf:=fun i=>yU _ _ i _ _ VZ0.X;refine qT (rs:=[9]) (by kernel_rfl) (by simp) ?_;refine qR rfl (fun K hK=> ?_) qS;have V9:Hid (((wz.setCell ⟨ky,0,none⟩ (za ra4 n4 rc4)).setCell ⟨ky,1,none⟩ (za la4 l4 lc4)).heap[ky]? =some (zd #[za ra4 n4 rc4,za la4 l4 lc4] 33 (0,0))):=zi8 VZ0.X;have B9:Hid (Below w6.heap.size w6 ((wz.setCell ⟨ky,0,none⟩ (za ra4 n4 rc4)).setCell ⟨ky,1,none⟩ (za la4 l4 lc4))):=(B_z.X.setCell HZL.X _).setCell HZL.X _;have P9:Hid (PO ((wz.setCell ⟨ky,0,none⟩ (za ra4 n4 rc4)).setCell ⟨ky,1,none⟩ (za la4 l4 lc4)) w6.heap.size (za ra4 n4 rc4) R4 (za la4 l4 lc4) (YM i)):=P_z.X.box2 VZ0.X;go_simp;refine hK.out _ _ ?_ (fun hHeld=> ?_)
           ·exact KS.X _ B9.X
           clear hK K;generalize((wz.setCell ⟨ky,0,none⟩ (za ra4 n4 rc4)).setCell ⟨ky,1,none⟩ (za la4 l4 lc4))=w7 at*;refine tkH 10 hHeld ?_;refine qU (by kernel_rfl) ?_ _;clear hHeld
           (try go_wp2_with fail)
           go_meet;exact⟨ky,ra4,la4,n4,rc4,l4,lc4,R4,rfl,B9.X,HZL.X,V9.X,P9.X,HY.X⟩
          refine qR rfl (fun K hK=> ?_) qS;have B_z:Hid (Below w6.heap.size w6 (w8.alloc (zd #[za none 0 0,za none 0 0] 33))):=B_w8.X.trans (((yV w8.heap.size w8).alloc (zQ _) (zd #[za none 0 0,za none 0 0] 33)).mono B_w8.X.size);have VZ0:Hid ((w8.alloc (zd #[za none 0 0,za none 0 0] 33)).heap[w8.heap.size]? =some (zd #[za none 0 0,za none 0 0] 33 (0,0))):=zN _ _;have HZL:Hid (w6.heap.size<=w8.heap.size):=B_w8.X.size;have G_z:Hid (zb8 (w8.alloc (zd #[za none 0 0,za none 0 0] 33)) ra3 (some ⟨g3,0,none⟩) n3 l3 R3 (XM i)):=G_w8.X.below ((yV w8.heap.size w8).alloc (zQ _) (zd #[za none 0 0,za none 0 0] 33));go_simp;refine hK.out _ _ ?_ (fun hHeld=> ?_)
          ·exact KS.X _ B_z.X
          clear hK K
          (try simp only[zi,xB,zL,xC])
          obtain⟨ky,HKZ⟩:=nmd w8.heap.size;rw[HKZ.X]at VZ0 HZL⊢;generalize(w8.alloc (zd #[za none 0 0,za none 0 0] 33))=wz at*;obtain⟨z0,z1⟩:=za1 VZ0.X;have zf:=fun i=>yU _ _ i _ _ VZ0.X;refine qT (rs:=[4]) (by kernel_rfl) (by simp) ?_;refine qR rfl (fun K hK=> ?_) qS;go_simp;refine(ST.X.desc i wz ra3 (some ⟨g3,0,none⟩) n3 rc3 l3 lc3 R3 hF (S7.X.q.b.trans (B_z.X.mono S7.X.q.b.size)) G_z.X KG.X).mono ?_;rintro e w9 ⟨ra4,n4,rc4,la4,l4,lc4,R4,rfl,hb,hn4,hl4,hk4,hp4⟩;have B_w9:Hid (Below w6.heap.size w6 w9):=B_z.X.trans (hb.mono B_z.X.size);have P_w9:Hid (PO w9 w6.heap.size (za ra4 n4 rc4) R4 (za la4 l4 lc4) (YM i)):=hp4.base B_z.X.size;have HY:Hid (R4.length=n4/\(YM i).length=l4/\R4.map RT.key=(YR i).map RT.key):=⟨hn4,hl4,hk4⟩;have VZ_w9:=za4 (za0 hb (za2 VZ0.X) VZ0.X);obtain⟨z0,z1⟩:=za1 VZ_w9.X;have zf:=fun i=>yU _ _ i _ _ VZ_w9.X;clear hb hn4 hl4 hk4 hp4
          (try go_wp2_with fail)
          refine hK.out _ _ ?_ (fun hHeld=> ?_)
          ·exact KS.X _ B_w9.X
          clear hK K
          (try simp only[zi,xB,zL,xC])
          refine tkH 5 hHeld ?_;refine tkH 6 hHeld ?_;refine tkH 7 hHeld ?_;refine qT (rs:=[9]) (by kernel_rfl) (by simp) ?_;refine qR rfl (fun K hK=> ?_) qS;have V9:Hid (((w9.setCell ⟨ky,0,none⟩ (za ra4 n4 rc4)).setCell ⟨ky,1,none⟩ (za la4 l4 lc4)).heap[ky]? =some (zd #[za ra4 n4 rc4,za la4 l4 lc4] 33 (0,0))):=zi8 VZ_w9.X;have B9:Hid (Below w6.heap.size w6 ((w9.setCell ⟨ky,0,none⟩ (za ra4 n4 rc4)).setCell ⟨ky,1,none⟩ (za la4 l4 lc4))):=(B_w9.X.setCell HZL.X _).setCell HZL.X _;have P9:Hid (PO ((w9.setCell ⟨ky,0,none⟩ (za ra4 n4 rc4)).setCell ⟨ky,1,none⟩ (za la4 l4 lc4)) w6.heap.size (za ra4 n4 rc4) R4 (za la4 l4 lc4) (YM i)):=P_w9.X.box2 VZ_w9.X;go_simp;refine hK.out _ _ ?_ (fun hHeld=> ?_)
          ·exact KS.X _ B9.X
          clear hK K;generalize((w9.setCell ⟨ky,0,none⟩ (za ra4 n4 rc4)).setCell ⟨ky,1,none⟩ (za la4 l4 lc4))=w7 at*;refine tkH 10 hHeld ?_;refine qU (by kernel_rfl) ?_ _;clear hHeld
          (try go_wp2_with fail)
          go_meet;exact⟨ky,ra4,la4,n4,rc4,l4,lc4,R4,rfl,B9.X,HZL.X,V9.X,P9.X,HY.X⟩
         refine qR rfl (fun K hK=> ?_) qS;have B_z:Hid (Below w6.heap.size w6 (wd.alloc (zd #[za none 0 0,za none 0 0] 33))):=B_d.X.trans (((yV wd.heap.size wd).alloc (zQ _) (zd #[za none 0 0,za none 0 0] 33)).mono B_d.X.size);have VZ0:Hid ((wd.alloc (zd #[za none 0 0,za none 0 0] 33)).heap[wd.heap.size]? =some (zd #[za none 0 0,za none 0 0] 33 (0,0))):=zN _ _;have HZL:Hid (w6.heap.size<=wd.heap.size):=B_d.X.size;go_simp;refine hK.out _ _ ?_ (fun hHeld=> ?_)
         ·exact KS.X _ B_z.X
         clear hK K
         (try simp only[zi,xB,zL,xC])
         obtain⟨ky,HKZ⟩:=nmd wd.heap.size;rw[HKZ.X]at VZ0 HZL⊢;generalize(wd.alloc (zd #[za none 0 0,za none 0 0] 33))=wz at*;obtain⟨z0,z1⟩:=za1 VZ0.X;have zf:=fun i=>yU _ _ i _ _ VZ0.X;refine qT (rs:=[3]) (by kernel_rfl) (by simp) ?_;refine qR rfl (fun K hK=> ?_) qS;go_simp;refine(ST.X.grd i wz ra2 (w.heap.size+3) gx n2 rc2 l2 lc2 R2 hF (S7.X.q.b.trans (B_z.X.mono S7.X.q.b.size)) (X7.X.below B_z.X) HL2.X.1 HL2.X.2 KX.X).mono ?_;rintro e w8 ⟨ra3,n3,rc3,g3,l3,lc3,R3,rfl,hb,hn3,hl3,hk3,hp3⟩;have B_w8:Hid (Below w6.heap.size w6 w8):=B_z.X.trans (hb.mono B_z.X.size);have G_w8:Hid (zb8 w8 ra3 (some ⟨g3,0,none⟩) n3 l3 R3 (XM i)):=hp3.is hn3 hl3;have KG:=za4 hk3;have VZ_w8:=za4 (za0 hb (za2 VZ0.X) VZ0.X);obtain⟨z0,z1⟩:=za1 VZ_w8.X;have zf:=fun i=>yU _ _ i _ _ VZ_w8.X;clear hb hn3 hl3 hk3 hp3
         (try go_wp2_with fail)
         refine hK.out _ _ ?_ (fun hHeld=> ?_)
         ·exact KS.X _ B_w8.X
         clear hK K
         (try simp only[zi,xB,zL,xC])
         refine qT (rs:=[4]) (by kernel_rfl) (by simp) ?_;refine qR rfl (fun K hK=> ?_) qS;go_simp;refine(ST.X.desc i w8 ra3 (some ⟨g3,0,none⟩) n3 rc3 l3 lc3 R3 hF (S7.X.q.b.trans (B_w8.X.mono S7.X.q.b.size)) G_w8.X KG.X).mono ?_;rintro e w9 ⟨ra4,n4,rc4,la4,l4,lc4,R4,rfl,hb,hn4,hl4,hk4,hp4⟩;have B_w9:Hid (Below w6.heap.size w6 w9):=B_w8.X.trans (hb.mono B_w8.X.size);have P_w9:Hid (PO w9 w6.heap.size (za ra4 n4 rc4) R4 (za la4 l4 lc4) (YM i)):=hp4.base B_w8.X.size;have HY:Hid (R4.length=n4/\(YM i).length=l4/\R4.map RT.key=(YR i).map RT.key):=⟨hn4,hl4,hk4⟩;have VZ_w9:=za4 (za0 hb (za2 VZ_w8.X) VZ_w8.X);obtain⟨z0,z1⟩:=za1 VZ_w9.X;have zf:=fun i=>yU _ _ i _ _ VZ_w9.X;clear hb hn4 hl4 hk4 hp4
         (try go_wp2_with fail)
         refine hK.out _ _ ?_ (fun hHeld=> ?_)
         ·exact KS.X _ B_w9.X
         clear hK K
         (try simp only[zi,xB,zL,xC])
         refine tkH 5 hHeld ?_;refine tkH 6 hHeld ?_;refine tkH 7 hHeld ?_;refine qT (rs:=[9]) (by kernel_rfl) (by simp) ?_;refine qR rfl (fun K hK=> ?_) qS;have V9:Hid (((w9.setCell ⟨ky,0,none⟩ (za ra4 n4 rc4)).setCell ⟨ky,1,none⟩ (za la4 l4 lc4)).heap[ky]? =some (zd #[za ra4 n4 rc4,za la4 l4 lc4] 33 (0,0))):=zi8 VZ_w9.X;have B9:Hid (Below w6.heap.size w6 ((w9.setCell ⟨ky,0,none⟩ (za ra4 n4 rc4)).setCell ⟨ky,1,none⟩ (za la4 l4 lc4))):=(B_w9.X.setCell HZL.X _).setCell HZL.X _;have P9:Hid (PO ((w9.setCell ⟨ky,0,none⟩ (za ra4 n4 rc4)).setCell ⟨ky,1,none⟩ (za la4 l4 lc4)) w6.heap.size (za ra4 n4 rc4) R4 (za la4 l4 lc4) (YM i)):=P_w9.X.box2 VZ_w9.X;go_simp;refine hK.out _ _ ?_ (fun hHeld=> ?_)
         ·exact KS.X _ B9.X
         clear hK K;generalize((w9.setCell ⟨ky,0,none⟩ (za ra4 n4 rc4)).setCell ⟨ky,1,none⟩ (za la4 l4 lc4))=w7 at*;refine tkH 10 hHeld ?_;refine qU (by kernel_rfl) ?_ _;clear hHeld
         (try go_wp2_with fail)
         go_meet;exact⟨ky,ra4,la4,n4,rc4,l4,lc4,R4,rfl,B9.X,HZL.X,V9.X,P9.X,HY.X⟩
        case rest=>
         obtain⟨ky,ra4,la4,n4,rc4,l4,lc4,R4,rfl,hb,hky,hv,hp4,hn4,hl4,hk4⟩:=hcut;have S8:=za4 (S7.X.below hb);have V8:=za4 hv;have Y8:Hid (PO wc (w.heap.size+3) (za ra4 n4 rc4) R4 (za la4 l4 lc4) (YM i)):=hp4.base S7.X.q.size;have KY:=za4 hk4;have OY:Hid (Off z9 ra4 la4 R4):=hp4.off hn4 hl4 S7.X.zz.2;clear hb hv hp4 hk4 S7 X7 KX HX HL2;obtain⟨wb,hwb⟩:∃v,v=wc:=⟨_,rfl⟩;subst hwb;go_upto_region 12 with fail;go_cut [72]from 66 to 72 (fun s72 wx=>s72=.bool (decide (YC i<C i))/\Below wb.heap.size wb wx)
         case first=>
          have KS:Hid (∀W,Below wb.heap.size wb W->((W.cell? ⟨w.heap.size,0,none⟩=some (zc zb n)/\W.cell? ⟨w.heap.size,1,none⟩=some (za a zl cap)/\W.cell? ⟨w.heap.size,2,none⟩=some (za ao ko co)/\W.cell? ⟨w.heap.size,3,none⟩=some (za (some ⟨bv,ov,none⟩) kv cv)/\W.cell? ⟨w.heap.size,4,none⟩=some (zc zb fine))/\(W.cell? ⟨ky,0,none⟩=some (za ra4 n4 rc4)/\W.cell? ⟨ky,1,none⟩=some (za la4 l4 lc4))/\(W.cell? ⟨kn,0,none⟩=some (za ra9 rn9 rc9)/\W.cell? ⟨kn,1,none⟩=some (za la9 ln9 lc9)))):=fun W hW=>⟨za7 (S8.X.below hW).q.c,za1 (za0 hW (za2 V8.X) V8.X),za1 (S8.X.below hW).n⟩
          go_wp2_with fail
          refine qV (S:=(fun W=>((W.cell? ⟨w.heap.size,0,none⟩=some (zc zb n)/\W.cell? ⟨w.heap.size,1,none⟩=some (za a zl cap)/\W.cell? ⟨w.heap.size,2,none⟩=some (za ao ko co)/\W.cell? ⟨w.heap.size,3,none⟩=some (za (some ⟨bv,ov,none⟩) kv cv)/\W.cell? ⟨w.heap.size,4,none⟩=some (zc zb fine))/\(W.cell? ⟨ky,0,none⟩=some (za ra4 n4 rc4)/\W.cell? ⟨ky,1,none⟩=some (za la4 l4 lc4))/\(W.cell? ⟨kn,0,none⟩=some (za ra9 rn9 rc9)/\W.cell? ⟨kn,1,none⟩=some (za la9 ln9 lc9))))) (by kernel_rfl) ?_ (fun hHeld=> ?_)
          ·exact KS.X _ (yV _ _).drew
          have B_d:Hid (Below wb.heap.size wb wb.drew):=(yV _ _).drew;generalize wb.drew=wd at*;refine tkH 0 hHeld ?_;refine tkH 1 hHeld ?_;refine tkH 3 hHeld ?_;refine tkH 4 hHeld ?_;refine qT (rs:=[2]) (by kernel_rfl) (by simp) ?_;refine qR rfl (fun K hK=> ?_) qS;go_simp;refine(ST.X.costY i wd ra4 la4 n4 rc4 l4 lc4 R4 hF (S8.X.q.b.trans (B_d.X.mono S8.X.q.b.size)) ((Y8.X.below B_d.X).is hn4 hl4) KY.X).mono ?_;rintro e xwd ⟨rfl,hb⟩;have B_xwd:Hid (Below wb.heap.size wb xwd):=B_d.X.trans (hb.mono B_d.X.size);clear hb
          (try go_wp2_with fail)
          refine hK.out _ _ ?_ (fun hHeld=> ?_)
          ·exact KS.X _ B_xwd.X
          clear hK K
          (try simp only[zi,xB,zL,xC])
          refine qT (rs:=[5]) (by kernel_rfl) (by simp) ?_;refine qR rfl (fun K hK=> ?_) qS;go_simp;refine(ST.X.cost i xwd ra9 la9 rn9 rc9 ln9 lc9 R9 (S8.X.q.b.trans (B_xwd.X.mono S8.X.q.b.size)) ((S8.X.below B_xwd.X).p.is S8.X.hn S8.X.hl) K5.X).mono ?_;rintro e xxwd ⟨rfl,hb⟩;have B_xxwd:Hid (Below wb.heap.size wb xxwd):=B_xwd.X.trans (hb.mono B_xwd.X.size);clear hb
          (try go_wp2_with fail)
          refine hK.out _ _ ?_ (fun hHeld=> ?_)
          ·exact KS.X _ B_xxwd.X
          clear hK K
          (try simp only[zi,xB,zL,xC])
          refine tkH 6 hHeld ?_;refine qU (by kernel_rfl) ?_ _;clear hHeld
          (try go_wp2_with fail)
          go_meet;exact⟨rfl,B_xxwd.X⟩
         case rest=>
          obtain⟨rfl,hb⟩:=hcut;have S9:=za4 (S8.X.below hb);have V9:=za0 hb (za2 V8.X) V8.X;have Y9:=Y8.X.below hb;clear hb S8 V8 Y8;by_cases hyc:YC i<C i
          ·obtain⟨e1,e2,e3⟩:=ST.X.yes i hF hyc
           have SZ:=za4 (S9.X.take HZ.X.1 Y9 hn4 hl4 OY.X);have dy:decide (YC i<C i)=true:=zS hyc;obtain⟨z0,z1⟩:=za1 V9;obtain⟨n0,n1⟩:=za1 S9.X.n;have nf:=fun i=>yU _ _ i _ _ S9.X.n
           go_wp2_with fail
           go_meet;rw[e1,e2];exact⟨_,_,_,_,_,_,_,SZ.X,KY.X⟩
          ·obtain⟨e1,e2,e3⟩:=ST.X.no i (fun _=>hyc)
           have dn:decide (YC i<C i)=false:=zU hyc
           go_wp2_with fail
           go_meet;rw[e1,e2];exact⟨_,_,_,_,_,_,_,S9.X,K5.X⟩
      case rest=>
       clear S7 X7 KX HX HL2 HG2 K5;obtain⟨ra4,la4,rn4,rc4,ln4,lc4,R4,hq,hk⟩:=hcut;have S8:=za4 hq;have K8:=za4 hk;clear hq hk;have CN:=ST.X.cost (i+1) wc ra4 la4 rn4 rc4 ln4 lc4 R4 S8.X.q.b (S8.X.p.is S8.X.hn S8.X.hl) K8.X;obtain⟨c0,c1,c2,c3,c4⟩:=za7 S8.X.q.c;obtain⟨n0,n1⟩:=za1 S8.X.n
       go_wp2_with fail
       refine CN.mono ?_;rintro e w9 ⟨rfl,hb⟩;have S9:=za4 (S8.X.below hb);have hA:Below w9.heap.size w9 (w9.alloc (zd #[zc zb (C (i+1))] 2)):=zK _;have hkw:kn<w9.heap.size:=za2 S9.X.n;clear hb CN c0 c1 c2 c3 c4 n0 n1 S8
       go_wp2_with(
        at_builtin;refine zc9 _ rfl (.tmp 74) (.tmp 78) rfl (kn+1) (za (some ⟨z9,0,none⟩) (i+1) c9) (i+1) (T i) rfl (S9.X.t.alloc _) w9.heap.size 0 1 1 [C (i+1)] rfl rfl (zj5 w9 (C (i+1))) (by omega) (by omega) (by simp;omega) ?_;intro v' w8 hown hg hv hnl;obtain⟨z8,c8,hv8,hs⟩:=(S9.X.below hA).app HZ.X.1 hg hown hv;subst hv8;have S10:=za4 hs;clear hown hg hv hnl hs)
       go_roundw
       case rel=>exact⟨i+1,ra4,la4,rn4,rc4,ln4,lc4,z8,c8,R4,by omega,by first|rfl|go_num,rfl,rfl,by rw[TS.X];exact S10.X,K8.X⟩
       case measure=>simp[intOf];omega
     ·have hiN:i=N:=by omega
      subst hiN;clear hlt;obtain⟨n0,n1⟩:=za1 S5.X.n;obtain⟨a0,a1⟩:=za1 S5.X.q.o;have af:=fun i=>yU _ _ i _ _ S5.X.q.o;have hz:=S5.X.zz;have hk3:=HKN.X;have hne:(za (some ⟨z9,0,none⟩) (i+1) c9).ownBlock≠some (w.heap.size+2):=SeQ.ne (by omega);have P7:=za4 (S5.X.p.box2 (u:=za ra9 rn9 rc9) (v:=za la9 ln9 lc9) S5.X.q.o);have B7:Hid (Below w.heap.size w ((wr.setCell ⟨w.heap.size+2,0,none⟩ (za ra9 rn9 rc9)).setCell ⟨w.heap.size+2,1,none⟩ (za la9 ln9 lc9))):=(S5.X.q.b.setCell (by simp) _).setCell (by simp) _;have O7:=za4 (zf1 (zf1 S5.X.t 0 (za ra9 rn9 rc9) hne) 1 (za la9 ln9 lc9) hne);clear hne;go_wp2;refine yX (v:=.tuple #[.agg #[za ra9 rn9 rc9,za la9 ln9 lc9],za (some ⟨z9,0,none⟩) (i+1) c9,.bool true]) (by simp[results,Tryz.results8,go_sem,a0,a1]) rfl ?_;exact⟨ra9,rn9,rc9,la9,ln9,lc9,R9,_,rfl,B7.X,S5.X.hn,S5.X.hl,K5.X,P7.X.base (by omega),by rw[TL.X];exact zc4 O7.X (by omega)⟩
 ·have hpn:(pv !=0)=true:=by simp[hpv]
  obtain⟨a0,a1⟩:=za1 Q1.X.o;have af:=fun i=>yU _ _ i _ _ Q1.X.o;rw[zU hpv,qX]at HDB;have HBF:GB=false:=by rw[HDB.X];try rfl
  subst HBF;obtain⟨g2,g3,g4⟩:=HNO.X rfl;subst g2 g3 g4;clear HNO HYS;have B5:Hid (Below w.heap.size w ((w1.setCell ⟨w.heap.size+2,0,none⟩ (za none 0 0)).setCell ⟨w.heap.size+2,1,none⟩ (za none 0 0))):=(Q1.X.b.setCell (by simp) _).setCell (by simp) _
  go_wp2_with(go_at_call 39;refine(zc0 _ _ _ _).mono ?_;rintro e w' ⟨rfl,hw'⟩;subst w';first|rw[HK1.X]|rw[HS1.X])
  refine yX (v:=.tuple #[.agg #[za none 0 0,za none 0 0],za none 0 0,.bool false]) (by simp[results,Tryz.results8,go_sem,a0,a1]) rfl ?_;exact⟨none,0,0,none,0,0,[],za none 0 0,rfl,B5.X,rfl,rfl,rfl,⟨qP _ _ _ _,(fun s hs=>by cases hs),qP _ _ _ _⟩,qP _ _ _ _⟩
def yK8(w:zg)(f:Bool)(m:Nat)(X:List Int)(T:List RT)(L:List Int)(e:Ending)(w':zg):Prop:=∃ra rn rc la ln lc S ta tc q,e=.returned (.tuple #[.agg #[za ra rn rc,za la ln lc],za ta m tc,.bool f])/\Below w.heap.size w w'/\S.length=rn/\L.length=ln/\S.map RT.key=T.map RT.key/\PT w' w.heap.size q (za ra rn rc) S (za la ln lc) L (za ta m tc) X/\zx6 S la/\∀z,(za ta m tc).ownBlock=some z->z<q
def yG7(w:zg)(f:Bool)(m:Nat)(X:List Int)(T:List RT)(L:List Int)(e:Ending)(w':zg):Prop:=∃ra rn rc la ln lc S ta tc,e=.returned (.tuple #[.agg #[za ra rn rc,za la ln lc],za ta m tc,.bool f])/\Below w.heap.size w w'/\S.length=rn/\L.length=ln/\S.map RT.key=T.map RT.key/\PT w' w.heap.size w.heap.size (za ra rn rc) S (za la ln lc) L (za ta m tc) X
theorem zj2(sd st n fine:Int)(a ao av:Option Addr)(cap ko co kv cv g gl:Nat)(zs os vs L:List Int)(S R:List RT)(w:zg)(hA:za3 w a zs)(hO:za3 w ao os)(hV:za3 w av vs)(hP:zi1 w g gl S R L)(hlo:os.length=ko*6)(hlv:vs.length=kv*5)(hko:ko<=9223372036854775807)(hkv:kv<=9223372036854775807)(hn:R.length<=1048576)(hi:∀r∈R,r.ids.length<=1048576)(hll:L.length<=1048576)(hal:(za8 R R.length).length<=1048576)(hwl:∀x∈L,(Lit.int zb x).wf=true):
 Calls ze 7 #[.agg #[zc zb n,za a zs.length cap,za ao ko co,za av kv cv,zc zb fine],.agg #[za (some ⟨g,0,none⟩) R.length R.length,za (some ⟨gl,0,none⟩) L.length L.length],zc zb sd,zc zb st] w (yK8 w (sgB sd st n fine zs os vs ko kv R L) (sgT sd st n fine zs os vs ko kv R L).length (sgT sd st n fine zs os vs ko kv R L) (sgR sd st n fine zs os vs ko kv R L) (sgL sd st n fine zs os vs ko kv R L)):=by
 have:=zB0 sd st n fine a ao av _ _ zs.length cap ko co kv cv R.length R.length L.length L.length zs os vs L S w hA hO hV rfl hlo hlv hko hkv hP.is hn (yd6 hP.k hi) hll (by rw[z48 hP.k,zr5 hP.k];exact hal) hwl;rw[zI0 _ _ _ _ _ _ _ _ _ L hP.k,y02 _ _ _ _ _ _ _ _ _ L hP.k,y20 _ _ _ _ _ _ _ _ _ L hP.k]at this;refine this.mono ?_;rintro e w' ⟨ra,rn,rc,la,ln,lc,T,tv,q,rfl,h2,h3,h4,h5,h0,h6,h7,h8,h9⟩;obtain⟨ta,tc,e⟩:=zh9 h8;subst e;exact⟨ra,rn,rc,la,ln,lc,T,ta,tc,q,rfl,h2,h3,h4,h5.trans (y11 _ _ _ _ _ _ _ _ _ L hP.k),PT.new h0 h6 h8,h7,h9⟩
theorem zm3(sd st n fine:Int)(a ao:Option Addr)(bv ov cap ko co kv cv g gl:Nat)(zs os vs L:List Int)(S R:List RT)(w:zg)(hA:za3 w a zs)(hO:za3 w ao os)(hV:za3 w (some ⟨bv,ov,none⟩) vs)(hP:zi1 w g gl S R L)(hlo:os.length=ko*6)(hlv:vs.length=kv*5)(hko:ko<=9223372036854775807)(hkv:kv<=9223372036854775807)(hn:R.length<=1048576)(hi:∀r∈R,r.ids.length<=1048576)(hll:L.length<=1048576)(hal:(za8 R R.length).length<=1048576):
 Calls ze 8 #[.agg #[zc zb n,za a zs.length cap,za ao ko co,za (some ⟨bv,ov,none⟩) kv cv,zc zb fine],.agg #[za (some ⟨g,0,none⟩) R.length R.length,za (some ⟨gl,0,none⟩) L.length L.length],zc zb sd,zc zb st] w (yG7 w (sgB sd st n fine zs os vs ko kv R L) (sgT sd st n fine zs os vs ko kv R L).length (sgT sd st n fine zs os vs ko kv R L) (sgR sd st n fine zs os vs ko kv R L) (sgL sd st n fine zs os vs ko kv R L)):=by
 have:=zB5 sd st n fine a ao _ _ zs.length cap ko co bv ov kv cv R.length R.length L.length L.length zs os vs L S w hA hO hV rfl hlo hlv hko hkv hP.is hn (yd6 hP.k hi) hll (by rw[z48 hP.k,zr5 hP.k];exact hal);rw[zI0 _ _ _ _ _ _ _ _ _ L hP.k,y02 _ _ _ _ _ _ _ _ _ L hP.k,y20 _ _ _ _ _ _ _ _ _ L hP.k]at this;refine this.mono ?_;rintro e w' ⟨ra,rn,rc,la,ln,lc,T,tv,rfl,h2,h3,h4,h5,h6,h8⟩;obtain⟨ta,tc,e⟩:=zh9 h8;subst e;exact⟨ra,rn,rc,la,ln,lc,T,ta,tc,rfl,h2,h3,h4,h5.trans (y11 _ _ _ _ _ _ _ _ _ L hP.k),PT.new (zQ _) h6 h8⟩
theorem ye0(n fine sd kpk:Int)(a ao av ra la:Option Addr)(cap ko co kv cv rc lc:Nat)(zs os vs L:List Int)(R:List RT)(w:zg)(hA:za3 w a zs)(hO:za3 w ao os)(hV:za3 w av vs)(hR:za9 w ra R)(hL:za3 w la L)(hlo:os.length=ko*6)(hlv:vs.length=kv*5)(hlt:zs.length<=9223372036854775807)(hko:ko<=9223372036854775807)(hkv:kv<=9223372036854775807)(hRn:R.length<=9223372036854775807)(hRi:∀r∈R,r.ids.length<=9223372036854775807)(hLn:L.length<=9223372036854775807)(hwl:∀x∈L,(Lit.int zb x).wf=true):
 Calls ze 4 #[.agg #[zc zb n,za a zs.length cap,za ao ko co,za av kv cv,zc zb fine],.agg #[za ra R.length rc,za la L.length lc],zc zb sd,zc zb kpk] w fun e w'=>e=.returned (.bool true)/\Below w.heap.size w w':=by
 have HA:=za4 hA;have HO:=za4 hO;have HV:=za4 hV;have HRT:=za4 hR;have HL:=za4 hL;have HLO:Hid _:=hlo;have HLV:Hid _:=hlv;have HWL:=za4 hwl;have HRI:=za4 hRi;clear hA hO hV hR hL hlo hlv hwl hRi;have B0:Hid (LPB w ((w.alloc (zd #[zc zb n,za a zs.length cap,za ao ko co,za av kv cv,zc zb fine] 45)).alloc (zd #[za ra R.length rc,za la L.length lc] 48)) _ _):=LPB.new w _ _;by_cases hc:¬(zs.length+ko+kv<=1048576)
 ·have HS:Hid (szV 1048576 zs.length ko kv= -1):=yC1 hc
  go_enter Tryz.func4,Tryz.ntmps4;obtain⟨e0,e1,e2,e3,e4,e5,e6⟩:=B0.X.cells
  go_wp2_with fail
  clear e0 e1 e2 e3 e4 e5 e6;refine(zM6 n fine 1048576 a ao av zs.length cap ko co kv cv _ (by omega) (by omega) hlt hko hkv).mono ?_;rintro e w1 ⟨rfl,hb⟩;rw[HS.X];have B1:=za4 (B0.X.below hb);clear hb B0;go_wp2;go_ret;exact⟨rfl,B1.X.1⟩
 have hc:=Decidable.not_not.1 hc;have HSZ:Hid (szV 1048576 zs.length ko kv=1048576 - zs.length - ko - kv):=yF7 (by omega);obtain⟨l1,HL1⟩:∃l:Int,Hid ((1048576 - zs.length - ko - kv:Int)=l):=⟨_,rfl⟩;have hl1:0<=l1/\l1<=1048576:=by have:=HL1.X;omega
 rw[HL1.X]at HSZ;have hs1:zs.length<=1048576:=by omega
 have hs2:ko<=1048576:=by omega
 have hs3:kv<=1048576:=by omega
 obtain⟨x,HX⟩:=nmd (yG4 R L.length l1);have HSM:Hid (0<=x->R.length<=1048576/\(∀r∈R,r.ids.length<=1048576)/\L.length<=1048576/\(za8 R R.length).length<=1048576):=fun h=>yn6 hl1.1 hl1.2 (by rw[HX.X];exact h)
 have hbd:=yH3 sd kpk n fine zs os vs ko kv R L;have hbt:=yB3 (sd:=sd) (st:=kpk) (n:=n) (fine:=fine) (zs:=zs) (os:=os) (vs:=vs) (ko:=ko) (kv:=kv) (R:=R) (L:=L);obtain⟨GT,HGT⟩:=nmd (sgT sd kpk n fine zs os vs ko kv R L);rw[HGT.X]at hbt;obtain⟨nT,HNT⟩:=nmd GT.length;rw[HNT.X]at hbt;obtain⟨GF,HGF⟩:=nmd (sgB sd kpk n fine zs os vs ko kv R L);obtain⟨GR,HGR⟩:=nmd (sgR sd kpk n fine zs os vs ko kv R L);obtain⟨GL,HGL⟩:=nmd (sgL sd kpk n fine zs os vs ko kv R L);rw[HGR.X,HGL.X]at hbd;obtain⟨hb1,hb2,hb3⟩:=hbd;have HBI:=za4 hb1;obtain⟨nR,HNR⟩:=nmd GR.length;obtain⟨nL,HNL⟩:=nmd GL.length;rw[HNR.X]at hb2;rw[HNL.X]at hb3;clear hb1;clear hc;obtain⟨hl10,hl11⟩:=hl1;go_enter Tryz.func4,Tryz.ntmps4;obtain⟨e0,e1,e2,e3,e4,e5,e6⟩:=B0.X.cells
 go_wp2_with fail
 clear e0 e1 e2 e3 e4 e5 e6;refine(zM6 n fine 1048576 a ao av zs.length cap ko co kv cv _ (by omega) (by omega) (by omega) (by omega) (by omega)).mono ?_;rintro e w1 ⟨rfl,hb⟩;rw[HSZ.X];have B1:=za4 (B0.X.below hb);clear hb B0;obtain⟨e0,e1,e2,e3,e4,e5,e6⟩:=B1.X.cells
 go_wp2_with fail
 clear e0 e1 e2 e3 e4 e5 e6;refine(yp3 ra la rc L.length lc R l1 _ (HRT.X.below B1.X.b) hl10 hl11 hRn hLn HRI.X).mono ?_;rintro e w2 ⟨rfl,hb⟩;rw[HX.X];have B2:=za4 (B1.X.below hb);clear hb B1;by_cases hx:x<0
 ·go_wp2
  go_ret;exact⟨rfl,B2.X.1⟩
 obtain⟨hs4,hs5,hs6,hs7⟩:=HSM.X (by omega);have HS5:=za4 hs5;have HS7:=za4 hs7;clear HSM hs5 hs7;obtain⟨e0,e1,e2,e3,e4,e5,e6⟩:=B2.X.cells;go_upto_region 8 with fail;clear e0 e1 e2 e3 e4 e5 e6;go_cut [10,11,12]from 34 to 44 (fun s10 s11 s12 wx=>∃(kw:Nat) (wra wla:Option Addr) (wrc wlc:Nat) (SW:List RT) (wt:Option Addr) (wtc:Nat),s10=.pointer (some ⟨kw,0,none⟩)/\s11=za wt nT wtc/\s12=.bool GF/\LPB w wx #[zc zb n,za a zs.length cap,za ao ko co,za av kv cv,zc zb fine] #[za ra R.length rc,za la L.length lc]/\wx.heap[kw]? =some (zd #[za wra nR wrc,za wla nL wlc] 33 (0,0))/\PT wx w.heap.size w.heap.size (za wra nR wrc) SW (za wla nL wlc) GL (za wt nT wtc) GT/\SW.length=nR/\SW.map RT.key=GR.map RT.key)
 case first=>
  go_wp2_with fail
  refine qV (S:=(fun W=>W.cell? ⟨w.heap.size,0,none⟩=some (zc zb n)/\W.cell? ⟨w.heap.size,1,none⟩=some (za a zs.length cap)/\W.cell? ⟨w.heap.size,2,none⟩=some (za ao ko co)/\W.cell? ⟨w.heap.size,3,none⟩=some (za av kv cv)/\W.cell? ⟨w.heap.size,4,none⟩=some (zc zb fine)/\W.cell? ⟨w.heap.size+1,0,none⟩=some (za ra R.length rc)/\W.cell? ⟨w.heap.size+1,1,none⟩=some (za la L.length lc))) (by kernel_rfl) ?_ (fun hHeld=> ?_)
  ·exact lp7 (B2.X.drew)
  have B_d:Hid (LPB w w2.drew _ _):=B2.X.below ((yV w2.heap.size w2).drew);generalize w2.drew=wd at*;refine tkH 0 hHeld ?_;refine tkH 2 hHeld ?_;refine tkH 4 hHeld ?_;refine tkH 5 hHeld ?_;refine qT (rs:=[1,11]) (by kernel_rfl) (by simp) ?_;refine qR rfl (fun K hK=> ?_) ?_
  ·skip
   go_simp;refine(zq0 n fine a ao av cap ko co kv cv zs os vs wd (HA.X.below (B_d.X).b) (HO.X.below (B_d.X).b) (HV.X.below (B_d.X).b) HLO.X HLV.X hs1 hs2 hs3).mono ?_;rintro e w3 ⟨g3,go3,gv3,_,_,_,rfl,hb,hg⟩;have B_w3:=za4 (B_d.X.below hb);have C_w3:=za4 hg;clear hb hg
   (try go_wp2_with fail)
   refine hK.out _ _ ?_ (fun hHeld=> ?_)
   ·exact lp7 (B_w3.X)
   clear hK K
   (try simp only[zi,xB,zL,xC])
   refine qT (rs:=[3,11]) (by kernel_rfl) (by simp) ?_;refine qR rfl (fun K hK=> ?_) ?_
   ·skip
    go_simp;refine(zq6 ra la rc lc R L w3 (HRT.X.below (B_w3.X).b) (HL.X.below (B_w3.X).b) hs4 HS5.X hs6).mono ?_;rintro e w4 ⟨gr4,gl4,S4,rfl,hb,hg⟩;have B_w4:=za4 (B_w3.X.below hb);have C_w4:=za4 (C_w3.X.below hb);have P_w4:=za4 hg;clear hb hg
    (try go_wp2_with fail)
    refine hK.out _ _ ?_ (fun hHeld=> ?_)
    ·exact lp7 (B_w4.X)
    clear hK K
    (try simp only[zi,xB,zL,xC])
    refine qT (rs:=[6,11]) (by kernel_rfl) (by simp) ?_;refine qR rfl (fun K hK=> ?_) ?_
    ·skip
     go_simp;have IG:=zm3 sd kpk n fine _ _ _ _ zs.length ko ko kv kv gr4 gl4 zs os vs L S4 R w4 C_w4.X.t C_w4.X.o C_w4.X.v P_w4.X HLO.X HLV.X (by omega) (by omega) hs4 HS5.X hs6 HS7.X;rw[HGF.X,HGR.X,HGL.X,HGT.X,HNT.X]at IG;refine IG.mono ?_;rintro e w5 ⟨wra,wrn,wrc,wla,wln,wlc,SW,wt,wtc,rfl,hb,hsl,hll9,hk9,hpo⟩;have B_w5:=za4 (B_w4.X.below hb);have HSWN:=za4 hsl;have HSWL:=za4 hll9;have HSWK:=za4 hk9;have R_w5:Hid (PT w5 w.heap.size w.heap.size (za wra wrn wrc) SW (za wla wln wlc) GL (za wt nT wtc) GT):=hpo.low (B_w4.X).b.size;clear hsl hll9 hk9 hpo;clear hb IG
     (try go_wp2_with fail)
     refine hK.out _ _ ?_ (fun hHeld=> ?_)
     ·exact lp7 (B_w5.X)
     clear hK K
     (try simp only[zi,xB,zL,xC])
     refine tkH 7 hHeld ?_;refine tkH 8 hHeld ?_;refine tkH 9 hHeld ?_;refine tkH 10 hHeld ?_;refine qT (rs:=[11]) (by kernel_rfl) (by simp) ?_;refine qR rfl (fun K hK=> ?_) qS;have B_z:Hid (LPB w (w5.alloc (zd #[za none 0 0,za none 0 0] 33)) _ _):=B_w5.X.below ((yV w5.heap.size w5).alloc (zQ _) (zd #[za none 0 0,za none 0 0] 33));have R_z:Hid (PT (w5.alloc (zd #[za none 0 0,za none 0 0] 33)) w.heap.size w.heap.size (za wra wrn wrc) SW (za wla wln wlc) GL (za wt nT wtc) GT):=R_w5.X.below ((yV w5.heap.size w5).alloc (zQ _) (zd #[za none 0 0,za none 0 0] 33));have VZ0:Hid ((w5.alloc (zd #[za none 0 0,za none 0 0] 33)).heap[w5.heap.size]? =some (zd #[za none 0 0,za none 0 0] 33 (0,0))):=zN _ _;have HZL:Hid (w.heap.size+2<=w5.heap.size):=za2 (B_w5.X).2.2;go_simp;refine hK.out _ _ ?_ (fun hHeld=> ?_)
     ·exact lp7 (B_z.X)
     clear hK K
     (try simp only[zi,xB,zL,xC])
     obtain⟨kw,HKZ⟩:=nmd w5.heap.size;rw[HKZ.X]at VZ0 HZL⊢;generalize(w5.alloc (zd #[za none 0 0,za none 0 0] 33))=wz at*;obtain⟨z0,z1⟩:=za1 VZ0.X;have zf:=fun i=>yU _ _ i _ _ VZ0.X;refine qT (rs:=[12]) (by kernel_rfl) (by simp) ?_;refine qR rfl (fun K hK=> ?_) qS;have s1:=zP wz kw 0 _ _ (za wra wrn wrc) VZ0.X;have V6:Hid (((wz.setCell ⟨kw,0,none⟩ (za wra wrn wrc)).setCell ⟨kw,1,none⟩ (za wla wln wlc)).heap[kw]? =some (zd #[za wra wrn wrc,za wla wln wlc] 33 (0,0))):=by
      have s2:=zP _ kw 1 _ _ (za wla wln wlc) s1;simp at s2;exact s2
     have B6:Hid (LPB w ((wz.setCell ⟨kw,0,none⟩ (za wra wrn wrc)).setCell ⟨kw,1,none⟩ (za wla wln wlc)) _ _):=⟨((B_z.X).b.setCell (by have:=HZL.X;simp;omega) _).setCell (by have:=HZL.X;simp;omega) _,za6 (za6 (B_z.X).2.1 (by have:=HZL.X;omega)) (by have:=HZL.X;omega),za6 (za6 (B_z.X).2.2 (by have:=HZL.X;omega)) (by have:=HZL.X;omega)⟩;have P6:Hid (PT ((wz.setCell ⟨kw,0,none⟩ (za wra wrn wrc)).setCell ⟨kw,1,none⟩ (za wla wln wlc)) w.heap.size w.heap.size (za wra wrn wrc) SW (za wla wln wlc) GL (za wt nT wtc) GT):=(R_z.X.box VZ0.X).box s1;clear s1;go_simp;refine hK.out _ _ ?_ (fun hHeld=> ?_)
     ·exact lp7 B6.X
     clear hK K;generalize((wz.setCell ⟨kw,0,none⟩ (za wra wrn wrc)).setCell ⟨kw,1,none⟩ (za wla wln wlc))=w6 at*;refine tkH 13 hHeld ?_;refine tkH 14 hHeld ?_;refine qU (by kernel_rfl) ?_ _;clear hHeld;have e1:nR=wrn:=by rw[<-HSWN.X,<-HNR.X];have:=congrArg zj HSWK.X;simpa using this.symm
     have e2:nL=wln:=HNL.X.symm.trans HSWL.X;subst e1 e2
     (try go_wp2_with fail)
     go_meet;exact⟨kw,wra,wla,wrc,wlc,SW,wt,wtc,rfl,rfl,rfl,B6.X,V6.X,P6.X,HSWN.X,HSWK.X⟩
    refine qR rfl (fun K hK=> ?_) qS;have B_z:Hid (LPB w (w4.alloc (zd #[za none 0 0,za none 0 0] 33)) _ _):=B_w4.X.below ((yV w4.heap.size w4).alloc (zQ _) (zd #[za none 0 0,za none 0 0] 33));have C_z:Hid (zo9 (w4.alloc (zd #[za none 0 0,za none 0 0] 33)) g3 go3 gv3 zs os vs):=C_w4.X.below ((yV w4.heap.size w4).alloc (zQ _) (zd #[za none 0 0,za none 0 0] 33));have P_z:Hid (zi1 (w4.alloc (zd #[za none 0 0,za none 0 0] 33)) gr4 gl4 S4 R L):=P_w4.X.below ((yV w4.heap.size w4).alloc (zQ _) (zd #[za none 0 0,za none 0 0] 33));have VZ0:Hid ((w4.alloc (zd #[za none 0 0,za none 0 0] 33)).heap[w4.heap.size]? =some (zd #[za none 0 0,za none 0 0] 33 (0,0))):=zN _ _;have HZL:Hid (w.heap.size+2<=w4.heap.size):=za2 (B_w4.X).2.2;go_simp;refine hK.out _ _ ?_ (fun hHeld=> ?_)
    ·exact lp7 (B_z.X)
    clear hK K
    (try simp only[zi,xB,zL,xC])
    obtain⟨kw,HKZ⟩:=nmd w4.heap.size;rw[HKZ.X]at VZ0 HZL⊢;generalize(w4.alloc (zd #[za none 0 0,za none 0 0] 33))=wz at*;obtain⟨z0,z1⟩:=za1 VZ0.X;have zf:=fun i=>yU _ _ i _ _ VZ0.X;refine qT (rs:=[6]) (by kernel_rfl) (by simp) ?_;refine qR rfl (fun K hK=> ?_) qS;go_simp;have IG:=zm3 sd kpk n fine _ _ _ _ zs.length ko ko kv kv gr4 gl4 zs os vs L S4 R wz C_z.X.t C_z.X.o C_z.X.v P_z.X HLO.X HLV.X (by omega) (by omega) hs4 HS5.X hs6 HS7.X;rw[HGF.X,HGR.X,HGL.X,HGT.X,HNT.X]at IG;refine IG.mono ?_;rintro e w5 ⟨wra,wrn,wrc,wla,wln,wlc,SW,wt,wtc,rfl,hb,hsl,hll9,hk9,hpo⟩;have B_w5:=za4 (B_z.X.below hb);have VZ_w5:=za4 (za0 hb (za2 VZ0.X) VZ0.X);obtain⟨z0,z1⟩:=za1 VZ_w5.X;have zf:=fun i=>yU _ _ i _ _ VZ_w5.X;have HSWN:=za4 hsl;have HSWL:=za4 hll9;have HSWK:=za4 hk9;have R_w5:Hid (PT w5 w.heap.size w.heap.size (za wra wrn wrc) SW (za wla wln wlc) GL (za wt nT wtc) GT):=hpo.low (B_z.X).b.size;clear hsl hll9 hk9 hpo;clear hb IG
    (try go_wp2_with fail)
    refine hK.out _ _ ?_ (fun hHeld=> ?_)
    ·exact lp7 (B_w5.X)
    clear hK K
    (try simp only[zi,xB,zL,xC])
    refine tkH 7 hHeld ?_;refine tkH 8 hHeld ?_;refine tkH 9 hHeld ?_;refine tkH 10 hHeld ?_;refine qT (rs:=[12]) (by kernel_rfl) (by simp) ?_;refine qR rfl (fun K hK=> ?_) qS;have s1:=zP w5 kw 0 _ _ (za wra wrn wrc) VZ_w5.X;have V6:Hid (((w5.setCell ⟨kw,0,none⟩ (za wra wrn wrc)).setCell ⟨kw,1,none⟩ (za wla wln wlc)).heap[kw]? =some (zd #[za wra wrn wrc,za wla wln wlc] 33 (0,0))):=by
     have s2:=zP _ kw 1 _ _ (za wla wln wlc) s1;simp at s2;exact s2
    have B6:Hid (LPB w ((w5.setCell ⟨kw,0,none⟩ (za wra wrn wrc)).setCell ⟨kw,1,none⟩ (za wla wln wlc)) _ _):=⟨((B_w5.X).b.setCell (by have:=HZL.X;simp;omega) _).setCell (by have:=HZL.X;simp;omega) _,za6 (za6 (B_w5.X).2.1 (by have:=HZL.X;omega)) (by have:=HZL.X;omega),za6 (za6 (B_w5.X).2.2 (by have:=HZL.X;omega)) (by have:=HZL.X;omega)⟩;have P6:Hid (PT ((w5.setCell ⟨kw,0,none⟩ (za wra wrn wrc)).setCell ⟨kw,1,none⟩ (za wla wln wlc)) w.heap.size w.heap.size (za wra wrn wrc) SW (za wla wln wlc) GL (za wt nT wtc) GT):=(R_w5.X.box VZ_w5.X).box s1;clear s1;go_simp;refine hK.out _ _ ?_ (fun hHeld=> ?_)
    ·exact lp7 B6.X
    clear hK K;generalize((w5.setCell ⟨kw,0,none⟩ (za wra wrn wrc)).setCell ⟨kw,1,none⟩ (za wla wln wlc))=w6 at*;refine tkH 13 hHeld ?_;refine tkH 14 hHeld ?_;refine qU (by kernel_rfl) ?_ _;clear hHeld;have e1:nR=wrn:=by rw[<-HSWN.X,<-HNR.X];have:=congrArg zj HSWK.X;simpa using this.symm
    have e2:nL=wln:=HNL.X.symm.trans HSWL.X;subst e1 e2
    (try go_wp2_with fail)
    go_meet;exact⟨kw,wra,wla,wrc,wlc,SW,wt,wtc,rfl,rfl,rfl,B6.X,V6.X,P6.X,HSWN.X,HSWK.X⟩
   refine qR rfl (fun K hK=> ?_) qS;have B_z:Hid (LPB w (w3.alloc (zd #[za none 0 0,za none 0 0] 33)) _ _):=B_w3.X.below ((yV w3.heap.size w3).alloc (zQ _) (zd #[za none 0 0,za none 0 0] 33));have C_z:Hid (zo9 (w3.alloc (zd #[za none 0 0,za none 0 0] 33)) g3 go3 gv3 zs os vs):=C_w3.X.below ((yV w3.heap.size w3).alloc (zQ _) (zd #[za none 0 0,za none 0 0] 33));have VZ0:Hid ((w3.alloc (zd #[za none 0 0,za none 0 0] 33)).heap[w3.heap.size]? =some (zd #[za none 0 0,za none 0 0] 33 (0,0))):=zN _ _;have HZL:Hid (w.heap.size+2<=w3.heap.size):=za2 (B_w3.X).2.2;go_simp;refine hK.out _ _ ?_ (fun hHeld=> ?_)
   ·exact lp7 (B_z.X)
   clear hK K
   (try simp only[zi,xB,zL,xC])
   obtain⟨kw,HKZ⟩:=nmd w3.heap.size;rw[HKZ.X]at VZ0 HZL⊢;generalize(w3.alloc (zd #[za none 0 0,za none 0 0] 33))=wz at*;obtain⟨z0,z1⟩:=za1 VZ0.X;have zf:=fun i=>yU _ _ i _ _ VZ0.X;refine qT (rs:=[3]) (by kernel_rfl) (by simp) ?_;refine qR rfl (fun K hK=> ?_) qS;go_simp;refine(zq6 ra la rc lc R L wz (HRT.X.below (B_z.X).b) (HL.X.below (B_z.X).b) hs4 HS5.X hs6).mono ?_;rintro e w4 ⟨gr4,gl4,S4,rfl,hb,hg⟩;have B_w4:=za4 (B_z.X.below hb);have C_w4:=za4 (C_z.X.below hb);have VZ_w4:=za4 (za0 hb (za2 VZ0.X) VZ0.X);obtain⟨z0,z1⟩:=za1 VZ_w4.X;have zf:=fun i=>yU _ _ i _ _ VZ_w4.X;have P_w4:=za4 hg;clear hb hg
   (try go_wp2_with fail)
   refine hK.out _ _ ?_ (fun hHeld=> ?_)
   ·exact lp7 (B_w4.X)
   clear hK K
   (try simp only[zi,xB,zL,xC])
   refine qT (rs:=[6]) (by kernel_rfl) (by simp) ?_;refine qR rfl (fun K hK=> ?_) qS;go_simp;have IG:=zm3 sd kpk n fine _ _ _ _ zs.length ko ko kv kv gr4 gl4 zs os vs L S4 R w4 C_w4.X.t C_w4.X.o C_w4.X.v P_w4.X HLO.X HLV.X (by omega) (by omega) hs4 HS5.X hs6 HS7.X;rw[HGF.X,HGR.X,HGL.X,HGT.X,HNT.X]at IG;refine IG.mono ?_;rintro e w5 ⟨wra,wrn,wrc,wla,wln,wlc,SW,wt,wtc,rfl,hb,hsl,hll9,hk9,hpo⟩;have B_w5:=za4 (B_w4.X.below hb);have VZ_w5:=za4 (za0 hb (za2 VZ_w4.X) VZ_w4.X);obtain⟨z0,z1⟩:=za1 VZ_w5.X;have zf:=fun i=>yU _ _ i _ _ VZ_w5.X;have HSWN:=za4 hsl;have HSWL:=za4 hll9;have HSWK:=za4 hk9;have R_w5:Hid (PT w5 w.heap.size w.heap.size (za wra wrn wrc) SW (za wla wln wlc) GL (za wt nT wtc) GT):=hpo.low (B_w4.X).b.size;clear hsl hll9 hk9 hpo;clear hb IG
   (try go_wp2_with fail)
   refine hK.out _ _ ?_ (fun hHeld=> ?_)
   ·exact lp7 (B_w5.X)
   clear hK K
   (try simp only[zi,xB,zL,xC])
   refine tkH 7 hHeld ?_;refine tkH 8 hHeld ?_;refine tkH 9 hHeld ?_;refine tkH 10 hHeld ?_;refine qT (rs:=[12]) (by kernel_rfl) (by simp) ?_;refine qR rfl (fun K hK=> ?_) qS;have s1:=zP w5 kw 0 _ _ (za wra wrn wrc) VZ_w5.X;have V6:Hid (((w5.setCell ⟨kw,0,none⟩ (za wra wrn wrc)).setCell ⟨kw,1,none⟩ (za wla wln wlc)).heap[kw]? =some (zd #[za wra wrn wrc,za wla wln wlc] 33 (0,0))):=by
    have s2:=zP _ kw 1 _ _ (za wla wln wlc) s1;simp at s2;exact s2
   have B6:Hid (LPB w ((w5.setCell ⟨kw,0,none⟩ (za wra wrn wrc)).setCell ⟨kw,1,none⟩ (za wla wln wlc)) _ _):=⟨((B_w5.X).b.setCell (by have:=HZL.X;simp;omega) _).setCell (by have:=HZL.X;simp;omega) _,za6 (za6 (B_w5.X).2.1 (by have:=HZL.X;omega)) (by have:=HZL.X;omega),za6 (za6 (B_w5.X).2.2 (by have:=HZL.X;omega)) (by have:=HZL.X;omega)⟩;have P6:Hid (PT ((w5.setCell ⟨kw,0,none⟩ (za wra wrn wrc)).setCell ⟨kw,1,none⟩ (za wla wln wlc)) w.heap.size w.heap.size (za wra wrn wrc) SW (za wla wln wlc) GL (za wt nT wtc) GT):=(R_w5.X.box VZ_w5.X).box s1;clear s1;go_simp;refine hK.out _ _ ?_ (fun hHeld=> ?_)
   ·exact lp7 B6.X
   clear hK K;generalize((w5.setCell ⟨kw,0,none⟩ (za wra wrn wrc)).setCell ⟨kw,1,none⟩ (za wla wln wlc))=w6 at*;refine tkH 13 hHeld ?_;refine tkH 14 hHeld ?_;refine qU (by kernel_rfl) ?_ _;clear hHeld;have e1:nR=wrn:=by rw[<-HSWN.X,<-HNR.X];have:=congrArg zj HSWK.X;simpa using this.symm
   have e2:nL=wln:=HNL.X.symm.trans HSWL.X;subst e1 e2
   (try go_wp2_with fail)
   go_meet;exact⟨kw,wra,wla,wrc,wlc,SW,wt,wtc,rfl,rfl,rfl,B6.X,V6.X,P6.X,HSWN.X,HSWK.X⟩
  refine qR rfl (fun K hK=> ?_) qS;have B_z:Hid (LPB w (wd.alloc (zd #[za none 0 0,za none 0 0] 33)) _ _):=B_d.X.below ((yV wd.heap.size wd).alloc (zQ _) (zd #[za none 0 0,za none 0 0] 33));have VZ0:Hid ((wd.alloc (zd #[za none 0 0,za none 0 0] 33)).heap[wd.heap.size]? =some (zd #[za none 0 0,za none 0 0] 33 (0,0))):=zN _ _;have HZL:Hid (w.heap.size+2<=wd.heap.size):=za2 (B_d.X).2.2;go_simp;refine hK.out _ _ ?_ (fun hHeld=> ?_)
  ·exact lp7 (B_z.X)
  clear hK K
  (try simp only[zi,xB,zL,xC])
  obtain⟨kw,HKZ⟩:=nmd wd.heap.size;rw[HKZ.X]at VZ0 HZL⊢;generalize(wd.alloc (zd #[za none 0 0,za none 0 0] 33))=wz at*;obtain⟨z0,z1⟩:=za1 VZ0.X;have zf:=fun i=>yU _ _ i _ _ VZ0.X;refine qT (rs:=[1]) (by kernel_rfl) (by simp) ?_;refine qR rfl (fun K hK=> ?_) qS;go_simp;refine(zq0 n fine a ao av cap ko co kv cv zs os vs wz (HA.X.below (B_z.X).b) (HO.X.below (B_z.X).b) (HV.X.below (B_z.X).b) HLO.X HLV.X hs1 hs2 hs3).mono ?_;rintro e w3 ⟨g3,go3,gv3,_,_,_,rfl,hb,hg⟩;have B_w3:=za4 (B_z.X.below hb);have VZ_w3:=za4 (za0 hb (za2 VZ0.X) VZ0.X);obtain⟨z0,z1⟩:=za1 VZ_w3.X;have zf:=fun i=>yU _ _ i _ _ VZ_w3.X;have C_w3:=za4 hg;clear hb hg
  (try go_wp2_with fail)
  refine hK.out _ _ ?_ (fun hHeld=> ?_)
  ·exact lp7 (B_w3.X)
  clear hK K
  (try simp only[zi,xB,zL,xC])
  refine qT (rs:=[3]) (by kernel_rfl) (by simp) ?_;refine qR rfl (fun K hK=> ?_) qS;go_simp;refine(zq6 ra la rc lc R L w3 (HRT.X.below (B_w3.X).b) (HL.X.below (B_w3.X).b) hs4 HS5.X hs6).mono ?_;rintro e w4 ⟨gr4,gl4,S4,rfl,hb,hg⟩;have B_w4:=za4 (B_w3.X.below hb);have C_w4:=za4 (C_w3.X.below hb);have VZ_w4:=za4 (za0 hb (za2 VZ_w3.X) VZ_w3.X);obtain⟨z0,z1⟩:=za1 VZ_w4.X;have zf:=fun i=>yU _ _ i _ _ VZ_w4.X;have P_w4:=za4 hg;clear hb hg
  (try go_wp2_with fail)
  refine hK.out _ _ ?_ (fun hHeld=> ?_)
  ·exact lp7 (B_w4.X)
  clear hK K
  (try simp only[zi,xB,zL,xC])
  refine qT (rs:=[6]) (by kernel_rfl) (by simp) ?_;refine qR rfl (fun K hK=> ?_) qS;go_simp;have IG:=zm3 sd kpk n fine _ _ _ _ zs.length ko ko kv kv gr4 gl4 zs os vs L S4 R w4 C_w4.X.t C_w4.X.o C_w4.X.v P_w4.X HLO.X HLV.X (by omega) (by omega) hs4 HS5.X hs6 HS7.X;rw[HGF.X,HGR.X,HGL.X,HGT.X,HNT.X]at IG;refine IG.mono ?_;rintro e w5 ⟨wra,wrn,wrc,wla,wln,wlc,SW,wt,wtc,rfl,hb,hsl,hll9,hk9,hpo⟩;have B_w5:=za4 (B_w4.X.below hb);have VZ_w5:=za4 (za0 hb (za2 VZ_w4.X) VZ_w4.X);obtain⟨z0,z1⟩:=za1 VZ_w5.X;have zf:=fun i=>yU _ _ i _ _ VZ_w5.X;have HSWN:=za4 hsl;have HSWL:=za4 hll9;have HSWK:=za4 hk9;have R_w5:Hid (PT w5 w.heap.size w.heap.size (za wra wrn wrc) SW (za wla wln wlc) GL (za wt nT wtc) GT):=hpo.low (B_w4.X).b.size;clear hsl hll9 hk9 hpo;clear hb IG
  (try go_wp2_with fail)
  refine hK.out _ _ ?_ (fun hHeld=> ?_)
  ·exact lp7 (B_w5.X)
  clear hK K
  (try simp only[zi,xB,zL,xC])
  refine tkH 7 hHeld ?_;refine tkH 8 hHeld ?_;refine tkH 9 hHeld ?_;refine tkH 10 hHeld ?_;refine qT (rs:=[12]) (by kernel_rfl) (by simp) ?_;refine qR rfl (fun K hK=> ?_) qS;have s1:=zP w5 kw 0 _ _ (za wra wrn wrc) VZ_w5.X;have V6:Hid (((w5.setCell ⟨kw,0,none⟩ (za wra wrn wrc)).setCell ⟨kw,1,none⟩ (za wla wln wlc)).heap[kw]? =some (zd #[za wra wrn wrc,za wla wln wlc] 33 (0,0))):=by
   have s2:=zP _ kw 1 _ _ (za wla wln wlc) s1;simp at s2;exact s2
  have B6:Hid (LPB w ((w5.setCell ⟨kw,0,none⟩ (za wra wrn wrc)).setCell ⟨kw,1,none⟩ (za wla wln wlc)) _ _):=⟨((B_w5.X).b.setCell (by have:=HZL.X;simp;omega) _).setCell (by have:=HZL.X;simp;omega) _,za6 (za6 (B_w5.X).2.1 (by have:=HZL.X;omega)) (by have:=HZL.X;omega),za6 (za6 (B_w5.X).2.2 (by have:=HZL.X;omega)) (by have:=HZL.X;omega)⟩;have P6:Hid (PT ((w5.setCell ⟨kw,0,none⟩ (za wra wrn wrc)).setCell ⟨kw,1,none⟩ (za wla wln wlc)) w.heap.size w.heap.size (za wra wrn wrc) SW (za wla wln wlc) GL (za wt nT wtc) GT):=(R_w5.X.box VZ_w5.X).box s1;clear s1;go_simp;refine hK.out _ _ ?_ (fun hHeld=> ?_)
  ·exact lp7 B6.X
  clear hK K;generalize((w5.setCell ⟨kw,0,none⟩ (za wra wrn wrc)).setCell ⟨kw,1,none⟩ (za wla wln wlc))=w6 at*;refine tkH 13 hHeld ?_;refine tkH 14 hHeld ?_;refine qU (by kernel_rfl) ?_ _;clear hHeld;have e1:nR=wrn:=by rw[<-HSWN.X,<-HNR.X];have:=congrArg zj HSWK.X;simpa using this.symm
  have e2:nL=wln:=HNL.X.symm.trans HSWL.X;subst e1 e2
  (try go_wp2_with fail)
  go_meet;exact⟨kw,wra,wla,wrc,wlc,SW,wt,wtc,rfl,rfl,rfl,B6.X,V6.X,P6.X,HSWN.X,HSWK.X⟩
 case rest=>
  obtain⟨kw,wra,wla,wrc,wlc,SW,wt,wtc,rfl,rfl,rfl,hB,hV,hP,hN,hKy⟩:=hcut;obtain⟨w6,hw6⟩:∃v,v=wc:=⟨_,rfl⟩;subst hw6;have B6:=za4 hB;have V6:=za4 hV;have P6:=za4 hP;have HSWN:=za4 hN;have HSWK:=za4 hKy;clear hB hV hP hN hKy B2;obtain⟨e0,e1,e2,e3,e4,e5,e6⟩:=B6.X.cells
  go_wp2_with fail
  clear e0 e1 e2 e3 e4 e5 e6;refine(zq0 n fine a ao av cap ko co kv cv zs os vs _ (HA.X.below B6.X.b) (HO.X.below B6.X.b) (HV.X.below B6.X.b) HLO.X HLV.X hs1 hs2 hs3).mono ?_;rintro e w7 ⟨g7,go7,gv7,hl1,hl2,hl3,rfl,hb,hg⟩;have L7:Hid (w6.heap.size<=g7/\w6.heap.size<=go7/\w6.heap.size<=gv7):=⟨hl1,hl2,hl3⟩;have Z7:Hid (Below w6.heap.size w6 (w7.alloc (zd #[zc zb n,za (some ⟨g7,0,none⟩) zs.length zs.length,za (some ⟨go7,0,none⟩) ko ko,za (some ⟨gv7,0,none⟩) kv kv,zc zb fine] 30))):=hb.alloc hb.size _;have X7:Hid ((w7.alloc (zd #[zc zb n,za (some ⟨g7,0,none⟩) zs.length zs.length,za (some ⟨go7,0,none⟩) ko ko,za (some ⟨gv7,0,none⟩) kv kv,zc zb fine] 30)).heap[w7.heap.size]? =_):=zN _ _;have C7:Hid (zo9 (w7.alloc (zd #[zc zb n,za (some ⟨g7,0,none⟩) zs.length zs.length,za (some ⟨go7,0,none⟩) ko ko,za (some ⟨gv7,0,none⟩) kv kv,zc zb fine] 30)) g7 go7 gv7 zs os vs):=hg.below (zK _);have B7:=za4 (B6.X.below Z7.X);clear hb hg hl1 hl2 hl3;obtain⟨e0,e1,e2,e3,e4,e5,e6⟩:=B7.X.cells
  go_wp2_with fail
  clear e0 e1 e2 e3 e4 e5 e6;generalize w7.alloc (zd #[zc zb n,za (some ⟨g7,0,none⟩) zs.length zs.length,za (some ⟨go7,0,none⟩) ko ko,za (some ⟨gv7,0,none⟩) kv kv,zc zb fine] 30)=W7 at*;generalize w7.heap.size=bx at*;refine(zM9 ra la rc lc R L W7 (HRT.X.below B7.X.b) (HL.X.below B7.X.b) hs4 HS5.X hs6).mono ?_;rintro e w8 ⟨gr8,gl8,S8,rfl,hb,hlg,hgl,h5,h6,h7⟩;have Z9:Hid (Below w6.heap.size w6 (w8.alloc (zd #[za (some ⟨gr8,0,none⟩) R.length R.length,za (some ⟨gl8,0,none⟩) L.length L.length] 33))):=(Z7.X.trans (hb.mono Z7.X.size)).alloc (y7 Z7.X.size hb.size) _;have X9:Hid ((w8.alloc (zd #[za (some ⟨gr8,0,none⟩) R.length R.length,za (some ⟨gl8,0,none⟩) L.length L.length] 33)).heap[bx]? =_):=(yY _ _ (za2 (za0 hb (za2 X7.X) X7.X))).trans (za0 hb (za2 X7.X) X7.X);have Y9:Hid ((w8.alloc (zd #[za (some ⟨gr8,0,none⟩) R.length R.length,za (some ⟨gl8,0,none⟩) L.length L.length] 33)).heap[w8.heap.size]? =_):=zN _ _;have C9:Hid (zo9 (w8.alloc (zd #[za (some ⟨gr8,0,none⟩) R.length R.length,za (some ⟨gl8,0,none⟩) L.length L.length] 33)) g7 go7 gv7 zs os vs):=(C7.X.below hb).below (zK _);have P9:Hid (zi1 (w8.alloc (zd #[za (some ⟨gr8,0,none⟩) R.length R.length,za (some ⟨gl8,0,none⟩) L.length L.length] 33)) gr8 gl8 S8 R L):=zi1.below (w:=w8) ⟨h5,h6,h7⟩ (zK _);have U8:Hid (w6.heap.size<=gr8/\gr8<gl8):=⟨y7 Z7.X.size hlg,hgl⟩;have U7:Hid (g7<gr8/\go7<gr8/\gv7<gr8):=⟨xh (za2 C7.X.1) hlg,xh (za2 C7.X.2.1) hlg,xh (za2 C7.X.2.2) hlg⟩;clear hb hlg hgl h5 h6 h7 B7 X7 C7 Z7;obtain⟨x0,x1,x2,x3,x4⟩:=za7 X9.X;obtain⟨y0,y1⟩:=za1 Y9.X
  go_wp2_with fail
  clear x0 x1 x2 x3 x4 y0 y1;generalize w8.alloc (zd #[za (some ⟨gr8,0,none⟩) R.length R.length,za (some ⟨gl8,0,none⟩) L.length L.length] 33)=w9 at*;generalize w8.heap.size=by8 at*;have U9:Hid (gr8<w9.heap.size/\gl8<w9.heap.size/\g7<w9.heap.size/\go7<w9.heap.size/\gv7<w9.heap.size/\w6.heap.size<=w9.heap.size):=⟨za2 P9.X.1,za2 P9.X.2.2,za2 C9.X.1,za2 C9.X.2.1,za2 C9.X.2.2,Z9.X.size⟩;have PS:Hid (∀s∈S8,∀b,s.a=some ⟨b,0,none⟩->w6.heap.size<=b/\b<w9.heap.size):=fun s hs b e=>by
   obtain⟨g',e1,e2,_,e4⟩:=P9.X.2.1.2 s hs;rw[e1]at e;simp only[xV,xZ,qb]at e;have h8:=U8.X;have h9:=za2 e4;omega
  have IG:=zj2 sd kpk n fine _ _ _ zs.length ko ko kv kv gr8 gl8 zs os vs L S8 R w9 C9.X.t C9.X.o C9.X.v P9.X HLO.X HLV.X (by omega) (by omega) hs4 HS5.X hs6 HS7.X HWL.X;rw[HGF.X,HGR.X,HGL.X,HGT.X,HNT.X]at IG;refine IG.mono ?_;rintro e w10 ⟨gra,grn,grc,gla,gln,glc,SG,gt,gtc,p9,rfl,hb,hsl,hll9,hk9,hpo,hap,htz⟩;have e1:grn=nR:=by rw[<-hsl,<-HNR.X];have:=congrArg zj hk9;simpa using this
  have e2:gln=nL:=by rw[<-hll9];exact HNL.X
  subst e1 e2;have HSGN:=za4 hsl;have HSGK:=za4 hk9;have HSGA:=za4 hap;have HTZ:=za4 htz;have HQ9:Hid (w9.heap.size<=p9):=hpo.le;have HTK:Hid (∀z,(za gt nT gtc).ownBlock=some z->w9.heap.size<=z/\z<w10.heap.size):=hpo.t.l.lt;have hA:Below w10.heap.size w10 (w10.alloc (zd #[za gra grn grc,za gla gln glc] 33)):=zK _;have SZ10:Hid (w9.heap.size<=w10.heap.size):=hb.size;have HTP:Hid ((∀g,gra=some ⟨g,0,none⟩->g<w10.heap.size)/\(∀a∈SG.map RT.a,∀g,a=some ⟨g,0,none⟩->g<w10.heap.size)/\(∀g,gla=some ⟨g,0,none⟩->g<w10.heap.size)):=⟨fun g e=>(hpo.p.r.lt g (by rw[e];rfl)).2,fun a ha g e=>by
   obtain⟨s,hs,e2⟩:=yy.1 ha;exact((hpo.p.s s hs).lt g (by rw[e2,e];rfl)).2,fun g e=>(hpo.p.l.lt g (by rw[e];rfl)).2⟩
  have hbA:=hb.trans (hA.mono hb.size);have Z10:Hid (Below w6.heap.size w6 (w10.alloc (zd #[za gra grn grc,za gla gln glc] 33))):=Z9.X.trans (ja hbA Z9.X.size);have X10:=za4 (za0 hbA (za2 X9.X) X9.X);have Y10:=za4 (za0 hbA (za2 Y9.X) Y9.X);have C10:=za4 (C9.X.below hbA);have P10:=za4 (P9.X.below hbA);have O10x:PT (w10.alloc (zd #[za gra grn grc,za gla gln glc] 33)) w9.heap.size p9 (za gra grn grc) SG (za gla gln glc) GL (za gt nT gtc) GT:=hpo.below hA;have KG10:Hid ((w10.alloc (zd #[za gra grn grc,za gla gln glc] 33)).heap[w10.heap.size]? =some (zd #[za gra grn grc,za gla gln glc] 33 (0,0))):=zN _ _;have VW10:=za4 (za0 Z10.X (za2 V6.X) V6.X);clear hb hbA hpo hap htz hsl hll9 hk9 IG hA Z9 X9 Y9 C9 P9;generalize w9.heap.size=b9 at*;have O10:=za4 O10x;clear O10x;obtain⟨k0,k1⟩:=za1 KG10.X;obtain⟨v0,v1⟩:=za1 VW10.X
  go_wp2_with fail
  clear k0 k1 v0 v1 VW10;generalize w10.alloc (zd #[za gra grn grc,za gla gln glc] 33)=wA at*;obtain⟨kg,HKG⟩:=nmd w10.heap.size;rw[HKG.X]at SZ10 HTP HTK KG10⊢;have W10:=za4 (P6.X.below Z10.X);have EQ1:=zv0 gra wra gla wla grc wrc grn glc wlc SG SW GL wA (z27 O10.X.p HSGN.X) (z27 W10.X.p HSWN.X) (HSWK.X.trans HSGK.X.symm) HSGN.X (by omega) (fun r hr=>by have:=(zq3 HSGK.X HBI.X r hr).2;omega) (yr8 O10.X.p HNL.X) (yr8 W10.X.p HNL.X) (by rw[HNL.X];omega);rw[HNL.X]at EQ1;refine EQ1.mono ?_;rintro e w11a ⟨rfl,hb⟩;have EQT:=zp8 gt wt gtc wtc GT GT w11a ((O10.X.below hb).ints HNT.X) ((W10.X.below hb).ints HNT.X) (by have:=HNT.X;omega);rw[HNT.X,zS rfl]at EQT
  go_wp2_with fail
  refine EQT.mono ?_;rintro e w11 ⟨rfl,hb2⟩;replace hb:=hb.trans (ja hb2 hb.size);clear hb2 EQT;have hff:(GF !=GF)=false:=by simp
  have SZ11:Hid (b9<=w11.heap.size):=y7 (y7 SZ10.X (Nat.le_of_lt (za2 KG10.X))) (Below.size hb);have Z11:Hid (Below w6.heap.size w6 w11):=Z10.X.trans (ja hb Z10.X.size);have X11:=za4 (za0 hb (za2 X10.X) X10.X);have Y11:=za4 (za0 hb (za2 Y10.X) Y10.X);have C11:=za4 (C10.X.below hb);have P11:=za4 (P10.X.below hb);have O11:=za4 (O10.X.below hb);have KG11:=za4 (za0 hb (za2 KG10.X) KG10.X);clear hb EQ1 W10 Z10 X10 Y10 C10 P10 O10 KG10;have B11:=za4 (B6.X.below Z11.X);have HB9K:Hid (b9<=kg):=SZ10.X;obtain⟨e0,e1,e2,e3,e4,e5,e6⟩:=B11.X.cells;obtain⟨x0,x1,x2,x3,x4⟩:=za7 X11.X
  go_wp2_with fail
  go_region_held3 (fun W=>(W.cell? ⟨w.heap.size,0,none⟩=some (zc zb n)/\W.cell? ⟨w.heap.size,1,none⟩=some (za a zs.length cap)/\W.cell? ⟨w.heap.size,2,none⟩=some (za ao ko co)/\W.cell? ⟨w.heap.size,3,none⟩=some (za av kv cv)/\W.cell? ⟨w.heap.size,4,none⟩=some (zc zb fine)/\W.cell? ⟨w.heap.size+1,0,none⟩=some (za ra R.length rc)/\W.cell? ⟨w.heap.size+1,1,none⟩=some (za la L.length lc))/\W.cell? ⟨bx,0,none⟩=some (zc zb n)/\W.cell? ⟨bx,1,none⟩=some (za (some ⟨g7,0,none⟩) zs.length zs.length)/\W.cell? ⟨bx,2,none⟩=some (za (some ⟨go7,0,none⟩) ko ko)/\W.cell? ⟨bx,3,none⟩=some (za (some ⟨gv7,0,none⟩) kv kv)/\W.cell? ⟨bx,4,none⟩=some (zc zb fine)) (first|with_reducible exact kS|go_keep) ((first
  |(go_at_call 15
    with_reducible refine(zq0 n fine a ao av cap ko co kv cv zs os vs w11.drew (HA.X.below B11.X.drew.b) (HO.X.below B11.X.drew.b) (HV.X.below B11.X.drew.b) HLO.X HLV.X hs1 hs2 hs3).mono ?_
    rintro e w12 ⟨g12,go12,gv12,_,_,_,rfl,hb',hg⟩;have hb:=(yV w11.heap.size w11).drew.trans (hb'.mono (zQ _));have SZ12:Hid (b9<=w12.heap.size):=y7 SZ11.X (Below.size hb);have Z12:Hid (Below w6.heap.size w6 w12):=Z11.X.trans (ja hb Z11.X.size);have X12:=za4 (za0 hb (za2 X11.X) X11.X);have Y12:=za4 (za0 hb (za2 Y11.X) Y11.X);have C12:=za4 (C11.X.below hb);have P12:=za4 (P11.X.below hb);have O12:=za4 (O11.X.below hb);have KG12:=za4 (za0 hb (za2 KG11.X) KG11.X);have D12:=za4 hg;have kS:=xe (lp7 (B6.X.below Z12.X)) (za7 X12.X);clear hb hb' hg)
  |(go_at_call 19
    with_reducible refine(yf1 n fine _ _ _ _ _ _ _ _ _ _ _ _ _ _ zs os vs w12 C12.X.t C12.X.o C12.X.v D12.X.t D12.X.o D12.X.v HLO.X HLV.X (by omega) (by omega) (by omega)).mono ?_
    rintro e w13 ⟨rfl,hb⟩;have SZ13:Hid (b9<=w13.heap.size):=y7 SZ12.X (Below.size hb);have Z13:Hid (Below w6.heap.size w6 w13):=Z12.X.trans (ja hb Z12.X.size);have X13:=za4 (za0 hb (za2 X12.X) X12.X);have Y13:=za4 (za0 hb (za2 Y12.X) Y12.X);have C13:=za4 (C12.X.below hb);have P13:=za4 (P12.X.below hb);have O13:=za4 (O12.X.below hb);have KG13:=za4 (za0 hb (za2 KG12.X) KG12.X);have kS:=xe (lp7 (B6.X.below Z13.X)) (za7 X13.X);clear hb)))
  all_goals
   clear e0 e1 e2 e3 e4 e5 e6 x0 x1 x2 x3 x4 kS B11 D12;clear Z11 X11 Y11 C11 P11 O11 KG11;clear Z12 X12 Y12 C12 P12 O12 KG12;have B13:=za4 (B6.X.below Z13.X);obtain⟨e0,e1,e2,e3,e4,e5,e6⟩:=B13.X.cells;obtain⟨y0,y1⟩:=za1 Y13.X
   go_wp2_with fail
   go_region_held3 (fun W=>(W.cell? ⟨w.heap.size,0,none⟩=some (zc zb n)/\W.cell? ⟨w.heap.size,1,none⟩=some (za a zs.length cap)/\W.cell? ⟨w.heap.size,2,none⟩=some (za ao ko co)/\W.cell? ⟨w.heap.size,3,none⟩=some (za av kv cv)/\W.cell? ⟨w.heap.size,4,none⟩=some (zc zb fine)/\W.cell? ⟨w.heap.size+1,0,none⟩=some (za ra R.length rc)/\W.cell? ⟨w.heap.size+1,1,none⟩=some (za la L.length lc))/\W.cell? ⟨by8,0,none⟩=some (za (some ⟨gr8,0,none⟩) R.length R.length)/\W.cell? ⟨by8,1,none⟩=some (za (some ⟨gl8,0,none⟩) L.length L.length)) (first|with_reducible exact kS|go_keep) ((first
   |(go_at_call 16
     with_reducible refine(zq6 ra la rc lc R L w13.drew (HRT.X.below B13.X.drew.b) (HL.X.below B13.X.drew.b) hs4 HS5.X hs6).mono ?_
     rintro e w14 ⟨gr14,gl14,S14,rfl,hb',hg⟩;have hb:=(yV w13.heap.size w13).drew.trans (hb'.mono (zQ _));have SZ14:Hid (b9<=w14.heap.size):=y7 SZ13.X (Below.size hb);have Z14:Hid (Below w6.heap.size w6 w14):=Z13.X.trans (ja hb Z13.X.size);have X14:=za4 (za0 hb (za2 X13.X) X13.X);have Y14:=za4 (za0 hb (za2 Y13.X) Y13.X);have C14:=za4 (C13.X.below hb);have P14:=za4 (P13.X.below hb);have O14:=za4 (O13.X.below hb);have KG14:=za4 (za0 hb (za2 KG13.X) KG13.X);have Q14:=za4 hg;have kS:=xe (lp7 (B6.X.below Z14.X)) (za1 Y14.X);clear hb hb' hg)
   |(go_at_call 17
     with_reducible refine(yt1 gr8 gl8 gr14 gl14 S8 S14 R L w14 P14.X Q14.X hs4 HS5.X hs6).mono ?_
     rintro e w15 ⟨rfl,hb⟩;have SZ15:Hid (b9<=w15.heap.size):=y7 SZ14.X (Below.size hb);have Z15:Hid (Below w6.heap.size w6 w15):=Z14.X.trans (ja hb Z14.X.size);have X15:=za4 (za0 hb (za2 X14.X) X14.X);have Y15:=za4 (za0 hb (za2 Y14.X) Y14.X);have C15:=za4 (C14.X.below hb);have P15:=za4 (P14.X.below hb);have O15:=za4 (O14.X.below hb);have KG15:=za4 (za0 hb (za2 KG14.X) KG14.X);have kS:=xe (lp7 (B6.X.below Z15.X)) (za1 Y15.X);clear hb)))
   all_goals
    clear e0 e1 e2 e3 e4 e5 e6 y0 y1 kS B13 Q14;clear Z13 X13 Y13 C13 P13 O13 KG13;clear Z14 X14 Y14 C14 P14 O14 KG14;have N1:Hid (¬(by8=g7∨by8=go7∨by8=gv7)):=fun h=>by
     rcases h with h|h|h
     ·exact zm2 Y15.X C15.X.1 (by decide) h
     ·exact zm2 Y15.X C15.X.2.1 (by decide) h
     ·exact zm2 Y15.X C15.X.2.2 (by decide) h
    have N2:Hid (∀W',zb2 (fun b=>b=g7∨b=go7∨b=gv7) w15 W'->zi1 W' gr8 gl8 S8 R L):=fun W' hG=>by
     have h9:=L7.X;refine⟨hG.row P15.X.1 (fun h=> ?_),⟨P15.X.2.1.1,fun s hs=> ?_⟩,hG.row P15.X.2.2 (fun h=> ?_)⟩
     ·rcases h with h|h|h
      ·exact zm2 P15.X.1 C15.X.1 (by decide) h
      ·exact zm2 P15.X.1 C15.X.2.1 (by decide) h
      ·exact zm2 P15.X.1 C15.X.2.2 (by decide) h
     ·obtain⟨g',e1,e2,e3,e4⟩:=P15.X.2.1.2 s hs
      refine⟨g',e1,e2,e3,hG.row e4 (fun h=> ?_)⟩;have h8:=U7.X;rcases h with h|h|h<;>omega
     ·have h8:=U7.X
      have h7:=U8.X;rcases h with h|h|h<;>omega
    obtain⟨x0,x1,x2,x3,x4⟩:=za7 X15.X
    go_wp2_with fail
    clear x0 x1 x2 x3 x4;refine(zU9 n fine g7 go7 gv7 _ ko _ kv _ zs os vs w15 C15.X HLO.X HLV.X hs1 hs2 hs3).mono ?_;rintro e w16 ⟨kk,rfl,hk1,hk2,hg⟩;have Z16:Hid (Below w6.heap.size w6 w16):=Z15.X.trans (hg.below Z15.X.size (fun b h=>by have h9:=L7.X;rcases h with h|h|h<;>omega));have Y16:Hid (w16.heap[by8]? =_):=hg.row Y15.X N1.X;have P16:Hid (zi1 w16 gr8 gl8 S8 R L):=N2.X _ hg;have O16:Hid (PT w16 b9 p9 (za gra grn grc) SG (za gla gln glc) GL (za gt nT gtc) GT):=O15.X.but hg (fun b h=>by have h9:=U9.X;rcases h with h|h|h<;>omega);have KG16:Hid (w16.heap[kg]? =some (zd #[za gra grn grc,za gla gln glc] 33 (0,0))):=hg.row KG15.X (fun h=>by have h9:=HB9K.X;have h8:=U9.X;rcases h with h|h|h<;>omega);have H16:Hid (b9<=w16.heap.size):=y7 SZ15.X hg.size;clear hg N1 N2;clear Z15 X15 Y15 C15 P15 O15 KG15;obtain⟨y0,y1⟩:=za1 Y16.X
    go_wp2_with fail
    clear y0 y1;refine(zV5 gr8 gl8 w6.heap.size b9 kk S8 R L w16 P16.X PS.X (by have h9:=U9.X;have h8:=U8.X;omega) (by have h9:=U9.X;have h8:=U8.X;omega) hk1 (by omega) hs4 hs6 HS7.X H16.X).mono ?_;rintro e w17 ⟨kq,rfl,hkq,hg⟩;have Z17:Hid (Below w6.heap.size w6 w17):=Z16.X.trans (hg.below Z16.X.size (fun b h=>h.1));have O17:Hid (PT w17 b9 p9 (za gra grn grc) SG (za gla gln glc) GL (za gt nT gtc) GT):=O16.X.but hg (fun b h=>h.2);have KG17:Hid (w17.heap[kg]? =some (zd #[za gra grn grc,za gla gln glc] 33 (0,0))):=hg.row KG16.X (fun h=>by have h9:=HB9K.X;have h8:=U9.X;omega);clear hg Z16 Y16 P16 O16 KG16;have SWP:=za4 (P6.X.below Z17.X);have VW17:=za4 (za0 Z17.X (za2 V6.X) V6.X);have EQ2:=zv0 gra wra gla wla grc wrc grn glc wlc SG SW GL w17 (z27 O17.X.p HSGN.X) (z27 SWP.X.p HSWN.X) (HSWK.X.trans HSGK.X.symm) HSGN.X (by omega) (fun r hr=>by have:=(zq3 HSGK.X HBI.X r hr).2;omega) (yr8 O17.X.p HNL.X) (yr8 SWP.X.p HNL.X) (by rw[HNL.X];omega);rw[HNL.X]at EQ2;obtain⟨k0,k1⟩:=za1 KG17.X;obtain⟨v0,v1⟩:=za1 VW17.X;have hkn:¬kq<0:=by omega
    go_wp2_with fail
    refine EQ2.mono ?_;rintro e w18a ⟨rfl,hb⟩;have EQT:=zp8 gt wt gtc wtc GT GT w18a ((O17.X.below hb).ints HNT.X) ((SWP.X.below hb).ints HNT.X) (by have:=HNT.X;omega);rw[HNT.X,zS rfl]at EQT
    go_wp2_with fail
    refine EQT.mono ?_;rintro e w18 ⟨rfl,hb2⟩;replace hb:=hb.trans (ja hb2 hb.size);clear hb2 EQT;have Z18:Hid (Below w6.heap.size w6 w18):=Z17.X.trans (ja hb Z17.X.size);have O18:=za4 (O17.X.below hb);have KG18:=za4 (za0 hb (za2 KG17.X) KG17.X);clear hb EQ2 SWP VW17 k0 k1 v0 v1 Z17 O17 KG17;obtain⟨k0,k1⟩:=za1 KG18.X;have MK:=zX5 gra gla grn grc gln glc p9 1 SG GL w18 O18.X.p HSGN.X HNL.X HSGA.X.apt (by omega) (by omega) (fun s hs=>by have:=(zq3 HSGK.X HBI.X s hs).2;omega) (by omega) (by omega) kg (Nat.le_of_lt (za2 KG18.X)) HTP.X.1 HTP.X.2.1 HTP.X.2.2;have hmk:=yj0 SG 1 (fun s hs=>by have:=(zq3 HSGK.X HBI.X s hs).2;omega);rw[HSGN.X]at hmk;have HHP:Hid (∀W,PO W p9 (za gra grn grc) (mkS SG 1) (za gla gln glc) (zq5 (mkK SG 1) gln)->Calls ze 23 #[.agg #[za gra grn grc,za gla gln glc],zc zb 1] W fun e w'=>e=.returned (zc zb (mkK SG 1+(gln:Int)))/\Below W.heap.size W w'):=fun W hW=>zW7 gra gla grn grc gln glc p9 1 SG W hW HSGN.X (by omega) (by omega) (fun s hs=>by have:=(zq3 HSGK.X HBI.X s hs).2;omega) (by omega) (by omega)
    obtain⟨gk,HGK⟩:=nmd (mkK SG 1+(gln:Int));have hgk:¬gk<0:=by have:=HGK.X;omega
    have hgk1:gk<=1000000000000:=by have:=HGK.X;omega
    obtain⟨gm,HGM⟩:=nmd (gk+(nT:Int));have hgm:¬gm<0:=by have:=HGM.X;omega
    have hgg:(gm !=gm)=false:=by simp
    rw[HGK.X]at MK HHP;clear hmk
    go_wp2_with fail
    refine MK.mono ?_;rintro e w19 ⟨rfl,hG,hm⟩;have M19a:PT w19 b9 p9 (za gra grn grc) (mkS SG 1) (za gla gln glc) (zq5 (mkK SG 1) gln) (za gt nT gtc) GT:=O18.X.mark HTZ.X hG hm;have Z19:Hid (Below w6.heap.size w6 w19):=Z18.X.trans (hG.below Z18.X.size (fun b h=>by have:=h.1;have:=U9.X;have:=HQ9.X;omega));have KG19:Hid (w19.heap[kg]? =some (zd #[za gra grn grc,za gla gln glc] 33 (0,0))):=hG.row KG18.X (fun h=>by omega);clear hG hm MK Z18 O18 KG18 k0 k1;have MQ:=M19a.markT gk HNT.X HTZ.X (by omega) hgk1 (by omega);rw[HGM.X]at MQ
    go_wp2_with fail
    refine MQ.mono ?_;rintro e w20 ⟨rfl,hG,hm⟩;have M20:=za4 hm;have Z20:Hid (Below w6.heap.size w6 w20):=Z19.X.trans (hG.below Z19.X.size (fun b h=>by have:=(HTK.X b h).1;have:=U9.X;omega));have KG20:Hid (w20.heap[kg]? =some (zd #[za gra grn grc,za gla gln glc] 33 (0,0))):=hG.row KG19.X (fun h=>by have:=(HTK.X kg h).2;omega);clear hG hm MQ M19a Z19 KG19;obtain⟨k0,k1⟩:=za1 KG20.X
    go_wp2_with fail
    refine(HHP.X w20 M20.X.p).mono ?_;rintro e w21 ⟨rfl,hb⟩;have M:=za4 (M20.X.below hb);have Z:Hid (Below w6.heap.size w6 w21):=Z20.X.trans (ja hb Z20.X.size);have KG:=za4 (za0 hb (za2 KG20.X) KG20.X);clear hb M20 Z20 KG20 k0 k1;have HHT:Hid (∀W,PT W b9 p9 (za gra grn grc) (mkS SG 1) (za gla gln glc) (zq5 (mkK SG 1) gln) (za gt nT gtc) (zq5 gk nT)->Calls ze 24 #[za gt nT gtc,zc zb gk] W fun e w'=>e=.returned (zc zb gm)/\w'=W):=fun W hW=>by
     have:=hW.heldT (by omega) hgk1 (by omega);rw[HGM.X]at this;exact this
    go_wp2_with fail
    refine(HHT.X w21 M.X).mono ?_;rintro e w21b ⟨rfl,hw⟩;subst w21b;go_upto_region 35 with fail;go_cut [21,22,23]from 127 to 137 (fun s21 s22 s23 wx=>∃(kh:Nat) (hra hla:Option Addr) (hrc hlc:Nat) (SH:List RT) (ht:Option Addr) (htc:Nat),s21=.pointer (some ⟨kh,0,none⟩)/\s22=za ht nT htc/\s23=.bool GF/\Below w6.heap.size w6 wx/\PT wx b9 p9 (za gra grn grc) (mkS SG 1) (za gla gln glc) (zq5 (mkK SG 1) gln) (za gt nT gtc) (zq5 gk nT)/\wx.heap[kg]? =some (zd #[za gra grn grc,za gla gln glc] 33 (0,0))/\wx.heap[kh]? =some (zd #[za hra grn hrc,za hla gln hlc] 33 (0,0))/\PT wx w.heap.size w.heap.size (za hra grn hrc) SH (za hla gln hlc) GL (za ht nT htc) GT/\SH.length=grn/\SH.map RT.key=GR.map RT.key)
    case first=>
     have Z_i:=Z
     go_wp2_with fail
     refine qV (S:=(fun W=>W.cell? ⟨w.heap.size,0,none⟩=some (zc zb n)/\W.cell? ⟨w.heap.size,1,none⟩=some (za a zs.length cap)/\W.cell? ⟨w.heap.size,2,none⟩=some (za ao ko co)/\W.cell? ⟨w.heap.size,3,none⟩=some (za av kv cv)/\W.cell? ⟨w.heap.size,4,none⟩=some (zc zb fine)/\W.cell? ⟨w.heap.size+1,0,none⟩=some (za ra R.length rc)/\W.cell? ⟨w.heap.size+1,1,none⟩=some (za la L.length lc))) (by kernel_rfl) ?_ (fun hHeld=> ?_)
     ·exact lp7 ((B6.X.below Z.X).drew)
     have Z_d:Hid (Below w6.heap.size w6 w21.drew):=Z.X.trans (ja ((yV w21.heap.size w21).drew) Z.X.size);have M_d:Hid (PT w21.drew b9 p9 (za gra grn grc) (mkS SG 1) (za gla gln glc) (zq5 (mkK SG 1) gln) (za gt nT gtc) (zq5 gk nT)):=M.X.below ((yV w21.heap.size w21).drew);have KG_d:Hid (w21.drew.heap[kg]? =some (zd #[za gra grn grc,za gla gln glc] 33 (0,0))):=za0 ((yV w21.heap.size w21).drew) (za2 KG.X) KG.X;generalize w21.drew=wd at*;refine tkH 0 hHeld ?_;refine tkH 2 hHeld ?_;refine tkH 4 hHeld ?_;refine tkH 5 hHeld ?_;refine qT (rs:=[1,11]) (by kernel_rfl) (by simp) ?_;refine qR rfl (fun K hK=> ?_) ?_
     ·skip
      go_simp;refine(zq0 n fine a ao av cap ko co kv cv zs os vs wd (HA.X.below (B6.X.below Z_d.X).b) (HO.X.below (B6.X.below Z_d.X).b) (HV.X.below (B6.X.below Z_d.X).b) HLO.X HLV.X hs1 hs2 hs3).mono ?_;rintro e w3 ⟨g3,go3,gv3,_,_,_,rfl,hb,hg⟩;have Z_w3:Hid (Below w6.heap.size w6 w3):=Z_d.X.trans (ja hb Z_d.X.size);have M_w3:=za4 (M_d.X.below hb);have KG_w3:=za4 (za0 hb (za2 KG_d.X) KG_d.X);have C_w3:=za4 hg;clear hb hg
      (try go_wp2_with fail)
      refine hK.out _ _ ?_ (fun hHeld=> ?_)
      ·exact lp7 (B6.X.below Z_w3.X)
      clear hK K
      (try simp only[zi,xB,zL,xC])
      refine qT (rs:=[3,11]) (by kernel_rfl) (by simp) ?_;refine qR rfl (fun K hK=> ?_) ?_
      ·skip
       go_simp;refine(zq6 ra la rc lc R L w3 (HRT.X.below (B6.X.below Z_w3.X).b) (HL.X.below (B6.X.below Z_w3.X).b) hs4 HS5.X hs6).mono ?_;rintro e w4 ⟨gr4,gl4,S4,rfl,hb,hg⟩;have Z_w4:Hid (Below w6.heap.size w6 w4):=Z_w3.X.trans (ja hb Z_w3.X.size);have M_w4:=za4 (M_w3.X.below hb);have KG_w4:=za4 (za0 hb (za2 KG_w3.X) KG_w3.X);have C_w4:=za4 (C_w3.X.below hb);have P_w4:=za4 hg;clear hb hg
       (try go_wp2_with fail)
       refine hK.out _ _ ?_ (fun hHeld=> ?_)
       ·exact lp7 (B6.X.below Z_w4.X)
       clear hK K
       (try simp only[zi,xB,zL,xC])
       refine qT (rs:=[6,11]) (by kernel_rfl) (by simp) ?_;refine qR rfl (fun K hK=> ?_) ?_
       ·skip
        go_simp;have IG:=zj2 sd kpk n fine _ _ _ zs.length ko ko kv kv gr4 gl4 zs os vs L S4 R w4 C_w4.X.t C_w4.X.o C_w4.X.v P_w4.X HLO.X HLV.X (by omega) (by omega) hs4 HS5.X hs6 HS7.X HWL.X;rw[HGF.X,HGR.X,HGL.X,HGT.X,HNT.X]at IG;refine IG.mono ?_;rintro e w5 ⟨hra,hrn,hrc,hla,hln,hlc,SH,ht,htc,q5,rfl,hb,hsl,hll9,hk9,hpo,hap,htz⟩;have Z_w5:Hid (Below w6.heap.size w6 w5):=Z_w4.X.trans (ja hb Z_w4.X.size);have M_w5:=za4 (M_w4.X.below hb);have KG_w5:=za4 (za0 hb (za2 KG_w4.X) KG_w4.X);have e1:grn=hrn:=by rw[<-hsl,<-HNR.X];have:=congrArg zj hk9;simpa using this.symm
        have e2:gln=hln:=by rw[<-hll9];exact HNL.X.symm
        subst e1 e2;have HSHN:=za4 hsl;have HSHK:=za4 hk9;have R_w5:Hid (PT w5 w.heap.size w.heap.size (za hra grn hrc) SH (za hla gln hlc) GL (za ht nT htc) GT):=hpo.low (B6.X.below Z_w4.X).b.size;clear hsl hll9 hk9 hpo hap htz;clear hb IG
        (try go_wp2_with fail)
        refine hK.out _ _ ?_ (fun hHeld=> ?_)
        ·exact lp7 (B6.X.below Z_w5.X)
        clear hK K
        (try simp only[zi,xB,zL,xC])
        refine tkH 7 hHeld ?_;refine tkH 8 hHeld ?_;refine tkH 9 hHeld ?_;refine tkH 10 hHeld ?_;refine qT (rs:=[11]) (by kernel_rfl) (by simp) ?_;refine qR rfl (fun K hK=> ?_) qS;have Z_z:Hid (Below w6.heap.size w6 (w5.alloc (zd #[za none 0 0,za none 0 0] 33))):=Z_w5.X.trans (ja ((yV w5.heap.size w5).alloc (zQ _) (zd #[za none 0 0,za none 0 0] 33)) Z_w5.X.size);have M_z:Hid (PT (w5.alloc (zd #[za none 0 0,za none 0 0] 33)) b9 p9 (za gra grn grc) (mkS SG 1) (za gla gln glc) (zq5 (mkK SG 1) gln) (za gt nT gtc) (zq5 gk nT)):=M_w5.X.below ((yV w5.heap.size w5).alloc (zQ _) (zd #[za none 0 0,za none 0 0] 33));have KG_z:Hid ((w5.alloc (zd #[za none 0 0,za none 0 0] 33)).heap[kg]? =some (zd #[za gra grn grc,za gla gln glc] 33 (0,0))):=za0 ((yV w5.heap.size w5).alloc (zQ _) (zd #[za none 0 0,za none 0 0] 33)) (za2 KG_w5.X) KG_w5.X;have R_z:Hid (PT (w5.alloc (zd #[za none 0 0,za none 0 0] 33)) w.heap.size w.heap.size (za hra grn hrc) SH (za hla gln hlc) GL (za ht nT htc) GT):=R_w5.X.below ((yV w5.heap.size w5).alloc (zQ _) (zd #[za none 0 0,za none 0 0] 33));have VZ0:Hid ((w5.alloc (zd #[za none 0 0,za none 0 0] 33)).heap[w5.heap.size]? =some (zd #[za none 0 0,za none 0 0] 33 (0,0))):=zN _ _;have HZL:Hid (w.heap.size+2<=w5.heap.size):=za2 (B6.X.below Z_w5.X).2.2;have HZM:Hid (w6.heap.size<=w5.heap.size/\kg<w5.heap.size):=⟨Z_w5.X.size,za2 KG_w5.X⟩;go_simp;refine hK.out _ _ ?_ (fun hHeld=> ?_)
        ·exact lp7 (B6.X.below Z_z.X)
        clear hK K
        (try simp only[zi,xB,zL,xC])
        obtain⟨kh,HKZ⟩:=nmd w5.heap.size;rw[HKZ.X]at VZ0 HZL HZM⊢;generalize(w5.alloc (zd #[za none 0 0,za none 0 0] 33))=wz at*;obtain⟨z0,z1⟩:=za1 VZ0.X;have zf:=fun i=>yU _ _ i _ _ VZ0.X;refine qT (rs:=[12]) (by kernel_rfl) (by simp) ?_;refine qR rfl (fun K hK=> ?_) qS;have s1:=zP wz kh 0 _ _ (za hra grn hrc) VZ0.X;have V31:Hid (((wz.setCell ⟨kh,0,none⟩ (za hra grn hrc)).setCell ⟨kh,1,none⟩ (za hla gln hlc)).heap[kh]? =some (zd #[za hra grn hrc,za hla gln hlc] 33 (0,0))):=by
         have s2:=zP _ kh 1 _ _ (za hla gln hlc) s1;simp at s2;exact s2
        have B31:Hid (LPB w ((wz.setCell ⟨kh,0,none⟩ (za hra grn hrc)).setCell ⟨kh,1,none⟩ (za hla gln hlc)) _ _):=⟨((B6.X.below Z_z.X).b.setCell (by have:=HZL.X;simp;omega) _).setCell (by have:=HZL.X;simp;omega) _,za6 (za6 (B6.X.below Z_z.X).2.1 (by have:=HZL.X;omega)) (by have:=HZL.X;omega),za6 (za6 (B6.X.below Z_z.X).2.2 (by have:=HZL.X;omega)) (by have:=HZL.X;omega)⟩;have Z31:Hid (Below w6.heap.size w6 ((wz.setCell ⟨kh,0,none⟩ (za hra grn hrc)).setCell ⟨kh,1,none⟩ (za hla gln hlc))):=(Z_z.X.setCell HZM.X.1 _).setCell HZM.X.1 _;have M31:Hid (PT ((wz.setCell ⟨kh,0,none⟩ (za hra grn hrc)).setCell ⟨kh,1,none⟩ (za hla gln hlc)) b9 p9 (za gra grn grc) (mkS SG 1) (za gla gln glc) (zq5 (mkK SG 1) gln) (za gt nT gtc) (zq5 gk nT)):=(M_z.X.box VZ0.X).box s1;have KG31:Hid (((wz.setCell ⟨kh,0,none⟩ (za hra grn hrc)).setCell ⟨kh,1,none⟩ (za hla gln hlc)).heap[kg]? =some (zd #[za gra grn grc,za gla gln glc] 33 (0,0))):=za6 (za6 KG_z.X (by have:=HZM.X.2;omega)) (by have:=HZM.X.2;omega);have H31:Hid (PT ((wz.setCell ⟨kh,0,none⟩ (za hra grn hrc)).setCell ⟨kh,1,none⟩ (za hla gln hlc)) w.heap.size w.heap.size (za hra grn hrc) SH (za hla gln hlc) GL (za ht nT htc) GT):=(R_z.X.box VZ0.X).box s1;clear s1;go_simp;refine hK.out _ _ ?_ (fun hHeld=> ?_)
        ·exact lp7 B31.X
        clear hK K;generalize((wz.setCell ⟨kh,0,none⟩ (za hra grn hrc)).setCell ⟨kh,1,none⟩ (za hla gln hlc))=w31 at*;refine tkH 13 hHeld ?_;refine tkH 14 hHeld ?_;refine qU (by kernel_rfl) ?_ _;clear hHeld
        (try go_wp2_with fail)
        go_meet;exact⟨kh,hra,hla,hrc,hlc,SH,ht,htc,rfl,rfl,rfl,Z31.X,M31.X,KG31.X,V31.X,H31.X,HSHN.X,HSHK.X⟩
       refine qR rfl (fun K hK=> ?_) qS;have Z_z:Hid (Below w6.heap.size w6 (w4.alloc (zd #[za none 0 0,za none 0 0] 33))):=Z_w4.X.trans (ja ((yV w4.heap.size w4).alloc (zQ _) (zd #[za none 0 0,za none 0 0] 33)) Z_w4.X.size);have M_z:Hid (PT (w4.alloc (zd #[za none 0 0,za none 0 0] 33)) b9 p9 (za gra grn grc) (mkS SG 1) (za gla gln glc) (zq5 (mkK SG 1) gln) (za gt nT gtc) (zq5 gk nT)):=M_w4.X.below ((yV w4.heap.size w4).alloc (zQ _) (zd #[za none 0 0,za none 0 0] 33));have KG_z:Hid ((w4.alloc (zd #[za none 0 0,za none 0 0] 33)).heap[kg]? =some (zd #[za gra grn grc,za gla gln glc] 33 (0,0))):=za0 ((yV w4.heap.size w4).alloc (zQ _) (zd #[za none 0 0,za none 0 0] 33)) (za2 KG_w4.X) KG_w4.X;have C_z:Hid (zo9 (w4.alloc (zd #[za none 0 0,za none 0 0] 33)) g3 go3 gv3 zs os vs):=C_w4.X.below ((yV w4.heap.size w4).alloc (zQ _) (zd #[za none 0 0,za none 0 0] 33));have P_z:Hid (zi1 (w4.alloc (zd #[za none 0 0,za none 0 0] 33)) gr4 gl4 S4 R L):=P_w4.X.below ((yV w4.heap.size w4).alloc (zQ _) (zd #[za none 0 0,za none 0 0] 33));have VZ0:Hid ((w4.alloc (zd #[za none 0 0,za none 0 0] 33)).heap[w4.heap.size]? =some (zd #[za none 0 0,za none 0 0] 33 (0,0))):=zN _ _;have HZL:Hid (w.heap.size+2<=w4.heap.size):=za2 (B6.X.below Z_w4.X).2.2;have HZM:Hid (w6.heap.size<=w4.heap.size/\kg<w4.heap.size):=⟨Z_w4.X.size,za2 KG_w4.X⟩;go_simp;refine hK.out _ _ ?_ (fun hHeld=> ?_)
       ·exact lp7 (B6.X.below Z_z.X)
       clear hK K
       (try simp only[zi,xB,zL,xC])
       obtain⟨kh,HKZ⟩:=nmd w4.heap.size;rw[HKZ.X]at VZ0 HZL HZM⊢;generalize(w4.alloc (zd #[za none 0 0,za none 0 0] 33))=wz at*;obtain⟨z0,z1⟩:=za1 VZ0.X;have zf:=fun i=>yU _ _ i _ _ VZ0.X;refine qT (rs:=[6]) (by kernel_rfl) (by simp) ?_;refine qR rfl (fun K hK=> ?_) qS;go_simp;have IG:=zj2 sd kpk n fine _ _ _ zs.length ko ko kv kv gr4 gl4 zs os vs L S4 R wz C_z.X.t C_z.X.o C_z.X.v P_z.X HLO.X HLV.X (by omega) (by omega) hs4 HS5.X hs6 HS7.X HWL.X;rw[HGF.X,HGR.X,HGL.X,HGT.X,HNT.X]at IG;refine IG.mono ?_;rintro e w5 ⟨hra,hrn,hrc,hla,hln,hlc,SH,ht,htc,q5,rfl,hb,hsl,hll9,hk9,hpo,hap,htz⟩;have Z_w5:Hid (Below w6.heap.size w6 w5):=Z_z.X.trans (ja hb Z_z.X.size);have M_w5:=za4 (M_z.X.below hb);have KG_w5:=za4 (za0 hb (za2 KG_z.X) KG_z.X);have VZ_w5:=za4 (za0 hb (za2 VZ0.X) VZ0.X);obtain⟨z0,z1⟩:=za1 VZ_w5.X;have zf:=fun i=>yU _ _ i _ _ VZ_w5.X;have e1:grn=hrn:=by rw[<-hsl,<-HNR.X];have:=congrArg zj hk9;simpa using this.symm
       have e2:gln=hln:=by rw[<-hll9];exact HNL.X.symm
       subst e1 e2;have HSHN:=za4 hsl;have HSHK:=za4 hk9;have R_w5:Hid (PT w5 w.heap.size w.heap.size (za hra grn hrc) SH (za hla gln hlc) GL (za ht nT htc) GT):=hpo.low (B6.X.below Z_z.X).b.size;clear hsl hll9 hk9 hpo hap htz;clear hb IG
       (try go_wp2_with fail)
       refine hK.out _ _ ?_ (fun hHeld=> ?_)
       ·exact lp7 (B6.X.below Z_w5.X)
       clear hK K
       (try simp only[zi,xB,zL,xC])
       refine tkH 7 hHeld ?_;refine tkH 8 hHeld ?_;refine tkH 9 hHeld ?_;refine tkH 10 hHeld ?_;refine qT (rs:=[12]) (by kernel_rfl) (by simp) ?_;refine qR rfl (fun K hK=> ?_) qS;have s1:=zP w5 kh 0 _ _ (za hra grn hrc) VZ_w5.X;have V31:Hid (((w5.setCell ⟨kh,0,none⟩ (za hra grn hrc)).setCell ⟨kh,1,none⟩ (za hla gln hlc)).heap[kh]? =some (zd #[za hra grn hrc,za hla gln hlc] 33 (0,0))):=by
        have s2:=zP _ kh 1 _ _ (za hla gln hlc) s1;simp at s2;exact s2
       have B31:Hid (LPB w ((w5.setCell ⟨kh,0,none⟩ (za hra grn hrc)).setCell ⟨kh,1,none⟩ (za hla gln hlc)) _ _):=⟨((B6.X.below Z_w5.X).b.setCell (by have:=HZL.X;simp;omega) _).setCell (by have:=HZL.X;simp;omega) _,za6 (za6 (B6.X.below Z_w5.X).2.1 (by have:=HZL.X;omega)) (by have:=HZL.X;omega),za6 (za6 (B6.X.below Z_w5.X).2.2 (by have:=HZL.X;omega)) (by have:=HZL.X;omega)⟩;have Z31:Hid (Below w6.heap.size w6 ((w5.setCell ⟨kh,0,none⟩ (za hra grn hrc)).setCell ⟨kh,1,none⟩ (za hla gln hlc))):=(Z_w5.X.setCell HZM.X.1 _).setCell HZM.X.1 _;have M31:Hid (PT ((w5.setCell ⟨kh,0,none⟩ (za hra grn hrc)).setCell ⟨kh,1,none⟩ (za hla gln hlc)) b9 p9 (za gra grn grc) (mkS SG 1) (za gla gln glc) (zq5 (mkK SG 1) gln) (za gt nT gtc) (zq5 gk nT)):=(M_w5.X.box VZ_w5.X).box s1;have KG31:Hid (((w5.setCell ⟨kh,0,none⟩ (za hra grn hrc)).setCell ⟨kh,1,none⟩ (za hla gln hlc)).heap[kg]? =some (zd #[za gra grn grc,za gla gln glc] 33 (0,0))):=za6 (za6 KG_w5.X (by have:=HZM.X.2;omega)) (by have:=HZM.X.2;omega);have H31:Hid (PT ((w5.setCell ⟨kh,0,none⟩ (za hra grn hrc)).setCell ⟨kh,1,none⟩ (za hla gln hlc)) w.heap.size w.heap.size (za hra grn hrc) SH (za hla gln hlc) GL (za ht nT htc) GT):=(R_w5.X.box VZ_w5.X).box s1;clear s1;go_simp;refine hK.out _ _ ?_ (fun hHeld=> ?_)
       ·exact lp7 B31.X
       clear hK K;generalize((w5.setCell ⟨kh,0,none⟩ (za hra grn hrc)).setCell ⟨kh,1,none⟩ (za hla gln hlc))=w31 at*;refine tkH 13 hHeld ?_;refine tkH 14 hHeld ?_;refine qU (by kernel_rfl) ?_ _;clear hHeld
       (try go_wp2_with fail)
       go_meet;exact⟨kh,hra,hla,hrc,hlc,SH,ht,htc,rfl,rfl,rfl,Z31.X,M31.X,KG31.X,V31.X,H31.X,HSHN.X,HSHK.X⟩
      refine qR rfl (fun K hK=> ?_) qS;have Z_z:Hid (Below w6.heap.size w6 (w3.alloc (zd #[za none 0 0,za none 0 0] 33))):=Z_w3.X.trans (ja ((yV w3.heap.size w3).alloc (zQ _) (zd #[za none 0 0,za none 0 0] 33)) Z_w3.X.size);have M_z:Hid (PT (w3.alloc (zd #[za none 0 0,za none 0 0] 33)) b9 p9 (za gra grn grc) (mkS SG 1) (za gla gln glc) (zq5 (mkK SG 1) gln) (za gt nT gtc) (zq5 gk nT)):=M_w3.X.below ((yV w3.heap.size w3).alloc (zQ _) (zd #[za none 0 0,za none 0 0] 33));have KG_z:Hid ((w3.alloc (zd #[za none 0 0,za none 0 0] 33)).heap[kg]? =some (zd #[za gra grn grc,za gla gln glc] 33 (0,0))):=za0 ((yV w3.heap.size w3).alloc (zQ _) (zd #[za none 0 0,za none 0 0] 33)) (za2 KG_w3.X) KG_w3.X;have C_z:Hid (zo9 (w3.alloc (zd #[za none 0 0,za none 0 0] 33)) g3 go3 gv3 zs os vs):=C_w3.X.below ((yV w3.heap.size w3).alloc (zQ _) (zd #[za none 0 0,za none 0 0] 33));have VZ0:Hid ((w3.alloc (zd #[za none 0 0,za none 0 0] 33)).heap[w3.heap.size]? =some (zd #[za none 0 0,za none 0 0] 33 (0,0))):=zN _ _;have HZL:Hid (w.heap.size+2<=w3.heap.size):=za2 (B6.X.below Z_w3.X).2.2;have HZM:Hid (w6.heap.size<=w3.heap.size/\kg<w3.heap.size):=⟨Z_w3.X.size,za2 KG_w3.X⟩;go_simp;refine hK.out _ _ ?_ (fun hHeld=> ?_)
      ·exact lp7 (B6.X.below Z_z.X)
      clear hK K
      (try simp only[zi,xB,zL,xC])
      obtain⟨kh,HKZ⟩:=nmd w3.heap.size;rw[HKZ.X]at VZ0 HZL HZM⊢;generalize(w3.alloc (zd #[za none 0 0,za none 0 0] 33))=wz at*;obtain⟨z0,z1⟩:=za1 VZ0.X;have zf:=fun i=>yU _ _ i _ _ VZ0.X;refine qT (rs:=[3]) (by kernel_rfl) (by simp) ?_;refine qR rfl (fun K hK=> ?_) qS;go_simp;refine(zq6 ra la rc lc R L wz (HRT.X.below (B6.X.below Z_z.X).b) (HL.X.below (B6.X.below Z_z.X).b) hs4 HS5.X hs6).mono ?_;rintro e w4 ⟨gr4,gl4,S4,rfl,hb,hg⟩;have Z_w4:Hid (Below w6.heap.size w6 w4):=Z_z.X.trans (ja hb Z_z.X.size);have M_w4:=za4 (M_z.X.below hb);have KG_w4:=za4 (za0 hb (za2 KG_z.X) KG_z.X);have C_w4:=za4 (C_z.X.below hb);have VZ_w4:=za4 (za0 hb (za2 VZ0.X) VZ0.X);obtain⟨z0,z1⟩:=za1 VZ_w4.X;have zf:=fun i=>yU _ _ i _ _ VZ_w4.X;have P_w4:=za4 hg;clear hb hg
      (try go_wp2_with fail)
      refine hK.out _ _ ?_ (fun hHeld=> ?_)
      ·exact lp7 (B6.X.below Z_w4.X)
      clear hK K
      (try simp only[zi,xB,zL,xC])
      refine qT (rs:=[6]) (by kernel_rfl) (by simp) ?_;refine qR rfl (fun K hK=> ?_) qS;go_simp;have IG:=zj2 sd kpk n fine _ _ _ zs.length ko ko kv kv gr4 gl4 zs os vs L S4 R w4 C_w4.X.t C_w4.X.o C_w4.X.v P_w4.X HLO.X HLV.X (by omega) (by omega) hs4 HS5.X hs6 HS7.X HWL.X;rw[HGF.X,HGR.X,HGL.X,HGT.X,HNT.X]at IG;refine IG.mono ?_;rintro e w5 ⟨hra,hrn,hrc,hla,hln,hlc,SH,ht,htc,q5,rfl,hb,hsl,hll9,hk9,hpo,hap,htz⟩;have Z_w5:Hid (Below w6.heap.size w6 w5):=Z_w4.X.trans (ja hb Z_w4.X.size);have M_w5:=za4 (M_w4.X.below hb);have KG_w5:=za4 (za0 hb (za2 KG_w4.X) KG_w4.X);have VZ_w5:=za4 (za0 hb (za2 VZ_w4.X) VZ_w4.X);obtain⟨z0,z1⟩:=za1 VZ_w5.X;have zf:=fun i=>yU _ _ i _ _ VZ_w5.X;have e1:grn=hrn:=by rw[<-hsl,<-HNR.X];have:=congrArg zj hk9;simpa using this.symm
      have e2:gln=hln:=by rw[<-hll9];exact HNL.X.symm
      subst e1 e2;have HSHN:=za4 hsl;have HSHK:=za4 hk9;have R_w5:Hid (PT w5 w.heap.size w.heap.size (za hra grn hrc) SH (za hla gln hlc) GL (za ht nT htc) GT):=hpo.low (B6.X.below Z_w4.X).b.size;clear hsl hll9 hk9 hpo hap htz;clear hb IG
      (try go_wp2_with fail)
      refine hK.out _ _ ?_ (fun hHeld=> ?_)
      ·exact lp7 (B6.X.below Z_w5.X)
      clear hK K
      (try simp only[zi,xB,zL,xC])
      refine tkH 7 hHeld ?_;refine tkH 8 hHeld ?_;refine tkH 9 hHeld ?_;refine tkH 10 hHeld ?_;refine qT (rs:=[12]) (by kernel_rfl) (by simp) ?_;refine qR rfl (fun K hK=> ?_) qS;have s1:=zP w5 kh 0 _ _ (za hra grn hrc) VZ_w5.X;have V31:Hid (((w5.setCell ⟨kh,0,none⟩ (za hra grn hrc)).setCell ⟨kh,1,none⟩ (za hla gln hlc)).heap[kh]? =some (zd #[za hra grn hrc,za hla gln hlc] 33 (0,0))):=by
       have s2:=zP _ kh 1 _ _ (za hla gln hlc) s1;simp at s2;exact s2
      have B31:Hid (LPB w ((w5.setCell ⟨kh,0,none⟩ (za hra grn hrc)).setCell ⟨kh,1,none⟩ (za hla gln hlc)) _ _):=⟨((B6.X.below Z_w5.X).b.setCell (by have:=HZL.X;simp;omega) _).setCell (by have:=HZL.X;simp;omega) _,za6 (za6 (B6.X.below Z_w5.X).2.1 (by have:=HZL.X;omega)) (by have:=HZL.X;omega),za6 (za6 (B6.X.below Z_w5.X).2.2 (by have:=HZL.X;omega)) (by have:=HZL.X;omega)⟩;have Z31:Hid (Below w6.heap.size w6 ((w5.setCell ⟨kh,0,none⟩ (za hra grn hrc)).setCell ⟨kh,1,none⟩ (za hla gln hlc))):=(Z_w5.X.setCell HZM.X.1 _).setCell HZM.X.1 _;have M31:Hid (PT ((w5.setCell ⟨kh,0,none⟩ (za hra grn hrc)).setCell ⟨kh,1,none⟩ (za hla gln hlc)) b9 p9 (za gra grn grc) (mkS SG 1) (za gla gln glc) (zq5 (mkK SG 1) gln) (za gt nT gtc) (zq5 gk nT)):=(M_w5.X.box VZ_w5.X).box s1;have KG31:Hid (((w5.setCell ⟨kh,0,none⟩ (za hra grn hrc)).setCell ⟨kh,1,none⟩ (za hla gln hlc)).heap[kg]? =some (zd #[za gra grn grc,za gla gln glc] 33 (0,0))):=za6 (za6 KG_w5.X (by have:=HZM.X.2;omega)) (by have:=HZM.X.2;omega);have H31:Hid (PT ((w5.setCell ⟨kh,0,none⟩ (za hra grn hrc)).setCell ⟨kh,1,none⟩ (za hla gln hlc)) w.heap.size w.heap.size (za hra grn hrc) SH (za hla gln hlc) GL (za ht nT htc) GT):=(R_w5.X.box VZ_w5.X).box s1;clear s1;go_simp;refine hK.out _ _ ?_ (fun hHeld=> ?_)
      ·exact lp7 B31.X
      clear hK K;generalize((w5.setCell ⟨kh,0,none⟩ (za hra grn hrc)).setCell ⟨kh,1,none⟩ (za hla gln hlc))=w31 at*;refine tkH 13 hHeld ?_;refine tkH 14 hHeld ?_;refine qU (by kernel_rfl) ?_ _;clear hHeld
      (try go_wp2_with fail)
      go_meet;exact⟨kh,hra,hla,hrc,hlc,SH,ht,htc,rfl,rfl,rfl,Z31.X,M31.X,KG31.X,V31.X,H31.X,HSHN.X,HSHK.X⟩
     refine qR rfl (fun K hK=> ?_) qS;have Z_z:Hid (Below w6.heap.size w6 (wd.alloc (zd #[za none 0 0,za none 0 0] 33))):=Z_d.X.trans (ja ((yV wd.heap.size wd).alloc (zQ _) (zd #[za none 0 0,za none 0 0] 33)) Z_d.X.size);have M_z:Hid (PT (wd.alloc (zd #[za none 0 0,za none 0 0] 33)) b9 p9 (za gra grn grc) (mkS SG 1) (za gla gln glc) (zq5 (mkK SG 1) gln) (za gt nT gtc) (zq5 gk nT)):=M_d.X.below ((yV wd.heap.size wd).alloc (zQ _) (zd #[za none 0 0,za none 0 0] 33));have KG_z:Hid ((wd.alloc (zd #[za none 0 0,za none 0 0] 33)).heap[kg]? =some (zd #[za gra grn grc,za gla gln glc] 33 (0,0))):=za0 ((yV wd.heap.size wd).alloc (zQ _) (zd #[za none 0 0,za none 0 0] 33)) (za2 KG_d.X) KG_d.X;have VZ0:Hid ((wd.alloc (zd #[za none 0 0,za none 0 0] 33)).heap[wd.heap.size]? =some (zd #[za none 0 0,za none 0 0] 33 (0,0))):=zN _ _;have HZL:Hid (w.heap.size+2<=wd.heap.size):=za2 (B6.X.below Z_d.X).2.2;have HZM:Hid (w6.heap.size<=wd.heap.size/\kg<wd.heap.size):=⟨Z_d.X.size,za2 KG_d.X⟩;go_simp;refine hK.out _ _ ?_ (fun hHeld=> ?_)
     ·exact lp7 (B6.X.below Z_z.X)
     clear hK K
     (try simp only[zi,xB,zL,xC])
     obtain⟨kh,HKZ⟩:=nmd wd.heap.size;rw[HKZ.X]at VZ0 HZL HZM⊢;generalize(wd.alloc (zd #[za none 0 0,za none 0 0] 33))=wz at*;obtain⟨z0,z1⟩:=za1 VZ0.X;have zf:=fun i=>yU _ _ i _ _ VZ0.X;refine qT (rs:=[1]) (by kernel_rfl) (by simp) ?_;refine qR rfl (fun K hK=> ?_) qS;go_simp;refine(zq0 n fine a ao av cap ko co kv cv zs os vs wz (HA.X.below (B6.X.below Z_z.X).b) (HO.X.below (B6.X.below Z_z.X).b) (HV.X.below (B6.X.below Z_z.X).b) HLO.X HLV.X hs1 hs2 hs3).mono ?_;rintro e w3 ⟨g3,go3,gv3,_,_,_,rfl,hb,hg⟩;have Z_w3:Hid (Below w6.heap.size w6 w3):=Z_z.X.trans (ja hb Z_z.X.size);have M_w3:=za4 (M_z.X.below hb);have KG_w3:=za4 (za0 hb (za2 KG_z.X) KG_z.X);have VZ_w3:=za4 (za0 hb (za2 VZ0.X) VZ0.X);obtain⟨z0,z1⟩:=za1 VZ_w3.X;have zf:=fun i=>yU _ _ i _ _ VZ_w3.X;have C_w3:=za4 hg;clear hb hg
     (try go_wp2_with fail)
     refine hK.out _ _ ?_ (fun hHeld=> ?_)
     ·exact lp7 (B6.X.below Z_w3.X)
     clear hK K
     (try simp only[zi,xB,zL,xC])
     refine qT (rs:=[3]) (by kernel_rfl) (by simp) ?_;refine qR rfl (fun K hK=> ?_) qS;go_simp;refine(zq6 ra la rc lc R L w3 (HRT.X.below (B6.X.below Z_w3.X).b) (HL.X.below (B6.X.below Z_w3.X).b) hs4 HS5.X hs6).mono ?_;rintro e w4 ⟨gr4,gl4,S4,rfl,hb,hg⟩;have Z_w4:Hid (Below w6.heap.size w6 w4):=Z_w3.X.trans (ja hb Z_w3.X.size);have M_w4:=za4 (M_w3.X.below hb);have KG_w4:=za4 (za0 hb (za2 KG_w3.X) KG_w3.X);have C_w4:=za4 (C_w3.X.below hb);have VZ_w4:=za4 (za0 hb (za2 VZ_w3.X) VZ_w3.X);obtain⟨z0,z1⟩:=za1 VZ_w4.X;have zf:=fun i=>yU _ _ i _ _ VZ_w4.X;have P_w4:=za4 hg;clear hb hg
     (try go_wp2_with fail)
     refine hK.out _ _ ?_ (fun hHeld=> ?_)
     ·exact lp7 (B6.X.below Z_w4.X)
     clear hK K
     (try simp only[zi,xB,zL,xC])
     refine qT (rs:=[6]) (by kernel_rfl) (by simp) ?_;refine qR rfl (fun K hK=> ?_) qS;go_simp;have IG:=zj2 sd kpk n fine _ _ _ zs.length ko ko kv kv gr4 gl4 zs os vs L S4 R w4 C_w4.X.t C_w4.X.o C_w4.X.v P_w4.X HLO.X HLV.X (by omega) (by omega) hs4 HS5.X hs6 HS7.X HWL.X;rw[HGF.X,HGR.X,HGL.X,HGT.X,HNT.X]at IG;refine IG.mono ?_;rintro e w5 ⟨hra,hrn,hrc,hla,hln,hlc,SH,ht,htc,q5,rfl,hb,hsl,hll9,hk9,hpo,hap,htz⟩;have Z_w5:Hid (Below w6.heap.size w6 w5):=Z_w4.X.trans (ja hb Z_w4.X.size);have M_w5:=za4 (M_w4.X.below hb);have KG_w5:=za4 (za0 hb (za2 KG_w4.X) KG_w4.X);have VZ_w5:=za4 (za0 hb (za2 VZ_w4.X) VZ_w4.X);obtain⟨z0,z1⟩:=za1 VZ_w5.X;have zf:=fun i=>yU _ _ i _ _ VZ_w5.X;have e1:grn=hrn:=by rw[<-hsl,<-HNR.X];have:=congrArg zj hk9;simpa using this.symm
     have e2:gln=hln:=by rw[<-hll9];exact HNL.X.symm
     subst e1 e2;have HSHN:=za4 hsl;have HSHK:=za4 hk9;have R_w5:Hid (PT w5 w.heap.size w.heap.size (za hra grn hrc) SH (za hla gln hlc) GL (za ht nT htc) GT):=hpo.low (B6.X.below Z_w4.X).b.size;clear hsl hll9 hk9 hpo hap htz;clear hb IG
     (try go_wp2_with fail)
     refine hK.out _ _ ?_ (fun hHeld=> ?_)
     ·exact lp7 (B6.X.below Z_w5.X)
     clear hK K
     (try simp only[zi,xB,zL,xC])
     refine tkH 7 hHeld ?_;refine tkH 8 hHeld ?_;refine tkH 9 hHeld ?_;refine tkH 10 hHeld ?_;refine qT (rs:=[12]) (by kernel_rfl) (by simp) ?_;refine qR rfl (fun K hK=> ?_) qS;have s1:=zP w5 kh 0 _ _ (za hra grn hrc) VZ_w5.X;have V31:Hid (((w5.setCell ⟨kh,0,none⟩ (za hra grn hrc)).setCell ⟨kh,1,none⟩ (za hla gln hlc)).heap[kh]? =some (zd #[za hra grn hrc,za hla gln hlc] 33 (0,0))):=by
      have s2:=zP _ kh 1 _ _ (za hla gln hlc) s1;simp at s2;exact s2
     have B31:Hid (LPB w ((w5.setCell ⟨kh,0,none⟩ (za hra grn hrc)).setCell ⟨kh,1,none⟩ (za hla gln hlc)) _ _):=⟨((B6.X.below Z_w5.X).b.setCell (by have:=HZL.X;simp;omega) _).setCell (by have:=HZL.X;simp;omega) _,za6 (za6 (B6.X.below Z_w5.X).2.1 (by have:=HZL.X;omega)) (by have:=HZL.X;omega),za6 (za6 (B6.X.below Z_w5.X).2.2 (by have:=HZL.X;omega)) (by have:=HZL.X;omega)⟩;have Z31:Hid (Below w6.heap.size w6 ((w5.setCell ⟨kh,0,none⟩ (za hra grn hrc)).setCell ⟨kh,1,none⟩ (za hla gln hlc))):=(Z_w5.X.setCell HZM.X.1 _).setCell HZM.X.1 _;have M31:Hid (PT ((w5.setCell ⟨kh,0,none⟩ (za hra grn hrc)).setCell ⟨kh,1,none⟩ (za hla gln hlc)) b9 p9 (za gra grn grc) (mkS SG 1) (za gla gln glc) (zq5 (mkK SG 1) gln) (za gt nT gtc) (zq5 gk nT)):=(M_w5.X.box VZ_w5.X).box s1;have KG31:Hid (((w5.setCell ⟨kh,0,none⟩ (za hra grn hrc)).setCell ⟨kh,1,none⟩ (za hla gln hlc)).heap[kg]? =some (zd #[za gra grn grc,za gla gln glc] 33 (0,0))):=za6 (za6 KG_w5.X (by have:=HZM.X.2;omega)) (by have:=HZM.X.2;omega);have H31:Hid (PT ((w5.setCell ⟨kh,0,none⟩ (za hra grn hrc)).setCell ⟨kh,1,none⟩ (za hla gln hlc)) w.heap.size w.heap.size (za hra grn hrc) SH (za hla gln hlc) GL (za ht nT htc) GT):=(R_w5.X.box VZ_w5.X).box s1;clear s1;go_simp;refine hK.out _ _ ?_ (fun hHeld=> ?_)
     ·exact lp7 B31.X
     clear hK K;generalize((w5.setCell ⟨kh,0,none⟩ (za hra grn hrc)).setCell ⟨kh,1,none⟩ (za hla gln hlc))=w31 at*;refine tkH 13 hHeld ?_;refine tkH 14 hHeld ?_;refine qU (by kernel_rfl) ?_ _;clear hHeld
     (try go_wp2_with fail)
     go_meet;exact⟨kh,hra,hla,hrc,hlc,SH,ht,htc,rfl,rfl,rfl,Z31.X,M31.X,KG31.X,V31.X,H31.X,HSHN.X,HSHK.X⟩
    case rest=>
     obtain⟨kh,hra,hla,hrc,hlc,SH,ht,htc,rfl,rfl,rfl,hZ,hM,hK,hV,hH,hN,hKy⟩:=hcut;have Z31:=za4 hZ;have M31:=za4 hM;have KG31:=za4 hK;have V31:=za4 hV;have H31:=za4 hH;have HSHN:=za4 hN;have HSHK:=za4 hKy;clear hZ hM hK hV hH hN hKy Z M KG;have VW31:=za4 (za0 Z31.X (za2 V6.X) V6.X);have W31:=za4 (P6.X.below Z31.X);have EQ3:=zv0 hra wra hla wla hrc wrc grn hlc wlc SH SW GL wc (z27 H31.X.p HSHN.X) (z27 W31.X.p HSWN.X) (HSWK.X.trans HSHK.X.symm) HSHN.X (by omega) (fun r hr=>by have:=(zq3 HSHK.X HBI.X r hr).2;omega) (yr8 H31.X.p HNL.X) (yr8 W31.X.p HNL.X) (by rw[HNL.X];omega);rw[HNL.X]at EQ3;obtain⟨k0,k1⟩:=za1 V31.X;obtain⟨v0,v1⟩:=za1 VW31.X
     go_wp2_with fail
     refine EQ3.mono ?_;rintro e w32a ⟨rfl,hb⟩;have EQT:=zp8 ht wt htc wtc GT GT w32a ((H31.X.below hb).ints HNT.X) ((W31.X.below hb).ints HNT.X) (by have:=HNT.X;omega);rw[HNT.X,zS rfl]at EQT
     go_wp2_with fail
     refine EQT.mono ?_;rintro e w32 ⟨rfl,hb2⟩;replace hb:=hb.trans (ja hb2 hb.size);clear hb2 EQT;have M32:=za4 (M31.X.below hb);have Z32:Hid (Below w6.heap.size w6 w32):=Z31.X.trans (ja hb Z31.X.size);have KG32:=za4 (za0 hb (za2 KG31.X) KG31.X);clear hb EQ3 W31 VW31 k0 k1 v0 v1 M31 Z31 KG31 H31 V31;obtain⟨k0,k1⟩:=za1 KG32.X
     go_wp2_with fail
     refine(HHP.X w32 M32.X.p).mono ?_;rintro e w33 ⟨rfl,hb⟩;have M33:=M32.X.below hb;have B33:Hid (Below w.heap.size w w33):=(B6.X.below (Z32.X.trans (ja hb Z32.X.size))).b;clear hb
     go_wp2_with fail
     refine(HHT.X w33 M33).mono ?_;rintro e w34 ⟨rfl,hw⟩;subst hw;go_wp2;go_ret;exact⟨rfl,B33.X⟩
