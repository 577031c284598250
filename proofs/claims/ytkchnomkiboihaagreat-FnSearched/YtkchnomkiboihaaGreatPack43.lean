import Derived.Test.YtkchnomkiboihaaGreatPack32
import Derived.Test.YtkchnomkiboihaaGreatPack39
import Derived.Test.YtkchnomkiboihaaGreatCutFunc
set_option linter.unusedSimpArgs false
set_option maxHeartbeats 4000000
set_option maxRecDepth 10000
namespace Go.Proofs.YtkchnomkiboihaaGreat
open RowKit renaming Below→Za,Hid→Zb
open Value renaming slice→za,int→ze
open IntKind renaming i64→zd
open Obj renaming cells→zg
open Go renaming World→zi
open World renaming ownsRow→zk
open Go.RowKit
open Q
theorem yD0(ids:List Int)(k:Nat)(x:Int):(insL ids k x).length<=ids.length+1:=by
 unfold insL;simp;omega
def yx2(w:zi)(f:Bool)(S:List RT)(L:List Int)(K:Nat->Prop)(e:Ending)(w':zi):Prop:=∃ra rn rc la ln lc R,e=.returned (.tuple #[.agg #[za ra rn rc,za la ln lc],.bool f])/\Za w.heap.size w w'/\zc2 w' ra la rn ln R L/\R.map RT.key=S.map RT.key/\∀k,k<w.heap.size->K k->zi8 k ra la R L
theorem yc0{w:zi}{base size n rc k:Nat}{e:TypeId}{ra:Option Addr}{xs:List Value}(h:w.ownsRow base e size (za ra n rc) n xs)(hk:k<base):∀b off,ra=some ⟨b,off,none⟩->b≠k:=fun b off e9=>by
 rcases own_kinds h with⟨e1,_⟩|⟨g,c,e1,h2,_⟩
 ·simp only[qP]at e1
  rw[e1.1]at e9;cases e9
 ·simp only[qP]at e1
  rw[e1.1]at e9;simp only[x7,qg,qt]at e9;omega
theorem zR4(n fine:Int)(a ao av ra la:Option Addr)(zl ac ko co kv cv nr rc ln lc:Nat)(zs os vs L:List Int)(R:List RT)(w:zi)(hA:za3 w a zs)(hO:za3 w ao os)(hV:za3 w av vs)(aN:zs.length=zl)(an:os.length=ko*6)(au:vs.length=kv*5)(aA:ko<=12)(aB:kv<=5)(bT:zd0 n zs os vs ko kv fine=true)(hP:zc2 w ra la nr ln R L)(hn:nr<=100)(gd:ln<=12)(hS:zf7 R)(hi:zw3 R):
 Calls Tryz.prog 124 #[.agg #[ze zd n,za a zl ac,za ao ko co,za av kv cv,ze zd fine],.agg #[za ra nr rc,za la ln lc]] w (yx2 w (zw6 n fine zs os vs ko kv R L).f (zB6 n fine zs os vs ko kv R L) (zD8 n fine zs os vs ko kv R L) (fun k=>zi8 k ra la R L)):=by
 have HA:=za4 hA;have HO:=za4 hO;have HV:=za4 hV;have ck:=za4 aN;have aF:=za4 an;have aE:=za4 au;have cW:=za4 bT;have HP:=za4 hP;have HS:=za4 hS;have HI:=za4 hi;have HN:Zb (R.length=nr):=hP.1;have HM:Zb (L.length=ln):=hP.2.1;clear hA hO hV aN an au bT hP hS hi;obtain⟨s0,gH⟩:=nmd (zw6 n fine zs os vs ko kv R L);have Ii:Zb (qst (gOk n fine zs os vs ko kv R) (gD n zs os vs ko kv R) (sp3 R vs kv L ln)=s0):=by
  show _=_;rw[<-gH.X,<-HM.X];rfl
 obtain⟨RX,gC⟩:=nmd (zB6 n fine zs os vs ko kv R L);obtain⟨LX,gI⟩:=nmd (zD8 n fine zs os vs ko kv R L);have jw:Zb (RX=if s0.f then wrL R (oneT R s0.s)else R):=by show _=_;rw[<-gC.X];unfold zB6;rw[gH.X]
 have ee:Zb (LX=if s0.f then zm1 L s0.s.1 else L):=by show _=_;rw[<-gI.X];unfold zD8;rw[gH.X]
 have fU:Zb (s0.f=true->gB n zs os vs ko kv R s0.s=true):=fun h=>by
  have h1:=zz7 (ok:=gOk n fine zs os vs ko kv R) (dl:=gD n zs os vs ko kv R) (sp3 R vs kv L ln);rw[Ii.X]at h1;have h2:=(h1 h).2.1;unfold gOk at h2;exact(zY _ _▸h2).1
 rw[gH.X,gC.X,gI.X];have Q0:Zb (GQ w (((w.alloc (zg #[ze zd n,za a zl ac,za ao ko co,za av kv cv,ze zd fine] 30)).alloc (zg #[za ra nr rc,za la ln lc] 33)).alloc (zg #[za none 0 0,za none 0 0] 33)) #[ze zd n,za a zl ac,za ao ko co,za av kv cv,ze zd fine] #[za ra nr rc,za la ln lc]):=by
  refine⟨((zP _).alloc (by simp) _).alloc (by simp;omega) _,?_,?_,?_⟩
  ·exact(xg _ _ (by simp;omega)).trans (xm _ _ _)
  ·exact(xg _ _ (by simp)).trans (xh _ _ _)
  ·have:=zS ((w.alloc (zg #[ze zd n,za a zl ac,za ao ko co,za av kv cv,ze zd fine] 30)).alloc (zg #[za ra nr rc,za la ln lc] 33)) (zg #[za none 0 0,za none 0 0] 33)
   simpa using this
 have SF:=zB1 n fine a ao av ra la la zl ac ko co kv cv rc ln lc lc vs L R (((w.alloc (zg #[ze zd n,za a zl ac,za ao ko co,za av kv cv,ze zd fine] 30)).alloc (zg #[za ra nr rc,za la ln lc] 33)).alloc (zg #[za none 0 0,za none 0 0] 33)) (HV.X.below Q0.X.b) aE.X aB (HP.X.2.2.1.below Q0.X.b) (by rw[HN.X];exact hn) HS.X (fun r hr=>(HI.X r hr).2.1) (HP.X.2.2.2.1.below Q0.X.b) (by rw[HM.X];exact gd);rw[HN.X,HM.X]at SF;obtain⟨c0,c1,c2,c3,c4⟩:=za7 Q0.X.c;obtain⟨p0,p1⟩:=za1 Q0.X.p;go_enter Tryz.func124,Tryz.ntmps124
 go_wp2_with fail
 generalize((w.alloc _).alloc _).alloc _=W0 at*;refine SF.mono ?_;rintro e w1 ⟨sl,rfl,hb,ho⟩;obtain⟨sa,sc,e⟩:=zp6 ho;subst e;have Q1:=za4 (Q0.X.below hb);have S1:Zb (za3 w1 sa (spF (sp3 R vs kv L ln))):=yh8 ho;have be:=zP2 (fun r hr=>(HI.X r hr).2.1) vs aB L ln;have LG:=zI8 sa sc w.heap.size (w.heap.size+1) (sp3 R vs kv L ln) (gOk n fine zs os vs ko kv R) (gD n zs os vs ko kv R) w1 S1.X (by omega) (fun W id ab pl hW=>by
  have QW:GQ w W #[ze zd n,za a zl ac,za ao ko co,za av kv cv,ze zd fine] #[za ra nr rc,za la ln lc]:=Q1.X.below hW;exact yc8 n fine a ao av ra la zl ac ko co kv cv nr rc ln lc zs os vs R W (HA.X.below QW.b) (HO.X.below QW.b) (HV.X.below QW.b) ck.X aF.X aE.X (by omega) (by omega) cW.X (HP.X.2.2.1.below QW.b) HN.X hn HS.X HI.X id ab pl _ _ QW.c QW.p) s0 Ii.X
 obtain⟨f,⟨id,ab,pl⟩,v⟩:=s0;simp only at LG jw ee fU;clear hb ho SF c0 c1 c2 c3 c4 p0 p1 Q0 Ii gH
 go_wp2_with fail
 refine LG.mono ?_;rintro e w2 ⟨rfl,hb⟩;have Q2:=za4 (Q1.X.below hb);clear hb LG Q1 S1 be;have QA:Zb (GQ w (w2.alloc (zg #[ze zd id,ze zd ab,ze zd (pl:Int)] 129)) #[ze zd n,za a zl ac,za ao ko co,za av kv cv,ze zd fine] #[za ra nr rc,za la ln lc]):=Q2.X.below (zP _);have SA:=za4 (zS w2 (zg #[ze zd id,ze zd ab,ze zd (pl:Int)] 129));obtain⟨p0,p1⟩:=za1 QA.X.p;obtain⟨o0,o1⟩:=za1 QA.X.o;have of:=fun i=>yZ _ _ i _ _ QA.X.o;cases f
 ·go_wp2
  refine xe (v:=.tuple #[.agg #[za ra nr rc,za la ln lc],.bool false]) (by simp[results,Tryz.results124,go_sem,o0,o1]) rfl ?_;show yx2 _ _ _ _ _ _ _;have e1:LX=L:=ee.X;have e2:RX=R:=jw.X;rw[e1,e2];refine⟨ra,nr,rc,la,ln,lc,R,rfl,?_,?_,rfl,fun k _ h=>h⟩
  ·repeat(first|with_reducible exact QA.X.b|refine xq ?_ (by simp<;>omega) _)
  ·refine HP.X.below ?_
   repeat(first|with_reducible exact QA.X.b|refine xq ?_ (by simp<;>omega) _)
 ·have Gv:=fU.X rfl
  obtain⟨dd,bh⟩:=nmd (gD n zs os vs ko kv R (id,ab,pl));obtain⟨xs,oT⟩:=nmd (chL true (insL (zc7 R ab).ids pl id));obtain⟨vv,ez⟩:=nmd (chI true ab);obtain⟨xl,aX⟩:=nmd xs.length;have vJ:Zb (vv=ab):=by show _=_;rw[<-ez.X];rfl
  have pN:=yi1 n fine a ao av ra ac ko co kv cv zs os vs R (w2.alloc (zg #[ze zd id,ze zd ab,ze zd (pl:Int)] 129)) (HA.X.below QA.X.b) (HO.X.below QA.X.b) (HV.X.below QA.X.b) aF.X aE.X (by omega) (by omega) cW.X (HP.X.2.2.1.below QA.X.b) HI.X id ab pl true Gv dd bh.X xs oT.X;have oW:∀W,Za (w2.alloc (zg #[ze zd id,ze zd ab,ze zd (pl:Int)] 129)).heap.size (w2.alloc (zg #[ze zd id,ze zd ab,ze zd (pl:Int)] 129)) W->_:=fun W hW=>zn3 ra la rc ln lc R ab W ((HP.X.2.2.1.below QA.X.b).below hW) (by rw[HN.X];omega) HS.X
  rw[HN.X]at oW;rw[ck.X]at pN;have G0:=za4 (GB.new QA.X.c QA.X.p SA.X);obtain⟨rl,cu⟩:=nmd ((zc7 R ab).ids.length);obtain⟨aO,pX⟩:=nmd ((zc7 R ab).a);obtain⟨bg,bt⟩:=nmd ((zc7 R ab).c);rw[cu.X,pX.X,bt.X]at oW pN;have RO:Zb _:=oW;have CH:Zb _:=pN;have QZ:Zb (w.heap.size+3<=w2.heap.size):=Q2.X.size;have OQ:=za4 (QA.X.o);have BQ:=za4 (QA.X.b);clear oW pN Q2 QA SA p0 p1 o0 o1 of fU Gv bh;go_upto_region 4 with fail;obtain⟨ps,Hw⟩:=nmd w2.heap.size;obtain⟨pp,mo⟩:=nmd (w.heap.size+1);obtain⟨pc,ie⟩:=nmd w.heap.size;rw[Hw.X]at G0⊢;rw[mo.X]at G0⊢;generalize w2.alloc _=W0 at*;have ED:=za4 (G0.X);clear G0;have G0:=ED;rw[ie.X]at G0⊢;have va:Zb (w.heap.size+2=pp+1):=by show _=_;have:=mo.X;omega
  rw[va.X]at OQ;go_cut [9,10,11]from 27 to 41 (fun s9 Aa wM wx=>∃(kz:Nat) (ad:Option Addr) (cg:Nat),s9=.pointer (some ⟨kz,0,none⟩)/\Aa=ze zd dd/\wM=.bool true/\GB W0 wx pc pp ps #[ze zd n,za a zl ac,za ao ko co,za av kv cv,ze zd fine] (za ra nr rc) (za la ln lc) id ab pl/\wx.heap[kz]? =some (zg #[ze zd vv,za ad xl cg] 80 (0,0))/\wx.ownsRow W0.heap.size 2 1 (za ad xl cg) xl (xs.map (ze zd)))
  case first=>
   go_wp2_with fail
   refine qG (S:=(fun W=>W.cell? ⟨pc,0,none⟩=some (ze zd n)/\W.cell? ⟨pc,1,none⟩=some (za a zl ac)/\W.cell? ⟨pc,2,none⟩=some (za ao ko co)/\W.cell? ⟨pc,3,none⟩=some (za av kv cv)/\W.cell? ⟨pc,4,none⟩=some (ze zd fine)/\W.cell? ⟨pp,0,none⟩=some (za ra nr rc)/\W.cell? ⟨pp,1,none⟩=some (za la ln lc)/\W.cell? ⟨ps,0,none⟩=some (ze zd id)/\W.cell? ⟨ps,1,none⟩=some (ze zd ab)/\W.cell? ⟨ps,2,none⟩=some (ze zd (pl:Int)))) (by kernel_rfl) ?_ fun aa=> ?_
   ·exact(G0.X.below (y5 _ _).drew).cells
   have GD:=za4 (G0.X.below (y5 _ _).drew);generalize W0.drew=wd at*;refine tkH 0 aa ?_;refine tkH 1 aa ?_;refine tkH 2 aa ?_;refine tkH 3 aa ?_;refine tkH 5 aa ?_;refine tkH 6 aa ?_;refine tkH 7 aa ?_;refine tkH 8 aa ?_;refine xQ (rs:=[4,15]) (by kernel_rfl) (by simp) ?_;refine xL rfl (fun K hK=> ?_) ?_
   ·skip
    go_simp;refine(RO.X wd GD.X.b).mono ?_;rintro e w1 ⟨rfl,hb⟩;have G1:=za4 (GD.X.below hb);clear hb
    (try go_wp2_with fail)
    refine hoW hK G1.X.cells fun aa=> ?_;clear hK K;refine xQ (rs:=[9,15]) (by kernel_rfl) (by simp) ?_;refine xL rfl (fun K hK=> ?_) ?_
    ·skip
     go_simp;refine(zh7 id (pl:Int) w1).mono ?_;rintro e w2 ⟨p,q,rfl,hb,cP,gE⟩;have G2:=za4 (G1.X.below hb);have eP:Zb (w2.cell? ⟨p,0,none⟩=some (ze zd (pl:Int))/\w2.cell? ⟨q,0,none⟩=some (ze zd id)):=⟨cP,gE⟩;have PB:Zb (Za w2.heap.size w2 w2):=y5 _ _;clear hb cP gE
     (try go_wp2_with fail)
     refine hoW hK G2.X.cells fun aa=> ?_;clear hK K;refine xQ (rs:=[10,15]) (by kernel_rfl) (by simp) ?_;refine xL rfl (fun K hK=> ?_) ?_
     ·skip
      go_simp;refine(CH.X w2 w2 p q G2.X.b eP.X.1 eP.X.2 PB.X).mono ?_;rintro e w3 ⟨hb,ad,cg,rfl,ho⟩;rw[ez.X,aX.X];have G3:=za4 (G2.X.below hb);have O3:Zb (w3.ownsRow W0.heap.size 2 1 (za ad xl cg) xl (xs.map (ze zd))):=by rw[aX.X]at ho;exact zb5 ho G2.X.b.size
      clear hb ho
      (try go_wp2_with fail)
      refine hoW hK G3.X.cells fun aa=> ?_;clear hK K;refine tkH 11 aa ?_;refine tkH 12 aa ?_;refine tkH 13 aa ?_;refine tkH 14 aa ?_;refine rdH 15 fun K hK=> ?_;have GZ:Zb (GB W0 (w3.alloc (zg #[ze zd 0,za none 0 0] 80)) pc pp ps #[ze zd n,za a zl ac,za ao ko co,za av kv cv,ze zd fine] (za ra nr rc) (za la ln lc) id ab pl):=G3.X.below (zP _);have aw:=za4 (zS w3 (zg #[ze zd 0,za none 0 0] 80));have aH:Zb (W0.heap.size<=w3.heap.size):=G3.X.b.size;have OZ:Zb (zk (w3.alloc (zg #[ze zd 0,za none 0 0] 80)) W0.heap.size 2 1 (za ad xl cg) xl (xs.map (ze zd))):=O3.X.alloc _;go_simp;refine hoW hK GZ.X.cells fun aa=> ?_;clear hK K;obtain⟨kz,cz⟩:=nmd w3.heap.size;rw[cz.X]at aw aH⊢;generalize(w3.alloc _)=wz at*;obtain⟨z0,z1⟩:=za1 aw.X;have zf:=fun i=>yZ _ _ i _ _ aw.X;refine rdH 16 fun K hK=> ?_;have G5:Zb (GB W0 ((wz.setCell ⟨kz,0,none⟩ (ze zd vv)).setCell ⟨kz,1,none⟩ (za ad xl cg)) pc pp ps #[ze zd n,za a zl ac,za ao ko co,za av kv cv,ze zd fine] (za ra nr rc) (za la ln lc) id ab pl):=(GZ.X.set aH.X).set aH.X;have V5:Zb (((wz.setCell ⟨kz,0,none⟩ (ze zd vv)).setCell ⟨kz,1,none⟩ (za ad xl cg)).heap[kz]? =some (zg #[ze zd vv,za ad xl cg] 80 (0,0))):=by
       have s1:=xb wz kz 0 _ _ (ze zd vv) aw.X;have s2:=xb _ kz 1 _ _ (za ad xl cg) s1;simp at s2;exact s2
      have O5:Zb (zk ((wz.setCell ⟨kz,0,none⟩ (ze zd vv)).setCell ⟨kz,1,none⟩ (za ad xl cg)) W0.heap.size 2 1 (za ad xl cg) xl (xs.map (ze zd))):=zd9 (zd9 OZ.X aw.X) (by exact xb _ kz 0 _ _ _ aw.X);go_simp;refine hoW hK G5.X.cells fun aa=> ?_;clear hK K;generalize((wz.setCell ⟨kz,0,none⟩ _).setCell ⟨kz,1,none⟩ _)=w5 at*;refine tkH 17 aa ?_;refine tkH 18 aa ?_;refine qF (by kernel_rfl) ?_ _;clear aa
      (try go_wp2_with fail)
      go_meet;exact⟨kz,ad,cg,rfl,rfl,rfl,G5.X,V5.X,O5.X⟩
     refine xL rfl (fun K hK=> ?_) xP;have GZ:Zb (GB W0 (w2.alloc (zg #[ze zd 0,za none 0 0] 80)) pc pp ps #[ze zd n,za a zl ac,za ao ko co,za av kv cv,ze zd fine] (za ra nr rc) (za la ln lc) id ab pl):=G2.X.below (zP _);have aw:=za4 (zS w2 (zg #[ze zd 0,za none 0 0] 80));have aH:Zb (W0.heap.size<=w2.heap.size):=G2.X.b.size;have FV:Zb (Za w2.heap.size w2 (w2.alloc (zg #[ze zd 0,za none 0 0] 80))):=zP _;go_simp;refine hoW hK GZ.X.cells fun aa=> ?_;clear hK K;obtain⟨kz,cz⟩:=nmd w2.heap.size;rw[cz.X]at aw aH⊢;generalize(w2.alloc _)=wz at*;obtain⟨z0,z1⟩:=za1 aw.X;have zf:=fun i=>yZ _ _ i _ _ aw.X;refine rdH 10 fun K hK=> ?_;go_simp;refine(CH.X w2 wz p q G2.X.b eP.X.1 eP.X.2 FV.X).mono ?_;rintro e w3 ⟨hb,ad,cg,rfl,ho⟩;rw[ez.X,aX.X];have G3:=za4 (GZ.X.below hb);have O3:Zb (w3.ownsRow W0.heap.size 2 1 (za ad xl cg) xl (xs.map (ze zd))):=by rw[aX.X]at ho;exact zb5 ho GZ.X.b.size
     have ek:=za4 (za0 hb (za2 aw.X) aw.X);obtain⟨z0,z1⟩:=za1 ek.X;have zf:=fun i=>yZ _ _ i _ _ ek.X;clear hb ho
     (try go_wp2_with fail)
     refine hoW hK G3.X.cells fun aa=> ?_;clear hK K;refine tkH 11 aa ?_;refine tkH 12 aa ?_;refine tkH 13 aa ?_;refine tkH 14 aa ?_;refine rdH 16 fun K hK=> ?_;have G5:Zb (GB W0 ((w3.setCell ⟨kz,0,none⟩ (ze zd vv)).setCell ⟨kz,1,none⟩ (za ad xl cg)) pc pp ps #[ze zd n,za a zl ac,za ao ko co,za av kv cv,ze zd fine] (za ra nr rc) (za la ln lc) id ab pl):=(G3.X.set aH.X).set aH.X;have V5:Zb (((w3.setCell ⟨kz,0,none⟩ (ze zd vv)).setCell ⟨kz,1,none⟩ (za ad xl cg)).heap[kz]? =some (zg #[ze zd vv,za ad xl cg] 80 (0,0))):=by
      have s1:=xb w3 kz 0 _ _ (ze zd vv) ek.X;have s2:=xb _ kz 1 _ _ (za ad xl cg) s1;simp at s2;exact s2
     have O5:Zb (zk ((w3.setCell ⟨kz,0,none⟩ (ze zd vv)).setCell ⟨kz,1,none⟩ (za ad xl cg)) W0.heap.size 2 1 (za ad xl cg) xl (xs.map (ze zd))):=zd9 (zd9 O3.X ek.X) (by exact xb _ kz 0 _ _ _ ek.X);go_simp;refine hoW hK G5.X.cells fun aa=> ?_;clear hK K;generalize((w3.setCell ⟨kz,0,none⟩ _).setCell ⟨kz,1,none⟩ _)=w5 at*;refine tkH 17 aa ?_;refine tkH 18 aa ?_;refine qF (by kernel_rfl) ?_ _;clear aa
     (try go_wp2_with fail)
     go_meet;exact⟨kz,ad,cg,rfl,rfl,rfl,G5.X,V5.X,O5.X⟩
    refine xL rfl (fun K hK=> ?_) xP;have GZ:Zb (GB W0 (w1.alloc (zg #[ze zd 0,za none 0 0] 80)) pc pp ps #[ze zd n,za a zl ac,za ao ko co,za av kv cv,ze zd fine] (za ra nr rc) (za la ln lc) id ab pl):=G1.X.below (zP _);have aw:=za4 (zS w1 (zg #[ze zd 0,za none 0 0] 80));have aH:Zb (W0.heap.size<=w1.heap.size):=G1.X.b.size;go_simp;refine hoW hK GZ.X.cells fun aa=> ?_;clear hK K;obtain⟨kz,cz⟩:=nmd w1.heap.size;rw[cz.X]at aw aH⊢;generalize(w1.alloc _)=wz at*;obtain⟨z0,z1⟩:=za1 aw.X;have zf:=fun i=>yZ _ _ i _ _ aw.X;refine rdH 9 fun K hK=> ?_;go_simp;refine(zh7 id (pl:Int) wz).mono ?_;rintro e w2 ⟨p,q,rfl,hb,cP,gE⟩;have G2:=za4 (GZ.X.below hb);have eP:Zb (w2.cell? ⟨p,0,none⟩=some (ze zd (pl:Int))/\w2.cell? ⟨q,0,none⟩=some (ze zd id)):=⟨cP,gE⟩;have PB:Zb (Za w2.heap.size w2 w2):=y5 _ _;have mC:=za4 (za0 hb (za2 aw.X) aw.X);clear hb cP gE
    (try go_wp2_with fail)
    refine hoW hK G2.X.cells fun aa=> ?_;clear hK K;refine rdH 10 fun K hK=> ?_;go_simp;refine(CH.X w2 w2 p q G2.X.b eP.X.1 eP.X.2 PB.X).mono ?_;rintro e w3 ⟨hb,ad,cg,rfl,ho⟩;rw[ez.X,aX.X];have G3:=za4 (G2.X.below hb);have O3:Zb (w3.ownsRow W0.heap.size 2 1 (za ad xl cg) xl (xs.map (ze zd))):=by rw[aX.X]at ho;exact zb5 ho G2.X.b.size
    have ek:=za4 (za0 hb (za2 mC.X) mC.X);obtain⟨z0,z1⟩:=za1 ek.X;have zf:=fun i=>yZ _ _ i _ _ ek.X;clear hb ho
    (try go_wp2_with fail)
    refine hoW hK G3.X.cells fun aa=> ?_;clear hK K;refine tkH 11 aa ?_;refine tkH 12 aa ?_;refine tkH 13 aa ?_;refine tkH 14 aa ?_;refine rdH 16 fun K hK=> ?_;have G5:Zb (GB W0 ((w3.setCell ⟨kz,0,none⟩ (ze zd vv)).setCell ⟨kz,1,none⟩ (za ad xl cg)) pc pp ps #[ze zd n,za a zl ac,za ao ko co,za av kv cv,ze zd fine] (za ra nr rc) (za la ln lc) id ab pl):=(G3.X.set aH.X).set aH.X;have V5:Zb (((w3.setCell ⟨kz,0,none⟩ (ze zd vv)).setCell ⟨kz,1,none⟩ (za ad xl cg)).heap[kz]? =some (zg #[ze zd vv,za ad xl cg] 80 (0,0))):=by
     have s1:=xb w3 kz 0 _ _ (ze zd vv) ek.X;have s2:=xb _ kz 1 _ _ (za ad xl cg) s1;simp at s2;exact s2
    have O5:Zb (zk ((w3.setCell ⟨kz,0,none⟩ (ze zd vv)).setCell ⟨kz,1,none⟩ (za ad xl cg)) W0.heap.size 2 1 (za ad xl cg) xl (xs.map (ze zd))):=zd9 (zd9 O3.X ek.X) (by exact xb _ kz 0 _ _ _ ek.X);go_simp;refine hoW hK G5.X.cells fun aa=> ?_;clear hK K;generalize((w3.setCell ⟨kz,0,none⟩ _).setCell ⟨kz,1,none⟩ _)=w5 at*;refine tkH 17 aa ?_;refine tkH 18 aa ?_;refine qF (by kernel_rfl) ?_ _;clear aa
    (try go_wp2_with fail)
    go_meet;exact⟨kz,ad,cg,rfl,rfl,rfl,G5.X,V5.X,O5.X⟩
   refine xL rfl (fun K hK=> ?_) xP;have GZ:Zb (GB W0 (wd.alloc (zg #[ze zd 0,za none 0 0] 80)) pc pp ps #[ze zd n,za a zl ac,za ao ko co,za av kv cv,ze zd fine] (za ra nr rc) (za la ln lc) id ab pl):=GD.X.below (zP _);have aw:=za4 (zS wd (zg #[ze zd 0,za none 0 0] 80));have aH:Zb (W0.heap.size<=wd.heap.size):=GD.X.b.size;go_simp;refine hoW hK GZ.X.cells fun aa=> ?_;clear hK K;obtain⟨kz,cz⟩:=nmd wd.heap.size;rw[cz.X]at aw aH⊢;generalize(wd.alloc _)=wz at*;obtain⟨z0,z1⟩:=za1 aw.X;have zf:=fun i=>yZ _ _ i _ _ aw.X;refine rdH 4 fun K hK=> ?_;go_simp;refine(RO.X wz GZ.X.b).mono ?_;rintro e w1 ⟨rfl,hb⟩;have G1:=za4 (GZ.X.below hb);have fY:=za4 (za0 hb (za2 aw.X) aw.X);clear hb
   (try go_wp2_with fail)
   refine hoW hK G1.X.cells fun aa=> ?_;clear hK K;refine rdH 9 fun K hK=> ?_;go_simp;refine(zh7 id (pl:Int) w1).mono ?_;rintro e w2 ⟨p,q,rfl,hb,cP,gE⟩;have G2:=za4 (G1.X.below hb);have eP:Zb (w2.cell? ⟨p,0,none⟩=some (ze zd (pl:Int))/\w2.cell? ⟨q,0,none⟩=some (ze zd id)):=⟨cP,gE⟩;have PB:Zb (Za w2.heap.size w2 w2):=y5 _ _;have mC:=za4 (za0 hb (za2 fY.X) fY.X);clear hb cP gE
   (try go_wp2_with fail)
   refine hoW hK G2.X.cells fun aa=> ?_;clear hK K;refine rdH 10 fun K hK=> ?_;go_simp;refine(CH.X w2 w2 p q G2.X.b eP.X.1 eP.X.2 PB.X).mono ?_;rintro e w3 ⟨hb,ad,cg,rfl,ho⟩;rw[ez.X,aX.X];have G3:=za4 (G2.X.below hb);have O3:Zb (w3.ownsRow W0.heap.size 2 1 (za ad xl cg) xl (xs.map (ze zd))):=by rw[aX.X]at ho;exact zb5 ho G2.X.b.size
   have ek:=za4 (za0 hb (za2 mC.X) mC.X);obtain⟨z0,z1⟩:=za1 ek.X;have zf:=fun i=>yZ _ _ i _ _ ek.X;clear hb ho
   (try go_wp2_with fail)
   refine hoW hK G3.X.cells fun aa=> ?_;clear hK K;refine tkH 11 aa ?_;refine tkH 12 aa ?_;refine tkH 13 aa ?_;refine tkH 14 aa ?_;refine rdH 16 fun K hK=> ?_;have G5:Zb (GB W0 ((w3.setCell ⟨kz,0,none⟩ (ze zd vv)).setCell ⟨kz,1,none⟩ (za ad xl cg)) pc pp ps #[ze zd n,za a zl ac,za ao ko co,za av kv cv,ze zd fine] (za ra nr rc) (za la ln lc) id ab pl):=(G3.X.set aH.X).set aH.X;have V5:Zb (((w3.setCell ⟨kz,0,none⟩ (ze zd vv)).setCell ⟨kz,1,none⟩ (za ad xl cg)).heap[kz]? =some (zg #[ze zd vv,za ad xl cg] 80 (0,0))):=by
    have s1:=xb w3 kz 0 _ _ (ze zd vv) ek.X;have s2:=xb _ kz 1 _ _ (za ad xl cg) s1;simp at s2;exact s2
   have O5:Zb (zk ((w3.setCell ⟨kz,0,none⟩ (ze zd vv)).setCell ⟨kz,1,none⟩ (za ad xl cg)) W0.heap.size 2 1 (za ad xl cg) xl (xs.map (ze zd))):=zd9 (zd9 O3.X ek.X) (by exact xb _ kz 0 _ _ _ ek.X);go_simp;refine hoW hK G5.X.cells fun aa=> ?_;clear hK K;generalize((w3.setCell ⟨kz,0,none⟩ _).setCell ⟨kz,1,none⟩ _)=w5 at*;refine tkH 17 aa ?_;refine tkH 18 aa ?_;refine qF (by kernel_rfl) ?_ _;clear aa
   (try go_wp2_with fail)
   go_meet;exact⟨kz,ad,cg,rfl,rfl,rfl,G5.X,V5.X,O5.X⟩
  case rest=>
   obtain⟨kz,ad,cg,rfl,rfl,rfl,wQ,mL,rx⟩:=hcut;obtain⟨w5,pF⟩:∃v,v=wc:=⟨_,rfl⟩;subst pF;have G5:=za4 wQ;have V5:=za4 mL;have O5:=za4 rx;clear wQ mL rx;clear RO CH ez;obtain⟨c0,c1,c2,c3,c4,p0,p1,-,-,-⟩:=G5.X.cells;obtain⟨k0,k1⟩:=za1 V5.X;have B5:=za4 (BQ.X.trans (G5.X.b.mono BQ.X.size));have ug:xs.length<=1000:=by
    rw[<-oT.X];show(insL (zc7 R ab).ids pl id).length<=1000;have h1:=yD0 (zc7 R ab).ids pl id;have h2:=z51 (fun r hr=>(HI.X r hr).2.1) ab;omega
   have WR:=zp4 ra la rc ln lc R ⟨vv,ad,xs,cg⟩ w5 (HP.X.2.2.1.below B5.X) (by rw[HN.X];exact hn) HS.X (by rw[HN.X];exact HP.X.2.2.2.2.1) ug;simp only[HN.X,aX.X]at WR
   go_wp2_with fail
   refine WR.mono ?_;rintro e w6 ⟨sl,rfl,iE,CK⟩;obtain⟨m6,Ja⟩:=nmd ((wrL R ⟨vv,ad,xs,cg⟩).length);rw[Ja.X]at CK;obtain⟨jO,ju,e⟩:=zp6 CK;subst e;have G6:=za4 (G5.X.below iE);have O6:=za4 (zb9 O5.X iE);have R6:=za4 (zb5 CK G5.X.b.size);clear iE CK WR c0 c1 c2 c3 c4 p0 p1 k0 k1 B5;have G7:Zb (GB W0 (w6.alloc (zg #[za jO m6 ju,za la ln lc] 33)) pc pp ps #[ze zd n,za a zl ac,za ao ko co,za av kv cv,ze zd fine] (za ra nr rc) (za la ln lc) id ab pl):=G6.X.below (zP _);have N7:=za4 (zS w6 (zg #[za jO m6 ju,za la ln lc] 33));have O7:Zb (zk (w6.alloc (zg #[za jO m6 ju,za la ln lc] 33)) W0.heap.size 2 1 (za ad xl cg) xl (xs.map (ze zd))):=O6.X.alloc _;have R7:Zb (zk (w6.alloc (zg #[za jO m6 ju,za la ln lc] 33)) W0.heap.size 80 2 (za jO m6 ju) m6 (zj5 (wrL R ⟨vv,ad,xs,cg⟩))):=R6.X.alloc _;have gA:Zb (W0.heap.size<=w6.heap.size):=G6.X.b.size;obtain⟨p0,p1⟩:=za1 G7.X.p;have B7:=za4 (BQ.X.trans (G7.X.b.mono BQ.X.size));have CL:=z58 la lc ln L (w6.alloc (zg #[za jO m6 ju,za la ln lc] 33)) (HP.X.2.2.2.1.below B7.X) HM.X (by omega) HP.X.2.2.2.2.2.1
   go_wp2_with fail
   obtain⟨kn,oV⟩:=nmd w6.heap.size;rw[oV.X]at N7 gA⊢;generalize w6.alloc _=w7 at*;refine CL.mono ?_;rintro e w8 ⟨sl,rfl,iF,jI⟩;have G8:=za4 (G7.X.below iF);have N8:=za4 (za0 iF (za2 N7.X) N7.X);have O8:=za4 (zb9 O7.X iF);have R8:=za4 (zb9 R7.X iF);have eM:Zb ((∀k,(za ad xl cg).ownBlock=some k->k<w7.heap.size)/\(∀k,(za jO m6 ju).ownBlock=some k->k<w7.heap.size)/\kn<w7.heap.size):=⟨fun k e=>(O7.X.lt k e).2,fun k e=>(R7.X.lt k e).2,za2 N7.X⟩;have CF:=yh7 sl ln w7.heap.size ps L id w8 jI HM.X (by omega) iF.size (zw1 G8.X.s).1 (by have:=G7.X.l.2.2;have:=G7.X.b.size;omega);have vw:Zb (W0.heap.size<=w7.heap.size):=G7.X.b.size;clear CL p0 p1 jI iF
   go_wp2_with fail
   refine CF.mono ?_;rintro e w9 ⟨Ro,rfl,mq,jm⟩;obtain⟨m8,JO⟩:=nmd ((zm1 L id).length);rw[JO.X]at jm;obtain⟨kd,kh,e⟩:=zp6 jm;subst e;have N9:=za4 (za0 mq eM.X.2.2 N8.X);have O9:=za4 (zv8 O8.X mq eM.X.1);have R9:=za4 (zv8 R8.X mq eM.X.2.1);have L9:=za4 jm;have B9:=za4 (G8.X.b.trans (mq.mono vw.X));have A9:=za4 (za0 B9.X (za2 OQ.X) OQ.X);obtain⟨n0,n1⟩:=za1 N9.X;have nf:=fun i=>yZ _ _ i _ _ N9.X;have NS:Zb ((w9.setCell ⟨kn,1,none⟩ (za kd m8 kh)).heap[kn]? =some (zg #[za jO m6 ju,za kd m8 kh] 33 (0,0))):=by
    have s1:=xb w9 kn 1 _ _ (za kd m8 kh) N9.X;simp at s1;exact s1
   have AS:Zb ((w9.setCell ⟨kn,1,none⟩ (za kd m8 kh)).heap[pp+1]? =some (zg #[za none 0 0,za none 0 0] 33 (0,0))):=za8 A9.X (by have:=za2 OQ.X;have:=gA.X;omega);have OS:=zg0 (i:=1) (u:=za kd m8 kh) O9.X N9.X (by decide);have RS:=zg0 (i:=1) (u:=za kd m8 kh) R9.X N9.X (by decide);have Eh:=zg0 (i:=1) (u:=za kd m8 kh) L9.X N9.X (by decide);have Of:Zb (Za w.heap.size w (w9.setCell ⟨kn,1,none⟩ (za kd m8 kh))):=(BQ.X.trans (B9.X.mono BQ.X.size)).setCell (by have:=BQ.X.size;have:=gA.X;simp;omega) _;have OS:Zb _:=OS;have RS:Zb _:=RS;have Eh:Zb _:=Eh;clear mq jm CF;obtain⟨a0,a1⟩:=za1 AS.X;have af:=fun i=>yZ _ _ i _ _ AS.X;obtain⟨s0,s1⟩:=za1 NS.X
   go_wp2_with fail
   generalize w9.setCell ⟨kn,1,none⟩ _=wf at*;go_wp2;refine xe (v:=.tuple #[.agg #[za jO m6 ju,za kd m8 kh],.bool true]) (by simp[results,Tryz.results124,go_sem,a0,a1]) rfl ?_;show yx2 _ _ _ _ _ _ _;have e1:LX=zm1 L id:=ee.X;have e2:RX=wrL R (oneT R (id,ab,pl)):=jw.X;have pH:Za w.heap.size w ((wf.setCell ⟨pp+1,0,none⟩ (za jO m6 ju)).setCell ⟨pp+1,1,none⟩ (za kd m8 kh)):=(Of.X.setCell (by have:=mo.X;simp;omega) _).setCell (by have:=mo.X;simp;omega) _;have E7:=xb wf (pp+1) 0 _ _ (za jO m6 ju) AS.X;have OF:=zg0 (i:=1) (u:=za kd m8 kh) (zg0 (i:=0) (u:=za jO m6 ju) OS.X AS.X (by decide)) E7 (by decide);have RF:=zg0 (i:=1) (u:=za kd m8 kh) (zg0 (i:=0) (u:=za jO m6 ju) RS.X AS.X (by decide)) E7 (by decide);have LF:=zg0 (i:=1) (u:=za kd m8 kh) (zg0 (i:=0) (u:=za jO m6 ju) Eh.X AS.X (by decide)) E7 (by decide);have IX:za3 ((wf.setCell ⟨pp+1,0,none⟩ (za jO m6 ju)).setCell ⟨pp+1,1,none⟩ (za kd m8 kh)) ad xs:=zl1 OF;have bI:∀r∈wrL R ⟨vv,ad,xs,cg⟩,r∈R∨r=⟨vv,ad,xs,cg⟩:=fun r hr=>zx2 hr;refine⟨jO,m6,ju,kd,m8,kh,wrL R ⟨vv,ad,xs,cg⟩,rfl,pH,⟨Ja.X,by rw[e1];exact JO.X,zm4 RF (fun r hr=> ?_),by rw[e1];exact zl1 LF,z72 RF,z72 LF,fun r hr=> ?_⟩,?_,fun k hk h=>⟨fun _=>yc0 RF (by have:=BQ.X.size;omega),fun _=>yc0 LF (by have:=BQ.X.size;have:=vw.X;omega),fun r hr aq b off e=> ?_⟩⟩
   ·rcases bI r hr with h|h
    ·obtain⟨j,hj,rfl⟩:=zo3 h
     obtain⟨_,_,_,_,_,h2⟩:=HP.X.2.2.1 j hj;exact h2.below pH
    ·rw[h];exact IX
   ·rcases bI r hr with h|h
    ·exact HP.X.2.2.2.2.2.2 r h
    ·rw[h]
     show xs.length<=cg;rw[aX.X];exact yi5 OF
   ·rw[e2]
    refine z81 rfl ?_;show(vv,xs)=(ab,insL (zc7 R ab).ids pl id);rw[vJ.X,<-oT.X];rfl
   ·rcases bI r hr with h9|h9
    ·exact h.2.2 r h9 aq b off e
    ·rw[h9]at e
     exact yc0 OF (by have:=BQ.X.size;omega) b off e
def yv2(W:zi)(k:Nat):Nat:=match W.cell? ⟨k,1,none⟩with
 |some (za _ n _)=>n
 |_=>0
def yM1(t:Value)(n:Nat):Nat:=match t with
 | .bool true=>n
 |_=>0
def yh4(w:zi)(K:Nat->Prop)(T:List RT)(L:List Int)(e:Ending)(w':zi):Prop:=∃ra rn rc la ln lc R,e=.returned (.agg #[za ra rn rc,za la ln lc])/\Za w.heap.size w w'/\zc2 w' ra la rn ln R L/\R.map RT.key=T.map RT.key/\(∀r∈R,r.ids≠[]/\r.ids.length<=12)/\rn<=100/\ln<=12/\∀k,k<w.heap.size->K k->zi8 k ra la R L
theorem yg7(n fine:Int)(a ao av ra la:Option Addr)(zl ac ko co kv cv nr rc ln lc:Nat)(zs os vs L:List Int)(R:List RT)(w:zi)(hA:za3 w a zs)(hO:za3 w ao os)(hV:za3 w av vs)(aN:zs.length=zl)(an:os.length=ko*6)(au:vs.length=kv*5)(aA:ko<=12)(aB:kv<=5)(bT:zd0 n zs os vs ko kv fine=true)(hP:zc2 w ra la nr ln R L)(hn:nr<=12)(gd:ln<=12)(hS:zf7 R)(hi:zw3 R):
 Calls Tryz.prog 82 #[.agg #[ze zd n,za a zl ac,za ao ko co,za av kv cv,ze zd fine],.agg #[za ra nr rc,za la ln lc]] w (yh4 w (fun k=>zi8 k ra la R L) (grd n fine zs os vs ko kv L.length R L).1 (grd n fine zs os vs ko kv L.length R L).2):=by
 have HA:=za4 hA;have HO:=za4 hO;have HV:=za4 hV;have ck:=za4 aN;have aF:=za4 an;have aE:=za4 au;have cW:=za4 bT;have HP:=za4 hP;have HS:=za4 hS;have HI:=za4 hi;have u':Zb (∀k,w.heap.size<=k->zi8 k ra la R L):=fun k hk=>hP.far hk;clear hA hO hV aN an au bT hP hS hi;obtain⟨TR,o9⟩:=nmd ((grd n fine zs os vs ko kv L.length R L).1);obtain⟨TL,dP⟩:=nmd ((grd n fine zs os vs ko kv L.length R L).2);rw[o9.X,dP.X];have Q0:Zb (GQ w (((w.alloc (zg #[ze zd n,za a zl ac,za ao ko co,za av kv cv,ze zd fine] 30)).alloc (zg #[za ra nr rc,za la ln lc] 33)).alloc (zg #[za none 0 0,za none 0 0] 33)) #[ze zd n,za a zl ac,za ao ko co,za av kv cv,ze zd fine] #[za ra nr rc,za la ln lc]):=by
  refine⟨((zP _).alloc (by simp) _).alloc (by simp;omega) _,?_,?_,?_⟩
  ·exact(xg _ _ (by simp;omega)).trans (xm _ _ _)
  ·exact(xg _ _ (by simp)).trans (xh _ _ _)
  ·have:=zS ((w.alloc (zg #[ze zd n,za a zl ac,za ao ko co,za av kv cv,ze zd fine] 30)).alloc (zg #[za ra nr rc,za la ln lc] 33)) (zg #[za none 0 0,za none 0 0] 33)
   simpa using this
 have jT:=za4 (HP.X.below Q0.X.b);go_enter Tryz.func82,Tryz.ntmps82
 go_wp2_with fail
 generalize((w.alloc _).alloc _).alloc _=W0 at*;go_loopw[5] (fun t wr=>∃(m:Bool) (aO cQ:Option Addr) (bG bg bm dI:Nat) (R9:List RT) (L9:List Int),t=.bool m/\GQ w wr #[ze zd n,za a zl ac,za ao ko co,za av kv cv,ze zd fine] #[za aO bG bg,za cQ bm dI]/\zc2 wr aO cQ bG bm R9 L9/\zi8 (w.heap.size+1) aO cQ R9 L9/\zi8 (w.heap.size+2) aO cQ R9 L9/\(∀k,k<w.heap.size->zi8 k ra la R L->zi8 k aO cQ R9 L9)/\bG+bm<=24/\bm<=12/\zf7 R9/\zw3 R9/\(m=true->(grd n fine zs os vs ko kv L9.length R9 L9).1.map RT.key=TR.map RT.key/\(grd n fine zs os vs ko kv L9.length R9 L9).2=TL)/\(m=false->R9.map RT.key=TR.map RT.key/\L9=TL)) (fun t wr=>yM1 t (yv2 wr (w.heap.size+1)+1))
 case atStart=>exact⟨true,ra,la,nr,rc,ln,lc,R,L,rfl,Q0.X,jT.X,u'.X _ (by omega),u'.X _ (by omega),fun _ _ h=>h,by omega,gd,HS.X,HI.X,fun _=>⟨by rw[o9.X],dP.X⟩,fun h=>by cases h⟩
 case round=>
  clear Q0 jT HP HS HI u';obtain⟨m,aO,cQ,bG,bg,bm,dI,R9,L9,rfl,hq,hp,ig,eY,fZ,Po,bH,hs,hi,ht,hf⟩:=hrel;have Q1:=za4 hq;have P1:=za4 hp;have F1:Zb (zi8 (w.heap.size+1) aO cQ R9 L9/\zi8 (w.heap.size+2) aO cQ R9 L9/\(∀k,k<w.heap.size->zi8 k ra la R L->zi8 k aO cQ R9 L9)):=⟨ig,eY,fZ⟩;have S1:=za4 hs;have I1:=za4 hi;have HT:=za4 ht;have HF:=za4 hf;clear hq hp hs hi ht hf ig eY fZ;obtain⟨c0,c1,c2,c3,c4⟩:=za7 Q1.X.c;obtain⟨p0,p1⟩:=za1 Q1.X.p;cases m
  ·obtain⟨a0,a1⟩:=za1 Q1.X.o
   have af:=fun i=>yZ _ _ i _ _ Q1.X.o;obtain⟨hk,hl⟩:=HF.X rfl;have HK:=za4 hk;have eM:=za4 hl;clear hk hl;go_wp2;refine xe (v:=.agg #[za aO bG bg,za cQ bm dI]) (by simp[results,Tryz.results82,go_sem,a0,a1]) rfl ?_;show yh4 _ _ _ _ _ _;have pH:Za w.heap.size w ((wr.setCell ⟨w.heap.size+2,0,none⟩ (za aO bG bg)).setCell ⟨w.heap.size+2,1,none⟩ (za cQ bm dI)):=(Q1.X.b.setCell (by simp) _).setCell (by simp) _;refine⟨aO,bG,bg,cQ,bm,dI,R9,rfl,pH,by rw[<-eM.X];exact(P1.X.offL F1.X.2.1).offL F1.X.2.1,HK.X,fun r hr=>⟨(I1.X r hr).1,(I1.X r hr).2.1⟩,by omega,bH,by rw[<-eM.X];exact F1.X.2.2⟩
  ·have G1:=zR4 n fine a ao av aO cQ zl ac ko co kv cv bG bg bm dI zs os vs L9 R9 wr (HA.X.below Q1.X.b) (HO.X.below Q1.X.b) (HV.X.below Q1.X.b) ck.X aF.X aE.X aA aB cW.X P1.X (by omega) bH S1.X I1.X
   obtain⟨i_,gz⟩:=HT.X rfl;have eT:=yj4 n fine zs os vs ko kv (R:=R9) (L:=L9);have eV:=fun h=>zz4 n fine zs os vs ko kv (R:=R9) (L:=L9) h;have bd:=yB1 (n:=n) (fine:=fine) (zs:=zs) (os:=os) (vs:=vs) (ko:=ko) (kv:=kv) (L:=L9) I1.X (by rw[P1.X.1];omega) (by rw[P1.X.2.1];omega);have jZ:=zY0 n fine zs os vs ko kv (L:=L9) S1.X;rw[P1.X.1]at eT;rw[P1.X.2.1]at eV;obtain⟨f,jC⟩:=nmd ((zw6 n fine zs os vs ko kv R9 L9).f);obtain⟨RX,gC⟩:=nmd (zB6 n fine zs os vs ko kv R9 L9);obtain⟨LX,gI⟩:=nmd (zD8 n fine zs os vs ko kv R9 L9);have dD:Zb (f=true->(grd n fine zs os vs ko kv LX.length RX LX).1.map RT.key=TR.map RT.key/\(grd n fine zs os vs ko kv LX.length RX LX).2=TL):=fun h=>by
    rw[yl9 n fine zs os vs ko kv (jC.X.trans h),gC.X,gI.X]at i_ gz;exact⟨i_,gz⟩
   have pW:Zb (f=false->RX.map RT.key=TR.map RT.key/\LX=TL):=fun h=>by
    rw[yk7 n fine zs os vs ko kv (jC.X.trans h)]at i_ gz;have e1:RX=R9:=by rw[<-gC.X];unfold zB6;rw[jC.X,h];rfl
    have e2:LX=L9:=by rw[<-gI.X];unfold zD8;rw[jC.X,h];rfl
    rw[e1,e2];exact⟨i_,gz⟩
   have jo:Zb (LX.length<=bm/\(f=true->LX.length<bm)):=by
    refine⟨?_,fun h=>by rw[<-gI.X];exact eV (jC.X.trans h)⟩;rw[<-gI.X];cases h:f
    ·unfold zD8;rw[jC.X,h];exact Nat.le_of_eq P1.X.2.1
    ·exact Nat.le_of_lt (eV (jC.X.trans h))
   have od:Zb (RX.length<=bG+1/\(f=false->RX.length=bG)):=by
    rw[<-gC.X];exact⟨eT,fun h=>by unfold zB6;rw[jC.X,h];exact P1.X.1⟩
   rw[jC.X,gC.X,gI.X]at G1;rw[gC.X]at bd jZ;have fW:Zb (∀r∈RX,r.ids≠[]/\r.ids.length<=12):=bd.1;have eU:=za4 jZ;clear i_ gz eT eV bd jZ HT HF jC gC gI
   go_wp2_with fail
   refine G1.mono ?_;rintro e w2 ⟨ag,eb,ai,ak,dE,aj,R2,rfl,hb,dK,cN,cX⟩;have bW:=Q1.X.size;have Q2:=za4 (Q1.X.below hb);have P2:=za4 dK;have F2:Zb (zi8 (w.heap.size+1) ag ak R2 LX/\zi8 (w.heap.size+2) ag ak R2 LX/\(∀k,k<w.heap.size->zi8 k ra la R L->zi8 k ag ak R2 LX)):=⟨cX _ (by omega) F1.X.1,cX _ (by omega) F1.X.2.1,fun k hk h=>cX k (by omega) (F1.X.2.2 k hk h)⟩;have dY:=za4 cN;have gu:eb=RX.length:=by rw[<-dK.1];have:=congrArg List.length cN;simpa using this
   have jJ:dE=LX.length:=dK.2.1.symm;have uv:eb+dE<=24/\dE<=12/\(f=true->dE<bm):=by
    have h1:=jo.X;have h2:=od.X;rw[gu,jJ];cases f
    ·have:=h2.2 rfl;exact⟨by omega,by omega,fun h=>by cases h⟩
    ·have:=h1.2 rfl;exact⟨by omega,by omega,fun _=>this⟩
   have dS:Zb (yv2 wr (w.heap.size+1)=bm):=by show _=_;unfold yv2;rw[p1]
   clear hb dK cN cX G1 c0 c1 c2 c3 c4 p0 p1 gu jJ;obtain⟨p0,p1⟩:=za1 Q2.X.p;have pf:=fun i=>yZ _ _ i _ _ Q2.X.p;have s1:=xb w2 (w.heap.size+1) 0 _ _ (za ag eb ai) Q2.X.p;have s2:=xb _ (w.heap.size+1) 1 _ _ (za ak dE aj) s1;simp at s2;have Q3:Zb (GQ w ((w2.setCell ⟨w.heap.size+1,0,none⟩ (za ag eb ai)).setCell ⟨w.heap.size+1,1,none⟩ (za ak dE aj)) #[ze zd n,za a zl ac,za ao ko co,za av kv cv,ze zd fine] #[za ag eb ai,za ak dE aj]):=⟨(Q2.X.b.setCell (by simp) _).setCell (by simp) _,za8 (za8 Q2.X.c (by omega)) (by omega),s2,za8 (za8 Q2.X.o (by omega)) (by omega)⟩;have P3:Zb (zc2 ((w2.setCell ⟨w.heap.size+1,0,none⟩ (za ag eb ai)).setCell ⟨w.heap.size+1,1,none⟩ (za ak dE aj)) ag ak eb dE R2 LX):=(P2.X.offL F2.X.1).offL F2.X.1;have m':Zb (yv2 ((w2.setCell ⟨w.heap.size+1,0,none⟩ (za ag eb ai)).setCell ⟨w.heap.size+1,1,none⟩ (za ak dE aj)) (w.heap.size+1)=dE):=by show _=_;unfold yv2;rw[(za1 s2).2]
   clear s1 s2;obtain⟨nW,m_,nh⟩:=uv;go_wp2;go_roundw
   case rel=>exact⟨f,ag,ak,eb,ai,dE,aj,R2,LX,rfl,Q3.X,P3.X,F2.X.1,F2.X.2.1,F2.X.2.2,nW,m_,zX3 dY.X eU.X,fun r hr=>⟨(z13 dY.X fW.X r hr).1,(z13 dY.X fW.X r hr).2,P3.X.2.2.2.2.2.2 r hr⟩,fun h=>by obtain⟨h1,h2⟩:=dD.X h;obtain⟨h3,h4⟩:=z82 n fine zs os vs ko kv LX.length LX dY.X;exact⟨h3.trans h1,h4.trans h2⟩,fun h=>by obtain⟨h1,h2⟩:=pW.X h;exact⟨dY.X.trans h1,h2⟩⟩
   case measure=>
    rw[dS.X,m'.X];cases f
    ·show 0<bm+1;omega
    ·have:=nh rfl;show dE+1<bm+1;omega
