import Derived.Test.YtkchnomkiboihaaGreatPack32
import Derived.Test.YtkchnomkiboihaaGreatPack39
import Derived.Test.YtkchnomkiboihaaGreatCutFunc
set_option linter.unusedSimpArgs false
set_option maxHeartbeats 4000000
set_option maxRecDepth 10000
namespace Go.Proofs.YtkchnomkiboihaaGreat
open Value renaming slice→za,int→ze
open IntKind renaming i64→zd
open Obj renaming cells→zg
open Go renaming World→zi
open World renaming ownsRow→zk
open Go.RowKit
open Q
theorem yE7(ids:List Int)(k:Nat)(x:Int):(insL ids k x).length<=ids.length+1:=by
 unfold insL;simp;omega
def yv5(w:zi)(f:Bool)(S:List RT)(L:List Int)(K:Nat->Prop)(e:Ending)(w':zi):Prop:=∃ra rn rc la ln lc R,e=.returned (.tuple #[.agg #[za ra rn rc,za la ln lc],.bool f])/\Below w.heap.size w w'/\zc3 w' ra la rn ln R L/\R.map RT.key=S.map RT.key/\∀k,k<w.heap.size->K k->zi8 k ra la R L
theorem yc2{w:zi}{base size n rc k:Nat}{e:TypeId}{ra:Option Addr}{xs:List Value}(h:w.ownsRow base e size (za ra n rc) n xs)(hk:k<base):∀b off,ra=some ⟨b,off,none⟩->b≠k:=fun b off e9=>by
 rcases own_kinds h with⟨e1,_⟩|⟨g,c,e1,h2,_⟩
 ·simp only[qA]at e1
  rw[e1.1]at e9;cases e9
 ·simp only[qA]at e1
  rw[e1.1]at e9;simp only[xT,qg,qt]at e9;omega
theorem zT6(n fine:Int)(a ao av ra la:Option Addr)(zl ac ko co kv cv nr rc ln lc:Nat)(zs os vs L:List Int)(R:List RT)(w:zi)(hA:za3 w a zs)(hO:za3 w ao os)(hV:za3 w av vs)(aO:zs.length=zl)(an:os.length=ko*6)(au:vs.length=kv*5)(ay:ko<=12)(aB:kv<=5)(bT:zd0 n zs os vs ko kv fine=true)(hP:zc3 w ra la nr ln R L)(hn:nr<=100)(gz:ln<=12)(hS:zf7 R)(hi:zw3 R):
 Calls Tryz.prog 124 #[.agg #[ze zd n,za a zl ac,za ao ko co,za av kv cv,ze zd fine],.agg #[za ra nr rc,za la ln lc]] w (yv5 w (zx5 n fine zs os vs ko kv R L).f (zB5 n fine zs os vs ko kv R L) (zD5 n fine zs os vs ko kv R L) (fun k=>zi8 k ra la R L)):=by
 have HA:=za4 hA;have HO:=za4 hO;have HV:=za4 hV;have cm:=za4 aO;have aF:=za4 an;have aD:=za4 au;have cZ:=za4 bT;have HP:=za4 hP;have HS:=za4 hS;have HI:=za4 hi;have HN:Hid (R.length=nr):=hP.1;have HM:Hid (L.length=ln):=hP.2.1;clear hA hO hV aO an au bT hP hS hi;obtain⟨s0,gE⟩:=nmd (zx5 n fine zs os vs ko kv R L);have Et:Hid (qst (gOk n fine zs os vs ko kv R) (gD n zs os vs ko kv R) (sp3 R vs kv L ln)=s0):=by
  show _=_;rw[<-gE.X,<-HM.X];rfl
 obtain⟨RX,gF⟩:=nmd (zB5 n fine zs os vs ko kv R L);obtain⟨LX,gG⟩:=nmd (zD5 n fine zs os vs ko kv R L);have jM:Hid (RX=if s0.f then wrL R (oneT R s0.s)else R):=by show _=_;rw[<-gF.X];unfold zB5;rw[gE.X]
 have eh:Hid (LX=if s0.f then zm9 L s0.s.1 else L):=by show _=_;rw[<-gG.X];unfold zD5;rw[gE.X]
 have fX:Hid (s0.f=true->gB n zs os vs ko kv R s0.s=true):=fun h=>by
  have h1:=zz5 (ok:=gOk n fine zs os vs ko kv R) (dl:=gD n zs os vs ko kv R) (sp3 R vs kv L ln);rw[Et.X]at h1;have h2:=(h1 h).2.1;unfold gOk at h2;exact(zY _ _▸h2).1
 rw[gE.X,gF.X,gG.X];have Q0:Hid (GQ w (((w.alloc (zg #[ze zd n,za a zl ac,za ao ko co,za av kv cv,ze zd fine] 30)).alloc (zg #[za ra nr rc,za la ln lc] 33)).alloc (zg #[za none 0 0,za none 0 0] 33)) #[ze zd n,za a zl ac,za ao ko co,za av kv cv,ze zd fine] #[za ra nr rc,za la ln lc]):=by
  refine⟨((zP _).alloc (by simp) _).alloc (by simp;omega) _,?_,?_,?_⟩
  ·exact(xg _ _ (by simp;omega)).trans (xm _ _ _)
  ·exact(xg _ _ (by simp)).trans (xh _ _ _)
  ·have:=zS ((w.alloc (zg #[ze zd n,za a zl ac,za ao ko co,za av kv cv,ze zd fine] 30)).alloc (zg #[za ra nr rc,za la ln lc] 33)) (zg #[za none 0 0,za none 0 0] 33)
   simpa using this
 have SF:=zA8 n fine a ao av ra la la zl ac ko co kv cv rc ln lc lc vs L R (((w.alloc (zg #[ze zd n,za a zl ac,za ao ko co,za av kv cv,ze zd fine] 30)).alloc (zg #[za ra nr rc,za la ln lc] 33)).alloc (zg #[za none 0 0,za none 0 0] 33)) (HV.X.below Q0.X.b) aD.X aB (HP.X.2.2.1.below Q0.X.b) (by rw[HN.X];exact hn) HS.X (fun r hr=>(HI.X r hr).2.1) (HP.X.2.2.2.1.below Q0.X.b) (by rw[HM.X];exact gz);rw[HN.X,HM.X]at SF;obtain⟨c0,c1,c2,c3,c4⟩:=za7 Q0.X.c;obtain⟨p0,p1⟩:=za1 Q0.X.p;go_enter Tryz.func124,Tryz.ntmps124
 go_wp2_with fail
 generalize((w.alloc _).alloc _).alloc _=W0 at*;refine SF.mono ?_;rintro e w1 ⟨sl,rfl,hb,ho⟩;obtain⟨sa,sc,e⟩:=zp8 ho;subst e;have Q1:=za4 (Q0.X.below hb);have S1:Hid (za3 w1 sa (spF (sp3 R vs kv L ln))):=yk6 ho;have bg:=zS5 (fun r hr=>(HI.X r hr).2.1) vs aB L ln;have LG:=zI1 sa sc w.heap.size (w.heap.size+1) (sp3 R vs kv L ln) (gOk n fine zs os vs ko kv R) (gD n zs os vs ko kv R) w1 S1.X (by omega) (fun W id ab pl hW=>by
  have QW:GQ w W #[ze zd n,za a zl ac,za ao ko co,za av kv cv,ze zd fine] #[za ra nr rc,za la ln lc]:=Q1.X.below hW;exact yb5 n fine a ao av ra la zl ac ko co kv cv nr rc ln lc zs os vs R W (HA.X.below QW.b) (HO.X.below QW.b) (HV.X.below QW.b) cm.X aF.X aD.X (by omega) (by omega) cZ.X (HP.X.2.2.1.below QW.b) HN.X hn HS.X HI.X id ab pl _ _ QW.c QW.p) s0 Et.X
 obtain⟨f,⟨id,ab,pl⟩,v⟩:=s0;simp only at LG jM eh fX;clear hb ho SF c0 c1 c2 c3 c4 p0 p1 Q0 Et gE
 go_wp2_with fail
 refine LG.mono ?_;rintro e w2 ⟨rfl,hb⟩;have Q2:=za4 (Q1.X.below hb);clear hb LG Q1 S1 bg;have QA:Hid (GQ w (w2.alloc (zg #[ze zd id,ze zd ab,ze zd (pl:Int)] 129)) #[ze zd n,za a zl ac,za ao ko co,za av kv cv,ze zd fine] #[za ra nr rc,za la ln lc]):=Q2.X.below (zP _);have SA:=za4 (zS w2 (zg #[ze zd id,ze zd ab,ze zd (pl:Int)] 129));obtain⟨p0,p1⟩:=za1 QA.X.p;obtain⟨o0,o1⟩:=za1 QA.X.o;have of:=fun i=>yZ _ _ i _ _ QA.X.o;cases f
 ·go_wp2
  refine xe (v:=.tuple #[.agg #[za ra nr rc,za la ln lc],.bool false]) (by simp[results,Tryz.results124,go_sem,o0,o1]) rfl ?_;show yv5 _ _ _ _ _ _ _;have e1:LX=L:=eh.X;have e2:RX=R:=jM.X;rw[e1,e2];refine⟨ra,nr,rc,la,ln,lc,R,rfl,?_,?_,rfl,fun k _ h=>h⟩
  ·repeat(first|with_reducible exact QA.X.b|refine xq ?_ (by simp<;>omega) _)
  ·refine HP.X.below ?_
   repeat(first|with_reducible exact QA.X.b|refine xq ?_ (by simp<;>omega) _)
 ·have Hg:=fX.X rfl
  obtain⟨dd,bh⟩:=nmd (gD n zs os vs ko kv R (id,ab,pl));obtain⟨xs,oD⟩:=nmd (chL true (insL (zc7 R ab).ids pl id));obtain⟨vv,et⟩:=nmd (chI true ab);obtain⟨xl,aX⟩:=nmd xs.length;have vr:Hid (vv=ab):=by show _=_;rw[<-et.X];rfl
  have p8:=yl0 n fine a ao av ra ac ko co kv cv zs os vs R (w2.alloc (zg #[ze zd id,ze zd ab,ze zd (pl:Int)] 129)) (HA.X.below QA.X.b) (HO.X.below QA.X.b) (HV.X.below QA.X.b) aF.X aD.X (by omega) (by omega) cZ.X (HP.X.2.2.1.below QA.X.b) HI.X id ab pl true Hg dd bh.X xs oD.X;have pF:∀W,Below (w2.alloc (zg #[ze zd id,ze zd ab,ze zd (pl:Int)] 129)).heap.size (w2.alloc (zg #[ze zd id,ze zd ab,ze zd (pl:Int)] 129)) W->_:=fun W hW=>zn4 ra la rc ln lc R ab W ((HP.X.2.2.1.below QA.X.b).below hW) (by rw[HN.X];omega) HS.X
  rw[HN.X]at pF;rw[cm.X]at p8;have G0:=za4 (GB.new QA.X.c QA.X.p SA.X);obtain⟨rl,cu⟩:=nmd ((zc7 R ab).ids.length);obtain⟨aN,pX⟩:=nmd ((zc7 R ab).a);obtain⟨be,bA⟩:=nmd ((zc7 R ab).c);rw[cu.X,pX.X,bA.X]at pF p8;have RO:Hid _:=pF;have CH:Hid _:=p8;have QZ:Hid (w.heap.size+3<=w2.heap.size):=Q2.X.size;have OQ:=za4 (QA.X.o);have BQ:=za4 (QA.X.b);clear pF p8 Q2 QA SA p0 p1 o0 o1 of fX Hg bh;go_upto_region 4 with fail;obtain⟨ps,Hb⟩:=nmd w2.heap.size;obtain⟨pp,mj⟩:=nmd (w.heap.size+1);obtain⟨pc,gS⟩:=nmd w.heap.size;rw[Hb.X]at G0⊢;rw[mj.X]at G0⊢;generalize w2.alloc _=W0 at*;have GP:=za4 (G0.X);clear G0;have G0:=GP;rw[gS.X]at G0⊢;have vw:Hid (w.heap.size+2=pp+1):=by show _=_;have:=mj.X;omega
  rw[vw.X]at OQ;go_cut [9,10,11]from 27 to 41 (fun s9 wV wH wx=>∃(kz:Nat) (ad:Option Addr) (cg:Nat),s9=.pointer (some ⟨kz,0,none⟩)/\wV=ze zd dd/\wH=.bool true/\GB W0 wx pc pp ps #[ze zd n,za a zl ac,za ao ko co,za av kv cv,ze zd fine] (za ra nr rc) (za la ln lc) id ab pl/\wx.heap[kz]? =some (zg #[ze zd vv,za ad xl cg] 80 (0,0))/\wx.ownsRow W0.heap.size 2 1 (za ad xl cg) xl (xs.map (ze zd)))
  case first=>
   go_wp2_with fail
   refine qG (S:=(fun W=>W.cell? ⟨pc,0,none⟩=some (ze zd n)/\W.cell? ⟨pc,1,none⟩=some (za a zl ac)/\W.cell? ⟨pc,2,none⟩=some (za ao ko co)/\W.cell? ⟨pc,3,none⟩=some (za av kv cv)/\W.cell? ⟨pc,4,none⟩=some (ze zd fine)/\W.cell? ⟨pp,0,none⟩=some (za ra nr rc)/\W.cell? ⟨pp,1,none⟩=some (za la ln lc)/\W.cell? ⟨ps,0,none⟩=some (ze zd id)/\W.cell? ⟨ps,1,none⟩=some (ze zd ab)/\W.cell? ⟨ps,2,none⟩=some (ze zd (pl:Int)))) (by kernel_rfl) ?_ fun aa=> ?_
   ·exact(G0.X.below (y5 _ _).drew).cells
   have GD:=za4 (G0.X.below (y5 _ _).drew);generalize W0.drew=wd at*;refine tkH 0 aa ?_;refine tkH 1 aa ?_;refine tkH 2 aa ?_;refine tkH 3 aa ?_;refine tkH 5 aa ?_;refine tkH 6 aa ?_;refine tkH 7 aa ?_;refine tkH 8 aa ?_;refine xQ (rs:=[4,15]) (by kernel_rfl) (by simp) ?_;refine xL rfl (fun K hK=> ?_) ?_
   ·skip
    go_simp;refine(RO.X wd GD.X.b).mono ?_;rintro e w1 ⟨rfl,hb⟩;have G1:=za4 (GD.X.below hb);clear hb
    (try go_wp2_with fail)
    refine hoW hK G1.X.cells fun aa=> ?_;clear hK K;refine xQ (rs:=[9,15]) (by kernel_rfl) (by simp) ?_;refine xL rfl (fun K hK=> ?_) ?_
    ·skip
     go_simp;refine(zh5 id (pl:Int) w1).mono ?_;rintro e w2 ⟨p,q,rfl,hb,cN,gL⟩;have G2:=za4 (G1.X.below hb);have eX:Hid (w2.cell? ⟨p,0,none⟩=some (ze zd (pl:Int))/\w2.cell? ⟨q,0,none⟩=some (ze zd id)):=⟨cN,gL⟩;have PB:Hid (Below w2.heap.size w2 w2):=y5 _ _;clear hb cN gL
     (try go_wp2_with fail)
     refine hoW hK G2.X.cells fun aa=> ?_;clear hK K;refine xQ (rs:=[10,15]) (by kernel_rfl) (by simp) ?_;refine xL rfl (fun K hK=> ?_) ?_
     ·skip
      go_simp;refine(CH.X w2 w2 p q G2.X.b eX.X.1 eX.X.2 PB.X).mono ?_;rintro e w3 ⟨hb,ad,cg,rfl,ho⟩;rw[et.X,aX.X];have G3:=za4 (G2.X.below hb);have O3:Hid (w3.ownsRow W0.heap.size 2 1 (za ad xl cg) xl (xs.map (ze zd))):=by rw[aX.X]at ho;exact zb5 ho G2.X.b.size
      clear hb ho
      (try go_wp2_with fail)
      refine hoW hK G3.X.cells fun aa=> ?_;clear hK K;refine tkH 11 aa ?_;refine tkH 12 aa ?_;refine tkH 13 aa ?_;refine tkH 14 aa ?_;refine rdH 15 fun K hK=> ?_;have GZ:Hid (GB W0 (w3.alloc (zg #[ze zd 0,za none 0 0] 80)) pc pp ps #[ze zd n,za a zl ac,za ao ko co,za av kv cv,ze zd fine] (za ra nr rc) (za la ln lc) id ab pl):=G3.X.below (zP _);have aw:=za4 (zS w3 (zg #[ze zd 0,za none 0 0] 80));have aH:Hid (W0.heap.size<=w3.heap.size):=G3.X.b.size;have OZ:Hid (zk (w3.alloc (zg #[ze zd 0,za none 0 0] 80)) W0.heap.size 2 1 (za ad xl cg) xl (xs.map (ze zd))):=O3.X.alloc _;go_simp;refine hoW hK GZ.X.cells fun aa=> ?_;clear hK K;obtain⟨kz,cC⟩:=nmd w3.heap.size;rw[cC.X]at aw aH⊢;generalize(w3.alloc _)=wz at*;obtain⟨z0,z1⟩:=za1 aw.X;have zf:=fun i=>yZ _ _ i _ _ aw.X;refine rdH 16 fun K hK=> ?_;have G5:Hid (GB W0 ((wz.setCell ⟨kz,0,none⟩ (ze zd vv)).setCell ⟨kz,1,none⟩ (za ad xl cg)) pc pp ps #[ze zd n,za a zl ac,za ao ko co,za av kv cv,ze zd fine] (za ra nr rc) (za la ln lc) id ab pl):=(GZ.X.set aH.X).set aH.X;have V5:Hid (((wz.setCell ⟨kz,0,none⟩ (ze zd vv)).setCell ⟨kz,1,none⟩ (za ad xl cg)).heap[kz]? =some (zg #[ze zd vv,za ad xl cg] 80 (0,0))):=by
       have s1:=xb wz kz 0 _ _ (ze zd vv) aw.X;have s2:=xb _ kz 1 _ _ (za ad xl cg) s1;simp at s2;exact s2
      have O5:Hid (zk ((wz.setCell ⟨kz,0,none⟩ (ze zd vv)).setCell ⟨kz,1,none⟩ (za ad xl cg)) W0.heap.size 2 1 (za ad xl cg) xl (xs.map (ze zd))):=zd9 (zd9 OZ.X aw.X) (by exact xb _ kz 0 _ _ _ aw.X);go_simp;refine hoW hK G5.X.cells fun aa=> ?_;clear hK K;generalize((wz.setCell ⟨kz,0,none⟩ _).setCell ⟨kz,1,none⟩ _)=w5 at*;refine tkH 17 aa ?_;refine tkH 18 aa ?_;refine qF (by kernel_rfl) ?_ _;clear aa
      (try go_wp2_with fail)
      go_meet;exact⟨kz,ad,cg,rfl,rfl,rfl,G5.X,V5.X,O5.X⟩
     refine xL rfl (fun K hK=> ?_) xP;have GZ:Hid (GB W0 (w2.alloc (zg #[ze zd 0,za none 0 0] 80)) pc pp ps #[ze zd n,za a zl ac,za ao ko co,za av kv cv,ze zd fine] (za ra nr rc) (za la ln lc) id ab pl):=G2.X.below (zP _);have aw:=za4 (zS w2 (zg #[ze zd 0,za none 0 0] 80));have aH:Hid (W0.heap.size<=w2.heap.size):=G2.X.b.size;have GJ:Hid (Below w2.heap.size w2 (w2.alloc (zg #[ze zd 0,za none 0 0] 80))):=zP _;go_simp;refine hoW hK GZ.X.cells fun aa=> ?_;clear hK K;obtain⟨kz,cC⟩:=nmd w2.heap.size;rw[cC.X]at aw aH⊢;generalize(w2.alloc _)=wz at*;obtain⟨z0,z1⟩:=za1 aw.X;have zf:=fun i=>yZ _ _ i _ _ aw.X;refine rdH 10 fun K hK=> ?_;go_simp;refine(CH.X w2 wz p q G2.X.b eX.X.1 eX.X.2 GJ.X).mono ?_;rintro e w3 ⟨hb,ad,cg,rfl,ho⟩;rw[et.X,aX.X];have G3:=za4 (GZ.X.below hb);have O3:Hid (w3.ownsRow W0.heap.size 2 1 (za ad xl cg) xl (xs.map (ze zd))):=by rw[aX.X]at ho;exact zb5 ho GZ.X.b.size
     have eu:=za4 (za0 hb (za2 aw.X) aw.X);obtain⟨z0,z1⟩:=za1 eu.X;have zf:=fun i=>yZ _ _ i _ _ eu.X;clear hb ho
     (try go_wp2_with fail)
     refine hoW hK G3.X.cells fun aa=> ?_;clear hK K;refine tkH 11 aa ?_;refine tkH 12 aa ?_;refine tkH 13 aa ?_;refine tkH 14 aa ?_;refine rdH 16 fun K hK=> ?_;have G5:Hid (GB W0 ((w3.setCell ⟨kz,0,none⟩ (ze zd vv)).setCell ⟨kz,1,none⟩ (za ad xl cg)) pc pp ps #[ze zd n,za a zl ac,za ao ko co,za av kv cv,ze zd fine] (za ra nr rc) (za la ln lc) id ab pl):=(G3.X.set aH.X).set aH.X;have V5:Hid (((w3.setCell ⟨kz,0,none⟩ (ze zd vv)).setCell ⟨kz,1,none⟩ (za ad xl cg)).heap[kz]? =some (zg #[ze zd vv,za ad xl cg] 80 (0,0))):=by
      have s1:=xb w3 kz 0 _ _ (ze zd vv) eu.X;have s2:=xb _ kz 1 _ _ (za ad xl cg) s1;simp at s2;exact s2
     have O5:Hid (zk ((w3.setCell ⟨kz,0,none⟩ (ze zd vv)).setCell ⟨kz,1,none⟩ (za ad xl cg)) W0.heap.size 2 1 (za ad xl cg) xl (xs.map (ze zd))):=zd9 (zd9 O3.X eu.X) (by exact xb _ kz 0 _ _ _ eu.X);go_simp;refine hoW hK G5.X.cells fun aa=> ?_;clear hK K;generalize((w3.setCell ⟨kz,0,none⟩ _).setCell ⟨kz,1,none⟩ _)=w5 at*;refine tkH 17 aa ?_;refine tkH 18 aa ?_;refine qF (by kernel_rfl) ?_ _;clear aa
     (try go_wp2_with fail)
     go_meet;exact⟨kz,ad,cg,rfl,rfl,rfl,G5.X,V5.X,O5.X⟩
    refine xL rfl (fun K hK=> ?_) xP;have GZ:Hid (GB W0 (w1.alloc (zg #[ze zd 0,za none 0 0] 80)) pc pp ps #[ze zd n,za a zl ac,za ao ko co,za av kv cv,ze zd fine] (za ra nr rc) (za la ln lc) id ab pl):=G1.X.below (zP _);have aw:=za4 (zS w1 (zg #[ze zd 0,za none 0 0] 80));have aH:Hid (W0.heap.size<=w1.heap.size):=G1.X.b.size;go_simp;refine hoW hK GZ.X.cells fun aa=> ?_;clear hK K;obtain⟨kz,cC⟩:=nmd w1.heap.size;rw[cC.X]at aw aH⊢;generalize(w1.alloc _)=wz at*;obtain⟨z0,z1⟩:=za1 aw.X;have zf:=fun i=>yZ _ _ i _ _ aw.X;refine rdH 9 fun K hK=> ?_;go_simp;refine(zh5 id (pl:Int) wz).mono ?_;rintro e w2 ⟨p,q,rfl,hb,cN,gL⟩;have G2:=za4 (GZ.X.below hb);have eX:Hid (w2.cell? ⟨p,0,none⟩=some (ze zd (pl:Int))/\w2.cell? ⟨q,0,none⟩=some (ze zd id)):=⟨cN,gL⟩;have PB:Hid (Below w2.heap.size w2 w2):=y5 _ _;have nu:=za4 (za0 hb (za2 aw.X) aw.X);clear hb cN gL
    (try go_wp2_with fail)
    refine hoW hK G2.X.cells fun aa=> ?_;clear hK K;refine rdH 10 fun K hK=> ?_;go_simp;refine(CH.X w2 w2 p q G2.X.b eX.X.1 eX.X.2 PB.X).mono ?_;rintro e w3 ⟨hb,ad,cg,rfl,ho⟩;rw[et.X,aX.X];have G3:=za4 (G2.X.below hb);have O3:Hid (w3.ownsRow W0.heap.size 2 1 (za ad xl cg) xl (xs.map (ze zd))):=by rw[aX.X]at ho;exact zb5 ho G2.X.b.size
    have eu:=za4 (za0 hb (za2 nu.X) nu.X);obtain⟨z0,z1⟩:=za1 eu.X;have zf:=fun i=>yZ _ _ i _ _ eu.X;clear hb ho
    (try go_wp2_with fail)
    refine hoW hK G3.X.cells fun aa=> ?_;clear hK K;refine tkH 11 aa ?_;refine tkH 12 aa ?_;refine tkH 13 aa ?_;refine tkH 14 aa ?_;refine rdH 16 fun K hK=> ?_;have G5:Hid (GB W0 ((w3.setCell ⟨kz,0,none⟩ (ze zd vv)).setCell ⟨kz,1,none⟩ (za ad xl cg)) pc pp ps #[ze zd n,za a zl ac,za ao ko co,za av kv cv,ze zd fine] (za ra nr rc) (za la ln lc) id ab pl):=(G3.X.set aH.X).set aH.X;have V5:Hid (((w3.setCell ⟨kz,0,none⟩ (ze zd vv)).setCell ⟨kz,1,none⟩ (za ad xl cg)).heap[kz]? =some (zg #[ze zd vv,za ad xl cg] 80 (0,0))):=by
     have s1:=xb w3 kz 0 _ _ (ze zd vv) eu.X;have s2:=xb _ kz 1 _ _ (za ad xl cg) s1;simp at s2;exact s2
    have O5:Hid (zk ((w3.setCell ⟨kz,0,none⟩ (ze zd vv)).setCell ⟨kz,1,none⟩ (za ad xl cg)) W0.heap.size 2 1 (za ad xl cg) xl (xs.map (ze zd))):=zd9 (zd9 O3.X eu.X) (by exact xb _ kz 0 _ _ _ eu.X);go_simp;refine hoW hK G5.X.cells fun aa=> ?_;clear hK K;generalize((w3.setCell ⟨kz,0,none⟩ _).setCell ⟨kz,1,none⟩ _)=w5 at*;refine tkH 17 aa ?_;refine tkH 18 aa ?_;refine qF (by kernel_rfl) ?_ _;clear aa
    (try go_wp2_with fail)
    go_meet;exact⟨kz,ad,cg,rfl,rfl,rfl,G5.X,V5.X,O5.X⟩
   refine xL rfl (fun K hK=> ?_) xP;have GZ:Hid (GB W0 (wd.alloc (zg #[ze zd 0,za none 0 0] 80)) pc pp ps #[ze zd n,za a zl ac,za ao ko co,za av kv cv,ze zd fine] (za ra nr rc) (za la ln lc) id ab pl):=GD.X.below (zP _);have aw:=za4 (zS wd (zg #[ze zd 0,za none 0 0] 80));have aH:Hid (W0.heap.size<=wd.heap.size):=GD.X.b.size;go_simp;refine hoW hK GZ.X.cells fun aa=> ?_;clear hK K;obtain⟨kz,cC⟩:=nmd wd.heap.size;rw[cC.X]at aw aH⊢;generalize(wd.alloc _)=wz at*;obtain⟨z0,z1⟩:=za1 aw.X;have zf:=fun i=>yZ _ _ i _ _ aw.X;refine rdH 4 fun K hK=> ?_;go_simp;refine(RO.X wz GZ.X.b).mono ?_;rintro e w1 ⟨rfl,hb⟩;have G1:=za4 (GZ.X.below hb);have fY:=za4 (za0 hb (za2 aw.X) aw.X);clear hb
   (try go_wp2_with fail)
   refine hoW hK G1.X.cells fun aa=> ?_;clear hK K;refine rdH 9 fun K hK=> ?_;go_simp;refine(zh5 id (pl:Int) w1).mono ?_;rintro e w2 ⟨p,q,rfl,hb,cN,gL⟩;have G2:=za4 (G1.X.below hb);have eX:Hid (w2.cell? ⟨p,0,none⟩=some (ze zd (pl:Int))/\w2.cell? ⟨q,0,none⟩=some (ze zd id)):=⟨cN,gL⟩;have PB:Hid (Below w2.heap.size w2 w2):=y5 _ _;have nu:=za4 (za0 hb (za2 fY.X) fY.X);clear hb cN gL
   (try go_wp2_with fail)
   refine hoW hK G2.X.cells fun aa=> ?_;clear hK K;refine rdH 10 fun K hK=> ?_;go_simp;refine(CH.X w2 w2 p q G2.X.b eX.X.1 eX.X.2 PB.X).mono ?_;rintro e w3 ⟨hb,ad,cg,rfl,ho⟩;rw[et.X,aX.X];have G3:=za4 (G2.X.below hb);have O3:Hid (w3.ownsRow W0.heap.size 2 1 (za ad xl cg) xl (xs.map (ze zd))):=by rw[aX.X]at ho;exact zb5 ho G2.X.b.size
   have eu:=za4 (za0 hb (za2 nu.X) nu.X);obtain⟨z0,z1⟩:=za1 eu.X;have zf:=fun i=>yZ _ _ i _ _ eu.X;clear hb ho
   (try go_wp2_with fail)
   refine hoW hK G3.X.cells fun aa=> ?_;clear hK K;refine tkH 11 aa ?_;refine tkH 12 aa ?_;refine tkH 13 aa ?_;refine tkH 14 aa ?_;refine rdH 16 fun K hK=> ?_;have G5:Hid (GB W0 ((w3.setCell ⟨kz,0,none⟩ (ze zd vv)).setCell ⟨kz,1,none⟩ (za ad xl cg)) pc pp ps #[ze zd n,za a zl ac,za ao ko co,za av kv cv,ze zd fine] (za ra nr rc) (za la ln lc) id ab pl):=(G3.X.set aH.X).set aH.X;have V5:Hid (((w3.setCell ⟨kz,0,none⟩ (ze zd vv)).setCell ⟨kz,1,none⟩ (za ad xl cg)).heap[kz]? =some (zg #[ze zd vv,za ad xl cg] 80 (0,0))):=by
    have s1:=xb w3 kz 0 _ _ (ze zd vv) eu.X;have s2:=xb _ kz 1 _ _ (za ad xl cg) s1;simp at s2;exact s2
   have O5:Hid (zk ((w3.setCell ⟨kz,0,none⟩ (ze zd vv)).setCell ⟨kz,1,none⟩ (za ad xl cg)) W0.heap.size 2 1 (za ad xl cg) xl (xs.map (ze zd))):=zd9 (zd9 O3.X eu.X) (by exact xb _ kz 0 _ _ _ eu.X);go_simp;refine hoW hK G5.X.cells fun aa=> ?_;clear hK K;generalize((w3.setCell ⟨kz,0,none⟩ _).setCell ⟨kz,1,none⟩ _)=w5 at*;refine tkH 17 aa ?_;refine tkH 18 aa ?_;refine qF (by kernel_rfl) ?_ _;clear aa
   (try go_wp2_with fail)
   go_meet;exact⟨kz,ad,cg,rfl,rfl,rfl,G5.X,V5.X,O5.X⟩
  case rest=>
   obtain⟨kz,ad,cg,rfl,rfl,rfl,Bq,m_,rX⟩:=hcut;obtain⟨w5,pY⟩:∃v,v=wc:=⟨_,rfl⟩;subst pY;have G5:=za4 Bq;have V5:=za4 m_;have O5:=za4 rX;clear Bq m_ rX;clear RO CH et;obtain⟨c0,c1,c2,c3,c4,p0,p1,-,-,-⟩:=G5.X.cells;obtain⟨k0,k1⟩:=za1 V5.X;have B5:=za4 (BQ.X.trans (G5.X.b.mono BQ.X.size));have tH:xs.length<=1000:=by
    rw[<-oD.X];show(insL (zc7 R ab).ids pl id).length<=1000;have h1:=yE7 (zc7 R ab).ids pl id;have h2:=z38 (fun r hr=>(HI.X r hr).2.1) ab;omega
   have WR:=zp3 ra la rc ln lc R ⟨vv,ad,xs,cg⟩ w5 (HP.X.2.2.1.below B5.X) (by rw[HN.X];exact hn) HS.X (by rw[HN.X];exact HP.X.2.2.2.2.1) tH;simp only[HN.X,aX.X]at WR
   go_wp2_with fail
   refine WR.mono ?_;rintro e w6 ⟨sl,rfl,ir,C'⟩;obtain⟨m6,Kc⟩:=nmd ((wrL R ⟨vv,ad,xs,cg⟩).length);rw[Kc.X]at C';obtain⟨jr,jJ,e⟩:=zp8 C';subst e;have G6:=za4 (G5.X.below ir);have O6:=za4 (zb9 O5.X ir);have R6:=za4 (zb5 C' G5.X.b.size);clear ir C' WR c0 c1 c2 c3 c4 p0 p1 k0 k1 B5;have G7:Hid (GB W0 (w6.alloc (zg #[za jr m6 jJ,za la ln lc] 33)) pc pp ps #[ze zd n,za a zl ac,za ao ko co,za av kv cv,ze zd fine] (za ra nr rc) (za la ln lc) id ab pl):=G6.X.below (zP _);have N7:=za4 (zS w6 (zg #[za jr m6 jJ,za la ln lc] 33));have O7:Hid (zk (w6.alloc (zg #[za jr m6 jJ,za la ln lc] 33)) W0.heap.size 2 1 (za ad xl cg) xl (xs.map (ze zd))):=O6.X.alloc _;have R7:Hid (zk (w6.alloc (zg #[za jr m6 jJ,za la ln lc] 33)) W0.heap.size 80 2 (za jr m6 jJ) m6 (zj5 (wrL R ⟨vv,ad,xs,cg⟩))):=R6.X.alloc _;have gP:Hid (W0.heap.size<=w6.heap.size):=G6.X.b.size;obtain⟨p0,p1⟩:=za1 G7.X.p;have B7:=za4 (BQ.X.trans (G7.X.b.mono BQ.X.size));have CL:=z45 la lc ln L (w6.alloc (zg #[za jr m6 jJ,za la ln lc] 33)) (HP.X.2.2.2.1.below B7.X) HM.X (by omega) HP.X.2.2.2.2.2.1
   go_wp2_with fail
   obtain⟨kn,pB⟩:=nmd w6.heap.size;rw[pB.X]at N7 gP⊢;generalize w6.alloc _=w7 at*;refine CL.mono ?_;rintro e w8 ⟨sl,rfl,iE,jK⟩;have G8:=za4 (G7.X.below iE);have N8:=za4 (za0 iE (za2 N7.X) N7.X);have O8:=za4 (zb9 O7.X iE);have R8:=za4 (zb9 R7.X iE);have eN:Hid ((∀k,(za ad xl cg).ownBlock=some k->k<w7.heap.size)/\(∀k,(za jr m6 jJ).ownBlock=some k->k<w7.heap.size)/\kn<w7.heap.size):=⟨fun k e=>(O7.X.lt k e).2,fun k e=>(R7.X.lt k e).2,za2 N7.X⟩;have CF:=yf2 sl ln w7.heap.size ps L id w8 jK HM.X (by omega) iE.size (zv9 G8.X.s).1 (by have:=G7.X.l.2.2;have:=G7.X.b.size;omega);have vu:Hid (W0.heap.size<=w7.heap.size):=G7.X.b.size;clear CL p0 p1 jK iE
   go_wp2_with fail
   refine CF.mono ?_;rintro e w9 ⟨QF,rfl,mo,iN⟩;obtain⟨m8,IG⟩:=nmd ((zm9 L id).length);rw[IG.X]at iN;obtain⟨ki,kF,e⟩:=zp8 iN;subst e;have N9:=za4 (za0 mo eN.X.2.2 N8.X);have O9:=za4 (zu6 O8.X mo eN.X.1);have R9:=za4 (zu6 R8.X mo eN.X.2.1);have L9:=za4 iN;have B9:=za4 (G8.X.b.trans (mo.mono vu.X));have A9:=za4 (za0 B9.X (za2 OQ.X) OQ.X);obtain⟨n0,n1⟩:=za1 N9.X;have nf:=fun i=>yZ _ _ i _ _ N9.X;have NS:Hid ((w9.setCell ⟨kn,1,none⟩ (za ki m8 kF)).heap[kn]? =some (zg #[za jr m6 jJ,za ki m8 kF] 33 (0,0))):=by
    have s1:=xb w9 kn 1 _ _ (za ki m8 kF) N9.X;simp at s1;exact s1
   have AS:Hid ((w9.setCell ⟨kn,1,none⟩ (za ki m8 kF)).heap[pp+1]? =some (zg #[za none 0 0,za none 0 0] 33 (0,0))):=za8 A9.X (by have:=za2 OQ.X;have:=gP.X;omega);have OS:=zf8 (i:=1) (u:=za ki m8 kF) O9.X N9.X (by decide);have RS:=zf8 (i:=1) (u:=za ki m8 kF) R9.X N9.X (by decide);have Hi:=zf8 (i:=1) (u:=za ki m8 kF) L9.X N9.X (by decide);have OR:Hid (Below w.heap.size w (w9.setCell ⟨kn,1,none⟩ (za ki m8 kF))):=(BQ.X.trans (B9.X.mono BQ.X.size)).setCell (by have:=BQ.X.size;have:=gP.X;simp;omega) _;have OS:Hid _:=OS;have RS:Hid _:=RS;have Hi:Hid _:=Hi;clear mo iN CF;obtain⟨a0,a1⟩:=za1 AS.X;have af:=fun i=>yZ _ _ i _ _ AS.X;obtain⟨s0,s1⟩:=za1 NS.X
   go_wp2_with fail
   generalize w9.setCell ⟨kn,1,none⟩ _=wf at*;go_wp2;refine xe (v:=.tuple #[.agg #[za jr m6 jJ,za ki m8 kF],.bool true]) (by simp[results,Tryz.results124,go_sem,a0,a1]) rfl ?_;show yv5 _ _ _ _ _ _ _;have e1:LX=zm9 L id:=eh.X;have e2:RX=wrL R (oneT R (id,ab,pl)):=jM.X;have pS:Below w.heap.size w ((wf.setCell ⟨pp+1,0,none⟩ (za jr m6 jJ)).setCell ⟨pp+1,1,none⟩ (za ki m8 kF)):=(OR.X.setCell (by have:=mj.X;simp;omega) _).setCell (by have:=mj.X;simp;omega) _;have FW:=xb wf (pp+1) 0 _ _ (za jr m6 jJ) AS.X;have OF:=zf8 (i:=1) (u:=za ki m8 kF) (zf8 (i:=0) (u:=za jr m6 jJ) OS.X AS.X (by decide)) FW (by decide);have RF:=zf8 (i:=1) (u:=za ki m8 kF) (zf8 (i:=0) (u:=za jr m6 jJ) RS.X AS.X (by decide)) FW (by decide);have LF:=zf8 (i:=1) (u:=za ki m8 kF) (zf8 (i:=0) (u:=za jr m6 jJ) Hi.X AS.X (by decide)) FW (by decide);have IX:za3 ((wf.setCell ⟨pp+1,0,none⟩ (za jr m6 jJ)).setCell ⟨pp+1,1,none⟩ (za ki m8 kF)) ad xs:=zl1 OF;have bH:∀r∈wrL R ⟨vv,ad,xs,cg⟩,r∈R∨r=⟨vv,ad,xs,cg⟩:=fun r hr=>zw4 hr;refine⟨jr,m6,jJ,ki,m8,kF,wrL R ⟨vv,ad,xs,cg⟩,rfl,pS,⟨Kc.X,by rw[e1];exact IG.X,zl8 RF (fun r hr=> ?_),by rw[e1];exact zl1 LF,z88 RF,z88 LF,fun r hr=> ?_⟩,?_,fun k hk h=>⟨fun _=>yc2 RF (by have:=BQ.X.size;omega),fun _=>yc2 LF (by have:=BQ.X.size;have:=vu.X;omega),fun r hr aq b off e=> ?_⟩⟩
   ·rcases bH r hr with h|h
    ·obtain⟨j,hj,rfl⟩:=zo4 h
     obtain⟨_,_,_,_,_,h2⟩:=HP.X.2.2.1 j hj;exact h2.below pS
    ·rw[h];exact IX
   ·rcases bH r hr with h|h
    ·exact HP.X.2.2.2.2.2.2 r h
    ·rw[h]
     show xs.length<=cg;rw[aX.X];exact yk9 OF
   ·rw[e2]
    refine z80 rfl ?_;show(vv,xs)=(ab,insL (zc7 R ab).ids pl id);rw[vr.X,<-oD.X];rfl
   ·rcases bH r hr with h9|h9
    ·exact h.2.2 r h9 aq b off e
    ·rw[h9]at e
     exact yc2 OF (by have:=BQ.X.size;omega) b off e
def yt1(W:zi)(k:Nat):Nat:=match W.cell? ⟨k,1,none⟩with
 |some (za _ n _)=>n
 |_=>0
def yM1(t:Value)(n:Nat):Nat:=match t with
 | .bool true=>n
 |_=>0
def ye9(w:zi)(K:Nat->Prop)(T:List RT)(L:List Int)(e:Ending)(w':zi):Prop:=∃ra rn rc la ln lc R,e=.returned (.agg #[za ra rn rc,za la ln lc])/\Below w.heap.size w w'/\zc3 w' ra la rn ln R L/\R.map RT.key=T.map RT.key/\(∀r∈R,r.ids≠[]/\r.ids.length<=12)/\rn<=100/\ln<=12/\∀k,k<w.heap.size->K k->zi8 k ra la R L
theorem yd6(n fine:Int)(a ao av ra la:Option Addr)(zl ac ko co kv cv nr rc ln lc:Nat)(zs os vs L:List Int)(R:List RT)(w:zi)(hA:za3 w a zs)(hO:za3 w ao os)(hV:za3 w av vs)(aO:zs.length=zl)(an:os.length=ko*6)(au:vs.length=kv*5)(ay:ko<=12)(aB:kv<=5)(bT:zd0 n zs os vs ko kv fine=true)(hP:zc3 w ra la nr ln R L)(hn:nr<=12)(gz:ln<=12)(hS:zf7 R)(hi:zw3 R):
 Calls Tryz.prog 82 #[.agg #[ze zd n,za a zl ac,za ao ko co,za av kv cv,ze zd fine],.agg #[za ra nr rc,za la ln lc]] w (ye9 w (fun k=>zi8 k ra la R L) (grd n fine zs os vs ko kv L.length R L).1 (grd n fine zs os vs ko kv L.length R L).2):=by
 have HA:=za4 hA;have HO:=za4 hO;have HV:=za4 hV;have cm:=za4 aO;have aF:=za4 an;have aD:=za4 au;have cZ:=za4 bT;have HP:=za4 hP;have HS:=za4 hS;have HI:=za4 hi;have vy:Hid (∀k,w.heap.size<=k->zi8 k ra la R L):=fun k hk=>hP.far hk;clear hA hO hV aO an au bT hP hS hi;obtain⟨TR,pt⟩:=nmd ((grd n fine zs os vs ko kv L.length R L).1);obtain⟨TL,dR⟩:=nmd ((grd n fine zs os vs ko kv L.length R L).2);rw[pt.X,dR.X];have Q0:Hid (GQ w (((w.alloc (zg #[ze zd n,za a zl ac,za ao ko co,za av kv cv,ze zd fine] 30)).alloc (zg #[za ra nr rc,za la ln lc] 33)).alloc (zg #[za none 0 0,za none 0 0] 33)) #[ze zd n,za a zl ac,za ao ko co,za av kv cv,ze zd fine] #[za ra nr rc,za la ln lc]):=by
  refine⟨((zP _).alloc (by simp) _).alloc (by simp;omega) _,?_,?_,?_⟩
  ·exact(xg _ _ (by simp;omega)).trans (xm _ _ _)
  ·exact(xg _ _ (by simp)).trans (xh _ _ _)
  ·have:=zS ((w.alloc (zg #[ze zd n,za a zl ac,za ao ko co,za av kv cv,ze zd fine] 30)).alloc (zg #[za ra nr rc,za la ln lc] 33)) (zg #[za none 0 0,za none 0 0] 33)
   simpa using this
 have ku:=za4 (HP.X.below Q0.X.b);go_enter Tryz.func82,Tryz.ntmps82
 go_wp2_with fail
 generalize((w.alloc _).alloc _).alloc _=W0 at*;go_loopw[5] (fun t wr=>∃(m:Bool) (aN cS:Option Addr) (bK be bq dN:Nat) (R9:List RT) (L9:List Int),t=.bool m/\GQ w wr #[ze zd n,za a zl ac,za ao ko co,za av kv cv,ze zd fine] #[za aN bK be,za cS bq dN]/\zc3 wr aN cS bK bq R9 L9/\zi8 (w.heap.size+1) aN cS R9 L9/\zi8 (w.heap.size+2) aN cS R9 L9/\(∀k,k<w.heap.size->zi8 k ra la R L->zi8 k aN cS R9 L9)/\bK+bq<=24/\bq<=12/\zf7 R9/\zw3 R9/\(m=true->(grd n fine zs os vs ko kv L9.length R9 L9).1.map RT.key=TR.map RT.key/\(grd n fine zs os vs ko kv L9.length R9 L9).2=TL)/\(m=false->R9.map RT.key=TR.map RT.key/\L9=TL)) (fun t wr=>yM1 t (yt1 wr (w.heap.size+1)+1))
 case atStart=>exact⟨true,ra,la,nr,rc,ln,lc,R,L,rfl,Q0.X,ku.X,vy.X _ (by omega),vy.X _ (by omega),fun _ _ h=>h,by omega,gz,HS.X,HI.X,fun _=>⟨by rw[pt.X],dR.X⟩,fun h=>by cases h⟩
 case round=>
  clear Q0 ku HP HS HI vy;obtain⟨m,aN,cS,bK,be,bq,dN,R9,L9,rfl,hq,hp,gR,fa,gi,Pq,bF,hs,hi,ht,hf⟩:=hrel;have Q1:=za4 hq;have P1:=za4 hp;have F1:Hid (zi8 (w.heap.size+1) aN cS R9 L9/\zi8 (w.heap.size+2) aN cS R9 L9/\(∀k,k<w.heap.size->zi8 k ra la R L->zi8 k aN cS R9 L9)):=⟨gR,fa,gi⟩;have S1:=za4 hs;have I1:=za4 hi;have HT:=za4 ht;have HF:=za4 hf;clear hq hp hs hi ht hf gR fa gi;obtain⟨c0,c1,c2,c3,c4⟩:=za7 Q1.X.c;obtain⟨p0,p1⟩:=za1 Q1.X.p;cases m
  ·obtain⟨a0,a1⟩:=za1 Q1.X.o
   have af:=fun i=>yZ _ _ i _ _ Q1.X.o;obtain⟨hk,hl⟩:=HF.X rfl;have HK:=za4 hk;have eN:=za4 hl;clear hk hl;go_wp2;refine xe (v:=.agg #[za aN bK be,za cS bq dN]) (by simp[results,Tryz.results82,go_sem,a0,a1]) rfl ?_;show ye9 _ _ _ _ _ _;have pS:Below w.heap.size w ((wr.setCell ⟨w.heap.size+2,0,none⟩ (za aN bK be)).setCell ⟨w.heap.size+2,1,none⟩ (za cS bq dN)):=(Q1.X.b.setCell (by simp) _).setCell (by simp) _;refine⟨aN,bK,be,cS,bq,dN,R9,rfl,pS,by rw[<-eN.X];exact(P1.X.offL F1.X.2.1).offL F1.X.2.1,HK.X,fun r hr=>⟨(I1.X r hr).1,(I1.X r hr).2.1⟩,by omega,bF,by rw[<-eN.X];exact F1.X.2.2⟩
  ·have G1:=zT6 n fine a ao av aN cS zl ac ko co kv cv bK be bq dN zs os vs L9 R9 wr (HA.X.below Q1.X.b) (HO.X.below Q1.X.b) (HV.X.below Q1.X.b) cm.X aF.X aD.X ay aB cZ.X P1.X (by omega) bF S1.X I1.X
   obtain⟨jo,gm⟩:=HT.X rfl;have eU:=yj9 n fine zs os vs ko kv (R:=R9) (L:=L9);have eT:=fun h=>zy4 n fine zs os vs ko kv (R:=R9) (L:=L9) h;have bd:=yB5 (n:=n) (fine:=fine) (zs:=zs) (os:=os) (vs:=vs) (ko:=ko) (kv:=kv) (L:=L9) I1.X (by rw[P1.X.1];omega) (by rw[P1.X.2.1];omega);have jW:=zZ3 n fine zs os vs ko kv (L:=L9) S1.X;rw[P1.X.1]at eU;rw[P1.X.2.1]at eT;obtain⟨f,jB⟩:=nmd ((zx5 n fine zs os vs ko kv R9 L9).f);obtain⟨RX,gF⟩:=nmd (zB5 n fine zs os vs ko kv R9 L9);obtain⟨LX,gG⟩:=nmd (zD5 n fine zs os vs ko kv R9 L9);have dD:Hid (f=true->(grd n fine zs os vs ko kv LX.length RX LX).1.map RT.key=TR.map RT.key/\(grd n fine zs os vs ko kv LX.length RX LX).2=TL):=fun h=>by
    rw[yi0 n fine zs os vs ko kv (jB.X.trans h),gF.X,gG.X]at jo gm;exact⟨jo,gm⟩
   have pD:Hid (f=false->RX.map RT.key=TR.map RT.key/\LX=TL):=fun h=>by
    rw[yi7 n fine zs os vs ko kv (jB.X.trans h)]at jo gm;have e1:RX=R9:=by rw[<-gF.X];unfold zB5;rw[jB.X,h];rfl
    have e2:LX=L9:=by rw[<-gG.X];unfold zD5;rw[jB.X,h];rfl
    rw[e1,e2];exact⟨jo,gm⟩
   have iR:Hid (LX.length<=bq/\(f=true->LX.length<bq)):=by
    refine⟨?_,fun h=>by rw[<-gG.X];exact eT (jB.X.trans h)⟩;rw[<-gG.X];cases h:f
    ·unfold zD5;rw[jB.X,h];exact Nat.le_of_eq P1.X.2.1
    ·exact Nat.le_of_lt (eT (jB.X.trans h))
   have m3:Hid (RX.length<=bK+1/\(f=false->RX.length=bK)):=by
    rw[<-gF.X];exact⟨eU,fun h=>by unfold zB5;rw[jB.X,h];exact P1.X.1⟩
   rw[jB.X,gF.X,gG.X]at G1;rw[gF.X]at bd jW;have f':=za4 (bd.1);have eR:=za4 jW;clear jo gm eU eT bd jW HT HF jB gF gG
   go_wp2_with fail
   refine G1.mono ?_;rintro e w2 ⟨ag,ew,ai,ak,dP,aj,R2,rfl,hb,dM,cO,cX⟩;have bU:=Q1.X.size;have Q2:=za4 (Q1.X.below hb);have P2:=za4 dM;have F2:Hid (zi8 (w.heap.size+1) ag ak R2 LX/\zi8 (w.heap.size+2) ag ak R2 LX/\(∀k,k<w.heap.size->zi8 k ra la R L->zi8 k ag ak R2 LX)):=⟨cX _ (by omega) F1.X.1,cX _ (by omega) F1.X.2.1,fun k hk h=>cX k (by omega) (F1.X.2.2 k hk h)⟩;have dZ:=za4 cO;have gu:ew=RX.length:=by rw[<-dM.1];have:=congrArg List.length cO;simpa using this
   have jx:dP=LX.length:=dM.2.1.symm;have tG:ew+dP<=24/\dP<=12/\(f=true->dP<bq):=by
    have h1:=iR.X;have h2:=m3.X;rw[gu,jx];cases f
    ·have:=h2.2 rfl;exact⟨by omega,by omega,fun h=>by cases h⟩
    ·have:=h1.2 rfl;exact⟨by omega,by omega,fun _=>this⟩
   have dW:Hid (yt1 wr (w.heap.size+1)=bq):=by show _=_;unfold yt1;rw[p1]
   clear hb dM cO cX G1 c0 c1 c2 c3 c4 p0 p1 gu jx;obtain⟨p0,p1⟩:=za1 Q2.X.p;have pf:=fun i=>yZ _ _ i _ _ Q2.X.p;have s1:=xb w2 (w.heap.size+1) 0 _ _ (za ag ew ai) Q2.X.p;have s2:=xb _ (w.heap.size+1) 1 _ _ (za ak dP aj) s1;simp at s2;have Q3:Hid (GQ w ((w2.setCell ⟨w.heap.size+1,0,none⟩ (za ag ew ai)).setCell ⟨w.heap.size+1,1,none⟩ (za ak dP aj)) #[ze zd n,za a zl ac,za ao ko co,za av kv cv,ze zd fine] #[za ag ew ai,za ak dP aj]):=⟨(Q2.X.b.setCell (by simp) _).setCell (by simp) _,za8 (za8 Q2.X.c (by omega)) (by omega),s2,za8 (za8 Q2.X.o (by omega)) (by omega)⟩;have P3:=za4 ((P2.X.offL F2.X.1).offL F2.X.1);have ns:Hid (yt1 ((w2.setCell ⟨w.heap.size+1,0,none⟩ (za ag ew ai)).setCell ⟨w.heap.size+1,1,none⟩ (za ak dP aj)) (w.heap.size+1)=dP):=by show _=_;unfold yt1;rw[(za1 s2).2]
   clear s1 s2;obtain⟨mW,nY,nB⟩:=tG;go_wp2;go_roundw
   case rel=>exact⟨f,ag,ak,ew,ai,dP,aj,R2,LX,rfl,Q3.X,P3.X,F2.X.1,F2.X.2.1,F2.X.2.2,mW,nY,yb0 dZ.X eR.X,fun r hr=>⟨(z12 dZ.X f'.X r hr).1,(z12 dZ.X f'.X r hr).2,P3.X.2.2.2.2.2.2 r hr⟩,fun h=>by obtain⟨h1,h2⟩:=dD.X h;obtain⟨h3,h4⟩:=z77 n fine zs os vs ko kv LX.length LX dZ.X;exact⟨h3.trans h1,h4.trans h2⟩,fun h=>by obtain⟨h1,h2⟩:=pD.X h;exact⟨dZ.X.trans h1,h2⟩⟩
   case measure=>
    rw[dW.X,ns.X];cases f
    ·show 0<bq+1;omega
    ·have:=nB rfl;show dP+1<bq+1;omega
