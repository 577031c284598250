import Derived.Test.YtkchnomkiboihaaGreatPack32
import Derived.Test.YtkchnomkiboihaaGreatPack39
import Derived.Test.YtkchnomkiboihaaGreatCutFunc
set_option linter.unusedSimpArgs false
set_option maxHeartbeats 4000000
set_option maxRecDepth 10000
namespace Go.Proofs.YtkchnomkiboihaaGreat
open RowKit renaming Below→Za,Hid→Zb
open Value renaming slice→za,int→ze
open IntKind renaming i64→zd
open Obj renaming cells→zg
open Go renaming World→zi
open World renaming ownsRow→zk
open Go.RowKit
open Q
theorem yE8(ids:List Int)(k:Nat)(x:Int):(insL ids k x).length<=ids.length+1:=by
 unfold insL;simp;omega
def y26(w:zi)(f:Bool)(S:List RT)(L:List Int)(K:Nat->Prop)(e:Ending)(w':zi):Prop:=∃ra rn rc la ln lc R,e=.returned (.tuple #[.agg #[za ra rn rc,za la ln lc],.bool f])/\Za w.heap.size w w'/\zc3 w' ra la rn ln R L/\R.map RT.key=S.map RT.key/\∀k,k<w.heap.size->K k->zi8 k ra la R L
theorem ye6{w:zi}{base size n rc k:Nat}{e:TypeId}{ra:Option Addr}{xs:List Value}(h:w.ownsRow base e size (za ra n rc) n xs)(hk:k<base):∀b off,ra=some ⟨b,off,none⟩->b≠k:=fun b off e9=>by
 rcases own_kinds h with⟨e1,_⟩|⟨g,c,e1,h2,_⟩
 ·simp only[qA]at e1
  rw[e1.1]at e9;cases e9
 ·simp only[qA]at e1
  rw[e1.1]at e9;simp only[jf,qg,qt]at e9;omega
theorem zQ3(n fine:Int)(a ao av ra la:Option Addr)(zl ac ko co kv cv nr rc ln lc:Nat)(zs os vs L:List Int)(R:List RT)(w:zi)(hA:za3 w a zs)(hO:za3 w ao os)(hV:za3 w av vs)(aN:zs.length=zl)(an:os.length=ko*6)(au:vs.length=kv*5)(aA:ko<=12)(aB:kv<=5)(bU:zd0 n zs os vs ko kv fine=true)(hP:zc3 w ra la nr ln R L)(hn:nr<=100)(gh:ln<=12)(hS:zf7 R)(hi:zw3 R):
 Calls Tryz.prog 124 #[.agg #[ze zd n,za a zl ac,za ao ko co,za av kv cv,ze zd fine],.agg #[za ra nr rc,za la ln lc]] w (y26 w (zy2 n fine zs os vs ko kv R L).f (zC4 n fine zs os vs ko kv R L) (zD4 n fine zs os vs ko kv R L) (fun k=>zi8 k ra la R L)):=by
 have HA:=za4 hA;have HO:=za4 hO;have HV:=za4 hV;have ck:=za4 aN;have aF:=za4 an;have aE:=za4 au;have cU:=za4 bU;have HP:=za4 hP;have HS:=za4 hS;have HI:=za4 hi;have HN:Zb (R.length=nr):=hP.1;have HM:Zb (L.length=ln):=hP.2.1;clear hA hO hV aN an au bU hP hS hi;obtain⟨s0,gO⟩:=nmd (zy2 n fine zs os vs ko kv R L);have GJ:Zb (qst (gOk n fine zs os vs ko kv R) (gD n zs os vs ko kv R) (sp3 R vs kv L ln)=s0):=by
  show _=_;rw[<-gO.X,<-HM.X];rfl
 obtain⟨RX,gE⟩:=nmd (zC4 n fine zs os vs ko kv R L);obtain⟨LX,gF⟩:=nmd (zD4 n fine zs os vs ko kv R L);have jG:Zb (RX=if s0.f then wrL R (oneT R s0.s)else R):=by show _=_;rw[<-gE.X];unfold zC4;rw[gO.X]
 have ec:Zb (LX=if s0.f then zl5 L s0.s.1 else L):=by show _=_;rw[<-gF.X];unfold zD4;rw[gO.X]
 have fT:Zb (s0.f=true->gB n zs os vs ko kv R s0.s=true):=fun h=>by
  have h1:=zz9 (ok:=gOk n fine zs os vs ko kv R) (dl:=gD n zs os vs ko kv R) (sp3 R vs kv L ln);rw[GJ.X]at h1;have h2:=(h1 h).2.1;unfold gOk at h2;exact(zY _ _▸h2).1
 rw[gO.X,gE.X,gF.X];have Q0:Zb (GQ w (((w.alloc (zg #[ze zd n,za a zl ac,za ao ko co,za av kv cv,ze zd fine] 30)).alloc (zg #[za ra nr rc,za la ln lc] 33)).alloc (zg #[za none 0 0,za none 0 0] 33)) #[ze zd n,za a zl ac,za ao ko co,za av kv cv,ze zd fine] #[za ra nr rc,za la ln lc]):=by
  refine⟨((zP _).alloc (by simp) _).alloc (by simp;omega) _,?_,?_,?_⟩
  ·exact(xg _ _ (by simp;omega)).trans (xm _ _ _)
  ·exact(xg _ _ (by simp)).trans (xh _ _ _)
  ·have:=zS ((w.alloc (zg #[ze zd n,za a zl ac,za ao ko co,za av kv cv,ze zd fine] 30)).alloc (zg #[za ra nr rc,za la ln lc] 33)) (zg #[za none 0 0,za none 0 0] 33)
   simpa using this
 have SF:=zA6 n fine a ao av ra la la zl ac ko co kv cv rc ln lc lc vs L R (((w.alloc (zg #[ze zd n,za a zl ac,za ao ko co,za av kv cv,ze zd fine] 30)).alloc (zg #[za ra nr rc,za la ln lc] 33)).alloc (zg #[za none 0 0,za none 0 0] 33)) (HV.X.below Q0.X.b) aE.X aB (HP.X.2.2.1.below Q0.X.b) (by rw[HN.X];exact hn) HS.X (fun r hr=>(HI.X r hr).2.1) (HP.X.2.2.2.1.below Q0.X.b) (by rw[HM.X];exact gh);rw[HN.X,HM.X]at SF;obtain⟨c0,c1,c2,c3,c4⟩:=za7 Q0.X.c;obtain⟨p0,p1⟩:=za1 Q0.X.p;go_enter Tryz.func124,Tryz.ntmps124
 go_wp2_with fail
 generalize((w.alloc _).alloc _).alloc _=W0 at*;refine SF.mono ?_;rintro e w1 ⟨sl,rfl,hb,ho⟩;obtain⟨sa,sc,e⟩:=zp4 ho;subst e;have Q1:=za4 (Q0.X.below hb);have S1:Zb (za3 w1 sa (spF (sp3 R vs kv L ln))):=yk1 ho;have bh:=zR5 (fun r hr=>(HI.X r hr).2.1) vs aB L ln;have LG:=zH7 sa sc w.heap.size (w.heap.size+1) (sp3 R vs kv L ln) (gOk n fine zs os vs ko kv R) (gD n zs os vs ko kv R) w1 S1.X (by omega) (fun W id ab pl hW=>by
  have QW:GQ w W #[ze zd n,za a zl ac,za ao ko co,za av kv cv,ze zd fine] #[za ra nr rc,za la ln lc]:=Q1.X.below hW;exact yb7 n fine a ao av ra la zl ac ko co kv cv nr rc ln lc zs os vs R W (HA.X.below QW.b) (HO.X.below QW.b) (HV.X.below QW.b) ck.X aF.X aE.X (by omega) (by omega) cU.X (HP.X.2.2.1.below QW.b) HN.X hn HS.X HI.X id ab pl _ _ QW.c QW.p) s0 GJ.X
 obtain⟨f,⟨id,ab,pl⟩,v⟩:=s0;simp only at LG jG ec fT;clear hb ho SF c0 c1 c2 c3 c4 p0 p1 Q0 GJ gO
 go_wp2_with fail
 refine LG.mono ?_;rintro e w2 ⟨rfl,hb⟩;have Q2:=za4 (Q1.X.below hb);clear hb LG Q1 S1 bh;have QA:Zb (GQ w (w2.alloc (zg #[ze zd id,ze zd ab,ze zd (pl:Int)] 129)) #[ze zd n,za a zl ac,za ao ko co,za av kv cv,ze zd fine] #[za ra nr rc,za la ln lc]):=Q2.X.below (zP _);have SA:=za4 (zS w2 (zg #[ze zd id,ze zd ab,ze zd (pl:Int)] 129));obtain⟨p0,p1⟩:=za1 QA.X.p;obtain⟨o0,o1⟩:=za1 QA.X.o;have of:=fun i=>yZ _ _ i _ _ QA.X.o;cases f
 ·go_wp2
  refine xe (v:=.tuple #[.agg #[za ra nr rc,za la ln lc],.bool false]) (by simp[results,Tryz.results124,go_sem,o0,o1]) rfl ?_;show y26 _ _ _ _ _ _ _;have e1:LX=L:=ec.X;have e2:RX=R:=jG.X;rw[e1,e2];refine⟨ra,nr,rc,la,ln,lc,R,rfl,?_,?_,rfl,fun k _ h=>h⟩
  ·repeat(first|with_reducible exact QA.X.b|refine xq ?_ (by simp<;>omega) _)
  ·refine HP.X.below ?_
   repeat(first|with_reducible exact QA.X.b|refine xq ?_ (by simp<;>omega) _)
 ·have Gk:=fT.X rfl
  obtain⟨dd,bk⟩:=nmd (gD n zs os vs ko kv R (id,ab,pl));obtain⟨xs,oP⟩:=nmd (chL true (insL (zc7 R ab).ids pl id));obtain⟨vv,et⟩:=nmd (chI true ab);obtain⟨xl,aY⟩:=nmd xs.length;have vN:Zb (vv=ab):=by show _=_;rw[<-et.X];rfl
  have pF:=ym2 n fine a ao av ra ac ko co kv cv zs os vs R (w2.alloc (zg #[ze zd id,ze zd ab,ze zd (pl:Int)] 129)) (HA.X.below QA.X.b) (HO.X.below QA.X.b) (HV.X.below QA.X.b) aF.X aE.X (by omega) (by omega) cU.X (HP.X.2.2.1.below QA.X.b) HI.X id ab pl true Gk dd bk.X xs oP.X;have pj:∀W,Za (w2.alloc (zg #[ze zd id,ze zd ab,ze zd (pl:Int)] 129)).heap.size (w2.alloc (zg #[ze zd id,ze zd ab,ze zd (pl:Int)] 129)) W->_:=fun W hW=>zn7 ra la rc ln lc R ab W ((HP.X.2.2.1.below QA.X.b).below hW) (by rw[HN.X];omega) HS.X
  rw[HN.X]at pj;rw[ck.X]at pF;have G0:=za4 (GB.new QA.X.c QA.X.p SA.X);obtain⟨rl,cu⟩:=nmd ((zc7 R ab).ids.length);obtain⟨aO,pN⟩:=nmd ((zc7 R ab).a);obtain⟨bg,bw⟩:=nmd ((zc7 R ab).c);rw[cu.X,pN.X,bw.X]at pj pF;have RO:Zb _:=pj;have CH:Zb _:=pF;have QZ:Zb (w.heap.size+3<=w2.heap.size):=Q2.X.size;have OQ:=za4 (QA.X.o);have BQ:=za4 (QA.X.b);clear pj pF Q2 QA SA p0 p1 o0 o1 of fT Gk bk;go_upto_region 4 with fail;obtain⟨ps,Hj⟩:=nmd w2.heap.size;obtain⟨pp,l_⟩:=nmd (w.heap.size+1);obtain⟨pc,iq⟩:=nmd w.heap.size;rw[Hj.X]at G0⊢;rw[l_.X]at G0⊢;generalize w2.alloc _=W0 at*;have GO:=za4 (G0.X);clear G0;have G0:=GO;rw[iq.X]at G0⊢;have vq:Zb (w.heap.size+2=pp+1):=by show _=_;have:=l_.X;omega
  rw[vq.X]at OQ;go_cut [9,10,11]from 27 to 41 (fun s9 wD wC wx=>∃(kz:Nat) (ad:Option Addr) (cg:Nat),s9=.pointer (some ⟨kz,0,none⟩)/\wD=ze zd dd/\wC=.bool true/\GB W0 wx pc pp ps #[ze zd n,za a zl ac,za ao ko co,za av kv cv,ze zd fine] (za ra nr rc) (za la ln lc) id ab pl/\wx.heap[kz]? =some (zg #[ze zd vv,za ad xl cg] 80 (0,0))/\wx.ownsRow W0.heap.size 2 1 (za ad xl cg) xl (xs.map (ze zd)))
  case first=>
   go_wp2_with fail
   refine qG (S:=(fun W=>W.cell? ⟨pc,0,none⟩=some (ze zd n)/\W.cell? ⟨pc,1,none⟩=some (za a zl ac)/\W.cell? ⟨pc,2,none⟩=some (za ao ko co)/\W.cell? ⟨pc,3,none⟩=some (za av kv cv)/\W.cell? ⟨pc,4,none⟩=some (ze zd fine)/\W.cell? ⟨pp,0,none⟩=some (za ra nr rc)/\W.cell? ⟨pp,1,none⟩=some (za la ln lc)/\W.cell? ⟨ps,0,none⟩=some (ze zd id)/\W.cell? ⟨ps,1,none⟩=some (ze zd ab)/\W.cell? ⟨ps,2,none⟩=some (ze zd (pl:Int)))) (by kernel_rfl) ?_ fun aa=> ?_
   ·exact(G0.X.below (y5 _ _).drew).cells
   have GD:=za4 (G0.X.below (y5 _ _).drew);generalize W0.drew=wd at*;refine tkH 0 aa ?_;refine tkH 1 aa ?_;refine tkH 2 aa ?_;refine tkH 3 aa ?_;refine tkH 5 aa ?_;refine tkH 6 aa ?_;refine tkH 7 aa ?_;refine tkH 8 aa ?_;refine xQ (rs:=[4,15]) (by kernel_rfl) (by simp) ?_;refine xL rfl (fun K hK=> ?_) ?_
   ·skip
    go_simp;refine(RO.X wd GD.X.b).mono ?_;rintro e w1 ⟨rfl,hb⟩;have G1:=za4 (GD.X.below hb);clear hb
    (try go_wp2_with fail)
    refine hoW hK G1.X.cells fun aa=> ?_;clear hK K;refine xQ (rs:=[9,15]) (by kernel_rfl) (by simp) ?_;refine xL rfl (fun K hK=> ?_) ?_
    ·skip
     go_simp;refine(zh6 id (pl:Int) w1).mono ?_;rintro e w2 ⟨p,q,rfl,hb,cP,gM⟩;have G2:=za4 (G1.X.below hb);have eR:Zb (w2.cell? ⟨p,0,none⟩=some (ze zd (pl:Int))/\w2.cell? ⟨q,0,none⟩=some (ze zd id)):=⟨cP,gM⟩;have PB:Zb (Za w2.heap.size w2 w2):=y5 _ _;clear hb cP gM
     (try go_wp2_with fail)
     refine hoW hK G2.X.cells fun aa=> ?_;clear hK K;refine xQ (rs:=[10,15]) (by kernel_rfl) (by simp) ?_;refine xL rfl (fun K hK=> ?_) ?_
     ·skip
      go_simp;refine(CH.X w2 w2 p q G2.X.b eR.X.1 eR.X.2 PB.X).mono ?_;rintro e w3 ⟨hb,ad,cg,rfl,ho⟩;rw[et.X,aY.X];have G3:=za4 (G2.X.below hb);have O3:Zb (w3.ownsRow W0.heap.size 2 1 (za ad xl cg) xl (xs.map (ze zd))):=by rw[aY.X]at ho;exact zb5 ho G2.X.b.size
      clear hb ho
      (try go_wp2_with fail)
      refine hoW hK G3.X.cells fun aa=> ?_;clear hK K;refine tkH 11 aa ?_;refine tkH 12 aa ?_;refine tkH 13 aa ?_;refine tkH 14 aa ?_;refine rdH 15 fun K hK=> ?_;have GZ:Zb (GB W0 (w3.alloc (zg #[ze zd 0,za none 0 0] 80)) pc pp ps #[ze zd n,za a zl ac,za ao ko co,za av kv cv,ze zd fine] (za ra nr rc) (za la ln lc) id ab pl):=G3.X.below (zP _);have aw:=za4 (zS w3 (zg #[ze zd 0,za none 0 0] 80));have aH:Zb (W0.heap.size<=w3.heap.size):=G3.X.b.size;have OZ:Zb (zk (w3.alloc (zg #[ze zd 0,za none 0 0] 80)) W0.heap.size 2 1 (za ad xl cg) xl (xs.map (ze zd))):=O3.X.alloc _;go_simp;refine hoW hK GZ.X.cells fun aa=> ?_;clear hK K;obtain⟨kz,cA⟩:=nmd w3.heap.size;rw[cA.X]at aw aH⊢;generalize(w3.alloc _)=wz at*;obtain⟨z0,z1⟩:=za1 aw.X;have zf:=fun i=>yZ _ _ i _ _ aw.X;refine rdH 16 fun K hK=> ?_;have G5:Zb (GB W0 ((wz.setCell ⟨kz,0,none⟩ (ze zd vv)).setCell ⟨kz,1,none⟩ (za ad xl cg)) pc pp ps #[ze zd n,za a zl ac,za ao ko co,za av kv cv,ze zd fine] (za ra nr rc) (za la ln lc) id ab pl):=(GZ.X.set aH.X).set aH.X;have V5:Zb (((wz.setCell ⟨kz,0,none⟩ (ze zd vv)).setCell ⟨kz,1,none⟩ (za ad xl cg)).heap[kz]? =some (zg #[ze zd vv,za ad xl cg] 80 (0,0))):=by
       have s1:=xb wz kz 0 _ _ (ze zd vv) aw.X;have s2:=xb _ kz 1 _ _ (za ad xl cg) s1;simp at s2;exact s2
      have O5:Zb (zk ((wz.setCell ⟨kz,0,none⟩ (ze zd vv)).setCell ⟨kz,1,none⟩ (za ad xl cg)) W0.heap.size 2 1 (za ad xl cg) xl (xs.map (ze zd))):=zd8 (zd8 OZ.X aw.X) (by exact xb _ kz 0 _ _ _ aw.X);go_simp;refine hoW hK G5.X.cells fun aa=> ?_;clear hK K;generalize((wz.setCell ⟨kz,0,none⟩ _).setCell ⟨kz,1,none⟩ _)=w5 at*;refine tkH 17 aa ?_;refine tkH 18 aa ?_;refine qF (by kernel_rfl) ?_ _;clear aa
      (try go_wp2_with fail)
      go_meet;exact⟨kz,ad,cg,rfl,rfl,rfl,G5.X,V5.X,O5.X⟩
     refine xL rfl (fun K hK=> ?_) xP;have GZ:Zb (GB W0 (w2.alloc (zg #[ze zd 0,za none 0 0] 80)) pc pp ps #[ze zd n,za a zl ac,za ao ko co,za av kv cv,ze zd fine] (za ra nr rc) (za la ln lc) id ab pl):=G2.X.below (zP _);have aw:=za4 (zS w2 (zg #[ze zd 0,za none 0 0] 80));have aH:Zb (W0.heap.size<=w2.heap.size):=G2.X.b.size;have Gi:Zb (Za w2.heap.size w2 (w2.alloc (zg #[ze zd 0,za none 0 0] 80))):=zP _;go_simp;refine hoW hK GZ.X.cells fun aa=> ?_;clear hK K;obtain⟨kz,cA⟩:=nmd w2.heap.size;rw[cA.X]at aw aH⊢;generalize(w2.alloc _)=wz at*;obtain⟨z0,z1⟩:=za1 aw.X;have zf:=fun i=>yZ _ _ i _ _ aw.X;refine rdH 10 fun K hK=> ?_;go_simp;refine(CH.X w2 wz p q G2.X.b eR.X.1 eR.X.2 Gi.X).mono ?_;rintro e w3 ⟨hb,ad,cg,rfl,ho⟩;rw[et.X,aY.X];have G3:=za4 (GZ.X.below hb);have O3:Zb (w3.ownsRow W0.heap.size 2 1 (za ad xl cg) xl (xs.map (ze zd))):=by rw[aY.X]at ho;exact zb5 ho GZ.X.b.size
     have ez:=za4 (za0 hb (za2 aw.X) aw.X);obtain⟨z0,z1⟩:=za1 ez.X;have zf:=fun i=>yZ _ _ i _ _ ez.X;clear hb ho
     (try go_wp2_with fail)
     refine hoW hK G3.X.cells fun aa=> ?_;clear hK K;refine tkH 11 aa ?_;refine tkH 12 aa ?_;refine tkH 13 aa ?_;refine tkH 14 aa ?_;refine rdH 16 fun K hK=> ?_;have G5:Zb (GB W0 ((w3.setCell ⟨kz,0,none⟩ (ze zd vv)).setCell ⟨kz,1,none⟩ (za ad xl cg)) pc pp ps #[ze zd n,za a zl ac,za ao ko co,za av kv cv,ze zd fine] (za ra nr rc) (za la ln lc) id ab pl):=(G3.X.set aH.X).set aH.X;have V5:Zb (((w3.setCell ⟨kz,0,none⟩ (ze zd vv)).setCell ⟨kz,1,none⟩ (za ad xl cg)).heap[kz]? =some (zg #[ze zd vv,za ad xl cg] 80 (0,0))):=by
      have s1:=xb w3 kz 0 _ _ (ze zd vv) ez.X;have s2:=xb _ kz 1 _ _ (za ad xl cg) s1;simp at s2;exact s2
     have O5:Zb (zk ((w3.setCell ⟨kz,0,none⟩ (ze zd vv)).setCell ⟨kz,1,none⟩ (za ad xl cg)) W0.heap.size 2 1 (za ad xl cg) xl (xs.map (ze zd))):=zd8 (zd8 O3.X ez.X) (by exact xb _ kz 0 _ _ _ ez.X);go_simp;refine hoW hK G5.X.cells fun aa=> ?_;clear hK K;generalize((w3.setCell ⟨kz,0,none⟩ _).setCell ⟨kz,1,none⟩ _)=w5 at*;refine tkH 17 aa ?_;refine tkH 18 aa ?_;refine qF (by kernel_rfl) ?_ _;clear aa
     (try go_wp2_with fail)
     go_meet;exact⟨kz,ad,cg,rfl,rfl,rfl,G5.X,V5.X,O5.X⟩
    refine xL rfl (fun K hK=> ?_) xP;have GZ:Zb (GB W0 (w1.alloc (zg #[ze zd 0,za none 0 0] 80)) pc pp ps #[ze zd n,za a zl ac,za ao ko co,za av kv cv,ze zd fine] (za ra nr rc) (za la ln lc) id ab pl):=G1.X.below (zP _);have aw:=za4 (zS w1 (zg #[ze zd 0,za none 0 0] 80));have aH:Zb (W0.heap.size<=w1.heap.size):=G1.X.b.size;go_simp;refine hoW hK GZ.X.cells fun aa=> ?_;clear hK K;obtain⟨kz,cA⟩:=nmd w1.heap.size;rw[cA.X]at aw aH⊢;generalize(w1.alloc _)=wz at*;obtain⟨z0,z1⟩:=za1 aw.X;have zf:=fun i=>yZ _ _ i _ _ aw.X;refine rdH 9 fun K hK=> ?_;go_simp;refine(zh6 id (pl:Int) wz).mono ?_;rintro e w2 ⟨p,q,rfl,hb,cP,gM⟩;have G2:=za4 (GZ.X.below hb);have eR:Zb (w2.cell? ⟨p,0,none⟩=some (ze zd (pl:Int))/\w2.cell? ⟨q,0,none⟩=some (ze zd id)):=⟨cP,gM⟩;have PB:Zb (Za w2.heap.size w2 w2):=y5 _ _;have mW:=za4 (za0 hb (za2 aw.X) aw.X);clear hb cP gM
    (try go_wp2_with fail)
    refine hoW hK G2.X.cells fun aa=> ?_;clear hK K;refine rdH 10 fun K hK=> ?_;go_simp;refine(CH.X w2 w2 p q G2.X.b eR.X.1 eR.X.2 PB.X).mono ?_;rintro e w3 ⟨hb,ad,cg,rfl,ho⟩;rw[et.X,aY.X];have G3:=za4 (G2.X.below hb);have O3:Zb (w3.ownsRow W0.heap.size 2 1 (za ad xl cg) xl (xs.map (ze zd))):=by rw[aY.X]at ho;exact zb5 ho G2.X.b.size
    have ez:=za4 (za0 hb (za2 mW.X) mW.X);obtain⟨z0,z1⟩:=za1 ez.X;have zf:=fun i=>yZ _ _ i _ _ ez.X;clear hb ho
    (try go_wp2_with fail)
    refine hoW hK G3.X.cells fun aa=> ?_;clear hK K;refine tkH 11 aa ?_;refine tkH 12 aa ?_;refine tkH 13 aa ?_;refine tkH 14 aa ?_;refine rdH 16 fun K hK=> ?_;have G5:Zb (GB W0 ((w3.setCell ⟨kz,0,none⟩ (ze zd vv)).setCell ⟨kz,1,none⟩ (za ad xl cg)) pc pp ps #[ze zd n,za a zl ac,za ao ko co,za av kv cv,ze zd fine] (za ra nr rc) (za la ln lc) id ab pl):=(G3.X.set aH.X).set aH.X;have V5:Zb (((w3.setCell ⟨kz,0,none⟩ (ze zd vv)).setCell ⟨kz,1,none⟩ (za ad xl cg)).heap[kz]? =some (zg #[ze zd vv,za ad xl cg] 80 (0,0))):=by
     have s1:=xb w3 kz 0 _ _ (ze zd vv) ez.X;have s2:=xb _ kz 1 _ _ (za ad xl cg) s1;simp at s2;exact s2
    have O5:Zb (zk ((w3.setCell ⟨kz,0,none⟩ (ze zd vv)).setCell ⟨kz,1,none⟩ (za ad xl cg)) W0.heap.size 2 1 (za ad xl cg) xl (xs.map (ze zd))):=zd8 (zd8 O3.X ez.X) (by exact xb _ kz 0 _ _ _ ez.X);go_simp;refine hoW hK G5.X.cells fun aa=> ?_;clear hK K;generalize((w3.setCell ⟨kz,0,none⟩ _).setCell ⟨kz,1,none⟩ _)=w5 at*;refine tkH 17 aa ?_;refine tkH 18 aa ?_;refine qF (by kernel_rfl) ?_ _;clear aa
    (try go_wp2_with fail)
    go_meet;exact⟨kz,ad,cg,rfl,rfl,rfl,G5.X,V5.X,O5.X⟩
   refine xL rfl (fun K hK=> ?_) xP;have GZ:Zb (GB W0 (wd.alloc (zg #[ze zd 0,za none 0 0] 80)) pc pp ps #[ze zd n,za a zl ac,za ao ko co,za av kv cv,ze zd fine] (za ra nr rc) (za la ln lc) id ab pl):=GD.X.below (zP _);have aw:=za4 (zS wd (zg #[ze zd 0,za none 0 0] 80));have aH:Zb (W0.heap.size<=wd.heap.size):=GD.X.b.size;go_simp;refine hoW hK GZ.X.cells fun aa=> ?_;clear hK K;obtain⟨kz,cA⟩:=nmd wd.heap.size;rw[cA.X]at aw aH⊢;generalize(wd.alloc _)=wz at*;obtain⟨z0,z1⟩:=za1 aw.X;have zf:=fun i=>yZ _ _ i _ _ aw.X;refine rdH 4 fun K hK=> ?_;go_simp;refine(RO.X wz GZ.X.b).mono ?_;rintro e w1 ⟨rfl,hb⟩;have G1:=za4 (GZ.X.below hb);have gz:=za4 (za0 hb (za2 aw.X) aw.X);clear hb
   (try go_wp2_with fail)
   refine hoW hK G1.X.cells fun aa=> ?_;clear hK K;refine rdH 9 fun K hK=> ?_;go_simp;refine(zh6 id (pl:Int) w1).mono ?_;rintro e w2 ⟨p,q,rfl,hb,cP,gM⟩;have G2:=za4 (G1.X.below hb);have eR:Zb (w2.cell? ⟨p,0,none⟩=some (ze zd (pl:Int))/\w2.cell? ⟨q,0,none⟩=some (ze zd id)):=⟨cP,gM⟩;have PB:Zb (Za w2.heap.size w2 w2):=y5 _ _;have mW:=za4 (za0 hb (za2 gz.X) gz.X);clear hb cP gM
   (try go_wp2_with fail)
   refine hoW hK G2.X.cells fun aa=> ?_;clear hK K;refine rdH 10 fun K hK=> ?_;go_simp;refine(CH.X w2 w2 p q G2.X.b eR.X.1 eR.X.2 PB.X).mono ?_;rintro e w3 ⟨hb,ad,cg,rfl,ho⟩;rw[et.X,aY.X];have G3:=za4 (G2.X.below hb);have O3:Zb (w3.ownsRow W0.heap.size 2 1 (za ad xl cg) xl (xs.map (ze zd))):=by rw[aY.X]at ho;exact zb5 ho G2.X.b.size
   have ez:=za4 (za0 hb (za2 mW.X) mW.X);obtain⟨z0,z1⟩:=za1 ez.X;have zf:=fun i=>yZ _ _ i _ _ ez.X;clear hb ho
   (try go_wp2_with fail)
   refine hoW hK G3.X.cells fun aa=> ?_;clear hK K;refine tkH 11 aa ?_;refine tkH 12 aa ?_;refine tkH 13 aa ?_;refine tkH 14 aa ?_;refine rdH 16 fun K hK=> ?_;have G5:Zb (GB W0 ((w3.setCell ⟨kz,0,none⟩ (ze zd vv)).setCell ⟨kz,1,none⟩ (za ad xl cg)) pc pp ps #[ze zd n,za a zl ac,za ao ko co,za av kv cv,ze zd fine] (za ra nr rc) (za la ln lc) id ab pl):=(G3.X.set aH.X).set aH.X;have V5:Zb (((w3.setCell ⟨kz,0,none⟩ (ze zd vv)).setCell ⟨kz,1,none⟩ (za ad xl cg)).heap[kz]? =some (zg #[ze zd vv,za ad xl cg] 80 (0,0))):=by
    have s1:=xb w3 kz 0 _ _ (ze zd vv) ez.X;have s2:=xb _ kz 1 _ _ (za ad xl cg) s1;simp at s2;exact s2
   have O5:Zb (zk ((w3.setCell ⟨kz,0,none⟩ (ze zd vv)).setCell ⟨kz,1,none⟩ (za ad xl cg)) W0.heap.size 2 1 (za ad xl cg) xl (xs.map (ze zd))):=zd8 (zd8 O3.X ez.X) (by exact xb _ kz 0 _ _ _ ez.X);go_simp;refine hoW hK G5.X.cells fun aa=> ?_;clear hK K;generalize((w3.setCell ⟨kz,0,none⟩ _).setCell ⟨kz,1,none⟩ _)=w5 at*;refine tkH 17 aa ?_;refine tkH 18 aa ?_;refine qF (by kernel_rfl) ?_ _;clear aa
   (try go_wp2_with fail)
   go_meet;exact⟨kz,ad,cg,rfl,rfl,rfl,G5.X,V5.X,O5.X⟩
  case rest=>
   obtain⟨kz,ad,cg,rfl,rfl,rfl,wI,mO,rK⟩:=hcut;obtain⟨w5,pq⟩:∃v,v=wc:=⟨_,rfl⟩;subst pq;have G5:=za4 wI;have V5:=za4 mO;have O5:=za4 rK;clear wI mO rK;clear RO CH et;obtain⟨c0,c1,c2,c3,c4,p0,p1,-,-,-⟩:=G5.X.cells;obtain⟨k0,k1⟩:=za1 V5.X;have B5:=za4 (BQ.X.trans (G5.X.b.mono BQ.X.size));have us:xs.length<=1000:=by
    rw[<-oP.X];show(insL (zc7 R ab).ids pl id).length<=1000;have h1:=yE8 (zc7 R ab).ids pl id;have h2:=z56 (fun r hr=>(HI.X r hr).2.1) ab;omega
   have WR:=zp3 ra la rc ln lc R ⟨vv,ad,xs,cg⟩ w5 (HP.X.2.2.1.below B5.X) (by rw[HN.X];exact hn) HS.X (by rw[HN.X];exact HP.X.2.2.2.2.1) us;simp only[HN.X,aY.X]at WR
   go_wp2_with fail
   refine WR.mono ?_;rintro e w6 ⟨sl,rfl,iy,Dj⟩;obtain⟨m6,Ki⟩:=nmd ((wrL R ⟨vv,ad,xs,cg⟩).length);rw[Ki.X]at Dj;obtain⟨jP,jH,e⟩:=zp4 Dj;subst e;have G6:=za4 (G5.X.below iy);have O6:=za4 (zb9 O5.X iy);have R6:=za4 (zb5 Dj G5.X.b.size);clear iy Dj WR c0 c1 c2 c3 c4 p0 p1 k0 k1 B5;have G7:Zb (GB W0 (w6.alloc (zg #[za jP m6 jH,za la ln lc] 33)) pc pp ps #[ze zd n,za a zl ac,za ao ko co,za av kv cv,ze zd fine] (za ra nr rc) (za la ln lc) id ab pl):=G6.X.below (zP _);have N7:=za4 (zS w6 (zg #[za jP m6 jH,za la ln lc] 33));have O7:Zb (zk (w6.alloc (zg #[za jP m6 jH,za la ln lc] 33)) W0.heap.size 2 1 (za ad xl cg) xl (xs.map (ze zd))):=O6.X.alloc _;have R7:Zb (zk (w6.alloc (zg #[za jP m6 jH,za la ln lc] 33)) W0.heap.size 80 2 (za jP m6 jH) m6 (zj5 (wrL R ⟨vv,ad,xs,cg⟩))):=R6.X.alloc _;have gN:Zb (W0.heap.size<=w6.heap.size):=G6.X.b.size;obtain⟨p0,p1⟩:=za1 G7.X.p;have B7:=za4 (BQ.X.trans (G7.X.b.mono BQ.X.size));have CL:=z45 la lc ln L (w6.alloc (zg #[za jP m6 jH,za la ln lc] 33)) (HP.X.2.2.2.1.below B7.X) HM.X (by omega) HP.X.2.2.2.2.2.1
   go_wp2_with fail
   obtain⟨kn,o7⟩:=nmd w6.heap.size;rw[o7.X]at N7 gN⊢;generalize w6.alloc _=w7 at*;refine CL.mono ?_;rintro e w8 ⟨sl,rfl,iM,jy⟩;have G8:=za4 (G7.X.below iM);have N8:=za4 (za0 iM (za2 N7.X) N7.X);have O8:=za4 (zb9 O7.X iM);have R8:=za4 (zb9 R7.X iM);have eM:Zb ((∀k,(za ad xl cg).ownBlock=some k->k<w7.heap.size)/\(∀k,(za jP m6 jH).ownBlock=some k->k<w7.heap.size)/\kn<w7.heap.size):=⟨fun k e=>(O7.X.lt k e).2,fun k e=>(R7.X.lt k e).2,za2 N7.X⟩;have CF:=yh0 sl ln w7.heap.size ps L id w8 jy HM.X (by omega) iM.size (zv9 G8.X.s).1 (by have:=G7.X.l.2.2;have:=G7.X.b.size;omega);have vK:Zb (W0.heap.size<=w7.heap.size):=G7.X.b.size;clear CL p0 p1 jy iM
   go_wp2_with fail
   refine CF.mono ?_;rintro e w9 ⟨Rf,rfl,mo,iV⟩;obtain⟨m8,Kr⟩:=nmd ((zl5 L id).length);rw[Kr.X]at iV;obtain⟨j5,j4,e⟩:=zp4 iV;subst e;have N9:=za4 (za0 mo eM.X.2.2 N8.X);have O9:=za4 (zv3 O8.X mo eM.X.1);have R9:=za4 (zv3 R8.X mo eM.X.2.1);have L9:=za4 iV;have B9:=za4 (G8.X.b.trans (mo.mono vK.X));have A9:=za4 (za0 B9.X (za2 OQ.X) OQ.X);obtain⟨n0,n1⟩:=za1 N9.X;have nf:=fun i=>yZ _ _ i _ _ N9.X;have NS:Zb ((w9.setCell ⟨kn,1,none⟩ (za j5 m8 j4)).heap[kn]? =some (zg #[za jP m6 jH,za j5 m8 j4] 33 (0,0))):=by
    have s1:=xb w9 kn 1 _ _ (za j5 m8 j4) N9.X;simp at s1;exact s1
   have AS:Zb ((w9.setCell ⟨kn,1,none⟩ (za j5 m8 j4)).heap[pp+1]? =some (zg #[za none 0 0,za none 0 0] 33 (0,0))):=za8 A9.X (by have:=za2 OQ.X;have:=gN.X;omega);have OS:=zf8 (i:=1) (u:=za j5 m8 j4) O9.X N9.X (by decide);have RS:=zf8 (i:=1) (u:=za j5 m8 j4) R9.X N9.X (by decide);have Ft:=zf8 (i:=1) (u:=za j5 m8 j4) L9.X N9.X (by decide);have Pa:Zb (Za w.heap.size w (w9.setCell ⟨kn,1,none⟩ (za j5 m8 j4))):=(BQ.X.trans (B9.X.mono BQ.X.size)).setCell (by have:=BQ.X.size;have:=gN.X;simp;omega) _;have OS:Zb _:=OS;have RS:Zb _:=RS;have Ft:Zb _:=Ft;clear mo iV CF;obtain⟨a0,a1⟩:=za1 AS.X;have af:=fun i=>yZ _ _ i _ _ AS.X;obtain⟨s0,s1⟩:=za1 NS.X
   go_wp2_with fail
   generalize w9.setCell ⟨kn,1,none⟩ _=wf at*;go_wp2;refine xe (v:=.tuple #[.agg #[za jP m6 jH,za j5 m8 j4],.bool true]) (by simp[results,Tryz.results124,go_sem,a0,a1]) rfl ?_;show y26 _ _ _ _ _ _ _;have e1:LX=zl5 L id:=ec.X;have e2:RX=wrL R (oneT R (id,ab,pl)):=jG.X;have pA:Za w.heap.size w ((wf.setCell ⟨pp+1,0,none⟩ (za jP m6 jH)).setCell ⟨pp+1,1,none⟩ (za j5 m8 j4)):=(Pa.X.setCell (by have:=l_.X;simp;omega) _).setCell (by have:=l_.X;simp;omega) _;have FH:=xb wf (pp+1) 0 _ _ (za jP m6 jH) AS.X;have OF:=zf8 (i:=1) (u:=za j5 m8 j4) (zf8 (i:=0) (u:=za jP m6 jH) OS.X AS.X (by decide)) FH (by decide);have RF:=zf8 (i:=1) (u:=za j5 m8 j4) (zf8 (i:=0) (u:=za jP m6 jH) RS.X AS.X (by decide)) FH (by decide);have LF:=zf8 (i:=1) (u:=za j5 m8 j4) (zf8 (i:=0) (u:=za jP m6 jH) Ft.X AS.X (by decide)) FH (by decide);have IX:za3 ((wf.setCell ⟨pp+1,0,none⟩ (za jP m6 jH)).setCell ⟨pp+1,1,none⟩ (za j5 m8 j4)) ad xs:=zk7 OF;have bI:∀r∈wrL R ⟨vv,ad,xs,cg⟩,r∈R∨r=⟨vv,ad,xs,cg⟩:=fun r hr=>zy0 hr;refine⟨jP,m6,jH,j5,m8,j4,wrL R ⟨vv,ad,xs,cg⟩,rfl,pA,⟨Ki.X,by rw[e1];exact Kr.X,zl9 RF (fun r hr=> ?_),by rw[e1];exact zk7 LF,z70 RF,z70 LF,fun r hr=> ?_⟩,?_,fun k hk h=>⟨fun _=>ye6 RF (by have:=BQ.X.size;omega),fun _=>ye6 LF (by have:=BQ.X.size;have:=vK.X;omega),fun r hr aq b off e=> ?_⟩⟩
   ·rcases bI r hr with h|h
    ·obtain⟨j,hj,rfl⟩:=zo3 h
     obtain⟨_,_,_,_,_,h2⟩:=HP.X.2.2.1 j hj;exact h2.below pA
    ·rw[h];exact IX
   ·rcases bI r hr with h|h
    ·exact HP.X.2.2.2.2.2.2 r h
    ·rw[h]
     show xs.length<=cg;rw[aY.X];exact ym1 OF
   ·rw[e2]
    refine z83 rfl ?_;show(vv,xs)=(ab,insL (zc7 R ab).ids pl id);rw[vN.X,<-oP.X];rfl
   ·rcases bI r hr with h9|h9
    ·exact h.2.2 r h9 aq b off e
    ·rw[h9]at e
     exact ye6 OF (by have:=BQ.X.size;omega) b off e
def yw3(W:zi)(k:Nat):Nat:=match W.cell? ⟨k,1,none⟩with
 |some (za _ n _)=>n
 |_=>0
def yL8(t:Value)(n:Nat):Nat:=match t with
 | .bool true=>n
 |_=>0
def yc7(w:zi)(K:Nat->Prop)(T:List RT)(L:List Int)(e:Ending)(w':zi):Prop:=∃ra rn rc la ln lc R,e=.returned (.agg #[za ra rn rc,za la ln lc])/\Za w.heap.size w w'/\zc3 w' ra la rn ln R L/\R.map RT.key=T.map RT.key/\(∀r∈R,r.ids≠[]/\r.ids.length<=12)/\rn<=100/\ln<=12/\∀k,k<w.heap.size->K k->zi8 k ra la R L
theorem yd2(n fine:Int)(a ao av ra la:Option Addr)(zl ac ko co kv cv nr rc ln lc:Nat)(zs os vs L:List Int)(R:List RT)(w:zi)(hA:za3 w a zs)(hO:za3 w ao os)(hV:za3 w av vs)(aN:zs.length=zl)(an:os.length=ko*6)(au:vs.length=kv*5)(aA:ko<=12)(aB:kv<=5)(bU:zd0 n zs os vs ko kv fine=true)(hP:zc3 w ra la nr ln R L)(hn:nr<=12)(gh:ln<=12)(hS:zf7 R)(hi:zw3 R):
 Calls Tryz.prog 82 #[.agg #[ze zd n,za a zl ac,za ao ko co,za av kv cv,ze zd fine],.agg #[za ra nr rc,za la ln lc]] w (yc7 w (fun k=>zi8 k ra la R L) (grd n fine zs os vs ko kv L.length R L).1 (grd n fine zs os vs ko kv L.length R L).2):=by
 have HA:=za4 hA;have HO:=za4 hO;have HV:=za4 hV;have ck:=za4 aN;have aF:=za4 an;have aE:=za4 au;have cU:=za4 bU;have HP:=za4 hP;have HS:=za4 hS;have HI:=za4 hi;have vQ:Zb (∀k,w.heap.size<=k->zi8 k ra la R L):=fun k hk=>hP.far hk;clear hA hO hV aN an au bU hP hS hi;obtain⟨TR,pG⟩:=nmd ((grd n fine zs os vs ko kv L.length R L).1);obtain⟨TL,dQ⟩:=nmd ((grd n fine zs os vs ko kv L.length R L).2);rw[pG.X,dQ.X];have Q0:Zb (GQ w (((w.alloc (zg #[ze zd n,za a zl ac,za ao ko co,za av kv cv,ze zd fine] 30)).alloc (zg #[za ra nr rc,za la ln lc] 33)).alloc (zg #[za none 0 0,za none 0 0] 33)) #[ze zd n,za a zl ac,za ao ko co,za av kv cv,ze zd fine] #[za ra nr rc,za la ln lc]):=by
  refine⟨((zP _).alloc (by simp) _).alloc (by simp;omega) _,?_,?_,?_⟩
  ·exact(xg _ _ (by simp;omega)).trans (xm _ _ _)
  ·exact(xg _ _ (by simp)).trans (xh _ _ _)
  ·have:=zS ((w.alloc (zg #[ze zd n,za a zl ac,za ao ko co,za av kv cv,ze zd fine] 30)).alloc (zg #[za ra nr rc,za la ln lc] 33)) (zg #[za none 0 0,za none 0 0] 33)
   simpa using this
 have kd:=za4 (HP.X.below Q0.X.b);go_enter Tryz.func82,Tryz.ntmps82
 go_wp2_with fail
 generalize((w.alloc _).alloc _).alloc _=W0 at*;go_loopw[5] (fun t wr=>∃(m:Bool) (aO cQ:Option Addr) (bG bg bo dM:Nat) (R9:List RT) (L9:List Int),t=.bool m/\GQ w wr #[ze zd n,za a zl ac,za ao ko co,za av kv cv,ze zd fine] #[za aO bG bg,za cQ bo dM]/\zc3 wr aO cQ bG bo R9 L9/\zi8 (w.heap.size+1) aO cQ R9 L9/\zi8 (w.heap.size+2) aO cQ R9 L9/\(∀k,k<w.heap.size->zi8 k ra la R L->zi8 k aO cQ R9 L9)/\bG+bo<=24/\bo<=12/\zf7 R9/\zw3 R9/\(m=true->(grd n fine zs os vs ko kv L9.length R9 L9).1.map RT.key=TR.map RT.key/\(grd n fine zs os vs ko kv L9.length R9 L9).2=TL)/\(m=false->R9.map RT.key=TR.map RT.key/\L9=TL)) (fun t wr=>yL8 t (yw3 wr (w.heap.size+1)+1))
 case atStart=>exact⟨true,ra,la,nr,rc,ln,lc,R,L,rfl,Q0.X,kd.X,vQ.X _ (by omega),vQ.X _ (by omega),fun _ _ h=>h,by omega,gh,HS.X,HI.X,fun _=>⟨by rw[pG.X],dQ.X⟩,fun h=>by cases h⟩
 case round=>
  clear Q0 kd HP HS HI vQ;obtain⟨m,aO,cQ,bG,bg,bo,dM,R9,L9,rfl,hq,hp,ir,fd,f',Qg,bJ,hs,hi,ht,hf⟩:=hrel;have Q1:=za4 hq;have P1:=za4 hp;have F1:Zb (zi8 (w.heap.size+1) aO cQ R9 L9/\zi8 (w.heap.size+2) aO cQ R9 L9/\(∀k,k<w.heap.size->zi8 k ra la R L->zi8 k aO cQ R9 L9)):=⟨ir,fd,f'⟩;have S1:=za4 hs;have I1:=za4 hi;have HT:=za4 ht;have HF:=za4 hf;clear hq hp hs hi ht hf ir fd f';obtain⟨c0,c1,c2,c3,c4⟩:=za7 Q1.X.c;obtain⟨p0,p1⟩:=za1 Q1.X.p;cases m
  ·obtain⟨a0,a1⟩:=za1 Q1.X.o
   have af:=fun i=>yZ _ _ i _ _ Q1.X.o;obtain⟨hk,hl⟩:=HF.X rfl;have HK:=za4 hk;have eM:=za4 hl;clear hk hl;go_wp2;refine xe (v:=.agg #[za aO bG bg,za cQ bo dM]) (by simp[results,Tryz.results82,go_sem,a0,a1]) rfl ?_;show yc7 _ _ _ _ _ _;have pA:Za w.heap.size w ((wr.setCell ⟨w.heap.size+2,0,none⟩ (za aO bG bg)).setCell ⟨w.heap.size+2,1,none⟩ (za cQ bo dM)):=(Q1.X.b.setCell (by simp) _).setCell (by simp) _;refine⟨aO,bG,bg,cQ,bo,dM,R9,rfl,pA,by rw[<-eM.X];exact(P1.X.offL F1.X.2.1).offL F1.X.2.1,HK.X,fun r hr=>⟨(I1.X r hr).1,(I1.X r hr).2.1⟩,by omega,bJ,by rw[<-eM.X];exact F1.X.2.2⟩
  ·have G1:=zQ3 n fine a ao av aO cQ zl ac ko co kv cv bG bg bo dM zs os vs L9 R9 wr (HA.X.below Q1.X.b) (HO.X.below Q1.X.b) (HV.X.below Q1.X.b) ck.X aF.X aE.X aA aB cU.X P1.X (by omega) bJ S1.X I1.X
   obtain⟨jq,fW⟩:=HT.X rfl;have eS:=ym5 n fine zs os vs ko kv (R:=R9) (L:=L9);have eU:=fun h=>zz5 n fine zs os vs ko kv (R:=R9) (L:=L9) h;have be:=yA2 (n:=n) (fine:=fine) (zs:=zs) (os:=os) (vs:=vs) (ko:=ko) (kv:=kv) (L:=L9) I1.X (by rw[P1.X.1];omega) (by rw[P1.X.2.1];omega);have j':=zV5 n fine zs os vs ko kv (L:=L9) S1.X;rw[P1.X.1]at eS;rw[P1.X.2.1]at eU;obtain⟨f,js⟩:=nmd ((zy2 n fine zs os vs ko kv R9 L9).f);obtain⟨RX,gE⟩:=nmd (zC4 n fine zs os vs ko kv R9 L9);obtain⟨LX,gF⟩:=nmd (zD4 n fine zs os vs ko kv R9 L9);have dD:Zb (f=true->(grd n fine zs os vs ko kv LX.length RX LX).1.map RT.key=TR.map RT.key/\(grd n fine zs os vs ko kv LX.length RX LX).2=TL):=fun h=>by
    rw[yh9 n fine zs os vs ko kv (js.X.trans h),gE.X,gF.X]at jq fW;exact⟨jq,fW⟩
   have pR:Zb (f=false->RX.map RT.key=TR.map RT.key/\LX=TL):=fun h=>by
    rw[yj3 n fine zs os vs ko kv (js.X.trans h)]at jq fW;have e1:RX=R9:=by rw[<-gE.X];unfold zC4;rw[js.X,h];rfl
    have e2:LX=L9:=by rw[<-gF.X];unfold zD4;rw[js.X,h];rfl
    rw[e1,e2];exact⟨jq,fW⟩
   have iT:Zb (LX.length<=bo/\(f=true->LX.length<bo)):=by
    refine⟨?_,fun h=>by rw[<-gF.X];exact eU (js.X.trans h)⟩;rw[<-gF.X];cases h:f
    ·unfold zD4;rw[js.X,h];exact Nat.le_of_eq P1.X.2.1
    ·exact Nat.le_of_lt (eU (js.X.trans h))
   have mL:Zb (RX.length<=bG+1/\(f=false->RX.length=bG)):=by
    rw[<-gE.X];exact⟨eS,fun h=>by unfold zC4;rw[js.X,h];exact P1.X.1⟩
   rw[js.X,gE.X,gF.X]at G1;rw[gE.X]at be j';have gi:Zb (∀r∈RX,r.ids≠[]/\r.ids.length<=12):=be.1;have eV:=za4 j';clear jq fW eS eU be j' HT HF js gE gF
   go_wp2_with fail
   refine G1.mono ?_;rintro e w2 ⟨ag,eb,ai,ak,dB,aj,R2,rfl,hb,dJ,cN,cX⟩;have bW:=Q1.X.size;have Q2:=za4 (Q1.X.below hb);have P2:=za4 dJ;have F2:Zb (zi8 (w.heap.size+1) ag ak R2 LX/\zi8 (w.heap.size+2) ag ak R2 LX/\(∀k,k<w.heap.size->zi8 k ra la R L->zi8 k ag ak R2 LX)):=⟨cX _ (by omega) F1.X.1,cX _ (by omega) F1.X.2.1,fun k hk h=>cX k (by omega) (F1.X.2.2 k hk h)⟩;have dV:=za4 cN;have f_:eb=RX.length:=by rw[<-dJ.1];have:=congrArg List.length cN;simpa using this
   have jv:dB=LX.length:=dJ.2.1.symm;have tq:eb+dB<=24/\dB<=12/\(f=true->dB<bo):=by
    have h1:=iT.X;have h2:=mL.X;rw[f_,jv];cases f
    ·have:=h2.2 rfl;exact⟨by omega,by omega,fun h=>by cases h⟩
    ·have:=h1.2 rfl;exact⟨by omega,by omega,fun _=>this⟩
   have dS:Zb (yw3 wr (w.heap.size+1)=bo):=by show _=_;unfold yw3;rw[p1]
   clear hb dJ cN cX G1 c0 c1 c2 c3 c4 p0 p1 f_ jv;obtain⟨p0,p1⟩:=za1 Q2.X.p;have pf:=fun i=>yZ _ _ i _ _ Q2.X.p;have s1:=xb w2 (w.heap.size+1) 0 _ _ (za ag eb ai) Q2.X.p;have s2:=xb _ (w.heap.size+1) 1 _ _ (za ak dB aj) s1;simp at s2;have Q3:Zb (GQ w ((w2.setCell ⟨w.heap.size+1,0,none⟩ (za ag eb ai)).setCell ⟨w.heap.size+1,1,none⟩ (za ak dB aj)) #[ze zd n,za a zl ac,za ao ko co,za av kv cv,ze zd fine] #[za ag eb ai,za ak dB aj]):=⟨(Q2.X.b.setCell (by simp) _).setCell (by simp) _,za8 (za8 Q2.X.c (by omega)) (by omega),s2,za8 (za8 Q2.X.o (by omega)) (by omega)⟩;have P3:Zb (zc3 ((w2.setCell ⟨w.heap.size+1,0,none⟩ (za ag eb ai)).setCell ⟨w.heap.size+1,1,none⟩ (za ak dB aj)) ag ak eb dB R2 LX):=(P2.X.offL F2.X.1).offL F2.X.1;have mR:Zb (yw3 ((w2.setCell ⟨w.heap.size+1,0,none⟩ (za ag eb ai)).setCell ⟨w.heap.size+1,1,none⟩ (za ak dB aj)) (w.heap.size+1)=dB):=by show _=_;unfold yw3;rw[(za1 s2).2]
   clear s1 s2;obtain⟨oc,nv,m9⟩:=tq;go_wp2;go_roundw
   case rel=>exact⟨f,ag,ak,eb,ai,dB,aj,R2,LX,rfl,Q3.X,P3.X,F2.X.1,F2.X.2.1,F2.X.2.2,oc,nv,zZ0 dV.X eV.X,fun r hr=>⟨(z05 dV.X gi.X r hr).1,(z05 dV.X gi.X r hr).2,P3.X.2.2.2.2.2.2 r hr⟩,fun h=>by obtain⟨h1,h2⟩:=dD.X h;obtain⟨h3,h4⟩:=z88 n fine zs os vs ko kv LX.length LX dV.X;exact⟨h3.trans h1,h4.trans h2⟩,fun h=>by obtain⟨h1,h2⟩:=pR.X h;exact⟨dV.X.trans h1,h2⟩⟩
   case measure=>
    rw[dS.X,mR.X];cases f
    ·show 0<bo+1;omega
    ·have:=m9 rfl;show dB+1<bo+1;omega
