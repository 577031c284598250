import Derived.Test.YtkchnomkiboihaaGreatPack19
import Derived.Test.YtkchnomkiboihaaGreatPack33
import Derived.Test.YtkchnomkiboihaaGreatCutFunc
set_option linter.unusedSimpArgs false
set_option maxHeartbeats 4000000
set_option maxRecDepth 10000
namespace Go.Proofs.YtkchnomkiboihaaGreat
open Value renaming slice→za,int→zc
open IntKind renaming i64→zb
open Obj renaming cells→zd
open Go renaming World→zg
open Act renaming put→zi
open World renaming ownsRow→zk
open Go.RowKit
open Q
theorem yC2(ids:List Int)(k:Nat)(x:Int):(insL ids k x).length<=ids.length+1:=by
 unfold insL;simp;omega
def yu5(w:zg)(f:Bool)(S:List RT)(L:List Int)(K:Nat->Prop)(e:Ending)(w':zg):Prop:=∃ra rn rc la ln lc R,e=.returned (.tuple #[.agg #[za ra rn rc,za la ln lc],.bool f])/\Below w.heap.size w w'/\zb8 w' ra la rn ln R L/\R.map RT.key=S.map RT.key/\∀k,k<w.heap.size->K k->zj0 k ra la R L
theorem ye5{w:zg}{base size n rc k:Nat}{e:TypeId}{ra:Option Addr}{xs:List Value}(h:w.ownsRow base e size (za ra n rc) n xs)(hk:k<base):∀b off,ra=some ⟨b,off,none⟩->b≠k:=fun b off e9=>by
 rcases own_kinds h with⟨e1,_⟩|⟨g,c,e1,h2,_⟩
 ·simp only[xW]at e1
  rw[e1.1]at e9;cases e9
 ·simp only[xW]at e1
  rw[e1.1]at e9;simp only[xV,xZ,qb]at e9;omega
theorem zR0(n fine:Int)(a ao av ra la:Option Addr)(zl cap ko co kv cv nr rc ln lc:Nat)(zs os vs L:List Int)(R:List RT)(w:zg)(hA:za3 w a zs)(hO:za3 w ao os)(hV:za3 w av vs)(hlz:zs.length=zl)(hlo:os.length=ko*6)(hlv:vs.length=kv*5)(hko:ko<=12)(hkv:kv<=5)(hcB:zc8 n zs os vs ko kv fine=true)(hP:zb8 w ra la nr ln R L)(hn:nr<=100)(hln:ln<=12)(hS:zg1 R)(hi:zx3 R):
 Calls Tryz.prog 124 #[.agg #[zc zb n,za a zl cap,za ao ko co,za av kv cv,zc zb fine],.agg #[za ra nr rc,za la ln lc]] w (yu5 w (zy3 n fine zs os vs ko kv R L).f (zB8 n fine zs os vs ko kv R L) (zD2 n fine zs os vs ko kv R L) (fun k=>zj0 k ra la R L)):=by
 have HA:=za4 hA;have HO:=za4 hO;have HV:=za4 hV;have HLZ:=za4 hlz;have HLO:=za4 hlo;have HLV:=za4 hlv;have HCB:=za4 hcB;have HP:=za4 hP;have HS:=za4 hS;have HI:=za4 hi;have HN:Hid (R.length=nr):=hP.1;have HM:Hid (L.length=ln):=hP.2.1;clear hA hO hV hlz hlo hlv hcB hP hS hi;obtain⟨s0,HS0⟩:=nmd (zy3 n fine zs os vs ko kv R L);have HQ0:Hid (qst (gOk n fine zs os vs ko kv R) (gD n zs os vs ko kv R) (sp3 R vs kv L ln)=s0):=by
  show _=_;rw[<-HS0.X,<-HM.X];rfl
 obtain⟨RX,HRX⟩:=nmd (zB8 n fine zs os vs ko kv R L);obtain⟨LX,HLX⟩:=nmd (zD2 n fine zs os vs ko kv R L);have HRR:Hid (RX=if s0.f then wrL R (oneT R s0.s)else R):=by show _=_;rw[<-HRX.X];unfold zB8;rw[HS0.X]
 have HLL:Hid (LX=if s0.f then zn1 L s0.s.1 else L):=by show _=_;rw[<-HLX.X];unfold zD2;rw[HS0.X]
 have HGO:Hid (s0.f=true->gB n zs os vs ko kv R s0.s=true):=fun h=>by
  have h1:=zz8 (ok:=gOk n fine zs os vs ko kv R) (dl:=gD n zs os vs ko kv R) (sp3 R vs kv L ln);rw[HQ0.X]at h1;have h2:=(h1 h).2.1;unfold gOk at h2;exact(zY _ _▸h2).1
 rw[HS0.X,HRX.X,HLX.X];have Q0:Hid (GQ w (((w.alloc (zd #[zc zb n,za a zl cap,za ao ko co,za av kv cv,zc zb fine] 30)).alloc (zd #[za ra nr rc,za la ln lc] 33)).alloc (zd #[za none 0 0,za none 0 0] 33)) #[zc zb n,za a zl cap,za ao ko co,za av kv cv,zc zb fine] #[za ra nr rc,za la ln lc]):=by
  refine⟨((zK _).alloc (by simp) _).alloc (by simp;omega) _,?_,?_,?_⟩
  ·exact(yY _ _ (by simp;omega)).trans (xb _ _ _)
  ·exact(yY _ _ (by simp)).trans (y8 _ _ _)
  ·have:=zN ((w.alloc (zd #[zc zb n,za a zl cap,za ao ko co,za av kv cv,zc zb fine] 30)).alloc (zd #[za ra nr rc,za la ln lc] 33)) (zd #[za none 0 0,za none 0 0] 33)
   simpa using this
 have SF:=z95 n fine a ao av ra la la zl cap ko co kv cv rc ln lc lc vs L R (((w.alloc (zd #[zc zb n,za a zl cap,za ao ko co,za av kv cv,zc zb fine] 30)).alloc (zd #[za ra nr rc,za la ln lc] 33)).alloc (zd #[za none 0 0,za none 0 0] 33)) (HV.X.below Q0.X.b) HLV.X hkv (HP.X.2.2.1.below Q0.X.b) (by rw[HN.X];exact hn) HS.X (fun r hr=>(HI.X r hr).2.1) (HP.X.2.2.2.1.below Q0.X.b) (by rw[HM.X];exact hln);rw[HN.X,HM.X]at SF;obtain⟨c0,c1,c2,c3,c4⟩:=za7 Q0.X.c;obtain⟨p0,p1⟩:=za1 Q0.X.p;go_enter Tryz.func124,Tryz.ntmps124
 go_wp2_with fail
 generalize((w.alloc (zd #[zc zb n,za a zl cap,za ao ko co,za av kv cv,zc zb fine] 30)).alloc (zd #[za ra nr rc,za la ln lc] 33)).alloc (zd #[za none 0 0,za none 0 0] 33)=W0 at*;refine SF.mono ?_;rintro e w1 ⟨sl,rfl,hb,ho⟩;obtain⟨sa,sc,e⟩:=zp4 ho;subst e;have Q1:=za4 (Q0.X.below hb);have S1:Hid (za3 w1 sa (spF (sp3 R vs kv L ln))):=ym6 ho;have hsl:=zO4 (fun r hr=>(HI.X r hr).2.1) vs hkv L ln;have LG:=zF1 sa sc w.heap.size (w.heap.size+1) (sp3 R vs kv L ln) (gOk n fine zs os vs ko kv R) (gD n zs os vs ko kv R) w1 S1.X (by omega) (fun W id veh pl hW=>by
  have QW:GQ w W #[zc zb n,za a zl cap,za ao ko co,za av kv cv,zc zb fine] #[za ra nr rc,za la ln lc]:=Q1.X.below hW;exact yh0 n fine a ao av ra la zl cap ko co kv cv nr rc ln lc zs os vs R W (HA.X.below QW.b) (HO.X.below QW.b) (HV.X.below QW.b) HLZ.X HLO.X HLV.X (by omega) (by omega) HCB.X (HP.X.2.2.1.below QW.b) HN.X hn HS.X HI.X id veh pl _ _ QW.c QW.p) s0 HQ0.X
 obtain⟨f,⟨id,veh,pl⟩,v⟩:=s0;simp only at LG HRR HLL HGO;clear hb ho SF c0 c1 c2 c3 c4 p0 p1 Q0 HQ0 HS0
 go_wp2_with fail
 refine LG.mono ?_;rintro e w2 ⟨rfl,hb⟩;have Q2:=za4 (Q1.X.below hb);clear hb LG Q1 S1 hsl;have QA:Hid (GQ w (w2.alloc (zd #[zc zb id,zc zb veh,zc zb (pl:Int)] 129)) #[zc zb n,za a zl cap,za ao ko co,za av kv cv,zc zb fine] #[za ra nr rc,za la ln lc]):=Q2.X.below (zK _);have SA:Hid ((w2.alloc (zd #[zc zb id,zc zb veh,zc zb (pl:Int)] 129)).heap[w2.heap.size]? =some (zd #[zc zb id,zc zb veh,zc zb (pl:Int)] 129 (0,0))):=zN _ _;obtain⟨p0,p1⟩:=za1 QA.X.p;obtain⟨o0,o1⟩:=za1 QA.X.o;have of:=fun i=>yU _ _ i _ _ QA.X.o;cases f
 ·go_wp2
  refine yX (v:=.tuple #[.agg #[za ra nr rc,za la ln lc],.bool false]) (by simp[results,Tryz.results124,go_sem,o0,o1]) rfl ?_;show yu5 _ _ _ _ _ _ _;have e1:LX=L:=HLL.X;have e2:RX=R:=HRR.X;rw[e1,e2];refine⟨ra,nr,rc,la,ln,lc,R,rfl,?_,?_,rfl,fun k _ h=>h⟩
  ·repeat(first|with_reducible exact QA.X.b|refine xd ?_ (by simp<;>omega) _)
  ·refine HP.X.below ?_
   repeat(first|with_reducible exact QA.X.b|refine xd ?_ (by simp<;>omega) _)
 ·have hgb:=HGO.X rfl
  obtain⟨dd,HDD⟩:=nmd (gD n zs os vs ko kv R (id,veh,pl));obtain⟨xs,HXS⟩:=nmd (chL true (insL (zc6 R veh).ids pl id));obtain⟨vv,HVV⟩:=nmd (chI true veh);obtain⟨xl,HXL⟩:=nmd xs.length;have HVE:Hid (vv=veh):=by show _=_;rw[<-HVV.X];rfl
  have CH0:=yi6 n fine a ao av ra cap ko co kv cv zs os vs R (w2.alloc (zd #[zc zb id,zc zb veh,zc zb (pl:Int)] 129)) (HA.X.below QA.X.b) (HO.X.below QA.X.b) (HV.X.below QA.X.b) HLO.X HLV.X (by omega) (by omega) HCB.X (HP.X.2.2.1.below QA.X.b) HI.X id veh pl true hgb dd HDD.X xs HXS.X;have RO0:∀W,Below (w2.alloc (zd #[zc zb id,zc zb veh,zc zb (pl:Int)] 129)).heap.size (w2.alloc (zd #[zc zb id,zc zb veh,zc zb (pl:Int)] 129)) W->_:=fun W hW=>zn8 ra la rc ln lc R veh W ((HP.X.2.2.1.below QA.X.b).below hW) (by rw[HN.X];omega) HS.X
  rw[HN.X]at RO0;rw[HLZ.X]at CH0;have G0:Hid (GB (w2.alloc (zd #[zc zb id,zc zb veh,zc zb (pl:Int)] 129)) (w2.alloc (zd #[zc zb id,zc zb veh,zc zb (pl:Int)] 129)) w.heap.size (w.heap.size+1) w2.heap.size #[zc zb n,za a zl cap,za ao ko co,za av kv cv,zc zb fine] (za ra nr rc) (za la ln lc) id veh pl):=GB.new QA.X.c QA.X.p SA.X;obtain⟨rl,HRL⟩:=nmd ((zc6 R veh).ids.length);obtain⟨ra9,HRA⟩:=nmd ((zc6 R veh).a);obtain⟨rc9,HRC⟩:=nmd ((zc6 R veh).c);rw[HRL.X,HRA.X,HRC.X]at RO0 CH0;have RO:Hid _:=RO0;have CH:Hid _:=CH0;have QZ:Hid (w.heap.size+3<=w2.heap.size):=Q2.X.size;have OQ:Hid ((w2.alloc (zd #[zc zb id,zc zb veh,zc zb (pl:Int)] 129)).heap[w.heap.size+2]? =some (zd #[za none 0 0,za none 0 0] 33 (0,0))):=QA.X.o;have BQ:Hid (Below w.heap.size w (w2.alloc (zd #[zc zb id,zc zb veh,zc zb (pl:Int)] 129))):=QA.X.b;clear RO0 CH0 Q2 QA SA p0 p1 o0 o1 of HGO hgb HDD;go_upto_region 4 with fail;obtain⟨ps,HPS⟩:=nmd w2.heap.size;obtain⟨pp,HPP⟩:=nmd (w.heap.size+1);obtain⟨pc,HPC⟩:=nmd w.heap.size;rw[HPS.X]at G0⊢;rw[HPP.X]at G0⊢;generalize w2.alloc (zd #[zc zb id,zc zb veh,zc zb (pl:Int)] 129)=W0 at*;have HPCQ:Hid (GB W0 W0 w.heap.size pp ps #[zc zb n,za a zl cap,za ao ko co,za av kv cv,zc zb fine] (za ra nr rc) (za la ln lc) id veh pl):=G0.X;clear G0;have G0:=HPCQ;rw[HPC.X]at G0⊢;have HPA:Hid (w.heap.size+2=pp+1):=by show _=_;have:=HPP.X;omega
  rw[HPA.X]at OQ;go_cut [9,10,11]from 27 to 41 (fun s9 s10 s11 wx=>∃(kz:Nat) (ad:Option Addr) (cg:Nat),s9=.pointer (some ⟨kz,0,none⟩)/\s10=zc zb dd/\s11=.bool true/\GB W0 wx pc pp ps #[zc zb n,za a zl cap,za ao ko co,za av kv cv,zc zb fine] (za ra nr rc) (za la ln lc) id veh pl/\wx.heap[kz]? =some (zd #[zc zb vv,za ad xl cg] 80 (0,0))/\wx.ownsRow W0.heap.size 2 1 (za ad xl cg) xl (xs.map (zc zb)))
  case first=>
   go_wp2_with fail
   refine qV (S:=(fun W=>W.cell? ⟨pc,0,none⟩=some (zc zb n)/\W.cell? ⟨pc,1,none⟩=some (za a zl cap)/\W.cell? ⟨pc,2,none⟩=some (za ao ko co)/\W.cell? ⟨pc,3,none⟩=some (za av kv cv)/\W.cell? ⟨pc,4,none⟩=some (zc zb fine)/\W.cell? ⟨pp,0,none⟩=some (za ra nr rc)/\W.cell? ⟨pp,1,none⟩=some (za la ln lc)/\W.cell? ⟨ps,0,none⟩=some (zc zb id)/\W.cell? ⟨ps,1,none⟩=some (zc zb veh)/\W.cell? ⟨ps,2,none⟩=some (zc zb (pl:Int)))) (by kernel_rfl) ?_ (fun hHeld=> ?_)
   ·exact(G0.X.below (yV _ _).drew).cells
   have GD:Hid (GB W0 W0.drew pc pp ps #[zc zb n,za a zl cap,za ao ko co,za av kv cv,zc zb fine] (za ra nr rc) (za la ln lc) id veh pl):=G0.X.below (yV _ _).drew;generalize W0.drew=wd at*;refine tkH 0 hHeld ?_;refine tkH 1 hHeld ?_;refine tkH 2 hHeld ?_;refine tkH 3 hHeld ?_;refine tkH 5 hHeld ?_;refine tkH 6 hHeld ?_;refine tkH 7 hHeld ?_;refine tkH 8 hHeld ?_;refine qT (rs:=[4,15]) (by kernel_rfl) (by simp) ?_;refine qR rfl (fun K hK=> ?_) ?_
   ·skip
    go_simp;refine(RO.X wd GD.X.b).mono ?_;rintro e w1 ⟨rfl,hb⟩;have G1:=za4 (GD.X.below hb);clear hb
    (try go_wp2_with fail)
    refine hK.out _ _ ?_ (fun hHeld=> ?_)
    ·exact G1.X.cells
    clear hK K
    (try simp only[zi,xB,zL,xC])
    refine qT (rs:=[9,15]) (by kernel_rfl) (by simp) ?_;refine qR rfl (fun K hK=> ?_) ?_
    ·skip
     go_simp;refine(zh4 id (pl:Int) w1).mono ?_;rintro e w2 ⟨p,q,rfl,hb,hcp,hcq⟩;have G2:=za4 (G1.X.below hb);have HP2:Hid (w2.cell? ⟨p,0,none⟩=some (zc zb (pl:Int))/\w2.cell? ⟨q,0,none⟩=some (zc zb id)):=⟨hcp,hcq⟩;have PB:Hid (Below w2.heap.size w2 w2):=yV _ _;clear hb hcp hcq
     (try go_wp2_with fail)
     refine hK.out _ _ ?_ (fun hHeld=> ?_)
     ·exact G2.X.cells
     clear hK K
     (try simp only[zi,xB,zL,xC])
     refine qT (rs:=[10,15]) (by kernel_rfl) (by simp) ?_;refine qR rfl (fun K hK=> ?_) ?_
     ·skip
      go_simp;refine(CH.X w2 w2 p q G2.X.b HP2.X.1 HP2.X.2 PB.X).mono ?_;rintro e w3 ⟨hb,ad,cg,rfl,ho⟩;rw[HVV.X,HXL.X];have G3:=za4 (G2.X.below hb);have O3:Hid (w3.ownsRow W0.heap.size 2 1 (za ad xl cg) xl (xs.map (zc zb))):=by rw[HXL.X]at ho;exact zc4 ho G2.X.b.size
      clear hb ho
      (try go_wp2_with fail)
      refine hK.out _ _ ?_ (fun hHeld=> ?_)
      ·exact G3.X.cells
      clear hK K
      (try simp only[zi,xB,zL,xC])
      refine tkH 11 hHeld ?_;refine tkH 12 hHeld ?_;refine tkH 13 hHeld ?_;refine tkH 14 hHeld ?_;refine qT (rs:=[15]) (by kernel_rfl) (by simp) ?_;refine qR rfl (fun K hK=> ?_) qS;have GZ:Hid (GB W0 (w3.alloc (zd #[zc zb 0,za none 0 0] 80)) pc pp ps #[zc zb n,za a zl cap,za ao ko co,za av kv cv,zc zb fine] (za ra nr rc) (za la ln lc) id veh pl):=G3.X.below (zK _);have VZ0:Hid ((w3.alloc (zd #[zc zb 0,za none 0 0] 80)).heap[w3.heap.size]? =some (zd #[zc zb 0,za none 0 0] 80 (0,0))):=zN _ _;have HZL:Hid (W0.heap.size<=w3.heap.size):=G3.X.b.size;have OZ:Hid (zk (w3.alloc (zd #[zc zb 0,za none 0 0] 80)) W0.heap.size 2 1 (za ad xl cg) xl (xs.map (zc zb))):=O3.X.alloc _;go_simp;refine hK.out _ _ ?_ (fun hHeld=> ?_)
      ·exact GZ.X.cells
      clear hK K
      (try simp only[zi,xB,zL,xC])
      obtain⟨kz,HKZ⟩:=nmd w3.heap.size;rw[HKZ.X]at VZ0 HZL⊢;generalize(w3.alloc (zd #[zc zb 0,za none 0 0] 80))=wz at*;obtain⟨z0,z1⟩:=za1 VZ0.X;have zf:=fun i=>yU _ _ i _ _ VZ0.X;refine qT (rs:=[16]) (by kernel_rfl) (by simp) ?_;refine qR rfl (fun K hK=> ?_) qS;have G5:Hid (GB W0 ((wz.setCell ⟨kz,0,none⟩ (zc zb vv)).setCell ⟨kz,1,none⟩ (za ad xl cg)) pc pp ps #[zc zb n,za a zl cap,za ao ko co,za av kv cv,zc zb fine] (za ra nr rc) (za la ln lc) id veh pl):=(GZ.X.set HZL.X).set HZL.X;have V5:Hid (((wz.setCell ⟨kz,0,none⟩ (zc zb vv)).setCell ⟨kz,1,none⟩ (za ad xl cg)).heap[kz]? =some (zd #[zc zb vv,za ad xl cg] 80 (0,0))):=by
       have s1:=zP wz kz 0 _ _ (zc zb vv) VZ0.X;have s2:=zP _ kz 1 _ _ (za ad xl cg) s1;simp at s2;exact s2
      have O5:Hid (zk ((wz.setCell ⟨kz,0,none⟩ (zc zb vv)).setCell ⟨kz,1,none⟩ (za ad xl cg)) W0.heap.size 2 1 (za ad xl cg) xl (xs.map (zc zb))):=zd4 (zd4 OZ.X VZ0.X) (by exact zP _ kz 0 _ _ _ VZ0.X);go_simp;refine hK.out _ _ ?_ (fun hHeld=> ?_)
      ·exact G5.X.cells
      clear hK K;generalize((wz.setCell ⟨kz,0,none⟩ (zc zb vv)).setCell ⟨kz,1,none⟩ (za ad xl cg))=w5 at*;refine tkH 17 hHeld ?_;refine tkH 18 hHeld ?_;refine qU (by kernel_rfl) ?_ _;clear hHeld
      (try go_wp2_with fail)
      go_meet;exact⟨kz,ad,cg,rfl,rfl,rfl,G5.X,V5.X,O5.X⟩
     refine qR rfl (fun K hK=> ?_) qS;have GZ:Hid (GB W0 (w2.alloc (zd #[zc zb 0,za none 0 0] 80)) pc pp ps #[zc zb n,za a zl cap,za ao ko co,za av kv cv,zc zb fine] (za ra nr rc) (za la ln lc) id veh pl):=G2.X.below (zK _);have VZ0:Hid ((w2.alloc (zd #[zc zb 0,za none 0 0] 80)).heap[w2.heap.size]? =some (zd #[zc zb 0,za none 0 0] 80 (0,0))):=zN _ _;have HZL:Hid (W0.heap.size<=w2.heap.size):=G2.X.b.size;have PBZ:Hid (Below w2.heap.size w2 (w2.alloc (zd #[zc zb 0,za none 0 0] 80))):=zK _;go_simp;refine hK.out _ _ ?_ (fun hHeld=> ?_)
     ·exact GZ.X.cells
     clear hK K
     (try simp only[zi,xB,zL,xC])
     obtain⟨kz,HKZ⟩:=nmd w2.heap.size;rw[HKZ.X]at VZ0 HZL⊢;generalize(w2.alloc (zd #[zc zb 0,za none 0 0] 80))=wz at*;obtain⟨z0,z1⟩:=za1 VZ0.X;have zf:=fun i=>yU _ _ i _ _ VZ0.X;refine qT (rs:=[10]) (by kernel_rfl) (by simp) ?_;refine qR rfl (fun K hK=> ?_) qS;go_simp;refine(CH.X w2 wz p q G2.X.b HP2.X.1 HP2.X.2 PBZ.X).mono ?_;rintro e w3 ⟨hb,ad,cg,rfl,ho⟩;rw[HVV.X,HXL.X];have G3:=za4 (GZ.X.below hb);have O3:Hid (w3.ownsRow W0.heap.size 2 1 (za ad xl cg) xl (xs.map (zc zb))):=by rw[HXL.X]at ho;exact zc4 ho GZ.X.b.size
     have VZ3:=za4 (za0 hb (za2 VZ0.X) VZ0.X);obtain⟨z0,z1⟩:=za1 VZ3.X;have zf:=fun i=>yU _ _ i _ _ VZ3.X;clear hb ho
     (try go_wp2_with fail)
     refine hK.out _ _ ?_ (fun hHeld=> ?_)
     ·exact G3.X.cells
     clear hK K
     (try simp only[zi,xB,zL,xC])
     refine tkH 11 hHeld ?_;refine tkH 12 hHeld ?_;refine tkH 13 hHeld ?_;refine tkH 14 hHeld ?_;refine qT (rs:=[16]) (by kernel_rfl) (by simp) ?_;refine qR rfl (fun K hK=> ?_) qS;have G5:Hid (GB W0 ((w3.setCell ⟨kz,0,none⟩ (zc zb vv)).setCell ⟨kz,1,none⟩ (za ad xl cg)) pc pp ps #[zc zb n,za a zl cap,za ao ko co,za av kv cv,zc zb fine] (za ra nr rc) (za la ln lc) id veh pl):=(G3.X.set HZL.X).set HZL.X;have V5:Hid (((w3.setCell ⟨kz,0,none⟩ (zc zb vv)).setCell ⟨kz,1,none⟩ (za ad xl cg)).heap[kz]? =some (zd #[zc zb vv,za ad xl cg] 80 (0,0))):=by
      have s1:=zP w3 kz 0 _ _ (zc zb vv) VZ3.X;have s2:=zP _ kz 1 _ _ (za ad xl cg) s1;simp at s2;exact s2
     have O5:Hid (zk ((w3.setCell ⟨kz,0,none⟩ (zc zb vv)).setCell ⟨kz,1,none⟩ (za ad xl cg)) W0.heap.size 2 1 (za ad xl cg) xl (xs.map (zc zb))):=zd4 (zd4 O3.X VZ3.X) (by exact zP _ kz 0 _ _ _ VZ3.X);go_simp;refine hK.out _ _ ?_ (fun hHeld=> ?_)
     ·exact G5.X.cells
     clear hK K;generalize((w3.setCell ⟨kz,0,none⟩ (zc zb vv)).setCell ⟨kz,1,none⟩ (za ad xl cg))=w5 at*;refine tkH 17 hHeld ?_;refine tkH 18 hHeld ?_;refine qU (by kernel_rfl) ?_ _;clear hHeld
     (try go_wp2_with fail)
     go_meet;exact⟨kz,ad,cg,rfl,rfl,rfl,G5.X,V5.X,O5.X⟩
    refine qR rfl (fun K hK=> ?_) qS;have GZ:Hid (GB W0 (w1.alloc (zd #[zc zb 0,za none 0 0] 80)) pc pp ps #[zc zb n,za a zl cap,za ao ko co,za av kv cv,zc zb fine] (za ra nr rc) (za la ln lc) id veh pl):=G1.X.below (zK _);have VZ0:Hid ((w1.alloc (zd #[zc zb 0,za none 0 0] 80)).heap[w1.heap.size]? =some (zd #[zc zb 0,za none 0 0] 80 (0,0))):=zN _ _;have HZL:Hid (W0.heap.size<=w1.heap.size):=G1.X.b.size;go_simp;refine hK.out _ _ ?_ (fun hHeld=> ?_)
    ·exact GZ.X.cells
    clear hK K
    (try simp only[zi,xB,zL,xC])
    obtain⟨kz,HKZ⟩:=nmd w1.heap.size;rw[HKZ.X]at VZ0 HZL⊢;generalize(w1.alloc (zd #[zc zb 0,za none 0 0] 80))=wz at*;obtain⟨z0,z1⟩:=za1 VZ0.X;have zf:=fun i=>yU _ _ i _ _ VZ0.X;refine qT (rs:=[9]) (by kernel_rfl) (by simp) ?_;refine qR rfl (fun K hK=> ?_) qS;go_simp;refine(zh4 id (pl:Int) wz).mono ?_;rintro e w2 ⟨p,q,rfl,hb,hcp,hcq⟩;have G2:=za4 (GZ.X.below hb);have HP2:Hid (w2.cell? ⟨p,0,none⟩=some (zc zb (pl:Int))/\w2.cell? ⟨q,0,none⟩=some (zc zb id)):=⟨hcp,hcq⟩;have PB:Hid (Below w2.heap.size w2 w2):=yV _ _;have VZ2:=za4 (za0 hb (za2 VZ0.X) VZ0.X);clear hb hcp hcq
    (try go_wp2_with fail)
    refine hK.out _ _ ?_ (fun hHeld=> ?_)
    ·exact G2.X.cells
    clear hK K
    (try simp only[zi,xB,zL,xC])
    refine qT (rs:=[10]) (by kernel_rfl) (by simp) ?_;refine qR rfl (fun K hK=> ?_) qS;go_simp;refine(CH.X w2 w2 p q G2.X.b HP2.X.1 HP2.X.2 PB.X).mono ?_;rintro e w3 ⟨hb,ad,cg,rfl,ho⟩;rw[HVV.X,HXL.X];have G3:=za4 (G2.X.below hb);have O3:Hid (w3.ownsRow W0.heap.size 2 1 (za ad xl cg) xl (xs.map (zc zb))):=by rw[HXL.X]at ho;exact zc4 ho G2.X.b.size
    have VZ3:=za4 (za0 hb (za2 VZ2.X) VZ2.X);obtain⟨z0,z1⟩:=za1 VZ3.X;have zf:=fun i=>yU _ _ i _ _ VZ3.X;clear hb ho
    (try go_wp2_with fail)
    refine hK.out _ _ ?_ (fun hHeld=> ?_)
    ·exact G3.X.cells
    clear hK K
    (try simp only[zi,xB,zL,xC])
    refine tkH 11 hHeld ?_;refine tkH 12 hHeld ?_;refine tkH 13 hHeld ?_;refine tkH 14 hHeld ?_;refine qT (rs:=[16]) (by kernel_rfl) (by simp) ?_;refine qR rfl (fun K hK=> ?_) qS;have G5:Hid (GB W0 ((w3.setCell ⟨kz,0,none⟩ (zc zb vv)).setCell ⟨kz,1,none⟩ (za ad xl cg)) pc pp ps #[zc zb n,za a zl cap,za ao ko co,za av kv cv,zc zb fine] (za ra nr rc) (za la ln lc) id veh pl):=(G3.X.set HZL.X).set HZL.X;have V5:Hid (((w3.setCell ⟨kz,0,none⟩ (zc zb vv)).setCell ⟨kz,1,none⟩ (za ad xl cg)).heap[kz]? =some (zd #[zc zb vv,za ad xl cg] 80 (0,0))):=by
     have s1:=zP w3 kz 0 _ _ (zc zb vv) VZ3.X;have s2:=zP _ kz 1 _ _ (za ad xl cg) s1;simp at s2;exact s2
    have O5:Hid (zk ((w3.setCell ⟨kz,0,none⟩ (zc zb vv)).setCell ⟨kz,1,none⟩ (za ad xl cg)) W0.heap.size 2 1 (za ad xl cg) xl (xs.map (zc zb))):=zd4 (zd4 O3.X VZ3.X) (by exact zP _ kz 0 _ _ _ VZ3.X);go_simp;refine hK.out _ _ ?_ (fun hHeld=> ?_)
    ·exact G5.X.cells
    clear hK K;generalize((w3.setCell ⟨kz,0,none⟩ (zc zb vv)).setCell ⟨kz,1,none⟩ (za ad xl cg))=w5 at*;refine tkH 17 hHeld ?_;refine tkH 18 hHeld ?_;refine qU (by kernel_rfl) ?_ _;clear hHeld
    (try go_wp2_with fail)
    go_meet;exact⟨kz,ad,cg,rfl,rfl,rfl,G5.X,V5.X,O5.X⟩
   refine qR rfl (fun K hK=> ?_) qS;have GZ:Hid (GB W0 (wd.alloc (zd #[zc zb 0,za none 0 0] 80)) pc pp ps #[zc zb n,za a zl cap,za ao ko co,za av kv cv,zc zb fine] (za ra nr rc) (za la ln lc) id veh pl):=GD.X.below (zK _);have VZ0:Hid ((wd.alloc (zd #[zc zb 0,za none 0 0] 80)).heap[wd.heap.size]? =some (zd #[zc zb 0,za none 0 0] 80 (0,0))):=zN _ _;have HZL:Hid (W0.heap.size<=wd.heap.size):=GD.X.b.size;go_simp;refine hK.out _ _ ?_ (fun hHeld=> ?_)
   ·exact GZ.X.cells
   clear hK K
   (try simp only[zi,xB,zL,xC])
   obtain⟨kz,HKZ⟩:=nmd wd.heap.size;rw[HKZ.X]at VZ0 HZL⊢;generalize(wd.alloc (zd #[zc zb 0,za none 0 0] 80))=wz at*;obtain⟨z0,z1⟩:=za1 VZ0.X;have zf:=fun i=>yU _ _ i _ _ VZ0.X;refine qT (rs:=[4]) (by kernel_rfl) (by simp) ?_;refine qR rfl (fun K hK=> ?_) qS;go_simp;refine(RO.X wz GZ.X.b).mono ?_;rintro e w1 ⟨rfl,hb⟩;have G1:=za4 (GZ.X.below hb);have VZ1:=za4 (za0 hb (za2 VZ0.X) VZ0.X);clear hb
   (try go_wp2_with fail)
   refine hK.out _ _ ?_ (fun hHeld=> ?_)
   ·exact G1.X.cells
   clear hK K
   (try simp only[zi,xB,zL,xC])
   refine qT (rs:=[9]) (by kernel_rfl) (by simp) ?_;refine qR rfl (fun K hK=> ?_) qS;go_simp;refine(zh4 id (pl:Int) w1).mono ?_;rintro e w2 ⟨p,q,rfl,hb,hcp,hcq⟩;have G2:=za4 (G1.X.below hb);have HP2:Hid (w2.cell? ⟨p,0,none⟩=some (zc zb (pl:Int))/\w2.cell? ⟨q,0,none⟩=some (zc zb id)):=⟨hcp,hcq⟩;have PB:Hid (Below w2.heap.size w2 w2):=yV _ _;have VZ2:=za4 (za0 hb (za2 VZ1.X) VZ1.X);clear hb hcp hcq
   (try go_wp2_with fail)
   refine hK.out _ _ ?_ (fun hHeld=> ?_)
   ·exact G2.X.cells
   clear hK K
   (try simp only[zi,xB,zL,xC])
   refine qT (rs:=[10]) (by kernel_rfl) (by simp) ?_;refine qR rfl (fun K hK=> ?_) qS;go_simp;refine(CH.X w2 w2 p q G2.X.b HP2.X.1 HP2.X.2 PB.X).mono ?_;rintro e w3 ⟨hb,ad,cg,rfl,ho⟩;rw[HVV.X,HXL.X];have G3:=za4 (G2.X.below hb);have O3:Hid (w3.ownsRow W0.heap.size 2 1 (za ad xl cg) xl (xs.map (zc zb))):=by rw[HXL.X]at ho;exact zc4 ho G2.X.b.size
   have VZ3:=za4 (za0 hb (za2 VZ2.X) VZ2.X);obtain⟨z0,z1⟩:=za1 VZ3.X;have zf:=fun i=>yU _ _ i _ _ VZ3.X;clear hb ho
   (try go_wp2_with fail)
   refine hK.out _ _ ?_ (fun hHeld=> ?_)
   ·exact G3.X.cells
   clear hK K
   (try simp only[zi,xB,zL,xC])
   refine tkH 11 hHeld ?_;refine tkH 12 hHeld ?_;refine tkH 13 hHeld ?_;refine tkH 14 hHeld ?_;refine qT (rs:=[16]) (by kernel_rfl) (by simp) ?_;refine qR rfl (fun K hK=> ?_) qS;have G5:Hid (GB W0 ((w3.setCell ⟨kz,0,none⟩ (zc zb vv)).setCell ⟨kz,1,none⟩ (za ad xl cg)) pc pp ps #[zc zb n,za a zl cap,za ao ko co,za av kv cv,zc zb fine] (za ra nr rc) (za la ln lc) id veh pl):=(G3.X.set HZL.X).set HZL.X;have V5:Hid (((w3.setCell ⟨kz,0,none⟩ (zc zb vv)).setCell ⟨kz,1,none⟩ (za ad xl cg)).heap[kz]? =some (zd #[zc zb vv,za ad xl cg] 80 (0,0))):=by
    have s1:=zP w3 kz 0 _ _ (zc zb vv) VZ3.X;have s2:=zP _ kz 1 _ _ (za ad xl cg) s1;simp at s2;exact s2
   have O5:Hid (zk ((w3.setCell ⟨kz,0,none⟩ (zc zb vv)).setCell ⟨kz,1,none⟩ (za ad xl cg)) W0.heap.size 2 1 (za ad xl cg) xl (xs.map (zc zb))):=zd4 (zd4 O3.X VZ3.X) (by exact zP _ kz 0 _ _ _ VZ3.X);go_simp;refine hK.out _ _ ?_ (fun hHeld=> ?_)
   ·exact G5.X.cells
   clear hK K;generalize((w3.setCell ⟨kz,0,none⟩ (zc zb vv)).setCell ⟨kz,1,none⟩ (za ad xl cg))=w5 at*;refine tkH 17 hHeld ?_;refine tkH 18 hHeld ?_;refine qU (by kernel_rfl) ?_ _;clear hHeld
   (try go_wp2_with fail)
   go_meet;exact⟨kz,ad,cg,rfl,rfl,rfl,G5.X,V5.X,O5.X⟩
  case rest=>
   obtain⟨kz,ad,cg,rfl,rfl,rfl,hG5,hV5,hO5⟩:=hcut;obtain⟨w5,hw5⟩:∃v,v=wc:=⟨_,rfl⟩;subst hw5;have G5:=za4 hG5;have V5:=za4 hV5;have O5:=za4 hO5;clear hG5 hV5 hO5;clear RO CH HVV;obtain⟨c0,c1,c2,c3,c4,p0,p1,-,-,-⟩:=G5.X.cells;obtain⟨k0,k1⟩:=za1 V5.X;have B5:Hid (Below w.heap.size w w5):=BQ.X.trans (G5.X.b.mono BQ.X.size);have hx1000:xs.length<=1000:=by
    rw[<-HXS.X];show(insL (zc6 R veh).ids pl id).length<=1000;have h1:=yC2 (zc6 R veh).ids pl id;have h2:=z50 (fun r hr=>(HI.X r hr).2.1) veh;omega
   have WR:=zp3 ra la rc ln lc R ⟨vv,ad,xs,cg⟩ w5 (HP.X.2.2.1.below B5.X) (by rw[HN.X];exact hn) HS.X (by rw[HN.X];exact HP.X.2.2.2.2.1) hx1000;simp only[HN.X,HXL.X]at WR
   go_wp2_with fail
   refine WR.mono ?_;rintro e w6 ⟨sl,rfl,hb6,ho6⟩;obtain⟨m6,HM6⟩:=nmd ((wrL R ⟨vv,ad,xs,cg⟩).length);rw[HM6.X]at ho6;obtain⟨sa6,sc6,e⟩:=zp4 ho6;subst e;have G6:=za4 (G5.X.below hb6);have O6:=za4 (zc5 O5.X hb6);have R6:Hid (w6.ownsRow W0.heap.size 80 2 (za sa6 m6 sc6) m6 (zg5 (wrL R ⟨vv,ad,xs,cg⟩))):=zc4 ho6 G5.X.b.size;clear hb6 ho6 WR c0 c1 c2 c3 c4 p0 p1 k0 k1 B5;have G7:Hid (GB W0 (w6.alloc (zd #[za sa6 m6 sc6,za la ln lc] 33)) pc pp ps #[zc zb n,za a zl cap,za ao ko co,za av kv cv,zc zb fine] (za ra nr rc) (za la ln lc) id veh pl):=G6.X.below (zK _);have N7:Hid ((w6.alloc (zd #[za sa6 m6 sc6,za la ln lc] 33)).heap[w6.heap.size]? =some (zd #[za sa6 m6 sc6,za la ln lc] 33 (0,0))):=zN _ _;have O7:Hid (zk (w6.alloc (zd #[za sa6 m6 sc6,za la ln lc] 33)) W0.heap.size 2 1 (za ad xl cg) xl (xs.map (zc zb))):=O6.X.alloc _;have R7:Hid (zk (w6.alloc (zd #[za sa6 m6 sc6,za la ln lc] 33)) W0.heap.size 80 2 (za sa6 m6 sc6) m6 (zg5 (wrL R ⟨vv,ad,xs,cg⟩))):=R6.X.alloc _;have HKN:Hid (W0.heap.size<=w6.heap.size):=G6.X.b.size;obtain⟨p0,p1⟩:=za1 G7.X.p;have B7:Hid (Below w.heap.size w (w6.alloc (zd #[za sa6 m6 sc6,za la ln lc] 33))):=BQ.X.trans (G7.X.b.mono BQ.X.size);have CL:=z59 la lc ln L (w6.alloc (zd #[za sa6 m6 sc6,za la ln lc] 33)) (HP.X.2.2.2.1.below B7.X) HM.X (by omega) HP.X.2.2.2.2.2.1
   go_wp2_with fail
   obtain⟨kn,HKE⟩:=nmd w6.heap.size;rw[HKE.X]at N7 HKN⊢;generalize w6.alloc (zd #[za sa6 m6 sc6,za la ln lc] 33)=w7 at*;refine CL.mono ?_;rintro e w8 ⟨sl,rfl,hb8,ho8⟩;have G8:=za4 (G7.X.below hb8);have N8:=za4 (za0 hb8 (za2 N7.X) N7.X);have O8:=za4 (zc5 O7.X hb8);have R8:=za4 (zc5 R7.X hb8);have HLT:Hid ((∀k,(za ad xl cg).ownBlock=some k->k<w7.heap.size)/\(∀k,(za sa6 m6 sc6).ownBlock=some k->k<w7.heap.size)/\kn<w7.heap.size):=⟨fun k e=>(O7.X.lt k e).2,fun k e=>(R7.X.lt k e).2,za2 N7.X⟩;have CF:=yc0 sl ln w7.heap.size ps L id w8 ho8 HM.X (by omega) hb8.size (zw8 G8.X.s).1 (by have:=G7.X.l.2.2;have:=G7.X.b.size;omega);have HW7:Hid (W0.heap.size<=w7.heap.size):=G7.X.b.size;clear CL p0 p1 ho8 hb8
   go_wp2_with fail
   refine CF.mono ?_;rintro e w9 ⟨sl9,rfl,hb9,ho9⟩;obtain⟨m8,HM8⟩:=nmd ((zn1 L id).length);rw[HM8.X]at ho9;obtain⟨sa8,sc8,e⟩:=zp4 ho9;subst e;have N9:Hid (w9.heap[kn]? =some (zd #[za sa6 m6 sc6,za la ln lc] 33 (0,0))):=za0 hb9 HLT.X.2.2 N8.X;have O9:Hid (w9.ownsRow W0.heap.size 2 1 (za ad xl cg) xl (xs.map (zc zb))):=zu5 O8.X hb9 HLT.X.1;have R9:Hid (w9.ownsRow W0.heap.size 80 2 (za sa6 m6 sc6) m6 (zg5 (wrL R ⟨vv,ad,xs,cg⟩))):=zu5 R8.X hb9 HLT.X.2.1;have L9:=za4 ho9;have B9:Hid (Below W0.heap.size W0 w9):=G8.X.b.trans (hb9.mono HW7.X);have A9:=za4 (za0 B9.X (za2 OQ.X) OQ.X);obtain⟨n0,n1⟩:=za1 N9.X;have nf:=fun i=>yU _ _ i _ _ N9.X;have NS:Hid ((w9.setCell ⟨kn,1,none⟩ (za sa8 m8 sc8)).heap[kn]? =some (zd #[za sa6 m6 sc6,za sa8 m8 sc8] 33 (0,0))):=by
    have s1:=zP w9 kn 1 _ _ (za sa8 m8 sc8) N9.X;simp at s1;exact s1
   have AS:Hid ((w9.setCell ⟨kn,1,none⟩ (za sa8 m8 sc8)).heap[pp+1]? =some (zd #[za none 0 0,za none 0 0] 33 (0,0))):=za6 A9.X (by have:=za2 OQ.X;have:=HKN.X;omega);have OS:=ze6 (i:=1) (u:=za sa8 m8 sc8) O9.X N9.X (by decide);have RS:=ze6 (i:=1) (u:=za sa8 m8 sc8) R9.X N9.X (by decide);have LSx:=ze6 (i:=1) (u:=za sa8 m8 sc8) L9.X N9.X (by decide);have HBX:Hid (Below w.heap.size w (w9.setCell ⟨kn,1,none⟩ (za sa8 m8 sc8))):=(BQ.X.trans (B9.X.mono BQ.X.size)).setCell (by have:=BQ.X.size;have:=HKN.X;simp;omega) _;have OS:Hid _:=OS;have RS:Hid _:=RS;have LSx:Hid _:=LSx;clear hb9 ho9 CF;obtain⟨a0,a1⟩:=za1 AS.X;have af:=fun i=>yU _ _ i _ _ AS.X;obtain⟨s0,s1⟩:=za1 NS.X
   go_wp2_with fail
   generalize w9.setCell ⟨kn,1,none⟩ (za sa8 m8 sc8)=wf at*;go_wp2;refine yX (v:=.tuple #[.agg #[za sa6 m6 sc6,za sa8 m8 sc8],.bool true]) (by simp[results,Tryz.results124,go_sem,a0,a1]) rfl ?_;show yu5 _ _ _ _ _ _ _;have e1:LX=zn1 L id:=HLL.X;have e2:RX=wrL R (oneT R (id,veh,pl)):=HRR.X;have hbf:Below w.heap.size w ((wf.setCell ⟨pp+1,0,none⟩ (za sa6 m6 sc6)).setCell ⟨pp+1,1,none⟩ (za sa8 m8 sc8)):=(HBX.X.setCell (by have:=HPP.X;simp;omega) _).setCell (by have:=HPP.X;simp;omega) _;have as1:=zP wf (pp+1) 0 _ _ (za sa6 m6 sc6) AS.X;have OF:=ze6 (i:=1) (u:=za sa8 m8 sc8) (ze6 (i:=0) (u:=za sa6 m6 sc6) OS.X AS.X (by decide)) as1 (by decide);have RF:=ze6 (i:=1) (u:=za sa8 m8 sc8) (ze6 (i:=0) (u:=za sa6 m6 sc6) RS.X AS.X (by decide)) as1 (by decide);have LF:=ze6 (i:=1) (u:=za sa8 m8 sc8) (ze6 (i:=0) (u:=za sa6 m6 sc6) LSx.X AS.X (by decide)) as1 (by decide);have IX:za3 ((wf.setCell ⟨pp+1,0,none⟩ (za sa6 m6 sc6)).setCell ⟨pp+1,1,none⟩ (za sa8 m8 sc8)) ad xs:=zj8 OF;have hmem:∀r∈wrL R ⟨vv,ad,xs,cg⟩,r∈R∨r=⟨vv,ad,xs,cg⟩:=fun r hr=>zy8 hr;refine⟨sa6,m6,sc6,sa8,m8,sc8,wrL R ⟨vv,ad,xs,cg⟩,rfl,hbf,⟨HM6.X,by rw[e1];exact HM8.X,zm1 RF (fun r hr=> ?_),by rw[e1];exact zj8 LF,z76 RF,z76 LF,fun r hr=> ?_⟩,?_,fun k hk h=>⟨fun _=>ye5 RF (by have:=BQ.X.size;omega),fun _=>ye5 LF (by have:=BQ.X.size;have:=HW7.X;omega),fun r hr hne b off e=> ?_⟩⟩
   ·rcases hmem r hr with h|h
    ·obtain⟨j,hj,rfl⟩:=zo5 h
     obtain⟨_,_,_,_,_,h2⟩:=HP.X.2.2.1 j hj;exact h2.below hbf
    ·rw[h];exact IX
   ·rcases hmem r hr with h|h
    ·exact HP.X.2.2.2.2.2.2 r h
    ·rw[h]
     show xs.length<=cg;rw[HXL.X];exact yk2 OF
   ·rw[e2]
    refine z72 rfl ?_;show(vv,xs)=(veh,insL (zc6 R veh).ids pl id);rw[HVE.X,<-HXS.X];rfl
   ·rcases hmem r hr with h9|h9
    ·exact h.2.2 r h9 hne b off e
    ·rw[h9]at e
     exact ye5 OF (by have:=BQ.X.size;omega) b off e
def yt0(W:zg)(k:Nat):Nat:=match W.cell? ⟨k,1,none⟩with
 |some (za _ n _)=>n
 |_=>0
def yK4(t:Value)(n:Nat):Nat:=match t with
 | .bool true=>n
 |_=>0
def ye9(w:zg)(K:Nat->Prop)(T:List RT)(L:List Int)(e:Ending)(w':zg):Prop:=∃ra rn rc la ln lc R,e=.returned (.agg #[za ra rn rc,za la ln lc])/\Below w.heap.size w w'/\zb8 w' ra la rn ln R L/\R.map RT.key=T.map RT.key/\(∀r∈R,r.ids≠[]/\r.ids.length<=12)/\rn<=100/\ln<=12/\∀k,k<w.heap.size->K k->zj0 k ra la R L
theorem yb8(n fine:Int)(a ao av ra la:Option Addr)(zl cap ko co kv cv nr rc ln lc:Nat)(zs os vs L:List Int)(R:List RT)(w:zg)(hA:za3 w a zs)(hO:za3 w ao os)(hV:za3 w av vs)(hlz:zs.length=zl)(hlo:os.length=ko*6)(hlv:vs.length=kv*5)(hko:ko<=12)(hkv:kv<=5)(hcB:zc8 n zs os vs ko kv fine=true)(hP:zb8 w ra la nr ln R L)(hn:nr<=12)(hln:ln<=12)(hS:zg1 R)(hi:zx3 R):
 Calls Tryz.prog 82 #[.agg #[zc zb n,za a zl cap,za ao ko co,za av kv cv,zc zb fine],.agg #[za ra nr rc,za la ln lc]] w (ye9 w (fun k=>zj0 k ra la R L) (grd n fine zs os vs ko kv L.length R L).1 (grd n fine zs os vs ko kv L.length R L).2):=by
 have HA:=za4 hA;have HO:=za4 hO;have HV:=za4 hV;have HLZ:=za4 hlz;have HLO:=za4 hlo;have HLV:=za4 hlv;have HCB:=za4 hcB;have HP:=za4 hP;have HS:=za4 hS;have HI:=za4 hi;have HOF:Hid (∀k,w.heap.size<=k->zj0 k ra la R L):=fun k hk=>hP.far hk;clear hA hO hV hlz hlo hlv hcB hP hS hi;obtain⟨TR,HTR⟩:=nmd ((grd n fine zs os vs ko kv L.length R L).1);obtain⟨TL,HTL⟩:=nmd ((grd n fine zs os vs ko kv L.length R L).2);rw[HTR.X,HTL.X];have Q0:Hid (GQ w (((w.alloc (zd #[zc zb n,za a zl cap,za ao ko co,za av kv cv,zc zb fine] 30)).alloc (zd #[za ra nr rc,za la ln lc] 33)).alloc (zd #[za none 0 0,za none 0 0] 33)) #[zc zb n,za a zl cap,za ao ko co,za av kv cv,zc zb fine] #[za ra nr rc,za la ln lc]):=by
  refine⟨((zK _).alloc (by simp) _).alloc (by simp;omega) _,?_,?_,?_⟩
  ·exact(yY _ _ (by simp;omega)).trans (xb _ _ _)
  ·exact(yY _ _ (by simp)).trans (y8 _ _ _)
  ·have:=zN ((w.alloc (zd #[zc zb n,za a zl cap,za ao ko co,za av kv cv,zc zb fine] 30)).alloc (zd #[za ra nr rc,za la ln lc] 33)) (zd #[za none 0 0,za none 0 0] 33)
   simpa using this
 have HP0:=za4 (HP.X.below Q0.X.b);go_enter Tryz.func82,Tryz.ntmps82
 go_wp2_with fail
 generalize((w.alloc (zd #[zc zb n,za a zl cap,za ao ko co,za av kv cv,zc zb fine] 30)).alloc (zd #[za ra nr rc,za la ln lc] 33)).alloc (zd #[za none 0 0,za none 0 0] 33)=W0 at*;go_loopw[5] (fun t wr=>∃(m:Bool) (ra9 la9:Option Addr) (rn9 rc9 ln9 lc9:Nat) (R9:List RT) (L9:List Int),t=.bool m/\GQ w wr #[zc zb n,za a zl cap,za ao ko co,za av kv cv,zc zb fine] #[za ra9 rn9 rc9,za la9 ln9 lc9]/\zb8 wr ra9 la9 rn9 ln9 R9 L9/\zj0 (w.heap.size+1) ra9 la9 R9 L9/\zj0 (w.heap.size+2) ra9 la9 R9 L9/\(∀k,k<w.heap.size->zj0 k ra la R L->zj0 k ra9 la9 R9 L9)/\rn9+ln9<=24/\ln9<=12/\zg1 R9/\zx3 R9/\(m=true->(grd n fine zs os vs ko kv L9.length R9 L9).1.map RT.key=TR.map RT.key/\(grd n fine zs os vs ko kv L9.length R9 L9).2=TL)/\(m=false->R9.map RT.key=TR.map RT.key/\L9=TL)) (fun t wr=>yK4 t (yt0 wr (w.heap.size+1)+1))
 case atStart=>exact⟨true,ra,la,nr,rc,ln,lc,R,L,rfl,Q0.X,HP0.X,HOF.X _ (by omega),HOF.X _ (by omega),fun _ _ h=>h,by omega,hln,HS.X,HI.X,fun _=>⟨by rw[HTR.X],HTL.X⟩,fun h=>by cases h⟩
 case round=>
  clear Q0 HP0 HP HS HI HOF;obtain⟨m,ra9,la9,rn9,rc9,ln9,lc9,R9,L9,rfl,hq,hp,ho1,ho2,ho3,h24,h12,hs,hi,ht,hf⟩:=hrel;have Q1:=za4 hq;have P1:=za4 hp;have F1:Hid (zj0 (w.heap.size+1) ra9 la9 R9 L9/\zj0 (w.heap.size+2) ra9 la9 R9 L9/\(∀k,k<w.heap.size->zj0 k ra la R L->zj0 k ra9 la9 R9 L9)):=⟨ho1,ho2,ho3⟩;have S1:=za4 hs;have I1:=za4 hi;have HT:=za4 ht;have HF:=za4 hf;clear hq hp hs hi ht hf ho1 ho2 ho3;obtain⟨c0,c1,c2,c3,c4⟩:=za7 Q1.X.c;obtain⟨p0,p1⟩:=za1 Q1.X.p;cases m
  ·obtain⟨a0,a1⟩:=za1 Q1.X.o
   have af:=fun i=>yU _ _ i _ _ Q1.X.o;obtain⟨hk,hl⟩:=HF.X rfl;have HK:=za4 hk;have HLT:=za4 hl;clear hk hl;go_wp2;refine yX (v:=.agg #[za ra9 rn9 rc9,za la9 ln9 lc9]) (by simp[results,Tryz.results82,go_sem,a0,a1]) rfl ?_;show ye9 _ _ _ _ _ _;have hbf:Below w.heap.size w ((wr.setCell ⟨w.heap.size+2,0,none⟩ (za ra9 rn9 rc9)).setCell ⟨w.heap.size+2,1,none⟩ (za la9 ln9 lc9)):=(Q1.X.b.setCell (by simp) _).setCell (by simp) _;refine⟨ra9,rn9,rc9,la9,ln9,lc9,R9,rfl,hbf,by rw[<-HLT.X];exact(P1.X.offL F1.X.2.1).offL F1.X.2.1,HK.X,fun r hr=>⟨(I1.X r hr).1,(I1.X r hr).2.1⟩,by omega,h12,by rw[<-HLT.X];exact F1.X.2.2⟩
  ·have G1:=zR0 n fine a ao av ra9 la9 zl cap ko co kv cv rn9 rc9 ln9 lc9 zs os vs L9 R9 wr (HA.X.below Q1.X.b) (HO.X.below Q1.X.b) (HV.X.below Q1.X.b) HLZ.X HLO.X HLV.X hko hkv HCB.X P1.X (by omega) h12 S1.X I1.X
   obtain⟨ht1,ht2⟩:=HT.X rfl;have hmore:=ym0 n fine zs os vs ko kv (R:=R9) (L:=L9);have hless:=fun h=>z01 n fine zs os vs ko kv (R:=R9) (L:=L9) h;have hin:=y96 (n:=n) (fine:=fine) (zs:=zs) (os:=os) (vs:=vs) (ko:=ko) (kv:=kv) (L:=L9) I1.X (by rw[P1.X.1];omega) (by rw[P1.X.2.1];omega);have hris:=zZ2 n fine zs os vs ko kv (L:=L9) S1.X;rw[P1.X.1]at hmore;rw[P1.X.2.1]at hless;obtain⟨f,HFF⟩:=nmd ((zy3 n fine zs os vs ko kv R9 L9).f);obtain⟨RX,HRX⟩:=nmd (zB8 n fine zs os vs ko kv R9 L9);obtain⟨LX,HLX⟩:=nmd (zD2 n fine zs os vs ko kv R9 L9);have HST:Hid (f=true->(grd n fine zs os vs ko kv LX.length RX LX).1.map RT.key=TR.map RT.key/\(grd n fine zs os vs ko kv LX.length RX LX).2=TL):=fun h=>by
    rw[yk7 n fine zs os vs ko kv (HFF.X.trans h),HRX.X,HLX.X]at ht1 ht2;exact⟨ht1,ht2⟩
   have HSF:Hid (f=false->RX.map RT.key=TR.map RT.key/\LX=TL):=fun h=>by
    rw[yl4 n fine zs os vs ko kv (HFF.X.trans h)]at ht1 ht2;have e1:RX=R9:=by rw[<-HRX.X];unfold zB8;rw[HFF.X,h];rfl
    have e2:LX=L9:=by rw[<-HLX.X];unfold zD2;rw[HFF.X,h];rfl
    rw[e1,e2];exact⟨ht1,ht2⟩
   have HLS:Hid (LX.length<=ln9/\(f=true->LX.length<ln9)):=by
    refine⟨?_,fun h=>by rw[<-HLX.X];exact hless (HFF.X.trans h)⟩;rw[<-HLX.X];cases h:f
    ·unfold zD2;rw[HFF.X,h];exact Nat.le_of_eq P1.X.2.1
    ·exact Nat.le_of_lt (hless (HFF.X.trans h))
   have HMR:Hid (RX.length<=rn9+1/\(f=false->RX.length=rn9)):=by
    rw[<-HRX.X];exact⟨hmore,fun h=>by unfold zB8;rw[HFF.X,h];exact P1.X.1⟩
   rw[HFF.X,HRX.X,HLX.X]at G1;rw[HRX.X]at hin hris;have HIN:Hid (∀r∈RX,r.ids≠[]/\r.ids.length<=12):=hin.1;have HRI:=za4 hris;clear ht1 ht2 hmore hless hin hris HT HF HFF HRX HLX
   go_wp2_with fail
   refine G1.mono ?_;rintro e w2 ⟨ra2,rn2,rc2,la2,ln2,lc2,R2,rfl,hb,hpi,hk2,hof⟩;have hsz:=Q1.X.size;have Q2:=za4 (Q1.X.below hb);have P2:=za4 hpi;have F2:Hid (zj0 (w.heap.size+1) ra2 la2 R2 LX/\zj0 (w.heap.size+2) ra2 la2 R2 LX/\(∀k,k<w.heap.size->zj0 k ra la R L->zj0 k ra2 la2 R2 LX)):=⟨hof _ (by omega) F1.X.1,hof _ (by omega) F1.X.2.1,fun k hk h=>hof k (by omega) (F1.X.2.2 k hk h)⟩;have HK2:=za4 hk2;have hl2:rn2=RX.length:=by rw[<-hpi.1];have:=congrArg List.length hk2;simpa using this
   have hm2:ln2=LX.length:=hpi.2.1.symm;have hnum:rn2+ln2<=24/\ln2<=12/\(f=true->ln2<ln9):=by
    have h1:=HLS.X;have h2:=HMR.X;rw[hl2,hm2];cases f
    ·have:=h2.2 rfl;exact⟨by omega,by omega,fun h=>by cases h⟩
    ·have:=h1.2 rfl;exact⟨by omega,by omega,fun _=>this⟩
   have HLN:Hid (yt0 wr (w.heap.size+1)=ln9):=by show _=_;unfold yt0;rw[p1]
   clear hb hpi hk2 hof G1 c0 c1 c2 c3 c4 p0 p1 hl2 hm2;obtain⟨p0,p1⟩:=za1 Q2.X.p;have pf:=fun i=>yU _ _ i _ _ Q2.X.p;have s1:=zP w2 (w.heap.size+1) 0 _ _ (za ra2 rn2 rc2) Q2.X.p;have s2:=zP _ (w.heap.size+1) 1 _ _ (za la2 ln2 lc2) s1;simp at s2;have Q3:Hid (GQ w ((w2.setCell ⟨w.heap.size+1,0,none⟩ (za ra2 rn2 rc2)).setCell ⟨w.heap.size+1,1,none⟩ (za la2 ln2 lc2)) #[zc zb n,za a zl cap,za ao ko co,za av kv cv,zc zb fine] #[za ra2 rn2 rc2,za la2 ln2 lc2]):=⟨(Q2.X.b.setCell (by simp) _).setCell (by simp) _,za6 (za6 Q2.X.c (by omega)) (by omega),s2,za6 (za6 Q2.X.o (by omega)) (by omega)⟩;have P3:Hid (zb8 ((w2.setCell ⟨w.heap.size+1,0,none⟩ (za ra2 rn2 rc2)).setCell ⟨w.heap.size+1,1,none⟩ (za la2 ln2 lc2)) ra2 la2 rn2 ln2 R2 LX):=(P2.X.offL F2.X.1).offL F2.X.1;have HL3:Hid (yt0 ((w2.setCell ⟨w.heap.size+1,0,none⟩ (za ra2 rn2 rc2)).setCell ⟨w.heap.size+1,1,none⟩ (za la2 ln2 lc2)) (w.heap.size+1)=ln2):=by show _=_;unfold yt0;rw[(za1 s2).2]
   clear s1 s2;obtain⟨hnum1,hnum2,hnum3⟩:=hnum;go_wp2;go_roundw
   case rel=>exact⟨f,ra2,la2,rn2,rc2,ln2,lc2,R2,LX,rfl,Q3.X,P3.X,F2.X.1,F2.X.2.1,F2.X.2.2,hnum1,hnum2,ya5 HK2.X HRI.X,fun r hr=>⟨(zq3 HK2.X HIN.X r hr).1,(zq3 HK2.X HIN.X r hr).2,P3.X.2.2.2.2.2.2 r hr⟩,fun h=>by obtain⟨h1,h2⟩:=HST.X h;obtain⟨h3,h4⟩:=z70 n fine zs os vs ko kv LX.length LX HK2.X;exact⟨h3.trans h1,h4.trans h2⟩,fun h=>by obtain⟨h1,h2⟩:=HSF.X h;exact⟨HK2.X.trans h1,h2⟩⟩
   case measure=>
    rw[HLN.X,HL3.X];cases f
    ·show 0<ln9+1;omega
    ·have:=hnum3 rfl;show ln2+1<ln9+1;omega
