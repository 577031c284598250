import Derived.Test.YtjobhigmdaiinaaGreatPack2
import Derived.Test.YtjobhigmdaiinaaGreatPack3
import Derived.Test.YtjobhigmdaiinaaGreatPack5
import Derived.Test.YtjobhigmdaiinaaGreatPack19
import Derived.Test.YtjobhigmdaiinaaGreatPack25
import Derived.Test.YtjobhigmdaiinaaGreatPack30
import Derived.Test.YtjobhigmdaiinaaGreatSpotOne
import Derived.Test.YtjobhigmdaiinaaGreatSpotsFor
import Derived.Test.YtjobhigmdaiinaaGreatWithRoute
import Derived.Test.YtjobhigmdaiinaaGreatCutFunc
import Derived.Deep.RegionHeld3
import Derived.Deep.CutRange
namespace Go.Proofs.YtjobhigmdaiinaaGreat
open Go.RowKit
theorem yn3(ids:List Int)(k:Nat)(x:Int):(insL ids k x).length<=ids.length+1:=by
 unfold insL;simp;omega
def ya5(w:World)(f:Bool)(S:List RT)(L:List Int)(K:Nat->Prop)(e:Ending)(w':World):Prop:=∃ra rn rc la ln lc R,e=.returned (.tuple #[.agg #[.slice ra rn rc,.slice la ln lc],.bool f])/\Below w.heap.size w w'/\zd5 w' ra la rn ln R L/\R.map RT.key=S.map RT.key/\∀k,k<w.heap.size->K k->Off k ra la R
theorem zO8{w:World}{base size n rc k:Nat}{e:TypeId}{ra:Option Addr}{xs:List Value}(h:w.ownsRow base e size (.slice ra n rc) n xs)(hk:k<base):∀b off,ra=some ⟨b,off,none⟩->b≠k:=fun b off e9=>by
 rcases own_kinds h with⟨e1,_⟩|⟨g,c,e1,h2,_⟩
 ·simp only[Value.slice.injEq]at e1
  rw[e1.1]at e9;cases e9
 ·simp only[Value.slice.injEq]at e1
  rw[e1.1]at e9;simp only[Option.some.injEq,Addr.mk.injEq,and_true]at e9;omega
set_option maxRecDepth 10000 in
set_option maxHeartbeats 4000000 in
theorem zx0(n fine:Int)(a ao av ra la:Option Addr)(zl cap ko co kv cv nr rc ln lc:Nat)(zs os vs L:List Int)(R:List RT)(w:World)(hA:za0 w a zs)(hO:za0 w ao os)(hV:za0 w av vs)(hlz:zs.length=zl)(hlo:os.length=ko*6)(hlv:vs.length=kv*5)(hko:ko<=12)(hkv:kv<=5)(hcB:zb8 n zs os vs ko kv fine=true)(hP:zd5 w ra la nr ln R L)(hn:nr<=100)(hln:ln<=12)(hS:ze1 R)(hi:zn1 R):
 Calls Tryz.prog 25 #[.agg #[.int .i64 n,.slice a zl cap,.slice ao ko co,.slice av kv cv,.int .i64 fine],.agg #[.slice ra nr rc,.slice la ln lc]] w (ya5 w (zm4 n fine zs os vs ko kv R L).f (zo8 n fine zs os vs ko kv R L) (zo2 n fine zs os vs ko kv R L) (fun k=>Off k ra la R)):=by
 have HA:Hid (za0 w a zs):=hA;have HO:Hid (za0 w ao os):=hO;have HV:Hid (za0 w av vs):=hV;have HLZ:Hid (zs.length=zl):=hlz;have HLO:Hid (os.length=ko*6):=hlo;have HLV:Hid (vs.length=kv*5):=hlv;have HCB:Hid (zb8 n zs os vs ko kv fine=true):=hcB;have HP:Hid (zd5 w ra la nr ln R L):=hP;have HS:Hid (ze1 R):=hS;have HI:Hid (zn1 R):=hi;have HN:Hid (R.length=nr):=hP.1;have HM:Hid (L.length=ln):=hP.2.1;clear hA hO hV hlz hlo hlv hcB hP hS hi;obtain⟨s0,HS0⟩:=nmd (zm4 n fine zs os vs ko kv R L);have HQ0:Hid (qst (gOk n fine zs os vs ko kv R) (gD n zs os vs ko kv R) (sp3 R vs kv L ln)=s0):=by
  show _=_;rw[<-HS0.out,<-HM.out];rfl
 obtain⟨RX,HRX⟩:=nmd (zo8 n fine zs os vs ko kv R L);obtain⟨LX,HLX⟩:=nmd (zo2 n fine zs os vs ko kv R L);have HRR:Hid (RX=if s0.f then wrL R (oneT R s0.s)else R):=by show _=_;rw[<-HRX.out];unfold zo8;rw[HS0.out]
 have HLL:Hid (LX=if s0.f then zh7 L s0.s.1 else L):=by show _=_;rw[<-HLX.out];unfold zo2;rw[HS0.out]
 have HGO:Hid (s0.f=true->gB n zs os vs ko kv R s0.s=true):=fun h=>by
  have h1:=z26 (ok:=gOk n fine zs os vs ko kv R) (dl:=gD n zs os vs ko kv R) (sp3 R vs kv L ln);rw[HQ0.out]at h1;have h2:=(h1 h).2.1;unfold gOk at h2;exact(Bool.and_eq_true _ _▸h2).1
 rw[HS0.out,HRX.out,HLX.out];have Q0:Hid (GQ w (((w.alloc (.cells #[.int .i64 n,.slice a zl cap,.slice ao ko co,.slice av kv cv,.int .i64 fine] 30)).alloc (.cells #[.slice ra nr rc,.slice la ln lc] 33)).alloc (.cells #[.slice none 0 0,.slice none 0 0] 33)) #[.int .i64 n,.slice a zl cap,.slice ao ko co,.slice av kv cv,.int .i64 fine] #[.slice ra nr rc,.slice la ln lc]):=by
  refine⟨(((Below.refl _ _).alloc (Nat.le_refl _) _).alloc (by simp) _).alloc (by simp;omega) _,?_,?_,?_⟩
  ·exact(heap_alloc_old _ _ (by simp;omega)).trans (heap_alloc2_old _ _ _)
  ·exact(heap_alloc_old _ _ (by simp)).trans (heap_alloc2_new _ _ _)
  ·have:=heap_alloc_new ((w.alloc (.cells #[.int .i64 n,.slice a zl cap,.slice ao ko co,.slice av kv cv,.int .i64 fine] 30)).alloc (.cells #[.slice ra nr rc,.slice la ln lc] 33)) (.cells #[.slice none 0 0,.slice none 0 0] 33)
   simpa using this
 have SF:=zG6 n fine a ao av ra la la zl cap ko co kv cv rc ln lc lc vs L R (((w.alloc (.cells #[.int .i64 n,.slice a zl cap,.slice ao ko co,.slice av kv cv,.int .i64 fine] 30)).alloc (.cells #[.slice ra nr rc,.slice la ln lc] 33)).alloc (.cells #[.slice none 0 0,.slice none 0 0] 33)) (HV.out.below Q0.out.b) HLV.out hkv (HP.out.2.2.1.below Q0.out.b) (by rw[HN.out];exact hn) HS.out (fun r hr=>(HI.out r hr).2.1) (HP.out.2.2.2.1.below Q0.out.b) (by rw[HM.out];exact hln);rw[HN.out,HM.out]at SF;obtain⟨c0,c1,c2,c3,c4⟩:=za8 Q0.out.c;obtain⟨p0,p1⟩:=za2 Q0.out.p;go_enter Tryz.func25,Tryz.ntmps25
 go_wp2_with fail
 generalize((w.alloc (.cells #[.int .i64 n,.slice a zl cap,.slice ao ko co,.slice av kv cv,.int .i64 fine] 30)).alloc (.cells #[.slice ra nr rc,.slice la ln lc] 33)).alloc (.cells #[.slice none 0 0,.slice none 0 0] 33)=W0 at*;refine SF.mono ?_;rintro e w1 ⟨sl,rfl,hb,ho⟩;obtain⟨sa,sc,e⟩:=zn4 ho;subst e;have Q1:Hid (GQ w w1 #[.int .i64 n,.slice a zl cap,.slice ao ko co,.slice av kv cv,.int .i64 fine] #[.slice ra nr rc,.slice la ln lc]):=Q0.out.below hb;have S1:Hid (za0 w1 sa (spF (sp3 R vs kv L ln))):=yj2 ho;have hsl:=zM2 (fun r hr=>(HI.out r hr).2.1) vs hkv L ln;have LG:=z70 sa sc w.heap.size (w.heap.size+1) (sp3 R vs kv L ln) (gOk n fine zs os vs ko kv R) (gD n zs os vs ko kv R) w1 S1.out (by omega) (fun W id veh pl hW=>by
  have QW:GQ w W #[.int .i64 n,.slice a zl cap,.slice ao ko co,.slice av kv cv,.int .i64 fine] #[.slice ra nr rc,.slice la ln lc]:=Q1.out.below hW;exact zL7 n fine a ao av ra la zl cap ko co kv cv nr rc ln lc zs os vs R W (HA.out.below QW.b) (HO.out.below QW.b) (HV.out.below QW.b) HLZ.out HLO.out HLV.out (by omega) (by omega) HCB.out (HP.out.2.2.1.below QW.b) HN.out hn HS.out HI.out id veh pl _ _ QW.c QW.p) s0 HQ0.out
 obtain⟨f,⟨id,veh,pl⟩,v⟩:=s0;simp only at LG HRR HLL HGO;clear hb ho SF c0 c1 c2 c3 c4 p0 p1 Q0 HQ0 HS0
 go_wp2_with fail
 refine LG.mono ?_;rintro e w2 ⟨rfl,hb⟩;have Q2:Hid (GQ w w2 #[.int .i64 n,.slice a zl cap,.slice ao ko co,.slice av kv cv,.int .i64 fine] #[.slice ra nr rc,.slice la ln lc]):=Q1.out.below hb;clear hb LG Q1 S1 hsl;have QA:Hid (GQ w (w2.alloc (.cells #[.int .i64 id,.int .i64 veh,.int .i64 (pl:Int)] 86)) #[.int .i64 n,.slice a zl cap,.slice ao ko co,.slice av kv cv,.int .i64 fine] #[.slice ra nr rc,.slice la ln lc]):=Q2.out.below ((Below.refl _ _).alloc (Nat.le_refl _) _);have SA:Hid ((w2.alloc (.cells #[.int .i64 id,.int .i64 veh,.int .i64 (pl:Int)] 86)).heap[w2.heap.size]? =some (.cells #[.int .i64 id,.int .i64 veh,.int .i64 (pl:Int)] 86 (0,0))):=heap_alloc_new _ _;obtain⟨p0,p1⟩:=za2 QA.out.p;obtain⟨o0,o1⟩:=za2 QA.out.o;have of:=fun i=>frozen_of_row _ _ i _ _ QA.out.o;cases f
 ·go_wp2
  refine bodyPost_ret (v:=.tuple #[.agg #[.slice ra nr rc,.slice la ln lc],.bool false]) (by simp[results,Tryz.results25,go_sem,o0,o1]) rfl ?_;show ya5 _ _ _ _ _ _ _;have e1:LX=L:=HLL.out;have e2:RX=R:=HRR.out;rw[e1,e2];refine⟨ra,nr,rc,la,ln,lc,R,rfl,?_,?_,rfl,fun k _ h=>h⟩
  ·repeat(first|with_reducible exact QA.out.b|refine Below.setCell ?_ (by simp<;>omega) _)
  ·refine HP.out.below ?_
   repeat(first|with_reducible exact QA.out.b|refine Below.setCell ?_ (by simp<;>omega) _)
 ·have hgb:=HGO.out rfl
  obtain⟨dd,HDD⟩:=nmd (gD n zs os vs ko kv R (id,veh,pl));obtain⟨xs,HXS⟩:=nmd (chL true (insL (zd9 R veh).ids pl id));obtain⟨vv,HVV⟩:=nmd (chI true veh);obtain⟨xl,HXL⟩:=nmd xs.length;have HVE:Hid (vv=veh):=by show _=_;rw[<-HVV.out];rfl
  have CH0:=zR1 n fine a ao av ra cap ko co kv cv zs os vs R (w2.alloc (.cells #[.int .i64 id,.int .i64 veh,.int .i64 (pl:Int)] 86)) (HA.out.below QA.out.b) (HO.out.below QA.out.b) (HV.out.below QA.out.b) HLO.out HLV.out (by omega) (by omega) HCB.out (HP.out.2.2.1.below QA.out.b) HI.out id veh pl true hgb dd HDD.out xs HXS.out;have RO0:∀W,Below (w2.alloc (.cells #[.int .i64 id,.int .i64 veh,.int .i64 (pl:Int)] 86)).heap.size (w2.alloc (.cells #[.int .i64 id,.int .i64 veh,.int .i64 (pl:Int)] 86)) W->_:=fun W hW=>zv6 ra la rc ln lc R veh W ((HP.out.2.2.1.below QA.out.b).below hW) (by rw[HN.out];omega) HS.out
  rw[HN.out]at RO0;rw[HLZ.out]at CH0;have G0:Hid (GB (w2.alloc (.cells #[.int .i64 id,.int .i64 veh,.int .i64 (pl:Int)] 86)) (w2.alloc (.cells #[.int .i64 id,.int .i64 veh,.int .i64 (pl:Int)] 86)) w.heap.size (w.heap.size+1) w2.heap.size #[.int .i64 n,.slice a zl cap,.slice ao ko co,.slice av kv cv,.int .i64 fine] (.slice ra nr rc) (.slice la ln lc) id veh pl):=GB.new QA.out.c QA.out.p SA.out;obtain⟨rl,HRL⟩:=nmd ((zd9 R veh).ids.length);obtain⟨ra9,HRA⟩:=nmd ((zd9 R veh).a);obtain⟨rc9,HRC⟩:=nmd ((zd9 R veh).c);rw[HRL.out,HRA.out,HRC.out]at RO0 CH0;have RO:Hid _:=RO0;have CH:Hid _:=CH0;have QZ:Hid (w.heap.size+3<=w2.heap.size):=Q2.out.size;have OQ:Hid ((w2.alloc (.cells #[.int .i64 id,.int .i64 veh,.int .i64 (pl:Int)] 86)).heap[w.heap.size+2]? =some (.cells #[.slice none 0 0,.slice none 0 0] 33 (0,0))):=QA.out.o;have BQ:Hid (Below w.heap.size w (w2.alloc (.cells #[.int .i64 id,.int .i64 veh,.int .i64 (pl:Int)] 86))):=QA.out.b;clear RO0 CH0 Q2 QA SA p0 p1 o0 o1 of HGO hgb HDD;go_upto_region 4 with fail;obtain⟨ps,HPS⟩:=nmd w2.heap.size;obtain⟨pp,HPP⟩:=nmd (w.heap.size+1);obtain⟨pc,HPC⟩:=nmd w.heap.size;rw[HPS.out]at G0⊢;rw[HPP.out]at G0⊢;generalize w2.alloc (.cells #[.int .i64 id,.int .i64 veh,.int .i64 (pl:Int)] 86)=W0 at*;have HPCQ:Hid (GB W0 W0 w.heap.size pp ps #[.int .i64 n,.slice a zl cap,.slice ao ko co,.slice av kv cv,.int .i64 fine] (.slice ra nr rc) (.slice la ln lc) id veh pl):=G0.out;clear G0;have G0:=HPCQ;rw[HPC.out]at G0⊢;have HPA:Hid (w.heap.size+2=pp+1):=by show _=_;have:=HPP.out;omega
  rw[HPA.out]at OQ;go_cut [9,10,11]from 27 to 41 (fun s9 s10 s11 wx=>∃(kz:Nat) (ad:Option Addr) (cg:Nat),s9=.pointer (some ⟨kz,0,none⟩)/\s10=.int .i64 dd/\s11=.bool true/\GB W0 wx pc pp ps #[.int .i64 n,.slice a zl cap,.slice ao ko co,.slice av kv cv,.int .i64 fine] (.slice ra nr rc) (.slice la ln lc) id veh pl/\wx.heap[kz]? =some (.cells #[.int .i64 vv,.slice ad xl cg] 43 (0,0))/\wx.ownsRow W0.heap.size 2 1 (.slice ad xl cg) xl (xs.map (Value.int .i64)))
  case first=>
   go_wp2_with fail
   refine wp_region_held_drew (S:=(fun W=>W.cell? ⟨pc,0,none⟩=some (.int .i64 n)/\W.cell? ⟨pc,1,none⟩=some (.slice a zl cap)/\W.cell? ⟨pc,2,none⟩=some (.slice ao ko co)/\W.cell? ⟨pc,3,none⟩=some (.slice av kv cv)/\W.cell? ⟨pc,4,none⟩=some (.int .i64 fine)/\W.cell? ⟨pp,0,none⟩=some (.slice ra nr rc)/\W.cell? ⟨pp,1,none⟩=some (.slice la ln lc)/\W.cell? ⟨ps,0,none⟩=some (.int .i64 id)/\W.cell? ⟨ps,1,none⟩=some (.int .i64 veh)/\W.cell? ⟨ps,2,none⟩=some (.int .i64 (pl:Int)))) (by kernel_rfl) ?_ (fun hHeld=> ?_)
   ·exact(G0.out.below (Below.refl _ _).drew).cells
   have GD:Hid (GB W0 W0.drew pc pp ps #[.int .i64 n,.slice a zl cap,.slice ao ko co,.slice av kv cv,.int .i64 fine] (.slice ra nr rc) (.slice la ln lc) id veh pl):=G0.out.below (Below.refl _ _).drew;generalize W0.drew=wd at*;refine tkH 0 hHeld ?_;refine tkH 1 hHeld ?_;refine tkH 2 hHeld ?_;refine tkH 3 hHeld ?_;refine tkH 5 hHeld ?_;refine tkH 6 hHeld ?_;refine tkH 7 hHeld ?_;refine tkH 8 hHeld ?_;refine wpAnyH_ready (rs:=[4,15]) (by kernel_rfl) (by simp) ?_;refine AllReadyH.cons rfl (fun K hK=> ?_) ?_
   ·skip
    go_simp;refine(RO.out wd GD.out.b).mono ?_;rintro e w1 ⟨rfl,hb⟩;have G1:Hid (GB W0 w1 pc pp ps #[.int .i64 n,.slice a zl cap,.slice ao ko co,.slice av kv cv,.int .i64 fine] (.slice ra nr rc) (.slice la ln lc) id veh pl):=GD.out.below hb;clear hb
    (try go_wp2_with fail)
    refine hK.out _ _ ?_ (fun hHeld=> ?_)
    ·exact G1.out.cells
    clear hK K
    (try simp only[Act.put,List.setIfInBounds_toArray,List.set_cons_zero,List.set_cons_succ])
    refine wpAnyH_ready (rs:=[9,15]) (by kernel_rfl) (by simp) ?_;refine AllReadyH.cons rfl (fun K hK=> ?_) ?_
    ·skip
     go_simp;refine(ze6 id (pl:Int) w1).mono ?_;rintro e w2 ⟨p,q,rfl,hb,hcp,hcq⟩;have G2:Hid (GB W0 w2 pc pp ps #[.int .i64 n,.slice a zl cap,.slice ao ko co,.slice av kv cv,.int .i64 fine] (.slice ra nr rc) (.slice la ln lc) id veh pl):=G1.out.below hb;have HP2:Hid (w2.cell? ⟨p,0,none⟩=some (.int .i64 (pl:Int))/\w2.cell? ⟨q,0,none⟩=some (.int .i64 id)):=⟨hcp,hcq⟩;have PB:Hid (Below w2.heap.size w2 w2):=Below.refl _ _;clear hb hcp hcq
     (try go_wp2_with fail)
     refine hK.out _ _ ?_ (fun hHeld=> ?_)
     ·exact G2.out.cells
     clear hK K
     (try simp only[Act.put,List.setIfInBounds_toArray,List.set_cons_zero,List.set_cons_succ])
     refine wpAnyH_ready (rs:=[10,15]) (by kernel_rfl) (by simp) ?_;refine AllReadyH.cons rfl (fun K hK=> ?_) ?_
     ·skip
      go_simp;refine(CH.out w2 w2 p q G2.out.b HP2.out.1 HP2.out.2 PB.out).mono ?_;rintro e w3 ⟨hb,ad,cg,rfl,ho⟩;rw[HVV.out,HXL.out];have G3:Hid (GB W0 w3 pc pp ps #[.int .i64 n,.slice a zl cap,.slice ao ko co,.slice av kv cv,.int .i64 fine] (.slice ra nr rc) (.slice la ln lc) id veh pl):=G2.out.below hb;have O3:Hid (w3.ownsRow W0.heap.size 2 1 (.slice ad xl cg) xl (xs.map (Value.int .i64))):=by rw[HXL.out]at ho;exact zb7 ho G2.out.b.size
      clear hb ho
      (try go_wp2_with fail)
      refine hK.out _ _ ?_ (fun hHeld=> ?_)
      ·exact G3.out.cells
      clear hK K
      (try simp only[Act.put,List.setIfInBounds_toArray,List.set_cons_zero,List.set_cons_succ])
      refine tkH 11 hHeld ?_;refine tkH 12 hHeld ?_;refine tkH 13 hHeld ?_;refine tkH 14 hHeld ?_;refine wpAnyH_ready (rs:=[15]) (by kernel_rfl) (by simp) ?_;refine AllReadyH.cons rfl (fun K hK=> ?_) AllReadyH.nil;have GZ:Hid (GB W0 (w3.alloc (.cells #[Value.int .i64 0,Value.slice none 0 0] 43)) pc pp ps #[.int .i64 n,.slice a zl cap,.slice ao ko co,.slice av kv cv,.int .i64 fine] (.slice ra nr rc) (.slice la ln lc) id veh pl):=G3.out.below ((Below.refl _ _).alloc (Nat.le_refl _) _);have VZ0:Hid ((w3.alloc (.cells #[Value.int .i64 0,Value.slice none 0 0] 43)).heap[w3.heap.size]? =some (.cells #[Value.int .i64 0,Value.slice none 0 0] 43 (0,0))):=heap_alloc_new _ _;have HZL:Hid (W0.heap.size<=w3.heap.size):=G3.out.b.size;have OZ:Hid (World.ownsRow (w3.alloc (.cells #[Value.int .i64 0,Value.slice none 0 0] 43)) W0.heap.size 2 1 (.slice ad xl cg) xl (xs.map (Value.int .i64))):=O3.out.alloc _;go_simp;refine hK.out _ _ ?_ (fun hHeld=> ?_)
      ·exact GZ.out.cells
      clear hK K
      (try simp only[Act.put,List.setIfInBounds_toArray,List.set_cons_zero,List.set_cons_succ])
      obtain⟨kz,HKZ⟩:=nmd w3.heap.size;rw[HKZ.out]at VZ0 HZL⊢;generalize(w3.alloc (.cells #[Value.int .i64 0,Value.slice none 0 0] 43))=wz at*;obtain⟨z0,z1⟩:=za2 VZ0.out;have zf:=fun i=>frozen_of_row _ _ i _ _ VZ0.out;refine wpAnyH_ready (rs:=[16]) (by kernel_rfl) (by simp) ?_;refine AllReadyH.cons rfl (fun K hK=> ?_) AllReadyH.nil;have G5:Hid (GB W0 ((wz.setCell ⟨kz,0,none⟩ (.int .i64 vv)).setCell ⟨kz,1,none⟩ (.slice ad xl cg)) pc pp ps #[.int .i64 n,.slice a zl cap,.slice ao ko co,.slice av kv cv,.int .i64 fine] (.slice ra nr rc) (.slice la ln lc) id veh pl):=(GZ.out.set HZL.out).set HZL.out;have V5:Hid (((wz.setCell ⟨kz,0,none⟩ (.int .i64 vv)).setCell ⟨kz,1,none⟩ (.slice ad xl cg)).heap[kz]? =some (.cells #[.int .i64 vv,.slice ad xl cg] 43 (0,0))):=by
       have s1:=heap_setCell_same wz kz 0 _ _ (Value.int .i64 vv) VZ0.out;have s2:=heap_setCell_same _ kz 1 _ _ (Value.slice ad xl cg) s1;simp at s2;exact s2
      have O5:Hid (World.ownsRow ((wz.setCell ⟨kz,0,none⟩ (.int .i64 vv)).setCell ⟨kz,1,none⟩ (.slice ad xl cg)) W0.heap.size 2 1 (.slice ad xl cg) xl (xs.map (Value.int .i64))):=zd4 (zd4 OZ.out VZ0.out) (by exact heap_setCell_same _ kz 0 _ _ _ VZ0.out);go_simp;refine hK.out _ _ ?_ (fun hHeld=> ?_)
      ·exact G5.out.cells
      clear hK K;generalize((wz.setCell ⟨kz,0,none⟩ (.int .i64 vv)).setCell ⟨kz,1,none⟩ (.slice ad xl cg))=w5 at*;refine tkH 17 hHeld ?_;refine tkH 18 hHeld ?_;refine wpAnyH_done (by kernel_rfl) ?_ _;clear hHeld
      (try go_wp2_with fail)
      go_meet;exact⟨kz,ad,cg,rfl,rfl,rfl,G5.out,V5.out,O5.out⟩
     refine AllReadyH.cons rfl (fun K hK=> ?_) AllReadyH.nil;have GZ:Hid (GB W0 (w2.alloc (.cells #[Value.int .i64 0,Value.slice none 0 0] 43)) pc pp ps #[.int .i64 n,.slice a zl cap,.slice ao ko co,.slice av kv cv,.int .i64 fine] (.slice ra nr rc) (.slice la ln lc) id veh pl):=G2.out.below ((Below.refl _ _).alloc (Nat.le_refl _) _);have VZ0:Hid ((w2.alloc (.cells #[Value.int .i64 0,Value.slice none 0 0] 43)).heap[w2.heap.size]? =some (.cells #[Value.int .i64 0,Value.slice none 0 0] 43 (0,0))):=heap_alloc_new _ _;have HZL:Hid (W0.heap.size<=w2.heap.size):=G2.out.b.size;have PBZ:Hid (Below w2.heap.size w2 (w2.alloc (.cells #[Value.int .i64 0,Value.slice none 0 0] 43))):=(Below.refl _ _).alloc (Nat.le_refl _) _;go_simp;refine hK.out _ _ ?_ (fun hHeld=> ?_)
     ·exact GZ.out.cells
     clear hK K
     (try simp only[Act.put,List.setIfInBounds_toArray,List.set_cons_zero,List.set_cons_succ])
     obtain⟨kz,HKZ⟩:=nmd w2.heap.size;rw[HKZ.out]at VZ0 HZL⊢;generalize(w2.alloc (.cells #[Value.int .i64 0,Value.slice none 0 0] 43))=wz at*;obtain⟨z0,z1⟩:=za2 VZ0.out;have zf:=fun i=>frozen_of_row _ _ i _ _ VZ0.out;refine wpAnyH_ready (rs:=[10]) (by kernel_rfl) (by simp) ?_;refine AllReadyH.cons rfl (fun K hK=> ?_) AllReadyH.nil;go_simp;refine(CH.out w2 wz p q G2.out.b HP2.out.1 HP2.out.2 PBZ.out).mono ?_;rintro e w3 ⟨hb,ad,cg,rfl,ho⟩;rw[HVV.out,HXL.out];have G3:Hid (GB W0 w3 pc pp ps #[.int .i64 n,.slice a zl cap,.slice ao ko co,.slice av kv cv,.int .i64 fine] (.slice ra nr rc) (.slice la ln lc) id veh pl):=GZ.out.below hb;have O3:Hid (w3.ownsRow W0.heap.size 2 1 (.slice ad xl cg) xl (xs.map (Value.int .i64))):=by rw[HXL.out]at ho;exact zb7 ho GZ.out.b.size
     have VZ3:Hid (w3.heap[kz]? =some (.cells #[Value.int .i64 0,Value.slice none 0 0] 43 (0,0))):=za1 hb (za3 VZ0.out) VZ0.out;obtain⟨z0,z1⟩:=za2 VZ3.out;have zf:=fun i=>frozen_of_row _ _ i _ _ VZ3.out;clear hb ho
     (try go_wp2_with fail)
     refine hK.out _ _ ?_ (fun hHeld=> ?_)
     ·exact G3.out.cells
     clear hK K
     (try simp only[Act.put,List.setIfInBounds_toArray,List.set_cons_zero,List.set_cons_succ])
     refine tkH 11 hHeld ?_;refine tkH 12 hHeld ?_;refine tkH 13 hHeld ?_;refine tkH 14 hHeld ?_;refine wpAnyH_ready (rs:=[16]) (by kernel_rfl) (by simp) ?_;refine AllReadyH.cons rfl (fun K hK=> ?_) AllReadyH.nil;have G5:Hid (GB W0 ((w3.setCell ⟨kz,0,none⟩ (.int .i64 vv)).setCell ⟨kz,1,none⟩ (.slice ad xl cg)) pc pp ps #[.int .i64 n,.slice a zl cap,.slice ao ko co,.slice av kv cv,.int .i64 fine] (.slice ra nr rc) (.slice la ln lc) id veh pl):=(G3.out.set HZL.out).set HZL.out;have V5:Hid (((w3.setCell ⟨kz,0,none⟩ (.int .i64 vv)).setCell ⟨kz,1,none⟩ (.slice ad xl cg)).heap[kz]? =some (.cells #[.int .i64 vv,.slice ad xl cg] 43 (0,0))):=by
      have s1:=heap_setCell_same w3 kz 0 _ _ (Value.int .i64 vv) VZ3.out;have s2:=heap_setCell_same _ kz 1 _ _ (Value.slice ad xl cg) s1;simp at s2;exact s2
     have O5:Hid (World.ownsRow ((w3.setCell ⟨kz,0,none⟩ (.int .i64 vv)).setCell ⟨kz,1,none⟩ (.slice ad xl cg)) W0.heap.size 2 1 (.slice ad xl cg) xl (xs.map (Value.int .i64))):=zd4 (zd4 O3.out VZ3.out) (by exact heap_setCell_same _ kz 0 _ _ _ VZ3.out);go_simp;refine hK.out _ _ ?_ (fun hHeld=> ?_)
     ·exact G5.out.cells
     clear hK K;generalize((w3.setCell ⟨kz,0,none⟩ (.int .i64 vv)).setCell ⟨kz,1,none⟩ (.slice ad xl cg))=w5 at*;refine tkH 17 hHeld ?_;refine tkH 18 hHeld ?_;refine wpAnyH_done (by kernel_rfl) ?_ _;clear hHeld
     (try go_wp2_with fail)
     go_meet;exact⟨kz,ad,cg,rfl,rfl,rfl,G5.out,V5.out,O5.out⟩
    refine AllReadyH.cons rfl (fun K hK=> ?_) AllReadyH.nil;have GZ:Hid (GB W0 (w1.alloc (.cells #[Value.int .i64 0,Value.slice none 0 0] 43)) pc pp ps #[.int .i64 n,.slice a zl cap,.slice ao ko co,.slice av kv cv,.int .i64 fine] (.slice ra nr rc) (.slice la ln lc) id veh pl):=G1.out.below ((Below.refl _ _).alloc (Nat.le_refl _) _);have VZ0:Hid ((w1.alloc (.cells #[Value.int .i64 0,Value.slice none 0 0] 43)).heap[w1.heap.size]? =some (.cells #[Value.int .i64 0,Value.slice none 0 0] 43 (0,0))):=heap_alloc_new _ _;have HZL:Hid (W0.heap.size<=w1.heap.size):=G1.out.b.size;go_simp;refine hK.out _ _ ?_ (fun hHeld=> ?_)
    ·exact GZ.out.cells
    clear hK K
    (try simp only[Act.put,List.setIfInBounds_toArray,List.set_cons_zero,List.set_cons_succ])
    obtain⟨kz,HKZ⟩:=nmd w1.heap.size;rw[HKZ.out]at VZ0 HZL⊢;generalize(w1.alloc (.cells #[Value.int .i64 0,Value.slice none 0 0] 43))=wz at*;obtain⟨z0,z1⟩:=za2 VZ0.out;have zf:=fun i=>frozen_of_row _ _ i _ _ VZ0.out;refine wpAnyH_ready (rs:=[9]) (by kernel_rfl) (by simp) ?_;refine AllReadyH.cons rfl (fun K hK=> ?_) AllReadyH.nil;go_simp;refine(ze6 id (pl:Int) wz).mono ?_;rintro e w2 ⟨p,q,rfl,hb,hcp,hcq⟩;have G2:Hid (GB W0 w2 pc pp ps #[.int .i64 n,.slice a zl cap,.slice ao ko co,.slice av kv cv,.int .i64 fine] (.slice ra nr rc) (.slice la ln lc) id veh pl):=GZ.out.below hb;have HP2:Hid (w2.cell? ⟨p,0,none⟩=some (.int .i64 (pl:Int))/\w2.cell? ⟨q,0,none⟩=some (.int .i64 id)):=⟨hcp,hcq⟩;have PB:Hid (Below w2.heap.size w2 w2):=Below.refl _ _;have VZ2:Hid (w2.heap[kz]? =some (.cells #[Value.int .i64 0,Value.slice none 0 0] 43 (0,0))):=za1 hb (za3 VZ0.out) VZ0.out;clear hb hcp hcq
    (try go_wp2_with fail)
    refine hK.out _ _ ?_ (fun hHeld=> ?_)
    ·exact G2.out.cells
    clear hK K
    (try simp only[Act.put,List.setIfInBounds_toArray,List.set_cons_zero,List.set_cons_succ])
    refine wpAnyH_ready (rs:=[10]) (by kernel_rfl) (by simp) ?_;refine AllReadyH.cons rfl (fun K hK=> ?_) AllReadyH.nil;go_simp;refine(CH.out w2 w2 p q G2.out.b HP2.out.1 HP2.out.2 PB.out).mono ?_;rintro e w3 ⟨hb,ad,cg,rfl,ho⟩;rw[HVV.out,HXL.out];have G3:Hid (GB W0 w3 pc pp ps #[.int .i64 n,.slice a zl cap,.slice ao ko co,.slice av kv cv,.int .i64 fine] (.slice ra nr rc) (.slice la ln lc) id veh pl):=G2.out.below hb;have O3:Hid (w3.ownsRow W0.heap.size 2 1 (.slice ad xl cg) xl (xs.map (Value.int .i64))):=by rw[HXL.out]at ho;exact zb7 ho G2.out.b.size
    have VZ3:Hid (w3.heap[kz]? =some (.cells #[Value.int .i64 0,Value.slice none 0 0] 43 (0,0))):=za1 hb (za3 VZ2.out) VZ2.out;obtain⟨z0,z1⟩:=za2 VZ3.out;have zf:=fun i=>frozen_of_row _ _ i _ _ VZ3.out;clear hb ho
    (try go_wp2_with fail)
    refine hK.out _ _ ?_ (fun hHeld=> ?_)
    ·exact G3.out.cells
    clear hK K
    (try simp only[Act.put,List.setIfInBounds_toArray,List.set_cons_zero,List.set_cons_succ])
    refine tkH 11 hHeld ?_;refine tkH 12 hHeld ?_;refine tkH 13 hHeld ?_;refine tkH 14 hHeld ?_;refine wpAnyH_ready (rs:=[16]) (by kernel_rfl) (by simp) ?_;refine AllReadyH.cons rfl (fun K hK=> ?_) AllReadyH.nil;have G5:Hid (GB W0 ((w3.setCell ⟨kz,0,none⟩ (.int .i64 vv)).setCell ⟨kz,1,none⟩ (.slice ad xl cg)) pc pp ps #[.int .i64 n,.slice a zl cap,.slice ao ko co,.slice av kv cv,.int .i64 fine] (.slice ra nr rc) (.slice la ln lc) id veh pl):=(G3.out.set HZL.out).set HZL.out;have V5:Hid (((w3.setCell ⟨kz,0,none⟩ (.int .i64 vv)).setCell ⟨kz,1,none⟩ (.slice ad xl cg)).heap[kz]? =some (.cells #[.int .i64 vv,.slice ad xl cg] 43 (0,0))):=by
     have s1:=heap_setCell_same w3 kz 0 _ _ (Value.int .i64 vv) VZ3.out;have s2:=heap_setCell_same _ kz 1 _ _ (Value.slice ad xl cg) s1;simp at s2;exact s2
    have O5:Hid (World.ownsRow ((w3.setCell ⟨kz,0,none⟩ (.int .i64 vv)).setCell ⟨kz,1,none⟩ (.slice ad xl cg)) W0.heap.size 2 1 (.slice ad xl cg) xl (xs.map (Value.int .i64))):=zd4 (zd4 O3.out VZ3.out) (by exact heap_setCell_same _ kz 0 _ _ _ VZ3.out);go_simp;refine hK.out _ _ ?_ (fun hHeld=> ?_)
    ·exact G5.out.cells
    clear hK K;generalize((w3.setCell ⟨kz,0,none⟩ (.int .i64 vv)).setCell ⟨kz,1,none⟩ (.slice ad xl cg))=w5 at*;refine tkH 17 hHeld ?_;refine tkH 18 hHeld ?_;refine wpAnyH_done (by kernel_rfl) ?_ _;clear hHeld
    (try go_wp2_with fail)
    go_meet;exact⟨kz,ad,cg,rfl,rfl,rfl,G5.out,V5.out,O5.out⟩
   refine AllReadyH.cons rfl (fun K hK=> ?_) AllReadyH.nil;have GZ:Hid (GB W0 (wd.alloc (.cells #[Value.int .i64 0,Value.slice none 0 0] 43)) pc pp ps #[.int .i64 n,.slice a zl cap,.slice ao ko co,.slice av kv cv,.int .i64 fine] (.slice ra nr rc) (.slice la ln lc) id veh pl):=GD.out.below ((Below.refl _ _).alloc (Nat.le_refl _) _);have VZ0:Hid ((wd.alloc (.cells #[Value.int .i64 0,Value.slice none 0 0] 43)).heap[wd.heap.size]? =some (.cells #[Value.int .i64 0,Value.slice none 0 0] 43 (0,0))):=heap_alloc_new _ _;have HZL:Hid (W0.heap.size<=wd.heap.size):=GD.out.b.size;go_simp;refine hK.out _ _ ?_ (fun hHeld=> ?_)
   ·exact GZ.out.cells
   clear hK K
   (try simp only[Act.put,List.setIfInBounds_toArray,List.set_cons_zero,List.set_cons_succ])
   obtain⟨kz,HKZ⟩:=nmd wd.heap.size;rw[HKZ.out]at VZ0 HZL⊢;generalize(wd.alloc (.cells #[Value.int .i64 0,Value.slice none 0 0] 43))=wz at*;obtain⟨z0,z1⟩:=za2 VZ0.out;have zf:=fun i=>frozen_of_row _ _ i _ _ VZ0.out;refine wpAnyH_ready (rs:=[4]) (by kernel_rfl) (by simp) ?_;refine AllReadyH.cons rfl (fun K hK=> ?_) AllReadyH.nil;go_simp;refine(RO.out wz GZ.out.b).mono ?_;rintro e w1 ⟨rfl,hb⟩;have G1:Hid (GB W0 w1 pc pp ps #[.int .i64 n,.slice a zl cap,.slice ao ko co,.slice av kv cv,.int .i64 fine] (.slice ra nr rc) (.slice la ln lc) id veh pl):=GZ.out.below hb;have VZ1:Hid (w1.heap[kz]? =some (.cells #[Value.int .i64 0,Value.slice none 0 0] 43 (0,0))):=za1 hb (za3 VZ0.out) VZ0.out;clear hb
   (try go_wp2_with fail)
   refine hK.out _ _ ?_ (fun hHeld=> ?_)
   ·exact G1.out.cells
   clear hK K
   (try simp only[Act.put,List.setIfInBounds_toArray,List.set_cons_zero,List.set_cons_succ])
   refine wpAnyH_ready (rs:=[9]) (by kernel_rfl) (by simp) ?_;refine AllReadyH.cons rfl (fun K hK=> ?_) AllReadyH.nil;go_simp;refine(ze6 id (pl:Int) w1).mono ?_;rintro e w2 ⟨p,q,rfl,hb,hcp,hcq⟩;have G2:Hid (GB W0 w2 pc pp ps #[.int .i64 n,.slice a zl cap,.slice ao ko co,.slice av kv cv,.int .i64 fine] (.slice ra nr rc) (.slice la ln lc) id veh pl):=G1.out.below hb;have HP2:Hid (w2.cell? ⟨p,0,none⟩=some (.int .i64 (pl:Int))/\w2.cell? ⟨q,0,none⟩=some (.int .i64 id)):=⟨hcp,hcq⟩;have PB:Hid (Below w2.heap.size w2 w2):=Below.refl _ _;have VZ2:Hid (w2.heap[kz]? =some (.cells #[Value.int .i64 0,Value.slice none 0 0] 43 (0,0))):=za1 hb (za3 VZ1.out) VZ1.out;clear hb hcp hcq
   (try go_wp2_with fail)
   refine hK.out _ _ ?_ (fun hHeld=> ?_)
   ·exact G2.out.cells
   clear hK K
   (try simp only[Act.put,List.setIfInBounds_toArray,List.set_cons_zero,List.set_cons_succ])
   refine wpAnyH_ready (rs:=[10]) (by kernel_rfl) (by simp) ?_;refine AllReadyH.cons rfl (fun K hK=> ?_) AllReadyH.nil;go_simp;refine(CH.out w2 w2 p q G2.out.b HP2.out.1 HP2.out.2 PB.out).mono ?_;rintro e w3 ⟨hb,ad,cg,rfl,ho⟩;rw[HVV.out,HXL.out];have G3:Hid (GB W0 w3 pc pp ps #[.int .i64 n,.slice a zl cap,.slice ao ko co,.slice av kv cv,.int .i64 fine] (.slice ra nr rc) (.slice la ln lc) id veh pl):=G2.out.below hb;have O3:Hid (w3.ownsRow W0.heap.size 2 1 (.slice ad xl cg) xl (xs.map (Value.int .i64))):=by rw[HXL.out]at ho;exact zb7 ho G2.out.b.size
   have VZ3:Hid (w3.heap[kz]? =some (.cells #[Value.int .i64 0,Value.slice none 0 0] 43 (0,0))):=za1 hb (za3 VZ2.out) VZ2.out;obtain⟨z0,z1⟩:=za2 VZ3.out;have zf:=fun i=>frozen_of_row _ _ i _ _ VZ3.out;clear hb ho
   (try go_wp2_with fail)
   refine hK.out _ _ ?_ (fun hHeld=> ?_)
   ·exact G3.out.cells
   clear hK K
   (try simp only[Act.put,List.setIfInBounds_toArray,List.set_cons_zero,List.set_cons_succ])
   refine tkH 11 hHeld ?_;refine tkH 12 hHeld ?_;refine tkH 13 hHeld ?_;refine tkH 14 hHeld ?_;refine wpAnyH_ready (rs:=[16]) (by kernel_rfl) (by simp) ?_;refine AllReadyH.cons rfl (fun K hK=> ?_) AllReadyH.nil;have G5:Hid (GB W0 ((w3.setCell ⟨kz,0,none⟩ (.int .i64 vv)).setCell ⟨kz,1,none⟩ (.slice ad xl cg)) pc pp ps #[.int .i64 n,.slice a zl cap,.slice ao ko co,.slice av kv cv,.int .i64 fine] (.slice ra nr rc) (.slice la ln lc) id veh pl):=(G3.out.set HZL.out).set HZL.out;have V5:Hid (((w3.setCell ⟨kz,0,none⟩ (.int .i64 vv)).setCell ⟨kz,1,none⟩ (.slice ad xl cg)).heap[kz]? =some (.cells #[.int .i64 vv,.slice ad xl cg] 43 (0,0))):=by
    have s1:=heap_setCell_same w3 kz 0 _ _ (Value.int .i64 vv) VZ3.out;have s2:=heap_setCell_same _ kz 1 _ _ (Value.slice ad xl cg) s1;simp at s2;exact s2
   have O5:Hid (World.ownsRow ((w3.setCell ⟨kz,0,none⟩ (.int .i64 vv)).setCell ⟨kz,1,none⟩ (.slice ad xl cg)) W0.heap.size 2 1 (.slice ad xl cg) xl (xs.map (Value.int .i64))):=zd4 (zd4 O3.out VZ3.out) (by exact heap_setCell_same _ kz 0 _ _ _ VZ3.out);go_simp;refine hK.out _ _ ?_ (fun hHeld=> ?_)
   ·exact G5.out.cells
   clear hK K;generalize((w3.setCell ⟨kz,0,none⟩ (.int .i64 vv)).setCell ⟨kz,1,none⟩ (.slice ad xl cg))=w5 at*;refine tkH 17 hHeld ?_;refine tkH 18 hHeld ?_;refine wpAnyH_done (by kernel_rfl) ?_ _;clear hHeld
   (try go_wp2_with fail)
   go_meet;exact⟨kz,ad,cg,rfl,rfl,rfl,G5.out,V5.out,O5.out⟩
  case rest=>
   obtain⟨kz,ad,cg,rfl,rfl,rfl,hG5,hV5,hO5⟩:=hcut;obtain⟨w5,hw5⟩:∃v,v=wc:=⟨_,rfl⟩;subst hw5;have G5:Hid (GB W0 w5 pc pp ps #[.int .i64 n,.slice a zl cap,.slice ao ko co,.slice av kv cv,.int .i64 fine] (.slice ra nr rc) (.slice la ln lc) id veh pl):=hG5;have V5:Hid (w5.heap[kz]? =some (.cells #[.int .i64 vv,.slice ad xl cg] 43 (0,0))):=hV5;have O5:Hid (w5.ownsRow W0.heap.size 2 1 (.slice ad xl cg) xl (xs.map (Value.int .i64))):=hO5;clear hG5 hV5 hO5;clear RO CH HVV;obtain⟨c0,c1,c2,c3,c4,p0,p1,-,-,-⟩:=G5.out.cells;obtain⟨k0,k1⟩:=za2 V5.out;have B5:Hid (Below w.heap.size w w5):=BQ.out.trans (G5.out.b.mono BQ.out.size);have hx1000:xs.length<=1000:=by
    rw[<-HXS.out];show(insL (zd9 R veh).ids pl id).length<=1000;have h1:=yn3 (zd9 R veh).ids pl id;have h2:=z31 (fun r hr=>(HI.out r hr).2.1) veh;omega
   have WR:=zC2 ra la rc ln lc R ⟨vv,ad,xs,cg⟩ w5 (HP.out.2.2.1.below B5.out) (by rw[HN.out];exact hn) HS.out (by rw[HN.out];exact HP.out.2.2.2.2.1) hx1000;simp only[HN.out,HXL.out]at WR
   go_wp2_with fail
   refine WR.mono ?_;rintro e w6 ⟨sl,rfl,hb6,ho6⟩;obtain⟨m6,HM6⟩:=nmd ((wrL R ⟨vv,ad,xs,cg⟩).length);rw[HM6.out]at ho6;obtain⟨sa6,sc6,e⟩:=zn4 ho6;subst e;have G6:Hid (GB W0 w6 pc pp ps #[.int .i64 n,.slice a zl cap,.slice ao ko co,.slice av kv cv,.int .i64 fine] (.slice ra nr rc) (.slice la ln lc) id veh pl):=G5.out.below hb6;have O6:Hid (w6.ownsRow W0.heap.size 2 1 (.slice ad xl cg) xl (xs.map (Value.int .i64))):=zc2 O5.out hb6;have R6:Hid (w6.ownsRow W0.heap.size 43 2 (.slice sa6 m6 sc6) m6 (zg9 (wrL R ⟨vv,ad,xs,cg⟩))):=zb7 ho6 G5.out.b.size;clear hb6 ho6 WR c0 c1 c2 c3 c4 p0 p1 k0 k1 B5;have G7:Hid (GB W0 (w6.alloc (.cells #[.slice sa6 m6 sc6,.slice la ln lc] 33)) pc pp ps #[.int .i64 n,.slice a zl cap,.slice ao ko co,.slice av kv cv,.int .i64 fine] (.slice ra nr rc) (.slice la ln lc) id veh pl):=G6.out.below ((Below.refl _ _).alloc (Nat.le_refl _) _);have N7:Hid ((w6.alloc (.cells #[.slice sa6 m6 sc6,.slice la ln lc] 33)).heap[w6.heap.size]? =some (.cells #[.slice sa6 m6 sc6,.slice la ln lc] 33 (0,0))):=heap_alloc_new _ _;have O7:Hid (World.ownsRow (w6.alloc (.cells #[.slice sa6 m6 sc6,.slice la ln lc] 33)) W0.heap.size 2 1 (.slice ad xl cg) xl (xs.map (Value.int .i64))):=O6.out.alloc _;have R7:Hid (World.ownsRow (w6.alloc (.cells #[.slice sa6 m6 sc6,.slice la ln lc] 33)) W0.heap.size 43 2 (.slice sa6 m6 sc6) m6 (zg9 (wrL R ⟨vv,ad,xs,cg⟩))):=R6.out.alloc _;have HKN:Hid (W0.heap.size<=w6.heap.size):=G6.out.b.size;obtain⟨p0,p1⟩:=za2 G7.out.p;have B7:Hid (Below w.heap.size w (w6.alloc (.cells #[.slice sa6 m6 sc6,.slice la ln lc] 33))):=BQ.out.trans (G7.out.b.mono BQ.out.size);have CL:=z68 la lc ln L (w6.alloc (.cells #[.slice sa6 m6 sc6,.slice la ln lc] 33)) (HP.out.2.2.2.1.below B7.out) HM.out (by omega) HP.out.2.2.2.2.2.1
   go_wp2_with fail
   obtain⟨kn,HKE⟩:=nmd w6.heap.size;rw[HKE.out]at N7 HKN⊢;generalize w6.alloc (.cells #[.slice sa6 m6 sc6,.slice la ln lc] 33)=w7 at*;refine CL.mono ?_;rintro e w8 ⟨sl,rfl,hb8,ho8⟩;have G8:Hid (GB W0 w8 pc pp ps #[.int .i64 n,.slice a zl cap,.slice ao ko co,.slice av kv cv,.int .i64 fine] (.slice ra nr rc) (.slice la ln lc) id veh pl):=G7.out.below hb8;have N8:Hid (w8.heap[kn]? =some (.cells #[.slice sa6 m6 sc6,.slice la ln lc] 33 (0,0))):=za1 hb8 (za3 N7.out) N7.out;have O8:Hid (w8.ownsRow W0.heap.size 2 1 (.slice ad xl cg) xl (xs.map (Value.int .i64))):=zc2 O7.out hb8;have R8:Hid (w8.ownsRow W0.heap.size 43 2 (.slice sa6 m6 sc6) m6 (zg9 (wrL R ⟨vv,ad,xs,cg⟩))):=zc2 R7.out hb8;have HLT:Hid ((∀k,(Value.slice ad xl cg).ownBlock=some k->k<w7.heap.size)/\(∀k,(Value.slice sa6 m6 sc6).ownBlock=some k->k<w7.heap.size)/\kn<w7.heap.size):=⟨fun k e=>(O7.out.lt k e).2,fun k e=>(R7.out.lt k e).2,za3 N7.out⟩;have CF:=zM8 sl ln w7.heap.size ps L id w8 ho8 HM.out (by omega) hb8.size (z54 G8.out.s).1 (by have:=G7.out.l.2.2;have:=G7.out.b.size;omega);have HW7:Hid (W0.heap.size<=w7.heap.size):=G7.out.b.size;clear CL p0 p1 ho8 hb8
   go_wp2_with fail
   refine CF.mono ?_;rintro e w9 ⟨sl9,rfl,hb9,ho9⟩;obtain⟨m8,HM8⟩:=nmd ((zh7 L id).length);rw[HM8.out]at ho9;obtain⟨sa8,sc8,e⟩:=zn4 ho9;subst e;have N9:Hid (w9.heap[kn]? =some (.cells #[.slice sa6 m6 sc6,.slice la ln lc] 33 (0,0))):=za1 hb9 HLT.out.2.2 N8.out;have O9:Hid (w9.ownsRow W0.heap.size 2 1 (.slice ad xl cg) xl (xs.map (Value.int .i64))):=zS1 O8.out hb9 HLT.out.1;have R9:Hid (w9.ownsRow W0.heap.size 43 2 (.slice sa6 m6 sc6) m6 (zg9 (wrL R ⟨vv,ad,xs,cg⟩))):=zS1 R8.out hb9 HLT.out.2.1;have L9:Hid (w9.ownsRow w7.heap.size 2 1 (.slice sa8 m8 sc8) m8 ((zh7 L id).map (Value.int .i64))):=ho9;have B9:Hid (Below W0.heap.size W0 w9):=G8.out.b.trans (hb9.mono HW7.out);have A9:Hid (w9.heap[pp+1]? =some (.cells #[.slice none 0 0,.slice none 0 0] 33 (0,0))):=za1 B9.out (za3 OQ.out) OQ.out;obtain⟨n0,n1⟩:=za2 N9.out;have nf:=fun i=>frozen_of_row _ _ i _ _ N9.out;have NS:Hid ((w9.setCell ⟨kn,1,none⟩ (.slice sa8 m8 sc8)).heap[kn]? =some (.cells #[.slice sa6 m6 sc6,.slice sa8 m8 sc8] 33 (0,0))):=by
    have s1:=heap_setCell_same w9 kn 1 _ _ (Value.slice sa8 m8 sc8) N9.out;simp at s1;exact s1
   have AS:Hid ((w9.setCell ⟨kn,1,none⟩ (.slice sa8 m8 sc8)).heap[pp+1]? =some (.cells #[.slice none 0 0,.slice none 0 0] 33 (0,0))):=za7 A9.out (by have:=za3 OQ.out;have:=HKN.out;omega);have OS:=ze4 (i:=1) (u:=.slice sa8 m8 sc8) O9.out N9.out (by decide);have RS:=ze4 (i:=1) (u:=.slice sa8 m8 sc8) R9.out N9.out (by decide);have LSx:=ze4 (i:=1) (u:=.slice sa8 m8 sc8) L9.out N9.out (by decide);have HBX:Hid (Below w.heap.size w (w9.setCell ⟨kn,1,none⟩ (.slice sa8 m8 sc8))):=(BQ.out.trans (B9.out.mono BQ.out.size)).setCell (by have:=BQ.out.size;have:=HKN.out;simp;omega) _;have OS:Hid _:=OS;have RS:Hid _:=RS;have LSx:Hid _:=LSx;clear hb9 ho9 CF;obtain⟨a0,a1⟩:=za2 AS.out;have af:=fun i=>frozen_of_row _ _ i _ _ AS.out;obtain⟨s0,s1⟩:=za2 NS.out
   go_wp2_with fail
   generalize w9.setCell ⟨kn,1,none⟩ (.slice sa8 m8 sc8)=wf at*;go_wp2;refine bodyPost_ret (v:=.tuple #[.agg #[.slice sa6 m6 sc6,.slice sa8 m8 sc8],.bool true]) (by simp[results,Tryz.results25,go_sem,a0,a1]) rfl ?_;show ya5 _ _ _ _ _ _ _;have e1:LX=zh7 L id:=HLL.out;have e2:RX=wrL R (oneT R (id,veh,pl)):=HRR.out;have hbf:Below w.heap.size w ((wf.setCell ⟨pp+1,0,none⟩ (.slice sa6 m6 sc6)).setCell ⟨pp+1,1,none⟩ (.slice sa8 m8 sc8)):=(HBX.out.setCell (by have:=HPP.out;simp;omega) _).setCell (by have:=HPP.out;simp;omega) _;have as1:=heap_setCell_same wf (pp+1) 0 _ _ (Value.slice sa6 m6 sc6) AS.out;have OF:=ze4 (i:=1) (u:=.slice sa8 m8 sc8) (ze4 (i:=0) (u:=.slice sa6 m6 sc6) OS.out AS.out (by decide)) as1 (by decide);have RF:=ze4 (i:=1) (u:=.slice sa8 m8 sc8) (ze4 (i:=0) (u:=.slice sa6 m6 sc6) RS.out AS.out (by decide)) as1 (by decide);have LF:=ze4 (i:=1) (u:=.slice sa8 m8 sc8) (ze4 (i:=0) (u:=.slice sa6 m6 sc6) LSx.out AS.out (by decide)) as1 (by decide);have IX:za0 ((wf.setCell ⟨pp+1,0,none⟩ (.slice sa6 m6 sc6)).setCell ⟨pp+1,1,none⟩ (.slice sa8 m8 sc8)) ad xs:=zi0 OF;have hmem:∀r∈wrL R ⟨vv,ad,xs,cg⟩,r∈R∨r=⟨vv,ad,xs,cg⟩:=fun r hr=>zZ2 hr;refine⟨sa6,m6,sc6,sa8,m8,sc8,wrL R ⟨vv,ad,xs,cg⟩,rfl,hbf,⟨HM6.out,by rw[e1];exact HM8.out,zp5 RF (fun r hr=> ?_),by rw[e1];exact zi0 LF,zC1 RF,zC1 LF,fun r hr=> ?_⟩,?_,fun k hk h=>⟨zO8 RF (by have:=BQ.out.size;omega),zO8 LF (by have:=BQ.out.size;have:=HW7.out;omega),fun r hr b off e=> ?_⟩⟩
   ·rcases hmem r hr with h|h
    ·obtain⟨j,hj,rfl⟩:=zS2 h
     obtain⟨_,_,_,_,_,h2⟩:=HP.out.2.2.1 j hj;exact h2.below hbf
    ·rw[h];exact IX
   ·rcases hmem r hr with h|h
    ·exact HP.out.2.2.2.2.2.2 r h
    ·rw[h]
     show xs.length<=cg;rw[HXL.out];exact yh5 OF
   ·rw[e2]
    refine zN7 rfl ?_;show(vv,xs)=(veh,insL (zd9 R veh).ids pl id);rw[HVE.out,<-HXS.out];rfl
   ·rcases hmem r hr with h9|h9
    ·exact h.2.2 r h9 b off e
    ·rw[h9]at e
     exact zO8 OF (by have:=BQ.out.size;omega) b off e
end Go.Proofs.YtjobhigmdaiinaaGreat
