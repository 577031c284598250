import Derived.Test.YtjobhigmdaiinaaGreatPack1
import Derived.Test.YtjobhigmdaiinaaGreatPack2
import Derived.Test.YtjobhigmdaiinaaGreatPack3
import Derived.Test.YtjobhigmdaiinaaGreatPack5
import Derived.Test.YtjobhigmdaiinaaGreatPack21
import Derived.Test.YtjobhigmdaiinaaGreatPack23
import Derived.Test.YtjobhigmdaiinaaGreatPack44
import Derived.Test.YtjobhigmdaiinaaGreatRelocPlan
import Derived.Test.YtjobhigmdaiinaaGreatPack47
import Derived.Test.YtjobhigmdaiinaaGreatSpotsFor
import Derived.Laws.EntriesVeiled
import Derived.Deep.RegionHeld3
import Derived.Deep.CutRange
namespace Go.Proofs.YtjobhigmdaiinaaGreat
open Go.RowKit
set_option maxHeartbeats 1000000 in
theorem zk2(cs:Array Value)(w:World)(n fine:Int)(a ao av:Option Addr)(cap ko co kv cv lz:Nat)(hcs:cs= #[.int .i64 n,.slice a lz cap,.slice ao ko co,.slice av kv cv,.int .i64 fine]):
 Calls Tryz.prog 45 #[.agg cs] w fun e w'=>∃pc,e=.returned (.agg #[Value.func (.func 88) #[] #[.pointer (some ⟨pc,0,none⟩)],Value.func (.func 90) #[] #[.pointer (some ⟨pc,0,none⟩)]])/\Below w.heap.size w w'/\w'.heap[pc]? =some (.cells cs 30 (0,0)):=by
 subst hcs;have hmf:∀(fn:Fn) (first cap:Array Value) (w:World),(Instr.makeFunc fn first cap).run Tryz.prog w=.ok (.func fn first cap) w:=fun _ _ _ _=>rfl;go_enter Tryz.func45,Tryz.ntmps45;go_wp2;have q:∀(cs:Array Value),((w.alloc (.cells cs 30)).alloc (.cells #[Value.func (.func 88) #[] #[.pointer (some ⟨w.heap.size,0,none⟩)],Value.func (.func 90) #[] #[.pointer (some ⟨w.heap.size,0,none⟩)]] 82)).heap[w.heap.size+1]? =some (.cells #[Value.func (.func 88) #[] #[.pointer (some ⟨w.heap.size,0,none⟩)],Value.func (.func 90) #[] #[.pointer (some ⟨w.heap.size,0,none⟩)]] 82 (0,0)):=fun cs=>heap_alloc2_new _ _ _;obtain⟨q0,q1⟩:=za2 (q #[Value.int .i64 n,Value.slice a lz cap,Value.slice ao ko co,Value.slice av kv cv,Value.int .i64 fine]);refine bodyPost_ret (v:=.agg #[Value.func (.func 88) #[] #[.pointer (some ⟨w.heap.size,0,none⟩)],Value.func (.func 90) #[] #[.pointer (some ⟨w.heap.size,0,none⟩)]]) (by simp[results,Tryz.results45,go_sem,q0,q1]) rfl ⟨w.heap.size,rfl,((Below.refl _ _).alloc (Nat.le_refl _) _).alloc (by simp) _,heap_alloc2_old _ _ _⟩
structure RZ(w W:World)(ps ss:Array Value):Prop where
 b:Below w.heap.size w W
 p:W.heap[w.heap.size]? =some (.cells ps 33 (0,0))
 s:W.heap[w.heap.size+1]? =some (.cells ss 86 (0,0))
 o:W.heap[w.heap.size+2]? =some (.cells #[.slice none 0 0,.slice none 0 0] 33 (0,0))
theorem RZ.below{w W W':World}{ps ss:Array Value}(h:RZ w W ps ss)(hb:Below W.heap.size W W'):RZ w W' ps ss:=
 ⟨h.b.trans (hb.mono h.b.size),za1 hb (za3 h.p) h.p,za1 hb (za3 h.s) h.s,za1 hb (za3 h.o) h.o⟩
theorem RZ.new(w:World)(ps ss:Array Value):RZ w (((w.alloc (.cells ps 33)).alloc (.cells ss 86)).alloc (.cells #[.slice none 0 0,.slice none 0 0] 33)) ps ss:=by
 refine⟨(((Below.refl _ _).alloc (Nat.le_refl _) _).alloc (by simp) _).alloc (by simp<;>omega) _,?_,?_,?_⟩
 ·exact(heap_alloc_old _ _ (by simp<;>omega)).trans (heap_alloc2_old _ _ _)
 ·exact(heap_alloc_old _ _ (by simp)).trans (heap_alloc2_new _ _ _)
 ·have:=heap_alloc_new ((w.alloc (.cells ps 33)).alloc (.cells ss 86)) (.cells #[.slice none 0 0,.slice none 0 0] 33)
  simpa using this
set_option maxRecDepth 10000 in
set_option maxHeartbeats 2000000 in
theorem z38(id tv pl n fine:Int)(a ao av ra la:Option Addr)(zl cap ko co kv cv nr rc ln lc pc:Nat)(zs os vs L:List Int)(R:List RT)(w:World)(hA:za0 w a zs)(hO:za0 w ao os)(hV:za0 w av vs)(hlz:zs.length=zl)(hlo:os.length=ko*6)(hlv:vs.length=kv*5)(hko:ko<=9223372036854775807)(hkv:kv<=9223372036854775807)(hP:zd4 w ra la nr ln R L)(hpl:zc3 n zs os vs ko kv fine R L=0)(hpc:w.heap[pc]? =some (.cells #[.int .i64 n,.slice a zl cap,.slice ao ko co,.slice av kv cv,.int .i64 fine] 30 (0,0))):
 Calls Tryz.prog 90 #[.agg #[.slice ra nr rc,.slice la ln lc],.agg #[.int .i64 id,.int .i64 tv,.int .i64 pl],.pointer (some ⟨pc,0,none⟩)] w (zG8 w (rqD id tv pl n fine zs os vs ko kv R L) (rqB id tv pl n fine zs os vs ko kv R L) (rqR id tv pl n fine zs os vs ko kv R L) (rqL id tv pl n fine zs os vs ko kv R L)):=by
 have Q0:Hid (RZ w (((w.alloc (.cells #[.slice ra nr rc,.slice la ln lc] 33)).alloc (.cells #[.int .i64 id,.int .i64 tv,.int .i64 pl] 86)).alloc (.cells #[.slice none 0 0,.slice none 0 0] 33)) #[.slice ra nr rc,.slice la ln lc] #[.int .i64 id,.int .i64 tv,.int .i64 pl]):=RZ.new _ _ _;have RL:=z40 id tv pl n fine a ao av ra la zl cap ko co kv cv nr rc ln lc zs os vs L R _ (hA.below Q0.b) (hO.below Q0.b) (hV.below Q0.b) hlz hlo hlv hko hkv (hP.below Q0.b) hpl;have hpc1:=za1 Q0.b (za3 hpc) hpc;obtain⟨GD,HGD⟩:=nmd (rqD id tv pl n fine zs os vs ko kv R L);obtain⟨GB,HGB⟩:=nmd (rqB id tv pl n fine zs os vs ko kv R L);obtain⟨GR,HGR⟩:=nmd (rqR id tv pl n fine zs os vs ko kv R L);obtain⟨GL,HGL⟩:=nmd (rqL id tv pl n fine zs os vs ko kv R L);rw[HGD.out,HGB.out,HGR.out,HGL.out]at RL;rw[HGD.out,HGB.out,HGR.out,HGL.out];clear hA hO hV hlz hlo hlv hP hpl hpc HGD HGB HGR HGL;go_enter Tryz.func90,Tryz.ntmps90;obtain⟨c0,c1,c2,c3,c4⟩:=za8 hpc1;obtain⟨p0,p1⟩:=za2 Q0.p;obtain⟨s0,s1,s2⟩:=zh1 Q0.s
 go_wp2_with fail
 generalize((w.alloc (.cells #[.slice ra nr rc,.slice la ln lc] 33)).alloc (.cells #[.int .i64 id,.int .i64 tv,.int .i64 pl] 86)).alloc (.cells #[.slice none 0 0,.slice none 0 0] 33)=W0 at*;refine RL.mono ?_;rintro e w1 ⟨ra2,n2,rc2,la2,l2,lc2,R2,rfl,hb,h5,h2,h4,h1,h3,h6⟩;have Q1:Hid _:=Q0.below hb;have HR1:Hid _:=h1;have HL1:Hid _:=h3;have HX:Hid (R2.length=n2/\GL.length=l2/\R2.map RT.key=GR.map RT.key):=⟨h2,h4,h5⟩;have HX6:Hid _:=h6;clear hb h1 h2 h3 h4 h5 h6 Q0 RL c0 c1 c2 c3 c4 p0 p1 s0 s1 s2 hpc1;obtain⟨a0,a1⟩:=za2 Q1.o;have af:=fun i=>frozen_of_row _ _ i _ _ Q1.o;have s1:=heap_setCell_same w1 (w.heap.size+2) 0 _ _ (Value.slice ra2 n2 rc2) Q1.o;have B2:Hid (Below w.heap.size w ((w1.setCell ⟨w.heap.size+2,0,none⟩ (.slice ra2 n2 rc2)).setCell ⟨w.heap.size+2,1,none⟩ (.slice la2 l2 lc2))):=(Q1.b.setCell (by simp) _).setCell (by simp) _;have R2h:Hid (za6 ((w1.setCell ⟨w.heap.size+2,0,none⟩ (.slice ra2 n2 rc2)).setCell ⟨w.heap.size+2,1,none⟩ (.slice la2 l2 lc2)) ra2 R2):=zh5 (zh5 HR1.out Q1.o 0 _) s1 1 _;have L2h:Hid (za0 ((w1.setCell ⟨w.heap.size+2,0,none⟩ (.slice ra2 n2 rc2)).setCell ⟨w.heap.size+2,1,none⟩ (.slice la2 l2 lc2)) la2 GL):=zo7 (zo7 HL1.out Q1.o 0 _) s1 1 _;clear s1;go_wp2;refine bodyPost_ret (v:=.tuple #[.agg #[.slice ra2 n2 rc2,.slice la2 l2 lc2],.int .i64 GD,.bool GB]) (by simp[results,Tryz.results90,go_sem,a0,a1]) rfl ?_;show zG8 _ _ _ _ _ _ _;exact⟨ra2,n2,rc2,la2,l2,lc2,R2,rfl,B2.out,HX.2.2,HX.1,HX.2.1,R2h.out,L2h.out,HX6.out⟩
theorem zJ6(id tv pl n fine:Int)(a ao av ra la:Option Addr)(zl cap ko co kv cv nr rc ln lc pc:Nat)(zs os vs L:List Int)(R:List RT)(w:World)(hA:za0 w a zs)(hO:za0 w ao os)(hV:za0 w av vs)(hlz:zs.length=zl)(hlo:os.length=ko*6)(hlv:vs.length=kv*5)(hko:ko<=9223372036854775807)(hkv:kv<=9223372036854775807)(hP:zd4 w ra la nr ln R L)(hpl:zc3 n zs os vs ko kv fine R L=0)(hpc:w.heap[pc]? =some (.cells #[.int .i64 n,.slice a zl cap,.slice ao ko co,.slice av kv cv,.int .i64 fine] 30 (0,0))):
 Calls Tryz.prog 90 #[.agg #[.slice ra nr rc,.slice la ln lc],.agg #[.int .i64 id,.int .i64 tv,.int .i64 pl],.pointer (some ⟨pc,0,none⟩)] w (yz0 w (rqD id tv pl n fine zs os vs ko kv R L) (rqB id tv pl n fine zs os vs ko kv R L) (rqR id tv pl n fine zs os vs ko kv R L) (rqL id tv pl n fine zs os vs ko kv R L)):=(z38 id tv pl n fine a ao av ra la zl cap ko co kv cv nr rc ln lc pc zs os vs L R w hA hO hV hlz hlo hlv hko hkv hP hpl hpc).mono (fun _ _ h=>h.is)
structure MP(w W:World)(pc:Nat)(cs ps:Array Value):Prop where
 b:Below w.heap.size w W
 c:W.heap[pc]? =some (.cells cs 30 (0,0))
 p:W.heap[w.heap.size]? =some (.cells ps 33 (0,0))
theorem MP.below{w W W':World}{pc:Nat}{cs ps:Array Value}(h:MP w W pc cs ps)(hb:Below W.heap.size W W'):MP w W' pc cs ps:=
 ⟨h.b.trans (hb.mono h.b.size),za1 hb (za3 h.c) h.c,za1 hb (za3 h.p) h.p⟩
theorem zF5{w W:World}{pc:Nat}{n fine:Int}{a ao av ra la:Option Addr}{zl cap ko co kv cv nr rc ln lc:Nat}(h:MP w W pc #[.int .i64 n,.slice a zl cap,.slice ao ko co,.slice av kv cv,.int .i64 fine] #[.slice ra nr rc,.slice la ln lc]):W.cell? ⟨pc,0,none⟩=some (.int .i64 n)/\W.cell? ⟨pc,1,none⟩=some (.slice a zl cap)/\W.cell? ⟨pc,2,none⟩=some (.slice ao ko co)/\W.cell? ⟨pc,3,none⟩=some (.slice av kv cv)/\W.cell? ⟨pc,4,none⟩=some (.int .i64 fine)/\W.cell? ⟨w.heap.size,0,none⟩=some (.slice ra nr rc)/\W.cell? ⟨w.heap.size,1,none⟩=some (.slice la ln lc):=by
 obtain⟨c0,c1,c2,c3,c4⟩:=za8 h.c;obtain⟨p0,p1⟩:=za2 h.p;exact⟨c0,c1,c2,c3,c4,p0,p1⟩
set_option maxRecDepth 10000 in
set_option maxHeartbeats 2000000 in
theorem zO5(n fine:Int)(a ao av ra la:Option Addr)(zl cap ko co kv cv nr rc ln lc pc:Nat)(zs os vs L:List Int)(R:List RT)(w:World)(hA:za0 w a zs)(hO:za0 w ao os)(hV:za0 w av vs)(hlz:zs.length=zl)(hlo:os.length=ko*6)(hlv:vs.length=kv*5)(hP:zd4 w ra la nr ln R L)(hpl:zc3 n zs os vs ko kv fine R L=0)(hpc:w.heap[pc]? =some (.cells #[.int .i64 n,.slice a zl cap,.slice ao ko co,.slice av kv cv,.int .i64 fine] 30 (0,0))):
 Calls Tryz.prog 88 #[.agg #[.slice ra nr rc,.slice la ln lc],.pointer (some ⟨pc,0,none⟩)] w fun e w'=>∃sl,e=.returned sl/\Below w.heap.size w w'/\w'.ownsRow w.heap.size 86 3 sl (sp3 R vs kv (zf9 n zs os vs ko kv fine R L) (zf9 n zs os vs ko kv fine R L).length).length ((spF (sp3 R vs kv (zf9 n zs os vs ko kv fine R L) (zf9 n zs os vs ko kv fine R L).length)).map (Value.int .i64)):=by
 have HA:Hid (za0 w a zs):=hA;have HO:Hid (za0 w ao os):=hO;have HV:Hid (za0 w av vs):=hV;have HLZ:Hid (zs.length=zl):=hlz;have HLO:Hid (os.length=ko*6):=hlo;have HLV:Hid (vs.length=kv*5):=hlv;have HP:Hid (zd4 w ra la nr ln R L):=hP;have HN:Hid (R.length=nr):=hP.1;have HPL:Hid (zc3 n zs os vs ko kv fine R L=0):=hpl;have HPC:Hid (w.heap[pc]? =some (.cells #[.int .i64 n,.slice a zl cap,.slice ao ko co,.slice av kv cv,.int .i64 fine] 30 (0,0))):=hpc;clear hA hO hV hlz hlo hlv hP hpl hpc;obtain⟨X,HX⟩:=nmd (zf9 n zs os vs ko kv fine R L);obtain⟨m,HXM⟩:=nmd X.length;have HXX:Hid (zm2 (za7 R R.length)=X):=by
  have:=HX.out;unfold zf9 at this;rw[if_pos HPL.out]at this;exact this
 obtain⟨g1,g2,g3,_⟩:=zc2 HPL.out;obtain⟨gp,gok⟩:=zi8.1 g2;have hs:=zj5 HPL.out;have hps:=ze7 HPL.out;have hm:X.length<=12:=by rw[<-HX.out];exact z92 ..
 have hk5:kv<=5:=(zn6 (zc4 g1).2.2.1).1;have SB:Hid (∀W,Below w.heap.size w W->Calls Tryz.prog 89 #[.agg #[.slice ra nr rc,.slice la ln lc]] W fun e w'=>∃sl,e=.returned sl/\Below W.heap.size W w'/\w'.ownsRow W.heap.size 2 1 sl (zm2 (za7 R R.length)).length ((zm2 (za7 R R.length)).map (Value.int .i64))):=fun W hW=>by
  have:=zL0 ra la rc ln lc R W (HP.out.2.2.1.below hW) (by omega) hs.2.2 hs.2.1 hs.1;rw[show(Value.slice ra R.length rc)=.slice ra nr rc by rw[HN.out]]at this;exact this
 have SF:Hid (∀W sa sc,Below w.heap.size w W->za0 W sa X->Calls Tryz.prog 60 #[.agg #[.int .i64 n,.slice a zl cap,.slice ao ko co,.slice av kv cv,.int .i64 fine],.agg #[.slice ra nr rc,.slice la ln lc],.slice sa m sc] W fun e w'=>∃sl,e=.returned sl/\Below W.heap.size W w'/\w'.ownsRow W.heap.size 86 3 sl (sp3 R vs kv X m).length ((spF (sp3 R vs kv X m)).map (Value.int .i64))):=fun W sa sc hW hI=>by
  have:=zM6 n fine a ao av ra la sa zl cap ko co kv cv rc ln lc sc vs X R W (HV.out.below hW) HLV.out hk5 (HP.out.2.2.1.below hW) (by omega) (ze4 gp) (fun r hr=>zm0 (gok r hr).2) hI hm;rw[HN.out,HXM.out]at this;exact this
 clear g1 g2 g3 gp gok hs hps hm hk5;rw[HX.out];have Q0:Hid (MP w (w.alloc (.cells #[.slice ra nr rc,.slice la ln lc] 33)) pc #[.int .i64 n,.slice a zl cap,.slice ao ko co,.slice av kv cv,.int .i64 fine] #[.slice ra nr rc,.slice la ln lc]):=⟨(Below.refl _ _).alloc (Nat.le_refl _) _,za1 ((Below.refl _ _).alloc (Nat.le_refl _) _) (za3 HPC.out) HPC.out,heap_alloc_new _ _⟩;go_enter Tryz.func88,Tryz.ntmps88
 go_wp2_with fail
 generalize w.alloc (.cells #[.slice ra nr rc,.slice la ln lc] 33)=W0 at*;refine wp_region_held_drew (S:=(fun W=>W.cell? ⟨pc,0,none⟩=some (.int .i64 n)/\W.cell? ⟨pc,1,none⟩=some (.slice a zl cap)/\W.cell? ⟨pc,2,none⟩=some (.slice ao ko co)/\W.cell? ⟨pc,3,none⟩=some (.slice av kv cv)/\W.cell? ⟨pc,4,none⟩=some (.int .i64 fine)/\W.cell? ⟨w.heap.size,0,none⟩=some (.slice ra nr rc)/\W.cell? ⟨w.heap.size,1,none⟩=some (.slice la ln lc))) (by kernel_rfl) ?_ (fun hHeld=> ?_)
 ·exact zF5 (Q0.out.below (Below.refl _ _).drew)
 have G_d:Hid (MP w W0.drew pc #[.int .i64 n,.slice a zl cap,.slice ao ko co,.slice av kv cv,.int .i64 fine] #[.slice ra nr rc,.slice la ln lc]):=Q0.out.below (Below.refl _ _).drew;generalize W0.drew=wd at*;refine tkH 0 hHeld ?_;refine tkH 1 hHeld ?_;refine tkH 2 hHeld ?_;refine wpAnyH_ready (rs:=[3]) (by kernel_rfl) (by simp) ?_;refine AllReadyH.cons rfl (fun K hK=> ?_) AllReadyH.nil;go_simp;refine(SB.out wd G_d.out.b).mono ?_;rintro e w3 ⟨sl,rfl,hb,ho⟩;obtain⟨sa,sc,e,hsl,hI⟩:=zp7 ho;subst e;rw[HXX.out]at hI⊢;rw[HXM.out];have G3:Hid (MP w w3 pc #[.int .i64 n,.slice a zl cap,.slice ao ko co,.slice av kv cv,.int .i64 fine] #[.slice ra nr rc,.slice la ln lc]):=G_d.out.below hb;have I3:Hid (za0 w3 sa X):=hI;clear hb ho hI hsl
 (try go_wp2_with fail)
 refine hK.out _ _ ?_ (fun hHeld=> ?_)
 ·exact zF5 G3.out
 clear hK K
 (try simp only[Act.put,List.setIfInBounds_toArray,List.set_cons_zero,List.set_cons_succ])
 refine wpAnyH_ready (rs:=[4]) (by kernel_rfl) (by simp) ?_;refine AllReadyH.cons rfl (fun K hK=> ?_) AllReadyH.nil;go_simp;refine(SF.out w3 sa sc G3.out.b I3.out).mono ?_;rintro e w4 ⟨sl,rfl,hb,ho⟩;have G4:Hid (MP w w4 pc #[.int .i64 n,.slice a zl cap,.slice ao ko co,.slice av kv cv,.int .i64 fine] #[.slice ra nr rc,.slice la ln lc]):=G3.out.below hb;have O4:Hid (w4.ownsRow w.heap.size 86 3 sl (sp3 R vs kv X m).length ((spF (sp3 R vs kv X m)).map (Value.int .i64))):=zc5 ho G3.out.b.size;clear hb ho
 (try go_wp2_with fail)
 refine hK.out _ _ ?_ (fun hHeld=> ?_)
 ·exact zF5 G4.out
 clear hK K
 (try simp only[Act.put,List.setIfInBounds_toArray,List.set_cons_zero,List.set_cons_succ])
 refine tkH 5 hHeld ?_;refine wpAnyH_done (by kernel_rfl) ?_ _;clear hHeld;go_wp2;go_ret;exact⟨sl,rfl,G4.out.b,by rw[HXM.out];exact O4.out⟩
set_option maxRecDepth 10000 in
set_option maxHeartbeats 2000000 in
theorem zR7(n fine:Int)(a ao av ra la:Option Addr)(zl cap ko co kv cv nr rc ln lc pc:Nat)(zs os vs L:List Int)(R:List RT)(w:World)(hA:za0 w a zs)(hO:za0 w ao os)(hV:za0 w av vs)(hlz:zs.length=zl)(hlo:os.length=ko*6)(hlv:vs.length=kv*5)(hP:zd4 w ra la nr ln R L)(hpl:zc3 n zs os vs ko kv fine R L=0)(hpc:w.heap[pc]? =some (.cells #[.int .i64 n,.slice a zl cap,.slice ao ko co,.slice av kv cv,.int .i64 fine] 30 (0,0)))(hko:ko<=9223372036854775807)(hkv:kv<=9223372036854775807)(pm pp:Nat)(hpm:w.heap[pm]? =some (.cells #[Value.func (.func 88) #[] #[.pointer (some ⟨pc,0,none⟩)],Value.func (.func 90) #[] #[.pointer (some ⟨pc,0,none⟩)]] 82 (0,0)))(hpp:w.heap[pp]? =some (.cells #[.slice ra nr rc,.slice la ln lc] 33 (0,0)))(id veh:Int)(pl:Nat):
 Calls Tryz.prog 94 #[.agg #[.int .i64 id,.int .i64 veh,.int .i64 (pl:Int)],.pointer (some ⟨pm,0,none⟩),.pointer (some ⟨pp,0,none⟩)] w fun e w'=>e=.returned (.tuple #[.int .i64 (mvD n fine zs os vs ko kv R L (id,veh,pl)),.bool (mvB n fine zs os vs ko kv R L (id,veh,pl))])/\Below w.heap.size w w':=by
 have B0:Hid (Below w.heap.size w (w.alloc (.cells #[.int .i64 id,.int .i64 veh,.int .i64 (pl:Int)] 86))):=(Below.refl _ _).alloc (Nat.le_refl _) _;have N0:Hid ((w.alloc (.cells #[.int .i64 id,.int .i64 veh,.int .i64 (pl:Int)] 86)).heap[w.heap.size]? =some (.cells #[.int .i64 id,.int .i64 veh,.int .i64 (pl:Int)] 86 (0,0))):=heap_alloc_new _ _;have RM:=zJ6 id veh (pl:Int) n fine a ao av ra la zl cap ko co kv cv nr rc ln lc pc zs os vs L R _ (hA.below B0.out) (hO.below B0.out) (hV.below B0.out) hlz hlo hlv hko hkv (hP.below B0.out) hpl (za1 B0.out (za3 hpc) hpc);have hpm1:=za1 B0.out (za3 hpm) hpm;have hpp1:=za1 B0.out (za3 hpp) hpp;have HE:Hid (mvB n fine zs os vs ko kv R L (id,veh,pl)=(rqB id veh (pl:Int) n fine zs os vs ko kv R L&&decide (rqD id veh (pl:Int) n fine zs os vs ko kv R L<0))):=rfl;have HE2:Hid (mvD n fine zs os vs ko kv R L (id,veh,pl)=rqD id veh (pl:Int) n fine zs os vs ko kv R L):=rfl;rw[HE.out,HE2.out];obtain⟨D,HGD⟩:=nmd (rqD id veh (pl:Int) n fine zs os vs ko kv R L);obtain⟨ch,HGB⟩:=nmd (rqB id veh (pl:Int) n fine zs os vs ko kv R L);obtain⟨GR,HGR⟩:=nmd (rqR id veh (pl:Int) n fine zs os vs ko kv R L);obtain⟨GL,HGL⟩:=nmd (rqL id veh (pl:Int) n fine zs os vs ko kv R L);rw[HGD.out,HGB.out,HGR.out,HGL.out]at RM;rw[HGD.out,HGB.out];clear hA hO hV hlz hlo hlv hP hpl hpc HGD HGB HGR HGL HE HE2 hpm hpp;go_enter Tryz.func94,Tryz.ntmps94;obtain⟨m0,m1⟩:=za2 hpm1;obtain⟨r0,r1⟩:=za2 hpp1;obtain⟨n0,n1,n2⟩:=zh1 N0.out
 go_wp2_with fail
 clear m0 m1 r0 r1 n0 n1 n2;refine RM.mono ?_;rintro e w2 ⟨ra2,n2,rc2,la2,l2,lc2,R2,rfl,hb,-⟩;have B2:Hid (Below w.heap.size w (w2.alloc (.cells #[.slice ra2 n2 rc2,.slice la2 l2 lc2] 33))):=(B0.out.trans (hb.mono B0.out.size)).alloc (Nat.le_trans B0.out.size hb.size) _;clear hb hpm1 hpp1 RM;cases ch
 ·go_wp2
  go_ret2;exact⟨rfl,B2.out⟩
 ·go_wp2
  go_ret2;exact⟨by simp,B2.out⟩
structure MV(w W:World)(ms ps:Array Value):Prop where
 b:Below w.heap.size w W
 m:W.heap[w.heap.size]? =some (.cells ms 82 (0,0))
 p:W.heap[w.heap.size+1]? =some (.cells ps 33 (0,0))
 o:W.heap[w.heap.size+2]? =some (.cells #[.int .i64 0,.int .i64 0,.int .i64 0] 86 (0,0))
theorem MV.below{w W W':World}{ms ps:Array Value}(h:MV w W ms ps)(hb:Below W.heap.size W W'):MV w W' ms ps:=
 ⟨h.b.trans (hb.mono h.b.size),za1 hb (za3 h.m) h.m,za1 hb (za3 h.p) h.p,za1 hb (za3 h.o) h.o⟩
theorem MV.new(w:World)(ms ps:Array Value):MV w (((w.alloc (.cells ms 82)).alloc (.cells ps 33)).alloc (.cells #[.int .i64 0,.int .i64 0,.int .i64 0] 86)) ms ps:=by
 refine⟨(((Below.refl _ _).alloc (Nat.le_refl _) _).alloc (by simp) _).alloc (by simp<;>omega) _,?_,?_,?_⟩
 ·exact(heap_alloc_old _ _ (by simp<;>omega)).trans (heap_alloc2_old _ _ _)
 ·exact(heap_alloc_old _ _ (by simp)).trans (heap_alloc2_new _ _ _)
 ·have:=heap_alloc_new ((w.alloc (.cells ms 82)).alloc (.cells ps 33)) (.cells #[.int .i64 0,.int .i64 0,.int .i64 0] 86)
  simpa using this
set_option maxRecDepth 10000 in
set_option maxHeartbeats 2000000 in
theorem z43(n fine:Int)(a ao av ra la:Option Addr)(zl cap ko co kv cv nr rc ln lc pc:Nat)(zs os vs L:List Int)(R:List RT)(w:World)(hA:za0 w a zs)(hO:za0 w ao os)(hV:za0 w av vs)(hlz:zs.length=zl)(hlo:os.length=ko*6)(hlv:vs.length=kv*5)(hP:zd4 w ra la nr ln R L)(hpl:zc3 n zs os vs ko kv fine R L=0)(hpc:w.heap[pc]? =some (.cells #[.int .i64 n,.slice a zl cap,.slice ao ko co,.slice av kv cv,.int .i64 fine] 30 (0,0)))(hko:ko<=9223372036854775807)(hkv:kv<=9223372036854775807)(q:QS)(hq:brQ n fine zs os vs ko kv R L=q):
 Calls Tryz.prog 51 #[.agg #[Value.func (.func 88) #[] #[.pointer (some ⟨pc,0,none⟩)],Value.func (.func 90) #[] #[.pointer (some ⟨pc,0,none⟩)]],.agg #[.slice ra nr rc,.slice la ln lc]] w fun e w'=>e=.returned (.tuple #[.agg #[.int .i64 q.s.1,.int .i64 q.s.2.1,.int .i64 (q.s.2.2:Int)],.int .i64 q.v,.bool q.f])/\Below w.heap.size w w':=by
 have HA:Hid (za0 w a zs):=hA;have HO:Hid (za0 w ao os):=hO;have HV:Hid (za0 w av vs):=hV;have HLZ:Hid (zs.length=zl):=hlz;have HLO:Hid (os.length=ko*6):=hlo;have HLV:Hid (vs.length=kv*5):=hlv;have HP:Hid (zd4 w ra la nr ln R L):=hP;have HN:Hid (R.length=nr):=hP.1;have HPL:Hid (zc3 n zs os vs ko kv fine R L=0):=hpl;have HPC:Hid (w.heap[pc]? =some (.cells #[.int .i64 n,.slice a zl cap,.slice ao ko co,.slice av kv cv,.int .i64 fine] 30 (0,0))):=hpc;clear hA hO hV hlz hlo hlv hP hpl hpc;have HQ:Hid (brQ n fine zs os vs ko kv R L=q):=hq;clear hq;have hmf:∀(fn:Fn) (first cap:Array Value) (w:World),(Instr.makeFunc fn first cap).run Tryz.prog w=.ok (.func fn first cap) w:=fun _ _ _ _=>rfl;have C0:Hid (MV w (((w.alloc (.cells #[Value.func (.func 88) #[] #[.pointer (some ⟨pc,0,none⟩)],Value.func (.func 90) #[] #[.pointer (some ⟨pc,0,none⟩)]] 82)).alloc (.cells #[.slice ra nr rc,.slice la ln lc] 33)).alloc (.cells #[.int .i64 0,.int .i64 0,.int .i64 0] 86)) #[Value.func (.func 88) #[] #[.pointer (some ⟨pc,0,none⟩)],Value.func (.func 90) #[] #[.pointer (some ⟨pc,0,none⟩)]] #[.slice ra nr rc,.slice la ln lc]):=MV.new w _ _;have RA:=zO5 n fine a ao av ra la zl cap ko co kv cv nr rc ln lc pc zs os vs L R _ (HA.out.below C0.out.b) (HO.out.below C0.out.b) (HV.out.below C0.out.b) HLZ.out HLO.out HLV.out (HP.out.below C0.out.b) HPL.out (za1 C0.out.b (za3 HPC.out) HPC.out);have hsl:(sp3 R vs kv (zf9 n zs os vs ko kv fine R L) (zf9 n zs os vs ko kv fine R L).length).length<=1000:=by
  obtain⟨g1,g2,_⟩:=zc2 HPL.out;have h1:=zU4 (fun r hr=>zm0 ((zi8.1 g2).2 r hr).2) vs (zn6 (zc4 g1).2.2.1).1 (zf9 n zs os vs ko kv fine R L) (zf9 n zs os vs ko kv fine R L).length;have h2:=z92 n zs os vs ko kv fine R L;omega
 obtain⟨X,HX⟩:=nmd (sp3 R vs kv (zf9 n zs os vs ko kv fine R L) (zf9 n zs os vs ko kv fine R L).length);have HQX:Hid (qst (mvB n fine zs os vs ko kv R L) (mvD n fine zs os vs ko kv R L) X=q):=by rw[<-HX.out];exact HQ.out
 rw[HX.out]at RA hsl;obtain⟨m,HM⟩:=nmd X.length;rw[HM.out]at RA;go_enter Tryz.func51,Tryz.ntmps51;obtain⟨m0,m1⟩:=za2 C0.out.m;obtain⟨r0,r1⟩:=za2 C0.out.p
 go_wp2_with fail
 generalize((w.alloc (.cells #[Value.func (.func 88) #[] #[.pointer (some ⟨pc,0,none⟩)],Value.func (.func 90) #[] #[.pointer (some ⟨pc,0,none⟩)]] 82)).alloc (.cells #[.slice ra nr rc,.slice la ln lc] 33)).alloc (.cells #[.int .i64 0,.int .i64 0,.int .i64 0] 86)=W0 at*;clear m0 m1 r0 r1;refine RA.mono ?_;rintro e w1 ⟨sl,rfl,hb,ho⟩;obtain⟨sa,sc,e⟩:=z03 ho;subst e;have C1:Hid (MV w w1 #[Value.func (.func 88) #[] #[.pointer (some ⟨pc,0,none⟩)],Value.func (.func 90) #[] #[.pointer (some ⟨pc,0,none⟩)]] #[.slice ra nr rc,.slice la ln lc]):=C0.out.below hb;have S1:Hid (za0 w1 sa (spF X)):=ys6 ho;clear hb ho C0 RA HX HQ;have LM:=zB8 sa sc w.heap.size (w.heap.size+1) X (mvB n fine zs os vs ko kv R L) (mvD n fine zs os vs ko kv R L) w1 S1.out hsl (fun W id veh pl hW=>by
  have hB:=C1.out.b.trans (hW.mono C1.out.b.size);exact zR7 n fine a ao av ra la zl cap ko co kv cv nr rc ln lc pc zs os vs L R W (HA.out.below hB) (HO.out.below hB) (HV.out.below hB) HLZ.out HLO.out HLV.out (HP.out.below hB) HPL.out (za1 hB (za3 HPC.out) HPC.out) hko hkv w.heap.size (w.heap.size+1) (za1 hW (za3 C1.out.m) C1.out.m) (za1 hW (za3 C1.out.p) C1.out.p) id veh pl) q HQX.out
 rw[HM.out]at LM
 go_wp2_with fail
 refine LM.mono ?_;rintro e w2 ⟨rfl,hb⟩;have C2:Hid (MV w w2 #[Value.func (.func 88) #[] #[.pointer (some ⟨pc,0,none⟩)],Value.func (.func 90) #[] #[.pointer (some ⟨pc,0,none⟩)]] #[.slice ra nr rc,.slice la ln lc]):=C1.out.below hb;clear hb C1 S1 LM HQX;obtain⟨sf,⟨s1,s2,s3⟩,sv⟩:=q;simp only;obtain⟨t0,t1,t2⟩:=zh1 C2.out.o;have tf:=fun i=>frozen_of_row _ _ i _ _ C2.out.o;go_wp2;refine bodyPost_ret (v:=.tuple #[.agg #[.int .i64 s1,.int .i64 s2,.int .i64 (s3:Int)],.int .i64 sv,.bool sf]) (by simp[results,Tryz.results51,go_sem,t0,t1,t2]) rfl ⟨rfl,?_⟩
 repeat(first|with_reducible exact C2.out.b|refine Below.setCell ?_ (by simp<;>omega) _)
structure DZ(w W:World)(ms ps:Array Value):Prop where
 b:Below w.heap.size w W
 m:W.heap[w.heap.size]? =some (.cells ms 82 (0,0))
 p:W.heap[w.heap.size+1]? =some (.cells ps 33 (0,0))
 o:W.heap[w.heap.size+2]? =some (.cells #[.slice none 0 0,.slice none 0 0] 33 (0,0))
theorem DZ.below{w W W':World}{ms ps:Array Value}(h:DZ w W ms ps)(hb:Below W.heap.size W W'):DZ w W' ms ps:=
 ⟨h.b.trans (hb.mono h.b.size),za1 hb (za3 h.m) h.m,za1 hb (za3 h.p) h.p,za1 hb (za3 h.o) h.o⟩
theorem DZ.new(w:World)(ms ps:Array Value):DZ w (((w.alloc (.cells ms 82)).alloc (.cells ps 33)).alloc (.cells #[.slice none 0 0,.slice none 0 0] 33)) ms ps:=by
 refine⟨(((Below.refl _ _).alloc (Nat.le_refl _) _).alloc (by simp) _).alloc (by simp<;>omega) _,?_,?_,?_⟩
 ·exact(heap_alloc_old _ _ (by simp<;>omega)).trans (heap_alloc2_old _ _ _)
 ·exact(heap_alloc_old _ _ (by simp)).trans (heap_alloc2_new _ _ _)
 ·have:=heap_alloc_new ((w.alloc (.cells ms 82)).alloc (.cells ps 33)) (.cells #[.slice none 0 0,.slice none 0 0] 33)
  simpa using this
theorem z63{W:World}{k:Nat}{z0 z1 u v:Value}{T:TypeId}(h:W.heap[k]? =some (.cells #[z0,z1] T (0,0))):((W.setCell ⟨k,0,none⟩ u).setCell ⟨k,1,none⟩ v).heap[k]? =some (.cells #[u,v] T (0,0)):=by
 have s1:=heap_setCell_same W k 0 _ _ u h;have s2:=heap_setCell_same _ k 1 _ _ v s1;simpa using s2
theorem DZ.put{w W:World}{ms:Array Value}{r0 r1:Value}(h:DZ w W ms #[r0,r1])(u v:Value):DZ w ((W.setCell ⟨w.heap.size+1,0,none⟩ u).setCell ⟨w.heap.size+1,1,none⟩ v) ms #[u,v]:=
 ⟨(h.b.setCell (by simp) _).setCell (by simp) _,zb1 (zb1 h.m (by omega)) (by omega),z63 h.p,zb1 (zb1 h.o (by omega)) (by omega)⟩
theorem zl0{W:World}{k:Nat}{T:TypeId}{a1 a2:Option Addr}{n1 c1 n2 c2:Nat}{ra la b1 b2:Option Addr}{rn ln m1 d1 m2 d2:Nat}{R:List RT}{L:List Int}(h:zd4 W ra la rn ln R L)(hr:W.heap[k]? =some (.cells #[.slice a1 n1 c1,.slice a2 n2 c2] T (0,0))):zd4 ((W.setCell ⟨k,0,none⟩ (.slice b1 m1 d1)).setCell ⟨k,1,none⟩ (.slice b2 m2 d2)) ra la rn ln R L:=by
 have s1:=heap_setCell_same W k 0 _ _ (Value.slice b1 m1 d1) hr;simp only[List.setIfInBounds_toArray,List.set_cons_zero]at s1;exact⟨h.1,h.2.1,zh5 (zh5 h.2.2.1 hr 0 _) s1 1 _,zo7 (zo7 h.2.2.2.1 hr 0 _) s1 1 _,h.2.2.2.2⟩
def yu3(w:World)(v:Int)(T:List RT)(L:List Int)(e:Ending)(w':World):Prop:=∃(ra2:Option Addr) (n2 rc2:Nat) (la2:Option Addr) (l2 lc2:Nat) (R2:List RT),e=.returned (.tuple #[.agg #[.slice ra2 n2 rc2,.slice la2 l2 lc2],.int .i64 v])/\Below w.heap.size w w'/\R2.map RT.key=T.map RT.key/\zd4 w' ra2 la2 n2 l2 R2 L
set_option maxRecDepth 10000 in
set_option maxHeartbeats 4000000 in
theorem zM7(n fine:Int)(a ao av ra la:Option Addr)(zl cap ko co kv cv nr rc ln lc pc:Nat)(zs os vs L:List Int)(R:List RT)(w:World)(hA:za0 w a zs)(hO:za0 w ao os)(hV:za0 w av vs)(hlz:zs.length=zl)(hlo:os.length=ko*6)(hlv:vs.length=kv*5)(hP:zd4 w ra la nr ln R L)(hpl:zc3 n zs os vs ko kv fine R L=0)(hpc:w.heap[pc]? =some (.cells #[.int .i64 n,.slice a zl cap,.slice ao ko co,.slice av kv cv,.int .i64 fine] 30 (0,0)))(hko:ko<=9223372036854775807)(hkv:kv<=9223372036854775807)(N:Nat)(hN:N<=60):
 Calls Tryz.prog 46 #[.agg #[Value.func (.func 88) #[] #[.pointer (some ⟨pc,0,none⟩)],Value.func (.func 90) #[] #[.pointer (some ⟨pc,0,none⟩)]],.agg #[.slice ra nr rc,.slice la ln lc],.int .i64 (N:Int)] w (yu3 w (dsC n fine zs os vs ko kv L N R:Int) (dsR n fine zs os vs ko kv L N R) L):=by
 have HA:Hid (za0 w a zs):=hA;have HO:Hid (za0 w ao os):=hO;have HV:Hid (za0 w av vs):=hV;have HLZ:Hid (zs.length=zl):=hlz;have HLO:Hid (os.length=ko*6):=hlo;have HLV:Hid (vs.length=kv*5):=hlv;have HP:Hid (zd4 w ra la nr ln R L):=hP;have HPL:Hid (zc3 n zs os vs ko kv fine R L=0):=hpl;have HPC:Hid (w.heap[pc]? =some (.cells #[.int .i64 n,.slice a zl cap,.slice ao ko co,.slice av kv cv,.int .i64 fine] 30 (0,0))):=hpc;clear hA hO hV hlz hlo hlv hP hpl hpc;obtain⟨T,HT⟩:=nmd (dsR n fine zs os vs ko kv L N R);obtain⟨cnt,HC⟩:=nmd (dsC n fine zs os vs ko kv L N R);rw[HT.out,HC.out];have D0:Hid (DZ w (((w.alloc (.cells #[Value.func (.func 88) #[] #[.pointer (some ⟨pc,0,none⟩)],Value.func (.func 90) #[] #[.pointer (some ⟨pc,0,none⟩)]] 82)).alloc (.cells #[.slice ra nr rc,.slice la ln lc] 33)).alloc (.cells #[.slice none 0 0,.slice none 0 0] 33)) #[Value.func (.func 88) #[] #[.pointer (some ⟨pc,0,none⟩)],Value.func (.func 90) #[] #[.pointer (some ⟨pc,0,none⟩)]] #[.slice ra nr rc,.slice la ln lc]):=DZ.new w _ _;go_enter Tryz.func46,Tryz.ntmps46
 go_wp2_with fail
 go_loopw[13] (fun t wr=>∃(k:Nat) (cur:List RT) (ra1:Option Addr) (n1 rc1:Nat) (la1:Option Addr) (l1 lc1:Nat),k<=N/\t=.int .i64 k/\DZ w wr #[Value.func (.func 88) #[] #[.pointer (some ⟨pc,0,none⟩)],Value.func (.func 90) #[] #[.pointer (some ⟨pc,0,none⟩)]] #[.slice ra1 n1 rc1,.slice la1 l1 lc1]/\zd4 wr ra1 la1 n1 l1 cur L/\zc3 n zs os vs ko kv fine cur L=0/\(dsR n fine zs os vs ko kv L (N - k) cur).map RT.key=T.map RT.key/\dsC n fine zs os vs ko kv L (N - k) cur+k=cnt) (fun t _=>100 - (intOf t).toNat)
 case atStart=>
  exact⟨0,R,ra,nr,rc,la,ln,lc,by omega,rfl,D0.out,HP.below D0.b,HPL.out,by rw[Nat.sub_zero,HT.out],by rw[Nat.sub_zero,HC.out];omega⟩
 case round=>
  clear D0;obtain⟨k,cur,ra1,n1,rc1,la1,l1,lc1,hk,rfl,hD,hpi,hpv,hkr,hkc⟩:=hrel;have D1:Hid (DZ w wr #[Value.func (.func 88) #[] #[.pointer (some ⟨pc,0,none⟩)],Value.func (.func 90) #[] #[.pointer (some ⟨pc,0,none⟩)]] #[.slice ra1 n1 rc1,.slice la1 l1 lc1]):=hD;have PI:Hid (zd4 wr ra1 la1 n1 l1 cur L):=hpi;have PV:Hid (zc3 n zs os vs ko kv fine cur L=0):=hpv;have KR:Hid ((dsR n fine zs os vs ko kv L (N - k) cur).map RT.key=T.map RT.key):=hkr;have KC:Hid (dsC n fine zs os vs ko kv L (N - k) cur+k=cnt):=hkc;clear hD hpi hpv hkr hkc HP HPL HT HC;obtain⟨q0,q1⟩:=za2 D1.p;by_cases hlt:k<N
  ·have hlt':(k:Int)<(N:Int):=by omega
   have hwk:IntKind.i64.wrap ((k:Int)+1)=((k+1:Nat):Int):=by rw[IntWalk.i64_in _ (by omega)];omega
   obtain⟨m0,m1⟩:=za2 D1.m;obtain⟨q,HQ⟩:=nmd (brQ n fine zs os vs ko kv cur L)
   go_wp2_with fail
   clear m0 m1 q0 q1;refine(z43 n fine a ao av ra1 la1 zl cap ko co kv cv n1 rc1 l1 lc1 pc zs os vs L cur wr (HA.below D1.b) (HO.below D1.b) (HV.below D1.b) HLZ.out HLO.out HLV.out PI.out PV.out (za1 D1.b (za3 HPC.out) HPC.out) hko hkv q HQ.out).mono ?_;rintro e w2 ⟨rfl,hb⟩;obtain⟨sf,⟨s1,s2,s3⟩,sv⟩:=q;dsimp only;have D2:Hid (DZ w (w2.alloc (.cells #[.int .i64 s1,.int .i64 s2,.int .i64 (s3:Int)] 86)) #[Value.func (.func 88) #[] #[.pointer (some ⟨pc,0,none⟩)],Value.func (.func 90) #[] #[.pointer (some ⟨pc,0,none⟩)]] #[.slice ra1 n1 rc1,.slice la1 l1 lc1]):=(D1.below hb).below ((Below.refl _ _).alloc (Nat.le_refl _) _);have N2:Hid ((w2.alloc (.cells #[.int .i64 s1,.int .i64 s2,.int .i64 (s3:Int)] 86)).heap[w2.heap.size]? =some (.cells #[.int .i64 s1,.int .i64 s2,.int .i64 (s3:Int)] 86 (0,0))):=heap_alloc_new _ _;have PI2:Hid (zd4 (w2.alloc (.cells #[.int .i64 s1,.int .i64 s2,.int .i64 (s3:Int)] 86)) ra1 la1 n1 l1 cur L):=(PI.below hb).below ((Below.refl _ _).alloc (Nat.le_refl _) _);clear hb D1 PI;obtain⟨q0,q1⟩:=za2 D2.p;cases sf
   ·have hst:(brQ n fine zs os vs ko kv cur L).f=false:=by rw[HQ.out]
    have e1:=KR.out;have e2:=KC.out;rw[(zm4 hst (N - k)).1]at e1;rw[(zm4 hst (N - k)).2,Nat.zero_add]at e2;subst e2;have E1:Hid (cur.map RT.key=T.map RT.key):=e1;clear hst e1 KR KC HQ;obtain⟨t0,t1⟩:=za2 D2.o;have tf:=fun i=>frozen_of_row _ _ i _ _ D2.o;have P3:Hid _:=zl0 (b1:=ra1) (m1:=n1) (d1:=rc1) (b2:=la1) (m2:=l1) (d2:=lc1) PI2.out D2.o;go_wp2;refine bodyPost_ret (v:=.tuple #[.agg #[.slice ra1 n1 rc1,.slice la1 l1 lc1],.int .i64 (k:Int)]) (by simp[results,Tryz.results46,go_sem,t0,t1]) rfl ⟨ra1,n1,rc1,la1,l1,lc1,cur,rfl,(D2.b.setCell (by simp<;>omega) _).setCell (by simp<;>omega) _,E1.out,P3.out⟩
   ·have hst:(brQ n fine zs os vs ko kv cur L).f=true:=by rw[HQ.out]
    obtain⟨b1,b2,b3,b4⟩:=zB0 HQ.out rfl;have hnk:N - k=(N - (k+1))+1:=by omega
    have e1:=KR.out;have e2:=KC.out;rw[hnk,(zm6 hst _).1]at e1;rw[hnk,(zm6 hst _).2]at e2;have E1:Hid ((dsR n fine zs os vs ko kv L (N - (k+1)) (dsN n fine zs os vs ko kv L cur)).map RT.key=T.map RT.key):=e1;have E2:Hid (dsC n fine zs os vs ko kv L (N - (k+1)) (dsN n fine zs os vs ko kv L cur)+1+k=cnt):=e2;dsimp only at b1 b2 b3;have RM:=z38 s1 s2 (s3:Int) n fine a ao av ra1 la1 zl cap ko co kv cv n1 rc1 l1 lc1 pc zs os vs L cur _ (HA.below D2.b) (HO.below D2.b) (HV.below D2.b) HLZ.out HLO.out HLV.out hko hkv PI2.out PV.out (za1 D2.b (za3 HPC.out) HPC.out);rw[b1,b2,b3]at RM;have B4:Hid (zc3 n zs os vs ko kv fine (dsN n fine zs os vs ko kv L cur) L=0):=b4;obtain⟨RD,HRD⟩:=nmd (rqD s1 s2 (s3:Int) n fine zs os vs ko kv cur L);rw[HRD.out]at RM;obtain⟨nx,HNX⟩:=nmd (dsN n fine zs os vs ko kv L cur);rw[HNX.out]at RM E1 E2 B4;clear hst e1 e2 b1 b2 b3 b4 KR KC HQ HRD HNX hnk;obtain⟨m0,m1⟩:=za2 D2.m;obtain⟨n0,n1',n2'⟩:=zh1 N2.out;have qf:=fun i=>frozen_of_row _ _ i _ _ D2.p
    go_wp2_with fail
    clear m0 m1 n0 n1' n2' q0 q1 qf;refine RM.mono ?_;rintro e w4 ⟨ra2,n2,rc2,la2,l2,lc2,R2,rfl,hb,hkey,hpi⟩;have D4:Hid (DZ w w4 #[Value.func (.func 88) #[] #[.pointer (some ⟨pc,0,none⟩)],Value.func (.func 90) #[] #[.pointer (some ⟨pc,0,none⟩)]] #[.slice ra1 n1 rc1,.slice la1 l1 lc1]):=D2.below hb;have D5:Hid (DZ w _ #[Value.func (.func 88) #[] #[.pointer (some ⟨pc,0,none⟩)],Value.func (.func 90) #[] #[.pointer (some ⟨pc,0,none⟩)]] #[.slice ra2 n2 rc2,.slice la2 l2 lc2]):=D4.put (.slice ra2 n2 rc2) (.slice la2 l2 lc2);have P5:Hid _:=zl0 (b1:=ra2) (m1:=n2) (d1:=rc2) (b2:=la2) (m2:=l2) (d2:=lc2) hpi D4.p;have HK:Hid (R2.map RT.key=nx.map RT.key):=hkey;clear hb hkey hpi D2 PI2 N2 RM;obtain⟨q0,q1⟩:=za2 D4.p;have qf:=fun i=>frozen_of_row _ _ i _ _ D4.p;go_wp2;go_roundw
    case rel=>
     exact⟨k+1,R2,ra2,n2,rc2,la2,l2,lc2,by omega,by first|rfl|go_num,D5.out,P5.out,by rw[zh4 L HK.out];exact B4.out,(zR1 _ HK.out).trans E1.out,by rw[zU3 _ HK.out];have:=E2.out;omega⟩
    case measure=>simp[intOf];omega
  ·have hke:k=N:=by omega
   subst hke;have e1:=KR.out;have e2:=KC.out;rw[Nat.sub_self]at e1 e2;have e3:k=cnt:=by simpa[dsC]using e2
   subst e3;have E1:Hid (cur.map RT.key=T.map RT.key):=e1;clear e1 e2 KR KC;obtain⟨t0,t1⟩:=za2 D1.o;have tf:=fun i=>frozen_of_row _ _ i _ _ D1.o;have P3:Hid _:=zl0 (b1:=ra1) (m1:=n1) (d1:=rc1) (b2:=la1) (m2:=l1) (d2:=lc1) PI.out D1.o;go_wp2;refine bodyPost_ret (v:=.tuple #[.agg #[.slice ra1 n1 rc1,.slice la1 l1 lc1],.int .i64 (k:Int)]) (by simp[results,Tryz.results46,go_sem,t0,t1]) rfl ⟨ra1,n1,rc1,la1,l1,lc1,cur,rfl,(D1.b.setCell (by simp<;>omega) _).setCell (by simp<;>omega) _,E1.out,P3.out⟩
set_option maxRecDepth 10000 in
set_option maxHeartbeats 4000000 in
theorem z20(st n fine:Int)(a ao av ra la:Option Addr)(zl cap ko co kv cv nr rc ln lc:Nat)(zs os vs L:List Int)(R:List RT)(w:World)(hA:za0 w a zs)(hO:za0 w ao os)(hV:za0 w av vs)(hlz:zs.length=zl)(hlo:os.length=ko*6)(hlv:vs.length=kv*5)(hko:ko<=9223372036854775807)(hkv:kv<=9223372036854775807)(hP:zd4 w ra la nr ln R L)(hn:nr<=1048576)(hi:∀r∈R,r.ids.length<=1048576)(hll:ln<=1048576)(hal:(za7 R R.length).length<=1048576)(hwl:∀x∈L,(Lit.int .i64 x).wf=true):
 Calls Tryz.prog 16 #[.agg #[.int .i64 n,.slice a zl cap,.slice ao ko co,.slice av kv cv,.int .i64 fine],.agg #[.slice ra nr rc,.slice la ln lc],.int .i64 st] w (zO6 w (dcN st n fine zs os vs ko kv R L) (dcR st n fine zs os vs ko kv R L) (dcL st n fine zs os vs ko kv R L)):=by
 have HA:Hid (za0 w a zs):=hA;have HO:Hid (za0 w ao os):=hO;have HV:Hid (za0 w av vs):=hV;have HLZ:Hid (zs.length=zl):=hlz;have HLO:Hid (os.length=ko*6):=hlo;have HLV:Hid (vs.length=kv*5):=hlv;have HP:Hid (zd4 w ra la nr ln R L):=hP;have HN:Hid (R.length=nr):=hP.1;have HM:Hid (L.length=ln):=hP.2.1;have HI:Hid (∀r∈R,r.ids.length<=1048576):=hi;clear hA hO hV hlz hlo hlv hP hi;obtain⟨pv,HPV⟩:=nmd (zc3 n zs os vs ko kv fine R L);obtain⟨k1,HK1⟩:=nmd (inB st 0 60);have HDB:Hid (dcB st n fine zs os vs ko kv R L=(decide (pv=0)&&k1)):=by show _=_;unfold dcB;rw[HPV.out,HK1.out]
 have HNO:Hid (dcB st n fine zs os vs ko kv R L=false->dcN st n fine zs os vs ko kv R L= -1/\dcR st n fine zs os vs ko kv R L=[]/\dcL st n fine zs os vs ko kv R L=[]):=fun h=>by
  unfold dcN dcR dcL;rw[h];exact⟨rfl,rfl,rfl⟩
 have HBD:=yz8 st n fine zs os vs ko kv R L;have DI0:dcB st n fine zs os vs ko kv R L=true->∀W (pc:Nat),Below w.heap.size w W->W.heap[pc]? =some (.cells #[.int .i64 n,.slice a zl cap,.slice ao ko co,.slice av kv cv,.int .i64 fine] 30 (0,0))->Calls Tryz.prog 46 #[.agg #[Value.func (.func 88) #[] #[.pointer (some ⟨pc,0,none⟩)],Value.func (.func 90) #[] #[.pointer (some ⟨pc,0,none⟩)]],.agg #[.slice ra nr rc,.slice la ln lc],.int .i64 st] W (yu3 W (dcN st n fine zs os vs ko kv R L) (dcR st n fine zs os vs ko kv R L) (dcL st n fine zs os vs ko kv R L)):=fun hB W pc hW h1=>by
  have hB2:=hB;unfold dcB at hB2;rw[Bool.and_eq_true,decide_eq_true_eq]at hB2;have hin:=zd5 hB2.2;have:=zM7 n fine a ao av ra la zl cap ko co kv cv nr rc ln lc pc zs os vs L R W (HA.below hW) (HO.below hW) (HV.below hW) HLZ.out HLO.out HLV.out (HP.below hW) hB2.1 h1 hko hkv st.toNat (by omega);rw[show((st.toNat:Nat):Int)=st by omega]at this;unfold dcN dcR dcL;rw[hB];exact this
 obtain⟨GN,HGN⟩:=nmd (dcN st n fine zs os vs ko kv R L);obtain⟨GR,HGR⟩:=nmd (dcR st n fine zs os vs ko kv R L);obtain⟨GL,HGL⟩:=nmd (dcL st n fine zs os vs ko kv R L);rw[HGR.out,HGL.out]at HBD;have HGI:Hid ((∀r∈GR,r.ids≠[]/\r.ids.length<=12)/\GR.length<=500/\GL.length<=500):=HBD;rw[HGN.out,HGR.out,HGL.out]at DI0;rw[HGN.out,HGR.out,HGL.out]at HNO;rw[HGN.out,HGR.out,HGL.out];have DI:Hid _:=DI0;clear HBD HGN HGR HGL DI0;have Q0:Hid (GQ w (((w.alloc (.cells #[.int .i64 n,.slice a zl cap,.slice ao ko co,.slice av kv cv,.int .i64 fine] 30)).alloc (.cells #[.slice ra nr rc,.slice la ln lc] 33)).alloc (.cells #[.slice none 0 0,.slice none 0 0] 33)) #[.int .i64 n,.slice a zl cap,.slice ao ko co,.slice av kv cv,.int .i64 fine] #[.slice ra nr rc,.slice la ln lc]):=by
  refine⟨(((Below.refl _ _).alloc (Nat.le_refl _) _).alloc (by simp) _).alloc (by simp;omega) _,?_,?_,?_⟩
  ·exact(heap_alloc_old _ _ (by simp;omega)).trans (heap_alloc2_old _ _ _)
  ·exact(heap_alloc_old _ _ (by simp)).trans (heap_alloc2_new _ _ _)
  ·have:=heap_alloc_new ((w.alloc (.cells #[.int .i64 n,.slice a zl cap,.slice ao ko co,.slice av kv cv,.int .i64 fine] 30)).alloc (.cells #[.slice ra nr rc,.slice la ln lc] 33)) (.cells #[.slice none 0 0,.slice none 0 0] 33)
   simpa using this
 have PC:=zl8 n fine a ao av ra la cap ko co kv cv rc lc zs os vs L R (((w.alloc (.cells #[.int .i64 n,.slice a zl cap,.slice ao ko co,.slice av kv cv,.int .i64 fine] 30)).alloc (.cells #[.slice ra nr rc,.slice la ln lc] 33)).alloc (.cells #[.slice none 0 0,.slice none 0 0] 33)) (HA.below Q0.b) (HO.below Q0.b) (HV.below Q0.b) (HP.2.2.1.below Q0.b) (HP.2.2.2.1.below Q0.b) HLO.out HLV.out hko hkv (by rw[HN.out];exact hn) HI.out HP.2.2.2.2.2.2 (by rw[HM.out];exact hll) hal hwl;rw[HN.out,HM.out,HLZ.out,HPV.out]at PC;obtain⟨c0,c1,c2,c3,c4⟩:=za8 Q0.c;obtain⟨p0,p1⟩:=za2 Q0.p;go_enter Tryz.func16,Tryz.ntmps16
 go_wp2_with fail
 generalize((w.alloc (.cells #[.int .i64 n,.slice a zl cap,.slice ao ko co,.slice av kv cv,.int .i64 fine] 30)).alloc (.cells #[.slice ra nr rc,.slice la ln lc] 33)).alloc (.cells #[.slice none 0 0,.slice none 0 0] 33)=W0 at*;refine PC.mono ?_;rintro e w1 ⟨rfl,hb⟩;have Q1:Hid (GQ w w1 #[.int .i64 n,.slice a zl cap,.slice ao ko co,.slice av kv cv,.int .i64 fine] #[.slice ra nr rc,.slice la ln lc]):=Q0.below hb;clear hb PC c0 c1 c2 c3 c4 p0 p1 Q0 HPV;obtain⟨a0,a1⟩:=za2 Q1.o;have af:=fun i=>frozen_of_row _ _ i _ _ Q1.o;by_cases hpv:pv=0
 ·subst hpv
  rw[decide_eq_true rfl,Bool.true_and]at HDB;cases k1
  ·have B5:Hid (Below w.heap.size w ((w1.setCell ⟨w.heap.size+2,0,none⟩ (.slice none 0 0)).setCell ⟨w.heap.size+2,1,none⟩ (.slice none 0 0))):=(Q1.b.setCell (by simp) _).setCell (by simp) _
   obtain⟨g1,g2,g3⟩:=HNO.out (by rw[HDB.out];try rfl);subst g1 g2 g3;clear HNO DI
   go_wp2_with(go_at_call 44;refine(zc1 _ _ _ _).mono ?_;rintro e w' ⟨rfl,hw'⟩;subst w';rw[HK1.out])
   refine bodyPost_ret (v:=.tuple #[.agg #[.slice none 0 0,.slice none 0 0],.int .i64 (-1)]) (by simp[results,Tryz.results16,go_sem,a0,a1]) rfl ?_;show zO6 _ _ _ _ _ _;exact⟨none,0,0,none,0,0,[],rfl,B5.out,rfl,rfl,rfl,⟨World.ownsRow_nil _ _ _ _,(fun s hs=>by cases hs),World.ownsRow_nil _ _ _ _⟩,zs4.nil _⟩
  ·clear HNO
   have DI2:=DI.out HDB.out;have DJ:Hid _:=DI2;clear DI DI2 HDB a0 a1 af;go_upto_region 3 with(go_at_call 44;refine(zc1 _ _ _ _).mono ?_;rintro e w' ⟨rfl,hw'⟩;subst w';rw[HK1.out]);go_cut [8,9]from 20 to 27 (fun s8 s9 wx=>∃(kz:Nat) (ra2:Option Addr) (n2 rc2:Nat) (la2:Option Addr) (l2 lc2:Nat) (R2:List RT),s8=.pointer (some ⟨kz,0,none⟩)/\s9=.int .i64 GN/\GQ w wx #[.int .i64 n,.slice a zl cap,.slice ao ko co,.slice av kv cv,.int .i64 fine] #[.slice ra nr rc,.slice la ln lc]/\wx.heap[kz]? =some (.cells #[.slice ra2 n2 rc2,.slice la2 l2 lc2] 33 (0,0))/\zd4 wx ra2 la2 n2 l2 R2 GL/\R2.map RT.key=GR.map RT.key)
   case first=>
    go_wp2_with fail
    refine wp_region_held_drew (S:=(fun W=>(W.cell? ⟨w.heap.size,0,none⟩=some (.int .i64 n)/\W.cell? ⟨w.heap.size,1,none⟩=some (.slice a zl cap)/\W.cell? ⟨w.heap.size,2,none⟩=some (.slice ao ko co)/\W.cell? ⟨w.heap.size,3,none⟩=some (.slice av kv cv)/\W.cell? ⟨w.heap.size,4,none⟩=some (.int .i64 fine))/\W.cell? ⟨w.heap.size+1,0,none⟩=some (.slice ra nr rc)/\W.cell? ⟨w.heap.size+1,1,none⟩=some (.slice la ln lc))) (by kernel_rfl) ?_ (fun hHeld=> ?_)
    ·exact⟨za8 (Q1.below (Below.refl _ _).drew).c,za2 (Q1.below (Below.refl _ _).drew).p⟩
    have G_d:Hid (GQ w w1.drew #[.int .i64 n,.slice a zl cap,.slice ao ko co,.slice av kv cv,.int .i64 fine] #[.slice ra nr rc,.slice la ln lc]):=Q1.below (Below.refl _ _).drew;generalize w1.drew=wd at*;refine tkH 0 hHeld ?_;refine tkH 2 hHeld ?_;refine tkH 3 hHeld ?_;refine wpAnyH_ready (rs:=[1,8]) (by kernel_rfl) (by simp) ?_;refine AllReadyH.cons rfl (fun K hK=> ?_) ?_
    ·skip
     go_simp;refine(zk2 _ wd n fine a ao av cap ko co kv cv zl rfl).mono ?_;rintro e w2 ⟨pc,rfl,hb,hk2⟩;have G_w2:Hid (GQ w w2 #[.int .i64 n,.slice a zl cap,.slice ao ko co,.slice av kv cv,.int .i64 fine] #[.slice ra nr rc,.slice la ln lc]):=G_d.below hb;have CB_w2:Hid (w2.heap[pc]? =some (.cells #[.int .i64 n,.slice a zl cap,.slice ao ko co,.slice av kv cv,.int .i64 fine] 30 (0,0))):=hk2;clear hb hk2
     (try go_wp2_with fail)
     refine hK.out _ _ ?_ (fun hHeld=> ?_)
     ·exact⟨za8 G_w2.c,za2 G_w2.p⟩
     clear hK K
     (try simp only[Act.put,List.setIfInBounds_toArray,List.set_cons_zero,List.set_cons_succ])
     refine wpAnyH_ready (rs:=[4,8]) (by kernel_rfl) (by simp) ?_;refine AllReadyH.cons rfl (fun K hK=> ?_) ?_
     ·skip
      go_simp;refine(DJ.out w2 pc G_w2.b CB_w2.out).mono ?_;rintro e w5 ⟨ra2,n2,rc2,la2,l2,lc2,R2,rfl,hb,h5,hpi⟩;have G_w5:Hid (GQ w w5 #[.int .i64 n,.slice a zl cap,.slice ao ko co,.slice av kv cv,.int .i64 fine] #[.slice ra nr rc,.slice la ln lc]):=G_w2.below hb;have HP_w5:Hid (zd4 w5 ra2 la2 n2 l2 R2 GL):=hpi;have HX:Hid (R2.map RT.key=GR.map RT.key):=h5;clear hb h5 hpi
      (try go_wp2_with fail)
      refine hK.out _ _ ?_ (fun hHeld=> ?_)
      ·exact⟨za8 G_w5.c,za2 G_w5.p⟩
      clear hK K
      (try simp only[Act.put,List.setIfInBounds_toArray,List.set_cons_zero,List.set_cons_succ])
      refine tkH 5 hHeld ?_;refine tkH 6 hHeld ?_;refine tkH 7 hHeld ?_;refine wpAnyH_ready (rs:=[8]) (by kernel_rfl) (by simp) ?_;refine AllReadyH.cons rfl (fun K hK=> ?_) AllReadyH.nil;have G_z:Hid (GQ w (w5.alloc (.cells #[.slice none 0 0,.slice none 0 0] 33)) #[.int .i64 n,.slice a zl cap,.slice ao ko co,.slice av kv cv,.int .i64 fine] #[.slice ra nr rc,.slice la ln lc]):=G_w5.below ((Below.refl w5.heap.size w5).alloc (Nat.le_refl _) (.cells #[.slice none 0 0,.slice none 0 0] 33));have VZ0:Hid ((w5.alloc (.cells #[.slice none 0 0,.slice none 0 0] 33)).heap[w5.heap.size]? =some (.cells #[.slice none 0 0,.slice none 0 0] 33 (0,0))):=heap_alloc_new _ _;have HZL:Hid (w.heap.size+3<=w5.heap.size):=G_w5.size;have HP_z:Hid (zd4 (w5.alloc (.cells #[.slice none 0 0,.slice none 0 0] 33)) ra2 la2 n2 l2 R2 GL):=HP_w5.below ((Below.refl w5.heap.size w5).alloc (Nat.le_refl _) (.cells #[.slice none 0 0,.slice none 0 0] 33));go_simp;refine hK.out _ _ ?_ (fun hHeld=> ?_)
      ·exact⟨za8 G_z.c,za2 G_z.p⟩
      clear hK K
      (try simp only[Act.put,List.setIfInBounds_toArray,List.set_cons_zero,List.set_cons_succ])
      obtain⟨kz,HKZ⟩:=nmd w5.heap.size;rw[HKZ.out]at VZ0 HZL⊢;generalize(w5.alloc (.cells #[.slice none 0 0,.slice none 0 0] 33))=wz at*;obtain⟨z0,z1⟩:=za2 VZ0.out;have zf:=fun i=>frozen_of_row _ _ i _ _ VZ0.out;refine wpAnyH_ready (rs:=[9]) (by kernel_rfl) (by simp) ?_;refine AllReadyH.cons rfl (fun K hK=> ?_) AllReadyH.nil;have V5:Hid (((wz.setCell ⟨kz,0,none⟩ (.slice ra2 n2 rc2)).setCell ⟨kz,1,none⟩ (.slice la2 l2 lc2)).heap[kz]? =some (.cells #[.slice ra2 n2 rc2,.slice la2 l2 lc2] 33 (0,0))):=z63 VZ0.out;have G5:Hid (GQ w ((wz.setCell ⟨kz,0,none⟩ (.slice ra2 n2 rc2)).setCell ⟨kz,1,none⟩ (.slice la2 l2 lc2)) #[.int .i64 n,.slice a zl cap,.slice ao ko co,.slice av kv cv,.int .i64 fine] #[.slice ra nr rc,.slice la ln lc]):=(G_z.set HZL.out).set HZL.out;have P5:Hid (zd4 ((wz.setCell ⟨kz,0,none⟩ (.slice ra2 n2 rc2)).setCell ⟨kz,1,none⟩ (.slice la2 l2 lc2)) ra2 la2 n2 l2 R2 GL):=zl0 HP_z.out VZ0.out;go_simp;refine hK.out _ _ ?_ (fun hHeld=> ?_)
      ·exact⟨za8 G5.c,za2 G5.p⟩
      clear hK K;generalize((wz.setCell ⟨kz,0,none⟩ (.slice ra2 n2 rc2)).setCell ⟨kz,1,none⟩ (.slice la2 l2 lc2))=w6 at*;refine tkH 10 hHeld ?_;refine wpAnyH_done (by kernel_rfl) ?_ _;clear hHeld
      (try go_wp2_with fail)
      go_meet;exact⟨kz,ra2,n2,rc2,la2,l2,lc2,R2,rfl,rfl,G5.out,V5.out,P5.out,HX.out⟩
     refine AllReadyH.cons rfl (fun K hK=> ?_) AllReadyH.nil;have G_z:Hid (GQ w (w2.alloc (.cells #[.slice none 0 0,.slice none 0 0] 33)) #[.int .i64 n,.slice a zl cap,.slice ao ko co,.slice av kv cv,.int .i64 fine] #[.slice ra nr rc,.slice la ln lc]):=G_w2.below ((Below.refl w2.heap.size w2).alloc (Nat.le_refl _) (.cells #[.slice none 0 0,.slice none 0 0] 33));have VZ0:Hid ((w2.alloc (.cells #[.slice none 0 0,.slice none 0 0] 33)).heap[w2.heap.size]? =some (.cells #[.slice none 0 0,.slice none 0 0] 33 (0,0))):=heap_alloc_new _ _;have HZL:Hid (w.heap.size+3<=w2.heap.size):=G_w2.size;have CB_z:Hid ((w2.alloc (.cells #[.slice none 0 0,.slice none 0 0] 33)).heap[pc]? =some (.cells #[.int .i64 n,.slice a zl cap,.slice ao ko co,.slice av kv cv,.int .i64 fine] 30 (0,0))):=za1 ((Below.refl w2.heap.size w2).alloc (Nat.le_refl _) (.cells #[.slice none 0 0,.slice none 0 0] 33)) (za3 CB_w2.out) CB_w2.out;go_simp;refine hK.out _ _ ?_ (fun hHeld=> ?_)
     ·exact⟨za8 G_z.c,za2 G_z.p⟩
     clear hK K
     (try simp only[Act.put,List.setIfInBounds_toArray,List.set_cons_zero,List.set_cons_succ])
     obtain⟨kz,HKZ⟩:=nmd w2.heap.size;rw[HKZ.out]at VZ0 HZL⊢;generalize(w2.alloc (.cells #[.slice none 0 0,.slice none 0 0] 33))=wz at*;obtain⟨z0,z1⟩:=za2 VZ0.out;have zf:=fun i=>frozen_of_row _ _ i _ _ VZ0.out;refine wpAnyH_ready (rs:=[4]) (by kernel_rfl) (by simp) ?_;refine AllReadyH.cons rfl (fun K hK=> ?_) AllReadyH.nil;go_simp;refine(DJ.out wz pc G_z.b CB_z.out).mono ?_;rintro e w5 ⟨ra2,n2,rc2,la2,l2,lc2,R2,rfl,hb,h5,hpi⟩;have G_w5:Hid (GQ w w5 #[.int .i64 n,.slice a zl cap,.slice ao ko co,.slice av kv cv,.int .i64 fine] #[.slice ra nr rc,.slice la ln lc]):=G_z.below hb;have HP_w5:Hid (zd4 w5 ra2 la2 n2 l2 R2 GL):=hpi;have HX:Hid (R2.map RT.key=GR.map RT.key):=h5;have VZ_w5:Hid (w5.heap[kz]? =some (.cells #[.slice none 0 0,.slice none 0 0] 33 (0,0))):=za1 hb (za3 VZ0.out) VZ0.out;obtain⟨z0,z1⟩:=za2 VZ_w5.out;have zf:=fun i=>frozen_of_row _ _ i _ _ VZ_w5.out;clear hb h5 hpi
     (try go_wp2_with fail)
     refine hK.out _ _ ?_ (fun hHeld=> ?_)
     ·exact⟨za8 G_w5.c,za2 G_w5.p⟩
     clear hK K
     (try simp only[Act.put,List.setIfInBounds_toArray,List.set_cons_zero,List.set_cons_succ])
     refine tkH 5 hHeld ?_;refine tkH 6 hHeld ?_;refine tkH 7 hHeld ?_;refine wpAnyH_ready (rs:=[9]) (by kernel_rfl) (by simp) ?_;refine AllReadyH.cons rfl (fun K hK=> ?_) AllReadyH.nil;have V5:Hid (((w5.setCell ⟨kz,0,none⟩ (.slice ra2 n2 rc2)).setCell ⟨kz,1,none⟩ (.slice la2 l2 lc2)).heap[kz]? =some (.cells #[.slice ra2 n2 rc2,.slice la2 l2 lc2] 33 (0,0))):=z63 VZ_w5.out;have G5:Hid (GQ w ((w5.setCell ⟨kz,0,none⟩ (.slice ra2 n2 rc2)).setCell ⟨kz,1,none⟩ (.slice la2 l2 lc2)) #[.int .i64 n,.slice a zl cap,.slice ao ko co,.slice av kv cv,.int .i64 fine] #[.slice ra nr rc,.slice la ln lc]):=(G_w5.set HZL.out).set HZL.out;have P5:Hid (zd4 ((w5.setCell ⟨kz,0,none⟩ (.slice ra2 n2 rc2)).setCell ⟨kz,1,none⟩ (.slice la2 l2 lc2)) ra2 la2 n2 l2 R2 GL):=zl0 HP_w5.out VZ_w5.out;go_simp;refine hK.out _ _ ?_ (fun hHeld=> ?_)
     ·exact⟨za8 G5.c,za2 G5.p⟩
     clear hK K;generalize((w5.setCell ⟨kz,0,none⟩ (.slice ra2 n2 rc2)).setCell ⟨kz,1,none⟩ (.slice la2 l2 lc2))=w6 at*;refine tkH 10 hHeld ?_;refine wpAnyH_done (by kernel_rfl) ?_ _;clear hHeld
     (try go_wp2_with fail)
     go_meet;exact⟨kz,ra2,n2,rc2,la2,l2,lc2,R2,rfl,rfl,G5.out,V5.out,P5.out,HX.out⟩
    refine AllReadyH.cons rfl (fun K hK=> ?_) AllReadyH.nil;have G_z:Hid (GQ w (wd.alloc (.cells #[.slice none 0 0,.slice none 0 0] 33)) #[.int .i64 n,.slice a zl cap,.slice ao ko co,.slice av kv cv,.int .i64 fine] #[.slice ra nr rc,.slice la ln lc]):=G_d.below ((Below.refl wd.heap.size wd).alloc (Nat.le_refl _) (.cells #[.slice none 0 0,.slice none 0 0] 33));have VZ0:Hid ((wd.alloc (.cells #[.slice none 0 0,.slice none 0 0] 33)).heap[wd.heap.size]? =some (.cells #[.slice none 0 0,.slice none 0 0] 33 (0,0))):=heap_alloc_new _ _;have HZL:Hid (w.heap.size+3<=wd.heap.size):=G_d.size;go_simp;refine hK.out _ _ ?_ (fun hHeld=> ?_)
    ·exact⟨za8 G_z.c,za2 G_z.p⟩
    clear hK K
    (try simp only[Act.put,List.setIfInBounds_toArray,List.set_cons_zero,List.set_cons_succ])
    obtain⟨kz,HKZ⟩:=nmd wd.heap.size;rw[HKZ.out]at VZ0 HZL⊢;generalize(wd.alloc (.cells #[.slice none 0 0,.slice none 0 0] 33))=wz at*;obtain⟨z0,z1⟩:=za2 VZ0.out;have zf:=fun i=>frozen_of_row _ _ i _ _ VZ0.out;refine wpAnyH_ready (rs:=[1]) (by kernel_rfl) (by simp) ?_;refine AllReadyH.cons rfl (fun K hK=> ?_) AllReadyH.nil;go_simp;refine(zk2 _ wz n fine a ao av cap ko co kv cv zl rfl).mono ?_;rintro e w2 ⟨pc,rfl,hb,hk2⟩;have G_w2:Hid (GQ w w2 #[.int .i64 n,.slice a zl cap,.slice ao ko co,.slice av kv cv,.int .i64 fine] #[.slice ra nr rc,.slice la ln lc]):=G_z.below hb;have CB_w2:Hid (w2.heap[pc]? =some (.cells #[.int .i64 n,.slice a zl cap,.slice ao ko co,.slice av kv cv,.int .i64 fine] 30 (0,0))):=hk2;have VZ_w2:Hid (w2.heap[kz]? =some (.cells #[.slice none 0 0,.slice none 0 0] 33 (0,0))):=za1 hb (za3 VZ0.out) VZ0.out;obtain⟨z0,z1⟩:=za2 VZ_w2.out;have zf:=fun i=>frozen_of_row _ _ i _ _ VZ_w2.out;clear hb hk2
    (try go_wp2_with fail)
    refine hK.out _ _ ?_ (fun hHeld=> ?_)
    ·exact⟨za8 G_w2.c,za2 G_w2.p⟩
    clear hK K
    (try simp only[Act.put,List.setIfInBounds_toArray,List.set_cons_zero,List.set_cons_succ])
    refine wpAnyH_ready (rs:=[4]) (by kernel_rfl) (by simp) ?_;refine AllReadyH.cons rfl (fun K hK=> ?_) AllReadyH.nil;go_simp;refine(DJ.out w2 pc G_w2.b CB_w2.out).mono ?_;rintro e w5 ⟨ra2,n2,rc2,la2,l2,lc2,R2,rfl,hb,h5,hpi⟩;have G_w5:Hid (GQ w w5 #[.int .i64 n,.slice a zl cap,.slice ao ko co,.slice av kv cv,.int .i64 fine] #[.slice ra nr rc,.slice la ln lc]):=G_w2.below hb;have HP_w5:Hid (zd4 w5 ra2 la2 n2 l2 R2 GL):=hpi;have HX:Hid (R2.map RT.key=GR.map RT.key):=h5;have VZ_w5:Hid (w5.heap[kz]? =some (.cells #[.slice none 0 0,.slice none 0 0] 33 (0,0))):=za1 hb (za3 VZ_w2.out) VZ_w2.out;obtain⟨z0,z1⟩:=za2 VZ_w5.out;have zf:=fun i=>frozen_of_row _ _ i _ _ VZ_w5.out;clear hb h5 hpi
    (try go_wp2_with fail)
    refine hK.out _ _ ?_ (fun hHeld=> ?_)
    ·exact⟨za8 G_w5.c,za2 G_w5.p⟩
    clear hK K
    (try simp only[Act.put,List.setIfInBounds_toArray,List.set_cons_zero,List.set_cons_succ])
    refine tkH 5 hHeld ?_;refine tkH 6 hHeld ?_;refine tkH 7 hHeld ?_;refine wpAnyH_ready (rs:=[9]) (by kernel_rfl) (by simp) ?_;refine AllReadyH.cons rfl (fun K hK=> ?_) AllReadyH.nil;have V5:Hid (((w5.setCell ⟨kz,0,none⟩ (.slice ra2 n2 rc2)).setCell ⟨kz,1,none⟩ (.slice la2 l2 lc2)).heap[kz]? =some (.cells #[.slice ra2 n2 rc2,.slice la2 l2 lc2] 33 (0,0))):=z63 VZ_w5.out;have G5:Hid (GQ w ((w5.setCell ⟨kz,0,none⟩ (.slice ra2 n2 rc2)).setCell ⟨kz,1,none⟩ (.slice la2 l2 lc2)) #[.int .i64 n,.slice a zl cap,.slice ao ko co,.slice av kv cv,.int .i64 fine] #[.slice ra nr rc,.slice la ln lc]):=(G_w5.set HZL.out).set HZL.out;have P5:Hid (zd4 ((w5.setCell ⟨kz,0,none⟩ (.slice ra2 n2 rc2)).setCell ⟨kz,1,none⟩ (.slice la2 l2 lc2)) ra2 la2 n2 l2 R2 GL):=zl0 HP_w5.out VZ_w5.out;go_simp;refine hK.out _ _ ?_ (fun hHeld=> ?_)
    ·exact⟨za8 G5.c,za2 G5.p⟩
    clear hK K;generalize((w5.setCell ⟨kz,0,none⟩ (.slice ra2 n2 rc2)).setCell ⟨kz,1,none⟩ (.slice la2 l2 lc2))=w6 at*;refine tkH 10 hHeld ?_;refine wpAnyH_done (by kernel_rfl) ?_ _;clear hHeld
    (try go_wp2_with fail)
    go_meet;exact⟨kz,ra2,n2,rc2,la2,l2,lc2,R2,rfl,rfl,G5.out,V5.out,P5.out,HX.out⟩
   case rest=>
    obtain⟨kz,ra2,n2,rc2,la2,l2,lc2,R2,rfl,rfl,hQ,hz,hpi,h5⟩:=hcut;have Q3:Hid (GQ w wc #[.int .i64 n,.slice a zl cap,.slice ao ko co,.slice av kv cv,.int .i64 fine] #[.slice ra nr rc,.slice la ln lc]):=hQ;have Z3:Hid (wc.heap[kz]? =some (.cells #[.slice ra2 n2 rc2,.slice la2 l2 lc2] 33 (0,0))):=hz;have hk9:R2.length=GR.length:=by have:=congrArg List.length h5;simpa using this
    have CC:=zw3 ra2 la2 rc2 lc2 R2 GL wc hpi.2.2.1 hpi.2.2.2.1 (hpi.2.2.2.2.2.1.imp (fun h=>⟨h.1,hpi.2.1.trans h.2⟩) id) (by have:=HGI.2.1;omega) (fun r hr=>z93 h5 HGI.1 r hr) HGI.2.2;have HN2:Hid (R2.length=n2):=hpi.1;have HL2:Hid (GL.length=l2):=hpi.2.1;rw[HN2.out,HL2.out]at CC;have HK2:Hid (R2.map RT.key=GR.map RT.key):=h5;clear hQ hz hpi h5 Q1 DJ hk9;obtain⟨z0,z1⟩:=za2 Z3.out
    go_wp2_with fail
    refine CC.mono ?_;rintro e w4 ⟨ra4,rc4,la4,lc4,S4,rfl,hb,hk4,hpo,hap⟩;rw[HN2.out,HL2.out]at hpo;rw[HN2.out,HL2.out];have Q4:Hid (GQ w w4 #[.int .i64 n,.slice a zl cap,.slice ao ko co,.slice av kv cv,.int .i64 fine] #[.slice ra nr rc,.slice la ln lc]):=Q3.below hb;have P4:Hid (PO w4 (w.heap.size+3) (.slice ra4 n2 rc4) S4 (.slice la4 l2 lc4) GL):=hpo.base (by have:=Q3.size;omega);have HK4:Hid (S4.map RT.key=GR.map RT.key):=hk4.trans HK2.out;have HSL:Hid (S4.length=n2):=by have:=congrArg List.length hk4;simp only[List.length_map]at this;exact this.trans HN2.out
    have HAP:Hid (zs4 S4 la4):=hap;clear hb hpo hk4 hap CC z0 z1 Z3 Q3;obtain⟨a0,a1⟩:=za2 Q4.o;have af:=fun i=>frozen_of_row _ _ i _ _ Q4.o;have s1:=heap_setCell_same w4 (w.heap.size+2) 0 _ _ (Value.slice ra4 n2 rc4) Q4.o;have P5:Hid (PO ((w4.setCell ⟨w.heap.size+2,0,none⟩ (.slice ra4 n2 rc4)).setCell ⟨w.heap.size+2,1,none⟩ (.slice la4 l2 lc4)) (w.heap.size+3) (.slice ra4 n2 rc4) S4 (.slice la4 l2 lc4) GL):=(P4.box Q4.o).box s1;have B5:Hid (Below w.heap.size w ((w4.setCell ⟨w.heap.size+2,0,none⟩ (.slice ra4 n2 rc4)).setCell ⟨w.heap.size+2,1,none⟩ (.slice la4 l2 lc4))):=(Q4.b.setCell (by simp) _).setCell (by simp) _;clear s1;go_wp2;refine bodyPost_ret (v:=.tuple #[.agg #[.slice ra4 n2 rc4,.slice la4 l2 lc4],.int .i64 GN]) (by simp[results,Tryz.results16,go_sem,a0,a1]) rfl ?_;show zO6 _ _ _ _ _ _;exact⟨ra4,n2,rc4,la4,l2,lc4,S4,rfl,B5.out,HSL.out,HL2.out,HK4.out,P5.base (by omega),HAP.out⟩
 ·have hpn:(pv !=0)=true:=by simp[hpv]
  have B5:Hid (Below w.heap.size w ((w1.setCell ⟨w.heap.size+2,0,none⟩ (.slice none 0 0)).setCell ⟨w.heap.size+2,1,none⟩ (.slice none 0 0))):=(Q1.b.setCell (by simp) _).setCell (by simp) _;rw[decide_eq_false hpv,Bool.false_and]at HDB;obtain⟨g1,g2,g3⟩:=HNO.out (by rw[HDB.out];try rfl);subst g1 g2 g3;clear HNO DI
  go_wp2_with(go_at_call 44;refine(zc1 _ _ _ _).mono ?_;rintro e w' ⟨rfl,hw'⟩;subst w';rw[HK1.out])
  refine bodyPost_ret (v:=.tuple #[.agg #[.slice none 0 0,.slice none 0 0],.int .i64 (-1)]) (by simp[results,Tryz.results16,go_sem,a0,a1]) rfl ?_;show zO6 _ _ _ _ _ _;exact⟨none,0,0,none,0,0,[],rfl,B5.out,rfl,rfl,rfl,⟨World.ownsRow_nil _ _ _ _,(fun s hs=>by cases hs),World.ownsRow_nil _ _ _ _⟩,zs4.nil _⟩
set_option maxRecDepth 10000 in
set_option maxHeartbeats 4000000 in
theorem zA2(n fine:Int)(a ao av ra la:Option Addr)(zl cap ko co kv cv nr rc ln lc:Nat)(zs os vs L:List Int)(R:List RT)(w:World)(hA:za0 w a zs)(hO:za0 w ao os)(hV:za0 w av vs)(hlz:zs.length=zl)(hlo:os.length=ko*6)(hlv:vs.length=kv*5)(hko:ko<=9223372036854775807)(hkv:kv<=9223372036854775807)(hP:zd4 w ra la nr ln R L)(hn:nr<=1048576)(hi:∀r∈R,r.ids.length<=1048576)(hll:ln<=1048576)(hal:(za7 R R.length).length<=1048576)(hwl:∀x∈L,(Lit.int .i64 x).wf=true)(q:QS)(hq:brQ n fine zs os vs ko kv R L=q):
 Calls Tryz.prog 18 #[.agg #[.int .i64 n,.slice a zl cap,.slice ao ko co,.slice av kv cv,.int .i64 fine],.agg #[.slice ra nr rc,.slice la ln lc]] w fun e w'=>e=.returned (.tuple #[.int .i64 q.s.1,.int .i64 q.s.2.1,.int .i64 (q.s.2.2:Int),.int .i64 q.v])/\Below w.heap.size w w':=by
 have HA:Hid (za0 w a zs):=hA;have HO:Hid (za0 w ao os):=hO;have HV:Hid (za0 w av vs):=hV;have HLZ:Hid (zs.length=zl):=hlz;have HLO:Hid (os.length=ko*6):=hlo;have HLV:Hid (vs.length=kv*5):=hlv;have HP:Hid (zd4 w ra la nr ln R L):=hP;have HN:Hid (R.length=nr):=hP.1;have HM:Hid (L.length=ln):=hP.2.1;have HI:Hid (∀r∈R,r.ids.length<=1048576):=hi;have HQ:Hid (brQ n fine zs os vs ko kv R L=q):=hq;have HQF:Hid (q.f=false->q=qs0):=fun h=>by
  rw[<-hq]at h⊢;exact zW0 _ h
 clear hA hO hV hlz hlo hlv hP hi hq;obtain⟨pv,HPV⟩:∃v,Hid (zc3 n zs os vs ko kv fine R L=v):=⟨_,rfl⟩;have HNO:Hid (pv≠0->q=qs0):=fun h=>by
  rw[<-HQ.out];exact yp9 (by rw[HPV.out];exact h)
 have BM0:Hid (pv=0->∀W pc,Below w.heap.size w W->W.heap[pc]? =some (.cells #[.int .i64 n,.slice a zl cap,.slice ao ko co,.slice av kv cv,.int .i64 fine] 30 (0,0))->Calls Tryz.prog 51 #[.agg #[Value.func (.func 88) #[] #[.pointer (some ⟨pc,0,none⟩)],Value.func (.func 90) #[] #[.pointer (some ⟨pc,0,none⟩)]],.agg #[.slice ra nr rc,.slice la ln lc]] W fun e w'=>e=.returned (.tuple #[.agg #[.int .i64 q.s.1,.int .i64 q.s.2.1,.int .i64 (q.s.2.2:Int)],.int .i64 q.v,.bool q.f])/\Below W.heap.size W w'):=fun h W pc hW hpc=>z43 n fine a ao av ra la zl cap ko co kv cv nr rc ln lc pc zs os vs L R W (HA.below hW) (HO.below hW) (HV.below hW) HLZ.out HLO.out HLV.out (HP.below hW) (HPV.trans h) hpc hko hkv q HQ.out;have Q0:Hid (BCP w ((w.alloc (.cells #[.int .i64 n,.slice a zl cap,.slice ao ko co,.slice av kv cv,.int .i64 fine] 30)).alloc (.cells #[.slice ra nr rc,.slice la ln lc] 33)) #[.int .i64 n,.slice a zl cap,.slice ao ko co,.slice av kv cv,.int .i64 fine] #[.slice ra nr rc,.slice la ln lc]):=BCP.new _ _ _;have PC:=zl8 n fine a ao av ra la cap ko co kv cv rc lc zs os vs L R ((w.alloc (.cells #[.int .i64 n,.slice a zl cap,.slice ao ko co,.slice av kv cv,.int .i64 fine] 30)).alloc (.cells #[.slice ra nr rc,.slice la ln lc] 33)) (HA.below Q0.b) (HO.below Q0.b) (HV.below Q0.b) (HP.2.2.1.below Q0.b) (HP.2.2.2.1.below Q0.b) HLO.out HLV.out hko hkv (by rw[HN.out];exact hn) HI.out HP.2.2.2.2.2.2 (by rw[HM.out];exact hll) hal hwl;rw[HN.out,HM.out,HLZ.out,HPV.out]at PC;obtain⟨sf,⟨s1,s2,s3⟩,sv⟩:=q;simp only at BM0 HNO HQF⊢;obtain⟨c0,c1,c2,c3,c4⟩:=za8 Q0.c;obtain⟨p0,p1⟩:=za2 Q0.p;go_enter Tryz.func18,Tryz.ntmps18
 go_wp2_with fail
 generalize(w.alloc (.cells #[.int .i64 n,.slice a zl cap,.slice ao ko co,.slice av kv cv,.int .i64 fine] 30)).alloc (.cells #[.slice ra nr rc,.slice la ln lc] 33)=W0 at*;refine PC.mono ?_;rintro e w1 ⟨rfl,hb⟩;have Q1:Hid (BCP w w1 #[.int .i64 n,.slice a zl cap,.slice ao ko co,.slice av kv cv,.int .i64 fine] #[.slice ra nr rc,.slice la ln lc]):=Q0.below hb;clear hb PC c0 c1 c2 c3 c4 p0 p1 Q0 HPV HQ;by_cases hpv:pv=0
 ·have BM1:=BM0.out hpv
  have BM:Hid _:=BM1;subst hpv;clear HNO BM0 BM1;go_upto_region 3 with fail;go_cut [8,9,10]from 15 to 22 (fun s8 s9 s10 wx=>∃kz:Nat,s8=.pointer (some ⟨kz,0,none⟩)/\s9=.int .i64 sv/\s10=.bool sf/\BCP w wx #[.int .i64 n,.slice a zl cap,.slice ao ko co,.slice av kv cv,.int .i64 fine] #[.slice ra nr rc,.slice la ln lc]/\wx.heap[kz]? =some (.cells #[.int .i64 s1,.int .i64 s2,.int .i64 (s3:Int)] 86 (0,0)))
  case first=>
   go_wp2_with fail
   refine wp_region_held_drew (S:=(fun W=>W.cell? ⟨w.heap.size,0,none⟩=some (.int .i64 n)/\W.cell? ⟨w.heap.size,1,none⟩=some (.slice a zl cap)/\W.cell? ⟨w.heap.size,2,none⟩=some (.slice ao ko co)/\W.cell? ⟨w.heap.size,3,none⟩=some (.slice av kv cv)/\W.cell? ⟨w.heap.size,4,none⟩=some (.int .i64 fine)/\W.cell? ⟨w.heap.size+1,0,none⟩=some (.slice ra nr rc)/\W.cell? ⟨w.heap.size+1,1,none⟩=some (.slice la ln lc))) (by kernel_rfl) ?_ (fun hHeld=> ?_)
   ·exact zg6 (Q1.below (Below.refl _ _).drew)
   have G_d:Hid (BCP w w1.drew #[.int .i64 n,.slice a zl cap,.slice ao ko co,.slice av kv cv,.int .i64 fine] #[.slice ra nr rc,.slice la ln lc]):=Q1.below (Below.refl _ _).drew;generalize w1.drew=wd at*;refine tkH 0 hHeld ?_;refine tkH 2 hHeld ?_;refine wpAnyH_ready (rs:=[1,8]) (by kernel_rfl) (by simp) ?_;refine AllReadyH.cons rfl (fun K hK=> ?_) ?_
   ·skip
    go_simp;refine(zk2 #[.int .i64 n,.slice a zl cap,.slice ao ko co,.slice av kv cv,.int .i64 fine] wd n fine a ao av cap ko co kv cv zl rfl).mono ?_;rintro e w2 ⟨pc,rfl,hb,hpc⟩;have G_w2:Hid (BCP w w2 #[.int .i64 n,.slice a zl cap,.slice ao ko co,.slice av kv cv,.int .i64 fine] #[.slice ra nr rc,.slice la ln lc]):=G_d.below hb;have PC_w2:Hid (w2.heap[pc]? =some (.cells #[.int .i64 n,.slice a zl cap,.slice ao ko co,.slice av kv cv,.int .i64 fine] 30 (0,0))):=hpc;clear hb hpc
    (try go_wp2_with fail)
    refine hK.out _ _ ?_ (fun hHeld=> ?_)
    ·exact zg6 G_w2.out
    clear hK K
    (try simp only[Act.put,List.setIfInBounds_toArray,List.set_cons_zero,List.set_cons_succ])
    refine wpAnyH_ready (rs:=[3,8]) (by kernel_rfl) (by simp) ?_;refine AllReadyH.cons rfl (fun K hK=> ?_) ?_
    ·skip
     go_simp;refine(BM.out w2 pc G_w2.b PC_w2.out).mono ?_;rintro e w3 ⟨rfl,hb⟩;have G_w3:Hid (BCP w w3 #[.int .i64 n,.slice a zl cap,.slice ao ko co,.slice av kv cv,.int .i64 fine] #[.slice ra nr rc,.slice la ln lc]):=G_w2.below hb;clear hb
     (try go_wp2_with fail)
     refine hK.out _ _ ?_ (fun hHeld=> ?_)
     ·exact zg6 G_w3.out
     clear hK K
     (try simp only[Act.put,List.setIfInBounds_toArray,List.set_cons_zero,List.set_cons_succ])
     refine tkH 4 hHeld ?_;refine tkH 5 hHeld ?_;refine tkH 6 hHeld ?_;refine tkH 7 hHeld ?_;refine wpAnyH_ready (rs:=[8]) (by kernel_rfl) (by simp) ?_;refine AllReadyH.cons rfl (fun K hK=> ?_) AllReadyH.nil;have G_z:Hid (BCP w (w3.alloc (.cells #[.int .i64 0,.int .i64 0,.int .i64 0] 86)) #[.int .i64 n,.slice a zl cap,.slice ao ko co,.slice av kv cv,.int .i64 fine] #[.slice ra nr rc,.slice la ln lc]):=G_w3.below ((Below.refl w3.heap.size w3).alloc (Nat.le_refl _) (.cells #[.int .i64 0,.int .i64 0,.int .i64 0] 86));have VZ0:Hid ((w3.alloc (.cells #[.int .i64 0,.int .i64 0,.int .i64 0] 86)).heap[w3.heap.size]? =some (.cells #[.int .i64 0,.int .i64 0,.int .i64 0] 86 (0,0))):=heap_alloc_new _ _;have HZL:Hid (w.heap.size+2<=w3.heap.size):=G_w3.size;go_simp;refine hK.out _ _ ?_ (fun hHeld=> ?_)
     ·exact zg6 G_z.out
     clear hK K
     (try simp only[Act.put,List.setIfInBounds_toArray,List.set_cons_zero,List.set_cons_succ])
     obtain⟨kz,HKZ⟩:∃v,Hid (w3.heap.size=v):=⟨_,rfl⟩;rw[HKZ.out]at VZ0 HZL⊢;generalize(w3.alloc (.cells #[.int .i64 0,.int .i64 0,.int .i64 0] 86))=wz at*;obtain⟨z0,z1,z2⟩:=zh1 VZ0.out;have zf:=fun i=>frozen_of_row _ _ i _ _ VZ0.out;refine wpAnyH_ready (rs:=[9]) (by kernel_rfl) (by simp) ?_;refine AllReadyH.cons rfl (fun K hK=> ?_) AllReadyH.nil;have V5:Hid ((((wz.setCell ⟨kz,0,none⟩ (.int .i64 s1)).setCell ⟨kz,1,none⟩ (.int .i64 s2)).setCell ⟨kz,2,none⟩ (.int .i64 (s3:Int))).heap[kz]? =some (.cells #[.int .i64 s1,.int .i64 s2,.int .i64 (s3:Int)] 86 (0,0))):=by
      have q1:=heap_setCell_same wz kz 0 _ _ (Value.int .i64 s1) VZ0.out;have q2:=heap_setCell_same _ kz 1 _ _ (Value.int .i64 s2) q1;have q3:=heap_setCell_same _ kz 2 _ _ (Value.int .i64 (s3:Int)) q2;simp at q3;exact q3
     have G5:Hid (BCP w (((wz.setCell ⟨kz,0,none⟩ (.int .i64 s1)).setCell ⟨kz,1,none⟩ (.int .i64 s2)).setCell ⟨kz,2,none⟩ (.int .i64 (s3:Int))) #[.int .i64 n,.slice a zl cap,.slice ao ko co,.slice av kv cv,.int .i64 fine] #[.slice ra nr rc,.slice la ln lc]):=((G_z.set HZL.out).set HZL.out).set HZL.out;go_simp;refine hK.out _ _ ?_ (fun hHeld=> ?_)
     ·exact zg6 G5.out
     clear hK K;generalize(((wz.setCell ⟨kz,0,none⟩ (.int .i64 s1)).setCell ⟨kz,1,none⟩ (.int .i64 s2)).setCell ⟨kz,2,none⟩ (.int .i64 (s3:Int)))=w6 at*;refine tkH 10 hHeld ?_;refine tkH 11 hHeld ?_;refine wpAnyH_done (by kernel_rfl) ?_ _;clear hHeld
     (try go_wp2_with fail)
     go_meet;exact⟨kz,rfl,rfl,rfl,G5.out,V5.out⟩
    refine AllReadyH.cons rfl (fun K hK=> ?_) AllReadyH.nil;have G_z:Hid (BCP w (w2.alloc (.cells #[.int .i64 0,.int .i64 0,.int .i64 0] 86)) #[.int .i64 n,.slice a zl cap,.slice ao ko co,.slice av kv cv,.int .i64 fine] #[.slice ra nr rc,.slice la ln lc]):=G_w2.below ((Below.refl w2.heap.size w2).alloc (Nat.le_refl _) (.cells #[.int .i64 0,.int .i64 0,.int .i64 0] 86));have VZ0:Hid ((w2.alloc (.cells #[.int .i64 0,.int .i64 0,.int .i64 0] 86)).heap[w2.heap.size]? =some (.cells #[.int .i64 0,.int .i64 0,.int .i64 0] 86 (0,0))):=heap_alloc_new _ _;have HZL:Hid (w.heap.size+2<=w2.heap.size):=G_w2.size;have PC_z:Hid ((w2.alloc (.cells #[.int .i64 0,.int .i64 0,.int .i64 0] 86)).heap[pc]? =some (.cells #[.int .i64 n,.slice a zl cap,.slice ao ko co,.slice av kv cv,.int .i64 fine] 30 (0,0))):=za1 ((Below.refl w2.heap.size w2).alloc (Nat.le_refl _) (.cells #[.int .i64 0,.int .i64 0,.int .i64 0] 86)) (za3 PC_w2.out) PC_w2.out;go_simp;refine hK.out _ _ ?_ (fun hHeld=> ?_)
    ·exact zg6 G_z.out
    clear hK K
    (try simp only[Act.put,List.setIfInBounds_toArray,List.set_cons_zero,List.set_cons_succ])
    obtain⟨kz,HKZ⟩:∃v,Hid (w2.heap.size=v):=⟨_,rfl⟩;rw[HKZ.out]at VZ0 HZL⊢;generalize(w2.alloc (.cells #[.int .i64 0,.int .i64 0,.int .i64 0] 86))=wz at*;obtain⟨z0,z1,z2⟩:=zh1 VZ0.out;have zf:=fun i=>frozen_of_row _ _ i _ _ VZ0.out;refine wpAnyH_ready (rs:=[3]) (by kernel_rfl) (by simp) ?_;refine AllReadyH.cons rfl (fun K hK=> ?_) AllReadyH.nil;go_simp;refine(BM.out wz pc G_z.b PC_z.out).mono ?_;rintro e w3 ⟨rfl,hb⟩;have G_w3:Hid (BCP w w3 #[.int .i64 n,.slice a zl cap,.slice ao ko co,.slice av kv cv,.int .i64 fine] #[.slice ra nr rc,.slice la ln lc]):=G_z.below hb;have VZ_w3:Hid (w3.heap[kz]? =some (.cells #[.int .i64 0,.int .i64 0,.int .i64 0] 86 (0,0))):=za1 hb (za3 VZ0.out) VZ0.out;obtain⟨z0,z1,z2⟩:=zh1 VZ_w3.out;have zf:=fun i=>frozen_of_row _ _ i _ _ VZ_w3.out;clear hb
    (try go_wp2_with fail)
    refine hK.out _ _ ?_ (fun hHeld=> ?_)
    ·exact zg6 G_w3.out
    clear hK K
    (try simp only[Act.put,List.setIfInBounds_toArray,List.set_cons_zero,List.set_cons_succ])
    refine tkH 4 hHeld ?_;refine tkH 5 hHeld ?_;refine tkH 6 hHeld ?_;refine tkH 7 hHeld ?_;refine wpAnyH_ready (rs:=[9]) (by kernel_rfl) (by simp) ?_;refine AllReadyH.cons rfl (fun K hK=> ?_) AllReadyH.nil;have V5:Hid ((((w3.setCell ⟨kz,0,none⟩ (.int .i64 s1)).setCell ⟨kz,1,none⟩ (.int .i64 s2)).setCell ⟨kz,2,none⟩ (.int .i64 (s3:Int))).heap[kz]? =some (.cells #[.int .i64 s1,.int .i64 s2,.int .i64 (s3:Int)] 86 (0,0))):=by
     have q1:=heap_setCell_same w3 kz 0 _ _ (Value.int .i64 s1) VZ_w3.out;have q2:=heap_setCell_same _ kz 1 _ _ (Value.int .i64 s2) q1;have q3:=heap_setCell_same _ kz 2 _ _ (Value.int .i64 (s3:Int)) q2;simp at q3;exact q3
    have G5:Hid (BCP w (((w3.setCell ⟨kz,0,none⟩ (.int .i64 s1)).setCell ⟨kz,1,none⟩ (.int .i64 s2)).setCell ⟨kz,2,none⟩ (.int .i64 (s3:Int))) #[.int .i64 n,.slice a zl cap,.slice ao ko co,.slice av kv cv,.int .i64 fine] #[.slice ra nr rc,.slice la ln lc]):=((G_w3.set HZL.out).set HZL.out).set HZL.out;go_simp;refine hK.out _ _ ?_ (fun hHeld=> ?_)
    ·exact zg6 G5.out
    clear hK K;generalize(((w3.setCell ⟨kz,0,none⟩ (.int .i64 s1)).setCell ⟨kz,1,none⟩ (.int .i64 s2)).setCell ⟨kz,2,none⟩ (.int .i64 (s3:Int)))=w6 at*;refine tkH 10 hHeld ?_;refine tkH 11 hHeld ?_;refine wpAnyH_done (by kernel_rfl) ?_ _;clear hHeld
    (try go_wp2_with fail)
    go_meet;exact⟨kz,rfl,rfl,rfl,G5.out,V5.out⟩
   refine AllReadyH.cons rfl (fun K hK=> ?_) AllReadyH.nil;have G_z:Hid (BCP w (wd.alloc (.cells #[.int .i64 0,.int .i64 0,.int .i64 0] 86)) #[.int .i64 n,.slice a zl cap,.slice ao ko co,.slice av kv cv,.int .i64 fine] #[.slice ra nr rc,.slice la ln lc]):=G_d.below ((Below.refl wd.heap.size wd).alloc (Nat.le_refl _) (.cells #[.int .i64 0,.int .i64 0,.int .i64 0] 86));have VZ0:Hid ((wd.alloc (.cells #[.int .i64 0,.int .i64 0,.int .i64 0] 86)).heap[wd.heap.size]? =some (.cells #[.int .i64 0,.int .i64 0,.int .i64 0] 86 (0,0))):=heap_alloc_new _ _;have HZL:Hid (w.heap.size+2<=wd.heap.size):=G_d.size;go_simp;refine hK.out _ _ ?_ (fun hHeld=> ?_)
   ·exact zg6 G_z.out
   clear hK K
   (try simp only[Act.put,List.setIfInBounds_toArray,List.set_cons_zero,List.set_cons_succ])
   obtain⟨kz,HKZ⟩:∃v,Hid (wd.heap.size=v):=⟨_,rfl⟩;rw[HKZ.out]at VZ0 HZL⊢;generalize(wd.alloc (.cells #[.int .i64 0,.int .i64 0,.int .i64 0] 86))=wz at*;obtain⟨z0,z1,z2⟩:=zh1 VZ0.out;have zf:=fun i=>frozen_of_row _ _ i _ _ VZ0.out;refine wpAnyH_ready (rs:=[1]) (by kernel_rfl) (by simp) ?_;refine AllReadyH.cons rfl (fun K hK=> ?_) AllReadyH.nil;go_simp;refine(zk2 #[.int .i64 n,.slice a zl cap,.slice ao ko co,.slice av kv cv,.int .i64 fine] wz n fine a ao av cap ko co kv cv zl rfl).mono ?_;rintro e w2 ⟨pc,rfl,hb,hpc⟩;have G_w2:Hid (BCP w w2 #[.int .i64 n,.slice a zl cap,.slice ao ko co,.slice av kv cv,.int .i64 fine] #[.slice ra nr rc,.slice la ln lc]):=G_z.below hb;have PC_w2:Hid (w2.heap[pc]? =some (.cells #[.int .i64 n,.slice a zl cap,.slice ao ko co,.slice av kv cv,.int .i64 fine] 30 (0,0))):=hpc;have VZ_w2:Hid (w2.heap[kz]? =some (.cells #[.int .i64 0,.int .i64 0,.int .i64 0] 86 (0,0))):=za1 hb (za3 VZ0.out) VZ0.out;obtain⟨z0,z1,z2⟩:=zh1 VZ_w2.out;have zf:=fun i=>frozen_of_row _ _ i _ _ VZ_w2.out;clear hb hpc
   (try go_wp2_with fail)
   refine hK.out _ _ ?_ (fun hHeld=> ?_)
   ·exact zg6 G_w2.out
   clear hK K
   (try simp only[Act.put,List.setIfInBounds_toArray,List.set_cons_zero,List.set_cons_succ])
   refine wpAnyH_ready (rs:=[3]) (by kernel_rfl) (by simp) ?_;refine AllReadyH.cons rfl (fun K hK=> ?_) AllReadyH.nil;go_simp;refine(BM.out w2 pc G_w2.b PC_w2.out).mono ?_;rintro e w3 ⟨rfl,hb⟩;have G_w3:Hid (BCP w w3 #[.int .i64 n,.slice a zl cap,.slice ao ko co,.slice av kv cv,.int .i64 fine] #[.slice ra nr rc,.slice la ln lc]):=G_w2.below hb;have VZ_w3:Hid (w3.heap[kz]? =some (.cells #[.int .i64 0,.int .i64 0,.int .i64 0] 86 (0,0))):=za1 hb (za3 VZ_w2.out) VZ_w2.out;obtain⟨z0,z1,z2⟩:=zh1 VZ_w3.out;have zf:=fun i=>frozen_of_row _ _ i _ _ VZ_w3.out;clear hb
   (try go_wp2_with fail)
   refine hK.out _ _ ?_ (fun hHeld=> ?_)
   ·exact zg6 G_w3.out
   clear hK K
   (try simp only[Act.put,List.setIfInBounds_toArray,List.set_cons_zero,List.set_cons_succ])
   refine tkH 4 hHeld ?_;refine tkH 5 hHeld ?_;refine tkH 6 hHeld ?_;refine tkH 7 hHeld ?_;refine wpAnyH_ready (rs:=[9]) (by kernel_rfl) (by simp) ?_;refine AllReadyH.cons rfl (fun K hK=> ?_) AllReadyH.nil;have V5:Hid ((((w3.setCell ⟨kz,0,none⟩ (.int .i64 s1)).setCell ⟨kz,1,none⟩ (.int .i64 s2)).setCell ⟨kz,2,none⟩ (.int .i64 (s3:Int))).heap[kz]? =some (.cells #[.int .i64 s1,.int .i64 s2,.int .i64 (s3:Int)] 86 (0,0))):=by
    have q1:=heap_setCell_same w3 kz 0 _ _ (Value.int .i64 s1) VZ_w3.out;have q2:=heap_setCell_same _ kz 1 _ _ (Value.int .i64 s2) q1;have q3:=heap_setCell_same _ kz 2 _ _ (Value.int .i64 (s3:Int)) q2;simp at q3;exact q3
   have G5:Hid (BCP w (((w3.setCell ⟨kz,0,none⟩ (.int .i64 s1)).setCell ⟨kz,1,none⟩ (.int .i64 s2)).setCell ⟨kz,2,none⟩ (.int .i64 (s3:Int))) #[.int .i64 n,.slice a zl cap,.slice ao ko co,.slice av kv cv,.int .i64 fine] #[.slice ra nr rc,.slice la ln lc]):=((G_w3.set HZL.out).set HZL.out).set HZL.out;go_simp;refine hK.out _ _ ?_ (fun hHeld=> ?_)
   ·exact zg6 G5.out
   clear hK K;generalize(((w3.setCell ⟨kz,0,none⟩ (.int .i64 s1)).setCell ⟨kz,1,none⟩ (.int .i64 s2)).setCell ⟨kz,2,none⟩ (.int .i64 (s3:Int)))=w6 at*;refine tkH 10 hHeld ?_;refine tkH 11 hHeld ?_;refine wpAnyH_done (by kernel_rfl) ?_ _;clear hHeld
   (try go_wp2_with fail)
   go_meet;exact⟨kz,rfl,rfl,rfl,G5.out,V5.out⟩
  case rest=>
   obtain⟨kz,rfl,rfl,rfl,hQ,hz⟩:=hcut;have Q3:Hid (BCP w wc #[.int .i64 n,.slice a zl cap,.slice ao ko co,.slice av kv cv,.int .i64 fine] #[.slice ra nr rc,.slice la ln lc]):=hQ;have Z3:Hid (wc.heap[kz]? =some (.cells #[.int .i64 s1,.int .i64 s2,.int .i64 (s3:Int)] 86 (0,0))):=hz;clear hQ hz Q1 BM;cases sf
   ·have h0:=HQF.out rfl
    unfold qs0 at h0;simp only[QS.mk.injEq,Prod.mk.injEq,true_and]at h0;obtain⟨⟨rfl,rfl,rfl⟩,rfl⟩:=h0;clear HQF;go_wp2;refine bodyPost_ret (v:=.tuple #[.int .i64 0,.int .i64 0,.int .i64 0,.int .i64 0]) (by simp[results,Tryz.results18,go_sem]) rfl ?_;exact⟨rfl,Q3.b⟩
   ·clear HQF
    obtain⟨z0,z1,z2⟩:=zh1 Z3.out
    go_wp2_with fail
    go_region
    all_goals
     go_wp2;refine bodyPost_ret (v:=.tuple #[.int .i64 s1,.int .i64 s2,.int .i64 (s3:Int),.int .i64 sv]) (by simp[results,Tryz.results18,go_sem]) rfl ?_;exact⟨rfl,Q3.b.drew⟩
 ·have hpn:(pv !=0)=true:=by simp[hpv]
  have h0:=HNO.out hpv;unfold qs0 at h0;simp only[QS.mk.injEq,Prod.mk.injEq]at h0;obtain⟨rfl,⟨rfl,rfl,rfl⟩,rfl⟩:=h0;clear HNO BM0 HQF;go_wp2;refine bodyPost_ret (v:=.tuple #[.int .i64 0,.int .i64 0,.int .i64 0,.int .i64 0]) (by simp[results,Tryz.results18,go_sem]) rfl ?_;exact⟨rfl,Q1.b⟩
end Go.Proofs.YtjobhigmdaiinaaGreat
