import Derived.Test.YtkchnomkiboihaaGreatPack34
import Derived.Laws.EntriesVeiled
set_option linter.unusedSimpArgs false
set_option maxHeartbeats 4000000
set_option maxRecDepth 10000
namespace Go.Proofs.YtkchnomkiboihaaGreat
open Act renaming put→zi
open Value renaming slice→za,int→zc,func→zp
open IntKind renaming i64→zb
open Obj renaming cells→zd
open Proofs.Tryz renaming prog→ze
open Go renaming World→zg
open Go.RowKit
open Q
theorem zy2(cs:Array Value)(w:zg)(n fine:Int)(a ao av:Option Addr)(cap ko co kv cv lz:Nat)(hcs:cs= #[zc zb n,za a lz cap,za ao ko co,za av kv cv,zc zb fine]):
 Calls ze 80 #[.agg cs] w fun e w'=>∃pc,e=.returned (.agg #[zp (.func 119) #[] #[.pointer (some ⟨pc,0,none⟩)],zp (.func 121) #[] #[.pointer (some ⟨pc,0,none⟩)]])/\Below w.heap.size w w'/\w'.heap[pc]? =some (.cells cs 30 (0,0)):=by
 subst hcs;have hmf:∀(fn:Fn) (first cap:Array Value) (w:zg),(Instr.makeFunc fn first cap).run ze w=.ok (.func fn first cap) w:=fun _ _ _ _=>rfl;go_enter Tryz.func80,Tryz.ntmps80;go_wp2;have q:∀(cs:Array Value),((w.alloc (.cells cs 30)).alloc (zd #[zp (.func 119) #[] #[.pointer (some ⟨w.heap.size,0,none⟩)],zp (.func 121) #[] #[.pointer (some ⟨w.heap.size,0,none⟩)]] 125)).heap[w.heap.size+1]? =some (zd #[zp (.func 119) #[] #[.pointer (some ⟨w.heap.size,0,none⟩)],zp (.func 121) #[] #[.pointer (some ⟨w.heap.size,0,none⟩)]] 125 (0,0)):=fun cs=>y8 _ _ _;obtain⟨q0,q1⟩:=za1 (q #[zc zb n,za a lz cap,za ao ko co,za av kv cv,zc zb fine]);refine yX (v:=.agg #[zp (.func 119) #[] #[.pointer (some ⟨w.heap.size,0,none⟩)],zp (.func 121) #[] #[.pointer (some ⟨w.heap.size,0,none⟩)]]) (by simp[results,Tryz.results80,go_sem,q0,q1]) rfl ⟨w.heap.size,rfl,(zK _).alloc (by simp) _,xb _ _ _⟩
structure RZ(w W:zg)(ps ss:Array Value):Prop where
 b:Below w.heap.size w W
 p:W.heap[w.heap.size]? =some (.cells ps 33 (0,0))
 s:W.heap[w.heap.size+1]? =some (.cells ss 129 (0,0))
 o:W.heap[w.heap.size+2]? =some (zd #[za none 0 0,za none 0 0] 33 (0,0))
theorem RZ.below{w W W':zg}{ps ss:Array Value}(h:RZ w W ps ss)(hb:Below W.heap.size W W'):RZ w W' ps ss:=
 ⟨h.b.trans (hb.mono h.b.size),za0 hb (za2 h.p) h.p,za0 hb (za2 h.s) h.s,za0 hb (za2 h.o) h.o⟩
theorem RZ.new(w:zg)(ps ss:Array Value):RZ w (((w.alloc (.cells ps 33)).alloc (.cells ss 129)).alloc (zd #[za none 0 0,za none 0 0] 33)) ps ss:=by
 refine⟨((zK _).alloc (by simp) _).alloc (by simp<;>omega) _,?_,?_,?_⟩
 ·exact(yY _ _ (by simp<;>omega)).trans (xb _ _ _)
 ·exact(yY _ _ (by simp)).trans (y8 _ _ _)
 ·have:=zN ((w.alloc (.cells ps 33)).alloc (.cells ss 129)) (zd #[za none 0 0,za none 0 0] 33)
  simpa using this
theorem zA7(id tv pl n fine:Int)(a ao av ra la:Option Addr)(zl cap ko co kv cv nr rc ln lc pc:Nat)(zs os vs L:List Int)(R:List RT)(w:zg)(hA:za3 w a zs)(hO:za3 w ao os)(hV:za3 w av vs)(hlz:zs.length=zl)(hlo:os.length=ko*6)(hlv:vs.length=kv*5)(hko:ko<=9223372036854775807)(hkv:kv<=9223372036854775807)(hP:zb8 w ra la nr ln R L)(hpl:zc3 n zs os vs ko kv fine R L=0)(hpc:w.heap[pc]? =some (zd #[zc zb n,za a zl cap,za ao ko co,za av kv cv,zc zb fine] 30 (0,0))):
 Calls ze 121 #[.agg #[za ra nr rc,za la ln lc],.agg #[zc zb id,zc zb tv,zc zb pl],.pointer (some ⟨pc,0,none⟩)] w (zS0 w (fun k=>zj0 k ra la R L) (rqD id tv pl n fine zs os vs ko kv R L) (rqB id tv pl n fine zs os vs ko kv R L) (rqR id tv pl n fine zs os vs ko kv R L) (rqL id tv pl n fine zs os vs ko kv R L)):=by
 have Q0:Hid (RZ w (((w.alloc (zd #[za ra nr rc,za la ln lc] 33)).alloc (zd #[zc zb id,zc zb tv,zc zb pl] 129)).alloc (zd #[za none 0 0,za none 0 0] 33)) #[za ra nr rc,za la ln lc] #[zc zb id,zc zb tv,zc zb pl]):=RZ.new _ _ _;have RL:=zU8 id tv pl n fine a ao av ra la zl cap ko co kv cv nr rc ln lc zs os vs L R _ (hA.below Q0.b) (hO.below Q0.b) (hV.below Q0.b) hlz hlo hlv hko hkv (hP.below Q0.b) hpl;have hpc1:=za0 Q0.b (za2 hpc) hpc;obtain⟨GD,HGD⟩:=nmd (rqD id tv pl n fine zs os vs ko kv R L);obtain⟨GB,HGB⟩:=nmd (rqB id tv pl n fine zs os vs ko kv R L);obtain⟨GR,HGR⟩:=nmd (rqR id tv pl n fine zs os vs ko kv R L);obtain⟨GL,HGL⟩:=nmd (rqL id tv pl n fine zs os vs ko kv R L);rw[HGD.X,HGB.X,HGR.X,HGL.X]at RL;rw[HGD.X,HGB.X,HGR.X,HGL.X];clear hA hO hV hlz hlo hlv hP hpl hpc HGD HGB HGR HGL;go_enter Tryz.func121,Tryz.ntmps121;obtain⟨c0,c1,c2,c3,c4⟩:=za7 hpc1;obtain⟨p0,p1⟩:=za1 Q0.p;obtain⟨s0,s1,s2⟩:=zq1 Q0.s
 go_wp2_with fail
 generalize((w.alloc (zd #[za ra nr rc,za la ln lc] 33)).alloc (zd #[zc zb id,zc zb tv,zc zb pl] 129)).alloc (zd #[za none 0 0,za none 0 0] 33)=W0 at*;refine RL.mono ?_;rintro e w1 ⟨ra2,n2,rc2,la2,l2,lc2,R2,rfl,hb,h5,⟨h2,h4,h1,h3,h6⟩,h7⟩;have HO7:Hid (∀k,k<w.heap.size->zj0 k ra la R L->zj0 k ra2 la2 R2 GL):=fun k hk h=>h7 k (xh hk Q0.b.size) h;have Q1:Hid _:=Q0.below hb;have HR1:Hid _:=h1;have HL1:Hid _:=h3;have HX:Hid (R2.length=n2/\GL.length=l2/\R2.map RT.key=GR.map RT.key):=⟨h2,h4,h5⟩;have HX6:Hid _:=h6;clear hb h1 h2 h3 h4 h5 h6 h7 Q0 RL c0 c1 c2 c3 c4 p0 p1 s0 s1 s2 hpc1;obtain⟨a0,a1⟩:=za1 Q1.o;have af:=fun i=>yU _ _ i _ _ Q1.o;have s1:=zP w1 (w.heap.size+2) 0 _ _ (za ra2 n2 rc2) Q1.o;have B2:Hid (Below w.heap.size w ((w1.setCell ⟨w.heap.size+2,0,none⟩ (za ra2 n2 rc2)).setCell ⟨w.heap.size+2,1,none⟩ (za la2 l2 lc2))):=(Q1.b.setCell (by simp) _).setCell (by simp) _;have R2h:Hid (za9 ((w1.setCell ⟨w.heap.size+2,0,none⟩ (za ra2 n2 rc2)).setCell ⟨w.heap.size+2,1,none⟩ (za la2 l2 lc2)) ra2 R2):=ze7 (ze7 HR1.X Q1.o 0 _) s1 1 _;have L2h:Hid (za3 ((w1.setCell ⟨w.heap.size+2,0,none⟩ (za ra2 n2 rc2)).setCell ⟨w.heap.size+2,1,none⟩ (za la2 l2 lc2)) la2 GL):=zj6 (zj6 HL1.X Q1.o 0 _) s1 1 _;clear s1;go_wp2;refine yX (v:=.tuple #[.agg #[za ra2 n2 rc2,za la2 l2 lc2],zc zb GD,.bool GB]) (by simp[results,Tryz.results121,go_sem,a0,a1]) rfl ?_;show zS0 _ _ _ _ _ _ _ _;exact⟨ra2,n2,rc2,la2,l2,lc2,R2,rfl,B2.X,HX.2.2,⟨HX.1,HX.2.1,R2h.X,L2h.X,HX6.X⟩,HO7.X⟩
theorem zP1(id tv pl n fine:Int)(a ao av ra la:Option Addr)(zl cap ko co kv cv nr rc ln lc pc:Nat)(zs os vs L:List Int)(R:List RT)(w:zg)(hA:za3 w a zs)(hO:za3 w ao os)(hV:za3 w av vs)(hlz:zs.length=zl)(hlo:os.length=ko*6)(hlv:vs.length=kv*5)(hko:ko<=9223372036854775807)(hkv:kv<=9223372036854775807)(hP:zb8 w ra la nr ln R L)(hpl:zc3 n zs os vs ko kv fine R L=0)(hpc:w.heap[pc]? =some (zd #[zc zb n,za a zl cap,za ao ko co,za av kv cv,zc zb fine] 30 (0,0))):
 Calls ze 121 #[.agg #[za ra nr rc,za la ln lc],.agg #[zc zb id,zc zb tv,zc zb pl],.pointer (some ⟨pc,0,none⟩)] w (yI8 w (rqD id tv pl n fine zs os vs ko kv R L) (rqB id tv pl n fine zs os vs ko kv R L) (rqR id tv pl n fine zs os vs ko kv R L) (rqL id tv pl n fine zs os vs ko kv R L)):=(zA7 id tv pl n fine a ao av ra la zl cap ko co kv cv nr rc ln lc pc zs os vs L R w hA hO hV hlz hlo hlv hko hkv hP hpl hpc).mono (fun _ _ h=>h.is)
structure MP(w W:zg)(pc:Nat)(cs ps:Array Value):Prop where
 b:Below w.heap.size w W
 c:W.heap[pc]? =some (.cells cs 30 (0,0))
 p:W.heap[w.heap.size]? =some (.cells ps 33 (0,0))
theorem MP.below{w W W':zg}{pc:Nat}{cs ps:Array Value}(h:MP w W pc cs ps)(hb:Below W.heap.size W W'):MP w W' pc cs ps:=
 ⟨h.b.trans (hb.mono h.b.size),za0 hb (za2 h.c) h.c,za0 hb (za2 h.p) h.p⟩
theorem zR3{w W:zg}{pc:Nat}{n fine:Int}{a ao av ra la:Option Addr}{zl cap ko co kv cv nr rc ln lc:Nat}(h:MP w W pc #[zc zb n,za a zl cap,za ao ko co,za av kv cv,zc zb fine] #[za ra nr rc,za la ln lc]):W.cell? ⟨pc,0,none⟩=some (zc zb n)/\W.cell? ⟨pc,1,none⟩=some (za a zl cap)/\W.cell? ⟨pc,2,none⟩=some (za ao ko co)/\W.cell? ⟨pc,3,none⟩=some (za av kv cv)/\W.cell? ⟨pc,4,none⟩=some (zc zb fine)/\W.cell? ⟨w.heap.size,0,none⟩=some (za ra nr rc)/\W.cell? ⟨w.heap.size,1,none⟩=some (za la ln lc):=by
 obtain⟨c0,c1,c2,c3,c4⟩:=za7 h.c;obtain⟨p0,p1⟩:=za1 h.p;exact⟨c0,c1,c2,c3,c4,p0,p1⟩
theorem zU3(n fine:Int)(a ao av ra la:Option Addr)(zl cap ko co kv cv nr rc ln lc pc:Nat)(zs os vs L:List Int)(R:List RT)(w:zg)(hA:za3 w a zs)(hO:za3 w ao os)(hV:za3 w av vs)(hlz:zs.length=zl)(hlo:os.length=ko*6)(hlv:vs.length=kv*5)(hP:zb8 w ra la nr ln R L)(hpl:zc3 n zs os vs ko kv fine R L=0)(hpc:w.heap[pc]? =some (zd #[zc zb n,za a zl cap,za ao ko co,za av kv cv,zc zb fine] 30 (0,0))):
 Calls ze 119 #[.agg #[za ra nr rc,za la ln lc],.pointer (some ⟨pc,0,none⟩)] w fun e w'=>∃sl,e=.returned sl/\Below w.heap.size w w'/\w'.ownsRow w.heap.size 129 3 sl (sp3 R vs kv (zi9 n zs os vs ko kv fine R L) (zi9 n zs os vs ko kv fine R L).length).length ((spF (sp3 R vs kv (zi9 n zs os vs ko kv fine R L) (zi9 n zs os vs ko kv fine R L).length)).map (zc zb)):=by
 have HA:=za4 hA;have HO:=za4 hO;have HV:=za4 hV;have HLZ:=za4 hlz;have HLO:=za4 hlo;have HLV:=za4 hlv;have HP:=za4 hP;have HN:Hid (R.length=nr):=hP.1;have HPL:=za4 hpl;have HPC:=za4 hpc;clear hA hO hV hlz hlo hlv hP hpl hpc;obtain⟨X,HX⟩:=nmd (zi9 n zs os vs ko kv fine R L);obtain⟨m,HXM⟩:=nmd X.length;have HXX:Hid (zr3 (za8 R R.length)=X):=by
  have:=HX.X;unfold zi9 at this;rw[zV HPL.X]at this;exact this
 obtain⟨g1,g2,g3,_⟩:=zb5 HPL.X;obtain⟨gp,gok⟩:=zh3.1 g2;have hs:=zk3 HPL.X;have hps:=ze4 HPL.X;have hm:X.length<=12:=by rw[<-HX.X];exact zE7 ..
 have hk5:kv<=5:=(zf6 (zb3 g1).2.2.1).1;have SB:Hid (∀W,Below w.heap.size w W->Calls ze 113 #[.agg #[za ra nr rc,za la ln lc]] W fun e w'=>∃sl,e=.returned sl/\Below W.heap.size W w'/\w'.ownsRow W.heap.size 2 1 sl (zr3 (za8 R R.length)).length ((zr3 (za8 R R.length)).map (zc zb))):=fun W hW=>by
  have:=z97 ra la rc ln lc R W (HP.X.2.2.1.below hW) (by omega) hs.2.2 hs.2.1 hs.1;rw[show(za ra R.length rc)=za ra nr rc by rw[HN.X]]at this;exact this
 have SF:Hid (∀W sa sc,Below w.heap.size w W->za3 W sa X->Calls ze 120 #[.agg #[zc zb n,za a zl cap,za ao ko co,za av kv cv,zc zb fine],.agg #[za ra nr rc,za la ln lc],za sa m sc] W fun e w'=>∃sl,e=.returned sl/\Below W.heap.size W w'/\w'.ownsRow W.heap.size 129 3 sl (sp3 R vs kv X m).length ((spF (sp3 R vs kv X m)).map (zc zb))):=fun W sa sc hW hI=>by
  have:=z95 n fine a ao av ra la sa zl cap ko co kv cv rc ln lc sc vs X R W (HV.X.below hW) HLV.X hk5 (HP.X.2.2.1.below hW) (by omega) (zf0 gp) (fun r hr=>zk7 (gok r hr).2) hI hm;rw[HN.X,HXM.X]at this;exact this
 clear g1 g2 g3 gp gok hs hps hm hk5;rw[HX.X];have Q0:Hid (MP w (w.alloc (zd #[za ra nr rc,za la ln lc] 33)) pc #[zc zb n,za a zl cap,za ao ko co,za av kv cv,zc zb fine] #[za ra nr rc,za la ln lc]):=⟨zK _,za0 (zK _) (za2 HPC.X) HPC.X,zN _ _⟩;go_enter Tryz.func119,Tryz.ntmps119
 go_wp2_with fail
 generalize w.alloc (zd #[za ra nr rc,za la ln lc] 33)=W0 at*;refine qV (S:=(fun W=>W.cell? ⟨pc,0,none⟩=some (zc zb n)/\W.cell? ⟨pc,1,none⟩=some (za a zl cap)/\W.cell? ⟨pc,2,none⟩=some (za ao ko co)/\W.cell? ⟨pc,3,none⟩=some (za av kv cv)/\W.cell? ⟨pc,4,none⟩=some (zc zb fine)/\W.cell? ⟨w.heap.size,0,none⟩=some (za ra nr rc)/\W.cell? ⟨w.heap.size,1,none⟩=some (za la ln lc))) (by kernel_rfl) ?_ (fun hHeld=> ?_)
 ·exact zR3 (Q0.X.below (yV _ _).drew)
 have G_d:Hid (MP w W0.drew pc #[zc zb n,za a zl cap,za ao ko co,za av kv cv,zc zb fine] #[za ra nr rc,za la ln lc]):=Q0.X.below (yV _ _).drew;generalize W0.drew=wd at*;refine tkH 0 hHeld ?_;refine tkH 1 hHeld ?_;refine tkH 2 hHeld ?_;refine qT (rs:=[3]) (by kernel_rfl) (by simp) ?_;refine qR rfl (fun K hK=> ?_) qS;go_simp;refine(SB.X wd G_d.X.b).mono ?_;rintro e w3 ⟨sl,rfl,hb,ho⟩;obtain⟨sa,sc,e,hsl,hI⟩:=zv4 ho;subst e;rw[HXX.X]at hI⊢;rw[HXM.X];have G3:=za4 (G_d.X.below hb);have I3:=za4 hI;clear hb ho hI hsl
 (try go_wp2_with fail)
 refine hK.out _ _ ?_ (fun hHeld=> ?_)
 ·exact zR3 G3.X
 clear hK K
 (try simp only[Act.put,xB,zL,xC])
 refine qT (rs:=[4]) (by kernel_rfl) (by simp) ?_;refine qR rfl (fun K hK=> ?_) qS;go_simp;refine(SF.X w3 sa sc G3.X.b I3.X).mono ?_;rintro e w4 ⟨sl,rfl,hb,ho⟩;have G4:=za4 (G3.X.below hb);have O4:Hid (w4.ownsRow w.heap.size 129 3 sl (sp3 R vs kv X m).length ((spF (sp3 R vs kv X m)).map (zc zb))):=zc4 ho G3.X.b.size;clear hb ho
 (try go_wp2_with fail)
 refine hK.out _ _ ?_ (fun hHeld=> ?_)
 ·exact zR3 G4.X
 clear hK K
 (try simp only[Act.put,xB,zL,xC])
 refine tkH 5 hHeld ?_;refine qU (by kernel_rfl) ?_ _;clear hHeld;go_wp2;go_ret;exact⟨sl,rfl,G4.X.b,by rw[HXM.X];exact O4.X⟩
theorem yf7(n fine:Int)(a ao av ra la:Option Addr)(zl cap ko co kv cv nr rc ln lc pc:Nat)(zs os vs L:List Int)(R:List RT)(w:zg)(hA:za3 w a zs)(hO:za3 w ao os)(hV:za3 w av vs)(hlz:zs.length=zl)(hlo:os.length=ko*6)(hlv:vs.length=kv*5)(hP:zb8 w ra la nr ln R L)(hpl:zc3 n zs os vs ko kv fine R L=0)(hpc:w.heap[pc]? =some (zd #[zc zb n,za a zl cap,za ao ko co,za av kv cv,zc zb fine] 30 (0,0)))(hko:ko<=9223372036854775807)(hkv:kv<=9223372036854775807)(pm pp:Nat)(hpm:w.heap[pm]? =some (zd #[zp (.func 119) #[] #[.pointer (some ⟨pc,0,none⟩)],zp (.func 121) #[] #[.pointer (some ⟨pc,0,none⟩)]] 125 (0,0)))(hpp:w.heap[pp]? =some (zd #[za ra nr rc,za la ln lc] 33 (0,0)))(id veh:Int)(pl:Nat):
 Calls ze 157 #[.agg #[zc zb id,zc zb veh,zc zb (pl:Int)],.pointer (some ⟨pm,0,none⟩),.pointer (some ⟨pp,0,none⟩)] w fun e w'=>e=.returned (.tuple #[zc zb (mvD n fine zs os vs ko kv R L (id,veh,pl)),.bool (mvB n fine zs os vs ko kv R L (id,veh,pl))])/\Below w.heap.size w w':=by
 have B0:Hid (Below w.heap.size w (w.alloc (zd #[zc zb id,zc zb veh,zc zb (pl:Int)] 129))):=zK _;have N0:Hid ((w.alloc (zd #[zc zb id,zc zb veh,zc zb (pl:Int)] 129)).heap[w.heap.size]? =some (zd #[zc zb id,zc zb veh,zc zb (pl:Int)] 129 (0,0))):=zN _ _;have RM:=zP1 id veh (pl:Int) n fine a ao av ra la zl cap ko co kv cv nr rc ln lc pc zs os vs L R _ (hA.below B0.X) (hO.below B0.X) (hV.below B0.X) hlz hlo hlv hko hkv (hP.below B0.X) hpl (za0 B0.X (za2 hpc) hpc);have hpm1:=za0 B0.X (za2 hpm) hpm;have hpp1:=za0 B0.X (za2 hpp) hpp;have HE:Hid (mvB n fine zs os vs ko kv R L (id,veh,pl)=(rqB id veh (pl:Int) n fine zs os vs ko kv R L&&decide (rqD id veh (pl:Int) n fine zs os vs ko kv R L<0))):=rfl;have HE2:Hid (mvD n fine zs os vs ko kv R L (id,veh,pl)=rqD id veh (pl:Int) n fine zs os vs ko kv R L):=rfl;rw[HE.X,HE2.X];obtain⟨D,HGD⟩:=nmd (rqD id veh (pl:Int) n fine zs os vs ko kv R L);obtain⟨ch,HGB⟩:=nmd (rqB id veh (pl:Int) n fine zs os vs ko kv R L);obtain⟨GR,HGR⟩:=nmd (rqR id veh (pl:Int) n fine zs os vs ko kv R L);obtain⟨GL,HGL⟩:=nmd (rqL id veh (pl:Int) n fine zs os vs ko kv R L);rw[HGD.X,HGB.X,HGR.X,HGL.X]at RM;rw[HGD.X,HGB.X];clear hA hO hV hlz hlo hlv hP hpl hpc HGD HGB HGR HGL HE HE2 hpm hpp;go_enter Tryz.func157,Tryz.ntmps157;obtain⟨m0,m1⟩:=za1 hpm1;obtain⟨r0,r1⟩:=za1 hpp1;obtain⟨n0,n1,n2⟩:=zq1 N0.X
 go_wp2_with fail
 clear m0 m1 r0 r1 n0 n1 n2;refine RM.mono ?_;rintro e w2 ⟨ra2,n2,rc2,la2,l2,lc2,R2,rfl,hb,-⟩;have B2:Hid (Below w.heap.size w (w2.alloc (zd #[za ra2 n2 rc2,za la2 l2 lc2] 33))):=(B0.X.trans (hb.mono B0.X.size)).alloc (y7 B0.X.size hb.size) _;clear hb hpm1 hpp1 RM;cases ch
 ·go_wp2
  go_ret2;exact⟨rfl,B2.X⟩
 ·go_wp2
  go_ret2;exact⟨by simp,B2.X⟩
structure MV(w W:zg)(ms ps:Array Value):Prop where
 b:Below w.heap.size w W
 m:W.heap[w.heap.size]? =some (.cells ms 125 (0,0))
 p:W.heap[w.heap.size+1]? =some (.cells ps 33 (0,0))
 o:W.heap[w.heap.size+2]? =some (zd #[zc zb 0,zc zb 0,zc zb 0] 129 (0,0))
theorem MV.below{w W W':zg}{ms ps:Array Value}(h:MV w W ms ps)(hb:Below W.heap.size W W'):MV w W' ms ps:=
 ⟨h.b.trans (hb.mono h.b.size),za0 hb (za2 h.m) h.m,za0 hb (za2 h.p) h.p,za0 hb (za2 h.o) h.o⟩
theorem MV.new(w:zg)(ms ps:Array Value):MV w (((w.alloc (.cells ms 125)).alloc (.cells ps 33)).alloc (zd #[zc zb 0,zc zb 0,zc zb 0] 129)) ms ps:=by
 refine⟨((zK _).alloc (by simp) _).alloc (by simp<;>omega) _,?_,?_,?_⟩
 ·exact(yY _ _ (by simp<;>omega)).trans (xb _ _ _)
 ·exact(yY _ _ (by simp)).trans (y8 _ _ _)
 ·have:=zN ((w.alloc (.cells ms 125)).alloc (.cells ps 33)) (zd #[zc zb 0,zc zb 0,zc zb 0] 129)
  simpa using this
theorem zV2(n fine:Int)(a ao av ra la:Option Addr)(zl cap ko co kv cv nr rc ln lc pc:Nat)(zs os vs L:List Int)(R:List RT)(w:zg)(hA:za3 w a zs)(hO:za3 w ao os)(hV:za3 w av vs)(hlz:zs.length=zl)(hlo:os.length=ko*6)(hlv:vs.length=kv*5)(hP:zb8 w ra la nr ln R L)(hpl:zc3 n zs os vs ko kv fine R L=0)(hpc:w.heap[pc]? =some (zd #[zc zb n,za a zl cap,za ao ko co,za av kv cv,zc zb fine] 30 (0,0)))(hko:ko<=9223372036854775807)(hkv:kv<=9223372036854775807)(q:QS)(hq:brQ n fine zs os vs ko kv R L=q):
 Calls ze 123 #[.agg #[zp (.func 119) #[] #[.pointer (some ⟨pc,0,none⟩)],zp (.func 121) #[] #[.pointer (some ⟨pc,0,none⟩)]],.agg #[za ra nr rc,za la ln lc]] w fun e w'=>e=.returned (.tuple #[.agg #[zc zb q.s.1,zc zb q.s.2.1,zc zb (q.s.2.2:Int)],zc zb q.v,.bool q.f])/\Below w.heap.size w w':=by
 have HA:=za4 hA;have HO:=za4 hO;have HV:=za4 hV;have HLZ:=za4 hlz;have HLO:=za4 hlo;have HLV:=za4 hlv;have HP:=za4 hP;have HN:Hid (R.length=nr):=hP.1;have HPL:=za4 hpl;have HPC:=za4 hpc;clear hA hO hV hlz hlo hlv hP hpl hpc;have HQ:=za4 hq;clear hq;have hmf:∀(fn:Fn) (first cap:Array Value) (w:zg),(Instr.makeFunc fn first cap).run ze w=.ok (.func fn first cap) w:=fun _ _ _ _=>rfl;have C0:Hid (MV w (((w.alloc (zd #[zp (.func 119) #[] #[.pointer (some ⟨pc,0,none⟩)],zp (.func 121) #[] #[.pointer (some ⟨pc,0,none⟩)]] 125)).alloc (zd #[za ra nr rc,za la ln lc] 33)).alloc (zd #[zc zb 0,zc zb 0,zc zb 0] 129)) #[zp (.func 119) #[] #[.pointer (some ⟨pc,0,none⟩)],zp (.func 121) #[] #[.pointer (some ⟨pc,0,none⟩)]] #[za ra nr rc,za la ln lc]):=MV.new w _ _;have RA:=zU3 n fine a ao av ra la zl cap ko co kv cv nr rc ln lc pc zs os vs L R _ (HA.X.below C0.X.b) (HO.X.below C0.X.b) (HV.X.below C0.X.b) HLZ.X HLO.X HLV.X (HP.X.below C0.X.b) HPL.X (za0 C0.X.b (za2 HPC.X) HPC.X);have hsl:(sp3 R vs kv (zi9 n zs os vs ko kv fine R L) (zi9 n zs os vs ko kv fine R L).length).length<=1000:=by
  obtain⟨g1,g2,_⟩:=zb5 HPL.X;have h1:=zO4 (fun r hr=>zk7 ((zh3.1 g2).2 r hr).2) vs (zf6 (zb3 g1).2.2.1).1 (zi9 n zs os vs ko kv fine R L) (zi9 n zs os vs ko kv fine R L).length;have h2:=zE7 n zs os vs ko kv fine R L;omega
 obtain⟨X,HX⟩:=nmd (sp3 R vs kv (zi9 n zs os vs ko kv fine R L) (zi9 n zs os vs ko kv fine R L).length);have HQX:Hid (qst (mvB n fine zs os vs ko kv R L) (mvD n fine zs os vs ko kv R L) X=q):=by rw[<-HX.X];exact HQ.X
 rw[HX.X]at RA hsl;obtain⟨m,HM⟩:=nmd X.length;rw[HM.X]at RA;go_enter Tryz.func123,Tryz.ntmps123;obtain⟨m0,m1⟩:=za1 C0.X.m;obtain⟨r0,r1⟩:=za1 C0.X.p
 go_wp2_with fail
 generalize((w.alloc (zd #[zp (.func 119) #[] #[.pointer (some ⟨pc,0,none⟩)],zp (.func 121) #[] #[.pointer (some ⟨pc,0,none⟩)]] 125)).alloc (zd #[za ra nr rc,za la ln lc] 33)).alloc (zd #[zc zb 0,zc zb 0,zc zb 0] 129)=W0 at*;clear m0 m1 r0 r1;refine RA.mono ?_;rintro e w1 ⟨sl,rfl,hb,ho⟩;obtain⟨sa,sc,e⟩:=zp4 ho;subst e;have C1:=za4 (C0.X.below hb);have S1:Hid (za3 w1 sa (spF X)):=ym6 ho;clear hb ho C0 RA HX HQ;have LM:=zJ4 sa sc w.heap.size (w.heap.size+1) X (mvB n fine zs os vs ko kv R L) (mvD n fine zs os vs ko kv R L) w1 S1.X hsl (fun W id veh pl hW=>by
  have hB:=C1.X.b.trans (hW.mono C1.X.b.size);exact yf7 n fine a ao av ra la zl cap ko co kv cv nr rc ln lc pc zs os vs L R W (HA.X.below hB) (HO.X.below hB) (HV.X.below hB) HLZ.X HLO.X HLV.X (HP.X.below hB) HPL.X (za0 hB (za2 HPC.X) HPC.X) hko hkv w.heap.size (w.heap.size+1) (za0 hW (za2 C1.X.m) C1.X.m) (za0 hW (za2 C1.X.p) C1.X.p) id veh pl) q HQX.X
 rw[HM.X]at LM
 go_wp2_with fail
 refine LM.mono ?_;rintro e w2 ⟨rfl,hb⟩;have C2:=za4 (C1.X.below hb);clear hb C1 S1 LM HQX;obtain⟨sf,⟨s1,s2,s3⟩,sv⟩:=q;simp only;obtain⟨t0,t1,t2⟩:=zq1 C2.X.o;have tf:=fun i=>yU _ _ i _ _ C2.X.o;go_wp2;refine yX (v:=.tuple #[.agg #[zc zb s1,zc zb s2,zc zb (s3:Int)],zc zb sv,.bool sf]) (by simp[results,Tryz.results123,go_sem,t0,t1,t2]) rfl ⟨rfl,?_⟩
 repeat(first|with_reducible exact C2.X.b|refine xd ?_ (by simp<;>omega) _)
structure DZ(w W:zg)(ms ps:Array Value):Prop where
 b:Below w.heap.size w W
 m:W.heap[w.heap.size]? =some (.cells ms 125 (0,0))
 p:W.heap[w.heap.size+1]? =some (.cells ps 33 (0,0))
 o:W.heap[w.heap.size+2]? =some (zd #[za none 0 0,za none 0 0] 33 (0,0))
theorem DZ.below{w W W':zg}{ms ps:Array Value}(h:DZ w W ms ps)(hb:Below W.heap.size W W'):DZ w W' ms ps:=
 ⟨h.b.trans (hb.mono h.b.size),za0 hb (za2 h.m) h.m,za0 hb (za2 h.p) h.p,za0 hb (za2 h.o) h.o⟩
theorem DZ.new(w:zg)(ms ps:Array Value):DZ w (((w.alloc (.cells ms 125)).alloc (.cells ps 33)).alloc (zd #[za none 0 0,za none 0 0] 33)) ms ps:=by
 refine⟨((zK _).alloc (by simp) _).alloc (by simp<;>omega) _,?_,?_,?_⟩
 ·exact(yY _ _ (by simp<;>omega)).trans (xb _ _ _)
 ·exact(yY _ _ (by simp)).trans (y8 _ _ _)
 ·have:=zN ((w.alloc (.cells ms 125)).alloc (.cells ps 33)) (zd #[za none 0 0,za none 0 0] 33)
  simpa using this
theorem zi8{W:zg}{k:Nat}{z0 z1 u v:Value}{T:TypeId}(h:W.heap[k]? =some (zd #[z0,z1] T (0,0))):((W.setCell ⟨k,0,none⟩ u).setCell ⟨k,1,none⟩ v).heap[k]? =some (zd #[u,v] T (0,0)):=by
 have s1:=zP W k 0 _ _ u h;have s2:=zP _ k 1 _ _ v s1;simpa using s2
theorem DZ.put{w W:zg}{ms:Array Value}{r0 r1:Value}(h:DZ w W ms #[r0,r1])(u v:Value):DZ w ((W.setCell ⟨w.heap.size+1,0,none⟩ u).setCell ⟨w.heap.size+1,1,none⟩ v) ms #[u,v]:=
 ⟨(h.b.setCell (by simp) _).setCell (by simp) _,za6 (za6 h.m (by omega)) (by omega),zi8 h.p,za6 (za6 h.o (by omega)) (by omega)⟩
theorem ze0{W:zg}{k:Nat}{T:TypeId}{a1 a2:Option Addr}{n1 c1 n2 c2:Nat}{ra la b1 b2:Option Addr}{rn ln m1 d1 m2 d2:Nat}{R:List RT}{L:List Int}(h:zb8 W ra la rn ln R L)(hr:W.heap[k]? =some (zd #[za a1 n1 c1,za a2 n2 c2] T (0,0))):zb8 ((W.setCell ⟨k,0,none⟩ (za b1 m1 d1)).setCell ⟨k,1,none⟩ (za b2 m2 d2)) ra la rn ln R L:=by
 have s1:=zP W k 0 _ _ (za b1 m1 d1) hr;simp only[xB,zL]at s1;exact⟨h.1,h.2.1,ze7 (ze7 h.2.2.1 hr 0 _) s1 1 _,zj6 (zj6 h.2.2.2.1 hr 0 _) s1 1 _,h.2.2.2.2⟩
def yH1(w:zg)(K:Nat->Prop)(v:Int)(T:List RT)(L:List Int)(e:Ending)(w':zg):Prop:=∃(ra2:Option Addr) (n2 rc2:Nat) (la2:Option Addr) (l2 lc2:Nat) (R2:List RT),e=.returned (.tuple #[.agg #[za ra2 n2 rc2,za la2 l2 lc2],zc zb v])/\Below w.heap.size w w'/\R2.map RT.key=T.map RT.key/\zb8 w' ra2 la2 n2 l2 R2 L/\∀k,k<w.heap.size->K k->zj0 k ra2 la2 R2 L
theorem zW6(n fine:Int)(a ao av ra la:Option Addr)(zl cap ko co kv cv nr rc ln lc pc:Nat)(zs os vs L:List Int)(R:List RT)(w:zg)(hA:za3 w a zs)(hO:za3 w ao os)(hV:za3 w av vs)(hlz:zs.length=zl)(hlo:os.length=ko*6)(hlv:vs.length=kv*5)(hP:zb8 w ra la nr ln R L)(hpl:zc3 n zs os vs ko kv fine R L=0)(hpc:w.heap[pc]? =some (zd #[zc zb n,za a zl cap,za ao ko co,za av kv cv,zc zb fine] 30 (0,0)))(hko:ko<=9223372036854775807)(hkv:kv<=9223372036854775807)(N:Nat)(hN:N<=60):
 Calls ze 81 #[.agg #[zp (.func 119) #[] #[.pointer (some ⟨pc,0,none⟩)],zp (.func 121) #[] #[.pointer (some ⟨pc,0,none⟩)]],.agg #[za ra nr rc,za la ln lc],zc zb (N:Int)] w (yH1 w (fun k=>zj0 k ra la R L) (dsC n fine zs os vs ko kv L N R:Int) (dsR n fine zs os vs ko kv L N R) L):=by
 have HA:=za4 hA;have HO:=za4 hO;have HV:=za4 hV;have HLZ:=za4 hlz;have HLO:=za4 hlo;have HLV:=za4 hlv;have HP:=za4 hP;have HPL:=za4 hpl;have HPC:=za4 hpc;clear hA hO hV hlz hlo hlv hP hpl hpc;obtain⟨T,HT⟩:=nmd (dsR n fine zs os vs ko kv L N R);obtain⟨cnt,HC⟩:=nmd (dsC n fine zs os vs ko kv L N R);rw[HT.X,HC.X];have D0:Hid (DZ w (((w.alloc (zd #[zp (.func 119) #[] #[.pointer (some ⟨pc,0,none⟩)],zp (.func 121) #[] #[.pointer (some ⟨pc,0,none⟩)]] 125)).alloc (zd #[za ra nr rc,za la ln lc] 33)).alloc (zd #[za none 0 0,za none 0 0] 33)) #[zp (.func 119) #[] #[.pointer (some ⟨pc,0,none⟩)],zp (.func 121) #[] #[.pointer (some ⟨pc,0,none⟩)]] #[za ra nr rc,za la ln lc]):=DZ.new w _ _;go_enter Tryz.func81,Tryz.ntmps81
 go_wp2_with fail
 go_loopw[13] (fun t wr=>∃(k:Nat) (cur:List RT) (ra1:Option Addr) (n1 rc1:Nat) (la1:Option Addr) (l1 lc1:Nat),k<=N/\t=zc zb k/\DZ w wr #[zp (.func 119) #[] #[.pointer (some ⟨pc,0,none⟩)],zp (.func 121) #[] #[.pointer (some ⟨pc,0,none⟩)]] #[za ra1 n1 rc1,za la1 l1 lc1]/\zb8 wr ra1 la1 n1 l1 cur L/\zc3 n zs os vs ko kv fine cur L=0/\(dsR n fine zs os vs ko kv L (N - k) cur).map RT.key=T.map RT.key/\dsC n fine zs os vs ko kv L (N - k) cur+k=cnt/\(∀k,k<w.heap.size->zj0 k ra la R L->zj0 k ra1 la1 cur L)) (fun t _=>100 - (intOf t).toNat)
 case atStart=>
  exact⟨0,R,ra,nr,rc,la,ln,lc,by omega,rfl,D0.X,HP.below D0.b,HPL.X,by rw[Nat.sub_zero,HT.X],by rw[Nat.sub_zero,HC.X];omega,fun _ _ h=>h⟩
 case round=>
  clear D0;obtain⟨k,cur,ra1,n1,rc1,la1,l1,lc1,hk,rfl,hD,hpi,hpv,hkr,hkc,hof⟩:=hrel;have OF:=za4 hof;clear hof;have D1:=za4 hD;have PI:=za4 hpi;have PV:=za4 hpv;have KR:=za4 hkr;have KC:=za4 hkc;clear hD hpi hpv hkr hkc HP HPL HT HC;obtain⟨q0,q1⟩:=za1 D1.p;by_cases hlt:k<N
  ·have hlt':(k:Int)<(N:Int):=by omega
   have hwk:IntKind.i64.wrap ((k:Int)+1)=((k+1:Nat):Int):=by rw[qB _ (by omega)];omega
   obtain⟨m0,m1⟩:=za1 D1.m;obtain⟨q,HQ⟩:=nmd (brQ n fine zs os vs ko kv cur L)
   go_wp2_with fail
   clear m0 m1 q0 q1;refine(zV2 n fine a ao av ra1 la1 zl cap ko co kv cv n1 rc1 l1 lc1 pc zs os vs L cur wr (HA.below D1.b) (HO.below D1.b) (HV.below D1.b) HLZ.X HLO.X HLV.X PI.X PV.X (za0 D1.b (za2 HPC.X) HPC.X) hko hkv q HQ.X).mono ?_;rintro e w2 ⟨rfl,hb⟩;obtain⟨sf,⟨s1,s2,s3⟩,sv⟩:=q;dsimp only;have D2:Hid (DZ w (w2.alloc (zd #[zc zb s1,zc zb s2,zc zb (s3:Int)] 129)) #[zp (.func 119) #[] #[.pointer (some ⟨pc,0,none⟩)],zp (.func 121) #[] #[.pointer (some ⟨pc,0,none⟩)]] #[za ra1 n1 rc1,za la1 l1 lc1]):=(D1.below hb).below (zK _);have N2:Hid ((w2.alloc (zd #[zc zb s1,zc zb s2,zc zb (s3:Int)] 129)).heap[w2.heap.size]? =some (zd #[zc zb s1,zc zb s2,zc zb (s3:Int)] 129 (0,0))):=zN _ _;have PI2:Hid (zb8 (w2.alloc (zd #[zc zb s1,zc zb s2,zc zb (s3:Int)] 129)) ra1 la1 n1 l1 cur L):=(PI.below hb).below (zK _);clear hb D1 PI;obtain⟨q0,q1⟩:=za1 D2.p;cases sf
   ·have hst:(brQ n fine zs os vs ko kv cur L).f=false:=by rw[HQ.X]
    have e1:=KR.X;have e2:=KC.X;rw[(zv2 hst (N - k)).1]at e1;rw[(zv2 hst (N - k)).2,z6]at e2;subst e2;have E1:=za4 e1;clear hst e1 KR KC HQ;obtain⟨t0,t1⟩:=za1 D2.o;have tf:=fun i=>yU _ _ i _ _ D2.o;have P3:Hid _:=ze0 (b1:=ra1) (m1:=n1) (d1:=rc1) (b2:=la1) (m2:=l1) (d2:=lc1) PI2.X D2.o;go_wp2;refine yX (v:=.tuple #[.agg #[za ra1 n1 rc1,za la1 l1 lc1],zc zb (k:Int)]) (by simp[results,Tryz.results81,go_sem,t0,t1]) rfl ⟨ra1,n1,rc1,la1,l1,lc1,cur,rfl,(D2.b.setCell (by simp<;>omega) _).setCell (by simp<;>omega) _,E1.X,P3.X,OF.X⟩
   ·have hst:(brQ n fine zs os vs ko kv cur L).f=true:=by rw[HQ.X]
    obtain⟨b1,b2,b3,b4⟩:=yi2 HQ.X rfl;have hnk:N - k=(N - (k+1))+1:=by omega
    have e1:=KR.X;have e2:=KC.X;rw[hnk,(zv6 hst _).1]at e1;rw[hnk,(zv6 hst _).2]at e2;have E1:=za4 e1;have E2:=za4 e2;dsimp only at b1 b2 b3;have RM:=zA7 s1 s2 (s3:Int) n fine a ao av ra1 la1 zl cap ko co kv cv n1 rc1 l1 lc1 pc zs os vs L cur _ (HA.below D2.b) (HO.below D2.b) (HV.below D2.b) HLZ.X HLO.X HLV.X hko hkv PI2.X PV.X (za0 D2.b (za2 HPC.X) HPC.X);rw[b1,b2,b3]at RM;have B4:=za4 b4;obtain⟨RD,HRD⟩:=nmd (rqD s1 s2 (s3:Int) n fine zs os vs ko kv cur L);rw[HRD.X]at RM;obtain⟨nx,HNX⟩:=nmd (dsN n fine zs os vs ko kv L cur);rw[HNX.X]at RM E1 E2 B4;clear hst e1 e2 b1 b2 b3 b4 KR KC HQ HRD HNX hnk;obtain⟨m0,m1⟩:=za1 D2.m;obtain⟨n0,n1',n2'⟩:=zq1 N2.X;have qf:=fun i=>yU _ _ i _ _ D2.p
    go_wp2_with fail
    clear m0 m1 n0 n1' n2' q0 q1 qf;refine RM.mono ?_;rintro e w4 ⟨ra2,n2,rc2,la2,l2,lc2,R2,rfl,hb,hkey,hpi,hof⟩;have O5:Hid (∀k,k<w.heap.size->zj0 k ra la R L->zj0 k ra2 la2 R2 L):=fun k hk h=>hof k (xh hk D2.b.size) (OF.X k hk h);have D4:=za4 (D2.below hb);have D5:Hid (DZ w _ #[zp (.func 119) #[] #[.pointer (some ⟨pc,0,none⟩)],zp (.func 121) #[] #[.pointer (some ⟨pc,0,none⟩)]] #[za ra2 n2 rc2,za la2 l2 lc2]):=D4.put (za ra2 n2 rc2) (za la2 l2 lc2);have P5:Hid _:=ze0 (b1:=ra2) (m1:=n2) (d1:=rc2) (b2:=la2) (m2:=l2) (d2:=lc2) hpi D4.p;have HK:=za4 hkey;clear hb hkey hpi hof D2 PI2 N2 RM;obtain⟨q0,q1⟩:=za1 D4.p;have qf:=fun i=>yU _ _ i _ _ D4.p;go_wp2;go_roundw
    case rel=>
     exact⟨k+1,R2,ra2,n2,rc2,la2,l2,lc2,by omega,by first|rfl|go_num,D5.X,P5.X,by rw[zd2 L HK.X];exact B4.X,(z69 _ HK.X).trans E1.X,by rw[zR7 _ HK.X];have:=E2.X;omega,O5.X⟩
    case measure=>simp[intOf];omega
  ·have hke:k=N:=by omega
   subst hke;have e1:=KR.X;have e2:=KC.X;rw[yF]at e1 e2;have e3:k=cnt:=by simpa[dsC]using e2
   subst e3;have E1:=za4 e1;clear e1 e2 KR KC;obtain⟨t0,t1⟩:=za1 D1.o;have tf:=fun i=>yU _ _ i _ _ D1.o;have P3:Hid _:=ze0 (b1:=ra1) (m1:=n1) (d1:=rc1) (b2:=la1) (m2:=l1) (d2:=lc1) PI.X D1.o;go_wp2;refine yX (v:=.tuple #[.agg #[za ra1 n1 rc1,za la1 l1 lc1],zc zb (k:Int)]) (by simp[results,Tryz.results81,go_sem,t0,t1]) rfl ⟨ra1,n1,rc1,la1,l1,lc1,cur,rfl,(D1.b.setCell (by simp<;>omega) _).setCell (by simp<;>omega) _,E1.X,P3.X,OF.X⟩
