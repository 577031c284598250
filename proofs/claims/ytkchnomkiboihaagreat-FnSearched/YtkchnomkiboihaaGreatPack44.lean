import Derived.Test.YtkchnomkiboihaaGreatPack40
import Derived.Laws.EntriesVeiled
set_option linter.unusedSimpArgs false
set_option maxHeartbeats 4000000
set_option maxRecDepth 10000
namespace Go.Proofs.YtkchnomkiboihaaGreat
open RowKit renaming Below→Za,Hid→Zb
open Go renaming Calls→Zc,Addr→Zd
open Value renaming slice→za,int→ze,func→zr
open IntKind renaming i64→zd
open Obj renaming cells→zg
open Proofs.Tryz renaming prog→zh
open Go renaming World→zi
open Go.RowKit
open Q
theorem zw7(cs:Array Value)(w:zi)(n fine:Int)(a ao av:Option Zd)(ac ko co kv cv lz:Nat)(aJ:cs= #[ze zd n,za a lz ac,za ao ko co,za av kv cv,ze zd fine]):
 Zc zh 80 #[.agg cs] w fun e w'=>∃pc,e=.returned (.agg #[zr (.func 119) #[] #[.pointer (some ⟨pc,0,none⟩)],zr (.func 121) #[] #[.pointer (some ⟨pc,0,none⟩)]])/\Za w.heap.size w w'/\w'.heap[pc]? =some (.cells cs 30 (0,0)):=by
 subst aJ;have Cd:∀(fn:Fn) (first ac:Array Value) (w:zi),(Instr.makeFunc fn first ac).run zh w=.ok (.func fn first ac) w:=fun _ _ _ _=>rfl;go_enter Tryz.func80,Tryz.ntmps80;go_wp2;have q:∀(cs:Array Value),((w.alloc (.cells cs 30)).alloc (zg #[zr (.func 119) #[] #[.pointer (some ⟨w.heap.size,0,none⟩)],zr (.func 121) #[] #[.pointer (some ⟨w.heap.size,0,none⟩)]] 125)).heap[w.heap.size+1]? =some (zg #[zr (.func 119) #[] #[.pointer (some ⟨w.heap.size,0,none⟩)],zr (.func 121) #[] #[.pointer (some ⟨w.heap.size,0,none⟩)]] 125 (0,0)):=fun cs=>xh _ _ _;obtain⟨q0,q1⟩:=za1 (q #[ze zd n,za a lz ac,za ao ko co,za av kv cv,ze zd fine]);refine xe (v:=.agg #[zr (.func 119) #[] #[.pointer (some ⟨w.heap.size,0,none⟩)],zr (.func 121) #[] #[.pointer (some ⟨w.heap.size,0,none⟩)]]) (by simp[results,Tryz.results80,go_sem,q0,q1]) rfl ⟨w.heap.size,rfl,(zP _).alloc (by simp) _,xm _ _ _⟩
structure RZ(w W:zi)(ps ss:Array Value):Prop where
 b:Za w.heap.size w W
 p:W.heap[w.heap.size]? =some (.cells ps 33 (0,0))
 s:W.heap[w.heap.size+1]? =some (.cells ss 129 (0,0))
 o:W.heap[w.heap.size+2]? =some (zg #[za none 0 0,za none 0 0] 33 (0,0))
theorem RZ.below{w W W':zi}{ps ss:Array Value}(h:RZ w W ps ss)(hb:Za W.heap.size W W'):RZ w W' ps ss:=
 ⟨h.b.trans (hb.mono h.b.size),za0 hb (za2 h.p) h.p,za0 hb (za2 h.s) h.s,za0 hb (za2 h.o) h.o⟩
theorem RZ.new(w:zi)(ps ss:Array Value):RZ w (((w.alloc (.cells ps 33)).alloc (.cells ss 129)).alloc (zg #[za none 0 0,za none 0 0] 33)) ps ss:=by
 refine⟨((zP _).alloc (by simp) _).alloc (by simp<;>omega) _,?_,?_,?_⟩
 ·exact(xg _ _ (by simp<;>omega)).trans (xm _ _ _)
 ·exact(xg _ _ (by simp)).trans (xh _ _ _)
 ·have:=zS ((w.alloc (.cells ps 33)).alloc (.cells ss 129)) (zg #[za none 0 0,za none 0 0] 33)
  simpa using this
theorem zB3(id tv pl n fine:Int)(a ao av ra la:Option Zd)(zl ac ko co kv cv nr rc ln lc pc:Nat)(zs os vs L:List Int)(R:List RT)(w:zi)(hA:za3 w a zs)(hO:za3 w ao os)(hV:za3 w av vs)(aN:zs.length=zl)(an:os.length=ko*6)(au:vs.length=kv*5)(aA:ko<=9223372036854775807)(aB:kv<=9223372036854775807)(hP:zc3 w ra la nr ln R L)(aT:zc1 n zs os vs ko kv fine R L=0)(eF:w.heap[pc]? =some (zg #[ze zd n,za a zl ac,za ao ko co,za av kv cv,ze zd fine] 30 (0,0))):
 Zc zh 121 #[.agg #[za ra nr rc,za la ln lc],.agg #[ze zd id,ze zd tv,ze zd pl],.pointer (some ⟨pc,0,none⟩)] w (zT0 w (fun k=>zi8 k ra la R L) (rqD id tv pl n fine zs os vs ko kv R L) (rqB id tv pl n fine zs os vs ko kv R L) (rqR id tv pl n fine zs os vs ko kv R L) (rqL id tv pl n fine zs os vs ko kv R L)):=by
 have Q0:Zb (RZ w (((w.alloc (zg #[za ra nr rc,za la ln lc] 33)).alloc (zg #[ze zd id,ze zd tv,ze zd pl] 129)).alloc (zg #[za none 0 0,za none 0 0] 33)) #[za ra nr rc,za la ln lc] #[ze zd id,ze zd tv,ze zd pl]):=RZ.new _ _ _;have RL:=zW8 id tv pl n fine a ao av ra la zl ac ko co kv cv nr rc ln lc zs os vs L R _ (hA.below Q0.b) (hO.below Q0.b) (hV.below Q0.b) aN an au aA aB (hP.below Q0.b) aT;have AV:=za0 Q0.b (za2 eF) eF;obtain⟨GD,iE⟩:=nmd (rqD id tv pl n fine zs os vs ko kv R L);obtain⟨GB,dK⟩:=nmd (rqB id tv pl n fine zs os vs ko kv R L);obtain⟨GR,cB⟩:=nmd (rqR id tv pl n fine zs os vs ko kv R L);obtain⟨GL,da⟩:=nmd (rqL id tv pl n fine zs os vs ko kv R L);rw[iE.X,dK.X,cB.X,da.X]at RL;rw[iE.X,dK.X,cB.X,da.X];clear hA hO hV aN an au hP aT eF iE dK cB da;go_enter Tryz.func121,Tryz.ntmps121;obtain⟨c0,c1,c2,c3,c4⟩:=za7 AV;obtain⟨p0,p1⟩:=za1 Q0.p;obtain⟨s0,s1,s2⟩:=zq2 Q0.s
 go_wp2_with fail
 generalize((w.alloc _).alloc _).alloc _=W0 at*;refine RL.mono ?_;rintro e w1 ⟨ag,n2,ai,ak,l2,aj,R2,rfl,hb,h5,⟨h2,h4,h1,h3,h6⟩,h7⟩;have uT:Zb (∀k,k<w.heap.size->zi8 k ra la R L->zi8 k ag ak R2 GL):=fun k hk h=>h7 k (xw hk Q0.b.size) h;have Q1:Zb _:=Q0.below hb;have jF:Zb _:=h1;have lm:Zb _:=h3;have HX:Zb (R2.length=n2/\GL.length=l2/\R2.map RT.key=GR.map RT.key):=⟨h2,h4,h5⟩;have mh:Zb _:=h6;clear hb h1 h2 h3 h4 h5 h6 h7 Q0 RL c0 c1 c2 c3 c4 p0 p1 s0 s1 s2 AV;obtain⟨a0,a1⟩:=za1 Q1.o;have af:=fun i=>yZ _ _ i _ _ Q1.o;have s1:=xb w1 (w.heap.size+2) 0 _ _ (za ag n2 ai) Q1.o;have B2:Zb (Za w.heap.size w ((w1.setCell ⟨w.heap.size+2,0,none⟩ (za ag n2 ai)).setCell ⟨w.heap.size+2,1,none⟩ (za ak l2 aj))):=(Q1.b.setCell (by simp) _).setCell (by simp) _;have PL:Zb (za9 ((w1.setCell ⟨w.heap.size+2,0,none⟩ (za ag n2 ai)).setCell ⟨w.heap.size+2,1,none⟩ (za ak l2 aj)) ag R2):=ze7 (ze7 jF.X Q1.o 0 _) s1 1 _;have Qd:Zb (za3 ((w1.setCell ⟨w.heap.size+2,0,none⟩ (za ag n2 ai)).setCell ⟨w.heap.size+2,1,none⟩ (za ak l2 aj)) ak GL):=zj1 (zj1 lm.X Q1.o 0 _) s1 1 _;clear s1;go_wp2;refine xe (v:=.tuple #[.agg #[za ag n2 ai,za ak l2 aj],ze zd GD,.bool GB]) (by simp[results,Tryz.results121,go_sem,a0,a1]) rfl ?_;show zT0 _ _ _ _ _ _ _ _;exact⟨ag,n2,ai,ak,l2,aj,R2,rfl,B2.X,HX.2.2,⟨HX.1,HX.2.1,PL.X,Qd.X,mh.X⟩,uT.X⟩
theorem zQ5(id tv pl n fine:Int)(a ao av ra la:Option Zd)(zl ac ko co kv cv nr rc ln lc pc:Nat)(zs os vs L:List Int)(R:List RT)(w:zi)(hA:za3 w a zs)(hO:za3 w ao os)(hV:za3 w av vs)(aN:zs.length=zl)(an:os.length=ko*6)(au:vs.length=kv*5)(aA:ko<=9223372036854775807)(aB:kv<=9223372036854775807)(hP:zc3 w ra la nr ln R L)(aT:zc1 n zs os vs ko kv fine R L=0)(eF:w.heap[pc]? =some (zg #[ze zd n,za a zl ac,za ao ko co,za av kv cv,ze zd fine] 30 (0,0))):
 Zc zh 121 #[.agg #[za ra nr rc,za la ln lc],.agg #[ze zd id,ze zd tv,ze zd pl],.pointer (some ⟨pc,0,none⟩)] w (yI6 w (rqD id tv pl n fine zs os vs ko kv R L) (rqB id tv pl n fine zs os vs ko kv R L) (rqR id tv pl n fine zs os vs ko kv R L) (rqL id tv pl n fine zs os vs ko kv R L)):=(zB3 id tv pl n fine a ao av ra la zl ac ko co kv cv nr rc ln lc pc zs os vs L R w hA hO hV aN an au aA aB hP aT eF).mono (fun _ _ h=>h.is)
structure MP(w W:zi)(pc:Nat)(cs ps:Array Value):Prop where
 b:Za w.heap.size w W
 c:W.heap[pc]? =some (.cells cs 30 (0,0))
 p:W.heap[w.heap.size]? =some (.cells ps 33 (0,0))
theorem MP.below{w W W':zi}{pc:Nat}{cs ps:Array Value}(h:MP w W pc cs ps)(hb:Za W.heap.size W W'):MP w W' pc cs ps:=
 ⟨h.b.trans (hb.mono h.b.size),za0 hb (za2 h.c) h.c,za0 hb (za2 h.p) h.p⟩
theorem zR1{w W:zi}{pc:Nat}{n fine:Int}{a ao av ra la:Option Zd}{zl ac ko co kv cv nr rc ln lc:Nat}(h:MP w W pc #[ze zd n,za a zl ac,za ao ko co,za av kv cv,ze zd fine] #[za ra nr rc,za la ln lc]):W.cell? ⟨pc,0,none⟩=some (ze zd n)/\W.cell? ⟨pc,1,none⟩=some (za a zl ac)/\W.cell? ⟨pc,2,none⟩=some (za ao ko co)/\W.cell? ⟨pc,3,none⟩=some (za av kv cv)/\W.cell? ⟨pc,4,none⟩=some (ze zd fine)/\W.cell? ⟨w.heap.size,0,none⟩=some (za ra nr rc)/\W.cell? ⟨w.heap.size,1,none⟩=some (za la ln lc):=by
 obtain⟨c0,c1,c2,c3,c4⟩:=za7 h.c;obtain⟨p0,p1⟩:=za1 h.p;exact⟨c0,c1,c2,c3,c4,p0,p1⟩
theorem zW1(n fine:Int)(a ao av ra la:Option Zd)(zl ac ko co kv cv nr rc ln lc pc:Nat)(zs os vs L:List Int)(R:List RT)(w:zi)(hA:za3 w a zs)(hO:za3 w ao os)(hV:za3 w av vs)(aN:zs.length=zl)(an:os.length=ko*6)(au:vs.length=kv*5)(hP:zc3 w ra la nr ln R L)(aT:zc1 n zs os vs ko kv fine R L=0)(eF:w.heap[pc]? =some (zg #[ze zd n,za a zl ac,za ao ko co,za av kv cv,ze zd fine] 30 (0,0))):
 Zc zh 119 #[.agg #[za ra nr rc,za la ln lc],.pointer (some ⟨pc,0,none⟩)] w fun e w'=>∃sl,e=.returned sl/\Za w.heap.size w w'/\w'.ownsRow w.heap.size 129 3 sl (sp3 R vs kv (zi7 n zs os vs ko kv fine R L) (zi7 n zs os vs ko kv fine R L).length).length ((spF (sp3 R vs kv (zi7 n zs os vs ko kv fine R L) (zi7 n zs os vs ko kv fine R L).length)).map (ze zd)):=by
 have HA:=za4 hA;have HO:=za4 hO;have HV:=za4 hV;have ck:=za4 aN;have aF:=za4 an;have aE:=za4 au;have HP:=za4 hP;have HN:Zb (R.length=nr):=hP.1;have bm:=za4 aT;have iq:=za4 eF;clear hA hO hV aN an au hP aT eF;obtain⟨X,HX⟩:=nmd (zi7 n zs os vs ko kv fine R L);obtain⟨m,rh⟩:=nmd X.length;have lI:Zb (zr3 (zb0 R R.length)=X):=by
  have:=HX.X;unfold zi7 at this;rw[z7 bm.X]at this;exact this
 obtain⟨g1,g2,g3,_⟩:=zb7 bm.X;obtain⟨gp,KB⟩:=zh3.1 g2;have hs:=zj6 bm.X;have fV:=ze6 bm.X;have hm:X.length<=12:=by rw[<-HX.X];exact zG1 ..
 have fw:kv<=5:=(zf2 (zb2 g1).2.2.1).1;have SB:Zb (∀W,Za w.heap.size w W->Zc zh 113 #[.agg #[za ra nr rc,za la ln lc]] W fun e w'=>∃sl,e=.returned sl/\Za W.heap.size W w'/\w'.ownsRow W.heap.size 2 1 sl (zr3 (zb0 R R.length)).length ((zr3 (zb0 R R.length)).map (ze zd))):=fun W hW=>by
  have:=z99 ra la rc ln lc R W (HP.X.2.2.1.below hW) (by omega) hs.2.2 hs.2.1 hs.1;rw[show(za ra R.length rc)=za ra nr rc by rw[HN.X]]at this;exact this
 have SF:Zb (∀W sa sc,Za w.heap.size w W->za3 W sa X->Zc zh 120 #[.agg #[ze zd n,za a zl ac,za ao ko co,za av kv cv,ze zd fine],.agg #[za ra nr rc,za la ln lc],za sa m sc] W fun e w'=>∃sl,e=.returned sl/\Za W.heap.size W w'/\w'.ownsRow W.heap.size 129 3 sl (sp3 R vs kv X m).length ((spF (sp3 R vs kv X m)).map (ze zd))):=fun W sa sc hW hI=>by
  have:=zA6 n fine a ao av ra la sa zl ac ko co kv cv rc ln lc sc vs X R W (HV.X.below hW) aE.X fw (HP.X.2.2.1.below hW) (by omega) (ze9 gp) (fun r hr=>zk2 (KB r hr).2) hI hm;rw[HN.X,rh.X]at this;exact this
 clear g1 g2 g3 gp KB hs fV hm fw;rw[HX.X];have Q0:Zb (MP w (w.alloc (zg #[za ra nr rc,za la ln lc] 33)) pc #[ze zd n,za a zl ac,za ao ko co,za av kv cv,ze zd fine] #[za ra nr rc,za la ln lc]):=⟨zP _,za0 (zP _) (za2 iq.X) iq.X,zS _ _⟩;go_enter Tryz.func119,Tryz.ntmps119
 go_wp2_with fail
 generalize w.alloc _=W0 at*;refine qG (S:=(fun W=>W.cell? ⟨pc,0,none⟩=some (ze zd n)/\W.cell? ⟨pc,1,none⟩=some (za a zl ac)/\W.cell? ⟨pc,2,none⟩=some (za ao ko co)/\W.cell? ⟨pc,3,none⟩=some (za av kv cv)/\W.cell? ⟨pc,4,none⟩=some (ze zd fine)/\W.cell? ⟨w.heap.size,0,none⟩=some (za ra nr rc)/\W.cell? ⟨w.heap.size,1,none⟩=some (za la ln lc))) (by kernel_rfl) ?_ fun aa=> ?_
 ·exact zR1 (Q0.X.below (y5 _ _).drew)
 have kH:=za4 (Q0.X.below (y5 _ _).drew);generalize W0.drew=wd at*;refine tkH 0 aa ?_;refine tkH 1 aa ?_;refine tkH 2 aa ?_;refine rdH 3 fun K hK=> ?_;go_simp;refine(SB.X wd kH.X.b).mono ?_;rintro e w3 ⟨sl,rfl,hb,ho⟩;obtain⟨sa,sc,e,bh,hI⟩:=zr8 ho;subst e;rw[lI.X]at hI⊢;rw[rh.X];have G3:=za4 (kH.X.below hb);have I3:=za4 hI;clear hb ho hI bh
 (try go_wp2_with fail)
 refine hoW hK (zR1 G3.X) fun aa=> ?_;clear hK K;refine rdH 4 fun K hK=> ?_;go_simp;refine(SF.X w3 sa sc G3.X.b I3.X).mono ?_;rintro e w4 ⟨sl,rfl,hb,ho⟩;have G4:=za4 (G3.X.below hb);have O4:=za4 (zb5 ho G3.X.b.size);clear hb ho
 (try go_wp2_with fail)
 refine hoW hK (zR1 G4.X) fun aa=> ?_;clear hK K;refine tkH 5 aa ?_;refine qF (by kernel_rfl) ?_ _;clear aa;go_wp2;go_ret;exact⟨sl,rfl,G4.X.b,by rw[rh.X];exact O4.X⟩
theorem yh2(n fine:Int)(a ao av ra la:Option Zd)(zl ac ko co kv cv nr rc ln lc pc:Nat)(zs os vs L:List Int)(R:List RT)(w:zi)(hA:za3 w a zs)(hO:za3 w ao os)(hV:za3 w av vs)(aN:zs.length=zl)(an:os.length=ko*6)(au:vs.length=kv*5)(hP:zc3 w ra la nr ln R L)(aT:zc1 n zs os vs ko kv fine R L=0)(eF:w.heap[pc]? =some (zg #[ze zd n,za a zl ac,za ao ko co,za av kv cv,ze zd fine] 30 (0,0)))(aA:ko<=9223372036854775807)(aB:kv<=9223372036854775807)(pm pp:Nat)(kC:w.heap[pm]? =some (zg #[zr (.func 119) #[] #[.pointer (some ⟨pc,0,none⟩)],zr (.func 121) #[] #[.pointer (some ⟨pc,0,none⟩)]] 125 (0,0)))(oO:w.heap[pp]? =some (zg #[za ra nr rc,za la ln lc] 33 (0,0)))(id ab:Int)(pl:Nat):
 Zc zh 157 #[.agg #[ze zd id,ze zd ab,ze zd (pl:Int)],.pointer (some ⟨pm,0,none⟩),.pointer (some ⟨pp,0,none⟩)] w fun e w'=>e=.returned (.tuple #[ze zd (mvD n fine zs os vs ko kv R L (id,ab,pl)),.bool (mvB n fine zs os vs ko kv R L (id,ab,pl))])/\Za w.heap.size w w':=by
 have B0:Zb (Za w.heap.size w (w.alloc (zg #[ze zd id,ze zd ab,ze zd (pl:Int)] 129))):=zP _;have N0:=za4 (zS w (zg #[ze zd id,ze zd ab,ze zd (pl:Int)] 129));have RM:=zQ5 id ab (pl:Int) n fine a ao av ra la zl ac ko co kv cv nr rc ln lc pc zs os vs L R _ (hA.below B0.X) (hO.below B0.X) (hV.below B0.X) aN an au aA aB (hP.below B0.X) aT (za0 B0.X (za2 eF) eF);have Bw:=za0 B0.X (za2 kC) kC;have A3:=za0 B0.X (za2 oO) oO;have HE:Zb (mvB n fine zs os vs ko kv R L (id,ab,pl)=(rqB id ab (pl:Int) n fine zs os vs ko kv R L&&decide (rqD id ab (pl:Int) n fine zs os vs ko kv R L<0))):=rfl;have J2:Zb (mvD n fine zs os vs ko kv R L (id,ab,pl)=rqD id ab (pl:Int) n fine zs os vs ko kv R L):=rfl;rw[HE.X,J2.X];obtain⟨D,iE⟩:=nmd (rqD id ab (pl:Int) n fine zs os vs ko kv R L);obtain⟨ch,dK⟩:=nmd (rqB id ab (pl:Int) n fine zs os vs ko kv R L);obtain⟨GR,cB⟩:=nmd (rqR id ab (pl:Int) n fine zs os vs ko kv R L);obtain⟨GL,da⟩:=nmd (rqL id ab (pl:Int) n fine zs os vs ko kv R L);rw[iE.X,dK.X,cB.X,da.X]at RM;rw[iE.X,dK.X];clear hA hO hV aN an au hP aT eF iE dK cB da HE J2 kC oO;go_enter Tryz.func157,Tryz.ntmps157;obtain⟨m0,m1⟩:=za1 Bw;obtain⟨r0,r1⟩:=za1 A3;obtain⟨n0,n1,n2⟩:=zq2 N0.X
 go_wp2_with fail
 clear m0 m1 r0 r1 n0 n1 n2;refine RM.mono ?_;rintro e w2 ⟨ag,n2,ai,ak,l2,aj,R2,rfl,hb,-⟩;have B2:Zb (Za w.heap.size w (w2.alloc (zg #[za ag n2 ai,za ak l2 aj] 33))):=(B0.X.trans (hb.mono B0.X.size)).alloc (xj B0.X.size hb.size) _;clear hb Bw A3 RM;cases ch
 ·go_wp2
  go_ret2;exact⟨rfl,B2.X⟩
 ·go_wp2
  go_ret2;exact⟨by simp,B2.X⟩
structure MV(w W:zi)(ms ps:Array Value):Prop where
 b:Za w.heap.size w W
 m:W.heap[w.heap.size]? =some (.cells ms 125 (0,0))
 p:W.heap[w.heap.size+1]? =some (.cells ps 33 (0,0))
 o:W.heap[w.heap.size+2]? =some (zg #[ze zd 0,ze zd 0,ze zd 0] 129 (0,0))
theorem MV.below{w W W':zi}{ms ps:Array Value}(h:MV w W ms ps)(hb:Za W.heap.size W W'):MV w W' ms ps:=
 ⟨h.b.trans (hb.mono h.b.size),za0 hb (za2 h.m) h.m,za0 hb (za2 h.p) h.p,za0 hb (za2 h.o) h.o⟩
theorem MV.new(w:zi)(ms ps:Array Value):MV w (((w.alloc (.cells ms 125)).alloc (.cells ps 33)).alloc (zg #[ze zd 0,ze zd 0,ze zd 0] 129)) ms ps:=by
 refine⟨((zP _).alloc (by simp) _).alloc (by simp<;>omega) _,?_,?_,?_⟩
 ·exact(xg _ _ (by simp<;>omega)).trans (xm _ _ _)
 ·exact(xg _ _ (by simp)).trans (xh _ _ _)
 ·have:=zS ((w.alloc (.cells ms 125)).alloc (.cells ps 33)) (zg #[ze zd 0,ze zd 0,ze zd 0] 129)
  simpa using this
theorem ya0(n fine:Int)(a ao av ra la:Option Zd)(zl ac ko co kv cv nr rc ln lc pc:Nat)(zs os vs L:List Int)(R:List RT)(w:zi)(hA:za3 w a zs)(hO:za3 w ao os)(hV:za3 w av vs)(aN:zs.length=zl)(an:os.length=ko*6)(au:vs.length=kv*5)(hP:zc3 w ra la nr ln R L)(aT:zc1 n zs os vs ko kv fine R L=0)(eF:w.heap[pc]? =some (zg #[ze zd n,za a zl ac,za ao ko co,za av kv cv,ze zd fine] 30 (0,0)))(aA:ko<=9223372036854775807)(aB:kv<=9223372036854775807)(q:QS)(hq:brQ n fine zs os vs ko kv R L=q):
 Zc zh 123 #[.agg #[zr (.func 119) #[] #[.pointer (some ⟨pc,0,none⟩)],zr (.func 121) #[] #[.pointer (some ⟨pc,0,none⟩)]],.agg #[za ra nr rc,za la ln lc]] w fun e w'=>e=.returned (.tuple #[.agg #[ze zd q.s.1,ze zd q.s.2.1,ze zd (q.s.2.2:Int)],ze zd q.v,.bool q.f])/\Za w.heap.size w w':=by
 have HA:=za4 hA;have HO:=za4 hO;have HV:=za4 hV;have ck:=za4 aN;have aF:=za4 an;have aE:=za4 au;have HP:=za4 hP;have HN:Zb (R.length=nr):=hP.1;have bm:=za4 aT;have iq:=za4 eF;clear hA hO hV aN an au hP aT eF;have HQ:=za4 hq;clear hq;have Cd:∀(fn:Fn) (first ac:Array Value) (w:zi),(Instr.makeFunc fn first ac).run zh w=.ok (.func fn first ac) w:=fun _ _ _ _=>rfl;have C0:Zb (MV w (((w.alloc (zg #[zr (.func 119) #[] #[.pointer (some ⟨pc,0,none⟩)],zr (.func 121) #[] #[.pointer (some ⟨pc,0,none⟩)]] 125)).alloc (zg #[za ra nr rc,za la ln lc] 33)).alloc (zg #[ze zd 0,ze zd 0,ze zd 0] 129)) #[zr (.func 119) #[] #[.pointer (some ⟨pc,0,none⟩)],zr (.func 121) #[] #[.pointer (some ⟨pc,0,none⟩)]] #[za ra nr rc,za la ln lc]):=MV.new w _ _;have RA:=zW1 n fine a ao av ra la zl ac ko co kv cv nr rc ln lc pc zs os vs L R _ (HA.X.below C0.X.b) (HO.X.below C0.X.b) (HV.X.below C0.X.b) ck.X aF.X aE.X (HP.X.below C0.X.b) bm.X (za0 C0.X.b (za2 iq.X) iq.X);have bh:(sp3 R vs kv (zi7 n zs os vs ko kv fine R L) (zi7 n zs os vs ko kv fine R L).length).length<=1000:=by
  obtain⟨g1,g2,_⟩:=zb7 bm.X;have h1:=zR5 (fun r hr=>zk2 ((zh3.1 g2).2 r hr).2) vs (zf2 (zb2 g1).2.2.1).1 (zi7 n zs os vs ko kv fine R L) (zi7 n zs os vs ko kv fine R L).length;have h2:=zG1 n zs os vs ko kv fine R L;omega
 obtain⟨X,HX⟩:=nmd (sp3 R vs kv (zi7 n zs os vs ko kv fine R L) (zi7 n zs os vs ko kv fine R L).length);have JG:Zb (qst (mvB n fine zs os vs ko kv R L) (mvD n fine zs os vs ko kv R L) X=q):=by rw[<-HX.X];exact HQ.X
 rw[HX.X]at RA bh;obtain⟨m,HM⟩:=nmd X.length;rw[HM.X]at RA;go_enter Tryz.func123,Tryz.ntmps123;obtain⟨m0,m1⟩:=za1 C0.X.m;obtain⟨r0,r1⟩:=za1 C0.X.p
 go_wp2_with fail
 generalize((w.alloc _).alloc _).alloc _=W0 at*;clear m0 m1 r0 r1;refine RA.mono ?_;rintro e w1 ⟨sl,rfl,hb,ho⟩;obtain⟨sa,sc,e⟩:=zp4 ho;subst e;have C1:=za4 (C0.X.below hb);have S1:Zb (za3 w1 sa (spF X)):=yk1 ho;clear hb ho C0 RA HX HQ;have LM:=zJ7 sa sc w.heap.size (w.heap.size+1) X (mvB n fine zs os vs ko kv R L) (mvD n fine zs os vs ko kv R L) w1 S1.X bh (fun W id ab pl hW=>by
  have hB:=C1.X.b.trans (hW.mono C1.X.b.size);exact yh2 n fine a ao av ra la zl ac ko co kv cv nr rc ln lc pc zs os vs L R W (HA.X.below hB) (HO.X.below hB) (HV.X.below hB) ck.X aF.X aE.X (HP.X.below hB) bm.X (za0 hB (za2 iq.X) iq.X) aA aB w.heap.size (w.heap.size+1) (za0 hW (za2 C1.X.m) C1.X.m) (za0 hW (za2 C1.X.p) C1.X.p) id ab pl) q JG.X
 rw[HM.X]at LM
 go_wp2_with fail
 refine LM.mono ?_;rintro e w2 ⟨rfl,hb⟩;have C2:=za4 (C1.X.below hb);clear hb C1 S1 LM JG;obtain⟨sf,⟨s1,s2,s3⟩,sv⟩:=q;simp only;obtain⟨t0,t1,t2⟩:=zq2 C2.X.o;have tf:=fun i=>yZ _ _ i _ _ C2.X.o;go_wp2;refine xe (v:=.tuple #[.agg #[ze zd s1,ze zd s2,ze zd (s3:Int)],ze zd sv,.bool sf]) (by simp[results,Tryz.results123,go_sem,t0,t1,t2]) rfl ⟨rfl,?_⟩
 repeat(first|with_reducible exact C2.X.b|refine xq ?_ (by simp<;>omega) _)
structure DZ(w W:zi)(ms ps:Array Value):Prop where
 b:Za w.heap.size w W
 m:W.heap[w.heap.size]? =some (.cells ms 125 (0,0))
 p:W.heap[w.heap.size+1]? =some (.cells ps 33 (0,0))
 o:W.heap[w.heap.size+2]? =some (zg #[za none 0 0,za none 0 0] 33 (0,0))
theorem DZ.below{w W W':zi}{ms ps:Array Value}(h:DZ w W ms ps)(hb:Za W.heap.size W W'):DZ w W' ms ps:=
 ⟨h.b.trans (hb.mono h.b.size),za0 hb (za2 h.m) h.m,za0 hb (za2 h.p) h.p,za0 hb (za2 h.o) h.o⟩
theorem DZ.new(w:zi)(ms ps:Array Value):DZ w (((w.alloc (.cells ms 125)).alloc (.cells ps 33)).alloc (zg #[za none 0 0,za none 0 0] 33)) ms ps:=by
 refine⟨((zP _).alloc (by simp) _).alloc (by simp<;>omega) _,?_,?_,?_⟩
 ·exact(xg _ _ (by simp<;>omega)).trans (xm _ _ _)
 ·exact(xg _ _ (by simp)).trans (xh _ _ _)
 ·have:=zS ((w.alloc (.cells ms 125)).alloc (.cells ps 33)) (zg #[za none 0 0,za none 0 0] 33)
  simpa using this
theorem zi5{W:zi}{k:Nat}{z0 z1 u v:Value}{T:TypeId}(h:W.heap[k]? =some (zg #[z0,z1] T (0,0))):((W.setCell ⟨k,0,none⟩ u).setCell ⟨k,1,none⟩ v).heap[k]? =some (zg #[u,v] T (0,0)):=by
 have s1:=xb W k 0 _ _ u h;have s2:=xb _ k 1 _ _ v s1;simpa using s2
theorem DZ.put{w W:zi}{ms:Array Value}{r0 r1:Value}(h:DZ w W ms #[r0,r1])(u v:Value):DZ w ((W.setCell ⟨w.heap.size+1,0,none⟩ u).setCell ⟨w.heap.size+1,1,none⟩ v) ms #[u,v]:=
 ⟨(h.b.setCell (by simp) _).setCell (by simp) _,za8 (za8 h.m (by omega)) (by omega),zi5 h.p,za8 (za8 h.o (by omega)) (by omega)⟩
theorem ze3{W:zi}{k:Nat}{T:TypeId}{a1 a2:Option Zd}{n1 c1 n2 c2:Nat}{ra la b1 b2:Option Zd}{rn ln m1 d1 m2 d2:Nat}{R:List RT}{L:List Int}(h:zc3 W ra la rn ln R L)(hr:W.heap[k]? =some (zg #[za a1 n1 c1,za a2 n2 c2] T (0,0))):zc3 ((W.setCell ⟨k,0,none⟩ (za b1 m1 d1)).setCell ⟨k,1,none⟩ (za b2 m2 d2)) ra la rn ln R L:=by
 have s1:=xb W k 0 _ _ (za b1 m1 d1) hr;simp only[xM,xN]at s1;exact⟨h.1,h.2.1,ze7 (ze7 h.2.2.1 hr 0 _) s1 1 _,zj1 (zj1 h.2.2.2.1 hr 0 _) s1 1 _,h.2.2.2.2⟩
def yJ6(w:zi)(K:Nat->Prop)(v:Int)(T:List RT)(L:List Int)(e:Ending)(w':zi):Prop:=∃(ag:Option Zd) (n2 ai:Nat) (ak:Option Zd) (l2 aj:Nat) (R2:List RT),e=.returned (.tuple #[.agg #[za ag n2 ai,za ak l2 aj],ze zd v])/\Za w.heap.size w w'/\R2.map RT.key=T.map RT.key/\zc3 w' ag ak n2 l2 R2 L/\∀k,k<w.heap.size->K k->zi8 k ag ak R2 L
theorem zX3(n fine:Int)(a ao av ra la:Option Zd)(zl ac ko co kv cv nr rc ln lc pc:Nat)(zs os vs L:List Int)(R:List RT)(w:zi)(hA:za3 w a zs)(hO:za3 w ao os)(hV:za3 w av vs)(aN:zs.length=zl)(an:os.length=ko*6)(au:vs.length=kv*5)(hP:zc3 w ra la nr ln R L)(aT:zc1 n zs os vs ko kv fine R L=0)(eF:w.heap[pc]? =some (zg #[ze zd n,za a zl ac,za ao ko co,za av kv cv,ze zd fine] 30 (0,0)))(aA:ko<=9223372036854775807)(aB:kv<=9223372036854775807)(N:Nat)(hN:N<=60):
 Zc zh 81 #[.agg #[zr (.func 119) #[] #[.pointer (some ⟨pc,0,none⟩)],zr (.func 121) #[] #[.pointer (some ⟨pc,0,none⟩)]],.agg #[za ra nr rc,za la ln lc],ze zd (N:Int)] w (yJ6 w (fun k=>zi8 k ra la R L) (dsC n fine zs os vs ko kv L N R:Int) (dsR n fine zs os vs ko kv L N R) L):=by
 have HA:=za4 hA;have HO:=za4 hO;have HV:=za4 hV;have ck:=za4 aN;have aF:=za4 an;have aE:=za4 au;have HP:=za4 hP;have bm:=za4 aT;have iq:=za4 eF;clear hA hO hV aN an au hP aT eF;obtain⟨T,HT⟩:=nmd (dsR n fine zs os vs ko kv L N R);obtain⟨AC,HC⟩:=nmd (dsC n fine zs os vs ko kv L N R);rw[HT.X,HC.X];have D0:Zb (DZ w (((w.alloc (zg #[zr (.func 119) #[] #[.pointer (some ⟨pc,0,none⟩)],zr (.func 121) #[] #[.pointer (some ⟨pc,0,none⟩)]] 125)).alloc (zg #[za ra nr rc,za la ln lc] 33)).alloc (zg #[za none 0 0,za none 0 0] 33)) #[zr (.func 119) #[] #[.pointer (some ⟨pc,0,none⟩)],zr (.func 121) #[] #[.pointer (some ⟨pc,0,none⟩)]] #[za ra nr rc,za la ln lc]):=DZ.new w _ _;go_enter Tryz.func81,Tryz.ntmps81
 go_wp2_with fail
 go_loopw[13] (fun t wr=>∃(k:Nat) (az:List RT) (cI:Option Zd) (n1 cJ:Nat) (kN:Option Zd) (l1 c_:Nat),k<=N/\t=ze zd k/\DZ w wr #[zr (.func 119) #[] #[.pointer (some ⟨pc,0,none⟩)],zr (.func 121) #[] #[.pointer (some ⟨pc,0,none⟩)]] #[za cI n1 cJ,za kN l1 c_]/\zc3 wr cI kN n1 l1 az L/\zc1 n zs os vs ko kv fine az L=0/\(dsR n fine zs os vs ko kv L (N - k) az).map RT.key=T.map RT.key/\dsC n fine zs os vs ko kv L (N - k) az+k=AC/\(∀k,k<w.heap.size->zi8 k ra la R L->zi8 k cI kN az L)) (fun t _=>100 - (intOf t).toNat)
 case atStart=>
  exact⟨0,R,ra,nr,rc,la,ln,lc,by omega,rfl,D0.X,HP.below D0.b,bm.X,by rw[Nat.sub_zero,HT.X],by rw[Nat.sub_zero,HC.X];omega,fun _ _ h=>h⟩
 case round=>
  clear D0;obtain⟨k,az,cI,n1,cJ,kN,l1,c_,hk,rfl,hD,dJ,dv,uv,oR,cX⟩:=hrel;have OF:=za4 cX;clear cX;have D1:=za4 hD;have PI:=za4 dJ;have PV:=za4 dv;have KR:=za4 uv;have KC:=za4 oR;clear hD dJ dv uv oR HP bm HT HC;obtain⟨q0,q1⟩:=za1 D1.p;by_cases ah:k<N
  ·have ng:(k:Int)<(N:Int):=by omega
   have vl:IntKind.i64.wrap ((k:Int)+1)=((k+1:Nat):Int):=by rw[xz _ (by omega)];omega
   obtain⟨m0,m1⟩:=za1 D1.m;obtain⟨q,HQ⟩:=nmd (brQ n fine zs os vs ko kv az L)
   go_wp2_with fail
   clear m0 m1 q0 q1;refine(ya0 n fine a ao av cI kN zl ac ko co kv cv n1 cJ l1 c_ pc zs os vs L az wr (HA.below D1.b) (HO.below D1.b) (HV.below D1.b) ck.X aF.X aE.X PI.X PV.X (za0 D1.b (za2 iq.X) iq.X) aA aB q HQ.X).mono ?_;rintro e w2 ⟨rfl,hb⟩;obtain⟨sf,⟨s1,s2,s3⟩,sv⟩:=q;dsimp only;have D2:Zb (DZ w (w2.alloc (zg #[ze zd s1,ze zd s2,ze zd (s3:Int)] 129)) #[zr (.func 119) #[] #[.pointer (some ⟨pc,0,none⟩)],zr (.func 121) #[] #[.pointer (some ⟨pc,0,none⟩)]] #[za cI n1 cJ,za kN l1 c_]):=(D1.below hb).below (zP _);have N2:=za4 (zS w2 (zg #[ze zd s1,ze zd s2,ze zd (s3:Int)] 129));have FV:Zb (zc3 (w2.alloc (zg #[ze zd s1,ze zd s2,ze zd (s3:Int)] 129)) cI kN n1 l1 az L):=(PI.below hb).below (zP _);clear hb D1 PI;obtain⟨q0,q1⟩:=za1 D2.p;cases sf
   ·have bB:(brQ n fine zs os vs ko kv az L).f=false:=by rw[HQ.X]
    have e1:=KR.X;have e2:=KC.X;rw[(zu3 bB (N - k)).1]at e1;rw[(zu3 bB (N - k)).2,yb]at e2;subst e2;have E1:=za4 e1;clear bB e1 KR KC HQ;obtain⟨t0,t1⟩:=za1 D2.o;have tf:=fun i=>yZ _ _ i _ _ D2.o;have P3:Zb _:=ze3 (b1:=cI) (m1:=n1) (d1:=cJ) (b2:=kN) (m2:=l1) (d2:=c_) FV.X D2.o;go_wp2;refine xe (v:=.tuple #[.agg #[za cI n1 cJ,za kN l1 c_],ze zd (k:Int)]) (by simp[results,Tryz.results81,go_sem,t0,t1]) rfl ⟨cI,n1,cJ,kN,l1,c_,az,rfl,(D2.b.setCell (by simp<;>omega) _).setCell (by simp<;>omega) _,E1.X,P3.X,OF.X⟩
   ·have bB:(brQ n fine zs os vs ko kv az L).f=true:=by rw[HQ.X]
    obtain⟨b1,b2,b3,b4⟩:=yg8 HQ.X rfl;have su:N - k=(N - (k+1))+1:=by omega
    have e1:=KR.X;have e2:=KC.X;rw[su,(zu0 bB _).1]at e1;rw[su,(zu0 bB _).2]at e2;have E1:=za4 e1;have E2:=za4 e2;dsimp only at b1 b2 b3;have RM:=zB3 s1 s2 (s3:Int) n fine a ao av cI kN zl ac ko co kv cv n1 cJ l1 c_ pc zs os vs L az _ (HA.below D2.b) (HO.below D2.b) (HV.below D2.b) ck.X aF.X aE.X aA aB FV.X PV.X (za0 D2.b (za2 iq.X) iq.X);rw[b1,b2,b3]at RM;have B4:=za4 b4;obtain⟨RD,nT⟩:=nmd (rqD s1 s2 (s3:Int) n fine zs os vs ko kv az L);rw[nT.X]at RM;obtain⟨nx,a8⟩:=nmd (dsN n fine zs os vs ko kv L az);rw[a8.X]at RM E1 E2 B4;clear bB e1 e2 b1 b2 b3 b4 KR KC HQ nT a8 su;obtain⟨m0,m1⟩:=za1 D2.m;obtain⟨n0,FJ,Mw⟩:=zq2 N2.X;have qf:=fun i=>yZ _ _ i _ _ D2.p
    go_wp2_with fail
    clear m0 m1 n0 FJ Mw q0 q1 qf;refine RM.mono ?_;rintro e w4 ⟨ag,n2,ai,ak,l2,aj,R2,rfl,hb,dg,dJ,cX⟩;have O5:Zb (∀k,k<w.heap.size->zi8 k ra la R L->zi8 k ag ak R2 L):=fun k hk h=>cX k (xw hk D2.b.size) (OF.X k hk h);have D4:=za4 (D2.below hb);have D5:Zb (DZ w _ #[zr (.func 119) #[] #[.pointer (some ⟨pc,0,none⟩)],zr (.func 121) #[] #[.pointer (some ⟨pc,0,none⟩)]] #[za ag n2 ai,za ak l2 aj]):=D4.put (za ag n2 ai) (za ak l2 aj);have P5:Zb _:=ze3 (b1:=ag) (m1:=n2) (d1:=ai) (b2:=ak) (m2:=l2) (d2:=aj) dJ D4.p;have HK:=za4 dg;clear hb dg dJ cX D2 FV N2 RM;obtain⟨q0,q1⟩:=za1 D4.p;have qf:=fun i=>yZ _ _ i _ _ D4.p;go_wp2;go_roundw
    case rel=>
     exact⟨k+1,R2,ag,n2,ai,ak,l2,aj,by omega,by first|rfl|go_num,D5.X,P5.X,by rw[zd5 L HK.X];exact B4.X,(z87 _ HK.X).trans E1.X,by rw[zQ6 _ HK.X];have:=E2.X;omega,O5.X⟩
    case measure=>simp[intOf];omega
  ·have cV:k=N:=by omega
   subst cV;have e1:=KR.X;have e2:=KC.X;rw[Nat.sub_self]at e1 e2;have e3:k=AC:=by simpa[dsC]using e2
   subst e3;have E1:=za4 e1;clear e1 e2 KR KC;obtain⟨t0,t1⟩:=za1 D1.o;have tf:=fun i=>yZ _ _ i _ _ D1.o;have P3:Zb _:=ze3 (b1:=cI) (m1:=n1) (d1:=cJ) (b2:=kN) (m2:=l1) (d2:=c_) PI.X D1.o;go_wp2;refine xe (v:=.tuple #[.agg #[za cI n1 cJ,za kN l1 c_],ze zd (k:Int)]) (by simp[results,Tryz.results81,go_sem,t0,t1]) rfl ⟨cI,n1,cJ,kN,l1,c_,az,rfl,(D1.b.setCell (by simp<;>omega) _).setCell (by simp<;>omega) _,E1.X,P3.X,OF.X⟩
