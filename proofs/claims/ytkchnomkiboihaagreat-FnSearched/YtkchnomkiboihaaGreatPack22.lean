import Derived.Test.YtkchnomkiboihaaGreatPack12
import Derived.Test.YtkchnomkiboihaaGreatPack18
import Derived.Test.YtkchnomkiboihaaGreatPack21
set_option linter.unusedSimpArgs false
set_option maxHeartbeats 4000000
namespace Go.Proofs.YtkchnomkiboihaaGreat
open RowKit renaming Below→Za,Hid→Zb
theorem jb:type_of% @List.mem_flatMap:=@List.mem_flatMap
theorem jc:type_of% @List.flatMap_cons:=@List.flatMap_cons
theorem jd:type_of% @List.perm_append_right_iff:=@List.perm_append_right_iff
theorem je:type_of% @List.Perm.append_left:=@List.Perm.append_left
open Value renaming slice→za,int→ze
open IntKind renaming i64→zd
open Obj renaming cells→zg
open Proofs.Tryz renaming prog→zh
open Go renaming World→zi
open Go.RowKit
open Q
def yo8(w:zi)(e:Ending)(w':zi):Prop:=∃(n:Int) (g zl cg go ko co gv kv cv:Nat) (zs O V:List Int) (fi:Int) (rs ls:Value) (R:List RT) (L:List Int) (sd st:Int),
 e=.returned (.tuple #[.agg #[ze zd n,za (some ⟨g,0,none⟩) zl cg,za (some ⟨go,0,none⟩) ko co,za (some ⟨gv,0,none⟩) kv cv,ze zd fi],.agg #[rs,ls],ze zd sd,ze zd st])/\(zs.length=zl/\O.length=ko*6/\V.length=kv*5/\1<=ko/\ko<=4/\1<=kv/\kv<=3)/\(R.length<=10/\(∀r∈R,r.ids.length<=9)/\L.length<=13/\(∀x∈L,-9223372036854775808<=x/\x<9223372036854775808))∧
 Za w.heap.size w w'/\za3 w' (some ⟨g,0,none⟩) zs/\za3 w' (some ⟨go,0,none⟩) O/\za3 w' (some ⟨gv,0,none⟩) V/\PO w' w.heap.size rs R ls L
set_option maxRecDepth 10000 in
theorem zK0(a:Option Addr)(c:Nat)(bs:List Int)(w:zi)(h:zO1 w a bs)(hl:bs.length<=1048576):
 Calls zh 6 #[za a bs.length c] w (yo8 w):=by
 have H:=za4 h;clear h;have BA:Zb (Za w.heap.size w ((w.alloc (zg #[ze zd 0,za none 0 0,za none 0 0,za none 0 0,ze zd 0] 30)).alloc (zg #[za none 0 0,za none 0 0] 33))):=(zP _).alloc (by simp) _;have GA:Zb (((w.alloc (zg #[ze zd 0,za none 0 0,za none 0 0,za none 0 0,ze zd 0] 30)).alloc (zg #[za none 0 0,za none 0 0] 33)).heap[w.heap.size]? =some (zg #[ze zd 0,za none 0 0,za none 0 0,za none 0 0,ze zd 0] 30 (0,0))):=xm _ _ _;have GB:Zb (((w.alloc (zg #[ze zd 0,za none 0 0,za none 0 0,za none 0 0,ze zd 0] 30)).alloc (zg #[za none 0 0,za none 0 0] 33)).heap[w.heap.size+1]? =some (zg #[za none 0 0,za none 0 0] 33 (0,0))):=xh _ _ _;have CA:Zb (zO1 ((w.alloc (zg #[ze zd 0,za none 0 0,za none 0 0,za none 0 0,ze zd 0] 30)).alloc (zg #[za none 0 0,za none 0 0] 33)) a bs):=by
  intro j hj;obtain⟨b,off,e,hc,hv⟩:=H.X j hj;exact⟨b,off,e,(BA.X.cell (p:=⟨b,off+j,none⟩) (zV hc)).trans hc,hv⟩
 go_enter Tryz.func6,Tryz.ntmps6
 go_wp2_with fail
 generalize(w.alloc _).alloc _=W0 at*;refine(yn0 a c bs W0 CA.X hl).mono ?_;rintro e w1 ⟨rfl,hb,hr⟩;obtain⟨q,HQ⟩:∃q,Zb (W0.heap.size=q):=⟨_,rfl⟩;have wh:w.heap.size+1<W0.heap.size:=za2 GB.X;have La:Zb (w.heap.size+1<q):=by show _<_;rw[<-HQ.X];exact wh
 have B1:=za4 (BA.X.trans (hb.mono BA.X.size));have G1:=za4 (za0 hb (za2 GA.X) GA.X);have G2:=za4 (za0 hb (za2 GB.X) GB.X);have R1:Zb (RD w1 q a bs c 0):=by have:=hr;rw[HQ.X]at this;exact this
 clear hb hr wh;rw[HQ.X]
 go_wp2_with fail
 refine(y09 q 0 c 4 a bs w1 R1.X (by omega) (by omega)).mono ?_;rintro e w3 ⟨n,g,zl,cg,go,ko,co,gv,kv,cv,zs,O,V,fi,rfl,KJ,hg,⟨p3,hr⟩,iz,io,iv,uH⟩;have iT:=za4 KJ;obtain⟨-,-,-,eA,fw,jK,QE⟩:=KJ;have hA:Za w3.heap.size w3 (w3.alloc (zg #[ze zd n,za (some ⟨g,0,none⟩) zl cg,za (some ⟨go,0,none⟩) ko co,za (some ⟨gv,0,none⟩) kv cv,ze zd fi] 30)):=zP _;have LL:=La.X;have jD:q<w1.heap.size:=za2 R1.X.1;have b3:Za w.heap.size w w3:=zu7 B1.X (by omega) hg;have B3:=za4 (b3.trans (hA.mono b3.size));have g3:=za6 hg G1.X (fun e=>by injection e with e;omega);have g4:=za6 hg G2.X (fun e=>by injection e with e;omega);have G3:=za4 (za0 hA (za2 g3) g3);have G4:=za4 (za0 hA (za2 g4) g4);have K3:=za4 (zS w3 (zg #[ze zd n,za (some ⟨g,0,none⟩) zl cg,za (some ⟨go,0,none⟩) ko co,za (some ⟨gv,0,none⟩) kv cv,ze zd fi] 30));have lP:Zb (w.heap.size+1<w3.heap.size/\w3.heap.size≠q):=⟨za2 g4,by have:=za2 hr.1;omega⟩;have R3:=za4 (hr.below hA);have IZ:Zb (za3 (w3.alloc (zg #[ze zd n,za (some ⟨g,0,none⟩) zl cg,za (some ⟨go,0,none⟩) ko co,za (some ⟨gv,0,none⟩) kv cv,ze zd fi] 30)) (some ⟨g,0,none⟩) zs/\g≠q/\w.heap.size+1<g):=⟨iz.below hA,by have:=uH.1;omega,by have:=uH.1;omega⟩;have IO:Zb (za3 (w3.alloc (zg #[ze zd n,za (some ⟨g,0,none⟩) zl cg,za (some ⟨go,0,none⟩) ko co,za (some ⟨gv,0,none⟩) kv cv,ze zd fi] 30)) (some ⟨go,0,none⟩) O/\go≠q/\w.heap.size+1<go):=⟨io.below hA,by have:=uH.2.1;omega,by have:=uH.2.1;omega⟩;have IV:Zb (za3 (w3.alloc (zg #[ze zd n,za (some ⟨g,0,none⟩) zl cg,za (some ⟨go,0,none⟩) ko co,za (some ⟨gv,0,none⟩) kv cv,ze zd fi] 30)) (some ⟨gv,0,none⟩) V/\gv≠q/\w.heap.size+1<gv):=⟨iv.below hA,by have:=uH.2.2.1;omega,by have:=uH.2.2.1;omega⟩;clear hr hg iz io iv uH B1 G1 G2 R1 BA GA GB CA hA LL jD b3 g3 g4;obtain⟨d0,d1,d2,d3,d4⟩:=zc6 K3.X
 go_wp2_with fail
 clear d0 d1 d2 d3 d4;obtain⟨kc,Pc⟩:∃v,Zb (w3.heap.size=v):=⟨_,rfl⟩;rw[Pc.X]at K3 lP⊢;generalize(w3.alloc _)=W3 at*;refine(y69 (fun _=>True) q p3 c n fi g zl cg go ko co gv kv cv zs O V a bs W3 R3.X IZ.X.1 IO.X.1 IV.X.1 IZ.X.2.1 IO.X.2.1 IV.X.2.1 iT.X.1 iT.X.2.1 iT.X.2.2.1 (by omega) (by omega) (by omega) (by omega) yz3 (fun _ _=>trivial) (fun _ _ _=>trivial)).mono ?_;rintro e w5 ⟨rs,ls,R,L,rfl,KN,vH,Ko,JI,vW,⟨p5,rM⟩,ed,-,gh⟩;obtain⟨ra,rc,e⟩:=zp0 ed.r;subst e;obtain⟨la,lc,e⟩:=zp0 ed.l;subst e;have cu:Zb (R.length<=10/\(∀r∈R,r.ids.length<=9)/\L.length<=13/\(∀x∈L,-9223372036854775808<=x/\x<9223372036854775808)):=⟨KN,vH,Ko,JI⟩;obtain⟨nr,cY⟩:∃v,Zb (R.length=v):=⟨_,rfl⟩;obtain⟨m,HM⟩:∃v,Zb (L.length=v):=⟨_,rfl⟩;rw[cY.X,HM.X]at ed⊢;have dS:Zb (LN (zd0 n zs O V ko kv fi) (za la m lc)):=by rw[HM.X]at gh;exact gh
 have X5:Zb _:=CPX.new B3.X G3.X G4.X K3.X IZ.X IO.X IV.X ⟨La.X,za2 R3.X.1⟩ ⟨lP.X.1,lP.X.2⟩ vW ed;have R5:=hdn (rM.below ((y5 w5.heap.size w5).alloc (zT _) (zg #[za ra nr rc,za la m lc] 33)));clear KN vH Ko JI vW rM ed B3 G3 G4 K3 R3 IZ IO IV lP gh;obtain⟨d0,d1,d2,d3,d4⟩:=zc6 X5.X.k1
 go_wp2_with fail
 obtain⟨kp,y_⟩:∃v,Zb (w5.heap.size=v):=⟨_,rfl⟩;rw[y_.X]at X5⊢;generalize(w5.alloc _)=W5 at*;refine(y41 q _ c a bs _ R5.X).mono ?_;rintro e w4 ⟨sd,p4,rfl,-,-,lw,J0⟩;have X4:=hdn (X5.X.read J0);have R4:=hdn lw;clear J0 lw R5 X5 d0 d1 d2 d3 d4
 go_wp2_with fail
 refine(zk6 q _ c 20 a bs _ R4.X (by omega) (by omega)).mono ?_;rintro e w6 ⟨vb,p6,rfl,Je,rY⟩;have X6:Zb _:=X4.X.read rY;have R6:=hdn (Je);clear rY Je R4 X4;cases vb
 ·go_wp2_with fail
  refine qG (S:=(fun W=>(W.cell? ⟨kc,0,none⟩=some (ze zd n)/\W.cell? ⟨kc,1,none⟩=some (za (some ⟨g,0,none⟩) zl cg)/\W.cell? ⟨kc,2,none⟩=some (za (some ⟨go,0,none⟩) ko co)/\W.cell? ⟨kc,3,none⟩=some (za (some ⟨gv,0,none⟩) kv cv)/\W.cell? ⟨kc,4,none⟩=some (ze zd fi))/\W.cell? ⟨kp,0,none⟩=some (za ra nr rc)/\W.cell? ⟨kp,1,none⟩=some (za la m lc))) (by kernel_rfl) ?_ fun aa=> ?_
  ·exact(X6.X.below (y5 _ _).drew).keep2
  have hD:Za w6.heap.size w6 w6.drew:=(y5 _ _).drew;have XD:Zb _:=X6.X.below hD;have wM:=hdn (R6.X.below hD);clear hD X6 R6;generalize w6.drew=we at*;refine tkH 0 aa ?_;refine tkH 1 aa ?_;refine tkH 2 aa ?_;refine tkH 3 aa ?_;refine rdH 4 fun K hK=> ?_;go_simp;refine(zc5 q _ c 4 a bs _ wM.X (by omega)).mono ?_;rintro e w9 ⟨pl,p9,rfl,-,-,mi,AG⟩;have XE:Zb _:=XD.X.read AG;clear mi AG XD wM
  (try go_wp2_with fail)
  refine hoW hK XE.X.keep2 fun aa=> ?_;clear hK K;refine rdH 5 fun K hK=> ?_;obtain⟨y0,y1,y2,y3,y4⟩:=zc6 XE.X.z1;have yf:=fun i=>yZ _ _ i _ _ XE.X.z1;have XF:Zb _:=XE.X.putC (ze zd n) (za (some ⟨g,0,none⟩) zl cg) (za (some ⟨go,0,none⟩) ko co) (za (some ⟨gv,0,none⟩) kv cv) (ze zd fi);go_simp;refine hoW hK XF.X.keep2 fun aa=> ?_;clear hK K;generalize(((((w9.setCell ⟨w.heap.size,0,none⟩ _).setCell ⟨w.heap.size,1,none⟩ _).setCell ⟨w.heap.size,2,none⟩ _).setCell ⟨w.heap.size,3,none⟩ _).setCell ⟨w.heap.size,4,none⟩ _)=Wt at*;clear y0 y1 y2 y3 y4 yf XE;refine rdH 6 fun K hK=> ?_;obtain⟨y0,y1⟩:=za1 XF.X.z2;have yf:=fun i=>yZ _ _ i _ _ XF.X.z2;have XG:Zb _:=XF.X.putP (za ra nr rc) (za la m lc);go_simp;refine hoW hK XG.X.keep2 fun aa=> ?_;clear hK K;generalize((Wt.setCell ⟨w.heap.size+1,0,none⟩ _).setCell ⟨w.heap.size+1,1,none⟩ _)=Wu at*;clear XF;refine tkH 7 aa ?_;refine tkH 8 aa ?_;refine qF (by kernel_rfl) ?_ _;clear aa y0 y1 yf;obtain⟨b3,-,lS,ho⟩:=XG.X.po;go_wp2;refine xe (v:=.tuple #[.agg #[ze zd n,za (some ⟨g,0,none⟩) zl cg,za (some ⟨go,0,none⟩) ko co,za (some ⟨gv,0,none⟩) kv cv,ze zd fi],.agg #[za ra nr rc,za la m lc],ze zd sd,ze zd pl]) ?_ rfl ⟨n,g,zl,cg,go,ko,co,gv,kv,cv,zs,O,V,fi,_,_,R,L,sd,pl,rfl,⟨iT.X.1,iT.X.2.1,iT.X.2.2.1,iT.X.2.2.2.1,by have:=iT.X.2.2.2.2.1;omega,iT.X.2.2.2.2.2⟩,cu.X,XG.X.b,XG.X.i1,XG.X.i2,XG.X.i3,ho.base (by omega)⟩;have r1:=run_loadVar_row (P:=zh) _ w.heap.size 30 30 #[ze zd n,za (some ⟨g,0,none⟩) zl cg,za (some ⟨go,0,none⟩) ko co,za (some ⟨gv,0,none⟩) kv cv,ze zd fi] (0,0) _ XG.X.z1 Tryz.underlying30 rfl zJ2;have r2:=run_loadVar_row (P:=zh) _ (w.heap.size+1) 33 33 #[za ra nr rc,za la m lc] (0,0) _ XG.X.z2 Tryz.underlying33 rfl zI5;simp[results,Tryz.results6,asAddr,r1,r2]
 ·go_wp2_with fail
  refine qG (S:=(fun W=>(W.cell? ⟨kc,0,none⟩=some (ze zd n)/\W.cell? ⟨kc,1,none⟩=some (za (some ⟨g,0,none⟩) zl cg)/\W.cell? ⟨kc,2,none⟩=some (za (some ⟨go,0,none⟩) ko co)/\W.cell? ⟨kc,3,none⟩=some (za (some ⟨gv,0,none⟩) kv cv)/\W.cell? ⟨kc,4,none⟩=some (ze zd fi))/\W.cell? ⟨kp,0,none⟩=some (za ra nr rc)/\W.cell? ⟨kp,1,none⟩=some (za la m lc))) (by kernel_rfl) ?_ fun aa=> ?_
  ·exact(X6.X.below (y5 _ _).drew).keep2
  have hD:Za w6.heap.size w6 w6.drew:=(y5 _ _).drew;have XD:Zb _:=X6.X.below hD;have wM:=hdn (R6.X.below hD);clear hD X6 R6;generalize w6.drew=we at*;refine tkH 0 aa ?_;refine tkH 1 aa ?_;refine tkH 2 aa ?_;refine tkH 3 aa ?_;refine rdH 4 fun K hK=> ?_;go_simp;refine(zn5 q _ c 0 4 a bs _ wM.X (by omega) (by omega) (by omega) (by omega)).mono ?_;rintro e w9 ⟨pl,p9,rfl,-,-,mi,AG⟩;have XE:Zb _:=XD.X.read AG;clear mi AG XD wM
  (try go_wp2_with fail)
  refine hoW hK XE.X.keep2 fun aa=> ?_;clear hK K;refine rdH 5 fun K hK=> ?_;obtain⟨y0,y1,y2,y3,y4⟩:=zc6 XE.X.z1;have yf:=fun i=>yZ _ _ i _ _ XE.X.z1;have XF:Zb _:=XE.X.putC (ze zd n) (za (some ⟨g,0,none⟩) zl cg) (za (some ⟨go,0,none⟩) ko co) (za (some ⟨gv,0,none⟩) kv cv) (ze zd fi);go_simp;refine hoW hK XF.X.keep2 fun aa=> ?_;clear hK K;generalize(((((w9.setCell ⟨w.heap.size,0,none⟩ _).setCell ⟨w.heap.size,1,none⟩ _).setCell ⟨w.heap.size,2,none⟩ _).setCell ⟨w.heap.size,3,none⟩ _).setCell ⟨w.heap.size,4,none⟩ _)=Wt at*;clear y0 y1 y2 y3 y4 yf XE;refine rdH 6 fun K hK=> ?_;obtain⟨y0,y1⟩:=za1 XF.X.z2;have yf:=fun i=>yZ _ _ i _ _ XF.X.z2;have XG:Zb _:=XF.X.putP (za ra nr rc) (za la m lc);go_simp;refine hoW hK XG.X.keep2 fun aa=> ?_;clear hK K;generalize((Wt.setCell ⟨w.heap.size+1,0,none⟩ _).setCell ⟨w.heap.size+1,1,none⟩ _)=Wu at*;clear XF;refine tkH 7 aa ?_;refine tkH 8 aa ?_;refine qF (by kernel_rfl) ?_ _;clear aa y0 y1 yf;obtain⟨b3,-,lS,ho⟩:=XG.X.po;go_wp2;refine xe (v:=.tuple #[.agg #[ze zd n,za (some ⟨g,0,none⟩) zl cg,za (some ⟨go,0,none⟩) ko co,za (some ⟨gv,0,none⟩) kv cv,ze zd fi],.agg #[za ra nr rc,za la m lc],ze zd sd,ze zd pl]) ?_ rfl ⟨n,g,zl,cg,go,ko,co,gv,kv,cv,zs,O,V,fi,_,_,R,L,sd,pl,rfl,⟨iT.X.1,iT.X.2.1,iT.X.2.2.1,iT.X.2.2.2.1,by have:=iT.X.2.2.2.2.1;omega,iT.X.2.2.2.2.2⟩,cu.X,XG.X.b,XG.X.i1,XG.X.i2,XG.X.i3,ho.base (by omega)⟩;have r1:=run_loadVar_row (P:=zh) _ w.heap.size 30 30 #[ze zd n,za (some ⟨g,0,none⟩) zl cg,za (some ⟨go,0,none⟩) ko co,za (some ⟨gv,0,none⟩) kv cv,ze zd fi] (0,0) _ XG.X.z1 Tryz.underlying30 rfl zJ2;have r2:=run_loadVar_row (P:=zh) _ (w.heap.size+1) 33 33 #[za ra nr rc,za la m lc] (0,0) _ XG.X.z2 Tryz.underlying33 rfl zI5;simp[results,Tryz.results6,asAddr,r1,r2]
structure LQ(W:zi)(k:Nat)(ra:Option Addr)(nr rc:Nat)(la:Option Addr)(m lc:Nat)(R:List RT)(L:List Int):Prop where
 b:W.heap[k]? =some (zg #[za ra nr rc,za la m lc] 33 (0,0))
 r:za9 W ra R
 l:za3 W la L
theorem LQ.below{W W':zi}{k:Nat}{ra:Option Addr}{nr rc:Nat}{la:Option Addr}{m lc:Nat}{R:List RT}{L:List Int}(h:LQ W k ra nr rc la m lc R L)(hb:Za W.heap.size W W'):LQ W' k ra nr rc la m lc R L:=⟨za0 hb (za2 h.b) h.b,h.r.below hb,h.l.below hb⟩
theorem LQ.new{W:zi}{b:Nat}{ra:Option Addr}{nr rc:Nat}{la:Option Addr}{m lc:Nat}{R:List RT}{L:List Int}(h:PO W b (za ra nr rc) R (za la m lc) L)(hr:R.length=nr)(hl:L.length=m):LQ (W.alloc (zg #[za ra nr rc,za la m lc] 33)) W.heap.size ra nr rc la m lc R L:=by
 have hA:Za W.heap.size W (W.alloc (zg #[za ra nr rc,za la m lc] 33)):=zP _;exact⟨zS _ _,(zI6 h hr).below hA,(yB7 h hl).below hA⟩
theorem y79{L:List Int}(h:∀x∈L,-9223372036854775808<=x/\x<9223372036854775808):∀x∈L,(Lit.int zd x).wf=true:=fun x hx=>by
 have:=h x hx;show(decide (IntKind.i64.min<=x)&&decide (x<=IntKind.i64.max))=true;have h1:IntKind.i64.min= -9223372036854775808:=by decide
 have h2:IntKind.i64.max=9223372036854775807:=by decide
 rw[h1,h2];simp;omega
theorem yi5{W:zi}{b:Nat}{ra:Option Addr}{nr rc:Nat}{la:Option Addr}{m lc:Nat}{R:List RT}{L:List Int}(h:PO W b (za ra nr rc) R (za la m lc) L)(hr:R.length=nr)(hl:L.length=m):((ra=none/\nr=0)∨∃b off,ra=some ⟨b,off,none⟩)/\((la=none/\m=0)∨∃b off,la=some ⟨b,off,none⟩):=by
 have h1:=own_kinds h.r;have h2:=own_kinds h.l;rw[hr]at h1;rw[hl]at h2;refine⟨?_,?_⟩
 ·rcases h1 with⟨h1,h2⟩|⟨b,c2,h1,_⟩
  ·exact .inl ⟨by injection h1,h2⟩
  ·exact .inr ⟨b,0,by injection h1⟩
 ·rcases h2 with⟨h1,h2⟩|⟨b,c2,h1,_⟩
  ·exact .inl ⟨by injection h1,h2⟩
  ·exact .inr ⟨b,0,by injection h1⟩
def lvR(R:List RT)(id:Int):List RT:=(R.map fun r=>{r with ids:=cutP r.ids id}).filter fun r=>decide (r.ids≠[])
theorem zQ0(A B:List RT)(id:Int):lvR (A++B) id=lvR A id++lvR B id:=by simp[lvR]
theorem yf5:∀(R:List RT) (id:Int),(∀r∈R,id∉r.ids/\r.ids≠[])->lvR R id=R
 |[],_,_=>rfl
 |r::R,id,h=>by
  have h1:=h r (yB ..);have h2:=yf5 R id (fun x hx=>h x (yt _ hx));have e:({r with ids:=cutP r.ids id}:RT)=r:=by rw[yk2 h1.1]
  unfold lvR at*;rw[xH,e,yD (by simpa using h1.2),h2]
theorem y87(A B:List Int)(id:Int):cutP (A++B) id=cutP A id++cutP B id:=by simp[cutP]
theorem yu9:∀(R:List RT) (id:Int),(lvR R id).flatMap RT.ids=cutP (R.flatMap RT.ids) id
 |[],_=>rfl
 |r::R,id=>by
  rw[jc,y87,<-yu9 R id,<-List.singleton_append,zQ0,xW]
  congr 1
  unfold lvR;by_cases h:cutP r.ids id=[]
  ·rw[xH,xK,qZ (by simpa using h),h];rfl
  ·rw[xH,xK,yD (by simpa using h)];simp
theorem zb8(R:List RT):zb0 R R.length=R.flatMap RT.ids:=by unfold zb0;rw[ym]
theorem yg3(R:List RT)(id:Int):zb0 (lvR R id) (lvR R id).length=cutP (zb0 R R.length) id:=by rw[zb8,zb8,yu9]
theorem yy8{R:List RT}{id:Int}{r:RT}(h:r∈lvR R id):r.ids≠[]:=zZ (qi.1 h).2
theorem zR4(R:List RT)(id:Int):(lvR R id).length<=R.length:=by
 have:=yp (fun r:RT=>decide (r.ids≠[])) (R.map fun r=>{r with ids:=cutP r.ids id});rw[qz]at this;exact this
theorem zU5{R:List RT}{id:Int}{m:Nat}(h:∀r∈R,r.ids.length<=m):∀r∈lvR R id,r.ids.length<=m:=fun r hr=>by
 obtain⟨x,hx,rfl⟩:=yF.1 (qi.1 hr).1;exact xj (y06 _ _) (h x hx)
theorem ze9{R:List RT}(h:R.Pairwise (fun a b=>a.v<b.v)):zf7 R:=fun j h1 h2=>by
 have h3:=(yy.1 h) (j - 1) j (by omega) h2 (by omega);simpa[zQ,zR h2,zR (show j - 1<R.length by omega)]using h3
theorem z49{R:List RT}(h:zf7 R)(id:Int):zf7 (lvR R id):=
 ze9 (List.Pairwise.filter _ (List.pairwise_map.2 h.pw))
theorem z39{R:List RT}{k:Nat}(hk:k<R.length):R=R.take k++(R.getD k rt0::R.drop (k+1)):=by
 conv=>lhs;rw[<-q7 k R]
 rw[List.drop_eq_getElem_cons hk];simp[zQ,hk]
theorem y46{R:List RT}{k:Nat}(hS:zf7 R)(hk:k<R.length):y30 R (R.getD k rt0).v k:=
 ⟨by omega,fun j hj=>by
   have:=hS.lt (k - j - 1) j (by omega);rw[show j+(k - j - 1)+1=k by omega]at this;exact this,fun j h1 h2=>hS.le h1 h2⟩
theorem yD4{R:List RT}{k:Nat}(hS:zf7 R)(hk:k<R.length)(a:Option Addr)(M:List Int)(c:Nat):wrL R ⟨(R.getD k rt0).v,a,M,c⟩=R.take k++((if M=[]then []else [⟨(R.getD k rt0).v,a,M,c⟩])++R.drop (k+1)):=by
 have h:=yB3 (r:=⟨(R.getD k rt0).v,a,M,c⟩) hS (y46 hS hk);have e:yr5 R (R.getD k rt0).v k=1:=by unfold yr5 yo3;rw[z7 (zW ⟨hk,rfl⟩)]
 simp only[e]at h;exact h
theorem y50{R:List RT}{k:Nat}{id:Int}(hk:k<R.length)(aq:∀r∈R,r.ids≠[])(cK:(zb0 R R.length).Nodup)(cz:id∈(R.getD k rt0).ids):lvR R id=R.take k++((if cutP (R.getD k rt0).ids id=[]then []else [{R.getD k rt0 with ids:=cutP (R.getD k rt0).ids id}])++R.drop (k+1)):=by
 have hs:=z39 hk;rw[zb8]at cK;generalize R.getD k rt0=r at*;generalize R.take k=A at*;generalize R.drop (k+1)=B at*;subst hs;rw[xW,jc,yJ]at cK;obtain⟨_,h2,h3⟩:=cK;rw[yJ]at h2;obtain⟨_,_,h4⟩:=h2;have hA:∀x∈A,id∉x.ids/\x.ids≠[]:=fun x hx=>⟨fun e=>h3 id (jb.2 ⟨x,hx,e⟩) id (List.mem_append_left _ cz) rfl,aq x (List.mem_append_left _ hx)⟩;have hB:∀x∈B,id∉x.ids/\x.ids≠[]:=fun x hx=>⟨fun e=>h4 id cz id (jb.2 ⟨x,hx,e⟩) rfl,aq x (List.mem_append_right _ (yt _ hx))⟩;rw[<-List.singleton_append,zQ0,zQ0,yf5 A id hA,yf5 B id hB]
 congr 2
 unfold lvR;by_cases h:cutP r.ids id=[]
 ·rw[xH,xK,qZ (by simpa using h),z7 h];rfl
 ·rw[xH,xK,yD (by simpa using h),ye h];rfl
theorem zt0{R:List RT}{k:Nat}(hk:k<R.length)(cK:(zb0 R R.length).Nodup):(R.getD k rt0).ids.Nodup:=by
 rw[zb8]at cK;have hs:=z39 hk;rw[hs,xW,jc]at cK;exact(yJ.1 (yJ.1 cK).2.1).1
theorem zx3(l:List Int)(i:Nat)(h:i<l.length):l.getD i 0∈l:=by
 rw[zQ,zR h];exact List.getElem_mem _
theorem zN9{R:List RT}{k at_:Nat}{id:Int}(hS:zf7 R)(hk:k<R.length)(aq:∀r∈R,r.ids≠[])(cK:(zb0 R R.length).Nodup)(be:at_<(R.getD k rt0).ids.length)(cz:(R.getD k rt0).ids.getD at_ 0=id)(a:Option Addr)(c:Nat):(wrL R ⟨(R.getD k rt0).v,a,zl2 (R.getD k rt0).ids at_,c⟩).map RT.key=(lvR R id).map RT.key:=by
 have hm:id∈(R.getD k rt0).ids:=by
  rw[<-cz];exact zx3 _ _ be
 have e:zl2 (R.getD k rt0).ids at_=cutP (R.getD k rt0).ids id:=by rw[<-cz,zR6 (zt0 hk cK) be]
 rw[yD4 hS hk,y50 hk aq cK hm,e];generalize cutP (R.getD k rt0).ids id=M;by_cases h:M=[]
 ·rw[z7 h,z7 h]
 ·rw[ye h,ye h]
  simp[RT.key]
theorem yp8{R:List RT}{k:Nat}{id:Int}(hS:zf7 R)(hk:k<R.length)(aq:∀r∈R,r.ids≠[])(cK:(zb0 R R.length).Nodup)(hm:id∈(R.getD k rt0).ids)(hc:cutP (R.getD k rt0).ids id≠[])(a:Option Addr)(c:Nat):(setL R ⟨(R.getD k rt0).v,a,cutP (R.getD k rt0).ids id,c⟩).map RT.key=(lvR R id).map RT.key:=by
 rw[z66 hS hc,yD4 hS hk,y50 hk aq cK hm,ye hc,ye hc];simp[RT.key]
theorem yn8{R:List RT}{k:Nat}{id:Int}(hS:zf7 R)(hk:k<R.length)(aq:∀r∈R,r.ids≠[])(cK:(zb0 R R.length).Nodup)(hm:id∈(R.getD k rt0).ids)(hc:cutP (R.getD k rt0).ids id=[]):R.filter (fun x=>decide (x.v≠(R.getD k rt0).v))=lvR R id:=by
 rw[y50 hk aq cK hm,z7 hc,yw];have hp:=hS.pw;have hs:=z39 hk;generalize R.getD k rt0=r at*;generalize R.take k=A at*;generalize R.drop (k+1)=B at*;subst hs;obtain⟨_,h2,h3⟩:=List.pairwise_append.1 hp;obtain⟨h4,_⟩:=yO.1 h2;rw[yP,qZ (by simp)]
 congr 1
 ·exact yC.2 (fun x hx=>zW (by have:=h3 x hx r (yB ..);omega))
 ·exact yC.2 (fun x hx=>zW (by have:=h4 x hx;omega))
theorem y91{L:List Int}{x:Int}{k:Nat}(h:AtI L x k):insL L k x=zz3 L x:=zP7 L x k h.le h.lo (fun hk hn=>by have:=h.hi k (zT _) hk;omega)
theorem yf7{L:List Int}(h:L.Pairwise (· <·)):UpI L:=fun i j lN hj=>by
 by_cases e:i=j
 ·rw[e];exact Int.le_refl _
 ·have:=y25 h (show i<j by omega) hj
  omega
def pkd(S P:List Int)(j:Nat):Int:=S.getD (P.getD j 0).toNat 0
theorem y08{R R':List RT}(h:R'.map RT.key=R.map RT.key){r:RT}(hr:r∈R'):∃x∈R,x.key=r.key:=by
 have:r.key∈R.map RT.key:=by rw[<-h];exact yF.2 ⟨r,hr,rfl⟩
 obtain⟨x,hx,e⟩:=yF.1 this;exact⟨x,hx,e⟩
theorem z52{R R':List RT}(h:R'.map RT.key=R.map RT.key):R'.flatMap RT.ids=R.flatMap RT.ids:=by
 have e:∀X:List RT,X.flatMap RT.ids=(X.map RT.key).flatMap Prod.snd:=fun X=>by rw[List.flatMap_map];rfl
 rw[e,e,h]
theorem yA8{R R':List RT}(h:R'.map RT.key=R.map RT.key)(hp:R.Pairwise (fun a b=>a.v<b.v)):R'.Pairwise (fun a b=>a.v<b.v):=by
 have e:∀X:List RT,X.Pairwise (fun a b=>a.v<b.v)↔(X.map RT.key).Pairwise (fun a b=>a.1<b.1):=fun X=>by rw[List.pairwise_map];rfl
 rw[e,h,<-e];exact hp
theorem zF2{R R':List RT}(h:R'.map RT.key=R.map RT.key)(id:Int):(lvR R' id).map RT.key=(lvR R id).map RT.key:=by
 have e:∀X:List RT,(lvR X id).map RT.key=((X.map RT.key).map (fun p=>(p.1,cutP p.2 id))).filter (fun p=>decide (p.2≠[])):=fun X=>by
  induction X with
  |nil=>rfl
  |cons r X ih=>
   rw[<-List.singleton_append,zQ0,qJ,ih,qJ,qJ,yP]
   congr 1
   unfold lvR;by_cases hc:cutP r.ids id=[]<;>simp[RT.key,hc]
 rw[e,e,h]
structure LvI(S P:List Int)(l0 i:Nat)(R:List RT)(L:List Int):Prop where
 rs:zf7 R
 ne:∀r∈R,r.ids≠[]
 nd:(zb0 R R.length).Nodup
 sm:∀r∈R,r.ids.length<=12
 ln:R.length<=100
 up:L.Pairwise (· <·)
 ll:L.length=l0+i
 mm:∀j,i<=j->j<P.length->pkd S P j∈zb0 R R.length
 nl:∀x∈zb0 R R.length,x∉L
theorem LvI.key{S P:List Int}{l0 i:Nat}{R R':List RT}{L:List Int}(h:LvI S P l0 i R L)(hk:R'.map RT.key=R.map RT.key):LvI S P l0 i R' L:=by
 have ea:zb0 R' R'.length=zb0 R R.length:=by rw[zb8,zb8,z52 hk]
 have el:R'.length=R.length:=by have:=congrArg List.length hk;simpa using this
 refine⟨ze9 (yA8 hk h.rs.pw),fun r hr=> ?_,by rw[ea];exact h.nd,fun r hr=> ?_,by rw[el];exact h.ln,h.up,h.ll,fun j h1 h2=>by rw[ea];exact h.mm j h1 h2,fun x hx=>h.nl x (by rw[<-ea];exact hx)⟩
 ·obtain⟨x,hx,e⟩:=y08 hk hr
  have:x.ids=r.ids:=congrArg Prod.snd e;rw[<-this];exact h.ne x hx
 ·obtain⟨x,hx,e⟩:=y08 hk hr
  have:x.ids=r.ids:=congrArg Prod.snd e;rw[<-this];exact h.sm x hx
theorem LvI.step{S P:List Int}{l0 i:Nat}{R:List RT}{L:List Int}(hd:∀i j,i<j->j<P.length->pkd S P i≠pkd S P j)(h:LvI S P l0 i R L)(hi:i<P.length):LvI S P l0 (i+1) (lvR R (pkd S P i)) (zz3 L (pkd S P i)):=by
 have hx:=h.mm i (zT _) hi;refine⟨z49 h.rs _,fun r hr=>yy8 hr,?_,zU5 h.sm,xj (zR4 _ _) h.ln,zE8 L _ h.up (h.nl _ hx),by rw[z47,h.ll];omega,fun j h1 h2=> ?_,fun x lV hm=> ?_⟩
 ·rw[yg3]
  exact List.Pairwise.filter _ h.nd
 ·rw[yg3]
  refine qi.2 ⟨h.mm j (by omega) h2,?_⟩;have:=hd i j (by omega) h2;simp;exact fun e=>this e.symm
 ·rw[yg3]at lV
  obtain⟨h1,h2⟩:=qi.1 lV;rcases(zy8 L _ x).1 hm with e|e
  ·simp at h2;exact h2 e
  ·exact h.nl x h1 e
theorem zt5{l:List Int}{x:Int}(h:x∈l):∃i,i<l.length/\l.getD i 0=x:=by
 obtain⟨i,hi,e⟩:=xU h;exact⟨i,hi,by rw[zQ,zR hi,e];rfl⟩
theorem zt4{l:List Int}(h:l.Nodup){i j:Nat}(lN:i<j)(hj:j<l.length):l.getD i 0≠l.getD j 0:=by
 have:=(yy.1 h) i j (by omega) hj lN;simpa[zQ,zR hj,zR (show i<l.length by omega)]using this
theorem LvI.at{S P:List Int}{l0 i:Nat}{R:List RT}{L:List Int}(h:LvI S P l0 i R L){x:Int}(hx:x∈zb0 R R.length):
 ∃k at_:Nat,k<R.length/\(∀j,j<k->zC0 (R.getD j rt0).ids (R.getD j rt0).ids.length x<0)/\zC0 (R.getD k rt0).ids (R.getD k rt0).ids.length x=at_/\at_<(R.getD k rt0).ids.length/\(R.getD k rt0).ids.getD at_ 0=x:=by
 have Ju:=hx;rw[zb8]at Ju;obtain⟨r,hr,pz⟩:=jb.1 Ju;obtain⟨k,hk,e⟩:=zo3 hr;rw[<-e]at pz;obtain⟨a,ha,ea⟩:=zt5 pz;have hn:=zt0 hk h.nd;refine⟨k,a,hk,fun j hj=> ?_,?_,ha,ea⟩
 ·have cK:=h.nd
  rw[zb8]at cK;have hs:=z39 hk;rw[hs,xW,jc,yJ]at cK;have a_:x∉(R.getD j rt0).ids:=fun hm=>by
   have nF:R.getD j rt0∈R.take k:=by
    rw[zQ,zR (show j<R.length by omega)];exact List.mem_take_iff_getElem.2 ⟨j,by omega,rfl⟩
   exact cK.2.2 x (jb.2 ⟨_,nF,hm⟩) x (List.mem_append_left _ pz) rfl
  rw[zE5 (fun t ht e9=>a_ (by rw[<-e9];exact zx3 _ _ ht))];omega
 ·exact zP5 ha ea (fun j hj e9=>zt4 hn hj ha (by rw[e9,ea]))
theorem zZ1(x:RT)(R:List RT)(v:Int):zc7 (x::R) v=if x.v=v then x else zc7 R v:=by
 unfold zc7;by_cases h:x.v=v
 ·rw[z7 h,List.find?_cons_of_pos (by simp[h])];rfl
 ·rw[ye h,List.find?_cons_of_neg (by simp[h])]
theorem zn3:∀{R:List RT} {v:Int},(∀x∈R,x.v≠v)->zc7 R v=⟨v,none,[],0⟩
 |[],_,_=>rfl
 |x::R,v,h=>by
  rw[zZ1,ye (h x (yB ..))];exact zn3 (fun y hy=>h y (yt _ hy))
theorem zf6:∀{R:List RT} {x:RT},R.Pairwise (fun a b=>a.v<b.v)->x∈R->zc7 R x.v=x
 |y::R,x,hp,hx=>by
  rw[zZ1];obtain⟨h1,h2⟩:=yO.1 hp;rcases yx.1 hx with e|hx
  ·subst e;rw[z7 rfl]
  ·have:=h1 x hx
   rw[ye (by omega)];exact zf6 h2 hx
theorem yf8:∀{R:List RT} (_:R.Pairwise (fun a b=>a.v<b.v)) (v:Int),∃E,R=R.filter (fun x=>decide (x.v<v))++(E++R.filter (fun x=>decide (v<x.v)))/\((E=[]/\∀x∈R,x.v≠v)∨∃x,E=[x]/\x.v=v/\x∈R)
 |[],_,_=>⟨[],rfl,.inl ⟨rfl,fun x hx=>by cases hx⟩⟩
 |x::R,hp,v=>by
  obtain⟨h1,h2⟩:=yO.1 hp;rcases Int.lt_trichotomy x.v v with h|h|h
  ·obtain⟨E,he,hE⟩:=yf8 h2 v
   refine⟨E,?_,?_⟩
   ·rw[yD (p:=fun x:RT=>decide (x.v<v)) (zW h),qZ (p:=fun x:RT=>decide (v<x.v)) (fun h9=>by have:=zZ h9;omega),yW,<-he]
   ·rcases hE with⟨e,hn⟩|⟨y,e,hy,hm⟩
    ·exact .inl ⟨e,fun z hz=>by
      rcases yx.1 hz with e9|hz
      ·subst e9;omega
      ·exact hn z hz⟩
    ·exact .inr ⟨y,e,hy,yt _ hm⟩
  ·have an:R.filter (fun x=>decide (x.v<v))=[]:=ja.2 (fun y hy h9=>by have:=zZ h9;have:=h1 y hy;omega)
   have lG:R.filter (fun x=>decide (v<x.v))=R:=yC.2 (fun y hy=>zW (by have:=h1 y hy;omega));refine⟨[x],?_,.inr ⟨x,rfl,h,yB ..⟩⟩;rw[qZ (p:=fun x:RT=>decide (x.v<v)) (fun h9=>by have:=zZ h9;omega),qZ (p:=fun x:RT=>decide (v<x.v)) (fun h9=>by have:=zZ h9;omega),an,lG];rfl
  ·have an:(x::R).filter (fun x=>decide (x.v<v))=[]:=ja.2 (fun y hy h9=>by
    have:=zZ h9;rcases yx.1 hy with e|hy
    ·subst e;omega
    ·have:=h1 y hy;omega)
   have lT:∀y∈x::R,v<y.v:=fun y hy=>by
    rcases yx.1 hy with e|hy
    ·subst e;exact h
    ·have:=h1 y hy;omega
   have lG:=yC.2 (fun y hy=>zW (lT y hy));refine⟨[],?_,.inl ⟨rfl,fun y hy=>by have:=lT y hy;omega⟩⟩;rw[an,lG];rfl
theorem zy1{R:List RT}{r x:RT}:x∈wrL R r↔(x∈R/\x.v≠r.v)∨(x=r/\r.ids≠[]):=by
 unfold wrL;rw[yj,yj,qi,qi];by_cases h:r.ids=[]
 ·simp[h]
  constructor
  ·rintro(⟨h1,h2⟩|⟨h1,h2⟩)
   ·exact⟨h1,by omega⟩
   ·exact⟨h1,by omega⟩
  ·rintro⟨h1,h2⟩
   by_cases h3:x.v<r.v
   ·exact .inl ⟨h1,h3⟩
   ·exact .inr ⟨h1,by omega⟩
 ·simp[h]
  constructor
  ·rintro(⟨h1,h2⟩|h1|⟨h1,h2⟩)
   ·exact .inl ⟨h1,by omega⟩
   ·exact .inr h1
   ·exact .inl ⟨h1,by omega⟩
  ·rintro(⟨h1,h2⟩|h1)
   ·by_cases h3:x.v<r.v
    ·exact .inl ⟨h1,h3⟩
    ·exact .inr (.inr ⟨h1,by omega⟩)
   ·exact .inr (.inl h1)
theorem zK9{R:List RT}{r:RT}(hp:R.Pairwise (fun a b=>a.v<b.v)):(wrL R r).Pairwise (fun a b=>a.v<b.v):=by
 unfold wrL;rw[List.pairwise_append,List.pairwise_append];refine⟨hp.filter _,⟨?_,hp.filter _,fun a ha b hb=> ?_⟩,fun a ha b hb=> ?_⟩
 ·split<;>simp
 ·have h2:=zZ (qi.1 hb).2
  split at ha
  ·cases ha
  ·have:a=r:=by simpa using ha
   rw[this];exact h2
 ·have h1:=zZ (qi.1 ha).2
  rcases yj.1 hb with h|h
  ·split at h
   ·cases h
   ·have:b=r:=by simpa using h
    rw[this];exact h1
  ·have h2:=zZ (qi.1 h).2
   omega
theorem z30{R:List RT}{r:RT}(hp:R.Pairwise (fun a b=>a.v<b.v))(v:Int):(v=r.v->(zc7 (wrL R r) v).ids=r.ids)/\(v≠r.v->zc7 (wrL R r) v=zc7 R v):=by
 have hq:=zK9 (r:=r) hp;refine⟨fun e=> ?_,fun hv=> ?_⟩
 ·subst e
  by_cases h:r.ids=[]
  ·rw[zn3 (fun x hx=> ?_),h]
   rcases zy1.1 hx with⟨_,h2⟩|⟨_,h2⟩
   ·exact h2
   ·exact absurd h h2
  ·rw[zf6 hq (zy1.2 (.inr ⟨rfl,h⟩))]
 ·by_cases hm:∃x∈R,x.v=v
  ·obtain⟨x,hx,e⟩:=hm
   subst e;rw[zf6 hp hx,zf6 hq (zy1.2 (.inl ⟨hx,hv⟩))]
  ·have hn:∀x∈R,x.v≠v:=fun x hx e=>hm ⟨x,hx,e⟩
   rw[zn3 hn,zn3 (fun x hx=> ?_)];rcases zy1.1 hx with⟨h1,_⟩|⟨h1,_⟩
   ·exact hn x h1
   ·rw[h1];exact fun e=>hv e.symm
theorem yg0{R:List RT}{r:RT}(f:RT->Int)(hp:R.Pairwise (fun a b=>a.v<b.v))(hr:r.ids=[]->f r=0)(h0:f ⟨r.v,none,[],0⟩=0):((wrL R r).map f).sum=(R.map f).sum - f (zc7 R r.v)+f r:=by
 obtain⟨E,he,hE⟩:=yf8 hp r.v;have h1:(R.map f).sum=((R.filter (fun x=>decide (x.v<r.v))).map f).sum+((E.map f).sum+((R.filter (fun x=>decide (r.v<x.v))).map f).sum):=by
  conv=>lhs;rw[he]
  simp only[qJ,List.sum_append]
 have h2:(E.map f).sum=f (zc7 R r.v):=by
  rcases hE with⟨e,hn⟩|⟨x,e,hx,hm⟩
  ·rw[e,zn3 hn,h0];rfl
  ·rw[e,<-hx,zf6 hp hm];simp
 have h3:((wrL R r).map f).sum=((R.filter (fun x=>decide (x.v<r.v))).map f).sum+(f r+((R.filter (fun x=>decide (r.v<x.v))).map f).sum):=by
  unfold wrL;simp only[qJ,List.sum_append];split
  ·rename_i h;rw[hr h];simp
  ·simp
 rw[h3,h1,h2];omega
theorem z42{R:List RT}{r:RT}(hp:R.Pairwise (fun a b=>a.v<b.v)):((wrL R r).flatMap RT.ids++(zc7 R r.v).ids).Perm (R.flatMap RT.ids++r.ids):=by
 obtain⟨E,he,hE⟩:=yf8 hp r.v;have h2:E.flatMap RT.ids=(zc7 R r.v).ids:=by
  rcases hE with⟨e,hn⟩|⟨x,e,hx,hm⟩
  ·rw[e,zn3 hn];rfl
  ·rw[e,<-hx,zf6 hp hm];simp
 have h3:(wrL R r).flatMap RT.ids=(R.filter (fun x=>decide (x.v<r.v))).flatMap RT.ids++(r.ids++(R.filter (fun x=>decide (r.v<x.v))).flatMap RT.ids):=by
  unfold wrL;simp only[xW];split
  ·rename_i h;rw[h];simp
  ·simp
 have h1:R.flatMap RT.ids=(R.filter (fun x=>decide (x.v<r.v))).flatMap RT.ids++((zc7 R r.v).ids++(R.filter (fun x=>decide (r.v<x.v))).flatMap RT.ids):=by
  conv=>lhs;rw[he]
  simp only[xW,h2]
 rw[h3,h1];generalize(R.filter (fun x=>decide (x.v<r.v))).flatMap RT.ids=A;generalize(R.filter (fun x=>decide (r.v<x.v))).flatMap RT.ids=B;generalize(zc7 R r.v).ids=C;rw[yi,yi,yi,yi];refine je A ?_;have p1:(r.ids++(B++C)).Perm ((B++C)++r.ids):=List.perm_append_comm;refine p1.trans ?_;rw[<-yi];exact List.Perm.append_right _ List.perm_append_comm
theorem yj5{n:Int}{zs:List Int}(h:zq9 n zs=true){x:Int}(hx:0<=x/\x<n):tmI n zs x x=0:=by
 obtain⟨h1,h2,h3,h4⟩:=zm1 h;unfold tmI;obtain⟨m,rfl⟩:=xp (show 0<=n by omega);obtain⟨y,rfl⟩:=xp hx.1;have hy:y<m:=by omega
 have hm:0<m:=by omega
 simp only[yu]at h4⊢;have hd:(y*m+y) / m=y:=by
  rw[Nat.mul_comm,Nat.mul_add_div hm,Nat.div_eq_of_lt hy,Nat.add_zero]
 have hr:(y*m+y) % m=y:=by
  rw[Nat.mul_comm,Nat.mul_add_mod,Nat.mod_eq_of_lt hy]
 by_cases hl:y*m+y<zs.length
 ·exact(h4 _ hl).2.2 (by rw[hd,hr])
 ·rw[zQ,yg (by omega)]
  rfl
theorem yb4{n:Int}{zs os vs:List Int}{ko kv:Nat}{fine:Int}(hc:zd0 n zs os vs ko kv fine=true)(v:Int):0<=zc4 vs kv v 1/\zc4 vs kv v 1<n:=by
 obtain⟨_,_,h3,h4,_⟩:=zb2 hc;exact(zr5 h3 h4 v).1
theorem zW5{n:Int}{zs ros:List Int}(hz:zq9 n zs=true){home:Int}(hh:0<=home/\home<n):zq7 n zs ros 0 home=0:=by
 unfold zq7;simp only[zr1,plc,yj5 hz hh];rfl
theorem zC7{n:Int}{zs os vs:List Int}{ko kv:Nat}{fine:Int}(hc:zd0 n zs os vs ko kv fine=true){r:RT}(hr:r.ids=[]):zm0 n zs os vs ko kv r=0:=by
 unfold zm0;rw[hr];exact zW5 (zb2 hc).1 (yb4 hc _)
theorem yK1{n:Int}{zs os vs:List Int}{ko kv:Nat}{fine:Int}(hc:zd0 n zs os vs ko kv fine=true)(v:Int):rcV n zs os vs ko kv v []=0:=by
 unfold rcV;split
 ·exact zW5 (zb2 hc).1 (yb4 hc _)
 ·rfl
theorem y71{n:Int}{vs:List Int}{kv:Nat}(h:zx9 n vs kv=true){v:Int}(hv:fnd5T vs kv v=true):zc4 vs kv v 3<=zc4 vs kv v 4:=by
 unfold fnd5T at hv;unfold zc4;cases hf:yb2 vs kv v with
 |none=>rw[hf]at hv;cases hv
 |some i=>
  have hi:i<kv:=by
   unfold yb2 at hf;rw[yA]at hf;have:=hf.2.1;simpa using this
  have:=((zf2 h).2 i hi).1;unfold zL5 zx4 zh9 at this;simp only[zY]at this;obtain⟨_,⟨_,_⟩,_,h4⟩:=this;exact(zc8 h4).1
theorem y92{n:Int}{zs os vs:List Int}{ko kv:Nat}{fine:Int}(hc:zd0 n zs os vs ko kv fine=true){v:Int}(hv:fnd5T vs kv v=true):codeV true n zs os vs ko kv v []=0:=by
 obtain⟨h1,_,h3,h4,_⟩:=zb2 hc;have hb:=zr5 h3 h4 v;have hs:zp2 os ko []=true:=z71 (by simp) (fun j hj=>by simp at hj);have hf:zm7 true vs os kv ko v []=0:=by
  unfold zm7;rw[ye (by simp),ye (by rw[hv];simp),ye (by rw[hs];simp),ye (by simp only[List.length_nil,zn0];omega)]
 rw[zu6 hf];unfold zw0;rw[z7 (fun j hj=>by simp at hj)];have ht:=yj5 h1 (yb4 hc v);have:=y71 h3 hv;rw[ye];unfold homeV;simp only[List.length_nil,zz0,plc,ht];omega
theorem zh3{n:Int}{zs os vs:List Int}{ko kv:Nat}{R:List RT}:zi4 n zs os vs ko kv R R.length↔R.Pairwise (fun a b=>a.v<b.v)/\∀r∈R,r.ids≠[]/\codeV true n zs os vs ko kv r.v r.ids=0:=by
 constructor
 ·intro h
  refine⟨zf7.pw (fun j h1 h2=>(h j h2).1 h1),fun r hr=> ?_⟩;obtain⟨j,hj,e⟩:=zo3 hr;rw[<-e];exact(h j hj).2
 ·rintro⟨h1,h2⟩ j hj
  exact⟨fun h0=>ze9 h1 j h0 hj,h2 _ (zh7 hj)⟩
theorem zU3(n:Int)(zs os vs:List Int)(ko kv:Nat)(R:List RT)(z:Int):∀k,k<=R.length->zi3 n zs os vs ko kv R z k=z+((R.take k).map (zm0 n zs os vs ko kv)).sum
 |0,_=>by simp[zi3]
 |k+1,hk=>by
  have e:R.getD k rt0=R[k]:=by simp[List.getD,show k<R.length by omega]
  rw[zi3,zU3 n zs os vs ko kv R z k (by omega),yq (by omega),qJ,List.sum_append,e];simp;omega
theorem z63(n:Int)(zs os vs:List Int)(ko kv:Nat)(R:List RT)(z:Int):zi3 n zs os vs ko kv R z R.length=z+(R.map (zm0 n zs os vs ko kv)).sum:=by
 rw[zU3 n zs os vs ko kv R z _ (zT _),ym]
theorem z58:∀{l:List Int} {x:Int},l.Nodup->x∈l->l.Perm (x::cutP l x)
 |a::l,x,hn,hm=>by
  obtain⟨h1,h2⟩:=yY.1 hn;by_cases e:a=x
  ·subst e
   have:cutP (a::l) a=l:=by
    unfold cutP;rw[qZ (by simp)];exact yC.2 (fun y hy=>by simp;exact fun e=>h1 (e▸hy))
   rw[this]
  ·have lA:x∈l:=by
    rcases yx.1 hm with h|h
    ·exact absurd h.symm e
    ·exact h
   have ih:=z58 h2 lA;have e2:cutP (a::l) x=a::cutP l x:=by
    unfold cutP;rw[yD (by simp[e])]
   rw[e2];exact(List.Perm.cons a ih).trans (List.Perm.swap x a _)
theorem zG6(l:List Int)(i:Nat)(x:Int):(insL l i x).Perm (x::l):=by
 unfold insL;have:=List.perm_middle (a:=x) (l₁:=l.take i) (l₂:=l.drop i);rw[q7]at this;exact this
theorem y04{R:List RT}{k:Nat}{id:Int}(hS:zf7 R)(hk:k<R.length)(aq:∀r∈R,r.ids≠[])(cK:(zb0 R R.length).Nodup)(cz:id∈(R.getD k rt0).ids):lvR R id=wrL R ⟨(R.getD k rt0).v,(R.getD k rt0).a,cutP (R.getD k rt0).ids id,(R.getD k rt0).c⟩:=
 (y50 hk aq cK cz).trans (yD4 hS hk _ _ _).symm
theorem yL6{n:Int}{zs os vs:List Int}{ko kv:Nat}{fine:Int}{R:List RT}{L:List Int}(h:zc1 n zs os vs ko kv fine R L=0){k:Nat}(hk:k<R.length){id:Int}(cz:id∈(R.getD k rt0).ids)(at_:Nat)(r2:RT)(hs:r2.ids=insL (zc7 (lvR R id) r2.v).ids at_ id):
 (zc1 n zs os vs ko kv fine (wrL (lvR R id) r2) L=0↔codeV true n zs os vs ko kv (R.getD k rt0).v (zc7 (wrL (lvR R id) r2) (R.getD k rt0).v).ids=0/\codeV true n zs os vs ko kv r2.v r2.ids=0)∧
 (zc1 n zs os vs ko kv fine (wrL (lvR R id) r2) L=0->∀z,zi3 n zs os vs ko kv (wrL (lvR R id) r2) z (wrL (lvR R id) r2).length - zi3 n zs os vs ko kv R z R.length=if(R.getD k rt0).v=r2.v then rcV n zs os vs ko kv r2.v r2.ids - rcV n zs os vs ko kv r2.v (zc7 R r2.v).ids else(rcV n zs os vs ko kv (R.getD k rt0).v (zc7 (wrL (lvR R id) r2) (R.getD k rt0).v).ids - rcV n zs os vs ko kv (R.getD k rt0).v (zc7 R (R.getD k rt0).v).ids)+(rcV n zs os vs ko kv r2.v r2.ids - rcV n zs os vs ko kv r2.v (zc7 R r2.v).ids)):=by
 obtain⟨hc,hr,ho,hl,hn⟩:=zb7 h;obtain⟨hp,aP⟩:=zh3.1 hr;have hS:=ze9 hp;have aq:∀r∈R,r.ids≠[]:=fun r hr=>(aP r hr).1;have Av:=zh7 hk;have au:=y04 hS hk aq ho.1 cz;rw[au]at hs⊢;have uN:=zt0 hk ho.1;have vi:=zf6 hp Av;generalize R.getD k rt0=y at*;obtain⟨r1,lC⟩:∃r1:RT,r1=⟨y.v,y.a,cutP y.ids id,y.c⟩:=⟨_,rfl⟩;have pB:r1.v=y.v:=by rw[lC]
 have Oe:r1.ids=cutP y.ids id:=by rw[lC]
 rw[<-lC]at hs⊢;have lq:(wrL R r1).Pairwise (fun a b=>a.v<b.v):=zK9 hp;have dR:(wrL (wrL R r1) r2).Pairwise (fun a b=>a.v<b.v):=zK9 lq;have Kf:r2.ids≠[]:=by rw[hs];unfold insL;simp
 have Kn:r2∈wrL (wrL R r1) r2:=zy1.2 (.inr ⟨rfl,Kf⟩)
 -- what is served is the same
 have kC:((wrL (wrL R r1) r2).flatMap RT.ids).Perm (R.flatMap RT.ids):=by
  have q1:=z42 (r:=r2) lq;rw[hs]at q1;have q2:=q1.trans (je _ ((zG6 (zc7 (wrL R r1) r2.v).ids at_ id)));have q3:((wrL (wrL R r1) r2).flatMap RT.ids).Perm ((wrL R r1).flatMap RT.ids++[id]):=by
   refine(jd (zc7 (wrL R r1) r2.v).ids).1 (q2.trans ?_);rw[yi];rfl
  have q4:=z42 (r:=r1) hp;rw[pB,vi,Oe]at q4;have q5:((wrL R r1).flatMap RT.ids++[id]).Perm (R.flatMap RT.ids):=by
   refine(jd (cutP y.ids id)).1 ?_;rw[yi];exact(je _ (z58 uN cz).symm).trans q4
  exact q3.trans q5
 have fd:yb8 (zb0 (wrL (wrL R r1) r2) (wrL (wrL R r1) r2).length) L:=by
  rw[zb8];have h9:=ho;rw[zb8]at h9;exact⟨kC.nodup_iff.2 h9.1,fun x hx hm=>h9.2 x hx (kC.mem_iff.1 hm)⟩
 have cR:(zb0 (wrL (wrL R r1) r2) (wrL (wrL R r1) r2).length).length+L.length=ko:=by
  rw[zb8,kC.length_eq,<-zb8];exact hn
 have ix:=zf6 dR Kn;have Lg:fnd5T vs kv y.v=true:=by
  have:=(zf3 (zg8 (aP y Av).2).1).2.1;exact this
 have hI:zc1 n zs os vs ko kv fine (wrL (wrL R r1) r2) L=0↔codeV true n zs os vs ko kv y.v (zc7 (wrL (wrL R r1) r2) y.v).ids=0/\codeV true n zs os vs ko kv r2.v r2.ids=0:=by
  constructor
  ·intro h9
   obtain⟨_,mi,_⟩:=zb7 h9;obtain⟨_,DV⟩:=zh3.1 mi;refine⟨?_,(DV r2 Kn).2⟩;rcases zv0 (wrL (wrL R r1) r2) y.v with hm|hm
   ·have:=(DV _ hm).2
    rw[zL0]at this;exact this
   ·rw[hm]
    exact y92 hc Lg
  ·rintro⟨c1,c2⟩
   refine zT8 hc (zh3.2 ⟨dR,fun r mi=> ?_⟩) fd hl cR;rcases zy1.1 mi with⟨hm,hv⟩|⟨e,_⟩
   ·rcases zy1.1 hm with⟨mA,_⟩|⟨e,aZ⟩
    ·exact aP r mA
    ·have JW:=zf6 dR mi
     rw[e,pB]at JW;rw[JW]at c1;rw[e,pB];exact⟨aZ,c1⟩
   ·rw[e]
    exact⟨Kf,c2⟩
 refine⟨hI,fun h9 z=> ?_⟩;obtain⟨c1,c2⟩:=hI.1 h9;have z0:∀v,zm0 n zs os vs ko kv ⟨v,none,[],0⟩=0:=fun v=>zC7 hc rfl;have s2:=yg0 (r:=r2) (zm0 n zs os vs ko kv) lq (fun e=>zC7 hc e) (z0 _);have s1:=yg0 (r:=r1) (zm0 n zs os vs ko kv) hp (fun e=>zC7 hc e) (z0 _);rw[pB,vi]at s1;rw[z63,z63,s2,s1];have rr:∀r:RT,codeV true n zs os vs ko kv r.v r.ids=0->rcV n zs os vs ko kv r.v r.ids=zm0 n zs os vs ko kv r:=fun r mi=>z18 mi;have e2:=rr r2 c2;have ey:=rr y (aP y Av).2;have eo:∀v,rcV n zs os vs ko kv v (zc7 R v).ids=zm0 n zs os vs ko kv (zc7 R v):=fun v=>by
  rcases zv0 R v with hm|hm
  ·have:=rr _ (aP _ hm).2
   rw[zL0]at this;exact this
  ·rw[hm,z0]
   exact yK1 hc v
 rw[e2,eo];have nX:∀{a b:RT},a.v=b.v->a.ids=b.ids->zm0 n zs os vs ko kv a=zm0 n zs os vs ko kv b:=fun{a b} h1 h2=>by unfold zm0;rw[h1,h2]
 by_cases hv:y.v=r2.v
 ·rw[z7 hv]
  have e1:zm0 n zs os vs ko kv (zc7 (wrL R r1) r2.v)=zm0 n zs os vs ko kv r1:=nX (by rw[zL0,pB,hv]) ((z30 hp r2.v).1 (by rw[pB,hv]));rw[e1,<-hv,vi];omega
 ·rw[ye hv]
  have e1:zc7 (wrL R r1) r2.v=zc7 R r2.v:=(z30 hp r2.v).2 (by rw[pB];exact fun e=>hv e.symm);have e3:=(z30 lq y.v).2 hv;have e4:=(z30 hp y.v).1 pB.symm;have e5:rcV n zs os vs ko kv y.v (zc7 (wrL (wrL R r1) r2) y.v).ids=zm0 n zs os vs ko kv r1:=by
   rw[z18 c1,e3,e4];unfold zm0;rw[pB]
  rw[e5,e1,vi,ey];omega
theorem yd3:∀(R:List RT),(∀r∈R,r.ids≠[])->R.length<=(R.flatMap RT.ids).length
 |[],_=>by simp
 |r::R,h=>by
  have h1:=xV.2 (h r (yB ..));have h2:=yd3 R (fun x hx=>h x (yt _ hx));rw[jc,xS,yo];omega
theorem zT5:∀(R:List RT) (r:RT),r∈R->r.ids.length<=(R.flatMap RT.ids).length
 |x::R,r,h=>by
  rw[jc,xS];rcases yx.1 h with e|h
  ·subst e;omega
  ·have:=zT5 R r h
   omega
theorem yt5{os:List Int}{ko:Nat}{L:List Int}(h:zg5 os ko L L.length):∀(d i:Nat),i+d+1<L.length->L.getD i 0<L.getD (i+d+1) 0
 |0,i,hi=>(h (i+1) hi).2 (by omega)
 |d+1,i,hi=>Int.lt_trans (yt5 h d i (by omega)) ((h (i+d+1+1) hi).2 (by omega))
theorem zY5{os:List Int}{ko:Nat}{L:List Int}(h:zg5 os ko L L.length):L.Pairwise (· <·):=by
 rw[yy];intro i j hi hj lN;have:=yt5 h (j - i - 1) i (by omega);rw[show i+(j - i - 1)+1=j by omega]at this;simpa[zQ,zR hi,zR hj]using this
theorem zP8{n:Int}{zs os vs:List Int}{ko kv:Nat}{fine:Int}{R:List RT}{L S P:List Int}(h:zc1 n zs os vs ko kv fine R L=0)(hS:zr3 (zb0 R R.length)=S)(hp:∀i,i<P.length->0<=P.getD i 0/\P.getD i 0<S.length):LvI S P L.length 0 R L:=by
 obtain⟨h1,h2,h3,h4,h5⟩:=zb7 h;obtain⟨s1,s2,s3⟩:=zj6 h;have aq:∀r∈R,r.ids≠[]:=fun r hr=>by
  obtain⟨j,hj,e⟩:=zo3 hr;rw[<-e];exact s3 j hj
 have jt:=zb8 R;refine⟨fun j j1 j2=>(h2 j j2).1 j1,aq,s2,fun r hr=> ?_,?_,zY5 h4,rfl,fun j _ hj=> ?_,fun x hx hm=>h3.2 x hm hx⟩
 ·have:=zT5 R r hr
  rw[<-jt]at this;omega
 ·have:=yd3 R aq
  rw[<-jt]at this;omega
 ·have hb:=hp j hj
  have:pkd S P j∈S:=zx3 S _ (by omega);rw[<-hS]at this;rw[<-zD5];rw[hS]at this⊢;exact this
theorem y47{S P:List Int}(hS:S.Nodup)(hP:P.Nodup)(hp:∀i,i<P.length->0<=P.getD i 0/\P.getD i 0<S.length):∀i j,i<j->j<P.length->pkd S P i≠pkd S P j:=fun i j lN hj=>by
 have h1:=zt4 hP lN hj;have h2:=hp i (by omega);have h3:=hp j hj;unfold pkd;rcases Nat.lt_trichotomy (P.getD i 0).toNat (P.getD j 0).toNat with h|h|h
 ·exact zt4 hS h (by omega)
 ·exact absurd (show P.getD i 0=P.getD j 0 by omega) h1
 ·exact fun e=>zt4 hS h (by omega) e.symm
theorem yn1{l:List Int}(h:l.Nodup):(zr3 l).Nodup:=(ya4 h).imp (fun h=>by omega)
