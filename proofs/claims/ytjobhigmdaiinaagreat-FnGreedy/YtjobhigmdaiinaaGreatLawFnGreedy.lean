import Derived.Test.YtjobhigmdaiinaaGreatPack1
import Derived.Test.YtjobhigmdaiinaaGreatPack2
import Derived.Test.YtjobhigmdaiinaaGreatPack3
import Derived.Test.YtjobhigmdaiinaaGreatDrawPlanL
import Derived.Test.YtjobhigmdaiinaaGreatPlanQ
import Derived.Test.YtjobhigmdaiinaaGreatPack33
import Derived.Test.YtjobhigmdaiinaaGreatPlainGrd
import Derived.Test.YtjobhigmdaiinaaGreatPack48
import Derived.Test.YtjobhigmdaiinaaGreatPack51
import Derived.Test.YtjobhigmdaiinaaGreatPack52
namespace Go.Proofs.YtjobhigmdaiinaaGreat
open Go.RowKit
theorem zM1{w:World}{base n m rc lc:Nat}{ra la:Option Addr}{S:List RT}{L:List Int}(h:PO w base (.slice ra n rc) S (.slice la m lc) L){x:Nat}(hx:w.heap.size<=x):Off x ra la S:=by
 refine⟨fun b off e=> ?_,fun b off e=> ?_,fun r hr b off e=> ?_⟩
 ·have:=(h.r.lt b (by rw[e];rfl)).2;omega
 ·have:=(h.l.lt b (by rw[e];rfl)).2;omega
 ·have:=((h.s r hr).lt b (by rw[e];rfl)).2;omega
set_option maxRecDepth 10000 in
set_option maxHeartbeats 400000 in
theorem z67(a:Option Addr)(c len:Nat)(w:World)(hl:len<=9223372036854775807)(h:1048576<len):
 Calls Tryz.prog 3 #[.slice a len c] w fun e w'=>e=.returned (.bool true)/\Below w.heap.size w w':=by
 have hd:decide (1048576<len)=true:=decide_eq_true h;go_enter Tryz.func3,Tryz.ntmps3
 go_wp2_with(go_at_call 5;refine(ye3 a c len w hl).mono ?_;rintro e w1 ⟨rfl,hw1⟩;subst w1;rw[hd])
 go_ret;exact⟨rfl,Below.refl _ _⟩
set_option maxRecDepth 10000 in
set_option maxHeartbeats 16000000 in
theorem zy5(a:Option Addr)(ca:Nat)(bs:List Int)(w:World)(hA:zu4 w a bs)(hl:bs.length<=1048576):
 Calls Tryz.prog 3 #[.slice a bs.length ca] w fun e w'=>e=.returned (.bool true)/\Below w.heap.size w w':=by
 have HA:Hid (zu4 w a bs):=hA;clear hA;have hd:decide (1048576<bs.length)=false:=decide_eq_false (by omega);go_enter Tryz.func3,Tryz.ntmps3
 go_wp2_with fail
 refine(ye3 a ca bs.length w (by omega)).mono ?_;rintro e w1 ⟨rfl,hw1⟩;subst w1;rw[hd];clear hd
 go_wp2_with fail
 refine(z85 a ca bs w HA.out hl).mono ?_;rintro e w1 ⟨n,g,zl,cg,go,ko,co,gv,kv,cv,zs,O,V,fi,rs,ls,R,L,rfl,⟨hz,hO,hV,hko1,hko5,hkv1,hkv3⟩,⟨hR10,hR9,hL14,hLw⟩,hb,iz,io,iv,-,hpo,hln⟩;obtain⟨N,HLb⟩:∃v,Hid (bs.length=v):=⟨_,rfl⟩;rw[HLb.out]at hl⊢;obtain⟨ra,rc,e⟩:=zi5 hpo.r;subst e;obtain⟨la,lc,e⟩:=zi5 hpo.l;subst e;obtain⟨nr,HNR⟩:∃v,Hid (R.length=v):=⟨_,rfl⟩;obtain⟨m,HM⟩:∃v,Hid (L.length=v):=⟨_,rfl⟩;have HZ:Hid (zs.length=zl):=hz;have HO:Hid (O.length=ko*6):=hO;have HV:Hid (V.length=kv*5):=hV;have HRC:Hid (∀r∈R,r.ids.length<=r.c):=fun r hr=>(hpo.ints r hr).2;have HRI:Hid (∀r∈R,r.ids.length<=9):=hR9;have HAL:Hid ((zb3 R R.length).length<=1048576):=Nat.le_trans (zw6 hR9 _ (Nat.le_refl _)) (by omega);have HLW:Hid (∀x∈L,(Lit.int .i64 x).wf=true):=yj6 hLw;have HLA:Hid (zd7 n zs O V ko kv fi R L=0->(∃bl ol,la=some ⟨bl,ol,none⟩)/\∀r∈R,∃g,r.a=some ⟨g,0,none⟩):=fun h=>by
  obtain⟨h1,h2,_⟩:=zj0 h;obtain⟨g9,m9,c9,e⟩:=hln h1
  injection e with e
  exact⟨⟨g9,0,e⟩,hpo.ad (fun s hs=>((zD2.1 h2).2 s hs).1)⟩
 have HOF:Hid (∀x,w1.heap.size<=x->Off x ra la R):=fun x hx=>zM1 hpo hx;rw[HNR.out,HM.out]at hpo;rw[HNR.out]at hR10⊢;rw[HM.out]at hL14⊢;have HFR:Hid _:=(z20 hpo HNR.out HM.out).1;have HFL:Hid _:=(z20 hpo HNR.out HM.out).2;have K1:Hid (LP w ((w1.alloc (.cells #[.int .i64 n,.slice (some ⟨g,0,none⟩) zl cg,.slice (some ⟨go,0,none⟩) ko co,.slice (some ⟨gv,0,none⟩) kv cv,.int .i64 fi] 30)).alloc (.cells #[.slice ra nr rc,.slice la m lc] 33)) w1.heap.size (w1.heap.size+1) #[.int .i64 n,.slice (some ⟨g,0,none⟩) zl cg,.slice (some ⟨go,0,none⟩) ko co,.slice (some ⟨gv,0,none⟩) kv cv,.int .i64 fi] ra nr rc la m lc g go gv zs O V R L):=by
  have ha:Below w1.heap.size w1 ((w1.alloc (.cells #[.int .i64 n,.slice (some ⟨g,0,none⟩) zl cg,.slice (some ⟨go,0,none⟩) ko co,.slice (some ⟨gv,0,none⟩) kv cv,.int .i64 fi] 30)).alloc (.cells #[.slice ra nr rc,.slice la m lc] 33)):=((Below.refl _ _).alloc (Nat.le_refl _) _).alloc (by simp) _;exact⟨hb.trans (ha.mono hb.size),heap_alloc2_old _ _ _,heap_alloc2_new _ _ _,iz.below ha,io.below ha,iv.below ha,(ys4 hpo HNR.out).below ha,(yv3 hpo HM.out).below ha⟩
 clear hz hO hV hb iz io iv hpo hR9 hLw hln;have hbd:=yu4 (n:=n) (fine:=fi) (zs:=zs) (os:=O) (vs:=V) (ko:=ko) (kv:=kv) R L;have hbo:=yu6 (n:=n) (fine:=fi) (zs:=zs) (os:=O) (vs:=V) (ko:=ko) (kv:=kv) R L;have HHE:Hid (zd7 n zs O V ko kv fi R L=0->_):=fun h=>yp3 (fine:=fi) h;have HNO:Hid (gaF n fi zs O V ko kv R L=false->goF n fi zs O V ko kv R L=false):=fun h=>yu5 h;have HGS:Hid (∀x∈gaL n fi zs O V ko kv R L,(Lit.int .i64 x).wf=true):=fun x hx=>HLW.out x (ys9 x hx);have HOS:Hid (∀x∈goL n fi zs O V ko kv R L,(Lit.int .i64 x).wf=true):=fun x hx=>HLW.out x (yq9 x hx);have HYS:Hid (gaF n fi zs O V ko kv R L=true->zd7 n zs O V ko kv fi R L=0):=fun h=>by
  unfold gaF at h;split at h
  ·assumption
  ·cases h
 obtain⟨GB,HGB⟩:=nmd (gaF n fi zs O V ko kv R L);obtain⟨GR,HGR⟩:=nmd (gaR n fi zs O V ko kv R L);obtain⟨GL,HGL⟩:=nmd (gaL n fi zs O V ko kv R L);obtain⟨OF,HOF2⟩:=nmd (goF n fi zs O V ko kv R L);obtain⟨OR,HOR⟩:=nmd (goR n fi zs O V ko kv R L);obtain⟨OL,HOL⟩:=nmd (goL n fi zs O V ko kv R L);have HIS:Hid (∀W k kp,LP w W k kp #[.int .i64 n,.slice (some ⟨g,0,none⟩) zl cg,.slice (some ⟨go,0,none⟩) ko co,.slice (some ⟨gv,0,none⟩) kv cv,.int .i64 fi] ra nr rc la m lc g go gv zs O V R L->zd5 W ra la nr m R L):=fun W k kp h=>⟨HNR.out,HM.out,h.r,h.l,HFR.out,HFL.out,HRC.out⟩;have HR5:Hid (∀r∈R,r.ids.length<=1048576):=fun r hr=>by have:=HRI.out r hr;omega
 have IDE:Hid (∀W k kp,LP w W k kp #[.int .i64 n,.slice (some ⟨g,0,none⟩) zl cg,.slice (some ⟨go,0,none⟩) ko co,.slice (some ⟨gv,0,none⟩) kv cv,.int .i64 fi] ra nr rc la m lc g go gv zs O V R L->w1.heap.size<=W.heap.size->Calls Tryz.prog 7 #[.agg #[.int .i64 n,.slice (some ⟨g,0,none⟩) zl cg,.slice (some ⟨go,0,none⟩) ko co,.slice (some ⟨gv,0,none⟩) kv cv,.int .i64 fi],.agg #[.slice ra nr rc,.slice la m lc]] W (zE9 W GB GR GL)):=fun W k kp h hk=>by
  have:=zu3 n fi (some ⟨g,0,none⟩) (some ⟨go,0,none⟩) (some ⟨gv,0,none⟩) ra la zl cg ko co kv cv nr rc m lc zs O V L R W h.iz h.io h.iv HZ.out HO.out HV.out (by omega) (by omega) (HIS.out W k kp h) (by omega) HR5.out (by omega) HAL.out HLW.out (fun x hx=>HOF.out x (by have:=hk;omega));rw[HGB.out,HGR.out,HGL.out]at this;exact this
 have SDE:Hid (∀W k kp,LP w W k kp #[.int .i64 n,.slice (some ⟨g,0,none⟩) zl cg,.slice (some ⟨go,0,none⟩) ko co,.slice (some ⟨gv,0,none⟩) kv cv,.int .i64 fi] ra nr rc la m lc g go gv zs O V R L->w1.heap.size<=W.heap.size->Calls Tryz.prog 8 #[.agg #[.int .i64 n,.slice (some ⟨g,0,none⟩) zl cg,.slice (some ⟨go,0,none⟩) ko co,.slice (some ⟨gv,0,none⟩) kv cv,.int .i64 fi],.agg #[.slice ra nr rc,.slice la m lc]] W (z10 W GB GR GL)):=fun W k kp h hk=>by
  have:=z84 n fi (some ⟨g,0,none⟩) (some ⟨go,0,none⟩) ra la zl cg ko co gv 0 kv cv nr rc m lc zs O V L R W h.iz h.io h.iv HZ.out HO.out HV.out (by omega) (by omega) (HIS.out W k kp h) (by omega) HR5.out (by omega) HAL.out HLA.out (fun x hx=>HOF.out x (by have:=hk;omega));rw[HGB.out,HGR.out,HGL.out]at this;exact this
 have IOE:Hid (∀W k kp,LP w W k kp #[.int .i64 n,.slice (some ⟨g,0,none⟩) zl cg,.slice (some ⟨go,0,none⟩) ko co,.slice (some ⟨gv,0,none⟩) kv cv,.int .i64 fi] ra nr rc la m lc g go gv zs O V R L->w1.heap.size<=W.heap.size->Calls Tryz.prog 9 #[.agg #[.int .i64 n,.slice (some ⟨g,0,none⟩) zl cg,.slice (some ⟨go,0,none⟩) ko co,.slice (some ⟨gv,0,none⟩) kv cv,.int .i64 fi],.agg #[.slice ra nr rc,.slice la m lc]] W (zE9 W OF OR OL)):=fun W k kp h hk=>by
  have:=zz1 n fi (some ⟨g,0,none⟩) (some ⟨go,0,none⟩) (some ⟨gv,0,none⟩) ra la zl cg ko co kv cv nr rc m lc zs O V L R W h.iz h.io h.iv HZ.out HO.out HV.out (by omega) (by omega) (HIS.out W k kp h) (by omega) HR5.out (by omega) HAL.out HLW.out;rw[HOF2.out,HOR.out,HOL.out]at this;exact this
 have SOE:Hid (∀W k kp,LP w W k kp #[.int .i64 n,.slice (some ⟨g,0,none⟩) zl cg,.slice (some ⟨go,0,none⟩) ko co,.slice (some ⟨gv,0,none⟩) kv cv,.int .i64 fi] ra nr rc la m lc g go gv zs O V R L->w1.heap.size<=W.heap.size->Calls Tryz.prog 10 #[.agg #[.int .i64 n,.slice (some ⟨g,0,none⟩) zl cg,.slice (some ⟨go,0,none⟩) ko co,.slice (some ⟨gv,0,none⟩) kv cv,.int .i64 fi],.agg #[.slice ra nr rc,.slice la m lc]] W (z10 W OF OR OL)):=fun W k kp h hk=>by
  have:=zy6 n fi (some ⟨g,0,none⟩) (some ⟨go,0,none⟩) ra la zl cg ko co gv 0 kv cv nr rc m lc zs O V L R W h.iz h.io h.iv HZ.out HO.out HV.out (by omega) (by omega) (HIS.out W k kp h) (by omega) HR5.out (by omega) HAL.out HLA.out;rw[HOF2.out,HOR.out,HOL.out]at this;exact this
 have IGG:Hid (∀(ra2 la2:Option Addr) (nr2 rc2 m2 lc2:Nat) (R2:List RT) (L2:List Int) W k kp,LP w W k kp #[.int .i64 n,.slice (some ⟨g,0,none⟩) zl cg,.slice (some ⟨go,0,none⟩) ko co,.slice (some ⟨gv,0,none⟩) kv cv,.int .i64 fi] ra nr rc la m lc g go gv zs O V R L->zd5 W ra2 la2 nr2 m2 R2 L2->nr2<=500->(∀r∈R2,r.ids.length<=12)->m2<=500->(∀x∈L2,(Lit.int .i64 x).wf=true)->(∀x,W.heap.size<=x->Off x ra2 la2 R2)->Calls Tryz.prog 7 #[.agg #[.int .i64 n,.slice (some ⟨g,0,none⟩) zl cg,.slice (some ⟨go,0,none⟩) ko co,.slice (some ⟨gv,0,none⟩) kv cv,.int .i64 fi],.agg #[.slice ra2 nr2 rc2,.slice la2 m2 lc2]] W (zE9 W (gaF n fi zs O V ko kv R2 L2) (gaR n fi zs O V ko kv R2 L2) (gaL n fi zs O V ko kv R2 L2))):=fun ra2 la2 nr2 rc2 m2 lc2 R2 L2 W k kp h hp h3 h4 h5 h6 h7=>by
  have h9:=zw6 h4 R2.length (Nat.le_refl _);have h8:=hp.1;exact zu3 n fi (some ⟨g,0,none⟩) (some ⟨go,0,none⟩) (some ⟨gv,0,none⟩) ra2 la2 zl cg ko co kv cv nr2 rc2 m2 lc2 zs O V L2 R2 W h.iz h.io h.iv HZ.out HO.out HV.out (by omega) (by omega) hp (by omega) (fun r hr=>by have:=h4 r hr;omega) (by omega) (by omega) h6 h7
 have IPG:Hid (∀(ra2 la2:Option Addr) (rc2 lc2:Nat) (R2:List RT) (L2:List Int) W k kp,LP w W k kp #[.int .i64 n,.slice (some ⟨g,0,none⟩) zl cg,.slice (some ⟨go,0,none⟩) ko co,.slice (some ⟨gv,0,none⟩) kv cv,.int .i64 fi] ra nr rc la m lc g go gv zs O V R L->za6 W ra2 R2->za0 W la2 L2->R2.length<=500->(∀r∈R2,r.ids.length<=12/\r.ids.length<=r.c)->L2.length<=500->(∀x∈L2,(Lit.int .i64 x).wf=true)->Calls Tryz.prog 12 #[.agg #[.int .i64 n,.slice (some ⟨g,0,none⟩) zl cg,.slice (some ⟨go,0,none⟩) ko co,.slice (some ⟨gv,0,none⟩) kv cv,.int .i64 fi],.agg #[.slice ra2 R2.length rc2,.slice la2 L2.length lc2]] W fun e w'=>e=.returned (.int .i64 (zd7 n zs O V ko kv fi R2 L2))/\Below W.heap.size W w'):=fun ra2 la2 rc2 lc2 R2 L2 W k kp h h1 h2 h3 h4 h5 h6=>by
  have h9:=zw6 (fun r hr=>(h4 r hr).1) R2.length (Nat.le_refl _);have:=zn9 n fi _ _ _ ra2 la2 cg ko co kv cv rc2 lc2 zs O V L2 R2 W h.iz h.io h.iv h1 h2 HO.out HV.out (by omega) (by omega) (by omega) (fun r hr=>by have:=(h4 r hr).1;omega) (fun r hr=>(h4 r hr).2) (by omega) (by omega) h6;rw[HZ.out]at this;exact this
 have ICG:Hid (∀(ra2 la2:Option Addr) (rc2 lc2:Nat) (R2:List RT) (L2:List Int) W k kp,LP w W k kp #[.int .i64 n,.slice (some ⟨g,0,none⟩) zl cg,.slice (some ⟨go,0,none⟩) ko co,.slice (some ⟨gv,0,none⟩) kv cv,.int .i64 fi] ra nr rc la m lc g go gv zs O V R L->za6 W ra2 R2->za0 W la2 L2->R2.length<=500->(∀r∈R2,r.ids.length<=12/\r.ids.length<=r.c)->L2.length<=500->(∀x∈L2,(Lit.int .i64 x).wf=true)->Calls Tryz.prog 13 #[.agg #[.int .i64 n,.slice (some ⟨g,0,none⟩) zl cg,.slice (some ⟨go,0,none⟩) ko co,.slice (some ⟨gv,0,none⟩) kv cv,.int .i64 fi],.agg #[.slice ra2 R2.length rc2,.slice la2 L2.length lc2]] W fun e w'=>e=.returned (.int .i64 (zv8 n zs O V ko kv fi R2 L2))/\Below W.heap.size W w'):=fun ra2 la2 rc2 lc2 R2 L2 W k kp h h1 h2 h3 h4 h5 h6=>by
  have h9:=zw6 (fun r hr=>(h4 r hr).1) R2.length (Nat.le_refl _);have:=z14 n fi _ _ _ ra2 la2 cg ko co kv cv rc2 lc2 zs O V L2 R2 W h.iz h.io h.iv h1 h2 HO.out HV.out (by omega) (by omega) (by omega) (fun r hr=>by have:=(h4 r hr).1;omega) (fun r hr=>(h4 r hr).2) (by omega) (by omega) h6;rw[HZ.out]at this;exact this
 have SAM:Hid (∀(ra9 xa9 la9 ma9:Option Addr) (n9 rc9 sc9 m9 lc9 mc9:Nat) (S9 S8:List RT) (X9:List Int) W,za6 W ra9 S9->za6 W xa9 S8->S8.map RT.key=S9.map RT.key->S9.length=n9->n9<=500->(∀r∈S9,r.ids.length<=12)->za0 W la9 X9->za0 W ma9 X9->X9.length=m9->m9<=500->Calls Tryz.prog 11 #[.agg #[.slice ra9 n9 rc9,.slice la9 m9 lc9],.agg #[.slice xa9 n9 sc9,.slice ma9 m9 mc9]] W fun e w'=>e=.returned (.bool true)/\Below W.heap.size W w'):=fun ra9 xa9 la9 ma9 n9 rc9 sc9 m9 lc9 mc9 S9 S8 X9 W h1 h2 h3 h4 h5 h6 h7 h8 h9 h10=>
  zC6 ra9 xa9 la9 ma9 rc9 sc9 n9 lc9 mc9 m9 S9 S8 X9 W h1 h2 h3 h4 (by omega) (fun r hr=>by have:=h6 r hr;omega) h7 h8 h9 (by omega)
 rw[HGR.out,HGL.out]at hbd;rw[HOR.out,HOL.out]at hbo;rw[HGB.out,HGR.out,HGL.out,HOF2.out,HOR.out,HOL.out]at HHE;rw[HGB.out,HOF2.out]at HNO;rw[HGB.out]at HYS;rw[HGL.out]at HGS;rw[HOL.out]at HOS;clear HGB HGR HGL HOF2 HOR HOL;have HBD:Hid ((∀r∈GR,r.ids≠[]/\r.ids.length<=12)/\GR.length<=500/\GL.length<=500):=hbd;have HBO:Hid ((∀r∈OR,r.ids≠[]/\r.ids.length<=12)/\OR.length<=500/\OL.length<=500):=hbo;clear hbd hbo;obtain⟨d0,d1,d2,d3,d4⟩:=zb6 K1.out.b1;obtain⟨p0,p1⟩:=za2 K1.out.b2
 go_wp2_with fail
 generalize(w1.alloc (.cells #[.int .i64 n,.slice (some ⟨g,0,none⟩) zl cg,.slice (some ⟨go,0,none⟩) ko co,.slice (some ⟨gv,0,none⟩) kv cv,.int .i64 fi] 30)).alloc (.cells #[.slice ra nr rc,.slice la m lc] 33)=W1 at*;obtain⟨k,HK⟩:=nmd w1.heap.size;obtain⟨kp,HKP⟩:=nmd (w1.heap.size+1);rw[HKP.out]at K1 p0 p1⊢;rw[HK.out]at K1 d0 d1 d2 d3 d4 IDE SDE IOE SOE⊢;refine(IDE.out _ _ _ K1.out (by have:=za3 K1.out.b1;omega)).mono ?_;rintro e w2 ⟨qa,qn,qc,qk,ql,qd,SG,rfl,hb,hsn,hln,hky,hpo,-⟩;have HNSG:Hid (SG.length=qn):=hsn;have HMSG:Hid (GL.length=ql):=hln;have HKSG:Hid (SG.map RT.key=GR.map RT.key):=hky;have HCSG:Hid (∀r∈SG,r.ids.length<=12/\r.ids.length<=r.c):=fun r hr=>⟨(zo4 hky HBD.out.1 r hr).2,(hpo.ints r hr).2⟩;have HFSG:=hdn (z20 hpo hsn hln);have HTSG:Hid (∀x,w2.heap.size<=x->Off x qa qk SG):=fun x hx=>zM1 hpo hx;have HASG:Hid (∀r∈SG,(r.a=none/\r.ids.length=0)∨∃b off,r.a=some ⟨b,off,none⟩):=fun r hr=>by
  rcases own_kinds (hpo.s r hr)with⟨e,h0⟩|⟨g9,c9,e,_,_⟩
  ·exact .inl ⟨by injection e,h0⟩
  ·exact .inr ⟨g9,0,by injection e⟩
 have hqn5:qn<=500:=by have h1:=HBD.out.2.1;have h2:=congrArg List.length hky;simp only[List.length_map]at h2;omega
 have hql5:ql<=500:=by have h1:=HBD.out.2.2;omega
 have hA:Below w2.heap.size w2 (w2.alloc (.cells #[.slice qa qn qc,.slice qk ql qd] 33)):=(Below.refl _ _).alloc (Nat.le_refl _) _;have hbA:=hb.trans (hA.mono hb.size);have K3:Hid _:=K1.out.below hbA;have Q3:Hid _:=LQ.new hpo hsn hln;clear hb hsn hln hky hpo hA hbA K1 d0 d1 d2 d3 d4 p0 p1 IDE;obtain⟨d0,d1,d2,d3,d4⟩:=zb6 K3.out.b1;obtain⟨p0,p1⟩:=za2 K3.out.b2
 go_wp2_with fail
 generalize w2.alloc (.cells #[.slice qa qn qc,.slice qk ql qd] 33)=W3 at*;obtain⟨kq,HKQ⟩:=nmd w2.heap.size;rw[HKQ.out]at Q3 HTSG⊢;refine(SDE.out _ _ _ K3.out (by have:=za3 K3.out.b1;omega)).mono ?_;rintro e w4 ⟨xa,xn,xc,xk,xl,xd,SW,rfl,hb,hsn,hln,hky,hpo⟩;have e1:qn=xn:=by rw[<-HNSG.out,<-hsn];have:=congrArg List.length (HKSG.out.trans hky.symm);simpa using this
 have e2:ql=xl:=HMSG.out.symm.trans hln;subst e1 e2;have HKSW:Hid (SW.map RT.key=SG.map RT.key):=hky.trans HKSG.out.symm;have hA:Below w4.heap.size w4 (w4.alloc (.cells #[.slice xa qn xc,.slice xk ql xd] 33)):=(Below.refl _ _).alloc (Nat.le_refl _) _;have hbA:=hb.trans (hA.mono hb.size);have K5:Hid _:=K3.out.below hbA;have Q5:Hid _:=Q3.out.below hbA;have X5:Hid _:=LQ.new hpo hsn hln;clear hb hsn hln hky hpo hA hbA K3 Q3 d0 d1 d2 d3 d4 p0 p1 SDE;obtain⟨d0,d1,d2,d3,d4⟩:=zb6 K5.out.b1;obtain⟨p0,p1⟩:=za2 K5.out.b2
 go_wp2_with fail
 generalize w4.alloc (.cells #[.slice xa qn xc,.slice xk ql xd] 33)=W5 at*;obtain⟨kw,HKW⟩:=nmd w4.heap.size;rw[HKW.out]at X5⊢;refine(IOE.out _ _ _ K5.out (by have:=za3 K5.out.b1;omega)).mono ?_;rintro e w6 ⟨oa,on,oc,ok,ol,od,SO,rfl,hb,hsn,hln,hky,hpo,-⟩;have HNSO:Hid (SO.length=on):=hsn;have HMSO:Hid (OL.length=ol):=hln;have HKSO:Hid (SO.map RT.key=OR.map RT.key):=hky;have HCSO:Hid (∀r∈SO,r.ids.length<=12/\r.ids.length<=r.c):=fun r hr=>⟨(zo4 hky HBO.out.1 r hr).2,(hpo.ints r hr).2⟩;have HFSO:=hdn (z20 hpo hsn hln);have HTSO:Hid (∀x,w6.heap.size<=x->Off x oa ok SO):=fun x hx=>zM1 hpo hx;have HASO:Hid (∀r∈SO,(r.a=none/\r.ids.length=0)∨∃b off,r.a=some ⟨b,off,none⟩):=fun r hr=>by
  rcases own_kinds (hpo.s r hr)with⟨e,h0⟩|⟨g9,c9,e,_,_⟩
  ·exact .inl ⟨by injection e,h0⟩
  ·exact .inr ⟨g9,0,by injection e⟩
 have hon5:on<=500:=by have h1:=HBO.out.2.1;have h2:=congrArg List.length hky;simp only[List.length_map]at h2;omega
 have hol5:ol<=500:=by have h1:=HBO.out.2.2;omega
 have hA:Below w6.heap.size w6 (w6.alloc (.cells #[.slice oa on oc,.slice ok ol od] 33)):=(Below.refl _ _).alloc (Nat.le_refl _) _;have hbA:=hb.trans (hA.mono hb.size);have K7:Hid _:=K5.out.below hbA;have Q7:Hid _:=Q5.out.below hbA;have X7:Hid _:=X5.out.below hbA;have O7:Hid _:=LQ.new hpo hsn hln;clear hb hsn hln hky hpo hA hbA K5 Q5 X5 d0 d1 d2 d3 d4 p0 p1 IOE;obtain⟨d0,d1,d2,d3,d4⟩:=zb6 K7.out.b1;obtain⟨p0,p1⟩:=za2 K7.out.b2
 go_wp2_with fail
 generalize w6.alloc (.cells #[.slice oa on oc,.slice ok ol od] 33)=W7 at*;obtain⟨kx,HKX⟩:=nmd w6.heap.size;rw[HKX.out]at O7 HTSO⊢;refine(SOE.out _ _ _ K7.out (by have:=za3 K7.out.b1;omega)).mono ?_;rintro e w8 ⟨ya,yn,yc,yk,yl,yd,SY,rfl,hb,hsn,hln,hky,hpo⟩;have e1:on=yn:=by rw[<-HNSO.out,<-hsn];have:=congrArg List.length (HKSO.out.trans hky.symm);simpa using this
 have e2:ol=yl:=HMSO.out.symm.trans hln;subst e1 e2;have HKSY:Hid (SY.map RT.key=SO.map RT.key):=hky.trans HKSO.out.symm;have hA:Below w8.heap.size w8 (w8.alloc (.cells #[.slice ya on yc,.slice yk ol yd] 33)):=(Below.refl _ _).alloc (Nat.le_refl _) _;have hbA:=hb.trans (hA.mono hb.size);have K9:Hid _:=K7.out.below hbA;have Q9:Hid _:=Q7.out.below hbA;have X9:Hid _:=X7.out.below hbA;have O9:Hid _:=O7.out.below hbA;have Y9:Hid _:=LQ.new hpo hsn hln;clear hb hsn hln hky hpo hA hbA K7 Q7 X7 O7 d0 d1 d2 d3 d4 p0 p1 SOE;obtain⟨d0,d1,d2,d3,d4⟩:=zb6 K9.out.b1;obtain⟨p0,p1⟩:=za2 K9.out.b2;obtain⟨ky,HKY⟩:=nmd w8.heap.size;rw[HKY.out]at Y9;cases GB
 ·have hof:=HNO.out rfl
  subst hof;obtain⟨qc0,qc1⟩:=za2 Q9.out.b;obtain⟨xc0,xc1⟩:=za2 X9.out.b;obtain⟨oc0,oc1⟩:=za2 O9.out.b;obtain⟨yc0,yc1⟩:=za2 Y9.out.b
  go_wp2_with fail
  generalize w8.alloc (.cells #[.slice ya on yc,.slice yk ol yd] 33)=W9 at*;rw[HKY.out];clear qc0 qc1 xc0 xc1 oc0 oc1 yc0 yc1;refine((SAM.out _ _ _ _ _ _ _ _ _ _ SG SW GL W9 Q9.out.r X9.out.r HKSW.out HNSG.out hqn5 (fun r hr=>(HCSG.out r hr).1) Q9.out.l X9.out.l HMSG.out hql5)).mono ?_;rintro e w10 ⟨rfl,hb⟩;have K10:Hid _:=K9.out.below hb;have Q10:Hid _:=Q9.out.below hb;have X10:Hid _:=X9.out.below hb;have O10:Hid _:=O9.out.below hb;have Y10:Hid _:=Y9.out.below hb;clear hb K9 Q9 X9 O9 Y9;obtain⟨qc0,qc1⟩:=za2 Q10.out.b;obtain⟨xc0,xc1⟩:=za2 X10.out.b;obtain⟨oc0,oc1⟩:=za2 O10.out.b;obtain⟨yc0,yc1⟩:=za2 Y10.out.b
  go_wp2_with fail
  clear qc0 qc1 xc0 xc1 oc0 oc1 yc0 yc1;refine((SAM.out _ _ _ _ _ _ _ _ _ _ SO SY OL w10 O10.out.r Y10.out.r HKSY.out HNSO.out hon5 (fun r hr=>(HCSO.out r hr).1) O10.out.l Y10.out.l HMSO.out hol5)).mono ?_;rintro e w11 ⟨rfl,hb⟩;have K11:Hid _:=K10.out.below hb;have Q11:Hid _:=Q10.out.below hb;have X11:Hid _:=X10.out.below hb;have O11:Hid _:=O10.out.below hb;have Y11:Hid _:=Y10.out.below hb;clear hb K10 Q10 X10 O10 Y10;obtain⟨qc0,qc1⟩:=za2 Q11.out.b;obtain⟨xc0,xc1⟩:=za2 X11.out.b;obtain⟨oc0,oc1⟩:=za2 O11.out.b;obtain⟨yc0,yc1⟩:=za2 Y11.out.b
  go_wp2_with fail
  clear qc0 qc1 xc0 xc1 oc0 oc1 yc0 yc1;refine((SAM.out _ _ _ _ _ _ _ _ _ _ SG SW GL w11 Q11.out.r X11.out.r HKSW.out HNSG.out hqn5 (fun r hr=>(HCSG.out r hr).1) Q11.out.l X11.out.l HMSG.out hql5)).mono ?_;rintro e w12 ⟨rfl,hb⟩;have K12:Hid _:=K11.out.below hb;have Q12:Hid _:=Q11.out.below hb;have X12:Hid _:=X11.out.below hb;have O12:Hid _:=O11.out.below hb;have Y12:Hid _:=Y11.out.below hb;clear hb K11 Q11 X11 O11 Y11;obtain⟨qc0,qc1⟩:=za2 Q12.out.b;obtain⟨xc0,xc1⟩:=za2 X12.out.b;obtain⟨oc0,oc1⟩:=za2 O12.out.b;obtain⟨yc0,yc1⟩:=za2 Y12.out.b
  go_wp2_with fail
  clear qc0 qc1 xc0 xc1 oc0 oc1 yc0 yc1;refine((SAM.out _ _ _ _ _ _ _ _ _ _ SO SY OL w12 O12.out.r Y12.out.r HKSY.out HNSO.out hon5 (fun r hr=>(HCSO.out r hr).1) O12.out.l Y12.out.l HMSO.out hol5)).mono ?_;rintro e w13 ⟨rfl,hb⟩;have K13:Hid _:=K12.out.below hb;have Q13:Hid _:=Q12.out.below hb;have X13:Hid _:=X12.out.below hb;have O13:Hid _:=O12.out.below hb;have Y13:Hid _:=Y12.out.below hb;clear hb K12 Q12 X12 O12 Y12;go_wp2;go_ret;exact⟨by first|rfl|simp,K13.out.b⟩
 ·have hpv:=HYS.out rfl
  obtain⟨-,hpw,hcc,hll,hqf,-,hpo1,hno,hyes⟩:=HHE.out hpv;have hoo:(OF !=OF)=false:=by simp
  obtain⟨qc0,qc1⟩:=za2 Q9.out.b;obtain⟨xc0,xc1⟩:=za2 X9.out.b;obtain⟨oc0,oc1⟩:=za2 O9.out.b;obtain⟨yc0,yc1⟩:=za2 Y9.out.b
  go_wp2_with fail
  generalize w8.alloc (.cells #[.slice ya on yc,.slice yk ol yd] 33)=W9 at*;rw[HKY.out];clear qc0 qc1 xc0 xc1 oc0 oc1 yc0 yc1;refine((SAM.out _ _ _ _ _ _ _ _ _ _ SG SW GL W9 Q9.out.r X9.out.r HKSW.out HNSG.out hqn5 (fun r hr=>(HCSG.out r hr).1) Q9.out.l X9.out.l HMSG.out hql5)).mono ?_;rintro e w10 ⟨rfl,hb⟩;have K10:Hid _:=K9.out.below hb;have Q10:Hid _:=Q9.out.below hb;have X10:Hid _:=X9.out.below hb;have O10:Hid _:=O9.out.below hb;have Y10:Hid _:=Y9.out.below hb;clear hb K9 Q9 X9 O9 Y9;obtain⟨qc0,qc1⟩:=za2 Q10.out.b;obtain⟨xc0,xc1⟩:=za2 X10.out.b;obtain⟨oc0,oc1⟩:=za2 O10.out.b;obtain⟨yc0,yc1⟩:=za2 Y10.out.b
  go_wp2_with fail
  clear qc0 qc1 xc0 xc1 oc0 oc1 yc0 yc1;refine((SAM.out _ _ _ _ _ _ _ _ _ _ SO SY OL w10 O10.out.r Y10.out.r HKSY.out HNSO.out hon5 (fun r hr=>(HCSO.out r hr).1) O10.out.l Y10.out.l HMSO.out hol5)).mono ?_;rintro e w11 ⟨rfl,hb⟩;have K11:Hid _:=K10.out.below hb;have Q11:Hid _:=Q10.out.below hb;have X11:Hid _:=X10.out.below hb;have O11:Hid _:=O10.out.below hb;have Y11:Hid _:=Y10.out.below hb;clear hb K10 Q10 X10 O10 Y10;clear hoo X11 Y11;obtain⟨c1,HC1⟩:=nmd (zv8 n zs O V ko kv fi R L);obtain⟨c2,HC2⟩:=nmd (zv8 n zs O V ko kv fi SG GL);have HPV:Hid (zd7 n zs O V ko kv fi SG GL=0):=by show _=_;rw[zr0 GL HKSG.out];exact hpw
  have HCC:Hid (¬c1<c2):=by show¬_;rw[<-HC1.out,<-HC2.out,yg3 GL HKSG.out];omega
  have HLL:Hid (ql<=m):=by show _<=_;rw[<-HMSG.out,<-HM.out];exact hll
  have HQF:Hid ((zm4 n fi zs O V ko kv SG GL).f=false):=by show _=_;rw[z29 HKSG.out];exact hqf
  have HCB:Hid (zb8 n zs O V ko kv fi=true):=(zj0 hpv).1;have HPW:Hid (SG.Pairwise (fun a b=>a.v<b.v)):=(zD2.1 (zj0 HPV.out).2.1).1;have HNO2:=hdn hno;have HYES:=hdn hyes;have HPO:=hdn hpo1;clear hpv hpw hcc hll hqf hpo1 hno hyes HHE HNO HYS;have hrn2:R.length<=500:=by have:=HNR.out;omega
  have hln2:L.length<=500:=by have:=HM.out;omega
  have hsn2:SG.length<=500:=by have:=HNSG.out;omega
  have hgn2:GL.length<=500:=by have:=HMSG.out;omega
  have HRX:Hid (∀r∈R,r.ids.length<=12/\r.ids.length<=r.c):=fun r hr=>⟨by have:=HRI.out r hr;omega,HRC.out r hr⟩
  have IPQ:Hid (∀W,LP w W k kp #[.int .i64 n,.slice (some ⟨g,0,none⟩) zl cg,.slice (some ⟨go,0,none⟩) ko co,.slice (some ⟨gv,0,none⟩) kv cv,.int .i64 fi] ra nr rc la m lc g go gv zs O V R L->LQ W kq qa qn qc qk ql qd SG GL->Calls Tryz.prog 12 #[.agg #[.int .i64 n,.slice (some ⟨g,0,none⟩) zl cg,.slice (some ⟨go,0,none⟩) ko co,.slice (some ⟨gv,0,none⟩) kv cv,.int .i64 fi],.agg #[.slice qa qn qc,.slice qk ql qd]] W fun e w'=>e=.returned (.int .i64 0)/\Below W.heap.size W w'):=fun W h1 h2=>by
   have:=IPG.out qa qk qc qd SG GL W k kp h1 h2.r h2.l hsn2 HCSG.out hgn2 HGS.out;rw[HNSG.out,HMSG.out,HPV.out]at this;exact this
  have ICQ:Hid (∀W,LP w W k kp #[.int .i64 n,.slice (some ⟨g,0,none⟩) zl cg,.slice (some ⟨go,0,none⟩) ko co,.slice (some ⟨gv,0,none⟩) kv cv,.int .i64 fi] ra nr rc la m lc g go gv zs O V R L->LQ W kq qa qn qc qk ql qd SG GL->Calls Tryz.prog 13 #[.agg #[.int .i64 n,.slice (some ⟨g,0,none⟩) zl cg,.slice (some ⟨go,0,none⟩) ko co,.slice (some ⟨gv,0,none⟩) kv cv,.int .i64 fi],.agg #[.slice qa qn qc,.slice qk ql qd]] W fun e w'=>e=.returned (.int .i64 c2)/\Below W.heap.size W w'):=fun W h1 h2=>by
   have:=ICG.out qa qk qc qd SG GL W k kp h1 h2.r h2.l hsn2 HCSG.out hgn2 HGS.out;rw[HNSG.out,HMSG.out,HC2.out]at this;exact this
  have ICP:Hid (∀W,LP w W k kp #[.int .i64 n,.slice (some ⟨g,0,none⟩) zl cg,.slice (some ⟨go,0,none⟩) ko co,.slice (some ⟨gv,0,none⟩) kv cv,.int .i64 fi] ra nr rc la m lc g go gv zs O V R L->Calls Tryz.prog 13 #[.agg #[.int .i64 n,.slice (some ⟨g,0,none⟩) zl cg,.slice (some ⟨go,0,none⟩) ko co,.slice (some ⟨gv,0,none⟩) kv cv,.int .i64 fi],.agg #[.slice ra nr rc,.slice la m lc]] W fun e w'=>e=.returned (.int .i64 c1)/\Below W.heap.size W w'):=fun W h1=>by
   have:=ICG.out ra la rc lc R L W k kp h1 h1.r h1.l hrn2 HRX.out hln2 HLW.out;rw[HNR.out,HM.out,HC1.out]at this;exact this
  clear IPG ICG;have kS:=fun(W:World) (h1:LP w W k kp #[.int .i64 n,.slice (some ⟨g,0,none⟩) zl cg,.slice (some ⟨go,0,none⟩) ko co,.slice (some ⟨gv,0,none⟩) kv cv,.int .i64 fi] ra nr rc la m lc g go gv zs O V R L) (h2:LQ W kq qa qn qc qk ql qd SG GL)=>And.intro (zb6 h1.b1) (And.intro (za2 h1.b2) (za2 h2.b));have hkS:Hid _:=kS;clear kS
  go_wp2_with fail
  have hD:Below w11.heap.size w11 w11.drew:=(Below.refl _ _).drew;refine wp_region_held_drew (S:=(fun W=>(W.cell? ⟨k,0,none⟩=some (.int .i64 n)/\W.cell? ⟨k,1,none⟩=some (.slice (some ⟨g,0,none⟩) zl cg)/\W.cell? ⟨k,2,none⟩=some (.slice (some ⟨go,0,none⟩) ko co)/\W.cell? ⟨k,3,none⟩=some (.slice (some ⟨gv,0,none⟩) kv cv)/\W.cell? ⟨k,4,none⟩=some (.int .i64 fi))/\(W.cell? ⟨kp,0,none⟩=some (.slice ra nr rc)/\W.cell? ⟨kp,1,none⟩=some (.slice la m lc))/\W.cell? ⟨kq,0,none⟩=some (.slice qa qn qc)/\W.cell? ⟨kq,1,none⟩=some (.slice qk ql qd))) (by kernel_rfl) ?_ (fun hHeld=> ?_)
  ·exact hkS.out _ (K11.out.below hD) (Q11.out.below hD)
  have K12:Hid _:=K11.out.below hD;have Q12:Hid _:=Q11.out.below hD;have O12:Hid _:=O11.out.below hD;clear hD K11 Q11 O11;generalize w11.drew=w12 at*;refine tkH 0 hHeld ?_;refine tkH 1 hHeld ?_;refine wpAnyH_ready (rs:=[2]) (by kernel_rfl) (by simp) ?_;refine AllReadyH.cons rfl (fun K hK=> ?_) AllReadyH.nil;go_simp;refine(IPQ.out _ K12.out Q12.out).mono ?_;rintro e w13 ⟨rfl,hb⟩;have K13:Hid _:=K12.out.below hb;have Q13:Hid _:=Q12.out.below hb;have O13:Hid _:=O12.out.below hb;clear hb K12 Q12 O12
  (try go_wp2_with fail)
  refine hK.out _ _ ?_ (fun hHeld=> ?_)
  ·exact hkS.out _ K13.out Q13.out
  clear hK K
  (try simp only[Act.put,List.setIfInBounds_toArray,List.set_cons_zero,List.set_cons_succ])
  refine tkH 3 hHeld ?_;refine tkH 4 hHeld ?_;refine tkH 5 hHeld ?_;refine tkH 6 hHeld ?_;refine tkH 8 hHeld ?_;refine tkH 9 hHeld ?_;refine wpAnyH_ready (rs:=[7]) (by kernel_rfl) (by simp) ?_;refine AllReadyH.cons rfl (fun K hK=> ?_) AllReadyH.nil;go_simp;refine(ICQ.out _ K13.out Q13.out).mono ?_;rintro e w14 ⟨rfl,hb⟩;have K14:Hid _:=K13.out.below hb;have Q14:Hid _:=Q13.out.below hb;have O14:Hid _:=O13.out.below hb;clear hb K13 Q13 O13
  (try go_wp2_with fail)
  refine hK.out _ _ ?_ (fun hHeld=> ?_)
  ·exact hkS.out _ K14.out Q14.out
  clear hK K
  (try simp only[Act.put,List.setIfInBounds_toArray,List.set_cons_zero,List.set_cons_succ])
  refine wpAnyH_ready (rs:=[10]) (by kernel_rfl) (by simp) ?_;refine AllReadyH.cons rfl (fun K hK=> ?_) AllReadyH.nil;go_simp;refine(ICP.out _ K14.out).mono ?_;rintro e w15 ⟨rfl,hb⟩;have K15:Hid _:=K14.out.below hb;have Q15:Hid _:=Q14.out.below hb;have O15:Hid _:=O14.out.below hb;clear hb K14 Q14 O14
  (try go_wp2_with fail)
  refine hK.out _ _ ?_ (fun hHeld=> ?_)
  ·exact hkS.out _ K15.out Q15.out
  clear hK K
  (try simp only[Act.put,List.setIfInBounds_toArray,List.set_cons_zero,List.set_cons_succ])
  have hgd:decide (c1<c2)=false:=decide_eq_false (by have:=HCC.out;omega);have hgm:decide ((m:Int)<(ql:Int))=false:=decide_eq_false (by have:=HLL.out;omega);have hge:¬c1<c2:=by have:=HCC.out;omega
  have hgf:¬((m:Int)<(ql:Int)):=by have:=HLL.out;omega
  have hgg:decide (m<ql)=false:=decide_eq_false (by have:=HLL.out;omega);have hgh:¬m<ql:=by have:=HLL.out;omega
  refine tkH 11 hHeld ?_;refine tkH 12 hHeld ?_;refine tkH 13 hHeld ?_;refine tkH 14 hHeld ?_;refine tkH 15 hHeld ?_;refine tkH 16 hHeld ?_;refine tkH 17 hHeld ?_;refine tkH 18 hHeld ?_;refine tkH 19 hHeld ?_;refine tkH 20 hHeld ?_;refine tkH 21 hHeld ?_;refine wpAnyH_done (by kernel_rfl) ?_ _;clear hHeld
  go_wp2_with fail
  clear hgd hgm hge hgf hgg hgh hkS;have HBP:Hid (∀(veh id:Int) (bi:Option Addr) (ids:List Int) (c2:Nat) (s0:PS) W,LP w W k kp #[.int .i64 n,.slice (some ⟨g,0,none⟩) zl cg,.slice (some ⟨go,0,none⟩) ko co,.slice (some ⟨gv,0,none⟩) kv cv,.int .i64 fi] ra nr rc la m lc g go gv zs O V R L->za0 W bi ids->ids.length<=12->ids.length<=c2->((bi=none/\ids.length=0)∨∃b off,bi=some ⟨b,off,none⟩)->bpV true n zs O V ko kv veh ids id=s0->Calls Tryz.prog 14 #[.agg #[.int .i64 n,.slice (some ⟨g,0,none⟩) zl cg,.slice (some ⟨go,0,none⟩) ko co,.slice (some ⟨gv,0,none⟩) kv cv,.int .i64 fi],.agg #[.int .i64 veh,.slice bi ids.length c2],.int .i64 id] W fun e w'=>e=.returned (.tuple #[.int .i64 (s0.i:Int),.int .i64 s0.v,.bool s0.f])/\Below W.heap.size W w'):=fun veh id bi ids c2 s0 W h1 h2 h3 h4 h5 h6=>by
   have:=zz9 n fi veh (some ⟨g,0,none⟩) (some ⟨go,0,none⟩) (some ⟨gv,0,none⟩) bi cg ko co kv cv c2 zs O V ids W h1.iz h1.io h1.iv h2 HO.out HV.out (by omega) (by omega) (by omega) h4 h5 id s0 (by rw[HCB.out];exact h6);rw[HZ.out]at this;exact this
  go_loopw[13] (fun t wr=>∃i:Nat,i<=ql/\t=.int .i64 i/\LP w wr k kp #[.int .i64 n,.slice (some ⟨g,0,none⟩) zl cg,.slice (some ⟨go,0,none⟩) ko co,.slice (some ⟨gv,0,none⟩) kv cv,.int .i64 fi] ra nr rc la m lc g go gv zs O V R L/\LQ wr kq qa qn qc qk ql qd SG GL/\LQ wr kx oa on oc ok ol od SO OL) (fun t _=>ql - (intOf t).toNat)
  case atStart=>exact⟨0,Nat.zero_le _,rfl,K15.out,Q15.out,O15.out⟩
  case round=>
   obtain⟨i,hi,rfl,hK,hQ,hO⟩:=hrel;have KA:=hdn hK;have QA:=hdn hQ;have OA:=hdn hO;clear hK hQ hO K15 Q15 O15;obtain⟨q0,q1⟩:=za2 QA.out.b;by_cases hlt:i<ql
   ·have hltI:(i:Int)<(ql:Int):=by omega
    go_wp2_with fail
    clear q0 q1;go_loopw[14] (fun t wr=>∃j:Nat,j<=kv/\t=.int .i64 j/\LP w wr k kp #[.int .i64 n,.slice (some ⟨g,0,none⟩) zl cg,.slice (some ⟨go,0,none⟩) ko co,.slice (some ⟨gv,0,none⟩) kv cv,.int .i64 fi] ra nr rc la m lc g go gv zs O V R L/\LQ wr kq qa qn qc qk ql qd SG GL/\LQ wr kx oa on oc ok ol od SO OL) (fun t _=>kv - (intOf t).toNat)
    case atStart=>exact⟨0,Nat.zero_le _,rfl,KA.out,QA.out,OA.out⟩
    case round=>
     obtain⟨j,hj,rfl,hK,hQ,hO⟩:=hrel;have KB:=hdn hK;have QB:=hdn hQ;have OB:=hdn hO;clear hK hQ hO KA QA OA;obtain⟨d0,d1,d2,d3,d4⟩:=zb6 KB.out.b1;by_cases hjt:j<kv
     ·have hjI:(j:Int)<(kv:Int):=by omega
      obtain⟨vb,vo,ev,hvc⟩:=KB.out.iv (j*5) (by rw[HV.out];omega);simp only[Option.some.injEq,Addr.mk.injEq,and_true]at ev;obtain⟨rfl,rfl⟩:=ev;simp only[Nat.zero_add]at hvc;have HNP:Hid (∀s0:PS,bpV true n zs O V ko kv (V.getD (j*5) 0) (zd9 SG (V.getD (j*5) 0)).ids (GL.getD i 0)=s0->s0.f=true->fi<s0.v):=fun s0 hs=>yh6 HQF.out (by rw[HMSG.out];exact hlt) hjt hs
      obtain⟨veh,HVEH⟩:=nmd (V.getD (j*5) 0);obtain⟨id,HID⟩:=nmd (GL.getD i 0);rw[HVEH.out]at hvc HNP;rw[HID.out]at HNP;have BX:Hid (Below wr.heap.size wr (wr.alloc (.cells #[.int .i64 veh,.slice none 0 0] 43))):=(Below.refl _ _).alloc (Nat.le_refl _) _;have RX:=hdn (heap_alloc_new wr (.cells #[.int .i64 veh,.slice none 0 0] 43))
      go_wp2_with fail
      clear d0 d1 d2 d3 d4 hvc;generalize wr.alloc (.cells #[.int .i64 veh,.slice none 0 0] 43)=WX at*;obtain⟨bx,HBX⟩:=nmd wr.heap.size;rw[HBX.out]at BX RX⊢;obtain⟨wb,rfl⟩:∃v,v=wr:=⟨_,rfl⟩;go_loopw[16] (fun t wr=>∃y:Nat,y<=qn/\t=.int .i64 y/\Below bx wb wr/\wr.heap[bx]? =some (.cells #[.int .i64 veh,.slice (lkR SG veh y).a (lkR SG veh y).ids.length (lkR SG veh y).c] 43 (0,0))) (fun t _=>qn - (intOf t).toNat)
      case atStart=>exact⟨0,Nat.zero_le _,rfl,BX.out,RX.out⟩
      case round=>
       obtain⟨y,hy,rfl,hBy,hRy⟩:=hrel;have hBw:Below wb.heap.size wb wr:=by rw[HBX.out];exact hBy
       have KC:=hdn (KB.out.below hBw);have QC:=hdn (QB.out.below hBw);have OC:=hdn (OB.out.below hBw);have BY:=hdn hBy;have RY:=hdn hRy;clear hBy hRy hBw;by_cases hyt:y<qn
       ·have hyI:(y:Int)<(qn:Int):=by omega
        have HLK:Hid (lkR SG veh (y+1)=if(SG.getD y rt0).v=veh then SG.getD y rt0 else lkR SG veh y):=rfl;have DD:Hid (Below bx wb wr.drew):=BY.out.drew;have hD:Below wr.heap.size wr wr.drew:=(Below.refl _ _).drew;have RD1:=hdn (za1 hD (za3 RY.out) RY.out);have QD:=hdn (QC.out.below hD);obtain⟨rb,ro,er,r1,r2,-⟩:=QD.out.r y (by rw[HNSG.out];exact hyt);subst er;clear hD;generalize SG.getD y rt0=rr at*;obtain⟨rv,ra9,rids,rc9⟩:=rr;simp only at r1 r2 HLK;obtain⟨rl,HRLN⟩:=nmd rids.length;rw[HRLN.out]at r2;obtain⟨q0,q1⟩:=za2 QD.out.b;obtain⟨x0,x1⟩:=za2 RD1.out;obtain⟨qw0,qw1⟩:=za2 QC.out.b
        go_wp2_with fail
        clear qw0 qw1;by_cases hv:rv=veh
        ·have HL2:Hid (lkR SG veh (y+1)=⟨rv,ra9,rids,rc9⟩):=by show _=_;rw[HLK.out,if_pos hv]
         replace hv:=hv.symm;subst hv;have hvb:(veh==veh)=true:=by simp
         refine wp_region_held_drew (S:=(fun W=>W.cell? ⟨kq,0,none⟩=some (.slice (some ⟨rb,ro,none⟩) qn qc)/\W.cell? ⟨rb,ro+y*2,none⟩=some (.int .i64 veh)/\W.cell? ⟨bx,0,none⟩=some (.int .i64 veh))) (by kernel_rfl) ?_ (fun hHeld=> ?_)
         ·exact⟨q0,r1,x0⟩
         generalize wr.drew=wd at*;refine tkH 0 hHeld ?_;refine tkH 1 hHeld ?_;refine tkH 2 hHeld ?_;refine tkH 3 hHeld ?_;refine tkH 4 hHeld ?_;refine tkH 5 hHeld ?_;refine tkH 6 hHeld ?_;refine tkH 7 hHeld ?_;refine tkH 8 hHeld ?_;refine wpAnyH_done (by kernel_rfl) ?_ _;clear hHeld;have xf:=fun i=>frozen_of_row _ _ i _ _ RD1.out;have RW:=zc6 (i:=1) (.slice ra9 rl rc9) (zc6 (i:=0) (.int .i64 veh) RD1.out);simp only[List.setIfInBounds_toArray,List.set_cons_zero,List.set_cons_succ]at RW;have RW2:Hid ((((wd).setCell ⟨bx,0,none⟩ (.int .i64 veh)).setCell ⟨bx,1,none⟩ (.slice ra9 rl rc9)).heap[bx]? =some (.cells #[.int .i64 veh,.slice (lkR SG veh (y+1)).a (lkR SG veh (y+1)).ids.length (lkR SG veh (y+1)).c] 43 (0,0))):=by rw[HL2.out];simp only[HRLN.out];exact RW
         have BW2:Hid (Below bx wb (((wd).setCell ⟨bx,0,none⟩ (.int .i64 veh)).setCell ⟨bx,1,none⟩ (.slice ra9 rl rc9))):=(DD.out.setCell (Nat.le_refl _) _).setCell (Nat.le_refl _) _;clear RW HLK HL2
         go_wp2_with fail
         first
          |exact⟨⟨y+1,by omega,by first|rfl|go_num,BW2.out,RW2.out⟩,by simp[intOf];omega⟩
          |(go_roundw
            case rel=>exact⟨y+1,by omega,by first|rfl|go_num,BW2.out,RW2.out⟩
            case measure=>simp[intOf];omega)
        ·have HL2:Hid (lkR SG veh (y+1)=lkR SG veh y):=by show _=_;rw[HLK.out,if_neg hv]
         have hvb:(rv==veh)=false:=by simpa using hv
         refine wp_region_held_drew (S:=(fun W=>W.cell? ⟨kq,0,none⟩=some (.slice (some ⟨rb,ro,none⟩) qn qc)/\W.cell? ⟨rb,ro+y*2,none⟩=some (.int .i64 rv)/\W.cell? ⟨bx,0,none⟩=some (.int .i64 veh))) (by kernel_rfl) ?_ (fun hHeld=> ?_)
         ·exact⟨q0,r1,x0⟩
         generalize wr.drew=wd at*;refine tkH 0 hHeld ?_;refine tkH 1 hHeld ?_;refine tkH 2 hHeld ?_;refine tkH 3 hHeld ?_;refine tkH 4 hHeld ?_;refine tkH 5 hHeld ?_;refine tkH 6 hHeld ?_;refine tkH 7 hHeld ?_;refine tkH 8 hHeld ?_;refine wpAnyH_done (by kernel_rfl) ?_ _;clear hHeld;have RW2:Hid (wd.heap[bx]? =some (.cells #[.int .i64 veh,.slice (lkR SG veh (y+1)).a (lkR SG veh (y+1)).ids.length (lkR SG veh (y+1)).c] 43 (0,0))):=by rw[HL2.out];exact RD1.out
         clear HLK HL2
         go_wp2_with fail
         first
          |exact⟨⟨y+1,by omega,by first|rfl|go_num,DD.out,RW2.out⟩,by simp[intOf];omega⟩
          |(go_roundw
            case rel=>exact⟨y+1,by omega,by first|rfl|go_num,DD.out,RW2.out⟩
            case measure=>simp[intOf];omega)
       ·have hyI:¬((y:Int)<(qn:Int)):=by omega
        have hye:y=SG.length:=by rw[HNSG.out];omega
        have LF:=yk6 (veh:=veh) QC.out.r HCSG.out HASG.out;have LA:=yo7 HPW.out veh;rw[hye]at RY;rw[<-LA]at HNP;obtain⟨xr,HXR⟩:=nmd (lkR SG veh SG.length);rw[HXR.out]at LF RY HNP;obtain⟨xv,xa9,xids,xc9⟩:=xr;simp only at LF RY HNP;obtain⟨lf1,lf2,lf3,lf4⟩:=LF;have LF1:=hdn lf1;have LF4:=hdn lf4;obtain⟨s0,HS0⟩:=nmd (bpV true n zs O V ko kv veh xids id);have HBQ:Hid (∀W,Below wr.heap.size wr W->_):=fun W hW=>HBP.out veh id xa9 xids xc9 s0 W (KC.out.below hW) (LF1.out.below hW) lf2 lf3 LF4.out HS0.out;have HNQ:=hdn (HNP.out s0 HS0.out);obtain⟨xl,HXL⟩:=nmd xids.length;rw[HXL.out]at RY HBQ;clear HNP HS0 LA hye lf1 lf2 lf3 lf4 LF1 LF4 HXR;obtain⟨gb,gof,eg,hgc⟩:=QC.out.l i (by rw[HMSG.out];exact hlt);subst eg;rw[HID.out]at hgc;have hD:Below wr.heap.size wr wr.drew:=(Below.refl _ _).drew;have kS2:=fun(W:World) (h:Below wr.heap.size wr W)=>And.intro (zb6 (KC.out.below h).b1) (And.intro (za2 (za1 h (za3 RY.out) RY.out)) (And.intro (za2 (QC.out.below h).b).2 ((h.cell (p:=⟨gb,gof+i,none⟩) (block_lt_of_cell hgc)).trans hgc)));have hkS2:Hid _:=kS2;clear kS2;obtain⟨qw0,qw1⟩:=za2 QC.out.b
        go_wp2_with fail
        clear qw0 qw1;refine wp_region_held_drew (S:=(fun W=>(W.cell? ⟨k,0,none⟩=some (.int .i64 n)/\W.cell? ⟨k,1,none⟩=some (.slice (some ⟨g,0,none⟩) zl cg)/\W.cell? ⟨k,2,none⟩=some (.slice (some ⟨go,0,none⟩) ko co)/\W.cell? ⟨k,3,none⟩=some (.slice (some ⟨gv,0,none⟩) kv cv)/\W.cell? ⟨k,4,none⟩=some (.int .i64 fi))/\(W.cell? ⟨bx,0,none⟩=some (.int .i64 veh)/\W.cell? ⟨bx,1,none⟩=some (.slice xa9 xl xc9))/\W.cell? ⟨kq,1,none⟩=some (.slice (some ⟨gb,gof,none⟩) ql qd)/\W.cell? ⟨gb,gof+i,none⟩=some (.int .i64 id))) (by kernel_rfl) ?_ (fun hHeld=> ?_)
        ·exact hkS2.out _ hD
        have CB9:=hdn (HBQ.out _ hD);have HD:=hdn hD;clear hD HBQ;generalize wr.drew=wd at*;refine tkH 0 hHeld ?_;refine tkH 1 hHeld ?_;refine tkH 2 hHeld ?_;refine tkH 3 hHeld ?_;refine tkH 4 hHeld ?_;refine tkH 5 hHeld ?_;refine tkH 6 hHeld ?_;refine wpAnyH_ready (rs:=[7]) (by kernel_rfl) (by simp) ?_;refine AllReadyH.cons rfl (fun K hK=> ?_) AllReadyH.nil;go_simp;refine CB9.out.mono ?_;rintro e we ⟨rfl,hb⟩;have HE:=hdn (HD.out.trans (hb.mono HD.out.size));clear hb CB9
        (try go_wp2_with fail)
        refine hK.out _ _ ?_ (fun hHeld=> ?_)
        ·exact hkS2.out _ HE.out
        clear hK K
        (try simp only[Act.put,List.setIfInBounds_toArray,List.set_cons_zero,List.set_cons_succ])
        refine tkH 8 hHeld ?_;refine tkH 9 hHeld ?_;refine tkH 10 hHeld ?_;refine tkH 11 hHeld ?_;refine tkH 12 hHeld ?_;refine tkH 13 hHeld ?_;refine tkH 14 hHeld ?_;refine wpAnyH_done (by kernel_rfl) ?_ _;clear hHeld;have KE:=hdn (KC.out.below HE.out);have QE:=hdn (QC.out.below HE.out);have OE:=hdn (OC.out.below HE.out);clear hkS2 HD HE KC QC OC;obtain⟨sf,si,sv⟩:=s0;simp only at HNQ;obtain⟨d0,d1,d2,d3,d4⟩:=zb6 KE.out.b1;cases sf
        ·go_wp2_with fail
         first
          |exact⟨⟨j+1,by omega,by first|rfl|go_num,KE.out,QE.out,OE.out⟩,by simp[intOf];omega⟩
          |(go_roundw
            case rel=>exact⟨j+1,by omega,by first|rfl|go_num,KE.out,QE.out,OE.out⟩
            case measure=>simp[intOf];omega)
        ·have hnp:¬sv<=fi:=by have:=HNQ.out rfl;omega
         go_wp2_with fail
         first
          |exact⟨⟨j+1,by omega,by first|rfl|go_num,KE.out,QE.out,OE.out⟩,by simp[intOf];omega⟩
          |(go_roundw
            case rel=>exact⟨j+1,by omega,by first|rfl|go_num,KE.out,QE.out,OE.out⟩
            case measure=>simp[intOf];omega)
     ·have hjI:¬((j:Int)<(kv:Int)):=by omega
      go_wp2_with fail
      first
       |exact⟨⟨i+1,by omega,by first|rfl|go_num,KB.out,QB.out,OB.out⟩,by simp[intOf];omega⟩
       |(go_roundw
         case rel=>exact⟨i+1,by omega,by first|rfl|go_num,KB.out,QB.out,OB.out⟩
         case measure=>simp[intOf];omega)
   ·have hltI:¬((i:Int)<(ql:Int)):=by omega
    have IGA:=hdn (IGG.out oa ok on oc ol od SO OL wr k kp KA.out ⟨HNSO.out,HMSO.out,OA.out.r,OA.out.l,HFSO.out.1,HFSO.out.2,fun r hr=>(HCSO.out r hr).2⟩ hon5 (fun r hr=>(HCSO.out r hr).1) hol5 HOS.out (fun x hx=>HTSO.out x (by have:=za3 OA.out.b;omega)));obtain⟨AK1,AK2⟩:=ys8 (n:=n) (fine:=fi) (zs:=zs) (os:=O) (vs:=V) (ko:=ko) (kv:=kv) OL HKSO.out;obtain⟨AF,HAF⟩:=nmd (gaF n fi zs O V ko kv SO OL);obtain⟨AR,HAR⟩:=nmd (gaR n fi zs O V ko kv SO OL);obtain⟨AL,HAL2⟩:=nmd (gaL n fi zs O V ko kv SO OL);rw[HAF.out,HAR.out,HAL2.out]at IGA;rw[HAR.out]at AK1;rw[HAL2.out]at AK2;have HAK1:=hdn AK1;have HAK2:=hdn AK2;clear AK1 AK2 HAF HAR HAL2;obtain⟨d0,d1,d2,d3,d4⟩:=zb6 KA.out.b1;obtain⟨oc0,oc1⟩:=za2 OA.out.b
    go_wp2_with fail
    clear q0 q1;refine IGA.out.mono ?_;rintro e wg ⟨aa,an,ac,ak,al,ad,SA,rfl,hb,hsn,hln,hky,hpo,-⟩;have hA:Below wg.heap.size wg (wg.alloc (.cells #[.slice aa an ac,.slice ak al ad] 33)):=(Below.refl _ _).alloc (Nat.le_refl _) _;have hbA:=hb.trans (hA.mono hb.size);have KE:=hdn (KA.out.below hbA);have QE:=hdn (QA.out.below hbA);have OE:=hdn (OA.out.below hbA);have AE:=hdn (LQ.new hpo hsn hln);have HSA:=hdn hsn;have HLA9:=hdn hln;have HKA:=hdn hky;clear hb hsn hln hky hpo hA hbA KA QA OA IGA d0 d1 d2 d3 d4 oc0 oc1;obtain⟨q0,q1⟩:=za2 QE.out.b;obtain⟨o0,o1⟩:=za2 OE.out.b;obtain⟨p0,p1⟩:=za2 KE.out.b2;obtain⟨a0,a1⟩:=za2 AE.out.b;cases OF
    ·obtain⟨e1,e2⟩:=HNO2.out rfl
     have e3:qn=nr:=by rw[<-HNSG.out,<-HNR.out];have:=congrArg List.length HKSG.out;rw[e1]at this;simpa using this
     have e4:ql=m:=by rw[<-HMSG.out,<-HM.out,e2]
     subst e3 e4;have HS9:Hid (R.map RT.key=SG.map RT.key):=by show _=_;rw[HKSG.out,e1]
     have HG9:Hid (GL=L):=e2;clear e1 e2
     go_wp2_with fail
     generalize wg.alloc (.cells #[.slice aa an ac,.slice ak al ad] 33)=WE at*;refine(SAM.out _ _ _ _ _ _ _ _ _ _ SG R L WE QE.out.r KE.out.r HS9.out HNSG.out hqn5 (fun r hr=>(HCSG.out r hr).1) (by have:=QE.out.l;rw[HG9.out]at this;exact this) KE.out.l HM.out hql5).mono ?_;rintro e wz ⟨rfl,hb⟩;have B9:=hdn (KE.out.below hb).b;clear hb;go_wp2;go_ret;exact⟨by first|rfl|simp,B9.out⟩
    ·obtain⟨e1,e2,e3⟩:=HYES.out rfl
     have HS9:Hid (SG.map RT.key=SA.map RT.key):=by show _=_;rw[HKA.out,HAK1.out,e1,HKSG.out]
     have HG9:Hid (AL=GL):=by show _=_;rw[HAK2.out,e2]
     have f3:an=qn:=by rw[<-HSA.out,<-HNSG.out];have:=congrArg List.length HS9.out;simp only[List.length_map]at this;omega
     have f4:al=ql:=by rw[<-HLA9.out,<-HMSG.out,HG9.out]
     subst f3 f4;have hom:ol+1=m:=by rw[<-HMSO.out,<-HM.out];exact e3
     have hwm:IntKind.i64.wrap ((m:Int) - 1)=(ol:Int):=by rw[IntKind.wrap_i64];omega
     have HI9:Hid (∀r∈SA,r.ids.length<=12):=fun r hr=>(zo4 HS9.out.symm (fun x hx=>⟨List.ne_nil_of_length_pos (by
      have:=(zo4 HKSG.out HBD.out.1 x hx).1;exact List.length_pos_iff.2 this),(HCSG.out x hx).1⟩) r hr).2
     clear e1 e2 e3;have hoe:((ol:Int)==(ol:Int))=true:=by simp
     go_wp2_with fail
     generalize wg.alloc (.cells #[.slice aa an ac,.slice ak al ad] 33)=WE at*;refine(SAM.out _ _ _ _ _ _ _ _ _ _ SA SG GL WE AE.out.r QE.out.r HS9.out HSA.out hqn5 HI9.out (by have:=AE.out.l;rw[HG9.out]at this;exact this) QE.out.l HMSG.out hql5).mono ?_;rintro e wz ⟨rfl,hb⟩;have B9:=hdn (KE.out.below hb).b;have O9:=hdn (OE.out.below hb);have K9:=hdn (KE.out.below hb);clear hb q0 q1 o0 o1 p0 p1 a0 a1;obtain⟨o0,o1⟩:=za2 O9.out.b;obtain⟨p0,p1⟩:=za2 K9.out.b2;go_wp2;go_ret;exact⟨by first|rfl|simp,B9.out⟩
theorem zM0(a:Option Addr)(c:Nat)(bs:List Int)(w:World)(hA:zu4 w a bs)(hl:bs.length<=9223372036854775807):
 Calls Tryz.prog 3 #[.slice a bs.length c] w fun e w'=>e=.returned (.bool true)/\Below w.heap.size w w':=by
 by_cases h:bs.length<=1048576
 ·exact zy5 a c bs w hA h
 ·exact z67 a c bs.length w hl (by omega)
end Go.Proofs.YtjobhigmdaiinaaGreat
