import Derived.Test.YtkchnomkiboihaaGreatPack4
import Derived.RangeFuncNested
import Derived.RangeFuncBound
import Derived.Shelf.RegionOpen
import Derived.OwnWalkIn
import Derived.LoopNIn
import Derived.LoopIn
import Derived.Deep.Cut
set_option linter.unusedSimpArgs false
set_option maxHeartbeats 2000000
set_option maxRecDepth 100000
namespace Go.Proofs.YtkchnomkiboihaaGreat
open RowKit renaming Below→Za,Hid→Zb
theorem qN:type_of% @Array.getElem?_eq_some_iff:=@Array.getElem?_eq_some_iff
open Value renaming slice→za,int→ze
open IntKind renaming i64→zd
open Obj renaming cells→zg
open Proofs.Tryz renaming prog→zh
open Go renaming World→zi
open List renaming length→zo,range→zt
open Go.RowKit Go.Shelf
open Q
attribute [local go_sem] Oper.semAt_some
theorem zR0{w w':zi}(h:Za w.heap.size w w'):w.grownBy w' none:=⟨h.os,h.tape,h.output,h.size,fun k hk _=>h.block k hk⟩
def KpT(n₀ Bt:Nat)(o:Obj)(W W':zi):Prop:=Za n₀ W W'/\(W.heap[Bt]? =some o->W'.heap[Bt]? =some o)
theorem KpT.trans{n₀ Bt:Nat}{o:Obj}{A B C:zi}(h:KpT n₀ Bt o A B)(g:KpT n₀ Bt o B C):KpT n₀ Bt o A C:=⟨h.1.trans g.1,fun x=>g.2 (h.2 x)⟩
theorem zM1(n v0 home v2 am to:Int)(a ar:Option Addr)(ac m cr:Nat)(zs:List Int)(w:zi):
 Calls zh 150 #[.agg #[ze zd n,za a zs.length ac,ze zd v0,ze zd home,ze zd v2,ze zd am,ze zd to,za ar m cr]] w fun e w'=>e=.returned (.func (.func 179) #[] #[.pointer (some ⟨w.heap.size,0,none⟩)])/\w'=w.alloc (zg #[ze zd n,za a zs.length ac,ze zd v0,ze zd home,ze zd v2,ze zd am,ze zd to,za ar m cr] 119):=by
 go_enter Tryz.func150,Tryz.ntmps150;go_wp2;go_ret;exact⟨rfl,rfl⟩
theorem yq6(nf:Nat)(Ck:1<=nf)(l Bt n₀:Nat)(n v0 home v2 am to:Int)(a ar:Option Addr)(ac m cr:Nat)(zs ros:List Int)(J Jx:List (Fin m)->zi->Prop)
 (hY:∀pre x W,J pre W->pre.length<m->YieldAt Fence.wide (nf - 1) zh l #[.agg #[ze zd (og6 ros x.val 0),ze zd (og6 ros x.val 1),ze zd (og6 ros x.val 2),ze zd (og6 ros x.val 3),ze zd (og6 ros x.val 4),ze zd (og6 ros x.val 5)],.agg #[ze zd (og6 ros x.val 0),ze zd (yi6 n zs ros home am x.val),ze zd (zi1 n zs ros home am x.val),ze zd (zz0 n zs ros home am (x.val+1))]] W fun e W'=>
   (e=.returned (.bool true)/\J (pre++[x]) W'/\KpT n₀ Bt (zg #[ze zd n,za a zs.length ac,ze zd v0,ze zd home,ze zd v2,ze zd am,ze zd to,za ar m cr] 119 (0,0)) W W')∨(e=.returned (.bool false)/\Jx (pre++[x]) W'))
 (w W:zi) (Kl:AbidesFrom W.heap.size J) (GP:w.heap.size<=n₀) (JQ:Za w.heap.size w W) (hT:W.heap[Bt]? =some (zg #[ze zd n,za a zs.length ac,ze zd v0,ze zd home,ze zd v2,ze zd am,ze zd to,za ar m cr] 119 (0,0))) (hm:zq9 n zs=true) (hA:za3 w a zs) (hR:za3 w ar ros) (hl:ros.length=m*6) (dm:z61 n ros m) (hh:0<=home/\home<n) (hf:0<=am/\am<=1000000) (dC:m<=12) (h0:J [] W):
 Calls zh 179 #[.func (.yield l) #[] #[],.pointer (some ⟨Bt,0,none⟩)] W fun e W'=>(∃v,e=.returned v)∧
  ((∃ys:List (Fin m),ys.map Fin.val=zt m/\J ys W')∨(∃pre:List (Fin m),(∃k,k<=m/\pre.map Fin.val=zt k)/\Jx pre W')):=by
 have HM:Zb _:=hm;have HA:=za4 hA;have HR:=za4 hR;have HL:Zb _:=hl;have dG:=za4 dm;have HH:Zb _:=hh;have HF:Zb _:=hf;have HY:Zb _:=hY;have C':=za4 Kl;have aU:Zb _:=JQ;have DH:=za4 hT;have IP:Zb _:=h0;clear hm hA hR hl dm hh hf hY Kl JQ hT h0;go_enter Tryz.func179,Tryz.ntmps179;obtain⟨t0,t1,t2,t3,t4,t5,t6,t7⟩:=zk4 DH.X;have u3:=fun s:Kin W=>s.cell t3;have u5:=fun s:Kin W=>s.cell t5
 go_wp2_with fail
 have aV:=Kin.there W;refine zb1 (by kernel_rfl) (by kernel_rfl) ?_
 repeat(go_big_quiet_step ((fail)))
 refine xA ?_;rintro _ ⟨s,rfl⟩;have eD:Zb _:=aU.trans (s.below.mono aU.size);have rO:=za4 (za0 s.below (za2 DH.X) DH.X);have JB:Zb _:=C'.X _ _ _ none IP.X (zR0 s.below) (fun r e=>by cases e);have i_:Zb _:=s.below.size;clear t0 t1 t2 t3 t4 t5 t6 t7 u3 u5 aU DH IP aV;generalize s.w=W1 at*;obtain⟨t0,t1,t2,t3,t4,t5,t6,t7⟩:=zk4 rO.X
 go_wp2_with fail
 clear t0 t1 t2 t3 t4 t5 t6 t7;go_loopw[3,4,18] (fun pl nw t wr=>∃(k:Nat) (pre:List (Fin m)),k<=m/\t=ze zd k/\pl=ze zd (plc ros home k)/\nw=ze zd (zz0 n zs ros home am k)/\pre.map Fin.val=zt k/\J pre wr/\Za w.heap.size w wr/\W.heap.size<=wr.heap.size/\wr.heap[Bt]? =some (zg #[ze zd n,za a zs.length ac,ze zd v0,ze zd home,ze zd v2,ze zd am,ze zd to,za ar m cr] 119 (0,0))) (fun _ _ t _=>m - (intOf t).toNat)
 case atStart=>exact⟨0,[],xi _,rfl,rfl,rfl,rfl,JB.X,eD.X,i_.X,rO.X⟩
 case round=>
  clear eD rO JB i_;obtain⟨k,pre,hk,rfl,rfl,rfl,vV,hj,hb,bW,ht⟩:=hrel;have aT:=zY7 dG.X HH.1 HH.2 k hk;have lL:=zS6 (home:=home) HM.X dG.X HF.X k hk;have lD:Zb _:=vV;have HJ:Zb _:=hj;have HB:Zb _:=hb;have i_:Zb _:=bW;have HT:=za4 ht;obtain⟨t0,t1,t2,t3,t4,t5,t6,t7⟩:=zk4 ht;obtain⟨p,bm⟩:=nmd (plc ros home k);obtain⟨f,eZ⟩:=nmd (zz0 n zs ros home am k);rw[bm.X]at aT;rw[eZ.X]at lL;rw[bm.X,eZ.X];have mz:Zb _:=aT;clear vV hj hb bW ht aT;by_cases ah:k<m
  ·obtain⟨b,off,rfl,aJ⟩:=za3.some (za3.below HR.X HB.X) (j:=k*6) (by rw[HL.X];omega)
   obtain⟨r0,r1,r2,r3,r4,r5⟩:=zu5 aJ HL.X k ah;clear aJ;obtain⟨uV,Ea,Fq,Gw,Gz⟩:=dG.X k ah;have fq:Zb _:=uV;have DU:=HY.X pre ⟨k,ah⟩;clear uV Ea;obtain⟨o0,H0⟩:=nmd (og6 ros k 0);obtain⟨o1,H1⟩:=nmd (og6 ros k 1);obtain⟨o2,H2⟩:=nmd (og6 ros k 2);obtain⟨o3,H3⟩:=nmd (og6 ros k 3);obtain⟨o4,H4⟩:=nmd (og6 ros k 4);obtain⟨o5,H5⟩:=nmd (og6 ros k 5);rw[H3.X]at Fq;rw[H4.X]at Gw;rw[H5.X]at Gz;rw[H1.X]at fq;rw[H0.X]at r0;rw[H1.X]at r1;rw[H2.X]at r2;rw[H3.X]at r3;rw[H4.X]at r4;rw[H5.X]at r5;obtain⟨d,HD⟩:=nmd (tmI n zs p o1);have ki:=zx8 HM.X p o1;rw[HD.X]at ki;have BM:Zb (yi6 n zs ros home am k=f+d):=by
    show _=_;unfold yi6;rw[eZ.X,bm.X,H1.X,HD.X]
   have iX:Zb (zi1 n zs ros home am k=max (f+d) o3):=by
    show _=_;unfold zi1;rw[BM.X,H3.X]
   have a8:Zb (zz0 n zs ros home am (k+1)=max (f+d) o3+o5):=by
    show _=_;rw[ya3,iX.X,H5.X]
   obtain⟨mx,mC⟩:=nmd (max (f+d) o3);rw[mC.X]at iX a8;have MI:0<=mx/\mx<=3000000:=by
    have:=mC.X;omega
   dsimp only at DU;rw[H0.X,H1.X,H2.X,H3.X,H4.X,H5.X,BM.X,iX.X,a8.X]at DU;have Fg:=za4 DU;clear DU;have lX:Zb (Za w.heap.size w (wr.alloc (zg #[ze zd o0,ze zd o1,ze zd o2,ze zd o3,ze zd o4,ze zd o5] 103))):=HB.alloc HB.size _;have C9:Zb ((wr.alloc (zg #[ze zd o0,ze zd o1,ze zd o2,ze zd o3,ze zd o4,ze zd o5] 103)).heap[Bt]? =_):=(xg _ _ (za2 HT.X)).trans HT.X;have iO:Zb ((wr.alloc (zg #[ze zd o0,ze zd o1,ze zd o2,ze zd o3,ze zd o4,ze zd o5] 103)).heap[wr.heap.size]? =_):=zS _ _;have Bm:Zb (J pre (wr.alloc (zg #[ze zd o0,ze zd o1,ze zd o2,ze zd o3,ze zd o4,ze zd o5] 103))):=C'.X _ _ _ none HJ.X (World.grownBy_alloc wr _ none) (fun r e=>by cases e);have Kb:Zb (W.heap.size<=(wr.alloc (zg #[ze zd o0,ze zd o1,ze zd o2,ze zd o3,ze zd o4,ze zd o5] 103)).heap.size):=xj i_.X (by simp);obtain⟨i0,i1,i2,i3,i4,i5⟩:=zi0 iO.X;obtain⟨s0,s1,s2,s3,s4,s5,s6,s7⟩:=zk4 C9.X
   go_wp2_with fail
   clear r0 r1 r2 r3 r4 r5 t0 t1 t2 t3 t4 t5 t6 t7 i0 i1 i2 i3 i4 i5 s0 s1 s2 s3 s4 s5 s6 s7;generalize wr.alloc _=W2 at*;generalize wr.heap.size=g at*;refine(zC8 n p o1 v0 home v2 am to _ _ _ _ _ zs _ d HD.X HM.X mz.X fq.X (HA.below lX.X)).mono ?_;rintro e W3 ⟨rfl,cG⟩;have lJ:Zb _:=lX.trans (cG.mono lX.size);have Ik:=za4 (za0 cG (za2 C9.X) C9.X);have uU:=za4 (za0 cG (za2 iO.X) iO.X);have Ja:Zb _:=C'.X _ _ _ none Bm.X (zR0 cG) (fun r e=>by cases e);have mp:Zb _:=xj Kb.X cG.size;clear cG lX C9 iO Bm Kb;obtain⟨i0,i1,i2,i3,i4,i5⟩:=zi0 uU.X;have vR:(f+d<o3/\mx=o3)∨(o3<=f+d/\mx=f+d):=by
    have:=mC.X;omega
   rcases vR with⟨vL,rfl⟩|⟨vL,rfl⟩
   all_goals
    clear mC
    go_wp2_with fail
    have e1:=fun s:Kin W3=>s.cell i1;have e5:=fun s:Kin W3=>s.cell i5;have aV:=Kin.there W3;refine zb1 (by kernel_rfl) (by kernel_rfl) ?_
    repeat(go_big_quiet_step ((fail)))
    refine xA ?_;rintro _ ⟨s2,rfl⟩;have Mv:Zb _:=lJ.trans (s2.below.mono lJ.size);have Mn:=za4 (za0 s2.below (za2 Ik.X) Ik.X);have Mu:=za4 (za0 s2.below (za2 uU.X) uU.X);have OO:Zb _:=C'.X _ _ _ none Ja.X (zR0 s2.below) (fun r e=>by cases e);have Gn:Zb _:=xj mp.X s2.below.size;clear i0 i1 i2 i3 i4 i5 e1 e5 aV lJ Ik uU Ja mp;generalize s2.w=W4 at*;obtain⟨i0,i1,i2,i3,i4,i5⟩:=zi0 Mu.X;have aT:pre.length<m:=by
     have:=congrArg zo lD.X;simp at this;omega
    go_upto_region 7 with(fail);refine(wpIn_wide (n:=nf)).1 ?_;obtain⟨fn,tmps,ij,pi,hy,hR⟩:=Fg.X W4 OO.X aT;have um:=za4 hR;clear hR
    gi_wp2
    refine um.mono ?_;rintro e W5 (⟨rfl,JR,fw⟩|⟨rfl,Ae⟩)
    ·have Lt:Zb _:=JR
     have Li:Zb _:=Mv.trans (fw.1.mono GP);have m':Zb (W5.heap[Bt]? =_):=fw.2 Mn.X;have tu:Zb _:=xj Gn.X fw.1.size;have mV:Zb ((pre++[(⟨k,ah⟩:Fin m)]).map Fin.val=zt (k+1)):=by
      show _=_;rw[x8,lD.X,yN];rfl
     clear JR fw hy um
     gi_wp2
     go_wp2;go_roundw
     case rel=>exact⟨k+1,_,by omega,by go_num,by rw[<-H1.X];rfl,by rw[a8.X],mV.X,Lt.X,Li.X,tu.X,m'.X⟩
     case measure=>simp[intOf];omega
    ·have FC:Zb _:=Ae
     have mV:Zb ((pre++[(⟨k,ah⟩:Fin m)]).map Fin.val=zt (k+1)):=by
      show _=_;rw[x8,lD.X,yN];rfl
     clear Ae hy um
     gi_wp2
     go_wp2;refine xe (results_none rfl _ _ _) rfl ?_;exact⟨⟨_,rfl⟩,.inr ⟨_,⟨k+1,ah,mV.X⟩,FC.X⟩⟩
  ·obtain rfl:k=m:=by omega
   go_wp2
   go_end0
   exact⟨⟨_,rfl⟩,.inl ⟨_,lD.X,HJ.X⟩⟩
attribute [local go_sem] Oper.semAt_some
theorem KpT.putObj{n₀ Bt:Nat}{ob:Obj}(Pl:ob.isCells=true){w:zi}(hn:n₀<=w.heap.size)(W:zi)(l:Nat)(o o':Obj)(hl:w.heap.size<=l)(h:W.heap[l]? =some o)(hc:o.isCells=false)(hw:o.isWalk=false):KpT n₀ Bt ob W (W.putObj l o'):=by
 refine⟨belowK_b hn W l o o' hl h hc hw,fun hT=> ?_⟩;have aq:Bt≠l:=by
  intro e;rw[e,h]at hT;cases hT;rw[Pl]at hc;cases hc
 exact((grownBy_putObj' W l o').block Bt (qN.1 hT).1 (fun e=>aq (by cases e;rfl))).trans hT
theorem KpT.alloc{n₀ Bt:Nat}{ob:Obj}(W:zi)(o:Obj)(hn:n₀<=W.heap.size):KpT n₀ Bt ob W (W.alloc o):=
 ⟨(y5 _ _).alloc hn _,fun h=>(xg _ _ (qN.1 h).1).trans h⟩
theorem KpT.set{n₀ Bt:Nat}{ob:Obj}(W:zi)(k i:Nat)(v:Value)(hn:n₀<=k)(aq:Bt≠k):KpT n₀ Bt ob W (W.setCell ⟨k,i,none⟩ v):=
 ⟨(y5 _ _).setCell hn _,fun h=>za8 h aq⟩
theorem zA4(nf:Nat)(Ck:1<=nf)(Bt n₀:Nat)(n v0 home v2 am to:Int)(a ar:Option Addr)(ac m cr:Nat)(zs ros:List Int)(w w0:zi)(GP:w.heap.size<=n₀)(wh:Za w.heap.size w w0)(hT:w0.heap[Bt]? =some (zg #[ze zd n,za a zs.length ac,ze zd v0,ze zd home,ze zd v2,ze zd am,ze zd to,za ar m cr] 119 (0,0)))(hm:zq9 n zs=true)(hA:za3 w a zs)(hR:za3 w ar ros)(hl:ros.length=m*6)(dm:z61 n ros m)(hh:0<=home/\home<n)(hf:0<=am/\am<=1000000)(dC:m<=12):
 SeqStopsK Fence.wide nf zh 179 #[.pointer (some ⟨Bt,0,none⟩)] (fun x:Fin m=>#[.agg #[ze zd (og6 ros x.val 0),ze zd (og6 ros x.val 1),ze zd (og6 ros x.val 2),ze zd (og6 ros x.val 3),ze zd (og6 ros x.val 4),ze zd (og6 ros x.val 5)],.agg #[ze zd (og6 ros x.val 0),ze zd (yi6 n zs ros home am x.val),ze zd (zi1 n zs ros home am x.val),ze zd (zz0 n zs ros home am (x.val+1))]]) (KpT n₀ Bt (zg #[ze zd n,za a zs.length ac,ze zd v0,ze zd home,ze zd v2,ze zd am,ze zd to,za ar m cr] 119 (0,0)))
  (fun ys=>ys.map Fin.val=zt m) (fun pre=>∃k,k<=m/\pre.map Fin.val=zt k) m w0:=fun l J Jx W hW hJ _ hY h0=>
 callsIn_wide.2 (yq6 nf Ck l Bt n₀ n v0 home v2 am to a ar ac m cr zs ros J Jx hY w W hJ GP (wh.trans (hW.mono wh.size)) (za0 hW (za2 hT) hT) hm hA hR hl dm hh hf dC h0)
theorem zv1{β:Type}{B k:Nat}{cs:β->Array Value}{T:TypeId}{f:Nat×Nat}:OwnFrom B (fun(s:β) W=>W.heap[k]? =some (.cells (cs s) T f)):=fun s W W' row hs hg hr=>
 (hg.block k (qN.1 hs).1 (fun e=>by obtain⟨_,o,ho,hc⟩:=hr k e.symm;rw[hs]at ho;cases ho;cases hc)).trans hs
def yr1(ros:List Int)(home:Int){m:Nat}(pre:List (Fin m)):Int:=match pre.getLast? with
 |some x=>og6 ros x.val 1
 |none=>home
def yq8(n:Int)(zs ros:List Int)(home am:Int){m:Nat}(pre:List (Fin m)):Int:=match pre.getLast? with
 |some x=>zz0 n zs ros home am (x.val+1)
 |none=>am
theorem zL1(ros:List Int)(home:Int){m:Nat}(pre:List (Fin m))(x:Fin m):yr1 ros home (pre++[x])=og6 ros x.val 1:=by simp[yr1]
theorem zM7(n:Int)(zs ros:List Int)(home am:Int){m:Nat}(pre:List (Fin m))(x:Fin m):yq8 n zs ros home am (pre++[x])=zz0 n zs ros home am (x.val+1):=by simp[yq8]
theorem yi4{m:Nat}(ys:List (Fin m))(h:ys.map Fin.val=zt m):(m=0/\ys=[])∨∃(pre:List (Fin m)) (x:Fin m),ys=pre++[x]/\x.val+1=m:=by
 rcases List.eq_nil_or_concat ys with rfl|⟨pre,x,rfl⟩
 ·left
  have:=congrArg zo h;simp at this;exact⟨this.symm,rfl⟩
 ·right
  refine⟨pre,x,by simp,?_⟩;have hl:=congrArg zo h;have h2:=congrArg List.getLast? h;simp at hl h2;obtain⟨k,rfl⟩:∃k,m=k+1:=⟨m - 1,by omega⟩;rw[yN]at h2;simp at h2;omega
theorem yr6(ros:List Int)(home:Int){m:Nat}(ys:List (Fin m))(h:ys.map Fin.val=zt m):yr1 ros home ys=plc ros home m:=by
 rcases yi4 ys h with⟨rfl,rfl⟩|⟨pre,x,rfl,hx⟩
 ·rfl
 ·rw[zL1]
  have:plc ros home (x.val+1)=og6 ros x.val 1:=rfl;rw[<-this];exact congrArg (plc ros home) hx
theorem y01(n:Int)(zs ros:List Int)(home am:Int){m:Nat}(ys:List (Fin m))(h:ys.map Fin.val=zt m):yq8 n zs ros home am ys=zz0 n zs ros home am m:=by
 rcases yi4 ys h with⟨rfl,rfl⟩|⟨pre,x,rfl,hx⟩
 ·rfl
 ·rw[zM7]
  exact congrArg (zz0 n zs ros home am) hx
def zl3(w W:zi)(ts:Array Value)(bp bn:Nat)(pl nw:Int):Prop:=
 Za w.heap.size w W/\W.heap[w.heap.size]? =some (.cells ts 119 (0,0))/\W.heap[bp]? =some (zg #[ze zd pl] 2 (0,0))/\W.heap[bn]? =some (zg #[ze zd nw] 2 (0,0))/\w.heap.size<bp/\w.heap.size<bn/\bp≠bn
theorem zl3.new1(w:zi)(ts:Array Value)(pl nw:Int):zl3 w (((w.alloc (.cells ts 119)).alloc (zg #[ze zd pl] 2)).alloc (zg #[ze zd nw] 2)) ts (w.heap.size+1) (w.heap.size+1+1) pl nw:=by
 have h0:=xm w (.cells ts 119) (zg #[ze zd pl] 2);have h1:=xh w (.cells ts 119) (zg #[ze zd pl] 2);have h2:=zS ((w.alloc (.cells ts 119)).alloc (zg #[ze zd pl] 2)) (zg #[ze zd nw] 2);refine⟨((zP _).alloc (by simp) _).alloc (by simp;omega) _,(xg _ _ (za2 h0)).trans h0,(xg _ _ (za2 h1)).trans h1,by simpa using h2,by omega,by omega,by omega⟩
theorem zl3.new2(w:zi)(ts:Array Value)(pl nw:Int):zl3 w (((w.alloc (.cells ts 119)).alloc (zg #[ze zd nw] 2)).alloc (zg #[ze zd pl] 2)) ts (w.heap.size+1+1) (w.heap.size+1) pl nw:=by
 obtain⟨h1,h2,h3,h4,_,_,_⟩:=zl3.new1 w ts nw pl;exact⟨h1,h2,h4,h3,by omega,by omega,by omega⟩
theorem zl3.below{w W W':zi}{ts:Array Value}{bp bn:Nat}{pl nw:Int}(h:zl3 w W ts bp bn pl nw)(hb:Za W.heap.size W W'):zl3 w W' ts bp bn pl nw:=
 ⟨h.1.trans (hb.mono h.1.size),za0 hb (za2 h.2.1) h.2.1,za0 hb (za2 h.2.2.1) h.2.2.1,za0 hb (za2 h.2.2.2.1) h.2.2.2.1,h.2.2.2.2⟩
theorem zl3.set{w W:zi}{ts:Array Value}{bp bn:Nat}{pl nw:Int}(h:zl3 w W ts bp bn pl nw)(IE Jq:Int):zl3 w (((W.setCell ⟨bp,0,none⟩ (ze zd IE)).setCell ⟨bn,0,none⟩ (ze zd Jq)).drew) ts bp bn IE Jq:=by
 obtain⟨h1,h2,h3,h4,h5,h6,h7⟩:=h;exact⟨((h1.setCell (by simp;omega) _).setCell (by simp;omega) _).drew,za8 (za8 h2 (by omega)) (by omega),za8 (xb _ _ _ _ _ _ h3) h7,xb _ _ _ _ _ _ (za8 h4 (fun e=>h7 e.symm)),h5,h6,h7⟩
theorem zl3.own{β:Type}(w:zi)(ts:Array Value)(bp bn:Nat)(pl nw:β->Int)(B:Nat)(hB:w.heap.size<=B):OwnFrom B (fun s W=>zl3 w W ts bp bn (pl s) (nw s)):=fun s W W' row hs hg hr=>
 ⟨ownFrom_below (zT _) hB () W W' row hs.1 hg hr,zv1 (cs:=fun _:Unit=>ts) () W W' row hs.2.1 hg hr,zv1 (cs:=fun _:Unit=>#[ze zd (pl s)]) () W W' row hs.2.2.1 hg hr,zv1 (cs:=fun _:Unit=>#[ze zd (nw s)]) () W W' row hs.2.2.2.1 hg hr,hs.2.2.2.2⟩
theorem y42(n v0 home v2 am to:Int)(a ar:Option Addr)(ac m cr:Nat)(zs ros:List Int)(w:zi)(hm:zq9 n zs=true)(hA:za3 w a zs)(hR:za3 w ar ros)(hl:ros.length=m*6)(dm:z61 n ros m)(hh:0<=home/\home<n)(hf:0<=am/\am<=1000000)(dC:m<=12):
 Calls zh 151 #[.agg #[ze zd n,za a zs.length ac,ze zd v0,ze zd home,ze zd v2,ze zd am,ze zd to,za ar m cr]] w fun e w'=>e=.returned (ze zd (homeV n zs ros m home am))/\Za w.heap.size w w':=by
 have HM:Zb _:=hm;have HA:=za4 hA;have HR:=za4 hR;have HL:Zb _:=hl;have dG:=za4 dm;have HH:Zb _:=hh;have HF:Zb _:=hf;have kd:Zb ((w.alloc (zg #[ze zd n,za a zs.length ac,ze zd v0,ze zd home,ze zd v2,ze zd am,ze zd to,za ar m cr] 119)).heap[w.heap.size]? =_):=zS _ _;have aU:Zb (Za w.heap.size w (w.alloc (zg #[ze zd n,za a zs.length ac,ze zd v0,ze zd home,ze zd v2,ze zd am,ze zd to,za ar m cr] 119))):=zP _;clear hm hA hR hl dm hh hf;refine(callsIn_wide (n:=3)).1 ?_;refine callsIn_of_wp_marks Tryz.func151 rfl trivial ?_ rfl;simp only[Tryz.ntmps151,List.size_toArray,yo,List.length_nil,Nat.reduceAdd,Nat.reduceSub,Array.replicate_succ,Array.replicate_zero,List.push_toArray,List.append_toArray,yw,yW];refine wpIn_wide.2 ?_;obtain⟨t0,t1,t2,t3,t4,t5,t6,t7⟩:=zk4 kd.X
 go_wp2_with fail
 rename_i Kx hKx
 have key:∀(bp bn:Nat) (W1:zi),Zb (zl3 w W1 #[ze zd n,za a zs.length ac,ze zd v0,ze zd home,ze zd v2,ze zd am,ze zd to,za ar m cr] bp bn home am)->Kx {tmps:=#[.agg #[ze zd n,za a zs.length ac,ze zd v0,ze zd home,ze zd v2,ze zd am,ze zd to,za ar m cr],.pointer (some ⟨w.heap.size,0,none⟩),ze zd 0,.pointer (some ⟨bp,0,none⟩),.pointer (some ⟨bn,0,none⟩),undef,undef,.pointer (some ⟨w.heap.size,2,none⟩),.pointer (some ⟨w.heap.size,3,none⟩),ze zd home,.pointer (some ⟨w.heap.size,2,none⟩),.pointer (some ⟨w.heap.size,5,none⟩),ze zd am,undef,undef,undef,undef,undef,undef,undef,undef,undef,undef,undef,undef,undef,undef,undef,undef],defers:=[]} W1:=by
  clear t0 t1 t2 t3 t4 t5 t6 t7 kd aU;intro bp bn W1 HX;apply hKx;obtain⟨t0,t1,t2,t3,t4,t5,t6,t7⟩:=zk4 HX.2.1
  go_wp2_with fail
  clear t0 t1 t2 t3 t4 t5 t6 t7;refine(zM1 n v0 home v2 am to a ar ac m cr zs W1).mono ?_;rintro e w2 ⟨rfl,rfl⟩;have g_:Zb (zl3 w (W1.alloc (zg #[ze zd n,za a zs.length ac,ze zd v0,ze zd home,ze zd v2,ze zd am,ze zd to,za ar m cr] 119)) #[ze zd n,za a zs.length ac,ze zd v0,ze zd home,ze zd v2,ze zd am,ze zd to,za ar m cr] bp bn home am):=HX.below (zP _);have vF:=za4 (zS W1 (zg #[ze zd n,za a zs.length ac,ze zd v0,ze zd home,ze zd v2,ze zd am,ze zd to,za ar m cr] 119));have d_:Zb (w.heap.size<W1.heap.size/\bp<W1.heap.size/\bn<W1.heap.size):=⟨za2 HX.2.1,za2 HX.2.2.1,za2 HX.2.2.2.1⟩
  go_wp2_with fail
  refine(wpIn_wide (n:=3)).1 ?_;refine wpIn_rangeFunc_ownH rfl (by omega) (gf:=179) (lb:=#[.pointer (some ⟨W1.heap.size,0,none⟩)]) rfl trivial (enters_of Tryz.func179 (by kernel_rfl) rfl)
   (zA4 2 (by omega) W1.heap.size w.heap.size n v0 home v2 am to a ar ac m cr zs ros w _ (zT _) g_.1 vF.X HM.X HA.X HR.X HL.X dG.X HH.X HF.X dC)
   KpT.trans (KpT.putObj rfl g_.1.size) (y5 _ _) (fun _=>rfl)
   (fun pre W=>zl3 w W #[ze zd n,za a zs.length ac,ze zd v0,ze zd home,ze zd v2,ze zd am,ze zd to,za ar m cr] bp bn (yr1 ros home pre) (yq8 n zs ros home am pre)/\W1.heap.size<W.heap.size)
   (fun _ _ _=>False)
   (OwnFrom.and (zl3.own w _ bp bn _ _ _ g_.1.size) (fun _ _ _ _ hs hg _=>xw hs hg.size))
   (fun _ _ _ _ _ hs _ _=>hs)
   ⟨g_.X,by simp⟩
   (fun x a' W=>∃Bo Bv,W1.heap.size<Bo/\W1.heap.size<Bv/\W.heap[Bo]? =some (zg #[ze zd (og6 ros x.val 0),ze zd (og6 ros x.val 1),ze zd (og6 ros x.val 2),ze zd (og6 ros x.val 3),ze zd (og6 ros x.val 4),ze zd (og6 ros x.val 5)] 103 (0,0))/\W.heap[Bv]? =some (zg #[ze zd (og6 ros x.val 0),ze zd (yi6 n zs ros home am x.val),ze zd (zi1 n zs ros home am x.val),ze zd (zz0 n zs ros home am (x.val+1))] 205 (0,0))/\a'={tmps:=#[.agg #[ze zd n,za a zs.length ac,ze zd v0,ze zd home,ze zd v2,ze zd am,ze zd to,za ar m cr],.pointer (some ⟨w.heap.size,0,none⟩),ze zd 0,.pointer (some ⟨bp,0,none⟩),.pointer (some ⟨bn,0,none⟩),.pointer (some ⟨Bo,0,none⟩),.pointer (some ⟨Bv,0,none⟩),.pointer (some ⟨w.heap.size,2,none⟩),.pointer (some ⟨w.heap.size,3,none⟩),ze zd home,.pointer (some ⟨w.heap.size,2,none⟩),.pointer (some ⟨w.heap.size,5,none⟩),ze zd am,.agg #[ze zd n,za a zs.length ac,ze zd v0,ze zd home,ze zd v2,ze zd am,ze zd to,za ar m cr],.func (.func 179) #[] #[.pointer (some ⟨W1.heap.size,0,none⟩)],.agg #[ze zd (og6 ros x.val 0),ze zd (og6 ros x.val 1),ze zd (og6 ros x.val 2),ze zd (og6 ros x.val 3),ze zd (og6 ros x.val 4),ze zd (og6 ros x.val 5)],.agg #[ze zd (og6 ros x.val 0),ze zd (yi6 n zs ros home am x.val),ze zd (zi1 n zs ros home am x.val),ze zd (zz0 n zs ros home am (x.val+1))],undef,undef,undef,undef,undef,undef,undef,undef,undef,undef,undef,undef],defers:=[]})
   (fun x a' _ X Y row hs hg hr=>by
     obtain⟨Bo,Bv,g1,g2,g3,g4,g5⟩:=hs;exact⟨Bo,Bv,g1,g2,zv1 (cs:=fun _:Unit=>_) () X Y row g3 hg hr,zv1 (cs:=fun _:Unit=>_) () X Y row g4 hg hr,g5⟩)
   ?ij ?pi ?done ?stop
  case ij=>
   rintro l pre x W K ⟨hi,bW⟩ hK
   gi_wp2
   refine hK _ _ (((KeepsOthers.alloc _ _).trans (KeepsOthers.alloc _ _)).from _) ((KpT.alloc _ _ hi.1.size).trans (KpT.alloc _ _ (xj hi.1.size (by simp)))) ⟨(hi.below (zP _)).below (zP _),by simp;omega⟩ ⟨W.heap.size,W.heap.size+1,bW,by omega,?_,?_,rfl⟩
   ·exact xm _ _ _
   ·exact xh _ _ _
  case pi=>
   rintro l pre x a' W hl dU ⟨hi,bW⟩ ⟨Bo,Bv,g1,g2,g3,g4,rfl⟩ ah;have HI:=za4 hi;have Pq:=d_.X;have aq:=hi.2.2.2.2;obtain⟨i0,i1,i2,i3,i4,i5⟩:=zi0 g3;have j3:W.cell? ⟨Bv,3,none⟩=some (ze zd (zz0 n zs ros home am (x.val+1))):=by rw[zU _ _ 3 _ _ _ g4];simp
   have cp:W.cell? ⟨bp,0,none⟩=some (ze zd (yr1 ros home pre)):=by rw[zU _ _ 0 _ _ _ hi.2.2.1];simp
   have cn:W.cell? ⟨bn,0,none⟩=some (ze zd (yq8 n zs ros home am pre)):=by rw[zU _ _ 0 _ _ _ hi.2.2.2.1];simp
   have fp:=fun i=>yZ _ _ i _ _ hi.2.2.1;have fn:=fun i=>yZ _ _ i _ _ hi.2.2.2.1;obtain⟨xo,Ez⟩:=nmd (og6 ros x.val 1);obtain⟨xn,eL⟩:=nmd (zz0 n zs ros home am (x.val+1));have tR:Zb (KeepsFrom (W1.alloc (zg #[ze zd n,za a zs.length ac,ze zd v0,ze zd home,ze zd v2,ze zd am,ze zd to,za ar m cr] 119)).heap.size W (((W.setCell ⟨bp,0,none⟩ (ze zd (og6 ros x.val 1))).setCell ⟨bn,0,none⟩ (ze zd (zz0 n zs ros home am (x.val+1)))).drew)/\KpT w.heap.size W1.heap.size (zg #[ze zd n,za a zs.length ac,ze zd v0,ze zd home,ze zd v2,ze zd am,ze zd to,za ar m cr] 119 (0,0)) W (((W.setCell ⟨bp,0,none⟩ (ze zd (og6 ros x.val 1))).setCell ⟨bn,0,none⟩ (ze zd (zz0 n zs ros home am (x.val+1)))).drew)/\(zl3 w (((W.setCell ⟨bp,0,none⟩ (ze zd (og6 ros x.val 1))).setCell ⟨bn,0,none⟩ (ze zd (zz0 n zs ros home am (x.val+1)))).drew) #[ze zd n,za a zs.length ac,ze zd v0,ze zd home,ze zd v2,ze zd am,ze zd to,za ar m cr] bp bn (yr1 ros home (pre++[x])) (yq8 n zs ros home am (pre++[x]))/\W1.heap.size<(((W.setCell ⟨bp,0,none⟩ (ze zd (og6 ros x.val 1))).setCell ⟨bn,0,none⟩ (ze zd (zz0 n zs ros home am (x.val+1)))).drew).heap.size)):=by
    refine⟨(((KeepsOthers.setCell _ _ _).trans (KeepsOthers.setCell _ _ _)).trans (KeepsOthers.drew _)).from _,?_,?_,?_⟩
    ·exact((KpT.set _ _ _ _ (by omega) (by omega)).trans (KpT.set _ _ _ _ (by omega) (by omega))).trans ⟨(y5 _ _).drew,fun h=>h⟩
    ·rw[zL1,zM7]
     exact HI.set _ _
    ·simpa[World.setCell]using bW
   clear hi g3 g4 i0 i2 i3 i4 i5 HI;rw[Ez.X]at i1 tR;rw[eL.X]at j3 tR
   gi_wp2
   rename_i Q1 K1 hK1 Q2;rw[Ez.X,eL.X];clear hK1 hKx;clear K1 Kx Ez eL;generalize Value.agg #[ze zd n,za a zs.length ac,ze zd v0,ze zd home,ze zd v2,ze zd am,ze zd to,za ar m cr]=A0;generalize Value.func (Fn.func 179) #[] #[Value.pointer (some ⟨W1.heap.size,0,none⟩)]=A14;generalize Value.agg #[ze zd (og6 ros x.val 0),ze zd xo,ze zd (og6 ros x.val 2),ze zd (og6 ros x.val 3),ze zd (og6 ros x.val 4),ze zd (og6 ros x.val 5)]=A15;generalize Value.agg #[ze zd (og6 ros x.val 0),ze zd (yi6 n zs ros home am x.val),ze zd (zi1 n zs ros home am x.val),ze zd xn]=KW;have vL:Tryz.prog.follows .mixedOrders=true:=by kernel_rfl
   gi_region_o
   all_goals exact tR.X
  case done=>
   rintro D ys W hD hS ⟨hi,bW⟩ hK;rw[yr6 _ _ _ hS,y01 _ _ _ _ _ _ hS]at hi;have HI:=za4 hi;have HK:Zb _:=hK;have HD:Zb _:=xj g_.1.size hD;have aT:=zY7 dG.X HH.1 HH.2 m (zT _);have lL:=zS6 (home:=home) HM.X dG.X HF.X m (zT _);obtain⟨p,bm⟩:=nmd (plc ros home m);obtain⟨f,eZ⟩:=nmd (zz0 n zs ros home am m);obtain⟨d,bk⟩:=nmd (tmI n zs p home);have ki:=zx8 HM.X p home;rw[bk.X]at ki;rw[bm.X]at aT HI;rw[eZ.X]at lL HI;have mz:Zb _:=aT;have HV:Zb (homeV n zs ros m home am=f+d):=by
    show _=_;unfold homeV;rw[eZ.X,bm.X,bk.X]
   have cp:W.cell? ⟨bp,0,none⟩=some (ze zd p):=by rw[zU _ _ 0 _ _ _ HI.2.2.1];simp
   have cn:W.cell? ⟨bn,0,none⟩=some (ze zd f):=by rw[zU _ _ 0 _ _ _ HI.2.2.2.1];simp
   obtain⟨t0,t1,t2,t3,t4,t5,t6,t7⟩:=zk4 HI.2.1;clear hi hK hD hS bW aT
   go_wp2_with fail
   have e0:=fun s:Kin W=>s.cell t0;have e1:=fun s:Kin W=>s.cell t1;have e2:=fun s:Kin W=>s.cell t2;have e3:=fun s:Kin W=>s.cell t3;have e4:=fun s:Kin W=>s.cell t4;have e5:=fun s:Kin W=>s.cell t5;have e6:=fun s:Kin W=>s.cell t6;have e7:=fun s:Kin W=>s.cell t7;have ep:=fun s:Kin W=>s.cell cp;have en:=fun s:Kin W=>s.cell cn;have aV:=Kin.there W;refine zb1 (by kernel_rfl) (by kernel_rfl) ?_
   repeat(go_big_quiet_step ((first
    |(go_at_call 118;exact Kin.call (zC8 n p home v0 home v2 am to _ _ _ _ _ zs _ d bk.X HM.X mz.X HH.X ((HA.below HI.1).below (Kin.below _)))))))
   refine xA ?_;rintro _ ⟨s,rfl⟩;have fY:Zb _:=HI.1.trans (s.below.mono HI.1.size);have dV:Zb _:=za0 s.below (qN.1 HK.X).1 HK.X;clear t0 t1 t2 t3 t4 t5 t6 t7 e0 e1 e2 e3 e4 e5 e6 e7 ep en aV cp cn;generalize s.w=W2 at*;go_wp2;rw[HV.X];refine⟨by simp,.inl ⟨_,_,rfl,run_takeDeferred dV.X,?_⟩⟩;exact⟨_,results_tmp rfl _ _ _,rfl,fY.trans (belowK_b (w:=w) (zT _) W2 D _ _ HD.X dV.X rfl rfl)⟩
  case stop=>
   rintro D c pre W _ _ h _;exact h.elim
 go_region
 all_goals(first
  |(with_reducible show Exit.then _ _ Exit.normal _ (((w.alloc (zg #[ze zd n,za a zs.length ac,ze zd v0,ze zd home,ze zd v2,ze zd am,ze zd to,za ar m cr] 119)).alloc (zg #[ze zd home] 2)).alloc (zg #[ze zd am] 2)).drew
    exact key (w.heap.size+1) (w.heap.size+1+1) _ ((zl3.new1 w _ home am).below (y5 _ _).drew))
  |(with_reducible show Exit.then _ _ Exit.normal _ (((w.alloc (zg #[ze zd n,za a zs.length ac,ze zd v0,ze zd home,ze zd v2,ze zd am,ze zd to,za ar m cr] 119)).alloc (zg #[ze zd am] 2)).alloc (zg #[ze zd home] 2)).drew
    exact key (w.heap.size+1+1) (w.heap.size+1) _ ((zl3.new2 w _ home am).below (y5 _ _).drew)))
attribute [local go_sem] Oper.semAt_some
def zj3(w W:zi)(ts:Array Value)(c:Int):Prop:=
 Za w.heap.size w W/\W.heap[w.heap.size]? =some (.cells ts 119 (0,0))/\W.heap[w.heap.size+1]? =some (zg #[ze zd c] 2 (0,0))
theorem zj3.new(w:zi)(ts:Array Value)(c:Int):zj3 w ((w.alloc (.cells ts 119)).alloc (zg #[ze zd c] 2)) ts c:=
 ⟨(zP _).alloc (by simp) _,xm _ _ _,xh _ _ _⟩
theorem zj3.below{w W W':zi}{ts:Array Value}{c:Int}(h:zj3 w W ts c)(hb:Za W.heap.size W W'):zj3 w W' ts c:=
 ⟨h.1.trans (hb.mono h.1.size),za0 hb (za2 h.2.1) h.2.1,za0 hb (za2 h.2.2) h.2.2⟩
theorem zj3.set{w W:zi}{ts:Array Value}{c:Int}(h:zj3 w W ts c)(c':Int):zj3 w (W.setCell ⟨w.heap.size+1,0,none⟩ (ze zd c')) ts c':=
 ⟨h.1.setCell (by simp) _,za8 h.2.1 (by omega),xb _ _ _ _ _ _ h.2.2⟩
theorem zj3.own{β:Type}(w:zi)(ts:Array Value)(c:Int)(B:Nat)(hB:w.heap.size<=B):OwnFrom B (fun(_:β) W=>zj3 w W ts c):=fun _ W W' row hs hg hr=>
 ⟨ownFrom_below (zT _) hB () W W' row hs.1 hg hr,zv1 (cs:=fun _:Unit=>ts) () W W' row hs.2.1 hg hr,zv1 (cs:=fun _:Unit=>#[ze zd c]) () W W' row hs.2.2 hg hr⟩
theorem yD0(n v0 home v2 am to:Int)(a ar:Option Addr)(ac m cr:Nat)(zs ros:List Int)(w:zi)(d:Int)(hd:homeV n zs ros m home am=d)(hm:zq9 n zs=true)(hA:za3 w a zs)(hR:za3 w ar ros)(hl:ros.length=m*6)(dm:z61 n ros m)(hh:0<=home/\home<n)(hf:0<=am/\am<=1000000)(dC:m<=12):
 Calls zh 151 #[.agg #[ze zd n,za a zs.length ac,ze zd v0,ze zd home,ze zd v2,ze zd am,ze zd to,za ar m cr]] w fun e w'=>e=.returned (ze zd d)/\Za w.heap.size w w':=hd▸y42 n v0 home v2 am to a ar ac m cr zs ros w hm hA hR hl dm hh hf dC
theorem yK2{m:Nat}{ys:List (Fin m)}{k:Nat}(h:ys.map Fin.val=zt k){j:Nat}(hj:j<k):∃x,x∈ys/\x.val=j:=by
 have:j∈ys.map Fin.val:=by rw[h];simpa using hj
 simpa using this
theorem zQ4(n v0 home v2 am to:Int)(a ar:Option Addr)(ac m cr:Nat)(zs ros:List Int)(w:zi)(hm:zq9 n zs=true)(hA:za3 w a zs)(hR:za3 w ar ros)(hl:ros.length=m*6)(dm:z61 n ros m)(hh:0<=home/\home<n)(hf:0<=am/\am<=1000000)(dC:m<=12):
 Calls zh 117 #[.agg #[ze zd n,za a zs.length ac,ze zd v0,ze zd home,ze zd v2,ze zd am,ze zd to,za ar m cr]] w fun e w'=>e=.returned (ze zd (zw0 n zs ros m home am to))/\Za w.heap.size w w':=by
 have HM:Zb _:=hm;have HA:=za4 hA;have HR:=za4 hR;have HL:Zb _:=hl;have dG:=za4 dm;have HH:Zb _:=hh;have HF:Zb _:=hf;have HX:Zb (zj3 w ((w.alloc (zg #[ze zd n,za a zs.length ac,ze zd v0,ze zd home,ze zd v2,ze zd am,ze zd to,za ar m cr] 119)).alloc (zg #[ze zd 0] 2)) #[ze zd n,za a zs.length ac,ze zd v0,ze zd home,ze zd v2,ze zd am,ze zd to,za ar m cr] 0):=zj3.new w _ 0;clear hm hA hR hl dm hh hf;obtain⟨r,HV⟩:=nmd (zw0 n zs ros m home am to);rw[HV.X];refine(callsIn_wide (n:=3)).1 ?_;refine callsIn_of_wp_marks Tryz.func117 rfl trivial ?_ rfl;simp only[Tryz.ntmps117,List.size_toArray,yo,List.length_nil,Nat.reduceAdd,Nat.reduceSub,Array.replicate_succ,Array.replicate_zero,List.push_toArray,List.append_toArray,yw,yW];refine wpIn_wide.2 ?_;obtain⟨t0,t1,t2,t3,t4,t5,t6,t7⟩:=zk4 HX.2.1
 go_wp2_with fail
 clear t0 t1 t2 t3 t4 t5 t6 t7;have HZ:Zb _:=za2 HX.2.2;generalize((w.alloc _).alloc _)=W1 at*;refine(zM1 n v0 home v2 am to a ar ac m cr zs W1).mono ?_;rintro e w2 ⟨rfl,rfl⟩;have g_:Zb (zj3 w (W1.alloc (zg #[ze zd n,za a zs.length ac,ze zd v0,ze zd home,ze zd v2,ze zd am,ze zd to,za ar m cr] 119)) #[ze zd n,za a zs.length ac,ze zd v0,ze zd home,ze zd v2,ze zd am,ze zd to,za ar m cr] 0):=HX.below (zP _);have vF:=za4 (zS W1 (zg #[ze zd n,za a zs.length ac,ze zd v0,ze zd home,ze zd v2,ze zd am,ze zd to,za ar m cr] 119))
 go_wp2_with fail
 refine(wpIn_wide (n:=3)).1 ?_;refine wpIn_rangeFunc_ownH rfl (by omega) (gf:=179) (lb:=#[.pointer (some ⟨W1.heap.size,0,none⟩)]) rfl trivial (enters_of Tryz.func179 (by kernel_rfl) rfl)
  (zA4 2 (by omega) W1.heap.size w.heap.size n v0 home v2 am to a ar ac m cr zs ros w _ (zT _) g_.1 vF.X HM.X HA.X HR.X HL.X dG.X HH.X HF.X dC)
  KpT.trans (KpT.putObj rfl g_.1.size) (y5 _ _) (fun _=>rfl)
  (fun pre W=>(zj3 w W #[ze zd n,za a zs.length ac,ze zd v0,ze zd home,ze zd v2,ze zd am,ze zd to,za ar m cr] 0/\W1.heap.size<W.heap.size)/\∀x∈pre,zi1 n zs ros home am x.val<=og6 ros x.val 4)
  (fun c pre W=>(zj3 w W #[ze zd n,za a zs.length ac,ze zd v0,ze zd home,ze zd v2,ze zd am,ze zd to,za ar m cr] 5/\c=.ret)/\∃x∈pre,og6 ros x.val 4<zi1 n zs ros home am x.val)
  (OwnFrom.and (OwnFrom.and (zj3.own w _ 0 _ g_.1.size) (fun _ _ _ _ hs hg _=>xw hs hg.size)) (ownFrom_pure _ _))
  (fun c=>OwnFrom.and (OwnFrom.and (zj3.own w _ 5 _ g_.1.size) (ownFrom_pure _ _)) (ownFrom_pure _ _))
  ⟨⟨g_.X,by simp⟩,fun x hx=>by cases hx⟩
  (fun x a' W=>∃Bo Bv,W1.heap.size<Bo/\W1.heap.size<Bv/\W.heap[Bo]? =some (zg #[ze zd (og6 ros x.val 0),ze zd (og6 ros x.val 1),ze zd (og6 ros x.val 2),ze zd (og6 ros x.val 3),ze zd (og6 ros x.val 4),ze zd (og6 ros x.val 5)] 103 (0,0))/\W.heap[Bv]? =some (zg #[ze zd (og6 ros x.val 0),ze zd (yi6 n zs ros home am x.val),ze zd (zi1 n zs ros home am x.val),ze zd (zz0 n zs ros home am (x.val+1))] 205 (0,0))/\a'={tmps:=#[.agg #[ze zd n,za a zs.length ac,ze zd v0,ze zd home,ze zd v2,ze zd am,ze zd to,za ar m cr],.pointer (some ⟨w.heap.size,0,none⟩),.pointer (some ⟨w.heap.size+1,0,none⟩),.pointer (some ⟨Bo,0,none⟩),.pointer (some ⟨Bv,0,none⟩),.agg #[ze zd n,za a zs.length ac,ze zd v0,ze zd home,ze zd v2,ze zd am,ze zd to,za ar m cr],.func (.func 179) #[] #[.pointer (some ⟨W1.heap.size,0,none⟩)],.agg #[ze zd (og6 ros x.val 0),ze zd (og6 ros x.val 1),ze zd (og6 ros x.val 2),ze zd (og6 ros x.val 3),ze zd (og6 ros x.val 4),ze zd (og6 ros x.val 5)],.agg #[ze zd (og6 ros x.val 0),ze zd (yi6 n zs ros home am x.val),ze zd (zi1 n zs ros home am x.val),ze zd (zz0 n zs ros home am (x.val+1))],undef,undef,undef,undef,undef,undef,undef,undef,undef,undef,undef],defers:=[]})
  (fun x a' _ X Y row hs hg hr=>by
    obtain⟨Bo,Bv,g1,g2,g3,g4,g5⟩:=hs;exact⟨Bo,Bv,g1,g2,zv1 (cs:=fun _:Unit=>_) () X Y row g3 hg hr,zv1 (cs:=fun _:Unit=>_) () X Y row g4 hg hr,g5⟩)
  ?ij ?pi ?done ?stop
 case ij=>
  rintro l pre x W K ⟨⟨hi,bW⟩,hp⟩ hK
  gi_wp2
  refine hK _ _ (((KeepsOthers.alloc _ _).trans (KeepsOthers.alloc _ _)).from _) ((KpT.alloc _ _ hi.1.size).trans (KpT.alloc _ _ (xj hi.1.size (by simp)))) ⟨⟨(hi.below (zP _)).below (zP _),by simp;omega⟩,hp⟩ ⟨W.heap.size,W.heap.size+1,bW,by omega,?_,?_,rfl⟩
  ·exact xm _ _ _
  ·exact xh _ _ _
 case pi=>
  rintro l pre x a' W hl dU ⟨⟨hi,bW⟩,hp⟩ ⟨Bo,Bv,g1,g2,g3,g4,rfl⟩ ah;have HI:=za4 hi;have HP:Zb _:=hp;obtain⟨i0,i1,i2,i3,i4,i5⟩:=zi0 g3;have j2:W.cell? ⟨Bv,2,none⟩=some (ze zd (zi1 n zs ros home am x.val)):=by rw[zU _ _ 2 _ _ _ g4];simp
  have cc:W.cell? ⟨w.heap.size+1,0,none⟩=some (ze zd 0):=by rw[zU _ _ 0 _ _ _ hi.2.2];simp
  have fc:=fun i=>yZ _ _ i _ _ hi.2.2;clear hi hp g3 g4 i0 i1 i2 i3 i5;by_cases fQ:og6 ros x.val 4<zi1 n zs ros home am x.val
  ·have eM:Zb _:=fQ
   gi_wp2
   exact⟨(KeepsOthers.setCell _ _ _).from _,⟨HI.set 5,rfl⟩,x,by simp,eM.X⟩
  ·have uB:zi1 n zs ros home am x.val<=og6 ros x.val 4:=by omega
   have pD:Zb _:=uB;clear fQ
   gi_wp2
   refine⟨KeepsFrom.refl _ _,⟨y5 _ _,fun h=>h⟩,⟨HI.X,bW⟩,fun y hy=> ?_⟩;rcases yj.1 hy with h|h
   ·exact HP.X y h
   ·obtain rfl:y=x:=by simpa using h
    exact pD.X
 case done=>
  rintro D ys W hD hS ⟨⟨hi,bW⟩,hp⟩ hK;have HI:=za4 hi;have HK:Zb _:=hK;have HD:Zb _:=xw (Nat.lt_trans HZ.X (by simp)) hD;have AQ:Zb (zy9 n zs ros home am m):=fun j hj=>by
   obtain⟨x,hx,rfl⟩:=yK2 hS hj;exact hp x hx
  obtain⟨t0,t1,t2,t3,t4,t5,t6,t7⟩:=zk4 HI.2.1;clear hi hK hD hS bW hp;obtain⟨d,bk⟩:=nmd (homeV n zs ros m home am)
  go_wp2_with fail
  have e0:=fun s:Kin W=>s.cell t0;have e1:=fun s:Kin W=>s.cell t1;have e2:=fun s:Kin W=>s.cell t2;have e3:=fun s:Kin W=>s.cell t3;have e4:=fun s:Kin W=>s.cell t4;have e5:=fun s:Kin W=>s.cell t5;have e6:=fun s:Kin W=>s.cell t6;have e7:=fun s:Kin W=>s.cell t7;have aV:=Kin.there W;refine zb1 (by kernel_rfl) (by kernel_rfl) ?_
  repeat(go_big_quiet_step ((first
   |(go_at_call 151;exact Kin.call (yD0 n v0 home v2 am to a ar ac m cr zs ros _ d bk.X HM.X ((HA.below HI.1).below (Kin.below _)) ((HR.below HI.1).below (Kin.below _)) HL.X dG.X HH.X HF.X dC)))))
  refine xA ?_;rintro _ ⟨s,rfl⟩;have Cc:=za4 (HI.below s.below);have dV:Zb _:=za0 s.below (qN.1 HK.X).1 HK.X;clear t0 t1 t2 t3 t4 t5 t6 t7 e0 e1 e2 e3 e4 e5 e6 e7 aV;generalize s.w=W2 at*;have cc:W2.cell? ⟨w.heap.size+1,0,none⟩=some (ze zd 0):=by rw[zU _ _ 0 _ _ _ Cc.2.2];simp
  have fc:=fun i=>yZ _ _ i _ _ Cc.2.2;by_cases gu:to<d
  ·have HN:Zb _:=HV.symm.trans (zF5 AQ.X (by rw[bk.X];exact gu))
   go_wp2;rw[HN.X];have Bc:=Cc.set 6;have iK:(W2.setCell ⟨w.heap.size+1,0,none⟩ (ze zd 6)).heap[D]? =some (.deferred (some [])):=za8 dV.X (Nat.ne_of_gt HD.X);refine⟨by simp,.inl ⟨_,_,rfl,run_takeDeferred iK,?_⟩⟩;have hc:=cell_kept (show(W2.setCell ⟨w.heap.size+1,0,none⟩ (ze zd 6)).cell? ⟨w.heap.size+1,0,none⟩=some (ze zd 6) by rw[zU _ _ 0 _ _ _ Bc.2.2];simp) (grownBy_putObj' _ D (.deferred none)) (fun r e=>by cases e;exact⟨_,iK,rfl⟩);exact⟨_,by simp[results,Tryz.results117,go_sem,hc],rfl,Bc.1.trans (belowK_b (w:=w) (zT _) _ D _ _ (by have:=HD.X;omega) iK rfl rfl)⟩
  ·have HN:Zb _:=HV.symm.trans (zU9 AQ.X (by rw[bk.X];exact gu))
   go_wp2;rw[HN.X];have Bc:=Cc.set 0;have iK:(W2.setCell ⟨w.heap.size+1,0,none⟩ (ze zd 0)).heap[D]? =some (.deferred (some [])):=za8 dV.X (Nat.ne_of_gt HD.X);refine⟨by simp,.inl ⟨_,_,rfl,run_takeDeferred iK,?_⟩⟩;have hc:=cell_kept (show(W2.setCell ⟨w.heap.size+1,0,none⟩ (ze zd 0)).cell? ⟨w.heap.size+1,0,none⟩=some (ze zd 0) by rw[zU _ _ 0 _ _ _ Bc.2.2];simp) (grownBy_putObj' _ D (.deferred none)) (fun r e=>by cases e;exact⟨_,iK,rfl⟩);exact⟨_,by simp[results,Tryz.results117,go_sem,hc],rfl,Bc.1.trans (belowK_b (w:=w) (zT _) _ D _ _ (by have:=HD.X;omega) iK rfl rfl)⟩
 case stop=>
  rintro D c pre W hD hS ⟨⟨hi,rfl⟩,x,hx,fQ⟩ hK;have HN:Zb _:=HV.symm.trans (zF8 x.isLt fQ);have HD:Zb _:=xw (Nat.lt_trans HZ.X (by simp)) hD;refine wpIn_wide.2 ?_;go_wp2;rw[HN.X];refine⟨by simp,.inl ⟨_,_,rfl,run_takeDeferred hK,?_⟩⟩;have hc:=cell_kept (show W.cell? ⟨w.heap.size+1,0,none⟩=some (ze zd 5) by rw[zU _ _ 0 _ _ _ hi.2.2];simp) (grownBy_putObj' _ D (.deferred none)) (fun r e=>by cases e;exact⟨_,hK,rfl⟩);exact⟨_,by simp[results,Tryz.results117,go_sem,hc],rfl,hi.1.trans (belowK_b (w:=w) (zT _) _ D _ _ (by have:=HD.X;omega) hK rfl rfl)⟩
end Go.Proofs.YtkchnomkiboihaaGreat
namespace Go.Proofs.YtkchnomkiboihaaGreat
open RowKit renaming Below→Za,Hid→Zb
open Value renaming slice→za,int→ze
open IntKind renaming i64→zd
open Obj renaming cells→zg
open Proofs.Tryz renaming prog→zh
open Go.RowKit
open Q
theorem z81(n fine ab:Int)(a ao av bi:Option Addr)(ac ko co kv cv c2:Nat)(zs os vs ids:List Int)(w:World)(hA:za3 w a zs)(hO:za3 w ao os)(hV:za3 w av vs)(hI:za3 w bi ids)(an:os.length=ko*6)(au:vs.length=kv*5)(aA:ko<=9223372036854775807)(aB:kv<=9223372036854775807)(eX:ids.length<=9223372036854775807)(cw:ids.length<=c2)(bU:zd0 n zs os vs ko kv fine=true):
 Calls zh 78 #[.agg #[ze zd n,za a zs.length ac,za ao ko co,za av kv cv,ze zd fine],.agg #[ze zd ab,za bi ids.length c2]] w fun e w'=>Za w.heap.size w w'/\((codeV true n zs os vs ko kv ab ids≠0/\e=.returned (.tuple #[.agg #[ze zd 0,za none 0 0,ze zd 0,ze zd 0,ze zd 0,ze zd 0,ze zd 0,za none 0 0],ze zd (codeV true n zs os vs ko kv ab ids)]))∨(codeV true n zs os vs ko kv ab ids=0/\∃g,w.heap.size<=g/\e=.returned (.tuple #[.agg #[ze zd n,za a zs.length ac,ze zd (zc4 vs kv ab 0),ze zd (zc4 vs kv ab 1),ze zd (zc4 vs kv ab 2),ze zd (zc4 vs kv ab 3),ze zd (zc4 vs kv ab 4),za (some ⟨g,0,none⟩) ids.length ids.length],ze zd 0])/\za3 w' (some ⟨g,0,none⟩) (zd6 os ko ids))):=by
 have HA:=za4 hA;have HO:=za4 hO;have HV:=za4 hV;have HI:=za4 hI;have aF:Zb _:=an;have aE:Zb _:=au;clear hA hO hV hI an au;have HC:Zb _:=bU;clear bU;have bt:Zb (CRT w (((w.alloc (zg #[ze zd n,za a zs.length ac,za ao ko co,za av kv cv,ze zd fine] 30)).alloc (zg #[ze zd ab,za bi ids.length c2] 80)).alloc (zg #[ze zd 0,za none 0 0,ze zd 0,ze zd 0,ze zd 0,ze zd 0,ze zd 0,za none 0 0] 119)) _ _ _):=CRT.new w _ _ _;obtain⟨r,HR⟩:=nmd (codeV true n zs os vs ko kv ab ids);rw[HR.X];go_enter Tryz.func78,Tryz.ntmps78;obtain⟨c0,c1,bZ,c3,c4⟩:=za7 bt.X.1.2.1;obtain⟨d0,d1⟩:=za1 bt.X.1.2.2
 go_wp2_with fail
 clear c0 c1 bZ c3 c4 d0 d1;refine(zK2 n fine ab a ao av bi ac ko co kv cv c2 zs os vs ids _ (HA.X.below bt.X.1.1) (HO.X.below bt.X.1.1) (HV.X.below bt.X.1.1) (HI.X.below bt.X.1.1) aF.X aE.X aA aB eX cw HC.X).mono ?_;rintro e w2 ⟨hb,⟨hf,rfl⟩|⟨hf,g,uQ,rfl,ex⟩⟩
 ·have C2:Zb (CRT w (w2.alloc (zg #[ze zd 0,za none 0 0,ze zd 0,ze zd 0,ze zd 0,ze zd 0,ze zd 0,za none 0 0] 119)) _ _ _):=(bt.X.below hb).alloc _
  have bC:Zb _:=(z95 hf).symm.trans HR.X;rw[bC.X]at hf⊢;have I_:(r==0)=false:=by simp[hf]
  have Kj:(r !=0)=true:=by simp[hf]
  have HF:=za4 hf;clear hb hf bt;obtain⟨t0,t1,t2,t3,t4,t5,t6,t7⟩:=zk4 C2.X.2;have tf:=fun i=>yZ _ _ i _ _ C2.X.2;go_wp2;refine xe (v:=.tuple #[.agg #[ze zd 0,za none 0 0,ze zd 0,ze zd 0,ze zd 0,ze zd 0,ze zd 0,za none 0 0],ze zd r]) (by simp[results,Tryz.results78,go_sem,t0,t1,t2,t3,t4,t5,t6,t7]) rfl ⟨?_,.inl ⟨HF.X,rfl⟩⟩
  repeat(first|with_reducible exact C2.X.b|refine xq ?_ (by simp<;>omega) _)
 ·have eP:Zb _:=hf
  obtain⟨cC,b_,ce,aZ,_⟩:=zb2 HC.X;obtain⟨kI,s_,nb,sC⟩:=zr5 ce aZ ab;have db:Zb _:=cC;have dG:Zb (z61 n (zd6 os ko ids) ids.length):=z55 b_ aZ ids;have bJ:=(zg3 (zf3 hf).2.2).1;have bC:=(zu6 (n:=n) (zs:=zs) hf).symm.trans HR.X;obtain⟨v0,G0⟩:=nmd (zc4 vs kv ab 0);obtain⟨v1,G1⟩:=nmd (zc4 vs kv ab 1);obtain⟨v2,G2⟩:=nmd (zc4 vs kv ab 2);obtain⟨v3,G3⟩:=nmd (zc4 vs kv ab 3);obtain⟨v4,G4⟩:=nmd (zc4 vs kv ab 4);rw[G1.X,G3.X,G4.X]at bC;rw[G1.X]at kI;rw[G3.X]at nb;rw[G0.X,G1.X,G2.X,G3.X,G4.X];have Is:Zb _:=bC;have jw:Zb _:=kI;have GE:Zb _:=nb;have C2:Zb (CRT w (w2.alloc (zg #[ze zd n,za a zs.length ac,ze zd v0,ze zd v1,ze zd v2,ze zd v3,ze zd v4,za (some ⟨g,0,none⟩) ids.length ids.length] 119)) _ _ _):=(bt.X.below hb).alloc _;have dj:Zb ((w2.alloc (zg #[ze zd n,za a zs.length ac,ze zd v0,ze zd v1,ze zd v2,ze zd v3,ze zd v4,za (some ⟨g,0,none⟩) ids.length ids.length] 119)).heap[w2.heap.size]? =_):=zS _ _;have fa:Zb (za3 (w2.alloc (zg #[ze zd n,za a zs.length ac,ze zd v0,ze zd v1,ze zd v2,ze zd v3,ze zd v4,za (some ⟨g,0,none⟩) ids.length ids.length] 119)) (some ⟨g,0,none⟩) (zd6 os ko ids)):=za3.below ex (zP _);have li:Zb _:=za2 (bt.X.below hb).2;have vo:Zb _:=xw (za2 bt.X.2) uQ;clear hb hf ex bt uQ cC b_ ce aZ kI s_ nb sC bC;obtain⟨t0,t1,t2,t3,t4,t5,t6,t7⟩:=zk4 dj.X
  go_wp2_with fail
  clear t0 t1 t2 t3 t4 t5 t6 t7;generalize w2.alloc _=W2 at*;generalize w2.heap.size=gt at*;refine(zQ4 n v0 v1 v2 v3 v4 a _ ac ids.length _ zs (zd6 os ko ids) W2 db.X (HA.X.below C2.X.1.1) fa.X (zj2 os ko ids) dG.X jw.X GE.X bJ).mono ?_;rintro e w3 ⟨rfl,hb⟩;rw[Is.X];have C3:=za4 (C2.X.below hb);have El:=za4 (za0 hb (za2 dj.X) dj.X);have AN:=za4 (fa.X.below hb);clear hb C2 dj fa;obtain⟨t0,t1,t2,t3,t4,t5,t6,t7⟩:=zk4 C3.X.2;have tf:=fun i=>yZ _ _ i _ _ C3.X.2;by_cases hr:r=0
  ·have Kj:(r !=0)=false:=by simp[hr]
   have HF:Zb _:=hr;clear hr;obtain⟨s0,s1,s2,s3,s4,s5,s6,s7⟩:=zk4 El.X;go_wp2;refine xe (v:=.tuple #[.agg #[ze zd n,za a zs.length ac,ze zd v0,ze zd v1,ze zd v2,ze zd v3,ze zd v4,za (some ⟨g,0,none⟩) ids.length ids.length],ze zd 0]) (by simp[results,Tryz.results78,go_sem,t0,t1,t2,t3,t4,t5,t6,t7]) rfl ⟨?_,.inr ⟨HF.X,g,by have:=vo.X;omega,?_,?_⟩⟩
   ·repeat(first|with_reducible exact C3.X.b|refine xq ?_ (by simp<;>omega) _)
   ·rw[G0.X,G1.X,G2.X,G3.X,G4.X]
   ·repeat(first|with_reducible exact AN.X|with_reducible refine yi9 ?_ (by have:=vo.X;omega))
  ·have Kj:(r !=0)=true:=by simp[hr]
   have HF:=za4 hr;clear hr;go_wp2;refine xe (v:=.tuple #[.agg #[ze zd 0,za none 0 0,ze zd 0,ze zd 0,ze zd 0,ze zd 0,ze zd 0,za none 0 0],ze zd r]) (by simp[results,Tryz.results78,go_sem,t0,t1,t2,t3,t4,t5,t6,t7]) rfl ⟨?_,.inl ⟨HF.X,rfl⟩⟩
   repeat(first|with_reducible exact C3.X.b|refine xq ?_ (by simp<;>omega) _)
theorem zB1(n v0 home v2 am to:Int)(a ar:Option Addr)(ac m cr:Nat)(zs ros:List Int)(w:World)(hm:zq9 n zs=true)(hA:za3 w a zs)(hR:za3 w ar ros)(hl:ros.length=m*6)(dm:z61 n ros m)(hh:0<=home/\home<n)(dC:m<=12):
 Calls zh 79 #[.agg #[ze zd n,za a zs.length ac,ze zd v0,ze zd home,ze zd v2,ze zd am,ze zd to,za ar m cr]] w fun e w'=>e=.returned (ze zd (zq7 n zs ros m home))/\Za w.heap.size w w':=by
 have HM:Zb _:=hm;have HA:=za4 hA;have HR:=za4 hR;have HL:Zb _:=hl;have dG:=za4 dm;have HH:Zb _:=hh;clear hm hA hR hl dm hh;obtain⟨r,HV⟩:=nmd (zq7 n zs ros m home);rw[HV.X];have aU:Zb (Za w.heap.size w (w.alloc (zg #[ze zd n,za a zs.length ac,ze zd v0,ze zd home,ze zd v2,ze zd am,ze zd to,za ar m cr] 119))):=zP _;have kd:Zb ((w.alloc (zg #[ze zd n,za a zs.length ac,ze zd v0,ze zd home,ze zd v2,ze zd am,ze zd to,za ar m cr] 119)).heap[w.heap.size]? =_):=zS _ _;go_enter Tryz.func79,Tryz.ntmps79;obtain⟨t0,t1,t2,t3,t4,t5,t6,t7⟩:=zk4 kd.X
 go_wp2_with fail
 clear t0 t1 t2 t3 t4 t5 t6 t7;generalize w.alloc _=W1 at*;go_loopw[3,4,13] (fun pl sm t wr=>∃k:Nat,k<=m/\t=ze zd k/\pl=ze zd (plc ros home k)/\sm=ze zd (zr1 n zs ros home k)/\Za w.heap.size w wr/\wr.heap[w.heap.size]? =some (zg #[ze zd n,za a zs.length ac,ze zd v0,ze zd home,ze zd v2,ze zd am,ze zd to,za ar m cr] 119 (0,0))) (fun _ _ t _=>m - (intOf t).toNat)
 case atStart=>exact⟨0,xi _,rfl,rfl,rfl,aU.X,kd.X⟩
 case round=>
  clear aU kd;obtain⟨k,hk,rfl,rfl,rfl,hb,hp⟩:=hrel;have aT:=zY7 dG.X HH.1 HH.2 k hk;have iZ:=z51 (ros:=ros) (home:=home) HM.X k;have HB:Zb _:=hb;have HP:=za4 hp;obtain⟨t0,t1,t2,t3,t4,t5,t6,t7⟩:=zk4 hp;obtain⟨p,bm⟩:=nmd (plc ros home k);obtain⟨f,eZ⟩:=nmd (zr1 n zs ros home k);rw[bm.X]at aT;rw[eZ.X]at iZ;rw[bm.X,eZ.X];have mz:Zb _:=aT;clear hb hp aT;by_cases ah:k<m
  ·obtain⟨b,off,rfl,aJ⟩:=za3.some (za3.below HR.X HB.X) (j:=k*6) (by rw[HL.X];omega)
   obtain⟨r0,r1,r2,r3,r4,r5⟩:=zu5 aJ HL.X k ah;clear aJ;have fq:Zb _:=(dG.X k ah).1;obtain⟨o0,H0⟩:=nmd (og6 ros k 0);obtain⟨o1,H1⟩:=nmd (og6 ros k 1);obtain⟨o2,H2⟩:=nmd (og6 ros k 2);obtain⟨o3,H3⟩:=nmd (og6 ros k 3);obtain⟨o4,H4⟩:=nmd (og6 ros k 4);obtain⟨o5,H5⟩:=nmd (og6 ros k 5);rw[H1.X]at fq;rw[H0.X]at r0;rw[H1.X]at r1;rw[H2.X]at r2;rw[H3.X]at r3;rw[H4.X]at r4;rw[H5.X]at r5;obtain⟨d,HD⟩:=nmd (tmI n zs p o1);have ki:=zx8 HM.X p o1;rw[HD.X]at ki;have a8:Zb (zr1 n zs ros home (k+1)=f+d):=by
    show _=_;simp only[zr1];rw[eZ.X,bm.X,H1.X,HD.X]
   have lX:Zb (Za w.heap.size w (wr.alloc (zg #[ze zd o0,ze zd o1,ze zd o2,ze zd o3,ze zd o4,ze zd o5] 103))):=HB.alloc HB.size _;have vq:Zb ((wr.alloc (zg #[ze zd o0,ze zd o1,ze zd o2,ze zd o3,ze zd o4,ze zd o5] 103)).heap[w.heap.size]? =_):=(xg _ _ (za2 HP.X)).trans HP.X;have iO:Zb ((wr.alloc (zg #[ze zd o0,ze zd o1,ze zd o2,ze zd o3,ze zd o4,ze zd o5] 103)).heap[wr.heap.size]? =_):=zS _ _;obtain⟨i0,i1,i2,i3,i4,i5⟩:=zi0 iO.X;obtain⟨s0,s1,s2,s3,s4,s5,s6,s7⟩:=zk4 vq.X
   go_wp2_with fail
   clear r0 r1 r2 r3 r4 r5 t0 t1 t2 t3 t4 t5 t6 t7 i0 i1 i2 i3 i4 i5 s0 s1 s2 s3 s4 s5 s6 s7;generalize wr.alloc _=W2 at*;generalize wr.heap.size=g at*;refine(zC8 n p o1 v0 home v2 am to _ _ _ _ _ zs _ d HD.X HM.X mz.X fq.X (HA.below lX.X)).mono ?_;rintro e W3 ⟨rfl,cG⟩;have lJ:Zb _:=lX.trans (cG.mono lX.size);have NQ:=za4 (za0 cG (za2 vq.X) vq.X);have uU:=za4 (za0 cG (za2 iO.X) iO.X);clear cG lX vq iO;obtain⟨i0,i1,i2,i3,i4,i5⟩:=zi0 uU.X;go_wp2;go_roundw
   case rel=>exact⟨k+1,by omega,by go_num,by rw[<-H1.X];rfl,by rw[a8.X],lJ.X,NQ.X⟩
   case measure=>simp[intOf];omega
  ·have bz:k=m:=by omega
   have HE:Zb (r=f+tmI n zs p home):=by
    have:=HV.X;unfold zq7 at this;rw[<-bz,eZ.X,bm.X]at this;exact this.symm
   clear bz;obtain⟨d,HD⟩:=nmd (tmI n zs p home);have ki:=zx8 HM.X p home;rw[HD.X]at ki HE
   go_wp2_with fail
   refine(zC8 n p home v0 home v2 am to _ _ _ _ _ zs _ d HD.X HM.X mz.X HH.X (HA.below HB.X)).mono ?_;rintro e W3 ⟨rfl,cG⟩;have lJ:Zb _:=HB.trans (cG.mono HB.size);clear cG;go_wp2;go_ret;exact⟨zl1 HE.symm,lJ.X⟩
theorem zp6(n fine ab:Int)(a ao av bi:Option Addr)(ac ko co kv cv c2:Nat)(zs os vs ids:List Int)(w:World)(hA:za3 w a zs)(hO:za3 w ao os)(hV:za3 w av vs)(hI:za3 w bi ids)(an:os.length=ko*6)(au:vs.length=kv*5)(aA:ko<=9223372036854775807)(aB:kv<=9223372036854775807)(eX:ids.length<=9223372036854775807)(cw:ids.length<=c2)(bU:zd0 n zs os vs ko kv fine=true)(ok:Bool)(aP:decide (codeV true n zs os vs ko kv ab ids=0)=ok)(r:Int)(hr:rcV n zs os vs ko kv ab ids=r):
 Calls zh 182 #[.agg #[ze zd n,za a zs.length ac,za ao ko co,za av kv cv,ze zd fine],.agg #[ze zd ab,za bi ids.length c2]] w fun e w'=>e=.returned (.tuple #[ze zd r,.bool ok])/\Za w.heap.size w w':=by
 have HA:=za4 hA;have HO:=za4 hO;have HV:=za4 hV;have HI:=za4 hI;have aF:Zb _:=an;have aE:Zb _:=au;have HC:Zb _:=bU;have HR:Zb _:=hr;have HK:Zb _:=aP;clear hA hO hV hI an au bU hr aP;have bt:Zb (CR w ((w.alloc (zg #[ze zd n,za a zs.length ac,za ao ko co,za av kv cv,ze zd fine] 30)).alloc (zg #[ze zd ab,za bi ids.length c2] 80)) _ _):=CR.new w _ _;go_enter Tryz.func182,Tryz.ntmps182;obtain⟨c0,c1,bZ,c3,c4⟩:=za7 bt.2.1;obtain⟨d0,d1⟩:=za1 bt.2.2
 go_wp2_with fail
 clear c0 c1 bZ c3 c4 d0 d1;refine(z81 n fine ab a ao av bi ac ko co kv cv c2 zs os vs ids _ (HA.below bt.1) (HO.below bt.1) (HV.below bt.1) (HI.below bt.1) aF.X aE.X aA aB eX cw HC.X).mono ?_;rintro e w2 ⟨hb,⟨hf,rfl⟩|⟨hf,g,_,rfl,ex⟩⟩
 ·have fY:Zb _:=bt.1.trans (hb.mono bt.1.size)
  have cm:Zb (r=0):=HR.symm.trans (yA1 hf);have df:Zb (ok=false):=HK.symm.trans (zX hf);obtain⟨fv,eP⟩:=nmd (codeV true n zs os vs ko kv ab ids);rw[eP.X]at hf⊢;have I_:(fv !=0)=true:=by simp[hf]
  clear hb hf;go_wp2;go_ret2;refine⟨?_,fY.alloc fY.size _⟩;rw[cm.X,df.X];rfl
 ·have fY:Zb _:=bt.1.trans (hb.mono bt.1.size)
  have bB:=(zf3 (zg8 hf).1).2.2;obtain⟨cC,b_,ce,aZ,_⟩:=zb2 HC.X;obtain⟨kI,s_,nb,sC⟩:=zr5 ce aZ ab;have db:Zb _:=cC;have dG:Zb (z61 n (zd6 os ko ids) ids.length):=z55 b_ aZ ids;have bJ:=(zg3 bB).1;have cm:=(z18 hf).symm.trans HR.X;have df:Zb (ok=true):=HK.symm.trans (zW hf);obtain⟨v0,G0⟩:=nmd (zc4 vs kv ab 0);obtain⟨v1,G1⟩:=nmd (zc4 vs kv ab 1);obtain⟨v2,G2⟩:=nmd (zc4 vs kv ab 2);obtain⟨v3,G3⟩:=nmd (zc4 vs kv ab 3);obtain⟨v4,G4⟩:=nmd (zc4 vs kv ab 4);rw[G1.X]at cm kI;rw[G0.X,G1.X,G2.X,G3.X,G4.X];have Fl:Zb _:=cm;have jw:Zb _:=kI;have lX:Zb (Za w.heap.size w (w2.alloc (zg #[ze zd n,za a zs.length ac,ze zd v0,ze zd v1,ze zd v2,ze zd v3,ze zd v4,za (some ⟨g,0,none⟩) ids.length ids.length] 119))):=fY.alloc fY.size _;have dj:Zb ((w2.alloc (zg #[ze zd n,za a zs.length ac,ze zd v0,ze zd v1,ze zd v2,ze zd v3,ze zd v4,za (some ⟨g,0,none⟩) ids.length ids.length] 119)).heap[w2.heap.size]? =_):=zS _ _;have fa:Zb (za3 (w2.alloc (zg #[ze zd n,za a zs.length ac,ze zd v0,ze zd v1,ze zd v2,ze zd v3,ze zd v4,za (some ⟨g,0,none⟩) ids.length ids.length] 119)) (some ⟨g,0,none⟩) (zd6 os ko ids)):=za3.below ex (zP _);clear hb hf ex bt cC b_ ce aZ kI s_ nb sC cm bB;obtain⟨t0,t1,t2,t3,t4,t5,t6,t7⟩:=zk4 dj.X
  go_wp2_with fail
  clear t0 t1 t2 t3 t4 t5 t6 t7;refine(zB1 n v0 v1 v2 v3 v4 a _ ac ids.length _ zs (zd6 os ko ids) _ db.X (HA.below lX.X) fa.X (zj2 os ko ids) dG.X jw.X bJ).mono ?_;rintro e w3 ⟨rfl,hb⟩;rw[Fl.X];have lJ:Zb _:=lX.trans (hb.mono lX.size);clear hb;go_wp2;go_ret2;refine⟨?_,lJ.X⟩;rw[df.X];rfl
