import Derived.Test.YtkchnomkiboihaaGreatPack5
import Derived.RangeFuncNested
import Derived.RangeFuncBound
import Derived.Shelf.RegionOpen
import Derived.OwnWalkIn
import Derived.LoopNIn
import Derived.LoopIn
import Derived.Deep.Cut
set_option linter.unusedSimpArgs false
set_option maxHeartbeats 2000000
set_option maxRecDepth 100000
namespace Go.Proofs.YtkchnomkiboihaaGreat
theorem qh:type_of% @Array.getElem?_eq_some_iff:=@Array.getElem?_eq_some_iff
open Value renaming slice→za,int→zc
open IntKind renaming i64→zb
open Obj renaming cells→zd
open Proofs.Tryz renaming prog→ze
open Go renaming World→zg
open List renaming length→zj,range→zo
open Go.RowKit Go.Shelf
open Q
attribute [local go_sem] Oper.semAt_some
theorem zO7{w w':zg}(h:Below w.heap.size w w'):w.grownBy w' none:=⟨h.os,h.tape,h.output,h.size,fun k hk _=>h.block k hk⟩
def KpT(n₀ Bt:Nat)(o:Obj)(W W':zg):Prop:=Below n₀ W W'/\(W.heap[Bt]? =some o->W'.heap[Bt]? =some o)
theorem KpT.trans{n₀ Bt:Nat}{o:Obj}{A B C:zg}(h:KpT n₀ Bt o A B)(g:KpT n₀ Bt o B C):KpT n₀ Bt o A C:=⟨h.1.trans g.1,fun x=>g.2 (h.2 x)⟩
theorem zL9(n v0 home v2 frm to:Int)(a ar:Option Addr)(cap m cr:Nat)(zs:List Int)(w:zg):
 Calls ze 150 #[.agg #[zc zb n,za a zs.length cap,zc zb v0,zc zb home,zc zb v2,zc zb frm,zc zb to,za ar m cr]] w fun e w'=>e=.returned (.func (.func 179) #[] #[.pointer (some ⟨w.heap.size,0,none⟩)])/\w'=w.alloc (zd #[zc zb n,za a zs.length cap,zc zb v0,zc zb home,zc zb v2,zc zb frm,zc zb to,za ar m cr] 119):=by
 go_enter Tryz.func150,Tryz.ntmps150;go_wp2;go_ret;exact⟨rfl,rfl⟩
theorem yo0(nf:Nat)(hnf:1<=nf)(l Bt n₀:Nat)(n v0 home v2 frm to:Int)(a ar:Option Addr)(cap m cr:Nat)(zs ros:List Int)(J Jx:List (Fin m)->zg->Prop)
 (hY:∀pre x W,J pre W->pre.length<m->YieldAt Fence.wide (nf - 1) ze l #[.agg #[zc zb (og6 ros x.val 0),zc zb (og6 ros x.val 1),zc zb (og6 ros x.val 2),zc zb (og6 ros x.val 3),zc zb (og6 ros x.val 4),zc zb (og6 ros x.val 5)],.agg #[zc zb (og6 ros x.val 0),zc zb (ym4 n zs ros home frm x.val),zc zb (zi0 n zs ros home frm x.val),zc zb (z02 n zs ros home frm (x.val+1))]] W fun e W'=>
   (e=.returned (.bool true)/\J (pre++[x]) W'/\KpT n₀ Bt (zd #[zc zb n,za a zs.length cap,zc zb v0,zc zb home,zc zb v2,zc zb frm,zc zb to,za ar m cr] 119 (0,0)) W W')∨(e=.returned (.bool false)/\Jx (pre++[x]) W'))
 (w W:zg) (hJA:AbidesFrom W.heap.size J) (hn₀:w.heap.size<=n₀) (hwW:Below w.heap.size w W) (hT:W.heap[Bt]? =some (zd #[zc zb n,za a zs.length cap,zc zb v0,zc zb home,zc zb v2,zc zb frm,zc zb to,za ar m cr] 119 (0,0))) (hm:zs6 n zs=true) (hA:za3 w a zs) (hR:za3 w ar ros) (hl:ros.length=m*6) (hbd:z64 n ros m) (hh:0<=home/\home<n) (hf:0<=frm/\frm<=1000000) (hm12:m<=12) (h0:J [] W):
 Calls ze 179 #[.func (.yield l) #[] #[],.pointer (some ⟨Bt,0,none⟩)] W fun e W'=>(∃v,e=.returned v)∧
  ((∃ys:List (Fin m),ys.map Fin.val=zo m/\J ys W')∨(∃pre:List (Fin m),(∃k,k<=m/\pre.map Fin.val=zo k)/\Jx pre W')):=by
 have HM:Hid _:=hm;have HA:=za4 hA;have HR:=za4 hR;have HL:Hid _:=hl;have HBD:=za4 hbd;have HH:Hid _:=hh;have HF:Hid _:=hf;have HY:Hid _:=hY;have HJA:=za4 hJA;have HB0:Hid _:=hwW;have HT0:=za4 hT;have HJ0:Hid _:=h0;clear hm hA hR hl hbd hh hf hY hJA hwW hT h0;go_enter Tryz.func179,Tryz.ntmps179;obtain⟨t0,t1,t2,t3,t4,t5,t6,t7⟩:=zl2 HT0.X;have u3:=fun s:Kin W=>s.cell t3;have u5:=fun s:Kin W=>s.cell t5
 go_wp2_with fail
 have hkin:=Kin.there W;refine zb0 (by kernel_rfl) (by kernel_rfl) ?_
 repeat(go_big_quiet_step ((fail)))
 refine xj ?_;rintro _ ⟨s,rfl⟩;have HB1:Hid _:=HB0.trans (s.below.mono HB0.size);have HT1:=za4 (za0 s.below (za2 HT0.X) HT0.X);have HJ1:Hid _:=HJA.X _ _ _ none HJ0.X (zO7 s.below) (fun r e=>by cases e);have HSZ:Hid _:=s.below.size;clear t0 t1 t2 t3 t4 t5 t6 t7 u3 u5 HB0 HT0 HJ0 hkin;generalize s.w=W1 at*;obtain⟨t0,t1,t2,t3,t4,t5,t6,t7⟩:=zl2 HT1.X
 go_wp2_with fail
 clear t0 t1 t2 t3 t4 t5 t6 t7;go_loopw[3,4,18] (fun pl nw t wr=>∃(k:Nat) (pre:List (Fin m)),k<=m/\t=zc zb k/\pl=zc zb (plc ros home k)/\nw=zc zb (z02 n zs ros home frm k)/\pre.map Fin.val=zo k/\J pre wr/\Below w.heap.size w wr/\W.heap.size<=wr.heap.size/\wr.heap[Bt]? =some (zd #[zc zb n,za a zs.length cap,zc zb v0,zc zb home,zc zb v2,zc zb frm,zc zb to,za ar m cr] 119 (0,0))) (fun _ _ t _=>m - (intOf t).toNat)
 case atStart=>exact⟨0,[],yZ _,rfl,rfl,rfl,rfl,HJ1.X,HB1.X,HSZ.X,HT1.X⟩
 case round=>
  clear HB1 HT1 HJ1 HSZ;obtain⟨k,pre,hk,rfl,rfl,rfl,hpre,hj,hb,hsz,ht⟩:=hrel;have hpl:=zT1 HBD.X HH.1 HH.2 k hk;have hnw:=zN9 (home:=home) HM.X HBD.X HF.X k hk;have HPRE:Hid _:=hpre;have HJ:Hid _:=hj;have HB:Hid _:=hb;have HSZ:Hid _:=hsz;have HT:=za4 ht;obtain⟨t0,t1,t2,t3,t4,t5,t6,t7⟩:=zl2 ht;obtain⟨p,HPL⟩:=nmd (plc ros home k);obtain⟨f,HFR⟩:=nmd (z02 n zs ros home frm k);rw[HPL.X]at hpl;rw[HFR.X]at hnw;rw[HPL.X,HFR.X];have HPB:Hid _:=hpl;clear hpre hj hb hsz ht hpl;by_cases hlt:k<m
  ·obtain⟨b,off,rfl,hcs⟩:=za3.some (za3.below HR.X HB.X) (j:=k*6) (by rw[HL.X];omega)
   obtain⟨r0,r1,r2,r3,r4,r5⟩:=zq2 hcs HL.X k hlt;clear hcs;obtain⟨h1b,h2b,h3b,h4b,h5b⟩:=HBD.X k hlt;have HO1:Hid _:=h1b;have hY1:=HY.X pre ⟨k,hlt⟩;clear h1b h2b;obtain⟨o0,H0⟩:=nmd (og6 ros k 0);obtain⟨o1,H1⟩:=nmd (og6 ros k 1);obtain⟨o2,H2⟩:=nmd (og6 ros k 2);obtain⟨o3,H3⟩:=nmd (og6 ros k 3);obtain⟨o4,H4⟩:=nmd (og6 ros k 4);obtain⟨o5,H5⟩:=nmd (og6 ros k 5);rw[H3.X]at h3b;rw[H4.X]at h4b;rw[H5.X]at h5b;rw[H1.X]at HO1;rw[H0.X]at r0;rw[H1.X]at r1;rw[H2.X]at r2;rw[H3.X]at r3;rw[H4.X]at r4;rw[H5.X]at r5;obtain⟨d,HD⟩:=nmd (tmI n zs p o1);have hdb:=zx8 HM.X p o1;rw[HD.X]at hdb;have HAR:Hid (ym4 n zs ros home frm k=f+d):=by
    show _=_;unfold ym4;rw[HFR.X,HPL.X,H1.X,HD.X]
   have HSTV:Hid (zi0 n zs ros home frm k=max (f+d) o3):=by
    show _=_;unfold zi0;rw[HAR.X,H3.X]
   have HNX:Hid (z02 n zs ros home frm (k+1)=max (f+d) o3+o5):=by
    show _=_;rw[zV9,HSTV.X,H5.X]
   obtain⟨mx,HMX⟩:=nmd (max (f+d) o3);rw[HMX.X]at HSTV HNX;have hmb:0<=mx/\mx<=3000000:=by
    have:=HMX.X;omega
   dsimp only at hY1;rw[H0.X,H1.X,H2.X,H3.X,H4.X,H5.X,HAR.X,HSTV.X,HNX.X]at hY1;have HY1:=za4 hY1;clear hY1;have HBA:Hid (Below w.heap.size w (wr.alloc (zd #[zc zb o0,zc zb o1,zc zb o2,zc zb o3,zc zb o4,zc zb o5] 103))):=HB.alloc HB.size _;have HTA:Hid ((wr.alloc (zd #[zc zb o0,zc zb o1,zc zb o2,zc zb o3,zc zb o4,zc zb o5] 103)).heap[Bt]? =_):=(yY _ _ (za2 HT.X)).trans HT.X;have HRO:Hid ((wr.alloc (zd #[zc zb o0,zc zb o1,zc zb o2,zc zb o3,zc zb o4,zc zb o5] 103)).heap[wr.heap.size]? =_):=zN _ _;have HJA2:Hid (J pre (wr.alloc (zd #[zc zb o0,zc zb o1,zc zb o2,zc zb o3,zc zb o4,zc zb o5] 103))):=HJA.X _ _ _ none HJ.X (World.grownBy_alloc wr _ none) (fun r e=>by cases e);have HSA:Hid (W.heap.size<=(wr.alloc (zd #[zc zb o0,zc zb o1,zc zb o2,zc zb o3,zc zb o4,zc zb o5] 103)).heap.size):=y7 HSZ.X (by simp);obtain⟨i0,i1,i2,i3,i4,i5⟩:=zh8 HRO.X;obtain⟨s0,s1,s2,s3,s4,s5,s6,s7⟩:=zl2 HTA.X
   go_wp2_with fail
   clear r0 r1 r2 r3 r4 r5 t0 t1 t2 t3 t4 t5 t6 t7 i0 i1 i2 i3 i4 i5 s0 s1 s2 s3 s4 s5 s6 s7;generalize wr.alloc (zd #[zc zb o0,zc zb o1,zc zb o2,zc zb o3,zc zb o4,zc zb o5] 103)=W2 at*;generalize wr.heap.size=g at*;refine(zD4 n p o1 v0 home v2 frm to _ _ _ _ _ zs _ d HD.X HM.X HPB.X HO1.X (HA.below HBA.X)).mono ?_;rintro e W3 ⟨rfl,hb3⟩;have HB3:Hid _:=HBA.trans (hb3.mono HBA.size);have HT3:=za4 (za0 hb3 (za2 HTA.X) HTA.X);have HR3:=za4 (za0 hb3 (za2 HRO.X) HRO.X);have HJ3:Hid _:=HJA.X _ _ _ none HJA2.X (zO7 hb3) (fun r e=>by cases e);have HS3:Hid _:=y7 HSA.X hb3.size;clear hb3 HBA HTA HRO HJA2 HSA;obtain⟨i0,i1,i2,i3,i4,i5⟩:=zh8 HR3.X;have hor:(f+d<o3/\mx=o3)∨(o3<=f+d/\mx=f+d):=by
    have:=HMX.X;omega
   rcases hor with⟨hmx,rfl⟩|⟨hmx,rfl⟩
   all_goals
    clear HMX
    go_wp2_with fail
    have e1:=fun s:Kin W3=>s.cell i1;have e5:=fun s:Kin W3=>s.cell i5;have hkin:=Kin.there W3;refine zb0 (by kernel_rfl) (by kernel_rfl) ?_
    repeat(go_big_quiet_step ((fail)))
    refine xj ?_;rintro _ ⟨s2,rfl⟩;have HB4:Hid _:=HB3.trans (s2.below.mono HB3.size);have HT4:=za4 (za0 s2.below (za2 HT3.X) HT3.X);have HR4:=za4 (za0 s2.below (za2 HR3.X) HR3.X);have HJ4:Hid _:=HJA.X _ _ _ none HJ3.X (zO7 s2.below) (fun r e=>by cases e);have HS4:Hid _:=y7 HS3.X s2.below.size;clear i0 i1 i2 i3 i4 i5 e1 e5 hkin HB3 HT3 HR3 HJ3 HS3;generalize s2.w=W4 at*;obtain⟨i0,i1,i2,i3,i4,i5⟩:=zh8 HR4.X;have hpl:pre.length<m:=by
     have:=congrArg zj HPRE.X;simp at this;omega
    go_upto_region 7 with(fail);refine(wpIn_wide (n:=nf)).1 ?_;obtain⟨fn,tmps,assign,body,hy,hR⟩:=HY1.X W4 HJ4.X hpl;have HRND:=za4 hR;clear hR
    gi_wp2
    refine HRND.mono ?_;rintro e W5 (⟨rfl,hJ5,hk5⟩|⟨rfl,hJx5⟩)
    ·have HJ5:Hid _:=hJ5
     have HB5:Hid _:=HB4.trans (hk5.1.mono hn₀);have HT5:Hid (W5.heap[Bt]? =_):=hk5.2 HT4.X;have HS5:Hid _:=y7 HS4.X hk5.1.size;have HPRE5:Hid ((pre++[(⟨k,hlt⟩:Fin m)]).map Fin.val=zo (k+1)):=by
      show _=_;rw[xX,HPRE.X,yG];rfl
     clear hJ5 hk5 hy HRND
     gi_wp2
     go_wp2;go_roundw
     case rel=>exact⟨k+1,_,by omega,by go_num,by rw[<-H1.X];rfl,by rw[HNX.X],HPRE5.X,HJ5.X,HB5.X,HS5.X,HT5.X⟩
     case measure=>simp[intOf];omega
    ·have HJx5:Hid _:=hJx5
     have HPRE5:Hid ((pre++[(⟨k,hlt⟩:Fin m)]).map Fin.val=zo (k+1)):=by
      show _=_;rw[xX,HPRE.X,yG];rfl
     clear hJx5 hy HRND
     gi_wp2
     go_wp2;refine yX (results_none rfl _ _ _) rfl ?_;exact⟨⟨_,rfl⟩,.inr ⟨_,⟨k+1,hlt,HPRE5.X⟩,HJx5.X⟩⟩
  ·obtain rfl:k=m:=by omega
   go_wp2
   go_end0
   exact⟨⟨_,rfl⟩,.inl ⟨_,HPRE.X,HJ.X⟩⟩
attribute [local go_sem] Oper.semAt_some
theorem KpT.putObj{n₀ Bt:Nat}{ob:Obj}(hob:ob.isCells=true){w:zg}(hn:n₀<=w.heap.size)(W:zg)(l:Nat)(o o':Obj)(hl:w.heap.size<=l)(h:W.heap[l]? =some o)(hc:o.isCells=false)(hw:o.isWalk=false):KpT n₀ Bt ob W (W.putObj l o'):=by
 refine⟨belowK_b hn W l o o' hl h hc hw,fun hT=> ?_⟩;have hne:Bt≠l:=by
  intro e;rw[e,h]at hT;cases hT;rw[hob]at hc;cases hc
 exact((grownBy_putObj' W l o').block Bt (qh.1 hT).1 (fun e=>hne (by cases e;rfl))).trans hT
theorem KpT.alloc{n₀ Bt:Nat}{ob:Obj}(W:zg)(o:Obj)(hn:n₀<=W.heap.size):KpT n₀ Bt ob W (W.alloc o):=
 ⟨(yV _ _).alloc hn _,fun h=>(yY _ _ (qh.1 h).1).trans h⟩
theorem KpT.set{n₀ Bt:Nat}{ob:Obj}(W:zg)(k i:Nat)(v:Value)(hn:n₀<=k)(hne:Bt≠k):KpT n₀ Bt ob W (W.setCell ⟨k,i,none⟩ v):=
 ⟨(yV _ _).setCell hn _,fun h=>za6 h hne⟩
theorem zA2(nf:Nat)(hnf:1<=nf)(Bt n₀:Nat)(n v0 home v2 frm to:Int)(a ar:Option Addr)(cap m cr:Nat)(zs ros:List Int)(w w0:zg)(hn₀:w.heap.size<=n₀)(hw0:Below w.heap.size w w0)(hT:w0.heap[Bt]? =some (zd #[zc zb n,za a zs.length cap,zc zb v0,zc zb home,zc zb v2,zc zb frm,zc zb to,za ar m cr] 119 (0,0)))(hm:zs6 n zs=true)(hA:za3 w a zs)(hR:za3 w ar ros)(hl:ros.length=m*6)(hbd:z64 n ros m)(hh:0<=home/\home<n)(hf:0<=frm/\frm<=1000000)(hm12:m<=12):
 SeqStopsK Fence.wide nf ze 179 #[.pointer (some ⟨Bt,0,none⟩)] (fun x:Fin m=>#[.agg #[zc zb (og6 ros x.val 0),zc zb (og6 ros x.val 1),zc zb (og6 ros x.val 2),zc zb (og6 ros x.val 3),zc zb (og6 ros x.val 4),zc zb (og6 ros x.val 5)],.agg #[zc zb (og6 ros x.val 0),zc zb (ym4 n zs ros home frm x.val),zc zb (zi0 n zs ros home frm x.val),zc zb (z02 n zs ros home frm (x.val+1))]]) (KpT n₀ Bt (zd #[zc zb n,za a zs.length cap,zc zb v0,zc zb home,zc zb v2,zc zb frm,zc zb to,za ar m cr] 119 (0,0)))
  (fun ys=>ys.map Fin.val=zo m) (fun pre=>∃k,k<=m/\pre.map Fin.val=zo k) m w0:=fun l J Jx W hW hJ _ hY h0=>
 callsIn_wide.2 (yo0 nf hnf l Bt n₀ n v0 home v2 frm to a ar cap m cr zs ros J Jx hY w W hJ hn₀ (hw0.trans (hW.mono hw0.size)) (za0 hW (za2 hT) hT) hm hA hR hl hbd hh hf hm12 h0)
theorem zv9{β:Type}{B k:Nat}{cs:β->Array Value}{T:TypeId}{f:Nat×Nat}:OwnFrom B (fun(s:β) W=>W.heap[k]? =some (.cells (cs s) T f)):=fun s W W' row hs hg hr=>
 (hg.block k (qh.1 hs).1 (fun e=>by obtain⟨_,o,ho,hc⟩:=hr k e.symm;rw[hs]at ho;cases ho;cases hc)).trans hs
def yq4(ros:List Int)(home:Int){m:Nat}(pre:List (Fin m)):Int:=match pre.getLast? with
 |some x=>og6 ros x.val 1
 |none=>home
def yq6(n:Int)(zs ros:List Int)(home frm:Int){m:Nat}(pre:List (Fin m)):Int:=match pre.getLast? with
 |some x=>z02 n zs ros home frm (x.val+1)
 |none=>frm
theorem zK6(ros:List Int)(home:Int){m:Nat}(pre:List (Fin m))(x:Fin m):yq4 ros home (pre++[x])=og6 ros x.val 1:=by simp[yq4]
theorem zL7(n:Int)(zs ros:List Int)(home frm:Int){m:Nat}(pre:List (Fin m))(x:Fin m):yq6 n zs ros home frm (pre++[x])=z02 n zs ros home frm (x.val+1):=by simp[yq6]
theorem yn0{m:Nat}(ys:List (Fin m))(h:ys.map Fin.val=zo m):(m=0/\ys=[])∨∃(pre:List (Fin m)) (x:Fin m),ys=pre++[x]/\x.val+1=m:=by
 rcases List.eq_nil_or_concat ys with rfl|⟨pre,x,rfl⟩
 ·left
  have:=congrArg zj h;simp at this;exact⟨this.symm,rfl⟩
 ·right
  refine⟨pre,x,by simp,?_⟩;have hl:=congrArg zj h;have h2:=congrArg List.getLast? h;simp at hl h2;obtain⟨k,rfl⟩:∃k,m=k+1:=⟨m - 1,by omega⟩;rw[yG]at h2;simp at h2;omega
theorem y25(ros:List Int)(home:Int){m:Nat}(ys:List (Fin m))(h:ys.map Fin.val=zo m):yq4 ros home ys=plc ros home m:=by
 rcases yn0 ys h with⟨rfl,rfl⟩|⟨pre,x,rfl,hx⟩
 ·rfl
 ·rw[zK6]
  have:plc ros home (x.val+1)=og6 ros x.val 1:=rfl;rw[<-this];exact congrArg (plc ros home) hx
theorem y06(n:Int)(zs ros:List Int)(home frm:Int){m:Nat}(ys:List (Fin m))(h:ys.map Fin.val=zo m):yq6 n zs ros home frm ys=z02 n zs ros home frm m:=by
 rcases yn0 ys h with⟨rfl,rfl⟩|⟨pre,x,rfl,hx⟩
 ·rfl
 ·rw[zL7]
  exact congrArg (z02 n zs ros home frm) hx
def zl6(w W:zg)(ts:Array Value)(bp bn:Nat)(pl nw:Int):Prop:=
 Below w.heap.size w W/\W.heap[w.heap.size]? =some (.cells ts 119 (0,0))/\W.heap[bp]? =some (zd #[zc zb pl] 2 (0,0))/\W.heap[bn]? =some (zd #[zc zb nw] 2 (0,0))/\w.heap.size<bp/\w.heap.size<bn/\bp≠bn
theorem zl6.new1(w:zg)(ts:Array Value)(pl nw:Int):zl6 w (((w.alloc (.cells ts 119)).alloc (zd #[zc zb pl] 2)).alloc (zd #[zc zb nw] 2)) ts (w.heap.size+1) (w.heap.size+1+1) pl nw:=by
 have h0:=xb w (.cells ts 119) (zd #[zc zb pl] 2);have h1:=y8 w (.cells ts 119) (zd #[zc zb pl] 2);have h2:=zN ((w.alloc (.cells ts 119)).alloc (zd #[zc zb pl] 2)) (zd #[zc zb nw] 2);refine⟨((zK _).alloc (by simp) _).alloc (by simp;omega) _,(yY _ _ (za2 h0)).trans h0,(yY _ _ (za2 h1)).trans h1,by simpa using h2,by omega,by omega,by omega⟩
theorem zl6.new2(w:zg)(ts:Array Value)(pl nw:Int):zl6 w (((w.alloc (.cells ts 119)).alloc (zd #[zc zb nw] 2)).alloc (zd #[zc zb pl] 2)) ts (w.heap.size+1+1) (w.heap.size+1) pl nw:=by
 obtain⟨h1,h2,h3,h4,_,_,_⟩:=zl6.new1 w ts nw pl;exact⟨h1,h2,h4,h3,by omega,by omega,by omega⟩
theorem zl6.below{w W W':zg}{ts:Array Value}{bp bn:Nat}{pl nw:Int}(h:zl6 w W ts bp bn pl nw)(hb:Below W.heap.size W W'):zl6 w W' ts bp bn pl nw:=
 ⟨h.1.trans (hb.mono h.1.size),za0 hb (za2 h.2.1) h.2.1,za0 hb (za2 h.2.2.1) h.2.2.1,za0 hb (za2 h.2.2.2.1) h.2.2.2.1,h.2.2.2.2⟩
theorem zl6.set{w W:zg}{ts:Array Value}{bp bn:Nat}{pl nw:Int}(h:zl6 w W ts bp bn pl nw)(pl' nw':Int):zl6 w (((W.setCell ⟨bp,0,none⟩ (zc zb pl')).setCell ⟨bn,0,none⟩ (zc zb nw')).drew) ts bp bn pl' nw':=by
 obtain⟨h1,h2,h3,h4,h5,h6,h7⟩:=h;exact⟨((h1.setCell (by simp;omega) _).setCell (by simp;omega) _).drew,za6 (za6 h2 (by omega)) (by omega),za6 (zP _ _ _ _ _ _ h3) h7,zP _ _ _ _ _ _ (za6 h4 (fun e=>h7 e.symm)),h5,h6,h7⟩
theorem zl6.own{β:Type}(w:zg)(ts:Array Value)(bp bn:Nat)(pl nw:β->Int)(B:Nat)(hB:w.heap.size<=B):OwnFrom B (fun s W=>zl6 w W ts bp bn (pl s) (nw s)):=fun s W W' row hs hg hr=>
 ⟨ownFrom_below (zQ _) hB () W W' row hs.1 hg hr,zv9 (cs:=fun _:Unit=>ts) () W W' row hs.2.1 hg hr,zv9 (cs:=fun _:Unit=>#[zc zb (pl s)]) () W W' row hs.2.2.1 hg hr,zv9 (cs:=fun _:Unit=>#[zc zb (nw s)]) () W W' row hs.2.2.2.1 hg hr,hs.2.2.2.2⟩
theorem y52(n v0 home v2 frm to:Int)(a ar:Option Addr)(cap m cr:Nat)(zs ros:List Int)(w:zg)(hm:zs6 n zs=true)(hA:za3 w a zs)(hR:za3 w ar ros)(hl:ros.length=m*6)(hbd:z64 n ros m)(hh:0<=home/\home<n)(hf:0<=frm/\frm<=1000000)(hm12:m<=12):
 Calls ze 151 #[.agg #[zc zb n,za a zs.length cap,zc zb v0,zc zb home,zc zb v2,zc zb frm,zc zb to,za ar m cr]] w fun e w'=>e=.returned (zc zb (homeV n zs ros m home frm))/\Below w.heap.size w w':=by
 have HM:Hid _:=hm;have HA:=za4 hA;have HR:=za4 hR;have HL:Hid _:=hl;have HBD:=za4 hbd;have HH:Hid _:=hh;have HF:Hid _:=hf;have HP0:Hid ((w.alloc (zd #[zc zb n,za a zs.length cap,zc zb v0,zc zb home,zc zb v2,zc zb frm,zc zb to,za ar m cr] 119)).heap[w.heap.size]? =_):=zN _ _;have HB0:Hid (Below w.heap.size w (w.alloc (zd #[zc zb n,za a zs.length cap,zc zb v0,zc zb home,zc zb v2,zc zb frm,zc zb to,za ar m cr] 119))):=zK _;clear hm hA hR hl hbd hh hf;refine(callsIn_wide (n:=3)).1 ?_;refine callsIn_of_wp_marks Tryz.func151 rfl trivial ?_ rfl;simp only[Tryz.ntmps151,List.size_toArray,yg,List.length_nil,Nat.reduceAdd,Nat.reduceSub,Array.replicate_succ,Array.replicate_zero,List.push_toArray,List.append_toArray,yo,yR];refine wpIn_wide.2 ?_;obtain⟨t0,t1,t2,t3,t4,t5,t6,t7⟩:=zl2 HP0.X
 go_wp2_with fail
 rename_i Kx hKx
 have key:∀(bp bn:Nat) (W1:zg),Hid (zl6 w W1 #[zc zb n,za a zs.length cap,zc zb v0,zc zb home,zc zb v2,zc zb frm,zc zb to,za ar m cr] bp bn home frm)->Kx {tmps:=#[.agg #[zc zb n,za a zs.length cap,zc zb v0,zc zb home,zc zb v2,zc zb frm,zc zb to,za ar m cr],.pointer (some ⟨w.heap.size,0,none⟩),zc zb 0,.pointer (some ⟨bp,0,none⟩),.pointer (some ⟨bn,0,none⟩),undef,undef,.pointer (some ⟨w.heap.size,2,none⟩),.pointer (some ⟨w.heap.size,3,none⟩),zc zb home,.pointer (some ⟨w.heap.size,2,none⟩),.pointer (some ⟨w.heap.size,5,none⟩),zc zb frm,undef,undef,undef,undef,undef,undef,undef,undef,undef,undef,undef,undef,undef,undef,undef,undef],defers:=[]} W1:=by
  clear t0 t1 t2 t3 t4 t5 t6 t7 HP0 HB0;intro bp bn W1 HX;apply hKx;obtain⟨t0,t1,t2,t3,t4,t5,t6,t7⟩:=zl2 HX.2.1
  go_wp2_with fail
  clear t0 t1 t2 t3 t4 t5 t6 t7;refine(zL9 n v0 home v2 frm to a ar cap m cr zs W1).mono ?_;rintro e w2 ⟨rfl,rfl⟩;have HX2:Hid (zl6 w (W1.alloc (zd #[zc zb n,za a zs.length cap,zc zb v0,zc zb home,zc zb v2,zc zb frm,zc zb to,za ar m cr] 119)) #[zc zb n,za a zs.length cap,zc zb v0,zc zb home,zc zb v2,zc zb frm,zc zb to,za ar m cr] bp bn home frm):=HX.below (zK _);have HT2:Hid ((W1.alloc (zd #[zc zb n,za a zs.length cap,zc zb v0,zc zb home,zc zb v2,zc zb frm,zc zb to,za ar m cr] 119)).heap[W1.heap.size]? =some (zd #[zc zb n,za a zs.length cap,zc zb v0,zc zb home,zc zb v2,zc zb frm,zc zb to,za ar m cr] 119 (0,0))):=zN _ _;have HS1:Hid (w.heap.size<W1.heap.size/\bp<W1.heap.size/\bn<W1.heap.size):=⟨za2 HX.2.1,za2 HX.2.2.1,za2 HX.2.2.2.1⟩
  go_wp2_with fail
  refine(wpIn_wide (n:=3)).1 ?_;refine wpIn_rangeFunc_ownH rfl (by omega) (gf:=179) (lb:=#[.pointer (some ⟨W1.heap.size,0,none⟩)]) rfl trivial (enters_of Tryz.func179 (by kernel_rfl) rfl)
   (zA2 2 (by omega) W1.heap.size w.heap.size n v0 home v2 frm to a ar cap m cr zs ros w _ (zQ _) HX2.1 HT2.X HM.X HA.X HR.X HL.X HBD.X HH.X HF.X hm12)
   KpT.trans (KpT.putObj rfl HX2.1.size) (yV _ _) (fun _=>rfl)
   (fun pre W=>zl6 w W #[zc zb n,za a zs.length cap,zc zb v0,zc zb home,zc zb v2,zc zb frm,zc zb to,za ar m cr] bp bn (yq4 ros home pre) (yq6 n zs ros home frm pre)/\W1.heap.size<W.heap.size)
   (fun _ _ _=>False)
   (OwnFrom.and (zl6.own w _ bp bn _ _ _ HX2.1.size) (fun _ _ _ _ hs hg _=>xh hs hg.size))
   (fun _ _ _ _ _ hs _ _=>hs)
   ⟨HX2.X,by simp⟩
   (fun x a' W=>∃Bo Bv,W1.heap.size<Bo/\W1.heap.size<Bv/\W.heap[Bo]? =some (zd #[zc zb (og6 ros x.val 0),zc zb (og6 ros x.val 1),zc zb (og6 ros x.val 2),zc zb (og6 ros x.val 3),zc zb (og6 ros x.val 4),zc zb (og6 ros x.val 5)] 103 (0,0))/\W.heap[Bv]? =some (zd #[zc zb (og6 ros x.val 0),zc zb (ym4 n zs ros home frm x.val),zc zb (zi0 n zs ros home frm x.val),zc zb (z02 n zs ros home frm (x.val+1))] 205 (0,0))/\a'={tmps:=#[.agg #[zc zb n,za a zs.length cap,zc zb v0,zc zb home,zc zb v2,zc zb frm,zc zb to,za ar m cr],.pointer (some ⟨w.heap.size,0,none⟩),zc zb 0,.pointer (some ⟨bp,0,none⟩),.pointer (some ⟨bn,0,none⟩),.pointer (some ⟨Bo,0,none⟩),.pointer (some ⟨Bv,0,none⟩),.pointer (some ⟨w.heap.size,2,none⟩),.pointer (some ⟨w.heap.size,3,none⟩),zc zb home,.pointer (some ⟨w.heap.size,2,none⟩),.pointer (some ⟨w.heap.size,5,none⟩),zc zb frm,.agg #[zc zb n,za a zs.length cap,zc zb v0,zc zb home,zc zb v2,zc zb frm,zc zb to,za ar m cr],.func (.func 179) #[] #[.pointer (some ⟨W1.heap.size,0,none⟩)],.agg #[zc zb (og6 ros x.val 0),zc zb (og6 ros x.val 1),zc zb (og6 ros x.val 2),zc zb (og6 ros x.val 3),zc zb (og6 ros x.val 4),zc zb (og6 ros x.val 5)],.agg #[zc zb (og6 ros x.val 0),zc zb (ym4 n zs ros home frm x.val),zc zb (zi0 n zs ros home frm x.val),zc zb (z02 n zs ros home frm (x.val+1))],undef,undef,undef,undef,undef,undef,undef,undef,undef,undef,undef,undef],defers:=[]})
   (fun x a' _ X Y row hs hg hr=>by
     obtain⟨Bo,Bv,g1,g2,g3,g4,g5⟩:=hs;exact⟨Bo,Bv,g1,g2,zv9 (cs:=fun _:Unit=>_) () X Y row g3 hg hr,zv9 (cs:=fun _:Unit=>_) () X Y row g4 hg hr,g5⟩)
   ?assign ?body ?done ?stop
  case assign=>
   rintro l pre x W K ⟨hi,hsz⟩ hK
   gi_wp2
   refine hK _ _ (((KeepsOthers.alloc _ _).trans (KeepsOthers.alloc _ _)).from _) ((KpT.alloc _ _ hi.1.size).trans (KpT.alloc _ _ (y7 hi.1.size (by simp)))) ⟨(hi.below (zK _)).below (zK _),by simp;omega⟩ ⟨W.heap.size,W.heap.size+1,hsz,by omega,?_,?_,rfl⟩
   ·exact xb _ _ _
   ·exact y8 _ _ _
  case body=>
   rintro l pre x a' W hl hlr ⟨hi,hsz⟩ ⟨Bo,Bv,g1,g2,g3,g4,rfl⟩ hlt;have HI:=za4 hi;have HS1':=HS1.X;have hne:=hi.2.2.2.2;obtain⟨i0,i1,i2,i3,i4,i5⟩:=zh8 g3;have j3:W.cell? ⟨Bv,3,none⟩=some (zc zb (z02 n zs ros home frm (x.val+1))):=by rw[zR _ _ 3 _ _ _ g4];simp
   have cp:W.cell? ⟨bp,0,none⟩=some (zc zb (yq4 ros home pre)):=by rw[zR _ _ 0 _ _ _ hi.2.2.1];simp
   have cn:W.cell? ⟨bn,0,none⟩=some (zc zb (yq6 n zs ros home frm pre)):=by rw[zR _ _ 0 _ _ _ hi.2.2.2.1];simp
   have fp:=fun i=>yU _ _ i _ _ hi.2.2.1;have fn:=fun i=>yU _ _ i _ _ hi.2.2.2.1;obtain⟨xo,HXO⟩:=nmd (og6 ros x.val 1);obtain⟨xn,HXN⟩:=nmd (z02 n zs ros home frm (x.val+1));have HFIN:Hid (KeepsFrom (W1.alloc (zd #[zc zb n,za a zs.length cap,zc zb v0,zc zb home,zc zb v2,zc zb frm,zc zb to,za ar m cr] 119)).heap.size W (((W.setCell ⟨bp,0,none⟩ (zc zb (og6 ros x.val 1))).setCell ⟨bn,0,none⟩ (zc zb (z02 n zs ros home frm (x.val+1)))).drew)/\KpT w.heap.size W1.heap.size (zd #[zc zb n,za a zs.length cap,zc zb v0,zc zb home,zc zb v2,zc zb frm,zc zb to,za ar m cr] 119 (0,0)) W (((W.setCell ⟨bp,0,none⟩ (zc zb (og6 ros x.val 1))).setCell ⟨bn,0,none⟩ (zc zb (z02 n zs ros home frm (x.val+1)))).drew)/\(zl6 w (((W.setCell ⟨bp,0,none⟩ (zc zb (og6 ros x.val 1))).setCell ⟨bn,0,none⟩ (zc zb (z02 n zs ros home frm (x.val+1)))).drew) #[zc zb n,za a zs.length cap,zc zb v0,zc zb home,zc zb v2,zc zb frm,zc zb to,za ar m cr] bp bn (yq4 ros home (pre++[x])) (yq6 n zs ros home frm (pre++[x]))/\W1.heap.size<(((W.setCell ⟨bp,0,none⟩ (zc zb (og6 ros x.val 1))).setCell ⟨bn,0,none⟩ (zc zb (z02 n zs ros home frm (x.val+1)))).drew).heap.size)):=by
    refine⟨(((KeepsOthers.setCell _ _ _).trans (KeepsOthers.setCell _ _ _)).trans (KeepsOthers.drew _)).from _,?_,?_,?_⟩
    ·exact((KpT.set _ _ _ _ (by omega) (by omega)).trans (KpT.set _ _ _ _ (by omega) (by omega))).trans ⟨(yV _ _).drew,fun h=>h⟩
    ·rw[zK6,zL7]
     exact HI.set _ _
    ·simpa[World.setCell]using hsz
   clear hi g3 g4 i0 i2 i3 i4 i5 HI;rw[HXO.X]at i1 HFIN;rw[HXN.X]at j3 HFIN
   gi_wp2
   rename_i Q1 K1 hK1 Q2;rw[HXO.X,HXN.X];clear hK1 hKx;clear K1 Kx HXO HXN;generalize Value.agg #[zc zb n,za a zs.length cap,zc zb v0,zc zb home,zc zb v2,zc zb frm,zc zb to,za ar m cr]=A0;generalize Value.func (Fn.func 179) #[] #[Value.pointer (some ⟨W1.heap.size,0,none⟩)]=A14;generalize Value.agg #[zc zb (og6 ros x.val 0),zc zb xo,zc zb (og6 ros x.val 2),zc zb (og6 ros x.val 3),zc zb (og6 ros x.val 4),zc zb (og6 ros x.val 5)]=A15;generalize Value.agg #[zc zb (og6 ros x.val 0),zc zb (ym4 n zs ros home frm x.val),zc zb (zi0 n zs ros home frm x.val),zc zb xn]=A16;have hmx:Tryz.prog.follows .mixedOrders=true:=by kernel_rfl
   gi_region_o
   all_goals exact HFIN.X
  case done=>
   rintro D ys W hD hS ⟨hi,hsz⟩ hK;rw[y25 _ _ _ hS,y06 _ _ _ _ _ _ hS]at hi;have HI:=za4 hi;have HK:Hid _:=hK;have HD:Hid _:=y7 HX2.1.size hD;have hpl:=zT1 HBD.X HH.1 HH.2 m (zQ _);have hnw:=zN9 (home:=home) HM.X HBD.X HF.X m (zQ _);obtain⟨p,HPL⟩:=nmd (plc ros home m);obtain⟨f,HFR⟩:=nmd (z02 n zs ros home frm m);obtain⟨d,HDD⟩:=nmd (tmI n zs p home);have hdb:=zx8 HM.X p home;rw[HDD.X]at hdb;rw[HPL.X]at hpl HI;rw[HFR.X]at hnw HI;have HPB:Hid _:=hpl;have HV:Hid (homeV n zs ros m home frm=f+d):=by
    show _=_;unfold homeV;rw[HFR.X,HPL.X,HDD.X]
   have cp:W.cell? ⟨bp,0,none⟩=some (zc zb p):=by rw[zR _ _ 0 _ _ _ HI.2.2.1];simp
   have cn:W.cell? ⟨bn,0,none⟩=some (zc zb f):=by rw[zR _ _ 0 _ _ _ HI.2.2.2.1];simp
   obtain⟨t0,t1,t2,t3,t4,t5,t6,t7⟩:=zl2 HI.2.1;clear hi hK hD hS hsz hpl
   go_wp2_with fail
   have e0:=fun s:Kin W=>s.cell t0;have e1:=fun s:Kin W=>s.cell t1;have e2:=fun s:Kin W=>s.cell t2;have e3:=fun s:Kin W=>s.cell t3;have e4:=fun s:Kin W=>s.cell t4;have e5:=fun s:Kin W=>s.cell t5;have e6:=fun s:Kin W=>s.cell t6;have e7:=fun s:Kin W=>s.cell t7;have ep:=fun s:Kin W=>s.cell cp;have en:=fun s:Kin W=>s.cell cn;have hkin:=Kin.there W;refine zb0 (by kernel_rfl) (by kernel_rfl) ?_
   repeat(go_big_quiet_step ((first
    |(go_at_call 118;exact Kin.call (zD4 n p home v0 home v2 frm to _ _ _ _ _ zs _ d HDD.X HM.X HPB.X HH.X ((HA.below HI.1).below (Kin.below _)))))))
   refine xj ?_;rintro _ ⟨s,rfl⟩;have HB2:Hid _:=HI.1.trans (s.below.mono HI.1.size);have HK2:Hid _:=za0 s.below (qh.1 HK.X).1 HK.X;clear t0 t1 t2 t3 t4 t5 t6 t7 e0 e1 e2 e3 e4 e5 e6 e7 ep en hkin cp cn;generalize s.w=W2 at*;go_wp2;rw[HV.X];refine⟨by simp,.inl ⟨_,_,rfl,run_takeDeferred HK2.X,?_⟩⟩;exact⟨_,results_tmp rfl _ _ _,rfl,HB2.trans (belowK_b (w:=w) (zQ _) W2 D _ _ HD.X HK2.X rfl rfl)⟩
  case stop=>
   rintro D c pre W _ _ h _;exact h.elim
 go_region
 all_goals(first
  |(with_reducible show Exit.then _ _ Exit.normal _ (((w.alloc (zd #[zc zb n,za a zs.length cap,zc zb v0,zc zb home,zc zb v2,zc zb frm,zc zb to,za ar m cr] 119)).alloc (zd #[zc zb home] 2)).alloc (zd #[zc zb frm] 2)).drew
    exact key (w.heap.size+1) (w.heap.size+1+1) _ ((zl6.new1 w _ home frm).below (yV _ _).drew))
  |(with_reducible show Exit.then _ _ Exit.normal _ (((w.alloc (zd #[zc zb n,za a zs.length cap,zc zb v0,zc zb home,zc zb v2,zc zb frm,zc zb to,za ar m cr] 119)).alloc (zd #[zc zb frm] 2)).alloc (zd #[zc zb home] 2)).drew
    exact key (w.heap.size+1+1) (w.heap.size+1) _ ((zl6.new2 w _ home frm).below (yV _ _).drew)))
attribute [local go_sem] Oper.semAt_some
def zj7(w W:zg)(ts:Array Value)(c:Int):Prop:=
 Below w.heap.size w W/\W.heap[w.heap.size]? =some (.cells ts 119 (0,0))/\W.heap[w.heap.size+1]? =some (zd #[zc zb c] 2 (0,0))
theorem zj7.new(w:zg)(ts:Array Value)(c:Int):zj7 w ((w.alloc (.cells ts 119)).alloc (zd #[zc zb c] 2)) ts c:=
 ⟨(zK _).alloc (by simp) _,xb _ _ _,y8 _ _ _⟩
theorem zj7.below{w W W':zg}{ts:Array Value}{c:Int}(h:zj7 w W ts c)(hb:Below W.heap.size W W'):zj7 w W' ts c:=
 ⟨h.1.trans (hb.mono h.1.size),za0 hb (za2 h.2.1) h.2.1,za0 hb (za2 h.2.2) h.2.2⟩
theorem zj7.set{w W:zg}{ts:Array Value}{c:Int}(h:zj7 w W ts c)(c':Int):zj7 w (W.setCell ⟨w.heap.size+1,0,none⟩ (zc zb c')) ts c':=
 ⟨h.1.setCell (by simp) _,za6 h.2.1 (by omega),zP _ _ _ _ _ _ h.2.2⟩
theorem zj7.own{β:Type}(w:zg)(ts:Array Value)(c:Int)(B:Nat)(hB:w.heap.size<=B):OwnFrom B (fun(_:β) W=>zj7 w W ts c):=fun _ W W' row hs hg hr=>
 ⟨ownFrom_below (zQ _) hB () W W' row hs.1 hg hr,zv9 (cs:=fun _:Unit=>ts) () W W' row hs.2.1 hg hr,zv9 (cs:=fun _:Unit=>#[zc zb c]) () W W' row hs.2.2 hg hr⟩
theorem yC7(n v0 home v2 frm to:Int)(a ar:Option Addr)(cap m cr:Nat)(zs ros:List Int)(w:zg)(d:Int)(hd:homeV n zs ros m home frm=d)(hm:zs6 n zs=true)(hA:za3 w a zs)(hR:za3 w ar ros)(hl:ros.length=m*6)(hbd:z64 n ros m)(hh:0<=home/\home<n)(hf:0<=frm/\frm<=1000000)(hm12:m<=12):
 Calls ze 151 #[.agg #[zc zb n,za a zs.length cap,zc zb v0,zc zb home,zc zb v2,zc zb frm,zc zb to,za ar m cr]] w fun e w'=>e=.returned (zc zb d)/\Below w.heap.size w w':=hd▸y52 n v0 home v2 frm to a ar cap m cr zs ros w hm hA hR hl hbd hh hf hm12
theorem yJ0{m:Nat}{ys:List (Fin m)}{k:Nat}(h:ys.map Fin.val=zo k){j:Nat}(hj:j<k):∃x,x∈ys/\x.val=j:=by
 have:j∈ys.map Fin.val:=by rw[h];simpa using hj
 simpa using this
theorem zQ3(n v0 home v2 frm to:Int)(a ar:Option Addr)(cap m cr:Nat)(zs ros:List Int)(w:zg)(hm:zs6 n zs=true)(hA:za3 w a zs)(hR:za3 w ar ros)(hl:ros.length=m*6)(hbd:z64 n ros m)(hh:0<=home/\home<n)(hf:0<=frm/\frm<=1000000)(hm12:m<=12):
 Calls ze 117 #[.agg #[zc zb n,za a zs.length cap,zc zb v0,zc zb home,zc zb v2,zc zb frm,zc zb to,za ar m cr]] w fun e w'=>e=.returned (zc zb (zx0 n zs ros m home frm to))/\Below w.heap.size w w':=by
 have HM:Hid _:=hm;have HA:=za4 hA;have HR:=za4 hR;have HL:Hid _:=hl;have HBD:=za4 hbd;have HH:Hid _:=hh;have HF:Hid _:=hf;have HX:Hid (zj7 w ((w.alloc (zd #[zc zb n,za a zs.length cap,zc zb v0,zc zb home,zc zb v2,zc zb frm,zc zb to,za ar m cr] 119)).alloc (zd #[zc zb 0] 2)) #[zc zb n,za a zs.length cap,zc zb v0,zc zb home,zc zb v2,zc zb frm,zc zb to,za ar m cr] 0):=zj7.new w _ 0;clear hm hA hR hl hbd hh hf;obtain⟨r,HV⟩:=nmd (zx0 n zs ros m home frm to);rw[HV.X];refine(callsIn_wide (n:=3)).1 ?_;refine callsIn_of_wp_marks Tryz.func117 rfl trivial ?_ rfl;simp only[Tryz.ntmps117,List.size_toArray,yg,List.length_nil,Nat.reduceAdd,Nat.reduceSub,Array.replicate_succ,Array.replicate_zero,List.push_toArray,List.append_toArray,yo,yR];refine wpIn_wide.2 ?_;obtain⟨t0,t1,t2,t3,t4,t5,t6,t7⟩:=zl2 HX.2.1
 go_wp2_with fail
 clear t0 t1 t2 t3 t4 t5 t6 t7;have HZ:Hid _:=za2 HX.2.2;generalize((w.alloc (zd #[zc zb n,za a zs.length cap,zc zb v0,zc zb home,zc zb v2,zc zb frm,zc zb to,za ar m cr] 119)).alloc (zd #[zc zb 0] 2))=W1 at*;refine(zL9 n v0 home v2 frm to a ar cap m cr zs W1).mono ?_;rintro e w2 ⟨rfl,rfl⟩;have HX2:Hid (zj7 w (W1.alloc (zd #[zc zb n,za a zs.length cap,zc zb v0,zc zb home,zc zb v2,zc zb frm,zc zb to,za ar m cr] 119)) #[zc zb n,za a zs.length cap,zc zb v0,zc zb home,zc zb v2,zc zb frm,zc zb to,za ar m cr] 0):=HX.below (zK _);have HT2:Hid ((W1.alloc (zd #[zc zb n,za a zs.length cap,zc zb v0,zc zb home,zc zb v2,zc zb frm,zc zb to,za ar m cr] 119)).heap[W1.heap.size]? =some (zd #[zc zb n,za a zs.length cap,zc zb v0,zc zb home,zc zb v2,zc zb frm,zc zb to,za ar m cr] 119 (0,0))):=zN _ _
 go_wp2_with fail
 refine(wpIn_wide (n:=3)).1 ?_;refine wpIn_rangeFunc_ownH rfl (by omega) (gf:=179) (lb:=#[.pointer (some ⟨W1.heap.size,0,none⟩)]) rfl trivial (enters_of Tryz.func179 (by kernel_rfl) rfl)
  (zA2 2 (by omega) W1.heap.size w.heap.size n v0 home v2 frm to a ar cap m cr zs ros w _ (zQ _) HX2.1 HT2.X HM.X HA.X HR.X HL.X HBD.X HH.X HF.X hm12)
  KpT.trans (KpT.putObj rfl HX2.1.size) (yV _ _) (fun _=>rfl)
  (fun pre W=>(zj7 w W #[zc zb n,za a zs.length cap,zc zb v0,zc zb home,zc zb v2,zc zb frm,zc zb to,za ar m cr] 0/\W1.heap.size<W.heap.size)/\∀x∈pre,zi0 n zs ros home frm x.val<=og6 ros x.val 4)
  (fun c pre W=>(zj7 w W #[zc zb n,za a zs.length cap,zc zb v0,zc zb home,zc zb v2,zc zb frm,zc zb to,za ar m cr] 5/\c=.ret)/\∃x∈pre,og6 ros x.val 4<zi0 n zs ros home frm x.val)
  (OwnFrom.and (OwnFrom.and (zj7.own w _ 0 _ HX2.1.size) (fun _ _ _ _ hs hg _=>xh hs hg.size)) (ownFrom_pure _ _))
  (fun c=>OwnFrom.and (OwnFrom.and (zj7.own w _ 5 _ HX2.1.size) (ownFrom_pure _ _)) (ownFrom_pure _ _))
  ⟨⟨HX2.X,by simp⟩,fun x hx=>by cases hx⟩
  (fun x a' W=>∃Bo Bv,W1.heap.size<Bo/\W1.heap.size<Bv/\W.heap[Bo]? =some (zd #[zc zb (og6 ros x.val 0),zc zb (og6 ros x.val 1),zc zb (og6 ros x.val 2),zc zb (og6 ros x.val 3),zc zb (og6 ros x.val 4),zc zb (og6 ros x.val 5)] 103 (0,0))/\W.heap[Bv]? =some (zd #[zc zb (og6 ros x.val 0),zc zb (ym4 n zs ros home frm x.val),zc zb (zi0 n zs ros home frm x.val),zc zb (z02 n zs ros home frm (x.val+1))] 205 (0,0))/\a'={tmps:=#[.agg #[zc zb n,za a zs.length cap,zc zb v0,zc zb home,zc zb v2,zc zb frm,zc zb to,za ar m cr],.pointer (some ⟨w.heap.size,0,none⟩),.pointer (some ⟨w.heap.size+1,0,none⟩),.pointer (some ⟨Bo,0,none⟩),.pointer (some ⟨Bv,0,none⟩),.agg #[zc zb n,za a zs.length cap,zc zb v0,zc zb home,zc zb v2,zc zb frm,zc zb to,za ar m cr],.func (.func 179) #[] #[.pointer (some ⟨W1.heap.size,0,none⟩)],.agg #[zc zb (og6 ros x.val 0),zc zb (og6 ros x.val 1),zc zb (og6 ros x.val 2),zc zb (og6 ros x.val 3),zc zb (og6 ros x.val 4),zc zb (og6 ros x.val 5)],.agg #[zc zb (og6 ros x.val 0),zc zb (ym4 n zs ros home frm x.val),zc zb (zi0 n zs ros home frm x.val),zc zb (z02 n zs ros home frm (x.val+1))],undef,undef,undef,undef,undef,undef,undef,undef,undef,undef,undef],defers:=[]})
  (fun x a' _ X Y row hs hg hr=>by
    obtain⟨Bo,Bv,g1,g2,g3,g4,g5⟩:=hs;exact⟨Bo,Bv,g1,g2,zv9 (cs:=fun _:Unit=>_) () X Y row g3 hg hr,zv9 (cs:=fun _:Unit=>_) () X Y row g4 hg hr,g5⟩)
  ?assign ?body ?done ?stop
 case assign=>
  rintro l pre x W K ⟨⟨hi,hsz⟩,hp⟩ hK
  gi_wp2
  refine hK _ _ (((KeepsOthers.alloc _ _).trans (KeepsOthers.alloc _ _)).from _) ((KpT.alloc _ _ hi.1.size).trans (KpT.alloc _ _ (y7 hi.1.size (by simp)))) ⟨⟨(hi.below (zK _)).below (zK _),by simp;omega⟩,hp⟩ ⟨W.heap.size,W.heap.size+1,hsz,by omega,?_,?_,rfl⟩
  ·exact xb _ _ _
  ·exact y8 _ _ _
 case body=>
  rintro l pre x a' W hl hlr ⟨⟨hi,hsz⟩,hp⟩ ⟨Bo,Bv,g1,g2,g3,g4,rfl⟩ hlt;have HI:=za4 hi;have HP:Hid _:=hp;obtain⟨i0,i1,i2,i3,i4,i5⟩:=zh8 g3;have j2:W.cell? ⟨Bv,2,none⟩=some (zc zb (zi0 n zs ros home frm x.val)):=by rw[zR _ _ 2 _ _ _ g4];simp
  have cc:W.cell? ⟨w.heap.size+1,0,none⟩=some (zc zb 0):=by rw[zR _ _ 0 _ _ _ hi.2.2];simp
  have fc:=fun i=>yU _ _ i _ _ hi.2.2;clear hi hp g3 g4 i0 i1 i2 i3 i5;by_cases hlate:og6 ros x.val 4<zi0 n zs ros home frm x.val
  ·have HLT:Hid _:=hlate
   gi_wp2
   exact⟨(KeepsOthers.setCell _ _ _).from _,⟨HI.set 5,rfl⟩,x,by simp,HLT.X⟩
  ·have hle:zi0 n zs ros home frm x.val<=og6 ros x.val 4:=by omega
   have HLE:Hid _:=hle;clear hlate
   gi_wp2
   refine⟨KeepsFrom.refl _ _,⟨yV _ _,fun h=>h⟩,⟨HI.X,hsz⟩,fun y hy=> ?_⟩;rcases yi.1 hy with h|h
   ·exact HP.X y h
   ·obtain rfl:y=x:=by simpa using h
    exact HLE.X
 case done=>
  rintro D ys W hD hS ⟨⟨hi,hsz⟩,hp⟩ hK;have HI:=za4 hi;have HK:Hid _:=hK;have HD:Hid _:=xh (Nat.lt_trans HZ.X (by simp)) hD;have HTM:Hid (zr9 n zs ros home frm m):=fun j hj=>by
   obtain⟨x,hx,rfl⟩:=yJ0 hS hj;exact hp x hx
  obtain⟨t0,t1,t2,t3,t4,t5,t6,t7⟩:=zl2 HI.2.1;clear hi hK hD hS hsz hp;obtain⟨d,HDD⟩:=nmd (homeV n zs ros m home frm)
  go_wp2_with fail
  have e0:=fun s:Kin W=>s.cell t0;have e1:=fun s:Kin W=>s.cell t1;have e2:=fun s:Kin W=>s.cell t2;have e3:=fun s:Kin W=>s.cell t3;have e4:=fun s:Kin W=>s.cell t4;have e5:=fun s:Kin W=>s.cell t5;have e6:=fun s:Kin W=>s.cell t6;have e7:=fun s:Kin W=>s.cell t7;have hkin:=Kin.there W;refine zb0 (by kernel_rfl) (by kernel_rfl) ?_
  repeat(go_big_quiet_step ((first
   |(go_at_call 151;exact Kin.call (yC7 n v0 home v2 frm to a ar cap m cr zs ros _ d HDD.X HM.X ((HA.below HI.1).below (Kin.below _)) ((HR.below HI.1).below (Kin.below _)) HL.X HBD.X HH.X HF.X hm12)))))
  refine xj ?_;rintro _ ⟨s,rfl⟩;have HI2:=za4 (HI.below s.below);have HK2:Hid _:=za0 s.below (qh.1 HK.X).1 HK.X;clear t0 t1 t2 t3 t4 t5 t6 t7 e0 e1 e2 e3 e4 e5 e6 e7 hkin;generalize s.w=W2 at*;have cc:W2.cell? ⟨w.heap.size+1,0,none⟩=some (zc zb 0):=by rw[zR _ _ 0 _ _ _ HI2.2.2];simp
  have fc:=fun i=>yU _ _ i _ _ HI2.2.2;by_cases hto:to<d
  ·have HN:Hid _:=HV.symm.trans (zH6 HTM.X (by rw[HDD.X];exact hto))
   go_wp2;rw[HN.X];have HI3:=HI2.set 6;have HK3:(W2.setCell ⟨w.heap.size+1,0,none⟩ (zc zb 6)).heap[D]? =some (.deferred (some [])):=za6 HK2.X (Nat.ne_of_gt HD.X);refine⟨by simp,.inl ⟨_,_,rfl,run_takeDeferred HK3,?_⟩⟩;have hc:=cell_kept (show(W2.setCell ⟨w.heap.size+1,0,none⟩ (zc zb 6)).cell? ⟨w.heap.size+1,0,none⟩=some (zc zb 6) by rw[zR _ _ 0 _ _ _ HI3.2.2];simp) (grownBy_putObj' _ D (.deferred none)) (fun r e=>by cases e;exact⟨_,HK3,rfl⟩);exact⟨_,by simp[results,Tryz.results117,go_sem,hc],rfl,HI3.1.trans (belowK_b (w:=w) (zQ _) _ D _ _ (by have:=HD.X;omega) HK3 rfl rfl)⟩
  ·have HN:Hid _:=HV.symm.trans (zX0 HTM.X (by rw[HDD.X];exact hto))
   go_wp2;rw[HN.X];have HI3:=HI2.set 0;have HK3:(W2.setCell ⟨w.heap.size+1,0,none⟩ (zc zb 0)).heap[D]? =some (.deferred (some [])):=za6 HK2.X (Nat.ne_of_gt HD.X);refine⟨by simp,.inl ⟨_,_,rfl,run_takeDeferred HK3,?_⟩⟩;have hc:=cell_kept (show(W2.setCell ⟨w.heap.size+1,0,none⟩ (zc zb 0)).cell? ⟨w.heap.size+1,0,none⟩=some (zc zb 0) by rw[zR _ _ 0 _ _ _ HI3.2.2];simp) (grownBy_putObj' _ D (.deferred none)) (fun r e=>by cases e;exact⟨_,HK3,rfl⟩);exact⟨_,by simp[results,Tryz.results117,go_sem,hc],rfl,HI3.1.trans (belowK_b (w:=w) (zQ _) _ D _ _ (by have:=HD.X;omega) HK3 rfl rfl)⟩
 case stop=>
  rintro D c pre W hD hS ⟨⟨hi,rfl⟩,x,hx,hlate⟩ hK;have HN:Hid _:=HV.symm.trans (zI4 x.isLt hlate);have HD:Hid _:=xh (Nat.lt_trans HZ.X (by simp)) hD;refine wpIn_wide.2 ?_;go_wp2;rw[HN.X];refine⟨by simp,.inl ⟨_,_,rfl,run_takeDeferred hK,?_⟩⟩;have hc:=cell_kept (show W.cell? ⟨w.heap.size+1,0,none⟩=some (zc zb 5) by rw[zR _ _ 0 _ _ _ hi.2.2];simp) (grownBy_putObj' _ D (.deferred none)) (fun r e=>by cases e;exact⟨_,hK,rfl⟩);exact⟨_,by simp[results,Tryz.results117,go_sem,hc],rfl,hi.1.trans (belowK_b (w:=w) (zQ _) _ D _ _ (by have:=HD.X;omega) hK rfl rfl)⟩
end Go.Proofs.YtkchnomkiboihaaGreat
namespace Go.Proofs.YtkchnomkiboihaaGreat
open Value renaming slice→za,int→zc
open IntKind renaming i64→zb
open Obj renaming cells→zd
open Proofs.Tryz renaming prog→ze
open Go.RowKit
open Q
theorem z73(n fine veh:Int)(a ao av bi:Option Addr)(cap ko co kv cv c2:Nat)(zs os vs ids:List Int)(w:World)(hA:za3 w a zs)(hO:za3 w ao os)(hV:za3 w av vs)(hI:za3 w bi ids)(hlo:os.length=ko*6)(hlv:vs.length=kv*5)(hko:ko<=9223372036854775807)(hkv:kv<=9223372036854775807)(hli:ids.length<=9223372036854775807)(hc2:ids.length<=c2)(hcB:zc8 n zs os vs ko kv fine=true):
 Calls ze 78 #[.agg #[zc zb n,za a zs.length cap,za ao ko co,za av kv cv,zc zb fine],.agg #[zc zb veh,za bi ids.length c2]] w fun e w'=>Below w.heap.size w w'/\((codeV true n zs os vs ko kv veh ids≠0/\e=.returned (.tuple #[.agg #[zc zb 0,za none 0 0,zc zb 0,zc zb 0,zc zb 0,zc zb 0,zc zb 0,za none 0 0],zc zb (codeV true n zs os vs ko kv veh ids)]))∨(codeV true n zs os vs ko kv veh ids=0/\∃g,w.heap.size<=g/\e=.returned (.tuple #[.agg #[zc zb n,za a zs.length cap,zc zb (zc2 vs kv veh 0),zc zb (zc2 vs kv veh 1),zc zb (zc2 vs kv veh 2),zc zb (zc2 vs kv veh 3),zc zb (zc2 vs kv veh 4),za (some ⟨g,0,none⟩) ids.length ids.length],zc zb 0])/\za3 w' (some ⟨g,0,none⟩) (zd1 os ko ids))):=by
 have HA:=za4 hA;have HO:=za4 hO;have HV:=za4 hV;have HI:=za4 hI;have HLO:Hid _:=hlo;have HLV:Hid _:=hlv;clear hA hO hV hI hlo hlv;have HC:Hid _:=hcB;clear hcB;have HC0:Hid (CRT w (((w.alloc (zd #[zc zb n,za a zs.length cap,za ao ko co,za av kv cv,zc zb fine] 30)).alloc (zd #[zc zb veh,za bi ids.length c2] 80)).alloc (zd #[zc zb 0,za none 0 0,zc zb 0,zc zb 0,zc zb 0,zc zb 0,zc zb 0,za none 0 0] 119)) _ _ _):=CRT.new w _ _ _;obtain⟨r,HR⟩:=nmd (codeV true n zs os vs ko kv veh ids);rw[HR.X];go_enter Tryz.func78,Tryz.ntmps78;obtain⟨c0,c1,c2',c3,c4⟩:=za7 HC0.X.1.2.1;obtain⟨d0,d1⟩:=za1 HC0.X.1.2.2
 go_wp2_with fail
 clear c0 c1 c2' c3 c4 d0 d1;refine(zI8 n fine veh a ao av bi cap ko co kv cv c2 zs os vs ids _ (HA.X.below HC0.X.1.1) (HO.X.below HC0.X.1.1) (HV.X.below HC0.X.1.1) (HI.X.below HC0.X.1.1) HLO.X HLV.X hko hkv hli hc2 HC.X).mono ?_;rintro e w2 ⟨hb,⟨hf,rfl⟩|⟨hf,g,hgg,rfl,hros⟩⟩
 ·have C2:Hid (CRT w (w2.alloc (zd #[zc zb 0,za none 0 0,zc zb 0,zc zb 0,zc zb 0,zc zb 0,zc zb 0,za none 0 0] 119)) _ _ _):=(HC0.X.below hb).alloc _
  have HRV:Hid _:=(z82 hf).symm.trans HR.X;rw[HRV.X]at hf⊢;have hfb:(r==0)=false:=by simp[hf]
  have hfn:(r !=0)=true:=by simp[hf]
  have HF:=za4 hf;clear hb hf HC0;obtain⟨t0,t1,t2,t3,t4,t5,t6,t7⟩:=zl2 C2.X.2;have tf:=fun i=>yU _ _ i _ _ C2.X.2;go_wp2;refine yX (v:=.tuple #[.agg #[zc zb 0,za none 0 0,zc zb 0,zc zb 0,zc zb 0,zc zb 0,zc zb 0,za none 0 0],zc zb r]) (by simp[results,Tryz.results78,go_sem,t0,t1,t2,t3,t4,t5,t6,t7]) rfl ⟨?_,.inl ⟨HF.X,rfl⟩⟩
  repeat(first|with_reducible exact C2.X.b|refine xd ?_ (by simp<;>omega) _)
 ·have HFV:Hid _:=hf
  obtain⟨hmat,hords,hvehs,hn1,_⟩:=zb3 HC.X;obtain⟨hvb1,hvb2,hvb3,hvb4⟩:=zs3 hvehs hn1 veh;have HMAT:Hid _:=hmat;have HBD:Hid (z64 n (zd1 os ko ids) ids.length):=z56 hords hn1 ids;have h12:=(zg3 (zf5 hf).2.2).1;have HRV:=(zv3 (n:=n) (zs:=zs) hf).symm.trans HR.X;obtain⟨v0,G0⟩:=nmd (zc2 vs kv veh 0);obtain⟨v1,G1⟩:=nmd (zc2 vs kv veh 1);obtain⟨v2,G2⟩:=nmd (zc2 vs kv veh 2);obtain⟨v3,G3⟩:=nmd (zc2 vs kv veh 3);obtain⟨v4,G4⟩:=nmd (zc2 vs kv veh 4);rw[G1.X,G3.X,G4.X]at HRV;rw[G1.X]at hvb1;rw[G3.X]at hvb3;rw[G0.X,G1.X,G2.X,G3.X,G4.X];have HRV':Hid _:=HRV;have HX1:Hid _:=hvb1;have HX3:Hid _:=hvb3;have C2:Hid (CRT w (w2.alloc (zd #[zc zb n,za a zs.length cap,zc zb v0,zc zb v1,zc zb v2,zc zb v3,zc zb v4,za (some ⟨g,0,none⟩) ids.length ids.length] 119)) _ _ _):=(HC0.X.below hb).alloc _;have HRT:Hid ((w2.alloc (zd #[zc zb n,za a zs.length cap,zc zb v0,zc zb v1,zc zb v2,zc zb v3,zc zb v4,za (some ⟨g,0,none⟩) ids.length ids.length] 119)).heap[w2.heap.size]? =_):=zN _ _;have HROS:Hid (za3 (w2.alloc (zd #[zc zb n,za a zs.length cap,zc zb v0,zc zb v1,zc zb v2,zc zb v3,zc zb v4,za (some ⟨g,0,none⟩) ids.length ids.length] 119)) (some ⟨g,0,none⟩) (zd1 os ko ids)):=za3.below hros (zK _);have HGT:Hid _:=za2 (HC0.X.below hb).2;have HGG:Hid _:=xh (za2 HC0.X.2) hgg;clear hb hf hros HC0 hgg hmat hords hvehs hn1 hvb1 hvb2 hvb3 hvb4 HRV;obtain⟨t0,t1,t2,t3,t4,t5,t6,t7⟩:=zl2 HRT.X
  go_wp2_with fail
  clear t0 t1 t2 t3 t4 t5 t6 t7;generalize w2.alloc (zd #[zc zb n,za a zs.length cap,zc zb v0,zc zb v1,zc zb v2,zc zb v3,zc zb v4,za (some ⟨g,0,none⟩) ids.length ids.length] 119)=W2 at*;generalize w2.heap.size=gt at*;refine(zQ3 n v0 v1 v2 v3 v4 a _ cap ids.length _ zs (zd1 os ko ids) W2 HMAT.X (HA.X.below C2.X.1.1) HROS.X (zj4 os ko ids) HBD.X HX1.X HX3.X h12).mono ?_;rintro e w3 ⟨rfl,hb⟩;rw[HRV'.X];have C3:=za4 (C2.X.below hb);have HRT3:=za4 (za0 hb (za2 HRT.X) HRT.X);have HROS3:=za4 (HROS.X.below hb);clear hb C2 HRT HROS;obtain⟨t0,t1,t2,t3,t4,t5,t6,t7⟩:=zl2 C3.X.2;have tf:=fun i=>yU _ _ i _ _ C3.X.2;by_cases hr:r=0
  ·have hfn:(r !=0)=false:=by simp[hr]
   have HF:Hid _:=hr;clear hr;obtain⟨s0,s1,s2,s3,s4,s5,s6,s7⟩:=zl2 HRT3.X;go_wp2;refine yX (v:=.tuple #[.agg #[zc zb n,za a zs.length cap,zc zb v0,zc zb v1,zc zb v2,zc zb v3,zc zb v4,za (some ⟨g,0,none⟩) ids.length ids.length],zc zb 0]) (by simp[results,Tryz.results78,go_sem,t0,t1,t2,t3,t4,t5,t6,t7]) rfl ⟨?_,.inr ⟨HF.X,g,by have:=HGG.X;omega,?_,?_⟩⟩
   ·repeat(first|with_reducible exact C3.X.b|refine xd ?_ (by simp<;>omega) _)
   ·rw[G0.X,G1.X,G2.X,G3.X,G4.X]
   ·repeat(first|with_reducible exact HROS3.X|with_reducible refine yk0 ?_ (by have:=HGG.X;omega))
  ·have hfn:(r !=0)=true:=by simp[hr]
   have HF:=za4 hr;clear hr;go_wp2;refine yX (v:=.tuple #[.agg #[zc zb 0,za none 0 0,zc zb 0,zc zb 0,zc zb 0,zc zb 0,zc zb 0,za none 0 0],zc zb r]) (by simp[results,Tryz.results78,go_sem,t0,t1,t2,t3,t4,t5,t6,t7]) rfl ⟨?_,.inl ⟨HF.X,rfl⟩⟩
   repeat(first|with_reducible exact C3.X.b|refine xd ?_ (by simp<;>omega) _)
theorem z98(n v0 home v2 frm to:Int)(a ar:Option Addr)(cap m cr:Nat)(zs ros:List Int)(w:World)(hm:zs6 n zs=true)(hA:za3 w a zs)(hR:za3 w ar ros)(hl:ros.length=m*6)(hbd:z64 n ros m)(hh:0<=home/\home<n)(hm12:m<=12):
 Calls ze 79 #[.agg #[zc zb n,za a zs.length cap,zc zb v0,zc zb home,zc zb v2,zc zb frm,zc zb to,za ar m cr]] w fun e w'=>e=.returned (zc zb (zr1 n zs ros m home))/\Below w.heap.size w w':=by
 have HM:Hid _:=hm;have HA:=za4 hA;have HR:=za4 hR;have HL:Hid _:=hl;have HBD:=za4 hbd;have HH:Hid _:=hh;clear hm hA hR hl hbd hh;obtain⟨r,HV⟩:=nmd (zr1 n zs ros m home);rw[HV.X];have HB0:Hid (Below w.heap.size w (w.alloc (zd #[zc zb n,za a zs.length cap,zc zb v0,zc zb home,zc zb v2,zc zb frm,zc zb to,za ar m cr] 119))):=zK _;have HP0:Hid ((w.alloc (zd #[zc zb n,za a zs.length cap,zc zb v0,zc zb home,zc zb v2,zc zb frm,zc zb to,za ar m cr] 119)).heap[w.heap.size]? =_):=zN _ _;go_enter Tryz.func79,Tryz.ntmps79;obtain⟨t0,t1,t2,t3,t4,t5,t6,t7⟩:=zl2 HP0.X
 go_wp2_with fail
 clear t0 t1 t2 t3 t4 t5 t6 t7;generalize w.alloc (zd #[zc zb n,za a zs.length cap,zc zb v0,zc zb home,zc zb v2,zc zb frm,zc zb to,za ar m cr] 119)=W1 at*;go_loopw[3,4,13] (fun pl sm t wr=>∃k:Nat,k<=m/\t=zc zb k/\pl=zc zb (plc ros home k)/\sm=zc zb (zr6 n zs ros home k)/\Below w.heap.size w wr/\wr.heap[w.heap.size]? =some (zd #[zc zb n,za a zs.length cap,zc zb v0,zc zb home,zc zb v2,zc zb frm,zc zb to,za ar m cr] 119 (0,0))) (fun _ _ t _=>m - (intOf t).toNat)
 case atStart=>exact⟨0,yZ _,rfl,rfl,rfl,HB0.X,HP0.X⟩
 case round=>
  clear HB0 HP0;obtain⟨k,hk,rfl,rfl,rfl,hb,hp⟩:=hrel;have hpl:=zT1 HBD.X HH.1 HH.2 k hk;have hcb:=z40 (ros:=ros) (home:=home) HM.X k;have HB:Hid _:=hb;have HP:=za4 hp;obtain⟨t0,t1,t2,t3,t4,t5,t6,t7⟩:=zl2 hp;obtain⟨p,HPL⟩:=nmd (plc ros home k);obtain⟨f,HFR⟩:=nmd (zr6 n zs ros home k);rw[HPL.X]at hpl;rw[HFR.X]at hcb;rw[HPL.X,HFR.X];have HPB:Hid _:=hpl;clear hb hp hpl;by_cases hlt:k<m
  ·obtain⟨b,off,rfl,hcs⟩:=za3.some (za3.below HR.X HB.X) (j:=k*6) (by rw[HL.X];omega)
   obtain⟨r0,r1,r2,r3,r4,r5⟩:=zq2 hcs HL.X k hlt;clear hcs;have HO1:Hid _:=(HBD.X k hlt).1;obtain⟨o0,H0⟩:=nmd (og6 ros k 0);obtain⟨o1,H1⟩:=nmd (og6 ros k 1);obtain⟨o2,H2⟩:=nmd (og6 ros k 2);obtain⟨o3,H3⟩:=nmd (og6 ros k 3);obtain⟨o4,H4⟩:=nmd (og6 ros k 4);obtain⟨o5,H5⟩:=nmd (og6 ros k 5);rw[H1.X]at HO1;rw[H0.X]at r0;rw[H1.X]at r1;rw[H2.X]at r2;rw[H3.X]at r3;rw[H4.X]at r4;rw[H5.X]at r5;obtain⟨d,HD⟩:=nmd (tmI n zs p o1);have hdb:=zx8 HM.X p o1;rw[HD.X]at hdb;have HNX:Hid (zr6 n zs ros home (k+1)=f+d):=by
    show _=_;simp only[zr6];rw[HFR.X,HPL.X,H1.X,HD.X]
   have HBA:Hid (Below w.heap.size w (wr.alloc (zd #[zc zb o0,zc zb o1,zc zb o2,zc zb o3,zc zb o4,zc zb o5] 103))):=HB.alloc HB.size _;have HPA:Hid ((wr.alloc (zd #[zc zb o0,zc zb o1,zc zb o2,zc zb o3,zc zb o4,zc zb o5] 103)).heap[w.heap.size]? =_):=(yY _ _ (za2 HP.X)).trans HP.X;have HRO:Hid ((wr.alloc (zd #[zc zb o0,zc zb o1,zc zb o2,zc zb o3,zc zb o4,zc zb o5] 103)).heap[wr.heap.size]? =_):=zN _ _;obtain⟨i0,i1,i2,i3,i4,i5⟩:=zh8 HRO.X;obtain⟨s0,s1,s2,s3,s4,s5,s6,s7⟩:=zl2 HPA.X
   go_wp2_with fail
   clear r0 r1 r2 r3 r4 r5 t0 t1 t2 t3 t4 t5 t6 t7 i0 i1 i2 i3 i4 i5 s0 s1 s2 s3 s4 s5 s6 s7;generalize wr.alloc (zd #[zc zb o0,zc zb o1,zc zb o2,zc zb o3,zc zb o4,zc zb o5] 103)=W2 at*;generalize wr.heap.size=g at*;refine(zD4 n p o1 v0 home v2 frm to _ _ _ _ _ zs _ d HD.X HM.X HPB.X HO1.X (HA.below HBA.X)).mono ?_;rintro e W3 ⟨rfl,hb3⟩;have HB3:Hid _:=HBA.trans (hb3.mono HBA.size);have HP3:=za4 (za0 hb3 (za2 HPA.X) HPA.X);have HR3:=za4 (za0 hb3 (za2 HRO.X) HRO.X);clear hb3 HBA HPA HRO;obtain⟨i0,i1,i2,i3,i4,i5⟩:=zh8 HR3.X;go_wp2;go_roundw
   case rel=>exact⟨k+1,by omega,by go_num,by rw[<-H1.X];rfl,by rw[HNX.X],HB3.X,HP3.X⟩
   case measure=>simp[intOf];omega
  ·have hkl:k=m:=by omega
   have HE:Hid (r=f+tmI n zs p home):=by
    have:=HV.X;unfold zr1 at this;rw[<-hkl,HFR.X,HPL.X]at this;exact this.symm
   clear hkl;obtain⟨d,HD⟩:=nmd (tmI n zs p home);have hdb:=zx8 HM.X p home;rw[HD.X]at hdb HE
   go_wp2_with fail
   refine(zD4 n p home v0 home v2 frm to _ _ _ _ _ zs _ d HD.X HM.X HPB.X HH.X (HA.below HB.X)).mono ?_;rintro e W3 ⟨rfl,hb3⟩;have HB3:Hid _:=HB.trans (hb3.mono HB.size);clear hb3;go_wp2;go_ret;exact⟨zf8 HE.symm,HB3.X⟩
theorem zp5(n fine veh:Int)(a ao av bi:Option Addr)(cap ko co kv cv c2:Nat)(zs os vs ids:List Int)(w:World)(hA:za3 w a zs)(hO:za3 w ao os)(hV:za3 w av vs)(hI:za3 w bi ids)(hlo:os.length=ko*6)(hlv:vs.length=kv*5)(hko:ko<=9223372036854775807)(hkv:kv<=9223372036854775807)(hli:ids.length<=9223372036854775807)(hc2:ids.length<=c2)(hcB:zc8 n zs os vs ko kv fine=true)(ok:Bool)(hok:decide (codeV true n zs os vs ko kv veh ids=0)=ok)(r:Int)(hr:rcV n zs os vs ko kv veh ids=r):
 Calls ze 182 #[.agg #[zc zb n,za a zs.length cap,za ao ko co,za av kv cv,zc zb fine],.agg #[zc zb veh,za bi ids.length c2]] w fun e w'=>e=.returned (.tuple #[zc zb r,.bool ok])/\Below w.heap.size w w':=by
 have HA:=za4 hA;have HO:=za4 hO;have HV:=za4 hV;have HI:=za4 hI;have HLO:Hid _:=hlo;have HLV:Hid _:=hlv;have HC:Hid _:=hcB;have HR:Hid _:=hr;have HK:Hid _:=hok;clear hA hO hV hI hlo hlv hcB hr hok;have HC0:Hid (CR w ((w.alloc (zd #[zc zb n,za a zs.length cap,za ao ko co,za av kv cv,zc zb fine] 30)).alloc (zd #[zc zb veh,za bi ids.length c2] 80)) _ _):=CR.new w _ _;go_enter Tryz.func182,Tryz.ntmps182;obtain⟨c0,c1,c2',c3,c4⟩:=za7 HC0.2.1;obtain⟨d0,d1⟩:=za1 HC0.2.2
 go_wp2_with fail
 clear c0 c1 c2' c3 c4 d0 d1;refine(z73 n fine veh a ao av bi cap ko co kv cv c2 zs os vs ids _ (HA.below HC0.1) (HO.below HC0.1) (HV.below HC0.1) (HI.below HC0.1) HLO.X HLV.X hko hkv hli hc2 HC.X).mono ?_;rintro e w2 ⟨hb,⟨hf,rfl⟩|⟨hf,g,_,rfl,hros⟩⟩
 ·have HB2:Hid _:=HC0.1.trans (hb.mono HC0.1.size)
  have HV1:Hid (r=0):=HR.symm.trans (yA4 hf);have HK1:Hid (ok=false):=HK.symm.trans (zU hf);obtain⟨fv,HFV⟩:=nmd (codeV true n zs os vs ko kv veh ids);rw[HFV.X]at hf⊢;have hfb:(fv !=0)=true:=by simp[hf]
  clear hb hf;go_wp2;go_ret2;refine⟨?_,HB2.alloc HB2.size _⟩;rw[HV1.X,HK1.X];rfl
 ·have HB2:Hid _:=HC0.1.trans (hb.mono HC0.1.size)
  have hst:=(zf5 (zg6 hf).1).2.2;obtain⟨hmat,hords,hvehs,hn1,_⟩:=zb3 HC.X;obtain⟨hvb1,hvb2,hvb3,hvb4⟩:=zs3 hvehs hn1 veh;have HMAT:Hid _:=hmat;have HBD:Hid (z64 n (zd1 os ko ids) ids.length):=z56 hords hn1 ids;have h12:=(zg3 hst).1;have HV1:=(z21 hf).symm.trans HR.X;have HK1:Hid (ok=true):=HK.symm.trans (zS hf);obtain⟨v0,G0⟩:=nmd (zc2 vs kv veh 0);obtain⟨v1,G1⟩:=nmd (zc2 vs kv veh 1);obtain⟨v2,G2⟩:=nmd (zc2 vs kv veh 2);obtain⟨v3,G3⟩:=nmd (zc2 vs kv veh 3);obtain⟨v4,G4⟩:=nmd (zc2 vs kv veh 4);rw[G1.X]at HV1 hvb1;rw[G0.X,G1.X,G2.X,G3.X,G4.X];have HV1':Hid _:=HV1;have HX1:Hid _:=hvb1;have HBA:Hid (Below w.heap.size w (w2.alloc (zd #[zc zb n,za a zs.length cap,zc zb v0,zc zb v1,zc zb v2,zc zb v3,zc zb v4,za (some ⟨g,0,none⟩) ids.length ids.length] 119))):=HB2.alloc HB2.size _;have HRT:Hid ((w2.alloc (zd #[zc zb n,za a zs.length cap,zc zb v0,zc zb v1,zc zb v2,zc zb v3,zc zb v4,za (some ⟨g,0,none⟩) ids.length ids.length] 119)).heap[w2.heap.size]? =_):=zN _ _;have HROS:Hid (za3 (w2.alloc (zd #[zc zb n,za a zs.length cap,zc zb v0,zc zb v1,zc zb v2,zc zb v3,zc zb v4,za (some ⟨g,0,none⟩) ids.length ids.length] 119)) (some ⟨g,0,none⟩) (zd1 os ko ids)):=za3.below hros (zK _);clear hb hf hros HC0 hmat hords hvehs hn1 hvb1 hvb2 hvb3 hvb4 HV1 hst;obtain⟨t0,t1,t2,t3,t4,t5,t6,t7⟩:=zl2 HRT.X
  go_wp2_with fail
  clear t0 t1 t2 t3 t4 t5 t6 t7;refine(z98 n v0 v1 v2 v3 v4 a _ cap ids.length _ zs (zd1 os ko ids) _ HMAT.X (HA.below HBA.X) HROS.X (zj4 os ko ids) HBD.X HX1.X h12).mono ?_;rintro e w3 ⟨rfl,hb⟩;rw[HV1'.X];have HB3:Hid _:=HBA.trans (hb.mono HBA.size);clear hb;go_wp2;go_ret2;refine⟨?_,HB3.X⟩;rw[HK1.X];rfl
