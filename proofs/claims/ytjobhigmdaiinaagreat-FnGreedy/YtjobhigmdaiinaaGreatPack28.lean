import Derived.Test.YtjobhigmdaiinaaGreatPack0
import Derived.Test.YtjobhigmdaiinaaGreatPack1
import Derived.Test.YtjobhigmdaiinaaGreatPack4
import Derived.RangeFuncNested
import Derived.RangeFuncBound
import Derived.RangeFuncCalls
import Derived.RangeFuncLeaves
import Derived.Shelf.Abstract
import Derived.Shelf.RegionOpen
import Derived.OwnWalkIn
import Derived.TacticsInMore
import Derived.LoopNIn
import Derived.LoopIn
import Derived.Deep.Cut
namespace Go.Proofs.YtjobhigmdaiinaaGreat
open Go.RowKit Go.Shelf
attribute [local go_sem] Oper.semAt_some
theorem zE1{w w':World}(h:Below w.heap.size w w'):w.grownBy w' none:=⟨h.os,h.tape,h.output,h.size,fun k hk _=>h.block k hk⟩
def KpT(n₀ Bt:Nat)(o:Obj)(W W':World):Prop:=Below n₀ W W'/\(W.heap[Bt]? =some o->W'.heap[Bt]? =some o)
theorem KpT.trans{n₀ Bt:Nat}{o:Obj}{A B C:World}(h:KpT n₀ Bt o A B)(g:KpT n₀ Bt o B C):KpT n₀ Bt o A C:=⟨h.1.trans g.1,fun x=>g.2 (h.2 x)⟩
theorem zB3(n v0 home v2 frm to:Int)(a ar:Option Addr)(cap m cr:Nat)(zs:List Int)(w:World):
 Calls Tryz.prog 140 #[.agg #[.int .i64 n,.slice a zs.length cap,.int .i64 v0,.int .i64 home,.int .i64 v2,.int .i64 frm,.int .i64 to,.slice ar m cr]] w fun e w'=>e=.returned (.func (.func 148) #[] #[.pointer (some ⟨w.heap.size,0,none⟩)])/\w'=w.alloc (.cells #[Value.int .i64 n,Value.slice a zs.length cap,Value.int .i64 v0,Value.int .i64 home,Value.int .i64 v2,Value.int .i64 frm,Value.int .i64 to,Value.slice ar m cr] 60):=by
 go_enter Tryz.func140,Tryz.ntmps140;go_wp2;go_ret;exact⟨rfl,rfl⟩
set_option maxHeartbeats 2000000 in
theorem zW4(nf:Nat)(hnf:1<=nf)(l Bt n₀:Nat)(n v0 home v2 frm to:Int)(a ar:Option Addr)(cap m cr:Nat)(zs ros:List Int)(J Jx:List (Fin m)->World->Prop)
 (hY:∀pre x W,J pre W->pre.length<m->YieldAt Fence.wide (nf - 1) Tryz.prog l #[.agg #[.int .i64 (og6 ros x.val 0),.int .i64 (og6 ros x.val 1),.int .i64 (og6 ros x.val 2),.int .i64 (og6 ros x.val 3),.int .i64 (og6 ros x.val 4),.int .i64 (og6 ros x.val 5)],.agg #[.int .i64 (og6 ros x.val 0),.int .i64 (zS6 n zs ros home frm x.val),.int .i64 (zg0 n zs ros home frm x.val),.int .i64 (zt8 n zs ros home frm (x.val+1))]] W fun e W'=>
   (e=.returned (.bool true)/\J (pre++[x]) W'/\KpT n₀ Bt (.cells #[Value.int .i64 n,Value.slice a zs.length cap,Value.int .i64 v0,Value.int .i64 home,Value.int .i64 v2,Value.int .i64 frm,Value.int .i64 to,Value.slice ar m cr] 60 (0,0)) W W')∨(e=.returned (.bool false)/\Jx (pre++[x]) W'))
 (w W:World) (hJA:AbidesFrom W.heap.size J) (hn₀:w.heap.size<=n₀) (hwW:Below w.heap.size w W) (hT:W.heap[Bt]? =some (.cells #[Value.int .i64 n,Value.slice a zs.length cap,Value.int .i64 v0,Value.int .i64 home,Value.int .i64 v2,Value.int .i64 frm,Value.int .i64 to,Value.slice ar m cr] 60 (0,0))) (hm:zm2 n zs=true) (hA:za0 w a zs) (hR:za0 w ar ros) (hl:ros.length=m*6) (hbd:zq7 n ros m) (hh:0<=home/\home<n) (hf:0<=frm/\frm<=1000000) (hm12:m<=12) (h0:J [] W):
 Calls Tryz.prog 148 #[.func (.yield l) #[] #[],.pointer (some ⟨Bt,0,none⟩)] W fun e W'=>(∃v,e=.returned v)∧
  ((∃ys:List (Fin m),ys.map Fin.val=List.range m/\J ys W')∨(∃pre:List (Fin m),(∃k,k<=m/\pre.map Fin.val=List.range k)/\Jx pre W')):=by
 have HM:Hid _:=hm;have HA:Hid (za0 w a zs):=hA;have HR:Hid (za0 w ar ros):=hR;have HL:Hid _:=hl;have HBD:Hid (zq7 n ros m):=hbd;have HH:Hid _:=hh;have HF:Hid _:=hf;have HY:Hid _:=hY;have HJA:Hid (AbidesFrom W.heap.size J):=hJA;have HB0:Hid _:=hwW;have HT0:Hid (W.heap[Bt]? =_):=hT;have HJ0:Hid _:=h0;clear hm hA hR hl hbd hh hf hY hJA hwW hT h0;go_enter Tryz.func148,Tryz.ntmps148;obtain⟨t0,t1,t2,t3,t4,t5,t6,t7⟩:=zg4 HT0.out;have u3:=fun s:Kin W=>s.cell t3;have u5:=fun s:Kin W=>s.cell t5
 go_wp2_with fail
 have hkin:=Kin.there W;refine zb2 (by kernel_rfl) (by kernel_rfl) ?_
 repeat(go_big_quiet_step ((fail)))
 refine wpQuiet_nil ?_;rintro _ ⟨s,rfl⟩;have HB1:Hid _:=HB0.trans (s.below.mono HB0.size);have HT1:Hid (s.w.heap[Bt]? =_):=za1 s.below (za3 HT0.out) HT0.out;have HJ1:Hid _:=HJA.out _ _ _ none HJ0.out (zE1 s.below) (fun r e=>by cases e);have HSZ:Hid _:=s.below.size;clear t0 t1 t2 t3 t4 t5 t6 t7 u3 u5 HB0 HT0 HJ0 hkin;generalize s.w=W1 at*;obtain⟨t0,t1,t2,t3,t4,t5,t6,t7⟩:=zg4 HT1.out
 go_wp2_with fail
 clear t0 t1 t2 t3 t4 t5 t6 t7;go_loopw[3,4,18] (fun pl nw t wr=>∃(k:Nat) (pre:List (Fin m)),k<=m/\t=.int .i64 k/\pl=.int .i64 (plc ros home k)/\nw=.int .i64 (zt8 n zs ros home frm k)/\pre.map Fin.val=List.range k/\J pre wr/\Below w.heap.size w wr/\W.heap.size<=wr.heap.size/\wr.heap[Bt]? =some (.cells #[Value.int .i64 n,Value.slice a zs.length cap,Value.int .i64 v0,Value.int .i64 home,Value.int .i64 v2,Value.int .i64 frm,Value.int .i64 to,Value.slice ar m cr] 60 (0,0))) (fun _ _ t _=>m - (intOf t).toNat)
 case atStart=>exact⟨0,[],Nat.zero_le _,rfl,rfl,rfl,rfl,HJ1.out,HB1.out,HSZ.out,HT1.out⟩
 case round=>
  clear HB1 HT1 HJ1 HSZ;obtain⟨k,pre,hk,rfl,rfl,rfl,hpre,hj,hb,hsz,ht⟩:=hrel;have hpl:=zJ7 HBD.out HH.1 HH.2 k hk;have hnw:=zF4 (home:=home) HM.out HBD.out HF.out k hk;have HPRE:Hid _:=hpre;have HJ:Hid _:=hj;have HB:Hid _:=hb;have HSZ:Hid _:=hsz;have HT:Hid (wr.heap[Bt]? =_):=ht;obtain⟨t0,t1,t2,t3,t4,t5,t6,t7⟩:=zg4 ht;obtain⟨p,HPL⟩:=nmd (plc ros home k);obtain⟨f,HFR⟩:=nmd (zt8 n zs ros home frm k);rw[HPL.out]at hpl;rw[HFR.out]at hnw;rw[HPL.out,HFR.out];have HPB:Hid _:=hpl;clear hpre hj hb hsz ht hpl;by_cases hlt:k<m
  ·obtain⟨b,off,rfl,hcs⟩:=za0.some (za0.below HR.out HB.out) (j:=k*6) (by rw[HL.out];omega)
   obtain⟨r0,r1,r2,r3,r4,r5⟩:=zq3 hcs HL.out k hlt;clear hcs;obtain⟨h1b,h2b,h3b,h4b,h5b⟩:=HBD.out k hlt;have HO1:Hid _:=h1b;have hY1:=HY.out pre ⟨k,hlt⟩;clear h1b h2b;obtain⟨o0,H0⟩:=nmd (og6 ros k 0);obtain⟨o1,H1⟩:=nmd (og6 ros k 1);obtain⟨o2,H2⟩:=nmd (og6 ros k 2);obtain⟨o3,H3⟩:=nmd (og6 ros k 3);obtain⟨o4,H4⟩:=nmd (og6 ros k 4);obtain⟨o5,H5⟩:=nmd (og6 ros k 5);rw[H3.out]at h3b;rw[H4.out]at h4b;rw[H5.out]at h5b;rw[H1.out]at HO1;rw[H0.out]at r0;rw[H1.out]at r1;rw[H2.out]at r2;rw[H3.out]at r3;rw[H4.out]at r4;rw[H5.out]at r5;obtain⟨d,HD⟩:=nmd (tmI n zs p o1);have hdb:=zr5 HM.out p o1;rw[HD.out]at hdb;have HAR:Hid (zS6 n zs ros home frm k=f+d):=by
    show _=_;unfold zS6;rw[HFR.out,HPL.out,H1.out,HD.out]
   have HSTV:Hid (zg0 n zs ros home frm k=max (f+d) o3):=by
    show _=_;unfold zg0;rw[HAR.out,H3.out]
   have HNX:Hid (zt8 n zs ros home frm (k+1)=max (f+d) o3+o5):=by
    show _=_;rw[zK8,HSTV.out,H5.out]
   obtain⟨mx,HMX⟩:=nmd (max (f+d) o3);rw[HMX.out]at HSTV HNX;have hmb:0<=mx/\mx<=3000000:=by
    have:=HMX.out;omega
   dsimp only at hY1;rw[H0.out,H1.out,H2.out,H3.out,H4.out,H5.out,HAR.out,HSTV.out,HNX.out]at hY1;have HY1:Hid (∀W,J pre W->pre.length<m->YieldAt Fence.wide (nf - 1) Tryz.prog l #[.agg #[.int .i64 o0,.int .i64 o1,.int .i64 o2,.int .i64 o3,.int .i64 o4,.int .i64 o5],.agg #[.int .i64 o0,.int .i64 (f+d),.int .i64 mx,.int .i64 (mx+o5)]] W _):=hY1;clear hY1;have HBA:Hid (Below w.heap.size w (wr.alloc (Obj.cells #[Value.int .i64 o0,Value.int .i64 o1,Value.int .i64 o2,Value.int .i64 o3,Value.int .i64 o4,Value.int .i64 o5] 95))):=HB.alloc HB.size _;have HTA:Hid ((wr.alloc (Obj.cells #[Value.int .i64 o0,Value.int .i64 o1,Value.int .i64 o2,Value.int .i64 o3,Value.int .i64 o4,Value.int .i64 o5] 95)).heap[Bt]? =_):=(heap_alloc_old _ _ (za3 HT.out)).trans HT.out;have HRO:Hid ((wr.alloc (Obj.cells #[Value.int .i64 o0,Value.int .i64 o1,Value.int .i64 o2,Value.int .i64 o3,Value.int .i64 o4,Value.int .i64 o5] 95)).heap[wr.heap.size]? =_):=heap_alloc_new _ _;have HJA2:Hid (J pre (wr.alloc (Obj.cells #[Value.int .i64 o0,Value.int .i64 o1,Value.int .i64 o2,Value.int .i64 o3,Value.int .i64 o4,Value.int .i64 o5] 95))):=HJA.out _ _ _ none HJ.out (World.grownBy_alloc wr _ none) (fun r e=>by cases e);have HSA:Hid (W.heap.size<=(wr.alloc (Obj.cells #[Value.int .i64 o0,Value.int .i64 o1,Value.int .i64 o2,Value.int .i64 o3,Value.int .i64 o4,Value.int .i64 o5] 95)).heap.size):=Nat.le_trans HSZ.out (by simp);obtain⟨i0,i1,i2,i3,i4,i5⟩:=zf8 HRO.out;obtain⟨s0,s1,s2,s3,s4,s5,s6,s7⟩:=zg4 HTA.out
   go_wp2_with fail
   clear r0 r1 r2 r3 r4 r5 t0 t1 t2 t3 t4 t5 t6 t7 i0 i1 i2 i3 i4 i5 s0 s1 s2 s3 s4 s5 s6 s7;generalize wr.alloc (Obj.cells #[Value.int .i64 o0,Value.int .i64 o1,Value.int .i64 o2,Value.int .i64 o3,Value.int .i64 o4,Value.int .i64 o5] 95)=W2 at*;generalize wr.heap.size=g at*;refine(z21 n p o1 v0 home v2 frm to _ _ _ _ _ zs _ d HD.out HM.out HPB.out HO1.out (HA.below HBA.out)).mono ?_;rintro e W3 ⟨rfl,hb3⟩;have HB3:Hid _:=HBA.trans (hb3.mono HBA.size);have HT3:Hid (W3.heap[Bt]? =_):=za1 hb3 (za3 HTA.out) HTA.out;have HR3:Hid (W3.heap[g]? =_):=za1 hb3 (za3 HRO.out) HRO.out;have HJ3:Hid _:=HJA.out _ _ _ none HJA2.out (zE1 hb3) (fun r e=>by cases e);have HS3:Hid _:=Nat.le_trans HSA.out hb3.size;clear hb3 HBA HTA HRO HJA2 HSA;obtain⟨i0,i1,i2,i3,i4,i5⟩:=zf8 HR3.out;have hor:(f+d<o3/\mx=o3)∨(o3<=f+d/\mx=f+d):=by
    have:=HMX.out;omega
   rcases hor with⟨hmx,rfl⟩|⟨hmx,rfl⟩
   all_goals
    clear HMX
    go_wp2_with fail
    have e1:=fun s:Kin W3=>s.cell i1;have e5:=fun s:Kin W3=>s.cell i5;have hkin:=Kin.there W3;refine zb2 (by kernel_rfl) (by kernel_rfl) ?_
    repeat(go_big_quiet_step ((fail)))
    refine wpQuiet_nil ?_;rintro _ ⟨s2,rfl⟩;have HB4:Hid _:=HB3.trans (s2.below.mono HB3.size);have HT4:Hid (s2.w.heap[Bt]? =_):=za1 s2.below (za3 HT3.out) HT3.out;have HR4:Hid (s2.w.heap[g]? =_):=za1 s2.below (za3 HR3.out) HR3.out;have HJ4:Hid _:=HJA.out _ _ _ none HJ3.out (zE1 s2.below) (fun r e=>by cases e);have HS4:Hid _:=Nat.le_trans HS3.out s2.below.size;clear i0 i1 i2 i3 i4 i5 e1 e5 hkin HB3 HT3 HR3 HJ3 HS3;generalize s2.w=W4 at*;obtain⟨i0,i1,i2,i3,i4,i5⟩:=zf8 HR4.out;have hpl:pre.length<m:=by
     have:=congrArg List.length HPRE.out;simp at this;omega
    go_upto_region 7 with(fail);refine(wpIn_wide (n:=nf)).1 ?_;obtain⟨fn,tmps,assign,body,hy,hR⟩:=HY1.out W4 HJ4.out hpl;have HRND:Hid (RoundIn Fence.wide (nf - 1) Tryz.prog l fn tmps assign body W4 _):=hR;clear hR
    gi_wp2
    refine HRND.mono ?_;rintro e W5 (⟨rfl,hJ5,hk5⟩|⟨rfl,hJx5⟩)
    ·have HJ5:Hid _:=hJ5
     have HB5:Hid _:=HB4.trans (hk5.1.mono hn₀);have HT5:Hid (W5.heap[Bt]? =_):=hk5.2 HT4.out;have HS5:Hid _:=Nat.le_trans HS4.out hk5.1.size;have HPRE5:Hid ((pre++[(⟨k,hlt⟩:Fin m)]).map Fin.val=List.range (k+1)):=by
      show _=_;rw[List.map_append,HPRE.out,List.range_succ];rfl
     clear hJ5 hk5 hy HRND
     gi_wp2
     go_wp2;go_roundw
     case rel=>exact⟨k+1,_,by omega,by go_num,by rw[<-H1.out];rfl,by rw[HNX.out],HPRE5.out,HJ5.out,HB5.out,HS5.out,HT5.out⟩
     case measure=>simp[intOf];omega
    ·have HJx5:Hid _:=hJx5
     have HPRE5:Hid ((pre++[(⟨k,hlt⟩:Fin m)]).map Fin.val=List.range (k+1)):=by
      show _=_;rw[List.map_append,HPRE.out,List.range_succ];rfl
     clear hJx5 hy HRND
     gi_wp2
     go_wp2;refine bodyPost_ret (results_none rfl _ _ _) rfl ?_;exact⟨⟨_,rfl⟩,.inr ⟨_,⟨k+1,hlt,HPRE5.out⟩,HJx5.out⟩⟩
  ·obtain rfl:k=m:=by omega
   go_wp2
   go_end0
   exact⟨⟨_,rfl⟩,.inl ⟨_,HPRE.out,HJ.out⟩⟩
attribute [local go_sem] Oper.semAt_some
theorem KpT.putObj{n₀ Bt:Nat}{ob:Obj}(hob:ob.isCells=true){w:World}(hn:n₀<=w.heap.size)(W:World)(l:Nat)(o o':Obj)(hl:w.heap.size<=l)(h:W.heap[l]? =some o)(hc:o.isCells=false)(hw:o.isWalk=false):KpT n₀ Bt ob W (W.putObj l o'):=by
 refine⟨belowK_b hn W l o o' hl h hc hw,fun hT=> ?_⟩;have hne:Bt≠l:=by
  intro e;rw[e,h]at hT;cases hT;rw[hob]at hc;cases hc
 exact((grownBy_putObj' W l o').block Bt (Array.getElem?_eq_some_iff.1 hT).1 (fun e=>hne (by cases e;rfl))).trans hT
theorem KpT.alloc{n₀ Bt:Nat}{ob:Obj}(W:World)(o:Obj)(hn:n₀<=W.heap.size):KpT n₀ Bt ob W (W.alloc o):=
 ⟨(Below.refl _ _).alloc hn _,fun h=>(heap_alloc_old _ _ (Array.getElem?_eq_some_iff.1 h).1).trans h⟩
theorem KpT.set{n₀ Bt:Nat}{ob:Obj}(W:World)(k i:Nat)(v:Value)(hn:n₀<=k)(hne:Bt≠k):KpT n₀ Bt ob W (W.setCell ⟨k,i,none⟩ v):=
 ⟨(Below.refl _ _).setCell hn _,fun h=>za7 h hne⟩
theorem z06(nf:Nat)(hnf:1<=nf)(Bt n₀:Nat)(n v0 home v2 frm to:Int)(a ar:Option Addr)(cap m cr:Nat)(zs ros:List Int)(w w0:World)(hn₀:w.heap.size<=n₀)(hw0:Below w.heap.size w w0)(hT:w0.heap[Bt]? =some (.cells #[Value.int .i64 n,Value.slice a zs.length cap,Value.int .i64 v0,Value.int .i64 home,Value.int .i64 v2,Value.int .i64 frm,Value.int .i64 to,Value.slice ar m cr] 60 (0,0)))(hm:zm2 n zs=true)(hA:za0 w a zs)(hR:za0 w ar ros)(hl:ros.length=m*6)(hbd:zq7 n ros m)(hh:0<=home/\home<n)(hf:0<=frm/\frm<=1000000)(hm12:m<=12):
 SeqStopsK Fence.wide nf Tryz.prog 148 #[.pointer (some ⟨Bt,0,none⟩)] (fun x:Fin m=>#[.agg #[.int .i64 (og6 ros x.val 0),.int .i64 (og6 ros x.val 1),.int .i64 (og6 ros x.val 2),.int .i64 (og6 ros x.val 3),.int .i64 (og6 ros x.val 4),.int .i64 (og6 ros x.val 5)],.agg #[.int .i64 (og6 ros x.val 0),.int .i64 (zS6 n zs ros home frm x.val),.int .i64 (zg0 n zs ros home frm x.val),.int .i64 (zt8 n zs ros home frm (x.val+1))]]) (KpT n₀ Bt (.cells #[Value.int .i64 n,Value.slice a zs.length cap,Value.int .i64 v0,Value.int .i64 home,Value.int .i64 v2,Value.int .i64 frm,Value.int .i64 to,Value.slice ar m cr] 60 (0,0)))
  (fun ys=>ys.map Fin.val=List.range m) (fun pre=>∃k,k<=m/\pre.map Fin.val=List.range k) m w0:=fun l J Jx W hW hJ _ hY h0=>
 callsIn_wide.2 (zW4 nf hnf l Bt n₀ n v0 home v2 frm to a ar cap m cr zs ros J Jx hY w W hJ hn₀ (hw0.trans (hW.mono hw0.size)) (za1 hW (za3 hT) hT) hm hA hR hl hbd hh hf hm12 h0)
theorem zp8{β:Type}{B k:Nat}{cs:β->Array Value}{T:TypeId}{f:Nat×Nat}:OwnFrom B (fun(s:β) W=>W.heap[k]? =some (.cells (cs s) T f)):=fun s W W' row hs hg hr=>
 (hg.block k (Array.getElem?_eq_some_iff.1 hs).1 (fun e=>by obtain⟨_,o,ho,hc⟩:=hr k e.symm;rw[hs]at ho;cases ho;cases hc)).trans hs
def zV2(ros:List Int)(home:Int){m:Nat}(pre:List (Fin m)):Int:=match pre.getLast? with
 |some x=>og6 ros x.val 1
 |none=>home
def zT5(n:Int)(zs ros:List Int)(home frm:Int){m:Nat}(pre:List (Fin m)):Int:=match pre.getLast? with
 |some x=>zt8 n zs ros home frm (x.val+1)
 |none=>frm
theorem zB4(ros:List Int)(home:Int){m:Nat}(pre:List (Fin m))(x:Fin m):zV2 ros home (pre++[x])=og6 ros x.val 1:=by simp[zV2]
theorem z94(n:Int)(zs ros:List Int)(home frm:Int){m:Nat}(pre:List (Fin m))(x:Fin m):zT5 n zs ros home frm (pre++[x])=zt8 n zs ros home frm (x.val+1):=by simp[zT5]
theorem zS5{m:Nat}(ys:List (Fin m))(h:ys.map Fin.val=List.range m):(m=0/\ys=[])∨∃(pre:List (Fin m)) (x:Fin m),ys=pre++[x]/\x.val+1=m:=by
 rcases List.eq_nil_or_concat ys with rfl|⟨pre,x,rfl⟩
 ·left
  have:=congrArg List.length h;simp at this;exact⟨this.symm,rfl⟩
 ·right
  refine⟨pre,x,by simp,?_⟩;have hl:=congrArg List.length h;have h2:=congrArg List.getLast? h;simp at hl h2;obtain⟨k,rfl⟩:∃k,m=k+1:=⟨m - 1,by omega⟩;rw[List.range_succ]at h2;simp at h2;omega
theorem yc5(ros:List Int)(home:Int){m:Nat}(ys:List (Fin m))(h:ys.map Fin.val=List.range m):zV2 ros home ys=plc ros home m:=by
 rcases zS5 ys h with⟨rfl,rfl⟩|⟨pre,x,rfl,hx⟩
 ·rfl
 ·rw[zB4]
  have:plc ros home (x.val+1)=og6 ros x.val 1:=rfl;rw[<-this];exact congrArg (plc ros home) hx
theorem zY4(n:Int)(zs ros:List Int)(home frm:Int){m:Nat}(ys:List (Fin m))(h:ys.map Fin.val=List.range m):zT5 n zs ros home frm ys=zt8 n zs ros home frm m:=by
 rcases zS5 ys h with⟨rfl,rfl⟩|⟨pre,x,rfl,hx⟩
 ·rfl
 ·rw[z94]
  exact congrArg (zt8 n zs ros home frm) hx
def zh6(w W:World)(ts:Array Value)(bp bn:Nat)(pl nw:Int):Prop:=
 Below w.heap.size w W/\W.heap[w.heap.size]? =some (.cells ts 60 (0,0))/\W.heap[bp]? =some (.cells #[.int .i64 pl] 2 (0,0))/\W.heap[bn]? =some (.cells #[.int .i64 nw] 2 (0,0))/\w.heap.size<bp/\w.heap.size<bn/\bp≠bn
theorem zh6.new1(w:World)(ts:Array Value)(pl nw:Int):zh6 w (((w.alloc (.cells ts 60)).alloc (.cells #[.int .i64 pl] 2)).alloc (.cells #[.int .i64 nw] 2)) ts (w.heap.size+1) (w.heap.size+1+1) pl nw:=by
 have h0:=heap_alloc2_old w (.cells ts 60) (.cells #[.int .i64 pl] 2);have h1:=heap_alloc2_new w (.cells ts 60) (.cells #[.int .i64 pl] 2);have h2:=heap_alloc_new ((w.alloc (.cells ts 60)).alloc (.cells #[.int .i64 pl] 2)) (.cells #[.int .i64 nw] 2);refine⟨(((Below.refl _ _).alloc (Nat.le_refl _) _).alloc (by simp) _).alloc (by simp;omega) _,(heap_alloc_old _ _ (za3 h0)).trans h0,(heap_alloc_old _ _ (za3 h1)).trans h1,by simpa using h2,by omega,by omega,by omega⟩
theorem zh6.new2(w:World)(ts:Array Value)(pl nw:Int):zh6 w (((w.alloc (.cells ts 60)).alloc (.cells #[.int .i64 nw] 2)).alloc (.cells #[.int .i64 pl] 2)) ts (w.heap.size+1+1) (w.heap.size+1) pl nw:=by
 obtain⟨h1,h2,h3,h4,_,_,_⟩:=zh6.new1 w ts nw pl;exact⟨h1,h2,h4,h3,by omega,by omega,by omega⟩
theorem zh6.below{w W W':World}{ts:Array Value}{bp bn:Nat}{pl nw:Int}(h:zh6 w W ts bp bn pl nw)(hb:Below W.heap.size W W'):zh6 w W' ts bp bn pl nw:=
 ⟨h.1.trans (hb.mono h.1.size),za1 hb (za3 h.2.1) h.2.1,za1 hb (za3 h.2.2.1) h.2.2.1,za1 hb (za3 h.2.2.2.1) h.2.2.2.1,h.2.2.2.2⟩
theorem zh6.set{w W:World}{ts:Array Value}{bp bn:Nat}{pl nw:Int}(h:zh6 w W ts bp bn pl nw)(pl' nw':Int):zh6 w (((W.setCell ⟨bp,0,none⟩ (.int .i64 pl')).setCell ⟨bn,0,none⟩ (.int .i64 nw')).drew) ts bp bn pl' nw':=by
 obtain⟨h1,h2,h3,h4,h5,h6,h7⟩:=h;exact⟨((h1.setCell (by simp;omega) _).setCell (by simp;omega) _).drew,za7 (za7 h2 (by omega)) (by omega),za7 (heap_setCell_same _ _ _ _ _ _ h3) h7,heap_setCell_same _ _ _ _ _ _ (za7 h4 (fun e=>h7 e.symm)),h5,h6,h7⟩
theorem zh6.own{β:Type}(w:World)(ts:Array Value)(bp bn:Nat)(pl nw:β->Int)(B:Nat)(hB:w.heap.size<=B):OwnFrom B (fun s W=>zh6 w W ts bp bn (pl s) (nw s)):=fun s W W' row hs hg hr=>
 ⟨ownFrom_below (Nat.le_refl _) hB () W W' row hs.1 hg hr,zp8 (cs:=fun _:Unit=>ts) () W W' row hs.2.1 hg hr,zp8 (cs:=fun _:Unit=>#[.int .i64 (pl s)]) () W W' row hs.2.2.1 hg hr,zp8 (cs:=fun _:Unit=>#[.int .i64 (nw s)]) () W W' row hs.2.2.2.1 hg hr,hs.2.2.2.2⟩
set_option maxRecDepth 100000 in
set_option maxHeartbeats 2000000 in
theorem yi9(n v0 home v2 frm to:Int)(a ar:Option Addr)(cap m cr:Nat)(zs ros:List Int)(w:World)(hm:zm2 n zs=true)(hA:za0 w a zs)(hR:za0 w ar ros)(hl:ros.length=m*6)(hbd:zq7 n ros m)(hh:0<=home/\home<n)(hf:0<=frm/\frm<=1000000)(hm12:m<=12):
 Calls Tryz.prog 141 #[.agg #[.int .i64 n,.slice a zs.length cap,.int .i64 v0,.int .i64 home,.int .i64 v2,.int .i64 frm,.int .i64 to,.slice ar m cr]] w fun e w'=>e=.returned (.int .i64 (homeV n zs ros m home frm))/\Below w.heap.size w w':=by
 have HM:Hid _:=hm;have HA:Hid (za0 w a zs):=hA;have HR:Hid (za0 w ar ros):=hR;have HL:Hid _:=hl;have HBD:Hid (zq7 n ros m):=hbd;have HH:Hid _:=hh;have HF:Hid _:=hf;have HP0:Hid ((w.alloc (Obj.cells #[Value.int .i64 n,Value.slice a zs.length cap,Value.int .i64 v0,Value.int .i64 home,Value.int .i64 v2,Value.int .i64 frm,Value.int .i64 to,Value.slice ar m cr] 60)).heap[w.heap.size]? =_):=heap_alloc_new _ _;have HB0:Hid (Below w.heap.size w (w.alloc (Obj.cells #[Value.int .i64 n,Value.slice a zs.length cap,Value.int .i64 v0,Value.int .i64 home,Value.int .i64 v2,Value.int .i64 frm,Value.int .i64 to,Value.slice ar m cr] 60))):=(Below.refl _ _).alloc (Nat.le_refl _) _;clear hm hA hR hl hbd hh hf;refine(callsIn_wide (n:=3)).1 ?_;refine callsIn_of_wp_marks Tryz.func141 rfl trivial ?_ rfl;simp only[Tryz.ntmps141,List.size_toArray,List.length_cons,List.length_nil,Nat.reduceAdd,Nat.reduceSub,Array.replicate_succ,Array.replicate_zero,List.push_toArray,List.append_toArray,List.nil_append,List.cons_append];refine wpIn_wide.2 ?_;obtain⟨t0,t1,t2,t3,t4,t5,t6,t7⟩:=zg4 HP0.out
 go_wp2_with fail
 rename_i Kx hKx
 have key:∀(bp bn:Nat) (W1:World),Hid (zh6 w W1 #[Value.int .i64 n,Value.slice a zs.length cap,Value.int .i64 v0,Value.int .i64 home,Value.int .i64 v2,Value.int .i64 frm,Value.int .i64 to,Value.slice ar m cr] bp bn home frm)->Kx {tmps:=#[.agg #[.int .i64 n,.slice a zs.length cap,.int .i64 v0,.int .i64 home,.int .i64 v2,.int .i64 frm,.int .i64 to,.slice ar m cr],.pointer (some ⟨w.heap.size,0,none⟩),.int .i64 0,.pointer (some ⟨bp,0,none⟩),.pointer (some ⟨bn,0,none⟩),undef,undef,.pointer (some ⟨w.heap.size,2,none⟩),.pointer (some ⟨w.heap.size,3,none⟩),.int .i64 home,.pointer (some ⟨w.heap.size,2,none⟩),.pointer (some ⟨w.heap.size,5,none⟩),.int .i64 frm,undef,undef,undef,undef,undef,undef,undef,undef,undef,undef,undef,undef,undef,undef,undef,undef],defers:=[]} W1:=by
  clear t0 t1 t2 t3 t4 t5 t6 t7 HP0 HB0;intro bp bn W1 HX;apply hKx;obtain⟨t0,t1,t2,t3,t4,t5,t6,t7⟩:=zg4 HX.2.1
  go_wp2_with fail
  clear t0 t1 t2 t3 t4 t5 t6 t7;refine(zB3 n v0 home v2 frm to a ar cap m cr zs W1).mono ?_;rintro e w2 ⟨rfl,rfl⟩;have HX2:Hid (zh6 w (W1.alloc (.cells #[Value.int .i64 n,Value.slice a zs.length cap,Value.int .i64 v0,Value.int .i64 home,Value.int .i64 v2,Value.int .i64 frm,Value.int .i64 to,Value.slice ar m cr] 60)) #[Value.int .i64 n,Value.slice a zs.length cap,Value.int .i64 v0,Value.int .i64 home,Value.int .i64 v2,Value.int .i64 frm,Value.int .i64 to,Value.slice ar m cr] bp bn home frm):=HX.below ((Below.refl _ _).alloc (Nat.le_refl _) _);have HT2:Hid ((W1.alloc (.cells #[Value.int .i64 n,Value.slice a zs.length cap,Value.int .i64 v0,Value.int .i64 home,Value.int .i64 v2,Value.int .i64 frm,Value.int .i64 to,Value.slice ar m cr] 60)).heap[W1.heap.size]? =some (.cells #[Value.int .i64 n,Value.slice a zs.length cap,Value.int .i64 v0,Value.int .i64 home,Value.int .i64 v2,Value.int .i64 frm,Value.int .i64 to,Value.slice ar m cr] 60 (0,0))):=heap_alloc_new _ _;have HS1:Hid (w.heap.size<W1.heap.size/\bp<W1.heap.size/\bn<W1.heap.size):=⟨za3 HX.2.1,za3 HX.2.2.1,za3 HX.2.2.2.1⟩
  go_wp2_with fail
  refine(wpIn_wide (n:=3)).1 ?_;refine wpIn_rangeFunc_ownH rfl (by omega) (gf:=148) (lb:=#[.pointer (some ⟨W1.heap.size,0,none⟩)]) rfl trivial (enters_of Tryz.func148 (by kernel_rfl) rfl)
   (z06 2 (by omega) W1.heap.size w.heap.size n v0 home v2 frm to a ar cap m cr zs ros w _ (Nat.le_refl _) HX2.1 HT2.out HM.out HA.out HR.out HL.out HBD.out HH.out HF.out hm12)
   KpT.trans (KpT.putObj rfl HX2.1.size) (Below.refl _ _) (fun _=>rfl)
   (fun pre W=>zh6 w W #[Value.int .i64 n,Value.slice a zs.length cap,Value.int .i64 v0,Value.int .i64 home,Value.int .i64 v2,Value.int .i64 frm,Value.int .i64 to,Value.slice ar m cr] bp bn (zV2 ros home pre) (zT5 n zs ros home frm pre)/\W1.heap.size<W.heap.size)
   (fun _ _ _=>False)
   (OwnFrom.and (zh6.own w _ bp bn _ _ _ HX2.1.size) (fun _ _ _ _ hs hg _=>Nat.lt_of_lt_of_le hs hg.size))
   (fun _ _ _ _ _ hs _ _=>hs)
   ⟨HX2.out,by simp⟩
   (fun x a' W=>∃Bo Bv,W1.heap.size<Bo/\W1.heap.size<Bv/\W.heap[Bo]? =some (.cells #[.int .i64 (og6 ros x.val 0),.int .i64 (og6 ros x.val 1),.int .i64 (og6 ros x.val 2),.int .i64 (og6 ros x.val 3),.int .i64 (og6 ros x.val 4),.int .i64 (og6 ros x.val 5)] 95 (0,0))/\W.heap[Bv]? =some (.cells #[.int .i64 (og6 ros x.val 0),.int .i64 (zS6 n zs ros home frm x.val),.int .i64 (zg0 n zs ros home frm x.val),.int .i64 (zt8 n zs ros home frm (x.val+1))] 165 (0,0))/\a'={tmps:=#[.agg #[.int .i64 n,.slice a zs.length cap,.int .i64 v0,.int .i64 home,.int .i64 v2,.int .i64 frm,.int .i64 to,.slice ar m cr],.pointer (some ⟨w.heap.size,0,none⟩),.int .i64 0,.pointer (some ⟨bp,0,none⟩),.pointer (some ⟨bn,0,none⟩),.pointer (some ⟨Bo,0,none⟩),.pointer (some ⟨Bv,0,none⟩),.pointer (some ⟨w.heap.size,2,none⟩),.pointer (some ⟨w.heap.size,3,none⟩),.int .i64 home,.pointer (some ⟨w.heap.size,2,none⟩),.pointer (some ⟨w.heap.size,5,none⟩),.int .i64 frm,.agg #[.int .i64 n,.slice a zs.length cap,.int .i64 v0,.int .i64 home,.int .i64 v2,.int .i64 frm,.int .i64 to,.slice ar m cr],.func (.func 148) #[] #[.pointer (some ⟨W1.heap.size,0,none⟩)],.agg #[.int .i64 (og6 ros x.val 0),.int .i64 (og6 ros x.val 1),.int .i64 (og6 ros x.val 2),.int .i64 (og6 ros x.val 3),.int .i64 (og6 ros x.val 4),.int .i64 (og6 ros x.val 5)],.agg #[.int .i64 (og6 ros x.val 0),.int .i64 (zS6 n zs ros home frm x.val),.int .i64 (zg0 n zs ros home frm x.val),.int .i64 (zt8 n zs ros home frm (x.val+1))],undef,undef,undef,undef,undef,undef,undef,undef,undef,undef,undef,undef],defers:=[]})
   (fun x a' _ X Y row hs hg hr=>by
     obtain⟨Bo,Bv,g1,g2,g3,g4,g5⟩:=hs;exact⟨Bo,Bv,g1,g2,zp8 (cs:=fun _:Unit=>_) () X Y row g3 hg hr,zp8 (cs:=fun _:Unit=>_) () X Y row g4 hg hr,g5⟩)
   ?assign ?body ?done ?stop
  case assign=>
   rintro l pre x W K ⟨hi,hsz⟩ hK
   gi_wp2
   refine hK _ _ (((KeepsOthers.alloc _ _).trans (KeepsOthers.alloc _ _)).from _) ((KpT.alloc _ _ hi.1.size).trans (KpT.alloc _ _ (Nat.le_trans hi.1.size (by simp)))) ⟨(hi.below ((Below.refl _ _).alloc (Nat.le_refl _) _)).below ((Below.refl _ _).alloc (Nat.le_refl _) _),by simp;omega⟩ ⟨W.heap.size,W.heap.size+1,hsz,by omega,?_,?_,rfl⟩
   ·exact heap_alloc2_old _ _ _
   ·exact heap_alloc2_new _ _ _
  case body=>
   rintro l pre x a' W hl hlr ⟨hi,hsz⟩ ⟨Bo,Bv,g1,g2,g3,g4,rfl⟩ hlt;have HI:Hid (zh6 w W _ _ _ _ _):=hi;have HS1':=HS1.out;have hne:=hi.2.2.2.2;obtain⟨i0,i1,i2,i3,i4,i5⟩:=zf8 g3;have j3:W.cell? ⟨Bv,3,none⟩=some (.int .i64 (zt8 n zs ros home frm (x.val+1))):=by rw[cell_of_row _ _ 3 _ _ _ g4];simp
   have cp:W.cell? ⟨bp,0,none⟩=some (.int .i64 (zV2 ros home pre)):=by rw[cell_of_row _ _ 0 _ _ _ hi.2.2.1];simp
   have cn:W.cell? ⟨bn,0,none⟩=some (.int .i64 (zT5 n zs ros home frm pre)):=by rw[cell_of_row _ _ 0 _ _ _ hi.2.2.2.1];simp
   have fp:=fun i=>frozen_of_row _ _ i _ _ hi.2.2.1;have fn:=fun i=>frozen_of_row _ _ i _ _ hi.2.2.2.1;obtain⟨xo,HXO⟩:=nmd (og6 ros x.val 1);obtain⟨xn,HXN⟩:=nmd (zt8 n zs ros home frm (x.val+1));have HFIN:Hid (KeepsFrom (W1.alloc (.cells #[Value.int .i64 n,Value.slice a zs.length cap,Value.int .i64 v0,Value.int .i64 home,Value.int .i64 v2,Value.int .i64 frm,Value.int .i64 to,Value.slice ar m cr] 60)).heap.size W (((W.setCell ⟨bp,0,none⟩ (Value.int .i64 (og6 ros x.val 1))).setCell ⟨bn,0,none⟩ (Value.int .i64 (zt8 n zs ros home frm (x.val+1)))).drew)/\KpT w.heap.size W1.heap.size (.cells #[Value.int .i64 n,Value.slice a zs.length cap,Value.int .i64 v0,Value.int .i64 home,Value.int .i64 v2,Value.int .i64 frm,Value.int .i64 to,Value.slice ar m cr] 60 (0,0)) W (((W.setCell ⟨bp,0,none⟩ (Value.int .i64 (og6 ros x.val 1))).setCell ⟨bn,0,none⟩ (Value.int .i64 (zt8 n zs ros home frm (x.val+1)))).drew)/\(zh6 w (((W.setCell ⟨bp,0,none⟩ (Value.int .i64 (og6 ros x.val 1))).setCell ⟨bn,0,none⟩ (Value.int .i64 (zt8 n zs ros home frm (x.val+1)))).drew) #[Value.int .i64 n,Value.slice a zs.length cap,Value.int .i64 v0,Value.int .i64 home,Value.int .i64 v2,Value.int .i64 frm,Value.int .i64 to,Value.slice ar m cr] bp bn (zV2 ros home (pre++[x])) (zT5 n zs ros home frm (pre++[x]))/\W1.heap.size<(((W.setCell ⟨bp,0,none⟩ (Value.int .i64 (og6 ros x.val 1))).setCell ⟨bn,0,none⟩ (Value.int .i64 (zt8 n zs ros home frm (x.val+1)))).drew).heap.size)):=by
    refine⟨(((KeepsOthers.setCell _ _ _).trans (KeepsOthers.setCell _ _ _)).trans (KeepsOthers.drew _)).from _,?_,?_,?_⟩
    ·exact((KpT.set _ _ _ _ (by omega) (by omega)).trans (KpT.set _ _ _ _ (by omega) (by omega))).trans ⟨(Below.refl _ _).drew,fun h=>h⟩
    ·rw[zB4,z94]
     exact HI.set _ _
    ·simpa[World.setCell]using hsz
   clear hi g3 g4 i0 i2 i3 i4 i5 HI;rw[HXO.out]at i1 HFIN;rw[HXN.out]at j3 HFIN
   gi_wp2
   rename_i Q1 K1 hK1 Q2;rw[HXO.out,HXN.out];clear hK1 hKx;clear K1 Kx HXO HXN;generalize Value.agg #[Value.int .i64 n,Value.slice a zs.length cap,Value.int .i64 v0,Value.int .i64 home,Value.int .i64 v2,Value.int .i64 frm,Value.int .i64 to,Value.slice ar m cr]=A0;generalize Value.func (Fn.func 148) #[] #[Value.pointer (some ⟨W1.heap.size,0,none⟩)]=A14;generalize Value.agg #[Value.int .i64 (og6 ros x.val 0),Value.int .i64 xo,Value.int .i64 (og6 ros x.val 2),Value.int .i64 (og6 ros x.val 3),Value.int .i64 (og6 ros x.val 4),Value.int .i64 (og6 ros x.val 5)]=A15;generalize Value.agg #[Value.int .i64 (og6 ros x.val 0),Value.int .i64 (zS6 n zs ros home frm x.val),Value.int .i64 (zg0 n zs ros home frm x.val),Value.int .i64 xn]=A16;have hmx:Tryz.prog.follows .mixedOrders=true:=by kernel_rfl
   gi_region_o
   all_goals exact HFIN.out
  case done=>
   rintro D ys W hD hS ⟨hi,hsz⟩ hK;rw[yc5 _ _ _ hS,zY4 _ _ _ _ _ _ hS]at hi;have HI:Hid (zh6 w W _ _ _ _ _):=hi;have HK:Hid _:=hK;have HD:Hid _:=Nat.le_trans HX2.1.size hD;have hpl:=zJ7 HBD.out HH.1 HH.2 m (Nat.le_refl _);have hnw:=zF4 (home:=home) HM.out HBD.out HF.out m (Nat.le_refl _);obtain⟨p,HPL⟩:=nmd (plc ros home m);obtain⟨f,HFR⟩:=nmd (zt8 n zs ros home frm m);obtain⟨d,HDD⟩:=nmd (tmI n zs p home);have hdb:=zr5 HM.out p home;rw[HDD.out]at hdb;rw[HPL.out]at hpl HI;rw[HFR.out]at hnw HI;have HPB:Hid _:=hpl;have HV:Hid (homeV n zs ros m home frm=f+d):=by
    show _=_;unfold homeV;rw[HFR.out,HPL.out,HDD.out]
   have cp:W.cell? ⟨bp,0,none⟩=some (.int .i64 p):=by rw[cell_of_row _ _ 0 _ _ _ HI.2.2.1];simp
   have cn:W.cell? ⟨bn,0,none⟩=some (.int .i64 f):=by rw[cell_of_row _ _ 0 _ _ _ HI.2.2.2.1];simp
   obtain⟨t0,t1,t2,t3,t4,t5,t6,t7⟩:=zg4 HI.2.1;clear hi hK hD hS hsz hpl
   go_wp2_with fail
   have e0:=fun s:Kin W=>s.cell t0;have e1:=fun s:Kin W=>s.cell t1;have e2:=fun s:Kin W=>s.cell t2;have e3:=fun s:Kin W=>s.cell t3;have e4:=fun s:Kin W=>s.cell t4;have e5:=fun s:Kin W=>s.cell t5;have e6:=fun s:Kin W=>s.cell t6;have e7:=fun s:Kin W=>s.cell t7;have ep:=fun s:Kin W=>s.cell cp;have en:=fun s:Kin W=>s.cell cn;have hkin:=Kin.there W;refine zb2 (by kernel_rfl) (by kernel_rfl) ?_
   repeat(go_big_quiet_step ((first
    |(go_at_call 117;exact Kin.call (z21 n p home v0 home v2 frm to _ _ _ _ _ zs _ d HDD.out HM.out HPB.out HH.out ((HA.below HI.1).below (Kin.below _)))))))
   refine wpQuiet_nil ?_;rintro _ ⟨s,rfl⟩;have HB2:Hid _:=HI.1.trans (s.below.mono HI.1.size);have HK2:Hid _:=za1 s.below (Array.getElem?_eq_some_iff.1 HK.out).1 HK.out;clear t0 t1 t2 t3 t4 t5 t6 t7 e0 e1 e2 e3 e4 e5 e6 e7 ep en hkin cp cn;generalize s.w=W2 at*;go_wp2;rw[HV.out];refine⟨by simp,.inl ⟨_,_,rfl,run_takeDeferred HK2.out,?_⟩⟩;exact⟨_,results_tmp rfl _ _ _,rfl,HB2.trans (belowK_b (w:=w) (Nat.le_refl _) W2 D _ _ HD.out HK2.out rfl rfl)⟩
  case stop=>
   rintro D c pre W _ _ h _;exact h.elim
 go_region
 all_goals(first
  |(with_reducible show Exit.then _ _ Exit.normal _ (((w.alloc (Obj.cells #[Value.int .i64 n,Value.slice a zs.length cap,Value.int .i64 v0,Value.int .i64 home,Value.int .i64 v2,Value.int .i64 frm,Value.int .i64 to,Value.slice ar m cr] 60)).alloc (Obj.cells #[Value.int .i64 home] 2)).alloc (Obj.cells #[Value.int .i64 frm] 2)).drew
    exact key (w.heap.size+1) (w.heap.size+1+1) _ ((zh6.new1 w _ home frm).below (Below.refl _ _).drew))
  |(with_reducible show Exit.then _ _ Exit.normal _ (((w.alloc (Obj.cells #[Value.int .i64 n,Value.slice a zs.length cap,Value.int .i64 v0,Value.int .i64 home,Value.int .i64 v2,Value.int .i64 frm,Value.int .i64 to,Value.slice ar m cr] 60)).alloc (Obj.cells #[Value.int .i64 frm] 2)).alloc (Obj.cells #[Value.int .i64 home] 2)).drew
    exact key (w.heap.size+1+1) (w.heap.size+1) _ ((zh6.new2 w _ home frm).below (Below.refl _ _).drew)))
attribute [local go_sem] Oper.semAt_some
def ze8(w W:World)(ts:Array Value)(c:Int):Prop:=
 Below w.heap.size w W/\W.heap[w.heap.size]? =some (.cells ts 60 (0,0))/\W.heap[w.heap.size+1]? =some (.cells #[.int .i64 c] 2 (0,0))
theorem ze8.new(w:World)(ts:Array Value)(c:Int):ze8 w ((w.alloc (.cells ts 60)).alloc (.cells #[.int .i64 c] 2)) ts c:=
 ⟨((Below.refl _ _).alloc (Nat.le_refl _) _).alloc (by simp) _,heap_alloc2_old _ _ _,heap_alloc2_new _ _ _⟩
theorem ze8.below{w W W':World}{ts:Array Value}{c:Int}(h:ze8 w W ts c)(hb:Below W.heap.size W W'):ze8 w W' ts c:=
 ⟨h.1.trans (hb.mono h.1.size),za1 hb (za3 h.2.1) h.2.1,za1 hb (za3 h.2.2) h.2.2⟩
theorem ze8.set{w W:World}{ts:Array Value}{c:Int}(h:ze8 w W ts c)(c':Int):ze8 w (W.setCell ⟨w.heap.size+1,0,none⟩ (.int .i64 c')) ts c':=
 ⟨h.1.setCell (by simp) _,za7 h.2.1 (by omega),heap_setCell_same _ _ _ _ _ _ h.2.2⟩
theorem ze8.own{β:Type}(w:World)(ts:Array Value)(c:Int)(B:Nat)(hB:w.heap.size<=B):OwnFrom B (fun(_:β) W=>ze8 w W ts c):=fun _ W W' row hs hg hr=>
 ⟨ownFrom_below (Nat.le_refl _) hB () W W' row hs.1 hg hr,zp8 (cs:=fun _:Unit=>ts) () W W' row hs.2.1 hg hr,zp8 (cs:=fun _:Unit=>#[.int .i64 c]) () W W' row hs.2.2 hg hr⟩
theorem yq4(n v0 home v2 frm to:Int)(a ar:Option Addr)(cap m cr:Nat)(zs ros:List Int)(w:World)(d:Int)(hd:homeV n zs ros m home frm=d)(hm:zm2 n zs=true)(hA:za0 w a zs)(hR:za0 w ar ros)(hl:ros.length=m*6)(hbd:zq7 n ros m)(hh:0<=home/\home<n)(hf:0<=frm/\frm<=1000000)(hm12:m<=12):
 Calls Tryz.prog 141 #[.agg #[.int .i64 n,.slice a zs.length cap,.int .i64 v0,.int .i64 home,.int .i64 v2,.int .i64 frm,.int .i64 to,.slice ar m cr]] w fun e w'=>e=.returned (.int .i64 d)/\Below w.heap.size w w':=hd▸yi9 n v0 home v2 frm to a ar cap m cr zs ros w hm hA hR hl hbd hh hf hm12
theorem yt5{m:Nat}{ys:List (Fin m)}{k:Nat}(h:ys.map Fin.val=List.range k){j:Nat}(hj:j<k):∃x,x∈ys/\x.val=j:=by
 have:j∈ys.map Fin.val:=by rw[h];simpa using hj
 simpa using this
set_option maxRecDepth 100000 in
set_option maxHeartbeats 2000000 in
theorem zD1(n v0 home v2 frm to:Int)(a ar:Option Addr)(cap m cr:Nat)(zs ros:List Int)(w:World)(hm:zm2 n zs=true)(hA:za0 w a zs)(hR:za0 w ar ros)(hl:ros.length=m*6)(hbd:zq7 n ros m)(hh:0<=home/\home<n)(hf:0<=frm/\frm<=1000000)(hm12:m<=12):
 Calls Tryz.prog 116 #[.agg #[.int .i64 n,.slice a zs.length cap,.int .i64 v0,.int .i64 home,.int .i64 v2,.int .i64 frm,.int .i64 to,.slice ar m cr]] w fun e w'=>e=.returned (.int .i64 (zr9 n zs ros m home frm to))/\Below w.heap.size w w':=by
 have HM:Hid _:=hm;have HA:Hid (za0 w a zs):=hA;have HR:Hid (za0 w ar ros):=hR;have HL:Hid _:=hl;have HBD:Hid (zq7 n ros m):=hbd;have HH:Hid _:=hh;have HF:Hid _:=hf;have HX:Hid (ze8 w ((w.alloc (Obj.cells #[Value.int .i64 n,Value.slice a zs.length cap,Value.int .i64 v0,Value.int .i64 home,Value.int .i64 v2,Value.int .i64 frm,Value.int .i64 to,Value.slice ar m cr] 60)).alloc (Obj.cells #[Value.int .i64 0] 2)) #[Value.int .i64 n,Value.slice a zs.length cap,Value.int .i64 v0,Value.int .i64 home,Value.int .i64 v2,Value.int .i64 frm,Value.int .i64 to,Value.slice ar m cr] 0):=ze8.new w _ 0;clear hm hA hR hl hbd hh hf;obtain⟨r,HV⟩:=nmd (zr9 n zs ros m home frm to);rw[HV.out];refine(callsIn_wide (n:=3)).1 ?_;refine callsIn_of_wp_marks Tryz.func116 rfl trivial ?_ rfl;simp only[Tryz.ntmps116,List.size_toArray,List.length_cons,List.length_nil,Nat.reduceAdd,Nat.reduceSub,Array.replicate_succ,Array.replicate_zero,List.push_toArray,List.append_toArray,List.nil_append,List.cons_append];refine wpIn_wide.2 ?_;obtain⟨t0,t1,t2,t3,t4,t5,t6,t7⟩:=zg4 HX.2.1
 go_wp2_with fail
 clear t0 t1 t2 t3 t4 t5 t6 t7;have HZ:Hid _:=za3 HX.2.2;generalize((w.alloc (Obj.cells #[Value.int .i64 n,Value.slice a zs.length cap,Value.int .i64 v0,Value.int .i64 home,Value.int .i64 v2,Value.int .i64 frm,Value.int .i64 to,Value.slice ar m cr] 60)).alloc (Obj.cells #[Value.int .i64 0] 2))=W1 at*;refine(zB3 n v0 home v2 frm to a ar cap m cr zs W1).mono ?_;rintro e w2 ⟨rfl,rfl⟩;have HX2:Hid (ze8 w (W1.alloc (.cells #[Value.int .i64 n,Value.slice a zs.length cap,Value.int .i64 v0,Value.int .i64 home,Value.int .i64 v2,Value.int .i64 frm,Value.int .i64 to,Value.slice ar m cr] 60)) #[Value.int .i64 n,Value.slice a zs.length cap,Value.int .i64 v0,Value.int .i64 home,Value.int .i64 v2,Value.int .i64 frm,Value.int .i64 to,Value.slice ar m cr] 0):=HX.below ((Below.refl _ _).alloc (Nat.le_refl _) _);have HT2:Hid ((W1.alloc (.cells #[Value.int .i64 n,Value.slice a zs.length cap,Value.int .i64 v0,Value.int .i64 home,Value.int .i64 v2,Value.int .i64 frm,Value.int .i64 to,Value.slice ar m cr] 60)).heap[W1.heap.size]? =some (.cells #[Value.int .i64 n,Value.slice a zs.length cap,Value.int .i64 v0,Value.int .i64 home,Value.int .i64 v2,Value.int .i64 frm,Value.int .i64 to,Value.slice ar m cr] 60 (0,0))):=heap_alloc_new _ _
 go_wp2_with fail
 refine(wpIn_wide (n:=3)).1 ?_;refine wpIn_rangeFunc_ownH rfl (by omega) (gf:=148) (lb:=#[.pointer (some ⟨W1.heap.size,0,none⟩)]) rfl trivial (enters_of Tryz.func148 (by kernel_rfl) rfl)
  (z06 2 (by omega) W1.heap.size w.heap.size n v0 home v2 frm to a ar cap m cr zs ros w _ (Nat.le_refl _) HX2.1 HT2.out HM.out HA.out HR.out HL.out HBD.out HH.out HF.out hm12)
  KpT.trans (KpT.putObj rfl HX2.1.size) (Below.refl _ _) (fun _=>rfl)
  (fun pre W=>(ze8 w W #[Value.int .i64 n,Value.slice a zs.length cap,Value.int .i64 v0,Value.int .i64 home,Value.int .i64 v2,Value.int .i64 frm,Value.int .i64 to,Value.slice ar m cr] 0/\W1.heap.size<W.heap.size)/\∀x∈pre,zg0 n zs ros home frm x.val<=og6 ros x.val 4)
  (fun c pre W=>(ze8 w W #[Value.int .i64 n,Value.slice a zs.length cap,Value.int .i64 v0,Value.int .i64 home,Value.int .i64 v2,Value.int .i64 frm,Value.int .i64 to,Value.slice ar m cr] 5/\c=.ret)/\∃x∈pre,og6 ros x.val 4<zg0 n zs ros home frm x.val)
  (OwnFrom.and (OwnFrom.and (ze8.own w _ 0 _ HX2.1.size) (fun _ _ _ _ hs hg _=>Nat.lt_of_lt_of_le hs hg.size)) (ownFrom_pure _ _))
  (fun c=>OwnFrom.and (OwnFrom.and (ze8.own w _ 5 _ HX2.1.size) (ownFrom_pure _ _)) (ownFrom_pure _ _))
  ⟨⟨HX2.out,by simp⟩,fun x hx=>by cases hx⟩
  (fun x a' W=>∃Bo Bv,W1.heap.size<Bo/\W1.heap.size<Bv/\W.heap[Bo]? =some (.cells #[.int .i64 (og6 ros x.val 0),.int .i64 (og6 ros x.val 1),.int .i64 (og6 ros x.val 2),.int .i64 (og6 ros x.val 3),.int .i64 (og6 ros x.val 4),.int .i64 (og6 ros x.val 5)] 95 (0,0))/\W.heap[Bv]? =some (.cells #[.int .i64 (og6 ros x.val 0),.int .i64 (zS6 n zs ros home frm x.val),.int .i64 (zg0 n zs ros home frm x.val),.int .i64 (zt8 n zs ros home frm (x.val+1))] 165 (0,0))/\a'={tmps:=#[.agg #[.int .i64 n,.slice a zs.length cap,.int .i64 v0,.int .i64 home,.int .i64 v2,.int .i64 frm,.int .i64 to,.slice ar m cr],.pointer (some ⟨w.heap.size,0,none⟩),.pointer (some ⟨w.heap.size+1,0,none⟩),.pointer (some ⟨Bo,0,none⟩),.pointer (some ⟨Bv,0,none⟩),.agg #[.int .i64 n,.slice a zs.length cap,.int .i64 v0,.int .i64 home,.int .i64 v2,.int .i64 frm,.int .i64 to,.slice ar m cr],.func (.func 148) #[] #[.pointer (some ⟨W1.heap.size,0,none⟩)],.agg #[.int .i64 (og6 ros x.val 0),.int .i64 (og6 ros x.val 1),.int .i64 (og6 ros x.val 2),.int .i64 (og6 ros x.val 3),.int .i64 (og6 ros x.val 4),.int .i64 (og6 ros x.val 5)],.agg #[.int .i64 (og6 ros x.val 0),.int .i64 (zS6 n zs ros home frm x.val),.int .i64 (zg0 n zs ros home frm x.val),.int .i64 (zt8 n zs ros home frm (x.val+1))],undef,undef,undef,undef,undef,undef,undef,undef,undef,undef,undef],defers:=[]})
  (fun x a' _ X Y row hs hg hr=>by
    obtain⟨Bo,Bv,g1,g2,g3,g4,g5⟩:=hs;exact⟨Bo,Bv,g1,g2,zp8 (cs:=fun _:Unit=>_) () X Y row g3 hg hr,zp8 (cs:=fun _:Unit=>_) () X Y row g4 hg hr,g5⟩)
  ?assign ?body ?done ?stop
 case assign=>
  rintro l pre x W K ⟨⟨hi,hsz⟩,hp⟩ hK
  gi_wp2
  refine hK _ _ (((KeepsOthers.alloc _ _).trans (KeepsOthers.alloc _ _)).from _) ((KpT.alloc _ _ hi.1.size).trans (KpT.alloc _ _ (Nat.le_trans hi.1.size (by simp)))) ⟨⟨(hi.below ((Below.refl _ _).alloc (Nat.le_refl _) _)).below ((Below.refl _ _).alloc (Nat.le_refl _) _),by simp;omega⟩,hp⟩ ⟨W.heap.size,W.heap.size+1,hsz,by omega,?_,?_,rfl⟩
  ·exact heap_alloc2_old _ _ _
  ·exact heap_alloc2_new _ _ _
 case body=>
  rintro l pre x a' W hl hlr ⟨⟨hi,hsz⟩,hp⟩ ⟨Bo,Bv,g1,g2,g3,g4,rfl⟩ hlt;have HI:Hid (ze8 w W _ _):=hi;have HP:Hid _:=hp;obtain⟨i0,i1,i2,i3,i4,i5⟩:=zf8 g3;have j2:W.cell? ⟨Bv,2,none⟩=some (.int .i64 (zg0 n zs ros home frm x.val)):=by rw[cell_of_row _ _ 2 _ _ _ g4];simp
  have cc:W.cell? ⟨w.heap.size+1,0,none⟩=some (.int .i64 0):=by rw[cell_of_row _ _ 0 _ _ _ hi.2.2];simp
  have fc:=fun i=>frozen_of_row _ _ i _ _ hi.2.2;clear hi hp g3 g4 i0 i1 i2 i3 i5;by_cases hlate:og6 ros x.val 4<zg0 n zs ros home frm x.val
  ·have HLT:Hid _:=hlate
   gi_wp2
   exact⟨(KeepsOthers.setCell _ _ _).from _,⟨HI.set 5,rfl⟩,x,by simp,HLT.out⟩
  ·have hle:zg0 n zs ros home frm x.val<=og6 ros x.val 4:=by omega
   have HLE:Hid _:=hle;clear hlate
   gi_wp2
   refine⟨KeepsFrom.refl _ _,⟨Below.refl _ _,fun h=>h⟩,⟨HI.out,hsz⟩,fun y hy=> ?_⟩;rcases List.mem_append.1 hy with h|h
   ·exact HP.out y h
   ·obtain rfl:y=x:=by simpa using h
    exact HLE.out
 case done=>
  rintro D ys W hD hS ⟨⟨hi,hsz⟩,hp⟩ hK;have HI:Hid (ze8 w W _ _):=hi;have HK:Hid _:=hK;have HD:Hid _:=Nat.lt_of_lt_of_le (Nat.lt_trans HZ.out (by simp)) hD;have HTM:Hid (zl2 n zs ros home frm m):=fun j hj=>by
   obtain⟨x,hx,rfl⟩:=yt5 hS hj;exact hp x hx
  obtain⟨t0,t1,t2,t3,t4,t5,t6,t7⟩:=zg4 HI.2.1;clear hi hK hD hS hsz hp;obtain⟨d,HDD⟩:=nmd (homeV n zs ros m home frm)
  go_wp2_with fail
  have e0:=fun s:Kin W=>s.cell t0;have e1:=fun s:Kin W=>s.cell t1;have e2:=fun s:Kin W=>s.cell t2;have e3:=fun s:Kin W=>s.cell t3;have e4:=fun s:Kin W=>s.cell t4;have e5:=fun s:Kin W=>s.cell t5;have e6:=fun s:Kin W=>s.cell t6;have e7:=fun s:Kin W=>s.cell t7;have hkin:=Kin.there W;refine zb2 (by kernel_rfl) (by kernel_rfl) ?_
  repeat(go_big_quiet_step ((first
   |(go_at_call 141;exact Kin.call (yq4 n v0 home v2 frm to a ar cap m cr zs ros _ d HDD.out HM.out ((HA.below HI.1).below (Kin.below _)) ((HR.below HI.1).below (Kin.below _)) HL.out HBD.out HH.out HF.out hm12)))))
  refine wpQuiet_nil ?_;rintro _ ⟨s,rfl⟩;have HI2:Hid (ze8 w s.w _ _):=HI.below s.below;have HK2:Hid _:=za1 s.below (Array.getElem?_eq_some_iff.1 HK.out).1 HK.out;clear t0 t1 t2 t3 t4 t5 t6 t7 e0 e1 e2 e3 e4 e5 e6 e7 hkin;generalize s.w=W2 at*;have cc:W2.cell? ⟨w.heap.size+1,0,none⟩=some (.int .i64 0):=by rw[cell_of_row _ _ 0 _ _ _ HI2.2.2];simp
  have fc:=fun i=>frozen_of_row _ _ i _ _ HI2.2.2;by_cases hto:to<d
  ·have HN:Hid _:=HV.symm.trans (z63 HTM.out (by rw[HDD.out];exact hto))
   go_wp2;rw[HN.out];have HI3:=HI2.set 6;have HK3:(W2.setCell ⟨w.heap.size+1,0,none⟩ (.int .i64 6)).heap[D]? =some (.deferred (some [])):=za7 HK2.out (Nat.ne_of_gt HD.out);refine⟨by simp,.inl ⟨_,_,rfl,run_takeDeferred HK3,?_⟩⟩;have hc:=cell_kept (show(W2.setCell ⟨w.heap.size+1,0,none⟩ (.int .i64 6)).cell? ⟨w.heap.size+1,0,none⟩=some (.int .i64 6) by rw[cell_of_row _ _ 0 _ _ _ HI3.2.2];simp) (grownBy_putObj' _ D (.deferred none)) (fun r e=>by cases e;exact⟨_,HK3,rfl⟩);exact⟨_,by simp[results,Tryz.results116,go_sem,hc],rfl,HI3.1.trans (belowK_b (w:=w) (Nat.le_refl _) _ D _ _ (by have:=HD.out;omega) HK3 rfl rfl)⟩
  ·have HN:Hid _:=HV.symm.trans (zI5 HTM.out (by rw[HDD.out];exact hto))
   go_wp2;rw[HN.out];have HI3:=HI2.set 0;have HK3:(W2.setCell ⟨w.heap.size+1,0,none⟩ (.int .i64 0)).heap[D]? =some (.deferred (some [])):=za7 HK2.out (Nat.ne_of_gt HD.out);refine⟨by simp,.inl ⟨_,_,rfl,run_takeDeferred HK3,?_⟩⟩;have hc:=cell_kept (show(W2.setCell ⟨w.heap.size+1,0,none⟩ (.int .i64 0)).cell? ⟨w.heap.size+1,0,none⟩=some (.int .i64 0) by rw[cell_of_row _ _ 0 _ _ _ HI3.2.2];simp) (grownBy_putObj' _ D (.deferred none)) (fun r e=>by cases e;exact⟨_,HK3,rfl⟩);exact⟨_,by simp[results,Tryz.results116,go_sem,hc],rfl,HI3.1.trans (belowK_b (w:=w) (Nat.le_refl _) _ D _ _ (by have:=HD.out;omega) HK3 rfl rfl)⟩
 case stop=>
  rintro D c pre W hD hS ⟨⟨hi,rfl⟩,x,hx,hlate⟩ hK;have HN:Hid _:=HV.symm.trans (z51 x.isLt hlate);have HD:Hid _:=Nat.lt_of_lt_of_le (Nat.lt_trans HZ.out (by simp)) hD;refine wpIn_wide.2 ?_;go_wp2;rw[HN.out];refine⟨by simp,.inl ⟨_,_,rfl,run_takeDeferred hK,?_⟩⟩;have hc:=cell_kept (show W.cell? ⟨w.heap.size+1,0,none⟩=some (.int .i64 5) by rw[cell_of_row _ _ 0 _ _ _ hi.2.2];simp) (grownBy_putObj' _ D (.deferred none)) (fun r e=>by cases e;exact⟨_,hK,rfl⟩);exact⟨_,by simp[results,Tryz.results116,go_sem,hc],rfl,hi.1.trans (belowK_b (w:=w) (Nat.le_refl _) _ D _ _ (by have:=HD.out;omega) hK rfl rfl)⟩
end Go.Proofs.YtjobhigmdaiinaaGreat
namespace Go.Proofs.YtjobhigmdaiinaaGreat
open Go.RowKit
set_option maxHeartbeats 1000000 in
theorem zs5(n fine veh:Int)(a ao av bi:Option Addr)(cap ko co kv cv c2:Nat)(zs os vs ids:List Int)(w:World)(hA:za0 w a zs)(hO:za0 w ao os)(hV:za0 w av vs)(hI:za0 w bi ids)(hlo:os.length=ko*6)(hlv:vs.length=kv*5)(hko:ko<=9223372036854775807)(hkv:kv<=9223372036854775807)(hli:ids.length<=9223372036854775807)(hc2:ids.length<=c2)(hcB:zb8 n zs os vs ko kv fine=true):
 Calls Tryz.prog 77 #[.agg #[.int .i64 n,.slice a zs.length cap,.slice ao ko co,.slice av kv cv,.int .i64 fine],.agg #[.int .i64 veh,.slice bi ids.length c2]] w fun e w'=>Below w.heap.size w w'/\((codeV true n zs os vs ko kv veh ids≠0/\e=.returned (.tuple #[.agg #[Value.int .i64 0,Value.slice none 0 0,Value.int .i64 0,Value.int .i64 0,Value.int .i64 0,Value.int .i64 0,Value.int .i64 0,Value.slice none 0 0],.int .i64 (codeV true n zs os vs ko kv veh ids)]))∨(codeV true n zs os vs ko kv veh ids=0/\∃g,w.heap.size<=g/\e=.returned (.tuple #[.agg #[.int .i64 n,.slice a zs.length cap,.int .i64 (zb5 vs kv veh 0),.int .i64 (zb5 vs kv veh 1),.int .i64 (zb5 vs kv veh 2),.int .i64 (zb5 vs kv veh 3),.int .i64 (zb5 vs kv veh 4),.slice (some ⟨g,0,none⟩) ids.length ids.length],.int .i64 0])/\za0 w' (some ⟨g,0,none⟩) (zc4 os ko ids))):=by
 have HA:Hid (za0 w a zs):=hA;have HO:Hid (za0 w ao os):=hO;have HV:Hid (za0 w av vs):=hV;have HI:Hid (za0 w bi ids):=hI;have HLO:Hid _:=hlo;have HLV:Hid _:=hlv;clear hA hO hV hI hlo hlv;have HC:Hid _:=hcB;clear hcB;have HC0:Hid (CRT w (((w.alloc (.cells #[Value.int .i64 n,Value.slice a zs.length cap,Value.slice ao ko co,Value.slice av kv cv,Value.int .i64 fine] 30)).alloc (.cells #[Value.int .i64 veh,Value.slice bi ids.length c2] 43)).alloc (.cells #[Value.int .i64 0,Value.slice none 0 0,Value.int .i64 0,Value.int .i64 0,Value.int .i64 0,Value.int .i64 0,Value.int .i64 0,Value.slice none 0 0] 60)) _ _ _):=CRT.new w _ _ _;obtain⟨r,HR⟩:=nmd (codeV true n zs os vs ko kv veh ids);rw[HR.out];go_enter Tryz.func77,Tryz.ntmps77;obtain⟨c0,c1,c2',c3,c4⟩:=za8 HC0.out.1.2.1;obtain⟨d0,d1⟩:=za2 HC0.out.1.2.2
 go_wp2_with fail
 clear c0 c1 c2' c3 c4 d0 d1;refine(z89 n fine veh a ao av bi cap ko co kv cv c2 zs os vs ids _ (HA.out.below HC0.out.1.1) (HO.out.below HC0.out.1.1) (HV.out.below HC0.out.1.1) (HI.out.below HC0.out.1.1) HLO.out HLV.out hko hkv hli hc2 HC.out).mono ?_;rintro e w2 ⟨hb,⟨hf,rfl⟩|⟨hf,g,hgg,rfl,hros⟩⟩
 ·have C2:Hid (CRT w (w2.alloc (Obj.cells #[Value.int .i64 0,Value.slice none 0 0,Value.int .i64 0,Value.int .i64 0,Value.int .i64 0,Value.int .i64 0,Value.int .i64 0,Value.slice none 0 0] 60)) _ _ _):=(HC0.out.below hb).alloc _
  have HRV:Hid _:=(zt1 hf).symm.trans HR.out;rw[HRV.out]at hf⊢;have hfb:(r==0)=false:=by simp[hf]
  have hfn:(r !=0)=true:=by simp[hf]
  have HF:Hid (r≠0):=hf;clear hb hf HC0;obtain⟨t0,t1,t2,t3,t4,t5,t6,t7⟩:=zg4 C2.out.2;have tf:=fun i=>frozen_of_row _ _ i _ _ C2.out.2;go_wp2;refine bodyPost_ret (v:=.tuple #[.agg #[Value.int .i64 0,Value.slice none 0 0,Value.int .i64 0,Value.int .i64 0,Value.int .i64 0,Value.int .i64 0,Value.int .i64 0,Value.slice none 0 0],.int .i64 r]) (by simp[results,Tryz.results77,go_sem,t0,t1,t2,t3,t4,t5,t6,t7]) rfl ⟨?_,.inl ⟨HF.out,rfl⟩⟩
  repeat(first|with_reducible exact C2.out.b|refine Below.setCell ?_ (by simp<;>omega) _)
 ·have HFV:Hid _:=hf
  obtain⟨hmat,hords,hvehs,hn1,_⟩:=zc7 HC.out;obtain⟨hvb1,hvb2,hvb3,hvb4⟩:=zp2 hvehs hn1 veh;have HMAT:Hid _:=hmat;have HBD:Hid (zq7 n (zc4 os ko ids) ids.length):=zw9 hords hn1 ids;have h12:=(zf5 (zg2 hf).2.2).1;have HRV:=(zw1 (n:=n) (zs:=zs) hf).symm.trans HR.out;obtain⟨v0,G0⟩:=nmd (zb5 vs kv veh 0);obtain⟨v1,G1⟩:=nmd (zb5 vs kv veh 1);obtain⟨v2,G2⟩:=nmd (zb5 vs kv veh 2);obtain⟨v3,G3⟩:=nmd (zb5 vs kv veh 3);obtain⟨v4,G4⟩:=nmd (zb5 vs kv veh 4);rw[G1.out,G3.out,G4.out]at HRV;rw[G1.out]at hvb1;rw[G3.out]at hvb3;rw[G0.out,G1.out,G2.out,G3.out,G4.out];have HRV':Hid _:=HRV;have HX1:Hid _:=hvb1;have HX3:Hid _:=hvb3;have C2:Hid (CRT w (w2.alloc (Obj.cells #[Value.int .i64 n,Value.slice a zs.length cap,Value.int .i64 v0,Value.int .i64 v1,Value.int .i64 v2,Value.int .i64 v3,Value.int .i64 v4,Value.slice (some ⟨g,0,none⟩) ids.length ids.length] 60)) _ _ _):=(HC0.out.below hb).alloc _;have HRT:Hid ((w2.alloc (Obj.cells #[Value.int .i64 n,Value.slice a zs.length cap,Value.int .i64 v0,Value.int .i64 v1,Value.int .i64 v2,Value.int .i64 v3,Value.int .i64 v4,Value.slice (some ⟨g,0,none⟩) ids.length ids.length] 60)).heap[w2.heap.size]? =_):=heap_alloc_new _ _;have HROS:Hid (za0 (w2.alloc (Obj.cells #[Value.int .i64 n,Value.slice a zs.length cap,Value.int .i64 v0,Value.int .i64 v1,Value.int .i64 v2,Value.int .i64 v3,Value.int .i64 v4,Value.slice (some ⟨g,0,none⟩) ids.length ids.length] 60)) (some ⟨g,0,none⟩) (zc4 os ko ids)):=za0.below hros ((Below.refl _ _).alloc (Nat.le_refl _) _);have HGT:Hid _:=za3 (HC0.out.below hb).2;have HGG:Hid _:=Nat.lt_of_lt_of_le (za3 HC0.out.2) hgg;clear hb hf hros HC0 hgg hmat hords hvehs hn1 hvb1 hvb2 hvb3 hvb4 HRV;obtain⟨t0,t1,t2,t3,t4,t5,t6,t7⟩:=zg4 HRT.out
  go_wp2_with fail
  clear t0 t1 t2 t3 t4 t5 t6 t7;generalize w2.alloc (Obj.cells #[Value.int .i64 n,Value.slice a zs.length cap,Value.int .i64 v0,Value.int .i64 v1,Value.int .i64 v2,Value.int .i64 v3,Value.int .i64 v4,Value.slice (some ⟨g,0,none⟩) ids.length ids.length] 60)=W2 at*;generalize w2.heap.size=gt at*;refine(zD1 n v0 v1 v2 v3 v4 a _ cap ids.length _ zs (zc4 os ko ids) W2 HMAT.out (HA.out.below C2.out.1.1) HROS.out (zg6 os ko ids) HBD.out HX1.out HX3.out h12).mono ?_;rintro e w3 ⟨rfl,hb⟩;rw[HRV'.out];have C3:Hid (CRT w w3 _ _ _):=C2.out.below hb;have HRT3:Hid (w3.heap[gt]? =_):=za1 hb (za3 HRT.out) HRT.out;have HROS3:Hid (za0 w3 (some ⟨g,0,none⟩) (zc4 os ko ids)):=HROS.out.below hb;clear hb C2 HRT HROS;obtain⟨t0,t1,t2,t3,t4,t5,t6,t7⟩:=zg4 C3.out.2;have tf:=fun i=>frozen_of_row _ _ i _ _ C3.out.2;by_cases hr:r=0
  ·have hfn:(r !=0)=false:=by simp[hr]
   have HF:Hid _:=hr;clear hr;obtain⟨s0,s1,s2,s3,s4,s5,s6,s7⟩:=zg4 HRT3.out;go_wp2;refine bodyPost_ret (v:=.tuple #[.agg #[Value.int .i64 n,Value.slice a zs.length cap,Value.int .i64 v0,Value.int .i64 v1,Value.int .i64 v2,Value.int .i64 v3,Value.int .i64 v4,Value.slice (some ⟨g,0,none⟩) ids.length ids.length],.int .i64 0]) (by simp[results,Tryz.results77,go_sem,t0,t1,t2,t3,t4,t5,t6,t7]) rfl ⟨?_,.inr ⟨HF.out,g,by have:=HGG.out;omega,?_,?_⟩⟩
   ·repeat(first|with_reducible exact C3.out.b|refine Below.setCell ?_ (by simp<;>omega) _)
   ·rw[G0.out,G1.out,G2.out,G3.out,G4.out]
   ·repeat(first|with_reducible exact HROS3.out|with_reducible refine zF9 ?_ (by have:=HGG.out;omega))
  ·have hfn:(r !=0)=true:=by simp[hr]
   have HF:Hid (r≠0):=hr;clear hr;go_wp2;refine bodyPost_ret (v:=.tuple #[.agg #[Value.int .i64 0,Value.slice none 0 0,Value.int .i64 0,Value.int .i64 0,Value.int .i64 0,Value.int .i64 0,Value.int .i64 0,Value.slice none 0 0],.int .i64 r]) (by simp[results,Tryz.results77,go_sem,t0,t1,t2,t3,t4,t5,t6,t7]) rfl ⟨?_,.inl ⟨HF.out,rfl⟩⟩
   repeat(first|with_reducible exact C3.out.b|refine Below.setCell ?_ (by simp<;>omega) _)
set_option maxHeartbeats 1000000 in
theorem z09(n v0 home v2 frm to:Int)(a ar:Option Addr)(cap m cr:Nat)(zs ros:List Int)(w:World)(hm:zm2 n zs=true)(hA:za0 w a zs)(hR:za0 w ar ros)(hl:ros.length=m*6)(hbd:zq7 n ros m)(hh:0<=home/\home<n)(hm12:m<=12):
 Calls Tryz.prog 78 #[.agg #[.int .i64 n,.slice a zs.length cap,.int .i64 v0,.int .i64 home,.int .i64 v2,.int .i64 frm,.int .i64 to,.slice ar m cr]] w fun e w'=>e=.returned (.int .i64 (zn3 n zs ros m home))/\Below w.heap.size w w':=by
 have HM:Hid _:=hm;have HA:Hid (za0 w a zs):=hA;have HR:Hid (za0 w ar ros):=hR;have HL:Hid _:=hl;have HBD:Hid (zq7 n ros m):=hbd;have HH:Hid _:=hh;clear hm hA hR hl hbd hh;obtain⟨r,HV⟩:=nmd (zn3 n zs ros m home);rw[HV.out];have HB0:Hid (Below w.heap.size w (w.alloc (Obj.cells #[Value.int .i64 n,Value.slice a zs.length cap,Value.int .i64 v0,Value.int .i64 home,Value.int .i64 v2,Value.int .i64 frm,Value.int .i64 to,Value.slice ar m cr] 60))):=(Below.refl _ _).alloc (Nat.le_refl _) _;have HP0:Hid ((w.alloc (Obj.cells #[Value.int .i64 n,Value.slice a zs.length cap,Value.int .i64 v0,Value.int .i64 home,Value.int .i64 v2,Value.int .i64 frm,Value.int .i64 to,Value.slice ar m cr] 60)).heap[w.heap.size]? =_):=heap_alloc_new _ _;go_enter Tryz.func78,Tryz.ntmps78;obtain⟨t0,t1,t2,t3,t4,t5,t6,t7⟩:=zg4 HP0.out
 go_wp2_with fail
 clear t0 t1 t2 t3 t4 t5 t6 t7;generalize w.alloc (Obj.cells #[Value.int .i64 n,Value.slice a zs.length cap,Value.int .i64 v0,Value.int .i64 home,Value.int .i64 v2,Value.int .i64 frm,Value.int .i64 to,Value.slice ar m cr] 60)=W1 at*;go_loopw[3,4,13] (fun pl sm t wr=>∃k:Nat,k<=m/\t=.int .i64 k/\pl=.int .i64 (plc ros home k)/\sm=.int .i64 (zm3 n zs ros home k)/\Below w.heap.size w wr/\wr.heap[w.heap.size]? =some (.cells #[Value.int .i64 n,Value.slice a zs.length cap,Value.int .i64 v0,Value.int .i64 home,Value.int .i64 v2,Value.int .i64 frm,Value.int .i64 to,Value.slice ar m cr] 60 (0,0))) (fun _ _ t _=>m - (intOf t).toNat)
 case atStart=>exact⟨0,Nat.zero_le _,rfl,rfl,rfl,HB0.out,HP0.out⟩
 case round=>
  clear HB0 HP0;obtain⟨k,hk,rfl,rfl,rfl,hb,hp⟩:=hrel;have hpl:=zJ7 HBD.out HH.1 HH.2 k hk;have hcb:=zw7 (ros:=ros) (home:=home) HM.out k;have HB:Hid _:=hb;have HP:Hid (wr.heap[w.heap.size]? =_):=hp;obtain⟨t0,t1,t2,t3,t4,t5,t6,t7⟩:=zg4 hp;obtain⟨p,HPL⟩:=nmd (plc ros home k);obtain⟨f,HFR⟩:=nmd (zm3 n zs ros home k);rw[HPL.out]at hpl;rw[HFR.out]at hcb;rw[HPL.out,HFR.out];have HPB:Hid _:=hpl;clear hb hp hpl;by_cases hlt:k<m
  ·obtain⟨b,off,rfl,hcs⟩:=za0.some (za0.below HR.out HB.out) (j:=k*6) (by rw[HL.out];omega)
   obtain⟨r0,r1,r2,r3,r4,r5⟩:=zq3 hcs HL.out k hlt;clear hcs;have HO1:Hid _:=(HBD.out k hlt).1;obtain⟨o0,H0⟩:=nmd (og6 ros k 0);obtain⟨o1,H1⟩:=nmd (og6 ros k 1);obtain⟨o2,H2⟩:=nmd (og6 ros k 2);obtain⟨o3,H3⟩:=nmd (og6 ros k 3);obtain⟨o4,H4⟩:=nmd (og6 ros k 4);obtain⟨o5,H5⟩:=nmd (og6 ros k 5);rw[H1.out]at HO1;rw[H0.out]at r0;rw[H1.out]at r1;rw[H2.out]at r2;rw[H3.out]at r3;rw[H4.out]at r4;rw[H5.out]at r5;obtain⟨d,HD⟩:=nmd (tmI n zs p o1);have hdb:=zr5 HM.out p o1;rw[HD.out]at hdb;have HNX:Hid (zm3 n zs ros home (k+1)=f+d):=by
    show _=_;simp only[zm3];rw[HFR.out,HPL.out,H1.out,HD.out]
   have HBA:Hid (Below w.heap.size w (wr.alloc (Obj.cells #[Value.int .i64 o0,Value.int .i64 o1,Value.int .i64 o2,Value.int .i64 o3,Value.int .i64 o4,Value.int .i64 o5] 95))):=HB.alloc HB.size _;have HPA:Hid ((wr.alloc (Obj.cells #[Value.int .i64 o0,Value.int .i64 o1,Value.int .i64 o2,Value.int .i64 o3,Value.int .i64 o4,Value.int .i64 o5] 95)).heap[w.heap.size]? =_):=(heap_alloc_old _ _ (za3 HP.out)).trans HP.out;have HRO:Hid ((wr.alloc (Obj.cells #[Value.int .i64 o0,Value.int .i64 o1,Value.int .i64 o2,Value.int .i64 o3,Value.int .i64 o4,Value.int .i64 o5] 95)).heap[wr.heap.size]? =_):=heap_alloc_new _ _;obtain⟨i0,i1,i2,i3,i4,i5⟩:=zf8 HRO.out;obtain⟨s0,s1,s2,s3,s4,s5,s6,s7⟩:=zg4 HPA.out
   go_wp2_with fail
   clear r0 r1 r2 r3 r4 r5 t0 t1 t2 t3 t4 t5 t6 t7 i0 i1 i2 i3 i4 i5 s0 s1 s2 s3 s4 s5 s6 s7;generalize wr.alloc (Obj.cells #[Value.int .i64 o0,Value.int .i64 o1,Value.int .i64 o2,Value.int .i64 o3,Value.int .i64 o4,Value.int .i64 o5] 95)=W2 at*;generalize wr.heap.size=g at*;refine(z21 n p o1 v0 home v2 frm to _ _ _ _ _ zs _ d HD.out HM.out HPB.out HO1.out (HA.below HBA.out)).mono ?_;rintro e W3 ⟨rfl,hb3⟩;have HB3:Hid _:=HBA.trans (hb3.mono HBA.size);have HP3:Hid (W3.heap[w.heap.size]? =_):=za1 hb3 (za3 HPA.out) HPA.out;have HR3:Hid (W3.heap[g]? =_):=za1 hb3 (za3 HRO.out) HRO.out;clear hb3 HBA HPA HRO;obtain⟨i0,i1,i2,i3,i4,i5⟩:=zf8 HR3.out;go_wp2;go_roundw
   case rel=>exact⟨k+1,by omega,by go_num,by rw[<-H1.out];rfl,by rw[HNX.out],HB3.out,HP3.out⟩
   case measure=>simp[intOf];omega
  ·have hkl:k=m:=by omega
   have HE:Hid (r=f+tmI n zs p home):=by
    have:=HV.out;unfold zn3 at this;rw[<-hkl,HFR.out,HPL.out]at this;exact this.symm
   clear hkl;obtain⟨d,HD⟩:=nmd (tmI n zs p home);have hdb:=zr5 HM.out p home;rw[HD.out]at hdb HE
   go_wp2_with fail
   refine(z21 n p home v0 home v2 frm to _ _ _ _ _ zs _ d HD.out HM.out HPB.out HH.out (HA.below HB.out)).mono ?_;rintro e W3 ⟨rfl,hb3⟩;have HB3:Hid _:=HB.trans (hb3.mono HB.size);clear hb3;go_wp2;go_ret;exact⟨zm7 HE.symm,HB3.out⟩
set_option maxHeartbeats 1000000 in
theorem zx1(n fine veh:Int)(a ao av bi:Option Addr)(cap ko co kv cv c2:Nat)(zs os vs ids:List Int)(w:World)(hA:za0 w a zs)(hO:za0 w ao os)(hV:za0 w av vs)(hI:za0 w bi ids)(hlo:os.length=ko*6)(hlv:vs.length=kv*5)(hko:ko<=9223372036854775807)(hkv:kv<=9223372036854775807)(hli:ids.length<=9223372036854775807)(hc2:ids.length<=c2)(hcB:zb8 n zs os vs ko kv fine=true)(ok:Bool)(hok:decide (codeV true n zs os vs ko kv veh ids=0)=ok)(r:Int)(hr:rcV n zs os vs ko kv veh ids=r):
 Calls Tryz.prog 79 #[.agg #[.int .i64 n,.slice a zs.length cap,.slice ao ko co,.slice av kv cv,.int .i64 fine],.agg #[.int .i64 veh,.slice bi ids.length c2]] w fun e w'=>e=.returned (.tuple #[.int .i64 r,.bool ok])/\Below w.heap.size w w':=by
 have HA:Hid (za0 w a zs):=hA;have HO:Hid (za0 w ao os):=hO;have HV:Hid (za0 w av vs):=hV;have HI:Hid (za0 w bi ids):=hI;have HLO:Hid _:=hlo;have HLV:Hid _:=hlv;have HC:Hid _:=hcB;have HR:Hid _:=hr;have HK:Hid _:=hok;clear hA hO hV hI hlo hlv hcB hr hok;have HC0:Hid (CR w ((w.alloc (.cells #[Value.int .i64 n,Value.slice a zs.length cap,Value.slice ao ko co,Value.slice av kv cv,Value.int .i64 fine] 30)).alloc (.cells #[Value.int .i64 veh,Value.slice bi ids.length c2] 43)) _ _):=CR.new w _ _;go_enter Tryz.func79,Tryz.ntmps79;obtain⟨c0,c1,c2',c3,c4⟩:=za8 HC0.2.1;obtain⟨d0,d1⟩:=za2 HC0.2.2
 go_wp2_with fail
 clear c0 c1 c2' c3 c4 d0 d1;refine(zs5 n fine veh a ao av bi cap ko co kv cv c2 zs os vs ids _ (HA.below HC0.1) (HO.below HC0.1) (HV.below HC0.1) (HI.below HC0.1) HLO.out HLV.out hko hkv hli hc2 HC.out).mono ?_;rintro e w2 ⟨hb,⟨hf,rfl⟩|⟨hf,g,_,rfl,hros⟩⟩
 ·have HB2:Hid _:=HC0.1.trans (hb.mono HC0.1.size)
  have HV1:Hid (r=0):=HR.symm.trans (ym3 hf);have HK1:Hid (ok=false):=HK.symm.trans (decide_eq_false hf);obtain⟨fv,HFV⟩:=nmd (codeV true n zs os vs ko kv veh ids);rw[HFV.out]at hf⊢;have hfb:(fv !=0)=true:=by simp[hf]
  clear hb hf;go_wp2;go_ret2;refine⟨?_,HB2.alloc HB2.size _⟩;rw[HV1.out,HK1.out];rfl
 ·have HB2:Hid _:=HC0.1.trans (hb.mono HC0.1.size)
  have hst:=(zg2 (zi3 hf).1).2.2;obtain⟨hmat,hords,hvehs,hn1,_⟩:=zc7 HC.out;obtain⟨hvb1,hvb2,hvb3,hvb4⟩:=zp2 hvehs hn1 veh;have HMAT:Hid _:=hmat;have HBD:Hid (zq7 n (zc4 os ko ids) ids.length):=zw9 hords hn1 ids;have h12:=(zf5 hst).1;have HV1:=(z52 hf).symm.trans HR.out;have HK1:Hid (ok=true):=HK.symm.trans (decide_eq_true hf);obtain⟨v0,G0⟩:=nmd (zb5 vs kv veh 0);obtain⟨v1,G1⟩:=nmd (zb5 vs kv veh 1);obtain⟨v2,G2⟩:=nmd (zb5 vs kv veh 2);obtain⟨v3,G3⟩:=nmd (zb5 vs kv veh 3);obtain⟨v4,G4⟩:=nmd (zb5 vs kv veh 4);rw[G1.out]at HV1 hvb1;rw[G0.out,G1.out,G2.out,G3.out,G4.out];have HV1':Hid _:=HV1;have HX1:Hid _:=hvb1;have HBA:Hid (Below w.heap.size w (w2.alloc (Obj.cells #[Value.int .i64 n,Value.slice a zs.length cap,Value.int .i64 v0,Value.int .i64 v1,Value.int .i64 v2,Value.int .i64 v3,Value.int .i64 v4,Value.slice (some ⟨g,0,none⟩) ids.length ids.length] 60))):=HB2.alloc HB2.size _;have HRT:Hid ((w2.alloc (Obj.cells #[Value.int .i64 n,Value.slice a zs.length cap,Value.int .i64 v0,Value.int .i64 v1,Value.int .i64 v2,Value.int .i64 v3,Value.int .i64 v4,Value.slice (some ⟨g,0,none⟩) ids.length ids.length] 60)).heap[w2.heap.size]? =_):=heap_alloc_new _ _;have HROS:Hid (za0 (w2.alloc (Obj.cells #[Value.int .i64 n,Value.slice a zs.length cap,Value.int .i64 v0,Value.int .i64 v1,Value.int .i64 v2,Value.int .i64 v3,Value.int .i64 v4,Value.slice (some ⟨g,0,none⟩) ids.length ids.length] 60)) (some ⟨g,0,none⟩) (zc4 os ko ids)):=za0.below hros ((Below.refl _ _).alloc (Nat.le_refl _) _);clear hb hf hros HC0 hmat hords hvehs hn1 hvb1 hvb2 hvb3 hvb4 HV1 hst;obtain⟨t0,t1,t2,t3,t4,t5,t6,t7⟩:=zg4 HRT.out
  go_wp2_with fail
  clear t0 t1 t2 t3 t4 t5 t6 t7;refine(z09 n v0 v1 v2 v3 v4 a _ cap ids.length _ zs (zc4 os ko ids) _ HMAT.out (HA.below HBA.out) HROS.out (zg6 os ko ids) HBD.out HX1.out h12).mono ?_;rintro e w3 ⟨rfl,hb⟩;rw[HV1'.out];have HB3:Hid _:=HBA.trans (hb.mono HBA.size);clear hb;go_wp2;go_ret2;refine⟨?_,HB3.out⟩;rw[HK1.out];rfl
set_option maxHeartbeats 1000000 in
theorem z58(n fine veh:Int)(a ao av bi:Option Addr)(cap ko co kv cv c2:Nat)(zs os vs ids:List Int)(w:World)(hA:za0 w a zs)(hO:za0 w ao os)(hV:za0 w av vs)(hI:za0 w bi ids)(hlo:os.length=ko*6)(hlv:vs.length=kv*5)(hko:ko<=9223372036854775807)(hkv:kv<=9223372036854775807)(hli:ids.length<=9223372036854775807)(hc2:ids.length<=c2):
 Calls Tryz.prog 32 #[.agg #[.int .i64 n,.slice a zs.length cap,.slice ao ko co,.slice av kv cv,.int .i64 fine],.agg #[.int .i64 veh,.slice bi ids.length c2]] w fun e w'=>Below w.heap.size w w'/\((codeV (zb8 n zs os vs ko kv fine) n zs os vs ko kv veh ids≠0/\e=.returned (.tuple #[.agg #[Value.int .i64 0,Value.slice none 0 0,Value.int .i64 0,Value.int .i64 0,Value.int .i64 0,Value.int .i64 0,Value.int .i64 0,Value.slice none 0 0],.int .i64 (codeV (zb8 n zs os vs ko kv fine) n zs os vs ko kv veh ids)]))∨(codeV (zb8 n zs os vs ko kv fine) n zs os vs ko kv veh ids=0/\∃g,w.heap.size<=g/\e=.returned (.tuple #[.agg #[.int .i64 n,.slice a zs.length cap,.int .i64 (zb5 vs kv veh 0),.int .i64 (zb5 vs kv veh 1),.int .i64 (zb5 vs kv veh 2),.int .i64 (zb5 vs kv veh 3),.int .i64 (zb5 vs kv veh 4),.slice (some ⟨g,0,none⟩) ids.length ids.length],.int .i64 0])/\za0 w' (some ⟨g,0,none⟩) (zc4 os ko ids))):=by
 have HA:Hid (za0 w a zs):=hA;have HO:Hid (za0 w ao os):=hO;have HV:Hid (za0 w av vs):=hV;have HI:Hid (za0 w bi ids):=hI;have HLO:Hid _:=hlo;have HLV:Hid _:=hlv;clear hA hO hV hI hlo hlv;have HC0:Hid (CRT w (((w.alloc (.cells #[Value.int .i64 n,Value.slice a zs.length cap,Value.slice ao ko co,Value.slice av kv cv,Value.int .i64 fine] 30)).alloc (.cells #[Value.int .i64 veh,Value.slice bi ids.length c2] 43)).alloc (.cells #[Value.int .i64 0,Value.slice none 0 0,Value.int .i64 0,Value.int .i64 0,Value.int .i64 0,Value.int .i64 0,Value.int .i64 0,Value.slice none 0 0] 60)) _ _ _):=CRT.new w _ _ _;obtain⟨r,HR⟩:∃r,Hid (codeV (zb8 n zs os vs ko kv fine) n zs os vs ko kv veh ids=r):=⟨_,rfl⟩;rw[HR.out];go_enter Tryz.func32,Tryz.ntmps32;obtain⟨c0,c1,c2',c3,c4⟩:=za8 HC0.out.1.2.1
 go_wp2_with fail
 clear c0 c1 c2' c3 c4;refine(z05 n fine a ao av cap ko co kv cv zs os vs _ (HA.out.below HC0.out.1.1) (HO.out.below HC0.out.1.1) (HV.out.below HC0.out.1.1) HLO.out HLV.out hko hkv).mono ?_;rintro e w1 ⟨rfl,hb⟩;have C1:Hid (CRT w w1 _ _ _):=HC0.out.below hb;clear hb HC0;cases hc:zb8 n zs os vs ko kv fine
 ·have hfv:zi9 (zb8 n zs os vs ko kv fine) vs os kv ko veh ids=1:=zY9 hc
  have HV1:Hid (r=1):=HR.out.symm.trans ((zt1 (by rw[hfv];decide)).trans hfv);clear hfv;obtain⟨t0,t1,t2,t3,t4,t5,t6,t7⟩:=zg4 C1.out.2;have tf:=fun i=>frozen_of_row _ _ i _ _ C1.out.2;go_wp2;refine bodyPost_ret (v:=.tuple #[.agg #[Value.int .i64 0,Value.slice none 0 0,Value.int .i64 0,Value.int .i64 0,Value.int .i64 0,Value.int .i64 0,Value.int .i64 0,Value.slice none 0 0],.int .i64 1]) (by simp[results,Tryz.results32,go_sem,t0,t1,t2,t3,t4,t5,t6,t7]) rfl ⟨?_,.inl ⟨by rw[HV1.out];decide,by rw[HV1.out]⟩⟩
  repeat(first|with_reducible exact C1.out.b|refine Below.setCell ?_ (by simp<;>omega) _)
 ·have HC:Hid (zb8 n zs os vs ko kv fine=true):=hc
  clear hc;have HR':Hid (codeV true n zs os vs ko kv veh ids=r):=by
   have:=HR.out;rw[HC.out]at this;exact this
  obtain⟨c0,c1,c2',c3,c4⟩:=za8 C1.out.1.2.1;obtain⟨d0,d1⟩:=za2 C1.out.1.2.2
  go_wp2_with fail
  clear c0 c1 c2' c3 c4 d0 d1;refine(zs5 n fine veh a ao av bi cap ko co kv cv c2 zs os vs ids _ (HA.out.below C1.out.1.1) (HO.out.below C1.out.1.1) (HV.out.below C1.out.1.1) (HI.out.below C1.out.1.1) HLO.out HLV.out hko hkv hli hc2 HC.out).mono ?_;rintro e w2 ⟨hb,⟨hf,rfl⟩|⟨hf,g,hgg,rfl,hros⟩⟩
  ·have C2:Hid (CRT w w2 _ _ _):=C1.out.below hb
   rw[HR'.out]at hf⊢;have HF:Hid (r≠0):=hf;clear hb hf C1;obtain⟨t0,t1,t2,t3,t4,t5,t6,t7⟩:=zg4 C2.out.2;have tf:=fun i=>frozen_of_row _ _ i _ _ C2.out.2;go_wp2;refine bodyPost_ret (v:=.tuple #[.agg #[Value.int .i64 0,Value.slice none 0 0,Value.int .i64 0,Value.int .i64 0,Value.int .i64 0,Value.int .i64 0,Value.int .i64 0,Value.slice none 0 0],.int .i64 r]) (by simp[results,Tryz.results32,go_sem,t0,t1,t2,t3,t4,t5,t6,t7]) rfl ⟨?_,.inl ⟨HF.out,rfl⟩⟩
   repeat(first|with_reducible exact C2.out.b|refine Below.setCell ?_ (by simp<;>omega) _)
  ·have C2:Hid (CRT w w2 _ _ _):=C1.out.below hb
   rw[HR'.out]at hf;have HF:Hid (r=0):=hf;have HROS:Hid (za0 w2 (some ⟨g,0,none⟩) (zc4 os ko ids)):=hros;have HGG:Hid (w.heap.size+2<g):=Nat.lt_of_lt_of_le (za3 C1.out.2) hgg;clear hb hf C1 hros hgg;obtain⟨v0,G0⟩:∃t,Hid (zb5 vs kv veh 0=t):=⟨_,rfl⟩;obtain⟨v1,G1⟩:∃t,Hid (zb5 vs kv veh 1=t):=⟨_,rfl⟩;obtain⟨v2,G2⟩:∃t,Hid (zb5 vs kv veh 2=t):=⟨_,rfl⟩;obtain⟨v3,G3⟩:∃t,Hid (zb5 vs kv veh 3=t):=⟨_,rfl⟩;obtain⟨v4,G4⟩:∃t,Hid (zb5 vs kv veh 4=t):=⟨_,rfl⟩;rw[G0.out,G1.out,G2.out,G3.out,G4.out];obtain⟨t0,t1,t2,t3,t4,t5,t6,t7⟩:=zg4 C2.out.2;have tf:=fun i=>frozen_of_row _ _ i _ _ C2.out.2;go_wp2;refine bodyPost_ret (v:=.tuple #[.agg #[Value.int .i64 n,Value.slice a zs.length cap,Value.int .i64 v0,Value.int .i64 v1,Value.int .i64 v2,Value.int .i64 v3,Value.int .i64 v4,Value.slice (some ⟨g,0,none⟩) ids.length ids.length],.int .i64 0]) (by simp[results,Tryz.results32,go_sem,t0,t1,t2,t3,t4,t5,t6,t7]) rfl ⟨?_,.inr ⟨HF.out,g,by have:=HGG.out;omega,?_,?_⟩⟩
   ·repeat(first|with_reducible exact C2.out.b|refine Below.setCell ?_ (by simp<;>omega) _)
   ·rw[G0.out,G1.out,G2.out,G3.out,G4.out]
   ·repeat(first|with_reducible exact HROS.out|with_reducible refine zF9 ?_ (by have:=HGG.out;omega))
end Go.Proofs.YtjobhigmdaiinaaGreat
