import Derived.Test.YtkchnomkiboihaaGreatPack6
import Derived.Test.YtkchnomkiboihaaGreatPack11
set_option linter.unusedSimpArgs false
set_option maxHeartbeats 2000000
namespace Go.Proofs.YtkchnomkiboihaaGreat
open Q
theorem qA:type_of% @Go.World.ownsRow_nil:=@Go.World.ownsRow_nil
theorem qB:type_of% @Go.IntWalk.i64_in:=@Go.IntWalk.i64_in
theorem qC:type_of% @of_decide_eq_false:=@of_decide_eq_false
end Go.Proofs.YtkchnomkiboihaaGreat
namespace Go.Proofs.YtkchnomkiboihaaGreat
open Value renaming slice→za,int→zc
open IntKind renaming i64→zb
open Obj renaming cells→zd
open Proofs.Tryz renaming prog→ze
open Go renaming World→zg
open Go.RowKit
open Q
theorem yf3(n fine veh:Int)(a ao av bi:Option Addr)(cap ko co kv cv c2:Nat)(zs os vs ids:List Int)(w:zg)(hA:za3 w a zs)(hO:za3 w ao os)(hV:za3 w av vs)(hI:za3 w bi ids)(hlo:os.length=ko*6)(hlv:vs.length=kv*5)(hko:ko<=9223372036854775807)(hkv:kv<=9223372036854775807)(hli:ids.length<=9223372036854775807)(hc2:ids.length<=c2)(hcB:zc8 n zs os vs ko kv fine=true)(p q:Nat)(ok:Bool)(ids':List Int)
 (hhow:∀W,Below w.heap.size w W->ids.length<=12->Calls ze 180 #[za bi ids.length c2,.pointer (some ⟨p,0,none⟩),.pointer (some ⟨q,0,none⟩)] W (yD8 W ok ids')) (ch:Bool) (hch:chB true n zs os vs ko kv veh ids ok ids'=ch) (D:Int) (hD:chD ch n zs os vs ko kv veh ids ids'=D) (xs:List Int) (hxs:chL ch ids'=xs):
 Calls ze 159 #[.agg #[zc zb n,za a zs.length cap,za ao ko co,za av kv cv,zc zb fine],.agg #[zc zb veh,za bi ids.length c2],.func (.func 180) #[] #[.pointer (some ⟨p,0,none⟩),.pointer (some ⟨q,0,none⟩)]] w (yo4 w ch veh D xs):=by
 have HA:=za4 hA;have HO:=za4 hO;have HV:=za4 hV;have HI:=za4 hI;have HLO:Hid _:=hlo;have HLV:Hid _:=hlv;clear hA hO hV hI hlo hlv;have HC:=za4 hcB;have HCh:=za4 hch;have HD:=za4 hD;have HXs:=za4 hxs;have HW:=za4 hhow;clear hcB hch hD hxs hhow;have C0:Hid (CRR w (((w.alloc (zd #[zc zb n,za a zs.length cap,za ao ko co,za av kv cv,zc zb fine] 30)).alloc (zd #[zc zb veh,za bi ids.length c2] 80)).alloc (zd #[zc zb 0,za none 0 0] 80)) _ _ _):=CRR.new w _ _ _;obtain⟨o1,HO1⟩:=nmd (decide (codeV true n zs os vs ko kv veh ids=0));obtain⟨q1,HQ1⟩:=nmd (rcV n zs os vs ko kv veh ids);obtain⟨o2,HO2⟩:=nmd (decide (codeV true n zs os vs ko kv veh ids'=0));obtain⟨q2,HQ2⟩:=nmd (rcV n zs os vs ko kv veh ids');have hq1:=yA2 (zb3 HC.X).1 os vs ko kv veh ids;have hq2:=yA2 (zb3 HC.X).1 os vs ko kv veh ids';rw[HQ1.X]at hq1;rw[HQ2.X]at hq2;go_enter Tryz.func159,Tryz.ntmps159;obtain⟨c0,c1,c2',c3,c4⟩:=za7 C0.X.1.2.1;obtain⟨d0,d1⟩:=za1 C0.X.1.2.2
 go_wp2_with fail
 clear c0 c1 c2' c3 c4 d0 d1;refine(zp5 n fine veh a ao av bi cap ko co kv cv c2 zs os vs ids _ (HA.X.below C0.X.b) (HO.X.below C0.X.b) (HV.X.below C0.X.b) (HI.X.below C0.X.b) HLO.X HLV.X hko hkv hli hc2 HC.X o1 HO1.X q1 HQ1.X).mono ?_;rintro e w1 ⟨rfl,hb⟩;have C1:=za4 (C0.X.below hb);clear hb C0;cases o1
 ·have HCH:Hid (ch=false):=HCh.X.symm.trans (yi0 (qC HO1.X) _ _)
  have HX:Hid (xs=[]):=HXs.X.symm.trans (by rw[HCH.X];rfl);have HDD:Hid (D=0):=HD.X.symm.trans (by rw[HCH.X];rfl);obtain⟨t0,t1⟩:=za1 C1.X.2;have tf:=fun i=>yU _ _ i _ _ C1.X.2;go_wp2;refine yX (v:=.tuple #[.agg #[zc zb 0,za none 0 0],zc zb 0,.bool false]) (by simp[results,Tryz.results159,go_sem,t0,t1]) rfl ⟨?_,none,0,?_,?_⟩
  ·repeat(first|with_reducible exact C1.X.b|refine xd ?_ (by simp<;>omega) _)
  ·rw[HCH.X,HDD.X,HX.X];rfl
  ·rw[HX.X];exact qA _ _ _ _
 ·have hz1:codeV true n zs os vs ko kv veh ids=0:=zX HO1.X
  have HZ1:=za4 hz1;clear hz1;have h12:=zk7 HZ1.X;obtain⟨d0,d1⟩:=za1 C1.X.1.2.2
  go_wp2_with fail
  clear d0 d1;refine(HW.X w1 C1.X.b h12).mono ?_;rintro e w2 ⟨hb,⟨rfl,rfl⟩|⟨rfl,g,cg,rfl,ho⟩⟩
  ·have C2:Hid (CRR w w2 _ _ _):=C1.X.below hb
   clear hb C1;have HCH:Hid (ch=false):=HCh.X.symm.trans (yf2 rfl _);have HX:Hid (xs=[]):=HXs.X.symm.trans (by rw[HCH.X];rfl);have HDD:Hid (D=0):=HD.X.symm.trans (by rw[HCH.X];rfl);obtain⟨t0,t1⟩:=za1 C2.X.2;have tf:=fun i=>yU _ _ i _ _ C2.X.2;go_wp2;refine yX (v:=.tuple #[.agg #[zc zb 0,za none 0 0],zc zb 0,.bool false]) (by simp[results,Tryz.results159,go_sem,t0,t1]) rfl ⟨?_,none,0,?_,?_⟩
   ·repeat(first|with_reducible exact C2.X.b|refine xd ?_ (by simp<;>omega) _)
   ·rw[HCH.X,HDD.X,HX.X];rfl
   ·rw[HX.X];exact qA _ _ _ _
  ·have C2:Hid (CRR w w2 _ _ _):=C1.X.below hb
   have LG:Hid (w.heap.size+2<w1.heap.size):=C1.X.big;have O2:=za4 ho;obtain⟨_,_,e1,hlg,_,hcg,_,_⟩:=Go.Lib.holds_of_ownsRow (enc:=zc zb) ho (by simp);simp at e1;obtain⟨rfl,rfl⟩:=e1;have HG:=za4 hlg;have hli':ids'.length<=9223372036854775807:=by
    have:=(Go.Lib.holds_of_ownsRow (enc:=zc zb) ho (by simp));obtain⟨_,_,e1,_,_,h1,h2,_⟩:=this;simp at e1;obtain⟨rfl,rfl⟩:=e1;unfold maxLen at h2;omega
   clear hb ho C1 hlg;have C3:Hid (CRR w (w2.alloc (zd #[zc zb veh,za (some ⟨g,0,none⟩) ids'.length cg] 80)) _ _ _):=C2.X.alloc _;have N3:Hid ((w2.alloc (zd #[zc zb veh,za (some ⟨g,0,none⟩) ids'.length cg] 80)).heap[w2.heap.size]? =_):=zN _ _;have O3:Hid ((w2.alloc (zd #[zc zb veh,za (some ⟨g,0,none⟩) ids'.length cg] 80)).ownsRow w1.heap.size 2 1 _ ids'.length _):=O2.X.alloc _;obtain⟨d0,d1⟩:=za1 C2.X.1.2.2;obtain⟨c0,c1,c2',c3,c4⟩:=za7 C3.X.1.2.1;obtain⟨n0,n1⟩:=za1 N3.X;clear O2
   go_wp2_with fail
   clear d0 d1 c0 c1 c2' c3 c4 n0 n1;refine(zp5 n fine veh a ao av (some ⟨g,0,none⟩) cap ko co kv cv cg zs os vs ids' _ (HA.X.below C3.X.b) (HO.X.below C3.X.b) (HV.X.below C3.X.b) (ze9 O3.X) HLO.X HLV.X hko hkv hli' hcg HC.X o2 HO2.X q2 HQ2.X).mono ?_;rintro e w3 ⟨rfl,hb⟩;have C4:=za4 (C3.X.below hb);have N4:=za4 (za0 hb (za2 N3.X) N3.X);have O4:=za4 (zc5 O3.X hb);clear hb C2 C3 N3 O3;cases o2
   ·have HCH:Hid (ch=false):=HCh.X.symm.trans (yc4 _ (qC HO2.X))
    have HX:Hid (xs=[]):=HXs.X.symm.trans (by rw[HCH.X];rfl);have HDD:Hid (D=0):=HD.X.symm.trans (by rw[HCH.X];rfl);obtain⟨t0,t1⟩:=za1 C4.X.2;have tf:=fun i=>yU _ _ i _ _ C4.X.2;go_wp2;refine yX (v:=.tuple #[.agg #[zc zb 0,za none 0 0],zc zb 0,.bool false]) (by simp[results,Tryz.results159,go_sem,t0,t1]) rfl ⟨?_,none,0,?_,?_⟩
    ·repeat(first|with_reducible exact C4.X.b|refine xd ?_ (by simp<;>omega) _)
    ·rw[HCH.X,HDD.X,HX.X];rfl
    ·rw[HX.X];exact qA _ _ _ _
   ·have HCH:Hid (ch=true):=HCh.X.symm.trans (yf0 HZ1.X rfl (zX HO2.X))
    have HX:Hid (xs=ids'):=HXs.X.symm.trans (by rw[HCH.X];rfl);have HDD:Hid (D=q2 - q1):=HD.X.symm.trans (by rw[HCH.X,<-HQ1.X,<-HQ2.X];rfl);obtain⟨t0,t1⟩:=za1 C4.X.2;obtain⟨n0,n1⟩:=za1 N4.X;have tf:=fun i=>yU _ _ i _ _ C4.X.2;go_wp2;refine yX (v:=.tuple #[.agg #[zc zb veh,za (some ⟨g,0,none⟩) ids'.length cg],zc zb (q2 - q1),.bool true]) (by simp[results,Tryz.results159,go_sem,t0,t1]) rfl ⟨?_,some ⟨g,0,none⟩,cg,?_,?_⟩
    ·repeat(first|with_reducible exact C4.X.b|refine xd ?_ (by simp<;>omega) _)
    ·rw[HCH.X,HDD.X,HX.X];rfl
    ·rw[HX.X];exact zc4 (zm5 (zm5 O4.X LG.X) LG.X) (by have:=LG.X;omega)
def plB(c:Bool)(n:Int)(zs os vs:List Int)(ko kv:Nat)(veh:Int)(ids:List Int)(id:Int)(k:Nat):Bool:=chB c n zs os vs ko kv veh ids (inB (k:Int) 0 (ids.length:Int)) (insL ids k id)
def plD(c:Bool)(n:Int)(zs os vs:List Int)(ko kv:Nat)(veh:Int)(ids:List Int)(id:Int)(k:Nat):Int:=chD (plB c n zs os vs ko kv veh ids id k) n zs os vs ko kv veh ids (insL ids k id)
def bpV(c:Bool)(n:Int)(zs os vs:List Int)(ko kv:Nat)(veh:Int)(ids:List Int)(id:Int):PS:=pst (plB c n zs os vs ko kv veh ids id) (plD c n zs os vs ko kv veh ids id) (ids.length+1)
def yh6(k:Nat):List Int:=(List.range k).map (fun i:Nat=>(i:Int))
theorem yc6(k:Nat):(yh6 k).length=k:=by simp[yh6]
theorem yw4(k:Nat):yh6 (k+1)=yh6 k++[(k:Int)]:=by simp[yh6,yG]
theorem yB7{m k:Nat}(h:k<m):(yh6 m).getD k 0=(k:Int):=by simp[yh6,List.getD,h]
def PWF(w W:zg)(rs:Array Value)(sl:Value)(k:Nat)(xs:List Value):Prop:=Below w.heap.size w W/\W.heap[w.heap.size]? =some (.cells rs 80 (0,0))/\W.ownsRow (w.heap.size+1) 2 1 sl k xs
theorem PWF.b{w W:zg}{rs:Array Value}{sl:Value}{k:Nat}{xs:List Value}(h:PWF w W rs sl k xs):Below w.heap.size w W:=h.1
theorem PWF.o{w W:zg}{rs:Array Value}{sl:Value}{k:Nat}{xs:List Value}(h:PWF w W rs sl k xs):W.ownsRow (w.heap.size+1) 2 1 sl k xs:=h.2.2
theorem PWF.r{w W:zg}{rs:Array Value}{sl:Value}{k:Nat}{xs:List Value}(h:PWF w W rs sl k xs):W.heap[w.heap.size]? =some (.cells rs 80 (0,0)):=h.2.1
theorem PWF.size{w W:zg}{rs:Array Value}{sl:Value}{k:Nat}{xs:List Value}(h:PWF w W rs sl k xs):w.heap.size+1<=W.heap.size:=za2 h.2.1
theorem PWF.grown{w W W':zg}{rs:Array Value}{sl sl':Value}{k k':Nat}{xs xs':List Value}{o:Obj}(h:PWF w W rs sl k xs)(hg:(W.alloc o).grownBy W' sl.ownBlock)(ho:W'.ownsRow (w.heap.size+1) 2 1 sl' k' xs'):PWF w W' rs sl' k' xs':=by
 have hA:Below w.heap.size w (W.alloc o):=h.1.alloc h.1.size _;have hr:(W.alloc o).heap[w.heap.size]? =some (.cells rs 80 (0,0)):=(yY _ _ (za2 h.2.1)).trans h.2.1;refine⟨hA.grown hg hA.size (fun k e=>by have:=(h.o.lt k e).1;omega),?_,ho⟩;exact(hg.block _ (za2 hr) (fun e=>by have:=(h.o.lt _ e.symm).1;omega)).trans hr
theorem y85(k:Nat):(yh6 (k+1)).map (zc zb)=(yh6 k).map (zc zb)++[zc zb (k:Int)]:=by rw[yw4,xX];rfl
theorem zO1(veh:Int)(bi:Option Addr)(c2 m:Nat)(w:zg)(h12:m<=12):
 Calls ze 152 #[.agg #[zc zb veh,za bi m c2]] w fun e w'=>∃g c,e=.returned (za (some ⟨g,0,none⟩) (m+1) c)/\Below w.heap.size w w'/\za3 w' (some ⟨g,0,none⟩) (yh6 (m+1))/\w.heap.size<=g:=by
 have R0:Hid ((w.alloc (zd #[zc zb veh,za bi m c2] 80)).heap[w.heap.size]? =some (zd #[zc zb veh,za bi m c2] 80 (0,0))):=zN _ _;have hwr:IntKind.i64.wrap ((m:Int)+1)=(m:Int)+1:=qB _ (by omega);go_enter Tryz.func152,Tryz.ntmps152;obtain⟨d0,d1⟩:=za1 R0.X
 go_wp2_with(first
  |(refine yx8 _ rfl _ _ rfl (w.heap.size+1) _ _ ((m:Int)+1) (m+1) rfl rfl (by omega) (by omega) (by simp) ?_
    intro w1 hown hg;have O1:Hid (PWF w w1 #[zc zb veh,za bi m c2] (.slice (some ⟨(w.alloc (zd #[zc zb veh,za bi m c2] 80)).heap.size,0,none⟩) 0 (m+1)) 0 []):=⟨((yV w.heap.size w).alloc (zQ _) _).grown hg (by simp) (fun k e=>by cases e),(hg.block _ (by simp) (by simp)).trans (zN _ _),hown⟩;clear hown hg d0 d1;obtain⟨d0,d1⟩:=za1 O1.r))
 go_loopw[3,14] (fun sl t wr=>∃k:Nat,k<=m+1/\t=zc zb k/\PWF w wr #[zc zb veh,za bi m c2] sl k ((yh6 k).map (zc zb))/\sl≠za none 0 0) (fun _ t _=>m+1 - (intOf t).toNat)
 case atStart=>exact⟨0,yZ _,rfl,by simpa[yh6]using O1.X,by simp⟩
 case round=>
  clear O1 R0 d0 d1;obtain⟨k,hk,rfl,ho,hne⟩:=hrel;have HO:=za4 ho;clear ho;by_cases hlt:k<m+1
  ·have hlt':(k:Int)<(m:Int)+1:=by omega
   have hwk:IntKind.i64.wrap ((k:Int)+1)=((k+1:Nat):Int):=by rw[qB _ (by omega)];omega
   have HNE:=za4 hne;clear hne
   go_wp2_with(first
    |(at_builtin
      refine yn7 _ rfl _ _ rfl (w.heap.size+1) u3 k _ rfl (HO.o.alloc _) _ _ (zc zb (k:Int)) rfl (zt8 _ _ _ _ (by simp)) rfl (by omega) (y7 HO.size (by simp)) ?_;intro v' w4 hown hg;have NE4:Hid (v'≠za none 0 0):=by
       intro e;rw[e]at hown;have hz:=hown.2;rcases hz with⟨_,h0⟩|⟨_,_,_,e2,_⟩
       ·simp at h0
       ·cases e2
      have O4:Hid (PWF w w4 #[zc zb veh,za bi m c2] v' (k+1) ((yh6 (k+1)).map (zc zb))):=HO.grown hg (by rw[y85];exact hown);clear hown hg))
   go_roundw
   case rel=>exact⟨k+1,by omega,by first|rfl|go_num,O4.X,NE4.X⟩
   case measure=>simp[intOf];omega
  ·have hkn:k=m+1:=by omega
   subst hkn;have hlt':¬((m:Int)+1<(m:Int)+1):=by omega
   obtain⟨g,c,rfl⟩:∃g c,u3=za (some ⟨g,0,none⟩) (m+1) c:=by
    rcases zu0 HO.o with h|h
    ·exact absurd h hne
    ·exact h
   clear hne;go_wp2;go_ret;exact⟨g,⟨c,rfl⟩,HO.b,ze9 HO.o,by have:=(HO.o.lt g rfl).1;omega⟩
