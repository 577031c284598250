import Derived.Test.YtjobhigmdaiinaaGreatPack1
import Derived.Test.YtjobhigmdaiinaaGreatPack4
import Derived.Test.YtjobhigmdaiinaaGreatPack22
import Derived.Test.YtjobhigmdaiinaaGreatPack28
namespace Go.Proofs.YtjobhigmdaiinaaGreat
end Go.Proofs.YtjobhigmdaiinaaGreat
namespace Go.Proofs.YtjobhigmdaiinaaGreat
open Go.RowKit
set_option maxHeartbeats 2000000 in
theorem z47(n fine veh:Int)(a ao av bi:Option Addr)(cap ko co kv cv c2:Nat)(zs os vs ids:List Int)(w:World)(hA:za0 w a zs)(hO:za0 w ao os)(hV:za0 w av vs)(hI:za0 w bi ids)(hlo:os.length=ko*6)(hlv:vs.length=kv*5)(hko:ko<=9223372036854775807)(hkv:kv<=9223372036854775807)(hli:ids.length<=9223372036854775807)(hc2:ids.length<=c2)(hcB:zb8 n zs os vs ko kv fine=true)(p q:Nat)(ok:Bool)(ids':List Int)
 (hhow:∀W,Below w.heap.size w W->ids.length<=12->Calls Tryz.prog 80 #[.slice bi ids.length c2,.pointer (some ⟨p,0,none⟩),.pointer (some ⟨q,0,none⟩)] W (yp7 W ok ids')) (ch:Bool) (hch:chB true n zs os vs ko kv veh ids ok ids'=ch) (D:Int) (hD:chD ch n zs os vs ko kv veh ids ids'=D) (xs:List Int) (hxs:chL ch ids'=xs):
 Calls Tryz.prog 36 #[.agg #[.int .i64 n,.slice a zs.length cap,.slice ao ko co,.slice av kv cv,.int .i64 fine],.agg #[.int .i64 veh,.slice bi ids.length c2],.func (.func 80) #[] #[.pointer (some ⟨p,0,none⟩),.pointer (some ⟨q,0,none⟩)]] w (zK0 w ch veh D xs):=by
 have HA:Hid (za0 w a zs):=hA;have HO:Hid (za0 w ao os):=hO;have HV:Hid (za0 w av vs):=hV;have HI:Hid (za0 w bi ids):=hI;have HLO:Hid _:=hlo;have HLV:Hid _:=hlv;clear hA hO hV hI hlo hlv;have HC:Hid (zb8 n zs os vs ko kv fine=true):=hcB;have HCh:Hid (chB true n zs os vs ko kv veh ids ok ids'=ch):=hch;have HD:Hid (chD ch n zs os vs ko kv veh ids ids'=D):=hD;have HXs:Hid (chL ch ids'=xs):=hxs;have HW:Hid (∀W,Below w.heap.size w W->ids.length<=12->Calls Tryz.prog 80 #[.slice bi ids.length c2,.pointer (some ⟨p,0,none⟩),.pointer (some ⟨q,0,none⟩)] W (yp7 W ok ids')):=hhow;clear hcB hch hD hxs hhow;have C0:Hid (CRR w (((w.alloc (.cells #[Value.int .i64 n,Value.slice a zs.length cap,Value.slice ao ko co,Value.slice av kv cv,Value.int .i64 fine] 30)).alloc (.cells #[Value.int .i64 veh,Value.slice bi ids.length c2] 43)).alloc (.cells #[Value.int .i64 0,Value.slice none 0 0] 43)) _ _ _):=CRR.new w _ _ _;obtain⟨o1,HO1⟩:=nmd (decide (codeV true n zs os vs ko kv veh ids=0));obtain⟨q1,HQ1⟩:=nmd (rcV n zs os vs ko kv veh ids);obtain⟨o2,HO2⟩:=nmd (decide (codeV true n zs os vs ko kv veh ids'=0));obtain⟨q2,HQ2⟩:=nmd (rcV n zs os vs ko kv veh ids');have hq1:=yn1 (zc7 HC.out).1 os vs ko kv veh ids;have hq2:=yn1 (zc7 HC.out).1 os vs ko kv veh ids';rw[HQ1.out]at hq1;rw[HQ2.out]at hq2;go_enter Tryz.func36,Tryz.ntmps36;obtain⟨c0,c1,c2',c3,c4⟩:=za8 C0.out.1.2.1;obtain⟨d0,d1⟩:=za2 C0.out.1.2.2
 go_wp2_with fail
 clear c0 c1 c2' c3 c4 d0 d1;refine(zx1 n fine veh a ao av bi cap ko co kv cv c2 zs os vs ids _ (HA.out.below C0.out.b) (HO.out.below C0.out.b) (HV.out.below C0.out.b) (HI.out.below C0.out.b) HLO.out HLV.out hko hkv hli hc2 HC.out o1 HO1.out q1 HQ1.out).mono ?_;rintro e w1 ⟨rfl,hb⟩;have C1:Hid (CRR w w1 _ _ _):=C0.out.below hb;clear hb C0;cases o1
 ·have HCH:Hid (ch=false):=HCh.out.symm.trans (zD5 (of_decide_eq_false HO1.out) _ _)
  have HX:Hid (xs=[]):=HXs.out.symm.trans (by rw[HCH.out];rfl);have HDD:Hid (D=0):=HD.out.symm.trans (by rw[HCH.out];rfl);obtain⟨t0,t1⟩:=za2 C1.out.2;have tf:=fun i=>frozen_of_row _ _ i _ _ C1.out.2;go_wp2;refine bodyPost_ret (v:=.tuple #[.agg #[Value.int .i64 0,Value.slice none 0 0],.int .i64 0,.bool false]) (by simp[results,Tryz.results36,go_sem,t0,t1]) rfl ⟨?_,none,0,?_,?_⟩
  ·repeat(first|with_reducible exact C1.out.b|refine Below.setCell ?_ (by simp<;>omega) _)
  ·rw[HCH.out,HDD.out,HX.out];rfl
  ·rw[HX.out];exact World.ownsRow_nil _ _ _ _
 ·have hz1:codeV true n zs os vs ko kv veh ids=0:=of_decide_eq_true HO1.out
  have HZ1:Hid (codeV true n zs os vs ko kv veh ids=0):=hz1;clear hz1;have h12:=zr2 HZ1.out;obtain⟨d0,d1⟩:=za2 C1.out.1.2.2
  go_wp2_with fail
  clear d0 d1;refine(HW.out w1 C1.out.b h12).mono ?_;rintro e w2 ⟨hb,⟨rfl,rfl⟩|⟨rfl,g,cg,rfl,ho⟩⟩
  ·have C2:Hid (CRR w w2 _ _ _):=C1.out.below hb
   clear hb C1;have HCH:Hid (ch=false):=HCh.out.symm.trans (zO9 rfl _);have HX:Hid (xs=[]):=HXs.out.symm.trans (by rw[HCH.out];rfl);have HDD:Hid (D=0):=HD.out.symm.trans (by rw[HCH.out];rfl);obtain⟨t0,t1⟩:=za2 C2.out.2;have tf:=fun i=>frozen_of_row _ _ i _ _ C2.out.2;go_wp2;refine bodyPost_ret (v:=.tuple #[.agg #[Value.int .i64 0,Value.slice none 0 0],.int .i64 0,.bool false]) (by simp[results,Tryz.results36,go_sem,t0,t1]) rfl ⟨?_,none,0,?_,?_⟩
   ·repeat(first|with_reducible exact C2.out.b|refine Below.setCell ?_ (by simp<;>omega) _)
   ·rw[HCH.out,HDD.out,HX.out];rfl
   ·rw[HX.out];exact World.ownsRow_nil _ _ _ _
  ·have C2:Hid (CRR w w2 _ _ _):=C1.out.below hb
   have LG:Hid (w.heap.size+2<w1.heap.size):=C1.out.big;have O2:Hid (w2.ownsRow w1.heap.size 2 1 _ ids'.length _):=ho;obtain⟨_,_,e1,hlg,_,hcg,_,_⟩:=Go.Lib.holds_of_ownsRow (enc:=Value.int .i64) ho (by simp);simp at e1;obtain⟨rfl,rfl⟩:=e1;have HG:Hid (w1.heap.size<=g):=hlg;have hli':ids'.length<=9223372036854775807:=by
    have:=(Go.Lib.holds_of_ownsRow (enc:=Value.int .i64) ho (by simp));obtain⟨_,_,e1,_,_,h1,h2,_⟩:=this;simp at e1;obtain⟨rfl,rfl⟩:=e1;unfold maxLen at h2;omega
   clear hb ho C1 hlg;have C3:Hid (CRR w (w2.alloc (Obj.cells #[Value.int .i64 veh,Value.slice (some ⟨g,0,none⟩) ids'.length cg] 43)) _ _ _):=C2.out.alloc _;have N3:Hid ((w2.alloc (Obj.cells #[Value.int .i64 veh,Value.slice (some ⟨g,0,none⟩) ids'.length cg] 43)).heap[w2.heap.size]? =_):=heap_alloc_new _ _;have O3:Hid ((w2.alloc (Obj.cells #[Value.int .i64 veh,Value.slice (some ⟨g,0,none⟩) ids'.length cg] 43)).ownsRow w1.heap.size 2 1 _ ids'.length _):=O2.out.alloc _;obtain⟨d0,d1⟩:=za2 C2.out.1.2.2;obtain⟨c0,c1,c2',c3,c4⟩:=za8 C3.out.1.2.1;obtain⟨n0,n1⟩:=za2 N3.out;clear O2
   go_wp2_with fail
   clear d0 d1 c0 c1 c2' c3 c4 n0 n1;refine(zx1 n fine veh a ao av (some ⟨g,0,none⟩) cap ko co kv cv cg zs os vs ids' _ (HA.out.below C3.out.b) (HO.out.below C3.out.b) (HV.out.below C3.out.b) (zd2 O3.out) HLO.out HLV.out hko hkv hli' hcg HC.out o2 HO2.out q2 HQ2.out).mono ?_;rintro e w3 ⟨rfl,hb⟩;have C4:Hid (CRR w w3 _ _ _):=C3.out.below hb;have N4:Hid (w3.heap[w2.heap.size]? =_):=za1 hb (za3 N3.out) N3.out;have O4:Hid (w3.ownsRow w1.heap.size 2 1 _ ids'.length _):=zc2 O3.out hb;clear hb C2 C3 N3 O3;cases o2
   ·have HCH:Hid (ch=false):=HCh.out.symm.trans (zM4 _ (of_decide_eq_false HO2.out))
    have HX:Hid (xs=[]):=HXs.out.symm.trans (by rw[HCH.out];rfl);have HDD:Hid (D=0):=HD.out.symm.trans (by rw[HCH.out];rfl);obtain⟨t0,t1⟩:=za2 C4.out.2;have tf:=fun i=>frozen_of_row _ _ i _ _ C4.out.2;go_wp2;refine bodyPost_ret (v:=.tuple #[.agg #[Value.int .i64 0,Value.slice none 0 0],.int .i64 0,.bool false]) (by simp[results,Tryz.results36,go_sem,t0,t1]) rfl ⟨?_,none,0,?_,?_⟩
    ·repeat(first|with_reducible exact C4.out.b|refine Below.setCell ?_ (by simp<;>omega) _)
    ·rw[HCH.out,HDD.out,HX.out];rfl
    ·rw[HX.out];exact World.ownsRow_nil _ _ _ _
   ·have HCH:Hid (ch=true):=HCh.out.symm.trans (zN5 HZ1.out rfl (of_decide_eq_true HO2.out))
    have HX:Hid (xs=ids'):=HXs.out.symm.trans (by rw[HCH.out];rfl);have HDD:Hid (D=q2 - q1):=HD.out.symm.trans (by rw[HCH.out,<-HQ1.out,<-HQ2.out];rfl);obtain⟨t0,t1⟩:=za2 C4.out.2;obtain⟨n0,n1⟩:=za2 N4.out;have tf:=fun i=>frozen_of_row _ _ i _ _ C4.out.2;go_wp2;refine bodyPost_ret (v:=.tuple #[.agg #[.int .i64 veh,.slice (some ⟨g,0,none⟩) ids'.length cg],.int .i64 (q2 - q1),.bool true]) (by simp[results,Tryz.results36,go_sem,t0,t1]) rfl ⟨?_,some ⟨g,0,none⟩,cg,?_,?_⟩
    ·repeat(first|with_reducible exact C4.out.b|refine Below.setCell ?_ (by simp<;>omega) _)
    ·rw[HCH.out,HDD.out,HX.out];rfl
    ·rw[HX.out];exact zb7 (ze5 (ze5 O4.out LG.out) LG.out) (by have:=LG.out;omega)
def plB(c:Bool)(n:Int)(zs os vs:List Int)(ko kv:Nat)(veh:Int)(ids:List Int)(id:Int)(k:Nat):Bool:=chB c n zs os vs ko kv veh ids (inB (k:Int) 0 (ids.length:Int)) (insL ids k id)
def plD(c:Bool)(n:Int)(zs os vs:List Int)(ko kv:Nat)(veh:Int)(ids:List Int)(id:Int)(k:Nat):Int:=chD (plB c n zs os vs ko kv veh ids id k) n zs os vs ko kv veh ids (insL ids k id)
def bpV(c:Bool)(n:Int)(zs os vs:List Int)(ko kv:Nat)(veh:Int)(ids:List Int)(id:Int):PS:=pst (plB c n zs os vs ko kv veh ids id) (plD c n zs os vs ko kv veh ids id) (ids.length+1)
theorem yr0{c:Bool}{n:Int}{zs os vs:List Int}{ko kv:Nat}{veh:Int}{ids:List Int}{id:Int}(h:codeV c n zs os vs ko kv veh ids≠0)(k:Nat):plB c n zs os vs ko kv veh ids id k=false:=zD5 h _ _
def z81(k:Nat):List Int:=(List.range k).map (fun i:Nat=>(i:Int))
theorem z61(k:Nat):(z81 k).length=k:=by simp[z81]
theorem yc9(k:Nat):z81 (k+1)=z81 k++[(k:Int)]:=by simp[z81,List.range_succ]
theorem yb5{m k:Nat}(h:k<m):(z81 m).getD k 0=(k:Int):=by simp[z81,List.getD,h]
def PWF(w W:World)(rs:Array Value)(sl:Value)(k:Nat)(xs:List Value):Prop:=Below w.heap.size w W/\W.heap[w.heap.size]? =some (.cells rs 43 (0,0))/\W.ownsRow (w.heap.size+1) 2 1 sl k xs
theorem PWF.b{w W:World}{rs:Array Value}{sl:Value}{k:Nat}{xs:List Value}(h:PWF w W rs sl k xs):Below w.heap.size w W:=h.1
theorem PWF.o{w W:World}{rs:Array Value}{sl:Value}{k:Nat}{xs:List Value}(h:PWF w W rs sl k xs):W.ownsRow (w.heap.size+1) 2 1 sl k xs:=h.2.2
theorem PWF.r{w W:World}{rs:Array Value}{sl:Value}{k:Nat}{xs:List Value}(h:PWF w W rs sl k xs):W.heap[w.heap.size]? =some (.cells rs 43 (0,0)):=h.2.1
theorem PWF.size{w W:World}{rs:Array Value}{sl:Value}{k:Nat}{xs:List Value}(h:PWF w W rs sl k xs):w.heap.size+1<=W.heap.size:=za3 h.2.1
theorem PWF.grown{w W W':World}{rs:Array Value}{sl sl':Value}{k k':Nat}{xs xs':List Value}{o:Obj}(h:PWF w W rs sl k xs)(hg:(W.alloc o).grownBy W' sl.ownBlock)(ho:W'.ownsRow (w.heap.size+1) 2 1 sl' k' xs'):PWF w W' rs sl' k' xs':=by
 have hA:Below w.heap.size w (W.alloc o):=h.1.alloc h.1.size _;have hr:(W.alloc o).heap[w.heap.size]? =some (.cells rs 43 (0,0)):=(heap_alloc_old _ _ (za3 h.2.1)).trans h.2.1;refine⟨hA.grown hg hA.size (fun k e=>by have:=(h.o.lt k e).1;omega),?_,ho⟩;exact(hg.block _ (za3 hr) (fun e=>by have:=(h.o.lt _ e.symm).1;omega)).trans hr
theorem yl0(k:Nat):(z81 (k+1)).map (Value.int .i64)=(z81 k).map (Value.int .i64)++[.int .i64 (k:Int)]:=by rw[yc9,List.map_append];rfl
set_option maxHeartbeats 1000000 in
theorem zw4(veh:Int)(bi:Option Addr)(c2 m:Nat)(w:World)(h12:m<=12):
 Calls Tryz.prog 34 #[.agg #[.int .i64 veh,.slice bi m c2]] w fun e w'=>∃g c,e=.returned (.slice (some ⟨g,0,none⟩) (m+1) c)/\Below w.heap.size w w'/\za0 w' (some ⟨g,0,none⟩) (z81 (m+1))/\w.heap.size<=g:=by
 have R0:Hid ((w.alloc (.cells #[Value.int .i64 veh,Value.slice bi m c2] 43)).heap[w.heap.size]? =some (.cells #[Value.int .i64 veh,Value.slice bi m c2] 43 (0,0))):=heap_alloc_new _ _;have hwr:IntKind.i64.wrap ((m:Int)+1)=(m:Int)+1:=IntWalk.i64_in _ (by omega);go_enter Tryz.func34,Tryz.ntmps34;obtain⟨d0,d1⟩:=za2 R0.out
 go_wp2_with(first
  |(refine zY2 _ rfl _ _ rfl (w.heap.size+1) _ _ ((m:Int)+1) (m+1) rfl rfl (by omega) (by omega) (by simp) ?_
    intro w1 hown hg;have O1:Hid (PWF w w1 #[Value.int .i64 veh,Value.slice bi m c2] (.slice (some ⟨(w.alloc (Obj.cells #[Value.int .i64 veh,Value.slice bi m c2] 43)).heap.size,0,none⟩) 0 (m+1)) 0 []):=⟨((Below.refl w.heap.size w).alloc (Nat.le_refl _) _).grown hg (by simp) (fun k e=>by cases e),(hg.block _ (by simp) (by simp)).trans (heap_alloc_new _ _),hown⟩;clear hown hg d0 d1;obtain⟨d0,d1⟩:=za2 O1.r))
 go_loopw[3,14] (fun sl t wr=>∃k:Nat,k<=m+1/\t=.int .i64 k/\PWF w wr #[Value.int .i64 veh,Value.slice bi m c2] sl k ((z81 k).map (Value.int .i64))/\sl≠.slice none 0 0) (fun _ t _=>m+1 - (intOf t).toNat)
 case atStart=>exact⟨0,Nat.zero_le _,rfl,by simpa[z81]using O1.out,by simp⟩
 case round=>
  clear O1 R0 d0 d1;obtain⟨k,hk,rfl,ho,hne⟩:=hrel;have HO:Hid (PWF w wr #[Value.int .i64 veh,Value.slice bi m c2] u3 k ((z81 k).map (Value.int .i64))):=ho;clear ho;by_cases hlt:k<m+1
  ·have hlt':(k:Int)<(m:Int)+1:=by omega
   have hwk:IntKind.i64.wrap ((k:Int)+1)=((k+1:Nat):Int):=by rw[IntWalk.i64_in _ (by omega)];omega
   have HNE:Hid (u3≠.slice none 0 0):=hne;clear hne
   go_wp2_with(first
    |(at_builtin
      refine zU0 _ rfl _ _ rfl (w.heap.size+1) u3 k _ rfl (HO.o.alloc _) _ _ (.int .i64 (k:Int)) rfl (zl7 _ _ _ _ (by simp)) rfl (by omega) (Nat.le_trans HO.size (by simp)) ?_;intro v' w4 hown hg;have NE4:Hid (v'≠.slice none 0 0):=by
       intro e;rw[e]at hown;have hz:=hown.2;rcases hz with⟨_,h0⟩|⟨_,_,_,e2,_⟩
       ·simp at h0
       ·cases e2
      have O4:Hid (PWF w w4 #[Value.int .i64 veh,Value.slice bi m c2] v' (k+1) ((z81 (k+1)).map (Value.int .i64))):=HO.grown hg (by rw[yl0];exact hown);clear hown hg))
   go_roundw
   case rel=>exact⟨k+1,by omega,by first|rfl|go_num,O4.out,NE4.out⟩
   case measure=>simp[intOf];omega
  ·have hkn:k=m+1:=by omega
   subst hkn;have hlt':¬((m:Int)+1<(m:Int)+1):=by omega
   obtain⟨g,c,rfl⟩:∃g c,u3=.slice (some ⟨g,0,none⟩) (m+1) c:=by
    rcases zk3 HO.o with h|h
    ·exact absurd h hne
    ·exact h
   clear hne;go_wp2;go_ret;exact⟨g,⟨c,rfl⟩,HO.b,zd2 HO.o,by have:=(HO.o.lt g rfl).1;omega⟩
theorem zF0(veh:Int)(bi:Option Addr)(c2 m:Nat)(w:World)(h12:m<=12):
 Calls Tryz.prog 34 #[.agg #[.int .i64 veh,.slice bi m c2]] w fun e w'=>∃g c,e=.returned (.slice (some ⟨g,0,none⟩) (m+1) c)/\Below w.heap.size w w'/\za0 w' (some ⟨g,0,none⟩) (z81 (m+1)):=
 (zw4 veh bi c2 m w h12).mono fun _ _ ⟨g,c,h1,h2,h3,_⟩=>⟨g,c,h1,h2,h3⟩
set_option maxHeartbeats 2000000 in
theorem z82(b c pc pr pid m:Nat)(ok:Nat->Bool)(dl:Nat->Int)(w:World)(hI:za0 w (some ⟨b,0,none⟩) (z81 m))(hl:m<=1000)
 (hcl:∀(W:World) (i:Nat),Below w.heap.size w W->Calls Tryz.prog 35 #[.int .i64 (i:Int),.pointer (some ⟨pc,0,none⟩),.pointer (some ⟨pr,0,none⟩),.pointer (some ⟨pid,0,none⟩)] W fun e w'=>e=.returned (.tuple #[.int .i64 (dl i),.bool (ok i)])/\Below W.heap.size W w')
 (s0:PS) (hs0:pst ok dl m=s0):
 Calls Tryz.prog 33 #[.slice (some ⟨b,0,none⟩) m c,.func (.func 35) #[] #[.pointer (some ⟨pc,0,none⟩),.pointer (some ⟨pr,0,none⟩),.pointer (some ⟨pid,0,none⟩)]] w fun e w'=>e=.returned (.tuple #[.int .i64 (s0.i:Int),.int .i64 s0.v,.bool s0.f])/\Below w.heap.size w w':=by
 have HI:Hid (za0 w (some ⟨b,0,none⟩) (z81 m)):=hI;have HC:Hid (∀(W:World) (i:Nat),Below w.heap.size w W->Calls Tryz.prog 35 #[.int .i64 (i:Int),.pointer (some ⟨pc,0,none⟩),.pointer (some ⟨pr,0,none⟩),.pointer (some ⟨pid,0,none⟩)] W fun e w'=>e=.returned (.tuple #[.int .i64 (dl i),.bool (ok i)])/\Below W.heap.size W w'):=hcl;have HS0:Hid (pst ok dl m=s0):=hs0;clear hI hcl hs0;go_enter Tryz.func33,Tryz.ntmps33
 go_wp2_with fail
 go_loopw[7,8,9,16] (fun tb tv tf t wr=>∃k:Nat,k<=m/\t=.int .i64 k/\tb=.int .i64 ((pst ok dl k).i:Int)/\tv=.int .i64 (pst ok dl k).v/\tf=.bool (pst ok dl k).f/\Below w.heap.size w wr) (fun _ _ _ t _=>m - (intOf t).toNat)
 case atStart=>exact⟨0,Nat.zero_le _,rfl,rfl,rfl,rfl,Below.refl _ _⟩
 case round=>
  obtain⟨k,hk,rfl,rfl,rfl,rfl,hL⟩:=hrel;by_cases hlt:k<m
  ·have f0:wr.cell? ⟨b,0+k,none⟩=some (.int .i64 (k:Int)):=zn0 (HI.out.below hL) (by rw[z61];exact hlt) (yb5 hlt)
   rw[Nat.zero_add]at f0;have HN:Hid (pst ok dl (k+1)=z83 ok dl (pst ok dl k) k):=rfl;obtain⟨s,HS⟩:∃t,Hid (pst ok dl k=t):=⟨_,rfl⟩;rw[HS.out]at HN⊢;have L1:Hid (Below w.heap.size w wr):=hL;clear hL;obtain⟨sf,si,sv⟩:=s;simp only at HN⊢;obtain⟨D,HDD⟩:∃t,Hid (dl k=t):=⟨_,rfl⟩;obtain⟨o,HOO⟩:∃t,Hid (ok k=t):=⟨_,rfl⟩;have hkl:(k:Int)<(m:Int):=by omega
   have hwk:IntKind.i64.wrap ((k:Int)+1)=((k+1:Nat):Int):=by rw[IntWalk.i64_in _ (by omega)];omega
   go_wp2_with fail
   clear f0;refine(HC.out wr k L1.out).mono ?_;rintro e w2 ⟨rfl,hb⟩;rw[HDD.out,HOO.out];have L3:Hid (Below w.heap.size w w2):=L1.out.trans (hb.mono L1.out.size);clear hb;cases o
   ·have HNS:Hid (pst ok dl (k+1)=⟨sf,si,sv⟩):=HN.out.trans (z78 HOO.out)
    go_wp2;go_roundw
    case rel=>exact⟨k+1,by omega,by first|rfl|go_num,by rw[HNS.out],by rw[HNS.out],by rw[HNS.out],L3.out⟩
    case measure=>simp[intOf];omega
   ·cases sf
    ·have HNS:Hid (pst ok dl (k+1)=⟨true,k,D⟩):=HN.out.trans (by rw[<-HDD.out];exact zJ1 HOO.out rfl)
     go_wp2;go_roundw
     case rel=>exact⟨k+1,by omega,by first|rfl|go_num,by rw[HNS.out],by rw[HNS.out],by rw[HNS.out],L3.out⟩
     case measure=>simp[intOf];omega
    ·by_cases hdv:D<sv
     ·have HNS:Hid (pst ok dl (k+1)=⟨true,k,D⟩):=HN.out.trans (by rw[<-HDD.out];exact zH9 HOO.out (by rw[HDD.out];exact hdv))
      go_wp2;go_roundw
      case rel=>exact⟨k+1,by omega,by first|rfl|go_num,by rw[HNS.out],by rw[HNS.out],by rw[HNS.out],L3.out⟩
      case measure=>simp[intOf];omega
     ·have HNS:Hid (pst ok dl (k+1)=⟨true,si,sv⟩):=HN.out.trans (zH5 rfl (by rw[HDD.out];exact hdv))
      go_wp2;go_roundw
      case rel=>exact⟨k+1,by omega,by first|rfl|go_num,by rw[HNS.out],by rw[HNS.out],by rw[HNS.out],L3.out⟩
      case measure=>simp[intOf];omega
  ·have hke:k=m:=by omega
   subst hke;rw[HS0.out];have h3:¬((k:Int)<(k:Int)):=by omega
   go_wp2
   go_ret3
   exact⟨rfl,hL⟩
end Go.Proofs.YtjobhigmdaiinaaGreat
