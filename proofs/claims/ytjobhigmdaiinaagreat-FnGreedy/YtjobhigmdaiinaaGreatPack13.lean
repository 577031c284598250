import Derived.Test.YtjobhigmdaiinaaGreatPack1
import Derived.Test.YtjobhigmdaiinaaGreatPack4
import Derived.Test.YtjobhigmdaiinaaGreatKinTail
namespace Go.Proofs.YtjobhigmdaiinaaGreat
open Go.RowKit
theorem yo2(ids:List Int)(i:Nat)(id:Int):(ids.take i++[id])++ids.drop i=insL ids i id:=by simp[insL]
set_option maxHeartbeats 4000000 in
theorem zl0(n fine veh:Int)(a ao av:Option Addr)(b off:Nat)(cap ko co kv cv c2:Nat)(zs os vs ids:List Int)(w:World)(hA:za0 w a zs)(hO:za0 w ao os)(hV:za0 w av vs)(hI:za0 w (some ⟨b,off,none⟩) ids)(hlo:os.length=ko*6)(hlv:vs.length=kv*5)(hko:ko<=9223372036854775807)(hkv:kv<=9223372036854775807)(hli:ids.length<=9223372036854775807)(hc2:ids.length<=c2)(id x:Int)(ch:Bool)(hch:chB (zb8 n zs os vs ko kv fine) n zs os vs ko kv veh ids (inB x 0 (ids.length:Int)) (insL ids x.toNat id)=ch)(D:Int)(hD:chD ch n zs os vs ko kv veh ids (insL ids x.toNat id)=D)(xs:List Int)(hxs:chL ch (insL ids x.toNat id)=xs):
 Calls Tryz.prog 68 #[.agg #[.int .i64 n,.slice a zs.length cap,.slice ao ko co,.slice av kv cv,.int .i64 fine],.agg #[.int .i64 veh,.slice (some ⟨b,off,none⟩) ids.length c2],.int .i64 id,.int .i64 x] w (zK0 w ch veh D xs):=by
 have HA:Hid (za0 w a zs):=hA;have HO:Hid (za0 w ao os):=hO;have HV:Hid (za0 w av vs):=hV;have HI:Hid (za0 w (some ⟨b,off,none⟩) ids):=hI;have HLO:Hid _:=hlo;have HLV:Hid _:=hlv;clear hA hO hV hI hlo hlv;have HCh:Hid _:=hch;have HD:Hid _:=hD;have HXs:Hid _:=hxs;clear hch hD hxs;have C0:Hid (CRR w (((w.alloc (.cells #[Value.int .i64 n,Value.slice a zs.length cap,Value.slice ao ko co,Value.slice av kv cv,Value.int .i64 fine] 30)).alloc (.cells #[Value.int .i64 veh,Value.slice (some ⟨b,off,none⟩) ids.length c2] 43)).alloc (.cells #[Value.int .i64 0,Value.slice none 0 0] 43)) _ _ _):=CRR.new w _ _ _;obtain⟨o1,HO1⟩:=nmd (decide (codeV (zb8 n zs os vs ko kv fine) n zs os vs ko kv veh ids=0));obtain⟨v1,HV1⟩:=nmd (inB x 0 (ids.length:Int));go_enter Tryz.func68,Tryz.ntmps68;obtain⟨c0,c1,c2',c3,c4⟩:=za8 C0.out.1.2.1;obtain⟨d0,d1⟩:=za2 C0.out.1.2.2
 go_wp2_with fail
 clear c0 c1 c2' c3 c4 d0 d1;refine(zw5 n fine veh a ao av (some ⟨b,off,none⟩) cap ko co kv cv c2 zs os vs ids _ (HA.out.below C0.out.b) (HO.out.below C0.out.b) (HV.out.below C0.out.b) (HI.out.below C0.out.b) HLO.out HLV.out hko hkv hli hc2 o1 HO1.out).mono ?_;rintro e w1 ⟨rfl,hb⟩;have C1:Hid (CRR w w1 _ _ _):=C0.out.below hb;clear hb C0;cases o1
 ·have HCH:Hid (ch=false):=HCh.out.symm.trans (zD5 (of_decide_eq_false HO1.out) _ _)
  have HX:Hid (xs=[]):=HXs.out.symm.trans (by rw[HCH.out];rfl);have HDD:Hid (D=0):=HD.out.symm.trans (by rw[HCH.out];rfl);obtain⟨t0,t1⟩:=za2 C1.out.2;have tf:=fun i=>frozen_of_row _ _ i _ _ C1.out.2;go_wp2;refine bodyPost_ret (v:=.tuple #[.agg #[Value.int .i64 0,Value.slice none 0 0],.int .i64 0,.bool false]) (by simp[results,Tryz.results68,go_sem,t0,t1]) rfl ⟨?_,none,0,?_,?_⟩
  ·repeat(first|with_reducible exact C1.out.b|refine Below.setCell ?_ (by simp<;>omega) _)
  ·rw[HCH.out,HDD.out,HX.out];rfl
  ·rw[HX.out];exact World.ownsRow_nil _ _ _ _
 ·have hz1:=of_decide_eq_true HO1.out
  have HZ1:Hid _:=hz1;have h12:=zr2 hz1;clear hz1;obtain⟨d0,d1⟩:=za2 C1.out.1.2.2;cases v1
  ·have HCH:Hid (ch=false):=HCh.out.symm.trans (zO9 HV1.out _)
   have HX:Hid (xs=[]):=HXs.out.symm.trans (by rw[HCH.out];rfl);have HDD:Hid (D=0):=HD.out.symm.trans (by rw[HCH.out];rfl);obtain⟨t0,t1⟩:=za2 C1.out.2;have tf:=fun i=>frozen_of_row _ _ i _ _ C1.out.2
   go_wp2_with(first|(go_at_call 47;refine(zc8 x 0 (ids.length:Int) w1).mono ?_;rintro e w1' ⟨rfl,rfl⟩;rw[HV1.out]))
   refine bodyPost_ret (v:=.tuple #[.agg #[Value.int .i64 0,Value.slice none 0 0],.int .i64 0,.bool false]) (by simp[results,Tryz.results68,go_sem,t0,t1]) rfl ⟨?_,none,0,?_,?_⟩
   ·repeat(first|with_reducible exact C1.out.b|refine Below.setCell ?_ (by simp<;>omega) _)
   ·rw[HCH.out,HDD.out,HX.out];rfl
   ·rw[HX.out];exact World.ownsRow_nil _ _ _ _
  ·have h1:=zd6 HV1.out
   obtain⟨i,rfl⟩:∃i:Nat,x=i:=⟨x.toNat,by omega⟩;have hi:i<=ids.length:=by omega
   rw[show((i:Int)).toNat=i by omega]at HCh HD HXs
   go_wp2_with(first|(go_at_call 47;refine(zc8 i 0 (ids.length:Int) w1).mono ?_;rintro e w1' ⟨rfl,rfl⟩;rw[HV1.out]))
   generalize w1'=w1 at*;rename_i Kx hKx;have htl:(ids.take i).length=i:=by simp;omega
   have HTL:Hid _:=htl;clear htl
   have key:∀(gb g cg kb:Nat) (W:World),OX w W w1.heap.size kb #[Value.int .i64 n,Value.slice a zs.length cap,Value.slice ao ko co,Value.slice av kv cv,Value.int .i64 fine] #[Value.int .i64 veh,Value.slice (some ⟨b,off,none⟩) ids.length c2] #[Value.int .i64 0,Value.slice none 0 0] veh (.slice (some ⟨g,0,none⟩) i cg) (ids.take i)->Kx {tmps:=#[.agg #[.int .i64 n,.slice a zs.length cap,.slice ao ko co,.slice av kv cv,.int .i64 fine],.agg #[.int .i64 veh,.slice (some ⟨b,off,none⟩) ids.length c2],.int .i64 id,.int .i64 (i:Int),.pointer (some ⟨w.heap.size,0,none⟩),.pointer (some ⟨w.heap.size+1,0,none⟩),undef,undef,.pointer (some ⟨w.heap.size+1+1,0,none⟩),.int .i64 0,.bool false,.pointer (some ⟨kb,0,none⟩),.agg #[.int .i64 n,.slice a zs.length cap,.slice ao ko co,.slice av kv cv,.int .i64 fine],.agg #[.int .i64 veh,.slice (some ⟨b,off,none⟩) ids.length c2],.bool true,.bool false,.bool false,.int .i64 (i:Int),.pointer (some ⟨w.heap.size+1,1,none⟩),.slice (some ⟨b,off,none⟩) ids.length c2,.int .i64 (ids.length:Int),.bool true,.bool false,.bool false,undef,.pointer (some ⟨w.heap.size+1,0,none⟩),.int .i64 veh,.slice (some ⟨gb,0,none⟩) 0 0,.pointer (some ⟨w.heap.size+1,1,none⟩),.slice (some ⟨b,off,none⟩) ids.length c2,.int .i64 (i:Int),.slice (some ⟨b,off,none⟩) i c2,.slice (some ⟨g,0,none⟩) i cg,.agg #[.int .i64 veh,.slice (some ⟨g,0,none⟩) i cg],undef,undef,undef,undef,undef,undef,undef,undef,undef,undef,undef,undef,undef,undef,undef,undef,undef,undef,undef,undef,undef,undef,undef,undef,undef,undef,undef],defers:=[]} W:=by
    intro gb g cg kb W hT;have T0:Hid (OX w W w1.heap.size kb _ _ _ veh (.slice (some ⟨g,0,none⟩) i cg) (ids.take i)):=hT;clear hT d0 d1 C1;apply hKx;clear hKx;obtain⟨e0,e1⟩:=za2 T0.out.2.1;obtain⟨d0,d1⟩:=za2 T0.out.c.1.2.2;have ef:=fun i=>frozen_of_row _ _ i _ _ T0.out.2.1;have hk1:(W.alloc (Obj.cells #[Value.int .i64 id] 2)).heap[W.heap.size]? =some (.cells #[Value.int .i64 id] 2 (0,0)):=heap_alloc_new _ _;have TA:Hid (OX w (W.alloc (Obj.cells #[Value.int .i64 id] 2)) w1.heap.size kb _ _ _ veh (.slice (some ⟨g,0,none⟩) i cg) (ids.take i)):=T0.out.below ((Below.refl _ _).alloc (Nat.le_refl _) _)
    go_wp2_with(first
     |(at_builtin
       refine zG8 _ rfl _ _ rfl w1.heap.size (.slice (some ⟨g,0,none⟩) i cg) i (ids.take i) rfl (yp0 TA.out.o HTL.out) W.heap.size 1 id rfl (cell_of_row _ _ 0 _ _ _ hk1) (by omega) TA.out.size ?_;intro v' w2 ho hg hn;obtain⟨g1,cg1,rfl⟩:∃g cg,v'=.slice (some ⟨g,0,none⟩) (i+1) cg:=zB1 ho (fun e=>by simpa using(hn.1 e).1) rfl;have T1:Hid (OX w (w2.setCell ⟨kb,1,none⟩ (.slice (some ⟨g1,0,none⟩) (i+1) cg1)) w1.heap.size kb _ _ _ veh (.slice (some ⟨g1,0,none⟩) (i+1) cg1) (ids.take i++[id])):=TA.out.grow hg (zP4 ho HTL.out rfl);obtain⟨kS,f1,ff⟩:=TA.out.keep hg;clear ho hg hn e0 e1 ef))
    clear kS f1 ff hk1 TA T0 d0 d1;generalize(w2.setCell ⟨kb,1,none⟩ (.slice (some ⟨g1,0,none⟩) (i+1) cg1))=W1 at*;have htl1:(ids.take i++[id]).length=i+1:=by rw[List.length_append,HTL.out];rfl
    obtain⟨e0,e1⟩:=za2 T1.out.2.1;obtain⟨d0,d1⟩:=za2 T1.out.c.1.2.2;have ef:=fun i=>frozen_of_row _ _ i _ _ T1.out.2.1;have hc0:(0:Int)<=(i:Int):=by omega
    have hc1:(i:Int)<=(ids.length:Int):=by omega
    have hc3:(ids.length:Int)<=(c2:Int):=by omega
    have IW:Hid (za0 W1 (some ⟨b,off,none⟩) ids):=HI.out.below T1.out.b;have hne:w.heap.size+1≠kb:=by have:=T1.out.2.2.1;have:=T1.out.2.2.2.1;omega
    go_region_law ((first
     |(refine z86 rfl (.tmp 41) (.tmp 45) rfl w1.heap.size (.slice (some ⟨g1,0,none⟩) (i+1) cg1) (ids.take i++[id]) (i+1) rfl (yp0 T1.out.drew.o htl1) _ _ _ (ids.drop i) rfl (yh3 _ _ _ _) (by simp) (yl7 (IW.out.below (Below.refl _ _).drew) _ _ hc2) (by omega) (by omega) T1.out.drew.size ?_
       intro v' w2 ho hg hn;obtain⟨g2,cg2,rfl⟩:∃g cg,v'=.slice (some ⟨g,0,none⟩) (insL ids i id).length cg:=zB1 ho (fun e=>by simpa using(hn.1 e).1) (by rw[zp0 id hi];omega);have ho2:=zP4 ho htl1 (by simp);rw[yo2]at ho2;have T2:Hid (OX w (w2.setCell ⟨kb,1,none⟩ (.slice (some ⟨g2,0,none⟩) (insL ids i id).length cg2)) w1.heap.size kb _ _ _ veh (.slice (some ⟨g2,0,none⟩) (insL ids i id).length cg2) (insL ids i id)):=T1.out.drew.grow hg ho2;obtain⟨kS,f1,ff⟩:=T1.out.drew.keep hg;clear ho hg hn ho2)))
    all_goals
     clear kS f1 ff e0 e1 d0 d1 ef hc0 hc1 hc3 T1 IW;generalize(if c2=i then some (⟨b,off,none⟩:Addr)else some ⟨b,off+i,none⟩)=adx at*;generalize(w2.setCell ⟨kb,1,none⟩ (.slice (some ⟨g2,0,none⟩) (insL ids i id).length cg2))=W2 at*;generalize insL ids i id=ids' at*;obtain⟨o2,HO2⟩:=nmd (decide (codeV (zb8 n zs os vs ko kv fine) n zs os vs ko kv veh ids'=0));obtain⟨hcg,hli'⟩:=yd3 T2.out.o;obtain⟨c0,c1,c2',c3,c4⟩:=za8 T2.out.c.1.2.1;obtain⟨e0,e1⟩:=za2 T2.out.2.1
     go_wp2_with fail
     clear c0 c1 c2' c3 c4 e0 e1;refine(zw5 n fine veh a ao av (some ⟨g2,0,none⟩) cap ko co kv cv cg2 zs os vs ids' _ (HA.out.below T2.out.b) (HO.out.below T2.out.b) (HV.out.below T2.out.b) (zd2 T2.out.o) HLO.out HLV.out hko hkv hli' hcg o2 HO2.out).mono ?_;rintro e w3 ⟨rfl,hb⟩;have T3:Hid (OX w w3 _ kb _ _ _ veh _ ids'):=T2.out.below hb;have C3:Hid (CRR w w3 _ _ _):=T3.out.c;clear hb T2;cases o2
     ·have HCH:Hid (ch=false):=HCh.out.symm.trans (zM4 _ (of_decide_eq_false HO2.out))
      have HX:Hid (xs=[]):=HXs.out.symm.trans (by rw[HCH.out];rfl);have HDD:Hid (D=0):=HD.out.symm.trans (by rw[HCH.out];rfl);obtain⟨t0,t1⟩:=za2 C3.out.2;have tf:=fun i=>frozen_of_row _ _ i _ _ C3.out.2;go_wp2;refine bodyPost_ret (v:=.tuple #[.agg #[Value.int .i64 0,Value.slice none 0 0],.int .i64 0,.bool false]) (by simp[results,Tryz.results68,go_sem,t0,t1]) rfl ⟨?_,none,0,?_,?_⟩
      ·repeat(first|with_reducible exact C3.out.b|refine Below.setCell ?_ (by simp<;>omega) _)
      ·rw[HCH.out,HDD.out,HX.out];rfl
      ·rw[HX.out];exact World.ownsRow_nil _ _ _ _
     ·have hz2:=of_decide_eq_true HO2.out
      have HZ2:Hid _:=hz2;have HCH:Hid (ch=true):=HCh.out.symm.trans (zN5 HZ1.out HV1.out hz2);have HX:Hid (xs=ids'):=HXs.out.symm.trans (by rw[HCH.out];rfl);have hmat:=(zc7 (zw8 hz2)).1;have hq1:=zs7 hmat (zc4 os ko ids) ids.length (zr2 HZ1.out) (zb5 vs kv veh 1);have hq2:=zs7 hmat (zc4 os ko ids') ids'.length (zr2 hz2) (zb5 vs kv veh 1);have HDD:=HD.out.symm.trans (ye2 HCH.out HZ1.out hz2);obtain⟨q1,HQ1⟩:=nmd (zn3 n zs (zc4 os ko ids) ids.length (zb5 vs kv veh 1));obtain⟨q2,HQ2⟩:=nmd (zn3 n zs (zc4 os ko ids') ids'.length (zb5 vs kv veh 1));rw[HQ1.out]at hq1 HDD;rw[HQ2.out]at hq2 HDD;have HDE:Hid (D=q2 - q1):=HDD;have hwr2:IntKind.i64.wrap (q2 - q1)=q2 - q1:=IntWalk.i64_in _ (by omega);clear hz2 hmat HDD hq1 hq2;have HC1:Hid (∀W,Below w3.heap.size w3 W->Calls Tryz.prog 107 #[.agg #[.int .i64 n,.slice a zs.length cap,.slice ao ko co,.slice av kv cv,.int .i64 fine],.agg #[.int .i64 veh,.slice (some ⟨b,off,none⟩) ids.length c2]] W fun e w'=>e=.returned (.int .i64 q1)/\Below W.heap.size W w'):=fun W hW=>
       HQ1.out▸zt4 n fine veh a ao av _ cap ko co kv cv c2 zs os vs ids W ((HA.out.below C3.out.b).below hW) ((HO.out.below C3.out.b).below hW) ((HV.out.below C3.out.b).below hW) ((HI.out.below C3.out.b).below hW) HLO.out HLV.out hko hkv hli HZ1.out
      have HC2:Hid (∀W,Below w3.heap.size w3 W->Calls Tryz.prog 107 #[.agg #[.int .i64 n,.slice a zs.length cap,.slice ao ko co,.slice av kv cv,.int .i64 fine],.agg #[.int .i64 veh,.slice (some ⟨g2,0,none⟩) ids'.length cg2]] W fun e w'=>e=.returned (.int .i64 q2)/\Below W.heap.size W w'):=fun W hW=>
       HQ2.out▸zt4 n fine veh a ao av _ cap ko co kv cv cg2 zs os vs ids' W ((HA.out.below C3.out.b).below hW) ((HO.out.below C3.out.b).below hW) ((HV.out.below C3.out.b).below hW) ((zd2 T3.out.o).below hW) HLO.out HLV.out hko hkv hli' HZ2.out
      go_wp2_with fail
      have kS:=ox9 T3.out.drew
      go_region_held3 (fun W=>W.cell? ⟨w.heap.size,0,none⟩=some (.int .i64 n)/\W.cell? ⟨w.heap.size,1,none⟩=some (.slice a zs.length cap)/\W.cell? ⟨w.heap.size,2,none⟩=some (.slice ao ko co)/\W.cell? ⟨w.heap.size,3,none⟩=some (.slice av kv cv)/\W.cell? ⟨w.heap.size,4,none⟩=some (.int .i64 fine)/\W.cell? ⟨w.heap.size+1,0,none⟩=some (.int .i64 veh)/\W.cell? ⟨w.heap.size+1,1,none⟩=some (.slice (some ⟨b,off,none⟩) ids.length c2)/\W.cell? ⟨kb,0,none⟩=some (.int .i64 veh)/\W.cell? ⟨kb,1,none⟩=some (.slice (some ⟨g2,0,none⟩) ids'.length cg2)) (first|with_reducible exact kS|with_reducible exact yv4 T6.out _ _) ((first
       |(go_at_call 107
         with_reducible refine(HC2.out w3.drew (Below.refl _ _).drew).mono ?_
         rintro e w5 ⟨rfl,hb⟩;have T5:Hid (OX w w5 _ kb _ _ _ veh _ ids'):=T3.out.drew.below hb;have B5:Hid (Below w3.heap.size w3 w5):=(Below.refl _ _).drew.trans (hb.mono (Nat.le_refl _));have kS:=ox9 T5.out;clear hb)
       |(go_at_call 107
         with_reducible refine(HC1.out w5 B5.out).mono ?_
         rintro e w6 ⟨rfl,hb⟩;have T6:Hid (OX w w6 _ kb _ _ _ veh _ ids'):=T5.out.below hb;have kS:=ox9 T6.out;obtain⟨t0,t1⟩:=za2 T6.out.c.2;have tf:=fun i=>frozen_of_row _ _ i _ _ T6.out.c.2;clear hb)))
      all_goals
       clear kS;go_wp2;refine bodyPost_ret (v:=.tuple #[.agg #[.int .i64 veh,.slice (some ⟨g2,0,none⟩) ids'.length cg2],.int .i64 (q2 - q1),.bool true]) (by simp[results,Tryz.results68,go_sem,t0,t1]) rfl ⟨?_,some ⟨g2,0,none⟩,cg2,?_,?_⟩
       ·repeat(first|with_reducible exact T6.out.b|refine Below.setCell ?_ (by simp<;>omega) _)
       ·rw[HCH.out,HDE.out,HX.out];rfl
       ·rw[HX.out];exact zb7 (ze5 (ze5 T6.out.o T6.out.2.2.2.1) T6.out.2.2.2.1) (by have:=T6.out.2.2.2.1;omega)
   have hc0:(0:Int)<=(i:Int):=by omega
   have hc1:(i:Int)<=(c2:Int):=by omega
   have IT:Hid (za0 w1 (some ⟨b,off,none⟩) (ids.take i)):=yg6 (HI.out.below C1.out.b) i;have ne1:w.heap.size+1≠w1.heap.size:=by have:=C1.out.big;omega
   have ne2:w.heap.size+1≠w1.heap.size+1:=by have:=C1.out.big;omega
   go_region_held3 (fun W=>W.cell? ⟨w.heap.size+1,0,none⟩=some (.int .i64 veh)/\W.cell? ⟨w.heap.size+1,1,none⟩=some (.slice (some ⟨b,off,none⟩) ids.length c2)) (first
    |with_reducible exact kS
    |exact⟨za4 (za4 kS.1 ne2) ne2,za4 (za4 kS.2 ne2) ne2⟩
    |exact⟨za4 (za4 kS.1 ne1) ne1,za4 (za4 kS.2 ne1) ne1⟩
    |exact⟨zI1 kS.1 (by repeat(first|with_reducible exact Below.refl _ _|with_reducible refine Below.drew ?_|with_reducible refine Below.alloc ?_ (by simp<;>omega) _|with_reducible refine Below.setCell ?_ (by simp<;>omega) _)),zI1 kS.2 (by repeat(first|with_reducible exact Below.refl _ _|with_reducible refine Below.drew ?_|with_reducible refine Below.alloc ?_ (by simp<;>omega) _|with_reducible refine Below.setCell ?_ (by simp<;>omega) _))⟩
    |exact⟨zI1 d0 (by repeat(first|with_reducible exact Below.refl _ _|with_reducible refine Below.drew ?_|with_reducible refine Below.alloc ?_ (by simp<;>omega) _|with_reducible refine Below.setCell ?_ (by simp<;>omega) _)),zI1 d1 (by repeat(first|with_reducible exact Below.refl _ _|with_reducible refine Below.drew ?_|with_reducible refine Below.alloc ?_ (by simp<;>omega) _|with_reducible refine Below.setCell ?_ (by simp<;>omega) _))⟩) ((first
    |(refine zd3 rfl (.tmp 27) (.tmp 31) rfl w1.heap.size (.slice (some ⟨w1.heap.size,0,none⟩) 0 0) [] 0 rfl (ys3 w1) b off i c2 (ids.take i) rfl HTL.out (IT.out.below ((Below.refl _ _).alloc (Nat.le_refl _) _).drew) (by omega) (by omega) (by simp) ?_
      intro v' w2 ho hg hn;obtain⟨g,cg,rfl⟩:∃g cg,v'=.slice (some ⟨g,0,none⟩) i cg:=zB1 ho (fun e=>by simpa using(hn.1 e).1) (by omega);have kS:w2.cell? ⟨w.heap.size+1,0,none⟩=some (.int .i64 veh)/\w2.cell? ⟨w.heap.size+1,1,none⟩=some (.slice (some ⟨b,off,none⟩) ids.length c2):=zj2 hg (C1.out.alloc _).drew (fun q e=>by have:=C1.out.big;simp[Value.ownBlock]at e;omega);have HG2:Hid (World.grownBy _ w2 _):=hg;have HO2:Hid (w2.ownsRow w1.heap.size 2 1 (.slice (some ⟨g,0,none⟩) i cg) (ids.take i).length ((ids.take i).map (Value.int .i64))):=zO0 ho HTL.out;clear hg ho hn)
    |(refine zd3 rfl (.tmp 27) (.tmp 31) rfl w1.heap.size (.slice (some ⟨w1.heap.size,0,none⟩) 0 0) [] 0 rfl (ys7 w1 _) b off i c2 (ids.take i) rfl HTL.out (IT.out.below (((Below.refl _ _).alloc (Nat.le_refl _) _).alloc (by simp) _).drew) (by omega) (by omega) (by simp;omega) ?_
      intro v' w2 ho hg hn;obtain⟨g,cg,rfl⟩:∃g cg,v'=.slice (some ⟨g,0,none⟩) i cg:=zB1 ho (fun e=>by simpa using(hn.1 e).1) (by omega);have kS:w2.cell? ⟨w.heap.size+1,0,none⟩=some (.int .i64 veh)/\w2.cell? ⟨w.heap.size+1,1,none⟩=some (.slice (some ⟨b,off,none⟩) ids.length c2):=zj2 hg ((C1.out.alloc _).alloc _).drew (fun q e=>by have:=C1.out.big;simp[Value.ownBlock]at e;omega);have HG2:Hid (World.grownBy _ w2 _):=hg;obtain⟨z0,z1⟩:=za2 (yt8 hg);have zf:=fun i=>frozen_of_row _ _ i _ _ (yt8 hg);have HO2:Hid (w2.ownsRow w1.heap.size 2 1 (.slice (some ⟨g,0,none⟩) i cg) (ids.take i).length ((ids.take i).map (Value.int .i64))):=zO0 ho HTL.out;clear hg ho hn)
    |(refine zd3 rfl (.tmp 27) (.tmp 31) rfl w1.heap.size (.slice (some ⟨w1.heap.size+1,0,none⟩) 0 0) [] 0 rfl (yr5 w1 _) b off i c2 (ids.take i) rfl HTL.out (IT.out.below (((Below.refl _ _).alloc (Nat.le_refl _) _).alloc (by simp) _).drew) (by omega) (by omega) (by simp;omega) ?_
      intro v' w2 ho hg hn;obtain⟨g,cg,rfl⟩:∃g cg,v'=.slice (some ⟨g,0,none⟩) i cg:=zB1 ho (fun e=>by simpa using(hn.1 e).1) (by omega);have kS:w2.cell? ⟨w.heap.size+1,0,none⟩=some (.int .i64 veh)/\w2.cell? ⟨w.heap.size+1,1,none⟩=some (.slice (some ⟨b,off,none⟩) ids.length c2):=zj2 hg ((C1.out.alloc _).alloc _).drew (fun q e=>by have:=C1.out.big;simp[Value.ownBlock]at e;omega);have HG2:Hid (World.grownBy _ w2 _):=hg;obtain⟨z0,z1⟩:=za2 (yt7 hg);have zf:=fun i=>frozen_of_row _ _ i _ _ (yt7 hg);have HO2:Hid (w2.ownsRow w1.heap.size 2 1 (.slice (some ⟨g,0,none⟩) i cg) (ids.take i).length ((ids.take i).map (Value.int .i64))):=zO0 ho HTL.out;clear hg ho hn)))
   ·exact key _ _ _ _ _ (OX.newa C1.out HG2.out HO2.out)
   ·exact key _ _ _ _ _ (OX.newb C1.out HG2.out HO2.out)
   ·exact key _ _ _ _ _ (OX.newc C1.out HG2.out HO2.out)
theorem zE8(w:World)(ty:TypeId)(g n c:Nat)(h:n<=c):(Builtin.append_ #[24,24] ty #[.slice (some ⟨g,0,none⟩) n c,.slice none 0 0]).run Tryz.prog w=.ok (.slice (some ⟨g,0,none⟩) n c) w:=by
 obtain⟨i0,hi,hz0,hz1,hz2⟩:=zn7;simp[Builtin.append_,run_underlying Tryz.underlying24,sizeOf,typeInfo,hi,Builtin.lenOf,h,run_firstCells_none,storeCells]
theorem zk0{ops:Array Oper}{o:Oper}{a:Act}{w:World}{K:Act->World->Prop}{Q:Exit->Act->World->Prop}{E:Prop}
 (hg:o.guard=none) (s x:Operand) (hop:o.op=Op.call {callee:=Callee.builtin Builtin.append,args:=#[s,x],argTypes:=#[24,24]})
 (g n c:Nat) (hs:a.eval s=.slice (some ⟨g,0,none⟩) n c) (hx:a.eval x=.slice none 0 0) (h:n<=c) (hK:∀w',w'=w->K (a.put o.dst (.slice (some ⟨g,0,none⟩) n c)) w'):
 if Region.wanted o (yielded ops a.tmps)=true then Oper.wp Tryz.prog o a w K Q else E:=by
 have hw:Region.wanted o (yielded ops a.tmps)=true:=by simp[Region.wanted,hg]
 rw[if_pos hw];unfold Oper.wp;simp[execOp,hop,resolve,invoke,builtin,hs,hx,zE8 w o.type g n c h,Result.andThen];exact hK _ rfl
set_option maxHeartbeats 4000000 in
theorem zk9(n fine veh:Int)(a ao av:Option Addr)(cap ko co kv cv:Nat)(zs os vs:List Int)(w:World)(hA:za0 w a zs)(hO:za0 w ao os)(hV:za0 w av vs)(hlo:os.length=ko*6)(hlv:vs.length=kv*5)(hko:ko<=9223372036854775807)(hkv:kv<=9223372036854775807)(id x:Int)(ch:Bool)(hch:chB (zb8 n zs os vs ko kv fine) n zs os vs ko kv veh ([]:List Int) (inB x 0 0) (insL ([]:List Int) x.toNat id)=ch)(D:Int)(hD:chD ch n zs os vs ko kv veh ([]:List Int) (insL ([]:List Int) x.toNat id)=D)(xs:List Int)(hxs:chL ch (insL ([]:List Int) x.toNat id)=xs):
 Calls Tryz.prog 68 #[.agg #[.int .i64 n,.slice a zs.length cap,.slice ao ko co,.slice av kv cv,.int .i64 fine],.agg #[.int .i64 veh,.slice none 0 0],.int .i64 id,.int .i64 x] w (zK0 w ch veh D xs):=by
 have HA:Hid (za0 w a zs):=hA;have HO:Hid (za0 w ao os):=hO;have HV:Hid (za0 w av vs):=hV;have HI:Hid (za0 w none ([]:List Int)):=fun j hj=>by simp at hj
 have hli:([]:List Int).length<=9223372036854775807:=by simp
 have hc2:([]:List Int).length<=0:=by simp
 have HLO:Hid _:=hlo;have HLV:Hid _:=hlv;clear hA hO hV hlo hlv;have HCh:Hid _:=hch;have HD:Hid _:=hD;have HXs:Hid _:=hxs;clear hch hD hxs;have C0:Hid (CRR w (((w.alloc (.cells #[Value.int .i64 n,Value.slice a zs.length cap,Value.slice ao ko co,Value.slice av kv cv,Value.int .i64 fine] 30)).alloc (.cells #[Value.int .i64 veh,Value.slice none 0 0] 43)).alloc (.cells #[Value.int .i64 0,Value.slice none 0 0] 43)) _ _ _):=CRR.new w _ _ _;obtain⟨o1,HO1⟩:=nmd (decide (codeV (zb8 n zs os vs ko kv fine) n zs os vs ko kv veh ([]:List Int)=0));obtain⟨v1,HV1⟩:=nmd (inB x 0 0);go_enter Tryz.func68,Tryz.ntmps68;obtain⟨c0,c1,c2',c3,c4⟩:=za8 C0.out.1.2.1;obtain⟨d0,d1⟩:=za2 C0.out.1.2.2
 go_wp2_with fail
 clear c0 c1 c2' c3 c4 d0 d1;refine(zw5 n fine veh a ao av none cap ko co kv cv 0 zs os vs [] _ (HA.out.below C0.out.b) (HO.out.below C0.out.b) (HV.out.below C0.out.b) (HI.out.below C0.out.b) HLO.out HLV.out hko hkv hli hc2 o1 HO1.out).mono ?_;rintro e w1 ⟨rfl,hb⟩;have C1:Hid (CRR w w1 _ _ _):=C0.out.below hb;clear hb C0;cases o1
 ·have HCH:Hid (ch=false):=HCh.out.symm.trans (zD5 (of_decide_eq_false HO1.out) _ _)
  have HX:Hid (xs=[]):=HXs.out.symm.trans (by rw[HCH.out];rfl);have HDD:Hid (D=0):=HD.out.symm.trans (by rw[HCH.out];rfl);obtain⟨t0,t1⟩:=za2 C1.out.2;have tf:=fun i=>frozen_of_row _ _ i _ _ C1.out.2;go_wp2;refine bodyPost_ret (v:=.tuple #[.agg #[Value.int .i64 0,Value.slice none 0 0],.int .i64 0,.bool false]) (by simp[results,Tryz.results68,go_sem,t0,t1]) rfl ⟨?_,none,0,?_,?_⟩
  ·repeat(first|with_reducible exact C1.out.b|refine Below.setCell ?_ (by simp<;>omega) _)
  ·rw[HCH.out,HDD.out,HX.out];rfl
  ·rw[HX.out];exact World.ownsRow_nil _ _ _ _
 ·have hz1:=of_decide_eq_true HO1.out
  have HZ1:Hid _:=hz1;have h12:=zr2 hz1;clear hz1;obtain⟨d0,d1⟩:=za2 C1.out.1.2.2;cases v1
  ·have HCH:Hid (ch=false):=HCh.out.symm.trans (zO9 HV1.out _)
   have HX:Hid (xs=[]):=HXs.out.symm.trans (by rw[HCH.out];rfl);have HDD:Hid (D=0):=HD.out.symm.trans (by rw[HCH.out];rfl);obtain⟨t0,t1⟩:=za2 C1.out.2;have tf:=fun i=>frozen_of_row _ _ i _ _ C1.out.2
   go_wp2_with(first|(go_at_call 47;refine(zc8 x 0 0 w1).mono ?_;rintro e w1' ⟨rfl,rfl⟩;rw[HV1.out]))
   refine bodyPost_ret (v:=.tuple #[.agg #[Value.int .i64 0,Value.slice none 0 0],.int .i64 0,.bool false]) (by simp[results,Tryz.results68,go_sem,t0,t1]) rfl ⟨?_,none,0,?_,?_⟩
   ·repeat(first|with_reducible exact C1.out.b|refine Below.setCell ?_ (by simp<;>omega) _)
   ·rw[HCH.out,HDD.out,HX.out];rfl
   ·rw[HX.out];exact World.ownsRow_nil _ _ _ _
  ·have h1:=zd6 HV1.out
   obtain rfl:x=0:=by omega
   go_wp2_with(first|(go_at_call 47;refine(zc8 0 0 0 w1).mono ?_;rintro e w1' ⟨rfl,rfl⟩;rw[HV1.out]))
   generalize w1'=w1 at*;rename_i Kx hKx;have htl:([]:List Int).length=0:=rfl;have HTL:Hid _:=htl;clear htl
   have key:∀(gb g cg kb:Nat) (W:World),OX w W w1.heap.size kb #[Value.int .i64 n,Value.slice a zs.length cap,Value.slice ao ko co,Value.slice av kv cv,Value.int .i64 fine] #[Value.int .i64 veh,Value.slice none 0 0] #[Value.int .i64 0,Value.slice none 0 0] veh (.slice (some ⟨g,0,none⟩) 0 cg) ([]:List Int)->Kx {tmps:=#[.agg #[.int .i64 n,.slice a zs.length cap,.slice ao ko co,.slice av kv cv,.int .i64 fine],.agg #[.int .i64 veh,.slice none 0 0],.int .i64 id,.int .i64 0,.pointer (some ⟨w.heap.size,0,none⟩),.pointer (some ⟨w.heap.size+1,0,none⟩),undef,undef,.pointer (some ⟨w.heap.size+1+1,0,none⟩),.int .i64 0,.bool false,.pointer (some ⟨kb,0,none⟩),.agg #[.int .i64 n,.slice a zs.length cap,.slice ao ko co,.slice av kv cv,.int .i64 fine],.agg #[.int .i64 veh,.slice none 0 0],.bool true,.bool false,.bool false,.int .i64 0,.pointer (some ⟨w.heap.size+1,1,none⟩),.slice none 0 0,.int .i64 0,.bool true,.bool false,.bool false,undef,.pointer (some ⟨w.heap.size+1,0,none⟩),.int .i64 veh,.slice (some ⟨gb,0,none⟩) 0 0,.pointer (some ⟨w.heap.size+1,1,none⟩),.slice none 0 0,.int .i64 0,.slice none 0 0,.slice (some ⟨g,0,none⟩) 0 cg,.agg #[.int .i64 veh,.slice (some ⟨g,0,none⟩) 0 cg],undef,undef,undef,undef,undef,undef,undef,undef,undef,undef,undef,undef,undef,undef,undef,undef,undef,undef,undef,undef,undef,undef,undef,undef,undef,undef,undef],defers:=[]} W:=by
    intro gb g cg kb W hT;have T0:Hid (OX w W w1.heap.size kb _ _ _ veh (.slice (some ⟨g,0,none⟩) 0 cg) ([]:List Int)):=hT;clear hT d0 d1 C1;apply hKx;clear hKx;obtain⟨e0,e1⟩:=za2 T0.out.2.1;obtain⟨d0,d1⟩:=za2 T0.out.c.1.2.2;have ef:=fun i=>frozen_of_row _ _ i _ _ T0.out.2.1;have hk1:(W.alloc (Obj.cells #[Value.int .i64 id] 2)).heap[W.heap.size]? =some (.cells #[Value.int .i64 id] 2 (0,0)):=heap_alloc_new _ _;have TA:Hid (OX w (W.alloc (Obj.cells #[Value.int .i64 id] 2)) w1.heap.size kb _ _ _ veh (.slice (some ⟨g,0,none⟩) 0 cg) ([]:List Int)):=T0.out.below ((Below.refl _ _).alloc (Nat.le_refl _) _)
    go_wp2_with(first
     |(at_builtin
       refine zG8 _ rfl _ _ rfl w1.heap.size (.slice (some ⟨g,0,none⟩) 0 cg) 0 ([]:List Int) rfl (yp0 TA.out.o HTL.out) W.heap.size 1 id rfl (cell_of_row _ _ 0 _ _ _ hk1) (by omega) TA.out.size ?_;intro v' w2 ho hg hn;obtain⟨g1,cg1,rfl⟩:∃g cg,v'=.slice (some ⟨g,0,none⟩) 1 cg:=zB1 ho (fun e=>by simpa using(hn.1 e).1) rfl;have T1:Hid (OX w (w2.setCell ⟨kb,1,none⟩ (.slice (some ⟨g1,0,none⟩) 1 cg1)) w1.heap.size kb _ _ _ veh (.slice (some ⟨g1,0,none⟩) 1 cg1) [id]):=TA.out.grow hg ho;obtain⟨kS,f1,ff⟩:=TA.out.keep hg;clear ho hg hn e0 e1 ef))
    clear kS f1 ff hk1 TA T0 d0 d1;generalize(w2.setCell ⟨kb,1,none⟩ (.slice (some ⟨g1,0,none⟩) 1 cg1))=W1 at*;have HCh':Hid (chB (zb8 n zs os vs ko kv fine) n zs os vs ko kv veh [] (inB 0 0 0) [id]=ch):=HCh.out;have HD':Hid (chD ch n zs os vs ko kv veh [] [id]=D):=HD.out;have HXs':Hid (chL ch [id]=xs):=HXs.out;clear HCh HD HXs;obtain⟨hcg1,_⟩:=yd3 T1.out.o;obtain⟨e0,e1⟩:=za2 T1.out.2.1;obtain⟨d0,d1⟩:=za2 T1.out.c.1.2.2;have ef:=fun i=>frozen_of_row _ _ i _ _ T1.out.2.1;have hne:w.heap.size+1≠kb:=by have:=T1.out.2.2.1;have:=T1.out.2.2.2.1;omega
    go_region_law ((first
     |(refine zk0 (w:=W1.drew) rfl (.tmp 41) (.tmp 45) rfl g1 1 cg1 rfl rfl hcg1 ?_
       intro w2 hw2;have hgr:World.grownBy W1.drew w2 (Value.slice (some ⟨g1,0,none⟩) 1 cg1).ownBlock:=hw2▸World.grownBy.refl _ _;have hgo:=hw2▸T1.out.drew.o;clear hw2;have T2:Hid (OX w (w2.setCell ⟨kb,1,none⟩ (.slice (some ⟨g1,0,none⟩) 1 cg1)) w1.heap.size kb _ _ _ veh (.slice (some ⟨g1,0,none⟩) 1 cg1) [id]):=T1.out.drew.grow hgr hgo;obtain⟨kS,f1,ff⟩:=T1.out.drew.keep hgr;clear hgr hgo)))
    all_goals
     clear kS f1 ff e0 e1 d0 d1 ef T1;have HCh:Hid _:=HCh'.out;have HD:Hid _:=HD'.out;have HXs:Hid _:=HXs'.out;clear HCh' HD' HXs';generalize(w2.setCell ⟨kb,1,none⟩ (.slice (some ⟨g1,0,none⟩) 1 cg1))=W2 at*;obtain⟨o2,HO2⟩:=nmd (decide (codeV (zb8 n zs os vs ko kv fine) n zs os vs ko kv veh ([id]:List Int)=0));obtain⟨hcg,hli'⟩:=yd3 T2.out.o;obtain⟨c0,c1,c2',c3,c4⟩:=za8 T2.out.c.1.2.1;obtain⟨e0,e1⟩:=za2 T2.out.2.1
     go_wp2_with fail
     clear c0 c1 c2' c3 c4 e0 e1;refine(zw5 n fine veh a ao av (some ⟨g1,0,none⟩) cap ko co kv cv cg1 zs os vs ([id]:List Int) _ (HA.out.below T2.out.b) (HO.out.below T2.out.b) (HV.out.below T2.out.b) (zd2 T2.out.o) HLO.out HLV.out hko hkv hli' hcg o2 HO2.out).mono ?_;rintro e w3 ⟨rfl,hb⟩;have T3:Hid (OX w w3 _ kb _ _ _ veh _ ([id]:List Int)):=T2.out.below hb;have C3:Hid (CRR w w3 _ _ _):=T3.out.c;clear hb T2;cases o2
     ·have HCH:Hid (ch=false):=HCh.out.symm.trans (zM4 _ (of_decide_eq_false HO2.out))
      have HX:Hid (xs=[]):=HXs.out.symm.trans (by rw[HCH.out];rfl);have HDD:Hid (D=0):=HD.out.symm.trans (by rw[HCH.out];rfl);obtain⟨t0,t1⟩:=za2 C3.out.2;have tf:=fun i=>frozen_of_row _ _ i _ _ C3.out.2;go_wp2;refine bodyPost_ret (v:=.tuple #[.agg #[Value.int .i64 0,Value.slice none 0 0],.int .i64 0,.bool false]) (by simp[results,Tryz.results68,go_sem,t0,t1]) rfl ⟨?_,none,0,?_,?_⟩
      ·repeat(first|with_reducible exact C3.out.b|refine Below.setCell ?_ (by simp<;>omega) _)
      ·rw[HCH.out,HDD.out,HX.out];rfl
      ·rw[HX.out];exact World.ownsRow_nil _ _ _ _
     ·have hz2:=of_decide_eq_true HO2.out
      have HZ2:Hid _:=hz2;have HCH:Hid (ch=true):=HCh.out.symm.trans (zN5 HZ1.out HV1.out hz2);have HX:Hid (xs=([id]:List Int)):=HXs.out.symm.trans (by rw[HCH.out];rfl);have hmat:=(zc7 (zw8 hz2)).1;have hq1:=zs7 hmat (zc4 os ko ([]:List Int)) ([]:List Int).length (zr2 HZ1.out) (zb5 vs kv veh 1);have hq2:=zs7 hmat (zc4 os ko ([id]:List Int)) ([id]:List Int).length (zr2 hz2) (zb5 vs kv veh 1);have HDD:=HD.out.symm.trans (ye2 HCH.out HZ1.out hz2);obtain⟨q1,HQ1⟩:=nmd (zn3 n zs (zc4 os ko ([]:List Int)) ([]:List Int).length (zb5 vs kv veh 1));obtain⟨q2,HQ2⟩:=nmd (zn3 n zs (zc4 os ko ([id]:List Int)) ([id]:List Int).length (zb5 vs kv veh 1));rw[HQ1.out]at hq1 HDD;rw[HQ2.out]at hq2 HDD;have HDE:Hid (D=q2 - q1):=HDD;have hwr2:IntKind.i64.wrap (q2 - q1)=q2 - q1:=IntWalk.i64_in _ (by omega);clear hz2 hmat HDD hq1 hq2;have HC1:Hid (∀W,Below w3.heap.size w3 W->Calls Tryz.prog 107 #[.agg #[.int .i64 n,.slice a zs.length cap,.slice ao ko co,.slice av kv cv,.int .i64 fine],.agg #[.int .i64 veh,.slice none 0 0]] W fun e w'=>e=.returned (.int .i64 q1)/\Below W.heap.size W w'):=fun W hW=>
       HQ1.out▸zt4 n fine veh a ao av _ cap ko co kv cv 0 zs os vs [] W ((HA.out.below C3.out.b).below hW) ((HO.out.below C3.out.b).below hW) ((HV.out.below C3.out.b).below hW) ((HI.out.below C3.out.b).below hW) HLO.out HLV.out hko hkv hli HZ1.out
      have HC2:Hid (∀W,Below w3.heap.size w3 W->Calls Tryz.prog 107 #[.agg #[.int .i64 n,.slice a zs.length cap,.slice ao ko co,.slice av kv cv,.int .i64 fine],.agg #[.int .i64 veh,.slice (some ⟨g1,0,none⟩) 1 cg1]] W fun e w'=>e=.returned (.int .i64 q2)/\Below W.heap.size W w'):=fun W hW=>
       by
        have:=zt4 n fine veh a ao av _ cap ko co kv cv cg1 zs os vs ([id]:List Int) W ((HA.out.below C3.out.b).below hW) ((HO.out.below C3.out.b).below hW) ((HV.out.below C3.out.b).below hW) ((zd2 T3.out.o).below hW) HLO.out HLV.out hko hkv hli' HZ2.out;rw[HQ2.out]at this;exact this
      go_wp2_with fail
      have kS:=ox9 T3.out.drew
      go_region_held3 (fun W=>W.cell? ⟨w.heap.size,0,none⟩=some (.int .i64 n)/\W.cell? ⟨w.heap.size,1,none⟩=some (.slice a zs.length cap)/\W.cell? ⟨w.heap.size,2,none⟩=some (.slice ao ko co)/\W.cell? ⟨w.heap.size,3,none⟩=some (.slice av kv cv)/\W.cell? ⟨w.heap.size,4,none⟩=some (.int .i64 fine)/\W.cell? ⟨w.heap.size+1,0,none⟩=some (.int .i64 veh)/\W.cell? ⟨w.heap.size+1,1,none⟩=some (.slice none 0 0)/\W.cell? ⟨kb,0,none⟩=some (.int .i64 veh)/\W.cell? ⟨kb,1,none⟩=some (.slice (some ⟨g1,0,none⟩) 1 cg1)) (first|with_reducible exact kS|with_reducible exact yv4 T6.out _ _) ((first
       |(go_at_call 107
         with_reducible refine(HC2.out w3.drew (Below.refl _ _).drew).mono ?_
         rintro e w5 ⟨rfl,hb⟩;have T5:Hid (OX w w5 _ kb _ _ _ veh _ ([id]:List Int)):=T3.out.drew.below hb;have B5:Hid (Below w3.heap.size w3 w5):=(Below.refl _ _).drew.trans (hb.mono (Nat.le_refl _));have kS:=ox9 T5.out;clear hb)
       |(go_at_call 107
         with_reducible refine(HC1.out w5 B5.out).mono ?_
         rintro e w6 ⟨rfl,hb⟩;have T6:Hid (OX w w6 _ kb _ _ _ veh _ ([id]:List Int)):=T5.out.below hb;have kS:=ox9 T6.out;obtain⟨t0,t1⟩:=za2 T6.out.c.2;have tf:=fun i=>frozen_of_row _ _ i _ _ T6.out.c.2;clear hb)))
      all_goals
       clear kS;go_wp2;refine bodyPost_ret (v:=.tuple #[.agg #[.int .i64 veh,.slice (some ⟨g1,0,none⟩) 1 cg1],.int .i64 (q2 - q1),.bool true]) (by simp[results,Tryz.results68,go_sem,t0,t1]) rfl ⟨?_,some ⟨g1,0,none⟩,cg1,?_,?_⟩
       ·repeat(first|with_reducible exact T6.out.b|refine Below.setCell ?_ (by simp<;>omega) _)
       ·rw[HCH.out,HDE.out,HX.out];rfl
       ·rw[HX.out];exact zb7 (ze5 (ze5 T6.out.o T6.out.2.2.2.1) T6.out.2.2.2.1) (by have:=T6.out.2.2.2.1;omega)
   have ne1:w.heap.size+1≠w1.heap.size:=by have:=C1.out.big;omega
   have ne2:w.heap.size+1≠w1.heap.size+1:=by have:=C1.out.big;omega
   go_region_held3 (fun W=>W.cell? ⟨w.heap.size+1,0,none⟩=some (.int .i64 veh)/\W.cell? ⟨w.heap.size+1,1,none⟩=some (.slice none 0 0)) (first
    |with_reducible exact kS
    |with_reducible exact⟨za4 (za4 kS.1 ne2) ne2,za4 (za4 kS.2 ne2) ne2⟩
    |with_reducible exact⟨za4 (za4 kS.1 ne1) ne1,za4 (za4 kS.2 ne1) ne1⟩
    |with_reducible exact⟨zI1 kS.1 (by repeat(first|with_reducible exact Below.refl _ _|with_reducible refine Below.drew ?_|with_reducible refine Below.alloc ?_ (by simp<;>omega) _|with_reducible refine Below.setCell ?_ (by simp<;>omega) _)),zI1 kS.2 (by repeat(first|with_reducible exact Below.refl _ _|with_reducible refine Below.drew ?_|with_reducible refine Below.alloc ?_ (by simp<;>omega) _|with_reducible refine Below.setCell ?_ (by simp<;>omega) _))⟩
    |with_reducible exact⟨zI1 d0 (by repeat(first|with_reducible exact Below.refl _ _|with_reducible refine Below.drew ?_|with_reducible refine Below.alloc ?_ (by simp<;>omega) _|with_reducible refine Below.setCell ?_ (by simp<;>omega) _)),zI1 d1 (by repeat(first|with_reducible exact Below.refl _ _|with_reducible refine Below.drew ?_|with_reducible refine Below.alloc ?_ (by simp<;>omega) _|with_reducible refine Below.setCell ?_ (by simp<;>omega) _))⟩) ((first
    |(refine zk0 (w:=(w1.alloc (Obj.cells #[] 2)).drew) rfl (.tmp 27) (.tmp 31) rfl w1.heap.size 0 0 rfl rfl (Nat.le_refl _) ?_
      intro w2 hw2;have HG2:Hid (World.grownBy (w1.alloc (Obj.cells #[] 2)).drew w2 (some w1.heap.size)):=hw2▸World.grownBy.refl _ _;have HO2:Hid (World.ownsRow w2 w1.heap.size 2 1 (.slice (some ⟨w1.heap.size,0,none⟩) 0 0) ([]:List Int).length (([]:List Int).map (Value.int .i64))):=hw2▸(ys3 w1);clear hw2;have kS:=zj2 HG2.out (C1.out.alloc _).drew (fun q e=>by have:=C1.out.big;simp at e;omega))
    |(refine zk0 (w:=((w1.alloc (Obj.cells #[] 2)).alloc (Obj.cells #[Value.int .i64 0,Value.slice none 0 0] 43)).drew) rfl (.tmp 27) (.tmp 31) rfl w1.heap.size 0 0 rfl rfl (Nat.le_refl _) ?_
      intro w2 hw2;have HG2:Hid (World.grownBy ((w1.alloc (Obj.cells #[] 2)).alloc (Obj.cells #[Value.int .i64 0,Value.slice none 0 0] 43)).drew w2 (some w1.heap.size)):=hw2▸World.grownBy.refl _ _;have HO2:Hid (World.ownsRow w2 w1.heap.size 2 1 (.slice (some ⟨w1.heap.size,0,none⟩) 0 0) ([]:List Int).length (([]:List Int).map (Value.int .i64))):=hw2▸(ys7 w1 _);clear hw2;have kS:=zj2 HG2.out ((C1.out.alloc _).alloc _).drew (fun q e=>by have:=C1.out.big;simp at e;omega);obtain⟨z0,z1⟩:=za2 (yt8 HG2.out);have zf:=fun i=>frozen_of_row _ _ i _ _ (yt8 HG2.out))
    |(refine zk0 (w:=((w1.alloc (Obj.cells #[Value.int .i64 0,Value.slice none 0 0] 43)).alloc (Obj.cells #[] 2)).drew) rfl (.tmp 27) (.tmp 31) rfl (w1.heap.size+1) 0 0 rfl rfl (Nat.le_refl _) ?_
      intro w2 hw2;have HG2:Hid (World.grownBy ((w1.alloc (Obj.cells #[Value.int .i64 0,Value.slice none 0 0] 43)).alloc (Obj.cells #[] 2)).drew w2 (some (w1.heap.size+1))):=hw2▸World.grownBy.refl _ _;have HO2:Hid (World.ownsRow w2 w1.heap.size 2 1 (.slice (some ⟨(w1.heap.size+1),0,none⟩) 0 0) ([]:List Int).length (([]:List Int).map (Value.int .i64))):=hw2▸(yr5 w1 _);clear hw2;have kS:=zj2 HG2.out ((C1.out.alloc _).alloc _).drew (fun q e=>by have:=C1.out.big;simp at e;omega);obtain⟨z0,z1⟩:=za2 (yt7 HG2.out);have zf:=fun i=>frozen_of_row _ _ i _ _ (yt7 HG2.out))))
   ·exact key _ _ _ _ _ (OX.newa C1.out HG2.out HO2.out)
   ·exact key _ _ _ _ _ (OX.newb C1.out HG2.out HO2.out)
   ·exact key _ _ _ _ _ (OX.newc C1.out HG2.out HO2.out)
theorem z18(n fine veh:Int)(a ao av:Option Addr)(bi:Option Addr)(cap ko co kv cv c2:Nat)(zs os vs ids:List Int)(w:World)(hA:za0 w a zs)(hO:za0 w ao os)(hV:za0 w av vs)(hI:za0 w bi ids)(hlo:os.length=ko*6)(hlv:vs.length=kv*5)(hko:ko<=9223372036854775807)(hkv:kv<=9223372036854775807)(hli:ids.length<=9223372036854775807)(hc2:ids.length<=c2)(hbi:(bi=none/\ids=[]/\c2=0)∨∃g,bi=some ⟨g,0,none⟩)(id x:Int)(ch:Bool)(hch:chB (zb8 n zs os vs ko kv fine) n zs os vs ko kv veh ids (inB x 0 (ids.length:Int)) (insL ids x.toNat id)=ch)(D:Int)(hD:chD ch n zs os vs ko kv veh ids (insL ids x.toNat id)=D)(xs:List Int)(hxs:chL ch (insL ids x.toNat id)=xs):
 Calls Tryz.prog 68 #[.agg #[.int .i64 n,.slice a zs.length cap,.slice ao ko co,.slice av kv cv,.int .i64 fine],.agg #[.int .i64 veh,.slice bi ids.length c2],.int .i64 id,.int .i64 x] w (zK0 w ch veh D xs):=by
 rcases hbi with⟨rfl,rfl,rfl⟩|⟨g,rfl⟩
 ·exact zk9 n fine veh a ao av cap ko co kv cv zs os vs w hA hO hV hlo hlv hko hkv id x ch hch D hD xs hxs
 ·exact zl0 n fine veh a ao av g 0 cap ko co kv cv c2 zs os vs ids w hA hO hV hI hlo hlv hko hkv hli hc2 id x ch hch D hD xs hxs
end Go.Proofs.YtjobhigmdaiinaaGreat
