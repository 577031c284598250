import Derived.Test.YtjobhigmdaiinaaGreatPack27
import Derived.Test.YtjobhigmdaiinaaGreatPack28
import Derived.Test.YtjobhigmdaiinaaGreatPack29
namespace Go.Proofs.YtjobhigmdaiinaaGreat
open Go.RowKit
def PB(w W:World)(pc pr pid:Nat)(cs rs is:Array Value):Prop:=Below w.heap.size w W/\W.heap[pc]? =some (.cells cs 30 (0,0))/\W.heap[pr]? =some (.cells rs 43 (0,0))/\W.heap[pid]? =some (.cells is 2 (0,0))/\pc<w.heap.size/\pr<w.heap.size/\pid<w.heap.size
theorem PB.b{w W:World}{pc pr pid:Nat}{cs rs is:Array Value}(h:PB w W pc pr pid cs rs is):Below w.heap.size w W:=h.1
theorem PB.size{w W:World}{pc pr pid:Nat}{cs rs is:Array Value}(h:PB w W pc pr pid cs rs is):w.heap.size<=W.heap.size:=h.1.size
theorem PB.below{w W W':World}{pc pr pid:Nat}{cs rs is:Array Value}(h:PB w W pc pr pid cs rs is)(hb:Below W.heap.size W W'):PB w W' pc pr pid cs rs is:=
 ⟨h.1.trans (hb.mono h.1.size),za1 hb (za3 h.2.1) h.2.1,za1 hb (za3 h.2.2.1) h.2.2.1,za1 hb (za3 h.2.2.2.1) h.2.2.2.1,h.2.2.2.2⟩
theorem PB.alloc{w W:World}{pc pr pid:Nat}{cs rs is:Array Value}(h:PB w W pc pr pid cs rs is)(o:Obj):PB w (W.alloc o) pc pr pid cs rs is:=h.below ((Below.refl _ _).alloc (Nat.le_refl _) _)
theorem PB.drew{w W:World}{pc pr pid:Nat}{cs rs is:Array Value}(h:PB w W pc pr pid cs rs is):PB w W.drew pc pr pid cs rs is:=h.below (Below.refl _ _).drew
theorem PB.set{w W:World}{pc pr pid:Nat}{cs rs is:Array Value}(h:PB w W pc pr pid cs rs is){k i:Nat}{v:Value}(hk:w.heap.size<=k):PB w (W.setCell ⟨k,i,none⟩ v) pc pr pid cs rs is:=by
 have:=h.2.2.2.2.1;have:=h.2.2.2.2.2.1;have:=h.2.2.2.2.2.2;exact⟨h.1.setCell (by simp;omega) _,za7 h.2.1 (by omega),za7 h.2.2.1 (by omega),za7 h.2.2.2.1 (by omega),h.2.2.2.2⟩
theorem PB.new{w:World}{pc pr pid:Nat}{cs rs is:Array Value}(h1:w.heap[pc]? =some (.cells cs 30 (0,0)))(h2:w.heap[pr]? =some (.cells rs 43 (0,0)))(h3:w.heap[pid]? =some (.cells is 2 (0,0))):PB w w pc pr pid cs rs is:=
 ⟨Below.refl _ _,h1,h2,h3,za3 h1,za3 h2,za3 h3⟩
theorem pb8{w W:World}{pc pr pid:Nat}{c0 c1 c2 c3 c4 r0 r1 i0:Value}(h:PB w W pc pr pid #[c0,c1,c2,c3,c4] #[r0,r1] #[i0]):
 W.cell? ⟨pc,0,none⟩=some c0/\W.cell? ⟨pc,1,none⟩=some c1/\W.cell? ⟨pc,2,none⟩=some c2/\W.cell? ⟨pc,3,none⟩=some c3/\W.cell? ⟨pc,4,none⟩=some c4/\W.cell? ⟨pr,0,none⟩=some r0/\W.cell? ⟨pr,1,none⟩=some r1/\W.cell? ⟨pid,0,none⟩=some i0:=by
 obtain⟨k0,k1,k2,k3,k4⟩:=za8 h.2.1;obtain⟨k5,k6⟩:=za2 h.2.2.1;exact⟨k0,k1,k2,k3,k4,k5,k6,cell_of_row _ _ 0 _ _ _ h.2.2.2.1⟩
theorem yv2{w W:World}{pc pr pid:Nat}{c0 c1 c2 c3 c4 r0 r1 i0:Value}(h:PB w W pc pr pid #[c0,c1,c2,c3,c4] #[r0,r1] #[i0]){k:Nat}(hk:w.heap.size<=k)(u v:Value):
 (fun X:World=>X.cell? ⟨pc,0,none⟩=some c0/\X.cell? ⟨pc,1,none⟩=some c1/\X.cell? ⟨pc,2,none⟩=some c2/\X.cell? ⟨pc,3,none⟩=some c3/\X.cell? ⟨pc,4,none⟩=some c4/\X.cell? ⟨pr,0,none⟩=some r0/\X.cell? ⟨pr,1,none⟩=some r1/\X.cell? ⟨pid,0,none⟩=some i0) ((W.setCell ⟨k,0,none⟩ u).setCell ⟨k,1,none⟩ v):=pb8 ((h.set hk).set hk)
set_option maxHeartbeats 4000000 in
theorem zU7(n fine veh:Int)(a ao av bi:Option Addr)(cap ko co kv cv c2:Nat)(zs os vs ids:List Int)(w:World)(hA:za0 w a zs)(hO:za0 w ao os)(hV:za0 w av vs)(hI:za0 w bi ids)(hlo:os.length=ko*6)(hlv:vs.length=kv*5)(hko:ko<=9223372036854775807)(hkv:kv<=9223372036854775807)(hli:ids.length<=9223372036854775807)(hc2:ids.length<=c2)(hbi:(bi=none/\ids.length=0)∨∃b off,bi=some ⟨b,off,none⟩)(hcB:zb8 n zs os vs ko kv fine=true)(id:Int)(pc pr pid:Nat)(hpc:w.heap[pc]? =some (.cells #[Value.int .i64 n,Value.slice a zs.length cap,Value.slice ao ko co,Value.slice av kv cv,Value.int .i64 fine] 30 (0,0)))(hpr:w.heap[pr]? =some (.cells #[Value.int .i64 veh,Value.slice bi ids.length c2] 43 (0,0)))(hpid:w.heap[pid]? =some (.cells #[Value.int .i64 id] 2 (0,0)))(i:Nat):
 Calls Tryz.prog 35 #[.int .i64 (i:Int),.pointer (some ⟨pc,0,none⟩),.pointer (some ⟨pr,0,none⟩),.pointer (some ⟨pid,0,none⟩)] w fun e w'=>e=.returned (.tuple #[.int .i64 (plD true n zs os vs ko kv veh ids id i),.bool (plB true n zs os vs ko kv veh ids id i)])/\Below w.heap.size w w':=by
 have HA:Hid (za0 w a zs):=hA;have HO:Hid (za0 w ao os):=hO;have HV:Hid (za0 w av vs):=hV;have HI:Hid (za0 w bi ids):=hI;have HLO:Hid _:=hlo;have HLV:Hid _:=hlv;have HBI:Hid ((bi=none/\ids.length=0)∨∃b off,bi=some ⟨b,off,none⟩):=hbi;clear hA hO hV hI hlo hlv hbi;have HC:Hid (zb8 n zs os vs ko kv fine=true):=hcB;clear hcB;have C1:Hid (PB w w pc pr pid #[Value.int .i64 n,Value.slice a zs.length cap,Value.slice ao ko co,Value.slice av kv cv,Value.int .i64 fine] #[Value.int .i64 veh,Value.slice bi ids.length c2] #[Value.int .i64 id]):=PB.new hpc hpr hpid;clear hpc hpr hpid;obtain⟨ch,HCH⟩:∃t,Hid (plB true n zs os vs ko kv veh ids id i=t):=⟨_,rfl⟩;obtain⟨D,HDD⟩:∃t,Hid (plD true n zs os vs ko kv veh ids id i=t):=⟨_,rfl⟩;obtain⟨xs,HXX⟩:∃t,Hid (chL ch (insL ids i id)=t):=⟨_,rfl⟩;obtain⟨vv,HVV⟩:∃t,Hid (chI ch veh=t):=⟨_,rfl⟩;rw[HCH.out,HDD.out];have HCALL:Hid (∀(W W':World) (p q:Nat),Below w.heap.size w W->W.cell? ⟨p,0,none⟩=some (.int .i64 (i:Int))->W.cell? ⟨q,0,none⟩=some (.int .i64 id)->Below W.heap.size W W'->Calls Tryz.prog 36 #[.agg #[.int .i64 n,.slice a zs.length cap,.slice ao ko co,.slice av kv cv,.int .i64 fine],.agg #[.int .i64 veh,.slice bi ids.length c2],.func (.func 80) #[] #[.pointer (some ⟨p,0,none⟩),.pointer (some ⟨q,0,none⟩)]] W' (zK0 W' ch veh D xs)):=by
  intro W W' p q hW hp hq hW';have hB:=hW.trans (hW'.mono hW.size);have hp':=(hW'.cell (p:=⟨p,0,none⟩) (block_lt_of_cell hp)).trans hp;have hq':=(hW'.cell (p:=⟨q,0,none⟩) (block_lt_of_cell hq)).trans hq;exact z47 n fine veh a ao av bi cap ko co kv cv c2 zs os vs ids W' (HA.out.below hB) (HO.out.below hB) (HV.out.below hB) (HI.out.below hB) HLO.out HLV.out hko hkv hli hc2 HC.out p q _ _ (fun X hX h12=>zL2 p q (i:Int) id bi c2 ids X ((hX.cell (p:=⟨p,0,none⟩) (block_lt_of_cell hp')).trans hp') ((hX.cell (p:=⟨q,0,none⟩) (block_lt_of_cell hq')).trans hq') (HI.out.below (hB.trans (hX.mono hB.size))) h12 HBI.out) ch HCH.out D (by rw[<-HDD.out,<-HCH.out];rfl) xs HXX.out
 go_enter Tryz.func35,Tryz.ntmps35
 go_wp2_with fail
 have kS:=pb8 C1.out.drew
 go_region_held3 (fun W=>W.cell? ⟨pc,0,none⟩=some (.int .i64 n)/\W.cell? ⟨pc,1,none⟩=some (.slice a zs.length cap)/\W.cell? ⟨pc,2,none⟩=some (.slice ao ko co)/\W.cell? ⟨pc,3,none⟩=some (.slice av kv cv)/\W.cell? ⟨pc,4,none⟩=some (.int .i64 fine)/\W.cell? ⟨pr,0,none⟩=some (.int .i64 veh)/\W.cell? ⟨pr,1,none⟩=some (.slice bi ids.length c2)/\W.cell? ⟨pid,0,none⟩=some (.int .i64 id)) (first|with_reducible exact kS|with_reducible exact yv2 C4.out (Nat.le_refl _) _ _|with_reducible exact yv2 C4.out C3.out.size _ _|with_reducible exact pb8 (PB.alloc C4.out _)|with_reducible exact pb8 (PB.alloc C3.out _)|with_reducible exact pb8 (PB.drew (PB.alloc C1.out _))|go_keep) ((first
  |(go_at_call 37
    with_reducible refine(ze6 id (i:Int) w.drew).mono ?_
    rintro e w3 ⟨p,q,rfl,hb,hc,hcq⟩;have C3:Hid (PB w w3 pc pr pid #[Value.int .i64 n,Value.slice a zs.length cap,Value.slice ao ko co,Value.slice av kv cv,Value.int .i64 fine] #[Value.int .i64 veh,Value.slice bi ids.length c2] #[Value.int .i64 id]):=C1.out.drew.below hb;have P3:Hid (w3.cell? ⟨p,0,none⟩=some (.int .i64 (i:Int))):=hc;have Q3:Hid (w3.cell? ⟨q,0,none⟩=some (.int .i64 id)):=hcq;have kS:=pb8 C3.out;clear hb hc hcq)
  |(go_at_call 37
    with_reducible refine(ze6 id (i:Int) (w.alloc (Obj.cells #[Value.int .i64 0,Value.slice none 0 0] 43)).drew).mono ?_
    rintro e w3 ⟨p,q,rfl,hb,hc,hcq⟩;have C3:Hid (PB w w3 pc pr pid #[Value.int .i64 n,Value.slice a zs.length cap,Value.slice ao ko co,Value.slice av kv cv,Value.int .i64 fine] #[Value.int .i64 veh,Value.slice bi ids.length c2] #[Value.int .i64 id]):=(C1.out.alloc (Obj.cells #[Value.int .i64 0,Value.slice none 0 0] 43)).drew.below hb;have P3:Hid (w3.cell? ⟨p,0,none⟩=some (.int .i64 (i:Int))):=hc;have Q3:Hid (w3.cell? ⟨q,0,none⟩=some (.int .i64 id)):=hcq;have V3:=za1 hb (k:=w.heap.size) (by simp) (heap_alloc_new w (Obj.cells #[Value.int .i64 0,Value.slice none 0 0] 43));have kS:=pb8 C3.out;clear hb hc hcq)
  |(go_at_call 36
    with_reducible refine(HCALL.out w3 w3 p q C3.out.b P3.out Q3.out (Below.refl _ _)).mono ?_
    rintro e w4 ⟨hb,ad,cg,rfl,_⟩;rw[HVV.out];have C4:Hid (PB w w4 pc pr pid #[Value.int .i64 n,Value.slice a zs.length cap,Value.slice ao ko co,Value.slice av kv cv,Value.int .i64 fine] #[Value.int .i64 veh,Value.slice bi ids.length c2] #[Value.int .i64 id]):=C3.out.below hb
    try(have V4:=za1 hb (za3 V3) V3
        obtain⟨z0,z1⟩:=za2 V4;have zf:=fun i=>frozen_of_row _ _ i _ _ V4)
    have kS:=pb8 C4.out;clear hb)
  |(go_at_call 36
    with_reducible refine(HCALL.out w3 (w3.alloc (Obj.cells #[Value.int .i64 0,Value.slice none 0 0] 43)) p q C3.out.b P3.out Q3.out ((Below.refl _ _).alloc (Nat.le_refl _) _)).mono ?_
    rintro e w4 ⟨hb,ad,cg,rfl,_⟩;rw[HVV.out];have C4:Hid (PB w w4 pc pr pid #[Value.int .i64 n,Value.slice a zs.length cap,Value.slice ao ko co,Value.slice av kv cv,Value.int .i64 fine] #[Value.int .i64 veh,Value.slice bi ids.length c2] #[Value.int .i64 id]):=(C3.out.alloc (Obj.cells #[Value.int .i64 0,Value.slice none 0 0] 43)).below hb;have V4:=za1 hb (k:=w3.heap.size) (by simp) (heap_alloc_new w3 (Obj.cells #[Value.int .i64 0,Value.slice none 0 0] 43));obtain⟨z0,z1⟩:=za2 V4;have zf:=fun i=>frozen_of_row _ _ i _ _ V4;have kS:=pb8 C4.out;clear hb)))
 all_goals
  clear kS;have LG3:=C3.out.size;have LG4:=C4.out.size;go_wp2;go_ret2;refine⟨rfl,?_⟩
  repeat(first|with_reducible exact C4.out.b|refine Below.setCell ?_ (by first|omega|(simp;done)|(simp;omega)) _|refine Below.alloc ?_ (by first|omega|(simp;done)|(simp;omega)) _)
def CI(w W:World)(cs rs is:Array Value):Prop:=Below w.heap.size w W/\W.heap[w.heap.size]? =some (.cells cs 30 (0,0))/\W.heap[w.heap.size+1]? =some (.cells rs 43 (0,0))/\W.heap[w.heap.size+1+1]? =some (.cells is 2 (0,0))
theorem CI.new(w:World)(cs rs is:Array Value):CI w (((w.alloc (.cells cs 30)).alloc (.cells rs 43)).alloc (.cells is 2)) cs rs is:=by
 refine⟨(((Below.refl _ _).alloc (Nat.le_refl _) _).alloc (by simp) _).alloc (by simp;omega) _,?_,?_,?_⟩
 ·exact(heap_alloc_old _ _ (by simp;omega)).trans (heap_alloc2_old _ _ _)
 ·exact(heap_alloc_old _ _ (by simp)).trans (heap_alloc2_new _ _ _)
 ·have:=heap_alloc_new ((w.alloc (.cells cs 30)).alloc (.cells rs 43)) (.cells is 2)
  simpa using this
theorem CI.b{w W:World}{cs rs is:Array Value}(h:CI w W cs rs is):Below w.heap.size w W:=h.1
theorem CI.below{w W W':World}{cs rs is:Array Value}(h:CI w W cs rs is)(hb:Below W.heap.size W W'):CI w W' cs rs is:=
 ⟨h.1.trans (hb.mono h.1.size),za1 hb (za3 h.2.1) h.2.1,za1 hb (za3 h.2.2.1) h.2.2.1,za1 hb (za3 h.2.2.2) h.2.2.2⟩
theorem CI.alloc{w W:World}{cs rs is:Array Value}(h:CI w W cs rs is)(o:Obj):CI w (W.alloc o) cs rs is:=h.below ((Below.refl _ _).alloc (Nat.le_refl _) _)
set_option maxHeartbeats 4000000 in
theorem zz9(n fine veh:Int)(a ao av bi:Option Addr)(cap ko co kv cv c2:Nat)(zs os vs ids:List Int)(w:World)(hA:za0 w a zs)(hO:za0 w ao os)(hV:za0 w av vs)(hI:za0 w bi ids)(hlo:os.length=ko*6)(hlv:vs.length=kv*5)(hko:ko<=9223372036854775807)(hkv:kv<=9223372036854775807)(hli:ids.length<=9223372036854775807)(hc2:ids.length<=c2)(hbi:(bi=none/\ids.length=0)∨∃b off,bi=some ⟨b,off,none⟩)(id:Int)(s0:PS)(hs0:bpV (zb8 n zs os vs ko kv fine) n zs os vs ko kv veh ids id=s0):
 Calls Tryz.prog 14 #[.agg #[.int .i64 n,.slice a zs.length cap,.slice ao ko co,.slice av kv cv,.int .i64 fine],.agg #[.int .i64 veh,.slice bi ids.length c2],.int .i64 id] w fun e w'=>e=.returned (.tuple #[.int .i64 (s0.i:Int),.int .i64 s0.v,.bool s0.f])/\Below w.heap.size w w':=by
 have HA:Hid (za0 w a zs):=hA;have HO:Hid (za0 w ao os):=hO;have HV:Hid (za0 w av vs):=hV;have HI:Hid (za0 w bi ids):=hI;have HLO:Hid _:=hlo;have HLV:Hid _:=hlv;have HBI:Hid ((bi=none/\ids.length=0)∨∃b off,bi=some ⟨b,off,none⟩):=hbi;clear hA hO hV hI hlo hlv hbi;have HS0:Hid (bpV (zb8 n zs os vs ko kv fine) n zs os vs ko kv veh ids id=s0):=hs0;clear hs0;have C0:Hid (CI w (((w.alloc (.cells #[Value.int .i64 n,Value.slice a zs.length cap,Value.slice ao ko co,Value.slice av kv cv,Value.int .i64 fine] 30)).alloc (.cells #[Value.int .i64 veh,Value.slice bi ids.length c2] 43)).alloc (.cells #[Value.int .i64 id] 2)) _ _ _):=CI.new w _ _ _;have hmf:∀(fn:Fn) (first cap:Array Value) (w:World),(Instr.makeFunc fn first cap).run Tryz.prog w=.ok (.func fn first cap) w:=fun _ _ _ _=>rfl;go_enter Tryz.func14,Tryz.ntmps14;obtain⟨c0,c1,c2',c3,c4⟩:=za8 C0.out.2.1;obtain⟨d0,d1⟩:=za2 C0.out.2.2.1
 go_wp2_with fail
 clear c0 c1 c2' c3 c4 d0 d1;refine(z58 n fine veh a ao av bi cap ko co kv cv c2 zs os vs ids _ (HA.out.below C0.out.1) (HO.out.below C0.out.1) (HV.out.below C0.out.1) (HI.out.below C0.out.1) HLO.out HLV.out hko hkv hli hc2).mono ?_;rintro e w1 ⟨hb,⟨hf,rfl⟩|⟨hf,g,_,rfl,_⟩⟩
 ·have C1:Hid (CI w (w1.alloc (.cells #[Value.int .i64 0,Value.slice none 0 0,Value.int .i64 0,Value.int .i64 0,Value.int .i64 0,Value.int .i64 0,Value.int .i64 0,Value.slice none 0 0] 60)) _ _ _):=(C0.out.below hb).alloc _
  have HZ:Hid (s0=ps0):=HS0.out.symm.trans (zS8 (yr0 hf) _);obtain⟨fv,HFV⟩:∃t,Hid (codeV (zb8 n zs os vs ko kv fine) n zs os vs ko kv veh ids=t):=⟨_,rfl⟩;rw[HFV.out]at hf⊢;have hfb:(fv !=0)=true:=by simp[hf]
  clear hb hf;go_wp2
  go_ret3
  refine⟨?_,C1.out.1⟩;rw[HZ.out];rfl
 ·have hcb:=zw8 hf
  have h12:=zr2 hf;have hbt:pst (plB true n zs os vs ko kv veh ids id) (plD true n zs os vs ko kv veh ids id) (ids.length+1)=s0:=by
   rw[<-HS0.out];unfold bpV;rw[hcb]
  have HB:Hid (pst (plB true n zs os vs ko kv veh ids id) (plD true n zs os vs ko kv veh ids id) (ids.length+1)=s0):=hbt;have HC:Hid (zb8 n zs os vs ko kv fine=true):=hcb;obtain⟨v0,G0⟩:∃t,Hid (zb5 vs kv veh 0=t):=⟨_,rfl⟩;obtain⟨v1,G1⟩:∃t,Hid (zb5 vs kv veh 1=t):=⟨_,rfl⟩;obtain⟨v2,G2⟩:∃t,Hid (zb5 vs kv veh 2=t):=⟨_,rfl⟩;obtain⟨v3,G3⟩:∃t,Hid (zb5 vs kv veh 3=t):=⟨_,rfl⟩;obtain⟨v4,G4⟩:∃t,Hid (zb5 vs kv veh 4=t):=⟨_,rfl⟩;rw[G0.out,G1.out,G2.out,G3.out,G4.out];have C1:Hid (CI w (w1.alloc (.cells #[Value.int .i64 n,Value.slice a zs.length cap,Value.int .i64 v0,Value.int .i64 v1,Value.int .i64 v2,Value.int .i64 v3,Value.int .i64 v4,Value.slice (some ⟨g,0,none⟩) ids.length ids.length] 60)) #[Value.int .i64 n,Value.slice a zs.length cap,Value.slice ao ko co,Value.slice av kv cv,Value.int .i64 fine] #[Value.int .i64 veh,Value.slice bi ids.length c2] #[Value.int .i64 id]):=(C0.out.below hb).alloc _;clear hb hf hcb hbt G0 G1 G2 G3 G4 C0;obtain⟨d0,d1⟩:=za2 C1.out.2.2.1
  go_wp2_with fail
  clear d0 d1;refine(zF0 veh bi c2 ids.length _ h12).mono ?_;rintro e w3 ⟨gp,cp,rfl,hb,hint⟩;have C3:Hid (CI w w3 #[Value.int .i64 n,Value.slice a zs.length cap,Value.slice ao ko co,Value.slice av kv cv,Value.int .i64 fine] #[Value.int .i64 veh,Value.slice bi ids.length c2] #[Value.int .i64 id]):=C1.out.below hb;have I3:Hid (za0 w3 (some ⟨gp,0,none⟩) (z81 (ids.length+1))):=hint;clear hb hint C1
  go_wp2_with fail
  refine(z82 gp cp w.heap.size (w.heap.size+1) (w.heap.size+1+1) (ids.length+1) (plB true n zs os vs ko kv veh ids id) (plD true n zs os vs ko kv veh ids id) w3 I3.out (by omega) (fun W i hW=> ?_) s0 HB.out).mono ?_
  ·have hB:=C3.out.b.trans (hW.mono C3.out.b.size)
   exact zU7 n fine veh a ao av bi cap ko co kv cv c2 zs os vs ids W (HA.out.below hB) (HO.out.below hB) (HV.out.below hB) (HI.out.below hB) HLO.out HLV.out hko hkv hli hc2 HBI.out HC.out id w.heap.size (w.heap.size+1) (w.heap.size+1+1) (za1 hW (za3 C3.out.2.1) C3.out.2.1) (za1 hW (za3 C3.out.2.2.1) C3.out.2.2.1) (za1 hW (za3 C3.out.2.2.2) C3.out.2.2.2) i
  rintro e w4 ⟨rfl,hb⟩;have B4:Hid (Below w.heap.size w w4):=C3.out.b.trans (hb.mono C3.out.b.size);clear hb;obtain⟨sf,si,sv⟩:=s0;simp only;go_wp2
  go_ret3
  exact⟨rfl,B4.out⟩
end Go.Proofs.YtjobhigmdaiinaaGreat
