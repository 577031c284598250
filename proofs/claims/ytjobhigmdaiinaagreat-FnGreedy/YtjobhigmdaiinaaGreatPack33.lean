import Derived.Test.YtjobhigmdaiinaaGreatPack0
import Derived.Test.YtjobhigmdaiinaaGreatPack1
import Derived.Test.YtjobhigmdaiinaaGreatPack3
import Derived.Test.YtjobhigmdaiinaaGreatPack4
import Derived.Test.YtjobhigmdaiinaaGreatPack28
import Derived.Test.YtjobhigmdaiinaaGreatPack31
import Derived.Test.YtjobhigmdaiinaaGreatRoutesOk
namespace Go.Proofs.YtjobhigmdaiinaaGreat
open Go.RowKit Go.Maps
theorem z97{n:Int}{zs os vs:List Int}{ko kv:Nat}{R:List RT}:∀{k:Nat},k<=R.length->zf0 n zs os vs ko kv R k->∀x∈zb3 R k,zi8 os ko x=true
 |0,_,_,x,hx=>by rw[zl6]at hx;cases hx
 |k+1,hk,h,x,hx=>by
  rw[zg3 (by omega),List.mem_append]at hx;rcases hx with hx|hx
  ·exact z97 (k:=k) (by omega) (fun j hj=>h j (by omega)) x hx
  ·have h3:=(zf5 (zg2 (zi3 (h k (by omega)).2.2).1).2.2).2
   obtain⟨j,hj,e⟩:=List.getElem_of_mem hx;have:=h3 j hj;unfold zM5 at this;rw[List.getD_eq_getElem?_getD,List.getElem?_eq_getElem hj]at this;simp only[Option.getD_some,e]at this;simp at this;exact this.1
theorem yr4{n:Int}{zs os vs:List Int}{ko kv:Nat}{fine id:Int}(hc:zb8 n zs os vs ko kv fine=true)(h:zi8 os ko id=true):(Lit.int .i64 id).wf=true:=by
 have hv:=(zc7 hc).2.1;unfold zi8 at h;cases hf:zG1 os ko id with
 |none=>rw[hf]at h;cases h
 |some i=>
  unfold zG1 at hf;have h1:=List.find?_some hf;have h2:i<ko:=by simpa using List.mem_of_find?_eq_some hf
  have h3:=((zh0 hv).2 i h2).1;simp at h1;unfold z64 inB at h3;simp at h3;exact WalkArith.wf_i64 (by omega)
def CP(w W:World)(cs ps:Array Value):Prop:=Below w.heap.size w W/\W.heap[w.heap.size]? =some (.cells cs 30 (0,0))/\W.heap[w.heap.size+1]? =some (.cells ps 33 (0,0))
theorem CP.new(w:World)(cs ps:Array Value):CP w ((w.alloc (.cells cs 30)).alloc (.cells ps 33)) cs ps:=
 ⟨((Below.refl _ _).alloc (Nat.le_refl _) _).alloc (by simp) _,heap_alloc2_old _ _ _,heap_alloc2_new _ _ _⟩
theorem CP.below{w W W':World}{cs ps:Array Value}(h:CP w W cs ps)(hb:Below W.heap.size W W'):CP w W' cs ps:=
 ⟨h.1.trans (hb.mono h.1.size),za1 hb (za3 h.2.1) h.2.1,za1 hb (za3 h.2.2) h.2.2⟩
theorem CP.grown{w W W':World}{cs ps:Array Value}{B:Nat}{l:List Int}(h:CP w W cs ps)(hS:zf9 W B l)(hB:w.heap.size<=B)(hg:W.grownBy W' (some B)):CP w W' cs ps:=
 ⟨h.1.grown hg h.1.size (fun j e=>by cases e;exact hB),zt6 hS hg h.2.1,zt6 hS hg h.2.2⟩
set_option maxRecDepth 100000 in
set_option maxHeartbeats 2000000 in
theorem zL1(n fine:Int)(a ao av ra la:Option Addr)(cap ko co kv cv rc lc:Nat)(zs os vs L:List Int)(R:List RT)(w:World)(hA:za0 w a zs)(hO:za0 w ao os)(hV:za0 w av vs)(hR:za6 w ra R)(hL:za0 w la L)(hlo:os.length=ko*6)(hlv:vs.length=kv*5)(hko:ko<=9223372036854775807)(hkv:kv<=9223372036854775807)(hn:R.length<=1048576)(hi:∀r∈R,r.ids.length<=1048576)(hrc:∀r∈R,r.ids.length<=r.c)(hll:L.length<=1048576)(hal:(zb3 R R.length).length<=1048576)(hwl:∀x∈L,(Lit.int .i64 x).wf=true)(hcB:zb8 n zs os vs ko kv fine=true):
 Calls Tryz.prog 30 #[.agg #[.int .i64 n,.slice a zs.length cap,.slice ao ko co,.slice av kv cv,.int .i64 fine],.agg #[.slice ra R.length rc,.slice la L.length lc]] w fun e w'=>e=.returned (.int .i64 (zd7 n zs os vs ko kv fine R L))/\Below w.heap.size w w':=by
 have HA:Hid (za0 w a zs):=hA;have HO:Hid (za0 w ao os):=hO;have HV:Hid (za0 w av vs):=hV;have HR:Hid (za6 w ra R):=hR;have HL:Hid (za0 w la L):=hL;have HLO:Hid _:=hlo;have HLV:Hid _:=hlv;have HN:Hid _:=hn;have HLL:Hid _:=hll;have HAL:Hid _:=hal;have HI:Hid _:=hi;have HRC:Hid _:=hrc;have HWL:Hid _:=hwl;have HC:Hid _:=hcB;clear hA hO hV hR hL hlo hlv hi hrc hcB hwl hn hll hal;obtain⟨v,HVAL⟩:=nmd (zd7 n zs os vs ko kv fine R L);rw[HVAL.out];have hmm:=@run_makeMap Tryz.prog;have C0:Hid (CP w ((w.alloc (.cells #[.int .i64 n,.slice a zs.length cap,.slice ao ko co,.slice av kv cv,.int .i64 fine] 30)).alloc (.cells #[.slice ra R.length rc,.slice la L.length lc] 33)) _ _):=CP.new w _ _;obtain⟨c0,c1,c2,c3,c4⟩:=za8 C0.2.1;obtain⟨d0,d1⟩:=za2 C0.2.2;go_enter Tryz.func30,Tryz.ntmps30
 go_wp2_with fail
 clear c0 c1 c2 c3 c4 d0 d1;generalize(w.alloc (.cells #[.int .i64 n,.slice a zs.length cap,.slice ao ko co,.slice av kv cv,.int .i64 fine] 30)).alloc (.cells #[.slice ra R.length rc,.slice la L.length lc] 33)=W0 at*;refine(zI4 n fine a ao av ra cap ko co kv cv rc zs os vs R W0 (HA.below C0.1) (HO.below C0.1) (HV.below C0.1) (HR.below C0.1) HLO.out HLV.out hko hkv HN.out HI.out HRC.out HC.out).mono ?_;rintro e w1 ⟨hb,⟨rfl,hok⟩|⟨rfl,hok⟩⟩
 ·have OK:Hid (zf0 n zs os vs ko kv R R.length):=hok
  have C1:Hid (CP w w1 _ _):=C0.below hb;clear hb hok C0;have S0:Hid (zf9 (w1.alloc (.map #[] 0)) w1.heap.size []):=zf9.made w1;have C2:Hid (CP w (w1.alloc (.map #[] 0)) _ _):=C1.below ((Below.refl _ _).alloc (Nat.le_refl _) _);obtain⟨d0,d1⟩:=za2 C2.2.2
  go_wp2_with fail
  clear d0 d1;have hB:=C1.1.size;generalize hZ:w1.alloc (.map #[] 0)=W2 at*;generalize w1.heap.size=B at*;clear hZ C1;refine(zF8 B ra la rc lc R L W2 (HR.below C2.1) (HL.below C2.1) S0.out HN.out HI.out HLL.out HAL.out (fun x hx=>yr4 HC.out (z97 (Nat.le_refl _) OK.out x hx)) HWL.out).mono ?_;rintro e w3 ⟨hg,⟨rfl,honce,hset⟩|⟨rfl,honce⟩⟩
  ·have C3:Hid (CP w w3 _ _):=C2.grown S0.out hB hg
   have ON:Hid (zL8 (zb3 R R.length) L):=honce;have S3:Hid (zf9 w3 B (zb3 R R.length)):=hset;clear hg honce hset C2 S0 hB;obtain⟨c0,c1,c2,c3,c4⟩:=za8 C3.2.1;obtain⟨d0,d1⟩:=za2 C3.2.2
   go_wp2_with fail
   clear c0 c1 c2 c3 c4 d0 d1;refine(zT9 n fine a ao av la cap ko co kv cv lc B zs os vs L (zb3 R R.length) w3 (HO.below C3.1) (HL.below C3.1) S3.out ON.1 HLO.out hko HLL.out HAL.out HC.out).mono ?_;rintro e w4 ⟨hb,⟨rfl,h1,h2⟩|⟨rfl,h1⟩⟩
   ·have HB:Hid _:=C3.1.trans (hb.mono C3.1.size)
    have HE:Hid _:=HVAL.symm.trans (zP1 HC.out OK.out ON.out h1 h2);clear hb h1 h2;go_wp2;go_ret;exact⟨by rw[HE.out];rfl,HB.out⟩
   ·have HB:Hid _:=C3.1.trans (hb.mono C3.1.size)
    have HE:Hid _:=HVAL.symm.trans (zD7 HC.out OK.out ON.out h1);clear hb h1;go_wp2;go_ret;exact⟨by rw[HE.out];rfl,HB.out⟩
  ·have C3:Hid (CP w w3 _ _):=C2.grown S0.out hB hg
   have HE:Hid _:=HVAL.symm.trans (ya0 HC.out OK.out honce);clear hg honce;go_wp2;go_ret;exact⟨by rw[HE.out];rfl,C3.1⟩
 ·have HB:Hid _:=C0.1.trans (hb.mono C0.1.size)
  have HE:Hid _:=HVAL.symm.trans (zC0 HC.out hok);clear hb hok;go_wp2;go_ret;exact⟨by rw[HE.out];rfl,HB.out⟩
set_option maxRecDepth 100000 in
set_option maxHeartbeats 2000000 in
theorem zD8(n fine:Int)(a ao av ra la:Option Addr)(cap ko co kv cv rc lc:Nat)(zs os vs L:List Int)(R:List RT)(w:World)(hA:za0 w a zs)(hO:za0 w ao os)(hV:za0 w av vs)(hR:za6 w ra R)(hL:za0 w la L)(hlo:os.length=ko*6)(hlv:vs.length=kv*5)(hko:ko<=9223372036854775807)(hkv:kv<=9223372036854775807)(hn:R.length<=1048576)(hi:∀r∈R,r.ids.length<=1048576)(hrc:∀r∈R,r.ids.length<=r.c)(hll:L.length<=1048576)(hal:(zb3 R R.length).length<=1048576)(hwl:zb8 n zs os vs ko kv fine=true->∀x∈L,(Lit.int .i64 x).wf=true):
 Calls Tryz.prog 12 #[.agg #[.int .i64 n,.slice a zs.length cap,.slice ao ko co,.slice av kv cv,.int .i64 fine],.agg #[.slice ra R.length rc,.slice la L.length lc]] w fun e w'=>e=.returned (.int .i64 (zd7 n zs os vs ko kv fine R L))/\Below w.heap.size w w':=by
 have HA:Hid (za0 w a zs):=hA;have HO:Hid (za0 w ao os):=hO;have HV:Hid (za0 w av vs):=hV;have HR:Hid (za6 w ra R):=hR;have HL:Hid (za0 w la L):=hL;have HLO:Hid _:=hlo;have HLV:Hid _:=hlv;have HN:Hid _:=hn;have HLL:Hid _:=hll;have HAL:Hid _:=hal;have HI:Hid _:=hi;have HRC:Hid _:=hrc;have HWL:Hid _:=hwl;clear hA hO hV hR hL hlo hlv hi hrc hwl hn hll hal;obtain⟨v,HVAL⟩:=nmd (zd7 n zs os vs ko kv fine R L);rw[HVAL.out];have C0:Hid (CP w ((w.alloc (.cells #[.int .i64 n,.slice a zs.length cap,.slice ao ko co,.slice av kv cv,.int .i64 fine] 30)).alloc (.cells #[.slice ra R.length rc,.slice la L.length lc] 33)) _ _):=CP.new w _ _;obtain⟨c0,c1,c2,c3,c4⟩:=za8 C0.2.1;go_enter Tryz.func12,Tryz.ntmps12
 go_wp2_with fail
 clear c0 c1 c2 c3 c4;generalize(w.alloc (.cells #[.int .i64 n,.slice a zs.length cap,.slice ao ko co,.slice av kv cv,.int .i64 fine] 30)).alloc (.cells #[.slice ra R.length rc,.slice la L.length lc] 33)=W0 at*;refine(z05 n fine a ao av cap ko co kv cv zs os vs W0 (HA.below C0.1) (HO.below C0.1) (HV.below C0.1) HLO.out HLV.out hko hkv).mono ?_;rintro e w1 ⟨rfl,hb⟩;have C1:Hid (CP w w1 _ _):=C0.below hb;clear hb C0;by_cases hc:zb8 n zs os vs ko kv fine=true
 ·have HC:Hid _:=hc
  rw[hc];clear hc;obtain⟨c0,c1,c2,c3,c4⟩:=za8 C1.2.1;obtain⟨d0,d1⟩:=za2 C1.2.2
  go_wp2_with fail
  clear c0 c1 c2 c3 c4 d0 d1;refine(zL1 n fine a ao av ra la cap ko co kv cv rc lc zs os vs L R w1 (HA.below C1.1) (HO.below C1.1) (HV.below C1.1) (HR.below C1.1) (HL.below C1.1) HLO.out HLV.out hko hkv HN.out HI.out HRC.out HLL.out HAL.out (HWL.out HC.out) HC.out).mono ?_;rintro e w2 ⟨rfl,hb⟩;have HB:Hid _:=C1.1.trans (hb.mono C1.1.size);clear hb;rw[HVAL.out];go_wp2;go_ret;exact⟨rfl,HB.out⟩
 ·have hc2:zb8 n zs os vs ko kv fine=false:=by simpa using hc
  have HE:Hid _:=HVAL.symm.trans (zZ4 hc2);rw[hc2];clear hc hc2;go_wp2;go_ret;exact⟨by rw[HE.out];rfl,C1.1⟩
theorem zn9(n fine:Int)(a ao av ra la:Option Addr)(cap ko co kv cv rc lc:Nat)(zs os vs L:List Int)(R:List RT)(w:World)(hA:za0 w a zs)(hO:za0 w ao os)(hV:za0 w av vs)(hR:za6 w ra R)(hL:za0 w la L)(hlo:os.length=ko*6)(hlv:vs.length=kv*5)(hko:ko<=9223372036854775807)(hkv:kv<=9223372036854775807)(hn:R.length<=1048576)(hi:∀r∈R,r.ids.length<=1048576)(hrc:∀r∈R,r.ids.length<=r.c)(hll:L.length<=1048576)(hal:(zb3 R R.length).length<=1048576)(hwl:∀x∈L,(Lit.int .i64 x).wf=true):
 Calls Tryz.prog 12 #[.agg #[.int .i64 n,.slice a zs.length cap,.slice ao ko co,.slice av kv cv,.int .i64 fine],.agg #[.slice ra R.length rc,.slice la L.length lc]] w fun e w'=>e=.returned (.int .i64 (zd7 n zs os vs ko kv fine R L))/\Below w.heap.size w w':=by
 exact zD8 n fine a ao av ra la cap ko co kv cv rc lc zs os vs L R w hA hO hV hR hL hlo hlv hko hkv hn hi hrc hll hal (fun _=>hwl)
end Go.Proofs.YtjobhigmdaiinaaGreat
namespace Go.Proofs.YtjobhigmdaiinaaGreat
open Go.RowKit
theorem zn8(w:World){ops:Array Oper}{rest:List Oper}{o:Oper}{a:Act}{Q:Exit->Act->World->Prop}
 (hg:o.guard=none) (s x:Operand) (hop:o.op=Op.call {callee:=Callee.builtin Builtin.append,args:=#[s,x],argTypes:=#[24,24]})
 (base:Nat) (v:Value) (k:Nat) (xs:List Value) (hs:a.eval s=v) (hown:w.ownsRow base 2 1 v k xs) (ad:Addr) (c:Nat) (x0:Value) (hx:a.eval x=.slice (some ad) 1 c)
 (hc:w.cell? ad=some x0) (h1c:x0.oneCell'=true) (b1:k<=1048576) (hb:base<=w.heap.size)
 (hK:∀v' w',w'.ownsRow base 2 1 v' (k+1) (xs++[x0])->w.grownBy w' v.ownBlock->wpList Tryz.prog ops Q rest (a.put o.dst v') w'):
 wpList Tryz.prog ops Q (o::rest) a w:=by
 obtain⟨i0,hi,hz0,hz1,hz2⟩:=info_parts Tryz.info2;exact wpList_append_own w hg s x _ hop base _ i0 _ 1 8 Tryz.underlying24 hi hz0 hz1 hz2 rfl (by decide) v k xs hs hown ad 1 c [x0] hx rfl (zC5 hc) (by simpa using h1c) (by unfold maxLen;omega) (by omega) hb (fun v' w' h1 h2 _=>hK v' w' h1 h2)
theorem zi4{w:World}{base size n k:Nat}{e T:TypeId}{v:Value}{xs:List Value}{cs:Array Value}{q:Nat×Nat}(h:w.ownsRow base e size v n xs)(hr:w.heap[k]? =some (.cells cs T q))(hT:T≠e):some k≠v.ownBlock:=fun he=>by
 rcases h.2 with⟨rfl,_⟩|⟨g,c,cur,rfl,_,hg,_⟩
 ·cases he
 ·simp[Value.ownBlock]at he
  rw[<-he,hr]at hg;simp at hg;exact hT hg.2.1
theorem CP.grow{w W W':World}{cs ps:Array Value}{base size n:Nat}{v:Value}{xs:List Value}(h:CP w W cs ps)(ho:W.ownsRow base 2 size v n xs)(hb:w.heap.size<=base)(hg:W.grownBy W' v.ownBlock):CP w W' cs ps:=by
 refine⟨h.1.grown hg h.1.size (fun j e=> ?_),za5 hg h.2.1 (zi4 ho h.2.1 (by decide)),za5 hg h.2.2 (zi4 ho h.2.2 (by decide))⟩;rcases ho.2 with⟨rfl,_⟩|⟨g,c,cur,rfl,hl,_⟩
 ·cases e
 ·simp[Value.ownBlock]at e
  omega
theorem CP.alloc{w W:World}{cs ps:Array Value}(h:CP w W cs ps)(o:Obj):CP w (W.alloc o) cs ps:=h.below ((Below.refl _ _).alloc (Nat.le_refl _) _)
theorem CP.drew{w W:World}{cs ps:Array Value}(h:CP w W cs ps):CP w W.drew cs ps:=h.below (Below.refl _ _).drew
theorem CP.big{w W:World}{cs ps:Array Value}(h:CP w W cs ps):w.heap.size+1<W.heap.size:=za3 h.2.2
theorem CP.set{w W:World}{cs ps:Array Value}(h:CP w W cs ps){k i:Nat}{v:Value}(hk:w.heap.size+1<k):CP w (W.setCell ⟨k,i,none⟩ v) cs ps:=
 ⟨h.1.setCell (by simp;omega) _,by rw[heap_setCell_other _ _ _ _ (by simp;omega)];exact h.2.1,by rw[heap_setCell_other _ _ _ _ (by simp;omega)];exact h.2.2⟩
theorem zX9(w1:World):(w1.alloc (.cells #[] 2)).ownsRow w1.heap.size 2 1 (.slice (some ⟨w1.heap.size,0,none⟩) 0 0) 0 (([]:List Int).map (Value.int .i64)):=
 ⟨rfl,.inr ⟨w1.heap.size,0,#[],rfl,Nat.le_refl _,heap_alloc_new _ _,Nat.le_refl _,by unfold maxLen;omega,rfl,rfl⟩⟩
def Tw(tw:Bool)(l:List Int):Prop:=tw=true↔¬l.Nodup
theorem Tw.nil:Tw false []:=by simp[Tw]
theorem Tw.step{tw:Bool}{l:List Int}(h:Tw tw l)(x:Int):Tw (tw||decide (x∈l)) (l++[x]):=by
 unfold Tw at*;rw[zt5];cases tw
 ·have:l.Nodup:=by
   by_cases hn:l.Nodup
   ·exact hn
   ·exact absurd (h.2 hn) (by simp)
  simp[this]
 ·have:=h.1 rfl
  simp[this]
def TwL(tw:Bool)(fl L:List Int)(j:Nat):Prop:=tw=true↔¬(fl.Nodup/\∀i,i<j->L.getD i 0∉fl)
theorem TwL.start{tw:Bool}{fl:List Int}(h:Tw tw fl)(L:List Int):TwL tw fl L 0:=by
 unfold TwL;unfold Tw at h;rw[h];constructor
 ·intro h1 h2;exact h1 h2.1
 ·intro h1 h2;exact h1 ⟨h2,fun i hi=>by omega⟩
theorem TwL.step{tw:Bool}{fl L:List Int}{j:Nat}(h:TwL tw fl L j):TwL (tw||decide (L.getD j 0∈fl)) fl L (j+1):=by
 unfold TwL at*;cases tw
 ·have h0:fl.Nodup/\∀i,i<j->L.getD i 0∉fl:=by
   by_cases hn:fl.Nodup/\∀i,i<j->L.getD i 0∉fl
   ·exact hn
   ·exact absurd (h.2 hn) (by simp)
  by_cases hm:L.getD j 0∈fl
  ·rw[decide_eq_true hm]
   exact⟨fun _ hx=>hx.2 j (by omega) hm,fun _=>rfl⟩
  ·rw[decide_eq_false hm]
   refine⟨fun h=>(by cases h),fun hx=>absurd ⟨h0.1,fun i hi=> ?_⟩ hx⟩;by_cases e:i=j
   ·rw[e];exact hm
   ·exact h0.2 i (by omega)
 ·have:=h.1 rfl
  exact⟨fun _ hx=>this ⟨hx.1,fun i hi=>hx.2 i (by omega)⟩,fun _=>rfl⟩
theorem TwL.done{tw:Bool}{fl L:List Int}(h:TwL tw fl L L.length):tw=true↔¬zL8 fl L:=by
 unfold TwL at h;rw[h];unfold zL8;constructor
 ·intro h1 h2
  exact h1 ⟨h2.1,fun i hi=>h2.2 _ (by rw[List.getD_eq_getElem?_getD,List.getElem?_eq_getElem hi];simp)⟩
 ·intro h1 h2
  refine h1 ⟨h2.1,fun x hx=> ?_⟩;obtain⟨j,hj,e⟩:=List.getElem_of_mem hx;have:=h2.2 j hj;rw[List.getD_eq_getElem?_getD,List.getElem?_eq_getElem hj]at this;rw[<-e];exact this
set_option maxRecDepth 10000 in
set_option maxHeartbeats 4000000 in
theorem z11(n fine:Int)(a ao av ra la:Option Addr)(cap ko co kv cv rc lc:Nat)(zs os vs L:List Int)(R:List RT)(w:World)(hA:za0 w a zs)(hO:za0 w ao os)(hV:za0 w av vs)(hR:za6 w ra R)(hL:za0 w la L)(hlo:os.length=ko*6)(hlv:vs.length=kv*5)(hko:ko<=9223372036854775807)(hkv:kv<=9223372036854775807)(hn:R.length<=1048576)(hi:∀r∈R,r.ids.length<=1048576)(hrc:∀r∈R,r.ids.length<=r.c)(hll:L.length<=1048576)(hal:(zb3 R R.length).length<=1048576):
 Calls Tryz.prog 23 #[.agg #[.int .i64 n,.slice a zs.length cap,.slice ao ko co,.slice av kv cv,.int .i64 fine],.agg #[.slice ra R.length rc,.slice la L.length lc]] w fun e w'=>e=.returned (.int .i64 (zd7 n zs os vs ko kv fine R L))/\Below w.heap.size w w':=by
 have HA:Hid (za0 w a zs):=hA;have HO:Hid (za0 w ao os):=hO;have HV:Hid (za0 w av vs):=hV;have HR:Hid (za6 w ra R):=hR;have HL:Hid (za0 w la L):=hL;have HLO:Hid _:=hlo;have HLV:Hid _:=hlv;have HAL:Hid _:=hal;have HI:Hid (∀r∈R,r.ids.length<=1048576):=hi;have HRC:Hid (∀r∈R,r.ids.length<=r.c):=hrc;clear hA hO hV hR hL hlo hlv hi hrc hal;obtain⟨v,HVAL⟩:=nmd (zd7 n zs os vs ko kv fine R L);rw[HVAL.out];obtain⟨m,HN⟩:=nmd R.length;obtain⟨ml,HM⟩:=nmd L.length;rw[HN.out]at hn⊢;rw[HM.out]at hll⊢;have C0:Hid (CP w ((w.alloc (.cells #[.int .i64 n,.slice a zs.length cap,.slice ao ko co,.slice av kv cv,.int .i64 fine] 30)).alloc (.cells #[.slice ra m rc,.slice la ml lc] 33)) _ _):=CP.new w _ _;obtain⟨c0,c1,c2,c3,c4⟩:=za8 C0.2.1;go_enter Tryz.func23,Tryz.ntmps23
 go_wp2_with fail
 clear c0 c1 c2 c3 c4;generalize(w.alloc (.cells #[.int .i64 n,.slice a zs.length cap,.slice ao ko co,.slice av kv cv,.int .i64 fine] 30)).alloc (.cells #[.slice ra m rc,.slice la ml lc] 33)=W0 at*;refine(zr3 n fine a ao av cap ko co kv cv zs os vs W0 (HA.below C0.1) (HO.below C0.1) (HV.below C0.1) HLO.out HLV.out hko hkv).mono ?_;rintro e w1 ⟨rfl,hb⟩;have C1:Hid (CP w w1 #[.int .i64 n,.slice a zs.length cap,.slice ao ko co,.slice av kv cv,.int .i64 fine] #[.slice ra m rc,.slice la ml lc]):=C0.below hb;clear hb C0;by_cases hc2:zb8 n zs os vs ko kv fine=false
 ·have HE:Hid (v=1):=HVAL.symm.trans (zZ4 hc2)
  rw[hc2];clear hc2;go_wp2;go_ret;exact⟨by rw[HE.out];rfl,C1.1⟩
 have hcc:zb8 n zs os vs ko kv fine=true:=by simpa using hc2
 have HC:Hid (zb8 n zs os vs ko kv fine=true):=hcc;rw[HC.out];clear hc2 hcc;have HBASE:Hid (w.heap.size<=w1.heap.size):=C1.1.size;have O0:Hid ((w1.alloc (.cells #[] 2)).ownsRow w1.heap.size 2 1 (.slice (some ⟨w1.heap.size,0,none⟩) 0 0) 0 (([]:List Int).map (Value.int .i64))):=zX9 w1;have C2:Hid (CP w (w1.alloc (.cells #[] 2)) #[.int .i64 n,.slice a zs.length cap,.slice ao ko co,.slice av kv cv,.int .i64 fine] #[.slice ra m rc,.slice la ml lc]):=C1.below ((Below.refl _ _).alloc (Nat.le_refl _) _);have HSZ:Hid (w1.heap.size<=(w1.alloc (.cells #[] 2)).heap.size):=by show _<=_;simp
 go_wp2_with fail
 generalize hZ:w1.alloc (.cells #[] 2)=W2 at*;generalize w1.heap.size=base at*;clear hZ C1;go_loopw[5,6,7] (fun ts tt ti wr=>∃(k:Nat) (tw:Bool),k<=m/\ti=.int .i64 k/\tt=.bool tw/\Tw tw (zb3 R k)/\zf0 n zs os vs ko kv R k/\wr.ownsRow base 2 1 ts (zb3 R k).length ((zb3 R k).map (Value.int .i64))/\CP w wr #[.int .i64 n,.slice a zs.length cap,.slice ao ko co,.slice av kv cv,.int .i64 fine] #[.slice ra m rc,.slice la ml lc]/\base<=wr.heap.size) (fun _ _ ti _=>m - (intOf ti).toNat)
 case atStart=>exact⟨0,false,Nat.zero_le _,rfl,rfl,by rw[zl6];exact Tw.nil,zf0.zero _ _ _ _ _ _ _,by rw[zl6];exact O0.out,C2.out,HSZ.out⟩
 case round=>
  clear C2 O0 HSZ;obtain⟨k,tw,hk,rfl,rfl,htw,hok,hown,hcp,hsz⟩:=hrel;have TW:Hid (Tw tw (zb3 R k)):=htw;have OK:Hid (zf0 n zs os vs ko kv R k):=hok;have OW:Hid (wr.ownsRow base 2 1 u5 (zb3 R k).length ((zb3 R k).map (Value.int .i64))):=hown;have CW:Hid (CP w wr #[.int .i64 n,.slice a zs.length cap,.slice ao ko co,.slice av kv cv,.int .i64 fine] #[.slice ra m rc,.slice la ml lc]):=hcp;have SZ:Hid (base<=wr.heap.size):=hsz;clear htw hok hown hcp hsz;by_cases hlt:k<m
  ·have hkl:k<R.length:=by rw[HN.out];exact hlt
   have hmem:R.getD k rt0∈R:=by rw[List.getD_eq_getElem?_getD,List.getElem?_eq_getElem hkl];simp
   have hRW:=HR.below CW.1;obtain⟨b,off,rfl,h1,h2,h3⟩:=hRW k hkl;have iw:za0 w (R.getD k rt0).a (R.getD k rt0).ids:=by obtain⟨_,_,_,_,_,i⟩:=HR.out k hkl;exact i
   have hml:=HI.out _ hmem;have HRCL:Hid _:=HRC.out _ hmem;have HNIL:Hid ((R.getD k rt0).ids.length=0->v=2):=fun h=>HVAL.symm.trans (zC0 HC.out (HN.out▸fun H=>(H k hlt).2.1 (List.eq_nil_of_length_eq_zero h)));have HCOD:Hid (codeV true n zs os vs ko kv (R.getD k rt0).v (R.getD k rt0).ids≠0->v=2):=fun h=>HVAL.symm.trans (zC0 HC.out (HN.out▸fun H=>h (H k hlt).2.2));have HLOW:Hid (0<k->¬(R.getD (k - 1) rt0).v<(R.getD k rt0).v->v=2):=fun h0 h=>HVAL.symm.trans (zC0 HC.out (HN.out▸fun H=>h ((H k hlt).1 h0)));have HSTEP:Hid ((0<k->(R.getD (k - 1) rt0).v<(R.getD k rt0).v)->¬(R.getD k rt0).ids.length=0->codeV true n zs os vs ko kv (R.getD k rt0).v (R.getD k rt0).ids=0->zf0 n zs os vs ko kv R (k+1)):=fun h1 h2 h3=>OK.step h1 (fun e=>h2 (by rw[e];rfl)) h3
   have HALLS:Hid (zb3 R (k+1)=zb3 R k++(R.getD k rt0).ids):=zg3 hkl;have HPART:Hid (∀j,j<=(R.getD k rt0).ids.length->(zb3 R k++(R.getD k rt0).ids.take j).length<=1048576):=fun j hj=>Nat.le_trans (zU9 hkl hj) HAL.out;obtain⟨r,HRT⟩:=nmd (R.getD k rt0);rw[HRT.out]at h1 h2 h3 iw hml HRCL HNIL HCOD HLOW HSTEP HALLS HPART;have hpv:0<k->∃p,(R.getD (k - 1) rt0).v=p/\wr.cell? ⟨b,off+(k - 1)*2,none⟩=some (.int .i64 p):=fun h0=>by
    obtain⟨b',off',e,h1',_,_⟩:=hRW (k - 1) (by omega);simp at e;obtain⟨rfl,rfl⟩:=e;exact⟨_,rfl,h1'⟩
   have HPV:Hid _:=hpv;obtain⟨ra0,HRA⟩:=nmd r.a;rw[HRA.out]at h2 h3 iw;have IR:Hid (za0 wr ra0 r.ids):=h3;have IW:Hid (za0 w ra0 r.ids):=iw;clear h3 iw hmem hRW hpv hkl;obtain⟨q,HQ⟩:=nmd r.ids.length;rw[HQ.out]at h2 hml HRCL HNIL HSTEP HPART;obtain⟨d0,d1⟩:=za2 CW.2.2
   go_wp2_with fail
   clear d0 d1;have BX:Hid (Below wr.heap.size wr (wr.alloc (.cells #[Value.int .i64 r.v,Value.slice ra0 q r.c] 43))):=(Below.refl _ _).alloc (Nat.le_refl _) _;have GX:Hid ((wr.alloc (.cells #[Value.int .i64 r.v,Value.slice ra0 q r.c] 43)).heap[wr.heap.size]? =_):=heap_alloc_new _ _;generalize(wr.alloc (.cells #[Value.int .i64 r.v,Value.slice ra0 q r.c] 43))=W1 at*;have CX:Hid (CP w W1 #[.int .i64 n,.slice a zs.length cap,.slice ao ko co,.slice av kv cv,.int .i64 fine] #[.slice (some ⟨b,off,none⟩) m rc,.slice la ml lc]):=CW.below BX.out;have IX:Hid (za0 W1 ra0 r.ids):=IR.below BX.out;have OX1:Hid (W1.ownsRow base 2 1 u5 (zb3 R k).length ((zb3 R k).map (Value.int .i64))):=zc2 OW.out BX.out;have SX:Hid (base<=W1.heap.size):=Nat.le_trans SZ.out BX.size;have HPX:Hid (0<k->∃p,(R.getD (k - 1) rt0).v=p/\W1.cell? ⟨b,off+(k - 1)*2,none⟩=some (.int .i64 p)):=fun h0=>by
    obtain⟨p,e,hc⟩:=HPV.out h0;exact⟨p,e,(BX.cell (p:=⟨b,off+(k - 1)*2,none⟩) (block_lt_of_cell hc)).trans hc⟩
   generalize wr.heap.size=g8 at*;clear h1 h2 CW IR OW SZ HPV BX;obtain⟨c0,c1,c2,c3,c4⟩:=za8 CX.2.1;obtain⟨d0,d1⟩:=za2 CX.2.2;obtain⟨x0,x1⟩:=za2 GX.out;have s0:=fun s:Kin W1=>s.cell c0;have s1:=fun s:Kin W1=>s.cell c1;have s2:=fun s:Kin W1=>s.cell c2;have s3:=fun s:Kin W1=>s.cell c3;have s4:=fun s:Kin W1=>s.cell c4;have t0:=fun s:Kin W1=>s.cell d0;have y0:=fun s:Kin W1=>s.cell x0;have y1:=fun s:Kin W1=>s.cell x1;clear c0 c1 c2 c3 c4 d0 d1 x0 x1;have HOKC:Hid (∀(s:Kin W1) (vb:Bool),decide (codeV true n zs os vs ko kv r.v r.ids=0)=vb->Calls Tryz.prog 56 #[.agg #[.int .i64 n,.slice a zs.length cap,.slice ao ko co,.slice av kv cv,.int .i64 fine],.agg #[.int .i64 r.v,.slice ra0 q r.c]] s.w fun e w'=>e=.returned (.bool vb)/\∃s':Kin W1,w'=s'.w):=fun s vb hvb=>by
    have:=zw5 n fine r.v a ao av ra0 cap ko co kv cv r.c zs os vs r.ids s.w ((HA.below CX.1).below s.below) ((HO.below CX.1).below s.below) ((HV.below CX.1).below s.below) (IX.below s.below) HLO.out HLV.out hko hkv (by rw[HQ.out];omega) (by rw[HQ.out];exact HRCL.out) vb (by rw[HC.out];exact hvb);rw[HQ.out]at this;exact Kin.call this
   have hkin:=Kin.there W1;have HGO:Hid ((0<k->(R.getD (k - 1) rt0).v<r.v)∨(0<k/\¬(R.getD (k - 1) rt0).v<r.v)):=by
    show _∨_;by_cases h0:0<k
    ·by_cases h:(R.getD (k - 1) rt0).v<r.v
     ·exact .inl fun _=>h
     ·exact .inr ⟨h0,h⟩
    ·exact .inl fun h=>absurd h h0
   by_cases hk0:0<k
   ·obtain⟨p,hpe,hpc⟩:=HPX.out hk0
    have HPE:Hid ((R.getD (k - 1) rt0).v=p):=hpe;have tp:=fun s:Kin W1=>s.cell hpc;have hkm:k - 1<m:=by omega
    have hw1:IntKind.i64.wrap ((k:Int) - 1)=((k - 1:Nat):Int):=by rw[IntKind.wrap_i64];omega
    clear hpe hpc;by_cases hp:p<r.v
    ·have hpd:decide (r.v<=p)=false:=by simp;omega
     by_cases hq:q=0
     ·have HE:Hid (v=2):=HNIL.out hq
      have hq1:((q:Int)==0)=true:=by simp[hq]
      refine zb2 (by kernel_rfl) (by kernel_rfl) ?_
      repeat(go_big_quiet_step (fail))
      refine wpQuiet_nil ?_;rintro _ ⟨s,rfl⟩;have C3:Hid (CP w s.w #[.int .i64 n,.slice a zs.length cap,.slice ao ko co,.slice av kv cv,.int .i64 fine] #[.slice (some ⟨b,off,none⟩) m rc,.slice la ml lc]):=CX.below s.below;generalize s.w=w3 at*;go_wp2;go_ret;exact⟨by rw[HE.out];rfl,C3.1⟩
     ·have hq1:((q:Int)==0)=false:=by simp;omega
      obtain⟨b2,off2,rfl,-⟩:=IW.out 0 (by rw[HQ.out];omega);by_cases hcode:¬codeV true n zs os vs ko kv r.v r.ids=0
      ·have HE:Hid (v=2):=HCOD.out hcode
       have HCN:Hid _:=hcode;clear hcode;refine zb2 (by kernel_rfl) (by kernel_rfl) ?_
       repeat(go_big_quiet_step ((go_at_call 56;exact HOKC.out _ _ (decide_eq_false HCN.out))))
       refine wpQuiet_nil ?_;rintro _ ⟨s,rfl⟩;have C3:Hid (CP w s.w #[.int .i64 n,.slice a zs.length cap,.slice ao ko co,.slice av kv cv,.int .i64 fine] #[.slice (some ⟨b,off,none⟩) m rc,.slice la ml lc]):=CX.below s.below;generalize s.w=w3 at*;go_wp2;go_ret;exact⟨by rw[HE.out];rfl,C3.1⟩
      ·have hcode:=Decidable.not_not.1 hcode
       have OK1:Hid (zf0 n zs os vs ko kv R (k+1)):=HSTEP.out (fun _=>by rw[HPE.out];exact hp) hq hcode;have HCN:Hid _:=hcode;clear hcode;refine zb2 (by kernel_rfl) (by kernel_rfl) ?_
       repeat(go_big_quiet_step ((go_at_call 56;exact HOKC.out _ _ (decide_eq_true HCN.out))))
       refine wpQuiet_nil ?_;rintro _ ⟨s,rfl⟩;have C3:Hid (CP w s.w #[.int .i64 n,.slice a zs.length cap,.slice ao ko co,.slice av kv cv,.int .i64 fine] #[.slice (some ⟨b,off,none⟩) m rc,.slice la ml lc]):=CX.below s.below;have G3:Hid (s.w.heap[g8]? =some (.cells #[Value.int .i64 r.v,Value.slice (some ⟨b2,off2,none⟩) q r.c] 43 (0,0))):=za1 s.below (za3 GX.out) GX.out;have I3:Hid (za0 s.w (some ⟨b2,off2,none⟩) r.ids):=IX.below s.below;have O3:Hid (s.w.ownsRow base 2 1 u5 (zb3 R k).length ((zb3 R k).map (Value.int .i64))):=zc2 OX1.out s.below;have Z3:Hid (base<=s.w.heap.size):=Nat.le_trans SX.out s.below.size;generalize s.w=w3 at*;clear s0 s1 s2 s3 s4 t0 y0 y1 CX GX IX OX1 SX HOKC hkin HSTEP HNIL HCOD HLOW HRCL HPX hq hq1 hcode HCN HGO OK I3;clear tp hkm hw1 hp hpd hk0 HPE
       go_wp2_with fail
       go_loopw[5,6,9] (fun ts tt ti wr=>∃(j:Nat) (tw:Bool),j<=q/\ti=.int .i64 j/\tt=.bool tw/\Tw tw (zb3 R k++r.ids.take j)/\wr.ownsRow base 2 1 ts (zb3 R k++r.ids.take j).length ((zb3 R k++r.ids.take j).map (Value.int .i64))/\CP w wr #[.int .i64 n,.slice a zs.length cap,.slice ao ko co,.slice av kv cv,.int .i64 fine] #[.slice (some ⟨b,off,none⟩) m rc,.slice la ml lc]/\base<=wr.heap.size/\wr.heap[g8]? =some (.cells #[Value.int .i64 r.v,Value.slice (some ⟨b2,off2,none⟩) q r.c] 43 (0,0))) (fun _ _ ti _=>q - (intOf ti).toNat)
       case atStart=>exact⟨0,tw,Nat.zero_le _,rfl,rfl,by rw[List.take_zero,List.append_nil];exact TW.out,by rw[List.take_zero,List.append_nil];exact O3.out,C3.out,Z3.out,G3.out⟩
       case round=>
        clear C3 O3 Z3 G3 TW;obtain⟨j,tw2,hj,rfl,rfl,htw,hown,hcp,hsz,hg8⟩:=hrel;have SZ2:Hid (base<=wr.heap.size):=hsz;have CW2:Hid (CP w wr #[.int .i64 n,.slice a zs.length cap,.slice ao ko co,.slice av kv cv,.int .i64 fine] #[.slice (some ⟨b,off,none⟩) m rc,.slice la ml lc]):=hcp;have G82:Hid (wr.heap[g8]? =_):=hg8;have HFLN:Hid ((zb3 R k++r.ids.take j).length<=1048576):=HPART.out j hj;by_cases hjq:j<q
        ·have hjl:j<r.ids.length:=by rw[HQ.out];exact hjq
         have HSN:Hid (zb3 R k++r.ids.take (j+1)=(zb3 R k++r.ids.take j)++[r.ids.getD j 0]):=by show _=_;rw[ze2 _ _ hjl,List.append_assoc]
         obtain⟨fl,HFL⟩:=nmd (zb3 R k++r.ids.take j);obtain⟨id,HID⟩:=nmd (r.ids.getD j 0);rw[HID.out]at HSN;have hcc:=zn0 (IW.below hcp.1) hjl HID.out;rw[HFL.out]at htw hown HFLN HSN;have TW2:Hid (Tw tw2 fl):=htw;obtain⟨sa,sc,rfl,hxl,hsI⟩:=zy0 hown;have OW2:Hid (wr.ownsRow base 2 1 (.slice sa fl.length sc) fl.length (fl.map (Value.int .i64))):=hown;have SI:Hid (za0 wr sa fl):=hsI;have hfl:fl.length<=1048576:=HFLN.out;have HHAS:Hid (zr8 fl fl.length id=decide (id∈fl)):=z66 fl id;clear htw hown hcp hsz hg8 hsI hxl hjl HFLN;obtain⟨bb,HBB⟩:=nmd (decide (id∈fl));rw[HBB.out]at HHAS;have HTN:Hid (Tw (tw2||bb) (zb3 R k++r.ids.take (j+1))):=by
          have:=TW2.step id;rw[HBB.out]at this;rw[HSN.out];exact this
         obtain⟨nf,HNF⟩:=nmd fl.length;have HCALL:=zx3 sa fl.length sc id fl wr bb HHAS.out SI.out (Nat.le_refl _) (by omega);rw[HNF.out]at hfl OW2 HCALL⊢;obtain⟨x0,x1⟩:=za2 G82.out;cases tw2
         ·go_wp2_with(first
           |(go_at_call 57;refine HCALL.mono ?_;rintro e w' ⟨rfl,rfl⟩)
           |(at_builtin;refine zn8 _ rfl _ _ rfl base (.slice sa nf sc) nf _ rfl (OW2.alloc _) _ _ (.int .i64 id) rfl (zl7 _ _ _ _ (by simp)) rfl (by omega) (Nat.le_trans SZ2.out (by simp)) ?_;intro v' w4 hown4 hgrow4)
           |go_in)
          have CA:Hid (CP w _ #[.int .i64 n,.slice a zs.length cap,.slice ao ko co,.slice av kv cv,.int .i64 fine] #[.slice (some ⟨b,off,none⟩) m rc,.slice la ml lc]):=CW2.below ((Below.refl _ _).alloc (Nat.le_refl _) (.cells #[Value.int .i64 id] 2));have GA:Hid _:=za1 ((Below.refl _ _).alloc (Nat.le_refl _) (.cells #[Value.int .i64 id] 2)) (za3 G82.out) G82.out;have CB:Hid (CP w w4 #[.int .i64 n,.slice a zs.length cap,.slice ao ko co,.slice av kv cv,.int .i64 fine] #[.slice (some ⟨b,off,none⟩) m rc,.slice la ml lc]):=CA.grow (OW2.alloc _) HBASE.out hgrow4;have GB:Hid (w4.heap[g8]? =_):=za5 hgrow4 GA.out (zi4 (OW2.alloc _) GA.out (by decide));have ZB:Hid (base<=w4.heap.size):=by
           have h1:=hgrow4.size;have h2:=SZ2.out;simp at h1;show _<=_;omega
          have OB:Hid (w4.ownsRow base 2 1 v' (zb3 R k++r.ids.take (j+1)).length ((zb3 R k++r.ids.take (j+1)).map (Value.int .i64))):=by
           rw[HSN.out,List.length_append,List.map_append,HNF.out];exact hown4
          clear CA GA;go_roundw
          case rel=>exact⟨j+1,_,by omega,by go_num,rfl,HTN.out,OB.out,CB.out,ZB.out,GB.out⟩
          case measure=>simp[intOf];omega
         ·go_wp2_with(first
           |(at_builtin;refine zn8 _ rfl _ _ rfl base (.slice sa nf sc) nf _ rfl (OW2.alloc _) _ _ (.int .i64 id) rfl (zl7 _ _ _ _ (by simp)) rfl (by omega) (Nat.le_trans SZ2.out (by simp)) ?_;intro v' w4 hown4 hgrow4)
           |go_in)
          have CA:Hid (CP w _ #[.int .i64 n,.slice a zs.length cap,.slice ao ko co,.slice av kv cv,.int .i64 fine] #[.slice (some ⟨b,off,none⟩) m rc,.slice la ml lc]):=CW2.below ((Below.refl _ _).alloc (Nat.le_refl _) (.cells #[Value.int .i64 id] 2));have GA:Hid _:=za1 ((Below.refl _ _).alloc (Nat.le_refl _) (.cells #[Value.int .i64 id] 2)) (za3 G82.out) G82.out;have CB:Hid (CP w w4 #[.int .i64 n,.slice a zs.length cap,.slice ao ko co,.slice av kv cv,.int .i64 fine] #[.slice (some ⟨b,off,none⟩) m rc,.slice la ml lc]):=CA.grow (OW2.alloc _) HBASE.out hgrow4;have GB:Hid (w4.heap[g8]? =_):=za5 hgrow4 GA.out (zi4 (OW2.alloc _) GA.out (by decide));have ZB:Hid (base<=w4.heap.size):=by
           have h1:=hgrow4.size;have h2:=SZ2.out;simp at h1;show _<=_;omega
          have OB:Hid (w4.ownsRow base 2 1 v' (zb3 R k++r.ids.take (j+1)).length ((zb3 R k++r.ids.take (j+1)).map (Value.int .i64))):=by
           rw[HSN.out,List.length_append,List.map_append,HNF.out];exact hown4
          clear CA GA;go_roundw
          case rel=>exact⟨j+1,_,by omega,by go_num,rfl,HTN.out,OB.out,CB.out,ZB.out,GB.out⟩
          case measure=>simp[intOf];omega
        ·have hjq2:j=q:=by omega
         have HA2:Hid (zb3 R k++r.ids.take j=zb3 R (k+1)):=by
          show _=_;rw[HALLS.out,hjq2,<-HQ.out,List.take_length]
         rw[HA2.out]at htw hown;have TW3:Hid (Tw tw2 (zb3 R (k+1))):=htw;have OW3:Hid (wr.ownsRow base 2 1 u5 (zb3 R (k+1)).length ((zb3 R (k+1)).map (Value.int .i64))):=hown;obtain⟨x0,x1⟩:=za2 G82.out;clear hjq2 htw hown hcp hsz hg8;go_wp2
         first
          |exact⟨⟨k+1,tw2,by omega,by go_num,rfl,TW3.out,OK1.out,OW3.out,CW2.out,SZ2.out⟩,by simp[intOf];omega⟩
          |(go_roundw
            case rel=>exact⟨k+1,tw2,by omega,by go_num,rfl,TW3.out,OK1.out,OW3.out,CW2.out,SZ2.out⟩
            case measure=>simp[intOf];omega)
    ·have HE:Hid (v=2):=HLOW.out hk0 (by rw[HPE.out];first|exact hp|omega)
     have hpd:decide (r.v<=p)=true:=by simp;omega
     refine zb2 (by kernel_rfl) (by kernel_rfl) ?_
     repeat(go_big_quiet_step (fail))
     refine wpQuiet_nil ?_;rintro _ ⟨s,rfl⟩;have C3:Hid (CP w s.w #[.int .i64 n,.slice a zs.length cap,.slice ao ko co,.slice av kv cv,.int .i64 fine] #[.slice (some ⟨b,off,none⟩) m rc,.slice la ml lc]):=CX.below s.below;generalize s.w=w3 at*;go_wp2;go_ret;exact⟨by rw[HE.out];rfl,C3.1⟩
   ·have hkz:(decide (0<k))=false:=by simp;omega
    have hk1:k<=0:=by omega
    by_cases hq:q=0
    ·have HE:Hid (v=2):=HNIL.out hq
     have hq1:((q:Int)==0)=true:=by simp[hq]
     refine zb2 (by kernel_rfl) (by kernel_rfl) ?_
     repeat(go_big_quiet_step (fail))
     refine wpQuiet_nil ?_;rintro _ ⟨s,rfl⟩;have C3:Hid (CP w s.w #[.int .i64 n,.slice a zs.length cap,.slice ao ko co,.slice av kv cv,.int .i64 fine] #[.slice (some ⟨b,off,none⟩) m rc,.slice la ml lc]):=CX.below s.below;generalize s.w=w3 at*;go_wp2;go_ret;exact⟨by rw[HE.out];rfl,C3.1⟩
    ·have hq1:((q:Int)==0)=false:=by simp;omega
     obtain⟨b2,off2,rfl,-⟩:=IW.out 0 (by rw[HQ.out];omega);by_cases hcode:¬codeV true n zs os vs ko kv r.v r.ids=0
     ·have HE:Hid (v=2):=HCOD.out hcode
      have HCN:Hid _:=hcode;clear hcode;refine zb2 (by kernel_rfl) (by kernel_rfl) ?_
      repeat(go_big_quiet_step ((go_at_call 56;exact HOKC.out _ _ (decide_eq_false HCN.out))))
      refine wpQuiet_nil ?_;rintro _ ⟨s,rfl⟩;have C3:Hid (CP w s.w #[.int .i64 n,.slice a zs.length cap,.slice ao ko co,.slice av kv cv,.int .i64 fine] #[.slice (some ⟨b,off,none⟩) m rc,.slice la ml lc]):=CX.below s.below;generalize s.w=w3 at*;go_wp2;go_ret;exact⟨by rw[HE.out];rfl,C3.1⟩
     ·have hcode:=Decidable.not_not.1 hcode
      have OK1:Hid (zf0 n zs os vs ko kv R (k+1)):=HSTEP.out (fun h=>absurd h hk0) hq hcode;have HCN:Hid _:=hcode;clear hcode;refine zb2 (by kernel_rfl) (by kernel_rfl) ?_
      repeat(go_big_quiet_step ((go_at_call 56;exact HOKC.out _ _ (decide_eq_true HCN.out))))
      refine wpQuiet_nil ?_;rintro _ ⟨s,rfl⟩;have C3:Hid (CP w s.w #[.int .i64 n,.slice a zs.length cap,.slice ao ko co,.slice av kv cv,.int .i64 fine] #[.slice (some ⟨b,off,none⟩) m rc,.slice la ml lc]):=CX.below s.below;have G3:Hid (s.w.heap[g8]? =some (.cells #[Value.int .i64 r.v,Value.slice (some ⟨b2,off2,none⟩) q r.c] 43 (0,0))):=za1 s.below (za3 GX.out) GX.out;have I3:Hid (za0 s.w (some ⟨b2,off2,none⟩) r.ids):=IX.below s.below;have O3:Hid (s.w.ownsRow base 2 1 u5 (zb3 R k).length ((zb3 R k).map (Value.int .i64))):=zc2 OX1.out s.below;have Z3:Hid (base<=s.w.heap.size):=Nat.le_trans SX.out s.below.size;generalize s.w=w3 at*;clear s0 s1 s2 s3 s4 t0 y0 y1 CX GX IX OX1 SX HOKC hkin HSTEP HNIL HCOD HLOW HRCL HPX hq hq1 hcode HCN HGO OK I3;clear hkz hk1 hk0
      go_wp2_with fail
      go_loopw[5,6,9] (fun ts tt ti wr=>∃(j:Nat) (tw:Bool),j<=q/\ti=.int .i64 j/\tt=.bool tw/\Tw tw (zb3 R k++r.ids.take j)/\wr.ownsRow base 2 1 ts (zb3 R k++r.ids.take j).length ((zb3 R k++r.ids.take j).map (Value.int .i64))/\CP w wr #[.int .i64 n,.slice a zs.length cap,.slice ao ko co,.slice av kv cv,.int .i64 fine] #[.slice (some ⟨b,off,none⟩) m rc,.slice la ml lc]/\base<=wr.heap.size/\wr.heap[g8]? =some (.cells #[Value.int .i64 r.v,Value.slice (some ⟨b2,off2,none⟩) q r.c] 43 (0,0))) (fun _ _ ti _=>q - (intOf ti).toNat)
      case atStart=>exact⟨0,tw,Nat.zero_le _,rfl,rfl,by rw[List.take_zero,List.append_nil];exact TW.out,by rw[List.take_zero,List.append_nil];exact O3.out,C3.out,Z3.out,G3.out⟩
      case round=>
       clear C3 O3 Z3 G3 TW;obtain⟨j,tw2,hj,rfl,rfl,htw,hown,hcp,hsz,hg8⟩:=hrel;have SZ2:Hid (base<=wr.heap.size):=hsz;have CW2:Hid (CP w wr #[.int .i64 n,.slice a zs.length cap,.slice ao ko co,.slice av kv cv,.int .i64 fine] #[.slice (some ⟨b,off,none⟩) m rc,.slice la ml lc]):=hcp;have G82:Hid (wr.heap[g8]? =_):=hg8;have HFLN:Hid ((zb3 R k++r.ids.take j).length<=1048576):=HPART.out j hj;by_cases hjq:j<q
       ·have hjl:j<r.ids.length:=by rw[HQ.out];exact hjq
        have HSN:Hid (zb3 R k++r.ids.take (j+1)=(zb3 R k++r.ids.take j)++[r.ids.getD j 0]):=by show _=_;rw[ze2 _ _ hjl,List.append_assoc]
        obtain⟨fl,HFL⟩:=nmd (zb3 R k++r.ids.take j);obtain⟨id,HID⟩:=nmd (r.ids.getD j 0);rw[HID.out]at HSN;have hcc:=zn0 (IW.below hcp.1) hjl HID.out;rw[HFL.out]at htw hown HFLN HSN;have TW2:Hid (Tw tw2 fl):=htw;obtain⟨sa,sc,rfl,hxl,hsI⟩:=zy0 hown;have OW2:Hid (wr.ownsRow base 2 1 (.slice sa fl.length sc) fl.length (fl.map (Value.int .i64))):=hown;have SI:Hid (za0 wr sa fl):=hsI;have hfl:fl.length<=1048576:=HFLN.out;have HHAS:Hid (zr8 fl fl.length id=decide (id∈fl)):=z66 fl id;clear htw hown hcp hsz hg8 hsI hxl hjl HFLN;obtain⟨bb,HBB⟩:=nmd (decide (id∈fl));rw[HBB.out]at HHAS;have HTN:Hid (Tw (tw2||bb) (zb3 R k++r.ids.take (j+1))):=by
         have:=TW2.step id;rw[HBB.out]at this;rw[HSN.out];exact this
        obtain⟨nf,HNF⟩:=nmd fl.length;have HCALL:=zx3 sa fl.length sc id fl wr bb HHAS.out SI.out (Nat.le_refl _) (by omega);rw[HNF.out]at hfl OW2 HCALL⊢;obtain⟨x0,x1⟩:=za2 G82.out;cases tw2
        ·go_wp2_with(first
          |(go_at_call 57;refine HCALL.mono ?_;rintro e w' ⟨rfl,rfl⟩)
          |(at_builtin;refine zn8 _ rfl _ _ rfl base (.slice sa nf sc) nf _ rfl (OW2.alloc _) _ _ (.int .i64 id) rfl (zl7 _ _ _ _ (by simp)) rfl (by omega) (Nat.le_trans SZ2.out (by simp)) ?_;intro v' w4 hown4 hgrow4)
          |go_in)
         have CA:Hid (CP w _ #[.int .i64 n,.slice a zs.length cap,.slice ao ko co,.slice av kv cv,.int .i64 fine] #[.slice (some ⟨b,off,none⟩) m rc,.slice la ml lc]):=CW2.below ((Below.refl _ _).alloc (Nat.le_refl _) (.cells #[Value.int .i64 id] 2));have GA:Hid _:=za1 ((Below.refl _ _).alloc (Nat.le_refl _) (.cells #[Value.int .i64 id] 2)) (za3 G82.out) G82.out;have CB:Hid (CP w w4 #[.int .i64 n,.slice a zs.length cap,.slice ao ko co,.slice av kv cv,.int .i64 fine] #[.slice (some ⟨b,off,none⟩) m rc,.slice la ml lc]):=CA.grow (OW2.alloc _) HBASE.out hgrow4;have GB:Hid (w4.heap[g8]? =_):=za5 hgrow4 GA.out (zi4 (OW2.alloc _) GA.out (by decide));have ZB:Hid (base<=w4.heap.size):=by
          have h1:=hgrow4.size;have h2:=SZ2.out;simp at h1;show _<=_;omega
         have OB:Hid (w4.ownsRow base 2 1 v' (zb3 R k++r.ids.take (j+1)).length ((zb3 R k++r.ids.take (j+1)).map (Value.int .i64))):=by
          rw[HSN.out,List.length_append,List.map_append,HNF.out];exact hown4
         clear CA GA;go_roundw
         case rel=>exact⟨j+1,_,by omega,by go_num,rfl,HTN.out,OB.out,CB.out,ZB.out,GB.out⟩
         case measure=>simp[intOf];omega
        ·go_wp2_with(first
          |(at_builtin;refine zn8 _ rfl _ _ rfl base (.slice sa nf sc) nf _ rfl (OW2.alloc _) _ _ (.int .i64 id) rfl (zl7 _ _ _ _ (by simp)) rfl (by omega) (Nat.le_trans SZ2.out (by simp)) ?_;intro v' w4 hown4 hgrow4)
          |go_in)
         have CA:Hid (CP w _ #[.int .i64 n,.slice a zs.length cap,.slice ao ko co,.slice av kv cv,.int .i64 fine] #[.slice (some ⟨b,off,none⟩) m rc,.slice la ml lc]):=CW2.below ((Below.refl _ _).alloc (Nat.le_refl _) (.cells #[Value.int .i64 id] 2));have GA:Hid _:=za1 ((Below.refl _ _).alloc (Nat.le_refl _) (.cells #[Value.int .i64 id] 2)) (za3 G82.out) G82.out;have CB:Hid (CP w w4 #[.int .i64 n,.slice a zs.length cap,.slice ao ko co,.slice av kv cv,.int .i64 fine] #[.slice (some ⟨b,off,none⟩) m rc,.slice la ml lc]):=CA.grow (OW2.alloc _) HBASE.out hgrow4;have GB:Hid (w4.heap[g8]? =_):=za5 hgrow4 GA.out (zi4 (OW2.alloc _) GA.out (by decide));have ZB:Hid (base<=w4.heap.size):=by
          have h1:=hgrow4.size;have h2:=SZ2.out;simp at h1;show _<=_;omega
         have OB:Hid (w4.ownsRow base 2 1 v' (zb3 R k++r.ids.take (j+1)).length ((zb3 R k++r.ids.take (j+1)).map (Value.int .i64))):=by
          rw[HSN.out,List.length_append,List.map_append,HNF.out];exact hown4
         clear CA GA;go_roundw
         case rel=>exact⟨j+1,_,by omega,by go_num,rfl,HTN.out,OB.out,CB.out,ZB.out,GB.out⟩
         case measure=>simp[intOf];omega
       ·have hjq2:j=q:=by omega
        have HA2:Hid (zb3 R k++r.ids.take j=zb3 R (k+1)):=by
         show _=_;rw[HALLS.out,hjq2,<-HQ.out,List.take_length]
        rw[HA2.out]at htw hown;have TW3:Hid (Tw tw2 (zb3 R (k+1))):=htw;have OW3:Hid (wr.ownsRow base 2 1 u5 (zb3 R (k+1)).length ((zb3 R (k+1)).map (Value.int .i64))):=hown;obtain⟨x0,x1⟩:=za2 G82.out;clear hjq2 htw hown hcp hsz hg8;go_wp2
        first
         |exact⟨⟨k+1,tw2,by omega,by go_num,rfl,TW3.out,OK1.out,OW3.out,CW2.out,SZ2.out⟩,by simp[intOf];omega⟩
         |(go_roundw
           case rel=>exact⟨k+1,tw2,by omega,by go_num,rfl,TW3.out,OK1.out,OW3.out,CW2.out,SZ2.out⟩
           case measure=>simp[intOf];omega)
  ·have hkm:k=m:=by omega
   have TW9:Hid (Tw tw (zb3 R m)):=hkm▸TW.out;have OK9:Hid (zf0 n zs os vs ko kv R R.length):=HN.symm▸hkm▸OK.out;have OW9:Hid (wr.ownsRow base 2 1 u5 (zb3 R m).length ((zb3 R m).map (Value.int .i64))):=hkm▸OW.out;clear hkm TW OK OW;have HFM:Hid (zb3 R R.length=zb3 R m):=by show _=_;rw[HN.out]
   obtain⟨fl,HFL⟩:=nmd (zb3 R m);rw[HFL.out]at TW9 OW9 HFM;obtain⟨sa,sc,rfl,-,hsI⟩:=zy0 OW9.out;have SI:Hid (za0 wr sa fl):=hsI;have hfl:fl.length<=1048576:=by rw[<-HFM.out];exact HAL.out
   clear hsI OW9;obtain⟨nf,HNF⟩:=nmd fl.length;rw[HNF.out]at hfl⊢;obtain⟨d0,d1⟩:=za2 CW.2.2
   go_wp2_with fail
   go_loop [6,10] (fun tt ti=>∃(j:Nat) (tw:Bool),j<=ml/\ti=.int .i64 j/\tt=.bool tw/\TwL tw fl L j) (fun _ ti=>ml - (intOf ti).toNat)
   case atStart=>exact⟨0,tw,Nat.zero_le _,rfl,rfl,TwL.start TW9.out L⟩
   case round=>
    clear TW9;obtain⟨j,tw2,hj,rfl,rfl,htw⟩:=hrel;have TW2:Hid (TwL tw2 fl L j):=htw;clear htw;by_cases hjl:j<ml
    ·have hjL:j<L.length:=by rw[HM.out];exact hjl
     obtain⟨b2,off2,rfl,hcc⟩:=(HL.below CW.1) j hjL;have HTN:=TW2.step;obtain⟨id,HID⟩:=nmd (L.getD j 0);rw[HID.out]at hcc HTN;obtain⟨bb,HBB⟩:=nmd (decide (id∈fl));rw[HBB.out]at HTN;have HT2:Hid _:=HTN;have HCALL:=zx3 sa fl.length sc id fl wr bb ((z66 fl id).trans HBB.out) SI.out (Nat.le_refl _) (by rw[HNF.out];omega);rw[HNF.out]at HCALL;clear HTN hjL;cases tw2
     ·go_wp2_with(go_at_call 57;refine HCALL.mono ?_;rintro e w' ⟨rfl,rfl⟩)
      exact⟨⟨j+1,_,by omega,by go_num,rfl,HT2.out⟩,by simp[intOf];omega⟩
     ·go_wp2
      exact⟨⟨j+1,_,by omega,by go_num,rfl,HT2.out⟩,by simp[intOf];omega⟩
    ·have hjm:j=L.length:=by rw[HM.out];omega
     have HON:Hid (tw2=true↔¬zL8 fl L):=TwL.done (hjm▸TW2.out);clear hjm;cases tw2
     ·have ON:Hid (zL8 (zb3 R R.length) L):=by
       rw[HFM.out];show zL8 fl L;exact Classical.not_not.1 fun h=>by have:=HON.2 h;cases this
      clear HON TW2
      go_wp2_with fail
      clear d0 d1;go_loopw[11] (fun ti wr=>∃j:Nat,j<=ml/\ti=.int .i64 j/\ze3 os ko L j/\CP w wr #[.int .i64 n,.slice a zs.length cap,.slice ao ko co,.slice av kv cv,.int .i64 fine] #[.slice ra m rc,.slice la ml lc]) (fun ti _=>ml - (intOf ti).toNat)
      case atStart=>exact⟨0,Nat.zero_le _,rfl,ze3.zero _ _ _,CW.out⟩
      case round=>
       clear CW SI hj hjl;obtain⟨j,hj,rfl,hlo,hcp⟩:=hrel;have LO:Hid (ze3 os ko L j):=hlo;have CW4:Hid (CP w wr #[.int .i64 n,.slice a zs.length cap,.slice ao ko co,.slice av kv cv,.int .i64 fine] #[.slice ra m rc,.slice la ml lc]):=hcp;clear hlo hcp;by_cases hjl:j<ml
       ·have hjL:j<L.length:=by rw[HM.out];exact hjl
        obtain⟨b2,off2,rfl,hcc⟩:=(HL.below CW4.1) j hjL;have hLW:=HL.below CW4.1;have HBADT:Hid (zi8 os ko (L.getD j 0)=false->v=4):=fun h=>HVAL.symm.trans (zD7 HC.out OK9.out ON.out (fun H=>by rw[(H.1 j hjL).1]at h;cases h))
        have HBADP:Hid (0<j->¬L.getD (j - 1) 0<L.getD j 0->v=4):=fun h0 h=>HVAL.symm.trans (zD7 HC.out OK9.out ON.out (fun H=>h ((H.1 j hjL).2 h0)));have HSTEP:Hid (zi8 os ko (L.getD j 0)=true->(0<j->L.getD (j - 1) 0<L.getD j 0)->ze3 os ko L (j+1)):=fun h1 h2=>LO.step h1 h2;obtain⟨id,HID⟩:=nmd (L.getD j 0);rw[HID.out]at hcc HBADT HBADP HSTEP;have HLWW:Hid (za0 wr (some ⟨b2,off2,none⟩) L):=hLW;obtain⟨o0,H0⟩:=nmd (zc3 os ko id 0);obtain⟨o1,H1⟩:=nmd (zc3 os ko id 1);obtain⟨o2,H2⟩:=nmd (zc3 os ko id 2);obtain⟨o3,H3⟩:=nmd (zc3 os ko id 3);obtain⟨o4,H4⟩:=nmd (zc3 os ko id 4);obtain⟨o5,H5⟩:=nmd (zc3 os ko id 5);obtain⟨tt,HTT⟩:=nmd (zi8 os ko id);rw[HTT.out]at HBADT HSTEP;obtain⟨c0,c1,c2,c3,c4⟩:=za8 CW4.2.1;obtain⟨d0,d1⟩:=za2 CW4.2.2;clear hLW
        go_wp2_with fail
        have HCT:Hid (wr.cell? ⟨b2,off2+j,none⟩=_):=hcc;have HCA:Hid ((wr.alloc (Obj.cells #[Value.int .i64 0,Value.int .i64 0,Value.int .i64 0,Value.int .i64 0,Value.int .i64 0,Value.int .i64 0] 95)).cell? ⟨b2,off2+j,none⟩=_):=(((Below.refl wr.heap.size wr).alloc (Nat.le_refl _) _).cell (p:=⟨b2,off2+j,none⟩) (block_lt_of_cell hcc)).trans hcc;have hlb:=block_lt_of_cell hcc;simp at hlb;have hlw:=za3 CW4.2.1;have hlr:=za3 CW4.2.2
        go_region_held3 (fun W=>W.cell? ⟨w.heap.size,0,none⟩=some (.int .i64 n)/\W.cell? ⟨w.heap.size,1,none⟩=some (.slice a zs.length cap)/\W.cell? ⟨w.heap.size,2,none⟩=some (.slice ao ko co)/\W.cell? ⟨w.heap.size,3,none⟩=some (.slice av kv cv)/\W.cell? ⟨w.heap.size,4,none⟩=some (.int .i64 fine)/\W.cell? ⟨w.heap.size+1,1,none⟩=some (.slice (some ⟨b2,off2,none⟩) ml lc)/\W.cell? ⟨b2,off2+j,none⟩=some (.int .i64 id)) (first|with_reducible exact kS|with_reducible exact⟨(za4 (za4 (za4 (za4 (za4 (za4 kS.1 (Nat.ne_of_lt hlw)) (Nat.ne_of_lt hlw)) (Nat.ne_of_lt hlw)) (Nat.ne_of_lt hlw)) (Nat.ne_of_lt hlw)) (Nat.ne_of_lt hlw)),(za4 (za4 (za4 (za4 (za4 (za4 kS.2.1 (Nat.ne_of_lt hlw)) (Nat.ne_of_lt hlw)) (Nat.ne_of_lt hlw)) (Nat.ne_of_lt hlw)) (Nat.ne_of_lt hlw)) (Nat.ne_of_lt hlw)),(za4 (za4 (za4 (za4 (za4 (za4 kS.2.2.1 (Nat.ne_of_lt hlw)) (Nat.ne_of_lt hlw)) (Nat.ne_of_lt hlw)) (Nat.ne_of_lt hlw)) (Nat.ne_of_lt hlw)) (Nat.ne_of_lt hlw)),(za4 (za4 (za4 (za4 (za4 (za4 kS.2.2.2.1 (Nat.ne_of_lt hlw)) (Nat.ne_of_lt hlw)) (Nat.ne_of_lt hlw)) (Nat.ne_of_lt hlw)) (Nat.ne_of_lt hlw)) (Nat.ne_of_lt hlw)),(za4 (za4 (za4 (za4 (za4 (za4 kS.2.2.2.2.1 (Nat.ne_of_lt hlw)) (Nat.ne_of_lt hlw)) (Nat.ne_of_lt hlw)) (Nat.ne_of_lt hlw)) (Nat.ne_of_lt hlw)) (Nat.ne_of_lt hlw)),(za4 (za4 (za4 (za4 (za4 (za4 kS.2.2.2.2.2.1 (Nat.ne_of_lt hlr)) (Nat.ne_of_lt hlr)) (Nat.ne_of_lt hlr)) (Nat.ne_of_lt hlr)) (Nat.ne_of_lt hlr)) (Nat.ne_of_lt hlr)),(za4 (za4 (za4 (za4 (za4 (za4 kS.2.2.2.2.2.2 (Nat.ne_of_lt hlb)) (Nat.ne_of_lt hlb)) (Nat.ne_of_lt hlb)) (Nat.ne_of_lt hlb)) (Nat.ne_of_lt hlb)) (Nat.ne_of_lt hlb))⟩|go_keep) ((first
         |(go_at_call 58
           with_reducible refine(zn6 n fine id a ao av _ cap ko co kv cv os wr.drew ?_ HLO.out hko).mono ?_
           ·exact HO.below CW4.drew.1
           rintro e w2 ⟨rfl,hb2⟩;rw[H0.out,H1.out,H2.out,H3.out,H4.out,H5.out,HTT.out];have hcr2:=CP.below CW4.drew hb2;obtain⟨k0,k1,k2,k3,k4⟩:=za8 hcr2.2.1;have k5:=(za2 hcr2.2.2).2;have k6:=(hb2.cell (p:=⟨b2,off2+j,none⟩) (block_lt_of_cell HCT.out)).trans HCT.out;have kS:=And.intro k0 (And.intro k1 (And.intro k2 (And.intro k3 (And.intro k4 (And.intro k5 k6)))));have CR2:Hid (CP w w2 #[.int .i64 n,.slice a zs.length cap,.slice ao ko co,.slice av kv cv,.int .i64 fine] #[.slice ra m rc,.slice (some ⟨b2,off2,none⟩) ml lc]):=hcr2;clear hb2 hcr2 k0 k1 k2 k3 k4 k5 k6)
         |(go_at_call 58
           with_reducible refine(zn6 n fine id a ao av _ cap ko co kv cv os (wr.alloc (Obj.cells #[Value.int .i64 0,Value.int .i64 0,Value.int .i64 0,Value.int .i64 0,Value.int .i64 0,Value.int .i64 0] 95)).drew ?_ HLO.out hko).mono ?_
           ·exact HO.below (CP.drew (CP.alloc CW4.out (Obj.cells #[Value.int .i64 0,Value.int .i64 0,Value.int .i64 0,Value.int .i64 0,Value.int .i64 0,Value.int .i64 0] 95))).1
           rintro e w2 ⟨rfl,hb2⟩;rw[H0.out,H1.out,H2.out,H3.out,H4.out,H5.out,HTT.out];have hcr2:=CP.below (CP.drew (CP.alloc CW4.out (Obj.cells #[Value.int .i64 0,Value.int .i64 0,Value.int .i64 0,Value.int .i64 0,Value.int .i64 0,Value.int .i64 0] 95))) hb2;obtain⟨k0,k1,k2,k3,k4⟩:=za8 hcr2.2.1;have k5:=(za2 hcr2.2.2).2;have k6:=(hb2.cell (p:=⟨b2,off2+j,none⟩) (block_lt_of_cell HCA.out)).trans HCA.out;have kS:=And.intro k0 (And.intro k1 (And.intro k2 (And.intro k3 (And.intro k4 (And.intro k5 k6)))));have CR2:Hid (CP w w2 #[.int .i64 n,.slice a zs.length cap,.slice ao ko co,.slice av kv cv,.int .i64 fine] #[.slice ra m rc,.slice (some ⟨b2,off2,none⟩) ml lc]):=hcr2;obtain⟨z0,z1,z2,z3,z4,z5⟩:=zf8 (za1 hb2 (k:=wr.heap.size) (by simp) (heap_alloc_new wr (Obj.cells #[Value.int .i64 0,Value.int .i64 0,Value.int .i64 0,Value.int .i64 0,Value.int .i64 0,Value.int .i64 0] 95)));have zf:=fun i=>frozen_of_row _ _ i _ _ (za1 hb2 (k:=wr.heap.size) (by simp) (heap_alloc_new wr (Obj.cells #[Value.int .i64 0,Value.int .i64 0,Value.int .i64 0,Value.int .i64 0,Value.int .i64 0,Value.int .i64 0] 95)))
           clear hb2 hcr2 k0 k1 k2 k3 k4 k5 k6)))
        all_goals(first
         |(have CRW:Hid (CP w (World.setCell (World.setCell (World.setCell (World.setCell (World.setCell (World.setCell w2 ⟨wr.heap.size,0,none⟩ (Value.int .i64 o0)) ⟨wr.heap.size,1,none⟩ (Value.int .i64 o1)) ⟨wr.heap.size,2,none⟩ (Value.int .i64 o2)) ⟨wr.heap.size,3,none⟩ (Value.int .i64 o3)) ⟨wr.heap.size,4,none⟩ (Value.int .i64 o4)) ⟨wr.heap.size,5,none⟩ (Value.int .i64 o5)) #[.int .i64 n,.slice a zs.length cap,.slice ao ko co,.slice av kv cv,.int .i64 fine] #[.slice ra m rc,.slice (some ⟨b2,off2,none⟩) ml lc]):=(CP.set (CP.set (CP.set (CP.set (CP.set (CP.set CR2.out CW4.big) CW4.big) CW4.big) CW4.big) CW4.big) CW4.big)
           clear kS CR2 HCT HCA hcc z0 z1 z2 z3 z4 z5 zf;generalize(World.setCell (World.setCell (World.setCell (World.setCell (World.setCell (World.setCell w2 ⟨wr.heap.size,0,none⟩ (Value.int .i64 o0)) ⟨wr.heap.size,1,none⟩ (Value.int .i64 o1)) ⟨wr.heap.size,2,none⟩ (Value.int .i64 o2)) ⟨wr.heap.size,3,none⟩ (Value.int .i64 o3)) ⟨wr.heap.size,4,none⟩ (Value.int .i64 o4)) ⟨wr.heap.size,5,none⟩ (Value.int .i64 o5))=W at*;generalize wr.heap.size=g at*)
         |(have CRW:Hid (CP w (w2.alloc (Obj.cells #[Value.int .i64 o0,Value.int .i64 o1,Value.int .i64 o2,Value.int .i64 o3,Value.int .i64 o4,Value.int .i64 o5] 95)) #[.int .i64 n,.slice a zs.length cap,.slice ao ko co,.slice av kv cv,.int .i64 fine] #[.slice ra m rc,.slice (some ⟨b2,off2,none⟩) ml lc]):=CP.alloc CR2.out _
           clear kS CR2 HCT HCA hcc;generalize w2.alloc (Obj.cells #[Value.int .i64 o0,Value.int .i64 o1,Value.int .i64 o2,Value.int .i64 o3,Value.int .i64 o4,Value.int .i64 o5] 95)=W at*;generalize w2.heap.size=g at*))
        all_goals
         clear c0 c1 c2 c3 c4 d0 d1 hlw hlr hlb;have q1:=(za2 CRW.2.2).2;have ctW:=zn0 (HL.below CRW.1) hjL HID.out;have t0:=fun s:Kin W=>s.cell q1;have t1:=fun s:Kin W=>s.cell ctW;have hkin:=Kin.there W;cases tt
         ·have HE:Hid (v=4):=HBADT.out rfl
          go_wp2_with fail
          refine zb2 (by kernel_rfl) (by kernel_rfl) ?_
          repeat(go_big_quiet_step (fail))
          refine wpQuiet_nil ?_;rintro _ ⟨s,rfl⟩;have HS2:Hid (CP w s.w #[.int .i64 n,.slice a zs.length cap,.slice ao ko co,.slice av kv cv,.int .i64 fine] #[.slice ra m rc,.slice (some ⟨b2,off2,none⟩) ml lc]):=CRW.below s.below;generalize s.w=w3 at*;go_wp2;go_ret;exact⟨by rw[HE.out];rfl,HS2.1⟩
         ·by_cases hj0:0<j
          ·obtain⟨p,HP⟩:=nmd (L.getD (j - 1) 0)
           have ctP:=zn0 (HL.below CRW.1) (j:=j - 1) (by omega) HP.out;have t2:=fun s:Kin W=>s.cell ctP;have hw1:IntKind.i64.wrap ((j:Int) - 1)=((j - 1:Nat):Int):=by rw[IntKind.wrap_i64];omega
           have hjm1:j - 1<ml:=by omega
           by_cases hp:p<id
           ·have LO1:Hid (ze3 os ko L (j+1)):=HSTEP.out rfl (fun _=>by rw[HP.out];exact hp)
            have hpd:decide (id<=p)=false:=by simp;omega
            go_wp2_with fail
            refine zb2 (by kernel_rfl) (by kernel_rfl) ?_
            repeat(go_big_quiet_step (fail))
            refine wpQuiet_nil ?_;rintro _ ⟨s,rfl⟩;have HS2:Hid (CP w s.w #[.int .i64 n,.slice a zs.length cap,.slice ao ko co,.slice av kv cv,.int .i64 fine] #[.slice ra m rc,.slice (some ⟨b2,off2,none⟩) ml lc]):=CRW.below s.below;generalize s.w=w3 at*;go_wp2;exact⟨⟨j+1,by omega,by go_num,LO1.out,HS2.out⟩,by simp[intOf];omega⟩
           ·have HE:Hid (v=4):=HBADP.out hj0 (by rw[HP.out];first|exact hp|omega)
            have hpd:decide (id<=p)=true:=by simp;omega
            go_wp2_with fail
            refine zb2 (by kernel_rfl) (by kernel_rfl) ?_
            repeat(go_big_quiet_step (fail))
            refine wpQuiet_nil ?_;rintro _ ⟨s,rfl⟩;have HS2:Hid (CP w s.w #[.int .i64 n,.slice a zs.length cap,.slice ao ko co,.slice av kv cv,.int .i64 fine] #[.slice ra m rc,.slice (some ⟨b2,off2,none⟩) ml lc]):=CRW.below s.below;generalize s.w=w3 at*;go_wp2;go_ret;exact⟨by rw[HE.out];rfl,HS2.1⟩
          ·have LO1:Hid (ze3 os ko L (j+1)):=HSTEP.out rfl (fun h=>absurd h hj0)
           have hkz:(decide (0<j))=false:=by simp;omega
           have hk1:j<=0:=by omega
           go_wp2_with fail
           refine zb2 (by kernel_rfl) (by kernel_rfl) ?_
           repeat(go_big_quiet_step (fail))
           refine wpQuiet_nil ?_;rintro _ ⟨s,rfl⟩;have HS2:Hid (CP w s.w #[.int .i64 n,.slice a zs.length cap,.slice ao ko co,.slice av kv cv,.int .i64 fine] #[.slice ra m rc,.slice (some ⟨b2,off2,none⟩) ml lc]):=CRW.below s.below;generalize s.w=w3 at*;go_wp2;exact⟨⟨j+1,by omega,by go_num,LO1.out,HS2.out⟩,by simp[intOf];omega⟩
       ·have hjm:j=L.length:=by rw[HM.out];omega
        have LO9:Hid (ze3 os ko L L.length):=hjm▸LO.out;have HLEN:Hid ((zb3 R R.length).length+L.length=nf+ml):=by show _=_;rw[HFM.out,HNF.out,HM.out]
        obtain⟨c0,c1,c2,c3,c4⟩:=za8 CW4.2.1;obtain⟨d0,d1⟩:=za2 CW4.2.2;clear hjm;have hz:Hid (((nf:Int)+(ml:Int)==(ko:Int))=decide (nf+ml=ko)):=by
         show _=_;by_cases e:nf+ml=ko
         ·rw[decide_eq_true e,<-e];simp
         ·rw[decide_eq_false e];simp;omega
        by_cases he:nf+ml=ko
        ·have he1:((nf:Int)+(ml:Int)==(ko:Int))=true:=by rw[hz.out];exact decide_eq_true he
         have HE:Hid (v=0):=HVAL.symm.trans (zP1 HC.out OK9.out ON.out LO9.out (by rw[HLEN.out];exact he));clear he;go_wp2;go_ret;exact⟨by rw[HE.out];rfl,CW4.1⟩
        ·have he1:((nf:Int)+(ml:Int)==(ko:Int))=false:=by rw[hz.out];exact decide_eq_false he
         have HE:Hid (v=4):=HVAL.symm.trans (zD7 HC.out OK9.out ON.out (fun h=>he (by rw[<-HLEN.out];exact h.2)));clear he;go_wp2;go_ret;exact⟨by rw[HE.out];rfl,CW4.1⟩
     ·have HE:Hid (v=3):=HVAL.symm.trans (ya0 HC.out OK9.out (by rw[HFM.out];exact HON.1 rfl))
      go_wp2;go_ret;exact⟨by rw[HE.out];rfl,CW.1⟩
set_option maxHeartbeats 2000000 in
theorem zC9(n fine:Int)(a ao av ra la:Option Addr)(cap ko co kv cv rc lc:Nat)(zs os vs L:List Int)(R:List RT)(w:World)(hA:za0 w a zs)(hO:za0 w ao os)(hV:za0 w av vs)(hR:za6 w ra R)(hlo:os.length=ko*6)(hlv:vs.length=kv*5)(hko:ko<=9223372036854775807)(hkv:kv<=9223372036854775807)(hrc:∀r∈R,r.ids.length<=r.c)(hpl:zd7 n zs os vs ko kv fine R L=0):
 Calls Tryz.prog 31 #[.agg #[.int .i64 n,.slice a zs.length cap,.slice ao ko co,.slice av kv cv,.int .i64 fine],.agg #[.slice ra R.length rc,.slice la L.length lc]] w fun e w'=>e=.returned (.int .i64 (zq6 n zs os vs ko kv R (fine*L.length) R.length))/\Below w.heap.size w w':=by
 have HA:Hid (za0 w a zs):=hA;have HO:Hid (za0 w ao os):=hO;have HV:Hid (za0 w av vs):=hV;have HR:Hid (za6 w ra R):=hR;have HLO:Hid _:=hlo;have HLV:Hid _:=hlv;have HRC:Hid _:=hrc;obtain⟨hcB,hrts,_,_,_⟩:=zj0 hpl;obtain⟨hs1,hs2,hs3,hs4⟩:=zV4 hpl;have HC:Hid _:=hcB;have HRTS:Hid (zf0 n zs os vs ko kv R R.length):=hrts;clear hA hO hV hR hlo hlv hrc hcB hrts hpl;obtain⟨m,HN⟩:=nmd R.length;obtain⟨ml,HM⟩:=nmd L.length;rw[HN.out]at hs1 HRTS⊢;rw[HM.out]at hs2 hs3 hs4⊢;obtain⟨z,HZ⟩:=nmd (fine*(ml:Int));rw[HZ.out]at hs3 hs4⊢;have hwz:wrap64 (fine*(ml:Int))=z:=by rw[HZ.out];exact IntWalk.wrap64_in _ (by omega)
 have hwz2:IntKind.i64.wrap (fine*(ml:Int))=z:=by rw[HZ.out];exact IntWalk.i64_in _ (by omega)
 have HBD:Hid _:=zQ3 HC.out HRTS.out z;have C0:Hid (CP w ((w.alloc (.cells #[.int .i64 n,.slice a zs.length cap,.slice ao ko co,.slice av kv cv,.int .i64 fine] 30)).alloc (.cells #[.slice ra m rc,.slice la ml lc] 33)) _ _):=CP.new w _ _;obtain⟨c0,c1,c2,c3,c4⟩:=za8 C0.out.2.1;obtain⟨d0,d1⟩:=za2 C0.out.2.2;go_enter Tryz.func31,Tryz.ntmps31
 go_wp2_with fail
 clear c0 c1 c2 c3 c4 d0 d1 hwz hwz2;generalize(w.alloc (.cells #[.int .i64 n,.slice a zs.length cap,.slice ao ko co,.slice av kv cv,.int .i64 fine] 30)).alloc (.cells #[.slice ra m rc,.slice la ml lc] 33)=W0 at*;go_loopw[5,19] (fun ts ti wr=>∃k:Nat,k<=m/\ti=.int .i64 k/\ts=.int .i64 (zq6 n zs os vs ko kv R z k)/\CP w wr #[.int .i64 n,.slice a zs.length cap,.slice ao ko co,.slice av kv cv,.int .i64 fine] #[.slice ra m rc,.slice la ml lc]) (fun _ ti _=>m - (intOf ti).toNat)
 case atStart=>exact⟨0,Nat.zero_le _,rfl,rfl,C0.out⟩
 case round=>
  clear C0;obtain⟨k,hk,rfl,rfl,hcp⟩:=hrel;have CW:Hid (CP w wr #[.int .i64 n,.slice a zs.length cap,.slice ao ko co,.slice av kv cv,.int .i64 fine] #[.slice ra m rc,.slice la ml lc]):=hcp;clear hcp;by_cases hlt:k<m
  ·have hkl:k<R.length:=by rw[HN.out];exact hlt
   have hmem:R.getD k rt0∈R:=by rw[List.getD_eq_getElem?_getD,List.getElem?_eq_getElem hkl];simp
   obtain⟨b,off,rfl,h1,h2,h3⟩:=(HR.out.below CW.out.1) k hkl;have HRCL:Hid _:=HRC.out _ hmem;have hcode:=(HRTS.out k hlt).2.2;have hbd:=HBD.out (k+1) (by omega);have hb0:=HBD.out k hk;have h12:=(zf5 (zg2 (zi3 hcode).1).2.2).1;have HNX:Hid (zq6 n zs os vs ko kv R z (k+1)=zq6 n zs os vs ko kv R z k+zv7 n zs os vs ko kv (R.getD k rt0)):=rfl;rw[HNX.out]at hbd;unfold zv7 at HNX hbd;obtain⟨r,HRT⟩:=nmd (R.getD k rt0);rw[HRT.out]at h1 h2 h3 HRCL hcode h12 HNX hbd;have HCODE:Hid _:=hcode;have IR:Hid (za0 wr r.a r.ids):=h3;obtain⟨hmat,hords,hvehs,hn1,_⟩:=zc7 HC.out;have hvb:=(zp2 hvehs hn1 r.v);have HVB:Hid _:=hvb.1;have HMAT:Hid _:=hmat;have HRB:Hid (zq7 n (zc4 os ko r.ids) r.ids.length):=zw9 hords hn1 _;clear h3 hmem hkl hcode hmat hords hvehs hn1 hvb;obtain⟨f0,F0⟩:=nmd (zb5 vs kv r.v 0);obtain⟨f1,F1⟩:=nmd (zb5 vs kv r.v 1);obtain⟨f2,F2⟩:=nmd (zb5 vs kv r.v 2);obtain⟨f3,F3⟩:=nmd (zb5 vs kv r.v 3);obtain⟨f4,F4⟩:=nmd (zb5 vs kv r.v 4);rw[F1.out]at HVB HNX hbd;obtain⟨s,HS⟩:=nmd (zq6 n zs os vs ko kv R z k);obtain⟨rd,HRD⟩:=nmd (zn3 n zs (zc4 os ko r.ids) r.ids.length f1);rw[HS.out]at HNX hbd hb0;rw[HRD.out]at HNX hbd;rw[HS.out];have hws:wrap64 (s+rd)=s+rd:=IntWalk.wrap64_in _ (by omega);have BX:Hid (Below wr.heap.size wr (wr.alloc (.cells #[Value.int .i64 r.v,Value.slice r.a r.ids.length r.c] 43))):=(Below.refl _ _).alloc (Nat.le_refl _) _;have GX:Hid ((wr.alloc (.cells #[Value.int .i64 r.v,Value.slice r.a r.ids.length r.c] 43)).heap[wr.heap.size]? =_):=heap_alloc_new _ _;have CX:Hid (CP w (wr.alloc (.cells #[Value.int .i64 r.v,Value.slice r.a r.ids.length r.c] 43)) _ _):=CW.out.below BX.out;obtain⟨c0,c1,c2,c3,c4⟩:=za8 CX.out.2.1;obtain⟨d0,d1⟩:=za2 GX.out
   go_wp2_with fail
   clear c0 c1 c2 c3 c4 d0 d1 h1 h2;generalize(wr.alloc (.cells #[Value.int .i64 r.v,Value.slice r.a r.ids.length r.c] 43))=W1 at*;refine(zs5 n fine r.v a ao av r.a cap ko co kv cv r.c zs os vs r.ids W1 (HA.out.below CX.out.1) (HO.out.below CX.out.1) (HV.out.below CX.out.1) (IR.out.below BX.out) HLO.out HLV.out hko hkv (by omega) HRCL.out HC.out).mono ?_;rintro e w2 ⟨hb,⟨hcode,rfl⟩|⟨-,g,-,rfl,hros⟩⟩
   ·exact absurd HCODE.out hcode
   have C2:Hid (CP w w2 _ _):=CX.out.below hb;have I2:Hid (za0 w2 (some ⟨g,0,none⟩) (zc4 os ko r.ids)):=hros;rw[F0.out,F1.out,F2.out,F3.out,F4.out];clear hb hros CX GX BX IR CW;have BY:Hid (Below w2.heap.size w2 (w2.alloc (.cells #[.int .i64 n,.slice a zs.length cap,.int .i64 f0,.int .i64 f1,.int .i64 f2,.int .i64 f3,.int .i64 f4,.slice (some ⟨g,0,none⟩) r.ids.length r.ids.length] 60))):=(Below.refl _ _).alloc (Nat.le_refl _) _;have GY:Hid ((w2.alloc (.cells #[.int .i64 n,.slice a zs.length cap,.int .i64 f0,.int .i64 f1,.int .i64 f2,.int .i64 f3,.int .i64 f4,.slice (some ⟨g,0,none⟩) r.ids.length r.ids.length] 60)).heap[w2.heap.size]? =_):=heap_alloc_new _ _;obtain⟨t0,t1,t2,t3,t4,t5,t6,t7⟩:=zg4 GY.out
   go_wp2_with fail
   clear t0 t1 t2 t3 t4 t5 t6 t7;generalize(w2.alloc (.cells #[.int .i64 n,.slice a zs.length cap,.int .i64 f0,.int .i64 f1,.int .i64 f2,.int .i64 f3,.int .i64 f4,.slice (some ⟨g,0,none⟩) r.ids.length r.ids.length] 60))=W3 at*;have C3:Hid (CP w W3 _ _):=C2.out.below BY.out;refine(z09 n f0 f1 f2 f3 f4 a _ cap r.ids.length _ zs (zc4 os ko r.ids) W3 HMAT.out (HA.out.below C3.out.1) (I2.out.below BY.out) (zg6 os ko r.ids) HRB.out HVB.out h12).mono ?_;rintro e w4 ⟨rfl,hb⟩;rw[HRD.out];have C4:Hid (CP w w4 _ _):=C3.out.below hb;clear hb C3 C2 BY GY I2;go_wp2
   first
    |exact⟨⟨k+1,by omega,by go_num,by rw[HNX.out],C4.out⟩,by simp[intOf];omega⟩
    |(go_roundw
      case rel=>exact⟨k+1,by omega,by go_num,by rw[HNX.out],C4.out⟩
      case measure=>simp[intOf];omega)
  ·have hkm:k=m:=by omega
   subst hkm;go_wp2;go_ret;exact⟨rfl,CW.out.1⟩
set_option maxHeartbeats 2000000 in
theorem z14(n fine:Int)(a ao av ra la:Option Addr)(cap ko co kv cv rc lc:Nat)(zs os vs L:List Int)(R:List RT)(w:World)(hA:za0 w a zs)(hO:za0 w ao os)(hV:za0 w av vs)(hR:za6 w ra R)(hL:za0 w la L)(hlo:os.length=ko*6)(hlv:vs.length=kv*5)(hko:ko<=9223372036854775807)(hkv:kv<=9223372036854775807)(hn:R.length<=1048576)(hi:∀r∈R,r.ids.length<=1048576)(hrc:∀r∈R,r.ids.length<=r.c)(hll:L.length<=1048576)(hal:(zb3 R R.length).length<=1048576)(hwl:∀x∈L,(Lit.int .i64 x).wf=true):
 Calls Tryz.prog 13 #[.agg #[.int .i64 n,.slice a zs.length cap,.slice ao ko co,.slice av kv cv,.int .i64 fine],.agg #[.slice ra R.length rc,.slice la L.length lc]] w fun e w'=>e=.returned (.int .i64 (zv8 n zs os vs ko kv fine R L))/\Below w.heap.size w w':=by
 have HA:Hid (za0 w a zs):=hA;have HO:Hid (za0 w ao os):=hO;have HV:Hid (za0 w av vs):=hV;have HR:Hid (za6 w ra R):=hR;have HL:Hid (za0 w la L):=hL;have HLO:Hid _:=hlo;have HLV:Hid _:=hlv;have HN:Hid _:=hn;have HLL:Hid _:=hll;have HAL:Hid _:=hal;have HI:Hid _:=hi;have HRC:Hid _:=hrc;have HWL:Hid _:=hwl;clear hA hO hV hR hL hlo hlv hi hrc hn hll hal hwl;obtain⟨x,HX⟩:=nmd (zv8 n zs os vs ko kv fine R L);rw[HX.out];have C0:Hid (CP w ((w.alloc (.cells #[.int .i64 n,.slice a zs.length cap,.slice ao ko co,.slice av kv cv,.int .i64 fine] 30)).alloc (.cells #[.slice ra R.length rc,.slice la L.length lc] 33)) _ _):=CP.new w _ _;obtain⟨c0,c1,c2,c3,c4⟩:=za8 C0.out.2.1;obtain⟨d0,d1⟩:=za2 C0.out.2.2;go_enter Tryz.func13,Tryz.ntmps13
 go_wp2_with fail
 clear c0 c1 c2 c3 c4 d0 d1;generalize(w.alloc (.cells #[.int .i64 n,.slice a zs.length cap,.slice ao ko co,.slice av kv cv,.int .i64 fine] 30)).alloc (.cells #[.slice ra R.length rc,.slice la L.length lc] 33)=W0 at*;refine(zn9 n fine a ao av ra la cap ko co kv cv rc lc zs os vs L R W0 (HA.out.below C0.out.1) (HO.out.below C0.out.1) (HV.out.below C0.out.1) (HR.out.below C0.out.1) (HL.out.below C0.out.1) HLO.out HLV.out hko hkv HN.out HI.out HRC.out HLL.out HAL.out HWL.out).mono ?_;rintro e w1 ⟨rfl,hb⟩;have C1:Hid (CP w w1 _ _):=C0.out.below hb;clear hb C0;by_cases hz:zd7 n zs os vs ko kv fine R L=0
 ·have HZ:Hid _:=hz
  have HE:Hid _:=HX.out.symm.trans (if_pos hz);rw[hz];clear hz;obtain⟨c0,c1,c2,c3,c4⟩:=za8 C1.out.2.1;obtain⟨d0,d1⟩:=za2 C1.out.2.2
  go_wp2_with fail
  clear c0 c1 c2 c3 c4 d0 d1;refine(zC9 n fine a ao av ra la cap ko co kv cv rc lc zs os vs L R w1 (HA.out.below C1.out.1) (HO.out.below C1.out.1) (HV.out.below C1.out.1) (HR.out.below C1.out.1) HLO.out HLV.out hko hkv HRC.out HZ.out).mono ?_;rintro e w2 ⟨rfl,hb⟩;have HB:Hid _:=C1.out.1.trans (hb.mono C1.out.1.size);clear hb;go_wp2;go_ret;exact⟨by rw[HE.out];rfl,HB.out⟩
 ·have HE:Hid (x= -1):=HX.out.symm.trans (if_neg hz)
  obtain⟨v,HVV⟩:=nmd (zd7 n zs os vs ko kv fine R L);rw[HVV.out]at hz⊢;have hzb:(v !=0)=true:=by simp[hz]
  go_wp2;go_ret;exact⟨by rw[HE.out];rfl,C1.out.1⟩
end Go.Proofs.YtjobhigmdaiinaaGreat
