import Derived.Test.YtkchnomkiboihaaGreatPack4
import Derived.Test.YtkchnomkiboihaaGreatPack7
set_option linter.unusedSimpArgs false
set_option maxHeartbeats 4000000
set_option maxRecDepth 100000
namespace Go.Proofs.YtkchnomkiboihaaGreat
open Value renaming slice→za,int→zc
open IntKind renaming i64→zb
open Obj renaming cells→zd
open Proofs.Tryz renaming prog→ze
open Go renaming World→zg
open Lit renaming int→zB
open Go.RowKit Go.Maps
open Q
theorem zL8{n:Int}{zs os vs:List Int}{ko kv:Nat}{R:List RT}:∀{k:Nat},k<=R.length->zi6 n zs os vs ko kv R k->∀x∈za8 R k,zm0 os ko x=true
 |0,_,_,x,hx=>by rw[zi4]at hx;cases hx
 |k+1,hk,h,x,hx=>by
  rw[zf4 (by omega),yi]at hx;rcases hx with hx|hx
  ·exact zL8 (k:=k) (by omega) (fun j hj=>h j (by omega)) x hx
  ·have h3:=(zg3 (zf5 (zg6 (h k (by omega)).2.2).1).2.2).2
   obtain⟨j,hj,e⟩:=xK hx;have:=h3 j hj;unfold zY7 at this;rw[zM,zO hj]at this;simp only[yJ,e]at this;simp at this;exact this.1
theorem yA6{n:Int}{zs os vs:List Int}{ko kv:Nat}{fine id:Int}(hc:zc8 n zs os vs ko kv fine=true)(h:zm0 os ko id=true):(zB zb id).wf=true:=by
 have hv:=(zb3 hc).2.1;unfold zm0 at h;cases hf:zS7 os ko id with
 |none=>rw[hf]at h;cases h
 |some i=>
  unfold zS7 at hf;have h1:=List.find?_some hf;have h2:i<ko:=by simpa using xQ hf
  have h3:=((zd9 hv).2 i h2).1;simp at h1;unfold zI7 inB at h3;simp at h3;exact WalkArith.wf_i64 (by omega)
def CP(w W:zg)(cs ps:Array Value):Prop:=Below w.heap.size w W/\W.heap[w.heap.size]? =some (.cells cs 30 (0,0))/\W.heap[w.heap.size+1]? =some (.cells ps 33 (0,0))
theorem CP.new(w:zg)(cs ps:Array Value):CP w ((w.alloc (.cells cs 30)).alloc (.cells ps 33)) cs ps:=
 ⟨(zK _).alloc (by simp) _,xb _ _ _,y8 _ _ _⟩
theorem CP.below{w W W':zg}{cs ps:Array Value}(h:CP w W cs ps)(hb:Below W.heap.size W W'):CP w W' cs ps:=
 ⟨h.1.trans (hb.mono h.1.size),za0 hb (za2 h.2.1) h.2.1,za0 hb (za2 h.2.2) h.2.2⟩
theorem CP.grown{w W W':zg}{cs ps:Array Value}{B:Nat}{l:List Int}(h:CP w W cs ps)(hS:zl0 W B l)(hB:w.heap.size<=B)(hg:W.grownBy W' (some B)):CP w W' cs ps:=
 ⟨h.1.grown hg h.1.size (fun j e=>by cases e;exact hB),zz5 hS hg h.2.1,zz5 hS hg h.2.2⟩
theorem zA4(n fine:Int)(a ao av ra la:Option Addr)(cap ko co kv cv rc lc:Nat)(zs os vs L:List Int)(R:List RT)(w:zg)(hA:za3 w a zs)(hO:za3 w ao os)(hV:za3 w av vs)(hR:za9 w ra R)(hL:za3 w la L)(hlo:os.length=ko*6)(hlv:vs.length=kv*5)(hko:ko<=9223372036854775807)(hkv:kv<=9223372036854775807)(hn:R.length<=1048576)(hi:∀r∈R,r.ids.length<=1048576)(hrc:∀r∈R,r.ids.length<=r.c)(hll:L.length<=1048576)(hal:(za8 R R.length).length<=1048576)(hwl:∀x∈L,(zB zb x).wf=true)(hcB:zc8 n zs os vs ko kv fine=true):
 Calls ze 47 #[.agg #[zc zb n,za a zs.length cap,za ao ko co,za av kv cv,zc zb fine],.agg #[za ra R.length rc,za la L.length lc]] w fun e w'=>e=.returned (zc zb (zc3 n zs os vs ko kv fine R L))/\Below w.heap.size w w':=by
 have HA:=za4 hA;have HO:=za4 hO;have HV:=za4 hV;have HR:=za4 hR;have HL:=za4 hL;have HLO:Hid _:=hlo;have HLV:Hid _:=hlv;have HN:Hid _:=hn;have HLL:Hid _:=hll;have HAL:Hid _:=hal;have HI:Hid _:=hi;have HRC:Hid _:=hrc;have HWL:Hid _:=hwl;have HC:Hid _:=hcB;clear hA hO hV hR hL hlo hlv hi hrc hcB hwl hn hll hal;obtain⟨v,HVAL⟩:=nmd (zc3 n zs os vs ko kv fine R L);rw[HVAL.X];have hmm:=@run_makeMap ze;have C0:Hid (CP w ((w.alloc (zd #[zc zb n,za a zs.length cap,za ao ko co,za av kv cv,zc zb fine] 30)).alloc (zd #[za ra R.length rc,za la L.length lc] 33)) _ _):=CP.new w _ _;obtain⟨c0,c1,c2,c3,c4⟩:=za7 C0.2.1;obtain⟨d0,d1⟩:=za1 C0.2.2;go_enter Tryz.func47,Tryz.ntmps47
 go_wp2_with fail
 clear c0 c1 c2 c3 c4 d0 d1;generalize(w.alloc (zd #[zc zb n,za a zs.length cap,za ao ko co,za av kv cv,zc zb fine] 30)).alloc (zd #[za ra R.length rc,za la L.length lc] 33)=W0 at*;refine(zZ5 n fine a ao av ra cap ko co kv cv rc zs os vs R W0 (HA.below C0.1) (HO.below C0.1) (HV.below C0.1) (HR.below C0.1) HLO.X HLV.X hko hkv HN.X HI.X HRC.X HC.X).mono ?_;rintro e w1 ⟨hb,⟨rfl,hok⟩|⟨rfl,hok⟩⟩
 ·have OK:Hid (zi6 n zs os vs ko kv R R.length):=hok
  have C1:=za4 (C0.below hb);clear hb hok C0;have S0:Hid (zl0 (w1.alloc (.map #[] 0)) w1.heap.size []):=zl0.made w1;have C2:Hid (CP w (w1.alloc (.map #[] 0)) _ _):=C1.below (zK _);obtain⟨d0,d1⟩:=za1 C2.2.2
  go_wp2_with fail
  clear d0 d1;have hB:=C1.1.size;generalize hZ:w1.alloc (.map #[] 0)=W2 at*;generalize w1.heap.size=B at*;clear hZ C1;refine(zR6 B ra la rc lc R L W2 (HR.below C2.1) (HL.below C2.1) S0.X HN.X HI.X HLL.X HAL.X (fun x hx=>yA6 HC.X (zL8 (zQ _) OK.X x hx)) HWL.X).mono ?_;rintro e w3 ⟨hg,⟨rfl,honce,hset⟩|⟨rfl,honce⟩⟩
  ·have C3:Hid (CP w w3 _ _):=C2.grown S0.X hB hg
   have ON:=za4 honce;have S3:=za4 hset;clear hg honce hset C2 S0 hB;obtain⟨c0,c1,c2,c3,c4⟩:=za7 C3.2.1;obtain⟨d0,d1⟩:=za1 C3.2.2
   go_wp2_with fail
   clear c0 c1 c2 c3 c4 d0 d1;refine(yp5 n fine a ao av la cap ko co kv cv lc B zs os vs L (za8 R R.length) w3 (HO.below C3.1) (HL.below C3.1) S3.X ON.1 HLO.X hko HLL.X HAL.X HC.X).mono ?_;rintro e w4 ⟨hb,⟨rfl,h1,h2⟩|⟨rfl,h1⟩⟩
   ·have HB:Hid _:=C3.1.trans (hb.mono C3.1.size)
    have HE:Hid _:=HVAL.symm.trans (zN6 HC.X OK.X ON.X h1 h2);clear hb h1 h2;go_wp2;go_ret;exact⟨by rw[HE.X];rfl,HB.X⟩
   ·have HB:Hid _:=C3.1.trans (hb.mono C3.1.size)
    have HE:Hid _:=HVAL.symm.trans (zP2 HC.X OK.X ON.X h1);clear hb h1;go_wp2;go_ret;exact⟨by rw[HE.X];rfl,HB.X⟩
  ·have C3:Hid (CP w w3 _ _):=C2.grown S0.X hB hg
   have HE:Hid _:=HVAL.symm.trans (yz1 HC.X OK.X honce);clear hg honce;go_wp2;go_ret;exact⟨by rw[HE.X];rfl,C3.1⟩
 ·have HB:Hid _:=C0.1.trans (hb.mono C0.1.size)
  have HE:Hid _:=HVAL.symm.trans (zO0 HC.X hok);clear hb hok;go_wp2;go_ret;exact⟨by rw[HE.X];rfl,HB.X⟩
theorem zS4(n fine:Int)(a ao av ra la:Option Addr)(cap ko co kv cv rc lc:Nat)(zs os vs L:List Int)(R:List RT)(w:zg)(hA:za3 w a zs)(hO:za3 w ao os)(hV:za3 w av vs)(hR:za9 w ra R)(hL:za3 w la L)(hlo:os.length=ko*6)(hlv:vs.length=kv*5)(hko:ko<=9223372036854775807)(hkv:kv<=9223372036854775807)(hn:R.length<=1048576)(hi:∀r∈R,r.ids.length<=1048576)(hrc:∀r∈R,r.ids.length<=r.c)(hll:L.length<=1048576)(hal:(za8 R R.length).length<=1048576)(hwl:zc8 n zs os vs ko kv fine=true->∀x∈L,(zB zb x).wf=true):
 Calls ze 12 #[.agg #[zc zb n,za a zs.length cap,za ao ko co,za av kv cv,zc zb fine],.agg #[za ra R.length rc,za la L.length lc]] w fun e w'=>e=.returned (zc zb (zc3 n zs os vs ko kv fine R L))/\Below w.heap.size w w':=by
 have HA:=za4 hA;have HO:=za4 hO;have HV:=za4 hV;have HR:=za4 hR;have HL:=za4 hL;have HLO:Hid _:=hlo;have HLV:Hid _:=hlv;have HN:Hid _:=hn;have HLL:Hid _:=hll;have HAL:Hid _:=hal;have HI:Hid _:=hi;have HRC:Hid _:=hrc;have HWL:Hid _:=hwl;clear hA hO hV hR hL hlo hlv hi hrc hwl hn hll hal;obtain⟨v,HVAL⟩:=nmd (zc3 n zs os vs ko kv fine R L);rw[HVAL.X];have C0:Hid (CP w ((w.alloc (zd #[zc zb n,za a zs.length cap,za ao ko co,za av kv cv,zc zb fine] 30)).alloc (zd #[za ra R.length rc,za la L.length lc] 33)) _ _):=CP.new w _ _;obtain⟨c0,c1,c2,c3,c4⟩:=za7 C0.2.1;go_enter Tryz.func12,Tryz.ntmps12
 go_wp2_with fail
 clear c0 c1 c2 c3 c4;generalize(w.alloc (zd #[zc zb n,za a zs.length cap,za ao ko co,za av kv cv,zc zb fine] 30)).alloc (zd #[za ra R.length rc,za la L.length lc] 33)=W0 at*;refine(zY0 n fine a ao av cap ko co kv cv zs os vs W0 (HA.below C0.1) (HO.below C0.1) (HV.below C0.1) HLO.X HLV.X hko hkv).mono ?_;rintro e w1 ⟨rfl,hb⟩;have C1:=za4 (C0.below hb);clear hb C0;by_cases hc:zc8 n zs os vs ko kv fine=true
 ·have HC:Hid _:=hc
  rw[hc];clear hc;obtain⟨c0,c1,c2,c3,c4⟩:=za7 C1.2.1;obtain⟨d0,d1⟩:=za1 C1.2.2
  go_wp2_with fail
  clear c0 c1 c2 c3 c4 d0 d1;refine(zA4 n fine a ao av ra la cap ko co kv cv rc lc zs os vs L R w1 (HA.below C1.1) (HO.below C1.1) (HV.below C1.1) (HR.below C1.1) (HL.below C1.1) HLO.X HLV.X hko hkv HN.X HI.X HRC.X HLL.X HAL.X (HWL.X HC.X) HC.X).mono ?_;rintro e w2 ⟨rfl,hb⟩;have HB:Hid _:=C1.1.trans (hb.mono C1.1.size);clear hb;rw[HVAL.X];go_wp2;go_ret;exact⟨rfl,HB.X⟩
 ·have hc2:zc8 n zs os vs ko kv fine=false:=by simpa using hc
  have HE:Hid _:=HVAL.symm.trans (yr9 hc2);rw[hc2];clear hc hc2;go_wp2;go_ret;exact⟨by rw[HE.X];rfl,C1.1⟩
theorem zV6(n fine:Int)(a ao av ra la:Option Addr)(cap ko co kv cv rc lc:Nat)(zs os vs L:List Int)(R:List RT)(w:zg)(hA:za3 w a zs)(hO:za3 w ao os)(hV:za3 w av vs)(hR:za9 w ra R)(hL:za3 w la L)(hlo:os.length=ko*6)(hlv:vs.length=kv*5)(hko:ko<=9223372036854775807)(hkv:kv<=9223372036854775807)(hn:R.length<=1048576)(hi:∀r∈R,r.ids.length<=1048576)(hrc:∀r∈R,r.ids.length<=r.c)(hll:L.length<=1048576)(hal:(za8 R R.length).length<=1048576)(hwl:∀x∈L,(zB zb x).wf=true):
 Calls ze 12 #[.agg #[zc zb n,za a zs.length cap,za ao ko co,za av kv cv,zc zb fine],.agg #[za ra R.length rc,za la L.length lc]] w fun e w'=>e=.returned (zc zb (zc3 n zs os vs ko kv fine R L))/\Below w.heap.size w w':=by
 exact zS4 n fine a ao av ra la cap ko co kv cv rc lc zs os vs L R w hA hO hV hR hL hlo hlv hko hkv hn hi hrc hll hal (fun _=>hwl)
end Go.Proofs.YtkchnomkiboihaaGreat
namespace Go.Proofs.YtkchnomkiboihaaGreat
open Value renaming slice→za,int→zc,ownBlock→zm
open IntKind renaming i64→zb
open Obj renaming cells→zd
open Proofs.Tryz renaming prog→ze
open Go renaming World→zg
open World renaming setCell→zh
open Go.RowKit
open Q
theorem zs0(w:zg){ops:Array Oper}{rest:List Oper}{o:Oper}{a:Act}{Q:Exit->Act->zg->Prop}
 (hg:o.guard=none) (s x:Operand) (hop:o.op=Op.call {callee:=Callee.builtin Builtin.append,args:=#[s,x],argTypes:=#[24,24]})
 (base:Nat) (v:Value) (k:Nat) (xs:List Value) (hs:a.eval s=v) (hown:w.ownsRow base 2 1 v k xs) (ad:Addr) (c:Nat) (x0:Value) (hx:a.eval x=za (some ad) 1 c)
 (hc:w.cell? ad=some x0) (h1c:x0.oneCell'=true) (b1:k<=1048576) (hb:base<=w.heap.size)
 (hK:∀v' w',w'.ownsRow base 2 1 v' (k+1) (xs++[x0])->w.grownBy w' v.ownBlock->wpList ze ops Q rest (a.put o.dst v') w'):
 wpList ze ops Q (o::rest) a w:=by
 obtain⟨i0,hi,hz0,hz1,hz2⟩:=qe Tryz.info2;exact wpList_append_own w hg s x _ hop base _ i0 _ 1 8 xi hi hz0 hz1 hz2 rfl (by decide) v k xs hs hown ad 1 c [x0] hx rfl (yi7 hc) (by simpa using h1c) (by unfold maxLen;omega) (by omega) hb (fun v' w' h1 h2 _=>hK v' w' h1 h2)
theorem zm8{w:zg}{base size n k:Nat}{e T:TypeId}{v:Value}{xs:List Value}{cs:Array Value}{q:Nat×Nat}(h:w.ownsRow base e size v n xs)(hr:w.heap[k]? =some (.cells cs T q))(hT:T≠e):some k≠v.ownBlock:=fun he=>by
 rcases h.2 with⟨rfl,_⟩|⟨g,c,cur,rfl,_,hg,_⟩
 ·cases he
 ·simp[zm]at he
  rw[<-he,hr]at hg;simp at hg;exact hT hg.2.1
theorem CP.grow{w W W':zg}{cs ps:Array Value}{base size n:Nat}{v:Value}{xs:List Value}(h:CP w W cs ps)(ho:W.ownsRow base 2 size v n xs)(hb:w.heap.size<=base)(hg:W.grownBy W' v.ownBlock):CP w W' cs ps:=by
 refine⟨h.1.grown hg h.1.size (fun j e=> ?_),zb9 hg h.2.1 (zm8 ho h.2.1 (by decide)),zb9 hg h.2.2 (zm8 ho h.2.2 (by decide))⟩;rcases ho.2 with⟨rfl,_⟩|⟨g,c,cur,rfl,hl,_⟩
 ·cases e
 ·simp[zm]at e
  omega
theorem CP.alloc{w W:zg}{cs ps:Array Value}(h:CP w W cs ps)(o:Obj):CP w (W.alloc o) cs ps:=h.below (zK _)
theorem CP.drew{w W:zg}{cs ps:Array Value}(h:CP w W cs ps):CP w W.drew cs ps:=h.below (yV _ _).drew
theorem CP.big{w W:zg}{cs ps:Array Value}(h:CP w W cs ps):w.heap.size+1<W.heap.size:=za2 h.2.2
theorem CP.set{w W:zg}{cs ps:Array Value}(h:CP w W cs ps){k i:Nat}{v:Value}(hk:w.heap.size+1<k):CP w (W.setCell ⟨k,i,none⟩ v) cs ps:=
 ⟨h.1.setCell (by simp;omega) _,by rw[xg _ _ _ _ (by simp;omega)];exact h.2.1,by rw[xg _ _ _ _ (by simp;omega)];exact h.2.2⟩
theorem zY1(w1:zg):(w1.alloc (zd #[] 2)).ownsRow w1.heap.size 2 1 (za (some ⟨w1.heap.size,0,none⟩) 0 0) 0 (([]:List Int).map (zc zb)):=
 ⟨rfl,.inr ⟨w1.heap.size,0,#[],rfl,zQ _,zN _ _,zQ _,by unfold maxLen;omega,rfl,rfl⟩⟩
def Tw(tw:Bool)(l:List Int):Prop:=tw=true↔¬l.Nodup
theorem Tw.nil:Tw false []:=by simp[Tw]
theorem Tw.step{tw:Bool}{l:List Int}(h:Tw tw l)(x:Int):Tw (tw||decide (x∈l)) (l++[x]):=by
 unfold Tw at*;rw[z00];cases tw
 ·have:l.Nodup:=by
   by_cases hn:l.Nodup
   ·exact hn
   ·exact absurd (h.2 hn) (by simp)
  simp[this]
 ·have:=h.1 rfl
  simp[this]
def TwL(tw:Bool)(fl L:List Int)(j:Nat):Prop:=tw=true↔¬(fl.Nodup/\∀i,i<j->L.getD i 0∉fl)
theorem TwL.start{tw:Bool}{fl:List Int}(h:Tw tw fl)(L:List Int):TwL tw fl L 0:=by
 unfold TwL;unfold Tw at h;rw[h];constructor
 ·intro h1 h2;exact h1 h2.1
 ·intro h1 h2;exact h1 ⟨h2,fun i hi=>by omega⟩
theorem TwL.step{tw:Bool}{fl L:List Int}{j:Nat}(h:TwL tw fl L j):TwL (tw||decide (L.getD j 0∈fl)) fl L (j+1):=by
 unfold TwL at*;cases tw
 ·have h0:fl.Nodup/\∀i,i<j->L.getD i 0∉fl:=by
   by_cases hn:fl.Nodup/\∀i,i<j->L.getD i 0∉fl
   ·exact hn
   ·exact absurd (h.2 hn) (by simp)
  by_cases hm:L.getD j 0∈fl
  ·rw[zS hm]
   exact⟨fun _ hx=>hx.2 j (by omega) hm,fun _=>rfl⟩
  ·rw[zU hm]
   refine⟨fun h=>(by cases h),fun hx=>absurd ⟨h0.1,fun i hi=> ?_⟩ hx⟩;by_cases e:i=j
   ·rw[e];exact hm
   ·exact h0.2 i (by omega)
 ·have:=h.1 rfl
  exact⟨fun _ hx=>this ⟨hx.1,fun i hi=>hx.2 i (by omega)⟩,fun _=>rfl⟩
theorem TwL.done{tw:Bool}{fl L:List Int}(h:TwL tw fl L L.length):tw=true↔¬yh5 fl L:=by
 unfold TwL at h;rw[h];unfold yh5;constructor
 ·intro h1 h2
  exact h1 ⟨h2.1,fun i hi=>h2.2 _ (by rw[zM,zO hi];simp)⟩
 ·intro h1 h2
  refine h1 ⟨h2.1,fun x hx=> ?_⟩;obtain⟨j,hj,e⟩:=xK hx;have:=h2.2 j hj;rw[zM,zO hj]at this;rw[<-e];exact this
theorem zj3(n fine:Int)(a ao av ra la:Option Addr)(cap ko co kv cv rc lc:Nat)(zs os vs L:List Int)(R:List RT)(w:zg)(hA:za3 w a zs)(hO:za3 w ao os)(hV:za3 w av vs)(hR:za9 w ra R)(hL:za3 w la L)(hlo:os.length=ko*6)(hlv:vs.length=kv*5)(hko:ko<=9223372036854775807)(hkv:kv<=9223372036854775807)(hn:R.length<=1048576)(hi:∀r∈R,r.ids.length<=1048576)(hrc:∀r∈R,r.ids.length<=r.c)(hll:L.length<=1048576)(hal:(za8 R R.length).length<=1048576):
 Calls ze 38 #[.agg #[zc zb n,za a zs.length cap,za ao ko co,za av kv cv,zc zb fine],.agg #[za ra R.length rc,za la L.length lc]] w fun e w'=>e=.returned (zc zb (zc3 n zs os vs ko kv fine R L))/\Below w.heap.size w w':=by
 have HA:=za4 hA;have HO:=za4 hO;have HV:=za4 hV;have HR:=za4 hR;have HL:=za4 hL;have HLO:Hid _:=hlo;have HLV:Hid _:=hlv;have HAL:Hid _:=hal;have HI:=za4 hi;have HRC:=za4 hrc;clear hA hO hV hR hL hlo hlv hi hrc hal;obtain⟨v,HVAL⟩:=nmd (zc3 n zs os vs ko kv fine R L);rw[HVAL.X];obtain⟨m,HN⟩:=nmd R.length;obtain⟨ml,HM⟩:=nmd L.length;rw[HN.X]at hn⊢;rw[HM.X]at hll⊢;have C0:Hid (CP w ((w.alloc (zd #[zc zb n,za a zs.length cap,za ao ko co,za av kv cv,zc zb fine] 30)).alloc (zd #[za ra m rc,za la ml lc] 33)) _ _):=CP.new w _ _;obtain⟨c0,c1,c2,c3,c4⟩:=za7 C0.2.1;go_enter Tryz.func38,Tryz.ntmps38
 go_wp2_with fail
 clear c0 c1 c2 c3 c4;generalize(w.alloc (zd #[zc zb n,za a zs.length cap,za ao ko co,za av kv cv,zc zb fine] 30)).alloc (zd #[za ra m rc,za la ml lc] 33)=W0 at*;refine(z99 n fine a ao av cap ko co kv cv zs os vs W0 (HA.below C0.1) (HO.below C0.1) (HV.below C0.1) HLO.X HLV.X hko hkv).mono ?_;rintro e w1 ⟨rfl,hb⟩;have C1:=za4 (C0.below hb);clear hb C0;by_cases hc2:zc8 n zs os vs ko kv fine=false
 ·have HE:Hid (v=1):=HVAL.symm.trans (yr9 hc2)
  rw[hc2];clear hc2;go_wp2;go_ret;exact⟨by rw[HE.X];rfl,C1.1⟩
 have hcc:zc8 n zs os vs ko kv fine=true:=by simpa using hc2
 have HC:=za4 hcc;rw[HC.X];clear hc2 hcc;have HBASE:Hid (w.heap.size<=w1.heap.size):=C1.1.size;have O0:Hid ((w1.alloc (zd #[] 2)).ownsRow w1.heap.size 2 1 (za (some ⟨w1.heap.size,0,none⟩) 0 0) 0 (([]:List Int).map (zc zb))):=zY1 w1;have C2:Hid (CP w (w1.alloc (zd #[] 2)) #[zc zb n,za a zs.length cap,za ao ko co,za av kv cv,zc zb fine] #[za ra m rc,za la ml lc]):=C1.below (zK _);have HSZ:Hid (w1.heap.size<=(w1.alloc (zd #[] 2)).heap.size):=by show _<=_;simp
 go_wp2_with fail
 generalize hZ:w1.alloc (zd #[] 2)=W2 at*;generalize w1.heap.size=base at*;clear hZ C1;go_loopw[5,6,7] (fun ts tt ti wr=>∃(k:Nat) (tw:Bool),k<=m/\ti=zc zb k/\tt=.bool tw/\Tw tw (za8 R k)/\zi6 n zs os vs ko kv R k/\wr.ownsRow base 2 1 ts (za8 R k).length ((za8 R k).map (zc zb))/\CP w wr #[zc zb n,za a zs.length cap,za ao ko co,za av kv cv,zc zb fine] #[za ra m rc,za la ml lc]/\base<=wr.heap.size) (fun _ _ ti _=>m - (intOf ti).toNat)
 case atStart=>exact⟨0,false,yZ _,rfl,rfl,by rw[zi4];exact Tw.nil,zi6.zero _ _ _ _ _ _ _,by rw[zi4];exact O0.X,C2.X,HSZ.X⟩
 case round=>
  clear C2 O0 HSZ;obtain⟨k,tw,hk,rfl,rfl,htw,hok,hown,hcp,hsz⟩:=hrel;have TW:=za4 htw;have OK:=za4 hok;have OW:=za4 hown;have CW:=za4 hcp;have SZ:=za4 hsz;clear htw hok hown hcp hsz;by_cases hlt:k<m
  ·have hkl:k<R.length:=by rw[HN.X];exact hlt
   have hmem:R.getD k rt0∈R:=by rw[zM,zO hkl];simp
   have hRW:=HR.below CW.1;obtain⟨b,off,rfl,h1,h2,h3⟩:=hRW k hkl;have iw:za3 w (R.getD k rt0).a (R.getD k rt0).ids:=by obtain⟨_,_,_,_,_,i⟩:=HR.X k hkl;exact i
   have hml:=HI.X _ hmem;have HRCL:Hid _:=HRC.X _ hmem;have HNIL:Hid ((R.getD k rt0).ids.length=0->v=2):=fun h=>HVAL.symm.trans (zO0 HC.X (HN.X▸fun H=>(H k hlt).2.1 (xt h)));have HCOD:Hid (codeV true n zs os vs ko kv (R.getD k rt0).v (R.getD k rt0).ids≠0->v=2):=fun h=>HVAL.symm.trans (zO0 HC.X (HN.X▸fun H=>h (H k hlt).2.2));have HLOW:Hid (0<k->¬(R.getD (k - 1) rt0).v<(R.getD k rt0).v->v=2):=fun h0 h=>HVAL.symm.trans (zO0 HC.X (HN.X▸fun H=>h ((H k hlt).1 h0)));have HSTEP:Hid ((0<k->(R.getD (k - 1) rt0).v<(R.getD k rt0).v)->¬(R.getD k rt0).ids.length=0->codeV true n zs os vs ko kv (R.getD k rt0).v (R.getD k rt0).ids=0->zi6 n zs os vs ko kv R (k+1)):=fun h1 h2 h3=>OK.step h1 (fun e=>h2 (by rw[e];rfl)) h3
   have HALLS:Hid (za8 R (k+1)=za8 R k++(R.getD k rt0).ids):=zf4 hkl;have HPART:Hid (∀j,j<=(R.getD k rt0).ids.length->(za8 R k++(R.getD k rt0).ids.take j).length<=1048576):=fun j hj=>y7 (zM0 hkl hj) HAL.X;obtain⟨r,HRT⟩:=nmd (R.getD k rt0);rw[HRT.X]at h1 h2 h3 iw hml HRCL HNIL HCOD HLOW HSTEP HALLS HPART;have hpv:0<k->∃p,(R.getD (k - 1) rt0).v=p/\wr.cell? ⟨b,off+(k - 1)*2,none⟩=some (zc zb p):=fun h0=>by
    obtain⟨b',off',e,h1',_,_⟩:=hRW (k - 1) (by omega);simp at e;obtain⟨rfl,rfl⟩:=e;exact⟨_,rfl,h1'⟩
   have HPV:Hid _:=hpv;obtain⟨ra0,HRA⟩:=nmd r.a;rw[HRA.X]at h2 h3 iw;have IR:=za4 h3;have IW:=za4 iw;clear h3 iw hmem hRW hpv hkl;obtain⟨q,HQ⟩:=nmd r.ids.length;rw[HQ.X]at h2 hml HRCL HNIL HSTEP HPART;obtain⟨d0,d1⟩:=za1 CW.2.2
   go_wp2_with fail
   clear d0 d1;have BX:Hid (Below wr.heap.size wr (wr.alloc (zd #[zc zb r.v,za ra0 q r.c] 80))):=zK _;have GX:Hid ((wr.alloc (zd #[zc zb r.v,za ra0 q r.c] 80)).heap[wr.heap.size]? =_):=zN _ _;generalize(wr.alloc (zd #[zc zb r.v,za ra0 q r.c] 80))=W1 at*;have CX:=za4 (CW.below BX.X);have IX:=za4 (IR.below BX.X);have OX1:=za4 (zc5 OW.X BX.X);have SX:Hid (base<=W1.heap.size):=y7 SZ.X BX.size;have HPX:Hid (0<k->∃p,(R.getD (k - 1) rt0).v=p/\W1.cell? ⟨b,off+(k - 1)*2,none⟩=some (zc zb p)):=fun h0=>by
    obtain⟨p,e,hc⟩:=HPV.X h0;exact⟨p,e,(BX.cell (p:=⟨b,off+(k - 1)*2,none⟩) (zT hc)).trans hc⟩
   generalize wr.heap.size=g8 at*;clear h1 h2 CW IR OW SZ HPV BX;obtain⟨c0,c1,c2,c3,c4⟩:=za7 CX.2.1;obtain⟨d0,d1⟩:=za1 CX.2.2;obtain⟨x0,x1⟩:=za1 GX.X;have s0:=fun s:Kin W1=>s.cell c0;have s1:=fun s:Kin W1=>s.cell c1;have s2:=fun s:Kin W1=>s.cell c2;have s3:=fun s:Kin W1=>s.cell c3;have s4:=fun s:Kin W1=>s.cell c4;have t0:=fun s:Kin W1=>s.cell d0;have y0:=fun s:Kin W1=>s.cell x0;have y1:=fun s:Kin W1=>s.cell x1;clear c0 c1 c2 c3 c4 d0 d1 x0 x1;have HOKC:Hid (∀(s:Kin W1) (vb:Bool),decide (codeV true n zs os vs ko kv r.v r.ids=0)=vb->Calls ze 86 #[.agg #[zc zb n,za a zs.length cap,za ao ko co,za av kv cv,zc zb fine],.agg #[zc zb r.v,za ra0 q r.c]] s.w fun e w'=>e=.returned (.bool vb)/\∃s':Kin W1,w'=s'.w):=fun s vb hvb=>by
    have:=z62 n fine r.v a ao av ra0 cap ko co kv cv r.c zs os vs r.ids s.w ((HA.below CX.1).below s.below) ((HO.below CX.1).below s.below) ((HV.below CX.1).below s.below) (IX.below s.below) HLO.X HLV.X hko hkv (by rw[HQ.X];omega) (by rw[HQ.X];exact HRCL.X) vb (by rw[HC.X];exact hvb);rw[HQ.X]at this;exact Kin.call this
   have hkin:=Kin.there W1;have HGO:Hid ((0<k->(R.getD (k - 1) rt0).v<r.v)∨(0<k/\¬(R.getD (k - 1) rt0).v<r.v)):=by
    show _∨_;by_cases h0:0<k
    ·by_cases h:(R.getD (k - 1) rt0).v<r.v
     ·exact .inl fun _=>h
     ·exact .inr ⟨h0,h⟩
    ·exact .inl fun h=>absurd h h0
   by_cases hk0:0<k
   ·obtain⟨p,hpe,hpc⟩:=HPX.X hk0
    have HPE:=za4 hpe;have tp:=fun s:Kin W1=>s.cell hpc;have hkm:k - 1<m:=by omega
    have hw1:IntKind.i64.wrap ((k:Int) - 1)=((k - 1:Nat):Int):=by rw[xk];omega
    clear hpe hpc;by_cases hp:p<r.v
    ·have hpd:decide (r.v<=p)=false:=by simp;omega
     by_cases hq:q=0
     ·have HE:Hid (v=2):=HNIL.X hq
      have hq1:((q:Int)==0)=true:=by simp[hq]
      refine zb0 (by kernel_rfl) (by kernel_rfl) ?_
      repeat(go_big_quiet_step (fail))
      refine xj ?_;rintro _ ⟨s,rfl⟩;have C3:=za4 (CX.below s.below);generalize s.w=w3 at*;go_wp2;go_ret;exact⟨by rw[HE.X];rfl,C3.1⟩
     ·have hq1:((q:Int)==0)=false:=by simp;omega
      obtain⟨b2,off2,rfl,-⟩:=IW.X 0 (by rw[HQ.X];omega);by_cases hcode:¬codeV true n zs os vs ko kv r.v r.ids=0
      ·have HE:Hid (v=2):=HCOD.X hcode
       have HCN:Hid _:=hcode;clear hcode;refine zb0 (by kernel_rfl) (by kernel_rfl) ?_
       repeat(go_big_quiet_step ((go_at_call 86;exact HOKC.X _ _ (zU HCN.X))))
       refine xj ?_;rintro _ ⟨s,rfl⟩;have C3:=za4 (CX.below s.below);generalize s.w=w3 at*;go_wp2;go_ret;exact⟨by rw[HE.X];rfl,C3.1⟩
      ·have hcode:=Decidable.not_not.1 hcode
       have OK1:Hid (zi6 n zs os vs ko kv R (k+1)):=HSTEP.X (fun _=>by rw[HPE.X];exact hp) hq hcode;have HCN:Hid _:=hcode;clear hcode;refine zb0 (by kernel_rfl) (by kernel_rfl) ?_
       repeat(go_big_quiet_step ((go_at_call 86;exact HOKC.X _ _ (zS HCN.X))))
       refine xj ?_;rintro _ ⟨s,rfl⟩;have C3:=za4 (CX.below s.below);have G3:=za4 (za0 s.below (za2 GX.X) GX.X);have I3:=za4 (IX.below s.below);have O3:=za4 (zc5 OX1.X s.below);have Z3:Hid (base<=s.w.heap.size):=y7 SX.X s.below.size;generalize s.w=w3 at*;clear s0 s1 s2 s3 s4 t0 y0 y1 CX GX IX OX1 SX HOKC hkin HSTEP HNIL HCOD HLOW HRCL HPX hq hq1 hcode HCN HGO OK I3;clear tp hkm hw1 hp hpd hk0 HPE
       go_wp2_with fail
       go_loopw[5,6,9] (fun ts tt ti wr=>∃(j:Nat) (tw:Bool),j<=q/\ti=zc zb j/\tt=.bool tw/\Tw tw (za8 R k++r.ids.take j)/\wr.ownsRow base 2 1 ts (za8 R k++r.ids.take j).length ((za8 R k++r.ids.take j).map (zc zb))/\CP w wr #[zc zb n,za a zs.length cap,za ao ko co,za av kv cv,zc zb fine] #[za (some ⟨b,off,none⟩) m rc,za la ml lc]/\base<=wr.heap.size/\wr.heap[g8]? =some (zd #[zc zb r.v,za (some ⟨b2,off2,none⟩) q r.c] 80 (0,0))) (fun _ _ ti _=>q - (intOf ti).toNat)
       case atStart=>exact⟨0,tw,yZ _,rfl,rfl,by rw[xR,xY];exact TW.X,by rw[xR,xY];exact O3.X,C3.X,Z3.X,G3.X⟩
       case round=>
        clear C3 O3 Z3 G3 TW;obtain⟨j,tw2,hj,rfl,rfl,htw,hown,hcp,hsz,hg8⟩:=hrel;have SZ2:=za4 hsz;have CW2:=za4 hcp;have G82:=za4 hg8;have HFLN:Hid ((za8 R k++r.ids.take j).length<=1048576):=HPART.X j hj;by_cases hjq:j<q
        ·have hjl:j<r.ids.length:=by rw[HQ.X];exact hjq
         have HSN:Hid (za8 R k++r.ids.take (j+1)=(za8 R k++r.ids.take j)++[r.ids.getD j 0]):=by show _=_;rw[zg0 _ _ hjl,z7]
         obtain⟨fl,HFL⟩:=nmd (za8 R k++r.ids.take j);obtain⟨id,HID⟩:=nmd (r.ids.getD j 0);rw[HID.X]at HSN;have hcc:=zu2 (IW.below hcp.1) hjl HID.X;rw[HFL.X]at htw hown HFLN HSN;have TW2:=za4 htw;obtain⟨sa,sc,rfl,hxl,hsI⟩:=zv4 hown;have OW2:=za4 hown;have SI:=za4 hsI;have hfl:fl.length<=1048576:=HFLN.X;have HHAS:Hid (zx5 fl fl.length id=decide (id∈fl)):=zt3 fl id;clear htw hown hcp hsz hg8 hsI hxl hjl HFLN;obtain⟨bb,HBB⟩:=nmd (decide (id∈fl));rw[HBB.X]at HHAS;have HTN:Hid (Tw (tw2||bb) (za8 R k++r.ids.take (j+1))):=by
          have:=TW2.step id;rw[HBB.X]at this;rw[HSN.X];exact this
         obtain⟨nf,HNF⟩:=nmd fl.length;have HCALL:=z44 sa fl.length sc id fl wr bb HHAS.X SI.X (zQ _) (by omega);rw[HNF.X]at hfl OW2 HCALL⊢;obtain⟨x0,x1⟩:=za1 G82.X;cases tw2
         ·go_wp2_with(first
           |(go_at_call 87;refine HCALL.mono ?_;rintro e w' ⟨rfl,rfl⟩)
           |(at_builtin;refine zs0 _ rfl _ _ rfl base (za sa nf sc) nf _ rfl (OW2.alloc _) _ _ (zc zb id) rfl (zt8 _ _ _ _ (by simp)) rfl (by omega) (y7 SZ2.X (by simp)) ?_;intro v' w4 hown4 hgrow4)
           |go_in)
          have CA:Hid (CP w _ #[zc zb n,za a zs.length cap,za ao ko co,za av kv cv,zc zb fine] #[za (some ⟨b,off,none⟩) m rc,za la ml lc]):=CW2.below (zK (zd #[zc zb id] 2));have GA:Hid _:=za0 (zK (zd #[zc zb id] 2)) (za2 G82.X) G82.X;have CB:Hid (CP w w4 #[zc zb n,za a zs.length cap,za ao ko co,za av kv cv,zc zb fine] #[za (some ⟨b,off,none⟩) m rc,za la ml lc]):=CA.grow (OW2.alloc _) HBASE.X hgrow4;have GB:Hid (w4.heap[g8]? =_):=zb9 hgrow4 GA.X (zm8 (OW2.alloc _) GA.X (by decide));have ZB:Hid (base<=w4.heap.size):=by
           have h1:=hgrow4.size;have h2:=SZ2.X;simp at h1;show _<=_;omega
          have OB:Hid (w4.ownsRow base 2 1 v' (za8 R k++r.ids.take (j+1)).length ((za8 R k++r.ids.take (j+1)).map (zc zb))):=by
           rw[HSN.X,xU,xX,HNF.X];exact hown4
          clear CA GA;go_roundw
          case rel=>exact⟨j+1,_,by omega,by go_num,rfl,HTN.X,OB.X,CB.X,ZB.X,GB.X⟩
          case measure=>simp[intOf];omega
         ·go_wp2_with(first
           |(at_builtin;refine zs0 _ rfl _ _ rfl base (za sa nf sc) nf _ rfl (OW2.alloc _) _ _ (zc zb id) rfl (zt8 _ _ _ _ (by simp)) rfl (by omega) (y7 SZ2.X (by simp)) ?_;intro v' w4 hown4 hgrow4)
           |go_in)
          have CA:Hid (CP w _ #[zc zb n,za a zs.length cap,za ao ko co,za av kv cv,zc zb fine] #[za (some ⟨b,off,none⟩) m rc,za la ml lc]):=CW2.below (zK (zd #[zc zb id] 2));have GA:Hid _:=za0 (zK (zd #[zc zb id] 2)) (za2 G82.X) G82.X;have CB:Hid (CP w w4 #[zc zb n,za a zs.length cap,za ao ko co,za av kv cv,zc zb fine] #[za (some ⟨b,off,none⟩) m rc,za la ml lc]):=CA.grow (OW2.alloc _) HBASE.X hgrow4;have GB:Hid (w4.heap[g8]? =_):=zb9 hgrow4 GA.X (zm8 (OW2.alloc _) GA.X (by decide));have ZB:Hid (base<=w4.heap.size):=by
           have h1:=hgrow4.size;have h2:=SZ2.X;simp at h1;show _<=_;omega
          have OB:Hid (w4.ownsRow base 2 1 v' (za8 R k++r.ids.take (j+1)).length ((za8 R k++r.ids.take (j+1)).map (zc zb))):=by
           rw[HSN.X,xU,xX,HNF.X];exact hown4
          clear CA GA;go_roundw
          case rel=>exact⟨j+1,_,by omega,by go_num,rfl,HTN.X,OB.X,CB.X,ZB.X,GB.X⟩
          case measure=>simp[intOf];omega
        ·have hjq2:j=q:=by omega
         have HA2:Hid (za8 R k++r.ids.take j=za8 R (k+1)):=by
          show _=_;rw[HALLS.X,hjq2,<-HQ.X,yc]
         rw[HA2.X]at htw hown;have TW3:=za4 htw;have OW3:=za4 hown;obtain⟨x0,x1⟩:=za1 G82.X;clear hjq2 htw hown hcp hsz hg8;go_wp2
         first
          |exact⟨⟨k+1,tw2,by omega,by go_num,rfl,TW3.X,OK1.X,OW3.X,CW2.X,SZ2.X⟩,by simp[intOf];omega⟩
          |(go_roundw
            case rel=>exact⟨k+1,tw2,by omega,by go_num,rfl,TW3.X,OK1.X,OW3.X,CW2.X,SZ2.X⟩
            case measure=>simp[intOf];omega)
    ·have HE:Hid (v=2):=HLOW.X hk0 (by rw[HPE.X];first|exact hp|omega)
     have hpd:decide (r.v<=p)=true:=by simp;omega
     refine zb0 (by kernel_rfl) (by kernel_rfl) ?_
     repeat(go_big_quiet_step (fail))
     refine xj ?_;rintro _ ⟨s,rfl⟩;have C3:=za4 (CX.below s.below);generalize s.w=w3 at*;go_wp2;go_ret;exact⟨by rw[HE.X];rfl,C3.1⟩
   ·have hkz:(decide (0<k))=false:=by simp;omega
    have hk1:k<=0:=by omega
    by_cases hq:q=0
    ·have HE:Hid (v=2):=HNIL.X hq
     have hq1:((q:Int)==0)=true:=by simp[hq]
     refine zb0 (by kernel_rfl) (by kernel_rfl) ?_
     repeat(go_big_quiet_step (fail))
     refine xj ?_;rintro _ ⟨s,rfl⟩;have C3:=za4 (CX.below s.below);generalize s.w=w3 at*;go_wp2;go_ret;exact⟨by rw[HE.X];rfl,C3.1⟩
    ·have hq1:((q:Int)==0)=false:=by simp;omega
     obtain⟨b2,off2,rfl,-⟩:=IW.X 0 (by rw[HQ.X];omega);by_cases hcode:¬codeV true n zs os vs ko kv r.v r.ids=0
     ·have HE:Hid (v=2):=HCOD.X hcode
      have HCN:Hid _:=hcode;clear hcode;refine zb0 (by kernel_rfl) (by kernel_rfl) ?_
      repeat(go_big_quiet_step ((go_at_call 86;exact HOKC.X _ _ (zU HCN.X))))
      refine xj ?_;rintro _ ⟨s,rfl⟩;have C3:=za4 (CX.below s.below);generalize s.w=w3 at*;go_wp2;go_ret;exact⟨by rw[HE.X];rfl,C3.1⟩
     ·have hcode:=Decidable.not_not.1 hcode
      have OK1:Hid (zi6 n zs os vs ko kv R (k+1)):=HSTEP.X (fun h=>absurd h hk0) hq hcode;have HCN:Hid _:=hcode;clear hcode;refine zb0 (by kernel_rfl) (by kernel_rfl) ?_
      repeat(go_big_quiet_step ((go_at_call 86;exact HOKC.X _ _ (zS HCN.X))))
      refine xj ?_;rintro _ ⟨s,rfl⟩;have C3:=za4 (CX.below s.below);have G3:=za4 (za0 s.below (za2 GX.X) GX.X);have I3:=za4 (IX.below s.below);have O3:=za4 (zc5 OX1.X s.below);have Z3:Hid (base<=s.w.heap.size):=y7 SX.X s.below.size;generalize s.w=w3 at*;clear s0 s1 s2 s3 s4 t0 y0 y1 CX GX IX OX1 SX HOKC hkin HSTEP HNIL HCOD HLOW HRCL HPX hq hq1 hcode HCN HGO OK I3;clear hkz hk1 hk0
      go_wp2_with fail
      go_loopw[5,6,9] (fun ts tt ti wr=>∃(j:Nat) (tw:Bool),j<=q/\ti=zc zb j/\tt=.bool tw/\Tw tw (za8 R k++r.ids.take j)/\wr.ownsRow base 2 1 ts (za8 R k++r.ids.take j).length ((za8 R k++r.ids.take j).map (zc zb))/\CP w wr #[zc zb n,za a zs.length cap,za ao ko co,za av kv cv,zc zb fine] #[za (some ⟨b,off,none⟩) m rc,za la ml lc]/\base<=wr.heap.size/\wr.heap[g8]? =some (zd #[zc zb r.v,za (some ⟨b2,off2,none⟩) q r.c] 80 (0,0))) (fun _ _ ti _=>q - (intOf ti).toNat)
      case atStart=>exact⟨0,tw,yZ _,rfl,rfl,by rw[xR,xY];exact TW.X,by rw[xR,xY];exact O3.X,C3.X,Z3.X,G3.X⟩
      case round=>
       clear C3 O3 Z3 G3 TW;obtain⟨j,tw2,hj,rfl,rfl,htw,hown,hcp,hsz,hg8⟩:=hrel;have SZ2:=za4 hsz;have CW2:=za4 hcp;have G82:=za4 hg8;have HFLN:Hid ((za8 R k++r.ids.take j).length<=1048576):=HPART.X j hj;by_cases hjq:j<q
       ·have hjl:j<r.ids.length:=by rw[HQ.X];exact hjq
        have HSN:Hid (za8 R k++r.ids.take (j+1)=(za8 R k++r.ids.take j)++[r.ids.getD j 0]):=by show _=_;rw[zg0 _ _ hjl,z7]
        obtain⟨fl,HFL⟩:=nmd (za8 R k++r.ids.take j);obtain⟨id,HID⟩:=nmd (r.ids.getD j 0);rw[HID.X]at HSN;have hcc:=zu2 (IW.below hcp.1) hjl HID.X;rw[HFL.X]at htw hown HFLN HSN;have TW2:=za4 htw;obtain⟨sa,sc,rfl,hxl,hsI⟩:=zv4 hown;have OW2:=za4 hown;have SI:=za4 hsI;have hfl:fl.length<=1048576:=HFLN.X;have HHAS:Hid (zx5 fl fl.length id=decide (id∈fl)):=zt3 fl id;clear htw hown hcp hsz hg8 hsI hxl hjl HFLN;obtain⟨bb,HBB⟩:=nmd (decide (id∈fl));rw[HBB.X]at HHAS;have HTN:Hid (Tw (tw2||bb) (za8 R k++r.ids.take (j+1))):=by
         have:=TW2.step id;rw[HBB.X]at this;rw[HSN.X];exact this
        obtain⟨nf,HNF⟩:=nmd fl.length;have HCALL:=z44 sa fl.length sc id fl wr bb HHAS.X SI.X (zQ _) (by omega);rw[HNF.X]at hfl OW2 HCALL⊢;obtain⟨x0,x1⟩:=za1 G82.X;cases tw2
        ·go_wp2_with(first
          |(go_at_call 87;refine HCALL.mono ?_;rintro e w' ⟨rfl,rfl⟩)
          |(at_builtin;refine zs0 _ rfl _ _ rfl base (za sa nf sc) nf _ rfl (OW2.alloc _) _ _ (zc zb id) rfl (zt8 _ _ _ _ (by simp)) rfl (by omega) (y7 SZ2.X (by simp)) ?_;intro v' w4 hown4 hgrow4)
          |go_in)
         have CA:Hid (CP w _ #[zc zb n,za a zs.length cap,za ao ko co,za av kv cv,zc zb fine] #[za (some ⟨b,off,none⟩) m rc,za la ml lc]):=CW2.below (zK (zd #[zc zb id] 2));have GA:Hid _:=za0 (zK (zd #[zc zb id] 2)) (za2 G82.X) G82.X;have CB:Hid (CP w w4 #[zc zb n,za a zs.length cap,za ao ko co,za av kv cv,zc zb fine] #[za (some ⟨b,off,none⟩) m rc,za la ml lc]):=CA.grow (OW2.alloc _) HBASE.X hgrow4;have GB:Hid (w4.heap[g8]? =_):=zb9 hgrow4 GA.X (zm8 (OW2.alloc _) GA.X (by decide));have ZB:Hid (base<=w4.heap.size):=by
          have h1:=hgrow4.size;have h2:=SZ2.X;simp at h1;show _<=_;omega
         have OB:Hid (w4.ownsRow base 2 1 v' (za8 R k++r.ids.take (j+1)).length ((za8 R k++r.ids.take (j+1)).map (zc zb))):=by
          rw[HSN.X,xU,xX,HNF.X];exact hown4
         clear CA GA;go_roundw
         case rel=>exact⟨j+1,_,by omega,by go_num,rfl,HTN.X,OB.X,CB.X,ZB.X,GB.X⟩
         case measure=>simp[intOf];omega
        ·go_wp2_with(first
          |(at_builtin;refine zs0 _ rfl _ _ rfl base (za sa nf sc) nf _ rfl (OW2.alloc _) _ _ (zc zb id) rfl (zt8 _ _ _ _ (by simp)) rfl (by omega) (y7 SZ2.X (by simp)) ?_;intro v' w4 hown4 hgrow4)
          |go_in)
         have CA:Hid (CP w _ #[zc zb n,za a zs.length cap,za ao ko co,za av kv cv,zc zb fine] #[za (some ⟨b,off,none⟩) m rc,za la ml lc]):=CW2.below (zK (zd #[zc zb id] 2));have GA:Hid _:=za0 (zK (zd #[zc zb id] 2)) (za2 G82.X) G82.X;have CB:Hid (CP w w4 #[zc zb n,za a zs.length cap,za ao ko co,za av kv cv,zc zb fine] #[za (some ⟨b,off,none⟩) m rc,za la ml lc]):=CA.grow (OW2.alloc _) HBASE.X hgrow4;have GB:Hid (w4.heap[g8]? =_):=zb9 hgrow4 GA.X (zm8 (OW2.alloc _) GA.X (by decide));have ZB:Hid (base<=w4.heap.size):=by
          have h1:=hgrow4.size;have h2:=SZ2.X;simp at h1;show _<=_;omega
         have OB:Hid (w4.ownsRow base 2 1 v' (za8 R k++r.ids.take (j+1)).length ((za8 R k++r.ids.take (j+1)).map (zc zb))):=by
          rw[HSN.X,xU,xX,HNF.X];exact hown4
         clear CA GA;go_roundw
         case rel=>exact⟨j+1,_,by omega,by go_num,rfl,HTN.X,OB.X,CB.X,ZB.X,GB.X⟩
         case measure=>simp[intOf];omega
       ·have hjq2:j=q:=by omega
        have HA2:Hid (za8 R k++r.ids.take j=za8 R (k+1)):=by
         show _=_;rw[HALLS.X,hjq2,<-HQ.X,yc]
        rw[HA2.X]at htw hown;have TW3:=za4 htw;have OW3:=za4 hown;obtain⟨x0,x1⟩:=za1 G82.X;clear hjq2 htw hown hcp hsz hg8;go_wp2
        first
         |exact⟨⟨k+1,tw2,by omega,by go_num,rfl,TW3.X,OK1.X,OW3.X,CW2.X,SZ2.X⟩,by simp[intOf];omega⟩
         |(go_roundw
           case rel=>exact⟨k+1,tw2,by omega,by go_num,rfl,TW3.X,OK1.X,OW3.X,CW2.X,SZ2.X⟩
           case measure=>simp[intOf];omega)
  ·have hkm:k=m:=by omega
   have TW9:Hid (Tw tw (za8 R m)):=hkm▸TW.X;have OK9:Hid (zi6 n zs os vs ko kv R R.length):=HN.symm▸hkm▸OK.X;have OW9:Hid (wr.ownsRow base 2 1 u5 (za8 R m).length ((za8 R m).map (zc zb))):=hkm▸OW.X;clear hkm TW OK OW;have HFM:Hid (za8 R R.length=za8 R m):=by show _=_;rw[HN.X]
   obtain⟨fl,HFL⟩:=nmd (za8 R m);rw[HFL.X]at TW9 OW9 HFM;obtain⟨sa,sc,rfl,-,hsI⟩:=zv4 OW9.X;have SI:=za4 hsI;have hfl:fl.length<=1048576:=by rw[<-HFM.X];exact HAL.X
   clear hsI OW9;obtain⟨nf,HNF⟩:=nmd fl.length;rw[HNF.X]at hfl⊢;obtain⟨d0,d1⟩:=za1 CW.2.2
   go_wp2_with fail
   go_loop [6,10] (fun tt ti=>∃(j:Nat) (tw:Bool),j<=ml/\ti=zc zb j/\tt=.bool tw/\TwL tw fl L j) (fun _ ti=>ml - (intOf ti).toNat)
   case atStart=>exact⟨0,tw,yZ _,rfl,rfl,TwL.start TW9.X L⟩
   case round=>
    clear TW9;obtain⟨j,tw2,hj,rfl,rfl,htw⟩:=hrel;have TW2:=za4 htw;clear htw;by_cases hjl:j<ml
    ·have hjL:j<L.length:=by rw[HM.X];exact hjl
     obtain⟨b2,off2,rfl,hcc⟩:=(HL.below CW.1) j hjL;have HTN:=TW2.step;obtain⟨id,HID⟩:=nmd (L.getD j 0);rw[HID.X]at hcc HTN;obtain⟨bb,HBB⟩:=nmd (decide (id∈fl));rw[HBB.X]at HTN;have HT2:Hid _:=HTN;have HCALL:=z44 sa fl.length sc id fl wr bb ((zt3 fl id).trans HBB.X) SI.X (zQ _) (by rw[HNF.X];omega);rw[HNF.X]at HCALL;clear HTN hjL;cases tw2
     ·go_wp2_with(go_at_call 87;refine HCALL.mono ?_;rintro e w' ⟨rfl,rfl⟩)
      exact⟨⟨j+1,_,by omega,by go_num,rfl,HT2.X⟩,by simp[intOf];omega⟩
     ·go_wp2
      exact⟨⟨j+1,_,by omega,by go_num,rfl,HT2.X⟩,by simp[intOf];omega⟩
    ·have hjm:j=L.length:=by rw[HM.X];omega
     have HON:Hid (tw2=true↔¬yh5 fl L):=TwL.done (hjm▸TW2.X);clear hjm;cases tw2
     ·have ON:Hid (yh5 (za8 R R.length) L):=by
       rw[HFM.X];show yh5 fl L;exact Classical.not_not.1 fun h=>by have:=HON.2 h;cases this
      clear HON TW2
      go_wp2_with fail
      clear d0 d1;go_loopw[11] (fun ti wr=>∃j:Nat,j<=ml/\ti=zc zb j/\zg4 os ko L j/\CP w wr #[zc zb n,za a zs.length cap,za ao ko co,za av kv cv,zc zb fine] #[za ra m rc,za la ml lc]) (fun ti _=>ml - (intOf ti).toNat)
      case atStart=>exact⟨0,yZ _,rfl,zg4.zero _ _ _,CW.X⟩
      case round=>
       clear CW SI hj hjl;obtain⟨j,hj,rfl,hlo,hcp⟩:=hrel;have LO:=za4 hlo;have CW4:=za4 hcp;clear hlo hcp;by_cases hjl:j<ml
       ·have hjL:j<L.length:=by rw[HM.X];exact hjl
        obtain⟨b2,off2,rfl,hcc⟩:=(HL.below CW4.1) j hjL;have hLW:=HL.below CW4.1;have HBADT:Hid (zm0 os ko (L.getD j 0)=false->v=4):=fun h=>HVAL.symm.trans (zP2 HC.X OK9.X ON.X (fun H=>by rw[(H.1 j hjL).1]at h;cases h))
        have HBADP:Hid (0<j->¬L.getD (j - 1) 0<L.getD j 0->v=4):=fun h0 h=>HVAL.symm.trans (zP2 HC.X OK9.X ON.X (fun H=>h ((H.1 j hjL).2 h0)));have HSTEP:Hid (zm0 os ko (L.getD j 0)=true->(0<j->L.getD (j - 1) 0<L.getD j 0)->zg4 os ko L (j+1)):=fun h1 h2=>LO.step h1 h2;obtain⟨id,HID⟩:=nmd (L.getD j 0);rw[HID.X]at hcc HBADT HBADP HSTEP;have HLWW:=za4 hLW;obtain⟨o0,H0⟩:=nmd (zd0 os ko id 0);obtain⟨o1,H1⟩:=nmd (zd0 os ko id 1);obtain⟨o2,H2⟩:=nmd (zd0 os ko id 2);obtain⟨o3,H3⟩:=nmd (zd0 os ko id 3);obtain⟨o4,H4⟩:=nmd (zd0 os ko id 4);obtain⟨o5,H5⟩:=nmd (zd0 os ko id 5);obtain⟨tt,HTT⟩:=nmd (zm0 os ko id);rw[HTT.X]at HBADT HSTEP;obtain⟨c0,c1,c2,c3,c4⟩:=za7 CW4.2.1;obtain⟨d0,d1⟩:=za1 CW4.2.2;clear hLW
        go_wp2_with fail
        have HCT:=za4 hcc;have HCA:Hid ((wr.alloc (zd #[zc zb 0,zc zb 0,zc zb 0,zc zb 0,zc zb 0,zc zb 0] 103)).cell? ⟨b2,off2+j,none⟩=_):=(((yV wr.heap.size wr).alloc (zQ _) _).cell (p:=⟨b2,off2+j,none⟩) (zT hcc)).trans hcc;have hlb:=zT hcc;simp at hlb;have hlw:=za2 CW4.2.1;have hlr:=za2 CW4.2.2
        go_region_held3 (fun W=>W.cell? ⟨w.heap.size,0,none⟩=some (zc zb n)/\W.cell? ⟨w.heap.size,1,none⟩=some (za a zs.length cap)/\W.cell? ⟨w.heap.size,2,none⟩=some (za ao ko co)/\W.cell? ⟨w.heap.size,3,none⟩=some (za av kv cv)/\W.cell? ⟨w.heap.size,4,none⟩=some (zc zb fine)/\W.cell? ⟨w.heap.size+1,1,none⟩=some (za (some ⟨b2,off2,none⟩) ml lc)/\W.cell? ⟨b2,off2+j,none⟩=some (zc zb id)) (first|with_reducible exact kS|with_reducible exact⟨(za5 (za5 (za5 (za5 (za5 (za5 kS.1 (yW hlw)) (yW hlw)) (yW hlw)) (yW hlw)) (yW hlw)) (yW hlw)),(za5 (za5 (za5 (za5 (za5 (za5 kS.2.1 (yW hlw)) (yW hlw)) (yW hlw)) (yW hlw)) (yW hlw)) (yW hlw)),(za5 (za5 (za5 (za5 (za5 (za5 kS.2.2.1 (yW hlw)) (yW hlw)) (yW hlw)) (yW hlw)) (yW hlw)) (yW hlw)),(za5 (za5 (za5 (za5 (za5 (za5 kS.2.2.2.1 (yW hlw)) (yW hlw)) (yW hlw)) (yW hlw)) (yW hlw)) (yW hlw)),(za5 (za5 (za5 (za5 (za5 (za5 kS.2.2.2.2.1 (yW hlw)) (yW hlw)) (yW hlw)) (yW hlw)) (yW hlw)) (yW hlw)),(za5 (za5 (za5 (za5 (za5 (za5 kS.2.2.2.2.2.1 (yW hlr)) (yW hlr)) (yW hlr)) (yW hlr)) (yW hlr)) (yW hlr)),(za5 (za5 (za5 (za5 (za5 (za5 kS.2.2.2.2.2.2 (yW hlb)) (yW hlb)) (yW hlb)) (yW hlb)) (yW hlb)) (yW hlb))⟩|go_keep) ((first
         |(go_at_call 88
           with_reducible refine(zr7 n fine id a ao av _ cap ko co kv cv os wr.drew ?_ HLO.X hko).mono ?_
           ·exact HO.below CW4.drew.1
           rintro e w2 ⟨rfl,hb2⟩;rw[H0.X,H1.X,H2.X,H3.X,H4.X,H5.X,HTT.X];have hcr2:=CP.below CW4.drew hb2;obtain⟨k0,k1,k2,k3,k4⟩:=za7 hcr2.2.1;have k5:=(za1 hcr2.2.2).2;have k6:=(hb2.cell (p:=⟨b2,off2+j,none⟩) (zT HCT.X)).trans HCT.X;have kS:=xe k0 (xe k1 (xe k2 (xe k3 (xe k4 (xe k5 k6)))));have CR2:=za4 hcr2;clear hb2 hcr2 k0 k1 k2 k3 k4 k5 k6)
         |(go_at_call 88
           with_reducible refine(zr7 n fine id a ao av _ cap ko co kv cv os (wr.alloc (zd #[zc zb 0,zc zb 0,zc zb 0,zc zb 0,zc zb 0,zc zb 0] 103)).drew ?_ HLO.X hko).mono ?_
           ·exact HO.below (CP.drew (CP.alloc CW4.X (zd #[zc zb 0,zc zb 0,zc zb 0,zc zb 0,zc zb 0,zc zb 0] 103))).1
           rintro e w2 ⟨rfl,hb2⟩;rw[H0.X,H1.X,H2.X,H3.X,H4.X,H5.X,HTT.X];have hcr2:=CP.below (CP.drew (CP.alloc CW4.X (zd #[zc zb 0,zc zb 0,zc zb 0,zc zb 0,zc zb 0,zc zb 0] 103))) hb2;obtain⟨k0,k1,k2,k3,k4⟩:=za7 hcr2.2.1;have k5:=(za1 hcr2.2.2).2;have k6:=(hb2.cell (p:=⟨b2,off2+j,none⟩) (zT HCA.X)).trans HCA.X;have kS:=xe k0 (xe k1 (xe k2 (xe k3 (xe k4 (xe k5 k6)))));have CR2:=za4 hcr2;obtain⟨z0,z1,z2,z3,z4,z5⟩:=zh8 (za0 hb2 (k:=wr.heap.size) (by simp) (zN wr (zd #[zc zb 0,zc zb 0,zc zb 0,zc zb 0,zc zb 0,zc zb 0] 103)));have zf:=fun i=>yU _ _ i _ _ (za0 hb2 (k:=wr.heap.size) (by simp) (zN wr (zd #[zc zb 0,zc zb 0,zc zb 0,zc zb 0,zc zb 0,zc zb 0] 103)))
           clear hb2 hcr2 k0 k1 k2 k3 k4 k5 k6)))
        all_goals(first
         |(have CRW:Hid (CP w (zh (zh (zh (zh (zh (zh w2 ⟨wr.heap.size,0,none⟩ (zc zb o0)) ⟨wr.heap.size,1,none⟩ (zc zb o1)) ⟨wr.heap.size,2,none⟩ (zc zb o2)) ⟨wr.heap.size,3,none⟩ (zc zb o3)) ⟨wr.heap.size,4,none⟩ (zc zb o4)) ⟨wr.heap.size,5,none⟩ (zc zb o5)) #[zc zb n,za a zs.length cap,za ao ko co,za av kv cv,zc zb fine] #[za ra m rc,za (some ⟨b2,off2,none⟩) ml lc]):=(CP.set (CP.set (CP.set (CP.set (CP.set (CP.set CR2.X CW4.big) CW4.big) CW4.big) CW4.big) CW4.big) CW4.big)
           clear kS CR2 HCT HCA hcc z0 z1 z2 z3 z4 z5 zf;generalize(zh (zh (zh (zh (zh (zh w2 ⟨wr.heap.size,0,none⟩ (zc zb o0)) ⟨wr.heap.size,1,none⟩ (zc zb o1)) ⟨wr.heap.size,2,none⟩ (zc zb o2)) ⟨wr.heap.size,3,none⟩ (zc zb o3)) ⟨wr.heap.size,4,none⟩ (zc zb o4)) ⟨wr.heap.size,5,none⟩ (zc zb o5))=W at*;generalize wr.heap.size=g at*)
         |(have CRW:Hid (CP w (w2.alloc (zd #[zc zb o0,zc zb o1,zc zb o2,zc zb o3,zc zb o4,zc zb o5] 103)) #[zc zb n,za a zs.length cap,za ao ko co,za av kv cv,zc zb fine] #[za ra m rc,za (some ⟨b2,off2,none⟩) ml lc]):=CP.alloc CR2.X _
           clear kS CR2 HCT HCA hcc;generalize w2.alloc (zd #[zc zb o0,zc zb o1,zc zb o2,zc zb o3,zc zb o4,zc zb o5] 103)=W at*;generalize w2.heap.size=g at*))
        all_goals
         clear c0 c1 c2 c3 c4 d0 d1 hlw hlr hlb;have q1:=(za1 CRW.2.2).2;have ctW:=zu2 (HL.below CRW.1) hjL HID.X;have t0:=fun s:Kin W=>s.cell q1;have t1:=fun s:Kin W=>s.cell ctW;have hkin:=Kin.there W;cases tt
         ·have HE:Hid (v=4):=HBADT.X rfl
          go_wp2_with fail
          refine zb0 (by kernel_rfl) (by kernel_rfl) ?_
          repeat(go_big_quiet_step (fail))
          refine xj ?_;rintro _ ⟨s,rfl⟩;have HS2:=za4 (CRW.below s.below);generalize s.w=w3 at*;go_wp2;go_ret;exact⟨by rw[HE.X];rfl,HS2.1⟩
         ·by_cases hj0:0<j
          ·obtain⟨p,HP⟩:=nmd (L.getD (j - 1) 0)
           have ctP:=zu2 (HL.below CRW.1) (j:=j - 1) (by omega) HP.X;have t2:=fun s:Kin W=>s.cell ctP;have hw1:IntKind.i64.wrap ((j:Int) - 1)=((j - 1:Nat):Int):=by rw[xk];omega
           have hjm1:j - 1<ml:=by omega
           by_cases hp:p<id
           ·have LO1:Hid (zg4 os ko L (j+1)):=HSTEP.X rfl (fun _=>by rw[HP.X];exact hp)
            have hpd:decide (id<=p)=false:=by simp;omega
            go_wp2_with fail
            refine zb0 (by kernel_rfl) (by kernel_rfl) ?_
            repeat(go_big_quiet_step (fail))
            refine xj ?_;rintro _ ⟨s,rfl⟩;have HS2:=za4 (CRW.below s.below);generalize s.w=w3 at*;go_wp2;exact⟨⟨j+1,by omega,by go_num,LO1.X,HS2.X⟩,by simp[intOf];omega⟩
           ·have HE:Hid (v=4):=HBADP.X hj0 (by rw[HP.X];first|exact hp|omega)
            have hpd:decide (id<=p)=true:=by simp;omega
            go_wp2_with fail
            refine zb0 (by kernel_rfl) (by kernel_rfl) ?_
            repeat(go_big_quiet_step (fail))
            refine xj ?_;rintro _ ⟨s,rfl⟩;have HS2:=za4 (CRW.below s.below);generalize s.w=w3 at*;go_wp2;go_ret;exact⟨by rw[HE.X];rfl,HS2.1⟩
          ·have LO1:Hid (zg4 os ko L (j+1)):=HSTEP.X rfl (fun h=>absurd h hj0)
           have hkz:(decide (0<j))=false:=by simp;omega
           have hk1:j<=0:=by omega
           go_wp2_with fail
           refine zb0 (by kernel_rfl) (by kernel_rfl) ?_
           repeat(go_big_quiet_step (fail))
           refine xj ?_;rintro _ ⟨s,rfl⟩;have HS2:=za4 (CRW.below s.below);generalize s.w=w3 at*;go_wp2;exact⟨⟨j+1,by omega,by go_num,LO1.X,HS2.X⟩,by simp[intOf];omega⟩
       ·have hjm:j=L.length:=by rw[HM.X];omega
        have LO9:Hid (zg4 os ko L L.length):=hjm▸LO.X;have HLEN:Hid ((za8 R R.length).length+L.length=nf+ml):=by show _=_;rw[HFM.X,HNF.X,HM.X]
        obtain⟨c0,c1,c2,c3,c4⟩:=za7 CW4.2.1;obtain⟨d0,d1⟩:=za1 CW4.2.2;clear hjm;have hz:Hid (((nf:Int)+(ml:Int)==(ko:Int))=decide (nf+ml=ko)):=by
         show _=_;by_cases e:nf+ml=ko
         ·rw[zS e,<-e];simp
         ·rw[zU e];simp;omega
        by_cases he:nf+ml=ko
        ·have he1:((nf:Int)+(ml:Int)==(ko:Int))=true:=by rw[hz.X];exact zS he
         have HE:Hid (v=0):=HVAL.symm.trans (zN6 HC.X OK9.X ON.X LO9.X (by rw[HLEN.X];exact he));clear he;go_wp2;go_ret;exact⟨by rw[HE.X];rfl,CW4.1⟩
        ·have he1:((nf:Int)+(ml:Int)==(ko:Int))=false:=by rw[hz.X];exact zU he
         have HE:Hid (v=4):=HVAL.symm.trans (zP2 HC.X OK9.X ON.X (fun h=>he (by rw[<-HLEN.X];exact h.2)));clear he;go_wp2;go_ret;exact⟨by rw[HE.X];rfl,CW4.1⟩
     ·have HE:Hid (v=3):=HVAL.symm.trans (yz1 HC.X OK9.X (by rw[HFM.X];exact HON.1 rfl))
      go_wp2;go_ret;exact⟨by rw[HE.X];rfl,CW.1⟩
def LPB(w W:zg)(cs rs:Array Value):Prop:=Below w.heap.size w W/\W.heap[w.heap.size]? =some (.cells cs 45 (0,0))/\W.heap[w.heap.size+1]? =some (.cells rs 48 (0,0))
theorem LPB.new(w:zg)(cs rs:Array Value):LPB w ((w.alloc (.cells cs 45)).alloc (.cells rs 48)) cs rs:=
 ⟨(zK _).alloc (by simp) _,xb _ _ _,y8 _ _ _⟩
theorem LPB.below{w W W':zg}{cs rs:Array Value}(h:LPB w W cs rs)(hb:Below W.heap.size W W'):LPB w W' cs rs:=
 ⟨h.1.trans (hb.mono h.1.size),za0 hb (za2 h.2.1) h.2.1,za0 hb (za2 h.2.2) h.2.2⟩
theorem LPB.drew{w W:zg}{cs rs:Array Value}(h:LPB w W cs rs):LPB w W.drew cs rs:=h.below (yV _ _).drew
theorem LPB.b{w W:zg}{cs rs:Array Value}(h:LPB w W cs rs):Below w.heap.size w W:=h.1
theorem LPB.cells{w W:zg}{c0 c1 c2 c3 c4 r0 r1:Value}(h:LPB w W #[c0,c1,c2,c3,c4] #[r0,r1]):
 W.cell? ⟨w.heap.size,0,none⟩=some c0/\W.cell? ⟨w.heap.size,1,none⟩=some c1/\W.cell? ⟨w.heap.size,2,none⟩=some c2/\W.cell? ⟨w.heap.size,3,none⟩=some c3/\W.cell? ⟨w.heap.size,4,none⟩=some c4/\W.cell? ⟨w.heap.size+1,0,none⟩=some r0/\W.cell? ⟨w.heap.size+1,1,none⟩=some r1:=by
 obtain⟨h0,h1,h2,h3,h4⟩:=za7 h.2.1;obtain⟨g0,g1⟩:=za1 h.2.2;exact⟨h0,h1,h2,h3,h4,g0,g1⟩
theorem lp7{w W:zg}{c0 c1 c2 c3 c4 r0 r1:Value}(h:LPB w W #[c0,c1,c2,c3,c4] #[r0,r1]):
 W.cell? ⟨w.heap.size,0,none⟩=some c0/\W.cell? ⟨w.heap.size,1,none⟩=some c1/\W.cell? ⟨w.heap.size,2,none⟩=some c2/\W.cell? ⟨w.heap.size,3,none⟩=some c3/\W.cell? ⟨w.heap.size,4,none⟩=some c4/\W.cell? ⟨w.heap.size+1,0,none⟩=some r0/\W.cell? ⟨w.heap.size+1,1,none⟩=some r1:=h.cells
theorem zQ4(n fine:Int)(a ao av ra la:Option Addr)(cap ko co kv cv rc lc:Nat)(zs os vs L:List Int)(R:List RT)(w:zg)(hA:za3 w a zs)(hO:za3 w ao os)(hV:za3 w av vs)(hR:za9 w ra R)(hlo:os.length=ko*6)(hlv:vs.length=kv*5)(hko:ko<=9223372036854775807)(hkv:kv<=9223372036854775807)(hrc:∀r∈R,r.ids.length<=r.c)(hpl:zc3 n zs os vs ko kv fine R L=0):
 Calls ze 35 #[.agg #[zc zb n,za a zs.length cap,za ao ko co,za av kv cv,zc zb fine],.agg #[za ra R.length rc,za la L.length lc]] w fun e w'=>e=.returned (zc zb (zh7 n zs os vs ko kv R (fine*L.length) R.length))/\Below w.heap.size w w':=by
 have HA:=za4 hA;have HO:=za4 hO;have HV:=za4 hV;have HR:=za4 hR;have HLO:Hid _:=hlo;have HLV:Hid _:=hlv;have HRC:Hid _:=hrc;obtain⟨hcB,hrts,_,_,_⟩:=zb5 hpl;obtain⟨hs1,hs2,hs3,hs4⟩:=ze4 hpl;have HC:Hid _:=hcB;have HRTS:=za4 hrts;clear hA hO hV hR hlo hlv hrc hcB hrts hpl;obtain⟨m,HN⟩:=nmd R.length;obtain⟨ml,HM⟩:=nmd L.length;rw[HN.X]at hs1 HRTS⊢;rw[HM.X]at hs2 hs3 hs4⊢;obtain⟨z,HZ⟩:=nmd (fine*(ml:Int));rw[HZ.X]at hs3 hs4⊢;have hwz:wrap64 (fine*(ml:Int))=z:=by rw[HZ.X];exact xr _ (by omega)
 have hwz2:IntKind.i64.wrap (fine*(ml:Int))=z:=by rw[HZ.X];exact xM _ (by omega)
 have HBD:Hid _:=z37 HC.X HRTS.X z;have C0:Hid (CP w ((w.alloc (zd #[zc zb n,za a zs.length cap,za ao ko co,za av kv cv,zc zb fine] 30)).alloc (zd #[za ra m rc,za la ml lc] 33)) _ _):=CP.new w _ _;obtain⟨c0,c1,c2,c3,c4⟩:=za7 C0.X.2.1;obtain⟨d0,d1⟩:=za1 C0.X.2.2;go_enter Tryz.func35,Tryz.ntmps35
 go_wp2_with fail
 clear c0 c1 c2 c3 c4 d0 d1 hwz hwz2;generalize(w.alloc (zd #[zc zb n,za a zs.length cap,za ao ko co,za av kv cv,zc zb fine] 30)).alloc (zd #[za ra m rc,za la ml lc] 33)=W0 at*;go_loopw[5,19] (fun ts ti wr=>∃k:Nat,k<=m/\ti=zc zb k/\ts=zc zb (zh7 n zs os vs ko kv R z k)/\CP w wr #[zc zb n,za a zs.length cap,za ao ko co,za av kv cv,zc zb fine] #[za ra m rc,za la ml lc]) (fun _ ti _=>m - (intOf ti).toNat)
 case atStart=>exact⟨0,yZ _,rfl,rfl,C0.X⟩
 case round=>
  clear C0;obtain⟨k,hk,rfl,rfl,hcp⟩:=hrel;have CW:=za4 hcp;clear hcp;by_cases hlt:k<m
  ·have hkl:k<R.length:=by rw[HN.X];exact hlt
   have hmem:R.getD k rt0∈R:=by rw[zM,zO hkl];simp
   obtain⟨b,off,rfl,h1,h2,h3⟩:=(HR.X.below CW.X.1) k hkl;have HRCL:Hid _:=HRC.X _ hmem;have hcode:=(HRTS.X k hlt).2.2;have hbd:=HBD.X (k+1) (by omega);have hb0:=HBD.X k hk;have h12:=(zg3 (zf5 (zg6 hcode).1).2.2).1;have HNX:Hid (zh7 n zs os vs ko kv R z (k+1)=zh7 n zs os vs ko kv R z k+zm6 n zs os vs ko kv (R.getD k rt0)):=rfl;rw[HNX.X]at hbd;unfold zm6 at HNX hbd;obtain⟨r,HRT⟩:=nmd (R.getD k rt0);rw[HRT.X]at h1 h2 h3 HRCL hcode h12 HNX hbd;have HCODE:Hid _:=hcode;have IR:=za4 h3;obtain⟨hmat,hords,hvehs,hn1,_⟩:=zb3 HC.X;have hvb:=(zs3 hvehs hn1 r.v);have HVB:Hid _:=hvb.1;have HMAT:Hid _:=hmat;have HRB:Hid (z64 n (zd1 os ko r.ids) r.ids.length):=z56 hords hn1 _;clear h3 hmem hkl hcode hmat hords hvehs hn1 hvb;obtain⟨f0,F0⟩:=nmd (zc2 vs kv r.v 0);obtain⟨f1,F1⟩:=nmd (zc2 vs kv r.v 1);obtain⟨f2,F2⟩:=nmd (zc2 vs kv r.v 2);obtain⟨f3,F3⟩:=nmd (zc2 vs kv r.v 3);obtain⟨f4,F4⟩:=nmd (zc2 vs kv r.v 4);rw[F1.X]at HVB HNX hbd;obtain⟨s,HS⟩:=nmd (zh7 n zs os vs ko kv R z k);obtain⟨rd,HRD⟩:=nmd (zr1 n zs (zd1 os ko r.ids) r.ids.length f1);rw[HS.X]at HNX hbd hb0;rw[HRD.X]at HNX hbd;rw[HS.X];have hws:wrap64 (s+rd)=s+rd:=xr _ (by omega);have BX:Hid (Below wr.heap.size wr (wr.alloc (zd #[zc zb r.v,za r.a r.ids.length r.c] 80))):=zK _;have GX:Hid ((wr.alloc (zd #[zc zb r.v,za r.a r.ids.length r.c] 80)).heap[wr.heap.size]? =_):=zN _ _;have CX:=za4 (CW.X.below BX.X);obtain⟨c0,c1,c2,c3,c4⟩:=za7 CX.X.2.1;obtain⟨d0,d1⟩:=za1 GX.X
   go_wp2_with fail
   clear c0 c1 c2 c3 c4 d0 d1 h1 h2;generalize(wr.alloc (zd #[zc zb r.v,za r.a r.ids.length r.c] 80))=W1 at*;refine(z73 n fine r.v a ao av r.a cap ko co kv cv r.c zs os vs r.ids W1 (HA.X.below CX.X.1) (HO.X.below CX.X.1) (HV.X.below CX.X.1) (IR.X.below BX.X) HLO.X HLV.X hko hkv (by omega) HRCL.X HC.X).mono ?_;rintro e w2 ⟨hb,⟨hcode,rfl⟩|⟨-,g,-,rfl,hros⟩⟩
   ·exact absurd HCODE.X hcode
   have C2:=za4 (CX.X.below hb);have I2:=za4 hros;rw[F0.X,F1.X,F2.X,F3.X,F4.X];clear hb hros CX GX BX IR CW;have BY:Hid (Below w2.heap.size w2 (w2.alloc (zd #[zc zb n,za a zs.length cap,zc zb f0,zc zb f1,zc zb f2,zc zb f3,zc zb f4,za (some ⟨g,0,none⟩) r.ids.length r.ids.length] 119))):=zK _;have GY:Hid ((w2.alloc (zd #[zc zb n,za a zs.length cap,zc zb f0,zc zb f1,zc zb f2,zc zb f3,zc zb f4,za (some ⟨g,0,none⟩) r.ids.length r.ids.length] 119)).heap[w2.heap.size]? =_):=zN _ _;obtain⟨t0,t1,t2,t3,t4,t5,t6,t7⟩:=zl2 GY.X
   go_wp2_with fail
   clear t0 t1 t2 t3 t4 t5 t6 t7;generalize(w2.alloc (zd #[zc zb n,za a zs.length cap,zc zb f0,zc zb f1,zc zb f2,zc zb f3,zc zb f4,za (some ⟨g,0,none⟩) r.ids.length r.ids.length] 119))=W3 at*;have C3:=za4 (C2.X.below BY.X);refine(z98 n f0 f1 f2 f3 f4 a _ cap r.ids.length _ zs (zd1 os ko r.ids) W3 HMAT.X (HA.X.below C3.X.1) (I2.X.below BY.X) (zj4 os ko r.ids) HRB.X HVB.X h12).mono ?_;rintro e w4 ⟨rfl,hb⟩;rw[HRD.X];have C4:=za4 (C3.X.below hb);clear hb C3 C2 BY GY I2;go_wp2
   first
    |exact⟨⟨k+1,by omega,by go_num,by rw[HNX.X],C4.X⟩,by simp[intOf];omega⟩
    |(go_roundw
      case rel=>exact⟨k+1,by omega,by go_num,by rw[HNX.X],C4.X⟩
      case measure=>simp[intOf];omega)
  ·have hkm:k=m:=by omega
   subst hkm;go_wp2;go_ret;exact⟨rfl,CW.X.1⟩
theorem z90(n fine:Int)(a ao av ra la:Option Addr)(cap ko co kv cv rc lc:Nat)(zs os vs L:List Int)(R:List RT)(w:zg)(hA:za3 w a zs)(hO:za3 w ao os)(hV:za3 w av vs)(hR:za9 w ra R)(hlo:os.length=ko*6)(hlv:vs.length=kv*5)(hko:ko<=9223372036854775807)(hkv:kv<=9223372036854775807)(hpl:zc3 n zs os vs ko kv fine R L=0):
 Calls ze 41 #[.agg #[zc zb n,za a zs.length cap,za ao ko co,za av kv cv,zc zb fine],.agg #[za ra R.length rc,za la L.length lc]] w fun e w'=>e=.returned (zc zb (zh7 n zs os vs ko kv R (fine*L.length) R.length))/\Below w.heap.size w w':=by
 have HA:=za4 hA;have HO:=za4 hO;have HV:=za4 hV;have HR:=za4 hR;have HLO:Hid _:=hlo;have HLV:Hid _:=hlv;obtain⟨hcB,hrts,_,_,_⟩:=zb5 hpl;obtain⟨hs1,hs2,hs3,hs4⟩:=ze4 hpl;have HC:Hid _:=hcB;have HRTS:=za4 hrts;clear hA hO hV hR hlo hlv hcB hrts hpl;obtain⟨m,HN⟩:=nmd R.length;obtain⟨ml,HM⟩:=nmd L.length;rw[HN.X]at hs1 HRTS⊢;rw[HM.X]at hs2 hs3 hs4⊢;obtain⟨z,HZ⟩:=nmd (fine*(ml:Int));rw[HZ.X]at hs3 hs4⊢;have hwz:wrap64 (fine*(ml:Int))=z:=by rw[HZ.X];exact xr _ (by omega)
 have hwz2:IntKind.i64.wrap (fine*(ml:Int))=z:=by rw[HZ.X];exact xM _ (by omega)
 have HBD:Hid _:=z37 HC.X HRTS.X z;have C0:Hid (CP w ((w.alloc (zd #[zc zb n,za a zs.length cap,za ao ko co,za av kv cv,zc zb fine] 30)).alloc (zd #[za ra m rc,za la ml lc] 33)) _ _):=CP.new w _ _;obtain⟨c0,c1,c2,c3,c4⟩:=za7 C0.2.1;obtain⟨d0,d1⟩:=za1 C0.2.2;go_enter Tryz.func41,Tryz.ntmps41
 go_wp2_with fail
 clear c0 c1 c2 c3 c4 d0 d1 hwz hwz2;generalize(w.alloc (zd #[zc zb n,za a zs.length cap,za ao ko co,za av kv cv,zc zb fine] 30)).alloc (zd #[za ra m rc,za la ml lc] 33)=W0 at*;go_loopw[5,6] (fun ts ti wr=>∃k:Nat,k<=m/\ti=zc zb k/\ts=zc zb (zh7 n zs os vs ko kv R z k)/\CP w wr #[zc zb n,za a zs.length cap,za ao ko co,za av kv cv,zc zb fine] #[za ra m rc,za la ml lc]) (fun _ ti _=>m - (intOf ti).toNat)
 case atStart=>exact⟨0,yZ _,rfl,rfl,C0.X⟩
 case round=>
  clear C0;obtain⟨k,hk,rfl,rfl,hcp⟩:=hrel;have CW:=za4 hcp;clear hcp;obtain⟨c0,c1,c2,c3,c4⟩:=za7 CW.2.1;obtain⟨d0,d1⟩:=za1 CW.2.2;by_cases hlt:k<m
  ·have hkl:k<R.length:=by rw[HN.X];exact hlt
   obtain⟨b,off,rfl,h1,h2,h3⟩:=(HR.below CW.1) k hkl;have hcode:=(HRTS.X k hlt).2.2;have hbd:=HBD.X (k+1) (by omega);have hb0:=HBD.X k hk;have h12:=(zg3 (zf5 (zg6 hcode).1).2.2).1;have HNX:Hid (zh7 n zs os vs ko kv R z (k+1)=zh7 n zs os vs ko kv R z k+zm6 n zs os vs ko kv (R.getD k rt0)):=rfl;rw[HNX.X]at hbd;unfold zm6 at HNX hbd;obtain⟨r,HRT⟩:=nmd (R.getD k rt0);rw[HRT.X]at h1 h2 h3 hcode h12 HNX hbd;have HCODE:Hid _:=hcode;have IR:=za4 h3;clear h3 hkl hcode;obtain⟨s,HS⟩:=nmd (zh7 n zs os vs ko kv R z k);obtain⟨rd,HRD⟩:=nmd (zr1 n zs (zd1 os ko r.ids) r.ids.length (zc2 vs kv r.v 1));rw[HS.X]at HNX hbd hb0;rw[HRD.X]at HNX hbd;rw[HS.X];have hws:wrap64 (s+rd)=s+rd:=xr _ (by omega);have hws2:IntKind.i64.wrap (s+rd)=s+rd:=xM _ (by omega);have HCALL:Hid (∀S:Kin wr,Calls ze 89 #[.agg #[zc zb n,za a zs.length cap,za ao ko co,za av kv cv,zc zb fine],.agg #[zc zb r.v,za r.a r.ids.length r.c]] S.w fun e w'=>e=.returned (zc zb rd)/\∃s':Kin wr,w'=s'.w):=fun S=>by
    have:=zt9 n fine r.v a ao av r.a cap ko co kv cv r.c zs os vs r.ids S.w ((HA.below CW.1).below S.below) ((HO.below CW.1).below S.below) ((HV.below CW.1).below S.below) (IR.below S.below) HLO.X HLV.X hko hkv (by omega) (by rw[HC.X];exact HCODE.X);rw[HRD.X]at this;exact Kin.call this
   have s0:=fun s:Kin wr=>s.cell c0;have s1:=fun s:Kin wr=>s.cell c1;have s2:=fun s:Kin wr=>s.cell c2;have s3:=fun s:Kin wr=>s.cell c3;have s4:=fun s:Kin wr=>s.cell c4;have t0:=fun s:Kin wr=>s.cell d0;have y0:=fun s:Kin wr=>s.cell h1;have y1:=fun s:Kin wr=>s.cell h2;have hkin:=Kin.there wr
   go_wp2_with fail
   clear c0 c1 c2 c3 c4 d0 d1 h1 h2;refine zb0 (by kernel_rfl) (by kernel_rfl) ?_
   repeat(go_big_quiet_step ((go_at_call 89;exact HCALL.X _)))
   refine xj ?_;rintro _ ⟨S,rfl⟩;have C3:=za4 (CW.below S.below);generalize S.w=w3 at*;clear s0 s1 s2 s3 s4 t0 y0 y1 hkin CW IR HCALL;go_wp2
   first
    |exact⟨⟨k+1,by omega,by go_num,by rw[HNX.X],C3.X⟩,by simp[intOf];omega⟩
    |(go_roundw
      case rel=>exact⟨k+1,by omega,by go_num,by rw[HNX.X],C3.X⟩
      case measure=>simp[intOf];omega)
  ·have hkm:k=m:=by omega
   subst hkm;go_wp2;go_ret;exact⟨rfl,CW.1⟩
theorem zi1.is{w:zg}{g gl:Nat}{S R:List RT}{L:List Int}(h:zi1 w g gl S R L):zb8 w (some ⟨g,0,none⟩) (some ⟨gl,0,none⟩) R.length L.length S L:=
 ⟨zr5 h.k,rfl,h.r,h.l,.inr ⟨_,_,rfl⟩,.inr ⟨_,_,rfl⟩,h.room⟩
def zx2(w w':zg):Prop:=∀(g:Nat) (cur:Array Value),w.heap[g]? =some (.cells cur 2 (0,0))->∃cur',w'.heap[g]? =some (.cells cur' 2 (0,0))/\cur'.size=cur.size
theorem zx2.refl(w:zg):zx2 w w:=fun _ cur h=>⟨cur,h,rfl⟩
theorem zx2.trans{w w1 w2:zg}(h:zx2 w w1)(k:zx2 w1 w2):zx2 w w2:=fun g cur e=>by
 obtain⟨c1,e1,s1⟩:=h g cur e;obtain⟨c2,e2,s2⟩:=k g c1 e1;exact⟨c2,e2,s2.trans s1⟩
theorem zx2.set{w:zg}{k i:Nat}{v:Value}{cs:Array Value}{T:TypeId}(hk:w.heap[k]? =some (.cells cs T (0,0)))(hT:T≠2):zx2 w (w.setCell ⟨k,i,none⟩ v):=fun g cur e=>
 ⟨cur,by rw[xg _ _ _ _ (by have:=zm2 e hk (Ne.symm hT);simpa using this)];exact e,rfl⟩
theorem zx2.mark{w w':zg}{g:Nat}{cur cur':Array Value}(hg:w.grownBy w' (some g))(h:w.heap[g]? =some (.cells cur 2 (0,0)))(h':w'.heap[g]? =some (.cells cur' 2 (0,0)))(hs:cur'.size=cur.size):zx2 w w':=fun k c e=>by
 by_cases hk:k=g
 ·subst hk
  rw[h]at e;cases e;exact⟨cur',h',hs⟩
 ·exact⟨c,zb9 hg e (fun x=>hk (by injection x)),rfl⟩
def zk6(w:zg)(gr:Nat)(S:List RT):Prop:=∃cur:Array Value,w.heap[gr]? =some (.cells cur 80 (0,0))/\cur.size=S.length*2/\∀j,j<S.length->cur[j*2+1]? =some (.slice (S.getD j rt0).a (S.getD j rt0).ids.length (S.getD j rt0).c)
theorem zk6.of_row{w:zg}{gr:Nat}{S:List RT}(h:w.heap[gr]? =some (.cells (zg5 S).toArray 80 (0,0))):zk6 w gr S:=
 ⟨_,h,by simp[ze5],fun j hj=>by have:=(zp0 S j hj).2;simpa using this⟩
theorem zk6.put{w:zg}{gr k:Nat}{S:List RT}{v:Value}(h:zk6 w gr S):zk6 (w.setCell ⟨gr,k*2,none⟩ v) gr S:=by
 obtain⟨cur,h1,h2,h3⟩:=h;refine⟨cur.setIfInBounds (k*2) v,zP w gr (k*2) cur _ v h1,by simpa using h2,fun j hj=> ?_⟩;rw[Array.getElem?_setIfInBounds_ne (by omega)];exact h3 j hj
theorem zk6.but{w w':zg}{gr g:Nat}{S:List RT}{cur:Array Value}(h:zk6 w gr S)(hg:w.grownBy w' (some g))(hr:w.heap[g]? =some (.cells cur 2 (0,0))):zk6 w' gr S:=by
 obtain⟨c,h1,h2,h3⟩:=h;exact⟨c,zb9 hg h1 (fun e=>zm2 h1 hr (by decide) (show gr=g by injection e)),h2,h3⟩
theorem zJ1(gr cap lo hi:Nat)(k0:Int)(S:List RT)(w:zg)(hrow:zk6 w gr S)(hst:∀s∈S,∃g cur,s.a=some ⟨g,0,none⟩/\(lo<=g/\g<hi)/\w.heap[g]? =some (.cells cur 2 (0,0))/\cur.size=s.ids.length)(hgr:lo<=gr/\gr<hi)(h0:0<=k0)(h1:k0<=100000000)(hn:S.length<=1048576)(hal:(za8 S S.length).length<=1048576):
 Calls ze 65 #[za (some ⟨gr,0,none⟩) S.length cap,zc zb k0] w fun e w'=>∃k',e=.returned (zc zb k')/\0<=k'/\k'<=200000000/\zb2 (fun b=>lo<=b/\b<hi) w w'/\zx2 w w':=by
 have HR:=za4 hrow;have HST:=za4 hst;have HAL:Hid (∀k,k<=S.length->(za8 S k).length<=1048576):=fun k hk=>y7 (zC2 S hk (zQ _)) hal;have HGR:=za4 hgr;clear hrow hst hal hgr;obtain⟨n,HN⟩:=nmd S.length;rw[HN.X]at hn⊢;go_enter Tryz.func65,Tryz.ntmps65
 go_wp2_with fail
 go_loopw[1,5] (fun kk t wr=>∃(k:Nat) (K:Int),k<=n/\t=zc zb k/\kk=zc zb K/\K=k0+(k:Int)+((za8 S k).length:Int)/\zk6 wr gr S/\zb2 (fun b=>lo<=b/\b<hi) w wr/\zx2 w wr) (fun _ t _=>n - (intOf t).toNat)
 case atStart=>exact⟨0,k0,yZ _,rfl,rfl,by rw[zi4];simp,HR.X,zb2.of_below (yV _ _),zx2.refl w⟩
 case round=>
  clear HR;obtain⟨k,K,hk,rfl,rfl,hK,hr,hg,hki⟩:=hrel;have R1:=za4 hr;have G1:=za4 hg;have I1:=za4 hki;have HK:=za4 hK;have hKb:0<=K/\K<=150000000:=by
   have:=HAL.X k (by rw[HN.X];exact hk);omega
  obtain⟨hK0,hK1⟩:=hKb;clear hr hg hki hK;by_cases hlt:k<n
  ·have hkS:k<S.length:=by rw[HN.X];exact hlt
   have hkI:(k:Int)<(n:Int):=by omega
   have HTK:Hid (za8 S (k+1)=za8 S k++(S.getD k rt0).ids):=zf4 hkS;have hl2:=HAL.X (k+1) (by omega);rw[HTK.X,xU]at hl2;have hmem:S.getD k rt0∈S:=by rw[zM,zO hkS];simp
   obtain⟨g,cur0,ea,hlh,hrow0,hsz0⟩:=HST.X _ hmem;obtain⟨cr,hcr,hcs,hcj⟩:=R1.X;have hcj':=hcj k hkS;generalize S.getD k rt0=r at*;obtain⟨rv,rra,rids,rcc⟩:=r;simp only at ea hsz0 HTK hcj' hl2;subst ea;obtain⟨rl,HRL⟩:=nmd rids.length;rw[HRL.X]at hsz0 hcj' hl2;have f1:=fun i=>yU _ _ i _ _ hcr;obtain⟨v0,y0⟩:=zk4 hcr (j:=k*2) (by rw[hcs];omega);have y1:(wr.setCell ⟨gr,k*2,none⟩ (zc zb K)).cell? ⟨gr,k*2+1,none⟩=some (za (some ⟨g,0,none⟩) rl rcc):=by
    rw[zR _ _ (k*2+1) _ _ _ (zP wr gr (k*2) cr _ (zc zb K) hcr),Array.getElem?_setIfInBounds_ne (by omega)];exact hcj'
   have R2:Hid (zk6 (wr.setCell ⟨gr,k*2,none⟩ (zc zb K)) gr S):=R1.X.put;have I2:Hid (zx2 w (wr.setCell ⟨gr,k*2,none⟩ (zc zb K))):=I1.X.trans (zx2.set hcr (by decide));have G2:Hid (zb2 (fun b=>lo<=b/\b<hi) w (wr.setCell ⟨gr,k*2,none⟩ (zc zb K))):=G1.X.trans (zb2.of_grown (ze2 _ _ _ _) HGR.X);obtain⟨cur1,hrow1,hsz1⟩:=I2.X g cur0 hrow0;have HROW1:=za4 hrow1;have HSZ1:Hid (cur1.size=rl):=hsz1.trans hsz0;have HLH:=za4 hlh;have HSUM:Hid (k0+((k+1:Nat):Int)+((za8 S (k+1)).length:Int)=K+1+(rl:Int)):=by
    show _=_;rw[HTK.X,xU,HRL.X,HK.X];omega
   clear hrow0 hsz0 hrow1 hsz1 hcj hcj' hcs hmem R1 I1 G1 hlh
   go_wp2_with fail
   clear y0 y1 f1 hcr;refine(zi5 g rl _ (K+1) cur1 _ _ HROW1.X (by rw[HSZ1.X];exact zQ _) (by omega) (by omega) (by omega)).mono ?_;rintro e w3 ⟨rfl,hg,hr⟩;have R3:Hid (zk6 w3 gr S):=R2.X.but hg HROW1.X;have I3:Hid (zx2 w w3):=I2.X.trans (zx2.mark hg HROW1.X hr (zd3 _ _ _));have G3:Hid (zb2 (fun b=>lo<=b/\b<hi) w w3):=G2.X.trans (zb2.of_grown hg HLH.X);clear hg hr R2 I2 G2;obtain⟨K2,HK2⟩:=nmd (K+1+(rl:Int));rw[HK2.X];go_wp2
   first
    |exact⟨⟨k+1,K2,by omega,by first|rfl|go_num,rfl,by rw[HSUM.X,HK2.X],R3.X,G3.X,I3.X⟩,by simp[intOf];omega⟩
    |(go_roundw
      case rel=>exact⟨k+1,K2,by omega,by first|rfl|go_num,rfl,by rw[HSUM.X,HK2.X],R3.X,G3.X,I3.X⟩
      case measure=>simp[intOf];omega)
  ·have hkI:¬((k:Int)<(n:Int)):=by omega
   go_wp2;go_ret;exact⟨K,rfl,hK0,by omega,G1.X,I1.X⟩
theorem zV5(g gl lo hi:Nat)(k0:Int)(S R:List RT)(L:List Int)(w:zg)(hP:zi1 w g gl S R L)(hst:∀s∈S,∀b,s.a=some ⟨b,0,none⟩->lo<=b/\b<hi)(hg:lo<=g/\g<hi)(hgl:lo<=gl/\gl<hi)(h0:0<=k0)(h1:k0<=100000000)(hn:R.length<=1048576)(hll:L.length<=1048576)(hal:(za8 R R.length).length<=1048576)(hhi:hi<=w.heap.size):
 Calls ze 21 #[.agg #[za (some ⟨g,0,none⟩) R.length R.length,za (some ⟨gl,0,none⟩) L.length L.length],zc zb k0] w fun e w'=>∃k',e=.returned (zc zb k')/\0<=k'/\zb2 (fun b=>lo<=b/\b<hi) w w':=by
 have hkl:=zr5 hP.k;have HMS:Hid (∀W,Below w.heap.size w W->Calls ze 65 #[za (some ⟨g,0,none⟩) R.length R.length,zc zb k0] W fun e w'=>∃k',e=.returned (zc zb k')/\0<=k'/\k'<=200000000/\zb2 (fun b=>lo<=b/\b<hi) W w'/\zx2 W w'):=fun W hb=>by
  have hP':=hP.below hb;have:=zJ1 g R.length lo hi k0 S W (zk6.of_row hP'.1) (fun s hs=>by
   obtain⟨b,e1,e2,e3,e4⟩:=hP'.2.1.2 s hs;exact⟨b,_,e1,hst s hs b e1,e4,zf2 _⟩) hg h0 h1 (by omega) (by rw[z48 hP.k,hkl];exact hal)
  rw[hkl]at this;exact this
 have HL:Hid (w.heap[gl]? =some (.cells (cellsOf L) 2 (0,0))):=hP.2.2;clear hP hst;have B0:Hid (Below w.heap.size w (w.alloc (zd #[za (some ⟨g,0,none⟩) R.length R.length,za (some ⟨gl,0,none⟩) L.length L.length] 33))):=zK _;have X0:Hid ((w.alloc (zd #[za (some ⟨g,0,none⟩) R.length R.length,za (some ⟨gl,0,none⟩) L.length L.length] 33)).heap[w.heap.size]? =some (zd #[za (some ⟨g,0,none⟩) R.length R.length,za (some ⟨gl,0,none⟩) L.length L.length] 33 (0,0))):=zN _ _;go_enter Tryz.func21,Tryz.ntmps21;obtain⟨c0,c1⟩:=za1 X0.X
 go_wp2_with fail
 clear c0 c1;refine(HMS.X _ B0.X).mono ?_;rintro e w1 ⟨k1,rfl,hk0,hk1,hG,hI⟩;obtain⟨cur,hrl,hsz⟩:=hI gl _ (za0 B0.X (za2 HL.X) HL.X);have HRL:=za4 hrl;have HSZ:Hid (cur.size=L.length):=hsz.trans (zf2 _);have G1:Hid (zb2 (fun b=>lo<=b/\b<hi) w w1):=(zb2.of_below B0.X).trans hG;have X1:Hid (w1.heap[w.heap.size]? =some (zd #[za (some ⟨g,0,none⟩) R.length R.length,za (some ⟨gl,0,none⟩) L.length L.length] 33 (0,0))):=hG.row X0.X (fun h=>by omega);clear hG hI hrl hsz B0 X0;obtain⟨c0,c1⟩:=za1 X1.X
 go_wp2_with fail
 clear c0 c1;refine(zi5 gl L.length _ k1 cur _ _ HRL.X (by rw[HSZ.X];exact zQ _) hk0 (by omega) (by omega)).mono ?_;rintro e w2 ⟨rfl,hg2,-⟩;have G2:Hid (zb2 (fun b=>lo<=b/\b<hi) w w2):=G1.X.trans (zb2.of_grown hg2 hgl);clear hg2;go_wp2;go_ret;exact⟨_,rfl,by omega,G2.X⟩
