import Derived.Test.YtkchnomkiboihaaGreatPack13
import Derived.Test.YtkchnomkiboihaaGreatRoutesOk
set_option linter.unusedSimpArgs false
set_option maxHeartbeats 4000000
set_option maxRecDepth 100000
namespace Go.Proofs.YtkchnomkiboihaaGreat
open RowKit renaming Below→Za,Hid→Zb
open Value renaming slice→za,int→ze
open IntKind renaming i64→zd
open Obj renaming cells→zg
open Proofs.Tryz renaming prog→zh
open Go renaming World→zi
open Lit renaming int→zD
open Go.RowKit Go.Maps
open Q
theorem zM5{n:Int}{zs os vs:List Int}{ko kv:Nat}{R:List RT}:∀{k:Nat},k<=R.length->zi4 n zs os vs ko kv R k->∀x∈zb0 R k,zl8 os ko x=true
 |0,_,_,x,hx=>by rw[zk1]at hx;cases hx
 |k+1,hk,h,x,hx=>by
  rw[zf9 (by omega),yj]at hx;rcases hx with hx|hx
  ·exact zM5 (k:=k) (by omega) (fun j hj=>h j (by omega)) x hx
  ·have h3:=(zg3 (zf3 (zg8 (h k (by omega)).2.2).1).2.2).2
   obtain⟨j,hj,e⟩:=xU hx;have:=h3 j hj;unfold zW7 at this;rw[zQ,zR hj]at this;simp only[yR,e]at this;simp at this;exact this.1
theorem yB0{n:Int}{zs os vs:List Int}{ko kv:Nat}{fine id:Int}(hc:zd0 n zs os vs ko kv fine=true)(h:zl8 os ko id=true):(zD zd id).wf=true:=by
 have hv:=(zb2 hc).2.1;unfold zl8 at h;cases hf:zU0 os ko id with
 |none=>rw[hf]at h;cases h
 |some i=>
  unfold zU0 at hf;have h1:=List.find?_some hf;have h2:i<ko:=by simpa using xX hf
  have h3:=((zd9 hv).2 i h2).1;simp at h1;unfold zG3 inB at h3;simp at h3;exact WalkArith.wf_i64 (by omega)
def CP(w W:zi)(cs ps:Array Value):Prop:=Za w.heap.size w W/\W.heap[w.heap.size]? =some (.cells cs 30 (0,0))/\W.heap[w.heap.size+1]? =some (.cells ps 33 (0,0))
theorem CP.new(w:zi)(cs ps:Array Value):CP w ((w.alloc (.cells cs 30)).alloc (.cells ps 33)) cs ps:=
 ⟨(zP _).alloc (by simp) _,xm _ _ _,xh _ _ _⟩
theorem CP.below{w W W':zi}{cs ps:Array Value}(h:CP w W cs ps)(hb:Za W.heap.size W W'):CP w W' cs ps:=
 ⟨h.1.trans (hb.mono h.1.size),za0 hb (za2 h.2.1) h.2.1,za0 hb (za2 h.2.2) h.2.2⟩
theorem CP.grown{w W W':zi}{cs ps:Array Value}{B:Nat}{l:List Int}(h:CP w W cs ps)(hS:zl0 W B l)(hB:w.heap.size<=B)(hg:W.grownBy W' (some B)):CP w W' cs ps:=
 ⟨h.1.grown hg h.1.size (fun j e=>by cases e;exact hB),z00 hS hg h.2.1,z00 hS hg h.2.2⟩
theorem zA8(n fine:Int)(a ao av ra la:Option Addr)(ac ko co kv cv rc lc:Nat)(zs os vs L:List Int)(R:List RT)(w:zi)(hA:za3 w a zs)(hO:za3 w ao os)(hV:za3 w av vs)(hR:za9 w ra R)(hL:za3 w la L)(an:os.length=ko*6)(au:vs.length=kv*5)(aA:ko<=9223372036854775807)(aB:kv<=9223372036854775807)(hn:R.length<=1048576)(hi:∀r∈R,r.ids.length<=1048576)(eg:∀r∈R,r.ids.length<=r.c)(dh:L.length<=1048576)(cT:(zb0 R R.length).length<=1048576)(ip:∀x∈L,(zD zd x).wf=true)(bU:zd0 n zs os vs ko kv fine=true):
 Calls zh 47 #[.agg #[ze zd n,za a zs.length ac,za ao ko co,za av kv cv,ze zd fine],.agg #[za ra R.length rc,za la L.length lc]] w fun e w'=>e=.returned (ze zd (zc1 n zs os vs ko kv fine R L))/\Za w.heap.size w w':=by
 have HA:=za4 hA;have HO:=za4 hO;have HV:=za4 hV;have HR:=za4 hR;have HL:=za4 hL;have aF:Zb _:=an;have aE:Zb _:=au;have HN:Zb _:=hn;have ec:Zb _:=dh;have iQ:Zb _:=cT;have HI:Zb _:=hi;have bw:Zb _:=eg;have iI:Zb _:=ip;have HC:Zb _:=bU;clear hA hO hV hR hL an au hi eg bU ip hn dh cT;obtain⟨v,di⟩:=nmd (zc1 n zs os vs ko kv fine R L);rw[di.X];have QO:=@run_makeMap zh;have C0:Zb (CP w ((w.alloc (zg #[ze zd n,za a zs.length ac,za ao ko co,za av kv cv,ze zd fine] 30)).alloc (zg #[za ra R.length rc,za la L.length lc] 33)) _ _):=CP.new w _ _;obtain⟨c0,c1,c2,c3,c4⟩:=za7 C0.2.1;obtain⟨d0,d1⟩:=za1 C0.2.2;go_enter Tryz.func47,Tryz.ntmps47
 go_wp2_with fail
 clear c0 c1 c2 c3 c4 d0 d1;generalize(w.alloc _).alloc _=W0 at*;refine(zZ4 n fine a ao av ra ac ko co kv cv rc zs os vs R W0 (HA.below C0.1) (HO.below C0.1) (HV.below C0.1) (HR.below C0.1) aF.X aE.X aA aB HN.X HI.X bw.X HC.X).mono ?_;rintro e w1 ⟨hb,⟨rfl,aP⟩|⟨rfl,aP⟩⟩
 ·have OK:Zb (zi4 n zs os vs ko kv R R.length):=aP
  have C1:=za4 (C0.below hb);clear hb aP C0;have S0:=za4 (zl0.made w1);have C2:Zb (CP w (w1.alloc (.map #[] 0)) _ _):=C1.below (zP _);obtain⟨d0,d1⟩:=za1 C2.2.2
  go_wp2_with fail
  clear d0 d1;have hB:=C1.1.size;generalize hZ:w1.alloc (.map #[] 0)=W2 at*;generalize w1.heap.size=B at*;clear hZ C1;refine(zS1 B ra la rc lc R L W2 (HR.below C2.1) (HL.below C2.1) S0.X HN.X HI.X ec.X iQ.X (fun x hx=>yB0 HC.X (zM5 (zT _) OK.X x hx)) iI.X).mono ?_;rintro e w3 ⟨hg,⟨rfl,iU,wO⟩|⟨rfl,iU⟩⟩
  ·have C3:Zb (CP w w3 _ _):=C2.grown S0.X hB hg
   have ON:=za4 iU;have S3:=za4 wO;clear hg iU wO C2 S0 hB;obtain⟨c0,c1,c2,c3,c4⟩:=za7 C3.2.1;obtain⟨d0,d1⟩:=za1 C3.2.2
   go_wp2_with fail
   clear c0 c1 c2 c3 c4 d0 d1;refine(yr4 n fine a ao av la ac ko co kv cv lc B zs os vs L (zb0 R R.length) w3 (HO.below C3.1) (HL.below C3.1) S3.X ON.1 aF.X aA ec.X iQ.X HC.X).mono ?_;rintro e w4 ⟨hb,⟨rfl,h1,h2⟩|⟨rfl,h1⟩⟩
   ·have HB:Zb _:=C3.1.trans (hb.mono C3.1.size)
    have HE:Zb _:=di.symm.trans (zT8 HC.X OK.X ON.X h1 h2);clear hb h1 h2;go_wp2;go_ret;exact⟨by rw[HE.X];rfl,HB.X⟩
   ·have HB:Zb _:=C3.1.trans (hb.mono C3.1.size)
    have HE:Zb _:=di.symm.trans (zO7 HC.X OK.X ON.X h1);clear hb h1;go_wp2;go_ret;exact⟨by rw[HE.X];rfl,HB.X⟩
  ·have C3:Zb (CP w w3 _ _):=C2.grown S0.X hB hg
   have HE:Zb _:=di.symm.trans (y11 HC.X OK.X iU);clear hg iU;go_wp2;go_ret;exact⟨by rw[HE.X];rfl,C3.1⟩
 ·have HB:Zb _:=C0.1.trans (hb.mono C0.1.size)
  have HE:Zb _:=di.symm.trans (zO8 HC.X aP);clear hb aP;go_wp2;go_ret;exact⟨by rw[HE.X];rfl,HB.X⟩
theorem zP4(n fine:Int)(a ao av ra la:Option Addr)(ac ko co kv cv rc lc:Nat)(zs os vs L:List Int)(R:List RT)(w:zi)(hA:za3 w a zs)(hO:za3 w ao os)(hV:za3 w av vs)(hR:za9 w ra R)(hL:za3 w la L)(an:os.length=ko*6)(au:vs.length=kv*5)(aA:ko<=9223372036854775807)(aB:kv<=9223372036854775807)(hn:R.length<=1048576)(hi:∀r∈R,r.ids.length<=1048576)(eg:∀r∈R,r.ids.length<=r.c)(dh:L.length<=1048576)(cT:(zb0 R R.length).length<=1048576)(ip:zd0 n zs os vs ko kv fine=true->∀x∈L,(zD zd x).wf=true):
 Calls zh 12 #[.agg #[ze zd n,za a zs.length ac,za ao ko co,za av kv cv,ze zd fine],.agg #[za ra R.length rc,za la L.length lc]] w fun e w'=>e=.returned (ze zd (zc1 n zs os vs ko kv fine R L))/\Za w.heap.size w w':=by
 have HA:=za4 hA;have HO:=za4 hO;have HV:=za4 hV;have HR:=za4 hR;have HL:=za4 hL;have aF:Zb _:=an;have aE:Zb _:=au;have HN:Zb _:=hn;have ec:Zb _:=dh;have iQ:Zb _:=cT;have HI:Zb _:=hi;have bw:Zb _:=eg;have iI:Zb _:=ip;clear hA hO hV hR hL an au hi eg ip hn dh cT;obtain⟨v,di⟩:=nmd (zc1 n zs os vs ko kv fine R L);rw[di.X];have C0:Zb (CP w ((w.alloc (zg #[ze zd n,za a zs.length ac,za ao ko co,za av kv cv,ze zd fine] 30)).alloc (zg #[za ra R.length rc,za la L.length lc] 33)) _ _):=CP.new w _ _;obtain⟨c0,c1,c2,c3,c4⟩:=za7 C0.2.1;go_enter Tryz.func12,Tryz.ntmps12
 go_wp2_with fail
 clear c0 c1 c2 c3 c4;generalize(w.alloc _).alloc _=W0 at*;refine(zW0 n fine a ao av ac ko co kv cv zs os vs W0 (HA.below C0.1) (HO.below C0.1) (HV.below C0.1) aF.X aE.X aA aB).mono ?_;rintro e w1 ⟨rfl,hb⟩;have C1:=za4 (C0.below hb);clear hb C0;by_cases hc:zd0 n zs os vs ko kv fine=true
 ·have HC:Zb _:=hc
  rw[hc];clear hc;obtain⟨c0,c1,c2,c3,c4⟩:=za7 C1.2.1;obtain⟨d0,d1⟩:=za1 C1.2.2
  go_wp2_with fail
  clear c0 c1 c2 c3 c4 d0 d1;refine(zA8 n fine a ao av ra la ac ko co kv cv rc lc zs os vs L R w1 (HA.below C1.1) (HO.below C1.1) (HV.below C1.1) (HR.below C1.1) (HL.below C1.1) aF.X aE.X aA aB HN.X HI.X bw.X ec.X iQ.X (iI.X HC.X) HC.X).mono ?_;rintro e w2 ⟨rfl,hb⟩;have HB:Zb _:=C1.1.trans (hb.mono C1.1.size);clear hb;rw[di.X];go_wp2;go_ret;exact⟨rfl,HB.X⟩
 ·have cw:zd0 n zs os vs ko kv fine=false:=by simpa using hc
  have HE:Zb _:=di.symm.trans (yt1 cw);rw[cw];clear hc cw;go_wp2;go_ret;exact⟨by rw[HE.X];rfl,C1.1⟩
theorem zx7(n fine:Int)(a ao av ra la:Option Addr)(ac ko co kv cv rc lc:Nat)(zs os vs L:List Int)(R:List RT)(w:zi)(hA:za3 w a zs)(hO:za3 w ao os)(hV:za3 w av vs)(hR:za9 w ra R)(hL:za3 w la L)(an:os.length=ko*6)(au:vs.length=kv*5)(aA:ko<=9223372036854775807)(aB:kv<=9223372036854775807)(hn:R.length<=1048576)(hi:∀r∈R,r.ids.length<=1048576)(eg:∀r∈R,r.ids.length<=r.c)(dh:L.length<=1048576)(cT:(zb0 R R.length).length<=1048576)(ip:∀x∈L,(zD zd x).wf=true):
 Calls zh 12 #[.agg #[ze zd n,za a zs.length ac,za ao ko co,za av kv cv,ze zd fine],.agg #[za ra R.length rc,za la L.length lc]] w fun e w'=>e=.returned (ze zd (zc1 n zs os vs ko kv fine R L))/\Za w.heap.size w w':=by
 exact zP4 n fine a ao av ra la ac ko co kv cv rc lc zs os vs L R w hA hO hV hR hL an au aA aB hn hi eg dh cT (fun _=>ip)
end Go.Proofs.YtkchnomkiboihaaGreat
namespace Go.Proofs.YtkchnomkiboihaaGreat
open RowKit renaming Below→Za,Hid→Zb
open Value renaming slice→za,int→ze,ownBlock→zm
open IntKind renaming i64→zd
open Obj renaming cells→zg
open Proofs.Tryz renaming prog→zh
open Go renaming World→zi
open World renaming setCell→zj
open Go.RowKit
open Q
theorem zs0(w:zi){ap:Array Oper}{rest:List Oper}{o:Oper}{a:Act}{Q:Exit->Act->zi->Prop}
 (hg:o.guard=none) (s x:Operand) (du:o.op=Op.call {callee:=Callee.builtin Builtin.append,args:=#[s,x],argTypes:=#[24,24]})
 (base:Nat) (v:Value) (k:Nat) (xs:List Value) (hs:a.eval s=v) (ae:w.ownsRow base 2 1 v k xs) (ad:Addr) (c:Nat) (x0:Value) (hx:a.eval x=za (some ad) 1 c)
 (hc:w.cell? ad=some x0) (jX:x0.oneCell'=true) (b1:k<=1048576) (hb:base<=w.heap.size)
 (hK:∀v' w',w'.ownsRow base 2 1 v' (k+1) (xs++[x0])->w.grownBy w' v.ownBlock->wpList zh ap Q rest (a.put o.dst v') w'):
 wpList zh ap Q (o::rest) a w:=by
 obtain⟨i0,hi,bR,ba,bS⟩:=qx Tryz.info2;exact wpList_append_own w hg s x _ du base _ i0 _ 1 8 qb hi bR ba bS rfl (by decide) v k xs hs ae ad 1 c [x0] hx rfl (zT6 hc) (by simpa using jX) (by unfold maxLen;omega) (by omega) hb (fun v' w' h1 h2 _=>hK v' w' h1 h2)
theorem zm2{w:zi}{base size n k:Nat}{e T:TypeId}{v:Value}{xs:List Value}{cs:Array Value}{q:Nat×Nat}(h:w.ownsRow base e size v n xs)(hr:w.heap[k]? =some (.cells cs T q))(hT:T≠e):some k≠v.ownBlock:=fun he=>by
 rcases h.2 with⟨rfl,_⟩|⟨g,c,az,rfl,_,hg,_⟩
 ·cases he
 ·simp[zm]at he
  rw[<-he,hr]at hg;simp at hg;exact hT hg.2.1
theorem CP.grow{w W W':zi}{cs ps:Array Value}{base size n:Nat}{v:Value}{xs:List Value}(h:CP w W cs ps)(ho:W.ownsRow base 2 size v n xs)(hb:w.heap.size<=base)(hg:W.grownBy W' v.ownBlock):CP w W' cs ps:=by
 refine⟨h.1.grown hg h.1.size (fun j e=> ?_),za6 hg h.2.1 (zm2 ho h.2.1 (by decide)),za6 hg h.2.2 (zm2 ho h.2.2 (by decide))⟩;rcases ho.2 with⟨rfl,_⟩|⟨g,c,az,rfl,hl,_⟩
 ·cases e
 ·simp[zm]at e
  omega
theorem CP.alloc{w W:zi}{cs ps:Array Value}(h:CP w W cs ps)(o:Obj):CP w (W.alloc o) cs ps:=h.below (zP _)
theorem CP.drew{w W:zi}{cs ps:Array Value}(h:CP w W cs ps):CP w W.drew cs ps:=h.below (y5 _ _).drew
theorem CP.big{w W:zi}{cs ps:Array Value}(h:CP w W cs ps):w.heap.size+1<W.heap.size:=za2 h.2.2
theorem CP.set{w W:zi}{cs ps:Array Value}(h:CP w W cs ps){k i:Nat}{v:Value}(hk:w.heap.size+1<k):CP w (W.setCell ⟨k,i,none⟩ v) cs ps:=
 ⟨h.1.setCell (by simp;omega) _,by rw[xy _ _ _ _ (by simp;omega)];exact h.2.1,by rw[xy _ _ _ _ (by simp;omega)];exact h.2.2⟩
theorem zU1(w1:zi):(w1.alloc (zg #[] 2)).ownsRow w1.heap.size 2 1 (za (some ⟨w1.heap.size,0,none⟩) 0 0) 0 (([]:List Int).map (ze zd)):=
 ⟨rfl,.inr ⟨w1.heap.size,0,#[],rfl,zT _,zS _ _,zT _,by unfold maxLen;omega,rfl,rfl⟩⟩
def Tw(tw:Bool)(l:List Int):Prop:=tw=true↔¬l.Nodup
theorem Tw.nil:Tw false []:=by simp[Tw]
theorem Tw.step{tw:Bool}{l:List Int}(h:Tw tw l)(x:Int):Tw (tw||decide (x∈l)) (l++[x]):=by
 unfold Tw at*;rw[zy4];cases tw
 ·have:l.Nodup:=by
   by_cases hn:l.Nodup
   ·exact hn
   ·exact absurd (h.2 hn) (by simp)
  simp[this]
 ·have:=h.1 rfl
  simp[this]
def TwL(tw:Bool)(fl L:List Int)(j:Nat):Prop:=tw=true↔¬(fl.Nodup/\∀i,i<j->L.getD i 0∉fl)
theorem TwL.start{tw:Bool}{fl:List Int}(h:Tw tw fl)(L:List Int):TwL tw fl L 0:=by
 unfold TwL;unfold Tw at h;rw[h];constructor
 ·intro h1 h2;exact h1 h2.1
 ·intro h1 h2;exact h1 ⟨h2,fun i hi=>by omega⟩
theorem TwL.step{tw:Bool}{fl L:List Int}{j:Nat}(h:TwL tw fl L j):TwL (tw||decide (L.getD j 0∈fl)) fl L (j+1):=by
 unfold TwL at*;cases tw
 ·have h0:fl.Nodup/\∀i,i<j->L.getD i 0∉fl:=by
   by_cases hn:fl.Nodup/\∀i,i<j->L.getD i 0∉fl
   ·exact hn
   ·exact absurd (h.2 hn) (by simp)
  by_cases hm:L.getD j 0∈fl
  ·rw[zW hm]
   exact⟨fun _ hx=>hx.2 j (by omega) hm,fun _=>rfl⟩
  ·rw[zX hm]
   refine⟨fun h=>(by cases h),fun hx=>absurd ⟨h0.1,fun i hi=> ?_⟩ hx⟩;by_cases e:i=j
   ·rw[e];exact hm
   ·exact h0.2 i (by omega)
 ·have:=h.1 rfl
  exact⟨fun _ hx=>this ⟨hx.1,fun i hi=>hx.2 i (by omega)⟩,fun _=>rfl⟩
theorem TwL.done{tw:Bool}{fl L:List Int}(h:TwL tw fl L L.length):tw=true↔¬yb8 fl L:=by
 unfold TwL at h;rw[h];unfold yb8;constructor
 ·intro h1 h2
  exact h1 ⟨h2.1,fun i hi=>h2.2 _ (by rw[zQ,zR hi];simp)⟩
 ·intro h1 h2
  refine h1 ⟨h2.1,fun x hx=> ?_⟩;obtain⟨j,hj,e⟩:=xU hx;have:=h2.2 j hj;rw[zQ,zR hj]at this;rw[<-e];exact this
theorem zi9(n fine:Int)(a ao av ra la:Option Addr)(ac ko co kv cv rc lc:Nat)(zs os vs L:List Int)(R:List RT)(w:zi)(hA:za3 w a zs)(hO:za3 w ao os)(hV:za3 w av vs)(hR:za9 w ra R)(hL:za3 w la L)(an:os.length=ko*6)(au:vs.length=kv*5)(aA:ko<=9223372036854775807)(aB:kv<=9223372036854775807)(hn:R.length<=1048576)(hi:∀r∈R,r.ids.length<=1048576)(eg:∀r∈R,r.ids.length<=r.c)(dh:L.length<=1048576)(cT:(zb0 R R.length).length<=1048576):
 Calls zh 38 #[.agg #[ze zd n,za a zs.length ac,za ao ko co,za av kv cv,ze zd fine],.agg #[za ra R.length rc,za la L.length lc]] w fun e w'=>e=.returned (ze zd (zc1 n zs os vs ko kv fine R L))/\Za w.heap.size w w':=by
 have HA:=za4 hA;have HO:=za4 hO;have HV:=za4 hV;have HR:=za4 hR;have HL:=za4 hL;have aF:Zb _:=an;have aE:Zb _:=au;have iQ:Zb _:=cT;have HI:=za4 hi;have bw:=za4 eg;clear hA hO hV hR hL an au hi eg cT;obtain⟨v,di⟩:=nmd (zc1 n zs os vs ko kv fine R L);rw[di.X];obtain⟨m,HN⟩:=nmd R.length;obtain⟨ml,HM⟩:=nmd L.length;rw[HN.X]at hn⊢;rw[HM.X]at dh⊢;have C0:Zb (CP w ((w.alloc (zg #[ze zd n,za a zs.length ac,za ao ko co,za av kv cv,ze zd fine] 30)).alloc (zg #[za ra m rc,za la ml lc] 33)) _ _):=CP.new w _ _;obtain⟨c0,c1,c2,c3,c4⟩:=za7 C0.2.1;go_enter Tryz.func38,Tryz.ntmps38
 go_wp2_with fail
 clear c0 c1 c2 c3 c4;generalize(w.alloc _).alloc _=W0 at*;refine(zx5 n fine a ao av ac ko co kv cv zs os vs W0 (HA.below C0.1) (HO.below C0.1) (HV.below C0.1) aF.X aE.X aA aB).mono ?_;rintro e w1 ⟨rfl,hb⟩;have C1:=za4 (C0.below hb);clear hb C0;by_cases cw:zd0 n zs os vs ko kv fine=false
 ·have HE:Zb (v=1):=di.symm.trans (yt1 cw)
  rw[cw];clear cw;go_wp2;go_ret;exact⟨by rw[HE.X];rfl,C1.1⟩
 have fC:zd0 n zs os vs ko kv fine=true:=by simpa using cw
 have HC:=za4 fC;rw[HC.X];clear cw fC;have lh:Zb (w.heap.size<=w1.heap.size):=C1.1.size;have O0:=za4 (zU1 w1);have C2:Zb (CP w (w1.alloc (zg #[] 2)) #[ze zd n,za a zs.length ac,za ao ko co,za av kv cv,ze zd fine] #[za ra m rc,za la ml lc]):=C1.below (zP _);have i_:Zb (w1.heap.size<=(w1.alloc (zg #[] 2)).heap.size):=by show _<=_;simp
 go_wp2_with fail
 generalize hZ:w1.alloc (zg #[] 2)=W2 at*;generalize w1.heap.size=base at*;clear hZ C1;go_loopw[5,6,7] (fun ts tt ti wr=>∃(k:Nat) (tw:Bool),k<=m/\ti=ze zd k/\tt=.bool tw/\Tw tw (zb0 R k)/\zi4 n zs os vs ko kv R k/\wr.ownsRow base 2 1 ts (zb0 R k).length ((zb0 R k).map (ze zd))/\CP w wr #[ze zd n,za a zs.length ac,za ao ko co,za av kv cv,ze zd fine] #[za ra m rc,za la ml lc]/\base<=wr.heap.size) (fun _ _ ti _=>m - (intOf ti).toNat)
 case atStart=>exact⟨0,false,xi _,rfl,rfl,by rw[zk1];exact Tw.nil,zi4.zero _ _ _ _ _ _ _,by rw[zk1];exact O0.X,C2.X,i_.X⟩
 case round=>
  clear C2 O0 i_;obtain⟨k,tw,hk,rfl,rfl,gU,aP,ae,cP,bW⟩:=hrel;have TW:=za4 gU;have OK:=za4 aP;have OW:=za4 ae;have CW:=za4 cP;have SZ:=za4 bW;clear gU aP ae cP bW;by_cases ah:k<m
  ·have bz:k<R.length:=by rw[HN.X];exact ah
   have bI:R.getD k rt0∈R:=by rw[zQ,zR bz];simp
   have Gj:=HR.below CW.1;obtain⟨b,off,rfl,h1,h2,h3⟩:=Gj k bz;have iw:za3 w (R.getD k rt0).a (R.getD k rt0).ids:=by obtain⟨_,_,_,_,_,i⟩:=HR.X k bz;exact i
   have lA:=HI.X _ bI;have fX:Zb _:=bw.X _ bI;have gX:Zb ((R.getD k rt0).ids.length=0->v=2):=fun h=>di.symm.trans (zO8 HC.X (HN.X▸fun H=>(H k ah).2.1 (xE h)));have jo:Zb (codeV true n zs os vs ko kv (R.getD k rt0).v (R.getD k rt0).ids≠0->v=2):=fun h=>di.symm.trans (zO8 HC.X (HN.X▸fun H=>h (H k ah).2.2));have fe:Zb (0<k->¬(R.getD (k - 1) rt0).v<(R.getD k rt0).v->v=2):=fun h0 h=>di.symm.trans (zO8 HC.X (HN.X▸fun H=>h ((H k ah).1 h0)));have bQ:Zb ((0<k->(R.getD (k - 1) rt0).v<(R.getD k rt0).v)->¬(R.getD k rt0).ids.length=0->codeV true n zs os vs ko kv (R.getD k rt0).v (R.getD k rt0).ids=0->zi4 n zs os vs ko kv R (k+1)):=fun h1 h2 h3=>OK.step h1 (fun e=>h2 (by rw[e];rfl)) h3
   have m5:=za4 (zf9 bz);have kZ:Zb (∀j,j<=(R.getD k rt0).ids.length->(zb0 R k++(R.getD k rt0).ids.take j).length<=1048576):=fun j hj=>xj (zN5 bz hj) iQ.X;obtain⟨r,dj⟩:=nmd (R.getD k rt0);rw[dj.X]at h1 h2 h3 iw lA fX gX jo fe bQ m5 kZ;have dv:0<k->∃p,(R.getD (k - 1) rt0).v=p/\wr.cell? ⟨b,off+(k - 1)*2,none⟩=some (ze zd p):=fun h0=>by
    obtain⟨b',aR,e,Og,_,_⟩:=Gj (k - 1) (by omega);simp at e;obtain⟨rfl,rfl⟩:=e;exact⟨_,rfl,Og⟩
   have cE:Zb _:=dv;obtain⟨iu,pN⟩:=nmd r.a;rw[pN.X]at h2 h3 iw;have IR:=za4 h3;have IW:=za4 iw;clear h3 iw bI Gj dv bz;obtain⟨q,HQ⟩:=nmd r.ids.length;rw[HQ.X]at h2 lA fX gX bQ kZ;obtain⟨d0,d1⟩:=za1 CW.2.2
   go_wp2_with fail
   clear d0 d1;have BX:Zb (Za wr.heap.size wr (wr.alloc (zg #[ze zd r.v,za iu q r.c] 80))):=zP _;have GX:Zb ((wr.alloc (zg #[ze zd r.v,za iu q r.c] 80)).heap[wr.heap.size]? =_):=zS _ _;generalize(wr.alloc _)=W1 at*;have CX:=za4 (CW.below BX.X);have IX:=za4 (IR.below BX.X);have Dx:=za4 (zb9 OW.X BX.X);have SX:Zb (base<=W1.heap.size):=xj SZ.X BX.size;have In:Zb (0<k->∃p,(R.getD (k - 1) rt0).v=p/\W1.cell? ⟨b,off+(k - 1)*2,none⟩=some (ze zd p)):=fun h0=>by
    obtain⟨p,e,hc⟩:=cE.X h0;exact⟨p,e,(BX.cell (p:=⟨b,off+(k - 1)*2,none⟩) (zV hc)).trans hc⟩
   generalize wr.heap.size=g8 at*;clear h1 h2 CW IR OW SZ cE BX;obtain⟨c0,c1,c2,c3,c4⟩:=za7 CX.2.1;obtain⟨d0,d1⟩:=za1 CX.2.2;obtain⟨x0,x1⟩:=za1 GX.X;have s0:=fun s:Kin W1=>s.cell c0;have s1:=fun s:Kin W1=>s.cell c1;have s2:=fun s:Kin W1=>s.cell c2;have s3:=fun s:Kin W1=>s.cell c3;have s4:=fun s:Kin W1=>s.cell c4;have t0:=fun s:Kin W1=>s.cell d0;have y0:=fun s:Kin W1=>s.cell x0;have y1:=fun s:Kin W1=>s.cell x1;clear c0 c1 c2 c3 c4 d0 d1 x0 x1;have lZ:Zb (∀(s:Kin W1) (vb:Bool),decide (codeV true n zs os vs ko kv r.v r.ids=0)=vb->Calls zh 86 #[.agg #[ze zd n,za a zs.length ac,za ao ko co,za av kv cv,ze zd fine],.agg #[ze zd r.v,za iu q r.c]] s.w fun e w'=>e=.returned (.bool vb)/\∃s':Kin W1,w'=s'.w):=fun s vb eW=>by
    have:=z38 n fine r.v a ao av iu ac ko co kv cv r.c zs os vs r.ids s.w ((HA.below CX.1).below s.below) ((HO.below CX.1).below s.below) ((HV.below CX.1).below s.below) (IX.below s.below) aF.X aE.X aA aB (by rw[HQ.X];omega) (by rw[HQ.X];exact fX.X) vb (by rw[HC.X];exact eW);rw[HQ.X]at this;exact Kin.call this
   have aV:=Kin.there W1;have fT:Zb ((0<k->(R.getD (k - 1) rt0).v<r.v)∨(0<k/\¬(R.getD (k - 1) rt0).v<r.v)):=by
    show _∨_;by_cases h0:0<k
    ·by_cases h:(R.getD (k - 1) rt0).v<r.v
     ·exact .inl fun _=>h
     ·exact .inr ⟨h0,h⟩
    ·exact .inl fun h=>absurd h h0
   by_cases eC:0<k
   ·obtain⟨p,Cf,eF⟩:=In.X eC
    have EO:=za4 Cf;have tp:=fun s:Kin W1=>s.cell eF;have iH:k - 1<m:=by omega
    have iR:IntKind.i64.wrap ((k:Int) - 1)=((k - 1:Nat):Int):=by rw[xu];omega
    clear Cf eF;by_cases hp:p<r.v
    ·have AF:decide (r.v<=p)=false:=by simp;omega
     by_cases hq:q=0
     ·have HE:Zb (v=2):=gX.X hq
      have jD:((q:Int)==0)=true:=by simp[hq]
      refine zb1 (by kernel_rfl) (by kernel_rfl) ?_
      repeat(go_big_quiet_step (fail))
      refine xA ?_;rintro _ ⟨s,rfl⟩;have C3:=za4 (CX.below s.below);generalize s.w=w3 at*;go_wp2;go_ret;exact⟨by rw[HE.X];rfl,C3.1⟩
     ·have jD:((q:Int)==0)=false:=by simp;omega
      obtain⟨b2,cW,rfl,-⟩:=IW.X 0 (by rw[HQ.X];omega);by_cases aG:¬codeV true n zs os vs ko kv r.v r.ids=0
      ·have HE:Zb (v=2):=jo.X aG
       have nE:Zb _:=aG;clear aG;refine zb1 (by kernel_rfl) (by kernel_rfl) ?_
       repeat(go_big_quiet_step ((go_at_call 86;exact lZ.X _ _ (zX nE.X))))
       refine xA ?_;rintro _ ⟨s,rfl⟩;have C3:=za4 (CX.below s.below);generalize s.w=w3 at*;go_wp2;go_ret;exact⟨by rw[HE.X];rfl,C3.1⟩
      ·have aG:=Decidable.not_not.1 aG
       have Bi:Zb (zi4 n zs os vs ko kv R (k+1)):=bQ.X (fun _=>by rw[EO.X];exact hp) hq aG;have nE:Zb _:=aG;clear aG;refine zb1 (by kernel_rfl) (by kernel_rfl) ?_
       repeat(go_big_quiet_step ((go_at_call 86;exact lZ.X _ _ (zW nE.X))))
       refine xA ?_;rintro _ ⟨s,rfl⟩;have C3:=za4 (CX.below s.below);have G3:=za4 (za0 s.below (za2 GX.X) GX.X);have I3:=za4 (IX.below s.below);have O3:=za4 (zb9 Dx.X s.below);have Z3:=za4 (xj SX.X s.below.size);generalize s.w=w3 at*;clear s0 s1 s2 s3 s4 t0 y0 y1 CX GX IX Dx SX lZ aV bQ gX jo fe fX In hq jD aG nE fT OK I3;clear tp iH iR hp AF eC EO
       go_wp2_with fail
       go_loopw[5,6,9] (fun ts tt ti wr=>∃(j:Nat) (tw:Bool),j<=q/\ti=ze zd j/\tt=.bool tw/\Tw tw (zb0 R k++r.ids.take j)/\wr.ownsRow base 2 1 ts (zb0 R k++r.ids.take j).length ((zb0 R k++r.ids.take j).map (ze zd))/\CP w wr #[ze zd n,za a zs.length ac,za ao ko co,za av kv cv,ze zd fine] #[za (some ⟨b,off,none⟩) m rc,za la ml lc]/\base<=wr.heap.size/\wr.heap[g8]? =some (zg #[ze zd r.v,za (some ⟨b2,cW,none⟩) q r.c] 80 (0,0))) (fun _ _ ti _=>q - (intOf ti).toNat)
       case atStart=>exact⟨0,tw,xi _,rfl,rfl,by rw[qM,qK];exact TW.X,by rw[qM,qK];exact O3.X,C3.X,Z3.X,G3.X⟩
       case round=>
        clear C3 O3 Z3 G3 TW;obtain⟨j,lu,hj,rfl,rfl,gU,ae,cP,bW,sE⟩:=hrel;have lO:=za4 bW;have px:=za4 cP;have lR:=za4 sE;have jY:=za4 (kZ.X j hj);by_cases hjq:j<q
        ·have jL:j<r.ids.length:=by rw[HQ.X];exact hjq
         have eG:Zb (zb0 R k++r.ids.take (j+1)=(zb0 R k++r.ids.take j)++[r.ids.getD j 0]):=by show _=_;rw[zf4 _ _ jL,yi]
         obtain⟨fl,fb⟩:=nmd (zb0 R k++r.ids.take j);obtain⟨id,bH⟩:=nmd (r.ids.getD j 0);rw[bH.X]at eG;have fC:=zt3 (IW.below cP.1) jL bH.X;rw[fb.X]at gU ae jY eG;have ud:=za4 gU;obtain⟨sa,sc,rfl,Fi,ru⟩:=zr8 ae;have kJ:=za4 ae;have SI:=za4 ru;have jt:fl.length<=1048576:=jY.X;have nA:=za4 (zs9 fl id);clear gU ae cP bW sE ru Fi jL jY;obtain⟨bb,rJ⟩:=nmd (decide (id∈fl));rw[rJ.X]at nA;have oN:Zb (Tw (lu||bb) (zb0 R k++r.ids.take (j+1))):=by
          have:=ud.step id;rw[rJ.X]at this;rw[eG.X];exact this
         obtain⟨nf,mw⟩:=nmd fl.length;have dN:=z41 sa fl.length sc id fl wr bb nA.X SI.X (zT _) (by omega);rw[mw.X]at jt kJ dN⊢;obtain⟨x0,x1⟩:=za1 lR.X;cases lu
         ·go_wp2_with(first
           |(go_at_call 87;refine dN.mono ?_;rintro e w' ⟨rfl,rfl⟩)
           |(at_builtin;refine zs0 _ rfl _ _ rfl base (za sa nf sc) nf _ rfl (kJ.alloc _) _ _ (ze zd id) rfl (zq5 _ _ _ _ (by simp)) rfl (by omega) (xj lO.X (by simp)) ?_;intro v' w4 hown4 aI)
           |go_in)
          have CA:Zb (CP w _ #[ze zd n,za a zs.length ac,za ao ko co,za av kv cv,ze zd fine] #[za (some ⟨b,off,none⟩) m rc,za la ml lc]):=px.below (zP (zg #[ze zd id] 2));have GA:Zb _:=za0 (zP (zg #[ze zd id] 2)) (za2 lR.X) lR.X;have CB:Zb (CP w w4 #[ze zd n,za a zs.length ac,za ao ko co,za av kv cv,ze zd fine] #[za (some ⟨b,off,none⟩) m rc,za la ml lc]):=CA.grow (kJ.alloc _) lh.X aI;have GB:Zb (w4.heap[g8]? =_):=za6 aI GA.X (zm2 (kJ.alloc _) GA.X (by decide));have ZB:Zb (base<=w4.heap.size):=by
           have h1:=aI.size;have h2:=lO.X;simp at h1;show _<=_;omega
          have OB:Zb (w4.ownsRow base 2 1 v' (zb0 R k++r.ids.take (j+1)).length ((zb0 R k++r.ids.take (j+1)).map (ze zd))):=by
           rw[eG.X,xS,qJ,mw.X];exact hown4
          clear CA GA;go_roundw
          case rel=>exact⟨j+1,_,by omega,by go_num,rfl,oN.X,OB.X,CB.X,ZB.X,GB.X⟩
          case measure=>simp[intOf];omega
         ·go_wp2_with(first
           |(at_builtin;refine zs0 _ rfl _ _ rfl base (za sa nf sc) nf _ rfl (kJ.alloc _) _ _ (ze zd id) rfl (zq5 _ _ _ _ (by simp)) rfl (by omega) (xj lO.X (by simp)) ?_;intro v' w4 hown4 aI)
           |go_in)
          have CA:Zb (CP w _ #[ze zd n,za a zs.length ac,za ao ko co,za av kv cv,ze zd fine] #[za (some ⟨b,off,none⟩) m rc,za la ml lc]):=px.below (zP (zg #[ze zd id] 2));have GA:Zb _:=za0 (zP (zg #[ze zd id] 2)) (za2 lR.X) lR.X;have CB:Zb (CP w w4 #[ze zd n,za a zs.length ac,za ao ko co,za av kv cv,ze zd fine] #[za (some ⟨b,off,none⟩) m rc,za la ml lc]):=CA.grow (kJ.alloc _) lh.X aI;have GB:Zb (w4.heap[g8]? =_):=za6 aI GA.X (zm2 (kJ.alloc _) GA.X (by decide));have ZB:Zb (base<=w4.heap.size):=by
           have h1:=aI.size;have h2:=lO.X;simp at h1;show _<=_;omega
          have OB:Zb (w4.ownsRow base 2 1 v' (zb0 R k++r.ids.take (j+1)).length ((zb0 R k++r.ids.take (j+1)).map (ze zd))):=by
           rw[eG.X,xS,qJ,mw.X];exact hown4
          clear CA GA;go_roundw
          case rel=>exact⟨j+1,_,by omega,by go_num,rfl,oN.X,OB.X,CB.X,ZB.X,GB.X⟩
          case measure=>simp[intOf];omega
        ·have jn:j=q:=by omega
         have u9:Zb (zb0 R k++r.ids.take j=zb0 R (k+1)):=by
          show _=_;rw[m5.X,jn,<-HQ.X,ym]
         rw[u9.X]at gU ae;have Ai:=za4 gU;have Bf:=za4 ae;obtain⟨x0,x1⟩:=za1 lR.X;clear jn gU ae cP bW sE;go_wp2
         first
          |exact⟨⟨k+1,lu,by omega,by go_num,rfl,Ai.X,Bi.X,Bf.X,px.X,lO.X⟩,by simp[intOf];omega⟩
          |(go_roundw
            case rel=>exact⟨k+1,lu,by omega,by go_num,rfl,Ai.X,Bi.X,Bf.X,px.X,lO.X⟩
            case measure=>simp[intOf];omega)
    ·have HE:Zb (v=2):=fe.X eC (by rw[EO.X];first|exact hp|omega)
     have AF:decide (r.v<=p)=true:=by simp;omega
     refine zb1 (by kernel_rfl) (by kernel_rfl) ?_
     repeat(go_big_quiet_step (fail))
     refine xA ?_;rintro _ ⟨s,rfl⟩;have C3:=za4 (CX.below s.below);generalize s.w=w3 at*;go_wp2;go_ret;exact⟨by rw[HE.X];rfl,C3.1⟩
   ·have vk:(decide (0<k))=false:=by simp;omega
    have eA:k<=0:=by omega
    by_cases hq:q=0
    ·have HE:Zb (v=2):=gX.X hq
     have jD:((q:Int)==0)=true:=by simp[hq]
     refine zb1 (by kernel_rfl) (by kernel_rfl) ?_
     repeat(go_big_quiet_step (fail))
     refine xA ?_;rintro _ ⟨s,rfl⟩;have C3:=za4 (CX.below s.below);generalize s.w=w3 at*;go_wp2;go_ret;exact⟨by rw[HE.X];rfl,C3.1⟩
    ·have jD:((q:Int)==0)=false:=by simp;omega
     obtain⟨b2,cW,rfl,-⟩:=IW.X 0 (by rw[HQ.X];omega);by_cases aG:¬codeV true n zs os vs ko kv r.v r.ids=0
     ·have HE:Zb (v=2):=jo.X aG
      have nE:Zb _:=aG;clear aG;refine zb1 (by kernel_rfl) (by kernel_rfl) ?_
      repeat(go_big_quiet_step ((go_at_call 86;exact lZ.X _ _ (zX nE.X))))
      refine xA ?_;rintro _ ⟨s,rfl⟩;have C3:=za4 (CX.below s.below);generalize s.w=w3 at*;go_wp2;go_ret;exact⟨by rw[HE.X];rfl,C3.1⟩
     ·have aG:=Decidable.not_not.1 aG
      have Bi:Zb (zi4 n zs os vs ko kv R (k+1)):=bQ.X (fun h=>absurd h eC) hq aG;have nE:Zb _:=aG;clear aG;refine zb1 (by kernel_rfl) (by kernel_rfl) ?_
      repeat(go_big_quiet_step ((go_at_call 86;exact lZ.X _ _ (zW nE.X))))
      refine xA ?_;rintro _ ⟨s,rfl⟩;have C3:=za4 (CX.below s.below);have G3:=za4 (za0 s.below (za2 GX.X) GX.X);have I3:=za4 (IX.below s.below);have O3:=za4 (zb9 Dx.X s.below);have Z3:=za4 (xj SX.X s.below.size);generalize s.w=w3 at*;clear s0 s1 s2 s3 s4 t0 y0 y1 CX GX IX Dx SX lZ aV bQ gX jo fe fX In hq jD aG nE fT OK I3;clear vk eA eC
      go_wp2_with fail
      go_loopw[5,6,9] (fun ts tt ti wr=>∃(j:Nat) (tw:Bool),j<=q/\ti=ze zd j/\tt=.bool tw/\Tw tw (zb0 R k++r.ids.take j)/\wr.ownsRow base 2 1 ts (zb0 R k++r.ids.take j).length ((zb0 R k++r.ids.take j).map (ze zd))/\CP w wr #[ze zd n,za a zs.length ac,za ao ko co,za av kv cv,ze zd fine] #[za (some ⟨b,off,none⟩) m rc,za la ml lc]/\base<=wr.heap.size/\wr.heap[g8]? =some (zg #[ze zd r.v,za (some ⟨b2,cW,none⟩) q r.c] 80 (0,0))) (fun _ _ ti _=>q - (intOf ti).toNat)
      case atStart=>exact⟨0,tw,xi _,rfl,rfl,by rw[qM,qK];exact TW.X,by rw[qM,qK];exact O3.X,C3.X,Z3.X,G3.X⟩
      case round=>
       clear C3 O3 Z3 G3 TW;obtain⟨j,lu,hj,rfl,rfl,gU,ae,cP,bW,sE⟩:=hrel;have lO:=za4 bW;have px:=za4 cP;have lR:=za4 sE;have jY:=za4 (kZ.X j hj);by_cases hjq:j<q
       ·have jL:j<r.ids.length:=by rw[HQ.X];exact hjq
        have eG:Zb (zb0 R k++r.ids.take (j+1)=(zb0 R k++r.ids.take j)++[r.ids.getD j 0]):=by show _=_;rw[zf4 _ _ jL,yi]
        obtain⟨fl,fb⟩:=nmd (zb0 R k++r.ids.take j);obtain⟨id,bH⟩:=nmd (r.ids.getD j 0);rw[bH.X]at eG;have fC:=zt3 (IW.below cP.1) jL bH.X;rw[fb.X]at gU ae jY eG;have ud:=za4 gU;obtain⟨sa,sc,rfl,Fi,ru⟩:=zr8 ae;have kJ:=za4 ae;have SI:=za4 ru;have jt:fl.length<=1048576:=jY.X;have nA:=za4 (zs9 fl id);clear gU ae cP bW sE ru Fi jL jY;obtain⟨bb,rJ⟩:=nmd (decide (id∈fl));rw[rJ.X]at nA;have oN:Zb (Tw (lu||bb) (zb0 R k++r.ids.take (j+1))):=by
         have:=ud.step id;rw[rJ.X]at this;rw[eG.X];exact this
        obtain⟨nf,mw⟩:=nmd fl.length;have dN:=z41 sa fl.length sc id fl wr bb nA.X SI.X (zT _) (by omega);rw[mw.X]at jt kJ dN⊢;obtain⟨x0,x1⟩:=za1 lR.X;cases lu
        ·go_wp2_with(first
          |(go_at_call 87;refine dN.mono ?_;rintro e w' ⟨rfl,rfl⟩)
          |(at_builtin;refine zs0 _ rfl _ _ rfl base (za sa nf sc) nf _ rfl (kJ.alloc _) _ _ (ze zd id) rfl (zq5 _ _ _ _ (by simp)) rfl (by omega) (xj lO.X (by simp)) ?_;intro v' w4 hown4 aI)
          |go_in)
         have CA:Zb (CP w _ #[ze zd n,za a zs.length ac,za ao ko co,za av kv cv,ze zd fine] #[za (some ⟨b,off,none⟩) m rc,za la ml lc]):=px.below (zP (zg #[ze zd id] 2));have GA:Zb _:=za0 (zP (zg #[ze zd id] 2)) (za2 lR.X) lR.X;have CB:Zb (CP w w4 #[ze zd n,za a zs.length ac,za ao ko co,za av kv cv,ze zd fine] #[za (some ⟨b,off,none⟩) m rc,za la ml lc]):=CA.grow (kJ.alloc _) lh.X aI;have GB:Zb (w4.heap[g8]? =_):=za6 aI GA.X (zm2 (kJ.alloc _) GA.X (by decide));have ZB:Zb (base<=w4.heap.size):=by
          have h1:=aI.size;have h2:=lO.X;simp at h1;show _<=_;omega
         have OB:Zb (w4.ownsRow base 2 1 v' (zb0 R k++r.ids.take (j+1)).length ((zb0 R k++r.ids.take (j+1)).map (ze zd))):=by
          rw[eG.X,xS,qJ,mw.X];exact hown4
         clear CA GA;go_roundw
         case rel=>exact⟨j+1,_,by omega,by go_num,rfl,oN.X,OB.X,CB.X,ZB.X,GB.X⟩
         case measure=>simp[intOf];omega
        ·go_wp2_with(first
          |(at_builtin;refine zs0 _ rfl _ _ rfl base (za sa nf sc) nf _ rfl (kJ.alloc _) _ _ (ze zd id) rfl (zq5 _ _ _ _ (by simp)) rfl (by omega) (xj lO.X (by simp)) ?_;intro v' w4 hown4 aI)
          |go_in)
         have CA:Zb (CP w _ #[ze zd n,za a zs.length ac,za ao ko co,za av kv cv,ze zd fine] #[za (some ⟨b,off,none⟩) m rc,za la ml lc]):=px.below (zP (zg #[ze zd id] 2));have GA:Zb _:=za0 (zP (zg #[ze zd id] 2)) (za2 lR.X) lR.X;have CB:Zb (CP w w4 #[ze zd n,za a zs.length ac,za ao ko co,za av kv cv,ze zd fine] #[za (some ⟨b,off,none⟩) m rc,za la ml lc]):=CA.grow (kJ.alloc _) lh.X aI;have GB:Zb (w4.heap[g8]? =_):=za6 aI GA.X (zm2 (kJ.alloc _) GA.X (by decide));have ZB:Zb (base<=w4.heap.size):=by
          have h1:=aI.size;have h2:=lO.X;simp at h1;show _<=_;omega
         have OB:Zb (w4.ownsRow base 2 1 v' (zb0 R k++r.ids.take (j+1)).length ((zb0 R k++r.ids.take (j+1)).map (ze zd))):=by
          rw[eG.X,xS,qJ,mw.X];exact hown4
         clear CA GA;go_roundw
         case rel=>exact⟨j+1,_,by omega,by go_num,rfl,oN.X,OB.X,CB.X,ZB.X,GB.X⟩
         case measure=>simp[intOf];omega
       ·have jn:j=q:=by omega
        have u9:Zb (zb0 R k++r.ids.take j=zb0 R (k+1)):=by
         show _=_;rw[m5.X,jn,<-HQ.X,ym]
        rw[u9.X]at gU ae;have Ai:=za4 gU;have Bf:=za4 ae;obtain⟨x0,x1⟩:=za1 lR.X;clear jn gU ae cP bW sE;go_wp2
        first
         |exact⟨⟨k+1,lu,by omega,by go_num,rfl,Ai.X,Bi.X,Bf.X,px.X,lO.X⟩,by simp[intOf];omega⟩
         |(go_roundw
           case rel=>exact⟨k+1,lu,by omega,by go_num,rfl,Ai.X,Bi.X,Bf.X,px.X,lO.X⟩
           case measure=>simp[intOf];omega)
  ·have iH:k=m:=by omega
   have Hi:Zb (Tw tw (zb0 R m)):=iH▸TW.X;have As:Zb (zi4 n zs os vs ko kv R R.length):=HN.symm▸iH▸OK.X;have Gm:=za4 (iH▸OW.X);clear iH TW OK OW;have BC:Zb (zb0 R R.length=zb0 R m):=by show _=_;rw[HN.X]
   obtain⟨fl,fb⟩:=nmd (zb0 R m);rw[fb.X]at Hi Gm BC;obtain⟨sa,sc,rfl,-,ru⟩:=zr8 Gm.X;have SI:=za4 ru;have jt:fl.length<=1048576:=by rw[<-BC.X];exact iQ.X
   clear ru Gm;obtain⟨nf,mw⟩:=nmd fl.length;rw[mw.X]at jt⊢;obtain⟨d0,d1⟩:=za1 CW.2.2
   go_wp2_with fail
   go_loop [6,10] (fun tt ti=>∃(j:Nat) (tw:Bool),j<=ml/\ti=ze zd j/\tt=.bool tw/\TwL tw fl L j) (fun _ ti=>ml - (intOf ti).toNat)
   case atStart=>exact⟨0,tw,xi _,rfl,rfl,TwL.start Hi.X L⟩
   case round=>
    clear Hi;obtain⟨j,lu,hj,rfl,rfl,gU⟩:=hrel;have ud:=za4 gU;clear gU;by_cases jL:j<ml
    ·have sA:j<L.length:=by rw[HM.X];exact jL
     obtain⟨b2,cW,rfl,fC⟩:=(HL.below CW.1) j sA;have oN:=ud.step;obtain⟨id,bH⟩:=nmd (L.getD j 0);rw[bH.X]at fC oN;obtain⟨bb,rJ⟩:=nmd (decide (id∈fl));rw[rJ.X]at oN;have vF:Zb _:=oN;have dN:=z41 sa fl.length sc id fl wr bb ((zs9 fl id).trans rJ.X) SI.X (zT _) (by rw[mw.X];omega);rw[mw.X]at dN;clear oN sA;cases lu
     ·go_wp2_with(go_at_call 87;refine dN.mono ?_;rintro e w' ⟨rfl,rfl⟩)
      exact⟨⟨j+1,_,by omega,by go_num,rfl,vF.X⟩,by simp[intOf];omega⟩
     ·go_wp2
      exact⟨⟨j+1,_,by omega,by go_num,rfl,vF.X⟩,by simp[intOf];omega⟩
    ·have nF:j=L.length:=by rw[HM.X];omega
     have D':Zb (lu=true↔¬yb8 fl L):=TwL.done (nF▸ud.X);clear nF;cases lu
     ·have ON:Zb (yb8 (zb0 R R.length) L):=by
       rw[BC.X];show yb8 fl L;exact Classical.not_not.1 fun h=>by have:=D'.2 h;cases this
      clear D' ud
      go_wp2_with fail
      clear d0 d1;go_loopw[11] (fun ti wr=>∃j:Nat,j<=ml/\ti=ze zd j/\zg5 os ko L j/\CP w wr #[ze zd n,za a zs.length ac,za ao ko co,za av kv cv,ze zd fine] #[za ra m rc,za la ml lc]) (fun ti _=>ml - (intOf ti).toNat)
      case atStart=>exact⟨0,xi _,rfl,zg5.zero _ _ _,CW.X⟩
      case round=>
       clear CW SI hj jL;obtain⟨j,hj,rfl,an,cP⟩:=hrel;have LO:=za4 an;have gC:=za4 cP;clear an cP;by_cases jL:j<ml
       ·have sA:j<L.length:=by rw[HM.X];exact jL
        obtain⟨b2,cW,rfl,fC⟩:=(HL.below gC.1) j sA;have Kw:=HL.below gC.1;have mN:Zb (zl8 os ko (L.getD j 0)=false->v=4):=fun h=>di.symm.trans (zO7 HC.X As.X ON.X (fun H=>by rw[(H.1 j sA).1]at h;cases h))
        have rV:Zb (0<j->¬L.getD (j - 1) 0<L.getD j 0->v=4):=fun h0 h=>di.symm.trans (zO7 HC.X As.X ON.X (fun H=>h ((H.1 j sA).2 h0)));have bQ:Zb (zl8 os ko (L.getD j 0)=true->(0<j->L.getD (j - 1) 0<L.getD j 0)->zg5 os ko L (j+1)):=fun h1 h2=>LO.step h1 h2;obtain⟨id,bH⟩:=nmd (L.getD j 0);rw[bH.X]at fC mN rV bQ;have PE:=za4 Kw;obtain⟨o0,H0⟩:=nmd (zd1 os ko id 0);obtain⟨o1,H1⟩:=nmd (zd1 os ko id 1);obtain⟨o2,H2⟩:=nmd (zd1 os ko id 2);obtain⟨o3,H3⟩:=nmd (zd1 os ko id 3);obtain⟨o4,H4⟩:=nmd (zd1 os ko id 4);obtain⟨o5,H5⟩:=nmd (zd1 os ko id 5);obtain⟨tt,eO⟩:=nmd (zl8 os ko id);rw[eO.X]at mN bQ;obtain⟨c0,c1,c2,c3,c4⟩:=za7 gC.2.1;obtain⟨d0,d1⟩:=za1 gC.2.2;clear Kw
        go_wp2_with fail
        have ig:=za4 fC;have il:Zb ((wr.alloc (zg #[ze zd 0,ze zd 0,ze zd 0,ze zd 0,ze zd 0,ze zd 0] 103)).cell? ⟨b2,cW+j,none⟩=_):=(((y5 wr.heap.size wr).alloc (zT _) _).cell (p:=⟨b2,cW+j,none⟩) (zV fC)).trans fC;have cM:=zV fC;simp at cM;have aD:=za2 gC.2.1;have dU:=za2 gC.2.2
        go_region_held3 (fun W=>W.cell? ⟨w.heap.size,0,none⟩=some (ze zd n)/\W.cell? ⟨w.heap.size,1,none⟩=some (za a zs.length ac)/\W.cell? ⟨w.heap.size,2,none⟩=some (za ao ko co)/\W.cell? ⟨w.heap.size,3,none⟩=some (za av kv cv)/\W.cell? ⟨w.heap.size,4,none⟩=some (ze zd fine)/\W.cell? ⟨w.heap.size+1,1,none⟩=some (za (some ⟨b2,cW,none⟩) ml lc)/\W.cell? ⟨b2,cW+j,none⟩=some (ze zd id)) (first|with_reducible exact kS|with_reducible exact⟨(za5 (za5 (za5 (za5 (za5 (za5 kS.1 (y8 aD)) (y8 aD)) (y8 aD)) (y8 aD)) (y8 aD)) (y8 aD)),(za5 (za5 (za5 (za5 (za5 (za5 kS.2.1 (y8 aD)) (y8 aD)) (y8 aD)) (y8 aD)) (y8 aD)) (y8 aD)),(za5 (za5 (za5 (za5 (za5 (za5 kS.2.2.1 (y8 aD)) (y8 aD)) (y8 aD)) (y8 aD)) (y8 aD)) (y8 aD)),(za5 (za5 (za5 (za5 (za5 (za5 kS.2.2.2.1 (y8 aD)) (y8 aD)) (y8 aD)) (y8 aD)) (y8 aD)) (y8 aD)),(za5 (za5 (za5 (za5 (za5 (za5 kS.2.2.2.2.1 (y8 aD)) (y8 aD)) (y8 aD)) (y8 aD)) (y8 aD)) (y8 aD)),(za5 (za5 (za5 (za5 (za5 (za5 kS.2.2.2.2.2.1 (y8 dU)) (y8 dU)) (y8 dU)) (y8 dU)) (y8 dU)) (y8 dU)),(za5 (za5 (za5 (za5 (za5 (za5 kS.2.2.2.2.2.2 (y8 cM)) (y8 cM)) (y8 cM)) (y8 cM)) (y8 cM)) (y8 cM))⟩|go_keep) ((first
         |(go_at_call 88
           with_reducible refine(zr6 n fine id a ao av _ ac ko co kv cv os wr.drew ?_ aF.X aA).mono ?_
           ·exact HO.below gC.drew.1
           rintro e w2 ⟨rfl,aC⟩;rw[H0.X,H1.X,H2.X,H3.X,H4.X,H5.X,eO.X];have aS:=CP.below gC.drew aC;obtain⟨k0,k1,k2,k3,k4⟩:=za7 aS.2.1;have k5:=(za1 aS.2.2).2;have k6:=(aC.cell (p:=⟨b2,cW+j,none⟩) (zV ig.X)).trans ig.X;have kS:=xr k0 (xr k1 (xr k2 (xr k3 (xr k4 (xr k5 k6)))));have fD:=za4 aS;clear aC aS k0 k1 k2 k3 k4 k5 k6)
         |(go_at_call 88
           with_reducible refine(zr6 n fine id a ao av _ ac ko co kv cv os (wr.alloc (zg #[ze zd 0,ze zd 0,ze zd 0,ze zd 0,ze zd 0,ze zd 0] 103)).drew ?_ aF.X aA).mono ?_
           ·exact HO.below (CP.drew (CP.alloc gC.X (zg #[ze zd 0,ze zd 0,ze zd 0,ze zd 0,ze zd 0,ze zd 0] 103))).1
           rintro e w2 ⟨rfl,aC⟩;rw[H0.X,H1.X,H2.X,H3.X,H4.X,H5.X,eO.X];have aS:=CP.below (CP.drew (CP.alloc gC.X (zg #[ze zd 0,ze zd 0,ze zd 0,ze zd 0,ze zd 0,ze zd 0] 103))) aC;obtain⟨k0,k1,k2,k3,k4⟩:=za7 aS.2.1;have k5:=(za1 aS.2.2).2;have k6:=(aC.cell (p:=⟨b2,cW+j,none⟩) (zV il.X)).trans il.X;have kS:=xr k0 (xr k1 (xr k2 (xr k3 (xr k4 (xr k5 k6)))));have fD:=za4 aS;obtain⟨z0,z1,z2,z3,z4,z5⟩:=zi0 (za0 aC (k:=wr.heap.size) (by simp) (zS wr (zg #[ze zd 0,ze zd 0,ze zd 0,ze zd 0,ze zd 0,ze zd 0] 103)));have zf:=fun i=>yZ _ _ i _ _ (za0 aC (k:=wr.heap.size) (by simp) (zS wr (zg #[ze zd 0,ze zd 0,ze zd 0,ze zd 0,ze zd 0,ze zd 0] 103)))
           clear aC aS k0 k1 k2 k3 k4 k5 k6)))
        all_goals(first
         |(have eh:Zb (CP w (zj (zj (zj (zj (zj (zj w2 ⟨wr.heap.size,0,none⟩ (ze zd o0)) ⟨wr.heap.size,1,none⟩ (ze zd o1)) ⟨wr.heap.size,2,none⟩ (ze zd o2)) ⟨wr.heap.size,3,none⟩ (ze zd o3)) ⟨wr.heap.size,4,none⟩ (ze zd o4)) ⟨wr.heap.size,5,none⟩ (ze zd o5)) #[ze zd n,za a zs.length ac,za ao ko co,za av kv cv,ze zd fine] #[za ra m rc,za (some ⟨b2,cW,none⟩) ml lc]):=(CP.set (CP.set (CP.set (CP.set (CP.set (CP.set fD.X gC.big) gC.big) gC.big) gC.big) gC.big) gC.big)
           clear kS fD ig il fC z0 z1 z2 z3 z4 z5 zf;generalize(zj (zj (zj (zj (zj (zj w2 ⟨wr.heap.size,0,none⟩ (ze zd o0)) ⟨wr.heap.size,1,none⟩ (ze zd o1)) ⟨wr.heap.size,2,none⟩ (ze zd o2)) ⟨wr.heap.size,3,none⟩ (ze zd o3)) ⟨wr.heap.size,4,none⟩ (ze zd o4)) ⟨wr.heap.size,5,none⟩ (ze zd o5))=W at*;generalize wr.heap.size=g at*)
         |(have eh:Zb (CP w (w2.alloc (zg #[ze zd o0,ze zd o1,ze zd o2,ze zd o3,ze zd o4,ze zd o5] 103)) #[ze zd n,za a zs.length ac,za ao ko co,za av kv cv,ze zd fine] #[za ra m rc,za (some ⟨b2,cW,none⟩) ml lc]):=CP.alloc fD.X _
           clear kS fD ig il fC;generalize w2.alloc _=W at*;generalize w2.heap.size=g at*))
        all_goals
         clear c0 c1 c2 c3 c4 d0 d1 aD dU cM;have q1:=(za1 eh.2.2).2;have C6:=zt3 (HL.below eh.1) sA bH.X;have t0:=fun s:Kin W=>s.cell q1;have t1:=fun s:Kin W=>s.cell C6;have aV:=Kin.there W;cases tt
         ·have HE:Zb (v=4):=mN.X rfl
          go_wp2_with fail
          refine zb1 (by kernel_rfl) (by kernel_rfl) ?_
          repeat(go_big_quiet_step (fail))
          refine xA ?_;rintro _ ⟨s,rfl⟩;have d5:=za4 (eh.below s.below);generalize s.w=w3 at*;go_wp2;go_ret;exact⟨by rw[HE.X];rfl,d5.1⟩
         ·by_cases l':0<j
          ·obtain⟨p,HP⟩:=nmd (L.getD (j - 1) 0)
           have Ps:=zt3 (HL.below eh.1) (j:=j - 1) (by omega) HP.X;have t2:=fun s:Kin W=>s.cell Ps;have iR:IntKind.i64.wrap ((j:Int) - 1)=((j - 1:Nat):Int):=by rw[xu];omega
           have Lk:j - 1<ml:=by omega
           by_cases hp:p<id
           ·have Fs:Zb (zg5 os ko L (j+1)):=bQ.X rfl (fun _=>by rw[HP.X];exact hp)
            have AF:decide (id<=p)=false:=by simp;omega
            go_wp2_with fail
            refine zb1 (by kernel_rfl) (by kernel_rfl) ?_
            repeat(go_big_quiet_step (fail))
            refine xA ?_;rintro _ ⟨s,rfl⟩;have d5:=za4 (eh.below s.below);generalize s.w=w3 at*;go_wp2;exact⟨⟨j+1,by omega,by go_num,Fs.X,d5.X⟩,by simp[intOf];omega⟩
           ·have HE:Zb (v=4):=rV.X l' (by rw[HP.X];first|exact hp|omega)
            have AF:decide (id<=p)=true:=by simp;omega
            go_wp2_with fail
            refine zb1 (by kernel_rfl) (by kernel_rfl) ?_
            repeat(go_big_quiet_step (fail))
            refine xA ?_;rintro _ ⟨s,rfl⟩;have d5:=za4 (eh.below s.below);generalize s.w=w3 at*;go_wp2;go_ret;exact⟨by rw[HE.X];rfl,d5.1⟩
          ·have Fs:Zb (zg5 os ko L (j+1)):=bQ.X rfl (fun h=>absurd h l')
           have vk:(decide (0<j))=false:=by simp;omega
           have eA:j<=0:=by omega
           go_wp2_with fail
           refine zb1 (by kernel_rfl) (by kernel_rfl) ?_
           repeat(go_big_quiet_step (fail))
           refine xA ?_;rintro _ ⟨s,rfl⟩;have d5:=za4 (eh.below s.below);generalize s.w=w3 at*;go_wp2;exact⟨⟨j+1,by omega,by go_num,Fs.X,d5.X⟩,by simp[intOf];omega⟩
       ·have nF:j=L.length:=by rw[HM.X];omega
        have Mi:Zb (zg5 os ko L L.length):=nF▸LO.X;have Ab:Zb ((zb0 R R.length).length+L.length=nf+ml):=by show _=_;rw[BC.X,mw.X,HM.X]
        obtain⟨c0,c1,c2,c3,c4⟩:=za7 gC.2.1;obtain⟨d0,d1⟩:=za1 gC.2.2;clear nF;have hz:Zb (((nf:Int)+(ml:Int)==(ko:Int))=decide (nf+ml=ko)):=by
         show _=_;by_cases e:nf+ml=ko
         ·rw[zW e,<-e];simp
         ·rw[zX e];simp;omega
        by_cases he:nf+ml=ko
        ·have te:((nf:Int)+(ml:Int)==(ko:Int))=true:=by rw[hz.X];exact zW he
         have HE:Zb (v=0):=di.symm.trans (zT8 HC.X As.X ON.X Mi.X (by rw[Ab.X];exact he));clear he;go_wp2;go_ret;exact⟨by rw[HE.X];rfl,gC.1⟩
        ·have te:((nf:Int)+(ml:Int)==(ko:Int))=false:=by rw[hz.X];exact zX he
         have HE:Zb (v=4):=di.symm.trans (zO7 HC.X As.X ON.X (fun h=>he (by rw[<-Ab.X];exact h.2)));clear he;go_wp2;go_ret;exact⟨by rw[HE.X];rfl,gC.1⟩
     ·have HE:Zb (v=3):=di.symm.trans (y11 HC.X As.X (by rw[BC.X];exact D'.1 rfl))
      go_wp2;go_ret;exact⟨by rw[HE.X];rfl,CW.1⟩
theorem z34(n fine:Int)(a ao av ra la:Option Addr)(ac ko co kv cv rc lc:Nat)(zs os vs L:List Int)(R:List RT)(w:zi)(hA:za3 w a zs)(hO:za3 w ao os)(hV:za3 w av vs)(hR:za9 w ra R)(an:os.length=ko*6)(au:vs.length=kv*5)(aA:ko<=9223372036854775807)(aB:kv<=9223372036854775807)(eg:∀r∈R,r.ids.length<=r.c)(aT:zc1 n zs os vs ko kv fine R L=0):
 Calls zh 35 #[.agg #[ze zd n,za a zs.length ac,za ao ko co,za av kv cv,ze zd fine],.agg #[za ra R.length rc,za la L.length lc]] w fun e w'=>e=.returned (ze zd (zi3 n zs os vs ko kv R (fine*L.length) R.length))/\Za w.heap.size w w':=by
 have HA:=za4 hA;have HO:=za4 hO;have HV:=za4 hV;have HR:=za4 hR;have aF:Zb _:=an;have aE:Zb _:=au;have bw:Zb _:=eg;obtain⟨bU,mG,_,_,_⟩:=zb7 aT;obtain⟨d8,gR,uY,Ah⟩:=ze6 aT;have HC:Zb _:=bU;have kh:=za4 mG;clear hA hO hV hR an au eg bU mG aT;obtain⟨m,HN⟩:=nmd R.length;obtain⟨ml,HM⟩:=nmd L.length;rw[HN.X]at d8 kh⊢;rw[HM.X]at gR uY Ah⊢;obtain⟨z,HZ⟩:=nmd (fine*(ml:Int));rw[HZ.X]at uY Ah⊢;have Bs:wrap64 (fine*(ml:Int))=z:=by rw[HZ.X];exact xB _ (by omega)
 have uE:IntKind.i64.wrap (fine*(ml:Int))=z:=by rw[HZ.X];exact xz _ (by omega)
 have dG:Zb _:=z59 HC.X kh.X z;have C0:Zb (CP w ((w.alloc (zg #[ze zd n,za a zs.length ac,za ao ko co,za av kv cv,ze zd fine] 30)).alloc (zg #[za ra m rc,za la ml lc] 33)) _ _):=CP.new w _ _;obtain⟨c0,c1,c2,c3,c4⟩:=za7 C0.X.2.1;obtain⟨d0,d1⟩:=za1 C0.X.2.2;go_enter Tryz.func35,Tryz.ntmps35
 go_wp2_with fail
 clear c0 c1 c2 c3 c4 d0 d1 Bs uE;generalize(w.alloc _).alloc _=W0 at*;go_loopw[5,19] (fun ts ti wr=>∃k:Nat,k<=m/\ti=ze zd k/\ts=ze zd (zi3 n zs os vs ko kv R z k)/\CP w wr #[ze zd n,za a zs.length ac,za ao ko co,za av kv cv,ze zd fine] #[za ra m rc,za la ml lc]) (fun _ ti _=>m - (intOf ti).toNat)
 case atStart=>exact⟨0,xi _,rfl,rfl,C0.X⟩
 case round=>
  clear C0;obtain⟨k,hk,rfl,rfl,cP⟩:=hrel;have CW:=za4 cP;clear cP;by_cases ah:k<m
  ·have bz:k<R.length:=by rw[HN.X];exact ah
   have bI:R.getD k rt0∈R:=by rw[zQ,zR bz];simp
   obtain⟨b,off,rfl,h1,h2,h3⟩:=(HR.X.below CW.X.1) k bz;have fX:Zb _:=bw.X _ bI;have aG:=(kh.X k ah).2.2;have dm:=dG.X (k+1) (by omega);have oF:=dG.X k hk;have bJ:=(zg3 (zf3 (zg8 aG).1).2.2).1;have a8:Zb (zi3 n zs os vs ko kv R z (k+1)=zi3 n zs os vs ko kv R z k+zm0 n zs os vs ko kv (R.getD k rt0)):=rfl;rw[a8.X]at dm;unfold zm0 at a8 dm;obtain⟨r,dj⟩:=nmd (R.getD k rt0);rw[dj.X]at h1 h2 h3 fX aG bJ a8 dm;have nj:Zb _:=aG;have IR:=za4 h3;obtain⟨cC,b_,ce,aZ,_⟩:=zb2 HC.X;have eW:=(zr5 ce aZ r.v);have B_:Zb _:=eW.1;have db:Zb _:=cC;have Fk:Zb (z61 n (zd6 os ko r.ids) r.ids.length):=z55 b_ aZ _;clear h3 bI bz aG cC b_ ce aZ eW;obtain⟨f0,F0⟩:=nmd (zc4 vs kv r.v 0);obtain⟨f1,F1⟩:=nmd (zc4 vs kv r.v 1);obtain⟨f2,F2⟩:=nmd (zc4 vs kv r.v 2);obtain⟨f3,F3⟩:=nmd (zc4 vs kv r.v 3);obtain⟨f4,F4⟩:=nmd (zc4 vs kv r.v 4);rw[F1.X]at B_ a8 dm;obtain⟨s,HS⟩:=nmd (zi3 n zs os vs ko kv R z k);obtain⟨rd,nT⟩:=nmd (zq7 n zs (zd6 os ko r.ids) r.ids.length f1);rw[HS.X]at a8 dm oF;rw[nT.X]at a8 dm;rw[HS.X];have EV:wrap64 (s+rd)=s+rd:=xB _ (by omega);have BX:Zb (Za wr.heap.size wr (wr.alloc (zg #[ze zd r.v,za r.a r.ids.length r.c] 80))):=zP _;have GX:Zb ((wr.alloc (zg #[ze zd r.v,za r.a r.ids.length r.c] 80)).heap[wr.heap.size]? =_):=zS _ _;have CX:=za4 (CW.X.below BX.X);obtain⟨c0,c1,c2,c3,c4⟩:=za7 CX.X.2.1;obtain⟨d0,d1⟩:=za1 GX.X
   go_wp2_with fail
   clear c0 c1 c2 c3 c4 d0 d1 h1 h2;generalize(wr.alloc _)=W1 at*;refine(z81 n fine r.v a ao av r.a ac ko co kv cv r.c zs os vs r.ids W1 (HA.X.below CX.X.1) (HO.X.below CX.X.1) (HV.X.below CX.X.1) (IR.X.below BX.X) aF.X aE.X aA aB (by omega) fX.X HC.X).mono ?_;rintro e w2 ⟨hb,⟨aG,rfl⟩|⟨-,g,-,rfl,ex⟩⟩
   ·exact absurd nj.X aG
   have C2:=za4 (CX.X.below hb);have I2:=za4 ex;rw[F0.X,F1.X,F2.X,F3.X,F4.X];clear hb ex CX GX BX IR CW;have BY:Zb (Za w2.heap.size w2 (w2.alloc (zg #[ze zd n,za a zs.length ac,ze zd f0,ze zd f1,ze zd f2,ze zd f3,ze zd f4,za (some ⟨g,0,none⟩) r.ids.length r.ids.length] 119))):=zP _;have GY:Zb ((w2.alloc (zg #[ze zd n,za a zs.length ac,ze zd f0,ze zd f1,ze zd f2,ze zd f3,ze zd f4,za (some ⟨g,0,none⟩) r.ids.length r.ids.length] 119)).heap[w2.heap.size]? =_):=zS _ _;obtain⟨t0,t1,t2,t3,t4,t5,t6,t7⟩:=zk4 GY.X
   go_wp2_with fail
   clear t0 t1 t2 t3 t4 t5 t6 t7;generalize(w2.alloc _)=W3 at*;have C3:=za4 (C2.X.below BY.X);refine(zB1 n f0 f1 f2 f3 f4 a _ ac r.ids.length _ zs (zd6 os ko r.ids) W3 db.X (HA.X.below C3.X.1) (I2.X.below BY.X) (zj2 os ko r.ids) Fk.X B_.X bJ).mono ?_;rintro e w4 ⟨rfl,hb⟩;rw[nT.X];have C4:=za4 (C3.X.below hb);clear hb C3 C2 BY GY I2;go_wp2
   first
    |exact⟨⟨k+1,by omega,by go_num,by rw[a8.X],C4.X⟩,by simp[intOf];omega⟩
    |(go_roundw
      case rel=>exact⟨k+1,by omega,by go_num,by rw[a8.X],C4.X⟩
      case measure=>simp[intOf];omega)
  ·have iH:k=m:=by omega
   subst iH;go_wp2;go_ret;exact⟨rfl,CW.X.1⟩
theorem zC2(n fine:Int)(a ao av ra la:Option Addr)(ac ko co kv cv rc lc:Nat)(zs os vs L:List Int)(R:List RT)(w:zi)(hA:za3 w a zs)(hO:za3 w ao os)(hV:za3 w av vs)(hR:za9 w ra R)(hL:za3 w la L)(an:os.length=ko*6)(au:vs.length=kv*5)(aA:ko<=9223372036854775807)(aB:kv<=9223372036854775807)(hn:R.length<=1048576)(hi:∀r∈R,r.ids.length<=1048576)(eg:∀r∈R,r.ids.length<=r.c)(dh:L.length<=1048576)(cT:(zb0 R R.length).length<=1048576)(ip:∀x∈L,(Lit.int zd x).wf=true):
 Calls zh 11 #[.agg #[ze zd n,za a zs.length ac,za ao ko co,za av kv cv,ze zd fine],.agg #[za ra R.length rc,za la L.length lc]] w fun e w'=>e=.returned (ze zd (zo8 n zs os vs ko kv fine R L))/\Za w.heap.size w w':=by
 have HA:=za4 hA;have HO:=za4 hO;have HV:=za4 hV;have HR:=za4 hR;have HL:=za4 hL;have aF:Zb _:=an;have aE:Zb _:=au;have HN:Zb _:=hn;have ec:Zb _:=dh;have iQ:Zb _:=cT;have HI:Zb _:=hi;have bw:Zb _:=eg;have iI:Zb _:=ip;clear hA hO hV hR hL an au hi eg hn dh cT ip;obtain⟨x,HX⟩:=nmd (zo8 n zs os vs ko kv fine R L);rw[HX.X];have C0:Zb (CP w ((w.alloc (zg #[ze zd n,za a zs.length ac,za ao ko co,za av kv cv,ze zd fine] 30)).alloc (zg #[za ra R.length rc,za la L.length lc] 33)) _ _):=CP.new w _ _;obtain⟨c0,c1,c2,c3,c4⟩:=za7 C0.X.2.1;obtain⟨d0,d1⟩:=za1 C0.X.2.2;go_enter Tryz.func11,Tryz.ntmps11
 go_wp2_with fail
 clear c0 c1 c2 c3 c4 d0 d1;generalize(w.alloc _).alloc _=W0 at*;refine(zx7 n fine a ao av ra la ac ko co kv cv rc lc zs os vs L R W0 (HA.X.below C0.X.1) (HO.X.below C0.X.1) (HV.X.below C0.X.1) (HR.X.below C0.X.1) (HL.X.below C0.X.1) aF.X aE.X aA aB HN.X HI.X bw.X ec.X iQ.X iI.X).mono ?_;rintro e w1 ⟨rfl,hb⟩;have C1:=za4 (C0.X.below hb);clear hb C0;by_cases hz:zc1 n zs os vs ko kv fine R L=0
 ·have HZ:Zb _:=hz
  have HE:Zb _:=HX.X.symm.trans (z7 hz);rw[hz];clear hz;obtain⟨c0,c1,c2,c3,c4⟩:=za7 C1.X.2.1;obtain⟨d0,d1⟩:=za1 C1.X.2.2
  go_wp2_with fail
  clear c0 c1 c2 c3 c4 d0 d1;refine(z34 n fine a ao av ra la ac ko co kv cv rc lc zs os vs L R w1 (HA.X.below C1.X.1) (HO.X.below C1.X.1) (HV.X.below C1.X.1) (HR.X.below C1.X.1) aF.X aE.X aA aB bw.X HZ.X).mono ?_;rintro e w2 ⟨rfl,hb⟩;have HB:Zb _:=C1.X.1.trans (hb.mono C1.X.1.size);clear hb;go_wp2;go_ret;exact⟨by rw[HE.X];rfl,HB.X⟩
 ·have HE:Zb (x= -1):=HX.X.symm.trans (ye hz)
  obtain⟨v,et⟩:=nmd (zc1 n zs os vs ko kv fine R L);rw[et.X]at hz⊢;have Qz:(v !=0)=true:=by simp[hz]
  go_wp2;go_ret;exact⟨by rw[HE.X];rfl,C1.X.1⟩
theorem z75(n fine:Int)(a ao av ra la:Option Addr)(ac ko co kv cv rc lc:Nat)(zs os vs L:List Int)(R:List RT)(w:zi)(hA:za3 w a zs)(hO:za3 w ao os)(hV:za3 w av vs)(hR:za9 w ra R)(an:os.length=ko*6)(au:vs.length=kv*5)(aA:ko<=9223372036854775807)(aB:kv<=9223372036854775807)(aT:zc1 n zs os vs ko kv fine R L=0):
 Calls zh 41 #[.agg #[ze zd n,za a zs.length ac,za ao ko co,za av kv cv,ze zd fine],.agg #[za ra R.length rc,za la L.length lc]] w fun e w'=>e=.returned (ze zd (zi3 n zs os vs ko kv R (fine*L.length) R.length))/\Za w.heap.size w w':=by
 have HA:=za4 hA;have HO:=za4 hO;have HV:=za4 hV;have HR:=za4 hR;have aF:Zb _:=an;have aE:Zb _:=au;obtain⟨bU,mG,_,_,_⟩:=zb7 aT;obtain⟨d8,gR,uY,Ah⟩:=ze6 aT;have HC:Zb _:=bU;have kh:=za4 mG;clear hA hO hV hR an au bU mG aT;obtain⟨m,HN⟩:=nmd R.length;obtain⟨ml,HM⟩:=nmd L.length;rw[HN.X]at d8 kh⊢;rw[HM.X]at gR uY Ah⊢;obtain⟨z,HZ⟩:=nmd (fine*(ml:Int));rw[HZ.X]at uY Ah⊢;have Bs:wrap64 (fine*(ml:Int))=z:=by rw[HZ.X];exact xB _ (by omega)
 have uE:IntKind.i64.wrap (fine*(ml:Int))=z:=by rw[HZ.X];exact xz _ (by omega)
 have dG:Zb _:=z59 HC.X kh.X z;have C0:Zb (CP w ((w.alloc (zg #[ze zd n,za a zs.length ac,za ao ko co,za av kv cv,ze zd fine] 30)).alloc (zg #[za ra m rc,za la ml lc] 33)) _ _):=CP.new w _ _;obtain⟨c0,c1,c2,c3,c4⟩:=za7 C0.2.1;obtain⟨d0,d1⟩:=za1 C0.2.2;go_enter Tryz.func41,Tryz.ntmps41
 go_wp2_with fail
 clear c0 c1 c2 c3 c4 d0 d1 Bs uE;generalize(w.alloc _).alloc _=W0 at*;go_loopw[5,6] (fun ts ti wr=>∃k:Nat,k<=m/\ti=ze zd k/\ts=ze zd (zi3 n zs os vs ko kv R z k)/\CP w wr #[ze zd n,za a zs.length ac,za ao ko co,za av kv cv,ze zd fine] #[za ra m rc,za la ml lc]) (fun _ ti _=>m - (intOf ti).toNat)
 case atStart=>exact⟨0,xi _,rfl,rfl,C0.X⟩
 case round=>
  clear C0;obtain⟨k,hk,rfl,rfl,cP⟩:=hrel;have CW:=za4 cP;clear cP;obtain⟨c0,c1,c2,c3,c4⟩:=za7 CW.2.1;obtain⟨d0,d1⟩:=za1 CW.2.2;by_cases ah:k<m
  ·have bz:k<R.length:=by rw[HN.X];exact ah
   obtain⟨b,off,rfl,h1,h2,h3⟩:=(HR.below CW.1) k bz;have aG:=(kh.X k ah).2.2;have dm:=dG.X (k+1) (by omega);have oF:=dG.X k hk;have bJ:=(zg3 (zf3 (zg8 aG).1).2.2).1;have a8:Zb (zi3 n zs os vs ko kv R z (k+1)=zi3 n zs os vs ko kv R z k+zm0 n zs os vs ko kv (R.getD k rt0)):=rfl;rw[a8.X]at dm;unfold zm0 at a8 dm;obtain⟨r,dj⟩:=nmd (R.getD k rt0);rw[dj.X]at h1 h2 h3 aG bJ a8 dm;have nj:Zb _:=aG;have IR:=za4 h3;clear h3 bz aG;obtain⟨s,HS⟩:=nmd (zi3 n zs os vs ko kv R z k);obtain⟨rd,nT⟩:=nmd (zq7 n zs (zd6 os ko r.ids) r.ids.length (zc4 vs kv r.v 1));rw[HS.X]at a8 dm oF;rw[nT.X]at a8 dm;rw[HS.X];have EV:wrap64 (s+rd)=s+rd:=xB _ (by omega);have Mc:IntKind.i64.wrap (s+rd)=s+rd:=xz _ (by omega);have dN:Zb (∀S:Kin wr,Calls zh 89 #[.agg #[ze zd n,za a zs.length ac,za ao ko co,za av kv cv,ze zd fine],.agg #[ze zd r.v,za r.a r.ids.length r.c]] S.w fun e w'=>e=.returned (ze zd rd)/\∃s':Kin wr,w'=s'.w):=fun S=>by
    have:=zs8 n fine r.v a ao av r.a ac ko co kv cv r.c zs os vs r.ids S.w ((HA.below CW.1).below S.below) ((HO.below CW.1).below S.below) ((HV.below CW.1).below S.below) (IR.below S.below) aF.X aE.X aA aB (by omega) (by rw[HC.X];exact nj.X);rw[nT.X]at this;exact Kin.call this
   have s0:=fun s:Kin wr=>s.cell c0;have s1:=fun s:Kin wr=>s.cell c1;have s2:=fun s:Kin wr=>s.cell c2;have s3:=fun s:Kin wr=>s.cell c3;have s4:=fun s:Kin wr=>s.cell c4;have t0:=fun s:Kin wr=>s.cell d0;have y0:=fun s:Kin wr=>s.cell h1;have y1:=fun s:Kin wr=>s.cell h2;have aV:=Kin.there wr
   go_wp2_with fail
   clear c0 c1 c2 c3 c4 d0 d1 h1 h2;refine zb1 (by kernel_rfl) (by kernel_rfl) ?_
   repeat(go_big_quiet_step ((go_at_call 89;exact dN.X _)))
   refine xA ?_;rintro _ ⟨S,rfl⟩;have C3:=za4 (CW.below S.below);generalize S.w=w3 at*;clear s0 s1 s2 s3 s4 t0 y0 y1 aV CW IR dN;go_wp2
   first
    |exact⟨⟨k+1,by omega,by go_num,by rw[a8.X],C3.X⟩,by simp[intOf];omega⟩
    |(go_roundw
      case rel=>exact⟨k+1,by omega,by go_num,by rw[a8.X],C3.X⟩
      case measure=>simp[intOf];omega)
  ·have iH:k=m:=by omega
   subst iH;go_wp2;go_ret;exact⟨rfl,CW.1⟩
