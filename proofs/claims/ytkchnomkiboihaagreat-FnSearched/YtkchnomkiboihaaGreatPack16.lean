import Derived.Test.YtkchnomkiboihaaGreatPack13
import Derived.Test.YtkchnomkiboihaaGreatRoutesOk
set_option linter.unusedSimpArgs false
set_option maxHeartbeats 4000000
set_option maxRecDepth 100000
namespace Go.Proofs.YtkchnomkiboihaaGreat
open RowKit renaming Below→Za,Hid→Zb
open Value renaming slice→za,int→ze
open IntKind renaming i64→zd
open Obj renaming cells→zg
open Proofs.Tryz renaming prog→zh
open Go renaming World→zi
open Lit renaming int→zD
open Go.RowKit Go.Maps
open Q
theorem zM7{n:Int}{zs os vs:List Int}{ko kv:Nat}{R:List RT}:∀{k:Nat},k<=R.length->zi4 n zs os vs ko kv R k->∀x∈zb0 R k,zl7 os ko x=true
 |0,_,_,x,hx=>by rw[zk0]at hx;cases hx
 |k+1,hk,h,x,hx=>by
  rw[zf9 (by omega),yj]at hx;rcases hx with hx|hx
  ·exact zM7 (k:=k) (by omega) (fun j hj=>h j (by omega)) x hx
  ·have h3:=(zg3 (zf2 (zg7 (h k (by omega)).2.2).1).2.2).2
   obtain⟨j,hj,e⟩:=xU hx;have:=h3 j hj;unfold zX4 at this;rw[zQ,zR hj]at this;simp only[yR,e]at this;simp at this;exact this.1
theorem yA9{n:Int}{zs os vs:List Int}{ko kv:Nat}{fine id:Int}(hc:zd0 n zs os vs ko kv fine=true)(h:zl7 os ko id=true):(zD zd id).wf=true:=by
 have hv:=(zb2 hc).2.1;unfold zl7 at h;cases hf:zU0 os ko id with
 |none=>rw[hf]at h;cases h
 |some i=>
  unfold zU0 at hf;have h1:=List.find?_some hf;have h2:i<ko:=by simpa using xX hf
  have h3:=((zd8 hv).2 i h2).1;simp at h1;unfold zI0 inB at h3;simp at h3;exact WalkArith.wf_i64 (by omega)
def CP(w W:zi)(cs ps:Array Value):Prop:=Za w.heap.size w W/\W.heap[w.heap.size]? =some (.cells cs 30 (0,0))/\W.heap[w.heap.size+1]? =some (.cells ps 33 (0,0))
theorem CP.new(w:zi)(cs ps:Array Value):CP w ((w.alloc (.cells cs 30)).alloc (.cells ps 33)) cs ps:=
 ⟨(zP _).alloc (by simp) _,xm _ _ _,xh _ _ _⟩
theorem CP.below{w W W':zi}{cs ps:Array Value}(h:CP w W cs ps)(hb:Za W.heap.size W W'):CP w W' cs ps:=
 ⟨h.1.trans (hb.mono h.1.size),za0 hb (za2 h.2.1) h.2.1,za0 hb (za2 h.2.2) h.2.2⟩
theorem CP.grown{w W W':zi}{cs ps:Array Value}{B:Nat}{l:List Int}(h:CP w W cs ps)(hS:zk8 W B l)(hB:w.heap.size<=B)(hg:W.grownBy W' (some B)):CP w W' cs ps:=
 ⟨h.1.grown hg h.1.size (fun j e=>by cases e;exact hB),zz8 hS hg h.2.1,zz8 hS hg h.2.2⟩
theorem zA8(n fine:Int)(a ao av ra la:Option Addr)(ac ko co kv cv rc lc:Nat)(zs os vs L:List Int)(R:List RT)(w:zi)(hA:za3 w a zs)(hO:za3 w ao os)(hV:za3 w av vs)(hR:za9 w ra R)(hL:za3 w la L)(an:os.length=ko*6)(au:vs.length=kv*5)(aA:ko<=9223372036854775807)(aB:kv<=9223372036854775807)(hn:R.length<=1048576)(hi:∀r∈R,r.ids.length<=1048576)(eg:∀r∈R,r.ids.length<=r.c)(dg:L.length<=1048576)(cS:(zb0 R R.length).length<=1048576)(ii:∀x∈L,(zD zd x).wf=true)(bT:zd0 n zs os vs ko kv fine=true):
 Calls zh 47 #[.agg #[ze zd n,za a zs.length ac,za ao ko co,za av kv cv,ze zd fine],.agg #[za ra R.length rc,za la L.length lc]] w fun e w'=>e=.returned (ze zd (zc1 n zs os vs ko kv fine R L))/\Za w.heap.size w w':=by
 have HA:=za4 hA;have HO:=za4 hO;have HV:=za4 hV;have HR:=za4 hR;have HL:=za4 hL;have aF:Zb _:=an;have aE:Zb _:=au;have HN:Zb _:=hn;have ee:Zb _:=dg;have iY:Zb _:=cS;have HI:Zb _:=hi;have bt:Zb _:=eg;have iM:Zb _:=ii;have HC:Zb _:=bT;clear hA hO hV hR hL an au hi eg bT ii hn dg cS;obtain⟨v,dh⟩:=nmd (zc1 n zs os vs ko kv fine R L);rw[dh.X];have Rd:=@run_makeMap zh;have C0:Zb (CP w ((w.alloc (zg #[ze zd n,za a zs.length ac,za ao ko co,za av kv cv,ze zd fine] 30)).alloc (zg #[za ra R.length rc,za la L.length lc] 33)) _ _):=CP.new w _ _;obtain⟨c0,c1,c2,c3,c4⟩:=za7 C0.2.1;obtain⟨d0,d1⟩:=za1 C0.2.2;go_enter Tryz.func47,Tryz.ntmps47
 go_wp2_with fail
 clear c0 c1 c2 c3 c4 d0 d1;generalize(w.alloc _).alloc _=W0 at*;refine(zX6 n fine a ao av ra ac ko co kv cv rc zs os vs R W0 (HA.below C0.1) (HO.below C0.1) (HV.below C0.1) (HR.below C0.1) aF.X aE.X aA aB HN.X HI.X bt.X HC.X).mono ?_;rintro e w1 ⟨hb,⟨rfl,aP⟩|⟨rfl,aP⟩⟩
 ·have OK:Zb (zi4 n zs os vs ko kv R R.length):=aP
  have C1:=za4 (C0.below hb);clear hb aP C0;have S0:=za4 (zk8.made w1);have C2:Zb (CP w (w1.alloc (.map #[] 0)) _ _):=C1.below (zP _);obtain⟨d0,d1⟩:=za1 C2.2.2
  go_wp2_with fail
  clear d0 d1;have hB:=C1.1.size;generalize hZ:w1.alloc (.map #[] 0)=W2 at*;generalize w1.heap.size=B at*;clear hZ C1;refine(zQ9 B ra la rc lc R L W2 (HR.below C2.1) (HL.below C2.1) S0.X HN.X HI.X ee.X iY.X (fun x hx=>yA9 HC.X (zM7 (zT _) OK.X x hx)) iM.X).mono ?_;rintro e w3 ⟨hg,⟨rfl,iU,wy⟩|⟨rfl,iU⟩⟩
  ·have C3:Zb (CP w w3 _ _):=C2.grown S0.X hB hg
   have ON:=za4 iU;have S3:=za4 wy;clear hg iU wy C2 S0 hB;obtain⟨c0,c1,c2,c3,c4⟩:=za7 C3.2.1;obtain⟨d0,d1⟩:=za1 C3.2.2
   go_wp2_with fail
   clear c0 c1 c2 c3 c4 d0 d1;refine(yr4 n fine a ao av la ac ko co kv cv lc B zs os vs L (zb0 R R.length) w3 (HO.below C3.1) (HL.below C3.1) S3.X ON.1 aF.X aA ee.X iY.X HC.X).mono ?_;rintro e w4 ⟨hb,⟨rfl,h1,h2⟩|⟨rfl,h1⟩⟩
   ·have HB:Zb _:=C3.1.trans (hb.mono C3.1.size)
    have HE:Zb _:=dh.symm.trans (zS9 HC.X OK.X ON.X h1 h2);clear hb h1 h2;go_wp2;go_ret;exact⟨by rw[HE.X];rfl,HB.X⟩
   ·have HB:Zb _:=C3.1.trans (hb.mono C3.1.size)
    have HE:Zb _:=dh.symm.trans (zT5 HC.X OK.X ON.X h1);clear hb h1;go_wp2;go_ret;exact⟨by rw[HE.X];rfl,HB.X⟩
  ·have C3:Zb (CP w w3 _ _):=C2.grown S0.X hB hg
   have HE:Zb _:=dh.symm.trans (y27 HC.X OK.X iU);clear hg iU;go_wp2;go_ret;exact⟨by rw[HE.X];rfl,C3.1⟩
 ·have HB:Zb _:=C0.1.trans (hb.mono C0.1.size)
  have HE:Zb _:=dh.symm.trans (zO4 HC.X aP);clear hb aP;go_wp2;go_ret;exact⟨by rw[HE.X];rfl,HB.X⟩
theorem zO5(n fine:Int)(a ao av ra la:Option Addr)(ac ko co kv cv rc lc:Nat)(zs os vs L:List Int)(R:List RT)(w:zi)(hA:za3 w a zs)(hO:za3 w ao os)(hV:za3 w av vs)(hR:za9 w ra R)(hL:za3 w la L)(an:os.length=ko*6)(au:vs.length=kv*5)(aA:ko<=9223372036854775807)(aB:kv<=9223372036854775807)(hn:R.length<=1048576)(hi:∀r∈R,r.ids.length<=1048576)(eg:∀r∈R,r.ids.length<=r.c)(dg:L.length<=1048576)(cS:(zb0 R R.length).length<=1048576)(ii:zd0 n zs os vs ko kv fine=true->∀x∈L,(zD zd x).wf=true):
 Calls zh 12 #[.agg #[ze zd n,za a zs.length ac,za ao ko co,za av kv cv,ze zd fine],.agg #[za ra R.length rc,za la L.length lc]] w fun e w'=>e=.returned (ze zd (zc1 n zs os vs ko kv fine R L))/\Za w.heap.size w w':=by
 have HA:=za4 hA;have HO:=za4 hO;have HV:=za4 hV;have HR:=za4 hR;have HL:=za4 hL;have aF:Zb _:=an;have aE:Zb _:=au;have HN:Zb _:=hn;have ee:Zb _:=dg;have iY:Zb _:=cS;have HI:Zb _:=hi;have bt:Zb _:=eg;have iM:Zb _:=ii;clear hA hO hV hR hL an au hi eg ii hn dg cS;obtain⟨v,dh⟩:=nmd (zc1 n zs os vs ko kv fine R L);rw[dh.X];have C0:Zb (CP w ((w.alloc (zg #[ze zd n,za a zs.length ac,za ao ko co,za av kv cv,ze zd fine] 30)).alloc (zg #[za ra R.length rc,za la L.length lc] 33)) _ _):=CP.new w _ _;obtain⟨c0,c1,c2,c3,c4⟩:=za7 C0.2.1;go_enter Tryz.func12,Tryz.ntmps12
 go_wp2_with fail
 clear c0 c1 c2 c3 c4;generalize(w.alloc _).alloc _=W0 at*;refine(zX1 n fine a ao av ac ko co kv cv zs os vs W0 (HA.below C0.1) (HO.below C0.1) (HV.below C0.1) aF.X aE.X aA aB).mono ?_;rintro e w1 ⟨rfl,hb⟩;have C1:=za4 (C0.below hb);clear hb C0;by_cases hc:zd0 n zs os vs ko kv fine=true
 ·have HC:Zb _:=hc
  rw[hc];clear hc;obtain⟨c0,c1,c2,c3,c4⟩:=za7 C1.2.1;obtain⟨d0,d1⟩:=za1 C1.2.2
  go_wp2_with fail
  clear c0 c1 c2 c3 c4 d0 d1;refine(zA8 n fine a ao av ra la ac ko co kv cv rc lc zs os vs L R w1 (HA.below C1.1) (HO.below C1.1) (HV.below C1.1) (HR.below C1.1) (HL.below C1.1) aF.X aE.X aA aB HN.X HI.X bt.X ee.X iY.X (iM.X HC.X) HC.X).mono ?_;rintro e w2 ⟨rfl,hb⟩;have HB:Zb _:=C1.1.trans (hb.mono C1.1.size);clear hb;rw[dh.X];go_wp2;go_ret;exact⟨rfl,HB.X⟩
 ·have cw:zd0 n zs os vs ko kv fine=false:=by simpa using hc
  have HE:Zb _:=dh.symm.trans (ys7 cw);rw[cw];clear hc cw;go_wp2;go_ret;exact⟨by rw[HE.X];rfl,C1.1⟩
theorem zx4(n fine:Int)(a ao av ra la:Option Addr)(ac ko co kv cv rc lc:Nat)(zs os vs L:List Int)(R:List RT)(w:zi)(hA:za3 w a zs)(hO:za3 w ao os)(hV:za3 w av vs)(hR:za9 w ra R)(hL:za3 w la L)(an:os.length=ko*6)(au:vs.length=kv*5)(aA:ko<=9223372036854775807)(aB:kv<=9223372036854775807)(hn:R.length<=1048576)(hi:∀r∈R,r.ids.length<=1048576)(eg:∀r∈R,r.ids.length<=r.c)(dg:L.length<=1048576)(cS:(zb0 R R.length).length<=1048576)(ii:∀x∈L,(zD zd x).wf=true):
 Calls zh 12 #[.agg #[ze zd n,za a zs.length ac,za ao ko co,za av kv cv,ze zd fine],.agg #[za ra R.length rc,za la L.length lc]] w fun e w'=>e=.returned (ze zd (zc1 n zs os vs ko kv fine R L))/\Za w.heap.size w w':=by
 exact zO5 n fine a ao av ra la ac ko co kv cv rc lc zs os vs L R w hA hO hV hR hL an au aA aB hn hi eg dg cS (fun _=>ii)
end Go.Proofs.YtkchnomkiboihaaGreat
namespace Go.Proofs.YtkchnomkiboihaaGreat
open RowKit renaming Below→Za,Hid→Zb
open Value renaming slice→za,int→ze,ownBlock→zm
open IntKind renaming i64→zd
open Obj renaming cells→zg
open Proofs.Tryz renaming prog→zh
open Go renaming World→zi
open World renaming setCell→zj
open Go.RowKit
open Q
theorem zr8(w:zi){ap:Array Oper}{rest:List Oper}{o:Oper}{a:Act}{Q:Exit->Act->zi->Prop}
 (hg:o.guard=none) (s x:Operand) (du:o.op=Op.call {callee:=Callee.builtin Builtin.append,args:=#[s,x],argTypes:=#[24,24]})
 (base:Nat) (v:Value) (k:Nat) (xs:List Value) (hs:a.eval s=v) (ae:w.ownsRow base 2 1 v k xs) (ad:Addr) (c:Nat) (x0:Value) (hx:a.eval x=za (some ad) 1 c)
 (hc:w.cell? ad=some x0) (jV:x0.oneCell'=true) (b1:k<=1048576) (hb:base<=w.heap.size)
 (hK:∀v' w',w'.ownsRow base 2 1 v' (k+1) (xs++[x0])->w.grownBy w' v.ownBlock->wpList zh ap Q rest (a.put o.dst v') w'):
 wpList zh ap Q (o::rest) a w:=by
 obtain⟨i0,hi,bN,ba,bR⟩:=qx Tryz.info2;exact wpList_append_own w hg s x _ du base _ i0 _ 1 8 qb hi bN ba bR rfl (by decide) v k xs hs ae ad 1 c [x0] hx rfl (zP4 hc) (by simpa using jV) (by unfold maxLen;omega) (by omega) hb (fun v' w' h1 h2 _=>hK v' w' h1 h2)
theorem zm5{w:zi}{base size n k:Nat}{e T:TypeId}{v:Value}{xs:List Value}{cs:Array Value}{q:Nat×Nat}(h:w.ownsRow base e size v n xs)(hr:w.heap[k]? =some (.cells cs T q))(hT:T≠e):some k≠v.ownBlock:=fun he=>by
 rcases h.2 with⟨rfl,_⟩|⟨g,c,az,rfl,_,hg,_⟩
 ·cases he
 ·simp[zm]at he
  rw[<-he,hr]at hg;simp at hg;exact hT hg.2.1
theorem CP.grow{w W W':zi}{cs ps:Array Value}{base size n:Nat}{v:Value}{xs:List Value}(h:CP w W cs ps)(ho:W.ownsRow base 2 size v n xs)(hb:w.heap.size<=base)(hg:W.grownBy W' v.ownBlock):CP w W' cs ps:=by
 refine⟨h.1.grown hg h.1.size (fun j e=> ?_),za6 hg h.2.1 (zm5 ho h.2.1 (by decide)),za6 hg h.2.2 (zm5 ho h.2.2 (by decide))⟩;rcases ho.2 with⟨rfl,_⟩|⟨g,c,az,rfl,hl,_⟩
 ·cases e
 ·simp[zm]at e
  omega
theorem CP.alloc{w W:zi}{cs ps:Array Value}(h:CP w W cs ps)(o:Obj):CP w (W.alloc o) cs ps:=h.below (zP _)
theorem CP.drew{w W:zi}{cs ps:Array Value}(h:CP w W cs ps):CP w W.drew cs ps:=h.below (y5 _ _).drew
theorem CP.big{w W:zi}{cs ps:Array Value}(h:CP w W cs ps):w.heap.size+1<W.heap.size:=za2 h.2.2
theorem CP.set{w W:zi}{cs ps:Array Value}(h:CP w W cs ps){k i:Nat}{v:Value}(hk:w.heap.size+1<k):CP w (W.setCell ⟨k,i,none⟩ v) cs ps:=
 ⟨h.1.setCell (by simp;omega) _,by rw[xy _ _ _ _ (by simp;omega)];exact h.2.1,by rw[xy _ _ _ _ (by simp;omega)];exact h.2.2⟩
theorem zU9(w1:zi):(w1.alloc (zg #[] 2)).ownsRow w1.heap.size 2 1 (za (some ⟨w1.heap.size,0,none⟩) 0 0) 0 (([]:List Int).map (ze zd)):=
 ⟨rfl,.inr ⟨w1.heap.size,0,#[],rfl,zT _,zS _ _,zT _,by unfold maxLen;omega,rfl,rfl⟩⟩
def Tw(tw:Bool)(l:List Int):Prop:=tw=true↔¬l.Nodup
theorem Tw.nil:Tw false []:=by simp[Tw]
theorem Tw.step{tw:Bool}{l:List Int}(h:Tw tw l)(x:Int):Tw (tw||decide (x∈l)) (l++[x]):=by
 unfold Tw at*;rw[z01];cases tw
 ·have:l.Nodup:=by
   by_cases hn:l.Nodup
   ·exact hn
   ·exact absurd (h.2 hn) (by simp)
  simp[this]
 ·have:=h.1 rfl
  simp[this]
def TwL(tw:Bool)(fl L:List Int)(j:Nat):Prop:=tw=true↔¬(fl.Nodup/\∀i,i<j->L.getD i 0∉fl)
theorem TwL.start{tw:Bool}{fl:List Int}(h:Tw tw fl)(L:List Int):TwL tw fl L 0:=by
 unfold TwL;unfold Tw at h;rw[h];constructor
 ·intro h1 h2;exact h1 h2.1
 ·intro h1 h2;exact h1 ⟨h2,fun i hi=>by omega⟩
theorem TwL.step{tw:Bool}{fl L:List Int}{j:Nat}(h:TwL tw fl L j):TwL (tw||decide (L.getD j 0∈fl)) fl L (j+1):=by
 unfold TwL at*;cases tw
 ·have h0:fl.Nodup/\∀i,i<j->L.getD i 0∉fl:=by
   by_cases hn:fl.Nodup/\∀i,i<j->L.getD i 0∉fl
   ·exact hn
   ·exact absurd (h.2 hn) (by simp)
  by_cases hm:L.getD j 0∈fl
  ·rw[zW hm]
   exact⟨fun _ hx=>hx.2 j (by omega) hm,fun _=>rfl⟩
  ·rw[zX hm]
   refine⟨fun h=>(by cases h),fun hx=>absurd ⟨h0.1,fun i hi=> ?_⟩ hx⟩;by_cases e:i=j
   ·rw[e];exact hm
   ·exact h0.2 i (by omega)
 ·have:=h.1 rfl
  exact⟨fun _ hx=>this ⟨hx.1,fun i hi=>hx.2 i (by omega)⟩,fun _=>rfl⟩
theorem TwL.done{tw:Bool}{fl L:List Int}(h:TwL tw fl L L.length):tw=true↔¬yb4 fl L:=by
 unfold TwL at h;rw[h];unfold yb4;constructor
 ·intro h1 h2
  exact h1 ⟨h2.1,fun i hi=>h2.2 _ (by rw[zQ,zR hi];simp)⟩
 ·intro h1 h2
  refine h1 ⟨h2.1,fun x hx=> ?_⟩;obtain⟨j,hj,e⟩:=xU hx;have:=h2.2 j hj;rw[zQ,zR hj]at this;rw[<-e];exact this
theorem zj2(n fine:Int)(a ao av ra la:Option Addr)(ac ko co kv cv rc lc:Nat)(zs os vs L:List Int)(R:List RT)(w:zi)(hA:za3 w a zs)(hO:za3 w ao os)(hV:za3 w av vs)(hR:za9 w ra R)(hL:za3 w la L)(an:os.length=ko*6)(au:vs.length=kv*5)(aA:ko<=9223372036854775807)(aB:kv<=9223372036854775807)(hn:R.length<=1048576)(hi:∀r∈R,r.ids.length<=1048576)(eg:∀r∈R,r.ids.length<=r.c)(dg:L.length<=1048576)(cS:(zb0 R R.length).length<=1048576):
 Calls zh 38 #[.agg #[ze zd n,za a zs.length ac,za ao ko co,za av kv cv,ze zd fine],.agg #[za ra R.length rc,za la L.length lc]] w fun e w'=>e=.returned (ze zd (zc1 n zs os vs ko kv fine R L))/\Za w.heap.size w w':=by
 have HA:=za4 hA;have HO:=za4 hO;have HV:=za4 hV;have HR:=za4 hR;have HL:=za4 hL;have aF:Zb _:=an;have aE:Zb _:=au;have iY:Zb _:=cS;have HI:=za4 hi;have bt:=za4 eg;clear hA hO hV hR hL an au hi eg cS;obtain⟨v,dh⟩:=nmd (zc1 n zs os vs ko kv fine R L);rw[dh.X];obtain⟨m,HN⟩:=nmd R.length;obtain⟨ml,HM⟩:=nmd L.length;rw[HN.X]at hn⊢;rw[HM.X]at dg⊢;have C0:Zb (CP w ((w.alloc (zg #[ze zd n,za a zs.length ac,za ao ko co,za av kv cv,ze zd fine] 30)).alloc (zg #[za ra m rc,za la ml lc] 33)) _ _):=CP.new w _ _;obtain⟨c0,c1,c2,c3,c4⟩:=za7 C0.2.1;go_enter Tryz.func38,Tryz.ntmps38
 go_wp2_with fail
 clear c0 c1 c2 c3 c4;generalize(w.alloc _).alloc _=W0 at*;refine(zy0 n fine a ao av ac ko co kv cv zs os vs W0 (HA.below C0.1) (HO.below C0.1) (HV.below C0.1) aF.X aE.X aA aB).mono ?_;rintro e w1 ⟨rfl,hb⟩;have C1:=za4 (C0.below hb);clear hb C0;by_cases cw:zd0 n zs os vs ko kv fine=false
 ·have HE:Zb (v=1):=dh.symm.trans (ys7 cw)
  rw[cw];clear cw;go_wp2;go_ret;exact⟨by rw[HE.X];rfl,C1.1⟩
 have fJ:zd0 n zs os vs ko kv fine=true:=by simpa using cw
 have HC:=za4 fJ;rw[HC.X];clear cw fJ;have lh:Zb (w.heap.size<=w1.heap.size):=C1.1.size;have O0:=za4 (zU9 w1);have C2:Zb (CP w (w1.alloc (zg #[] 2)) #[ze zd n,za a zs.length ac,za ao ko co,za av kv cv,ze zd fine] #[za ra m rc,za la ml lc]):=C1.below (zP _);have jp:Zb (w1.heap.size<=(w1.alloc (zg #[] 2)).heap.size):=by show _<=_;simp
 go_wp2_with fail
 generalize hZ:w1.alloc (zg #[] 2)=W2 at*;generalize w1.heap.size=base at*;clear hZ C1;go_loopw[5,6,7] (fun ts tt ti wr=>∃(k:Nat) (tw:Bool),k<=m/\ti=ze zd k/\tt=.bool tw/\Tw tw (zb0 R k)/\zi4 n zs os vs ko kv R k/\wr.ownsRow base 2 1 ts (zb0 R k).length ((zb0 R k).map (ze zd))/\CP w wr #[ze zd n,za a zs.length ac,za ao ko co,za av kv cv,ze zd fine] #[za ra m rc,za la ml lc]/\base<=wr.heap.size) (fun _ _ ti _=>m - (intOf ti).toNat)
 case atStart=>exact⟨0,false,xi _,rfl,rfl,by rw[zk0];exact Tw.nil,zi4.zero _ _ _ _ _ _ _,by rw[zk0];exact O0.X,C2.X,jp.X⟩
 case round=>
  clear C2 O0 jp;obtain⟨k,tw,hk,rfl,rfl,ia,aP,ae,cP,bW⟩:=hrel;have TW:=za4 ia;have OK:=za4 aP;have OW:=za4 ae;have CW:=za4 cP;have SZ:=za4 bW;clear ia aP ae cP bW;by_cases ah:k<m
  ·have bu:k<R.length:=by rw[HN.X];exact ah
   have bI:R.getD k rt0∈R:=by rw[zQ,zR bu];simp
   have FF:=HR.below CW.1;obtain⟨b,off,rfl,h1,h2,h3⟩:=FF k bu;have iw:za3 w (R.getD k rt0).a (R.getD k rt0).ids:=by obtain⟨_,_,_,_,_,i⟩:=HR.X k bu;exact i
   have lN:=HI.X _ bI;have fX:Zb _:=bt.X _ bI;have gX:Zb ((R.getD k rt0).ids.length=0->v=2):=fun h=>dh.symm.trans (zO4 HC.X (HN.X▸fun H=>(H k ah).2.1 (xE h)));have jq:Zb (codeV true n zs os vs ko kv (R.getD k rt0).v (R.getD k rt0).ids≠0->v=2):=fun h=>dh.symm.trans (zO4 HC.X (HN.X▸fun H=>h (H k ah).2.2));have fj:Zb (0<k->¬(R.getD (k - 1) rt0).v<(R.getD k rt0).v->v=2):=fun h0 h=>dh.symm.trans (zO4 HC.X (HN.X▸fun H=>h ((H k ah).1 h0)));have bO:Zb ((0<k->(R.getD (k - 1) rt0).v<(R.getD k rt0).v)->¬(R.getD k rt0).ids.length=0->codeV true n zs os vs ko kv (R.getD k rt0).v (R.getD k rt0).ids=0->zi4 n zs os vs ko kv R (k+1)):=fun h1 h2 h3=>OK.step h1 (fun e=>h2 (by rw[e];rfl)) h3
   have nZ:=za4 (zf9 bu);have k_:Zb (∀j,j<=(R.getD k rt0).ids.length->(zb0 R k++(R.getD k rt0).ids.take j).length<=1048576):=fun j hj=>xj (zL4 bu hj) iY.X;obtain⟨r,de⟩:=nmd (R.getD k rt0);rw[de.X]at h1 h2 h3 iw lN fX gX jq fj bO nZ k_;have dq:0<k->∃p,(R.getD (k - 1) rt0).v=p/\wr.cell? ⟨b,off+(k - 1)*2,none⟩=some (ze zd p):=fun h0=>by
    obtain⟨b',aR,e,Nh,_,_⟩:=FF (k - 1) (by omega);simp at e;obtain⟨rfl,rfl⟩:=e;exact⟨_,rfl,Nh⟩
   have cG:Zb _:=dq;obtain⟨iI,pX⟩:=nmd r.a;rw[pX.X]at h2 h3 iw;have IR:=za4 h3;have IW:=za4 iw;clear h3 iw bI FF dq bu;obtain⟨q,HQ⟩:=nmd r.ids.length;rw[HQ.X]at h2 lN fX gX bO k_;obtain⟨d0,d1⟩:=za1 CW.2.2
   go_wp2_with fail
   clear d0 d1;have BX:Zb (Za wr.heap.size wr (wr.alloc (zg #[ze zd r.v,za iI q r.c] 80))):=zP _;have GX:Zb ((wr.alloc (zg #[ze zd r.v,za iI q r.c] 80)).heap[wr.heap.size]? =_):=zS _ _;generalize(wr.alloc _)=W1 at*;have CX:=za4 (CW.below BX.X);have IX:=za4 (IR.below BX.X);have Cs:=za4 (zb9 OW.X BX.X);have SX:Zb (base<=W1.heap.size):=xj SZ.X BX.size;have Fc:Zb (0<k->∃p,(R.getD (k - 1) rt0).v=p/\W1.cell? ⟨b,off+(k - 1)*2,none⟩=some (ze zd p)):=fun h0=>by
    obtain⟨p,e,hc⟩:=cG.X h0;exact⟨p,e,(BX.cell (p:=⟨b,off+(k - 1)*2,none⟩) (zV hc)).trans hc⟩
   generalize wr.heap.size=g8 at*;clear h1 h2 CW IR OW SZ cG BX;obtain⟨c0,c1,c2,c3,c4⟩:=za7 CX.2.1;obtain⟨d0,d1⟩:=za1 CX.2.2;obtain⟨x0,x1⟩:=za1 GX.X;have s0:=fun s:Kin W1=>s.cell c0;have s1:=fun s:Kin W1=>s.cell c1;have s2:=fun s:Kin W1=>s.cell c2;have s3:=fun s:Kin W1=>s.cell c3;have s4:=fun s:Kin W1=>s.cell c4;have t0:=fun s:Kin W1=>s.cell d0;have y0:=fun s:Kin W1=>s.cell x0;have y1:=fun s:Kin W1=>s.cell x1;clear c0 c1 c2 c3 c4 d0 d1 x0 x1;have lu:Zb (∀(s:Kin W1) (vb:Bool),decide (codeV true n zs os vs ko kv r.v r.ids=0)=vb->Calls zh 86 #[.agg #[ze zd n,za a zs.length ac,za ao ko co,za av kv cv,ze zd fine],.agg #[ze zd r.v,za iI q r.c]] s.w fun e w'=>e=.returned (.bool vb)/\∃s':Kin W1,w'=s'.w):=fun s vb eZ=>by
    have:=z36 n fine r.v a ao av iI ac ko co kv cv r.c zs os vs r.ids s.w ((HA.below CX.1).below s.below) ((HO.below CX.1).below s.below) ((HV.below CX.1).below s.below) (IX.below s.below) aF.X aE.X aA aB (by rw[HQ.X];omega) (by rw[HQ.X];exact fX.X) vb (by rw[HC.X];exact eZ);rw[HQ.X]at this;exact Kin.call this
   have aV:=Kin.there W1;have fU:Zb ((0<k->(R.getD (k - 1) rt0).v<r.v)∨(0<k/\¬(R.getD (k - 1) rt0).v<r.v)):=by
    show _∨_;by_cases h0:0<k
    ·by_cases h:(R.getD (k - 1) rt0).v<r.v
     ·exact .inl fun _=>h
     ·exact .inr ⟨h0,h⟩
    ·exact .inl fun h=>absurd h h0
   by_cases eC:0<k
   ·obtain⟨p,C_,eD⟩:=Fc.X eC
    have Eb:=za4 C_;have tp:=fun s:Kin W1=>s.cell eD;have iu:k - 1<m:=by omega
    have iX:IntKind.i64.wrap ((k:Int) - 1)=((k - 1:Nat):Int):=by rw[xu];omega
    clear C_ eD;by_cases hp:p<r.v
    ·have AW:decide (r.v<=p)=false:=by simp;omega
     by_cases hq:q=0
     ·have HE:Zb (v=2):=gX.X hq
      have jB:((q:Int)==0)=true:=by simp[hq]
      refine zb1 (by kernel_rfl) (by kernel_rfl) ?_
      repeat(go_big_quiet_step (fail))
      refine xA ?_;rintro _ ⟨s,rfl⟩;have C3:=za4 (CX.below s.below);generalize s.w=w3 at*;go_wp2;go_ret;exact⟨by rw[HE.X];rfl,C3.1⟩
     ·have jB:((q:Int)==0)=false:=by simp;omega
      obtain⟨b2,cY,rfl,-⟩:=IW.X 0 (by rw[HQ.X];omega);by_cases aG:¬codeV true n zs os vs ko kv r.v r.ids=0
      ·have HE:Zb (v=2):=jq.X aG
       have m3:Zb _:=aG;clear aG;refine zb1 (by kernel_rfl) (by kernel_rfl) ?_
       repeat(go_big_quiet_step ((go_at_call 86;exact lu.X _ _ (zX m3.X))))
       refine xA ?_;rintro _ ⟨s,rfl⟩;have C3:=za4 (CX.below s.below);generalize s.w=w3 at*;go_wp2;go_ret;exact⟨by rw[HE.X];rfl,C3.1⟩
      ·have aG:=Decidable.not_not.1 aG
       have wG:Zb (zi4 n zs os vs ko kv R (k+1)):=bO.X (fun _=>by rw[Eb.X];exact hp) hq aG;have m3:Zb _:=aG;clear aG;refine zb1 (by kernel_rfl) (by kernel_rfl) ?_
       repeat(go_big_quiet_step ((go_at_call 86;exact lu.X _ _ (zW m3.X))))
       refine xA ?_;rintro _ ⟨s,rfl⟩;have C3:=za4 (CX.below s.below);have G3:=za4 (za0 s.below (za2 GX.X) GX.X);have I3:=za4 (IX.below s.below);have O3:=za4 (zb9 Cs.X s.below);have Z3:=za4 (xj SX.X s.below.size);generalize s.w=w3 at*;clear s0 s1 s2 s3 s4 t0 y0 y1 CX GX IX Cs SX lu aV bO gX jq fj fX Fc hq jB aG m3 fU OK I3;clear tp iu iX hp AW eC Eb
       go_wp2_with fail
       go_loopw[5,6,9] (fun ts tt ti wr=>∃(j:Nat) (tw:Bool),j<=q/\ti=ze zd j/\tt=.bool tw/\Tw tw (zb0 R k++r.ids.take j)/\wr.ownsRow base 2 1 ts (zb0 R k++r.ids.take j).length ((zb0 R k++r.ids.take j).map (ze zd))/\CP w wr #[ze zd n,za a zs.length ac,za ao ko co,za av kv cv,ze zd fine] #[za (some ⟨b,off,none⟩) m rc,za la ml lc]/\base<=wr.heap.size/\wr.heap[g8]? =some (zg #[ze zd r.v,za (some ⟨b2,cY,none⟩) q r.c] 80 (0,0))) (fun _ _ ti _=>q - (intOf ti).toNat)
       case atStart=>exact⟨0,tw,xi _,rfl,rfl,by rw[qM,qe];exact TW.X,by rw[qM,qe];exact O3.X,C3.X,Z3.X,G3.X⟩
       case round=>
        clear C3 O3 Z3 G3 TW;obtain⟨j,lJ,hj,rfl,rfl,ia,ae,cP,bW,sy⟩:=hrel;have l6:=za4 bW;have pP:=za4 cP;have lF:=za4 sy;have kG:=za4 (k_.X j hj);by_cases hjq:j<q
        ·have jN:j<r.ids.length:=by rw[HQ.X];exact hjq
         have eH:Zb (zb0 R k++r.ids.take (j+1)=(zb0 R k++r.ids.take j)++[r.ids.getD j 0]):=by show _=_;rw[zf6 _ _ jN,yi]
         obtain⟨fl,e_⟩:=nmd (zb0 R k++r.ids.take j);obtain⟨id,bF⟩:=nmd (r.ids.getD j 0);rw[bF.X]at eH;have fJ:=zs7 (IW.below cP.1) jN bF.X;rw[e_.X]at ia ae kG eH;have ui:=za4 ia;obtain⟨sa,sc,rfl,EY,rC⟩:=zr4 ae;have j9:=za4 ae;have SI:=za4 rC;have jz:fl.length<=1048576:=kG.X;have nE:=za4 (zt3 fl id);clear ia ae cP bW sy rC EY jN kG;obtain⟨bb,rh⟩:=nmd (decide (id∈fl));rw[rh.X]at nE;have oJ:Zb (Tw (lJ||bb) (zb0 R k++r.ids.take (j+1))):=by
          have:=ui.step id;rw[rh.X]at this;rw[eH.X];exact this
         obtain⟨nf,mi⟩:=nmd fl.length;have dM:=z64 sa fl.length sc id fl wr bb nE.X SI.X (zT _) (by omega);rw[mi.X]at jz j9 dM⊢;obtain⟨x0,x1⟩:=za1 lF.X;cases lJ
         ·go_wp2_with(first
           |(go_at_call 87;refine dM.mono ?_;rintro e w' ⟨rfl,rfl⟩)
           |(at_builtin;refine zr8 _ rfl _ _ rfl base (za sa nf sc) nf _ rfl (j9.alloc _) _ _ (ze zd id) rfl (zq4 _ _ _ _ (by simp)) rfl (by omega) (xj l6.X (by simp)) ?_;intro v' w4 hown4 aI)
           |go_in)
          have CA:Zb (CP w _ #[ze zd n,za a zs.length ac,za ao ko co,za av kv cv,ze zd fine] #[za (some ⟨b,off,none⟩) m rc,za la ml lc]):=pP.below (zP (zg #[ze zd id] 2));have GA:Zb _:=za0 (zP (zg #[ze zd id] 2)) (za2 lF.X) lF.X;have CB:Zb (CP w w4 #[ze zd n,za a zs.length ac,za ao ko co,za av kv cv,ze zd fine] #[za (some ⟨b,off,none⟩) m rc,za la ml lc]):=CA.grow (j9.alloc _) lh.X aI;have GB:Zb (w4.heap[g8]? =_):=za6 aI GA.X (zm5 (j9.alloc _) GA.X (by decide));have ZB:Zb (base<=w4.heap.size):=by
           have h1:=aI.size;have h2:=l6.X;simp at h1;show _<=_;omega
          have OB:Zb (w4.ownsRow base 2 1 v' (zb0 R k++r.ids.take (j+1)).length ((zb0 R k++r.ids.take (j+1)).map (ze zd))):=by
           rw[eH.X,xY,x8,mi.X];exact hown4
          clear CA GA;go_roundw
          case rel=>exact⟨j+1,_,by omega,by go_num,rfl,oJ.X,OB.X,CB.X,ZB.X,GB.X⟩
          case measure=>simp[intOf];omega
         ·go_wp2_with(first
           |(at_builtin;refine zr8 _ rfl _ _ rfl base (za sa nf sc) nf _ rfl (j9.alloc _) _ _ (ze zd id) rfl (zq4 _ _ _ _ (by simp)) rfl (by omega) (xj l6.X (by simp)) ?_;intro v' w4 hown4 aI)
           |go_in)
          have CA:Zb (CP w _ #[ze zd n,za a zs.length ac,za ao ko co,za av kv cv,ze zd fine] #[za (some ⟨b,off,none⟩) m rc,za la ml lc]):=pP.below (zP (zg #[ze zd id] 2));have GA:Zb _:=za0 (zP (zg #[ze zd id] 2)) (za2 lF.X) lF.X;have CB:Zb (CP w w4 #[ze zd n,za a zs.length ac,za ao ko co,za av kv cv,ze zd fine] #[za (some ⟨b,off,none⟩) m rc,za la ml lc]):=CA.grow (j9.alloc _) lh.X aI;have GB:Zb (w4.heap[g8]? =_):=za6 aI GA.X (zm5 (j9.alloc _) GA.X (by decide));have ZB:Zb (base<=w4.heap.size):=by
           have h1:=aI.size;have h2:=l6.X;simp at h1;show _<=_;omega
          have OB:Zb (w4.ownsRow base 2 1 v' (zb0 R k++r.ids.take (j+1)).length ((zb0 R k++r.ids.take (j+1)).map (ze zd))):=by
           rw[eH.X,xY,x8,mi.X];exact hown4
          clear CA GA;go_roundw
          case rel=>exact⟨j+1,_,by omega,by go_num,rfl,oJ.X,OB.X,CB.X,ZB.X,GB.X⟩
          case measure=>simp[intOf];omega
        ·have i9:j=q:=by omega
         have vO:Zb (zb0 R k++r.ids.take j=zb0 R (k+1)):=by
          show _=_;rw[nZ.X,i9,<-HQ.X,ym]
         rw[vO.X]at ia ae;have Bq:=za4 ia;have A6:=za4 ae;obtain⟨x0,x1⟩:=za1 lF.X;clear i9 ia ae cP bW sy;go_wp2
         first
          |exact⟨⟨k+1,lJ,by omega,by go_num,rfl,Bq.X,wG.X,A6.X,pP.X,l6.X⟩,by simp[intOf];omega⟩
          |(go_roundw
            case rel=>exact⟨k+1,lJ,by omega,by go_num,rfl,Bq.X,wG.X,A6.X,pP.X,l6.X⟩
            case measure=>simp[intOf];omega)
    ·have HE:Zb (v=2):=fj.X eC (by rw[Eb.X];first|exact hp|omega)
     have AW:decide (r.v<=p)=true:=by simp;omega
     refine zb1 (by kernel_rfl) (by kernel_rfl) ?_
     repeat(go_big_quiet_step (fail))
     refine xA ?_;rintro _ ⟨s,rfl⟩;have C3:=za4 (CX.below s.below);generalize s.w=w3 at*;go_wp2;go_ret;exact⟨by rw[HE.X];rfl,C3.1⟩
   ·have vA:(decide (0<k))=false:=by simp;omega
    have eB:k<=0:=by omega
    by_cases hq:q=0
    ·have HE:Zb (v=2):=gX.X hq
     have jB:((q:Int)==0)=true:=by simp[hq]
     refine zb1 (by kernel_rfl) (by kernel_rfl) ?_
     repeat(go_big_quiet_step (fail))
     refine xA ?_;rintro _ ⟨s,rfl⟩;have C3:=za4 (CX.below s.below);generalize s.w=w3 at*;go_wp2;go_ret;exact⟨by rw[HE.X];rfl,C3.1⟩
    ·have jB:((q:Int)==0)=false:=by simp;omega
     obtain⟨b2,cY,rfl,-⟩:=IW.X 0 (by rw[HQ.X];omega);by_cases aG:¬codeV true n zs os vs ko kv r.v r.ids=0
     ·have HE:Zb (v=2):=jq.X aG
      have m3:Zb _:=aG;clear aG;refine zb1 (by kernel_rfl) (by kernel_rfl) ?_
      repeat(go_big_quiet_step ((go_at_call 86;exact lu.X _ _ (zX m3.X))))
      refine xA ?_;rintro _ ⟨s,rfl⟩;have C3:=za4 (CX.below s.below);generalize s.w=w3 at*;go_wp2;go_ret;exact⟨by rw[HE.X];rfl,C3.1⟩
     ·have aG:=Decidable.not_not.1 aG
      have wG:Zb (zi4 n zs os vs ko kv R (k+1)):=bO.X (fun h=>absurd h eC) hq aG;have m3:Zb _:=aG;clear aG;refine zb1 (by kernel_rfl) (by kernel_rfl) ?_
      repeat(go_big_quiet_step ((go_at_call 86;exact lu.X _ _ (zW m3.X))))
      refine xA ?_;rintro _ ⟨s,rfl⟩;have C3:=za4 (CX.below s.below);have G3:=za4 (za0 s.below (za2 GX.X) GX.X);have I3:=za4 (IX.below s.below);have O3:=za4 (zb9 Cs.X s.below);have Z3:=za4 (xj SX.X s.below.size);generalize s.w=w3 at*;clear s0 s1 s2 s3 s4 t0 y0 y1 CX GX IX Cs SX lu aV bO gX jq fj fX Fc hq jB aG m3 fU OK I3;clear vA eB eC
      go_wp2_with fail
      go_loopw[5,6,9] (fun ts tt ti wr=>∃(j:Nat) (tw:Bool),j<=q/\ti=ze zd j/\tt=.bool tw/\Tw tw (zb0 R k++r.ids.take j)/\wr.ownsRow base 2 1 ts (zb0 R k++r.ids.take j).length ((zb0 R k++r.ids.take j).map (ze zd))/\CP w wr #[ze zd n,za a zs.length ac,za ao ko co,za av kv cv,ze zd fine] #[za (some ⟨b,off,none⟩) m rc,za la ml lc]/\base<=wr.heap.size/\wr.heap[g8]? =some (zg #[ze zd r.v,za (some ⟨b2,cY,none⟩) q r.c] 80 (0,0))) (fun _ _ ti _=>q - (intOf ti).toNat)
      case atStart=>exact⟨0,tw,xi _,rfl,rfl,by rw[qM,qe];exact TW.X,by rw[qM,qe];exact O3.X,C3.X,Z3.X,G3.X⟩
      case round=>
       clear C3 O3 Z3 G3 TW;obtain⟨j,lJ,hj,rfl,rfl,ia,ae,cP,bW,sy⟩:=hrel;have l6:=za4 bW;have pP:=za4 cP;have lF:=za4 sy;have kG:=za4 (k_.X j hj);by_cases hjq:j<q
       ·have jN:j<r.ids.length:=by rw[HQ.X];exact hjq
        have eH:Zb (zb0 R k++r.ids.take (j+1)=(zb0 R k++r.ids.take j)++[r.ids.getD j 0]):=by show _=_;rw[zf6 _ _ jN,yi]
        obtain⟨fl,e_⟩:=nmd (zb0 R k++r.ids.take j);obtain⟨id,bF⟩:=nmd (r.ids.getD j 0);rw[bF.X]at eH;have fJ:=zs7 (IW.below cP.1) jN bF.X;rw[e_.X]at ia ae kG eH;have ui:=za4 ia;obtain⟨sa,sc,rfl,EY,rC⟩:=zr4 ae;have j9:=za4 ae;have SI:=za4 rC;have jz:fl.length<=1048576:=kG.X;have nE:=za4 (zt3 fl id);clear ia ae cP bW sy rC EY jN kG;obtain⟨bb,rh⟩:=nmd (decide (id∈fl));rw[rh.X]at nE;have oJ:Zb (Tw (lJ||bb) (zb0 R k++r.ids.take (j+1))):=by
         have:=ui.step id;rw[rh.X]at this;rw[eH.X];exact this
        obtain⟨nf,mi⟩:=nmd fl.length;have dM:=z64 sa fl.length sc id fl wr bb nE.X SI.X (zT _) (by omega);rw[mi.X]at jz j9 dM⊢;obtain⟨x0,x1⟩:=za1 lF.X;cases lJ
        ·go_wp2_with(first
          |(go_at_call 87;refine dM.mono ?_;rintro e w' ⟨rfl,rfl⟩)
          |(at_builtin;refine zr8 _ rfl _ _ rfl base (za sa nf sc) nf _ rfl (j9.alloc _) _ _ (ze zd id) rfl (zq4 _ _ _ _ (by simp)) rfl (by omega) (xj l6.X (by simp)) ?_;intro v' w4 hown4 aI)
          |go_in)
         have CA:Zb (CP w _ #[ze zd n,za a zs.length ac,za ao ko co,za av kv cv,ze zd fine] #[za (some ⟨b,off,none⟩) m rc,za la ml lc]):=pP.below (zP (zg #[ze zd id] 2));have GA:Zb _:=za0 (zP (zg #[ze zd id] 2)) (za2 lF.X) lF.X;have CB:Zb (CP w w4 #[ze zd n,za a zs.length ac,za ao ko co,za av kv cv,ze zd fine] #[za (some ⟨b,off,none⟩) m rc,za la ml lc]):=CA.grow (j9.alloc _) lh.X aI;have GB:Zb (w4.heap[g8]? =_):=za6 aI GA.X (zm5 (j9.alloc _) GA.X (by decide));have ZB:Zb (base<=w4.heap.size):=by
          have h1:=aI.size;have h2:=l6.X;simp at h1;show _<=_;omega
         have OB:Zb (w4.ownsRow base 2 1 v' (zb0 R k++r.ids.take (j+1)).length ((zb0 R k++r.ids.take (j+1)).map (ze zd))):=by
          rw[eH.X,xY,x8,mi.X];exact hown4
         clear CA GA;go_roundw
         case rel=>exact⟨j+1,_,by omega,by go_num,rfl,oJ.X,OB.X,CB.X,ZB.X,GB.X⟩
         case measure=>simp[intOf];omega
        ·go_wp2_with(first
          |(at_builtin;refine zr8 _ rfl _ _ rfl base (za sa nf sc) nf _ rfl (j9.alloc _) _ _ (ze zd id) rfl (zq4 _ _ _ _ (by simp)) rfl (by omega) (xj l6.X (by simp)) ?_;intro v' w4 hown4 aI)
          |go_in)
         have CA:Zb (CP w _ #[ze zd n,za a zs.length ac,za ao ko co,za av kv cv,ze zd fine] #[za (some ⟨b,off,none⟩) m rc,za la ml lc]):=pP.below (zP (zg #[ze zd id] 2));have GA:Zb _:=za0 (zP (zg #[ze zd id] 2)) (za2 lF.X) lF.X;have CB:Zb (CP w w4 #[ze zd n,za a zs.length ac,za ao ko co,za av kv cv,ze zd fine] #[za (some ⟨b,off,none⟩) m rc,za la ml lc]):=CA.grow (j9.alloc _) lh.X aI;have GB:Zb (w4.heap[g8]? =_):=za6 aI GA.X (zm5 (j9.alloc _) GA.X (by decide));have ZB:Zb (base<=w4.heap.size):=by
          have h1:=aI.size;have h2:=l6.X;simp at h1;show _<=_;omega
         have OB:Zb (w4.ownsRow base 2 1 v' (zb0 R k++r.ids.take (j+1)).length ((zb0 R k++r.ids.take (j+1)).map (ze zd))):=by
          rw[eH.X,xY,x8,mi.X];exact hown4
         clear CA GA;go_roundw
         case rel=>exact⟨j+1,_,by omega,by go_num,rfl,oJ.X,OB.X,CB.X,ZB.X,GB.X⟩
         case measure=>simp[intOf];omega
       ·have i9:j=q:=by omega
        have vO:Zb (zb0 R k++r.ids.take j=zb0 R (k+1)):=by
         show _=_;rw[nZ.X,i9,<-HQ.X,ym]
        rw[vO.X]at ia ae;have Bq:=za4 ia;have A6:=za4 ae;obtain⟨x0,x1⟩:=za1 lF.X;clear i9 ia ae cP bW sy;go_wp2
        first
         |exact⟨⟨k+1,lJ,by omega,by go_num,rfl,Bq.X,wG.X,A6.X,pP.X,l6.X⟩,by simp[intOf];omega⟩
         |(go_roundw
           case rel=>exact⟨k+1,lJ,by omega,by go_num,rfl,Bq.X,wG.X,A6.X,pP.X,l6.X⟩
           case measure=>simp[intOf];omega)
  ·have iu:k=m:=by omega
   have Eg:Zb (Tw tw (zb0 R m)):=iu▸TW.X;have Br:Zb (zi4 n zs os vs ko kv R R.length):=HN.symm▸iu▸OK.X;have H':=za4 (iu▸OW.X);clear iu TW OK OW;have wJ:Zb (zb0 R R.length=zb0 R m):=by show _=_;rw[HN.X]
   obtain⟨fl,e_⟩:=nmd (zb0 R m);rw[e_.X]at Eg H' wJ;obtain⟨sa,sc,rfl,-,rC⟩:=zr4 H'.X;have SI:=za4 rC;have jz:fl.length<=1048576:=by rw[<-wJ.X];exact iY.X
   clear rC H';obtain⟨nf,mi⟩:=nmd fl.length;rw[mi.X]at jz⊢;obtain⟨d0,d1⟩:=za1 CW.2.2
   go_wp2_with fail
   go_loop [6,10] (fun tt ti=>∃(j:Nat) (tw:Bool),j<=ml/\ti=ze zd j/\tt=.bool tw/\TwL tw fl L j) (fun _ ti=>ml - (intOf ti).toNat)
   case atStart=>exact⟨0,tw,xi _,rfl,rfl,TwL.start Eg.X L⟩
   case round=>
    clear Eg;obtain⟨j,lJ,hj,rfl,rfl,ia⟩:=hrel;have ui:=za4 ia;clear ia;by_cases jN:j<ml
    ·have uk:j<L.length:=by rw[HM.X];exact jN
     obtain⟨b2,cY,rfl,fJ⟩:=(HL.below CW.1) j uk;have oJ:=ui.step;obtain⟨id,bF⟩:=nmd (L.getD j 0);rw[bF.X]at fJ oJ;obtain⟨bb,rh⟩:=nmd (decide (id∈fl));rw[rh.X]at oJ;have vG:Zb _:=oJ;have dM:=z64 sa fl.length sc id fl wr bb ((zt3 fl id).trans rh.X) SI.X (zT _) (by rw[mi.X];omega);rw[mi.X]at dM;clear oJ uk;cases lJ
     ·go_wp2_with(go_at_call 87;refine dM.mono ?_;rintro e w' ⟨rfl,rfl⟩)
      exact⟨⟨j+1,_,by omega,by go_num,rfl,vG.X⟩,by simp[intOf];omega⟩
     ·go_wp2
      exact⟨⟨j+1,_,by omega,by go_num,rfl,vG.X⟩,by simp[intOf];omega⟩
    ·have ng:j=L.length:=by rw[HM.X];omega
     have Fy:Zb (lJ=true↔¬yb4 fl L):=TwL.done (ng▸ui.X);clear ng;cases lJ
     ·have ON:Zb (yb4 (zb0 R R.length) L):=by
       rw[wJ.X];show yb4 fl L;exact Classical.not_not.1 fun h=>by have:=Fy.2 h;cases this
      clear Fy ui
      go_wp2_with fail
      clear d0 d1;go_loopw[11] (fun ti wr=>∃j:Nat,j<=ml/\ti=ze zd j/\zg5 os ko L j/\CP w wr #[ze zd n,za a zs.length ac,za ao ko co,za av kv cv,ze zd fine] #[za ra m rc,za la ml lc]) (fun ti _=>ml - (intOf ti).toNat)
      case atStart=>exact⟨0,xi _,rfl,zg5.zero _ _ _,CW.X⟩
      case round=>
       clear CW SI hj jN;obtain⟨j,hj,rfl,an,cP⟩:=hrel;have LO:=za4 an;have gK:=za4 cP;clear an cP;by_cases jN:j<ml
       ·have uk:j<L.length:=by rw[HM.X];exact jN
        obtain⟨b2,cY,rfl,fJ⟩:=(HL.below gK.1) j uk;have KJ:=HL.below gK.1;have nO:Zb (zl7 os ko (L.getD j 0)=false->v=4):=fun h=>dh.symm.trans (zT5 HC.X Br.X ON.X (fun H=>by rw[(H.1 j uk).1]at h;cases h))
        have rV:Zb (0<j->¬L.getD (j - 1) 0<L.getD j 0->v=4):=fun h0 h=>dh.symm.trans (zT5 HC.X Br.X ON.X (fun H=>h ((H.1 j uk).2 h0)));have bO:Zb (zl7 os ko (L.getD j 0)=true->(0<j->L.getD (j - 1) 0<L.getD j 0)->zg5 os ko L (j+1)):=fun h1 h2=>LO.step h1 h2;obtain⟨id,bF⟩:=nmd (L.getD j 0);rw[bF.X]at fJ nO rV bO;have OG:=za4 KJ;obtain⟨o0,H0⟩:=nmd (zd1 os ko id 0);obtain⟨o1,H1⟩:=nmd (zd1 os ko id 1);obtain⟨o2,H2⟩:=nmd (zd1 os ko id 2);obtain⟨o3,H3⟩:=nmd (zd1 os ko id 3);obtain⟨o4,H4⟩:=nmd (zd1 os ko id 4);obtain⟨o5,H5⟩:=nmd (zd1 os ko id 5);obtain⟨tt,eN⟩:=nmd (zl7 os ko id);rw[eN.X]at nO bO;obtain⟨c0,c1,c2,c3,c4⟩:=za7 gK.2.1;obtain⟨d0,d1⟩:=za1 gK.2.2;clear KJ
        go_wp2_with fail
        have ip:=za4 fJ;have gZ:Zb ((wr.alloc (zg #[ze zd 0,ze zd 0,ze zd 0,ze zd 0,ze zd 0,ze zd 0] 103)).cell? ⟨b2,cY+j,none⟩=_):=(((y5 wr.heap.size wr).alloc (zT _) _).cell (p:=⟨b2,cY+j,none⟩) (zV fJ)).trans fJ;have cM:=zV fJ;simp at cM;have aD:=za2 gK.2.1;have dX:=za2 gK.2.2
        go_region_held3 (fun W=>W.cell? ⟨w.heap.size,0,none⟩=some (ze zd n)/\W.cell? ⟨w.heap.size,1,none⟩=some (za a zs.length ac)/\W.cell? ⟨w.heap.size,2,none⟩=some (za ao ko co)/\W.cell? ⟨w.heap.size,3,none⟩=some (za av kv cv)/\W.cell? ⟨w.heap.size,4,none⟩=some (ze zd fine)/\W.cell? ⟨w.heap.size+1,1,none⟩=some (za (some ⟨b2,cY,none⟩) ml lc)/\W.cell? ⟨b2,cY+j,none⟩=some (ze zd id)) (first|with_reducible exact kS|with_reducible exact⟨(za5 (za5 (za5 (za5 (za5 (za5 kS.1 (y8 aD)) (y8 aD)) (y8 aD)) (y8 aD)) (y8 aD)) (y8 aD)),(za5 (za5 (za5 (za5 (za5 (za5 kS.2.1 (y8 aD)) (y8 aD)) (y8 aD)) (y8 aD)) (y8 aD)) (y8 aD)),(za5 (za5 (za5 (za5 (za5 (za5 kS.2.2.1 (y8 aD)) (y8 aD)) (y8 aD)) (y8 aD)) (y8 aD)) (y8 aD)),(za5 (za5 (za5 (za5 (za5 (za5 kS.2.2.2.1 (y8 aD)) (y8 aD)) (y8 aD)) (y8 aD)) (y8 aD)) (y8 aD)),(za5 (za5 (za5 (za5 (za5 (za5 kS.2.2.2.2.1 (y8 aD)) (y8 aD)) (y8 aD)) (y8 aD)) (y8 aD)) (y8 aD)),(za5 (za5 (za5 (za5 (za5 (za5 kS.2.2.2.2.2.1 (y8 dX)) (y8 dX)) (y8 dX)) (y8 dX)) (y8 dX)) (y8 dX)),(za5 (za5 (za5 (za5 (za5 (za5 kS.2.2.2.2.2.2 (y8 cM)) (y8 cM)) (y8 cM)) (y8 cM)) (y8 cM)) (y8 cM))⟩|go_keep) ((first
         |(go_at_call 88
           with_reducible refine(zr7 n fine id a ao av _ ac ko co kv cv os wr.drew ?_ aF.X aA).mono ?_
           ·exact HO.below gK.drew.1
           rintro e w2 ⟨rfl,aC⟩;rw[H0.X,H1.X,H2.X,H3.X,H4.X,H5.X,eN.X];have aQ:=CP.below gK.drew aC;obtain⟨k0,k1,k2,k3,k4⟩:=za7 aQ.2.1;have k5:=(za1 aQ.2.2).2;have k6:=(aC.cell (p:=⟨b2,cY+j,none⟩) (zV ip.X)).trans ip.X;have kS:=xr k0 (xr k1 (xr k2 (xr k3 (xr k4 (xr k5 k6)))));have fB:=za4 aQ;clear aC aQ k0 k1 k2 k3 k4 k5 k6)
         |(go_at_call 88
           with_reducible refine(zr7 n fine id a ao av _ ac ko co kv cv os (wr.alloc (zg #[ze zd 0,ze zd 0,ze zd 0,ze zd 0,ze zd 0,ze zd 0] 103)).drew ?_ aF.X aA).mono ?_
           ·exact HO.below (CP.drew (CP.alloc gK.X (zg #[ze zd 0,ze zd 0,ze zd 0,ze zd 0,ze zd 0,ze zd 0] 103))).1
           rintro e w2 ⟨rfl,aC⟩;rw[H0.X,H1.X,H2.X,H3.X,H4.X,H5.X,eN.X];have aQ:=CP.below (CP.drew (CP.alloc gK.X (zg #[ze zd 0,ze zd 0,ze zd 0,ze zd 0,ze zd 0,ze zd 0] 103))) aC;obtain⟨k0,k1,k2,k3,k4⟩:=za7 aQ.2.1;have k5:=(za1 aQ.2.2).2;have k6:=(aC.cell (p:=⟨b2,cY+j,none⟩) (zV gZ.X)).trans gZ.X;have kS:=xr k0 (xr k1 (xr k2 (xr k3 (xr k4 (xr k5 k6)))));have fB:=za4 aQ;obtain⟨z0,z1,z2,z3,z4,z5⟩:=zi2 (za0 aC (k:=wr.heap.size) (by simp) (zS wr (zg #[ze zd 0,ze zd 0,ze zd 0,ze zd 0,ze zd 0,ze zd 0] 103)));have zf:=fun i=>yZ _ _ i _ _ (za0 aC (k:=wr.heap.size) (by simp) (zS wr (zg #[ze zd 0,ze zd 0,ze zd 0,ze zd 0,ze zd 0,ze zd 0] 103)))
           clear aC aQ k0 k1 k2 k3 k4 k5 k6)))
        all_goals(first
         |(have ed:Zb (CP w (zj (zj (zj (zj (zj (zj w2 ⟨wr.heap.size,0,none⟩ (ze zd o0)) ⟨wr.heap.size,1,none⟩ (ze zd o1)) ⟨wr.heap.size,2,none⟩ (ze zd o2)) ⟨wr.heap.size,3,none⟩ (ze zd o3)) ⟨wr.heap.size,4,none⟩ (ze zd o4)) ⟨wr.heap.size,5,none⟩ (ze zd o5)) #[ze zd n,za a zs.length ac,za ao ko co,za av kv cv,ze zd fine] #[za ra m rc,za (some ⟨b2,cY,none⟩) ml lc]):=(CP.set (CP.set (CP.set (CP.set (CP.set (CP.set fB.X gK.big) gK.big) gK.big) gK.big) gK.big) gK.big)
           clear kS fB ip gZ fJ z0 z1 z2 z3 z4 z5 zf;generalize(zj (zj (zj (zj (zj (zj w2 ⟨wr.heap.size,0,none⟩ (ze zd o0)) ⟨wr.heap.size,1,none⟩ (ze zd o1)) ⟨wr.heap.size,2,none⟩ (ze zd o2)) ⟨wr.heap.size,3,none⟩ (ze zd o3)) ⟨wr.heap.size,4,none⟩ (ze zd o4)) ⟨wr.heap.size,5,none⟩ (ze zd o5))=W at*;generalize wr.heap.size=g at*)
         |(have ed:Zb (CP w (w2.alloc (zg #[ze zd o0,ze zd o1,ze zd o2,ze zd o3,ze zd o4,ze zd o5] 103)) #[ze zd n,za a zs.length ac,za ao ko co,za av kv cv,ze zd fine] #[za ra m rc,za (some ⟨b2,cY,none⟩) ml lc]):=CP.alloc fB.X _
           clear kS fB ip gZ fJ;generalize w2.alloc _=W at*;generalize w2.heap.size=g at*))
        all_goals
         clear c0 c1 c2 c3 c4 d0 d1 aD dX cM;have q1:=(za1 ed.2.2).2;have C5:=zs7 (HL.below ed.1) uk bF.X;have t0:=fun s:Kin W=>s.cell q1;have t1:=fun s:Kin W=>s.cell C5;have aV:=Kin.there W;cases tt
         ·have HE:Zb (v=4):=nO.X rfl
          go_wp2_with fail
          refine zb1 (by kernel_rfl) (by kernel_rfl) ?_
          repeat(go_big_quiet_step (fail))
          refine xA ?_;rintro _ ⟨s,rfl⟩;have d5:=za4 (ed.below s.below);generalize s.w=w3 at*;go_wp2;go_ret;exact⟨by rw[HE.X];rfl,d5.1⟩
         ·by_cases mn:0<j
          ·obtain⟨p,HP⟩:=nmd (L.getD (j - 1) 0)
           have Ly:=zs7 (HL.below ed.1) (j:=j - 1) (by omega) HP.X;have t2:=fun s:Kin W=>s.cell Ly;have iX:IntKind.i64.wrap ((j:Int) - 1)=((j - 1:Nat):Int):=by rw[xu];omega
           have OJ:j - 1<ml:=by omega
           by_cases hp:p<id
           ·have Ex:Zb (zg5 os ko L (j+1)):=bO.X rfl (fun _=>by rw[HP.X];exact hp)
            have AW:decide (id<=p)=false:=by simp;omega
            go_wp2_with fail
            refine zb1 (by kernel_rfl) (by kernel_rfl) ?_
            repeat(go_big_quiet_step (fail))
            refine xA ?_;rintro _ ⟨s,rfl⟩;have d5:=za4 (ed.below s.below);generalize s.w=w3 at*;go_wp2;exact⟨⟨j+1,by omega,by go_num,Ex.X,d5.X⟩,by simp[intOf];omega⟩
           ·have HE:Zb (v=4):=rV.X mn (by rw[HP.X];first|exact hp|omega)
            have AW:decide (id<=p)=true:=by simp;omega
            go_wp2_with fail
            refine zb1 (by kernel_rfl) (by kernel_rfl) ?_
            repeat(go_big_quiet_step (fail))
            refine xA ?_;rintro _ ⟨s,rfl⟩;have d5:=za4 (ed.below s.below);generalize s.w=w3 at*;go_wp2;go_ret;exact⟨by rw[HE.X];rfl,d5.1⟩
          ·have Ex:Zb (zg5 os ko L (j+1)):=bO.X rfl (fun h=>absurd h mn)
           have vA:(decide (0<j))=false:=by simp;omega
           have eB:j<=0:=by omega
           go_wp2_with fail
           refine zb1 (by kernel_rfl) (by kernel_rfl) ?_
           repeat(go_big_quiet_step (fail))
           refine xA ?_;rintro _ ⟨s,rfl⟩;have d5:=za4 (ed.below s.below);generalize s.w=w3 at*;go_wp2;exact⟨⟨j+1,by omega,by go_num,Ex.X,d5.X⟩,by simp[intOf];omega⟩
       ·have ng:j=L.length:=by rw[HM.X];omega
        have LY:Zb (zg5 os ko L L.length):=ng▸LO.X;have AN:Zb ((zb0 R R.length).length+L.length=nf+ml):=by show _=_;rw[wJ.X,mi.X,HM.X]
        obtain⟨c0,c1,c2,c3,c4⟩:=za7 gK.2.1;obtain⟨d0,d1⟩:=za1 gK.2.2;clear ng;have hz:Zb (((nf:Int)+(ml:Int)==(ko:Int))=decide (nf+ml=ko)):=by
         show _=_;by_cases e:nf+ml=ko
         ·rw[zW e,<-e];simp
         ·rw[zX e];simp;omega
        by_cases he:nf+ml=ko
        ·have se:((nf:Int)+(ml:Int)==(ko:Int))=true:=by rw[hz.X];exact zW he
         have HE:Zb (v=0):=dh.symm.trans (zS9 HC.X Br.X ON.X LY.X (by rw[AN.X];exact he));clear he;go_wp2;go_ret;exact⟨by rw[HE.X];rfl,gK.1⟩
        ·have se:((nf:Int)+(ml:Int)==(ko:Int))=false:=by rw[hz.X];exact zX he
         have HE:Zb (v=4):=dh.symm.trans (zT5 HC.X Br.X ON.X (fun h=>he (by rw[<-AN.X];exact h.2)));clear he;go_wp2;go_ret;exact⟨by rw[HE.X];rfl,gK.1⟩
     ·have HE:Zb (v=3):=dh.symm.trans (y27 HC.X Br.X (by rw[wJ.X];exact Fy.1 rfl))
      go_wp2;go_ret;exact⟨by rw[HE.X];rfl,CW.1⟩
theorem z37(n fine:Int)(a ao av ra la:Option Addr)(ac ko co kv cv rc lc:Nat)(zs os vs L:List Int)(R:List RT)(w:zi)(hA:za3 w a zs)(hO:za3 w ao os)(hV:za3 w av vs)(hR:za9 w ra R)(an:os.length=ko*6)(au:vs.length=kv*5)(aA:ko<=9223372036854775807)(aB:kv<=9223372036854775807)(eg:∀r∈R,r.ids.length<=r.c)(aT:zc1 n zs os vs ko kv fine R L=0):
 Calls zh 35 #[.agg #[ze zd n,za a zs.length ac,za ao ko co,za av kv cv,ze zd fine],.agg #[za ra R.length rc,za la L.length lc]] w fun e w'=>e=.returned (ze zd (zh9 n zs os vs ko kv R (fine*L.length) R.length))/\Za w.heap.size w w':=by
 have HA:=za4 hA;have HO:=za4 hO;have HV:=za4 hV;have HR:=za4 hR;have aF:Zb _:=an;have aE:Zb _:=au;have bt:Zb _:=eg;obtain⟨bT,mV,_,_,_⟩:=zb7 aT;obtain⟨d8,g_,vl,Ax⟩:=ze6 aT;have HC:Zb _:=bT;have jS:=za4 mV;clear hA hO hV hR an au eg bT mV aT;obtain⟨m,HN⟩:=nmd R.length;obtain⟨ml,HM⟩:=nmd L.length;rw[HN.X]at d8 jS⊢;rw[HM.X]at g_ vl Ax⊢;obtain⟨z,HZ⟩:=nmd (fine*(ml:Int));rw[HZ.X]at vl Ax⊢;have v7:wrap64 (fine*(ml:Int))=z:=by rw[HZ.X];exact xB _ (by omega)
 have sb:IntKind.i64.wrap (fine*(ml:Int))=z:=by rw[HZ.X];exact xz _ (by omega)
 have dH:Zb _:=z47 HC.X jS.X z;have C0:Zb (CP w ((w.alloc (zg #[ze zd n,za a zs.length ac,za ao ko co,za av kv cv,ze zd fine] 30)).alloc (zg #[za ra m rc,za la ml lc] 33)) _ _):=CP.new w _ _;obtain⟨c0,c1,c2,c3,c4⟩:=za7 C0.X.2.1;obtain⟨d0,d1⟩:=za1 C0.X.2.2;go_enter Tryz.func35,Tryz.ntmps35
 go_wp2_with fail
 clear c0 c1 c2 c3 c4 d0 d1 v7 sb;generalize(w.alloc _).alloc _=W0 at*;go_loopw[5,19] (fun ts ti wr=>∃k:Nat,k<=m/\ti=ze zd k/\ts=ze zd (zh9 n zs os vs ko kv R z k)/\CP w wr #[ze zd n,za a zs.length ac,za ao ko co,za av kv cv,ze zd fine] #[za ra m rc,za la ml lc]) (fun _ ti _=>m - (intOf ti).toNat)
 case atStart=>exact⟨0,xi _,rfl,rfl,C0.X⟩
 case round=>
  clear C0;obtain⟨k,hk,rfl,rfl,cP⟩:=hrel;have CW:=za4 cP;clear cP;by_cases ah:k<m
  ·have bu:k<R.length:=by rw[HN.X];exact ah
   have bI:R.getD k rt0∈R:=by rw[zQ,zR bu];simp
   obtain⟨b,off,rfl,h1,h2,h3⟩:=(HR.X.below CW.X.1) k bu;have fX:Zb _:=bt.X _ bI;have aG:=(jS.X k ah).2.2;have dm:=dH.X (k+1) (by omega);have oE:=dH.X k hk;have bH:=(zg3 (zf2 (zg7 aG).1).2.2).1;have aZ:Zb (zh9 n zs os vs ko kv R z (k+1)=zh9 n zs os vs ko kv R z k+zl8 n zs os vs ko kv (R.getD k rt0)):=rfl;rw[aZ.X]at dm;unfold zl8 at aZ dm;obtain⟨r,de⟩:=nmd (R.getD k rt0);rw[de.X]at h1 h2 h3 fX aG bH aZ dm;have ny:Zb _:=aG;have IR:=za4 h3;obtain⟨cA,ce,b8,a8,_⟩:=zb2 HC.X;have eZ:=(zr6 b8 a8 r.v);have Du:Zb _:=eZ.1;have db:Zb _:=cA;have Ip:Zb (z48 n (zd5 os ko r.ids) r.ids.length):=z61 ce a8 _;clear h3 bI bu aG cA ce b8 a8 eZ;obtain⟨f0,F0⟩:=nmd (zc4 vs kv r.v 0);obtain⟨f1,F1⟩:=nmd (zc4 vs kv r.v 1);obtain⟨f2,F2⟩:=nmd (zc4 vs kv r.v 2);obtain⟨f3,F3⟩:=nmd (zc4 vs kv r.v 3);obtain⟨f4,F4⟩:=nmd (zc4 vs kv r.v 4);rw[F1.X]at Du aZ dm;obtain⟨s,HS⟩:=nmd (zh9 n zs os vs ko kv R z k);obtain⟨rd,n6⟩:=nmd (zq5 n zs (zd5 os ko r.ids) r.ids.length f1);rw[HS.X]at aZ dm oE;rw[n6.X]at aZ dm;rw[HS.X];have Gj:wrap64 (s+rd)=s+rd:=xB _ (by omega);have BX:Zb (Za wr.heap.size wr (wr.alloc (zg #[ze zd r.v,za r.a r.ids.length r.c] 80))):=zP _;have GX:Zb ((wr.alloc (zg #[ze zd r.v,za r.a r.ids.length r.c] 80)).heap[wr.heap.size]? =_):=zS _ _;have CX:=za4 (CW.X.below BX.X);obtain⟨c0,c1,c2,c3,c4⟩:=za7 CX.X.2.1;obtain⟨d0,d1⟩:=za1 GX.X
   go_wp2_with fail
   clear c0 c1 c2 c3 c4 d0 d1 h1 h2;generalize(wr.alloc _)=W1 at*;refine(z84 n fine r.v a ao av r.a ac ko co kv cv r.c zs os vs r.ids W1 (HA.X.below CX.X.1) (HO.X.below CX.X.1) (HV.X.below CX.X.1) (IR.X.below BX.X) aF.X aE.X aA aB (by omega) fX.X HC.X).mono ?_;rintro e w2 ⟨hb,⟨aG,rfl⟩|⟨-,g,-,rfl,ex⟩⟩
   ·exact absurd ny.X aG
   have C2:=za4 (CX.X.below hb);have I2:=za4 ex;rw[F0.X,F1.X,F2.X,F3.X,F4.X];clear hb ex CX GX BX IR CW;have BY:Zb (Za w2.heap.size w2 (w2.alloc (zg #[ze zd n,za a zs.length ac,ze zd f0,ze zd f1,ze zd f2,ze zd f3,ze zd f4,za (some ⟨g,0,none⟩) r.ids.length r.ids.length] 119))):=zP _;have GY:Zb ((w2.alloc (zg #[ze zd n,za a zs.length ac,ze zd f0,ze zd f1,ze zd f2,ze zd f3,ze zd f4,za (some ⟨g,0,none⟩) r.ids.length r.ids.length] 119)).heap[w2.heap.size]? =_):=zS _ _;obtain⟨t0,t1,t2,t3,t4,t5,t6,t7⟩:=zk4 GY.X
   go_wp2_with fail
   clear t0 t1 t2 t3 t4 t5 t6 t7;generalize(w2.alloc _)=W3 at*;have C3:=za4 (C2.X.below BY.X);refine(zA5 n f0 f1 f2 f3 f4 a _ ac r.ids.length _ zs (zd5 os ko r.ids) W3 db.X (HA.X.below C3.X.1) (I2.X.below BY.X) (zj0 os ko r.ids) Ip.X Du.X bH).mono ?_;rintro e w4 ⟨rfl,hb⟩;rw[n6.X];have C4:=za4 (C3.X.below hb);clear hb C3 C2 BY GY I2;go_wp2
   first
    |exact⟨⟨k+1,by omega,by go_num,by rw[aZ.X],C4.X⟩,by simp[intOf];omega⟩
    |(go_roundw
      case rel=>exact⟨k+1,by omega,by go_num,by rw[aZ.X],C4.X⟩
      case measure=>simp[intOf];omega)
  ·have iu:k=m:=by omega
   subst iu;go_wp2;go_ret;exact⟨rfl,CW.X.1⟩
theorem zC1(n fine:Int)(a ao av ra la:Option Addr)(ac ko co kv cv rc lc:Nat)(zs os vs L:List Int)(R:List RT)(w:zi)(hA:za3 w a zs)(hO:za3 w ao os)(hV:za3 w av vs)(hR:za9 w ra R)(hL:za3 w la L)(an:os.length=ko*6)(au:vs.length=kv*5)(aA:ko<=9223372036854775807)(aB:kv<=9223372036854775807)(hn:R.length<=1048576)(hi:∀r∈R,r.ids.length<=1048576)(eg:∀r∈R,r.ids.length<=r.c)(dg:L.length<=1048576)(cS:(zb0 R R.length).length<=1048576)(ii:∀x∈L,(Lit.int zd x).wf=true):
 Calls zh 11 #[.agg #[ze zd n,za a zs.length ac,za ao ko co,za av kv cv,ze zd fine],.agg #[za ra R.length rc,za la L.length lc]] w fun e w'=>e=.returned (ze zd (zp0 n zs os vs ko kv fine R L))/\Za w.heap.size w w':=by
 have HA:=za4 hA;have HO:=za4 hO;have HV:=za4 hV;have HR:=za4 hR;have HL:=za4 hL;have aF:Zb _:=an;have aE:Zb _:=au;have HN:Zb _:=hn;have ee:Zb _:=dg;have iY:Zb _:=cS;have HI:Zb _:=hi;have bt:Zb _:=eg;have iM:Zb _:=ii;clear hA hO hV hR hL an au hi eg hn dg cS ii;obtain⟨x,HX⟩:=nmd (zp0 n zs os vs ko kv fine R L);rw[HX.X];have C0:Zb (CP w ((w.alloc (zg #[ze zd n,za a zs.length ac,za ao ko co,za av kv cv,ze zd fine] 30)).alloc (zg #[za ra R.length rc,za la L.length lc] 33)) _ _):=CP.new w _ _;obtain⟨c0,c1,c2,c3,c4⟩:=za7 C0.X.2.1;obtain⟨d0,d1⟩:=za1 C0.X.2.2;go_enter Tryz.func11,Tryz.ntmps11
 go_wp2_with fail
 clear c0 c1 c2 c3 c4 d0 d1;generalize(w.alloc _).alloc _=W0 at*;refine(zx4 n fine a ao av ra la ac ko co kv cv rc lc zs os vs L R W0 (HA.X.below C0.X.1) (HO.X.below C0.X.1) (HV.X.below C0.X.1) (HR.X.below C0.X.1) (HL.X.below C0.X.1) aF.X aE.X aA aB HN.X HI.X bt.X ee.X iY.X iM.X).mono ?_;rintro e w1 ⟨rfl,hb⟩;have C1:=za4 (C0.X.below hb);clear hb C0;by_cases hz:zc1 n zs os vs ko kv fine R L=0
 ·have HZ:Zb _:=hz
  have HE:Zb _:=HX.X.symm.trans (z7 hz);rw[hz];clear hz;obtain⟨c0,c1,c2,c3,c4⟩:=za7 C1.X.2.1;obtain⟨d0,d1⟩:=za1 C1.X.2.2
  go_wp2_with fail
  clear c0 c1 c2 c3 c4 d0 d1;refine(z37 n fine a ao av ra la ac ko co kv cv rc lc zs os vs L R w1 (HA.X.below C1.X.1) (HO.X.below C1.X.1) (HV.X.below C1.X.1) (HR.X.below C1.X.1) aF.X aE.X aA aB bt.X HZ.X).mono ?_;rintro e w2 ⟨rfl,hb⟩;have HB:Zb _:=C1.X.1.trans (hb.mono C1.X.1.size);clear hb;go_wp2;go_ret;exact⟨by rw[HE.X];rfl,HB.X⟩
 ·have HE:Zb (x= -1):=HX.X.symm.trans (ye hz)
  obtain⟨v,ez⟩:=nmd (zc1 n zs os vs ko kv fine R L);rw[ez.X]at hz⊢;have Qk:(v !=0)=true:=by simp[hz]
  go_wp2;go_ret;exact⟨by rw[HE.X];rfl,C1.X.1⟩
theorem z79(n fine:Int)(a ao av ra la:Option Addr)(ac ko co kv cv rc lc:Nat)(zs os vs L:List Int)(R:List RT)(w:zi)(hA:za3 w a zs)(hO:za3 w ao os)(hV:za3 w av vs)(hR:za9 w ra R)(an:os.length=ko*6)(au:vs.length=kv*5)(aA:ko<=9223372036854775807)(aB:kv<=9223372036854775807)(aT:zc1 n zs os vs ko kv fine R L=0):
 Calls zh 41 #[.agg #[ze zd n,za a zs.length ac,za ao ko co,za av kv cv,ze zd fine],.agg #[za ra R.length rc,za la L.length lc]] w fun e w'=>e=.returned (ze zd (zh9 n zs os vs ko kv R (fine*L.length) R.length))/\Za w.heap.size w w':=by
 have HA:=za4 hA;have HO:=za4 hO;have HV:=za4 hV;have HR:=za4 hR;have aF:Zb _:=an;have aE:Zb _:=au;obtain⟨bT,mV,_,_,_⟩:=zb7 aT;obtain⟨d8,g_,vl,Ax⟩:=ze6 aT;have HC:Zb _:=bT;have jS:=za4 mV;clear hA hO hV hR an au bT mV aT;obtain⟨m,HN⟩:=nmd R.length;obtain⟨ml,HM⟩:=nmd L.length;rw[HN.X]at d8 jS⊢;rw[HM.X]at g_ vl Ax⊢;obtain⟨z,HZ⟩:=nmd (fine*(ml:Int));rw[HZ.X]at vl Ax⊢;have v7:wrap64 (fine*(ml:Int))=z:=by rw[HZ.X];exact xB _ (by omega)
 have sb:IntKind.i64.wrap (fine*(ml:Int))=z:=by rw[HZ.X];exact xz _ (by omega)
 have dH:Zb _:=z47 HC.X jS.X z;have C0:Zb (CP w ((w.alloc (zg #[ze zd n,za a zs.length ac,za ao ko co,za av kv cv,ze zd fine] 30)).alloc (zg #[za ra m rc,za la ml lc] 33)) _ _):=CP.new w _ _;obtain⟨c0,c1,c2,c3,c4⟩:=za7 C0.2.1;obtain⟨d0,d1⟩:=za1 C0.2.2;go_enter Tryz.func41,Tryz.ntmps41
 go_wp2_with fail
 clear c0 c1 c2 c3 c4 d0 d1 v7 sb;generalize(w.alloc _).alloc _=W0 at*;go_loopw[5,6] (fun ts ti wr=>∃k:Nat,k<=m/\ti=ze zd k/\ts=ze zd (zh9 n zs os vs ko kv R z k)/\CP w wr #[ze zd n,za a zs.length ac,za ao ko co,za av kv cv,ze zd fine] #[za ra m rc,za la ml lc]) (fun _ ti _=>m - (intOf ti).toNat)
 case atStart=>exact⟨0,xi _,rfl,rfl,C0.X⟩
 case round=>
  clear C0;obtain⟨k,hk,rfl,rfl,cP⟩:=hrel;have CW:=za4 cP;clear cP;obtain⟨c0,c1,c2,c3,c4⟩:=za7 CW.2.1;obtain⟨d0,d1⟩:=za1 CW.2.2;by_cases ah:k<m
  ·have bu:k<R.length:=by rw[HN.X];exact ah
   obtain⟨b,off,rfl,h1,h2,h3⟩:=(HR.below CW.1) k bu;have aG:=(jS.X k ah).2.2;have dm:=dH.X (k+1) (by omega);have oE:=dH.X k hk;have bH:=(zg3 (zf2 (zg7 aG).1).2.2).1;have aZ:Zb (zh9 n zs os vs ko kv R z (k+1)=zh9 n zs os vs ko kv R z k+zl8 n zs os vs ko kv (R.getD k rt0)):=rfl;rw[aZ.X]at dm;unfold zl8 at aZ dm;obtain⟨r,de⟩:=nmd (R.getD k rt0);rw[de.X]at h1 h2 h3 aG bH aZ dm;have ny:Zb _:=aG;have IR:=za4 h3;clear h3 bu aG;obtain⟨s,HS⟩:=nmd (zh9 n zs os vs ko kv R z k);obtain⟨rd,n6⟩:=nmd (zq5 n zs (zd5 os ko r.ids) r.ids.length (zc4 vs kv r.v 1));rw[HS.X]at aZ dm oE;rw[n6.X]at aZ dm;rw[HS.X];have Gj:wrap64 (s+rd)=s+rd:=xB _ (by omega);have PN:IntKind.i64.wrap (s+rd)=s+rd:=xz _ (by omega);have dM:Zb (∀S:Kin wr,Calls zh 89 #[.agg #[ze zd n,za a zs.length ac,za ao ko co,za av kv cv,ze zd fine],.agg #[ze zd r.v,za r.a r.ids.length r.c]] S.w fun e w'=>e=.returned (ze zd rd)/\∃s':Kin wr,w'=s'.w):=fun S=>by
    have:=zt2 n fine r.v a ao av r.a ac ko co kv cv r.c zs os vs r.ids S.w ((HA.below CW.1).below S.below) ((HO.below CW.1).below S.below) ((HV.below CW.1).below S.below) (IR.below S.below) aF.X aE.X aA aB (by omega) (by rw[HC.X];exact ny.X);rw[n6.X]at this;exact Kin.call this
   have s0:=fun s:Kin wr=>s.cell c0;have s1:=fun s:Kin wr=>s.cell c1;have s2:=fun s:Kin wr=>s.cell c2;have s3:=fun s:Kin wr=>s.cell c3;have s4:=fun s:Kin wr=>s.cell c4;have t0:=fun s:Kin wr=>s.cell d0;have y0:=fun s:Kin wr=>s.cell h1;have y1:=fun s:Kin wr=>s.cell h2;have aV:=Kin.there wr
   go_wp2_with fail
   clear c0 c1 c2 c3 c4 d0 d1 h1 h2;refine zb1 (by kernel_rfl) (by kernel_rfl) ?_
   repeat(go_big_quiet_step ((go_at_call 89;exact dM.X _)))
   refine xA ?_;rintro _ ⟨S,rfl⟩;have C3:=za4 (CW.below S.below);generalize S.w=w3 at*;clear s0 s1 s2 s3 s4 t0 y0 y1 aV CW IR dM;go_wp2
   first
    |exact⟨⟨k+1,by omega,by go_num,by rw[aZ.X],C3.X⟩,by simp[intOf];omega⟩
    |(go_roundw
      case rel=>exact⟨k+1,by omega,by go_num,by rw[aZ.X],C3.X⟩
      case measure=>simp[intOf];omega)
  ·have iu:k=m:=by omega
   subst iu;go_wp2;go_ret;exact⟨rfl,CW.1⟩
