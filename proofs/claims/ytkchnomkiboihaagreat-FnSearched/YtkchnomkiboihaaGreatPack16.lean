import Derived.Test.YtkchnomkiboihaaGreatPack13
import Derived.Test.YtkchnomkiboihaaGreatRoutesOk
set_option linter.unusedSimpArgs false
set_option maxHeartbeats 4000000
set_option maxRecDepth 100000
namespace Go.Proofs.YtkchnomkiboihaaGreat
open Value renaming slice→za,int→ze
open IntKind renaming i64→zd
open Obj renaming cells→zg
open Proofs.Tryz renaming prog→zh
open Go renaming World→zi
open Lit renaming int→zC
open Go.RowKit Go.Maps
open Q
theorem zL5{n:Int}{zs os vs:List Int}{ko kv:Nat}{R:List RT}:∀{k:Nat},k<=R.length->zi6 n zs os vs ko kv R k->∀x∈zb0 R k,zl6 os ko x=true
 |0,_,_,x,hx=>by rw[zj9]at hx;cases hx
 |k+1,hk,h,x,hx=>by
  rw[zg0 (by omega),yj]at hx;rcases hx with hx|hx
  ·exact zL5 (k:=k) (by omega) (fun j hj=>h j (by omega)) x hx
  ·have h3:=(zg3 (zf3 (zg9 (h k (by omega)).2.2).1).2.2).2
   obtain⟨j,hj,e⟩:=xU hx;have:=h3 j hj;unfold zW8 at this;rw[zQ,zR hj]at this;simp only[yR,e]at this;simp at this;exact this.1
theorem yA5{n:Int}{zs os vs:List Int}{ko kv:Nat}{fine id:Int}(hc:zd0 n zs os vs ko kv fine=true)(h:zl6 os ko id=true):(zC zd id).wf=true:=by
 have hv:=(zb2 hc).2.1;unfold zl6 at h;cases hf:zU0 os ko id with
 |none=>rw[hf]at h;cases h
 |some i=>
  unfold zU0 at hf;have h1:=List.find?_some hf;have h2:i<ko:=by simpa using xX hf
  have h3:=((zd8 hv).2 i h2).1;simp at h1;unfold zH8 inB at h3;simp at h3;exact WalkArith.wf_i64 (by omega)
def CP(w W:zi)(cs ps:Array Value):Prop:=Below w.heap.size w W/\W.heap[w.heap.size]? =some (.cells cs 30 (0,0))/\W.heap[w.heap.size+1]? =some (.cells ps 33 (0,0))
theorem CP.new(w:zi)(cs ps:Array Value):CP w ((w.alloc (.cells cs 30)).alloc (.cells ps 33)) cs ps:=
 ⟨(zP _).alloc (by simp) _,xm _ _ _,xh _ _ _⟩
theorem CP.below{w W W':zi}{cs ps:Array Value}(h:CP w W cs ps)(hb:Below W.heap.size W W'):CP w W' cs ps:=
 ⟨h.1.trans (hb.mono h.1.size),za0 hb (za2 h.2.1) h.2.1,za0 hb (za2 h.2.2) h.2.2⟩
theorem CP.grown{w W W':zi}{cs ps:Array Value}{B:Nat}{l:List Int}(h:CP w W cs ps)(hS:zk8 W B l)(hB:w.heap.size<=B)(hg:W.grownBy W' (some B)):CP w W' cs ps:=
 ⟨h.1.grown hg h.1.size (fun j e=>by cases e;exact hB),zy9 hS hg h.2.1,zy9 hS hg h.2.2⟩
theorem zA1(n fine:Int)(a ao av ra la:Option Addr)(ac ko co kv cv rc lc:Nat)(zs os vs L:List Int)(R:List RT)(w:zi)(hA:za3 w a zs)(hO:za3 w ao os)(hV:za3 w av vs)(hR:za9 w ra R)(hL:za3 w la L)(an:os.length=ko*6)(au:vs.length=kv*5)(ay:ko<=9223372036854775807)(aB:kv<=9223372036854775807)(hn:R.length<=1048576)(hi:∀r∈R,r.ids.length<=1048576)(eg:∀r∈R,r.ids.length<=r.c)(dm:L.length<=1048576)(cT:(zb0 R R.length).length<=1048576)(gQ:∀x∈L,(zC zd x).wf=true)(bT:zd0 n zs os vs ko kv fine=true):
 Calls zh 47 #[.agg #[ze zd n,za a zs.length ac,za ao ko co,za av kv cv,ze zd fine],.agg #[za ra R.length rc,za la L.length lc]] w fun e w'=>e=.returned (ze zd (zc1 n zs os vs ko kv fine R L))/\Below w.heap.size w w':=by
 have HA:=za4 hA;have HO:=za4 hO;have HV:=za4 hV;have HR:=za4 hR;have HL:=za4 hL;have aF:Hid _:=an;have aD:Hid _:=au;have HN:Hid _:=hn;have eh:Hid _:=dm;have iP:Hid _:=cT;have HI:Hid _:=hi;have bA:Hid _:=eg;have iB:Hid _:=gQ;have HC:Hid _:=bT;clear hA hO hV hR hL an au hi eg bT gQ hn dm cT;obtain⟨v,de⟩:=nmd (zc1 n zs os vs ko kv fine R L);rw[de.X];have Qt:=@run_makeMap zh;have C0:Hid (CP w ((w.alloc (zg #[ze zd n,za a zs.length ac,za ao ko co,za av kv cv,ze zd fine] 30)).alloc (zg #[za ra R.length rc,za la L.length lc] 33)) _ _):=CP.new w _ _;obtain⟨c0,c1,c2,c3,c4⟩:=za7 C0.2.1;obtain⟨d0,d1⟩:=za1 C0.2.2;go_enter Tryz.func47,Tryz.ntmps47
 go_wp2_with fail
 clear c0 c1 c2 c3 c4 d0 d1;generalize(w.alloc _).alloc _=W0 at*;refine(zU8 n fine a ao av ra ac ko co kv cv rc zs os vs R W0 (HA.below C0.1) (HO.below C0.1) (HV.below C0.1) (HR.below C0.1) aF.X aD.X ay aB HN.X HI.X bA.X HC.X).mono ?_;rintro e w1 ⟨hb,⟨rfl,aP⟩|⟨rfl,aP⟩⟩
 ·have OK:Hid (zi6 n zs os vs ko kv R R.length):=aP
  have C1:=za4 (C0.below hb);clear hb aP C0;have S0:=za4 (zk8.made w1);have C2:Hid (CP w (w1.alloc (.map #[] 0)) _ _):=C1.below (zP _);obtain⟨d0,d1⟩:=za1 C2.2.2
  go_wp2_with fail
  clear d0 d1;have hB:=C1.1.size;generalize hZ:w1.alloc (.map #[] 0)=W2 at*;generalize w1.heap.size=B at*;clear hZ C1;refine(zR8 B ra la rc lc R L W2 (HR.below C2.1) (HL.below C2.1) S0.X HN.X HI.X eh.X iP.X (fun x hx=>yA5 HC.X (zL5 (zT _) OK.X x hx)) iB.X).mono ?_;rintro e w3 ⟨hg,⟨rfl,iY,Av⟩|⟨rfl,iY⟩⟩
  ·have C3:Hid (CP w w3 _ _):=C2.grown S0.X hB hg
   have ON:=za4 iY;have S3:=za4 Av;clear hg iY Av C2 S0 hB;obtain⟨c0,c1,c2,c3,c4⟩:=za7 C3.2.1;obtain⟨d0,d1⟩:=za1 C3.2.2
   go_wp2_with fail
   clear c0 c1 c2 c3 c4 d0 d1;refine(yq4 n fine a ao av la ac ko co kv cv lc B zs os vs L (zb0 R R.length) w3 (HO.below C3.1) (HL.below C3.1) S3.X ON.1 aF.X ay eh.X iP.X HC.X).mono ?_;rintro e w4 ⟨hb,⟨rfl,h1,h2⟩|⟨rfl,h1⟩⟩
   ·have HB:Hid _:=C3.1.trans (hb.mono C3.1.size)
    have HE:Hid _:=de.symm.trans (zR0 HC.X OK.X ON.X h1 h2);clear hb h1 h2;go_wp2;go_ret;exact⟨by rw[HE.X];rfl,HB.X⟩
   ·have HB:Hid _:=C3.1.trans (hb.mono C3.1.size)
    have HE:Hid _:=de.symm.trans (zQ5 HC.X OK.X ON.X h1);clear hb h1;go_wp2;go_ret;exact⟨by rw[HE.X];rfl,HB.X⟩
  ·have C3:Hid (CP w w3 _ _):=C2.grown S0.X hB hg
   have HE:Hid _:=de.symm.trans (yy5 HC.X OK.X iY);clear hg iY;go_wp2;go_ret;exact⟨by rw[HE.X];rfl,C3.1⟩
 ·have HB:Hid _:=C0.1.trans (hb.mono C0.1.size)
  have HE:Hid _:=de.symm.trans (zT1 HC.X aP);clear hb aP;go_wp2;go_ret;exact⟨by rw[HE.X];rfl,HB.X⟩
theorem zS9(n fine:Int)(a ao av ra la:Option Addr)(ac ko co kv cv rc lc:Nat)(zs os vs L:List Int)(R:List RT)(w:zi)(hA:za3 w a zs)(hO:za3 w ao os)(hV:za3 w av vs)(hR:za9 w ra R)(hL:za3 w la L)(an:os.length=ko*6)(au:vs.length=kv*5)(ay:ko<=9223372036854775807)(aB:kv<=9223372036854775807)(hn:R.length<=1048576)(hi:∀r∈R,r.ids.length<=1048576)(eg:∀r∈R,r.ids.length<=r.c)(dm:L.length<=1048576)(cT:(zb0 R R.length).length<=1048576)(gQ:zd0 n zs os vs ko kv fine=true->∀x∈L,(zC zd x).wf=true):
 Calls zh 12 #[.agg #[ze zd n,za a zs.length ac,za ao ko co,za av kv cv,ze zd fine],.agg #[za ra R.length rc,za la L.length lc]] w fun e w'=>e=.returned (ze zd (zc1 n zs os vs ko kv fine R L))/\Below w.heap.size w w':=by
 have HA:=za4 hA;have HO:=za4 hO;have HV:=za4 hV;have HR:=za4 hR;have HL:=za4 hL;have aF:Hid _:=an;have aD:Hid _:=au;have HN:Hid _:=hn;have eh:Hid _:=dm;have iP:Hid _:=cT;have HI:Hid _:=hi;have bA:Hid _:=eg;have iB:Hid _:=gQ;clear hA hO hV hR hL an au hi eg gQ hn dm cT;obtain⟨v,de⟩:=nmd (zc1 n zs os vs ko kv fine R L);rw[de.X];have C0:Hid (CP w ((w.alloc (zg #[ze zd n,za a zs.length ac,za ao ko co,za av kv cv,ze zd fine] 30)).alloc (zg #[za ra R.length rc,za la L.length lc] 33)) _ _):=CP.new w _ _;obtain⟨c0,c1,c2,c3,c4⟩:=za7 C0.2.1;go_enter Tryz.func12,Tryz.ntmps12
 go_wp2_with fail
 clear c0 c1 c2 c3 c4;generalize(w.alloc _).alloc _=W0 at*;refine(ya1 n fine a ao av ac ko co kv cv zs os vs W0 (HA.below C0.1) (HO.below C0.1) (HV.below C0.1) aF.X aD.X ay aB).mono ?_;rintro e w1 ⟨rfl,hb⟩;have C1:=za4 (C0.below hb);clear hb C0;by_cases hc:zd0 n zs os vs ko kv fine=true
 ·have HC:Hid _:=hc
  rw[hc];clear hc;obtain⟨c0,c1,c2,c3,c4⟩:=za7 C1.2.1;obtain⟨d0,d1⟩:=za1 C1.2.2
  go_wp2_with fail
  clear c0 c1 c2 c3 c4 d0 d1;refine(zA1 n fine a ao av ra la ac ko co kv cv rc lc zs os vs L R w1 (HA.below C1.1) (HO.below C1.1) (HV.below C1.1) (HR.below C1.1) (HL.below C1.1) aF.X aD.X ay aB HN.X HI.X bA.X eh.X iP.X (iB.X HC.X) HC.X).mono ?_;rintro e w2 ⟨rfl,hb⟩;have HB:Hid _:=C1.1.trans (hb.mono C1.1.size);clear hb;rw[de.X];go_wp2;go_ret;exact⟨rfl,HB.X⟩
 ·have cw:zd0 n zs os vs ko kv fine=false:=by simpa using hc
  have HE:Hid _:=de.symm.trans (yt5 cw);rw[cw];clear hc cw;go_wp2;go_ret;exact⟨by rw[HE.X];rfl,C1.1⟩
theorem zw8(n fine:Int)(a ao av ra la:Option Addr)(ac ko co kv cv rc lc:Nat)(zs os vs L:List Int)(R:List RT)(w:zi)(hA:za3 w a zs)(hO:za3 w ao os)(hV:za3 w av vs)(hR:za9 w ra R)(hL:za3 w la L)(an:os.length=ko*6)(au:vs.length=kv*5)(ay:ko<=9223372036854775807)(aB:kv<=9223372036854775807)(hn:R.length<=1048576)(hi:∀r∈R,r.ids.length<=1048576)(eg:∀r∈R,r.ids.length<=r.c)(dm:L.length<=1048576)(cT:(zb0 R R.length).length<=1048576)(gQ:∀x∈L,(zC zd x).wf=true):
 Calls zh 12 #[.agg #[ze zd n,za a zs.length ac,za ao ko co,za av kv cv,ze zd fine],.agg #[za ra R.length rc,za la L.length lc]] w fun e w'=>e=.returned (ze zd (zc1 n zs os vs ko kv fine R L))/\Below w.heap.size w w':=by
 exact zS9 n fine a ao av ra la ac ko co kv cv rc lc zs os vs L R w hA hO hV hR hL an au ay aB hn hi eg dm cT (fun _=>gQ)
end Go.Proofs.YtkchnomkiboihaaGreat
namespace Go.Proofs.YtkchnomkiboihaaGreat
open Value renaming slice→za,int→ze,ownBlock→zm
open IntKind renaming i64→zd
open Obj renaming cells→zg
open Proofs.Tryz renaming prog→zh
open Go renaming World→zi
open World renaming setCell→zj
open Go.RowKit
open Q
theorem zs1(w:zi){ap:Array Oper}{rest:List Oper}{o:Oper}{a:Act}{Q:Exit->Act->zi->Prop}
 (hg:o.guard=none) (s x:Operand) (dw:o.op=Op.call {callee:=Callee.builtin Builtin.append,bm:=#[s,x],argTypes:=#[24,24]})
 (base:Nat) (v:Value) (k:Nat) (xs:List Value) (hs:a.eval s=v) (ae:w.ownsRow base 2 1 v k xs) (ad:Addr) (c:Nat) (x0:Value) (hx:a.eval x=za (some ad) 1 c)
 (hc:w.cell? ad=some x0) (j0:x0.oneCell'=true) (b1:k<=1048576) (hb:base<=w.heap.size)
 (hK:∀v' w',w'.ownsRow base 2 1 v' (k+1) (xs++[x0])->w.grownBy w' v.ownBlock->wpList zh ap Q rest (a.put o.dst v') w'):
 wpList zh ap Q (o::rest) a w:=by
 obtain⟨i0,hi,bO,ba,bS⟩:=qx Tryz.info2;exact wpList_append_own w hg s x _ dw base _ i0 _ 1 8 qb hi bO ba bS rfl (by decide) v k xs hs ae ad 1 c [x0] hx rfl (zO8 hc) (by simpa using j0) (by unfold maxLen;omega) (by omega) hb (fun v' w' h1 h2 _=>hK v' w' h1 h2)
theorem zl9{w:zi}{base size n k:Nat}{e T:TypeId}{v:Value}{xs:List Value}{cs:Array Value}{q:Nat×Nat}(h:w.ownsRow base e size v n xs)(hr:w.heap[k]? =some (.cells cs T q))(hT:T≠e):some k≠v.ownBlock:=fun he=>by
 rcases h.2 with⟨rfl,_⟩|⟨g,c,az,rfl,_,hg,_⟩
 ·cases he
 ·simp[zm]at he
  rw[<-he,hr]at hg;simp at hg;exact hT hg.2.1
theorem CP.grow{w W W':zi}{cs ps:Array Value}{base size n:Nat}{v:Value}{xs:List Value}(h:CP w W cs ps)(ho:W.ownsRow base 2 size v n xs)(hb:w.heap.size<=base)(hg:W.grownBy W' v.ownBlock):CP w W' cs ps:=by
 refine⟨h.1.grown hg h.1.size (fun j e=> ?_),za6 hg h.2.1 (zl9 ho h.2.1 (by decide)),za6 hg h.2.2 (zl9 ho h.2.2 (by decide))⟩;rcases ho.2 with⟨rfl,_⟩|⟨g,c,az,rfl,hl,_⟩
 ·cases e
 ·simp[zm]at e
  omega
theorem CP.alloc{w W:zi}{cs ps:Array Value}(h:CP w W cs ps)(o:Obj):CP w (W.alloc o) cs ps:=h.below (zP _)
theorem CP.drew{w W:zi}{cs ps:Array Value}(h:CP w W cs ps):CP w W.drew cs ps:=h.below (y5 _ _).drew
theorem CP.big{w W:zi}{cs ps:Array Value}(h:CP w W cs ps):w.heap.size+1<W.heap.size:=za2 h.2.2
theorem CP.set{w W:zi}{cs ps:Array Value}(h:CP w W cs ps){k i:Nat}{v:Value}(hk:w.heap.size+1<k):CP w (W.setCell ⟨k,i,none⟩ v) cs ps:=
 ⟨h.1.setCell (by simp;omega) _,by rw[xy _ _ _ _ (by simp;omega)];exact h.2.1,by rw[xy _ _ _ _ (by simp;omega)];exact h.2.2⟩
theorem zV2(w1:zi):(w1.alloc (zg #[] 2)).ownsRow w1.heap.size 2 1 (za (some ⟨w1.heap.size,0,none⟩) 0 0) 0 (([]:List Int).map (ze zd)):=
 ⟨rfl,.inr ⟨w1.heap.size,0,#[],rfl,zT _,zS _ _,zT _,by unfold maxLen;omega,rfl,rfl⟩⟩
def Tw(tw:Bool)(l:List Int):Prop:=tw=true↔¬l.Nodup
theorem Tw.nil:Tw false []:=by simp[Tw]
theorem Tw.step{tw:Bool}{l:List Int}(h:Tw tw l)(x:Int):Tw (tw||decide (x∈l)) (l++[x]):=by
 unfold Tw at*;rw[zy6];cases tw
 ·have:l.Nodup:=by
   by_cases hn:l.Nodup
   ·exact hn
   ·exact absurd (h.2 hn) (by simp)
  simp[this]
 ·have:=h.1 rfl
  simp[this]
def TwL(tw:Bool)(fl L:List Int)(j:Nat):Prop:=tw=true↔¬(fl.Nodup/\∀i,i<j->L.getD i 0∉fl)
theorem TwL.start{tw:Bool}{fl:List Int}(h:Tw tw fl)(L:List Int):TwL tw fl L 0:=by
 unfold TwL;unfold Tw at h;rw[h];constructor
 ·intro h1 h2;exact h1 h2.1
 ·intro h1 h2;exact h1 ⟨h2,fun i hi=>by omega⟩
theorem TwL.step{tw:Bool}{fl L:List Int}{j:Nat}(h:TwL tw fl L j):TwL (tw||decide (L.getD j 0∈fl)) fl L (j+1):=by
 unfold TwL at*;cases tw
 ·have h0:fl.Nodup/\∀i,i<j->L.getD i 0∉fl:=by
   by_cases hn:fl.Nodup/\∀i,i<j->L.getD i 0∉fl
   ·exact hn
   ·exact absurd (h.2 hn) (by simp)
  by_cases hm:L.getD j 0∈fl
  ·rw[zW hm]
   exact⟨fun _ hx=>hx.2 j (by omega) hm,fun _=>rfl⟩
  ·rw[zX hm]
   refine⟨fun h=>(by cases h),fun hx=>absurd ⟨h0.1,fun i hi=> ?_⟩ hx⟩;by_cases e:i=j
   ·rw[e];exact hm
   ·exact h0.2 i (by omega)
 ·have:=h.1 rfl
  exact⟨fun _ hx=>this ⟨hx.1,fun i hi=>hx.2 i (by omega)⟩,fun _=>rfl⟩
theorem TwL.done{tw:Bool}{fl L:List Int}(h:TwL tw fl L L.length):tw=true↔¬yc9 fl L:=by
 unfold TwL at h;rw[h];unfold yc9;constructor
 ·intro h1 h2
  exact h1 ⟨h2.1,fun i hi=>h2.2 _ (by rw[zQ,zR hi];simp)⟩
 ·intro h1 h2
  refine h1 ⟨h2.1,fun x hx=> ?_⟩;obtain⟨j,hj,e⟩:=xU hx;have:=h2.2 j hj;rw[zQ,zR hj]at this;rw[<-e];exact this
theorem zj3(n fine:Int)(a ao av ra la:Option Addr)(ac ko co kv cv rc lc:Nat)(zs os vs L:List Int)(R:List RT)(w:zi)(hA:za3 w a zs)(hO:za3 w ao os)(hV:za3 w av vs)(hR:za9 w ra R)(hL:za3 w la L)(an:os.length=ko*6)(au:vs.length=kv*5)(ay:ko<=9223372036854775807)(aB:kv<=9223372036854775807)(hn:R.length<=1048576)(hi:∀r∈R,r.ids.length<=1048576)(eg:∀r∈R,r.ids.length<=r.c)(dm:L.length<=1048576)(cT:(zb0 R R.length).length<=1048576):
 Calls zh 38 #[.agg #[ze zd n,za a zs.length ac,za ao ko co,za av kv cv,ze zd fine],.agg #[za ra R.length rc,za la L.length lc]] w fun e w'=>e=.returned (ze zd (zc1 n zs os vs ko kv fine R L))/\Below w.heap.size w w':=by
 have HA:=za4 hA;have HO:=za4 hO;have HV:=za4 hV;have HR:=za4 hR;have HL:=za4 hL;have aF:Hid _:=an;have aD:Hid _:=au;have iP:Hid _:=cT;have HI:=za4 hi;have bA:=za4 eg;clear hA hO hV hR hL an au hi eg cT;obtain⟨v,de⟩:=nmd (zc1 n zs os vs ko kv fine R L);rw[de.X];obtain⟨m,HN⟩:=nmd R.length;obtain⟨ml,HM⟩:=nmd L.length;rw[HN.X]at hn⊢;rw[HM.X]at dm⊢;have C0:Hid (CP w ((w.alloc (zg #[ze zd n,za a zs.length ac,za ao ko co,za av kv cv,ze zd fine] 30)).alloc (zg #[za ra m rc,za la ml lc] 33)) _ _):=CP.new w _ _;obtain⟨c0,c1,c2,c3,c4⟩:=za7 C0.2.1;go_enter Tryz.func38,Tryz.ntmps38
 go_wp2_with fail
 clear c0 c1 c2 c3 c4;generalize(w.alloc _).alloc _=W0 at*;refine(zx8 n fine a ao av ac ko co kv cv zs os vs W0 (HA.below C0.1) (HO.below C0.1) (HV.below C0.1) aF.X aD.X ay aB).mono ?_;rintro e w1 ⟨rfl,hb⟩;have C1:=za4 (C0.below hb);clear hb C0;by_cases cw:zd0 n zs os vs ko kv fine=false
 ·have HE:Hid (v=1):=de.symm.trans (yt5 cw)
  rw[cw];clear cw;go_wp2;go_ret;exact⟨by rw[HE.X];rfl,C1.1⟩
 have fE:zd0 n zs os vs ko kv fine=true:=by simpa using cw
 have HC:=za4 fE;rw[HC.X];clear cw fE;have kV:Hid (w.heap.size<=w1.heap.size):=C1.1.size;have O0:=za4 (zV2 w1);have C2:Hid (CP w (w1.alloc (zg #[] 2)) #[ze zd n,za a zs.length ac,za ao ko co,za av kv cv,ze zd fine] #[za ra m rc,za la ml lc]):=C1.below (zP _);have i8:Hid (w1.heap.size<=(w1.alloc (zg #[] 2)).heap.size):=by show _<=_;simp
 go_wp2_with fail
 generalize hZ:w1.alloc (zg #[] 2)=W2 at*;generalize w1.heap.size=base at*;clear hZ C1;go_loopw[5,6,7] (fun ts tt ti wr=>∃(k:Nat) (tw:Bool),k<=m/\ti=ze zd k/\tt=.bool tw/\Tw tw (zb0 R k)/\zi6 n zs os vs ko kv R k/\wr.ownsRow base 2 1 ts (zb0 R k).length ((zb0 R k).map (ze zd))/\CP w wr #[ze zd n,za a zs.length ac,za ao ko co,za av kv cv,ze zd fine] #[za ra m rc,za la ml lc]/\base<=wr.heap.size) (fun _ _ ti _=>m - (intOf ti).toNat)
 case atStart=>exact⟨0,false,xi _,rfl,rfl,by rw[zj9];exact Tw.nil,zi6.zero _ _ _ _ _ _ _,by rw[zj9];exact O0.X,C2.X,i8.X⟩
 case round=>
  clear C2 O0 i8;obtain⟨k,tw,hk,rfl,rfl,gY,aP,ae,cN,bU⟩:=hrel;have TW:=za4 gY;have OK:=za4 aP;have OW:=za4 ae;have CW:=za4 cN;have SZ:=za4 bU;clear gY aP ae cN bU;by_cases ah:k<m
  ·have bt:k<R.length:=by rw[HN.X];exact ah
   have bH:R.getD k rt0∈R:=by rw[zQ,zR bt];simp
   have Iw:=HR.below CW.1;obtain⟨b,off,rfl,h1,h2,h3⟩:=Iw k bt;have iw:za3 w (R.getD k rt0).a (R.getD k rt0).ids:=by obtain⟨_,_,_,_,_,i⟩:=HR.X k bt;exact i
   have lD:=HI.X _ bH;have gd:Hid _:=bA.X _ bH;have ia:Hid ((R.getD k rt0).ids.length=0->v=2):=fun h=>de.symm.trans (zT1 HC.X (HN.X▸fun H=>(H k ah).2.1 (xE h)));have i7:Hid (codeV true n zs os vs ko kv (R.getD k rt0).v (R.getD k rt0).ids≠0->v=2):=fun h=>de.symm.trans (zT1 HC.X (HN.X▸fun H=>h (H k ah).2.2));have eZ:Hid (0<k->¬(R.getD (k - 1) rt0).v<(R.getD k rt0).v->v=2):=fun h0 h=>de.symm.trans (zT1 HC.X (HN.X▸fun H=>h ((H k ah).1 h0)));have bM:Hid ((0<k->(R.getD (k - 1) rt0).v<(R.getD k rt0).v)->¬(R.getD k rt0).ids.length=0->codeV true n zs os vs ko kv (R.getD k rt0).v (R.getD k rt0).ids=0->zi6 n zs os vs ko kv R (k+1)):=fun h1 h2 h3=>OK.step h1 (fun e=>h2 (by rw[e];rfl)) h3
   have nb:=za4 (zg0 bt);have kY:Hid (∀j,j<=(R.getD k rt0).ids.length->(zb0 R k++(R.getD k rt0).ids.take j).length<=1048576):=fun j hj=>xj (zO1 bt hj) iP.X;obtain⟨r,dj⟩:=nmd (R.getD k rt0);rw[dj.X]at h1 h2 h3 iw lD gd ia i7 eZ bM nb kY;have du:0<k->∃p,(R.getD (k - 1) rt0).v=p/\wr.cell? ⟨b,off+(k - 1)*2,none⟩=some (ze zd p):=fun h0=>by
    obtain⟨b',aT,e,Ph,_,_⟩:=Iw (k - 1) (by omega);simp at e;obtain⟨rfl,rfl⟩:=e;exact⟨_,rfl,Ph⟩
   have cJ:Hid _:=du;obtain⟨jI,pX⟩:=nmd r.a;rw[pX.X]at h2 h3 iw;have IR:=za4 h3;have IW:=za4 iw;clear h3 iw bH Iw du bt;obtain⟨q,HQ⟩:=nmd r.ids.length;rw[HQ.X]at h2 lD gd ia bM kY;obtain⟨d0,d1⟩:=za1 CW.2.2
   go_wp2_with fail
   clear d0 d1;have BX:Hid (Below wr.heap.size wr (wr.alloc (zg #[ze zd r.v,za jI q r.c] 80))):=zP _;have GX:Hid ((wr.alloc (zg #[ze zd r.v,za jI q r.c] 80)).heap[wr.heap.size]? =_):=zS _ _;generalize(wr.alloc _)=W1 at*;have CX:=za4 (CW.below BX.X);have IX:=za4 (IR.below BX.X);have CK:=za4 (zb9 OW.X BX.X);have SX:Hid (base<=W1.heap.size):=xj SZ.X BX.size;have Gp:Hid (0<k->∃p,(R.getD (k - 1) rt0).v=p/\W1.cell? ⟨b,off+(k - 1)*2,none⟩=some (ze zd p)):=fun h0=>by
    obtain⟨p,e,hc⟩:=cJ.X h0;exact⟨p,e,(BX.cell (p:=⟨b,off+(k - 1)*2,none⟩) (zV hc)).trans hc⟩
   generalize wr.heap.size=g8 at*;clear h1 h2 CW IR OW SZ cJ BX;obtain⟨c0,c1,c2,c3,c4⟩:=za7 CX.2.1;obtain⟨d0,d1⟩:=za1 CX.2.2;obtain⟨x0,x1⟩:=za1 GX.X;have s0:=fun s:Kin W1=>s.cell c0;have s1:=fun s:Kin W1=>s.cell c1;have s2:=fun s:Kin W1=>s.cell c2;have s3:=fun s:Kin W1=>s.cell c3;have s4:=fun s:Kin W1=>s.cell c4;have t0:=fun s:Kin W1=>s.cell d0;have y0:=fun s:Kin W1=>s.cell x0;have y1:=fun s:Kin W1=>s.cell x1;clear c0 c1 c2 c3 c4 d0 d1 x0 x1;have lu:Hid (∀(s:Kin W1) (vb:Bool),decide (codeV true n zs os vs ko kv r.v r.ids=0)=vb->Calls zh 86 #[.agg #[ze zd n,za a zs.length ac,za ao ko co,za av kv cv,ze zd fine],.agg #[ze zd r.v,za jI q r.c]] s.w fun e w'=>e=.returned (.bool vb)/\∃s':Kin W1,w'=s'.w):=fun s vb eY=>by
    have:=z41 n fine r.v a ao av jI ac ko co kv cv r.c zs os vs r.ids s.w ((HA.below CX.1).below s.below) ((HO.below CX.1).below s.below) ((HV.below CX.1).below s.below) (IX.below s.below) aF.X aD.X ay aB (by rw[HQ.X];omega) (by rw[HQ.X];exact gd.X) vb (by rw[HC.X];exact eY);rw[HQ.X]at this;exact Kin.call this
   have aV:=Kin.there W1;have fX:Hid ((0<k->(R.getD (k - 1) rt0).v<r.v)∨(0<k/\¬(R.getD (k - 1) rt0).v<r.v)):=by
    show _∨_;by_cases h0:0<k
    ·by_cases h:(R.getD (k - 1) rt0).v<r.v
     ·exact .inl fun _=>h
     ·exact .inr ⟨h0,h⟩
    ·exact .inl fun h=>absurd h h0
   by_cases eC:0<k
   ·obtain⟨p,Dg,eI⟩:=Gp.X eC
    have Ge:=za4 Dg;have tp:=fun s:Kin W1=>s.cell eI;have iA:k - 1<m:=by omega
    have iU:IntKind.i64.wrap ((k:Int) - 1)=((k - 1:Nat):Int):=by rw[xu];omega
    clear Dg eI;by_cases hp:p<r.v
    ·have wO:decide (r.v<=p)=false:=by simp;omega
     by_cases hq:q=0
     ·have HE:Hid (v=2):=ia.X hq
      have jq:((q:Int)==0)=true:=by simp[hq]
      refine zb1 (by kernel_rfl) (by kernel_rfl) ?_
      repeat(go_big_quiet_step (fail))
      refine xA ?_;rintro _ ⟨s,rfl⟩;have C3:=za4 (CX.below s.below);generalize s.w=w3 at*;go_wp2;go_ret;exact⟨by rw[HE.X];rfl,C3.1⟩
     ·have jq:((q:Int)==0)=false:=by simp;omega
      obtain⟨b2,cV,rfl,-⟩:=IW.X 0 (by rw[HQ.X];omega);by_cases aG:¬codeV true n zs os vs ko kv r.v r.ids=0
      ·have HE:Hid (v=2):=i7.X aG
       have ny:Hid _:=aG;clear aG;refine zb1 (by kernel_rfl) (by kernel_rfl) ?_
       repeat(go_big_quiet_step ((go_at_call 86;exact lu.X _ _ (zX ny.X))))
       refine xA ?_;rintro _ ⟨s,rfl⟩;have C3:=za4 (CX.below s.below);generalize s.w=w3 at*;go_wp2;go_ret;exact⟨by rw[HE.X];rfl,C3.1⟩
      ·have aG:=Decidable.not_not.1 aG
       have wS:Hid (zi6 n zs os vs ko kv R (k+1)):=bM.X (fun _=>by rw[Ge.X];exact hp) hq aG;have ny:Hid _:=aG;clear aG;refine zb1 (by kernel_rfl) (by kernel_rfl) ?_
       repeat(go_big_quiet_step ((go_at_call 86;exact lu.X _ _ (zW ny.X))))
       refine xA ?_;rintro _ ⟨s,rfl⟩;have C3:=za4 (CX.below s.below);have G3:=za4 (za0 s.below (za2 GX.X) GX.X);have I3:=za4 (IX.below s.below);have O3:=za4 (zb9 CK.X s.below);have Z3:=za4 (xj SX.X s.below.size);generalize s.w=w3 at*;clear s0 s1 s2 s3 s4 t0 y0 y1 CX GX IX CK SX lu aV bM ia i7 eZ gd Gp hq jq aG ny fX OK I3;clear tp iA iU hp wO eC Ge
       go_wp2_with fail
       go_loopw[5,6,9] (fun ts tt ti wr=>∃(j:Nat) (tw:Bool),j<=q/\ti=ze zd j/\tt=.bool tw/\Tw tw (zb0 R k++r.ids.take j)/\wr.ownsRow base 2 1 ts (zb0 R k++r.ids.take j).length ((zb0 R k++r.ids.take j).map (ze zd))/\CP w wr #[ze zd n,za a zs.length ac,za ao ko co,za av kv cv,ze zd fine] #[za (some ⟨b,off,none⟩) m rc,za la ml lc]/\base<=wr.heap.size/\wr.heap[g8]? =some (zg #[ze zd r.v,za (some ⟨b2,cV,none⟩) q r.c] 80 (0,0))) (fun _ _ ti _=>q - (intOf ti).toNat)
       case atStart=>exact⟨0,tw,xi _,rfl,rfl,by rw[qM,qK];exact TW.X,by rw[qM,qK];exact O3.X,C3.X,Z3.X,G3.X⟩
       case round=>
        clear C3 O3 Z3 G3 TW;obtain⟨j,lO,hj,rfl,rfl,gY,ae,cN,bU,sL⟩:=hrel;have lJ:=za4 bU;have p_:=za4 cN;have lB:=za4 sL;have jN:=za4 (kY.X j hj);by_cases hjq:j<q
        ·have jy:j<r.ids.length:=by rw[HQ.X];exact hjq
         have eD:Hid (zb0 R k++r.ids.take (j+1)=(zb0 R k++r.ids.take j)++[r.ids.getD j 0]):=by show _=_;rw[zf5 _ _ jy,yi]
         obtain⟨fl,fd⟩:=nmd (zb0 R k++r.ids.take j);obtain⟨id,bG⟩:=nmd (r.ids.getD j 0);rw[bG.X]at eD;have fE:=zs6 (IW.below cN.1) jy bG.X;rw[fd.X]at gY ae jN eD;have sr:=za4 gY;obtain⟨sa,sc,rfl,FA,rZ⟩:=zr9 ae;have jQ:=za4 ae;have SI:=za4 rZ;have js:fl.length<=1048576:=jN.X;have mE:=za4 (zt4 fl id);clear gY ae cN bU sL rZ FA jy jN;obtain⟨bb,rh⟩:=nmd (decide (id∈fl));rw[rh.X]at mE;have ou:Hid (Tw (lO||bb) (zb0 R k++r.ids.take (j+1))):=by
          have:=sr.step id;rw[rh.X]at this;rw[eD.X];exact this
         obtain⟨nf,mn⟩:=nmd fl.length;have dI:=z40 sa fl.length sc id fl wr bb mE.X SI.X (zT _) (by omega);rw[mn.X]at js jQ dI⊢;obtain⟨x0,x1⟩:=za1 lB.X;cases lO
         ·go_wp2_with(first
           |(go_at_call 87;refine dI.mono ?_;rintro e w' ⟨rfl,rfl⟩)
           |(at_builtin;refine zs1 _ rfl _ _ rfl base (za sa nf sc) nf _ rfl (jQ.alloc _) _ _ (ze zd id) rfl (zr0 _ _ _ _ (by simp)) rfl (by omega) (xj lJ.X (by simp)) ?_;intro v' w4 hown4 aI)
           |go_in)
          have CA:Hid (CP w _ #[ze zd n,za a zs.length ac,za ao ko co,za av kv cv,ze zd fine] #[za (some ⟨b,off,none⟩) m rc,za la ml lc]):=p_.below (zP (zg #[ze zd id] 2));have GA:Hid _:=za0 (zP (zg #[ze zd id] 2)) (za2 lB.X) lB.X;have CB:Hid (CP w w4 #[ze zd n,za a zs.length ac,za ao ko co,za av kv cv,ze zd fine] #[za (some ⟨b,off,none⟩) m rc,za la ml lc]):=CA.grow (jQ.alloc _) kV.X aI;have GB:Hid (w4.heap[g8]? =_):=za6 aI GA.X (zl9 (jQ.alloc _) GA.X (by decide));have ZB:Hid (base<=w4.heap.size):=by
           have h1:=aI.size;have h2:=lJ.X;simp at h1;show _<=_;omega
          have OB:Hid (w4.ownsRow base 2 1 v' (zb0 R k++r.ids.take (j+1)).length ((zb0 R k++r.ids.take (j+1)).map (ze zd))):=by
           rw[eD.X,xS,qJ,mn.X];exact hown4
          clear CA GA;go_roundw
          case rel=>exact⟨j+1,_,by omega,by go_num,rfl,ou.X,OB.X,CB.X,ZB.X,GB.X⟩
          case measure=>simp[intOf];omega
         ·go_wp2_with(first
           |(at_builtin;refine zs1 _ rfl _ _ rfl base (za sa nf sc) nf _ rfl (jQ.alloc _) _ _ (ze zd id) rfl (zr0 _ _ _ _ (by simp)) rfl (by omega) (xj lJ.X (by simp)) ?_;intro v' w4 hown4 aI)
           |go_in)
          have CA:Hid (CP w _ #[ze zd n,za a zs.length ac,za ao ko co,za av kv cv,ze zd fine] #[za (some ⟨b,off,none⟩) m rc,za la ml lc]):=p_.below (zP (zg #[ze zd id] 2));have GA:Hid _:=za0 (zP (zg #[ze zd id] 2)) (za2 lB.X) lB.X;have CB:Hid (CP w w4 #[ze zd n,za a zs.length ac,za ao ko co,za av kv cv,ze zd fine] #[za (some ⟨b,off,none⟩) m rc,za la ml lc]):=CA.grow (jQ.alloc _) kV.X aI;have GB:Hid (w4.heap[g8]? =_):=za6 aI GA.X (zl9 (jQ.alloc _) GA.X (by decide));have ZB:Hid (base<=w4.heap.size):=by
           have h1:=aI.size;have h2:=lJ.X;simp at h1;show _<=_;omega
          have OB:Hid (w4.ownsRow base 2 1 v' (zb0 R k++r.ids.take (j+1)).length ((zb0 R k++r.ids.take (j+1)).map (ze zd))):=by
           rw[eD.X,xS,qJ,mn.X];exact hown4
          clear CA GA;go_roundw
          case rel=>exact⟨j+1,_,by omega,by go_num,rfl,ou.X,OB.X,CB.X,ZB.X,GB.X⟩
          case measure=>simp[intOf];omega
        ·have i_:j=q:=by omega
         have vi:Hid (zb0 R k++r.ids.take j=zb0 R (k+1)):=by
          show _=_;rw[nb.X,i_,<-HQ.X,ym]
         rw[vi.X]at gY ae;have BJ:=za4 gY;have ws:=za4 ae;obtain⟨x0,x1⟩:=za1 lB.X;clear i_ gY ae cN bU sL;go_wp2
         first
          |exact⟨⟨k+1,lO,by omega,by go_num,rfl,BJ.X,wS.X,ws.X,p_.X,lJ.X⟩,by simp[intOf];omega⟩
          |(go_roundw
            case rel=>exact⟨k+1,lO,by omega,by go_num,rfl,BJ.X,wS.X,ws.X,p_.X,lJ.X⟩
            case measure=>simp[intOf];omega)
    ·have HE:Hid (v=2):=eZ.X eC (by rw[Ge.X];first|exact hp|omega)
     have wO:decide (r.v<=p)=true:=by simp;omega
     refine zb1 (by kernel_rfl) (by kernel_rfl) ?_
     repeat(go_big_quiet_step (fail))
     refine xA ?_;rintro _ ⟨s,rfl⟩;have C3:=za4 (CX.below s.below);generalize s.w=w3 at*;go_wp2;go_ret;exact⟨by rw[HE.X];rfl,C3.1⟩
   ·have vR:(decide (0<k))=false:=by simp;omega
    have eJ:k<=0:=by omega
    by_cases hq:q=0
    ·have HE:Hid (v=2):=ia.X hq
     have jq:((q:Int)==0)=true:=by simp[hq]
     refine zb1 (by kernel_rfl) (by kernel_rfl) ?_
     repeat(go_big_quiet_step (fail))
     refine xA ?_;rintro _ ⟨s,rfl⟩;have C3:=za4 (CX.below s.below);generalize s.w=w3 at*;go_wp2;go_ret;exact⟨by rw[HE.X];rfl,C3.1⟩
    ·have jq:((q:Int)==0)=false:=by simp;omega
     obtain⟨b2,cV,rfl,-⟩:=IW.X 0 (by rw[HQ.X];omega);by_cases aG:¬codeV true n zs os vs ko kv r.v r.ids=0
     ·have HE:Hid (v=2):=i7.X aG
      have ny:Hid _:=aG;clear aG;refine zb1 (by kernel_rfl) (by kernel_rfl) ?_
      repeat(go_big_quiet_step ((go_at_call 86;exact lu.X _ _ (zX ny.X))))
      refine xA ?_;rintro _ ⟨s,rfl⟩;have C3:=za4 (CX.below s.below);generalize s.w=w3 at*;go_wp2;go_ret;exact⟨by rw[HE.X];rfl,C3.1⟩
     ·have aG:=Decidable.not_not.1 aG
      have wS:Hid (zi6 n zs os vs ko kv R (k+1)):=bM.X (fun h=>absurd h eC) hq aG;have ny:Hid _:=aG;clear aG;refine zb1 (by kernel_rfl) (by kernel_rfl) ?_
      repeat(go_big_quiet_step ((go_at_call 86;exact lu.X _ _ (zW ny.X))))
      refine xA ?_;rintro _ ⟨s,rfl⟩;have C3:=za4 (CX.below s.below);have G3:=za4 (za0 s.below (za2 GX.X) GX.X);have I3:=za4 (IX.below s.below);have O3:=za4 (zb9 CK.X s.below);have Z3:=za4 (xj SX.X s.below.size);generalize s.w=w3 at*;clear s0 s1 s2 s3 s4 t0 y0 y1 CX GX IX CK SX lu aV bM ia i7 eZ gd Gp hq jq aG ny fX OK I3;clear vR eJ eC
      go_wp2_with fail
      go_loopw[5,6,9] (fun ts tt ti wr=>∃(j:Nat) (tw:Bool),j<=q/\ti=ze zd j/\tt=.bool tw/\Tw tw (zb0 R k++r.ids.take j)/\wr.ownsRow base 2 1 ts (zb0 R k++r.ids.take j).length ((zb0 R k++r.ids.take j).map (ze zd))/\CP w wr #[ze zd n,za a zs.length ac,za ao ko co,za av kv cv,ze zd fine] #[za (some ⟨b,off,none⟩) m rc,za la ml lc]/\base<=wr.heap.size/\wr.heap[g8]? =some (zg #[ze zd r.v,za (some ⟨b2,cV,none⟩) q r.c] 80 (0,0))) (fun _ _ ti _=>q - (intOf ti).toNat)
      case atStart=>exact⟨0,tw,xi _,rfl,rfl,by rw[qM,qK];exact TW.X,by rw[qM,qK];exact O3.X,C3.X,Z3.X,G3.X⟩
      case round=>
       clear C3 O3 Z3 G3 TW;obtain⟨j,lO,hj,rfl,rfl,gY,ae,cN,bU,sL⟩:=hrel;have lJ:=za4 bU;have p_:=za4 cN;have lB:=za4 sL;have jN:=za4 (kY.X j hj);by_cases hjq:j<q
       ·have jy:j<r.ids.length:=by rw[HQ.X];exact hjq
        have eD:Hid (zb0 R k++r.ids.take (j+1)=(zb0 R k++r.ids.take j)++[r.ids.getD j 0]):=by show _=_;rw[zf5 _ _ jy,yi]
        obtain⟨fl,fd⟩:=nmd (zb0 R k++r.ids.take j);obtain⟨id,bG⟩:=nmd (r.ids.getD j 0);rw[bG.X]at eD;have fE:=zs6 (IW.below cN.1) jy bG.X;rw[fd.X]at gY ae jN eD;have sr:=za4 gY;obtain⟨sa,sc,rfl,FA,rZ⟩:=zr9 ae;have jQ:=za4 ae;have SI:=za4 rZ;have js:fl.length<=1048576:=jN.X;have mE:=za4 (zt4 fl id);clear gY ae cN bU sL rZ FA jy jN;obtain⟨bb,rh⟩:=nmd (decide (id∈fl));rw[rh.X]at mE;have ou:Hid (Tw (lO||bb) (zb0 R k++r.ids.take (j+1))):=by
         have:=sr.step id;rw[rh.X]at this;rw[eD.X];exact this
        obtain⟨nf,mn⟩:=nmd fl.length;have dI:=z40 sa fl.length sc id fl wr bb mE.X SI.X (zT _) (by omega);rw[mn.X]at js jQ dI⊢;obtain⟨x0,x1⟩:=za1 lB.X;cases lO
        ·go_wp2_with(first
          |(go_at_call 87;refine dI.mono ?_;rintro e w' ⟨rfl,rfl⟩)
          |(at_builtin;refine zs1 _ rfl _ _ rfl base (za sa nf sc) nf _ rfl (jQ.alloc _) _ _ (ze zd id) rfl (zr0 _ _ _ _ (by simp)) rfl (by omega) (xj lJ.X (by simp)) ?_;intro v' w4 hown4 aI)
          |go_in)
         have CA:Hid (CP w _ #[ze zd n,za a zs.length ac,za ao ko co,za av kv cv,ze zd fine] #[za (some ⟨b,off,none⟩) m rc,za la ml lc]):=p_.below (zP (zg #[ze zd id] 2));have GA:Hid _:=za0 (zP (zg #[ze zd id] 2)) (za2 lB.X) lB.X;have CB:Hid (CP w w4 #[ze zd n,za a zs.length ac,za ao ko co,za av kv cv,ze zd fine] #[za (some ⟨b,off,none⟩) m rc,za la ml lc]):=CA.grow (jQ.alloc _) kV.X aI;have GB:Hid (w4.heap[g8]? =_):=za6 aI GA.X (zl9 (jQ.alloc _) GA.X (by decide));have ZB:Hid (base<=w4.heap.size):=by
          have h1:=aI.size;have h2:=lJ.X;simp at h1;show _<=_;omega
         have OB:Hid (w4.ownsRow base 2 1 v' (zb0 R k++r.ids.take (j+1)).length ((zb0 R k++r.ids.take (j+1)).map (ze zd))):=by
          rw[eD.X,xS,qJ,mn.X];exact hown4
         clear CA GA;go_roundw
         case rel=>exact⟨j+1,_,by omega,by go_num,rfl,ou.X,OB.X,CB.X,ZB.X,GB.X⟩
         case measure=>simp[intOf];omega
        ·go_wp2_with(first
          |(at_builtin;refine zs1 _ rfl _ _ rfl base (za sa nf sc) nf _ rfl (jQ.alloc _) _ _ (ze zd id) rfl (zr0 _ _ _ _ (by simp)) rfl (by omega) (xj lJ.X (by simp)) ?_;intro v' w4 hown4 aI)
          |go_in)
         have CA:Hid (CP w _ #[ze zd n,za a zs.length ac,za ao ko co,za av kv cv,ze zd fine] #[za (some ⟨b,off,none⟩) m rc,za la ml lc]):=p_.below (zP (zg #[ze zd id] 2));have GA:Hid _:=za0 (zP (zg #[ze zd id] 2)) (za2 lB.X) lB.X;have CB:Hid (CP w w4 #[ze zd n,za a zs.length ac,za ao ko co,za av kv cv,ze zd fine] #[za (some ⟨b,off,none⟩) m rc,za la ml lc]):=CA.grow (jQ.alloc _) kV.X aI;have GB:Hid (w4.heap[g8]? =_):=za6 aI GA.X (zl9 (jQ.alloc _) GA.X (by decide));have ZB:Hid (base<=w4.heap.size):=by
          have h1:=aI.size;have h2:=lJ.X;simp at h1;show _<=_;omega
         have OB:Hid (w4.ownsRow base 2 1 v' (zb0 R k++r.ids.take (j+1)).length ((zb0 R k++r.ids.take (j+1)).map (ze zd))):=by
          rw[eD.X,xS,qJ,mn.X];exact hown4
         clear CA GA;go_roundw
         case rel=>exact⟨j+1,_,by omega,by go_num,rfl,ou.X,OB.X,CB.X,ZB.X,GB.X⟩
         case measure=>simp[intOf];omega
       ·have i_:j=q:=by omega
        have vi:Hid (zb0 R k++r.ids.take j=zb0 R (k+1)):=by
         show _=_;rw[nb.X,i_,<-HQ.X,ym]
        rw[vi.X]at gY ae;have BJ:=za4 gY;have ws:=za4 ae;obtain⟨x0,x1⟩:=za1 lB.X;clear i_ gY ae cN bU sL;go_wp2
        first
         |exact⟨⟨k+1,lO,by omega,by go_num,rfl,BJ.X,wS.X,ws.X,p_.X,lJ.X⟩,by simp[intOf];omega⟩
         |(go_roundw
           case rel=>exact⟨k+1,lO,by omega,by go_num,rfl,BJ.X,wS.X,ws.X,p_.X,lJ.X⟩
           case measure=>simp[intOf];omega)
  ·have iA:k=m:=by omega
   have Ee:Hid (Tw tw (zb0 R m)):=iA▸TW.X;have Bc:Hid (zi6 n zs os vs ko kv R R.length):=HN.symm▸iA▸OK.X;have Hp:=za4 (iA▸OW.X);clear iA TW OK OW;have AF:Hid (zb0 R R.length=zb0 R m):=by show _=_;rw[HN.X]
   obtain⟨fl,fd⟩:=nmd (zb0 R m);rw[fd.X]at Ee Hp AF;obtain⟨sa,sc,rfl,-,rZ⟩:=zr9 Hp.X;have SI:=za4 rZ;have js:fl.length<=1048576:=by rw[<-AF.X];exact iP.X
   clear rZ Hp;obtain⟨nf,mn⟩:=nmd fl.length;rw[mn.X]at js⊢;obtain⟨d0,d1⟩:=za1 CW.2.2
   go_wp2_with fail
   go_loop [6,10] (fun tt ti=>∃(j:Nat) (tw:Bool),j<=ml/\ti=ze zd j/\tt=.bool tw/\TwL tw fl L j) (fun _ ti=>ml - (intOf ti).toNat)
   case atStart=>exact⟨0,tw,xi _,rfl,rfl,TwL.start Ee.X L⟩
   case round=>
    clear Ee;obtain⟨j,lO,hj,rfl,rfl,gY⟩:=hrel;have sr:=za4 gY;clear gY;by_cases jy:j<ml
    ·have sI:j<L.length:=by rw[HM.X];exact jy
     obtain⟨b2,cV,rfl,fE⟩:=(HL.below CW.1) j sI;have ou:=sr.step;obtain⟨id,bG⟩:=nmd (L.getD j 0);rw[bG.X]at fE ou;obtain⟨bb,rh⟩:=nmd (decide (id∈fl));rw[rh.X]at ou;have vN:Hid _:=ou;have dI:=z40 sa fl.length sc id fl wr bb ((zt4 fl id).trans rh.X) SI.X (zT _) (by rw[mn.X];omega);rw[mn.X]at dI;clear ou sI;cases lO
     ·go_wp2_with(go_at_call 87;refine dI.mono ?_;rintro e w' ⟨rfl,rfl⟩)
      exact⟨⟨j+1,_,by omega,by go_num,rfl,vN.X⟩,by simp[intOf];omega⟩
     ·go_wp2
      exact⟨⟨j+1,_,by omega,by go_num,rfl,vN.X⟩,by simp[intOf];omega⟩
    ·have nT:j=L.length:=by rw[HM.X];omega
     have Er:Hid (lO=true↔¬yc9 fl L):=TwL.done (nT▸sr.X);clear nT;cases lO
     ·have ON:Hid (yc9 (zb0 R R.length) L):=by
       rw[AF.X];show yc9 fl L;exact Classical.not_not.1 fun h=>by have:=Er.2 h;cases this
      clear Er sr
      go_wp2_with fail
      clear d0 d1;go_loopw[11] (fun ti wr=>∃j:Nat,j<=ml/\ti=ze zd j/\zg5 os ko L j/\CP w wr #[ze zd n,za a zs.length ac,za ao ko co,za av kv cv,ze zd fine] #[za ra m rc,za la ml lc]) (fun ti _=>ml - (intOf ti).toNat)
      case atStart=>exact⟨0,xi _,rfl,zg5.zero _ _ _,CW.X⟩
      case round=>
       clear CW SI hj jy;obtain⟨j,hj,rfl,an,cN⟩:=hrel;have LO:=za4 an;have gO:=za4 cN;clear an cN;by_cases jy:j<ml
       ·have sI:j<L.length:=by rw[HM.X];exact jy
        obtain⟨b2,cV,rfl,fE⟩:=(HL.below gO.1) j sI;have JS:=HL.below gO.1;have mY:Hid (zl6 os ko (L.getD j 0)=false->v=4):=fun h=>de.symm.trans (zQ5 HC.X Bc.X ON.X (fun H=>by rw[(H.1 j sI).1]at h;cases h))
        have rY:Hid (0<j->¬L.getD (j - 1) 0<L.getD j 0->v=4):=fun h0 h=>de.symm.trans (zQ5 HC.X Bc.X ON.X (fun H=>h ((H.1 j sI).2 h0)));have bM:Hid (zl6 os ko (L.getD j 0)=true->(0<j->L.getD (j - 1) 0<L.getD j 0)->zg5 os ko L (j+1)):=fun h1 h2=>LO.step h1 h2;obtain⟨id,bG⟩:=nmd (L.getD j 0);rw[bG.X]at fE mY rY bM;have NH:=za4 JS;obtain⟨o0,H0⟩:=nmd (zd1 os ko id 0);obtain⟨o1,H1⟩:=nmd (zd1 os ko id 1);obtain⟨o2,H2⟩:=nmd (zd1 os ko id 2);obtain⟨o3,H3⟩:=nmd (zd1 os ko id 3);obtain⟨o4,H4⟩:=nmd (zd1 os ko id 4);obtain⟨o5,H5⟩:=nmd (zd1 os ko id 5);obtain⟨tt,eQ⟩:=nmd (zl6 os ko id);rw[eQ.X]at mY bM;obtain⟨c0,c1,c2,c3,c4⟩:=za7 gO.2.1;obtain⟨d0,d1⟩:=za1 gO.2.2;clear JS
        go_wp2_with fail
        have ii:=za4 fE;have gT:Hid ((wr.alloc (zg #[ze zd 0,ze zd 0,ze zd 0,ze zd 0,ze zd 0,ze zd 0] 103)).cell? ⟨b2,cV+j,none⟩=_):=(((y5 wr.heap.size wr).alloc (zT _) _).cell (p:=⟨b2,cV+j,none⟩) (zV fE)).trans fE;have cQ:=zV fE;simp at cQ;have aE:=za2 gO.2.1;have dX:=za2 gO.2.2
        go_region_held3 (fun W=>W.cell? ⟨w.heap.size,0,none⟩=some (ze zd n)/\W.cell? ⟨w.heap.size,1,none⟩=some (za a zs.length ac)/\W.cell? ⟨w.heap.size,2,none⟩=some (za ao ko co)/\W.cell? ⟨w.heap.size,3,none⟩=some (za av kv cv)/\W.cell? ⟨w.heap.size,4,none⟩=some (ze zd fine)/\W.cell? ⟨w.heap.size+1,1,none⟩=some (za (some ⟨b2,cV,none⟩) ml lc)/\W.cell? ⟨b2,cV+j,none⟩=some (ze zd id)) (first|with_reducible exact kS|with_reducible exact⟨(za5 (za5 (za5 (za5 (za5 (za5 kS.1 (y8 aE)) (y8 aE)) (y8 aE)) (y8 aE)) (y8 aE)) (y8 aE)),(za5 (za5 (za5 (za5 (za5 (za5 kS.2.1 (y8 aE)) (y8 aE)) (y8 aE)) (y8 aE)) (y8 aE)) (y8 aE)),(za5 (za5 (za5 (za5 (za5 (za5 kS.2.2.1 (y8 aE)) (y8 aE)) (y8 aE)) (y8 aE)) (y8 aE)) (y8 aE)),(za5 (za5 (za5 (za5 (za5 (za5 kS.2.2.2.1 (y8 aE)) (y8 aE)) (y8 aE)) (y8 aE)) (y8 aE)) (y8 aE)),(za5 (za5 (za5 (za5 (za5 (za5 kS.2.2.2.2.1 (y8 aE)) (y8 aE)) (y8 aE)) (y8 aE)) (y8 aE)) (y8 aE)),(za5 (za5 (za5 (za5 (za5 (za5 kS.2.2.2.2.2.1 (y8 dX)) (y8 dX)) (y8 dX)) (y8 dX)) (y8 dX)) (y8 dX)),(za5 (za5 (za5 (za5 (za5 (za5 kS.2.2.2.2.2.2 (y8 cQ)) (y8 cQ)) (y8 cQ)) (y8 cQ)) (y8 cQ)) (y8 cQ))⟩|go_keep) ((first
         |(go_at_call 88
           with_reducible refine(zr6 n fine id a ao av _ ac ko co kv cv os wr.drew ?_ aF.X ay).mono ?_
           ·exact HO.below gO.drew.1
           rintro e w2 ⟨rfl,aC⟩;rw[H0.X,H1.X,H2.X,H3.X,H4.X,H5.X,eQ.X];have aR:=CP.below gO.drew aC;obtain⟨k0,k1,k2,k3,k4⟩:=za7 aR.2.1;have k5:=(za1 aR.2.2).2;have k6:=(aC.cell (p:=⟨b2,cV+j,none⟩) (zV ii.X)).trans ii.X;have kS:=xr k0 (xr k1 (xr k2 (xr k3 (xr k4 (xr k5 k6)))));have fF:=za4 aR;clear aC aR k0 k1 k2 k3 k4 k5 k6)
         |(go_at_call 88
           with_reducible refine(zr6 n fine id a ao av _ ac ko co kv cv os (wr.alloc (zg #[ze zd 0,ze zd 0,ze zd 0,ze zd 0,ze zd 0,ze zd 0] 103)).drew ?_ aF.X ay).mono ?_
           ·exact HO.below (CP.drew (CP.alloc gO.X (zg #[ze zd 0,ze zd 0,ze zd 0,ze zd 0,ze zd 0,ze zd 0] 103))).1
           rintro e w2 ⟨rfl,aC⟩;rw[H0.X,H1.X,H2.X,H3.X,H4.X,H5.X,eQ.X];have aR:=CP.below (CP.drew (CP.alloc gO.X (zg #[ze zd 0,ze zd 0,ze zd 0,ze zd 0,ze zd 0,ze zd 0] 103))) aC;obtain⟨k0,k1,k2,k3,k4⟩:=za7 aR.2.1;have k5:=(za1 aR.2.2).2;have k6:=(aC.cell (p:=⟨b2,cV+j,none⟩) (zV gT.X)).trans gT.X;have kS:=xr k0 (xr k1 (xr k2 (xr k3 (xr k4 (xr k5 k6)))));have fF:=za4 aR;obtain⟨z0,z1,z2,z3,z4,z5⟩:=zi2 (za0 aC (k:=wr.heap.size) (by simp) (zS wr (zg #[ze zd 0,ze zd 0,ze zd 0,ze zd 0,ze zd 0,ze zd 0] 103)));have zf:=fun i=>yZ _ _ i _ _ (za0 aC (k:=wr.heap.size) (by simp) (zS wr (zg #[ze zd 0,ze zd 0,ze zd 0,ze zd 0,ze zd 0,ze zd 0] 103)))
           clear aC aR k0 k1 k2 k3 k4 k5 k6)))
        all_goals(first
         |(have ee:Hid (CP w (zj (zj (zj (zj (zj (zj w2 ⟨wr.heap.size,0,none⟩ (ze zd o0)) ⟨wr.heap.size,1,none⟩ (ze zd o1)) ⟨wr.heap.size,2,none⟩ (ze zd o2)) ⟨wr.heap.size,3,none⟩ (ze zd o3)) ⟨wr.heap.size,4,none⟩ (ze zd o4)) ⟨wr.heap.size,5,none⟩ (ze zd o5)) #[ze zd n,za a zs.length ac,za ao ko co,za av kv cv,ze zd fine] #[za ra m rc,za (some ⟨b2,cV,none⟩) ml lc]):=(CP.set (CP.set (CP.set (CP.set (CP.set (CP.set fF.X gO.big) gO.big) gO.big) gO.big) gO.big) gO.big)
           clear kS fF ii gT fE z0 z1 z2 z3 z4 z5 zf;generalize(zj (zj (zj (zj (zj (zj w2 ⟨wr.heap.size,0,none⟩ (ze zd o0)) ⟨wr.heap.size,1,none⟩ (ze zd o1)) ⟨wr.heap.size,2,none⟩ (ze zd o2)) ⟨wr.heap.size,3,none⟩ (ze zd o3)) ⟨wr.heap.size,4,none⟩ (ze zd o4)) ⟨wr.heap.size,5,none⟩ (ze zd o5))=W at*;generalize wr.heap.size=g at*)
         |(have ee:Hid (CP w (w2.alloc (zg #[ze zd o0,ze zd o1,ze zd o2,ze zd o3,ze zd o4,ze zd o5] 103)) #[ze zd n,za a zs.length ac,za ao ko co,za av kv cv,ze zd fine] #[za ra m rc,za (some ⟨b2,cV,none⟩) ml lc]):=CP.alloc fF.X _
           clear kS fF ii gT fE;generalize w2.alloc _=W at*;generalize w2.heap.size=g at*))
        all_goals
         clear c0 c1 c2 c3 c4 d0 d1 aE dX cQ;have q1:=(za1 ee.2.2).2;have Cf:=zs6 (HL.below ee.1) sI bG.X;have t0:=fun s:Kin W=>s.cell q1;have t1:=fun s:Kin W=>s.cell Cf;have aV:=Kin.there W;cases tt
         ·have HE:Hid (v=4):=mY.X rfl
          go_wp2_with fail
          refine zb1 (by kernel_rfl) (by kernel_rfl) ?_
          repeat(go_big_quiet_step (fail))
          refine xA ?_;rintro _ ⟨s,rfl⟩;have d9:=za4 (ee.below s.below);generalize s.w=w3 at*;go_wp2;go_ret;exact⟨by rw[HE.X];rfl,d9.1⟩
         ·by_cases mu:0<j
          ·obtain⟨p,HP⟩:=nmd (L.getD (j - 1) 0)
           have LK:=zs6 (HL.below ee.1) (j:=j - 1) (by omega) HP.X;have t2:=fun s:Kin W=>s.cell LK;have iU:IntKind.i64.wrap ((j:Int) - 1)=((j - 1:Nat):Int):=by rw[xu];omega
           have OP:j - 1<ml:=by omega
           by_cases hp:p<id
           ·have FM:Hid (zg5 os ko L (j+1)):=bM.X rfl (fun _=>by rw[HP.X];exact hp)
            have wO:decide (id<=p)=false:=by simp;omega
            go_wp2_with fail
            refine zb1 (by kernel_rfl) (by kernel_rfl) ?_
            repeat(go_big_quiet_step (fail))
            refine xA ?_;rintro _ ⟨s,rfl⟩;have d9:=za4 (ee.below s.below);generalize s.w=w3 at*;go_wp2;exact⟨⟨j+1,by omega,by go_num,FM.X,d9.X⟩,by simp[intOf];omega⟩
           ·have HE:Hid (v=4):=rY.X mu (by rw[HP.X];first|exact hp|omega)
            have wO:decide (id<=p)=true:=by simp;omega
            go_wp2_with fail
            refine zb1 (by kernel_rfl) (by kernel_rfl) ?_
            repeat(go_big_quiet_step (fail))
            refine xA ?_;rintro _ ⟨s,rfl⟩;have d9:=za4 (ee.below s.below);generalize s.w=w3 at*;go_wp2;go_ret;exact⟨by rw[HE.X];rfl,d9.1⟩
          ·have FM:Hid (zg5 os ko L (j+1)):=bM.X rfl (fun h=>absurd h mu)
           have vR:(decide (0<j))=false:=by simp;omega
           have eJ:j<=0:=by omega
           go_wp2_with fail
           refine zb1 (by kernel_rfl) (by kernel_rfl) ?_
           repeat(go_big_quiet_step (fail))
           refine xA ?_;rintro _ ⟨s,rfl⟩;have d9:=za4 (ee.below s.below);generalize s.w=w3 at*;go_wp2;exact⟨⟨j+1,by omega,by go_num,FM.X,d9.X⟩,by simp[intOf];omega⟩
       ·have nT:j=L.length:=by rw[HM.X];omega
        have PM:Hid (zg5 os ko L L.length):=nT▸LO.X;have AD:Hid ((zb0 R R.length).length+L.length=nf+ml):=by show _=_;rw[AF.X,mn.X,HM.X]
        obtain⟨c0,c1,c2,c3,c4⟩:=za7 gO.2.1;obtain⟨d0,d1⟩:=za1 gO.2.2;clear nT;have hz:Hid (((nf:Int)+(ml:Int)==(ko:Int))=decide (nf+ml=ko)):=by
         show _=_;by_cases e:nf+ml=ko
         ·rw[zW e,<-e];simp
         ·rw[zX e];simp;omega
        by_cases he:nf+ml=ko
        ·have uo:((nf:Int)+(ml:Int)==(ko:Int))=true:=by rw[hz.X];exact zW he
         have HE:Hid (v=0):=de.symm.trans (zR0 HC.X Bc.X ON.X PM.X (by rw[AD.X];exact he));clear he;go_wp2;go_ret;exact⟨by rw[HE.X];rfl,gO.1⟩
        ·have uo:((nf:Int)+(ml:Int)==(ko:Int))=false:=by rw[hz.X];exact zX he
         have HE:Hid (v=4):=de.symm.trans (zQ5 HC.X Bc.X ON.X (fun h=>he (by rw[<-AD.X];exact h.2)));clear he;go_wp2;go_ret;exact⟨by rw[HE.X];rfl,gO.1⟩
     ·have HE:Hid (v=3):=de.symm.trans (yy5 HC.X Bc.X (by rw[AF.X];exact Er.1 rfl))
      go_wp2;go_ret;exact⟨by rw[HE.X];rfl,CW.1⟩
theorem z66(n fine:Int)(a ao av ra la:Option Addr)(ac ko co kv cv rc lc:Nat)(zs os vs L:List Int)(R:List RT)(w:zi)(hA:za3 w a zs)(hO:za3 w ao os)(hV:za3 w av vs)(hR:za9 w ra R)(an:os.length=ko*6)(au:vs.length=kv*5)(ay:ko<=9223372036854775807)(aB:kv<=9223372036854775807)(eg:∀r∈R,r.ids.length<=r.c)(aS:zc1 n zs os vs ko kv fine R L=0):
 Calls zh 35 #[.agg #[ze zd n,za a zs.length ac,za ao ko co,za av kv cv,ze zd fine],.agg #[za ra R.length rc,za la L.length lc]] w fun e w'=>e=.returned (ze zd (zh8 n zs os vs ko kv R (fine*L.length) R.length))/\Below w.heap.size w w':=by
 have HA:=za4 hA;have HO:=za4 hO;have HV:=za4 hV;have HR:=za4 hR;have aF:Hid _:=an;have aD:Hid _:=au;have bA:Hid _:=eg;obtain⟨bT,nZ,_,_,_⟩:=zb7 aS;obtain⟨d5,gU,vD,wL⟩:=ze6 aS;have HC:Hid _:=bT;have kD:=za4 nZ;clear hA hO hV hR an au eg bT nZ aS;obtain⟨m,HN⟩:=nmd R.length;obtain⟨ml,HM⟩:=nmd L.length;rw[HN.X]at d5 kD⊢;rw[HM.X]at gU vD wL⊢;obtain⟨z,HZ⟩:=nmd (fine*(ml:Int));rw[HZ.X]at vD wL⊢;have Ar:wrap64 (fine*(ml:Int))=z:=by rw[HZ.X];exact xB _ (by omega)
 have us:IntKind.i64.wrap (fine*(ml:Int))=z:=by rw[HZ.X];exact xz _ (by omega)
 have dG:Hid _:=z43 HC.X kD.X z;have C0:Hid (CP w ((w.alloc (zg #[ze zd n,za a zs.length ac,za ao ko co,za av kv cv,ze zd fine] 30)).alloc (zg #[za ra m rc,za la ml lc] 33)) _ _):=CP.new w _ _;obtain⟨c0,c1,c2,c3,c4⟩:=za7 C0.X.2.1;obtain⟨d0,d1⟩:=za1 C0.X.2.2;go_enter Tryz.func35,Tryz.ntmps35
 go_wp2_with fail
 clear c0 c1 c2 c3 c4 d0 d1 Ar us;generalize(w.alloc _).alloc _=W0 at*;go_loopw[5,19] (fun ts ti wr=>∃k:Nat,k<=m/\ti=ze zd k/\ts=ze zd (zh8 n zs os vs ko kv R z k)/\CP w wr #[ze zd n,za a zs.length ac,za ao ko co,za av kv cv,ze zd fine] #[za ra m rc,za la ml lc]) (fun _ ti _=>m - (intOf ti).toNat)
 case atStart=>exact⟨0,xi _,rfl,rfl,C0.X⟩
 case round=>
  clear C0;obtain⟨k,hk,rfl,rfl,cN⟩:=hrel;have CW:=za4 cN;clear cN;by_cases ah:k<m
  ·have bt:k<R.length:=by rw[HN.X];exact ah
   have bH:R.getD k rt0∈R:=by rw[zQ,zR bt];simp
   obtain⟨b,off,rfl,h1,h2,h3⟩:=(HR.X.below CW.X.1) k bt;have gd:Hid _:=bA.X _ bH;have aG:=(kD.X k ah).2.2;have dp:=dG.X (k+1) (by omega);have oR:=dG.X k hk;have bF:=(zg3 (zf3 (zg9 aG).1).2.2).1;have aY:Hid (zh8 n zs os vs ko kv R z (k+1)=zh8 n zs os vs ko kv R z k+zm2 n zs os vs ko kv (R.getD k rt0)):=rfl;rw[aY.X]at dp;unfold zm2 at aY dp;obtain⟨r,dj⟩:=nmd (R.getD k rt0);rw[dj.X]at h1 h2 h3 gd aG bF aY dp;have nH:Hid _:=aG;have IR:=za4 h3;obtain⟨cD,b_,ce,a8,_⟩:=zb2 HC.X;have eY:=(zr7 ce a8 r.v);have Cn:Hid _:=eY.1;have di:Hid _:=cD;have Ff:Hid (z35 n (zd5 os ko r.ids) r.ids.length):=z59 b_ a8 _;clear h3 bH bt aG cD b_ ce a8 eY;obtain⟨f0,F0⟩:=nmd (zc4 vs kv r.v 0);obtain⟨f1,F1⟩:=nmd (zc4 vs kv r.v 1);obtain⟨f2,F2⟩:=nmd (zc4 vs kv r.v 2);obtain⟨f3,F3⟩:=nmd (zc4 vs kv r.v 3);obtain⟨f4,F4⟩:=nmd (zc4 vs kv r.v 4);rw[F1.X]at Cn aY dp;obtain⟨s,HS⟩:=nmd (zh8 n zs os vs ko kv R z k);obtain⟨rd,nN⟩:=nmd (zq1 n zs (zd5 os ko r.ids) r.ids.length f1);rw[HS.X]at aY dp oR;rw[nN.X]at aY dp;rw[HS.X];have Gt:wrap64 (s+rd)=s+rd:=xB _ (by omega);have BX:Hid (Below wr.heap.size wr (wr.alloc (zg #[ze zd r.v,za r.a r.ids.length r.c] 80))):=zP _;have GX:Hid ((wr.alloc (zg #[ze zd r.v,za r.a r.ids.length r.c] 80)).heap[wr.heap.size]? =_):=zS _ _;have CX:=za4 (CW.X.below BX.X);obtain⟨c0,c1,c2,c3,c4⟩:=za7 CX.X.2.1;obtain⟨d0,d1⟩:=za1 GX.X
   go_wp2_with fail
   clear c0 c1 c2 c3 c4 d0 d1 h1 h2;generalize(wr.alloc _)=W1 at*;refine(z68 n fine r.v a ao av r.a ac ko co kv cv r.c zs os vs r.ids W1 (HA.X.below CX.X.1) (HO.X.below CX.X.1) (HV.X.below CX.X.1) (IR.X.below BX.X) aF.X aD.X ay aB (by omega) gd.X HC.X).mono ?_;rintro e w2 ⟨hb,⟨aG,rfl⟩|⟨-,g,-,rfl,ev⟩⟩
   ·exact absurd nH.X aG
   have C2:=za4 (CX.X.below hb);have I2:=za4 ev;rw[F0.X,F1.X,F2.X,F3.X,F4.X];clear hb ev CX GX BX IR CW;have BY:Hid (Below w2.heap.size w2 (w2.alloc (zg #[ze zd n,za a zs.length ac,ze zd f0,ze zd f1,ze zd f2,ze zd f3,ze zd f4,za (some ⟨g,0,none⟩) r.ids.length r.ids.length] 119))):=zP _;have GY:Hid ((w2.alloc (zg #[ze zd n,za a zs.length ac,ze zd f0,ze zd f1,ze zd f2,ze zd f3,ze zd f4,za (some ⟨g,0,none⟩) r.ids.length r.ids.length] 119)).heap[w2.heap.size]? =_):=zS _ _;obtain⟨t0,t1,t2,t3,t4,t5,t6,t7⟩:=zk3 GY.X
   go_wp2_with fail
   clear t0 t1 t2 t3 t4 t5 t6 t7;generalize(w2.alloc _)=W3 at*;have C3:=za4 (C2.X.below BY.X);refine(zA7 n f0 f1 f2 f3 f4 a _ ac r.ids.length _ zs (zd5 os ko r.ids) W3 di.X (HA.X.below C3.X.1) (I2.X.below BY.X) (zj0 os ko r.ids) Ff.X Cn.X bF).mono ?_;rintro e w4 ⟨rfl,hb⟩;rw[nN.X];have C4:=za4 (C3.X.below hb);clear hb C3 C2 BY GY I2;go_wp2
   first
    |exact⟨⟨k+1,by omega,by go_num,by rw[aY.X],C4.X⟩,by simp[intOf];omega⟩
    |(go_roundw
      case rel=>exact⟨k+1,by omega,by go_num,by rw[aY.X],C4.X⟩
      case measure=>simp[intOf];omega)
  ·have iA:k=m:=by omega
   subst iA;go_wp2;go_ret;exact⟨rfl,CW.X.1⟩
theorem zC4(n fine:Int)(a ao av ra la:Option Addr)(ac ko co kv cv rc lc:Nat)(zs os vs L:List Int)(R:List RT)(w:zi)(hA:za3 w a zs)(hO:za3 w ao os)(hV:za3 w av vs)(hR:za9 w ra R)(hL:za3 w la L)(an:os.length=ko*6)(au:vs.length=kv*5)(ay:ko<=9223372036854775807)(aB:kv<=9223372036854775807)(hn:R.length<=1048576)(hi:∀r∈R,r.ids.length<=1048576)(eg:∀r∈R,r.ids.length<=r.c)(dm:L.length<=1048576)(cT:(zb0 R R.length).length<=1048576)(gQ:∀x∈L,(Lit.int zd x).wf=true):
 Calls zh 11 #[.agg #[ze zd n,za a zs.length ac,za ao ko co,za av kv cv,ze zd fine],.agg #[za ra R.length rc,za la L.length lc]] w fun e w'=>e=.returned (ze zd (zp1 n zs os vs ko kv fine R L))/\Below w.heap.size w w':=by
 have HA:=za4 hA;have HO:=za4 hO;have HV:=za4 hV;have HR:=za4 hR;have HL:=za4 hL;have aF:Hid _:=an;have aD:Hid _:=au;have HN:Hid _:=hn;have eh:Hid _:=dm;have iP:Hid _:=cT;have HI:Hid _:=hi;have bA:Hid _:=eg;have iB:Hid _:=gQ;clear hA hO hV hR hL an au hi eg hn dm cT gQ;obtain⟨x,HX⟩:=nmd (zp1 n zs os vs ko kv fine R L);rw[HX.X];have C0:Hid (CP w ((w.alloc (zg #[ze zd n,za a zs.length ac,za ao ko co,za av kv cv,ze zd fine] 30)).alloc (zg #[za ra R.length rc,za la L.length lc] 33)) _ _):=CP.new w _ _;obtain⟨c0,c1,c2,c3,c4⟩:=za7 C0.X.2.1;obtain⟨d0,d1⟩:=za1 C0.X.2.2;go_enter Tryz.func11,Tryz.ntmps11
 go_wp2_with fail
 clear c0 c1 c2 c3 c4 d0 d1;generalize(w.alloc _).alloc _=W0 at*;refine(zw8 n fine a ao av ra la ac ko co kv cv rc lc zs os vs L R W0 (HA.X.below C0.X.1) (HO.X.below C0.X.1) (HV.X.below C0.X.1) (HR.X.below C0.X.1) (HL.X.below C0.X.1) aF.X aD.X ay aB HN.X HI.X bA.X eh.X iP.X iB.X).mono ?_;rintro e w1 ⟨rfl,hb⟩;have C1:=za4 (C0.X.below hb);clear hb C0;by_cases hz:zc1 n zs os vs ko kv fine R L=0
 ·have HZ:Hid _:=hz
  have HE:Hid _:=HX.X.symm.trans (z7 hz);rw[hz];clear hz;obtain⟨c0,c1,c2,c3,c4⟩:=za7 C1.X.2.1;obtain⟨d0,d1⟩:=za1 C1.X.2.2
  go_wp2_with fail
  clear c0 c1 c2 c3 c4 d0 d1;refine(z66 n fine a ao av ra la ac ko co kv cv rc lc zs os vs L R w1 (HA.X.below C1.X.1) (HO.X.below C1.X.1) (HV.X.below C1.X.1) (HR.X.below C1.X.1) aF.X aD.X ay aB bA.X HZ.X).mono ?_;rintro e w2 ⟨rfl,hb⟩;have HB:Hid _:=C1.X.1.trans (hb.mono C1.X.1.size);clear hb;go_wp2;go_ret;exact⟨by rw[HE.X];rfl,HB.X⟩
 ·have HE:Hid (x= -1):=HX.X.symm.trans (ye hz)
  obtain⟨v,et⟩:=nmd (zc1 n zs os vs ko kv fine R L);rw[et.X]at hz⊢;have QJ:(v !=0)=true:=by simp[hz]
  go_wp2;go_ret;exact⟨by rw[HE.X];rfl,C1.X.1⟩
theorem z90(n fine:Int)(a ao av ra la:Option Addr)(ac ko co kv cv rc lc:Nat)(zs os vs L:List Int)(R:List RT)(w:zi)(hA:za3 w a zs)(hO:za3 w ao os)(hV:za3 w av vs)(hR:za9 w ra R)(an:os.length=ko*6)(au:vs.length=kv*5)(ay:ko<=9223372036854775807)(aB:kv<=9223372036854775807)(aS:zc1 n zs os vs ko kv fine R L=0):
 Calls zh 41 #[.agg #[ze zd n,za a zs.length ac,za ao ko co,za av kv cv,ze zd fine],.agg #[za ra R.length rc,za la L.length lc]] w fun e w'=>e=.returned (ze zd (zh8 n zs os vs ko kv R (fine*L.length) R.length))/\Below w.heap.size w w':=by
 have HA:=za4 hA;have HO:=za4 hO;have HV:=za4 hV;have HR:=za4 hR;have aF:Hid _:=an;have aD:Hid _:=au;obtain⟨bT,nZ,_,_,_⟩:=zb7 aS;obtain⟨d5,gU,vD,wL⟩:=ze6 aS;have HC:Hid _:=bT;have kD:=za4 nZ;clear hA hO hV hR an au bT nZ aS;obtain⟨m,HN⟩:=nmd R.length;obtain⟨ml,HM⟩:=nmd L.length;rw[HN.X]at d5 kD⊢;rw[HM.X]at gU vD wL⊢;obtain⟨z,HZ⟩:=nmd (fine*(ml:Int));rw[HZ.X]at vD wL⊢;have Ar:wrap64 (fine*(ml:Int))=z:=by rw[HZ.X];exact xB _ (by omega)
 have us:IntKind.i64.wrap (fine*(ml:Int))=z:=by rw[HZ.X];exact xz _ (by omega)
 have dG:Hid _:=z43 HC.X kD.X z;have C0:Hid (CP w ((w.alloc (zg #[ze zd n,za a zs.length ac,za ao ko co,za av kv cv,ze zd fine] 30)).alloc (zg #[za ra m rc,za la ml lc] 33)) _ _):=CP.new w _ _;obtain⟨c0,c1,c2,c3,c4⟩:=za7 C0.2.1;obtain⟨d0,d1⟩:=za1 C0.2.2;go_enter Tryz.func41,Tryz.ntmps41
 go_wp2_with fail
 clear c0 c1 c2 c3 c4 d0 d1 Ar us;generalize(w.alloc _).alloc _=W0 at*;go_loopw[5,6] (fun ts ti wr=>∃k:Nat,k<=m/\ti=ze zd k/\ts=ze zd (zh8 n zs os vs ko kv R z k)/\CP w wr #[ze zd n,za a zs.length ac,za ao ko co,za av kv cv,ze zd fine] #[za ra m rc,za la ml lc]) (fun _ ti _=>m - (intOf ti).toNat)
 case atStart=>exact⟨0,xi _,rfl,rfl,C0.X⟩
 case round=>
  clear C0;obtain⟨k,hk,rfl,rfl,cN⟩:=hrel;have CW:=za4 cN;clear cN;obtain⟨c0,c1,c2,c3,c4⟩:=za7 CW.2.1;obtain⟨d0,d1⟩:=za1 CW.2.2;by_cases ah:k<m
  ·have bt:k<R.length:=by rw[HN.X];exact ah
   obtain⟨b,off,rfl,h1,h2,h3⟩:=(HR.below CW.1) k bt;have aG:=(kD.X k ah).2.2;have dp:=dG.X (k+1) (by omega);have oR:=dG.X k hk;have bF:=(zg3 (zf3 (zg9 aG).1).2.2).1;have aY:Hid (zh8 n zs os vs ko kv R z (k+1)=zh8 n zs os vs ko kv R z k+zm2 n zs os vs ko kv (R.getD k rt0)):=rfl;rw[aY.X]at dp;unfold zm2 at aY dp;obtain⟨r,dj⟩:=nmd (R.getD k rt0);rw[dj.X]at h1 h2 h3 aG bF aY dp;have nH:Hid _:=aG;have IR:=za4 h3;clear h3 bt aG;obtain⟨s,HS⟩:=nmd (zh8 n zs os vs ko kv R z k);obtain⟨rd,nN⟩:=nmd (zq1 n zs (zd5 os ko r.ids) r.ids.length (zc4 vs kv r.v 1));rw[HS.X]at aY dp oR;rw[nN.X]at aY dp;rw[HS.X];have Gt:wrap64 (s+rd)=s+rd:=xB _ (by omega);have Mm:IntKind.i64.wrap (s+rd)=s+rd:=xz _ (by omega);have dI:Hid (∀S:Kin wr,Calls zh 89 #[.agg #[ze zd n,za a zs.length ac,za ao ko co,za av kv cv,ze zd fine],.agg #[ze zd r.v,za r.a r.ids.length r.c]] S.w fun e w'=>e=.returned (ze zd rd)/\∃s':Kin wr,w'=s'.w):=fun S=>by
    have:=zs5 n fine r.v a ao av r.a ac ko co kv cv r.c zs os vs r.ids S.w ((HA.below CW.1).below S.below) ((HO.below CW.1).below S.below) ((HV.below CW.1).below S.below) (IR.below S.below) aF.X aD.X ay aB (by omega) (by rw[HC.X];exact nH.X);rw[nN.X]at this;exact Kin.call this
   have s0:=fun s:Kin wr=>s.cell c0;have s1:=fun s:Kin wr=>s.cell c1;have s2:=fun s:Kin wr=>s.cell c2;have s3:=fun s:Kin wr=>s.cell c3;have s4:=fun s:Kin wr=>s.cell c4;have t0:=fun s:Kin wr=>s.cell d0;have y0:=fun s:Kin wr=>s.cell h1;have y1:=fun s:Kin wr=>s.cell h2;have aV:=Kin.there wr
   go_wp2_with fail
   clear c0 c1 c2 c3 c4 d0 d1 h1 h2;refine zb1 (by kernel_rfl) (by kernel_rfl) ?_
   repeat(go_big_quiet_step ((go_at_call 89;exact dI.X _)))
   refine xA ?_;rintro _ ⟨S,rfl⟩;have C3:=za4 (CW.below S.below);generalize S.w=w3 at*;clear s0 s1 s2 s3 s4 t0 y0 y1 aV CW IR dI;go_wp2
   first
    |exact⟨⟨k+1,by omega,by go_num,by rw[aY.X],C3.X⟩,by simp[intOf];omega⟩
    |(go_roundw
      case rel=>exact⟨k+1,by omega,by go_num,by rw[aY.X],C3.X⟩
      case measure=>simp[intOf];omega)
  ·have iA:k=m:=by omega
   subst iA;go_wp2;go_ret;exact⟨rfl,CW.1⟩
