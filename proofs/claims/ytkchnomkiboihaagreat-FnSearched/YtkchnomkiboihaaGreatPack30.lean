import Derived.Test.YtkchnomkiboihaaGreatPack14
import Derived.Test.YtkchnomkiboihaaGreatPack24
set_option linter.unusedSimpArgs false
set_option maxHeartbeats 2000000
namespace Go.Proofs.YtkchnomkiboihaaGreat
open Q
end Go.Proofs.YtkchnomkiboihaaGreat
namespace Go.Proofs.YtkchnomkiboihaaGreat
open Value renaming slice→za,int→ze
open IntKind renaming i64→zd
open Obj renaming cells→zg
open Proofs.Tryz renaming prog→zh
open Go renaming World→zi
open Go.RowKit
open Q
theorem yg6(n fine ab:Int)(a ao av bi:Option Addr)(ac ko co kv cv c2:Nat)(zs os vs ids:List Int)(w:zi)(hA:za3 w a zs)(hO:za3 w ao os)(hV:za3 w av vs)(hI:za3 w bi ids)(an:os.length=ko*6)(au:vs.length=kv*5)(aA:ko<=9223372036854775807)(aB:kv<=9223372036854775807)(eX:ids.length<=9223372036854775807)(cw:ids.length<=c2)(bU:zd0 n zs os vs ko kv fine=true)(p q:Nat)(ok:Bool)(aK:List Int)
 (wv:∀W,Below w.heap.size w W->ids.length<=12->Calls zh 180 #[za bi ids.length c2,.pointer (some ⟨p,0,none⟩),.pointer (some ⟨q,0,none⟩)] W (yC1 W ok aK)) (ch:Bool) (gm:chB true n zs os vs ko kv ab ids ok aK=ch) (D:Int) (hD:chD ch n zs os vs ko kv ab ids aK=D) (xs:List Int) (jA:chL ch aK=xs):
 Calls zh 159 #[.agg #[ze zd n,za a zs.length ac,za ao ko co,za av kv cv,ze zd fine],.agg #[ze zd ab,za bi ids.length c2],.func (.func 180) #[] #[.pointer (some ⟨p,0,none⟩),.pointer (some ⟨q,0,none⟩)]] w (ye5 w ch ab D xs):=by
 have HA:=za4 hA;have HO:=za4 hO;have HV:=za4 hV;have HI:=za4 hI;have aF:Hid _:=an;have aE:Hid _:=au;clear hA hO hV hI an au;have HC:=za4 bU;have iD:=za4 gm;have HD:=za4 hD;have iB:=za4 jA;have HW:=za4 wv;clear bU gm hD jA wv;have C0:Hid (CRR w (((w.alloc (zg #[ze zd n,za a zs.length ac,za ao ko co,za av kv cv,ze zd fine] 30)).alloc (zg #[ze zd ab,za bi ids.length c2] 80)).alloc (zg #[ze zd 0,za none 0 0] 80)) _ _ _):=CRR.new w _ _ _;obtain⟨o1,fq⟩:=nmd (decide (codeV true n zs os vs ko kv ab ids=0));obtain⟨q1,gI⟩:=nmd (rcV n zs os vs ko kv ab ids);obtain⟨o2,ee⟩:=nmd (decide (codeV true n zs os vs ko kv ab aK=0));obtain⟨q2,kL⟩:=nmd (rcV n zs os vs ko kv ab aK);have jD:=yA0 (zb2 HC.X).1 os vs ko kv ab ids;have og:=yA0 (zb2 HC.X).1 os vs ko kv ab aK;rw[gI.X]at jD;rw[kL.X]at og;go_enter Tryz.func159,Tryz.ntmps159;obtain⟨c0,c1,bZ,c3,c4⟩:=za7 C0.X.1.2.1;obtain⟨d0,d1⟩:=za1 C0.X.1.2.2
 go_wp2_with fail
 clear c0 c1 bZ c3 c4 d0 d1;refine(zp6 n fine ab a ao av bi ac ko co kv cv c2 zs os vs ids _ (HA.X.below C0.X.b) (HO.X.below C0.X.b) (HV.X.below C0.X.b) (HI.X.below C0.X.b) aF.X aE.X aA aB eX cw HC.X o1 fq.X q1 gI.X).mono ?_;rintro e w1 ⟨rfl,hb⟩;have C1:=za4 (C0.X.below hb);clear hb C0;cases o1
 ·have bL:Hid (ch=false):=iD.X.symm.trans (yg9 (of_decide_eq_false fq.X) _ _)
  have HX:Hid (xs=[]):=iB.X.symm.trans (by rw[bL.X];rfl);have bk:Hid (D=0):=HD.X.symm.trans (by rw[bL.X];rfl);obtain⟨t0,t1⟩:=za1 C1.X.2;have tf:=fun i=>yZ _ _ i _ _ C1.X.2;go_wp2;refine xe (v:=.tuple #[.agg #[ze zd 0,za none 0 0],ze zd 0,.bool false]) (by simp[results,Tryz.results159,go_sem,t0,t1]) rfl ⟨?_,none,0,?_,?_⟩
  ·repeat(first|with_reducible exact C1.X.b|refine xq ?_ (by simp<;>omega) _)
  ·rw[bL.X,bk.X,HX.X];rfl
  ·rw[HX.X];exact xZ _ _ _ _
 ·have ba:codeV true n zs os vs ko kv ab ids=0:=zZ fq.X
  have l9:=za4 ba;clear ba;have bJ:=zk2 l9.X;obtain⟨d0,d1⟩:=za1 C1.X.1.2.2
  go_wp2_with fail
  clear d0 d1;refine(HW.X w1 C1.X.b bJ).mono ?_;rintro e w2 ⟨hb,⟨rfl,rfl⟩|⟨rfl,g,cg,rfl,ho⟩⟩
  ·have C2:Hid (CRR w w2 _ _ _):=C1.X.below hb
   clear hb C1;have bL:Hid (ch=false):=iD.X.symm.trans (ye1 rfl _);have HX:Hid (xs=[]):=iB.X.symm.trans (by rw[bL.X];rfl);have bk:Hid (D=0):=HD.X.symm.trans (by rw[bL.X];rfl);obtain⟨t0,t1⟩:=za1 C2.X.2;have tf:=fun i=>yZ _ _ i _ _ C2.X.2;go_wp2;refine xe (v:=.tuple #[.agg #[ze zd 0,za none 0 0],ze zd 0,.bool false]) (by simp[results,Tryz.results159,go_sem,t0,t1]) rfl ⟨?_,none,0,?_,?_⟩
   ·repeat(first|with_reducible exact C2.X.b|refine xq ?_ (by simp<;>omega) _)
   ·rw[bL.X,bk.X,HX.X];rfl
   ·rw[HX.X];exact xZ _ _ _ _
  ·have C2:Hid (CRR w w2 _ _ _):=C1.X.below hb
   have LG:Hid (w.heap.size+2<w1.heap.size):=C1.X.big;have O2:=za4 ho;obtain⟨_,_,e1,JD,_,sF,_,_⟩:=Go.Lib.holds_of_ownsRow (enc:=ze zd) ho (by simp);simp at e1;obtain⟨rfl,rfl⟩:=e1;have HG:=za4 JD;have j6:aK.length<=9223372036854775807:=by
    have:=(Go.Lib.holds_of_ownsRow (enc:=ze zd) ho (by simp));obtain⟨_,_,e1,_,_,h1,h2,_⟩:=this;simp at e1;obtain⟨rfl,rfl⟩:=e1;unfold maxLen at h2;omega
   clear hb ho C1 JD;have C3:Hid (CRR w (w2.alloc (zg #[ze zd ab,za (some ⟨g,0,none⟩) aK.length cg] 80)) _ _ _):=C2.X.alloc _;have N3:Hid ((w2.alloc (zg #[ze zd ab,za (some ⟨g,0,none⟩) aK.length cg] 80)).heap[w2.heap.size]? =_):=zS _ _;have O3:Hid ((w2.alloc (zg #[ze zd ab,za (some ⟨g,0,none⟩) aK.length cg] 80)).ownsRow w1.heap.size 2 1 _ aK.length _):=O2.X.alloc _;obtain⟨d0,d1⟩:=za1 C2.X.1.2.2;obtain⟨c0,c1,bZ,c3,c4⟩:=za7 C3.X.1.2.1;obtain⟨n0,n1⟩:=za1 N3.X;clear O2
   go_wp2_with fail
   clear d0 d1 c0 c1 bZ c3 c4 n0 n1;refine(zp6 n fine ab a ao av (some ⟨g,0,none⟩) ac ko co kv cv cg zs os vs aK _ (HA.X.below C3.X.b) (HO.X.below C3.X.b) (HV.X.below C3.X.b) (zd4 O3.X) aF.X aE.X aA aB j6 sF HC.X o2 ee.X q2 kL.X).mono ?_;rintro e w3 ⟨rfl,hb⟩;have C4:=za4 (C3.X.below hb);have N4:=za4 (za0 hb (za2 N3.X) N3.X);have O4:=za4 (zb9 O3.X hb);clear hb C2 C3 N3 O3;cases o2
   ·have bL:Hid (ch=false):=iD.X.symm.trans (yg2 _ (of_decide_eq_false ee.X))
    have HX:Hid (xs=[]):=iB.X.symm.trans (by rw[bL.X];rfl);have bk:Hid (D=0):=HD.X.symm.trans (by rw[bL.X];rfl);obtain⟨t0,t1⟩:=za1 C4.X.2;have tf:=fun i=>yZ _ _ i _ _ C4.X.2;go_wp2;refine xe (v:=.tuple #[.agg #[ze zd 0,za none 0 0],ze zd 0,.bool false]) (by simp[results,Tryz.results159,go_sem,t0,t1]) rfl ⟨?_,none,0,?_,?_⟩
    ·repeat(first|with_reducible exact C4.X.b|refine xq ?_ (by simp<;>omega) _)
    ·rw[bL.X,bk.X,HX.X];rfl
    ·rw[HX.X];exact xZ _ _ _ _
   ·have bL:Hid (ch=true):=iD.X.symm.trans (yd1 l9.X rfl (zZ ee.X))
    have HX:Hid (xs=aK):=iB.X.symm.trans (by rw[bL.X];rfl);have bk:Hid (D=q2 - q1):=HD.X.symm.trans (by rw[bL.X,<-gI.X,<-kL.X];rfl);obtain⟨t0,t1⟩:=za1 C4.X.2;obtain⟨n0,n1⟩:=za1 N4.X;have tf:=fun i=>yZ _ _ i _ _ C4.X.2;go_wp2;refine xe (v:=.tuple #[.agg #[ze zd ab,za (some ⟨g,0,none⟩) aK.length cg],ze zd (q2 - q1),.bool true]) (by simp[results,Tryz.results159,go_sem,t0,t1]) rfl ⟨?_,some ⟨g,0,none⟩,cg,?_,?_⟩
    ·repeat(first|with_reducible exact C4.X.b|refine xq ?_ (by simp<;>omega) _)
    ·rw[bL.X,bk.X,HX.X];rfl
    ·rw[HX.X];exact zb5 (zg1 (zg1 O4.X LG.X) LG.X) (by have:=LG.X;omega)
def plB(c:Bool)(n:Int)(zs os vs:List Int)(ko kv:Nat)(ab:Int)(ids:List Int)(id:Int)(k:Nat):Bool:=chB c n zs os vs ko kv ab ids (inB (k:Int) 0 (ids.length:Int)) (insL ids k id)
def plD(c:Bool)(n:Int)(zs os vs:List Int)(ko kv:Nat)(ab:Int)(ids:List Int)(id:Int)(k:Nat):Int:=chD (plB c n zs os vs ko kv ab ids id k) n zs os vs ko kv ab ids (insL ids k id)
def bpV(c:Bool)(n:Int)(zs os vs:List Int)(ko kv:Nat)(ab:Int)(ids:List Int)(id:Int):PS:=pst (plB c n zs os vs ko kv ab ids id) (plD c n zs os vs ko kv ab ids id) (ids.length+1)
def yc6(k:Nat):List Int:=(List.range k).map (fun i:Nat=>(i:Int))
theorem yd9(k:Nat):(yc6 k).length=k:=by simp[yc6]
theorem yt8(k:Nat):yc6 (k+1)=yc6 k++[(k:Int)]:=by simp[yc6,yN]
theorem yC6{m k:Nat}(h:k<m):(yc6 m).getD k 0=(k:Int):=by simp[yc6,List.getD,h]
def PWF(w W:zi)(rs:Array Value)(sl:Value)(k:Nat)(xs:List Value):Prop:=Below w.heap.size w W/\W.heap[w.heap.size]? =some (.cells rs 80 (0,0))/\W.ownsRow (w.heap.size+1) 2 1 sl k xs
theorem PWF.b{w W:zi}{rs:Array Value}{sl:Value}{k:Nat}{xs:List Value}(h:PWF w W rs sl k xs):Below w.heap.size w W:=h.1
theorem PWF.o{w W:zi}{rs:Array Value}{sl:Value}{k:Nat}{xs:List Value}(h:PWF w W rs sl k xs):W.ownsRow (w.heap.size+1) 2 1 sl k xs:=h.2.2
theorem PWF.r{w W:zi}{rs:Array Value}{sl:Value}{k:Nat}{xs:List Value}(h:PWF w W rs sl k xs):W.heap[w.heap.size]? =some (.cells rs 80 (0,0)):=h.2.1
theorem PWF.size{w W:zi}{rs:Array Value}{sl:Value}{k:Nat}{xs:List Value}(h:PWF w W rs sl k xs):w.heap.size+1<=W.heap.size:=za2 h.2.1
theorem PWF.grown{w W W':zi}{rs:Array Value}{sl de:Value}{k k':Nat}{xs Jn:List Value}{o:Obj}(h:PWF w W rs sl k xs)(hg:(W.alloc o).grownBy W' sl.ownBlock)(ho:W'.ownsRow (w.heap.size+1) 2 1 de k' Jn):PWF w W' rs de k' Jn:=by
 have hA:Below w.heap.size w (W.alloc o):=h.1.alloc h.1.size _;have hr:(W.alloc o).heap[w.heap.size]? =some (.cells rs 80 (0,0)):=(xg _ _ (za2 h.2.1)).trans h.2.1;refine⟨hA.grown hg hA.size (fun k e=>by have:=(h.o.lt k e).1;omega),?_,ho⟩;exact(hg.block _ (za2 hr) (fun e=>by have:=(h.o.lt _ e.symm).1;omega)).trans hr
theorem y52(k:Nat):(yc6 (k+1)).map (ze zd)=(yc6 k).map (ze zd)++[ze zd (k:Int)]:=by rw[yt8,x8];rfl
theorem zT4(ab:Int)(bi:Option Addr)(c2 m:Nat)(w:zi)(bJ:m<=12):
 Calls zh 152 #[.agg #[ze zd ab,za bi m c2]] w fun e w'=>∃g c,e=.returned (za (some ⟨g,0,none⟩) (m+1) c)/\Below w.heap.size w w'/\za3 w' (some ⟨g,0,none⟩) (yc6 (m+1))/\w.heap.size<=g:=by
 have R0:=za4 (zS w (zg #[ze zd ab,za bi m c2] 80));have x_:IntKind.i64.wrap ((m:Int)+1)=(m:Int)+1:=xz _ (by omega);go_enter Tryz.func152,Tryz.ntmps152;obtain⟨d0,d1⟩:=za1 R0.X
 go_wp2_with(first
  |(refine yy0 _ rfl _ _ rfl (w.heap.size+1) _ _ ((m:Int)+1) (m+1) rfl rfl (by omega) (by omega) (by simp) ?_
    intro w1 ae hg;have O1:Hid (PWF w w1 #[ze zd ab,za bi m c2] (.slice (some ⟨(w.alloc (zg #[ze zd ab,za bi m c2] 80)).heap.size,0,none⟩) 0 (m+1)) 0 []):=⟨((y5 w.heap.size w).alloc (zT _) _).grown hg (by simp) (fun k e=>by cases e),(hg.block _ (by simp) (by simp)).trans (zS _ _),ae⟩;clear ae hg d0 d1;obtain⟨d0,d1⟩:=za1 O1.r))
 go_loopw[3,14] (fun sl t wr=>∃k:Nat,k<=m+1/\t=ze zd k/\PWF w wr #[ze zd ab,za bi m c2] sl k ((yc6 k).map (ze zd))/\sl≠za none 0 0) (fun _ t _=>m+1 - (intOf t).toNat)
 case atStart=>exact⟨0,xi _,rfl,by simpa[yc6]using O1.X,by simp⟩
 case round=>
  clear O1 R0 d0 d1;obtain⟨k,hk,rfl,ho,aq⟩:=hrel;have HO:=za4 ho;clear ho;by_cases ah:k<m+1
  ·have ng:(k:Int)<(m:Int)+1:=by omega
   have vl:IntKind.i64.wrap ((k:Int)+1)=((k+1:Nat):Int):=by rw[xz _ (by omega)];omega
   have mq:=za4 aq;clear aq
   go_wp2_with(first
    |(at_builtin
      refine yq3 _ rfl _ _ rfl (w.heap.size+1) u3 k _ rfl (HO.o.alloc _) _ _ (ze zd (k:Int)) rfl (zq5 _ _ _ _ (by simp)) rfl (by omega) (xj HO.size (by simp)) ?_;intro v' w4 ae hg;have Nb:Hid (v'≠za none 0 0):=by
       intro e;rw[e]at ae;have hz:=ae.2;rcases hz with⟨_,h0⟩|⟨_,_,_,e2,_⟩
       ·simp at h0
       ·cases e2
      have O4:Hid (PWF w w4 #[ze zd ab,za bi m c2] v' (k+1) ((yc6 (k+1)).map (ze zd))):=HO.grown hg (by rw[y52];exact ae);clear ae hg))
   go_roundw
   case rel=>exact⟨k+1,by omega,by first|rfl|go_num,O4.X,Nb.X⟩
   case measure=>simp[intOf];omega
  ·have cL:k=m+1:=by omega
   subst cL;have ng:¬((m:Int)+1<(m:Int)+1):=by omega
   obtain⟨g,c,rfl⟩:∃g c,u3=za (some ⟨g,0,none⟩) (m+1) c:=by
    rcases zm3 HO.o with h|h
    ·exact absurd h aq
    ·exact h
   clear aq;go_wp2;go_ret;exact⟨g,⟨c,rfl⟩,HO.b,zd4 HO.o,by have:=(HO.o.lt g rfl).1;omega⟩
