import Derived.Test.YtkchnomkiboihaaGreatPack20
import Derived.Test.YtkchnomkiboihaaGreatPack29
import Derived.Test.YtkchnomkiboihaaGreatPack30
set_option linter.unusedSimpArgs false
namespace Go.Proofs.YtkchnomkiboihaaGreat
theorem jh:type_of% @List.mem_flatMap:=@List.mem_flatMap
open Value renaming slice→za,int→ze
open IntKind renaming i64→zd
open Obj renaming cells→zg
open Go.RowKit
open Q
structure GB(w W:World)(pc pp ps:Nat)(cs:Array Value)(p0 p1:Value)(id ab:Int)(pl:Nat):Prop where
 b:Below w.heap.size w W
 c:W.heap[pc]? =some (.cells cs 30 (0,0))
 p:W.heap[pp]? =some (zg #[p0,p1] 33 (0,0))
 s:W.heap[ps]? =some (zg #[ze zd id,ze zd ab,ze zd (pl:Int)] 129 (0,0))
 l:pc<w.heap.size/\pp<w.heap.size/\ps<w.heap.size
section
variable {w W W':World} {pc pp ps:Nat} {cs:Array Value} {p0 p1:Value} {id ab:Int} {pl:Nat}
theorem GB.below(h:GB w W pc pp ps cs p0 p1 id ab pl)(hb:Below W.heap.size W W'):GB w W' pc pp ps cs p0 p1 id ab pl:=
 ⟨h.b.trans (hb.mono h.b.size),za0 hb (za2 h.c) h.c,za0 hb (za2 h.p) h.p,za0 hb (za2 h.s) h.s,h.l⟩
theorem GB.set(h:GB w W pc pp ps cs p0 p1 id ab pl){k i:Nat}{v:Value}(hk:w.heap.size<=k):GB w (W.setCell ⟨k,i,none⟩ v) pc pp ps cs p0 p1 id ab pl:=by
 obtain⟨h1,h2,h3⟩:=h.l;exact⟨h.b.setCell hk _,za8 h.c (by omega),za8 h.p (by omega),za8 h.s (by omega),h.l⟩
theorem GB.new(h1:w.heap[pc]? =some (.cells cs 30 (0,0)))(h2:w.heap[pp]? =some (zg #[p0,p1] 33 (0,0)))(h3:w.heap[ps]? =some (zg #[ze zd id,ze zd ab,ze zd (pl:Int)] 129 (0,0))):GB w w pc pp ps cs p0 p1 id ab pl:=
 ⟨y5 _ _,h1,h2,h3,za2 h1,za2 h2,za2 h3⟩
end
theorem GB.cells{w W:World}{pc pp ps:Nat}{c0 c1 c2 c3 c4 p0 p1:Value}{id ab:Int}{pl:Nat}(h:GB w W pc pp ps #[c0,c1,c2,c3,c4] p0 p1 id ab pl):
 W.cell? ⟨pc,0,none⟩=some c0/\W.cell? ⟨pc,1,none⟩=some c1/\W.cell? ⟨pc,2,none⟩=some c2/\W.cell? ⟨pc,3,none⟩=some c3/\W.cell? ⟨pc,4,none⟩=some c4/\W.cell? ⟨pp,0,none⟩=some p0/\W.cell? ⟨pp,1,none⟩=some p1/\W.cell? ⟨ps,0,none⟩=some (ze zd id)/\W.cell? ⟨ps,1,none⟩=some (ze zd ab)/\W.cell? ⟨ps,2,none⟩=some (ze zd (pl:Int)):=by
 obtain⟨k0,k1,k2,k3,k4⟩:=za7 h.c;obtain⟨k5,k6⟩:=za1 h.p;obtain⟨k7,k8,k9⟩:=zv9 h.s;exact⟨k0,k1,k2,k3,k4,k5,k6,k7,k8,k9⟩
def gD(n:Int)(zs os vs:List Int)(ko kv:Nat)(R:List RT)(p:zg2):Int:=plD true n zs os vs ko kv p.2.1 (zc7 R p.2.1).ids p.1 p.2.2
def gB(n:Int)(zs os vs:List Int)(ko kv:Nat)(R:List RT)(p:zg2):Bool:=plB true n zs os vs ko kv p.2.1 (zc7 R p.2.1).ids p.1 p.2.2
def gOk(n fine:Int)(zs os vs:List Int)(ko kv:Nat)(R:List RT)(p:zg2):Bool:=gB n zs os vs ko kv R p&&decide (gD n zs os vs ko kv R p<=fine)
theorem ym2(n fine:Int)(a ao av ra:Option Addr)(ac ko co kv cv:Nat)(zs os vs:List Int)(R:List RT)(w:World)(hA:za3 w a zs)(hO:za3 w ao os)(hV:za3 w av vs)(an:os.length=ko*6)(au:vs.length=kv*5)(aA:ko<=9223372036854775807)(aB:kv<=9223372036854775807)(bU:zd0 n zs os vs ko kv fine=true)(hR:za9 w ra R)(hi:zw3 R)(id ab:Int)(pl:Nat)
 (ch:Bool) (gm:gB n zs os vs ko kv R (id,ab,pl)=ch) (D:Int) (hD:gD n zs os vs ko kv R (id,ab,pl)=D) (xs:List Int) (jA:chL ch (insL (zc7 R ab).ids pl id)=xs):
 ∀(W W':World) (p q:Nat),Below w.heap.size w W->W.cell? ⟨p,0,none⟩=some (ze zd (pl:Int))->W.cell? ⟨q,0,none⟩=some (ze zd id)->Below W.heap.size W W'->Calls Tryz.prog 159 #[.agg #[ze zd n,za a zs.length ac,za ao ko co,za av kv cv,ze zd fine],.agg #[ze zd ab,.slice (zc7 R ab).a (zc7 R ab).ids.length (zc7 R ab).c],.func (.func 180) #[] #[.pointer (some ⟨p,0,none⟩),.pointer (some ⟨q,0,none⟩)]] W' (ye5 W' ch ab D xs):=by
 intro W W' p q hW hp hq A8;have hB:=hW.trans (A8.mono hW.size);have IQ:=(A8.cell (p:=⟨p,0,none⟩) (zV hp)).trans hp;have J_:=(A8.cell (p:=⟨q,0,none⟩) (zV hq)).trans hq;obtain⟨h1,h2,h3,h4⟩:=z98 hR hi ab;exact yg6 n fine ab a ao av _ ac ko co kv cv _ zs os vs _ W' (hA.below hB) (hO.below hB) (hV.below hB) (h1.below hB) an au aA aB (by omega) h3 bU p q _ _ (fun X hX bJ=>zW3 p q (pl:Int) id _ _ _ X ((hX.cell (p:=⟨p,0,none⟩) (zV IQ)).trans IQ) ((hX.cell (p:=⟨q,0,none⟩) (zV J_)).trans J_) (h1.below (hB.trans (hX.mono hB.size))) bJ h4) ch gm D (by rw[<-hD,<-gm];rfl) xs jA
def zy2(n fine:Int)(zs os vs:List Int)(ko kv:Nat)(R:List RT)(L:List Int):QS:=qst (gOk n fine zs os vs ko kv R) (gD n zs os vs ko kv R) (sp3 R vs kv L L.length)
def oneT(R:List RT)(s:zg2):RT:=⟨s.2.1,none,insL (zc7 R s.2.1).ids s.2.2 s.1,0⟩
def zC4(n fine:Int)(zs os vs:List Int)(ko kv:Nat)(R:List RT)(L:List Int):List RT:=if(zy2 n fine zs os vs ko kv R L).f then wrL R (oneT R (zy2 n fine zs os vs ko kv R L).s)else R
def zD4(n fine:Int)(zs os vs:List Int)(ko kv:Nat)(R:List RT)(L:List Int):List Int:=if(zy2 n fine zs os vs ko kv R L).f then zl5 L (zy2 n fine zs os vs ko kv R L).s.1 else L
theorem yw4{R S:List RT}(h:R.map RT.key=S.map RT.key)(V:List Int)(id:Int):∀k,sp2 R V id k=sp2 S V id k
 |0=>rfl
 |k+1=>by
  show sp2 R V id k++_=sp2 S V id k++_;rw[yw4 h V id k,zo2 h]
theorem y24{R S:List RT}(h:R.map RT.key=S.map RT.key)(V:List Int)(kv:Nat)(ids:List Int):∀i,sp3 R V kv ids i=sp3 S V kv ids i
 |0=>rfl
 |i+1=>by
  show sp3 R V kv ids i++_=sp3 S V kv ids i++_;rw[y24 h V kv ids i,yw4 h]
theorem yA7{R S:List RT}(h:R.map RT.key=S.map RT.key)(n:Int)(zs os vs:List Int)(ko kv:Nat):gD n zs os vs ko kv R=gD n zs os vs ko kv S:=by
 funext p;unfold gD;rw[zo2 h]
theorem yF7{R S:List RT}(h:R.map RT.key=S.map RT.key)(n fine:Int)(zs os vs:List Int)(ko kv:Nat):gOk n fine zs os vs ko kv R=gOk n fine zs os vs ko kv S:=by
 funext p;unfold gOk gB;rw[yA7 h,zo2 h]
theorem zQ8{R S:List RT}(h:R.map RT.key=S.map RT.key)(n fine:Int)(zs os vs:List Int)(ko kv:Nat)(L:List Int):zy2 n fine zs os vs ko kv R L=zy2 n fine zs os vs ko kv S L:=by
 unfold zy2;rw[yF7 h,yA7 h,y24 h]
theorem y93{R S:List RT}(h:R.map RT.key=S.map RT.key)(n fine:Int)(zs os vs:List Int)(ko kv:Nat)(L:List Int):(zC4 n fine zs os vs ko kv R L).map RT.key=(zC4 n fine zs os vs ko kv S L).map RT.key:=by
 unfold zC4;rw[zQ8 h];split
 ·exact z83 h (by unfold oneT RT.key;simp only;rw[zo2 h])
 ·exact h
theorem yl9{R:List RT}(h:∀j,j<R.length->(R.getD j rt0).ids≠[]):∀k,k<=R.length->k<=(zb0 R k).length
 |0,_=>xi _
 |k+1,hk=>by
  have ih:=yl9 h k (by omega);have h1:=xV.2 (h k (by omega));rw[zf9 (by omega),xY];omega
theorem yD8{n:Int}{zs os vs:List Int}{ko kv:Nat}{fine:Int}{R:List RT}{L:List Int}(h:zc1 n zs os vs ko kv fine R L=0)(eg:∀r∈R,r.ids.length<=r.c):zd0 n zs os vs ko kv fine=true/\zf7 R/\zw3 R/\R.length<=12/\L.length<=12/\ko<=12/\kv<=5:=by
 obtain⟨h1,h2,_,_,h5⟩:=zb7 h;have hc:=h1;unfold zd0 at hc;simp only[zY]at hc;have aA:=(zd9 hc.1.1.2).1;have aB:=(zf2 hc.1.2).1;have h6:=yl9 (R:=R) (fun j hj=>(h2 j hj).2.1) R.length (zT _);refine⟨h1,fun j h3 h4=>(h2 j h4).1 h3,fun r hr=> ?_,by omega,by omega,aA,aB⟩;obtain⟨j,hj,e⟩:=xU hr;have e2:R.getD j rt0=r:=by rw[zQ,zR hj,e];rfl
 obtain⟨_,h7,h8⟩:=h2 j hj;rw[e2]at h7 h8;exact⟨h7,zk2 h8,eg r hr⟩
theorem yA2{n fine:Int}{zs os vs:List Int}{ko kv:Nat}{R:List RT}{L:List Int}(hi:zw3 R)(hn:R.length<=100)(hl:L.length<=100):(∀r∈zC4 n fine zs os vs ko kv R L,r.ids≠[]/\r.ids.length<=12)/\(zC4 n fine zs os vs ko kv R L).length<=500/\(zD4 n fine zs os vs ko kv R L).length<=500:=by
 unfold zC4 zD4;have hm:=zz9 (ok:=gOk n fine zs os vs ko kv R) (dl:=gD n zs os vs ko kv R) (sp3 R vs kv L L.length);change(zy2 n fine zs os vs ko kv R L).f=true->_ at hm;by_cases h:(zy2 n fine zs os vs ko kv R L).f=true
 ·rw[z7 h,z7 h]
  have h2:=(hm h).2.1;change gOk n fine zs os vs ko kv R (zy2 n fine zs os vs ko kv R L).s=true at h2;generalize(zy2 n fine zs os vs ko kv R L).s=s at*;unfold gOk gB at h2;have h3:plB true n zs os vs ko kv s.2.1 (zc7 R s.2.1).ids s.1 s.2.2=true:=(zY _ _▸h2).1;have h4:codeV true n zs os vs ko kv s.2.1 (insL (zc7 R s.2.1).ids s.2.2 s.1)=0:=by
   unfold plB chB at h3;simp only[zY,qh]at h3;exact h3.2.2
  refine⟨fun r hr=> ?_,?_,xj (zH4 _ _) (by omega)⟩
  ·rcases zy0 hr with h5|h5
   ·exact⟨(hi r h5).1,(hi r h5).2.1⟩
   ·rw[h5]
    exact⟨by unfold oneT insL;simp,zk2 h4⟩
  ·unfold wrL
   rw[xY,xY];have h6:=yp (fun x:RT=>decide (x.v<(oneT R s).v)) R;have h7:=yp (fun x:RT=>decide ((oneT R s).v<x.v)) R;have h8:(if(oneT R s).ids=[]then([]:List RT)else [oneT R s]).length<=1:=by split<;>simp
   omega
 ·rw[ye h,ye h]
  exact⟨fun r hr=>⟨(hi r hr).1,(hi r hr).2.1⟩,by omega,by omega⟩
def grp(fine:Int)(id ab:Int)(s:QS)(b:PS):QS:=if b.f=true/\b.v<=fine/\(s.f=false∨b.v<s.v)then⟨true,(id,ab,b.i),b.v⟩else s
theorem yk9(fine id ab:Int)(B:zg2->Bool)(D:zg2->Int)(s:QS):∀m,(sp1 id ab m).foldl (zl7 (fun p=>B p&&decide (D p<=fine)) D) s=grp fine id ab s (pst (fun a=>B (id,ab,a)) (fun a=>D (id,ab,a)) m)
 |0=>by
  have:¬((ps0).f=true/\(ps0).v<=fine/\(s.f=false∨(ps0).v<s.v)):=fun h=>by cases h.1
  show s=grp fine id ab s ps0;unfold grp;rw[ye this]
 |m+1=>by
  have ih:=yk9 fine id ab B D s m;rw[zS7,yH,ih,zS0];generalize pst (fun a=>B (id,ab,a)) (fun a=>D (id,ab,a)) m=b;simp only[yM,List.foldl_nil];unfold zQ9;by_cases hB:B (id,ab,m)=true
  ·by_cases hd:D (id,ab,m)<=fine
   ·have aP:(B (id,ab,m)&&decide (D (id,ab,m)<=fine))=true:=by simp[hB,hd]
    by_cases pA:b.f=false
    ·have h1:grp fine id ab s b=s:=by unfold grp;rw[ye (fun h=>by rw[pA]at h;cases h.1)]
     rw[h1,z7 ⟨hB,.inl pA⟩];unfold zl7 grp;simp[hB,hd]
    ·have Fx:b.f=true:=by simpa using pA
     by_cases ah:D (id,ab,m)<b.v
     ·rw[z7 ⟨hB,.inr ah⟩]
      by_cases ht:b.f=true/\b.v<=fine/\(s.f=false∨b.v<s.v)
      ·have h1:grp fine id ab s b=⟨true,(id,ab,b.i),b.v⟩:=z7 ht
       rw[h1,z36 aP ah];unfold grp;rw[z7 ⟨rfl,hd,by rcases ht.2.2 with h|h;exact .inl h;exact .inr (Int.lt_trans ah h)⟩]
      ·have h1:grp fine id ab s b=s:=ye ht
       rw[h1];unfold zl7 grp;simp[hB,hd]
     ·rw[ye (fun h=>by rcases h.2 with h|h;exact pA h;exact ah h)]
      by_cases ht:b.f=true/\b.v<=fine/\(s.f=false∨b.v<s.v)
      ·have h1:grp fine id ab s b=⟨true,(id,ab,b.i),b.v⟩:=z7 ht
       rw[h1];exact zw4 rfl ah
      ·have h1:grp fine id ab s b=s:=ye ht
       have Lh:b.v<=fine:=by omega
       have h2:¬(s.f=false∨b.v<s.v):=fun h=>ht ⟨Fx,Lh,h⟩;rw[h1];refine zw4 (by simpa using fun h=>h2 (.inl h)) (fun h=>h2 (.inr (by omega)))
   ·have aP:(B (id,ab,m)&&decide (D (id,ab,m)<=fine))=false:=by simp[hd]
    rw[zq3 aP];split
    ·rename_i hc
     have h2:grp fine id ab s ⟨true,m,D (id,ab,m)⟩=s:=ye (fun h=>hd h.2.1);rw[h2];refine ye fun h=> ?_;rcases hc.2 with h3|h3
     ·rw[h3]at h;cases h.1
     ·exact hd (Int.le_trans (Int.le_of_lt h3) h.2.1)
    ·rfl
  ·have aP:(B (id,ab,m)&&decide (D (id,ab,m)<=fine))=false:=by simp[hB]
   rw[zq3 aP,ye (fun h=>hB h.1)]
theorem yG1(n fine:Int)(zs os vs:List Int)(ko kv:Nat)(R:List RT)(l:List zg2)(id ab:Int):
 qst (gOk n fine zs os vs ko kv R) (gD n zs os vs ko kv R) (l++sp1 id ab ((zc7 R ab).ids.length+1))=grp fine id ab (qst (gOk n fine zs os vs ko kv R) (gD n zs os vs ko kv R) l) (bpV true n zs os vs ko kv ab (zc7 R ab).ids id):=by
 unfold qst;rw[yH];exact yk9 fine id ab (gB n zs os vs ko kv R) (gD n zs os vs ko kv R) _ _
end Go.Proofs.YtkchnomkiboihaaGreat
namespace Go.Proofs.YtkchnomkiboihaaGreat
open Proofs.Tryz renaming prog→zh
open Go.RowKit Go.Shelf
open Q
def Tryz.lCloneR_ren:Go.Shelf.Ren:=⟨fun|41=>171|n=>n,fun|4=>4|22=>31|23=>80|n=>n,fun|n=>n⟩
theorem Tryz.lCloneR:SlLaysE0.n41 zh Tryz.lCloneR_ren:={
 mixed:=by kernel_rfl
 f41:=⟨Tryz.f171.name,by decide,Tryz.func171.trans (congrArg some (by kernel_rfl))⟩
 t4:=Tryz.underlying4
 a4:=Tryz.isAgg4
 z4:=Tryz.sizeOf4
 v4:=Tryz.zeroValue4
 t22:=qS
 a22:=Tryz.isAgg31
 z22:=Tryz.sizeOf31
 v22:=Tryz.zeroValue31}
theorem zE0(R:List RT):∀v∈zj5 R,v.oneCell'=true:=fun v hv=>by
 unfold zj5 at hv;obtain⟨r,_,h⟩:=jh.1 hv;simp[zq1]at h;rcases h with rfl|rfl<;>rfl
theorem za9.cells{w:World}{b off:Nat}{R:List RT}(h:za9 w (some ⟨b,off,none⟩) R):∀j u,(zj5 R)[j]? =some u->w.cell? ⟨b,off+j,none⟩=some u:=fun j u hj=>by
 have ah:j<(zj5 R).length:=by
  rcases qp j (zj5 R).length with h|h
  ·exact h
  ·rw[yg h]at hj;cases hj
 rw[zg6]at ah;obtain⟨b',aR,e,c1,c2,_⟩:=h (j / 2) (by omega);simp only[x7,qg,qt]at e;obtain⟨rfl,rfl⟩:=e;obtain⟨r1,r2⟩:=zH9 R (j / 2) (by omega);rcases Nat.mod_two_eq_zero_or_one j with e|e
 ·rw[show j / 2*2=j by omega]at r1 c1
  rw[hj]at r1;rw[c1,<-r1]
 ·rw[show j / 2*2+1=j by omega]at r2
  rw[show off+j / 2*2+1=off+j by omega]at c2;rw[hj]at r2;rw[c2,<-r2]
theorem yH1(w:World):(Go.sizeOf 80).run zh w=.ok 2 w:=by
 cases hq:Tryz.prog.info? 80 with
 |none=>have:=zm8;rw[hq]at this;simp at this
 |some i0=>
  have h:=zm8;rw[hq]at h;simp only[yG,x7,qw]at h;simp[Go.sizeOf,typeInfo,hq,h.2.1]
theorem yH9(ra:Option Addr)(rc n:Nat)(R:List RT)(w:World)(hR:za9 w ra R)(hn:R.length=n)(h:n<=1000)(oG:(ra=none/\n=0)∨∃b off,ra=some ⟨b,off,none⟩):
 Calls zh 171 #[.slice ra n rc] w fun e w'=>∃sl,e=.returned sl/\Below w.heap.size w w'/\w'.ownsRow w.heap.size 80 2 sl n (zj5 R):=by
 rcases oG with⟨rfl,rfl⟩|⟨b,off,rfl⟩
 ·refine(AnyE.slices_Clone_nil Tryz.lCloneR 0 rc w).mono ?_
  rintro e w' ⟨rfl,rfl⟩;have e:R=[]:=jg.1 hn;subst e;exact⟨_,rfl,y5 _ _,⟨rfl,.inl ⟨rfl,rfl⟩⟩⟩
 ·cases hq:Tryz.prog.info? 80 with
  |none=>have:=zm8;rw[hq]at this;simp at this
  |some i0=>
   have hi:=zm8;rw[hq]at hi;simp only[yG,x7,qw]at hi;refine(AnyE.slices_Clone Tryz.lCloneR i0 _ 2 32 hq hi.1 hi.2.1 hi.2.2 rfl (by omega) yH1 b off n rc (zj5 R) w (by rw[zg6,hn]) (by unfold maxLen;omega) (by omega) hR.cells (zE0 R)).mono ?_;rintro e w' ⟨v',rfl,ho,_,hb⟩;exact⟨v',rfl,hb,ho⟩
