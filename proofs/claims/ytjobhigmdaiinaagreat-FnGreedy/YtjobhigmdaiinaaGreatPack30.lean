import Derived.Test.YtjobhigmdaiinaaGreatPack1
import Derived.Test.YtjobhigmdaiinaaGreatPack3
import Derived.Test.YtjobhigmdaiinaaGreatPack4
import Derived.Test.YtjobhigmdaiinaaGreatPack5
import Derived.Test.YtjobhigmdaiinaaGreatPack18
import Derived.Test.YtjobhigmdaiinaaGreatPack27
import Derived.Test.YtjobhigmdaiinaaGreatPack29
namespace Go.Proofs.YtjobhigmdaiinaaGreat
open Go.RowKit
structure GB(w W:World)(pc pp ps:Nat)(cs:Array Value)(p0 p1:Value)(id veh:Int)(pl:Nat):Prop where
 b:Below w.heap.size w W
 c:W.heap[pc]? =some (.cells cs 30 (0,0))
 p:W.heap[pp]? =some (.cells #[p0,p1] 33 (0,0))
 s:W.heap[ps]? =some (.cells #[.int .i64 id,.int .i64 veh,.int .i64 (pl:Int)] 86 (0,0))
 l:pc<w.heap.size/\pp<w.heap.size/\ps<w.heap.size
section
variable {w W W':World} {pc pp ps:Nat} {cs:Array Value} {p0 p1:Value} {id veh:Int} {pl:Nat}
theorem GB.below(h:GB w W pc pp ps cs p0 p1 id veh pl)(hb:Below W.heap.size W W'):GB w W' pc pp ps cs p0 p1 id veh pl:=
 ⟨h.b.trans (hb.mono h.b.size),za1 hb (za3 h.c) h.c,za1 hb (za3 h.p) h.p,za1 hb (za3 h.s) h.s,h.l⟩
theorem GB.set(h:GB w W pc pp ps cs p0 p1 id veh pl){k i:Nat}{v:Value}(hk:w.heap.size<=k):GB w (W.setCell ⟨k,i,none⟩ v) pc pp ps cs p0 p1 id veh pl:=by
 obtain⟨h1,h2,h3⟩:=h.l;exact⟨h.b.setCell hk _,za7 h.c (by omega),za7 h.p (by omega),za7 h.s (by omega),h.l⟩
theorem GB.new(h1:w.heap[pc]? =some (.cells cs 30 (0,0)))(h2:w.heap[pp]? =some (.cells #[p0,p1] 33 (0,0)))(h3:w.heap[ps]? =some (.cells #[.int .i64 id,.int .i64 veh,.int .i64 (pl:Int)] 86 (0,0))):GB w w pc pp ps cs p0 p1 id veh pl:=
 ⟨Below.refl _ _,h1,h2,h3,za3 h1,za3 h2,za3 h3⟩
end
theorem GB.cells{w W:World}{pc pp ps:Nat}{c0 c1 c2 c3 c4 p0 p1:Value}{id veh:Int}{pl:Nat}(h:GB w W pc pp ps #[c0,c1,c2,c3,c4] p0 p1 id veh pl):
 W.cell? ⟨pc,0,none⟩=some c0/\W.cell? ⟨pc,1,none⟩=some c1/\W.cell? ⟨pc,2,none⟩=some c2/\W.cell? ⟨pc,3,none⟩=some c3/\W.cell? ⟨pc,4,none⟩=some c4/\W.cell? ⟨pp,0,none⟩=some p0/\W.cell? ⟨pp,1,none⟩=some p1/\W.cell? ⟨ps,0,none⟩=some (.int .i64 id)/\W.cell? ⟨ps,1,none⟩=some (.int .i64 veh)/\W.cell? ⟨ps,2,none⟩=some (.int .i64 (pl:Int)):=by
 obtain⟨k0,k1,k2,k3,k4⟩:=za8 h.c;obtain⟨k5,k6⟩:=za2 h.p;obtain⟨k7,k8,k9⟩:=z54 h.s;exact⟨k0,k1,k2,k3,k4,k5,k6,k7,k8,k9⟩
def gD(n:Int)(zs os vs:List Int)(ko kv:Nat)(R:List RT)(p:zh4):Int:=plD true n zs os vs ko kv p.2.1 (zd9 R p.2.1).ids p.1 p.2.2
def gB(n:Int)(zs os vs:List Int)(ko kv:Nat)(R:List RT)(p:zh4):Bool:=plB true n zs os vs ko kv p.2.1 (zd9 R p.2.1).ids p.1 p.2.2
def gOk(n fine:Int)(zs os vs:List Int)(ko kv:Nat)(R:List RT)(p:zh4):Bool:=gB n zs os vs ko kv R p&&decide (gD n zs os vs ko kv R p<=fine)
theorem zR1(n fine:Int)(a ao av ra:Option Addr)(cap ko co kv cv:Nat)(zs os vs:List Int)(R:List RT)(w:World)(hA:za0 w a zs)(hO:za0 w ao os)(hV:za0 w av vs)(hlo:os.length=ko*6)(hlv:vs.length=kv*5)(hko:ko<=9223372036854775807)(hkv:kv<=9223372036854775807)(hcB:zb8 n zs os vs ko kv fine=true)(hR:za6 w ra R)(hi:zn1 R)(id veh:Int)(pl:Nat)
 (ch:Bool) (hch:gB n zs os vs ko kv R (id,veh,pl)=ch) (D:Int) (hD:gD n zs os vs ko kv R (id,veh,pl)=D) (xs:List Int) (hxs:chL ch (insL (zd9 R veh).ids pl id)=xs):
 ∀(W W':World) (p q:Nat),Below w.heap.size w W->W.cell? ⟨p,0,none⟩=some (.int .i64 (pl:Int))->W.cell? ⟨q,0,none⟩=some (.int .i64 id)->Below W.heap.size W W'->Calls Tryz.prog 36 #[.agg #[.int .i64 n,.slice a zs.length cap,.slice ao ko co,.slice av kv cv,.int .i64 fine],.agg #[.int .i64 veh,.slice (zd9 R veh).a (zd9 R veh).ids.length (zd9 R veh).c],.func (.func 80) #[] #[.pointer (some ⟨p,0,none⟩),.pointer (some ⟨q,0,none⟩)]] W' (zK0 W' ch veh D xs):=by
 intro W W' p q hW hp hq hW';have hB:=hW.trans (hW'.mono hW.size);have hp':=(hW'.cell (p:=⟨p,0,none⟩) (block_lt_of_cell hp)).trans hp;have hq':=(hW'.cell (p:=⟨q,0,none⟩) (block_lt_of_cell hq)).trans hq;obtain⟨h1,h2,h3,h4⟩:=yd4 hR hi veh;exact z47 n fine veh a ao av _ cap ko co kv cv _ zs os vs _ W' (hA.below hB) (hO.below hB) (hV.below hB) (h1.below hB) hlo hlv hko hkv (by omega) h3 hcB p q _ _ (fun X hX h12=>zL2 p q (pl:Int) id _ _ _ X ((hX.cell (p:=⟨p,0,none⟩) (block_lt_of_cell hp')).trans hp') ((hX.cell (p:=⟨q,0,none⟩) (block_lt_of_cell hq')).trans hq') (h1.below (hB.trans (hX.mono hB.size))) h12 h4) ch hch D (by rw[<-hD,<-hch];rfl) xs hxs
def zm4(n fine:Int)(zs os vs:List Int)(ko kv:Nat)(R:List RT)(L:List Int):QS:=qst (gOk n fine zs os vs ko kv R) (gD n zs os vs ko kv R) (sp3 R vs kv L L.length)
def oneT(R:List RT)(s:zh4):RT:=⟨s.2.1,none,insL (zd9 R s.2.1).ids s.2.2 s.1,0⟩
def zo8(n fine:Int)(zs os vs:List Int)(ko kv:Nat)(R:List RT)(L:List Int):List RT:=if(zm4 n fine zs os vs ko kv R L).f then wrL R (oneT R (zm4 n fine zs os vs ko kv R L).s)else R
def zo2(n fine:Int)(zs os vs:List Int)(ko kv:Nat)(R:List RT)(L:List Int):List Int:=if(zm4 n fine zs os vs ko kv R L).f then zh7 L (zm4 n fine zs os vs ko kv R L).s.1 else L
theorem zZ8{R S:List RT}(h:R.map RT.key=S.map RT.key)(V:List Int)(id:Int):∀k,sp2 R V id k=sp2 S V id k
 |0=>rfl
 |k+1=>by
  show sp2 R V id k++_=sp2 S V id k++_;rw[zZ8 h V id k,z30 h]
theorem zZ0{R S:List RT}(h:R.map RT.key=S.map RT.key)(V:List Int)(kv:Nat)(ids:List Int):∀i,sp3 R V kv ids i=sp3 S V kv ids i
 |0=>rfl
 |i+1=>by
  show sp3 R V kv ids i++_=sp3 S V kv ids i++_;rw[zZ0 h V kv ids i,zZ8 h]
theorem ym8{R S:List RT}(h:R.map RT.key=S.map RT.key)(n:Int)(zs os vs:List Int)(ko kv:Nat):gD n zs os vs ko kv R=gD n zs os vs ko kv S:=by
 funext p;unfold gD;rw[z30 h]
theorem yn8{R S:List RT}(h:R.map RT.key=S.map RT.key)(n fine:Int)(zs os vs:List Int)(ko kv:Nat):gOk n fine zs os vs ko kv R=gOk n fine zs os vs ko kv S:=by
 funext p;unfold gOk gB;rw[ym8 h,z30 h]
theorem z29{R S:List RT}(h:R.map RT.key=S.map RT.key)(n fine:Int)(zs os vs:List Int)(ko kv:Nat)(L:List Int):zm4 n fine zs os vs ko kv R L=zm4 n fine zs os vs ko kv S L:=by
 unfold zm4;rw[yn8 h,ym8 h,zZ0 h]
theorem zR7{R S:List RT}(h:R.map RT.key=S.map RT.key)(n fine:Int)(zs os vs:List Int)(ko kv:Nat)(L:List Int):(zo8 n fine zs os vs ko kv R L).map RT.key=(zo8 n fine zs os vs ko kv S L).map RT.key:=by
 unfold zo8;rw[z29 h];split
 ·exact zN7 h (by unfold oneT RT.key;simp only;rw[z30 h])
 ·exact h
theorem zR3{R:List RT}(h:∀j,j<R.length->(R.getD j rt0).ids≠[]):∀k,k<=R.length->k<=(zb3 R k).length
 |0,_=>Nat.zero_le _
 |k+1,hk=>by
  have ih:=zR3 h k (by omega);have h1:=List.length_pos_iff.2 (h k (by omega));rw[zg3 (by omega),List.length_append];omega
theorem zz7{n:Int}{zs os vs:List Int}{ko kv:Nat}{fine:Int}{R:List RT}{L:List Int}(h:zd7 n zs os vs ko kv fine R L=0)(hrc:∀r∈R,r.ids.length<=r.c):zb8 n zs os vs ko kv fine=true/\ze1 R/\zn1 R/\R.length<=12/\L.length<=12/\ko<=12/\kv<=5:=by
 obtain⟨h1,h2,_,_,h5⟩:=zj0 h;have hc:=h1;unfold zb8 at hc;simp only[Bool.and_eq_true]at hc;have hko:=(zh0 hc.1.1.2).1;have hkv:=(zs0 hc.1.2).1;have h6:=zR3 (R:=R) (fun j hj=>(h2 j hj).2.1) R.length (Nat.le_refl _);refine⟨h1,fun j h3 h4=>(h2 j h4).1 h3,fun r hr=> ?_,by omega,by omega,hko,hkv⟩;obtain⟨j,hj,e⟩:=List.getElem_of_mem hr;have e2:R.getD j rt0=r:=by rw[List.getD_eq_getElem?_getD,List.getElem?_eq_getElem hj,e];rfl
 obtain⟨_,h7,h8⟩:=h2 j hj;rw[e2]at h7 h8;exact⟨h7,zr2 h8,hrc r hr⟩
theorem zT1{n fine:Int}{zs os vs:List Int}{ko kv:Nat}{R:List RT}{L:List Int}(hi:zn1 R)(hn:R.length<=100)(hl:L.length<=100):(∀r∈zo8 n fine zs os vs ko kv R L,r.ids≠[]/\r.ids.length<=12)/\(zo8 n fine zs os vs ko kv R L).length<=500/\(zo2 n fine zs os vs ko kv R L).length<=500:=by
 unfold zo8 zo2;have hm:=z26 (ok:=gOk n fine zs os vs ko kv R) (dl:=gD n zs os vs ko kv R) (sp3 R vs kv L L.length);change(zm4 n fine zs os vs ko kv R L).f=true->_ at hm;by_cases h:(zm4 n fine zs os vs ko kv R L).f=true
 ·rw[if_pos h,if_pos h]
  have h2:=(hm h).2.1;change gOk n fine zs os vs ko kv R (zm4 n fine zs os vs ko kv R L).s=true at h2;generalize(zm4 n fine zs os vs ko kv R L).s=s at*;unfold gOk gB at h2;have h3:plB true n zs os vs ko kv s.2.1 (zd9 R s.2.1).ids s.1 s.2.2=true:=(Bool.and_eq_true _ _▸h2).1;have h4:codeV true n zs os vs ko kv s.2.1 (insL (zd9 R s.2.1).ids s.2.2 s.1)=0:=by
   unfold plB chB at h3;simp only[Bool.and_eq_true,decide_eq_true_eq]at h3;exact h3.2.2
  refine⟨fun r hr=> ?_,?_,Nat.le_trans (z00 _ _) (by omega)⟩
  ·rcases zZ2 hr with h5|h5
   ·exact⟨(hi r h5).1,(hi r h5).2.1⟩
   ·rw[h5]
    exact⟨by unfold oneT insL;simp,zr2 h4⟩
  ·unfold wrL
   rw[List.length_append,List.length_append];have h6:=List.length_filter_le (fun x:RT=>decide (x.v<(oneT R s).v)) R;have h7:=List.length_filter_le (fun x:RT=>decide ((oneT R s).v<x.v)) R;have h8:(if(oneT R s).ids=[]then([]:List RT)else [oneT R s]).length<=1:=by split<;>simp
   omega
 ·rw[if_neg h,if_neg h]
  exact⟨fun r hr=>⟨(hi r hr).1,(hi r hr).2.1⟩,by omega,by omega⟩
noncomputable def goF(n fine:Int)(zs os vs:List Int)(ko kv:Nat)(R:List RT)(L:List Int):Bool:=if zd7 n zs os vs ko kv fine R L=0 then(zm4 n fine zs os vs ko kv R L).f else false
noncomputable def goR(n fine:Int)(zs os vs:List Int)(ko kv:Nat)(R:List RT)(L:List Int):List RT:=if zd7 n zs os vs ko kv fine R L=0 then zo8 n fine zs os vs ko kv R L else []
noncomputable def goL(n fine:Int)(zs os vs:List Int)(ko kv:Nat)(R:List RT)(L:List Int):List Int:=if zd7 n zs os vs ko kv fine R L=0 then zo2 n fine zs os vs ko kv R L else []
def grp(fine:Int)(id veh:Int)(s:QS)(b:PS):QS:=if b.f=true/\b.v<=fine/\(s.f=false∨b.v<s.v)then⟨true,(id,veh,b.i),b.v⟩else s
theorem zP3(fine id veh:Int)(B:zh4->Bool)(D:zh4->Int)(s:QS):∀m,(sp1 id veh m).foldl (zk8 (fun p=>B p&&decide (D p<=fine)) D) s=grp fine id veh s (pst (fun a=>B (id,veh,a)) (fun a=>D (id,veh,a)) m)
 |0=>by
  have:¬((ps0).f=true/\(ps0).v<=fine/\(s.f=false∨(ps0).v<s.v)):=fun h=>by cases h.1
  show s=grp fine id veh s ps0;unfold grp;rw[if_neg this]
 |m+1=>by
  have ih:=zP3 fine id veh B D s m;rw[zS3,List.foldl_append,ih,zF7];generalize pst (fun a=>B (id,veh,a)) (fun a=>D (id,veh,a)) m=b;simp only[List.foldl_cons,List.foldl_nil];unfold z83;by_cases hB:B (id,veh,m)=true
  ·by_cases hd:D (id,veh,m)<=fine
   ·have hok:(B (id,veh,m)&&decide (D (id,veh,m)<=fine))=true:=by simp[hB,hd]
    by_cases hbf:b.f=false
    ·have h1:grp fine id veh s b=s:=by unfold grp;rw[if_neg (fun h=>by rw[hbf]at h;cases h.1)]
     rw[h1,if_pos ⟨hB,.inl hbf⟩];unfold zk8 grp;simp[hB,hd]
    ·have hbt:b.f=true:=by simpa using hbf
     by_cases hlt:D (id,veh,m)<b.v
     ·rw[if_pos ⟨hB,.inr hlt⟩]
      by_cases ht:b.f=true/\b.v<=fine/\(s.f=false∨b.v<s.v)
      ·have h1:grp fine id veh s b=⟨true,(id,veh,b.i),b.v⟩:=if_pos ht
       rw[h1,zK3 hok hlt];unfold grp;rw[if_pos ⟨rfl,hd,by rcases ht.2.2 with h|h;exact .inl h;exact .inr (Int.lt_trans hlt h)⟩]
      ·have h1:grp fine id veh s b=s:=if_neg ht
       rw[h1];unfold zk8 grp;simp[hB,hd]
     ·rw[if_neg (fun h=>by rcases h.2 with h|h;exact hbf h;exact hlt h)]
      by_cases ht:b.f=true/\b.v<=fine/\(s.f=false∨b.v<s.v)
      ·have h1:grp fine id veh s b=⟨true,(id,veh,b.i),b.v⟩:=if_pos ht
       rw[h1];exact z40 rfl hlt
      ·have h1:grp fine id veh s b=s:=if_neg ht
       have hbv:b.v<=fine:=by omega
       have h2:¬(s.f=false∨b.v<s.v):=fun h=>ht ⟨hbt,hbv,h⟩;rw[h1];refine z40 (by simpa using fun h=>h2 (.inl h)) (fun h=>h2 (.inr (by omega)))
   ·have hok:(B (id,veh,m)&&decide (D (id,veh,m)<=fine))=false:=by simp[hd]
    rw[z42 hok];split
    ·rename_i hc
     have h2:grp fine id veh s ⟨true,m,D (id,veh,m)⟩=s:=if_neg (fun h=>hd h.2.1);rw[h2];refine if_neg (fun h=> ?_);rcases hc.2 with h3|h3
     ·rw[h3]at h;cases h.1
     ·exact hd (Int.le_trans (Int.le_of_lt h3) h.2.1)
    ·rfl
  ·have hok:(B (id,veh,m)&&decide (D (id,veh,m)<=fine))=false:=by simp[hB]
   rw[z42 hok,if_neg (fun h=>hB h.1)]
theorem yn6(n fine:Int)(zs os vs:List Int)(ko kv:Nat)(R:List RT)(l:List zh4)(id veh:Int):
 qst (gOk n fine zs os vs ko kv R) (gD n zs os vs ko kv R) (l++sp1 id veh ((zd9 R veh).ids.length+1))=grp fine id veh (qst (gOk n fine zs os vs ko kv R) (gD n zs os vs ko kv R) l) (bpV true n zs os vs ko kv veh (zd9 R veh).ids id):=by
 unfold qst;rw[List.foldl_append];exact zP3 fine id veh (gB n zs os vs ko kv R) (gD n zs os vs ko kv R) _ _
end Go.Proofs.YtjobhigmdaiinaaGreat
