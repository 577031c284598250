import Derived.Test.YtkchnomkiboihaaGreatPack16
import Derived.Test.YtkchnomkiboihaaGreatPack31
set_option linter.unusedSimpArgs false
set_option maxHeartbeats 4000000
namespace Go.Proofs.YtkchnomkiboihaaGreat
open Value renaming slice→za,int→ze
open IntKind renaming i64→zd
open Obj renaming cells→zg
open Go renaming World→zi
open Go.RowKit
open Q
theorem zJ1{R:List RT}(h:R.Pairwise (fun a b=>a.v<b.v)):zf7 R:=fun j h1 h2=>by
 have h3:=(yy.1 h) (j - 1) j (by omega) h2 (by omega);simpa[zQ,zR h2,zR (show j - 1<R.length by omega)]using h3
theorem yz4{R:List RT}{r:RT}(h:zf7 R):zf7 (wrL R r):=by
 apply zJ1;unfold wrL;have hp:=h.pw;refine List.pairwise_append.2 ⟨hp.sublist List.filter_sublist,List.pairwise_append.2 ⟨by split<;>simp,hp.sublist List.filter_sublist,fun a ha b hb=> ?_⟩,fun a ha b hb=> ?_⟩
 ·have e:a=r:=by
   by_cases e:r.ids=[]
   ·rw[z7 e]at ha;cases ha
   ·rw[ye e]at ha;exact List.mem_singleton.1 ha
  rw[e];exact zZ (qi.1 hb).2
 ·have h1:a.v<r.v:=zZ (qi.1 ha).2
  rcases yj.1 hb with hb|hb
  ·have e:b=r:=by
    by_cases e:r.ids=[]
    ·rw[z7 e]at hb;cases hb
    ·rw[ye e]at hb;exact List.mem_singleton.1 hb
   rw[e];exact h1
  ·have h2:r.v<b.v:=zZ (qi.1 hb).2
   omega
theorem zZ0{R S:List RT}(h:S.map RT.key=R.map RT.key)(hr:zf7 R):zf7 S:=fun j h1 h2=>by
 have hl:S.length=R.length:=by have:=congrArg List.length h;simpa using this
 rw[(ya7 h (j - 1)).1,(ya7 h j).1];exact hr j h1 (by omega)
theorem yF5{id ab:Int}{n:Nat}{s:zg2}(h:s∈sp1 id ab n):s.1=id:=by
 unfold sp1 at h;obtain⟨k,_,rfl⟩:=yF.1 h;rfl
theorem yy9{R:List RT}{V:List Int}{id:Int}{s:zg2}:∀k,s∈sp2 R V id k->s.1=id
 |0,h=>by cases h
 |k+1,h=>by
  rcases yj.1 (show s∈sp2 R V id k++_ from h)with h|h
  ·exact yy9 k h
  ·exact yF5 h
theorem yf9{R:List RT}{V:List Int}{kv:Nat}{L:List Int}{s:zg2}:∀i,i<=L.length->s∈sp3 R V kv L i->s.1∈L
 |0,_,h=>by cases h
 |i+1,hi,h=>by
  rcases yj.1 (show s∈sp3 R V kv L i++_ from h)with h|h
  ·exact yf9 i (by omega) h
  ·rw[yy9 _ h,zQ,zR (by omega)]
   simp
theorem yE5{L:List Int}{x:Int}(h:x∈L):(zl5 L x).length<L.length:=by
 unfold zl5;exact List.length_filter_lt_length_iff_exists.2 ⟨x,h,by simp⟩
theorem yr3(R:List RT)(v:Int):(R.filter (fun x=>decide (x.v<v))).length+(R.filter (fun x=>decide (v<x.v))).length<=R.length:=by
 induction R with
 |nil=>simp
 |cons x R ih=>
  rw[List.filter_cons,List.filter_cons];split<;>split<;>rename_i h2 h3
  ·have:=zZ h2;have:=zZ h3;omega
  ·simp only[yo];omega
  ·simp only[yo];omega
  ·simp only[yo];omega
section
variable (n fine:Int) (zs os vs:List Int) (ko kv:Nat)
theorem zz5{R:List RT}{L:List Int}(h:(zy2 n fine zs os vs ko kv R L).f=true):(zD4 n fine zs os vs ko kv R L).length<L.length:=by
 have hm:=zz9 (ok:=gOk n fine zs os vs ko kv R) (dl:=gD n zs os vs ko kv R) (sp3 R vs kv L L.length);have h1:=(hm h).1;unfold zD4;rw[z7 h];exact yE5 (yf9 _ (zT _) h1)
theorem ym5{R:List RT}{L:List Int}:(zC4 n fine zs os vs ko kv R L).length<=R.length+1:=by
 unfold zC4;split
 ·generalize(oneT R (zy2 n fine zs os vs ko kv R L).s)=t
  have h1:=yr3 R t.v;have h2:(if t.ids=[]then([]:List RT)else [t]).length<=1:=by split<;>simp
  unfold wrL;rw[xS,xS];omega
 ·omega
theorem zV5{R:List RT}{L:List Int}(h:zf7 R):zf7 (zC4 n fine zs os vs ko kv R L):=by
 unfold zC4;split
 ·exact yz4 h
 ·exact h
def grd:Nat->List RT->List Int->List RT×List Int
 |0,R,L=>(R,L)
 |k+1,R,L=>if(zy2 n fine zs os vs ko kv R L).f then grd k (zC4 n fine zs os vs ko kv R L) (zD4 n fine zs os vs ko kv R L)else(R,L)
theorem z88:∀(k:Nat) {R S:List RT} (L:List Int),S.map RT.key=R.map RT.key->(grd n fine zs os vs ko kv k S L).1.map RT.key=(grd n fine zs os vs ko kv k R L).1.map RT.key/\(grd n fine zs os vs ko kv k S L).2=(grd n fine zs os vs ko kv k R L).2
 |0,_,_,_,h=>⟨h,rfl⟩
 |k+1,R,S,L,h=>by
  unfold grd;rw[zQ8 h];by_cases hf:(zy2 n fine zs os vs ko kv R L).f=true
  ·rw[z7 hf,z7 hf]
   have e:zD4 n fine zs os vs ko kv S L=zD4 n fine zs os vs ko kv R L:=by unfold zD4;rw[zQ8 h]
   rw[e];exact z88 k _ (y93 h n fine zs os vs ko kv L)
  ·rw[ye hf,ye hf]
   exact⟨h,rfl⟩
theorem ym0:∀(m k:Nat) (R:List RT) (L:List Int),L.length<=m->m<=k->grd n fine zs os vs ko kv k R L=grd n fine zs os vs ko kv m R L
 |0,0,_,_,_,_=>rfl
 |0,k+1,R,L,h,_=>by
  have hf:¬(zy2 n fine zs os vs ko kv R L).f=true:=fun hf=>by have:=zz5 n fine zs os vs ko kv hf;omega
  show(if _ then _ else _)=_;rw[ye hf];rfl
 |m+1,k+1,R,L,h,hk=>by
  unfold grd;by_cases hf:(zy2 n fine zs os vs ko kv R L).f=true
  ·rw[z7 hf,z7 hf]
   have:=zz5 n fine zs os vs ko kv hf;exact ym0 m k _ _ (by omega) (by omega)
  ·rw[ye hf,ye hf]
theorem yh9{R:List RT}{L:List Int}(hf:(zy2 n fine zs os vs ko kv R L).f=true):grd n fine zs os vs ko kv L.length R L=grd n fine zs os vs ko kv (zD4 n fine zs os vs ko kv R L).length (zC4 n fine zs os vs ko kv R L) (zD4 n fine zs os vs ko kv R L):=by
 have h:=zz5 n fine zs os vs ko kv hf;obtain⟨k,hk⟩:∃k,L.length=k+1:=⟨L.length - 1,by omega⟩;rw[hk];show(if _ then _ else _)=_;rw[z7 hf];exact ym0 n fine zs os vs ko kv _ _ _ _ (zT _) (by omega)
theorem yj3{R:List RT}{L:List Int}(hf:(zy2 n fine zs os vs ko kv R L).f=false):grd n fine zs os vs ko kv L.length R L=(R,L):=by
 cases h:L.length with
 |zero=>rfl
 |succ k=>
  show(if _ then _ else _)=_;rw[ye (by rw[hf];simp)]
end
theorem y80:(Tryz.prog.info? 129).map (fun i=>(i.zero,i.size,i.bytes))=some (some (.agg #[ze zd 0,ze zd 0,ze zd 0]),3,24):=by kernel_rfl
structure SW(w W:zi)(cs ps:Array Value)(sl:Value)(l:List zg2):Prop where
 b:Below w.heap.size w W
 c:W.heap[w.heap.size]? =some (.cells cs 30 (0,0))
 p:W.heap[w.heap.size+1]? =some (.cells ps 33 (0,0))
 o:W.ownsRow (w.heap.size+2) 129 3 sl l.length ((spF l).map (ze zd))
theorem SW.below{w W W':zi}{cs ps:Array Value}{sl:Value}{l:List zg2}(h:SW w W cs ps sl l)(hb:Below W.heap.size W W'):SW w W' cs ps sl l:=
 ⟨h.b.trans (hb.mono h.b.size),za0 hb (za2 h.c) h.c,za0 hb (za2 h.p) h.p,zb9 h.o hb⟩
theorem SW.add{w W W':zi}{cs ps:Array Value}{sl de:Value}{l:List zg2}{s:zg2}(h:SW w W cs ps sl l)(hg:W.grownBy W' sl.ownBlock)(ho:W'.ownsRow (w.heap.size+2) 129 3 de (l.length+1) ((spF l).map (ze zd)++[ze zd s.1,ze zd s.2.1,ze zd (s.2.2:Int)])):SW w W' cs ps de (l++[s]):=by
 refine⟨h.b.grown hg h.b.size (fun k e=>by have:=(h.o.lt k e).1;omega),za6 hg h.c (fun e=>zm2 h.o h.c (by decide) e),za6 hg h.p (fun e=>zm2 h.o h.p (by decide) e),?_⟩;rw[xS,yx6,qJ];exact ho
theorem yb9(W:zi)(o0 o1 o2:Value)(T:TypeId)(g:Nat)(hg:W.heap.size=g):∀j u,[o0,o1,o2][j]? =some u->(W.alloc (zg #[o0,o1,o2] T)).cell? ⟨g,0+j,none⟩=some u:=by
 intro j u hu;subst hg;rw[zU _ _ _ _ _ _ (zS W (zg #[o0,o1,o2] T)),yb];simpa using hu
theorem yn7{w W:zi}{g:Nat}{q:Option Nat}{ys:List Int}(hI:za3 w (some ⟨g,0,none⟩) ys)(hg:w.grownBy W q)(hq:q≠some g):za3 W (some ⟨g,0,none⟩) ys:=fun j hj=>by
 obtain⟨b,o,e1,h1⟩:=hI j hj;simp only[jf,qg,qt]at e1;obtain⟨rfl,rfl⟩:=e1;refine⟨_,_,rfl,?_⟩;have h2:=hg.block g (zV h1) (fun e=>hq e.symm);rw[<-h1];simp only[World.cell?];rw[h2]
set_option maxRecDepth 10000 in
theorem zA6(n fine:Int)(a ao av ra la bi:Option Addr)(zl ac ko co kv cv rc ln lc c2:Nat)(vs ids:List Int)(R:List RT)(w:zi)(hV:za3 w av vs)(au:vs.length=kv*5)(aB:kv<=5)(hR:za9 w ra R)(hn:R.length<=100)(hS:zf7 R)(hr:∀r∈R,r.ids.length<=12)(hI:za3 w bi ids)(hl:ids.length<=12):
 Calls Tryz.prog 120 #[.agg #[ze zd n,za a zl ac,za ao ko co,za av kv cv,ze zd fine],.agg #[za ra R.length rc,za la ln lc],za bi ids.length c2] w fun e w'=>∃sl,e=.returned sl/\Below w.heap.size w w'/\w'.ownsRow w.heap.size 129 3 sl (sp3 R vs kv ids ids.length).length ((spF (sp3 R vs kv ids ids.length)).map (ze zd)):=by
 have HV:=za4 hV;have aE:=za4 au;have HR:=za4 hR;have HS:=za4 hS;have cu:=za4 hr;have HI:=za4 hI;clear hV au hR hS hr hI;obtain⟨nr,HN⟩:=nmd R.length;obtain⟨m,HM⟩:=nmd ids.length;rw[HN.X]at hn⊢;rw[HM.X]at hl⊢;have Q0:Hid (SW w ((w.alloc (zg #[ze zd n,za a zl ac,za ao ko co,za av kv cv,ze zd fine] 30)).alloc (zg #[za ra nr rc,za la ln lc] 33)) #[ze zd n,za a zl ac,za ao ko co,za av kv cv,ze zd fine] #[za ra nr rc,za la ln lc] (za none 0 0) ([])):=⟨(zP _).alloc (by simp) _,xm _ _ _,xh _ _ _,xZ _ _ _ _⟩;go_enter Tryz.func120,Tryz.ntmps120
 go_wp2_with fail
 generalize(w.alloc _).alloc _=W0 at*;go_loopw[7,16] (fun tl t wr=>∃i:Nat,i<=m/\t=ze zd i/\SW w wr #[ze zd n,za a zl ac,za ao ko co,za av kv cv,ze zd fine] #[za ra nr rc,za la ln lc] tl (sp3 R vs kv ids i)) (fun _ t _=>m - (intOf t).toNat)
 case atStart=>exact⟨0,xi _,rfl,Q0.X⟩
 case round=>
  clear Q0;obtain⟨i,hi,rfl,hq⟩:=hrel;have Q1:=za4 hq;clear hq;by_cases ah:i<m
  ·have oC:(i:Int)<(m:Int):=by omega
   obtain⟨b1,o1,e,c1⟩:=(HI.below Q1.b) i (by rw[HM.X];exact ah);subst e;have a8:Hid (sp3 R vs kv ids (i+1)=sp3 R vs kv ids i++sp2 R vs (ids.getD i 0) kv):=rfl;have uY:=zR5 cu.X vs aB ids i;generalize ids.getD i 0=id at*;generalize sp3 R vs kv ids i=l1 at*;obtain⟨d0,d1,d2,d3,d4⟩:=za7 Q1.c
   go_wp2_with fail
   clear c1 d0 d1 d2 d3 d4;go_loopw[7,23] (fun tl t wr=>∃k:Nat,k<=kv/\t=ze zd k/\SW w wr #[ze zd n,za a zl ac,za ao ko co,za av kv cv,ze zd fine] #[za ra nr rc,za la ln lc] tl (l1++sp2 R vs id k)) (fun _ t _=>kv - (intOf t).toNat)
   case atStart=>exact⟨0,xi _,rfl,by show SW _ _ _ _ _ (l1++[]);rw[qK];exact Q1.X⟩
   case round=>
    clear Q1;obtain⟨k,hk,rfl,hq⟩:=hrel;have Q2:=za4 hq;clear hq;by_cases hlk:k<kv
    ·have ik:(k:Int)<(kv:Int):=by omega
     obtain⟨bv,ov,e,v0⟩:=(HV.below Q2.b) (k*5) (by rw[aE.X];omega);obtain⟨Eg,dP,e',v1⟩:=(HV.below Q2.b) (k*5+1) (by rw[aE.X];omega);rw[e]at e';simp only[jf,qg,qt]at e';obtain⟨rfl,rfl⟩:=e';obtain⟨Eg,dP,e',v2⟩:=(HV.below Q2.b) (k*5+2) (by rw[aE.X];omega);rw[e]at e';simp only[jf,qg,qt]at e';obtain⟨rfl,rfl⟩:=e';obtain⟨Eg,dP,e',v3⟩:=(HV.below Q2.b) (k*5+3) (by rw[aE.X];omega);rw[e]at e';simp only[jf,qg,qt]at e';obtain⟨rfl,rfl⟩:=e';obtain⟨Eg,dP,e',v4⟩:=(HV.below Q2.b) (k*5+4) (by rw[aE.X];omega);rw[e]at e';simp only[jf,qg,qt]at e';obtain⟨rfl,rfl⟩:=e';subst e;have fF:Hid (sp2 R vs id (k+1)=sp2 R vs id k++sp1 id (vs.getD (k*5) 0) ((zc7 R (vs.getD (k*5) 0)).ids.length+1)):=rfl;have gR:=yd8 cu.X vs id k;have oS:=z56 cu.X (vs.getD (k*5) 0);simp only[<-yz]at v1 v2 v3 v4;generalize vs.getD (k*5) 0=x0 at*;generalize vs.getD (k*5+1) 0=x1 at*;generalize vs.getD (k*5+2) 0=x2 at*;generalize vs.getD (k*5+3) 0=x3 at*;generalize vs.getD (k*5+4) 0=x4 at*;generalize sp2 R vs id k=l2 at*;obtain⟨q0,q1⟩:=za1 Q2.p;have QB:Hid (SW w (wr.alloc (zg #[ze zd x0,ze zd x1,ze zd x2,ze zd x3,ze zd x4] 107)) #[ze zd n,za a zl ac,za ao ko co,za (some ⟨bv,ov,none⟩) kv cv,ze zd fine] #[za ra nr rc,za la ln lc] u7 (l1++l2)):=Q2.below (zP _);have VB:=za4 (zS wr (zg #[ze zd x0,ze zd x1,ze zd x2,ze zd x3,ze zd x4] 107));have RO:=zn7 ra la rc ln lc R x0 (wr.alloc (zg #[ze zd x0,ze zd x1,ze zd x2,ze zd x3,ze zd x4] 107)) (HR.below QB.b) (by rw[HN.X];omega) HS.X;rw[HN.X]at RO;obtain⟨rt,dj⟩:=nmd (zc7 R x0);rw[dj.X]at RO fF oS;obtain⟨rv,iA,ay,dE⟩:=rt;simp only at RO fF oS;obtain⟨rl,Gs⟩:=nmd ay.length;rw[Gs.X]at RO fF oS;obtain⟨z0,z1,z2,z3,z4⟩:=za7 VB.X;obtain⟨y0,y1⟩:=za1 QB.p
     go_wp2_with fail
     refine RO.mono ?_;rintro e w2 ⟨rfl,hb⟩;have Q3:=za4 (QB.below hb);have V3:=za4 (za0 hb (za2 VB.X) VB.X);clear hb RO;have PF:=zT4 x0 iA dE rl w2 oS
     go_wp2_with fail
     refine PF.mono ?_;rintro e w3 ⟨pg,pc,rfl,hb,sU,PN⟩;have Q4:=za4 (Q3.below hb);have V4:=za4 (za0 hb (za2 V3.X) V3.X);have I4:=za4 sU;obtain⟨vb,B_⟩:=nmd wr.heap.size;rw[B_.X]at V4⊢;have D4:Hid (u7.ownBlock≠some pg):=fun e=>by have:=(Q3.o.lt _ e).2;omega
     clear hb sU PN PF Q2 QB Q3 V3 VB z0 z1 z2 z3 z4 y0 y1 q0 q1 v0 v1 v2 v3 v4
     go_wp2_with fail
     go_loopw[7,33] (fun tl tt wr=>∃t:Nat,t<=rl+1/\tt=ze zd t/\SW w wr #[ze zd n,za a zl ac,za ao ko co,za (some ⟨bv,ov,none⟩) kv cv,ze zd fine] #[za ra nr rc,za la ln lc] tl ((l1++l2)++sp1 id x0 t)/\wr.heap[vb]? =some (zg #[ze zd x0,ze zd x1,ze zd x2,ze zd x3,ze zd x4] 107 (0,0))/\za3 wr (some ⟨pg,0,none⟩) (yc6 (rl+1))/\tl.ownBlock≠some pg) (fun _ t _=>rl+1 - (intOf t).toNat)
     case atStart=>exact⟨0,xi _,rfl,by show SW _ _ _ _ _ ((l1++l2)++[]);rw[qK];exact Q4.X,V4.X,I4.X,D4.X⟩
     case round=>
      clear Q4 V4 I4 D4;obtain⟨t,ht,rfl,hq,hv,Ks,Jk⟩:=hrel;have Q5:=za4 hq;have V5:=za4 hv;have I5:=za4 Ks;have D5:=za4 Jk;clear hq hv Ks Jk;by_cases kE:t<rl+1
      ·have Pz:(t:Int)<(rl:Int)+1:=by omega
       obtain⟨b5,o5,e,c5⟩:=I5.X t (by rw[yd9];exact kE);simp only[jf,qg,qt]at e;obtain⟨rfl,rfl⟩:=e;rw[yC6 kE,yb]at c5;obtain⟨z0,z1,z2,z3,z4⟩:=za7 V5.X;have Rl:((l1++l2)++sp1 id x0 t).length<=1000:=by rw[xS,xS,y23];omega
       have d_:=za4 (zS7 id x0 t);generalize sp1 id x0 t=l3 at*;have QA:Hid (SW w (wr.alloc (zg #[ze zd id,ze zd x0,ze zd (t:Int)] 129)) #[ze zd n,za a zl ac,za ao ko co,za (some ⟨bv,ov,none⟩) kv cv,ze zd fine] #[za ra nr rc,za la ln lc] u7 ((l1++l2)++l3)):=Q5.below (zP _);have pD:Hid (w.heap.size+2<=wr.heap.size):=za2 Q5.p
       go_wp2_with(first
        |(at_builtin
          go_must(refine zk9 Tryz.underlying165 y80 rfl (by omega) _ rfl _ _ rfl (w.heap.size+2) u7 ((l1++l2)++l3).length _ rfl QA.o wr.heap.size 0 1 1 [ze zd id,ze zd x0,ze zd (t:Int)] rfl rfl (yb9 _ _ _ _ _ _ rfl) (by simp[Value.oneCell']) (by omega) (by omega) (xj pD.X (by simp)) ?_)
          intro v' w4 ae hg bd aX;have Q6:=za4 (QA.add (s:=(id,x0,t)) hg ae);have V6:Hid (w4.heap[vb]? =some (zg #[ze zd x0,ze zd x1,ze zd x2,ze zd x3,ze zd x4] 107 (0,0))):=za6 hg ((xg _ _ (za2 V5.X)).trans V5.X) (fun e=>zm2 QA.o ((xg _ _ (za2 V5.X)).trans V5.X) (by decide) e);have I6:Hid (za3 w4 (some ⟨pg,0,none⟩) (yc6 (rl+1))):=yn7 (I5.below (zP _)) hg D5.X;have D6:Hid (v'.ownBlock≠some pg):=fun e=>by
           rcases bd with h|h
           ·exact D5.X (h.symm.trans e)
           ·rw[h]at e
            have h2:=zV c5;simp at e h2;omega
          clear ae hg bd aX))
       go_roundw
       case rel=>exact⟨t+1,by omega,by first|rfl|go_num,by have:=Q6.X;rw[yi,<-d_.X]at this;exact this,V6.X,I6.X,D6.X⟩
       case measure=>simp[intOf];omega
      ·have Pz:¬((t:Int)<(rl:Int)+1):=by omega
       have L6:t=rl+1:=by omega
       go_wp2;go_roundw
       case rel=>exact⟨k+1,by omega,by first|rfl|go_num,by have Q7:=Q5.X;rw[L6,yi]at Q7;rw[fF.X];exact Q7⟩
       case measure=>simp[intOf];omega
    ·have ik:¬((k:Int)<(kv:Int)):=by omega
     have cV:k=kv:=by omega
     go_wp2;go_roundw
     case rel=>exact⟨i+1,by omega,by first|rfl|go_num,by have Q3:=Q2.X;rw[cV]at Q3;rw[a8.X];exact Q3⟩
     case measure=>simp[intOf];omega
  ·have oC:¬((i:Int)<(m:Int)):=by omega
   have oI:i=m:=by omega
   subst oI;go_wp2;go_ret;exact⟨_,rfl,Q1.b,zb5 Q1.o (by omega)⟩
