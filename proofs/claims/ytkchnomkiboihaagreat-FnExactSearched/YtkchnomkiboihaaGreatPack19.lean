import Derived.Test.YtkchnomkiboihaaGreatPack8
import Derived.Test.YtkchnomkiboihaaGreatPack18
set_option linter.unusedSimpArgs false
set_option maxHeartbeats 4000000
namespace Go.Proofs.YtkchnomkiboihaaGreat
open Value renaming slice→za,int→zc
open IntKind renaming i64→zb
open Obj renaming cells→zd
open Go renaming World→zg
open Go.RowKit
open Q
theorem zG2{R:List RT}(h:R.Pairwise (fun a b=>a.v<b.v)):zg1 R:=fun j h1 h2=>by
 have h3:=(yr.1 h) (j - 1) j (by omega) h2 (by omega);simpa[zM,zO h2,zO (show j - 1<R.length by omega)]using h3
theorem y00{R:List RT}{r:RT}(h:zg1 R):zg1 (wrL R r):=by
 apply zG2;unfold wrL;have hp:=h.pw;refine xO.2 ⟨hp.sublist List.filter_sublist,xO.2 ⟨by split<;>simp,hp.sublist List.filter_sublist,fun a ha b hb=> ?_⟩,fun a ha b hb=> ?_⟩
 ·have e:a=r:=by
   by_cases e:r.ids=[]
   ·rw[zV e]at ha;cases ha
   ·rw[zW e]at ha;exact List.mem_singleton.1 ha
  rw[e];exact zX (qD.1 hb).2
 ·have h1:a.v<r.v:=zX (qD.1 ha).2
  rcases yi.1 hb with hb|hb
  ·have e:b=r:=by
    by_cases e:r.ids=[]
    ·rw[zV e]at hb;cases hb
    ·rw[zW e]at hb;exact List.mem_singleton.1 hb
   rw[e];exact h1
  ·have h2:r.v<b.v:=zX (qD.1 hb).2
   omega
theorem ya5{R S:List RT}(h:S.map RT.key=R.map RT.key)(hr:zg1 R):zg1 S:=fun j h1 h2=>by
 have hl:S.length=R.length:=by have:=congrArg List.length h;simpa using this
 rw[(zL6 h (j - 1)).1,(zL6 h j).1];exact hr j h1 (by omega)
theorem yF0{id veh:Int}{n:Nat}{s:zg2}(h:s∈sp1 id veh n):s.1=id:=by
 unfold sp1 at h;obtain⟨k,_,rfl⟩:=yy.1 h;rfl
theorem y21{R:List RT}{V:List Int}{id:Int}{s:zg2}:∀k,s∈sp2 R V id k->s.1=id
 |0,h=>by cases h
 |k+1,h=>by
  rcases yi.1 (show s∈sp2 R V id k++_ from h)with h|h
  ·exact y21 k h
  ·exact yF0 h
theorem yh9{R:List RT}{V:List Int}{kv:Nat}{L:List Int}{s:zg2}:∀i,i<=L.length->s∈sp3 R V kv L i->s.1∈L
 |0,_,h=>by cases h
 |i+1,hi,h=>by
  rcases yi.1 (show s∈sp3 R V kv L i++_ from h)with h|h
  ·exact yh9 i (by omega) h
  ·rw[y21 _ h,zM,zO (by omega)]
   simp
theorem yF6{L:List Int}{x:Int}(h:x∈L):(zn1 L x).length<L.length:=by
 unfold zn1;exact List.length_filter_lt_length_iff_exists.2 ⟨x,h,by simp⟩
theorem yp0(R:List RT)(v:Int):(R.filter (fun x=>decide (x.v<v))).length+(R.filter (fun x=>decide (v<x.v))).length<=R.length:=by
 induction R with
 |nil=>simp
 |cons x R ih=>
  rw[List.filter_cons,List.filter_cons];split<;>split<;>rename_i h2 h3
  ·have:=zX h2;have:=zX h3;omega
  ·simp only[yg];omega
  ·simp only[yg];omega
  ·simp only[yg];omega
section
variable (n fine:Int) (zs os vs:List Int) (ko kv:Nat)
theorem z01{R:List RT}{L:List Int}(h:(zy3 n fine zs os vs ko kv R L).f=true):(zD2 n fine zs os vs ko kv R L).length<L.length:=by
 have hm:=zz8 (ok:=gOk n fine zs os vs ko kv R) (dl:=gD n zs os vs ko kv R) (sp3 R vs kv L L.length);have h1:=(hm h).1;unfold zD2;rw[zV h];exact yF6 (yh9 _ (zQ _) h1)
theorem ym0{R:List RT}{L:List Int}:(zB8 n fine zs os vs ko kv R L).length<=R.length+1:=by
 unfold zB8;split
 ·generalize(oneT R (zy3 n fine zs os vs ko kv R L).s)=t
  have h1:=yp0 R t.v;have h2:(if t.ids=[]then([]:List RT)else [t]).length<=1:=by split<;>simp
  unfold wrL;rw[xU,xU];omega
 ·omega
theorem zZ2{R:List RT}{L:List Int}(h:zg1 R):zg1 (zB8 n fine zs os vs ko kv R L):=by
 unfold zB8;split
 ·exact y00 h
 ·exact h
def grd:Nat->List RT->List Int->List RT×List Int
 |0,R,L=>(R,L)
 |k+1,R,L=>if(zy3 n fine zs os vs ko kv R L).f then grd k (zB8 n fine zs os vs ko kv R L) (zD2 n fine zs os vs ko kv R L)else(R,L)
theorem z70:∀(k:Nat) {R S:List RT} (L:List Int),S.map RT.key=R.map RT.key->(grd n fine zs os vs ko kv k S L).1.map RT.key=(grd n fine zs os vs ko kv k R L).1.map RT.key/\(grd n fine zs os vs ko kv k S L).2=(grd n fine zs os vs ko kv k R L).2
 |0,_,_,_,h=>⟨h,rfl⟩
 |k+1,R,S,L,h=>by
  unfold grd;rw[zP4 h];by_cases hf:(zy3 n fine zs os vs ko kv R L).f=true
  ·rw[zV hf,zV hf]
   have e:zD2 n fine zs os vs ko kv S L=zD2 n fine zs os vs ko kv R L:=by unfold zD2;rw[zP4 h]
   rw[e];exact z70 k _ (y70 h n fine zs os vs ko kv L)
  ·rw[zW hf,zW hf]
   exact⟨h,rfl⟩
theorem yk9:∀(m k:Nat) (R:List RT) (L:List Int),L.length<=m->m<=k->grd n fine zs os vs ko kv k R L=grd n fine zs os vs ko kv m R L
 |0,0,_,_,_,_=>rfl
 |0,k+1,R,L,h,_=>by
  have hf:¬(zy3 n fine zs os vs ko kv R L).f=true:=fun hf=>by have:=z01 n fine zs os vs ko kv hf;omega
  show(if _ then _ else _)=_;rw[zW hf];rfl
 |m+1,k+1,R,L,h,hk=>by
  unfold grd;by_cases hf:(zy3 n fine zs os vs ko kv R L).f=true
  ·rw[zV hf,zV hf]
   have:=z01 n fine zs os vs ko kv hf;exact yk9 m k _ _ (by omega) (by omega)
  ·rw[zW hf,zW hf]
theorem yk7{R:List RT}{L:List Int}(hf:(zy3 n fine zs os vs ko kv R L).f=true):grd n fine zs os vs ko kv L.length R L=grd n fine zs os vs ko kv (zD2 n fine zs os vs ko kv R L).length (zB8 n fine zs os vs ko kv R L) (zD2 n fine zs os vs ko kv R L):=by
 have h:=z01 n fine zs os vs ko kv hf;obtain⟨k,hk⟩:∃k,L.length=k+1:=⟨L.length - 1,by omega⟩;rw[hk];show(if _ then _ else _)=_;rw[zV hf];exact yk9 n fine zs os vs ko kv _ _ _ _ (zQ _) (by omega)
theorem yl4{R:List RT}{L:List Int}(hf:(zy3 n fine zs os vs ko kv R L).f=false):grd n fine zs os vs ko kv L.length R L=(R,L):=by
 cases h:L.length with
 |zero=>rfl
 |succ k=>
  show(if _ then _ else _)=_;rw[zW (by rw[hf];simp)]
end
theorem y87:(Tryz.prog.info? 129).map (fun i=>(i.zero,i.size,i.bytes))=some (some (.agg #[zc zb 0,zc zb 0,zc zb 0]),3,24):=by kernel_rfl
structure SW(w W:zg)(cs ps:Array Value)(sl:Value)(l:List zg2):Prop where
 b:Below w.heap.size w W
 c:W.heap[w.heap.size]? =some (.cells cs 30 (0,0))
 p:W.heap[w.heap.size+1]? =some (.cells ps 33 (0,0))
 o:W.ownsRow (w.heap.size+2) 129 3 sl l.length ((spF l).map (zc zb))
theorem SW.below{w W W':zg}{cs ps:Array Value}{sl:Value}{l:List zg2}(h:SW w W cs ps sl l)(hb:Below W.heap.size W W'):SW w W' cs ps sl l:=
 ⟨h.b.trans (hb.mono h.b.size),za0 hb (za2 h.c) h.c,za0 hb (za2 h.p) h.p,zc5 h.o hb⟩
theorem SW.add{w W W':zg}{cs ps:Array Value}{sl sl':Value}{l:List zg2}{s:zg2}(h:SW w W cs ps sl l)(hg:W.grownBy W' sl.ownBlock)(ho:W'.ownsRow (w.heap.size+2) 129 3 sl' (l.length+1) ((spF l).map (zc zb)++[zc zb s.1,zc zb s.2.1,zc zb (s.2.2:Int)])):SW w W' cs ps sl' (l++[s]):=by
 refine⟨h.b.grown hg h.b.size (fun k e=>by have:=(h.o.lt k e).1;omega),zb9 hg h.c (fun e=>zm8 h.o h.c (by decide) e),zb9 hg h.p (fun e=>zm8 h.o h.p (by decide) e),?_⟩;rw[xU,yv5,xX];exact ho
theorem yh2(W:zg)(o0 o1 o2:Value)(T:TypeId)(g:Nat)(hg:W.heap.size=g):∀j u,[o0,o1,o2][j]? =some u->(W.alloc (zd #[o0,o1,o2] T)).cell? ⟨g,0+j,none⟩=some u:=by
 intro j u hu;subst hg;rw[zR _ _ _ _ _ _ (zN W (zd #[o0,o1,o2] T)),z6];simpa using hu
theorem yr5{w W:zg}{g:Nat}{q:Option Nat}{ys:List Int}(hI:za3 w (some ⟨g,0,none⟩) ys)(hg:w.grownBy W q)(hq:q≠some g):za3 W (some ⟨g,0,none⟩) ys:=fun j hj=>by
 obtain⟨b,o,e1,h1⟩:=hI j hj;simp only[xV,xZ,qb]at e1;obtain⟨rfl,rfl⟩:=e1;refine⟨_,_,rfl,?_⟩;have h2:=hg.block g (zT h1) (fun e=>hq e.symm);rw[<-h1];simp only[World.cell?];rw[h2]
set_option maxRecDepth 10000 in
theorem z95(n fine:Int)(a ao av ra la bi:Option Addr)(zl cap ko co kv cv rc ln lc c2:Nat)(vs ids:List Int)(R:List RT)(w:zg)(hV:za3 w av vs)(hlv:vs.length=kv*5)(hkv:kv<=5)(hR:za9 w ra R)(hn:R.length<=100)(hS:zg1 R)(hr:∀r∈R,r.ids.length<=12)(hI:za3 w bi ids)(hl:ids.length<=12):
 Calls Tryz.prog 120 #[.agg #[zc zb n,za a zl cap,za ao ko co,za av kv cv,zc zb fine],.agg #[za ra R.length rc,za la ln lc],za bi ids.length c2] w fun e w'=>∃sl,e=.returned sl/\Below w.heap.size w w'/\w'.ownsRow w.heap.size 129 3 sl (sp3 R vs kv ids ids.length).length ((spF (sp3 R vs kv ids ids.length)).map (zc zb)):=by
 have HV:=za4 hV;have HLV:=za4 hlv;have HR:=za4 hR;have HS:=za4 hS;have HRL:=za4 hr;have HI:=za4 hI;clear hV hlv hR hS hr hI;obtain⟨nr,HN⟩:=nmd R.length;obtain⟨m,HM⟩:=nmd ids.length;rw[HN.X]at hn⊢;rw[HM.X]at hl⊢;have Q0:Hid (SW w ((w.alloc (zd #[zc zb n,za a zl cap,za ao ko co,za av kv cv,zc zb fine] 30)).alloc (zd #[za ra nr rc,za la ln lc] 33)) #[zc zb n,za a zl cap,za ao ko co,za av kv cv,zc zb fine] #[za ra nr rc,za la ln lc] (za none 0 0) ([])):=⟨(zK _).alloc (by simp) _,xb _ _ _,y8 _ _ _,qy _ _ _ _⟩;go_enter Tryz.func120,Tryz.ntmps120
 go_wp2_with fail
 generalize(w.alloc (zd #[zc zb n,za a zl cap,za ao ko co,za av kv cv,zc zb fine] 30)).alloc (zd #[za ra nr rc,za la ln lc] 33)=W0 at*;go_loopw[7,16] (fun tl t wr=>∃i:Nat,i<=m/\t=zc zb i/\SW w wr #[zc zb n,za a zl cap,za ao ko co,za av kv cv,zc zb fine] #[za ra nr rc,za la ln lc] tl (sp3 R vs kv ids i)) (fun _ t _=>m - (intOf t).toNat)
 case atStart=>exact⟨0,yZ _,rfl,Q0.X⟩
 case round=>
  clear Q0;obtain⟨i,hi,rfl,hq⟩:=hrel;have Q1:=za4 hq;clear hq;by_cases hlt:i<m
  ·have hiI:(i:Int)<(m:Int):=by omega
   obtain⟨b1,o1,e,c1⟩:=(HI.below Q1.b) i (by rw[HM.X];exact hlt);subst e;have HNX:Hid (sp3 R vs kv ids (i+1)=sp3 R vs kv ids i++sp2 R vs (ids.getD i 0) kv):=rfl;have hs3:=zO4 HRL.X vs hkv ids i;generalize ids.getD i 0=id at*;generalize sp3 R vs kv ids i=l1 at*;obtain⟨d0,d1,d2,d3,d4⟩:=za7 Q1.c
   go_wp2_with fail
   clear c1 d0 d1 d2 d3 d4;go_loopw[7,23] (fun tl t wr=>∃k:Nat,k<=kv/\t=zc zb k/\SW w wr #[zc zb n,za a zl cap,za ao ko co,za av kv cv,zc zb fine] #[za ra nr rc,za la ln lc] tl (l1++sp2 R vs id k)) (fun _ t _=>kv - (intOf t).toNat)
   case atStart=>exact⟨0,yZ _,rfl,by show SW _ _ _ _ _ (l1++[]);rw[xY];exact Q1.X⟩
   case round=>
    clear Q1;obtain⟨k,hk,rfl,hq⟩:=hrel;have Q2:=za4 hq;clear hq;by_cases hlk:k<kv
    ·have hkI:(k:Int)<(kv:Int):=by omega
     obtain⟨bv,ov,e,v0⟩:=(HV.below Q2.b) (k*5) (by rw[HLV.X];omega);obtain⟨bv',ov',e',v1⟩:=(HV.below Q2.b) (k*5+1) (by rw[HLV.X];omega);rw[e]at e';simp only[xV,xZ,qb]at e';obtain⟨rfl,rfl⟩:=e';obtain⟨bv',ov',e',v2⟩:=(HV.below Q2.b) (k*5+2) (by rw[HLV.X];omega);rw[e]at e';simp only[xV,xZ,qb]at e';obtain⟨rfl,rfl⟩:=e';obtain⟨bv',ov',e',v3⟩:=(HV.below Q2.b) (k*5+3) (by rw[HLV.X];omega);rw[e]at e';simp only[xV,xZ,qb]at e';obtain⟨rfl,rfl⟩:=e';obtain⟨bv',ov',e',v4⟩:=(HV.below Q2.b) (k*5+4) (by rw[HLV.X];omega);rw[e]at e';simp only[xV,xZ,qb]at e';obtain⟨rfl,rfl⟩:=e';subst e;have HN2:Hid (sp2 R vs id (k+1)=sp2 R vs id k++sp1 id (vs.getD (k*5) 0) ((zc6 R (vs.getD (k*5) 0)).ids.length+1)):=rfl;have hs2:=yc2 HRL.X vs id k;have hrl:=z50 HRL.X (vs.getD (k*5) 0);simp only[<-yx]at v1 v2 v3 v4;generalize vs.getD (k*5) 0=x0 at*;generalize vs.getD (k*5+1) 0=x1 at*;generalize vs.getD (k*5+2) 0=x2 at*;generalize vs.getD (k*5+3) 0=x3 at*;generalize vs.getD (k*5+4) 0=x4 at*;generalize sp2 R vs id k=l2 at*;obtain⟨q0,q1⟩:=za1 Q2.p;have QB:Hid (SW w (wr.alloc (zd #[zc zb x0,zc zb x1,zc zb x2,zc zb x3,zc zb x4] 107)) #[zc zb n,za a zl cap,za ao ko co,za (some ⟨bv,ov,none⟩) kv cv,zc zb fine] #[za ra nr rc,za la ln lc] u7 (l1++l2)):=Q2.below (zK _);have VB:Hid ((wr.alloc (zd #[zc zb x0,zc zb x1,zc zb x2,zc zb x3,zc zb x4] 107)).heap[wr.heap.size]? =some (zd #[zc zb x0,zc zb x1,zc zb x2,zc zb x3,zc zb x4] 107 (0,0))):=zN _ _;have RO:=zn8 ra la rc ln lc R x0 (wr.alloc (zd #[zc zb x0,zc zb x1,zc zb x2,zc zb x3,zc zb x4] 107)) (HR.below QB.b) (by rw[HN.X];omega) HS.X;rw[HN.X]at RO;obtain⟨rt,HRT⟩:=nmd (zc6 R x0);rw[HRT.X]at RO HN2 hrl;obtain⟨rv,rra,rids,rcc⟩:=rt;simp only at RO HN2 hrl;obtain⟨rl,HRLn⟩:=nmd rids.length;rw[HRLn.X]at RO HN2 hrl;obtain⟨z0,z1,z2,z3,z4⟩:=za7 VB.X;obtain⟨y0,y1⟩:=za1 QB.p
     go_wp2_with fail
     refine RO.mono ?_;rintro e w2 ⟨rfl,hb⟩;have Q3:=za4 (QB.below hb);have V3:=za4 (za0 hb (za2 VB.X) VB.X);clear hb RO;have PF:=zO1 x0 rra rcc rl w2 hrl
     go_wp2_with fail
     refine PF.mono ?_;rintro e w3 ⟨pg,pc,rfl,hb,hi3,hpg⟩;have Q4:=za4 (Q3.below hb);have V4:=za4 (za0 hb (za2 V3.X) V3.X);have I4:=za4 hi3;obtain⟨vb,HVB⟩:=nmd wr.heap.size;rw[HVB.X]at V4⊢;have D4:Hid (u7.ownBlock≠some pg):=fun e=>by have:=(Q3.o.lt _ e).2;omega
     clear hb hi3 hpg PF Q2 QB Q3 V3 VB z0 z1 z2 z3 z4 y0 y1 q0 q1 v0 v1 v2 v3 v4
     go_wp2_with fail
     go_loopw[7,33] (fun tl tt wr=>∃t:Nat,t<=rl+1/\tt=zc zb t/\SW w wr #[zc zb n,za a zl cap,za ao ko co,za (some ⟨bv,ov,none⟩) kv cv,zc zb fine] #[za ra nr rc,za la ln lc] tl ((l1++l2)++sp1 id x0 t)/\wr.heap[vb]? =some (zd #[zc zb x0,zc zb x1,zc zb x2,zc zb x3,zc zb x4] 107 (0,0))/\za3 wr (some ⟨pg,0,none⟩) (yh6 (rl+1))/\tl.ownBlock≠some pg) (fun _ t _=>rl+1 - (intOf t).toNat)
     case atStart=>exact⟨0,yZ _,rfl,by show SW _ _ _ _ _ ((l1++l2)++[]);rw[xY];exact Q4.X,V4.X,I4.X,D4.X⟩
     case round=>
      clear Q4 V4 I4 D4;obtain⟨t,ht,rfl,hq,hv,hi5,hd5⟩:=hrel;have Q5:=za4 hq;have V5:=za4 hv;have I5:=za4 hi5;have D5:=za4 hd5;clear hq hv hi5 hd5;by_cases htl:t<rl+1
      ·have htI:(t:Int)<(rl:Int)+1:=by omega
       obtain⟨b5,o5,e,c5⟩:=I5.X t (by rw[yc6];exact htl);simp only[xV,xZ,qb]at e;obtain⟨rfl,rfl⟩:=e;rw[yB7 htl,z6]at c5;obtain⟨z0,z1,z2,z3,z4⟩:=za7 V5.X;have hl9:((l1++l2)++sp1 id x0 t).length<=1000:=by rw[xU,xU,y24];omega
       have HS1:Hid (sp1 id x0 (t+1)=sp1 id x0 t++[(id,x0,t)]):=zR9 id x0 t;generalize sp1 id x0 t=l3 at*;have QA:Hid (SW w (wr.alloc (zd #[zc zb id,zc zb x0,zc zb (t:Int)] 129)) #[zc zb n,za a zl cap,za ao ko co,za (some ⟨bv,ov,none⟩) kv cv,zc zb fine] #[za ra nr rc,za la ln lc] u7 ((l1++l2)++l3)):=Q5.below (zK _);have HLE:Hid (w.heap.size+2<=wr.heap.size):=za2 Q5.p
       go_wp2_with(first
        |(at_builtin
          go_must(refine zl3 Tryz.underlying165 y87 rfl (by omega) _ rfl _ _ rfl (w.heap.size+2) u7 ((l1++l2)++l3).length _ rfl QA.o wr.heap.size 0 1 1 [zc zb id,zc zb x0,zc zb (t:Int)] rfl rfl (yh2 _ _ _ _ _ _ rfl) (by simp[Value.oneCell']) (by omega) (by omega) (y7 HLE.X (by simp)) ?_)
          intro v' w4 hown hg hbk hnl;have Q6:Hid (SW w w4 #[zc zb n,za a zl cap,za ao ko co,za (some ⟨bv,ov,none⟩) kv cv,zc zb fine] #[za ra nr rc,za la ln lc] v' (((l1++l2)++l3)++[(id,x0,t)])):=QA.add (s:=(id,x0,t)) hg hown;have V6:Hid (w4.heap[vb]? =some (zd #[zc zb x0,zc zb x1,zc zb x2,zc zb x3,zc zb x4] 107 (0,0))):=zb9 hg ((yY _ _ (za2 V5.X)).trans V5.X) (fun e=>zm8 QA.o ((yY _ _ (za2 V5.X)).trans V5.X) (by decide) e);have I6:Hid (za3 w4 (some ⟨pg,0,none⟩) (yh6 (rl+1))):=yr5 (I5.below (zK _)) hg D5.X;have D6:Hid (v'.ownBlock≠some pg):=fun e=>by
           rcases hbk with h|h
           ·exact D5.X (h.symm.trans e)
           ·rw[h]at e
            have h2:=zT c5;simp at e h2;omega
          clear hown hg hbk hnl))
       go_roundw
       case rel=>exact⟨t+1,by omega,by first|rfl|go_num,by have:=Q6.X;rw[z7,<-HS1.X]at this;exact this,V6.X,I6.X,D6.X⟩
       case measure=>simp[intOf];omega
      ·have htI:¬((t:Int)<(rl:Int)+1):=by omega
       have hte:t=rl+1:=by omega
       go_wp2;go_roundw
       case rel=>exact⟨k+1,by omega,by first|rfl|go_num,by have Q7:=Q5.X;rw[hte,z7]at Q7;rw[HN2.X];exact Q7⟩
       case measure=>simp[intOf];omega
    ·have hkI:¬((k:Int)<(kv:Int)):=by omega
     have hke:k=kv:=by omega
     go_wp2;go_roundw
     case rel=>exact⟨i+1,by omega,by first|rfl|go_num,by have Q3:=Q2.X;rw[hke]at Q3;rw[HNX.X];exact Q3⟩
     case measure=>simp[intOf];omega
  ·have hiI:¬((i:Int)<(m:Int)):=by omega
   have hie:i=m:=by omega
   subst hie;go_wp2;go_ret;exact⟨_,rfl,Q1.b,zc4 Q1.o (by omega)⟩
